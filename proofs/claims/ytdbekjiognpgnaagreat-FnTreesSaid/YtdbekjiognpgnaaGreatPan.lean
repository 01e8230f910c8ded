/- Part 14. -/
import Derived.Test.YtdbekjiognpgnaaGreatPal
import Derived.Lib.QuietBelow
set_option maxHeartbeats 16000000
set_option maxRecDepth 100000
set_option linter.unusedVariables false
namespace Go.Proofs.YtdbekjiognpgnaaGreat
theorem z8n{α:Type}{P:List α->Prop}(nil:P [])(append_singleton:∀(l:List α) (n:α),P l->P (l++[n])):∀ l,P l:=fun l=>by
 have h:∀ r:List α,P r.reverse:=fun r=>by
  induction r with
  | nil=>exact nil
  | cons a r ih=>rw[List.reverse_cons];exact append_singleton _ _ ih
 rw[←List.reverse_reverse l];exact h _
def z8o(n:z4Q):List Int:=(z5V n).map Prod.fst
def sumZ(f:Int->Nat)(l:List Int):Nat:=(l.map f).sum
def szA(ws:List Nat)(x:Int):Nat:=ws.getD x.toNat 0
def szL(ns:List z4Q):List Nat:=ns.foldl (fun ws n=>ws++[1+sumZ (szA ws) (z8o n)]) []
def sz(ns:List z4Q)(x:Int):Nat:=szA (szL ns) x
theorem z8p(ns:List z4Q)(n:z4Q):szL (ns++[n])=szL ns++[1+sumZ (sz ns) (z8o n)]:=by
 unfold szL;rw[List.foldl_append];rfl
theorem z8q:∀ ns:List z4Q,(szL ns).length=ns.length:=by
 intro ns;induction ns using z8n with
 | nil=>rfl
 | append_singleton l n ih=>rw[z8p,List.length_append,List.length_append,ih];rfl
theorem z8r{ns:List z4Q}{n:z4Q}{x:Int}(h:x.toNat<ns.length):sz (ns++[n]) x=sz ns x:=by
 unfold sz szA;rw[z8p,List.getD_eq_getElem?_getD,List.getElem?_append_left (by rw[z8q];exact h),List.getD_eq_getElem?_getD]
theorem z8s(ns:List z4Q)(n:z4Q):sz (ns++[n]) (ns.length:Int)=1+sumZ (sz ns) (z8o n):=by
 unfold sz szA;rw[z8p,List.getD_eq_getElem?_getD,List.getElem?_append_right (by rw[z8q];simp),z8q]
 simp;rfl
theorem z8t{f g:Int->Nat}{l:List Int}(h:∀ x∈l,f x=g x):sumZ f l=sumZ g l:=by
 unfold sumZ;rw[List.map_congr_left h]
theorem z8u(f:Int->Nat)(a b:List Int):sumZ f (a++b)=sumZ f a+sumZ f b:=by
 unfold sumZ;rw[List.map_append,List.sum_append]
def z8v(ns:List z4Q):Prop:=∀(j:Nat) (n:z4Q),ns[j]?=some n->∀ x∈z8o n,0<=x/\x<j
theorem z8v.init{ns:List z4Q}{n:z4Q}(h:z8v (ns++[n])):z8v ns:=fun j m hj=>h j m (by rw[List.getElem?_append_left (List.getElem?_eq_some_iff.1 hj).1];exact hj)
theorem z8v.last{ns:List z4Q}{n:z4Q}(h:z8v (ns++[n])):∀ x∈z8o n,0<=x/\x<ns.length:=h ns.length n (by rw[List.getElem?_append_right (yf9 _)];simp)
theorem sz_eq:∀ ns:List z4Q,z8v ns->∀(j:Nat) (n:z4Q),ns[j]?=some n->sz ns (j:Int)=1+sumZ (sz ns) (z8o n):=by
 intro ns;induction ns using z8n with
 | nil=>intro _ j n hj;simp at hj
 | append_singleton l m ih=>
  intro hE j n hj;rcases Nat.lt_or_ge j l.length with k|k
  ·rw[List.getElem?_append_left k]at hj;rw[z8r (by simpa using k),ih hE.init j n hj]
   congr 1
   exact z8t fun x hx=>(z8r (by have:=hE.init j n hj x hx;omega)).symm
  ·have hjl:j<(l++[m]).length:=(List.getElem?_eq_some_iff.1 hj).1;have e:j=l.length:=by rw[List.length_append]at hjl;simp at hjl;omega
   subst e;rw[List.getElem?_append_right (yf9 _)]at hj;simp at hj;subst hj;rw[z8s];congr 1
   exact z8t fun x hx=>(z8r (by have:=hE.last x hx;omega)).symm
theorem z8w{f:Int->Nat}{x:Int}:∀{l:List Int},x∈l->sumZ f l=f x+sumZ f (l.erase x)
 | [],h=>by cases h
 | y::l,h=>by
  rcases Decidable.em (y=x)with e|e
  ·subst e;rw[List.erase_cons_head];rfl
  ·rw[List.erase_cons_tail (by simpa using e)]
   have hx:x∈l:=by
    rcases List.mem_cons.1 h with k|k
    ·exact absurd k.symm e
    ·exact k
   have:=z8w (f:=f) hx;show f y+sumZ f l=f x+(f y+sumZ f (l.erase x));omega
theorem z8x:∀(ns:List z4Q) (xs:List Int),z8v ns->(∀ i:Nat,i<ns.length->(z5Z ns).count (i:Int)+xs.count (i:Int)=1)->(∀ x∈xs,0<=x/\x<ns.length)->sumZ (sz ns) xs=ns.length:=by
 intro ns;induction ns using z8n with
 | nil=>
  intro xs _ _ h;cases xs with
  | nil=>rfl
  | cons x r=>have:=h x (by simp);simp at this;omega
 | append_singleton l n ih=>
  intro xs hE h1 h2;have eu:z5Z (l++[n])=z5Z l++z8o n:=by
   unfold z5Z z8o;rw[List.flatMap_append];simp
  have ul:∀ x∈z5Z l,0<=x/\x<l.length:=fun x hx=>by
   unfold z5Z at hx;obtain⟨m,hm,hx⟩:=List.mem_flatMap.1 hx;obtain⟨j,hj⟩:=List.mem_iff_getElem?.1 hm;have:=hE.init j m hj x hx;have hl:j<l.length:=(List.getElem?_eq_some_iff.1 hj).1;omega
  have kl:=hE.last;have c0:xs.count (l.length:Int)=1:=by
   have:=h1 l.length (by simp)
   rw[eu,List.count_append,List.count_eq_zero.2 (fun hx=>by have:=ul _ hx;omega),List.count_eq_zero.2 (fun hx=>by have:=kl _ hx;omega)]at this
   omega
  have hm:(l.length:Int)∈xs:=List.count_pos_iff.1 (by omega)
  rw[z8w hm,z8s];have hr:∀ x∈xs.erase (l.length:Int),0<=x/\x<l.length:=fun x hx=>by
   have a:=h2 x (List.mem_of_mem_erase hx);rw[List.length_append]at a;simp at a;rcases Decidable.em (x=(l.length:Int))with e|e
   ·subst e;have:0<(xs.erase (l.length:Int)).count (l.length:Int):=List.count_pos_iff.2 hx;rw[List.count_erase_self]at this;omega
   ·omega
  have e1:sumZ (sz (l++[n])) (xs.erase (l.length:Int))=sumZ (sz l) (xs.erase (l.length:Int)):=z8t fun x hx=>z8r (by have:=hr x hx;omega)
  have e2:=ih (xs.erase (l.length:Int)++z8o n) hE.init (fun i hi=>by
   have:=h1 i (by simp;omega)
   rw[eu,List.count_append]at this;rw[List.count_append,List.count_erase_of_ne (by intro e;omega)]
   omega) (fun x hx=>by
    rcases List.mem_append.1 hx with k|k
    ·exact hr x k
    ·exact kl x k)
  rw[z8u]at e2;rw[e1,List.length_append];simp;omega
theorem z88.early{ns:List z4Q}(h:z88 ns):z8v ns:=fun j n hj x hx=>by
 obtain⟨p,hp,rfl⟩:=List.mem_map.1 hx;have:=h.seg.parts j n hj p hp;exact⟨this.1,this.2.1⟩
theorem z88.all{ns:List z4Q}(h:z88 ns):sz ns ((ns.length:Int)-1)=ns.length:=by
 have:=z8x ns _ h.early h.seg.once h.seg.roots;simpa [sumZ] using this
theorem z88.sz_eq{ns:List z4Q}(h:z88 ns){j:Nat}{n:z4Q}(hj:ns[j]?=some n):sz ns (j:Int)=1+sumZ (sz ns) (z8o n):=Proofs.YtdbekjiognpgnaaGreat.sz_eq ns h.early j n hj
end Go.Proofs.YtdbekjiognpgnaaGreat
namespace Go.Proofs.YtdbekjiognpgnaaGreat
open Go.RowKit
theorem Tryz.infoNode9:(Tryz.prog.info? 34).map (fun i=>(i.zero,i.size,i.bytes))=some (some (.agg #[.int .i64 0,.int .i64 0,.int .i64 0,.int .i64 0,.slice none 0 0,.slice none 0 0,.int .u64 0,.int .i64 0]),8,96):=by kernel_rfl
theorem z8y{P:Program}{t:TypeId}{z:Value}{n b:Nat}(h:(P.info? t).map (fun i=>(i.zero,i.size,i.bytes))=some (some z,n,b)):∃ i,P.info? t=some i/\i.zero=some z/\i.size=n/\i.bytes=b:=by
 cases hi:P.info? t with
 | none=>rw[hi]at h;cases h
 | some i=>
  rw[hi]at h;simp only[Option.map_some,Option.some.injEq,Prod.mk.injEq]at h;exact⟨i,rfl,h.1,h.2.1,h.2.2⟩
theorem z8z{w:World}{H:Nat}{e:TypeId}{size g n c:Nat}{xs:List Value}(h:w.ownsRow H e size (.slice (some ⟨g,0,none⟩) n c) n xs)(j:Nat)(hj:j<n*size):(∃ u,w.cell? ⟨g,j,none⟩=some u)/\w.frozen? ⟨g,j,none⟩=false:=by
 refine⟨⟨_,(h.cellAt j hj).trans (yd9 (by rw[h.1];exact hj))⟩,h.frozenAt j⟩
theorem z8A{w:World}{B:Nat}{e:TypeId}{size:Nat}{v:Value}{n:Nat}{xs:List Value}(h:w.ownsRow B e size v n xs):∃ x c,v=.slice x n c:=by
 obtain⟨_,⟨rfl,rfl⟩|⟨g,cap,cur,rfl,_⟩⟩:=h
 ·exact⟨_,_,rfl⟩
 ·exact⟨_,_,rfl⟩
theorem z8B{w w':World}{B:Nat}{e:TypeId}{size:Nat}{v:Value}{n:Nat}{xs:List Value}(h:w.ownsRow B e size v n xs)(hb:Below w.heap.size w w'):w'.ownsRow B e size v n xs:=
 h.kept (row:=none) ⟨hb.os,hb.tape,hb.output,hb.size,fun k hk _=>hb.block k hk⟩ (by cases h2:v.ownBlock<;>simp)
theorem z8C{w:World}{g:Nat}{a0 a1 a2 a3 a4 a5 a6 a7:Value}{t:TypeId}{r:Nat × Nat}(h:w.heap[g]?=some (.cells #[a0,a1,a2,a3,a4,a5,a6,a7] t r)):
  w.cell? ⟨g,0,none⟩=some a0/\w.cell? ⟨g,1,none⟩=some a1/\w.cell? ⟨g,2,none⟩=some a2/\w.cell? ⟨g,3,none⟩=some a3/\w.cell? ⟨g,4,none⟩=some a4/\w.cell? ⟨g,5,none⟩=some a5/\w.cell? ⟨g,6,none⟩=some a6/\w.cell? ⟨g,7,none⟩=some a7:=by
 refine⟨?_,?_,?_,?_,?_,?_,?_,?_⟩<;>(rw[cell_of_row _ _ _ _ _ _ h];rfl)
theorem z8D(w:World)(o1 o2 o3:Obj):(((w.alloc o1).alloc o2).alloc o3).heap[w.heap.size]?=some o1/\(((w.alloc o1).alloc o2).alloc o3).heap[w.heap.size+1]?=some o2/\(((w.alloc o1).alloc o2).alloc o3).heap[w.heap.size+2]?=some o3/\(((w.alloc o1).alloc o2).alloc o3).heap.size=w.heap.size+3/\Below w.heap.size w (((w.alloc o1).alloc o2).alloc o3):=by
 have z1:(w.alloc o1).heap.size=w.heap.size+1:=by simp
 have z2:((w.alloc o1).alloc o2).heap.size=w.heap.size+2:=by simp
 refine⟨?_,?_,?_,by simp,(((yg9 _ _).alloc (yf9 _) _).alloc (by simp) _).alloc (by simp;omega) _⟩
 ·rw[heap_alloc_old (r:=w.heap.size) _ _ (by omega),heap_alloc_old (r:=w.heap.size) _ _ (by omega)]
  exact heap_alloc_new _ _
 ·rw[heap_alloc_old (r:=w.heap.size+1) _ _ (by omega),←z1]
  exact heap_alloc_new _ _
 ·rw[←z2];exact heap_alloc_new _ _
theorem z8E{w:World}{B B':Nat}{e:TypeId}{size:Nat}{v:Value}{n:Nat}{xs:List Value}(h:w.ownsRow B e size v n xs)(hb:B'<=B):w.ownsRow B' e size v n xs:=by
 obtain⟨e1,e2⟩:=h;refine⟨e1,e2.imp id ?_⟩;rintro ⟨g,cap,cur,h1,h2,h3⟩;exact⟨g,cap,cur,h1,yi9 hb h2,h3⟩
def z8F(w:World)(B:Nat)(xs:List Value)(q:Nat)(p:z4Q):Prop:=∃ lv nv,(∀ c u,(z4R p lv nv)[c]?=some u->xs[q*8+c]?=some u)/\w.ownsRow B 3 1 lv p.list.length (p.list.map (Value.int .i64))/\w.ownsRow B 9 1 nv p.names.length (p.names.map Value.string)
def z8G(w:World)(B:Nat)(v:Value)(ns:List z4Q):Prop:=∃ xs,w.ownsRow B 34 8 v ns.length xs/\∀ q p,ns[q]?=some p->z8F w B xs q p
theorem z8F.below{w w':World}{B:Nat}{xs:List Value}{q:Nat}{p:z4Q}(h:z8F w B xs q p)(hb:Below w.heap.size w w'):z8F w' B xs q p:=by
 obtain⟨lv,nv,h1,h2,h3⟩:=h;exact⟨lv,nv,h1,z8B h2 hb,z8B h3 hb⟩
theorem z8G.below{w w':World}{B:Nat}{v:Value}{ns:List z4Q}(h:z8G w B v ns)(hb:Below w.heap.size w w'):z8G w' B v ns:=by
 obtain⟨xs,h1,h2⟩:=h;exact⟨xs,z8B h1 hb,fun q p hq=>(h2 q p hq).below hb⟩
end Go.Proofs.YtdbekjiognpgnaaGreat
namespace Go.Proofs.YtdbekjiognpgnaaGreat
open Go.RowKit Go.Sort
theorem z8H{w:World}{B:Nat}{e:TypeId}{size:Nat}{v:Value}{n:Nat}{xs:List Value}(h:w.ownsRow B e size v n xs):
  ∃ x c,v=.slice x n c/\n<=maxLen/\xs.length=n*size/\(0<n->∃ g,x=some ⟨g,0,none⟩/\g<w.heap.size/\∀ j u,xs[j]?=some u->w.cell? ⟨g,j,none⟩=some u):=by
 have hcs:=fun g hg=>h.cells (g:=g) hg;have hlt:=h.lt;obtain⟨hlen,⟨rfl,rfl⟩|⟨g,cap,cur,rfl,hb,hg,hnc,hc,hsz,htk⟩⟩:=h
 ·exact⟨none,0,rfl,yj9 _,hlen,fun h=>by omega⟩
 ·refine⟨_,_,rfl,yi9 hnc hc,hlen,fun _=>⟨g,rfl,(hlt g rfl).2,fun j u hj=>?_⟩⟩;have hp:(⟨g,0,none⟩:Addr).add j=⟨g,j,none⟩:=by unfold Addr.add;split<;>simp_all
  rw[←hp];exact hcs g rfl j u hj
theorem z8I(w:World)(o1 o2:Obj):((w.alloc o1).alloc o2).heap[w.heap.size]?=some o1/\((w.alloc o1).alloc o2).heap[w.heap.size+1]?=some o2/\((w.alloc o1).alloc o2).heap.size=w.heap.size+2/\Below w.heap.size w ((w.alloc o1).alloc o2):=by
 have z1:(w.alloc o1).heap.size=w.heap.size+1:=by simp
 refine⟨?_,?_,by simp,((yg9 _ _).alloc (yf9 _) _).alloc (by simp) _⟩
 ·rw[heap_alloc_old (r:=w.heap.size) _ _ (by omega)]
  exact heap_alloc_new _ _
 ·rw[←z1];exact heap_alloc_new _ _
structure z8J(w:World)(B g o:Nat)(p:z4Q)(lv nv:Value):Prop where
 list:w.ownsRow B 3 1 lv p.list.length (p.list.map (Value.int .i64))
 names:w.ownsRow B 9 1 nv p.names.length (p.names.map Value.string)
 c0:w.cell? ⟨g,o,none⟩=some (.int .i64 p.kind)
 c1:w.cell? ⟨g,o+1,none⟩=some (.int .i64 p.a)
 c2:w.cell? ⟨g,o+2,none⟩=some (.int .i64 p.b)
 c3:w.cell? ⟨g,o+3,none⟩=some (.int .i64 p.c)
 c4:w.cell? ⟨g,o+4,none⟩=some lv
 c5:w.cell? ⟨g,o+5,none⟩=some nv
 c6:w.cell? ⟨g,o+6,none⟩=some (.int .u64 (p.num:Int))
 c7:w.cell? ⟨g,o+7,none⟩=some (.int .i64 p.pos)
theorem z8J.below{w w':World}{B g o:Nat}{p:z4Q}{lv nv:Value}(h:z8J w B g o p lv nv)(hb:Below w.heap.size w w'):z8J w' B g o p lv nv:=by
 have hlt:g<w.heap.size:=World.block_lt_of_cell? w _ h.c0;have k:∀ j u,w.cell? ⟨g,j,none⟩=some u->w'.cell? ⟨g,j,none⟩=some u:=fun j u hu=>(hb.cell (p:=⟨g,j,none⟩) hlt).trans hu;exact⟨z8B h.list hb,z8B h.names hb,k _ _ h.c0,k _ _ h.c1,k _ _ h.c2,k _ _ h.c3,k _ _ h.c4,k _ _ h.c5,k _ _ h.c6,k _ _ h.c7⟩
theorem z8G.opened{w:World}{B:Nat}{v:Value}{ns:List z4Q}(h:z8G w B v ns):∃ x c,v=.slice x ns.length c/\ns.length<=maxLen/\(0<ns.length->∃ g,x=some ⟨g,0,none⟩/\∀ q p,ns[q]?=some p->∃ lv nv,z8J w B g (q*8) p lv nv):=by
 obtain⟨xs,h1,h2⟩:=h;obtain⟨x,c,e,hm,hl,hc⟩:=z8H h1;refine⟨x,c,e,hm,fun h0=>?_⟩;obtain⟨g,e1,_,hcell⟩:=hc h0;refine⟨g,e1,fun q p hq=>?_⟩;obtain⟨lv,nv,k1,k2,k3⟩:=h2 q p hq;have k:∀ c u,(z4R p lv nv)[c]?=some u->w.cell? ⟨g,q*8+c,none⟩=some u:=fun c u hu=>hcell _ _ (k1 c u hu);exact⟨lv,nv,k2,k3,k 0 _ rfl,k 1 _ rfl,k 2 _ rfl,k 3 _ rfl,k 4 _ rfl,k 5 _ rfl,k 6 _ rfl,k 7 _ rfl⟩
end Go.Proofs.YtdbekjiognpgnaaGreat
namespace Go.Proofs.YtdbekjiognpgnaaGreat
open Go.RowKit
def tokC(x:Tok × Nat):List Value:=[.int .i64 x.1.kind,.string (txt x.1.text),.int .u64 (x.1.num:Int),.int .i64 (x.2:Int)]
def z8K:List (Tok × Nat)->List Value
 | []=>[]
 | x::l=>tokC x++z8K l
theorem z8L:∀(l:List (Tok × Nat)) (x:Tok × Nat),z8K (l++[x])=z8K l++tokC x
 | [],x=>by simp[z8K]
 | y::l,x=>by rw[List.cons_append,z8K,z8L l x,z8K,List.append_assoc]
theorem z8M:∀(l:List (Tok × Nat)) (i:Nat) (h:i<l.length) (k:Nat),k<4->(z8K l)[i*4+k]?=(tokC l[i])[k]?
 | x::l,0,_,k,hk=>by
  rw[z8K,List.getElem?_append_left (by show 0*4+k<4;omega)]
  simp
 | x::l,i+1,h,k,hk=>by
  have e:(i+1)*4+k=4+(i*4+k):=by omega
  rw[z8K,e,List.getElem?_append_right (by show 4<=_;omega)]
  have e2:4+(i*4+k)-(tokC x).length=i*4+k:=by show 4+(i*4+k)-4=_;omega
  rw[e2];exact z8M l i (by simpa using h) k hk
theorem z8N{w w':World}{B:Nat}{e:TypeId}{size:Nat}{v:Value}{n:Nat}{xs:List Value}(h:w.ownsRow B e size v n xs)(hb:Below w.heap.size w w'):w'.ownsRow B e size v n xs:=
 h.kept (row:=none) ⟨hb.os,hb.tape,hb.output,hb.size,fun k hk _=>hb.block k hk⟩ (by cases h2:v.ownBlock<;>simp)
theorem z8O{w:World}{B B':Nat}{e:TypeId}{size:Nat}{v:Value}{n:Nat}{xs:List Value}(h:w.ownsRow B e size v n xs)(hB:B'<=B):w.ownsRow B' e size v n xs:=by
 obtain⟨h1,h2⟩:=h;refine⟨h1,?_⟩;rcases h2 with h2|⟨g,cap,cur,a,b,c,d⟩
 ·exact .inl h2
 ·exact .inr ⟨g,cap,cur,a,by omega,c,d⟩
theorem z8P{w:World}{B:Nat}{e:TypeId}{size:Nat}{v:Value}{n:Nat}{xs:List Value}(h:w.ownsRow B e size v n xs):∃ x c,v=.slice x n c:=by
 obtain⟨_,⟨rfl,rfl⟩|⟨g,cap,cur,rfl,_⟩⟩:=h
 ·exact⟨none,0,rfl⟩
 ·exact⟨_,_,rfl⟩
theorem z8Q(w:World)(a b c d:Value)(t:TypeId):∀ j u,[a,b,c,d][j]?=some u->(w.alloc (.cells #[a,b,c,d] t)).cell? ((⟨w.heap.size,0,none⟩:Addr).add j)=some u:=by
 intro j u hj;match j,hj with
 | 0,hj=>simp at hj;subst hj;simp[Addr.add]
 | 1,hj=>simp at hj;subst hj;simp[Addr.add]
 | 2,hj=>simp at hj;subst hj;simp[Addr.add]
 | 3,hj=>simp at hj;subst hj;simp[Addr.add]
 | j+4,hj=>simp at hj
theorem z8R:(Tryz.prog.info? 117).map (fun i=>(i.zero,i.size,i.bytes))=some (some (.agg #[.int .i64 0,.string ⟨#[]⟩,.int .u64 0,.int .i64 0]),4,40):=by kernel_rfl
end Go.Proofs.YtdbekjiognpgnaaGreat
namespace Go.Proofs.YtdbekjiognpgnaaGreat
open Go.RowKit Go.Sort
structure z8S(w:World)(g o:Nat)(t:Tok × Nat):Prop where
 c0:w.cell? ⟨g,o,none⟩=some (.int .i64 t.1.kind)
 c1:w.cell? ⟨g,o+1,none⟩=some (.string (txt t.1.text))
 c2:w.cell? ⟨g,o+2,none⟩=some (.int .u64 (t.1.num:Int))
 c3:w.cell? ⟨g,o+3,none⟩=some (.int .i64 (t.2:Int))
def z8T(w:World)(B:Nat)(A:Nat->Prop)(xs:List Value)(q:Nat)(p:z4Q):Prop:=∃ lv nv,(∀ c u,(z4R p lv nv)[c]?=some u->xs[q*8+c]?=some u)/\w.ownsRow B 3 1 lv p.list.length (p.list.map (Value.int .i64))/\w.ownsRow B 9 1 nv p.names.length (p.names.map Value.string)/\(∀ g,lv.ownBlock=some g->¬ A g)/\∀ g,nv.ownBlock=some g->¬ A g
def z8U(w:World)(B:Nat)(A:Nat->Prop)(v:Value)(ns:List z4Q):Prop:=∃ xs,w.ownsRow B 34 8 v ns.length xs/\∀ q p,ns[q]?=some p->z8T w B A xs q p
theorem z8U.below{w w':World}{B:Nat}{A:Nat->Prop}{v:Value}{ns:List z4Q}(h:z8U w B A v ns)(hb:Below w.heap.size w w'):z8U w' B A v ns:=by
 obtain⟨xs,h1,h2⟩:=h;refine⟨xs,z8B h1 hb,fun q p hq=>?_⟩;obtain⟨lv,nv,k1,k2,k3,k4⟩:=h2 q p hq;exact⟨lv,nv,k1,z8B k2 hb,z8B k3 hb,k4⟩
theorem z8U.plain{w:World}{B:Nat}{A:Nat->Prop}{v:Value}{ns:List z4Q}(h:z8U w B A v ns):z8G w B v ns:=by
 obtain⟨xs,h1,h2⟩:=h;refine⟨xs,h1,fun q p hq=>?_⟩;obtain⟨lv,nv,k1,k2,k3,k4⟩:=h2 q p hq;exact⟨lv,nv,k1,k2,k3⟩
structure z8V(Q:PIn)(c H:Nat)(A:Nat->Prop)(tk tv:Value)(s:PS)(w:World):Prop where
 blk:w.heap[c]?=some (.cells #[tk,.int .i64 (s.i:Int),.int .i64 (Q.e:Int),tv,.int .i64 (s.depth:Int),.int .i64 s.fault] 64)
 toks:∃ x cap,tk=.slice x Q.T.length cap/\(0<Q.T.length->∃ g,x=some ⟨g,0,none⟩/\g<H/\g≠c/\∀ i t,Q.T[i]?=some t->z8S w g (i*4) t)
 tree:z8U w H A tv s.tree
 early:∀ g,A g->g<w.heap.size
 ch:c<H
 hw:H<=w.heap.size
 few:Q.T.length<=200
 i:s.i<=Q.T.length
 depth:s.depth<=25
theorem z8S.kept{w w':World}{g o:Nat}{t:Tok × Nat}(h:z8S w g o t)(k:w'.heap[g]?=w.heap[g]?):z8S w' g o t:=by
 have e:∀ j,w'.cell? ⟨g,j,none⟩=w.cell? ⟨g,j,none⟩:=fun j=>World.cell?_of_block (a:=⟨g,j,none⟩) k;exact⟨(e _).trans h.c0,(e _).trans h.c1,(e _).trans h.c2,(e _).trans h.c3⟩
theorem z8S.lt{w:World}{g o:Nat}{t:Tok × Nat}(h:z8S w g o t):g<w.heap.size:=World.block_lt_of_cell? w _ h.c0
theorem z8V.below{Q:PIn}{c H:Nat}{A:Nat->Prop}{tk tv:Value}{s:PS}{w w':World}(h:z8V Q c H A tk tv s w)(hb:Below w.heap.size w w'):z8V Q c H A tk tv s w':=by
 have hc:=h.ch;have hw:=h.hw;refine⟨(hb.block c (by omega)).trans h.blk,?_,h.tree.below hb,fun g hg=>Nat.lt_of_lt_of_le (h.early g hg) hb.size,h.ch,yi9 h.hw hb.size,h.few,h.i,h.depth⟩
 obtain⟨x,cap,e,k⟩:=h.toks;refine⟨x,cap,e,fun h0=>?_⟩;obtain⟨g,e1,e2,e3,e4⟩:=k h0;exact⟨g,e1,e2,e3,fun i t ht=>(e4 i t ht).kept (hb.block g (e4 i t ht).lt)⟩
theorem z8V.fewer{Q:PIn}{c H:Nat}{A A':Nat->Prop}{tk tv:Value}{s:PS}{w:World}(h:z8V Q c H A tk tv s w)(hA:∀ g,A' g->A g):z8V Q c H A' tk tv s w:=by
 refine⟨h.blk,h.toks,?_,fun g hg=>h.early g (hA g hg),h.ch,h.hw,h.few,h.i,h.depth⟩;obtain⟨xs,h1,h2⟩:=h.tree;refine⟨xs,h1,fun q p hq=>?_⟩;obtain⟨lv,nv,k1,k2,k3,k4,k5⟩:=h2 q p hq;exact⟨lv,nv,k1,k2,k3,fun g hg ha=>k4 g hg (hA g ha),fun g hg ha=>k5 g hg (hA g ha)⟩
theorem z8V.later{Q:PIn}{c H:Nat}{A A':Nat->Prop}{tk tv:Value}{s:PS}{w w':World}(h:z8V Q c H A tk tv s w)(hb:Below w.heap.size w w')(hA:∀ g,A' g->g<w'.heap.size/\(A g\/w.heap.size<=g)):z8V Q c H A' tk tv s w':=by
 have k:=h.below hb;refine⟨k.blk,k.toks,?_,fun g hg=>(hA g hg).1,k.ch,k.hw,k.few,k.i,k.depth⟩;obtain⟨xs,h1,h2⟩:=h.tree;refine⟨xs,z8B h1 hb,fun q p hq=>?_⟩;obtain⟨lv,nv,k1,k2,k3,k4,k5⟩:=h2 q p hq;refine⟨lv,nv,k1,z8B k2 hb,z8B k3 hb,fun g hg ha=>?_,fun g hg ha=>?_⟩
 ·rcases (hA g ha).2 with h'|h'
  ·exact k4 g hg h'
  ·have:=(k2.lt g hg).2;omega
 ·rcases (hA g ha).2 with h'|h'
  ·exact k5 g hg h'
  ·have:=(k3.lt g hg).2;omega
theorem z8W{w:World}{g:Nat}{a0 a1 a2 a3 a4 a5:Value}{t:TypeId}{r:Nat × Nat}(h:w.heap[g]?=some (.cells #[a0,a1,a2,a3,a4,a5] t r)):
  w.cell? ⟨g,0,none⟩=some a0/\w.cell? ⟨g,1,none⟩=some a1/\w.cell? ⟨g,2,none⟩=some a2/\w.cell? ⟨g,3,none⟩=some a3/\w.cell? ⟨g,4,none⟩=some a4/\w.cell? ⟨g,5,none⟩=some a5:=by
 refine⟨?_,?_,?_,?_,?_,?_⟩<;>(rw[cell_of_row _ _ _ _ _ _ h];rfl)
theorem z8V.tok{Q:PIn}{c H:Nat}{A:Nat->Prop}{tk tv:Value}{s:PS}{w:World}(h:z8V Q c H A tk tv s w){j:Nat}(hj:j<Q.T.length):∃ g cap t,tk=.slice (some ⟨g,0,none⟩) Q.T.length cap/\Q.T[j]?=some t/\z8S w g (j*4) t/\g<w.heap.size/\g≠c:=by
 obtain⟨x,cap,e,k⟩:=h.toks;obtain⟨g,e1,e2,e3,e4⟩:=k (by omega)
 have hw:=h.hw;refine⟨g,cap,Q.T[j],by rw[e,e1],yd9 hj,e4 j _ (yd9 hj),by omega,e3⟩
theorem z8V.shape{Q:PIn}{c H:Nat}{A:Nat->Prop}{tk tv:Value}{s:PS}{w:World}(h:z8V Q c H A tk tv s w):∃ x cap,tk=.slice x Q.T.length cap:=by
 obtain⟨x,cap,e,_⟩:=h.toks;exact⟨x,cap,e⟩
theorem z8X{Q:PIn}{c H:Nat}{A:Nat->Prop}{tk tv:Value}{s:PS}{w:World}(h:z8V Q c H A tk tv s w):
  Calls Tryz.prog 50 #[.pointer (some ⟨c,0,none⟩)] w fun e w'=>e=.returned (.int .i64 (z4T Q s))/\Below w.heap.size w w':=by
 obtain⟨c0,c1,c2,c3,c4,c5⟩:=z8W h.blk;have hfew:=h.few;by_cases hj:s.i<Q.T.length
 ·obtain⟨g,cap,t,rfl,ht,hT,_,_⟩:=h.tok hj;have e3:=hT.c3;have hp:z4T Q s=(t.2:Int):=by unfold z4T;rw[ht]
  obtain⟨P,hP⟩:∃ P,z4T Q s=P:=⟨_,rfl⟩;rw[hP]at hp ⊢;subst hp;obtain⟨n,hn⟩:∃ n,Q.T.length=n:=⟨_,rfl⟩;obtain⟨i,hi⟩:∃ i,s.i=i:=⟨_,rfl⟩;rw[hn]at c0 hj hfew;rw[hi]at c1 hj e3;clear hT ht h hn hi hP;have hji:(i:Int)<(n:Int):=by omega
  have hj0:(0:Int)<=(i:Int):=by omega
  go_enter Tryz.func50,Tryz.ntmps50;go_wp2;go_quiet (fail)
  go_wp2;go_quiet (fail)
  go_wp2;go_ret;exact⟨rfl,below_drewN (below_drewN (yg9 _ _) _) _⟩
 ·obtain⟨x,cap,rfl⟩:=h.shape;have hp:z4T Q s=(Q.e:Int):=by unfold z4T;rw[List.getElem?_eq_none (by omega)]
  rw[hp];obtain⟨n,hn⟩:∃ n,Q.T.length=n:=⟨_,rfl⟩;obtain⟨i,hi⟩:∃ i,s.i=i:=⟨_,rfl⟩;rw[hn]at c0 hj hfew;rw[hi]at c1 hj;have hji:decide ((i:Int)<(n:Int))=false:=by simp;omega
  clear h hp hn hi;go_enter Tryz.func50,Tryz.ntmps50;go_wp2;go_quiet (fail)
  go_wp2;go_ret;exact⟨rfl,below_drewN (yg9 _ _) _⟩
theorem z8Y{Q:PIn}{c H:Nat}{A:Nat->Prop}{tk tv:Value}{s:PS}{w:World}(k:Int)(h:z8V Q c H A tk tv s w):
  Calls Tryz.prog 76 #[.pointer (some ⟨c,0,none⟩),.int .i64 k] w fun e w'=>e=.returned (.bool (z4U Q s k))/\Below w.heap.size w w':=by
 obtain⟨c0,c1,c2,c3,c4,c5⟩:=z8W h.blk;have hfew:=h.few;obtain⟨f,hf⟩:∃ f,s.fault=f:=⟨_,rfl⟩;rw[hf]at c5;obtain⟨x,cap,rfl⟩:=h.shape;by_cases h0:¬ s.fault<0
 ·have hp:z4U Q s k=false:=by unfold z4U;rw[ya9 h0];rfl
  rw[hp];have h0':decide (f<0)=false:=by rw[←hf];exact ya9 h0
  clear h hp h0 hf;go_enter Tryz.func76,Tryz.ntmps76;go_wp2;go_quiet (fail)
  go_wp2;go_ret;exact⟨rfl,below_drewN (yg9 _ _) _⟩
 rw[Decidable.not_not]at h0;have h0':f<0:=by rw[←hf];exact h0
 by_cases hj:s.i<Q.T.length
 ·obtain⟨g,cap',t,e,ht,hT,_,_⟩:=h.tok hj;injection e with e1 e2 e3;subst e1 e3;have e0:=hT.c0;obtain⟨q,hq⟩:∃ q,t.1.kind=q:=⟨_,rfl⟩;rw[hq]at e0;have hp:z4U Q s k=(q==k):=by
   unfold z4U;rw[ht,yb9 h0,Bool.true_and];show decide (t.1.kind=k)=_;rw[hq];rfl
  rw[hp];obtain⟨n,hn⟩:∃ n,Q.T.length=n:=⟨_,rfl⟩;obtain⟨i,hi⟩:∃ i,s.i=i:=⟨_,rfl⟩;rw[hn]at c0 hj hfew;rw[hi]at c1 hj e0;clear hT ht h hn hi hp h0 hf hq;have hji:(i:Int)<(n:Int):=by omega
  have hj0:(0:Int)<=(i:Int):=by omega
  go_enter Tryz.func76,Tryz.ntmps76;go_wp2;go_quiet (fail)
  go_wp2;go_ret;exact⟨rfl,below_drewN (yg9 _ _) _⟩
 ·have hp:z4U Q s k=false:=by unfold z4U;rw[List.getElem?_eq_none (by omega)];simp
  rw[hp];obtain⟨n,hn⟩:∃ n,Q.T.length=n:=⟨_,rfl⟩;obtain⟨i,hi⟩:∃ i,s.i=i:=⟨_,rfl⟩;rw[hn]at c0 hj hfew;rw[hi]at c1 hj;have hji:decide ((i:Int)<(n:Int))=false:=by simp;omega
  clear h hp hn hi h0 hf;go_enter Tryz.func76,Tryz.ntmps76;go_wp2;go_quiet (fail)
  go_wp2;go_ret;exact⟨rfl,below_drewN (yg9 _ _) _⟩
def z8Z(w:World)(k:Nat):Prop:=∀ cs fz,w.heap[k]?≠some (.cells cs 34 fz)
structure z90(H c:Nat)(w w':World):Prop where
 os:w'.os=w.os
 tape:w'.tape=w.tape
 output:w'.output=w.output
 size:w.heap.size<=w'.heap.size
 low:∀ k,k<H->k≠c->w'.heap[k]?=w.heap[k]?
 rest:∀ k,k<w.heap.size->k≠c->z8Z w k->w'.heap[k]?=w.heap[k]?
theorem z90.refl(H c:Nat)(w:World):z90 H c w w:=⟨rfl,rfl,rfl,yf9 _,fun _ _ _=>rfl,fun _ _ _ _=>rfl⟩
theorem z90.trans{H c:Nat}{a b d:World}(h:z90 H c a b)(k:z90 H c b d):z90 H c a d:=by
 refine⟨k.os.trans h.os,k.tape.trans h.tape,k.output.trans h.output,yi9 h.size k.size,fun i h1 h2=>(k.low i h1 h2).trans (h.low i h1 h2),fun i h1 h2 h3=>?_⟩;have e:=h.rest i h1 h2 h3;refine(k.rest i (Nat.lt_of_lt_of_le h1 h.size) h2 ?_).trans e;intro cs fz;rw[e];exact h3 cs fz
theorem z90.of_below{H c:Nat}{w w':World}(h:Below w.heap.size w w')(hw:H<=w.heap.size):z90 H c w w':=⟨h.os,h.tape,h.output,h.size,fun k hk _=>h.block k (by omega),fun k hk _ _=>h.block k hk⟩
theorem z90.of_set{H c:Nat}{w:World}(j:Nat)(v:Value):z90 H c w (w.setCell ⟨c,j,none⟩ v):=
 ⟨rfl,rfl,rfl,by simp,fun k _ hk=>heap_setCell_other w ⟨c,j,none⟩ k v hk,fun k _ hk _=>heap_setCell_other w ⟨c,j,none⟩ k v hk⟩
theorem z91{H c B:Nat}{w w':World}{e:TypeId}{v:Value}{n:Nat}{xs:List Value}(h:w.ownsRow B e 1 v n xs)(k:z90 H c w w')(he:e≠34)(hc:∀ g,v.ownBlock=some g->g≠c):w'.ownsRow B e 1 v n xs:=by
 refine⟨h.1,?_⟩;rcases h.2 with hn|⟨g,cap,cur,rfl,hb,hgg,rest⟩
 ·exact .inl hn
 ·refine .inr ⟨g,cap,cur,rfl,hb,?_,rest⟩;have hlt:g<w.heap.size:=(Array.getElem?_eq_some_iff.1 hgg).1;rw[k.rest g hlt (hc g rfl) (fun cs fz e'=>?_)]
  ·exact hgg
  ·rw[hgg]at e';injection e' with e';injection e' with _ e2 _;exact he e2
theorem z8V.put{Q:PIn}{c H:Nat}{A:Nat->Prop}{tk tv:Value}{s:PS}{w:World}(h:z8V Q c H A tk tv s w)(j:Nat)(v:Value)(s':PS)
  (hb:#[tk,.int .i64 (s.i:Int),.int .i64 (Q.e:Int),tv,.int .i64 (s.depth:Int),.int .i64 s.fault].setIfInBounds j v=#[tk,.int .i64 (s'.i:Int),.int .i64 (Q.e:Int),tv,.int .i64 (s'.depth:Int),.int .i64 s'.fault])
  (ht:s'.tree=s.tree) (hi:s'.i<=Q.T.length) (hd:s'.depth<=25):z8V Q c H A tk tv s' (w.setCell ⟨c,j,none⟩ v)/\z90 H c w (w.setCell ⟨c,j,none⟩ v):=by
 refine⟨⟨?_,?_,?_,fun g hg=>by have:=h.early g hg;simpa using this,h.ch,by have:=h.hw;simpa using this,h.few,hi,hd⟩,z90.of_set j v⟩
 ·rw[heap_setCell_same w c j _ _ v h.blk,hb]
 ·obtain⟨x,cap,e,k⟩:=h.toks;refine⟨x,cap,e,fun h0=>?_⟩;obtain⟨g,e1,e2,e3,e4⟩:=k h0;exact⟨g,e1,e2,e3,fun i t hti=>(e4 i t hti).kept (heap_setCell_other w ⟨c,j,none⟩ g v e3)⟩
 ·obtain⟨xs,h1,h2⟩:=h.tree;rw[ht];refine⟨xs,ownsRow_setCell_below h1 (a:=⟨c,j,none⟩) h.ch v,fun q p hq=>?_⟩;obtain⟨lv,nv,k1,k2,k3,k4⟩:=h2 q p hq;exact⟨lv,nv,k1,ownsRow_setCell_below k2 (a:=⟨c,j,none⟩) h.ch v,ownsRow_setCell_below k3 (a:=⟨c,j,none⟩) h.ch v,k4⟩
theorem z92{w:World}{b j:Nat}{u:Value}(h:w.cell? ⟨b,j,none⟩=some u)(k:Nat)(o:Obj):((w.drewN k).alloc o).cell? ⟨b,j,none⟩=some u:=by
 have hlt:b<w.heap.size:=World.block_lt_of_cell? w _ h;have hb:Below w.heap.size w ((w.drewN k).alloc o):=(below_drewN (yg9 _ _) k).alloc (by simp) o
 exact(hb.cell (p:=⟨b,j,none⟩) hlt).trans h
theorem z93{x y:ByteArray}(h:x.data.toList=y.data.toList):x=y:=by
 apply ByteArray.ext
 exact Array.toList_inj.1 h
theorem z94(w:World)(z0 z1 z2 z3:Value)(t:TypeId)(k:Nat):((w.drewN k).alloc (.cells #[z0,z1,z2,z3] t)).heap[w.heap.size]?=some (.cells #[z0,z1,z2,z3] t):=by
 have e:(w.drewN k).heap.size=w.heap.size:=by simp
 have h:=heap_alloc_new (w.drewN k) (.cells #[z0,z1,z2,z3] t);rw[e]at h;exact h
theorem z95(w:World)(z0 z1 z2 z3:Value)(t:TypeId)(k:Nat):((w.drewN k).alloc (.cells #[z0,z1,z2,z3] t)).cell? ⟨w.heap.size,0,none⟩=some z0/\((w.drewN k).alloc (.cells #[z0,z1,z2,z3] t)).cell? ⟨w.heap.size,1,none⟩=some z1/\((w.drewN k).alloc (.cells #[z0,z1,z2,z3] t)).cell? ⟨w.heap.size,2,none⟩=some z2/\((w.drewN k).alloc (.cells #[z0,z1,z2,z3] t)).cell? ⟨w.heap.size,3,none⟩=some z3/\∀ j,((w.drewN k).alloc (.cells #[z0,z1,z2,z3] t)).frozen? ⟨w.heap.size,j,none⟩=false:=by
 have e:(w.drewN k).heap.size=w.heap.size:=by simp
 have h:=heap_alloc_new (w.drewN k) (.cells #[z0,z1,z2,z3] t);rw[e]at h;obtain⟨a,b,c,d⟩:=z2u h;exact⟨a,b,c,d,fun j=>frozen_of_row _ _ j _ _ h⟩
theorem z96{Q:PIn}{c H:Nat}{A:Nat->Prop}{tk tv:Value}{s:PS}{w:World}(x:ByteArray)(h:z8V Q c H A tk tv s w):
  Calls Tryz.prog 74 #[.pointer (some ⟨c,0,none⟩),.string x] w fun e w'=>e=.returned (.bool (isP Q s x.data.toList))/\Below w.heap.size w w':=by
 obtain⟨c0,c1,c2,c3,c4,c5⟩:=z8W h.blk;have hfew:=h.few;have hc:c<w.heap.size:=by have:=h.ch;have:=h.hw;omega
 obtain⟨f,hf⟩:∃ f,s.fault=f:=⟨_,rfl⟩;rw[hf]at c5;obtain⟨xx,cap,rfl⟩:=h.shape;by_cases h0:¬ s.fault<0
 ·have hp:isP Q s x.data.toList=false:=by unfold isP;rw[ya9 h0];rfl
  rw[hp];have h0':0<=f:=by rw[←hf];omega
  clear h hp h0 hf;go_enter Tryz.func74,Tryz.ntmps74;go_wp2;go_quiet (fail)
  go_wp2;go_ret;exact⟨rfl,below_drewN (yg9 _ _) _⟩
 rw[Decidable.not_not]at h0;have h0':decide (0<=f)=false:=by rw[←hf];simp;omega
 by_cases hj:s.i<Q.T.length
 ·obtain⟨g,cap',t,e,ht,hT,hgl,_⟩:=h.tok hj;injection e with j1 j2 j3;subst j1 j3;clear j2;obtain⟨e0,e1,e2,e3⟩:=hT;obtain⟨q,hq⟩:∃ q,t.1.kind=q:=⟨_,rfl⟩;obtain⟨y,hy⟩:∃ y,txt t.1.text=y:=⟨_,rfl⟩;rw[hq]at e0;rw[hy]at e1;have hyl:t.1.text=y.data.toList:=by rw[←hy,z6a]
  have hp:isP Q s x.data.toList=((decide (q=4)||decide (q=5))&&decide (y.data.toList=x.data.toList)):=by
   unfold isP;rw[ht,yb9 h0,Bool.true_and];show((decide (t.1.kind=4)||decide (t.1.kind=5))&&decide (t.1.text=x.data.toList))=_;rw[hq,hyl]
  obtain⟨R,hR⟩:∃ R,isP Q s x.data.toList=R:=⟨_,rfl⟩;rw[hR]at hp ⊢;have HP:Hid (R=((decide (q=4)||decide (q=5))&&decide (y.data.toList=x.data.toList))):=hp;obtain⟨n,hn⟩:∃ n,Q.T.length=n:=⟨_,rfl⟩;obtain⟨i,hi⟩:∃ i,s.i=i:=⟨_,rfl⟩;rw[hn]at c0 hj hfew;rw[hi]at c1 hj e0 e1 e2 e3;clear ht h hn hi hp h0 hf hq hy hyl hR;have hji:decide ((n:Int)<=(i:Int))=false:=by simp;omega
  have hji2:(i:Int)<(n:Int):=by omega
  have hj0:(0:Int)<=(i:Int):=by omega
  have n0:=fun k=>(z95 w (.int .i64 0) (.string ⟨#[]⟩) (.int .u64 0) (.int .i64 0) 117 k).1;have n1:=fun k=>(z95 w (.int .i64 0) (.string ⟨#[]⟩) (.int .u64 0) (.int .i64 0) 117 k).2.1;have n2:=fun k=>(z95 w (.int .i64 0) (.string ⟨#[]⟩) (.int .u64 0) (.int .i64 0) 117 k).2.2.1;have n3:=fun k=>(z95 w (.int .i64 0) (.string ⟨#[]⟩) (.int .u64 0) (.int .i64 0) 117 k).2.2.2.1;have nf:=fun k=>(z95 w (.int .i64 0) (.string ⟨#[]⟩) (.int .u64 0) (.int .i64 0) 117 k).2.2.2.2;have a0:=fun k o=>z92 c0 k o;have a1:=fun k o=>z92 c1 k o;have b0:=fun k o=>z92 e0 k o;have b1:=fun k o=>z92 e1 k o;have b2:=fun k o=>z92 e2 k o;have b3:=fun k o=>z92 e3 k o;go_enter Tryz.func74,Tryz.ntmps74;go_wp2;go_quiet (fail)
  go_wp2;go_big_region
  have hN:=(z94 w (.int .i64 0) (.string ⟨#[]⟩) (.int .u64 0) (.int .i64 0) 117 (nq+1));have hF:=z4N (a':=.int .i64 q) (b':=.string y) (c':=.int .u64 (t.1.num:Int)) (d':=.int .i64 (t.2:Int)) hN;have hB:Below w.heap.size w ((((((w.drewN (nq+1)).alloc (Obj.cells #[Value.int IntKind.i64 0,Value.string ⟨#[]⟩,Value.int IntKind.u64 0,Value.int IntKind.i64 0] 117)).setCell ⟨w.heap.size,0,none⟩ (Value.int IntKind.i64 q)).setCell ⟨w.heap.size,1,none⟩ (Value.string y)).setCell ⟨w.heap.size,2,none⟩ (Value.int IntKind.u64 ↑t.fst.num)).setCell ⟨w.heap.size,3,none⟩ (Value.int IntKind.i64 ↑t.snd)):=by
   have z:∀(W:World) (j:Nat) (u:Value),Below w.heap.size w W->Below w.heap.size w (W.setCell ⟨w.heap.size,j,none⟩ u):=fun W j u k=>k.setCell (p:=⟨w.heap.size,j,none⟩) (yf9 _) u;exact z _ _ _ (z _ _ _ (z _ _ _ (z _ _ _ ((below_drewN (yg9 _ _) (nq+1)).alloc (by simp) _))))
  obtain⟨W4,hW4⟩:∃ W,((((((w.drewN (nq+1)).alloc (Obj.cells #[Value.int IntKind.i64 0,Value.string ⟨#[]⟩,Value.int IntKind.u64 0,Value.int IntKind.i64 0] 117)).setCell ⟨w.heap.size,0,none⟩ (Value.int IntKind.i64 q)).setCell ⟨w.heap.size,1,none⟩ (Value.string y)).setCell ⟨w.heap.size,2,none⟩ (Value.int IntKind.u64 ↑t.fst.num)).setCell ⟨w.heap.size,3,none⟩ (Value.int IntKind.i64 ↑t.snd))=W:=⟨_,rfl⟩;rw[hW4]at hF hB;simp only[hW4];clear hW4 hN n0 n1 n2 n3 nf a0 a1 b0 b1 b2 b3;obtain⟨f0,f1,f2,f3⟩:=z2u hF;clear hF;have HB:Hid (Below w.heap.size w W4):=hB;by_cases hq4:q=4
  ·subst hq4;by_cases hxy:y=x
   ·subst hxy;have hr:R=true:=by rw[HP.out];simp
    clear HP;subst hr;go_wp2;go_ret;exact⟨rfl,HB.out⟩
   ·have hne:(y.toList==x.toList)=false:=by
     rw[yc9,ByteArray.toList_eq,ByteArray.toList_eq];exact fun e=>hxy (z93 e)
    have hr:R=false:=by
     rw[HP.out,ya9 (fun e=>hxy (z93 e))];simp
    clear HP;subst hr;clear hxy;go_wp2;go_ret;exact⟨rfl,HB.out⟩
  ·have hn4:(q==4)=false:=by rw[yc9];exact hq4
   by_cases hq5:q=5
   ·subst hq5;by_cases hxy:y=x
    ·subst hxy;have hr:R=true:=by rw[HP.out];simp
     clear HP;subst hr;go_wp2;go_ret;exact⟨rfl,HB.out⟩
    ·have hne:(y.toList==x.toList)=false:=by
      rw[yc9,ByteArray.toList_eq,ByteArray.toList_eq];exact fun e=>hxy (z93 e)
     have hr:R=false:=by
      rw[HP.out,ya9 (fun e=>hxy (z93 e))];simp
     clear HP;subst hr;clear hxy;go_wp2;go_ret;exact⟨rfl,HB.out⟩
   ·have hn5:(q==5)=false:=by rw[yc9];exact hq5
    have hr:R=false:=by
     rw[HP.out,ya9 hq4,ya9 hq5];rfl
    clear HP;subst hr;clear hq4 hq5;go_wp2;go_ret;exact⟨rfl,HB.out⟩
 ·have hp:isP Q s x.data.toList=false:=by unfold isP;rw[List.getElem?_eq_none (by omega)];simp
  rw[hp];obtain⟨n,hn⟩:∃ n,Q.T.length=n:=⟨_,rfl⟩;obtain⟨i,hi⟩:∃ i,s.i=i:=⟨_,rfl⟩;rw[hn]at c0 hj hfew;rw[hi]at c1 hj;have hji:(n:Int)<=(i:Int):=by omega
  clear h hp hn hi h0 hf;go_enter Tryz.func74,Tryz.ntmps74;go_wp2;go_quiet (fail)
  go_wp2;go_ret;exact⟨rfl,below_drewN (yg9 _ _) _⟩
