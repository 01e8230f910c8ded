/- Part 45. -/
import Derived.Test.YtdbekjiognpgnaaGreatPaw
import Derived.Shelf.Slices.Turned
import Derived.Shelf.Slices.Empties2
import Derived.Test.YtdbekjiognpgnaaGreatProg
set_option maxHeartbeats 16000000
set_option maxRecDepth 100000
set_option linter.unusedVariables false
namespace Go.Proofs.YtdbekjiognpgnaaGreat
def zdi(p:z4Q)(r:Nat):Int:=if p.kind=20/\p.b=1 then 4 else if r=1 then 0 else if r=2 then 1 else if r=3 then 3 else 2
def zdj(p:z4Q):List (Int × Int):=(z5V p).map fun x=>(x.1,zdi p x.2)
theorem zdk(p:z4Q):(zdj p).map Prod.fst=z8o p:=by
 unfold zdj z8o;rw[List.map_map];rfl
def fitI(r k:Int):Prop:=(r=0/\k<20)\/(r=1/\k=29)\/(r=3/\(k=29\/k=23))\/(r=4/\k=13)\/(r=2/\20<=k/\k≠29)
structure zdl(ns:List z4Q):Prop where
 held:∀(j:Nat) (p:z4Q),ns[j]?=some p->z5Y p
 part:∀(j:Nat) (p:z4Q),ns[j]?=some p->∀ x∈zdj p,0<=x.1/\x.1<j/\fitI x.2 (z5X ns x.1)
 once:∀ i:Nat,(z5Z ns).count (i:Int)<=1
 few:1<=ns.length/\ns.length<=300
 lists:∀(j:Nat) (p:z4Q),ns[j]?=some p->p.list.length<=9000
theorem zdm{ns:List z4Q}{p:z4Q}{x:Int × Nat}(h:z5W x.2 (z5X ns x.1))(he:p.kind=20->p.b=1->z5X ns x.1=13):fitI (zdi p x.2) (z5X ns x.1):=by
 unfold zdi;by_cases e:p.kind=20/\p.b=1
 ·rw[if_pos e];exact .inr (.inr (.inr (.inl ⟨rfl,he e.1 e.2⟩)))
 ·rw[if_neg e];rcases h with ⟨a,b,c⟩|⟨a,b⟩|⟨a,b⟩|⟨a,b,c⟩
  ·rw[if_pos a];exact .inl ⟨rfl,by omega⟩
  ·rw[if_neg (by omega),if_pos a]
   exact .inr (.inl ⟨rfl,b⟩)
  ·rw[if_neg (by omega),if_neg (by omega),if_pos a]
   exact .inr (.inr (.inl ⟨rfl,b⟩))
  ·rw[if_neg (by omega),if_neg (by omega),if_neg (by omega)]
   exact .inr (.inr (.inr (.inr ⟨rfl,b,by omega⟩)))
theorem zdn{p:z4Q}(h:p.kind=20):z5V p=[(p.a,1)]:=by
 unfold z5V;rw[if_pos (by omega)]
theorem zdo{ns:List z4Q}(h:z88 ns):∀ x∈z5Z ns,0<=x/\x<(ns.length:Int)-1:=by
 intro x hx;unfold z5Z at hx;obtain⟨m,hm,hx⟩:=List.mem_flatMap.1 hx;obtain⟨j,hj⟩:=List.mem_iff_getElem?.1 hm;have:=h.early j m hj x hx;have hl:j<ns.length:=(List.getElem?_eq_some_iff.1 hj).1;omega
theorem zdp:∀(n:Nat) (l:List Int),(∀ x∈l,0<=x/\x<n)->(∀ i:Nat,i<n->l.count (i:Int)=1)->l.length=n:=by
 intro n;induction n with
 | zero=>
  intro l h _;cases l with
  | nil=>rfl
  | cons x r=>have:=h x (by simp);omega
 | succ n ih=>
  intro l h k;have c:=k n (by omega)
  have hm:(n:Int)∈l:=List.count_pos_iff.1 (by omega)
  have e:=ih (l.erase (n:Int)) (fun x hx=>by
   have a:=h x (List.mem_of_mem_erase hx);rcases Decidable.em (x=(n:Int))with e|e
   ·subst e;have:0<(l.erase (n:Int)).count (n:Int):=List.count_pos_iff.2 hx;rw[List.count_erase_self]at this;omega
   ·omega) (fun i hi=>by
    rw[List.count_erase_of_ne (by intro e;omega)]
    exact k i (by omega))
  rw[List.length_erase_of_mem hm]at e;have:0<l.length:=List.length_pos_of_mem hm;omega
theorem zdq{ns:List z4Q}(h:z88 ns):(z5Z ns).length+1=ns.length:=by
 have r:=zdo h;have f:=h.few;have e:=zdp (ns.length-1) (z5Z ns) (fun x hx=>by have:=r x hx;omega) (fun i hi=>by
  have:=h.seg.once i (by omega)
  rw[List.count_cons,List.count_nil]at this;rw[if_neg (by simp;omega)]at this
  omega)
 omega
theorem zdr{α β:Type}{f:α->List β}{x:α}:∀{l:List α},x∈l->(f x).length<=(l.flatMap f).length
 | [],h=>by cases h
 | y::l,h=>by
  rw[List.flatMap_cons,List.length_append];rcases List.mem_cons.1 h with rfl|h
  ·omega
  ·have:=zdr (f:=f) h;omega
theorem zds{p:z4Q}(h:z5Y p)(hk:p.kind≠29):p.list.length<=6:=by
 obtain⟨_,_,h⟩:=h;rcases h with h|h|h|h|h|h|h|h|h|h|h|h|h|h|h;all_goals first
  | omega
  | exact h.2.2.2.1
  | (have e:p.list=[]:=(by first|exact h.2.2.2.2.1|exact h.2.2.2.1|exact h.2.2.1|exact h.2.1);rw[e];simp)
theorem z88.short{ns:List z4Q}(h:z88 ns):∀(j:Nat) (p:z4Q),ns[j]?=some p->p.list.length<=9000:=by
 intro j p hj;by_cases hk:p.kind=29
 ·have e:z8o p=p.list:=by
   unfold z8o z5V;rw[if_neg (by omega),if_neg (by omega),if_neg (by omega),if_neg (by omega),if_neg (by omega),if_neg (by omega),if_neg (by omega),if_pos hk,List.map_map]
   show p.list.map id=_;rw[List.map_id]
  have l1:(z8o p).length<=(z5Z ns).length:=zdr (f:=fun n=>(z5V n).map Prod.fst) (List.mem_iff_getElem?.2 ⟨j,hj⟩);have l2:=zdq h;have l3:=h.few;rw[e]at l1;omega
 ·have:=zds (h.seg.held j p hj) hk;omega
theorem z88.good{ns:List z4Q}(h:z88 ns):zdl ns:=by
 have f:=h.few;refine⟨h.seg.held,fun j p hj x hx=>?_,fun i=>?_,by omega,h.short⟩
 ·unfold zdj at hx;obtain⟨y,hy,rfl⟩:=List.mem_map.1 hx;obtain⟨a,b,c⟩:=h.seg.parts j p hj y hy;refine⟨a,b,zdm c fun k1 k2=>?_⟩;have e:=h.seg.early j p hj k1 k2;rw[zdn k1]at hy;rw[List.mem_singleton.1 hy];exact e
 ·rcases Nat.lt_or_ge i ns.length with k|k
  ·have:=h.seg.once i k;omega
  ·rw[List.count_eq_zero.2 (fun hx=>by have:=zdo h _ hx;omega)]
   omega
theorem zdt(ns:List z4Q)(p:z4Q):z5Z (ns++[p])=z5Z ns++z8o p:=by
 unfold z5Z z8o;rw[List.flatMap_append];simp
theorem z88.more{ns:List z4Q}(h:z88 ns):zdl (ns++[⟨29,0,0,0,[],[],0,0⟩])/\(z5Z (ns++[⟨29,0,0,0,[],[],0,0⟩])).length+1=ns.length:=by
 have g:=h.good;have f:=h.few;have e:z5Z (ns++[⟨29,0,0,0,[],[],0,0⟩])=z5Z ns:=by
  rw[zdt];show _++[]=_;rw[List.append_nil]
 have hp:z5Y ⟨29,0,0,0,[],[],0,0⟩:=⟨by simp,by simp,by simp⟩
 refine⟨⟨fun j p hj=>?_,fun j p hj x hx=>?_,fun i=>by rw[e];exact g.once i,by simp;omega,fun j p hj=>?_⟩,by rw[e];exact zdq h⟩
 ·rcases Nat.lt_or_ge j ns.length with k|k
  ·rw[List.getElem?_append_left k]at hj;exact g.held j p hj
  ·rw[List.getElem?_append_right k]at hj;rcases Nat.eq_zero_or_pos (j-ns.length)with z|z
   ·rw[z]at hj;simp at hj;rw[←hj];exact hp
   ·rw[List.getElem?_eq_none (by simp;omega)]at hj
    cases hj
 ·rcases Nat.lt_or_ge j ns.length with k|k
  ·rw[List.getElem?_append_left k]at hj;obtain⟨a,b,c⟩:=g.part j p hj x hx;exact⟨a,b,by rw[z60 a (by omega)];exact c⟩
  ·rw[List.getElem?_append_right k]at hj;rcases Nat.eq_zero_or_pos (j-ns.length)with z|z
   ·rw[z]at hj;simp at hj;rw[←hj]at hx;have:zdj ⟨29,0,0,0,[],[],0,0⟩=[]:=rfl;rw[this]at hx;cases hx
   ·rw[List.getElem?_eq_none (by simp;omega)]at hj
    cases hj
 ·rcases Nat.lt_or_ge j ns.length with k|k
  ·rw[List.getElem?_append_left k]at hj;exact g.lists j p hj
  ·rw[List.getElem?_append_right k]at hj;rcases Nat.eq_zero_or_pos (j-ns.length)with z|z
   ·rw[z]at hj;simp at hj;rw[←hj];simp
   ·rw[List.getElem?_eq_none (by simp;omega)]at hj
    cases hj
theorem z88.ahead{ns:List z4Q}(h:z88 ns){p:z4Q}(hp:ns[ns.length-2]?=some p)(h2:2<=ns.length):p.kind≠29:=by
 have c:=h.seg.once (ns.length-2) (by omega)
 rw[List.count_cons,List.count_nil,if_neg (by simp;omega)]at c
 have hm:((ns.length-2:Nat):Int)∈z5Z ns:=List.count_pos_iff.1 (by omega)
 unfold z5Z at hm;obtain⟨m,hm1,hm2⟩:=List.mem_flatMap.1 hm;obtain⟨j,hj⟩:=List.mem_iff_getElem?.1 hm1;have hjl:j<ns.length:=(List.getElem?_eq_some_iff.1 hj).1;obtain⟨y,hy,ey⟩:=List.mem_map.1 hm2;obtain⟨a,b,f⟩:=h.seg.parts j m hj y hy;rw[ey]at a b f;have ej:j=ns.length-1:=by omega
 have hk:m.kind=29:=by
  have:=h.last;unfold z5X at this;rw[show((ns.length:Int)-1).toNat=j by omega,hj]at this
  exact this
 have e:z5V m=m.list.map (fun x=>(x,4)):=by
  unfold z5V;rw[if_neg (by omega),if_neg (by omega),if_neg (by omega),if_neg (by omega),if_neg (by omega),if_neg (by omega),if_neg (by omega),if_pos hk]
 rw[e]at hy;obtain⟨z,_,ez⟩:=List.mem_map.1 hy;have r4:y.2=4:=by rw[←ez]
 have kk:z5X ns ((ns.length-2:Nat):Int)=p.kind:=by unfold z5X;rw[Int.toNat_natCast,hp]
 rw[kk,r4]at f;unfold z5W at f;omega
end Go.Proofs.YtdbekjiognpgnaaGreat
namespace Go.Proofs.YtdbekjiognpgnaaGreat
open Go.RowKit Go.Sort
theorem zdu{w:World}{B:Nat}{xs:List Value}{ns:List z4Q}(hl:xs.length=ns.length*8)(hN:∀ q p,ns[q]?=some p->z8F w B xs q p):∀ u∈xs,u.oneCell'=true:=by
 intro u hu;obtain⟨i,hi⟩:=List.mem_iff_getElem?.1 hu;have hlt:i<xs.length:=(List.getElem?_eq_some_iff.1 hi).1;obtain⟨p,hp⟩:∃ p,ns[i/8]?=some p:=⟨_,yd9 (by omega)⟩
 obtain⟨lv,nv,h1,h2,h3⟩:=hN (i/8) p hp;obtain⟨la,lc,rfl⟩:=z8A h2;obtain⟨na,nc,rfl⟩:=z8A h3;have key:∀(c:Nat) (x:Value),(z4R p (.slice la p.list.length lc) (.slice na p.names.length nc))[c]?=some x->x.oneCell'=true:=fun c x hx=>by
  have hm:x∈z4R p (.slice la p.list.length lc) (.slice na p.names.length nc):=List.mem_iff_getElem?.2 ⟨c,hx⟩;unfold z4R at hm;simp only[List.mem_cons,List.not_mem_nil,or_false]at hm;rcases hm with rfl|rfl|rfl|rfl|rfl|rfl|rfl|rfl<;>rfl
 obtain⟨x,hx⟩:∃ x,(z4R p (.slice la p.list.length lc) (.slice na p.names.length nc))[i%8]?=some x:=⟨_,yd9 (show i%8<8 by omega)⟩
 have e:=h1 (i%8) x hx;rw[show i/8*8+i%8=i by omega,hi]at e
 injection e with e;rw[e];exact key _ _ hx
theorem z8G.cells{w:World}{B:Nat}{v:Value}{ns:List z4Q}(h:z8G w B v ns):∃ xs,w.ownsRow B 34 8 v ns.length xs/\(∀ u∈xs,u.oneCell'=true)/\∀{w':World} {B':Nat} {v':Value},Below w.heap.size w w'->B<=B'->w'.ownsRow B' 34 8 v' ns.length xs->z8G w' B v' ns/\∀ q p,ns[q]?=some p->z8F w' B xs q p:=by
 obtain⟨xs,ho,hN⟩:=h;exact⟨xs,ho,zdu ho.1 hN,fun hb hB ho'=>⟨⟨xs,z8E ho' hB,fun q p hq=>(hN q p hq).below hb⟩,fun q p hq=>(hN q p hq).below hb⟩⟩
theorem z8F.grown{w w':World}{B:Nat}{xs ys:List Value}{q:Nat}{p:z4Q}{e:TypeId}{size m:Nat}{v:Value}{zs:List Value}{C:Nat}(h:z8F w B xs q p)(ho:w.ownsRow C 34 size v m zs)(hg:w.grownBy w' v.ownBlock)(hc:∀ c,c<8->ys[q*8+c]?=xs[q*8+c]?):z8F w' B ys q p:=by
 obtain⟨lv,nv,h1,h2,h3⟩:=h;refine⟨lv,nv,fun c u hu=>?_,h2.kept hg (za7 h2 ho (by decide)),h3.kept hg (za7 h3 ho (by decide))⟩
 have hlt:c<8:=(List.getElem?_eq_some_iff.1 hu).1;rw[hc c hlt];exact h1 c u hu
theorem z8G.bent{w:World}{B G n c k:Nat}{ns:List z4Q}{p:z4Q}{K:Int}(h:z8G w B (.slice (some ⟨G,0,none⟩) n c) ns)(hn:ns.length=n)(hk:ns[k]?=some p):z8G (w.setCell ⟨G,k*8,none⟩ (.int .i64 K)) B (.slice (some ⟨G,0,none⟩) n c) (ns.set k { p with kind:=K })/\w.grownBy (w.setCell ⟨G,k*8,none⟩ (.int .i64 K)) (some G):=by
 obtain⟨xs,ho,hN⟩:=h;rw[hn]at ho;obtain⟨s1,g1⟩:=ho.stored (k*8) (.int .i64 K);have hkl:k<ns.length:=(List.getElem?_eq_some_iff.1 hk).1;have hxl:=ho.1;refine⟨⟨_,by rw[List.length_set,hn];exact s1,fun q r hq=>?_⟩,g1⟩
 rcases Nat.decEq k q with e|e
 ·rw[List.getElem?_set_ne e]at hq;refine(hN q r hq).grown (e:=34) ho g1 fun c hc=>?_;rw[List.getElem?_set_ne (by omega)]
 ·subst e;rw[List.getElem?_set_self hkl]at hq;injection hq with hq;subst hq;obtain⟨lv,nv,h1,h2,h3⟩:=hN k p hk;refine⟨lv,nv,fun c u hu=>?_,h2.kept g1 (za7 h2 ho (by decide)),h3.kept g1 (za7 h3 ho (by decide))⟩
  match c,hu with
  | 0,hu=>
   have:u=.int .i64 K:=by
    unfold z4R at hu;simpa using hu.symm
   rw[this,Nat.add_zero,List.getElem?_set_self (by omega)]
  | c+1,hu=>
   rw[List.getElem?_set_ne (by omega)]
   exact h1 (c+1) u hu
theorem z8G.more{w w':World}{B C:Nat}{v v':Value}{ns:List z4Q}{p:z4Q}{xs:List Value}(hN:∀ q p,ns[q]?=some p->z8F w B xs q p)(ho:w.ownsRow C 34 8 v ns.length xs)(hg:w.grownBy w' v.ownBlock)(hB:B<=C)(ho':w'.ownsRow C 34 8 v' (ns.length+1) (xs++z4R p (.slice none 0 0) (.slice none 0 0)))(h1:p.list=[])(h2:p.names=[]):z8G w' B v' (ns++[p]):=by
 have hxl:=ho.1;refine⟨_,by rw[List.length_append];exact z8E ho' hB,fun q r hq=>?_⟩
 rcases Nat.lt_or_ge q ns.length with k|k
 ·rw[List.getElem?_append_left k]at hq;refine(hN q r hq).grown (e:=34) ho hg fun c hc=>?_;rw[List.getElem?_append_left (by omega)]
 ·have hql:q<(ns++[p]).length:=(List.getElem?_eq_some_iff.1 hq).1;rw[List.length_append]at hql;simp at hql;have e:q=ns.length:=by omega
  subst e;rw[List.getElem?_append_right (yf9 _)]at hq;simp at hq;subst hq;refine⟨.slice none 0 0,.slice none 0 0,fun c u hu=>?_,by rw[h1];exact⟨by simp,.inl ⟨rfl,rfl⟩⟩,by rw[h2];exact⟨by simp,.inl ⟨rfl,rfl⟩⟩⟩
  rw[List.getElem?_append_right (by omega),show ns.length*8+c-xs.length=c by omega]
  exact hu
theorem z8G.less{w:World}{B G m c:Nat}{ns:List z4Q}(h:z8G w B (.slice (some ⟨G,0,none⟩) (m+1) c) ns)(hn:ns.length=m+1):z8G w B (.slice (some ⟨G,0,none⟩) m c) (ns.take m):=by
 obtain⟨xs,ho,hN⟩:=h;rw[hn]at ho;have hxl:=ho.1;have lt:(ns.take m).length=m:=by rw[List.length_take];omega
 refine⟨xs.take (m*8),?_,fun q p hq=>?_⟩
 ·rw[lt];rcases ho.2 with ⟨e1,_⟩|⟨g',cap',cur,e1,hb,hg,h1,h2,h3,h4⟩
  ·cases e1
  ·injection e1 with e1 e2 e3;injection e1 with e1;injection e1 with e1;subst e1;subst e3;refine⟨by rw[List.length_take];omega,.inr ⟨G,c,cur,rfl,hb,hg,by omega,h2,h3,?_⟩⟩
   rw[←h4,List.take_take];congr 1
   omega
 ·have hql:q<(ns.take m).length:=(List.getElem?_eq_some_iff.1 hq).1;rw[lt]at hql;rw[List.getElem?_take_of_lt hql]at hq;obtain⟨lv,nv,h1,h2,h3⟩:=hN q p hq;refine⟨lv,nv,fun c' u hu=>?_,h2,h3⟩;have hlt:c'<8:=(List.getElem?_eq_some_iff.1 hu).1;rw[List.getElem?_take_of_lt (by omega)]
  exact h1 c' u hu
def zdv(x y:z4Q):Prop:=x.kind=y.kind/\x.a=y.a/\x.b=y.b/\x.c=y.c/\x.num=y.num/\x.list=y.list/\x.names=y.names
def zdw(a b:List z4Q):Prop:=a.length=b.length/\∀(q:Nat) (x y:z4Q),a[q]?=some x->b[q]?=some y->zdv x y
def Says(r:Bool)(P:Prop):Prop:=r=true↔P
theorem zdx{P:Prop}(h:P):Says true P:=⟨fun _=>h,fun _=>rfl⟩
theorem zdy{P:Prop}(h:¬ P):Says false P:=by unfold Says;simp[h]
theorem zdz{a b:List z4Q}{q:Nat}{x y:z4Q}(hx:a[q]?=some x)(hy:b[q]?=some y)(h:¬ zdv x y):¬ zdw a b:=fun k=>h (k.2 q x y hx hy)
theorem zdA{w:World}{B:Nat}{v:Value}{l:List Int}(h:w.ownsRow B 3 1 v l.length (l.map (Value.int .i64))):∃ x c,v=.slice x l.length c/\l.length<=maxLen/\(0<l.length->∃ g,x=some ⟨g,0,none⟩/\g<w.heap.size/\∀ j,j<l.length->w.cell? ⟨g,j,none⟩=some (.int .i64 (l.getD j 0))):=by
 obtain⟨x,c,e,hm,_,hc⟩:=z8H h;refine⟨x,c,e,hm,fun h0=>?_⟩;obtain⟨g,e1,e2,e3⟩:=hc h0;exact⟨g,e1,e2,fun j hj=>e3 j _ (by rw[List.getElem?_map,yd9 hj,List.getD,yd9 hj];rfl)⟩
theorem zdB{w:World}{B:Nat}{v:Value}{l:List ByteArray}(h:w.ownsRow B 9 1 v l.length (l.map Value.string)):∃ x c,v=.slice x l.length c/\l.length<=maxLen/\(0<l.length->∃ g,x=some ⟨g,0,none⟩/\g<w.heap.size/\∀ j,j<l.length->w.cell? ⟨g,j,none⟩=some (.string (l.getD j ByteArray.empty))):=by
 obtain⟨x,c,e,hm,_,hc⟩:=z8H h;refine⟨x,c,e,hm,fun h0=>?_⟩;obtain⟨g,e1,e2,e3⟩:=hc h0;exact⟨g,e1,e2,fun j hj=>e3 j _ (by rw[List.getElem?_map,yd9 hj,List.getD,yd9 hj];rfl)⟩
end Go.Proofs.YtdbekjiognpgnaaGreat
namespace Go.Proofs.YtdbekjiognpgnaaGreat
open Go.Lib Go.RowKit Go.Shelf in
def Tryz.lays110_ren:Go.Shelf.Ren:=⟨fun|110=>91|109=>103|n=>n,fun|31=>31|9=>9|4=>4|3=>3|0=>0|n=>n,fun|n=>n⟩
def Tryz.lays111_ren:Go.Shelf.Ren:=⟨fun|111=>36|n=>n,fun|28=>29|3=>3|4=>4|0=>0|n=>n,fun|n=>n⟩
theorem Tryz.lays111:Go.Proofs.Lays.n111 Tryz.prog Tryz.lays111_ren:={
 mixed:=by kernel_rfl
 f111:=Tryz.func36.trans (congrArg some (by kernel_rfl))
 t0:=Tryz.underlying0
 a0:=Tryz.isAgg0
 z0:=Tryz.sizeOf0
 v0:=Tryz.zeroValue0
 t3:=Tryz.underlying3
 a3:=Tryz.isAgg3
 z3:=Tryz.sizeOf3
 v3:=Tryz.zeroValue3
 t4:=Tryz.underlying4
 a4:=Tryz.isAgg4
 z4:=Tryz.sizeOf4
 v4:=Tryz.zeroValue4
 t28:=Tryz.underlying29
 a28:=Tryz.isAgg29
 z28:=Tryz.sizeOf29
 v28:=Tryz.zeroValue29 }
theorem Tryz.slices_Equal_int(b1 o1 n c b2 o2 m d:Nat)(xs ys:List Int)(w:World)(hx:n<=xs.length)(hy:m<=ys.length)(hbig:n<=9223372036854775807)(hbig2:m<=9223372036854775807)(hc1:∀ j,j<xs.length->w.cell? ⟨b1,o1+j,none⟩=some (.int .i64 (xs.getD j 0)))(hc2:∀ j,j<ys.length->w.cell? ⟨b2,o2+j,none⟩=some (.int .i64 (ys.getD j 0))):
  Calls Tryz.prog 36 #[.slice (some ⟨b1,o1,none⟩) n c,.slice (some ⟨b2,o2,none⟩) m d] w fun e w'=>e=.returned (.bool (xs.take n==ys.take m))/\∃ q,w'=w.drewN q:=Any.slices_Equal_int Tryz.lays111 b1 o1 n c b2 o2 m d xs ys w hx hy hbig hbig2 hc1 hc2
theorem Tryz.slices_Equal_int_empty(a1 a2:Option Addr)(c m d:Nat)(w:World)(hbig2:m<=9223372036854775807):
  Calls Tryz.prog 36 #[.slice a1 0 c,.slice a2 m d] w fun e w'=>e=.returned (.bool (decide (m=0)))/\w'=w:=Any.slices_Equal_int_empty Tryz.lays111 a1 a2 c m d w hbig2
def Tryz.lays193_ren:Go.Shelf.Ren:=⟨fun|193=>37|n=>n,fun|31=>31|9=>9|4=>4|3=>3|0=>0|n=>n,fun|n=>n⟩
theorem Tryz.lays193:Go.Proofs.Lays.n193 Tryz.prog Tryz.lays193_ren:={
 mixed:=by kernel_rfl
 f193:=Tryz.func37.trans (congrArg some (by kernel_rfl))
 t0:=Tryz.underlying0
 a0:=Tryz.isAgg0
 z0:=Tryz.sizeOf0
 v0:=Tryz.zeroValue0
 t3:=Tryz.underlying3
 a3:=Tryz.isAgg3
 z3:=Tryz.sizeOf3
 v3:=Tryz.zeroValue3
 t4:=Tryz.underlying4
 a4:=Tryz.isAgg4
 z4:=Tryz.sizeOf4
 v4:=Tryz.zeroValue4
 t9:=Tryz.underlying9
 a9:=Tryz.isAgg9
 z9:=Tryz.sizeOf9
 v9:=Tryz.zeroValue9
 t31:=Tryz.underlying31
 a31:=Tryz.isAgg31
 z31:=Tryz.sizeOf31
 v31:=Tryz.zeroValue31 }
theorem Tryz.slices_Equal_string(b1 o1 n c b2 o2 m d:Nat)(xs ys:List ByteArray)(w:World)(hx:n<=xs.length)(hy:m<=ys.length)(hbig:n<=9223372036854775807)(hbig2:m<=9223372036854775807)(hc1:∀ j,j<xs.length->w.cell? ⟨b1,o1+j,none⟩=some (.string (xs.getD j ByteArray.empty)))(hc2:∀ j,j<ys.length->w.cell? ⟨b2,o2+j,none⟩=some (.string (ys.getD j ByteArray.empty))):
  Calls Tryz.prog 37 #[.slice (some ⟨b1,o1,none⟩) n c,.slice (some ⟨b2,o2,none⟩) m d] w fun e w'=>e=.returned (.bool (decide (xs.take n=ys.take m)))/\∃ q,w'=w.drewN q:=Any.slices_Equal_string Tryz.lays193 b1 o1 n c b2 o2 m d xs ys w hx hy hbig hbig2 hc1 hc2
theorem Tryz.slices_Equal_string_empty(a1 a2:Option Addr)(c m d:Nat)(w:World)(hbig2:m<=9223372036854775807):
  Calls Tryz.prog 37 #[.slice a1 0 c,.slice a2 m d] w fun e w'=>e=.returned (.bool (decide (m=0)))/\w'=w:=Any.slices_Equal_string_empty Tryz.lays193 a1 a2 c m d w hbig2
theorem Tryz.slices_Equal_int_lens(a1 a2:Option Addr)(n c m d:Nat)(w:World)(hnm:n≠m):
  Calls Tryz.prog 36 #[.slice a1 n c,.slice a2 m d] w fun e w'=>e=.returned (.bool false)/\w'=w:=Any.slices_Equal_int_lens Tryz.lays111 a1 a2 n c m d w hnm
theorem Tryz.slices_Equal_string_lens(a1 a2:Option Addr)(n c m d:Nat)(w:World)(hnm:n≠m):
  Calls Tryz.prog 37 #[.slice a1 n c,.slice a2 m d] w fun e w'=>e=.returned (.bool false)/\w'=w:=Any.slices_Equal_string_lens Tryz.lays193 a1 a2 n c m d w hnm
end Go.Proofs.YtdbekjiognpgnaaGreat
namespace Go.Proofs.YtdbekjiognpgnaaGreat
open Go.RowKit Go.Sort
theorem zdC(B B':Nat)(a b:Value)(l m:List Int)(w:World)(ha:w.ownsRow B 3 1 a l.length (l.map (Value.int .i64)))(hb:w.ownsRow B' 3 1 b m.length (m.map (Value.int .i64))):
  Calls Tryz.prog 36 #[a,b] w fun e w'=>∃ r:Bool,e=.returned (.bool r)/\Says r (l=m)/\Below w.heap.size w w':=by
 obtain⟨xa,ca,rfl,hm1,oa⟩:=zdA ha;obtain⟨xb,cb,rfl,hm2,ob⟩:=zdA hb;unfold maxLen at hm1 hm2;by_cases hl:l.length=m.length
 ·by_cases h0:l.length=0
  ·have e1:l=[]:=List.eq_nil_of_length_eq_zero h0;have e2:m=[]:=List.eq_nil_of_length_eq_zero (by omega)
   subst e1 e2;refine(Tryz.slices_Equal_int_empty xa xb ca 0 cb w (by omega)).mono ?_
   rintro e w' ⟨rfl,rfl⟩;exact⟨true,rfl,zdx rfl,yg9 _ _⟩
  ·obtain⟨g1,rfl,_,c1⟩:=oa (by omega)
   obtain⟨g2,rfl,_,c2⟩:=ob (by omega)
   refine(Tryz.slices_Equal_int g1 0 l.length ca g2 0 m.length cb l m w (yf9 _) (yf9 _) (by omega) (by omega) (fun j hj=>by rw[Nat.zero_add];exact c1 j hj) (fun j hj=>by rw[Nat.zero_add];exact c2 j hj)).mono ?_
   rintro e w' ⟨rfl,q,rfl⟩;refine⟨_,rfl,?_,below_drewN (yg9 _ _) _⟩;unfold Says;rw[List.take_length,List.take_length];exact beq_iff_eq
 ·refine(Tryz.slices_Equal_int_lens xa xb l.length ca m.length cb w hl).mono ?_;rintro e w' ⟨rfl,rfl⟩;exact⟨false,rfl,zdy fun h=>hl (congrArg List.length h),yg9 _ _⟩
theorem zdD(B B':Nat)(a b:Value)(l m:List ByteArray)(w:World)(ha:w.ownsRow B 9 1 a l.length (l.map Value.string))(hb:w.ownsRow B' 9 1 b m.length (m.map Value.string)):
  Calls Tryz.prog 37 #[a,b] w fun e w'=>∃ r:Bool,e=.returned (.bool r)/\Says r (l=m)/\Below w.heap.size w w':=by
 obtain⟨xa,ca,rfl,hm1,oa⟩:=zdB ha;obtain⟨xb,cb,rfl,hm2,ob⟩:=zdB hb;unfold maxLen at hm1 hm2;by_cases hl:l.length=m.length
 ·by_cases h0:l.length=0
  ·have e1:l=[]:=List.eq_nil_of_length_eq_zero h0;have e2:m=[]:=List.eq_nil_of_length_eq_zero (by omega)
   subst e1 e2;refine(Tryz.slices_Equal_string_empty xa xb ca 0 cb w (by omega)).mono ?_
   rintro e w' ⟨rfl,rfl⟩;exact⟨true,rfl,zdx rfl,yg9 _ _⟩
  ·obtain⟨g1,rfl,_,c1⟩:=oa (by omega)
   obtain⟨g2,rfl,_,c2⟩:=ob (by omega)
   refine(Tryz.slices_Equal_string g1 0 l.length ca g2 0 m.length cb l m w (yf9 _) (yf9 _) (by omega) (by omega) (fun j hj=>by rw[Nat.zero_add];exact c1 j hj) (fun j hj=>by rw[Nat.zero_add];exact c2 j hj)).mono ?_
   rintro e w' ⟨rfl,q,rfl⟩;refine⟨_,rfl,?_,below_drewN (yg9 _ _) _⟩;unfold Says;rw[List.take_length,List.take_length];exact decide_eq_true_iff
 ·refine(Tryz.slices_Equal_string_lens xa xb l.length ca m.length cb w hl).mono ?_;rintro e w' ⟨rfl,rfl⟩;exact⟨false,rfl,zdy fun h=>hl (congrArg List.length h),yg9 _ _⟩
theorem zdE(B B':Nat)(x y:z4Q)(l1 n1 l2 n2:Value)(w:World)(ha1:w.ownsRow B 3 1 l1 x.list.length (x.list.map (Value.int .i64)))(ha2:w.ownsRow B 9 1 n1 x.names.length (x.names.map Value.string))
  (hb1:w.ownsRow B' 3 1 l2 y.list.length (y.list.map (Value.int .i64))) (hb2:w.ownsRow B' 9 1 n2 y.names.length (y.names.map Value.string)):
  Calls Tryz.prog 18 #[.agg #[.int .i64 x.kind,.int .i64 x.a,.int .i64 x.b,.int .i64 x.c,l1,n1,.int .u64 (x.num:Int),.int .i64 x.pos],.agg #[.int .i64 y.kind,.int .i64 y.a,.int .i64 y.b,.int .i64 y.c,l2,n2,.int .u64 (y.num:Int),.int .i64 y.pos]] w fun e w'=>∃ r:Bool,e=.returned (.bool r)/\Says r (zdv x y)/\Below w.heap.size w w':=by
 obtain⟨k1,a1,b1,c1,L1,M1,u1,p1⟩:=x;obtain⟨k2,a2,b2,c2,L2,M2,u2,p2⟩:=y;simp only at ha1 ha2 hb1 hb2 ⊢;have T:=z8I w (.cells #[.int .i64 k1,.int .i64 a1,.int .i64 b1,.int .i64 c1,l1,n1,.int .u64 (u1:Int),.int .i64 p1] 34) (.cells #[.int .i64 k2,.int .i64 a2,.int .i64 b2,.int .i64 c2,l2,n2,.int .u64 (u2:Int),.int .i64 p2] 34);obtain⟨W2,hW2⟩:∃ W,((w.alloc (.cells #[.int .i64 k1,.int .i64 a1,.int .i64 b1,.int .i64 c1,l1,n1,.int .u64 (u1:Int),.int .i64 p1] 34)).alloc (.cells #[.int .i64 k2,.int .i64 a2,.int .i64 b2,.int .i64 c2,l2,n2,.int .u64 (u2:Int),.int .i64 p2] 34))=W:=⟨_,rfl⟩;rw[hW2]at T;obtain⟨q0,q1,tz,tb⟩:=T;have cI:=fun W (hb:Below w.heap.size w W)=>zdC B B' l1 l2 L1 L2 W (z8B ha1 hb) (z8B hb1 hb);have cS:=fun W (hb:Below w.heap.size w W)=>zdD B B' n1 n2 M1 M2 W (z8B ha2 hb) (z8B hb2 hb);clear ha1 ha2 hb1 hb2;obtain⟨S,hS⟩:∃ S:Prop,zdv ⟨k1,a1,b1,c1,L1,M1,u1,p1⟩ ⟨k2,a2,b2,c2,L2,M2,u2,p2⟩=S:=⟨_,rfl⟩;have HS:Hid (S=(k1=k2/\a1=a2/\b1=b2/\c1=c2/\u1=u2/\L1=L2/\M1=M2)):=hS.symm;rw[hS];clear hS;obtain⟨G,hG⟩:∃ G,w.heap.size=G:=⟨_,rfl⟩;rw[hG]at q0 q1 tz;obtain⟨f0,f1,f2,f3,f4,f5,f6,f7⟩:=z8C q0;obtain⟨g0,g1,g2,g3,g4,g5,g6,g7⟩:=z8C q1;have HC1:Hid (W2.heap[G]?=some (.cells #[.int .i64 k1,.int .i64 a1,.int .i64 b1,.int .i64 c1,l1,n1,.int .u64 (u1:Int),.int .i64 p1] 34)):=q0;have HC2:Hid (W2.heap[G+1]?=some (.cells #[.int .i64 k2,.int .i64 a2,.int .i64 b2,.int .i64 c2,l2,n2,.int .u64 (u2:Int),.int .i64 p2] 34)):=q1;clear q0 q1;go_enter Tryz.func18,Tryz.ntmps18;go_upto_region 1 with fail;try simp only[hW2,hG]
 clear hW2;by_cases h0:¬ k1=k2
 ·have hne:((k1:Int)==(k2:Int))=false:=by rw[yc9];omega
  have HN2:Hid (¬ S):=fun k=>by rw[HS.out]at k;exact h0 k.1
  clear HS HC1 HC2 cI cS h0;go_wp2;go_ret;exact⟨_,rfl,zdy HN2.out,tb⟩
 rw[Decidable.not_not]at h0;subst h0;by_cases h1:¬ a1=a2
 ·have hne:((a1:Int)==(a2:Int))=false:=by rw[yc9];omega
  have HN2:Hid (¬ S):=fun k=>by rw[HS.out]at k;exact h1 k.2.1
  clear HS HC1 HC2 cI cS h1;go_wp2;go_ret;exact⟨_,rfl,zdy HN2.out,tb⟩
 rw[Decidable.not_not]at h1;subst h1;by_cases h2:¬ b1=b2
 ·have hne:((b1:Int)==(b2:Int))=false:=by rw[yc9];omega
  have HN2:Hid (¬ S):=fun k=>by rw[HS.out]at k;exact h2 k.2.2.1
  clear HS HC1 HC2 cI cS h2;go_wp2;go_ret;exact⟨_,rfl,zdy HN2.out,tb⟩
 rw[Decidable.not_not]at h2;subst h2;by_cases h3:¬ c1=c2
 ·have hne:((c1:Int)==(c2:Int))=false:=by rw[yc9];omega
  have HN2:Hid (¬ S):=fun k=>by rw[HS.out]at k;exact h3 k.2.2.2.1
  clear HS HC1 HC2 cI cS h3;go_wp2;go_ret;exact⟨_,rfl,zdy HN2.out,tb⟩
 rw[Decidable.not_not]at h3;subst h3;by_cases h4:¬ u1=u2
 ·have hne:((u1:Int)==(u2:Int))=false:=by rw[yc9];omega
  have HN2:Hid (¬ S):=fun k=>by rw[HS.out]at k;exact h4 k.2.2.2.2.1
  clear HS HC1 HC2 cI cS h4;go_wp2;go_ret;exact⟨_,rfl,zdy HN2.out,tb⟩
 rw[Decidable.not_not]at h4;subst h4;go_wp2_with fail;refine(cI W2 tb).mono ?_;rintro e w3 ⟨r1,rfl,hr1,b3⟩;obtain⟨i0,i1,i2,i3,i4,i5,i6,i7⟩:=z8C ((b3.block G (by omega)).trans HC1.out)
 obtain⟨j0,j1,j2,j3,j4,j5,j6,j7⟩:=z8C ((b3.block (G+1) (by omega)).trans HC2.out)
 have tb3:=tb.trans (b3.mono (by omega))
 have HR1:Hid (Says r1 (L1=L2)):=hr1;clear f0 f1 f2 f3 f4 f5 f6 f7 g0 g1 g2 g3 g4 g5 g6 g7 cI hr1 HC1 HC2;cases r1
 ·have HN2:Hid (¬ S):=fun k=>by
   rw[HS.out]at k;have:=HR1.out.2 k.2.2.2.2.2.1;cases this
  clear HS HR1 cS;go_wp2;go_ret;exact⟨_,rfl,zdy HN2.out,tb3⟩
 ·go_wp2_with fail;refine(cS w3 tb3).mono ?_;rintro e w4 ⟨r2,rfl,hr2,b4⟩;have tb4:=tb3.trans (b4.mono (by have:=tb3.size;omega))
  have HR2:Hid (Says r2 S):=by
   rw[HS.out];unfold Says at hr2 ⊢;have e:=HR1.out.1 rfl;rw[hr2];exact⟨fun h=>by refine⟨?_,?_,?_,?_,?_,e,h⟩<;>first|trivial|rfl,fun h=>h.2.2.2.2.2.2⟩
  clear HS HR1 hr2 cS;go_wp2;go_ret;exact⟨_,rfl,HR2.out,tb4⟩
theorem zdF(B B':Nat)(a b:Value)(ns ms:List z4Q)(w:World)(ha:z8G w B a ns)(hb:z8G w B' b ms):
  Calls Tryz.prog 17 #[a,b,Value.func (Fn.func 18) #[] #[]] w fun e w'=>∃ r:Bool,e=.returned (.bool r)/\Says r (zdw ns ms)/\Below w.heap.size w w':=by
 obtain⟨xa,ca,rfl,hm,oa⟩:=ha.opened;obtain⟨xb,cb,rfl,hm2,ob⟩:=hb.opened;clear ha hb;unfold maxLen at hm hm2;by_cases hlen:¬ ns.length=ms.length
 ·have hne:(((ns.length:Int))==(ms.length:Int))=false:=by rw[yc9];omega
  have HF:Hid (¬ zdw ns ms):=fun h=>hlen h.1;clear oa ob hlen;go_enter Tryz.func17,Tryz.ntmps17;go_wp2;go_ret;exact⟨_,rfl,zdy HF.out,yg9 _ _⟩
 ·obtain⟨n,hn⟩:∃ n,ns.length=n:=⟨_,rfl⟩;have hn2:ms.length=n:=by omega
  have HN:Hid (ns.length=n/\ms.length=n):=⟨hn,hn2⟩;rw[hn]at hm oa ⊢;rw[hn2]at hm2 ob ⊢;clear hn hn2 hlen hm2;have HA:Hid (0<n->∃ g,xa=some ⟨g,0,none⟩/\∀ q p,ns[q]?=some p->∃ lv nv,z8J w B g (q*8) p lv nv):=oa;have HB:Hid (0<n->∃ g,xb=some ⟨g,0,none⟩/\∀ q p,ms[q]?=some p->∃ lv nv,z8J w B' g (q*8) p lv nv):=ob;clear oa ob;go_enter Tryz.func17,Tryz.ntmps17;go_wp2;go_loopw [17] (fun i wr=>∃ k:Nat,k<=n/\i=.int .i64 k/\Below w.heap.size w wr/\Hid (∀(q:Nat) (x y:z4Q),q<k->ns[q]?=some x->ms[q]?=some y->zdv x y)) (fun i _=>n-(intOf i).toNat)
  case atStart=>exact⟨0,yj9 _,rfl,yg9 _ _,fun q x y hq=>absurd hq (Nat.not_lt_zero _)⟩
  case round=>
   obtain⟨k,hk,rfl,hbel,HS⟩:=hrel;by_cases hlt:k<n
   ·obtain⟨ga,rfl,hca⟩:=HA.out (by omega)
    obtain⟨gb,rfl,hcb⟩:=HB.out (by omega)
    obtain⟨x,hx⟩:∃ p,ns[k]?=some p:=⟨_,yd9 (by have:=HN.out.1;omega)⟩
    obtain⟨y,hy⟩:∃ p,ms[k]?=some p:=⟨_,yd9 (by have:=HN.out.2;omega)⟩
    obtain⟨l1,n1,hA⟩:=hca k x hx;obtain⟨l2,n2,hB⟩:=hcb k y hy;have hA':=hA.below hbel;have hB':=hB.below hbel;have HF:Hid (¬ zdv x y->¬ zdw ns ms):=fun h=>zdz hx hy h;have HS2:Hid (zdv x y->∀(q:Nat) (x y:z4Q),q<k+1->ns[q]?=some x->ms[q]?=some y->zdv x y):=fun h q x' y' hq hx' hy'=>by
     rcases Nat.lt_or_ge q k with h'|h'
     ·exact HS.out q x' y' h' hx' hy'
     ·have e:q=k:=by omega
      subst e;rw[hx]at hx';rw[hy]at hy';injection hx' with hx';injection hy' with hy';subst hx' hy';exact h
    clear hca hcb hx hy hA hB HA HB HS;obtain⟨z1,zc1,rfl,_,_⟩:=zdA hA'.list;obtain⟨z2,zc2,rfl,_,_⟩:=zdA hB'.list;obtain⟨t1,tc1,rfl,_,_⟩:=zdB hA'.names;obtain⟨t2,tc2,rfl,_,_⟩:=zdB hB'.names;have cN:=fun W (hb:Below wr.heap.size wr W)=>zdE B B' x y _ _ _ _ W (hA'.below hb).list (hA'.below hb).names (hB'.below hb).list (hB'.below hb).names;obtain⟨hl1,hn1,d0,d1,d2,d3,d4,d5,d6,d7⟩:=hA';obtain⟨hl2,hn2,e0,e1,e2,e3,e4,e5,e6,e7⟩:=hB';clear hl1 hl2 hn1 hn2;have hki:(k:Int)<(n:Int):=by omega
    have hk0:(0:Int)<=(k:Int):=by omega
    have hga:ga<wr.heap.size:=World.block_lt_of_cell? wr _ d0;have hgb:gb<wr.heap.size:=World.block_lt_of_cell? wr _ e0;have T:=z8I wr (.cells #[.int .i64 x.kind,.int .i64 x.a,.int .i64 x.b,.int .i64 x.c,.slice z1 x.list.length zc1,.slice t1 x.names.length tc1,.int .u64 (x.num:Int),.int .i64 x.pos] 34) (.cells #[.int .i64 y.kind,.int .i64 y.a,.int .i64 y.b,.int .i64 y.c,.slice z2 y.list.length zc2,.slice t2 y.names.length tc2,.int .u64 (y.num:Int),.int .i64 y.pos] 34);go_upto_region 7 with fail;obtain⟨W2,hW2⟩:∃ W,((wr.alloc (.cells #[.int .i64 x.kind,.int .i64 x.a,.int .i64 x.b,.int .i64 x.c,.slice z1 x.list.length zc1,.slice t1 x.names.length tc1,.int .u64 (x.num:Int),.int .i64 x.pos] 34)).alloc (.cells #[.int .i64 y.kind,.int .i64 y.a,.int .i64 y.b,.int .i64 y.c,.slice z2 y.list.length zc2,.slice t2 y.names.length tc2,.int .u64 (y.num:Int),.int .i64 y.pos] 34))=W:=⟨_,rfl⟩;rw[hW2]at T;try simp only[hW2]
    clear hW2 d0 d1 d2 d3 d4 d5 d6 d7 e0 e1 e2 e3 e4 e5 e6 e7;obtain⟨q0,q1,tz,tb⟩:=T;obtain⟨G,hG⟩:∃ G,wr.heap.size=G:=⟨_,rfl⟩;have cN2:=cN W2 tb;have tb2:Below w.heap.size w W2:=z01 hbel tb;rw[hG]at q0 q1 tz;try simp only[hG]
    obtain⟨f0,f1,f2,f3,f4,f5,f6,f7⟩:=z8C q0;obtain⟨g0,g1,g2,g3,g4,g5,g6,g7⟩:=z8C q1;clear q0 q1 cN hga hgb;go_wp2_with fail;refine cN2.mono ?_;rintro e w3 ⟨r,rfl,hr,b3⟩;have tb3:=tb2.trans (b3.mono (by have:=tb2.size;omega))
    cases r
    ·have HN2:Hid (¬ zdw ns ms):=HF.out fun h=>by have:=hr.2 h;cases this
     clear HF HS2 hr cN2;go_wp2;go_ret;exact⟨_,rfl,zdy HN2.out,tb3⟩
    ·have HE2:Hid (∀(q:Nat) (x y:z4Q),q<k+1->ns[q]?=some x->ms[q]?=some y->zdv x y):=HS2.out (hr.1 rfl);clear HF HS2 hr cN2;go_wp2;go_roundw
     case rel=>exact⟨k+1,by omega,by go_num,tb3,HE2⟩
     case measure=>simp[intOf];omega
   ·have hkn:k=n:=by omega
    subst hkn;have HT:Hid (zdw ns ms):=⟨HN.out.1.trans HN.out.2.symm,fun q x y hx hy=>HS.out q x y (by rw[←HN.out.1];exact(List.getElem?_eq_some_iff.1 hx).1) hx hy⟩
    go_wp2;go_ret;exact⟨_,rfl,zdx HT.out,hbel⟩
theorem zdG(B B':Nat)(a b:Value)(ns ms:List z4Q)(w:World)(ha:z8G w B a ns)(hb:z8G w B' b ms):
  Calls Tryz.prog 7 #[a,b] w fun e w'=>∃ r:Bool,e=.returned (.bool r)/\Says r (zdw ns ms)/\Below w.heap.size w w':=by
 have c:=zdF B B' a b ns ms w ha hb;clear ha hb;go_enter Tryz.func7,Tryz.ntmps7;go_wp2_with fail;refine c.mono ?_;rintro e w1 ⟨r,rfl,hr,b1⟩;have HR:Hid (Says r (zdw ns ms)):=hr;clear hr c;go_wp2;go_ret;exact⟨_,rfl,HR.out,b1⟩
