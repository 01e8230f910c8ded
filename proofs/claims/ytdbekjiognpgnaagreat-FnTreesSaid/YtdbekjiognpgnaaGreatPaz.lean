/- Part 26. -/
import Derived.Test.YtdbekjiognpgnaaGreatPay
set_option maxHeartbeats 16000000
set_option maxRecDepth 100000
set_option linter.unusedVariables false
namespace Go.Proofs.YtdbekjiognpgnaaGreat
open Go.RowKit Go.Sort
structure zaJ(w0:World)(F:Nat->Prop)(n b:Nat)(s:RS)(A:Nat)(w:World):Prop where
 low:Below w0.heap.size w0 w
 places:∃ xs,w.ownsRow w0.heap.size 166 4 s.pv s.P xs/\∀ x∈xs,x.oneCell'=true
 opens:∃ xs,w.ownsRow w0.heap.size 164 4 s.qv s.K xs/\za3 xs s.K s.P
 ofs:∃ xs,w.ownsRow w0.heap.size 3 1 s.ov n xs
 around:∃ ms:List Int,ms.length=A/\w.ownsRow w0.heap.size 3 1 s.av A (ms.map (Value.int .i64))
 seen:w.ownsRow w0.heap.size 29 1 s.sv s.rows.length s.rows
 caps:∃ xs,w.ownsRow w0.heap.size 29 1 s.cv n xs
 rows:∀ r∈s.rows,za4 w0.heap.size b w r
 apart:(s.ov::s.av::s.rows).Pairwise za2
 apart2:za2 s.sv s.cv
 some1:1<=s.rows.length
 n1:1<=n
 hn:n<=10000
 hP:s.P<=b
 hK:s.K<=b
 hM:s.rows.length<=b
 hb:b<=10000
 free:∀ r∈s.ov::s.av::s.rows,∀ g,r.ownBlock=some g->¬ F g
 flt:∀ g,F g->g<w.heap.size
variable {F:Nat->Prop} {w0 w w':World} {n b A:Nat} {s:RS}
theorem zaJ.ints(h:zaJ w0 F n b s A w):∀ r∈s.ov::s.av::s.rows,∃ m xs,w.ownsRow w0.heap.size 3 1 r m xs:=by
 intro r hr;rcases List.mem_cons.1 hr with rfl|hr
 ·obtain⟨xs,k⟩:=h.ofs;exact⟨_,xs,k⟩
 rcases List.mem_cons.1 hr with rfl|hr
 ·obtain⟨ms,_,k⟩:=h.around;exact⟨_,_,k⟩
 ·obtain⟨ms,_,k⟩:=h.rows r hr;exact⟨_,_,k⟩
theorem zaJ.kept{row:Option Nat}(h:zaJ w0 F n b s A w)(hg:w.grownBy w' row)(hlow:∀ k,row=some k->w0.heap.size<=k)
  (k1:s.pv.ownBlock=none\/s.pv.ownBlock≠row) (k2:s.qv.ownBlock=none\/s.qv.ownBlock≠row) (k3:∀ r∈s.ov::s.av::s.rows,r.ownBlock=none\/r.ownBlock≠row) (k4:s.sv.ownBlock=none\/s.sv.ownBlock≠row) (k5:s.cv.ownBlock=none\/s.cv.ownBlock≠row):zaJ w0 F n b s A w':=by
 have hs:=h.low.size;obtain⟨xs1,a1,a2⟩:=h.places;obtain⟨xs2,b1,b2⟩:=h.opens;obtain⟨xs3,c1⟩:=h.ofs;obtain⟨ms,d1,d2⟩:=h.around;obtain⟨xs4,e1⟩:=h.caps;refine⟨h.low.grown hg hs hlow,⟨xs1,a1.kept hg k1,a2⟩,⟨xs2,b1.kept hg k2,b2⟩,⟨xs3,c1.kept hg (k3 _ (by simp))⟩,⟨ms,d1,d2.kept hg (k3 _ (by simp))⟩,h.seen.kept hg k4,⟨xs4,e1.kept hg k5⟩,fun r hr=>?_,h.apart,h.apart2,h.some1,h.n1,h.hn,h.hP,h.hK,h.hM,h.hb,h.free,fun g hF=>Nat.lt_of_lt_of_le (h.flt g hF) hg.size⟩
 obtain⟨ms',f1,f2⟩:=h.rows r hr;exact⟨ms',f1,f2.kept hg (k3 r (List.mem_cons_of_mem _ (List.mem_cons_of_mem _ hr)))⟩
theorem zaJ.below(h:zaJ w0 F n b s A w)(hb:Below w.heap.size w w'):zaJ w0 F n b s A w':=by
 have hn:∀ v:Value,v.ownBlock=none\/v.ownBlock≠none:=fun v=>by cases v.ownBlock<;>simp
 exact h.kept (row:=none) ⟨hb.os,hb.tape,hb.output,hb.size,fun k hk _=>hb.block k hk⟩ (fun k e=>by cases e) (hn _) (hn _) (fun r _=>hn r) (hn _) (hn _)
theorem zaJ.other{g:Nat}{cs:Array Value}{T:TypeId}{fz:Nat × Nat}(h:zaJ w0 F n b s A w)(hg:w.grownBy w' (some g))(hlow:w0.heap.size<=g)(hT:w.heap[g]?=some (.cells cs T fz))(t1:166≠T)(t2:164≠T)(t3:3≠T)(t4:29≠T):zaJ w0 F n b s A w':=by
 obtain⟨xs1,a1,a2⟩:=h.places;obtain⟨xs2,b1,b2⟩:=h.opens;obtain⟨xs4,e1⟩:=h.caps;exact h.kept hg (fun k e=>by injection e with e;omega) (za6 a1 hT t1) (za6 b1 hT t2) (fun r hr=>by obtain⟨m,xs,k⟩:=h.ints r hr;exact za6 k hT t3) (za6 h.seen hT t4) (za6 e1 hT t4)
theorem za5.pushA{v:Value}{ms:List Int}{x:Int}(h:za5 w0 F n b s w)(hml:ms.length=s.rows.length)(ho:w.ownsRow w0.heap.size 3 1 s.av s.rows.length (ms.map (Value.int .i64)))(hg:w.grownBy w' s.av.ownBlock)(ho':w'.ownsRow w0.heap.size 3 1 v (s.rows.length+1) (ms.map (Value.int .i64)++[.int .i64 x]))(hat:v.ownBlock=s.av.ownBlock\/v.ownBlock=some w.heap.size):zaJ w0 F n b { s with av:=v } (s.rows.length+1) w':=by
 have hs:=h.low.size;obtain⟨xs1,a1,a2⟩:=h.places;obtain⟨xs2,b1,b2⟩:=h.opens;obtain⟨xs3,c1⟩:=h.ofs;obtain⟨xs4,e1⟩:=h.caps;have hap:=h.apart;have hap1:=hap;rw[List.pairwise_cons,List.pairwise_cons]at hap1;have oF:za2 s.ov s.av:=hap1.1 _ (by simp)
 have rF:∀ r∈s.rows,za2 r s.av:=fun r hr=>(hap1.2.1 r hr).symm;refine⟨h.low.grown hg hs (fun k e=>(ho.lt k e).1),⟨xs1,a1.kept hg (za7 a1 ho (by decide)),a2⟩,⟨xs2,b1.kept hg (za7 b1 ho (by decide)),b2⟩,⟨xs3,c1.kept hg oF.ne⟩,⟨ms++[x],by simp;exact hml,by simpa using ho'⟩,h.seen.kept hg (za7 h.seen ho (by decide)),⟨xs4,e1.kept hg (za7 e1 ho (by decide))⟩,fun r hr=>?_,?_,h.apart2,h.some1,h.n1,h.hn,h.hP,h.hK,h.hM,h.hb,fun y hy g e hF=>?_,fun g hF=>Nat.lt_of_lt_of_le (h.flt g hF) hg.size⟩
 ·obtain⟨ms',f1,f2⟩:=h.rows r hr;exact⟨ms',f1,f2.kept hg (rF r hr).ne⟩
 ·show(s.ov::v::s.rows).Pairwise za2;have e:s.ov::v::s.rows=(s.ov::s.av::s.rows).set 1 v:=rfl;rw[e];refine zaA (fun a b=>za2.symm) hap fun j y hj hy g hyg hr=>?_;have far:za2 y s.av:=by
   match j,hj,hy with
   | 0,_,hy=>simp at hy;rw[←hy];exact oF
   | j+2,_,hy=>exact rF y (List.mem_iff_getElem?.2 ⟨j,by simpa using hy⟩)
  rcases hat with hat|hat
  ·rw[hat]at hr;exact far g hyg hr
  ·rw[hat]at hr;injection hr with hr;obtain⟨m,ys,hown⟩:=h.ints y (List.mem_iff_getElem?.2 ⟨j,hy⟩);have:=(hown.lt g hyg).2;omega
 ·have hy':y∈(s.ov::s.av::s.rows).set 1 v:=hy;rcases List.mem_or_eq_of_mem_set hy' with k|k
  ·exact h.free y k g e hF
  ·rw[k]at e;rcases hat with hat|hat
   ·rw[hat]at e;exact h.free s.av (by simp) g e hF
   ·rw[hat]at e;injection e with e;have:=h.flt g hF;omega
theorem zaJ.pushS{v r0:Value}(h:zaJ w0 F n b s (s.rows.length+1) w)(hr0:w.ownsRow w0.heap.size 3 1 r0 0 [])(hfar:∀ r∈s.ov::s.av::s.rows,za2 r r0)(hr0F:∀ g,r0.ownBlock=some g->¬ F g)(hg:w.grownBy w' s.sv.ownBlock)(ho':w'.ownsRow w0.heap.size 29 1 v (s.rows.length+1) (s.rows++[r0]))(hat:v.ownBlock=s.sv.ownBlock\/v.ownBlock=some w.heap.size)(hb:b+1<=10000):za5 w0 F n (b+1) { s with sv:=v,rows:=s.rows++[r0] } w':=by
 have hs:=h.low.size;have ho:=h.seen;obtain⟨xs1,a1,a2⟩:=h.places;obtain⟨xs2,b1,b2⟩:=h.opens;obtain⟨xs3,c1⟩:=h.ofs;obtain⟨ms,d1,d2⟩:=h.around;obtain⟨xs4,e1⟩:=h.caps;have hP:=h.hP;have hK:=h.hK;have hM:=h.hM;have len:(s.rows++[r0]).length=s.rows.length+1:=by simp
 refine⟨h.low.grown hg hs (fun k e=>(ho.lt k e).1),⟨xs1,a1.kept hg (za7 a1 ho (by decide)),a2⟩,⟨xs2,b1.kept hg (za7 b1 ho (by decide)),b2⟩,⟨xs3,c1.kept hg (za7 c1 ho (by decide))⟩,⟨ms,by show ms.length=(s.rows++[r0]).length;rw[len];exact d1,?_⟩,?_,⟨xs4,e1.kept hg h.apart2.symm.ne⟩,fun r hr=>?_,?_,?_,by show 1<=(s.rows++[r0]).length;omega,h.n1,h.hn,by show s.P<=b+1;omega,by show s.K<=b+1;omega,by show(s.rows++[r0]).length<=b+1;omega,hb,fun y hy g e hF=>?_,fun g hF=>Nat.lt_of_lt_of_le (h.flt g hF) hg.size⟩
 ·show w'.ownsRow w0.heap.size 3 1 s.av (s.rows++[r0]).length _;rw[len];exact d2.kept hg (za7 d2 ho (by decide))
 ·show w'.ownsRow w0.heap.size 29 1 v (s.rows++[r0]).length (s.rows++[r0]);rw[len];exact ho'
 ·rcases List.mem_append.1 (show r∈s.rows++[r0]from hr)with hr|hr
  ·obtain⟨ms',f1,f2⟩:=h.rows r hr;exact⟨ms',by omega,f2.kept hg (za7 f2 ho (by decide))⟩
  ·rw[List.mem_singleton]at hr;subst hr;exact⟨[],by simp,hr0.kept hg (za7 hr0 ho (by decide))⟩
 ·show(s.ov::s.av::(s.rows++[r0])).Pairwise za2;have e:s.ov::s.av::(s.rows++[r0])=(s.ov::s.av::s.rows)++[r0]:=rfl;rw[e,List.pairwise_append];exact⟨h.apart,List.pairwise_singleton _ _,fun a ha c hc=>by rw[List.mem_singleton.1 hc];exact hfar a ha⟩
 ·show za2 v s.cv;intro g hv hc;rcases hat with hat|hat
  ·rw[hat]at hv;exact h.apart2 g hv hc
  ·rw[hat]at hv;injection hv with hv;have:=(e1.lt g hc).2;omega
 ·have hy':y∈(s.ov::s.av::s.rows)++[r0]:=hy;rcases List.mem_append.1 hy' with k|k
  ·exact h.free y k g e hF
  ·rw[List.mem_singleton.1 k]at e;exact hr0F g e hF
theorem zaK{B:Nat}{e:TypeId}{g m cap:Nat}{xs:List Value}(h:w.ownsRow B e 1 (.slice (some ⟨g,0,none⟩) (m+1) cap) (m+1) xs):w.ownsRow B e 1 (.slice (some ⟨g,0,none⟩) m cap) m (xs.take m):=by
 have hl:=h.1;rcases h.2 with ⟨e1,_⟩|⟨g',cap',cur,e1,hb,hg,h1,h2,h3,h4⟩
 ·cases e1
 ·injection e1 with e1 e2 e3;injection e1 with e1;injection e1 with e1;subst e1;subst e3;refine⟨by rw[List.length_take];omega,.inr ⟨g,cap,cur,rfl,hb,hg,by omega,h2,h3,?_⟩⟩
  rw[←h4,List.take_take];congr 1
  omega
theorem za5.pop{m ga ac gs sc:Nat}(h:za5 w0 F n b s w)(hm:s.rows.length=m+1)(h1:1<=m)(hav:s.av=.slice (some ⟨ga,0,none⟩) (m+1) ac)(hsv:s.sv=.slice (some ⟨gs,0,none⟩) (m+1) sc):za5 w0 F n b { s with av:=.slice (some ⟨ga,0,none⟩) m ac,sv:=.slice (some ⟨gs,0,none⟩) m sc,rows:=s.rows.take m } w:=by
 obtain⟨ms,d1,d2⟩:=h.around;have hse:=h.seen;have hM:=h.hM;rw[hm,hav]at d2;rw[hm,hsv]at hse;have len:(s.rows.take m).length=m:=by rw[List.length_take];omega
 refine⟨h.low,h.places,h.opens,h.ofs,⟨ms.take m,by show(ms.take m).length=(s.rows.take m).length;rw[len,List.length_take];omega,?_⟩,?_,h.caps,fun r hr=>h.rows r (List.mem_of_mem_take hr),?_,?_,by show 1<=(s.rows.take m).length;omega,h.n1,h.hn,h.hP,h.hK,by show(s.rows.take m).length<=b;omega,h.hb,fun y hy g e=>?_,h.flt⟩
 ·show w.ownsRow w0.heap.size 3 1 _ (s.rows.take m).length _;rw[len,List.map_take];exact zaK d2
 ·show w.ownsRow w0.heap.size 29 1 _ (s.rows.take m).length _;rw[len];exact zaK hse
 ·have hap:=h.apart;rw[hav]at hap;show(s.ov::Value.slice (some ⟨ga,0,none⟩) m ac::s.rows.take m).Pairwise za2;rw[List.pairwise_cons,List.pairwise_cons]at hap ⊢;refine⟨fun r hr=>?_,fun r hr=>hap.2.1 r (List.mem_of_mem_take hr),hap.2.2.sublist (List.take_sublist _ _)⟩;rcases List.mem_cons.1 hr with rfl|hr
  ·exact fun g hg hr=>hap.1 (Value.slice (some ⟨ga,0,none⟩) (m+1) ac) (by simp) g hg hr
  ·exact hap.1 r (List.mem_cons_of_mem _ (List.mem_of_mem_take hr))
 ·have:=h.apart2;rw[hsv]at this;exact this
 ·have hy':y∈s.ov::Value.slice (some ⟨ga,0,none⟩) m ac::s.rows.take m:=hy;rcases List.mem_cons.1 hy' with k|k
  ·rw[k]at e;exact h.free s.ov (by simp) g e
  rcases List.mem_cons.1 k with k|k
  ·rw[k]at e;exact h.free s.av (by simp) g (by rw[hav];exact e)
  ·exact h.free y (List.mem_cons_of_mem _ (List.mem_cons_of_mem _ (List.mem_of_mem_take k))) g e
end Go.Proofs.YtdbekjiognpgnaaGreat
namespace Go.Proofs.YtdbekjiognpgnaaGreat
open Go.RowKit Go.Sort
theorem Tryz.infoInts:(Tryz.prog.info? 29).map (fun i=>(i.zero,i.size,i.bytes))=some (some (.slice none 0 0),1,24):=by kernel_rfl
theorem za8.capSet{F:Nat->Prop}{w0 w:World}{n c b g cc j:Nat}{tv v:Value}{s:RS}{k:RK}(h:za8 w0 F n c tv b s k w)(hcv:s.cv=.slice (some ⟨g,0,none⟩) n cc):za8 w0 F n c tv b s k (w.setCell ⟨g,j,none⟩ v)/\za9 w0.heap.size F w (w.setCell ⟨g,j,none⟩ v):=by
 obtain⟨xs,ho⟩:=h.rows.caps;have hne:c≠g:=fun e=>by
  rcases za6 ho h.blk (by decide)with k|k
  ·rw[hcv]at k;cases k
  ·rw[hcv,e]at k;exact k rfl
 have ho':=ho;rw[hcv]at ho';obtain⟨s1,hg⟩:=ho'.stored j v;have eg:s.cv.ownBlock=some g:=by rw[hcv];rfl
 rw[←eg]at hg;obtain⟨xs1,a1,a2⟩:=h.rows.places;obtain⟨xs2,b1,b2⟩:=h.rows.opens;obtain⟨xs3,c1⟩:=h.rows.ofs;obtain⟨ms,d1,d2⟩:=h.rows.around;have hr:=h.rows;refine⟨⟨(heap_setCell_other w ⟨g,j,none⟩ c _ hne).trans h.blk,h.hc,⟨hr.low.grown hg hr.low.size (fun k e=>(ho.lt k e).1),⟨xs1,a1.kept hg (za7 a1 ho (by decide)),a2⟩,⟨xs2,b1.kept hg (za7 b1 ho (by decide)),b2⟩,⟨xs3,c1.kept hg (za7 c1 ho (by decide))⟩,⟨ms,d1,d2.kept hg (za7 d2 ho (by decide))⟩,hr.seen.kept hg hr.apart2.ne,⟨_,by rw[hcv];exact s1⟩,fun r hrr=>?_,hr.apart,hr.apart2,hr.some1,hr.n1,hr.hn,hr.hP,hr.hK,hr.hM,hr.hb,hr.free,fun g hF=>Nat.lt_of_lt_of_le (hr.flt g hF) hg.size⟩⟩,za9.row (B:=0) ho hg h.size (by decide)⟩
 obtain⟨ms',f1,f2⟩:=hr.rows r hrr;exact⟨ms',f1,f2.kept hg (za7 f2 ho (by decide))⟩
theorem zaL{F:Nat->Prop}{w0 w:World}{n c b g tc Bt x y:Nat}{ns:List z4Q}{p pb:z4Q}{s:RS}{k:RK}(hT:z8G w0 Bt (.slice (some ⟨g,0,none⟩) n tc) ns)(hn:ns.length=n)(h:za8 w0 F n c (.slice (some ⟨g,0,none⟩) n tc) b s k w)(hx:ns[x]?=some p)(hy:ns[y]?=some pb)(hpa:p.a=(y:Int))
  (hl4:p.names.length<=4) (hN:∀ z∈pb.list,zaF w0 n c (.slice (some ⟨g,0,none⟩) n tc) ns z) (hb:b+1+p.names.length+4*sumZ (sz ns) pb.list<=10000):
  Calls Tryz.prog 100 #[.pointer (some ⟨c,0,none⟩),.int .i64 (x:Int)] w fun e w'=>e=.returned (.tuple #[])/\zax w0 F n c (.slice (some ⟨g,0,none⟩) n tc) (b+1+p.names.length+4*sumZ (sz ns) pb.list) s w w':=by
 have hxn:x<n:=by have:=(List.getElem?_eq_some_iff.1 hx).1;omega
 obtain⟨lv,nv,NA⟩:=z9L hT hx;obtain⟨na,nc,rfl⟩:=z8A NA.names;have HT:Hid (z8G w0 Bt (.slice (some ⟨g,0,none⟩) n tc) ns/\ns.length=n/\ns[y]?=some pb/\∀ z∈pb.list,zaF w0 n c (.slice (some ⟨g,0,none⟩) n tc) ns z):=⟨hT,hn,hy,hN⟩;obtain⟨q0,hq0⟩:∃ q,p.names.length=q:=⟨_,rfl⟩;have HQ0:Hid (p.names.length=q0):=hq0;have HNC:Hid (∀ W,Below w0.heap.size w0 W->W.cell? ⟨g,x*8+1,none⟩=some (.int .i64 (y:Int))/\W.cell? ⟨g,x*8+5,none⟩=some (.slice na q0 nc)/\∀(i:Nat) (t:ByteArray),p.names[i]?=some t->∃ gl,na=some ⟨gl,0,none⟩/\W.cell? ⟨gl,i,none⟩=some (.string t)):=fun W hW=>by
  have h1:=(NA.below hW).c1;have h5:=(NA.below hW).c5;rw[hpa]at h1;rw[hq0]at h5;exact⟨h1,h5,fun i t hi=>z9N NA.names hW (by rw[List.getElem?_map,hi];rfl)⟩
 obtain⟨tv,htv⟩:∃ tv,Value.slice (some ⟨g,0,none⟩) n tc=tv:=⟨_,rfl⟩;have HTV:Hid (Value.slice (some ⟨g,0,none⟩) n tc=tv):=htv;rw[htv]at h ⊢;rw[hq0]at hb hl4 ⊢;obtain⟨Z,hZ⟩:∃ Z,sumZ (sz ns) pb.list=Z:=⟨_,rfl⟩;have HZ:Hid (sumZ (sz ns) pb.list=Z):=hZ;rw[hZ]at hb ⊢;have hnn:=h.rows.hn;obtain⟨x0,x1,x2,x3,x4,x5,x6,x7,x8,x9,x10,x11,xf⟩:=h.cells;obtain⟨kf,hkf⟩:∃ x,k.fn=x:=⟨_,rfl⟩;rw[hkf]at x6;have f6:=xf 6;have H0:Hid (za8 w0 F n c tv b s k w):=h;obtain⟨r1,t1⟩:=zaa (j:=6) (v:=.int .i64 (x:Int)) (s':=s) (k':={ k with fn:=(x:Int) }) h.blk h.hc h.rows rfl;obtain⟨W1,hW1⟩:∃ W,w.setCell ⟨c,6,none⟩ (.int .i64 (x:Int))=W:=⟨_,rfl⟩;rw[hW1]at r1 t1;obtain⟨k1,hk1⟩:∃ k1:RK,{ k with fn:=(x:Int) }=k1:=⟨_,rfl⟩;rw[hk1]at r1;clear h hT hn hx hy hpa hN NA hq0 htv hZ hkf hk1 xf x0 x1 x2 x3 x4 x5 x7 x8 x9 x10 x11;go_enter Tryz.func100,Tryz.ntmps100;go_upto_region 2 with fail;try simp only[hW1]
 clear hW1 x6 f6;obtain⟨x0,x1,x2,x3,x4,x5,x6,x7,x8,x9,x10,x11,xf⟩:=r1.cells;obtain⟨ms,hml,hoa⟩:=r1.rows.around;obtain⟨M,hM⟩:∃ M,s.rows.length=M:=⟨_,rfl⟩;have HMM:Hid (s.rows.length=M):=hM;have hMb:=r1.rows.hM;obtain⟨_,_,_,⟨ga,ac,hav⟩,⟨gs,sc,hsv⟩,_⟩:=r1.rows.shapes;have HAV:Hid (s.av=.slice (some ⟨ga,0,none⟩) M ac/\s.sv=.slice (some ⟨gs,0,none⟩) M sc):=by rw[←hM];exact⟨hav,hsv⟩
 rw[HAV.out.1]at x9 hoa;rw[hM]at hoa hMb;have HR1:Hid (za8 w0 F n c tv b s k1 W1/\za9 w0.heap.size F w W1):=⟨r1,t1⟩;have HOA:Hid (ms.length=M/\W1.ownsRow w0.heap.size 3 1 (.slice (some ⟨ga,0,none⟩) M ac) M (ms.map (Value.int .i64))):=⟨by rw[←hM];exact hml,hoa⟩
 obtain⟨i0,hi,hz0,hz1,hz2⟩:=z8y Tryz.infoInt;obtain⟨i1,hj,hy0,hy1,hy2⟩:=z8y Tryz.infoInts;have hclt:=r1.lt;have hsz:=r1.size;have c9a:∀ o,(W1.alloc o).cell? ⟨c,9,none⟩=some (.slice (some ⟨ga,0,none⟩) M ac):=fun o=>(((yg9 W1.heap.size W1).alloc (yf9 _) o).cell (p:=⟨c,9,none⟩) hclt).trans x9;have h63:M+1<=maxLen:=by unfold maxLen;omega
 have hby:(M+1)*8<=140737488355328:=by omega
 have HC9:Hid (∀(w3:World),(W1.alloc (.cells #[.int .i64 (x:Int)] 3)).grownBy w3 (Value.ownBlock (.slice (some ⟨ga,0,none⟩) M ac))->w3.heap[c]?=some (.cells (runC tv s k1) 81)):=fun w3 hg=>by
  have r:=HR1.out.1.below ((yg9 _ _).alloc (yf9 _) (.cells #[.int .i64 (x:Int)] 3));have ho:=HOA.out.2.alloc (.cells #[.int .i64 (x:Int)] 3);refine(hg.block c r.lt (fun e=>?_)).trans r.blk;rcases za6 ho r.blk (by decide)with k|k
  ·cases k
  ·exact k e.symm
 clear x0 x1 x2 x3 x4 x5 x6 x7 x8 x11 hav hsv hml t1;go_upto_region 3 with (first|(at_builtin;refine wpList_append_own_at _ rfl _ _ 29 rfl w0.heap.size 3 i0 (.int .i64 0) 1 8 Tryz.underlying29 hi hz0 hz1 hz2 rfl (by decide) (.slice (some ⟨ga,0,none⟩) M ac) M (ms.map (Value.int .i64)) rfl (hoa.alloc _) ⟨W1.heap.size,0,none⟩ 1 1 [.int .i64 (x:Int)] rfl rfl (cell_one_new _ _ _) (fun u hu=>by rw[List.mem_singleton.1 hu];rfl) h63 hby (by simp;omega) ?_;intro v9 w3 ho3 hg3 _ hat3;obtain⟨va,vc,rfl⟩:=z8A ho3;have hb3:=HC9.out w3 hg3;have z9:=(cell_of_row _ _ 9 _ _ _ (show w3.heap[c]?=some (.cells #[tv,s.pv,s.ov,s.qv,.int .i64 k1.block,.int .i64 k1.blocks,.int .i64 k1.fn,.int .i64 k1.fault,.int .i64 k1.pos,s.av,s.sv,s.cv] 81)from hb3));have f9:=z9v (j:=9) hb3;have HA3:Hid _:=And.intro ho3 (And.intro hg3 hat3)))
 obtain⟨W4,hW4⟩:∃ W,w3.setCell ⟨c,9,none⟩ (.slice va (M+1) vc)=W:=⟨_,rfl⟩;have F4:zaJ w0 F n b { s with av:=.slice va (M+1) vc } (M+1) W4/\W4.heap[c]?=some (.cells (runC tv { s with av:=.slice va (M+1) vc } k1) 81)/\za9 w0.heap.size F w W4:=by
  obtain⟨ho3',hg3',hat3'⟩:=HA3.out;have bA:=(yg9 W1.heap.size W1).alloc (yf9 _) (.cells #[.int .i64 (x:Int)] 3);have rA:=HR1.out.1.below bA;have hoA:=HOA.out.2.alloc (.cells #[.int .i64 (x:Int)] 3);have hm:=HMM.out;have m3:zaJ w0 F n b { s with av:=.slice va (M+1) vc } (M+1) w3:=by
   have:=rA.rows.pushA (v:=.slice va (M+1) vc) (ms:=ms) (x:=(x:Int)) (by rw[hm];exact HOA.out.1) (by rw[hm,HAV.out.1];exact hoA) (by rw[HAV.out.1];exact hg3') (by rw[hm];exact ho3') (by rw[HAV.out.1];exact hat3')
   rw[hm]at this;exact this
  have hb3':=HC9.out w3 hg3';rw[←hW4];refine⟨m3.other (z09 w3 c 9 _) rA.hc hb3' (by decide) (by decide) (by decide) (by decide),?_,?_⟩
  ·rw[heap_setCell_same w3 c 9 _ _ _ hb3'];rfl
  ·refine(HR1.out.2.trans (HR1.out.1.step bA)).trans ((za9.rowI (B:=0) hoA hg3' rA.size (by decide) (by have:=rA.rows.free s.av (by simp);rw[HAV.out.1]at this;exact this)).trans (.of_grown (z09 w3 c 9 _) m3.low.size (fun k e=>by injection e with e;have:=rA.hc;omega) (fun k e cs' T hT e'=>?_)))
   injection e with e;subst e;rw[hb3']at e';injection e' with h2;injection h2 with _ h3 _;rcases hT with h|h|⟨h,_⟩<;>rw[h]at h3<;>exact absurd h3 (by decide)
 try simp only[hW4]
 clear hW4 ho3 hg3 hat3 hb3 z9 f9 HA3 HC9 c9a hoa x9 x10 xf r1;obtain⟨m4,b4,t4⟩:=F4;have H4:Hid (zaJ w0 F n b { s with av:=.slice va (M+1) vc } (M+1) W4/\W4.heap[c]?=some (.cells (runC tv { s with av:=.slice va (M+1) vc } k1) 81)/\za9 w0.heap.size F w W4):=⟨m4,b4,t4⟩;have hc4:=lt_of_block b4;have hs4:=m4.low.size;have x10:W4.cell? ⟨c,10,none⟩=some (.slice (some ⟨gs,0,none⟩) M sc):=by
  unfold runC at b4;rw[cell_of_row _ _ 10 _ _ _ b4,←HAV.out.2];rfl
 have hse:W4.ownsRow w0.heap.size 29 1 (.slice (some ⟨gs,0,none⟩) M sc) M s.rows:=by
  have:=m4.seen;rw[←HAV.out.2,←HMM.out];exact this
 have hrone:∀ u∈[Value.slice (some ⟨W4.heap.size,0,none⟩) 0 0],u.oneCell'=true:=fun u hu=>by rw[List.mem_singleton.1 hu];rfl
 have hby2:(M+1)*24<=140737488355328:=by omega
 have c10a:∀ o,(W4.alloc o).cell? ⟨c,10,none⟩=some (.slice (some ⟨gs,0,none⟩) M sc):=fun o=>(((yg9 W4.heap.size W4).alloc (yf9 _) o).cell (p:=⟨c,10,none⟩) hc4).trans x10;have hsz4:(W4.alloc (.cells #[] 3)).heap.size=W4.heap.size+1:=by simp
 have hnew:=cell_one_new (W4.alloc (.cells #[] 3)) (.slice (some ⟨W4.heap.size,0,none⟩) 0 0) 29;rw[hsz4]at hnew;have HC10:Hid (∀(w7:World),((W4.alloc (.cells #[] 3)).alloc (.cells #[.slice (some ⟨W4.heap.size,0,none⟩) 0 0] 29)).grownBy w7 (Value.ownBlock (.slice (some ⟨gs,0,none⟩) M sc))->w7.heap[c]?=some (.cells (runC tv { s with av:=.slice va (M+1) vc } k1) 81)):=fun w7 hg=>by
  have bB:Below W4.heap.size W4 ((W4.alloc (.cells #[] 3)).alloc (.cells #[.slice (some ⟨W4.heap.size,0,none⟩) 0 0] 29)):=((yg9 W4.heap.size W4).alloc (yf9 _) _).alloc (by simp) _
  have eB:=(bB.block c hc4).trans H4.out.2.1;refine(hg.block c (lt_of_block eB) (fun e=>?_)).trans eB;rcases za6 (z8B hse bB) eB (by decide)with k|k
  ·cases k
  ·exact k e.symm
 clear m4 b4 t4;go_upto_region 4 with (first|(at_builtin;refine wpList_append_own_at _ rfl _ _ 79 rfl w0.heap.size 29 i1 (.slice none 0 0) 1 24 Tryz.underlying79 hj hy0 hy1 hy2 rfl (by decide) (.slice (some ⟨gs,0,none⟩) M sc) M s.rows rfl ((hse.alloc _).alloc _) ⟨W4.heap.size+1,0,none⟩ 1 1 [.slice (some ⟨W4.heap.size,0,none⟩) 0 0] rfl rfl hnew hrone h63 hby2 (by simp;omega) ?_;intro v10 w7 ho7 hg7 _ hat7;obtain⟨ya,yc,rfl⟩:=z8A ho7;have hb7:=HC10.out w7 hg7;have z10:=(cell_of_row _ _ 10 _ _ _ (show w7.heap[c]?=some (.cells #[tv,s.pv,s.ov,s.qv,.int .i64 k1.block,.int .i64 k1.blocks,.int .i64 k1.fn,.int .i64 k1.fault,.int .i64 k1.pos,.slice va (M+1) vc,s.sv,s.cv] 81)from hb7));have f10:=z9v (j:=10) hb7;have HA7:Hid _:=And.intro ho7 (And.intro hg7 hat7)))
 obtain⟨W8,hW8⟩:∃ W,w7.setCell ⟨c,10,none⟩ (.slice ya (M+1) yc)=W:=⟨_,rfl⟩;obtain⟨s2,hs2⟩:∃ s2:RS,{ s with av:=.slice va (M+1) vc,sv:=.slice ya (M+1) yc,rows:=s.rows++[.slice (some ⟨W4.heap.size,0,none⟩) 0 0] }=s2:=⟨_,rfl⟩;have F8:za8 w0 F n c tv (b+1) s2 k1 W8/\za9 w0.heap.size F w W8:=by
  obtain⟨ho7',hg7',hat7'⟩:=HA7.out;have bA:Below W4.heap.size W4 (W4.alloc (.cells #[] 3)):=(yg9 W4.heap.size W4).alloc (yf9 _) _;have bB:Below W4.heap.size W4 ((W4.alloc (.cells #[] 3)).alloc (.cells #[.slice (some ⟨W4.heap.size,0,none⟩) 0 0] 29)):=bA.alloc (by simp) _
  have mB:=H4.out.1.below bB;have hm:=HMM.out;have hr0:((W4.alloc (.cells #[] 3)).alloc (.cells #[.slice (some ⟨W4.heap.size,0,none⟩) 0 0] 29)).ownsRow w0.heap.size 3 1 (.slice (some ⟨W4.heap.size,0,none⟩) 0 0) 0 []:=(zar rfl hs4).alloc _;have hseB:=z8B hse bB;have r7:=zaJ.pushS (s:={ s with av:=.slice va (M+1) vc }) (v:=.slice ya (M+1) yc) (r0:=.slice (some ⟨W4.heap.size,0,none⟩) 0 0) (by show zaJ _ _ _ _ _ (s.rows.length+1) _;rw[hm];exact mB) hr0 (fun r hr gg hgg he=>by
   obtain⟨m,ys,hown⟩:=H4.out.1.ints r hr;have:=(hown.lt gg hgg).2;have e:W4.heap.size=gg:=Option.some.inj he;omega) (fun gg he hF=>by
   have e:W4.heap.size=gg:=Option.some.inj he;have:=H4.out.1.flt gg hF;omega) (by show World.grownBy _ w7 s.sv.ownBlock;rw[HAV.out.2];exact hg7') (by show World.ownsRow w7 _ _ 1 _ (s.rows.length+1) (s.rows++[_]);rw[hm];exact ho7') (by show _=s.sv.ownBlock\/_;rw[HAV.out.2];exact hat7') (by omega)
  obtain⟨q1,q2⟩:=zaa (tv:=tv) (j:=10) (v:=.slice ya (M+1) yc) (k':=k1) (HC10.out w7 hg7') HR1.out.1.hc r7 rfl;rw[hW8]at q1 q2;rw[←hs2];exact⟨q1,((H4.out.2.2.trans (.of_below bB hs4)).trans (za9.row (B:=0) hseB hg7' mB.low.size (by decide))).trans q2⟩
 try simp only[hW8]
 have e2:s2.rows.length=M+1:=by rw[←hs2];show(s.rows++[_]).length=M+1;rw[List.length_append,HMM.out];rfl
 have e3:s.P<=s2.P:=by rw[←hs2];exact yf9 _
 clear hW8 hs2 ho7 hg7 hat7 hb7 z10 f10 HA7 HC10 H4 hse hnew x10 c10a hrone;obtain⟨r8,t8⟩:=F8;obtain⟨x0,x1,x2,x3,x4,x5,x6,x7,x8,x9,x10,x11,xf⟩:=r8.cells;rw[←HTV.out]at x0;have H8:Hid (za8 w0 F n c tv (b+1) s2 k1 W8/\za9 w0.heap.size F w W8):=⟨r8,t8⟩;have hc8:=r8.lt;have hxi:(x:Int)<(n:Int):=by omega
 have hx00:(0:Int)<=(x:Int):=by omega
 have hgl:g<w0.heap.size:=by
  obtain⟨_,_,NQ⟩:=z9L HT.out.1 HT.out.2.2.1;exact World.block_lt_of_cell? w0 _ NQ.c0
 have HK4:Hid (∀ W,Below W8.heap.size W8 W->W.cell? ⟨c,0,none⟩=some (.slice (some ⟨g,0,none⟩) n tc)/\W.cell? ⟨g,x*8+1,none⟩=some (.int .i64 (y:Int))/\W.cell? ⟨g,x*8+5,none⟩=some (.slice na q0 nc)):=fun W hW=>by
  obtain⟨a1,a2,_⟩:=HNC.out W (H8.out.1.below hW).rows.low;exact⟨(hW.cell (p:=⟨c,0,none⟩) hc8).trans x0,a1,a2⟩
 have HBL:Hid (∀ W,Below W8.heap.size W8 W->Calls Tryz.prog 59 #[.pointer (some ⟨c,0,none⟩),.int .i64 (y:Int),.slice na q0 nc,.int .i64 (x:Int)] W fun e w'=>e=.returned (.tuple #[])/\zax w0 F n c tv (b+1+q0+4*Z) s2 W w'):=fun W hW=>by
  have r:=H8.out.1.below hW;have e:=HTV.out;rw[←e]at r ⊢;have hq:=HQ0.out;have:=zaI (l:=p.names) (la:=na) (lc:=nc) HT.out.1 HT.out.2.1 r hxn HT.out.2.2.1 (fun W' hW'=>(HNC.out W' hW').2.2) (by omega) HT.out.2.2.2 (by rw[hq,HZ.out];exact hb)
  rw[hq,HZ.out]at this;exact this
 clear r8 t8 x1 x2 x3 x4 x5 x6 x7 x8 x9 x10 x11 xf;have HKM:Hid (∀ W w',zax w0 F n c tv (b+1+q0+4*Z) s2 W w'->w'.cell? ⟨c,0,none⟩=some (.slice (some ⟨g,0,none⟩) n tc)/\w'.cell? ⟨g,x*8+1,none⟩=some (.int .i64 (y:Int))/\w'.cell? ⟨g,x*8+5,none⟩=some (.slice na q0 nc)):=fun W w' hm=>by
  obtain⟨s5,k5,p1,p2,p3,p4⟩:=hm;obtain⟨a1,a2,_⟩:=HNC.out w' p1.rows.low;have z0:=p1.cells.1;rw[←HTV.out]at z0;exact⟨z0,a1,a2⟩
 go_cut [] (fun wx=>∃ W,Below W8.heap.size W8 W/\zax w0 F n c tv (b+1+q0+4*Z) s2 W wx)
 case first=>
  go_region_held3 (fun W=>W.cell? ⟨c,0,none⟩=some (.slice (some ⟨g,0,none⟩) n tc)/\W.cell? ⟨g,x*8+1,none⟩=some (.int .i64 (y:Int))/\W.cell? ⟨g,x*8+5,none⟩=some (.slice na q0 nc)) (first|exact HKM.out _ _ (by assumption)|exact HK4.out _ (yg9 _ _).drew|go_keep) (first|(go_at_call 59;with_reducible refine(HBL.out _ (yg9 _ _).drew).mono ?_;rintro e w5 ⟨rfl,hm5⟩))
  go_wp2_with fail;go_meet
  case rel=>exact⟨_,(yg9 _ _).drew,hm5⟩
 case rest=>
  obtain⟨W,hbW,s5,k5,r5,t5,l5,P5⟩:=hcut;have T5:=H8.out.2.trans ((H8.out.1.step hbW).trans t5);rw[e2]at l5;have P5':=yi9 e3 P5;clear HKM HBL HK4 x0;obtain⟨x0,x1,x2,x3,x4,x5,x6,x7,x8,x9,x10,x11,xf⟩:=r5.cells;obtain⟨_,_,_,⟨ga5,ac5,hav5⟩,⟨gs5,sc5,hsv5⟩,⟨gc5,cc5,hcv5⟩⟩:=r5.rows.shapes;rw[l5]at hav5 hsv5;have hM1:1<=M:=by have:=HR1.out.1.rows.some1;have:=HMM.out;omega
  have H5:Hid (za8 w0 F n c tv (b+1+q0+4*Z) s5 k5 wc/\za9 w0.heap.size F w wc/\s5.rows.length=M+1/\s.P<=s5.P/\s5.av=.slice (some ⟨ga5,0,none⟩) (M+1) ac5/\s5.sv=.slice (some ⟨gs5,0,none⟩) (M+1) sc5/\s5.cv=.slice (some ⟨gc5,0,none⟩) n cc5):=⟨r5,T5,l5,P5',hav5,hsv5,hcv5⟩;have hMm:((M+1:Nat):Int)-1=(M:Int):=by omega
  have hMi:(M:Int)<=10000:=by omega
  have hMz:(0:Int)<=(M:Int):=by omega
  have hMw:IntKind.i64.wrap (M:Int)=(M:Int):=zap hMz (by omega)
  have hMlt:(M:Int)<((M+1:Nat):Int):=by omega
  have hac:M+1<=ac5/\M+1<=sc5:=by
   obtain⟨ms5,_,hq1⟩:=r5.rows.around;have q1:=hq1.2;have q2:=r5.rows.seen.2;rw[l5,hav5]at q1;rw[l5,hsv5]at q2;constructor
   ·rcases q1 with ⟨e,_⟩|⟨_,cap,_,e,_,_,hh,_⟩
    ·cases e
    ·injection e with _ _ e3;omega
   ·rcases q2 with ⟨e,_⟩|⟨_,cap,_,e,_,_,hh,_⟩
    ·cases e
    ·injection e with _ _ e3;omega
  have hac1:(M:Int)<=(ac5:Int):=by omega
  have hac2:(M:Int)<=(sc5:Int):=by omega
  rw[hav5]at x9;rw[hsv5]at x10;rw[hcv5]at x11;obtain⟨rM,hrM⟩:∃ r,s5.rows[M]?=some r:=⟨_,yd9 (by omega)⟩
  have hcM:wc.cell? ⟨gs5,M,none⟩=some rM:=by
   have:=r5.rows.seen;rw[l5,hsv5]at this;exact z9I this hrM
  obtain⟨mr,_,hor⟩:=r5.rows.rows rM (List.mem_iff_getElem?.2 ⟨M,hrM⟩);obtain⟨ra,rc,rfl⟩:=z8A hor;obtain⟨lr,hlr⟩:∃ l,mr.length=l:=⟨_,rfl⟩;rw[hlr]at hcM;obtain⟨xsc,hoc⟩:=r5.rows.caps;rw[hcv5]at hoc;obtain⟨⟨uc5,hcc⟩,hfc⟩:=z8z hoc x (by omega)
  have HS5:Hid (∀ m,za8 w0 F n c tv (b+1+q0+4*Z) s5 k5 ((wc.drewN m).setCell ⟨gc5,x,none⟩ (.slice ra lr rc))/\za9 w0.heap.size F w ((wc.drewN m).setCell ⟨gc5,x,none⟩ (.slice ra lr rc))):=fun m=>by
   have bm:=below_drewN (yg9 wc.heap.size wc) m;obtain⟨q1,q2⟩:=(H5.out.1.below bm).capSet (j:=x) (v:=.slice ra lr rc) H5.out.2.2.2.2.2.2;exact⟨q1,(H5.out.2.1.trans (H5.out.1.step bm)).trans q2⟩
  clear r5 T5 x0 x1 x2 x3 x4 x5 x6 x7 x8 x9 xf hor hoc hrM hlr hav5 hsv5 hcv5 t5 hbW;go_upto_region 5 with fail;go_cut [] (fun wx=>za8 w0 F n c tv (b+1+q0+4*Z) s5 k5 wx/\za9 w0.heap.size F w wx)
  case first=>
   go_region
   all_goals (go_wp2_with fail;go_meet;case rel=>exact⟨(HS5.out _).1,(HS5.out _).2⟩)
  case rest=>
   obtain⟨r6,t6⟩:=hcut;clear HS5 x10 x11 hcM hcc hfc;obtain⟨y0,y1,y2,y3,y4,y5,y6,y7,y8,y9,y10,y11,yf⟩:=r6.cells;rw[H5.out.2.2.2.2.1]at y9;have f9:=yf 9;obtain⟨s6,hs6⟩:∃ s6:RS,{ s5 with av:=.slice (some ⟨ga5,0,none⟩) M ac5,sv:=.slice (some ⟨gs5,0,none⟩) M sc5,rows:=s5.rows.take M }=s6:=⟨_,rfl⟩;have H6:Hid (∀ m,(((wc.drewN m).setCell ⟨c,9,none⟩ (.slice (some ⟨ga5,0,none⟩) M ac5)).heap[c]?=some (.cells #[tv,s5.pv,s5.ov,s5.qv,.int .i64 k5.block,.int .i64 k5.blocks,.int .i64 k5.fn,.int .i64 k5.fault,.int .i64 k5.pos,.slice (some ⟨ga5,0,none⟩) M ac5,s5.sv,s5.cv] 81)/\za5 w0 F n (b+1+q0+4*Z) s6 ((wc.drewN m).setCell ⟨c,9,none⟩ (.slice (some ⟨ga5,0,none⟩) M ac5))/\za9 w0.heap.size F w ((wc.drewN m).setCell ⟨c,9,none⟩ (.slice (some ⟨ga5,0,none⟩) M ac5)))):=fun m=>by
    have bm:=below_drewN (yg9 wc.heap.size wc) m;have rm:=r6.below bm;have pp:=rm.rows.pop H5.out.2.2.1 hM1 H5.out.2.2.2.2.1 H5.out.2.2.2.2.2.1;rw[hs6]at pp;refine⟨?_,pp.other (z09 _ c 9 _) rm.hc rm.blk (by decide) (by decide) (by decide) (by decide),?_⟩
    ·rw[heap_setCell_same _ c 9 _ _ _ rm.blk];rfl
    ·refine(t6.trans (r6.step bm)).trans (.of_grown (z09 _ c 9 _) rm.size (fun k e=>by injection e with e;have:=rm.hc;omega) (fun k e cs' T hT e'=>?_))
     injection e with e;subst e;rw[rm.blk]at e';injection e' with h2;injection h2 with _ h3 _;rcases hT with h|h|⟨h,_⟩<;>rw[h]at h3<;>exact absurd h3 (by decide)
   have E6:Hid (s6.rows.length=M/\s6.P=s5.P/\s6.sv=.slice (some ⟨gs5,0,none⟩) M sc5):=by
    rw[←hs6];exact⟨by show(s5.rows.take M).length=M;rw[List.length_take,H5.out.2.2.1];omega,rfl,rfl⟩
   have HC6:Hid (∀ v,#[tv,s5.pv,s5.ov,s5.qv,Value.int .i64 k5.block,.int .i64 k5.blocks,v,.int .i64 k5.fault,.int .i64 k5.pos,.slice (some ⟨ga5,0,none⟩) M ac5,.slice (some ⟨gs5,0,none⟩) M sc5,s5.cv]=#[tv,s6.pv,s6.ov,s6.qv,Value.int .i64 k5.block,.int .i64 k5.blocks,v,.int .i64 k5.fault,.int .i64 k5.pos,s6.av,s6.sv,s6.cv]):=by
    rw[←hs6];intro v;rfl
   clear y0 y1 y2 y3 y4 y5 y6 y7 y8 y10 y11 yf r6 t6 hs6;go_upto_region 6 with fail;go_cut [] (fun wx=>wx.heap[c]?=some (.cells #[tv,s5.pv,s5.ov,s5.qv,.int .i64 k5.block,.int .i64 k5.blocks,.int .i64 k5.fn,.int .i64 k5.fault,.int .i64 k5.pos,.slice (some ⟨ga5,0,none⟩) M ac5,s5.sv,s5.cv] 81)/\za5 w0 F n (b+1+q0+4*Z) s6 wx/\za9 w0.heap.size F w wx)
   case first=>
    go_region
    all_goals (go_wp2_with fail;go_meet;case rel=>exact⟨(H6.out _).1,(H6.out _).2.1,(H6.out _).2.2⟩)
   case rest=>
    obtain⟨b7,r7,t7⟩:=hcut;clear H6 y9 f9;have y10:=cell_of_row _ _ 10 _ _ _ b7;rw[show #[tv,s5.pv,s5.ov,s5.qv,Value.int .i64 k5.block,.int .i64 k5.blocks,.int .i64 k5.fn,.int .i64 k5.fault,.int .i64 k5.pos,.slice (some ⟨ga5,0,none⟩) M ac5,s5.sv,s5.cv][10]?=some (Value.slice (some ⟨gs5,0,none⟩) (M+1) sc5) by rw[←H5.out.2.2.2.2.2.1];rfl]at y10
    have f10:=z9v (j:=10) b7;have H7:Hid (∀ m,za8 w0 F n c tv (b+1+q0+4*Z) s6 k5 ((wc.drewN m).setCell ⟨c,10,none⟩ (.slice (some ⟨gs5,0,none⟩) M sc5))/\za9 w0.heap.size F w ((wc.drewN m).setCell ⟨c,10,none⟩ (.slice (some ⟨gs5,0,none⟩) M sc5))):=fun m=>by
     have bm:=below_drewN (yg9 wc.heap.size wc) m;obtain⟨q1,q2⟩:=zaa (tv:=tv) (j:=10) (v:=.slice (some ⟨gs5,0,none⟩) M sc5) (s':=s6) (k':=k5) ((bm.block c (lt_of_block b7)).trans b7) HR1.out.1.hc (r7.below bm) (HC6.out (.int .i64 k5.fn));exact⟨q1,(t7.trans (.of_below bm r7.low.size)).trans q2⟩
    clear b7 r7 t7;go_upto_region 7 with fail;go_cut [] (fun wx=>za8 w0 F n c tv (b+1+q0+4*Z) s6 k5 wx/\za9 w0.heap.size F w wx)
    case first=>
     go_region
     all_goals (go_wp2_with fail;go_meet;case rel=>exact⟨(H7.out _).1,(H7.out _).2⟩)
    case rest=>
     obtain⟨r8,t8⟩:=hcut;clear H7 y10 f10;obtain⟨y0,y1,y2,y3,y4,y5,y6,y7,y8,y9,y10,y11,yf⟩:=r8.cells;have f6:=yf 6;obtain⟨q1,q2⟩:=zaa (j:=6) (v:=.int .i64 kf) (s':=s6) (k':={ k5 with fn:=kf }) r8.blk r8.hc r8.rows rfl;have HE:Hid (zax w0 F n c tv (b+1+q0+4*Z) s w (wc.setCell ⟨c,6,none⟩ (.int .i64 kf))):=⟨s6,_,q1,t8.trans q2,by rw[E6.out.1,HMM.out],by rw[E6.out.2.1];exact H5.out.2.2.2.1⟩
     clear y0 y1 y2 y3 y4 y5 y7 y8 y9 y10 y11 yf r8 t8 q1 q2;go_wp2;go_returns;exact⟨rfl,HE.out⟩
