/- Part 51. -/
import Derived.Test.YtdbekjiognpgnaaGreatPbx
set_option maxHeartbeats 16000000
set_option maxRecDepth 100000
set_option linter.unusedVariables false
namespace Go.Proofs.YtdbekjiognpgnaaGreat
open Go.RowKit Go.Sort
theorem z8G.below'{w w':World}{B:Nat}{v:Value}{ns:List z4Q}(h:z8G w B v ns)(hb:Below w.heap.size w w'):z8G w' B v ns:=h.below hb
theorem zgF{w:World}{n B g tc:Nat}{ns:List z4Q}(hT:z8G w B (.slice (some ⟨g,0,none⟩) n tc) ns)(hn:ns.length=n)(hG:zdl ns)(hlast:z5X ns ((n:Int)-1)=29):
  Calls Tryz.prog 6 #[.slice (some ⟨g,0,none⟩) n tc] w fun e w'=>e=.returned (.bool (decide ((z5Z ns).length+1=n)))/\Below w.heap.size w w':=by
 have few:=hG.few;rw[hn]at few;have hh:=hG.held;obtain⟨few1,few2⟩:=few;have hz:((n:Int)==0)=false:=by rw[yc9];omega
 have hz2:((n:Int)=0)=False:=by simp;omega
 have hg3:decide ((300:Int)<(n:Int))=false:=ya9 (by omega)
 have hg4:decide (300<n)=false:=ya9 (by omega)
 obtain⟨L,hL⟩:∃ L:Nat,n=L+1:=⟨n-1,by omega⟩
 have hLi:((n:Int)-1)=(L:Int):=by omega
 obtain⟨pz,hpz⟩:∃ p,ns[L]?=some p:=⟨_,yd9 (by omega)⟩
 have hkz:z5X ns ((n:Int)-1)=pz.kind:=by unfold z5X;rw[hLi,Int.toNat_natCast,hpz]
 rw[hkz]at hlast;have HT:Hid (z8G w B (.slice (some ⟨g,0,none⟩) n tc) ns/\ns.length=n/\(∀(j:Nat) (p:z4Q),ns[j]?=some p->z5Y p)/\zdl ns):=⟨hT,hn,hh,hG⟩;obtain⟨lz,nz,NZ⟩:=z9L hT hpz;have HZ:Hid (∀ W,Below w.heap.size w W->W.cell? ⟨g,L*8,none⟩=some (.int .i64 pz.kind)):=fun W hW=>(NZ.below hW).c0;have HLn:Hid (n=L+1):=hL;clear hL hT hn hh hpz hkz NZ hG;go_enter Tryz.func6,Tryz.ntmps6;go_upto_region 4 with fail;go_loopw [15] (fun i wr=>∃ q:Nat,i=.int .i64 (q:Int)/\q<=n/\Hid (Below w.heap.size w wr)) (fun i _=>n+1-(intOf i).toNat)
 case atStart=>exact⟨0,rfl,yj9 _,yg9 _ _⟩
 case round=>
  obtain⟨j,rfl,hj,HB⟩:=hrel;by_cases hlt:j<n
  ·obtain⟨p,hp⟩:∃ p,ns[j]?=some p:=⟨_,yd9 (by have:=HT.out.2.1;omega)⟩
   obtain⟨lv,nv,NA0⟩:=z9L HT.out.1 hp;obtain⟨la,lc,rfl⟩:=z8A NA0.list;obtain⟨na,nc,rfl⟩:=z8A NA0.names;have NA:=NA0.below HB.out;have cN:∀ W,Below w.heap.size w W->Calls Tryz.prog 15 #[.agg #[.int .i64 p.kind,.int .i64 p.a,.int .i64 p.b,.int .i64 p.c,.slice la p.list.length lc,.slice na p.names.length nc,.int .u64 (p.num:Int),.int .i64 p.pos]] W fun e w'=>e=.returned (.bool true)/\Below W.heap.size W w':=fun W hW=>zfY (HT.out.2.2.1 j p hp) (z8B NA0.list hW) (z8B NA0.names hW);have n0:=NA.c0;have n1:=NA.c1;have n2:=NA.c2;have n3:=NA.c3;have n4:=NA.c4;have n5:=NA.c5;have n6:=NA.c6;have n7:=NA.c7;obtain⟨m,hm⟩:∃ m,p.list.length=m:=⟨_,rfl⟩;obtain⟨q,hq⟩:∃ q,p.names.length=q:=⟨_,rfl⟩;obtain⟨z,hzz⟩:∃ z:Int,(p.num:Int)=z:=⟨_,rfl⟩;rw[hm,hq,hzz]at cN;rw[hm]at n4;rw[hq]at n5;rw[hzz]at n6;have bA:∀ o,Below w.heap.size w (wr.alloc o):=fun o=>HB.out.alloc HB.out.size o;have hji:(j:Int)<(n:Int):=by omega
   have hj0:(0:Int)<=(j:Int):=by omega
   clear NA NA0 hp hm hq hzz;go_wp2_with fail;refine(cN _ (bA _)).mono ?_;rintro e w5 ⟨rfl,b5⟩;have HB5:Hid (Below w.heap.size w w5):=(bA _).trans (b5.mono (bA _).size);clear b5 cN bA n0 n1 n2 n3 n4 n5 n6 n7;go_wp2_with fail;go_roundw
   case rel=>exact⟨j+1,by go_num,by omega,HB5.out⟩
   case measure=>simp[intOf];omega
  ·have hge:decide ((j:Int)<(n:Int))=false:=ya9 (by omega)
   have hge':decide (j<n)=false:=ya9 (by omega)
   have z0:=HZ.out wr HB.out;have hL0:(0:Int)<=(L:Int):=by omega
   have hLn:(L:Int)<(n:Int):=by have:=HLn.out;omega
   rw[hlast]at z0;have cP:=zgE (HT.out.1.below' HB.out) HT.out.2.1 HT.out.2.2.2;go_wp2_with fail;refine cP.mono ?_;rintro e w5 ⟨rfl,b5⟩;have HB5:Hid (Below w.heap.size w w5):=HB.out.trans (b5.mono HB.out.size);clear b5 cP;go_wp2;go_returns;exact⟨rfl,HB5.out⟩
theorem zgG{w:World}{n B g tc:Nat}{ns:List z4Q}(hT:z8G w B (.slice (some ⟨g,0,none⟩) n tc) ns)(hn:ns.length=n)(hh:∀(j:Nat) (p:z4Q),ns[j]?=some p->z5Y p)(few:1<=n/\n<=300)(hlast:z5X ns ((n:Int)-1)≠29):
  Calls Tryz.prog 6 #[.slice (some ⟨g,0,none⟩) n tc] w fun e w'=>e=.returned (.bool false)/\Below w.heap.size w w':=by
 obtain⟨few1,few2⟩:=few;have hz:((n:Int)==0)=false:=by rw[yc9];omega
 have hz2:((n:Int)=0)=False:=by simp;omega
 have hg3:decide ((300:Int)<(n:Int))=false:=ya9 (by omega)
 have hg4:decide (300<n)=false:=ya9 (by omega)
 obtain⟨L,hL⟩:∃ L:Nat,n=L+1:=⟨n-1,by omega⟩
 have hLi:((n:Int)-1)=(L:Int):=by omega
 obtain⟨pz,hpz⟩:∃ p,ns[L]?=some p:=⟨_,yd9 (by omega)⟩
 have hkz:z5X ns ((n:Int)-1)=pz.kind:=by unfold z5X;rw[hLi,Int.toNat_natCast,hpz]
 rw[hkz]at hlast;have HT:Hid (z8G w B (.slice (some ⟨g,0,none⟩) n tc) ns/\ns.length=n/\(∀(j:Nat) (p:z4Q),ns[j]?=some p->z5Y p)/\True):=⟨hT,hn,hh,trivial⟩;obtain⟨lz,nz,NZ⟩:=z9L hT hpz;have HZ:Hid (∀ W,Below w.heap.size w W->W.cell? ⟨g,L*8,none⟩=some (.int .i64 pz.kind)):=fun W hW=>(NZ.below hW).c0;have HLn:Hid (n=L+1):=hL;clear hL hT hn hh hpz hkz NZ;go_enter Tryz.func6,Tryz.ntmps6;go_upto_region 4 with fail;go_loopw [15] (fun i wr=>∃ q:Nat,i=.int .i64 (q:Int)/\q<=n/\Hid (Below w.heap.size w wr)) (fun i _=>n+1-(intOf i).toNat)
 case atStart=>exact⟨0,rfl,yj9 _,yg9 _ _⟩
 case round=>
  obtain⟨j,rfl,hj,HB⟩:=hrel;by_cases hlt:j<n
  ·obtain⟨p,hp⟩:∃ p,ns[j]?=some p:=⟨_,yd9 (by have:=HT.out.2.1;omega)⟩
   obtain⟨lv,nv,NA0⟩:=z9L HT.out.1 hp;obtain⟨la,lc,rfl⟩:=z8A NA0.list;obtain⟨na,nc,rfl⟩:=z8A NA0.names;have NA:=NA0.below HB.out;have cN:∀ W,Below w.heap.size w W->Calls Tryz.prog 15 #[.agg #[.int .i64 p.kind,.int .i64 p.a,.int .i64 p.b,.int .i64 p.c,.slice la p.list.length lc,.slice na p.names.length nc,.int .u64 (p.num:Int),.int .i64 p.pos]] W fun e w'=>e=.returned (.bool true)/\Below W.heap.size W w':=fun W hW=>zfY (HT.out.2.2.1 j p hp) (z8B NA0.list hW) (z8B NA0.names hW);have n0:=NA.c0;have n1:=NA.c1;have n2:=NA.c2;have n3:=NA.c3;have n4:=NA.c4;have n5:=NA.c5;have n6:=NA.c6;have n7:=NA.c7;obtain⟨m,hm⟩:∃ m,p.list.length=m:=⟨_,rfl⟩;obtain⟨q,hq⟩:∃ q,p.names.length=q:=⟨_,rfl⟩;obtain⟨z,hzz⟩:∃ z:Int,(p.num:Int)=z:=⟨_,rfl⟩;rw[hm,hq,hzz]at cN;rw[hm]at n4;rw[hq]at n5;rw[hzz]at n6;have bA:∀ o,Below w.heap.size w (wr.alloc o):=fun o=>HB.out.alloc HB.out.size o;have hji:(j:Int)<(n:Int):=by omega
   have hj0:(0:Int)<=(j:Int):=by omega
   clear NA NA0 hp hm hq hzz;go_wp2_with fail;refine(cN _ (bA _)).mono ?_;rintro e w5 ⟨rfl,b5⟩;have HB5:Hid (Below w.heap.size w w5):=(bA _).trans (b5.mono (bA _).size);clear b5 cN bA n0 n1 n2 n3 n4 n5 n6 n7;go_wp2_with fail;go_roundw
   case rel=>exact⟨j+1,by go_num,by omega,HB5.out⟩
   case measure=>simp[intOf];omega
  ·have hge:decide ((j:Int)<(n:Int))=false:=ya9 (by omega)
   have hge':decide (j<n)=false:=ya9 (by omega)
   have z0:=HZ.out wr HB.out;have hL0:(0:Int)<=(L:Int):=by omega
   have hLn:(L:Int)<(n:Int):=by have:=HLn.out;omega
   have hkb:(pz.kind==(29:Int))=false:=by rw[yc9];exact hlast
   go_wp2;go_returns;exact⟨rfl,HB.out⟩
theorem zgH{w:World}{n B g tc:Nat}{ns:List z4Q}(hT:z8G w B (.slice (some ⟨g,0,none⟩) n tc) ns)(hn:ns.length=n)(few:1<=n/\n<=301){k:Nat}(hk:k<n)(hh:∀(j:Nat) (p:z4Q),j<k->ns[j]?=some p->z5Y p)(hb:∃ p,ns[k]?=some p/\p.kind=30):
  Calls Tryz.prog 6 #[.slice (some ⟨g,0,none⟩) n tc] w fun e w'=>e=.returned (.bool false)/\Below w.heap.size w w':=by
 obtain⟨few1,few2⟩:=few;by_cases hbig:n<=300
 case neg=>
  have hz:((n:Int)==0)=false:=by rw[yc9];omega
  have hg3:decide ((300:Int)<(n:Int))=true:=yb9 (by omega)
  have hg4:decide (300<n)=true:=yb9 (by omega)
  clear hT hn hh hb;go_enter Tryz.func6,Tryz.ntmps6;go_wp2;go_returns;exact⟨rfl,yg9 _ _⟩
 have hz:((n:Int)==0)=false:=by rw[yc9];omega
 have hz2:((n:Int)=0)=False:=by simp;omega
 have hg3:decide ((300:Int)<(n:Int))=false:=ya9 (by omega)
 have hg4:decide (300<n)=false:=ya9 (by omega)
 have HT:Hid (z8G w B (.slice (some ⟨g,0,none⟩) n tc) ns/\ns.length=n/\(∀(j:Nat) (p:z4Q),j<k->ns[j]?=some p->z5Y p)/\∃ p,ns[k]?=some p/\p.kind=30):=⟨hT,hn,hh,hb⟩;clear hT hn hh hb;go_enter Tryz.func6,Tryz.ntmps6;go_upto_region 4 with fail;go_loopw [15] (fun i wr=>∃ q:Nat,i=.int .i64 (q:Int)/\q<=k/\Hid (Below w.heap.size w wr)) (fun i _=>k+1-(intOf i).toNat)
 case atStart=>exact⟨0,rfl,yj9 _,yg9 _ _⟩
 case round=>
  obtain⟨j,rfl,hj,HB⟩:=hrel;by_cases hlt:j<k
  ·obtain⟨p,hp⟩:∃ p,ns[j]?=some p:=⟨_,yd9 (by have:=HT.out.2.1;omega)⟩
   obtain⟨lv,nv,NA0⟩:=z9L HT.out.1 hp;obtain⟨la,lc,rfl⟩:=z8A NA0.list;obtain⟨na,nc,rfl⟩:=z8A NA0.names;have NA:=NA0.below HB.out;have cN:∀ W,Below w.heap.size w W->Calls Tryz.prog 15 #[.agg #[.int .i64 p.kind,.int .i64 p.a,.int .i64 p.b,.int .i64 p.c,.slice la p.list.length lc,.slice na p.names.length nc,.int .u64 (p.num:Int),.int .i64 p.pos]] W fun e w'=>e=.returned (.bool true)/\Below W.heap.size W w':=fun W hW=>zfY (HT.out.2.2.1 j p hlt hp) (z8B NA0.list hW) (z8B NA0.names hW);have n0:=NA.c0;have n1:=NA.c1;have n2:=NA.c2;have n3:=NA.c3;have n4:=NA.c4;have n5:=NA.c5;have n6:=NA.c6;have n7:=NA.c7;obtain⟨m,hm⟩:∃ m,p.list.length=m:=⟨_,rfl⟩;obtain⟨q,hq⟩:∃ q,p.names.length=q:=⟨_,rfl⟩;obtain⟨z,hzz⟩:∃ z:Int,(p.num:Int)=z:=⟨_,rfl⟩;rw[hm,hq,hzz]at cN;rw[hm]at n4;rw[hq]at n5;rw[hzz]at n6;have bA:∀ o,Below w.heap.size w (wr.alloc o):=fun o=>HB.out.alloc HB.out.size o;have hji:(j:Int)<(n:Int):=by omega
   have hj0:(0:Int)<=(j:Int):=by omega
   clear NA NA0 hp hm hq hzz;go_wp2_with fail;refine(cN _ (bA _)).mono ?_;rintro e w5 ⟨rfl,b5⟩;have HB5:Hid (Below w.heap.size w w5):=(bA _).trans (b5.mono (bA _).size);clear b5 cN bA n0 n1 n2 n3 n4 n5 n6 n7;go_wp2_with fail;go_roundw
   case rel=>exact⟨j+1,by go_num,by omega,HB5.out⟩
   case measure=>simp[intOf];omega
  ·have ejk:j=k:=by omega
   subst ejk;obtain⟨p,hp,hk30⟩:=HT.out.2.2.2;obtain⟨lv,nv,NA0⟩:=z9L HT.out.1 hp;obtain⟨la,lc,rfl⟩:=z8A NA0.list;obtain⟨na,nc,rfl⟩:=z8A NA0.names;have NA:=NA0.below HB.out;have n0:=NA.c0;have n1:=NA.c1;have n2:=NA.c2;have n3:=NA.c3;have n4:=NA.c4;have n5:=NA.c5;have n6:=NA.c6;have n7:=NA.c7;rw[hk30]at n0;obtain⟨m,hm⟩:∃ m,p.list.length=m:=⟨_,rfl⟩;obtain⟨q,hq⟩:∃ q,p.names.length=q:=⟨_,rfl⟩;obtain⟨z,hzz⟩:∃ z:Int,(p.num:Int)=z:=⟨_,rfl⟩;rw[hm]at n4;rw[hq]at n5;rw[hzz]at n6;have cN:=fun W=>zfZ (w:=W) p.a p.b p.c z p.pos (la:=la) (na:=na) (m:=m) (lc:=lc) (q:=q) (nc:=nc);have bA:∀ o,Below w.heap.size w (wr.alloc o):=fun o=>HB.out.alloc HB.out.size o;have hji:(j:Int)<(n:Int):=by omega
   have hj0:(0:Int)<=(j:Int):=by omega
   clear NA NA0 hp hm hq hzz;go_wp2_with fail;refine(cN _).mono ?_;rintro e w5 ⟨rfl,b5⟩;have HB5:Hid (Below w.heap.size w w5):=(bA _).trans (b5.mono (bA _).size);clear b5 cN bA n0 n1 n2 n3 n4 n5 n6 n7;go_wp2;go_returns;exact⟨rfl,HB5.out⟩
def zgI(n j:Nat)(xs:List Value):Prop:=∀ i:Nat,i<n->∃ d:Nat,xs[i]?=some (.int .i64 (d:Int))/\(i<j->1<=d/\d<=i+1)/\(j<i->d=0)/\(i=j->d<=j)
theorem zgI.put{n j:Nat}{xs:List Value}{d:Nat}(h:zgI n j xs)(hj:j<n)(hd:d<=j):zgI n j (xs.set j (.int .i64 (d:Int))):=by
 intro i hi;obtain⟨e,h1,h2,h3,h4⟩:=h i hi;have hlt:=(List.getElem?_eq_some_iff.1 h1).1;rcases Nat.decEq j i with k|k
 ·exact⟨e,by rw[List.getElem?_set_ne k];exact h1,h2,h3,h4⟩
 ·subst k;exact⟨d,List.getElem?_set_self hlt,fun k=>absurd k (Nat.lt_irrefl _),fun k=>absurd k (Nat.lt_irrefl _),fun _=>hd⟩
theorem zgI.next{n j:Nat}{xs:List Value}{d:Nat}(h:zgI n j xs)(hj:j<n)(hd:d<=j):zgI n (j+1) (xs.set j (.int .i64 ((d:Int)+1))):=by
 intro i hi;obtain⟨e,h1,h2,h3,h4⟩:=h i hi;have hlt:=(List.getElem?_eq_some_iff.1 h1).1;rcases Nat.decEq j i with k|k
 ·refine⟨e,by rw[List.getElem?_set_ne k];exact h1,fun q=>h2 (by omega),fun q=>h3 (by omega),fun q=>?_⟩
  have:=h3 (by omega)
  omega
 ·subst k;exact⟨d+1,List.getElem?_set_self hlt,fun q=>⟨by omega,by omega⟩,fun q=>by omega,fun q=>by omega⟩
theorem zgJ{w:World}{n B g tc:Nat}{ns:List z4Q}(hT:z8G w B (.slice (some ⟨g,0,none⟩) n tc) ns)(hn:ns.length=n)(hG:zdl ns)(hlast:z5X ns ((n:Int)-1)=29)(hu:(z5Z ns).length+1=n):
  Calls Tryz.prog 8 #[.slice (some ⟨g,0,none⟩) n tc] w fun e w'=>∃ d:Nat,1<=d/\d<=n/\e=.returned (.int .i64 (d:Int))/\Below w.heap.size w w':=by
 have few:=hG.few;rw[hn]at few;obtain⟨few1,few2⟩:=few;have cO:=zgF hT hn hG hlast;rw[yb9 hu]at cO;have HT:Hid (z8G w B (.slice (some ⟨g,0,none⟩) n tc) ns/\ns.length=n/\zdl ns):=⟨hT,hn,hG⟩;have hmk:=run_make_row' (P:=Tryz.prog) 29 3 (.int .i64 0) 8 Tryz.underlying29 Tryz.infoInt rfl .i64 .i64 n (by omega) (by omega)
 clear hT hn hG hlast hu;go_enter Tryz.func8,Tryz.ntmps8;go_wp2_with fail;refine cO.mono ?_;rintro e w1 ⟨rfl,bq⟩;have b0:Below w.heap.size w (w1.alloc (.cells (madeCells #[.int .i64 0] n) 3)):=bq.alloc bq.size _;have o0:(w1.alloc (.cells (madeCells #[.int .i64 0] n) 3)).ownsRow w1.heap.size 3 1 (.slice (some ⟨w1.heap.size,0,none⟩) n n) n (List.replicate n (.int .i64 0)):=by
  refine⟨by simp,.inr ⟨w1.heap.size,n,_,rfl,yf9 _,heap_alloc_new w1 _,yf9 _,by unfold maxLen;omega,by simp[size_madeCells],?_⟩⟩
  rw[toList_madeCells_one,Nat.mul_one,List.take_of_length_le (by simp)]
 obtain⟨X,hX⟩:∃ X,w1.heap.size=X:=⟨_,rfl⟩;obtain⟨W0,hW0⟩:∃ W,w1.alloc (.cells (madeCells #[.int .i64 0] n) 3)=W:=⟨_,rfl⟩;rw[hW0]at b0 o0;rw[hX]at o0;have H0:Hid (W0.ownsRow X 3 1 (.slice (some ⟨X,0,none⟩) n n) n (List.replicate n (.int .i64 0))/\Below w.heap.size w W0/\w.heap.size<=X):=⟨o0,b0,by rw[←hX];exact bq.size⟩
 clear b0 o0 bq cO;go_upto_region 4 with fail;try simp only[hW0,hX]
 clear hW0 hX hmk;go_upto_region 5 with fail;go_loopw [16] (fun i wr=>∃(j:Nat) (xs:List Value),i=.int .i64 (j:Int)/\j<=n/\Hid (wr.ownsRow X 3 1 (.slice (some ⟨X,0,none⟩) n n) n xs)/\Hid (Below w.heap.size w wr)/\Hid (zgI n j xs)) (fun i _=>n-(intOf i).toNat)
 case atStart=>exact⟨0,List.replicate n (.int .i64 0),rfl,yj9 _,H0.out.1,H0.out.2.1,fun i hi=>⟨0,by rw[List.getElem?_replicate,if_pos hi];rfl,fun q=>absurd q (Nat.not_lt_zero _),fun _=>rfl,fun _=>yj9 _⟩⟩
 case round=>
  obtain⟨j,xs,rfl,hj,HO,HB,HU⟩:=hrel;by_cases hlt:j<n
  ·skip
   obtain⟨⟨pk,pa,pb,pc,pl,pn,pu,pp⟩,hp⟩:∃ p,ns[j]?=some p:=⟨_,yd9 (by have:=HT.out.2.1;omega)⟩
   obtain⟨lv,nv,NA0⟩:=z9L HT.out.1 hp;obtain⟨la,lc,hla⟩:=z8A NA0.list;obtain⟨na,nc,hna⟩:=z8A NA0.names;have NA:=NA0.below (HB.out);rw[hla,hna]at NA;simp only at NA;obtain⟨ml,hml⟩:∃ k,pl.length=k:=⟨_,rfl⟩;obtain⟨qn,hqn⟩:∃ k,pn.length=k:=⟨_,rfl⟩;have HML:Hid (pl.length=ml/\pn.length=qn):=⟨hml,hqn⟩;rw[hml,hqn]at NA;have HHP:Hid (z5Y ⟨pk,pa,pb,pc,pl,pn,pu,pp⟩):=HT.out.2.2.held j _ hp;have HHN:Hid (ns[j]?=some ⟨pk,pa,pb,pc,pl,pn,pu,pp⟩):=hp;have NL:=NA.list;have NN:=NA.names;simp only[hml,hqn]at NL NN;have n0:=NA.c0;have n1:=NA.c1;have n2:=NA.c2;have n3:=NA.c3;have n4:=NA.c4;have n5:=NA.c5;have n6:=NA.c6;have n7:=NA.c7;have hB:=heap_alloc_new wr (.cells #[.int .i64 pk,.int .i64 pa,.int .i64 pb,.int .i64 pc,.slice la ml lc,.slice na qn nc,.int .u64 (pu:Int),.int .i64 pp] 34);have b1:Below wr.heap.size wr (wr.alloc (.cells #[.int .i64 pk,.int .i64 pa,.int .i64 pb,.int .i64 pc,.slice la ml lc,.slice na qn nc,.int .u64 (pu:Int),.int .i64 pp] 34)):=(yg9 _ _).alloc (yf9 _) _;obtain⟨Y,hY⟩:∃ Y,wr.heap.size=Y:=⟨_,rfl⟩;obtain⟨W1,hW1⟩:∃ W,wr.alloc (.cells #[.int .i64 pk,.int .i64 pa,.int .i64 pb,.int .i64 pc,.slice la ml lc,.slice na qn nc,.int .u64 (pu:Int),.int .i64 pp] 34)=W:=⟨_,rfl⟩;rw[hW1]at hB b1;rw[hY]at hB;have HLS:Hid (W1.ownsRow B 3 1 (.slice la pl.length lc) pl.length (pl.map (Value.int .i64))):=by rw[hml];exact z8B NL b1
   have HNM:Hid (W1.ownsRow B 9 1 (.slice na pn.length nc) pn.length (pn.map Value.string)):=by rw[hqn];exact z8B NN b1
   obtain⟨PS,hPS⟩:∃ PS,zdj ⟨pk,pa,pb,pc,pl,pn,pu,pp⟩=PS:=⟨_,rfl⟩;obtain⟨m,hm⟩:∃ m,PS.length=m:=⟨_,rfl⟩;have HPS:Hid (zdj ⟨pk,pa,pb,pc,pl,pn,pu,pp⟩=PS/\PS.length=m):=⟨hPS,hm⟩;have HLN:Hid (pl.length<=10000):=yi9 (HT.out.2.2.lists j _ hp) (by decide)
   have hm300:m<=10000:=by
    rw[←hm,←hPS];exact zgx (HT.out.2.2.lists j _ hp)
   have HW1:Hid (Below w.heap.size w W1/\Below wr.heap.size wr W1/\wr.heap.size=Y):=⟨HB.out.trans (b1.mono HB.out.size),b1,hY⟩;have hji:(j:Int)<(n:Int):=by omega
   have hj0:(0:Int)<=(j:Int):=by omega
   clear hp NA0 NA NL NN hla hna hPS hm b1 hml hqn;go_upto_region 7 with fail;try simp only[hW1,hY]
   clear hW1 hY n0 n1 n2 n3 n4 n5 n6 n7;obtain⟨y0,y1,y2,y3,y4,y5,y6,y7⟩:=z8C hB;clear hB;have cFP:=zgy HHP.out HLS.out HNM.out HLN.out (show(zdj ⟨pk,pa,pb,pc,pl,pn,pu,pp⟩).length=m by rw[HPS.out.1];exact HPS.out.2)
   rw[HML.out.1,HML.out.2,HPS.out.1]at cFP;go_cut [23,24,25] (fun v1 v2 v3 wx=>∃ va vc,v1=.slice va m vc/\v2=.int .i64 (m:Int)/\v3=.int .i64 0/\zg6 W1.heap.size (.slice va m vc) PS wx/\Below W1.heap.size W1 wx)
   case first=>
    obtain⟨T,v,fw,fp,hform,cF,cP⟩:=cFP;rcases hform with ⟨_,rfl,rfl,rfl,rfl⟩|⟨_,rfl,rfl,rfl,rfl⟩|⟨_,rfl,rfl,rfl,rfl⟩|⟨_,rfl,rfl,rfl,rfl⟩|⟨_,_,rfl,rfl,rfl,rfl⟩|⟨_,_,_,rfl,rfl,rfl,rfl⟩|⟨_,_,_,rfl,rfl,rfl,rfl⟩|⟨_,_,_,_,rfl,rfl,rfl,rfl⟩|⟨_,_,_,_,rfl,rfl,rfl,rfl⟩|⟨_,_,_,rfl,rfl,rfl,rfl⟩|⟨_,_,rfl,rfl,rfl,rfl⟩|⟨_,_,rfl,rfl,rfl,rfl⟩|⟨_,_,_,rfl,rfl,rfl,rfl⟩|⟨_,_,rfl,rfl,rfl,rfl⟩|⟨_,_,_,rfl,rfl,rfl,rfl⟩|⟨_,_,_,rfl,rfl,rfl,rfl⟩;all_goals
     go_wp2_with fail;refine cF.mono ?_;rintro e w3 ⟨rfl,b3⟩;have cP3:=cP w3 b3;clear cF cP b3;go_wp2_with fail;refine cP3.mono ?_;rintro e w4 ⟨va,vc,rfl,hp,b4⟩;have HP:Hid (zg6 W1.heap.size (.slice va m vc) PS w4/\Below W1.heap.size W1 w4):=⟨hp,b4⟩;clear hp b4 cP3;go_wp2_with fail;go_meet
     case rel=>exact⟨va,vc,rfl,rfl,rfl,HP.out.1,HP.out.2⟩
   case rest=>
    obtain⟨va,vc,rfl,rfl,rfl,HPA0,HBC⟩:=hcut;clear cFP;have HC0:Hid (zg6 W1.heap.size (.slice va m vc) PS wc/\Below W1.heap.size W1 wc):=⟨HPA0,HBC⟩;have HO0:Hid (wc.ownsRow X 3 1 (.slice (some ⟨X,0,none⟩) n n) n xs):=z8B (z8B HO.out HW1.out.2.1) HBC;clear HPA0 HBC y0 y1 y2 y3 y4 y5 y6 y7;go_upto_region 8 with fail;go_loopw [25] (fun i wr'=>∃(q:Nat) (xs':List Value),i=.int .i64 (q:Int)/\q<=m/\Hid (wr'.ownsRow X 3 1 (.slice (some ⟨X,0,none⟩) n n) n xs')/\Hid (Below w.heap.size w wr')/\Hid (zgI n j xs')/\Hid (zg6 W1.heap.size (.slice va m vc) PS wr')) (fun i _=>m-(intOf i).toNat)
    case atStart=>exact⟨0,xs,rfl,yj9 _,HO0.out,HW1.out.1.trans (HC0.out.2.mono HW1.out.1.size),HU.out,HC0.out.1⟩
    case round=>
     obtain⟨q,xs',rfl,hq,HO1,HB1,HU1,HP1⟩:=hrel;by_cases hqm:q<m
     ·obtain⟨⟨x,r⟩,hxr⟩:∃ x,PS[q]?=some x:=⟨_,yd9 (by have:=HPS.out.2;omega)⟩
      obtain⟨h0,h1,hfit⟩:=HT.out.2.2.part j _ HHN.out (x,r) (by rw[HPS.out.1];exact List.mem_iff_getElem?.2 ⟨q,hxr⟩)
      simp only at h0 h1 hfit;obtain⟨xn,rfl⟩:∃ xn:Nat,x=(xn:Int):=⟨x.toNat,by omega⟩
      have hxj:xn<j:=by omega
      obtain⟨dj,dj1,_,_,dj4⟩:=HU1.out j hlt;obtain⟨dx,dx1,dx2,_,_⟩:=HU1.out xn (by omega)
      have hdj:=dj4 rfl;have hdx:=dx2 hxj;obtain⟨M,hM⟩:∃ M:Nat,(if (dx:Int)>(dj:Int)then (dx:Int)else (dj:Int))=(M:Int)/\M<=j:=by
       by_cases e:dj<dx
       ·exact⟨dx,by rw[if_pos (by omega)],by omega⟩
       ·exact⟨dj,by rw[if_neg (by omega)],by omega⟩
      have hmx:∀ W:World,(Builtin.max_ #[3,3] 3 #[.int .i64 (dj:Int),.int .i64 (dx:Int)]).run Tryz.prog W=.ok (.int .i64 (M:Int)) W:=fun W=>by rw[run_max_int2,hM.1]
      obtain⟨xp,hop,hpr⟩:=HP1.out;rw[HPS.out.2]at hop;obtain⟨p0,p1⟩:=hpr q _ hxr;obtain⟨gp,hva,z0⟩:=zed hop p0;obtain⟨gp',hva',z1⟩:=zed hop p1;rw[hva]at hva';injection hva' with hva';injection hva' with hva';subst hva';subst hva;have hgp:X<gp:=by
       have:=(hop.lt gp rfl).1;have e2:=(HO.out.lt X rfl).2;have e3:=HW1.out.2.1.size;omega
      have u0:wr.cell? ⟨X,j,none⟩=some (.int .i64 (dj:Int)):=z9I HO1.out dj1;have u1:wr.cell? ⟨X,xn,none⟩=some (.int .i64 (dx:Int)):=z9I HO1.out dx1;have uf:=HO1.out.frozenAt j;have hqi:(q:Int)<(m:Int):=by omega
      have hq0:(0:Int)<=(q:Int):=by omega
      have hxn:(xn:Int)<(n:Int):=by omega
      have hxn0:(0:Int)<=(xn:Int):=by omega
      have hBx:=heap_alloc_new wr (.cells #[.int .i64 (xn:Int),.int .i64 r] 52);have bx:Below wr.heap.size wr (wr.alloc (.cells #[.int .i64 (xn:Int),.int .i64 r] 52)):=(yg9 _ _).alloc (yf9 _) _;obtain⟨V,hV⟩:∃ V,wr.heap.size=V:=⟨_,rfl⟩;obtain⟨W2,hW2⟩:∃ W,wr.alloc (.cells #[.int .i64 (xn:Int),.int .i64 r] 52)=W:=⟨_,rfl⟩;rw[hW2]at hBx bx;rw[hV]at hBx;have v0:=cell_of_row _ _ 0 _ _ _ hBx;have v1:W2.cell? ⟨X,j,none⟩=some (.int .i64 (dj:Int)):=(bx.cell (p:=⟨X,j,none⟩) (World.block_lt_of_cell? wr _ u0)).trans u0;have v2:W2.cell? ⟨X,xn,none⟩=some (.int .i64 (dx:Int)):=(bx.cell (p:=⟨X,xn,none⟩) (World.block_lt_of_cell? wr _ u1)).trans u1;have vf:W2.frozen? ⟨X,j,none⟩=false:=(z8B HO1.out bx).frozenAt j;have HBX:Hid (Below wr.heap.size wr W2):=bx;have HNX:Hid (∀ W,Below W2.heap.size W2 W->(W.setCell ⟨X,j,none⟩ (.int .i64 (M:Int))).ownsRow X 3 1 (.slice (some ⟨X,0,none⟩) n n) n (xs'.set j (.int .i64 (M:Int)))/\Below w.heap.size w (W.setCell ⟨X,j,none⟩ (.int .i64 (M:Int)))/\zg6 W1.heap.size (.slice (some ⟨gp,0,none⟩) m vc) PS (W.setCell ⟨X,j,none⟩ (.int .i64 (M:Int)))):=fun W hW=>by
       have bw:=HBX.out.trans (hW.mono HBX.out.size);have oW:=z8B HO1.out bw;obtain⟨s1,g1⟩:=oW.stored j (.int .i64 (M:Int));have dW:=HB1.out.trans (bw.mono HB1.out.size);refine⟨s1,dW.grown g1 dW.size (fun k e=>by injection e with e;have:=H0.out.2.2;omega),⟨xp,?_,hpr⟩⟩
       rw[HPS.out.2];exact(z8B hop bw).kept g1 (.inr fun e=>by have e':gp=X:=Option.some.inj e;omega)
      have HUX:Hid (zgI n j (xs'.set j (.int .i64 (M:Int)))):=HU1.out.put hlt hM.2;clear hxr h0 h1 hfit hop hpr p0 p1 hBx bx hgp dj1 dj4 dx1 dx2 hM hdj hdx;go_upto_region 10 with fail;try simp only[hW2,hV]
      clear hW2 hV z0 z1 u0 u1 uf;have HNM:Hid (∀ k,_):=fun k=>HNX.out (W2.drewN k) (below_drewN (yg9 _ _) k);clear HNX;go_region
      all_goals
       go_wp2_with fail;go_roundw
       case rel=>exact⟨q+1,_,by go_num,by omega,(HNM.out _).1,(HNM.out _).2.1,HUX.out,(HNM.out _).2.2⟩
       case measure=>simp[intOf];omega
     ·have hge:decide ((q:Int)<(m:Int))=false:=ya9 (by omega)
      have hge':decide (q<m)=false:=ya9 (by omega)
      obtain⟨dj,dj1,_,_,dj4⟩:=HU1.out j hlt;have hdj:=dj4 rfl;have u0:wr.cell? ⟨X,j,none⟩=some (.int .i64 (dj:Int)):=z9I HO1.out dj1;have uf:=HO1.out.frozenAt j;have HNX:Hid ((wr.setCell ⟨X,j,none⟩ (.int .i64 ((dj:Int)+1))).ownsRow X 3 1 (.slice (some ⟨X,0,none⟩) n n) n (xs'.set j (.int .i64 ((dj:Int)+1)))/\Below w.heap.size w (wr.setCell ⟨X,j,none⟩ (.int .i64 ((dj:Int)+1)))/\zgI n (j+1) (xs'.set j (.int .i64 ((dj:Int)+1)))):=by
       obtain⟨s1,g1⟩:=HO1.out.stored j (.int .i64 ((dj:Int)+1));exact⟨s1,HB1.out.grown g1 HB1.out.size (fun k e=>by injection e with e;have:=H0.out.2.2;omega),HU1.out.next hlt hdj⟩
      clear dj1 dj4;go_wp2;go_roundw
      case rel=>exact⟨j+1,_,by go_num,by omega,HNX.out.1,HNX.out.2.1,HNX.out.2.2⟩
      case measure=>simp[intOf];omega
  ·have hge:decide ((j:Int)<(n:Int))=false:=ya9 (by omega)
   have hge':decide (j<n)=false:=ya9 (by omega)
   obtain⟨d,d1,d2,_,_⟩:=HU.out (n-1) (by omega)
   have hd:=d2 (by omega)
   obtain⟨L,hL⟩:∃ L:Nat,n-1=L:=⟨_,rfl⟩;rw[hL]at d1 hd;have hLi:((n:Int)-1)=(L:Int):=by omega
   have hL0:(0:Int)<=(L:Int):=by omega
   have hLn:(L:Int)<(n:Int):=by omega
   have u0:wr.cell? ⟨X,L,none⟩=some (.int .i64 (d:Int)):=z9I HO.out d1;have HD:Hid (1<=d/\d<=n):=⟨hd.1,by omega⟩
   clear d1 d2 hd hL;go_wp2;go_returns;first|exact⟨d,HD.out.1,HD.out.2,rfl,HB.out⟩|exact⟨⟨d,HD.out.1,HD.out.2,rfl⟩,HB.out⟩
