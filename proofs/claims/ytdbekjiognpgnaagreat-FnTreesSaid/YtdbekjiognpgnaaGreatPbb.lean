/- Part 28. -/
import Derived.Test.YtdbekjiognpgnaaGreatPba
import Derived.Deep.OwnRows
set_option maxHeartbeats 16000000
set_option maxRecDepth 100000
set_option linter.unusedVariables false
namespace Go.Proofs.YtdbekjiognpgnaaGreat
open Go.RowKit Go.Sort
theorem zaX{w0:World}{n c g tc Bt x:Nat}{ns:List z4Q}{p:z4Q}(hR:z88 ns)(hT:z8G w0 Bt (.slice (some ⟨g,0,none⟩) n tc) ns)(hn:ns.length=n)(hx:ns[x]?=some p)(hk:p.kind=13)(hIH:∀ y:Int,0<=y->y<(x:Int)->zaF w0 n c (.slice (some ⟨g,0,none⟩) n tc) ns y)(hl4:p.names.length<=4):zaF w0 n c (.slice (some ⟨g,0,none⟩) n tc) ns (x:Int):=by
 intro F b s k w h hb;have hsz:=hR.sz_eq hx;have hxn:x<n:=by have:=(List.getElem?_eq_some_iff.1 hx).1;omega
 obtain⟨lv,nv,NA0⟩:=z9L hT hx;obtain⟨la,lc,rfl⟩:=z8A NA0.list;obtain⟨na,nc,rfl⟩:=z8A NA0.names;have NA:=NA0.below h.rows.low;have hnn:=h.rows.hn;have HNM:Hid (∀ W,Below w0.heap.size w0 W->∀(i:Nat) (t:ByteArray),p.names[i]?=some t->∃ gl,na=some ⟨gl,0,none⟩/\W.cell? ⟨gl,i,none⟩=some (.string t)):=fun W hW i t hi=>z9N NA0.names hW (by rw[List.getElem?_map,hi];rfl)
 obtain⟨m,hm⟩:∃ m,p.list.length=m:=⟨_,rfl⟩;obtain⟨q,hq⟩:∃ q,p.names.length=q:=⟨_,rfl⟩;obtain⟨z,hz⟩:∃ z:Int,(p.num:Int)=z:=⟨_,rfl⟩;have n0:=NA.c0;have n1:=NA.c1;have n2:=NA.c2;have n3:=NA.c3;have n4:=NA.c4;have n5:=NA.c5;have n6:=NA.c6;have n7:=NA.c7;rw[hk]at n0;rw[hm]at n4;rw[hq]at n5;rw[hz]at n6;have HT:Hid (z8G w0 Bt (.slice (some ⟨g,0,none⟩) n tc) ns/\ns.length=n/\ns[x]?=some p/\z88 ns/\p.names.length=q/\p.list.length=m):=⟨hT,hn,hx,hR,hq,hm⟩;obtain⟨tv,htv⟩:∃ tv,Value.slice (some ⟨g,0,none⟩) n tc=tv:=⟨_,rfl⟩;have HTV:Hid (Value.slice (some ⟨g,0,none⟩) n tc=tv):=htv;rw[htv]at h hIH ⊢;have HIH:Hid (∀ y:Int,0<=y->y<(x:Int)->zaF w0 n c tv ns y):=hIH;obtain⟨S,hS⟩:∃ S,sz ns (x:Int)=S:=⟨_,rfl⟩;have HSZ:Hid (S=1+sumZ (sz ns) (z8o p)):=by rw[←hS];exact hsz
 rw[hS]at hb ⊢;have hS1:1<=S:=by have:=HSZ.out;omega
 have H0:Hid (za8 w0 F n c tv b s k w):=h;obtain⟨x0,x1,x2,x3,x4,x5,x6,x7,x8,x9,x10,x11,xf⟩:=h.cells;rw[←HTV.out]at x0;obtain⟨fa,hfa⟩:∃ y,k.fault=y:=⟨_,rfl⟩;rw[hfa]at x7;have hxi:(x:Int)<(n:Int):=by omega
 have hx00:(0:Int)<=(x:Int):=by omega
 have b1:Below w.heap.size w (w.alloc (.cells #[.int .i64 13,.int .i64 p.a,.int .i64 p.b,.int .i64 p.c,.slice la m lc,.slice na q nc,.int .u64 z,.int .i64 p.pos] 34)):=(yg9 _ _).alloc (yf9 _) _;have hB:=heap_alloc_new w (.cells #[.int .i64 13,.int .i64 p.a,.int .i64 p.b,.int .i64 p.c,.slice la m lc,.slice na q nc,.int .u64 z,.int .i64 p.pos] 34);obtain⟨X,hX⟩:∃ X,w.heap.size=X:=⟨_,rfl⟩;obtain⟨W1,hW1⟩:∃ W,w.alloc (.cells #[.int .i64 13,.int .i64 p.a,.int .i64 p.b,.int .i64 p.c,.slice la m lc,.slice na q nc,.int .u64 z,.int .i64 p.pos] 34)=W:=⟨_,rfl⟩;rw[hW1]at b1 hB;rw[hX]at hB;have r1:=h.below b1;have t1:=h.step b1;clear h hT hn hx hR hIH NA NA0 hm hq hz htv hS hsz hfa xf x1 x2 x3 x4 x5 x6 x8 x9 x10 x11 b1;by_cases hf0:fa=0
 ·have hf0':(fa==0)=true:=by rw[beq_iff_eq];exact hf0
  subst hf0;go_enter Tryz.func86,Tryz.ntmps86;go_upto_region 2 with fail;try simp only[hW1,hX]
  clear hW1 hX n0 n1 n2 n3 n4 n5 n6 n7 x0 x7;obtain⟨y0,y1,y2,y3,y4,y5,y6,y7⟩:=z8C hB;have HB:Hid (W1.heap[X]?=some (.cells #[.int .i64 13,.int .i64 p.a,.int .i64 p.b,.int .i64 p.c,.slice la m lc,.slice na q nc,.int .u64 z,.int .i64 p.pos] 34)/\za9 w0.heap.size F w W1/\za8 w0 F n c tv b s k W1):=⟨hB,t1,r1⟩;have hkA:p.a∈z8o p:=by unfold z8o z5V;rw[if_neg (by omega),if_neg (by omega),if_neg (by omega),if_pos hk];simp
  have hsA:sz ns p.a<=sumZ (sz ns) (z8o p):=by have:=z8w (f:=sz ns) hkA;omega
  have hSS:=HSZ.out;obtain⟨e0,e1⟩:=HT.out.2.2.2.1.early x p HT.out.2.2.1 _ hkA;obtain⟨ya,hya⟩:∃ ya:Nat,p.a=(ya:Int):=⟨p.a.toNat,by omega⟩
  obtain⟨pb,hpb⟩:∃ pb,ns[ya]?=some pb:=⟨_,yd9 (by have:=HT.out.2.1;omega)⟩
  have hkb:pb.kind=29:=by
   have:=HT.out.2.2.2.1.seg.parts x p HT.out.2.2.1 (p.a,2) (by unfold z5V;rw[if_neg (by omega),if_neg (by omega),if_neg (by omega),if_pos hk];simp)
   have h3:=this.2.2;unfold z5W z5X at h3;rw[hya,Int.toNat_natCast,hpb]at h3;simp only at h3;omega
  have hkl:z8o pb=pb.list:=by
   unfold z8o z5V;rw[if_neg (by omega),if_neg (by omega),if_neg (by omega),if_neg (by omega),if_neg (by omega),if_neg (by omega),if_neg (by omega),if_pos hkb,List.map_map]
   show pb.list.map id=_;rw[List.map_id]
  have hsb:=HT.out.2.2.2.1.sz_eq hpb;rw[hkl,←hya]at hsb;have cF:Calls Tryz.prog 100 #[.pointer (some ⟨c,0,none⟩),.int .i64 (x:Int)] W1 fun e w'=>e=.returned (.tuple #[])/\zax w0 F n c tv (b+1+p.names.length+4*sumZ (sz ns) pb.list) s W1 w':=by
   have hr:=r1;have hi:=HIH.out;rw[←HTV.out]at hr hi ⊢;exact zaL HT.out.1 HT.out.2.1 hr HT.out.2.2.1 hpb hya hl4 (fun y hy=>hi y (HT.out.2.2.2.1.early ya pb hpb y (by rw[hkl];exact hy)).1 (by have:=(HT.out.2.2.2.1.early ya pb hpb y (by rw[hkl];exact hy)).2;omega)) (by omega)
  clear hB r1 t1;go_wp2_with fail;refine cF.mono ?_;rintro e w5 ⟨rfl,hm5⟩;have HE:Hid (zax w0 F n c tv (b+4*S) s w w5):=hm5.lift HB.out.2.1 rfl (yf9 _) (by omega) hb
  clear hm5 cF;go_wp2;go_returns;exact⟨rfl,HE.out⟩
 ·have hf0':(fa==0)=false:=by rw[yc9];exact hf0
  have HE:Hid (zax w0 F n c tv (b+4*S) s w w):=H0.out.moved (by omega) hb
  clear r1 t1 hB hW1 hX;go_enter Tryz.func86,Tryz.ntmps86;go_wp2;go_returns;exact⟨rfl,HE.out⟩
theorem zaY{w0:World}{n c g tc Bt x:Nat}{ns:List z4Q}{p:z4Q}(hR:z88 ns)(hT:z8G w0 Bt (.slice (some ⟨g,0,none⟩) n tc) ns)(hn:ns.length=n)(hx:ns[x]?=some p)(hk:p.kind=29)(hIH:∀ y:Int,0<=y->y<(x:Int)->zaF w0 n c (.slice (some ⟨g,0,none⟩) n tc) ns y):zaF w0 n c (.slice (some ⟨g,0,none⟩) n tc) ns (x:Int):=by
 intro F b s k w h hb;have hsz:=hR.sz_eq hx;have hxn:x<n:=by have:=(List.getElem?_eq_some_iff.1 hx).1;omega
 obtain⟨lv,nv,NA0⟩:=z9L hT hx;obtain⟨la,lc,rfl⟩:=z8A NA0.list;obtain⟨na,nc,rfl⟩:=z8A NA0.names;have NA:=NA0.below h.rows.low;have hnn:=h.rows.hn;have HNM:Hid (∀ W,Below w0.heap.size w0 W->∀(i:Nat) (t:ByteArray),p.names[i]?=some t->∃ gl,na=some ⟨gl,0,none⟩/\W.cell? ⟨gl,i,none⟩=some (.string t)):=fun W hW i t hi=>z9N NA0.names hW (by rw[List.getElem?_map,hi];rfl)
 obtain⟨m,hm⟩:∃ m,p.list.length=m:=⟨_,rfl⟩;obtain⟨q,hq⟩:∃ q,p.names.length=q:=⟨_,rfl⟩;obtain⟨z,hz⟩:∃ z:Int,(p.num:Int)=z:=⟨_,rfl⟩;have n0:=NA.c0;have n1:=NA.c1;have n2:=NA.c2;have n3:=NA.c3;have n4:=NA.c4;have n5:=NA.c5;have n6:=NA.c6;have n7:=NA.c7;rw[hk]at n0;rw[hm]at n4;rw[hq]at n5;rw[hz]at n6;have HT:Hid (z8G w0 Bt (.slice (some ⟨g,0,none⟩) n tc) ns/\ns.length=n/\ns[x]?=some p/\z88 ns/\p.names.length=q/\p.list.length=m):=⟨hT,hn,hx,hR,hq,hm⟩;obtain⟨tv,htv⟩:∃ tv,Value.slice (some ⟨g,0,none⟩) n tc=tv:=⟨_,rfl⟩;have HTV:Hid (Value.slice (some ⟨g,0,none⟩) n tc=tv):=htv;rw[htv]at h hIH ⊢;have HIH:Hid (∀ y:Int,0<=y->y<(x:Int)->zaF w0 n c tv ns y):=hIH;obtain⟨S,hS⟩:∃ S,sz ns (x:Int)=S:=⟨_,rfl⟩;have HSZ:Hid (S=1+sumZ (sz ns) (z8o p)):=by rw[←hS];exact hsz
 rw[hS]at hb ⊢;have hS1:1<=S:=by have:=HSZ.out;omega
 have H0:Hid (za8 w0 F n c tv b s k w):=h;obtain⟨x0,x1,x2,x3,x4,x5,x6,x7,x8,x9,x10,x11,xf⟩:=h.cells;rw[←HTV.out]at x0;obtain⟨fa,hfa⟩:∃ y,k.fault=y:=⟨_,rfl⟩;rw[hfa]at x7;have hxi:(x:Int)<(n:Int):=by omega
 have hx00:(0:Int)<=(x:Int):=by omega
 have b1:Below w.heap.size w (w.alloc (.cells #[.int .i64 29,.int .i64 p.a,.int .i64 p.b,.int .i64 p.c,.slice la m lc,.slice na q nc,.int .u64 z,.int .i64 p.pos] 34)):=(yg9 _ _).alloc (yf9 _) _;have hB:=heap_alloc_new w (.cells #[.int .i64 29,.int .i64 p.a,.int .i64 p.b,.int .i64 p.c,.slice la m lc,.slice na q nc,.int .u64 z,.int .i64 p.pos] 34);obtain⟨X,hX⟩:∃ X,w.heap.size=X:=⟨_,rfl⟩;obtain⟨W1,hW1⟩:∃ W,w.alloc (.cells #[.int .i64 29,.int .i64 p.a,.int .i64 p.b,.int .i64 p.c,.slice la m lc,.slice na q nc,.int .u64 z,.int .i64 p.pos] 34)=W:=⟨_,rfl⟩;rw[hW1]at b1 hB;rw[hX]at hB;have r1:=h.below b1;have t1:=h.step b1;clear h hT hn hx hR hIH NA NA0 hm hq hz htv hS hsz hfa xf x1 x2 x3 x4 x5 x6 x8 x9 x10 x11 b1;by_cases hf0:fa=0
 ·have hf0':(fa==0)=true:=by rw[beq_iff_eq];exact hf0
  subst hf0;go_enter Tryz.func86,Tryz.ntmps86;go_upto_region 2 with fail;try simp only[hW1,hX]
  clear hW1 hX n0 n1 n2 n3 n4 n5 n6 n7 x0 x7;obtain⟨y0,y1,y2,y3,y4,y5,y6,y7⟩:=z8C hB;have HB:Hid (W1.heap[X]?=some (.cells #[.int .i64 29,.int .i64 p.a,.int .i64 p.b,.int .i64 p.c,.slice la m lc,.slice na q nc,.int .u64 z,.int .i64 p.pos] 34)/\za9 w0.heap.size F w W1/\za8 w0 F n c tv b s k W1):=⟨hB,t1,r1⟩;have hkl:z8o p=p.list:=by
   unfold z8o z5V;rw[if_neg (by omega),if_neg (by omega),if_neg (by omega),if_neg (by omega),if_neg (by omega),if_neg (by omega),if_neg (by omega),if_pos hk,List.map_map]
   show p.list.map id=_;rw[List.map_id]
  have hSS:=HSZ.out;rw[hkl]at hSS;have cB:∀(G:Nat) (W:World),Below W1.heap.size W1 W->Calls Tryz.prog 59 #[.pointer (some ⟨c,0,none⟩),.int .i64 (x:Int),.slice (some ⟨G,0,none⟩) 0 0,.int .i64 (x:Int)] W fun e w'=>e=.returned (.tuple #[])/\zax w0 F n c tv (b+0+4*sumZ (sz ns) p.list) s W w':=fun G W hW=>by
   have hr:=HB.out.2.2.below hW;have hi:=HIH.out;rw[←HTV.out]at hr hi ⊢;exact zaI (l:=[]) (la:=some ⟨G,0,none⟩) (lc:=0) HT.out.1 HT.out.2.1 hr hxn HT.out.2.2.1 (fun _ _ i t h=>by simp at h) (by simp) (fun y hy=>hi y (HT.out.2.2.2.1.early x p HT.out.2.2.1 y (by rw[hkl];exact hy)).1 (HT.out.2.2.2.1.early x p HT.out.2.2.1 y (by rw[hkl];exact hy)).2) (by simp;omega)
  have bA:∀ o,Below W1.heap.size W1 (W1.alloc o):=fun o=>(yg9 _ _).alloc (yf9 _) o;have tA:∀ o,za9 w0.heap.size F w (W1.alloc o):=fun o=>HB.out.2.1.trans (HB.out.2.2.step (bA o));clear hB r1 t1;go_wp2_with fail;refine(cB _ _ (bA _)).mono ?_;rintro e w5 ⟨rfl,hm5⟩;have HE:Hid (zax w0 F n c tv (b+4*S) s w w5):=hm5.lift (tA _) rfl (yf9 _) (by omega) hb
  clear hm5 cB;go_wp2;go_returns;exact⟨rfl,HE.out⟩
 ·have hf0':(fa==0)=false:=by rw[yc9];exact hf0
  have HE:Hid (zax w0 F n c tv (b+4*S) s w w):=H0.out.moved (by omega) hb
  clear r1 t1 hB hW1 hX;go_enter Tryz.func86,Tryz.ntmps86;go_wp2;go_returns;exact⟨rfl,HE.out⟩
theorem zaZ{w0:World}{n c g tc Bt x:Nat}{ns:List z4Q}{p:z4Q}(hR:z88 ns)(hT:z8G w0 Bt (.slice (some ⟨g,0,none⟩) n tc) ns)(hn:ns.length=n)(hx:ns[x]?=some p)(hk:p.kind=27)(hIH:∀ y:Int,0<=y->y<(x:Int)->zaF w0 n c (.slice (some ⟨g,0,none⟩) n tc) ns y)(hl1:p.names.length<=1):zaF w0 n c (.slice (some ⟨g,0,none⟩) n tc) ns (x:Int):=by
 intro F b s k w h hb;have hsz:=hR.sz_eq hx;have hxn:x<n:=by have:=(List.getElem?_eq_some_iff.1 hx).1;omega
 obtain⟨lv,nv,NA0⟩:=z9L hT hx;obtain⟨la,lc,rfl⟩:=z8A NA0.list;obtain⟨na,nc,rfl⟩:=z8A NA0.names;have NA:=NA0.below h.rows.low;have hnn:=h.rows.hn;have HNM:Hid (∀ W,Below w0.heap.size w0 W->∀(i:Nat) (t:ByteArray),p.names[i]?=some t->∃ gl,na=some ⟨gl,0,none⟩/\W.cell? ⟨gl,i,none⟩=some (.string t)):=fun W hW i t hi=>z9N NA0.names hW (by rw[List.getElem?_map,hi];rfl)
 obtain⟨m,hm⟩:∃ m,p.list.length=m:=⟨_,rfl⟩;obtain⟨q,hq⟩:∃ q,p.names.length=q:=⟨_,rfl⟩;obtain⟨z,hz⟩:∃ z:Int,(p.num:Int)=z:=⟨_,rfl⟩;have n0:=NA.c0;have n1:=NA.c1;have n2:=NA.c2;have n3:=NA.c3;have n4:=NA.c4;have n5:=NA.c5;have n6:=NA.c6;have n7:=NA.c7;rw[hk]at n0;rw[hm]at n4;rw[hq]at n5;rw[hz]at n6;have HT:Hid (z8G w0 Bt (.slice (some ⟨g,0,none⟩) n tc) ns/\ns.length=n/\ns[x]?=some p/\z88 ns/\p.names.length=q/\p.list.length=m):=⟨hT,hn,hx,hR,hq,hm⟩;obtain⟨tv,htv⟩:∃ tv,Value.slice (some ⟨g,0,none⟩) n tc=tv:=⟨_,rfl⟩;have HTV:Hid (Value.slice (some ⟨g,0,none⟩) n tc=tv):=htv;rw[htv]at h hIH ⊢;have HIH:Hid (∀ y:Int,0<=y->y<(x:Int)->zaF w0 n c tv ns y):=hIH;obtain⟨S,hS⟩:∃ S,sz ns (x:Int)=S:=⟨_,rfl⟩;have HSZ:Hid (S=1+sumZ (sz ns) (z8o p)):=by rw[←hS];exact hsz
 rw[hS]at hb ⊢;have hS1:1<=S:=by have:=HSZ.out;omega
 have H0:Hid (za8 w0 F n c tv b s k w):=h;obtain⟨x0,x1,x2,x3,x4,x5,x6,x7,x8,x9,x10,x11,xf⟩:=h.cells;rw[←HTV.out]at x0;obtain⟨fa,hfa⟩:∃ y,k.fault=y:=⟨_,rfl⟩;rw[hfa]at x7;have hxi:(x:Int)<(n:Int):=by omega
 have hx00:(0:Int)<=(x:Int):=by omega
 have b1:Below w.heap.size w (w.alloc (.cells #[.int .i64 27,.int .i64 p.a,.int .i64 p.b,.int .i64 p.c,.slice la m lc,.slice na q nc,.int .u64 z,.int .i64 p.pos] 34)):=(yg9 _ _).alloc (yf9 _) _;have hB:=heap_alloc_new w (.cells #[.int .i64 27,.int .i64 p.a,.int .i64 p.b,.int .i64 p.c,.slice la m lc,.slice na q nc,.int .u64 z,.int .i64 p.pos] 34);obtain⟨X,hX⟩:∃ X,w.heap.size=X:=⟨_,rfl⟩;obtain⟨W1,hW1⟩:∃ W,w.alloc (.cells #[.int .i64 27,.int .i64 p.a,.int .i64 p.b,.int .i64 p.c,.slice la m lc,.slice na q nc,.int .u64 z,.int .i64 p.pos] 34)=W:=⟨_,rfl⟩;rw[hW1]at b1 hB;rw[hX]at hB;have r1:=h.below b1;have t1:=h.step b1;clear h hT hn hx hR hIH NA NA0 hm hq hz htv hS hsz hfa xf x1 x2 x3 x4 x5 x6 x8 x9 x10 x11 b1;by_cases hf0:fa=0
 ·have hf0':(fa==0)=true:=by rw[beq_iff_eq];exact hf0
  subst hf0;go_enter Tryz.func86,Tryz.ntmps86;go_upto_region 2 with fail;try simp only[hW1,hX]
  clear hW1 hX n0 n1 n2 n3 n4 n5 n6 n7 x0 x7;obtain⟨y0,y1,y2,y3,y4,y5,y6,y7⟩:=z8C hB;have HB:Hid (W1.heap[X]?=some (.cells #[.int .i64 27,.int .i64 p.a,.int .i64 p.b,.int .i64 p.c,.slice la m lc,.slice na q nc,.int .u64 z,.int .i64 p.pos] 34)/\za9 w0.heap.size F w W1/\za8 w0 F n c tv b s k W1):=⟨hB,t1,r1⟩;have hkA:p.a∈z8o p:=by unfold z8o z5V;rw[if_neg (by omega),if_neg (by omega),if_neg (by omega),if_neg (by omega),if_neg (by omega),if_neg (by omega),if_pos hk];simp
  obtain⟨e0A,e1A⟩:=HT.out.2.2.2.1.early x p HT.out.2.2.1 _ hkA;obtain⟨iA,hiA⟩:∃ i:Nat,p.a=(i:Int):=⟨p.a.toNat,by omega⟩
  obtain⟨qA,hqA⟩:∃ q,ns[iA]?=some q:=⟨_,yd9 (by have:=HT.out.2.1;omega)⟩
  have hbA:qA.kind=29:=by
   have:=HT.out.2.2.2.1.seg.parts x p HT.out.2.2.1 (p.a,2) (by unfold z5V;rw[if_neg (by omega),if_neg (by omega),if_neg (by omega),if_neg (by omega),if_neg (by omega),if_neg (by omega),if_pos hk];simp)
   have h3:=this.2.2;unfold z5W z5X at h3;rw[hiA,Int.toNat_natCast,hqA]at h3;simp only at h3;omega
  have hlA:z8o qA=qA.list:=by
   unfold z8o z5V;rw[if_neg (by omega),if_neg (by omega),if_neg (by omega),if_neg (by omega),if_neg (by omega),if_neg (by omega),if_neg (by omega),if_pos hbA,List.map_map]
   show qA.list.map id=_;rw[List.map_id]
  have hsA:=HT.out.2.2.2.1.sz_eq hqA;rw[hlA,←hiA]at hsA;have hNA:∀ y∈qA.list,zaF w0 n c tv ns y:=fun y hy=>HIH.out y (HT.out.2.2.2.1.early iA qA hqA y (by rw[hlA];exact hy)).1 (by have:=(HT.out.2.2.2.1.early iA qA hqA y (by rw[hlA];exact hy)).2;omega)
  have hkB:p.b∈z8o p:=by unfold z8o z5V;rw[if_neg (by omega),if_neg (by omega),if_neg (by omega),if_neg (by omega),if_neg (by omega),if_neg (by omega),if_pos hk];simp
  obtain⟨e0B,e1B⟩:=HT.out.2.2.2.1.early x p HT.out.2.2.1 _ hkB;obtain⟨iB,hiB⟩:∃ i:Nat,p.b=(i:Int):=⟨p.b.toNat,by omega⟩
  obtain⟨qB,hqB⟩:∃ q,ns[iB]?=some q:=⟨_,yd9 (by have:=HT.out.2.1;omega)⟩
  have hbB:qB.kind=29:=by
   have:=HT.out.2.2.2.1.seg.parts x p HT.out.2.2.1 (p.b,2) (by unfold z5V;rw[if_neg (by omega),if_neg (by omega),if_neg (by omega),if_neg (by omega),if_neg (by omega),if_neg (by omega),if_pos hk];simp)
   have h3:=this.2.2;unfold z5W z5X at h3;rw[hiB,Int.toNat_natCast,hqB]at h3;simp only at h3;omega
  have hlB:z8o qB=qB.list:=by
   unfold z8o z5V;rw[if_neg (by omega),if_neg (by omega),if_neg (by omega),if_neg (by omega),if_neg (by omega),if_neg (by omega),if_neg (by omega),if_pos hbB,List.map_map]
   show qB.list.map id=_;rw[List.map_id]
  have hsB:=HT.out.2.2.2.1.sz_eq hqB;rw[hlB,←hiB]at hsB;have hNB:∀ y∈qB.list,zaF w0 n c tv ns y:=fun y hy=>HIH.out y (HT.out.2.2.2.1.early iB qB hqB y (by rw[hlB];exact hy)).1 (by have:=(HT.out.2.2.2.1.early iB qB hqB y (by rw[hlB];exact hy)).2;omega)
  have hkk:z8o p=[p.a,p.b]:=by unfold z8o z5V;rw[if_neg (by omega),if_neg (by omega),if_neg (by omega),if_neg (by omega),if_neg (by omega),if_neg (by omega),if_pos hk];rfl
  have hSS:=HSZ.out;rw[hkk]at hSS;have hSS2:S=1+(sz ns p.a+sz ns p.b):=by rw[hSS];unfold sumZ;simp
  clear hSS;have hqn:=HT.out.2.2.2.2.1;have hq1:q<=1:=by omega
  have cB1:∀(G:Nat) (W:World),Below W1.heap.size W1 W->Calls Tryz.prog 59 #[.pointer (some ⟨c,0,none⟩),.int .i64 p.a,.slice (some ⟨G,0,none⟩) 0 0,.int .i64 (x:Int)] W fun e w'=>e=.returned (.tuple #[])/\zax w0 F n c tv (b+0+4*sumZ (sz ns) qA.list) s W w':=fun G W hW=>by
   have hr:=HB.out.2.2.below hW;have hN:=hNA;rw[←HTV.out]at hr hN ⊢;rw[hiA];exact zaI (l:=[]) (la:=some ⟨G,0,none⟩) (lc:=0) HT.out.1 HT.out.2.1 hr hxn hqA (fun _ _ i t h=>by simp at h) (by simp) hN (by simp;omega)
  have HB2:Hid (∀(b5:Nat) (s5:RS) (k5:RK) (W:World),za8 w0 F n c tv b5 s5 k5 W->b5+q+4*sumZ (sz ns) qB.list<=10000->Calls Tryz.prog 59 #[.pointer (some ⟨c,0,none⟩),.int .i64 p.b,.slice na q nc,.int .i64 (x:Int)] W fun e w'=>e=.returned (.tuple #[])/\zax w0 F n c tv (b5+q+4*sumZ (sz ns) qB.list) s5 W w'):=fun b5 s5 k5 W r hb5=>by
   have hr:=r;have hN:=hNB;rw[←HTV.out]at hr hN ⊢;rw[hiB];have:=zaI (l:=p.names) (la:=na) (lc:=nc) HT.out.1 HT.out.2.1 hr hxn hqB HNM.out (by omega) hN (by rw[hqn];exact hb5)
   rw[hqn]at this;exact this
  have bA:∀ o,Below W1.heap.size W1 (W1.alloc o):=fun o=>(yg9 _ _).alloc (yf9 _) o;have tA:∀ o,za9 w0.heap.size F w (W1.alloc o):=fun o=>HB.out.2.1.trans (HB.out.2.2.step (bA o));have hA1:∀ o,(W1.alloc o).heap[X]?=some (.cells #[.int .i64 27,.int .i64 p.a,.int .i64 p.b,.int .i64 p.c,.slice la m lc,.slice na q nc,.int .u64 z,.int .i64 p.pos] 34):=fun o=>(heap_alloc_old _ _ (lt_of_block hB)).trans hB;clear hB r1 t1 hNA hNB hiA hiB hqA hqB hkA hkB hbA hbB hlA hlB hkk e0A e1A e0B e1B hqn;go_wp2_with fail;refine(cB1 _ _ (bA _)).mono ?_;rintro e w5 ⟨rfl,s5,k5,r5,t5,l5,P5⟩;have hB5:=t5.nodes X _ (hA1 _);have HT5:Hid (za9 w0.heap.size F w w5/\s5.rows.length=s.rows.length/\s.P<=s5.P/\za8 w0 F n c tv (b+0+4*sumZ (sz ns) qA.list) s5 k5 w5):=⟨(tA _).trans t5,l5,P5,r5⟩;obtain⟨x0,x1,x2,x3,x4,x5,x6,x7,x8,x9,x10,x11,xf⟩:=r5.cells;obtain⟨f5,hf5⟩:∃ y,k5.fault=y:=⟨_,rfl⟩;rw[hf5]at x7;clear y0 y1 y2 y3 y4 y5 y6 y7 t5 l5 P5 cB1 hA1 x0 x1 x2 x3 x4 x5 x6 x8 x9 x10 x11 xf hf5;obtain⟨y0,y1,y2,y3,y4,y5,y6,y7⟩:=z8C hB5;clear hB5;by_cases h50:f5=0
  ·have h50':(f5==0)=true:=by rw[beq_iff_eq];exact h50
   have cB2:=HB2.out _ s5 k5 w5 r5 (by omega)
   clear r5 h50 HB2;go_wp2_with fail;refine cB2.mono ?_;rintro e w6 ⟨rfl,hm6⟩;have HE:Hid (zax w0 F n c tv (b+4*S) s w w6):=hm6.lift HT5.out.1 HT5.out.2.1 HT5.out.2.2.1 (by omega) hb
   clear hm6 cB2;go_wp2;go_returns;exact⟨rfl,HE.out⟩
  ·have h50':(f5==0)=false:=by rw[yc9];exact h50
   have HE:Hid (zax w0 F n c tv (b+4*S) s w w5):=(HT5.out.2.2.2.moved (b':=b+4*S) (by omega) hb).lift HT5.out.1 HT5.out.2.1 HT5.out.2.2.1 (yf9 _) hb
   clear r5 HB2;go_wp2;go_returns;exact⟨rfl,HE.out⟩
 ·have hf0':(fa==0)=false:=by rw[yc9];exact hf0
  have HE:Hid (zax w0 F n c tv (b+4*S) s w w):=H0.out.moved (by omega) hb
  clear r1 t1 hB hW1 hX;go_enter Tryz.func86,Tryz.ntmps86;go_wp2;go_returns;exact⟨rfl,HE.out⟩
theorem zb0{kd:Int}{w0:World}{n c g tc Bt x:Nat}{ns:List z4Q}{p:z4Q}(hR:z88 ns)(hT:z8G w0 Bt (.slice (some ⟨g,0,none⟩) n tc) ns)(hn:ns.length=n)(hx:ns[x]?=some p)(hk:p.kind=kd)(hIH:∀ y:Int,0<=y->y<(x:Int)->zaF w0 n c (.slice (some ⟨g,0,none⟩) n tc) ns y)(d6:kd≠6)(d21:kd≠21)(d20:kd≠20)(d13:kd≠13)(d29:kd≠29)(d27:kd≠27):zaF w0 n c (.slice (some ⟨g,0,none⟩) n tc) ns (x:Int):=by
 intro F b s k w h hb;have hsz:=hR.sz_eq hx;have hxn:x<n:=by have:=(List.getElem?_eq_some_iff.1 hx).1;omega
 obtain⟨lv,nv,NA0⟩:=z9L hT hx;obtain⟨la,lc,rfl⟩:=z8A NA0.list;obtain⟨na,nc,rfl⟩:=z8A NA0.names;have NA:=NA0.below h.rows.low;have hnn:=h.rows.hn;have HNM:Hid (∀ W,Below w0.heap.size w0 W->∀(i:Nat) (t:ByteArray),p.names[i]?=some t->∃ gl,na=some ⟨gl,0,none⟩/\W.cell? ⟨gl,i,none⟩=some (.string t)):=fun W hW i t hi=>z9N NA0.names hW (by rw[List.getElem?_map,hi];rfl)
 obtain⟨m,hm⟩:∃ m,p.list.length=m:=⟨_,rfl⟩;obtain⟨q,hq⟩:∃ q,p.names.length=q:=⟨_,rfl⟩;obtain⟨z,hz⟩:∃ z:Int,(p.num:Int)=z:=⟨_,rfl⟩;have n0:=NA.c0;have n1:=NA.c1;have n2:=NA.c2;have n3:=NA.c3;have n4:=NA.c4;have n5:=NA.c5;have n6:=NA.c6;have n7:=NA.c7;rw[hk]at n0;rw[hm]at n4;rw[hq]at n5;rw[hz]at n6;have HT:Hid (z8G w0 Bt (.slice (some ⟨g,0,none⟩) n tc) ns/\ns.length=n/\ns[x]?=some p/\z88 ns/\p.names.length=q/\p.list.length=m):=⟨hT,hn,hx,hR,hq,hm⟩;obtain⟨tv,htv⟩:∃ tv,Value.slice (some ⟨g,0,none⟩) n tc=tv:=⟨_,rfl⟩;have HTV:Hid (Value.slice (some ⟨g,0,none⟩) n tc=tv):=htv;rw[htv]at h hIH ⊢;have HIH:Hid (∀ y:Int,0<=y->y<(x:Int)->zaF w0 n c tv ns y):=hIH;obtain⟨S,hS⟩:∃ S,sz ns (x:Int)=S:=⟨_,rfl⟩;have HSZ:Hid (S=1+sumZ (sz ns) (z8o p)):=by rw[←hS];exact hsz
 rw[hS]at hb ⊢;have hS1:1<=S:=by have:=HSZ.out;omega
 have H0:Hid (za8 w0 F n c tv b s k w):=h;obtain⟨x0,x1,x2,x3,x4,x5,x6,x7,x8,x9,x10,x11,xf⟩:=h.cells;rw[←HTV.out]at x0;obtain⟨fa,hfa⟩:∃ y,k.fault=y:=⟨_,rfl⟩;rw[hfa]at x7;have hxi:(x:Int)<(n:Int):=by omega
 have hx00:(0:Int)<=(x:Int):=by omega
 have b1:Below w.heap.size w (w.alloc (.cells #[.int .i64 kd,.int .i64 p.a,.int .i64 p.b,.int .i64 p.c,.slice la m lc,.slice na q nc,.int .u64 z,.int .i64 p.pos] 34)):=(yg9 _ _).alloc (yf9 _) _;have hB:=heap_alloc_new w (.cells #[.int .i64 kd,.int .i64 p.a,.int .i64 p.b,.int .i64 p.c,.slice la m lc,.slice na q nc,.int .u64 z,.int .i64 p.pos] 34);obtain⟨X,hX⟩:∃ X,w.heap.size=X:=⟨_,rfl⟩;obtain⟨W1,hW1⟩:∃ W,w.alloc (.cells #[.int .i64 kd,.int .i64 p.a,.int .i64 p.b,.int .i64 p.c,.slice la m lc,.slice na q nc,.int .u64 z,.int .i64 p.pos] 34)=W:=⟨_,rfl⟩;rw[hW1]at b1 hB;rw[hX]at hB;have r1:=h.below b1;have t1:=h.step b1;have HLI:Hid (∃ B,w0.ownsRow B 3 1 (.slice la m lc) m (p.list.map (Value.int .i64))):=⟨_,by rw[←hm];exact NA0.list⟩
 have HZZ:Hid ((p.num:Int)=z/\p.kind=kd):=⟨hz,hk⟩;clear hk;clear h hT hn hx hR hIH NA NA0 hm hq hz htv hS hsz hfa xf x1 x2 x3 x4 x5 x6 x8 x9 x10 x11 b1;by_cases hf0:fa=0
 ·have hf0':(fa==0)=true:=by rw[beq_iff_eq];exact hf0
  subst hf0;go_enter Tryz.func86,Tryz.ntmps86;go_upto_region 2 with fail;try simp only[hW1,hX]
  clear hW1 hX n0 n1 n2 n3 n4 n5 n6 n7 x0 x7;obtain⟨y0,y1,y2,y3,y4,y5,y6,y7⟩:=z8C hB;have HB:Hid (W1.heap[X]?=some (.cells #[.int .i64 kd,.int .i64 p.a,.int .i64 p.b,.int .i64 p.c,.slice la m lc,.slice na q nc,.int .u64 z,.int .i64 p.pos] 34)/\za9 w0.heap.size F w W1/\za8 w0 F n c tv b s k W1):=⟨hB,t1,r1⟩;have g6:(kd==(6:Int))=false:=by rw[yc9];exact d6
  have g21:(kd==(21:Int))=false:=by rw[yc9];exact d21
  have g20:(kd==(20:Int))=false:=by rw[yc9];exact d20
  have g13:(kd==(13:Int))=false:=by rw[yc9];exact d13
  have g29:(kd==(29:Int))=false:=by rw[yc9];exact d29
  have g27:(kd==(27:Int))=false:=by rw[yc9];exact d27
  have cK:Calls Tryz.prog 101 #[.agg #[.int .i64 kd,.int .i64 p.a,.int .i64 p.b,.int .i64 p.c,.slice la m lc,.slice na q nc,.int .u64 z,.int .i64 p.pos]] W1 fun e w'=>∃ v,e=.returned v/\w'.ownsRow W1.heap.size 3 1 v (z8o p).length ((z8o p).map (Value.int .i64))/\Below W1.heap.size W1 w':=by
   obtain⟨B,hl⟩:=HLI.out;have hl1:=z8B hl HB.out.2.2.rows.low;have h6:=zaR (HT.out.2.2.2.1.seg.held x p HT.out.2.2.1) (by rw[HZZ.out.2];exact d29)
   have:=zaP (n:=0) (w:=W1) (B:=B) (lv:=.slice la p.list.length lc) (nv:=.slice na p.names.length nc) HT.out.2.2.2.1 HT.out.2.2.1 (by rw[HT.out.2.2.2.2.2];exact hl1) ⟨na,nc,rfl⟩ (by omega)
   rw[HT.out.2.2.2.2.2,HT.out.2.2.2.2.1,HZZ.out.1,HZZ.out.2]at this;exact this
  obtain⟨L,hL⟩:∃ L,(z8o p).length=L:=⟨_,rfl⟩;have HL:Hid ((z8o p).length=L):=hL;have hLn:L<=10000:=by
   have h1:∀(l:List Int),(∀ y∈l,1<=sz ns y)->l.length<=sumZ (sz ns) l:=fun l=>by
    induction l with
    | nil=>intro _;simp
    | cons a r ih=>
     intro h;have:=ih (fun y hy=>h y (List.mem_cons_of_mem _ hy));have h2:=h a (by simp)
     show r.length+1<=sz ns a+sumZ (sz ns) r;omega
   have h2:=h1 (z8o p) (fun y hy=>by
    obtain⟨e0,e1⟩:=HT.out.2.2.2.1.early x p HT.out.2.2.1 y hy;obtain⟨i,hi⟩:∃ i:Nat,y=(i:Int):=⟨y.toNat,by omega⟩
    obtain⟨qq,hqq⟩:∃ q,ns[i]?=some q:=⟨_,yd9 (by have:=HT.out.2.1;omega)⟩
    rw[hi];exact zaQ HT.out.2.2.2.1 hqq)
   have:=HSZ.out;omega
  rw[hL]at cK;clear hB r1 t1 hL HLI;go_wp2_with fail;refine cK.mono ?_;rintro e w5 ⟨v,rfl,hov,bK⟩;obtain⟨va,vc,rfl⟩:=z8A hov;clear cK y0 y1 y2 y3 y4 y5 y6 y7 g6 g21 g20 g13 g29 g27;obtain⟨F',hF'⟩:∃ F':Nat->Prop,(fun j=>F j\/Value.ownBlock (.slice va L vc)=some j)=F':=⟨_,rfl⟩;have hFF:∀ j,F' j↔(F j\/Value.ownBlock (.slice va L vc)=some j):=fun j=>by rw[←hF']
  have r5:za8 w0 F' n c tv b s k w5:=HB.out.2.2.also bK (fun j hj=>by
   rcases (hFF j).1 hj with h|h
   ·exact .inl h
   ·exact .inr (hov.lt j h))
  have H5:Hid (za9 w0.heap.size F w w5/\w5.ownsRow W1.heap.size 3 1 (.slice va L vc) L ((z8o p).map (Value.int .i64))/\(∀ j,F j->F' j)/\(∀ j,Value.ownBlock (.slice va L vc)=some j->F' j)):=⟨HB.out.2.1.trans (HB.out.2.2.step bK),hov,fun j h=>(hFF j).2 (.inl h),fun j h=>(hFF j).2 (.inr h)⟩;have HR5:Hid (za8 w0 F' n c tv b s k w5):=r5;clear hF' hFF hov bK r5;go_upto_region 5 with fail;go_loopw [6] (fun i wr=>∃(q:Nat) (s':RS) (k':RK),i=.int .i64 (q:Int)/\q<=L/\za8 w0 F' n c tv (b+4*sumZ (sz ns) ((z8o p).take q)) s' k' wr/\za9 w0.heap.size F' w5 wr/\s'.rows.length=s.rows.length/\s.P<=s'.P) (fun i _=>L-(intOf i).toNat)
  case atStart=>exact⟨0,s,k,rfl,yj9 _,HR5.out,za9.refl _ _ _,rfl,yf9 _⟩
  case round=>
   obtain⟨q1,s1,k1,rfl,hq1,hrun,hstep,r1,r2⟩:=hrel;have HST:Hid (za8 w0 F' n c tv (b+4*sumZ (sz ns) ((z8o p).take q1)) s1 k1 wr/\za9 w0.heap.size F' w5 wr/\s1.rows.length=s.rows.length/\s.P<=s1.P):=⟨hrun,hstep,r1,r2⟩;clear hrun hstep r1 r2;by_cases hlt:q1<L
   ·obtain⟨y,hy⟩:∃ y,(z8o p)[q1]?=some y:=⟨_,yd9 (by have:=HL.out;omega)⟩
    obtain⟨gk,hva,hcy⟩:=zab (zaS H5.out.2.1 HST.out.2.1 H5.out.2.2.2) (show((z8o p).map (Value.int .i64))[q1]?=some (.int .i64 y) by rw[List.getElem?_map,hy];rfl)
    subst hva;have hqi:(q1:Int)<(L:Int):=by omega
    have hq00:(0:Int)<=(q1:Int):=by omega
    have cN:Calls Tryz.prog 86 #[.pointer (some ⟨c,0,none⟩),.int .i64 y] wr fun e w'=>e=.returned (.tuple #[])/\zax w0 F' n c tv (b+4*sumZ (sz ns) ((z8o p).take (q1+1))) s1 wr w':=by
     have hsum:=zaG (f:=sz ns) hy;have hle:=zaH (f:=sz ns) (l:=z8o p) (q1+1);have hSS:=HSZ.out;obtain⟨e0,e1⟩:=HT.out.2.2.2.1.early x p HT.out.2.2.1 y (List.mem_iff_getElem?.2 ⟨q1,hy⟩);have:=HIH.out y e0 e1 _ _ _ _ _ HST.out.1 (by omega)
     rw[hsum,Nat.mul_add,←Nat.add_assoc];exact this
    clear hy;go_wp2_with fail;refine cN.mono ?_;rintro e w6 ⟨rfl,s5,k5,p1,p2,p3,p4⟩;have HM5:Hid (za8 w0 F' n c tv (b+4*sumZ (sz ns) ((z8o p).take (q1+1))) s5 k5 w6/\za9 w0.heap.size F' w5 w6/\s5.rows.length=s.rows.length/\s.P<=s5.P):=⟨p1,HST.out.2.1.trans p2,p3.trans HST.out.2.2.1,yi9 HST.out.2.2.2 p4⟩;clear p1 p2 p3 p4 cN hcy;go_wp2_with fail;go_roundw
    case rel=>exact⟨q1+1,s5,k5,by go_num,by omega,HM5.out.1,HM5.out.2.1,HM5.out.2.2.1,HM5.out.2.2.2⟩
    case measure=>simp[intOf];omega
   ·have hge:decide ((q1:Int)<(L:Int))=false:=ya9 (by omega)
    have hge':decide (q1<L)=false:=ya9 (by omega)
    have HE:Hid (zax w0 F n c tv (b+4*S) s w wr):=by
     have hle:=zaH (f:=sz ns) (l:=z8o p) q1;have hSS:=HSZ.out;exact⟨s1,k1,(HST.out.1.mono H5.out.2.2.1).more (by omega) hb,H5.out.1.trans (HST.out.2.1.mono H5.out.2.2.1),HST.out.2.2.1,HST.out.2.2.2⟩
    go_wp2;go_returns;exact⟨rfl,HE.out⟩
 ·have hf0':(fa==0)=false:=by rw[yc9];exact hf0
  have HE:Hid (zax w0 F n c tv (b+4*S) s w w):=H0.out.moved (by omega) hb
  clear r1 t1 hB hW1 hX;go_enter Tryz.func86,Tryz.ntmps86;go_wp2;go_returns;exact⟨rfl,HE.out⟩
theorem zb1{p:z4Q}(h:z5Y p)(hk:p.kind=6\/p.kind=20\/p.kind=21\/p.kind=27):∃ t,p.names=[t]:=by
 obtain⟨_,_,h⟩:=h;rcases h with h|h|h|h|h|h|h|h|h|h|h|h|h|h|h;all_goals first
  | (exfalso;omega)
  | (obtain⟨x,e,_⟩:=h.2.2.2.2.2.2;exact⟨x,e⟩)
  | (obtain⟨x,e,_⟩:=h.2.2.2.2.2;exact⟨x,e⟩)
  | (obtain⟨x,e,_⟩:=h.2.2.2.2;exact⟨x,e⟩)
theorem zb2{p:z4Q}(h:z5Y p)(hk:p.kind=13):p.names.length<=4:=by
 obtain⟨_,_,h⟩:=h;rcases h with h|h|h|h|h|h|h|h|h|h|h|h|h|h|h;all_goals first
  | (exfalso;omega)
  | exact h.2.2.2.2.2.1
theorem zb3{p:z4Q}(h:z5Y p)(hk:p.kind=20):p.b=0\/p.b=1:=by
 obtain⟨_,_,h⟩:=h;rcases h with h|h|h|h|h|h|h|h|h|h|h|h|h|h|h;all_goals first
  | (exfalso;omega)
  | exact h.2.1
theorem zb4{w0:World}{n c g tc Bt:Nat}{ns:List z4Q}(hR:z88 ns)(hT:z8G w0 Bt (.slice (some ⟨g,0,none⟩) n tc) ns)(hn:ns.length=n):∀ x:Nat,x<n->zaF w0 n c (.slice (some ⟨g,0,none⟩) n tc) ns (x:Int):=by
 intro x;induction x using Nat.strongRecOn with
 | ind x ih=>
  intro hx;obtain⟨p,hp⟩:∃ p,ns[x]?=some p:=⟨_,yd9 (by omega)⟩
  have hIH:∀ y:Int,0<=y->y<(x:Int)->zaF w0 n c (.slice (some ⟨g,0,none⟩) n tc) ns y:=fun y h0 h1=>by
   have:=ih y.toNat (by omega) (by omega)
   rw[Int.toNat_of_nonneg h0]at this;exact this
  have hh:=hR.seg.held x p hp;by_cases d6:p.kind=6
  ·exact zaT hR hT hn hp d6 hIH (zb1 hh (by omega))
  by_cases d21:p.kind=21
  ·exact zaU hR hT hn hp d21 hIH (zb1 hh (by omega))
  by_cases d20:p.kind=20
  ·rcases zb3 hh d20 with e|e
   ·exact zaV hR hT hn hp d20 hIH (zb1 hh (by omega)) e
   ·exact zaW hR hT hn hp d20 hIH (zb1 hh (by omega)) e
  by_cases d13:p.kind=13
  ·exact zaX hR hT hn hp d13 hIH (zb2 hh d13)
  by_cases d29:p.kind=29
  ·exact zaY hR hT hn hp d29 hIH
  by_cases d27:p.kind=27
  ·exact zaZ hR hT hn hp d27 hIH (by obtain⟨t,e⟩:=zb1 hh (by omega);rw[e];simp)
  exact zb0 hR hT hn hp rfl hIH d6 d21 d20 d13 d29 d27
theorem zb5(w:World)(o0 o1 o2 o3 o4 o5:Obj):Below w.heap.size w ((((((w.alloc o0).alloc o1).alloc o2).alloc o3).alloc o4).alloc o5)/\((((((w.alloc o0).alloc o1).alloc o2).alloc o3).alloc o4).alloc o5).heap[w.heap.size]?=some o0/\((((((w.alloc o0).alloc o1).alloc o2).alloc o3).alloc o4).alloc o5).heap[w.heap.size+1]?=some o1/\((((((w.alloc o0).alloc o1).alloc o2).alloc o3).alloc o4).alloc o5).heap[w.heap.size+1+1]?=some o2/\((((((w.alloc o0).alloc o1).alloc o2).alloc o3).alloc o4).alloc o5).heap[w.heap.size+1+1+1]?=some o3/\((((((w.alloc o0).alloc o1).alloc o2).alloc o3).alloc o4).alloc o5).heap[w.heap.size+1+1+1+1]?=some o4/\((((((w.alloc o0).alloc o1).alloc o2).alloc o3).alloc o4).alloc o5).heap[w.heap.size+1+1+1+1+1]?=some o5:=by
 have z1:(w.alloc o0).heap.size=w.heap.size+1:=by simp
 have z2:((w.alloc o0).alloc o1).heap.size=w.heap.size+1+1:=by simp
 have z3:(((w.alloc o0).alloc o1).alloc o2).heap.size=w.heap.size+1+1+1:=by simp
 have z4:((((w.alloc o0).alloc o1).alloc o2).alloc o3).heap.size=w.heap.size+1+1+1+1:=by simp
 have z5:(((((w.alloc o0).alloc o1).alloc o2).alloc o3).alloc o4).heap.size=w.heap.size+1+1+1+1+1:=by simp
 have b1:Below w.heap.size w (w.alloc o0):=(yg9 _ _).alloc (yf9 _) _;have b2:Below w.heap.size w ((w.alloc o0).alloc o1):=b1.alloc (by omega) _
 have b3:Below w.heap.size w (((w.alloc o0).alloc o1).alloc o2):=b2.alloc (by omega) _
 have b4:Below w.heap.size w ((((w.alloc o0).alloc o1).alloc o2).alloc o3):=b3.alloc (by omega) _
 have b5:Below w.heap.size w (((((w.alloc o0).alloc o1).alloc o2).alloc o3).alloc o4):=b4.alloc (by omega) _
 have n0:=heap_alloc_new w o0;have n1:=heap_alloc_new (w.alloc o0) o1;have n2:=heap_alloc_new ((w.alloc o0).alloc o1) o2;have n3:=heap_alloc_new (((w.alloc o0).alloc o1).alloc o2) o3;have n4:=heap_alloc_new ((((w.alloc o0).alloc o1).alloc o2).alloc o3) o4;have n5:=heap_alloc_new (((((w.alloc o0).alloc o1).alloc o2).alloc o3).alloc o4) o5;rw[z1]at n1;rw[z2]at n2;rw[z3]at n3;rw[z4]at n4;rw[z5]at n5;refine⟨b5.alloc (by omega) _,?_,?_,?_,?_,?_,n5⟩
 ·rw[heap_alloc_old _ _ (by omega),heap_alloc_old _ _ (by omega),heap_alloc_old _ _ (by omega),heap_alloc_old _ _ (by omega),heap_alloc_old _ _ (by omega)];exact n0
 ·rw[heap_alloc_old _ _ (by omega),heap_alloc_old _ _ (by omega),heap_alloc_old _ _ (by omega),heap_alloc_old _ _ (by omega)];exact n1
 ·rw[heap_alloc_old _ _ (by omega),heap_alloc_old _ _ (by omega),heap_alloc_old _ _ (by omega)];exact n2
 ·rw[heap_alloc_old _ _ (by omega),heap_alloc_old _ _ (by omega)];exact n3
 ·rw[heap_alloc_old _ _ (by omega)];exact n4
theorem zb6{w W:World}{n c g1 g2 g3 g4 g5:Nat}{tv:Value}{L:Int}(h6:W.heap[c]?=some (.cells #[tv,.slice none 0 0,.slice (some ⟨g1,0,none⟩) n n,.slice none 0 0,.int .i64 0,.int .i64 0,.int .i64 L,.int .i64 0,.int .i64 0,.slice (some ⟨g2,0,none⟩) 1 1,.slice (some ⟨g4,0,none⟩) 1 1,.slice (some ⟨g5,0,none⟩) n n] 81))
  (h1:W.heap[g1]?=some (.cells (madeCells #[.int .i64 0] n) 3)) (h2:W.heap[g2]?=some (.cells #[.int .i64 L] 3)) (h3:W.heap[g3]?=some (.cells #[] 3)) (h4:W.heap[g4]?=some (.cells #[.slice (some ⟨g3,0,none⟩) 0 0] 29)) (h5:W.heap[g5]?=some (.cells (madeCells #[.slice none 0 0] n) 29))
  (hlow:Below w.heap.size w W) (d:w.heap.size<=c/\w.heap.size<=g1/\w.heap.size<=g2/\w.heap.size<=g3/\w.heap.size<=g4/\w.heap.size<=g5/\g1≠g2/\g1≠g3/\g2≠g3/\g4≠g5) (hn:1<=n) (hn':n<=10000):
  ∃ s k,za8 w (fun _=>False) n c tv 1 s k W:=by
 obtain⟨dc,d1,d2,d3,d4,d5,e12,e13,e23,e45⟩:=d;refine⟨{ P:=0,K:=0,pv:=.slice none 0 0,ov:=.slice (some ⟨g1,0,none⟩) n n,qv:=.slice none 0 0,av:=.slice (some ⟨g2,0,none⟩) 1 1,sv:=.slice (some ⟨g4,0,none⟩) 1 1,cv:=.slice (some ⟨g5,0,none⟩) n n,rows:=[.slice (some ⟨g3,0,none⟩) 0 0] },⟨0,0,L,0,0⟩,h6,dc,?_⟩;have m63:n<=maxLen:=by unfold maxLen;omega
 have o1:W.ownsRow w.heap.size 3 1 (.slice (some ⟨g1,0,none⟩) n n) n (List.replicate n (.int .i64 0)):=by
  refine⟨by simp,.inr ⟨g1,n,_,rfl,d1,h1,yf9 _,m63,by simp[size_madeCells],?_⟩⟩
  rw[toList_madeCells_one,Nat.mul_one,List.take_of_length_le (by simp)]
 have o5:W.ownsRow w.heap.size 29 1 (.slice (some ⟨g5,0,none⟩) n n) n (List.replicate n (.slice none 0 0)):=by
  refine⟨by simp,.inr ⟨g5,n,_,rfl,d5,h5,yf9 _,m63,by simp[size_madeCells],?_⟩⟩
  rw[toList_madeCells_one,Nat.mul_one,List.take_of_length_le (by simp)]
 have o3:W.ownsRow w.heap.size 3 1 (.slice (some ⟨g3,0,none⟩) 0 0) 0 []:=⟨by simp,.inr ⟨g3,0,#[],rfl,d3,h3,yf9 _,yj9 _,by simp,by simp⟩⟩
 have o2:W.ownsRow w.heap.size 3 1 (.slice (some ⟨g2,0,none⟩) 1 1) 1 [.int .i64 L]:=⟨by simp,.inr ⟨g2,1,_,rfl,d2,h2,yf9 _,by unfold maxLen;omega,by simp,by simp⟩⟩
 have o4:W.ownsRow w.heap.size 29 1 (.slice (some ⟨g4,0,none⟩) 1 1) 1 [.slice (some ⟨g3,0,none⟩) 0 0]:=⟨by simp,.inr ⟨g4,1,_,rfl,d4,h4,yf9 _,by unfold maxLen;omega,by simp,by simp⟩⟩
 have nilRow:∀(e:TypeId) (size:Nat),W.ownsRow w.heap.size e size (.slice none 0 0) 0 []:=fun e size=>⟨by simp,.inl ⟨rfl,rfl⟩⟩
 have ne:∀{a b:Nat} {l m l' m':Nat},a≠b->za2 (.slice (some ⟨a,0,none⟩) l m) (.slice (some ⟨b,0,none⟩) l' m'):=fun h g ha hb=>by
  have e1:_=g:=Option.some.inj ha;have e2:_=g:=Option.some.inj hb;exact h (e1.trans e2.symm)
 refine⟨hlow,⟨[],nilRow _ _,by simp⟩,⟨[],nilRow _ _,fun i hi=>absurd hi (Nat.not_lt_zero _)⟩,⟨_,o1⟩,⟨[L],rfl,o2⟩,o4,⟨_,o5⟩,fun r hr=>?_,?_,ne e45,yf9 _,hn,hn',by simp,by simp,yf9 _,by omega,fun _ _ _ _ h=>h,fun _ h=>h.elim⟩
 ·rw[List.mem_singleton.1 hr];exact⟨[],by simp,o3⟩
 ·refine List.pairwise_cons.2 ⟨fun r hr=>?_,List.pairwise_cons.2 ⟨fun r hr=>?_,List.pairwise_singleton _ _⟩⟩
  ·rcases List.mem_cons.1 hr with rfl|hr
   ·exact ne e12
   ·rw[List.mem_singleton.1 hr];exact ne e13
  ·rw[List.mem_singleton.1 hr];exact ne e23
theorem zb7{w W:World}{n c g1 g2 g3 g4 g5:Nat}{tv:Value}{L:Int}(hn:1<=n)(hn':n<=10000)(h6:W.heap[c]?=some (.cells #[tv,.slice none 0 0,.slice (some ⟨g1,0,none⟩) n n,.slice none 0 0,.int .i64 0,.int .i64 0,.int .i64 L,.int .i64 0,.int .i64 0,.slice (some ⟨g2,0,none⟩) 1 1,.slice (some ⟨g4,0,none⟩) 1 1,.slice (some ⟨g5,0,none⟩) n n] 81))
  (h4:W.heap[g4]?=some (.cells #[.slice (some ⟨g3,0,none⟩) 0 0] 29)) (h1:W.heap[g1]?=some (.cells (madeCells #[.int .i64 0] n) 3)) (h2:W.heap[g2]?=some (.cells #[.int .i64 L] 3)) (h3:W.heap[g3]?=some (.cells #[] 3)) (h5:W.heap[g5]?=some (.cells (madeCells #[.slice none 0 0] n) 29))
  (hlow:Below w.heap.size w W) (d:w.heap.size<=c/\w.heap.size<=g1/\w.heap.size<=g2/\w.heap.size<=g3/\w.heap.size<=g4/\w.heap.size<=g5/\g1≠g2/\g1≠g3/\g2≠g3/\g4≠g5):
  ∃ c' s k,Value.pointer (some ⟨c,0,none⟩)=.pointer (some ⟨c',0,none⟩)/\za8 w (fun _=>False) n c' tv 1 s k W.drew:=by
 obtain⟨s,k,h⟩:=zb6 h6 h1 h2 h3 h4 h5 hlow d hn hn';exact⟨c,s,k,rfl,h.below (yg9 _ _).drew⟩
