/- Part 42. -/
import Derived.Test.YtdbekjiognpgnaaGreatPbn
import Derived.Test.YtdbekjiognpgnaaGreatPbo
set_option maxHeartbeats 16000000
set_option maxRecDepth 100000
set_option linter.unusedVariables false
namespace Go.Proofs.YtdbekjiognpgnaaGreat
open Go.RowKit Go.Sort
theorem zcJ{n:Nat}(ih:zbF n){Q:PIn}{c H:Nat}{A:Nat->Prop}{tk tv:Value}{s:PS}{w:World}(p:Int)(hon:s.fault<0)(hno:∀(i:Nat) (z:List UInt8),zc8[i]?=some z->isP Q s z=false)(hlet:isP Q s [108,101,116]=false)(hk:z4U Q s 1=false)(hif:isP Q s [105,102]=false)(hwh:isP Q s [119,104,105,108,101]=false)(htry:isP Q s [116,114,121]=false)(hfun:isP Q s [102,117,110]=false)(h:z8V Q c H A tk tv s w)(hf:Fit Q (n+1) (.inner p) s):
  Calls Tryz.prog 49 #[.pointer (some ⟨c,0,none⟩),.int .i64 p] w (zbE Q c H A tk w (run Q n (.plain 28 p) s)):=by
 have hneed:=hf.need;have hwt:=hf.all;have hdep:=hf.depth;simp only[z5Q,z5P]at hneed;have hi0:=h.i;have FA:Fit Q n (.plain 28 p) s:=⟨by simp only[z5Q,z5P];omega,hdep,.inl ⟨hon,hwt⟩⟩
 have cA:=fun(W:World) (v:Value) (q:z8V Q c H A tk v s W)=>ih.plain 28 p q FA;obtain⟨R,hR⟩:∃ R,run Q n (.plain 28 p) s=R:=⟨_,rfl⟩;rw[hR]at cA ⊢;have cFun:=zce (c:=c) (H:=H) (A:=A) (tk:=tk) (s:=s) (b:=false) ⟨#[102,117,110]⟩ hfun;have cLet:=zce (c:=c) (H:=H) (A:=A) (tk:=tk) (s:=s) (b:=false) ⟨#[108,101,116]⟩ hlet;have cK:=zcf (c:=c) (H:=H) (A:=A) (tk:=tk) (b:=false) 1 hk;have cIf:=zce (c:=c) (H:=H) (A:=A) (tk:=tk) (s:=s) (b:=false) ⟨#[105,102]⟩ hif;have cWh:=zce (c:=c) (H:=H) (A:=A) (tk:=tk) (s:=s) (b:=false) ⟨#[119,104,105,108,101]⟩ hwh;have cTry:=zce (c:=c) (H:=H) (A:=A) (tk:=tk) (s:=s) (b:=false) ⟨#[116,114,121]⟩ htry;have n0:=zcb w;have hb0:=((yg9 w.heap.size w).alloc (yf9 _) (.cells (zc8.map fun y=>Value.string (txt y)).toArray 9)).alloc (by simp) (.cells (zc9.map (Value.int .i64)).toArray 3)
 have p0:=h.below hb0;have P0:=z90.of_below (H:=H) (c:=c) hb0 h.hw;obtain⟨W,hW⟩:∃ W,w.alloc (.cells (zc8.map fun y=>Value.string (txt y)).toArray 9)=W:=⟨_,rfl⟩;rw[hW]at n0 p0 P0;obtain⟨X,hX⟩:∃ X,W.alloc (.cells (zc9.map (Value.int .i64)).toArray 3)=X:=⟨_,rfl⟩;rw[hX]at n0 p0 P0;have hW2:w.alloc (.cells #[.string ⟨#[112,114,105,110,116]⟩,.string ⟨#[114,101,116,117,114,110]⟩,.string ⟨#[116,104,114,111,119]⟩] 9)=W:=hW;have hX2:W.alloc (.cells #[.int .i64 22,.int .i64 25,.int .i64 26] 3)=X:=hX;have hWs:W.heap.size=w.heap.size+1:=by rw[←hW];simp
 obtain⟨G,hG⟩:∃ G,w.heap.size=G:=⟨_,rfl⟩;rw[hG]at n0 hWs;have HJ:Hid (∀(i:Nat) (z:List UInt8),zc8[i]?=some z->isP Q s z=false):=hno;clear FA hR hfun hlet hk hif hwh htry hneed hwt hdep hf h hb0 hW hX hno ih hi0 hon;go_enter Tryz.func49,Tryz.ntmps49;go_upto_region 4 with fail;try simp only[hW2,hX2,hG,hWs]
 clear hW2 hX2 hWs;go_loopw [7] (fun v wr=>∃ i:Nat,v=.int .i64 (i:Int)/\i<=3/\z8V Q c H A tk tv s wr/\z90 H c w wr/\Hid (zca wr G)) (fun v _=>3-(intOf v).toNat)
 case atStart=>exact⟨0,rfl,by omega,p0,P0,n0⟩
 case round=>
  clear p0 P0 n0;obtain⟨i,rfl,hi,p0,P0,HN⟩:=hrel;by_cases hij:i=3
  ·have h3:decide ((i:Int)<3)=false:=ya9 (by omega)
   clear HN HJ hij hi;go_wp2_with fail;refine(cLet _ _ p0).mono ?_;rintro e w1 ⟨rfl,b1⟩;have p1:=p0.below b1;have P1:=P0.trans (z90.of_below b1 p0.hw);clear p0 P0 b1 h3;go_wp2_with fail;refine(cK _ _ p1).mono ?_;rintro e w2 ⟨rfl,b2⟩;have p2:=p1.below b2;have P2:=P1.trans (z90.of_below b2 p1.hw);clear p1 P1 b2;go_wp2_with fail;refine(cIf _ _ p2).mono ?_;rintro e w3 ⟨rfl,b3⟩;have p3:=p2.below b3;have P3:=P2.trans (z90.of_below b3 p2.hw);clear p2 P2 b3;go_wp2_with fail;refine(cWh _ _ p3).mono ?_;rintro e w4 ⟨rfl,b4⟩;have p4:=p3.below b4;have P4:=P3.trans (z90.of_below b4 p3.hw);clear p3 P3 b4;go_wp2_with fail;refine(cTry _ _ p4).mono ?_;rintro e w5 ⟨rfl,b5⟩;have p5:=p4.below b5;have P5:=P4.trans (z90.of_below b5 p4.hw);clear p4 P4 b5;go_wp2_with fail;refine(cFun _ _ p5).mono ?_;rintro e w6 ⟨rfl,b6⟩;have p6:=p5.below b6;have P6:=P5.trans (z90.of_below b6 p5.hw);clear p5 P5 b6;clear cFun cIf cK cLet cTry cWh;go_wp2_with fail;refine(cA _ _ p6).mono ?_;rintro e w7 ⟨tv7,rfl,p7,q7⟩;have P7:=P6.trans q7;clear p6 P6 q7;clear cA;have HE:Hid (z8V Q c H A tk tv7 _ w7/\z90 H c w w7):=⟨p7,P7⟩;clear p7 P7;go_wp2;go_ret;exact⟨tv7,rfl,HE.out.1,HE.out.2⟩
  ·obtain⟨z,hz⟩:∃ z,zc8[i]?=some z:=⟨_,yd9 (by show i<3;omega)⟩
   have e1:=HN.out.tx i z hz;have cI:=zce (b:=false) (txt z) (by rw[z6a];exact HJ.out i z hz) wr tv p0
   obtain⟨x,hx⟩:∃ x,txt z=x:=⟨_,rfl⟩;rw[hx]at e1 cI;have hi3:(i:Int)<3:=by omega
   have hi0:(0:Int)<=(i:Int):=by omega
   clear hx hz HJ;go_wp2_with fail;refine cI.mono ?_;rintro e w2 ⟨rfl,b2⟩;have HE:Hid (z8V Q c H A tk tv s w2/\z90 H c w w2/\zca w2 G):=⟨p0.below b2,P0.trans (z90.of_below b2 p0.hw),HN.out.below b2⟩;clear cI p0 P0 b2 e1 HN;go_wp2;go_roundw
   case rel=>exact⟨i+1,by go_num,by omega,HE.out.1,HE.out.2.1,HE.out.2.2⟩
   case measure=>simp[intOf];omega
theorem zcK{n:Nat}(ih:zbF n){Q:PIn}{c H:Nat}{A:Nat->Prop}{tk tv:Value}{s:PS}{w:World}(p:Int)(hon:s.fault<0)(hno:∀(i:Nat) (z:List UInt8),zc8[i]?=some z->isP Q s z=false)(hlet:isP Q s [108,101,116]=false)(hk:z4U Q s 1=true)(hnx:z4V Q s 4 [61]=false)(hif:isP Q s [105,102]=false)(hwh:isP Q s [119,104,105,108,101]=false)(htry:isP Q s [116,114,121]=false)(hfun:isP Q s [102,117,110]=false)(h:z8V Q c H A tk tv s w)(hf:Fit Q (n+1) (.inner p) s):
  Calls Tryz.prog 49 #[.pointer (some ⟨c,0,none⟩),.int .i64 p] w (zbE Q c H A tk w (run Q n (.plain 28 p) s)):=by
 have hneed:=hf.need;have hwt:=hf.all;have hdep:=hf.depth;simp only[z5Q,z5P]at hneed;have hi0:=h.i;have FA:Fit Q n (.plain 28 p) s:=⟨by simp only[z5Q,z5P];omega,hdep,.inl ⟨hon,hwt⟩⟩
 have cA:=fun(W:World) (v:Value) (q:z8V Q c H A tk v s W)=>ih.plain 28 p q FA;obtain⟨R,hR⟩:∃ R,run Q n (.plain 28 p) s=R:=⟨_,rfl⟩;rw[hR]at cA ⊢;have cFun:=zce (c:=c) (H:=H) (A:=A) (tk:=tk) (s:=s) (b:=false) ⟨#[102,117,110]⟩ hfun;have cLet:=zce (c:=c) (H:=H) (A:=A) (tk:=tk) (s:=s) (b:=false) ⟨#[108,101,116]⟩ hlet;have cK:=zcf (c:=c) (H:=H) (A:=A) (tk:=tk) (b:=true) 1 hk;have cX:∀(W:World) (v:Value),z8V Q c H A tk v s W->_:=fun W v q=>z9c q;simp only[hnx]at cX;have cIf:=zce (c:=c) (H:=H) (A:=A) (tk:=tk) (s:=s) (b:=false) ⟨#[105,102]⟩ hif;have cWh:=zce (c:=c) (H:=H) (A:=A) (tk:=tk) (s:=s) (b:=false) ⟨#[119,104,105,108,101]⟩ hwh;have cTry:=zce (c:=c) (H:=H) (A:=A) (tk:=tk) (s:=s) (b:=false) ⟨#[116,114,121]⟩ htry;have n0:=zcb w;have hb0:=((yg9 w.heap.size w).alloc (yf9 _) (.cells (zc8.map fun y=>Value.string (txt y)).toArray 9)).alloc (by simp) (.cells (zc9.map (Value.int .i64)).toArray 3)
 have p0:=h.below hb0;have P0:=z90.of_below (H:=H) (c:=c) hb0 h.hw;obtain⟨W,hW⟩:∃ W,w.alloc (.cells (zc8.map fun y=>Value.string (txt y)).toArray 9)=W:=⟨_,rfl⟩;rw[hW]at n0 p0 P0;obtain⟨X,hX⟩:∃ X,W.alloc (.cells (zc9.map (Value.int .i64)).toArray 3)=X:=⟨_,rfl⟩;rw[hX]at n0 p0 P0;have hW2:w.alloc (.cells #[.string ⟨#[112,114,105,110,116]⟩,.string ⟨#[114,101,116,117,114,110]⟩,.string ⟨#[116,104,114,111,119]⟩] 9)=W:=hW;have hX2:W.alloc (.cells #[.int .i64 22,.int .i64 25,.int .i64 26] 3)=X:=hX;have hWs:W.heap.size=w.heap.size+1:=by rw[←hW];simp
 obtain⟨G,hG⟩:∃ G,w.heap.size=G:=⟨_,rfl⟩;rw[hG]at n0 hWs;have HJ:Hid (∀(i:Nat) (z:List UInt8),zc8[i]?=some z->isP Q s z=false):=hno;clear FA hR hfun hlet hk hnx hif hwh htry hneed hwt hdep hf h hb0 hW hX hno ih hi0 hon;go_enter Tryz.func49,Tryz.ntmps49;go_upto_region 4 with fail;try simp only[hW2,hX2,hG,hWs]
 clear hW2 hX2 hWs;go_loopw [7] (fun v wr=>∃ i:Nat,v=.int .i64 (i:Int)/\i<=3/\z8V Q c H A tk tv s wr/\z90 H c w wr/\Hid (zca wr G)) (fun v _=>3-(intOf v).toNat)
 case atStart=>exact⟨0,rfl,by omega,p0,P0,n0⟩
 case round=>
  clear p0 P0 n0;obtain⟨i,rfl,hi,p0,P0,HN⟩:=hrel;by_cases hij:i=3
  ·have h3:decide ((i:Int)<3)=false:=ya9 (by omega)
   clear HN HJ hij hi;go_wp2_with fail;refine(cLet _ _ p0).mono ?_;rintro e w1 ⟨rfl,b1⟩;have p1:=p0.below b1;have P1:=P0.trans (z90.of_below b1 p0.hw);clear p0 P0 b1 h3;go_wp2_with fail;refine(cK _ _ p1).mono ?_;rintro e w2 ⟨rfl,b2⟩;have p2:=p1.below b2;have P2:=P1.trans (z90.of_below b2 p1.hw);clear p1 P1 b2;go_wp2_with fail;refine(cX _ _ p2).mono ?_;rintro e w3 ⟨rfl,b3⟩;have p3:=p2.below b3;have P3:=P2.trans (z90.of_below b3 p2.hw);clear p2 P2 b3;go_wp2_with fail;refine(cIf _ _ p3).mono ?_;rintro e w4 ⟨rfl,b4⟩;have p4:=p3.below b4;have P4:=P3.trans (z90.of_below b4 p3.hw);clear p3 P3 b4;go_wp2_with fail;refine(cWh _ _ p4).mono ?_;rintro e w5 ⟨rfl,b5⟩;have p5:=p4.below b5;have P5:=P4.trans (z90.of_below b5 p4.hw);clear p4 P4 b5;go_wp2_with fail;refine(cTry _ _ p5).mono ?_;rintro e w6 ⟨rfl,b6⟩;have p6:=p5.below b6;have P6:=P5.trans (z90.of_below b6 p5.hw);clear p5 P5 b6;go_wp2_with fail;refine(cFun _ _ p6).mono ?_;rintro e w7 ⟨rfl,b7⟩;have p7:=p6.below b7;have P7:=P6.trans (z90.of_below b7 p6.hw);clear p6 P6 b7;clear cFun cIf cK cLet cTry cWh cX;go_wp2_with fail;refine(cA _ _ p7).mono ?_;rintro e w8 ⟨tv8,rfl,p8,q8⟩;have P8:=P7.trans q8;clear p7 P7 q8;clear cA;have HE:Hid (z8V Q c H A tk tv8 _ w8/\z90 H c w w8):=⟨p8,P8⟩;clear p8 P8;go_wp2;go_ret;exact⟨tv8,rfl,HE.out.1,HE.out.2⟩
  ·obtain⟨z,hz⟩:∃ z,zc8[i]?=some z:=⟨_,yd9 (by show i<3;omega)⟩
   have e1:=HN.out.tx i z hz;have cI:=zce (b:=false) (txt z) (by rw[z6a];exact HJ.out i z hz) wr tv p0
   obtain⟨x,hx⟩:∃ x,txt z=x:=⟨_,rfl⟩;rw[hx]at e1 cI;have hi3:(i:Int)<3:=by omega
   have hi0:(0:Int)<=(i:Int):=by omega
   clear hx hz HJ;go_wp2_with fail;refine cI.mono ?_;rintro e w2 ⟨rfl,b2⟩;have HE:Hid (z8V Q c H A tk tv s w2/\z90 H c w w2/\zca w2 G):=⟨p0.below b2,P0.trans (z90.of_below b2 p0.hw),HN.out.below b2⟩;clear cI p0 P0 b2 e1 HN;go_wp2;go_roundw
   case rel=>exact⟨i+1,by go_num,by omega,HE.out.1,HE.out.2.1,HE.out.2.2⟩
   case measure=>simp[intOf];omega
theorem zcL{n:Nat}(ih:zbF n){Q:PIn}{c H:Nat}{A:Nat->Prop}{tk tv:Value}{s:PS}{w:World}(p:Int)(hon:s.fault<0)(hno:∀(i:Nat) (z:List UInt8),zc8[i]?=some z->isP Q s z=false)(hlet:isP Q s [108,101,116]=false)(hk:z4U Q s 1=false)(hif:isP Q s [105,102]=false)(hwh:isP Q s [119,104,105,108,101]=false)(htry:isP Q s [116,114,121]=false)(hfun:isP Q s [102,117,110]=true)(hnm:z4V Q s 1 []=false)(h:z8V Q c H A tk tv s w)(hf:Fit Q (n+1) (.inner p) s):
  Calls Tryz.prog 49 #[.pointer (some ⟨c,0,none⟩),.int .i64 p] w (zbE Q c H A tk w (run Q n (.plain 28 p) s)):=by
 have hneed:=hf.need;have hwt:=hf.all;have hdep:=hf.depth;simp only[z5Q,z5P]at hneed;have hi0:=h.i;have FA:Fit Q n (.plain 28 p) s:=⟨by simp only[z5Q,z5P];omega,hdep,.inl ⟨hon,hwt⟩⟩
 have cA:=fun(W:World) (v:Value) (q:z8V Q c H A tk v s W)=>ih.plain 28 p q FA;obtain⟨R,hR⟩:∃ R,run Q n (.plain 28 p) s=R:=⟨_,rfl⟩;rw[hR]at cA ⊢;have cFun:=zce (c:=c) (H:=H) (A:=A) (tk:=tk) (s:=s) (b:=true) ⟨#[102,117,110]⟩ hfun;have cY:∀(W:World) (v:Value),z8V Q c H A tk v s W->_:=fun W v q=>z9d q;simp only[hnm]at cY;have cLet:=zce (c:=c) (H:=H) (A:=A) (tk:=tk) (s:=s) (b:=false) ⟨#[108,101,116]⟩ hlet;have cK:=zcf (c:=c) (H:=H) (A:=A) (tk:=tk) (b:=false) 1 hk;have cIf:=zce (c:=c) (H:=H) (A:=A) (tk:=tk) (s:=s) (b:=false) ⟨#[105,102]⟩ hif;have cWh:=zce (c:=c) (H:=H) (A:=A) (tk:=tk) (s:=s) (b:=false) ⟨#[119,104,105,108,101]⟩ hwh;have cTry:=zce (c:=c) (H:=H) (A:=A) (tk:=tk) (s:=s) (b:=false) ⟨#[116,114,121]⟩ htry;have n0:=zcb w;have hb0:=((yg9 w.heap.size w).alloc (yf9 _) (.cells (zc8.map fun y=>Value.string (txt y)).toArray 9)).alloc (by simp) (.cells (zc9.map (Value.int .i64)).toArray 3)
 have p0:=h.below hb0;have P0:=z90.of_below (H:=H) (c:=c) hb0 h.hw;obtain⟨W,hW⟩:∃ W,w.alloc (.cells (zc8.map fun y=>Value.string (txt y)).toArray 9)=W:=⟨_,rfl⟩;rw[hW]at n0 p0 P0;obtain⟨X,hX⟩:∃ X,W.alloc (.cells (zc9.map (Value.int .i64)).toArray 3)=X:=⟨_,rfl⟩;rw[hX]at n0 p0 P0;have hW2:w.alloc (.cells #[.string ⟨#[112,114,105,110,116]⟩,.string ⟨#[114,101,116,117,114,110]⟩,.string ⟨#[116,104,114,111,119]⟩] 9)=W:=hW;have hX2:W.alloc (.cells #[.int .i64 22,.int .i64 25,.int .i64 26] 3)=X:=hX;have hWs:W.heap.size=w.heap.size+1:=by rw[←hW];simp
 obtain⟨G,hG⟩:∃ G,w.heap.size=G:=⟨_,rfl⟩;rw[hG]at n0 hWs;have HJ:Hid (∀(i:Nat) (z:List UInt8),zc8[i]?=some z->isP Q s z=false):=hno;clear FA hR hfun hnm hlet hk hif hwh htry hneed hwt hdep hf h hb0 hW hX hno ih hi0 hon;go_enter Tryz.func49,Tryz.ntmps49;go_upto_region 4 with fail;try simp only[hW2,hX2,hG,hWs]
 clear hW2 hX2 hWs;go_loopw [7] (fun v wr=>∃ i:Nat,v=.int .i64 (i:Int)/\i<=3/\z8V Q c H A tk tv s wr/\z90 H c w wr/\Hid (zca wr G)) (fun v _=>3-(intOf v).toNat)
 case atStart=>exact⟨0,rfl,by omega,p0,P0,n0⟩
 case round=>
  clear p0 P0 n0;obtain⟨i,rfl,hi,p0,P0,HN⟩:=hrel;by_cases hij:i=3
  ·have h3:decide ((i:Int)<3)=false:=ya9 (by omega)
   clear HN HJ hij hi;go_wp2_with fail;refine(cLet _ _ p0).mono ?_;rintro e w1 ⟨rfl,b1⟩;have p1:=p0.below b1;have P1:=P0.trans (z90.of_below b1 p0.hw);clear p0 P0 b1 h3;go_wp2_with fail;refine(cK _ _ p1).mono ?_;rintro e w2 ⟨rfl,b2⟩;have p2:=p1.below b2;have P2:=P1.trans (z90.of_below b2 p1.hw);clear p1 P1 b2;go_wp2_with fail;refine(cIf _ _ p2).mono ?_;rintro e w3 ⟨rfl,b3⟩;have p3:=p2.below b3;have P3:=P2.trans (z90.of_below b3 p2.hw);clear p2 P2 b3;go_wp2_with fail;refine(cWh _ _ p3).mono ?_;rintro e w4 ⟨rfl,b4⟩;have p4:=p3.below b4;have P4:=P3.trans (z90.of_below b4 p3.hw);clear p3 P3 b4;go_wp2_with fail;refine(cTry _ _ p4).mono ?_;rintro e w5 ⟨rfl,b5⟩;have p5:=p4.below b5;have P5:=P4.trans (z90.of_below b5 p4.hw);clear p4 P4 b5;go_wp2_with fail;refine(cFun _ _ p5).mono ?_;rintro e w6 ⟨rfl,b6⟩;have p6:=p5.below b6;have P6:=P5.trans (z90.of_below b6 p5.hw);clear p5 P5 b6;go_wp2_with fail;refine(cY _ _ p6).mono ?_;rintro e w7 ⟨rfl,b7⟩;have p7:=p6.below b7;have P7:=P6.trans (z90.of_below b7 p6.hw);clear p6 P6 b7;clear cFun cIf cK cLet cTry cWh cY;go_wp2_with fail;refine(cA _ _ p7).mono ?_;rintro e w8 ⟨tv8,rfl,p8,q8⟩;have P8:=P7.trans q8;clear p7 P7 q8;clear cA;have HE:Hid (z8V Q c H A tk tv8 _ w8/\z90 H c w w8):=⟨p8,P8⟩;clear p8 P8;go_wp2;go_ret;exact⟨tv8,rfl,HE.out.1,HE.out.2⟩
  ·obtain⟨z,hz⟩:∃ z,zc8[i]?=some z:=⟨_,yd9 (by show i<3;omega)⟩
   have e1:=HN.out.tx i z hz;have cI:=zce (b:=false) (txt z) (by rw[z6a];exact HJ.out i z hz) wr tv p0
   obtain⟨x,hx⟩:∃ x,txt z=x:=⟨_,rfl⟩;rw[hx]at e1 cI;have hi3:(i:Int)<3:=by omega
   have hi0:(0:Int)<=(i:Int):=by omega
   clear hx hz HJ;go_wp2_with fail;refine cI.mono ?_;rintro e w2 ⟨rfl,b2⟩;have HE:Hid (z8V Q c H A tk tv s w2/\z90 H c w w2/\zca w2 G):=⟨p0.below b2,P0.trans (z90.of_below b2 p0.hw),HN.out.below b2⟩;clear cI p0 P0 b2 e1 HN;go_wp2;go_roundw
   case rel=>exact⟨i+1,by go_num,by omega,HE.out.1,HE.out.2.1,HE.out.2.2⟩
   case measure=>simp[intOf];omega
theorem zcM{n:Nat}(ih:zbF n){Q:PIn}{c H:Nat}{A:Nat->Prop}{tk tv:Value}{s:PS}{w:World}(p:Int)(hon:s.fault<0)(hno:∀(i:Nat) (z:List UInt8),zc8[i]?=some z->isP Q s z=false)(hlet:isP Q s [108,101,116]=false)(hk:z4U Q s 1=true)(hnx:z4V Q s 4 [61]=false)(hif:isP Q s [105,102]=false)(hwh:isP Q s [119,104,105,108,101]=false)(htry:isP Q s [116,114,121]=false)(hfun:isP Q s [102,117,110]=true)(hnm:z4V Q s 1 []=false)(h:z8V Q c H A tk tv s w)(hf:Fit Q (n+1) (.inner p) s):
  Calls Tryz.prog 49 #[.pointer (some ⟨c,0,none⟩),.int .i64 p] w (zbE Q c H A tk w (run Q n (.plain 28 p) s)):=by
 have hneed:=hf.need;have hwt:=hf.all;have hdep:=hf.depth;simp only[z5Q,z5P]at hneed;have hi0:=h.i;have FA:Fit Q n (.plain 28 p) s:=⟨by simp only[z5Q,z5P];omega,hdep,.inl ⟨hon,hwt⟩⟩
 have cA:=fun(W:World) (v:Value) (q:z8V Q c H A tk v s W)=>ih.plain 28 p q FA;obtain⟨R,hR⟩:∃ R,run Q n (.plain 28 p) s=R:=⟨_,rfl⟩;rw[hR]at cA ⊢;have cFun:=zce (c:=c) (H:=H) (A:=A) (tk:=tk) (s:=s) (b:=true) ⟨#[102,117,110]⟩ hfun;have cY:∀(W:World) (v:Value),z8V Q c H A tk v s W->_:=fun W v q=>z9d q;simp only[hnm]at cY;have cLet:=zce (c:=c) (H:=H) (A:=A) (tk:=tk) (s:=s) (b:=false) ⟨#[108,101,116]⟩ hlet;have cK:=zcf (c:=c) (H:=H) (A:=A) (tk:=tk) (b:=true) 1 hk;have cX:∀(W:World) (v:Value),z8V Q c H A tk v s W->_:=fun W v q=>z9c q;simp only[hnx]at cX;have cIf:=zce (c:=c) (H:=H) (A:=A) (tk:=tk) (s:=s) (b:=false) ⟨#[105,102]⟩ hif;have cWh:=zce (c:=c) (H:=H) (A:=A) (tk:=tk) (s:=s) (b:=false) ⟨#[119,104,105,108,101]⟩ hwh;have cTry:=zce (c:=c) (H:=H) (A:=A) (tk:=tk) (s:=s) (b:=false) ⟨#[116,114,121]⟩ htry;have n0:=zcb w;have hb0:=((yg9 w.heap.size w).alloc (yf9 _) (.cells (zc8.map fun y=>Value.string (txt y)).toArray 9)).alloc (by simp) (.cells (zc9.map (Value.int .i64)).toArray 3)
 have p0:=h.below hb0;have P0:=z90.of_below (H:=H) (c:=c) hb0 h.hw;obtain⟨W,hW⟩:∃ W,w.alloc (.cells (zc8.map fun y=>Value.string (txt y)).toArray 9)=W:=⟨_,rfl⟩;rw[hW]at n0 p0 P0;obtain⟨X,hX⟩:∃ X,W.alloc (.cells (zc9.map (Value.int .i64)).toArray 3)=X:=⟨_,rfl⟩;rw[hX]at n0 p0 P0;have hW2:w.alloc (.cells #[.string ⟨#[112,114,105,110,116]⟩,.string ⟨#[114,101,116,117,114,110]⟩,.string ⟨#[116,104,114,111,119]⟩] 9)=W:=hW;have hX2:W.alloc (.cells #[.int .i64 22,.int .i64 25,.int .i64 26] 3)=X:=hX;have hWs:W.heap.size=w.heap.size+1:=by rw[←hW];simp
 obtain⟨G,hG⟩:∃ G,w.heap.size=G:=⟨_,rfl⟩;rw[hG]at n0 hWs;have HJ:Hid (∀(i:Nat) (z:List UInt8),zc8[i]?=some z->isP Q s z=false):=hno;clear FA hR hfun hnm hlet hk hnx hif hwh htry hneed hwt hdep hf h hb0 hW hX hno ih hi0 hon;go_enter Tryz.func49,Tryz.ntmps49;go_upto_region 4 with fail;try simp only[hW2,hX2,hG,hWs]
 clear hW2 hX2 hWs;go_loopw [7] (fun v wr=>∃ i:Nat,v=.int .i64 (i:Int)/\i<=3/\z8V Q c H A tk tv s wr/\z90 H c w wr/\Hid (zca wr G)) (fun v _=>3-(intOf v).toNat)
 case atStart=>exact⟨0,rfl,by omega,p0,P0,n0⟩
 case round=>
  clear p0 P0 n0;obtain⟨i,rfl,hi,p0,P0,HN⟩:=hrel;by_cases hij:i=3
  ·have h3:decide ((i:Int)<3)=false:=ya9 (by omega)
   clear HN HJ hij hi;go_wp2_with fail;refine(cLet _ _ p0).mono ?_;rintro e w1 ⟨rfl,b1⟩;have p1:=p0.below b1;have P1:=P0.trans (z90.of_below b1 p0.hw);clear p0 P0 b1 h3;go_wp2_with fail;refine(cK _ _ p1).mono ?_;rintro e w2 ⟨rfl,b2⟩;have p2:=p1.below b2;have P2:=P1.trans (z90.of_below b2 p1.hw);clear p1 P1 b2;go_wp2_with fail;refine(cX _ _ p2).mono ?_;rintro e w3 ⟨rfl,b3⟩;have p3:=p2.below b3;have P3:=P2.trans (z90.of_below b3 p2.hw);clear p2 P2 b3;go_wp2_with fail;refine(cIf _ _ p3).mono ?_;rintro e w4 ⟨rfl,b4⟩;have p4:=p3.below b4;have P4:=P3.trans (z90.of_below b4 p3.hw);clear p3 P3 b4;go_wp2_with fail;refine(cWh _ _ p4).mono ?_;rintro e w5 ⟨rfl,b5⟩;have p5:=p4.below b5;have P5:=P4.trans (z90.of_below b5 p4.hw);clear p4 P4 b5;go_wp2_with fail;refine(cTry _ _ p5).mono ?_;rintro e w6 ⟨rfl,b6⟩;have p6:=p5.below b6;have P6:=P5.trans (z90.of_below b6 p5.hw);clear p5 P5 b6;go_wp2_with fail;refine(cFun _ _ p6).mono ?_;rintro e w7 ⟨rfl,b7⟩;have p7:=p6.below b7;have P7:=P6.trans (z90.of_below b7 p6.hw);clear p6 P6 b7;go_wp2_with fail;refine(cY _ _ p7).mono ?_;rintro e w8 ⟨rfl,b8⟩;have p8:=p7.below b8;have P8:=P7.trans (z90.of_below b8 p7.hw);clear p7 P7 b8;clear cFun cIf cK cLet cTry cWh cX cY;go_wp2_with fail;refine(cA _ _ p8).mono ?_;rintro e w9 ⟨tv9,rfl,p9,q9⟩;have P9:=P8.trans q9;clear p8 P8 q9;clear cA;have HE:Hid (z8V Q c H A tk tv9 _ w9/\z90 H c w w9):=⟨p9,P9⟩;clear p9 P9;go_wp2;go_ret;exact⟨tv9,rfl,HE.out.1,HE.out.2⟩
  ·obtain⟨z,hz⟩:∃ z,zc8[i]?=some z:=⟨_,yd9 (by show i<3;omega)⟩
   have e1:=HN.out.tx i z hz;have cI:=zce (b:=false) (txt z) (by rw[z6a];exact HJ.out i z hz) wr tv p0
   obtain⟨x,hx⟩:∃ x,txt z=x:=⟨_,rfl⟩;rw[hx]at e1 cI;have hi3:(i:Int)<3:=by omega
   have hi0:(0:Int)<=(i:Int):=by omega
   clear hx hz HJ;go_wp2_with fail;refine cI.mono ?_;rintro e w2 ⟨rfl,b2⟩;have HE:Hid (z8V Q c H A tk tv s w2/\z90 H c w w2/\zca w2 G):=⟨p0.below b2,P0.trans (z90.of_below b2 p0.hw),HN.out.below b2⟩;clear cI p0 P0 b2 e1 HN;go_wp2;go_roundw
   case rel=>exact⟨i+1,by go_num,by omega,HE.out.1,HE.out.2.1,HE.out.2.2⟩
   case measure=>simp[intOf];omega
theorem zcN{n:Nat}(ih:zbF n){Q:PIn}{c H:Nat}{A:Nat->Prop}{tk tv:Value}{s:PS}{w:World}(p:Int)(hon:s.fault<0)(h:z8V Q c H A tk tv s w)(hf:Fit Q (n+1) (.inner p) s):
  Calls Tryz.prog 49 #[.pointer (some ⟨c,0,none⟩),.int .i64 p] w (zbE Q c H A tk w (run Q (n+1) (.inner p) s)):=by
 have no:∀(x:List UInt8),¬ isP Q s x=true->isP Q s x=false:=fun x hx=>by simpa using hx
 have lt3:∀{i:Nat} {z:List UInt8},zc8[i]?=some z->i<3:=fun{i z} hz=>by
  rcases Nat.lt_or_ge i 3 with q|q
  ·exact q
  ·rw[List.getElem?_eq_none q]at hz;cases hz
 rw[run];by_cases h0:isP Q s [112,114,105,110,116]=true
 ·rw[if_pos h0];exact zci ih p 0 _ 22 rfl rfl h0 (fun i z hi _=>by omega) h hf
 rw[if_neg h0];by_cases h1:isP Q s [114,101,116,117,114,110]=true
 ·rw[if_pos h1];exact zci ih p 1 _ 25 rfl rfl h1 (fun i z hi hz=>by
   have e:i=0:=by omega
   subst e;cases hz
   exact no _ h0) h hf
 rw[if_neg h1];by_cases h2:isP Q s [116,104,114,111,119]=true
 ·rw[if_pos h2];exact zci ih p 2 _ 26 rfl rfl h2 (fun i z hi hz=>by
   rcases (by omega:i=0\/i=1)with e|e<;>subst e<;>cases hz
   ·exact no _ h0
   ·exact no _ h1) h hf
 rw[if_neg h2];have hno:∀(i:Nat) (z:List UInt8),zc8[i]?=some z->isP Q s z=false:=fun i z hz=>by
  rcases (by have:=lt3 hz;omega:i=0\/i=1\/i=2)with e|e|e<;>subst e<;>cases hz
  ·exact no _ h0
  ·exact no _ h1
  ·exact no _ h2
 by_cases h3:isP Q s [108,101,116]=true
 ·rw[if_pos h3];exact zcz ih p hon hno h3 h hf
 rw[if_neg h3];by_cases h4:z4U Q s 1=true/\z4V Q s 4 [61]=true
 ·rw[if_pos h4];exact zcA ih p hon hno (no _ h3) h4.1 h4.2 h hf
 rw[if_neg h4];by_cases h5:isP Q s [105,102]=true
 ·rw[if_pos h5];by_cases hk:z4U Q s 1=true
  ·exact zcC ih p hon hno (no _ h3) hk (by simpa using fun q=>h4 ⟨hk,q⟩) h5 h hf
  ·exact zcB ih p hon hno (no _ h3) (by simpa using hk) h5 h hf
 rw[if_neg h5];by_cases h6:isP Q s [119,104,105,108,101]=true
 ·rw[if_pos h6];by_cases hk:z4U Q s 1=true
  ·exact zcE ih p hon hno (no _ h3) hk (by simpa using fun q=>h4 ⟨hk,q⟩) (no _ h5) h6 h hf
  ·exact zcD ih p hon hno (no _ h3) (by simpa using hk) (no _ h5) h6 h hf
 rw[if_neg h6];by_cases h7:isP Q s [116,114,121]=true
 ·rw[if_pos h7];by_cases hk:z4U Q s 1=true
  ·exact zcG ih p hon hno (no _ h3) hk (by simpa using fun q=>h4 ⟨hk,q⟩) (no _ h5) (no _ h6) h7 h hf
  ·exact zcF ih p hon hno (no _ h3) (by simpa using hk) (no _ h5) (no _ h6) h7 h hf
 rw[if_neg h7];by_cases h8:isP Q s [102,117,110]=true/\z4V Q s 1 []=true
 ·rw[if_pos h8];by_cases hk:z4U Q s 1=true
  ·exact zcI ih p hon hno (no _ h3) hk (by simpa using fun q=>h4 ⟨hk,q⟩) (no _ h5) (no _ h6) (no _ h7) h8.1 h8.2 h hf
  ·exact zcH ih p hon hno (no _ h3) (by simpa using hk) (no _ h5) (no _ h6) (no _ h7) h8.1 h8.2 h hf
 rw[if_neg h8];by_cases h9:isP Q s [102,117,110]=true
 ·have h10:z4V Q s 1 []=false:=by simpa using fun q=>h8 ⟨h9,q⟩
  by_cases hk:z4U Q s 1=true
  ·exact zcM ih p hon hno (no _ h3) hk (by simpa using fun q=>h4 ⟨hk,q⟩) (no _ h5) (no _ h6) (no _ h7) h9 h10 h hf
  ·exact zcL ih p hon hno (no _ h3) (by simpa using hk) (no _ h5) (no _ h6) (no _ h7) h9 h10 h hf
 ·by_cases hk:z4U Q s 1=true
  ·exact zcK ih p hon hno (no _ h3) hk (by simpa using fun q=>h4 ⟨hk,q⟩) (no _ h5) (no _ h6) (no _ h7) (no _ h9) h hf
  ·exact zcJ ih p hon hno (no _ h3) (by simpa using hk) (no _ h5) (no _ h6) (no _ h7) (no _ h9) h hf
