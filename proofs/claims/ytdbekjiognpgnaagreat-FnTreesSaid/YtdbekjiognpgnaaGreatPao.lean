/- Part 15. -/
import Derived.Test.YtdbekjiognpgnaaGreatPan
set_option maxHeartbeats 16000000
set_option maxRecDepth 100000
set_option linter.unusedVariables false
namespace Go.Proofs.YtdbekjiognpgnaaGreat
open Go.RowKit Go.Sort
theorem z8V.cells{Q:PIn}{c H:Nat}{A:Nat->Prop}{tk tv:Value}{s:PS}{w:World}(h:z8V Q c H A tk tv s w):
  w.cell? ⟨c,0,none⟩=some tk/\w.cell? ⟨c,1,none⟩=some (.int .i64 (s.i:Int))/\w.cell? ⟨c,3,none⟩=some tv/\w.cell? ⟨c,4,none⟩=some (.int .i64 (s.depth:Int))/\w.cell? ⟨c,5,none⟩=some (.int .i64 s.fault)/\∀ j,w.frozen? ⟨c,j,none⟩=false:=by
 obtain⟨c0,c1,c2,c3,c4,c5⟩:=z8W h.blk;exact⟨c0,c1,c3,c4,c5,fun j=>frozen_of_row w c j _ _ h.blk⟩
theorem z8V.step{Q:PIn}{c H:Nat}{A:Nat->Prop}{tk tv:Value}{s:PS}{w:World}(h:z8V Q c H A tk tv s w)(hi:s.i<Q.T.length):z8V Q c H A tk tv (z4W s) (w.setCell ⟨c,1,none⟩ (.int .i64 ((s.i:Int)+1)))/\z90 H c w (w.setCell ⟨c,1,none⟩ (.int .i64 ((s.i:Int)+1))):=by
 refine h.put 1 _ (z4W s) ?_ rfl hi h.depth;show _=#[tk,Value.int .i64 ((s.i+1:Nat):Int),_,tv,Value.int .i64 (s.depth:Int),Value.int .i64 s.fault];simp
theorem z97{Q:PIn}{c H:Nat}{A:Nat->Prop}{tk tv:Value}{s:PS}{w:World}(h:z8V Q c H A tk tv s w):
  Calls Tryz.prog 73 #[.pointer (some ⟨c,0,none⟩)] w fun e w'=>e=.returned (.tuple #[])/\z8V Q c H A tk tv (badP Q s) w'/\z90 H c w w':=by
 obtain⟨c0,c1,c3,c4,c5,cf⟩:=h.cells;obtain⟨f,hf⟩:∃ f,s.fault=f:=⟨_,rfl⟩;rw[hf]at c5;by_cases h0:¬ s.fault<0
 ·have hp:badP Q s=s:=by unfold badP;rw[if_neg h0]
  rw[hp];have h0':decide (f<0)=false:=by rw[←hf];exact ya9 h0
  have HH:Hid (z8V Q c H A tk tv s w):=h;clear h hp h0 hf;go_enter Tryz.func73,Tryz.ntmps73;go_wp2;go_returns;exact⟨rfl,HH.out,z90.refl _ _ _⟩
 ·rw[Decidable.not_not]at h0;have h0':f<0:=by rw[←hf];exact h0
  have hp:badP Q s={ s with fault:=z4T Q s }:=by unfold badP;rw[if_pos h0]
  have cP:=z8X h;have HK:Hid (∀ w1,Below w.heap.size w w1->z8V Q c H A tk tv (badP Q s) (w1.setCell ⟨c,5,none⟩ (.int .i64 (z4T Q s)))/\z90 H c w (w1.setCell ⟨c,5,none⟩ (.int .i64 (z4T Q s)))/\w1.cell? ⟨c,5,none⟩=some (.int .i64 f)/\w1.frozen? ⟨c,5,none⟩=false):=fun w1 b1=>by
   have h1:=h.below b1;rw[hp];obtain⟨k1,k2⟩:=h1.put 5 (.int .i64 (z4T Q s)) { s with fault:=z4T Q s } (by simp) rfl h.i h.depth
   obtain⟨_,_,_,_,g5,gf⟩:=h1.cells;exact⟨k1,(z90.of_below b1 h.hw).trans k2,by rw[←hf];exact g5,gf 5⟩
  obtain⟨S,hS⟩:∃ S,badP Q s=S:=⟨_,rfl⟩;rw[hS]at HK ⊢;obtain⟨P,hP⟩:∃ P,z4T Q s=P:=⟨_,rfl⟩;rw[hP]at cP HK;clear h hp h0 hf hS hP;go_enter Tryz.func73,Tryz.ntmps73;go_wp2_with fail;refine cP.mono ?_;rintro e w1 ⟨rfl,b1⟩;obtain⟨k1,k2,k3,k4⟩:=HK.out w1 b1;have HE:Hid (z8V Q c H A tk tv S (w1.setCell ⟨c,5,none⟩ (.int .i64 P))/\z90 H c w (w1.setCell ⟨c,5,none⟩ (.int .i64 P))):=⟨k1,k2⟩;clear k1 k2 HK cP b1;go_wp2;go_returns;exact⟨rfl,HE.out.1,HE.out.2⟩
theorem z98{Q:PIn}{c H:Nat}{A:Nat->Prop}{tk tv:Value}{s:PS}{w:World}(x:ByteArray)(h:z8V Q c H A tk tv s w):
  Calls Tryz.prog 79 #[.pointer (some ⟨c,0,none⟩),.string x] w fun e w'=>e=.returned (.tuple #[])/\z8V Q c H A tk tv (z4X Q s x.data.toList) w'/\z90 H c w w':=by
 have cI:=z96 x h;by_cases hi:isP Q s x.data.toList=true
 ·have hp:z4X Q s x.data.toList=z4W s:=by unfold z4X;rw[if_pos hi]
  have hl:=(z5b hi).2;have hfew:=h.few;rw[hi]at cI;rw[hp];have HK:Hid (∀ w1,Below w.heap.size w w1->z8V Q c H A tk tv (z4W s) (w1.setCell ⟨c,1,none⟩ (.int .i64 ((s.i:Int)+1)))/\z90 H c w (w1.setCell ⟨c,1,none⟩ (.int .i64 ((s.i:Int)+1)))/\w1.cell? ⟨c,1,none⟩=some (.int .i64 (s.i:Int))/\w1.frozen? ⟨c,1,none⟩=false):=fun w1 b1=>by
   have h1:=h.below b1;obtain⟨k1,k2⟩:=h1.step hl;obtain⟨_,g1,_,_,_,gf⟩:=h1.cells;exact⟨k1,(z90.of_below b1 h.hw).trans k2,g1,gf 1⟩
  obtain⟨S,hS⟩:∃ S,z4W s=S:=⟨_,rfl⟩;rw[hS]at HK ⊢;obtain⟨i,hii⟩:∃ i,s.i=i:=⟨_,rfl⟩;rw[hii]at HK hl;have hi2:(i:Int)<=200:=by omega
  clear h hp hi hS hii hl hfew;go_enter Tryz.func79,Tryz.ntmps79;go_wp2_with fail;refine cI.mono ?_;rintro e w1 ⟨rfl,b1⟩;obtain⟨k1,k2,k3,k4⟩:=HK.out w1 b1;have HE:Hid (z8V Q c H A tk tv S (w1.setCell ⟨c,1,none⟩ (.int .i64 ((i:Int)+1)))/\z90 H c w (w1.setCell ⟨c,1,none⟩ (.int .i64 ((i:Int)+1)))):=⟨k1,k2⟩;clear k1 k2 HK cI b1;go_wp2;go_returns;exact⟨rfl,HE.out.1,HE.out.2⟩
 ·have hi':isP Q s x.data.toList=false:=by simpa using hi
  have hp:z4X Q s x.data.toList=badP Q s:=by unfold z4X;rw[if_neg hi]
  rw[hi']at cI;rw[hp];have HK:Hid (z8V Q c H A tk tv s w):=h;clear h hp hi hi';go_enter Tryz.func79,Tryz.ntmps79;go_wp2_with fail;refine cI.mono ?_;rintro e w1 ⟨rfl,b1⟩;have cB:=z97 (HK.out.below b1);have HB:Hid (z90 H c w w1):=z90.of_below b1 HK.out.hw;clear cI b1 HK;go_wp2_with fail;refine cB.mono ?_;rintro e w2 ⟨rfl,p2,q2⟩;have HE:Hid (z8V Q c H A tk tv (badP Q s) w2/\z90 H c w w2):=⟨p2,HB.out.trans q2⟩;clear cB p2 q2 HB;go_wp2;go_returns;exact⟨rfl,HE.out.1,HE.out.2⟩
theorem z99{Q:PIn}{c H:Nat}{A:Nat->Prop}{tk tv:Value}{s:PS}{w:World}(h:z8V Q c H A tk tv s w):
  Calls Tryz.prog 78 #[.pointer (some ⟨c,0,none⟩)] w fun e w'=>e=.returned (.string (z4Y Q s))/\z8V Q c H A tk tv (z4Z Q s) w'/\z90 H c w w':=by
 have cI:=z8Y 1 h;by_cases hi:z4U Q s 1=true
 ·have hp:z4Z Q s=z4W s:=by unfold z4Z;rw[if_pos hi]
  have hl:=(z5c hi).2;have hfew:=h.few;rw[hi]at cI;obtain⟨g,cap,t,rfl,ht,hT,hgl,hgc⟩:=h.tok hl;have hnm:z4Y Q s=txt t.1.text:=by unfold z4Y tokP;rw[if_pos hi,ht]
  rw[hp,hnm];have HK:Hid (∀ w1,Below w.heap.size w w1->z8V Q c H A (.slice (some ⟨g,0,none⟩) Q.T.length cap) tv (z4W s) (w1.setCell ⟨c,1,none⟩ (.int .i64 ((s.i:Int)+1)))/\z90 H c w (w1.setCell ⟨c,1,none⟩ (.int .i64 ((s.i:Int)+1)))/\w1.cell? ⟨c,1,none⟩=some (.int .i64 (s.i:Int))/\w1.frozen? ⟨c,1,none⟩=false/\(w1.setCell ⟨c,1,none⟩ (.int .i64 ((s.i:Int)+1))).cell? ⟨g,s.i*4+1,none⟩=some (.string (txt t.1.text))/\(w1.setCell ⟨c,1,none⟩ (.int .i64 ((s.i:Int)+1))).cell? ⟨c,0,none⟩=some (.slice (some ⟨g,0,none⟩) Q.T.length cap)/\(w1.setCell ⟨c,1,none⟩ (.int .i64 ((s.i:Int)+1))).cell? ⟨c,1,none⟩=some (.int .i64 ((s.i:Int)+1))):=fun w1 b1=>by
   have h1:=h.below b1;obtain⟨k1,k2⟩:=h1.step hl;obtain⟨_,g1,_,_,_,gf⟩:=h1.cells;have e1:=hT.kept (b1.block g hgl);have e2:=e1.kept (heap_setCell_other w1 ⟨c,1,none⟩ g (.int .i64 ((s.i:Int)+1)) hgc);obtain⟨g0,g2,_,_,_,_⟩:=k1.cells;have e3:(((z4W s).i:Nat):Int)=(s.i:Int)+1:=by show((s.i+1:Nat):Int)=_;omega
   rw[e3]at g2;exact⟨k1,(z90.of_below b1 h.hw).trans k2,g1,gf 1,e2.c1,g0,g2⟩
  obtain⟨S,hS⟩:∃ S,z4W s=S:=⟨_,rfl⟩;rw[hS]at HK ⊢;obtain⟨i,hii⟩:∃ i,s.i=i:=⟨_,rfl⟩;rw[hii]at HK hl;obtain⟨N,hN⟩:∃ N,Q.T.length=N:=⟨_,rfl⟩;rw[hN]at HK hl hfew ⊢;have hi2:(i:Int)<=200:=by omega
  have hi3:(i:Int)<(N:Int):=by omega
  clear h hp hi hS hii hfew hT ht hnm hN hgl;go_enter Tryz.func78,Tryz.ntmps78;go_wp2_with fail;refine cI.mono ?_;rintro e w1 ⟨rfl,b1⟩;obtain⟨k1,k2,k3,k4,k5,k6,k7⟩:=HK.out w1 b1;have HE:Hid (z8V Q c H A (.slice (some ⟨g,0,none⟩) N cap) tv S (w1.setCell ⟨c,1,none⟩ (.int .i64 ((i:Int)+1)))/\z90 H c w (w1.setCell ⟨c,1,none⟩ (.int .i64 ((i:Int)+1)))):=⟨k1,k2⟩;clear k1 k2 HK cI b1;go_upto_region 5 with fail;obtain⟨W2,hW2⟩:∃ W,w1.setCell ⟨c,1,none⟩ (.int .i64 ((i:Int)+1))=W:=⟨_,rfl⟩;rw[hW2]at k5 k6 k7 HE;try simp only[hW2]
  clear hW2 k3 k4;go_quiet (fail)
  go_wp2;go_ret;exact⟨rfl,HE.out.1.below (below_drewN (yg9 _ _) _),HE.out.2.trans (z90.of_below (below_drewN (yg9 _ _) _) HE.out.1.hw)⟩
 ·have hi':z4U Q s 1=false:=by simpa using hi
  have hp:z4Z Q s=badP Q s:=by unfold z4Z;rw[if_neg hi]
  have hnm:z4Y Q s=⟨#[]⟩:=by unfold z4Y;rw[if_neg hi];rfl
  rw[hi']at cI;rw[hp,hnm];have HK:Hid (z8V Q c H A tk tv s w):=h;clear h hp hi hi' hnm;go_enter Tryz.func78,Tryz.ntmps78;go_wp2_with fail;refine cI.mono ?_;rintro e w1 ⟨rfl,b1⟩;have cB:=z97 (HK.out.below b1);have HB:Hid (z90 H c w w1):=z90.of_below b1 HK.out.hw;clear cI b1 HK;go_wp2_with fail;refine cB.mono ?_;rintro e w2 ⟨rfl,p2,q2⟩;have HE:Hid (z8V Q c H A tk tv (badP Q s) w2/\z90 H c w w2):=⟨p2,HB.out.trans q2⟩;clear cB p2 q2 HB;go_wp2;go_ret;exact⟨rfl,HE.out.1,HE.out.2⟩
theorem z9a{Q:PIn}{c H:Nat}{A:Nat->Prop}{tk tv:Value}{s:PS}{w:World}(h:z8V Q c H A tk tv s w)(h1:1<=s.depth):
  Calls Tryz.prog 51 #[.pointer (some ⟨c,0,none⟩)] w fun e w'=>e=.returned (.tuple #[])/\z8V Q c H A tk tv (outP s) w'/\z90 H c w w':=by
 obtain⟨c0,c1,c3,c4,c5,cf⟩:=h.cells;have f4:=cf 4;have hd:=h.depth;obtain⟨k1,k2⟩:=h.put 4 (.int .i64 ((s.depth:Int)-1)) (outP s) (by show _=#[tk,Value.int .i64 (s.i:Int),_,tv,Value.int .i64 ((s.depth-1:Nat):Int),Value.int .i64 s.fault];simp;omega) rfl h.i (by show s.depth-1<=25;omega)
 have HE:Hid (z8V Q c H A tk tv (outP s) (w.setCell ⟨c,4,none⟩ (.int .i64 ((s.depth:Int)-1)))/\z90 H c w (w.setCell ⟨c,4,none⟩ (.int .i64 ((s.depth:Int)-1)))):=⟨k1,k2⟩;obtain⟨d,hdd⟩:∃ d,s.depth=d:=⟨_,rfl⟩;obtain⟨S,hS⟩:∃ S,outP s=S:=⟨_,rfl⟩;rw[hdd]at HE c4 hd h1;rw[hS]at HE ⊢;clear h k1 k2 hdd hS cf;go_enter Tryz.func51,Tryz.ntmps51;go_wp2;go_returns;exact⟨rfl,HE.out.1,HE.out.2⟩
theorem z9b{Q:PIn}{c H:Nat}{A:Nat->Prop}{tk tv:Value}{s:PS}{w:World}(h:z8V Q c H A tk tv s w)(h24:s.depth<=24):
  Calls Tryz.prog 48 #[.pointer (some ⟨c,0,none⟩)] w fun e w'=>e=.returned (.bool (decide ((inP Q s).fault<0)))/\z8V Q c H A tk tv (inP Q s) w'/\z90 H c w w':=by
 obtain⟨c0,c1,c3,c4,c5,cf⟩:=h.cells;have up:∀(t:PS) (w1:World),z8V Q c H A tk tv t w1->t.depth<=24->z8V Q c H A tk tv { t with depth:=t.depth+1 } (w1.setCell ⟨c,4,none⟩ (.int .i64 ((t.depth:Int)+1)))/\z90 H c w1 (w1.setCell ⟨c,4,none⟩ (.int .i64 ((t.depth:Int)+1)))/\w1.cell? ⟨c,4,none⟩=some (.int .i64 (t.depth:Int))/\w1.frozen? ⟨c,4,none⟩=false:=fun t w1 p ht=>by
  obtain⟨k1,k2⟩:=p.put 4 (.int .i64 ((t.depth:Int)+1)) { t with depth:=t.depth+1 } (by simp) rfl p.i (by show t.depth+1<=25;omega)
  obtain⟨_,_,_,g4,_,gf⟩:=p.cells;exact⟨k1,k2,g4,gf 4⟩
 have HU:Hid _:=up;obtain⟨f,hf⟩:∃ f,s.fault=f:=⟨_,rfl⟩;obtain⟨d,hd⟩:∃ d,s.depth=d:=⟨_,rfl⟩;rw[hf]at c5;rw[hd]at c4 h24;by_cases hbad:s.fault<0/\24<=s.depth
 ·have e:inP Q s={ badP Q s with depth:=(badP Q s).depth+1 }:=by unfold inP;rw[if_pos hbad,z58]
  have hfault:decide ((inP Q s).fault<0)=false:=by
   rw[e];have:=z56 Q s;simp;omega
  rw[hfault,e];have h0':f<0:=by omega
  have hd24:(24:Int)<=(d:Int):=by omega
  have hd25:(d:Int)<=24:=by omega
  have cB:=z97 h;have HBF:Hid (0<=(badP Q s).fault/\(badP Q s).depth=d):=⟨z56 Q s,by rw[z58];exact hd⟩
  obtain⟨S,hS⟩:∃ S,badP Q s=S:=⟨_,rfl⟩;rw[hS]at cB HBF ⊢;clear h up cf hbad e hfault hf hd hS;go_enter Tryz.func48,Tryz.ntmps48;go_wp2_with fail;refine cB.mono ?_;rintro e w1 ⟨rfl,p1,q1⟩;obtain⟨k1,k2,k3,k4⟩:=HU.out S w1 p1 (by have:=HBF.out.2;omega)
  rw[HBF.out.2]at k1 k2 k3;obtain⟨_,_,_,_,g5,_⟩:=k1.cells;have g5':(w1.setCell ⟨c,4,none⟩ (.int .i64 ((d:Int)+1))).cell? ⟨c,5,none⟩=some (.int .i64 S.fault):=g5;have HE:Hid (z8V Q c H A tk tv { S with depth:=S.depth+1 } (w1.setCell ⟨c,4,none⟩ (.int .i64 ((d:Int)+1)))/\z90 H c w (w1.setCell ⟨c,4,none⟩ (.int .i64 ((d:Int)+1)))):=⟨by rw[HBF.out.2];exact k1,q1.trans k2⟩
  have hS0:decide (S.fault<0)=false:=by have:=HBF.out.1;simp;omega
  obtain⟨_,_,_,_,h5,_⟩:=p1.cells;clear k1 k2 g5 cB p1 q1 HU HBF;go_wp2;go_ret;exact⟨rfl,HE.out.1,HE.out.2⟩
 ·have e:inP Q s={ s with depth:=s.depth+1 }:=by unfold inP;rw[if_neg hbad]
  have hfault:decide ((inP Q s).fault<0)=decide (f<0):=by rw[e,←hf]
  rw[hfault,e];obtain⟨k1,k2,k3,k4⟩:=HU.out s w h (by omega)
  rw[hd]at k1 k2 k3;obtain⟨_,_,_,_,g5,_⟩:=k1.cells;have g5':(w.setCell ⟨c,4,none⟩ (.int .i64 ((d:Int)+1))).cell? ⟨c,5,none⟩=some (.int .i64 f):=by rw[←hf];exact g5
  have HE:Hid (z8V Q c H A tk tv { s with depth:=s.depth+1 } (w.setCell ⟨c,4,none⟩ (.int .i64 ((d:Int)+1)))/\z90 H c w (w.setCell ⟨c,4,none⟩ (.int .i64 ((d:Int)+1)))):=⟨by rw[hd];exact k1,k2⟩
  obtain⟨S,hS⟩:∃ S:PS,{ s with depth:=s.depth+1 }=S:=⟨_,rfl⟩;rw[hS]at HE ⊢;have hd25:(d:Int)<=24:=by omega
  by_cases h0:f<0
  ·have hd24:decide ((24:Int)<=(d:Int))=false:=by simp;omega
   clear h up k1 k2 g5 HU hbad e hfault hf hd hS;go_enter Tryz.func48,Tryz.ntmps48;go_wp2;go_ret;exact⟨by simp,HE.out.1,HE.out.2⟩
  ·have h0':decide (f<0)=false:=ya9 h0;clear h up k1 k2 g5 HU hbad e hfault hf hd hS h0;go_enter Tryz.func48,Tryz.ntmps48;go_wp2;go_ret;exact⟨by simp,HE.out.1,HE.out.2⟩
theorem z9c{Q:PIn}{c H:Nat}{A:Nat->Prop}{tk tv:Value}{s:PS}{w:World}(h:z8V Q c H A tk tv s w):
  Calls Tryz.prog 77 #[.pointer (some ⟨c,0,none⟩),.int .i64 4,.string ⟨#[61]⟩] w fun e w'=>e=.returned (.bool (z4V Q s 4 [61]))/\Below w.heap.size w w':=by
 obtain⟨c0,c1,c3,c4,c5,cf⟩:=h.cells;have hfew:=h.few;have hii:=h.i;obtain⟨xx,cap,rfl⟩:=h.shape;by_cases hj:s.i+1<Q.T.length
 ·obtain⟨g,cap',t,e,ht,hT,_,_⟩:=h.tok hj;injection e with j1 j2 j3;subst j1 j3;clear j2;have e0:=hT.c0;have e1:=hT.c1;obtain⟨q,hq⟩:∃ q,t.1.kind=q:=⟨_,rfl⟩;obtain⟨y,hy⟩:∃ y,txt t.1.text=y:=⟨_,rfl⟩;rw[hq]at e0;rw[hy]at e1;have hyl:t.1.text=y.data.toList:=by rw[←hy,z6a]
  have hp:z4V Q s 4 [61]=(decide (q=4)&&decide (y.data.toList=[61])):=by
   unfold z4V;rw[ht];show(decide (t.1.kind=4)&&(decide (([61]:List UInt8)=[])||decide (t.1.text=[61])))=_;rw[hq,hyl,ya9 (by simp:¬ ([61]:List UInt8)=[]),Bool.false_or]
  rw[hp];obtain⟨n,hn⟩:∃ n,Q.T.length=n:=⟨_,rfl⟩;obtain⟨i,hi⟩:∃ i,s.i=i:=⟨_,rfl⟩;rw[hn]at c0 hj hfew hii;rw[hi]at c1 hj e0 e1 hii;clear hT ht h hn hi hp hq hy hyl cf;have e0':w.cell? ⟨g,(i+1)*4,none⟩=some (.int .i64 q):=e0;have hji:(i:Int)+1<(n:Int):=by omega
  have hj0:(0:Int)<=(i:Int):=by omega
  by_cases hq4:q=4
  ·subst hq4;by_cases hxy:y=⟨#[61]⟩
   ·subst hxy;have hr:(decide ((4:Int)=4)&&decide ((⟨#[61]⟩:ByteArray).data.toList=[61]))=true:=by decide
    rw[hr];go_enter Tryz.func77,Tryz.ntmps77;go_wp2;go_quiet (fail)
    go_wp2;go_ret;exact⟨rfl,below_drewN (yg9 _ _) _⟩
   ·have hne:(y.toList==(⟨#[61]⟩:ByteArray).toList)=false:=by
     rw[yc9,ByteArray.toList_eq,ByteArray.toList_eq];exact fun e=>hxy (z93 e)
    have hne2:(y.toList==[61])=false:=by
     rw[yc9,ByteArray.toList_eq];exact fun e=>hxy (z93 e)
    have hne3:¬ y.toList=[61]:=by
     rw[ByteArray.toList_eq];exact fun e=>hxy (z93 e)
    have hr:(decide ((4:Int)=4)&&decide (y.data.toList=[61]))=false:=by
     rw[ya9 (fun e=>hxy (z93 e))];rfl
    rw[hr];clear hr hxy;go_enter Tryz.func77,Tryz.ntmps77;go_wp2;go_quiet (fail)
    go_wp2;go_ret;exact⟨rfl,below_drewN (yg9 _ _) _⟩
  ·have hn4:(q==4)=false:=by rw[yc9];exact hq4
   have hr:(decide (q=4)&&decide (y.data.toList=[61]))=false:=by rw[ya9 hq4];rfl
   rw[hr];clear hr hq4;go_enter Tryz.func77,Tryz.ntmps77;go_wp2;go_quiet (fail)
   go_wp2;go_ret;exact⟨rfl,below_drewN (yg9 _ _) _⟩
 ·have hp:z4V Q s 4 [61]=false:=by unfold z4V;rw[List.getElem?_eq_none (by omega)]
  rw[hp];obtain⟨n,hn⟩:∃ n,Q.T.length=n:=⟨_,rfl⟩;obtain⟨i,hi⟩:∃ i,s.i=i:=⟨_,rfl⟩;rw[hn]at c0 hj hfew hii;rw[hi]at c1 hj hii;have hji:decide ((i:Int)+1<(n:Int))=false:=by simp;omega
  have hj0:(0:Int)<=(i:Int):=by omega
  clear h hp hn hi cf;go_enter Tryz.func77,Tryz.ntmps77;go_wp2;go_quiet (fail)
  go_wp2;go_ret;exact⟨rfl,below_drewN (yg9 _ _) _⟩
theorem z9d{Q:PIn}{c H:Nat}{A:Nat->Prop}{tk tv:Value}{s:PS}{w:World}(h:z8V Q c H A tk tv s w):
  Calls Tryz.prog 77 #[.pointer (some ⟨c,0,none⟩),.int .i64 1,.string ⟨#[]⟩] w fun e w'=>e=.returned (.bool (z4V Q s 1 []))/\Below w.heap.size w w':=by
 obtain⟨c0,c1,c3,c4,c5,cf⟩:=h.cells;have hfew:=h.few;have hii:=h.i;obtain⟨xx,cap,rfl⟩:=h.shape;by_cases hj:s.i+1<Q.T.length
 ·obtain⟨g,cap',t,e,ht,hT,_,_⟩:=h.tok hj;injection e with j1 j2 j3;subst j1 j3;clear j2;have e0:=hT.c0;obtain⟨q,hq⟩:∃ q,t.1.kind=q:=⟨_,rfl⟩;rw[hq]at e0;have hp:z4V Q s 1 []=decide (q=1):=by
   unfold z4V;rw[ht];show(decide (t.1.kind=1)&&(decide (([]:List UInt8)=[])||decide (t.1.text=[])))=_;rw[hq,yb9 (rfl:([]:List UInt8)=[]),Bool.true_or,Bool.and_true]
  rw[hp];obtain⟨n,hn⟩:∃ n,Q.T.length=n:=⟨_,rfl⟩;obtain⟨i,hi⟩:∃ i,s.i=i:=⟨_,rfl⟩;rw[hn]at c0 hj hfew hii;rw[hi]at c1 hj e0 hii;clear hT ht h hn hi hp hq cf;have hji:(i:Int)+1<(n:Int):=by omega
  have hj0:(0:Int)<=(i:Int):=by omega
  by_cases hq4:q=1
  ·subst hq4;rw[yb9 rfl];go_enter Tryz.func77,Tryz.ntmps77;go_wp2;go_quiet (fail)
   go_wp2;go_ret;exact⟨rfl,below_drewN (yg9 _ _) _⟩
  ·have hn4:(q==1)=false:=by rw[yc9];exact hq4
   rw[ya9 hq4];clear hq4;go_enter Tryz.func77,Tryz.ntmps77;go_wp2;go_quiet (fail)
   go_wp2;go_ret;exact⟨rfl,below_drewN (yg9 _ _) _⟩
 ·have hp:z4V Q s 1 []=false:=by unfold z4V;rw[List.getElem?_eq_none (by omega)]
  rw[hp];obtain⟨n,hn⟩:∃ n,Q.T.length=n:=⟨_,rfl⟩;obtain⟨i,hi⟩:∃ i,s.i=i:=⟨_,rfl⟩;rw[hn]at c0 hj hfew hii;rw[hi]at c1 hj hii;have hji:decide ((i:Int)+1<(n:Int))=false:=by simp;omega
  have hj0:(0:Int)<=(i:Int):=by omega
  clear h hp hn hi cf;go_enter Tryz.func77,Tryz.ntmps77;go_wp2;go_quiet (fail)
  go_wp2;go_ret;exact⟨rfl,below_drewN (yg9 _ _) _⟩
theorem z9e{P:Program}{ops:Array Oper}{o:Oper}{a:Act}{W:World}{K:Act->World->Prop}{Q:Exit->Act->World->Prop}{E:Prop}
  (hg:o.guard=none) (s x:Operand) (t:TypeId) (hop:o.op=Op.call { callee:=Callee.builtin Builtin.append,args:=#[s,x],argTypes:=#[t,t] })
  (base:Nat) (e:TypeId) (i:TypeInfo) (z:Value) (size bytes:Nat) (ht:P.underlying t=some (.slice e)) (hi:P.info? e=some i) (hz:i.zero=some z)
  (hsize:i.size=size) (hby:i.bytes=bytes) (hzs:z.cells.size=size) (hsz:0<size)
  (v:Value) (n:Nat) (xs:List Value) (hs:a.eval s=v) (hown:W.ownsRow base e size v n xs)
  (ad:Addr) (m c:Nat) (news:List Value) (hx:a.eval x=.slice (some ad) m c) (hl:news.length=m*size) (hnews:∀ j u,news[j]?=some u->W.cell? (ad.add j)=some u) (h1:∀ u∈news,u.oneCell'=true)
  (h63:n+m<=maxLen) (hbytes:(n+m)*bytes<=140737488355328) (hbase:base<=W.heap.size)
  (h:∀ v' w',w'.ownsRow base e size v' (n+m) (xs++news)->W.grownBy w' v.ownBlock->K (a.put o.dst v') w'):
  if Region.wanted o (yielded ops a.tmps)=true then Oper.wp P o a W K Q else E:=by
 have hw:Region.wanted o (yielded ops a.tmps)=true:=by simp[Region.wanted,hg]
 rw[if_pos hw];exact wp_append_own W s x t hop base e i z size bytes ht hi hz hsize hby hzs hsz v n xs hs hown ad m c news hx hl hnews h1 h63 hbytes hbase (fun v' w' k1 k2 _=>h v' w' k1 k2)
theorem z9f(w:World)(a0 a1 a2 a3 a4 a5 a6 a7:Value)(t:TypeId):∀ j u,[a0,a1,a2,a3,a4,a5,a6,a7][j]?=some u->(w.alloc (.cells #[a0,a1,a2,a3,a4,a5,a6,a7] t)).cell? ((⟨w.heap.size,0,none⟩:Addr).add j)=some u:=by
 intro j u hj;have hp:(⟨w.heap.size,0,none⟩:Addr).add j=⟨w.heap.size,j,none⟩:=by unfold Addr.add;split<;>simp_all
 rw[hp,cell_of_row _ _ j _ _ _ (heap_alloc_new w (.cells #[a0,a1,a2,a3,a4,a5,a6,a7] t))];simpa using hj
theorem z9g{w:World}{B:Nat}{e:TypeId}{size:Nat}{v:Value}{n:Nat}{xs:List Value}(h:w.ownsRow B e size v n xs):∀ g,v.ownBlock=some g->∃ cs,w.heap[g]?=some (.cells cs e (0,0)):=by
 intro g hg;rcases h.2 with ⟨rfl,_⟩|⟨g',cap,cur,rfl,_,hgg,_⟩
 ·simp[Value.ownBlock]at hg
 ·simp[Value.ownBlock]at hg;subst hg;exact⟨cur,hgg⟩
theorem z9h{w:World}{B B':Nat}{e e':TypeId}{size size':Nat}{v v':Value}{n n':Nat}{xs xs':List Value}(h:w.ownsRow B e size v n xs)(h':w.ownsRow B' e' size' v' n' xs')(he:e≠e'):v.ownBlock=none\/v.ownBlock≠v'.ownBlock:=by
 cases hv:v.ownBlock with
 | none=>exact .inl rfl
 | some k=>
  refine .inr fun e1=>he ?_;obtain⟨cs,h1⟩:=z9g h k hv;obtain⟨cs',h2⟩:=z9g h' k e1.symm;rw[h1]at h2;injection h2 with h2;injection h2 with _ h3 _
theorem z9i{H c:Nat}{X w5:World}{tv:Value}{n:Nat}{xs:List Value}(ho:X.ownsRow H 34 8 tv n xs)(hg:X.grownBy w5 tv.ownBlock)(hX:H<=X.heap.size):z90 H c X w5:=by
 refine⟨hg.os,hg.tape,hg.output,hg.size,fun k hk _=>hg.block k (by omega) (fun e=>?_),fun k hk _ hnn=>hg.block k hk (fun e=>?_)⟩
 ·have:=(ho.lt k e.symm).1;omega
 ·obtain⟨cs,h1⟩:=z9g ho k e.symm;exact hnn cs (0,0) h1
theorem z9j{Q:PIn}{c H:Nat}{A:Nat->Prop}{tk tv tv':Value}{s:PS}{w W0 X w5:World}{p:z4Q}{lv nv:Value}{xs:List Value}(hh:z8V Q c H A tk tv s W0)(hbw:Below w.heap.size w W0)(hHw:H<=w.heap.size)(hb:Below W0.heap.size W0 X)
  (ho1:W0.ownsRow H 34 8 tv s.tree.length xs) (ho2:∀(q:Nat) (p:z4Q),s.tree[q]?=some p->z8T W0 H A xs q p) (hla:∀ g,lv.ownBlock=some g->¬ A g) (hna:∀ g,nv.ownBlock=some g->¬ A g) (hl:W0.ownsRow H 3 1 lv p.list.length (p.list.map (Value.int .i64))) (hn:W0.ownsRow H 9 1 nv p.names.length (p.names.map Value.string))
  (hg:X.grownBy w5 tv.ownBlock) (ho5:w5.ownsRow H 34 8 tv' (s.tree.length+1) (xs++z4R p lv nv)):
  z8V Q c H A tk tv' (addP s p) (w5.setCell ⟨c,3,none⟩ tv')/\z90 H c w (w5.setCell ⟨c,3,none⟩ tv'):=by
 have k:=hh.below hb;have hkw:=k.hw;have hch:=k.ch;have hoX:=z8B ho1 hb;have st:=z9i (c:=c) hoX hg hkw;have ne:∀ j,j<H->some j≠tv.ownBlock:=fun j hj e=>by
  have:=(hoX.lt j e.symm).1;omega
 have hsz:=hg.size;refine⟨⟨?_,?_,?_,fun g hg'=>by have:=k.early g hg';simp;omega,hch,by simp;omega,k.few,k.i,k.depth⟩,((z90.of_below hbw hHw).trans ((z90.of_below hb hh.hw).trans st)).trans (z90.of_set 3 tv')⟩
 ·have e:w5.heap[c]?=_:=(hg.block c (by omega) (ne c hch)).trans k.blk
  rw[heap_setCell_same w5 c 3 _ _ tv' e];rfl
 ·obtain⟨x,cap,e,kk⟩:=k.toks;refine⟨x,cap,e,fun h0=>?_⟩;obtain⟨g,e1,e2,e3,e4⟩:=kk h0;refine⟨g,e1,e2,e3,fun i t hti=>?_⟩;have:=(e4 i t hti).kept (hg.block g (by omega) (ne g e2))
  exact this.kept (heap_setCell_other w5 ⟨c,3,none⟩ g tv' e3)
 ·have up:∀(e:TypeId) (v:Value) (n:Nat) (ys:List Value),e≠34->W0.ownsRow H e 1 v n ys->(w5.setCell ⟨c,3,none⟩ tv').ownsRow H e 1 v n ys:=fun e v n ys he ho=>
   ownsRow_setCell_below ((z8B ho hb).kept hg (z9h (z8B ho hb) hoX he)) (a:=⟨c,3,none⟩) hch tv'
  have hlx:xs.length=s.tree.length*8:=ho1.1;refine⟨xs++z4R p lv nv,?_,fun q p' hq=>?_⟩
  ·have el:(addP s p).tree.length=s.tree.length+1:=by show(s.tree++[p]).length=_;simp
   rw[el];exact ownsRow_setCell_below ho5 (a:=⟨c,3,none⟩) hch tv'
  ·have hq':(s.tree++[p])[q]?=some p':=hq;rcases Nat.lt_or_ge q s.tree.length with h'|h'
   ·rw[List.getElem?_append_left h']at hq';obtain⟨l1,n1,k1,k2,k3,k4⟩:=ho2 q p' hq';refine⟨l1,n1,fun j u hu=>?_,up _ _ _ _ (by decide) k2,up _ _ _ _ (by decide) k3,k4⟩
    have hj8:j<8:=(List.getElem?_eq_some_iff.1 hu).1;rw[List.getElem?_append_left (by omega)]
    exact k1 j u hu
   ·rw[List.getElem?_append_right h']at hq';have e0:q-s.tree.length=0:=by
     rcases Nat.eq_zero_or_pos (q-s.tree.length)with e|e
     ·exact e
     ·rw[List.getElem?_eq_none (by simp;omega)]at hq'
      cases hq'
    rw[e0]at hq';simp at hq';subst hq';refine⟨lv,nv,fun j u hu=>?_,up _ _ _ _ (by decide) hl,up _ _ _ _ (by decide) hn,hla,hna⟩
    rw[List.getElem?_append_right (by omega)]
    have e2:q*8+j-xs.length=j:=by
     have:q=s.tree.length:=by omega
     rw[hlx,this];omega
    rw[e2];exact hu
theorem z9k{Q:PIn}{c H:Nat}{A:Nat->Prop}{tk tv:Value}{s:PS}{w:World}(p:z4Q)(lv nv:Value)(h:z8V Q c H A tk tv s w)(hl:w.ownsRow H 3 1 lv p.list.length (p.list.map (Value.int .i64)))(hn:w.ownsRow H 9 1 nv p.names.length (p.names.map Value.string))(hla:∀ g,lv.ownBlock=some g->¬ A g)(hna:∀ g,nv.ownBlock=some g->¬ A g)(hfew:s.tree.length<=10000):
  Calls Tryz.prog 26 #[.pointer (some ⟨c,0,none⟩),.agg #[.int .i64 p.kind,.int .i64 p.a,.int .i64 p.b,.int .i64 p.c,lv,nv,.int .u64 (p.num:Int),.int .i64 p.pos]] w fun e w'=>∃ tv',e=.returned (.int .i64 (s.tree.length:Int))/\z8V Q c H A tk tv' (addP s p) w'/\z90 H c w w':=by
 obtain⟨la,lc,rfl⟩:=z8A hl;obtain⟨na,nc,rfl⟩:=z8A hn;have hb0:Below w.heap.size w (w.alloc (.cells #[.int .i64 p.kind,.int .i64 p.a,.int .i64 p.b,.int .i64 p.c,.slice la p.list.length lc,.slice na p.names.length nc,.int .u64 (p.num:Int),.int .i64 p.pos] 34)):=(yg9 _ _).alloc (yf9 _) _;have hB:=heap_alloc_new w (.cells #[.int .i64 p.kind,.int .i64 p.a,.int .i64 p.b,.int .i64 p.c,.slice la p.list.length lc,.slice na p.names.length nc,.int .u64 (p.num:Int),.int .i64 p.pos] 34);have h0:=h.below hb0;have hz:(w.alloc (.cells #[.int .i64 p.kind,.int .i64 p.a,.int .i64 p.b,.int .i64 p.c,.slice la p.list.length lc,.slice na p.names.length nc,.int .u64 (p.num:Int),.int .i64 p.pos] 34)).heap.size=w.heap.size+1:=by simp
 obtain⟨W0,hW0⟩:∃ W,w.alloc (.cells #[.int .i64 p.kind,.int .i64 p.a,.int .i64 p.b,.int .i64 p.c,.slice la p.list.length lc,.slice na p.names.length nc,.int .u64 (p.num:Int),.int .i64 p.pos] 34)=W:=⟨_,rfl⟩;rw[hW0]at hB h0 hz hb0;obtain⟨x0,x1,x2,x3,x4,x5,x6,x7⟩:=z8C hB;obtain⟨c0,c1,c3,c4,c5,cf⟩:=h0.cells;obtain⟨xs,ho1,ho2⟩:=h0.tree;obtain⟨i0,hi,hz0,hz1,hz2⟩:=z8y Tryz.infoNode9;have hw:=h0.hw;have hch:=h0.ch;have hcl:c<W0.heap.size:=by omega
 have c3a:∀ o,(W0.alloc o).cell? ⟨c,3,none⟩=some tv:=fun o=>(((yg9 W0.heap.size W0).alloc (yf9 _) o).cell (p:=⟨c,3,none⟩) hcl).trans c3;have hl0:=z8B hl hb0;have hn0:=z8B hn hb0;have HH:Hid (z8V Q c H A tk tv s W0):=h0;have HB0:Hid (Below w.heap.size w W0):=hb0;have HW:Hid (H<=w.heap.size):=h.hw;have HLA:Hid (∀ g,Value.ownBlock (.slice la p.list.length lc)=some g->¬ A g):=hla;have HNA:Hid (∀ g,Value.ownBlock (.slice na p.names.length nc)=some g->¬ A g):=hna;clear h h0 hl hn hb0 hB hla hna;go_enter Tryz.func26,Tryz.ntmps26;go_upto_region 1 with fail;try simp only[hW0]
 clear hW0;obtain⟨G,hG⟩:∃ G,w.heap.size=G:=⟨_,rfl⟩;simp only[hG]at x0 x1 x2 x3 x4 x5 x6 x7 hz ⊢;have hone:∀ u∈[Value.int .i64 p.kind,.int .i64 p.a,.int .i64 p.b,.int .i64 p.c,.slice la p.list.length lc,.slice na p.names.length nc,.int .u64 (p.num:Int),.int .i64 p.pos],u.oneCell'=true:=by
  intro u hu;simp only[List.mem_cons,List.not_mem_nil,or_false]at hu;rcases hu with rfl|rfl|rfl|rfl|rfl|rfl|rfl|rfl<;>rfl
 have h63:s.tree.length+1<=maxLen:=by unfold maxLen;omega
 have hby:(s.tree.length+1)*96<=140737488355328:=by omega
 have HNG:Hid (∀(X w5:World),X.grownBy w5 tv.ownBlock->Below W0.heap.size W0 X->w5.cell? ⟨c,3,none⟩=some tv/\w5.frozen? ⟨c,3,none⟩=false):=fun X w5 hg hb=>by
  have k:=HH.out.below hb;have hkw:=k.hw;have e:w5.heap[c]?=X.heap[c]?:=hg.block c (by omega) (fun e=>by
   have:=(k.tree.choose_spec.1).lt c e.symm;omega)
  have hb5:=e.trans k.blk;exact⟨(z8W hb5).2.2.2.1,frozen_of_row w5 c 3 _ _ hb5⟩
 go_region_law (refine z9e rfl _ _ 24 rfl H 34 i0 _ 8 96 Tryz.underlying24 hi hz0 hz1 hz2 rfl (by decide) _ s.tree.length xs rfl (by first|exact ho1.alloc _|exact ho1.drew.alloc _|exact(ho1.alloc _).drew) _ 1 1 [.int .i64 p.kind,.int .i64 p.a,.int .i64 p.b,.int .i64 p.c,.slice la p.list.length lc,.slice na p.names.length nc,.int .u64 (p.num:Int),.int .i64 p.pos] rfl rfl (by first|exact z9f _ _ _ _ _ _ _ _ _ _|(intro j u hj;rw[←hz];exact z9f W0 _ _ _ _ _ _ _ _ _ j u hj)|(intro j u hj;exact z9f W0.drew _ _ _ _ _ _ _ _ _ j u hj)) hone h63 hby (by simp;omega) ?_;intro v' w5 ho5 hg5;obtain⟨va,vc,rfl⟩:=z8A ho5;have hcc:=HNG.out _ _ hg5 (by first|exact Below.alloc (yg9 _ _) (yf9 _) _|exact((yg9 _ _).alloc (yf9 _) _).drew|exact(yg9 _ _).drew.alloc (yf9 _) _);obtain⟨cc3,ccf⟩:=hcc)
 all_goals
  have HE:Hid (z8V Q c H A tk (.slice va (s.tree.length+1) vc) (addP s p) (w5.setCell ⟨c,3,none⟩ (.slice va (s.tree.length+1) vc))/\z90 H c w (w5.setCell ⟨c,3,none⟩ (.slice va (s.tree.length+1) vc))):=z9j HH.out HB0.out HW.out (by first|exact Below.alloc (yg9 _ _) (yf9 _) _|exact((yg9 _ _).alloc (yf9 _) _).drew|exact(yg9 _ _).drew.alloc (yf9 _) _) ho1 ho2 HLA.out HNA.out hl0 hn0 hg5 ho5
  obtain⟨_,_,d3,_,_,_⟩:=HE.out.1.cells;obtain⟨W6,hW6⟩:∃ W,w5.setCell ⟨c,3,none⟩ (.slice va (s.tree.length+1) vc)=W:=⟨_,rfl⟩;rw[hW6]at d3 HE;simp only[hW6];clear hW6 ho1 ho2 hl0 hn0 ho5 hg5 HNG HH HB0 HW x0 x1 x2 x3 x4 x5 x6 x7 c0 c1 c3 c4 c5 cf c3a hone cc3 ccf;have e2:((s.tree.length+1:Nat):Int)-1=(s.tree.length:Int):=by omega
  go_wp2;go_ret;exact⟨_,z00 (by omega),HE.out.1,HE.out.2⟩
