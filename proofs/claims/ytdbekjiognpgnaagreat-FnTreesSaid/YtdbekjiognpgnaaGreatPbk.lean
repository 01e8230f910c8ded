/- Part 37. -/
import Derived.Test.YtdbekjiognpgnaaGreatPbj
import Derived.Deep.RegionHeld3
set_option maxHeartbeats 16000000
set_option maxRecDepth 100000
set_option linter.unusedVariables false
namespace Go.Proofs.YtdbekjiognpgnaaGreat
open Go.RowKit Go.Sort
theorem zc6{Q:PIn}{c H:Nat}{A:Nat->Prop}{tk v:Value}{t:PS}{W:World}(hl:t.i<Q.T.length)(k:z8V Q c H A tk v t W):z8V Q c H A tk v (z4W t) (W.setCell ⟨c,1,none⟩ (.int .i64 ((t.i:Int)+1)))/\z90 H c W (W.setCell ⟨c,1,none⟩ (.int .i64 ((t.i:Int)+1)))/\W.cell? ⟨c,1,none⟩=some (.int .i64 (t.i:Int))/\W.frozen? ⟨c,1,none⟩=false/\(t.i:Int)<=200:=by
 obtain⟨k1,k2⟩:=k.step hl;obtain⟨_,g1,_,_,_,gf⟩:=k.cells;exact⟨k1,k2,g1,gf 1,by have:=k.few;omega⟩
theorem zc7{n:Nat}(ih:zbF n){Q:PIn}{c H:Nat}{A:Nat->Prop}{tk tv:Value}{s:PS}{w:World}(p:Int)(hif:isP Q s [105,102]=true)(h:z8V Q c H A tk tv s w)(hf:Fit Q (n+1) (.cond p) s):
  Calls Tryz.prog 81 #[.pointer (some ⟨c,0,none⟩),.int .i64 p] w (zbE Q c H A tk w (run Q (n+1) (.cond p) s)):=by
 have hneed:=hf.need;have hwt:=hf.all;have hdep:=hf.depth;simp only[z5Q,z5P]at hneed;have hs:=z5b hif;have l1:=(z5d hs).most h.i;have r1:=z5O (z5d hs) (z5z hs.1) (yf9 _) h.i hs.1;have w1:=z6y hs;have l2:=(z5e Q (z4W s) [40]).most l1;have r2:=z5N (z5e Q (z4W s) [40]);have w2:=z6s Q (z4W s) [40];have FA:Fit Q n (.level 0) (z4X Q (z4W s) [40]):=zbC (by simp only[z5Q,z5P];omega) (by rw[z5f];exact hdep) (by simp only[z6E];omega)
 have lA:=z5x Q n (.level 0) (z4X Q (z4W s) [40]) (by intro p e;cases e)
 have l3:=lA.most l2;have r3:=z5N lA;have w3:=(z6F Q n (.level 0) (z4X Q (z4W s) [40]) (by intro p e;cases e) l2).all
 have l4:=(z5e Q (run Q n (.level 0) (z4X Q (z4W s) [40])).2.2 [41]).most l3;have r4:=z5N (z5e Q (run Q n (.level 0) (z4X Q (z4W s) [40])).2.2 [41]);have w4:=z6s Q (run Q n (.level 0) (z4X Q (z4W s) [40])).2.2 [41];simp only[z6E]at w3;have FB:Fit Q n .block (z4X Q (run Q n (.level 0) (z4X Q (z4W s) [40])).2.2 [41]):=zbC (by simp only[z5Q,z5P];omega) (by rw[z5f,z5y,z5f];exact hdep) (by simp only[z6E];omega)
 have lB:=z5x Q n .block (z4X Q (run Q n (.level 0) (z4X Q (z4W s) [40])).2.2 [41]) (by intro p e;cases e)
 have l5:=lB.most l4;have r5:=z5N lB;have w5:=(z6F Q n .block (z4X Q (run Q n (.level 0) (z4X Q (z4W s) [40])).2.2 [41]) (by intro p e;cases e) l4).all
 simp only[z6E]at w5;have d5:(run Q n .block (z4X Q (run Q n (.level 0) (z4X Q (z4W s) [40])).2.2 [41])).2.2.depth=s.depth:=by rw[z5y,z5f,z5y,z5f];rfl
 obtain⟨T1,hT1⟩:∃ T,z4X Q (z4W s) [40]=T:=⟨_,rfl⟩;have e0:run Q (n+1) (.cond p) s=(let a:=run Q n (.level 0) T1
  let b:=run Q n .block (z4X Q a.2.2 [41])
  if isP Q b.2.2 [101,108,115,101]=true then
   let s4:=z4W b.2.2
   let o:=if isP Q s4 [105,102]=true then run Q n .stmt s4 else run Q n .block s4
   endN o.2.2 ⟨23,a.1,b.1,o.1,[],[],0,p⟩
  else endN b.2.2 ⟨23,a.1,b.1,-1,[],[],0,p⟩):=by rw[←hT1,run]
 rw[e0];simp only;rw[hT1]at FA FB l5 r5 w5 d5 w3 w4 r3 r4 l3 l4 r2 w2 l2 lA lB;obtain⟨a,ha⟩:∃ a,run Q n (.level 0) T1=a:=⟨_,rfl⟩;rw[ha]at FB l5 r5 w5 d5 w3 w4 r3 r4 l3 l4 lA lB;simp only[ha];obtain⟨T2,hT2⟩:∃ T,z4X Q a.2.2 [41]=T:=⟨_,rfl⟩;rw[hT2]at FB l5 r5 w5 d5 w4 r4 l4 lB;simp only[hT2];obtain⟨b,hb⟩:∃ b,run Q n .block T2=b:=⟨_,rfl⟩;rw[hb]at l5 r5 w5 d5 lB;simp only[hb];have cA:=fun(W:World) (v:Value) (k:z8V Q c H A tk v T1 W)=>zbI ih k FA;have cB:=fun(W:World) (v:Value) (k:z8V Q c H A tk v T2 W)=>ih.block k FB;rw[ha]at cA;rw[hb]at cB;have cT1:∀(W:World) (v:Value),z8V Q c H A tk v (z4W s) W->Calls Tryz.prog 79 #[.pointer (some ⟨c,0,none⟩),.string ⟨#[40]⟩] W fun e w'=>e=.returned (.tuple #[])/\z8V Q c H A tk v T1 w'/\z90 H c W w':=fun W v k=>by
  have:=z98 ⟨#[40]⟩ k;have e:z4X Q (z4W s) (⟨#[40]⟩:ByteArray).data.toList=T1:=hT1;rw[e]at this;exact this
 have cT2:∀(W:World) (v:Value),z8V Q c H A tk v a.2.2 W->Calls Tryz.prog 79 #[.pointer (some ⟨c,0,none⟩),.string ⟨#[41]⟩] W fun e w'=>e=.returned (.tuple #[])/\z8V Q c H A tk v T2 w'/\z90 H c W w':=fun W v k=>by
  have:=z98 ⟨#[41]⟩ k;have e:z4X Q a.2.2 (⟨#[41]⟩:ByteArray).data.toList=T2:=hT2;rw[e]at this;exact this
 have cE:∀(W:World) (v:Value),z8V Q c H A tk v b.2.2 W->Calls Tryz.prog 74 #[.pointer (some ⟨c,0,none⟩),.string ⟨#[101,108,115,101]⟩] W fun e w'=>e=.returned (.bool (isP Q b.2.2 [101,108,115,101]))/\Below W.heap.size W w':=fun W v k=>z96 ⟨#[101,108,115,101]⟩ k;obtain⟨m1,m2,m3,m4,m5⟩:=zc6 hs.2 h;obtain⟨S1,hS1⟩:∃ S,z4W s=S:=⟨_,rfl⟩;rw[hS1]at m1 cT1;obtain⟨j,hj⟩:∃ j,s.i=j:=⟨_,rfl⟩;rw[hj]at m1 m2 m3 m5;have HB:Hid (b.2.2.i<=Q.T.length/\wt Q b.2.2<=8992/\30*z5M Q b.2.2+31<=n+1/\b.2.2.depth<=24):=⟨l5,by omega,by omega,by omega⟩
 clear FA FB l5 r5 w5 d5 w3 w4 r3 r4 l3 l4 lA lB r2 w2 l2 r1 w1 l1 hneed hwt hdep hf e0 hT1 hT2 ha hb hS1 hj hif hs h;by_cases hel:isP Q b.2.2 [101,108,115,101]=true
 ·rw[if_pos hel];have hs6:=z5b hel;simp only[hel]at cE;have l6:=(z5d hs6).most HB.out.1;have r6:=z5O (z5d hs6) (z5z hs6.1) (yf9 _) HB.out.1 hs6.1;have w6:=z6y hs6;have hd6:(z4W b.2.2).depth<=24:=HB.out.2.2.2;have hb1:=HB.out.2.1;have hb2:=HB.out.2.2.1;have FSt:Fit Q n .stmt (z4W b.2.2):=zbC (by simp only[z5Q,z5P];omega) hd6 (by simp only[z6E];omega)
  have FK:Fit Q n .block (z4W b.2.2):=zbC (by simp only[z5Q,z5P];omega) hd6 (by simp only[z6E];omega)
  have HSM:Hid (∀ W v,z8V Q c H A tk v b.2.2 W->z8V Q c H A tk v (z4W b.2.2) (W.setCell ⟨c,1,none⟩ (.int .i64 ((b.2.2.i:Int)+1)))/\z90 H c W (W.setCell ⟨c,1,none⟩ (.int .i64 ((b.2.2.i:Int)+1)))/\W.cell? ⟨c,1,none⟩=some (.int .i64 (b.2.2.i:Int))/\W.frozen? ⟨c,1,none⟩=false/\(b.2.2.i:Int)<=200):=fun W v k=>zc6 hs6.2 k;have cF:∀(W:World) (v:Value),z8V Q c H A tk v (z4W b.2.2) W->Calls Tryz.prog 74 #[.pointer (some ⟨c,0,none⟩),.string ⟨#[105,102]⟩] W fun e w'=>e=.returned (.bool (isP Q (z4W b.2.2) [105,102]))/\Below W.heap.size W w':=fun W v k=>z96 ⟨#[105,102]⟩ k;have cS:=fun(W:World) (v:Value) (k:z8V Q c H A tk v (z4W b.2.2) W)=>ih.stmt k FSt;have cK:=fun(W:World) (v:Value) (k:z8V Q c H A tk v (z4W b.2.2) W)=>ih.block k FK;have wS:=(z6F Q n .stmt (z4W b.2.2) (by intro p e;cases e) l6).all
  have wK:=(z6F Q n .block (z4W b.2.2) (by intro p e;cases e) l6).all
  simp only[z6E]at wS wK;have HFW:Hid ((run Q n .stmt (z4W b.2.2)).2.2.tree.length<=10000/\(run Q n .block (z4W b.2.2)).2.2.tree.length<=10000):=⟨zbD (Q:=Q) (by omega),zbD (Q:=Q) (by omega)⟩
  obtain⟨S2,hS2⟩:∃ S,z4W b.2.2=S:=⟨_,rfl⟩;rw[hS2]at HSM cF cS cK HFW ⊢;obtain⟨i2,hi2⟩:∃ i,b.2.2.i=i:=⟨_,rfl⟩;rw[hi2]at HSM;clear hel hs6 l6 r6 w6 hd6 hb1 hb2 FSt FK wS wK hS2 hi2 HB;by_cases hif2:isP Q S2 [105,102]=true
  ·rw[if_pos hif2];simp only[hif2]at cF;obtain⟨o,ho⟩:∃ o,run Q n .stmt S2=o:=⟨_,rfl⟩;rw[ho]at cS HFW ⊢;clear hif2 ho cK;go_enter Tryz.func81,Tryz.ntmps81;go_wp2_with fail;refine(cT1 _ _ m1).mono ?_;rintro e w2 ⟨rfl,p2,q2⟩;have P2:=m2.trans q2;clear m1 m2 m3 m4 q2 cT1;go_wp2_with fail;refine(cA _ _ p2).mono ?_;rintro e w3 ⟨tv3,rfl,p3,q3⟩;have P3:=P2.trans q3;clear p2 P2 q3 cA;go_wp2_with fail;refine(cT2 _ _ p3).mono ?_;rintro e w4 ⟨rfl,p4,q4⟩;have P4:=P3.trans q4;clear p3 P3 q4 cT2;go_wp2_with fail;refine(cB _ _ p4).mono ?_;rintro e w5 ⟨tv5,rfl,p5,q5⟩;have P5:=P4.trans q5;clear p4 P4 q5 cB;have cE1:=cE _ _ p5;go_wp2_with fail;refine cE1.mono ?_;rintro e w6 ⟨rfl,b6⟩;have p6:=p5.below b6;have P6:=P5.trans (z90.of_below b6 p5.hw);obtain⟨k1,k2,k3,k4,k5⟩:=HSM.out _ _ p6;have P7:=P6.trans k2;clear p5 P5 b6 cE1 p6 P6 k2 HSM;have cF1:=cF _ _ k1;go_wp2_with fail;refine cF1.mono ?_;rintro e w8 ⟨rfl,b8⟩;have p8:=k1.below b8;have P8:=P7.trans (z90.of_below b8 k1.hw);have cS1:=cS _ _ p8;clear k1 P7 b8 cF1 p8 cS k3 k4;go_wp2_with fail;refine cS1.mono ?_;rintro e w9 ⟨tv9,rfl,p9,q9⟩;have P9:=P8.trans q9;have cX:=zbH 23 a.1 b.1 o.1 p p9 HFW.out.1;clear cS1 q9 P8 p9;go_wp2_with fail;refine cX.mono ?_;rintro e wA ⟨tvA,rfl,pA,qA⟩;have HE:Hid (z8V Q c H A tk tvA (addP o.2.2 ⟨23,a.1,b.1,o.1,[],[],0,p⟩) wA/\z90 H c w wA):=⟨pA,P9.trans qA⟩;clear cX pA qA P9;go_wp2;go_ret;exact⟨tvA,rfl,HE.out.1,HE.out.2⟩
  ·rw[if_neg hif2];have hif3:isP Q S2 [105,102]=false:=by simpa using hif2
   simp only[hif3]at cF;obtain⟨o,ho⟩:∃ o,run Q n .block S2=o:=⟨_,rfl⟩;rw[ho]at cK HFW ⊢;clear hif2 hif3 ho cS;go_enter Tryz.func81,Tryz.ntmps81;go_wp2_with fail;refine(cT1 _ _ m1).mono ?_;rintro e w2 ⟨rfl,p2,q2⟩;have P2:=m2.trans q2;clear m1 m2 m3 m4 q2 cT1;go_wp2_with fail;refine(cA _ _ p2).mono ?_;rintro e w3 ⟨tv3,rfl,p3,q3⟩;have P3:=P2.trans q3;clear p2 P2 q3 cA;go_wp2_with fail;refine(cT2 _ _ p3).mono ?_;rintro e w4 ⟨rfl,p4,q4⟩;have P4:=P3.trans q4;clear p3 P3 q4 cT2;go_wp2_with fail;refine(cB _ _ p4).mono ?_;rintro e w5 ⟨tv5,rfl,p5,q5⟩;have P5:=P4.trans q5;clear p4 P4 q5 cB;have cE1:=cE _ _ p5;go_wp2_with fail;refine cE1.mono ?_;rintro e w6 ⟨rfl,b6⟩;have p6:=p5.below b6;have P6:=P5.trans (z90.of_below b6 p5.hw);obtain⟨k1,k2,k3,k4,k5⟩:=HSM.out _ _ p6;have P7:=P6.trans k2;clear p5 P5 b6 cE1 p6 P6 k2 HSM;have cF1:=cF _ _ k1;go_wp2_with fail;refine cF1.mono ?_;rintro e w8 ⟨rfl,b8⟩;have p8:=k1.below b8;have P8:=P7.trans (z90.of_below b8 k1.hw);have cS1:=cK _ _ p8;clear k1 P7 b8 cF1 p8 cK k3 k4;go_wp2_with fail;refine cS1.mono ?_;rintro e w9 ⟨tv9,rfl,p9,q9⟩;have P9:=P8.trans q9;have cX:=zbH 23 a.1 b.1 o.1 p p9 HFW.out.2;clear cS1 q9 P8 p9;go_wp2_with fail;refine cX.mono ?_;rintro e wA ⟨tvA,rfl,pA,qA⟩;have HE:Hid (z8V Q c H A tk tvA (addP o.2.2 ⟨23,a.1,b.1,o.1,[],[],0,p⟩) wA/\z90 H c w wA):=⟨pA,P9.trans qA⟩;clear cX pA qA P9;go_wp2;go_ret;exact⟨tvA,rfl,HE.out.1,HE.out.2⟩
 ·rw[if_neg hel];have hel2:isP Q b.2.2 [101,108,115,101]=false:=by simpa using hel
  simp only[hel2]at cE;have HFW:Hid (b.2.2.tree.length<=10000):=zbD (Q:=Q) (by have:=HB.out.2.1;omega)
  clear hel hel2 HB;go_enter Tryz.func81,Tryz.ntmps81;go_wp2_with fail;refine(cT1 _ _ m1).mono ?_;rintro e w2 ⟨rfl,p2,q2⟩;have P2:=m2.trans q2;clear m1 m2 m3 m4 q2 cT1;go_wp2_with fail;refine(cA _ _ p2).mono ?_;rintro e w3 ⟨tv3,rfl,p3,q3⟩;have P3:=P2.trans q3;clear p2 P2 q3 cA;go_wp2_with fail;refine(cT2 _ _ p3).mono ?_;rintro e w4 ⟨rfl,p4,q4⟩;have P4:=P3.trans q4;clear p3 P3 q4 cT2;go_wp2_with fail;refine(cB _ _ p4).mono ?_;rintro e w5 ⟨tv5,rfl,p5,q5⟩;have P5:=P4.trans q5;clear p4 P4 q5 cB;have cE1:=cE _ _ p5;go_wp2_with fail;refine cE1.mono ?_;rintro e w6 ⟨rfl,b6⟩;have p6:=p5.below b6;have P6:=P5.trans (z90.of_below b6 p5.hw);have cX:=zbH 23 a.1 b.1 (-1) p p6 HFW.out;clear p5 P5 b6 cE1 p6;go_wp2_with fail;refine cX.mono ?_;rintro e wA ⟨tvA,rfl,pA,qA⟩;have HE:Hid (z8V Q c H A tk tvA (addP b.2.2 ⟨23,a.1,b.1,-1,[],[],0,p⟩) wA/\z90 H c w wA):=⟨pA,P6.trans qA⟩;clear cX pA qA P6;go_wp2;go_ret;exact⟨tvA,rfl,HE.out.1,HE.out.2⟩
def zc8:List (List UInt8):=[[112,114,105,110,116],[114,101,116,117,114,110],[116,104,114,111,119]]
def zc9:List Int:=[22,25,26]
structure zca(w:World)(G:Nat):Prop where
 tx:zbY w G zc8
 ks:∀ j k,zc9[j]?=some k->w.cell? ⟨G+1,j,none⟩=some (.int .i64 k)
 lt:G+1<w.heap.size
theorem zbY.below{w w':World}{g:Nat}{xs:List (List UInt8)}(h:zbY w g xs)(hb:Below w.heap.size w w')(hg:g<w.heap.size):zbY w' g xs:=fun j y hj=>by
 rw[World.cell?_of_block (a:=⟨g,j,none⟩) (hb.block g hg)];exact h j y hj
theorem zca.below{w w':World}{G:Nat}(h:zca w G)(hb:Below w.heap.size w w'):zca w' G:=by
 refine⟨h.tx.below hb (by have:=h.lt;omega),fun j k hj=>?_,Nat.lt_of_lt_of_le h.lt hb.size⟩
 rw[World.cell?_of_block (a:=⟨G+1,j,none⟩) (hb.block (G+1) h.lt)];exact h.ks j k hj
theorem zcb(w:World):zca ((w.alloc (.cells (zc8.map fun y=>Value.string (txt y)).toArray 9)).alloc (.cells (zc9.map (Value.int .i64)).toArray 3)) w.heap.size:=by
 have hb:=(yg9 (w.alloc (.cells (zc8.map fun y=>Value.string (txt y)).toArray 9)).heap.size (w.alloc (.cells (zc8.map fun y=>Value.string (txt y)).toArray 9))).alloc (yf9 _) (.cells (zc9.map (Value.int .i64)).toArray 3);refine⟨(zbZ w zc8 9).below hb (by simp),fun j k hj=>?_,by simp⟩
 have e:w.heap.size+1=(w.alloc (.cells (zc8.map fun y=>Value.string (txt y)).toArray 9)).heap.size:=by simp
 rw[e,cell_of_row _ _ j _ _ _ (heap_alloc_new _ _)];simp[hj]
theorem zcc(w:World)(e:TypeId)(u:Value):(w.alloc (.cells #[u] e)).ownsRow w.heap.size e 1 (.slice (some ⟨w.heap.size,0,none⟩) 1 1) 1 [u]:=
 ⟨rfl,.inr ⟨w.heap.size,1,#[u],rfl,yf9 _,heap_alloc_new w _,yf9 _,by unfold maxLen;omega,rfl,rfl⟩⟩
theorem zcd{Q:PIn}{c H:Nat}{A:Nat->Prop}{tk tv:Value}{s:PS}{w:World}(k a b pos:Int)(x:ByteArray)(h:z8V Q c H A tk tv s w)(hfew:s.tree.length<=10000):
  Calls Tryz.prog 26 #[.pointer (some ⟨c,0,none⟩),.agg #[.int .i64 k,.int .i64 a,.int .i64 b,.int .i64 0,.slice none 0 0,.slice (some ⟨w.heap.size,0,none⟩) 1 1,.int .u64 0,.int .i64 pos]] (w.alloc (.cells #[.string x] 9)) fun e w'=>∃ tv',e=.returned (.int .i64 (s.tree.length:Int))/\z8V Q c H A tk tv' (addP s ⟨k,a,b,0,[],[x],0,pos⟩) w'/\z90 H c w w':=by
 have hb:=(yg9 w.heap.size w).alloc (yf9 _) (.cells #[.string x] 9);have hA:∀ g,(Value.slice (some ⟨w.heap.size,0,none⟩) 1 1).ownBlock=some g->¬ A g:=fun g hg ha=>by
  have e1:w.heap.size=g:=by simpa [Value.ownBlock] using hg
  have:=h.early g ha;omega
 refine(zbG k a b 0 pos [] [x] (.slice none 0 0) (.slice (some ⟨w.heap.size,0,none⟩) 1 1) (h.below hb) (World.ownsRow_nil _ H _ _) (z8E (zcc w 9 (.string x)) h.hw) (fun g hg=>by simp[Value.ownBlock]at hg) hA hfew).mono ?_
 rintro e w' ⟨tv',rfl,p,q⟩;exact⟨tv',rfl,p,(z90.of_below hb h.hw).trans q⟩
theorem zce{Q:PIn}{c H:Nat}{A:Nat->Prop}{tk:Value}{s:PS}{b:Bool}(x:ByteArray)(hx:isP Q s x.data.toList=b)(w:World)(tv:Value)(h:z8V Q c H A tk tv s w):
  Calls Tryz.prog 74 #[.pointer (some ⟨c,0,none⟩),.string x] w fun e w'=>e=.returned (.bool b)/\Below w.heap.size w w':=by
 rw[←hx];exact z96 x h
theorem zcf{Q:PIn}{c H:Nat}{A:Nat->Prop}{tk:Value}{s:PS}{b:Bool}(k:Int)(hx:z4U Q s k=b)(w:World)(tv:Value)(h:z8V Q c H A tk tv s w):
  Calls Tryz.prog 76 #[.pointer (some ⟨c,0,none⟩),.int .i64 k] w fun e w'=>e=.returned (.bool b)/\Below w.heap.size w w':=by
 rw[←hx];exact z8Y k h
theorem zcg{Q:PIn}{c H:Nat}{A:Nat->Prop}{tk:Value}{s t:PS}(x:ByteArray)(hx:z4X Q s x.data.toList=t)(w:World)(tv:Value)(h:z8V Q c H A tk tv s w):
  Calls Tryz.prog 79 #[.pointer (some ⟨c,0,none⟩),.string x] w fun e w'=>e=.returned (.tuple #[])/\z8V Q c H A tk tv t w'/\z90 H c w w':=by
 rw[←hx];exact z98 x h
theorem zch{Q:PIn}{c H:Nat}{A:Nat->Prop}{tk:Value}{s t:PS}(hx:z4Z Q s=t)(w:World)(tv:Value)(h:z8V Q c H A tk tv s w):
  Calls Tryz.prog 78 #[.pointer (some ⟨c,0,none⟩)] w fun e w'=>e=.returned (.string (z4Y Q s))/\z8V Q c H A tk tv t w'/\z90 H c w w':=by
 rw[←hx];exact z99 h
theorem zci{n:Nat}(ih:zbF n){Q:PIn}{c H:Nat}{A:Nat->Prop}{tk tv:Value}{s:PS}{w:World}(p:Int)(j:Nat)(y:List UInt8)(k:Int)(hy:zc8[j]?=some y)(hk:zc9[j]?=some k)(hif:isP Q s y=true)(hno:∀ i z,i<j->zc8[i]?=some z->isP Q s z=false)(h:z8V Q c H A tk tv s w)(hf:Fit Q (n+1) (.inner p) s):
  Calls Tryz.prog 49 #[.pointer (some ⟨c,0,none⟩),.int .i64 p] w (zbE Q c H A tk w (run Q n (.plain k p) (z4W s))):=by
 have hneed:=hf.need;have hwt:=hf.all;have hdep:=hf.depth;simp only[z5Q,z5P]at hneed;have hs:=z5b hif;have l1:=(z5d hs).most h.i;have r1:=z5O (z5d hs) (z5z hs.1) (yf9 _) h.i hs.1;have w1:=z6y hs;have FA:Fit Q n (.plain k p) (z4W s):=zbC (by simp only[z5Q,z5P];omega) hdep (by simp only[z6E];omega)
 have cA:=fun(W:World) (v:Value) (q:z8V Q c H A tk v (z4W s) W)=>ih.plain k p q FA;obtain⟨R,hR⟩:∃ R,run Q n (.plain k p) (z4W s)=R:=⟨_,rfl⟩;rw[hR]at cA ⊢;have HSM:Hid (∀ W v,z8V Q c H A tk v s W->z8V Q c H A tk v (z4W s) (W.setCell ⟨c,1,none⟩ (.int .i64 ((s.i:Int)+1)))/\z90 H c W (W.setCell ⟨c,1,none⟩ (.int .i64 ((s.i:Int)+1)))/\W.cell? ⟨c,1,none⟩=some (.int .i64 (s.i:Int))/\W.frozen? ⟨c,1,none⟩=false/\(s.i:Int)<=200):=fun W v q=>zc6 hs.2 q;have n0:=zcb w;have hb0:=((yg9 w.heap.size w).alloc (yf9 _) (.cells (zc8.map fun y=>Value.string (txt y)).toArray 9)).alloc (by simp) (.cells (zc9.map (Value.int .i64)).toArray 3)
 have p0:=h.below hb0;have P0:=z90.of_below (H:=H) (c:=c) hb0 h.hw;obtain⟨W,hW⟩:∃ W,w.alloc (.cells (zc8.map fun y=>Value.string (txt y)).toArray 9)=W:=⟨_,rfl⟩;rw[hW]at n0 p0 P0;obtain⟨X,hX⟩:∃ X,W.alloc (.cells (zc9.map (Value.int .i64)).toArray 3)=X:=⟨_,rfl⟩;rw[hX]at n0 p0 P0;have hW2:w.alloc (.cells #[.string ⟨#[112,114,105,110,116]⟩,.string ⟨#[114,101,116,117,114,110]⟩,.string ⟨#[116,104,114,111,119]⟩] 9)=W:=hW;have hX2:W.alloc (.cells #[.int .i64 22,.int .i64 25,.int .i64 26] 3)=X:=hX;have hWs:W.heap.size=w.heap.size+1:=by rw[←hW];simp
 obtain⟨G,hG⟩:∃ G,w.heap.size=G:=⟨_,rfl⟩;have hcG:c<G:=by have:=h.ch;have:=h.hw;omega
 rw[hG]at n0 hWs;have HJ:Hid (∀ i z,i<j->zc8[i]?=some z->isP Q s z=false):=hno;have hj3:j<3:=by
  rcases Nat.lt_or_ge j 3 with q|q
  ·exact q
  ·rw[List.getElem?_eq_none q]at hy;cases hy
 clear hneed hwt hdep hs l1 r1 w1 FA hf h hR hb0 hW hX hno ih;go_enter Tryz.func49,Tryz.ntmps49;go_upto_region 4 with fail;try simp only[hW2,hX2,hG,hWs]
 clear hW2 hX2 hWs;go_loopw [7] (fun v wr=>∃ i:Nat,v=.int .i64 (i:Int)/\i<=j/\z8V Q c H A tk tv s wr/\z90 H c w wr/\Hid (zca wr G)) (fun v _=>3-(intOf v).toNat)
 case atStart=>exact⟨0,rfl,by omega,p0,P0,n0⟩
 case round=>
  clear p0 P0 n0;obtain⟨i,rfl,hi,p0,P0,HN⟩:=hrel;have hi3:(i:Int)<3:=by omega
  have hi0:(0:Int)<=(i:Int):=by omega
  by_cases hij:i=j
  ·subst hij;have e1:=HN.out.tx i y hy;have e2:=HN.out.ks i k hk;have cI:=zce (b:=true) (txt y) (by rw[z6a];exact hif) wr tv p0
   obtain⟨z,hz⟩:∃ z,txt y=z:=⟨_,rfl⟩;rw[hz]at e1 cI;clear hz hy hif HJ hi;go_wp2_with fail;refine cI.mono ?_;rintro e w2 ⟨rfl,b2⟩;have p2:=p0.below b2;have P2:=P0.trans (z90.of_below b2 p0.hw);obtain⟨k1,k2,k3,k4,k5⟩:=HSM.out _ _ p2;have P3:=P2.trans k2;have cA1:=cA _ _ k1;have e3:(w2.setCell ⟨c,1,none⟩ (.int .i64 ((s.i:Int)+1))).cell? ⟨G+1,i,none⟩=some (.int .i64 k):=by
    rw[World.cell?_of_block (a:=⟨G+1,i,none⟩) (heap_setCell_other w2 ⟨c,1,none⟩ (G+1) _ (by show G+1≠c;omega))]
    exact(HN.out.below b2).ks i k hk
   clear cI p0 P0 b2 p2 P2 k2 k1 e1 e2 cA hk HN;go_wp2_with fail;refine cA1.mono ?_;rintro e w4 ⟨tv4,rfl,p4,q4⟩;have HE:Hid (z8V Q c H A tk tv4 R.2.2 w4/\z90 H c w w4):=⟨p4,P3.trans q4⟩;clear cA1 p4 q4 P3 e3 k3 k4;go_wp2;go_ret;exact⟨tv4,rfl,HE.out.1,HE.out.2⟩
  ·obtain⟨z,hz⟩:∃ z,zc8[i]?=some z:=⟨_,yd9 (by show i<3;omega)⟩
   have e1:=HN.out.tx i z hz;have cI:=zce (b:=false) (txt z) (by rw[z6a];exact HJ.out i z (by omega) hz) wr tv p0
   obtain⟨x,hx⟩:∃ x,txt z=x:=⟨_,rfl⟩;rw[hx]at e1 cI;clear hx hz hy hk hif HJ cA HSM;go_wp2_with fail;refine cI.mono ?_;rintro e w2 ⟨rfl,b2⟩;have HE:Hid (z8V Q c H A tk tv s w2/\z90 H c w w2/\zca w2 G):=⟨p0.below b2,P0.trans (z90.of_below b2 p0.hw),HN.out.below b2⟩;clear cI p0 P0 b2 e1 HN;go_wp2;go_roundw
   case rel=>exact⟨i+1,by go_num,by omega,HE.out.1,HE.out.2.1,HE.out.2.2⟩
   case measure=>simp[intOf];omega
def zcj:List (List UInt8):=[[116,114,117,101],[102,97,108,115,101],[110,111,110,101]]
theorem zck{Q:PIn}{c H:Nat}{A:Nat->Prop}{tk tv:Value}{t:PS}{w:World}(h:z8V Q c H A tk tv t w){g j cap:Nat}{tt:Tok × Nat}(htk:tk=.slice (some ⟨g,0,none⟩) Q.T.length cap)(ht:Q.T[j]?=some tt):
  w.cell? ⟨c,0,none⟩=some (.slice (some ⟨g,0,none⟩) Q.T.length cap)/\w.cell? ⟨c,1,none⟩=some (.int .i64 (t.i:Int))/\z8S w g (j*4) tt:=by
 obtain⟨hj,_⟩:=List.getElem?_eq_some_iff.1 ht;obtain⟨c0,c1,_⟩:=h.cells;obtain⟨g',cap',tt',e,ht',hT,_,_⟩:=h.tok hj;rw[htk]at e c0;cases e
 rw[ht]at ht';cases ht'
 exact⟨c0,c1,hT⟩
theorem zcl(Q:PIn){j:Nat}{tt:Tok × Nat}(ht:Q.T[j]?=some tt):tt.1.num<18446744073709551616:=Q.nums tt (List.mem_of_getElem? ht)
theorem zcm{Q:PIn}{c H:Nat}{A:Nat->Prop}{tk tv:Value}{s:PS}{w:World}(k pos:Int)(x:Nat)(h:z8V Q c H A tk tv s w)(hfew:s.tree.length<=10000):
  Calls Tryz.prog 26 #[.pointer (some ⟨c,0,none⟩),.agg #[.int .i64 k,.int .i64 0,.int .i64 0,.int .i64 0,.slice none 0 0,.slice none 0 0,.int .u64 (x:Int),.int .i64 pos]] w fun e w'=>∃ tv',e=.returned (.int .i64 (s.tree.length:Int))/\z8V Q c H A tk tv' (addP s ⟨k,0,0,0,[],[],x,pos⟩) w'/\z90 H c w w':=
 z9k ⟨k,0,0,0,[],[],x,pos⟩ (.slice none 0 0) (.slice none 0 0) h (World.ownsRow_nil w H _ _) (World.ownsRow_nil w H _ _) (fun g hg=>by simp[Value.ownBlock]at hg) (fun g hg=>by simp[Value.ownBlock]at hg) hfew
theorem zcn{Q:PIn}{c H:Nat}{A:Nat->Prop}{tk tv:Value}{s:PS}{w Y:World}(k pos:Int)(x:ByteArray)(h:z8V Q c H A tk tv s w)(hfew:s.tree.length<=10000)(hb:Below w.heap.size w Y)(hr:Y.ownsRow w.heap.size 9 1 (.slice (some ⟨w.heap.size,0,none⟩) 1 1) 1 [.string x]):
  Calls Tryz.prog 26 #[.pointer (some ⟨c,0,none⟩),.agg #[.int .i64 k,.int .i64 0,.int .i64 0,.int .i64 0,.slice none 0 0,.slice (some ⟨w.heap.size,0,none⟩) 1 1,.int .u64 0,.int .i64 pos]] Y fun e w'=>∃ tv',e=.returned (.int .i64 (s.tree.length:Int))/\z8V Q c H A tk tv' (addP s ⟨k,0,0,0,[],[x],0,pos⟩) w'/\z90 H c w w':=by
 have hA:∀ g,(Value.slice (some ⟨w.heap.size,0,none⟩) 1 1).ownBlock=some g->¬ A g:=fun g hg ha=>by
  have e1:w.heap.size=g:=by simpa [Value.ownBlock] using hg
  have:=h.early g ha;omega
 refine(zbG k 0 0 0 pos [] [x] (.slice none 0 0) (.slice (some ⟨w.heap.size,0,none⟩) 1 1) (h.below hb) (World.ownsRow_nil _ H _ _) (z8E hr h.hw) (fun g hg=>by simp[Value.ownBlock]at hg) hA hfew).mono ?_
 rintro e w' ⟨tv',rfl,p,q⟩;exact⟨tv',rfl,p,(z90.of_below hb h.hw).trans q⟩
theorem zco{n:Nat}{Q:PIn}{c H:Nat}{A:Nat->Prop}{tk tv:Value}{s:PS}{w:World}(j:Nat)(y:List UInt8)(k:Int)(hy:zcj[j]?=some y)(hk:k=3+(j:Int))(hif:isP Q s y=true)(hno:∀(i:Nat) (z:List UInt8),i<j->zcj[i]?=some z->isP Q s z=false)(h:z8V Q c H A tk tv s w)(hf:Fit Q (n+1) .first s):
  Calls Tryz.prog 121 #[.pointer (some ⟨c,0,none⟩)] w (zbE Q c H A tk w (endN (z4W s) ⟨k,0,0,0,[],[],0,z4T Q s⟩)):=by
 have hs:=z5b hif;have HFEW:Hid ((z4W s).tree.length<=10000):=by have:=hf.few;show s.tree.length<=10000;omega
 have HSM:Hid (∀ W v,z8V Q c H A tk v s W->z8V Q c H A tk v (z4W s) (W.setCell ⟨c,1,none⟩ (.int .i64 ((s.i:Int)+1)))/\z90 H c W (W.setCell ⟨c,1,none⟩ (.int .i64 ((s.i:Int)+1)))/\W.cell? ⟨c,1,none⟩=some (.int .i64 (s.i:Int))/\W.frozen? ⟨c,1,none⟩=false/\(s.i:Int)<=200):=fun W v q=>zc6 hs.2 q;have cP:=z8X h;obtain⟨P,hP⟩:∃ P,z4T Q s=P:=⟨_,rfl⟩;rw[hP]at cP ⊢;have HJ:Hid (∀(i:Nat) (z:List UInt8),i<j->zcj[i]?=some z->isP Q s z=false):=hno;have hj3:j<3:=by
  rcases Nat.lt_or_ge j 3 with q|q
  ·exact q
  ·rw[List.getElem?_eq_none q]at hy;cases hy
 clear hs hf hno hP;go_enter Tryz.func121,Tryz.ntmps121;go_wp2_with fail;refine cP.mono ?_;rintro e w1 ⟨rfl,b1⟩;have h1:=h.below b1;have Q1:=z90.of_below (H:=H) (c:=c) b1 h.hw;have n0:=zbZ w1 zcj 9;have hb0:=(yg9 w1.heap.size w1).alloc (yf9 _) (.cells (zcj.map fun y=>Value.string (txt y)).toArray 9);have p0:=h1.below hb0;have P0:=Q1.trans (z90.of_below hb0 h1.hw);have hXs:w1.heap.size<(w1.alloc (.cells (zcj.map fun y=>Value.string (txt y)).toArray 9)).heap.size:=by simp
 obtain⟨X,hX⟩:∃ X,w1.alloc (.cells (zcj.map fun y=>Value.string (txt y)).toArray 9)=X:=⟨_,rfl⟩;rw[hX]at n0 p0 P0 hXs;have hX2:w1.alloc (.cells #[.string ⟨#[116,114,117,101]⟩,.string ⟨#[102,97,108,115,101]⟩,.string ⟨#[110,111,110,101]⟩] 9)=X:=hX;obtain⟨G,hG⟩:∃ G,w1.heap.size=G:=⟨_,rfl⟩;rw[hG]at n0 hXs;have HN0:Hid (zbY X G zcj/\G<X.heap.size):=⟨n0,hXs⟩;clear cP b1 h Q1 h1 hb0 hX n0 hXs;go_upto_region 4 with fail;try simp only[hX2,hG]
 clear hX2;go_loopw [5] (fun v wr=>∃ i:Nat,v=.int .i64 (i:Int)/\i<=j/\z8V Q c H A tk tv s wr/\z90 H c w wr/\Hid (zbY wr G zcj/\G<wr.heap.size)) (fun v _=>3-(intOf v).toNat)
 case atStart=>exact⟨0,rfl,by omega,p0,P0,HN0⟩
 case round=>
  clear p0 P0 HN0;obtain⟨i,rfl,hi,p0,P0,HN⟩:=hrel;have hi3:(i:Int)<3:=by omega
  have hi0:(0:Int)<=(i:Int):=by omega
  by_cases hij:i=j
  ·subst hij;have e1:=HN.out.1 i y hy;have cI:=zce (b:=true) (txt y) (by rw[z6a];exact hif) wr tv p0
   obtain⟨z,hz⟩:∃ z,txt y=z:=⟨_,rfl⟩;rw[hz]at e1 cI;clear hz hy hif HJ hi HN;go_wp2_with fail;refine cI.mono ?_;rintro e w2 ⟨rfl,b2⟩;have p2:=p0.below b2;have P2:=P0.trans (z90.of_below b2 p0.hw);obtain⟨k1,k2,k3,k4,k5⟩:=HSM.out _ _ p2;have P3:=P2.trans k2;have cD:=zbH (3+(i:Int)) 0 0 0 P k1 HFEW.out;clear cI p0 P0 b2 p2 P2 k2 k1 e1;go_wp2_with fail;refine cD.mono ?_;rintro e w4 ⟨tv4,rfl,p4,q4⟩;have HE:Hid (z8V Q c H A tk tv4 (addP (z4W s) ⟨3+(i:Int),0,0,0,[],[],0,P⟩) w4/\z90 H c w w4):=⟨p4,P3.trans q4⟩;clear cD p4 q4 P3 k3 k4;go_wp2;go_ret;rw[hk];exact⟨tv4,rfl,HE.out.1,HE.out.2⟩
  ·obtain⟨z,hz⟩:∃ z,zcj[i]?=some z:=⟨_,yd9 (by show i<3;omega)⟩
   have e1:=HN.out.1 i z hz;have cI:=zce (b:=false) (txt z) (by rw[z6a];exact HJ.out i z (by omega) hz) wr tv p0
   obtain⟨x,hx⟩:∃ x,txt z=x:=⟨_,rfl⟩;rw[hx]at e1 cI;clear hx hz hy hif HJ HSM;go_wp2_with fail;refine cI.mono ?_;rintro e w2 ⟨rfl,b2⟩;have HE:Hid (z8V Q c H A tk tv s w2/\z90 H c w w2/\zbY w2 G zcj/\G<w2.heap.size):=⟨p0.below b2,P0.trans (z90.of_below b2 p0.hw),HN.out.1.below b2 HN.out.2,Nat.lt_of_lt_of_le HN.out.2 b2.size⟩;clear cI p0 P0 b2 e1 HN;go_wp2;go_roundw
   case rel=>exact⟨i+1,by go_num,by omega,HE.out.1,HE.out.2.1,HE.out.2.2⟩
   case measure=>simp[intOf];omega
