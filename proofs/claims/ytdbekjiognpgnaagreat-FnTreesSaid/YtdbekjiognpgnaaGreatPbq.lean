/- Part 43. -/
import Derived.Test.YtdbekjiognpgnaaGreatPbl
import Derived.Test.YtdbekjiognpgnaaGreatPbm
import Derived.Test.YtdbekjiognpgnaaGreatPbp
set_option maxHeartbeats 16000000
set_option maxRecDepth 100000
set_option linter.unusedVariables false
namespace Go.Proofs.YtdbekjiognpgnaaGreat
open Go.RowKit Go.Sort
structure LvAt(Q:PIn)(n k:Nat)(Y:Int × List Int × PS)(M:Nat)(x:Int)(t:PS):Prop where
 le:M<=n
 need:z5Q Q (.more k x) t<=M
 wt:wt Q t<=9000
 depth:t.depth<=24
 run:run Q M (.more k x) t=Y
def zcO(Q:PIn)(k:Nat)(x:Int)(t:PS)(r:Int):z4Q:=⟨if k=0 then 11 else if k=1 then 10 else 9,x,r,opN (tokP Q t).text,[],[],0,z4T Q t⟩
theorem zcP{Q:PIn}{n k M:Nat}{Y:Int × List Int × PS}{x:Int}{t:PS}(h:LvAt Q n k Y M x t)(hi:t.i<=Q.T.length)(hb:z4U Q t 4=true/\(tokP Q t).text∈z50 k):
  ∃ m,m<=n/\Fit Q m (.level (k+1)) (z4W t)/\(run Q m (.level (k+1)) (z4W t)).2.2.tree.length<=10000/\LvAt Q n k Y m (run Q m (.level (k+1)) (z4W t)).2.2.tree.length (addP (run Q m (.level (k+1)) (z4W t)).2.2 (zcO Q k x t (run Q m (.level (k+1)) (z4W t)).1))/\z5M Q (addP (run Q m (.level (k+1)) (z4W t)).2.2 (zcO Q k x t (run Q m (.level (k+1)) (z4W t)).1))<z5M Q t:=by
 have h1:=h.need;simp only[z5Q,z5P]at h1;obtain⟨m,rfl⟩:∃ m,M=m+1:=⟨M-1,by omega⟩
 have hs:=z5c hb.1;have l1:=(z5d hs).most hi;have r1:=z5O (z5d hs) (z5z hs.1) (yf9 _) hi hs.1;have w1:=z6y hs;have lA:=z5x Q m (.level (k+1)) (z4W t) (by intro p e;cases e)
 have wA:=(z6F Q m (.level (k+1)) (z4W t) (by intro p e;cases e) l1).all
 have rA:=z5N (lA.trans (z5k Q _ (zcO Q k x t (run Q m (.level (k+1)) (z4W t)).1)));have h2:=h.wt;have h3:=h.le;simp only[z6E]at wA;have wE:=z6n Q (run Q m (.level (k+1)) (z4W t)).2.2 (zcO Q k x t (run Q m (.level (k+1)) (z4W t)).1);have e:run Q (m+1) (.more k x) t=run Q m (.more k (run Q m (.level (k+1)) (z4W t)).2.2.tree.length) (addP (run Q m (.level (k+1)) (z4W t)).2.2 (zcO Q k x t (run Q m (.level (k+1)) (z4W t)).1)):=by
  rw[run,if_pos hb];rfl
 refine⟨m,by omega,zbC (by simp only[z5Q,z5P];omega) h.depth (by simp only[z6E];omega),zbD (Q:=Q) (by omega),⟨by omega,by simp only[z5Q,z5P];omega,by omega,?_,by rw[←e];exact h.run⟩,by omega⟩
 show(run Q m (.level (k+1)) (z4W t)).2.2.depth<=24;rw[z5y];exact h.depth
theorem zcQ{Q:PIn}{n k M:Nat}{Y:Int × List Int × PS}{x:Int}{t:PS}(h:LvAt Q n k Y M x t)(hb:¬ (z4U Q t 4=true/\(tokP Q t).text∈z50 k)):Y=(x,[],t):=by
 have h1:=h.need;simp only[z5Q,z5P]at h1;obtain⟨m,rfl⟩:∃ m,M=m+1:=⟨M-1,by omega⟩
 have:=h.run;rw[run,if_neg hb]at this;exact this.symm
theorem zcR{w:World}{g cap k:Nat}(x:ByteArray)(h:zbY w g (z50 k))(hl:(z50 k).length<=10):
  Calls Tryz.prog 64 #[.slice (some ⟨g,0,none⟩) (z50 k).length cap,.string x] w fun e w'=>e=.returned (.bool (decide (x.data.toList∈z50 k)))/\w=w':=
 z41 g cap (z50 k) x w (by omega) (fun j hj=>h j _ (yd9 hj))
theorem zcS(k:Nat):(z50 k).length<=10:=by
 match k with
 | 0=>decide
 | 1=>decide
 | 2=>decide
 | 3=>decide
 | 4=>decide
 | k+5=>exact(by decide:3<=10)
theorem zcT{n:Nat}(ih:∀ m,m<=n->zbF m){Q:PIn}{c H:Nat}{A:Nat->Prop}{tk tv:Value}{s:PS}{w:World}(k:Nat)(hk:k<=6)(h:z8V Q c H A tk tv s w)(hf:Fit Q (n+1) (.level k) s):
  Calls Tryz.prog 97 #[.pointer (some ⟨c,0,none⟩),.int .i64 (k:Int)] w (zbE Q c H A tk w (run Q (n+1) (.level k) s)):=by
 have hneed:=hf.need;have hwt:=hf.all;simp only[z5Q,z5P]at hneed;have hT:=h.few;by_cases h6:k=6
 ·subst h6;have e:run Q (n+1) (.level 6) s=run Q n .signed s:=by rw[run,if_pos rfl]
  rw[e];have cS:=(ih n (yf9 _)).signed h (zbC (by simp only[z5Q,z5P];omega) hf.depth (by simp only[z6E];omega))
  obtain⟨R,hR⟩:∃ R,run Q n .signed s=R:=⟨_,rfl⟩;rw[hR]at cS ⊢;clear h hf hneed hwt hT e hR ih;go_enter Tryz.func97,Tryz.ntmps97;go_wp2_with fail;refine cS.mono ?_;rintro e w1 ⟨tv1,rfl,p1,q1⟩;have HE:Hid (z8V Q c H A tk tv1 R.2.2 w1/\z90 H c w w1):=⟨p1,q1⟩;clear cS p1 q1;go_wp2;go_ret;exact⟨tv1,rfl,HE.out.1,HE.out.2⟩
 ·have hk5:k<=5:=by omega
  have cL:Calls Tryz.prog 97 #[.pointer (some ⟨c,0,none⟩),.int .i64 ((k:Int)+1)] w (zbE Q c H A tk w (run Q n (.level (k+1)) s)):=by
   have:=(ih n (yf9 _)).level (k+1) (by omega) h (zbC (by simp only[z5Q,z5P];omega) hf.depth (by simp only[z6E];omega))
   rw[show((k+1:Nat):Int)=(k:Int)+1 by omega]at this
   exact this
  have wF:=(z6F Q n (.level (k+1)) s (by intro p e;cases e) h.i).all
  have rF:=z5N (z5x Q n (.level (k+1)) s (by intro p e;cases e))
  simp only[z6E]at wF;have e:run Q (n+1) (.level k) s=run Q n (.more k (run Q n (.level (k+1)) s).1) (run Q n (.level (k+1)) s).2.2:=by rw[run,if_neg h6]
  rw[e];obtain⟨Y,hY⟩:∃ Y,run Q n (.more k (run Q n (.level (k+1)) s).1) (run Q n (.level (k+1)) s).2.2=Y:=⟨_,rfl⟩;have HY0:Hid (LvAt Q n k Y n (run Q n (.level (k+1)) s).1 (run Q n (.level (k+1)) s).2.2):=⟨yf9 _,by simp only[z5Q,z5P];omega,by omega,by rw[z5y];exact hf.depth,hY⟩
  rw[hY];obtain⟨R0,hR0⟩:∃ R,run Q n (.level (k+1)) s=R:=⟨_,rfl⟩;rw[hR0]at cL HY0;have hk6:((k:Int)==6)=false:=by rw[yc9];omega
  have hki:(k:Int)<=5:=by omega
  have hk0:(0:Int)<=(k:Int):=by omega
  have HLL:=zcS k;have HH6:Hid (¬ k=6):=h6;clear h hf hneed hwt wF rF e hY hR0 h6;go_enter Tryz.func97,Tryz.ntmps97;go_wp2_with fail;refine cL.mono ?_;rintro e w1 ⟨tv1,rfl,p1,q1⟩;clear cL;go_upto_region 4 with fail;go_loopw [5] (fun v wr=>∃(t:PS) (x:Int) (M:Nat) (tvv:Value),v=.int .i64 x/\z8V Q c H A tk tvv t wr/\z90 H c w wr/\Hid (LvAt Q n k Y M x t)) (fun _ wr=>parL Q c wr)
  case atStart=>exact⟨_,_,n,_,rfl,p1,q1,HY0⟩
  case round=>
   clear p1 q1 HY0;obtain⟨t,x,M,tvv,rfl,p0,P0,HM⟩:=hrel;have HPP:Hid (z8V Q c H A tk tvv t wr):=p0;obtain⟨_,_,_,_,d5,_⟩:=p0.cells;obtain⟨f,hf⟩:∃ f,t.fault=f:=⟨_,rfl⟩;rw[hf]at d5;have cK:=fun(W:World) (q:z8V Q c H A tk tvv t W)=>z8Y 4 q;have HG5:Hid (∀ W,Below wr.heap.size wr W->W.cell? ⟨c,5,none⟩=some (.int .i64 f)):=fun W b=>by
    obtain⟨_,_,_,_,g5,_⟩:=(p0.below b).cells;rw[hf]at g5;exact g5
   by_cases hkd:z4U Q t 4=true
   ·have hs:=z5c hkd;have hil:=hs.2;have hf0:f<0:=by rw[←hf];exact hs.1
    rw[hkd]at cK;obtain⟨g,cap,tt,rfl,htt,hTT,hgl,hgc⟩:=p0.tok hil;obtain⟨y,hy⟩:∃ y,txt tt.1.text=y:=⟨_,rfl⟩;have hyl:(tokP Q t).text=y.data.toList:=by unfold tokP;rw[htt,←hy,z6a]
    have HG:Hid (∀ W,Below wr.heap.size wr W->W.cell? ⟨c,0,none⟩=some (.slice (some ⟨g,0,none⟩) Q.T.length cap)/\W.cell? ⟨c,1,none⟩=some (.int .i64 (t.i:Int))/\W.cell? ⟨c,5,none⟩=some (.int .i64 f)/\W.cell? ⟨g,t.i*4+1,none⟩=some (.string y)):=fun W b=>by
     have q:=p0.below b;obtain⟨g0,g1,_,_,g5,_⟩:=q.cells;have e1:=(hTT.kept (b.block g hgl)).c1;rw[hy]at e1;rw[hf]at g5;exact⟨g0,g1,g5,e1⟩
    by_cases hin:(tokP Q t).text∈z50 k
    ·obtain⟨m,hm,FL,hfew,hnext,hlt⟩:=zcP HM.out p0.i ⟨hkd,hin⟩;obtain⟨R,hR⟩:∃ R,run Q m (.level (k+1)) (z4W t)=R:=⟨_,rfl⟩;have cL2:∀(W:World) (v:Value),z8V Q c H A (.slice (some ⟨g,0,none⟩) Q.T.length cap) v (z4W t) W->Calls Tryz.prog 97 #[.pointer (some ⟨c,0,none⟩),.int .i64 ((k:Int)+1)] W (zbE Q c H A (.slice (some ⟨g,0,none⟩) Q.T.length cap) W (run Q m (.level (k+1)) (z4W t))):=fun W v q=>by
      have:=(ih m hm).level (k+1) (by omega) q FL
      rw[show((k+1:Nat):Int)=(k:Int)+1 by omega]at this
      exact this
     rw[hR]at cL2 hfew hnext hlt;have hop:opN (tokP Q t).text=opN y.data.toList:=by rw[hyl]
     have HNX:Hid (R.2.2.tree.length<=10000/\LvAt Q n k Y m R.2.2.tree.length (addP R.2.2 ⟨if k=0 then 11 else if k=1 then 10 else 9,x,R.1,opN y.data.toList,[],[],0,z4T Q t⟩)/\z5M Q (addP R.2.2 ⟨if k=0 then 11 else if k=1 then 10 else 9,x,R.1,opN y.data.toList,[],[],0,z4T Q t⟩)<z5M Q t):=by
      unfold zcO at hnext hlt;rw[hop]at hnext hlt;exact⟨hfew,hnext,hlt⟩
     have HST:Hid (∀(W:World) (v:Value),z8V Q c H A (.slice (some ⟨g,0,none⟩) Q.T.length cap) v t W->z8V Q c H A (.slice (some ⟨g,0,none⟩) Q.T.length cap) v (z4W t) (W.setCell ⟨c,1,none⟩ (.int .i64 ((t.i:Int)+1)))/\z90 H c W (W.setCell ⟨c,1,none⟩ (.int .i64 ((t.i:Int)+1)))/\W.cell? ⟨c,1,none⟩=some (.int .i64 (t.i:Int))/\W.frozen? ⟨c,1,none⟩=false):=fun W v q=>by
      obtain⟨k1,k2⟩:=q.step hil;obtain⟨_,g1,_,_,_,gf⟩:=q.cells;exact⟨k1,k2,g1,gf 1⟩
     have cP:=fun(W:World) (v:Value) (q:z8V Q c H A (.slice (some ⟨g,0,none⟩) Q.T.length cap) v t W)=>z8X q;obtain⟨P,hP⟩:∃ P,z4T Q t=P:=⟨_,rfl⟩;rw[hP]at cP HNX;obtain⟨S,hS⟩:∃ S,z4W t=S:=⟨_,rfl⟩;rw[hS]at cL2 HST;have cO:=fun(W:World)=>zc5 y W;obtain⟨O,hO⟩:∃ O,opN y.data.toList=O:=⟨_,rfl⟩;rw[hO]at cO HNX;clear hm FL hfew hnext hlt hop hP hS hO hR;have hdec:decide (y.data.toList∈z50 k)=true:=by rw[←hyl];exact yb9 hin
     have cR:=fun(W:World) (gg cp:Nat) (r:zbY W gg (z50 k))=>zcR (cap:=cp) y r HLL;rw[hdec]at cR;have cV:=fun(W:World)=>zc0 k hk5 W;obtain⟨j,hj⟩:∃ j,t.i=j:=⟨_,rfl⟩;obtain⟨N,hN⟩:∃ N,Q.T.length=N:=⟨_,rfl⟩;rw[hj]at HG hil HST;rw[hN]at HG hil hT HST cP cL2;have hji:(j:Int)<(N:Int):=by omega
     have hj0:(0:Int)<=(j:Int):=by omega
     obtain⟨LL,hLL⟩:∃ L,(z50 k).length=L:=⟨_,rfl⟩;simp only[hLL]at cR cV;rw[hN]at cK HPP p0;have HG2:Hid (∀(W W2:World),Below wr.heap.size wr W->Below W.heap.size W W2->W2.cell? ⟨c,0,none⟩=some (.slice (some ⟨g,0,none⟩) N cap)/\W2.cell? ⟨c,1,none⟩=some (.int .i64 (j:Int))/\W2.cell? ⟨c,5,none⟩=some (.int .i64 f)/\W2.cell? ⟨g,j*4+1,none⟩=some (.string y)):=fun W W2 b b'=>HG.out W2 (z01 b b');have HPB:Hid (z90 H c w wr):=P0;have HNN:Hid (Q.T.length=N):=hN;clear hin hdec hyl hy htt hTT hs hkd hf hj hLL HM P0 d5 hN;obtain⟨c0,c1,c5,e1⟩:=HG.out wr (yg9 _ _);go_wp2;go_region_held3 (fun W=>W.cell? ⟨c,0,none⟩=some (.slice (some ⟨g,0,none⟩) N cap)/\W.cell? ⟨c,1,none⟩=some (.int .i64 (j:Int))/\W.cell? ⟨c,5,none⟩=some (.int .i64 f)/\W.cell? ⟨g,j*4+1,none⟩=some (.string y)) (first|(exact HG.out _ (by assumption))|(exact HG.out _ (yg9 _ _).drew)|go_keep)
      (first
       | (go_at_call 76;with_reducible refine(cK _ (by first|exact p0.below (yg9 _ _).drew|exact p0)).mono ?_;rintro e w2 ⟨rfl,b2'⟩;have b2:Below wr.heap.size wr w2:=(by first|exact z01 (yg9 _ _).drew b2'|exact b2'))
       | (go_at_call 109;with_reducible refine(cV _).mono ?_;rintro e w3 ⟨cp3,rfl,r3,b3'⟩;have b3:Below wr.heap.size wr w3:=z01 b2 b3')
       | (go_at_call 64;with_reducible refine(cR _ _ _ r3).mono ?_;rintro e w4 ⟨rfl,rfl⟩))
     have p3:=p0.below b3;have P3:=HPB.out.trans (z90.of_below b3 p0.hw);clear p0 b2 b2' b3' cK cV cR r3 HPB c0 c1 c5 e1;go_wp2_with fail;refine(cP _ _ p3).mono ?_;rintro e w5 ⟨rfl,b5⟩;have p5:=p3.below b5;have P5:=P3.trans (z90.of_below b5 p3.hw);obtain⟨c0,c1,c5,e1⟩:=HG2.out w3 w5 b3 b5;clear p3 P3 b5 b3 HG HG2 cP;go_upto_region 6 with fail;go_quiet (fail)
     have p6:=p5.below (below_drewN (yg9 _ _) nq);have P6:=P5.trans (z90.of_below (below_drewN (yg9 _ _) nq) p5.hw);obtain⟨p7,k7,c7,f7⟩:=HST.out _ _ p6;have P7:=P6.trans k7;have cL3:=cL2 _ _ p7;clear p5 P5 p6 P6 k7 p7 c0 c1 c5 e1 HST cL2;go_wp2_with fail;refine cL3.mono ?_;rintro e w8 ⟨tv8,rfl,p8,q8⟩;have P8:=P7.trans q8;clear cL3 q8 P7 c7 f7;rcases (by omega:k=0\/k=1\/2<=k)with hk2|hk2|hk2
     ·rw[if_pos hk2]at HNX;have hkz:((k:Int)==0)=true:=by rw[beq_iff_eq];omega
      have hko:((k:Int)==1)=false:=by rw[yc9];omega
      clear hk2;go_wp2_with fail;refine(cO _).mono ?_;rintro e w9 ⟨rfl,b9⟩;have p9:=p8.below b9;have P9:=P8.trans (z90.of_below b9 p8.hw);clear p8 P8 b9 cO;have pA:=fun o=>p9.below ((yg9 w9.heap.size w9).alloc (yf9 _) o);have PA:=fun o=>P9.trans (z90.of_below ((yg9 w9.heap.size w9).alloc (yf9 _) o) p9.hw);have cX:=fun o=>zbH 11 x R.1 O P (pA o) HNX.out.1;have HPA:Hid (∀ o,z90 H c w (w9.alloc o)):=PA;clear pA PA p9 P9;go_wp2_with fail;refine(cX _).mono ?_;rintro e wB ⟨tvB,rfl,pB,qB⟩;have HE:Hid (z8V Q c H A (.slice (some ⟨g,0,none⟩) N cap) tvB (addP R.2.2 ⟨11,x,R.1,O,[],[],0,P⟩) wB/\z90 H c w wB):=⟨pB,(HPA.out _).trans qB⟩;clear cX pB qB HPA;go_wp2;go_roundw
      case rel=>first|exact⟨_,_,m,tvB,rfl,by rw[HNN.out];exact HE.out.1,HE.out.2,HNX.out.2.1⟩|exact⟨_,m,tvB,by rw[HNN.out];exact HE.out.1,HE.out.2,HNX.out.2.1⟩|exact⟨_,m,⟨tvB,by rw[HNN.out];exact HE.out.1⟩,HE.out.2,HNX.out.2.1⟩|exact⟨_,⟨tvB,by rw[HNN.out];exact HE.out.1⟩,HE.out.2,m,HNX.out.2.1⟩
      case measure=>
       rw[zbM HE.out.1,zbM HPP.out];exact HNX.out.2.2
     ·rw[if_neg (by omega),if_pos hk2]at HNX
      have hkz:((k:Int)==0)=false:=by rw[yc9];omega
      have hko:((k:Int)==1)=true:=by rw[beq_iff_eq];omega
      clear hk2;go_wp2_with fail;refine(cO _).mono ?_;rintro e w9 ⟨rfl,b9⟩;have p9:=p8.below b9;have P9:=P8.trans (z90.of_below b9 p8.hw);clear p8 P8 b9 cO;have pA:=fun o=>p9.below ((yg9 w9.heap.size w9).alloc (yf9 _) o);have PA:=fun o=>P9.trans (z90.of_below ((yg9 w9.heap.size w9).alloc (yf9 _) o) p9.hw);have cX:=fun o=>zbH 10 x R.1 O P (pA o) HNX.out.1;have HPA:Hid (∀ o,z90 H c w (w9.alloc o)):=PA;clear pA PA p9 P9;go_wp2_with fail;refine(cX _).mono ?_;rintro e wB ⟨tvB,rfl,pB,qB⟩;have HE:Hid (z8V Q c H A (.slice (some ⟨g,0,none⟩) N cap) tvB (addP R.2.2 ⟨10,x,R.1,O,[],[],0,P⟩) wB/\z90 H c w wB):=⟨pB,(HPA.out _).trans qB⟩;clear cX pB qB HPA;go_wp2;go_roundw
      case rel=>first|exact⟨_,_,m,tvB,rfl,by rw[HNN.out];exact HE.out.1,HE.out.2,HNX.out.2.1⟩|exact⟨_,m,tvB,by rw[HNN.out];exact HE.out.1,HE.out.2,HNX.out.2.1⟩|exact⟨_,m,⟨tvB,by rw[HNN.out];exact HE.out.1⟩,HE.out.2,HNX.out.2.1⟩|exact⟨_,⟨tvB,by rw[HNN.out];exact HE.out.1⟩,HE.out.2,m,HNX.out.2.1⟩
      case measure=>
       rw[zbM HE.out.1,zbM HPP.out];exact HNX.out.2.2
     ·rw[if_neg (by omega),if_neg (by omega)]at HNX
      have hkz:((k:Int)==0)=false:=by rw[yc9];omega
      have hko:((k:Int)==1)=false:=by rw[yc9];omega
      go_wp2_with fail;refine(cO _).mono ?_;rintro e w9 ⟨rfl,b9⟩;have p9:=p8.below b9;have P9:=P8.trans (z90.of_below b9 p8.hw);clear p8 P8 b9 cO;have pA:=fun o=>p9.below ((yg9 w9.heap.size w9).alloc (yf9 _) o);have PA:=fun o=>P9.trans (z90.of_below ((yg9 w9.heap.size w9).alloc (yf9 _) o) p9.hw);have cX:=fun o=>zbH 9 x R.1 O P (pA o) HNX.out.1;have HPA:Hid (∀ o,z90 H c w (w9.alloc o)):=PA;clear pA PA p9 P9;go_wp2_with fail;refine(cX _).mono ?_;rintro e wB ⟨tvB,rfl,pB,qB⟩;have HE:Hid (z8V Q c H A (.slice (some ⟨g,0,none⟩) N cap) tvB (addP R.2.2 ⟨9,x,R.1,O,[],[],0,P⟩) wB/\z90 H c w wB):=⟨pB,(HPA.out _).trans qB⟩;clear cX pB qB HPA;go_wp2;go_roundw
      case rel=>first|exact⟨_,_,m,tvB,rfl,by rw[HNN.out];exact HE.out.1,HE.out.2,HNX.out.2.1⟩|exact⟨_,m,tvB,by rw[HNN.out];exact HE.out.1,HE.out.2,HNX.out.2.1⟩|exact⟨_,m,⟨tvB,by rw[HNN.out];exact HE.out.1⟩,HE.out.2,HNX.out.2.1⟩|exact⟨_,⟨tvB,by rw[HNN.out];exact HE.out.1⟩,HE.out.2,m,HNX.out.2.1⟩
      case measure=>
       rw[zbM HE.out.1,zbM HPP.out];exact HNX.out.2.2
    ·have hY2:=zcQ HM.out (fun q=>hin q.2);subst hY2;have hdec:decide (y.data.toList∈z50 k)=false:=by rw[←hyl];exact ya9 hin
     have cR:=fun(W:World) (gg cp:Nat) (r:zbY W gg (z50 k))=>zcR (cap:=cp) y r HLL;rw[hdec]at cR;have cV:=fun(W:World)=>zc0 k hk5 W;obtain⟨j,hj⟩:∃ j,t.i=j:=⟨_,rfl⟩;obtain⟨N,hN⟩:∃ N,Q.T.length=N:=⟨_,rfl⟩;rw[hj]at HG hil;rw[hN]at HG hil hT;have hji:(j:Int)<(N:Int):=by omega
     have hj0:(0:Int)<=(j:Int):=by omega
     obtain⟨LL,hLL⟩:∃ L,(z50 k).length=L:=⟨_,rfl⟩;simp only[hLL]at cR cV;have HPB:Hid (z90 H c w wr):=P0;clear hin hdec hyl hy htt hTT hs hkd hf hLL HM P0 d5 ih;rw[hN]at cK p0;have HNN:Hid (Q.T.length=N):=hN;clear hN hj;obtain⟨c0,c1,c5,e1⟩:=HG.out wr (yg9 _ _);go_wp2;go_region_held3 (fun W=>W.cell? ⟨c,0,none⟩=some (.slice (some ⟨g,0,none⟩) N cap)/\W.cell? ⟨c,1,none⟩=some (.int .i64 (j:Int))/\W.cell? ⟨c,5,none⟩=some (.int .i64 f)/\W.cell? ⟨g,j*4+1,none⟩=some (.string y)) (first|(exact HG.out _ (by assumption))|(exact HG.out _ (yg9 _ _).drew)|go_keep)
      (first
       | (go_at_call 76;with_reducible refine(cK _ (by first|exact p0.below (yg9 _ _).drew|exact p0)).mono ?_;rintro e w2 ⟨rfl,b2'⟩;have b2:Below wr.heap.size wr w2:=(by first|exact z01 (yg9 _ _).drew b2'|exact b2'))
       | (go_at_call 109;with_reducible refine(cV _).mono ?_;rintro e w3 ⟨cp3,rfl,r3,b3'⟩;have b3:Below wr.heap.size wr w3:=z01 b2 b3')
       | (go_at_call 64;with_reducible refine(cR _ _ _ r3).mono ?_;rintro e w4 ⟨rfl,rfl⟩))
     have HE:Hid (z8V Q c H A (.slice (some ⟨g,0,none⟩) N cap) tvv t w3/\z90 H c w w3):=⟨p0.below b3,HPB.out.trans (z90.of_below b3 p0.hw)⟩;clear p0 b2 b2' b3' b3 cK cV cR r3 HPB c0 c1 c5 e1 HG;go_wp2;go_ret;exact⟨tvv,rfl,by rw[HNN.out];exact HE.out.1,HE.out.2⟩
   ·have hkd':z4U Q t 4=false:=by simpa using hkd
    have hY2:=zcQ HM.out (fun q=>hkd q.1);subst hY2;rw[hkd']at cK;have HPB:Hid (z90 H c w wr):=P0;by_cases hf0:f<0
    ·have cKQ:=fun d os=>Calls.regrown_of (w:=wr) (d:=d) (os:=os) (cK _ (p0.below (below_regrown wr d os)));have k5:=cell_regrown d5;have HPZ:Hid (z8V Q c H A tk tvv t wr):=p0;clear hkd hkd' hf HM P0 ih cK p0;go_wp2;refine wp_region_quiet_below (by kernel_rfl) (by kernel_rfl) ?_
     repeat (first|go_big_quiet_step (exact cKQ _ _)|quiet_step (exact cKQ _ _))
     refine wpQuiet_nil ?_;intro _ hw';obtain⟨⟨dq,osq⟩,hw''⟩:=hw';subst hw'';have HE:Hid (z8V Q c H A tk tvv t (grow (redrawn wr dq) osq)/\z90 H c w (grow (redrawn wr dq) osq)):=⟨HPZ.out.below (below_regrown wr dq osq),HPB.out.trans (z90.of_below (below_regrown wr dq osq) HPZ.out.hw)⟩;clear HPZ HPB d5 HG5 k5 cKQ;go_wp2;go_ret;exact⟨tvv,rfl,HE.out.1,HE.out.2⟩
    ·have hf0':decide (f<0)=false:=ya9 hf0;have HE:Hid (z8V Q c H A tk tvv t wr/\z90 H c w wr):=⟨p0,P0⟩;have hpw:=p0.hw;clear hkd hkd' hf HM P0 ih hf0 p0 cK HPB HG5;go_wp2;go_quiet (fail)
     go_wp2;go_ret;exact⟨tvv,rfl,HE.out.1.below (below_drewN (yg9 _ _) _),HE.out.2.trans (z90.of_below (below_drewN (yg9 _ _) _) hpw)⟩
theorem zcU{Q:PIn}{s:PS}{k k':Int}(h:z4U Q s k=true)(hk:k≠k'):z4U Q s k'=false:=by
 unfold z4U at h ⊢;cases e:Q.T[s.i]? with
 | none=>simp
 | some t=>
  rw[e]at h;simp only[Bool.and_eq_true,decide_eq_true_eq]at h;simp only[Bool.and_eq_false_iff,decide_eq_false_iff_not];exact .inr fun q=>hk (h.2.symm.trans q)
theorem zcV{Q:PIn}{s:PS}{k:Int}(x:List UInt8)(h:z4U Q s k=true)(h4:k≠4)(h5:k≠5):isP Q s x=false:=by
 unfold z4U at h;unfold isP;cases e:Q.T[s.i]? with
 | none=>simp
 | some t=>
  rw[e]at h;simp only[Bool.and_eq_true,decide_eq_true_eq]at h;simp[h.2,h4,h5]
theorem zcW{n:Nat}(ih:zbF n){Q:PIn}{c H:Nat}{A:Nat->Prop}{tk tv:Value}{s:PS}{w:World}(h:z8V Q c H A tk tv s w)(hf:Fit Q (n+1) .first s):
  Calls Tryz.prog 121 #[.pointer (some ⟨c,0,none⟩)] w (zbE Q c H A tk w (run Q (n+1) .first s)):=by
 have no:∀(x:List UInt8),¬ isP Q s x=true->isP Q s x=false:=fun x hx=>by simpa using hx
 have lt3:∀{i:Nat} {z:List UInt8},zcj[i]?=some z->i<3:=fun{i z} hz=>by
  rcases Nat.lt_or_ge i 3 with q|q
  ·exact q
  ·rw[List.getElem?_eq_none q]at hz;cases hz
 rw[run];by_cases h0:isP Q s [116,114,117,101]=true
 ·rw[if_pos h0];exact zco 0 _ 3 rfl rfl h0 (fun i z hi _=>by omega) h hf
 rw[if_neg h0];by_cases h1:isP Q s [102,97,108,115,101]=true
 ·rw[if_pos h1];exact zco 1 _ 4 rfl rfl h1 (fun i z hi hz=>by
   have e:i=0:=by omega
   subst e;cases hz
   exact no _ h0) h hf
 rw[if_neg h1];by_cases h2:isP Q s [110,111,110,101]=true
 ·rw[if_pos h2];exact zco 2 _ 5 rfl rfl h2 (fun i z hi hz=>by
   rcases (by omega:i=0\/i=1)with e|e<;>subst e<;>cases hz
   ·exact no _ h0
   ·exact no _ h1) h hf
 rw[if_neg h2];have hno:∀(i:Nat) (z:List UInt8),zcj[i]?=some z->isP Q s z=false:=fun i z hz=>by
  rcases (by have:=lt3 hz;omega:i=0\/i=1\/i=2)with e|e|e<;>subst e<;>cases hz
  ·exact no _ h0
  ·exact no _ h1
  ·exact no _ h2
 by_cases h3:z4U Q s 2=true/\z12 (tokP Q s).num≠2
 ·rw[if_pos h3];exact zcu ih hno h3.1 h3.2 h hf
 rw[if_neg h3];by_cases k2:z4U Q s 2=true
 ·have e3:=zcU (k':=3) k2 (by decide)
  have e1:=zcU (k':=1) k2 (by decide)
  have ep:=zcV [40] k2 (by decide) (by decide)
  have ef:=zcV [102,117,110] k2 (by decide) (by decide)
  rw[if_neg (by rw[e3];simp),if_neg (by rw[e1];simp),if_neg (by rw[ep];simp),if_neg (by rw[ef];simp)]
  exact zcv ih hno k2 (Decidable.of_not_not fun q=>h3 ⟨k2,q⟩) e3 e1 ep ef h hf
 have k2':z4U Q s 2=false:=by simpa using k2
 by_cases h4:z4U Q s 3=true/\(tokP Q s).text.length<=40
 ·rw[if_pos h4];exact zcw ih hno k2' h4.1 h4.2 h hf
 rw[if_neg h4];by_cases k3:z4U Q s 3=true
 ·have e1:=zcU (k':=1) k3 (by decide)
  have ep:=zcV [40] k3 (by decide) (by decide)
  have ef:=zcV [102,117,110] k3 (by decide) (by decide)
  rw[if_neg (by rw[e1];simp),if_neg (by rw[ep];simp),if_neg (by rw[ef];simp)]
  exact zcx ih hno k2' k3 (fun q=>h4 ⟨k3,q⟩) e1 ep ef h hf
 have k3':z4U Q s 3=false:=by simpa using k3
 by_cases k1:z4U Q s 1=true
 ·rw[if_pos k1];exact zcy ih hno k2' k3' k1 h hf
 rw[if_neg k1];have k1':z4U Q s 1=false:=by simpa using k1
 by_cases hp:isP Q s [40]=true
 ·rw[if_pos hp];by_cases hin:(inP Q s).fault<0
  ·rw[if_pos hin];exact zcp ih hno k2' k3' k1' hp hin h hf
  ·rw[if_neg hin];exact zcq ih hno k2' k3' k1' hp hin h hf
 rw[if_neg hp];by_cases hfn:isP Q s [102,117,110]=true
 ·rw[if_pos hfn];by_cases hin:(inP Q s).fault<0
  ·rw[if_pos hin];exact zcr ih hno k2' k3' k1' (no _ hp) hfn hin h hf
  ·rw[if_neg hin];exact zcs ih hno k2' k3' k1' (no _ hp) hfn hin h hf
 rw[if_neg hfn];exact zct ih hno k2' k3' k1' (no _ hp) (no _ hfn) h hf
theorem zcX(Q:PIn)(c:Cmd)(s:PS)(hk:∀ k,c=.level k->k<=6):1<=z5Q Q c s:=by
 unfold z5Q;cases c using z53<;>simp only[z5P]<;>first|omega|(rename_i k;have:=hk k rfl;omega)
theorem zcY:∀ n,zbF n:=by
 intro n;induction n using Nat.strongRecOn with
 | _ n ih=>
  cases n with
  | zero=>
   have no:∀{Q:PIn} {c:Cmd} {s:PS},(∀ k,c=.level k->k<=6)->Fit Q 0 c s->False:=fun{Q c s} hk hf=>by
    have h1:=hf.need;have h2:=zcX Q c s hk;omega
   exact⟨fun _ hf=>(no (by intro k e;cases e) hf).elim,fun _ _ hf=>(no (by intro k e;cases e) hf).elim,fun _ hf=>(no (by intro k e;cases e) hf).elim,fun _ hf=>(no (by intro k e;cases e) hf).elim,fun _ hf=>(no (by intro k e;cases e) hf).elim,fun k hk _ hf=>(no (by intro k' e;cases e;exact hk) hf).elim,fun _ _ _ hf=>(no (by intro k e;cases e) hf).elim,fun _ hf=>(no (by intro k e;cases e) hf).elim,fun _ _ _ hf=>(no (by intro k e;cases e) hf).elim,fun _ _ _ hf=>(no (by intro k e;cases e) hf).elim⟩
  | succ n=>
   have i0:=ih n (Nat.lt_succ_self n);have i1:∀ m,m<=n->zbF m:=fun m hm=>ih m (by omega)
   exact⟨fun h hf=>zbQ i1 h hf,fun p h hf=>zbK i0 p h hf,fun h hf=>zcW i0 h hf,fun h hf=>zbW i1 h hf,fun h hf=>zbX i0 h hf,fun k hk h hf=>zcT i1 k hk h hf,fun k p h hf=>zbJ i0 k p h hf,fun h hf=>zbL i0 h hf,fun p hon h hf=>zcN i0 p hon h hf,fun p hif h hf=>zc7 i0 p hif h hf⟩
