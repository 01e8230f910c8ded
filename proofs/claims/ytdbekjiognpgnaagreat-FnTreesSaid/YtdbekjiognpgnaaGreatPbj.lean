/- Part 36. -/
import Derived.Test.YtdbekjiognpgnaaGreatPbi
set_option maxHeartbeats 16000000
set_option maxRecDepth 100000
set_option linter.unusedVariables false
namespace Go.Proofs.YtdbekjiognpgnaaGreat
open Go.RowKit Go.Sort
def argS(Q:PIn)(l:List Int)(t:PS):PS:=if l.length=6 then badP Q (if 0<l.length then z4X Q t [44]else t)else (if 0<l.length then z4X Q t [44]else t)
theorem zbR(Q:PIn)(l:List Int)(t:PS):Le Q t (argS Q l t)/\On 0 0 t (argS Q l t)/\(argS Q l t).depth=t.depth/\wt Q (argS Q l t)<=wt Q t:=by
 have h1:Le Q t (if 0<l.length then z4X Q t [44]else t)/\On 0 0 t (if 0<l.length then z4X Q t [44]else t)/\(if 0<l.length then z4X Q t [44]else t).depth=t.depth/\wt Q (if 0<l.length then z4X Q t [44]else t)<=wt Q t:=by
  split
  ·exact⟨z5e Q t _,(z5B Q t _).weak (by omega) (by omega),z5f Q t _,z6s Q t _⟩
  ·exact⟨Le.refl Q t,On.refl t,rfl,yf9 _⟩
 unfold argS;generalize (if 0<l.length then z4X Q t [44]else t)=u at h1 ⊢
 obtain⟨a1,a2,a3,a4⟩:=h1;split
 ·exact⟨a1.trans (z5a Q u),z5A Q u t _ _,by rw[z58];exact a3,yi9 (z6w Q u) a4⟩
 ·exact⟨a1,a2,a3,a4⟩
theorem zbS{Q:PIn}{n M:Nat}{Y:Int × List Int × PS}{l:List Int}{t:PS}(h:StAt Q n .args Y M l t)(hi:t.i<=Q.T.length)(hf:t.fault<0)(hb:isP Q t [41]=false):
  ∃ m,m<=n/\Fit Q m (.level 0) (argS Q l t)/\StAt Q n .args Y m (l++[(run Q m (.level 0) (argS Q l t)).1]) (run Q m (.level 0) (argS Q l t)).2.2/\z5M Q (run Q m (.level 0) (argS Q l t)).2.2<z5M Q t:=by
 have h1:=h.need;simp only[z5Q,z5P]at h1;obtain⟨m,rfl⟩:∃ m,M=m+1:=⟨M-1,by omega⟩
 obtain⟨a1,a2,a3,a4⟩:=zbR Q l t;have l1:=z5x Q m (.level 0) (argS Q l t) (by intro p e;cases e)
 have o1:=z5L Q m (.level 0) (argS Q l t) (by intro p e;cases e)
 have r1:=z5O (a1.trans l1) (a2.trans o1) (by simp[eats]) hi hf
 have w1:=(z6F Q m (.level 0) (argS Q l t) (by intro p e;cases e) (a1.most hi)).all
 have r2:=z5N a1;have h2:=h.wt;have h3:=h.le;have h4:=h.len;simp only[z6E]at w1;have e:run Q (m+1) (.args l) t=run Q m (.args (l++[(run Q m (.level 0) (argS Q l t)).1])) (run Q m (.level 0) (argS Q l t)).2.2:=by
  rw[run,if_pos ⟨hf,hb⟩];rfl
 refine⟨m,by omega,zbC (by simp only[z5Q,z5P];omega) (by rw[a3];exact h.depth) (by simp only[z6E];omega),⟨by omega,by simp only[z5Q,z5P];omega,by omega,by rw[z5y,a3];exact h.depth,by simp;omega,by rw[←e];exact h.run⟩,by omega⟩
theorem zbT{Q:PIn}{n M:Nat}{Y:Int × List Int × PS}{l:List Int}{t:PS}(h:StAt Q n .args Y M l t)(hb:¬ (t.fault<0/\isP Q t [41]=false)):Y=(0,l,t):=by
 have h1:=h.need;simp only[z5Q,z5P]at h1;obtain⟨m,rfl⟩:∃ m,M=m+1:=⟨M-1,by omega⟩
 have:=h.run;rw[run,if_neg hb]at this;exact this.symm
structure CaAt(Q:PIn)(n:Nat)(Y:Int × List Int × PS)(M:Nat)(x:Int)(t:PS):Prop where
 le:M<=n
 need:z5Q Q (.calls x) t<=M
 wt:wt Q t<=9000
 depth:t.depth<=24
 run:run Q M (.calls x) t=Y
theorem zbU{Q:PIn}{n M:Nat}{Y:Int × List Int × PS}{x:Int}{t:PS}(h:CaAt Q n Y M x t)(hi:t.i<=Q.T.length)(hT:Q.T.length<=200)(hb:isP Q t [40]=true):
  ∃ m Z,m<=n/\run Q m (.args []) (z4W t)=Z/\StAt Q m .args Z m [] (z4W t)/\(z4X Q Z.2.2 [41]).tree.length<=10000/\CaAt Q n Y m (z4X Q Z.2.2 [41]).tree.length (addP (z4X Q Z.2.2 [41]) ⟨12,x,0,0,Z.2.1,[],0,z4T Q t⟩)/\z5M Q (addP (z4X Q Z.2.2 [41]) ⟨12,x,0,0,Z.2.1,[],0,z4T Q t⟩)<z5M Q t:=by
 have h1:=h.need;simp only[z5Q,z5P]at h1;obtain⟨m,rfl⟩:∃ m,M=m+1:=⟨M-1,by omega⟩
 have hs:=z5b hb;have l1:=(z5d hs).most hi;have r1:=z5O (z5d hs) (z5z hs.1) (yf9 _) hi hs.1;have w1:=z6y hs;have lA:=z5x Q m (.args []) (z4W t) (by intro p e;cases e)
 have wA:=(z6F Q m (.args []) (z4W t) (by intro p e;cases e) l1).all
 have wT:=z6s Q (run Q m (.args []) (z4W t)).2.2 [41];have rA:=z5N (lA.trans ((z5e Q (run Q m (.args []) (z4W t)).2.2 [41]).trans (z5k Q _ ⟨12,x,0,0,(run Q m (.args []) (z4W t)).2.1,[],0,z4T Q t⟩)));have h2:=h.wt;have h3:=h.le;have lm:=zbN (Q:=Q) (s:=z4W t);simp only[z6E]at wA;have wE:=z6n Q (z4X Q (run Q m (.args []) (z4W t)).2.2 [41]) ⟨12,x,0,0,(run Q m (.args []) (z4W t)).2.1,[],0,z4T Q t⟩;have e:run Q (m+1) (.calls x) t=run Q m (.calls (z4X Q (run Q m (.args []) (z4W t)).2.2 [41]).tree.length) (addP (z4X Q (run Q m (.args []) (z4W t)).2.2 [41]) ⟨12,x,0,0,(run Q m (.args []) (z4W t)).2.1,[],0,z4T Q t⟩):=by rw[run,if_pos hb]
 refine⟨m,_,by omega,rfl,⟨yf9 _,by simp only[z5Q,z5P];omega,by omega,h.depth,by simp;omega,rfl⟩,zbD (Q:=Q) (by omega),⟨by omega,by simp only[z5Q,z5P];omega,by omega,?_,by rw[←e];exact h.run⟩,by omega⟩
 show(z4X Q (run Q m (.args []) (z4W t)).2.2 [41]).depth<=24;rw[z5f,z5y];exact h.depth
theorem zbV{Q:PIn}{n M:Nat}{Y:Int × List Int × PS}{x:Int}{t:PS}(h:CaAt Q n Y M x t)(hb:isP Q t [40]=false):Y=(x,[],t):=by
 have h1:=h.need;simp only[z5Q,z5P]at h1;obtain⟨m,rfl⟩:∃ m,M=m+1:=⟨M-1,by omega⟩
 have:=h.run;rw[run,if_neg (by rw[hb];decide)]at this
 exact this.symm
theorem zbW{n:Nat}(ih:∀ m,m<=n->zbF m){Q:PIn}{c H:Nat}{A:Nat->Prop}{tk tv:Value}{s:PS}{w:World}(h:z8V Q c H A tk tv s w)(hf:Fit Q (n+1) .call s):
  Calls Tryz.prog 118 #[.pointer (some ⟨c,0,none⟩)] w (zbE Q c H A tk w (run Q (n+1) .call s)):=by
 have hneed:=hf.need;have hwt:=hf.all;simp only[z5Q,z5P]at hneed;have HHW:Hid (H<=w.heap.size/\c<H/\∀ g,A g->g<w.heap.size):=⟨h.hw,h.ch,h.early⟩;have hcB:c<w.heap.size:=by have:=h.hw;have:=h.ch;omega
 have hT:=h.few;have cF:=(ih n (yf9 _)).first h (zbC (by simp only[z5Q,z5P];omega) hf.depth (by simp only[z6E];omega))
 obtain⟨i0,hi0,hz0,hz1,hz2⟩:=z8y Tryz.infoInt;have wF:=(z6F Q n .first s (by intro p e;cases e) h.i).all
 have rF:=z5N (z5x Q n .first s (by intro p e;cases e))
 simp only[z6E]at wF;have e:run Q (n+1) .call s=run Q n (.calls (run Q n .first s).1) (run Q n .first s).2.2:=rfl
 rw[e];obtain⟨Y,hY⟩:∃ Y,run Q n (.calls (run Q n .first s).1) (run Q n .first s).2.2=Y:=⟨_,rfl⟩
 have HY0:Hid (CaAt Q n Y n (run Q n .first s).1 (run Q n .first s).2.2):=⟨yf9 _,by simp only[z5Q,z5P];omega,by omega,by rw[z5y];exact hf.depth,hY⟩
 rw[hY];obtain⟨R0,hR0⟩:∃ R,run Q n .first s=R:=⟨_,rfl⟩
 rw[hR0]at cF HY0;clear h hf hneed hwt wF rF e hY hR0;go_enter Tryz.func118,Tryz.ntmps118;go_wp2_with fail;refine cF.mono ?_;rintro e w1 ⟨tv1,rfl,p1,q1⟩;clear cF;go_upto_region 2 with fail;go_loopw [3] (fun v wr=>∃(t:PS) (x:Int) (M:Nat) (tvv:Value),v=.int .i64 x/\z8V Q c H A tk tvv t wr/\z90 H c w wr/\Hid (CaAt Q n Y M x t)) (fun _ wr=>parL Q c wr)
 case atStart=>exact⟨_,_,n,_,rfl,p1,q1,HY0⟩
 case round=>
  clear p1 q1 HY0;obtain⟨t,x,M,tvv,rfl,p0,P0,HM⟩:=hrel;have HPP:Hid (z8V Q c H A tk tvv t wr):=p0;obtain⟨_,_,_,_,d5,_⟩:=p0.cells;obtain⟨f,hf⟩:∃ f,t.fault=f:=⟨_,rfl⟩;rw[hf]at d5;have cI1:=z96 ⟨#[40]⟩ p0;have hs0:isP Q t (⟨#[40]⟩:ByteArray).data.toList=isP Q t [40]:=rfl;rw[hs0]at cI1;by_cases hgo:isP Q t [40]=true
  ·obtain⟨m,Z,hm,hZ,hA0,hA1,hA2,hA3⟩:=zbU HM.out p0.i hT hgo;have hs:=z5b hgo;have hf0:f<0:=by rw[←hf];exact hs.1
   have hil:=hs.2;rw[hgo]at cI1;have HZ:Hid (StAt Q m .args Z m [] (z4W t)):=hA0;have HCN:Hid ((z4X Q Z.2.2 [41]).tree.length<=10000/\CaAt Q n Y m (z4X Q Z.2.2 [41]).tree.length (addP (z4X Q Z.2.2 [41]) ⟨12,x,0,0,Z.2.1,[],0,z4T Q t⟩)/\z5M Q (addP (z4X Q Z.2.2 [41]) ⟨12,x,0,0,Z.2.1,[],0,z4T Q t⟩)<z5M Q t):=⟨hA1,hA2,hA3⟩;have cP:=fun(W:World) (k:z8V Q c H A tk tvv t W)=>z8X k;have HST:Hid (∀ W,z8V Q c H A tk tvv t W->z8V Q c H A tk tvv (z4W t) (W.setCell ⟨c,1,none⟩ (.int .i64 ((t.i:Int)+1)))/\z90 H c W (W.setCell ⟨c,1,none⟩ (.int .i64 ((t.i:Int)+1)))/\W.cell? ⟨c,1,none⟩=some (.int .i64 (t.i:Int))/\W.frozen? ⟨c,1,none⟩=false):=fun W k=>by
    obtain⟨k1,k2⟩:=k.step hil;obtain⟨_,g1,_,_,_,gf⟩:=k.cells;exact⟨k1,k2,g1,gf 1⟩
   obtain⟨P,hP⟩:∃ P,z4T Q t=P:=⟨_,rfl⟩;rw[hP]at cP HCN;obtain⟨j,hj⟩:∃ j,t.i=j:=⟨_,rfl⟩;rw[hj]at HST hil;obtain⟨S,hS⟩:∃ S,z4W t=S:=⟨_,rfl⟩;rw[hS]at HST HZ;have hj2:(j:Int)<=200:=by omega
   clear hgo hA0 hA1 hA2 hA3 hs hf HM hs0 hZ hP hj hS hil;go_wp2_with fail;refine cI1.mono ?_;rintro e w2 ⟨rfl,b2⟩;have p2:=p0.below b2;have P2:=P0.trans (z90.of_below b2 p0.hw);have cP1:=cP _ p2;clear p0 P0 b2 cI1 d5 cP;go_wp2_with fail;refine cP1.mono ?_;rintro e w3 ⟨rfl,b3⟩;have p3:=p2.below b3;have P3:=P2.trans (z90.of_below b3 p2.hw);obtain⟨p4,k4,c4,f4⟩:=HST.out _ p3;have P4:=P3.trans k4;clear p2 P2 b3 cP1 HST;go_upto_region 5 with fail;obtain⟨W4,hW4⟩:∃ W,w3.setCell ⟨c,1,none⟩ (.int .i64 ((j:Int)+1))=W:=⟨_,rfl⟩;rw[hW4]at p4 P4;try simp only[hW4]
   clear hW4 c4 f4 k4 p3 P3;obtain⟨k5,k6⟩:=p4.begin 3;have o5:=z8E (z9p W4 3) P4.size;have P5:=P4.trans k6;clear p4 P4 k6;go_upto_region 6 with fail;go_loopw [5] (fun v wq=>∃(u:PS) (l:List Int) (M2:Nat) (tvu:Value),wq.ownsRow w.heap.size 3 1 v l.length (l.map (Value.int .i64))/\z8V Q c H (Av A v) tk tvu u wq/\z90 H c w wq/\Hid (StAt Q m .args Z M2 l u)) (fun _ wq=>parL Q c wq)
   case atStart=>exact⟨_,[],m,_,o5,k5,P5,HZ⟩
   case round=>
    clear o5 k5 P5 HZ;obtain⟨u,l,M2,tvu,r0,p0,P0,HM⟩:=hrel;obtain⟨la,lc,rfl⟩:=z8A r0;obtain⟨nl,hnl⟩:∃ n,l.length=n:=⟨_,rfl⟩;have HLn:Hid (l.length=nl):=hnl;rw[hnl]at r0 p0;simp only[hnl];clear hnl;have HPQ:Hid (z8V Q c H (Av A (.slice la nl lc)) tk tvu u wr):=p0;obtain⟨_,_,_,_,d5,_⟩:=p0.cells;obtain⟨fu,hfu⟩:∃ f,u.fault=f:=⟨_,rfl⟩;rw[hfu]at d5;have cI1:=z96 ⟨#[41]⟩ p0;have hs0:isP Q u (⟨#[41]⟩:ByteArray).data.toList=isP Q u [41]:=rfl;rw[hs0]at cI1;by_cases hgo:u.fault<0/\isP Q u [41]=false
    ·obtain⟨m2,hm2,FL,HN,hlt⟩:=zbS HM.out p0.i hgo.1 hgo.2;have hf1:fu<0:=by rw[←hfu];exact hgo.1
     rw[hgo.2]at cI1;have cE:=fun(W:World) (k:z8V Q c H (Av A (.slice la nl lc)) tk tvu (argS Q l u) W)=>zbI (ih m2 (yi9 hm2 hm)) k FL;have cT:=fun(W:World) (k:z8V Q c H (Av A (.slice la nl lc)) tk tvu u W)=>z98 ⟨#[44]⟩ k;have cB:=fun(W:World) (k:z8V Q c H (Av A (.slice la nl lc)) tk tvu (z4X Q u [44]) W)=>z97 k;have hnl:nl<=201:=by have:=HM.out.len;have:=HLn.out;omega
     obtain⟨R,hR⟩:∃ R,run Q m2 (.level 0) (argS Q l u)=R:=⟨_,rfl⟩;rw[hR]at cE HN hlt;have HN2:Hid (StAt Q m .args Z m2 (l++[R.1]) R.2.2/\z5M Q R.2.2<z5M Q u):=⟨HN,hlt⟩;clear hgo FL HN hlt hfu HM hs0 hR;go_wp2_with fail;refine cI1.mono ?_;rintro e w2b ⟨rfl,b2⟩;have p2:=p0.below b2;have P2:=P0.trans (z90.of_below b2 p0.hw);have r2:=z8B r0 b2;clear p0 P0 r0 b2 cI1 d5;rcases (by omega:nl=0\/(0<nl/\(nl<6\/6<nl))\/nl=6)with rfl|⟨h0,h3⟩|rfl
     ·have p3:=p2;have P3:=P2;have r3:=r2;clear p2 P2 r2;have HSA:Hid (u=argS Q l u):=by unfold argS;rw[if_neg (by have:=HLn.out;omega),if_neg (by have:=HLn.out;omega)];exact rfl
      rw[HSA.out]at p3;have cE1:=cE _ p3;clear p3 HSA;go_wp2_with fail;refine cE1.mono ?_;rintro e w6 ⟨tv6,rfl,p6,q6⟩;have r6:=z91 r3 q6 (by decide) (z9n r3 hcB)
      have Q6:=P3.trans q6;have HEND:Hid (z8V Q c H (Av A (.slice la 0 lc)) tk tv6 R.2.2 w6/\z90 H c w w6):=⟨p6,Q6⟩;have hw6:=p6.hw;have hwz:w.heap.size<=w6.heap.size:=Q6.size;clear cE1 r3 P3 q6 p6 Q6 cE cT cB;go_wp2_with (at_builtin;refine wpList_append_own_at _ rfl _ _ 29 rfl w.heap.size 3 i0 (.int .i64 0) 1 8 Tryz.underlying29 hi0 hz0 hz1 hz2 rfl (by decide) _ 0 (l.map (Value.int .i64)) rfl (r6.alloc _) ⟨w6.heap.size,0,none⟩ 1 1 [.int .i64 R.1] rfl rfl (cell_one_new _ _ _) (fun u hu=>by simp at hu;subst hu;rfl) (by unfold maxLen;omega) (by omega) (by simp;omega) ?_;intro v' w7 ho7 hg7 _ hat7;have HAP:Aside (w7.ownsRow w.heap.size 3 1 v' (0+1) (l.map (Value.int .i64)++[.int .i64 R.1])/\(w6.alloc (.cells #[.int .i64 R.1] 3)).grownBy w7 (Value.ownBlock (.slice la 0 lc))/\(v'.ownBlock=Value.ownBlock (.slice la 0 lc)\/v'.ownBlock=some (w6.alloc (.cells #[.int .i64 R.1] 3)).heap.size)):=⟨ho7,hg7,hat7⟩;clear ho7 hg7 hat7)
      go_roundw
      case rel=>
       obtain⟨ho7,hg7,hat7⟩:=HAP.out;obtain⟨k1,k2⟩:=z9o HEND.out.1 HEND.out.2 HHW.out.1 r6 (by decide) hg7 hat7 ho7
       exact⟨R.2.2,l++[R.1],m2,tv6,by rw[List.map_append,List.length_append,HLn.out];exact ho7,k1,k2,HN2.out.1⟩
      case measure=>
       obtain⟨ho7,hg7,hat7⟩:=HAP.out;obtain⟨k1,k2⟩:=z9o HEND.out.1 HEND.out.2 HHW.out.1 r6 (by decide) hg7 hat7 ho7
       rw[zbM k1,zbM HPQ.out];exact HN2.out.2
     ·have hd0:(0:Int)<(nl:Int):=by omega
      have hd6:((nl:Int)==6)=false:=by rw[yc9];omega
      go_wp2_with fail;refine(cT _ p2).mono ?_;rintro e w3b ⟨rfl,p3,q3⟩;have r3:=z91 r2 q3 (by decide) (z9n r2 hcB)
      have P3:=P2.trans q3;clear p2 P2 r2 q3;have HSA:Hid ((z4X Q u [44])=argS Q l u):=by unfold argS;rw[if_neg (by have:=HLn.out;omega),if_pos (by have:=HLn.out;omega)];exact rfl
      rw[HSA.out]at p3;have cE1:=cE _ p3;clear p3 HSA;go_wp2_with fail;refine cE1.mono ?_;rintro e w6 ⟨tv6,rfl,p6,q6⟩;have r6:=z91 r3 q6 (by decide) (z9n r3 hcB)
      have Q6:=P3.trans q6;have HEND:Hid (z8V Q c H (Av A (.slice la nl lc)) tk tv6 R.2.2 w6/\z90 H c w w6):=⟨p6,Q6⟩;have hw6:=p6.hw;have hwz:w.heap.size<=w6.heap.size:=Q6.size;clear cE1 r3 P3 q6 p6 Q6 cE cT cB;go_wp2_with (at_builtin;refine wpList_append_own_at _ rfl _ _ 29 rfl w.heap.size 3 i0 (.int .i64 0) 1 8 Tryz.underlying29 hi0 hz0 hz1 hz2 rfl (by decide) _ nl (l.map (Value.int .i64)) rfl (r6.alloc _) ⟨w6.heap.size,0,none⟩ 1 1 [.int .i64 R.1] rfl rfl (cell_one_new _ _ _) (fun u hu=>by simp at hu;subst hu;rfl) (by unfold maxLen;omega) (by omega) (by simp;omega) ?_;intro v' w7 ho7 hg7 _ hat7;have HAP:Aside (w7.ownsRow w.heap.size 3 1 v' (nl+1) (l.map (Value.int .i64)++[.int .i64 R.1])/\(w6.alloc (.cells #[.int .i64 R.1] 3)).grownBy w7 (Value.ownBlock (.slice la nl lc))/\(v'.ownBlock=Value.ownBlock (.slice la nl lc)\/v'.ownBlock=some (w6.alloc (.cells #[.int .i64 R.1] 3)).heap.size)):=⟨ho7,hg7,hat7⟩;clear ho7 hg7 hat7)
      go_roundw
      case rel=>
       obtain⟨ho7,hg7,hat7⟩:=HAP.out;obtain⟨k1,k2⟩:=z9o HEND.out.1 HEND.out.2 HHW.out.1 r6 (by decide) hg7 hat7 ho7
       exact⟨R.2.2,l++[R.1],m2,tv6,by rw[List.map_append,List.length_append,HLn.out];exact ho7,k1,k2,HN2.out.1⟩
      case measure=>
       obtain⟨ho7,hg7,hat7⟩:=HAP.out;obtain⟨k1,k2⟩:=z9o HEND.out.1 HEND.out.2 HHW.out.1 r6 (by decide) hg7 hat7 ho7
       rw[zbM k1,zbM HPQ.out];exact HN2.out.2
     ·go_wp2_with fail;refine(cT _ p2).mono ?_;rintro e w3a ⟨rfl,p3a,q3a⟩;have r3a:=z91 r2 q3a (by decide) (z9n r2 hcB)
      have P3a:=P2.trans q3a;clear p2 P2 r2 q3a;go_wp2_with fail;refine(cB _ p3a).mono ?_;rintro e w3b ⟨rfl,p3,q3⟩;have r3:=z91 r3a q3 (by decide) (z9n r3a hcB)
      have P3:=P3a.trans q3;clear p3a P3a r3a q3;have HSA:Hid ((badP Q (z4X Q u [44]))=argS Q l u):=by unfold argS;rw[if_pos (by have:=HLn.out;omega),if_pos (by have:=HLn.out;omega)];exact rfl
      rw[HSA.out]at p3;have cE1:=cE _ p3;clear p3 HSA;go_wp2_with fail;refine cE1.mono ?_;rintro e w6 ⟨tv6,rfl,p6,q6⟩;have r6:=z91 r3 q6 (by decide) (z9n r3 hcB)
      have Q6:=P3.trans q6;have HEND:Hid (z8V Q c H (Av A (.slice la 6 lc)) tk tv6 R.2.2 w6/\z90 H c w w6):=⟨p6,Q6⟩;have hw6:=p6.hw;have hwz:w.heap.size<=w6.heap.size:=Q6.size;clear cE1 r3 P3 q6 p6 Q6 cE cT cB;go_wp2_with (at_builtin;refine wpList_append_own_at _ rfl _ _ 29 rfl w.heap.size 3 i0 (.int .i64 0) 1 8 Tryz.underlying29 hi0 hz0 hz1 hz2 rfl (by decide) _ 6 (l.map (Value.int .i64)) rfl (r6.alloc _) ⟨w6.heap.size,0,none⟩ 1 1 [.int .i64 R.1] rfl rfl (cell_one_new _ _ _) (fun u hu=>by simp at hu;subst hu;rfl) (by unfold maxLen;omega) (by omega) (by simp;omega) ?_;intro v' w7 ho7 hg7 _ hat7;have HAP:Aside (w7.ownsRow w.heap.size 3 1 v' (6+1) (l.map (Value.int .i64)++[.int .i64 R.1])/\(w6.alloc (.cells #[.int .i64 R.1] 3)).grownBy w7 (Value.ownBlock (.slice la 6 lc))/\(v'.ownBlock=Value.ownBlock (.slice la 6 lc)\/v'.ownBlock=some (w6.alloc (.cells #[.int .i64 R.1] 3)).heap.size)):=⟨ho7,hg7,hat7⟩;clear ho7 hg7 hat7)
      go_roundw
      case rel=>
       obtain⟨ho7,hg7,hat7⟩:=HAP.out;obtain⟨k1,k2⟩:=z9o HEND.out.1 HEND.out.2 HHW.out.1 r6 (by decide) hg7 hat7 ho7
       exact⟨R.2.2,l++[R.1],m2,tv6,by rw[List.map_append,List.length_append,HLn.out];exact ho7,k1,k2,HN2.out.1⟩
      case measure=>
       obtain⟨ho7,hg7,hat7⟩:=HAP.out;obtain⟨k1,k2⟩:=z9o HEND.out.1 HEND.out.2 HHW.out.1 r6 (by decide) hg7 hat7 ho7
       rw[zbM k1,zbM HPQ.out];exact HN2.out.2
    ·have hZ2:=zbT HM.out hgo;subst hZ2;have cE1:=fun(W:World) (k:z8V Q c H (Av A (.slice la nl lc)) tk tvu u W)=>z98 ⟨#[41]⟩ k;by_cases hf1:fu<0
     ·have hs:isP Q u [41]=true:=by
       cases hx:isP Q u [41]with
       | true=>rfl
       | false=>exact absurd ⟨by rw[hfu];exact hf1,hx⟩ hgo
      rw[hs]at cI1;clear hgo hs hfu HM hs0 ih;go_wp2_with fail;refine cI1.mono ?_;rintro e w2b ⟨rfl,b2⟩;have p2:=p0.below b2;have P2:=P0.trans (z90.of_below b2 p0.hw);have r2:=z8B r0 b2;clear p0 P0 r0 b2 cI1 d5;go_wp2_with fail;refine(cE1 _ p2).mono ?_;rintro e w3 ⟨rfl,p3,q3⟩;have r3:=z91 r2 q3 (by decide) (z9n r2 hcB)
      have Q3:=P2.trans q3;have p3':z8V Q c H A tk tvu (z4X Q u [41]) w3:=p3.fewer fun g hg=>.inl hg;have cN:=zbG 12 x 0 0 P l [] (.slice la nl lc) (.slice none 0 0) p3' (by rw[HLn.out];exact z8E r3 HHW.out.1) (World.ownsRow_nil w3 H _ _) (fun g hg ha=>by have h1:=(r3.lt g hg).1;have h2:=HHW.out.2.2 g ha;omega) (fun g hg=>by simp[Value.ownBlock]at hg) HCN.out.1
      clear cE1 r2 P2 q3 p3 p3' p2 r3;go_wp2_with fail;refine cN.mono ?_;rintro e w5 ⟨tv5,rfl,p5,q5⟩;have HE:Hid (z8V Q c H A tk tv5 (addP (z4X Q u [41]) ⟨12,x,0,0,l,[],0,P⟩) w5/\z90 H c w w5):=⟨p5,Q3.trans q5⟩;clear cN p5 q5 Q3;go_wp2;go_roundw
      case rel=>exact⟨_,_,m,tv5,rfl,HE.out.1,HE.out.2,HCN.out.2.1⟩
      case measure=>
       rw[zbM HE.out.1,zbM HPP.out];exact HCN.out.2.2
     ·have hf1':decide (fu<0)=false:=ya9 hf1;have p2:=p0;have r2:=r0;have P2:=P0;clear hgo hfu HM hs0 ih hf1 p0 P0 r0 cI1;go_wp2_with fail;refine(cE1 _ p2).mono ?_;rintro e w3 ⟨rfl,p3,q3⟩;have r3:=z91 r2 q3 (by decide) (z9n r2 hcB)
      have Q3:=P2.trans q3;have p3':z8V Q c H A tk tvu (z4X Q u [41]) w3:=p3.fewer fun g hg=>.inl hg;have cN:=zbG 12 x 0 0 P l [] (.slice la nl lc) (.slice none 0 0) p3' (by rw[HLn.out];exact z8E r3 HHW.out.1) (World.ownsRow_nil w3 H _ _) (fun g hg ha=>by have h1:=(r3.lt g hg).1;have h2:=HHW.out.2.2 g ha;omega) (fun g hg=>by simp[Value.ownBlock]at hg) HCN.out.1
      clear cE1 r2 P2 q3 p3 p3' p2 r3;go_wp2_with fail;refine cN.mono ?_;rintro e w5 ⟨tv5,rfl,p5,q5⟩;have HE:Hid (z8V Q c H A tk tv5 (addP (z4X Q u [41]) ⟨12,x,0,0,l,[],0,P⟩) w5/\z90 H c w w5):=⟨p5,Q3.trans q5⟩;clear cN p5 q5 Q3;go_wp2;go_roundw
      case rel=>exact⟨_,_,m,tv5,rfl,HE.out.1,HE.out.2,HCN.out.2.1⟩
      case measure=>
       rw[zbM HE.out.1,zbM HPP.out];exact HCN.out.2.2
  ·have hgo':isP Q t [40]=false:=by simpa using hgo
   have hY2:=zbV HM.out hgo';subst hY2;rw[hgo']at cI1;by_cases hf0:f<0
   ·clear hgo hgo' hf HM hs0 ih;go_wp2_with fail;refine cI1.mono ?_;rintro e w2 ⟨rfl,b2⟩;have HE:Hid (z8V Q c H A tk tvv t w2/\z90 H c w w2):=⟨p0.below b2,P0.trans (z90.of_below b2 p0.hw)⟩;clear p0 P0 b2 cI1 d5;go_wp2;go_ret;exact⟨tvv,rfl,HE.out.1,HE.out.2⟩
   ·have hf0':decide (f<0)=false:=ya9 hf0;have HE:Hid (z8V Q c H A tk tvv t wr/\z90 H c w wr):=⟨p0,P0⟩;clear hgo hgo' hf HM hs0 ih hf0 p0 P0 cI1;go_wp2;go_ret;exact⟨tvv,rfl,HE.out.1,HE.out.2⟩
theorem zbX{n:Nat}(ih:zbF n){Q:PIn}{c H:Nat}{A:Nat->Prop}{tk tv:Value}{s:PS}{w:World}(h:z8V Q c H A tk tv s w)(hf:Fit Q (n+1) .signed s):
  Calls Tryz.prog 108 #[.pointer (some ⟨c,0,none⟩)] w (zbE Q c H A tk w (run Q (n+1) .signed s)):=by
 have hneed:=hf.need;have hwt:=hf.all;simp only[z5Q,z5P]at hneed;have hT:=h.few;have cM:∀(W:World) (v:Value),z8V Q c H A tk v s W->Calls Tryz.prog 74 #[.pointer (some ⟨c,0,none⟩),.string ⟨#[45]⟩] W fun e w'=>e=.returned (.bool (isP Q s [45]))/\Below W.heap.size W w':=fun W v k=>z96 ⟨#[45]⟩ k;have cN:∀(W:World) (v:Value),z8V Q c H A tk v s W->Calls Tryz.prog 74 #[.pointer (some ⟨c,0,none⟩),.string ⟨#[33]⟩] W fun e w'=>e=.returned (.bool (isP Q s [33]))/\Below W.heap.size W w':=fun W v k=>z96 ⟨#[33]⟩ k;have cP:=fun(W:World) (v:Value) (k:z8V Q c H A tk v s W)=>z8X k;have cI:=fun(W:World) (v:Value) (k:z8V Q c H A tk v s W)=>z9b k hf.depth;by_cases hsig:isP Q s [45]=true\/isP Q s [33]=true
 ·have hs:s.fault<0/\s.i<Q.T.length:=by rcases hsig with k|k<;>exact z5b k
  have li:=(z5n Q s).most h.i;have wi:=z6q Q s;have ri:=z5N (z5n Q s);by_cases hin:(inP Q s).fault<0
  ·have hd:=z5o hin;have hs2:(inP Q s).fault<0/\(inP Q s).i<Q.T.length:=⟨hin,by rw[z5l];exact hs.2⟩
   have l2:=(z5d hs2).most li;have r2:=z5O (z5d hs2) (z5z hs2.1) (yf9 _) li hin;have w2:=z6y hs2;have FSt:Fit Q n .signed (z4W (inP Q s)):=zbC (by simp only[z5Q,z5P];omega) (by show(inP Q s).depth<=24;rw[z5m];omega) (by simp only[z6E];omega)
   have wS:=(z6F Q n .signed (z4W (inP Q s)) (by intro p e;cases e) l2).all
   simp only[z6E]at wS;have HDEP:Hid (1<=(run Q n .signed (z4W (inP Q s))).2.2.depth):=by
    have:(run Q n .signed (z4W (inP Q s))).2.2.depth=s.depth+1:=by rw[z5y];rfl
    show 1<=_;omega
   have HFEW:Hid ((outP (run Q n .signed (z4W (inP Q s))).2.2).tree.length<=10000):=by
    have:=zbD (Q:=Q) (s:=outP (run Q n .signed (z4W (inP Q s))).2.2) (k:=10000) (by rw[z6p];omega)
    exact this
   have e:run Q (n+1) .signed s=endN (outP (run Q n .signed (z4W (inP Q s))).2.2) ⟨if isP Q s [33]=true then 7 else 8,(run Q n .signed (z4W (inP Q s))).1,0,0,[],[],0,z4T Q s⟩:=by rw[run,if_pos hsig,if_pos hin]
   rw[e];rw[yb9 hin]at cI;have cS:=fun(W:World) (v:Value) (k:z8V Q c H A tk v (z4W (inP Q s)) W)=>ih.signed k FSt;have HST:Hid (∀(W:World) (v:Value),z8V Q c H A tk v (inP Q s) W->z8V Q c H A tk v (z4W (inP Q s)) (W.setCell ⟨c,1,none⟩ (.int .i64 (((inP Q s).i:Int)+1)))/\z90 H c W (W.setCell ⟨c,1,none⟩ (.int .i64 (((inP Q s).i:Int)+1)))/\W.cell? ⟨c,1,none⟩=some (.int .i64 ((inP Q s).i:Int))/\W.frozen? ⟨c,1,none⟩=false):=fun W v k=>by
    obtain⟨k1,k2⟩:=k.step hs2.2;obtain⟨_,g1,_,_,_,gf⟩:=k.cells;exact⟨k1,k2,g1,gf 1⟩
   have hj2:((inP Q s).i:Int)<=200:=by have:=hs2.2;omega
   obtain⟨S,hS⟩:∃ S,inP Q s=S:=⟨_,rfl⟩;rw[hS]at cI cS HST HDEP HFEW hj2 ⊢;obtain⟨R,hR⟩:∃ R,run Q n .signed (z4W S)=R:=⟨_,rfl⟩;rw[hR]at cS HDEP HFEW ⊢;obtain⟨P,hP⟩:∃ P,z4T Q s=P:=⟨_,rfl⟩;rw[hP]at cP ⊢;obtain⟨j,hj⟩:∃ j,S.i=j:=⟨_,rfl⟩;rw[hj]at HST hj2;clear hf hneed hwt hT li wi ri hd hs2 l2 r2 w2 FSt wS e hin hS hR hP hj hs;obtain⟨b1,hb1⟩:∃ b,isP Q s [45]=b:=⟨_,rfl⟩;obtain⟨b2,hb2⟩:∃ b,isP Q s [33]=b:=⟨_,rfl⟩;rw[hb1]at hsig cM;rw[hb2]at hsig cN ⊢;clear hb1 hb2;cases b1
   ·cases b2
    ·rcases hsig with k|k<;>cases k
    ·rw[if_pos rfl];clear hsig;go_enter Tryz.func108,Tryz.ntmps108;go_wp2_with fail;refine(cM _ _ h).mono ?_;rintro e w1 ⟨rfl,b1⟩;have p1:=h.below b1;have P1:=z90.of_below (H:=H) (c:=c) b1 h.hw;clear h b1;go_wp2_with fail;refine(cN _ _ p1).mono ?_;rintro e w1b ⟨rfl,b1⟩;have p1':=p1.below b1;have P1':=P1.trans (z90.of_below b1 p1.hw);clear p1 P1 b1;have p1:=p1';have P1:=P1';clear p1' P1';go_wp2_with fail;refine(cP _ _ p1).mono ?_;rintro e w3 ⟨rfl,b3⟩;have p3:=p1.below b3;have P3:=P1.trans (z90.of_below b3 p1.hw);clear p1 P1 b3;go_wp2_with fail;refine(cN _ _ p3).mono ?_;rintro e w4 ⟨rfl,b4⟩;have p4:=p3.below b4;have P4:=P3.trans (z90.of_below b4 p3.hw);clear p3 P3 b4;go_wp2_with fail;refine(cI _ _ p4).mono ?_;rintro e w5 ⟨rfl,p5,q5⟩;have P5:=P4.trans q5;clear p4 P4 q5;obtain⟨p6,k6,c6,f6⟩:=HST.out _ _ p5;have P6:=P5.trans k6;have cS1:=cS _ _ p6;clear p5 P5 k6 p6 cM cN cP cI cS HST;go_wp2_with fail;refine cS1.mono ?_;rintro e w7 ⟨tv7,rfl,p7,q7⟩;have P7:=P6.trans q7;have cO:=z9a p7 HDEP.out;clear cS1 p7 q7 P6;go_wp2_with fail;refine cO.mono ?_;rintro e w8 ⟨rfl,p8,q8⟩;have P8:=P7.trans q8;have cX:=zbH 7 R.1 0 0 P p8 HFEW.out;clear cO p8 q8 P7;go_wp2_with fail;refine cX.mono ?_;rintro e w9 ⟨tv9,rfl,p9,q9⟩;have HE:Hid (z8V Q c H A tk tv9 (addP (outP R.2.2) ⟨7,R.1,0,0,[],[],0,P⟩) w9/\z90 H c w w9):=⟨p9,P8.trans q9⟩;clear cX p9 q9 P8;go_wp2;go_ret;exact⟨tv9,rfl,HE.out.1,HE.out.2⟩
   ·clear hsig;cases b2
    ·rw[if_neg (by decide)]
     go_enter Tryz.func108,Tryz.ntmps108;go_wp2_with fail;refine(cM _ _ h).mono ?_;rintro e w1 ⟨rfl,b1⟩;have p1:=h.below b1;have P1:=z90.of_below (H:=H) (c:=c) b1 h.hw;clear h b1;go_wp2_with fail;refine(cP _ _ p1).mono ?_;rintro e w3 ⟨rfl,b3⟩;have p3:=p1.below b3;have P3:=P1.trans (z90.of_below b3 p1.hw);clear p1 P1 b3;go_wp2_with fail;refine(cN _ _ p3).mono ?_;rintro e w4 ⟨rfl,b4⟩;have p4:=p3.below b4;have P4:=P3.trans (z90.of_below b4 p3.hw);clear p3 P3 b4;go_wp2_with fail;refine(cI _ _ p4).mono ?_;rintro e w5 ⟨rfl,p5,q5⟩;have P5:=P4.trans q5;clear p4 P4 q5;obtain⟨p6,k6,c6,f6⟩:=HST.out _ _ p5;have P6:=P5.trans k6;have cS1:=cS _ _ p6;clear p5 P5 k6 p6 cM cN cP cI cS HST;go_wp2_with fail;refine cS1.mono ?_;rintro e w7 ⟨tv7,rfl,p7,q7⟩;have P7:=P6.trans q7;have cO:=z9a p7 HDEP.out;clear cS1 p7 q7 P6;go_wp2_with fail;refine cO.mono ?_;rintro e w8 ⟨rfl,p8,q8⟩;have P8:=P7.trans q8;have cX:=zbH 8 R.1 0 0 P p8 HFEW.out;clear cO p8 q8 P7;go_wp2_with fail;refine cX.mono ?_;rintro e w9 ⟨tv9,rfl,p9,q9⟩;have HE:Hid (z8V Q c H A tk tv9 (addP (outP R.2.2) ⟨8,R.1,0,0,[],[],0,P⟩) w9/\z90 H c w w9):=⟨p9,P8.trans q9⟩;clear cX p9 q9 P8;go_wp2;go_ret;exact⟨tv9,rfl,HE.out.1,HE.out.2⟩
    ·rw[if_pos rfl];go_enter Tryz.func108,Tryz.ntmps108;go_wp2_with fail;refine(cM _ _ h).mono ?_;rintro e w1 ⟨rfl,b1⟩;have p1:=h.below b1;have P1:=z90.of_below (H:=H) (c:=c) b1 h.hw;clear h b1;go_wp2_with fail;refine(cP _ _ p1).mono ?_;rintro e w3 ⟨rfl,b3⟩;have p3:=p1.below b3;have P3:=P1.trans (z90.of_below b3 p1.hw);clear p1 P1 b3;go_wp2_with fail;refine(cN _ _ p3).mono ?_;rintro e w4 ⟨rfl,b4⟩;have p4:=p3.below b4;have P4:=P3.trans (z90.of_below b4 p3.hw);clear p3 P3 b4;go_wp2_with fail;refine(cI _ _ p4).mono ?_;rintro e w5 ⟨rfl,p5,q5⟩;have P5:=P4.trans q5;clear p4 P4 q5;obtain⟨p6,k6,c6,f6⟩:=HST.out _ _ p5;have P6:=P5.trans k6;have cS1:=cS _ _ p6;clear p5 P5 k6 p6 cM cN cP cI cS HST;go_wp2_with fail;refine cS1.mono ?_;rintro e w7 ⟨tv7,rfl,p7,q7⟩;have P7:=P6.trans q7;have cO:=z9a p7 HDEP.out;clear cS1 p7 q7 P6;go_wp2_with fail;refine cO.mono ?_;rintro e w8 ⟨rfl,p8,q8⟩;have P8:=P7.trans q8;have cX:=zbH 7 R.1 0 0 P p8 HFEW.out;clear cO p8 q8 P7;go_wp2_with fail;refine cX.mono ?_;rintro e w9 ⟨tv9,rfl,p9,q9⟩;have HE:Hid (z8V Q c H A tk tv9 (addP (outP R.2.2) ⟨7,R.1,0,0,[],[],0,P⟩) w9/\z90 H c w w9):=⟨p9,P8.trans q9⟩;clear cX p9 q9 P8;go_wp2;go_ret;exact⟨tv9,rfl,HE.out.1,HE.out.2⟩
  ·have HDEP:Hid (1<=(inP Q s).depth):=by rw[z5m];show 1<=_;omega
   have HFEW:Hid ((outP (inP Q s)).tree.length<=10000):=by
    have:=zbD (Q:=Q) (s:=outP (inP Q s)) (k:=10000) (by rw[z6p];omega)
    exact this
   have e:run Q (n+1) .signed s=endN (outP (inP Q s)) ⟨if isP Q s [33]=true then 7 else 8,0,0,0,[],[],0,z4T Q s⟩:=by rw[run,if_pos hsig,if_neg hin]
   rw[e];rw[ya9 hin]at cI;obtain⟨S,hS⟩:∃ S,inP Q s=S:=⟨_,rfl⟩;rw[hS]at cI HDEP HFEW ⊢;obtain⟨P,hP⟩:∃ P,z4T Q s=P:=⟨_,rfl⟩;rw[hP]at cP ⊢;clear hf hneed hwt hT li wi ri e hin hS hP hs;obtain⟨b1,hb1⟩:∃ b,isP Q s [45]=b:=⟨_,rfl⟩;obtain⟨b2,hb2⟩:∃ b,isP Q s [33]=b:=⟨_,rfl⟩;rw[hb1]at hsig cM;rw[hb2]at hsig cN ⊢;clear hb1 hb2;cases b1
   ·cases b2
    ·rcases hsig with k|k<;>cases k
    ·rw[if_pos rfl];clear hsig;go_enter Tryz.func108,Tryz.ntmps108;go_wp2_with fail;refine(cM _ _ h).mono ?_;rintro e w1 ⟨rfl,b1⟩;have p1:=h.below b1;have P1:=z90.of_below (H:=H) (c:=c) b1 h.hw;clear h b1;go_wp2_with fail;refine(cN _ _ p1).mono ?_;rintro e w1b ⟨rfl,b1⟩;have p1':=p1.below b1;have P1':=P1.trans (z90.of_below b1 p1.hw);clear p1 P1 b1;have p1:=p1';have P1:=P1';clear p1' P1';go_wp2_with fail;refine(cP _ _ p1).mono ?_;rintro e w3 ⟨rfl,b3⟩;have p3:=p1.below b3;have P3:=P1.trans (z90.of_below b3 p1.hw);clear p1 P1 b3;go_wp2_with fail;refine(cN _ _ p3).mono ?_;rintro e w4 ⟨rfl,b4⟩;have p4:=p3.below b4;have P4:=P3.trans (z90.of_below b4 p3.hw);clear p3 P3 b4;go_wp2_with fail;refine(cI _ _ p4).mono ?_;rintro e w5 ⟨rfl,p5,q5⟩;have P5:=P4.trans q5;clear p4 P4 q5;have cO:=z9a p5 HDEP.out;clear p5 cM cN cP cI;go_wp2_with fail;refine cO.mono ?_;rintro e w8 ⟨rfl,p8,q8⟩;have P8:=P5.trans q8;have cX:=zbH 7 0 0 0 P p8 HFEW.out;clear cO p8 q8 P5;go_wp2_with fail;refine cX.mono ?_;rintro e w9 ⟨tv9,rfl,p9,q9⟩;have HE:Hid (z8V Q c H A tk tv9 (addP (outP S) ⟨7,0,0,0,[],[],0,P⟩) w9/\z90 H c w w9):=⟨p9,P8.trans q9⟩;clear cX p9 q9 P8;go_wp2;go_ret;exact⟨tv9,rfl,HE.out.1,HE.out.2⟩
   ·clear hsig;cases b2
    ·rw[if_neg (by decide)]
     go_enter Tryz.func108,Tryz.ntmps108;go_wp2_with fail;refine(cM _ _ h).mono ?_;rintro e w1 ⟨rfl,b1⟩;have p1:=h.below b1;have P1:=z90.of_below (H:=H) (c:=c) b1 h.hw;clear h b1;go_wp2_with fail;refine(cP _ _ p1).mono ?_;rintro e w3 ⟨rfl,b3⟩;have p3:=p1.below b3;have P3:=P1.trans (z90.of_below b3 p1.hw);clear p1 P1 b3;go_wp2_with fail;refine(cN _ _ p3).mono ?_;rintro e w4 ⟨rfl,b4⟩;have p4:=p3.below b4;have P4:=P3.trans (z90.of_below b4 p3.hw);clear p3 P3 b4;go_wp2_with fail;refine(cI _ _ p4).mono ?_;rintro e w5 ⟨rfl,p5,q5⟩;have P5:=P4.trans q5;clear p4 P4 q5;have cO:=z9a p5 HDEP.out;clear p5 cM cN cP cI;go_wp2_with fail;refine cO.mono ?_;rintro e w8 ⟨rfl,p8,q8⟩;have P8:=P5.trans q8;have cX:=zbH 8 0 0 0 P p8 HFEW.out;clear cO p8 q8 P5;go_wp2_with fail;refine cX.mono ?_;rintro e w9 ⟨tv9,rfl,p9,q9⟩;have HE:Hid (z8V Q c H A tk tv9 (addP (outP S) ⟨8,0,0,0,[],[],0,P⟩) w9/\z90 H c w w9):=⟨p9,P8.trans q9⟩;clear cX p9 q9 P8;go_wp2;go_ret;exact⟨tv9,rfl,HE.out.1,HE.out.2⟩
    ·rw[if_pos rfl];go_enter Tryz.func108,Tryz.ntmps108;go_wp2_with fail;refine(cM _ _ h).mono ?_;rintro e w1 ⟨rfl,b1⟩;have p1:=h.below b1;have P1:=z90.of_below (H:=H) (c:=c) b1 h.hw;clear h b1;go_wp2_with fail;refine(cP _ _ p1).mono ?_;rintro e w3 ⟨rfl,b3⟩;have p3:=p1.below b3;have P3:=P1.trans (z90.of_below b3 p1.hw);clear p1 P1 b3;go_wp2_with fail;refine(cN _ _ p3).mono ?_;rintro e w4 ⟨rfl,b4⟩;have p4:=p3.below b4;have P4:=P3.trans (z90.of_below b4 p3.hw);clear p3 P3 b4;go_wp2_with fail;refine(cI _ _ p4).mono ?_;rintro e w5 ⟨rfl,p5,q5⟩;have P5:=P4.trans q5;clear p4 P4 q5;have cO:=z9a p5 HDEP.out;clear p5 cM cN cP cI;go_wp2_with fail;refine cO.mono ?_;rintro e w8 ⟨rfl,p8,q8⟩;have P8:=P5.trans q8;have cX:=zbH 7 0 0 0 P p8 HFEW.out;clear cO p8 q8 P5;go_wp2_with fail;refine cX.mono ?_;rintro e w9 ⟨tv9,rfl,p9,q9⟩;have HE:Hid (z8V Q c H A tk tv9 (addP (outP S) ⟨7,0,0,0,[],[],0,P⟩) w9/\z90 H c w w9):=⟨p9,P8.trans q9⟩;clear cX p9 q9 P8;go_wp2;go_ret;exact⟨tv9,rfl,HE.out.1,HE.out.2⟩
 ·have e:run Q (n+1) .signed s=run Q n .call s:=by rw[run,if_neg hsig]
  rw[e];have h1:isP Q s [45]=false:=by cases hx:isP Q s [45]with
   | true=>exact absurd (.inl hx) hsig
   | false=>rfl
  have h2:isP Q s [33]=false:=by cases hx:isP Q s [33]with
   | true=>exact absurd (.inr hx) hsig
   | false=>rfl
  rw[h1]at cM;rw[h2]at cN;have cC:=fun(W:World) (v:Value) (k:z8V Q c H A tk v s W)=>ih.call k (zbC (by simp only[z5Q,z5P];omega) hf.depth (by simp only[z6E];omega))
  obtain⟨R,hR⟩:∃ R,run Q n .call s=R:=⟨_,rfl⟩;rw[hR]at cC ⊢;clear hsig e h1 h2 hf hneed hwt hT hR cP cI;go_enter Tryz.func108,Tryz.ntmps108;go_wp2_with fail;refine(cM _ _ h).mono ?_;rintro e w1 ⟨rfl,b1⟩;have p1:=h.below b1;have P1:=z90.of_below (H:=H) (c:=c) b1 h.hw;clear h b1;go_wp2_with fail;refine(cN _ _ p1).mono ?_;rintro e w2 ⟨rfl,b2⟩;have p2:=p1.below b2;have P2:=P1.trans (z90.of_below b2 p1.hw);have cC1:=cC _ _ p2;clear p1 P1 b2 p2 cM cN cC;go_wp2_with fail;refine cC1.mono ?_;rintro e w3 ⟨tv3,rfl,p3,q3⟩;have HE:Hid (z8V Q c H A tk tv3 R.2.2 w3/\z90 H c w w3):=⟨p3,P2.trans q3⟩;clear cC1 p3 q3 P2;go_wp2;go_ret;exact⟨tv3,rfl,HE.out.1,HE.out.2⟩
def zbY(w:World)(g:Nat)(xs:List (List UInt8)):Prop:=∀ j y,xs[j]?=some y->w.cell? ⟨g,j,none⟩=some (.string (txt y))
theorem zbZ(w:World)(xs:List (List UInt8))(t:TypeId):zbY (w.alloc (.cells (xs.map fun y=>Value.string (txt y)).toArray t)) w.heap.size xs:=fun j y hj=>by
 rw[cell_of_row _ _ j _ _ _ (heap_alloc_new w _)];simp[hj]
theorem zc0(k:Nat)(hk:k<=5)(w:World):
  Calls Tryz.prog 109 #[.int .i64 (k:Int)] w fun e w'=>∃ cap,e=.returned (.slice (some ⟨w.heap.size,0,none⟩) (z50 k).length cap)/\zbY w' w.heap.size (z50 k)/\Below w.heap.size w w':=by
 have hb:=fun o=>(yg9 w.heap.size w).alloc (yf9 _) o;have r0:=zbZ w (z50 k) 9;have HR:Hid (zbY (w.alloc (.cells ((z50 k).map fun y=>Value.string (txt y)).toArray 9)) w.heap.size (z50 k)):=r0;clear r0;rcases (by omega:k=0\/k=1\/k=2\/k=3\/k=4\/k=5)with rfl|rfl|rfl|rfl|rfl|rfl
 all_goals
  go_enter Tryz.func109,Tryz.ntmps109;go_wp2;go_ret;exact⟨_,rfl,HR.out,hb _⟩
def zc3:List (List UInt8):=[]::opsL
theorem zc4{i:Nat}{y:List UInt8}(hi:1<=i)(hy:zc3[i]?=some y)(x:List UInt8):opAt x i (opsL.drop (i-1))=if y=x then (i:Int)else opAt x (i+1) (opsL.drop i):=by
 obtain⟨j,rfl⟩:∃ j,i=j+1:=⟨i-1,by omega⟩
 have hy':opsL[j]?=some y:=hy;obtain⟨hj,e⟩:=List.getElem?_eq_some_iff.1 hy';rw[Nat.add_sub_cancel,List.drop_eq_getElem_cons hj,opAt,e]
theorem zc5(x:ByteArray)(w:World):
  Calls Tryz.prog 110 #[.string x] w fun e w'=>e=.returned (.int .i64 (opN x.data.toList))/\Below w.heap.size w w':=by
 have hb:=fun o=>(yg9 w.heap.size w).alloc (yf9 _) o;have r0:=zbZ w zc3 9;obtain⟨W,hW⟩:∃ W,w.alloc (.cells (zc3.map fun y=>Value.string (txt y)).toArray 9)=W:=⟨_,rfl⟩;have hbW:Below w.heap.size w W:=by rw[←hW];exact hb _
 rw[hW]at r0;have HR:Hid (zbY W w.heap.size zc3):=r0;have HB:Hid (Below w.heap.size w W):=hbW;have hW2:w.alloc (.cells #[.string ⟨#[]⟩,.string ⟨#[43]⟩,.string ⟨#[45]⟩,.string ⟨#[42]⟩,.string ⟨#[47]⟩,.string ⟨#[37]⟩,.string ⟨#[60]⟩,.string ⟨#[60,61]⟩,.string ⟨#[62]⟩,.string ⟨#[62,61]⟩,.string ⟨#[61,61]⟩,.string ⟨#[33,61]⟩] 9)=W:=hW;obtain⟨R,hRR⟩:∃ R,opN x.data.toList=R:=⟨_,rfl⟩;have HO:Hid (opAt x.data.toList 1 (opsL.drop 0)=R):=hRR;rw[hRR];obtain⟨G,hG⟩:∃ G,w.heap.size=G:=⟨_,rfl⟩;rw[hG]at HR HB;clear r0 hbW hW hb hRR;go_enter Tryz.func110,Tryz.ntmps110;go_wp2;try simp only[hW2,hG]
 clear hW2;go_loop [4] (fun v=>∃ i:Nat,v=.int .i64 i/\1<=i/\i<=12/\Hid (opAt x.data.toList i (opsL.drop (i-1))=R)) (fun v=>12-(intOf v).toNat)
 case atStart=>exact⟨1,rfl,by omega,by omega,HO⟩
 case round=>
  obtain⟨i,rfl,h1,h2,HI⟩:=hrel;by_cases hlt:i<12
  ·obtain⟨y,hy⟩:∃ y,zc3[i]?=some y:=⟨_,yd9 (by show i<12;exact hlt)⟩
   have hc:=HR.out i y hy;have HI2:Hid ((if y=x.data.toList then (i:Int)else opAt x.data.toList (i+1) (opsL.drop i))=R):=by rw[←zc4 h1 hy];exact HI.out
   obtain⟨z,hz⟩:∃ z,txt y=z:=⟨_,rfl⟩;have hyz:y=z.data.toList:=by rw[←hz,z6a]
   rw[hz]at hc;have hi12:(i:Int)<12:=by omega
   have hi0:(0:Int)<=(i:Int):=by omega
   by_cases hx:z=x
   ·subst hx;have HI3:Hid ((i:Int)=R):=by have:=HI2.out;rw[if_pos hyz]at this;exact this
    clear HI HI2 hy hz hyz HR HO;go_wp2;go_ret;exact⟨z00 HI3.out,HB.out⟩
   ·have hne:(z.toList==x.toList)=false:=by
     rw[yc9,ByteArray.toList_eq,ByteArray.toList_eq];exact fun e=>hx (z93 e)
    have HI3:Hid (opAt x.data.toList (i+1) (opsL.drop (i+1-1))=R):=by
     have:=HI2.out;rw[if_neg (fun e=>hx (z93 (hyz.symm.trans e)))]at this;exact this
    clear HI HI2 hy hz hyz HO hx;go_wp2;go_round
    case rel=>exact⟨i+1,by go_num,by omega,by omega,HI3⟩
    case measure=>simp[intOf];omega
  ·have e:i=12:=by omega
   subst e;have HI3:Hid ((0:Int)=R):=HI.out;go_wp2;go_ret;exact⟨z00 HI3.out,HB.out⟩
