/- Part 35. -/
import Derived.Test.YtdbekjiognpgnaaGreatPap
set_option maxHeartbeats 16000000
set_option maxRecDepth 100000
set_option linter.unusedVariables false
namespace Go.Proofs.YtdbekjiognpgnaaGreat
open Go.RowKit Go.Sort
structure Fit(Q:PIn)(n:Nat)(c:Cmd)(s:PS):Prop where
 need:z5Q Q c s<=n
 depth:s.depth<=24
 wt:(s.fault<0/\wt Q s<=9000)\/(¬ s.fault<0/\wt Q s+z6E c<=9000)
theorem zbC{Q:PIn}{n:Nat}{c:Cmd}{s:PS}(h1:z5Q Q c s<=n)(h2:s.depth<=24)(h3:wt Q s+z6E c<=9000):Fit Q n c s:=⟨h1,h2,by omega⟩
theorem Fit.few{Q:PIn}{n:Nat}{c:Cmd}{s:PS}(h:Fit Q n c s):s.tree.length<=9000:=by
 have k:Go.Proofs.YtdbekjiognpgnaaGreat.wt Q s<=9000:=by rcases h.wt with ⟨_,k⟩|⟨_,k⟩<;>omega
 unfold Go.Proofs.YtdbekjiognpgnaaGreat.wt at k;omega
theorem Fit.all{Q:PIn}{n:Nat}{c:Cmd}{s:PS}(h:Fit Q n c s):Go.Proofs.YtdbekjiognpgnaaGreat.wt Q s<=9000:=by rcases h.wt with ⟨_,k⟩|⟨_,k⟩<;>omega
theorem zbD{Q:PIn}{s:PS}{k:Nat}(h:wt Q s<=k):s.tree.length<=k:=by
 unfold wt at h;omega
def zbE(Q:PIn)(c H:Nat)(A:Nat->Prop)(tk:Value)(w:World)(r:Int × List Int × PS):Ending->World->Prop:=fun e w'=>∃ tv',e=.returned (.int .i64 r.1)/\z8V Q c H A tk tv' r.2.2 w'/\z90 H c w w'
structure zbF(n:Nat):Prop where
 block:∀{Q:PIn} {c H:Nat} {A:Nat->Prop} {tk tv:Value} {s:PS} {w:World},z8V Q c H A tk tv s w->Fit Q n .block s->Calls Tryz.prog 82 #[.pointer (some ⟨c,0,none⟩)] w (zbE Q c H A tk w (run Q n .block s))
 fn:∀{Q:PIn} {c H:Nat} {A:Nat->Prop} {tk tv:Value} {s:PS} {w:World} (p:Int),z8V Q c H A tk tv s w->Fit Q n (.fn p) s->Calls Tryz.prog 83 #[.pointer (some ⟨c,0,none⟩),.int .i64 p] w (zbE Q c H A tk w (run Q n (.fn p) s))
 first:∀{Q:PIn} {c H:Nat} {A:Nat->Prop} {tk tv:Value} {s:PS} {w:World},z8V Q c H A tk tv s w->Fit Q n .first s->Calls Tryz.prog 121 #[.pointer (some ⟨c,0,none⟩)] w (zbE Q c H A tk w (run Q n .first s))
 call:∀{Q:PIn} {c H:Nat} {A:Nat->Prop} {tk tv:Value} {s:PS} {w:World},z8V Q c H A tk tv s w->Fit Q n .call s->Calls Tryz.prog 118 #[.pointer (some ⟨c,0,none⟩)] w (zbE Q c H A tk w (run Q n .call s))
 signed:∀{Q:PIn} {c H:Nat} {A:Nat->Prop} {tk tv:Value} {s:PS} {w:World},z8V Q c H A tk tv s w->Fit Q n .signed s->Calls Tryz.prog 108 #[.pointer (some ⟨c,0,none⟩)] w (zbE Q c H A tk w (run Q n .signed s))
 level:∀{Q:PIn} {c H:Nat} {A:Nat->Prop} {tk tv:Value} {s:PS} {w:World} (k:Nat),k<=6->z8V Q c H A tk tv s w->Fit Q n (.level k) s->Calls Tryz.prog 97 #[.pointer (some ⟨c,0,none⟩),.int .i64 (k:Int)] w (zbE Q c H A tk w (run Q n (.level k) s))
 plain:∀{Q:PIn} {c H:Nat} {A:Nat->Prop} {tk tv:Value} {s:PS} {w:World} (k p:Int),z8V Q c H A tk tv s w->Fit Q n (.plain k p) s->Calls Tryz.prog 75 #[.pointer (some ⟨c,0,none⟩),.int .i64 k,.int .i64 p] w (zbE Q c H A tk w (run Q n (.plain k p) s))
 stmt:∀{Q:PIn} {c H:Nat} {A:Nat->Prop} {tk tv:Value} {s:PS} {w:World},z8V Q c H A tk tv s w->Fit Q n .stmt s->Calls Tryz.prog 25 #[.pointer (some ⟨c,0,none⟩)] w (zbE Q c H A tk w (run Q n .stmt s))
 inner:∀{Q:PIn} {c H:Nat} {A:Nat->Prop} {tk tv:Value} {s:PS} {w:World} (p:Int),s.fault<0->z8V Q c H A tk tv s w->Fit Q n (.inner p) s->Calls Tryz.prog 49 #[.pointer (some ⟨c,0,none⟩),.int .i64 p] w (zbE Q c H A tk w (run Q n (.inner p) s))
 cond:∀{Q:PIn} {c H:Nat} {A:Nat->Prop} {tk tv:Value} {s:PS} {w:World} (p:Int),isP Q s [105,102]=true->z8V Q c H A tk tv s w->Fit Q n (.cond p) s->Calls Tryz.prog 81 #[.pointer (some ⟨c,0,none⟩),.int .i64 p] w (zbE Q c H A tk w (run Q n (.cond p) s))
theorem zbG{Q:PIn}{c H:Nat}{A:Nat->Prop}{tk tv:Value}{s:PS}{w:World}(k a b d pos:Int)(list:List Int)(names:List ByteArray)(lv nv:Value)(h:z8V Q c H A tk tv s w)(hl:w.ownsRow H 3 1 lv list.length (list.map (Value.int .i64)))(hn:w.ownsRow H 9 1 nv names.length (names.map Value.string))(hla:∀ g,lv.ownBlock=some g->¬ A g)(hna:∀ g,nv.ownBlock=some g->¬ A g)(hfew:s.tree.length<=10000):
  Calls Tryz.prog 26 #[.pointer (some ⟨c,0,none⟩),.agg #[.int .i64 k,.int .i64 a,.int .i64 b,.int .i64 d,lv,nv,.int .u64 0,.int .i64 pos]] w fun e w'=>∃ tv',e=.returned (.int .i64 (s.tree.length:Int))/\z8V Q c H A tk tv' (addP s ⟨k,a,b,d,list,names,0,pos⟩) w'/\z90 H c w w':=
 z9k ⟨k,a,b,d,list,names,0,pos⟩ lv nv h hl hn hla hna hfew
theorem zbH{Q:PIn}{c H:Nat}{A:Nat->Prop}{tk tv:Value}{s:PS}{w:World}(k a b d pos:Int)(h:z8V Q c H A tk tv s w)(hfew:s.tree.length<=10000):
  Calls Tryz.prog 26 #[.pointer (some ⟨c,0,none⟩),.agg #[.int .i64 k,.int .i64 a,.int .i64 b,.int .i64 d,.slice none 0 0,.slice none 0 0,.int .u64 0,.int .i64 pos]] w fun e w'=>∃ tv',e=.returned (.int .i64 (s.tree.length:Int))/\z8V Q c H A tk tv' (addP s ⟨k,a,b,d,[],[],0,pos⟩) w'/\z90 H c w w':=
 zbG k a b d pos [] [] (.slice none 0 0) (.slice none 0 0) h (World.ownsRow_nil w H _ _) (World.ownsRow_nil w H _ _) (fun g hg=>by simp[Value.ownBlock]at hg) (fun g hg=>by simp[Value.ownBlock]at hg) hfew
theorem zbI{n:Nat}(ih:zbF n){Q:PIn}{c H:Nat}{A:Nat->Prop}{tk tv:Value}{s:PS}{w:World}(h:z8V Q c H A tk tv s w)(hf:Fit Q n (.level 0) s):
  Calls Tryz.prog 80 #[.pointer (some ⟨c,0,none⟩)] w (zbE Q c H A tk w (run Q n (.level 0) s)):=by
 have c0:Calls Tryz.prog 97 #[.pointer (some ⟨c,0,none⟩),.int .i64 0] w (zbE Q c H A tk w (run Q n (.level 0) s)):=ih.level 0 (by omega) h hf
 obtain⟨R,hR⟩:∃ R,run Q n (.level 0) s=R:=⟨_,rfl⟩;rw[hR]at c0 ⊢;clear h hf hR;go_enter Tryz.func80,Tryz.ntmps80;go_wp2_with fail;refine c0.mono ?_;rintro e w1 ⟨tv1,rfl,p1,q1⟩;have HE:Hid (z8V Q c H A tk tv1 R.2.2 w1/\z90 H c w w1):=⟨p1,q1⟩;clear c0 p1 q1;go_wp2;go_ret;exact⟨tv1,rfl,HE.out.1,HE.out.2⟩
theorem zbJ{n:Nat}(ih:zbF n){Q:PIn}{c H:Nat}{A:Nat->Prop}{tk tv:Value}{s:PS}{w:World}(k p:Int)(h:z8V Q c H A tk tv s w)(hf:Fit Q (n+1) (.plain k p) s):
  Calls Tryz.prog 75 #[.pointer (some ⟨c,0,none⟩),.int .i64 k,.int .i64 p] w (zbE Q c H A tk w (run Q (n+1) (.plain k p) s)):=by
 have hw:=z6F Q n (.level 0) s (by intro p e;cases e) h.i
 have cE:=zbI ih h (zbC (by have:=hf.need;simp only[z5Q,z5P]at this ⊢;omega) hf.depth (by have:=hf.all;simp only[z6E];omega))
 have hk:=z6s Q (run Q n (.level 0) s).2.2 [59];have HFEW:Hid ((z4X Q (run Q n (.level 0) s).2.2 [59]).tree.length<=10000):=by
  have h1:=hw.all;have h2:=hf.all;simp only[z6E]at h1;have:=zbD (Q:=Q) (s:=z4X Q (run Q n (.level 0) s).2.2 [59]) (k:=10000) (by omega)
  exact this
 have e:run Q (n+1) (.plain k p) s=endN (z4X Q (run Q n (.level 0) s).2.2 [59]) ⟨k,(run Q n (.level 0) s).1,0,0,[],[],0,p⟩:=rfl;rw[e];obtain⟨R,hR⟩:∃ R,run Q n (.level 0) s=R:=⟨_,rfl⟩;rw[hR]at cE HFEW ⊢;clear h hf hR e hw hk;go_enter Tryz.func75,Tryz.ntmps75;go_wp2_with fail;refine cE.mono ?_;rintro e w1 ⟨tv1,rfl,p1,q1⟩;have cT:=z98 ⟨#[59]⟩ p1;clear cE p1;go_wp2_with fail;refine cT.mono ?_;rintro e w2 ⟨rfl,p2,q2⟩;have cN:=zbH k R.1 0 0 p p2 HFEW.out;have q12:=q1.trans q2;clear cT p2 q1 q2 HFEW;go_wp2_with fail;refine cN.mono ?_;rintro e w3 ⟨tv3,rfl,p3,q3⟩;have HE:Hid (z8V Q c H A tk tv3 (addP (z4X Q R.2.2 [59]) ⟨k,R.1,0,0,[],[],0,p⟩) w3/\z90 H c w w3):=⟨p3,q12.trans q3⟩;clear cN p3 q3 q12;go_wp2;go_ret;exact⟨tv3,rfl,HE.out.1,HE.out.2⟩
theorem zbK{n:Nat}(ih:zbF n){Q:PIn}{c H:Nat}{A:Nat->Prop}{tk tv:Value}{s:PS}{w:World}(p:Int)(h:z8V Q c H A tk tv s w)(hf:Fit Q (n+1) (.fn p) s):
  Calls Tryz.prog 83 #[.pointer (some ⟨c,0,none⟩),.int .i64 p] w (zbE Q c H A tk w (run Q (n+1) (.fn p) s)):=by
 have li:=(z5t Q s).most h.i;have wp:=z6z Q s;have hw:=z6F Q n .block (z52 Q s) (by intro p e;cases e) li
 have lp:=z5N (z5t Q s);have hneed:=hf.need;have hwt:wt Q (z52 Q s)+1<=9000:=by
  rcases hf.wt with ⟨k1,k2⟩|⟨_,k2⟩
  ·have:=z6A h.i k1;omega
  ·simp only[z6E]at k2;omega
 simp only[z5Q,z5P]at hneed;have FB:Fit Q n .block (z52 Q s):=zbC (by simp only[z5Q,z5P];omega) (by rw[z5u];exact hf.depth) (by simp only[z6E];omega)
 have HFEW:Hid ((run Q n .block (z52 Q s)).2.2.tree.length<=10000):=by
  have h1:=hw.all;simp only[z6E]at h1;have:=zbD (Q:=Q) (s:=(run Q n .block (z52 Q s)).2.2) (k:=10000) (by omega)
  exact this
 have e:run Q (n+1) (.fn p) s=endN (run Q n .block (z52 Q s)).2.2 ⟨13,(run Q n .block (z52 Q s)).1,0,0,[],z51 Q s,0,p⟩:=rfl;rw[e];have cP:=z9q h;have cB:=fun(B:Nat->Prop) (W:World) (v:Value) (k:z8V Q c H B tk v (z52 Q s) W)=>ih.block k FB;obtain⟨R,hR⟩:∃ R,run Q n .block (z52 Q s)=R:=⟨_,rfl⟩;rw[hR]at cB HFEW ⊢;have HHW:Hid (H<=w.heap.size/\c<H/\∀ g,A g->g<w.heap.size):=⟨h.hw,h.ch,h.early⟩;clear h hf hR e hw wp lp li FB hneed hwt;go_enter Tryz.func83,Tryz.ntmps83;go_wp2_with fail;refine cP.mono ?_;rintro e w1 ⟨v,rfl,r1,p1,q1⟩;obtain⟨va,vc,rfl⟩:=z8A r1;have cB1:=cB _ _ _ p1;clear cP cB p1;go_wp2_with fail;refine cB1.mono ?_;rintro e w2 ⟨tv2,rfl,p2,q2⟩;have r2:=z91 r1 q2 (by decide) (z9n r1 (by have:=HHW.out;omega))
 have p2':z8V Q c H A tk tv2 R.2.2 w2:=p2.fewer fun g hg=>.inl hg;have cN:=zbG 13 R.1 0 0 p [] (z51 Q s) (.slice none 0 0) (.slice va (z51 Q s).length vc) p2' (World.ownsRow_nil w2 H _ _) (z8E r2 HHW.out.1) (fun g hg=>by simp[Value.ownBlock]at hg) (fun g hg ha=>by have h1:=(r2.lt g hg).1;have h2:=HHW.out.2.2 g ha;omega) HFEW.out
 have q12:=q1.trans q2;clear cB1 p2 p2' q1 q2 HFEW r1 r2;go_wp2_with fail;refine cN.mono ?_;rintro e w3 ⟨tv3,rfl,p3,q3⟩;have HE:Hid (z8V Q c H A tk tv3 (addP R.2.2 ⟨13,R.1,0,0,[],z51 Q s,0,p⟩) w3/\z90 H c w w3):=⟨p3,q12.trans q3⟩;clear cN p3 q3 q12;go_wp2;go_ret;exact⟨tv3,rfl,HE.out.1,HE.out.2⟩
theorem zbL{n:Nat}(ih:zbF n){Q:PIn}{c H:Nat}{A:Nat->Prop}{tk tv:Value}{s:PS}{w:World}(h:z8V Q c H A tk tv s w)(hf:Fit Q (n+1) .stmt s):
  Calls Tryz.prog 25 #[.pointer (some ⟨c,0,none⟩)] w (zbE Q c H A tk w (run Q (n+1) .stmt s)):=by
 have cI:=z9b h hf.depth;have hneed:=hf.need;have hwt:=hf.all;simp only[z5Q,z5P]at hneed;have li:=(z5n Q s).most h.i;have wi:=z6q Q s;have ri:=z5N (z5n Q s);by_cases hin:(inP Q s).fault<0
 ·have hd:=z5o hin;have FI:∀ p,Fit Q n (.inner p) (inP Q s):=fun p=>⟨by simp only[z5Q,z5P];omega,by rw[z5m];omega,.inl ⟨hin,by omega⟩⟩
  have hdep:∀ p,1<=(run Q n (.inner p) (inP Q s)).2.2.depth:=fun p=>by rw[z5y,z5m];omega
  have e:run Q (n+1) .stmt s=((run Q n (.inner (z4T Q (inP Q s))) (inP Q s)).1,[],outP (run Q n (.inner (z4T Q (inP Q s))) (inP Q s)).2.2):=by rw[run,if_pos hin]
  rw[e];rw[yb9 hin]at cI;have cP:=fun(W:World) (v:Value) (k:z8V Q c H A tk v (inP Q s) W)=>z8X k;have cN:=fun(p:Int) (W:World) (v:Value) (k:z8V Q c H A tk v (inP Q s) W)=>ih.inner p hin k (FI p);obtain⟨S,hS⟩:∃ S,inP Q s=S:=⟨_,rfl⟩;rw[hS]at cI cP cN hdep ⊢;obtain⟨P,hP⟩:∃ P,z4T Q S=P:=⟨_,rfl⟩;rw[hP]at cP ⊢;have cN1:=cN P;obtain⟨R,hR⟩:∃ R,run Q n (.inner P) S=R:=⟨_,rfl⟩;have hdep1:=hdep P;rw[hR]at cN1 hdep1 ⊢;clear h hf hneed hwt li wi ri hd FI e hin hS hP hR cN hdep;go_enter Tryz.func25,Tryz.ntmps25;go_wp2_with fail;refine cI.mono ?_;rintro e w1 ⟨rfl,p1,q1⟩;have cP1:=cP _ _ p1;clear cI cP;go_wp2_with fail;refine cP1.mono ?_;rintro e w2 ⟨rfl,b2⟩;have p2:=p1.below b2;have q2:=q1.trans (z90.of_below b2 p1.hw);have cN2:=cN1 _ _ p2;clear cP1 cN1 p1 q1 b2 p2;go_wp2_with fail;refine cN2.mono ?_;rintro e w3 ⟨tv3,rfl,p3,q3⟩;have cO:=z9a p3 hdep1;have q13:=q2.trans q3;clear cN2 p3 q3 q2;go_wp2_with fail;refine cO.mono ?_;rintro e w4 ⟨rfl,p4,q4⟩;have HE:Hid (z8V Q c H A tk tv3 (outP R.2.2) w4/\z90 H c w w4):=⟨p4,q13.trans q4⟩;clear cO p4 q4 q13;go_wp2;go_ret;exact⟨tv3,rfl,HE.out.1,HE.out.2⟩
 ·have e:run Q (n+1) .stmt s=(0,[],outP (inP Q s)):=by rw[run,if_neg hin]
  have hdep:1<=(inP Q s).depth:=by rw[z5m];omega
  rw[e];rw[ya9 hin]at cI;obtain⟨S,hS⟩:∃ S,inP Q s=S:=⟨_,rfl⟩;rw[hS]at cI hdep ⊢;clear h hf hneed hwt li wi ri e hin hS;go_enter Tryz.func25,Tryz.ntmps25;go_wp2_with fail;refine cI.mono ?_;rintro e w1 ⟨rfl,p1,q1⟩;have cO:=z9a p1 hdep;clear cI p1;go_wp2_with fail;refine cO.mono ?_;rintro e w4 ⟨rfl,p4,q4⟩;have HE:Hid (z8V Q c H A tk tv (outP S) w4/\z90 H c w w4):=⟨p4,q1.trans q4⟩;clear cO p4 q4 q1;go_wp2;go_ret;exact⟨tv,rfl,HE.out.1,HE.out.2⟩
def parL(Q:PIn)(c:Nat)(w:World):Nat:=if intOf ((w.cell? ⟨c,5,none⟩).getD (.int .i64 0))<0 then Q.T.length+1-(intOf ((w.cell? ⟨c,1,none⟩).getD (.int .i64 0))).toNat else 0
theorem zbM{Q:PIn}{c H:Nat}{A:Nat->Prop}{tk tv:Value}{s:PS}{w:World}(h:z8V Q c H A tk tv s w):parL Q c w=z5M Q s:=by
 obtain⟨_,d1,_,_,d5,_⟩:=h.cells;unfold parL z5M;rw[d5,d1];rfl
theorem zbN{Q:PIn}{s:PS}:z5M Q s<=Q.T.length+1:=by
 unfold z5M;split<;>omega
structure StAt(Q:PIn)(n:Nat)(c:List Int->Cmd)(Y:Int × List Int × PS)(M:Nat)(l:List Int)(t:PS):Prop where
 le:M<=n
 need:z5Q Q (c l) t<=M
 wt:wt Q t<=9000
 depth:t.depth<=24
 len:l.length+z5M Q t<=201
 run:run Q M (c l) t=Y
theorem zbO{Q:PIn}{n M:Nat}{Y:Int × List Int × PS}{l:List Int}{t:PS}(h:StAt Q n .stmts Y M l t)(hi:t.i<=Q.T.length)(hf:t.fault<0)(hb:isP Q t [125]=false):
  ∃ m,m<=n/\Fit Q m .stmt t/\StAt Q n .stmts Y m (l++[(run Q m .stmt t).1]) (run Q m .stmt t).2.2/\z5M Q (run Q m .stmt t).2.2<z5M Q t:=by
 have h1:=h.need;simp only[z5Q,z5P]at h1;obtain⟨m,rfl⟩:∃ m,M=m+1:=⟨M-1,by omega⟩
 have l1:=z5x Q m .stmt t (by intro p e;cases e)
 have o1:=z5L Q m .stmt t (by intro p e;cases e)
 have r1:=z5O l1 o1 (yf9 _) hi hf;have w1:=(z6F Q m .stmt t (by intro p e;cases e) hi).all
 have h2:=h.wt;have h3:=h.le;have h4:=h.len;simp only[z6E]at w1;have e:run Q (m+1) (.stmts l) t=run Q m (.stmts (l++[(run Q m .stmt t).1])) (run Q m .stmt t).2.2:=by rw[run,if_pos ⟨hf,hb⟩]
 refine⟨m,by omega,⟨by simp only[z5Q,z5P];omega,h.depth,.inl ⟨hf,h2⟩⟩,⟨by omega,by simp only[z5Q,z5P];omega,by omega,by rw[z5y];exact h.depth,by simp;omega,by rw[←e];exact h.run⟩,by omega⟩
theorem zbP{Q:PIn}{n M:Nat}{Y:Int × List Int × PS}{l:List Int}{t:PS}(h:StAt Q n .stmts Y M l t)(hb:¬ (t.fault<0/\isP Q t [125]=false)):Y=(0,l,t):=by
 have h1:=h.need;simp only[z5Q,z5P]at h1;obtain⟨m,rfl⟩:∃ m,M=m+1:=⟨M-1,by omega⟩
 have:=h.run;rw[run,if_neg hb]at this;exact this.symm
theorem zbQ{n:Nat}(ih:∀ m,m<=n->zbF m){Q:PIn}{c H:Nat}{A:Nat->Prop}{tk tv:Value}{s:PS}{w:World}(h:z8V Q c H A tk tv s w)(hf:Fit Q (n+1) .block s):
  Calls Tryz.prog 82 #[.pointer (some ⟨c,0,none⟩)] w (zbE Q c H A tk w (run Q (n+1) .block s)):=by
 have cP:=z8X h;have cI:=fun(B:Nat->Prop) (W:World) (k:z8V Q c H B tk tv s W)=>z9b k hf.depth;have hneed:=hf.need;have hwt:=hf.all;simp only[z5Q,z5P]at hneed;have li:=(z5n Q s).most h.i;have wi:=z6q Q s;have ri:=z5N (z5n Q s);have HHW:Hid (H<=w.heap.size/\c<H/\∀ g,A g->g<w.heap.size):=⟨h.hw,h.ch,h.early⟩;have hcB:c<w.heap.size:=by have:=h.hw;have:=h.ch;omega
 have HP0:Hid (z8V Q c H A tk tv s w):=h;obtain⟨i0,hi0,hz0,hz1,hz2⟩:=z8y Tryz.infoInt;by_cases hin:(inP Q s).fault<0
 ·have hd:=z5o hin;have lt:=(z5e Q (inP Q s) [123]).most li;have wt1:=z6s Q (inP Q s) [123];have rt:=z5O (z5e Q (inP Q s) [123]) (z5B Q (inP Q s) [123]) (yf9 _) li hin;have hl0:z5M Q (z4X Q (inP Q s) [123])<=201:=by have:=zbN (Q:=Q) (s:=z4X Q (inP Q s) [123]);have:=h.few;omega
  have HY0:Hid (StAt Q n .stmts (run Q n (.stmts []) (z4X Q (inP Q s) [123])) n [] (z4X Q (inP Q s) [123])):=⟨yf9 _,by simp only[z5Q,z5P];omega,by omega,by rw[z5f,z5m];omega,by simp;exact hl0,rfl⟩
  have wS:=(z6F Q n (.stmts []) (z4X Q (inP Q s) [123]) (by intro p e;cases e) lt).all
  have wE:=z6s Q (run Q n (.stmts []) (z4X Q (inP Q s) [123])).2.2 [125];simp only[z6E]at wS;have HFEW:Hid ((outP (z4X Q (run Q n (.stmts []) (z4X Q (inP Q s) [123])).2.2 [125])).tree.length<=10000):=by
   have:=zbD (Q:=Q) (s:=outP (z4X Q (run Q n (.stmts []) (z4X Q (inP Q s) [123])).2.2 [125])) (k:=10000) (by rw[z6p];omega)
   exact this
  have HDEP:Hid (1<=(z4X Q (run Q n (.stmts []) (z4X Q (inP Q s) [123])).2.2 [125]).depth):=by
   have:(z4X Q (run Q n (.stmts []) (z4X Q (inP Q s) [123])).2.2 [125]).depth=s.depth+1:=by rw[z5f,z5y,z5f,z5m]
   show 1<=_;omega
  have e:run Q (n+1) .block s=endN (outP (z4X Q (run Q n (.stmts []) (z4X Q (inP Q s) [123])).2.2 [125])) ⟨29,0,0,0,(run Q n (.stmts []) (z4X Q (inP Q s) [123])).2.1,[],0,z4T Q s⟩:=by rw[run,if_pos hin]
  rw[e];rw[yb9 hin]at cI;obtain⟨S,hS⟩:∃ S,inP Q s=S:=⟨_,rfl⟩;rw[hS]at cI HY0 HFEW HDEP ⊢;obtain⟨Y,hY⟩:∃ Y,run Q n (.stmts []) (z4X Q S [123])=Y:=⟨_,rfl⟩;rw[hY]at HY0 HFEW HDEP ⊢;obtain⟨P,hP⟩:∃ P,z4T Q s=P:=⟨_,rfl⟩;rw[hP]at cP ⊢;clear h hf hneed hwt li wi ri hd lt wt1 rt hl0 wS wE e hin hS hY hP;go_enter Tryz.func82,Tryz.ntmps82;go_wp2_with fail;refine cP.mono ?_;rintro e w1 ⟨rfl,b1⟩;have h1:=HP0.out.below b1;obtain⟨k1,k2⟩:=h1.begin 3;have o1:=z8E (z9p w1 3) b1.size;have Q1:=(z90.of_below b1 HHW.out.1).trans k2;have cI1:=cI _ _ k1;clear cP cI h1 k1 k2 b1;go_wp2_with fail;refine cI1.mono ?_;rintro e w2 ⟨rfl,p2,q2⟩;have r2:=z91 o1 q2 (by decide) (z9n o1 hcB)
  have Q2:=Q1.trans q2;have cT:=z98 ⟨#[123]⟩ p2;clear cI1 p2 o1 Q1 q2;go_wp2_with fail;refine cT.mono ?_;rintro e w3 ⟨rfl,p3,q3⟩;have r3:=z91 r2 q3 (by decide) (z9n r2 hcB)
  have Q3:=Q2.trans q3;clear cT r2 Q2 q3;go_upto_region 5 with fail;go_loopw [4] (fun v wr=>∃(t:PS) (l:List Int) (M:Nat) (tvv:Value),wr.ownsRow w.heap.size 3 1 v l.length (l.map (Value.int .i64))/\z8V Q c H (Av A v) tk tvv t wr/\z90 H c w wr/\Hid (StAt Q n .stmts Y M l t)) (fun _ wr=>parL Q c wr)
  case atStart=>exact⟨_,[],n,_,r3,p3,Q3,HY0⟩
  case round=>
   clear r3 p3 Q3 HY0;obtain⟨t,l,M,tvv,r0,p0,P0,HM⟩:=hrel;obtain⟨la,lc,rfl⟩:=z8A r0;obtain⟨nl,hnl⟩:∃ n,l.length=n:=⟨_,rfl⟩;have HLn:Hid (l.length=nl):=hnl;rw[hnl]at r0 p0;simp only[hnl];clear hnl;have HPP:Hid (z8V Q c H (Av A (.slice la nl lc)) tk tvv t wr):=p0;obtain⟨_,_,_,_,d5,_⟩:=p0.cells;obtain⟨f,hf⟩:∃ f,t.fault=f:=⟨_,rfl⟩;rw[hf]at d5;have cI1:=z96 ⟨#[125]⟩ p0;have hs0:isP Q t (⟨#[125]⟩:ByteArray).data.toList=isP Q t [125]:=rfl;rw[hs0]at cI1;by_cases hgo:t.fault<0/\isP Q t [125]=false
   ·obtain⟨m,hm,FS0,HN,hlt⟩:=zbO HM.out p0.i hgo.1 hgo.2;have hf0:f<0:=by rw[←hf];exact hgo.1
    rw[hgo.2]at cI1;have cS:=fun(W:World) (k:z8V Q c H (Av A (.slice la nl lc)) tk tvv t W)=>(ih m hm).stmt k FS0;have hnl:nl<=201:=by have:=HM.out.len;have:=HLn.out;omega
    obtain⟨R,hR⟩:∃ R,run Q m .stmt t=R:=⟨_,rfl⟩;rw[hR]at cS HN hlt;have HN2:Hid (StAt Q n .stmts Y m (l++[R.1]) R.2.2/\z5M Q R.2.2<z5M Q t):=⟨HN,hlt⟩;clear hgo FS0 HN hlt hf HM hs0 hR;go_wp2_with fail;refine cI1.mono ?_;rintro e w2 ⟨rfl,b2⟩;have p2:=p0.below b2;have P2:=P0.trans (z90.of_below b2 p0.hw);have r2:=z8B r0 b2;have cS1:=cS _ p2;clear p0 P0 r0 b2 cI1 d5 cS p2;go_wp2_with fail;refine cS1.mono ?_;rintro e w4 ⟨tv4,rfl,p4,q4⟩;have r4:=z91 r2 q4 (by decide) (z9n r2 hcB)
    have Q4:=P2.trans q4;have HEND:Hid (z8V Q c H (Av A (.slice la nl lc)) tk tv4 R.2.2 w4/\z90 H c w w4):=⟨p4,Q4⟩;have hw4:=p4.hw;have hwz:w.heap.size<=w4.heap.size:=Q4.size;clear cS1 r2 P2 q4 p4 Q4;go_wp2_with (at_builtin;refine wpList_append_own_at _ rfl _ _ 29 rfl w.heap.size 3 i0 (.int .i64 0) 1 8 Tryz.underlying29 hi0 hz0 hz1 hz2 rfl (by decide) _ nl (l.map (Value.int .i64)) rfl (r4.alloc _) ⟨w4.heap.size,0,none⟩ 1 1 [.int .i64 R.1] rfl rfl (cell_one_new _ _ _) (fun u hu=>by simp at hu;subst hu;rfl) (by unfold maxLen;omega) (by omega) (by simp;omega) ?_;intro v' w5 ho5 hg5 _ hat5;have HAP:Aside (w5.ownsRow w.heap.size 3 1 v' (nl+1) (l.map (Value.int .i64)++[.int .i64 R.1])/\(w4.alloc (.cells #[.int .i64 R.1] 3)).grownBy w5 (Value.ownBlock (.slice la nl lc))/\(v'.ownBlock=Value.ownBlock (.slice la nl lc)\/v'.ownBlock=some (w4.alloc (.cells #[.int .i64 R.1] 3)).heap.size)):=⟨ho5,hg5,hat5⟩;clear ho5 hg5 hat5)
    go_roundw
    case rel=>
     obtain⟨ho5,hg5,hat5⟩:=HAP.out;obtain⟨k1,k2⟩:=z9o HEND.out.1 HEND.out.2 HHW.out.1 r4 (by decide) hg5 hat5 ho5
     exact⟨R.2.2,l++[R.1],m,tv4,by rw[List.map_append,List.length_append,HLn.out];exact ho5,k1,k2,HN2.out.1⟩
    case measure=>
     obtain⟨ho5,hg5,hat5⟩:=HAP.out;obtain⟨k1,k2⟩:=z9o HEND.out.1 HEND.out.2 HHW.out.1 r4 (by decide) hg5 hat5 ho5
     rw[zbM k1,zbM HPP.out];exact HN2.out.2
   ·have hY2:=zbP HM.out hgo;subst hY2;have cE:=fun(W:World) (k:z8V Q c H (Av A (.slice la nl lc)) tk tvv t W)=>z98 ⟨#[125]⟩ k;have ends:∀(w2:World),z8V Q c H (Av A (.slice la nl lc)) tk tvv t w2->z90 H c w w2->w2.ownsRow w.heap.size 3 1 (.slice la nl lc) nl (l.map (Value.int .i64))->True:=fun _ _ _ _=>trivial;by_cases hf0:f<0
    ·have hs:isP Q t [125]=true:=by
      cases hx:isP Q t [125]with
      | true=>rfl
      | false=>exact absurd ⟨by rw[hf];exact hf0,hx⟩ hgo
     rw[hs]at cI1;clear hgo hs hf HM hs0 ends ih;go_wp2_with fail;refine cI1.mono ?_;rintro e w2 ⟨rfl,b2⟩;have p2:=p0.below b2;have P2:=P0.trans (z90.of_below b2 p0.hw);have r2:=z8B r0 b2;have cE1:=cE _ p2;clear p0 P0 r0 b2 cI1 d5 cE p2;go_wp2_with fail;refine cE1.mono ?_;rintro e w3 ⟨rfl,p3,q3⟩;have r3:=z91 r2 q3 (by decide) (z9n r2 hcB)
     have Q3:=P2.trans q3;have cO:=z9a p3 HDEP.out;clear cE1 r2 P2 q3 p3;go_wp2_with fail;refine cO.mono ?_;rintro e w4 ⟨rfl,p4,q4⟩;have r4:=z91 r3 q4 (by decide) (z9n r3 hcB)
     have Q4:=Q3.trans q4;have p4':z8V Q c H A tk tvv (outP (z4X Q t [125])) w4:=p4.fewer fun g hg=>.inl hg;have cN:=zbG 29 0 0 0 P l [] (.slice la nl lc) (.slice none 0 0) p4' (by rw[HLn.out];exact z8E r4 HHW.out.1) (World.ownsRow_nil w4 H _ _) (fun g hg ha=>by have h1:=(r4.lt g hg).1;have h2:=HHW.out.2.2 g ha;omega) (fun g hg=>by simp[Value.ownBlock]at hg) HFEW.out
     clear cO p4 p4' r3 r4 Q3 q4;go_wp2_with fail;refine cN.mono ?_;rintro e w5 ⟨tv5,rfl,p5,q5⟩;have HE:Hid (z8V Q c H A tk tv5 (addP (outP (z4X Q t [125])) ⟨29,0,0,0,l,[],0,P⟩) w5/\z90 H c w w5):=⟨p5,Q4.trans q5⟩;clear cN p5 q5 Q4;go_wp2;go_ret;exact⟨tv5,rfl,HE.out.1,HE.out.2⟩
    ·have hf0':decide (f<0)=false:=ya9 hf0;have cE1:=cE _ p0;have r2:=r0;have P2:=P0;clear hgo hf HM hs0 ends ih hf0 p0 P0 r0 cI1 cE;go_wp2_with fail;refine cE1.mono ?_;rintro e w3 ⟨rfl,p3,q3⟩;have r3:=z91 r2 q3 (by decide) (z9n r2 hcB)
     have Q3:=P2.trans q3;have cO:=z9a p3 HDEP.out;clear cE1 r2 P2 q3 p3;go_wp2_with fail;refine cO.mono ?_;rintro e w4 ⟨rfl,p4,q4⟩;have r4:=z91 r3 q4 (by decide) (z9n r3 hcB)
     have Q4:=Q3.trans q4;have p4':z8V Q c H A tk tvv (outP (z4X Q t [125])) w4:=p4.fewer fun g hg=>.inl hg;have cN:=zbG 29 0 0 0 P l [] (.slice la nl lc) (.slice none 0 0) p4' (by rw[HLn.out];exact z8E r4 HHW.out.1) (World.ownsRow_nil w4 H _ _) (fun g hg ha=>by have h1:=(r4.lt g hg).1;have h2:=HHW.out.2.2 g ha;omega) (fun g hg=>by simp[Value.ownBlock]at hg) HFEW.out
     clear cO p4 p4' r3 r4 Q3 q4;go_wp2_with fail;refine cN.mono ?_;rintro e w5 ⟨tv5,rfl,p5,q5⟩;have HE:Hid (z8V Q c H A tk tv5 (addP (outP (z4X Q t [125])) ⟨29,0,0,0,l,[],0,P⟩) w5/\z90 H c w w5):=⟨p5,Q4.trans q5⟩;clear cN p5 q5 Q4;go_wp2;go_ret;exact⟨tv5,rfl,HE.out.1,HE.out.2⟩
 ·have e:run Q (n+1) .block s=endN (outP (inP Q s)) ⟨29,0,0,0,[],[],0,z4T Q s⟩:=by rw[run,if_neg hin]
  have HDEP:Hid (1<=(inP Q s).depth):=by rw[z5m];show 1<=_;omega
  have HFEW:Hid ((outP (inP Q s)).tree.length<=10000):=by
   have:=zbD (Q:=Q) (s:=outP (inP Q s)) (k:=10000) (by rw[z6p];omega)
   exact this
  rw[e];rw[ya9 hin]at cI;obtain⟨S,hS⟩:∃ S,inP Q s=S:=⟨_,rfl⟩;rw[hS]at cI HDEP HFEW ⊢;obtain⟨P,hP⟩:∃ P,z4T Q s=P:=⟨_,rfl⟩;rw[hP]at cP ⊢;clear h hf hneed hwt li wi ri e hin hS hP ih;go_enter Tryz.func82,Tryz.ntmps82;go_wp2_with fail;refine cP.mono ?_;rintro e w1 ⟨rfl,b1⟩;have h1:=HP0.out.below b1;obtain⟨k1,k2⟩:=h1.begin 3;have o1:=z8E (z9p w1 3) b1.size;have Q1:=(z90.of_below b1 HHW.out.1).trans k2;have cI1:=cI _ _ k1;clear cP cI h1 k1 k2 b1;go_wp2_with fail;refine cI1.mono ?_;rintro e w2 ⟨rfl,p2,q2⟩;have r2:=z91 o1 q2 (by decide) (z9n o1 hcB)
  have Q2:=Q1.trans q2;have cO:=z9a p2 HDEP.out;clear cI1 p2 o1 Q1 q2;go_wp2_with fail;refine cO.mono ?_;rintro e w4 ⟨rfl,p4,q4⟩;have r4:=z91 r2 q4 (by decide) (z9n r2 hcB)
  have Q4:=Q2.trans q4;have p4':z8V Q c H A tk tv (outP S) w4:=p4.fewer fun g hg=>.inl hg;have cN:=zbG 29 0 0 0 P [] [] (.slice (some ⟨w1.heap.size,0,none⟩) 0 0) (.slice none 0 0) p4' (z8E r4 HHW.out.1) (World.ownsRow_nil w4 H _ _) (fun g hg ha=>by have h1:=(r4.lt g hg).1;have h2:=HHW.out.2.2 g ha;omega) (fun g hg=>by simp[Value.ownBlock]at hg) HFEW.out
  clear cO p4 p4' r2 r4 Q2 q4;go_wp2_with fail;refine cN.mono ?_;rintro e w5 ⟨tv5,rfl,p5,q5⟩;have HE:Hid (z8V Q c H A tk tv5 (addP (outP S) ⟨29,0,0,0,[],[],0,P⟩) w5/\z90 H c w w5):=⟨p5,Q4.trans q5⟩;clear cN p5 q5 Q4;go_wp2;go_ret;exact⟨tv5,rfl,HE.out.1,HE.out.2⟩
