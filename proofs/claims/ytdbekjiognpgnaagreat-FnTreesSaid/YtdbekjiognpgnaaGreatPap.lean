/- Part 16. -/
import Derived.Test.YtdbekjiognpgnaaGreatPao
import Derived.Laws.AppendOwnNone
set_option maxHeartbeats 16000000
set_option maxRecDepth 100000
set_option linter.unusedVariables false
namespace Go.Proofs.YtdbekjiognpgnaaGreat
open Go.RowKit Go.Sort
def z9l:Value->Nat
 | .slice _ n _=>n
 | _=>0
def parM(c:Nat)(v:Value)(w:World):Nat:=if intOf ((w.cell? ⟨c,5,none⟩).getD (.int .i64 0))<0 then 6-z9l v else 0
theorem z9m{Q:PIn}{c H:Nat}{A:Nat->Prop}{tk tv:Value}{s:PS}{w:World}(v:Value)(h:z8V Q c H A tk tv s w):parM c v w=if s.fault<0 then 6-z9l v else 0:=by
 obtain⟨_,_,_,_,d5,_⟩:=h.cells;unfold parM;rw[d5];rfl
def Av(A:Nat->Prop)(v:Value):Nat->Prop:=fun g=>A g\/v.ownBlock=some g
theorem z9n{w:World}{B c:Nat}{e:TypeId}{v:Value}{n:Nat}{xs:List Value}(h:w.ownsRow B e 1 v n xs)(hc:c<B):∀ g,v.ownBlock=some g->g≠c:=fun g hg=>by
 have:=(h.lt g hg).1;omega
theorem z9o{Q:PIn}{c H:Nat}{A:Nat->Prop}{tk tv v v':Value}{t:PS}{w w2 w5:World}{e:TypeId}{ys:Array Value}{n m:Nat}{xs zs:List Value}(h:z8V Q c H (Av A v) tk tv t w2)(hst:z90 H c w w2)(hHw:H<=w.heap.size)
  (ho:w2.ownsRow w.heap.size e 1 v n xs) (he:e≠34) (hg:(w2.alloc (.cells ys e)).grownBy w5 v.ownBlock) (hat:v'.ownBlock=v.ownBlock\/v'.ownBlock=some (w2.alloc (.cells ys e)).heap.size) (ho5:w5.ownsRow w.heap.size e 1 v' m zs):
  z8V Q c H (Av A v') tk tv t w5/\z90 H c w w5:=by
 have hb:Below w2.heap.size w2 (w2.alloc (.cells ys e)):=(yg9 _ _).alloc (yf9 _) _;have k:=h.below hb;have hkw:=k.hw;have hch:=k.ch;have ho':=z8B ho hb;have hs2:=hst.size;have hzz:(w2.alloc (.cells ys e)).heap.size=w2.heap.size+1:=by simp
 have ne:∀ j,j<w.heap.size->some j≠v.ownBlock:=fun j hj e1=>by
  have:=(ho'.lt j e1.symm).1;omega
 have hsz:=hg.size;refine⟨⟨(hg.block c (by omega) (ne c (by omega))).trans k.blk,?_,?_,fun g hg'=>?_,hch,by omega,k.few,k.i,k.depth⟩,?_⟩
 ·obtain⟨x,cap,e0,kk⟩:=k.toks;refine⟨x,cap,e0,fun h0=>?_⟩;obtain⟨g,e1,e2,e3,e4⟩:=kk h0;exact⟨g,e1,e2,e3,fun i t hti=>(e4 i t hti).kept (hg.block g (by omega) (ne g (by omega)))⟩
 ·obtain⟨ts,h1,h2⟩:=k.tree;have apart:∀ g,g<(w2.alloc (.cells ys e)).heap.size->¬ Av A v g->¬ Av A v' g:=fun g hlt hn ha=>by
   rcases ha with ha|ha
   ·exact hn (.inl ha)
   ·rcases hat with e1|e1
    ·exact hn (.inr (e1 ▸ ha))
    ·rw[e1]at ha;injection ha with ha;omega
  refine⟨ts,h1.kept hg (z9h h1 ho' (Ne.symm he)),fun q p hq=>?_⟩;obtain⟨lv,nv,k1,k2,k3,k4,k5⟩:=h2 q p hq;have away:∀ u:Value,(∀ g,u.ownBlock=some g->¬ Av A v g)->u.ownBlock=none\/u.ownBlock≠v.ownBlock:=fun u hu=>by
   cases hc:u.ownBlock with
   | none=>exact .inl rfl
   | some g=>exact .inr fun e1=>hu g hc (.inr e1.symm)
  exact⟨lv,nv,k1,k2.kept hg (away lv k4),k3.kept hg (away nv k5),fun g hg'=>apart g (k2.lt g hg').2 (k4 g hg'),fun g hg'=>apart g (k3.lt g hg').2 (k5 g hg')⟩
 ·rcases hg' with ha|ha
  ·have:=k.early g (.inl ha);omega
  ·exact(ho5.lt g ha).2
 ·refine⟨hg.os.trans hst.os,hg.tape.trans hst.tape,hg.output.trans hst.output,by omega,fun j hj hjc=>?_,fun j hj hjc hnn=>?_⟩
  ·exact(hg.block j (by omega) (ne j (by omega))).trans ((hb.block j (by omega)).trans (hst.low j hj hjc))
  ·exact(hg.block j (by omega) (ne j hj)).trans ((hb.block j (by omega)).trans (hst.rest j hj hjc hnn))
theorem z9p(w:World)(e:TypeId):(w.alloc (.cells #[] e)).ownsRow w.heap.size e 1 (.slice (some ⟨w.heap.size,0,none⟩) 0 0) 0 []:=
 ⟨rfl,.inr ⟨w.heap.size,0,#[],rfl,yf9 _,heap_alloc_new w _,yf9 _,yj9 _,rfl,rfl⟩⟩
theorem z8V.begin{Q:PIn}{c H:Nat}{A:Nat->Prop}{tk tv:Value}{s:PS}{w:World}(h:z8V Q c H A tk tv s w)(e:TypeId):z8V Q c H (Av A (.slice (some ⟨w.heap.size,0,none⟩) 0 0)) tk tv s (w.alloc (.cells #[] e))/\z90 H c w (w.alloc (.cells #[] e)):=by
 have hb:Below w.heap.size w (w.alloc (.cells #[] e)):=(yg9 _ _).alloc (yf9 _) _;refine⟨h.later hb fun g hg=>?_,z90.of_below hb h.hw⟩;rcases hg with hg|hg
 ·exact⟨by have:=h.early g hg;simp;omega,.inl hg⟩
 ·have e1:w.heap.size=g:=by simpa [Value.ownBlock] using hg
  exact⟨by simp;omega,.inr (by omega)⟩
theorem z9q{Q:PIn}{c H:Nat}{A:Nat->Prop}{tk tv:Value}{s:PS}{w:World}(h:z8V Q c H A tk tv s w):
  Calls Tryz.prog 98 #[.pointer (some ⟨c,0,none⟩)] w fun e w'=>∃ v,e=.returned v/\w'.ownsRow w.heap.size 9 1 v (z51 Q s).length ((z51 Q s).map Value.string)/\z8V Q c H (Av A v) tk tv (z52 Q s) w'/\z90 H c w w':=by
 obtain⟨Y,hY⟩:∃ Y,parN Q 6 [] (z4X Q s [40])=Y:=⟨_,rfl⟩;have e1:z51 Q s=Y.1:=by unfold z51;rw[hY]
 have e2:z52 Q s=z4X Q Y.2 [41]:=by unfold z52;rw[hY]
 rw[e1,e2];clear e1 e2;have cI:=fun(B:Nat->Prop) (t:PS) (W:World) (k:z8V Q c H B tk tv t W)=>z96 ⟨#[41]⟩ k;have cT0:=fun(B:Nat->Prop) (t:PS) (W:World) (k:z8V Q c H B tk tv t W)=>z98 ⟨#[40]⟩ k;have cT:=fun(B:Nat->Prop) (t:PS) (W:World) (k:z8V Q c H B tk tv t W)=>z98 ⟨#[44]⟩ k;have cE:=fun(B:Nat->Prop) (t:PS) (W:World) (k:z8V Q c H B tk tv t W)=>z98 ⟨#[41]⟩ k;have cB:=fun(B:Nat->Prop) (t:PS) (W:World) (k:z8V Q c H B tk tv t W)=>z97 k;have cN:=fun(B:Nat->Prop) (t:PS) (W:World) (k:z8V Q c H B tk tv t W)=>z99 k;obtain⟨i0,hi0,hz0,hz1,hz2⟩:=z8y Tryz.infoText;have hcH:=h.ch;have HHW:Hid (H<=w.heap.size):=h.hw;have hcB:c<w.heap.size:=by have:=h.hw;omega
 obtain⟨b1,b2⟩:=h.begin 9;have o1:=z9p w 9;go_enter Tryz.func98,Tryz.ntmps98;go_wp2_with fail;refine(cT0 _ _ _ b1).mono ?_;rintro e w1 ⟨rfl,p1,q1⟩;have r1:=z91 o1 q1 (by decide) (z9n o1 hcB)
 have Q1:=b2.trans q1;have HY:Hid (parN Q 6 [] (z4X Q s [40])=Y):=hY;clear b1 b2 o1 q1 cT0 h hY;go_upto_region 3 with fail;go_loopw [3] (fun v wr=>∃(t:PS) (l:List ByteArray) (M:Nat),wr.ownsRow w.heap.size 9 1 v l.length (l.map Value.string)/\z8V Q c H (Av A v) tk tv t wr/\z90 H c w wr/\l.length<=4/\Hid (1<=M/\(t.fault<0->6<=M+l.length)/\parN Q M l t=Y)) (fun v wr=>parM c v wr)
 case atStart=>exact⟨_,[],6,r1,p1,Q1,by simp,⟨by omega,fun _=>by simp,HY.out⟩⟩
 case round=>
  clear r1 p1 Q1 HY;obtain⟨t,l,M,r0,p0,P0,hl4,HM⟩:=hrel;obtain⟨la,lc,rfl⟩:=z8A r0;obtain⟨n,hn⟩:∃ n,l.length=n:=⟨_,rfl⟩;have HLn:Hid (l.length=n):=hn;rw[hn]at r0 p0 hl4;simp only[hn];clear hn;have HP0:Hid (z8V Q c H (Av A (.slice la n lc)) tk tv t wr):=p0;obtain⟨_,_,_,_,d5,_⟩:=p0.cells;obtain⟨f,hf⟩:∃ f,t.fault=f:=⟨_,rfl⟩;rw[hf]at d5;by_cases hgo:t.fault<0/\isP Q t [41]=false
  ·have HF:Hid (t.fault<0):=hgo.1;have HI:Hid (isP Q t [41]=false):=hgo.2;have hf0:f<0:=by rw[←hf];exact hgo.1
   have cI1:=cI _ _ _ p0;have hs:isP Q t (⟨#[41]⟩:ByteArray).data.toList=false:=hgo.2;rw[hs]at cI1;clear hgo hs hf;go_wp2_with fail;refine cI1.mono ?_;rintro e w2 ⟨rfl,b2⟩;have p2:=p0.below b2;have P2:=P0.trans (z90.of_below b2 p0.hw);have r2:=z8B r0 b2;clear p0 P0 r0 b2 cI1 d5;rcases (by omega:n=0\/(0<n/\n<4)\/n=4)with rfl|⟨h0,h3⟩|rfl
   ·have HL:Hid (l.length=0):=HLn.out;have p3:=p2;have P3:=P2;have r3:=r2;clear p2 P2 r2;go_wp2_with fail;refine(cN _ _ _ p3).mono ?_;rintro e w4 ⟨rfl,p4,q4⟩;obtain⟨t4,ht4⟩:∃ u,z4Z Q t=u:=⟨_,rfl⟩;obtain⟨nm,hnm⟩:∃ u,z4Y Q t=u:=⟨_,rfl⟩;have HS:Hid (t=(if l.length=4 then badP Q (if 0<l.length then z4X Q t [44]else t)else (if 0<l.length then z4X Q t [44]else t))):=by rw[if_neg (by have:=HL.out;omega),if_neg (by have:=HL.out;omega)];exact rfl
    rw[ht4]at p4;simp only[hnm];have r4:=z91 r3 q4 (by decide) (z9n r3 hcB)
    have Q4:z90 H c w w4:=P3.trans q4;obtain⟨_,_,_,_,d5,_⟩:=p4.cells;obtain⟨f4,hf4⟩:∃ f,t4.fault=f:=⟨_,rfl⟩;rw[hf4]at d5;obtain⟨m,hm⟩:∃ m,M=m+1:=⟨M-1,by have:=HM.out.1;omega⟩
    have HY2:parN Q m (if t4.fault<0 then l++[nm]else l) t4=Y:=by
     have:=HM.out.2.2;rw[hm,parN,if_pos ⟨HF.out,HI.out⟩]at this;simp only at this;rw[←HS.out,ht4,hnm]at this;exact this
    by_cases hff:f4<0
    ·have hy:parN Q m (l++[nm]) t4=Y:=by rw[hf4,if_pos hff]at HY2;exact HY2
     have HNEW:Hid (1<=m/\(t4.fault<0->6<=m+(l++[nm]).length)/\parN Q m (l++[nm]) t4=Y):=⟨by have:=HM.out.2.1 HF.out;have h9:=HLn.out;omega,fun _=>by have:=HM.out.2.1 HF.out;simp;omega,hy⟩
     have HLE:Hid (l.length+1<=4):=by
      rcases Nat.lt_or_ge l.length 4 with k|k
      ·exact k
      ·exfalso
       have e4:l.length=4:=by have h9:=HLn.out;omega
       have z:=z56 Q (if 0<l.length then z4X Q t [44]else t)
       have hs:=HS.out;rw[if_pos e4]at hs;rw[←hs]at z;have:=(z5h Q t).stays z;rw[ht4,hf4]at this;omega
     have HEND:Hid (z8V Q c H (Av A (.slice la 0 lc)) tk tv t4 w4/\z90 H c w w4):=⟨p4,Q4⟩;have hw4:=p4.hw;have hwz:w.heap.size<=w4.heap.size:=Q4.size;clear HM HY2 hy HS HI hm p4 Q4 q4 cI cT cB cN;go_wp2_with (at_builtin;refine wpList_append_own_at _ rfl _ _ 31 rfl w.heap.size 9 i0 (.string ⟨#[]⟩) 1 16 Tryz.underlying31 hi0 hz0 hz1 hz2 rfl (by decide) _ 0 (l.map Value.string) rfl (r4.alloc _) ⟨w4.heap.size,0,none⟩ 1 1 [.string nm] rfl rfl (cell_one_new _ _ _) (fun u hu=>by simp at hu;subst hu;rfl) (by unfold maxLen;omega) (by omega) (by simp;omega) ?_;intro v' w5 ho5 hg5 _ hat5;have HAP:Aside (w5.ownsRow w.heap.size 9 1 v' (0+1) (l.map Value.string++[.string nm])/\(w4.alloc (.cells #[.string nm] 9)).grownBy w5 (Value.ownBlock (.slice la 0 lc))/\(v'.ownBlock=Value.ownBlock (.slice la 0 lc)\/v'.ownBlock=some (w4.alloc (.cells #[.string nm] 9)).heap.size)):=⟨ho5,hg5,hat5⟩;clear ho5 hg5 hat5)
     go_roundw
     case rel=>
      obtain⟨ho5,hg5,hat5⟩:=HAP.out;obtain⟨k1,k2⟩:=z9o HEND.out.1 HEND.out.2 HHW.out r4 (by decide) hg5 hat5 ho5
      exact⟨t4,l++[nm],m,by rw[List.map_append,List.length_append,HLn.out];exact ho5,k1,k2,by have:=HLE.out;simp;omega,HNEW⟩
     case measure=>
      obtain⟨ho5,hg5,hat5⟩:=HAP.out;obtain⟨k1,k2⟩:=z9o HEND.out.1 HEND.out.2 HHW.out r4 (by decide) hg5 hat5 ho5
      rw[z9m _ HP0.out,z9m _ k1,hf4,if_pos hff,if_pos HF.out];have:=HLE.out;obtain⟨xa,xc,rfl⟩:=z8A ho5;simp only[z9l];have:=HLn.out;omega
    ·have hff':decide (f4<0)=false:=ya9 hff;have hy:parN Q m l t4=Y:=by rw[hf4,if_neg hff]at HY2;exact HY2
     have HNEW:Hid (1<=m/\(t4.fault<0->6<=m+l.length)/\parN Q m l t4=Y):=⟨by have:=HM.out.2.1 HF.out;have h9:=HLn.out;omega,fun k=>by rw[hf4]at k;exact absurd k hff,hy⟩
     have HEND:Hid (z8V Q c H (Av A (.slice la 0 lc)) tk tv t4 w4/\z90 H c w w4/\w4.ownsRow w.heap.size 9 1 (.slice la 0 lc) 0 (l.map Value.string)):=⟨p4,Q4,r4⟩;clear HM HY2 hy HS HI hm p4 Q4 q4 cI cT cB cN r4 hff;go_wp2;go_roundw
     case rel=>exact⟨t4,l,m,by rw[HLn.out];exact HEND.out.2.2,HEND.out.1,HEND.out.2.1,by rw[HLn.out];exact hl4,HNEW⟩
     case measure=>
      rw[z9m _ HP0.out,z9m _ HEND.out.1,hf4,if_neg (by simpa using hff'),if_pos HF.out]
      simp only[z9l];have:=HLn.out;omega
   ·have hd0:(0:Int)<(n:Int):=by omega
    have hd4:((n:Int)==4)=false:=by rw[yc9];omega
    have HL:Hid (0<l.length/\l.length<4):=by rw[HLn.out];exact⟨h0,h3⟩
    go_wp2_with fail;refine(cT _ _ _ p2).mono ?_;rintro e w3 ⟨rfl,p3,q3⟩;have r3:=z91 r2 q3 (by decide) (z9n r2 hcB)
    have P3:=P2.trans q3;clear p2 P2 r2 q3;go_wp2_with fail;refine(cN _ _ _ p3).mono ?_;rintro e w4 ⟨rfl,p4,q4⟩;obtain⟨t4,ht4⟩:∃ u,z4Z Q (z4X Q t [44])=u:=⟨_,rfl⟩;obtain⟨nm,hnm⟩:∃ u,z4Y Q (z4X Q t [44])=u:=⟨_,rfl⟩;have HS:Hid ((z4X Q t [44])=(if l.length=4 then badP Q (if 0<l.length then z4X Q t [44]else t)else (if 0<l.length then z4X Q t [44]else t))):=by rw[if_neg (by have:=HL.out;omega),if_pos (by have:=HL.out;omega)];exact rfl
    rw[ht4]at p4;simp only[hnm];have r4:=z91 r3 q4 (by decide) (z9n r3 hcB)
    have Q4:z90 H c w w4:=P3.trans q4;obtain⟨_,_,_,_,d5,_⟩:=p4.cells;obtain⟨f4,hf4⟩:∃ f,t4.fault=f:=⟨_,rfl⟩;rw[hf4]at d5;obtain⟨m,hm⟩:∃ m,M=m+1:=⟨M-1,by have:=HM.out.1;omega⟩
    have HY2:parN Q m (if t4.fault<0 then l++[nm]else l) t4=Y:=by
     have:=HM.out.2.2;rw[hm,parN,if_pos ⟨HF.out,HI.out⟩]at this;simp only at this;rw[←HS.out,ht4,hnm]at this;exact this
    by_cases hff:f4<0
    ·have hy:parN Q m (l++[nm]) t4=Y:=by rw[hf4,if_pos hff]at HY2;exact HY2
     have HNEW:Hid (1<=m/\(t4.fault<0->6<=m+(l++[nm]).length)/\parN Q m (l++[nm]) t4=Y):=⟨by have:=HM.out.2.1 HF.out;have h9:=HLn.out;omega,fun _=>by have:=HM.out.2.1 HF.out;simp;omega,hy⟩
     have HLE:Hid (l.length+1<=4):=by
      rcases Nat.lt_or_ge l.length 4 with k|k
      ·exact k
      ·exfalso
       have e4:l.length=4:=by have h9:=HLn.out;omega
       have z:=z56 Q (if 0<l.length then z4X Q t [44]else t)
       have hs:=HS.out;rw[if_pos e4]at hs;rw[←hs]at z;have:=(z5h Q (z4X Q t [44])).stays z;rw[ht4,hf4]at this;omega
     have HEND:Hid (z8V Q c H (Av A (.slice la n lc)) tk tv t4 w4/\z90 H c w w4):=⟨p4,Q4⟩;have hw4:=p4.hw;have hwz:w.heap.size<=w4.heap.size:=Q4.size;clear HM HY2 hy HS HI hm p4 Q4 q4 cI cT cB cN;go_wp2_with (at_builtin;refine wpList_append_own_at _ rfl _ _ 31 rfl w.heap.size 9 i0 (.string ⟨#[]⟩) 1 16 Tryz.underlying31 hi0 hz0 hz1 hz2 rfl (by decide) _ n (l.map Value.string) rfl (r4.alloc _) ⟨w4.heap.size,0,none⟩ 1 1 [.string nm] rfl rfl (cell_one_new _ _ _) (fun u hu=>by simp at hu;subst hu;rfl) (by unfold maxLen;omega) (by omega) (by simp;omega) ?_;intro v' w5 ho5 hg5 _ hat5;have HAP:Aside (w5.ownsRow w.heap.size 9 1 v' (n+1) (l.map Value.string++[.string nm])/\(w4.alloc (.cells #[.string nm] 9)).grownBy w5 (Value.ownBlock (.slice la n lc))/\(v'.ownBlock=Value.ownBlock (.slice la n lc)\/v'.ownBlock=some (w4.alloc (.cells #[.string nm] 9)).heap.size)):=⟨ho5,hg5,hat5⟩;clear ho5 hg5 hat5)
     go_roundw
     case rel=>
      obtain⟨ho5,hg5,hat5⟩:=HAP.out;obtain⟨k1,k2⟩:=z9o HEND.out.1 HEND.out.2 HHW.out r4 (by decide) hg5 hat5 ho5
      exact⟨t4,l++[nm],m,by rw[List.map_append,List.length_append,HLn.out];exact ho5,k1,k2,by have:=HLE.out;simp;omega,HNEW⟩
     case measure=>
      obtain⟨ho5,hg5,hat5⟩:=HAP.out;obtain⟨k1,k2⟩:=z9o HEND.out.1 HEND.out.2 HHW.out r4 (by decide) hg5 hat5 ho5
      rw[z9m _ HP0.out,z9m _ k1,hf4,if_pos hff,if_pos HF.out];have:=HLE.out;obtain⟨xa,xc,rfl⟩:=z8A ho5;simp only[z9l];have:=HLn.out;omega
    ·have hff':decide (f4<0)=false:=ya9 hff;have hy:parN Q m l t4=Y:=by rw[hf4,if_neg hff]at HY2;exact HY2
     have HNEW:Hid (1<=m/\(t4.fault<0->6<=m+l.length)/\parN Q m l t4=Y):=⟨by have:=HM.out.2.1 HF.out;have h9:=HLn.out;omega,fun k=>by rw[hf4]at k;exact absurd k hff,hy⟩
     have HEND:Hid (z8V Q c H (Av A (.slice la n lc)) tk tv t4 w4/\z90 H c w w4/\w4.ownsRow w.heap.size 9 1 (.slice la n lc) n (l.map Value.string)):=⟨p4,Q4,r4⟩;clear HM HY2 hy HS HI hm p4 Q4 q4 cI cT cB cN r4 hff;go_wp2;go_roundw
     case rel=>exact⟨t4,l,m,by rw[HLn.out];exact HEND.out.2.2,HEND.out.1,HEND.out.2.1,by rw[HLn.out];exact hl4,HNEW⟩
     case measure=>
      rw[z9m _ HP0.out,z9m _ HEND.out.1,hf4,if_neg (by simpa using hff'),if_pos HF.out]
      simp only[z9l];have:=HLn.out;omega
   ·have HL:Hid (l.length=4):=HLn.out;go_wp2_with fail;refine(cT _ _ _ p2).mono ?_;rintro e w3a ⟨rfl,p3a,q3a⟩;have r3a:=z91 r2 q3a (by decide) (z9n r2 hcB)
    have P3a:=P2.trans q3a;clear p2 P2 r2 q3a;go_wp2_with fail;refine(cB _ _ _ p3a).mono ?_;rintro e w3 ⟨rfl,p3,q3⟩;have r3:=z91 r3a q3 (by decide) (z9n r3a hcB)
    have P3:=P3a.trans q3;clear p3a P3a r3a q3;go_wp2_with fail;refine(cN _ _ _ p3).mono ?_;rintro e w4 ⟨rfl,p4,q4⟩;obtain⟨t4,ht4⟩:∃ u,z4Z Q (badP Q (z4X Q t [44]))=u:=⟨_,rfl⟩;obtain⟨nm,hnm⟩:∃ u,z4Y Q (badP Q (z4X Q t [44]))=u:=⟨_,rfl⟩;have HS:Hid ((badP Q (z4X Q t [44]))=(if l.length=4 then badP Q (if 0<l.length then z4X Q t [44]else t)else (if 0<l.length then z4X Q t [44]else t))):=by rw[if_pos (by have:=HL.out;omega),if_pos (by have:=HL.out;omega)];exact rfl
    rw[ht4]at p4;simp only[hnm];have r4:=z91 r3 q4 (by decide) (z9n r3 hcB)
    have Q4:z90 H c w w4:=P3.trans q4;obtain⟨_,_,_,_,d5,_⟩:=p4.cells;obtain⟨f4,hf4⟩:∃ f,t4.fault=f:=⟨_,rfl⟩;rw[hf4]at d5;obtain⟨m,hm⟩:∃ m,M=m+1:=⟨M-1,by have:=HM.out.1;omega⟩
    have HY2:parN Q m (if t4.fault<0 then l++[nm]else l) t4=Y:=by
     have:=HM.out.2.2;rw[hm,parN,if_pos ⟨HF.out,HI.out⟩]at this;simp only at this;rw[←HS.out,ht4,hnm]at this;exact this
    by_cases hff:f4<0
    ·have hy:parN Q m (l++[nm]) t4=Y:=by rw[hf4,if_pos hff]at HY2;exact HY2
     have HNEW:Hid (1<=m/\(t4.fault<0->6<=m+(l++[nm]).length)/\parN Q m (l++[nm]) t4=Y):=⟨by have:=HM.out.2.1 HF.out;have h9:=HLn.out;omega,fun _=>by have:=HM.out.2.1 HF.out;simp;omega,hy⟩
     have HLE:Hid (l.length+1<=4):=by
      rcases Nat.lt_or_ge l.length 4 with k|k
      ·exact k
      ·exfalso
       have e4:l.length=4:=by have h9:=HLn.out;omega
       have z:=z56 Q (if 0<l.length then z4X Q t [44]else t)
       have hs:=HS.out;rw[if_pos e4]at hs;rw[←hs]at z;have:=(z5h Q (badP Q (z4X Q t [44]))).stays z;rw[ht4,hf4]at this;omega
     have HEND:Hid (z8V Q c H (Av A (.slice la 4 lc)) tk tv t4 w4/\z90 H c w w4):=⟨p4,Q4⟩;have hw4:=p4.hw;have hwz:w.heap.size<=w4.heap.size:=Q4.size;clear HM HY2 hy HS HI hm p4 Q4 q4 cI cT cB cN;go_wp2_with (at_builtin;refine wpList_append_own_at _ rfl _ _ 31 rfl w.heap.size 9 i0 (.string ⟨#[]⟩) 1 16 Tryz.underlying31 hi0 hz0 hz1 hz2 rfl (by decide) _ 4 (l.map Value.string) rfl (r4.alloc _) ⟨w4.heap.size,0,none⟩ 1 1 [.string nm] rfl rfl (cell_one_new _ _ _) (fun u hu=>by simp at hu;subst hu;rfl) (by unfold maxLen;omega) (by omega) (by simp;omega) ?_;intro v' w5 ho5 hg5 _ hat5;have HAP:Aside (w5.ownsRow w.heap.size 9 1 v' (4+1) (l.map Value.string++[.string nm])/\(w4.alloc (.cells #[.string nm] 9)).grownBy w5 (Value.ownBlock (.slice la 4 lc))/\(v'.ownBlock=Value.ownBlock (.slice la 4 lc)\/v'.ownBlock=some (w4.alloc (.cells #[.string nm] 9)).heap.size)):=⟨ho5,hg5,hat5⟩;clear ho5 hg5 hat5)
     go_roundw
     case rel=>
      obtain⟨ho5,hg5,hat5⟩:=HAP.out;obtain⟨k1,k2⟩:=z9o HEND.out.1 HEND.out.2 HHW.out r4 (by decide) hg5 hat5 ho5
      exact⟨t4,l++[nm],m,by rw[List.map_append,List.length_append,HLn.out];exact ho5,k1,k2,by have:=HLE.out;simp;omega,HNEW⟩
     case measure=>
      obtain⟨ho5,hg5,hat5⟩:=HAP.out;obtain⟨k1,k2⟩:=z9o HEND.out.1 HEND.out.2 HHW.out r4 (by decide) hg5 hat5 ho5
      rw[z9m _ HP0.out,z9m _ k1,hf4,if_pos hff,if_pos HF.out];have:=HLE.out;obtain⟨xa,xc,rfl⟩:=z8A ho5;simp only[z9l];have:=HLn.out;omega
    ·have hff':decide (f4<0)=false:=ya9 hff;have hy:parN Q m l t4=Y:=by rw[hf4,if_neg hff]at HY2;exact HY2
     have HNEW:Hid (1<=m/\(t4.fault<0->6<=m+l.length)/\parN Q m l t4=Y):=⟨by have:=HM.out.2.1 HF.out;have h9:=HLn.out;omega,fun k=>by rw[hf4]at k;exact absurd k hff,hy⟩
     have HEND:Hid (z8V Q c H (Av A (.slice la 4 lc)) tk tv t4 w4/\z90 H c w w4/\w4.ownsRow w.heap.size 9 1 (.slice la 4 lc) 4 (l.map Value.string)):=⟨p4,Q4,r4⟩;clear HM HY2 hy HS HI hm p4 Q4 q4 cI cT cB cN r4 hff;go_wp2;go_roundw
     case rel=>exact⟨t4,l,m,by rw[HLn.out];exact HEND.out.2.2,HEND.out.1,HEND.out.2.1,by rw[HLn.out];exact hl4,HNEW⟩
     case measure=>
      rw[z9m _ HP0.out,z9m _ HEND.out.1,hf4,if_neg (by simpa using hff'),if_pos HF.out]
      simp only[z9l];have:=HLn.out;omega
  ·have hY2:Y=(l,t):=by
    have:=HM.out.2.2;obtain⟨m,hm⟩:∃ m,M=m+1:=⟨M-1,by have:=HM.out.1;omega⟩
    rw[hm,parN,if_neg hgo]at this;exact this.symm
   subst hY2;have cE1:=fun W k=>cE (Av A (.slice la n lc)) t W k;by_cases hf0:f<0
   ·have hs:isP Q t [41]=true:=by
     have h1:t.fault<0:=by rw[hf];exact hf0
     cases hx:isP Q t [41]with
     | true=>rfl
     | false=>exact absurd ⟨h1,hx⟩ hgo
    have cI1:=cI _ _ _ p0;have hs':isP Q t (⟨#[41]⟩:ByteArray).data.toList=true:=hs;rw[hs']at cI1;clear hgo hs hs' hf HM cT cB cN cE;go_wp2_with fail;refine cI1.mono ?_;rintro e w2 ⟨rfl,b2⟩;have p2:=p0.below b2;have P2:=P0.trans (z90.of_below b2 p0.hw);have r2:=z8B r0 b2;clear p0 P0 r0 b2 cI1 d5;go_wp2_with fail;refine(cE1 _ p2).mono ?_;rintro e w3 ⟨rfl,p3,q3⟩;have r3:=z91 r2 q3 (by decide) (z9n r2 hcB)
    have HE:Hid (w3.ownsRow w.heap.size 9 1 (.slice la n lc) l.length (l.map Value.string)/\z8V Q c H (Av A (.slice la n lc)) tk tv (z4X Q t [41]) w3/\z90 H c w w3):=⟨by rw[HLn.out];exact r3,p3,P2.trans q3⟩
    clear p2 P2 r2 p3 q3 r3 cE1;go_wp2;go_ret;exact⟨_,rfl,HE.out⟩
   ·have hf0':decide (f<0)=false:=ya9 hf0;clear hgo hf HM cT cB cN cE cI hf0;go_wp2_with fail;refine(cE1 _ p0).mono ?_;rintro e w3 ⟨rfl,p3,q3⟩;have r3:=z91 r0 q3 (by decide) (z9n r0 hcB)
    have HE:Hid (w3.ownsRow w.heap.size 9 1 (.slice la n lc) l.length (l.map Value.string)/\z8V Q c H (Av A (.slice la n lc)) tk tv (z4X Q t [41]) w3/\z90 H c w w3):=⟨by rw[HLn.out];exact r3,p3,P0.trans q3⟩
    clear p0 P0 r0 p3 q3 r3 cE1;go_wp2;go_ret;exact⟨_,rfl,HE.out⟩
theorem z9r{P:Program}{w:World}{ops:Array Oper}{rest:List Oper}{o:Oper}{a:Act}{Q:Exit->Act->World->Prop}(hgd:o.guard=none)(s x:Operand)(t:TypeId)
  (ho:o.op=.call { callee:=.builtin .append,args:=#[s,x],argTypes:=#[t,t] })
  (base:Nat) (e:TypeId) (i:TypeInfo) (z:Value) (bytes:Nat) (ht:P.underlying t=some (.slice e)) (hi:P.info? e=some i) (hz:i.zero=some z)
  (hsize:i.size=1) (hby:i.bytes=bytes) (hzs:z.cells.size=1)
  (v0:Value) (hs:a.eval s=v0) (hown:w.ownsRow base e 1 v0 0 []) (src:Value) (hx:a.eval x=src) (B m:Nat) (news:List Value) (hsrc:w.ownsRow B e 1 src m news) (h1:∀ u∈news,u.oneCell'=true)
  (h63:m<=maxLen) (hbytes:m*bytes<=140737488355328) (hbase:base<=w.heap.size)
  (h:∀ v' w',w'.ownsRow base e 1 v' m news->w.grownBy w' v0.ownBlock->wpList P ops Q rest (a.put o.dst v') w'):
  wpList P ops Q (o::rest) a w:=by
 have hl:=hsrc.1;rcases hsrc.2 with ⟨e1,e2⟩|⟨g,cap,cur,e1,_⟩
 ·subst e2;have en:news=[]:=List.eq_nil_of_length_eq_zero (by omega)
  subst en;exact wpList_append_own_none hgd s x t ho base e i 1 ht hi v0 0 [] hs hown (hx.trans e1) (h v0 w hown ⟨rfl,rfl,rfl,yf9 _,fun _ _ _=>rfl⟩)
 ·refine wpList_append_own_at w hgd s x t ho base e i z 1 bytes ht hi hz hsize hby hzs (by decide) v0 0 [] hs hown ⟨g,0,none⟩ m cap news (hx.trans e1) hl (hsrc.cells (g:=g) (by rw[e1];rfl)) h1 (by omega) (by rw[Nat.zero_add];exact hbytes) hbase fun v' w' k1 k2 _ _=>h v' w' ?_ k2
  rw[Nat.zero_add,List.nil_append]at k1;exact k1
theorem z9s(w:World)(e:TypeId):(w.alloc (.cells #[] e)).ownsRow w.heap.size e 8 (.slice (some ⟨w.heap.size,0,none⟩) 0 0) 0 []:=
 ⟨rfl,.inr ⟨w.heap.size,0,#[],rfl,yf9 _,heap_alloc_new w _,yf9 _,yj9 _,rfl,rfl⟩⟩
theorem z9t{wr W w3:World}{D j m:Nat}{cs:Array Value}{T e:TypeId}{v1:Value}{ys:List Value}(hb:Below D wr W)(hD:D<W.heap.size)(hB:W.heap[D]?=some (.cells cs T))
  (hg:(W.alloc (.cells #[] e)).grownBy w3 (some W.heap.size)) (ho:w3.ownsRow W.heap.size e 1 v1 m ys):
  w3.heap[D]?=some (.cells cs T)/\(w3.setCell ⟨D,j,none⟩ v1).heap[D]?=some (.cells (cs.set! j v1) T)/\Below D wr (w3.setCell ⟨D,j,none⟩ v1)/\(w3.setCell ⟨D,j,none⟩ v1).ownsRow W.heap.size e 1 v1 m ys/\W.heap.size<(w3.setCell ⟨D,j,none⟩ v1).heap.size/\(∀ k,k<W.heap.size->k≠D->(w3.setCell ⟨D,j,none⟩ v1).heap[k]?=W.heap[k]?):=by
 have hsz:=hg.size;have hs1:(W.alloc (.cells #[] e)).heap.size=W.heap.size+1:=by simp
 have old:∀ k,k<W.heap.size->w3.heap[k]?=W.heap[k]?:=fun k hk=>(hg.block k (by omega) (fun e=>by injection e;omega)).trans (heap_alloc_old _ _ hk)
 have h3:w3.heap[D]?=some (.cells cs T):=(old D hD).trans hB;refine⟨h3,heap_setCell_same w3 D j _ _ v1 h3,?_,ownsRow_setCell_below ho (a:=⟨D,j,none⟩) hD v1,by simp;omega,fun k hk hkD=>(heap_setCell_other w3 ⟨D,j,none⟩ k v1 hkD).trans (old k hk)⟩
 refine⟨hg.os.trans hb.os,hg.tape.trans hb.tape,hg.output.trans hb.output,?_,fun k hk=>?_⟩
 ·have:=hb.size;simp;omega
 ·exact(heap_setCell_other w3 ⟨D,j,none⟩ k v1 (by show k≠D;omega)).trans ((old k (by omega)).trans (hb.block k hk))
theorem z9u{wr W8 w9:World}{D0 k:Nat}{ns:List z4Q}{v v' v1 v2:Value}{xs:List Value}{p:z4Q}{b1 b2:Nat}(hp:ns[k]?=some p)(ho:wr.ownsRow D0 34 8 v k xs)(hns:∀ q p',q<k->ns[q]?=some p'->z8F wr D0 xs q p')
  (hb:Below wr.heap.size wr W8) (h1:W8.ownsRow b1 3 1 v1 p.list.length (p.list.map (Value.int .i64))) (h2:W8.ownsRow b2 9 1 v2 p.names.length (p.names.map Value.string)) (hb1:D0<=b1) (hb2:D0<=b2)
  (hg:W8.grownBy w9 v.ownBlock) (ho9:w9.ownsRow D0 34 8 v' (k+1) (xs++z4R p v1 v2)):∀ q p',q<k+1->ns[q]?=some p'->z8F w9 D0 (xs++z4R p v1 v2) q p':=by
 intro q p' hq hp';have hoX:=z8B ho hb;have hlx:xs.length=k*8:=ho.1;have up:∀(e:TypeId) (u:Value) (n:Nat) (ys:List Value) (b:Nat),e≠34->D0<=b->W8.ownsRow b e 1 u n ys->w9.ownsRow D0 e 1 u n ys:=fun e u n ys b he hbb h=>z8E (h.kept hg (z9h h hoX he)) hbb;rcases Nat.lt_or_ge q k with h'|h'
 ·obtain⟨l1,n1,k1,k2,k3⟩:=hns q p' h' hp';refine⟨l1,n1,fun j u hu=>?_,up _ _ _ _ _ (by decide) (yf9 _) (z8B k2 hb),up _ _ _ _ _ (by decide) (yf9 _) (z8B k3 hb)⟩
  have hj8:j<8:=(List.getElem?_eq_some_iff.1 hu).1;rw[List.getElem?_append_left (by omega)]
  exact k1 j u hu
 ·have e:q=k:=by omega
  subst e;rw[hp]at hp';cases hp'
  refine⟨v1,v2,fun j u hu=>?_,up _ _ _ _ _ (by decide) hb1 h1,up _ _ _ _ _ (by decide) hb2 h2⟩
  rw[List.getElem?_append_right (by omega)]
  have e2:q*8+j-xs.length=j:=by rw[hlx];omega
  rw[e2];exact hu
theorem z9v{w:World}{g j:Nat}{cs:Array Value}{T:TypeId}(h:w.heap[g]?=some (.cells cs T)):w.frozen? ⟨g,j,none⟩=false:=frozen_of_row w g j _ _ h
theorem z9w(l:List Int):∀ u∈l.map (Value.int .i64),u.oneCell'=true:=by
 intro u hu;obtain⟨x,_,rfl⟩:=List.mem_map.1 hu;rfl
theorem z9x(l:List ByteArray):∀ u∈l.map Value.string,u.oneCell'=true:=by
 intro u hu;obtain⟨x,_,rfl⟩:=List.mem_map.1 hu;rfl
theorem z9y{w w':World}{B:Nat}{e:TypeId}{size:Nat}{v:Value}{n:Nat}{xs:List Value}(h:w.ownsRow B e size v n xs)(hh:∀ g,v.ownBlock=some g->w'.heap[g]?=w.heap[g]?):w'.ownsRow B e size v n xs:=by
 refine⟨h.1,?_⟩;rcases h.2 with k|⟨g,cap,cur,e1,e2,e3,e4⟩
 ·exact .inl k
 ·exact .inr ⟨g,cap,cur,e1,e2,(hh g (by rw[e1];rfl)).trans e3,e4⟩
theorem z9z{W:World}{E:Nat}(hE:W.heap.size=E)(e:TypeId):(W.alloc (.cells #[] e)).ownsRow E e 1 (.slice (some ⟨E,0,none⟩) 0 0) 0 []:=by
 subst hE;exact z9p W e
theorem z9A{w:World}{B:Nat}{v:Value}{ns:List z4Q}(h:z8G w B v ns)(hn:ns.length<=10001)(hL:∀(q:Nat) (p:z4Q),ns[q]?=some p->p.list.length<=10000/\p.names.length<=10000):
  Calls Tryz.prog 27 #[v] w fun e w'=>∃ v',e=.returned v'/\z8G w' w.heap.size v' ns/\Below w.heap.size w w':=by
 obtain⟨x,cp,rfl,hm,ho⟩:=h.opened;obtain⟨n,hn0⟩:∃ n,ns.length=n:=⟨_,rfl⟩;have HN:Hid (ns.length=n):=hn0;rw[hn0]at hm ho hn ⊢;have HO:Hid (0<n->∃ g,x=some ⟨g,0,none⟩/\∀ q p,ns[q]?=some p->∃ lv nv,z8J w B g (q*8) p lv nv):=ho;have HL:Hid (∀(q:Nat) (p:z4Q),ns[q]?=some p->p.list.length<=10000/\p.names.length<=10000):=hL;obtain⟨i1,ha1,ha2,ha3,ha4⟩:=z8y Tryz.infoInt;obtain⟨i2,hb1,hb2,hb3,hb4⟩:=z8y Tryz.infoText;obtain⟨i3,hc1,hc2,hc3,hc4⟩:=z8y Tryz.infoNode9;have o0:=z9s w 34;have b0:Below w.heap.size w (w.alloc (.cells #[] 34)):=(yg9 _ _).alloc (yf9 _) _;have s0:w.heap.size<=(w.alloc (.cells #[] 34)).heap.size:=by simp
 obtain⟨D0,hD0⟩:∃ D,w.heap.size=D:=⟨_,rfl⟩;rw[hD0]at o0 b0 s0 ⊢;clear h ho hn0 hL;go_enter Tryz.func27,Tryz.ntmps27;go_upto_region 3 with fail;try simp only[hD0]
 have HD:Hid (w.heap.size=D0):=hD0;clear hD0;go_loopw [3,4] (fun v x wr=>∃(k:Nat) (xs:List Value),x=.int .i64 (k:Int)/\k<=n/\wr.ownsRow D0 34 8 v k xs/\Below D0 w wr/\D0<=wr.heap.size/\Hid (∀ q p,q<k->ns[q]?=some p->z8F wr D0 xs q p)) (fun _ x _=>n-(intOf x).toNat)
 case atStart=>exact⟨0,[],rfl,yj9 _,o0,b0,s0,fun q p hq _=>by omega⟩
 case round=>
  clear o0 b0 s0;obtain⟨k,xs,rfl,hk,hov,hbw,hsz,HNS⟩:=hrel;obtain⟨oa,oc,rfl⟩:=z8A hov;by_cases hlt:k<n
  ·obtain⟨g,rfl,hat⟩:=HO.out (by omega)
   obtain⟨p,hp⟩:∃ p,ns[k]?=some p:=⟨_,yd9 (by have:=HN.out;omega)⟩
   obtain⟨lv,nv,NA0⟩:=hat k p hp;have NA:=NA0.below (by rw[HD.out];exact hbw)
   obtain⟨la,lc,rfl⟩:=z8A NA.list;obtain⟨na,nc,rfl⟩:=z8A NA.names;obtain⟨hl1,hl2⟩:=HL.out k p hp;have hki:(k:Int)<(n:Int):=by omega
   have hk0:(0:Int)<=(k:Int):=by omega
   have HP:Hid (ns[k]?=some p):=hp;obtain⟨c0,c1,c2,c3,c4,c5,c6,c7⟩:wr.cell? ⟨g,k*8,none⟩=some (.int .i64 p.kind)/\wr.cell? ⟨g,k*8+1,none⟩=some (.int .i64 p.a)/\wr.cell? ⟨g,k*8+2,none⟩=some (.int .i64 p.b)/\wr.cell? ⟨g,k*8+3,none⟩=some (.int .i64 p.c)/\wr.cell? ⟨g,k*8+4,none⟩=some (.slice la p.list.length lc)/\wr.cell? ⟨g,k*8+5,none⟩=some (.slice na p.names.length nc)/\wr.cell? ⟨g,k*8+6,none⟩=some (.int .u64 (p.num:Int))/\wr.cell? ⟨g,k*8+7,none⟩=some (.int .i64 p.pos):=⟨NA.c0,NA.c1,NA.c2,NA.c3,NA.c4,NA.c5,NA.c6,NA.c7⟩;have hB1:=heap_alloc_new wr (.cells #[.int .i64 p.kind,.int .i64 p.a,.int .i64 p.b,.int .i64 p.c,.slice la p.list.length lc,.slice na p.names.length nc,.int .u64 (p.num:Int),.int .i64 p.pos] 34);have b1:Below wr.heap.size wr (wr.alloc (.cells #[.int .i64 p.kind,.int .i64 p.a,.int .i64 p.b,.int .i64 p.c,.slice la p.list.length lc,.slice na p.names.length nc,.int .u64 (p.num:Int),.int .i64 p.pos] 34)):=(yg9 _ _).alloc (yf9 _) _;have hs1:(wr.alloc (.cells #[.int .i64 p.kind,.int .i64 p.a,.int .i64 p.b,.int .i64 p.c,.slice la p.list.length lc,.slice na p.names.length nc,.int .u64 (p.num:Int),.int .i64 p.pos] 34)).heap.size=wr.heap.size+1:=by simp
   obtain⟨W1,hW1⟩:∃ W,wr.alloc (.cells #[.int .i64 p.kind,.int .i64 p.a,.int .i64 p.b,.int .i64 p.c,.slice la p.list.length lc,.slice na p.names.length nc,.int .u64 (p.num:Int),.int .i64 p.pos] 34)=W:=⟨_,rfl⟩;rw[hW1]at hB1 b1 hs1;clear hat NA0 hp;go_upto_region 6 with fail;try simp only[hW1]
   clear hW1 c0 c1 c2 c3 c4 c5 c6 c7;obtain⟨D,hD⟩:∃ D,wr.heap.size=D:=⟨_,rfl⟩;have HDD:Hid (wr.heap.size=D):=hD;simp only[hD];have r1:=z8B NA.list b1;rw[hD]at hB1 b1 hs1 hsz;clear hD;have hD1:D<W1.heap.size:=by omega
   have f4:∀ o,(W1.alloc o).cell? ⟨D,4,none⟩=some (.slice la p.list.length lc):=fun o=>by
    have e:(W1.alloc o).heap[D]?=_:=(heap_alloc_old _ _ hD1).trans hB1;exact(z8C e).2.2.2.2.1
   have o1:=z9z hs1 3;go_upto_region 7 with (first|(at_builtin;refine z9r rfl _ _ 29 rfl (D+1) 3 i1 (.int .i64 0) 8 Tryz.underlying29 ha1 ha2 ha3 ha4 rfl _ rfl o1 _ rfl B _ _ (r1.alloc _) (z9w _) (by unfold maxLen;omega) (by omega) (by simp;omega) ?_;intro v1 w3 ho3 hg3;obtain⟨va,vc,rfl⟩:=z8A ho3;have PUT:=z9t (j:=4) b1 hD1 hB1 (by rw[hs1];exact hg3) (by rw[hs1];exact ho3);have f4':=(z8C PUT.1).2.2.2.2.1;have z4:=z9v (j:=4) PUT.1;have HPUT:Hid _:=PUT;clear PUT ho3 hg3 r1 o1 f4))
   obtain⟨W4,hW4⟩:∃ W,w3.setCell ⟨D,4,none⟩ (.slice va p.list.length vc)=W:=⟨_,rfl⟩;rw[hW4]at HPUT;try simp only[hW4]
   clear hW4 f4' z4;obtain⟨_,hB4,b4,r4,s4,_⟩:=HPUT.out;rw[hs1]at r4 s4;have hB4':W4.heap[D]?=some (.cells #[.int .i64 p.kind,.int .i64 p.a,.int .i64 p.b,.int .i64 p.c,.slice va p.list.length vc,.slice na p.names.length nc,.int .u64 (p.num:Int),.int .i64 p.pos] 34):=hB4;clear hB4 HPUT;obtain⟨E,hE⟩:∃ E,W4.heap.size=E:=⟨_,rfl⟩;have hDE:D<W4.heap.size:=by omega
   have f5:∀ o,(W4.alloc o).cell? ⟨D,5,none⟩=some (.slice na p.names.length nc):=fun o=>by
    have e:(W4.alloc o).heap[D]?=_:=(heap_alloc_old _ _ hDE).trans hB4';exact(z8C e).2.2.2.2.2.1
   have o4:=z9z hE 9;have r5:=z8B NA.names (by rw[HDD.out];exact b4)
   try simp only[hE]
   go_upto_region 8 with (first|(at_builtin;refine z9r rfl _ _ 31 rfl E 9 i2 (.string ⟨#[]⟩) 16 Tryz.underlying31 hb1 hb2 hb3 hb4 rfl _ rfl o4 _ rfl B _ _ (r5.alloc _) (z9x _) (by unfold maxLen;omega) (by omega) (by simp;omega) ?_;intro v2 w6 ho6 hg6;obtain⟨ya,yc,rfl⟩:=z8A ho6;have PUT:=z9t (j:=5) b4 hDE hB4' (by rw[hE];exact hg6) (by rw[hE];exact ho6);have f5':=(z8C PUT.1).2.2.2.2.2.1;have z5:=z9v (j:=5) PUT.1;have HPUT:Hid _:=PUT;clear PUT ho6 hg6 r5 o4 f5))
   obtain⟨W7,hW7⟩:∃ W,w6.setCell ⟨D,5,none⟩ (.slice ya p.names.length yc)=W:=⟨_,rfl⟩;rw[hW7]at HPUT;try simp only[hW7]
   clear hW7 f5' z5;obtain⟨_,hB7,b7,r7,s7,old7⟩:=HPUT.out;rw[hE]at r7 s7 old7;have hB7':W7.heap[D]?=some (.cells #[.int .i64 p.kind,.int .i64 p.a,.int .i64 p.b,.int .i64 p.c,.slice va p.list.length vc,.slice ya p.names.length yc,.int .u64 (p.num:Int),.int .i64 p.pos] 34):=hB7;have r4':W7.ownsRow (D+1) 3 1 (.slice va p.list.length vc) p.list.length (p.list.map (Value.int .i64)):=z9y r4 fun g' hg'=>by
    have:=r4.lt g' hg';exact old7 g' (by omega) (by omega)
   clear hB7 HPUT r4 b4 hB4' old7;obtain⟨x0,x1,x2,x3,x4,x5,x6,x7⟩:=z8C hB7';have hov7:=z8B hov (by rw[HDD.out];exact b7)
   obtain⟨E7,hE7⟩:∃ E,W7.heap.size=E:=⟨_,rfl⟩;have b8:Below D wr (W7.alloc (.cells #[.int .i64 p.kind,.int .i64 p.a,.int .i64 p.b,.int .i64 p.c,.slice va p.list.length vc,.slice ya p.names.length yc,.int .u64 (p.num:Int),.int .i64 p.pos] 34)):=b7.alloc (by omega) _
   have HEND:Hid (∀(v':Value) (w9:World),(W7.alloc (.cells #[.int .i64 p.kind,.int .i64 p.a,.int .i64 p.b,.int .i64 p.c,.slice va p.list.length vc,.slice ya p.names.length yc,.int .u64 (p.num:Int),.int .i64 p.pos] 34)).grownBy w9 (Value.ownBlock (.slice oa k oc))->w9.ownsRow D0 34 8 v' (k+1) (xs++z4R p (.slice va p.list.length vc) (.slice ya p.names.length yc))->Below D0 w w9/\D0<=w9.heap.size/\∀ q p',q<k+1->ns[q]?=some p'->z8F w9 D0 (xs++z4R p (.slice va p.list.length vc) (.slice ya p.names.length yc)) q p'):=fun v' w9 hg9 ho9=>by
    have hsz9:=hg9.size;have hsz8:(W7.alloc (.cells #[.int .i64 p.kind,.int .i64 p.a,.int .i64 p.b,.int .i64 p.c,.slice va p.list.length vc,.slice ya p.names.length yc,.int .u64 (p.num:Int),.int .i64 p.pos] 34)).heap.size=W7.heap.size+1:=by simp
    refine⟨?_,by omega,z9u (b1:=D+1) (b2:=E) HP.out hov HNS.out (by rw[HDD.out];exact b8) (r4'.alloc _) (r7.alloc _) (by omega) (by omega) hg9 ho9⟩
    exact Below.grown (hbw.trans (b8.mono hsz)) hg9 (by omega) (fun j hj=>(hov.lt j hj).1)
   have hone:∀ u∈[Value.int .i64 p.kind,.int .i64 p.a,.int .i64 p.b,.int .i64 p.c,.slice va p.list.length vc,.slice ya p.names.length yc,.int .u64 (p.num:Int),.int .i64 p.pos],u.oneCell'=true:=by
    intro u hu;simp only[List.mem_cons,List.not_mem_nil,or_false]at hu;rcases hu with rfl|rfl|rfl|rfl|rfl|rfl|rfl|rfl<;>rfl
   have hnew:=z9f W7 (.int .i64 p.kind) (.int .i64 p.a) (.int .i64 p.b) (.int .i64 p.c) (.slice va p.list.length vc) (.slice ya p.names.length yc) (.int .u64 (p.num:Int)) (.int .i64 p.pos) 34;rw[hE7]at hnew;clear hov r4' r7 b8 b7 hB7' NA HNS;go_wp2_with (first|(at_builtin;refine wpList_append_own_at _ rfl _ _ 24 rfl D0 34 i3 _ 8 96 Tryz.underlying24 hc1 hc2 hc3 hc4 rfl (by decide) _ k xs rfl (hov7.alloc _) ⟨E7,0,none⟩ 1 1 [.int .i64 p.kind,.int .i64 p.a,.int .i64 p.b,.int .i64 p.c,.slice va p.list.length vc,.slice ya p.names.length yc,.int .u64 (p.num:Int),.int .i64 p.pos] rfl rfl hnew hone (by unfold maxLen;omega) (by omega) (by simp;omega) ?_;intro v' w9 ho9 hg9 _ _;have HAP:Aside (w9.ownsRow D0 34 8 v' (k+1) (xs++z4R p (.slice va p.list.length vc) (.slice ya p.names.length yc))/\Below D0 w w9/\D0<=w9.heap.size/\∀ q p',q<k+1->ns[q]?=some p'->z8F w9 D0 (xs++z4R p (.slice va p.list.length vc) (.slice ya p.names.length yc)) q p'):=⟨ho9,HEND.out v' w9 hg9 ho9⟩;clear ho9 hg9 hov7 hnew))
   go_roundw
   case rel=>
    obtain⟨k1,k2,k3,k4⟩:=HAP.out;exact⟨k+1,_,by go_num,by omega,k1,k2,k3,k4⟩
   case measure=>simp[intOf];omega
  ·have hge:decide ((k:Int)<(n:Int))=false:=ya9 (by omega)
   have e:k=n:=by omega
   have HE:Hid (z8G wr D0 (.slice oa k oc) ns/\Below D0 w wr):=⟨⟨xs,by rw[HN.out,←e];exact hov,fun q p hq=>HNS.out q p (by have:=(List.getElem?_eq_some_iff.1 hq).1;have:=HN.out;omega) hq⟩,hbw⟩
   clear hov hbw HNS HO HL e;go_wp2;go_ret;exact⟨_,rfl,HE.out.1,HE.out.2⟩
