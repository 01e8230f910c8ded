/- Part 4. -/
import Derived.Test.YtdbekjiognpgnaaGreatPac
import Derived.Deep.CutBlock
set_option maxHeartbeats 16000000
set_option maxRecDepth 100000
set_option linter.unusedVariables false
namespace Go.Proofs.YtdbekjiognpgnaaGreat
open Go.RowKit
theorem z32(va vb:Value)(ls ms:List Nat)(w:World)(hA:RowW w 0 va ls)(hB:RowW w 0 vb ms)(oa:z1F ls)(ob:z1F ms)(za:binV ls≠0)(zb:binV ms≠0)(la:ls.length<=700)(lb:ms.length<=700)(va2:binV ls<2 ^ 2000)(vb2:binV ms<2 ^ 2000):
  Calls Tryz.prog 107 #[va,vb] w fun e w'=>e=.returned (.int .u64 (quoG (binV ls) (binV ms):Nat))/\Below w.heap.size w w':=by
 have cA:=z2i va ls 0 w hA oa (by omega)
 have cB:=z2i vb ms 0 w hB ob (by omega)
 have hp:=z2b va2;have hq:=z2b vb2;obtain⟨p,hp1⟩:∃ p,z1e (binV ls)=p:=⟨_,rfl⟩;obtain⟨q,hq1⟩:∃ p,z1e (binV ms)=p:=⟨_,rfl⟩;rw[hp1]at cA hp;rw[hq1]at cB hq;have hp2:(p:Int)<=2000:=by omega
 have hq2:(q:Int)<=2000:=by omega
 obtain⟨R,hR⟩:∃ R,quoG (binV ls) (binV ms)=R:=⟨_,rfl⟩;rw[hR];clear hp hq va2 vb2;go_enter Tryz.func107,Tryz.ntmps107;go_wp2_with fail;refine cB.mono ?_;rintro e w' ⟨rfl,rfl⟩;go_wp2_with fail;refine cA.mono ?_;rintro e w' ⟨rfl,rfl⟩;obtain⟨up,hup⟩:∃ up:Int,(q:Int)+62-p=up:=⟨_,rfl⟩;have bu1:-2000<=up:=by omega
 have bu2:up<=2062:=by omega
 have HP:Hid (Unit->z1e (binV ls)=p/\z1e (binV ms)=q/\(q:Int)+62-p=up/\binV ls≠0/\binV ms≠0/\quoG (binV ls) (binV ms)=R):=fun _=>⟨hp1,hq1,hup,za,zb,hR⟩;have HA:Hid (RowW w 0 va ls/\z1F ls/\ls.length<=700):=⟨hA,oa,la⟩;have HB:Hid (RowW w 0 vb ms/\z1F ms/\ms.length<=700):=⟨hB,ob,lb⟩;clear cA cB hp1 hq1 za zb hR hA hB oa ob la lb;go_upto_if 16 with fail;go_cut [0,1] (fun s0 s1 wx=>∃ xa xb:List Nat,RowW wx 0 s0 xa/\RowW wx 0 s1 xb/\Below w.heap.size w wx/\Hid (z1F xa/\z1F xb/\xa.length<=900/\xb.length<=900/\z1i (binV ls) (binV ms) up (binV xa) (binV xb)))
 case first=>
  by_cases h0:0<up
  ·obtain⟨k,hk⟩:∃ k:Nat,up=k:=⟨up.toNat,by omega⟩
   subst hk;have cU:=z2A va ls k 0 w HA.out.1 HA.out.2.1 (HP.out ()).2.2.2.1 (by have:=HA.out.2.2;omega) (by omega)
   have HQ:Hid (Unit->z1i (binV ls) (binV ms) (k:Int) (binV ls*2 ^ k) (binV ms)):=fun _=>by
    obtain⟨e1,e2,e3,e4,e5,_⟩:=HP.out ();exact z1j e4 e5 (by omega) (by rw[z1a];omega)
   go_wp2_with fail;refine cU.mono ?_;rintro e w2 ⟨v',xs,rfl,hrow,hb2,hval,hok,hlen⟩;have HF:Hid (z1F xs/\z1F ms/\xs.length<=900/\ms.length<=900/\z1i (binV ls) (binV ms) (k:Int) (binV xs) (binV ms)):=⟨hok,HB.out.2.1,by have:=HA.out.2.2;omega,by have:=HB.out.2.2;omega,by rw[hval];exact HQ.out ()⟩
   have hB2:=HB.out.1.below hb2;have hA2:=hrow.base (yj9 _);clear hval hok hlen hrow cU;go_wp2;go_meet
   case rel=>exact⟨xs,ms,hA2,hB2,hb2,HF⟩
  ·have h0':decide (0<up)=false:=by simp;omega
   obtain⟨k,hk⟩:∃ k:Nat,up=-(k:Int):=⟨(-up).toNat,by omega⟩
   have cU:=z2A vb ms k 0 w HB.out.1 HB.out.2.1 (HP.out ()).2.2.2.2.1 (by have:=HB.out.2.2;omega) (by omega)
   have hk2:-up=k:=by omega
   have HQ:Hid (Unit->z1i (binV ls) (binV ms) up (binV ls) (binV ms*2 ^ k)):=fun _=>by
    obtain⟨e1,e2,e3,e4,e5,_⟩:=HP.out ();rw[hk];exact z1k e4 e5 (by omega)
   clear hk;go_wp2_with fail;refine cU.mono ?_;rintro e w2 ⟨v',xs,rfl,hrow,hb2,hval,hok,hlen⟩;have HF:Hid (z1F ls/\z1F xs/\ls.length<=900/\xs.length<=900/\z1i (binV ls) (binV ms) up (binV ls) (binV xs)):=⟨HA.out.2.1,hok,by have:=HA.out.2.2;omega,by have:=HB.out.2.2;omega,by rw[hval];exact HQ.out ()⟩
   have hA2:=HA.out.1.below hb2;have hB2:=hrow.base (yj9 _);clear hval hok hlen hrow cU;go_wp2;go_meet
   case rel=>exact⟨ls,xs,hA2,hB2,hb2,HF⟩
 case rest=>
  obtain⟨xa,xb,hAs,hBs,hbel,HQ⟩:=hcut;have HR:Hid (Unit->quoG (binV ls) (binV ms)=R):=fun _=>(HP.out ()).2.2.2.2.2;clear HP HA HB;have cU:=z2A _ xb 63 0 wc hBs HQ.out.2.1 HQ.out.2.2.2.2.y0 (by have:=HQ.out.2.2.2.1;omega) (by omega)
  go_wp2_with fail;refine cU.mono ?_;rintro e w2 ⟨vd,ds,rfl,hrow,hb2,hval,hok,hlen⟩;have hAs2:=hAs.below hb2;have hbel2:=z01 hbel hb2;have hD:=hrow.base (yj9 _);have HD:Hid (RowW w2 0 vd ds/\z1F ds/\ds.length<=902/\binV ds=binV xb*2 ^ 63):=⟨hD,hok,by have:=HQ.out.2.2.2.1;omega,hval⟩
  clear hrow hok hlen hval cU hD hAs hBs hbel hb2;clear wc;go_wp2_with fail;have HX:Hid (Unit->z2G (binV xa) (binV ds) 0 0 (binV xa)/\binV xa<2*binV ds/\binV ds≠0):=fun _=>by
   obtain⟨_,_,_,_,hr⟩:=HQ.out;have h1:=hr.hi;have h3:=hr.y0;rw[Nat.div_lt_iff_lt_mul (by omega)]at h1
   have h2:binV ds=binV xb*9223372036854775808:=HD.out.2.2.2;have h4:binV xa<2*binV ds:=by omega
   exact⟨z2H h4,h4,by omega⟩
  go_loopw [0,6,8] (fun s0 x6 x8 wr=>∃(ys:List Nat) (N j:Nat),x6=.int .u64 N/\x8=.int .i64 (63-(j:Int))/\(j:Int)<=64/\RowW wr 0 s0 ys/\Below w2.heap.size w2 wr/\Hid (z1F ys/\ys.length<=900+j/\z2G (binV xa) (binV ds) j N (binV ys))) (fun _ _ x8 _=>(intOf x8+1).toNat)
  case atStart=>exact⟨xa,0,0,rfl,rfl,by omega,hAs2,yg9 _ _,⟨HQ.out.1,by have:=HQ.out.2.2.1;omega,(HX.out ()).1⟩⟩
  case round=>
   obtain⟨ys,N,j,rfl,rfl,hj,hrow,hbl,HI⟩:=hrel;have hDr:=HD.out.1.below hbl;by_cases hj0:j<=63
   ·have HN:Hid (Unit->N<2 ^ j):=fun _=>z2K HI.out.2.2 (HX.out ()).2.1;have hN:(N:Int)<9223372036854775808:=by
     have h1:=HN.out ();have h2:2 ^ j<=2 ^ 63:=Nat.pow_le_pow_right (by decide) hj0
     omega
    have cL:=z2d _ vd ys ds 0 0 wr hrow hDr HI.out.1 HD.out.2.1 (by have:=HI.out.2.1;omega) (by have:=HD.out.2.2.1;omega)
    have hj1:(j:Int)<=63:=by omega
    by_cases hlt:binV ys<binV ds
    ·rw[yb9 hlt]at cL;have HM:Hid (z2G (binV xa) (binV ds) (j+1) (N*2) (binV ys*2)):=z2J HI.out.2.2 hlt;clear hlt hj0 HN;go_wp2_with fail;refine cL.mono ?_;rintro e w3 ⟨rfl,hb3⟩;have hrow3:=hrow.below hb3;have hbl3:=z01 hbl hb3;clear hrow hDr cL hb3 hbl;have cM:=z1Y _ ys 2 0 0 w3 hrow3 HI.out.1 (by decide) (by decide) (by have:=HI.out.2.1;omega)
     go_wp2_with fail;refine cM.mono ?_;rintro e w4 ⟨v4,zs,rfl,hrow4,hb4,h1,h2,h3⟩;have HF:Hid (z1F zs/\zs.length<=900+(j+1)/\z2G (binV xa) (binV ds) (j+1) (N*2) (binV zs)):=⟨h2,by have:=HI.out.2.1;omega,by rw[h1];exact HM.out⟩
     have hrow5:=hrow4.base (yj9 _);have hbl5:=z01 hbl3 hb4;clear hrow3 hbl3 hrow4 hb4 h1 h2 h3 cM HM HI;go_wp2;go_roundw
     case rel=>exact⟨zs,N*2,j+1,by go_num,by go_num,by omega,hrow5,hbl5,HF⟩
     case measure=>simp[intOf];omega
    ·rw[ya9 hlt]at cL;have HM:Hid (z2G (binV xa) (binV ds) (j+1) (N*2+1) ((binV ys-binV ds)*2)):=z2I HI.out.2.2 (by omega)
     have HLE:Hid (Unit->binV ds<=binV ys):=fun _=>by omega
     clear hlt hj0 HN;go_wp2_with fail;refine cL.mono ?_;rintro e w3 ⟨rfl,hb3⟩;have hrow3:=hrow.below hb3;have hDr3:=hDr.below hb3;have hbl3:=z01 hbl hb3;clear hrow hDr cL hb3 hbl;have cS:=z2j _ vd ys ds 0 0 w3 hrow3 hDr3 HI.out.1 HD.out.2.1 (by have:=HI.out.2.1;omega) (by have:=HD.out.2.2.1;omega) (HLE.out ())
     go_wp2_with fail;refine cS.mono ?_;rintro e w4 ⟨v4,ts,rfl,hrow4,hb4,h1,h2,h3⟩;have HTS:Hid (z1F ts/\ts.length<=900+j/\binV ts=binV ys-binV ds):=⟨h2,by have:=HI.out.2.1;omega,h1⟩
     have hrow5:=hrow4.base (yj9 _);have hbl5:=z01 hbl3 hb4;clear hrow3 hDr3 hbl3 hrow4 hb4 h1 h2 h3 cS;have cM:=z1Y _ ts 2 0 0 w4 hrow5 HTS.out.1 (by decide) (by decide) (by have:=HTS.out.2.1;omega)
     go_wp2_with fail;refine cM.mono ?_;rintro e w5 ⟨v5,zs,rfl,hrow6,hb6,h1,h2,h3⟩;have HF:Hid (z1F zs/\zs.length<=900+(j+1)/\z2G (binV xa) (binV ds) (j+1) (N*2+1) (binV zs)):=⟨h2,by have:=HTS.out.2.1;omega,by rw[h1,HTS.out.2.2];exact HM.out⟩
     have hrow7:=hrow6.base (yj9 _);have hbl7:=z01 hbl5 hb6;clear hrow5 hbl5 hrow6 hb6 h1 h2 h3 cM HM HI;go_wp2;go_roundw
     case rel=>exact⟨zs,N*2+1,j+1,by go_num,by go_num,by omega,hrow7,hbl7,HF⟩
     case measure=>simp[intOf];omega
   ·have hj64:j=64:=by omega
    subst hj64;clear hDr hj0;have cN:=z2c _ ys 0 wr hrow (by have:=HI.out.2.1;omega)
    have HE:Hid (Unit->N<9223372036854775808/\72057594037927936<=N/\z0M N (-up) (decide (binV ys≠0))=R):=fun _=>by
     obtain⟨_,_,_,_,hr⟩:=HQ.out;obtain⟨d1,d2⟩:=z2L (j:=63) HI.out.2.2 (HX.out ()).2.2;have hd:binV ds=binV xb*2 ^ 63:=HD.out.2.2.2;rw[hd,Nat.mul_div_mul_right _ _ (Nat.two_pow_pos 63)]at d1;rw[hd,Nat.mul_mod_mul_right]at d2;have l1:=hr.lo;have l2:=hr.hi;have l3:=hr.eq;rw[d1]at l1 l2 l3;refine⟨l2,by omega,?_⟩
     rw[←HR.out (),←l3];congr 1
     rw[Bool.eq_iff_iff,decide_eq_true_iff,decide_eq_true_iff];have hp:(0:Nat)<2 ^ 63:=Nat.two_pow_pos 63;constructor
     ·intro h;have:=d2.mp (by omega)
      intro h0;rw[h0,Nat.zero_mul]at this;exact this rfl
     ·intro h;have:binV xa%binV xb*2 ^ 63≠0:=Nat.mul_ne_zero h (by omega)
      have:=d2.mpr this;omega
    go_wp2_with fail;refine cN.mono ?_;rintro e w3 ⟨⟨m,rfl,hm⟩,rfl⟩;have HC:Hid (Unit->decide (binV ys≠0)=decide (0<m)):=fun _=>by
     rw[decide_eq_decide];have:=hm.nil HI.out.1;omega
    have cR:∀ b:Bool,decide (0<m)=b->∀ W,Calls Tryz.prog 116 #[.bool false,.int .u64 N,.int .i64 (-up),.bool b] W fun e w'=>e=.returned (.int .u64 (R:Nat))/\W=w':=fun b hb W=>by
     obtain⟨e1,e2,e3⟩:=HE.out ();have h:=z30 false b N (-up) W (by omega) (by omega) (by omega)
     rw[yb9 e2,Bool.and_true,←hb,←HC.out (),e3]at h;rw[HC.out (),hb]at h;exact h
    have hbel4:=z01 hbel2 hbl;clear hm HC HE HI hrow cN;by_cases hm0:0<m
    ·have cT:=cR true (by simpa using hm0)
     clear cR;go_wp2_with (go_at_call 116;refine(cT _).mono ?_;rintro e w' ⟨rfl,rfl⟩)
     go_ret;exact⟨rfl,hbel4⟩
    ·have hm1:m=0:=by omega
     subst hm1;have cT:=cR false (by simp)
     clear cR;go_wp2_with (go_at_call 116;refine(cT _).mono ?_;rintro e w' ⟨rfl,rfl⟩)
     go_ret;exact⟨rfl,hbel4⟩
def z33(l:List UInt8)(e:Int):Nat:=if z1v l=true/\l.length<=60/\-500<=e/\e<=500/\z2B l=false then quoG (digV l*10 ^ e.toNat) (10 ^ (-e).toNat)else 0
theorem z34{k n:Nat}(h:k<=n):10 ^ k<=10 ^ n:=Nat.pow_le_pow_right (by decide) h
theorem z35:(10:Nat) ^ 500<2 ^ 2000:=by decide +kernel
theorem z36:(10:Nat) ^ 60*10 ^ 500<2 ^ 2000:=by decide +kernel
theorem z37{n k:Nat}(hn:n<10 ^ 60)(hk:k<=500):n*10 ^ k<2 ^ 2000/\10 ^ k<2 ^ 2000:=
 ⟨Nat.lt_of_le_of_lt (Nat.mul_le_mul (Nat.le_of_lt hn) (z34 hk)) z36,Nat.lt_of_le_of_lt (z34 hk) z35⟩
theorem z38{l:List UInt8}{e:Int}(h:¬(z1v l=true/\l.length<=60/\-500<=e/\e<=500/\z2B l=false)):z33 l e=0:=by
 unfold z33;rw[if_neg h]
theorem z39(s:ByteArray)(x:Int)(w:World)(ls:s.size<=1048576)(hx1:-9223372036854775808<=x)(hx2:x<=9223372036854775807):
  Calls Tryz.prog 96 #[.string s,.int .i64 x] w fun e w'=>e=.returned (.int .u64 (z33 s.data.toList x:Nat))/\Below w.heap.size w w':=by
 have cF:=fun W=>z1E s W;have cI:=fun W=>z1D x (-500) 500 W;have cZ:=fun W=>z2E s W ls;obtain⟨R,hR⟩:∃ R,z33 s.data.toList x=R:=⟨_,rfl⟩;have HR:Hid (Unit->z33 s.data.toList x=R):=fun _=>hR;have HS:Hid (Unit->s.data.toList.length=s.size):=fun _=>z1x s;have HF:Hid (Unit->z1v s.data.toList=true->Figs s.data.toList):=fun _ h=>z1w h;rw[hR];clear hR;obtain⟨f,hf⟩:∃ f,z1v s.data.toList=f:=⟨_,rfl⟩;rw[hf]at cF;have HF1:Hid (Unit->z1v s.data.toList=f):=fun _=>hf;obtain⟨z,hz⟩:∃ f,z2B s.data.toList=f:=⟨_,rfl⟩;rw[hz]at cZ;have HZ1:Hid (Unit->z2B s.data.toList=z):=fun _=>hz;clear hf hz;cases f
 ·have HZ:Hid (Unit->R=0):=fun _=>by rw[←HR.out (),z38 (fun h=>by rw[HF1.out ()]at h;exact absurd h.1 (by decide))]
  clear cI cZ;go_enter Tryz.func96,Tryz.ntmps96;go_wp2_with fail;refine(cF _).mono ?_;rintro e w' ⟨rfl,rfl⟩;go_wp2;go_ret;exact⟨by rw[HZ.out ()];rfl,yg9 _ _⟩
 ·by_cases h60:(60:Int)<s.size
  ·have HZ:Hid (Unit->R=0):=fun _=>by rw[←HR.out (),z38 (fun h=>by have:=HS.out ();omega)]
   clear cI cZ;go_enter Tryz.func96,Tryz.ntmps96;go_wp2_with fail;refine(cF _).mono ?_;rintro e w' ⟨rfl,rfl⟩;go_wp2;go_ret;exact⟨by rw[HZ.out ()];rfl,yg9 _ _⟩
  ·have d60:decide ((60:Int)<s.size)=false:=by simp;omega
   by_cases hin:-500<=x/\x<=500
   ·rw[yb9 hin.1,yb9 hin.2]at cI;cases z
    ·obtain⟨hx3,hx4⟩:=hin;have HV:Hid (Unit->R=quoG (digV s.data.toList*10 ^ x.toNat) (10 ^ (-x).toNat)/\digV s.data.toList<10 ^ 60/\digV s.data.toList≠0):=fun _=>by
      have hl:=HS.out ();have hfg:=HF.out () (HF1.out ());refine⟨?_,?_,?_⟩
      ·rw[←HR.out ()];unfold z33;rw[if_pos ⟨HF1.out (),by omega,hx3,hx4,HZ1.out ()⟩]
      ·exact Nat.lt_of_lt_of_le (z1q hfg) (z34 (by omega))
      ·have:=HZ1.out ();rw[z2D hfg]at this;simpa using this
     have cB:=fun W=>z2F s W (HF.out () (HF1.out ())) (by omega)
     clear HR HF HF1 HZ1;go_enter Tryz.func96,Tryz.ntmps96;go_wp2_with fail;refine(cF _).mono ?_;rintro e w' ⟨rfl,rfl⟩;go_wp2_with fail;refine(cI _).mono ?_;rintro e w' ⟨rfl,rfl⟩;go_wp2_with fail;refine(cZ _).mono ?_;rintro e w' ⟨rfl,rfl⟩;go_wp2_with fail;refine(cB _).mono ?_;rintro e w1 ⟨v1,xs,rfl,hrow,hb1,hval,hok,hlen⟩;obtain⟨D,hD⟩:∃ D,digV s.data.toList=D:=⟨_,rfl⟩;rw[hD]at HV hval;have HXA:Hid (z1F xs/\xs.length<=60/\binV xs=D):=⟨hok,by omega,hval⟩
     have hrow1:=hrow.base (yj9 _);clear hD hok hlen hval hrow cF cI cZ cB;go_upto_block 0 with fail
     have hone:RowW (w1.alloc (.cells #[.int .u64 1] 32)) 0 (.slice (some ⟨w1.heap.size,0,none⟩) 1 1) [1]:=⟨by simp,.inr ⟨w1.heap.size,1,#[.int .u64 1],rfl,yj9 _,heap_alloc_new w1 _,yf9 _,by unfold maxLen;omega,by simp,by rfl⟩⟩
     have hb2:Below w1.heap.size w1 (w1.alloc (.cells #[.int .u64 1] 32)):=(yg9 _ _).alloc (yf9 _) _;have hbel2:=z01 hb1 hb2;have hrow2:=hrow1.below hb2;obtain⟨w2,hw2⟩:∃ w2,w1.alloc (.cells #[.int .u64 1] 32)=w2:=⟨_,rfl⟩;obtain⟨vb,hvb⟩:∃ vb,Value.slice (some ⟨w1.heap.size,0,none⟩) 1 1=vb:=⟨_,rfl⟩;simp only[hw2,hvb];rw[hw2]at hone hbel2 hrow2;rw[hvb]at hone;clear hw2 hb2 hrow1 hvb hb1;clear w1;go_wp2_with fail;go_loopw [5,7] (fun s5 x7 wr=>∃(ys:List Nat) (k:Nat),x7=.int .i64 k/\(k:Int)<=max x 0/\RowW wr 0 s5 ys/\Below w2.heap.size w2 wr/\Hid (z1F ys/\ys.length<=60+k/\binV ys=D*10 ^ k)) (fun _ x7 _=>(max x 0-intOf x7).toNat)
     case atStart=>exact⟨xs,0,rfl,by omega,hrow2,yg9 _ _,⟨HXA.out.1,HXA.out.2.1,by rw[HXA.out.2.2,Nat.pow_zero,Nat.mul_one]⟩⟩
     case round=>
      obtain⟨ys,k,rfl,hk,hrow3,hb3,HI⟩:=hrel;by_cases hlt:(k:Int)<x
      ·have cM:=z1Y _ ys 10 0 0 wr hrow3 HI.out.1 (by decide) (by decide) (by have:=HI.out.2.1;omega)
       go_wp2_with fail;refine cM.mono ?_;rintro e w4 ⟨v4,zs,rfl,hrow4,hb4,h1,h2,h3⟩;have HF2:Hid (z1F zs/\zs.length<=60+(k+1)/\binV zs=D*10 ^ (k+1)):=⟨h2,by have:=HI.out.2.1;omega,by rw[h1,HI.out.2.2,Nat.pow_succ,Nat.mul_assoc,Nat.add_zero]⟩
       have hrow5:=hrow4.base (yj9 _);have hb5:=z01 hb3 hb4;clear h1 h2 h3 hrow4 hb4 hrow3 hb3 HI cM;go_wp2;go_roundw
       case rel=>exact⟨zs,k+1,by go_num,by omega,hrow5,hb5,HF2⟩
       case measure=>simp[intOf];omega
      ·have hlt':decide ((k:Int)<x)=false:=by simp;omega
       have HKX:Hid (Unit->k=x.toNat):=fun _=>by omega
       have hone3:=hone.below hb3;have hbel3:=z01 hbel2 hb3;clear hk hb3 hbel2 hrow2 hone;go_wp2_with fail;go_loopw [6,8] (fun s6 x8 wz=>∃(zs:List Nat) (m:Nat),x8=.int .i64 m/\(m:Int)<=max (-x) 0/\RowW wz 0 s6 zs/\Below wr.heap.size wr wz/\Hid (z1F zs/\zs.length<=1+m/\binV zs=10 ^ m)) (fun _ x8 _=>(max (-x) 0-intOf x8).toNat)
       case atStart=>exact⟨[1],0,rfl,by omega,hone3,yg9 _ _,⟨z1L z1K (by decide),by simp,by rfl⟩⟩
       case round=>
        obtain⟨zs,m,rfl,hm,hrow6,hb6,HJ⟩:=hrel;by_cases hlt2:(m:Int) < -x
        ·have cM:=z1Y _ zs 10 0 0 _ hrow6 HJ.out.1 (by decide) (by decide) (by have:=HJ.out.2.1;omega)
         go_wp2_with fail;refine cM.mono ?_;rintro e w7 ⟨v7,ts,rfl,hrow7,hb7,h1,h2,h3⟩;have HF2:Hid (z1F ts/\ts.length<=1+(m+1)/\binV ts=10 ^ (m+1)):=⟨h2,by have:=HJ.out.2.1;omega,by rw[h1,HJ.out.2.2,Nat.pow_succ,Nat.add_zero]⟩
         have hrow8:=hrow7.base (yj9 _);have hb8:=z01 hb6 hb7;clear h1 h2 h3 hrow7 hb7 hrow6 hb6 HJ cM;go_wp2;go_roundw
         case rel=>exact⟨ts,m+1,by go_num,by omega,hrow8,hb8,HF2⟩
         case measure=>simp[intOf];omega
        ·have hlt2':decide ((m:Int) < -x)=false:=by simp;omega
         have HMX:Hid (Unit->m=(-x).toNat):=fun _=>by omega
         have hk5:k<=500:=by have:=HKX.out ();omega
         have hm5:m<=500:=by omega
         obtain⟨v1,v2,v3⟩:=HV.out ();have cQ:=z32 _ _ ys zs _ (hrow3.below hb6) hrow6 HI.out.1 HJ.out.1 (by rw[HI.out.2.2];exact Nat.mul_ne_zero v3 (by have:=Nat.pow_pos (n:=k) (by decide:0<10);omega)) (by rw[HJ.out.2.2];have:=Nat.pow_pos (n:=m) (by decide:0<10);omega) (by have:=HI.out.2.1;omega) (by have:=HJ.out.2.1;omega) (by rw[HI.out.2.2];exact(z37 v2 hk5).1) (by rw[HJ.out.2.2];exact(z37 v2 hm5).2)
         rw[HI.out.2.2,HJ.out.2.2]at cQ;have v4:R=quoG (D*10 ^ k) (10 ^ m):=by rw[v1,HKX.out (),HMX.out ()]
         rw[←v4]at cQ;have hbel9:=z01 hbel3 hb6;clear v1 v2 v3 v4 HV hm;go_wp2_with fail;refine cQ.mono ?_;rintro e w9 ⟨rfl,hb9⟩;go_wp2;go_ret;exact⟨rfl,z01 hbel9 hb9⟩
    ·have HZ:Hid (Unit->R=0):=fun _=>by rw[←HR.out (),z38 (fun h=>by rw[HZ1.out ()]at h;exact absurd h.2.2.2.2 (by decide))]
     clear hin;go_enter Tryz.func96,Tryz.ntmps96;go_wp2_with fail;refine(cF _).mono ?_;rintro e w' ⟨rfl,rfl⟩;go_wp2_with fail;refine(cI _).mono ?_;rintro e w' ⟨rfl,rfl⟩;go_wp2_with fail;refine(cZ _).mono ?_;rintro e w' ⟨rfl,rfl⟩;go_wp2;go_ret;exact⟨by rw[HZ.out ()];rfl,yg9 _ _⟩
   ·have HZ:Hid (Unit->R=0):=fun _=>by rw[←HR.out (),z38 (fun h=>hin ⟨h.2.2.1,h.2.2.2.1⟩)]
    have hcI:(decide (-500<=x)&&decide (x<=500))=false:=by rw[Bool.and_eq_false_iff,decide_eq_false_iff_not,decide_eq_false_iff_not];omega
    rw[hcI]at cI;clear hin cZ hcI;go_enter Tryz.func96,Tryz.ntmps96;go_wp2_with fail;refine(cF _).mono ?_;rintro e w' ⟨rfl,rfl⟩;go_wp2_with fail;refine(cI _).mono ?_;rintro e w' ⟨rfl,rfl⟩;go_wp2;go_ret;exact⟨by rw[HZ.out ()];rfl,yg9 _ _⟩
def txt(l:List UInt8):ByteArray:=⟨l.toArray⟩
theorem z3a(l:List UInt8):(txt l).data.toList=l:=rfl
theorem z3b(s:ByteArray):txt s.data.toList=s:=by
 apply ByteArray.ext
 simp[txt]
theorem z3c(s:ByteArray)(k:Nat):s.extract k s.size=txt (s.data.toList.drop k):=by
 rw[Lib.extract_eq,List.take_of_length_le (by rw[List.length_drop,z1x];omega)]
 rfl
theorem z3d{s:ByteArray}{k:Nat}(h:k+1<s.size)(hc:(s[k]'(by omega)).toNat=48):z1t (s.data.toList.drop k)=z1t (s.data.toList.drop (k+1)):=by
 have h1:s.data.toList.drop k=s[k]::s.data.toList.drop (k+1):=List.drop_eq_getElem_cons (by rw[z1x];omega)
 have h2:s.data.toList.drop (k+1)=s[k+1]::s.data.toList.drop (k+2):=List.drop_eq_getElem_cons (by rw[z1x];omega)
 rw[h1,h2];simp[z1t,hc]
theorem z3e{s:ByteArray}{k:Nat}(h:k<s.size)(hc:s.size<=k+1\/(s[k]).toNat≠48):z1t (s.data.toList.drop k)=s.data.toList.drop k:=by
 have h1:s.data.toList.drop k=s[k]::s.data.toList.drop (k+1):=List.drop_eq_getElem_cons (by rw[z1x];omega)
 rw[h1];by_cases h2:s.size<=k+1
 ·rw[List.drop_eq_nil_of_le (by rw[z1x];omega)]
  rfl
 ·have h3:(s[k]).toNat≠48:=by rcases hc with h'|h';exact absurd h' h2;exact h'
  have h4:s.data.toList.drop (k+1)=s[k+1]::s.data.toList.drop (k+2):=List.drop_eq_getElem_cons (by rw[z1x];omega)
  rw[h4];simp[z1t,h3]
theorem z3f(s:ByteArray)(w:World)(hs:s.size<=10000000):
  Calls Tryz.prog 94 #[.string s] w fun e w'=>e=.returned (.string (txt (z1t s.data.toList)))/\w=w':=by
 obtain⟨R,hR⟩:∃ R,txt (z1t s.data.toList)=R:=⟨_,rfl⟩;have HR:Hid (txt (z1t s.data.toList)=R):=hR;rw[hR];clear hR;go_enter Tryz.func94,Tryz.ntmps94;go_upto_region 2 with fail;go_loop [3] (fun x=>∃ k:Nat,x=.int .i64 k/\k<=s.size/\(k<s.size\/s.size=0)/\Hid (z1t (s.data.toList.drop k)=z1t s.data.toList)) (fun x=>s.size-(intOf x).toNat)
 case atStart=>exact⟨0,rfl,by omega,by omega,by rw[List.drop_zero];exact rfl⟩
 case round=>
  obtain⟨k,rfl,hk,hk2,HK⟩:=hrel;by_cases h1:(k:Int)+1<s.size
  ·have hks:k<s.size:=by omega
   by_cases h2:(s[k]).toNat=48
   ·have h2':((s[k]).toNat:Int)=48:=by omega
    have HN:Hid (z1t (s.data.toList.drop (k+1))=z1t s.data.toList):=by
     show _=_;rw[←z3d (by omega) h2];exact HK.out
    go_wp2;go_round
    case rel=>exact⟨k+1,by go_num,by omega,by omega,HN⟩
    case measure=>simp[intOf];omega
   ·have h2':(((s[k]).toNat:Int)==48)=false:=by rw[yc9];omega
    have HE:Hid (s.extract k s.size=R):=by
     show _=_;rw[z3c,←z3e hks (.inr h2),HK.out];exact HR.out
    have hz:((s.size:Int)==0)=false:=by rw[yc9];omega
    have hz2:s.size≠0:=by omega
    go_wp2;go_ret;exact⟨by rw[←HE.out];rfl,rfl⟩
  ·have h1':decide ((k:Int)+1<s.size)=false:=by simp;omega
   by_cases h0:s.size=0
   ·have HE:Hid (R=⟨#[48]⟩):=by
     show _=_;rw[←HR.out];have:s.data.toList=[]:=List.eq_nil_of_length_eq_zero (by rw[z1x];exact h0)
     rw[this];rfl
    go_wp2;go_ret;exact⟨by rw[HE.out];rfl,rfl⟩
   ·have hks:k<s.size:=by omega
    have HE:Hid (s.extract k s.size=R):=by
     show _=_;rw[z3c,←z3e hks (.inl (by omega)),HK.out];exact HR.out
    have hz:((s.size:Int)==0)=false:=by rw[yc9];omega
    go_wp2;go_ret;exact⟨by rw[←HE.out];rfl,rfl⟩
theorem z3g{w w':World}{g:Nat}{o:Obj}(h:Below w.heap.size w w')(ho:w.heap[g]?=some o):w'.heap[g]?=some o:=by
 have hg:g<w.heap.size:=by
  rcases Nat.lt_or_ge g w.heap.size with h'|h'
  ·exact h'
  ·rw[Array.getElem?_eq_none h']at ho;cases ho
 rw[h.block g hg];exact ho
theorem z3h{n:Nat}(h:n≠0):10 ^ (Lib.nDigits n-1)<=n:=by
 induction n using Nat.strongRecOn with
 | ind n ih=>
  by_cases h10:n<10
  ·rw[Lib.nDigits_small h10];simp;omega
  ·rw[Lib.nDigits_big h10];have a:=ih (n/10) (by omega) (by omega)
   have b:=Lib.nDigits_pos (n/10);rw[(by omega:Lib.nDigits (n/10)+1-1=(Lib.nDigits (n/10)-1)+1),Nat.pow_succ]
   omega
theorem z3i{n k:Nat}(hk:1<=k)(h:n<10 ^ k):(Lib.decDigits n).length<=k:=by
 rw[Lib.decDigits_length];by_cases h0:n=0
 ·subst h0;rw[Lib.nDigits_small (by omega)];exact hk
 ·rcases Nat.lt_or_ge k (Lib.nDigits n)with h'|h'
  ·have a:=z3h h0;have b:10 ^ k<=10 ^ (Lib.nDigits n-1):=Nat.pow_le_pow_right (by decide) (by omega)
   omega
  ·exact h'
end Go.Proofs.YtdbekjiognpgnaaGreat
namespace Go.Proofs.YtdbekjiognpgnaaGreat
def z3j(c:UInt8):Bool:=decide (48<=c.toNat)&&decide (c.toNat<=57)
def runN(l:List UInt8):Nat:=(l.takeWhile z3j).length
theorem z3k{c:UInt8}(h:48<=c.toNat/\c.toNat<=57):z3j c=true:=by
 unfold z3j;rw[yb9 h.1,yb9 h.2];rfl
theorem z3l{c:UInt8}(h:¬(48<=c.toNat/\c.toNat<=57)):z3j c=false:=by
 unfold z3j;rw[Bool.and_eq_false_iff,decide_eq_false_iff_not,decide_eq_false_iff_not];omega
theorem z3m{a b:List UInt8}(ha:Figs a)(hb:b=[]\/∃ c q,b=c::q/\z3j c=false):runN (a++b)=a.length:=by
 unfold runN;induction a with
 | nil=>
  rcases hb with rfl|⟨c,q,rfl,hc⟩
  ·rfl
  ·simp[hc]
 | cons x a ih=>
  have hx:=z3k (ha x (by simp))
  rw[List.cons_append,List.takeWhile_cons,if_pos hx,List.length_cons,List.length_cons,ih (fun c hc=>ha c (by simp[hc]))]
theorem z3n{a:List UInt8}(ha:Figs a):runN a=a.length:=by
 have:=z3m ha (.inl rfl);rwa [List.append_nil]at this
theorem z3o(l:List UInt8):runN l<=l.length:=by
 unfold runN;exact(List.takeWhile_sublist _).length_le
theorem z3p{l:List UInt8}{k:Nat}(hk:k<=l.length)(h1:Figs (l.take k))(h2:k=l.length\/∃ h:k<l.length,z3j l[k]=false):runN l=k:=by
 have e:l=l.take k++l.drop k:=(List.take_append_drop k l).symm;have hl:(l.take k).length=k:=by rw[List.length_take];omega
 rw[e,z3m h1,hl];rcases h2 with h2|⟨h2,h3⟩
 ·left
  exact List.drop_eq_nil_of_le (by omega)
 ·right
  exact⟨l[k],l.drop (k+1),List.drop_eq_getElem_cons h2,h3⟩
def dotR:List UInt8->Option (List UInt8 × List UInt8)
 | []=>some ([],[])
 | c::q=>if c.toNat=46 then (if 1<=runN q/\runN q<=30 then some (q.take (runN q),q.drop (runN q))else none)else some ([],c::q)
def z3q:List UInt8->Bool × List UInt8
 | []=>(false,[])
 | c::q=>if c.toNat=45 then (true,q)else if c.toNat=43 then (false,q)else (false,c::q)
def expR:List UInt8->Option (Int × List UInt8)
 | []=>some (0,[])
 | c::q=>if c.toNat=101 then
   (if 1<=runN (z3q q).2/\runN (z3q q).2<=3 then some (if (z3q q).1=true then -(digV ((z3q q).2.take (runN (z3q q).2)):Int)else (digV ((z3q q).2.take (runN (z3q q).2)):Int),(z3q q).2.drop (runN (z3q q).2))else none)
  else some (0,c::q)
def z3r(t:List UInt8):Option (List UInt8 × Int):=
 if t.length<=80/\1<=runN t/\runN t<=30 then
  (dotR (t.drop (runN t))).bind fun d=>(expR d.2).bind fun x=>if x.2=[]then some (t.take (runN t)++d.1,x.1-d.1.length)else none
 else none
def z3s(f:List UInt8)(e:Int):Nat:=if z2B (z1t f)=true then 0 else if 500<e then 9218868437227405312 else if e < -500 then 0 else z33 (z1t f) e
def z3t(t:List UInt8):Nat:=match z3r t with
 | none=>0
 | some p=>z3s p.1 p.2
def z3u(t:List UInt8):Bool:=(z3r t).isSome
theorem z3v{t a q:List UInt8}{d:List UInt8 × List UInt8}{x:Int}(ht:t=a++q)(ha:Figs a)(hq:q=[]\/∃ c r,q=c::r/\z3j c=false)(h80:t.length<=80)(h1:1<=a.length)(h2:a.length<=30)(hd:dotR q=some d)(hx:expR d.2=some (x,[])):z3r t=some (a++d.1,x-d.1.length):=by
 have hr:runN t=a.length:=by rw[ht];exact z3m ha hq
 unfold z3r;rw[hr,if_pos ⟨h80,h1,h2⟩,ht,List.drop_left,List.take_left,hd];simp[hx]
theorem z3w{n:Nat}(h:n<1000):Figs (Lib.decDigits n)/\1<=(Lib.decDigits n).length/\(Lib.decDigits n).length<=3:=by
 obtain⟨_,h2,h3⟩:=z1u n;exact⟨h2,List.length_pos_iff.2 h3,z3i (by decide) (by omega)⟩
def z3x(c:UInt8):Bool:=(decide (97<=c.toNat)&&decide (c.toNat<=122))||(decide (65<=c.toNat)&&decide (c.toNat<=90))||decide (c.toNat=95)
def z3y:List UInt8->Nat
 | []=>0
 | c::l=>if z3x c=true then (l.takeWhile fun c=>z3x c||z3j c).length+1 else 0
def z3z(l:List UInt8)(e:Nat):Nat:=match l.drop e with
 | c::d::r=>if c.toNat=46/\z3j d=true then e+1+runN (d::r)else e
 | _=>e
def z3A(d:UInt8):Nat:=if d.toNat=43\/d.toNat=45 then 1 else 0
def z3B(l:List UInt8)(e:Nat):Nat:=match l.drop e with
 | c::d::r=>if c.toNat=101 then (match (d::r).drop (z3A d)with
   | f::q=>if z3j f=true then e+1+z3A d+runN (f::q)else e
   | []=>e)else e
 | _=>e
def z3C(l:List UInt8):Nat:=z3B l (z3z l (runN l))
def z3D:List UInt8->Option Nat
 | []=>none
 | c::l=>if c.toNat=34 then some 0 else if c.toNat<32\/126<c.toNat then none else (z3D l).map (·+1)
theorem z3E{p:UInt8->Bool}{l:List UInt8}{k:Nat}(hk:k<=l.length)(h1:∀ c∈l.take k,p c=true)(h2:k=l.length\/∃ h:k<l.length,p l[k]=false):(l.takeWhile p).length=k:=by
 have e:l=l.take k++l.drop k:=(List.take_append_drop k l).symm;have hl:(l.take k).length=k:=by rw[List.length_take];omega
 have key:∀(a b:List UInt8),(∀ c∈a,p c=true)->(b=[]\/∃ c q,b=c::q/\p c=false)->((a++b).takeWhile p).length=a.length:=by
  intro a b ha hb;induction a with
  | nil=>
   rcases hb with rfl|⟨c,q,rfl,hc⟩
   ·rfl
   ·simp[hc]
  | cons x a ih=>
   have hx:=ha x (by simp)
   rw[List.cons_append,List.takeWhile_cons,if_pos hx,List.length_cons,List.length_cons,ih (fun c hc=>ha c (by simp[hc]))]
 rw[e,key _ _ h1,hl];rcases h2 with h2|⟨h2,h3⟩
 ·left
  exact List.drop_eq_nil_of_le (by omega)
 ·right
  exact⟨l[k],l.drop (k+1),List.drop_eq_getElem_cons h2,h3⟩
theorem z3F{l:List UInt8}{k:Nat}(hk:k<=l.length)(h0:∀ h:0<k,z3x (l[0]'(by omega))=true)(h1:∀ i,0<i->∀ h:i<k,(z3x (l[i]'(by omega))||z3j (l[i]'(by omega)))=true)
  (h2:k=l.length\/∃ h:k<l.length,(z3x l[k]||(decide (0<k)&&z3j l[k]))=false):z3y l=k:=by
 match l,hk,h0,h1,h2 with
 | [],hk,_,_,_=>simp at hk;subst hk;rfl
 | c::r,hk,h0,h1,h2=>
  rcases Nat.eq_zero_or_pos k with hz|hz
  ·subst hz;rcases h2 with h2|⟨h2,h3⟩
   ·simp at h2
   ·have:z3x c=false:=by simpa using h3
    show(if z3x c=true then _ else 0)=0
    rw[if_neg (by rw[this];decide)]
  ·have hc:z3x c=true:=h0 hz;obtain⟨j,rfl⟩:∃ j,k=j+1:=⟨k-1,by omega⟩
   show(if z3x c=true then (r.takeWhile fun c=>z3x c||z3j c).length+1 else 0)=j+1
   rw[if_pos hc];congr 1
   refine z3E (by simpa using hk) ?_ ?_
   ·intro x hx;obtain⟨i,hi,rfl⟩:=List.getElem_of_mem hx;rw[List.length_take]at hi;have h:=h1 (i+1) (by omega) (by omega)
    simpa using h
   ·rcases h2 with h2|⟨h2,h3⟩
    ·left;simpa using h2
    ·right
     refine⟨by simpa using h2,?_⟩
     simpa using h3
