/- Part 7. -/
import Derived.Test.YtdbekjiognpgnaaGreatPaf
set_option maxHeartbeats 16000000
set_option maxRecDepth 100000
set_option linter.unusedVariables false
namespace Go.Proofs.YtdbekjiognpgnaaGreat
open Go.RowKit
theorem z4B{d:Nat}(hd3:d<=2)(ihE:z4v d)(ihF:z4w d):z4v (d+1):=by
 intro ac len cap g c nv N w G hN;obtain⟨D,hD⟩:∃ D,d+1=D:=⟨_,rfl⟩;obtain⟨B,hB⟩:∃ B,lenA (d+1)=B:=⟨_,rfl⟩;obtain⟨A,hA⟩:∃ A,lenA d=A:=⟨_,rfl⟩;have hBA:B=30*A:=by rw[←hB,←hA];exact z4r d
 have hA1:200<=A:=by rw[←hA];exact z4s d
 have hA2:A<=5400000:=by rw[←hA];exact z4u (by omega)
 have cE:=fun(W:World) (GW:Gen ac len cap g c nv N W)=>ihE GW (by omega)
 have cF:=fun(W:World) (GW:Gen ac len cap g c nv N W)=>ihF GW (by omega)
 rw[hA]at cE cF;rw[hB,hD];have hDb:(D:Int)<=3:=by omega
 have hDp:(0:Int)<D:=by omega
 have hD1:(D:Int)-1=d:=by omega
 have hdw:IntKind.i64.wrap (d:Int)=d:=by rw[IntKind.wrap_i64];omega
 have hD0:decide ((D:Int)<=0)=false:=by simp;omega
 obtain⟨c0,c1,⟨l,c2⟩,hf⟩:=G.cells;have f2:=hf 2;by_cases hl0:IntKind.i64.wrap (l-1)<=0
 ·exact(z4A D l (by omega) c2 hl0 G).mono fun e w' ⟨s,hs,h⟩=>⟨s,by omega,h⟩
 obtain⟨l',hl'⟩:∃ l',IntKind.i64.wrap (l-1)=l':=⟨_,rfl⟩;rw[hl']at hl0;have hl0':decide (l'<=0)=false:=by simpa using hl0
 obtain⟨W1,hW1⟩:∃ W,w.setCell ⟨g,2,none⟩ (.int .i64 l')=W:=⟨_,rfl⟩;have G1:Gen ac len cap g c nv N W1:=by rw[←hW1];exact G.setLeft l'
 have K1:Two g c w W1:=by rw[←hW1];exact z4c _
 have d2:W1.cell? ⟨g,2,none⟩=some (.int .i64 l'):=by
  obtain⟨lb,hb⟩:=G.blk;rw[←hW1];exact(z08 (by rw[heap_setCell_same _ _ _ _ _ _ hb];rfl)).2.2.1
 obtain⟨d0,d1,_,_⟩:=G1.cells;have cP:=fun(W:World) (xs:List Value) (t:TypeId) (n:Nat) (GW:Gen ac len cap g c nv N W) (hn:xs.length=n) (h0:0<n) (hle:n<=1000) (h:∀ v∈xs,∃ s:ByteArray,v=.string s/\s.size<=30)=>z4p xs t n 30 GW hn h0 hle h;have cL0:=fun(W:World) (GW:Gen ac len cap g c nv N W)=>z4z 0 (by omega) GW
 have cV:=fun(W:World) (GW:Gen ac len cap g c nv N W)=>z4j GW;have CE:Hid _:=cE;have CF:Hid _:=cF;have CP:Hid _:=cP;have CL0:Hid _:=cL0;have CV:Hid _:=cV;clear ihE ihF hB hA hD hN hd3 cE cF cP cL0 cV;go_enter Tryz.func53,Tryz.ntmps53;go_upto_region 4 with fail;try simp only[hW1]
 clear hW1 hf f2 c0 c1 c2 G hl' d2 hl0 hl0';go_wp2_with fail;refine(z4i 11 (by omega) (by omega) G1).mono ?_
 rintro e w2 ⟨x,hx,rfl,G2,K2⟩;have KK:Two g c w w2.drew:=(K1.trans K2).drew;have KN:Two g c w w2:=K1.trans K2;obtain⟨d0,d1,_,_⟩:=G2.cells;have d0a:=fun o=>(G2.drew.alloc o).cells.1;have d0n:=fun o=>(G2.alloc o).cells.1;clear K1 K2 G1;by_cases hx3:x<3
 ·go_upto_if 41 with fail;go_cut [41] (fun y wx=>y=.bool true/\wx=w2)
  case first=>
   rcases (by omega:x=0\/x=1\/x=2)with rfl|rfl|rfl
   ·go_wp2;go_meet
    case rel=>exact⟨rfl,rfl⟩
   ·go_wp2;go_meet
    case rel=>exact⟨rfl,rfl⟩
   ·go_wp2;go_meet
    case rel=>exact⟨rfl,rfl⟩
  case rest=>
   obtain⟨rfl,rfl⟩:=hcut;go_upto_region 8 with fail;go_region_with (first
    | (go_at_call 53;refine(CE.out _ ?_).mono ?_;(first|assumption|exact G2.drew|exact G2.drew.alloc _);rintro e w3 ⟨s,hs,rfl,G3,K3⟩;have KK:Two g c w w3:=(by first|exact Two.trans KK K3|exact Two.trans (Two.alloc KK _) K3);obtain⟨e0,e1,_,_⟩:=G3.cells;have e0a:=fun o=>(G3.alloc o).cells.1)
    | (go_at_call 30;refine(CP.out _ _ _ _ ?_ ?_ ?_ ?_ ?_).mono ?_;(first|assumption|exact G2.drew);rfl;decide;decide;(repeat (first|exact z4e|refine z4f (by first|decide|assumption|omega) ?_));rintro e w5 ⟨p,hp,rfl,G5,K5⟩;have KK:Two g c w w5:=Two.trans KK K5;obtain⟨j0,j1,_,_⟩:=G5.cells)
    | (go_at_call 30;refine(z4q _ _ _ 30 G2.drew G3 K3 ?_ ?_ ?_ ?_).mono ?_;rfl;decide;decide;(repeat (first|exact z4e|refine z4f (by first|decide|assumption|omega) ?_));rintro e w5 ⟨p,hp,rfl,G5,K5⟩;have KK:Two g c w w5:=Two.trans KK K5;obtain⟨j0,j1,_,_⟩:=G5.cells))
   all_goals go_wp2
   all_goals go_ret
   all_goals exact⟨_,by simp only[ByteArray.size_append];(try simp only[show ∀ a:Array UInt8,(⟨a⟩:ByteArray).size=a.size from fun _=>rfl]);first|omega|(simp;omega),rfl,G3,KK⟩
 rcases (by omega:x=3\/x=4\/x=5\/x=6\/x=7\/x=8\/x=9\/x=10)with rfl|rfl|rfl|rfl|rfl|rfl|rfl|rfl
 ·go_upto_region 10 with fail;go_region_with (first
   | (go_at_call 53;refine(CE.out _ ?_).mono ?_;(first|assumption|exact G2.drew|exact G2.drew.alloc _);rintro e w3 ⟨s,hs,rfl,G3,K3⟩;have KK:Two g c w w3:=(by first|exact Two.trans KK K3|exact Two.trans (Two.alloc KK _) K3);obtain⟨e0,e1,_,_⟩:=G3.cells;have e0a:=fun o=>(G3.alloc o).cells.1)
   | (go_at_call 30;refine(CP.out _ _ _ _ ?_ ?_ ?_ ?_ ?_).mono ?_;(first|assumption|exact G2.drew);rfl;decide;decide;(repeat (first|exact z4e|refine z4f (by first|decide|assumption|omega) ?_));rintro e w5 ⟨p,hp,rfl,G5,K5⟩;have KK:Two g c w w5:=Two.trans KK K5;obtain⟨j0,j1,_,_⟩:=G5.cells)
   | (go_at_call 30;refine(z4q _ _ _ 30 G2.drew G3 K3 ?_ ?_ ?_ ?_).mono ?_;rfl;decide;decide;(repeat (first|exact z4e|refine z4f (by first|decide|assumption|omega) ?_));rintro e w5 ⟨p,hp,rfl,G5,K5⟩;have KK:Two g c w w5:=Two.trans KK K5;obtain⟨j0,j1,_,_⟩:=G5.cells))
  all_goals go_wp2
  all_goals go_ret
  all_goals exact⟨_,by simp only[ByteArray.size_append];(try simp only[show ∀ a:Array UInt8,(⟨a⟩:ByteArray).size=a.size from fun _=>rfl]);first|omega|(simp;omega),rfl,G3,KK⟩
 ·go_upto_region 12 with fail;go_region_with (first
   | (go_at_call 53;refine(CE.out _ ?_).mono ?_;(first|assumption|exact G2.drew|exact G2.drew.alloc _);rintro e w3 ⟨s,hs,rfl,G3,K3⟩;have KK:Two g c w w3:=(by first|exact Two.trans KK K3|exact Two.trans (Two.alloc KK _) K3);obtain⟨e0,e1,_,_⟩:=G3.cells;have e0a:=fun o=>(G3.alloc o).cells.1)
   | (go_at_call 30;refine(CP.out _ _ _ _ ?_ ?_ ?_ ?_ ?_).mono ?_;(first|assumption|exact G2.drew);rfl;decide;decide;(repeat (first|exact z4e|refine z4f (by first|decide|assumption|omega) ?_));rintro e w5 ⟨p,hp,rfl,G5,K5⟩;have KK:Two g c w w5:=Two.trans KK K5;obtain⟨j0,j1,_,_⟩:=G5.cells)
   | (go_at_call 30;refine(z4q _ _ _ 30 G2.drew G3 K3 ?_ ?_ ?_ ?_).mono ?_;rfl;decide;decide;(repeat (first|exact z4e|refine z4f (by first|decide|assumption|omega) ?_));rintro e w5 ⟨p,hp,rfl,G5,K5⟩;have KK:Two g c w w5:=Two.trans KK K5;obtain⟨j0,j1,_,_⟩:=G5.cells))
  all_goals go_wp2
  all_goals go_ret
  all_goals exact⟨_,by simp only[ByteArray.size_append];(try simp only[show ∀ a:Array UInt8,(⟨a⟩:ByteArray).size=a.size from fun _=>rfl]);first|omega|(simp;omega),rfl,G3,KK⟩
 ·go_wp2_with fail;refine(CP.out _ [.string ⟨#[45]⟩,.string ⟨#[33]⟩] _ 2 G2 rfl (by decide) (by decide) (by repeat (first|exact z4e|refine z4f (by decide) ?_))).mono ?_
  rintro e w5 ⟨p,hp,rfl,G5,K5⟩;go_wp2_with fail;refine(CL0.out _ G5).mono ?_;rintro e w6 ⟨s,hs,rfl,G6,K6⟩;go_wp2;go_ret;exact⟨_,by simp only[ByteArray.size_append];(try simp only[show ∀ a:Array UInt8,(⟨a⟩:ByteArray).size=a.size from fun _=>rfl]);first|omega|(simp;omega),rfl,G6,(KN.trans K5).trans K6⟩
 ·go_wp2_with fail;refine(CV.out _ G2).mono ?_;rintro e w3 ⟨v,hv,rfl,G3,K3⟩;obtain⟨e0,e1,_,_⟩:=G3.cells;have KM:Two g c w w3:=KN.trans K3;clear KK KN K3;go_upto_region 19 with fail;go_loopw [5,6] (fun y z wr=>∃(s:ByteArray) (i:Nat),y=.string s/\z=.int .i64 i/\i<=2/\s.size<=31+i*(A+1)/\Gen ac len cap g c nv N wr/\Two g c w wr) (fun _ z _=>3-(intOf z).toNat)
  case atStart=>exact⟨_,0,rfl,rfl,by omega,by simp only[ByteArray.size_append];(try simp only[show ∀ a:Array UInt8,(⟨a⟩:ByteArray).size=a.size from fun _=>rfl]);first|omega|(simp;omega),G3,KM⟩
  case round=>
   obtain⟨s,i,rfl,rfl,hi,hsz,G4,K4⟩:=hrel;obtain⟨a0,a1,_,_⟩:=G4.cells;go_wp2_with fail;refine(z4i 3 (by omega) (by omega) G4).mono ?_
   rintro e w5 ⟨y,hy,rfl,G5,K5⟩;obtain⟨b0,b1,_,_⟩:=G5.cells;by_cases hiy:i<y
   ·have hiy':(i:Int)<y:=by omega
    by_cases hi0:i=0
    ·subst hi0;go_wp2_with fail;refine(CE.out _ G5).mono ?_;rintro e w6 ⟨z,hz,rfl,G6,K6⟩;go_wp2;go_roundw
     case rel=>exact⟨_,1,rfl,by go_num,by omega,by simp only[ByteArray.size_append];(try simp only[show ∀ a:Array UInt8,(⟨a⟩:ByteArray).size=a.size from fun _=>rfl]);first|omega|(simp;omega),G6,(K4.trans K5).trans K6⟩
     case measure=>simp[intOf]
    ·have hi0':(0:Int)<i:=by omega
     have hi1:i=1:=by omega
     subst hi1;go_wp2_with fail;refine(CE.out _ G5).mono ?_;rintro e w6 ⟨z,hz,rfl,G6,K6⟩;go_wp2;go_roundw
     case rel=>exact⟨_,2,rfl,by go_num,by omega,by simp only[ByteArray.size_append];(try simp only[show ∀ a:Array UInt8,(⟨a⟩:ByteArray).size=a.size from fun _=>rfl]);first|omega|(simp;omega),G6,(K4.trans K5).trans K6⟩
     case measure=>simp[intOf]
   ·have hiy':decide ((i:Int)<y)=false:=by simp;omega
    have hi2:i*(A+1)<=2*(A+1):=Nat.mul_le_mul_right _ hi;have hsb:s.size<=33+2*A:=by omega
    clear hi2 hsz;go_wp2;go_ret;exact⟨_,by simp only[ByteArray.size_append];(try simp only[show ∀ a:Array UInt8,(⟨a⟩:ByteArray).size=a.size from fun _=>rfl]);first|omega|(simp;omega),rfl,G5,K4.trans K5⟩
 ·go_wp2_with fail;refine(CV.out _ G2).mono ?_;rintro e w3 ⟨v,hv,rfl,G3,K3⟩;obtain⟨e0,e1,_,_⟩:=G3.cells;have KM:Two g c w w3:=KN.trans K3;clear KK KN K3;go_upto_region 19 with fail;go_loopw [5,6] (fun y z wr=>∃(s:ByteArray) (i:Nat),y=.string s/\z=.int .i64 i/\i<=2/\s.size<=31+i*(A+1)/\Gen ac len cap g c nv N wr/\Two g c w wr) (fun _ z _=>3-(intOf z).toNat)
  case atStart=>exact⟨_,0,rfl,rfl,by omega,by simp only[ByteArray.size_append];(try simp only[show ∀ a:Array UInt8,(⟨a⟩:ByteArray).size=a.size from fun _=>rfl]);first|omega|(simp;omega),G3,KM⟩
  case round=>
   obtain⟨s,i,rfl,rfl,hi,hsz,G4,K4⟩:=hrel;obtain⟨a0,a1,_,_⟩:=G4.cells;go_wp2_with fail;refine(z4i 3 (by omega) (by omega) G4).mono ?_
   rintro e w5 ⟨y,hy,rfl,G5,K5⟩;obtain⟨b0,b1,_,_⟩:=G5.cells;by_cases hiy:i<y
   ·have hiy':(i:Int)<y:=by omega
    by_cases hi0:i=0
    ·subst hi0;go_wp2_with fail;refine(CE.out _ G5).mono ?_;rintro e w6 ⟨z,hz,rfl,G6,K6⟩;go_wp2;go_roundw
     case rel=>exact⟨_,1,rfl,by go_num,by omega,by simp only[ByteArray.size_append];(try simp only[show ∀ a:Array UInt8,(⟨a⟩:ByteArray).size=a.size from fun _=>rfl]);first|omega|(simp;omega),G6,(K4.trans K5).trans K6⟩
     case measure=>simp[intOf]
    ·have hi0':(0:Int)<i:=by omega
     have hi1:i=1:=by omega
     subst hi1;go_wp2_with fail;refine(CE.out _ G5).mono ?_;rintro e w6 ⟨z,hz,rfl,G6,K6⟩;go_wp2;go_roundw
     case rel=>exact⟨_,2,rfl,by go_num,by omega,by simp only[ByteArray.size_append];(try simp only[show ∀ a:Array UInt8,(⟨a⟩:ByteArray).size=a.size from fun _=>rfl]);first|omega|(simp;omega),G6,(K4.trans K5).trans K6⟩
     case measure=>simp[intOf]
   ·have hiy':decide ((i:Int)<y)=false:=by simp;omega
    have hi2:i*(A+1)<=2*(A+1):=Nat.mul_le_mul_right _ hi;have hsb:s.size<=33+2*A:=by omega
    clear hi2 hsz;go_wp2;go_ret;exact⟨_,by simp only[ByteArray.size_append];(try simp only[show ∀ a:Array UInt8,(⟨a⟩:ByteArray).size=a.size from fun _=>rfl]);first|omega|(simp;omega),rfl,G5,K4.trans K5⟩
 ·go_wp2_with fail;refine(CF.out _ G2).mono ?_;rintro e w3 ⟨s,_,hs,rfl,G3,K3⟩;go_wp2;go_ret;exact⟨s,by omega,rfl,G3,KN.trans K3⟩
 ·go_wp2_with fail;refine(CE.out _ G2).mono ?_;rintro e w3 ⟨s,hs,rfl,G3,K3⟩;go_wp2;go_ret;exact⟨_,by simp only[ByteArray.size_append];(try simp only[show ∀ a:Array UInt8,(⟨a⟩:ByteArray).size=a.size from fun _=>rfl]);first|omega|(simp;omega),rfl,G3,KN.trans K3⟩
 ·go_wp2_with fail;refine(CL0.out _ G2).mono ?_;rintro e w3 ⟨s,hs,rfl,G3,K3⟩;go_wp2;go_ret;exact⟨s,by omega,rfl,G3,KN.trans K3⟩
