/- Part 32. -/
import Derived.Test.YtdbekjiognpgnaaGreatPbe
set_option maxHeartbeats 16000000
set_option maxRecDepth 100000
set_option linter.unusedVariables false
namespace Go.Proofs.YtdbekjiognpgnaaGreat
open Go.RowKit
theorem zbk{d:Nat}(hd3:d<=2)(ihE:z4v (d+1))(ihE1:z4v 1)(ihB:z4x d)(ihS:z4y d)(ihF:z4w d):z4y (d+1):=by
 intro ac len cap g c nv N w at' G hN;obtain⟨D,hD⟩:∃ D,d+1=D:=⟨_,rfl⟩;obtain⟨A,hA⟩:∃ A,lenA d=A:=⟨_,rfl⟩;have hB:lenA (d+1)=30*A:=by rw[z4r,hA]
 have hA1:200<=A:=by rw[←hA];exact z4s d
 have hA2:A<=5400000:=by rw[←hA];exact z4u (by omega)
 have hA3:lenA 1<=30*A:=by rw[←hB];exact z4t (by omega)
 have cE:=fun(W:World) (nw:Value) (GW:Gen ac len cap g c nw N W) (h:N+20*(d+1)+20<=900)=>ihE GW (by omega)
 have cE1:∀(W:World) (nw:Value),Gen ac len cap g c nw N W->N+20*(d+1)+20<=900->Calls Tryz.prog 53 #[.pointer (some ⟨g,0,none⟩),.int .i64 1] W fun e w'=>∃ s:ByteArray,s.size<=30*A/\e=.returned (.string s)/\Gen ac len cap g c nw N w'/\Two g c W w':=fun W nw GW h=>(ihE1 GW (by omega)).mono fun e w' h=>by
  obtain⟨s,hs,h⟩:=h;exact⟨s,yi9 hs hA3,h⟩
 have cB:=fun(W:World) (nw:Value) (GW:Gen ac len cap g c nw N W) (h:N+20*(d+1)+20<=900)=>ihB GW (by omega)
 have cS0:=fun(W:World) (nw:Value) (GW:Gen ac len cap g c nw N W) (h:N+20*(d+1)+20<=900)=>ihS 0 GW (by omega)
 have cS:=fun(W:World) (nw:Value) (M:Nat) (GW:Gen ac len cap g c nw M W) (h:N+20*(d+1)+20<=900/\M<=N+1)=>ihS 0 GW (by omega)
 have cF:=fun(W:World) (nw:Value) (GW:Gen ac len cap g c nw (N+1) W) (h:N+20*(d+1)+20<=900)=>ihF GW (by omega)
 rw[hA]at cB cS cS0 cF;rw[hB]at cE ⊢;rw[hD]at cE hN ⊢;have hDb:(D:Int)<=3:=by omega
 have hDp:(0:Int)<D:=by omega
 have hD1:(D:Int)-1=d:=by omega
 have hdw:IntKind.i64.wrap (d:Int)=d:=by rw[IntKind.wrap_i64];omega
 have hD0:decide ((D:Int)<=0)=false:=by simp;omega
 have HH:Hid (N+20*(d+1)+20<=900):=by show _<=_;rw[hD];exact hN
 clear ihE ihE1 ihB ihS ihF hB hA hA3 hD hd3;obtain⟨na,nc,rfl⟩:∃ na nc,nv=.slice na N nc:=zba G.names;obtain⟨i0,hi,hz0,hz1,hz2⟩:=info_parts zbh;obtain⟨c0,c1,⟨l,c2⟩,hf⟩:=G.cells;have f2:=hf 2;obtain⟨l',hl'⟩:∃ l',IntKind.i64.wrap (l-1)=l':=⟨_,rfl⟩;obtain⟨W1,hW1⟩:∃ W,w.setCell ⟨g,2,none⟩ (.int .i64 l')=W:=⟨_,rfl⟩;have G1:Gen ac len cap g c (.slice na N nc) N W1:=by rw[←hW1];exact G.setLeft l'
 have K1:Two g c w W1:=by rw[←hW1];exact z4c _
 obtain⟨d0,d1,_,_⟩:=G1.cells;go_enter Tryz.func28,Tryz.ntmps28;go_upto_region 2 with fail;try simp only[hW1]
 clear hW1 hf f2 c0 c1 c2 G hl';go_wp2_with fail;refine(z4i 14 (by omega) (by omega) G1).mono ?_
 rintro e w2 ⟨x,hx,rfl,G2,K2⟩;have KN:Two g c w w2:=K1.trans K2;obtain⟨d0,d1,_,_⟩:=G2.cells;clear K1 K2 G1;by_cases hx3:x<3
 ·go_upto_if 40 with fail;go_cut [40] (fun y wx=>y=.bool true/\wx=w2)
  case first=>
   rcases (by omega:x=0\/x=1\/x=2)with rfl|rfl|rfl
   ·go_wp2;go_meet
    case rel=>exact⟨rfl,rfl⟩
   ·go_wp2;go_meet
    case rel=>exact⟨rfl,rfl⟩
   ·go_wp2;go_meet
    case rel=>exact⟨rfl,rfl⟩
  case rest=>
   obtain⟨rfl,rfl⟩:=hcut;go_wp2_with fail;refine(z4o G2).mono ?_;rintro e w3 ⟨nm,hnm,rfl,G3,K3⟩;go_wp2_with fail;refine(cE _ _ G3 (by omega)).mono ?_
   rintro e w4 ⟨s,hs,rfl,G4,K4⟩;have K24:=(KN.trans K3).trans K4;go_upto_region 11 with fail;go_cut [] (fun wx=>∃ nw,Gen ac len cap g c nw (N+1) wx/\Two g c w wx)
   case first=>
    obtain⟨n0,n1,_,n3⟩:=G4.cells;have hlt:=G4.lt;have own0:=zbi w4;have bel0:Below w4.heap.size w4 (w4.alloc (.cells #[] 9)):=(yg9 _ _).alloc (yf9 _) _;have n1a:(w4.alloc (.cells #[] 9)).cell? ⟨g,1,none⟩=some (.slice na N nc):=(G4.alloc _).cells.2.1;obtain⟨WE,hWE⟩:∃ W,w4.alloc (.cells #[] 9)=W:=⟨_,rfl⟩;rw[hWE]at own0 bel0 n1a;rcases G4.names with ⟨hN0,hnv⟩|⟨bl,nc',hnv,h0,hb1,hb2,hb3,hb4⟩
    ·cases hnv
     go_wp2_with (first
      | (at_builtin;refine wpList_append_own_none rfl _ _ 31 rfl w4.heap.size 9 i0 1 Tryz.underlying31 hi (.slice (some ⟨w4.heap.size,0,none⟩) 0 0) 0 [] rfl own0 rfl ?_)
      | (at_builtin;refine z03 (w0:=w4) rfl _ _ 31 rfl w4.heap.size 9 i0 (.string ⟨#[]⟩) 16 Tryz.underlying31 hi hz0 hz1 hz2 rfl _ _ _ rfl own0 (.string nm) rfl rfl (by omega) (by decide) bel0 bel0.size ?_))
     intro v2 w8 own2 bel2;have G8:=G4.below bel2;obtain⟨xa,xc,rfl⟩:=zbg own2;have HNM:Hid (z4a (.slice xa (0+1) xc) g c (0+1) w8):=zbd (ls:=[nm]) (by first|exact own2|simpa using own2) (by intro s hs;simp at hs;first|(rcases hs with hs|hs;exact hls s hs;subst hs;exact hnm)|(subst hs;exact hnm)) hlt.1 hlt.2
     obtain⟨_,q1,_,q3⟩:=G8.cells;have f1:=q3 1;have HG:Hid (Gen ac len cap g c (.slice xa (0+1) xc) (0+1) (w8.setCell ⟨g,1,none⟩ (.slice xa (0+1) xc))/\Two g c w (w8.setCell ⟨g,1,none⟩ (.slice xa (0+1) xc))):=⟨G8.setNames HNM.out (by omega),(K24.trans (.of_below bel2)).trans (z4c _)⟩
     clear HNM own2 bel2 G8 q3;go_wp2;go_meet
     case rel=>exact⟨_,HG.out.1,HG.out.2⟩
    ·cases hnv
     obtain⟨ls,hll,hls,hlc⟩:=zbc (hb4.two (Two.of_below (g:=g) (c:=c) bel0) hb3 hb1 hb2);go_wp2_with (at_builtin;refine wpList_append_own _ rfl _ _ 31 rfl w4.heap.size 9 i0 (.string ⟨#[]⟩) 1 16 Tryz.underlying31 hi hz0 hz1 hz2 rfl (by decide) (.slice (some ⟨w4.heap.size,0,none⟩) 0 0) 0 [] rfl own0 ⟨bl,0,none⟩ N nc (ls.map Value.string) rfl (by simp[hll]) hlc (fun x hx=>by obtain⟨y,_,rfl⟩:=List.mem_map.1 hx;rfl) (by unfold maxLen;omega) (by omega) bel0.size ?_)
     intro v1 w7 own1 gr1 _;have bel1:Below w4.heap.size w4 w7:=Below.grown bel0 gr1 bel0.size (fun k hk=>(own0.lt k hk).1);try rw[List.nil_append]at own1
     try rw[Nat.zero_add]at own1
     clear own0 bel0 gr1 hlc;go_wp2_with (at_builtin;refine z03 (w0:=w4) rfl _ _ 31 rfl w4.heap.size 9 i0 (.string ⟨#[]⟩) 16 Tryz.underlying31 hi hz0 hz1 hz2 rfl _ _ _ rfl own1 (.string nm) rfl rfl (by omega) (by decide) bel1 bel1.size ?_)
     intro v2 w8 own2 bel2;have G8:=G4.below bel2;obtain⟨xa,xc,rfl⟩:=zbg own2;have HNM:Hid (z4a (.slice xa (N+1) xc) g c (N+1) w8):=zbd (ls:=ls++[nm]) (by first|exact own2|simpa using own2) (by intro s hs;simp at hs;first|(rcases hs with hs|hs;exact hls s hs;subst hs;exact hnm)|(subst hs;exact hnm)) hlt.1 hlt.2
     obtain⟨_,q1,_,q3⟩:=G8.cells;have f1:=q3 1;have HG:Hid (Gen ac len cap g c (.slice xa (N+1) xc) (N+1) (w8.setCell ⟨g,1,none⟩ (.slice xa (N+1) xc))/\Two g c w (w8.setCell ⟨g,1,none⟩ (.slice xa (N+1) xc))):=⟨G8.setNames HNM.out (by omega),(K24.trans (.of_below bel2)).trans (z4c _)⟩
     clear HNM own2 bel2 G8 q3;go_wp2;go_meet
     case rel=>exact⟨_,HG.out.1,HG.out.2⟩
   case rest=>
    obtain⟨nw,G9,K9⟩:=hcut;go_wp2;go_ret;exact⟨_,_,_,by simp only[ByteArray.size_append];(try simp only[show ∀ a:Array UInt8,(⟨a⟩:ByteArray).size=a.size from fun _=>rfl]);first|omega|(simp;omega),rfl,by omega,G9,K9⟩
 rcases (by omega:x=3\/x=4\/x=5\/x=6\/x=7\/x=8\/x=9\/x=10\/x=11\/x=12\/x=13)with rfl|rfl|rfl|rfl|rfl|rfl|rfl|rfl|rfl|rfl|rfl
 ·go_wp2_with fail;refine(cE _ _ G2 (by omega)).mono ?_
  rintro e w3 ⟨s,hs,rfl,G3,K3⟩;go_wp2;go_ret;exact⟨_,_,_,by simp only[ByteArray.size_append];(try simp only[show ∀ a:Array UInt8,(⟨a⟩:ByteArray).size=a.size from fun _=>rfl]);first|omega|(simp;omega),rfl,by omega,G3,KN.trans K3⟩
 ·go_wp2_with fail;refine(cE _ _ G2 (by omega)).mono ?_
  rintro e w3 ⟨s,hs,rfl,G3,K3⟩;go_wp2;go_ret;exact⟨_,_,_,by simp only[ByteArray.size_append];(try simp only[show ∀ a:Array UInt8,(⟨a⟩:ByteArray).size=a.size from fun _=>rfl]);first|omega|(simp;omega),rfl,by omega,G3,KN.trans K3⟩
 ·go_wp2_with fail;refine(z4j G2).mono ?_;rintro e w3 ⟨v,hv,rfl,G3,K3⟩;go_wp2_with fail;refine(cE _ _ G3 (by omega)).mono ?_
  rintro e w4 ⟨s,hs,rfl,G4,K4⟩;go_wp2;go_ret;exact⟨_,_,_,by simp only[ByteArray.size_append];(try simp only[show ∀ a:Array UInt8,(⟨a⟩:ByteArray).size=a.size from fun _=>rfl]);first|omega|(simp;omega),rfl,by omega,G4,(KN.trans K3).trans K4⟩
 ·go_wp2_with fail;refine(z4j G2).mono ?_;rintro e w3 ⟨v,hv,rfl,G3,K3⟩;go_wp2_with fail;refine(cE _ _ G3 (by omega)).mono ?_
  rintro e w4 ⟨s,hs,rfl,G4,K4⟩;go_wp2;go_ret;exact⟨_,_,_,by simp only[ByteArray.size_append];(try simp only[show ∀ a:Array UInt8,(⟨a⟩:ByteArray).size=a.size from fun _=>rfl]);first|omega|(simp;omega),rfl,by omega,G4,(KN.trans K3).trans K4⟩
 ·go_wp2_with fail;refine(cE1 _ _ G2 (by omega)).mono ?_
  rintro e w3 ⟨s,hs,rfl,G3,K3⟩;go_wp2_with fail;refine(cB _ _ G3 (by omega)).mono ?_
  rintro e w4 ⟨b1,hb1,rfl,G4,K4⟩;obtain⟨d0,d1,_,_⟩:=G4.cells;go_wp2_with fail;refine(z4h 2 (by omega) (by omega) G4).mono ?_
  rintro e w5 ⟨b,rfl,G5,K5⟩;have K25:=((KN.trans K3).trans K4).trans K5;cases b
  ·go_wp2;go_ret;exact⟨_,_,_,by simp only[ByteArray.size_append];(try simp only[show ∀ a:Array UInt8,(⟨a⟩:ByteArray).size=a.size from fun _=>rfl]);first|omega|(simp;omega),rfl,by omega,G5,K25⟩
  ·go_wp2_with fail;refine(cB _ _ G5 (by omega)).mono ?_
   rintro e w6 ⟨b2,hb2,rfl,G6,K6⟩;go_wp2;go_ret;exact⟨_,_,_,by simp only[ByteArray.size_append];(try simp only[show ∀ a:Array UInt8,(⟨a⟩:ByteArray).size=a.size from fun _=>rfl]);first|omega|(simp;omega),rfl,by omega,G6,K25.trans K6⟩
 ·go_wp2_with fail;refine(z4o G2).mono ?_;rintro e w3 ⟨nm,hnm,rfl,G3,K3⟩;have K23:=KN.trans K3;go_upto_region 27 with fail;go_cut [] (fun wx=>∃ nw,Gen ac len cap g c nw (N+1) wx/\Two g c w wx)
  case first=>
   obtain⟨n0,n1,_,n3⟩:=G3.cells;have hlt:=G3.lt;have own0:=zbi w3;have bel0:Below w3.heap.size w3 (w3.alloc (.cells #[] 9)):=(yg9 _ _).alloc (yf9 _) _;have n1a:(w3.alloc (.cells #[] 9)).cell? ⟨g,1,none⟩=some (.slice na N nc):=(G3.alloc _).cells.2.1;obtain⟨WE,hWE⟩:∃ W,w3.alloc (.cells #[] 9)=W:=⟨_,rfl⟩;rw[hWE]at own0 bel0 n1a;rcases G3.names with ⟨hN0,hnv⟩|⟨bl,nc',hnv,h0,hb1,hb2,hb3,hb4⟩
   ·cases hnv
    go_wp2_with (first
     | (at_builtin;refine wpList_append_own_none rfl _ _ 31 rfl w3.heap.size 9 i0 1 Tryz.underlying31 hi (.slice (some ⟨w3.heap.size,0,none⟩) 0 0) 0 [] rfl own0 rfl ?_)
     | (at_builtin;refine z03 (w0:=w3) rfl _ _ 31 rfl w3.heap.size 9 i0 (.string ⟨#[]⟩) 16 Tryz.underlying31 hi hz0 hz1 hz2 rfl _ _ _ rfl own0 (.string nm) rfl rfl (by omega) (by decide) bel0 bel0.size ?_))
    intro v2 w8 own2 bel2;have G8:=G3.below bel2;obtain⟨xa,xc,rfl⟩:=zbg own2;have HNM:Hid (z4a (.slice xa (0+1) xc) g c (0+1) w8):=zbd (ls:=[nm]) (by first|exact own2|simpa using own2) (by intro s hs;simp at hs;first|(rcases hs with hs|hs;exact hls s hs;subst hs;exact hnm)|(subst hs;exact hnm)) hlt.1 hlt.2
    obtain⟨_,q1,_,q3⟩:=G8.cells;have f1:=q3 1;have HG:Hid (Gen ac len cap g c (.slice xa (0+1) xc) (0+1) (w8.setCell ⟨g,1,none⟩ (.slice xa (0+1) xc))/\Two g c w (w8.setCell ⟨g,1,none⟩ (.slice xa (0+1) xc))):=⟨G8.setNames HNM.out (by omega),(K23.trans (.of_below bel2)).trans (z4c _)⟩
    clear HNM own2 bel2 G8 q3;go_wp2;go_meet
    case rel=>exact⟨_,HG.out.1,HG.out.2⟩
   ·cases hnv
    obtain⟨ls,hll,hls,hlc⟩:=zbc (hb4.two (Two.of_below (g:=g) (c:=c) bel0) hb3 hb1 hb2);go_wp2_with (at_builtin;refine wpList_append_own _ rfl _ _ 31 rfl w3.heap.size 9 i0 (.string ⟨#[]⟩) 1 16 Tryz.underlying31 hi hz0 hz1 hz2 rfl (by decide) (.slice (some ⟨w3.heap.size,0,none⟩) 0 0) 0 [] rfl own0 ⟨bl,0,none⟩ N nc (ls.map Value.string) rfl (by simp[hll]) hlc (fun x hx=>by obtain⟨y,_,rfl⟩:=List.mem_map.1 hx;rfl) (by unfold maxLen;omega) (by omega) bel0.size ?_)
    intro v1 w7 own1 gr1 _;have bel1:Below w3.heap.size w3 w7:=Below.grown bel0 gr1 bel0.size (fun k hk=>(own0.lt k hk).1);try rw[List.nil_append]at own1
    try rw[Nat.zero_add]at own1
    clear own0 bel0 gr1 hlc;go_wp2_with (at_builtin;refine z03 (w0:=w3) rfl _ _ 31 rfl w3.heap.size 9 i0 (.string ⟨#[]⟩) 16 Tryz.underlying31 hi hz0 hz1 hz2 rfl _ _ _ rfl own1 (.string nm) rfl rfl (by omega) (by decide) bel1 bel1.size ?_)
    intro v2 w8 own2 bel2;have G8:=G3.below bel2;obtain⟨xa,xc,rfl⟩:=zbg own2;have HNM:Hid (z4a (.slice xa (N+1) xc) g c (N+1) w8):=zbd (ls:=ls++[nm]) (by first|exact own2|simpa using own2) (by intro s hs;simp at hs;first|(rcases hs with hs|hs;exact hls s hs;subst hs;exact hnm)|(subst hs;exact hnm)) hlt.1 hlt.2
    obtain⟨_,q1,_,q3⟩:=G8.cells;have f1:=q3 1;have HG:Hid (Gen ac len cap g c (.slice xa (N+1) xc) (N+1) (w8.setCell ⟨g,1,none⟩ (.slice xa (N+1) xc))/\Two g c w (w8.setCell ⟨g,1,none⟩ (.slice xa (N+1) xc))):=⟨G8.setNames HNM.out (by omega),(K23.trans (.of_below bel2)).trans (z4c _)⟩
    clear HNM own2 bel2 G8 q3;go_wp2;go_meet
    case rel=>exact⟨_,HG.out.1,HG.out.2⟩
  case rest=>
   obtain⟨nw,G9,K9⟩:=hcut;obtain⟨d0,d1,_,_⟩:=G9.cells;go_wp2_with fail;refine(z4i 4 (by omega) (by omega) G9).mono ?_
   rintro e w5 ⟨x,hx,rfl,G5,K5⟩;obtain⟨y,hy⟩:∃ y,1+x=y:=⟨_,rfl⟩;have hy':(1:Int)+x=y:=by omega
   have hyb:(y:Int)<=10:=by omega
   go_wp2_with fail;refine(z4n y (by omega) G5).mono ?_
   rintro e w6 ⟨z,hz,rfl,G6,K6⟩;go_wp2_with fail;refine(cS _ _ _ G6 (by omega)).mono ?_
   rintro e w7 ⟨t,nz,M',ht,rfl,hM',G7,K7⟩;go_wp2;go_ret;exact⟨_,_,_,by simp only[ByteArray.size_append];(try simp only[show ∀ a:Array UInt8,(⟨a⟩:ByteArray).size=a.size from fun _=>rfl]);first|omega|(simp;omega),rfl,by omega,G7,((K9.trans K5).trans K6).trans K7⟩
 ·go_wp2_with fail;refine(cB _ _ G2 (by omega)).mono ?_
  rintro e w3 ⟨s,hs,rfl,G3,K3⟩;go_wp2_with fail;refine(cS0 _ _ G3 (by omega)).mono ?_
  rintro e w7 ⟨t,nz,M',ht,rfl,hM',G7,K7⟩;go_wp2;go_ret;exact⟨_,_,_,by simp only[ByteArray.size_append];(try simp only[show ∀ a:Array UInt8,(⟨a⟩:ByteArray).size=a.size from fun _=>rfl]);first|omega|(simp;omega),rfl,by omega,G7,(KN.trans K3).trans K7⟩
 ·go_wp2_with fail;refine(cE1 _ _ G2 (by omega)).mono ?_
  rintro e w3 ⟨s,hs,rfl,G3,K3⟩;go_wp2;go_ret;exact⟨_,_,_,by simp only[ByteArray.size_append];(try simp only[show ∀ a:Array UInt8,(⟨a⟩:ByteArray).size=a.size from fun _=>rfl]);first|omega|(simp;omega),rfl,by omega,G3,KN.trans K3⟩
 ·go_wp2_with fail;refine(z4o G2).mono ?_;rintro e w3 ⟨nm,hnm,rfl,G3,K3⟩;have K23:=KN.trans K3;go_upto_region 36 with fail;go_cut [] (fun wx=>∃ nw,Gen ac len cap g c nw (N+1) wx/\Two g c w wx)
  case first=>
   obtain⟨n0,n1,_,n3⟩:=G3.cells;have hlt:=G3.lt;have own0:=zbi w3;have bel0:Below w3.heap.size w3 (w3.alloc (.cells #[] 9)):=(yg9 _ _).alloc (yf9 _) _;have n1a:(w3.alloc (.cells #[] 9)).cell? ⟨g,1,none⟩=some (.slice na N nc):=(G3.alloc _).cells.2.1;obtain⟨WE,hWE⟩:∃ W,w3.alloc (.cells #[] 9)=W:=⟨_,rfl⟩;rw[hWE]at own0 bel0 n1a;rcases G3.names with ⟨hN0,hnv⟩|⟨bl,nc',hnv,h0,hb1,hb2,hb3,hb4⟩
   ·cases hnv
    go_wp2_with (first
     | (at_builtin;refine wpList_append_own_none rfl _ _ 31 rfl w3.heap.size 9 i0 1 Tryz.underlying31 hi (.slice (some ⟨w3.heap.size,0,none⟩) 0 0) 0 [] rfl own0 rfl ?_)
     | (at_builtin;refine z03 (w0:=w3) rfl _ _ 31 rfl w3.heap.size 9 i0 (.string ⟨#[]⟩) 16 Tryz.underlying31 hi hz0 hz1 hz2 rfl _ _ _ rfl own0 (.string nm) rfl rfl (by omega) (by decide) bel0 bel0.size ?_))
    intro v2 w8 own2 bel2;have G8:=G3.below bel2;obtain⟨xa,xc,rfl⟩:=zbg own2;have HNM:Hid (z4a (.slice xa (0+1) xc) g c (0+1) w8):=zbd (ls:=[nm]) (by first|exact own2|simpa using own2) (by intro s hs;simp at hs;first|(rcases hs with hs|hs;exact hls s hs;subst hs;exact hnm)|(subst hs;exact hnm)) hlt.1 hlt.2
    obtain⟨_,q1,_,q3⟩:=G8.cells;have f1:=q3 1;have HG:Hid (Gen ac len cap g c (.slice xa (0+1) xc) (0+1) (w8.setCell ⟨g,1,none⟩ (.slice xa (0+1) xc))/\Two g c w (w8.setCell ⟨g,1,none⟩ (.slice xa (0+1) xc))):=⟨G8.setNames HNM.out (by omega),(K23.trans (.of_below bel2)).trans (z4c _)⟩
    clear HNM own2 bel2 G8 q3;go_wp2;go_meet
    case rel=>exact⟨_,HG.out.1,HG.out.2⟩
   ·cases hnv
    obtain⟨ls,hll,hls,hlc⟩:=zbc (hb4.two (Two.of_below (g:=g) (c:=c) bel0) hb3 hb1 hb2);go_wp2_with (at_builtin;refine wpList_append_own _ rfl _ _ 31 rfl w3.heap.size 9 i0 (.string ⟨#[]⟩) 1 16 Tryz.underlying31 hi hz0 hz1 hz2 rfl (by decide) (.slice (some ⟨w3.heap.size,0,none⟩) 0 0) 0 [] rfl own0 ⟨bl,0,none⟩ N nc (ls.map Value.string) rfl (by simp[hll]) hlc (fun x hx=>by obtain⟨y,_,rfl⟩:=List.mem_map.1 hx;rfl) (by unfold maxLen;omega) (by omega) bel0.size ?_)
    intro v1 w7 own1 gr1 _;have bel1:Below w3.heap.size w3 w7:=Below.grown bel0 gr1 bel0.size (fun k hk=>(own0.lt k hk).1);try rw[List.nil_append]at own1
    try rw[Nat.zero_add]at own1
    clear own0 bel0 gr1 hlc;go_wp2_with (at_builtin;refine z03 (w0:=w3) rfl _ _ 31 rfl w3.heap.size 9 i0 (.string ⟨#[]⟩) 16 Tryz.underlying31 hi hz0 hz1 hz2 rfl _ _ _ rfl own1 (.string nm) rfl rfl (by omega) (by decide) bel1 bel1.size ?_)
    intro v2 w8 own2 bel2;have G8:=G3.below bel2;obtain⟨xa,xc,rfl⟩:=zbg own2;have HNM:Hid (z4a (.slice xa (N+1) xc) g c (N+1) w8):=zbd (ls:=ls++[nm]) (by first|exact own2|simpa using own2) (by intro s hs;simp at hs;first|(rcases hs with hs|hs;exact hls s hs;subst hs;exact hnm)|(subst hs;exact hnm)) hlt.1 hlt.2
    obtain⟨_,q1,_,q3⟩:=G8.cells;have f1:=q3 1;have HG:Hid (Gen ac len cap g c (.slice xa (N+1) xc) (N+1) (w8.setCell ⟨g,1,none⟩ (.slice xa (N+1) xc))/\Two g c w (w8.setCell ⟨g,1,none⟩ (.slice xa (N+1) xc))):=⟨G8.setNames HNM.out (by omega),(K23.trans (.of_below bel2)).trans (z4c _)⟩
    clear HNM own2 bel2 G8 q3;go_wp2;go_meet
    case rel=>exact⟨_,HG.out.1,HG.out.2⟩
  case rest=>
   obtain⟨nw,G9,K9⟩:=hcut;go_wp2_with fail;refine(cF _ _ G9 (by omega)).mono ?_
   rintro e w5 ⟨s,hs3,hs,rfl,G5,K5⟩;have hs3':(3:Int)<=s.size:=by omega
   obtain⟨q,hq⟩:∃ q,s.extract 3 s.size=q:=⟨_,rfl⟩;have hqs:q.size<=s.size:=by rw[←hq,ByteArray.size_extract];omega
   go_wp2;try simp only[hq]
   go_ret;exact⟨_,_,_,by simp only[ByteArray.size_append];(try simp only[show ∀ a:Array UInt8,(⟨a⟩:ByteArray).size=a.size from fun _=>rfl]);first|omega|(simp;omega),rfl,by omega,G5,K9.trans K5⟩
 ·go_wp2_with fail;refine(z4o G2).mono ?_;rintro e w3 ⟨nm,hnm,rfl,G3,K3⟩;have K23:=KN.trans K3;go_upto_region 36 with fail;go_cut [] (fun wx=>∃ nw,Gen ac len cap g c nw (N+1) wx/\Two g c w wx)
  case first=>
   obtain⟨n0,n1,_,n3⟩:=G3.cells;have hlt:=G3.lt;have own0:=zbi w3;have bel0:Below w3.heap.size w3 (w3.alloc (.cells #[] 9)):=(yg9 _ _).alloc (yf9 _) _;have n1a:(w3.alloc (.cells #[] 9)).cell? ⟨g,1,none⟩=some (.slice na N nc):=(G3.alloc _).cells.2.1;obtain⟨WE,hWE⟩:∃ W,w3.alloc (.cells #[] 9)=W:=⟨_,rfl⟩;rw[hWE]at own0 bel0 n1a;rcases G3.names with ⟨hN0,hnv⟩|⟨bl,nc',hnv,h0,hb1,hb2,hb3,hb4⟩
   ·cases hnv
    go_wp2_with (first
     | (at_builtin;refine wpList_append_own_none rfl _ _ 31 rfl w3.heap.size 9 i0 1 Tryz.underlying31 hi (.slice (some ⟨w3.heap.size,0,none⟩) 0 0) 0 [] rfl own0 rfl ?_)
     | (at_builtin;refine z03 (w0:=w3) rfl _ _ 31 rfl w3.heap.size 9 i0 (.string ⟨#[]⟩) 16 Tryz.underlying31 hi hz0 hz1 hz2 rfl _ _ _ rfl own0 (.string nm) rfl rfl (by omega) (by decide) bel0 bel0.size ?_))
    intro v2 w8 own2 bel2;have G8:=G3.below bel2;obtain⟨xa,xc,rfl⟩:=zbg own2;have HNM:Hid (z4a (.slice xa (0+1) xc) g c (0+1) w8):=zbd (ls:=[nm]) (by first|exact own2|simpa using own2) (by intro s hs;simp at hs;first|(rcases hs with hs|hs;exact hls s hs;subst hs;exact hnm)|(subst hs;exact hnm)) hlt.1 hlt.2
    obtain⟨_,q1,_,q3⟩:=G8.cells;have f1:=q3 1;have HG:Hid (Gen ac len cap g c (.slice xa (0+1) xc) (0+1) (w8.setCell ⟨g,1,none⟩ (.slice xa (0+1) xc))/\Two g c w (w8.setCell ⟨g,1,none⟩ (.slice xa (0+1) xc))):=⟨G8.setNames HNM.out (by omega),(K23.trans (.of_below bel2)).trans (z4c _)⟩
    clear HNM own2 bel2 G8 q3;go_wp2;go_meet
    case rel=>exact⟨_,HG.out.1,HG.out.2⟩
   ·cases hnv
    obtain⟨ls,hll,hls,hlc⟩:=zbc (hb4.two (Two.of_below (g:=g) (c:=c) bel0) hb3 hb1 hb2);go_wp2_with (at_builtin;refine wpList_append_own _ rfl _ _ 31 rfl w3.heap.size 9 i0 (.string ⟨#[]⟩) 1 16 Tryz.underlying31 hi hz0 hz1 hz2 rfl (by decide) (.slice (some ⟨w3.heap.size,0,none⟩) 0 0) 0 [] rfl own0 ⟨bl,0,none⟩ N nc (ls.map Value.string) rfl (by simp[hll]) hlc (fun x hx=>by obtain⟨y,_,rfl⟩:=List.mem_map.1 hx;rfl) (by unfold maxLen;omega) (by omega) bel0.size ?_)
    intro v1 w7 own1 gr1 _;have bel1:Below w3.heap.size w3 w7:=Below.grown bel0 gr1 bel0.size (fun k hk=>(own0.lt k hk).1);try rw[List.nil_append]at own1
    try rw[Nat.zero_add]at own1
    clear own0 bel0 gr1 hlc;go_wp2_with (at_builtin;refine z03 (w0:=w3) rfl _ _ 31 rfl w3.heap.size 9 i0 (.string ⟨#[]⟩) 16 Tryz.underlying31 hi hz0 hz1 hz2 rfl _ _ _ rfl own1 (.string nm) rfl rfl (by omega) (by decide) bel1 bel1.size ?_)
    intro v2 w8 own2 bel2;have G8:=G3.below bel2;obtain⟨xa,xc,rfl⟩:=zbg own2;have HNM:Hid (z4a (.slice xa (N+1) xc) g c (N+1) w8):=zbd (ls:=ls++[nm]) (by first|exact own2|simpa using own2) (by intro s hs;simp at hs;first|(rcases hs with hs|hs;exact hls s hs;subst hs;exact hnm)|(subst hs;exact hnm)) hlt.1 hlt.2
    obtain⟨_,q1,_,q3⟩:=G8.cells;have f1:=q3 1;have HG:Hid (Gen ac len cap g c (.slice xa (N+1) xc) (N+1) (w8.setCell ⟨g,1,none⟩ (.slice xa (N+1) xc))/\Two g c w (w8.setCell ⟨g,1,none⟩ (.slice xa (N+1) xc))):=⟨G8.setNames HNM.out (by omega),(K23.trans (.of_below bel2)).trans (z4c _)⟩
    clear HNM own2 bel2 G8 q3;go_wp2;go_meet
    case rel=>exact⟨_,HG.out.1,HG.out.2⟩
  case rest=>
   obtain⟨nw,G9,K9⟩:=hcut;go_wp2_with fail;refine(cF _ _ G9 (by omega)).mono ?_
   rintro e w5 ⟨s,hs3,hs,rfl,G5,K5⟩;have hs3':(3:Int)<=s.size:=by omega
   obtain⟨q,hq⟩:∃ q,s.extract 3 s.size=q:=⟨_,rfl⟩;have hqs:q.size<=s.size:=by rw[←hq,ByteArray.size_extract];omega
   go_wp2;try simp only[hq]
   go_ret;exact⟨_,_,_,by simp only[ByteArray.size_append];(try simp only[show ∀ a:Array UInt8,(⟨a⟩:ByteArray).size=a.size from fun _=>rfl]);first|omega|(simp;omega),rfl,by omega,G5,K9.trans K5⟩
 ·go_wp2_with fail;refine(cE _ _ G2 (by omega)).mono ?_
  rintro e w3 ⟨s,hs,rfl,G3,K3⟩;go_wp2;go_ret;exact⟨_,_,_,by simp only[ByteArray.size_append];(try simp only[show ∀ a:Array UInt8,(⟨a⟩:ByteArray).size=a.size from fun _=>rfl]);first|omega|(simp;omega),rfl,by omega,G3,KN.trans K3⟩
