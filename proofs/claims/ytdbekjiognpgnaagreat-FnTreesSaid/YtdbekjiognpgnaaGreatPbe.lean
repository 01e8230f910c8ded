/- Part 31. -/
import Derived.Test.YtdbekjiognpgnaaGreatPaf
import Derived.Laws.AppendOwnNone
set_option maxHeartbeats 16000000
set_option maxRecDepth 100000
set_option linter.unusedVariables false
namespace Go.Proofs.YtdbekjiognpgnaaGreat
open Go.RowKit
theorem zba{nv:Value}{g c n:Nat}{w:World}(h:z4a nv g c n w):∃ na nc,nv=.slice na n nc:=by
 rcases h with ⟨rfl,rfl⟩|⟨bl,nc,rfl,_⟩
 ·exact⟨_,_,rfl⟩
 ·exact⟨_,_,rfl⟩
theorem zbb{d:Nat}(hd3:d<=3)(ihS:z4y d)(ihE:z4v d):z4x d:=by
 intro ac len cap g c nv N w G hN;obtain⟨na,nc,rfl⟩:∃ na nc,nv=.slice na N nc:=zba G.names;obtain⟨A,hA⟩:∃ A,lenA d=A:=⟨_,rfl⟩;have hA1:200<=A:=by rw[←hA];exact z4s d
 have hA2:A<=5400000:=by rw[←hA];exact z4u hd3
 rw[hA];have cS:=fun(W:World) (nw:Value) (M:Nat) (i:Int) (GW:Gen ac len cap g c nw M W) (hM:M<=N+(d+1))=>ihS i GW (by omega)
 have cE:=fun(W:World) (nw:Value) (M:Nat) (GW:Gen ac len cap g c nw M W) (hM:M<=N+2*(d+1))=>ihE GW (by omega)
 rw[hA]at cE cS;have hdi:(d:Int)<=3:=by omega
 have hfew:=G.few;have HN0:Hid (z4a (.slice na N nc) g c N w):=G.names;obtain⟨c0,c1,⟨l,c2⟩,hf⟩:=G.cells;clear ihS ihE hN;go_enter Tryz.func55,Tryz.ntmps55;go_upto_region 4 with fail;go_loopw [6,7] (fun y z wr=>∃(s:ByteArray) (i:Nat) (nw:Value) (M:Nat),y=.string s/\z=.int .i64 i/\i<=2/\s.size<=1+i*(2*A)/\M<=N+i*(d+1)/\Gen ac len cap g c nw M wr/\Two g c w wr) (fun _ z _=>3-(intOf z).toNat)
 case atStart=>exact⟨_,0,.slice na N nc,N,rfl,rfl,by omega,(show(1:Nat)<=1+0*(2*A) by omega),by omega,G,Two.refl _ _ _⟩
 case round=>
  clear c0 c1 c2 hf G;obtain⟨s,i,nw,M,rfl,rfl,hi,hsz,hM,G4,K4⟩:=hrel;obtain⟨a0,a1,_,_⟩:=G4.cells;go_wp2_with fail;refine(z4i 3 (by omega) (by omega) G4).mono ?_
  rintro e w5 ⟨y,hy,rfl,G5,K5⟩;obtain⟨b0,b1,⟨l5,b2⟩,b3⟩:=G5.cells;have K45:=K4.trans K5;clear K4 K5 G4 a0 a1;by_cases hgo:i<y/\0<l5
  ·have hiy':(i:Int)<y:=by omega
   have hl5:(0:Int)<l5:=hgo.2;rcases (by omega:i=0\/i=1)with rfl|rfl
   ·go_wp2_with fail;refine(cS _ _ _ _ G5 (by omega)).mono ?_
    rintro e w6 ⟨z,nz,M',hz,rfl,hM',G6,K6⟩;go_wp2;go_roundw
    case rel=>exact⟨_,1,nz,M',rfl,by go_num,by omega,by simp only[ByteArray.size_append];(try simp only[show ∀ a:Array UInt8,(⟨a⟩:ByteArray).size=a.size from fun _=>rfl]);first|omega|(simp;omega),by omega,G6,K45.trans K6⟩
    case measure=>simp[intOf]
   ·go_wp2_with fail;refine(cS _ _ _ _ G5 (by omega)).mono ?_
    rintro e w6 ⟨z,nz,M',hz,rfl,hM',G6,K6⟩;go_wp2;go_roundw
    case rel=>exact⟨_,2,nz,M',rfl,by go_num,by omega,by simp only[ByteArray.size_append];(try simp only[show ∀ a:Array UInt8,(⟨a⟩:ByteArray).size=a.size from fun _=>rfl]);first|omega|(simp;omega),by omega,G6,K45.trans K6⟩
    case measure=>simp[intOf]
  ·have hsb:s.size<=1+4*A:=by
    have:=Nat.mul_le_mul_right (2*A) hi;omega
   have hMb:M<=N+2*(d+1):=by
    have:=Nat.mul_le_mul_right (d+1) hi;omega
   clear hsz hM;by_cases hiy:i<y
   ·have hiy':(i:Int)<y:=by omega
    have hl5:decide ((0:Int)<l5)=false:=by simp;omega
    go_wp2_with fail;refine(z4h 2 (by omega) (by omega) G5).mono ?_
    rintro e w6 ⟨b,rfl,G6,K6⟩;obtain⟨e0,e1,_,e3⟩:=G6.cells;cases b
    ·have f1:=e3 1;have K56:=K45.trans K6;have HG:Hid (Gen ac len cap g c (.slice na N nc) N (w6.setCell ⟨g,1,none⟩ (.slice na N nc))/\Two g c w (w6.setCell ⟨g,1,none⟩ (.slice na N nc))):=⟨G6.setNames (HN0.out.two K56) hfew,K56.trans (z4c _)⟩;clear cE cS K45 K6 K56 e3 b3;go_wp2;go_ret;exact⟨_,by simp only[ByteArray.size_append];(try simp only[show ∀ a:Array UInt8,(⟨a⟩:ByteArray).size=a.size from fun _=>rfl]);first|omega|(simp;omega),rfl,HG.out.1,HG.out.2⟩
    ·go_wp2_with fail;refine(cE _ _ _ G6 hMb).mono ?_;rintro e w7 ⟨z,hz,rfl,G7,K7⟩;obtain⟨r0,r1,_,r3⟩:=G7.cells;have f1:=r3 1;have K57:=(K45.trans K6).trans K7;have HG:Hid (Gen ac len cap g c (.slice na N nc) N (w7.setCell ⟨g,1,none⟩ (.slice na N nc))/\Two g c w (w7.setCell ⟨g,1,none⟩ (.slice na N nc))):=⟨G7.setNames (HN0.out.two K57) hfew,K57.trans (z4c _)⟩;clear cE cS K45 K6 K7 K57 e3 b3 r3;go_wp2;go_ret;exact⟨_,by simp only[ByteArray.size_append];(try simp only[show ∀ a:Array UInt8,(⟨a⟩:ByteArray).size=a.size from fun _=>rfl]);first|omega|(simp;omega),rfl,HG.out.1,HG.out.2⟩
   ·have hiy':decide ((i:Int)<y)=false:=by simp;omega
    go_wp2_with fail;refine(z4h 2 (by omega) (by omega) G5).mono ?_
    rintro e w6 ⟨b,rfl,G6,K6⟩;obtain⟨e0,e1,_,e3⟩:=G6.cells;cases b
    ·have f1:=e3 1;have K56:=K45.trans K6;have HG:Hid (Gen ac len cap g c (.slice na N nc) N (w6.setCell ⟨g,1,none⟩ (.slice na N nc))/\Two g c w (w6.setCell ⟨g,1,none⟩ (.slice na N nc))):=⟨G6.setNames (HN0.out.two K56) hfew,K56.trans (z4c _)⟩;clear cE cS K45 K6 K56 e3 b3;go_wp2;go_ret;exact⟨_,by simp only[ByteArray.size_append];(try simp only[show ∀ a:Array UInt8,(⟨a⟩:ByteArray).size=a.size from fun _=>rfl]);first|omega|(simp;omega),rfl,HG.out.1,HG.out.2⟩
    ·go_wp2_with fail;refine(cE _ _ _ G6 hMb).mono ?_;rintro e w7 ⟨z,hz,rfl,G7,K7⟩;obtain⟨r0,r1,_,r3⟩:=G7.cells;have f1:=r3 1;have K57:=(K45.trans K6).trans K7;have HG:Hid (Gen ac len cap g c (.slice na N nc) N (w7.setCell ⟨g,1,none⟩ (.slice na N nc))/\Two g c w (w7.setCell ⟨g,1,none⟩ (.slice na N nc))):=⟨G7.setNames (HN0.out.two K57) hfew,K57.trans (z4c _)⟩;clear cE cS K45 K6 K7 K57 e3 b3 r3;go_wp2;go_ret;exact⟨_,by simp only[ByteArray.size_append];(try simp only[show ∀ a:Array UInt8,(⟨a⟩:ByteArray).size=a.size from fun _=>rfl]);first|omega|(simp;omega),rfl,HG.out.1,HG.out.2⟩
theorem zbc{w:World}{b:Nat}:∀{n:Nat},z48 w b n 30->∃ ls:List ByteArray,ls.length=n/\(∀ s∈ls,s.size<=30)/\∀ j u,(ls.map Value.string)[j]?=some u->w.cell? ((⟨b,0,none⟩:Addr).add j)=some u
 | 0,_=>⟨[],rfl,by simp,fun j u h=>by simp at h⟩
 | n+1,hr=>by
  obtain⟨ls,hl,hz,hc⟩:=zbc (n:=n) (fun j hj=>hr j (by omega))
  obtain⟨s,hs,hs2⟩:=hr n (by omega)
  refine⟨ls++[s],by simp[hl],fun x hx=>?_,fun j u hj=>?_⟩
  ·rcases List.mem_append.1 hx with h|h
   ·exact hz x h
   ·rw[List.mem_singleton]at h;rw[h];exact hs2
  ·rw[List.map_append]at hj;by_cases h:j<n
   ·rw[List.getElem?_append_left (by simp[hl];exact h)]at hj
    exact hc j u hj
   ·rw[List.getElem?_append_right (by simp[hl];omega)]at hj
    have hj0:j=n:=by
     rcases Nat.lt_or_ge n j with h2|h2
     ·rw[List.getElem?_eq_none (by simp[hl];omega)]at hj;cases hj
     ·omega
    subst hj0;simp[hl]at hj;have hp:(⟨b,0,none⟩:Addr).add j=⟨b,j,none⟩:=by unfold Addr.add;split<;>simp_all
    rw[hp,hs,hj]
theorem zbd{w:World}{B g c N:Nat}{v:Value}{ls:List ByteArray}(h:w.ownsRow B 9 1 v (N+1) (ls.map Value.string))(hs:∀ s∈ls,s.size<=30)(hg:g<B)(hc:c<B):z4a v g c (N+1) w:=by
 have hl:ls.length=N+1:=by have:=h.1;simpa using this
 have hlt:=h.lt;rcases h.2 with ⟨_,h0⟩|⟨gg,cap,cur,rfl,hb,_⟩
 ·omega
 ·refine .inr ⟨gg,cap,rfl,by omega,by omega,by omega,(hlt gg rfl).2,fun j hj=>?_⟩
  have hc:=h.cells (g:=gg) rfl j (.string ls[j]) (by rw[List.getElem?_map,yd9];rfl)
  have hp:(⟨gg,0,none⟩:Addr).add j=⟨gg,j,none⟩:=by unfold Addr.add;split<;>simp_all
  rw[hp]at hc;exact⟨_,hc,hs _ (List.getElem_mem _)⟩
theorem zbe(w:World)(o:Obj):(w.alloc o).heap.size=w.heap.size+1:=by simp
theorem zbf(w:World)(o:Obj)(v:Value)(t:TypeId):∀ j u,[v][j]?=some u->((w.alloc o).alloc (.cells #[v] t)).cell? ((⟨w.heap.size+1,0,none⟩:Addr).add j)=some u:=by
 have h:=cell_one_new (w.alloc o) v t;rw[zbe]at h;exact h
theorem zbg{w:World}{B:Nat}{e:TypeId}{size:Nat}{v:Value}{n:Nat}{xs:List Value}(h:w.ownsRow B e size v n xs):∃ x c,v=.slice x n c:=by
 obtain⟨_,⟨rfl,rfl⟩|⟨g,cap,cur,rfl,_⟩⟩:=h
 ·exact⟨none,0,rfl⟩
 ·exact⟨_,_,rfl⟩
theorem zbh:(Tryz.prog.info? 9).map (fun i=>(i.zero,i.size,i.bytes))=some (some (.string ⟨#[]⟩),1,16):=by kernel_rfl
theorem zbi(w:World):(w.alloc (.cells #[] 9)).ownsRow w.heap.size 9 1 (.slice (some ⟨w.heap.size,0,none⟩) 0 0) 0 []:=
 ⟨rfl,.inr ⟨w.heap.size,0,#[],rfl,yf9 _,heap_alloc_new w _,yf9 _,yj9 _,rfl,rfl⟩⟩
theorem zbj(ihE:z4v 0):z4y 0:=by
 intro ac len cap g c nv N w at' G hN;have hA:lenA 0=200:=rfl;have cE:=fun(W:World) (nw:Value) (GW:Gen ac len cap g c nw N W) (h:N+12<=900)=>ihE GW (by omega)
 rw[hA]at cE ⊢;clear ihE;obtain⟨na,nc,rfl⟩:∃ na nc,nv=.slice na N nc:=zba G.names;obtain⟨i0,hi,hz0,hz1,hz2⟩:=info_parts zbh;obtain⟨c0,c1,⟨l,c2⟩,hf⟩:=G.cells;have f2:=hf 2;obtain⟨l',hl'⟩:∃ l',IntKind.i64.wrap (l-1)=l':=⟨_,rfl⟩;obtain⟨W1,hW1⟩:∃ W,w.setCell ⟨g,2,none⟩ (.int .i64 l')=W:=⟨_,rfl⟩;have G1:Gen ac len cap g c (.slice na N nc) N W1:=by rw[←hW1];exact G.setLeft l'
 have K1:Two g c w W1:=by rw[←hW1];exact z4c _
 obtain⟨d0,d1,_,_⟩:=G1.cells;go_enter Tryz.func28,Tryz.ntmps28;go_upto_region 2 with fail;try simp only[hW1]
 clear hW1 hf f2 c0 c1 c2 G hl';go_wp2_with fail;refine(z4i 14 (by omega) (by omega) G1).mono ?_
 rintro e w2 ⟨x,hx,rfl,G2,K2⟩;have KN:Two g c w w2:=K1.trans K2;obtain⟨d0,d1,_,_⟩:=G2.cells;clear K1 K2 G1;by_cases h6:x<=6
 ·have h6':decide ((6:Int)<x)=false:=by simp;omega
  by_cases hx3:x<3
  ·go_upto_if 40 with fail;go_cut [40] (fun y wx=>y=.bool true/\wx=w2)
   case first=>
    rcases (by omega:x=0\/x=1\/x=2)with rfl|rfl|rfl
    ·go_wp2;go_meet
     case rel=>exact⟨rfl,rfl⟩
    ·go_wp2;go_meet
     case rel=>exact⟨rfl,rfl⟩
    ·go_wp2;go_meet
     case rel=>exact⟨rfl,rfl⟩
   case rest=>
    obtain⟨rfl,rfl⟩:=hcut;go_wp2_with fail;refine(z4o G2).mono ?_;rintro e w3 ⟨nm,hnm,rfl,G3,K3⟩;go_wp2_with fail;refine(cE _ _ G3 (by omega)).mono ?_
    rintro e w4 ⟨s,hs,rfl,G4,K4⟩;have K24:=(KN.trans K3).trans K4;go_upto_region 11 with fail;go_cut [] (fun wx=>∃ nw,Gen ac len cap g c nw (N+1) wx/\Two g c w wx)
    case first=>
     obtain⟨n0,n1,_,n3⟩:=G4.cells;have hlt:=G4.lt;have own0:=zbi w4;have bel0:Below w4.heap.size w4 (w4.alloc (.cells #[] 9)):=(yg9 _ _).alloc (yf9 _) _;have n1a:(w4.alloc (.cells #[] 9)).cell? ⟨g,1,none⟩=some (.slice na N nc):=(G4.alloc _).cells.2.1;obtain⟨WE,hWE⟩:∃ W,w4.alloc (.cells #[] 9)=W:=⟨_,rfl⟩;rw[hWE]at own0 bel0 n1a;rcases G4.names with ⟨hN0,hnv⟩|⟨bl,nc',hnv,h0,hb1,hb2,hb3,hb4⟩
     ·cases hnv
      go_wp2_with (first
       | (at_builtin;refine wpList_append_own_none rfl _ _ 31 rfl w4.heap.size 9 i0 1 Tryz.underlying31 hi (.slice (some ⟨w4.heap.size,0,none⟩) 0 0) 0 [] rfl own0 rfl ?_)
       | (at_builtin;refine z03 (w0:=w4) rfl _ _ 31 rfl w4.heap.size 9 i0 (.string ⟨#[]⟩) 16 Tryz.underlying31 hi hz0 hz1 hz2 rfl _ _ _ rfl own0 (.string nm) rfl rfl (by omega) (by decide) bel0 bel0.size ?_))
      intro v2 w8 own2 bel2;have G8:=G4.below bel2;obtain⟨xa,xc,rfl⟩:=zbg own2;have HNM:Hid (z4a (.slice xa (0+1) xc) g c (0+1) w8):=zbd (ls:=[nm]) (by first|exact own2|simpa using own2) (by intro s hs;simp at hs;first|(rcases hs with hs|hs;exact hls s hs;subst hs;exact hnm)|(subst hs;exact hnm)) hlt.1 hlt.2
      obtain⟨_,q1,_,q3⟩:=G8.cells;have f1:=q3 1;have HG:Hid (Gen ac len cap g c (.slice xa (0+1) xc) (0+1) (w8.setCell ⟨g,1,none⟩ (.slice xa (0+1) xc))/\Two g c w (w8.setCell ⟨g,1,none⟩ (.slice xa (0+1) xc))):=⟨G8.setNames HNM.out (by omega),(K24.trans (.of_below bel2)).trans (z4c _)⟩
      clear HNM own2 bel2 G8 q3;go_wp2;go_meet
      case rel=>exact⟨_,HG.out.1,HG.out.2⟩
     ·cases hnv
      obtain⟨ls,hll,hls,hlc⟩:=zbc (hb4.two (Two.of_below (g:=g) (c:=c) bel0) hb3 hb1 hb2);go_wp2_with (at_builtin;refine wpList_append_own _ rfl _ _ 31 rfl w4.heap.size 9 i0 (.string ⟨#[]⟩) 1 16 Tryz.underlying31 hi hz0 hz1 hz2 rfl (by decide) (.slice (some ⟨w4.heap.size,0,none⟩) 0 0) 0 [] rfl own0 ⟨bl,0,none⟩ N nc (ls.map Value.string) rfl (by simp[hll]) hlc (fun x hx=>by obtain⟨y,_,rfl⟩:=List.mem_map.1 hx;rfl) (by unfold maxLen;omega) (by omega) bel0.size ?_)
      intro v1 w7 own1 gr1 _;have bel1:Below w4.heap.size w4 w7:=Below.grown bel0 gr1 bel0.size (fun k hk=>(own0.lt k hk).1);try rw[List.nil_append]at own1
      try rw[Nat.zero_add]at own1
      clear own0 bel0 gr1 hlc;go_wp2_with (at_builtin;refine z03 (w0:=w4) rfl _ _ 31 rfl w4.heap.size 9 i0 (.string ⟨#[]⟩) 16 Tryz.underlying31 hi hz0 hz1 hz2 rfl _ _ _ rfl own1 (.string nm) rfl rfl (by omega) (by decide) bel1 bel1.size ?_)
      intro v2 w8 own2 bel2;have G8:=G4.below bel2;obtain⟨xa,xc,rfl⟩:=zbg own2;have HNM:Hid (z4a (.slice xa (N+1) xc) g c (N+1) w8):=zbd (ls:=ls++[nm]) (by first|exact own2|simpa using own2) (by intro s hs;simp at hs;first|(rcases hs with hs|hs;exact hls s hs;subst hs;exact hnm)|(subst hs;exact hnm)) hlt.1 hlt.2
      obtain⟨_,q1,_,q3⟩:=G8.cells;have f1:=q3 1;have HG:Hid (Gen ac len cap g c (.slice xa (N+1) xc) (N+1) (w8.setCell ⟨g,1,none⟩ (.slice xa (N+1) xc))/\Two g c w (w8.setCell ⟨g,1,none⟩ (.slice xa (N+1) xc))):=⟨G8.setNames HNM.out (by omega),(K24.trans (.of_below bel2)).trans (z4c _)⟩
      clear HNM own2 bel2 G8 q3;go_wp2;go_meet
      case rel=>exact⟨_,HG.out.1,HG.out.2⟩
    case rest=>
     obtain⟨nw,G9,K9⟩:=hcut;go_wp2;go_ret;exact⟨_,_,_,by simp only[ByteArray.size_append];(try simp only[show ∀ a:Array UInt8,(⟨a⟩:ByteArray).size=a.size from fun _=>rfl]);first|omega|(simp;omega),rfl,by omega,G9,K9⟩
  rcases (by omega:x=3\/x=4\/x=5\/x=6)with rfl|rfl|rfl|rfl
  ·go_wp2_with fail;refine(cE _ _ G2 (by omega)).mono ?_
   rintro e w3 ⟨s,hs,rfl,G3,K3⟩;go_wp2;go_ret;exact⟨_,_,_,by simp only[ByteArray.size_append];(try simp only[show ∀ a:Array UInt8,(⟨a⟩:ByteArray).size=a.size from fun _=>rfl]);first|omega|(simp;omega),rfl,by omega,G3,KN.trans K3⟩
  ·go_wp2_with fail;refine(cE _ _ G2 (by omega)).mono ?_
   rintro e w3 ⟨s,hs,rfl,G3,K3⟩;go_wp2;go_ret;exact⟨_,_,_,by simp only[ByteArray.size_append];(try simp only[show ∀ a:Array UInt8,(⟨a⟩:ByteArray).size=a.size from fun _=>rfl]);first|omega|(simp;omega),rfl,by omega,G3,KN.trans K3⟩
  ·go_wp2_with fail;refine(z4j G2).mono ?_;rintro e w3 ⟨v,hv,rfl,G3,K3⟩;go_wp2_with fail;refine(cE _ _ G3 (by omega)).mono ?_
   rintro e w4 ⟨s,hs,rfl,G4,K4⟩;go_wp2;go_ret;exact⟨_,_,_,by simp only[ByteArray.size_append];(try simp only[show ∀ a:Array UInt8,(⟨a⟩:ByteArray).size=a.size from fun _=>rfl]);first|omega|(simp;omega),rfl,by omega,G4,(KN.trans K3).trans K4⟩
  ·go_wp2_with fail;refine(z4j G2).mono ?_;rintro e w3 ⟨v,hv,rfl,G3,K3⟩;go_wp2_with fail;refine(cE _ _ G3 (by omega)).mono ?_
   rintro e w4 ⟨s,hs,rfl,G4,K4⟩;go_wp2;go_ret;exact⟨_,_,_,by simp only[ByteArray.size_append];(try simp only[show ∀ a:Array UInt8,(⟨a⟩:ByteArray).size=a.size from fun _=>rfl]);first|omega|(simp;omega),rfl,by omega,G4,(KN.trans K3).trans K4⟩
 ·have h6':(6:Int)<x:=by omega
  go_wp2_with fail;refine(z4i 5 (by omega) (by omega) G2).mono ?_
  rintro e w2 ⟨y,hy,rfl,G2',K2⟩;replace KN:=KN.trans K2;replace G2:=G2';obtain⟨d0,d1,_,_⟩:=G2.cells;clear K2 G2' h6 h6' hx;by_cases hx3:y<3
  ·go_upto_if 40 with fail;go_cut [40] (fun y wx=>y=.bool true/\wx=w2)
   case first=>
    rcases (by omega:y=0\/y=1\/y=2)with rfl|rfl|rfl
    ·go_wp2;go_meet
     case rel=>exact⟨rfl,rfl⟩
    ·go_wp2;go_meet
     case rel=>exact⟨rfl,rfl⟩
    ·go_wp2;go_meet
     case rel=>exact⟨rfl,rfl⟩
   case rest=>
    obtain⟨rfl,rfl⟩:=hcut;go_wp2_with fail;refine(z4o G2).mono ?_;rintro e w3 ⟨nm,hnm,rfl,G3,K3⟩;go_wp2_with fail;refine(cE _ _ G3 (by omega)).mono ?_
    rintro e w4 ⟨s,hs,rfl,G4,K4⟩;have K24:=(KN.trans K3).trans K4;go_upto_region 11 with fail;go_cut [] (fun wx=>∃ nw,Gen ac len cap g c nw (N+1) wx/\Two g c w wx)
    case first=>
     obtain⟨n0,n1,_,n3⟩:=G4.cells;have hlt:=G4.lt;have own0:=zbi w4;have bel0:Below w4.heap.size w4 (w4.alloc (.cells #[] 9)):=(yg9 _ _).alloc (yf9 _) _;have n1a:(w4.alloc (.cells #[] 9)).cell? ⟨g,1,none⟩=some (.slice na N nc):=(G4.alloc _).cells.2.1;obtain⟨WE,hWE⟩:∃ W,w4.alloc (.cells #[] 9)=W:=⟨_,rfl⟩;rw[hWE]at own0 bel0 n1a;rcases G4.names with ⟨hN0,hnv⟩|⟨bl,nc',hnv,h0,hb1,hb2,hb3,hb4⟩
     ·cases hnv
      go_wp2_with (first
       | (at_builtin;refine wpList_append_own_none rfl _ _ 31 rfl w4.heap.size 9 i0 1 Tryz.underlying31 hi (.slice (some ⟨w4.heap.size,0,none⟩) 0 0) 0 [] rfl own0 rfl ?_)
       | (at_builtin;refine z03 (w0:=w4) rfl _ _ 31 rfl w4.heap.size 9 i0 (.string ⟨#[]⟩) 16 Tryz.underlying31 hi hz0 hz1 hz2 rfl _ _ _ rfl own0 (.string nm) rfl rfl (by omega) (by decide) bel0 bel0.size ?_))
      intro v2 w8 own2 bel2;have G8:=G4.below bel2;obtain⟨xa,xc,rfl⟩:=zbg own2;have HNM:Hid (z4a (.slice xa (0+1) xc) g c (0+1) w8):=zbd (ls:=[nm]) (by first|exact own2|simpa using own2) (by intro s hs;simp at hs;first|(rcases hs with hs|hs;exact hls s hs;subst hs;exact hnm)|(subst hs;exact hnm)) hlt.1 hlt.2
      obtain⟨_,q1,_,q3⟩:=G8.cells;have f1:=q3 1;have HG:Hid (Gen ac len cap g c (.slice xa (0+1) xc) (0+1) (w8.setCell ⟨g,1,none⟩ (.slice xa (0+1) xc))/\Two g c w (w8.setCell ⟨g,1,none⟩ (.slice xa (0+1) xc))):=⟨G8.setNames HNM.out (by omega),(K24.trans (.of_below bel2)).trans (z4c _)⟩
      clear HNM own2 bel2 G8 q3;go_wp2;go_meet
      case rel=>exact⟨_,HG.out.1,HG.out.2⟩
     ·cases hnv
      obtain⟨ls,hll,hls,hlc⟩:=zbc (hb4.two (Two.of_below (g:=g) (c:=c) bel0) hb3 hb1 hb2);go_wp2_with (at_builtin;refine wpList_append_own _ rfl _ _ 31 rfl w4.heap.size 9 i0 (.string ⟨#[]⟩) 1 16 Tryz.underlying31 hi hz0 hz1 hz2 rfl (by decide) (.slice (some ⟨w4.heap.size,0,none⟩) 0 0) 0 [] rfl own0 ⟨bl,0,none⟩ N nc (ls.map Value.string) rfl (by simp[hll]) hlc (fun x hx=>by obtain⟨y,_,rfl⟩:=List.mem_map.1 hx;rfl) (by unfold maxLen;omega) (by omega) bel0.size ?_)
      intro v1 w7 own1 gr1 _;have bel1:Below w4.heap.size w4 w7:=Below.grown bel0 gr1 bel0.size (fun k hk=>(own0.lt k hk).1);try rw[List.nil_append]at own1
      try rw[Nat.zero_add]at own1
      clear own0 bel0 gr1 hlc;go_wp2_with (at_builtin;refine z03 (w0:=w4) rfl _ _ 31 rfl w4.heap.size 9 i0 (.string ⟨#[]⟩) 16 Tryz.underlying31 hi hz0 hz1 hz2 rfl _ _ _ rfl own1 (.string nm) rfl rfl (by omega) (by decide) bel1 bel1.size ?_)
      intro v2 w8 own2 bel2;have G8:=G4.below bel2;obtain⟨xa,xc,rfl⟩:=zbg own2;have HNM:Hid (z4a (.slice xa (N+1) xc) g c (N+1) w8):=zbd (ls:=ls++[nm]) (by first|exact own2|simpa using own2) (by intro s hs;simp at hs;first|(rcases hs with hs|hs;exact hls s hs;subst hs;exact hnm)|(subst hs;exact hnm)) hlt.1 hlt.2
      obtain⟨_,q1,_,q3⟩:=G8.cells;have f1:=q3 1;have HG:Hid (Gen ac len cap g c (.slice xa (N+1) xc) (N+1) (w8.setCell ⟨g,1,none⟩ (.slice xa (N+1) xc))/\Two g c w (w8.setCell ⟨g,1,none⟩ (.slice xa (N+1) xc))):=⟨G8.setNames HNM.out (by omega),(K24.trans (.of_below bel2)).trans (z4c _)⟩
      clear HNM own2 bel2 G8 q3;go_wp2;go_meet
      case rel=>exact⟨_,HG.out.1,HG.out.2⟩
    case rest=>
     obtain⟨nw,G9,K9⟩:=hcut;go_wp2;go_ret;exact⟨_,_,_,by simp only[ByteArray.size_append];(try simp only[show ∀ a:Array UInt8,(⟨a⟩:ByteArray).size=a.size from fun _=>rfl]);first|omega|(simp;omega),rfl,by omega,G9,K9⟩
  rcases (by omega:y=3\/y=4)with rfl|rfl
  ·go_wp2_with fail;refine(cE _ _ G2 (by omega)).mono ?_
   rintro e w3 ⟨s,hs,rfl,G3,K3⟩;go_wp2;go_ret;exact⟨_,_,_,by simp only[ByteArray.size_append];(try simp only[show ∀ a:Array UInt8,(⟨a⟩:ByteArray).size=a.size from fun _=>rfl]);first|omega|(simp;omega),rfl,by omega,G3,KN.trans K3⟩
  ·go_wp2_with fail;refine(cE _ _ G2 (by omega)).mono ?_
   rintro e w3 ⟨s,hs,rfl,G3,K3⟩;go_wp2;go_ret;exact⟨_,_,_,by simp only[ByteArray.size_append];(try simp only[show ∀ a:Array UInt8,(⟨a⟩:ByteArray).size=a.size from fun _=>rfl]);first|omega|(simp;omega),rfl,by omega,G3,KN.trans K3⟩
