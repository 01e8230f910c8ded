/- Part 33. -/
import Derived.Test.YtdbekjiognpgnaaGreatPbe
import Derived.Deep.AppendLies
set_option maxHeartbeats 16000000
set_option maxRecDepth 100000
set_option linter.unusedVariables false
namespace Go.Proofs.YtdbekjiognpgnaaGreat
open Go.RowKit
theorem zbl{P:Program}{w:World}{ops:Array Oper}{o:Oper}{a:Act}{K:Act->World->Prop}{Q:Exit->Act->World->Prop}{E:Prop}(hgd:o.guard=none)(s x:Operand)(t:TypeId)
  (ho:o.op=.call { callee:=.builtin .append,args:=#[s,x],argTypes:=#[t,t] })
  (base:Nat) (e:TypeId) (i:TypeInfo) (size:Nat) (ht:P.underlying t=some (.slice e)) (hi:P.info? e=some i)
  (v:Value) (n:Nat) (xs:List Value) (hs:a.eval s=v) (hown:w.ownsRow base e size v n xs) (hx:a.eval x=.slice none 0 0)
  (h:K (a.put o.dst v) w):if Region.wanted o (yielded ops a.tmps)=true then Oper.wp P o a w K Q else E:=by
 have hw:Region.wanted o (yielded ops a.tmps)=true:=by simp[Region.wanted,hgd]
 rw[if_pos hw];have hrun:=run_append_owned_none (P:=P) (w:=w) base t o.type e i size ht hi v n xs hown;unfold Oper.wp;simp[execOp,ho,resolve,invoke,builtin,hs,hx,hrun,Result.andThen];exact h
theorem zbm(w:World)(o:Obj):((w.alloc o).alloc (.cells #[] 9)).ownsRow w.heap.size 9 1 (.slice (some ⟨w.heap.size+1,0,none⟩) 0 0) 0 []:=by
 have h:=zbi (w.alloc o);rw[zbe]at h;obtain⟨h1,h2⟩:=h;refine⟨h1,?_⟩;rcases h2 with h2|⟨g,cap,cur,a,b,c,d⟩
 ·exact .inl h2
 ·exact .inr ⟨g,cap,cur,a,by omega,c,d⟩
theorem zbn(w:World)(o:Obj):w.heap.size<=(w.alloc o).heap.size:=by simp
theorem zbo(w:World)(o o':Obj):w.heap.size+1<((w.alloc o).alloc o').heap.size:=by simp only[zbe];omega
theorem zbp(w:World)(o o':Obj):w.heap.size<((w.alloc o).alloc o').heap.size:=by simp only[zbe];omega
theorem zbq(w:World)(v:Value)(t:TypeId)(o:Obj):∀ j u,[v][j]?=some u->((w.alloc (.cells #[v] t)).alloc o).cell? ((⟨w.heap.size,0,none⟩:Addr).add j)=some u:=fun j u hj=>by
 have h:=cell_one_new w v t j u hj;have hp:(⟨w.heap.size,0,none⟩:Addr).add j=⟨w.heap.size,j,none⟩:=by unfold Addr.add;split<;>simp_all
 rw[hp]at h ⊢;have hb:Below (w.alloc (.cells #[v] t)).heap.size (w.alloc (.cells #[v] t)) ((w.alloc (.cells #[v] t)).alloc o):=(yg9 _ _).alloc (yf9 _) _;rw[hb.cell (by rw[zbe];exact Nat.lt_succ_self _)]
 exact h
theorem zbr{W w7:World}{row:Option Nat}{e:Nat}{xs:List Value}(gr:W.grownBy w7 row)(h:∀ j u,xs[j]?=some u->W.cell? ((⟨e,0,none⟩:Addr).add j)=some u)(hlt:e<W.heap.size)(hne:some e≠row):∀ j u,xs[j]?=some u->w7.cell? ((⟨e,0,none⟩:Addr).add j)=some u:=fun j u hj=>by
 have h1:=h j u hj;have hp:(⟨e,0,none⟩:Addr).add j=⟨e,j,none⟩:=by unfold Addr.add;split<;>simp_all
 rw[hp]at h1 ⊢;exact gr.cell h1 hne
theorem zbs{g c b n:Nat}{w w':World}{ls:List ByteArray}(h:z48 w b n 30)(k:Two g c w w')(hb:b<w.heap.size)(h1:b≠g)(h2:b≠c)(hc:∀ j u,(ls.map Value.string)[j]?=some u->w.cell? ((⟨b,0,none⟩:Addr).add j)=some u):∀ j u,(ls.map Value.string)[j]?=some u->w'.cell? ((⟨b,0,none⟩:Addr).add j)=some u:=fun j u hj=>by
 have h3:=hc j u hj;have hp:(⟨b,0,none⟩:Addr).add j=⟨b,j,none⟩:=by unfold Addr.add;split<;>simp_all
 rw[hp]at h3 ⊢;rw[k.cell hb h1 h2];exact h3
theorem zbt{d:Nat}(hd3:d<=3)(ihB:z4x d):z4w d:=by
 intro ac len cap g c nv N w G hN;obtain⟨na,nc,rfl⟩:∃ na nc,nv=.slice na N nc:=zba G.names;obtain⟨i0,hi,hz0,hz1,hz2⟩:=info_parts zbh;obtain⟨A,hA⟩:∃ A,lenA d=A:=⟨_,rfl⟩;have hA1:200<=A:=by rw[←hA];exact z4s d
 have hA2:A<=5400000:=by rw[←hA];exact z4u hd3
 rw[hA];have cB:=fun(W:World) (nw:Value) (M:Nat) (GW:Gen ac len cap g c nw M W) (hM:M<=N+2)=>ihB GW (by omega)
 rw[hA]at cB;have hdi:(d:Int)<=3:=by omega
 have hfew:=G.few;obtain⟨c0,c1,_,hf⟩:=G.cells;have hltw:=G.lt;obtain⟨W0,hW0⟩:∃ W,w.alloc (.cells #[.string ⟨#[112]⟩,.string ⟨#[113]⟩] 9)=W:=⟨_,rfl⟩;obtain⟨L,hL⟩:∃ L,w.heap.size=L:=⟨_,rfl⟩;have G0:Gen ac len cap g c (.slice na N nc) N W0:=by rw[←hW0];exact G.alloc _
 have K0:Two g c w W0:=by rw[←hW0];exact(Two.refl _ _ _).alloc _
 have hLW:L<W0.heap.size:=by rw[←hW0,←hL,zbe];exact Nat.lt_succ_self _
 have hblk:W0.heap[L]?=some (.cells #[.string ⟨#[112]⟩,.string ⟨#[113]⟩] 9):=by rw[←hW0,←hL];exact heap_alloc_new w _
 have lrow0:∀ W,Two g c W0 W->W.cell? ⟨L,0,none⟩=some (.string ⟨#[112]⟩):=fun W k=>by rw[k.cell hLW (by omega) (by omega),cell_of_row _ _ _ _ _ _ hblk];rfl
 have lrow1:∀ W,Two g c W0 W->W.cell? ⟨L,1,none⟩=some (.string ⟨#[113]⟩):=fun W k=>by rw[k.cell hLW (by omega) (by omega),cell_of_row _ _ _ _ _ _ hblk];rfl
 have HN0:Hid (z4a (.slice na N nc) g c N W0):=G0.names;obtain⟨d0,d1,_,_⟩:=G0.cells;clear ihB hblk hA;go_enter Tryz.func57,Tryz.ntmps57;go_wp2_with fail;try simp only[hW0,hL]
 refine(z4i 3 (by omega) (by omega) G0).mono ?_
 rintro e w2 ⟨x,hx,rfl,G2,K2⟩;clear hW0 G c0 c1 hf G0 d0 d1;go_upto_region 6 with fail;go_loopw [6,9] (fun y z wr=>∃(s:ByteArray) (i:Nat) (nw:Value) (M:Nat),y=.string s/\z=.int .i64 i/\i<=x/\(4<=s.size/\s.size<=4+2*i)/\M<=N+i/\Gen ac len cap g c nw M wr/\Two g c W0 wr) (fun _ z _=>3-(intOf z).toNat)
 case atStart=>exact⟨_,0,_,N,rfl,rfl,by omega,(show(4:Nat)<=4/\(4:Nat)<=4+2*0 by omega),by omega,G2,K2⟩
 case round=>
  clear G2 K2;obtain⟨s,i,nw,M,rfl,rfl,hix,hsz,hM,G4,K4⟩:=hrel;obtain⟨a0,a1,_,_⟩:=G4.cells;by_cases hlt2:i<x
  ·have hlt2':(i:Int)<x:=by omega
   rcases (by omega:i=0\/i=1)with rfl|rfl
   ·have lc:=lrow0 wr K4;have lc7:∀ W,Below wr.heap.size wr W->W.cell? ⟨L,0,none⟩=some (.string ⟨#[112]⟩):=fun W hb=>lrow0 W (K4.trans (.of_below hb));go_upto_region 11 with fail;obtain⟨X,hX⟩:∃ X,wr=X:=⟨_,rfl⟩;rw[hX]at G4 K4 lc lc7;try simp only[hX]
    clear hX;obtain⟨n0,n1,_,n3⟩:=G4.cells;have hlt:=G4.lt;have bela:∀ o,Below X.heap.size X (X.drew.alloc o):=fun o=>(yg9 _ _).drew.alloc (yf9 _) _;have belb:∀ o o',Below X.heap.size X ((X.drew.alloc o).alloc o'):=fun o o'=>(bela o).alloc (bela o).size _;have g1a:=fun o=>(G4.below (bela o)).cells.2.1;have g1b:=fun o o'=>(G4.below (belb o o')).cells.2.1;have la:=fun o=>lc7 _ (bela o);have lb:=fun o o'=>lc7 _ (belb o o');have belc:∀ o,Below X.heap.size X (X.alloc o):=fun o=>(yg9 _ _).alloc (yf9 _) _;have beld:∀ o o',Below X.heap.size X ((X.alloc o).alloc o'):=fun o o'=>(belc o).alloc (belc o).size _;have bele:∀ o,Below X.heap.size X ((X.alloc o).drew):=fun o=>(belc o).drew;have belf:∀ o o',Below X.heap.size X (((X.alloc o).alloc o').drew):=fun o o'=>(beld o o').drew;have g1c:=fun o=>(G4.below (belc o)).cells.2.1;have g1d:=fun o o'=>(G4.below (beld o o')).cells.2.1;have lcc:=fun o=>lc7 _ (belc o);have lcd:=fun o o'=>lc7 _ (beld o o');have hfew:=G4.few;rcases G4.names with ⟨hN0,hnv⟩|⟨bl,nc,hnv,h0,hb1,hb2,hb3,hb4⟩
    ·subst hnv;subst hN0;have hlsq:∀ s∈[(⟨#[112]⟩:ByteArray)],s.size<=30:=by intro s hs;simp at hs;subst hs;decide
     go_region_law (first
      | (refine zbl rfl _ _ 31 rfl X.heap.size 9 i0 1 Tryz.underlying31 hi _ 0 [] rfl ?_ rfl ?_;(first|exact zbi X.drew|exact(zbi X.drew).alloc _|exact zbm X.drew _|exact own_up X.drew _|exact zbi X|exact(zbi X).alloc _|exact zbm X _))
      | (refine step_append_lies _ rfl _ _ 31 rfl X.heap.size 9 i0 (.string ⟨#[]⟩) 1 16 Tryz.underlying31 hi hz0 hz1 hz2 rfl (by decide) _ 0 [] rfl ?_ _ 1 1 [.string ⟨#[112]⟩] rfl rfl ?_ (fun x hx=>by simp at hx;subst hx;rfl) (by decide) (by decide) (by decide) ?_ _ rfl ?_;(first|exact zbi X.drew|exact(zbi X.drew).alloc _|exact zbm X.drew _|exact own_up X.drew _|exact zbi X|exact(zbi X).alloc _|exact zbm X _);(first|exact cell_one_new _ _ _|exact zbf X (.cells #[] 9) (.string ⟨#[112]⟩) 9|exact zbq X (.string ⟨#[112]⟩) 9 (.cells #[] 9));(first|exact(belf _ _).size|exact(belb _ _).size);intro g2 c2 w8 own2 gr2 hat2 hlt8;have bel2:Below X.heap.size X w8:=Below.grown (by first|exact bel1|exact bel1.alloc bel1.size _|exact bele _|exact belf _ _) gr2 (by first|exact bel1.size|exact yi9 bel1.size (zbn _ _)|exact(bele _).size|exact(belf _ _).size) (by first|exact fun k hk=>(own1.lt k hk).1|exact fun k hk=>((zbi X).lt k hk).1|exact fun k hk=>((zbm X (.cells #[] 9)).lt k hk).1);have HNM:Hid (z4a (.slice (some ⟨g2,0,none⟩) (0+1) c2) g c (0+1) w8):=zbd (ls:=[⟨#[112]⟩]) (by first|exact own2|simpa using own2) hlsq hlt.1 hlt.2;have G8:=G4.below bel2;obtain⟨_,q1,_,q3⟩:=G8.cells;have f1:=q3 1;have HG:Hid (Gen ac len cap g c (.slice (some ⟨g2,0,none⟩) (0+1) c2) (0+1) (w8.setCell ⟨g,1,none⟩ (.slice (some ⟨g2,0,none⟩) (0+1) c2))/\Two g c W0 (w8.setCell ⟨g,1,none⟩ (.slice (some ⟨g2,0,none⟩) (0+1) c2))):=⟨G8.setNames HNM.out (by omega),(K4.trans (.of_below bel2)).trans (z4c _)⟩;clear HNM own2 gr2 hat2 hlt8 bel2 G8 q3))
     all_goals go_wp2
     all_goals (
      go_roundw
      case rel=>exact⟨_,0+1,_,0+1,rfl,by go_num,by omega,by simp only[ByteArray.size_append];(try simp only[show ∀ a:Array UInt8,(⟨a⟩:ByteArray).size=a.size from fun _=>rfl]);first|omega|(simp;omega),by omega,HG.out.1,HG.out.2⟩
      case measure=>simp[intOf];try omega)
    ·subst hnv;obtain⟨ls,hll,hls,hlc⟩:=zbc hb4;have hlca:=fun o=>(zbs hb4 (Two.of_below (g:=g) (c:=c) (bela o)) hb3 hb1 hb2 hlc);have hlcb:=fun o o'=>(zbs hb4 (Two.of_below (g:=g) (c:=c) (belb o o')) hb3 hb1 hb2 hlc);have hlce:=fun o=>(zbs hb4 (Two.of_below (g:=g) (c:=c) (bele o)) hb3 hb1 hb2 hlc);have hlcf:=fun o o'=>(zbs hb4 (Two.of_below (g:=g) (c:=c) (belf o o')) hb3 hb1 hb2 hlc);have hlm:(ls.map Value.string).length=M*1:=by simp[hll]
     have hone:∀ u∈ls.map Value.string,u.oneCell'=true:=fun x hx=>by obtain⟨y,_,rfl⟩:=List.mem_map.1 hx;rfl
     have hM1:0+M<=maxLen:=by unfold maxLen;omega
     have hM2:(0+M)*16<=140737488355328:=by omega
     have hM3:M+1<=maxLen:=by unfold maxLen;omega
     have hM4:(M+1)*16<=140737488355328:=by omega
     have hlsq:∀ s∈ls++[(⟨#[112]⟩:ByteArray)],s.size<=30:=by
      intro s hs;rcases List.mem_append.1 hs with hs|hs
      ·exact hls s hs
      ·rw[List.mem_singleton]at hs;subst hs;decide
     go_region_law (first
      | (refine step_append_lies _ rfl _ _ 31 rfl X.heap.size 9 i0 (.string ⟨#[]⟩) 1 16 Tryz.underlying31 hi hz0 hz1 hz2 rfl (by decide) _ 0 [] rfl ?_ ⟨bl,0,none⟩ M nc (ls.map Value.string) rfl hlm ?_ hone h0 hM1 hM2 ?_ _ rfl ?_;(first|exact zbi X.drew|exact(zbi X.drew).alloc _|exact zbm X.drew _|exact own_up X.drew _|exact zbi X|exact(zbi X).alloc _|exact zbm X _);(first|exact hlce _|exact hlcf _ _);(first|exact(bele _).size|exact(belf _ _).size);intro gg cc w7 own1 gr1 hat1 hlt7;replace gr1:World.grownBy _ w7 (some _):=gr1;have bel1:Below X.heap.size X w7:=Below.grown (by first|exact bele _|exact belf _ _) gr1 (by first|exact(bele _).size|exact(belf _ _).size) (by intro k hk;injection hk with hk;subst hk;first|exact yf9 _|exact Nat.le_succ _);have l7:w7.cell? ⟨L,0,none⟩=some (.string ⟨#[112]⟩):=lc7 w7 bel1;have l7a:∀ o,(w7.alloc o).cell? ⟨L,0,none⟩=some (.string ⟨#[112]⟩):=fun o=>lc7 _ (bel1.alloc bel1.size o);try rw[Nat.zero_add]at own1)
      | (refine step_append_lies _ rfl _ _ 31 rfl X.heap.size 9 i0 (.string ⟨#[]⟩) 1 16 Tryz.underlying31 hi hz0 hz1 hz2 rfl (by decide) _ M (ls.map Value.string) rfl ?_ _ 1 1 [.string ⟨#[112]⟩] rfl rfl ?_ (fun x hx=>by simp at hx;subst hx;rfl) (by decide) hM3 hM4 ?_ _ rfl ?_;(first|exact own1|exact own1.alloc _);(first|exact cell_one_new _ _ _|exact zbr gr1 (zbf X (.cells #[] 9) (.string ⟨#[112]⟩) 9) (zbo X _ _) (by simp)|exact zbr gr1 (zbq X (.string ⟨#[112]⟩) 9 (.cells #[] 9)) (zbp X _ _) (by simp));(first|exact bel1.size|exact yi9 bel1.size (zbn _ _));intro g2 c2 w8 own2 gr2 hat2 hlt8;have bel2:Below X.heap.size X w8:=Below.grown (by first|exact bel1|exact bel1.alloc bel1.size _|exact bele _|exact belf _ _) gr2 (by first|exact bel1.size|exact yi9 bel1.size (zbn _ _)|exact(bele _).size|exact(belf _ _).size) (by first|exact fun k hk=>(own1.lt k hk).1|exact fun k hk=>((zbi X).lt k hk).1|exact fun k hk=>((zbm X (.cells #[] 9)).lt k hk).1);have HNM:Hid (z4a (.slice (some ⟨g2,0,none⟩) (M+1) c2) g c (M+1) w8):=zbd (ls:=ls++[⟨#[112]⟩]) (by first|exact own2|simpa using own2) hlsq hlt.1 hlt.2;have G8:=G4.below bel2;obtain⟨_,q1,_,q3⟩:=G8.cells;have f1:=q3 1;have HG:Hid (Gen ac len cap g c (.slice (some ⟨g2,0,none⟩) (M+1) c2) (M+1) (w8.setCell ⟨g,1,none⟩ (.slice (some ⟨g2,0,none⟩) (M+1) c2))/\Two g c W0 (w8.setCell ⟨g,1,none⟩ (.slice (some ⟨g2,0,none⟩) (M+1) c2))):=⟨G8.setNames HNM.out (by omega),(K4.trans (.of_below bel2)).trans (z4c _)⟩;clear HNM own2 gr2 hat2 hlt8 bel2 G8 q3))
     all_goals go_wp2
     all_goals (
      go_roundw
      case rel=>exact⟨_,0+1,_,M+1,rfl,by go_num,by omega,by simp only[ByteArray.size_append];(try simp only[show ∀ a:Array UInt8,(⟨a⟩:ByteArray).size=a.size from fun _=>rfl]);first|omega|(simp;omega),by omega,HG.out.1,HG.out.2⟩
      case measure=>simp[intOf];try omega)
   ·have lc:=lrow1 wr K4;have lc7:∀ W,Below wr.heap.size wr W->W.cell? ⟨L,1,none⟩=some (.string ⟨#[113]⟩):=fun W hb=>lrow1 W (K4.trans (.of_below hb));go_upto_region 11 with fail;obtain⟨X,hX⟩:∃ X,wr=X:=⟨_,rfl⟩;rw[hX]at G4 K4 lc lc7;try simp only[hX]
    clear hX;obtain⟨n0,n1,_,n3⟩:=G4.cells;have hlt:=G4.lt;have bela:∀ o,Below X.heap.size X (X.drew.alloc o):=fun o=>(yg9 _ _).drew.alloc (yf9 _) _;have belb:∀ o o',Below X.heap.size X ((X.drew.alloc o).alloc o'):=fun o o'=>(bela o).alloc (bela o).size _;have g1a:=fun o=>(G4.below (bela o)).cells.2.1;have g1b:=fun o o'=>(G4.below (belb o o')).cells.2.1;have la:=fun o=>lc7 _ (bela o);have lb:=fun o o'=>lc7 _ (belb o o');have belc:∀ o,Below X.heap.size X (X.alloc o):=fun o=>(yg9 _ _).alloc (yf9 _) _;have beld:∀ o o',Below X.heap.size X ((X.alloc o).alloc o'):=fun o o'=>(belc o).alloc (belc o).size _;have bele:∀ o,Below X.heap.size X ((X.alloc o).drew):=fun o=>(belc o).drew;have belf:∀ o o',Below X.heap.size X (((X.alloc o).alloc o').drew):=fun o o'=>(beld o o').drew;have g1c:=fun o=>(G4.below (belc o)).cells.2.1;have g1d:=fun o o'=>(G4.below (beld o o')).cells.2.1;have lcc:=fun o=>lc7 _ (belc o);have lcd:=fun o o'=>lc7 _ (beld o o');have hfew:=G4.few;rcases G4.names with ⟨hN0,hnv⟩|⟨bl,nc,hnv,h0,hb1,hb2,hb3,hb4⟩
    ·subst hnv;subst hN0;have hlsq:∀ s∈[(⟨#[113]⟩:ByteArray)],s.size<=30:=by intro s hs;simp at hs;subst hs;decide
     go_region_law (first
      | (refine zbl rfl _ _ 31 rfl X.heap.size 9 i0 1 Tryz.underlying31 hi _ 0 [] rfl ?_ rfl ?_;(first|exact zbi X.drew|exact(zbi X.drew).alloc _|exact zbm X.drew _|exact own_up X.drew _|exact zbi X|exact(zbi X).alloc _|exact zbm X _))
      | (refine step_append_lies _ rfl _ _ 31 rfl X.heap.size 9 i0 (.string ⟨#[]⟩) 1 16 Tryz.underlying31 hi hz0 hz1 hz2 rfl (by decide) _ 0 [] rfl ?_ _ 1 1 [.string ⟨#[113]⟩] rfl rfl ?_ (fun x hx=>by simp at hx;subst hx;rfl) (by decide) (by decide) (by decide) ?_ _ rfl ?_;(first|exact zbi X.drew|exact(zbi X.drew).alloc _|exact zbm X.drew _|exact own_up X.drew _|exact zbi X|exact(zbi X).alloc _|exact zbm X _);(first|exact cell_one_new _ _ _|exact zbf X (.cells #[] 9) (.string ⟨#[113]⟩) 9|exact zbq X (.string ⟨#[113]⟩) 9 (.cells #[] 9));(first|exact(belf _ _).size|exact(belb _ _).size);intro g2 c2 w8 own2 gr2 hat2 hlt8;have bel2:Below X.heap.size X w8:=Below.grown (by first|exact bel1|exact bel1.alloc bel1.size _|exact bele _|exact belf _ _) gr2 (by first|exact bel1.size|exact yi9 bel1.size (zbn _ _)|exact(bele _).size|exact(belf _ _).size) (by first|exact fun k hk=>(own1.lt k hk).1|exact fun k hk=>((zbi X).lt k hk).1|exact fun k hk=>((zbm X (.cells #[] 9)).lt k hk).1);have HNM:Hid (z4a (.slice (some ⟨g2,0,none⟩) (0+1) c2) g c (0+1) w8):=zbd (ls:=[⟨#[113]⟩]) (by first|exact own2|simpa using own2) hlsq hlt.1 hlt.2;have G8:=G4.below bel2;obtain⟨_,q1,_,q3⟩:=G8.cells;have f1:=q3 1;have HG:Hid (Gen ac len cap g c (.slice (some ⟨g2,0,none⟩) (0+1) c2) (0+1) (w8.setCell ⟨g,1,none⟩ (.slice (some ⟨g2,0,none⟩) (0+1) c2))/\Two g c W0 (w8.setCell ⟨g,1,none⟩ (.slice (some ⟨g2,0,none⟩) (0+1) c2))):=⟨G8.setNames HNM.out (by omega),(K4.trans (.of_below bel2)).trans (z4c _)⟩;clear HNM own2 gr2 hat2 hlt8 bel2 G8 q3))
     all_goals go_wp2
     all_goals (
      go_roundw
      case rel=>exact⟨_,1+1,_,0+1,rfl,by go_num,by omega,by simp only[ByteArray.size_append];(try simp only[show ∀ a:Array UInt8,(⟨a⟩:ByteArray).size=a.size from fun _=>rfl]);first|omega|(simp;omega),by omega,HG.out.1,HG.out.2⟩
      case measure=>simp[intOf];try omega)
    ·subst hnv;obtain⟨ls,hll,hls,hlc⟩:=zbc hb4;have hlca:=fun o=>(zbs hb4 (Two.of_below (g:=g) (c:=c) (bela o)) hb3 hb1 hb2 hlc);have hlcb:=fun o o'=>(zbs hb4 (Two.of_below (g:=g) (c:=c) (belb o o')) hb3 hb1 hb2 hlc);have hlce:=fun o=>(zbs hb4 (Two.of_below (g:=g) (c:=c) (bele o)) hb3 hb1 hb2 hlc);have hlcf:=fun o o'=>(zbs hb4 (Two.of_below (g:=g) (c:=c) (belf o o')) hb3 hb1 hb2 hlc);have hlm:(ls.map Value.string).length=M*1:=by simp[hll]
     have hone:∀ u∈ls.map Value.string,u.oneCell'=true:=fun x hx=>by obtain⟨y,_,rfl⟩:=List.mem_map.1 hx;rfl
     have hM1:0+M<=maxLen:=by unfold maxLen;omega
     have hM2:(0+M)*16<=140737488355328:=by omega
     have hM3:M+1<=maxLen:=by unfold maxLen;omega
     have hM4:(M+1)*16<=140737488355328:=by omega
     have hlsq:∀ s∈ls++[(⟨#[113]⟩:ByteArray)],s.size<=30:=by
      intro s hs;rcases List.mem_append.1 hs with hs|hs
      ·exact hls s hs
      ·rw[List.mem_singleton]at hs;subst hs;decide
     go_region_law (first
      | (refine step_append_lies _ rfl _ _ 31 rfl X.heap.size 9 i0 (.string ⟨#[]⟩) 1 16 Tryz.underlying31 hi hz0 hz1 hz2 rfl (by decide) _ 0 [] rfl ?_ ⟨bl,0,none⟩ M nc (ls.map Value.string) rfl hlm ?_ hone h0 hM1 hM2 ?_ _ rfl ?_;(first|exact zbi X.drew|exact(zbi X.drew).alloc _|exact zbm X.drew _|exact own_up X.drew _|exact zbi X|exact(zbi X).alloc _|exact zbm X _);(first|exact hlce _|exact hlcf _ _);(first|exact(bele _).size|exact(belf _ _).size);intro gg cc w7 own1 gr1 hat1 hlt7;replace gr1:World.grownBy _ w7 (some _):=gr1;have bel1:Below X.heap.size X w7:=Below.grown (by first|exact bele _|exact belf _ _) gr1 (by first|exact(bele _).size|exact(belf _ _).size) (by intro k hk;injection hk with hk;subst hk;first|exact yf9 _|exact Nat.le_succ _);have l7:w7.cell? ⟨L,1,none⟩=some (.string ⟨#[113]⟩):=lc7 w7 bel1;have l7a:∀ o,(w7.alloc o).cell? ⟨L,1,none⟩=some (.string ⟨#[113]⟩):=fun o=>lc7 _ (bel1.alloc bel1.size o);try rw[Nat.zero_add]at own1)
      | (refine step_append_lies _ rfl _ _ 31 rfl X.heap.size 9 i0 (.string ⟨#[]⟩) 1 16 Tryz.underlying31 hi hz0 hz1 hz2 rfl (by decide) _ M (ls.map Value.string) rfl ?_ _ 1 1 [.string ⟨#[113]⟩] rfl rfl ?_ (fun x hx=>by simp at hx;subst hx;rfl) (by decide) hM3 hM4 ?_ _ rfl ?_;(first|exact own1|exact own1.alloc _);(first|exact cell_one_new _ _ _|exact zbr gr1 (zbf X (.cells #[] 9) (.string ⟨#[113]⟩) 9) (zbo X _ _) (by simp)|exact zbr gr1 (zbq X (.string ⟨#[113]⟩) 9 (.cells #[] 9)) (zbp X _ _) (by simp));(first|exact bel1.size|exact yi9 bel1.size (zbn _ _));intro g2 c2 w8 own2 gr2 hat2 hlt8;have bel2:Below X.heap.size X w8:=Below.grown (by first|exact bel1|exact bel1.alloc bel1.size _|exact bele _|exact belf _ _) gr2 (by first|exact bel1.size|exact yi9 bel1.size (zbn _ _)|exact(bele _).size|exact(belf _ _).size) (by first|exact fun k hk=>(own1.lt k hk).1|exact fun k hk=>((zbi X).lt k hk).1|exact fun k hk=>((zbm X (.cells #[] 9)).lt k hk).1);have HNM:Hid (z4a (.slice (some ⟨g2,0,none⟩) (M+1) c2) g c (M+1) w8):=zbd (ls:=ls++[⟨#[113]⟩]) (by first|exact own2|simpa using own2) hlsq hlt.1 hlt.2;have G8:=G4.below bel2;obtain⟨_,q1,_,q3⟩:=G8.cells;have f1:=q3 1;have HG:Hid (Gen ac len cap g c (.slice (some ⟨g2,0,none⟩) (M+1) c2) (M+1) (w8.setCell ⟨g,1,none⟩ (.slice (some ⟨g2,0,none⟩) (M+1) c2))/\Two g c W0 (w8.setCell ⟨g,1,none⟩ (.slice (some ⟨g2,0,none⟩) (M+1) c2))):=⟨G8.setNames HNM.out (by omega),(K4.trans (.of_below bel2)).trans (z4c _)⟩;clear HNM own2 gr2 hat2 hlt8 bel2 G8 q3))
     all_goals go_wp2
     all_goals (
      go_roundw
      case rel=>exact⟨_,1+1,_,M+1,rfl,by go_num,by omega,by simp only[ByteArray.size_append];(try simp only[show ∀ a:Array UInt8,(⟨a⟩:ByteArray).size=a.size from fun _=>rfl]);first|omega|(simp;omega),by omega,HG.out.1,HG.out.2⟩
      case measure=>simp[intOf];try omega)
  ·have hlt2':decide ((i:Int)<x)=false:=by simp;omega
   go_wp2_with fail;refine(cB _ _ _ G4 (by omega)).mono ?_
   rintro e w5 ⟨z,hz,rfl,G5,K5⟩;obtain⟨e0,e1,_,e3⟩:=G5.cells;have f1:=e3 1;have K45:=K4.trans K5;have HG:Hid (Gen ac len cap g c (.slice na N nc) N (w5.setCell ⟨g,1,none⟩ (.slice na N nc))/\Two g c w (w5.setCell ⟨g,1,none⟩ (.slice na N nc))):=⟨G5.setNames (HN0.out.two K45) hfew,(K0.trans K45).trans (z4c _)⟩;clear cB K45 K4 K5 e3;go_wp2;go_ret;exact⟨_,by simp only[ByteArray.size_append];(try simp only[show ∀ a:Array UInt8,(⟨a⟩:ByteArray).size=a.size from fun _=>rfl]);first|omega|(simp;omega),by simp only[ByteArray.size_append];(try simp only[show ∀ a:Array UInt8,(⟨a⟩:ByteArray).size=a.size from fun _=>rfl]);first|omega|(simp;omega),rfl,HG.out.1,HG.out.2⟩
