/- Part 30. -/
import Derived.Test.YtdbekjiognpgnaaGreatPbc
set_option maxHeartbeats 16000000
set_option maxRecDepth 100000
set_option linter.unusedVariables false
namespace Go.Proofs.YtdbekjiognpgnaaGreat
open Go.RowKit Go.Sort
theorem zb9{w:World}{n g tc Bt:Nat}{ns:List z4Q}(hR:z88 ns)(hT:z8G w Bt (.slice (some ⟨g,0,none⟩) n tc) ns)(hn:ns.length=n):
  Calls Tryz.prog 14 #[.slice (some ⟨g,0,none⟩) n tc] w fun e w'=>∃(v1 v2:Value) (x y:Int),e=.returned (.tuple #[v1,v2,.int .i64 x,.int .i64 y])/\Below w.heap.size w w':=by
 have cO:=za1 hR hT;have HT:Hid (z88 ns/\z8G w Bt (.slice (some ⟨g,0,none⟩) n tc) ns/\ns.length=n):=⟨hR,hT,hn⟩;clear hR hT;go_enter Tryz.func14,Tryz.ntmps14;go_wp2_with fail;refine cO.mono ?_;rintro e w1 ⟨rfl,b1⟩;have cW:=zb8 HT.out.1 (HT.out.2.1.below b1) hn;have HB1:Hid (Below w.heap.size w w1):=b1;clear b1 cO hn;go_wp2_with fail;refine cW.mono ?_;rintro e w2 ⟨c,s,k,b,rfl,hrun⟩;have HB2:Hid (Below w.heap.size w w2):=HB1.out.trans (hrun.rows.low.mono HB1.out.size);obtain⟨x0,x1,x2,x3,x4,x5,x6,x7,x8,x9,x10,x11,xf⟩:=hrun.cells;obtain⟨xs1,op,oone⟩:=hrun.rows.places;obtain⟨⟨pa,pc,hpv⟩,⟨og,oc,hov⟩,_⟩:=hrun.rows.shapes;have hP:=hrun.rows.hP;have hb:=hrun.rows.hb;have hclt:=hrun.lt;rw[hpv]at x1 op;rw[hov]at x2;obtain⟨fa,hfa⟩:∃ y,k.fault=y:=⟨_,rfl⟩;obtain⟨fp,hfp⟩:∃ y,k.pos=y:=⟨_,rfl⟩;rw[hfa]at x7;rw[hfp]at x8;obtain⟨P,hPP⟩:∃ P,s.P=P:=⟨_,rfl⟩;rw[hPP]at x1 op hP;have HK:Hid (∀ W,Below w2.heap.size w2 W->W.cell? ⟨c,7,none⟩=some (.int .i64 fa)/\W.cell? ⟨c,8,none⟩=some (.int .i64 fp)/\W.cell? ⟨c,1,none⟩=some (.slice pa P pc)/\W.cell? ⟨c,2,none⟩=some (.slice (some ⟨og,0,none⟩) n oc)):=fun W hW=>⟨(hW.cell (p:=⟨c,7,none⟩) hclt).trans x7,(hW.cell (p:=⟨c,8,none⟩) hclt).trans x8,(hW.cell (p:=⟨c,1,none⟩) hclt).trans x1,(hW.cell (p:=⟨c,2,none⟩) hclt).trans x2⟩;have HOP:Hid (w2.ownsRow w1.heap.size 166 4 (.slice pa P pc) P xs1/\∀ x∈xs1,x.oneCell'=true):=⟨op,oone⟩;clear hrun cW op oone x0 x3 x4 x5 x6 x9 x10 x11 xf hfa hfp hpv hov hPP;by_cases hf0:fa=0
 ·subst hf0;obtain⟨i0,hi,hz0,hz1,hz2⟩:=z8y Tryz.infoPlace;have h63:P<=maxLen:=by unfold maxLen;omega
  have hby:P*40<=140737488355328:=by omega
  have bA:∀ o,Below w2.heap.size w2 (w2.drew.alloc o):=fun o=>(yg9 _ _).drew.alloc (by simp) o
  have bB:∀ o,Below w2.heap.size w2 (w2.alloc o).drew:=fun o=>((yg9 _ _).alloc (yf9 _) o).drew;have oA:∀ W,Below w2.heap.size w2 W->W.ownsRow w1.heap.size 166 4 (.slice pa P pc) P xs1:=fun W hW=>z8B HOP.out.1 hW;have hone:=HOP.out.2;go_upto_region 6 with fail;go_region_held_law (fun W=>W.cell? ⟨c,7,none⟩=some (.int .i64 0)/\W.cell? ⟨c,8,none⟩=some (.int .i64 fp)/\W.cell? ⟨c,1,none⟩=some (.slice pa P pc)/\W.cell? ⟨c,2,none⟩=some (.slice (some ⟨og,0,none⟩) n oc)) (first|exact HK.out _ (by first|with_reducible exact bA _|with_reducible exact bB _|with_reducible exact HB5.out|with_reducible exact(yg9 _ _).drew|with_reducible exact yg9 _ _)|go_keep)
   (first
    | (refine zao rfl _ _ 40 rfl w2.heap.size 166 i0 _ 4 40 Tryz.underlying40 hi hz0 hz1 hz2 rfl (by decide) (.slice (some ⟨w2.heap.size,0,none⟩) 0 0) rfl (zar (w:=w2.drew) rfl (yf9 _)) _ rfl w1.heap.size P xs1 (oA _ (bA _)) hone h63 hby (bA _).size ?_;intro v5 w5 ho5 hg5;have HB5:Hid (Below w2.heap.size w2 w5):=Below.grown (bA _) hg5 (bA _).size (fun k e=>by have e2:w2.heap.size=k:=Option.some.inj e;omega);clear ho5 hg5)
    | (refine zao rfl _ _ 40 rfl w2.heap.size 166 i0 _ 4 40 Tryz.underlying40 hi hz0 hz1 hz2 rfl (by decide) (.slice (some ⟨w2.heap.size,0,none⟩) 0 0) rfl (z8B (zar (w:=w2) rfl (yf9 _)) (yg9 _ _).drew) _ rfl w1.heap.size P xs1 (oA _ (bB _)) hone h63 hby (bB _).size ?_;intro v5 w5 ho5 hg5;have HB5:Hid (Below w2.heap.size w2 w5):=Below.grown (bB _) hg5 (bB _).size (fun k e=>by have e2:w2.heap.size=k:=Option.some.inj e;omega);clear ho5 hg5))
  all_goals
   go_wp2;go_returns;exact⟨⟨_,_,_,_,rfl⟩,HB2.out.trans (Below.mono (by first|exact HB5.out|exact HB5.out.drew|exact below_drewN HB5.out _) HB2.out.size)⟩
 ·have hf0':(fa==0)=false:=by rw[yc9];exact hf0
  go_upto_region 5 with fail;go_region
  all_goals
   go_wp2;go_returns;exact⟨_,_,_,_,rfl,HB2.out.trans (Below.mono (by go_grown) HB2.out.size)⟩
