/- Part 46. -/
import Derived.Test.YtdbekjiognpgnaaGreatPaq
import Derived.Deep.RegionHeld3
set_option maxHeartbeats 16000000
set_option maxRecDepth 100000
set_option linter.unusedVariables false
namespace Go.Proofs.YtdbekjiognpgnaaGreat
open Go.RowKit Go.Sort
theorem zdH{w:World}{gl nc:Nat}{t:ByteArray}(ht:w.cell? ⟨gl,0,none⟩=some (.string t)):
  Calls Tryz.prog 38 #[.slice (some ⟨gl,0,none⟩) 1 nc] w fun e w'=>e=.returned (.string t)/\w=w':=by
 go_enter Tryz.func38,Tryz.ntmps38;go_wp2;go_returns;exact⟨rfl,rfl⟩
theorem zdI{w:World}(a b c z pos:Int){la:Option Addr}{m lc:Nat}{gl nc:Nat}{t:ByteArray}(ht:w.cell? ⟨gl,0,none⟩=some (.string t)):
  Calls Tryz.prog 39 #[.agg #[.int .i64 20,.int .i64 a,.int .i64 b,.int .i64 c,.slice la m lc,.slice (some ⟨gl,0,none⟩) 1 nc,.int .u64 z,.int .i64 pos]] w fun e w'=>e=.returned (.iface 130 (.agg #[.string t,.int .i64 a,.int .i64 b]))/\Below w.heap.size w w':=by
 have b0:Below w.heap.size w (w.alloc (.cells #[.int .i64 20,.int .i64 a,.int .i64 b,.int .i64 c,.slice la m lc,.slice (some ⟨gl,0,none⟩) 1 nc,.int .u64 z,.int .i64 pos] 34)):=(yg9 _ _).alloc (yf9 _) _;have cO:∀ W,Below w.heap.size w W->Calls Tryz.prog 38 #[.slice (some ⟨gl,0,none⟩) 1 nc] W fun e w'=>e=.returned (.string t)/\W=w':=fun W hW=>zdH ((hW.cell (p:=⟨gl,0,none⟩) (World.block_lt_of_cell? w _ ht)).trans ht);have hB:=heap_alloc_new w (.cells #[.int .i64 20,.int .i64 a,.int .i64 b,.int .i64 c,.slice la m lc,.slice (some ⟨gl,0,none⟩) 1 nc,.int .u64 z,.int .i64 pos] 34);obtain⟨X,hX⟩:∃ X,w.heap.size=X:=⟨_,rfl⟩;obtain⟨W0,hW0⟩:∃ W,(w.alloc (.cells #[.int .i64 20,.int .i64 a,.int .i64 b,.int .i64 c,.slice la m lc,.slice (some ⟨gl,0,none⟩) 1 nc,.int .u64 z,.int .i64 pos] 34))=W:=⟨_,rfl⟩;rw[hW0]at b0 hB;rw[hX]at hB;obtain⟨x0,x1,x2,x3,x4,x5,x6,x7⟩:=z8C hB;have cW:∀ W,Below W0.heap.size W0 W->Calls Tryz.prog 38 #[.slice (some ⟨gl,0,none⟩) 1 nc] W fun e w'=>e=.returned (.string t)/\W=w':=fun W hW=>cO W (b0.trans (hW.mono b0.size));have HK:Hid (∀ W,Below W0.heap.size W0 W->W.cell? ⟨X,5,none⟩=some (.slice (some ⟨gl,0,none⟩) 1 nc)/\W.cell? ⟨X,1,none⟩=some (.int .i64 a)/\W.cell? ⟨X,2,none⟩=some (.int .i64 b)):=fun W hW=>⟨(hW.cell (p:=⟨X,5,none⟩) (lt_of_block hB)).trans x5,(hW.cell (p:=⟨X,1,none⟩) (lt_of_block hB)).trans x1,(hW.cell (p:=⟨X,2,none⟩) (lt_of_block hB)).trans x2⟩;go_enter Tryz.func39,Tryz.ntmps39;go_upto_region 1 with fail;try simp only[hW0,hX]
 clear hW0 hX ht cO;go_upto_region 3 with fail;go_region_held3 (fun W=>W.cell? ⟨X,5,none⟩=some (.slice (some ⟨gl,0,none⟩) 1 nc)/\W.cell? ⟨X,1,none⟩=some (.int .i64 a)/\W.cell? ⟨X,2,none⟩=some (.int .i64 b)) (first|exact HK.out _ (by first|exact(yg9 _ _).drew|exact below_drewN (yg9 _ _) _|exact(below_drewN (yg9 _ _) _).drew)|go_keep) (first|(go_at_call 38;with_reducible refine(cW _ (by first|exact(yg9 _ _).drew|exact below_drewN (yg9 _ _) _|exact(below_drewN (yg9 _ _) _).drew)).mono ?_;rintro e W ⟨rfl,rfl⟩))
 go_wp2;go_returns;exact⟨rfl,by first|exact b0|exact below_drewN b0 _|exact b0.drew|exact(below_drewN b0 _).drew⟩
theorem zdJ{w:World}(a b c z pos:Int){la:Option Addr}{m lc:Nat}{gl nc:Nat}{t:ByteArray}(ht:w.cell? ⟨gl,0,none⟩=some (.string t)):
  Calls Tryz.prog 39 #[.agg #[.int .i64 21,.int .i64 a,.int .i64 b,.int .i64 c,.slice la m lc,.slice (some ⟨gl,0,none⟩) 1 nc,.int .u64 z,.int .i64 pos]] w fun e w'=>e=.returned (.iface 132 (.agg #[.string t,.int .i64 a]))/\Below w.heap.size w w':=by
 have b0:Below w.heap.size w (w.alloc (.cells #[.int .i64 21,.int .i64 a,.int .i64 b,.int .i64 c,.slice la m lc,.slice (some ⟨gl,0,none⟩) 1 nc,.int .u64 z,.int .i64 pos] 34)):=(yg9 _ _).alloc (yf9 _) _;have cO:∀ W,Below w.heap.size w W->Calls Tryz.prog 38 #[.slice (some ⟨gl,0,none⟩) 1 nc] W fun e w'=>e=.returned (.string t)/\W=w':=fun W hW=>zdH ((hW.cell (p:=⟨gl,0,none⟩) (World.block_lt_of_cell? w _ ht)).trans ht);have hB:=heap_alloc_new w (.cells #[.int .i64 21,.int .i64 a,.int .i64 b,.int .i64 c,.slice la m lc,.slice (some ⟨gl,0,none⟩) 1 nc,.int .u64 z,.int .i64 pos] 34);obtain⟨X,hX⟩:∃ X,w.heap.size=X:=⟨_,rfl⟩;obtain⟨W0,hW0⟩:∃ W,(w.alloc (.cells #[.int .i64 21,.int .i64 a,.int .i64 b,.int .i64 c,.slice la m lc,.slice (some ⟨gl,0,none⟩) 1 nc,.int .u64 z,.int .i64 pos] 34))=W:=⟨_,rfl⟩;rw[hW0]at b0 hB;rw[hX]at hB;obtain⟨x0,x1,x2,x3,x4,x5,x6,x7⟩:=z8C hB;have cW:∀ W,Below W0.heap.size W0 W->Calls Tryz.prog 38 #[.slice (some ⟨gl,0,none⟩) 1 nc] W fun e w'=>e=.returned (.string t)/\W=w':=fun W hW=>cO W (b0.trans (hW.mono b0.size));have HK:Hid (∀ W,Below W0.heap.size W0 W->W.cell? ⟨X,5,none⟩=some (.slice (some ⟨gl,0,none⟩) 1 nc)/\W.cell? ⟨X,1,none⟩=some (.int .i64 a)/\W.cell? ⟨X,2,none⟩=some (.int .i64 b)):=fun W hW=>⟨(hW.cell (p:=⟨X,5,none⟩) (lt_of_block hB)).trans x5,(hW.cell (p:=⟨X,1,none⟩) (lt_of_block hB)).trans x1,(hW.cell (p:=⟨X,2,none⟩) (lt_of_block hB)).trans x2⟩;go_enter Tryz.func39,Tryz.ntmps39;go_upto_region 1 with fail;try simp only[hW0,hX]
 clear hW0 hX ht cO;go_upto_region 5 with fail;go_region_held3 (fun W=>W.cell? ⟨X,5,none⟩=some (.slice (some ⟨gl,0,none⟩) 1 nc)/\W.cell? ⟨X,1,none⟩=some (.int .i64 a)/\W.cell? ⟨X,2,none⟩=some (.int .i64 b)) (first|exact HK.out _ (by first|exact(yg9 _ _).drew|exact below_drewN (yg9 _ _) _|exact(below_drewN (yg9 _ _) _).drew)|go_keep) (first|(go_at_call 38;with_reducible refine(cW _ (by first|exact(yg9 _ _).drew|exact below_drewN (yg9 _ _) _|exact(below_drewN (yg9 _ _) _).drew)).mono ?_;rintro e W ⟨rfl,rfl⟩))
 go_wp2;go_returns;exact⟨rfl,by first|exact b0|exact below_drewN b0 _|exact b0.drew|exact(below_drewN b0 _).drew⟩
theorem zdK{w:World}(a b c z pos:Int){la:Option Addr}{m lc:Nat}{na:Option Addr}{q nc:Nat}:
  Calls Tryz.prog 39 #[.agg #[.int .i64 22,.int .i64 a,.int .i64 b,.int .i64 c,.slice la m lc,.slice na q nc,.int .u64 z,.int .i64 pos]] w fun e w'=>e=.returned (.iface 135 (.agg #[.int .i64 22,.int .i64 a]))/\Below w.heap.size w w':=by
 have b0:Below w.heap.size w (w.alloc (.cells #[.int .i64 22,.int .i64 a,.int .i64 b,.int .i64 c,.slice la m lc,.slice na q nc,.int .u64 z,.int .i64 pos] 34)):=(yg9 _ _).alloc (yf9 _) _;go_enter Tryz.func39,Tryz.ntmps39;go_wp2;go_returns;exact⟨rfl,b0⟩
theorem zdL{w:World}(a b c z pos:Int){la:Option Addr}{m lc:Nat}{na:Option Addr}{q nc:Nat}:
  Calls Tryz.prog 39 #[.agg #[.int .i64 25,.int .i64 a,.int .i64 b,.int .i64 c,.slice la m lc,.slice na q nc,.int .u64 z,.int .i64 pos]] w fun e w'=>e=.returned (.iface 135 (.agg #[.int .i64 25,.int .i64 a]))/\Below w.heap.size w w':=by
 have b0:Below w.heap.size w (w.alloc (.cells #[.int .i64 25,.int .i64 a,.int .i64 b,.int .i64 c,.slice la m lc,.slice na q nc,.int .u64 z,.int .i64 pos] 34)):=(yg9 _ _).alloc (yf9 _) _;go_enter Tryz.func39,Tryz.ntmps39;go_wp2;go_returns;exact⟨rfl,b0⟩
theorem zdM{w:World}(a b c z pos:Int){la:Option Addr}{m lc:Nat}{na:Option Addr}{q nc:Nat}:
  Calls Tryz.prog 39 #[.agg #[.int .i64 26,.int .i64 a,.int .i64 b,.int .i64 c,.slice la m lc,.slice na q nc,.int .u64 z,.int .i64 pos]] w fun e w'=>e=.returned (.iface 135 (.agg #[.int .i64 26,.int .i64 a]))/\Below w.heap.size w w':=by
 have b0:Below w.heap.size w (w.alloc (.cells #[.int .i64 26,.int .i64 a,.int .i64 b,.int .i64 c,.slice la m lc,.slice na q nc,.int .u64 z,.int .i64 pos] 34)):=(yg9 _ _).alloc (yf9 _) _;go_enter Tryz.func39,Tryz.ntmps39;go_wp2;go_returns;exact⟨rfl,b0⟩
theorem zdN{w:World}(a b c z pos:Int){la:Option Addr}{m lc:Nat}{na:Option Addr}{q nc:Nat}:
  Calls Tryz.prog 39 #[.agg #[.int .i64 28,.int .i64 a,.int .i64 b,.int .i64 c,.slice la m lc,.slice na q nc,.int .u64 z,.int .i64 pos]] w fun e w'=>e=.returned (.iface 135 (.agg #[.int .i64 28,.int .i64 a]))/\Below w.heap.size w w':=by
 have b0:Below w.heap.size w (w.alloc (.cells #[.int .i64 28,.int .i64 a,.int .i64 b,.int .i64 c,.slice la m lc,.slice na q nc,.int .u64 z,.int .i64 pos] 34)):=(yg9 _ _).alloc (yf9 _) _;go_enter Tryz.func39,Tryz.ntmps39;go_wp2;go_returns;exact⟨rfl,b0⟩
theorem zdO{w:World}(a b c z pos:Int){la:Option Addr}{m lc:Nat}{na:Option Addr}{q nc:Nat}:
  Calls Tryz.prog 39 #[.agg #[.int .i64 23,.int .i64 a,.int .i64 b,.int .i64 c,.slice la m lc,.slice na q nc,.int .u64 z,.int .i64 pos]] w fun e w'=>e=.returned (.iface 137 (.agg #[.int .i64 a,.int .i64 b,.int .i64 c]))/\Below w.heap.size w w':=by
 have b0:Below w.heap.size w (w.alloc (.cells #[.int .i64 23,.int .i64 a,.int .i64 b,.int .i64 c,.slice la m lc,.slice na q nc,.int .u64 z,.int .i64 pos] 34)):=(yg9 _ _).alloc (yf9 _) _;go_enter Tryz.func39,Tryz.ntmps39;go_wp2;go_returns;exact⟨rfl,b0⟩
theorem zdP{w:World}(a b c z pos:Int){la:Option Addr}{m lc:Nat}{na:Option Addr}{q nc:Nat}:
  Calls Tryz.prog 39 #[.agg #[.int .i64 24,.int .i64 a,.int .i64 b,.int .i64 c,.slice la m lc,.slice na q nc,.int .u64 z,.int .i64 pos]] w fun e w'=>e=.returned (.iface 139 (.agg #[.int .i64 a,.int .i64 b]))/\Below w.heap.size w w':=by
 have b0:Below w.heap.size w (w.alloc (.cells #[.int .i64 24,.int .i64 a,.int .i64 b,.int .i64 c,.slice la m lc,.slice na q nc,.int .u64 z,.int .i64 pos] 34)):=(yg9 _ _).alloc (yf9 _) _;go_enter Tryz.func39,Tryz.ntmps39;go_wp2;go_returns;exact⟨rfl,b0⟩
theorem zdQ{w:World}(a b c z pos:Int){la:Option Addr}{m lc:Nat}{gl nc:Nat}{t:ByteArray}(ht:w.cell? ⟨gl,0,none⟩=some (.string t)):
  Calls Tryz.prog 39 #[.agg #[.int .i64 27,.int .i64 a,.int .i64 b,.int .i64 c,.slice la m lc,.slice (some ⟨gl,0,none⟩) 1 nc,.int .u64 z,.int .i64 pos]] w fun e w'=>e=.returned (.iface 134 (.agg #[.string t,.int .i64 a,.int .i64 b]))/\Below w.heap.size w w':=by
 have b0:Below w.heap.size w (w.alloc (.cells #[.int .i64 27,.int .i64 a,.int .i64 b,.int .i64 c,.slice la m lc,.slice (some ⟨gl,0,none⟩) 1 nc,.int .u64 z,.int .i64 pos] 34)):=(yg9 _ _).alloc (yf9 _) _;have cO:∀ W,Below w.heap.size w W->Calls Tryz.prog 38 #[.slice (some ⟨gl,0,none⟩) 1 nc] W fun e w'=>e=.returned (.string t)/\W=w':=fun W hW=>zdH ((hW.cell (p:=⟨gl,0,none⟩) (World.block_lt_of_cell? w _ ht)).trans ht);have hB:=heap_alloc_new w (.cells #[.int .i64 27,.int .i64 a,.int .i64 b,.int .i64 c,.slice la m lc,.slice (some ⟨gl,0,none⟩) 1 nc,.int .u64 z,.int .i64 pos] 34);obtain⟨X,hX⟩:∃ X,w.heap.size=X:=⟨_,rfl⟩;obtain⟨W0,hW0⟩:∃ W,(w.alloc (.cells #[.int .i64 27,.int .i64 a,.int .i64 b,.int .i64 c,.slice la m lc,.slice (some ⟨gl,0,none⟩) 1 nc,.int .u64 z,.int .i64 pos] 34))=W:=⟨_,rfl⟩;rw[hW0]at b0 hB;rw[hX]at hB;obtain⟨x0,x1,x2,x3,x4,x5,x6,x7⟩:=z8C hB;have cW:∀ W,Below W0.heap.size W0 W->Calls Tryz.prog 38 #[.slice (some ⟨gl,0,none⟩) 1 nc] W fun e w'=>e=.returned (.string t)/\W=w':=fun W hW=>cO W (b0.trans (hW.mono b0.size));have HK:Hid (∀ W,Below W0.heap.size W0 W->W.cell? ⟨X,5,none⟩=some (.slice (some ⟨gl,0,none⟩) 1 nc)/\W.cell? ⟨X,1,none⟩=some (.int .i64 a)/\W.cell? ⟨X,2,none⟩=some (.int .i64 b)):=fun W hW=>⟨(hW.cell (p:=⟨X,5,none⟩) (lt_of_block hB)).trans x5,(hW.cell (p:=⟨X,1,none⟩) (lt_of_block hB)).trans x1,(hW.cell (p:=⟨X,2,none⟩) (lt_of_block hB)).trans x2⟩;go_enter Tryz.func39,Tryz.ntmps39;go_upto_region 1 with fail;try simp only[hW0,hX]
 clear hW0 hX ht cO;go_upto_region 16 with fail;go_region_held3 (fun W=>W.cell? ⟨X,5,none⟩=some (.slice (some ⟨gl,0,none⟩) 1 nc)/\W.cell? ⟨X,1,none⟩=some (.int .i64 a)/\W.cell? ⟨X,2,none⟩=some (.int .i64 b)) (first|exact HK.out _ (by first|exact(yg9 _ _).drew|exact below_drewN (yg9 _ _) _|exact(below_drewN (yg9 _ _) _).drew)|go_keep) (first|(go_at_call 38;with_reducible refine(cW _ (by first|exact(yg9 _ _).drew|exact below_drewN (yg9 _ _) _|exact(below_drewN (yg9 _ _) _).drew)).mono ?_;rintro e W ⟨rfl,rfl⟩))
 go_wp2;go_returns;exact⟨rfl,by first|exact b0|exact below_drewN b0 _|exact b0.drew|exact(below_drewN b0 _).drew⟩
theorem zdR{w:World}(a b c z pos:Int){la:Option Addr}{m lc:Nat}{na:Option Addr}{q nc:Nat}:
  Calls Tryz.prog 39 #[.agg #[.int .i64 29,.int .i64 a,.int .i64 b,.int .i64 c,.slice la m lc,.slice na q nc,.int .u64 z,.int .i64 pos]] w fun e w'=>e=.returned (.iface 141 (.agg #[.slice la m lc]))/\Below w.heap.size w w':=by
 have b0:Below w.heap.size w (w.alloc (.cells #[.int .i64 29,.int .i64 a,.int .i64 b,.int .i64 c,.slice la m lc,.slice na q nc,.int .u64 z,.int .i64 pos] 34)):=(yg9 _ _).alloc (yf9 _) _;go_enter Tryz.func39,Tryz.ntmps39;go_wp2;go_returns;exact⟨rfl,b0⟩
end Go.Proofs.YtdbekjiognpgnaaGreat
namespace Go.Proofs.YtdbekjiognpgnaaGreat
open Go.RowKit
def figR(r:Nat):Bool:=decide (48<=r)&&decide (r<=57)
def letR(r:Nat):Bool:=(decide (97<=r)&&decide (r<=122))||(decide (65<=r)&&decide (r<=90))||decide (r=95)
def zdS(r:Nat):Bool:=decide (32<=r)&&decide (r<=126)&&!decide (r=34)
def zdT(c:UInt8):Bool:=z3x c||z3j c
def zdU(c:UInt8):Bool:=zdS c.toNat
theorem zdV(n:Nat)(w:World):
  Calls Tryz.prog 90 #[.int .i32 (n:Int)] w fun e w'=>e=.returned (.bool (figR n))/\w=w':=by
 obtain⟨R,hR⟩:∃ R,figR n=R:=⟨_,rfl⟩;rw[hR];unfold figR at hR;by_cases h1:48<=n
 ·have h1':(48:Int)<=n:=by omega
  by_cases h2:n<=57
  ·have h2':(n:Int)<=57:=by omega
   rw[yb9 h1,yb9 h2]at hR;subst hR;go_enter Tryz.func90,Tryz.ntmps90;go_wp2;go_ret;exact⟨rfl,rfl⟩
  ·have h2':decide ((n:Int)<=57)=false:=by simp;omega
   rw[yb9 h1,ya9 h2]at hR;subst hR;go_enter Tryz.func90,Tryz.ntmps90;go_wp2;go_ret;exact⟨rfl,rfl⟩
 ·have h1':decide ((48:Int)<=n)=false:=by simp;omega
  rw[ya9 h1]at hR;subst hR;go_enter Tryz.func90,Tryz.ntmps90;go_wp2;go_ret;exact⟨rfl,rfl⟩
theorem zdW(n:Nat)(w:World):
  Calls Tryz.prog 102 #[.int .i32 (n:Int)] w fun e w'=>e=.returned (.bool (letR n))/\w=w':=by
 obtain⟨R,hR⟩:∃ R,letR n=R:=⟨_,rfl⟩;rw[hR];unfold letR at hR;by_cases h1:97<=n
 ·have h1':(97:Int)<=n:=by omega
  by_cases h2:n<=122
  ·have h2':(n:Int)<=122:=by omega
   rw[yb9 h1,yb9 h2]at hR;subst hR;go_enter Tryz.func102,Tryz.ntmps102;go_wp2;go_ret;exact⟨rfl,rfl⟩
  ·have h2':decide ((n:Int)<=122)=false:=by simp;omega
   have h3':(65:Int)<=n:=by omega
   have h4':decide ((n:Int)<=90)=false:=by simp;omega
   have h5':((n:Int)==95)=false:=by rw[yc9];omega
   rw[ya9 h2,ya9 (by omega:¬n<=90),ya9 (by omega:¬n=95),Bool.and_false,Bool.and_false]at hR
   subst hR;go_enter Tryz.func102,Tryz.ntmps102;go_wp2;go_ret;exact⟨rfl,rfl⟩
 ·have h1':decide ((97:Int)<=n)=false:=by simp;omega
  rw[ya9 h1,Bool.false_and,Bool.false_or]at hR;by_cases h3:65<=n
  ·have h3':(65:Int)<=n:=by omega
   by_cases h4:n<=90
   ·have h4':(n:Int)<=90:=by omega
    rw[yb9 h3,yb9 h4]at hR;subst hR;go_enter Tryz.func102,Tryz.ntmps102;go_wp2;go_ret;exact⟨rfl,rfl⟩
   ·have h4':decide ((n:Int)<=90)=false:=by simp;omega
    rw[ya9 h4,Bool.and_false,Bool.false_or]at hR;by_cases h5:n=95
    ·rw[yb9 h5]at hR;subst hR;subst h5;go_enter Tryz.func102,Tryz.ntmps102;go_wp2;go_ret;exact⟨rfl,rfl⟩
    ·rw[ya9 h5]at hR;subst hR;have h5':((n:Int)==95)=false:=by rw[yc9];omega
     go_enter Tryz.func102,Tryz.ntmps102;go_wp2;go_ret;exact⟨rfl,rfl⟩
  ·have h3':decide ((65:Int)<=n)=false:=by simp;omega
   have h5':((n:Int)==95)=false:=by rw[yc9];omega
   rw[ya9 h3,ya9 (by omega:¬n=95)]at hR
   subst hR;go_enter Tryz.func102,Tryz.ntmps102;go_wp2;go_ret;exact⟨rfl,rfl⟩
theorem zdX(n:Nat)(w:World):
  Calls Tryz.prog 89 #[.int .i32 (n:Int)] w fun e w'=>e=.returned (.bool (letR n||figR n))/\w=w':=by
 have c1:=fun W=>zdW n W;have c2:=fun W=>zdV n W;obtain⟨x,hx⟩:∃ x,letR n=x:=⟨_,rfl⟩;obtain⟨y,hy⟩:∃ y,figR n=y:=⟨_,rfl⟩;rw[hx]at c1;rw[hy]at c2;rw[hx,hy];clear hx hy;cases x
 ·go_enter Tryz.func89,Tryz.ntmps89;go_wp2_with fail;refine(c1 _).mono ?_;rintro e w' ⟨rfl,rfl⟩;go_wp2_with fail;refine(c2 _).mono ?_;rintro e w' ⟨rfl,rfl⟩;go_wp2;go_ret;exact⟨rfl,rfl⟩
 ·go_enter Tryz.func89,Tryz.ntmps89;go_wp2_with fail;refine(c1 _).mono ?_;rintro e w' ⟨rfl,rfl⟩;go_wp2;go_ret;exact⟨rfl,rfl⟩
theorem zdY(n:Nat)(w:World):
  Calls Tryz.prog 88 #[.int .i32 (n:Int)] w fun e w'=>e=.returned (.bool (zdS n))/\w=w':=by
 obtain⟨R,hR⟩:∃ R,zdS n=R:=⟨_,rfl⟩;rw[hR];unfold zdS at hR;by_cases h1:32<=n
 ·have h1':(32:Int)<=n:=by omega
  by_cases h2:n<=126
  ·have h2':(n:Int)<=126:=by omega
   by_cases h3:n=34
   ·subst h3;subst hR;go_enter Tryz.func88,Tryz.ntmps88;go_wp2;go_ret;exact⟨rfl,rfl⟩
   ·have h3':((n:Int)==34)=false:=by rw[yc9];omega
    have h3'':((n:Int)!=34)=true:=by rw[bne_iff_ne];omega
    rw[yb9 h1,yb9 h2,ya9 h3]at hR;subst hR;go_enter Tryz.func88,Tryz.ntmps88;go_wp2;go_ret;exact⟨rfl,rfl⟩
  ·have h2':decide ((n:Int)<=126)=false:=by simp;omega
   rw[yb9 h1,ya9 h2]at hR;subst hR;go_enter Tryz.func88,Tryz.ntmps88;go_wp2;go_ret;exact⟨rfl,rfl⟩
 ·have h1':decide ((32:Int)<=n)=false:=by simp;omega
  rw[ya9 h1]at hR;subst hR;go_enter Tryz.func88,Tryz.ntmps88;go_wp2;go_ret;exact⟨rfl,rfl⟩
def zdZ(q:Nat->Bool)(p:UInt8->Bool):Prop:=(∀ c:UInt8,c.toNat<128->p c=q c.toNat)/\(∀ c:UInt8,128<=c.toNat->p c=false)/\∀ n,128<=n->q n=false
theorem ze0{q:Nat->Bool}{p:UInt8->Bool}(h:zdZ q p){s:ByteArray}{i:Nat}(hi:i<s.size):q (Utf8.decode s i).1=p s[i]/\(p s[i]=true->(Utf8.decode s i).2=1)/\1<=(Utf8.decode s i).2:=by
 by_cases ha:(s[i]).toNat<128
 ·rw[decode_ascii s i hi ha];exact⟨(h.1 _ ha).symm,fun _=>rfl,yf9 _⟩
 ·obtain⟨h1,h2⟩:=decode_high s i hi (by omega)
  rw[h.2.1 _ (by omega),h.2.2 _ h1]
  exact⟨rfl,fun(h:false=true)=>absurd h (by decide),h2⟩
theorem ze1:zdZ figR z3j:=by
 refine⟨fun c _=>rfl,fun c h=>?_,fun n h=>?_⟩
 ·unfold z3j;rw[ya9 (by omega:¬c.toNat<=57),Bool.and_false]
 ·unfold figR;rw[ya9 (by omega:¬n<=57),Bool.and_false]
theorem ze2:zdZ letR z3x:=by
 refine⟨fun c _=>rfl,fun c h=>?_,fun n h=>?_⟩
 ·unfold z3x;rw[ya9 (by omega:¬c.toNat<=122),ya9 (by omega:¬c.toNat<=90),ya9 (by omega:¬c.toNat=95)];simp
 ·unfold letR;rw[ya9 (by omega:¬n<=122),ya9 (by omega:¬n<=90),ya9 (by omega:¬n=95)];simp
theorem ze3:zdZ (fun n=>letR n||figR n) zdT:=
 ⟨fun c h=>by unfold zdT;simp only;rw[ze2.1 c h,ze1.1 c h],fun c h=>by unfold zdT;rw[ze2.2.1 c h,ze1.2.1 c h];rfl,fun n h=>by simp only;rw[ze2.2.2 n h,ze1.2.2 n h];rfl⟩
theorem ze4:zdZ zdS zdU:=by
 refine⟨fun c _=>rfl,fun c h=>?_,fun n h=>?_⟩
 ·unfold zdU zdS;rw[ya9 (by omega:¬c.toNat<=126)];simp
 ·unfold zdS;rw[ya9 (by omega:¬n<=126)];simp
theorem ze5{w:World}{k:Nat}{s:ByteArray}{p:Nat}(h:w.heap[k]?=some (.stringIter s p)):w.iterPos k=p:=by simp[World.iterPos,h]
theorem ze6(s:ByteArray)(w:World)(hs:s.size<=1048576):
  Calls Tryz.prog 87 #[.string s,.func (.func 90) #[] #[]] w fun e w'=>e=.returned (.int .i64 ((s.data.toList.takeWhile z3j).length:Nat))/\Below w.heap.size w w':=by
 obtain⟨R,hR⟩:∃ R,(s.data.toList.takeWhile z3j).length=R:=⟨_,rfl⟩;have HR:Hid (Unit->(s.data.toList.takeWhile z3j).length=R):=fun _=>hR;rw[hR];clear hR;have hmf:∀(fn:Fn) (first cap:Array Value) (w:World),(Instr.makeFunc fn first cap).run Tryz.prog w=.ok (.func fn first cap) w:=fun _ _ _ _=>rfl
 obtain⟨H,hH⟩:∃ H,w.heap.size=H:=⟨_,rfl⟩;have i0:(w.iter s 0).heap[H]?=some (.stringIter s 0):=by rw[←hH];exact World.iter_heap w s 0
 have b0:Below H w (w.iter s 0):=by rw[←hH];exact(yg9 _ _).alloc (yf9 _) _
 go_enter Tryz.func87,Tryz.ntmps87;go_upto_region 2 with fail;try simp only[hH]
 go_loopw [] (fun wr=>∃ pos:Nat,wr.heap[H]?=some (.stringIter s pos)/\Below H w wr/\pos<=s.size/\Hid (Unit->∀ c∈s.data.toList.take pos,(z3j) c=true)) (fun wr=>s.size-wr.iterPos H)
 case atStart=>exact⟨0,i0,b0,yj9 _,fun _ c hc=>by simp at hc⟩
 case round=>
  obtain⟨pos,hit,hb,hle,HP⟩:=hrel;have hp0:=ze5 hit;by_cases hp:pos<s.size
  ·have hnx:∀ ty,(Instr.next (.pointer (some ⟨H,0,none⟩)) true ty).run Tryz.prog wr=_:=fun ty=>Lib.run_next_any_at wr H s pos ty hit hp;obtain⟨k1,k2,k3⟩:=ze0 ze1 hp;obtain⟨r,hr⟩:∃ r,(Utf8.decode s pos).1=r:=⟨_,rfl⟩;obtain⟨d,hd⟩:∃ d,(Utf8.decode s pos).2=d:=⟨_,rfl⟩;rw[hr,hd]at hnx;rw[hr]at k1;rw[hd]at k2 k3;have hit2:=Lib.iterAt_heap wr H s pos (pos+d) hit;have hb2:=Lib.below_iterAt hb (k:=H) (yf9 _) s (pos+d);obtain⟨W1,hW1⟩:∃ W1,wr.iterAt H s (pos+d)=W1:=⟨_,rfl⟩;rw[hW1]at hnx hit2 hb2;have cK:=fun W=>zdV r W;obtain⟨y,hy⟩:∃ y,(z3j) s[pos]=y:=⟨_,rfl⟩;have HY:Hid (Unit->(z3j) s[pos]=y):=fun _=>hy;rw[hy]at k1 k2;have cK2:∀ W,Calls Tryz.prog 90 #[.int .i32 (r:Int)] W fun e w'=>e=.returned (.bool y)/\W=w':=fun W=>by rw[←k1];exact cK W
   clear hW1 hr hd hy k1 cK hb hit;cases y
   ·have HE:Hid (Unit->R=pos):=fun _=>by
     rw[←HR.out ()];refine z3E (by rw[z1x];exact hle) (HP.out ()) (.inr ⟨by rw[z1x];exact hp,?_⟩)
     exact HY.out ()
    go_wp2_with fail;refine(cK2 _).mono ?_;rintro e w' ⟨rfl,rfl⟩;go_wp2;go_ret;exact⟨by rw[HE.out ()];rfl,by rw[hH];exact hb2⟩
   ·have hd1:=k2 rfl;subst hd1;have HN:Hid (Unit->∀ c∈s.data.toList.take (pos+1),(z3j) c=true):=fun _ c hc=>by
     rw[z0p s pos hp,List.mem_append,List.mem_singleton]at hc;rcases hc with hc|rfl
     ·exact HP.out () c hc
     ·exact HY.out ()
    go_wp2_with fail;refine(cK2 _).mono ?_;rintro e w' ⟨rfl,rfl⟩;go_wp2;go_roundw
    case rel=>exact⟨pos+1,hit2,hb2,by omega,HN⟩
    case measure=>rw[ze5 hit2,hp0];omega
  ·have hnx:∀ ty,(Instr.next (.pointer (some ⟨H,0,none⟩)) true ty).run Tryz.prog wr=_:=fun ty=>Lib.run_next_end_at wr H s pos ty hit hp;have HE:Hid (Unit->R=s.size):=fun _=>by
    rw[←HR.out ()];refine z3E (by rw[z1x];exact yf9 _) ?_ (.inl (by rw[z1x]))
    have h:=HP.out ();rw[(by omega:pos=s.size)]at h
    exact h
   go_wp2;go_ret;exact⟨by rw[HE.out ()];rfl,by rw[hH];exact hb⟩
theorem ze7(s:ByteArray)(w:World)(hs:s.size<=1048576):
  Calls Tryz.prog 87 #[.string s,.func (.func 89) #[] #[]] w fun e w'=>e=.returned (.int .i64 ((s.data.toList.takeWhile zdT).length:Nat))/\Below w.heap.size w w':=by
 obtain⟨R,hR⟩:∃ R,(s.data.toList.takeWhile zdT).length=R:=⟨_,rfl⟩;have HR:Hid (Unit->(s.data.toList.takeWhile zdT).length=R):=fun _=>hR;rw[hR];clear hR;have hmf:∀(fn:Fn) (first cap:Array Value) (w:World),(Instr.makeFunc fn first cap).run Tryz.prog w=.ok (.func fn first cap) w:=fun _ _ _ _=>rfl
 obtain⟨H,hH⟩:∃ H,w.heap.size=H:=⟨_,rfl⟩;have i0:(w.iter s 0).heap[H]?=some (.stringIter s 0):=by rw[←hH];exact World.iter_heap w s 0
 have b0:Below H w (w.iter s 0):=by rw[←hH];exact(yg9 _ _).alloc (yf9 _) _
 go_enter Tryz.func87,Tryz.ntmps87;go_upto_region 2 with fail;try simp only[hH]
 go_loopw [] (fun wr=>∃ pos:Nat,wr.heap[H]?=some (.stringIter s pos)/\Below H w wr/\pos<=s.size/\Hid (Unit->∀ c∈s.data.toList.take pos,zdT c=true)) (fun wr=>s.size-wr.iterPos H)
 case atStart=>exact⟨0,i0,b0,yj9 _,fun _ c hc=>by simp at hc⟩
 case round=>
  obtain⟨pos,hit,hb,hle,HP⟩:=hrel;have hp0:=ze5 hit;by_cases hp:pos<s.size
  ·have hnx:∀ ty,(Instr.next (.pointer (some ⟨H,0,none⟩)) true ty).run Tryz.prog wr=_:=fun ty=>Lib.run_next_any_at wr H s pos ty hit hp;obtain⟨k1,k2,k3⟩:=ze0 ze3 hp;obtain⟨r,hr⟩:∃ r,(Utf8.decode s pos).1=r:=⟨_,rfl⟩;obtain⟨d,hd⟩:∃ d,(Utf8.decode s pos).2=d:=⟨_,rfl⟩;rw[hr,hd]at hnx;rw[hr]at k1;rw[hd]at k2 k3;have hit2:=Lib.iterAt_heap wr H s pos (pos+d) hit;have hb2:=Lib.below_iterAt hb (k:=H) (yf9 _) s (pos+d);obtain⟨W1,hW1⟩:∃ W1,wr.iterAt H s (pos+d)=W1:=⟨_,rfl⟩;rw[hW1]at hnx hit2 hb2;have cK:=fun W=>zdX r W;obtain⟨y,hy⟩:∃ y,zdT s[pos]=y:=⟨_,rfl⟩;have HY:Hid (Unit->zdT s[pos]=y):=fun _=>hy;rw[hy]at k1 k2;have cK2:∀ W,Calls Tryz.prog 89 #[.int .i32 (r:Int)] W fun e w'=>e=.returned (.bool y)/\W=w':=fun W=>by rw[←k1];exact cK W
   clear hW1 hr hd hy k1 cK hb hit;cases y
   ·have HE:Hid (Unit->R=pos):=fun _=>by
     rw[←HR.out ()];refine z3E (by rw[z1x];exact hle) (HP.out ()) (.inr ⟨by rw[z1x];exact hp,?_⟩)
     exact HY.out ()
    go_wp2_with fail;refine(cK2 _).mono ?_;rintro e w' ⟨rfl,rfl⟩;go_wp2;go_ret;exact⟨by rw[HE.out ()];rfl,by rw[hH];exact hb2⟩
   ·have hd1:=k2 rfl;subst hd1;have HN:Hid (Unit->∀ c∈s.data.toList.take (pos+1),zdT c=true):=fun _ c hc=>by
     rw[z0p s pos hp,List.mem_append,List.mem_singleton]at hc;rcases hc with hc|rfl
     ·exact HP.out () c hc
     ·exact HY.out ()
    go_wp2_with fail;refine(cK2 _).mono ?_;rintro e w' ⟨rfl,rfl⟩;go_wp2;go_roundw
    case rel=>exact⟨pos+1,hit2,hb2,by omega,HN⟩
    case measure=>rw[ze5 hit2,hp0];omega
  ·have hnx:∀ ty,(Instr.next (.pointer (some ⟨H,0,none⟩)) true ty).run Tryz.prog wr=_:=fun ty=>Lib.run_next_end_at wr H s pos ty hit hp;have HE:Hid (Unit->R=s.size):=fun _=>by
    rw[←HR.out ()];refine z3E (by rw[z1x];exact yf9 _) ?_ (.inl (by rw[z1x]))
    have h:=HP.out ();rw[(by omega:pos=s.size)]at h
    exact h
   go_wp2;go_ret;exact⟨by rw[HE.out ()];rfl,by rw[hH];exact hb⟩
theorem ze8(s:ByteArray)(w:World)(hs:s.size<=1048576):
  Calls Tryz.prog 87 #[.string s,.func (.func 88) #[] #[]] w fun e w'=>e=.returned (.int .i64 ((s.data.toList.takeWhile zdU).length:Nat))/\Below w.heap.size w w':=by
 obtain⟨R,hR⟩:∃ R,(s.data.toList.takeWhile zdU).length=R:=⟨_,rfl⟩;have HR:Hid (Unit->(s.data.toList.takeWhile zdU).length=R):=fun _=>hR;rw[hR];clear hR;have hmf:∀(fn:Fn) (first cap:Array Value) (w:World),(Instr.makeFunc fn first cap).run Tryz.prog w=.ok (.func fn first cap) w:=fun _ _ _ _=>rfl
 obtain⟨H,hH⟩:∃ H,w.heap.size=H:=⟨_,rfl⟩;have i0:(w.iter s 0).heap[H]?=some (.stringIter s 0):=by rw[←hH];exact World.iter_heap w s 0
 have b0:Below H w (w.iter s 0):=by rw[←hH];exact(yg9 _ _).alloc (yf9 _) _
 go_enter Tryz.func87,Tryz.ntmps87;go_upto_region 2 with fail;try simp only[hH]
 go_loopw [] (fun wr=>∃ pos:Nat,wr.heap[H]?=some (.stringIter s pos)/\Below H w wr/\pos<=s.size/\Hid (Unit->∀ c∈s.data.toList.take pos,(zdU) c=true)) (fun wr=>s.size-wr.iterPos H)
 case atStart=>exact⟨0,i0,b0,yj9 _,fun _ c hc=>by simp at hc⟩
 case round=>
  obtain⟨pos,hit,hb,hle,HP⟩:=hrel;have hp0:=ze5 hit;by_cases hp:pos<s.size
  ·have hnx:∀ ty,(Instr.next (.pointer (some ⟨H,0,none⟩)) true ty).run Tryz.prog wr=_:=fun ty=>Lib.run_next_any_at wr H s pos ty hit hp;obtain⟨k1,k2,k3⟩:=ze0 ze4 hp;obtain⟨r,hr⟩:∃ r,(Utf8.decode s pos).1=r:=⟨_,rfl⟩;obtain⟨d,hd⟩:∃ d,(Utf8.decode s pos).2=d:=⟨_,rfl⟩;rw[hr,hd]at hnx;rw[hr]at k1;rw[hd]at k2 k3;have hit2:=Lib.iterAt_heap wr H s pos (pos+d) hit;have hb2:=Lib.below_iterAt hb (k:=H) (yf9 _) s (pos+d);obtain⟨W1,hW1⟩:∃ W1,wr.iterAt H s (pos+d)=W1:=⟨_,rfl⟩;rw[hW1]at hnx hit2 hb2;have cK:=fun W=>zdY r W;obtain⟨y,hy⟩:∃ y,(zdU) s[pos]=y:=⟨_,rfl⟩;have HY:Hid (Unit->(zdU) s[pos]=y):=fun _=>hy;rw[hy]at k1 k2;have cK2:∀ W,Calls Tryz.prog 88 #[.int .i32 (r:Int)] W fun e w'=>e=.returned (.bool y)/\W=w':=fun W=>by rw[←k1];exact cK W
   clear hW1 hr hd hy k1 cK hb hit;cases y
   ·have HE:Hid (Unit->R=pos):=fun _=>by
     rw[←HR.out ()];refine z3E (by rw[z1x];exact hle) (HP.out ()) (.inr ⟨by rw[z1x];exact hp,?_⟩)
     exact HY.out ()
    go_wp2_with fail;refine(cK2 _).mono ?_;rintro e w' ⟨rfl,rfl⟩;go_wp2;go_ret;exact⟨by rw[HE.out ()];rfl,by rw[hH];exact hb2⟩
   ·have hd1:=k2 rfl;subst hd1;have HN:Hid (Unit->∀ c∈s.data.toList.take (pos+1),(zdU) c=true):=fun _ c hc=>by
     rw[z0p s pos hp,List.mem_append,List.mem_singleton]at hc;rcases hc with hc|rfl
     ·exact HP.out () c hc
     ·exact HY.out ()
    go_wp2_with fail;refine(cK2 _).mono ?_;rintro e w' ⟨rfl,rfl⟩;go_wp2;go_roundw
    case rel=>exact⟨pos+1,hit2,hb2,by omega,HN⟩
    case measure=>rw[ze5 hit2,hp0];omega
  ·have hnx:∀ ty,(Instr.next (.pointer (some ⟨H,0,none⟩)) true ty).run Tryz.prog wr=_:=fun ty=>Lib.run_next_end_at wr H s pos ty hit hp;have HE:Hid (Unit->R=s.size):=fun _=>by
    rw[←HR.out ()];refine z3E (by rw[z1x];exact yf9 _) ?_ (.inl (by rw[z1x]))
    have h:=HP.out ();rw[(by omega:pos=s.size)]at h
    exact h
   go_wp2;go_ret;exact⟨by rw[HE.out ()];rfl,by rw[hH];exact hb⟩
end Go.Proofs.YtdbekjiognpgnaaGreat
namespace Go.Proofs.YtdbekjiognpgnaaGreat
open Go.RowKit Go.Sort
def ze9:List ByteArray:=[⟨#[108,101,116]⟩,⟨#[112,114,105,110,116]⟩,⟨#[105,102]⟩,⟨#[101,108,115,101]⟩,⟨#[119,104,105,108,101]⟩,⟨#[114,101,116,117,114,110]⟩,⟨#[116,104,114,111,119]⟩,⟨#[116,114,121]⟩,⟨#[99,97,116,99,104]⟩,⟨#[102,117,110]⟩,⟨#[116,114,117,101]⟩,⟨#[102,97,108,115,101]⟩,⟨#[110,111,110,101]⟩]
def zea:Array Value:=(ze9.map Value.string).toArray
theorem zeb(w:World):(w.alloc (.cells zea 9)).ownsRow w.heap.size 9 1 (.slice (some ⟨w.heap.size,0,none⟩) 13 13) 13 (ze9.map Value.string):=
 ⟨rfl,.inr ⟨w.heap.size,13,zea,rfl,yf9 _,heap_alloc_new w _,yf9 _,by unfold maxLen;omega,rfl,rfl⟩⟩
theorem zec(w:World):
  Calls Tryz.prog 92 #[] w fun e w'=>∃ v,e=.returned v/\w'.ownsRow w.heap.size 9 1 v 13 (ze9.map Value.string)/\Below w.heap.size w w':=by
 have HO:Hid ((w.alloc (.cells zea 9)).ownsRow w.heap.size 9 1 (.slice (some ⟨w.heap.size,0,none⟩) 13 13) 13 (ze9.map Value.string)):=zeb w;go_enter Tryz.func92,Tryz.ntmps92;go_wp2;go_ret;exact⟨_,rfl,HO.out,(yg9 _ _).alloc (yf9 _) _⟩
theorem zed{w:World}{B:Nat}{e:TypeId}{size m:Nat}{a:Option Addr}{cap:Nat}{xs:List Value}{j:Nat}{u:Value}(h:w.ownsRow B e size (.slice a m cap) m xs)(hj:xs[j]?=some u):∃ g,a=some ⟨g,0,none⟩/\w.cell? ⟨g,j,none⟩=some u:=by
 rcases h.2 with ⟨e1,e2⟩|⟨g,cap',cur,e1,_⟩
 ·have:xs=[]:=List.eq_nil_of_length_eq_zero (by rw[h.1,e2];simp)
  rw[this]at hj;simp at hj
 ·injection e1 with e1 e2 e3;subst e1;subst e3;exact⟨g,rfl,z9I h hj⟩
theorem zee{α:Type}{p:α->Bool}:∀{l:List α},(∀ x∈l,p x=true)->l.takeWhile p=l
 | [],_=>rfl
 | a::l,h=>by rw[List.takeWhile_cons,if_pos (h a (by simp)),zee (fun x hx=>h x (List.mem_cons_of_mem _ hx))]
theorem zef{x:List UInt8}(h:z5R x):(x.takeWhile zdT).length=x.length/\(x.takeWhile z3j).length=0:=by
 obtain⟨h1,h2,h3,h4⟩:=h;cases x with
 | nil=>simp at h1
 | cons c r=>
  by_cases hc:z3x c=true
  ·rw[z7f hc]at h3;have hf:z3j c=false:=by
    unfold z3x at hc;unfold z3j;simp at hc ⊢;omega
   have hn:zdT c=true:=by unfold zdT;rw[hc];rfl
   refine⟨?_,by rw[List.takeWhile_cons,hf];rfl⟩
   rw[List.takeWhile_cons,if_pos hn,List.length_cons];exact h3
  ·exfalso
   have:z3y (c::r)=0:=by show(if z3x c=true then _ else 0)=0;rw[if_neg hc]
   rw[this]at h3;simp at h3
theorem zeg{x:List UInt8}(h:z5T x):(x.takeWhile zdU).length=x.length:=by
 rw[zee fun c hc=>?_];obtain⟨h1,h2,h3⟩:=h c hc;unfold zdU zdS;simp;omega
theorem zeh{x:ByteArray}(h:z5S x):x∉ze9:=fun hm=>by
 have:x.data.toList∈z4J:=by
  have e:z4J=ze9.map (fun b=>b.data.toList):=rfl;rw[e];exact List.mem_map_of_mem hm
 exact h.2.2.2 this
theorem zei{w:World}{B:Nat}{v:Value}(x:ByteArray)(ho:w.ownsRow B 9 1 v 13 (ze9.map Value.string))(hx:x∉ze9):
  Calls Tryz.prog 103 #[v,.string x] w fun e w'=>e=.returned (.int .i64 (-1))/\w=w':=by
 obtain⟨va,vc,rfl⟩:=z8A ho;have HC:Hid (∀ q:Nat,q<13->∃(g:Nat) (t:ByteArray),va=some ⟨g,0,none⟩/\w.cell? ⟨g,q,none⟩=some (.string t)/\t≠x):=fun q hq=>by
  obtain⟨t,ht⟩:∃ t,ze9[q]?=some t:=⟨_,yd9 (show q<ze9.length from hq)⟩;obtain⟨g,e,hc⟩:=zed ho (show(ze9.map Value.string)[q]?=some (.string t) by rw[List.getElem?_map,ht];rfl)
  exact⟨g,t,e,hc,fun e=>hx (by rw[←e];exact List.mem_iff_getElem?.2 ⟨q,ht⟩)⟩
 clear ho hx;go_enter Tryz.func103,Tryz.ntmps103;go_upto_region 2 with fail;go_loop [8] (fun i=>∃ q:Nat,i=.int .i64 (q:Int)/\q<=13) (fun i=>13-(intOf i).toNat)
 case atStart=>exact⟨0,rfl,yj9 _⟩
 case round=>
  obtain⟨q,rfl,hq⟩:=hrel;by_cases hlt:q<13
  ·obtain⟨g,t,rfl,hc,hne⟩:=HC.out q hlt;have hqi:(q:Int)<(13:Int):=by omega
   have hq0:(0:Int)<=(q:Int):=by omega
   have hb:(x.toList==t.toList)=false:=by
    rw[yc9,ByteArray.toList_eq,ByteArray.toList_eq];exact fun e=>hne (z93 e).symm
   go_wp2;go_round
   case rel=>exact⟨q+1,by go_num,by omega⟩
   case measure=>simp[intOf];omega
  ·have hge:decide ((q:Int)<(13:Int))=false:=ya9 (by omega)
   have hge':decide (q<13)=false:=ya9 (by omega)
   have e13:q=13:=by omega
   subst e13;go_wp2;go_returns;exact⟨rfl,rfl⟩
theorem zej{w:World}{B:Nat}{v:Value}(x:ByteArray)(ho:w.ownsRow B 9 1 v 13 (ze9.map Value.string))(hx:x∉ze9):
  Calls Tryz.prog 91 #[v,.string x] w fun e w'=>e=.returned (.bool false)/\w=w':=by
 have cI:=zei x ho hx;go_enter Tryz.func91,Tryz.ntmps91;go_wp2_with fail;refine cI.mono ?_;rintro e w' ⟨rfl,rfl⟩;go_wp2;go_returns;exact⟨rfl,rfl⟩
theorem zek(x:ByteArray)(w:World)(h:z5S x):
  Calls Tryz.prog 61 #[.string x] w fun e w'=>e=.returned (.bool true)/\Below w.heap.size w w':=by
 have hs:x.size=x.data.toList.length:=by rw[Array.length_toList];rfl
 obtain⟨hl,hf⟩:=zef h;have h1:=h.1;have h2:=h.2.1;have cN:=fun W=>ze7 x W (by omega)
 have cF:=fun W=>ze6 x W (by omega)
 rw[hf]at cF;rw[hl,←hs]at cN;have hw:=zeh h;have hne:(x.toList==([]:List UInt8))=false:=by
  rw[yc9,ByteArray.toList_eq];intro e;rw[e]at h1;simp at h1
 have cW:=zec;have h12:x.size<=12:=by omega
 clear h hl hf h1 h2 hs;obtain⟨X,hX⟩:∃ X,x.size=X:=⟨_,rfl⟩;rw[hX]at h12 cN;go_enter Tryz.func61,Tryz.ntmps61;go_wp2_with fail;refine(cN _).mono ?_;rintro e w1 ⟨rfl,b1⟩;have HB1:Hid (Below w.heap.size w w1):=b1;clear b1;go_wp2_with fail;refine(cF _).mono ?_;rintro e w2 ⟨rfl,b2⟩;have HB2:Hid (Below w.heap.size w w2):=HB1.out.trans (b2.mono HB1.out.size);clear b2;go_wp2_with fail;refine(cW _).mono ?_;rintro e w3 ⟨v,rfl,ho,b3⟩;have cC:=zej x ho hw;have HB3:Hid (Below w.heap.size w w3):=HB2.out.trans (b3.mono HB2.out.size);clear b3 ho;go_wp2_with fail;refine cC.mono ?_;rintro e w4 ⟨rfl,rfl⟩;go_wp2;go_returns;exact⟨rfl,HB3.out⟩
theorem zel(x:ByteArray)(w:World)(h:z5T x.data.toList)(h40:x.size<=40):
  Calls Tryz.prog 60 #[.string x] w fun e w'=>e=.returned (.bool true)/\Below w.heap.size w w':=by
 have hs:x.size=x.data.toList.length:=by rw[Array.length_toList];rfl
 have cT:=fun W=>ze8 x W (by omega)
 rw[zeg h,←hs]at cT;clear h hs;obtain⟨X,hX⟩:∃ X,x.size=X:=⟨_,rfl⟩;rw[hX]at h40 cT;go_enter Tryz.func60,Tryz.ntmps60;go_wp2_with fail;refine(cT _).mono ?_;rintro e w1 ⟨rfl,b1⟩;have HB1:Hid (Below w.heap.size w w1):=b1;clear b1;have hd:decide ((X:Int)<=40)=true:=yb9 (by omega)
 go_wp2;go_returns;exact⟨by first|rfl|(rw[hd];rfl)|(simp only[hd];rfl),HB1.out⟩
theorem zem{w:World}{B:Nat}{v:Value}(l:List ByteArray)(ho:w.ownsRow B 9 1 v l.length (l.map Value.string))(h4:l.length<=4)(hl:∀ x∈l,z5S x):
  Calls Tryz.prog 62 #[v] w fun e w'=>e=.returned (.bool true)/\Below w.heap.size w w':=by
 obtain⟨va,vc,rfl⟩:=z8A ho;obtain⟨m,hm⟩:∃ m,l.length=m:=⟨_,rfl⟩;have HC:Hid (∀(q:Nat) (W:World),Below w.heap.size w W->q<m->∃(g:Nat) (t:ByteArray),va=some ⟨g,0,none⟩/\W.cell? ⟨g,q,none⟩=some (.string t)/\z5S t):=fun q W hW hq=>by
  obtain⟨t,ht⟩:∃ t,l[q]?=some t:=⟨_,yd9 (by omega)⟩
  obtain⟨g,e,hc⟩:=zed (z8B ho hW) (show(l.map Value.string)[q]?=some (.string t) by rw[List.getElem?_map,ht];rfl)
  exact⟨g,t,e,hc,hl t (List.mem_iff_getElem?.2 ⟨q,ht⟩)⟩
 rw[hm]at h4 ⊢;clear ho hl hm;go_enter Tryz.func62,Tryz.ntmps62;go_upto_region 2 with fail;go_loopw [7] (fun i wr=>∃ q:Nat,i=.int .i64 (q:Int)/\q<=m/\Below w.heap.size w wr) (fun i _=>m-(intOf i).toNat)
 case atStart=>exact⟨0,rfl,yj9 _,yg9 _ _⟩
 case round=>
  obtain⟨q,rfl,hq,hb⟩:=hrel;have HB:Hid (Below w.heap.size w wr):=hb;clear hb;by_cases hlt:q<m
  ·obtain⟨g,t,rfl,hc,hn⟩:=HC.out q wr HB.out hlt;have cN:=zek t wr hn;have hqi:(q:Int)<(m:Int):=by omega
   have hq0:(0:Int)<=(q:Int):=by omega
   clear hn;go_wp2_with fail;refine cN.mono ?_;rintro e w1 ⟨rfl,b1⟩;have HB1:Hid (Below w.heap.size w w1):=HB.out.trans (b1.mono HB.out.size);clear b1 cN hc;go_wp2_with fail;go_roundw
   case rel=>exact⟨q+1,by go_num,by omega,HB1.out⟩
   case measure=>simp[intOf];omega
  ·have hge:decide ((q:Int)<(m:Int))=false:=ya9 (by omega)
   have hge':decide (q<m)=false:=ya9 (by omega)
   have em:q=m:=by omega
   subst em;have hd:decide ((q:Int)<=4)=true:=yb9 (by omega)
   go_wp2;go_returns;exact⟨by first|rfl|(rw[hd];rfl)|(simp only[hd];rfl),HB.out⟩
