/- Part 48. -/
import Derived.Test.YtdbekjiognpgnaaGreatPbt
set_option maxHeartbeats 16000000
set_option maxRecDepth 100000
set_option linter.unusedVariables false
namespace Go.Proofs.YtdbekjiognpgnaaGreat
open Go.RowKit Go.Sort
theorem zeV{w:World}(a b c z pos:Int){la:Option Addr}{m lc:Nat}{na:Option Addr}{q nc:Nat}:
  Calls Tryz.prog 19 #[.agg #[.int .i64 1,.int .i64 a,.int .i64 b,.int .i64 c,.slice la m lc,.slice na q nc,.int .u64 z,.int .i64 pos]] w fun e w'=>e=.returned (.iface 89 (.agg #[.int .u64 z]))/\Below w.heap.size w w':=by
 have b0:Below w.heap.size w (w.alloc (.cells #[.int .i64 1,.int .i64 a,.int .i64 b,.int .i64 c,.slice la m lc,.slice na q nc,.int .u64 z,.int .i64 pos] 34)):=(yg9 _ _).alloc (yf9 _) _;go_enter Tryz.func19,Tryz.ntmps19;go_wp2;go_returns;exact⟨rfl,b0⟩
theorem zeW{w:World}(a b c z pos:Int){la:Option Addr}{m lc:Nat}{gl nc:Nat}{t:ByteArray}(ht:w.cell? ⟨gl,0,none⟩=some (.string t)):
  Calls Tryz.prog 19 #[.agg #[.int .i64 2,.int .i64 a,.int .i64 b,.int .i64 c,.slice la m lc,.slice (some ⟨gl,0,none⟩) 1 nc,.int .u64 z,.int .i64 pos]] w fun e w'=>e=.returned (.iface 92 (.agg #[.string t]))/\Below w.heap.size w w':=by
 have b0:Below w.heap.size w (w.alloc (.cells #[.int .i64 2,.int .i64 a,.int .i64 b,.int .i64 c,.slice la m lc,.slice (some ⟨gl,0,none⟩) 1 nc,.int .u64 z,.int .i64 pos] 34)):=(yg9 _ _).alloc (yf9 _) _;have cO:∀ W,Below w.heap.size w W->Calls Tryz.prog 38 #[.slice (some ⟨gl,0,none⟩) 1 nc] W fun e w'=>e=.returned (.string t)/\W=w':=fun W hW=>zdH ((hW.cell (p:=⟨gl,0,none⟩) (World.block_lt_of_cell? w _ ht)).trans ht);go_enter Tryz.func19,Tryz.ntmps19;go_wp2_with fail;refine(cO _ b0).mono ?_;rintro e w5 ⟨rfl,rfl⟩;go_wp2;go_returns;exact⟨rfl,b0⟩
theorem zeX{w:World}(a b c z pos:Int){la:Option Addr}{m lc:Nat}{na:Option Addr}{q nc:Nat}:
  Calls Tryz.prog 19 #[.agg #[.int .i64 3,.int .i64 a,.int .i64 b,.int .i64 c,.slice la m lc,.slice na q nc,.int .u64 z,.int .i64 pos]] w fun e w'=>e=.returned (.iface 94 (.agg #[.int .i64 3]))/\Below w.heap.size w w':=by
 have b0:Below w.heap.size w (w.alloc (.cells #[.int .i64 3,.int .i64 a,.int .i64 b,.int .i64 c,.slice la m lc,.slice na q nc,.int .u64 z,.int .i64 pos] 34)):=(yg9 _ _).alloc (yf9 _) _;go_enter Tryz.func19,Tryz.ntmps19;go_wp2;go_returns;exact⟨rfl,b0⟩
theorem zeY{w:World}(a b c z pos:Int){la:Option Addr}{m lc:Nat}{na:Option Addr}{q nc:Nat}:
  Calls Tryz.prog 19 #[.agg #[.int .i64 4,.int .i64 a,.int .i64 b,.int .i64 c,.slice la m lc,.slice na q nc,.int .u64 z,.int .i64 pos]] w fun e w'=>e=.returned (.iface 94 (.agg #[.int .i64 4]))/\Below w.heap.size w w':=by
 have b0:Below w.heap.size w (w.alloc (.cells #[.int .i64 4,.int .i64 a,.int .i64 b,.int .i64 c,.slice la m lc,.slice na q nc,.int .u64 z,.int .i64 pos] 34)):=(yg9 _ _).alloc (yf9 _) _;go_enter Tryz.func19,Tryz.ntmps19;go_wp2;go_returns;exact⟨rfl,b0⟩
theorem zeZ{w:World}(a b c z pos:Int){la:Option Addr}{m lc:Nat}{na:Option Addr}{q nc:Nat}:
  Calls Tryz.prog 19 #[.agg #[.int .i64 5,.int .i64 a,.int .i64 b,.int .i64 c,.slice la m lc,.slice na q nc,.int .u64 z,.int .i64 pos]] w fun e w'=>e=.returned (.iface 94 (.agg #[.int .i64 5]))/\Below w.heap.size w w':=by
 have b0:Below w.heap.size w (w.alloc (.cells #[.int .i64 5,.int .i64 a,.int .i64 b,.int .i64 c,.slice la m lc,.slice na q nc,.int .u64 z,.int .i64 pos] 34)):=(yg9 _ _).alloc (yf9 _) _;go_enter Tryz.func19,Tryz.ntmps19;go_wp2;go_returns;exact⟨rfl,b0⟩
theorem zf0{w:World}(a b c z pos:Int){la:Option Addr}{m lc:Nat}{gl nc:Nat}{t:ByteArray}(ht:w.cell? ⟨gl,0,none⟩=some (.string t)):
  Calls Tryz.prog 19 #[.agg #[.int .i64 6,.int .i64 a,.int .i64 b,.int .i64 c,.slice la m lc,.slice (some ⟨gl,0,none⟩) 1 nc,.int .u64 z,.int .i64 pos]] w fun e w'=>e=.returned (.iface 96 (.agg #[.string t]))/\Below w.heap.size w w':=by
 have b0:Below w.heap.size w (w.alloc (.cells #[.int .i64 6,.int .i64 a,.int .i64 b,.int .i64 c,.slice la m lc,.slice (some ⟨gl,0,none⟩) 1 nc,.int .u64 z,.int .i64 pos] 34)):=(yg9 _ _).alloc (yf9 _) _;have cO:∀ W,Below w.heap.size w W->Calls Tryz.prog 38 #[.slice (some ⟨gl,0,none⟩) 1 nc] W fun e w'=>e=.returned (.string t)/\W=w':=fun W hW=>zdH ((hW.cell (p:=⟨gl,0,none⟩) (World.block_lt_of_cell? w _ ht)).trans ht);go_enter Tryz.func19,Tryz.ntmps19;go_wp2_with fail;refine(cO _ b0).mono ?_;rintro e w5 ⟨rfl,rfl⟩;go_wp2;go_returns;exact⟨rfl,b0⟩
theorem zf1{w:World}(a b c z pos:Int){la:Option Addr}{m lc:Nat}{na:Option Addr}{q nc:Nat}:
  Calls Tryz.prog 19 #[.agg #[.int .i64 7,.int .i64 a,.int .i64 b,.int .i64 c,.slice la m lc,.slice na q nc,.int .u64 z,.int .i64 pos]] w fun e w'=>e=.returned (.iface 98 (.agg #[.int .i64 7,.int .i64 a]))/\Below w.heap.size w w':=by
 have b0:Below w.heap.size w (w.alloc (.cells #[.int .i64 7,.int .i64 a,.int .i64 b,.int .i64 c,.slice la m lc,.slice na q nc,.int .u64 z,.int .i64 pos] 34)):=(yg9 _ _).alloc (yf9 _) _;go_enter Tryz.func19,Tryz.ntmps19;go_wp2;go_returns;exact⟨rfl,b0⟩
theorem zf2{w:World}(a b c z pos:Int){la:Option Addr}{m lc:Nat}{na:Option Addr}{q nc:Nat}:
  Calls Tryz.prog 19 #[.agg #[.int .i64 8,.int .i64 a,.int .i64 b,.int .i64 c,.slice la m lc,.slice na q nc,.int .u64 z,.int .i64 pos]] w fun e w'=>e=.returned (.iface 98 (.agg #[.int .i64 8,.int .i64 a]))/\Below w.heap.size w w':=by
 have b0:Below w.heap.size w (w.alloc (.cells #[.int .i64 8,.int .i64 a,.int .i64 b,.int .i64 c,.slice la m lc,.slice na q nc,.int .u64 z,.int .i64 pos] 34)):=(yg9 _ _).alloc (yf9 _) _;go_enter Tryz.func19,Tryz.ntmps19;go_wp2;go_returns;exact⟨rfl,b0⟩
theorem zf3{w:World}(a b c z pos:Int){la:Option Addr}{m lc:Nat}{na:Option Addr}{q nc:Nat}:
  Calls Tryz.prog 19 #[.agg #[.int .i64 9,.int .i64 a,.int .i64 b,.int .i64 c,.slice la m lc,.slice na q nc,.int .u64 z,.int .i64 pos]] w fun e w'=>e=.returned (.iface 100 (.agg #[.int .i64 c,.int .i64 a,.int .i64 b]))/\Below w.heap.size w w':=by
 have b0:Below w.heap.size w (w.alloc (.cells #[.int .i64 9,.int .i64 a,.int .i64 b,.int .i64 c,.slice la m lc,.slice na q nc,.int .u64 z,.int .i64 pos] 34)):=(yg9 _ _).alloc (yf9 _) _;go_enter Tryz.func19,Tryz.ntmps19;go_wp2;go_returns;exact⟨rfl,b0⟩
theorem zf4{w:World}(a b c z pos:Int){la:Option Addr}{m lc:Nat}{na:Option Addr}{q nc:Nat}:
  Calls Tryz.prog 19 #[.agg #[.int .i64 10,.int .i64 a,.int .i64 b,.int .i64 c,.slice la m lc,.slice na q nc,.int .u64 z,.int .i64 pos]] w fun e w'=>e=.returned (.iface 102 (.agg #[.int .i64 10,.int .i64 a,.int .i64 b]))/\Below w.heap.size w w':=by
 have b0:Below w.heap.size w (w.alloc (.cells #[.int .i64 10,.int .i64 a,.int .i64 b,.int .i64 c,.slice la m lc,.slice na q nc,.int .u64 z,.int .i64 pos] 34)):=(yg9 _ _).alloc (yf9 _) _;go_enter Tryz.func19,Tryz.ntmps19;go_wp2;go_returns;exact⟨rfl,b0⟩
theorem zf5{w:World}(a b c z pos:Int){la:Option Addr}{m lc:Nat}{na:Option Addr}{q nc:Nat}:
  Calls Tryz.prog 19 #[.agg #[.int .i64 11,.int .i64 a,.int .i64 b,.int .i64 c,.slice la m lc,.slice na q nc,.int .u64 z,.int .i64 pos]] w fun e w'=>e=.returned (.iface 102 (.agg #[.int .i64 11,.int .i64 a,.int .i64 b]))/\Below w.heap.size w w':=by
 have b0:Below w.heap.size w (w.alloc (.cells #[.int .i64 11,.int .i64 a,.int .i64 b,.int .i64 c,.slice la m lc,.slice na q nc,.int .u64 z,.int .i64 pos] 34)):=(yg9 _ _).alloc (yf9 _) _;go_enter Tryz.func19,Tryz.ntmps19;go_wp2;go_returns;exact⟨rfl,b0⟩
theorem zf6{w:World}(a b c z pos:Int){la:Option Addr}{m lc:Nat}{na:Option Addr}{q nc:Nat}:
  Calls Tryz.prog 19 #[.agg #[.int .i64 12,.int .i64 a,.int .i64 b,.int .i64 c,.slice la m lc,.slice na q nc,.int .u64 z,.int .i64 pos]] w fun e w'=>e=.returned (.iface 104 (.agg #[.int .i64 a,.slice la m lc]))/\Below w.heap.size w w':=by
 have b0:Below w.heap.size w (w.alloc (.cells #[.int .i64 12,.int .i64 a,.int .i64 b,.int .i64 c,.slice la m lc,.slice na q nc,.int .u64 z,.int .i64 pos] 34)):=(yg9 _ _).alloc (yf9 _) _;go_enter Tryz.func19,Tryz.ntmps19;go_wp2;go_returns;exact⟨rfl,b0⟩
theorem zf7{w:World}(a b c z pos:Int){la:Option Addr}{m lc:Nat}{na:Option Addr}{q nc:Nat}:
  Calls Tryz.prog 19 #[.agg #[.int .i64 13,.int .i64 a,.int .i64 b,.int .i64 c,.slice la m lc,.slice na q nc,.int .u64 z,.int .i64 pos]] w fun e w'=>e=.returned (.iface 106 (.agg #[.slice na q nc,.int .i64 a]))/\Below w.heap.size w w':=by
 have b0:Below w.heap.size w (w.alloc (.cells #[.int .i64 13,.int .i64 a,.int .i64 b,.int .i64 c,.slice la m lc,.slice na q nc,.int .u64 z,.int .i64 pos] 34)):=(yg9 _ _).alloc (yf9 _) _;go_enter Tryz.func19,Tryz.ntmps19;go_wp2;go_returns;exact⟨rfl,b0⟩
theorem zf8{w:World}(a b c z pos:Int){la:Option Addr}{m lc:Nat}{gl nc:Nat}{t:ByteArray}(ht:w.cell? ⟨gl,0,none⟩=some (.string t)):
  Calls Tryz.prog 19 #[.agg #[.int .i64 20,.int .i64 a,.int .i64 b,.int .i64 c,.slice la m lc,.slice (some ⟨gl,0,none⟩) 1 nc,.int .u64 z,.int .i64 pos]] w fun e w'=>e=.returned (.iface 130 (.agg #[.string t,.int .i64 a,.int .i64 b]))/\Below w.heap.size w w':=by
 have b0:Below w.heap.size w (w.alloc (.cells #[.int .i64 20,.int .i64 a,.int .i64 b,.int .i64 c,.slice la m lc,.slice (some ⟨gl,0,none⟩) 1 nc,.int .u64 z,.int .i64 pos] 34)):=(yg9 _ _).alloc (yf9 _) _;have cO:∀ W,Below w.heap.size w W->Calls Tryz.prog 38 #[.slice (some ⟨gl,0,none⟩) 1 nc] W fun e w'=>e=.returned (.string t)/\W=w':=fun W hW=>zdH ((hW.cell (p:=⟨gl,0,none⟩) (World.block_lt_of_cell? w _ ht)).trans ht);go_enter Tryz.func19,Tryz.ntmps19;go_wp2_with fail;refine(zdI (w:=(w.alloc (.cells #[.int .i64 20,.int .i64 a,.int .i64 b,.int .i64 c,.slice la m lc,.slice (some ⟨gl,0,none⟩) 1 nc,.int .u64 z,.int .i64 pos] 34))) a b c z pos ((b0.cell (p:=⟨gl,0,none⟩) (World.block_lt_of_cell? w _ ht)).trans ht)).mono ?_;rintro e w5 ⟨rfl,b5⟩;have HB:Hid (Below w.heap.size w w5):=b0.trans (b5.mono b0.size);clear b5 b0;go_wp2;go_returns;exact⟨rfl,HB.out⟩
theorem zf9{w:World}(a b c z pos:Int){la:Option Addr}{m lc:Nat}{gl nc:Nat}{t:ByteArray}(ht:w.cell? ⟨gl,0,none⟩=some (.string t)):
  Calls Tryz.prog 19 #[.agg #[.int .i64 21,.int .i64 a,.int .i64 b,.int .i64 c,.slice la m lc,.slice (some ⟨gl,0,none⟩) 1 nc,.int .u64 z,.int .i64 pos]] w fun e w'=>e=.returned (.iface 132 (.agg #[.string t,.int .i64 a]))/\Below w.heap.size w w':=by
 have b0:Below w.heap.size w (w.alloc (.cells #[.int .i64 21,.int .i64 a,.int .i64 b,.int .i64 c,.slice la m lc,.slice (some ⟨gl,0,none⟩) 1 nc,.int .u64 z,.int .i64 pos] 34)):=(yg9 _ _).alloc (yf9 _) _;have cO:∀ W,Below w.heap.size w W->Calls Tryz.prog 38 #[.slice (some ⟨gl,0,none⟩) 1 nc] W fun e w'=>e=.returned (.string t)/\W=w':=fun W hW=>zdH ((hW.cell (p:=⟨gl,0,none⟩) (World.block_lt_of_cell? w _ ht)).trans ht);go_enter Tryz.func19,Tryz.ntmps19;go_wp2_with fail;refine(zdJ (w:=(w.alloc (.cells #[.int .i64 21,.int .i64 a,.int .i64 b,.int .i64 c,.slice la m lc,.slice (some ⟨gl,0,none⟩) 1 nc,.int .u64 z,.int .i64 pos] 34))) a b c z pos ((b0.cell (p:=⟨gl,0,none⟩) (World.block_lt_of_cell? w _ ht)).trans ht)).mono ?_;rintro e w5 ⟨rfl,b5⟩;have HB:Hid (Below w.heap.size w w5):=b0.trans (b5.mono b0.size);clear b5 b0;go_wp2;go_returns;exact⟨rfl,HB.out⟩
theorem zfa{w:World}(a b c z pos:Int){la:Option Addr}{m lc:Nat}{na:Option Addr}{q nc:Nat}:
  Calls Tryz.prog 19 #[.agg #[.int .i64 22,.int .i64 a,.int .i64 b,.int .i64 c,.slice la m lc,.slice na q nc,.int .u64 z,.int .i64 pos]] w fun e w'=>e=.returned (.iface 135 (.agg #[.int .i64 22,.int .i64 a]))/\Below w.heap.size w w':=by
 have b0:Below w.heap.size w (w.alloc (.cells #[.int .i64 22,.int .i64 a,.int .i64 b,.int .i64 c,.slice la m lc,.slice na q nc,.int .u64 z,.int .i64 pos] 34)):=(yg9 _ _).alloc (yf9 _) _;go_enter Tryz.func19,Tryz.ntmps19;go_wp2_with fail;refine(zdK (w:=(w.alloc (.cells #[.int .i64 22,.int .i64 a,.int .i64 b,.int .i64 c,.slice la m lc,.slice na q nc,.int .u64 z,.int .i64 pos] 34))) a b c z pos ).mono ?_;rintro e w5 ⟨rfl,b5⟩;have HB:Hid (Below w.heap.size w w5):=b0.trans (b5.mono b0.size);clear b5 b0;go_wp2;go_returns;exact⟨rfl,HB.out⟩
theorem zfb{w:World}(a b c z pos:Int){la:Option Addr}{m lc:Nat}{na:Option Addr}{q nc:Nat}:
  Calls Tryz.prog 19 #[.agg #[.int .i64 25,.int .i64 a,.int .i64 b,.int .i64 c,.slice la m lc,.slice na q nc,.int .u64 z,.int .i64 pos]] w fun e w'=>e=.returned (.iface 135 (.agg #[.int .i64 25,.int .i64 a]))/\Below w.heap.size w w':=by
 have b0:Below w.heap.size w (w.alloc (.cells #[.int .i64 25,.int .i64 a,.int .i64 b,.int .i64 c,.slice la m lc,.slice na q nc,.int .u64 z,.int .i64 pos] 34)):=(yg9 _ _).alloc (yf9 _) _;go_enter Tryz.func19,Tryz.ntmps19;go_wp2_with fail;refine(zdL (w:=(w.alloc (.cells #[.int .i64 25,.int .i64 a,.int .i64 b,.int .i64 c,.slice la m lc,.slice na q nc,.int .u64 z,.int .i64 pos] 34))) a b c z pos ).mono ?_;rintro e w5 ⟨rfl,b5⟩;have HB:Hid (Below w.heap.size w w5):=b0.trans (b5.mono b0.size);clear b5 b0;go_wp2;go_returns;exact⟨rfl,HB.out⟩
theorem zfc{w:World}(a b c z pos:Int){la:Option Addr}{m lc:Nat}{na:Option Addr}{q nc:Nat}:
  Calls Tryz.prog 19 #[.agg #[.int .i64 26,.int .i64 a,.int .i64 b,.int .i64 c,.slice la m lc,.slice na q nc,.int .u64 z,.int .i64 pos]] w fun e w'=>e=.returned (.iface 135 (.agg #[.int .i64 26,.int .i64 a]))/\Below w.heap.size w w':=by
 have b0:Below w.heap.size w (w.alloc (.cells #[.int .i64 26,.int .i64 a,.int .i64 b,.int .i64 c,.slice la m lc,.slice na q nc,.int .u64 z,.int .i64 pos] 34)):=(yg9 _ _).alloc (yf9 _) _;go_enter Tryz.func19,Tryz.ntmps19;go_wp2_with fail;refine(zdM (w:=(w.alloc (.cells #[.int .i64 26,.int .i64 a,.int .i64 b,.int .i64 c,.slice la m lc,.slice na q nc,.int .u64 z,.int .i64 pos] 34))) a b c z pos ).mono ?_;rintro e w5 ⟨rfl,b5⟩;have HB:Hid (Below w.heap.size w w5):=b0.trans (b5.mono b0.size);clear b5 b0;go_wp2;go_returns;exact⟨rfl,HB.out⟩
theorem zfd{w:World}(a b c z pos:Int){la:Option Addr}{m lc:Nat}{na:Option Addr}{q nc:Nat}:
  Calls Tryz.prog 19 #[.agg #[.int .i64 28,.int .i64 a,.int .i64 b,.int .i64 c,.slice la m lc,.slice na q nc,.int .u64 z,.int .i64 pos]] w fun e w'=>e=.returned (.iface 135 (.agg #[.int .i64 28,.int .i64 a]))/\Below w.heap.size w w':=by
 have b0:Below w.heap.size w (w.alloc (.cells #[.int .i64 28,.int .i64 a,.int .i64 b,.int .i64 c,.slice la m lc,.slice na q nc,.int .u64 z,.int .i64 pos] 34)):=(yg9 _ _).alloc (yf9 _) _;go_enter Tryz.func19,Tryz.ntmps19;go_wp2_with fail;refine(zdN (w:=(w.alloc (.cells #[.int .i64 28,.int .i64 a,.int .i64 b,.int .i64 c,.slice la m lc,.slice na q nc,.int .u64 z,.int .i64 pos] 34))) a b c z pos ).mono ?_;rintro e w5 ⟨rfl,b5⟩;have HB:Hid (Below w.heap.size w w5):=b0.trans (b5.mono b0.size);clear b5 b0;go_wp2;go_returns;exact⟨rfl,HB.out⟩
theorem zfe{w:World}(a b c z pos:Int){la:Option Addr}{m lc:Nat}{na:Option Addr}{q nc:Nat}:
  Calls Tryz.prog 19 #[.agg #[.int .i64 23,.int .i64 a,.int .i64 b,.int .i64 c,.slice la m lc,.slice na q nc,.int .u64 z,.int .i64 pos]] w fun e w'=>e=.returned (.iface 137 (.agg #[.int .i64 a,.int .i64 b,.int .i64 c]))/\Below w.heap.size w w':=by
 have b0:Below w.heap.size w (w.alloc (.cells #[.int .i64 23,.int .i64 a,.int .i64 b,.int .i64 c,.slice la m lc,.slice na q nc,.int .u64 z,.int .i64 pos] 34)):=(yg9 _ _).alloc (yf9 _) _;go_enter Tryz.func19,Tryz.ntmps19;go_wp2_with fail;refine(zdO (w:=(w.alloc (.cells #[.int .i64 23,.int .i64 a,.int .i64 b,.int .i64 c,.slice la m lc,.slice na q nc,.int .u64 z,.int .i64 pos] 34))) a b c z pos ).mono ?_;rintro e w5 ⟨rfl,b5⟩;have HB:Hid (Below w.heap.size w w5):=b0.trans (b5.mono b0.size);clear b5 b0;go_wp2;go_returns;exact⟨rfl,HB.out⟩
theorem zff{w:World}(a b c z pos:Int){la:Option Addr}{m lc:Nat}{na:Option Addr}{q nc:Nat}:
  Calls Tryz.prog 19 #[.agg #[.int .i64 24,.int .i64 a,.int .i64 b,.int .i64 c,.slice la m lc,.slice na q nc,.int .u64 z,.int .i64 pos]] w fun e w'=>e=.returned (.iface 139 (.agg #[.int .i64 a,.int .i64 b]))/\Below w.heap.size w w':=by
 have b0:Below w.heap.size w (w.alloc (.cells #[.int .i64 24,.int .i64 a,.int .i64 b,.int .i64 c,.slice la m lc,.slice na q nc,.int .u64 z,.int .i64 pos] 34)):=(yg9 _ _).alloc (yf9 _) _;go_enter Tryz.func19,Tryz.ntmps19;go_wp2_with fail;refine(zdP (w:=(w.alloc (.cells #[.int .i64 24,.int .i64 a,.int .i64 b,.int .i64 c,.slice la m lc,.slice na q nc,.int .u64 z,.int .i64 pos] 34))) a b c z pos ).mono ?_;rintro e w5 ⟨rfl,b5⟩;have HB:Hid (Below w.heap.size w w5):=b0.trans (b5.mono b0.size);clear b5 b0;go_wp2;go_returns;exact⟨rfl,HB.out⟩
theorem zfg{w:World}(a b c z pos:Int){la:Option Addr}{m lc:Nat}{gl nc:Nat}{t:ByteArray}(ht:w.cell? ⟨gl,0,none⟩=some (.string t)):
  Calls Tryz.prog 19 #[.agg #[.int .i64 27,.int .i64 a,.int .i64 b,.int .i64 c,.slice la m lc,.slice (some ⟨gl,0,none⟩) 1 nc,.int .u64 z,.int .i64 pos]] w fun e w'=>e=.returned (.iface 134 (.agg #[.string t,.int .i64 a,.int .i64 b]))/\Below w.heap.size w w':=by
 have b0:Below w.heap.size w (w.alloc (.cells #[.int .i64 27,.int .i64 a,.int .i64 b,.int .i64 c,.slice la m lc,.slice (some ⟨gl,0,none⟩) 1 nc,.int .u64 z,.int .i64 pos] 34)):=(yg9 _ _).alloc (yf9 _) _;have cO:∀ W,Below w.heap.size w W->Calls Tryz.prog 38 #[.slice (some ⟨gl,0,none⟩) 1 nc] W fun e w'=>e=.returned (.string t)/\W=w':=fun W hW=>zdH ((hW.cell (p:=⟨gl,0,none⟩) (World.block_lt_of_cell? w _ ht)).trans ht);go_enter Tryz.func19,Tryz.ntmps19;go_wp2_with fail;refine(zdQ (w:=(w.alloc (.cells #[.int .i64 27,.int .i64 a,.int .i64 b,.int .i64 c,.slice la m lc,.slice (some ⟨gl,0,none⟩) 1 nc,.int .u64 z,.int .i64 pos] 34))) a b c z pos ((b0.cell (p:=⟨gl,0,none⟩) (World.block_lt_of_cell? w _ ht)).trans ht)).mono ?_;rintro e w5 ⟨rfl,b5⟩;have HB:Hid (Below w.heap.size w w5):=b0.trans (b5.mono b0.size);clear b5 b0;go_wp2;go_returns;exact⟨rfl,HB.out⟩
theorem zfh{w:World}(a b c z pos:Int){la:Option Addr}{m lc:Nat}{na:Option Addr}{q nc:Nat}:
  Calls Tryz.prog 19 #[.agg #[.int .i64 29,.int .i64 a,.int .i64 b,.int .i64 c,.slice la m lc,.slice na q nc,.int .u64 z,.int .i64 pos]] w fun e w'=>e=.returned (.iface 141 (.agg #[.slice la m lc]))/\Below w.heap.size w w':=by
 have b0:Below w.heap.size w (w.alloc (.cells #[.int .i64 29,.int .i64 a,.int .i64 b,.int .i64 c,.slice la m lc,.slice na q nc,.int .u64 z,.int .i64 pos] 34)):=(yg9 _ _).alloc (yf9 _) _;go_enter Tryz.func19,Tryz.ntmps19;go_wp2_with fail;refine(zdR (w:=(w.alloc (.cells #[.int .i64 29,.int .i64 a,.int .i64 b,.int .i64 c,.slice la m lc,.slice na q nc,.int .u64 z,.int .i64 pos] 34))) a b c z pos ).mono ?_;rintro e w5 ⟨rfl,b5⟩;have HB:Hid (Below w.heap.size w w5):=b0.trans (b5.mono b0.size);clear b5 b0;go_wp2;go_returns;exact⟨rfl,HB.out⟩
theorem zfi{w:World}(a b c z pos:Int){la na:Option Addr}{m lc q nc:Nat}:
  Calls Tryz.prog 19 #[.agg #[.int .i64 30,.int .i64 a,.int .i64 b,.int .i64 c,.slice la m lc,.slice na q nc,.int .u64 z,.int .i64 pos]] w fun e w'=>e=.returned .nilIface/\Below w.heap.size w w':=by
 go_enter Tryz.func19,Tryz.ntmps19;go_wp2;go_returns;exact⟨rfl,by go_grown⟩
theorem zfj{w:World}(K a b c z:Int){la na:Option Addr}{m lc q nc:Nat}(t:ByteArray):
  Calls Tryz.prog 138 #[.agg #[.int .u64 z]] w fun e w'=>e=.returned (.agg #[.int .i64 1,.int .i64 0,.int .i64 0,.int .i64 0,.slice none 0 0,.slice none 0 0,.int .u64 z,.int .i64 0])/\Below w.heap.size w w':=by
 go_enter Tryz.func138,Tryz.ntmps138;go_wp2;go_returns;exact⟨rfl,by go_grown⟩
theorem zfk{w:World}(K a b c z:Int){la na:Option Addr}{m lc q nc:Nat}(t:ByteArray):
  Calls Tryz.prog 140 #[.agg #[.string t]] w fun e w'=>∃ g,e=.returned (.agg #[.int .i64 2,.int .i64 0,.int .i64 0,.int .i64 0,.slice none 0 0,.slice (some ⟨g,0,none⟩) 1 1,.int .u64 0,.int .i64 0])/\w'.ownsRow w.heap.size 9 1 (.slice (some ⟨g,0,none⟩) 1 1) 1 [.string t]/\Below w.heap.size w w':=by
 go_enter Tryz.func140,Tryz.ntmps140;go_wp2;go_returns;refine⟨_,rfl,?_,by go_grown⟩
 exact⟨by simp,.inr ⟨_,1,#[.string t],rfl,by omega,(z8D w _ _ _).2.2.1,yf9 _,by unfold maxLen;omega,by simp,by simp⟩⟩
theorem zfl{w:World}(K a b c z:Int){la na:Option Addr}{m lc q nc:Nat}(t:ByteArray):
  Calls Tryz.prog 142 #[.agg #[.int .i64 K]] w fun e w'=>e=.returned (.agg #[.int .i64 K,.int .i64 0,.int .i64 0,.int .i64 0,.slice none 0 0,.slice none 0 0,.int .u64 0,.int .i64 0])/\Below w.heap.size w w':=by
 go_enter Tryz.func142,Tryz.ntmps142;go_wp2;go_returns;exact⟨rfl,by go_grown⟩
theorem zfm{w:World}(K a b c z:Int){la na:Option Addr}{m lc q nc:Nat}(t:ByteArray):
  Calls Tryz.prog 144 #[.agg #[.string t]] w fun e w'=>∃ g,e=.returned (.agg #[.int .i64 6,.int .i64 0,.int .i64 0,.int .i64 0,.slice none 0 0,.slice (some ⟨g,0,none⟩) 1 1,.int .u64 0,.int .i64 0])/\w'.ownsRow w.heap.size 9 1 (.slice (some ⟨g,0,none⟩) 1 1) 1 [.string t]/\Below w.heap.size w w':=by
 go_enter Tryz.func144,Tryz.ntmps144;go_wp2;go_returns;refine⟨_,rfl,?_,by go_grown⟩
 exact⟨by simp,.inr ⟨_,1,#[.string t],rfl,by omega,(z8D w _ _ _).2.2.1,yf9 _,by unfold maxLen;omega,by simp,by simp⟩⟩
theorem zfn{w:World}(K a b c z:Int){la na:Option Addr}{m lc q nc:Nat}(t:ByteArray):
  Calls Tryz.prog 146 #[.agg #[.int .i64 K,.int .i64 a]] w fun e w'=>e=.returned (.agg #[.int .i64 K,.int .i64 a,.int .i64 0,.int .i64 0,.slice none 0 0,.slice none 0 0,.int .u64 0,.int .i64 0])/\Below w.heap.size w w':=by
 go_enter Tryz.func146,Tryz.ntmps146;go_wp2;go_returns;exact⟨rfl,by go_grown⟩
theorem zfo{w:World}(K a b c z:Int){la na:Option Addr}{m lc q nc:Nat}(t:ByteArray):
  Calls Tryz.prog 148 #[.agg #[.int .i64 c,.int .i64 a,.int .i64 b]] w fun e w'=>e=.returned (.agg #[.int .i64 9,.int .i64 a,.int .i64 b,.int .i64 c,.slice none 0 0,.slice none 0 0,.int .u64 0,.int .i64 0])/\Below w.heap.size w w':=by
 go_enter Tryz.func148,Tryz.ntmps148;go_wp2;go_returns;exact⟨rfl,by go_grown⟩
theorem zfp{w:World}(K a b c z:Int){la na:Option Addr}{m lc q nc:Nat}(t:ByteArray):
  Calls Tryz.prog 150 #[.agg #[.int .i64 K,.int .i64 a,.int .i64 b]] w fun e w'=>e=.returned (.agg #[.int .i64 K,.int .i64 a,.int .i64 b,.int .i64 0,.slice none 0 0,.slice none 0 0,.int .u64 0,.int .i64 0])/\Below w.heap.size w w':=by
 go_enter Tryz.func150,Tryz.ntmps150;go_wp2;go_returns;exact⟨rfl,by go_grown⟩
theorem zfq{w:World}(K a b c z:Int){la na:Option Addr}{m lc q nc:Nat}(t:ByteArray):
  Calls Tryz.prog 152 #[.agg #[.int .i64 a,.slice la m lc]] w fun e w'=>e=.returned (.agg #[.int .i64 12,.int .i64 a,.int .i64 0,.int .i64 0,.slice la m lc,.slice none 0 0,.int .u64 0,.int .i64 0])/\Below w.heap.size w w':=by
 go_enter Tryz.func152,Tryz.ntmps152;go_wp2;go_returns;exact⟨rfl,by go_grown⟩
theorem zfr{w:World}(K a b c z:Int){la na:Option Addr}{m lc q nc:Nat}(t:ByteArray):
  Calls Tryz.prog 155 #[.agg #[.slice na q nc,.int .i64 a]] w fun e w'=>e=.returned (.agg #[.int .i64 13,.int .i64 a,.int .i64 0,.int .i64 0,.slice none 0 0,.slice na q nc,.int .u64 0,.int .i64 0])/\Below w.heap.size w w':=by
 go_enter Tryz.func155,Tryz.ntmps155;go_wp2;go_returns;exact⟨rfl,by go_grown⟩
theorem zfs{w:World}(K a b c z:Int){la na:Option Addr}{m lc q nc:Nat}(t:ByteArray):
  Calls Tryz.prog 158 #[.agg #[.string t,.int .i64 a,.int .i64 b]] w fun e w'=>∃ g,e=.returned (.agg #[.int .i64 20,.int .i64 a,.int .i64 b,.int .i64 0,.slice none 0 0,.slice (some ⟨g,0,none⟩) 1 1,.int .u64 0,.int .i64 0])/\w'.ownsRow w.heap.size 9 1 (.slice (some ⟨g,0,none⟩) 1 1) 1 [.string t]/\Below w.heap.size w w':=by
 go_enter Tryz.func158,Tryz.ntmps158;go_wp2;go_returns;refine⟨_,rfl,?_,by go_grown⟩
 exact⟨by simp,.inr ⟨_,1,#[.string t],rfl,by omega,(z8D w _ _ _).2.2.1,yf9 _,by unfold maxLen;omega,by simp,by simp⟩⟩
theorem zft{w:World}(K a b c z:Int){la na:Option Addr}{m lc q nc:Nat}(t:ByteArray):
  Calls Tryz.prog 160 #[.agg #[.string t,.int .i64 a]] w fun e w'=>∃ g,e=.returned (.agg #[.int .i64 21,.int .i64 a,.int .i64 0,.int .i64 0,.slice none 0 0,.slice (some ⟨g,0,none⟩) 1 1,.int .u64 0,.int .i64 0])/\w'.ownsRow w.heap.size 9 1 (.slice (some ⟨g,0,none⟩) 1 1) 1 [.string t]/\Below w.heap.size w w':=by
 go_enter Tryz.func160,Tryz.ntmps160;go_wp2;go_returns;refine⟨_,rfl,?_,by go_grown⟩
 exact⟨by simp,.inr ⟨_,1,#[.string t],rfl,by omega,(z8D w _ _ _).2.2.1,yf9 _,by unfold maxLen;omega,by simp,by simp⟩⟩
theorem zfu{w:World}(K a b c z:Int){la na:Option Addr}{m lc q nc:Nat}(t:ByteArray):
  Calls Tryz.prog 164 #[.agg #[.int .i64 K,.int .i64 a]] w fun e w'=>e=.returned (.agg #[.int .i64 K,.int .i64 a,.int .i64 0,.int .i64 0,.slice none 0 0,.slice none 0 0,.int .u64 0,.int .i64 0])/\Below w.heap.size w w':=by
 go_enter Tryz.func164,Tryz.ntmps164;go_wp2;go_returns;exact⟨rfl,by go_grown⟩
theorem zfv{w:World}(K a b c z:Int){la na:Option Addr}{m lc q nc:Nat}(t:ByteArray):
  Calls Tryz.prog 166 #[.agg #[.int .i64 a,.int .i64 b,.int .i64 c]] w fun e w'=>e=.returned (.agg #[.int .i64 23,.int .i64 a,.int .i64 b,.int .i64 c,.slice none 0 0,.slice none 0 0,.int .u64 0,.int .i64 0])/\Below w.heap.size w w':=by
 go_enter Tryz.func166,Tryz.ntmps166;go_wp2;go_returns;exact⟨rfl,by go_grown⟩
theorem zfw{w:World}(K a b c z:Int){la na:Option Addr}{m lc q nc:Nat}(t:ByteArray):
  Calls Tryz.prog 168 #[.agg #[.int .i64 a,.int .i64 b]] w fun e w'=>e=.returned (.agg #[.int .i64 24,.int .i64 a,.int .i64 b,.int .i64 0,.slice none 0 0,.slice none 0 0,.int .u64 0,.int .i64 0])/\Below w.heap.size w w':=by
 go_enter Tryz.func168,Tryz.ntmps168;go_wp2;go_returns;exact⟨rfl,by go_grown⟩
theorem zfx{w:World}(K a b c z:Int){la na:Option Addr}{m lc q nc:Nat}(t:ByteArray):
  Calls Tryz.prog 162 #[.agg #[.string t,.int .i64 a,.int .i64 b]] w fun e w'=>∃ g,e=.returned (.agg #[.int .i64 27,.int .i64 a,.int .i64 b,.int .i64 0,.slice none 0 0,.slice (some ⟨g,0,none⟩) 1 1,.int .u64 0,.int .i64 0])/\w'.ownsRow w.heap.size 9 1 (.slice (some ⟨g,0,none⟩) 1 1) 1 [.string t]/\Below w.heap.size w w':=by
 go_enter Tryz.func162,Tryz.ntmps162;go_wp2;go_returns;refine⟨_,rfl,?_,by go_grown⟩
 exact⟨by simp,.inr ⟨_,1,#[.string t],rfl,by omega,(z8D w _ _ _).2.2.1,yf9 _,by unfold maxLen;omega,by simp,by simp⟩⟩
theorem zfy{w:World}(K a b c z:Int){la na:Option Addr}{m lc q nc:Nat}(t:ByteArray):
  Calls Tryz.prog 170 #[.agg #[.slice la m lc]] w fun e w'=>e=.returned (.agg #[.int .i64 29,.int .i64 0,.int .i64 0,.int .i64 0,.slice la m lc,.slice none 0 0,.int .u64 0,.int .i64 0])/\Below w.heap.size w w':=by
 go_enter Tryz.func170,Tryz.ntmps170;go_wp2;go_returns;exact⟨rfl,by go_grown⟩
