/-
  The program's own handlerText, capText, insText, constText.
-/
import Derived.Test.YtgaphgejpnepfaaITxt15A
import Derived.Test.YtgaphgejpnepfaaITxt15N
import Derived.Test.YtgaphgejpnepfaaShort
import Derived.Deep.RegionHeld3
import Derived.Deep.RegionHeldLaw
namespace Go.Proofs.Ytgaphgejpnepfaa
open Go.RowKit
set_option linter.unusedVariables false

/-- whole numbers lie one behind the other in block b -/
def NumRow (W : World) (b : Nat) (l : List Nat) : Prop := b < W.heap.size ∧ ∀ (j x : Nat), l[j]? = some x → W.cell? ⟨b, j, none⟩ = some (.int .i64 (x : Int))

theorem NumRow.below {W V : World} {b : Nat} {l : List Nat} (h : NumRow W b l) (hb : Below W.heap.size W V) : NumRow V b l :=
  ⟨Nat.lt_of_lt_of_le h.1 hb.size, fun j x hj => (hb.cell (p := ⟨b, j, none⟩) h.1).trans (h.2 j x hj)⟩

theorem numRow_new (W : World) (l : List Nat) (cs : Array Value) (e : cs.toList = l.map (fun (x : Nat) => Value.int .i64 (x : Int))) : NumRow (W.alloc (.cells cs 3)) W.heap.size l := by
  refine ⟨by simp, fun j x hj => ?_⟩
  rw [cell_of_row _ _ j _ _ _ (heap_alloc_new W (.cells cs 3))]
  rw [← Array.getElem?_toList, e, List.getElem?_map, hj]
  rfl

theorem varTexts1 (x : Nat) (hx : x ≤ 1000000000) (W : World) (b c : Nat) (h : NumRow W b [x]) :
    Calls Try.prog 106 #[.slice (some ⟨b, 0, none⟩) 1 c] W fun e w' => e = .returned (.string (strOfNums (varB x))) ∧ Below W.heap.size W w' := by
  have := iVarTexts [x] b c W (by simpa using hx) (by simp) h.1 h.2
  simpa using this

theorem varTexts2 (x y : Nat) (hx : x ≤ 1000000000) (hy : y ≤ 1000000000) (W : World) (b c : Nat) (h : NumRow W b [x, y]) :
    Calls Try.prog 106 #[.slice (some ⟨b, 0, none⟩) 2 c] W fun e w' => e = .returned (.string (strOfNums (varB x ++ varB y))) ∧ Below W.heap.size W w' := by
  have := iVarTexts [x, y] b c W (by simp; omega) (by simp) h.1 h.2
  simpa using this

theorem varTexts3 (x y z : Nat) (hx : x ≤ 1000000000) (hy : y ≤ 1000000000) (hz : z ≤ 1000000000) (W : World) (b c : Nat) (h : NumRow W b [x, y, z]) :
    Calls Try.prog 106 #[.slice (some ⟨b, 0, none⟩) 3 c] W fun e w' => e = .returned (.string (strOfNums (varB x ++ varB y ++ varB z))) ∧ Below W.heap.size W w' := by
  have := iVarTexts [x, y, z] b c W (by simp; omega) (by simp) h.1 h.2
  simpa [List.append_assoc] using this

theorem nat_of {x : Int} (h : 0 ≤ x) : ∃ n : Nat, x = (n : Int) ∧ x.toNat = n := ⟨x.toNat, by omega, rfl⟩

set_option maxHeartbeats 1000000 in
set_option maxRecDepth 100000 in
theorem iHandlerText (p : PHnd) (w : World) (hp : hndOk p = true) :
    Calls Try.prog 116 #[.agg #[.int .i64 p.lo, .int .i64 p.hi, .int .i64 p.target]] w fun e w' => e = .returned (.string (strOfNums (hndT p))) ∧ Below w.heap.size w w' := by
  have hle := hndOk_le hp
  obtain ⟨x, ex, tx⟩ := nat_of hle.1.1
  obtain ⟨y, ey, ty⟩ := nat_of hle.2.1.1
  obtain ⟨z, ez, tz⟩ := nat_of hle.2.2.1
  have hT : hndT p = varB x ++ varB y ++ varB z := by unfold hndT; rw [tx, ty, tz]
  rw [hT, ex, ey, ez]
  have hx : x ≤ 1000000000 := by omega
  have hy : y ≤ 1000000000 := by omega
  have hz : z ≤ 1000000000 := by omega
  clear hT tx ty tz ex ey ez hle hp
  have nr := fun W : World => numRow_new W [x, y, z] #[.int .i64 (x : Int), .int .i64 (y : Int), .int .i64 (z : Int)] rfl
  have cV := varTexts3 x y z hx hy hz
  obtain ⟨T, hT⟩ : ∃ T, strOfNums (varB x ++ varB y ++ varB z) = T := ⟨_, rfl⟩
  simp only [hT] at cV
  rw [hT]
  clear hT hx hy hz
  have b0 : ∀ (W : World) cs t, Below W.heap.size W (W.alloc (.cells cs t)) := fun W cs t => (Below.refl _ _).alloc (Nat.le_refl _) _
  have nr' : NumRow ((w.alloc (.cells #[.int .i64 (x : Int), .int .i64 (y : Int), .int .i64 (z : Int)] 85)).alloc (.cells #[.int .i64 (x : Int), .int .i64 (y : Int), .int .i64 (z : Int)] 3)) (w.heap.size + 1) [x, y, z] := by
    have := nr (w.alloc (.cells #[.int .i64 (x : Int), .int .i64 (y : Int), .int .i64 (z : Int)] 85))
    simpa using this
  go_enter Try.func116, Try.ntmps116
  go_wp2_with (go_at_call 106; with_reducible refine (cV _ _ _ (by first | with_reducible exact nr' | with_reducible exact nr _ | exact nr')).mono ?_; rintro e w1 ⟨rfl, hb1⟩)
  go_ret
  exact ⟨rfl, chain (chain (b0 _ _ _) (b0 _ _ _)) hb1⟩

set_option maxHeartbeats 1000000 in
set_option maxRecDepth 100000 in
theorem iInsText (p : PIns) (w : World) (hp : insOk p = true) :
    Calls Try.prog 114 #[.agg #[.int .i64 p.op, .int .i64 p.a, .int .i64 p.b]] w fun e w' => e = .returned (.string (strOfNums (insT p))) ∧ Below w.heap.size w w' := by
  have hle := insOk_le hp
  obtain ⟨x, ex, tx⟩ := nat_of hle.2.1.1
  obtain ⟨y, ey, ty⟩ := nat_of hle.2.2.1
  have hT : strOfNums (insT p) = strOfNums [p.op] ++ strOfNums (varB x ++ varB y) := by unfold insT; rw [tx, ty, ← strNums_append]; rfl
  rw [hT, ex, ey]
  have hx : x ≤ 1000000000 := by omega
  have hy : y ≤ 1000000000 := by omega
  have cB := fun W => iByteText p.op W (by omega) (by omega)
  obtain ⟨op, eo⟩ : ∃ op, p.op = op := ⟨_, rfl⟩
  simp only [eo] at cB ⊢
  have nr := fun W : World => numRow_new W [x, y] #[.int .i64 (x : Int), .int .i64 (y : Int)] rfl
  have nrd := fun W : World => (show NumRow (W.alloc (.cells #[.int .i64 (x : Int), .int .i64 (y : Int)] 3)).drew W.heap.size [x, y] from nr W)
  have cV := varTexts2 x y hx hy
  have s2 : (strOfNums (varB x ++ varB y)).size ≤ 10 := by
    rw [strOfNums_size, List.length_append]
    have := varN_few hx
    have := varN_few hy
    omega
  have s1 : (strOfNums [op]).size = 1 := by rw [strOfNums_size]; rfl
  obtain ⟨T, eT⟩ : ∃ T, strOfNums (varB x ++ varB y) = T := ⟨_, rfl⟩
  obtain ⟨U, eU⟩ : ∃ U, strOfNums [op] = U := ⟨_, rfl⟩
  simp only [eT] at cV s2 ⊢
  simp only [eU] at cB s1 ⊢
  clear hT tx ty ex ey eo hle hp eT eU hx hy
  have b0 : Below w.heap.size w (w.alloc (.cells #[.int .i64 op, .int .i64 (x : Int), .int .i64 (y : Int)] 83)) := (Below.refl _ _).alloc (Nat.le_refl _) _
  have HK0 : ∀ W, Below (w.alloc (.cells #[.int .i64 op, .int .i64 (x : Int), .int .i64 (y : Int)] 83)).heap.size (w.alloc (.cells #[.int .i64 op, .int .i64 (x : Int), .int .i64 (y : Int)] 83)) W → W.cell? ⟨w.heap.size, 0, none⟩ = some (.int .i64 op) ∧ W.cell? ⟨w.heap.size, 1, none⟩ = some (.int .i64 (x : Int)) ∧ W.cell? ⟨w.heap.size, 2, none⟩ = some (.int .i64 (y : Int)) := fun W hW => ⟨new_cell hW 0 _ rfl, new_cell hW 1 _ rfl, new_cell hW 2 _ rfl⟩
  obtain ⟨X, hX⟩ : ∃ X, w.heap.size = X := ⟨_, rfl⟩
  obtain ⟨W0, hW0⟩ : ∃ W, (w.alloc (.cells #[.int .i64 op, .int .i64 (x : Int), .int .i64 (y : Int)] 83)) = W := ⟨_, rfl⟩
  simp only [hW0] at b0
  have b1 : ∀ V, Below W0.heap.size W0 V → Below X w V := fun V h => by rw [← hX]; exact chain b0 h
  have b2 : ∀ V, Below W0.heap.size W0 V → Below w.heap.size w V := fun V h => chain b0 h
  simp only [hW0, hX] at HK0
  clear b0
  have HK : Hid _ := HK0
  clear HK0
  have bN : ∀ (W : World) cs t, Below W.heap.size W (W.alloc (.cells cs t)) := fun W cs t => (Below.refl _ _).alloc (Nat.le_refl _) _
  have hA : ∀ {W V}, Below W0.heap.size W0 W → Below W.heap.size W V → Hid (Below W0.heap.size W0 V) := fun h k => chain h k
  have hR : ∀ {W V b}, NumRow W b [x, y] → Below W.heap.size W V → Hid (NumRow V b [x, y]) := fun h k => h.below k
  go_enter Try.func114, Try.ntmps114
  go_upto_region 1 with fail
  try simp only [hW0, hX]
  clear hW0 hX
  go_region_held_law (fun W => W.cell? ⟨X, 0, none⟩ = some (.int .i64 op) ∧ W.cell? ⟨X, 1, none⟩ = some (.int .i64 (x : Int)) ∧ W.cell? ⟨X, 2, none⟩ = some (.int .i64 (y : Int)))
    (exact HK.out _ (by first | with_reducible exact Below.refl _ _ | with_reducible exact (Below.refl _ _).drew | with_reducible exact HB2.out | with_reducible exact RowKit.Below.drew HB2.out | with_reducible exact HB1.out | with_reducible exact RowKit.Below.drew HB1.out | with_reducible exact bN _ _ _ | with_reducible exact RowKit.Below.drew (bN _ _ _) | with_reducible exact chain HB1.out (bN _ _ _) | with_reducible exact chain HB1.out (RowKit.Below.drew (bN _ _ _))))
    (first
      | (go_at_call 108; (with_reducible refine (cB _).mono ?_); rintro e w1 ⟨rfl, hb1⟩; have HB1 := hA (by first | with_reducible exact Below.refl _ _ | with_reducible exact (Below.refl _ _).drew | with_reducible exact bN _ _ _ | with_reducible exact RowKit.Below.drew (bN _ _ _)) hb1; (first | have HR := hR (nr W0) hb1 | have HR := hR (nrd W0) hb1 | skip))
      | (go_at_call 106; (with_reducible refine (cV _ _ _ (by first | with_reducible exact HR.out | exact HR.out | with_reducible exact nr _ | with_reducible exact nrd _)).mono ?_); rintro e w2 ⟨rfl, hb2⟩; have HB2 := hA (by first | with_reducible exact HB1.out | with_reducible exact RowKit.Below.drew HB1.out | with_reducible exact chain HB1.out (bN _ _ _) | with_reducible exact chain HB1.out (RowKit.Below.drew (bN _ _ _))) hb2))
  all_goals
    go_wp2
    go_ret
    exact ⟨rfl, by first | exact b1 _ HB2.out | exact b1 _ (RowKit.Below.drew HB2.out) | exact b2 _ HB2.out | exact b2 _ (RowKit.Below.drew HB2.out)⟩

end Go.Proofs.Ytgaphgejpnepfaa
