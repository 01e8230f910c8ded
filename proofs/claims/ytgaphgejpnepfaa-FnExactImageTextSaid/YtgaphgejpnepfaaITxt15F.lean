/-
  The program's own funcText.
-/
import Derived.Test.YtgaphgejpnepfaaITxt15L
import Derived.Test.YtgaphgejpnepfaaITxt15M
namespace Go.Proofs.Ytgaphgejpnepfaa
open Go.RowKit Go.Sort
set_option linter.unusedVariables false

set_option maxHeartbeats 2000000 in
set_option maxRecDepth 100000 in
theorem iFuncText (p : PFun) (cv kv hv : Value) (w : World) (h2 : ArgFlat w cv 2 p.caps.length (p.caps.flatMap capC)) (h3 : ArgFlat w kv 3 p.code.length (p.code.flatMap insC)) (h4 : ArgFlat w hv 3 p.hnds.length (p.hnds.flatMap hndC)) (hp : funOk p = true) :
    Calls Try.prog 52 #[.agg #[.int .i64 p.params, .int .i64 p.regs, cv, kv, hv]] w fun e w' => e = .returned (.string (strOfNums (funT p))) ∧ Below w.heap.size w w' := by
  have hle := funOk_le hp
  obtain ⟨x, ex, tx⟩ := nat_of hle.params.1
  obtain ⟨y, ey, ty⟩ := nat_of hle.regs.1
  have q1 := hle.params
  have q2 := hle.regs
  have q3 := hle.caps
  have q4 := hle.code
  have q5 := hle.hnds
  have hT : strOfNums (funT p) = strOfNums (varB x ++ varB y) ++ strOfNums (varB p.caps.length ++ p.caps.flatMap capT) ++ strOfNums (varB p.code.length ++ p.code.flatMap insT) ++ strOfNums (varB p.hnds.length ++ p.hnds.flatMap hndT) := by
    unfold funT funHead
    rw [tx, ty]
    simp only [← strNums_append, List.append_assoc]
  rw [hT, ex, ey]
  have cC0 := fun W (hb : Below w.heap.size w W) => iListCap p.caps cv W (h2.below hb) hle.capsOk (by omega)
  have cK0 := fun W (hb : Below w.heap.size w W) => iListIns p.code kv W (h3.below hb) hle.codeOk (by omega)
  have cH0 := fun W (hb : Below w.heap.size w W) => iListHandler p.hnds hv W (h4.below hb) hle.hndsOk (by omega)
  have cV := varTexts2 x y (by omega) (by omega)
  have s1 : (strOfNums (varB x ++ varB y)).size ≤ 10 := by
    rw [strOfNums_size, List.length_append]
    have := varN_few (x := x) (by omega)
    have := varN_few (x := y) (by omega)
    omega
  have s2 : (strOfNums (varB p.caps.length ++ p.caps.flatMap capT)).size ≤ 200 := by
    rw [strOfNums_size, List.length_append]
    have := varN_few (x := p.caps.length) (by omega)
    have := flat_le capT 6 p.caps (fun q hq => capT_len (hle.capsOk q hq))
    omega
  have s3 : (strOfNums (varB p.code.length ++ p.code.flatMap insT)).size ≤ 3400 := by
    rw [strOfNums_size, List.length_append]
    have := varN_few (x := p.code.length) (by omega)
    have := flat_le insT 11 p.code (fun q hq => insT_len (hle.codeOk q hq))
    omega
  have s4 : (strOfNums (varB p.hnds.length ++ p.hnds.flatMap hndT)).size ≤ 700 := by
    rw [strOfNums_size, List.length_append]
    have := varN_few (x := p.hnds.length) (by omega)
    have := flat_le hndT 15 p.hnds (fun q hq => hndT_len (hle.hndsOk q hq))
    omega
  obtain ⟨T1, e1⟩ : ∃ T, strOfNums (varB x ++ varB y) = T := ⟨_, rfl⟩
  obtain ⟨T2, e2⟩ : ∃ T, strOfNums (varB p.caps.length ++ p.caps.flatMap capT) = T := ⟨_, rfl⟩
  obtain ⟨T3, e3⟩ : ∃ T, strOfNums (varB p.code.length ++ p.code.flatMap insT) = T := ⟨_, rfl⟩
  obtain ⟨T4, e4⟩ : ∃ T, strOfNums (varB p.hnds.length ++ p.hnds.flatMap hndT) = T := ⟨_, rfl⟩
  simp only [e1] at cV s1 ⊢
  simp only [e2] at cC0 s2 ⊢
  simp only [e3] at cK0 s3 ⊢
  simp only [e4] at cH0 s4 ⊢
  obtain ⟨x2, c2, rfl, m2, _⟩ := h2
  obtain ⟨x3, c3, rfl, m3, _⟩ := h3
  obtain ⟨x4, c4, rfl, m4, _⟩ := h4
  obtain ⟨n2, f2⟩ : ∃ n, p.caps.length = n := ⟨_, rfl⟩
  obtain ⟨n3, f3⟩ : ∃ n, p.code.length = n := ⟨_, rfl⟩
  obtain ⟨n4, f4⟩ : ∃ n, p.hnds.length = n := ⟨_, rfl⟩
  simp only [f2] at cC0 ⊢
  simp only [f3] at cK0 ⊢
  simp only [f4] at cH0 ⊢
  clear hT tx ty ex ey hle hp e1 e2 e3 e4 f2 f3 f4 m2 m3 m4 q1 q2 q3 q4 q5
  have nr := fun W : World => numRow_new W [x, y] #[.int .i64 (x : Int), .int .i64 (y : Int)] rfl
  have nrd := fun W : World => (show NumRow (W.alloc (.cells #[.int .i64 (x : Int), .int .i64 (y : Int)] 3)).drew W.heap.size [x, y] from nr W)
  have b0 : Below w.heap.size w (w.alloc (.cells #[.int .i64 (x : Int), .int .i64 (y : Int), .slice x2 n2 c2, .slice x3 n3 c3, .slice x4 n4 c4] 78)) := (Below.refl _ _).alloc (Nat.le_refl _) _
  have HK0 : ∀ W, Below (w.alloc (.cells #[.int .i64 (x : Int), .int .i64 (y : Int), .slice x2 n2 c2, .slice x3 n3 c3, .slice x4 n4 c4] 78)).heap.size (w.alloc (.cells #[.int .i64 (x : Int), .int .i64 (y : Int), .slice x2 n2 c2, .slice x3 n3 c3, .slice x4 n4 c4] 78)) W → W.cell? ⟨w.heap.size, 0, none⟩ = some (.int .i64 (x : Int)) ∧ W.cell? ⟨w.heap.size, 1, none⟩ = some (.int .i64 (y : Int)) ∧ W.cell? ⟨w.heap.size, 2, none⟩ = some (.slice x2 n2 c2) ∧ W.cell? ⟨w.heap.size, 3, none⟩ = some (.slice x3 n3 c3) ∧ W.cell? ⟨w.heap.size, 4, none⟩ = some (.slice x4 n4 c4) := fun W hW => ⟨new_cell hW 0 _ rfl, new_cell hW 1 _ rfl, new_cell hW 2 _ rfl, new_cell hW 3 _ rfl, new_cell hW 4 _ rfl⟩
  have cC := fun W (h : Below (w.alloc (.cells #[.int .i64 (x : Int), .int .i64 (y : Int), .slice x2 n2 c2, .slice x3 n3 c3, .slice x4 n4 c4] 78)).heap.size (w.alloc (.cells #[.int .i64 (x : Int), .int .i64 (y : Int), .slice x2 n2 c2, .slice x3 n3 c3, .slice x4 n4 c4] 78)) W) => cC0 W (chain b0 h)
  have cK := fun W (h : Below (w.alloc (.cells #[.int .i64 (x : Int), .int .i64 (y : Int), .slice x2 n2 c2, .slice x3 n3 c3, .slice x4 n4 c4] 78)).heap.size (w.alloc (.cells #[.int .i64 (x : Int), .int .i64 (y : Int), .slice x2 n2 c2, .slice x3 n3 c3, .slice x4 n4 c4] 78)) W) => cK0 W (chain b0 h)
  have cH := fun W (h : Below (w.alloc (.cells #[.int .i64 (x : Int), .int .i64 (y : Int), .slice x2 n2 c2, .slice x3 n3 c3, .slice x4 n4 c4] 78)).heap.size (w.alloc (.cells #[.int .i64 (x : Int), .int .i64 (y : Int), .slice x2 n2 c2, .slice x3 n3 c3, .slice x4 n4 c4] 78)) W) => cH0 W (chain b0 h)
  clear cC0 cK0 cH0
  obtain ⟨X, hX⟩ : ∃ X, w.heap.size = X := ⟨_, rfl⟩
  obtain ⟨W0, hW0⟩ : ∃ W, (w.alloc (.cells #[.int .i64 (x : Int), .int .i64 (y : Int), .slice x2 n2 c2, .slice x3 n3 c3, .slice x4 n4 c4] 78)) = W := ⟨_, rfl⟩
  simp only [hW0] at b0 cC cK cH
  have b1 : ∀ V, Below W0.heap.size W0 V → Below X w V := fun V h => by rw [← hX]; exact chain b0 h
  have b2 : ∀ V, Below W0.heap.size W0 V → Below w.heap.size w V := fun V h => chain b0 h
  simp only [hW0, hX] at HK0
  have HK : Hid _ := HK0
  clear HK0 b0
  have bN : ∀ (W : World) cs t, Below W.heap.size W (W.alloc (.cells cs t)) := fun W cs t => (Below.refl _ _).alloc (Nat.le_refl _) _
  have hA : ∀ {W V}, Below W0.heap.size W0 W → Below W.heap.size W V → Hid (Below W0.heap.size W0 V) := fun h k => chain h k
  go_enter Try.func52, Try.ntmps52
  go_upto_region 1 with fail
  try simp only [hW0, hX]
  clear hW0 hX
  go_region_held_law (fun W => W.cell? ⟨X, 0, none⟩ = some (.int .i64 (x : Int)) ∧ W.cell? ⟨X, 1, none⟩ = some (.int .i64 (y : Int)) ∧ W.cell? ⟨X, 2, none⟩ = some (.slice x2 n2 c2) ∧ W.cell? ⟨X, 3, none⟩ = some (.slice x3 n3 c3) ∧ W.cell? ⟨X, 4, none⟩ = some (.slice x4 n4 c4))
    (exact HK.out _ (by first | with_reducible exact Below.refl _ _ | with_reducible exact (Below.refl _ _).drew | with_reducible exact HB4.out | with_reducible exact RowKit.Below.drew HB4.out | with_reducible exact HB3.out | with_reducible exact RowKit.Below.drew HB3.out | with_reducible exact HB2.out | with_reducible exact RowKit.Below.drew HB2.out | with_reducible exact HB1.out | with_reducible exact RowKit.Below.drew HB1.out | with_reducible exact bN _ _ _ | with_reducible exact RowKit.Below.drew (bN _ _ _)))
    (first
      | (go_at_call 106; (with_reducible refine (cV _ _ _ (by first | with_reducible exact nr _ | with_reducible exact nrd _)).mono ?_); rintro e w1 ⟨rfl, hb1⟩; have HB1 := hA (by first | with_reducible exact bN _ _ _ | with_reducible exact RowKit.Below.drew (bN _ _ _)) hb1)
      | (go_at_call 111; (with_reducible refine (cC _ (by first | with_reducible exact HB1.out | with_reducible exact RowKit.Below.drew HB1.out)).mono ?_); rintro e w2 ⟨rfl, hb2⟩; have HB2 := hA (by first | with_reducible exact HB1.out | with_reducible exact RowKit.Below.drew HB1.out) hb2)
      | (go_at_call 113; (with_reducible refine (cK _ (by first | with_reducible exact HB2.out | with_reducible exact RowKit.Below.drew HB2.out)).mono ?_); rintro e w3 ⟨rfl, hb3⟩; have HB3 := hA (by first | with_reducible exact HB2.out | with_reducible exact RowKit.Below.drew HB2.out) hb3)
      | (go_at_call 115; (with_reducible refine (cH _ (by first | with_reducible exact HB3.out | with_reducible exact RowKit.Below.drew HB3.out)).mono ?_); rintro e w4 ⟨rfl, hb4⟩; have HB4 := hA (by first | with_reducible exact HB3.out | with_reducible exact RowKit.Below.drew HB3.out) hb4))
  all_goals
    go_wp2
    go_ret
    exact ⟨rfl, by first | exact b1 _ HB4.out | exact b1 _ (RowKit.Below.drew HB4.out) | exact b2 _ HB4.out | exact b2 _ (RowKit.Below.drew HB4.out)⟩

end Go.Proofs.Ytgaphgejpnepfaa
