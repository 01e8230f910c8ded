/-
  The walk of the program's sameNode.
-/
import Derived.Test.YtggjeepbgpfcpaaSame9
import Derived.Test.YtggjeepbgpfcpaaShelf
namespace Go.Proofs.Ytggjeepbgpfcpaa
open Go.RowKit Go.Sort
set_option linter.unusedVariables false

theorem eqInts_says (B B' : Nat) (a b : Value) (l m : List Int) (w : World) (ha : w.ownsRow B 3 1 a l.length (l.map (Value.int .i64))) (hb : w.ownsRow B' 3 1 b m.length (m.map (Value.int .i64))) :
    Calls Try.prog 43 #[a, b] w fun e w' => ∃ r : Bool, e = .returned (.bool r) ∧ Says r (l = m) ∧ Below w.heap.size w w' := by
  obtain ⟨xa, ca, rfl, hm1, oa⟩ := ints_row ha
  obtain ⟨xb, cb, rfl, hm2, ob⟩ := ints_row hb
  unfold maxLen at hm1 hm2
  by_cases hl : l.length = m.length
  · by_cases h0 : l.length = 0
    · have e1 : l = [] := List.eq_nil_of_length_eq_zero h0
      have e2 : m = [] := List.eq_nil_of_length_eq_zero (by omega)
      subst e1 e2
      refine (Try.slices_Equal_int_empty xa xb ca 0 cb w (by omega)).mono ?_
      rintro e w' ⟨rfl, rfl⟩
      exact ⟨true, rfl, says_yes rfl, Below.refl _ _⟩
    · obtain ⟨g1, rfl, _, c1⟩ := oa (by omega)
      obtain ⟨g2, rfl, _, c2⟩ := ob (by omega)
      refine (Try.slices_Equal_int g1 0 l.length ca g2 0 m.length cb l m w (Nat.le_refl _) (Nat.le_refl _) (by omega) (by omega) (fun j hj => by rw [Nat.zero_add]; exact c1 j hj) (fun j hj => by rw [Nat.zero_add]; exact c2 j hj)).mono ?_
      rintro e w' ⟨rfl, q, rfl⟩
      refine ⟨_, rfl, ?_, below_drewN (Below.refl _ _) _⟩
      unfold Says
      rw [List.take_length, List.take_length]
      exact beq_iff_eq
  · refine (Try.slices_Equal_int_lens xa xb l.length ca m.length cb w hl).mono ?_
    rintro e w' ⟨rfl, rfl⟩
    exact ⟨false, rfl, says_no fun h => hl (congrArg List.length h), Below.refl _ _⟩
theorem eqStrs_says (B B' : Nat) (a b : Value) (l m : List ByteArray) (w : World) (ha : w.ownsRow B 9 1 a l.length (l.map Value.string)) (hb : w.ownsRow B' 9 1 b m.length (m.map Value.string)) :
    Calls Try.prog 44 #[a, b] w fun e w' => ∃ r : Bool, e = .returned (.bool r) ∧ Says r (l = m) ∧ Below w.heap.size w w' := by
  obtain ⟨xa, ca, rfl, hm1, oa⟩ := strs_row ha
  obtain ⟨xb, cb, rfl, hm2, ob⟩ := strs_row hb
  unfold maxLen at hm1 hm2
  by_cases hl : l.length = m.length
  · by_cases h0 : l.length = 0
    · have e1 : l = [] := List.eq_nil_of_length_eq_zero h0
      have e2 : m = [] := List.eq_nil_of_length_eq_zero (by omega)
      subst e1 e2
      refine (Try.slices_Equal_string_empty xa xb ca 0 cb w (by omega)).mono ?_
      rintro e w' ⟨rfl, rfl⟩
      exact ⟨true, rfl, says_yes rfl, Below.refl _ _⟩
    · obtain ⟨g1, rfl, _, c1⟩ := oa (by omega)
      obtain ⟨g2, rfl, _, c2⟩ := ob (by omega)
      refine (Try.slices_Equal_string g1 0 l.length ca g2 0 m.length cb l m w (Nat.le_refl _) (Nat.le_refl _) (by omega) (by omega) (fun j hj => by rw [Nat.zero_add]; exact c1 j hj) (fun j hj => by rw [Nat.zero_add]; exact c2 j hj)).mono ?_
      rintro e w' ⟨rfl, q, rfl⟩
      refine ⟨_, rfl, ?_, below_drewN (Below.refl _ _) _⟩
      unfold Says
      rw [List.take_length, List.take_length]
      exact decide_eq_true_iff
  · refine (Try.slices_Equal_string_lens xa xb l.length ca m.length cb w hl).mono ?_
    rintro e w' ⟨rfl, rfl⟩
    exact ⟨false, rfl, says_no fun h => hl (congrArg List.length h), Below.refl _ _⟩

set_option maxHeartbeats 4000000 in
set_option maxRecDepth 100000 in
theorem sameNode_any (B B' : Nat) (x y : PNode) (l1 n1 l2 n2 : Value) (w : World) (ha1 : w.ownsRow B 3 1 l1 x.list.length (x.list.map (Value.int .i64))) (ha2 : w.ownsRow B 9 1 n1 x.names.length (x.names.map Value.string))
    (hb1 : w.ownsRow B' 3 1 l2 y.list.length (y.list.map (Value.int .i64))) (hb2 : w.ownsRow B' 9 1 n2 y.names.length (y.names.map Value.string)) :
    Calls Try.prog 25 #[.agg #[.int .i64 x.kind, .int .i64 x.a, .int .i64 x.b, .int .i64 x.c, l1, n1, .int .u64 (x.num : Int), .int .i64 x.pos], .agg #[.int .i64 y.kind, .int .i64 y.a, .int .i64 y.b, .int .i64 y.c, l2, n2, .int .u64 (y.num : Int), .int .i64 y.pos]] w fun e w' => ∃ r : Bool, e = .returned (.bool r) ∧ Says r (SameAt x y) ∧ Below w.heap.size w w' := by
  obtain ⟨k1, a1, b1, c1, L1, M1, u1, p1⟩ := x
  obtain ⟨k2, a2, b2, c2, L2, M2, u2, p2⟩ := y
  simp only at ha1 ha2 hb1 hb2 ⊢
  have T := two_new w (.cells #[.int .i64 k1, .int .i64 a1, .int .i64 b1, .int .i64 c1, l1, n1, .int .u64 (u1 : Int), .int .i64 p1] 38) (.cells #[.int .i64 k2, .int .i64 a2, .int .i64 b2, .int .i64 c2, l2, n2, .int .u64 (u2 : Int), .int .i64 p2] 38)
  obtain ⟨W2, hW2⟩ : ∃ W, ((w.alloc (.cells #[.int .i64 k1, .int .i64 a1, .int .i64 b1, .int .i64 c1, l1, n1, .int .u64 (u1 : Int), .int .i64 p1] 38)).alloc (.cells #[.int .i64 k2, .int .i64 a2, .int .i64 b2, .int .i64 c2, l2, n2, .int .u64 (u2 : Int), .int .i64 p2] 38)) = W := ⟨_, rfl⟩
  rw [hW2] at T
  obtain ⟨q0, q1, tz, tb⟩ := T
  have cI := fun W (hb : Below w.heap.size w W) => eqInts_says B B' l1 l2 L1 L2 W (own_keep ha1 hb) (own_keep hb1 hb)
  have cS := fun W (hb : Below w.heap.size w W) => eqStrs_says B B' n1 n2 M1 M2 W (own_keep ha2 hb) (own_keep hb2 hb)
  clear ha1 ha2 hb1 hb2
  obtain ⟨S, hS⟩ : ∃ S : Prop, SameAt ⟨k1, a1, b1, c1, L1, M1, u1, p1⟩ ⟨k2, a2, b2, c2, L2, M2, u2, p2⟩ = S := ⟨_, rfl⟩
  have HS : Hid (S = (k1 = k2 ∧ a1 = a2 ∧ b1 = b2 ∧ c1 = c2 ∧ u1 = u2 ∧ L1 = L2 ∧ M1 = M2)) := hS.symm
  rw [hS]
  clear hS
  obtain ⟨G, hG⟩ : ∃ G, w.heap.size = G := ⟨_, rfl⟩
  rw [hG] at q0 q1 tz
  obtain ⟨f0, f1, f2, f3, f4, f5, f6, f7⟩ := cells_eight q0
  obtain ⟨g0, g1, g2, g3, g4, g5, g6, g7⟩ := cells_eight q1
  have HC1 : Hid (W2.heap[G]? = some (.cells #[.int .i64 k1, .int .i64 a1, .int .i64 b1, .int .i64 c1, l1, n1, .int .u64 (u1 : Int), .int .i64 p1] 38)) := q0
  have HC2 : Hid (W2.heap[G + 1]? = some (.cells #[.int .i64 k2, .int .i64 a2, .int .i64 b2, .int .i64 c2, l2, n2, .int .u64 (u2 : Int), .int .i64 p2] 38)) := q1
  clear q0 q1
  go_enter Try.func25, Try.ntmps25
  go_upto_region 1 with fail
  try simp only [hW2, hG]
  clear hW2
  by_cases h0 : ¬ k1 = k2
  · have hne : ((k1 : Int) == (k2 : Int)) = false := by rw [beq_eq_false_iff_ne]; omega
    have HN2 : Hid (¬ S) := fun k => by rw [HS.out] at k; exact h0 k.1
    clear HS HC1 HC2 cI cS h0
    go_wp2
    go_ret
    exact ⟨_, rfl, says_no HN2.out, tb⟩
  rw [Decidable.not_not] at h0
  subst h0
  by_cases h1 : ¬ a1 = a2
  · have hne : ((a1 : Int) == (a2 : Int)) = false := by rw [beq_eq_false_iff_ne]; omega
    have HN2 : Hid (¬ S) := fun k => by rw [HS.out] at k; exact h1 k.2.1
    clear HS HC1 HC2 cI cS h1
    go_wp2
    go_ret
    exact ⟨_, rfl, says_no HN2.out, tb⟩
  rw [Decidable.not_not] at h1
  subst h1
  by_cases h2 : ¬ b1 = b2
  · have hne : ((b1 : Int) == (b2 : Int)) = false := by rw [beq_eq_false_iff_ne]; omega
    have HN2 : Hid (¬ S) := fun k => by rw [HS.out] at k; exact h2 k.2.2.1
    clear HS HC1 HC2 cI cS h2
    go_wp2
    go_ret
    exact ⟨_, rfl, says_no HN2.out, tb⟩
  rw [Decidable.not_not] at h2
  subst h2
  by_cases h3 : ¬ c1 = c2
  · have hne : ((c1 : Int) == (c2 : Int)) = false := by rw [beq_eq_false_iff_ne]; omega
    have HN2 : Hid (¬ S) := fun k => by rw [HS.out] at k; exact h3 k.2.2.2.1
    clear HS HC1 HC2 cI cS h3
    go_wp2
    go_ret
    exact ⟨_, rfl, says_no HN2.out, tb⟩
  rw [Decidable.not_not] at h3
  subst h3
  by_cases h4 : ¬ u1 = u2
  · have hne : ((u1 : Int) == (u2 : Int)) = false := by rw [beq_eq_false_iff_ne]; omega
    have HN2 : Hid (¬ S) := fun k => by rw [HS.out] at k; exact h4 k.2.2.2.2.1
    clear HS HC1 HC2 cI cS h4
    go_wp2
    go_ret
    exact ⟨_, rfl, says_no HN2.out, tb⟩
  rw [Decidable.not_not] at h4
  subst h4
  go_wp2_with fail
  refine (cI W2 tb).mono ?_
  rintro e w3 ⟨r1, rfl, hr1, b3⟩
  obtain ⟨i0, i1, i2, i3, i4, i5, i6, i7⟩ := cells_eight ((b3.block G (by omega)).trans HC1.out)
  obtain ⟨j0, j1, j2, j3, j4, j5, j6, j7⟩ := cells_eight ((b3.block (G + 1) (by omega)).trans HC2.out)
  have tb3 := tb.trans (b3.mono (by omega))
  have HR1 : Hid (Says r1 (L1 = L2)) := hr1
  clear f0 f1 f2 f3 f4 f5 f6 f7 g0 g1 g2 g3 g4 g5 g6 g7 cI hr1 HC1 HC2
  cases r1
  · have HN2 : Hid (¬ S) := fun k => by
      rw [HS.out] at k
      have := HR1.out.2 k.2.2.2.2.2.1
      cases this
    clear HS HR1 cS
    go_wp2
    go_ret
    exact ⟨_, rfl, says_no HN2.out, tb3⟩
  · go_wp2_with fail
    refine (cS w3 tb3).mono ?_
    rintro e w4 ⟨r2, rfl, hr2, b4⟩
    have tb4 := tb3.trans (b4.mono (by have := tb3.size; omega))
    have HR2 : Hid (Says r2 S) := by
      rw [HS.out]
      unfold Says at hr2 ⊢
      have e := HR1.out.1 rfl
      rw [hr2]
      exact ⟨fun h => by refine ⟨?_, ?_, ?_, ?_, ?_, e, h⟩ <;> first | trivial | rfl, fun h => h.2.2.2.2.2.2⟩
    clear HS HR1 hr2 cS
    go_wp2
    go_ret
    exact ⟨_, rfl, HR2.out, tb4⟩

end Go.Proofs.Ytggjeepbgpfcpaa
