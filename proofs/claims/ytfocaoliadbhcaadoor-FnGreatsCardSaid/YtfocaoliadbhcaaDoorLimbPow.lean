/-
  The walks of the specification's l06Short and l06Power.
-/
import Derived.Test.YtfocaoliadbhcaaDoorLimbTxt2
namespace Go.Proofs.YtfocaoliadbhcaaDoor
open Go.RowKit
set_option linter.unusedVariables false

theorem row_take {w : World} {B : Nat} {g L cap n : Nat} {xs : List Nat} (h : Row w B (.slice (some ⟨g, 0, none⟩) L cap) xs) (hn : n ≤ xs.length) : Row w B (.slice (some ⟨g, 0, none⟩) n cap) (xs.take n) := by
  have hl : (xs.take n).length = n := by rw [List.length_take]; omega
  unfold Row
  rw [hl]
  unfold Row at h
  rcases h.2 with ⟨h', _⟩ | ⟨g', cap', cur, h', h1, h2, h3, h4, h5, h6⟩
  · simp at h'
  · simp only [Value.slice.injEq, Option.some.injEq, Addr.mk.injEq, and_true] at h'
    obtain ⟨rfl, rfl, rfl⟩ := h'
    refine ⟨by simp; omega, .inr ⟨g, cap, cur, rfl, h1, h2, by omega, h4, h5, ?_⟩⟩
    rw [List.map_take, ← h6, Nat.mul_one, Nat.mul_one, List.take_take, Nat.min_eq_left hn]
theorem row_cap {w : World} {B : Nat} {g L cap : Nat} {xs : List Nat} (h : Row w B (.slice (some ⟨g, 0, none⟩) L cap) xs) : L = xs.length ∧ xs.length ≤ cap ∧ cap ≤ maxLen := by
  rcases h.2 with ⟨h', _⟩ | ⟨g', cap', cur, h', h1, h2, h3, h4, h5, h6⟩
  · simp at h'
  · simp only [Value.slice.injEq, Option.some.injEq, Addr.mk.injEq, and_true] at h'
    obtain ⟨rfl, rfl, rfl⟩ := h'
    exact ⟨rfl, h3, h4⟩

set_option maxHeartbeats 1000000 in
set_option maxRecDepth 100000 in
theorem l06Short_any (v : Value) (xs : List Nat) (B : Nat) (w : World) (hA : Row w B v xs) (oa : LimbsOk xs) (la : xs.length ≤ 1048576) (h0 : 1 ≤ xs.length) :
    Calls Tryd.prog 59 #[v] w fun e w' => ∃ (v' : Value) (ys : List Nat), e = .returned v' ∧ w = w' ∧ Row w B v' ys ∧ limbV ys = limbV xs ∧ LimbsOk ys ∧ 1 ≤ ys.length ∧ ys.length ≤ xs.length := by
  rcases hA.cells with ⟨_, h⟩ | ⟨g, cap, rfl, hg1, hg2, hc⟩
  · rw [h] at h0; simp at h0
  · obtain ⟨_, k1, k2⟩ := row_cap hA
    unfold maxLen at k2
    have HA : Hid (Row w B (.slice (some ⟨g, 0, none⟩) xs.length cap) xs ∧ LimbsOk xs) := ⟨hA, oa⟩
    have HC : Hid (∀ j, j < xs.length → w.cell? ⟨g, j, none⟩ = some (.int .i64 (xs.getD j 0 : Nat))) := hc
    clear hA oa hc
    go_enter Tryd.func59, Tryd.ntmps59
    go_upto_region 2 with fail
    go_loop [3] (fun x => ∃ n : Nat, x = .int .i64 n ∧ 1 ≤ n ∧ n ≤ xs.length ∧ Hid (limbV (xs.take n) = limbV xs)) (fun x => (intOf x).toNat)
    case atStart => exact ⟨xs.length, rfl, h0, Nat.le_refl _, by rw [List.take_length]; exact rfl⟩
    case round =>
      obtain ⟨n, rfl, hn1, hn2, HN⟩ := hrel
      have fin : Row w B (.slice (some ⟨g, 0, none⟩) n cap) (xs.take n) ∧ limbV (xs.take n) = limbV xs ∧ LimbsOk (xs.take n) ∧ (xs.take n).length = n :=
        ⟨row_take HA.out.1 hn2, HN.out, fun x hx => HA.out.2 x (List.mem_of_mem_take hx), by rw [List.length_take]; omega⟩
      have HFin : Hid _ := fin
      clear fin
      have hcap : (n : Int) ≤ cap := by omega
      by_cases h1 : (1 : Int) < n
      · obtain ⟨m, hm⟩ : ∃ m, n = m + 1 := ⟨n - 1, by omega⟩
        have hm1 : (n : Int) - 1 = m := by omega
        have hml : (m : Int) < xs.length := by omega
        have hcm := HC.out m (by omega)
        obtain ⟨y, hy⟩ : ∃ y, xs.getD m 0 = y := ⟨_, rfl⟩
        rw [hy] at hcm
        by_cases h2 : y = 0
        · subst h2
          have HS : Hid (limbV (xs.take m) = limbV xs) := by
            show _ = _
            have := HN.out
            rw [hm, limbV_take, hy] at this
            simpa using this
          clear hm hy
          go_wp2
          go_round
          case rel => exact ⟨m, by go_num, by omega, by omega, HS⟩
          case measure => simp [intOf]; omega
        · have h2' : ((y : Int) == 0) = false := by rw [beq_eq_false_iff_ne]; omega
          clear hm hy
          go_wp2
          go_ret
          exact ⟨_, rfl, rfl, xs.take n, HFin.out.1, HFin.out.2.1, HFin.out.2.2.1, by have := HFin.out.2.2.2; omega, by have := HFin.out.2.2.2; omega⟩
      · have h1' : decide ((1 : Int) < n) = false := by simp; omega
        go_wp2
        go_ret
        exact ⟨_, rfl, rfl, xs.take n, HFin.out.1, HFin.out.2.1, HFin.out.2.2.1, by have := HFin.out.2.2.2; omega, by have := HFin.out.2.2.2; omega⟩

/-- a power on the way -/
structure PowAt (T m U : Nat) (os bs : List Nat) : Prop where
  oo : LimbsOk os
  ob : LimbsOk bs
  eq : limbV os * limbV bs ^ m = T
  lo : 1 ≤ os.length ∧ os.length < U
  lb : 1 ≤ bs.length ∧ bs.length + 1 ≤ U

theorem pow_odd {T m U : Nat} {os bs rs ts : List Nat} (h : PowAt T m U os bs) (hm : m % 2 = 1) (or_ : LimbsOk rs) (ot : LimbsOk ts) (hr : limbV rs = limbV os * limbV bs) (ht : limbV ts = limbV bs * limbV bs)
    (lr : 1 ≤ rs.length ∧ rs.length ≤ os.length + bs.length + 1) (lt : 1 ≤ ts.length ∧ ts.length ≤ bs.length + bs.length + 1) : PowAt T (m / 2) (2 * U) rs ts := by
  refine ⟨or_, ot, ?_, ⟨lr.1, by have := h.lo; have := h.lb; omega⟩, ⟨lt.1, by have := h.lb; omega⟩⟩
  have e : m = 2 * (m / 2) + 1 := by omega
  rw [← h.eq, hr, ht]
  conv => rhs; rw [e]
  rw [Nat.pow_succ, Nat.pow_mul, Nat.pow_two, Nat.mul_assoc, Nat.mul_comm (limbV bs)]
theorem pow_even {T m U : Nat} {os bs ts : List Nat} (h : PowAt T m U os bs) (hm : m % 2 = 0) (ot : LimbsOk ts) (ht : limbV ts = limbV bs * limbV bs)
    (lt : 1 ≤ ts.length ∧ ts.length ≤ bs.length + bs.length + 1) : PowAt T (m / 2) (2 * U) os ts := by
  refine ⟨h.oo, ot, ?_, ⟨h.lo.1, by have := h.lo; omega⟩, ⟨lt.1, by have := h.lb; omega⟩⟩
  have e : m = 2 * (m / 2) := by omega
  rw [← h.eq, ht]
  conv => rhs; rw [e]
  rw [Nat.pow_mul, Nat.pow_two]

set_option maxHeartbeats 2000000 in
set_option maxRecDepth 100000 in
theorem l06Power_any (b n : Nat) (w : World) (hb : b < 1000000000) (hn : n ≤ 1100) :
    Calls Tryd.prog 44 #[.int .i64 b, .int .i64 n] w fun e w' => ∃ (v : Value) (xs : List Nat), e = .returned v ∧ Row w' w.heap.size v xs ∧ Below w.heap.size w w' ∧ limbV xs = b ^ n ∧ LimbsOk xs ∧ 1 ≤ xs.length ∧ xs.length ≤ 4400 := by
  obtain ⟨T, hT⟩ : ∃ T, b ^ n = T := ⟨_, rfl⟩
  rw [hT]
  go_enter Tryd.func44, Tryd.ntmps44
  go_upto_region 3 with fail
  go_loopw [1, 5, 6] (fun x vo vb wr => ∃ (m U : Nat) (os bs : List Nat), x = .int .i64 m ∧ m ≤ 1100 ∧ U * m ≤ 2200 ∧ U ≤ 4400 ∧ Row wr w.heap.size vo os ∧ Row wr w.heap.size vb bs ∧ Below w.heap.size w wr ∧ Hid (PowAt T m U os bs)) (fun x _ _ _ => (intOf x).toNat)
  case atStart =>
    refine ⟨n, 2, [1], [b], rfl, hn, by omega, by omega, ?_, ?_, ((Below.refl _ _).alloc (Nat.le_refl _) _).alloc (by simp) _, ?_⟩
    · exact Row.below (own_base (World.ownsRow_lit (base := w.heap.size) w #[.int .i64 1] 1 (Nat.le_refl _) (by unfold maxLen; omega) rfl) (Nat.le_refl _)) ((Below.refl _ _).alloc (Nat.le_refl _) _)
    · have h2 := World.ownsRow_lit (base := w.heap.size) (e := 3) (size := 1) (w.alloc (.cells #[.int .i64 1] 3)) #[.int .i64 b] 1 (by simp) (by unfold maxLen; omega) rfl
      have hs : (w.alloc (.cells #[.int .i64 1] 3)).heap.size = w.heap.size + 1 := by simp
      rw [hs] at h2
      exact h2
    · refine ⟨fun x hx => ?_, fun x hx => ?_, ?_, ⟨by simp, by simp⟩, ⟨by simp, by simp⟩⟩
      · rw [List.mem_singleton] at hx; omega
      · rw [List.mem_singleton] at hx; omega
      · rw [← hT]; simp [limbV]
  case round =>
    obtain ⟨m, U, os, bs, rfl, hm, hUm, hU, hO, hB, hbel, HP⟩ := hrel
    have hsz := hbel.size
    have l1 := HP.out.lo
    have l2 := HP.out.lb
    by_cases hm0 : 0 < m
    · have hU2 : 2 * U * (m / 2) ≤ 2200 := by
        have : 2 * U * (m / 2) = U * (2 * (m / 2)) := by rw [Nat.mul_comm 2 U, Nat.mul_assoc]
        have : U * (2 * (m / 2)) ≤ U * m := Nat.mul_le_mul_left _ (by omega)
        omega
      have hU3 : U ≤ 2200 := by
        have : U * 1 ≤ U * m := Nat.mul_le_mul_left _ hm0
        omega
      have HU : Hid (2 * U * (m / 2) ≤ 2200) := hU2
      clear hU2 hUm
      by_cases hodd : m % 2 = 1
      · have hodd' : ((m : Int) % 2 == 1) = true := by simp; omega
        have HO : Hid (Row wr w.heap.size _ os) := hO
        have HB : Hid (Row wr w.heap.size _ bs) := hB
        clear hO hB
        go_wp2_with fail
        refine (l06Mul_any _ _ os bs w.heap.size _ HO.out HB.out HP.out.oo HP.out.ob (by omega) (by omega)).mono ?_
        rintro e w1 ⟨v1, xs1, rfl, r1, b1, e1, k1, n1⟩
        go_wp2_with fail
        refine (l06Short_any v1 xs1 wr.heap.size _ r1 k1 (by omega) (by omega)).mono ?_
        rintro e w1' ⟨v2, ys, rfl, rfl, r2, e2, k2, n2, n3⟩
        go_wp2_with fail
        refine (l06Mul_any _ _ bs bs w.heap.size _ (HB.out.below b1) (HB.out.below b1) HP.out.ob HP.out.ob (by omega) (by omega)).mono ?_
        rintro e w2 ⟨v3, xs3, rfl, r3, b3, e3, k3, n4⟩
        go_wp2_with fail
        refine (l06Short_any v3 xs3 w1.heap.size _ r3 k3 (by omega) (by omega)).mono ?_
        rintro e w2' ⟨v4, zs, rfl, rfl, r4, e4, k4, n5, n6⟩
        have s1 := b1.size
        have hr2 : Row w2 w.heap.size v2 ys := (r2.below b3).base hsz
        have hr4 : Row w2 w.heap.size v4 zs := r4.base (by omega)
        have hbb : Below w.heap.size w w2 := chain (chain hbel b1) b3
        have HPP : Hid (PowAt T (m / 2) (2 * U) ys zs) := pow_odd HP.out hodd k2 k4 (by rw [e2, e1]) (by rw [e4, e3]) ⟨n2, by omega⟩ ⟨n5, by omega⟩
        clear r1 r2 r3 r4 HO HB HP e1 e2 e3 e4
        go_wp2
        go_roundw
        case rel => exact ⟨m / 2, 2 * U, ys, zs, by go_num, by omega, HU.out, by omega, hr2, hr4, hbb, HPP⟩
        case measure => simp [intOf]; omega
      · have hodd' : ((m : Int) % 2 == 1) = false := by rw [beq_eq_false_iff_ne]; omega
        have HO : Hid (Row wr w.heap.size _ os) := hO
        have HB : Hid (Row wr w.heap.size _ bs) := hB
        clear hO hB
        go_wp2_with fail
        refine (l06Mul_any _ _ bs bs w.heap.size _ HB.out HB.out HP.out.ob HP.out.ob (by omega) (by omega)).mono ?_
        rintro e w2 ⟨v3, xs3, rfl, r3, b3, e3, k3, n4⟩
        go_wp2_with fail
        refine (l06Short_any v3 xs3 wr.heap.size _ r3 k3 (by omega) (by omega)).mono ?_
        rintro e w2' ⟨v4, zs, rfl, rfl, r4, e4, k4, n5, n6⟩
        have hr2 : Row w2 w.heap.size _ os := HO.out.below b3
        have hr4 : Row w2 w.heap.size v4 zs := r4.base hsz
        have hbb : Below w.heap.size w w2 := chain hbel b3
        have HPP : Hid (PowAt T (m / 2) (2 * U) os zs) := pow_even HP.out (by omega) k4 (by rw [e4, e3]) ⟨n5, by omega⟩
        clear r3 r4 HO HB HP e3 e4
        go_wp2
        go_roundw
        case rel => exact ⟨m / 2, 2 * U, os, zs, by go_num, by omega, HU.out, by omega, hr2, hr4, hbb, HPP⟩
        case measure => simp [intOf]; omega
    · have hmz : m = 0 := by omega
      subst hmz
      have HE : Hid (limbV os = T ∧ LimbsOk os) := ⟨by have := HP.out.eq; simpa using this, HP.out.oo⟩
      clear HP
      go_wp2
      go_ret
      exact ⟨_, os, rfl, hO, hbel, HE.out.1, HE.out.2, by omega, by omega⟩

end Go.Proofs.YtfocaoliadbhcaaDoor
