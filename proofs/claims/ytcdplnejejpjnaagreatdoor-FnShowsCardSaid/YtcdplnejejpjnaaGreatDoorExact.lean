/-
  The walk of the specification's Exact.
-/
import Derived.Test.YtcdplnejejpjnaaGreatDoorGreatC
import Derived.Test.YtcdplnejejpjnaaGreatDoorFigA
import Derived.Test.YtcdplnejejpjnaaGreatDoorBitsA
import Derived.Test.YtcdplnejejpjnaaGreatDoorBaseA
namespace Go.Proofs.YtcdplnejejpjnaaGreatDoor
open Go.RowKit
set_option linter.unusedVariables false

def exactS (x : Nat) : ByteArray := if kindN x = 4 then txt (Lib.decDigits (exactF (mantN x) (expN x))) else ⟨#[]⟩
def exactE (x : Nat) : Int := if kindN x = 4 then exactX (mantN x) (expN x) else 0

/-- on the way: M is left, z noughts are off -/
structure StripAt (N M z : Nat) : Prop where
  ne : M ≠ 0
  eq : stripN N = ((stripN M).1, (stripN M).2 + z)
  len : z + (Lib.decDigits M).length ≤ (Lib.decDigits N).length
theorem stripAt_step {N M z : Nat} (h : StripAt N M z) (h10 : M % 10 = 0) : StripAt N (M / 10) (z + 1) := by
  have h0 := h.ne
  obtain ⟨l, l1, l2, l3⟩ := dec_last (M := M)
  refine ⟨by omega, ?_, ?_⟩
  · rw [h.eq, strip_more h0 h10]
    simp only [Prod.mk.injEq, true_and]
    omega
  · have := h.len
    rw [l1, l3 (by omega), List.length_append, List.length_singleton] at this
    omega

def sizeOfS : Value → Nat
  | .string s => s.size
  | _ => 0

theorem dec_low {n : Nat} (h : n ≠ 0) : 10 ^ (Lib.nDigits n - 1) ≤ n := by
  induction n using Nat.strongRecOn with
  | ind n ih =>
    by_cases h10 : n < 10
    · rw [Lib.nDigits_small h10]; simp; omega
    · rw [Lib.nDigits_big h10]
      have a := ih (n / 10) (by omega) (by omega)
      have b := Lib.nDigits_pos (n / 10)
      rw [(by omega : Lib.nDigits (n / 10) + 1 - 1 = (Lib.nDigits (n / 10) - 1) + 1), Nat.pow_succ]
      omega

theorem txt_get {l : List UInt8} {c : UInt8} {s : ByteArray} {k : Nat} (hs : s = txt (l ++ [c])) (hk : k = l.length) (h : k < s.size) : s[k] = c := by
  subst hs hk
  have : (txt (l ++ [c]))[l.length] = (l ++ [c])[l.length]'(by simp) := rfl
  rw [this]
  simp

set_option maxHeartbeats 4000000 in
set_option maxRecDepth 100000 in
theorem specExact_fin (x : Nat) (w : World) (hx : x < 18446744073709551616) (kx : kindN x = 4) :
    Calls Tryz.prog 49 #[.int .u64 x] w fun e w' => e = .returned (.tuple #[.string (exactS x), .int .i64 (exactE x)]) ∧ Below w.heap.size w w' := by
  have cP := fun W => specParts_any x W hx
  unfold partsV at cP
  unfold exactS exactE
  rw [if_pos kx, if_pos kx]
  rw [kx] at cP
  have m1 := mantN_lt x
  have e1 := expN_ge x
  have e2 := expN_le x
  have m0 := mantN_pos kx
  generalize mantN x = m at *
  generalize expN x = e at *
  generalize belowN x = s0 at *
  obtain ⟨N, hN⟩ : ∃ N, exactN m e = N := ⟨_, rfl⟩
  obtain ⟨E, hE⟩ : ∃ E : Int, (if 0 ≤ e then 0 else e) = E := ⟨_, rfl⟩
  have HF : Hid (exactF m e = (stripN N).1 ∧ exactX m e = E + (stripN N).2) := by
    refine ⟨by unfold exactF; rw [hN], by unfold exactX; rw [hN, hE]⟩
  obtain ⟨F, hF⟩ : ∃ F, txt (Lib.decDigits (exactF m e)) = F := ⟨_, rfl⟩
  obtain ⟨X, hX⟩ : ∃ X, exactX m e = X := ⟨_, rfl⟩
  rw [hF, hX]
  have HF2 : Hid (txt (Lib.decDigits (stripN N).1) = F ∧ E + ((stripN N).2 : Int) = X) := ⟨by rw [← HF.out.1]; exact hF, by rw [← HF.out.2]; exact hX⟩
  clear hF hX HF kx hx
  have m1' : (m : Int) < 9007199254740992 := by omega
  have HM : Hid (m < 9007199254740992 ∧ m ≠ 0) := ⟨m1, m0⟩
  clear m1 m0
  go_enter Tryz.func49, Tryz.ntmps49
  go_wp2_with fail
  refine (cP _).mono ?_
  rintro en w1 ⟨rfl, b1⟩
  clear cP
  go_upto_region 6 with fail
  obtain ⟨wq, hwq⟩ : ∃ wq, (w1.alloc (.cells #[.int .i64 4, .bool s0, .int .u64 m, .int .i64 e] 30)).alloc (.cells #[.int .i64 ((m : Int) % 1000000000), .int .i64 ((m : Int) / 1000000000)] 3) = wq := ⟨_, rfl⟩
  have hs1 : (w1.alloc (.cells #[.int .i64 4, .bool s0, .int .u64 m, .int .i64 e] 30)).heap.size = w1.heap.size + 1 := by simp
  have hP : wq.heap[w1.heap.size]? = some (.cells #[.int .i64 4, .bool s0, .int .u64 m, .int .i64 e] 30) := by
    rw [← hwq]; exact (Below.heap_alloc _ _ _ (by rw [hs1]; omega)).trans (heap_alloc_new _ _)
  have hBb : Below w.heap.size w wq := by
    rw [← hwq]; exact (b1.alloc b1.size _).alloc (by rw [hs1]; have := b1.size; omega) _
  have hL : Row wq w.heap.size (.slice (some ⟨w1.heap.size + 1, 0, none⟩) 2 2) [m % 1000000000, m / 1000000000] := by
    have h2 := World.ownsRow_lit (base := w.heap.size) (e := 3) (size := 1) (w1.alloc (.cells #[.int .i64 4, .bool s0, .int .u64 m, .int .i64 e] 30)) #[.int .i64 ((m : Int) % 1000000000), .int .i64 ((m : Int) / 1000000000)] 2 (by rw [hs1]; have := b1.size; omega) (by unfold maxLen; omega) rfl
    rw [hs1, hwq] at h2
    exact h2
  have HL : Hid (Row wq w.heap.size (.slice (some ⟨w1.heap.size + 1, 0, none⟩) 2 2) [m % 1000000000, m / 1000000000] ∧ LimbsOk [m % 1000000000, m / 1000000000] ∧ limbV [m % 1000000000, m / 1000000000] = m) := by
    refine ⟨hL, fun y hy => ?_, ?_⟩
    · have := HM.out.1
      simp only [List.mem_cons, List.not_mem_nil, or_false] at hy
      rcases hy with rfl | rfl <;> omega
    · simp only [limbV]; omega
  simp only [hwq]
  obtain ⟨gp, hgp⟩ : ∃ g, w1.heap.size = g := ⟨_, rfl⟩
  simp only [hgp]
  rw [hgp] at hP HL
  clear hwq hL hs1 hgp b1
  clear w1
  have HPB : Hid (wq.heap[gp]? = some (.cells #[.int .i64 4, .bool s0, .int .u64 m, .int .i64 e] 30)) := hP
  obtain ⟨p0, p1, p2, p3⟩ := cells_four hP
  clear hP
  have HNN : Hid (exactN m e = N) := hN
  clear hN
  go_upto_if 24 with fail
  go_cut [5, 6] (fun v5 x6 wx => ∃ xs : List Nat, x6 = .int .i64 E ∧ Row wx w.heap.size v5 xs ∧ Below w.heap.size w wx ∧ Hid (limbV xs = N ∧ LimbsOk xs ∧ xs.length ≤ 5000))
  case first =>
    by_cases he : 0 ≤ e
    · obtain ⟨k, hk⟩ : ∃ k : Nat, e = k := ⟨e.toNat, by omega⟩
      have he' : decide (0 ≤ e) = true := by simpa using he
      simp only [he']
      clear he'
      subst hk
      rw [if_pos he] at hE
      subst hE
      have cW := fun W => l06Power_any 2 k W (by omega) (by omega)
      go_wp2_with fail
      refine (cW _).mono ?_
      rintro en w2 ⟨v2, ys, rfl, r2, b2, f2, k2, n2, n3⟩
      go_wp2_with fail
      refine (l06Mul_any _ _ [m % 1000000000, m / 1000000000] ys w.heap.size _ (HL.out.1.below b2) (r2.base hBb.size) HL.out.2.1 k2 (by simp) (by omega)).mono ?_
      rintro en w3 ⟨v3, zs, rfl, r3, b3, f3, k3, n4⟩
      have hb23 := chain (chain hBb b2) b3
      have hr3 : Row w3 w.heap.size v3 zs := r3.base (chain hBb b2).size
      have HR : Hid (limbV zs = N ∧ LimbsOk zs ∧ zs.length ≤ 5000) := by
        refine ⟨?_, k3, by rw [n4]; simp; omega⟩
        rw [f3, HL.out.2.2, f2, ← HNN.out]
        unfold exactN
        rw [if_pos he, Int.toNat_natCast]
      clear r2 r3 f2 f3 k2 k3
      go_wp2
      go_meet
      case rel => exact ⟨zs, rfl, hr3, hb23, HR⟩
    · have he' : decide (0 ≤ e) = false := by simp; omega
      simp only [he']
      clear he'
      obtain ⟨k, hk⟩ : ∃ k : Nat, -e = k := ⟨(-e).toNat, by omega⟩
      rw [if_neg he] at hE
      subst hE
      have cW := fun W => l06Power_any 5 k W (by omega) (by omega)
      go_wp2_with fail
      refine (cW _).mono ?_
      rintro en w2 ⟨v2, ys, rfl, r2, b2, f2, k2, n2, n3⟩
      go_wp2_with fail
      refine (l06Mul_any _ _ [m % 1000000000, m / 1000000000] ys w.heap.size _ (HL.out.1.below b2) (r2.base hBb.size) HL.out.2.1 k2 (by simp) (by omega)).mono ?_
      rintro en w3 ⟨v3, zs, rfl, r3, b3, f3, k3, n4⟩
      have hb23 := chain (chain hBb b2) b3
      have hr3 : Row w3 w.heap.size v3 zs := r3.base (chain hBb b2).size
      have HR : Hid (limbV zs = N ∧ LimbsOk zs ∧ zs.length ≤ 5000) := by
        refine ⟨?_, k3, by rw [n4]; simp; omega⟩
        rw [f3, HL.out.2.2, f2, ← HNN.out]
        unfold exactN
        rw [if_neg (by omega), hk, Int.toNat_natCast]
      have hP3 := kept_block b3 (kept_block b2 HPB.out)
      obtain ⟨q0, q1, q2, q3⟩ := cells_four hP3
      clear r2 r3 f2 f3 k2 k3 hP3
      go_wp2
      go_meet
      case rel => exact ⟨zs, rfl, hr3, hb23, HR⟩
  case rest =>
    obtain ⟨xs, rfl, hrow, hbel, HX⟩ := hcut
    clear HL HPB p0 p1 p2 p3 hBb
    have cT := fun (V : Value) (W : World) (hW : Row W w.heap.size V xs) => l06Text_any V xs w.heap.size W hW HX.out.2.1 (by have := HX.out.2.2; omega)
    rw [HX.out.1] at cT
    go_wp2_with fail
    refine (cT _ _ hrow).mono ?_
    rintro en w5 ⟨rfl, b5⟩
    clear cT hrow
    have hb5 := chain hbel b5
    have hN0 : N ≠ 0 := by
      rw [← HNN.out]
      unfold exactN
      split
      · exact Nat.mul_ne_zero HM.out.2 (by have := Nat.two_pow_pos e.toNat; omega)
      · exact Nat.mul_ne_zero HM.out.2 (by have : 0 < 5 ^ (-e).toNat := Nat.pow_pos (by decide); omega)
    obtain ⟨L, hLL⟩ : ∃ L, (Lib.decDigits N).length = L := ⟨_, rfl⟩
    have hL2 : (L : Int) ≤ 45001 := by
      have h1 := limbV_lt HX.out.2.1
      rw [HX.out.1] at h1
      have h2 : L ≤ 9 * xs.length + 1 := by
        rw [← hLL, Lib.decDigits_length]
        rcases Nat.lt_or_ge (9 * xs.length) (Lib.nDigits N) with h' | h'
        · exfalso
          have h3 : 10 ^ (Lib.nDigits N - 1) ≤ N := dec_low hN0
          have h4 : 10 ^ (9 * xs.length) ≤ 10 ^ (Lib.nDigits N - 1) := Nat.pow_le_pow_right (by decide) (by omega)
          omega
        · omega
      have := HX.out.2.2
      omega
    have hE1 : -1074 ≤ E ∧ E ≤ 0 := by rw [← hE]; split <;> omega
    have E1 := hE1.1
    have E2 := hE1.2
    have HLL : Hid ((Lib.decDigits N).length = L) := hLL
    have HN0 : Hid (N ≠ 0) := hN0
    clear hE hE1 hLL hN0 HX HM HNN
    go_upto_region 11 with fail
    go_loop [6, 7] (fun x6 x7 => ∃ (M z : Nat) (t : ByteArray), x7 = .string t ∧ x6 = .int .i64 (E + z) ∧ (t.size : Int) + z ≤ L ∧ Hid (t = txt (Lib.decDigits M) ∧ StripAt N M z)) (fun _ x7 => sizeOfS x7)
    case atStart => exact ⟨N, 0, txt (Lib.decDigits N), rfl, by simp, by rw [txt_size, HLL.out]; omega, rfl, HN0.out, by simp, by omega⟩
    case round =>
      obtain ⟨M, z, t, rfl, rfl, hz, HI⟩ := hrel
      obtain ⟨l, l1, l2, l3⟩ := dec_last (M := M)
      have ht := HI.out.1
      have hsz : t.size = l.length + 1 := by rw [ht, txt_size, l1]; simp
      obtain ⟨k, hk⟩ : ∃ k, l.length = k := ⟨_, rfl⟩
      have hks : k < t.size := by omega
      have hk1 : (t.size : Int) - 1 = k := by omega
      have hc : t[k] = UInt8.ofNat (48 + M % 10) := txt_get (by rw [ht, l1]) hk.symm hks
      have hc2 : (t[k]).toNat = 48 + M % 10 := by
        rw [hc, UInt8.toNat_ofNat']; omega
      obtain ⟨G, hG⟩ : ∃ G : Int, E + (z : Int) = G := ⟨_, rfl⟩
      rw [hG]
      have HG : Hid (E + (z : Int) = G) := hG
      have G1 : -1074 ≤ G := by omega
      have G2 : G ≤ 45001 := by omega
      have HZ : Hid ((t.size : Int) + z ≤ L) := hz
      have hkb : (k : Int) ≤ 45001 := by omega
      have HK : Hid (l.length = k ∧ t.size = k + 1) := ⟨hk, by omega⟩
      clear hG hz hc hsz hk ht
      have finish : stripN N = (M, z) → txt (Lib.decDigits (stripN N).1) = F ∧ E + ((stripN N).2 : Int) = X → t = F ∧ G = X := fun h1 h2 => by
        rw [h1] at h2
        exact ⟨by rw [HI.out.1]; exact h2.1, by rw [← HG.out]; exact h2.2⟩
      by_cases hgt : (1 : Int) < t.size
      · have hM10 : 10 ≤ M := by
          rcases Nat.lt_or_ge M 10 with h' | h'
          · have := l2.2 h'
            rw [this] at HK
            have := HK.out
            simp at this
            omega
          · exact h'
        by_cases h0 : M % 10 = 0
        · have h0' : ((t[k]).toNat : Int) = 48 := by omega
          have HS : Hid (t.extract 0 k = txt (Lib.decDigits (M / 10)) ∧ StripAt N (M / 10) (z + 1)) := by
            refine ⟨?_, stripAt_step HI.out.2 h0⟩
            rw [HI.out.1, l1, Lib.extract_eq, txt_data, List.drop_zero, Nat.sub_zero, ← HK.out.1, List.take_left, l3 hM10]
            rfl
          have hes : (t.extract 0 k).size = k := by rw [ByteArray.size_extract]; omega
          clear finish l1 l2 l3 HI h0 hc2 hM10
          go_wp2
          go_round
          case rel => exact ⟨M / 10, z + 1, t.extract 0 k, rfl, by have := HG.out; go_num, by have := HZ.out; have := HK.out; rw [hes]; omega, HS.out⟩
          case measure =>
            show (t.extract 0 k).size < t.size
            rw [hes]; exact hks
        · have h0' : (((t[k]).toNat : Int) == 48) = false := by rw [beq_eq_false_iff_ne]; omega
          have hfin := finish (by rw [HI.out.2.eq, strip_done h0]; simp) HF2.out
          have HFin : Hid (t = F ∧ G = X) := hfin
          clear finish hfin l1 l2 l3 HI h0 hc2 hM10
          go_wp2
          go_ret2
          exact ⟨by rw [← HFin.out.1, ← HFin.out.2]; rfl, hb5⟩
      · have hgt' : decide ((1 : Int) < t.size) = false := by simp; omega
        have hM : M < 10 := l2.1 (List.eq_nil_of_length_eq_zero (by have := HK.out; omega))
        have h0 : M % 10 ≠ 0 := by have := HI.out.2.ne; omega
        have hfin := finish (by rw [HI.out.2.eq, strip_done h0]; simp) HF2.out
        have HFin : Hid (t = F ∧ G = X) := hfin
        clear finish hfin l1 l2 l3 HI h0 hM
        go_wp2
        go_ret2
        exact ⟨by rw [← HFin.out.1, ← HFin.out.2]; rfl, hb5⟩

set_option maxHeartbeats 1000000 in
set_option maxRecDepth 100000 in
theorem specExact_any (x : Nat) (w : World) (hx : x < 18446744073709551616) :
    Calls Tryz.prog 49 #[.int .u64 x] w fun e w' => e = .returned (.tuple #[.string (exactS x), .int .i64 (exactE x)]) ∧ Below w.heap.size w w' := by
  by_cases kx : kindN x = 4
  · exact specExact_fin x w hx kx
  · have cP := fun W => specParts_any x W hx
    unfold partsV at cP
    unfold exactS exactE
    rw [if_neg kx, if_neg kx]
    generalize kindN x = k at *
    generalize belowN x = s at *
    generalize mantN x = m at *
    generalize expN x = e at *
    have hk : ((k : Int) != 4) = true := by simp; omega
    clear kx hx
    go_enter Tryz.func49, Tryz.ntmps49
    go_wp2_with (go_at_call 8; refine (cP _).mono ?_; rintro en w1 ⟨rfl, hb1⟩)
    go_ret2
    exact ⟨rfl, hb1.alloc hb1.size _⟩

end Go.Proofs.YtcdplnejejpjnaaGreatDoor
