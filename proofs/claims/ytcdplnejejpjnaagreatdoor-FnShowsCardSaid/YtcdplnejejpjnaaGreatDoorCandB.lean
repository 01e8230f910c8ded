/-
  The candidates for the fewest figures, the nearer ones first: the first that reads back is what the specification finds; over no program.
-/
import Derived.Test.YtcdplnejejpjnaaGreatDoorShortA
import Derived.Test.YtcdplnejejpjnaaGreatDoorIExact
namespace Go.Proofs.YtcdplnejejpjnaaGreatDoor

/-- whether the figures above are nearer than those below, of two as near the even ones -/
def upB (l : List UInt8) (n : Nat) : Bool := decide (5 * 10 ^ (l.length - n - 1) < digV (l.drop n)) || (decide (digV (l.drop n) = 5 * 10 ^ (l.length - n - 1)) && !decide (digV (l.take n) % 2 = 0))
def nearC (l : List UInt8) (n : Nat) : List UInt8 := if upB l n = true then Lib.decDigits (digV (l.take n) + 1) else l.take n
def farC (l : List UInt8) (n : Nat) : List UInt8 := if upB l n = true then l.take n else Lib.decDigits (digV (l.take n) + 1)
/-- what is told as number k -/
def candC (l : List UInt8) (k : Nat) : List UInt8 := if k % 2 = 0 then nearC l (k / 2 + 1) else farC l (k / 2 + 1)
def backC (l : List UInt8) (X : Int) (pos k : Nat) : Bool := decide (nearN (candC l k) (shE l X (k / 2 + 1)) = pos)

theorem upB_end (l : List UInt8) : upB l l.length = false := by
  unfold upB
  rw [List.drop_length, digV_nil]
  simp
theorem near_end (l : List UInt8) : nearC l l.length = l := by
  unfold nearC
  rw [upB_end, List.take_length]
  rfl

/-- both candidates with n figures, in either order -/
theorem back_both (l : List UInt8) (X : Int) (pos n : Nat) : (backC l X pos (2 * n) || backC l X pos (2 * n + 1)) = (shL l X pos (n + 1) || shH l X pos (n + 1)) := by
  unfold backC candC
  rw [if_pos (by omega), if_neg (by omega), (by omega : 2 * n / 2 + 1 = n + 1), (by omega : (2 * n + 1) / 2 + 1 = n + 1)]
  unfold nearC farC shL shH
  by_cases h : upB l (n + 1) = true
  · rw [if_pos h, if_pos h, Bool.or_comm]
  · rw [if_neg h, if_neg h]

theorem noneC {l : List UInt8} {X : Int} {pos K : Nat} (hb : ∀ k, k < K → backC l X pos k = false) {n : Nat} (hn : 2 * n + 1 < K) : (shL l X pos (n + 1) || shH l X pos (n + 1)) = false := by
  rw [← back_both, hb _ (by omega), hb _ hn]
  rfl

/-- what is picked is what comes first -/
theorem pickC {l : List UInt8} {X : Int} {pos K : Nat} (hf : figsOk l = true) (hK : backC l X pos K = true) (hb : ∀ k, k < K → backC l X pos k = false) : candC l K = Lib.decDigits (shPick l X pos (K / 2 + 1)) := by
  have hd := dec_take (l := l) (n := K / 2 + 1) hf (by omega)
  obtain ⟨n, hn⟩ : ∃ n, K / 2 = n := ⟨_, rfl⟩
  rcases Nat.mod_two_eq_zero_or_one K with h | h
  · have e : K = 2 * n := by omega
    subst e
    have hK' : decide (nearN (nearC l (n + 1)) (shE l X (n + 1)) = pos) = true := by
      have := hK
      unfold backC candC at this
      rw [if_pos h, hn] at this
      exact this
    unfold candC
    rw [if_pos h, hn]
    rw [hn] at hd
    unfold shPick shUp
    unfold nearC at hK' ⊢
    by_cases hu : upB l (n + 1) = true
    · rw [if_pos hu] at hK' ⊢
      have hH : shH l X pos (n + 1) = true := hK'
      have hu' := hu
      unfold upB at hu'
      rw [hH, hu', Bool.true_and, Bool.or_true, if_pos rfl]
    · rw [if_neg hu] at hK' ⊢
      have hL : shL l X pos (n + 1) = true := hK'
      have hu' : upB l (n + 1) = false := by simpa using hu
      unfold upB at hu'
      rw [hL, hu', Bool.and_false]
      exact hd.symm
  · have e : K = 2 * n + 1 := by omega
    subst e
    have hp := hb (2 * n) (by omega)
    have hK' : decide (nearN (farC l (n + 1)) (shE l X (n + 1)) = pos) = true := by
      have := hK
      unfold backC candC at this
      rw [if_neg (by omega), hn] at this
      exact this
    have hp' : decide (nearN (nearC l (n + 1)) (shE l X (n + 1)) = pos) = false := by
      have := hp
      unfold backC candC at this
      rw [if_pos (by omega), (by omega : 2 * n / 2 = n)] at this
      exact this
    unfold candC
    rw [if_neg (by omega), hn]
    rw [hn] at hd
    unfold shPick shUp
    unfold farC at hK' ⊢
    unfold nearC at hp'
    by_cases hu : upB l (n + 1) = true
    · rw [if_pos hu] at hK' hp' ⊢
      have hH : shH l X pos (n + 1) = false := hp'
      have hL : shL l X pos (n + 1) = true := hK'
      rw [hH, hL]
      exact hd.symm
    · rw [if_neg hu] at hK' hp' ⊢
      have hL : shL l X pos (n + 1) = false := hp'
      rw [hL]
      rfl

theorem trim_whole {l : List UInt8} (h : digV l % 10 ≠ 0) (hf : Figs l) : Lib.trimRightB l 48 = l := by
  rcases List.eq_nil_or_concat l with h' | ⟨m, c, h'⟩
  · subst h'; rfl
  · rw [List.concat_eq_append] at h'
    subst h'
    have hc := hf c (by simp)
    refine trimR_stays m ?_
    rintro rfl
    rw [digV_snoc] at h
    apply h
    show (10 * digV m + (48 - 48)) % 10 = 0
    omega

/-- the first candidate that reads back, without noughts at its end, is what the specification finds -/
theorem cand_short {x K : Nat} {l : List UInt8} (kx : kindN x = 4) (hx : x < 9223372036854775808) (hl : l = Lib.decDigits (exactF (mantN x) (expN x))) (hfig : figsOk l = true)
    (hK : backC l (exactX (mantN x) (expN x)) x K = true) (hKl : K < 2 * l.length) (hb : ∀ k, k < K → backC l (exactX (mantN x) (expN x)) x k = false) :
    (shortR l (exactX (mantN x) (expN x)) x 17 1).1 = Lib.trimRightB (candC l K) 48 ∧ (shortR l (exactX (mantN x) (expN x)) x 17 1).2 = shE l (exactX (mantN x) (expN x)) (K / 2 + 1) + (candC l K).length - (Lib.trimRightB (candC l K) 48).length := by
  have hok := short_ok kx hx hl
  obtain ⟨X, hX⟩ : ∃ X, exactX (mantN x) (expN x) = X := ⟨_, rfl⟩
  have h17 := fun h => seventeen_back kx hx hl h
  rw [hX] at hK hb hok h17 ⊢
  rcases short_first l X x 17 1 (by omega) (fun m h1 h2 => by omega) with ⟨k, k1, k2, k3, k4, k5, k6⟩ | ⟨k1, k2⟩
  · have hle : K / 2 + 1 ≤ k := by
      rcases Nat.lt_or_ge k (K / 2 + 1) with h | h
      · have := noneC hb (n := k - 1) (by omega)
        rw [(by omega : k - 1 + 1 = k), k4] at this
        cases this
      · exact h
    have hge : k ≤ K / 2 + 1 := by
      rcases Nat.lt_or_ge (K / 2 + 1) k with h | h
      · have n1 := k5 (K / 2 + 1) (by omega) h
        have n2 := back_both l X x (K / 2)
        rw [n1.1, n1.2, Bool.or_false, Bool.or_eq_false_iff] at n2
        exfalso
        rcases Nat.mod_two_eq_zero_or_one K with h' | h'
        · have e := n2.1
          rw [(by omega : 2 * (K / 2) = K), hK] at e
          cases e
        · have e := n2.2
          rw [(by omega : 2 * (K / 2) + 1 = K), hK] at e
          cases e
      · exact h
    have hk : K / 2 + 1 = k := by omega
    rw [k6, pickC hfig hK hb, hk]
    have hp : shPick l X x k ≠ 0 := by
      unfold shPick
      split
      · omega
      · exact take_pos hfig (by omega) (by omega)
    obtain ⟨t1, t2⟩ := trim_strip _ hp
    refine ⟨t1.symm, ?_⟩
    rw [t1, t2]
    omega
  · have hlen : l.length ≤ 17 := by
      rcases Nat.lt_or_ge 17 l.length with h | h
      · obtain ⟨n1, n2⟩ := k2 17 (by omega) (by omega)
        have := h17 h
        rw [n1, n2] at this
        cases this
      · exact h
    have hge : l.length ≤ K / 2 + 1 := by
      rcases Nat.lt_or_ge (K / 2 + 1) l.length with h | h
      · have n1 := k2 (K / 2 + 1) (by omega) (by omega)
        have n2 := back_both l X x (K / 2)
        rw [n1.1, n1.2, Bool.or_false, Bool.or_eq_false_iff] at n2
        exfalso
        rcases Nat.mod_two_eq_zero_or_one K with h' | h'
        · have e := n2.1
          rw [(by omega : 2 * (K / 2) = K), hK] at e
          cases e
        · have e := n2.2
          rw [(by omega : 2 * (K / 2) + 1 = K), hK] at e
          cases e
      · exact h
    have hkl : K / 2 + 1 = l.length := by omega
    rw [k1] at hok ⊢
    have hlast := hok.last
    have hE : shE l X l.length = X := by unfold shE; omega
    have hev : K % 2 = 0 := by
      rcases Nat.mod_two_eq_zero_or_one K with h' | h'
      · exact h'
      · exfalso
        have e := hb (K - 1) (by omega)
        unfold backC candC at e
        rw [if_pos (by omega), (by omega : (K - 1) / 2 = K / 2), hkl, near_end, hE, hok.back] at e
        simp at e
    have hc : candC l K = l := by
      unfold candC
      rw [if_pos hev, hkl, near_end]
    rw [hc, trim_whole hlast (figsOk_figs hfig), hkl, hE]
    exact ⟨rfl, by show X = X + (l.length : Int) - (l.length : Int); omega⟩

/-- one of them reads back -/
theorem cand_some {x : Nat} {l : List UInt8} (kx : kindN x = 4) (hx : x < 9223372036854775808) (hl : l = Lib.decDigits (exactF (mantN x) (expN x))) :
    ∃ K, K < 2 * l.length ∧ backC l (exactX (mantN x) (expN x)) x K = true := by
  have hok := short_ok kx hx hl
  obtain ⟨X, hX⟩ : ∃ X, exactX (mantN x) (expN x) = X := ⟨_, rfl⟩
  rw [hX] at hok ⊢
  rcases short_first l X x 17 1 (by omega) (fun m h1 h2 => by omega) with ⟨k, k1, k2, k3, k4, k5, k6⟩ | ⟨k1, k2⟩
  · have n2 := back_both l X x (k - 1)
    rw [(by omega : k - 1 + 1 = k), k4, Bool.or_eq_true] at n2
    rcases n2 with h | h
    · exact ⟨_, by omega, h⟩
    · exact ⟨_, by omega, h⟩
  · rw [k1] at hok
    have h1 : 1 ≤ l.length := by
      rcases Nat.eq_zero_or_pos l.length with h | h
      · have := hok.last
        rw [List.eq_nil_of_length_eq_zero h] at this
        exact absurd rfl this
      · exact h
    refine ⟨2 * (l.length - 1), by omega, ?_⟩
    have hE : shE l X l.length = X := by unfold shE; omega
    unfold backC candC
    rw [if_pos (by omega), (by omega : 2 * (l.length - 1) / 2 + 1 = l.length), near_end, hE]
    exact decide_eq_true hok.back

theorem five_less : ∀ {r : List UInt8}, Figs r → Op.bytesLess r [53] = decide (digV r < 5 * 10 ^ (r.length - 1))
  | [], _ => by simp [Op.bytesLess, digV_nil]
  | c :: r, hf => by
    have hc := hf c (by simp)
    have hr := digV_lt (l := r) (fun d hd => hf d (by simp [hd]))
    have h0 : Op.bytesLess r [] = false := by cases r <;> rfl
    rw [Op.bytesLess, h0, Bool.and_false, Bool.or_false, digV_cons, List.length_cons, Nat.add_sub_cancel, Bool.eq_iff_iff, decide_eq_true_iff, decide_eq_true_iff, UInt8.lt_iff_toNat_lt]
    have h53 : (53 : UInt8).toNat = 53 := rfl
    rw [h53]
    constructor
    · intro h
      have : (c.toNat - 48 + 1) * 10 ^ r.length ≤ 5 * 10 ^ r.length := Nat.mul_le_mul_right _ (by omega)
      rw [Nat.add_mul] at this
      omega
    · intro h
      rcases Nat.lt_or_ge c.toNat 53 with h' | h'
      · exact h'
      · exfalso
        have : 5 * 10 ^ r.length ≤ (c.toNat - 48) * 10 ^ r.length := Nat.mul_le_mul_right _ (by omega)
        omega
theorem five_same {r : List UInt8} (hf : Figs r) (hlast : r ≠ [] → digV r % 10 ≠ 0) : r = [53] ↔ digV r = 5 * 10 ^ (r.length - 1) := by
  constructor
  · rintro rfl; rfl
  · intro h
    cases r with
    | nil => rw [digV_nil] at h; simp at h
    | cons c r =>
      have h1 := hlast (by simp)
      rw [h, List.length_cons, Nat.add_sub_cancel] at h1
      have h2 : r.length = 0 := by
        rcases Nat.eq_zero_or_pos r.length with h2 | h2
        · exact h2
        · exfalso
          apply h1
          obtain ⟨k, hk⟩ : ∃ k, r.length = k + 1 := ⟨r.length - 1, by omega⟩
          rw [hk, Nat.pow_succ, ← Nat.mul_assoc, Nat.mul_mod_left]
      have h3 : r = [] := List.eq_nil_of_length_eq_zero h2
      subst h3
      exact figs_inj hf (fun d hd => by simp at hd; subst hd; decide) rfl (by rw [h]; rfl)
theorem drop_last {l : List UInt8} {n : Nat} (h : digV l % 10 ≠ 0) (hn : n < l.length) : digV (l.drop n) % 10 ≠ 0 := by
  have e := digV_append (l.take n) (l.drop n)
  rw [List.take_append_drop, List.length_drop] at e
  obtain ⟨k, hk⟩ : ∃ k, l.length - n = k + 1 := ⟨l.length - n - 1, by omega⟩
  rw [hk, Nat.pow_succ, ← Nat.mul_assoc] at e
  omega
/-- the test of the rest, as the program makes it -/
theorem upB_told {l r : List UInt8} {n : Nat} (hr : r = l.drop n) (hf : Figs l) (hlast : digV l % 10 ≠ 0) :
    upB l n = ((!Op.bytesLess r [53] && !decide (r = [53])) || (decide (r = [53]) && !decide (digV (l.take n) % 2 = 0))) := by
  have hfr : Figs r := by rw [hr]; exact fun c hc => hf c (List.mem_of_mem_drop hc)
  have hl : l.length - n - 1 = r.length - 1 := by rw [hr, List.length_drop]
  have hs := five_same hfr (fun h => by
    rw [hr]
    refine drop_last hlast ?_
    rcases Nat.lt_or_ge n l.length with h' | h'
    · exact h'
    · exfalso; apply h; rw [hr]; exact List.drop_of_length_le h')
  have e1 : decide (r = [53]) = decide (digV r = 5 * 10 ^ (r.length - 1)) := by rw [Bool.eq_iff_iff, decide_eq_true_iff, decide_eq_true_iff]; exact hs
  unfold upB
  rw [five_less hfr, e1, hl, ← hr]
  generalize 5 * 10 ^ (r.length - 1) = B
  generalize digV r = A
  rcases Nat.lt_trichotomy A B with h | h | h
  · rw [decide_eq_true h, decide_eq_false (by omega : ¬B < A), decide_eq_false (by omega : ¬A = B)]; rfl
  · rw [decide_eq_false (by omega : ¬A < B), decide_eq_false (by omega : ¬B < A), decide_eq_true h]; rfl
  · rw [decide_eq_false (by omega : ¬A < B), decide_eq_true h, decide_eq_false (by omega : ¬A = B)]; rfl

end Go.Proofs.YtcdplnejejpjnaaGreatDoor
