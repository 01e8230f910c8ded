/-
  The walks of the program's figures of limbs, and of ifRight.
-/
import Derived.Test.YtcdplnejejpjnaaGreatDoorIGreat
import Derived.Test.YtcdplnejejpjnaaGreatDoorGreatC
import Derived.Test.YtcdplnejejpjnaaGreatDoorINought
namespace Go.Proofs.YtcdplnejejpjnaaGreatDoor
open Go.RowKit
set_option linter.unusedVariables false

set_option maxHeartbeats 4000000 in
set_option maxRecDepth 100000 in
theorem figuresWalk (v : Value) (xs : List Nat) (B : Nat) (w : World) (hA : Row w B v xs) (oa : LimbsOk xs) (la : xs.length ≤ 100000) :
    Calls Tryz.prog 137 #[v] w fun e w' => e = .returned (.string (txt (Lib.decDigits (limbV xs)))) ∧ Below w.heap.size w w' := by
  obtain ⟨i0, hi, hz0, hz1, hz2⟩ := info_parts Tryz.infoByte
  obtain ⟨pa, ca, rfl⟩ := hA.shape
  have HA : Hid (Row w B (.slice pa xs.length ca) xs ∧ LimbsOk xs) := ⟨hA, oa⟩
  clear hA oa
  obtain ⟨n, hn⟩ : ∃ n, 9 * xs.length = n := ⟨_, rfl⟩
  have hn' : 9 * (xs.length : Int) = n := by omega
  obtain ⟨N, hN⟩ : ∃ N, limbV xs = N := ⟨_, rfl⟩
  have HN : Hid (limbV xs = N ∧ N < 10 ^ n) := ⟨hN, by rw [← hN, ← hn]; exact limbV_lt HA.out.2⟩
  rw [hN]
  clear hN
  have hmk := fun W : World => run_make (P := Tryz.prog) W 22 5 i0 (.int .u8 0) Tryz.underlying22 hi hz0 .i64 .i64 (n : Int) (n : Int) (by omega) (by omega) (by rw [hz2]; omega) (by omega)
  go_enter Tryz.func137, Tryz.ntmps137
  go_upto_region 4 with fail
  clear hmk
  go_loopw [4, 15] (fun z x wr => ∃ (i a : Nat) (zs : List Nat), x = .int .i64 i ∧ z = .int .i64 a ∧ i ≤ xs.length ∧ (a : Int) + 9 * i = n ∧ wr.ownsRow w.heap.size 5 1 (.slice (some ⟨w.heap.size, 0, none⟩) n n) n ((zs.map fun (x : Nat) => (x : Int)).map (Value.int .u8)) ∧ Below w.heap.size w wr ∧ Hid (FillAt N n (9 * i) zs)) (fun _ x _ => xs.length - (intOf x).toNat)
  case atStart =>
    refine ⟨0, n, List.replicate n 0, rfl, rfl, Nat.zero_le _, by omega, ⟨by simp, .inr ⟨w.heap.size, n, _, rfl, Nat.le_refl _, heap_alloc_new w _, Nat.le_refl _, by unfold maxLen; omega, by simp [size_madeCells], ?_⟩⟩, (Below.refl _ _).alloc (Nat.le_refl _) _, fill_start N n⟩
    rw [toList_madeCells_one, Nat.mul_one, List.map_replicate, List.map_replicate, List.take_of_length_le (by simp)]
    rfl
  case round =>
    obtain ⟨i, a, zs, rfl, rfl, hil, hai, hown, hbel, HI⟩ := hrel
    have hsz := hbel.size
    by_cases hlt : i < xs.length
    · have hca : ∃ ga, pa = some ⟨ga, 0, none⟩ ∧ wr.cell? ⟨ga, i, none⟩ = some (.int .i64 (xs.getD i 0 : Nat)) := by
        rcases (HA.out.1.below hbel).cells with ⟨h, h'⟩ | ⟨ga, cap, h, _, _, h'⟩
        · rw [h'] at hlt; simp at hlt
        · injection h with h _ _
          exact ⟨ga, h, h' i hlt⟩
      obtain ⟨ga, rfl, hca⟩ := hca
      have o2 := limbsOk_at HA.out.2 i
      have HX : Hid (∀ k, k < 9 → figAt N (9 * i + k) = 48 + xs.getD i 0 / 10 ^ k % 10) := fun k hk => by
        unfold figAt
        rw [← HN.out.1, limb_fig HA.out.2 hlt hk]
      obtain ⟨x, hx⟩ : ∃ x, xs.getD i 0 = x := ⟨_, rfl⟩
      rw [hx] at hca o2 HX
      have o2' : (x : Int) < 1000000000 := by omega
      have hil' : (i : Int) < xs.length := by omega
      clear hx o2
      go_upto_region 7 with fail
      clear hca
      go_loopw [4, 6, 19] (fun d y z wr => ∃ (k u b : Nat) (zs : List Nat), z = .int .i64 k ∧ y = .int .i64 u ∧ d = .int .i64 b ∧ (k : Int) ≤ 9 ∧ (u : Int) < 1000000000 ∧ (b : Int) + k = a ∧ wr.ownsRow w.heap.size 5 1 (.slice (some ⟨w.heap.size, 0, none⟩) n n) n ((zs.map fun (x : Nat) => (x : Int)).map (Value.int .u8)) ∧ Below w.heap.size w wr ∧ Hid (FillAt N n (9 * i + k) zs ∧ u = x / 10 ^ k)) (fun _ _ z _ => (9 - intOf z).toNat)
      case atStart => exact ⟨0, x, a, zs, rfl, rfl, rfl, by omega, by omega, by omega, hown, hbel, ⟨HI.out, by simp⟩⟩
      case round =>
        clear hown hbel HI hsz
        clear zs
        obtain ⟨k, u, b, zs, rfl, rfl, rfl, hk, hu, hba, hown, hbel, HI⟩ := hrel
        by_cases hk9 : (k : Int) < 9
        · obtain ⟨K, hK⟩ : ∃ K, n - 1 - (9 * i + k) = K := ⟨_, rfl⟩
          have hK' : (b : Int) - 1 = K := by omega
          have hKn : (K : Int) < n := by omega
          have hK0 : (0 : Int) ≤ K := by omega
          obtain ⟨f, hf⟩ : ∃ f, figAt N (9 * i + k) = f := ⟨_, rfl⟩
          have hf1 : 48 + (u : Int) % 10 = f := by
            have h1 := HX.out k (by omega)
            rw [hf, ← HI.out.2] at h1
            omega
          have hf2 := figAt_le N (9 * i + k)
          rw [hf] at hf2
          have hf3 : (f : Int) ≤ 57 := by omega
          have hlen := HI.out.1.len
          have HS : Hid (FillAt N n (9 * i + (k + 1)) (zs.set K f) ∧ u / 10 = x / 10 ^ (k + 1)) := by
            refine ⟨?_, by rw [HI.out.2, Nat.pow_succ, Nat.div_div_eq_div_mul]⟩
            have h1 := fill_step HI.out.1 (by omega)
            rw [hK, hf] at h1
            exact h1
          have hcell : ∃ o, wr.cell? ⟨w.heap.size, K, none⟩ = some (.int .u8 o) := by
            refine ⟨(zs.getD K 0 : Nat), ?_⟩
            rw [World.ownsRow.cellAt hown K (by omega), List.getElem?_map, List.getElem?_map, List.getElem?_eq_getElem (by omega), List.getD_eq_getElem?_getD, List.getElem?_eq_getElem (by omega)]
            rfl
          obtain ⟨o, hcell⟩ := hcell
          have hfz := row_free hown K
          have st := World.ownsRow.stored hown K (.int .u8 (f : Int))
          have HST : Hid _ := st
          clear st hf hf2 hK HI hlen
          go_wp2
          go_roundw
          case rel =>
            refine ⟨k + 1, u / 10, K, zs.set K f, by go_num, by go_num, by go_num, by omega, by omega, by omega, ?_, hbel.setCell (Nat.le_refl _) _, HS⟩
            rw [List.map_set, List.map_set]
            exact HST.out.1
          case measure => simp [intOf]; omega
        · have hk10 : k = 9 := by omega
          subst hk10
          have HF : Hid (FillAt N n (9 * (i + 1)) zs) := by
            have := HI.out.1
            rw [(by omega : 9 * i + 9 = 9 * (i + 1))] at this
            exact this
          clear HI
          go_wp2
          go_roundw
          case rel => exact ⟨i + 1, b, zs, by go_num, rfl, by omega, by omega, hown, hbel, HF⟩
          case measure => simp [intOf]; omega
    · have hlt' : decide (i < xs.length) = false := by simp; omega
      have hcv := conv_own (P := Tryz.prog) _ Tryz.underlying22 Tryz.underlying5 Tryz.underlying9 hown
      have HF : Hid (FillAt N n n zs) := by
        have := HI.out
        rw [(by omega : 9 * i = n)] at this
        exact this
      obtain ⟨t, ht⟩ : ∃ t, strOfNums (zs.map fun (x : Nat) => (x : Int)) = t := ⟨_, rfl⟩
      have hte : trimL t.data.toList = Lib.decDigits N := by rw [← ht]; exact fill_text HF.out HN.out.2
      have cT := fun W => aheadWalk t W
      rw [ht] at hcv
      rw [hte] at cT
      clear HF HI ht hte
      go_wp2_with (go_at_call 23; refine (cT _).mono ?_; rintro e w' ⟨rfl, rfl⟩)
      go_ret
      exact ⟨rfl, hbel⟩

/-- a number's own figures are right if they are not too many -/
theorem dec_ok (n : Nat) (h : (Lib.decDigits n).length ≤ 800) : figsOk (Lib.decDigits n) = true := by
  obtain ⟨h1, h2, h3⟩ := digV_dec n
  have e : trimL (Lib.decDigits n) = Lib.decDigits n := by rw [← dec_trim _ h2, h1]
  have hp : 1 ≤ (Lib.decDigits n).length := List.length_pos_iff.2 h3
  have ha : ((Lib.decDigits n).all fun c => decide (48 ≤ c.toNat ∧ c.toNat ≤ 57)) = true := by
    rw [List.all_eq_true]
    intro c hc
    rw [decide_eq_true_eq]; exact h2 c hc
  unfold figsOk
  rw [ha, decide_eq_true ⟨hp, h⟩, Bool.and_true, Bool.true_and]
  generalize Lib.decDigits n = l at *
  match l, e, h3 with
  | [c], _, _ => rfl
  | c :: d :: m, e, _ =>
    by_cases hc : c.toNat = 48
    · exfalso
      have e2 : trimL (c :: d :: m) = trimL (d :: m) := by simp [trimL, hc]
      rw [e2] at e
      have hl : ∀ l : List UInt8, l ≠ [] → (trimL l).length ≤ l.length := by
        intro l
        induction l with
        | nil => intro h; exact absurd rfl h
        | cons a k ih =>
          intro _
          cases k with
          | nil => simp [trimL]
          | cons b r =>
            have := ih (by simp)
            unfold trimL
            split
            · simp at this ⊢; omega
            · simp
      have := hl (d :: m) (by simp)
      rw [e] at this
      simp at this
      omega
    · simp [hc]
theorem dec_bad (n : Nat) (h : ¬(Lib.decDigits n).length ≤ 800) : figsOk (Lib.decDigits n) = false := by
  unfold figsOk
  rw [decide_eq_false (fun h' => h h'.2)]
  rfl
theorem dec_figs (n : Nat) : figsOk (txt (Lib.decDigits n)).data.toList = greatB n := by
  rw [txt_data]
  unfold greatB
  by_cases h : (Lib.decDigits n).length ≤ 800
  · rw [dec_ok n h, decide_eq_true h]
  · rw [dec_bad n h, decide_eq_false h]

set_option maxHeartbeats 1000000 in
set_option maxRecDepth 100000 in
theorem ifRightWalk (v : Value) (xs : List Nat) (B N : Nat) (w : World) (hA : Row w B v xs) (oa : LimbsOk xs) (la : xs.length ≤ 100000) (hN : limbV xs = N) :
    Calls Tryz.prog 101 #[v] w fun e w' => e = .returned (.tuple #[.string (greatS N), .bool (greatB N)]) ∧ Below w.heap.size w w' := by
  have cF := figuresWalk v xs B w hA oa la
  rw [hN] at cF
  have cO := fun W => okWalk (txt (Lib.decDigits N)) W
  rw [dec_figs] at cO
  have hS : greatB N = true → greatS N = txt (Lib.decDigits N) := fun h => by
    unfold greatB at h; unfold greatS; rw [if_pos (of_decide_eq_true h)]
  have hS0 : greatB N = false → greatS N = ⟨#[]⟩ := fun h => by
    unfold greatB at h; unfold greatS; rw [if_neg (of_decide_eq_false h)]
  obtain ⟨T, hT⟩ : ∃ T, txt (Lib.decDigits N) = T := ⟨_, rfl⟩
  obtain ⟨S, hSS⟩ : ∃ S, greatS N = S := ⟨_, rfl⟩
  obtain ⟨k, hk⟩ : ∃ k, greatB N = k := ⟨_, rfl⟩
  rw [hT] at cF cO hS
  rw [hk] at cO hS hS0
  rw [hSS] at hS hS0
  rw [hSS, hk]
  clear hT hk hSS hN hA oa la
  cases k
  · have e := hS0 rfl
    subst e
    clear hS hS0
    go_enter Tryz.func101, Tryz.ntmps101
    go_wp2_with fail
    refine cF.mono ?_
    rintro e w' ⟨rfl, hb⟩
    go_wp2_with fail
    refine (cO _).mono ?_
    rintro e w'' ⟨rfl, rfl⟩
    go_wp2
    go_ret2
    exact ⟨rfl, hb⟩
  · have e := hS rfl
    subst e
    clear hS hS0
    go_enter Tryz.func101, Tryz.ntmps101
    go_wp2_with fail
    refine cF.mono ?_
    rintro e w' ⟨rfl, hb⟩
    go_wp2_with fail
    refine (cO _).mono ?_
    rintro e w'' ⟨rfl, rfl⟩
    go_wp2
    go_ret2
    exact ⟨rfl, hb⟩

end Go.Proofs.YtcdplnejejpjnaaGreatDoor
