/-
  Several texts in one: LimbTxt, LimbTxt2, LimbPow, Greats, GreatLs, GreatSb.
-/
import Derived.Test.YtcdplnejejpjnaaGreatDoorGreatA
import Derived.Test.YtcdplnejejpjnaaGreatDoorFigA
namespace Go.Proofs.YtcdplnejejpjnaaGreatDoor
open Go.RowKit
set_option linter.unusedVariables false

/-- figures as a text -/
def txt (l : List UInt8) : ByteArray := ⟨l.toArray⟩
theorem txt_data (l : List UInt8) : (txt l).data.toList = l := rfl
theorem txt_self (s : ByteArray) : txt s.data.toList = s := by
  apply ByteArray.ext
  simp [txt]
theorem txt_size (l : List UInt8) : (txt l).size = l.length := by rw [← size_list, txt_data]
theorem extract_tail (s : ByteArray) (k : Nat) : s.extract k s.size = txt (s.data.toList.drop k) := by
  rw [Lib.extract_eq, List.take_of_length_le (by rw [List.length_drop, size_list]; omega)]
  rfl

theorem trim_go {s : ByteArray} {k : Nat} (h : k + 1 < s.size) (hc : (s[k]'(by omega)).toNat = 48) : trimL (s.data.toList.drop k) = trimL (s.data.toList.drop (k + 1)) := by
  have h1 : s.data.toList.drop k = s[k] :: s.data.toList.drop (k + 1) := List.drop_eq_getElem_cons (by rw [size_list]; omega)
  have h2 : s.data.toList.drop (k + 1) = s[k + 1] :: s.data.toList.drop (k + 2) := List.drop_eq_getElem_cons (by rw [size_list]; omega)
  rw [h1, h2]
  simp [trimL, hc]
theorem trim_end {s : ByteArray} {k : Nat} (h : k < s.size) (hc : s.size ≤ k + 1 ∨ (s[k]).toNat ≠ 48) : trimL (s.data.toList.drop k) = s.data.toList.drop k := by
  have h1 : s.data.toList.drop k = s[k] :: s.data.toList.drop (k + 1) := List.drop_eq_getElem_cons (by rw [size_list]; omega)
  rw [h1]
  by_cases h2 : s.size ≤ k + 1
  · rw [List.drop_eq_nil_of_le (by rw [size_list]; omega)]
    rfl
  · have h3 : (s[k]).toNat ≠ 48 := by rcases hc with h' | h'; exact absurd h' h2; exact h'
    have h4 : s.data.toList.drop (k + 1) = s[k + 1] :: s.data.toList.drop (k + 2) := List.drop_eq_getElem_cons (by rw [size_list]; omega)
    rw [h4]
    simp [trimL, h3]

set_option maxHeartbeats 1000000 in
set_option maxRecDepth 100000 in
theorem l06Trim_any (s : ByteArray) (w : World) (hs : s.size ≤ 10000000) :
    Calls Tryz.prog 129 #[.string s] w fun e w' => e = .returned (.string (txt (trimL s.data.toList))) ∧ w = w' := by
  obtain ⟨R, hR⟩ : ∃ R, txt (trimL s.data.toList) = R := ⟨_, rfl⟩
  have HR : Hid (txt (trimL s.data.toList) = R) := hR
  rw [hR]
  clear hR
  go_enter Tryz.func129, Tryz.ntmps129
  go_upto_region 2 with fail
  go_loop [3] (fun x => ∃ k : Nat, x = .int .i64 k ∧ k ≤ s.size ∧ (k < s.size ∨ s.size = 0) ∧ Hid (trimL (s.data.toList.drop k) = trimL s.data.toList)) (fun x => s.size - (intOf x).toNat)
  case atStart => exact ⟨0, rfl, by omega, by omega, by rw [List.drop_zero]; exact rfl⟩
  case round =>
    obtain ⟨k, rfl, hk, hk2, HK⟩ := hrel
    by_cases h1 : (k : Int) + 1 < s.size
    · have hks : k < s.size := by omega
      by_cases h2 : (s[k]).toNat = 48
      · have h2' : ((s[k]).toNat : Int) = 48 := by omega
        have HN : Hid (trimL (s.data.toList.drop (k + 1)) = trimL s.data.toList) := by
          show _ = _
          rw [← trim_go (by omega) h2]; exact HK.out
        go_wp2
        go_round
        case rel => exact ⟨k + 1, by go_num, by omega, by omega, HN⟩
        case measure => simp [intOf]; omega
      · have h2' : (((s[k]).toNat : Int) == 48) = false := by rw [beq_eq_false_iff_ne]; omega
        have HE : Hid (s.extract k s.size = R) := by
          show _ = _
          rw [extract_tail, ← trim_end hks (.inr h2), HK.out]; exact HR.out
        have hz : ((s.size : Int) == 0) = false := by rw [beq_eq_false_iff_ne]; omega
        have hz2 : s.size ≠ 0 := by omega
        go_wp2
        go_ret
        exact ⟨by rw [← HE.out]; rfl, rfl⟩
    · have h1' : decide ((k : Int) + 1 < s.size) = false := by simp; omega
      by_cases h0 : s.size = 0
      · have HE : Hid (R = ⟨#[48]⟩) := by
          show _ = _
          rw [← HR.out]
          have : s.data.toList = [] := List.eq_nil_of_length_eq_zero (by rw [size_list]; exact h0)
          rw [this]; rfl
        go_wp2
        go_ret
        exact ⟨by rw [HE.out]; rfl, rfl⟩
      · have hks : k < s.size := by omega
        have HE : Hid (s.extract k s.size = R) := by
          show _ = _
          rw [extract_tail, ← trim_end hks (.inl (by omega)), HK.out]; exact HR.out
        have hz : ((s.size : Int) == 0) = false := by rw [beq_eq_false_iff_ne]; omega
        go_wp2
        go_ret
        exact ⟨by rw [← HE.out]; rfl, rfl⟩

end Go.Proofs.YtcdplnejejpjnaaGreatDoor

namespace Go.Proofs.YtcdplnejejpjnaaGreatDoor
open Go.RowKit
set_option linter.unusedVariables false

theorem fill_text {N n : Nat} {zs : List Nat} (h : FillAt N n n zs) (hN : N < 10 ^ n) : trimL (strOfNums (zs.map fun (x : Nat) => (x : Int))).data.toList = Lib.decDigits N := by
  have e : (strOfNums (zs.map fun (x : Nat) => (x : Int))).data.toList = padD N n := by
    rw [strOfNums_data, List.map_map, ← fill_end h]
    rfl
  rw [e, ← dec_trim _ (padD_figs N n), padD_digV N n hN]

set_option maxHeartbeats 4000000 in
set_option maxRecDepth 100000 in
theorem l06Text_any (v : Value) (xs : List Nat) (B : Nat) (w : World) (hA : Row w B v xs) (oa : LimbsOk xs) (la : xs.length ≤ 100000) :
    Calls Tryz.prog 86 #[v] w fun e w' => e = .returned (.string (txt (Lib.decDigits (limbV xs)))) ∧ Below w.heap.size w w' := by
  obtain ⟨i0, hi, hz0, hz1, hz2⟩ := info_parts Tryz.infoByte
  obtain ⟨pa, ca, rfl⟩ := hA.shape
  have HA : Hid (Row w B (.slice pa xs.length ca) xs ∧ LimbsOk xs) := ⟨hA, oa⟩
  clear hA oa
  obtain ⟨n, hn⟩ : ∃ n, 9 * xs.length = n := ⟨_, rfl⟩
  have hn' : 9 * (xs.length : Int) = n := by omega
  obtain ⟨N, hN⟩ : ∃ N, limbV xs = N := ⟨_, rfl⟩
  have HN : Hid (limbV xs = N ∧ N < 10 ^ n) := ⟨hN, by rw [← hN, ← hn]; exact limbV_lt HA.out.2⟩
  rw [hN]
  clear hN
  have hmk := fun W : World => run_make (P := Tryz.prog) W 22 5 i0 (.int .u8 0) Tryz.underlying22 hi hz0 .i64 .i64 (n : Int) (n : Int) (by omega) (by omega) (by rw [hz2]; omega) (by omega)
  go_enter Tryz.func86, Tryz.ntmps86
  go_upto_region 3 with fail
  clear hmk
  go_loopw [4] (fun x wr => ∃ (i : Nat) (zs : List Nat), x = .int .i64 i ∧ i ≤ xs.length ∧ wr.ownsRow w.heap.size 5 1 (.slice (some ⟨w.heap.size, 0, none⟩) n n) n ((zs.map fun (x : Nat) => (x : Int)).map (Value.int .u8)) ∧ Below w.heap.size w wr ∧ Hid (FillAt N n (9 * i) zs)) (fun x _ => xs.length - (intOf x).toNat)
  case atStart =>
    refine ⟨0, List.replicate n 0, rfl, Nat.zero_le _, ⟨by simp, .inr ⟨w.heap.size, n, _, rfl, Nat.le_refl _, heap_alloc_new w _, Nat.le_refl _, by unfold maxLen; omega, by simp [size_madeCells], ?_⟩⟩, (Below.refl _ _).alloc (Nat.le_refl _) _, fill_start N n⟩
    rw [toList_madeCells_one, Nat.mul_one, List.map_replicate, List.map_replicate, List.take_of_length_le (by simp)]
    rfl
  case round =>
    obtain ⟨i, zs, rfl, hil, hown, hbel, HI⟩ := hrel
    have hsz := hbel.size
    by_cases hlt : i < xs.length
    · have hca : ∃ ga, pa = some ⟨ga, 0, none⟩ ∧ wr.cell? ⟨ga, i, none⟩ = some (.int .i64 (xs.getD i 0 : Nat)) := by
        rcases (HA.out.1.below hbel).cells with ⟨h, h'⟩ | ⟨ga, cap, h, _, _, h'⟩
        · rw [h'] at hlt; simp at hlt
        · injection h with h _ _
          exact ⟨ga, h, h' i hlt⟩
      obtain ⟨ga, rfl, hca⟩ := hca
      have o2 := limbsOk_at HA.out.2 i
      have HX : Hid (∀ k, k < 9 → figAt N (9 * i + k) = 48 + xs.getD i 0 / 10 ^ k % 10) := fun k hk => by
        unfold figAt
        rw [← HN.out.1, limb_fig HA.out.2 hlt hk]
      obtain ⟨x, hx⟩ : ∃ x, xs.getD i 0 = x := ⟨_, rfl⟩
      rw [hx] at hca o2 HX
      have o2' : (x : Int) < 1000000000 := by omega
      have hil' : (i : Int) < xs.length := by omega
      clear hx o2
      go_upto_region 7 with fail
      clear hca
      go_loopw [5, 6] (fun y z wr => ∃ (k u : Nat) (zs : List Nat), z = .int .i64 k ∧ y = .int .i64 u ∧ (k : Int) ≤ 9 ∧ (u : Int) < 1000000000 ∧ wr.ownsRow w.heap.size 5 1 (.slice (some ⟨w.heap.size, 0, none⟩) n n) n ((zs.map fun (x : Nat) => (x : Int)).map (Value.int .u8)) ∧ Below w.heap.size w wr ∧ Hid (FillAt N n (9 * i + k) zs ∧ u = x / 10 ^ k)) (fun _ z _ => (9 - intOf z).toNat)
      case atStart => exact ⟨0, x, zs, rfl, rfl, by omega, by omega, hown, hbel, ⟨HI.out, by simp⟩⟩
      case round =>
        clear hown hbel HI hsz
        clear zs
        obtain ⟨k, u, zs, rfl, rfl, hk, hu, hown, hbel, HI⟩ := hrel
        by_cases hk9 : (k : Int) < 9
        · obtain ⟨K, hK⟩ : ∃ K, n - 1 - (9 * i + k) = K := ⟨_, rfl⟩
          have hK' : 9 * ((xs.length : Int) - i) - 1 - k = K := by omega
          have hKn : (K : Int) < n := by omega
          have hK0 : (0 : Int) ≤ K := by omega
          obtain ⟨f, hf⟩ : ∃ f, figAt N (9 * i + k) = f := ⟨_, rfl⟩
          have hf1 : 48 + (u : Int) % 10 = f := by
            have h1 := HX.out k (by omega)
            rw [hf, ← HI.out.2] at h1
            omega
          have hf2 := figAt_le N (9 * i + k)
          rw [hf] at hf2
          have hf3 : (f : Int) ≤ 57 := by omega
          have hlen := HI.out.1.len
          have HS : Hid (FillAt N n (9 * i + (k + 1)) (zs.set K f) ∧ u / 10 = x / 10 ^ (k + 1)) := by
            refine ⟨?_, by rw [HI.out.2, Nat.pow_succ, Nat.div_div_eq_div_mul]⟩
            have h1 := fill_step HI.out.1 (by omega)
            rw [hK, hf] at h1
            exact h1
          have hcell : ∃ o, wr.cell? ⟨w.heap.size, K, none⟩ = some (.int .u8 o) := by
            refine ⟨(zs.getD K 0 : Nat), ?_⟩
            rw [World.ownsRow.cellAt hown K (by omega), List.getElem?_map, List.getElem?_map, List.getElem?_eq_getElem (by omega), List.getD_eq_getElem?_getD, List.getElem?_eq_getElem (by omega)]
            rfl
          obtain ⟨o, hcell⟩ := hcell
          have hfz := row_free hown K
          have st := World.ownsRow.stored hown K (.int .u8 (f : Int))
          have HST : Hid _ := st
          clear st hf hf2 hK HI hlen
          go_wp2
          go_roundw
          case rel =>
            refine ⟨k + 1, u / 10, zs.set K f, by go_num, by go_num, by omega, by omega, ?_, hbel.setCell (Nat.le_refl _) _, HS⟩
            rw [List.map_set, List.map_set]
            exact HST.out.1
          case measure => simp [intOf]; omega
        · have hk10 : k = 9 := by omega
          subst hk10
          have HF : Hid (FillAt N n (9 * (i + 1)) zs) := by
            have := HI.out.1
            rw [(by omega : 9 * i + 9 = 9 * (i + 1))] at this
            exact this
          clear HI
          go_wp2
          go_roundw
          case rel => exact ⟨i + 1, zs, by go_num, by omega, hown, hbel, HF⟩
          case measure => simp [intOf]; omega
    · have hlt' : decide (i < xs.length) = false := by simp; omega
      have hcv := conv_own (P := Tryz.prog) _ Tryz.underlying22 Tryz.underlying5 Tryz.underlying9 hown
      have HF : Hid (FillAt N n n zs) := by
        have := HI.out
        rw [(by omega : 9 * i = n)] at this
        exact this
      obtain ⟨t, ht⟩ : ∃ t, strOfNums (zs.map fun (x : Nat) => (x : Int)) = t := ⟨_, rfl⟩
      have hts : t.size ≤ 10000000 := by
        rw [← ht, strOfNums_size, List.length_map, HF.out.len]; omega
      have hte : trimL t.data.toList = Lib.decDigits N := by rw [← ht]; exact fill_text HF.out HN.out.2
      have cT := fun W => l06Trim_any t W hts
      rw [hte] at cT
      rw [ht] at hcv
      clear HF HI hte hts ht
      go_wp2_with (go_at_call 129; refine (cT _).mono ?_; rintro e w' ⟨rfl, rfl⟩)
      go_ret
      exact ⟨rfl, hbel⟩

set_option maxHeartbeats 400000 in
set_option maxRecDepth 100000 in
theorem l06Fits_any (s : ByteArray) (w : World) :
    Calls Tryz.prog 88 #[.string s] w fun e w' => e = .returned (.tuple #[.string (if s.size ≤ 800 then s else ⟨#[]⟩), .bool (decide (s.size ≤ 800))]) ∧ w = w' := by
  by_cases h : s.size ≤ 800
  · have h' : decide ((800 : Int) < s.size) = false := by simp; omega
    rw [if_pos h, decide_eq_true h]
    go_enter Tryz.func88, Tryz.ntmps88
    go_wp2
    go_ret2
    exact ⟨rfl, rfl⟩
  · have h' : (800 : Int) < s.size := by omega
    rw [if_neg h, decide_eq_false h]
    go_enter Tryz.func88, Tryz.ntmps88
    go_wp2
    go_ret2
    exact ⟨rfl, rfl⟩

end Go.Proofs.YtcdplnejejpjnaaGreatDoor

namespace Go.Proofs.YtcdplnejejpjnaaGreatDoor
open Go.RowKit
set_option linter.unusedVariables false

theorem row_take {w : World} {B : Nat} {g L cap n : Nat} {xs : List Nat} (h : Row w B (.slice (some ⟨g, 0, none⟩) L cap) xs) (hn : n ≤ xs.length) : Row w B (.slice (some ⟨g, 0, none⟩) n cap) (xs.take n) := by
  have hl : (xs.take n).length = n := by rw [List.length_take]; omega
  unfold Row
  rw [hl]
  unfold Row at h
  rcases h.2 with ⟨h', _⟩ | ⟨g', cap', cur, h', h1, h2, h3, h4, h5, h6⟩
  · simp at h'
  · simp only [Value.slice.injEq, Option.some.injEq, Addr.mk.injEq, and_true] at h'
    obtain ⟨rfl, rfl, rfl⟩ := h'
    refine ⟨by simp; omega, .inr ⟨g, cap, cur, rfl, h1, h2, by omega, h4, h5, ?_⟩⟩
    rw [List.map_take, ← h6, Nat.mul_one, Nat.mul_one, List.take_take, Nat.min_eq_left hn]
theorem row_cap {w : World} {B : Nat} {g L cap : Nat} {xs : List Nat} (h : Row w B (.slice (some ⟨g, 0, none⟩) L cap) xs) : L = xs.length ∧ xs.length ≤ cap ∧ cap ≤ maxLen := by
  rcases h.2 with ⟨h', _⟩ | ⟨g', cap', cur, h', h1, h2, h3, h4, h5, h6⟩
  · simp at h'
  · simp only [Value.slice.injEq, Option.some.injEq, Addr.mk.injEq, and_true] at h'
    obtain ⟨rfl, rfl, rfl⟩ := h'
    exact ⟨rfl, h3, h4⟩

set_option maxHeartbeats 1000000 in
set_option maxRecDepth 100000 in
theorem l06Short_any (v : Value) (xs : List Nat) (B : Nat) (w : World) (hA : Row w B v xs) (oa : LimbsOk xs) (la : xs.length ≤ 1048576) (h0 : 1 ≤ xs.length) :
    Calls Tryz.prog 128 #[v] w fun e w' => ∃ (v' : Value) (ys : List Nat), e = .returned v' ∧ w = w' ∧ Row w B v' ys ∧ limbV ys = limbV xs ∧ LimbsOk ys ∧ 1 ≤ ys.length ∧ ys.length ≤ xs.length := by
  rcases hA.cells with ⟨_, h⟩ | ⟨g, cap, rfl, hg1, hg2, hc⟩
  · rw [h] at h0; simp at h0
  · obtain ⟨_, k1, k2⟩ := row_cap hA
    unfold maxLen at k2
    have HA : Hid (Row w B (.slice (some ⟨g, 0, none⟩) xs.length cap) xs ∧ LimbsOk xs) := ⟨hA, oa⟩
    have HC : Hid (∀ j, j < xs.length → w.cell? ⟨g, j, none⟩ = some (.int .i64 (xs.getD j 0 : Nat))) := hc
    clear hA oa hc
    go_enter Tryz.func128, Tryz.ntmps128
    go_upto_region 2 with fail
    go_loop [3] (fun x => ∃ n : Nat, x = .int .i64 n ∧ 1 ≤ n ∧ n ≤ xs.length ∧ Hid (limbV (xs.take n) = limbV xs)) (fun x => (intOf x).toNat)
    case atStart => exact ⟨xs.length, rfl, h0, Nat.le_refl _, by rw [List.take_length]; exact rfl⟩
    case round =>
      obtain ⟨n, rfl, hn1, hn2, HN⟩ := hrel
      have fin : Row w B (.slice (some ⟨g, 0, none⟩) n cap) (xs.take n) ∧ limbV (xs.take n) = limbV xs ∧ LimbsOk (xs.take n) ∧ (xs.take n).length = n :=
        ⟨row_take HA.out.1 hn2, HN.out, fun x hx => HA.out.2 x (List.mem_of_mem_take hx), by rw [List.length_take]; omega⟩
      have HFin : Hid _ := fin
      clear fin
      have hcap : (n : Int) ≤ cap := by omega
      by_cases h1 : (1 : Int) < n
      · obtain ⟨m, hm⟩ : ∃ m, n = m + 1 := ⟨n - 1, by omega⟩
        have hm1 : (n : Int) - 1 = m := by omega
        have hml : (m : Int) < xs.length := by omega
        have hcm := HC.out m (by omega)
        obtain ⟨y, hy⟩ : ∃ y, xs.getD m 0 = y := ⟨_, rfl⟩
        rw [hy] at hcm
        by_cases h2 : y = 0
        · subst h2
          have HS : Hid (limbV (xs.take m) = limbV xs) := by
            show _ = _
            have := HN.out
            rw [hm, limbV_take, hy] at this
            simpa using this
          clear hm hy
          go_wp2
          go_round
          case rel => exact ⟨m, by go_num, by omega, by omega, HS⟩
          case measure => simp [intOf]; omega
        · have h2' : ((y : Int) == 0) = false := by rw [beq_eq_false_iff_ne]; omega
          clear hm hy
          go_wp2
          go_ret
          exact ⟨_, rfl, rfl, xs.take n, HFin.out.1, HFin.out.2.1, HFin.out.2.2.1, by have := HFin.out.2.2.2; omega, by have := HFin.out.2.2.2; omega⟩
      · have h1' : decide ((1 : Int) < n) = false := by simp; omega
        go_wp2
        go_ret
        exact ⟨_, rfl, rfl, xs.take n, HFin.out.1, HFin.out.2.1, HFin.out.2.2.1, by have := HFin.out.2.2.2; omega, by have := HFin.out.2.2.2; omega⟩

/-- a power on the way -/
structure PowAt (T m U : Nat) (os bs : List Nat) : Prop where
  oo : LimbsOk os
  ob : LimbsOk bs
  eq : limbV os * limbV bs ^ m = T
  lo : 1 ≤ os.length ∧ os.length < U
  lb : 1 ≤ bs.length ∧ bs.length + 1 ≤ U

theorem pow_odd {T m U : Nat} {os bs rs ts : List Nat} (h : PowAt T m U os bs) (hm : m % 2 = 1) (or_ : LimbsOk rs) (ot : LimbsOk ts) (hr : limbV rs = limbV os * limbV bs) (ht : limbV ts = limbV bs * limbV bs)
    (lr : 1 ≤ rs.length ∧ rs.length ≤ os.length + bs.length + 1) (lt : 1 ≤ ts.length ∧ ts.length ≤ bs.length + bs.length + 1) : PowAt T (m / 2) (2 * U) rs ts := by
  refine ⟨or_, ot, ?_, ⟨lr.1, by have := h.lo; have := h.lb; omega⟩, ⟨lt.1, by have := h.lb; omega⟩⟩
  have e : m = 2 * (m / 2) + 1 := by omega
  rw [← h.eq, hr, ht]
  conv => rhs; rw [e]
  rw [Nat.pow_succ, Nat.pow_mul, Nat.pow_two, Nat.mul_assoc, Nat.mul_comm (limbV bs)]
theorem pow_even {T m U : Nat} {os bs ts : List Nat} (h : PowAt T m U os bs) (hm : m % 2 = 0) (ot : LimbsOk ts) (ht : limbV ts = limbV bs * limbV bs)
    (lt : 1 ≤ ts.length ∧ ts.length ≤ bs.length + bs.length + 1) : PowAt T (m / 2) (2 * U) os ts := by
  refine ⟨h.oo, ot, ?_, ⟨h.lo.1, by have := h.lo; omega⟩, ⟨lt.1, by have := h.lb; omega⟩⟩
  have e : m = 2 * (m / 2) := by omega
  rw [← h.eq, ht]
  conv => rhs; rw [e]
  rw [Nat.pow_mul, Nat.pow_two]

set_option maxHeartbeats 2000000 in
set_option maxRecDepth 100000 in
theorem l06Power_any (b n : Nat) (w : World) (hb : b < 1000000000) (hn : n ≤ 1100) :
    Calls Tryz.prog 85 #[.int .i64 b, .int .i64 n] w fun e w' => ∃ (v : Value) (xs : List Nat), e = .returned v ∧ Row w' w.heap.size v xs ∧ Below w.heap.size w w' ∧ limbV xs = b ^ n ∧ LimbsOk xs ∧ 1 ≤ xs.length ∧ xs.length ≤ 4400 := by
  obtain ⟨T, hT⟩ : ∃ T, b ^ n = T := ⟨_, rfl⟩
  rw [hT]
  go_enter Tryz.func85, Tryz.ntmps85
  go_upto_region 3 with fail
  go_loopw [1, 5, 6] (fun x vo vb wr => ∃ (m U : Nat) (os bs : List Nat), x = .int .i64 m ∧ m ≤ 1100 ∧ U * m ≤ 2200 ∧ U ≤ 4400 ∧ Row wr w.heap.size vo os ∧ Row wr w.heap.size vb bs ∧ Below w.heap.size w wr ∧ Hid (PowAt T m U os bs)) (fun x _ _ _ => (intOf x).toNat)
  case atStart =>
    refine ⟨n, 2, [1], [b], rfl, hn, by omega, by omega, ?_, ?_, ((Below.refl _ _).alloc (Nat.le_refl _) _).alloc (by simp) _, ?_⟩
    · exact Row.below (own_base (World.ownsRow_lit (base := w.heap.size) w #[.int .i64 1] 1 (Nat.le_refl _) (by unfold maxLen; omega) rfl) (Nat.le_refl _)) ((Below.refl _ _).alloc (Nat.le_refl _) _)
    · have h2 := World.ownsRow_lit (base := w.heap.size) (e := 3) (size := 1) (w.alloc (.cells #[.int .i64 1] 3)) #[.int .i64 b] 1 (by simp) (by unfold maxLen; omega) rfl
      have hs : (w.alloc (.cells #[.int .i64 1] 3)).heap.size = w.heap.size + 1 := by simp
      rw [hs] at h2
      exact h2
    · refine ⟨fun x hx => ?_, fun x hx => ?_, ?_, ⟨by simp, by simp⟩, ⟨by simp, by simp⟩⟩
      · rw [List.mem_singleton] at hx; omega
      · rw [List.mem_singleton] at hx; omega
      · rw [← hT]; simp [limbV]
  case round =>
    obtain ⟨m, U, os, bs, rfl, hm, hUm, hU, hO, hB, hbel, HP⟩ := hrel
    have hsz := hbel.size
    have l1 := HP.out.lo
    have l2 := HP.out.lb
    by_cases hm0 : 0 < m
    · have hU2 : 2 * U * (m / 2) ≤ 2200 := by
        have : 2 * U * (m / 2) = U * (2 * (m / 2)) := by rw [Nat.mul_comm 2 U, Nat.mul_assoc]
        have : U * (2 * (m / 2)) ≤ U * m := Nat.mul_le_mul_left _ (by omega)
        omega
      have hU3 : U ≤ 2200 := by
        have : U * 1 ≤ U * m := Nat.mul_le_mul_left _ hm0
        omega
      have HU : Hid (2 * U * (m / 2) ≤ 2200) := hU2
      clear hU2 hUm
      by_cases hodd : m % 2 = 1
      · have hodd' : ((m : Int) % 2 == 1) = true := by simp; omega
        have HO : Hid (Row wr w.heap.size _ os) := hO
        have HB : Hid (Row wr w.heap.size _ bs) := hB
        clear hO hB
        go_wp2_with fail
        refine (l06Mul_any _ _ os bs w.heap.size _ HO.out HB.out HP.out.oo HP.out.ob (by omega) (by omega)).mono ?_
        rintro e w1 ⟨v1, xs1, rfl, r1, b1, e1, k1, n1⟩
        go_wp2_with fail
        refine (l06Short_any v1 xs1 wr.heap.size _ r1 k1 (by omega) (by omega)).mono ?_
        rintro e w1' ⟨v2, ys, rfl, rfl, r2, e2, k2, n2, n3⟩
        go_wp2_with fail
        refine (l06Mul_any _ _ bs bs w.heap.size _ (HB.out.below b1) (HB.out.below b1) HP.out.ob HP.out.ob (by omega) (by omega)).mono ?_
        rintro e w2 ⟨v3, xs3, rfl, r3, b3, e3, k3, n4⟩
        go_wp2_with fail
        refine (l06Short_any v3 xs3 w1.heap.size _ r3 k3 (by omega) (by omega)).mono ?_
        rintro e w2' ⟨v4, zs, rfl, rfl, r4, e4, k4, n5, n6⟩
        have s1 := b1.size
        have hr2 : Row w2 w.heap.size v2 ys := (r2.below b3).base hsz
        have hr4 : Row w2 w.heap.size v4 zs := r4.base (by omega)
        have hbb : Below w.heap.size w w2 := chain (chain hbel b1) b3
        have HPP : Hid (PowAt T (m / 2) (2 * U) ys zs) := pow_odd HP.out hodd k2 k4 (by rw [e2, e1]) (by rw [e4, e3]) ⟨n2, by omega⟩ ⟨n5, by omega⟩
        clear r1 r2 r3 r4 HO HB HP e1 e2 e3 e4
        go_wp2
        go_roundw
        case rel => exact ⟨m / 2, 2 * U, ys, zs, by go_num, by omega, HU.out, by omega, hr2, hr4, hbb, HPP⟩
        case measure => simp [intOf]; omega
      · have hodd' : ((m : Int) % 2 == 1) = false := by rw [beq_eq_false_iff_ne]; omega
        have HO : Hid (Row wr w.heap.size _ os) := hO
        have HB : Hid (Row wr w.heap.size _ bs) := hB
        clear hO hB
        go_wp2_with fail
        refine (l06Mul_any _ _ bs bs w.heap.size _ HB.out HB.out HP.out.ob HP.out.ob (by omega) (by omega)).mono ?_
        rintro e w2 ⟨v3, xs3, rfl, r3, b3, e3, k3, n4⟩
        go_wp2_with fail
        refine (l06Short_any v3 xs3 wr.heap.size _ r3 k3 (by omega) (by omega)).mono ?_
        rintro e w2' ⟨v4, zs, rfl, rfl, r4, e4, k4, n5, n6⟩
        have hr2 : Row w2 w.heap.size _ os := HO.out.below b3
        have hr4 : Row w2 w.heap.size v4 zs := r4.base hsz
        have hbb : Below w.heap.size w w2 := chain hbel b3
        have HPP : Hid (PowAt T (m / 2) (2 * U) os zs) := pow_even HP.out (by omega) k4 (by rw [e4, e3]) ⟨n5, by omega⟩
        clear r3 r4 HO HB HP e3 e4
        go_wp2
        go_roundw
        case rel => exact ⟨m / 2, 2 * U, os, zs, by go_num, by omega, HU.out, by omega, hr2, hr4, hbb, HPP⟩
        case measure => simp [intOf]; omega
    · have hmz : m = 0 := by omega
      subst hmz
      have HE : Hid (limbV os = T ∧ LimbsOk os) := ⟨by have := HP.out.eq; simpa using this, HP.out.oo⟩
      clear HP
      go_wp2
      go_ret
      exact ⟨_, os, rfl, hO, hbel, HE.out.1, HE.out.2, by omega, by omega⟩

end Go.Proofs.YtcdplnejejpjnaaGreatDoor

namespace Go.Proofs.YtcdplnejejpjnaaGreatDoor
open Go.RowKit
set_option linter.unusedVariables false

/-- a great number as it is answered: its figures, and whether they are not too many -/
def greatS (n : Nat) : ByteArray := if (Lib.decDigits n).length ≤ 800 then txt (Lib.decDigits n) else ⟨#[]⟩
def greatB (n : Nat) : Bool := decide ((Lib.decDigits n).length ≤ 800)
/-- what is answered of two texts: the text, and whether there is one -/
def opS (f : Nat → Nat → Nat) (a b : ByteArray) : ByteArray := if figsOk a.data.toList = true ∧ figsOk b.data.toList = true then greatS (f (digV a.data.toList) (digV b.data.toList)) else ⟨#[]⟩
def opB (f : Nat → Nat → Nat) (a b : ByteArray) : Bool := if figsOk a.data.toList = true ∧ figsOk b.data.toList = true then greatB (f (digV a.data.toList) (digV b.data.toList)) else false
def powS (b n : Int) : ByteArray := if 2 ≤ b ∧ b ≤ 10 ∧ 0 ≤ n ∧ n ≤ 1100 then greatS (b.toNat ^ n.toNat) else ⟨#[]⟩
def powB (b n : Int) : Bool := if 2 ≤ b ∧ b ≤ 10 ∧ 0 ≤ n ∧ n ≤ 1100 then greatB (b.toNat ^ n.toNat) else false

theorem fits_any (n : Nat) (w : World) : Calls Tryz.prog 88 #[.string (txt (Lib.decDigits n))] w fun e w' => e = .returned (.tuple #[.string (greatS n), .bool (greatB n)]) ∧ w = w' := by
  have h := l06Fits_any (txt (Lib.decDigits n)) w
  rw [txt_size] at h
  exact h

theorem figsOk_size {s : ByteArray} (h : figsOk s.data.toList = true) : s.size ≤ 800 := by
  unfold figsOk at h
  simp only [Bool.and_eq_true, decide_eq_true_eq] at h
  rw [← size_list]; exact h.1.1.2

set_option maxHeartbeats 1000000 in
set_option maxRecDepth 100000 in
theorem specGreatAdd_any (a b : ByteArray) (w : World) :
    Calls Tryz.prog 50 #[.string a, .string b] w fun e w' => e = .returned (.tuple #[.string (opS (· + ·) a b), .bool (opB (· + ·) a b)]) ∧ Below w.heap.size w w' := by
  have cA := fun W => specFiguresOk_any a W
  have cB := fun W => specFiguresOk_any b W
  by_cases ha : figsOk a.data.toList = true
  · by_cases hb : figsOk b.data.toList = true
    · have hR : opS (· + ·) a b = greatS (digV a.data.toList + digV b.data.toList) ∧ opB (· + ·) a b = greatB (digV a.data.toList + digV b.data.toList) := by
        unfold opS opB
        rw [if_pos ⟨ha, hb⟩, if_pos ⟨ha, hb⟩]
        exact ⟨rfl, rfl⟩
      rw [hR.1, hR.2]
      have sa := figsOk_size ha
      have sb := figsOk_size hb
      have HFa : Hid (Figs a.data.toList) := figsOk_figs ha
      have HFb : Hid (Figs b.data.toList) := figsOk_figs hb
      rw [ha] at cA
      rw [hb] at cB
      have HN0 : Hid (∃ N, digV a.data.toList + digV b.data.toList = N) := ⟨_, rfl⟩
      obtain ⟨N, hN⟩ := HN0.out
      have HN : Hid (digV a.data.toList + digV b.data.toList = N) := hN
      rw [hN]
      have cF := fun W => fits_any N W
      obtain ⟨S, hS⟩ : ∃ S, greatS N = S := ⟨_, rfl⟩
      obtain ⟨k, hk⟩ : ∃ k, greatB N = k := ⟨_, rfl⟩
      rw [hS, hk] at cF ⊢
      clear hS hk hN HN0 hR ha hb
      go_enter Tryz.func50, Tryz.ntmps50
      go_wp2_with fail
      refine (cA _).mono ?_
      rintro e w' ⟨rfl, rfl⟩
      go_wp2_with fail
      refine (cB _).mono ?_
      rintro e w' ⟨rfl, rfl⟩
      go_wp2_with fail
      refine (l06Limbs_any a _ (by omega) HFa.out).mono ?_
      rintro e w1 ⟨v1, xs, rfl, r1, b1, e1, k1, n1⟩
      go_wp2_with fail
      refine (l06Limbs_any b _ (by omega) HFb.out).mono ?_
      rintro e w2 ⟨v2, ys, rfl, r2, b2, e2, k2, n2⟩
      go_wp2_with fail
      have s1 := b1.size
      refine (l06Add_any _ _ xs ys w.heap.size _ (r1.below b2) (r2.base s1) k1 k2 (by omega) (by omega)).mono ?_
      rintro e w3 ⟨v3, zs, rfl, r3, b3, e3, k3, n3⟩
      go_wp2_with fail
      have hv : limbV zs = digV a.data.toList + digV b.data.toList := by rw [e3, e1, e2]
      have cT := fun W (hW : Row W w2.heap.size v3 zs) => l06Text_any v3 zs w2.heap.size W hW k3 (by omega)
      rw [hv] at cT
      have bb := chain (chain b1 b2) b3
      clear e1 e2 e3 k1 k2 k3 r1 r2 hv
      rw [HN.out] at cT
      refine (cT _ r3).mono ?_
      rintro e w4 ⟨rfl, b4⟩
      clear cT r3
      go_wp2_with fail
      refine (cF _).mono ?_
      rintro e w' ⟨rfl, rfl⟩
      go_wp2
      go_ret2
      exact ⟨rfl, chain bb b4⟩
    · have hR : opS (· + ·) a b = ⟨#[]⟩ ∧ opB (· + ·) a b = false := by
        unfold opS opB
        rw [if_neg (fun h => hb h.2), if_neg (fun h => hb h.2)]
        exact ⟨rfl, rfl⟩
      have hb' : figsOk b.data.toList = false := by simpa using hb
      rw [hR.1, hR.2]
      rw [ha] at cA
      rw [hb'] at cB
      clear hR ha hb hb'
      go_enter Tryz.func50, Tryz.ntmps50
      go_wp2_with fail
      refine (cA _).mono ?_
      rintro e w' ⟨rfl, rfl⟩
      go_wp2_with fail
      refine (cB _).mono ?_
      rintro e w' ⟨rfl, rfl⟩
      go_wp2
      go_ret2
      exact ⟨rfl, Below.refl _ _⟩
  · have hR : opS (· + ·) a b = ⟨#[]⟩ ∧ opB (· + ·) a b = false := by
      unfold opS opB
      rw [if_neg (fun h => ha h.1), if_neg (fun h => ha h.1)]
      exact ⟨rfl, rfl⟩
    have ha' : figsOk a.data.toList = false := by simpa using ha
    rw [hR.1, hR.2]
    rw [ha'] at cA
    clear hR ha ha'
    go_enter Tryz.func50, Tryz.ntmps50
    go_wp2_with fail
    refine (cA _).mono ?_
    rintro e w' ⟨rfl, rfl⟩
    go_wp2
    go_ret2
    exact ⟨rfl, Below.refl _ _⟩

end Go.Proofs.YtcdplnejejpjnaaGreatDoor

namespace Go.Proofs.YtcdplnejejpjnaaGreatDoor
open Go.RowKit
set_option linter.unusedVariables false

/-- less, by the numbers -/
def lessG (a b : ByteArray) : Bool := figsOk a.data.toList && figsOk b.data.toList && decide (digV a.data.toList < digV b.data.toList)

/-- fewer right figures are a lesser number -/
theorem figs_fewer {l m : List UInt8} (hl : figsOk l = true) (hm : figsOk m = true) (h : l.length < m.length) : digV l < digV m := by
  have h1 := digV_lt (figsOk_figs hl)
  have hf := figsOk_figs hm
  unfold figsOk at hl hm
  simp only [Bool.and_eq_true, Bool.or_eq_true, decide_eq_true_eq] at hl hm
  have h2 : 1 < m.length := by omega
  match m, h2, hm, hf with
  | c :: r, h2, hm, hf =>
    have hc := hf c (by simp)
    have hn : c.toNat ≠ 48 := by
      rcases hm.1.2 with h' | h'
      · omega
      · simpa using h'
    have e := digV_append [c] r
    rw [List.singleton_append] at e
    have e2 : digV [c] = c.toNat - 48 := by simp [digV]
    rw [e, e2]
    have h3 : 10 ^ l.length ≤ 10 ^ r.length := Nat.pow_le_pow_right (by decide) (by simp at h; omega)
    have h4 : 1 * 10 ^ r.length ≤ (c.toNat - 48) * 10 ^ r.length := Nat.mul_le_mul_right _ (by omega)
    omega

theorem digV_cons (c : UInt8) (r : List UInt8) : digV (c :: r) = (c.toNat - 48) * 10 ^ r.length + digV r := by
  have e := digV_append [c] r
  rw [List.singleton_append] at e
  have e2 : digV [c] = c.toNat - 48 := by simp [digV]
  rw [e, e2]

/-- as many figures: byte by byte -/
theorem less_bytes : ∀ (l m : List UInt8), Figs l → Figs m → l.length = m.length → Op.bytesLess l m = decide (digV l < digV m)
  | [], [], _, _, _ => by simp [Op.bytesLess, digV_nil]
  | [], _ :: _, _, _, h => by simp at h
  | _ :: _, [], _, _, h => by simp at h
  | a :: l, b :: m, hl, hm, h => by
    have hlen : l.length = m.length := by simpa using h
    have hl' : Figs l := fun c hc => hl c (by simp [hc])
    have hm' : Figs m := fun c hc => hm c (by simp [hc])
    have ih := less_bytes l m hl' hm' hlen
    have ha := hl a (by simp)
    have hb := hm b (by simp)
    have v1 := digV_lt hl'
    have v2 := digV_lt hm'
    rw [Op.bytesLess, ih, digV_cons, digV_cons, hlen]
    rw [hlen] at v1
    have hP : 0 < 10 ^ m.length := Nat.pow_pos (by decide)
    rcases Nat.lt_trichotomy a.toNat b.toNat with h1 | h1 | h1
    · have h2 : a < b := UInt8.lt_iff_toNat_lt.2 h1
      have h3 : (a.toNat - 48 + 1) * 10 ^ m.length ≤ (b.toNat - 48) * 10 ^ m.length := Nat.mul_le_mul_right _ (by omega)
      rw [Nat.add_mul] at h3
      rw [decide_eq_true h2, Bool.true_or, decide_eq_true (by omega)]
    · have h2 : a = b := UInt8.toNat_inj.1 h1
      subst h2
      have h3 : ¬a < a := by rw [UInt8.lt_iff_toNat_lt]; omega
      rw [decide_eq_false h3, Bool.false_or, beq_self_eq_true, Bool.true_and, Bool.eq_iff_iff, decide_eq_true_iff, decide_eq_true_iff]
      omega
    · have h2 : ¬a < b := by rw [UInt8.lt_iff_toNat_lt]; omega
      have h3 : (a == b) = false := by
        rw [beq_eq_false_iff_ne]
        intro e; subst e; omega
      have h4 : (b.toNat - 48 + 1) * 10 ^ m.length ≤ (a.toNat - 48) * 10 ^ m.length := Nat.mul_le_mul_right _ (by omega)
      rw [Nat.add_mul] at h4
      rw [decide_eq_false h2, h3, Bool.false_and, Bool.or_false, decide_eq_false (by omega)]

end Go.Proofs.YtcdplnejejpjnaaGreatDoor

namespace Go.Proofs.YtcdplnejejpjnaaGreatDoor
open Go.RowKit
set_option linter.unusedVariables false

def subS (a b : ByteArray) : ByteArray := if figsOk a.data.toList = true ∧ figsOk b.data.toList = true ∧ digV b.data.toList ≤ digV a.data.toList then txt (Lib.decDigits (digV a.data.toList - digV b.data.toList)) else ⟨#[]⟩
def subB (a b : ByteArray) : Bool := decide (figsOk a.data.toList = true ∧ figsOk b.data.toList = true ∧ digV b.data.toList ≤ digV a.data.toList)

theorem limbV_split (xs : List Nat) (i : Nat) : limbV xs = limbV (xs.take i) + 10 ^ (9 * i) * limbV (xs.drop i) := by
  induction i generalizing xs with
  | zero => simp [limbV]
  | succ i ih =>
    cases xs with
    | nil => simp [limbV]
    | cons a l =>
      rw [List.take_succ_cons, List.drop_succ_cons, limbV, limbV, ih l, nine_pow, Nat.mul_add, Nat.mul_assoc]
      omega

/-- a difference of limbs up to a place -/
structure SubAt (ls ms xs : List Nat) (i c : Nat) : Prop where
  ok : LimbsOk xs
  len : xs.length = i
  eq : limbV (ls.take i) + 10 ^ (9 * i) * c = limbV xs + limbV (ms.take i)
theorem subAt_start (ls ms : List Nat) : SubAt ls ms [] 0 0 := ⟨limbsOk_nil, rfl, by simp [limbV]⟩
theorem subAt_step {ls ms xs : List Nat} {i c c' z : Nat} (h : SubAt ls ms xs i c) (hz : z < 1000000000) (he : z + ms.getD i 0 + c = ls.getD i 0 + 1000000000 * c') : SubAt ls ms (xs ++ [z]) (i + 1) c' := by
  obtain ⟨h1, h2, h3⟩ := h
  refine ⟨limbsOk_snoc h1 hz, by simp [h2], ?_⟩
  rw [limbV_snoc, limbV_take, limbV_take, h2, nine_pow]
  generalize ls.getD i 0 = x at *
  generalize ms.getD i 0 = y at *
  generalize 10 ^ (9 * i) = P at *
  have e2 : P * (z + y + c) = P * (x + 1000000000 * c') := by rw [he]
  rw [Nat.mul_add, Nat.mul_add, Nat.mul_add] at e2
  have e3 : 1000000000 * P * c' = P * (1000000000 * c') := by rw [Nat.mul_comm 1000000000, Nat.mul_assoc]
  omega
theorem subAt_end {ls ms xs : List Nat} {c : Nat} (h : SubAt ls ms xs ls.length c) (hl : LimbsOk ls) (hle : limbV ms ≤ limbV ls) : limbV xs = limbV ls - limbV ms := by
  obtain ⟨h1, h2, h3⟩ := h
  have a1 := limbV_lt hl
  have a2 := limbV_lt h1
  rw [h2] at a2
  have a3 := limbV_split ms ls.length
  rw [List.take_length] at h3
  generalize 10 ^ (9 * ls.length) = P at *
  have a4 : limbV (ms.drop ls.length) = 0 := by
    rcases Nat.eq_zero_or_pos (limbV (ms.drop ls.length)) with h' | h'
    · exact h'
    · have : P * 1 ≤ P * limbV (ms.drop ls.length) := Nat.mul_le_mul_left _ h'
      omega
  rw [a4, Nat.mul_zero, Nat.add_zero] at a3
  rw [← a3] at h3
  have a5 : c = 0 := by
    rcases Nat.eq_zero_or_pos c with h' | h'
    · exact h'
    · have : P * 1 ≤ P * c := Nat.mul_le_mul_left _ h'
      omega
  subst a5
  omega

end Go.Proofs.YtcdplnejejpjnaaGreatDoor
