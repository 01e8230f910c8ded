/-
  The walks of the specification's numbers in limbs of 32 bits: how many count, times a number and more.
-/
import Derived.Test.YtfbdhafbpcpjlaaGreat
import Derived.Test.YtfbdhafbpcpjlaaBinB
namespace Go.Proofs.Ytfbdhafbpcpjlaa
open Go.RowKit
set_option linter.unusedVariables false

theorem Try.infoWord : (Try.prog.info? 24).map (fun i => (i.zero, i.size, i.bytes)) = some (some (.int .u64 0), 1, 8) := by kernel_rfl

/-- a list of words that a call made -/
def RowW (w : World) (B : Nat) (v : Value) (xs : List Nat) : Prop := w.ownsRow B 24 1 v xs.length (xs.map fun x => Value.int .u64 (x : Nat))

theorem RowW.below {w w' : World} {B : Nat} {v : Value} {xs : List Nat} (h : RowW w B v xs) (hb : Below w.heap.size w w') : RowW w' B v xs := by
  refine ⟨h.1, ?_⟩
  rcases h.2 with hn | ⟨g, cap, cur, rfl, h1, h2, rest⟩
  · exact .inl hn
  · refine .inr ⟨g, cap, cur, rfl, h1, ?_, rest⟩
    rw [hb.block g (Array.getElem?_eq_some_iff.1 h2).1]
    exact h2
theorem RowW.base {w : World} {B B' : Nat} {v : Value} {xs : List Nat} (h : RowW w B v xs) (hb : B' ≤ B) : RowW w B' v xs := by
  refine ⟨h.1, ?_⟩
  rcases h.2 with hn | ⟨g, cap, cur, rfl, h1, rest⟩
  · exact .inl hn
  · exact .inr ⟨g, cap, cur, rfl, by omega, rest⟩
theorem RowW.cells {w : World} {B : Nat} {v : Value} {xs : List Nat} (h : RowW w B v xs) :
    (v = .slice none 0 0 ∧ xs = []) ∨ ∃ g cap, v = .slice (some ⟨g, 0, none⟩) xs.length cap ∧ B ≤ g ∧ g < w.heap.size ∧ ∀ j, j < xs.length → w.cell? ⟨g, j, none⟩ = some (.int .u64 (xs.getD j 0 : Nat)) := by
  have hc := fun g (hg : v.ownBlock = some g) => World.ownsRow.cells h hg
  have hl := World.ownsRow.lt h
  rcases h.2 with ⟨hv, hn⟩ | ⟨g, cap, cur, rfl, h1, h2, h3, h4, h5, h6⟩
  · exact .inl ⟨hv, List.eq_nil_of_length_eq_zero hn⟩
  · refine .inr ⟨g, cap, rfl, h1, (hl g rfl).2, fun j hj => ?_⟩
    have hadd : (⟨g, 0, none⟩ : Addr).add j = ⟨g, j, none⟩ := by unfold Addr.add; split <;> simp_all
    have := hc g rfl j (.int .u64 (xs.getD j 0 : Nat)) (by
      rw [List.getElem?_map, List.getElem?_eq_getElem hj, List.getD_eq_getElem?_getD, List.getElem?_eq_getElem hj]
      rfl)
    rw [hadd] at this
    exact this
theorem RowW.shape {w : World} {B : Nat} {v : Value} {xs : List Nat} (h : RowW w B v xs) : ∃ p c, v = .slice p xs.length c := by
  rcases h.cells with ⟨rfl, rfl⟩ | ⟨g, cap, rfl, _⟩
  · exact ⟨none, 0, rfl⟩
  · exact ⟨_, cap, rfl⟩
theorem RowW.at {w : World} {B : Nat} {p : Option Addr} {c i : Nat} {xs : List Nat} (h : RowW w B (.slice p xs.length c) xs) (hi : i < xs.length) : ∃ ga, p = some ⟨ga, 0, none⟩ ∧ w.cell? ⟨ga, i, none⟩ = some (.int .u64 (xs.getD i 0 : Nat)) := by
  rcases h.cells with ⟨_, h'⟩ | ⟨ga, cap, h', _, _, h''⟩
  · rw [h'] at hi; simp at hi
  · injection h' with h' _ _
    exact ⟨ga, h', h'' i hi⟩

set_option maxHeartbeats 2000000 in
set_option maxRecDepth 100000 in
theorem l07MulAdd_any (v : Value) (ls : List Nat) (b m0 B : Nat) (w : World) (hA : RowW w B v ls) (oa : BinOk ls) (hb : b < 4294967296) (hm : m0 < 4294967296) (la : ls.length ≤ 1048576) :
    Calls Try.prog 28 #[v, .int .u64 b, .int .u64 m0] w fun e w' => ∃ (v' : Value) (xs : List Nat), e = .returned v' ∧ RowW w' w.heap.size v' xs ∧ Below w.heap.size w w' ∧ binV xs = binV ls * b + m0 ∧ BinOk xs ∧ xs.length ≤ ls.length + 1 := by
  obtain ⟨i0, hi, hz0, hz1, hz2⟩ := info_parts Try.infoWord
  obtain ⟨pa, ca, rfl⟩ := hA.shape
  have HA : Hid (RowW w B (.slice pa ls.length ca) ls ∧ BinOk ls) := ⟨hA, oa⟩
  have hb' : (b : Int) < 4294967296 := by omega
  have hm' : (m0 : Int) < 4294967296 := by omega
  clear hA oa
  go_enter Try.func28, Try.ntmps28
  go_upto_region 3 with fail
  go_loopw [2, 7, 8] (fun x u y wr => ∃ (i mo : Nat) (xs : List Nat), y = .int .i64 i ∧ x = .int .u64 mo ∧ i ≤ ls.length ∧ (mo : Int) < 4294967296 ∧ wr.ownsRow w.heap.size 24 1 u i (xs.map fun x => Value.int .u64 (x : Nat)) ∧ Below w.heap.size w wr ∧ Hid (MulAddAt ls xs b m0 i mo)) (fun _ _ y _ => ls.length - (intOf y).toNat)
  case atStart => exact ⟨0, m0, [], rfl, rfl, by omega, hm', World.ownsRow_made w #[] 0 (Nat.le_refl _) (Nat.zero_le _) rfl, (Below.refl _ _).alloc (Nat.le_refl _) _, mulAdd_start ls b m0⟩
  case round =>
    obtain ⟨i, mo, xs, rfl, rfl, hil, hmo, hown, hbel, HI⟩ := hrel
    have hsz := hbel.size
    by_cases hlt : i < ls.length
    · obtain ⟨ga, rfl, hca⟩ := (HA.out.1.below hbel).at hlt
      have o2 := binOk_at HA.out.2 i
      have HS : Hid (∀ X, ls.getD i 0 * b + mo = X → MulAddAt ls (xs ++ [X % 4294967296]) b m0 (i + 1) (X / 4294967296)) := fun X h => mulAdd_step HI.out h
      obtain ⟨x, hx⟩ : ∃ x, ls.getD i 0 = x := ⟨_, rfl⟩
      rw [hx] at hca o2 HS
      obtain ⟨p, hp⟩ : ∃ p, x * b = p := ⟨_, rfl⟩
      have hp1 : (x : Int) * b = p := by rw [← hp]; simp
      have hp2 : (p : Int) ≤ 18446744065119617025 := by
        have : x * b ≤ 4294967295 * 4294967295 := Nat.mul_le_mul (by omega) (by omega)
        omega
      rw [hp] at HS
      obtain ⟨X, hX⟩ : ∃ X, p + mo = X := ⟨_, rfl⟩
      have hX1 : (p : Int) + mo = X := by omega
      have hX2 : (X : Int) < 18446744069414584321 := by omega
      have HN : Hid (MulAddAt ls (xs ++ [X % 4294967296]) b m0 (i + 1) (X / 4294967296)) := HS.out X hX
      have hil' : (i : Int) < ls.length := by omega
      clear HS hx hp hX o2 HI
      go_wp2_with (at_builtin; refine append_one (w0 := w) rfl _ _ 45 rfl w.heap.size 24 i0 (.int .u64 0) 8 Try.underlying45 hi hz0 hz1 hz2 rfl _ _ _ rfl hown (.int .u64 ((X : Int) % 4294967296)) rfl rfl (by omega) (by decide) hbel hsz ?_)
      intro v' w2 hown' hbel'
      have hrow : w2.ownsRow w.heap.size 24 1 v' (i + 1) ((xs ++ [X % 4294967296]).map fun x => Value.int .u64 (x : Nat)) := by simpa using hown'
      clear hown' hown
      go_wp2
      go_roundw
      case rel => exact ⟨i + 1, X / 4294967296, xs ++ [X % 4294967296], by go_num, by go_num, by omega, by omega, hrow, hbel', HN⟩
      case measure => simp [intOf]; omega
    · have hie : i = ls.length := by omega
      subst hie
      have hE := HI.out.eq
      rw [List.take_length] at hE
      have hxl := HI.out.len
      have hok := HI.out.ok
      by_cases hmz : 0 < mo
      · have HE : Hid (binV (xs ++ [mo]) = binV ls * b + m0 ∧ BinOk (xs ++ [mo]) ∧ (xs ++ [mo]).length = ls.length + 1) := ⟨by rw [binV_snoc, hxl]; exact hE, binOk_snoc hok (by omega), by simp [hxl]⟩
        clear HI hE hok hxl
        go_wp2_with (at_builtin; refine append_one (w0 := w) rfl _ _ 45 rfl w.heap.size 24 i0 (.int .u64 0) 8 Try.underlying45 hi hz0 hz1 hz2 rfl _ _ _ rfl hown (.int .u64 (mo : Int)) rfl rfl (by omega) (by decide) hbel hsz ?_)
        intro v' w2 hown' hbel'
        have hrow : w2.ownsRow w.heap.size 24 1 v' (ls.length + 1) ((xs ++ [mo]).map fun x => Value.int .u64 (x : Nat)) := by simpa using hown'
        go_wp2
        go_ret
        refine ⟨_, xs ++ [mo], rfl, ?_, hbel', HE.out.1, HE.out.2.1, by rw [HE.out.2.2]; exact Nat.le_refl _⟩
        show World.ownsRow _ _ _ _ _ (xs ++ [mo]).length _
        rw [HE.out.2.2]
        exact hrow
      · have hm0 : mo = 0 := by omega
        subst hm0
        have HE : Hid (binV xs = binV ls * b + m0 ∧ BinOk xs ∧ xs.length = ls.length) := ⟨by rw [Nat.mul_zero, Nat.add_zero] at hE; exact hE, hok, hxl⟩
        clear HI hE hok hxl
        go_wp2
        go_ret
        refine ⟨_, xs, rfl, ?_, hbel, HE.out.1, HE.out.2.1, by rw [HE.out.2.2]; omega⟩
        show World.ownsRow _ _ _ _ _ xs.length _
        rw [HE.out.2.2]
        exact hown

end Go.Proofs.Ytfbdhafbpcpjlaa
