/-
  Several texts in one: ITok, ITokN, ITokM.
-/
import Derived.Test.YtcabanghegddhaaGreatDoorScanA
import Derived.Lib.OthersKept
import Derived.Laws.RangeAny
import Derived.Test.YtcabanghegddhaaGreatDoorShelf
import Derived.WalkLawsBesides
import Derived.Maps.Own
import Derived.Maps.Views
import Derived.Maps.OwnOps
import Derived.StringKeys
namespace Go.Proofs.YtcabanghegddhaaGreatDoor
open Go.RowKit
set_option linter.unusedVariables false

/-- the kinds, of runes -/
def figR (r : Nat) : Bool := decide (48 ≤ r) && decide (r ≤ 57)
def letR (r : Nat) : Bool := (decide (97 ≤ r) && decide (r ≤ 122)) || (decide (65 ≤ r) && decide (r ≤ 90)) || decide (r = 95)
def textR (r : Nat) : Bool := decide (32 ≤ r) && decide (r ≤ 126) && !decide (r = 34)
def blankR (r : Nat) : Bool := decide (r = 32) || decide (r = 10) || decide (r = 9)
def isNam (c : UInt8) : Bool := isLet c || isFig c
def isTxt (c : UInt8) : Bool := textR c.toNat

set_option maxHeartbeats 400000 in
set_option maxRecDepth 100000 in
theorem isFigure_any (n : Nat) (w : World) :
    Calls Tryz.prog 25 #[.int .i32 (n : Int)] w fun e w' => e = .returned (.bool (figR n)) ∧ w = w' := by
  obtain ⟨R, hR⟩ : ∃ R, figR n = R := ⟨_, rfl⟩
  rw [hR]
  unfold figR at hR
  by_cases h1 : 48 ≤ n
  · have h1' : (48 : Int) ≤ n := by omega
    by_cases h2 : n ≤ 57
    · have h2' : (n : Int) ≤ 57 := by omega
      rw [decide_eq_true h1, decide_eq_true h2] at hR
      subst hR
      go_enter Tryz.func25, Tryz.ntmps25
      go_wp2
      go_ret
      exact ⟨rfl, rfl⟩
    · have h2' : decide ((n : Int) ≤ 57) = false := by simp; omega
      rw [decide_eq_true h1, decide_eq_false h2] at hR
      subst hR
      go_enter Tryz.func25, Tryz.ntmps25
      go_wp2
      go_ret
      exact ⟨rfl, rfl⟩
  · have h1' : decide ((48 : Int) ≤ n) = false := by simp; omega
    rw [decide_eq_false h1] at hR
    subst hR
    go_enter Tryz.func25, Tryz.ntmps25
    go_wp2
    go_ret
    exact ⟨rfl, rfl⟩

set_option maxHeartbeats 400000 in
set_option maxRecDepth 100000 in
theorem isBlank_any (n : Nat) (w : World) :
    Calls Tryz.prog 13 #[.int .i32 (n : Int)] w fun e w' => e = .returned (.bool (blankR n)) ∧ w = w' := by
  by_cases h1 : n = 32
  · subst h1
    go_enter Tryz.func13, Tryz.ntmps13
    go_wp2
    go_ret
    exact ⟨rfl, rfl⟩
  · have h1' : ((n : Int) == 32) = false := by rw [beq_eq_false_iff_ne]; omega
    by_cases h2 : n = 10
    · subst h2
      go_enter Tryz.func13, Tryz.ntmps13
      go_wp2
      go_ret
      exact ⟨rfl, rfl⟩
    · have h2' : ((n : Int) == 10) = false := by rw [beq_eq_false_iff_ne]; omega
      by_cases h3 : n = 9
      · subst h3
        go_enter Tryz.func13, Tryz.ntmps13
        go_wp2
        go_ret
        exact ⟨rfl, rfl⟩
      · have h3' : ((n : Int) == 9) = false := by rw [beq_eq_false_iff_ne]; omega
        have hR : blankR n = false := by unfold blankR; rw [decide_eq_false h1, decide_eq_false h2, decide_eq_false h3]; rfl
        rw [hR]
        go_enter Tryz.func13, Tryz.ntmps13
        go_wp2
        go_ret
        exact ⟨rfl, rfl⟩

set_option maxHeartbeats 400000 in
set_option maxRecDepth 100000 in
theorem beginsName_any (n : Nat) (w : World) :
    Calls Tryz.prog 23 #[.int .i32 (n : Int)] w fun e w' => e = .returned (.bool (letR n)) ∧ w = w' := by
  obtain ⟨R, hR⟩ : ∃ R, letR n = R := ⟨_, rfl⟩
  rw [hR]
  unfold letR at hR
  by_cases h1 : 97 ≤ n
  · have h1' : (97 : Int) ≤ n := by omega
    by_cases h2 : n ≤ 122
    · have h2' : (n : Int) ≤ 122 := by omega
      rw [decide_eq_true h1, decide_eq_true h2] at hR
      subst hR
      go_enter Tryz.func23, Tryz.ntmps23
      go_wp2
      go_ret
      exact ⟨rfl, rfl⟩
    · have h2' : decide ((n : Int) ≤ 122) = false := by simp; omega
      have h3' : (65 : Int) ≤ n := by omega
      have h4' : decide ((n : Int) ≤ 90) = false := by simp; omega
      have h5' : ((n : Int) == 95) = false := by rw [beq_eq_false_iff_ne]; omega
      rw [decide_eq_false h2, decide_eq_false (by omega : ¬n ≤ 90), decide_eq_false (by omega : ¬n = 95), Bool.and_false, Bool.and_false] at hR
      subst hR
      go_enter Tryz.func23, Tryz.ntmps23
      go_wp2
      go_ret
      exact ⟨rfl, rfl⟩
  · have h1' : decide ((97 : Int) ≤ n) = false := by simp; omega
    rw [decide_eq_false h1, Bool.false_and, Bool.false_or] at hR
    by_cases h3 : 65 ≤ n
    · have h3' : (65 : Int) ≤ n := by omega
      by_cases h4 : n ≤ 90
      · have h4' : (n : Int) ≤ 90 := by omega
        rw [decide_eq_true h3, decide_eq_true h4] at hR
        subst hR
        go_enter Tryz.func23, Tryz.ntmps23
        go_wp2
        go_ret
        exact ⟨rfl, rfl⟩
      · have h4' : decide ((n : Int) ≤ 90) = false := by simp; omega
        rw [decide_eq_false h4, Bool.and_false, Bool.false_or] at hR
        by_cases h5 : n = 95
        · rw [decide_eq_true h5] at hR
          subst hR
          subst h5
          go_enter Tryz.func23, Tryz.ntmps23
          go_wp2
          go_ret
          exact ⟨rfl, rfl⟩
        · rw [decide_eq_false h5] at hR
          subst hR
          have h5' : ((n : Int) == 95) = false := by rw [beq_eq_false_iff_ne]; omega
          go_enter Tryz.func23, Tryz.ntmps23
          go_wp2
          go_ret
          exact ⟨rfl, rfl⟩
    · have h3' : decide ((65 : Int) ≤ n) = false := by simp; omega
      have h5' : ((n : Int) == 95) = false := by rw [beq_eq_false_iff_ne]; omega
      rw [decide_eq_false h3, decide_eq_false (by omega : ¬n = 95)] at hR
      subst hR
      go_enter Tryz.func23, Tryz.ntmps23
      go_wp2
      go_ret
      exact ⟨rfl, rfl⟩

set_option maxHeartbeats 400000 in
set_option maxRecDepth 100000 in
theorem goesOnName_any (n : Nat) (w : World) :
    Calls Tryz.prog 47 #[.int .i32 (n : Int)] w fun e w' => e = .returned (.bool (letR n || figR n)) ∧ w = w' := by
  have c1 := fun W => beginsName_any n W
  have c2 := fun W => isFigure_any n W
  obtain ⟨x, hx⟩ : ∃ x, letR n = x := ⟨_, rfl⟩
  obtain ⟨y, hy⟩ : ∃ y, figR n = y := ⟨_, rfl⟩
  rw [hx] at c1
  rw [hy] at c2
  rw [hx, hy]
  clear hx hy
  cases x
  · go_enter Tryz.func47, Tryz.ntmps47
    go_wp2_with fail
    refine (c1 _).mono ?_
    rintro e w' ⟨rfl, rfl⟩
    go_wp2_with fail
    refine (c2 _).mono ?_
    rintro e w' ⟨rfl, rfl⟩
    go_wp2
    go_ret
    exact ⟨rfl, rfl⟩
  · go_enter Tryz.func47, Tryz.ntmps47
    go_wp2_with fail
    refine (c1 _).mono ?_
    rintro e w' ⟨rfl, rfl⟩
    go_wp2
    go_ret
    exact ⟨rfl, rfl⟩

set_option maxHeartbeats 400000 in
set_option maxRecDepth 100000 in
theorem goesOnText_any (n : Nat) (w : World) :
    Calls Tryz.prog 50 #[.int .i32 (n : Int)] w fun e w' => e = .returned (.bool (textR n)) ∧ w = w' := by
  obtain ⟨R, hR⟩ : ∃ R, textR n = R := ⟨_, rfl⟩
  rw [hR]
  unfold textR at hR
  by_cases h1 : 32 ≤ n
  · have h1' : (32 : Int) ≤ n := by omega
    by_cases h2 : n ≤ 126
    · have h2' : (n : Int) ≤ 126 := by omega
      by_cases h3 : n = 34
      · subst h3
        subst hR
        go_enter Tryz.func50, Tryz.ntmps50
        go_wp2
        go_ret
        exact ⟨rfl, rfl⟩
      · have h3' : ((n : Int) == 34) = false := by rw [beq_eq_false_iff_ne]; omega
        have h3'' : ((n : Int) != 34) = true := by rw [bne_iff_ne]; omega
        rw [decide_eq_true h1, decide_eq_true h2, decide_eq_false h3] at hR
        subst hR
        go_enter Tryz.func50, Tryz.ntmps50
        go_wp2
        go_ret
        exact ⟨rfl, rfl⟩
    · have h2' : decide ((n : Int) ≤ 126) = false := by simp; omega
      rw [decide_eq_true h1, decide_eq_false h2] at hR
      subst hR
      go_enter Tryz.func50, Tryz.ntmps50
      go_wp2
      go_ret
      exact ⟨rfl, rfl⟩
  · have h1' : decide ((32 : Int) ≤ n) = false := by simp; omega
    rw [decide_eq_false h1] at hR
    subst hR
    go_enter Tryz.func50, Tryz.ntmps50
    go_wp2
    go_ret
    exact ⟨rfl, rfl⟩

/-- a kind of runes that is of bytes below 128 alone -/
def KindOf (q : Nat → Bool) (p : UInt8 → Bool) : Prop := (∀ c : UInt8, c.toNat < 128 → p c = q c.toNat) ∧ (∀ c : UInt8, 128 ≤ c.toNat → p c = false) ∧ ∀ n, 128 ≤ n → q n = false
theorem kind_rune {q : Nat → Bool} {p : UInt8 → Bool} (h : KindOf q p) {s : ByteArray} {i : Nat} (hi : i < s.size) : q (Utf8.decode s i).1 = p s[i] ∧ (p s[i] = true → (Utf8.decode s i).2 = 1) ∧ 1 ≤ (Utf8.decode s i).2 := by
  by_cases ha : (s[i]).toNat < 128
  · rw [decode_ascii s i hi ha]
    exact ⟨(h.1 _ ha).symm, fun _ => rfl, Nat.le_refl _⟩
  · obtain ⟨h1, h2⟩ := decode_high s i hi (by omega)
    rw [h.2.1 _ (by omega), h.2.2 _ h1]
    exact ⟨rfl, fun (h : false = true) => absurd h (by decide), h2⟩
theorem kind_fig : KindOf figR isFig := by
  refine ⟨fun c _ => rfl, fun c h => ?_, fun n h => ?_⟩
  · unfold isFig; rw [decide_eq_false (by omega : ¬c.toNat ≤ 57), Bool.and_false]
  · unfold figR; rw [decide_eq_false (by omega : ¬n ≤ 57), Bool.and_false]
theorem kind_let : KindOf letR isLet := by
  refine ⟨fun c _ => rfl, fun c h => ?_, fun n h => ?_⟩
  · unfold isLet; rw [decide_eq_false (by omega : ¬c.toNat ≤ 122), decide_eq_false (by omega : ¬c.toNat ≤ 90), decide_eq_false (by omega : ¬c.toNat = 95)]; simp
  · unfold letR; rw [decide_eq_false (by omega : ¬n ≤ 122), decide_eq_false (by omega : ¬n ≤ 90), decide_eq_false (by omega : ¬n = 95)]; simp
theorem kind_name : KindOf (fun n => letR n || figR n) isNam :=
  ⟨fun c h => by unfold isNam; simp only; rw [kind_let.1 c h, kind_fig.1 c h], fun c h => by unfold isNam; rw [kind_let.2.1 c h, kind_fig.2.1 c h]; rfl, fun n h => by simp only; rw [kind_let.2.2 n h, kind_fig.2.2 n h]; rfl⟩
theorem kind_text : KindOf textR isTxt := by
  refine ⟨fun c _ => rfl, fun c h => ?_, fun n h => ?_⟩
  · unfold isTxt textR; rw [decide_eq_false (by omega : ¬c.toNat ≤ 126)]; simp
  · unfold textR; rw [decide_eq_false (by omega : ¬n ≤ 126)]; simp
theorem kind_blank : KindOf blankR isBlk := by
  refine ⟨fun c _ => rfl, fun c h => ?_, fun n h => ?_⟩
  · unfold isBlk; rw [decide_eq_false (by omega : ¬c.toNat = 32), decide_eq_false (by omega : ¬c.toNat = 10), decide_eq_false (by omega : ¬c.toNat = 9)]; simp
  · unfold blankR; rw [decide_eq_false (by omega : ¬n = 32), decide_eq_false (by omega : ¬n = 10), decide_eq_false (by omega : ¬n = 9)]; simp

theorem iterPos_of {w : World} {k : Nat} {s : ByteArray} {p : Nat} (h : w.heap[k]? = some (.stringIter s p)) : w.iterPos k = p := by simp [World.iterPos, h]

set_option maxHeartbeats 1000000 in
set_option maxRecDepth 100000 in
theorem sizeAhead_fig (s : ByteArray) (w : World) (hs : s.size ≤ 1048576) :
    Calls Tryz.prog 46 #[.string s, .func (.func 25) #[] #[]] w fun e w' => e = .returned (.int .i64 ((s.data.toList.takeWhile isFig).length : Nat)) ∧ Below w.heap.size w w' := by
  obtain ⟨R, hR⟩ : ∃ R, (s.data.toList.takeWhile isFig).length = R := ⟨_, rfl⟩
  have HR : Hid (Unit → (s.data.toList.takeWhile isFig).length = R) := fun _ => hR
  rw [hR]
  clear hR
  have hmf : ∀ (fn : Fn) (first cap : Array Value) (w : World), (Instr.makeFunc fn first cap).run Tryz.prog w = .ok (.func fn first cap) w := fun _ _ _ _ => rfl
  obtain ⟨H, hH⟩ : ∃ H, w.heap.size = H := ⟨_, rfl⟩
  have i0 : (w.iter s 0).heap[H]? = some (.stringIter s 0) := by rw [← hH]; exact World.iter_heap w s 0
  have b0 : Below H w (w.iter s 0) := by rw [← hH]; exact (Below.refl _ _).alloc (Nat.le_refl _) _
  go_enter Tryz.func46, Tryz.ntmps46
  go_upto_region 2 with fail
  try simp only [hH]
  go_loopw [] (fun wr => ∃ pos : Nat, wr.heap[H]? = some (.stringIter s pos) ∧ Below H w wr ∧ pos ≤ s.size ∧ Hid (Unit → ∀ c ∈ s.data.toList.take pos, (isFig) c = true)) (fun wr => s.size - wr.iterPos H)
  case atStart => exact ⟨0, i0, b0, Nat.zero_le _, fun _ c hc => by simp at hc⟩
  case round =>
    obtain ⟨pos, hit, hb, hle, HP⟩ := hrel
    have hp0 := iterPos_of hit
    by_cases hp : pos < s.size
    · have hnx : ∀ ty, (Instr.next (.pointer (some ⟨H, 0, none⟩)) true ty).run Tryz.prog wr = _ := fun ty => Lib.run_next_any_at wr H s pos ty hit hp
      obtain ⟨k1, k2, k3⟩ := kind_rune kind_fig hp
      obtain ⟨r, hr⟩ : ∃ r, (Utf8.decode s pos).1 = r := ⟨_, rfl⟩
      obtain ⟨d, hd⟩ : ∃ d, (Utf8.decode s pos).2 = d := ⟨_, rfl⟩
      rw [hr, hd] at hnx
      rw [hr] at k1
      rw [hd] at k2 k3
      have hit2 := Lib.iterAt_heap wr H s pos (pos + d) hit
      have hb2 := Lib.below_iterAt hb (k := H) (Nat.le_refl _) s (pos + d)
      obtain ⟨W1, hW1⟩ : ∃ W1, wr.iterAt H s (pos + d) = W1 := ⟨_, rfl⟩
      rw [hW1] at hnx hit2 hb2
      have cK := fun W => isFigure_any r W
      obtain ⟨y, hy⟩ : ∃ y, (isFig) s[pos] = y := ⟨_, rfl⟩
      have HY : Hid (Unit → (isFig) s[pos] = y) := fun _ => hy
      rw [hy] at k1 k2
      have cK2 : ∀ W, Calls Tryz.prog 25 #[.int .i32 (r : Int)] W fun e w' => e = .returned (.bool y) ∧ W = w' := fun W => by rw [← k1]; exact cK W
      clear hW1 hr hd hy k1 cK hb hit
      cases y
      · have HE : Hid (Unit → R = pos) := fun _ => by
          rw [← HR.out ()]
          refine while_is (by rw [size_list]; exact hle) (HP.out ()) (.inr ⟨by rw [size_list]; exact hp, ?_⟩)
          exact HY.out ()
        go_wp2_with fail
        refine (cK2 _).mono ?_
        rintro e w' ⟨rfl, rfl⟩
        go_wp2
        go_ret
        exact ⟨by rw [HE.out ()]; rfl, by rw [hH]; exact hb2⟩
      · have hd1 := k2 rfl
        subst hd1
        have HN : Hid (Unit → ∀ c ∈ s.data.toList.take (pos + 1), (isFig) c = true) := fun _ c hc => by
          rw [take_snoc s pos hp, List.mem_append, List.mem_singleton] at hc
          rcases hc with hc | rfl
          · exact HP.out () c hc
          · exact HY.out ()
        go_wp2_with fail
        refine (cK2 _).mono ?_
        rintro e w' ⟨rfl, rfl⟩
        go_wp2
        go_roundw
        case rel => exact ⟨pos + 1, hit2, hb2, by omega, HN⟩
        case measure => rw [iterPos_of hit2, hp0]; omega
    · have hnx : ∀ ty, (Instr.next (.pointer (some ⟨H, 0, none⟩)) true ty).run Tryz.prog wr = _ := fun ty => Lib.run_next_end_at wr H s pos ty hit hp
      have HE : Hid (Unit → R = s.size) := fun _ => by
        rw [← HR.out ()]
        refine while_is (by rw [size_list]; exact Nat.le_refl _) ?_ (.inl (by rw [size_list]))
        have h := HP.out ()
        rw [(by omega : pos = s.size)] at h
        exact h
      go_wp2
      go_ret
      exact ⟨by rw [HE.out ()]; rfl, by rw [hH]; exact hb⟩

set_option maxHeartbeats 1000000 in
set_option maxRecDepth 100000 in
theorem sizeAhead_name (s : ByteArray) (w : World) (hs : s.size ≤ 1048576) :
    Calls Tryz.prog 46 #[.string s, .func (.func 47) #[] #[]] w fun e w' => e = .returned (.int .i64 ((s.data.toList.takeWhile isNam).length : Nat)) ∧ Below w.heap.size w w' := by
  obtain ⟨R, hR⟩ : ∃ R, (s.data.toList.takeWhile isNam).length = R := ⟨_, rfl⟩
  have HR : Hid (Unit → (s.data.toList.takeWhile isNam).length = R) := fun _ => hR
  rw [hR]
  clear hR
  have hmf : ∀ (fn : Fn) (first cap : Array Value) (w : World), (Instr.makeFunc fn first cap).run Tryz.prog w = .ok (.func fn first cap) w := fun _ _ _ _ => rfl
  obtain ⟨H, hH⟩ : ∃ H, w.heap.size = H := ⟨_, rfl⟩
  have i0 : (w.iter s 0).heap[H]? = some (.stringIter s 0) := by rw [← hH]; exact World.iter_heap w s 0
  have b0 : Below H w (w.iter s 0) := by rw [← hH]; exact (Below.refl _ _).alloc (Nat.le_refl _) _
  go_enter Tryz.func46, Tryz.ntmps46
  go_upto_region 2 with fail
  try simp only [hH]
  go_loopw [] (fun wr => ∃ pos : Nat, wr.heap[H]? = some (.stringIter s pos) ∧ Below H w wr ∧ pos ≤ s.size ∧ Hid (Unit → ∀ c ∈ s.data.toList.take pos, isNam c = true)) (fun wr => s.size - wr.iterPos H)
  case atStart => exact ⟨0, i0, b0, Nat.zero_le _, fun _ c hc => by simp at hc⟩
  case round =>
    obtain ⟨pos, hit, hb, hle, HP⟩ := hrel
    have hp0 := iterPos_of hit
    by_cases hp : pos < s.size
    · have hnx : ∀ ty, (Instr.next (.pointer (some ⟨H, 0, none⟩)) true ty).run Tryz.prog wr = _ := fun ty => Lib.run_next_any_at wr H s pos ty hit hp
      obtain ⟨k1, k2, k3⟩ := kind_rune kind_name hp
      obtain ⟨r, hr⟩ : ∃ r, (Utf8.decode s pos).1 = r := ⟨_, rfl⟩
      obtain ⟨d, hd⟩ : ∃ d, (Utf8.decode s pos).2 = d := ⟨_, rfl⟩
      rw [hr, hd] at hnx
      rw [hr] at k1
      rw [hd] at k2 k3
      have hit2 := Lib.iterAt_heap wr H s pos (pos + d) hit
      have hb2 := Lib.below_iterAt hb (k := H) (Nat.le_refl _) s (pos + d)
      obtain ⟨W1, hW1⟩ : ∃ W1, wr.iterAt H s (pos + d) = W1 := ⟨_, rfl⟩
      rw [hW1] at hnx hit2 hb2
      have cK := fun W => goesOnName_any r W
      obtain ⟨y, hy⟩ : ∃ y, isNam s[pos] = y := ⟨_, rfl⟩
      have HY : Hid (Unit → isNam s[pos] = y) := fun _ => hy
      rw [hy] at k1 k2
      have cK2 : ∀ W, Calls Tryz.prog 47 #[.int .i32 (r : Int)] W fun e w' => e = .returned (.bool y) ∧ W = w' := fun W => by rw [← k1]; exact cK W
      clear hW1 hr hd hy k1 cK hb hit
      cases y
      · have HE : Hid (Unit → R = pos) := fun _ => by
          rw [← HR.out ()]
          refine while_is (by rw [size_list]; exact hle) (HP.out ()) (.inr ⟨by rw [size_list]; exact hp, ?_⟩)
          exact HY.out ()
        go_wp2_with fail
        refine (cK2 _).mono ?_
        rintro e w' ⟨rfl, rfl⟩
        go_wp2
        go_ret
        exact ⟨by rw [HE.out ()]; rfl, by rw [hH]; exact hb2⟩
      · have hd1 := k2 rfl
        subst hd1
        have HN : Hid (Unit → ∀ c ∈ s.data.toList.take (pos + 1), isNam c = true) := fun _ c hc => by
          rw [take_snoc s pos hp, List.mem_append, List.mem_singleton] at hc
          rcases hc with hc | rfl
          · exact HP.out () c hc
          · exact HY.out ()
        go_wp2_with fail
        refine (cK2 _).mono ?_
        rintro e w' ⟨rfl, rfl⟩
        go_wp2
        go_roundw
        case rel => exact ⟨pos + 1, hit2, hb2, by omega, HN⟩
        case measure => rw [iterPos_of hit2, hp0]; omega
    · have hnx : ∀ ty, (Instr.next (.pointer (some ⟨H, 0, none⟩)) true ty).run Tryz.prog wr = _ := fun ty => Lib.run_next_end_at wr H s pos ty hit hp
      have HE : Hid (Unit → R = s.size) := fun _ => by
        rw [← HR.out ()]
        refine while_is (by rw [size_list]; exact Nat.le_refl _) ?_ (.inl (by rw [size_list]))
        have h := HP.out ()
        rw [(by omega : pos = s.size)] at h
        exact h
      go_wp2
      go_ret
      exact ⟨by rw [HE.out ()]; rfl, by rw [hH]; exact hb⟩

set_option maxHeartbeats 1000000 in
set_option maxRecDepth 100000 in
theorem sizeAhead_text (s : ByteArray) (w : World) (hs : s.size ≤ 1048576) :
    Calls Tryz.prog 46 #[.string s, .func (.func 50) #[] #[]] w fun e w' => e = .returned (.int .i64 ((s.data.toList.takeWhile isTxt).length : Nat)) ∧ Below w.heap.size w w' := by
  obtain ⟨R, hR⟩ : ∃ R, (s.data.toList.takeWhile isTxt).length = R := ⟨_, rfl⟩
  have HR : Hid (Unit → (s.data.toList.takeWhile isTxt).length = R) := fun _ => hR
  rw [hR]
  clear hR
  have hmf : ∀ (fn : Fn) (first cap : Array Value) (w : World), (Instr.makeFunc fn first cap).run Tryz.prog w = .ok (.func fn first cap) w := fun _ _ _ _ => rfl
  obtain ⟨H, hH⟩ : ∃ H, w.heap.size = H := ⟨_, rfl⟩
  have i0 : (w.iter s 0).heap[H]? = some (.stringIter s 0) := by rw [← hH]; exact World.iter_heap w s 0
  have b0 : Below H w (w.iter s 0) := by rw [← hH]; exact (Below.refl _ _).alloc (Nat.le_refl _) _
  go_enter Tryz.func46, Tryz.ntmps46
  go_upto_region 2 with fail
  try simp only [hH]
  go_loopw [] (fun wr => ∃ pos : Nat, wr.heap[H]? = some (.stringIter s pos) ∧ Below H w wr ∧ pos ≤ s.size ∧ Hid (Unit → ∀ c ∈ s.data.toList.take pos, (isTxt) c = true)) (fun wr => s.size - wr.iterPos H)
  case atStart => exact ⟨0, i0, b0, Nat.zero_le _, fun _ c hc => by simp at hc⟩
  case round =>
    obtain ⟨pos, hit, hb, hle, HP⟩ := hrel
    have hp0 := iterPos_of hit
    by_cases hp : pos < s.size
    · have hnx : ∀ ty, (Instr.next (.pointer (some ⟨H, 0, none⟩)) true ty).run Tryz.prog wr = _ := fun ty => Lib.run_next_any_at wr H s pos ty hit hp
      obtain ⟨k1, k2, k3⟩ := kind_rune kind_text hp
      obtain ⟨r, hr⟩ : ∃ r, (Utf8.decode s pos).1 = r := ⟨_, rfl⟩
      obtain ⟨d, hd⟩ : ∃ d, (Utf8.decode s pos).2 = d := ⟨_, rfl⟩
      rw [hr, hd] at hnx
      rw [hr] at k1
      rw [hd] at k2 k3
      have hit2 := Lib.iterAt_heap wr H s pos (pos + d) hit
      have hb2 := Lib.below_iterAt hb (k := H) (Nat.le_refl _) s (pos + d)
      obtain ⟨W1, hW1⟩ : ∃ W1, wr.iterAt H s (pos + d) = W1 := ⟨_, rfl⟩
      rw [hW1] at hnx hit2 hb2
      have cK := fun W => goesOnText_any r W
      obtain ⟨y, hy⟩ : ∃ y, (isTxt) s[pos] = y := ⟨_, rfl⟩
      have HY : Hid (Unit → (isTxt) s[pos] = y) := fun _ => hy
      rw [hy] at k1 k2
      have cK2 : ∀ W, Calls Tryz.prog 50 #[.int .i32 (r : Int)] W fun e w' => e = .returned (.bool y) ∧ W = w' := fun W => by rw [← k1]; exact cK W
      clear hW1 hr hd hy k1 cK hb hit
      cases y
      · have HE : Hid (Unit → R = pos) := fun _ => by
          rw [← HR.out ()]
          refine while_is (by rw [size_list]; exact hle) (HP.out ()) (.inr ⟨by rw [size_list]; exact hp, ?_⟩)
          exact HY.out ()
        go_wp2_with fail
        refine (cK2 _).mono ?_
        rintro e w' ⟨rfl, rfl⟩
        go_wp2
        go_ret
        exact ⟨by rw [HE.out ()]; rfl, by rw [hH]; exact hb2⟩
      · have hd1 := k2 rfl
        subst hd1
        have HN : Hid (Unit → ∀ c ∈ s.data.toList.take (pos + 1), (isTxt) c = true) := fun _ c hc => by
          rw [take_snoc s pos hp, List.mem_append, List.mem_singleton] at hc
          rcases hc with hc | rfl
          · exact HP.out () c hc
          · exact HY.out ()
        go_wp2_with fail
        refine (cK2 _).mono ?_
        rintro e w' ⟨rfl, rfl⟩
        go_wp2
        go_roundw
        case rel => exact ⟨pos + 1, hit2, hb2, by omega, HN⟩
        case measure => rw [iterPos_of hit2, hp0]; omega
    · have hnx : ∀ ty, (Instr.next (.pointer (some ⟨H, 0, none⟩)) true ty).run Tryz.prog wr = _ := fun ty => Lib.run_next_end_at wr H s pos ty hit hp
      have HE : Hid (Unit → R = s.size) := fun _ => by
        rw [← HR.out ()]
        refine while_is (by rw [size_list]; exact Nat.le_refl _) ?_ (.inl (by rw [size_list]))
        have h := HP.out ()
        rw [(by omega : pos = s.size)] at h
        exact h
      go_wp2
      go_ret
      exact ⟨by rw [HE.out ()]; rfl, by rw [hH]; exact hb⟩

end Go.Proofs.YtcabanghegddhaaGreatDoor

namespace Go.Proofs.YtcabanghegddhaaGreatDoor
open Go.RowKit
set_option linter.unusedVariables false

/-- a lead and the figures behind it -/
def leadN (l p : List UInt8) : Nat := if Lib.hasPrefix l p = true ∧ 0 < runN (l.drop p.length) then p.length + runN (l.drop p.length) else 0
theorem lead_le (l p : List UInt8) : leadN l p ≤ l.length := by
  unfold leadN
  split
  · rename_i h
    have h1 := run_le (l.drop p.length)
    have h2 := h.2
    rw [List.length_drop] at h1
    have : p.length ≤ l.length := by
      rcases Nat.lt_or_ge l.length p.length with h3 | h3
      · rw [List.drop_eq_nil_of_le (by omega)] at h2
        simp [runN] at h2
      · exact h3
    omega
  · exact Nat.zero_le _
theorem lead_one {c : UInt8} {l : List UInt8} : leadN l [c] = (match l with | d :: r => if d = c ∧ 0 < runN r then 1 + runN r else 0 | [] => 0) := by
  unfold leadN Lib.hasPrefix
  cases l with
  | nil => simp [List.isPrefixOf]
  | cons d r =>
    have e : List.isPrefixOf [c] (d :: r) = (c == d) := by simp [List.isPrefixOf]
    rw [e]
    simp only [List.length_singleton, List.drop_succ_cons, List.drop_zero, beq_iff_eq]
    by_cases h : d = c
    · subst h; rfl
    · rw [if_neg (fun x => h x.1.symm), if_neg (fun x => h x.1)]
theorem lead_two {c f : UInt8} {l : List UInt8} : leadN l [c, f] = (match l with | d :: g :: r => if (d = c ∧ g = f) ∧ 0 < runN r then 2 + runN r else 0 | _ => 0) := by
  unfold leadN Lib.hasPrefix
  match l with
  | [] => simp [List.isPrefixOf]
  | [d] => simp [List.isPrefixOf]
  | d :: g :: r =>
    have e : List.isPrefixOf [c, f] (d :: g :: r) = ((c == d) && (f == g)) := by simp [List.isPrefixOf]
    rw [e]
    simp only [List.length_cons, List.length_nil, List.drop_succ_cons, List.drop_zero, Bool.and_eq_true, beq_iff_eq]
    by_cases h : d = c ∧ g = f
    · obtain ⟨rfl, rfl⟩ := h; simp
    · rw [if_neg (fun x => h ⟨x.1.1.symm, x.1.2.symm⟩), if_neg (fun x => h x.1)]
theorem run_pos {r : List UInt8} (h : 0 < runN r) : ∃ d q, r = d :: q ∧ isFig d = true := by
  cases r with
  | nil => simp [runN] at h
  | cons d q =>
    by_cases hd : isFig d = true
    · exact ⟨d, q, rfl, hd⟩
    · unfold runN at h
      rw [List.takeWhile_cons, if_neg hd] at h
      simp at h
theorem run_not {d : UInt8} {q : List UInt8} (h : ¬isFig d = true) : runN (d :: q) = 0 := by
  unfold runN
  rw [List.takeWhile_cons, if_neg h]
  rfl
theorem frac_lead (l : List UInt8) (e : Nat) : fracN l e = e + leadN (l.drop e) [46] := by
  unfold fracN
  rw [lead_one]
  match l.drop e with
  | [] => rfl
  | [c] => simp only; rw [if_neg (fun h => by have := h.2; simp [runN] at this)]; rfl
  | c :: d :: r =>
    simp only
    by_cases hd : isFig d = true
    · have h1 := fig_not_run (r := r) hd
      by_cases hc : c = 46
      · subst hc
        rw [if_pos ⟨by decide, hd⟩, if_pos ⟨rfl, h1⟩]; omega
      · rw [if_neg (fun h => hc (UInt8.toNat_inj.1 h.1)), if_neg (fun h => hc h.1)]; rfl
    · rw [if_neg (fun h => hd h.2), if_neg (fun h => by have := h.2; rw [run_not hd] at this; omega)]; rfl
theorem fig_let {d : UInt8} (h : isFig d = true) : d ≠ 43 ∧ d ≠ 45 := by
  constructor
  · rintro rfl; revert h; decide
  · rintro rfl; revert h; decide
theorem tail_lead (l : List UInt8) (e : Nat) : tailN l e = e + max (max (leadN (l.drop e) [101]) (leadN (l.drop e) [101, 43])) (leadN (l.drop e) [101, 45]) := by
  unfold tailN
  rw [lead_one, lead_two, lead_two]
  match l.drop e with
  | [] => rfl
  | [c] => simp only; rw [if_neg (fun h => by have := h.2; simp [runN] at this)]; rfl
  | c :: d :: r =>
    simp only
    by_cases hc : c.toNat = 101
    · have hc' : c = 101 := UInt8.toNat_inj.1 hc
      subst hc'
      rw [if_pos hc]
      by_cases hd : isFig d = true
      · obtain ⟨n1, n2⟩ := fig_let hd
        have h1 := fig_not_run (r := r) hd
        have hz : signN8 d = 0 := by
          unfold signN8
          rw [if_neg]
          rintro (h | h)
          · exact n1 (UInt8.toNat_inj.1 h)
          · exact n2 (UInt8.toNat_inj.1 h)
        rw [hz, List.drop_zero, if_pos (⟨by first | rfl | trivial, h1⟩), if_neg (fun h => n1 h.1.2), if_neg (fun h => n2 h.1.2)]
        simp only
        rw [if_pos hd]
        omega
      · rw [if_neg (fun h => by have := h.2; rw [run_not hd] at this; omega)]
        by_cases h43 : d = 43
        · subst h43
          have hz : signN8 43 = 1 := by decide
          rw [hz, List.drop_succ_cons, List.drop_zero]
          cases r with
          | nil => simp [runN]
          | cons f q =>
            simp only
            by_cases hf : isFig f = true
            · have h1 := fig_not_run (r := q) hf
              rw [if_pos hf, if_pos (⟨by simp, h1⟩), if_neg (fun h => absurd h.1.2 (by decide))]
              omega
            · have h0 := run_not (q := q) hf
              rw [if_neg hf, if_neg (fun h => by have := h.2; omega), if_neg (fun h => by have := h.2; omega)]
              rfl
        · by_cases h45 : d = 45
          · subst h45
            have hz : signN8 45 = 1 := by decide
            rw [hz, List.drop_succ_cons, List.drop_zero]
            cases r with
            | nil => simp [runN]
            | cons f q =>
              simp only
              by_cases hf : isFig f = true
              · have h1 := fig_not_run (r := q) hf
                rw [if_pos hf, if_neg (fun h => absurd h.1.2 (by decide)), if_pos (⟨by simp, h1⟩)]
                omega
              · have h0 := run_not (q := q) hf
                rw [if_neg hf, if_neg (fun h => by have := h.2; omega), if_neg (fun h => by have := h.2; omega)]
                rfl
          · have hz : signN8 d = 0 := by
              unfold signN8
              rw [if_neg]
              rintro (h | h)
              · exact h43 (UInt8.toNat_inj.1 h)
              · exact h45 (UInt8.toNat_inj.1 h)
            rw [hz, List.drop_zero, if_neg (fun h => h43 h.1.2), if_neg (fun h => h45 h.1.2)]
            simp only
            rw [if_neg hd]
            rfl
    · rw [if_neg hc]
      have hc' : c ≠ 101 := fun h => hc (by rw [h]; rfl)
      rw [if_neg (fun h => hc' h.1), if_neg (fun h => hc' h.1.1), if_neg (fun h => hc' h.1.1)]
      rfl
theorem numb_leads (l : List UInt8) : ∃ a e, runN l = a ∧ a + leadN (l.drop a) [46] = e ∧ e ≤ l.length ∧ numbN l = e + max (max (leadN (l.drop e) [101]) (leadN (l.drop e) [101, 43])) (leadN (l.drop e) [101, 45]) ∧ numbN l ≤ l.length := by
  refine ⟨_, _, rfl, rfl, ?_, ?_, ?_⟩
  · have h1 := lead_le (l.drop (runN l)) [46]
    have h2 := run_le l
    rw [List.length_drop] at h1
    omega
  · unfold numbN
    rw [frac_lead, tail_lead]
  · unfold numbN
    rw [frac_lead, tail_lead]
    have h1 := lead_le (l.drop (runN l)) [46]
    have h2 := run_le l
    rw [List.length_drop] at h1
    obtain ⟨e, he⟩ : ∃ e, runN l + leadN (l.drop (runN l)) [46] = e := ⟨_, rfl⟩
    rw [he]
    have g1 := lead_le (l.drop e) [101]
    have g2 := lead_le (l.drop e) [101, 43]
    have g3 := lead_le (l.drop e) [101, 45]
    rw [List.length_drop] at g1 g2 g3
    omega

set_option maxHeartbeats 1000000 in
set_option maxRecDepth 100000 in
theorem sizeWithLead_any (s p : ByteArray) (w : World) (hs : s.size ≤ 1048576) (hp : p.size ≤ 100) :
    Calls Tryz.prog 58 #[.string s, .string p] w fun e w' => e = .returned (.int .i64 (leadN s.data.toList p.data.toList : Nat)) ∧ Below w.heap.size w w' := by
  obtain ⟨R, hR⟩ : ∃ R, leadN s.data.toList p.data.toList = R := ⟨_, rfl⟩
  rw [hR]
  have cC := fun W => Tryz.strings_CutPrefix s p W
  obtain ⟨f, hf⟩ : ∃ f, Lib.hasPrefix s.data.toList p.data.toList = f := ⟨_, rfl⟩
  obtain ⟨T, hT⟩ : ∃ T : ByteArray, (⟨(Lib.trimPrefix s.data.toList p.data.toList).toArray⟩ : ByteArray) = T := ⟨_, rfl⟩
  rw [hf, hT] at cC
  have hTl : T.data.toList = Lib.trimPrefix s.data.toList p.data.toList := by rw [← hT]
  have hTs : T.size ≤ 1048576 := by
    rw [← size_list, hTl]
    unfold Lib.trimPrefix
    split
    · rw [List.length_drop, size_list]; omega
    · rw [size_list]; exact hs
  have cA := fun W => sizeAhead_fig T W hTs
  obtain ⟨r, hr⟩ : ∃ r, (T.data.toList.takeWhile isFig).length = r := ⟨_, rfl⟩
  have hrT : r ≤ T.size := by
    rw [← hr, ← size_list]
    exact run_le T.data.toList
  have hrr : runN (Lib.trimPrefix s.data.toList p.data.toList) = r := by rw [← hTl]; exact hr
  rw [hr] at cA
  have HR : Hid (f = false → R = 0) := fun h => by
    rw [← hR]
    unfold leadN
    rw [hf, if_neg (fun x => by rw [h] at x; exact absurd x.1 (by decide))]
  have HR2 : Hid (f = true → R = if 0 < r then p.size + r else 0) := fun h => by
    rw [← hR]
    unfold leadN
    have e : Lib.trimPrefix s.data.toList p.data.toList = s.data.toList.drop p.data.toList.length := by
      unfold Lib.trimPrefix
      rw [hf, if_pos h]
    rw [← e, hrr, hf, h, size_list]
    by_cases h0 : 0 < r
    · rw [if_pos ⟨rfl, h0⟩, if_pos h0]
    · rw [if_neg (fun x => h0 x.2), if_neg h0]
  clear hR hf hT hTl hr hrr
  go_enter Tryz.func58, Tryz.ntmps58
  go_wp2_with fail
  refine (cC _).mono ?_
  rintro e w' ⟨rfl, rfl⟩
  go_wp2_with fail
  refine (cA _).mono ?_
  rintro e w1 ⟨rfl, b1⟩
  cases f
  · have h := HR.out rfl
    subst h
    go_wp2
    go_ret
    exact ⟨rfl, b1⟩
  · have h := HR2.out rfl
    by_cases h0 : r = 0
    · subst h0
      rw [if_neg (by omega)] at h
      subst h
      go_wp2
      go_ret
      exact ⟨rfl, b1⟩
    · have h0' : ((r : Int) == 0) = false := by rw [beq_eq_false_iff_ne]; omega
      rw [if_pos (by omega)] at h
      have HV : Hid ((p.size : Int) + r = (R : Nat)) := by show _ = _; rw [h]; omega
      clear h
      go_wp2
      go_ret
      exact ⟨ret_int HV.out, b1⟩

set_option maxHeartbeats 1000000 in
set_option maxRecDepth 100000 in
theorem numberSize_any (s : ByteArray) (w : World) (hs : s.size ≤ 1048576) :
    Calls Tryz.prog 48 #[.string s] w fun e w' => e = .returned (.int .i64 (numbN s.data.toList : Nat)) ∧ Below w.heap.size w w' := by
  obtain ⟨a, e, ha, he, hel, hn, hnl⟩ := numb_leads s.data.toList
  obtain ⟨R, hR⟩ : ∃ R, numbN s.data.toList = R := ⟨_, rfl⟩
  rw [hR] at hn hnl ⊢
  rw [size_list] at hel hnl
  have hale : a ≤ e := by omega
  have ext : ∀ k, (s.extract k s.size).data.toList = s.data.toList.drop k := fun k => by
    rw [extract_txt, txt_data, sl]
    exact List.take_of_length_le (by rw [List.length_drop, size_list]; exact Nat.le_refl _)
  have cA := fun W => sizeAhead_fig s W hs
  have har : (s.data.toList.takeWhile isFig).length = a := ha
  rw [har] at cA
  obtain ⟨T1, hT1⟩ : ∃ T, s.extract a s.size = T := ⟨_, rfl⟩
  obtain ⟨T2, hT2⟩ : ∃ T, s.extract e s.size = T := ⟨_, rfl⟩
  have e1 : T1.data.toList = s.data.toList.drop a := by rw [← hT1]; exact ext a
  have e2 : T2.data.toList = s.data.toList.drop e := by rw [← hT2]; exact ext e
  have z1 : T1.size ≤ 1048576 := by rw [← size_list, e1, List.length_drop, size_list]; omega
  have z2 : T2.size ≤ 1048576 := by rw [← size_list, e2, List.length_drop, size_list]; omega
  have c1 := fun W => sizeWithLead_any T1 ⟨#[46]⟩ W z1 (by decide)
  have c2 := fun W => sizeWithLead_any T2 ⟨#[101]⟩ W z2 (by decide)
  have c3 := fun W => sizeWithLead_any T2 ⟨#[101, 43]⟩ W z2 (by decide)
  have c4 := fun W => sizeWithLead_any T2 ⟨#[101, 45]⟩ W z2 (by decide)
  simp only [e1, e2] at c1 c2 c3 c4
  have g1 := lead_le (s.data.toList.drop e) [101]
  have g2 := lead_le (s.data.toList.drop e) [101, 43]
  have g3 := lead_le (s.data.toList.drop e) [101, 45]
  rw [List.length_drop, size_list] at g1 g2 g3
  obtain ⟨k1, hk1⟩ : ∃ k, leadN (s.data.toList.drop a) [46] = k := ⟨_, rfl⟩
  obtain ⟨x, hx⟩ : ∃ k, leadN (s.data.toList.drop e) [101] = k := ⟨_, rfl⟩
  obtain ⟨y, hy⟩ : ∃ k, leadN (s.data.toList.drop e) [101, 43] = k := ⟨_, rfl⟩
  obtain ⟨z, hz⟩ : ∃ k, leadN (s.data.toList.drop e) [101, 45] = k := ⟨_, rfl⟩
  rw [hk1] at c1 he
  rw [hx] at c2 hn g1
  rw [hy] at c3 hn g2
  rw [hz] at c4 hn g3
  have he' : (a : Int) + k1 = e := by omega
  have HN : Hid (R = e + max (max x y) z) := hn
  have has : (a : Int) ≤ s.size := by omega
  have hes : (e : Int) ≤ s.size := by omega
  clear ext ha har hR e1 e2 hk1 hx hy hz hn
  go_enter Tryz.func48, Tryz.ntmps48
  go_wp2_with fail
  refine (cA _).mono ?_
  rintro e w1 ⟨rfl, b1⟩
  go_wp2_with fail
  try simp only [hT1]
  refine (c1 _).mono ?_
  rintro e w2 ⟨rfl, b2⟩
  go_wp2_with fail
  try simp only [hT2]
  refine (c2 _).mono ?_
  rintro e w3 ⟨rfl, b3⟩
  go_wp2_with fail
  try simp only [hT2]
  refine (c3 _).mono ?_
  rintro e w4 ⟨rfl, b4⟩
  go_wp2_with fail
  try simp only [hT2]
  refine (c4 _).mono ?_
  rintro e w5 ⟨rfl, b5⟩
  have bb := chain (chain (chain (chain b1 b2) b3) b4) b5
  clear b1 b2 b3 b4 b5 c1 c2 c3 c4 cA
  go_wp2
  all_goals (
    go_ret
    exact ⟨ret_int (by rw [HN.out]; omega), bb⟩)

end Go.Proofs.YtcabanghegddhaaGreatDoor

namespace Go.Proofs.YtcabanghegddhaaGreatDoor
open Go.RowKit
set_option linter.unusedVariables false

set_option maxHeartbeats 400000 in
set_option maxRecDepth 100000 in
theorem implWords_any (w : World) :
    Calls Tryz.prog 8 #[] w fun e w' => e = .returned (.slice (some ⟨w.heap.size, 0, none⟩) 13 13) ∧ w' = w.alloc wordsO := by
  unfold wordsO
  go_enter Tryz.func8, Tryz.ntmps8
  go_wp2
  go_ret
  exact ⟨rfl, rfl⟩
theorem words_cell {w : World} {g : Nat} (h : w.heap[g]? = some wordsO) (j : Nat) (hj : j < wordsL.length) : w.cell? ⟨g, j, none⟩ = some (.string (txt wordsL[j])) := by
  unfold wordsO at h
  rw [cell_of_row _ _ _ _ _ _ h]
  match j, hj with
  | 0, _ => rfl
  | 1, _ => rfl
  | 2, _ => rfl
  | 3, _ => rfl
  | 4, _ => rfl
  | 5, _ => rfl
  | 6, _ => rfl
  | 7, _ => rfl
  | 8, _ => rfl
  | 9, _ => rfl
  | 10, _ => rfl
  | 11, _ => rfl
  | 12, _ => rfl

/-- the map holds the first words, each with its kind -/
def KindsTo (w : World) (b i : Nat) : Prop := ∃ D : DataW Unit, w.ownsMap Tryz.prog 9 (plainElem Tryz.prog 3) b i D ∧ ∀ l zd, D.atKey (.string l) zd = if l ∈ wordsL.take i then .lit (.int .i64 5) else zd
def Kinds (w : World) (b : Nat) : Prop := KindsTo w b 13
theorem KindsTo.kept {w w' : World} {b i : Nat} (h : KindsTo w b i) (hb : Below w.heap.size w w') : KindsTo w' b i := by
  obtain ⟨D, h1, h2⟩ := h
  exact ⟨D, h1.kept (row := none) ⟨hb.os, hb.tape, hb.output, hb.size, fun k hk _ => hb.block k hk⟩ (by simp), h2⟩
theorem KindsTo.heap {w w' : World} {b i : Nat} (h : KindsTo w b i) (hh : w'.heap[b]? = w.heap[b]?) : KindsTo w' b i := by
  obtain ⟨D, ⟨es, clock, h1, h2, h3, h4⟩, h5⟩ := h
  exact ⟨D, ⟨es, clock, hh.trans h1, h2, h3, h4⟩, h5⟩
theorem KindsTo.lt {w : World} {b i : Nat} (h : KindsTo w b i) : b < w.heap.size := by
  obtain ⟨D, h1, _⟩ := h
  exact h1.lt

theorem zero_int (w : World) : (zeroValue 3).run Tryz.prog w = .ok (.int .i64 0) w := by
  have := Tryz.zeroValue3 (w := w)
  first | exact this | simpa using this

theorem kinds_look {w : World} {b : Nat} (h : Kinds w b) (s : ByteArray) (hs : s.size ≤ 1048576) :
    (Instr.lookup 37 (.map (some b)) (.string s) true).run Tryz.prog w = .ok (.tuple #[.int .i64 (if s.data.toList ∈ wordsL then 5 else 0), .bool (decide (s.data.toList ∈ wordsL))]) w := by
  obtain ⟨D, ⟨es, clock, h1, F, _, rfl⟩, h5⟩ := h
  have h13 : wordsL.take 13 = wordsL := rfl
  rw [h13] at h5
  have hkey := WideMaps.keyOf_string_mk (P := Tryz.prog) Tryz.underlying9 (s := s) (by unfold maxLen; omega)
  rcases Maps.fit_look true (Maps.string_keyed Tryz.underlying9) Tryz.underlying37 (zero_int w) h1 F hkey with ⟨hrun, _, hat⟩ | ⟨e0, y, _, _, hrun, hR, hat, _⟩
  · have hn : s.data.toList ∉ wordsL := fun hm => by
      have k1 := hat (.lit (.int .i64 7))
      rw [h5, if_pos hm] at k1
      cases k1
    rw [hrun, if_neg hn, decide_eq_false hn]
    rfl
  · have hm : s.data.toList ∈ wordsL := by
      rcases Classical.em (s.data.toList ∈ wordsL) with hm | hm
      · exact hm
      · exfalso
        have k1 := hat (.lit (.int .i64 7))
        have k2 := hat (.lit (.int .i64 8))
        rw [h5, if_neg hm] at k1 k2
        rw [← k2] at k1
        cases k1
    have k1 := hat (.lit (.int .i64 7))
    rw [h5, if_pos hm] at k1
    obtain ⟨a, ha, hz, _⟩ := plainElem_int_inv Tryz.underlying3 hR
    rw [hz] at k1
    have k2 : (5 : Int) = a := by
      have k3 := k1
      simp only [DataW.lit.injEq, Lit.int.injEq, true_and] at k3
      exact k3
    rw [hrun, ha, if_pos hm, decide_eq_true hm, k2]
    simp only [if_true]

set_option maxHeartbeats 1000000 in
set_option maxRecDepth 100000 in
theorem wordKinds_any (w : World) :
    Calls Tryz.prog 12 #[] w fun e w' => e = .returned (.map (some w.heap.size)) ∧ Kinds w' w.heap.size ∧ Below w.heap.size w w' := by
  obtain ⟨H, hH⟩ : ∃ H, w.heap.size = H := ⟨_, rfl⟩
  have law := Maps.string_keyed (P := Tryz.prog) Tryz.underlying9
  obtain ⟨W0, hW0⟩ : ∃ W, w.alloc (.map #[] 0) = W := ⟨_, rfl⟩
  have o0 := World.ownsMap_made (H := Unit) w Tryz.prog 9 (plainElem Tryz.prog 3)
  rw [hW0, hH] at o0
  have b0 : Below H w W0 := by rw [← hW0, ← hH]; exact (Below.refl _ _).alloc (Nat.le_refl _) _
  have s0 : W0.heap.size = H + 1 := by rw [← hW0, ← hH]; simp
  obtain ⟨W1, hW1⟩ : ∃ W, W0.alloc wordsO = W := ⟨_, rfl⟩
  have c0 : W1.heap[H + 1]? = some wordsO := by rw [← hW1, ← s0]; exact heap_alloc_new W0 _
  have o1 : W1.ownsMap Tryz.prog 9 (plainElem Tryz.prog 3) H 0 (.map [] : DataW Unit) := by rw [← hW1]; exact o0.alloc _
  have b1 : Below H w W1 := by rw [← hW1]; exact b0.alloc (by omega) _
  have cW := implWords_any W0
  rw [hW1, s0] at cW
  rw [hH]
  clear o0
  have hmk : (Instr.makeMap 37 none).run Tryz.prog w = .ok (.map (some H)) W0 := by rw [← hW0, ← hH]; rfl
  go_enter Tryz.func12, Tryz.ntmps12
  go_wp2_with fail
  refine cW.mono ?_
  rintro e w' ⟨rfl, rfl⟩
  clear cW hW1 b0 s0 hmk
  clear hW0
  clear W0
  go_upto_region 3 with fail
  go_loopw [7] (fun x wr => ∃ (i : Nat) (D : DataW Unit), x = .int .i64 i ∧ (i : Int) ≤ 13 ∧ wr.ownsMap Tryz.prog 9 (plainElem Tryz.prog 3) H i D ∧ Hid (Unit → ∀ l zd, D.atKey (.string l) zd = if l ∈ wordsL.take i then .lit (.int .i64 5) else zd) ∧ wr.heap[H + 1]? = some wordsO ∧ Below H w wr) (fun x _ => 13 - (intOf x).toNat)
  case atStart => exact ⟨0, _, rfl, by omega, o1, fun _ l zd => by rw [if_neg (by simp)]; rfl, c0, b1⟩
  case round =>
    obtain ⟨i, D, rfl, hi, own, HD, hc, hb⟩ := hrel
    by_cases hlt : i < 13
    · have hlt' : (i : Int) < 13 := by omega
      have hcell := words_cell hc i hlt
      obtain ⟨y, hy⟩ : ∃ y, wordsL[i]'hlt = y := ⟨_, rfl⟩
      rw [hy] at hcell
      obtain ⟨z, hz⟩ : ∃ z, txt y = z := ⟨_, rfl⟩
      rw [hz] at hcell
      have hzl : z.data.toList = y := by rw [← hz, txt_data]
      have hzs : z.size ≤ 1048576 := by
        have h6 : ∀ x ∈ wordsL, x.length ≤ 6 := by decide
        have := h6 y (by rw [← hy]; exact List.getElem_mem _)
        rw [← size_list, hzl]; omega
      have hkey := WideMaps.keyOf_string_mk (P := Tryz.prog) Tryz.underlying9 (s := z) (by unfold maxLen; omega)
      rw [hzl] at hkey
      have HM : Hid (Unit → Maps.IsMap D ∧ wordsL.take (i + 1) = wordsL.take i ++ [y]) := fun _ => by
        obtain ⟨es, clock, _, _, _, e⟩ := own
        exact ⟨⟨_, e⟩, by rw [List.take_succ_eq_append_getElem hlt, hy]⟩
      clear hy hz hzl
      have hHs : H < wr.heap.size := own.lt
      go_wp2_with (first
        | (at_mapUpdate; refine wpList_mapUpdate_own _ rfl _ _ _ 37 rfl 9 3 law Tryz.underlying37 _ H i D rfl own (by unfold maxLen; omega) _ _ _ rfl rfl hkey _ [] (plainElem_int Tryz.underlying3 (by decide)) ?_; intro w1 own1 gr1))
      go_roundw
      case rel =>
        refine ⟨i + 1, _, by go_num, by omega, own1, fun _ l zd => ?_, ?_, ?_⟩
        · obtain ⟨hm, ht⟩ := HM.out ()
          rw [ht]
          by_cases hl : l = y
          · subst hl
            rw [Maps.atKey_put_same hm (show WideAt.IsKeyLit (.string _) from trivial), if_pos (by simp)]
          · rw [Maps.atKey_put_other (fun h => hl (by injection h)), HD.out () l zd]
            by_cases h2 : l ∈ wordsL.take i
            · rw [if_pos h2, if_pos (by simp [h2])]
            · rw [if_neg h2, if_neg (by simp [h2, hl])]
        · rw [gr1.block (H + 1) (lt_of_block hc) (by simp)]
          exact hc
        · exact hb.grown gr1 (by omega) (fun j hj => by injection hj with hj; omega)
      case measure => simp [intOf]; omega
    · have hie : i = 13 := by omega
      subst hie
      have HQ : Hid (Kinds wr H) := ⟨D, own, HD.out ()⟩
      clear own HD
      go_wp2
      go_ret
      exact ⟨rfl, HQ.out, hb⟩

end Go.Proofs.YtcabanghegddhaaGreatDoor
