/-
  The program's own values: what a Value stands for, and the Value that stands for it.
-/
import Derived.Test.YtlikjbklagolmaaDoorVal17B
namespace Go.Proofs.YtlikjbklagolmaaDoor
open Go.RowKit Go.Sort
set_option linter.unusedVariables false

/-- the Value that stands for what a Value stands for -/
def cvP (p : PVal) : PVal :=
  if p.kind = 0 then ⟨0, 0, ByteArray.empty, 0⟩
  else if p.kind = 1 then ⟨1, if p.num = 0 then 0 else 1, ByteArray.empty, 0⟩
  else if p.kind = 2 then ⟨2, p.num, ByteArray.empty, 0⟩
  else if p.kind = 3 then ⟨3, 0, p.text, 0⟩
  else if p.kind = 4 then ⟨4, 0, ByteArray.empty, p.ref⟩
  else ⟨0, 0, ByteArray.empty, 0⟩

/-- what a Value stands for: the type, what it holds, its method value -/
def Cont17 (p : PVal) (T : TypeId) (v : Value) (fv : FuncId) : Prop :=
  (p.kind = 0 ∧ T = 68 ∧ v = .agg #[] ∧ fv = 55)
  ∨ (p.kind = 1 ∧ T = 69 ∧ v = .bool (!decide (p.num = 0)) ∧ fv = 58)
  ∨ (p.kind = 2 ∧ T = 48 ∧ v = .int .u64 (p.num : Int) ∧ fv = 49)
  ∨ (p.kind = 3 ∧ T = 70 ∧ v = .string p.text ∧ fv = 61)
  ∨ (p.kind = 4 ∧ T = 71 ∧ v = .int .i64 p.ref ∧ fv = 64)
  ∨ ((p.kind ≠ 0 ∧ p.kind ≠ 1 ∧ p.kind ≠ 2 ∧ p.kind ≠ 3 ∧ p.kind ≠ 4) ∧ T = 72 ∧ v = .agg #[] ∧ fv = 67)

set_option maxHeartbeats 1000000 in
set_option maxRecDepth 100000 in
theorem iContentOf (p : PVal) (w : World) :
    Calls Tryd.prog 16 #[.agg #[.int .i64 p.kind, .int .u64 (p.num : Int), .string p.text, .int .i64 p.ref]] w fun e w' => ∃ T v fv, e = .returned (.iface T v) ∧ Cont17 p T v fv ∧ Below w.heap.size w w' := by
  obtain ⟨k, x, s, r⟩ := p
  simp only
  have b0 : ∀ cs t, Below w.heap.size w (w.alloc (.cells cs t)) := fun cs t => (Below.refl _ _).alloc (Nat.le_refl _) _
  by_cases k0 : k = 0
  · subst k0
    go_enter Tryd.func16, Tryd.ntmps16
    go_wp2
    go_ret
    exact ⟨_, _, _, rfl, .inl ⟨rfl, rfl, rfl, rfl⟩, b0 _ _⟩
  by_cases k1 : k = 1
  · subst k1
    by_cases x0 : x = 0
    · subst x0
      go_enter Tryd.func16, Tryd.ntmps16
      go_wp2
      go_ret
      exact ⟨_, _, _, rfl, .inr (.inl ⟨rfl, rfl, rfl, rfl⟩), b0 _ _⟩
    · have z : ((x : Int) != 0) = true := by simp [x0]
      have e : (!decide (x = 0)) = true := by simp [x0]
      go_enter Tryd.func16, Tryd.ntmps16
      go_wp2
      go_ret
      exact ⟨_, _, _, rfl, .inr (.inl ⟨rfl, rfl, by simp [x0], rfl⟩), b0 _ _⟩
  by_cases k2 : k = 2
  · subst k2
    go_enter Tryd.func16, Tryd.ntmps16
    go_wp2
    go_ret
    exact ⟨_, _, _, rfl, .inr (.inr (.inl ⟨rfl, rfl, rfl, rfl⟩)), b0 _ _⟩
  by_cases k3 : k = 3
  · subst k3
    go_enter Tryd.func16, Tryd.ntmps16
    go_wp2
    go_ret
    exact ⟨_, _, _, rfl, .inr (.inr (.inr (.inl ⟨rfl, rfl, rfl, rfl⟩))), b0 _ _⟩
  by_cases k4 : k = 4
  · subst k4
    go_enter Tryd.func16, Tryd.ntmps16
    go_wp2
    go_ret
    exact ⟨_, _, _, rfl, .inr (.inr (.inr (.inr (.inl ⟨rfl, rfl, rfl, rfl⟩)))), b0 _ _⟩
  go_enter Tryd.func16, Tryd.ntmps16
  go_wp2
  go_ret
  exact ⟨_, _, _, rfl, .inr (.inr (.inr (.inr (.inr ⟨⟨k0, k1, k2, k3, k4⟩, rfl, rfl, rfl⟩)))), b0 _ _⟩

set_option maxHeartbeats 1000000 in
set_option maxRecDepth 100000 in
theorem iValueOf {p : PVal} {T : TypeId} {v : Value} {fv : FuncId} (h : Cont17 p T v fv) (w : World) :
    Calls Tryd.prog fv #[v] w fun e w' => e = .returned (.agg #[.int .i64 (cvP p).kind, .int .u64 ((cvP p).num : Int), .string (cvP p).text, .int .i64 (cvP p).ref]) ∧ Below w.heap.size w w' := by
  obtain ⟨k, x, s, r⟩ := p
  rcases h with ⟨rfl, rfl, rfl, rfl⟩ | ⟨rfl, rfl, rfl, rfl⟩ | ⟨rfl, rfl, rfl, rfl⟩ | ⟨rfl, rfl, rfl, rfl⟩ | ⟨rfl, rfl, rfl, rfl⟩ | ⟨⟨k0, k1, k2, k3, k4⟩, rfl, rfl, rfl⟩
  · have e : cvP ⟨0, x, s, r⟩ = ⟨0, 0, ByteArray.empty, 0⟩ := rfl
    rw [e]
    go_enter Tryd.func55, Tryd.ntmps55
    go_wp2
    go_returns
    exact ⟨rfl, by go_grown⟩
  · by_cases x0 : x = 0
    · subst x0
      have e : cvP ⟨1, 0, s, r⟩ = ⟨1, 0, ByteArray.empty, 0⟩ := rfl
      rw [e]
      go_enter Tryd.func58, Tryd.ntmps58
      go_wp2
      go_returns
      exact ⟨rfl, by go_grown⟩
    · have e : cvP ⟨1, x, s, r⟩ = ⟨1, 1, ByteArray.empty, 0⟩ := by simp [cvP, x0]
      have d : (!decide (x = 0)) = true := by simp [x0]
      rw [e]
      simp only [d]
      go_enter Tryd.func58, Tryd.ntmps58
      go_wp2
      go_returns
      exact ⟨rfl, by go_grown⟩
  · have e : cvP ⟨2, x, s, r⟩ = ⟨2, x, ByteArray.empty, 0⟩ := rfl
    rw [e]
    go_enter Tryd.func49, Tryd.ntmps49
    go_wp2
    go_returns
    exact ⟨rfl, by go_grown⟩
  · have e : cvP ⟨3, x, s, r⟩ = ⟨3, 0, s, 0⟩ := rfl
    rw [e]
    go_enter Tryd.func61, Tryd.ntmps61
    go_wp2
    go_returns
    exact ⟨rfl, by go_grown⟩
  · have e : cvP ⟨4, x, s, r⟩ = ⟨4, 0, ByteArray.empty, r⟩ := rfl
    rw [e]
    go_enter Tryd.func64, Tryd.ntmps64
    go_wp2
    go_returns
    exact ⟨rfl, by go_grown⟩
  · have e : cvP ⟨k, x, s, r⟩ = ⟨0, 0, ByteArray.empty, 0⟩ := by
      simp only at k0 k1 k2 k3 k4
      simp [cvP, k0, k1, k2, k3, k4]
    rw [e]
    go_enter Tryd.func67, Tryd.ntmps67
    go_wp2
    go_returns
    exact ⟨rfl, by go_grown⟩

theorem cont17_same {p : PVal} {T T' : TypeId} {v v' : Value} {f f' : FuncId} (h : Cont17 p T v f) (h' : Cont17 p T' v' f') : T = T' ∧ v = v' ∧ f = f' := by
  rcases h with ⟨k, rfl, rfl, rfl⟩ | ⟨k, rfl, rfl, rfl⟩ | ⟨k, rfl, rfl, rfl⟩ | ⟨k, rfl, rfl, rfl⟩ | ⟨k, rfl, rfl, rfl⟩ | ⟨⟨k0, k1, k2, k3, k4⟩, rfl, rfl, rfl⟩ <;>
    rcases h' with ⟨j, rfl, rfl, rfl⟩ | ⟨j, rfl, rfl, rfl⟩ | ⟨j, rfl, rfl, rfl⟩ | ⟨j, rfl, rfl, rfl⟩ | ⟨j, rfl, rfl, rfl⟩ | ⟨⟨j0, j1, j2, j3, j4⟩, rfl, rfl, rfl⟩ <;>
    first
      | exact ⟨rfl, rfl, rfl⟩
      | (exfalso; omega)
theorem cont17_some (p : PVal) : ∃ T v f, Cont17 p T v f := by
  by_cases k0 : p.kind = 0
  · exact ⟨_, _, _, .inl ⟨k0, rfl, rfl, rfl⟩⟩
  by_cases k1 : p.kind = 1
  · exact ⟨_, _, _, .inr (.inl ⟨k1, rfl, rfl, rfl⟩)⟩
  by_cases k2 : p.kind = 2
  · exact ⟨_, _, _, .inr (.inr (.inl ⟨k2, rfl, rfl, rfl⟩))⟩
  by_cases k3 : p.kind = 3
  · exact ⟨_, _, _, .inr (.inr (.inr (.inl ⟨k3, rfl, rfl, rfl⟩)))⟩
  by_cases k4 : p.kind = 4
  · exact ⟨_, _, _, .inr (.inr (.inr (.inr (.inl ⟨k4, rfl, rfl, rfl⟩))))⟩
  exact ⟨_, _, _, .inr (.inr (.inr (.inr (.inr ⟨⟨k0, k1, k2, k3, k4⟩, rfl, rfl, rfl⟩))))⟩
theorem iContentAs {p : PVal} {T : TypeId} {v : Value} {fv : FuncId} (h : Cont17 p T v fv) (w : World) :
    Calls Tryd.prog 16 #[.agg #[.int .i64 p.kind, .int .u64 (p.num : Int), .string p.text, .int .i64 p.ref]] w fun e w' => e = .returned (.iface T v) ∧ Below w.heap.size w w' :=
  (iContentOf p w).mono fun e w' ⟨T', v', f', e1, h', b⟩ => by
    obtain ⟨rfl, rfl, rfl⟩ := cont17_same h h'
    exact ⟨e1, b⟩

/-- two Values are the same in all fields -/
def eqP (a b : PVal) : Bool := decide (a.kind = b.kind) && (decide (a.num = b.num) && (decide (a.text = b.text) && decide (a.ref = b.ref)))
theorem eqP_iff (a b : PVal) : eqP a b = true ↔ a.kind = b.kind ∧ a.num = b.num ∧ a.text = b.text ∧ a.ref = b.ref := by
  unfold eqP
  simp
theorem ok17 (p : PVal) : (eqP (cvP p) p && (decide (p.text.size ≤ 200) && decide (0 ≤ p.ref))) = valOk p := by
  obtain ⟨k, x, s, r⟩ := p
  have hE : (ByteArray.empty = s) ↔ s.size = 0 := ⟨fun h => by rw [← h]; rfl, fun h => (empty_is h).symm⟩
  by_cases k0 : k = 0
  · subst k0
    show (eqP ⟨0, 0, ByteArray.empty, 0⟩ ⟨0, x, s, r⟩ && (decide (s.size ≤ 200) && decide (0 ≤ r))) = (decide (x = 0) && (decide (s.size = 0) && decide (r = 0)))
    rw [Bool.eq_iff_iff]
    simp only [Bool.and_eq_true, decide_eq_true_eq, eqP_iff, hE, true_and]
    omega
  by_cases k1 : k = 1
  · subst k1
    show (eqP ⟨1, if x = 0 then 0 else 1, ByteArray.empty, 0⟩ ⟨1, x, s, r⟩ && (decide (s.size ≤ 200) && decide (0 ≤ r))) = (decide (x ≤ 1) && (decide (s.size = 0) && decide (r = 0)))
    rw [Bool.eq_iff_iff]
    simp only [Bool.and_eq_true, decide_eq_true_eq, eqP_iff, hE, true_and]
    by_cases x0 : x = 0
    · rw [if_pos x0]
      omega
    · rw [if_neg x0]
      omega
  by_cases k2 : k = 2
  · subst k2
    show (eqP ⟨2, x, ByteArray.empty, 0⟩ ⟨2, x, s, r⟩ && (decide (s.size ≤ 200) && decide (0 ≤ r))) = (decide (s.size = 0) && decide (r = 0))
    rw [Bool.eq_iff_iff]
    simp only [Bool.and_eq_true, decide_eq_true_eq, eqP_iff, hE, true_and]
    omega
  by_cases k3 : k = 3
  · subst k3
    show (eqP ⟨3, 0, s, 0⟩ ⟨3, x, s, r⟩ && (decide (s.size ≤ 200) && decide (0 ≤ r))) = (decide (x = 0) && (decide (r = 0) && decide (s.size ≤ 200)))
    rw [Bool.eq_iff_iff]
    simp only [Bool.and_eq_true, decide_eq_true_eq, eqP_iff, true_and]
    omega
  by_cases k4 : k = 4
  · subst k4
    show (eqP ⟨4, 0, ByteArray.empty, r⟩ ⟨4, x, s, r⟩ && (decide (s.size ≤ 200) && decide (0 ≤ r))) = (decide (x = 0) && (decide (s.size = 0) && decide (0 ≤ r)))
    rw [Bool.eq_iff_iff]
    simp only [Bool.and_eq_true, decide_eq_true_eq, eqP_iff, hE, true_and, and_true]
    omega
  have e : cvP ⟨k, x, s, r⟩ = ⟨0, 0, ByteArray.empty, 0⟩ := by simp [cvP, k0, k1, k2, k3, k4]
  have e' : valOk ⟨k, x, s, r⟩ = false := by simp [valOk, k0, k1, k2, k3, k4]
  have e2 : eqP ⟨0, 0, ByteArray.empty, 0⟩ ⟨k, x, s, r⟩ = false := by
    unfold eqP
    simp [Ne.symm k0]
  rw [e, e', e2]
  rfl

theorem like_four (a b : PVal) (w : World) : (if a.kind = b.kind then if (a.num : Int) = (b.num : Int) then if a.text.toList = b.text.toList then if a.ref = b.ref then Result.ok true w else Result.ok false w else Result.ok false w else Result.ok false w else Result.ok false w) = Result.ok (eqP a b) w := by
  have ht : (a.text.toList = b.text.toList) ↔ a.text = b.text := ⟨fun h => by
    rw [ByteArray.toList_eq, ByteArray.toList_eq] at h
    exact ByteArray.ext (Array.toList_inj.mp h), fun h => by rw [h]⟩
  have hn : ((a.num : Int) = (b.num : Int)) ↔ a.num = b.num := by omega
  simp only [ht, hn]
  unfold eqP
  by_cases h0 : a.kind = b.kind
  · by_cases h1 : a.num = b.num
    · by_cases h2 : a.text = b.text
      · by_cases h3 : a.ref = b.ref <;> simp [h0, h1, h2, h3]
      · simp [h0, h1, h2]
    · simp [h0, h1]
  · simp [h0]

set_option maxHeartbeats 2000000 in
set_option maxRecDepth 100000 in
theorem eqFour (a b : PVal) (w : World) : (Op.equalIn 10000 26 (.agg #[.int .i64 a.kind, .int .u64 (a.num : Int), .string a.text, .int .i64 a.ref]) (.agg #[.int .i64 b.kind, .int .u64 (b.num : Int), .string b.text, .int .i64 b.ref])).run Tryd.prog w = .ok (eqP a b) w := by
  have hst : Tryd.prog.stoodInHeld 26 = false := by kernel_rfl
  go_simp
  exact like_four _ _ w

end Go.Proofs.YtlikjbklagolmaaDoor
