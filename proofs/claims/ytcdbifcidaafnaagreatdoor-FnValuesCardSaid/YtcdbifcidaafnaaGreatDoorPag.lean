/-
  Part 7 of what is proved of drawn right trees.
-/
import Derived.Test.YtcdbifcidaafnaaGreatDoorPaa
import Derived.LaidEql
import Derived.Stop.Asserts
import Derived.RowKitTokens
import Derived.Handy
import Derived.Test.YtcdbifcidaafnaaGreatDoorPac
import Derived.Laws.BitsAllLaws

namespace Go.Proofs.YtcdbifcidaafnaaGreatDoor
open Go.RowKit Go.Sort
set_option linter.unusedVariables false
def cvP (p : PVal) : PVal :=
  if p.kind = 0 then ⟨0, 0, ByteArray.empty, 0⟩
  else if p.kind = 1 then ⟨1, if p.num = 0 then 0 else 1, ByteArray.empty, 0⟩
  else if p.kind = 2 then ⟨2, p.num, ByteArray.empty, 0⟩
  else if p.kind = 3 then ⟨3, 0, p.text, 0⟩
  else if p.kind = 4 then ⟨4, 0, ByteArray.empty, p.ref⟩
  else ⟨0, 0, ByteArray.empty, 0⟩
def Cont17 (p : PVal) (T : TypeId) (v : Value) (fv : FuncId) : Prop :=
  (p.kind = 0 ∧ T = 79 ∧ v = .agg #[] ∧ fv = 217)
  ∨ (p.kind = 1 ∧ T = 80 ∧ v = .bool (!decide (p.num = 0)) ∧ fv = 220)
  ∨ (p.kind = 2 ∧ T = 64 ∧ v = .int .u64 (p.num : Int) ∧ fv = 134)
  ∨ (p.kind = 3 ∧ T = 81 ∧ v = .string p.text ∧ fv = 223)
  ∨ (p.kind = 4 ∧ T = 82 ∧ v = .int .i64 p.ref ∧ fv = 228)
  ∨ ((p.kind ≠ 0 ∧ p.kind ≠ 1 ∧ p.kind ≠ 2 ∧ p.kind ≠ 3 ∧ p.kind ≠ 4) ∧ T = 83 ∧ v = .agg #[] ∧ fv = 231)
set_option maxHeartbeats 1000000 in
set_option maxRecDepth 100000 in
theorem iContentOf (p : PVal) (w : World) :
    Calls Tryz.prog 25 #[.agg #[.int .i64 p.kind, .int .u64 (p.num : Int), .string p.text, .int .i64 p.ref]] w fun e w' => ∃ T v fv, e = .returned (.iface T v) ∧ Cont17 p T v fv ∧ Below w.heap.size w w' := by
  obtain ⟨k, x, s, r⟩ := p
  simp only
  have b0 : ∀ cs t, Below w.heap.size w (w.alloc (.cells cs t)) := fun cs t => (Below.refl _ _).alloc (Nat.le_refl _) _
  by_cases k0 : k = 0
  · subst k0
    go_enter Tryz.func25, Tryz.ntmps25
    go_wp2
    go_ret
    exact ⟨_, _, _, rfl, .inl ⟨rfl, rfl, rfl, rfl⟩, b0 _ _⟩
  by_cases k1 : k = 1
  · subst k1
    by_cases x0 : x = 0
    · subst x0
      go_enter Tryz.func25, Tryz.ntmps25
      go_wp2
      go_ret
      exact ⟨_, _, _, rfl, .inr (.inl ⟨rfl, rfl, rfl, rfl⟩), b0 _ _⟩
    · have z : ((x : Int) != 0) = true := by simp [x0]
      have e : (!decide (x = 0)) = true := by simp [x0]
      go_enter Tryz.func25, Tryz.ntmps25
      go_wp2
      go_ret
      exact ⟨_, _, _, rfl, .inr (.inl ⟨rfl, rfl, by simp [x0], rfl⟩), b0 _ _⟩
  by_cases k2 : k = 2
  · subst k2
    go_enter Tryz.func25, Tryz.ntmps25
    go_wp2
    go_ret
    exact ⟨_, _, _, rfl, .inr (.inr (.inl ⟨rfl, rfl, rfl, rfl⟩)), b0 _ _⟩
  by_cases k3 : k = 3
  · subst k3
    go_enter Tryz.func25, Tryz.ntmps25
    go_wp2
    go_ret
    exact ⟨_, _, _, rfl, .inr (.inr (.inr (.inl ⟨rfl, rfl, rfl, rfl⟩))), b0 _ _⟩
  by_cases k4 : k = 4
  · subst k4
    go_enter Tryz.func25, Tryz.ntmps25
    go_wp2
    go_ret
    exact ⟨_, _, _, rfl, .inr (.inr (.inr (.inr (.inl ⟨rfl, rfl, rfl, rfl⟩)))), b0 _ _⟩
  go_enter Tryz.func25, Tryz.ntmps25
  go_wp2
  go_ret
  exact ⟨_, _, _, rfl, .inr (.inr (.inr (.inr (.inr ⟨⟨k0, k1, k2, k3, k4⟩, rfl, rfl, rfl⟩)))), b0 _ _⟩
set_option maxHeartbeats 1000000 in
set_option maxRecDepth 100000 in
theorem iValueOf {p : PVal} {T : TypeId} {v : Value} {fv : FuncId} (h : Cont17 p T v fv) (w : World) :
    Calls Tryz.prog fv #[v] w fun e w' => e = .returned (.agg #[.int .i64 (cvP p).kind, .int .u64 ((cvP p).num : Int), .string (cvP p).text, .int .i64 (cvP p).ref]) ∧ Below w.heap.size w w' := by
  obtain ⟨k, x, s, r⟩ := p
  rcases h with ⟨rfl, rfl, rfl, rfl⟩ | ⟨rfl, rfl, rfl, rfl⟩ | ⟨rfl, rfl, rfl, rfl⟩ | ⟨rfl, rfl, rfl, rfl⟩ | ⟨rfl, rfl, rfl, rfl⟩ | ⟨⟨k0, k1, k2, k3, k4⟩, rfl, rfl, rfl⟩
  · have e : cvP ⟨0, x, s, r⟩ = ⟨0, 0, ByteArray.empty, 0⟩ := rfl
    rw [e]
    go_enter Tryz.func217, Tryz.ntmps217
    go_wp2
    go_returns
    exact ⟨rfl, by go_grown⟩
  · by_cases x0 : x = 0
    · subst x0
      have e : cvP ⟨1, 0, s, r⟩ = ⟨1, 0, ByteArray.empty, 0⟩ := rfl
      rw [e]
      go_enter Tryz.func220, Tryz.ntmps220
      go_wp2
      go_returns
      exact ⟨rfl, by go_grown⟩
    · have e : cvP ⟨1, x, s, r⟩ = ⟨1, 1, ByteArray.empty, 0⟩ := by simp [cvP, x0]
      have d : (!decide (x = 0)) = true := by simp [x0]
      rw [e]
      simp only [d]
      go_enter Tryz.func220, Tryz.ntmps220
      go_wp2
      go_returns
      exact ⟨rfl, by go_grown⟩
  · have e : cvP ⟨2, x, s, r⟩ = ⟨2, x, ByteArray.empty, 0⟩ := rfl
    rw [e]
    go_enter Tryz.func134, Tryz.ntmps134
    go_wp2
    go_returns
    exact ⟨rfl, by go_grown⟩
  · have e : cvP ⟨3, x, s, r⟩ = ⟨3, 0, s, 0⟩ := rfl
    rw [e]
    go_enter Tryz.func223, Tryz.ntmps223
    go_wp2
    go_returns
    exact ⟨rfl, by go_grown⟩
  · have e : cvP ⟨4, x, s, r⟩ = ⟨4, 0, ByteArray.empty, r⟩ := rfl
    rw [e]
    go_enter Tryz.func228, Tryz.ntmps228
    go_wp2
    go_returns
    exact ⟨rfl, by go_grown⟩
  · have e : cvP ⟨k, x, s, r⟩ = ⟨0, 0, ByteArray.empty, 0⟩ := by
      simp only at k0 k1 k2 k3 k4
      simp [cvP, k0, k1, k2, k3, k4]
    rw [e]
    go_enter Tryz.func231, Tryz.ntmps231
    go_wp2
    go_returns
    exact ⟨rfl, by go_grown⟩
theorem cont17_same {p : PVal} {T T' : TypeId} {v v' : Value} {f f' : FuncId} (h : Cont17 p T v f) (h' : Cont17 p T' v' f') : T = T' ∧ v = v' ∧ f = f' := by
  rcases h with ⟨k, rfl, rfl, rfl⟩ | ⟨k, rfl, rfl, rfl⟩ | ⟨k, rfl, rfl, rfl⟩ | ⟨k, rfl, rfl, rfl⟩ | ⟨k, rfl, rfl, rfl⟩ | ⟨⟨k0, k1, k2, k3, k4⟩, rfl, rfl, rfl⟩ <;>
    rcases h' with ⟨j, rfl, rfl, rfl⟩ | ⟨j, rfl, rfl, rfl⟩ | ⟨j, rfl, rfl, rfl⟩ | ⟨j, rfl, rfl, rfl⟩ | ⟨j, rfl, rfl, rfl⟩ | ⟨⟨j0, j1, j2, j3, j4⟩, rfl, rfl, rfl⟩ <;>
    first
      | exact ⟨rfl, rfl, rfl⟩
      | (exfalso; omega)
theorem cont17_some (p : PVal) : ∃ T v f, Cont17 p T v f := by
  by_cases k0 : p.kind = 0
  · exact ⟨_, _, _, .inl ⟨k0, rfl, rfl, rfl⟩⟩
  by_cases k1 : p.kind = 1
  · exact ⟨_, _, _, .inr (.inl ⟨k1, rfl, rfl, rfl⟩)⟩
  by_cases k2 : p.kind = 2
  · exact ⟨_, _, _, .inr (.inr (.inl ⟨k2, rfl, rfl, rfl⟩))⟩
  by_cases k3 : p.kind = 3
  · exact ⟨_, _, _, .inr (.inr (.inr (.inl ⟨k3, rfl, rfl, rfl⟩)))⟩
  by_cases k4 : p.kind = 4
  · exact ⟨_, _, _, .inr (.inr (.inr (.inr (.inl ⟨k4, rfl, rfl, rfl⟩))))⟩
  exact ⟨_, _, _, .inr (.inr (.inr (.inr (.inr ⟨⟨k0, k1, k2, k3, k4⟩, rfl, rfl, rfl⟩))))⟩
theorem iContentAs {p : PVal} {T : TypeId} {v : Value} {fv : FuncId} (h : Cont17 p T v fv) (w : World) :
    Calls Tryz.prog 25 #[.agg #[.int .i64 p.kind, .int .u64 (p.num : Int), .string p.text, .int .i64 p.ref]] w fun e w' => e = .returned (.iface T v) ∧ Below w.heap.size w w' :=
  (iContentOf p w).mono fun e w' ⟨T', v', f', e1, h', b⟩ => by
    obtain ⟨rfl, rfl, rfl⟩ := cont17_same h h'
    exact ⟨e1, b⟩
def eqP (a b : PVal) : Bool := decide (a.kind = b.kind) && (decide (a.num = b.num) && (decide (a.text = b.text) && decide (a.ref = b.ref)))
theorem eqP_iff (a b : PVal) : eqP a b = true ↔ a.kind = b.kind ∧ a.num = b.num ∧ a.text = b.text ∧ a.ref = b.ref := by
  unfold eqP
  simp
theorem ok17 (p : PVal) : (eqP (cvP p) p && (decide (p.text.size ≤ 200) && decide (0 ≤ p.ref))) = valOk p := by
  obtain ⟨k, x, s, r⟩ := p
  have hE : (ByteArray.empty = s) ↔ s.size = 0 := ⟨fun h => by rw [← h]; rfl, fun h => (empty_is h).symm⟩
  by_cases k0 : k = 0
  · subst k0
    show (eqP ⟨0, 0, ByteArray.empty, 0⟩ ⟨0, x, s, r⟩ && (decide (s.size ≤ 200) && decide (0 ≤ r))) = (decide (x = 0) && (decide (s.size = 0) && decide (r = 0)))
    rw [Bool.eq_iff_iff]
    simp only [Bool.and_eq_true, decide_eq_true_eq, eqP_iff, hE, true_and]
    omega
  by_cases k1 : k = 1
  · subst k1
    show (eqP ⟨1, if x = 0 then 0 else 1, ByteArray.empty, 0⟩ ⟨1, x, s, r⟩ && (decide (s.size ≤ 200) && decide (0 ≤ r))) = (decide (x ≤ 1) && (decide (s.size = 0) && decide (r = 0)))
    rw [Bool.eq_iff_iff]
    simp only [Bool.and_eq_true, decide_eq_true_eq, eqP_iff, hE, true_and]
    by_cases x0 : x = 0
    · rw [if_pos x0]
      omega
    · rw [if_neg x0]
      omega
  by_cases k2 : k = 2
  · subst k2
    show (eqP ⟨2, x, ByteArray.empty, 0⟩ ⟨2, x, s, r⟩ && (decide (s.size ≤ 200) && decide (0 ≤ r))) = (decide (s.size = 0) && decide (r = 0))
    rw [Bool.eq_iff_iff]
    simp only [Bool.and_eq_true, decide_eq_true_eq, eqP_iff, hE, true_and]
    omega
  by_cases k3 : k = 3
  · subst k3
    show (eqP ⟨3, 0, s, 0⟩ ⟨3, x, s, r⟩ && (decide (s.size ≤ 200) && decide (0 ≤ r))) = (decide (x = 0) && (decide (r = 0) && decide (s.size ≤ 200)))
    rw [Bool.eq_iff_iff]
    simp only [Bool.and_eq_true, decide_eq_true_eq, eqP_iff, true_and]
    omega
  by_cases k4 : k = 4
  · subst k4
    show (eqP ⟨4, 0, ByteArray.empty, r⟩ ⟨4, x, s, r⟩ && (decide (s.size ≤ 200) && decide (0 ≤ r))) = (decide (x = 0) && (decide (s.size = 0) && decide (0 ≤ r)))
    rw [Bool.eq_iff_iff]
    simp only [Bool.and_eq_true, decide_eq_true_eq, eqP_iff, hE, true_and, and_true]
    omega
  have e : cvP ⟨k, x, s, r⟩ = ⟨0, 0, ByteArray.empty, 0⟩ := by simp [cvP, k0, k1, k2, k3, k4]
  have e' : valOk ⟨k, x, s, r⟩ = false := by simp [valOk, k0, k1, k2, k3, k4]
  have e2 : eqP ⟨0, 0, ByteArray.empty, 0⟩ ⟨k, x, s, r⟩ = false := by
    unfold eqP
    simp [Ne.symm k0]
  rw [e, e', e2]
  rfl
theorem like_four (a b : PVal) (w : World) : (if a.kind = b.kind then if (a.num : Int) = (b.num : Int) then if a.text.toList = b.text.toList then if a.ref = b.ref then Result.ok true w else Result.ok false w else Result.ok false w else Result.ok false w else Result.ok false w) = Result.ok (eqP a b) w := by
  have ht : (a.text.toList = b.text.toList) ↔ a.text = b.text := ⟨fun h => by
    rw [ByteArray.toList_eq, ByteArray.toList_eq] at h
    exact ByteArray.ext (Array.toList_inj.mp h), fun h => by rw [h]⟩
  have hn : ((a.num : Int) = (b.num : Int)) ↔ a.num = b.num := by omega
  simp only [ht, hn]
  unfold eqP
  by_cases h0 : a.kind = b.kind
  · by_cases h1 : a.num = b.num
    · by_cases h2 : a.text = b.text
      · by_cases h3 : a.ref = b.ref <;> simp [h0, h1, h2, h3]
      · simp [h0, h1, h2]
    · simp [h0, h1]
  · simp [h0]
set_option maxHeartbeats 2000000 in
set_option maxRecDepth 100000 in
theorem eqFour (a b : PVal) (w : World) : (Op.equalIn 10000 26 (.agg #[.int .i64 a.kind, .int .u64 (a.num : Int), .string a.text, .int .i64 a.ref]) (.agg #[.int .i64 b.kind, .int .u64 (b.num : Int), .string b.text, .int .i64 b.ref])).run Tryz.prog w = .ok (eqP a b) w := by
  have hst : Tryz.prog.stoodInHeld 26 = false := by kernel_rfl
  go_simp
  exact like_four _ _ w
end Go.Proofs.YtcdbifcidaafnaaGreatDoor
namespace Go.Proofs.YtcdbifcidaafnaaGreatDoor
open Go Go.RowKit Go.Extern.Stop Go.Stop Go.Extern
set_option linter.unusedVariables false
set_option linter.unusedSimpArgs false
theorem as_nil (t : Value) (w : World) :
    Calls Tryz.prog 52 #[.nilIface, t] w fun e w' => e = .returned (.bool false) ∧ w' = w := by
  go_enter Tryz.func52, Tryz.ntmps52
  go_wp2
  go_ret
  exact ⟨rfl, rfl⟩
theorem asValueOf (t : Addr) (w : World) : (ReflectliteValue.unpack (.iface 87 (.pointer (some t)))).run Tryz.prog w
    = .ok (.agg #[.pointer (some ⟨9, 87, none⟩), .pointer (some ⟨w.heap.size, 0, none⟩), .int .u64 150]) (w.alloc (.cells #[.pointer (some t)] 87)) := by kernel_rfl
theorem asType (a : Addr) (w : World) : (ReflectliteValue.methodAny (ReflectliteValue.valueError "reflectlite.Value.Type" 0) (fun t _ _ _ => ReflectliteType.toType t) #[.agg #[.pointer (some ⟨9, 87, none⟩), .pointer (some a), .int .u64 150]]).run Tryz.prog w
    = .ok (.iface 128 (.agg #[.pointer (some ⟨9, 87, none⟩)])) w := by kernel_rfl
theorem asKind (w : World) : ((ReflectliteType.abiMethod fun t => Functor.map (fun a : Nat => Value.int IntKind.u8 (a : Int)) (Rtype.kind t)) #[.pointer (some ⟨9, 87, none⟩)]).run Tryz.prog w = .ok (.int .u8 22) w := by kernel_rfl
theorem asKindS (w : World) : ((ReflectliteType.abiMethod fun t => Functor.map (fun a : Nat => Value.int IntKind.u8 (a : Int)) (Rtype.kind t)) #[.pointer (some ⟨9, 85, none⟩)]).run Tryz.prog w = .ok (.int .u8 25) w := by kernel_rfl
theorem rlm (z : Sem Value) (f : TypeId → Addr → Nat → Nat → Sem Value) (v : Value) :
    ReflectliteValue.method z f #[v] = (do match ← ReflectliteValue.parts v with | none => z | some (t, a, fl) => f t a fl (fl % 32)) := rfl
theorem asParts (a : Addr) (w : World) : (ReflectliteValue.parts (.agg #[.pointer (some ⟨9, 87, none⟩), .pointer (some a), .int .u64 150])).run Tryz.prog w = .ok (some (87, a, 150)) w := by kernel_rfl
theorem asIsNil (a p : Addr) (W : World) (ha : W.cell? a = some (.pointer (some p))) :
    (ReflectliteValue.method (ReflectliteValue.valueError "reflectlite.Value.IsNil" 0) ReflectliteValue.isNil #[.agg #[.pointer (some ⟨9, 87, none⟩), .pointer (some a), .int .u64 150]]).run Tryz.prog W = .ok (.bool false) W := by
  rw [rlm]
  simp only [Sem.run_bind, asParts, Result.andThen]
  simp [ReflectliteValue.isNil, loadVar, isAgg, underlying, Tryz.underlying87, ha, Result.andThen]
theorem asElem (w : World) : (ReflectliteType.method ReflectliteType.elem #[.agg #[.pointer (some ⟨9, 87, none⟩)]]).run Tryz.prog w = .ok (.iface 128 (.agg #[.pointer (some ⟨9, 85, none⟩)])) w := by kernel_rfl
theorem asImplements (w : World) : (ReflectliteType.relation "Implements" ReflectliteType.implements_ #[.agg #[.pointer (some ⟨9, 85, none⟩)], .iface 128 (.agg #[.pointer (some ⟨9, 52, none⟩)])]).run Tryz.prog w = .ok (.bool true) w := by kernel_rfl
theorem asTypeOf (v : Value) (w : World) : (ReflectliteType.typeOf #[.iface 85 v]).run Tryz.prog w = .ok (.iface 128 (.agg #[.pointer (some ⟨9, 85, none⟩)])) w := by kernel_rfl
theorem asAssignable (w : World) : (ReflectliteType.relation "AssignableTo" ReflectliteType.assignableTo #[.agg #[.pointer (some ⟨9, 85, none⟩)], .iface 128 (.agg #[.pointer (some ⟨9, 85, none⟩)])]).run Tryz.prog w = .ok (.bool true) w := by kernel_rfl
theorem asValueOfS (s : ByteArray) (w : World) : (ReflectliteValue.unpack (.iface 85 (.agg #[.string s]))).run Tryz.prog w
    = .ok (.agg #[.pointer (some ⟨9, 85, none⟩), .pointer (some ⟨w.heap.size, 0, none⟩), .int .u64 153]) (w.alloc (.cells #[.string s] 85)) := by kernel_rfl
theorem asElemOf (w : World) : (Rtype.elem? 87).run Tryz.prog w = .ok (some 85) w := by kernel_rfl
theorem asMk (p : Addr) (w : World) : (ReflectliteValue.mk 85 p ReflectliteValue.flagAddr).run Tryz.prog w = .ok (.agg #[.pointer (some ⟨9, 85, none⟩), .pointer (some p), .int .u64 409]) w := by kernel_rfl
theorem asElemV (a p : Addr) (W : World) (ha : W.cell? a = some (.pointer (some p))) :
    (ReflectliteValue.method (ReflectliteValue.valueError "reflectlite.Value.Elem" 0) ReflectliteValue.elem #[.agg #[.pointer (some ⟨9, 87, none⟩), .pointer (some a), .int .u64 150]]).run Tryz.prog W
      = .ok (.agg #[.pointer (some ⟨9, 85, none⟩), .pointer (some p), .int .u64 409]) W := by
  rw [rlm]
  simp only [Sem.run_bind, asParts, Result.andThen]
  simp [ReflectliteValue.elem, loadVar, isAgg, underlying, Tryz.underlying87, ha, Result.andThen, asElemOf, asMk]
theorem rls (v x : Value) : ∃ (u1 : Sem Value) (u2 u3 : Sem PUnit), ReflectliteValue.set #[v, x] = (do
    let (some (dst, a, fl), some (src, b, _)) := (← ReflectliteValue.parts v, ← ReflectliteValue.parts x)
      | u1
    if fl / ReflectliteValue.flagAddr % 2 == 0 then u2
    let val ← loadVar src b
    if ← Rtype.directlyAssignable dst src then storeVar dst a val
    else if ← Rtype.implements dst src then
      if (← Rtype.kind src) == 20 then
        match val with
        | .nilIface => u3
        | _ => storeVar dst a val
      else storeVar dst a (.iface src val)
    else panicString ("reflectlite.Set: value of type " ++ (← Rtype.spelt src) ++ " is not assignable to type " ++ (← Rtype.spelt dst))
    pure (.tuple #[])) := ⟨_, _, _, rfl⟩
theorem asPartsA (a : Addr) (w : World) : (ReflectliteValue.parts (.agg #[.pointer (some ⟨9, 85, none⟩), .pointer (some a), .int .u64 409])).run Tryz.prog w = .ok (some (85, a, 409)) w := by kernel_rfl
theorem asPartsS (a : Addr) (w : World) : (ReflectliteValue.parts (.agg #[.pointer (some ⟨9, 85, none⟩), .pointer (some a), .int .u64 153])).run Tryz.prog w = .ok (some (85, a, 153)) w := by kernel_rfl
theorem asDirect (w : World) : (Rtype.directlyAssignable 85 85).run Tryz.prog w = .ok true w := by kernel_rfl
theorem asSet (T B : Nat) (s : ByteArray) (old : Value) (W : World) (hb : W.cell? ⟨B, 0, none⟩ = some (.string s)) (ht : W.cell? ⟨T, 0, none⟩ = some old) (hf : W.frozen? ⟨T, 0, none⟩ = false) :
    (ReflectliteValue.set #[.agg #[.pointer (some ⟨9, 85, none⟩), .pointer (some ⟨T, 0, none⟩), .int .u64 409], .agg #[.pointer (some ⟨9, 85, none⟩), .pointer (some ⟨B, 0, none⟩), .int .u64 153]]).run Tryz.prog W
      = .ok (.tuple #[]) (W.setCell ⟨T, 0, none⟩ (.string s)) := by
  obtain ⟨u1, u2, u3, e⟩ := rls (.agg #[.pointer (some ⟨9, 85, none⟩), .pointer (some ⟨T, 0, none⟩), .int .u64 409]) (.agg #[.pointer (some ⟨9, 85, none⟩), .pointer (some ⟨B, 0, none⟩), .int .u64 153])
  rw [e]
  clear e
  simp only [Sem.run_bind, asPartsA, asPartsS, Result.andThen]
  simp [ReflectliteValue.flagAddr]
  go_simp
  simp [asDirect, Result.andThen, ht, hf]
set_option maxHeartbeats 4000000 in
theorem as_hit (T : Nat) (s : ByteArray) (old : Value) (w : World) (hg : w.cell? ⟨0, 0, none⟩ = some (.iface 128 (.agg #[.pointer (some ⟨9, 52, none⟩)]))) (ht0 : w.cell? ⟨T, 0, none⟩ = some old) (hf0 : w.frozen? ⟨T, 0, none⟩ = false) :
    Calls Tryz.prog 52 #[.iface 85 (.agg #[.string s]), .iface 87 (.pointer (some ⟨T, 0, none⟩))] w fun ev w' => ev = .returned (.bool true) ∧ w' = ((((w.alloc (.cells #[.pointer (some ⟨T, 0, none⟩)] 87)).alloc (.cells #[.pointer (some ⟨9, 87, none⟩), .pointer (some ⟨w.heap.size, 0, none⟩), .int .u64 150] 109)).alloc (.cells #[.pointer (some ⟨9, 87, none⟩), .pointer (some ⟨w.heap.size, 0, none⟩), .int .u64 150] 109)).alloc (.cells #[.string s] 85)).setCell ⟨T, 0, none⟩ (.string s) := by
  have h6 := @run_callFunc_extern Tryz.prog 69 _ (fun args => ReflectliteValue.unpack (args.getD 0 (.tuple #[]))) Tryz.func69 (by kernel_rfl) (by kernel_rfl) (by kernel_rfl) (by kernel_rfl)
  have h7 := @run_callFunc_extern Tryz.prog 70 _ (ReflectliteValue.methodAny (ReflectliteValue.valueError "reflectlite.Value.Type" 0) (fun t _ _ _ => ReflectliteType.toType t)) Tryz.func70 (by kernel_rfl) (by kernel_rfl) (by kernel_rfl) (by kernel_rfl)
  have h8 := @run_callFunc_extern Tryz.prog 71 _ (ReflectliteValue.method (ReflectliteValue.valueError "reflectlite.Value.IsNil" 0) ReflectliteValue.isNil) Tryz.func71 (by kernel_rfl) (by kernel_rfl) (by kernel_rfl) (by kernel_rfl)
  have h27 := @run_callFunc_extern Tryz.prog 129 _ (ReflectliteType.abiMethod fun t => do pure (.int .u8 (← Rtype.kind t))) Tryz.func129 (by kernel_rfl) (by kernel_rfl) (by kernel_rfl) (by kernel_rfl)
  have h37 := @run_callFunc_extern Tryz.prog 239 _ (ReflectliteType.method ReflectliteType.elem) Tryz.func239 (by kernel_rfl) (by kernel_rfl) (by kernel_rfl) (by kernel_rfl)
  have h38 := @run_callFunc_extern Tryz.prog 240 _ (ReflectliteType.relation "Implements" ReflectliteType.implements_) Tryz.func240 (by kernel_rfl) (by kernel_rfl) (by kernel_rfl) (by kernel_rfl)
  have h10 := @run_callFunc_extern Tryz.prog 85 _ ReflectliteType.typeOf Tryz.func85 (by kernel_rfl) (by kernel_rfl) (by kernel_rfl) (by kernel_rfl)
  have h35 := @run_callFunc_extern Tryz.prog 237 _ (ReflectliteType.relation "AssignableTo" ReflectliteType.assignableTo) Tryz.func237 (by kernel_rfl) (by kernel_rfl) (by kernel_rfl) (by kernel_rfl)
  have h11 := @run_callFunc_extern Tryz.prog 86 _ (ReflectliteValue.method (ReflectliteValue.valueError "reflectlite.Value.Elem" 0) ReflectliteValue.elem) Tryz.func86 (by kernel_rfl) (by kernel_rfl) (by kernel_rfl) (by kernel_rfl)
  have h12 := @run_callFunc_extern Tryz.prog 87 _ ReflectliteValue.set Tryz.func87 (by kernel_rfl) (by kernel_rfl) (by kernel_rfl) (by kernel_rfl)
  have tO := asTypeOf
  have a25 := asAssignable
  have v25 := asValueOfS
  have f6 := asValueOf
  have f7 := asType
  have k27 := asKind
  have k25 := asKindS
  have e27 := asElem
  have i25 := asImplements
  have n8 := asIsNil ⟨w.heap.size, 0, none⟩ ⟨T, 0, none⟩ ((w.alloc (.cells #[.pointer (some ⟨T, 0, none⟩)] 87)).alloc (.cells #[.pointer (some ⟨9, 87, none⟩), .pointer (some ⟨w.heap.size, 0, none⟩), .int .u64 150] 109)) (by simp)
  have hlt : 0 < w.heap.size := by
    rcases Nat.eq_zero_or_pos w.heap.size with h0 | h
    · simp [World.cell?, h0] at hg
    · exact h
  have hg2 : ((w.alloc (.cells #[.pointer (some ⟨T, 0, none⟩)] 87)).alloc (.cells #[.pointer (some ⟨9, 87, none⟩), .pointer (some ⟨w.heap.size, 0, none⟩), .int .u64 150] 109)).cell? ⟨0, 0, none⟩ = some (.iface 128 (.agg #[.pointer (some ⟨9, 52, none⟩)])) := by
    rw [World.cell?_alloc_lt _ _ ⟨0, 0, none⟩ (by simp), World.cell?_alloc_lt _ _ ⟨0, 0, none⟩ hlt]; exact hg
  have htl : T < w.heap.size := by
    rcases Nat.lt_or_ge T w.heap.size with h | h
    · exact h
    · simp [World.cell?, Array.getElem?_eq_none h] at ht0
  have el := asElemV ⟨w.heap.size, 0, none⟩ ⟨T, 0, none⟩ (((w.alloc (.cells #[.pointer (some ⟨T, 0, none⟩)] 87)).alloc (.cells #[.pointer (some ⟨9, 87, none⟩), .pointer (some ⟨w.heap.size, 0, none⟩), .int .u64 150] 109)).alloc (.cells #[.pointer (some ⟨9, 87, none⟩), .pointer (some ⟨w.heap.size, 0, none⟩), .int .u64 150] 109)) (by rw [World.cell?_alloc_lt _ _ ⟨w.heap.size, 0, none⟩ (by simp; omega)]; simp)
  have st := asSet T (w.heap.size + 1 + 1 + 1) s old ((((w.alloc (.cells #[.pointer (some ⟨T, 0, none⟩)] 87)).alloc (.cells #[.pointer (some ⟨9, 87, none⟩), .pointer (some ⟨w.heap.size, 0, none⟩), .int .u64 150] 109)).alloc (.cells #[.pointer (some ⟨9, 87, none⟩), .pointer (some ⟨w.heap.size, 0, none⟩), .int .u64 150] 109)).alloc (.cells #[.string s] 85))
    (by rw [World.cell?_alloc_at _ _ _ _ (by simp)]; rfl)
    (by rw [World.cell?_alloc_lt _ _ ⟨T, 0, none⟩ (by simp; omega), World.cell?_alloc_lt _ _ ⟨T, 0, none⟩ (by simp; omega), World.cell?_alloc_lt _ _ ⟨T, 0, none⟩ (by simp; omega), World.cell?_alloc_lt _ _ ⟨T, 0, none⟩ htl]; exact ht0)
    (by rw [World.frozen?_alloc_old _ _ ⟨T, 0, none⟩ (by simp; omega), World.frozen?_alloc_old _ _ ⟨T, 0, none⟩ (by simp; omega), World.frozen?_alloc_old _ _ ⟨T, 0, none⟩ (by simp; omega), World.frozen?_alloc_old _ _ ⟨T, 0, none⟩ (Nat.ne_of_lt htl)]; exact hf0)
  go_enter Tryz.func52, Tryz.ntmps52
  go_wp2
  refine wp_loop_rounds 1 ?_
  rw [rounds_succ]
  go_wp2
  go_ret
  exact ⟨rfl, rfl⟩
end Go.Proofs.YtcdbifcidaafnaaGreatDoor
namespace Go.Proofs.YtcdbifcidaafnaaGreatDoor
open Go.RowKit Go.Sort
set_option linter.unusedVariables false
set_option linter.unusedSimpArgs false
def isNum (p : PVal) : Bool := decide (p.kind = 2)
def numP (p : PVal) : Nat := if p.kind = 2 then p.num else 0
def isTxt (p : PVal) : Bool := decide (p.kind = 3)
def txtP (p : PVal) : ByteArray := if p.kind = 3 then p.text else ByteArray.empty
set_option maxRecDepth 100000 in
theorem assertNum {p : PVal} {T : TypeId} {v : Value} {fv : FuncId} (h : Cont17 p T v fv) (W : World) : (Instr.typeAssert (.iface T v) 47 64 true).run Tryz.prog W = .ok (.tuple #[.int .u64 (numP p : Int), .bool (isNum p)]) W := by
  obtain ⟨k, x, s, r⟩ := p
  rcases h with ⟨rfl, rfl, rfl, rfl⟩ | ⟨rfl, rfl, rfl, rfl⟩ | ⟨rfl, rfl, rfl, rfl⟩ | ⟨rfl, rfl, rfl, rfl⟩ | ⟨rfl, rfl, rfl, rfl⟩ | ⟨⟨k0, k1, k2, k3, k4⟩, rfl, rfl, rfl⟩
  · kernel_rfl
  · kernel_rfl
  · kernel_rfl
  · kernel_rfl
  · kernel_rfl
  · simp only at k2
    have e1 : isNum ⟨k, x, s, r⟩ = false := by simp [isNum, k2]
    have e2 : numP ⟨k, x, s, r⟩ = 0 := by simp [numP, k2]
    rw [e1, e2]
    clear e1 e2 k0 k1 k2 k3 k4
    have q : (Instr.typeAssert (.iface 83 (.agg #[])) 47 64 true).run Tryz.prog W = .ok (.tuple #[.int .u64 ((0 : Nat) : Int), .bool false]) W := by kernel_rfl
    exact q
set_option maxRecDepth 100000 in
theorem assertTxt {p : PVal} {T : TypeId} {v : Value} {fv : FuncId} (h : Cont17 p T v fv) (W : World) : (Instr.typeAssert (.iface T v) 47 81 true).run Tryz.prog W = .ok (.tuple #[.string (txtP p), .bool (isTxt p)]) W := by
  obtain ⟨k, x, s, r⟩ := p
  rcases h with ⟨rfl, rfl, rfl, rfl⟩ | ⟨rfl, rfl, rfl, rfl⟩ | ⟨rfl, rfl, rfl, rfl⟩ | ⟨rfl, rfl, rfl, rfl⟩ | ⟨rfl, rfl, rfl, rfl⟩ | ⟨⟨k0, k1, k2, k3, k4⟩, rfl, rfl, rfl⟩
  · kernel_rfl
  · kernel_rfl
  · kernel_rfl
  · kernel_rfl
  · kernel_rfl
  · simp only at k3
    have e1 : isTxt ⟨k, x, s, r⟩ = false := by simp [isTxt, k3]
    have e2 : txtP ⟨k, x, s, r⟩ = ByteArray.empty := by simp [txtP, k3]
    rw [e1, e2]
    clear e1 e2 k0 k1 k2 k3 k4
    have q : (Instr.typeAssert (.iface 83 (.agg #[])) 47 81 true).run Tryz.prog W = .ok (.tuple #[.string ByteArray.empty, .bool false]) W := by kernel_rfl
    exact q
set_option maxHeartbeats 1000000 in
set_option maxRecDepth 100000 in
theorem iNumbersIn (a b : PVal) (w : World) :
    Calls Tryz.prog 42 #[.agg #[.int .i64 a.kind, .int .u64 (a.num : Int), .string a.text, .int .i64 a.ref], .agg #[.int .i64 b.kind, .int .u64 (b.num : Int), .string b.text, .int .i64 b.ref]] w fun e w' => e = .returned (.tuple #[.int .u64 (numP a : Int), .int .u64 (numP b : Int), .bool (isNum a && isNum b)]) ∧ Below w.heap.size w w' := by
  obtain ⟨TA, va, fa, ha⟩ := cont17_some a
  obtain ⟨TB, vb, fb, hb⟩ := cont17_some b
  have cA := fun W => iContentAs ha W
  have cB := fun W => iContentAs hb W
  have tA := fun W => assertNum ha W
  have tB := fun W => assertNum hb W
  obtain ⟨A, hA⟩ : ∃ A, isNum a = A := ⟨_, rfl⟩
  obtain ⟨B, hB⟩ : ∃ B, isNum b = B := ⟨_, rfl⟩
  obtain ⟨NA, hNA⟩ : ∃ A, numP a = A := ⟨_, rfl⟩
  obtain ⟨NB, hNB⟩ : ∃ B, numP b = B := ⟨_, rfl⟩
  simp only [hA, hNA] at tA
  simp only [hB, hNB] at tB
  rw [hA, hB, hNA, hNB]
  clear hA hB hNA hNB ha hb
  obtain ⟨ak, ax, sa, ra⟩ := a
  obtain ⟨bk, bx, sb, rb⟩ := b
  simp only at cA cB ⊢
  obtain ⟨t0, t1, tz, tb⟩ := two_made w (.cells #[.int .i64 ak, .int .u64 (ax : Int), .string sa, .int .i64 ra] 26) (.cells #[.int .i64 bk, .int .u64 (bx : Int), .string sb, .int .i64 rb] 26)
  obtain ⟨W2, hW2⟩ : ∃ W, ((w.alloc (.cells #[.int .i64 ak, .int .u64 (ax : Int), .string sa, .int .i64 ra] 26)).alloc (.cells #[.int .i64 bk, .int .u64 (bx : Int), .string sb, .int .i64 rb] 26)) = W := ⟨_, rfl⟩
  rw [hW2] at t0 t1 tz tb
  have HW : Hid (_ = W2) := hW2
  clear hW2
  obtain ⟨G, hG⟩ : ∃ G, w.heap.size = G := ⟨_, rfl⟩
  rw [hG] at t0 t1 tz
  have KA := fun W (h : Below W2.heap.size W2 W) => four_cells ((h.block G (by omega)).trans t0)
  have KB := fun W (h : Below W2.heap.size W2 W) => four_cells ((h.block (G + 1) (by omega)).trans t1)
  have HTB : Hid (Below w.heap.size w W2) := tb
  clear t0 t1 tz tb
  go_enter Tryz.func42, Tryz.ntmps42
  go_upto_region 1 with fail
  rw [HW.out]
  clear HW
  try simp only [hG]
  obtain ⟨a0, a1, a2, a3⟩ := KA W2 (Below.refl _ _)
  go_wp2_with fail
  refine (cA _).mono ?_
  rintro e w1 ⟨rfl, b1⟩
  clear a0 a1 a2 a3
  obtain ⟨d0, d1, d2, d3⟩ := KB w1 b1
  go_wp2_with fail
  refine (cB _).mono ?_
  rintro e w2 ⟨rfl, b2⟩
  clear d0 d1 d2 d3 KA KB
  cases A <;> cases B <;>
  · go_wp2
    go_ret3
    exact ⟨rfl, chain HTB.out (chain b1 b2)⟩
set_option maxHeartbeats 1000000 in
set_option maxRecDepth 100000 in
theorem iTextsIn (a b : PVal) (w : World) :
    Calls Tryz.prog 54 #[.agg #[.int .i64 a.kind, .int .u64 (a.num : Int), .string a.text, .int .i64 a.ref], .agg #[.int .i64 b.kind, .int .u64 (b.num : Int), .string b.text, .int .i64 b.ref]] w fun e w' => e = .returned (.tuple #[.string (txtP a), .string (txtP b), .bool (isTxt a && isTxt b)]) ∧ Below w.heap.size w w' := by
  obtain ⟨TA, va, fa, ha⟩ := cont17_some a
  obtain ⟨TB, vb, fb, hb⟩ := cont17_some b
  have cA := fun W => iContentAs ha W
  have cB := fun W => iContentAs hb W
  have tA := fun W => assertTxt ha W
  have tB := fun W => assertTxt hb W
  obtain ⟨A, hA⟩ : ∃ A, isTxt a = A := ⟨_, rfl⟩
  obtain ⟨B, hB⟩ : ∃ B, isTxt b = B := ⟨_, rfl⟩
  obtain ⟨NA, hNA⟩ : ∃ A, txtP a = A := ⟨_, rfl⟩
  obtain ⟨NB, hNB⟩ : ∃ B, txtP b = B := ⟨_, rfl⟩
  simp only [hA, hNA] at tA
  simp only [hB, hNB] at tB
  rw [hA, hB, hNA, hNB]
  clear hA hB hNA hNB ha hb
  obtain ⟨ak, ax, sa, ra⟩ := a
  obtain ⟨bk, bx, sb, rb⟩ := b
  simp only at cA cB ⊢
  obtain ⟨t0, t1, tz, tb⟩ := two_made w (.cells #[.int .i64 ak, .int .u64 (ax : Int), .string sa, .int .i64 ra] 26) (.cells #[.int .i64 bk, .int .u64 (bx : Int), .string sb, .int .i64 rb] 26)
  obtain ⟨W2, hW2⟩ : ∃ W, ((w.alloc (.cells #[.int .i64 ak, .int .u64 (ax : Int), .string sa, .int .i64 ra] 26)).alloc (.cells #[.int .i64 bk, .int .u64 (bx : Int), .string sb, .int .i64 rb] 26)) = W := ⟨_, rfl⟩
  rw [hW2] at t0 t1 tz tb
  have HW : Hid (_ = W2) := hW2
  clear hW2
  obtain ⟨G, hG⟩ : ∃ G, w.heap.size = G := ⟨_, rfl⟩
  rw [hG] at t0 t1 tz
  have KA := fun W (h : Below W2.heap.size W2 W) => four_cells ((h.block G (by omega)).trans t0)
  have KB := fun W (h : Below W2.heap.size W2 W) => four_cells ((h.block (G + 1) (by omega)).trans t1)
  have HTB : Hid (Below w.heap.size w W2) := tb
  clear t0 t1 tz tb
  go_enter Tryz.func54, Tryz.ntmps54
  go_upto_region 1 with fail
  rw [HW.out]
  clear HW
  try simp only [hG]
  obtain ⟨a0, a1, a2, a3⟩ := KA W2 (Below.refl _ _)
  go_wp2_with fail
  refine (cA _).mono ?_
  rintro e w1 ⟨rfl, b1⟩
  clear a0 a1 a2 a3
  obtain ⟨d0, d1, d2, d3⟩ := KB w1 b1
  go_wp2_with fail
  refine (cB _).mono ?_
  rintro e w2 ⟨rfl, b2⟩
  clear d0 d1 d2 d3 KA KB
  cases A <;> cases B <;>
  · go_wp2
    go_ret3
    exact ⟨rfl, chain HTB.out (chain b1 b2)⟩
end Go.Proofs.YtcdbifcidaafnaaGreatDoor
namespace Go.Proofs.YtcdbifcidaafnaaGreatDoor
open Go.RowKit Go.Sort
set_option linter.unusedVariables false
def typeS : ByteArray := ⟨#[116, 121, 112, 101]⟩
def longS : ByteArray := ⟨#[108, 111, 110, 103]⟩
def minusV (p : PVal) : PVal × ByteArray := if p.kind = 2 then (numV (negN p.num), ⟨#[]⟩) else (noneV, typeS)
end Go.Proofs.YtcdbifcidaafnaaGreatDoor
namespace Go.Proofs.YtcdbifcidaafnaaGreatDoor
theorem roundN_nil (e : Int) (st : Bool) : roundN 0 e st = 0 := by simp [roundN]
theorem rne_ge (m k : Nat) (st : Bool) : m / 2 ^ k ≤ rne m k st := by unfold rne; split <;> omega
theorem rne_le (m k : Nat) (st : Bool) : rne m k st ≤ m / 2 ^ k + 1 := by unfold rne; split <;> omega
theorem roundN_inf64 {M : Nat} {E : Int} (st : Bool) (h1 : 9223372036854775808 ≤ M) (h2 : M < 18446744073709551616) (hE : 961 ≤ E) :
    roundN M E st = 9218868437227405312 := by
  rw [roundN_at (k := 11) st (by omega) (by omega) (by simpa using h2) (.inr (by simpa using h1))]
  have h : M / 2 ^ 11 ≤ rne M 11 st := rne_ge M 11 st
  have : (2 : Nat) ^ 11 = 2048 := rfl
  rw [this] at h
  simp only [Int.cast_ofNat_Int] at *
  omega
theorem roundN_mid64 {M d : Nat} {E : Int} (st : Bool) (h1 : 9223372036854775808 ≤ M) (h2 : M < 18446744073709551616) (hd1 : 11 ≤ d) (h0 : -1074 ≤ E + d) (hE : E + d = -1074 ∨ d = 11) (h4 : E + d ≤ 971) :
    roundN M E st = (E + d + 1074).toNat * 4503599627370496 + rne M d st := by
  have hp : (2 : Nat) ^ 64 ≤ 2 ^ (53 + d) := Nat.pow_le_pow_right (by decide) (by omega)
  have hq : (2 : Nat) ^ 11 ≤ 2 ^ d := Nat.pow_le_pow_right (by decide) hd1
  have h64 : (2 : Nat) ^ 64 = 18446744073709551616 := rfl
  have h11 : (2 : Nat) ^ 11 = 2048 := rfl
  rw [h64] at hp
  rw [h11] at hq
  rw [roundN_at (k := d) st (by omega) h0 (by omega) (by rcases hE with h | h; exact .inl h; exact .inr (by subst h; simpa using h1))]
  have hr := rne_le M d st
  have hm : M / 2 ^ d ≤ M / 2048 := Nat.div_le_div_left hq (by decide)
  omega
theorem drop_top {M d : Nat} (hd : d ≤ 64) : M * 2 ^ (64 - d) % 18446744073709551616 = M % 2 ^ d * 2 ^ (64 - d) := by
  have e : (18446744073709551616 : Nat) = 2 ^ d * 2 ^ (64 - d) := by rw [← Nat.pow_add, Nat.add_sub_of_le hd]
  rw [e, Nat.mul_mod_mul_right]
theorem drop_gt {r d : Nat} (hd : d ≤ 64) : 9223372036854775808 < r * 2 ^ (64 - d) ↔ 2 ^ d < 2 * r := by
  have e : 2 * 9223372036854775808 = 2 ^ d * 2 ^ (64 - d) := by rw [← Nat.pow_add, Nat.add_sub_of_le hd]
  have hp : 0 < 2 ^ (64 - d) := Nat.two_pow_pos _
  have h : 2 ^ d * 2 ^ (64 - d) < 2 * r * 2 ^ (64 - d) ↔ 2 ^ d < 2 * r := Nat.mul_lt_mul_right hp
  rw [← h, ← e, Nat.mul_assoc]
  omega
theorem drop_eq {r d : Nat} (hd : d ≤ 64) : r * 2 ^ (64 - d) = 9223372036854775808 ↔ 2 * r = 2 ^ d := by
  have e : 2 * 9223372036854775808 = 2 ^ d * 2 ^ (64 - d) := by rw [← Nat.pow_add, Nat.add_sub_of_le hd]
  have hp : 0 < 2 ^ (64 - d) := Nat.two_pow_pos _
  have h : 2 * r * 2 ^ (64 - d) = 2 ^ d * 2 ^ (64 - d) ↔ 2 * r = 2 ^ d := Nat.mul_right_cancel_iff hp
  rw [← h, ← e, Nat.mul_assoc]
  omega
theorem rne_drop {M d S : Nat} (st : Bool) (hd : d ≤ 64) (hS : S % 2 = M / 2 ^ d % 2) :
    rne M d st = M / 2 ^ d + (if 9223372036854775808 < M * 2 ^ (64 - d) % 18446744073709551616 ∨ (M * 2 ^ (64 - d) % 18446744073709551616 = 9223372036854775808 ∧ (st = true ∨ S % 2 = 1)) then 1 else 0) := by
  rw [drop_top hd, hS]
  simp only [drop_gt hd, drop_eq hd]
  unfold rne
  split <;> rfl
theorem len_top {m l : Nat} (h1 : 2 ^ (l - 1) ≤ m) (h2 : m < 2 ^ l) (hl : 1 ≤ l) (hl2 : l ≤ 64) : 9223372036854775808 ≤ m * 2 ^ (64 - l) ∧ m * 2 ^ (64 - l) < 18446744073709551616 := by
  have e1 : 2 ^ (l - 1) * 2 ^ (64 - l) = 9223372036854775808 := by rw [← Nat.pow_add, (by omega : l - 1 + (64 - l) = 63)]
  have e2 : 2 ^ l * 2 ^ (64 - l) = 18446744073709551616 := by rw [← Nat.pow_add, (by omega : l + (64 - l) = 64)]
  rw [← e1, ← e2]
  exact ⟨Nat.mul_le_mul_right _ h1, Nat.mul_lt_mul_of_pos_right h2 (Nat.two_pow_pos _)⟩
theorem kind_nan {x : Nat} (h : 9218868437227405312 < x % 9223372036854775808) : kindN x = 1 := by
  unfold kindN expBits fracBits
  rw [if_pos (by omega), if_neg (by omega)]
theorem kind_inf {x : Nat} (h : x % 9223372036854775808 = 9218868437227405312) : kindN x = 2 := by
  unfold kindN expBits fracBits
  rw [if_pos (by omega), if_pos (by omega)]
theorem kind_zero {x : Nat} (h : x % 9223372036854775808 = 0) : kindN x = 3 := by
  unfold kindN expBits fracBits
  rw [if_neg (by omega), if_pos (by omega)]
theorem kind_fin {x : Nat} (h : x % 9223372036854775808 < 9218868437227405312) (h0 : x % 9223372036854775808 ≠ 0) : kindN x = 4 := by
  unfold kindN expBits fracBits
  rw [if_neg (by omega), if_neg (by omega)]
end Go.Proofs.YtcdbifcidaafnaaGreatDoor
namespace Go.Proofs.YtcdbifcidaafnaaGreatDoor
open Go.RowKit
set_option linter.unusedVariables false
set_option maxRecDepth 100000 in
theorem iBelow (x : Nat) (w : World) :
    Calls Tryz.prog 83 #[.int .u64 x] w fun e w' => e = .returned (.bool (decide (9223372036854775808 ≤ x))) ∧ w = w' := by
  by_cases h : (9223372036854775808 : Int) ≤ x
  · have H : Hid (Unit → decide (9223372036854775808 ≤ x) = true) := fun _ => by simp; omega
    go_enter Tryz.func83, Tryz.ntmps83
    go_wp2
    go_ret
    exact ⟨by rw [H.out ()]; rfl, rfl⟩
  · have H : Hid (Unit → decide (9223372036854775808 ≤ x) = false) := fun _ => by simp; omega
    have h' : decide ((9223372036854775808 : Int) ≤ x) = false := by simp; omega
    clear h
    go_enter Tryz.func83, Tryz.ntmps83
    go_wp2
    go_ret
    exact ⟨by rw [H.out ()]; rfl, rfl⟩
set_option maxRecDepth 100000 in
theorem iSize (x : Nat) (w : World) :
    Calls Tryz.prog 84 #[.int .u64 x] w fun e w' => e = .returned (.int .u64 ((x : Int) % 9223372036854775808)) ∧ w = w' := by
  go_enter Tryz.func84, Tryz.ntmps84
  go_wp2
  go_ret
  exact ⟨rfl, rfl⟩
set_option maxHeartbeats 400000 in
set_option maxRecDepth 100000 in
theorem iKind (x : Nat) (w : World) :
    Calls Tryz.prog 82 #[.int .u64 x] w fun e w' => e = .returned (.int .i64 (kindN x : Nat)) ∧ w = w' := by
  have cS := fun W => iSize x W
  obtain ⟨s, hs⟩ : ∃ s : Int, (x : Int) % 9223372036854775808 = s := ⟨_, rfl⟩
  rw [hs] at cS
  by_cases h1 : 9218868437227405312 < s
  · have HK : Hid (Unit → kindN x = 1) := fun _ => kind_nan (by omega)
    clear hs
    go_enter Tryz.func82, Tryz.ntmps82
    go_wp2_with (go_at_call 84; refine (cS _).mono ?_; rintro e w' ⟨rfl, rfl⟩)
    go_ret
    exact ⟨by rw [HK.out ()]; rfl, rfl⟩
  · have d1 : decide (9218868437227405312 < s) = false := by simp; omega
    by_cases h2 : s = 9218868437227405312
    · have HK : Hid (Unit → kindN x = 2) := fun _ => kind_inf (by omega)
      clear hs h1 d1
      subst h2
      go_enter Tryz.func82, Tryz.ntmps82
      go_wp2_with (go_at_call 84; refine (cS _).mono ?_; rintro e w' ⟨rfl, rfl⟩)
      go_ret
      exact ⟨by rw [HK.out ()]; rfl, rfl⟩
    · have d2 : (s == 9218868437227405312) = false := by rw [beq_eq_false_iff_ne]; exact h2
      by_cases h3 : s = 0
      · have HK : Hid (Unit → kindN x = 3) := fun _ => kind_zero (by omega)
        clear hs h1 d1 h2 d2
        subst h3
        go_enter Tryz.func82, Tryz.ntmps82
        go_wp2_with (go_at_call 84; refine (cS _).mono ?_; rintro e w' ⟨rfl, rfl⟩)
        go_ret
        exact ⟨by rw [HK.out ()]; rfl, rfl⟩
      · have d3 : (s == 0) = false := by rw [beq_eq_false_iff_ne]; exact h3
        have HK : Hid (Unit → kindN x = 4) := fun _ => kind_fin (by omega) (by omega)
        clear hs h1 h2 h3
        go_enter Tryz.func82, Tryz.ntmps82
        go_wp2_with (go_at_call 84; refine (cS _).mono ?_; rintro e w' ⟨rfl, rfl⟩)
        go_ret
        exact ⟨by rw [HK.out ()]; rfl, rfl⟩
set_option maxHeartbeats 400000 in
set_option maxRecDepth 100000 in
theorem iMantExp (x : Nat) (w : World) (hx : x < 18446744073709551616) (hk : kindN x = 4) :
    Calls Tryz.prog 101 #[.int .u64 x] w fun e w' => e = .returned (.tuple #[.int .u64 (mantN x : Nat), .int .i64 (expN x)]) ∧ w = w' := by
  have hx' : (x : Int) < 18446744073709551616 := by omega
  by_cases h : x / 4503599627370496 % 2048 = 0
  · have g : (x : Int) / 4503599627370496 % 2048 = 0 := by omega
    have HM : Hid (Unit → (mantN x : Int) = (x : Int) % 4503599627370496) := fun _ => by simp [mantN, hk, expBits, fracBits, h]
    have HE : Hid (Unit → expN x = -1074) := fun _ => by simp [expN, hk, expBits, h]
    clear h hx hk
    go_enter Tryz.func101, Tryz.ntmps101
    go_wp2
    go_ret2
    exact ⟨by rw [HM.out (), HE.out ()]; rfl, rfl⟩
  · have g : ((x : Int) / 4503599627370496 % 2048 == 0) = false := by rw [beq_eq_false_iff_ne]; omega
    have HM : Hid (Unit → (mantN x : Int) = 4503599627370496 + (x : Int) % 4503599627370496) := fun _ => by simp [mantN, hk, expBits, fracBits, h]; omega
    have HE : Hid (Unit → expN x = -1074 + (x : Int) / 4503599627370496 % 2048 - 1) := fun _ => by simp [expN, hk, expBits, h]; omega
    clear h hx hk
    go_enter Tryz.func101, Tryz.ntmps101
    go_wp2
    go_ret2
    exact ⟨by rw [HM.out (), HE.out ()]; rfl, rfl⟩
theorem or_top {x : Nat} (h : x < 9223372036854775808) : x ||| 9223372036854775808 = x + 9223372036854775808 := by
  have := Nat.two_pow_add_eq_or_of_lt (i := 63) (b := x) (by simpa using h) 1
  simp at this
  rw [Nat.or_comm, Nat.add_comm, ← this]
set_option maxHeartbeats 400000 in
set_option maxRecDepth 100000 in
theorem iSigned (x : Nat) (b : Bool) (w : World) (hx : x ≤ 9218868437227405312) :
    Calls Tryz.prog 91 #[.int .u64 x, .bool b] w fun e w' => e = .returned (.int .u64 (signN b x : Nat)) ∧ w = w' := by
  cases b
  · go_enter Tryz.func91, Tryz.ntmps91
    go_wp2
    go_ret
    exact ⟨rfl, rfl⟩
  · have HS : Hid (Unit → signN true x = x + 9223372036854775808) := fun _ => by simp [signN]
    have ho : bits .or .u64 (x : Int) 9223372036854775808 = ((x + 9223372036854775808 : Nat) : Int) := by rw [← or_top (x := x) (by omega)]; exact u64_or_nat x 9223372036854775808 (by omega) (by decide)
    clear hx
    go_enter Tryz.func91, Tryz.ntmps91
    go_wp2
    go_ret
    exact ⟨by rw [HS.out ()]; rfl, rfl⟩
end Go.Proofs.YtcdbifcidaafnaaGreatDoor
