/-
  Part 2 of what is proved of drawn right trees.
-/
import Derived.Test.YtcdbifcidaafnaaGreatDoorPaa
import Derived.LaidEql
import Derived.Stop.Asserts
import Derived.RowKitTokens
import Derived.Handy

namespace Go.Proofs.YtcdbifcidaafnaaGreatDoor
open Go Go.RowKit Go.Extern.Stop Go.Stop Go.Extern
set_option linter.unusedVariables false
set_option linter.unusedSimpArgs false
theorem as_nil (t : Value) (w : World) :
    Calls Tryz.prog 52 #[.nilIface, t] w fun e w' => e = .returned (.bool false) ∧ w' = w := by
  go_enter Tryz.func52, Tryz.ntmps52
  go_wp2
  go_ret
  exact ⟨rfl, rfl⟩
theorem asValueOf (t : Addr) (w : World) : (ReflectliteValue.unpack (.iface 87 (.pointer (some t)))).run Tryz.prog w
    = .ok (.agg #[.pointer (some ⟨9, 87, none⟩), .pointer (some ⟨w.heap.size, 0, none⟩), .int .u64 150]) (w.alloc (.cells #[.pointer (some t)] 87)) := by kernel_rfl
theorem asType (a : Addr) (w : World) : (ReflectliteValue.methodAny (ReflectliteValue.valueError "reflectlite.Value.Type" 0) (fun t _ _ _ => ReflectliteType.toType t) #[.agg #[.pointer (some ⟨9, 87, none⟩), .pointer (some a), .int .u64 150]]).run Tryz.prog w
    = .ok (.iface 128 (.agg #[.pointer (some ⟨9, 87, none⟩)])) w := by kernel_rfl
theorem asKind (w : World) : ((ReflectliteType.abiMethod fun t => Functor.map (fun a : Nat => Value.int IntKind.u8 (a : Int)) (Rtype.kind t)) #[.pointer (some ⟨9, 87, none⟩)]).run Tryz.prog w = .ok (.int .u8 22) w := by kernel_rfl
theorem asKindS (w : World) : ((ReflectliteType.abiMethod fun t => Functor.map (fun a : Nat => Value.int IntKind.u8 (a : Int)) (Rtype.kind t)) #[.pointer (some ⟨9, 85, none⟩)]).run Tryz.prog w = .ok (.int .u8 25) w := by kernel_rfl
theorem rlm (z : Sem Value) (f : TypeId → Addr → Nat → Nat → Sem Value) (v : Value) :
    ReflectliteValue.method z f #[v] = (do match ← ReflectliteValue.parts v with | none => z | some (t, a, fl) => f t a fl (fl % 32)) := rfl
theorem asParts (a : Addr) (w : World) : (ReflectliteValue.parts (.agg #[.pointer (some ⟨9, 87, none⟩), .pointer (some a), .int .u64 150])).run Tryz.prog w = .ok (some (87, a, 150)) w := by kernel_rfl
theorem asIsNil (a p : Addr) (W : World) (ha : W.cell? a = some (.pointer (some p))) :
    (ReflectliteValue.method (ReflectliteValue.valueError "reflectlite.Value.IsNil" 0) ReflectliteValue.isNil #[.agg #[.pointer (some ⟨9, 87, none⟩), .pointer (some a), .int .u64 150]]).run Tryz.prog W = .ok (.bool false) W := by
  rw [rlm]
  simp only [Sem.run_bind, asParts, Result.andThen]
  simp [ReflectliteValue.isNil, loadVar, isAgg, underlying, Tryz.underlying87, ha, Result.andThen]
theorem asElem (w : World) : (ReflectliteType.method ReflectliteType.elem #[.agg #[.pointer (some ⟨9, 87, none⟩)]]).run Tryz.prog w = .ok (.iface 128 (.agg #[.pointer (some ⟨9, 85, none⟩)])) w := by kernel_rfl
theorem asImplements (w : World) : (ReflectliteType.relation "Implements" ReflectliteType.implements_ #[.agg #[.pointer (some ⟨9, 85, none⟩)], .iface 128 (.agg #[.pointer (some ⟨9, 52, none⟩)])]).run Tryz.prog w = .ok (.bool true) w := by kernel_rfl
theorem asTypeOf (v : Value) (w : World) : (ReflectliteType.typeOf #[.iface 85 v]).run Tryz.prog w = .ok (.iface 128 (.agg #[.pointer (some ⟨9, 85, none⟩)])) w := by kernel_rfl
theorem asAssignable (w : World) : (ReflectliteType.relation "AssignableTo" ReflectliteType.assignableTo #[.agg #[.pointer (some ⟨9, 85, none⟩)], .iface 128 (.agg #[.pointer (some ⟨9, 85, none⟩)])]).run Tryz.prog w = .ok (.bool true) w := by kernel_rfl
theorem asValueOfS (s : ByteArray) (w : World) : (ReflectliteValue.unpack (.iface 85 (.agg #[.string s]))).run Tryz.prog w
    = .ok (.agg #[.pointer (some ⟨9, 85, none⟩), .pointer (some ⟨w.heap.size, 0, none⟩), .int .u64 153]) (w.alloc (.cells #[.string s] 85)) := by kernel_rfl
theorem asElemOf (w : World) : (Rtype.elem? 87).run Tryz.prog w = .ok (some 85) w := by kernel_rfl
theorem asMk (p : Addr) (w : World) : (ReflectliteValue.mk 85 p ReflectliteValue.flagAddr).run Tryz.prog w = .ok (.agg #[.pointer (some ⟨9, 85, none⟩), .pointer (some p), .int .u64 409]) w := by kernel_rfl
theorem asElemV (a p : Addr) (W : World) (ha : W.cell? a = some (.pointer (some p))) :
    (ReflectliteValue.method (ReflectliteValue.valueError "reflectlite.Value.Elem" 0) ReflectliteValue.elem #[.agg #[.pointer (some ⟨9, 87, none⟩), .pointer (some a), .int .u64 150]]).run Tryz.prog W
      = .ok (.agg #[.pointer (some ⟨9, 85, none⟩), .pointer (some p), .int .u64 409]) W := by
  rw [rlm]
  simp only [Sem.run_bind, asParts, Result.andThen]
  simp [ReflectliteValue.elem, loadVar, isAgg, underlying, Tryz.underlying87, ha, Result.andThen, asElemOf, asMk]
theorem rls (v x : Value) : ∃ (u1 : Sem Value) (u2 u3 : Sem PUnit), ReflectliteValue.set #[v, x] = (do
    let (some (dst, a, fl), some (src, b, _)) := (← ReflectliteValue.parts v, ← ReflectliteValue.parts x)
      | u1
    if fl / ReflectliteValue.flagAddr % 2 == 0 then u2
    let val ← loadVar src b
    if ← Rtype.directlyAssignable dst src then storeVar dst a val
    else if ← Rtype.implements dst src then
      if (← Rtype.kind src) == 20 then
        match val with
        | .nilIface => u3
        | _ => storeVar dst a val
      else storeVar dst a (.iface src val)
    else panicString ("reflectlite.Set: value of type " ++ (← Rtype.spelt src) ++ " is not assignable to type " ++ (← Rtype.spelt dst))
    pure (.tuple #[])) := ⟨_, _, _, rfl⟩
theorem asPartsA (a : Addr) (w : World) : (ReflectliteValue.parts (.agg #[.pointer (some ⟨9, 85, none⟩), .pointer (some a), .int .u64 409])).run Tryz.prog w = .ok (some (85, a, 409)) w := by kernel_rfl
theorem asPartsS (a : Addr) (w : World) : (ReflectliteValue.parts (.agg #[.pointer (some ⟨9, 85, none⟩), .pointer (some a), .int .u64 153])).run Tryz.prog w = .ok (some (85, a, 153)) w := by kernel_rfl
theorem asDirect (w : World) : (Rtype.directlyAssignable 85 85).run Tryz.prog w = .ok true w := by kernel_rfl
theorem asSet (T B : Nat) (s : ByteArray) (old : Value) (W : World) (hb : W.cell? ⟨B, 0, none⟩ = some (.string s)) (ht : W.cell? ⟨T, 0, none⟩ = some old) (hf : W.frozen? ⟨T, 0, none⟩ = false) :
    (ReflectliteValue.set #[.agg #[.pointer (some ⟨9, 85, none⟩), .pointer (some ⟨T, 0, none⟩), .int .u64 409], .agg #[.pointer (some ⟨9, 85, none⟩), .pointer (some ⟨B, 0, none⟩), .int .u64 153]]).run Tryz.prog W
      = .ok (.tuple #[]) (W.setCell ⟨T, 0, none⟩ (.string s)) := by
  obtain ⟨u1, u2, u3, e⟩ := rls (.agg #[.pointer (some ⟨9, 85, none⟩), .pointer (some ⟨T, 0, none⟩), .int .u64 409]) (.agg #[.pointer (some ⟨9, 85, none⟩), .pointer (some ⟨B, 0, none⟩), .int .u64 153])
  rw [e]
  clear e
  simp only [Sem.run_bind, asPartsA, asPartsS, Result.andThen]
  simp [ReflectliteValue.flagAddr]
  go_simp
  simp [asDirect, Result.andThen, ht, hf]
set_option maxHeartbeats 4000000 in
theorem as_hit (T : Nat) (s : ByteArray) (old : Value) (w : World) (hg : w.cell? ⟨0, 0, none⟩ = some (.iface 128 (.agg #[.pointer (some ⟨9, 52, none⟩)]))) (ht0 : w.cell? ⟨T, 0, none⟩ = some old) (hf0 : w.frozen? ⟨T, 0, none⟩ = false) :
    Calls Tryz.prog 52 #[.iface 85 (.agg #[.string s]), .iface 87 (.pointer (some ⟨T, 0, none⟩))] w fun ev w' => ev = .returned (.bool true) ∧ w' = ((((w.alloc (.cells #[.pointer (some ⟨T, 0, none⟩)] 87)).alloc (.cells #[.pointer (some ⟨9, 87, none⟩), .pointer (some ⟨w.heap.size, 0, none⟩), .int .u64 150] 109)).alloc (.cells #[.pointer (some ⟨9, 87, none⟩), .pointer (some ⟨w.heap.size, 0, none⟩), .int .u64 150] 109)).alloc (.cells #[.string s] 85)).setCell ⟨T, 0, none⟩ (.string s) := by
  have h6 := @run_callFunc_extern Tryz.prog 69 _ (fun args => ReflectliteValue.unpack (args.getD 0 (.tuple #[]))) Tryz.func69 (by kernel_rfl) (by kernel_rfl) (by kernel_rfl) (by kernel_rfl)
  have h7 := @run_callFunc_extern Tryz.prog 70 _ (ReflectliteValue.methodAny (ReflectliteValue.valueError "reflectlite.Value.Type" 0) (fun t _ _ _ => ReflectliteType.toType t)) Tryz.func70 (by kernel_rfl) (by kernel_rfl) (by kernel_rfl) (by kernel_rfl)
  have h8 := @run_callFunc_extern Tryz.prog 71 _ (ReflectliteValue.method (ReflectliteValue.valueError "reflectlite.Value.IsNil" 0) ReflectliteValue.isNil) Tryz.func71 (by kernel_rfl) (by kernel_rfl) (by kernel_rfl) (by kernel_rfl)
  have h27 := @run_callFunc_extern Tryz.prog 129 _ (ReflectliteType.abiMethod fun t => do pure (.int .u8 (← Rtype.kind t))) Tryz.func129 (by kernel_rfl) (by kernel_rfl) (by kernel_rfl) (by kernel_rfl)
  have h37 := @run_callFunc_extern Tryz.prog 239 _ (ReflectliteType.method ReflectliteType.elem) Tryz.func239 (by kernel_rfl) (by kernel_rfl) (by kernel_rfl) (by kernel_rfl)
  have h38 := @run_callFunc_extern Tryz.prog 240 _ (ReflectliteType.relation "Implements" ReflectliteType.implements_) Tryz.func240 (by kernel_rfl) (by kernel_rfl) (by kernel_rfl) (by kernel_rfl)
  have h10 := @run_callFunc_extern Tryz.prog 85 _ ReflectliteType.typeOf Tryz.func85 (by kernel_rfl) (by kernel_rfl) (by kernel_rfl) (by kernel_rfl)
  have h35 := @run_callFunc_extern Tryz.prog 237 _ (ReflectliteType.relation "AssignableTo" ReflectliteType.assignableTo) Tryz.func237 (by kernel_rfl) (by kernel_rfl) (by kernel_rfl) (by kernel_rfl)
  have h11 := @run_callFunc_extern Tryz.prog 86 _ (ReflectliteValue.method (ReflectliteValue.valueError "reflectlite.Value.Elem" 0) ReflectliteValue.elem) Tryz.func86 (by kernel_rfl) (by kernel_rfl) (by kernel_rfl) (by kernel_rfl)
  have h12 := @run_callFunc_extern Tryz.prog 87 _ ReflectliteValue.set Tryz.func87 (by kernel_rfl) (by kernel_rfl) (by kernel_rfl) (by kernel_rfl)
  have tO := asTypeOf
  have a25 := asAssignable
  have v25 := asValueOfS
  have f6 := asValueOf
  have f7 := asType
  have k27 := asKind
  have k25 := asKindS
  have e27 := asElem
  have i25 := asImplements
  have n8 := asIsNil ⟨w.heap.size, 0, none⟩ ⟨T, 0, none⟩ ((w.alloc (.cells #[.pointer (some ⟨T, 0, none⟩)] 87)).alloc (.cells #[.pointer (some ⟨9, 87, none⟩), .pointer (some ⟨w.heap.size, 0, none⟩), .int .u64 150] 109)) (by simp)
  have hlt : 0 < w.heap.size := by
    rcases Nat.eq_zero_or_pos w.heap.size with h0 | h
    · simp [World.cell?, h0] at hg
    · exact h
  have hg2 : ((w.alloc (.cells #[.pointer (some ⟨T, 0, none⟩)] 87)).alloc (.cells #[.pointer (some ⟨9, 87, none⟩), .pointer (some ⟨w.heap.size, 0, none⟩), .int .u64 150] 109)).cell? ⟨0, 0, none⟩ = some (.iface 128 (.agg #[.pointer (some ⟨9, 52, none⟩)])) := by
    rw [World.cell?_alloc_lt _ _ ⟨0, 0, none⟩ (by simp), World.cell?_alloc_lt _ _ ⟨0, 0, none⟩ hlt]; exact hg
  have htl : T < w.heap.size := by
    rcases Nat.lt_or_ge T w.heap.size with h | h
    · exact h
    · simp [World.cell?, Array.getElem?_eq_none h] at ht0
  have el := asElemV ⟨w.heap.size, 0, none⟩ ⟨T, 0, none⟩ (((w.alloc (.cells #[.pointer (some ⟨T, 0, none⟩)] 87)).alloc (.cells #[.pointer (some ⟨9, 87, none⟩), .pointer (some ⟨w.heap.size, 0, none⟩), .int .u64 150] 109)).alloc (.cells #[.pointer (some ⟨9, 87, none⟩), .pointer (some ⟨w.heap.size, 0, none⟩), .int .u64 150] 109)) (by rw [World.cell?_alloc_lt _ _ ⟨w.heap.size, 0, none⟩ (by simp; omega)]; simp)
  have st := asSet T (w.heap.size + 1 + 1 + 1) s old ((((w.alloc (.cells #[.pointer (some ⟨T, 0, none⟩)] 87)).alloc (.cells #[.pointer (some ⟨9, 87, none⟩), .pointer (some ⟨w.heap.size, 0, none⟩), .int .u64 150] 109)).alloc (.cells #[.pointer (some ⟨9, 87, none⟩), .pointer (some ⟨w.heap.size, 0, none⟩), .int .u64 150] 109)).alloc (.cells #[.string s] 85))
    (by rw [World.cell?_alloc_at _ _ _ _ (by simp)]; rfl)
    (by rw [World.cell?_alloc_lt _ _ ⟨T, 0, none⟩ (by simp; omega), World.cell?_alloc_lt _ _ ⟨T, 0, none⟩ (by simp; omega), World.cell?_alloc_lt _ _ ⟨T, 0, none⟩ (by simp; omega), World.cell?_alloc_lt _ _ ⟨T, 0, none⟩ htl]; exact ht0)
    (by rw [World.frozen?_alloc_old _ _ ⟨T, 0, none⟩ (by simp; omega), World.frozen?_alloc_old _ _ ⟨T, 0, none⟩ (by simp; omega), World.frozen?_alloc_old _ _ ⟨T, 0, none⟩ (by simp; omega), World.frozen?_alloc_old _ _ ⟨T, 0, none⟩ (Nat.ne_of_lt htl)]; exact hf0)
  go_enter Tryz.func52, Tryz.ntmps52
  go_wp2
  refine wp_loop_rounds 1 ?_
  rw [rounds_succ]
  go_wp2
  go_ret
  exact ⟨rfl, rfl⟩
end Go.Proofs.YtcdbifcidaafnaaGreatDoor
namespace Go.Proofs.YtcdbifcidaafnaaGreatDoor
theorem rne_sticky {M k d low : Nat} (hk : k ≠ 0) (hl : low < 2 ^ d) : rne (M * 2 ^ d + low) (k + d) false = rne M k (decide (low ≠ 0)) := by
  obtain ⟨j, rfl⟩ : ∃ j, k = j + 1 := ⟨k - 1, by omega⟩
  have hd := Nat.two_pow_pos d
  have hq : (M * 2 ^ d + low) / 2 ^ (j + 1 + d) = M / 2 ^ (j + 1) := by
    rw [Nat.pow_add, Nat.mul_comm (2 ^ (j + 1)), ← Nat.div_div_eq_div_mul]
    congr 1
    rw [Nat.mul_comm, Nat.mul_add_div hd, Nat.div_eq_of_lt hl]; simp
  have hm : (M * 2 ^ d + low) % 2 ^ (j + 1 + d) = M % 2 ^ (j + 1) * 2 ^ d + low := by
    have h1 := Nat.div_add_mod (M * 2 ^ d + low) (2 ^ (j + 1 + d))
    have h2 := Nat.div_add_mod M (2 ^ (j + 1))
    rw [hq] at h1
    have h3 : 2 ^ (j + 1 + d) * (M / 2 ^ (j + 1)) = 2 ^ (j + 1) * (M / 2 ^ (j + 1)) * 2 ^ d := by rw [Nat.pow_add, Nat.mul_assoc, Nat.mul_comm (2 ^ d), ← Nat.mul_assoc]
    have h4 : M * 2 ^ d = (2 ^ (j + 1) * (M / 2 ^ (j + 1)) + M % 2 ^ (j + 1)) * 2 ^ d := by rw [h2]
    rw [Nat.add_mul] at h4
    rw [h3] at h1
    omega
  unfold rne
  rw [hq, hm]
  generalize M % 2 ^ (j + 1) = r
  generalize M / 2 ^ (j + 1) = q
  have hP : (2 : Nat) ^ (j + 1 + d) = 2 * (2 ^ j * 2 ^ d) := by rw [Nat.pow_add, Nat.pow_succ]; rw [Nat.mul_comm (2 ^ j) 2, Nat.mul_assoc]
  have hK : (2 : Nat) ^ (j + 1) = 2 * 2 ^ j := by rw [Nat.pow_succ, Nat.mul_comm]
  rw [hP, hK]
  generalize (2 : Nat) ^ j = J at *
  generalize hD : (2 : Nat) ^ d = D at *
  have c1 : (2 * (J * D) < 2 * (r * D + low)) ↔ (J < r ∨ (r = J ∧ low ≠ 0)) := by
    constructor
    · intro h
      rcases Nat.lt_trichotomy r J with h' | h' | h'
      · have : (r + 1) * D ≤ J * D := Nat.mul_le_mul_right _ h'
        rw [Nat.add_mul] at this
        omega
      · subst h'; exact .inr ⟨rfl, by omega⟩
      · exact .inl h'
    · rintro (h | ⟨rfl, h⟩)
      · have : (J + 1) * D ≤ r * D := Nat.mul_le_mul_right _ h
        rw [Nat.add_mul] at this
        omega
      · omega
  have c2 : (2 * (r * D + low) = 2 * (J * D)) ↔ (r = J ∧ low = 0) := by
    constructor
    · intro h
      rcases Nat.lt_trichotomy r J with h' | h' | h'
      · have : (r + 1) * D ≤ J * D := Nat.mul_le_mul_right _ h'
        rw [Nat.add_mul] at this
        omega
      · subst h'; exact ⟨rfl, by omega⟩
      · have : (J + 1) * D ≤ r * D := Nat.mul_le_mul_right _ h'
        rw [Nat.add_mul] at this
        omega
    · rintro ⟨rfl, rfl⟩; simp
  have c3 : (2 * J < 2 * r) ↔ J < r := by omega
  have c4 : (2 * r = 2 * J) ↔ r = J := by omega
  simp only [c1, c2, c3, c4, Bool.false_eq_true, false_or, decide_eq_true_eq]
  by_cases h1 : J < r
  · rw [if_pos (.inl (.inl h1)), if_pos (.inl h1)]
  · by_cases h2 : r = J
    · by_cases h3 : low = 0
      · by_cases h4 : q % 2 = 1
        · rw [if_pos (.inr ⟨⟨h2, h3⟩, h4⟩), if_pos (.inr ⟨h2, .inr h4⟩)]
        · rw [if_neg, if_neg]
          · rintro (h | ⟨-, h | h⟩)
            · exact h1 h
            · exact h h3
            · exact h4 h
          · rintro ((h | ⟨-, h⟩) | ⟨-, h⟩)
            · exact h1 h
            · exact h h3
            · exact h4 h
      · rw [if_pos (.inl (.inr ⟨h2, h3⟩)), if_pos (.inr ⟨h2, .inl h3⟩)]
    · rw [if_neg, if_neg]
      · rintro (h | ⟨h, -⟩)
        · exact h1 h
        · exact h2 h
      · rintro ((h | ⟨h, -⟩) | ⟨⟨h, -⟩, -⟩)
        · exact h1 h
        · exact h2 h
        · exact h2 h
theorem roundN_sticky {M d low : Nat} {E : Int} (hl : low < 2 ^ d) (hM : low = 0 ∨ 9007199254740992 ≤ M) : roundN (M * 2 ^ d + low) (E - d) false = roundN M E (decide (low ≠ 0)) := by
  have hd := Nat.two_pow_pos d
  by_cases h0 : low = 0
  · subst h0
    rw [Nat.add_zero, roundN_times]
    rfl
  have hM1 : 9007199254740992 ≤ M := by omega
  have hm0 : M ≠ 0 := by omega
  obtain ⟨l, hlog⟩ : ∃ l, M.log2 = l := ⟨_, rfl⟩
  have h1 : 2 ^ l ≤ M := by rw [← hlog]; exact Nat.log2_self_le hm0
  have h2 : M < 2 ^ (l + 1) := by rw [← hlog]; exact Nat.lt_log2_self
  have hl53 : 53 ≤ l := by
    rcases Nat.lt_or_ge l 53 with h | h
    · have : (2 : Nat) ^ (l + 1) ≤ 2 ^ 53 := Nat.pow_le_pow_right (by decide) h
      omega
    · exact h
  obtain ⟨k, hk⟩ : ∃ k : Nat, (k : Int) = max (E + l - 52) (-1074) - E := ⟨(max (E + l - 52) (-1074) - E).toNat, by omega⟩
  have hk0 : k ≠ 0 := by omega
  have hup : M < 2 ^ (53 + k) := Nat.lt_of_lt_of_le h2 (Nat.pow_le_pow_right (by decide) (by omega))
  have hlo : E + k = -1074 ∨ 2 ^ (52 + k) ≤ M := by
    rcases Int.le_total (-1074) (E + l - 52) with h | h
    · right
      have : 52 + k = l := by omega
      rw [this]; exact h1
    · left; omega
  rw [roundN_at (k := k) _ hm0 (by omega) hup hlo]
  have hMd : (M + 1) * 2 ^ d ≤ 2 ^ (53 + k) * 2 ^ d := Nat.mul_le_mul_right _ hup
  rw [Nat.add_mul] at hMd
  have hlo2 : E - d + ((k + d : Nat) : Int) = -1074 ∨ 2 ^ (52 + (k + d)) ≤ M * 2 ^ d + low := by
    rcases hlo with h | h
    · left; omega
    · right
      have : 2 ^ (52 + k) * 2 ^ d ≤ M * 2 ^ d := Nat.mul_le_mul_right _ h
      rw [← Nat.pow_add] at this
      rw [show 52 + (k + d) = 52 + k + d by omega]
      omega
  have hup2 : M * 2 ^ d + low < 2 ^ (53 + (k + d)) := by
    rw [show 53 + (k + d) = 53 + k + d by omega, Nat.pow_add]
    omega
  have hne : M * 2 ^ d + low ≠ 0 := by omega
  rw [roundN_at (k := k + d) _ hne (by omega) hup2 hlo2, rne_sticky hk0 hl]
  have e : E - d + ((k + d : Nat) : Int) = E + k := by omega
  rw [e]
end Go.Proofs.YtcdbifcidaafnaaGreatDoor
namespace Go.Proofs.YtcdbifcidaafnaaGreatDoor
def sgnM (b : Bool) (m : Nat) : Int := if b = true then -(m : Int) else (m : Int)
def roundZ (S : Int) (e : Int) : Nat := if S = 0 then 0 else signN (decide (S < 0)) (roundN S.natAbs e false)
def sumZ (b1 : Bool) (m1 : Nat) (e1 : Int) (b2 : Bool) (m2 : Nat) (e2 : Int) : Int := sgnM b1 m1 * 2 ^ (e1 - min e1 e2).toNat + sgnM b2 m2 * 2 ^ (e2 - min e1 e2).toNat
def addN (a b : Nat) : Nat :=
  if kindN a = 1 ∨ kindN b = 1 then 9221120237041090560
  else if kindN a = 2 then (if kindN b = 2 ∧ belowN a ≠ belowN b then 9221120237041090560 else a)
  else if kindN b = 2 then b
  else if kindN a = 3 ∧ kindN b = 3 then (if belowN a = true ∧ belowN b = true then a else 0)
  else if kindN a = 3 then b
  else if kindN b = 3 then a
  else roundZ (sumZ (belowN a) (mantN a) (expN a) (belowN b) (mantN b) (expN b)) (min (expN a) (expN b))
theorem sumZ_comm (b1 : Bool) (m1 : Nat) (e1 : Int) (b2 : Bool) (m2 : Nat) (e2 : Int) : sumZ b1 m1 e1 b2 m2 e2 = sumZ b2 m2 e2 b1 m1 e1 := by
  unfold sumZ
  rw [Int.min_comm e1 e2, Int.add_comm]
theorem sumZ_cut {b1 b2 : Bool} {pm qm j d : Nat} {pe qe : Int} (h : pe = qe + ((j + d : Nat) : Int)) :
    min pe qe = qe ∧ sumZ b1 pm pe b2 qm qe = sgnM b1 (pm * 2 ^ j * 2 ^ d) + sgnM b2 (qm / 2 ^ d * 2 ^ d + qm % 2 ^ d) := by
  have hmin : min pe qe = qe := by omega
  refine ⟨hmin, ?_⟩
  unfold sumZ
  rw [hmin, show (pe - qe).toNat = j + d by omega, show (qe - qe).toNat = 0 by omega]
  have e1 : qm / 2 ^ d * 2 ^ d + qm % 2 ^ d = qm := by rw [Nat.mul_comm]; exact Nat.div_add_mod _ _
  rw [e1, Int.pow_add]
  unfold sgnM
  cases b1 <;> cases b2 <;> simp [Int.mul_assoc, Int.neg_mul]
theorem signN_false (x : Nat) : signN false x = x := rfl
theorem roundZ_pos {S e : Int} (n : Nat) (h : S = n) (h0 : n ≠ 0) : roundZ S e = roundN n e false := by
  subst h
  unfold roundZ signN
  rw [if_neg (by omega), if_neg (by simp)]
  simp
theorem roundZ_neg {S e : Int} (n : Nat) (h : S = -(n : Int)) (h0 : n ≠ 0) : roundZ S e = signN true (roundN n e false) := by
  subst h
  unfold roundZ
  rw [if_neg (by omega), decide_eq_true (by omega), Int.natAbs_neg, Int.natAbs_natCast]
theorem round_same {b : Bool} {m n d low : Nat} {e : Int} (hl : low < 2 ^ d) (hm : m ≠ 0) (hbig : low = 0 ∨ 72057594037927936 ≤ m) :
    roundZ (sgnM b (m * 2 ^ d) + sgnM b (n * 2 ^ d + low)) (e - d) = signN b (roundN (m + n) e (decide (low ≠ 0) && decide (72057594037927936 ≤ m + n))) := by
  have hd := Nat.two_pow_pos d
  have hpos : m * 2 ^ d ≠ 0 := Nat.mul_ne_zero hm (by omega)
  have hs : (m + n) * 2 ^ d + low = m * 2 ^ d + (n * 2 ^ d + low) := by rw [Nat.add_mul]; omega
  have hst : (decide (low ≠ 0) && decide (72057594037927936 ≤ m + n)) = decide (low ≠ 0) := by
    rcases hbig with h | h
    · simp [h]
    · simp; omega
  have key : roundN (m * 2 ^ d + (n * 2 ^ d + low)) (e - d) false = roundN (m + n) e (decide (low ≠ 0)) := by
    rw [← hs]; exact roundN_sticky hl (by omega)
  rw [hst, ← key]
  cases b
  · rw [roundZ_pos (m * 2 ^ d + (n * 2 ^ d + low)) (by simp [sgnM]) (by omega)]
    exact (signN_false _).symm
  · rw [roundZ_neg (m * 2 ^ d + (n * 2 ^ d + low)) (by simp only [sgnM, if_true]; omega) (by omega)]
theorem round_more {b : Bool} {m n d : Nat} {e : Int} (h : n < m) : roundZ (sgnM b (m * 2 ^ d) + sgnM (!b) (n * 2 ^ d)) (e - d) = signN b (roundN (m - n) e false) := by
  have hd := Nat.two_pow_pos d
  have hs : (m - n) * 2 ^ d = m * 2 ^ d - n * 2 ^ d := by rw [Nat.sub_mul]
  have hlt : n * 2 ^ d < m * 2 ^ d := Nat.mul_lt_mul_of_pos_right h hd
  have key : roundN ((m - n) * 2 ^ d) (e - d) false = roundN (m - n) e false := roundN_times d (m - n) e false
  rw [← key, hs]
  cases b
  · rw [roundZ_pos (m * 2 ^ d - n * 2 ^ d) (by simp only [sgnM, Bool.not_false, if_true, Bool.false_eq_true, if_false]; omega) (by omega)]
    exact (signN_false _).symm
  · rw [roundZ_neg (m * 2 ^ d - n * 2 ^ d) (by simp only [sgnM, Bool.not_true, if_true, Bool.false_eq_true, if_false]; omega) (by omega)]
theorem round_lost {b : Bool} {m n d low : Nat} {e : Int} (hl : low < 2 ^ d) (h0 : low ≠ 0) (h : n < m) (hbig : 72057594037927936 ≤ m - n - 1) :
    roundZ (sgnM b (m * 2 ^ d) + sgnM (!b) (n * 2 ^ d + low)) (e - d) = signN b (roundN (m - n - 1) e (true && decide (72057594037927936 ≤ m - n - 1))) := by
  have hd := Nat.two_pow_pos d
  have hs : (m - n - 1) * 2 ^ d + (2 ^ d - low) = m * 2 ^ d - (n * 2 ^ d + low) := by
    have h1 : (m - n - 1 + 1 + n) * 2 ^ d = m * 2 ^ d := by rw [show m - n - 1 + 1 + n = m by omega]
    rw [Nat.add_mul, Nat.add_mul] at h1
    omega
  have hlt : n * 2 ^ d + low < m * 2 ^ d := by
    have : (n + 1) * 2 ^ d ≤ m * 2 ^ d := Nat.mul_le_mul_right _ h
    rw [Nat.add_mul] at this
    omega
  have key : roundN ((m - n - 1) * 2 ^ d + (2 ^ d - low)) (e - d) false = roundN (m - n - 1) e (decide (2 ^ d - low ≠ 0)) := roundN_sticky (by omega) (by omega)
  have hst : (true && decide (72057594037927936 ≤ m - n - 1)) = decide (2 ^ d - low ≠ 0) := by
    rw [decide_eq_true hbig, decide_eq_true (by omega)]; rfl
  rw [hst, ← key, hs]
  cases b
  · rw [roundZ_pos (m * 2 ^ d - (n * 2 ^ d + low)) (by simp only [sgnM, Bool.not_false, if_true, Bool.false_eq_true, if_false]; omega) (by omega)]
    exact (signN_false _).symm
  · rw [roundZ_neg (m * 2 ^ d - (n * 2 ^ d + low)) (by simp only [sgnM, Bool.not_true, if_true, Bool.false_eq_true, if_false]; omega) (by omega)]
theorem round_none (b : Bool) (m : Nat) (e : Int) : roundZ (sgnM b m + sgnM (!b) m) e = 0 := by
  unfold roundZ
  rw [if_pos]
  cases b <;> simp [sgnM] <;> omega
end Go.Proofs.YtcdbifcidaafnaaGreatDoor
namespace Go.Proofs.YtcdbifcidaafnaaGreatDoor
def Halved (m : Nat) (e : Int) (st : Bool) (M : Nat) (E : Int) (hf rs : Bool) : Prop :=
  (∃ j : Nat, M = m / 2 ^ j ∧ E = e + j ∧ (j = 0 → hf = false ∧ rs = st) ∧ (∀ i, j = i + 1 → hf = decide (m / 2 ^ i % 2 = 1) ∧ rs = (st || decide (m % 2 ^ i ≠ 0)) ∧ (E ≤ -1074 ∨ 9007199254740992 ≤ m / 2 ^ i)))
  ∨ (M = 0 ∧ E = -1074 ∧ hf = false ∧ ∃ j : Nat, e + j < -1074 ∧ m < 2 ^ j)
theorem halved_start (m : Nat) (e : Int) (st : Bool) : Halved m e st m e false st :=
  .inl ⟨0, by simp, by simp, fun _ => ⟨rfl, rfl⟩, fun i h => by omega⟩
theorem halved_le {m : Nat} {e : Int} {st : Bool} {M : Nat} {E : Int} {hf rs : Bool} (h : Halved m e st M E hf rs) : M ≤ m := by
  rcases h with ⟨j, rfl, -⟩ | ⟨rfl, -⟩
  · exact Nat.div_le_self _ _
  · exact Nat.zero_le _
theorem halved_exp {m : Nat} {e : Int} {st : Bool} {M : Nat} {E : Int} {hf rs : Bool} (h : Halved m e st M E hf rs) (hm : m < 18446744073709551616) : E ≤ -1074 ∨ E ≤ e + 64 := by
  rcases h with ⟨j, -, rfl, -, hs⟩ | ⟨-, h, -⟩
  · cases j with
    | zero => right; omega
    | succ i =>
      rcases (hs i rfl).2.2 with h | h
      · exact .inl h
      · right
        rcases Nat.lt_or_ge i 63 with h' | h'
        · omega
        · have : (2 : Nat) ^ 63 ≤ 2 ^ i := Nat.pow_le_pow_right (by decide) h'
          have h2 : 9007199254740992 * 2 ^ i ≤ m := (Nat.le_div_iff_mul_le (Nat.two_pow_pos i)).1 h
          omega
  · exact .inl (by omega)
theorem rest_step (m i : Nat) (st : Bool) : ((st || decide (m % 2 ^ i ≠ 0)) || decide (m / 2 ^ i % 2 = 1)) = (st || decide (m % 2 ^ (i + 1) ≠ 0)) := by
  have hr : m % 2 ^ (i + 1) = m % 2 ^ i + 2 ^ i * (m / 2 ^ i % 2) := by rw [Nat.pow_succ, Nat.mod_mul]
  have hp := Nat.two_pow_pos i
  rw [hr]
  rcases Nat.mod_two_eq_zero_or_one (m / 2 ^ i) with hb | hb
  · rw [hb]; simp
  · rw [hb]
    simp
theorem halved_step {m : Nat} {e : Int} {st : Bool} {M : Nat} {E : Int} {hf rs : Bool} (h : Halved m e st M E hf rs) (hc : 9007199254740992 ≤ M ∨ E < -1074) :
    Halved m e st (M / 2) (E + 1) (decide (M % 2 = 1)) (rs || hf) := by
  rcases h with ⟨j, rfl, rfl, h0, hs⟩ | ⟨rfl, rfl, -⟩
  · refine .inl ⟨j + 1, ?_, ?_, fun h => by omega, fun i hi => ?_⟩
    · rw [Nat.pow_succ, Nat.div_div_eq_div_mul]
    · omega
    · obtain rfl : j = i := by omega
      refine ⟨rfl, ?_, ?_⟩
      · cases j with
        | zero => rw [(h0 rfl).1, (h0 rfl).2]; simp [Nat.mod_one]
        | succ i =>
          rw [(hs i rfl).1, (hs i rfl).2.1]
          exact rest_step m i st
      · rcases hc with hc | hc
        · exact .inr hc
        · exact .inl (by omega)
  · omega
theorem halved_zero {m : Nat} {e : Int} {st : Bool} {M : Nat} {E : Int} {hf rs r : Bool} (h : Halved m e st M E hf rs) (h2 : M / 2 = 0) (h3 : E + 1 < -1074) :
    Halved m e st 0 (-1074) false r := by
  rcases h with ⟨j, rfl, rfl, h0, hs⟩ | ⟨rfl, rfl, -⟩
  · refine .inr ⟨rfl, rfl, rfl, j + 1, by omega, ?_⟩
    rw [Nat.pow_succ]
    rw [Nat.div_div_eq_div_mul] at h2
    rcases Nat.div_eq_zero_iff.1 h2 with h | h
    · have := Nat.two_pow_pos j; omega
    · exact h
  · omega
theorem halved_end {m : Nat} {e : Int} {st : Bool} {M : Nat} {E : Int} {hf rs : Bool} (h : Halved m e st M E hf rs) (hm : m ≠ 0) (hn : e ≤ -1074 ∨ 4503599627370496 ≤ m) (h1 : M < 9007199254740992) (h2 : -1074 ≤ E) :
    roundN m e st = min (M + (if (hf && (rs || decide (M % 2 = 1))) = true then 1 else 0) + (E + 1074).toNat * 4503599627370496) 9218868437227405312 ∧ (E = -1074 ∨ 4503599627370496 ≤ M) := by
  rcases h with ⟨j, rfl, rfl, h0, hs⟩ | ⟨rfl, rfl, rfl, j, hj, hlt⟩
  · have hlt : m < 2 ^ (53 + j) := by
      rw [Nat.pow_add]
      exact (Nat.div_lt_iff_lt_mul (Nat.two_pow_pos j)).1 h1
    have hlow : e + j = -1074 ∨ 2 ^ (52 + j) ≤ m := by
      cases j with
      | zero => rcases hn with h | h; exact .inl (by simp at h2 ⊢; omega); exact .inr h
      | succ i =>
        rcases (hs i rfl).2.2 with h | h
        · exact .inl (by omega)
        · right
          have h3 : 9007199254740992 * 2 ^ i ≤ m := (Nat.le_div_iff_mul_le (Nat.two_pow_pos i)).1 h
          have : 2 ^ (52 + (i + 1)) = 9007199254740992 * 2 ^ i := by rw [show 52 + (i + 1) = 53 + i by omega, Nat.pow_add]
          omega
    constructor
    · rw [roundN_at (k := j) st hm h2 hlt hlow]
      congr 1
      congr 1
      cases j with
      | zero => rw [(h0 rfl).1]; simp [rne_zero]
      | succ i =>
        rw [rne_succ, (hs i rfl).1, (hs i rfl).2.1]
        congr 1
        simp
    · rcases hlow with h | h
      · exact .inl h
      · right
        rw [Nat.pow_add] at h
        exact (Nat.le_div_iff_mul_le (Nat.two_pow_pos j)).2 h
  · refine ⟨?_, .inl rfl⟩
    have hk : e + ((-1074 - e).toNat : Nat) = -1074 := by omega
    have hp : (2 : Nat) ^ (j + 1) ≤ 2 ^ (-1074 - e).toNat := Nat.pow_le_pow_right (by decide) (by omega)
    rw [Nat.pow_succ] at hp
    have hq : (2 : Nat) ^ (-1074 - e).toNat ≤ 2 ^ (53 + (-1074 - e).toNat) := Nat.pow_le_pow_right (by decide) (by omega)
    rw [roundN_at (k := (-1074 - e).toNat) st hm (by omega) (by omega) (.inl hk), rne_small st (by omega), hk]
    simp
theorem round_put {M' : Nat} {E : Int} (h2 : -1074 ≤ E) (h3 : E = -1074 ∨ 4503599627370496 ≤ M') (h4 : M' ≤ 9007199254740992) :
    min (M' + (E + 1074).toNat * 4503599627370496) 9218868437227405312 =
      if M' = 9007199254740992 then (if 971 < E + 1 then 9218868437227405312 else (E + 1 + 1075).toNat * 4503599627370496)
      else if M' < 4503599627370496 then M' else if 971 < E then 9218868437227405312 else M' - 4503599627370496 + (E + 1075).toNat * 4503599627370496 := by
  obtain ⟨t, ht⟩ : ∃ t : Nat, E + 1074 = t := ⟨(E + 1074).toNat, by omega⟩
  have e1 : (E + 1074).toNat = t := by omega
  have e2 : (E + 1075).toNat = t + 1 := by omega
  have e3 : (E + 1 + 1075).toNat = t + 2 := by omega
  rw [e1, e2, e3]
  split
  · split <;> omega
  · split
    · have : t = 0 := by omega
      omega
    · split <;> omega
theorem roundN_clamp {m : Nat} (e : Int) (st : Bool) (hm : m < 18446744073709551616) : roundN m (max (min e 5000) (-5000)) st = roundN m e st := by
  by_cases h0 : m = 0
  · subst h0; simp [roundN]
  by_cases h1 : 5000 < e
  · rw [roundN_huge st h0 (show 1100 ≤ e by omega), roundN_huge st h0 (by omega)]
  · by_cases h2 : e < -5000
    · rw [roundN_tiny st hm (show e ≤ -1139 by omega), roundN_tiny st hm (by omega)]
    · congr 1; omega
end Go.Proofs.YtcdbifcidaafnaaGreatDoor
