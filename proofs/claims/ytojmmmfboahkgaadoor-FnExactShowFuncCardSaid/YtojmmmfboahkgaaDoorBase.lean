/-
  Small laws of our own, over no program: what a slice of bytes that the call itself made becomes as a string; the bytes of a number in seven bits each.
-/
import Derived.WalkKit
import Derived.WalkSpells
import Derived.WalkLawsBesides
import Derived.Laws.BytesArg
namespace Go.Proofs.YtojmmmfboahkgaaDoor
open Go.RowKit

theorem ret_int {k : IntKind} {a b : Int} (h : a = b) : Ending.returned (.int k a) = .returned (.int k b) := by rw [h]

theorem wrap_small {x : Int} (h0 : 0 ≤ x) (h : x < 4611686018427387904) : IntKind.i64.wrap x = x := by
  rw [IntKind.wrap_i64]; omega
theorem wrap_div {x : Nat} (c : Nat) (h : x < 65536) : IntKind.i64.wrap ((IntKind.i64.wrap (x : Int)).tdiv (c : Int)) = ((x / c : Nat) : Int) := by
  have hle : x / c ≤ x := Nat.div_le_self _ _
  rw [wrap_small (x := (x : Int)) (by omega) (by omega)]
  show IntKind.i64.wrap ((x / c : Nat) : Int) = _
  exact wrap_small (Int.natCast_nonneg _) (Int.lt_of_le_of_lt (Int.ofNat_le.2 hle) (by omega))
theorem wrap_mod {x : Nat} (c : Nat) (h : x < 65536) : (IntKind.i64.wrap (x : Int)).tmod (c : Int) = ((x % c : Nat) : Int) := by
  rw [wrap_small (x := (x : Int)) (by omega) (by omega)]
  rfl

theorem chain {w w1 w2 : World} (h : Below w.heap.size w w1) (k : Below w1.heap.size w1 w2) : Below w.heap.size w w2 := h.trans (k.mono h.size)

theorem conv_own {P : Program} {w : World} {base : Nat} {e src dst : TypeId} {v : Value} {n : Nat} (xs : List Int)
    (hs : P.underlying src = some (.slice e)) (he : P.underlying e = some (.int .u8)) (hd : P.underlying dst = some .string)
    (hown : w.ownsRow base e 1 v n (xs.map (Value.int .u8))) :
    (convert src dst v).run P w = .ok (.string (strOfNums xs)) w := by
  have hcs := fun g hg => hown.cells (g := g) hg
  obtain ⟨hlen, ⟨rfl, rfl⟩ | ⟨g, cap, cur, rfl, hb, hg, hnc, hc, hsz, htk⟩⟩ := hown
  · have hx : xs = [] := by cases xs with
      | nil => rfl
      | cons a l => simp at hlen
    subst hx
    rw [run_convert_bytes_nil w src e hs he 0 0 dst hd]
    rfl
  · have hl : xs.length = n := by simpa using hlen
    refine run_convert_bytes_arg w src e hs he g 0 n cap xs hl (fun i hi => ?_) dst hd
    have h := hcs g rfl i (.int .u8 (xs.getD i 0)) (by simp [List.getElem?_eq_getElem (show i < xs.length by omega)])
    have hp : (⟨g, 0, none⟩ : Addr).add i = ⟨g, 0 + i, none⟩ := by unfold Addr.add; split <;> simp_all
    rw [← hp]; exact h

/-- 'append(v, y)': y was laid in a block of its own; v is a row that the call itself made (or nil): it then owns y too, and below 'base' nothing has turned -/
theorem append_one {P : Program} {w w0 : World} {ops : Array Oper} {rest : List Oper} {o : Oper} {a : Act} {Q : Exit → Act → World → Prop} (hgd : o.guard = none) (s x : Operand) (t : TypeId)
    (ho : o.op = .call { callee := .builtin .append, args := #[s, x], argTypes := #[t, t] })
    (base : Nat) (e : TypeId) (i : TypeInfo) (z : Value) (bytes : Nat) (ht : P.underlying t = some (.slice e)) (hi : P.info? e = some i) (hz : i.zero = some z)
    (hsize : i.size = 1) (hby : i.bytes = bytes) (hzs : z.cells.size = 1)
    (v : Value) (n : Nat) (xs : List Value) (hs : a.eval s = v) (hown : w.ownsRow base e 1 v n xs)
    (y : Value) (hx : a.eval x = .slice (some ⟨w.heap.size, 0, none⟩) 1 1) (hy : y.oneCell' = true)
    (hn : n < 1000000000000) (hb : bytes ≤ 64) (hbel : Below base w0 w) (hbase : base ≤ w.heap.size)
    (h : ∀ v' w', w'.ownsRow base e 1 v' (n + 1) (xs ++ [y]) → Below base w0 w' → wpList P ops Q rest (a.put o.dst v') w') : wpList P ops Q (o :: rest) a (w.alloc (.cells #[y] e)) := by
  refine wpList_append_own _ hgd s x t ho base e i z 1 bytes ht hi hz hsize hby hzs (by decide) v n xs hs (hown.alloc _) ⟨w.heap.size, 0, none⟩ 1 1 [y] hx rfl (cell_one_new _ _ _) (fun u hu => by simp at hu; subst hu; exact hy) (by unfold maxLen; omega) ?_ (by simp; omega) (fun v' w' h1 h2 _ => h v' w' h1 ((hbel.alloc hbase _).grown h2 (by simp; omega) (fun k hk => (hown.lt k hk).1)))
  have : (n + 1) * bytes ≤ 1000000000000 * 64 := Nat.mul_le_mul (by omega) hb
  omega

/-- the bytes of a number, seven bits each, the lowest first; 128 is added to each but the last -/
def varB (n : Nat) : List Int := if n > 127 then ((n % 128 + 128 : Nat) : Int) :: varB (n / 128) else [(n : Int)]
  termination_by n
  decreasing_by omega

theorem varB_more {n : Nat} (h : 127 < n) : varB n = ((n % 128 + 128 : Nat) : Int) :: varB (n / 128) := by rw [varB, if_pos h]
theorem varB_last {n : Nat} (h : n ≤ 127) : varB n = [(n : Int)] := by rw [varB, if_neg (by omega)]
theorem varB_le (n : Nat) : (varB n).length ≤ n + 1 := by
  induction n using Nat.strongRecOn with
  | ind n ih =>
    by_cases h : 127 < n
    · rw [varB_more h, List.length_cons]
      have := ih (n / 128) (by omega)
      omega
    · rw [varB_last (by omega)]; simp
theorem varB_pos (n : Nat) : 0 < (varB n).length := by
  by_cases h : 127 < n
  · rw [varB_more h]; simp
  · rw [varB_last (by omega)]; simp

theorem varB_len {n : Nat} (k : Nat) (h : n < 128 ^ (k + 1)) : (varB n).length ≤ k + 1 := by
  induction k generalizing n with
  | zero => rw [varB_last (by simp at h; omega)]; simp
  | succ k ih =>
    by_cases h7 : 127 < n
    · rw [varB_more h7, List.length_cons]
      have := ih (n := n / 128) (by rw [Nat.pow_succ] at h; omega)
      omega
    · rw [varB_last (by omega)]; simp
theorem varB_len5 {n : Nat} (h : n ≤ 1000000000) : (varB n).length ≤ 5 := varB_len 4 (by omega)

end Go.Proofs.YtojmmmfboahkgaaDoor
