/-
  Several texts in one: Base, Info, Txt, Kept, HexB, DecB.
-/
import Derived.WalkKit
import Derived.WalkSpells
import Derived.WalkLawsBesides
import Derived.Laws.BytesArg
import Derived.Test.YtcabanghegddhaaGreatDoorRows
import Derived.Lib.Strings
import Derived.Lib.ItoaNum
namespace Go.Proofs.YtcabanghegddhaaGreatDoor
open Go.RowKit

theorem ret_int {k : IntKind} {a b : Int} (h : a = b) : Ending.returned (.int k a) = .returned (.int k b) := by rw [h]

theorem wrap_small {x : Int} (h0 : 0 ≤ x) (h : x < 4611686018427387904) : IntKind.i64.wrap x = x := by
  rw [IntKind.wrap_i64]; omega
theorem wrap_div {x : Nat} (c : Nat) (h : x < 65536) : IntKind.i64.wrap ((IntKind.i64.wrap (x : Int)).tdiv (c : Int)) = ((x / c : Nat) : Int) := by
  have hle : x / c ≤ x := Nat.div_le_self _ _
  rw [wrap_small (x := (x : Int)) (by omega) (by omega)]
  show IntKind.i64.wrap ((x / c : Nat) : Int) = _
  exact wrap_small (Int.natCast_nonneg _) (Int.lt_of_le_of_lt (Int.ofNat_le.2 hle) (by omega))
theorem wrap_mod {x : Nat} (c : Nat) (h : x < 65536) : (IntKind.i64.wrap (x : Int)).tmod (c : Int) = ((x % c : Nat) : Int) := by
  rw [wrap_small (x := (x : Int)) (by omega) (by omega)]
  rfl

theorem chain {w w1 w2 : World} (h : Below w.heap.size w w1) (k : Below w1.heap.size w1 w2) : Below w.heap.size w w2 := h.trans (k.mono h.size)

theorem conv_own {P : Program} {w : World} {base : Nat} {e src dst : TypeId} {v : Value} {n : Nat} (xs : List Int)
    (hs : P.underlying src = some (.slice e)) (he : P.underlying e = some (.int .u8)) (hd : P.underlying dst = some .string)
    (hown : w.ownsRow base e 1 v n (xs.map (Value.int .u8))) :
    (convert src dst v).run P w = .ok (.string (strOfNums xs)) w := by
  have hcs := fun g hg => hown.cells (g := g) hg
  obtain ⟨hlen, ⟨rfl, rfl⟩ | ⟨g, cap, cur, rfl, hb, hg, hnc, hc, hsz, htk⟩⟩ := hown
  · have hx : xs = [] := by cases xs with
      | nil => rfl
      | cons a l => simp at hlen
    subst hx
    rw [run_convert_bytes_nil w src e hs he 0 0 dst hd]
    rfl
  · have hl : xs.length = n := by simpa using hlen
    refine run_convert_bytes_arg w src e hs he g 0 n cap xs hl (fun i hi => ?_) dst hd
    have h := hcs g rfl i (.int .u8 (xs.getD i 0)) (by simp [List.getElem?_eq_getElem (show i < xs.length by omega)])
    have hp : (⟨g, 0, none⟩ : Addr).add i = ⟨g, 0 + i, none⟩ := by unfold Addr.add; split <;> simp_all
    rw [← hp]; exact h

/-- 'append(v, y)': y was laid in a block of its own; v is a row that the call itself made (or nil): it then owns y too, and below 'base' nothing has turned -/
theorem append_one {P : Program} {w w0 : World} {ops : Array Oper} {rest : List Oper} {o : Oper} {a : Act} {Q : Exit → Act → World → Prop} (hgd : o.guard = none) (s x : Operand) (t : TypeId)
    (ho : o.op = .call { callee := .builtin .append, args := #[s, x], argTypes := #[t, t] })
    (base : Nat) (e : TypeId) (i : TypeInfo) (z : Value) (bytes : Nat) (ht : P.underlying t = some (.slice e)) (hi : P.info? e = some i) (hz : i.zero = some z)
    (hsize : i.size = 1) (hby : i.bytes = bytes) (hzs : z.cells.size = 1)
    (v : Value) (n : Nat) (xs : List Value) (hs : a.eval s = v) (hown : w.ownsRow base e 1 v n xs)
    (y : Value) (hx : a.eval x = .slice (some ⟨w.heap.size, 0, none⟩) 1 1) (hy : y.oneCell' = true)
    (hn : n < 1000000000000) (hb : bytes ≤ 64) (hbel : Below base w0 w) (hbase : base ≤ w.heap.size)
    (h : ∀ v' w', w'.ownsRow base e 1 v' (n + 1) (xs ++ [y]) → Below base w0 w' → wpList P ops Q rest (a.put o.dst v') w') : wpList P ops Q (o :: rest) a (w.alloc (.cells #[y] e)) := by
  refine wpList_append_own _ hgd s x t ho base e i z 1 bytes ht hi hz hsize hby hzs (by decide) v n xs hs (hown.alloc _) ⟨w.heap.size, 0, none⟩ 1 1 [y] hx rfl (cell_one_new _ _ _) (fun u hu => by simp at hu; subst hu; exact hy) (by unfold maxLen; omega) ?_ (by simp; omega) (fun v' w' h1 h2 _ => h v' w' h1 ((hbel.alloc hbase _).grown h2 (by simp; omega) (fun k hk => (hown.lt k hk).1)))
  have : (n + 1) * bytes ≤ 1000000000000 * 64 := Nat.mul_le_mul (by omega) hb
  omega

/-- the bytes of a number, seven bits each, the lowest first; 128 is added to each but the last -/
def varB (n : Nat) : List Int := if n > 127 then ((n % 128 + 128 : Nat) : Int) :: varB (n / 128) else [(n : Int)]
  termination_by n
  decreasing_by omega

theorem varB_more {n : Nat} (h : 127 < n) : varB n = ((n % 128 + 128 : Nat) : Int) :: varB (n / 128) := by rw [varB, if_pos h]
theorem varB_last {n : Nat} (h : n ≤ 127) : varB n = [(n : Int)] := by rw [varB, if_neg (by omega)]
theorem varB_le (n : Nat) : (varB n).length ≤ n + 1 := by
  induction n using Nat.strongRecOn with
  | ind n ih =>
    by_cases h : 127 < n
    · rw [varB_more h, List.length_cons]
      have := ih (n / 128) (by omega)
      omega
    · rw [varB_last (by omega)]; simp
theorem varB_pos (n : Nat) : 0 < (varB n).length := by
  by_cases h : 127 < n
  · rw [varB_more h]; simp
  · rw [varB_last (by omega)]; simp

theorem varB_len {n : Nat} (k : Nat) (h : n < 128 ^ (k + 1)) : (varB n).length ≤ k + 1 := by
  induction k generalizing n with
  | zero => rw [varB_last (by simp at h; omega)]; simp
  | succ k ih =>
    by_cases h7 : 127 < n
    · rw [varB_more h7, List.length_cons]
      have := ih (n := n / 128) (by rw [Nat.pow_succ] at h; omega)
      omega
    · rw [varB_last (by omega)]; simp
theorem varB_len5 {n : Nat} (h : n ≤ 1000000000) : (varB n).length ≤ 5 := varB_len 4 (by omega)

end Go.Proofs.YtcabanghegddhaaGreatDoor

namespace Go.Proofs.YtcabanghegddhaaGreatDoor
open Go.RowKit

theorem Tryz.infoByte : (Tryz.prog.info? 5).map (fun i => (i.zero, i.size, i.bytes)) = some (some (.int .u8 0), 1, 1) := by kernel_rfl

theorem Tryz.infoText : (Tryz.prog.info? 9).map (fun i => (i.zero, i.size, i.bytes)) = some (some (.string ⟨#[]⟩), 1, 16) := by kernel_rfl

theorem Tryz.infoInt : (Tryz.prog.info? 3).map (fun i => (i.zero, i.size, i.bytes)) = some (some (.int .i64 0), 1, 8) := by kernel_rfl

end Go.Proofs.YtcabanghegddhaaGreatDoor

namespace Go.Proofs.YtcabanghegddhaaGreatDoor
open Go.RowKit

theorem take_snoc (s : ByteArray) (k : Nat) (h : k < s.size) : s.data.toList.take (k + 1) = s.data.toList.take k ++ [s[k]] := by
  rw [List.take_succ_eq_append_getElem (by rw [← Lib.size_eq]; exact h)]; rfl
theorem take_len (s : ByteArray) (k : Nat) (h : k ≤ s.size) : (s.data.toList.take k).length = k := by
  have : s.size = s.data.toList.length := Lib.size_eq s
  rw [List.length_take]; omega
theorem take_all (s : ByteArray) : s.data.toList.take s.size = s.data.toList := by rw [Lib.size_eq, List.take_length]

/-- the bytes of s from a on, up to b -/
def sl (s : ByteArray) (a b : Nat) : List UInt8 := (s.data.toList.drop a).take (b - a)

theorem sl_self (s : ByteArray) (a : Nat) : sl s a a = [] := by simp [sl]
theorem sl_length {s : ByteArray} {a b : Nat} (hb : b ≤ s.size) : (sl s a b).length = b - a := by
  have : s.size = s.data.toList.length := Lib.size_eq s
  simp only [sl, List.length_take, List.length_drop]; omega
theorem sl_snoc {s : ByteArray} {a i : Nat} (ha : a ≤ i) (h : i < s.size) : sl s a (i + 1) = sl s a i ++ [s[i]] := by
  have hl : s.size = s.data.toList.length := Lib.size_eq s
  unfold sl
  have e : i + 1 - a = (i - a) + 1 := by omega
  have hlt : i - a < (s.data.toList.drop a).length := by rw [List.length_drop]; omega
  rw [e, List.take_succ_eq_append_getElem hlt, List.getElem_drop]
  congr 2
  have e2 : a + (i - a) = i := by omega
  simp only [e2]
  rfl

end Go.Proofs.YtcabanghegddhaaGreatDoor

namespace Go.Proofs.YtcabanghegddhaaGreatDoor
open Go.RowKit

theorem kept_block {w w' : World} {g : Nat} {o : Obj} (h : Below w.heap.size w w') (ho : w.heap[g]? = some o) : w'.heap[g]? = some o := by
  have hg : g < w.heap.size := by
    rcases Nat.lt_or_ge g w.heap.size with h' | h'
    · exact h'
    · rw [Array.getElem?_eq_none h'] at ho; cases ho
  rw [h.block g hg]; exact ho

end Go.Proofs.YtcabanghegddhaaGreatDoor

namespace Go.Proofs.YtcabanghegddhaaGreatDoor
open Go.RowKit

def fig (x : Nat) : Nat := if x < 10 then 48 + x else 87 + x
def hexOf (l : List UInt8) : List Int := l.flatMap fun c => [(fig (c.toNat / 16) : Int), (fig (c.toNat % 16) : Int)]
theorem hexOf_snoc (l : List UInt8) (c : UInt8) : hexOf (l ++ [c]) = hexOf l ++ [(fig (c.toNat / 16) : Int), (fig (c.toNat % 16) : Int)] := by simp [hexOf]
theorem hexOf_length (l : List UInt8) : (hexOf l).length = 2 * l.length := by
  induction l with
  | nil => rfl
  | cons a l ih => simp only [hexOf, List.flatMap_cons, List.length_append, List.length_cons, List.length_nil] at ih ⊢; omega

theorem figS_fin : ∀ i : Fin 16, ((⟨#[48, 49, 50, 51, 52, 53, 54, 55, 56, 57, 97, 98, 99, 100, 101, 102]⟩ : ByteArray)[i.val]'i.isLt).toNat = fig i.val := by decide
theorem figS_eq {i : Nat} (h : i < (⟨#[48, 49, 50, 51, 52, 53, 54, 55, 56, 57, 97, 98, 99, 100, 101, 102]⟩ : ByteArray).size) (N : Nat) (hi : i = N) (hN : N < 16) :
    ((⟨#[48, 49, 50, 51, 52, 53, 54, 55, 56, 57, 97, 98, 99, 100, 101, 102]⟩ : ByteArray)[i]'h).toNat = fig N := by
  subst hi
  exact figS_fin ⟨i, hN⟩

end Go.Proofs.YtcabanghegddhaaGreatDoor

namespace Go.Proofs.YtcabanghegddhaaGreatDoor
open Go.RowKit

/-- the figures of a number that is still to be written; none of 0 -/
def decMore (m : Nat) : List UInt8 := if m = 0 then [] else Lib.decDigits m
theorem decMore_zero : decMore 0 = [] := rfl
theorem decMore_step {m : Nat} (h : m ≠ 0) : decMore m = decMore (m / 10) ++ [UInt8.ofNat (48 + m % 10)] := by
  unfold decMore
  rw [if_neg h]
  by_cases h10 : m < 10
  · rw [Lib.decDigits, dif_pos h10, if_pos (by omega), show m % 10 = m by omega]; rfl
  · rw [Lib.decDigits, dif_neg h10, if_neg (by omega)]
theorem decMore_pos {m : Nat} (h : m ≠ 0) : decMore m = Lib.decDigits m := if_neg h

/-- u: the number; m: what is left; l: the figures that are written -/
def DecAt (u m : Nat) (l : List UInt8) : Prop := decMore m ++ l = Lib.decDigits u ∧ m ≤ u ∧ (1 ≤ m → 2 * l.length + m ≤ u) ∧ (m = 0 → 2 * l.length ≤ u + 1)
theorem decAt_first {u : Nat} (h : u ≠ 0) : DecAt u u [] := ⟨by rw [decMore_pos h, List.append_nil], Nat.le_refl _, fun _ => by simp, fun e => absurd e h⟩
theorem decAt_step {u m : Nat} {l : List UInt8} (hm : m ≠ 0) (h : DecAt u m l) : DecAt u (m / 10) (UInt8.ofNat (48 + m % 10) :: l) := by
  obtain ⟨h1, h2, h3, h4⟩ := h
  refine ⟨?_, by omega, fun _ => ?_, fun _ => ?_⟩
  · rw [← h1, decMore_step hm, List.append_assoc]; rfl
  · have := h3 (by omega)
    rw [List.length_cons]; omega
  · have := h3 (by omega)
    rw [List.length_cons]; omega
theorem decAt_len {u m : Nat} {l : List UInt8} (h : DecAt u m l) : 2 * l.length ≤ u + 1 := by
  obtain ⟨_, _, h3, h4⟩ := h
  by_cases e : m = 0
  · exact h4 e
  · have := h3 (by omega); omega
theorem decAt_last {u : Nat} {l : List UInt8} (h : DecAt u 0 l) : l = Lib.decDigits u := by
  have := h.1
  rwa [decMore_zero, List.nil_append] at this
theorem str_cons (a : Nat) (l : List UInt8) : strOfNums [(fig a : Int)] ++ (⟨l.toArray⟩ : ByteArray) = ⟨(UInt8.ofNat (fig a) :: l).toArray⟩ := by
  apply ByteArray.ext
  rw [ByteArray.data_append]
  simp [strOfNums]
theorem fig_small {a : Nat} (h : a < 10) : fig a = 48 + a := if_pos h

end Go.Proofs.YtcabanghegddhaaGreatDoor
