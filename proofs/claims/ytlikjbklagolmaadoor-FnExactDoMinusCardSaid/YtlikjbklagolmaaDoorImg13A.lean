/-
  An argument that is an image, opened: each function's numbers and rows, each constant.
-/
import Derived.Test.YtlikjbklagolmaaDoorRows
import Derived.Test.YtlikjbklagolmaaDoorImg13B
namespace Go.Proofs.YtlikjbklagolmaaDoor
open Go.RowKit Go.ChangeShapes Go.WideShapes
set_option linter.unusedVariables false

theorem Tryd.cellsInt13 : Tryd.prog.cellsOf 3 = 1 := by kernel_rfl

theorem Tryd.cellsBool13 : Tryd.prog.cellsOf 4 = 1 := by kernel_rfl

theorem Tryd.cellsWord13 : Tryd.prog.cellsOf 22 = 1 := by kernel_rfl

theorem Tryd.cellsStr13 : Tryd.prog.cellsOf 9 = 1 := by kernel_rfl

variable {H : Type} {enc : TypeId × Value → H} {w : World}

theorem some_in {α : Type} {l : List α} {i : Nat} (h : i < l.length) {y : Option α} (e : y = l[i]?) : ∃ x, y = some x := ⟨l[i], by rw [e, List.getElem?_eq_getElem h]⟩
theorem spot_in {a : Addr} {v : Value} (h : w.cell? (a.add 0) = some v) : ∃ b o, a = ⟨b, o, none⟩ := by
  obtain ⟨b, off, spot⟩ := a
  have hspot : spot = none := by simpa [Addr.add] using World.cell?_spot h
  subst hspot
  exact ⟨b, off, rfl⟩

theorem i64_of {n : Int} (h : (Lit.int .i64 n).wf = true) : I64 n := by
  have := Go.bounds_i64 h
  exact ⟨by omega, by omega⟩

set_option maxRecDepth 100000 in
/-- a slice of flat things, opened -/
theorem open_flat {α : Type} (d : α) (f : α → List Value) (Q : α → Prop) {T E : TypeId} {k : Nat} (hk : ∀ p, (f p).length = k) (hT : Tryd.prog.underlying T = some (.slice E)) (hE : Tryd.prog.cellsOf E = k)
    (hone : ∀ (n : Nat) (cs : List Value) (x : DataW H × List MemPlace), DataW.trod enc Tryd.prog w 0 (fun _ => true) true n E cs = some x → ∃ p, cs = f p ∧ Q p) (hk0 : 0 < k)
    {fuel : Nat} {v : Value} {x : DataW H × List MemPlace} (h : DataW.trod enc Tryd.prog w 0 (fun _ => true) true fuel T [v] = some x) : ∃ l : List α, ArgFlat w v k l.length (l.flatMap f) ∧ ∀ p ∈ l, Q p := by
  rcases Go.Deep.open_slice hT h with ⟨hcs, _⟩ | ⟨a, len, cap, m, n, D, Pl, hcs, _, hl, hm, hmm, _, hx⟩
  · simp at hcs
    subst hcs
    exact ⟨[], ⟨none, 0, rfl, by simp, by simp, fun h => by simp at h⟩, by simp⟩
  · simp at hcs
    subst hcs
    simp only [if_true] at hmm
    rw [hE] at hx
    have hinh : Inhabited α := ⟨d⟩
    obtain ⟨g, hg⟩ := Go.Deep.choose_lt (α := α) (n := len) (p := fun i p => w.cells? 0 (a.add (i * k)) k = some (f p) ∧ Q p) (fun i hi => by
      obtain ⟨cs', h1, h2⟩ := hx i (by omega)
      obtain ⟨p, rfl, hq⟩ := hone _ _ _ h2
      exact ⟨p, h1, hq⟩)
    have hlen : ((List.range len).map g).length = len := by simp
    have hfl : (((List.range len).map g).flatMap f).length = len * k := by rw [flat_len hk, hlen]
    have cell : ∀ i c u, i < len → (f (g i))[c]? = some u → w.cell? ((a.add (i * k)).add c) = some u := fun i c u hi hu => by
      obtain ⟨_, _, hc⟩ := World.cells?_some (hg i hi).1
      have hck : c < k := by have := (List.getElem?_eq_some_iff.1 hu).1; rw [hk] at this; exact this
      rw [hc c hck, hu]
    refine ⟨(List.range len).map g, ⟨some a, cap, by rw [hlen], by rw [hlen]; omega, by rw [hlen, hfl], fun h0 => ?_⟩, fun p hp => ?_⟩
    · rw [hlen] at h0
      obtain ⟨u0, hu0⟩ : ∃ u, (f (g 0))[0]? = some u := ⟨_, List.getElem?_eq_getElem (by rw [hk]; exact hk0)⟩
      have z := cell 0 0 u0 h0 hu0
      rw [Nat.zero_mul, show (a.add 0) = a by simp [Addr.add]] at z
      obtain ⟨b, o, rfl⟩ := spot_in z
      refine ⟨b, o, rfl, World.block_lt_of_cell? w _ (by rw [add_plain] at z; exact z), fun j u hj => ?_⟩
      have hjl : j < len * k := by have := (List.getElem?_eq_some_iff.1 hj).1; rw [hfl] at this; exact this
      have hq : j / k < len := Nat.div_lt_of_lt_mul (by rw [Nat.mul_comm]; exact hjl)
      have hr : j % k < k := Nat.mod_lt _ hk0
      have hd : j / k * k + j % k = j := by rw [Nat.mul_comm]; exact Nat.div_add_mod j k
      obtain ⟨u1, hu1⟩ : ∃ u, (f (g (j / k)))[j % k]? = some u := ⟨_, List.getElem?_eq_getElem (by rw [hk]; exact hr)⟩
      have e1 := flat_at hk ((List.range len).map g) (j / k) (j % k) (g (j / k)) u1 (by rw [List.getElem?_map, List.getElem?_range hq]; rfl) hu1
      rw [hd, hj] at e1
      injection e1 with e1
      subst e1
      have y := cell (j / k) (j % k) u hq hu1
      rw [add_plain, add_plain, Nat.add_assoc, hd] at y
      exact y
    · obtain ⟨i, hi, rfl⟩ := List.mem_map.1 hp
      exact (hg i (List.mem_range.1 hi)).2

end Go.Proofs.YtlikjbklagolmaaDoor
