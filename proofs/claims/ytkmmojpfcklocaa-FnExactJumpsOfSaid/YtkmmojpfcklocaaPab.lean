/-
  Part 2 of what is proved of drawn right trees.
-/
import Derived.Test.YtkmmojpfcklocaaRows
import Derived.Test.YtkmmojpfcklocaaPaa

namespace Go.Proofs.Ytkmmojpfcklocaa
open Go.RowKit Go.ChangeShapes Go.WideShapes
set_option linter.unusedVariables false
theorem Try.cellsInt13 : Try.prog.cellsOf 3 = 1 := by kernel_rfl
theorem Try.cellsBool13 : Try.prog.cellsOf 4 = 1 := by kernel_rfl
theorem Try.cellsWord13 : Try.prog.cellsOf 67 = 1 := by kernel_rfl
theorem Try.cellsStr13 : Try.prog.cellsOf 9 = 1 := by kernel_rfl
theorem Try.cellsConst13 : Try.prog.cellsOf 69 = 3 := by kernel_rfl
theorem Try.cellsIns13 : Try.prog.cellsOf 123 = 3 := by kernel_rfl
theorem Try.cellsCap13 : Try.prog.cellsOf 121 = 2 := by kernel_rfl
theorem Try.cellsHandler13 : Try.prog.cellsOf 125 = 3 := by kernel_rfl
theorem Try.cellsFunc13 : Try.prog.cellsOf 65 = 5 := by kernel_rfl
theorem Try.cellsImage13 : Try.prog.cellsOf 25 = 2 := by kernel_rfl
theorem Try.cellsInsS13 : Try.prog.cellsOf 62 = 1 := by kernel_rfl
theorem Try.cellsCapS13 : Try.prog.cellsOf 61 = 1 := by kernel_rfl
theorem Try.cellsHandlerS13 : Try.prog.cellsOf 63 = 1 := by kernel_rfl
theorem Try.cellsFuncS13 : Try.prog.cellsOf 22 = 1 := by kernel_rfl
theorem Try.cellsConstS13 : Try.prog.cellsOf 23 = 1 := by kernel_rfl
variable {H : Type} {enc : TypeId × Value → H} {w : World}
theorem some_in {α : Type} {l : List α} {i : Nat} (h : i < l.length) {y : Option α} (e : y = l[i]?) : ∃ x, y = some x := ⟨l[i], by rw [e, List.getElem?_eq_getElem h]⟩
theorem spot_in {a : Addr} {v : Value} (h : w.cell? (a.add 0) = some v) : ∃ b o, a = ⟨b, o, none⟩ := by
  obtain ⟨b, off, spot⟩ := a
  have hspot : spot = none := by simpa [Addr.add] using World.cell?_spot h
  subst hspot
  exact ⟨b, off, rfl⟩
theorem i64_of {n : Int} (h : (Lit.int .i64 n).wf = true) : I64 n := by
  have := Go.bounds_i64 h
  exact ⟨by omega, by omega⟩
set_option maxRecDepth 100000 in
theorem open_con {fuel : Nat} {cs : List Value} {x : DataW H × List MemPlace} (h : DataW.trod enc Try.prog w 0 (fun _ => true) true fuel 69 cs = some x) : ∃ p : PCon, cs = conC p ∧ conW p := by
  obtain ⟨xs, n, _, rfl, hl, hlen, hf⟩ := DataW.trod_struct Try.underlying69 h
  rw [Try.cellsConst13] at hl
  match cs, hl with
  | [v0, v1, v2], _ =>
    obtain ⟨y0, g0⟩ := some_in (by rw [hlen]; decide) (hf 0 _ rfl)
    replace g0 : DataW.trod enc Try.prog w 0 (fun _ => true) true n 3 (([v0, v1, v2].drop 0).take (Try.prog.cellsOf 3)) = some y0 := g0
    rw [Try.cellsInt13] at g0
    obtain ⟨y1, g1⟩ := some_in (by rw [hlen]; decide) (hf 1 _ rfl)
    replace g1 : DataW.trod enc Try.prog w 0 (fun _ => true) true n 67 (([v0, v1, v2].drop 1).take (Try.prog.cellsOf 67)) = some y1 := g1
    rw [Try.cellsWord13] at g1
    obtain ⟨y2, g2⟩ := some_in (by rw [hlen]; decide) (hf 2 _ rfl)
    replace g2 : DataW.trod enc Try.prog w 0 (fun _ => true) true n 9 (([v0, v1, v2].drop 2).take (Try.prog.cellsOf 9)) = some y2 := g2
    rw [Try.cellsStr13] at g2
    obtain ⟨n0, e0, _, w0⟩ := DataW.trod_int Try.underlying3 g0
    obtain ⟨n1, e1, _, w1⟩ := DataW.trod_int Try.underlying67 g1
    obtain ⟨n2, e2, _, w2⟩ := DataW.trod_string Try.underlying9 g2
    simp only [List.drop_zero, List.drop_succ_cons, List.take_succ_cons, List.take_zero, List.cons.injEq, and_true] at e0 e1 e2
    subst e0 e1 e2
    have b0 := i64_of w0
    have b1 := Go.bounds_u64 w1
    refine ⟨⟨n0, n1.toNat, n2⟩, ?_, ⟨b0, by show n1.toNat < 2 ^ 64; omega, w2⟩⟩
    unfold conC
    simp only
    rw [Int.toNat_of_nonneg b1.1]
set_option maxRecDepth 100000 in
theorem open_ins {fuel : Nat} {cs : List Value} {x : DataW H × List MemPlace} (h : DataW.trod enc Try.prog w 0 (fun _ => true) true fuel 123 cs = some x) : ∃ p : PIns, cs = insC p ∧ insW p := by
  obtain ⟨xs, n, _, rfl, hl, hlen, hf⟩ := DataW.trod_struct Try.underlying123 h
  rw [Try.cellsIns13] at hl
  match cs, hl with
  | [v0, v1, v2], _ =>
    obtain ⟨y0, g0⟩ := some_in (by rw [hlen]; decide) (hf 0 _ rfl)
    replace g0 : DataW.trod enc Try.prog w 0 (fun _ => true) true n 3 (([v0, v1, v2].drop 0).take (Try.prog.cellsOf 3)) = some y0 := g0
    rw [Try.cellsInt13] at g0
    obtain ⟨y1, g1⟩ := some_in (by rw [hlen]; decide) (hf 1 _ rfl)
    replace g1 : DataW.trod enc Try.prog w 0 (fun _ => true) true n 3 (([v0, v1, v2].drop 1).take (Try.prog.cellsOf 3)) = some y1 := g1
    rw [Try.cellsInt13] at g1
    obtain ⟨y2, g2⟩ := some_in (by rw [hlen]; decide) (hf 2 _ rfl)
    replace g2 : DataW.trod enc Try.prog w 0 (fun _ => true) true n 3 (([v0, v1, v2].drop 2).take (Try.prog.cellsOf 3)) = some y2 := g2
    rw [Try.cellsInt13] at g2
    obtain ⟨n0, e0, _, w0⟩ := DataW.trod_int Try.underlying3 g0
    obtain ⟨n1, e1, _, w1⟩ := DataW.trod_int Try.underlying3 g1
    obtain ⟨n2, e2, _, w2⟩ := DataW.trod_int Try.underlying3 g2
    simp only [List.drop_zero, List.drop_succ_cons, List.take_succ_cons, List.take_zero, List.cons.injEq, and_true] at e0 e1 e2
    subst e0 e1 e2
    have b0 := i64_of w0
    have b1 := i64_of w1
    have b2 := i64_of w2
    exact ⟨⟨n0, n1, n2⟩, rfl, ⟨b0, b1, b2⟩⟩
set_option maxRecDepth 100000 in
theorem open_cap {fuel : Nat} {cs : List Value} {x : DataW H × List MemPlace} (h : DataW.trod enc Try.prog w 0 (fun _ => true) true fuel 121 cs = some x) : ∃ p : PCap, cs = capC p ∧ capW p := by
  obtain ⟨xs, n, _, rfl, hl, hlen, hf⟩ := DataW.trod_struct Try.underlying121 h
  rw [Try.cellsCap13] at hl
  match cs, hl with
  | [v0, v1], _ =>
    obtain ⟨y0, g0⟩ := some_in (by rw [hlen]; decide) (hf 0 _ rfl)
    replace g0 : DataW.trod enc Try.prog w 0 (fun _ => true) true n 4 (([v0, v1].drop 0).take (Try.prog.cellsOf 4)) = some y0 := g0
    rw [Try.cellsBool13] at g0
    obtain ⟨y1, g1⟩ := some_in (by rw [hlen]; decide) (hf 1 _ rfl)
    replace g1 : DataW.trod enc Try.prog w 0 (fun _ => true) true n 3 (([v0, v1].drop 1).take (Try.prog.cellsOf 3)) = some y1 := g1
    rw [Try.cellsInt13] at g1
    obtain ⟨n0, e0, _⟩ := DataW.trod_bool Try.underlying4 g0
    obtain ⟨n1, e1, _, w1⟩ := DataW.trod_int Try.underlying3 g1
    simp only [List.drop_zero, List.drop_succ_cons, List.take_succ_cons, List.take_zero, List.cons.injEq, and_true] at e0 e1
    subst e0 e1
    have b1 := i64_of w1
    exact ⟨⟨n0, n1⟩, rfl, b1⟩
set_option maxRecDepth 100000 in
theorem open_hnd {fuel : Nat} {cs : List Value} {x : DataW H × List MemPlace} (h : DataW.trod enc Try.prog w 0 (fun _ => true) true fuel 125 cs = some x) : ∃ p : PHnd, cs = hndC p ∧ hndW p := by
  obtain ⟨xs, n, _, rfl, hl, hlen, hf⟩ := DataW.trod_struct Try.underlying125 h
  rw [Try.cellsHandler13] at hl
  match cs, hl with
  | [v0, v1, v2], _ =>
    obtain ⟨y0, g0⟩ := some_in (by rw [hlen]; decide) (hf 0 _ rfl)
    replace g0 : DataW.trod enc Try.prog w 0 (fun _ => true) true n 3 (([v0, v1, v2].drop 0).take (Try.prog.cellsOf 3)) = some y0 := g0
    rw [Try.cellsInt13] at g0
    obtain ⟨y1, g1⟩ := some_in (by rw [hlen]; decide) (hf 1 _ rfl)
    replace g1 : DataW.trod enc Try.prog w 0 (fun _ => true) true n 3 (([v0, v1, v2].drop 1).take (Try.prog.cellsOf 3)) = some y1 := g1
    rw [Try.cellsInt13] at g1
    obtain ⟨y2, g2⟩ := some_in (by rw [hlen]; decide) (hf 2 _ rfl)
    replace g2 : DataW.trod enc Try.prog w 0 (fun _ => true) true n 3 (([v0, v1, v2].drop 2).take (Try.prog.cellsOf 3)) = some y2 := g2
    rw [Try.cellsInt13] at g2
    obtain ⟨n0, e0, _, w0⟩ := DataW.trod_int Try.underlying3 g0
    obtain ⟨n1, e1, _, w1⟩ := DataW.trod_int Try.underlying3 g1
    obtain ⟨n2, e2, _, w2⟩ := DataW.trod_int Try.underlying3 g2
    simp only [List.drop_zero, List.drop_succ_cons, List.take_succ_cons, List.take_zero, List.cons.injEq, and_true] at e0 e1 e2
    subst e0 e1 e2
    have b0 := i64_of w0
    have b1 := i64_of w1
    have b2 := i64_of w2
    exact ⟨⟨n0, n1, n2⟩, rfl, ⟨b0, b1, b2⟩⟩
set_option maxRecDepth 100000 in
theorem open_flat {α : Type} (d : α) (f : α → List Value) (Q : α → Prop) {T E : TypeId} {k : Nat} (hk : ∀ p, (f p).length = k) (hT : Try.prog.underlying T = some (.slice E)) (hE : Try.prog.cellsOf E = k)
    (hone : ∀ (n : Nat) (cs : List Value) (x : DataW H × List MemPlace), DataW.trod enc Try.prog w 0 (fun _ => true) true n E cs = some x → ∃ p, cs = f p ∧ Q p) (hk0 : 0 < k)
    {fuel : Nat} {v : Value} {x : DataW H × List MemPlace} (h : DataW.trod enc Try.prog w 0 (fun _ => true) true fuel T [v] = some x) : ∃ l : List α, ArgFlat w v k l.length (l.flatMap f) ∧ ∀ p ∈ l, Q p := by
  rcases Go.Deep.open_slice hT h with ⟨hcs, _⟩ | ⟨a, len, cap, m, n, D, Pl, hcs, _, hl, hm, hmm, _, hx⟩
  · simp at hcs
    subst hcs
    exact ⟨[], ⟨none, 0, rfl, by simp, by simp, fun h => by simp at h⟩, by simp⟩
  · simp at hcs
    subst hcs
    simp only [if_true] at hmm
    rw [hE] at hx
    have hinh : Inhabited α := ⟨d⟩
    obtain ⟨g, hg⟩ := Go.Deep.choose_lt (α := α) (n := len) (p := fun i p => w.cells? 0 (a.add (i * k)) k = some (f p) ∧ Q p) (fun i hi => by
      obtain ⟨cs', h1, h2⟩ := hx i (by omega)
      obtain ⟨p, rfl, hq⟩ := hone _ _ _ h2
      exact ⟨p, h1, hq⟩)
    have hlen : ((List.range len).map g).length = len := by simp
    have hfl : (((List.range len).map g).flatMap f).length = len * k := by rw [flat_len hk, hlen]
    have cell : ∀ i c u, i < len → (f (g i))[c]? = some u → w.cell? ((a.add (i * k)).add c) = some u := fun i c u hi hu => by
      obtain ⟨_, _, hc⟩ := World.cells?_some (hg i hi).1
      have hck : c < k := by have := (List.getElem?_eq_some_iff.1 hu).1; rw [hk] at this; exact this
      rw [hc c hck, hu]
    refine ⟨(List.range len).map g, ⟨some a, cap, by rw [hlen], by rw [hlen]; omega, by rw [hlen, hfl], fun h0 => ?_⟩, fun p hp => ?_⟩
    · rw [hlen] at h0
      obtain ⟨u0, hu0⟩ : ∃ u, (f (g 0))[0]? = some u := ⟨_, List.getElem?_eq_getElem (by rw [hk]; exact hk0)⟩
      have z := cell 0 0 u0 h0 hu0
      rw [Nat.zero_mul, show (a.add 0) = a by simp [Addr.add]] at z
      obtain ⟨b, o, rfl⟩ := spot_in z
      refine ⟨b, o, rfl, World.block_lt_of_cell? w _ (by rw [add_plain] at z; exact z), fun j u hj => ?_⟩
      have hjl : j < len * k := by have := (List.getElem?_eq_some_iff.1 hj).1; rw [hfl] at this; exact this
      have hq : j / k < len := Nat.div_lt_of_lt_mul (by rw [Nat.mul_comm]; exact hjl)
      have hr : j % k < k := Nat.mod_lt _ hk0
      have hd : j / k * k + j % k = j := by rw [Nat.mul_comm]; exact Nat.div_add_mod j k
      obtain ⟨u1, hu1⟩ : ∃ u, (f (g (j / k)))[j % k]? = some u := ⟨_, List.getElem?_eq_getElem (by rw [hk]; exact hr)⟩
      have e1 := flat_at hk ((List.range len).map g) (j / k) (j % k) (g (j / k)) u1 (by rw [List.getElem?_map, List.getElem?_range hq]; rfl) hu1
      rw [hd, hj] at e1
      injection e1 with e1
      subst e1
      have y := cell (j / k) (j % k) u hq hu1
      rw [add_plain, add_plain, Nat.add_assoc, hd] at y
      exact y
    · obtain ⟨i, hi, rfl⟩ := List.mem_map.1 hp
      exact (hg i (List.mem_range.1 hi)).2
set_option maxRecDepth 100000 in
theorem open_fun {fuel : Nat} {cs : List Value} {x : DataW H × List MemPlace} (h : DataW.trod enc Try.prog w 0 (fun _ => true) true fuel 65 cs = some x) :
    ∃ (p : PFun) (cv kv hv : Value), cs = funC p cv kv hv ∧ ArgFlat w cv 2 p.caps.length (p.caps.flatMap capC) ∧ ArgFlat w kv 3 p.code.length (p.code.flatMap insC) ∧ ArgFlat w hv 3 p.hnds.length (p.hnds.flatMap hndC) ∧ funW p := by
  obtain ⟨xs, n, _, rfl, hl, hlen, hf⟩ := DataW.trod_struct Try.underlying65 h
  rw [Try.cellsFunc13] at hl
  match cs, hl with
  | [v0, v1, v2, v3, v4], _ =>
    obtain ⟨y0, g0⟩ := some_in (by rw [hlen]; decide) (hf 0 _ rfl)
    obtain ⟨y1, g1⟩ := some_in (by rw [hlen]; decide) (hf 1 _ rfl)
    obtain ⟨y2, g2⟩ := some_in (by rw [hlen]; decide) (hf 2 _ rfl)
    obtain ⟨y3, g3⟩ := some_in (by rw [hlen]; decide) (hf 3 _ rfl)
    obtain ⟨y4, g4⟩ := some_in (by rw [hlen]; decide) (hf 4 _ rfl)
    replace g0 : DataW.trod enc Try.prog w 0 (fun _ => true) true n 3 (([v0, v1, v2, v3, v4].drop 0).take (Try.prog.cellsOf 3)) = some y0 := g0
    rw [Try.cellsInt13] at g0
    replace g1 : DataW.trod enc Try.prog w 0 (fun _ => true) true n 3 (([v0, v1, v2, v3, v4].drop 1).take (Try.prog.cellsOf 3)) = some y1 := g1
    rw [Try.cellsInt13] at g1
    replace g2 : DataW.trod enc Try.prog w 0 (fun _ => true) true n 61 (([v0, v1, v2, v3, v4].drop 2).take (Try.prog.cellsOf 61)) = some y2 := g2
    rw [Try.cellsCapS13] at g2
    replace g2 : DataW.trod enc Try.prog w 0 (fun _ => true) true n 61 [v2] = some y2 := g2
    replace g3 : DataW.trod enc Try.prog w 0 (fun _ => true) true n 62 (([v0, v1, v2, v3, v4].drop 3).take (Try.prog.cellsOf 62)) = some y3 := g3
    rw [Try.cellsInsS13] at g3
    replace g3 : DataW.trod enc Try.prog w 0 (fun _ => true) true n 62 [v3] = some y3 := g3
    replace g4 : DataW.trod enc Try.prog w 0 (fun _ => true) true n 63 (([v0, v1, v2, v3, v4].drop 4).take (Try.prog.cellsOf 63)) = some y4 := g4
    rw [Try.cellsHandlerS13] at g4
    replace g4 : DataW.trod enc Try.prog w 0 (fun _ => true) true n 63 [v4] = some y4 := g4
    obtain ⟨n0, e0, _, w0⟩ := DataW.trod_int Try.underlying3 g0
    obtain ⟨n1, e1, _, w1⟩ := DataW.trod_int Try.underlying3 g1
    obtain ⟨l2, k2, q2⟩ := open_flat ⟨false, 0⟩ capC capW capC_len Try.underlying61 Try.cellsCap13 (fun _ _ _ h => open_cap h) (by decide) g2
    obtain ⟨l3, k3, q3⟩ := open_flat ⟨0, 0, 0⟩ insC insW insC_len Try.underlying62 Try.cellsIns13 (fun _ _ _ h => open_ins h) (by decide) g3
    obtain ⟨l4, k4, q4⟩ := open_flat ⟨0, 0, 0⟩ hndC hndW hndC_len Try.underlying63 Try.cellsHandler13 (fun _ _ _ h => open_hnd h) (by decide) g4
    simp only [List.drop_zero, List.drop_succ_cons, List.take_succ_cons, List.take_zero, List.cons.injEq, and_true] at e0 e1
    subst e0 e1
    exact ⟨⟨n0, n1, l2, l3, l4⟩, v2, v3, v4, rfl, k2, k3, k4, i64_of w0, i64_of w1, q2, q3, q4⟩
set_option maxRecDepth 100000 in
theorem open_arg_funs {fuel : Nat} {v : Value} {x : DataW H × List MemPlace} (h : DataW.trod enc Try.prog w 0 (fun _ => true) true fuel 22 [v] = some x) : ∃ l, ArgFuns w v l ∧ ∀ p ∈ l, funW p := by
  rcases Go.Deep.open_slice Try.underlying22 h with ⟨hcs, _⟩ | ⟨a, len, cap, m, n, D, Pl, hcs, _, hl, hm, hmm, _, hx⟩
  · simp at hcs
    subst hcs
    exact ⟨[], ⟨none, 0, rfl, by simp, fun h => by simp at h⟩, by simp⟩
  · simp at hcs
    subst hcs
    simp only [if_true] at hmm
    rw [Try.cellsFunc13] at hx
    have hinh : Inhabited PFun := ⟨⟨0, 0, [], [], []⟩⟩
    obtain ⟨f, hf⟩ := Go.Deep.choose_lt (α := PFun) (n := len) (p := fun i p => ∃ cv kv hv, w.cells? 0 (a.add (i * 5)) 5 = some (funC p cv kv hv) ∧ ArgFlat w cv 2 p.caps.length (p.caps.flatMap capC) ∧ ArgFlat w kv 3 p.code.length (p.code.flatMap insC) ∧ ArgFlat w hv 3 p.hnds.length (p.hnds.flatMap hndC) ∧ funW p) (fun i hi => by
      obtain ⟨cs', h1, h2⟩ := hx i (by omega)
      obtain ⟨p, cv, kv, hv, rfl, k1, k2, k3, k4⟩ := open_fun h2
      exact ⟨p, cv, kv, hv, h1, k1, k2, k3, k4⟩)
    have hlen : ((List.range len).map f).length = len := by simp
    have cell : ∀ i, i < len → ∃ cv kv hv, (∀ k u, (funC (f i) cv kv hv)[k]? = some u → w.cell? ((a.add (i * 5)).add k) = some u) ∧ ArgFlat w cv 2 (f i).caps.length ((f i).caps.flatMap capC) ∧ ArgFlat w kv 3 (f i).code.length ((f i).code.flatMap insC) ∧ ArgFlat w hv 3 (f i).hnds.length ((f i).hnds.flatMap hndC) := fun i hi => by
      obtain ⟨cv, kv, hv, h1, h2, h3, h4, _⟩ := hf i hi
      obtain ⟨_, hl8, hc⟩ := World.cells?_some h1
      refine ⟨cv, kv, hv, fun k u hk => ?_, h2, h3, h4⟩
      have hk8 : k < 5 := (List.getElem?_eq_some_iff.1 hk).1
      rw [hc k hk8, hk]
    refine ⟨(List.range len).map f, ⟨some a, cap, by rw [hlen], by rw [hlen]; omega, fun h0 => ?_⟩, fun p hp => ?_⟩
    · rw [hlen] at h0
      obtain ⟨_, _, _, c0, _⟩ := cell 0 h0
      obtain ⟨b, o, rfl⟩ : ∃ b o, a = ⟨b, o, none⟩ := by
        have := c0 0 _ rfl
        rw [Nat.zero_mul, show (a.add 0) = a by simp [Addr.add]] at this
        exact spot_in this
      refine ⟨b, o, rfl, ?_, fun j p hj => ?_⟩
      · have := c0 0 _ rfl
        rw [Nat.zero_mul, add_plain, add_plain] at this
        exact World.block_lt_of_cell? w _ this
      · have hjl : j < len := by
          have := (List.getElem?_eq_some_iff.1 hj).1
          rwa [hlen] at this
        rw [List.getElem?_map, List.getElem?_range hjl] at hj
        simp only [Option.map_some, Option.some.injEq] at hj
        subst hj
        obtain ⟨cv, kv, hv, hc, h2, h3, h4⟩ := cell j hjl
        have hc' : ∀ k u, (funC (f j) cv kv hv)[k]? = some u → w.cell? ⟨b, o + j * 5 + k, none⟩ = some u := fun k u hk => by
          have := hc k u hk
          rwa [add_plain, add_plain] at this
        exact ⟨cv, kv, hv, h2, h3, h4, hc' 0 _ rfl, hc' 1 _ rfl, hc' 2 _ rfl, hc' 3 _ rfl, hc' 4 _ rfl⟩
    · obtain ⟨i, hi, rfl⟩ := List.mem_map.1 hp
      obtain ⟨_, _, _, _, _, _, _, h5⟩ := hf i (List.mem_range.1 hi)
      exact h5
set_option maxRecDepth 100000 in
theorem open_img {fuel : Nat} {cs : List Value} {x : DataW H × List MemPlace} (h : DataW.trod enc Try.prog w 0 (fun _ => true) true fuel 25 cs = some x) :
    ∃ (p : PImg) (fv cv : Value), cs = [fv, cv] ∧ ArgImg w fv cv p ∧ imgW p := by
  obtain ⟨xs, n, _, rfl, hl, hlen, hf⟩ := DataW.trod_struct Try.underlying25 h
  rw [Try.cellsImage13] at hl
  match cs, hl with
  | [v0, v1], _ =>
    obtain ⟨y0, g0⟩ := some_in (by rw [hlen]; decide) (hf 0 _ rfl)
    obtain ⟨y1, g1⟩ := some_in (by rw [hlen]; decide) (hf 1 _ rfl)
    replace g0 : DataW.trod enc Try.prog w 0 (fun _ => true) true n 22 (([v0, v1].drop 0).take (Try.prog.cellsOf 22)) = some y0 := g0
    rw [Try.cellsFuncS13] at g0
    replace g0 : DataW.trod enc Try.prog w 0 (fun _ => true) true n 22 [v0] = some y0 := g0
    replace g1 : DataW.trod enc Try.prog w 0 (fun _ => true) true n 23 (([v0, v1].drop 1).take (Try.prog.cellsOf 23)) = some y1 := g1
    rw [Try.cellsConstS13] at g1
    replace g1 : DataW.trod enc Try.prog w 0 (fun _ => true) true n 23 [v1] = some y1 := g1
    obtain ⟨l0, k0, q0⟩ := open_arg_funs g0
    obtain ⟨l1, k1, q1⟩ := open_flat ⟨0, 0, ByteArray.empty⟩ conC conW conC_len Try.underlying23 Try.cellsConst13 (fun _ _ _ h => open_con h) (by decide) g1
    exact ⟨⟨l0, l1⟩, v0, v1, rfl, ⟨k0, k1⟩, q0, q1⟩
end Go.Proofs.Ytkmmojpfcklocaa
