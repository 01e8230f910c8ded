/-
  Part 15 of what is proved of drawn right trees.
-/
import Derived.Test.YtedhfdgcofboeaaPan
import Derived.Test.YtedhfdgcofboeaaPaa
import Derived.Deep.RegionLaw
import Derived.Test.YtedhfdgcofboeaaPaj
import Derived.Test.YtedhfdgcofboeaaRows
import Derived.Deep.QuietTactic
import Derived.BigQuiet
import Derived.Lib.QuietBelow
import Derived.Deep.RegionHeld3

namespace Go.Proofs.Ytedhfdgcofboeaa
open Go.RowKit
set_option linter.unusedVariables false
def FApart (fs : List FSh) : Prop := ∀ (q1 q2 : Nat) (f1 f2 : FSh), fs[q1]? = some f1 → fs[q2]? = some f2 → q1 ≠ q2 → (f1.cv.ownBlock = none ∨ f1.cv.ownBlock ≠ f2.cv.ownBlock) ∧ (f1.kv.ownBlock = none ∨ f1.kv.ownBlock ≠ f2.kv.ownBlock) ∧ (f1.hv.ownBlock = none ∨ f1.hv.ownBlock ≠ f2.hv.ownBlock)
def FRow (w : World) (B g c : Nat) (fs : List FSh) (k j : Nat) : Prop := ∃ xs, w.ownsRow B 46 5 (.slice (some ⟨g, 0, none⟩) fs.length c) fs.length xs ∧ ∀ q f, fs[q]? = some f → xs[q * 5 + 2]? = some f.cv ∧ xs[q * 5 + 3]? = some f.kv ∧ xs[q * 5 + 4]? = some f.hv ∧ (q < j → xs[q * 5]? = some (.int .i64 (offK fs k q : Nat)) ∧ xs[q * 5 + 1]? = some (.int .i64 ((offK fs k q : Nat) + 1)))
def PRow (w : World) (B : Nat) (fs : List FSh) (k j s : Nat) : Prop := ∀ q f, fs[q]? = some f → ∃ y1 y2 y3, w.ownsRow B 73 2 f.cv f.nc y1 ∧ w.ownsRow B 75 3 f.kv f.nk y2 ∧ w.ownsRow B 77 3 f.hv f.nh y3 ∧ ((q < j ∨ q = j ∧ 0 < s) → y1 = mkv 2 capG (offK fs k q + 2) (f.nc * 2)) ∧ ((q < j ∨ q = j ∧ 1 < s) → y2 = mkv 3 numG (offK fs k q + 2 + f.nc * 2) (f.nk * 3)) ∧ ((q < j ∨ q = j ∧ 2 < s) → y3 = mkv 3 numG (offK fs k q + 2 + f.nc * 2 + f.nk * 3) (f.nh * 3))
theorem row_other {w w' : World} {B B2 e e2 k k2 n n2 : Nat} {v v2 : Value} {xs xs2 : List Value} (h : w.ownsRow B e k v n xs) (h2 : w.ownsRow B2 e2 k2 v2 n2 xs2) (hne : e2 ≠ e) (hg : w.grownBy w' v.ownBlock) : w'.ownsRow B2 e2 k2 v2 n2 xs2 := h2.kept hg (by
  cases hb : v2.ownBlock with
  | none => exact .inl rfl
  | some G =>
    refine .inr fun e1 => ?_
    obtain ⟨_, cs, fr, hG⟩ := own_type h2 hb
    exact row_apart h hG hne e1.symm)
theorem PRow.next {w : World} {B : Nat} {fs : List FSh} {k j : Nat} (h : PRow w B fs k j 3) : PRow w B fs k (j + 1) 0 := fun q f hq => by
  obtain ⟨y1, y2, y3, a1, a2, a3, b1, b2, b3⟩ := h q f hq
  exact ⟨y1, y2, y3, a1, a2, a3, fun hh => b1 (by omega), fun hh => b2 (by omega), fun hh => b3 (by omega)⟩
theorem PRow.put {w : World} {B g o : Nat} {fs : List FSh} {k j s : Nat} {u : Value} {cs : Array Value} {fr : Nat × Nat} (h : PRow w B fs k j s) (hG : w.heap[g]? = some (.cells cs 46 fr)) : PRow (w.setCell ⟨g, o, none⟩ u) B fs k j s := fun q f hq => by
  obtain ⟨y1, y2, y3, a1, a2, a3, b⟩ := h q f hq
  exact ⟨y1, y2, y3, row_put15 a1 (row_apart a1 hG (by decide)), row_put15 a2 (row_apart a2 hG (by decide)), row_put15 a3 (row_apart a3 hG (by decide)), b⟩
theorem PRow.markC {w w' : World} {B : Nat} {fs : List FSh} {k j : Nat} {f : FSh} (h : PRow w B fs k j 0) (hA : FApart fs) (hf : fs[j]? = some f) (hg : w.grownBy w' f.cv.ownBlock) (ho : w'.ownsRow B 73 2 f.cv f.nc (mkv 2 capG (offK fs k j + 2) (f.nc * 2))) : PRow w' B fs k j 1 := fun q f2 hq => by
  obtain ⟨z1, z2, z3, m1, m2, m3, _⟩ := h j f hf
  obtain ⟨y1, y2, y3, a1, a2, a3, b1, b2, b3⟩ := h q f2 hq
  by_cases hj : q = j
  · subst hj
    rw [hf] at hq
    injection hq with hq
    subst hq
    exact ⟨_, y2, y3, ho, row_other m1 a2 (by decide) hg, row_other m1 a3 (by decide) hg, fun _ => rfl, fun hh => b2 (by omega), fun hh => b3 (by omega)⟩
  · exact ⟨y1, y2, y3, a1.kept hg (((hA q j f2 f hq hf hj).1).imp id id), row_other m1 a2 (by decide) hg, row_other m1 a3 (by decide) hg, fun hh => b1 (by omega), fun hh => b2 (by omega), fun hh => b3 (by omega)⟩
theorem PRow.markK {w w' : World} {B : Nat} {fs : List FSh} {k j : Nat} {f : FSh} (h : PRow w B fs k j 1) (hA : FApart fs) (hf : fs[j]? = some f) (hg : w.grownBy w' f.kv.ownBlock) (ho : w'.ownsRow B 75 3 f.kv f.nk (mkv 3 numG (offK fs k j + 2 + f.nc * 2) (f.nk * 3))) : PRow w' B fs k j 2 := fun q f2 hq => by
  obtain ⟨z1, z2, z3, m1, m2, m3, _⟩ := h j f hf
  obtain ⟨y1, y2, y3, a1, a2, a3, b1, b2, b3⟩ := h q f2 hq
  by_cases hj : q = j
  · subst hj
    rw [hf] at hq
    injection hq with hq
    subst hq
    exact ⟨y1, _, y3, row_other m2 a1 (by decide) hg, ho, row_other m2 a3 (by decide) hg, fun hh => b1 (by omega), fun _ => rfl, fun hh => b3 (by omega)⟩
  · exact ⟨y1, y2, y3, row_other m2 a1 (by decide) hg, a2.kept hg (((hA q j f2 f hq hf hj).2.1).imp id id), row_other m2 a3 (by decide) hg, fun hh => b1 (by omega), fun hh => b2 (by omega), fun hh => b3 (by omega)⟩
theorem PRow.markH {w w' : World} {B : Nat} {fs : List FSh} {k j : Nat} {f : FSh} (h : PRow w B fs k j 2) (hA : FApart fs) (hf : fs[j]? = some f) (hg : w.grownBy w' f.hv.ownBlock) (ho : w'.ownsRow B 77 3 f.hv f.nh (mkv 3 numG (offK fs k j + 2 + f.nc * 2 + f.nk * 3) (f.nh * 3))) : PRow w' B fs k j 3 := fun q f2 hq => by
  obtain ⟨z1, z2, z3, m1, m2, m3, _⟩ := h j f hf
  obtain ⟨y1, y2, y3, a1, a2, a3, b1, b2, b3⟩ := h q f2 hq
  by_cases hj : q = j
  · subst hj
    rw [hf] at hq
    injection hq with hq
    subst hq
    exact ⟨y1, y2, _, row_other m3 a1 (by decide) hg, row_other m3 a2 (by decide) hg, ho, fun hh => b1 (by omega), fun hh => b2 (by omega), fun _ => rfl⟩
  · exact ⟨y1, y2, y3, row_other m3 a1 (by decide) hg, row_other m3 a2 (by decide) hg, a3.kept hg (((hA q j f2 f hq hf hj).2.2).imp id id), fun hh => b1 (by omega), fun hh => b2 (by omega), fun hh => b3 (by omega)⟩
def OthersKept (w w' : World) : Prop := ∀ (X : Nat) (cs : Array Value) (T : TypeId) (fr : Nat × Nat), T ≠ 46 → T ≠ 73 → T ≠ 75 → T ≠ 77 → w.heap[X]? = some (.cells cs T fr) → w'.heap[X]? = some (.cells cs T fr)
theorem OthersKept.refl (w : World) : OthersKept w w := fun X cs T fr _ _ _ _ h => h
theorem OthersKept.row {w0 w w' : World} {B e k n : Nat} {v : Value} {xs : List Value} (h : OthersKept w0 w) (hr : w.ownsRow B e k v n xs) (he : e = 46 ∨ e = 73 ∨ e = 75 ∨ e = 77) (hg : w.grownBy w' v.ownBlock) : OthersKept w0 w' := fun X cs T fr t1 t2 t3 t4 hX => by
  have hX2 := h X cs T fr t1 t2 t3 t4 hX
  have hT : T ≠ e := by rcases he with rfl | rfl | rfl | rfl <;> assumption
  exact (hg.block X (box_lt hX2) (fun e1 => row_apart hr hX2 hT e1.symm)).trans hX2
theorem FRow.mark {w : World} {B g c : Nat} {fs : List FSh} {k j : Nat} {U : Nat} (h : FRow w B g c fs k j) (hj : j < fs.length) (hU : U = offK fs k j) : FRow ((w.setCell ⟨g, j * 5, none⟩ (.int .i64 (U : Int))).setCell ⟨g, j * 5 + 1, none⟩ (.int .i64 ((U : Int) + 1))) B g c fs k (j + 1) := by
  obtain ⟨xs, h1, h2⟩ := h
  have s0 := World.ownsRow.stored h1 (j * 5) (.int .i64 (U : Int))
  have s1 := World.ownsRow.stored s0.1 (j * 5 + 1) (.int .i64 ((U : Int) + 1))
  have hl := h1.1
  refine ⟨_, s1.1, fun q f hq => ?_⟩
  obtain ⟨a1, a2, a3, a4⟩ := h2 q f hq
  refine ⟨?_, ?_, ?_, fun hlt => ?_⟩
  · rw [List.getElem?_set_ne (by omega), List.getElem?_set_ne (by omega)]; exact a1
  · rw [List.getElem?_set_ne (by omega), List.getElem?_set_ne (by omega)]; exact a2
  · rw [List.getElem?_set_ne (by omega), List.getElem?_set_ne (by omega)]; exact a3
  · by_cases e : q = j
    · subst e
      rw [← hU]
      refine ⟨?_, ?_⟩
      · rw [List.getElem?_set_ne (by omega), List.getElem?_set_self (by omega)]
      · rw [List.getElem?_set_self (by simp only [List.length_set]; omega)]
    · obtain ⟨b1, b2⟩ := a4 (by omega)
      refine ⟨?_, ?_⟩
      · rw [List.getElem?_set_ne (by omega), List.getElem?_set_ne (by omega)]; exact b1
      · rw [List.getElem?_set_ne (by omega), List.getElem?_set_ne (by omega)]; exact b2
theorem FRow.other {w w' : World} {B B2 e k2 n g c : Nat} {fs : List FSh} {k j : Nat} {v : Value} {ys : List Value} (h : FRow w B g c fs k j) (hr : w.ownsRow B2 e k2 v n ys) (he : 46 ≠ e) (hg : w.grownBy w' v.ownBlock) : FRow w' B g c fs k j := by
  obtain ⟨xs, h1, h2⟩ := h
  exact ⟨xs, row_other hr h1 he hg, h2⟩
theorem FRow.heap {w : World} {B g c : Nat} {fs : List FSh} {k j : Nat} (h : FRow w B g c fs k j) : ∃ cs, w.heap[g]? = some (.cells cs 46 (0, 0)) := by
  obtain ⟨xs, h1, _⟩ := h
  rcases h1.2 with ⟨e1, _⟩ | ⟨g', cap, cur, e1, _, hg, _⟩
  · simp at e1
  · simp only [Value.slice.injEq, Option.some.injEq, Addr.mk.injEq] at e1
    obtain ⟨⟨rfl, _⟩, _⟩ := e1
    exact ⟨cur, hg⟩
theorem FRow.cells {w : World} {B g c : Nat} {fs : List FSh} {k j q : Nat} {f : FSh} (h : FRow w B g c fs k j) (hq : fs[q]? = some f) : w.cell? ⟨g, q * 5 + 2, none⟩ = some f.cv ∧ w.cell? ⟨g, q * 5 + 3, none⟩ = some f.kv ∧ w.cell? ⟨g, q * 5 + 4, none⟩ = some f.hv := by
  obtain ⟨xs, h1, h2⟩ := h
  obtain ⟨a1, a2, a3, _⟩ := h2 q f hq
  have hc := h1.cells (g := g) rfl
  have hadd : ∀ j, (⟨g, 0, none⟩ : Addr).add j = ⟨g, j, none⟩ := fun j => by unfold Addr.add; split <;> simp_all
  refine ⟨?_, ?_, ?_⟩
  · rw [← hadd]; exact hc _ _ a1
  · rw [← hadd]; exact hc _ _ a2
  · rw [← hadd]; exact hc _ _ a3
set_option maxHeartbeats 8000000 in
set_option maxRecDepth 100000 in
theorem markFuncS_f (B g c : Nat) (fs : List FSh) (k : Nat) (w : World) (hf : Few fs k) (hA : FApart fs) (hn0 : 0 < fs.length) (hR : FRow w B g c fs k 0) (hP : PRow w B fs k 0 0) :
    Calls Try.prog 25 #[.slice (some ⟨g, 0, none⟩) fs.length c, .int .i64 k] w fun e w' => e = .returned (.int .i64 (offK fs k fs.length : Nat)) ∧ FRow w' B g c fs k fs.length ∧ PRow w' B fs k fs.length 0 ∧ Below B w w' ∧ OthersKept w w' := by
  obtain ⟨hn, hK⟩ := hf
  obtain ⟨n, en⟩ : ∃ n, fs.length = n := ⟨_, rfl⟩
  have EN : Hid (fs.length = n) := en
  rw [en] at hn hK hn0 ⊢
  have HK : Hid (∀ q, offK fs k q ≤ 8000000) := fun q => by
    have := offK_le fs k q
    rw [en] at this
    omega
  obtain ⟨Z, hZ⟩ : ∃ z, offK fs k n = z := ⟨_, rfl⟩
  have HZ : Hid (offK fs k n = Z) := hZ
  rw [hZ]
  have HA : Hid (FApart fs) := hA
  have HR : Hid (FRow w B g c fs k 0) := hR
  have HP : Hid (PRow w B fs k 0 0) := hP
  clear en hZ hK hA hR hP
  go_enter Try.func25, Try.ntmps25
  go_wp2
  go_loopw [1, 5] (fun y j wr => ∃ (i U : Nat), i ≤ n ∧ y = .int .i64 (U : Int) ∧ j = .int .i64 i ∧ Hid (U = offK fs k i) ∧ Hid (FRow wr B g c fs k i) ∧ Hid (PRow wr B fs k i 0) ∧ Hid (Below B w wr) ∧ Hid (OthersKept w wr)) (fun _ j _ => n - (intOf j).toNat)
  case atStart => exact ⟨0, k, Nat.zero_le _, rfl, rfl, (offK_0 fs k).symm, HR, HP, Below.refl _ _, OthersKept.refl _⟩
  case round =>
    clear HR HP
    obtain ⟨i, U, hi, rfl, rfl, HU, HR, HP, HB, HT⟩ := hrel
    have hU : U ≤ 8000000 := by rw [HU.out]; exact HK.out i
    by_cases hin : i < n
    · obtain ⟨f, hfq⟩ : ∃ f, fs[i]? = some f := ⟨_, List.getElem?_eq_getElem (by have := EN.out; omega)⟩
      have HFQ : Hid (fs[i]? = some f) := hfq
      have hmore := offK_more (k := k) hfq
      have hle := HK.out (i + 1)
      rw [hmore, ← HU.out] at hle
      unfold FSh.wid at hle
      have HU2 : Hid (U + 2 + f.nc * 2 + f.nk * 3 + f.nh * 3 = offK fs k (i + 1)) := by
        show _ = _
        rw [hmore, ← HU.out]
        unfold FSh.wid
        omega
      obtain ⟨xs, hrow, hxs⟩ := HR.out
      have hrow' := hrow
      rw [EN.out] at hrow'
      obtain ⟨⟨u0, hu0⟩, hf0⟩ := row_cell hrow' (i * 5) (by omega)
      obtain ⟨⟨u1, hu1⟩, hf1⟩ := row_cell hrow' (i * 5 + 1) (by omega)
      obtain ⟨a1, a2, a3, _⟩ := hxs i f hfq
      obtain ⟨cs, hgh⟩ := HR.out.heap
      have hBg : B ≤ g := (own_type hrow rfl).1
      have HR2 : Hid (FRow _ B g c fs k (i + 1)) := HR.out.mark (U := U) (by rw [EN.out]; exact hin) HU.out
      have s0 := World.ownsRow.stored hrow (i * 5) (.int .i64 (U : Int))
      have s1 := World.ownsRow.stored s0.1 (i * 5 + 1) (.int .i64 ((U : Int) + 1))
      have hgh2 := heap_setCell_same wr g (i * 5) cs 46 (.int .i64 (U : Int)) hgh
      have HP2 : Hid (PRow _ B fs k i 0) := (HP.out.put (o := i * 5) (u := .int .i64 (U : Int)) hgh).put (o := i * 5 + 1) (u := .int .i64 ((U : Int) + 1)) hgh2
      have HB2 : Hid (Below B w _) := (HB.out.setCell (p := ⟨g, i * 5, none⟩) hBg (.int .i64 (U : Int))).setCell (p := ⟨g, i * 5 + 1, none⟩) hBg (.int .i64 ((U : Int) + 1))
      have HT2 : Hid (OthersKept w _) := (HT.out.row hrow (.inl rfl) s0.2).row s0.1 (.inl rfl) s1.2
      have hii : (i : Int) < (n : Int) := by omega
      have hi0 : (0 : Int) ≤ (i : Int) := by omega
      obtain ⟨W2, hW2⟩ : ∃ W, (wr.setCell ⟨g, i * 5, none⟩ (.int .i64 (U : Int))).setCell ⟨g, i * 5 + 1, none⟩ (.int .i64 ((U : Int) + 1)) = W := ⟨_, rfl⟩
      rw [hW2] at HR2 HP2 HB2 HT2
      have HW2 : Hid (_ = W2) := hW2
      clear hW2 s0 s1 hgh2 hgh hmore HR HP HB HT hrow hrow' hxs a1 a2 a3 hfq
      go_upto_region 8 with fail
      rw [HW2.out]
      clear HW2 hu0 hu1 hf0 hf1
      obtain ⟨f1, f2, f3, nc, nk, nh⟩ := f
      simp only at hle HU2
      obtain ⟨y1, y2, y3, m1, m2, m3, _⟩ := HP2.out i _ HFQ.out
      have m1' : W2.ownsRow B 73 2 f1 nc y1 := m1
      have m2' : W2.ownsRow B 75 3 f2 nk y2 := m2
      have m3' : W2.ownsRow B 77 3 f3 nh y3 := m3
      clear m1 m2 m3
      obtain ⟨x1, d1, rfl⟩ := row_slice m1'
      obtain ⟨x2, d2, rfl⟩ := row_slice m2'
      obtain ⟨x3, d3, rfl⟩ := row_slice m3'
      obtain ⟨cs2, hg2⟩ := HR2.out.heap
      have hsz2 : B ≤ W2.heap.size := Nat.le_of_lt (Nat.lt_of_le_of_lt hBg (box_lt hg2))
      obtain ⟨c2, _, _⟩ := HR2.out.cells HFQ.out
      have c2' : W2.cell? ⟨g, i * 5 + 2, none⟩ = some (.slice x1 nc d1) := c2
      have q1 := markCapS_f B _ nc (U + 2) y1 W2 m1' (by omega) (by omega)
      rw [show (((U + 2 : Nat) : Nat) : Int) = (U : Int) + 1 + 1 by omega] at q1
      clear c2 hg2
      go_wp2_with fail
      refine q1.mono ?_
      rintro e w3 ⟨rfl, o3, g3⟩
      have HR3 : Hid (FRow w3 B g c fs k (i + 1)) := HR2.out.other m1' (by decide) g3
      have HP3 : Hid (PRow w3 B fs k i 1) := HP2.out.markC HA.out HFQ.out g3 (by rw [← HU.out]; exact o3)
      have HB3 : Hid (Below B w w3) := HB2.out.grown g3 hsz2 (fun Y hY => (own_type m1' hY).1)
      have HT3 : Hid (OthersKept w w3) := HT2.out.row m1' (.inr (.inl rfl)) g3
      have hsz3 : B ≤ w3.heap.size := Nat.le_trans hsz2 g3.size
      have n2' := row_other m1' m2' (by decide) g3
      have n3' := row_other m1' m3' (by decide) g3
      obtain ⟨_, c3, _⟩ := HR3.out.cells HFQ.out
      have c3' : w3.cell? ⟨g, i * 5 + 3, none⟩ = some (.slice x2 nk d2) := c3
      have q2 := markInsS_f B _ nk (U + 2 + nc * 2) y2 w3 n2' (by omega) (by omega)
      obtain ⟨V1, hV1⟩ : ∃ V, U + 2 + nc * 2 = V := ⟨_, rfl⟩
      rw [hV1] at q2
      have HV1 : Hid (U + 2 + nc * 2 = V1) := hV1
      rw [hV1]
      clear c3 c2' q1 o3 g3 m1' m2' m3' HR2 HP2 HB2 HT2 hsz2
      go_wp2_with fail
      refine q2.mono ?_
      rintro e w4 ⟨rfl, o4, g4⟩
      have HR4 : Hid (FRow w4 B g c fs k (i + 1)) := HR3.out.other n2' (by decide) g4
      have HP4 : Hid (PRow w4 B fs k i 2) := HP3.out.markK HA.out HFQ.out g4 (by rw [← HU.out, HV1.out]; exact o4)
      have HB4 : Hid (Below B w w4) := HB3.out.grown g4 hsz3 (fun Y hY => (own_type n2' hY).1)
      have HT4 : Hid (OthersKept w w4) := HT3.out.row n2' (.inr (.inr (.inl rfl))) g4
      have hsz4 : B ≤ w4.heap.size := Nat.le_trans hsz3 g4.size
      have k3' := row_other n2' n3' (by decide) g4
      obtain ⟨_, _, c4⟩ := HR4.out.cells HFQ.out
      have c4' : w4.cell? ⟨g, i * 5 + 4, none⟩ = some (.slice x3 nh d3) := c4
      have q3 := markHandlerS_f B _ nh (V1 + nk * 3) y3 w4 k3' (by omega) (by omega)
      obtain ⟨V2, hV2⟩ : ∃ V, V1 + nk * 3 = V := ⟨_, rfl⟩
      rw [hV2] at q3
      have HV2 : Hid (V1 + nk * 3 = V2) := hV2
      rw [hV2]
      clear c4 c3' q2 o4 g4 n2' n3' HR3 HP3 HB3 HT3 hsz3
      go_wp2_with fail
      refine q3.mono ?_
      rintro e w5 ⟨rfl, o5, g5⟩
      have HR5 : Hid (FRow w5 B g c fs k (i + 1)) := HR4.out.other k3' (by decide) g5
      have HP5 : Hid (PRow w5 B fs k (i + 1) 0) := (HP4.out.markH HA.out HFQ.out g5 (by rw [← HU.out, HV1.out, HV2.out]; exact o5)).next
      have HB5 : Hid (Below B w w5) := HB4.out.grown g5 hsz4 (fun Y hY => (own_type k3' hY).1)
      have HT5 : Hid (OthersKept w w5) := HT4.out.row k3' (.inr (.inr (.inr rfl))) g5
      have HU3 : Hid (V2 + nh * 3 = offK fs k (i + 1)) := by
        show _ = _
        rw [← HU2.out, ← HV2.out, ← HV1.out]
      obtain ⟨V3, hV3⟩ : ∃ V, V2 + nh * 3 = V := ⟨_, rfl⟩
      rw [hV3] at HU3 ⊢
      clear c4' q3 o5 g5 k3' HR4 HP4 HB4 HT4 hsz4 hV3 hV2 hV1
      go_wp2
      go_roundw
      case rel => exact ⟨i + 1, V3, by omega, rfl, by go_num, HU3, HR5.out, HP5.out, HB5.out, HT5.out⟩
      case measure => simp [intOf]; omega
    · have e : i = n := by omega
      subst e
      have hUZ : U = Z := by rw [HU.out, HZ.out]
      subst hUZ
      go_wp2
      go_ret
      exact ⟨rfl, HR.out, HP.out, HB.out, HT.out⟩
end Go.Proofs.Ytedhfdgcofboeaa
namespace Go.Proofs.Ytedhfdgcofboeaa
open Go.RowKit
theorem cells_new (w : World) (ys : List Value) (t : TypeId) : ∀ j u, ys[j]? = some u → (w.alloc (.cells ys.toArray t)).cell? ((⟨w.heap.size, 0, none⟩ : Addr).add j) = some u := by
  intro j u hj
  have hp : (⟨w.heap.size, 0, none⟩ : Addr).add j = ⟨w.heap.size, j, none⟩ := by unfold Addr.add; split <;> simp_all
  rw [hp]
  have h := heap_alloc_new w (.cells ys.toArray t)
  unfold World.cell?
  simp only [h]
  simpa using hj
end Go.Proofs.Ytedhfdgcofboeaa
namespace Go.Proofs.Ytedhfdgcofboeaa
open Go.RowKit
set_option linter.unusedVariables false
theorem conv_new {P : Program} (w : World) {e src dst : TypeId} (y : Int) (hs : P.underlying src = some (.slice e)) (he : P.underlying e = some (.int .u8)) (hd : P.underlying dst = some .string) :
    (convert src dst (.slice (some ⟨w.heap.size, 0, none⟩) 1 1)).run P (w.alloc (.cells #[.int .u8 y] e)) = .ok (.string (strOfNums [y])) (w.alloc (.cells #[.int .u8 y] e)) := by
  refine run_convert_bytes_arg _ src e hs he w.heap.size 0 1 1 [y] rfl (fun i hi => ?_) dst hd
  obtain rfl : i = 0 := by omega
  exact cells_new w [.int .u8 y] e 0 _ rfl
end Go.Proofs.Ytedhfdgcofboeaa
namespace Go.Proofs.Ytedhfdgcofboeaa
open Go.RowKit Go.Sort
set_option linter.unusedVariables false
def markOf (k : Nat) : ByteArray := ⟨(109 :: Lib.decDigits k).toArray⟩
theorem str_byte (a : Nat) (h : a < 256) (l : List UInt8) : strOfNums [(a : Int)] ++ (⟨l.toArray⟩ : ByteArray) = ⟨(UInt8.ofNat a :: l).toArray⟩ := by
  apply ByteArray.ext
  rw [ByteArray.data_append]
  simp [strOfNums]
set_option maxHeartbeats 1000000 in
set_option maxRecDepth 100000 in
theorem markText_any (u : Nat) (w : World) (h0 : 1 ≤ u) (hu : u ≤ 1000000000) :
    Calls Try.prog 64 #[.int .i64 u] w fun e w' => e = .returned (.string (markOf u)) ∧ Below w.heap.size w w' := by
  go_enter Try.func64, Try.ntmps64
  go_wp2
  go_loopw [0, 3] (fun x v wr => ∃ (m : Nat) (l : List UInt8), x = .int .i64 m ∧ v = .string ⟨l.toArray⟩ ∧ DecAt u m l ∧ Below w.heap.size w wr) (fun x _ _ => (intOf x).toNat)
  case atStart => exact ⟨u, [], rfl, rfl, decAt_first (by omega), Below.refl _ _⟩
  case round =>
    obtain ⟨m, l, rfl, rfl, hD, hbel⟩ := hrel
    have hsz := hbel.size
    have hlen := decAt_len hD
    have hmu : m ≤ u := hD.2.1
    have HD : Hid (DecAt u m l) := hD
    clear hD
    by_cases hm : m = 0
    · subst hm
      have E : Hid (l = Lib.decDigits u) := decAt_last HD.out
      go_wp2
      go_ret
      exact ⟨by rw [markOf, ← E.out]; rfl, hbel⟩
    · have hcv := fun y => conv_new (P := Try.prog) wr y Try.underlying78 Try.underlying5 Try.underlying9
      have hz : (strOfNums [48 + (m : Int) % 10]).size = 1 := by rw [strOfNums_size]; rfl
      go_wp2
      go_roundw
      case rel =>
        refine ⟨m / 10, UInt8.ofNat (48 + m % 10) :: l, by go_num, ?_, decAt_step hm HD.out, hbel.alloc hsz _⟩
        have := str_byte (48 + m % 10) (by omega) l
        rw [← this]
        congr 3
      case measure => simp [intOf]; omega
theorem markText_at {x : Int} (N : Nat) (hx : x = N) (w : World) (h0 : 1 ≤ N) (hu : N ≤ 1000000000) :
    Calls Try.prog 64 #[.int .i64 x] w fun e w' => e = .returned (.string (markOf N)) ∧ Below w.heap.size w w' := by
  subst hx; exact markText_any N w h0 hu
end Go.Proofs.Ytedhfdgcofboeaa
namespace Go.Proofs.Ytedhfdgcofboeaa
open Go.RowKit
set_option linter.unusedVariables false
def conG (c u : Nat) : Value := if c = 0 then .int .i64 (u : Int) else if c = 1 then .int .u64 (u : Int) else .string (markOf u)
set_option maxHeartbeats 1000000 in
set_option maxRecDepth 100000 in
theorem markConstS_f (B : Nat) (v : Value) (n k : Nat) (ys : List Value) (w : World) (hv : w.ownsRow B 40 3 v n ys) (hl : n ≤ 8000000) (hk1 : 1 ≤ k) (hk : k ≤ 900000000) :
    Calls Try.prog 26 #[v, .int .i64 k] w fun e w' => e = .returned (.int .i64 ((k + n * 3 : Nat) : Int)) ∧ w'.ownsRow B 40 3 v n (mkv 3 conG k (n * 3)) ∧ w.grownBy w' v.ownBlock := by
  obtain ⟨x, c, rfl⟩ := row_slice hv
  have hm : n ≤ 9223372036854775807 := by omega
  by_cases h0 : n = 0
  · subst h0
    have hE : ys = mkv 3 conG k (0 * 3) := mkv_is (by have := hv.1; omega) (fun q hq => by omega)
    rw [hE] at hv
    clear hE
    go_enter Try.func26, Try.ntmps26
    go_wp2
    go_loop [1, 5] (fun y i => y = .int .i64 k ∧ i = .int .i64 0) (fun _ _ => 0)
    case atStart => exact ⟨rfl, rfl⟩
    case round =>
      obtain ⟨rfl, rfl⟩ := hrel
      go_wp2
      go_ret
      exact ⟨by simp, hv, grown_is _ _⟩
  obtain ⟨g, rfl⟩ : ∃ g, x = some ⟨g, 0, none⟩ := by
    rcases hv.2 with ⟨e1, e2⟩ | ⟨g, cap, cur, e1, _⟩
    · exact absurd e2 h0
    · simp only [Value.slice.injEq] at e1
      exact ⟨g, e1.1⟩
  have HV : Hid _ := hv
  clear hv
  go_enter Try.func26, Try.ntmps26
  go_wp2
  go_loopw [1, 5] (fun y j wr => ∃ (i U : Nat) (xs : List Value), i ≤ n ∧ y = .int .i64 (U : Int) ∧ j = .int .i64 i ∧ Hid (U = k + i * 3) ∧ 1 ≤ U ∧ U ≤ 924000000 ∧ Hid (∀ q, q < i * 3 → xs[q]? = some (conG (q % 3) (k + q))) ∧ Hid (wr.ownsRow B 40 3 (.slice (some ⟨g, 0, none⟩) n c) n xs) ∧ w.grownBy wr (some g)) (fun _ j _ => n - (intOf j).toNat)
  case atStart => exact ⟨0, k, ys, Nat.zero_le _, rfl, rfl, by show k = _; omega, hk1, by omega, fun q hq => by omega, HV, grown_is _ _⟩
  case round =>
    obtain ⟨i, U, xs, hi, rfl, rfl, HU, hU1, hU, HY, HO, hgr⟩ := hrel
    by_cases hin : i < n
    · have hii : (i : Int) < (n : Int) := by omega
      have hi0 : (0 : Int) ≤ (i : Int) := by omega
      have hxl : xs.length = n * 3 := HO.out.1
      have hb3 : i * 3 + 3 ≤ n * 3 := by have := Nat.mul_le_mul_right 3 (show i + 1 ≤ n by omega); omega
      obtain ⟨⟨u0, hu0⟩, hf0⟩ := row_cell HO.out (i * 3) (by omega)
      obtain ⟨⟨u1, hu1⟩, hf1⟩ := row_cell HO.out (i * 3 + 1) (by omega)
      have s0 := World.ownsRow.stored HO.out (i * 3) (.int .i64 (U : Int))
      have s1 := World.ownsRow.stored s0.1 (i * 3 + 1) (.int .u64 ((U : Int) + 1))
      have HS1 : Hid _ := s1.1
      have HG1 : Hid (w.grownBy ((wr.setCell ⟨g, i * 3, none⟩ (.int .i64 (U : Int))).setCell ⟨g, i * 3 + 1, none⟩ (.int .u64 ((U : Int) + 1))) (some g)) := (hgr.trans s0.2).trans s1.2
      have HY2 : Hid (∀ q, q < (i + 1) * 3 → (((xs.set (i * 3) (.int .i64 (U : Int))).set (i * 3 + 1) (.int .u64 ((U : Int) + 1))).set (i * 3 + 2) (.string (markOf (U + 2))))[q]? = some (conG (q % 3) (k + q))) := fun q hq => by
        have hUU := HU.out
        rcases Nat.lt_or_ge q (i * 3) with h1 | h1
        · rw [List.getElem?_set_ne (by omega), List.getElem?_set_ne (by omega), List.getElem?_set_ne (by omega)]
          exact HY.out q h1
        · have hq3 : q = i * 3 ∨ q = i * 3 + 1 ∨ q = i * 3 + 2 := by omega
          rcases hq3 with rfl | rfl | rfl
          · rw [List.getElem?_set_ne (by omega), List.getElem?_set_ne (by omega), List.getElem?_set_self (by omega)]
            unfold conG
            rw [if_pos (by omega)]
            congr 2
            omega
          · rw [List.getElem?_set_ne (by omega), List.getElem?_set_self (by simp only [List.length_set]; omega)]
            unfold conG
            rw [if_neg (by omega), if_pos (by omega)]
            congr 2
            omega
          · rw [List.getElem?_set_self (by simp only [List.length_set]; omega)]
            unfold conG
            rw [if_neg (by omega), if_neg (by omega)]
            congr 3
            omega
      have hU2 : U + 3 ≤ 924000000 := by
        have := HU.out
        omega
      have HU2 : Hid (U + 3 = k + (i + 1) * 3) := by
        have := HU.out
        show _ = _
        omega
      have cM := fun W => markText_at (U + 2) (x := (U : Int) + 1 + 1) (by omega) W (by omega) (by omega)
      clear s0 s1
      go_wp2_with fail
      refine (cM _).mono ?_
      rintro e w2 ⟨rfl, hb2⟩
      have o2 := row_keep HS1.out hb2
      have g2 := HG1.out.trans (World.grownBy.mk hb2.os hb2.tape hb2.output hb2.size (fun q hq _ => hb2.block q hq) : World.grownBy _ w2 (some g))
      obtain ⟨⟨u2, hu2⟩, hf2⟩ := row_cell o2 (i * 3 + 2) (by omega)
      have s2 := World.ownsRow.stored o2 (i * 3 + 2) (.string (markOf (U + 2)))
      have HS2 : Hid _ := s2.1
      have HG2 : Hid _ := g2.trans s2.2
      clear o2 g2 s2 hxl
      go_wp2
      go_roundw
      case rel => exact ⟨i + 1, U + 3, _, by omega, by go_num, by go_num, HU2, by omega, hU2, HY2, HS2.out, HG2.out⟩
      case measure => simp [intOf]; omega
    · have e : i = n := by omega
      subst e
      have hE : xs = mkv 3 conG k (i * 3) := mkv_is HO.out.1 HY.out
      have hO := HO.out
      rw [hE] at hO
      have hUU := HU.out
      subst hUU
      clear HY HO HV hE
      go_wp2
      go_ret
      exact ⟨rfl, hO, hgr⟩
set_option maxHeartbeats 1000000 in
set_option maxRecDepth 100000 in
theorem heldConstS_f (v : Value) (n k : Nat) (w : World) (hv : ArgFlat w v 3 n (mkv 3 conG k (n * 3))) (hl : n ≤ 8000000) (hk1 : 1 ≤ k) (hk : k ≤ 900000000) :
    Calls Try.prog 28 #[v, .int .i64 k] w fun e w' => e = .returned (.int .i64 ((k + n * 3 : Nat) : Int)) ∧ Below w.heap.size w w' := by
  obtain ⟨x, c, rfl, hm, hl2, hc⟩ := hv
  unfold maxLen at hm
  have HC : Hid (0 < n → ∃ b o, x = some ⟨b, o, none⟩ ∧ b < w.heap.size ∧ ∀ q, q < n * 3 → w.cell? ⟨b, o + q, none⟩ = some (conG (q % 3) (k + q))) := fun h0 => by
    obtain ⟨b, o, e, hb, h⟩ := hc h0
    exact ⟨b, o, e, hb, fun q hq => h q _ (mkv_at hq)⟩
  clear hc hl2
  go_enter Try.func28, Try.ntmps28
  go_wp2
  go_loopw [1, 5] (fun y j wr => ∃ (i U : Nat), i ≤ n ∧ y = .int .i64 (U : Int) ∧ j = .int .i64 i ∧ Hid (U = k + i * 3) ∧ 1 ≤ U ∧ U ≤ 924000000 ∧ Below w.heap.size w wr) (fun _ j _ => n - (intOf j).toNat)
  case atStart => exact ⟨0, k, Nat.zero_le _, rfl, rfl, by show k = _; omega, hk1, by omega, Below.refl _ _⟩
  case round =>
    obtain ⟨i, U, hi, rfl, rfl, HU, hU1, hU, hbel⟩ := hrel
    by_cases hin : i < n
    · obtain ⟨b, o, rfl, hb, hcell⟩ := HC.out (by omega)
      have hb3 : i * 3 + 3 ≤ n * 3 := by have := Nat.mul_le_mul_right 3 (show i + 1 ≤ n by omega); omega
      have h0 : wr.cell? ⟨b, o + i * 3, none⟩ = some (.int .i64 (U : Int)) := by
        rw [hbel.cell (p := ⟨b, o + i * 3, none⟩) hb, hcell (i * 3) (by omega)]
        have hUU := HU.out
        unfold conG
        rw [if_pos (by omega)]
        congr 2
        omega
      have h1 : wr.cell? ⟨b, o + i * 3 + 1, none⟩ = some (.int .u64 ((U : Int) + 1)) := by
        rw [hbel.cell (p := ⟨b, o + i * 3 + 1, none⟩) hb, Nat.add_assoc, hcell (i * 3 + 1) (by omega)]
        have hUU := HU.out
        unfold conG
        rw [if_neg (by omega), if_pos (by omega)]
        congr 2
        omega
      have HK : Hid (∀ W, Below wr.heap.size wr W → W.cell? ⟨b, o + i * 3 + 2, none⟩ = some (.string (markOf (U + 2)))) := fun W hW => by
        rw [(chain hbel hW).cell (p := ⟨b, o + i * 3 + 2, none⟩) hb, Nat.add_assoc, hcell (i * 3 + 2) (by omega)]
        have hUU := HU.out
        unfold conG
        rw [if_neg (by omega), if_neg (by omega)]
        congr 3
        omega
      have hii : (i : Int) < (n : Int) := by omega
      have hi0 : (0 : Int) ≤ (i : Int) := by omega
      have hU2 : U + 3 ≤ 924000000 := by
        have := HU.out
        omega
      have HU2 : Hid (U + 3 = k + (i + 1) * 3) := by
        have := HU.out
        show _ = _
        omega
      have cM := fun W => markText_at (U + 2) (x := (U : Int) + 1 + 1) (by omega) W (by omega) (by omega)
      have hee : ((markOf (U + 2)).toList == (markOf (U + 2)).toList) = true := by simp
      clear hcell HC
      go_upto_region 10 with fail
      clear h0 h1
      go_region_held3 (fun W => W.cell? ⟨b, o + i * 3 + 2, none⟩ = some (.string (markOf (U + 2)))) (first | exact HK.out _ (Below.refl _ _).drew | exact HK.out _ HM.out | go_keep) (first
        | (go_at_call 64; (with_reducible refine (cM _).mono ?_); rintro e w2 ⟨rfl, hb2⟩; have HM : Hid (Below wr.heap.size wr w2) := chain (Below.refl _ _).drew hb2))
      all_goals go_wp2
      all_goals
        go_roundw
        case rel => exact ⟨i + 1, U + 3, by omega, by go_num, by go_num, HU2, by omega, hU2, chain hbel HM.out⟩
        case measure => simp [intOf]; omega
    · have e : i = n := by omega
      subst e
      have hUU := HU.out
      subst hUU
      go_wp2
      go_ret
      exact ⟨rfl, hbel⟩
end Go.Proofs.Ytedhfdgcofboeaa
namespace Go.Proofs.Ytedhfdgcofboeaa
open Go.RowKit
set_option linter.unusedVariables false
def ImgOwn (w : World) (B : Nat) (fv cv : Value) (p : PImg) (fs : List FSh) : Prop :=
  fs.length = p.funcs.length ∧ FApart fs ∧ w.ownsRow B 40 3 cv p.consts.length (p.consts.flatMap conC) ∧
  ∃ xs, w.ownsRow B 46 5 fv p.funcs.length xs ∧ ∀ q f r, fs[q]? = some f → p.funcs[q]? = some r → (∀ j u, (funC r f.cv f.kv f.hv)[j]? = some u → xs[q * 5 + j]? = some u) ∧ f.nc = r.caps.length ∧ f.nk = r.code.length ∧ f.nh = r.hnds.length ∧ w.ownsRow B 73 2 f.cv r.caps.length (r.caps.flatMap capC) ∧ w.ownsRow B 75 3 f.kv r.code.length (r.code.flatMap insC) ∧ w.ownsRow B 77 3 f.hv r.hnds.length (r.hnds.flatMap hndC)
theorem ImgOwn.isIn {w : World} {B : Nat} {fv cv : Value} {p : PImg} {fs : List FSh} (h : ImgOwn w B fv cv p fs) : ImgIn w B fv cv p := by
  obtain ⟨h1, _, h3, xs, h4, h5⟩ := h
  refine ⟨⟨xs, h4, fun q r hq => ?_⟩, h3⟩
  obtain ⟨f, hf⟩ : ∃ f, fs[q]? = some f := ⟨_, List.getElem?_eq_getElem (by have := (List.getElem?_eq_some_iff.1 hq).1; omega)⟩
  obtain ⟨a, _, _, _, b1, b2, b3⟩ := h5 q f r hf hq
  exact ⟨f.cv, f.kv, f.hv, a, b1, b2, b3⟩
theorem ImgOwn.frow {w : World} {B g c : Nat} {cv : Value} {p : PImg} {fs : List FSh} {k : Nat} (h : ImgOwn w B (.slice (some ⟨g, 0, none⟩) fs.length c) cv p fs) : FRow w B g c fs k 0 ∧ PRow w B fs k 0 0 := by
  obtain ⟨h1, _, h3, xs, h4, h5⟩ := h
  have pr : ∀ {q : Nat} {f : FSh}, fs[q]? = some f → ∃ r, p.funcs[q]? = some r := fun {q f} hq => ⟨_, List.getElem?_eq_getElem (by have := (List.getElem?_eq_some_iff.1 hq).1; omega)⟩
  refine ⟨⟨xs, by rw [h1] at h4 ⊢; exact h4, fun q f hq => ?_⟩, fun q f hq => ?_⟩
  · obtain ⟨r, hr⟩ := pr hq
    obtain ⟨a, _⟩ := h5 q f r hq hr
    exact ⟨a 2 _ rfl, a 3 _ rfl, a 4 _ rfl, fun hh => by omega⟩
  · obtain ⟨r, hr⟩ := pr hq
    obtain ⟨_, e1, e2, e3, b1, b2, b3⟩ := h5 q f r hq hr
    exact ⟨_, _, _, by rw [e1]; exact b1, by rw [e2]; exact b2, by rw [e3]; exact b3, fun hh => by omega, fun hh => by omega, fun hh => by omega⟩
def ImgMk (w : World) (fv cv : Value) (fs : List FSh) (m k : Nat) : Prop := (∃ x c, fv = .slice x fs.length c ∧ (0 < fs.length → ∃ b o, x = some ⟨b, o, none⟩ ∧ b < w.heap.size ∧ ∀ q f, fs[q]? = some f → MkAt w b (o + q * 5) (offK fs k q) f)) ∧ ArgFlat w cv 3 m (mkv 3 conG (offK fs k fs.length) (m * 3))
theorem MkAt.below {w w' : World} {b o K : Nat} {f : FSh} (h : MkAt w b o K f) (hb : Below w.heap.size w w') : MkAt w' b o K f := by
  have hlt : b < w.heap.size := World.block_lt_of_cell? w _ h.c0
  have t : ∀ j u, w.cell? ⟨b, j, none⟩ = some u → w'.cell? ⟨b, j, none⟩ = some u := fun j u hu => (hb.cell (p := ⟨b, j, none⟩) hlt).trans hu
  exact ⟨t _ _ h.c0, t _ _ h.c1, t _ _ h.c2, t _ _ h.c3, t _ _ h.c4, h.rc.below hb, h.rk.below hb, h.rh.below hb⟩
theorem ImgMk.below {w w' : World} {fv cv : Value} {fs : List FSh} {m k : Nat} (h : ImgMk w fv cv fs m k) (hb : Below w.heap.size w w') : ImgMk w' fv cv fs m k := by
  obtain ⟨⟨x, c, e, h1⟩, h2⟩ := h
  refine ⟨⟨x, c, e, fun h0 => ?_⟩, h2.below hb⟩
  obtain ⟨b, o, e1, hlt, hm⟩ := h1 h0
  exact ⟨b, o, e1, Nat.lt_of_lt_of_le hlt hb.size, fun q f hq => (hm q f hq).below hb⟩
theorem mk_at {w : World} {B g c : Nat} {fs : List FSh} {k : Nat} (hR : FRow w B g c fs k fs.length) (hP : PRow w B fs k fs.length 0) : ∀ q f, fs[q]? = some f → MkAt w g (0 + q * 5) (offK fs k q) f := fun q f hq => by
  have hlt := (List.getElem?_eq_some_iff.1 hq).1
  obtain ⟨c2, c3, c4⟩ := hR.cells hq
  obtain ⟨xs, h1, h2⟩ := hR
  obtain ⟨_, _, _, a4⟩ := h2 q f hq
  obtain ⟨a5, a6⟩ := a4 hlt
  have hc := h1.cells (g := g) rfl
  have hadd : ∀ j, (⟨g, 0, none⟩ : Addr).add j = ⟨g, j, none⟩ := fun j => by unfold Addr.add; split <;> simp_all
  obtain ⟨y1, y2, y3, b1, b2, b3, d1, d2, d3⟩ := hP q f hq
  rw [d1 (.inl hlt)] at b1
  rw [d2 (.inl hlt)] at b2
  rw [d3 (.inl hlt)] at b3
  rw [Nat.zero_add]
  refine ⟨?_, ?_, c2, c3, c4, ArgFlat.of_own b1, ArgFlat.of_own b2, ArgFlat.of_own b3⟩
  · rw [← hadd]; exact hc _ _ a5
  · rw [← hadd]; exact hc _ _ a6
set_option maxHeartbeats 1000000 in
set_option maxRecDepth 100000 in
theorem markFuncS_0 (x : Option Addr) (c k : Nat) (w : World) (hk : k ≤ 8000000) :
    Calls Try.prog 25 #[.slice x 0 c, .int .i64 k] w fun e w' => e = .returned (.int .i64 k) ∧ w = w' := by
  go_enter Try.func25, Try.ntmps25
  go_wp2
  go_loop [1, 5] (fun y i => y = .int .i64 k ∧ i = .int .i64 0) (fun _ _ => 0)
  case atStart => exact ⟨rfl, rfl⟩
  case round =>
    obtain ⟨rfl, rfl⟩ := hrel
    go_wp2
    go_ret
    exact ⟨rfl, rfl⟩
set_option maxHeartbeats 1000000 in
set_option maxRecDepth 100000 in
theorem heldImage_f (fv cv : Value) (fs : List FSh) (m k : Nat) (w : World) (h : ImgMk w fv cv fs m k) (hf : Few fs k) (hk : 1 ≤ k) (hm : m ≤ 8000000) :
    Calls Try.prog 8 #[.agg #[fv, cv], .int .i64 k] w fun e w' => e = .returned (.int .i64 ((offK fs k fs.length + m * 3 : Nat) : Int)) ∧ Below w.heap.size w w' := by
  obtain ⟨⟨x, c, rfl, h1⟩, h2⟩ := h
  have b0 : Below w.heap.size w (w.alloc (.cells #[.slice x fs.length c, cv] 25)) := (Below.refl _ _).alloc (Nat.le_refl _) _
  have cF := heldFuncS_f x c fs k _ hf (fun h0 => by
    obtain ⟨b, o, e1, hlt, hm⟩ := h1 h0
    exact ⟨b, o, e1, fun q f hq => (hm q f hq).below b0⟩)
  have hK1 : k ≤ offK fs k fs.length := by have := offK_le fs k 0; rw [offK_0] at this; exact this
  have hK2 := hf.2
  obtain ⟨Z, hZ⟩ : ∃ z, offK fs k fs.length = z := ⟨_, rfl⟩
  rw [hZ] at h2 hK1 hK2 cF ⊢
  have cC := heldConstS_f cv m Z _ (h2.below b0) hm (by omega) (by omega)
  obtain ⟨n, hn⟩ : ∃ n, fs.length = n := ⟨_, rfl⟩
  rw [hn] at cF cC b0 ⊢
  obtain ⟨x2, c2, rfl, _, _, _⟩ := h2
  have n1 : ¬ (Z : Int) < 0 := by omega
  have n2 : ¬ ((Z + m * 3 : Nat) : Int) < 0 := by omega
  obtain ⟨V, hV⟩ : ∃ V, Z + m * 3 = V := ⟨_, rfl⟩
  rw [hV] at cC n2 ⊢
  clear hn hZ hV h1
  go_enter Try.func8, Try.ntmps8
  go_wp2_with (first
    | (go_at_call 27; (with_reducible refine cF.mono ?_); rintro e w' ⟨rfl, rfl⟩)
    | (go_at_call 28; (with_reducible refine cC.mono ?_); rintro e w2 ⟨rfl, hb2⟩))
  go_ret
  exact ⟨rfl, chain b0 hb2⟩
end Go.Proofs.Ytedhfdgcofboeaa
