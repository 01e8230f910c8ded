/-
  Part 24 of what is proved of drawn right trees.
-/
import Derived.Test.YtheofdiaenlbgaaGreatPaw
import Derived.Test.YtheofdiaenlbgaaGreatPav
import Derived.Test.YtheofdiaenlbgaaGreatPaj
import Derived.Test.YtheofdiaenlbgaaGreatPai
import Derived.Test.YtheofdiaenlbgaaGreatPad

namespace Go.Proofs.YtheofdiaenlbgaaGreat
open Go.RowKit Go.Sort
set_option linter.unusedVariables false
structure StM (w : World) (B g n : Nat) (rv : Nat → Value) (st : Nat → PSta) : Prop where
  row : ∃ cur, w.heap[g]? = some (.cells cur 53 (0, 0)) ∧ n * 2 ≤ cur.size ∧ ∀ q, q < n → cur[q * 2]? = some (.int .i64 (st q).acc) ∧ cur[q * 2 + 1]? = some (rv q)
  regs : ∀ q, q < n → OwnI w B (rv q) (st q).regs
  apart : ∀ q q', q < n → q' < n → q ≠ q' → (rv q).ownBlock = none ∨ (rv q).ownBlock ≠ (rv q').ownBlock
structure GM (g n : Nat) (rv : Nat → Value) (w w' : World) : Prop where
  os : w'.os = w.os
  tape : w'.tape = w.tape
  output : w'.output = w.output
  size : w.heap.size ≤ w'.heap.size
  block : ∀ b, b < w.heap.size → b ≠ g → (∀ q, q < n → (rv q).ownBlock ≠ some b) → w'.heap[b]? = w.heap[b]?
theorem GM.refl (g n : Nat) (rv : Nat → Value) (w : World) : GM g n rv w w := ⟨rfl, rfl, rfl, Nat.le_refl _, fun _ _ _ _ => rfl⟩
theorem GM.trans {g n : Nat} {rv : Nat → Value} {a b c : World} (h : GM g n rv a b) (k : GM g n rv b c) : GM g n rv a c :=
  ⟨k.os.trans h.os, k.tape.trans h.tape, k.output.trans h.output, Nat.le_trans h.size k.size, fun i hi h1 h2 => (k.block i (Nat.lt_of_lt_of_le hi h.size) h1 h2).trans (h.block i hi h1 h2)⟩
theorem own_ne {w : World} {B g : Nat} {v : Value} {l : List Int} {cur : Array Value} (h : OwnI w B v l) (hg : w.heap[g]? = some (.cells cur 53 (0, 0))) : v.ownBlock ≠ some g := apart16 h hg (by decide)
def setSt (st : Nat → PSta) (q : Nat) (s : PSta) : Nat → PSta := fun i => if i = q then s else st i
theorem StM.acc {w : World} {B g n : Nat} {rv : Nat → Value} {st : Nat → PSta} (h : StM w B g n rv st) (q : Nat) (hq : q < n) (z : Int) : StM (w.setCell ⟨g, q * 2, none⟩ (.int .i64 z)) B g n rv (setSt st q ⟨z, (st q).regs⟩) ∧ GM g n rv w (w.setCell ⟨g, q * 2, none⟩ (.int .i64 z)) := by
  obtain ⟨cur, h1, h2, h3⟩ := h.row
  have o : ∀ k, k ≠ g → (w.setCell ⟨g, q * 2, none⟩ (.int .i64 z)).heap[k]? = w.heap[k]? := fun k hk => heap_setCell_other w ⟨g, q * 2, none⟩ k _ hk
  refine ⟨⟨⟨_, heap_setCell_same w g (q * 2) cur _ _ h1, by rw [Array.size_setIfInBounds]; exact h2, fun i hi => ?_⟩, fun i hi => ?_, h.apart⟩, ⟨rfl, rfl, rfl, by simp [World.setCell], fun b _ hb _ => o b hb⟩⟩
  · refine ⟨?_, ?_⟩
    · by_cases e : i = q
      · subst e
        rw [Array.getElem?_setIfInBounds, if_pos rfl, if_pos (by omega)]
        unfold setSt
        rw [if_pos rfl]
      · rw [Array.getElem?_setIfInBounds, if_neg (by omega)]
        unfold setSt
        rw [if_neg e]
        exact (h3 i hi).1
    · rw [Array.getElem?_setIfInBounds, if_neg (by omega)]
      exact (h3 i hi).2
  · have := far16 (o := q * 2) (u := .int .i64 z) (h.regs i hi) (own_ne (h.regs i hi) h1)
    unfold setSt
    by_cases e : i = q
    · subst e; rw [if_pos rfl]; exact this
    · rw [if_neg e]; exact this
theorem StM.marked {w w' : World} {B g n : Nat} {rv : Nat → Value} {st : Nat → PSta} (h : StM w B g n rv st) (q : Nat) (hq : q < n) (l : List Int) (ho : OwnI w' B (rv q) l) (hg : w.grownBy w' (rv q).ownBlock) : StM w' B g n rv (setSt st q ⟨(st q).acc, l⟩) ∧ GM g n rv w w' := by
  obtain ⟨cur, h1, h2, h3⟩ := h.row
  refine ⟨⟨⟨cur, (hg.block g (lt16 h1) (fun e => own_ne (h.regs q hq) h1 e.symm)).trans h1, h2, fun i hi => ?_⟩, fun i hi => ?_, h.apart⟩, ⟨hg.os, hg.tape, hg.output, hg.size, fun b hb _ hn => hg.block b hb (fun e => hn q hq e.symm)⟩⟩
  · unfold setSt
    by_cases e : i = q
    · subst e; rw [if_pos rfl]; exact h3 i hi
    · rw [if_neg e]; exact h3 i hi
  · unfold setSt
    by_cases e : i = q
    · subst e; rw [if_pos rfl]; exact ho
    · rw [if_neg e]
      exact (h.regs i hi).kept hg (h.apart i q hi hq e)
def nsOf (n : Nat) (st : Nat → PSta) : List Nat := (List.range n).map fun q => (st q).regs.length
def mst (k n j : Nat) (st : Nat → PSta) : Nat → PSta := fun q => if q < j then ⟨((k + mkN ((nsOf n st).take q) : Nat) : Int), upI (k + mkN ((nsOf n st).take q) + 1) (st q).regs.length⟩ else st q
theorem nsOf_at {n q : Nat} {st : Nat → PSta} (h : q < n) : (nsOf n st)[q]? = some (st q).regs.length := by
  unfold nsOf
  rw [List.getElem?_map, List.getElem?_range h]
  rfl
theorem StM.congr {w : World} {B g n : Nat} {rv : Nat → Value} {st st' : Nat → PSta} (h : StM w B g n rv st) (e : ∀ q, q < n → st q = st' q) : StM w B g n rv st' := by
  obtain ⟨cur, h1, h2, h3⟩ := h.row
  exact ⟨⟨cur, h1, h2, fun q hq => by rw [← e q hq]; exact h3 q hq⟩, fun q hq => by rw [← e q hq]; exact h.regs q hq, h.apart⟩
set_option maxHeartbeats 1000000 in
set_option maxRecDepth 100000 in
theorem markStateS_f (B g c n k : Nat) (rv : Nat → Value) (st : Nat → PSta) (w : World) (hv : StM w B g n rv st) (hn : n ≤ 2000000) (hl : ∀ q, q < n → (st q).regs.length ≤ 2000000) (hk : k + mkN (nsOf n st) ≤ 1000000000) (hmono : ∀ j, mkN ((nsOf n st).take j) ≤ mkN (nsOf n st)) :
    Calls Tryz.prog 12 #[.slice (some ⟨g, 0, none⟩) n c, .int .i64 k] w fun e w' => e = .returned (.int .i64 ((k + mkN (nsOf n st) : Nat) : Int)) ∧ StM w' B g n rv (mst k n n st) ∧ GM g n rv w w' := by
  obtain ⟨T, hT⟩ : ∃ T, mkN (nsOf n st) = T := ⟨_, rfl⟩
  have HT : Hid (mkN (nsOf n st) = T) := hT
  have HM : Hid (∀ j, mkN ((nsOf n st).take j) ≤ mkN (nsOf n st)) := hmono
  have HLn : Hid (∀ q, q < n → (st q).regs.length ≤ 2000000) := hl
  rw [hT] at hk ⊢
  have HS0 : Hid (StM w B g n rv (mst k n 0 st) ∧ GM g n rv w w) := ⟨hv.congr (fun q _ => by unfold mst; rw [if_neg (Nat.not_lt_zero _)]), GM.refl g n rv w⟩
  clear hT hmono hl hv
  go_enter Tryz.func12, Tryz.ntmps12
  go_wp2
  go_loopw [1, 5] (fun y i wr => ∃ (j t : Nat), j ≤ n ∧ y = .int .i64 ((k + t : Nat) : Int) ∧ i = .int .i64 j ∧ t ≤ T ∧ Hid (t = mkN ((nsOf n st).take j)) ∧ Hid (StM wr B g n rv (mst k n j st) ∧ GM g n rv w wr)) (fun _ i _ => n - (intOf i).toNat)
  case atStart => exact ⟨0, 0, Nat.zero_le _, rfl, rfl, Nat.zero_le _, rfl, HS0⟩
  case round =>
    clear HS0
    obtain ⟨j, t, hj, rfl, rfl, htT, Ht, HS⟩ := hrel
    by_cases hlt : j < n
    · obtain ⟨cur, r1, r2, r3⟩ := HS.out.1.row
      obtain ⟨m, hm⟩ : ∃ m, (st j).regs.length = m := ⟨_, rfl⟩
      have hmm := mkN_more (nsOf_at (st := st) hlt)
      rw [hm, ← Ht.out] at hmm
      have hle := HM.out (j + 1)
      rw [hmm, HT.out] at hle
      have hm2 : m ≤ 2000000 := by rw [← hm]; exact HLn.out j hlt
      have eSt : mst k n j st j = st j := by unfold mst; rw [if_neg (Nat.lt_irrefl _)]
      obtain ⟨q0, q1⟩ := r3 j hlt
      have c0 : wr.cell? ⟨g, j * 2, none⟩ = some (.int .i64 (mst k n j st j).acc) := by rw [cell_of_row _ _ _ _ _ _ r1]; exact q0
      have fz := fun i => frozen_of_row wr g i _ _ r1
      obtain ⟨S1, G1⟩ := HS.out.1.acc j hlt ((k : Int) + (t : Int))
      obtain ⟨W1, hW1⟩ : ∃ W, wr.setCell ⟨g, j * 2, none⟩ (.int .i64 ((k : Int) + (t : Int))) = W := ⟨_, rfl⟩
      rw [hW1] at S1 G1
      obtain ⟨cur1, t1, t2, t3⟩ := S1.row
      have c1 : W1.cell? ⟨g, j * 2 + 1, none⟩ = some (rv j) := by rw [cell_of_row _ _ _ _ _ _ t1]; exact (t3 j hlt).2
      have hO := S1.regs j hlt
      have eR : (setSt (mst k n j st) j ⟨(k : Int) + (t : Int), (mst k n j st j).regs⟩ j).regs = (st j).regs := by unfold setSt; rw [if_pos rfl, eSt]
      rw [eR] at hO
      have cM := markIntS_f B (rv j) (st j).regs (k + t + 1) W1 hO (by rw [hm]; exact hm2) (by omega)
      have e1 : (((k + t + 1 : Nat) : Nat) : Int) = (k : Int) + (t : Int) + 1 := by omega
      have e2 : (((k + t + 1 + m : Nat) : Nat) : Int) = (k : Int) + (t : Int) + 1 + (m : Int) := by omega
      rw [hm, e2] at cM
      rw [e1] at cM
      have HF : Hid (∀ W', OwnI W' B (rv j) (upI (k + t + 1) m) → W1.grownBy W' (rv j).ownBlock → StM W' B g n rv (mst k n (j + 1) st) ∧ GM g n rv w W') := fun W' ho hg => by
        obtain ⟨S2, G2⟩ := S1.marked j hlt _ ho hg
        refine ⟨S2.congr (fun q hq => ?_), (HS.out.2.trans G1).trans G2⟩
        by_cases e : q = j
        · subst e
          have ea : (setSt (mst k n q st) q ⟨(k : Int) + (t : Int), (mst k n q st q).regs⟩ q).acc = (k : Int) + (t : Int) := by unfold setSt; rw [if_pos rfl]
          show setSt _ q _ q = _
          unfold setSt
          rw [if_pos rfl]
          unfold setSt at ea
          rw [ea]
          unfold mst
          rw [if_pos (Nat.lt_succ_self _), ← Ht.out, hm]
          congr 1
        · show setSt (setSt _ j _) j _ q = _
          unfold setSt
          rw [if_neg e, if_neg e]
          unfold mst
          by_cases h2 : q < j
          · rw [if_pos h2, if_pos (by omega)]
          · rw [if_neg h2, if_neg (by omega)]
      have HT2 : Hid (t + 1 + m = mkN ((nsOf n st).take (j + 1))) := hmm.symm
      have HW1 : Hid (_ = W1) := hW1
      obtain ⟨xr, cr, hrv⟩ := row_slice hO
      rw [hm] at hrv
      rw [hrv] at c1 cM
      have HRV : Hid (rv j = .slice xr m cr) := hrv
      have hji : (j : Int) < (n : Int) := by omega
      have hj0 : (0 : Int) ≤ (j : Int) := by omega
      clear hmm HS S1 G1 hO eR eSt r1 r2 r3 q0 q1 t1 t2 t3 hW1 HM HLn Ht hm hrv
      go_upto_region 6 with fail
      rw [HW1.out]
      clear HW1 c0 fz
      go_wp2_with (go_at_call 31; (with_reducible refine cM.mono ?_); rintro e w5 ⟨rfl, ho5, hg5⟩)
      have HE : Hid (StM w5 B g n rv (mst k n (j + 1) st) ∧ GM g n rv w w5) := HF.out w5 (by rw [HRV.out]; exact ho5) (by rw [HRV.out]; exact hg5)
      go_roundw
      case rel => exact ⟨j + 1, t + 1 + m, by omega, by go_num, by go_num, by omega, HT2, HE⟩
      case measure => simp [intOf]; omega
    · have e : j = n := by omega
      have et : t = T := by
        have h := Ht.out
        rw [List.take_of_length_le (by simp [nsOf]; omega), HT.out] at h
        exact h
      subst et e
      have hji : ¬ (j : Int) < (j : Int) := by omega
      have HE : Hid _ := HS
      clear HS
      go_wp2
      go_ret
      exact ⟨rfl, HE.out.1, HE.out.2⟩
end Go.Proofs.YtheofdiaenlbgaaGreat
namespace Go.Proofs.YtheofdiaenlbgaaGreat
open Go.RowKit Go.Sort
set_option linter.unusedVariables false
theorem TAt.states {X S H L K n B : Nat} {fv cv : Value} {PA RE : Int} {qc qk qh : Value} {r : RunP} {fi : Nat} {w : World} (h : TAt X S H L K n B fv cv PA RE qc qk qh r fi w) :
    ∃ (rv : Nat → Value) (st : Nat → PSta), StM w B S n rv st ∧ ∀ q s, r.list[q]? = some s → st q = s := by
  obtain ⟨cur, h1, h2, h3, h4⟩ := h.st
  have hl := h.ll
  refine ⟨fun q => (cur[q * 2 + 1]?).getD .nilIface, fun q => (r.list[q]?).getD ⟨0, []⟩, ⟨⟨cur, h1, by omega, fun q hq => ?_⟩, fun q hq => ?_, fun q q' hq hq' hne => ?_⟩, fun q s hs => by simp only [hs, Option.getD_some]⟩
  · obtain ⟨s, hs⟩ : ∃ s, r.list[q]? = some s := ⟨_, List.getElem?_eq_getElem (by omega)⟩
    obtain ⟨v, k1, k2, k3⟩ := h3 q s hs
    simp only [hs, k2, Option.getD_some]
    exact ⟨k1, trivial⟩
  · obtain ⟨s, hs⟩ : ∃ s, r.list[q]? = some s := ⟨_, List.getElem?_eq_getElem (by omega)⟩
    obtain ⟨v, k1, k2, k3⟩ := h3 q s hs
    simp only [hs, k2, Option.getD_some]
    exact k3
  · obtain ⟨s, hs⟩ : ∃ s, r.list[q]? = some s := ⟨_, List.getElem?_eq_getElem (by omega)⟩
    obtain ⟨v, k1, k2, k3⟩ := h3 q s hs
    obtain ⟨s', hs'⟩ : ∃ s, r.list[q']? = some s := ⟨_, List.getElem?_eq_getElem (by omega)⟩
    obtain ⟨v', k1', k2', k3'⟩ := h3 q' s' hs'
    simp only [k2, k2', Option.getD_some]
    cases hv : v.ownBlock with
    | none => exact .inl rfl
    | some g => exact .inr (fun e => h4 q q' g v v' hne k2 k2' hv e.symm)
theorem TAt.hits {X S H L K n B : Nat} {fv cv : Value} {PA RE : Int} {qc qk qh : Value} {r : RunP} {fi : Nat} {w : World} (h : TAt X S H L K n B fv cv PA RE qc qk qh r fi w) (hn : n ≤ 300) : OwnBo w B (.slice (some ⟨H, 0, none⟩) n n) r.hit := by
  obtain ⟨cur, h1, h2, h3⟩ := h.ht
  have hl := h.hl
  have e : cur.toList = r.hit.flatMap boolC := bools_is (by rw [Array.length_toList, h2, hl]) (fun j z hz => by
    have := h3 j z hz
    simpa using this)
  unfold OwnBo
  rw [hl]
  refine ⟨by rw [← e, Array.length_toList, h2, Nat.mul_one], .inr ⟨H, n, cur, rfl, h.lo.2.2.1, h1, Nat.le_refl _, by unfold maxLen; omega, by rw [h2, Nat.mul_one], ?_⟩⟩
  rw [← e, List.take_of_length_le]
  rw [Array.length_toList, h2]
  omega
def ISta (p : PImg) (k : Int) (bb : Bool) (lv hv : Value) (w w' : World) : Prop :=
  Below w.heap.size w w' ∧ (bb = false → lv = .slice none 0 0 ∧ hv = .slice none 0 0) ∧ (bb = true → ∃ (K : Nat) (f : PFun) (r : RunP) (g h n : Nat) (rv : Nat → Value) (st : Nat → PSta), k = (K : Int) ∧ p.funcs[K]? = some f ∧ RunInv p f r ∧ r.todo = [] ∧ r.bad = false ∧ r.list.length = n ∧ r.hit.length = n ∧ n ≤ 300 ∧ (∀ q s, r.list[q]? = some s → st q = s) ∧ lv = .slice (some ⟨g, 0, none⟩) n n ∧ hv = .slice (some ⟨h, 0, none⟩) n n ∧ w.heap.size ≤ g ∧ StM w' w.heap.size g n rv st ∧ OwnBo w' w.heap.size (.slice (some ⟨h, 0, none⟩) n n) r.hit)
def TRes (p : PImg) (f : PFun) (S H L K n B : Nat) (PA RE : Int) (bad : Bool) (w : World) : Prop := ∃ (X : Nat) (r : RunP) (fi : Nat) (fv cv qc qk qh : Value), TAt X S H L K n B fv cv PA RE qc qk qh r fi w ∧ RunInv p f r ∧ (r.bad = true ∨ r.todo = []) ∧ r.bad = bad
structure TMade (p : PImg) (f : PFun) (C : Nat) (w wr : World) (bad : Bool) (S H n : Nat) : Prop where
  run : ∃ (L K B : Nat) (PA RE : Int), TRes p f S H L K n B PA RE bad wr ∧ w.heap.size ≤ B
  c7 : wr.cell? ⟨C, 7, none⟩ = some (.slice (some ⟨S, 0, none⟩) n n)
  c8 : wr.cell? ⟨C, 8, none⟩ = some (.slice (some ⟨H, 0, none⟩) n n)
  c13 : wr.cell? ⟨C, 13, none⟩ = some (.bool bad)
  bel : Below w.heap.size w wr
end Go.Proofs.YtheofdiaenlbgaaGreat
namespace Go.Proofs.YtheofdiaenlbgaaGreat
open Go.RowKit Go.Sort
set_option linter.unusedVariables false
theorem own_in {w : World} {B g : Nat} {v : Value} {l : List Int} (h : OwnI w B v l) (hg : v.ownBlock = some g) : g < w.heap.size ∧ B ≤ g := by
  obtain ⟨_, ⟨h2, _⟩ | ⟨g2, cap, cur, h2, h3, h4, _⟩⟩ := h
  · rw [h2] at hg; cases hg
  · rw [h2] at hg
    have e : g2 = g := Option.some.inj hg
    rw [← e]
    exact ⟨lt16 h4, h3⟩
end Go.Proofs.YtheofdiaenlbgaaGreat
namespace Go.Proofs.YtheofdiaenlbgaaGreat
open Go.RowKit Go.Sort
set_option linter.unusedVariables false
def OwnSt (w : World) (B : Nat) (v : Value) (l : List PSta) : Prop := (v = .slice none 0 0 ∧ l = []) ∨ ∃ (g : Nat) (rv : Nat → Value) (st : Nat → PSta), v = .slice (some ⟨g, 0, none⟩) l.length l.length ∧ B ≤ g ∧ StM w B g l.length rv st ∧ l.length ≤ 300 ∧ ∀ q s, l[q]? = some s → st q = s
theorem OwnSt.below {w w' : World} {B : Nat} {v : Value} {l : List PSta} (h : OwnSt w B v l) (hb : Below w.heap.size w w') : OwnSt w' B v l := by
  rcases h with h | ⟨g, rv, st, e, hB, hS, hl, hs⟩
  · exact .inl h
  · obtain ⟨cur, h1, h2, h3⟩ := hS.row
    exact .inr ⟨g, rv, st, e, hB, ⟨⟨cur, (hb.block g (lt16 h1)).trans h1, h2, h3⟩, fun q hq => (hS.regs q hq).below hb, hS.apart⟩, hl, hs⟩
theorem OwnSt.arg {w : World} {B : Nat} {v : Value} {l : List PSta} (h : OwnSt w B v l) : ArgStas w v l := by
  rcases h with ⟨rfl, rfl⟩ | ⟨g, rv, st, e, hB, hS, hl, hs⟩
  · exact argStas_nil w none
  · obtain ⟨cur, h1, h2, h3⟩ := hS.row
    refine ⟨_, _, e, by unfold maxLen; omega, fun h0 => ⟨g, 0, rfl, lt16 h1, fun j s hj => ?_⟩⟩
    have hjl : j < l.length := (List.getElem?_eq_some_iff.1 hj).1
    obtain ⟨k1, k2⟩ := h3 j hjl
    have hR := hS.regs j hjl
    rw [hs j s hj] at k1 hR
    exact ⟨rv j, by rw [Nat.zero_add, cell_of_row _ _ _ _ _ _ h1]; exact k1, by rw [Nat.zero_add, cell_of_row _ _ _ _ _ _ h1]; exact k2, hR.arg⟩
def lensOf (l : List PSta) : List Nat := l.map fun s => s.regs.length
theorem nsOf_lens {l : List PSta} {st : Nat → PSta} (hs : ∀ q s, l[q]? = some s → st q = s) : nsOf l.length st = lensOf l := by
  apply List.ext_getElem?
  intro q
  unfold nsOf lensOf
  rw [List.getElem?_map, List.getElem?_map]
  by_cases hq : q < l.length
  · rw [List.getElem?_range hq, List.getElem?_eq_getElem hq]
    simp only [Option.map_some]
    rw [hs q _ (List.getElem?_eq_getElem hq)]
  · rw [List.getElem?_eq_none (by simp; omega), List.getElem?_eq_none (by omega)]
    rfl
theorem mkN_take_le : ∀ (ns : List Nat) (j : Nat), mkN (ns.take j) ≤ mkN ns
  | [], j => by simp
  | a :: l, 0 => by simp [mkN]
  | a :: l, j + 1 => by
    simp only [List.take_succ_cons, mkN]
    have := mkN_take_le l j
    omega
theorem mkN_le {ns : List Nat} {m : Nat} (h : ∀ x ∈ ns, x ≤ m) : mkN ns ≤ (1 + m) * ns.length := by
  induction ns with
  | nil => simp [mkN]
  | cons a l ih =>
    have h1 := h a (by simp)
    have h2 := ih (fun x hx => h x (by simp [hx]))
    simp only [mkN, List.length_cons, Nat.mul_add, Nat.mul_one]
    omega
structure StKeep (B : Nat) (w w' : World) : Prop where
  bel : Below B w w'
  size : w.heap.size ≤ w'.heap.size
  bools : ∀ (B' : Nat) (u : Value) (l : List Bool), OwnBo w B' u l → OwnBo w' B' u l
theorem row_ne_type {w : World} {B k n g : Nat} {e t : TypeId} {v : Value} {xs : List Value} {cs : Array Value} (h : w.ownsRow B e k v n xs) (hg : w.heap[g]? = some (.cells cs t (0, 0))) (ht : t ≠ e) : v.ownBlock ≠ some g := by
  obtain ⟨_, ⟨rfl, _⟩ | ⟨g2, cap, cur, rfl, _, h2, _⟩⟩ := h
  · simp [Value.ownBlock]
  · intro e1
    simp [Value.ownBlock] at e1
    subst e1
    rw [h2] at hg
    injection hg with hg
    injection hg with _ hg
    exact ht hg.symm
theorem markStates_own (B : Nat) (v : Value) (l : List PSta) (k : Nat) (w : World) (hv : OwnSt w B v l) (hB : B ≤ w.heap.size) (hr : ∀ s ∈ l, s.regs.length ≤ 1000) (hk : k ≤ 1000000) :
    Calls Tryz.prog 12 #[v, .int .i64 k] w fun e w' => e = .returned (.int .i64 ((k + mkN (lensOf l) : Nat) : Int)) ∧ OwnSt w' B v (mkSt k (lensOf l)) ∧ StKeep B w w' := by
  rcases hv with ⟨rfl, rfl⟩ | ⟨g, rv, st, e, hg, hS, hl, hs⟩
  · go_enter Tryz.func12, Tryz.ntmps12
    go_wp2
    go_loop [1, 5] (fun y i => y = .int .i64 k ∧ i = .int .i64 0) (fun _ _ => 0)
    case atStart => exact ⟨rfl, rfl⟩
    case round =>
      obtain ⟨rfl, rfl⟩ := hrel
      go_wp2
      go_ret
      exact ⟨rfl, .inl ⟨rfl, rfl⟩, Below.refl _ _, Nat.le_refl _, fun _ _ _ h => h⟩
  · subst e
    have en := nsOf_lens hs
    have hr2 : ∀ x ∈ lensOf l, x ≤ 1000 := fun x hx => by
      unfold lensOf at hx
      obtain ⟨s, hs1, rfl⟩ := List.mem_map.1 hx
      exact hr s hs1
    have hll : (lensOf l).length = l.length := by simp [lensOf]
    have hN := mkN_le hr2
    have hN2 : mkN (lensOf l) ≤ 1001 * 300 := Nat.le_trans hN (Nat.mul_le_mul (by omega) (by omega))
    have cM := markStateS_f B g l.length l.length k rv st w hS (by omega) (fun q hq => by
      have := hr _ (List.getElem_mem hq)
      rw [hs q _ (List.getElem?_eq_getElem hq)]
      omega) (by rw [en]; omega) (fun j => mkN_take_le _ j)
    rw [en] at cM
    refine cM.mono ?_
    rintro e w' ⟨rfl, hS', hG⟩
    refine ⟨rfl, .inr ⟨g, rv, mst k l.length l.length st, by rw [mkSt_len, hll], hg, by rw [mkSt_len, hll]; exact hS', by rw [mkSt_len, hll]; exact hl, fun q s hq => ?_⟩, ⟨hG.os, hG.tape, hG.output, hG.size |> Nat.le_trans hB |> fun _ => hG.size, fun b hb => hG.block b (by omega) (by omega) (fun q hq e => ?_)⟩, hG.size, fun B' u l' hu => ?_⟩
    · have hql : q < l.length := by
        have := (List.getElem?_eq_some_iff.1 hq).1
        rw [mkSt_len, hll] at this
        exact this
      have h1 := mkSt_at (nsOf l.length st) k q _ (nsOf_at hql)
      rw [en] at h1
      rw [h1] at hq
      injection hq with hq
      rw [← hq]
      unfold mst
      rw [if_pos hql, en]
    · have := (own_in (hS.regs q hq) e).2
      omega
    · obtain ⟨cur, h1, h2, h3⟩ := hS.row
      refine own_step hu hG.size (fun b hb => hG.block b (hu.lt b hb).2 (fun e => ?_) (fun q hq e => ?_))
      · subst e
        exact row_ne_type hu h1 (by decide) hb
      · obtain ⟨_, ⟨k1, _⟩ | ⟨g2, cap, cur2, k1, _, k2, _⟩⟩ := hS.regs q hq
        · rw [k1] at e; cases e
        · rw [k1] at e
          have e3 : g2 = b := Option.some.inj e
          subst e3
          exact row_ne_type hu k2 (by decide) hb
def IsRes (p : PImg) (k : Int) (L : List PSta) (Hh : List Bool) : Prop := (stB p k = false ∧ L = [] ∧ Hh = []) ∨ (stB p k = true ∧ ∃ (K : Nat) (f : PFun) (r : RunP), k = (K : Int) ∧ p.funcs[K]? = some f ∧ RunInv p f r ∧ r.todo = [] ∧ r.bad = false ∧ L = r.list ∧ Hh = r.hit)
theorem IsRes.one {p : PImg} {k : Int} {L L' : List PSta} {H H' : List Bool} (h : IsRes p k L H) (h' : IsRes p k L' H') : L = L' ∧ H = H' := by
  rcases h with ⟨hb, rfl, rfl⟩ | ⟨hb, K, f, r, e1, e2, I, t, b, rfl, rfl⟩
  · rcases h' with ⟨_, rfl, rfl⟩ | ⟨hb', _⟩
    · exact ⟨rfl, rfl⟩
    · rw [hb] at hb'; cases hb'
  · rcases h' with ⟨hb', _⟩ | ⟨_, K', f', r', e1', e2', I', t', b', rfl, rfl⟩
    · rw [hb] at hb'; cases hb'
    · have eK : K = K' := by omega
      subst eK
      rw [e2] at e2'
      injection e2' with ef
      subst ef
      exact run_same I t b I' t' b'
theorem stB_ok {p : PImg} {k : Int} (h : stB p k = true) : imgOk p = true := by
  unfold stB at h
  rw [Bool.and_eq_true] at h
  exact h.1
theorem IsRes.few {p : PImg} {k : Int} {L : List PSta} {H : List Bool} (h : IsRes p k L H) : L.length ≤ 300 ∧ H.length ≤ 300 ∧ ∀ s ∈ L, s.regs.length ≤ 1000 := by
  rcases h with ⟨_, rfl, rfl⟩ | ⟨hb, K, f, r, e1, e2, I, t, b, rfl, rfl⟩
  · exact ⟨by simp, by simp, fun s hs => by cases hs⟩
  · have hf := (imgOk_le (stB_ok hb)).funsOk f (List.mem_of_getElem? e2)
    have hl := funOk_le hf
    have h1 := hl.code
    have h2 := hl.regs
    have h3 := hl.params
    refine ⟨by rw [I.ok.len]; omega, by rw [I.ok.hlen]; omega, fun s hs => ?_⟩
    obtain ⟨q, hq⟩ := List.mem_iff_getElem?.1 hs
    by_cases hh : r.hit[q]? = some true
    · have := I.ok.regs q s (fam_of hh hq)
      omega
    · have := I.ok.zero q s hq hh
      rw [this]
      simp
theorem StaRes.lists {p : PImg} {k : Int} {lv hv : Value} {w w' : World} (h : StaRes p k (stB p k) lv hv w w') : ∃ L H, IsRes p k L H ∧ ArgStas w' lv L ∧ ArgBo w' hv H := by
  obtain ⟨hb, h1, h2⟩ := h
  cases e : stB p k with
  | false =>
    obtain ⟨a, b⟩ := h1 e
    exact ⟨[], [], .inl ⟨e, rfl, rfl⟩, a, b⟩
  | true =>
    obtain ⟨K, f, r, e1, e2, I, t, bb, a, b⟩ := h2 e
    exact ⟨r.list, r.hit, .inr ⟨e, K, f, r, e1, e2, I, t, bb, rfl, rfl⟩, a, b⟩
theorem ISta.lists {p : PImg} {k : Int} {lv hv : Value} {w w' : World} {L : List PSta} {H : List Bool} (hr : IsRes p k L H) (h : ISta p k (stB p k) lv hv w w') : OwnSt w' w.heap.size lv L ∧ OwnBo w' w.heap.size hv H := by
  obtain ⟨hb, h1, h2⟩ := h
  cases e : stB p k with
  | false =>
    obtain ⟨rfl, rfl⟩ := h1 e
    obtain ⟨rfl, rfl⟩ := hr.one (.inl ⟨e, rfl, rfl⟩)
    exact ⟨.inl ⟨rfl, rfl⟩, World.ownsRow_nil _ _ _ _⟩
  | true =>
    obtain ⟨K, f, r, g, hh, n, rv, st, e1, e2, I, t, bb, l1, l2, l3, hs, rfl, rfl, hg, hS, hB⟩ := h2 e
    obtain ⟨rfl, rfl⟩ := hr.one (.inr ⟨e, K, f, r, e1, e2, I, t, bb, rfl, rfl⟩)
    exact ⟨.inr ⟨g, rv, st, by rw [l1], hg, by rw [l1]; exact hS, by rw [l1]; exact l3, hs⟩, hB⟩
end Go.Proofs.YtheofdiaenlbgaaGreat
namespace Go.Proofs.YtheofdiaenlbgaaGreat
open Go.RowKit Go.Sort
set_option linter.unusedVariables false
set_option maxHeartbeats 4000000 in
set_option maxRecDepth 100000 in
theorem iStates_any (p : PImg) (k : Int) (fv cv : Value) (w : World) (h : ArgImg w fv cv p) (hw : imgW p) :
    Calls Tryz.prog 7 #[.agg #[fv, cv], .int .i64 k] w fun e w' => ∃ lv hv, e = .returned (.tuple #[lv, hv, .bool (stB p k)]) ∧ ISta p k (stB p k) lv hv w w' := by
  have HI : Hid (ArgImg w fv cv p) := h
  obtain ⟨hF, hC⟩ := h
  obtain ⟨x1, c1, rfl, m1, o1⟩ := hF
  obtain ⟨x2, c2, rfl, m2, _⟩ := hC.opened conC_len
  clear hC
  unfold maxLen at m1 m2
  obtain ⟨n1, e1⟩ : ∃ n, p.funcs.length = n := ⟨_, rfl⟩
  obtain ⟨n2, e2⟩ : ∃ n, p.consts.length = n := ⟨_, rfl⟩
  simp only [e1, e2] at m1 m2 o1 HI ⊢
  have HL : Hid (p.funcs.length = n1) := e1
  have HO : Hid (0 < n1 → ∃ b o, x1 = some ⟨b, o, none⟩ ∧ b < w.heap.size ∧ ∀ j p1, p.funcs[j]? = some p1 → ∃ cv kv hv, FunAt w b (o + j * 5) p1 cv kv hv) := o1
  clear e1 e2 o1
  have b0 : Below w.heap.size w (w.alloc (.cells #[.slice x1 n1 c1, .slice x2 n2 c2] 34)) := (Below.refl _ _).alloc (Nat.le_refl _) _
  have hG : (w.alloc (.cells #[.slice x1 n1 c1, .slice x2 n2 c2] 34)).heap[w.heap.size]? = some (.cells #[.slice x1 n1 c1, .slice x2 n2 c2] 34 (0, 0)) := heap_alloc_new w _
  obtain ⟨W0, hW0⟩ : ∃ W, w.alloc (.cells #[.slice x1 n1 c1, .slice x2 n2 c2] 34) = W := ⟨_, rfl⟩
  rw [hW0] at b0 hG
  have HW0 : Hid (_ = W0) := hW0
  clear hW0
  obtain ⟨F, eF⟩ : ∃ x, stB p k = x := ⟨_, rfl⟩
  rw [eF]
  have HF : Hid (stB p k = F) := eF
  clear eF
  have cO := iImageOk_any p _ _ W0 (HI.out.below b0) hw
  obtain ⟨OK, hOK⟩ : ∃ b, imgOk p = b := ⟨_, rfl⟩
  simp only [hOK] at cO
  have HOK : Hid (imgOk p = OK) := hOK
  clear hOK
  obtain ⟨i0, i1⟩ := two_cells_of hG
  have hNo : ∀ (W : World), Below w.heap.size w W → Hid (ISta p k false (.slice none 0 0) (.slice none 0 0) w W) := fun W hW => ⟨hW, fun _ => ⟨rfl, rfl⟩, fun h => by cases h⟩
  cases OK with
  | false =>
    have hF : F = false := by
      rw [← HF.out]
      unfold stB
      rw [HOK.out]
      rfl
    subst hF
    go_enter Tryz.func7, Tryz.ntmps7
    go_upto_region 1 with fail
    rw [HW0.out]
    clear HW0
    go_wp2_with (go_at_call 23; (with_reducible refine cO.mono ?_); rintro e w4 ⟨rfl, hb4⟩)
    have HE := hNo _ (chain b0 hb4)
    go_returns
    exact ⟨_, _, rfl, HE.out⟩
  | true =>
  have cL := fun W => iIsInFunc x1 n1 c1 k W (by unfold maxLen; omega)
  obtain ⟨PK, hPK⟩ : ∃ b, inB k 0 ((n1 : Int) - 1) = b := ⟨_, rfl⟩
  simp only [hPK] at cL
  have HPK : Hid (inB k 0 ((n1 : Int) - 1) = PK) := hPK
  clear hPK
  have hX4 : ∀ W, Below W0.heap.size W0 W → W.cell? ⟨w.heap.size, 0, none⟩ = some (.slice x1 n1 c1) ∧ W.cell? ⟨w.heap.size, 1, none⟩ = some (.slice x2 n2 c2) := fun W hW => two_cells_of ((hW.block _ (lt16 hG)).trans hG)
  cases PK with
  | false =>
    have hF : F = false := by
      rw [← HF.out]
      unfold stB
      rw [HOK.out, HL.out, HPK.out]
      rfl
    subst hF
    go_enter Tryz.func7, Tryz.ntmps7
    go_upto_region 1 with fail
    rw [HW0.out]
    clear HW0
    go_wp2_with (first | (go_at_call 23; (with_reducible refine cO.mono ?_); rintro e w4 ⟨rfl, hb4⟩; have y0 := (hX4 _ hb4).1; have y1 := (hX4 _ hb4).2; have HB4 : Hid (Below W0.heap.size W0 w4) := hb4; clear hb4) | (go_at_call 24; (with_reducible refine (cL _).mono ?_); rintro e w' ⟨rfl, rfl⟩))
    have HE := hNo _ (chain b0 HB4.out)
    go_returns
    exact ⟨_, _, rfl, HE.out⟩
  | true =>
  have hin := HPK.out
  unfold inB at hin
  simp only [Bool.and_eq_true, decide_eq_true_eq] at hin
  obtain ⟨K, rfl⟩ : ∃ K : Nat, k = (K : Int) := ⟨k.toNat, by omega⟩
  have hK1 : (K : Int) < (n1 : Int) := by omega
  have hK0 : (0 : Int) ≤ (K : Int) := by omega
  obtain ⟨f, hf⟩ : ∃ f, p.funcs[K]? = some f := ⟨_, List.getElem?_eq_getElem (by have := HL.out; omega)⟩
  have HFF : Hid (p.funcs[K]? = some f) := hf
  have hFl : F = letB p f := by
    rw [← HF.out]
    unfold stB
    rw [HOK.out, HL.out, HPK.out, Int.toNat_natCast, hf]
    rfl
  have HFL : Hid (F = letB p f) := hFl
  have hfok := (imgOk_le HOK.out).funsOk f (List.mem_of_getElem? hf)
  obtain ⟨b, o, rfl, hbl, hcell⟩ := HO.out (by omega)
  obtain ⟨qc, qk, qh, hFA⟩ := hcell K f hf
  have HFA : Hid (FunAt w b (o + K * 5) f qc qk qh) := hFA
  have cT0 := fun W (hW : Below w.heap.size w W) => iTrace p f f.code.length f.regs.toNat _ _ _ _ _ W ⟨HI.out.below hW, HFA.out.v.below hW, HOK.out, hfok, rfl, rfl⟩
  have hn3 : f.code.length ≤ 300 := by
    have h := hfok
    unfold funOk inB at h
    simp only [Bool.and_eq_true, decide_eq_true_eq] at h
    omega
  obtain ⟨xc, cc, rfl, _, _⟩ := hFA.caps.opened capC_len
  obtain ⟨xk, ck, rfl, _, _⟩ := hFA.code.opened insC_len
  obtain ⟨xh, ch, rfl, _, _⟩ := hFA.hnds.opened hndC_len
  obtain ⟨PA, ePA⟩ : ∃ k, f.params = k := ⟨_, rfl⟩
  obtain ⟨RE, eRE⟩ : ∃ k, f.regs = k := ⟨_, rfl⟩
  obtain ⟨nc, e1⟩ : ∃ k, f.caps.length = k := ⟨_, rfl⟩
  obtain ⟨n, e2⟩ : ∃ k, f.code.length = k := ⟨_, rfl⟩
  obtain ⟨nh, e3⟩ : ∃ k, f.hnds.length = k := ⟨_, rfl⟩
  have g0 := hFA.c0
  have g1 := hFA.c1
  have g2 := hFA.c2
  have g3 := hFA.c3
  have g4 := hFA.c4
  have hfl := HL.out
  simp only [ePA, eRE, e1, e2, e3] at cT0 hn3 g0 g1 g2 g3 g4
  have cT := fun W (hW : Below w.heap.size w W) => (cT0 W hW).mono (fun e w' (hh : ∃ (X S H L K : Nat) (r : RunP) (fi : Nat), e = .returned (.agg #[_, _, .int .i64 PA, .int .i64 RE, .slice xc nc cc, .slice xk n ck, .slice xh nh ch, .slice (some ⟨S, 0, none⟩) n n, .slice (some ⟨H, 0, none⟩) n n, .slice (some ⟨L, 0, none⟩) n n, .int .i64 (fi : Int), .int .i64 (((fi + r.todo.length) % n : Nat) : Int), .slice (some ⟨K, 0, none⟩) n n, .bool r.bad]) ∧ TAt X S H L K n W.heap.size _ _ PA RE _ _ _ r fi w' ∧ RunInv p f r ∧ (r.bad = true ∨ r.todo = []) ∧ Below W.heap.size W w') => show ∃ (S H L Kk : Nat) (k1 k2 : Int), e = .returned (.agg #[.slice (some ⟨b, o, none⟩) n1 c1, .slice x2 n2 c2, .int .i64 PA, .int .i64 RE, .slice xc nc cc, .slice xk n ck, .slice xh nh ch, .slice (some ⟨S, 0, none⟩) n n, .slice (some ⟨H, 0, none⟩) n n, .slice (some ⟨L, 0, none⟩) n n, .int .i64 k1, .int .i64 k2, .slice (some ⟨Kk, 0, none⟩) n n, .bool (!F)]) ∧ Hid (TRes p f S H L Kk n W.heap.size PA RE (!F) w') ∧ Hid (Below W.heap.size W w') by
    obtain ⟨X, S, H, L, Kk, r, fi, e1, hT, I, e2, e3⟩ := hh
    have hb : r.bad = !F := by rw [HFL.out]; exact bad_let I e2
    rw [hb] at e1
    exact ⟨S, H, L, Kk, _, _, e1, ⟨X, r, fi, _, _, _, _, _, hT, I, e2, hb⟩, e3⟩)
  have HK : Hid (∀ W, Below w.heap.size w W → W.cell? ⟨b, o + K * 5, none⟩ = some (.int .i64 PA) ∧ W.cell? ⟨b, o + K * 5 + 1, none⟩ = some (.int .i64 RE) ∧ W.cell? ⟨b, o + K * 5 + 2, none⟩ = some (.slice xc nc cc) ∧ W.cell? ⟨b, o + K * 5 + 3, none⟩ = some (.slice xk n ck) ∧ W.cell? ⟨b, o + K * 5 + 4, none⟩ = some (.slice xh nh ch)) := fun W hW => ⟨(hW.cell hbl).trans g0, (hW.cell hbl).trans g1, (hW.cell hbl).trans g2, (hW.cell hbl).trans g3, (hW.cell hbl).trans g4⟩
  have HN3 : Hid (n ≤ 300 ∧ f.code.length = n) := ⟨hn3, e2⟩
  clear hf hFl hin hfok hcell hFA cT0 ePA eRE e1 e2 e3 g0 g1 g2 g3 g4 HO HFA hfl hn3
  go_enter Tryz.func7, Tryz.ntmps7
  go_upto_region 1 with fail
  rw [HW0.out]
  clear HW0
  go_upto_region 3 with (first | (go_at_call 23; (with_reducible refine cO.mono ?_); rintro e w4 ⟨rfl, hb4⟩; have y0 := (hX4 _ hb4).1; have y1 := (hX4 _ hb4).2; have HB4 : Hid (Below W0.heap.size W0 w4) := hb4; clear hb4) | (go_at_call 24; (with_reducible refine (cL _).mono ?_); rintro e w' ⟨rfl, rfl⟩))
  have B4 : Below w.heap.size w w4 := chain b0 HB4.out
  have HK4 : Hid (∀ W, Below w4.heap.size w4 W → (W.cell? ⟨w.heap.size, 0, none⟩ = some (.slice (some ⟨b, o, none⟩) n1 c1) ∧ W.cell? ⟨w.heap.size, 1, none⟩ = some (.slice x2 n2 c2)) ∧ W.cell? ⟨b, o + K * 5, none⟩ = some (.int .i64 PA) ∧ W.cell? ⟨b, o + K * 5 + 1, none⟩ = some (.int .i64 RE) ∧ W.cell? ⟨b, o + K * 5 + 2, none⟩ = some (.slice xc nc cc) ∧ W.cell? ⟨b, o + K * 5 + 3, none⟩ = some (.slice xk n ck) ∧ W.cell? ⟨b, o + K * 5 + 4, none⟩ = some (.slice xh nh ch)) := fun W hW => ⟨hX4 W (chain HB4.out hW), HK.out W (chain B4 hW)⟩
  have cT4 := fun W (hW : Below w4.heap.size w4 W) => cT W (chain B4 hW)
  clear cT cL cO y0 y1 hX4 i0 i1 HK
  have HB4w : Hid (Below w.heap.size w w4) := B4
  clear B4
  go_cut [7] (fun pv wr => ∃ (C S H : Nat), pv = .pointer (some ⟨C, 0, none⟩) ∧ Hid (TMade p f C w wr (!F) S H n))
  case first =>
    have bZ : ∀ (W : World), Below W.heap.size W (W.alloc (.cells #[.slice none 0 0, .slice none 0 0, .int .i64 0, .int .i64 0, .slice none 0 0, .slice none 0 0, .slice none 0 0, .slice none 0 0, .slice none 0 0, .slice none 0 0, .int .i64 0, .int .i64 0, .slice none 0 0, .bool false] 66)).drew := fun W => ((Below.refl _ _).alloc (Nat.le_refl _) _).drew
    have bZ' : ∀ (W : World), Below W.heap.size W (W.alloc (.cells #[.slice none 0 0, .slice none 0 0, .int .i64 0, .int .i64 0, .slice none 0 0, .slice none 0 0, .slice none 0 0, .slice none 0 0, .slice none 0 0, .slice none 0 0, .int .i64 0, .int .i64 0, .slice none 0 0, .bool false] 66)) := fun W => ((Below.refl _ _).alloc (Nat.le_refl _) _)
    have nZ : ∀ (W : World), (W.alloc (.cells #[.slice none 0 0, .slice none 0 0, .int .i64 0, .int .i64 0, .slice none 0 0, .slice none 0 0, .slice none 0 0, .slice none 0 0, .slice none 0 0, .slice none 0 0, .int .i64 0, .int .i64 0, .slice none 0 0, .bool false] 66)).heap[W.heap.size]? = some (.cells #[.slice none 0 0, .slice none 0 0, .int .i64 0, .int .i64 0, .slice none 0 0, .slice none 0 0, .slice none 0 0, .slice none 0 0, .slice none 0 0, .slice none 0 0, .int .i64 0, .int .i64 0, .slice none 0 0, .bool false] 66 (0, 0)) := fun W => heap_alloc_new W _
    have nZd : ∀ (W : World), (W.alloc (.cells #[.slice none 0 0, .slice none 0 0, .int .i64 0, .int .i64 0, .slice none 0 0, .slice none 0 0, .slice none 0 0, .slice none 0 0, .slice none 0 0, .slice none 0 0, .int .i64 0, .int .i64 0, .slice none 0 0, .bool false] 66)).drew.heap[W.heap.size]? = some (.cells #[.slice none 0 0, .slice none 0 0, .int .i64 0, .int .i64 0, .slice none 0 0, .slice none 0 0, .slice none 0 0, .slice none 0 0, .slice none 0 0, .slice none 0 0, .int .i64 0, .int .i64 0, .slice none 0 0, .bool false] 66 (0, 0)) := fun W => heap_alloc_new W _
    have bD : ∀ (W : World), Below W.heap.size W W.drew := fun W => (Below.refl _ _).drew
    have bO : ∀ (W : World) (o : Obj), Below W.heap.size W (W.alloc o) := fun W o => (Below.refl _ _).alloc (Nat.le_refl _) o
    have hA2 : ∀ (V W : World), Below w4.heap.size w4 V → Below V.heap.size V W → Hid (Below w4.heap.size w4 W) := fun V W h1 h2 => chain h1 h2
    have hK2 : ∀ (C : Nat) (V W : World), V.heap[C]? = some (.cells #[.slice none 0 0, .slice none 0 0, .int .i64 0, .int .i64 0, .slice none 0 0, .slice none 0 0, .slice none 0 0, .slice none 0 0, .slice none 0 0, .slice none 0 0, .int .i64 0, .int .i64 0, .slice none 0 0, .bool false] 66 (0, 0)) → Below V.heap.size V W → Hid (W.heap[C]? = some (.cells #[.slice none 0 0, .slice none 0 0, .int .i64 0, .int .i64 0, .slice none 0 0, .slice none 0 0, .slice none 0 0, .slice none 0 0, .slice none 0 0, .slice none 0 0, .int .i64 0, .int .i64 0, .slice none 0 0, .bool false] 66 (0, 0))) := fun C V W h hb => (hb.block _ (lt16 h)).trans h
    have hB4s := HB4w.out.size
    have hEndA : ∀ (W : World) (S H L Kk B : Nat) (k1 k2 : Int), w4.heap.size ≤ B → Hid (TRes p f S H L Kk n B PA RE (!F) W) → Hid (Below w4.heap.size w4 W) → Hid (TMade p f W.heap.size w (W.alloc (.cells #[.slice (some ⟨b, o, none⟩) n1 c1, .slice x2 n2 c2, .int .i64 PA, .int .i64 RE, .slice xc nc cc, .slice xk n ck, .slice xh nh ch, .slice (some ⟨S, 0, none⟩) n n, .slice (some ⟨H, 0, none⟩) n n, .slice (some ⟨L, 0, none⟩) n n, .int .i64 k1, .int .i64 k2, .slice (some ⟨Kk, 0, none⟩) n n, .bool (!F)] 66)) (!F) S H n) := fun W S H L Kk B k1 k2 hB hT hb => by
      obtain ⟨X, r, fi, u1, u2, u3, u4, u5, hT, hI, hE, hbd⟩ := hT.out
      have c := cells14 (heap_alloc_new W (.cells #[.slice (some ⟨b, o, none⟩) n1 c1, .slice x2 n2 c2, .int .i64 PA, .int .i64 RE, .slice xc nc cc, .slice xk n ck, .slice xh nh ch, .slice (some ⟨S, 0, none⟩) n n, .slice (some ⟨H, 0, none⟩) n n, .slice (some ⟨L, 0, none⟩) n n, .int .i64 k1, .int .i64 k2, .slice (some ⟨Kk, 0, none⟩) n n, .bool (!F)] 66))
      exact ⟨⟨L, Kk, B, PA, RE, ⟨X, r, fi, u1, u2, u3, u4, u5, hT.below (bO _ _), hI, hE, hbd⟩, by omega⟩, c.2.2.2.2.2.2.2.1, c.2.2.2.2.2.2.2.2.1, c.2.2.2.2.2.2.2.2.2.2.2.2.2, chain (chain HB4w.out hb.out) (bO _ _)⟩
    have hEndB : ∀ (W : World) (S H L Kk B : Nat) (k1 k2 : Int), w4.heap.size < B → Hid (TRes p f S H L Kk n B PA RE (!F) W) → Hid (Below w4.heap.size w4 W) → Hid (W.heap[w4.heap.size]? = some (.cells #[.slice none 0 0, .slice none 0 0, .int .i64 0, .int .i64 0, .slice none 0 0, .slice none 0 0, .slice none 0 0, .slice none 0 0, .slice none 0 0, .slice none 0 0, .int .i64 0, .int .i64 0, .slice none 0 0, .bool false] 66 (0, 0))) → Hid (TMade p f w4.heap.size w ((((((((((((((W.setCell ⟨w4.heap.size, 0, none⟩ (.slice (some ⟨b, o, none⟩) n1 c1)).setCell ⟨w4.heap.size, 1, none⟩ (.slice x2 n2 c2)).setCell ⟨w4.heap.size, 2, none⟩ (.int .i64 PA)).setCell ⟨w4.heap.size, 3, none⟩ (.int .i64 RE)).setCell ⟨w4.heap.size, 4, none⟩ (.slice xc nc cc)).setCell ⟨w4.heap.size, 5, none⟩ (.slice xk n ck)).setCell ⟨w4.heap.size, 6, none⟩ (.slice xh nh ch)).setCell ⟨w4.heap.size, 7, none⟩ (.slice (some ⟨S, 0, none⟩) n n)).setCell ⟨w4.heap.size, 8, none⟩ (.slice (some ⟨H, 0, none⟩) n n)).setCell ⟨w4.heap.size, 9, none⟩ (.slice (some ⟨L, 0, none⟩) n n)).setCell ⟨w4.heap.size, 10, none⟩ (.int .i64 k1)).setCell ⟨w4.heap.size, 11, none⟩ (.int .i64 k2)).setCell ⟨w4.heap.size, 12, none⟩ (.slice (some ⟨Kk, 0, none⟩) n n)).setCell ⟨w4.heap.size, 13, none⟩ (.bool (!F))) (!F) S H n) := fun W S H L Kk B k1 k2 hB hT hb hZ => by
      obtain ⟨X, r, fi, u1, u2, u3, u4, u5, hT, hI, hE, hbd⟩ := hT.out
      have hlo := hT.lo
      have c := cells14 (set14 hZ.out (.slice (some ⟨b, o, none⟩) n1 c1) (.slice x2 n2 c2) (.int .i64 PA) (.int .i64 RE) (.slice xc nc cc) (.slice xk n ck) (.slice xh nh ch) (.slice (some ⟨S, 0, none⟩) n n) (.slice (some ⟨H, 0, none⟩) n n) (.slice (some ⟨L, 0, none⟩) n n) (.int .i64 k1) (.int .i64 k2) (.slice (some ⟨Kk, 0, none⟩) n n) (.bool (!F)))
      exact ⟨⟨L, Kk, B, PA, RE, ⟨X, r, fi, u1, u2, u3, u4, u5, hT.out14 hZ.out (by unfold Own5; omega) _ _ _ _ _ _ _ _ _ _ _ _ _ _, hI, hE, hbd⟩, by omega⟩, c.2.2.2.2.2.2.2.1, c.2.2.2.2.2.2.2.2.1, c.2.2.2.2.2.2.2.2.2.2.2.2.2, bel_set14 (chain HB4w.out hb.out) hB4s _ _ _ _ _ _ _ _ _ _ _ _ _ _⟩
    have hLt : ∀ (W : World) (o : Obj), Below w4.heap.size w4 W → w4.heap.size < (W.alloc o).heap.size ∧ w4.heap.size < (W.alloc o).drew.heap.size := fun W o h => ⟨by have := h.size; simp; omega, by have := h.size; simp [World.drew]; omega⟩
    go_region_held_law (fun W => (W.cell? ⟨w.heap.size, 0, none⟩ = some (.slice (some ⟨b, o, none⟩) n1 c1) ∧ W.cell? ⟨w.heap.size, 1, none⟩ = some (.slice x2 n2 c2)) ∧ W.cell? ⟨b, o + K * 5, none⟩ = some (.int .i64 PA) ∧ W.cell? ⟨b, o + K * 5 + 1, none⟩ = some (.int .i64 RE) ∧ W.cell? ⟨b, o + K * 5 + 2, none⟩ = some (.slice xc nc cc) ∧ W.cell? ⟨b, o + K * 5 + 3, none⟩ = some (.slice xk n ck) ∧ W.cell? ⟨b, o + K * 5 + 4, none⟩ = some (.slice xh nh ch))
      (exact HK4.out _ (by first | with_reducible exact bel_set14 HBT.out (Nat.le_refl _) _ _ _ _ _ _ _ _ _ _ _ _ _ _ | with_reducible exact HBT.out | with_reducible exact RowKit.Below.drew HBT.out | with_reducible exact chain HBT.out (bO _ _) | with_reducible exact chain HBT.out (RowKit.Below.drew (bO _ _)) | with_reducible exact Below.refl _ _ | with_reducible exact (Below.refl _ _).drew | with_reducible exact bZ _ | with_reducible exact bZ' _))
      (first
        | (go_at_call 25; (with_reducible refine (cT4 _ (by first | with_reducible exact bZ _ | with_reducible exact bZ' _)).mono ?_); rintro e wt ⟨S, H, L, Kk, k1, k2, rfl, HT, hbT⟩; have HBT := hA2 _ _ (by first | with_reducible exact bZ _ | with_reducible exact bZ' _) hbT.out; have HCT := hK2 w4.heap.size _ _ (by first | with_reducible exact nZd _ | with_reducible exact nZ _) hbT.out; have pz := cells14 HCT.out; obtain ⟨z0, z1, z2, z3, z4, z5, z6, z7, z8, z9, z10, z11, z12, z13⟩ := pz; have fz := fun i => frozen_of_row wt _ i _ _ HCT.out)
        | (go_at_call 25; (with_reducible refine (cT4 _ (by first | with_reducible exact Below.refl _ _ | with_reducible exact bD _)).mono ?_); rintro e wt ⟨S, H, L, Kk, k1, k2, rfl, HT, hbT⟩; have HBT := hA2 _ _ (by first | with_reducible exact Below.refl _ _ | with_reducible exact bD _) hbT.out))
    all_goals
      first
        | (have HE := hEndB wt S H L Kk _ k1 k2 (by first | exact (hLt _ _ (Below.refl _ _)).1 | exact (hLt _ _ (Below.refl _ _)).2) HT HBT HCT
           clear HK4 cT4 hEndA hEndB bZ bZ' nZ bD hA2 nZd hK2 bO hLt
           go_wp2
           go_meet
           case rel => exact ⟨_, _, _, rfl, HE⟩)
        | (have HE := hEndA wt S H L Kk _ k1 k2 (by first | exact Nat.le_refl _ | exact (bD _).size) HT HBT
           clear HK4 cT4 hEndA hEndB bZ bZ' nZ bD hA2 nZd hK2 bO hLt
           go_wp2
           go_meet
           case rel => exact ⟨_, _, _, rfl, HE⟩)
  case rest =>
    obtain ⟨C, S, H, rfl, HM⟩ := hcut
    have m7 := HM.out.c7
    have m8 := HM.out.c8
    have m13 := HM.out.c13
    clear HK4 cT4 HB4 HB4w
    cases F with
    | false =>
      have HE := hNo wc HM.out.bel
      have m13' : wc.cell? ⟨C, 13, none⟩ = some (.bool true) := m13
      clear HM hNo m13 m7 m8
      go_wp2
      go_returns
      exact ⟨_, _, rfl, HE.out⟩
    | true =>
      have m13' : wc.cell? ⟨C, 13, none⟩ = some (.bool false) := m13
      have HE : Hid (∀ W, Below wc.heap.size wc W → ISta p (K : Int) true (.slice (some ⟨S, 0, none⟩) n n) (.slice (some ⟨H, 0, none⟩) n n) w W) := fun W hW => by
        obtain ⟨⟨L, Kk, B, PA, RE, ⟨X, r, fi, u1, u2, u3, u4, u5, hT, hI, hE, hbd⟩, hBB⟩, _, _, _, hbel⟩ := HM.out
        have hTW := hT.below hW
        obtain ⟨rv, st, hS, hs⟩ := hTW.states
        have hb2 : r.bad = false := hbd
        have hbo := hTW.hits HN3.out.1
        have hlo := hT.lo
        have dn : ∀ {v : Value} {l : List Int}, OwnI W B v l → OwnI W w.heap.size v l := fun h => row_low h hBB
        refine ⟨chain hbel hW, fun h => (by cases h), fun _ => ⟨K, f, r, S, H, n, rv, st, rfl, HFF.out, hI, ?_, hb2, hT.ll, hT.hl, HN3.out.1, hs, rfl, rfl, by omega, ⟨hS.row, fun q hq => dn (hS.regs q hq), hS.apart⟩, row_low hbo hBB⟩⟩
        rcases hE with h | h
        · rw [hb2] at h; cases h
        · exact h
      clear HM hNo m13
      go_wp2
      go_quiet (fail)
      go_wp2
      go_returns
      exact ⟨_, _, rfl, HE.out _ (below_drewN (Below.refl _ _) _)⟩
end Go.Proofs.YtheofdiaenlbgaaGreat
