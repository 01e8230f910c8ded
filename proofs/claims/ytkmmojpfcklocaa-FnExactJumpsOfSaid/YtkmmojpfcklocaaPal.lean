/-
  Part 12 of what is proved of drawn right trees.
-/
import Derived.Test.YtkmmojpfcklocaaPak
import Derived.Deep.RegionHeld3
import Derived.Test.YtkmmojpfcklocaaPac

namespace Go.Proofs.Ytkmmojpfcklocaa
open Go.RowKit
set_option linter.unusedVariables false
def conG (c u : Nat) : Value := if c = 0 then .int .i64 (u : Int) else if c = 1 then .int .u64 (u : Int) else .string (markOf u)
set_option maxHeartbeats 1000000 in
set_option maxRecDepth 100000 in
theorem markConstS_f (B : Nat) (v : Value) (n k : Nat) (ys : List Value) (w : World) (hv : w.ownsRow B 71 3 v n ys) (hl : n ≤ 8000000) (hk1 : 1 ≤ k) (hk : k ≤ 900000000) :
    Calls Try.prog 26 #[v, .int .i64 k] w fun e w' => e = .returned (.int .i64 ((k + n * 3 : Nat) : Int)) ∧ w'.ownsRow B 71 3 v n (mkv 3 conG k (n * 3)) ∧ w.grownBy w' v.ownBlock := by
  obtain ⟨x, c, rfl⟩ := row_slice hv
  have hm : n ≤ 9223372036854775807 := by omega
  by_cases h0 : n = 0
  · subst h0
    have hE : ys = mkv 3 conG k (0 * 3) := mkv_is (by have := hv.1; omega) (fun q hq => by omega)
    rw [hE] at hv
    clear hE
    go_enter Try.func26, Try.ntmps26
    go_wp2
    go_loop [1, 5] (fun y i => y = .int .i64 k ∧ i = .int .i64 0) (fun _ _ => 0)
    case atStart => exact ⟨rfl, rfl⟩
    case round =>
      obtain ⟨rfl, rfl⟩ := hrel
      go_wp2
      go_ret
      exact ⟨by simp, hv, grown_is _ _⟩
  obtain ⟨g, rfl⟩ : ∃ g, x = some ⟨g, 0, none⟩ := by
    rcases hv.2 with ⟨e1, e2⟩ | ⟨g, cap, cur, e1, _⟩
    · exact absurd e2 h0
    · simp only [Value.slice.injEq] at e1
      exact ⟨g, e1.1⟩
  have HV : Hid _ := hv
  clear hv
  go_enter Try.func26, Try.ntmps26
  go_wp2
  go_loopw [1, 5] (fun y j wr => ∃ (i U : Nat) (xs : List Value), i ≤ n ∧ y = .int .i64 (U : Int) ∧ j = .int .i64 i ∧ Hid (U = k + i * 3) ∧ 1 ≤ U ∧ U ≤ 924000000 ∧ Hid (∀ q, q < i * 3 → xs[q]? = some (conG (q % 3) (k + q))) ∧ Hid (wr.ownsRow B 71 3 (.slice (some ⟨g, 0, none⟩) n c) n xs) ∧ w.grownBy wr (some g)) (fun _ j _ => n - (intOf j).toNat)
  case atStart => exact ⟨0, k, ys, Nat.zero_le _, rfl, rfl, by show k = _; omega, hk1, by omega, fun q hq => by omega, HV, grown_is _ _⟩
  case round =>
    obtain ⟨i, U, xs, hi, rfl, rfl, HU, hU1, hU, HY, HO, hgr⟩ := hrel
    by_cases hin : i < n
    · have hii : (i : Int) < (n : Int) := by omega
      have hi0 : (0 : Int) ≤ (i : Int) := by omega
      have hxl : xs.length = n * 3 := HO.out.1
      have hb3 : i * 3 + 3 ≤ n * 3 := by have := Nat.mul_le_mul_right 3 (show i + 1 ≤ n by omega); omega
      obtain ⟨⟨u0, hu0⟩, hf0⟩ := row_cell HO.out (i * 3) (by omega)
      obtain ⟨⟨u1, hu1⟩, hf1⟩ := row_cell HO.out (i * 3 + 1) (by omega)
      have s0 := World.ownsRow.stored HO.out (i * 3) (.int .i64 (U : Int))
      have s1 := World.ownsRow.stored s0.1 (i * 3 + 1) (.int .u64 ((U : Int) + 1))
      have HS1 : Hid _ := s1.1
      have HG1 : Hid (w.grownBy ((wr.setCell ⟨g, i * 3, none⟩ (.int .i64 (U : Int))).setCell ⟨g, i * 3 + 1, none⟩ (.int .u64 ((U : Int) + 1))) (some g)) := (hgr.trans s0.2).trans s1.2
      have HY2 : Hid (∀ q, q < (i + 1) * 3 → (((xs.set (i * 3) (.int .i64 (U : Int))).set (i * 3 + 1) (.int .u64 ((U : Int) + 1))).set (i * 3 + 2) (.string (markOf (U + 2))))[q]? = some (conG (q % 3) (k + q))) := fun q hq => by
        have hUU := HU.out
        rcases Nat.lt_or_ge q (i * 3) with h1 | h1
        · rw [List.getElem?_set_ne (by omega), List.getElem?_set_ne (by omega), List.getElem?_set_ne (by omega)]
          exact HY.out q h1
        · have hq3 : q = i * 3 ∨ q = i * 3 + 1 ∨ q = i * 3 + 2 := by omega
          rcases hq3 with rfl | rfl | rfl
          · rw [List.getElem?_set_ne (by omega), List.getElem?_set_ne (by omega), List.getElem?_set_self (by omega)]
            unfold conG
            rw [if_pos (by omega)]
            congr 2
            omega
          · rw [List.getElem?_set_ne (by omega), List.getElem?_set_self (by simp only [List.length_set]; omega)]
            unfold conG
            rw [if_neg (by omega), if_pos (by omega)]
            congr 2
            omega
          · rw [List.getElem?_set_self (by simp only [List.length_set]; omega)]
            unfold conG
            rw [if_neg (by omega), if_neg (by omega)]
            congr 3
            omega
      have hU2 : U + 3 ≤ 924000000 := by
        have := HU.out
        omega
      have HU2 : Hid (U + 3 = k + (i + 1) * 3) := by
        have := HU.out
        show _ = _
        omega
      have cM := fun W => markText_at (U + 2) (x := (U : Int) + 1 + 1) (by omega) W (by omega) (by omega)
      clear s0 s1
      go_wp2_with fail
      refine (cM _).mono ?_
      rintro e w2 ⟨rfl, hb2⟩
      have o2 := row_keep HS1.out hb2
      have g2 := HG1.out.trans (World.grownBy.mk hb2.os hb2.tape hb2.output hb2.size (fun q hq _ => hb2.block q hq) : World.grownBy _ w2 (some g))
      obtain ⟨⟨u2, hu2⟩, hf2⟩ := row_cell o2 (i * 3 + 2) (by omega)
      have s2 := World.ownsRow.stored o2 (i * 3 + 2) (.string (markOf (U + 2)))
      have HS2 : Hid _ := s2.1
      have HG2 : Hid _ := g2.trans s2.2
      clear o2 g2 s2 hxl
      go_wp2
      go_roundw
      case rel => exact ⟨i + 1, U + 3, _, by omega, by go_num, by go_num, HU2, by omega, hU2, HY2, HS2.out, HG2.out⟩
      case measure => simp [intOf]; omega
    · have e : i = n := by omega
      subst e
      have hE : xs = mkv 3 conG k (i * 3) := mkv_is HO.out.1 HY.out
      have hO := HO.out
      rw [hE] at hO
      have hUU := HU.out
      subst hUU
      clear HY HO HV hE
      go_wp2
      go_ret
      exact ⟨rfl, hO, hgr⟩
end Go.Proofs.Ytkmmojpfcklocaa
namespace Go.Proofs.Ytkmmojpfcklocaa
open Go.RowKit
set_option linter.unusedVariables false
def ImgOwn (w : World) (B : Nat) (fv cv : Value) (p : PImg) (fs : List FSh) : Prop :=
  fs.length = p.funcs.length ∧ FApart fs ∧ w.ownsRow B 71 3 cv p.consts.length (p.consts.flatMap conC) ∧
  ∃ xs, w.ownsRow B 47 5 fv p.funcs.length xs ∧ ∀ q f r, fs[q]? = some f → p.funcs[q]? = some r → (∀ j u, (funC r f.cv f.kv f.hv)[j]? = some u → xs[q * 5 + j]? = some u) ∧ f.nc = r.caps.length ∧ f.nk = r.code.length ∧ f.nh = r.hnds.length ∧ w.ownsRow B 90 2 f.cv r.caps.length (r.caps.flatMap capC) ∧ w.ownsRow B 49 3 f.kv r.code.length (r.code.flatMap insC) ∧ w.ownsRow B 92 3 f.hv r.hnds.length (r.hnds.flatMap hndC)
theorem ImgOwn.isIn {w : World} {B : Nat} {fv cv : Value} {p : PImg} {fs : List FSh} (h : ImgOwn w B fv cv p fs) : ImgIn w B fv cv p := by
  obtain ⟨h1, _, h3, xs, h4, h5⟩ := h
  refine ⟨⟨xs, h4, fun q r hq => ?_⟩, h3⟩
  obtain ⟨f, hf⟩ : ∃ f, fs[q]? = some f := ⟨_, List.getElem?_eq_getElem (by have := (List.getElem?_eq_some_iff.1 hq).1; omega)⟩
  obtain ⟨a, _, _, _, b1, b2, b3⟩ := h5 q f r hf hq
  exact ⟨f.cv, f.kv, f.hv, a, b1, b2, b3⟩
theorem ImgOwn.frow {w : World} {B g c : Nat} {cv : Value} {p : PImg} {fs : List FSh} {k : Nat} (h : ImgOwn w B (.slice (some ⟨g, 0, none⟩) fs.length c) cv p fs) : FRow w B g c fs k 0 ∧ PRow w B fs k 0 0 := by
  obtain ⟨h1, _, h3, xs, h4, h5⟩ := h
  have pr : ∀ {q : Nat} {f : FSh}, fs[q]? = some f → ∃ r, p.funcs[q]? = some r := fun {q f} hq => ⟨_, List.getElem?_eq_getElem (by have := (List.getElem?_eq_some_iff.1 hq).1; omega)⟩
  refine ⟨⟨xs, by rw [h1] at h4 ⊢; exact h4, fun q f hq => ?_⟩, fun q f hq => ?_⟩
  · obtain ⟨r, hr⟩ := pr hq
    obtain ⟨a, _⟩ := h5 q f r hq hr
    exact ⟨a 2 _ rfl, a 3 _ rfl, a 4 _ rfl, fun hh => by omega⟩
  · obtain ⟨r, hr⟩ := pr hq
    obtain ⟨_, e1, e2, e3, b1, b2, b3⟩ := h5 q f r hq hr
    exact ⟨_, _, _, by rw [e1]; exact b1, by rw [e2]; exact b2, by rw [e3]; exact b3, fun hh => by omega, fun hh => by omega, fun hh => by omega⟩
def ImgMk (w : World) (fv cv : Value) (fs : List FSh) (m k : Nat) : Prop := (∃ x c, fv = .slice x fs.length c ∧ (0 < fs.length → ∃ b o, x = some ⟨b, o, none⟩ ∧ b < w.heap.size ∧ ∀ q f, fs[q]? = some f → MkAt w b (o + q * 5) (offK fs k q) f)) ∧ ArgFlat w cv 3 m (mkv 3 conG (offK fs k fs.length) (m * 3))
theorem mk_at {w : World} {B g c : Nat} {fs : List FSh} {k : Nat} (hR : FRow w B g c fs k fs.length) (hP : PRow w B fs k fs.length 0) : ∀ q f, fs[q]? = some f → MkAt w g (0 + q * 5) (offK fs k q) f := fun q f hq => by
  have hlt := (List.getElem?_eq_some_iff.1 hq).1
  obtain ⟨c2, c3, c4⟩ := hR.cells hq
  obtain ⟨xs, h1, h2⟩ := hR
  obtain ⟨_, _, _, a4⟩ := h2 q f hq
  obtain ⟨a5, a6⟩ := a4 hlt
  have hc := h1.cells (g := g) rfl
  have hadd : ∀ j, (⟨g, 0, none⟩ : Addr).add j = ⟨g, j, none⟩ := fun j => by unfold Addr.add; split <;> simp_all
  obtain ⟨y1, y2, y3, b1, b2, b3, d1, d2, d3⟩ := hP q f hq
  rw [d1 (.inl hlt)] at b1
  rw [d2 (.inl hlt)] at b2
  rw [d3 (.inl hlt)] at b3
  rw [Nat.zero_add]
  refine ⟨?_, ?_, c2, c3, c4, ArgFlat.of_own b1, ArgFlat.of_own b2, ArgFlat.of_own b3⟩
  · rw [← hadd]; exact hc _ _ a5
  · rw [← hadd]; exact hc _ _ a6
set_option maxHeartbeats 1000000 in
set_option maxRecDepth 100000 in
theorem markFuncS_0 (x : Option Addr) (c k : Nat) (w : World) (hk : k ≤ 8000000) :
    Calls Try.prog 25 #[.slice x 0 c, .int .i64 k] w fun e w' => e = .returned (.int .i64 k) ∧ w = w' := by
  go_enter Try.func25, Try.ntmps25
  go_wp2
  go_loop [1, 5] (fun y i => y = .int .i64 k ∧ i = .int .i64 0) (fun _ _ => 0)
  case atStart => exact ⟨rfl, rfl⟩
  case round =>
    obtain ⟨rfl, rfl⟩ := hrel
    go_wp2
    go_ret
    exact ⟨rfl, rfl⟩
end Go.Proofs.Ytkmmojpfcklocaa
namespace Go.Proofs.Ytkmmojpfcklocaa
open Go.RowKit
set_option linter.unusedVariables false
theorem ImgOwn.below {w w' : World} {B : Nat} {fv cv : Value} {p : PImg} {fs : List FSh} (h : ImgOwn w B fv cv p fs) (hb : Below w.heap.size w w') : ImgOwn w' B fv cv p fs := by
  obtain ⟨h1, h2, h3, xs, h4, h5⟩ := h
  refine ⟨h1, h2, row_keep h3 hb, xs, row_keep h4 hb, fun q f r hq hr => ?_⟩
  obtain ⟨a, e1, e2, e3, b1, b2, b3⟩ := h5 q f r hq hr
  exact ⟨a, e1, e2, e3, row_keep b1 hb, row_keep b2 hb, row_keep b3 hb⟩
theorem OthersKept.const {w w' : World} {B k n : Nat} {v : Value} {xs : List Value} (h : OthersKept w w') (hr : w.ownsRow B 71 k v n xs) : w'.ownsRow B 71 k v n xs := by
  obtain ⟨h1, h2⟩ := hr
  refine ⟨h1, ?_⟩
  rcases h2 with h2 | ⟨g, cap, cur, e, hb, hg, rest⟩
  · exact .inl h2
  · exact .inr ⟨g, cap, cur, e, hb, h g cur _ _ (by decide) (by decide) (by decide) (by decide) hg, rest⟩
theorem PRow.other {w w' : World} {B B2 k2 n : Nat} {fs : List FSh} {k j s : Nat} {v : Value} {ys : List Value} (h : PRow w B fs k j s) (hr : w.ownsRow B2 71 k2 v n ys) (hg : w.grownBy w' v.ownBlock) : PRow w' B fs k j s := fun q f hq => by
  obtain ⟨y1, y2, y3, a1, a2, a3, b⟩ := h q f hq
  exact ⟨y1, y2, y3, row_other hr a1 (by decide) hg, row_other hr a2 (by decide) hg, row_other hr a3 (by decide) hg, b⟩
set_option maxHeartbeats 1000000 in
set_option maxRecDepth 100000 in
theorem markImage_s (Q : Nat → Prop) (B : Nat) (fv cv : Value) (p : PImg) (fs : List FSh) (k : Nat) (w : World) (hq1 : ∀ X, fv.ownBlock = some X → ¬ Q X) (hq2 : NoneOf Q fs) (hq3 : ∀ X, cv.ownBlock = some X → ¬ Q X) (h : ImgOwn w B fv cv p fs) (hB : B ≤ w.heap.size) (hf : Few fs k) (hk : 1 ≤ k) (hm : p.consts.length ≤ 8000000) :
    Calls Try.prog 10 #[.agg #[fv, cv], .int .i64 k] w fun e w' => e = .returned (.int .i64 ((offK fs k fs.length + p.consts.length * 3 : Nat) : Int)) ∧ ImgMk w' fv cv fs p.consts.length k ∧ Below B w w' ∧ (∀ (X : Nat) (cs : Array Value) (T : TypeId) (fr : Nat × Nat), T ≠ 47 → T ≠ 90 → T ≠ 49 → T ≠ 92 → T ≠ 71 → w.heap[X]? = some (.cells cs T fr) → w'.heap[X]? = some (.cells cs T fr)) ∧ Spared Q w w' := by
  obtain ⟨x2, c2, rfl⟩ := row_slice h.2.2.1
  have hrow : ∃ xs, w.ownsRow B 47 5 fv p.funcs.length xs := by
    obtain ⟨_, _, _, xs, h4, _⟩ := h
    exact ⟨xs, h4⟩
  obtain ⟨xs0, hrow⟩ := hrow
  have hlen := h.1
  rw [← hlen] at hrow
  obtain ⟨x1, c1, rfl⟩ := row_slice hrow
  have b0 : Below w.heap.size w (w.alloc (.cells #[.slice x1 fs.length c1, .slice x2 p.consts.length c2] 32)) := (Below.refl _ _).alloc (Nat.le_refl _) _
  have hbox := heap_alloc_new w (.cells #[.slice x1 fs.length c1, .slice x2 p.consts.length c2] 32)
  have H0 := h.below b0
  have hK1 : k ≤ offK fs k fs.length := by have := offK_le fs k 0; rw [offK_0] at this; exact this
  have hK2 := hf.2
  obtain ⟨Z, hZ⟩ : ∃ z, offK fs k fs.length = z := ⟨_, rfl⟩
  have HZ : Hid (offK fs k fs.length = Z) := hZ
  rw [hZ] at hK1 hK2 ⊢
  obtain ⟨W0, hW0⟩ : ∃ W, w.alloc (.cells #[.slice x1 fs.length c1, .slice x2 p.consts.length c2] 32) = W := ⟨_, rfl⟩
  rw [hW0] at b0 hbox H0
  have hbB : Below B w W0 := b0.mono hB
  have HBX : Hid (∀ X o, w.heap[X]? = some o → W0.heap[X]? = some o) := fun X o hX => (b0.block X (box_lt hX)).trans hX
  have cF : Calls Try.prog 25 #[.slice x1 fs.length c1, .int .i64 k] W0 fun e w' => e = .returned (.int .i64 (Z : Nat)) ∧ (0 < fs.length → ∃ g, x1 = some ⟨g, 0, none⟩ ∧ FRow w' B g c1 fs k fs.length ∧ PRow w' B fs k fs.length 0) ∧ Below B W0 w' ∧ OthersKept W0 w' ∧ Spared Q W0 w' := by
    rcases Nat.eq_zero_or_pos fs.length with h0 | h0
    · have hz : Z = k := by
        rw [← hZ, h0, offK_0]
      rw [h0, hz]
      exact (markFuncS_0 x1 c1 k W0 (by omega)).mono fun e w' ⟨e1, e2⟩ => ⟨e1, fun hh => by omega, by rw [← e2]; exact Below.refl _ _, by rw [← e2]; exact OthersKept.refl _, by rw [← e2]; exact Spared.refl _ _⟩
    · obtain ⟨g, rfl⟩ : ∃ g, x1 = some ⟨g, 0, none⟩ := by
        rcases hrow.2 with ⟨_, e2⟩ | ⟨g, cap, cur, e1, _⟩
        · omega
        · simp only [Value.slice.injEq] at e1
          exact ⟨g, e1.1⟩
      have hh := ImgOwn.frow (k := k) H0
      have hc := markFuncS_s Q B g c1 fs k W0 (hq1 g rfl) hq2 hf H0.2.1 h0 hh.1 hh.2
      rw [hZ] at hc
      exact hc.mono fun e w' ⟨e1, e2, e3, e4, e5, e6⟩ => ⟨e1, fun _ => ⟨g, rfl, e2, e3⟩, e4, e5, e6⟩
  have HS0 : Hid (Spared Q w W0) := fun X o _ hX => HBX.out X o hX
  have HQ3 : Hid (∀ X, (Value.slice x2 p.consts.length c2).ownBlock = some X → ¬ Q X) := hq3
  clear hq1 hq2 hq3
  have hrk := H0.2.2.1
  obtain ⟨m, hmm⟩ : ∃ m, p.consts.length = m := ⟨_, rfl⟩
  obtain ⟨n, hn⟩ : ∃ n, fs.length = n := ⟨_, rfl⟩
  have HN : Hid (fs.length = n) := hn
  rw [hmm] at hrk hm hbox HQ3 ⊢
  rw [hn] at cF hbox ⊢
  have HW0 : Hid (w.alloc (.cells #[.slice x1 n c1, .slice x2 m c2] 32) = W0) := by
    show _ = _
    rw [← hW0, hn, hmm]
  have t0 : W0.cell? ⟨w.heap.size, 0, none⟩ = some (.slice x1 n c1) := box_at hbox 0 _ rfl
  have hB0 : B ≤ W0.heap.size := Nat.le_trans hB b0.size
  clear hW0 hZ hn hmm hrow hlen h H0 b0
  go_enter Try.func10, Try.ntmps10
  go_upto_region 1 with fail
  rw [HW0.out]
  clear HW0
  go_wp2_with fail
  refine cF.mono ?_
  rintro e w1 ⟨rfl, hFP, hb1, ho1, hsp1⟩
  have HS1 : Hid (Spared Q w w1) := fun X o hX ho => hsp1 X o hX (HS0.out X o hX ho)
  clear hsp1 HS0
  have hbox1 := ho1 _ _ _ _ (by decide) (by decide) (by decide) (by decide) hbox
  have t1 : w1.cell? ⟨w.heap.size, 1, none⟩ = some (.slice x2 m c2) := box_at hbox1 1 _ rfl
  have hrk1 := ho1.const hrk
  have cC := markConstS_f B _ m Z _ w1 hrk1 hm (by omega) (by omega)
  clear t0 cF
  go_wp2_with fail
  refine cC.mono ?_
  rintro e w2 ⟨rfl, o2, g2⟩
  have HM : Hid (ImgMk w2 (.slice x1 n c1) (.slice x2 m c2) fs m k) := by
    refine ⟨⟨x1, c1, by rw [HN.out], fun h0 => ?_⟩, by rw [HZ.out]; exact ArgFlat.of_own o2⟩
    obtain ⟨g, e1, r1, r2⟩ := hFP (by rw [← HN.out]; exact h0)
    rw [← HN.out] at r1 r2
    have r1' := r1.other hrk1 (by decide) g2
    have r2' := r2.other hrk1 g2
    obtain ⟨cs, hg⟩ := r1'.heap
    exact ⟨g, 0, e1, box_lt hg, mk_at r1' r2'⟩
  have HB : Hid (Below B w w2) := (hbB.trans hb1).grown g2 (Nat.le_trans hB0 hb1.size) (fun Y hY => (own_type hrk1 hY).1)
  have HX2 : Hid (∀ (X : Nat) (cs : Array Value) (T : TypeId) (fr : Nat × Nat), T ≠ 47 → T ≠ 90 → T ≠ 49 → T ≠ 92 → T ≠ 71 → w.heap[X]? = some (.cells cs T fr) → w2.heap[X]? = some (.cells cs T fr)) := fun X cs T fr t1 t2 t3 t4 t5 hX => by
    have a1 := ho1 X cs T fr t1 t2 t3 t4 (HBX.out X _ hX)
    exact (g2.block X (box_lt a1) (fun e1 => row_apart hrk1 a1 t5 e1.symm)).trans a1
  have HS2 : Hid (Spared Q w w2) := HS1.out.row HQ3.out g2
  clear t1 cC hFP o2 g2 HS1 HQ3
  go_wp2
  go_ret
  exact ⟨rfl, HM.out, HB.out, HX2.out, HS2.out⟩
theorem markImage_f (B : Nat) (fv cv : Value) (p : PImg) (fs : List FSh) (k : Nat) (w : World) (h : ImgOwn w B fv cv p fs) (hB : B ≤ w.heap.size) (hf : Few fs k) (hk : 1 ≤ k) (hm : p.consts.length ≤ 8000000) :
    Calls Try.prog 10 #[.agg #[fv, cv], .int .i64 k] w fun e w' => e = .returned (.int .i64 ((offK fs k fs.length + p.consts.length * 3 : Nat) : Int)) ∧ ImgMk w' fv cv fs p.consts.length k ∧ Below B w w' ∧ ∀ (X : Nat) (cs : Array Value) (T : TypeId) (fr : Nat × Nat), T ≠ 47 → T ≠ 90 → T ≠ 49 → T ≠ 92 → T ≠ 71 → w.heap[X]? = some (.cells cs T fr) → w'.heap[X]? = some (.cells cs T fr) :=
  (markImage_s (fun _ => False) B fv cv p fs k w (fun _ _ h => h) (fun _ _ _ => ⟨fun _ _ h => h, fun _ _ h => h, fun _ _ h => h⟩) (fun _ _ h => h) h hB hf hk hm).mono fun e w' h => ⟨h.1, h.2.1, h.2.2.1, h.2.2.2.1⟩
end Go.Proofs.Ytkmmojpfcklocaa
namespace Go.Proofs.Ytkmmojpfcklocaa
open Go.RowKit
set_option linter.unusedVariables false
def LeftTot (r left n : Int) : Prop := r = -1 ∨ (0 ≤ r ∧ r ≤ left ∧ n ≤ left ∧ r + n ≤ left)
def funTot (p : PFun) : Nat := p.caps.length + p.code.length + p.hnds.length
def funsTot (l : List PFun) (k : Nat) : Nat := ((l.take k).map funTot).sum
theorem funsTot_0 (l : List PFun) : funsTot l 0 = 0 := rfl
theorem funsTot_more {l : List PFun} {k : Nat} {p : PFun} (h : l[k]? = some p) : funsTot l (k + 1) = funsTot l k + funTot p := by
  unfold funsTot
  rw [List.take_add_one, h]
  simp
set_option maxHeartbeats 400000 in
set_option maxRecDepth 100000 in
theorem szCapS_tot (v : Value) (k n : Nat) (xs : List Value) (left : Int) (w : World) (hv : ArgFlat w v k n xs) (h0 : 0 ≤ left) (h1 : left ≤ 1048576) :
    Calls Try.prog 43 #[v, .int .i64 left] w fun e w' => ∃ r : Int, e = .returned (.int .i64 r) ∧ LeftTot r left n ∧ w = w' := by
  obtain ⟨x, c, rfl, hm, _, _⟩ := hv
  unfold maxLen at hm
  by_cases h : left < n
  · have hlt : left - (n : Int) < 0 := by omega
    go_enter Try.func43, Try.ntmps43
    go_wp2
    go_ret
    exact ⟨_, rfl, .inl rfl, rfl⟩
  · have hlt : ¬ left - (n : Int) < 0 := by omega
    go_enter Try.func43, Try.ntmps43
    go_wp2
    go_ret
    exact ⟨_, rfl, .inr ⟨by omega, by omega, by omega, by omega⟩, rfl⟩
set_option maxHeartbeats 400000 in
set_option maxRecDepth 100000 in
theorem szInsS_tot (v : Value) (k n : Nat) (xs : List Value) (left : Int) (w : World) (hv : ArgFlat w v k n xs) (h0 : 0 ≤ left) (h1 : left ≤ 1048576) :
    Calls Try.prog 44 #[v, .int .i64 left] w fun e w' => ∃ r : Int, e = .returned (.int .i64 r) ∧ LeftTot r left n ∧ w = w' := by
  obtain ⟨x, c, rfl, hm, _, _⟩ := hv
  unfold maxLen at hm
  by_cases h : left < n
  · have hlt : left - (n : Int) < 0 := by omega
    go_enter Try.func44, Try.ntmps44
    go_wp2
    go_ret
    exact ⟨_, rfl, .inl rfl, rfl⟩
  · have hlt : ¬ left - (n : Int) < 0 := by omega
    go_enter Try.func44, Try.ntmps44
    go_wp2
    go_ret
    exact ⟨_, rfl, .inr ⟨by omega, by omega, by omega, by omega⟩, rfl⟩
set_option maxHeartbeats 400000 in
set_option maxRecDepth 100000 in
theorem szHandlerS_tot (v : Value) (k n : Nat) (xs : List Value) (left : Int) (w : World) (hv : ArgFlat w v k n xs) (h0 : 0 ≤ left) (h1 : left ≤ 1048576) :
    Calls Try.prog 45 #[v, .int .i64 left] w fun e w' => ∃ r : Int, e = .returned (.int .i64 r) ∧ LeftTot r left n ∧ w = w' := by
  obtain ⟨x, c, rfl, hm, _, _⟩ := hv
  unfold maxLen at hm
  by_cases h : left < n
  · have hlt : left - (n : Int) < 0 := by omega
    go_enter Try.func45, Try.ntmps45
    go_wp2
    go_ret
    exact ⟨_, rfl, .inl rfl, rfl⟩
  · have hlt : ¬ left - (n : Int) < 0 := by omega
    go_enter Try.func45, Try.ntmps45
    go_wp2
    go_ret
    exact ⟨_, rfl, .inr ⟨by omega, by omega, by omega, by omega⟩, rfl⟩
set_option maxHeartbeats 1000000 in
set_option maxRecDepth 100000 in
theorem szFunc_tot (k0 k1 cv kv hv : Value) (p : PFun) (left : Int) (w : World) (h2 : ArgFlat w cv 2 p.caps.length (p.caps.flatMap capC)) (h3 : ArgFlat w kv 3 p.code.length (p.code.flatMap insC)) (h4 : ArgFlat w hv 3 p.hnds.length (p.hnds.flatMap hndC)) (h0 : 0 ≤ left) (h1 : left ≤ 1048576) :
    Calls Try.prog 27 #[.agg #[k0, k1, cv, kv, hv], .int .i64 left] w fun e w' => ∃ r : Int, e = .returned (.int .i64 r) ∧ (r = -1 ∨ (0 ≤ r ∧ r ≤ left ∧ funFew p left ∧ r + (funTot p : Int) ≤ left)) ∧ Below w.heap.size w w' := by
  have b0 : Below w.heap.size w (w.alloc (.cells #[k0, k1, cv, kv, hv] 65)) := (Below.refl _ _).alloc (Nat.le_refl _) _
  have d2 := h2.below b0
  have d3 := h3.below b0
  have d4 := h4.below b0
  clear h2 h3 h4
  go_enter Try.func27, Try.ntmps27
  go_wp2_with fail
  refine (szCapS_tot cv _ _ _ left _ d2 h0 h1).mono ?_
  rintro e w1 ⟨r, rfl, hr, rfl⟩
  rcases hr with rfl | ⟨r0, r1, r2, r3⟩
  · go_wp2
    go_ret
    exact ⟨_, rfl, .inl rfl, b0⟩
  have hneg : ¬ r < 0 := by omega
  go_wp2_with fail
  refine (szInsS_tot kv _ _ _ r _ d3 r0 (by omega)).mono ?_
  rintro e w1 ⟨q, rfl, hq, rfl⟩
  rcases hq with rfl | ⟨q0, q1, q2, q3⟩
  · go_wp2
    go_ret
    exact ⟨_, rfl, .inl rfl, b0⟩
  have hneg2 : ¬ q < 0 := by omega
  go_wp2_with fail
  refine (szHandlerS_tot hv _ _ _ q _ d4 q0 (by omega)).mono ?_
  rintro e w1 ⟨t, rfl, ht, rfl⟩
  rcases ht with rfl | ⟨t0, t1, t2, t3⟩
  · go_wp2
    go_ret
    exact ⟨_, rfl, .inl rfl, b0⟩
  have hneg3 : ¬ t < 0 := by omega
  go_wp2
  go_ret
  exact ⟨_, rfl, .inr ⟨t0, by omega, ⟨r2, by omega, by omega⟩, by unfold funTot; omega⟩, b0⟩
set_option maxHeartbeats 1000000 in
set_option maxRecDepth 100000 in
theorem szFuncS_tot (v : Value) (l : List PFun) (left : Int) (w : World) (hv : ArgFuns w v l) (h0 : 0 ≤ left) (h1 : left ≤ 1048576) :
    Calls Try.prog 13 #[v, .int .i64 left] w fun e w' => ∃ r : Int, e = .returned (.int .i64 r) ∧ (r = -1 ∨ (0 ≤ r ∧ r ≤ left ∧ (l.length : Int) + (funsTot l l.length : Int) ≤ left ∧ ∀ p ∈ l, funFew p left)) ∧ Below w.heap.size w w' := by
  obtain ⟨x, c, rfl, hm, hc⟩ := hv
  obtain ⟨n, hn⟩ : ∃ n, l.length = n := ⟨_, rfl⟩
  simp only [hn] at hm hc ⊢
  have HN : Hid (l.length = n) := hn
  clear hn
  unfold maxLen at hm
  by_cases h : left < n
  · have hlt : left - (n : Int) < 0 := by omega
    clear hc
    go_enter Try.func13, Try.ntmps13
    go_wp2
    go_ret
    exact ⟨_, rfl, .inl rfl, Below.refl _ _⟩
  · have hlt : ¬ left - (n : Int) < 0 := by omega
    have HC : Hid (0 < n → ∃ b o, x = some ⟨b, o, none⟩ ∧ b < w.heap.size ∧ ∀ j p, l[j]? = some p → ∃ cv kv hv, FunAt w b (o + j * 5) p cv kv hv) := hc
    clear hc
    go_enter Try.func13, Try.ntmps13
    go_wp2
    go_loopw [1, 5] (fun y i wr => ∃ (k : Nat) (L : Int), y = .int .i64 L ∧ i = .int .i64 k ∧ k ≤ n ∧ 0 ≤ L ∧ L ≤ left ∧ Hid (L + (n : Int) + (funsTot l k : Int) ≤ left) ∧ Hid (∀ j p, j < k → l[j]? = some p → funFew p left) ∧ Below w.heap.size w wr) (fun _ i _ => n - (intOf i).toNat)
    case atStart => exact ⟨0, _, rfl, rfl, Nat.zero_le _, by omega, by omega, (by show _ ≤ _; rw [funsTot_0]; omega), fun j p hj _ => absurd hj (Nat.not_lt_zero _), Below.refl _ _⟩
    case round =>
      obtain ⟨k, L, rfl, rfl, hk, hL0, hL1, HT, HF, hbel⟩ := hrel
      by_cases hkn : k < n
      · obtain ⟨b, o, rfl, _, hcell⟩ := HC.out (by omega)
        obtain ⟨p, hp⟩ : ∃ p, l[k]? = some p := ⟨_, List.getElem?_eq_getElem (by have := HN.out; omega)⟩
        obtain ⟨cv, kv, hv, hA⟩ := hcell k p hp
        have hA' := hA.below hbel
        have c0 := hA'.c0
        have c1 := hA'.c1
        have c2 := hA'.c2
        have c3 := hA'.c3
        have c4 := hA'.c4
        have cN := fun k0 k1 => szFunc_tot k0 k1 cv kv hv p L wr hA'.caps hA'.code hA'.hnds hL0 (by omega)
        have HP : Hid (l[k]? = some p) := hp
        clear hA hA' hcell HC hp
        have hki : (k : Int) < (n : Int) := by omega
        have hk0 : (0 : Int) ≤ (k : Int) := by omega
        go_wp2_with fail
        refine (cN _ _).mono ?_
        rintro e w1 ⟨r, rfl, hr, b1⟩
        rcases hr with rfl | ⟨r0, r1, r2, r3⟩
        · go_wp2
          go_ret
          exact ⟨_, rfl, .inl rfl, chain hbel b1⟩
        · have hneg : ¬ r < 0 := by omega
          go_wp2
          go_roundw
          case rel =>
            refine ⟨k + 1, r, rfl, by go_num, by omega, r0, by omega, (by have h1 := HT.out; have h2 := funsTot_more HP.out; show r + (n : Int) + (funsTot l (k + 1) : Int) ≤ left; rw [h2]; omega), fun j q hj hq => ?_, chain hbel b1⟩
            rcases Nat.lt_or_ge j k with h' | h'
            · exact HF.out j q h' hq
            · have e : j = k := by omega
              subst e
              rw [HP.out] at hq
              injection hq with hq
              subst hq
              exact r2.mono hL1
          case measure => simp [intOf]; omega
      · go_wp2
        go_ret
        refine ⟨_, rfl, .inr ⟨by omega, by omega, by have h1 := HT.out; have e : k = n := (by omega); rw [e] at h1; omega, fun p hp => ?_⟩, hbel⟩
        obtain ⟨j, hj⟩ := List.mem_iff_getElem?.1 hp
        have hjl : j < l.length := (List.getElem?_eq_some_iff.1 hj).1
        have := HN.out
        exact HF.out j p (by omega) hj
set_option maxHeartbeats 1000000 in
set_option maxRecDepth 100000 in
theorem szImage_tot (fv cv : Value) (p : PImg) (left : Int) (w : World) (hv : ArgImg w fv cv p) (hw : imgW p) (h0 : 0 ≤ left) (h1 : left ≤ 1048576) :
    Calls Try.prog 4 #[.agg #[fv, cv], .int .i64 left] w fun e w' => ∃ r : Int, e = .returned (.int .i64 r) ∧ (r = -1 ∨ (0 ≤ r ∧ r ≤ left ∧ imgFew p left ∧ (p.funcs.length : Int) + (funsTot p.funcs p.funcs.length : Int) ≤ left)) ∧ Below w.heap.size w w' := by
  obtain ⟨hF, hC⟩ := hv
  have b0 : Below w.heap.size w (w.alloc (.cells #[fv, cv] 25)) := (Below.refl _ _).alloc (Nat.le_refl _) _
  have HL : Hid (∀ x ∈ p.consts, conW x) := hw.consts
  have cF := szFuncS_tot fv p.funcs left _ (hF.below b0) h0 h1
  go_enter Try.func4, Try.ntmps4
  go_wp2_with fail
  refine cF.mono ?_
  rintro e w1 ⟨r, rfl, hr, b1⟩
  have bb1 := chain b0 b1
  have q1 := new_cell b1 1 cv rfl
  rcases hr with rfl | ⟨r0, r1, r2, r3⟩
  · go_wp2
    go_ret
    exact ⟨_, rfl, .inl rfl, bb1⟩
  have hneg : ¬ r < 0 := by omega
  have cC := szConstS_any cv p.consts r w1 (hC.below bb1) HL.out r0 (by omega)
  clear b1 cF hF hC
  go_wp2_with fail
  refine cC.mono ?_
  rintro e w2 ⟨q, rfl, hq, b2⟩
  have bb2 := chain bb1 b2
  rcases hq with rfl | ⟨q0, q1, q2, q3⟩
  · go_wp2
    go_ret
    exact ⟨_, rfl, .inl rfl, bb2⟩
  have hneg2 : ¬ q < 0 := by omega
  go_wp2
  go_ret
  exact ⟨_, rfl, .inr ⟨q0, by omega, ⟨by omega, r3, by omega, fun x hx => by have := q3 x hx; omega⟩, r2⟩, bb2⟩
end Go.Proofs.Ytkmmojpfcklocaa
