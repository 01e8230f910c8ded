/-
  The walks of the drawn names: one told so far, and a fresh one.
-/
import Derived.Test.YtcabanghegddhaaGreatDoorGenB
namespace Go.Proofs.YtcabanghegddhaaGreatDoor
open Go.RowKit
set_option linter.unusedVariables false

theorem str_none {m : Nat} : ∀ v ∈ ([] : List Value), ∃ s : ByteArray, v = .string s ∧ s.size ≤ m := fun v hv => by cases hv
theorem str_more {m : Nat} {s : ByteArray} {l : List Value} (h : s.size ≤ m) (k : ∀ v ∈ l, ∃ s : ByteArray, v = .string s ∧ s.size ≤ m) : ∀ v ∈ (Value.string s :: l), ∃ s : ByteArray, v = .string s ∧ s.size ≤ m := fun v hv => by
  rcases List.mem_cons.1 hv with rfl | hv
  · exact ⟨s, rfl, h⟩
  · exact k v hv
theorem pick_gen {ac : Option Addr} {len cap g c : Nat} {nv : Value} {N : Nat} {w : World} (xs : List Value) (t : TypeId) (n m : Nat) (hn : xs.length = n) (h0 : 0 < n) (hle : n ≤ 1000) (h : ∀ v ∈ xs, ∃ s : ByteArray, v = .string s ∧ s.size ≤ m) (G : Gen ac len cap g c nv N w) :
    Calls Tryz.prog 19 #[.pointer (some ⟨c, 0, none⟩), .slice (some ⟨w.heap.size, 0, none⟩) n n] (w.alloc (.cells xs.toArray t)) fun e w' => ∃ s : ByteArray, s.size ≤ m ∧ e = .returned (.string s) ∧ Gen ac len cap g c nv N w' ∧ Two g c w w' := by
  have hlt := G.lt
  refine (l01Pick_any ac len cap c w.heap.size n m n _ (G.alloc (.cells xs.toArray t)).cur (by omega) (by simp) h0 hle (row_new w xs t n m hn h)).mono ?_
  rintro e w' ⟨s, hs, he, hc, gr⟩
  exact ⟨s, hs, he, (G.alloc _).drawn hc gr, (Two.alloc (Two.refl _ _ _) _).trans (.of_grown gr)⟩
theorem once_gen {ac : Option Addr} {len cap g c : Nat} {nv : Value} {N : Nat} {w : World} (n : Nat) (h0 : 0 < n) (hle : n ≤ 1000) (G : Gen ac len cap g c nv N w) :
    Calls Tryz.prog 20 #[.pointer (some ⟨c, 0, none⟩), .int .i64 n] w fun e w' => ∃ b : Bool, e = .returned (.bool b) ∧ Gen ac len cap g c nv N w' ∧ Two g c w w' :=
  (l01Once_any ac len cap c n w G.cur h0 (by omega)).mono fun e w' ⟨b, he, hc, gr⟩ => ⟨b, he, G.drawn hc gr, .of_grown gr⟩
theorem below_gen {ac : Option Addr} {len cap g c : Nat} {nv : Value} {N : Nat} {w : World} (n : Nat) (h0 : 0 < n) (hle : n ≤ 4294967296) (G : Gen ac len cap g c nv N w) :
    Calls Tryz.prog 16 #[.pointer (some ⟨c, 0, none⟩), .int .i64 n] w fun e w' => ∃ x : Nat, x < n ∧ e = .returned (.int .i64 x) ∧ Gen ac len cap g c nv N w' ∧ Two g c w w' :=
  (l01Below_nat ac len cap c n w G.cur h0 hle).mono fun e w' ⟨b, hb, he, hc, gr⟩ => ⟨b, hb, he, G.drawn hc gr, .of_grown gr⟩

set_option maxHeartbeats 1000000 in
set_option maxRecDepth 100000 in
theorem l10Var_any {ac : Option Addr} {len cap g c : Nat} {nv : Value} {N : Nat} {w : World} (G : Gen ac len cap g c nv N w) :
    Calls Tryz.prog 41 #[.pointer (some ⟨g, 0, none⟩)] w fun e w' => ∃ s : ByteArray, s.size ≤ 30 ∧ e = .returned (.string s) ∧ Gen ac len cap g c nv N w' ∧ Two g c w w' := by
  have hfew := G.few
  rcases G.names with ⟨rfl, rfl⟩ | ⟨bl, nc, rfl, h0, hb1, hb2, hb3, hb4⟩
  · obtain ⟨c0, c1, _, _⟩ := G.cells
    go_enter Tryz.func41, Tryz.ntmps41
    go_wp2_with fail
    refine (pick_gen [.string ⟨#[120]⟩, .string ⟨#[121]⟩, .string ⟨#[110, 111, 110, 101]⟩] 9 3 30 rfl (by omega) (by omega) (by repeat (first | exact str_none | refine str_more (by decide) ?_)) G).mono ?_
    rintro e w' ⟨s, hs, rfl, G', K'⟩
    go_wp2
    go_ret
    exact ⟨s, hs, rfl, G', K'⟩
  · obtain ⟨c0, c1, _, _⟩ := G.cells
    have hN' : ((N : Int) == 0) = false := by rw [beq_eq_false_iff_ne]; omega
    go_enter Tryz.func41, Tryz.ntmps41
    go_wp2_with fail
    refine (once_gen 30 (by omega) (by omega) G).mono ?_
    rintro e w1 ⟨b, rfl, G1, K1⟩
    obtain ⟨d0, d1, _, _⟩ := G1.cells
    cases b
    · have cB := fun (W : World) (GW : Gen ac len cap g c (.slice (some ⟨bl, 0, none⟩) N nc) N W) => below_gen N (by omega) (by omega) GW
      have HROW : Hid (StrRow w1.drew bl N 30 ∧ bl < w1.drew.heap.size) := ⟨hb4.two K1.drew hb3 hb1 hb2, Nat.lt_of_lt_of_le hb3 K1.size⟩
      clear hb4
      go_upto_region 3 with fail
      go_region_with (first
        | (go_at_call 16; refine (cB _ ?_).mono ?_; (first | exact G1.drew | exact G1); rintro e w2 ⟨x, hx, rfl, G2, K2⟩; obtain ⟨e0, e1, _, _⟩ := G2.cells; obtain ⟨s, hcell, hsm⟩ := (HROW.out.1.two (g := g) (c := c) K2 HROW.out.2 hb1 hb2) x hx; have hx' : (x : Int) < N := Int.ofNat_lt.2 hx; have KK := K1.drew.trans K2))
      all_goals go_wp2
      all_goals go_ret
      all_goals exact ⟨s, hsm, rfl, G2, KK⟩
    · go_wp2_with fail
      refine (pick_gen [.string ⟨#[120]⟩, .string ⟨#[121]⟩, .string ⟨#[110, 111, 110, 101]⟩] 9 3 30 rfl (by omega) (by omega) (by repeat (first | exact str_none | refine str_more (by decide) ?_)) G1).mono ?_
      rintro e w' ⟨s, hs, rfl, G', K'⟩
      go_wp2
      go_ret
      exact ⟨s, hs, rfl, G', K1.trans K'⟩

end Go.Proofs.YtcabanghegddhaaGreatDoor
