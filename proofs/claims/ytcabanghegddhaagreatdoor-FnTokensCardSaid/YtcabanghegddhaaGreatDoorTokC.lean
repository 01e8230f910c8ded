/-
  Several texts in one: Tok8N, Tok8T, Tok8K, Tok8L.
-/
import Derived.Test.YtcabanghegddhaaGreatDoorTokA
import Derived.Test.YtcabanghegddhaaGreatDoorBaseA
import Derived.Deep.RegionWith
namespace Go.Proofs.YtcabanghegddhaaGreatDoor
open Go.RowKit
set_option linter.unusedVariables false

/-- a dot and a figure stand at a place -/
def DotAt (s : ByteArray) (e : Nat) : Prop := ∃ h : e + 1 < s.size, (s[e]'(by omega)).toNat = 46 ∧ isFig s[e + 1] = true
theorem frac_yes {s : ByteArray} {a e : Nat} (h : DotAt s (a + e)) : fracN (s.data.toList.drop a) e = e + 1 + runN (s.data.toList.drop (a + e + 1)) := by
  obtain ⟨h1, h2, h3⟩ := h
  unfold fracN
  rw [List.drop_drop, drop_cons s (a + e) (by omega), drop_cons s (a + e + 1) (by omega)]
  show (if _ ∧ _ then _ else _) = _
  rw [if_pos ⟨h2, h3⟩]
theorem frac_no {s : ByteArray} {a e : Nat} (h : ¬DotAt s (a + e)) : fracN (s.data.toList.drop a) e = e := by
  unfold fracN
  rw [List.drop_drop]
  by_cases h1 : a + e < s.size
  · rw [drop_cons s (a + e) h1]
    by_cases h2 : a + e + 1 < s.size
    · rw [drop_cons s (a + e + 1) h2]
      show (if _ ∧ _ then _ else _) = _
      rw [if_neg (fun h' => h ⟨h2, h'.1, h'.2⟩)]
    · rw [(by omega : a + e + 1 = s.size), drop_end]
  · rw [List.drop_eq_nil_of_le (by rw [size_list]; omega)]

/-- an e, and how many signs stand behind it -/
def ExpAt (s : ByteArray) (e : Nat) : Prop := ∃ h : e + 1 < s.size, (s[e]'(by omega)).toNat = 101
theorem tail_none {s : ByteArray} {a e : Nat} (h : ¬ExpAt s (a + e)) : tailN (s.data.toList.drop a) e = e := by
  unfold tailN
  rw [List.drop_drop]
  by_cases h1 : a + e < s.size
  · rw [drop_cons s (a + e) h1]
    by_cases h2 : a + e + 1 < s.size
    · rw [drop_cons s (a + e + 1) h2]
      show (if _ then _ else _) = _
      rw [if_neg (fun h' => h ⟨h2, h'⟩)]
    · rw [(by omega : a + e + 1 = s.size), drop_end]
  · rw [List.drop_eq_nil_of_le (by rw [size_list]; omega)]
theorem tail_some {s : ByteArray} {a e k : Nat} (h : ExpAt s (a + e)) (hk : k = a + e + 1 + signN8 (s[a + e + 1]'h.1)) :
    tailN (s.data.toList.drop a) e = if ∃ h : k < s.size, isFig s[k] = true then e + 1 + signN8 (s[a + e + 1]'h.1) + runN (s.data.toList.drop k) else e := by
  obtain ⟨h1, h2⟩ := h
  unfold tailN
  rw [List.drop_drop, drop_cons s (a + e) (by omega), drop_cons s (a + e + 1) h1]
  show (if _ then (match (s[a + e + 1] :: s.data.toList.drop (a + e + 1 + 1)).drop (signN8 s[a + e + 1]) with
      | f :: q => if isFig f = true then e + 1 + signN8 s[a + e + 1] + runN (f :: q) else e
      | [] => e) else _) = _
  rw [if_pos h2, ← drop_cons s (a + e + 1) h1, List.drop_drop, ← hk]
  by_cases h3 : k < s.size
  · rw [drop_cons s k h3]
    show (if isFig s[k] = true then _ else e) = _
    by_cases h4 : isFig s[k] = true
    · rw [if_pos h4, if_pos ⟨h3, h4⟩]
    · rw [if_neg h4, if_neg (fun h' => h4 h'.2)]
  · rw [List.drop_eq_nil_of_le (by rw [size_list]; omega), if_neg (fun h' => h3 h'.1)]

set_option maxHeartbeats 2000000 in
set_option maxRecDepth 100000 in
theorem l08Number_any (s : ByteArray) (a : Nat) (w : World) (ha : a ≤ s.size) (hs : s.size ≤ 1048576) :
    Calls Tryz.prog 34 #[.string s, .int .i64 a] w fun e w' => e = .returned (.int .i64 (numbN (s.data.toList.drop a) : Nat)) ∧ w = w' := by
  obtain ⟨R, hR⟩ : ∃ R, numbN (s.data.toList.drop a) = R := ⟨_, rfl⟩
  have HR : Hid (Unit → numbN (s.data.toList.drop a) = R) := fun _ => hR
  rw [hR]
  clear hR
  have cR := fun (b : Nat) (hb : b ≤ s.size) W => l07Run_any s b W hb hs
  have cR0 := cR a ha
  obtain ⟨e1, he1⟩ : ∃ e, runN (s.data.toList.drop a) = e := ⟨_, rfl⟩
  have hl1 := run_le (s.data.toList.drop a)
  rw [List.length_drop, size_list, he1] at hl1
  rw [he1] at cR0
  have HE1 : Hid (Unit → runN (s.data.toList.drop a) = e1) := fun _ => he1
  clear he1
  obtain ⟨E, hE⟩ : ∃ E, a + e1 = E := ⟨_, rfl⟩
  have hE' : (a : Int) + e1 = E := by omega
  go_enter Tryz.func34, Tryz.ntmps34
  go_wp2_with fail
  refine (cR0 _).mono ?_
  rintro e w' ⟨rfl, rfl⟩
  go_upto_region 2 with fail
  go_cut [29] (fun x wx => ∃ d : Bool, x = .bool d ∧ w = wx ∧ Hid (Unit → (d = true → DotAt s E) ∧ (d = false → ¬DotAt s E)))
  case first =>
    by_cases h1 : E + 1 < s.size
    · obtain ⟨F, hF⟩ : ∃ F, E + 1 = F := ⟨_, rfl⟩
      have hF' : (E : Int) + 1 = F := by omega
      have hFs : F < s.size := by omega
      have hFi : (F : Int) < s.size := by omega
      have hEs : E < s.size := by omega
      by_cases h2 : (s[E]).toNat = 46
      · have h2' : ((s[E]).toNat : Int) = 46 := by omega
        have cF := fun W => l08Figure_any s[F] W
        obtain ⟨y, hy⟩ : ∃ y, isFig s[F] = y := ⟨_, rfl⟩
        rw [hy] at cF
        have HY : Hid (Unit → isFig (s[E + 1]'h1) = y) := fun _ => by simp only [hF]; exact hy
        clear hy
        go_wp2_with fail
        refine (cF _).mono ?_
        rintro e w' ⟨rfl, rfl⟩
        go_wp2
        go_meet
        case rel => exact ⟨y, rfl, rfl, fun _ => ⟨fun h => ⟨h1, h2, by rw [HY.out ()]; exact h⟩, fun h h' => by obtain ⟨_, _, h3⟩ := h'; rw [HY.out (), h] at h3; cases h3⟩⟩
      · have h2' : (((s[E]).toNat : Int) == 46) = false := by rw [beq_eq_false_iff_ne]; omega
        go_wp2
        go_meet
        case rel => exact ⟨false, rfl, rfl, fun _ => ⟨fun h => by simp at h, fun _ h => h2 h.2.1⟩⟩
    · have h1' : decide ((E : Int) + 1 < s.size) = false := by simp; omega
      go_wp2
      go_meet
      case rel => exact ⟨false, rfl, rfl, fun _ => ⟨fun h => by simp at h, fun _ h => h1 h.1⟩⟩
  case rest =>
    obtain ⟨d, rfl, rfl, HD⟩ := hcut
    go_upto_if 29 with fail
    go_cut [5] (fun x wx => ∃ e2 : Nat, x = .int .i64 ((a + e2 : Nat) : Int) ∧ (a : Int) + e2 ≤ s.size ∧ w = wx ∧ Hid (Unit → fracN (s.data.toList.drop a) e1 = e2))
    case first =>
      cases d
      · have HN : Hid (Unit → fracN (s.data.toList.drop a) e1 = e1) := fun _ => frac_no (by rw [hE]; exact (HD.out ()).2 rfl)
        go_wp2
        go_meet
        case rel => exact ⟨e1, by go_num, by omega, rfl, HN⟩
      · have hd := (HD.out ()).1 rfl
        have h1 := hd.1
        obtain ⟨F, hF⟩ : ∃ F, E + 1 = F := ⟨_, rfl⟩
        have hF' : (E : Int) + 1 = F := by omega
        have c1 := cR F (by omega)
        obtain ⟨r, hr⟩ : ∃ r, runN (s.data.toList.drop F) = r := ⟨_, rfl⟩
        have hrl := run_le (s.data.toList.drop F)
        rw [List.length_drop, size_list, hr] at hrl
        rw [hr] at c1
        have HN : Hid (Unit → fracN (s.data.toList.drop a) e1 = e1 + 1 + r) := fun _ => by rw [frac_yes (by rw [hE]; exact hd), hE, hF, hr]
        clear hd hr
        go_wp2_with fail
        refine (c1 _).mono ?_
        rintro e w' ⟨rfl, rfl⟩
        go_wp2
        go_meet
        case rel => exact ⟨e1 + 1 + r, by go_num, by omega, rfl, HN⟩
    case rest =>
      clear HD hE' hE
      clear d
      obtain ⟨e2, rfl, he2, rfl, HF2⟩ := hcut
      obtain ⟨G, hG⟩ : ∃ G, a + e2 = G := ⟨_, rfl⟩
      have HT : Hid (Unit → tailN (s.data.toList.drop a) e2 = R) := fun _ => by
        rw [← HR.out ()]
        unfold numbN
        rw [HE1.out (), HF2.out ()]
      simp only [hG]
      have hG' : (a : Int) + e2 = G := by omega
      have hGs : (G : Int) ≤ s.size := by omega
      clear HR HE1 HF2 he2
      go_upto_region 4 with fail
      go_cut [47] (fun x wx => ∃ d : Bool, x = .bool d ∧ w = wx ∧ Hid (Unit → (d = true → ExpAt s G) ∧ (d = false → ¬ExpAt s G)))
      case first =>
        by_cases h1 : G + 1 < s.size
        · have h1' : (G : Int) + 1 < s.size := by omega
          have hEs : G < s.size := by omega
          by_cases h2 : (s[G]).toNat = 101
          · have h2' : ((s[G]).toNat : Int) = 101 := by omega
            go_wp2
            go_meet
            case rel => exact ⟨true, rfl, rfl, fun _ => ⟨fun _ => ⟨h1, h2⟩, fun h => by simp at h⟩⟩
          · have h2' : (((s[G]).toNat : Int) == 101) = false := by rw [beq_eq_false_iff_ne]; omega
            go_wp2
            go_meet
            case rel => exact ⟨false, rfl, rfl, fun _ => ⟨fun h => by simp at h, fun _ h => h2 h.2⟩⟩
        · have h1' : decide ((G : Int) + 1 < s.size) = false := by simp; omega
          go_wp2
          go_meet
          case rel => exact ⟨false, rfl, rfl, fun _ => ⟨fun h => by simp at h, fun _ h => h1 h.1⟩⟩
      case rest =>
        obtain ⟨d, rfl, rfl, HD⟩ := hcut
        cases d
        · have HN : Hid (Unit → R = e2) := fun _ => by rw [← HT.out ()]; exact tail_none (by rw [hG]; exact (HD.out ()).2 rfl)
          have hv : (G : Int) - a = e2 := by omega
          go_wp2
          go_ret
          exact ⟨by rw [HN.out ()]; rfl, rfl⟩
        · have hd := (HD.out ()).1 rfl
          have h1 := hd.1
          obtain ⟨F, hF⟩ : ∃ F, G + 1 = F := ⟨_, rfl⟩
          have hF' : (G : Int) + 1 = F := by omega
          have hFs : F < s.size := by omega
          have hFi : (F : Int) < s.size := by omega
          obtain ⟨sg, hsg⟩ : ∃ sg, signN8 s[F] = sg := ⟨_, rfl⟩
          have hsg1 : sg ≤ 1 := by rw [← hsg]; unfold signN8; split <;> omega
          have HSG : Hid (Unit → sg = if (s[F]).toNat = 43 ∨ (s[F]).toNat = 45 then 1 else 0) := fun _ => by rw [← hsg]; rfl
          have HX : Hid (Unit → ∀ k, k = F + sg → tailN (s.data.toList.drop a) e2 = if ∃ h : k < s.size, isFig s[k] = true then e2 + 1 + sg + runN (s.data.toList.drop k) else e2) := fun _ k hk => by
            have hd2 : ExpAt s (a + e2) := by rw [hG]; exact hd
            have hs1 : signN8 (s[a + e2 + 1]'hd2.1) = sg := by simp only [hG, hF]; exact hsg
            rw [tail_some (k := k) hd2 (by rw [hs1, hG, hF]; exact hk), hs1]
          clear hd hsg HD
          go_upto_region 6 with fail
          go_cut [59] (fun x wx => ∃ d : Bool, x = .bool d ∧ w = wx ∧ Hid (Unit → sg = if d = true then 1 else 0))
          case first =>
            by_cases q1 : (s[F]).toNat = 43
            · have q1' : ((s[F]).toNat : Int) = 43 := by omega
              go_wp2
              go_meet
              case rel => exact ⟨true, rfl, rfl, fun _ => by rw [HSG.out (), if_pos (.inl q1)]; rfl⟩
            · have q1' : (((s[F]).toNat : Int) == 43) = false := by rw [beq_eq_false_iff_ne]; omega
              by_cases q2 : (s[F]).toNat = 45
              · have q2' : ((s[F]).toNat : Int) = 45 := by omega
                go_wp2
                go_meet
                case rel => exact ⟨true, rfl, rfl, fun _ => by rw [HSG.out (), if_pos (.inr q2)]; rfl⟩
              · have q2' : (((s[F]).toNat : Int) == 45) = false := by rw [beq_eq_false_iff_ne]; omega
                go_wp2
                go_meet
                case rel => exact ⟨false, rfl, rfl, fun _ => by rw [HSG.out (), if_neg (by omega)]; rfl⟩
          case rest =>
            obtain ⟨d, rfl, rfl, HD⟩ := hcut
            go_upto_if 59 with fail
            go_cut [6] (fun x wx => ∃ k : Nat, x = .int .i64 k ∧ (k : Int) ≤ s.size ∧ w = wx ∧ (k : Int) = F + sg)
            case first =>
              cases d
              · have h0 : sg = 0 := by rw [HD.out ()]; rfl
                go_wp2
                go_meet
                case rel => exact ⟨F, rfl, by omega, rfl, by omega⟩
              · have h0 : sg = 1 := by rw [HD.out ()]; rfl
                go_wp2
                go_meet
                case rel => exact ⟨F + 1, by go_num, by omega, rfl, by omega⟩
            case rest =>
              clear HD HSG
              clear d
              obtain ⟨k, rfl, hk1, rfl, hk2⟩ := hcut
              have hX := HX.out () k (by omega)
              rw [HT.out ()] at hX
              have HXX : Hid (R = if ∃ h : k < s.size, isFig s[k] = true then e2 + 1 + sg + runN (s.data.toList.drop k) else e2) := hX
              have HK2 : Hid ((k : Int) = F + sg) := hk2
              clear hX HX HT hk2
              have hv0 : (G : Int) - a = e2 := by omega
              by_cases h2 : k < s.size
              · have h2' : (k : Int) < s.size := by omega
                have cF := fun W => l08Figure_any s[k] W
                obtain ⟨y, hy⟩ : ∃ y, isFig s[k] = y := ⟨_, rfl⟩
                rw [hy] at cF
                cases y
                · have HQ : Hid (R = e2) := by
                    show _ = _
                    rw [HXX.out, if_neg (fun h => by obtain ⟨_, h⟩ := h; rw [hy] at h; cases h)]
                  clear hy
                  go_wp2_with fail
                  refine (cF _).mono ?_
                  rintro e w' ⟨rfl, rfl⟩
                  go_wp2
                  go_ret
                  exact ⟨by rw [HQ.out]; rfl, rfl⟩
                · have c1 := cR k (by omega)
                  obtain ⟨r, hr⟩ : ∃ r, runN (s.data.toList.drop k) = r := ⟨_, rfl⟩
                  have hrl := run_le (s.data.toList.drop k)
                  rw [List.length_drop, size_list, hr] at hrl
                  rw [hr] at c1
                  have HQ : Hid (R = e2 + 1 + sg + r) := by
                    show _ = _
                    rw [HXX.out, if_pos ⟨h2, hy⟩, hr]
                  have HV : Hid ((k : Int) + r - a = ((e2 + 1 + sg + r : Nat) : Int)) := by
                    show _ = _
                    have := HK2.out
                    omega
                  clear hy hr
                  go_wp2_with fail
                  refine (cF _).mono ?_
                  rintro e w' ⟨rfl, rfl⟩
                  go_wp2_with fail
                  refine (c1 _).mono ?_
                  rintro e w' ⟨rfl, rfl⟩
                  go_wp2
                  go_ret
                  exact ⟨by rw [HQ.out]; exact ret_int HV.out, rfl⟩
              · have h2' : decide ((k : Int) < s.size) = false := by simp; omega
                have HQ : Hid (R = e2) := by
                  show _ = _
                  rw [HXX.out, if_neg (fun h => h2 h.1)]
                go_wp2
                go_ret
                exact ⟨by rw [HQ.out]; rfl, rfl⟩

end Go.Proofs.YtcabanghegddhaaGreatDoor

namespace Go.Proofs.YtcabanghegddhaaGreatDoor
open Go.RowKit
set_option linter.unusedVariables false

/-- the words of the language -/
def wordsL : List (List UInt8) := [[108, 101, 116], [112, 114, 105, 110, 116], [105, 102], [101, 108, 115, 101], [119, 104, 105, 108, 101], [114, 101, 116, 117, 114, 110], [116, 104, 114, 111, 119], [116, 114, 121], [99, 97, 116, 99, 104], [102, 117, 110], [116, 114, 117, 101], [102, 97, 108, 115, 101], [110, 111, 110, 101]]
def wordsO : Obj := .cells #[.string ⟨#[108, 101, 116]⟩, .string ⟨#[112, 114, 105, 110, 116]⟩, .string ⟨#[105, 102]⟩, .string ⟨#[101, 108, 115, 101]⟩, .string ⟨#[119, 104, 105, 108, 101]⟩, .string ⟨#[114, 101, 116, 117, 114, 110]⟩, .string ⟨#[116, 104, 114, 111, 119]⟩, .string ⟨#[116, 114, 121]⟩, .string ⟨#[99, 97, 116, 99, 104]⟩, .string ⟨#[102, 117, 110]⟩, .string ⟨#[116, 114, 117, 101]⟩, .string ⟨#[102, 97, 108, 115, 101]⟩, .string ⟨#[110, 111, 110, 101]⟩] 9

set_option maxHeartbeats 400000 in
set_option maxRecDepth 100000 in
theorem specWords_any (w : World) :
    Calls Tryz.prog 32 #[] w fun e w' => e = .returned (.slice (some ⟨w.heap.size, 0, none⟩) 13 13) ∧ w' = w.alloc wordsO := by
  unfold wordsO
  go_enter Tryz.func32, Tryz.ntmps32
  go_wp2
  go_ret
  exact ⟨rfl, rfl⟩
theorem inWords (x : ByteArray) (w : World) (g : Nat) (h : w.heap[g]? = some wordsO) :
    Calls Tryz.prog 31 #[.slice (some ⟨g, 0, none⟩) 13 13, .string x] w fun e w' => e = .returned (.bool (decide (x.data.toList ∈ wordsL))) ∧ w = w' := by
  have c := l08In_any g 13 wordsL x w (by decide) (fun j hj => by
    unfold wordsO at h
    rw [cell_of_row _ _ _ _ _ _ h]
    match j, hj with
    | 0, _ => rfl
    | 1, _ => rfl
    | 2, _ => rfl
    | 3, _ => rfl
    | 4, _ => rfl
    | 5, _ => rfl
    | 6, _ => rfl
    | 7, _ => rfl
    | 8, _ => rfl
    | 9, _ => rfl
    | 10, _ => rfl
    | 11, _ => rfl
    | 12, _ => rfl)
  exact c

/-- a token: its kind, its text, its number; and how many bytes it has, or -1 -/
structure Tok where
  kind : Int
  text : List UInt8
  num : Nat
def tokN (l : List UInt8) : Tok × Int :=
  if isLet (l.getD 0 0) = true then
    (⟨if l.take (nameN l) ∈ wordsL then 5 else 1, l.take (nameN l), 0⟩, if 12 < nameN l then -1 else nameN l)
  else if isFig (l.getD 0 0) = true then
    (⟨2, l.take (numbN l), readV (l.take (numbN l))⟩, if readB (l.take (numbN l)) = true then numbN l else -1)
  else if (l.getD 0 0).toNat = 34 then
    (⟨3, if 0 < textZ (l.drop 1) then (l.drop 1).take (textZ (l.drop 1) - 2).toNat else [], 0⟩, textZ (l.drop 1))
  else
    (⟨4, if 0 < markZ l then l.take (markZ l).toNat else [], 0⟩, markZ l)
def tokV (t : Tok) (a : Nat) : Value := .agg #[.int .i64 t.kind, .string (txt t.text), .int .u64 (t.num : Int), .int .i64 (a : Int)]

theorem four_put {w : World} {g : Nat} {a b c d a' b' c' d' : Value} {t : TypeId} (h : w.heap[g]? = some (.cells #[a, b, c, d] t)) :
    ((((w.setCell ⟨g, 0, none⟩ a').setCell ⟨g, 1, none⟩ b').setCell ⟨g, 2, none⟩ c').setCell ⟨g, 3, none⟩ d').heap[g]? = some (.cells #[a', b', c', d'] t) := by
  rw [heap_setCell_same _ _ _ _ _ _ (heap_setCell_same _ _ _ _ _ _ (heap_setCell_same _ _ _ _ _ _ (heap_setCell_same _ _ _ _ _ _ h)))]
  rfl

theorem name_le (l : List UInt8) : nameN l ≤ l.length := by
  match l with
  | [] => exact Nat.le_refl _
  | c :: r =>
    show (if isLet c = true then _ else 0) ≤ _
    split
    · have := (List.takeWhile_sublist (fun c => isLet c || isFig c) (l := r)).length_le
      rw [List.length_cons]; omega
    · exact Nat.zero_le _

set_option maxHeartbeats 2000000 in
set_option maxRecDepth 100000 in
theorem l08Token_name (s : ByteArray) (a : Nat) (w : World) (ha : a < s.size) (hs : s.size ≤ 1048576) (hc : isLet s[a] = true) :
    Calls Tryz.prog 15 #[.string s, .int .i64 a] w fun e w' => e = .returned (.tuple #[tokV (tokN (s.data.toList.drop a)).1 a, .int .i64 (tokN (s.data.toList.drop a)).2]) ∧ Below w.heap.size w w' := by
  obtain ⟨n, hn⟩ : ∃ n, nameN (s.data.toList.drop a) = n := ⟨_, rfl⟩
  have hnl := name_le (s.data.toList.drop a)
  rw [List.length_drop, size_list, hn] at hnl
  obtain ⟨T, hT⟩ : ∃ T, s.extract a (a + n) = T := ⟨_, rfl⟩
  have hTl : T = txt ((s.data.toList.drop a).take n) := by rw [← hT, extract_txt, sl_drop]
  have hTd : T.data.toList = (s.data.toList.drop a).take n := by rw [hTl, txt_data]
  have hR : tokN (s.data.toList.drop a) = ((⟨if T.data.toList ∈ wordsL then 5 else 1, T.data.toList, 0⟩ : Tok), (if 12 < n then -1 else (n : Int) : Int)) := by
    unfold tokN
    rw [mark_head ha, if_pos hc, hn, ← hTd]
  rw [hR]
  have hV : tokV ⟨if T.data.toList ∈ wordsL then 5 else 1, T.data.toList, 0⟩ a = .agg #[.int .i64 (if T.data.toList ∈ wordsL then 5 else 1), .string T, .int .u64 0, .int .i64 a] := by
    unfold tokV
    rw [txt_self]
    rfl
  show Calls _ _ _ _ (fun e w' => e = .returned (.tuple #[tokV ⟨if T.data.toList ∈ wordsL then 5 else 1, T.data.toList, 0⟩ a, .int .i64 (if 12 < n then -1 else (n : Int))]) ∧ _)
  rw [hV]
  have cL := fun W => l08Letter_any s[a] W
  rw [hc] at cL
  have cN := fun W => l08Name_any s a W (by omega) hs
  rw [hn] at cN
  have cI := fun W g h => inWords T W g h
  obtain ⟨q, hq⟩ : ∃ q, decide (T.data.toList ∈ wordsL) = q := ⟨_, rfl⟩
  rw [hq] at cI
  have hK : (if T.data.toList ∈ wordsL then (5 : Int) else 1) = if q = true then 5 else 1 := by
    rw [← hq]
    by_cases h : T.data.toList ∈ wordsL
    · rw [if_pos h, decide_eq_true h]; rfl
    · rw [if_neg h, decide_eq_false h]; rfl
  rw [hK]
  obtain ⟨KK, hKK⟩ : ∃ K : Int, (if q = true then (5 : Int) else 1) = K := ⟨_, rfl⟩
  obtain ⟨Z, hZ⟩ : ∃ Z : Int, (if 12 < n then -1 else (n : Int)) = Z := ⟨_, rfl⟩
  rw [hKK, hZ]
  have HKK : Hid ((if q = true then (5 : Int) else 1) = KK) := hKK
  have HZ : Hid ((if 12 < n then -1 else (n : Int)) = Z) := hZ
  clear hKK hZ
  obtain ⟨b, hb⟩ : ∃ b, a + n = b := ⟨_, rfl⟩
  have hb' : (a : Int) + n = b := by omega
  rw [hb] at hT
  have hbs : (b : Int) ≤ s.size := by omega
  have hab : (a : Int) ≤ b := by omega
  have hai : (a : Int) < s.size := by omega
  clear hn hTl hTd hR hV hc hK hq
  go_enter Tryz.func15, Tryz.ntmps15
  obtain ⟨g0, hg0⟩ : ∃ g, w.heap.size = g := ⟨_, rfl⟩
  obtain ⟨W2, hW2⟩ : ∃ W, (w.alloc (.cells #[.int .i64 0, .string ⟨#[]⟩, .int .u64 0, .int .i64 0] 30)).alloc (.cells #[.int .i64 0, .string ⟨#[]⟩, .int .u64 0, .int .i64 (a : Int)] 30) = W := ⟨_, rfl⟩
  have bb : Below w.heap.size w W2 := by rw [← hW2]; exact ((Below.refl _ _).alloc (Nat.le_refl _) _).alloc (by simp) _
  have hB1 : W2.heap[g0 + 1]? = some (.cells #[.int .i64 0, .string ⟨#[]⟩, .int .u64 0, .int .i64 (a : Int)] 30) := by
    have h := heap_alloc_new (w.alloc (.cells #[.int .i64 0, .string ⟨#[]⟩, .int .u64 0, .int .i64 0] 30)) (.cells #[.int .i64 0, .string ⟨#[]⟩, .int .u64 0, .int .i64 (a : Int)] 30)
    rw [hW2] at h
    have e : (w.alloc (.cells #[.int .i64 0, .string ⟨#[]⟩, .int .u64 0, .int .i64 0] 30)).heap.size = g0 + 1 := by rw [← hg0]; simp
    rw [e] at h
    exact h
  have hB0 : W2.heap[g0]? = some (.cells #[.int .i64 0, .string ⟨#[]⟩, .int .u64 0, .int .i64 0] 30) := by
    have h := heap_alloc_new w (.cells #[.int .i64 0, .string ⟨#[]⟩, .int .u64 0, .int .i64 0] 30)
    rw [hg0] at h
    have k : Below (w.alloc (.cells #[.int .i64 0, .string ⟨#[]⟩, .int .u64 0, .int .i64 0] 30)).heap.size (w.alloc (.cells #[.int .i64 0, .string ⟨#[]⟩, .int .u64 0, .int .i64 0] 30)) W2 := by rw [← hW2]; exact (Below.refl _ _).alloc (Nat.le_refl _) _
    exact kept_block k h
  obtain ⟨g1, hg1⟩ : ∃ g, g0 + 1 = g := ⟨_, rfl⟩
  rw [hg1] at hB1
  have hne : g0 ≠ g1 := by omega
  have hne' : g1 ≠ g0 := by omega
  have hgw : w.heap.size ≤ g1 := by omega
  go_wp2_with fail
  try simp only [hW2, hg0, hg1]
  clear hW2 hg1
  refine (cL _).mono ?_
  rintro e w' ⟨rfl, rfl⟩
  go_wp2_with fail
  refine (cN _).mono ?_
  rintro e w' ⟨rfl, rfl⟩
  have f1 := fun j => frozen_of_row W2 g1 j _ _ hB1
  have f10 := f1 0
  have f11 := f1 1
  have k0 : W2.cell? ⟨g1, 0, none⟩ = some (.int .i64 0) := by rw [cell_of_row _ _ _ _ _ _ hB1]; rfl
  have k1 : W2.cell? ⟨g1, 1, none⟩ = some (.string ⟨#[]⟩) := by rw [cell_of_row _ _ _ _ _ _ hB1]; rfl
  clear f1
  go_upto_region 11 with fail
  obtain ⟨W3, hW3⟩ : ∃ W, (W2.setCell ⟨g1, 0, none⟩ (.int .i64 1)).setCell ⟨g1, 1, none⟩ (.string T) = W := ⟨_, rfl⟩
  have hC1 : W3.heap[g1]? = some (.cells #[.int .i64 1, .string T, .int .u64 0, .int .i64 (a : Int)] 30) := by
    rw [← hW3, heap_setCell_same _ _ _ _ _ _ (heap_setCell_same _ _ _ _ _ _ hB1)]
    rfl
  have hC0 : W3.heap[g0]? = some (.cells #[.int .i64 0, .string ⟨#[]⟩, .int .u64 0, .int .i64 0] 30) := by
    rw [← hW3, heap_setCell_other _ _ _ _ hne, heap_setCell_other _ _ _ _ hne]
    exact hB0
  have bc : Below w.heap.size w W3 := by
    rw [← hW3]
    exact (bb.setCell (p := ⟨g1, 0, none⟩) hgw _).setCell (p := ⟨g1, 1, none⟩) hgw _
  try simp only [hW3]
  clear hW3 hB0 hB1 bb f10 f11 k0 k1
  clear W2
  go_cut [44] (fun x wx => x = .bool q ∧ Below w.heap.size w wx ∧ wx.heap[g1]? = some (.cells #[.int .i64 1, .string T, .int .u64 0, .int .i64 (a : Int)] 30) ∧ wx.heap[g0]? = some (.cells #[.int .i64 0, .string ⟨#[]⟩, .int .u64 0, .int .i64 0] 30))
  case first =>
    have k1 : W3.cell? ⟨g1, 1, none⟩ = some (.string T) := by rw [cell_of_row _ _ _ _ _ _ hC1]; rfl
    have bd : Below w.heap.size w (W3.alloc wordsO) := bc.alloc bc.size _
    have hD1 : (W3.alloc wordsO).heap[g1]? = some (.cells #[.int .i64 1, .string T, .int .u64 0, .int .i64 (a : Int)] 30) := kept_block (w := W3) ((Below.refl _ _).alloc (Nat.le_refl _) _) hC1
    have hD0 : (W3.alloc wordsO).heap[g0]? = some (.cells #[.int .i64 0, .string ⟨#[]⟩, .int .u64 0, .int .i64 0] 30) := kept_block (w := W3) ((Below.refl _ _).alloc (Nat.le_refl _) _) hC0
    have k1' : (W3.alloc wordsO).cell? ⟨g1, 1, none⟩ = some (.string T) := by rw [cell_of_row _ _ _ _ _ _ hD1]; rfl
    have HD : Hid (Below w.heap.size w (W3.alloc wordsO) ∧ (W3.alloc wordsO).heap[g1]? = some (.cells #[.int .i64 1, .string T, .int .u64 0, .int .i64 (a : Int)] 30) ∧ (W3.alloc wordsO).heap[g0]? = some (.cells #[.int .i64 0, .string ⟨#[]⟩, .int .u64 0, .int .i64 0] 30)) := ⟨bd, hD1, hD0⟩
    clear bd hD1 hD0
    go_region_with (first
      | (go_at_call 32; refine (specWords_any _).mono ?_; rintro e w' ⟨rfl, rfl⟩)
      | (go_at_call 31; refine (cI _ _ ?_).mono ?_; exact heap_alloc_new W3 _; rintro e w' ⟨rfl, rfl⟩))
    all_goals go_wp2
    all_goals go_meet
    all_goals exact ⟨rfl, HD.out.1.drew, HD.out.2.1, HD.out.2.2⟩
  case rest =>
    obtain ⟨rfl, bd, hD1, hD0⟩ := hcut
    clear hC1 hC0 bc cI cL cN
    clear W3
    go_upto_if 44 with fail
    go_cut [] (fun wx => Below w.heap.size w wx ∧ wx.heap[g1]? = some (.cells #[.int .i64 KK, .string T, .int .u64 0, .int .i64 (a : Int)] 30) ∧ wx.heap[g0]? = some (.cells #[.int .i64 0, .string ⟨#[]⟩, .int .u64 0, .int .i64 0] 30))
    case first =>
      have f10 := frozen_of_row wc g1 0 _ _ hD1
      obtain ⟨k0, k1, k2, k3⟩ := cells_four hD1
      cases q
      · have hk1 : KK = 1 := by rw [← HKK.out]; rfl
        subst hk1
        go_wp2
        go_meet
        case rel => exact ⟨bd, hD1, hD0⟩
      · have hE1 : (wc.setCell ⟨g1, 0, none⟩ (.int .i64 5)).heap[g1]? = some (.cells #[.int .i64 5, .string T, .int .u64 0, .int .i64 (a : Int)] 30) := by
          rw [heap_setCell_same _ _ _ _ _ _ hD1]
          rfl
        have hE0 : (wc.setCell ⟨g1, 0, none⟩ (.int .i64 5)).heap[g0]? = some (.cells #[.int .i64 0, .string ⟨#[]⟩, .int .u64 0, .int .i64 0] 30) := by
          rw [heap_setCell_other _ _ _ _ hne]
          exact hD0
        have HE : Hid (Below w.heap.size w (wc.setCell ⟨g1, 0, none⟩ (.int .i64 5)) ∧ (wc.setCell ⟨g1, 0, none⟩ (.int .i64 5)).heap[g1]? = some (.cells #[.int .i64 5, .string T, .int .u64 0, .int .i64 (a : Int)] 30) ∧ (wc.setCell ⟨g1, 0, none⟩ (.int .i64 5)).heap[g0]? = some (.cells #[.int .i64 0, .string ⟨#[]⟩, .int .u64 0, .int .i64 0] 30)) := ⟨bd.setCell (p := ⟨g1, 0, none⟩) hgw _, hE1, hE0⟩
        clear hE1 hE0
        have hk1 : KK = 5 := by rw [← HKK.out]; rfl
        subst hk1
        go_wp2
        go_meet
        case rel => exact HE.out
    case rest =>
      clear bd hD1 hD0
      obtain ⟨bd, hD1, hD0⟩ := hcut
      obtain ⟨k0, k1, k2, k3⟩ := cells_four hD1
      obtain ⟨m0, m1, m2, m3⟩ := cells_four hD0
      have f00 := frozen_of_row _ g0 0 _ _ hD0
      have f01 := frozen_of_row _ g0 1 _ _ hD0
      have f02 := frozen_of_row _ g0 2 _ _ hD0
      have f03 := frozen_of_row _ g0 3 _ _ hD0
      have hgw0 : w.heap.size ≤ g0 := by omega
      obtain ⟨W5, hW5⟩ : ∃ W, (((wc.setCell ⟨g0, 0, none⟩ (.int .i64 KK)).setCell ⟨g0, 1, none⟩ (.string T)).setCell ⟨g0, 2, none⟩ (.int .u64 0)).setCell ⟨g0, 3, none⟩ (.int .i64 (a : Int)) = W := ⟨_, rfl⟩
      have b5 : Below w.heap.size w W5 := by
        rw [← hW5]
        exact (((bd.setCell (p := ⟨g0, 0, none⟩) hgw0 _).setCell (p := ⟨g0, 1, none⟩) hgw0 _).setCell (p := ⟨g0, 2, none⟩) hgw0 _).setCell (p := ⟨g0, 3, none⟩) hgw0 _
      have hF := four_put (a' := .int .i64 KK) (b' := .string T) (c' := .int .u64 0) (d' := .int .i64 (a : Int)) hD0
      rw [hW5] at hF
      obtain ⟨v0, v1, v2, v3⟩ := cells_four hF
      clear hF bd hD0 hD1
      by_cases h12 : 12 < n
      · have h12' : (12 : Int) < n := by omega
        have hz : Z = -1 := by rw [← HZ.out, if_pos h12]
        subst hz
        go_wp2
        try simp only [hW5]
        try simp only [Exit.inBlock, Exit.then]
        refine bodyPost_ret (by simp [results, Tryz.results15, go_sem, v0, v1, v2, v3]; try rfl) rfl ?_
        exact ⟨rfl, b5⟩
      · have h12' : decide ((12 : Int) < n) = false := by simp; omega
        have hz : Z = n := by rw [← HZ.out, if_neg h12]
        subst hz
        go_wp2
        try simp only [hW5]
        try simp only [Exit.inBlock, Exit.then]
        refine bodyPost_ret (by simp [results, Tryz.results15, go_sem, v0, v1, v2, v3]; try rfl) rfl ?_
        exact ⟨rfl, b5⟩

end Go.Proofs.YtcabanghegddhaaGreatDoor

namespace Go.Proofs.YtcabanghegddhaaGreatDoor
open Go.RowKit
set_option linter.unusedVariables false

theorem markZ_cases {l : List UInt8} (h : 1 ≤ l.length) : markZ l = -1 ∨ (0 < markZ l ∧ markZ l ≤ l.length ∧ markZ l ≤ 2) := by
  unfold markZ
  split
  · rename_i h2
    right
    refine ⟨by omega, ?_, by omega⟩
    have := h2.1
    omega
  · split
    · right
      refine ⟨by omega, ?_, by omega⟩
      omega
    · left; rfl

set_option maxHeartbeats 2000000 in
set_option maxRecDepth 100000 in
theorem l08Token_mark (s : ByteArray) (a : Nat) (w : World) (ha : a < s.size) (hs : s.size ≤ 1048576) (hc : isLet s[a] = false) (hf : isFig s[a] = false) (hq : (s[a]).toNat ≠ 34) :
    Calls Tryz.prog 15 #[.string s, .int .i64 a] w fun e w' => e = .returned (.tuple #[tokV (tokN (s.data.toList.drop a)).1 a, .int .i64 (tokN (s.data.toList.drop a)).2]) ∧ Below w.heap.size w w' := by
  have hlen : 1 ≤ (s.data.toList.drop a).length := by rw [List.length_drop, size_list]; omega
  have hz := markZ_cases hlen
  rw [List.length_drop, size_list] at hz
  have cM := fun W => l08Mark_any s a W ha hs
  obtain ⟨z, hzz⟩ : ∃ z, markZ (s.data.toList.drop a) = z := ⟨_, rfl⟩
  rw [hzz] at hz cM
  obtain ⟨T, hT⟩ : ∃ T, (if 0 < z then s.extract a (a + z.toNat) else (⟨#[]⟩ : ByteArray)) = T := ⟨_, rfl⟩
  have hTl : T = txt (if 0 < z then (s.data.toList.drop a).take z.toNat else []) := by
    rw [← hT]
    by_cases h : 0 < z
    · rw [if_pos h, if_pos h, extract_txt, sl_drop]
    · rw [if_neg h, if_neg h]; rfl
  have hR : tokN (s.data.toList.drop a) = ((⟨4, if 0 < z then (s.data.toList.drop a).take z.toNat else [], 0⟩ : Tok), z) := by
    unfold tokN
    rw [mark_head ha, if_neg (by rw [hc]; decide), if_neg (by rw [hf]; decide), if_neg hq, hzz]
  rw [hR]
  have hV : tokV ⟨4, if 0 < z then (s.data.toList.drop a).take z.toNat else [], 0⟩ a = .agg #[.int .i64 4, .string T, .int .u64 0, .int .i64 a] := by
    unfold tokV
    rw [← hTl]
    rfl
  show Calls _ _ _ _ (fun e w' => e = .returned (.tuple #[tokV ⟨4, if 0 < z then (s.data.toList.drop a).take z.toNat else [], 0⟩ a, .int .i64 z]) ∧ _)
  rw [hV]
  have cL := fun W => l08Letter_any s[a] W
  rw [hc] at cL
  have cF := fun W => l08Figure_any s[a] W
  rw [hf] at cF
  have hq' : (((s[a]).toNat : Int) == 34) = false := by rw [beq_eq_false_iff_ne]; omega
  have hai : (a : Int) < s.size := by omega
  have HT : Hid (Unit → (if 0 < z then s.extract a (a + z.toNat) else (⟨#[]⟩ : ByteArray)) = T) := fun _ => hT
  clear hzz hT hTl hR hV hc hf hq hlen
  go_enter Tryz.func15, Tryz.ntmps15
  obtain ⟨g0, hg0⟩ : ∃ g, w.heap.size = g := ⟨_, rfl⟩
  obtain ⟨W2, hW2⟩ : ∃ W, (w.alloc (.cells #[.int .i64 0, .string ⟨#[]⟩, .int .u64 0, .int .i64 0] 30)).alloc (.cells #[.int .i64 0, .string ⟨#[]⟩, .int .u64 0, .int .i64 (a : Int)] 30) = W := ⟨_, rfl⟩
  have bb : Below w.heap.size w W2 := by rw [← hW2]; exact ((Below.refl _ _).alloc (Nat.le_refl _) _).alloc (by simp) _
  have hB1 : W2.heap[g0 + 1]? = some (.cells #[.int .i64 0, .string ⟨#[]⟩, .int .u64 0, .int .i64 (a : Int)] 30) := by
    have h := heap_alloc_new (w.alloc (.cells #[.int .i64 0, .string ⟨#[]⟩, .int .u64 0, .int .i64 0] 30)) (.cells #[.int .i64 0, .string ⟨#[]⟩, .int .u64 0, .int .i64 (a : Int)] 30)
    rw [hW2] at h
    have e : (w.alloc (.cells #[.int .i64 0, .string ⟨#[]⟩, .int .u64 0, .int .i64 0] 30)).heap.size = g0 + 1 := by rw [← hg0]; simp
    rw [e] at h
    exact h
  have hB0 : W2.heap[g0]? = some (.cells #[.int .i64 0, .string ⟨#[]⟩, .int .u64 0, .int .i64 0] 30) := by
    have h := heap_alloc_new w (.cells #[.int .i64 0, .string ⟨#[]⟩, .int .u64 0, .int .i64 0] 30)
    rw [hg0] at h
    have k : Below (w.alloc (.cells #[.int .i64 0, .string ⟨#[]⟩, .int .u64 0, .int .i64 0] 30)).heap.size (w.alloc (.cells #[.int .i64 0, .string ⟨#[]⟩, .int .u64 0, .int .i64 0] 30)) W2 := by rw [← hW2]; exact (Below.refl _ _).alloc (Nat.le_refl _) _
    exact kept_block k h
  obtain ⟨g1, hg1⟩ : ∃ g, g0 + 1 = g := ⟨_, rfl⟩
  rw [hg1] at hB1
  have hne : g0 ≠ g1 := by omega
  have hne' : g1 ≠ g0 := by omega
  have hgw : w.heap.size ≤ g1 := by omega
  go_wp2_with fail
  try simp only [hW2, hg0, hg1]
  clear hW2 hg1
  refine (cL _).mono ?_
  rintro e w' ⟨rfl, rfl⟩
  go_wp2_with fail
  refine (cF _).mono ?_
  rintro e w' ⟨rfl, rfl⟩
  go_wp2_with fail
  refine (cM _).mono ?_
  rintro e W3 ⟨rfl, b3⟩
  replace hB1 := kept_block b3 hB1
  replace hB0 := kept_block b3 hB0
  replace bb := chain bb b3
  clear b3 cL cF cM
  clear W2
  have hgw0 : w.heap.size ≤ g0 := by omega
  have f10 := frozen_of_row W3 g1 0 _ _ hB1
  obtain ⟨k0, k1, k2, k3⟩ := cells_four hB1
  obtain ⟨W4, hW4⟩ : ∃ W, W3.setCell ⟨g1, 0, none⟩ (.int .i64 4) = W := ⟨_, rfl⟩
  have hC1 : W4.heap[g1]? = some (.cells #[.int .i64 4, .string ⟨#[]⟩, .int .u64 0, .int .i64 (a : Int)] 30) := by
    rw [← hW4, heap_setCell_same _ _ _ _ _ _ hB1]
    rfl
  have hC0 : W4.heap[g0]? = some (.cells #[.int .i64 0, .string ⟨#[]⟩, .int .u64 0, .int .i64 0] 30) := by
    rw [← hW4, heap_setCell_other _ _ _ _ hne]
    exact hB0
  have bc : Below w.heap.size w W4 := by rw [← hW4]; exact bb.setCell (p := ⟨g1, 0, none⟩) hgw _
  go_upto_region 5 with fail
  try simp only [hW4]
  clear hW4 hB0 hB1 bb f10 k0 k1 k2 k3
  clear W3
  rcases hz with hz | ⟨hz1, hz2, hz3⟩
  · subst hz
    have hTT := HT.out ()
    rw [if_neg (by omega)] at hTT
    subst hTT
    have bd := bc
    have hD1 := hC1
    have hD0 := hC0
    clear bc hC1 hC0
    obtain ⟨k0, k1, k2, k3⟩ := cells_four hD1
    obtain ⟨m0, m1, m2, m3⟩ := cells_four hD0
    have f00 := frozen_of_row _ g0 0 _ _ hD0
    have f01 := frozen_of_row _ g0 1 _ _ hD0
    have f02 := frozen_of_row _ g0 2 _ _ hD0
    have f03 := frozen_of_row _ g0 3 _ _ hD0
    obtain ⟨W5, hW5⟩ : ∃ W, (((W4.setCell ⟨g0, 0, none⟩ (.int .i64 4)).setCell ⟨g0, 1, none⟩ (.string ⟨#[]⟩)).setCell ⟨g0, 2, none⟩ (.int .u64 0)).setCell ⟨g0, 3, none⟩ (.int .i64 (a : Int)) = W := ⟨_, rfl⟩
    have b5 : Below w.heap.size w W5 := by
      rw [← hW5]
      exact (((bd.setCell (p := ⟨g0, 0, none⟩) hgw0 _).setCell (p := ⟨g0, 1, none⟩) hgw0 _).setCell (p := ⟨g0, 2, none⟩) hgw0 _).setCell (p := ⟨g0, 3, none⟩) hgw0 _
    have hF := four_put (a' := .int .i64 4) (b' := .string ⟨#[]⟩) (c' := .int .u64 0) (d' := .int .i64 (a : Int)) hD0
    rw [hW5] at hF
    obtain ⟨v0, v1, v2, v3⟩ := cells_four hF
    clear hF bd hD0 hD1 HT
    go_wp2
    try simp only [hW5]
    try simp only [Exit.inBlock, Exit.then]
    refine bodyPost_ret (by simp [results, Tryz.results15, go_sem, v0, v1, v2, v3]; try rfl) rfl ?_
    exact ⟨rfl, b5⟩
  · obtain ⟨m, rfl⟩ : ∃ m : Nat, z = m := ⟨z.toNat, by omega⟩
    have hTT := HT.out ()
    rw [if_pos hz1, Int.toNat_natCast] at hTT
    obtain ⟨b, hb⟩ : ∃ b, a + m = b := ⟨_, rfl⟩
    rw [hb] at hTT
    have hb' : (a : Int) + m = b := by omega
    have hbs : (b : Int) ≤ s.size := by omega
    have hab : (a : Int) ≤ b := by omega
    have hm0 : 0 < m := by omega
    have f11 := frozen_of_row W4 g1 1 _ _ hC1
    obtain ⟨q0, q1, q2, q3⟩ := cells_four hC1
    obtain ⟨W6, hW6⟩ : ∃ W, W4.setCell ⟨g1, 1, none⟩ (.string T) = W := ⟨_, rfl⟩
    have bd : Below w.heap.size w W6 := by rw [← hW6]; exact bc.setCell (p := ⟨g1, 1, none⟩) hgw _
    have hD1 : W6.heap[g1]? = some (.cells #[.int .i64 4, .string T, .int .u64 0, .int .i64 (a : Int)] 30) := by
      rw [← hW6, heap_setCell_same _ _ _ _ _ _ hC1]; rfl
    have hD0 : W6.heap[g0]? = some (.cells #[.int .i64 0, .string ⟨#[]⟩, .int .u64 0, .int .i64 0] 30) := by
      rw [← hW6, heap_setCell_other _ _ _ _ hne]; exact hC0
    clear hb bc hC1 hC0
    obtain ⟨k0, k1, k2, k3⟩ := cells_four hD1
    obtain ⟨m0, m1, m2, m3⟩ := cells_four hD0
    have f00 := frozen_of_row _ g0 0 _ _ hD0
    have f01 := frozen_of_row _ g0 1 _ _ hD0
    have f02 := frozen_of_row _ g0 2 _ _ hD0
    have f03 := frozen_of_row _ g0 3 _ _ hD0
    obtain ⟨W5, hW5⟩ : ∃ W, (((W6.setCell ⟨g0, 0, none⟩ (.int .i64 4)).setCell ⟨g0, 1, none⟩ (.string T)).setCell ⟨g0, 2, none⟩ (.int .u64 0)).setCell ⟨g0, 3, none⟩ (.int .i64 (a : Int)) = W := ⟨_, rfl⟩
    have b5 : Below w.heap.size w W5 := by
      rw [← hW5]
      exact (((bd.setCell (p := ⟨g0, 0, none⟩) hgw0 _).setCell (p := ⟨g0, 1, none⟩) hgw0 _).setCell (p := ⟨g0, 2, none⟩) hgw0 _).setCell (p := ⟨g0, 3, none⟩) hgw0 _
    have hF := four_put (a' := .int .i64 4) (b' := .string T) (c' := .int .u64 0) (d' := .int .i64 (a : Int)) hD0
    rw [hW5] at hF
    obtain ⟨v0, v1, v2, v3⟩ := cells_four hF
    clear hF bd hD0 hD1 HT
    go_wp2
    try simp only [hW5]
    try simp only [Exit.inBlock, Exit.then]
    refine bodyPost_ret (by simp [results, Tryz.results15, go_sem, v0, v1, v2, v3]; try rfl) rfl ?_
    exact ⟨rfl, b5⟩

end Go.Proofs.YtcabanghegddhaaGreatDoor

namespace Go.Proofs.YtcabanghegddhaaGreatDoor
open Go.RowKit
set_option linter.unusedVariables false

theorem quote_lt : ∀ {r : List UInt8} {i : Nat}, quoteN r = some i → i < r.length
  | [], i, h => by cases h
  | c :: r, i, h => by
    rw [quoteN] at h
    by_cases h34 : c.toNat = 34
    · rw [if_pos h34] at h
      obtain rfl := Option.some.inj h
      simp
    · rw [if_neg h34] at h
      by_cases hb : c.toNat < 32 ∨ 126 < c.toNat
      · rw [if_pos hb] at h; cases h
      · rw [if_neg hb] at h
        cases hr : quoteN r with
        | none => rw [hr] at h; cases h
        | some j =>
          rw [hr] at h
          obtain rfl := Option.some.inj h
          have := quote_lt hr
          simp; omega
theorem textZ_cases (l : List UInt8) : textZ l = -1 ∨ (0 < textZ l ∧ textZ l ≤ (l.length : Int) + 1 ∧ 2 ≤ textZ l) := by
  unfold textZ
  cases h : quoteN l with
  | none => left; rfl
  | some i =>
    right
    have := quote_lt h
    simp only
    omega
theorem numb_le (l : List UInt8) : numbN l ≤ l.length := by
  have hr := run_le l
  have hf : ∀ e, e ≤ l.length → fracN l e ≤ l.length := fun e he => by
    unfold fracN
    cases h : l.drop e with
    | nil => exact he
    | cons c q =>
      have hl := congrArg List.length h
      rw [List.length_drop, List.length_cons] at hl
      cases q with
      | nil => exact he
      | cons d q =>
        simp only
        split
        · have := run_le (d :: q); omega
        · exact he
  have ht : ∀ e, e ≤ l.length → tailN l e ≤ l.length := fun e he => by
    unfold tailN
    cases h : l.drop e with
    | nil => exact he
    | cons c q =>
      have hl := congrArg List.length h
      rw [List.length_drop, List.length_cons] at hl
      cases q with
      | nil => exact he
      | cons d q =>
        simp only
        split
        · cases hq : (d :: q).drop (signN8 d) with
          | nil => exact he
          | cons f u =>
            simp only
            split
            · have h1 := run_le (f :: u)
              have h2 := congrArg List.length hq
              rw [List.length_drop, List.length_cons, List.length_cons] at h2
              rw [List.length_cons] at h1 hl
              omega
            · exact he
        · exact he
  exact ht _ (hf _ hr)

set_option maxHeartbeats 2000000 in
set_option maxRecDepth 100000 in
theorem l08Token_text (s : ByteArray) (a : Nat) (w : World) (ha : a < s.size) (hs : s.size ≤ 1048576) (hc : isLet s[a] = false) (hf : isFig s[a] = false) (hq : (s[a]).toNat = 34) :
    Calls Tryz.prog 15 #[.string s, .int .i64 a] w fun e w' => e = .returned (.tuple #[tokV (tokN (s.data.toList.drop a)).1 a, .int .i64 (tokN (s.data.toList.drop a)).2]) ∧ Below w.heap.size w w' := by
  have hz := textZ_cases (s.data.toList.drop (a + 1))
  rw [List.length_drop, size_list] at hz
  have cM := fun W => l08Text_any s a W ha hs
  obtain ⟨z, hzz⟩ : ∃ z, textZ (s.data.toList.drop (a + 1)) = z := ⟨_, rfl⟩
  rw [hzz] at hz cM
  obtain ⟨T, hT⟩ : ∃ T, (if 0 < z then s.extract (a + 1) (a + 1 + (z - 2).toNat) else (⟨#[]⟩ : ByteArray)) = T := ⟨_, rfl⟩
  have hTl : T = txt (if 0 < z then (s.data.toList.drop (a + 1)).take (z - 2).toNat else []) := by
    rw [← hT]
    by_cases h : 0 < z
    · rw [if_pos h, if_pos h, extract_txt, sl_drop]
    · rw [if_neg h, if_neg h]; rfl
  have hR : tokN (s.data.toList.drop a) = ((⟨3, if 0 < z then (s.data.toList.drop (a + 1)).take (z - 2).toNat else [], 0⟩ : Tok), z) := by
    unfold tokN
    rw [mark_head ha, if_neg (by rw [hc]; decide), if_neg (by rw [hf]; decide), if_pos hq, List.drop_drop, hzz]
  rw [hR]
  have hV : tokV ⟨3, if 0 < z then (s.data.toList.drop (a + 1)).take (z - 2).toNat else [], 0⟩ a = .agg #[.int .i64 3, .string T, .int .u64 0, .int .i64 a] := by
    unfold tokV
    rw [← hTl]
    rfl
  show Calls _ _ _ _ (fun e w' => e = .returned (.tuple #[tokV ⟨3, if 0 < z then (s.data.toList.drop (a + 1)).take (z - 2).toNat else [], 0⟩ a, .int .i64 z]) ∧ _)
  rw [hV]
  have cL := fun W => l08Letter_any s[a] W
  rw [hc] at cL
  have cF := fun W => l08Figure_any s[a] W
  rw [hf] at cF
  have hq' : ((s[a]).toNat : Int) = 34 := by omega
  have hai : (a : Int) < s.size := by omega
  simp only [hq'] at cL cF
  have HT : Hid (Unit → (if 0 < z then s.extract (a + 1) (a + 1 + (z - 2).toNat) else (⟨#[]⟩ : ByteArray)) = T) := fun _ => hT
  clear hzz hT hTl hR hV hc hf hq
  go_enter Tryz.func15, Tryz.ntmps15
  obtain ⟨g0, hg0⟩ : ∃ g, w.heap.size = g := ⟨_, rfl⟩
  obtain ⟨W2, hW2⟩ : ∃ W, (w.alloc (.cells #[.int .i64 0, .string ⟨#[]⟩, .int .u64 0, .int .i64 0] 30)).alloc (.cells #[.int .i64 0, .string ⟨#[]⟩, .int .u64 0, .int .i64 (a : Int)] 30) = W := ⟨_, rfl⟩
  have bb : Below w.heap.size w W2 := by rw [← hW2]; exact ((Below.refl _ _).alloc (Nat.le_refl _) _).alloc (by simp) _
  have hB1 : W2.heap[g0 + 1]? = some (.cells #[.int .i64 0, .string ⟨#[]⟩, .int .u64 0, .int .i64 (a : Int)] 30) := by
    have h := heap_alloc_new (w.alloc (.cells #[.int .i64 0, .string ⟨#[]⟩, .int .u64 0, .int .i64 0] 30)) (.cells #[.int .i64 0, .string ⟨#[]⟩, .int .u64 0, .int .i64 (a : Int)] 30)
    rw [hW2] at h
    have e : (w.alloc (.cells #[.int .i64 0, .string ⟨#[]⟩, .int .u64 0, .int .i64 0] 30)).heap.size = g0 + 1 := by rw [← hg0]; simp
    rw [e] at h
    exact h
  have hB0 : W2.heap[g0]? = some (.cells #[.int .i64 0, .string ⟨#[]⟩, .int .u64 0, .int .i64 0] 30) := by
    have h := heap_alloc_new w (.cells #[.int .i64 0, .string ⟨#[]⟩, .int .u64 0, .int .i64 0] 30)
    rw [hg0] at h
    have k : Below (w.alloc (.cells #[.int .i64 0, .string ⟨#[]⟩, .int .u64 0, .int .i64 0] 30)).heap.size (w.alloc (.cells #[.int .i64 0, .string ⟨#[]⟩, .int .u64 0, .int .i64 0] 30)) W2 := by rw [← hW2]; exact (Below.refl _ _).alloc (Nat.le_refl _) _
    exact kept_block k h
  obtain ⟨g1, hg1⟩ : ∃ g, g0 + 1 = g := ⟨_, rfl⟩
  rw [hg1] at hB1
  have hne : g0 ≠ g1 := by omega
  have hne' : g1 ≠ g0 := by omega
  have hgw : w.heap.size ≤ g1 := by omega
  go_wp2_with fail
  try simp only [hW2, hg0, hg1]
  clear hW2 hg1
  refine (cL _).mono ?_
  rintro e w' ⟨rfl, rfl⟩
  go_wp2_with fail
  refine (cF _).mono ?_
  rintro e w' ⟨rfl, rfl⟩
  go_wp2_with fail
  refine (cM _).mono ?_
  rintro e W3 ⟨rfl, rfl⟩
  clear cL cF cM
  have hgw0 : w.heap.size ≤ g0 := by omega
  have f10 := frozen_of_row W2 g1 0 _ _ hB1
  obtain ⟨k0, k1, k2, k3⟩ := cells_four hB1
  obtain ⟨W4, hW4⟩ : ∃ W, W2.setCell ⟨g1, 0, none⟩ (.int .i64 3) = W := ⟨_, rfl⟩
  have hC1 : W4.heap[g1]? = some (.cells #[.int .i64 3, .string ⟨#[]⟩, .int .u64 0, .int .i64 (a : Int)] 30) := by
    rw [← hW4, heap_setCell_same _ _ _ _ _ _ hB1]
    rfl
  have hC0 : W4.heap[g0]? = some (.cells #[.int .i64 0, .string ⟨#[]⟩, .int .u64 0, .int .i64 0] 30) := by
    rw [← hW4, heap_setCell_other _ _ _ _ hne]
    exact hB0
  have bc : Below w.heap.size w W4 := by rw [← hW4]; exact bb.setCell (p := ⟨g1, 0, none⟩) hgw _
  go_upto_region 26 with fail
  try simp only [hW4]
  clear hW4 hB0 hB1 bb f10 k0 k1 k2 k3
  clear W2
  rcases hz with hz | ⟨hz1, hz2, hz3⟩
  · subst hz
    have hTT := HT.out ()
    rw [if_neg (by omega)] at hTT
    subst hTT
    have bd := bc
    have hD1 := hC1
    have hD0 := hC0
    clear bc hC1 hC0
    obtain ⟨k0, k1, k2, k3⟩ := cells_four hD1
    obtain ⟨m0, m1, m2, m3⟩ := cells_four hD0
    have f00 := frozen_of_row _ g0 0 _ _ hD0
    have f01 := frozen_of_row _ g0 1 _ _ hD0
    have f02 := frozen_of_row _ g0 2 _ _ hD0
    have f03 := frozen_of_row _ g0 3 _ _ hD0
    obtain ⟨W5, hW5⟩ : ∃ W, (((W4.setCell ⟨g0, 0, none⟩ (.int .i64 3)).setCell ⟨g0, 1, none⟩ (.string ⟨#[]⟩)).setCell ⟨g0, 2, none⟩ (.int .u64 0)).setCell ⟨g0, 3, none⟩ (.int .i64 (a : Int)) = W := ⟨_, rfl⟩
    have b5 : Below w.heap.size w W5 := by
      rw [← hW5]
      exact (((bd.setCell (p := ⟨g0, 0, none⟩) hgw0 _).setCell (p := ⟨g0, 1, none⟩) hgw0 _).setCell (p := ⟨g0, 2, none⟩) hgw0 _).setCell (p := ⟨g0, 3, none⟩) hgw0 _
    have hF := four_put (a' := .int .i64 3) (b' := .string ⟨#[]⟩) (c' := .int .u64 0) (d' := .int .i64 (a : Int)) hD0
    rw [hW5] at hF
    obtain ⟨v0, v1, v2, v3⟩ := cells_four hF
    clear hF bd hD0 hD1 HT
    go_wp2
    try simp only [hW5]
    try simp only [Exit.inBlock, Exit.then]
    refine bodyPost_ret (by simp [results, Tryz.results15, go_sem, v0, v1, v2, v3]; try rfl) rfl ?_
    exact ⟨rfl, b5⟩
  · obtain ⟨m, rfl⟩ : ∃ m : Nat, z = m := ⟨z.toNat, by omega⟩
    have hTT := HT.out ()
    rw [if_pos hz1] at hTT
    obtain ⟨a1, ha1⟩ : ∃ b, a + 1 = b := ⟨_, rfl⟩
    obtain ⟨b, hb⟩ : ∃ b, a1 + ((m : Int) - 2).toNat = b := ⟨_, rfl⟩
    rw [ha1, hb] at hTT
    have ha1' : (a : Int) + 1 = a1 := by omega
    have hb' : (a : Int) + m - 1 = b := by omega
    have hbs : (b : Int) ≤ s.size := by omega
    have hab : (a1 : Int) ≤ b := by omega
    have hm0 : 0 < m := by omega
    have f11 := frozen_of_row W4 g1 1 _ _ hC1
    obtain ⟨q0, q1, q2, q3⟩ := cells_four hC1
    obtain ⟨W6, hW6⟩ : ∃ W, W4.setCell ⟨g1, 1, none⟩ (.string T) = W := ⟨_, rfl⟩
    have bd : Below w.heap.size w W6 := by rw [← hW6]; exact bc.setCell (p := ⟨g1, 1, none⟩) hgw _
    have hD1 : W6.heap[g1]? = some (.cells #[.int .i64 3, .string T, .int .u64 0, .int .i64 (a : Int)] 30) := by
      rw [← hW6, heap_setCell_same _ _ _ _ _ _ hC1]; rfl
    have hD0 : W6.heap[g0]? = some (.cells #[.int .i64 0, .string ⟨#[]⟩, .int .u64 0, .int .i64 0] 30) := by
      rw [← hW6, heap_setCell_other _ _ _ _ hne]; exact hC0
    clear hb ha1 bc hC1 hC0
    obtain ⟨k0, k1, k2, k3⟩ := cells_four hD1
    obtain ⟨m0, m1, m2, m3⟩ := cells_four hD0
    have f00 := frozen_of_row _ g0 0 _ _ hD0
    have f01 := frozen_of_row _ g0 1 _ _ hD0
    have f02 := frozen_of_row _ g0 2 _ _ hD0
    have f03 := frozen_of_row _ g0 3 _ _ hD0
    obtain ⟨W5, hW5⟩ : ∃ W, (((W6.setCell ⟨g0, 0, none⟩ (.int .i64 3)).setCell ⟨g0, 1, none⟩ (.string T)).setCell ⟨g0, 2, none⟩ (.int .u64 0)).setCell ⟨g0, 3, none⟩ (.int .i64 (a : Int)) = W := ⟨_, rfl⟩
    have b5 : Below w.heap.size w W5 := by
      rw [← hW5]
      exact (((bd.setCell (p := ⟨g0, 0, none⟩) hgw0 _).setCell (p := ⟨g0, 1, none⟩) hgw0 _).setCell (p := ⟨g0, 2, none⟩) hgw0 _).setCell (p := ⟨g0, 3, none⟩) hgw0 _
    have hF := four_put (a' := .int .i64 3) (b' := .string T) (c' := .int .u64 0) (d' := .int .i64 (a : Int)) hD0
    rw [hW5] at hF
    obtain ⟨v0, v1, v2, v3⟩ := cells_four hF
    clear hF bd hD0 hD1 HT
    go_wp2
    try simp only [hW5]
    try simp only [Exit.inBlock, Exit.then]
    refine bodyPost_ret (by simp [results, Tryz.results15, go_sem, v0, v1, v2, v3]; try rfl) rfl ?_
    exact ⟨rfl, b5⟩

set_option maxHeartbeats 2000000 in
set_option maxRecDepth 100000 in
theorem l08Token_number (s : ByteArray) (a : Nat) (w : World) (ha : a < s.size) (hs : s.size ≤ 1048576) (hc : isLet s[a] = false) (hf : isFig s[a] = true) :
    Calls Tryz.prog 15 #[.string s, .int .i64 a] w fun e w' => e = .returned (.tuple #[tokV (tokN (s.data.toList.drop a)).1 a, .int .i64 (tokN (s.data.toList.drop a)).2]) ∧ Below w.heap.size w w' := by
  have cM := fun W => l08Number_any s a W (by omega) hs
  have hnl := numb_le (s.data.toList.drop a)
  obtain ⟨m, hm⟩ : ∃ m, numbN (s.data.toList.drop a) = m := ⟨_, rfl⟩
  rw [hm] at cM hnl
  rw [List.length_drop, size_list] at hnl
  obtain ⟨T, hT⟩ : ∃ T, s.extract a (a + m) = T := ⟨_, rfl⟩
  have hTl : T.data.toList = (s.data.toList.drop a).take m := by rw [← hT, extract_txt, txt_data, sl_drop]
  have hTs : T.size ≤ 1048576 := by rw [← size_list, hTl, List.length_take, List.length_drop, size_list]; omega
  have cR := fun W => specReadNumber_any T W hTs
  obtain ⟨v, hv⟩ : ∃ v, readV T.data.toList = v := ⟨_, rfl⟩
  obtain ⟨ok, hok⟩ : ∃ v, readB T.data.toList = v := ⟨_, rfl⟩
  have hR : tokN (s.data.toList.drop a) = ((⟨2, T.data.toList, v⟩ : Tok), (if ok = true then (m : Int) else -1 : Int)) := by
    unfold tokN
    rw [mark_head ha, if_neg (by rw [hc]; decide), if_pos hf, hm, ← hTl, hv, hok]
  rw [hv, hok] at cR
  rw [hR]
  have hV : tokV ⟨2, T.data.toList, v⟩ a = .agg #[.int .i64 2, .string T, .int .u64 (v : Int), .int .i64 a] := by
    unfold tokV
    rw [txt_self]
  show Calls _ _ _ _ (fun e w' => e = .returned (.tuple #[tokV ⟨2, T.data.toList, v⟩ a, .int .i64 (if ok = true then (m : Int) else -1)]) ∧ _)
  rw [hV]
  have cL := fun W => l08Letter_any s[a] W
  rw [hc] at cL
  have cF := fun W => l08Figure_any s[a] W
  rw [hf] at cF
  have hai : (a : Int) < s.size := by omega
  obtain ⟨b, hb⟩ : ∃ b, a + m = b := ⟨_, rfl⟩
  rw [hb] at hT
  have hb' : (a : Int) + m = b := by omega
  have hbs : (b : Int) ≤ s.size := by omega
  have hab : (a : Int) ≤ b := by omega
  clear hR hV hc hf hm hTl hv hok hb
  go_enter Tryz.func15, Tryz.ntmps15
  obtain ⟨g0, hg0⟩ : ∃ g, w.heap.size = g := ⟨_, rfl⟩
  obtain ⟨W2, hW2⟩ : ∃ W, (w.alloc (.cells #[.int .i64 0, .string ⟨#[]⟩, .int .u64 0, .int .i64 0] 30)).alloc (.cells #[.int .i64 0, .string ⟨#[]⟩, .int .u64 0, .int .i64 (a : Int)] 30) = W := ⟨_, rfl⟩
  have bb : Below w.heap.size w W2 := by rw [← hW2]; exact ((Below.refl _ _).alloc (Nat.le_refl _) _).alloc (by simp) _
  have hB1 : W2.heap[g0 + 1]? = some (.cells #[.int .i64 0, .string ⟨#[]⟩, .int .u64 0, .int .i64 (a : Int)] 30) := by
    have h := heap_alloc_new (w.alloc (.cells #[.int .i64 0, .string ⟨#[]⟩, .int .u64 0, .int .i64 0] 30)) (.cells #[.int .i64 0, .string ⟨#[]⟩, .int .u64 0, .int .i64 (a : Int)] 30)
    rw [hW2] at h
    have e : (w.alloc (.cells #[.int .i64 0, .string ⟨#[]⟩, .int .u64 0, .int .i64 0] 30)).heap.size = g0 + 1 := by rw [← hg0]; simp
    rw [e] at h
    exact h
  have hB0 : W2.heap[g0]? = some (.cells #[.int .i64 0, .string ⟨#[]⟩, .int .u64 0, .int .i64 0] 30) := by
    have h := heap_alloc_new w (.cells #[.int .i64 0, .string ⟨#[]⟩, .int .u64 0, .int .i64 0] 30)
    rw [hg0] at h
    have k : Below (w.alloc (.cells #[.int .i64 0, .string ⟨#[]⟩, .int .u64 0, .int .i64 0] 30)).heap.size (w.alloc (.cells #[.int .i64 0, .string ⟨#[]⟩, .int .u64 0, .int .i64 0] 30)) W2 := by rw [← hW2]; exact (Below.refl _ _).alloc (Nat.le_refl _) _
    exact kept_block k h
  obtain ⟨g1, hg1⟩ : ∃ g, g0 + 1 = g := ⟨_, rfl⟩
  rw [hg1] at hB1
  have hne : g0 ≠ g1 := by omega
  have hne' : g1 ≠ g0 := by omega
  have hgw : w.heap.size ≤ g1 := by omega
  go_wp2_with fail
  try simp only [hW2, hg0, hg1]
  clear hW2 hg1
  refine (cL _).mono ?_
  rintro e w' ⟨rfl, rfl⟩
  go_wp2_with fail
  refine (cF _).mono ?_
  rintro e w' ⟨rfl, rfl⟩
  go_wp2_with fail
  refine (cM _).mono ?_
  rintro e W3 ⟨rfl, rfl⟩
  clear cL cF cM
  have hgw0 : w.heap.size ≤ g0 := by omega
  have f10 := frozen_of_row W2 g1 0 _ _ hB1
  have f11 := frozen_of_row W2 g1 1 _ _ hB1
  obtain ⟨k0, k1, k2, k3⟩ := cells_four hB1
  obtain ⟨W4, hW4⟩ : ∃ W, (W2.setCell ⟨g1, 0, none⟩ (.int .i64 2)).setCell ⟨g1, 1, none⟩ (.string T) = W := ⟨_, rfl⟩
  have hC1 : W4.heap[g1]? = some (.cells #[.int .i64 2, .string T, .int .u64 0, .int .i64 (a : Int)] 30) := by
    rw [← hW4, heap_setCell_same _ _ _ _ _ _ (heap_setCell_same _ _ _ _ _ _ hB1)]
    rfl
  have hC0 : W4.heap[g0]? = some (.cells #[.int .i64 0, .string ⟨#[]⟩, .int .u64 0, .int .i64 0] 30) := by
    rw [← hW4, heap_setCell_other _ _ _ _ hne, heap_setCell_other _ _ _ _ hne]
    exact hB0
  have bc : Below w.heap.size w W4 := by rw [← hW4]; exact (bb.setCell (p := ⟨g1, 0, none⟩) hgw _).setCell (p := ⟨g1, 1, none⟩) hgw _
  go_upto_region 19 with fail
  try simp only [hW4]
  clear hW4 hB0 hB1 bb f10 f11 k0 k1 k2 k3
  clear W2
  obtain ⟨k0, k1, k2, k3⟩ := cells_four hC1
  go_wp2_with fail
  refine (cR _).mono ?_
  rintro e W6 ⟨rfl, b6⟩
  replace hC1 := kept_block b6 hC1
  replace hC0 := kept_block b6 hC0
  replace bc := chain bc b6
  clear b6 cR k0 k1 k2 k3
  clear W4
  have f12 := frozen_of_row W6 g1 2 _ _ hC1
  obtain ⟨k0, k1, k2, k3⟩ := cells_four hC1
  obtain ⟨W7, hW7⟩ : ∃ W, W6.setCell ⟨g1, 2, none⟩ (.int .u64 (v : Int)) = W := ⟨_, rfl⟩
  have hD1 : W7.heap[g1]? = some (.cells #[.int .i64 2, .string T, .int .u64 (v : Int), .int .i64 (a : Int)] 30) := by
    rw [← hW7, heap_setCell_same _ _ _ _ _ _ hC1]
    rfl
  have hD0 : W7.heap[g0]? = some (.cells #[.int .i64 0, .string ⟨#[]⟩, .int .u64 0, .int .i64 0] 30) := by
    rw [← hW7, heap_setCell_other _ _ _ _ hne]
    exact hC0
  have bd : Below w.heap.size w W7 := by rw [← hW7]; exact bc.setCell (p := ⟨g1, 2, none⟩) hgw _
  go_upto_region 21 with fail
  try simp only [hW7]
  clear hW7 hC0 hC1 bc f12 k0 k1 k2 k3
  clear W6
  obtain ⟨k0, k1, k2, k3⟩ := cells_four hD1
  cases ok
  · obtain ⟨m0, m1, m2, m3⟩ := cells_four hD0
    have f00 := frozen_of_row _ g0 0 _ _ hD0
    have f01 := frozen_of_row _ g0 1 _ _ hD0
    have f02 := frozen_of_row _ g0 2 _ _ hD0
    have f03 := frozen_of_row _ g0 3 _ _ hD0
    obtain ⟨W5, hW5⟩ : ∃ W, (((W7.setCell ⟨g0, 0, none⟩ (.int .i64 2)).setCell ⟨g0, 1, none⟩ (.string T)).setCell ⟨g0, 2, none⟩ (.int .u64 (v : Int))).setCell ⟨g0, 3, none⟩ (.int .i64 (a : Int)) = W := ⟨_, rfl⟩
    have b5 : Below w.heap.size w W5 := by
      rw [← hW5]
      exact (((bd.setCell (p := ⟨g0, 0, none⟩) hgw0 _).setCell (p := ⟨g0, 1, none⟩) hgw0 _).setCell (p := ⟨g0, 2, none⟩) hgw0 _).setCell (p := ⟨g0, 3, none⟩) hgw0 _
    have hF := four_put (a' := .int .i64 2) (b' := .string T) (c' := .int .u64 (v : Int)) (d' := .int .i64 (a : Int)) hD0
    rw [hW5] at hF
    obtain ⟨v0, v1, v2, v3⟩ := cells_four hF
    clear hF bd hD0
    go_wp2
    try simp only [hW5]
    try simp only [Exit.inBlock, Exit.then]
    refine bodyPost_ret (by simp [results, Tryz.results15, go_sem, v0, v1, v2, v3]; try rfl) rfl ?_
    exact ⟨rfl, by first | exact b5 | (rw [← hg0]; exact b5)⟩
  · obtain ⟨m0, m1, m2, m3⟩ := cells_four hD0
    have f00 := frozen_of_row _ g0 0 _ _ hD0
    have f01 := frozen_of_row _ g0 1 _ _ hD0
    have f02 := frozen_of_row _ g0 2 _ _ hD0
    have f03 := frozen_of_row _ g0 3 _ _ hD0
    obtain ⟨W5, hW5⟩ : ∃ W, (((W7.setCell ⟨g0, 0, none⟩ (.int .i64 2)).setCell ⟨g0, 1, none⟩ (.string T)).setCell ⟨g0, 2, none⟩ (.int .u64 (v : Int))).setCell ⟨g0, 3, none⟩ (.int .i64 (a : Int)) = W := ⟨_, rfl⟩
    have b5 : Below w.heap.size w W5 := by
      rw [← hW5]
      exact (((bd.setCell (p := ⟨g0, 0, none⟩) hgw0 _).setCell (p := ⟨g0, 1, none⟩) hgw0 _).setCell (p := ⟨g0, 2, none⟩) hgw0 _).setCell (p := ⟨g0, 3, none⟩) hgw0 _
    have hF := four_put (a' := .int .i64 2) (b' := .string T) (c' := .int .u64 (v : Int)) (d' := .int .i64 (a : Int)) hD0
    rw [hW5] at hF
    obtain ⟨v0, v1, v2, v3⟩ := cells_four hF
    clear hF bd hD0
    go_wp2
    try simp only [hW5]
    try simp only [Exit.inBlock, Exit.then]
    refine bodyPost_ret (by simp [results, Tryz.results15, go_sem, v0, v1, v2, v3]; try rfl) rfl ?_
    exact ⟨rfl, by first | exact b5 | (rw [← hg0]; exact b5)⟩

theorem l08Token_any (s : ByteArray) (a : Nat) (w : World) (ha : a < s.size) (hs : s.size ≤ 1048576) :
    Calls Tryz.prog 15 #[.string s, .int .i64 a] w fun e w' => e = .returned (.tuple #[tokV (tokN (s.data.toList.drop a)).1 a, .int .i64 (tokN (s.data.toList.drop a)).2]) ∧ Below w.heap.size w w' := by
  cases hc : isLet s[a] with
  | true => exact l08Token_name s a w ha hs hc
  | false =>
    cases hf : isFig s[a] with
    | true => exact l08Token_number s a w ha hs hc hf
    | false =>
      by_cases hq : (s[a]).toNat = 34
      · exact l08Token_text s a w ha hs hc hf hq
      · exact l08Token_mark s a w ha hs hc hf hq

end Go.Proofs.YtcabanghegddhaaGreatDoor
