/-
  An image as bytes: pure.
-/
import Derived.Test.YtbgdapdenbldmaaImg13C
import Derived.Test.YtbgdapdenbldmaaRow15
namespace Go.Proofs.Ytbgdapdenbldmaa
open Go.RowKit
set_option linter.unusedVariables false

/-- k bytes of a number, the highest first -/
def eightK : Nat → Nat → List Int
  | 0, _ => []
  | k + 1, x => eightK k (x / 256) ++ [((x % 256 : Nat) : Int)]
def shortB (s : ByteArray) : List Int := varB s.size ++ numsOf s
def conT (c : PCon) : List Int := c.kind :: ((if c.kind = 1 then eightK 8 c.num else []) ++ (if c.kind = 2 then shortB c.text else []))
def capT (c : PCap) : List Int := (if c.reg then 1 else 0) :: varB c.index.toNat
def insT (c : PIns) : List Int := c.op :: (varB c.a.toNat ++ varB c.b.toNat)
def hndT (h : PHnd) : List Int := varB h.lo.toNat ++ varB h.hi.toNat ++ varB h.target.toNat
def funHead (f : PFun) : List Int := varB f.params.toNat ++ varB f.regs.toNat ++ varB f.caps.length
def funT (f : PFun) : List Int := funHead f ++ f.caps.flatMap capT ++ varB f.code.length ++ f.code.flatMap insT ++ varB f.hnds.length ++ f.hnds.flatMap hndT
def imgHead (p : PImg) : List Int := [83, 67, 49] ++ varB p.consts.length
def imgT (p : PImg) : List Int := imgHead p ++ p.consts.flatMap conT ++ varB p.funcs.length ++ p.funcs.flatMap funT
/-- whether it has a text -/
def imgTB (p : PImg) : Bool := imgOk p && decide ((imgT p).length + 4 ≤ 12000)

theorem eightK_len (k x : Nat) : (eightK k x).length = k := by
  induction k generalizing x with
  | zero => rfl
  | succ k ih => unfold eightK; rw [List.length_append, ih]; rfl
theorem flat_more {α : Type} (f : α → List Int) (l : List α) (k : Nat) (q : α) (h : l[k]? = some q) : (l.take (k + 1)).flatMap f = (l.take k).flatMap f ++ f q := by
  rw [List.take_add_one, h]
  simp
theorem flat_le {α : Type} (f : α → List Int) (c : Nat) (l : List α) (h : ∀ q ∈ l, (f q).length ≤ c) : (l.flatMap f).length ≤ c * l.length := by
  induction l with
  | nil => simp
  | cons q l ih =>
    rw [List.flatMap_cons, List.length_append, List.length_cons, Nat.mul_add]
    have h1 := h q (by simp)
    have h2 := ih (fun x hx => h x (by simp [hx]))
    omega
theorem flat_take_le {α : Type} (f : α → List Int) (c k : Nat) (l : List α) (h : ∀ q ∈ l, (f q).length ≤ c) : ((l.take k).flatMap f).length ≤ c * l.length := by
  have h1 := flat_le f c (l.take k) (fun q hq => h q (List.mem_of_mem_take hq))
  have h2 : (l.take k).length ≤ l.length := by rw [List.length_take]; omega
  have h3 := Nat.mul_le_mul_left c h2
  omega

theorem inB_le {x a b : Int} (h : inB x a b = true) : a ≤ x ∧ x ≤ b := by
  unfold inB at h
  simp only [Bool.and_eq_true, decide_eq_true_eq] at h
  exact h
theorem capOk_le {c : PCap} (h : capOk c = true) : 0 ≤ c.index ∧ c.index ≤ 40 := inB_le h
theorem insOk_le {c : PIns} (h : insOk c = true) : (1 ≤ c.op ∧ c.op ≤ 19) ∧ (0 ≤ c.a ∧ c.a ≤ 300) ∧ 0 ≤ c.b ∧ c.b ≤ 300 := by
  unfold insOk at h
  simp only [Bool.and_eq_true] at h
  exact ⟨inB_le h.1, inB_le h.2.1, inB_le h.2.2⟩
theorem hndOk_le {c : PHnd} (h : hndOk c = true) : (0 ≤ c.lo ∧ c.lo ≤ 300) ∧ (0 ≤ c.hi ∧ c.hi ≤ 300) ∧ 0 ≤ c.target ∧ c.target ≤ 300 := by
  unfold hndOk at h
  simp only [Bool.and_eq_true] at h
  exact ⟨inB_le h.1, inB_le h.2.1, inB_le h.2.2⟩
theorem conOk_le {c : PCon} (h : conOk c = true) : (1 ≤ c.kind ∧ c.kind ≤ 5) ∧ c.text.size ≤ 40 := by
  unfold conOk at h
  by_cases h1 : c.kind = 1
  · rw [if_pos h1] at h
    simp only [Bool.and_eq_true, decide_eq_true_eq] at h
    omega
  · rw [if_neg h1] at h
    by_cases h2 : c.kind = 2
    · rw [if_pos h2] at h
      simp only [Bool.and_eq_true, decide_eq_true_eq] at h
      omega
    · rw [if_neg h2] at h
      by_cases h3 : c.kind = 3 ∨ c.kind = 4 ∨ c.kind = 5
      · rw [if_pos h3] at h
        simp only [Bool.and_eq_true, decide_eq_true_eq] at h
        omega
      · rw [if_neg h3] at h
        cases h
structure FunLe (f : PFun) : Prop where
  params : 0 ≤ f.params ∧ f.params ≤ 4
  regs : 0 ≤ f.regs ∧ f.regs ≤ 40
  caps : f.caps.length ≤ 20
  code : 1 ≤ f.code.length ∧ f.code.length ≤ 300
  hnds : f.hnds.length ≤ 40
  capsOk : ∀ q ∈ f.caps, capOk q = true
  codeOk : ∀ q ∈ f.code, insOk q = true
  hndsOk : ∀ q ∈ f.hnds, hndOk q = true
theorem funOk_le {f : PFun} (h : funOk f = true) : FunLe f := by
  unfold funOk at h
  simp only [Bool.and_eq_true, decide_eq_true_eq, List.all_eq_true] at h
  obtain ⟨h1, h2, h3, h4, h5, h6, h7, h8⟩ := h
  have a1 := inB_le h1
  have a2 := inB_le h2
  have a4 := inB_le h4
  exact ⟨a1, by omega, h3, by omega, h5, h6, h7, h8⟩
structure ImgLe (p : PImg) : Prop where
  funcs : 1 ≤ p.funcs.length ∧ p.funcs.length ≤ 16
  consts : p.consts.length ≤ 40
  funsOk : ∀ q ∈ p.funcs, funOk q = true
  consOk : ∀ q ∈ p.consts, conOk q = true
theorem imgOk_le {p : PImg} (h : imgOk p = true) : ImgLe p := by
  unfold imgOk at h
  simp only [Bool.and_eq_true, decide_eq_true_eq, List.all_eq_true] at h
  obtain ⟨h1, h2, h3, h4, h5⟩ := h
  have a1 := inB_le h1
  exact ⟨by omega, h2, h4, h3⟩
theorem varB_few {x : Int} (h : x ≤ 1000000000) : (varB x.toNat).length ≤ 5 := varB_len5 (by omega)
theorem varN_few {x : Nat} (h : x ≤ 1000000000) : (varB x).length ≤ 5 := varB_len5 h
theorem shortB_len (s : ByteArray) (h : s.size ≤ 40) : (shortB s).length ≤ 45 := by
  unfold shortB
  rw [List.length_append, numsOf_len]
  have := varN_few (x := s.size) (by omega)
  omega
theorem conT_len {c : PCon} (h : conOk c = true) : (conT c).length ≤ 60 := by
  unfold conT
  have := shortB_len c.text (conOk_le h).2
  rw [List.length_cons, List.length_append]
  have e1 : (if c.kind = 1 then eightK 8 c.num else []).length ≤ 8 := by split <;> simp [eightK_len]
  have e2 : (if c.kind = 2 then shortB c.text else []).length ≤ 45 := by
    by_cases h2 : c.kind = 2
    · rw [if_pos h2]; exact this
    · rw [if_neg h2]; simp
  omega
theorem capT_len {c : PCap} (h : capOk c = true) : (capT c).length ≤ 6 := by
  have h1 := capOk_le h
  unfold capT
  rw [List.length_cons]
  have := varB_few (x := c.index) (by omega)
  omega
theorem insT_len {c : PIns} (h : insOk c = true) : (insT c).length ≤ 11 := by
  have h1 := insOk_le h
  unfold insT
  rw [List.length_cons, List.length_append]
  have := varB_few (x := c.a) (by omega)
  have := varB_few (x := c.b) (by omega)
  omega
theorem hndT_len {c : PHnd} (h : hndOk c = true) : (hndT c).length ≤ 15 := by
  have h1 := hndOk_le h
  unfold hndT
  rw [List.length_append, List.length_append]
  have := varB_few (x := c.lo) (by omega)
  have := varB_few (x := c.hi) (by omega)
  have := varB_few (x := c.target) (by omega)
  omega
theorem funHead_len {f : PFun} (h : FunLe f) : (funHead f).length ≤ 15 := by
  unfold funHead
  rw [List.length_append, List.length_append]
  have := h.params
  have := h.regs
  have := h.caps
  have := varB_few (x := f.params) (by omega)
  have := varB_few (x := f.regs) (by omega)
  have := varN_few (x := f.caps.length) (by omega)
  omega
theorem funT_len {f : PFun} (hf : funOk f = true) : (funT f).length ≤ 5000 := by
  have h := funOk_le hf
  have h1 := funHead_len h
  have h2 := flat_le capT 6 f.caps (fun q hq => capT_len (h.capsOk q hq))
  have h3 := flat_le insT 11 f.code (fun q hq => insT_len (h.codeOk q hq))
  have h4 := flat_le hndT 15 f.hnds (fun q hq => hndT_len (h.hndsOk q hq))
  have h5 := h.caps
  have h6 := h.code
  have h7 := h.hnds
  have h8 := varN_few (x := f.code.length) (by omega)
  have h9 := varN_few (x := f.hnds.length) (by omega)
  unfold funT
  simp only [List.length_append]
  omega
theorem imgHead_len {p : PImg} (h : ImgLe p) : (imgHead p).length ≤ 8 := by
  unfold imgHead
  have h1 := h.consts
  have := varN_few (x := p.consts.length) (by omega)
  rw [List.length_append]
  simp only [List.length_cons, List.length_nil]
  omega

end Go.Proofs.Ytbgdapdenbldmaa
