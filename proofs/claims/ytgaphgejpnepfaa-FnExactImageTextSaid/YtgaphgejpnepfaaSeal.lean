/-
  What Unsealed answers to a sealed text, and to one whose one byte is another.
-/
import Derived.Test.YtgaphgejpnepfaaSealB
import Derived.Test.YtgaphgejpnepfaaUnseal
namespace Go.Proofs.Ytgaphgejpnepfaa
open Go.RowKit

theorem sealedS_list (s : ByteArray) : (sealedS s).data.toList = s.data.toList ++ four (sumL 4294967295 s.data.toList) := by
  unfold sealedS
  rw [ByteArray.data_append, Array.toList_append, strOfNums_data]
  rfl
theorem sealedS_size (s : ByteArray) : (sealedS s).size = s.size + 4 := by
  rw [Lib.size_eq, sealedS_list, List.length_append, four_length, ← Lib.size_eq]

theorem sealOk_list {t : ByteArray} {l f : List UInt8} (h : t.data.toList = l ++ f) (hf : f.length = 4) : sealOk t = (f == four (sumL 4294967295 l)) := by
  obtain ⟨h1, h2⟩ := seal_list h hf
  unfold sealOk innerS
  rw [h1, h2, Lib.toList_data, strOfNums_data]
  rfl

theorem unsealed_sealed (s : ByteArray) : unsealedV (sealedS s) = .tuple #[.string s, .bool true] := by
  have h := sealedS_list s
  have hok : sealOk (sealedS s) = true := by rw [sealOk_list h rfl]; simp
  rw [unsealedV_yes hok]
  have h1 := (seal_list h rfl).1
  have e : innerS (sealedS s) = s := by
    unfold innerS
    rw [← Lib.mk_data (ByteArray.extract _ _ _), h1, Lib.mk_data]
  rw [e]

theorem unsealed_turned {s t : ByteArray} {i : Nat} {c : UInt8} (hi : i < s.size + 4) (hc : (sealedS s).data.toList[i]? ≠ some c) (ht : t.data.toList = (sealedS s).data.toList.set i c) :
    unsealedV t = .tuple #[.string ⟨#[]⟩, .bool false] := by
  rw [sealedS_list] at hc ht
  obtain ⟨l', f', h1, h2, h3⟩ := turned_list (by rw [← Lib.size_eq]; exact hi) hc
  refine unsealedV_no ?_
  rw [sealOk_list (ht.trans h1) h2]
  exact beq_eq_false_iff_ne.2 h3

theorem set_getD_same {l : List UInt8} {i c : Nat} (hi : i < l.length) (hc : c < 256) : ((l.set i (UInt8.ofNat c)).map fun b => (b.toNat : Int)).getD i 0 = (c : Int) := by
  rw [List.getD_eq_getElem?_getD, List.getElem?_map, List.getElem?_set_self hi]
  show (((UInt8.ofNat c).toNat : Nat) : Int) = c
  rw [UInt8.toNat_ofNat']
  omega
theorem set_getD_other {l : List UInt8} {i j : Nat} {c : UInt8} (hij : i ≠ j) : ((l.set i c).map fun b => (b.toNat : Int)).getD j 0 = ((l.getD j 0).toNat : Int) := by
  rw [List.getD_eq_getElem?_getD, List.getElem?_map, List.getElem?_set_ne hij, List.getD_eq_getElem?_getD]
  cases l[j]? <;> rfl
theorem set_back (l : List UInt8) : (strOfNums (l.map fun b => (b.toNat : Int))).data.toList = l := by
  rw [strOfNums_data, List.map_map]
  have : ((fun n : Int => UInt8.ofNat n.toNat) ∘ fun b : UInt8 => (b.toNat : Int)) = id := by
    funext b
    simp
  rw [this, List.map_id]

/-- the sum goes on -/
theorem sum_on (s : ByteArray) : sumL 4294967295 (s ++ ⟨#[120]⟩ : ByteArray).data.toList = sumL (sumL 4294967295 s.data.toList) (⟨#[120]⟩ : ByteArray).data.toList := by
  rw [ByteArray.data_append, Array.toList_append, sumL_append]

end Go.Proofs.Ytgaphgejpnepfaa
