/-
  What is shown of 0 reads back; the other sign of a finite number; over no program but for its imports.
-/
import Derived.Test.YtcdplnejejpjnaaGreatDoorShow7
import Derived.Test.YtcdplnejejpjnaaGreatDoorLawA
namespace Go.Proofs.YtcdplnejejpjnaaGreatDoor

theorem zero_back : readV (⟨#[48]⟩ : ByteArray).data.toList = 0 ∧ readB (⟨#[48]⟩ : ByteArray).data.toList = true := by
  have h := read_of (t := [48]) (a := [48]) (q := []) (d := ([], [])) (x := 0) rfl (figs_noughts 1) (.inl rfl) (by decide) (by decide) (by decide) rfl rfl
  have e : (⟨#[48]⟩ : ByteArray).data.toList = [48] := rfl
  rw [e]
  unfold readV readB
  rw [h]
  refine ⟨?_, rfl⟩
  show tellN [48] _ = 0
  unfold tellN
  rw [if_pos (by decide)]
theorem neg_plain {x : Nat} (kx : kindN x = 4) (hx : x < 9223372036854775808) : negN x = x + 9223372036854775808 := by
  unfold negN
  rw [kx, if_neg (by decide), if_neg (by omega)]

end Go.Proofs.YtcdplnejejpjnaaGreatDoor
