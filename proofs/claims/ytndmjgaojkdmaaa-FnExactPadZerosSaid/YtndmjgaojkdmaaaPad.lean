/-
  WALK of spec.PadZeros.
-/
import Derived.Test.YtndmjgaojkdmaaaProg
import Derived.Test.YtndmjgaojkdmaaaDig
namespace Go.Proofs.Ytndmjgaojkdmaaa
open Go.RowKit
set_option linter.unusedVariables false
set_option linter.unusedSimpArgs false

/-- j zeros ahead of s. -/
def zeros (j : Nat) (s : ByteArray) : ByteArray := ⟨(List.replicate j (48 : UInt8) ++ s.data.toList).toArray⟩
theorem zeros_none (s : ByteArray) : zeros 0 s = s := by
  apply ByteArray.ext; apply Array.toList_inj.1; simp [zeros]
theorem zeros_more (j : Nat) (s : ByteArray) : (⟨#[48]⟩ : ByteArray) ++ zeros j s = zeros (j + 1) s := by
  apply ByteArray.ext; apply Array.toList_inj.1
  simp [zeros, List.replicate_succ]
theorem zeros_size (j : Nat) (s : ByteArray) : (zeros j s).size = j + s.size := by
  show (List.replicate j (48 : UInt8) ++ s.data.toList).toArray.size = j + s.data.size
  simp
def padB (s : ByteArray) (n : Int) : ByteArray := if 2000 < n then s else zeros (n - s.size).toNat s
def lenOf : Value → Nat
  | .string y => y.size
  | _ => 0

set_option maxHeartbeats 400000 in
theorem spec_PadZeros (s : ByteArray) (n : Int) (w : World) (hs : s.size ≤ 1048576) :
    Calls Try.prog 24 #[.string s, .int .i64 n] w fun e w' => e = .returned (.string (padB s n)) ∧ w = w' := by
  by_cases hn : 2000 < n
  · have HP : Hid (padB s n = s) := Lib.hid (by unfold padB; rw [if_pos hn])
    go_enter Try.func24, Try.ntmps24
    go_wp2
    go_ret
    exact ⟨by rw [HP.out]; rfl, rfl⟩
  · have HP : Hid (padB s n = zeros (n - s.size).toNat s) := Lib.hid (by unfold padB; rw [if_neg hn])
    go_enter Try.func24, Try.ntmps24
    go_wp2
    go_loop [0] (fun v => ∃ (j : Nat) (y : ByteArray), v = .string y ∧ Hid (zeros j s = y) ∧ j ≤ (n - s.size).toNat) (fun v => n.toNat - lenOf v)
    case atStart => exact ⟨0, s, rfl, Lib.hid (zeros_none s), Nat.zero_le _⟩
    case round =>
      obtain ⟨j, y, rfl, HY, hj⟩ := hrel
      have hys : y.size = j + s.size := by rw [← HY.out, zeros_size]
      have hy1 : y.size ≤ j + s.size := by omega
      have hy2 : j + s.size ≤ y.size := by omega
      clear hys
      by_cases hlt : (y.size : Int) < n
      · go_wp2
        go_round
        case rel => exact ⟨j + 1, _, rfl, Lib.hid (by rw [← zeros_more, HY.out]), by omega⟩
        case measure =>
          have h1 : ((⟨#[48]⟩ : ByteArray) ++ y).size = 1 + y.size := ByteArray.size_append
          simp only [lenOf, h1]
          omega
      · have hjn : j = (n - s.size).toNat := by omega
        have HJ := Lib.hid hjn
        clear hjn
        go_wp2
        go_ret
        exact ⟨by rw [HP.out, ← HJ.out, HY.out]; rfl, rfl⟩

end Go.Proofs.Ytndmjgaojkdmaaa
