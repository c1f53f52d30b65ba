/-
  WALK of impl.PadZeros.
-/
import Derived.Test.YtndmjgaojkdmaaaProg
import Derived.Test.YtndmjgaojkdmaaaDig
import Derived.Test.YtndmjgaojkdmaaaMark
import Derived.Test.YtndmjgaojkdmaaaJoin
import Derived.Test.YtndmjgaojkdmaaaPad
import Derived.Test.YtndmjgaojkdmaaaParts
import Derived.Test.YtndmjgaojkdmaaaRep
namespace Go.Proofs.Ytndmjgaojkdmaaa
open Go.RowKit
set_option linter.unusedVariables false
set_option linter.unusedSimpArgs false

theorem repeat_zero (c : Nat) : Lib.repeatL [(48 : UInt8)] c = List.replicate c 48 := by
  induction c with
  | zero => rfl
  | succ c ih => rw [Lib.repeatL, ih]; rfl
theorem join_two (x y : ByteArray) : joinB [x, y] ⟨#[]⟩ = x ++ y := by
  apply ByteArray.ext; apply Array.toList_inj.1
  simp [joinB, joinTo]
theorem zeros_eq (c : Nat) (s : ByteArray) : (⟨(Lib.repeatL [(48 : UInt8)] c).toArray⟩ : ByteArray) ++ s = zeros c s := by
  rw [repeat_zero]
  apply ByteArray.ext; apply Array.toList_inj.1
  simp [zeros]
theorem row_two (w : World) (x y : ByteArray) : RowAt (w.alloc (.cells #[.string x, .string y] 9)) (some ⟨w.heap.size, 0, none⟩) ([x, y].map Value.string) := by
  intro _
  refine ⟨w.heap.size, 0, rfl, by simp, fun j hj => ?_⟩
  have h := cell_of_row (w.alloc (.cells #[.string x, .string y] 9)) w.heap.size (0 + j) #[.string x, .string y] 9 (0, 0) (heap_alloc_new w _)
  rw [h, Nat.zero_add]
  match j, hj with
  | 0, _ => rfl
  | 1, _ => rfl

set_option maxHeartbeats 400000 in
theorem impl_PadZeros (s : ByteArray) (n : Int) (w : World) (hs : s.size ≤ 1048576) :
    Calls Try.prog 25 #[.string s, .int .i64 n] w fun e w' => e = .returned (.string (padB s n)) ∧ Below w.heap.size w w' := by
  by_cases hn : 2000 < n
  · have HP : Hid (padB s n = s) := Lib.hid (by unfold padB; rw [if_pos hn])
    by_cases hg : n ≤ (s.size : Int)
    all_goals
      go_enter Try.func25, Try.ntmps25
      go_wp2
      go_ret
      exact ⟨by rw [HP.out]; rfl, Below.refl _ _⟩
  · by_cases hg : n ≤ (s.size : Int)
    · have HP : Hid (padB s n = s) := Lib.hid (by unfold padB; rw [if_neg hn, show (n - s.size).toNat = 0 from by omega, zeros_none])
      go_enter Try.func25, Try.ntmps25
      go_wp2
      go_ret
      exact ⟨by rw [HP.out]; rfl, Below.refl _ _⟩
    · obtain ⟨c, rfl⟩ : ∃ c : Nat, n = (s.size : Int) + c := ⟨(n - s.size).toNat, by omega⟩
      have HP : Hid (padB s ((s.size : Int) + c) = zeros c s) := Lib.hid (by unfold padB; rw [if_neg hn, show ((s.size : Int) + c - s.size).toNat = c from by omega])
      have hc : c ≤ 2000 := by omega
      go_enter Try.func25, Try.ntmps25
      go_wp2_with fail
      rw [show ((s.size : Int) + c - s.size) = (c : Int) from by omega]
      refine (strings_Repeat ⟨#[48]⟩ c _ (by omega) (by show 1 * c ≤ _; omega)).mono ?_
      rintro e w1 ⟨rfl, b1⟩
      obtain ⟨r, hr⟩ : ∃ r : ByteArray, r = ⟨(Lib.repeatL (⟨#[48]⟩ : ByteArray).data.toList c).toArray⟩ := ⟨_, rfl⟩
      rw [← hr]
      have hrz : r ++ s = zeros c s := by rw [hr]; exact zeros_eq c s
      have hrs : r.size ≤ 2000 := by
        have h1 : (r ++ s).size = r.size + s.size := ByteArray.size_append
        rw [hrz, zeros_size] at h1
        omega
      have HZ := Lib.hid hrz
      clear hr hrz
      go_wp2_with fail
      refine (impl_joinParts [r, s] ⟨#[]⟩ _ 2 2 _ rfl (by omega) (by decide) (by
        intro x hx
        simp at hx
        rcases hx with rfl | rfl <;> omega) (row_two w1 r s)).mono ?_
      rintro e w2 ⟨rfl, b2⟩
      have hb : Below w.heap.size w w2 := (b1.alloc b1.size _).trans (b2.mono (by have := b1.size; simp; omega))
      rw [join_two, HZ.out]
      clear b1 b2
      go_wp2
      go_ret
      exact ⟨by rw [HP.out]; rfl, hb⟩

end Go.Proofs.Ytndmjgaojkdmaaa
