/-
  WALKS of spec.Join and of the laws' helpers toStringS, szStringS.
-/
import Derived.Test.YtfeechnlliaocaaDoorProg
import Derived.Test.YtfeechnlliaocaaDoorDig
import Derived.Test.YtfeechnlliaocaaDoorSplit
import Derived.Test.YtfeechnlliaocaaDoorMark
namespace Go.Proofs.YtfeechnlliaocaaDoor
open Go.RowKit
set_option linter.unusedVariables false
set_option linter.unusedSimpArgs false

/-- The first k parts, joined. -/
def joinTo (ss : List ByteArray) (sep : ByteArray) : Nat → ByteArray
  | 0 => ⟨#[]⟩
  | k + 1 => (if 0 < k then joinTo ss sep k ++ sep else joinTo ss sep k) ++ ss.getD k ⟨#[]⟩
def joinB (ss : List ByteArray) (sep : ByteArray) : ByteArray := joinTo ss sep ss.length

theorem joinTo_size (ss : List ByteArray) (sep : ByteArray) (hsep : sep.size ≤ 1048576) (hss : ∀ x ∈ ss, x.size ≤ 1048576) (k : Nat) : (joinTo ss sep k).size ≤ k * 2097152 := by
  induction k with
  | zero => simp [joinTo, ByteArray.size]
  | succ k ih =>
    have h1 : (ss.getD k ⟨#[]⟩).size ≤ 1048576 := by
      rw [List.getD_eq_getElem?_getD]
      cases h : ss[k]? with
      | none => simp [ByteArray.size]
      | some x => exact hss x (List.mem_of_getElem? h)
    unfold joinTo
    split <;> simp only [ByteArray.size_append] <;> omega

/-- What szStringS tells where its answer is not negative. -/
def SzTells (ss : List ByteArray) (n : Nat) (r : Int) : Prop := r ≤ 1048576 ∧ -1 ≤ r ∧ (0 ≤ r → n ≤ 1048576 ∧ ∀ x ∈ ss, x.size ≤ 1048576)

theorem put_next (xs : List Value) (z : Value) (n k : Nat) (x : Value) (hx : xs[k]? = some x) (hl : xs.length = n) (hk : k < n) :
    (xs.take k ++ List.replicate (n - k) z).set k x = xs.take (k + 1) ++ List.replicate (n - (k + 1)) z := by
  have h1 : (xs.take k).length = k := by simp; omega
  rw [List.set_append, if_neg (by omega), h1, Nat.sub_self]
  obtain ⟨m, hm⟩ : ∃ m, n - k = m + 1 := ⟨n - k - 1, by omega⟩
  rw [hm, show n - (k + 1) = m from by omega, List.replicate_succ, List.set_cons_zero, List.take_add_one, hx]
  simp

end Go.Proofs.YtfeechnlliaocaaDoor
