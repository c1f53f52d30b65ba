/-
  SMALL LEMMAS for the laws whose answer is memory of its own.
-/
import Derived.Test.YtdjaiijgdflopaaGrV
namespace Go.Proofs.Ytdjaiijgdflopaa
open Go.RowKit
set_option linter.unusedVariables false
set_option linter.unusedSimpArgs false

theorem own_apart {w : World} {B e n s : Nat} {v u : Value} {xs : List Value} (h : w.ownsRow B e s v n xs) (hu : ∀ q, u.ownBlock = some q → q < B) : v.ownBlock = none ∨ v.ownBlock ≠ u.ownBlock := by
  cases hv : v.ownBlock with
  | none => exact .inl rfl
  | some g => exact .inr (fun e => by have h1 := (h.lt g hv).1; have h2 := hu g e.symm; omega)
theorem World.cell?_lt {w : World} {b o : Nat} {v : Value} (h : w.cell? ⟨b, o, none⟩ = some v) : b < w.heap.size := by
  rcases Nat.lt_or_ge b w.heap.size with hlt | hge
  · exact hlt
  · have : w.heap[b]? = none := Array.getElem?_eq_none hge
    simp [World.cell?, this] at h
theorem shortR_len (n : Int) (es : List GE) (z : Int) : (shortR n es z).1.length ≤ 8 := by
  unfold shortR
  split
  · next h =>
    have h1 : okG n es = true := by have := h.1; simp only [Bool.and_eq_true] at this; exact this.1
    have := okG_rng h1
    rw [distZ_length]; omega
  · simp

end Go.Proofs.Ytdjaiijgdflopaa
