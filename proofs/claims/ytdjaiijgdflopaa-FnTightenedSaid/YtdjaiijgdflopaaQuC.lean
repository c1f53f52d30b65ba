/-
  A REGION THAT DRAWS ITS ORDER, WHOSE OPERATIONS YIELD ONE VALUE IN EVERY WORLD OF A CLASS AND LEAVE A WORLD OF THE CLASS: one lexical walk, at any class.
-/
import Derived.Test.YtdjaiijgdflopaaProg
import Derived.Deep.QuietTactic
import Derived.BigQuiet
namespace Go.Proofs.Ytdjaiijgdflopaa
set_option linter.unusedVariables false

/-- A world of the class C. -/
structure WC (C : World → Prop) where
  w : World
  h : C w

theorem region_wc {P : Program} (C : World → Prop) {id : Nat} {Q : Exit → Act → World → Prop} {a : Act} {w : World} {l : List Oper} (hm : P.follows .mixedOrders = true) (hB : Region.lexB .any l.toArray = true)
    (hC : C w.drew) (h : wpQuiet P l.toArray (fun w' => ∃ x : WC C, w' = x.w) (fun a' => ∀ w', (∃ x : WC C, w' = x.w) → Q .normal a' w') l a) : (Code.region id l.toArray true).wp P Q a w :=
  wp_region_quiet (C := fun w' => ∃ x : WC C, w' = x.w) hm hB ⟨⟨_, hC⟩, rfl⟩ (by simpa using h)

/-- A callee's contract, met in a world of the class. -/
theorem wc_calls {P : Program} {C : World → Prop} {f : FuncId} {args : Array Value} {x : WC C} {v : Value} (h : Calls P f args x.w fun e w' => e = .returned v ∧ C w') :
    Calls P f args x.w fun e w' => e = .returned v ∧ ∃ y : WC C, w' = y.w :=
  h.mono fun _ _ ⟨he, hc⟩ => ⟨he, ⟨_, hc⟩, rfl⟩

end Go.Proofs.Ytdjaiijgdflopaa
