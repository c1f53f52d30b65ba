/-
  PLAIN: the arithmetic of bounds and intervals.
-/
import Derived.Test.YtdjaiijgdflopaaProg
namespace Go.Proofs.Ytdjaiijgdflopaa
set_option linter.unusedVariables false
set_option linter.unusedSimpArgs false

def okI (l h : Int) : Bool := decide (-1000000 ≤ l ∧ l ≤ h ∧ h ≤ 1000000 ∧ l ≠ 1000000 ∧ h ≠ -1000000)
theorem okI_of {l h : Int} (k : okI l h = true) : -1000000 ≤ l ∧ l ≤ h ∧ h ≤ 1000000 ∧ l ≠ 1000000 ∧ h ≠ -1000000 := of_decide_eq_true k

def clampI (n : Int) : Int := if n < -1000000 then -1000000 else if 1000000 < n then 1000000 else n
def addI (a b : Int) : Int := if 1000000 ≤ a ∨ 1000000 ≤ b then 1000000 else if a ≤ -1000000 ∨ b ≤ -1000000 then -1000000 else clampI (a + b)
def lowI (a b : Int) : Int := if a ≤ -1000000 ∨ b ≤ -1000000 then -1000000 else addI a b
def inI (l h n : Int) : Bool := okI l h && decide ((l = -1000000 ∨ l ≤ n) ∧ (h = 1000000 ∨ n ≤ h))
def ivV (l h : Int) : Value := .agg #[.int .i64 l, .int .i64 h]
/-- An interval, or the zero value. -/
def orZ (b : Bool) (l h : Int) : Value := if b then ivV l h else ivV 0 0
theorem clampI_rng (n : Int) : -1000000 ≤ clampI n ∧ clampI n ≤ 1000000 := by unfold clampI; split <;> (try split) <;> omega
theorem addI_rng (a b : Int) : -1000000 ≤ addI a b ∧ addI a b ≤ 1000000 := by
  unfold addI
  split
  · omega
  · split
    · omega
    · exact clampI_rng _
theorem lowI_rng (a b : Int) : -1000000 ≤ lowI a b ∧ lowI a b ≤ 1000000 := by
  unfold lowI
  split
  · omega
  · exact addI_rng a b
theorem lowI_addI {a b : Int} (ha : a < 1000000) (hb : b < 1000000) : lowI a b = addI a b := by
  unfold lowI addI
  by_cases h : a ≤ -1000000 ∨ b ≤ -1000000
  · rw [if_pos h, if_neg (by omega), if_pos h]
  · rw [if_neg h]

end Go.Proofs.Ytdjaiijgdflopaa
