/-
  impl.IntervalOk.
-/
import Derived.Test.YtdjaiijgdflopaaProg
import Derived.Test.YtdjaiijgdflopaaIvA
import Derived.Test.YtdjaiijgdflopaaIvW
import Derived.Test.YtdjaiijgdflopaaIvOkA
import Derived.Test.YtdjaiijgdflopaaIvOkB
import Derived.Test.YtdjaiijgdflopaaIvOkC
import Derived.Test.YtdjaiijgdflopaaIvOkD
import Derived.Test.YtdjaiijgdflopaaIvOkE
import Derived.Test.YtdjaiijgdflopaaIvOkF
import Derived.WalkKit
import Derived.WalkSpells
import Derived.WalkLawsBesides
import Derived.Deep.QuietTactic
import Derived.Deep.RegionWith
import Derived.Deep.RegionHeld3
import Derived.BigQuiet
import Derived.Lib.Hide
import Derived.Below
namespace Go.Proofs.Ytdjaiijgdflopaa
open Go.RowKit
set_option linter.unusedVariables false
set_option linter.unusedSimpArgs false

theorem clampI_in {n : Int} (h : n = clampI n) : -1000000 ≤ n ∧ n ≤ 1000000 := by have := clampI_rng n; omega
theorem impl_IntervalOk (l h : Int) (w : World) :
    Calls Try.prog 64 #[ivV l h] w fun e w' => e = .returned (.bool (okI l h)) ∧ ∃ q a b, w' = (((w.alloc (.cells #[.int .i64 l, .int .i64 h] 46)).alloc (.cells #[.int .i64 l, .int .i64 h] 46)).alloc (.cells #[.int .i64 a, .int .i64 b] 46)).drewN q := by
  by_cases hl : l = clampI l
  · have rl := clampI_in hl
    by_cases hh : h = clampI h
    · have rh := clampI_in hh
      by_cases h1 : l ≤ h
      · by_cases h2 : l = 1000000
        · obtain rfl : h = 1000000 := by omega
          subst h2
          exact (impl_IntervalOk_c w).mono fun e w1 ⟨he, q, hq⟩ => ⟨he, q, _, _, hq⟩
        · by_cases h3 : h = -1000000
          · obtain rfl : l = -1000000 := by omega
            subst h3
            exact (impl_IntervalOk_d w).mono fun e w1 ⟨he, q, hq⟩ => ⟨he, q, _, _, hq⟩
          · exact (impl_IntervalOk_a l h hl hh h1 h2 h3 w).mono fun e w1 ⟨he, q, hq⟩ => ⟨he, q, _, _, hq⟩
      · exact (impl_IntervalOk_b l h hl hh h1 w).mono fun e w1 ⟨he, q, hq⟩ => ⟨he, q, _, _, hq⟩
    · exact (impl_IntervalOk_f l h hl hh w).mono fun e w1 ⟨he, q, hq⟩ => ⟨he, q, _, _, hq⟩
  · exact (impl_IntervalOk_e l h hl w).mono fun e w1 ⟨he, q, hq⟩ => ⟨he, q, _, _, hq⟩

end Go.Proofs.Ytdjaiijgdflopaa
