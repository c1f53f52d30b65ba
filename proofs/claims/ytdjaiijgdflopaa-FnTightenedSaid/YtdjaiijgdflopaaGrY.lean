/-
  WALK of slices.Reverse at []int, over a slice of the caller's own.
-/
import Derived.Test.YtdjaiijgdflopaaGrX
import Derived.BigRegion
import Derived.RegionTactic
namespace Go.Proofs.Ytdjaiijgdflopaa
open Go.RowKit
set_option linter.unusedVariables false
set_option linter.unusedSimpArgs false

/-- The t-th when i exchanges are done. -/
def revAt (F : Nat → Int) (m i t : Nat) : Int := if t < i ∨ m - i ≤ t then F (m - 1 - t) else F t
theorem revAt_step {F : Nat → Int} {m i : Nat} (h : i < m - 1 - i) {xs : List Value} (hx : ∀ t, t < m → xs[t]? = some (intV (revAt F m i t))) (hl : xs.length = m) :
    ∀ t, t < m → ((xs.set i (intV (F (m - 1 - i)))).set (m - 1 - i) (intV (F i)))[t]? = some (intV (revAt F m (i + 1) t)) := by
  intro t ht
  rw [List.getElem?_set, List.getElem?_set]
  by_cases e1 : m - 1 - i = t
  · subst e1
    rw [if_pos rfl, if_pos (by simp; omega)]
    unfold revAt
    rw [if_pos (by omega), show m - 1 - (m - 1 - i) = i from by omega]
  · rw [if_neg e1]
    by_cases e2 : i = t
    · subst e2
      rw [if_pos rfl, if_pos (by omega)]
      unfold revAt
      rw [if_pos (by omega)]
    · rw [if_neg e2, hx t ht]
      unfold revAt
      by_cases e3 : t < i ∨ m - i ≤ t
      · rw [if_pos e3, if_pos (by omega)]
      · rw [if_neg e3, if_neg (by omega)]
theorem revAt_end {F : Nat → Int} {m i : Nat} (h : ¬ (i < m - 1 - i)) {t : Nat} (ht : t < m) : revAt F m i t = F (m - 1 - t) := by
  unfold revAt
  by_cases e3 : t < i ∨ m - i ≤ t
  · rw [if_pos e3]
  · rw [if_neg e3, show m - 1 - t = t from by omega]

set_option maxRecDepth 100000 in
set_option maxHeartbeats 4000000 in
theorem reverse_any (g B m cap : Nat) (zs : List Int) (w : World) (hl : zs.length = m) (hm0 : 0 < m) (hm : m ≤ 1099511627776) (hown : w.ownsRow B 3 1 (.slice (some ⟨g, 0, none⟩) m cap) m (zs.map intV)) :
    Calls Try.prog 90 #[.slice (some ⟨g, 0, none⟩) m cap] w fun e w' => e = .returned (.tuple #[]) ∧ w'.ownsRow B 3 1 (.slice (some ⟨g, 0, none⟩) m cap) m (zs.reverse.map intV) ∧ w.grownBy w' (some g) := by
  obtain ⟨F, hF⟩ : ∃ F : Nat → Int, F = fun t => zs[t]?.getD 0 := ⟨_, rfl⟩
  have hst : ∃ xs, w.ownsRow B 3 1 (.slice (some ⟨g, 0, none⟩) m cap) m xs ∧ ∀ t, t < m → xs[t]? = some (intV (revAt F m 0 t)) := by
    refine ⟨_, hown, fun t ht => ?_⟩
    rw [List.getElem?_map, List.getElem?_eq_getElem (by omega)]
    unfold revAt
    rw [if_neg (by omega), hF]
    simp [List.getElem?_eq_getElem (show t < zs.length by omega)]
  have HZ : Hid (∀ t, t < m → (zs.reverse.map intV)[t]? = some (intV (F (m - 1 - t)))) := Lib.hid (fun t ht => by
    rw [List.getElem?_map, List.getElem?_reverse (by omega), hl, hF, List.getElem?_eq_getElem (by omega)]; simp [List.getElem?_eq_getElem (show m - 1 - t < zs.length by omega)])
  have HL : Hid (zs.length = m) := Lib.hid hl
  have HST := Lib.hid hst
  clear hst hown hF hl
  go_enter Try.func90, Try.ntmps90
  go_wp2
  go_loopw [2, 3] (fun i j wr => ∃ q : Nat, q ≤ m ∧ i = .int .i64 q ∧ j = .int .i64 ((m : Int) - 1 - q) ∧ (∃ xs, wr.ownsRow B 3 1 (.slice (some ⟨g, 0, none⟩) m cap) m xs ∧ ∀ t, t < m → xs[t]? = some (intV (revAt F m q t))) ∧ w.grownBy wr (some g) ∧ (q : Int) ≤ (m : Int) - q + 1) (fun i _ _ => m - (intOf i).toNat)
  case atStart => exact ⟨0, Nat.zero_le _, rfl, by simp, HST.out, World.grownBy_self _ _, by omega⟩
  case round =>
    obtain ⟨q, hq, rfl, rfl, ⟨xs, hown, hx⟩, hgr, hqm⟩ := hrel
    by_cases hlt : (q : Int) < (m : Int) - 1 - q
    · obtain ⟨r, hr⟩ : ∃ r : Nat, (m : Int) - 1 - q = r ∧ r = m - 1 - q := ⟨m - 1 - q, by omega, rfl⟩
      obtain ⟨hr, hr2⟩ := hr
      have hlen : xs.length = m := by have := hown.1; omega
      have c1 : wr.cell? ⟨g, q, none⟩ = some (.int .i64 (F q)) := (hown.cellAt q (by omega)).trans ((hx q (by omega)).trans (by unfold revAt; rw [if_neg (by omega)]; rfl))
      have c2 : wr.cell? ⟨g, r, none⟩ = some (.int .i64 (F r)) := (hown.cellAt r (by omega)).trans ((hx r (by omega)).trans (by unfold revAt; rw [if_neg (by omega)]; rfl))
      have f1 := hown.frozenAt q
      have f2 := hown.frozenAt r
      have hne : (q = r) = False := eq_false (by omega)
      have hne2 : (r = q) = False := eq_false (by omega)
      have hs1 := hown.stored q (intV (F r))
      have hs2 := hs1.1.stored r (intV (F q))
      have hstep := revAt_step (F := F) (m := m) (i := q) (by omega) hx hlen
      rw [← hr2] at hstep
      obtain ⟨x, hxq⟩ : ∃ x, x = F q := ⟨_, rfl⟩
      obtain ⟨y, hyr⟩ : ∃ y, y = F r := ⟨_, rfl⟩
      rw [← hxq] at c1 hs2 hstep
      rw [← hyr] at c2 hs1 hs2 hstep
      unfold intV at hs1 hs2
      have HS1 := Lib.hid hs1
      have HS2 := Lib.hid hs2
      have HSP := Lib.hid hstep
      have HG := Lib.hid hgr
      have qlt : q < m := by omega
      have rlt : r < m := by omega
      rw [hr]
      have hqr : (q : Int) < (r : Int) := by omega
      have HR := Lib.hid hr
      have HR2 := Lib.hid hr2
      clear hown hx hgr hs1 hs2 hstep hlen hxq hyr hr hr2 hlt
      go_wp2_with fail
      go_region
      all_goals
        go_wp2_with fail
        go_roundw
        case rel =>
          have h1 := HR.out
          have h2 := HR2.out
          exact ⟨q + 1, by omega, by go_num, by rw [show (m : Int) - 1 - ((q + 1 : Nat) : Int) = (r : Int) - 1 from by omega], ⟨_, (by first | exact HS2.out.1 | exact HS2.out.1.drew), HSP.out⟩, (by first | exact grown_trans (grown_trans HG.out HS1.out.2) HS2.out.2 | exact grown_drew (grown_trans (grown_trans HG.out HS1.out.2) HS2.out.2)), by omega⟩
        case measure => simp [intOf]; omega
    · go_wp2_with fail
      go_end0
      refine ⟨rfl, ?_, hgr⟩
      have hlen : xs.length = m := by have := hown.1; omega
      have he : xs = zs.reverse.map intV := by
        apply List.ext_getElem?
        intro t
        by_cases ht : t < m
        · rw [hx t ht, HZ.out t ht, revAt_end (by omega) ht]
        · rw [List.getElem?_eq_none (by omega), List.getElem?_eq_none (by have := HL.out; simp; omega)]
      rw [he] at hown
      simpa [List.map_reverse] using hown

end Go.Proofs.Ytdjaiijgdflopaa
