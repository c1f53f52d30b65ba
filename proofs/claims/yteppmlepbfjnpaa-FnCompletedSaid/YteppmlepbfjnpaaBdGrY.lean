/-
  WALK of slices.Reverse at []int, over a slice of the caller's own.
  WALK of impl's cycleBehind: the way back from a node, then once round the cycle.
  THE CYCLE BEHIND THE LAST CHANGED EDGE, AS A FUNCTION; the model's and the program's first last edges lead to the same one.
-/
import Derived.Test.YteppmlepbfjnpaaBdTgC
import Derived.BigRegion
import Derived.RegionTactic
import Derived.Deep.Onto
namespace Go.Proofs.Yteppmlepbfjnpaa
open Go.RowKit
set_option linter.unusedVariables false
set_option linter.unusedSimpArgs false

/-- The t-th when i exchanges are done. -/
def revAt (F : Nat → Int) (m i t : Nat) : Int := if t < i ∨ m - i ≤ t then F (m - 1 - t) else F t
theorem revAt_step {F : Nat → Int} {m i : Nat} (h : i < m - 1 - i) {xs : List Value} (hx : ∀ t, t < m → xs[t]? = some (intV (revAt F m i t))) (hl : xs.length = m) :
    ∀ t, t < m → ((xs.set i (intV (F (m - 1 - i)))).set (m - 1 - i) (intV (F i)))[t]? = some (intV (revAt F m (i + 1) t)) := by
  intro t ht
  rw [List.getElem?_set, List.getElem?_set]
  by_cases e1 : m - 1 - i = t
  · subst e1
    rw [if_pos rfl, if_pos (by simp; omega)]
    unfold revAt
    rw [if_pos (by omega), show m - 1 - (m - 1 - i) = i from by omega]
  · rw [if_neg e1]
    by_cases e2 : i = t
    · subst e2
      rw [if_pos rfl, if_pos (by omega)]
      unfold revAt
      rw [if_pos (by omega)]
    · rw [if_neg e2, hx t ht]
      unfold revAt
      by_cases e3 : t < i ∨ m - i ≤ t
      · rw [if_pos e3, if_pos (by omega)]
      · rw [if_neg e3, if_neg (by omega)]
theorem revAt_end {F : Nat → Int} {m i : Nat} (h : ¬ (i < m - 1 - i)) {t : Nat} (ht : t < m) : revAt F m i t = F (m - 1 - t) := by
  unfold revAt
  by_cases e3 : t < i ∨ m - i ≤ t
  · rw [if_pos e3]
  · rw [if_neg e3, show m - 1 - t = t from by omega]

set_option maxRecDepth 100000 in
set_option maxHeartbeats 4000000 in
theorem reverse_any (g B m cap : Nat) (zs : List Int) (w : World) (hl : zs.length = m) (hm0 : 0 < m) (hm : m ≤ 1099511627776) (hown : w.ownsRow B 3 1 (.slice (some ⟨g, 0, none⟩) m cap) m (zs.map intV)) :
    Calls Try.prog 100 #[.slice (some ⟨g, 0, none⟩) m cap] w fun e w' => e = .returned (.tuple #[]) ∧ w'.ownsRow B 3 1 (.slice (some ⟨g, 0, none⟩) m cap) m (zs.reverse.map intV) ∧ w.grownBy w' (some g) := by
  obtain ⟨F, hF⟩ : ∃ F : Nat → Int, F = fun t => zs[t]?.getD 0 := ⟨_, rfl⟩
  have hst : ∃ xs, w.ownsRow B 3 1 (.slice (some ⟨g, 0, none⟩) m cap) m xs ∧ ∀ t, t < m → xs[t]? = some (intV (revAt F m 0 t)) := by
    refine ⟨_, hown, fun t ht => ?_⟩
    rw [List.getElem?_map, List.getElem?_eq_getElem (by omega)]
    unfold revAt
    rw [if_neg (by omega), hF]
    simp [List.getElem?_eq_getElem (show t < zs.length by omega)]
  have HZ : Hid (∀ t, t < m → (zs.reverse.map intV)[t]? = some (intV (F (m - 1 - t)))) := Lib.hid (fun t ht => by
    rw [List.getElem?_map, List.getElem?_reverse (by omega), hl, hF, List.getElem?_eq_getElem (by omega)]; simp [List.getElem?_eq_getElem (show m - 1 - t < zs.length by omega)])
  have HL : Hid (zs.length = m) := Lib.hid hl
  have HST := Lib.hid hst
  clear hst hown hF hl
  go_enter Try.func100, Try.ntmps100
  go_wp2
  go_loopw [2, 3] (fun i j wr => ∃ q : Nat, q ≤ m ∧ i = .int .i64 q ∧ j = .int .i64 ((m : Int) - 1 - q) ∧ (∃ xs, wr.ownsRow B 3 1 (.slice (some ⟨g, 0, none⟩) m cap) m xs ∧ ∀ t, t < m → xs[t]? = some (intV (revAt F m q t))) ∧ w.grownBy wr (some g) ∧ (q : Int) ≤ (m : Int) - q + 1) (fun i _ _ => m - (intOf i).toNat)
  case atStart => exact ⟨0, Nat.zero_le _, rfl, by simp, HST.out, World.grownBy_self _ _, by omega⟩
  case round =>
    obtain ⟨q, hq, rfl, rfl, ⟨xs, hown, hx⟩, hgr, hqm⟩ := hrel
    by_cases hlt : (q : Int) < (m : Int) - 1 - q
    · obtain ⟨r, hr⟩ : ∃ r : Nat, (m : Int) - 1 - q = r ∧ r = m - 1 - q := ⟨m - 1 - q, by omega, rfl⟩
      obtain ⟨hr, hr2⟩ := hr
      have hlen : xs.length = m := by have := hown.1; omega
      have c1 : wr.cell? ⟨g, q, none⟩ = some (.int .i64 (F q)) := (hown.cellAt q (by omega)).trans ((hx q (by omega)).trans (by unfold revAt; rw [if_neg (by omega)]; rfl))
      have c2 : wr.cell? ⟨g, r, none⟩ = some (.int .i64 (F r)) := (hown.cellAt r (by omega)).trans ((hx r (by omega)).trans (by unfold revAt; rw [if_neg (by omega)]; rfl))
      have f1 := hown.frozenAt q
      have f2 := hown.frozenAt r
      have hne : (q = r) = False := eq_false (by omega)
      have hne2 : (r = q) = False := eq_false (by omega)
      have hs1 := hown.stored q (intV (F r))
      have hs2 := hs1.1.stored r (intV (F q))
      have hstep := revAt_step (F := F) (m := m) (i := q) (by omega) hx hlen
      rw [← hr2] at hstep
      obtain ⟨x, hxq⟩ : ∃ x, x = F q := ⟨_, rfl⟩
      obtain ⟨y, hyr⟩ : ∃ y, y = F r := ⟨_, rfl⟩
      rw [← hxq] at c1 hs2 hstep
      rw [← hyr] at c2 hs1 hs2 hstep
      unfold intV at hs1 hs2
      have HS1 := Lib.hid hs1
      have HS2 := Lib.hid hs2
      have HSP := Lib.hid hstep
      have HG := Lib.hid hgr
      have qlt : q < m := by omega
      have rlt : r < m := by omega
      rw [hr]
      have hqr : (q : Int) < (r : Int) := by omega
      have HR := Lib.hid hr
      have HR2 := Lib.hid hr2
      clear hown hx hgr hs1 hs2 hstep hlen hxq hyr hr hr2 hlt
      go_wp2_with fail
      go_region
      all_goals
        go_wp2_with fail
        go_roundw
        case rel =>
          have h1 := HR.out
          have h2 := HR2.out
          exact ⟨q + 1, by omega, by go_num, by rw [show (m : Int) - 1 - ((q + 1 : Nat) : Int) = (r : Int) - 1 from by omega], ⟨_, (by first | exact HS2.out.1 | exact HS2.out.1.drew), HSP.out⟩, (by first | exact grown_trans (grown_trans HG.out HS1.out.2) HS2.out.2 | exact grown_drew (grown_trans (grown_trans HG.out HS1.out.2) HS2.out.2)), by omega⟩
        case measure => simp [intOf]; omega
    · go_wp2_with fail
      go_end0
      refine ⟨rfl, ?_, hgr⟩
      have hlen : xs.length = m := by have := hown.1; omega
      have he : xs = zs.reverse.map intV := by
        apply List.ext_getElem?
        intro t
        by_cases ht : t < m
        · rw [hx t ht, HZ.out t ht, revAt_end (by omega) ht]
        · rw [List.getElem?_eq_none (by omega), List.getElem?_eq_none (by have := HL.out; simp; omega)]
      rw [he] at hown
      simpa [List.map_reverse] using hown

end Go.Proofs.Yteppmlepbfjnpaa

namespace Go.Proofs.Yteppmlepbfjnpaa
open Go.RowKit
set_option linter.unusedVariables false
set_option linter.unusedSimpArgs false

def lenOf : Value → Nat
  | .slice _ n _ => n
  | _ => 0
/-- A slice literal of one element is the call's own. -/
theorem owns_one (w : World) (t : TypeId) (x : Value) : (w.alloc (.cells #[x] t)).ownsRow w.heap.size t 1 (.slice (some ⟨w.heap.size, 0, none⟩) 1 1) 1 [x] :=
  ⟨rfl, .inr ⟨w.heap.size, 1, #[x], rfl, Nat.le_refl _, World.alloc_heap_new w _, Nat.le_refl _, by unfold maxLen; omega, rfl, rfl⟩⟩
theorem backE_length (es : List GE) (la : Nat → Int) (v m : Nat) : (backE es la v m).length = m := by simp [backE]
theorem backE_one (es : List GE) (la : Nat → Int) (v : Nat) : backE es la v 1 = [la v] := rfl

set_option maxRecDepth 100000 in
set_option maxHeartbeats 4000000 in
theorem cycleBehind_any (b N : Nat) (es : List GE) (A : Option Addr) (k c : Nat) (s : St) (v p : Nat) (w : World) (hn : es.length = k) (hok : okG N es = true) (hr : EdgeAt w A es) (hs : MkAt w b s)
    (hp : ∀ q, itE es s.la v q < N ∧ ∃ (j : Nat) (e : GE), s.la (itE es s.la v q) = (j : Int) ∧ es[j]? = some e)
    (hp0 : 0 < p) (hp8 : p ≤ 8) (hper : itE es s.la (itE es s.la v N) p = itE es s.la v N) (hmin : ∀ q, 0 < q → q < p → itE es s.la (itE es s.la v N) q ≠ itE es s.la v N) :
    Calls Try.prog 83 #[.pointer (some ⟨b, 0, none⟩), grV N A k c, .int .i64 v] w fun e w' =>
      ∃ B cb, e = .returned (.slice B p cb) ∧ w'.ownsRow w.heap.size 3 1 (.slice B p cb) p ((backE es s.la (itE es s.la v N) p).reverse.map intV) ∧ Below w.heap.size w w' := by
  obtain ⟨i0, hi, hz0, hz1, hz2⟩ := info_parts Try.info3
  have hN8 := (okG_rng hok).2.1
  have hk80 := (okG_rng hok).2.2
  rw [hn] at hk80
  obtain ⟨la, hla⟩ : ∃ la, la = s.la := ⟨_, rfl⟩
  rw [← hla] at hp hper hmin ⊢
  -- a node of the way back, in whatever world keeps the old blocks
  have hstep : ∀ (q : Nat) (wr : World), Below w.heap.size w wr → ∃ (x u j : Nat) (g o : Nat), A = some ⟨g, o, none⟩ ∧ g < w.heap.size ∧ itE es la v q = x ∧ itE es la v (q + 1) = u ∧ x < 8 ∧ u < 8 ∧ j < k ∧ la x = j ∧
      wr.cell? ⟨b, 16 + x, none⟩ = some (.int .i64 (j : Int)) ∧ wr.cell? ⟨g, o + j * 3, none⟩ = some (.int .i64 (u : Int)) := by
    intro q wr hb
    obtain ⟨hx, j, e, hj, he⟩ := hp q
    have hjk : j < es.length := (List.getElem?_eq_some_iff.1 he).1
    obtain ⟨g, o, hA, hg, hc⟩ := hr (by omega)
    obtain ⟨u', v', heq, hu', hv'⟩ := okG_edgeN hok he
    have hnx : itE es la v (q + 1) = u' := by show nxE es la _ = _; unfold nxE; rw [hj, edE_at es he, heq]; simp
    refine ⟨_, u', j, g, o, hA, hg, rfl, hnx, by omega, by omega, by omega, hj, ?_, ?_⟩
    · have := (hs.la.below hb hs.la.lt).cell (itE es la v q) (by omega)
      rw [← hj, hla]
      rw [hla] at this
      exact this
    · refine (hb.cell (p := ⟨g, o + j * 3, none⟩) hg).trans ((hc j hjk).1.trans ?_)
      have : es[j] = e := by rw [List.getElem?_eq_getElem hjk] at he; exact Option.some.inj he
      rw [this, heq]
  have HST := Lib.hid hstep
  have hbw := hs.kn.lt
  have HPER := Lib.hid hper
  have HMIN := Lib.hid hmin
  clear hr hs hn hok hp hla hstep hper hmin
  unfold grV
  go_enter Try.func83, Try.ntmps83
  go_wp2_with fail
  go_loopw [2, 11] (fun nd i wr => ∃ q : Nat, q ≤ N ∧ i = .int .i64 q ∧ nd = .int .i64 (itE es la v q : Nat) ∧ Below w.heap.size w wr ∧ wr.cell? ⟨w.heap.size, 1, none⟩ = some (.slice A k c) ∧ w.heap.size < wr.heap.size) (fun _ i _ => N - (intOf i).toNat)
  case atStart => exact ⟨0, Nat.zero_le _, rfl, rfl, (by repeat (first | exact Below.refl _ _ | refine below_step (by assumption) (by first | omega | (simp; done) | (simp; omega)) ?_ | refine below_drewN ?_ _ | refine Below.drew ?_ | refine Below.setCell ?_ (by first | omega | (simp; done) | (simp; omega)) _ | refine Below.alloc ?_ (by first | omega | (simp; done) | (simp; omega)) _)), by go_simp, by simp⟩
  case round =>
    obtain ⟨q, hq, rfl, rfl, hbl, hcb, hsz⟩ := hrel
    by_cases hlt : q < N
    · obtain ⟨x, u, j, g, o, rfl, hg, hx, hu, hx8, hu8, hjk, hlj, f1, f2⟩ := HST.out q wr hbl
      rw [hx]
      have HU := Lib.hid hu
      have hxi : (x : Int) < 8 := by omega
      have hji : (j : Int) < (k : Int) := by omega
      clear hx hu hlj
      go_wp2_with fail
      go_quiet (fail)
      go_wp2_with fail
      go_roundw
      case rel => exact ⟨q + 1, by omega, by go_num, by rw [HU.out], below_drewN hbl _, by first | assumption | go_simp, by first | assumption | simpa using hsz⟩
      case measure => simp [intOf]; omega
    · have : q = N := by omega
      subst this
      obtain ⟨x0, hx0⟩ : ∃ x, x = itE es la v q := ⟨_, rfl⟩
      obtain ⟨x, u, j, g, o, rfl, hg, hx, hu, hx8, hu8, hjk, hlj, f1, f2⟩ := HST.out q wr hbl
      rw [hx]
      have HX := Lib.hid hx
      have HU := Lib.hid hu
      have HJ := Lib.hid hlj
      have hxi : (x : Int) < 8 := by omega
      have hji : (j : Int) < (k : Int) := by omega
      have i1 : b < wr.heap.size := by have := hbl.size; omega
      have i2 : g < wr.heap.size := by have := hbl.size; omega
      clear hx hu hlj hx0 x0
      go_wp2_with fail
      go_quiet (fail)
      go_wp2_with fail
      obtain ⟨w2, hw2⟩ : ∃ w2, w2 = (wr.alloc (.cells #[.int .i64 (j : Int)] 3)).drewN nq := ⟨_, rfl⟩
      rw [← hw2]
      have hb2 : Below wr.heap.size wr w2 := by rw [hw2]; exact below_drewN ((Below.refl _ _).alloc (Nat.le_refl _) _) _
      have ho2 : w2.ownsRow wr.heap.size 3 1 (.slice (some ⟨wr.heap.size, 0, none⟩) 1 1) 1 ((backE es la x 1).map intV) := by
        rw [hw2, backE_one, HJ.out]
        exact own_below (owns_one wr _ _) (below_drewN (Below.refl _ _) _)
      have h1 : itE es la x 1 = u := by rw [← HU.out, itE_add, HX.out]
      have H1 := Lib.hid h1
      have HO2 := Lib.hid ho2
      have HB2 := Lib.hid hb2
      clear hw2 h1 ho2 hb2 f1 f2
      have hper := HPER.out
      have hmin := HMIN.out
      rw [HX.out] at hper hmin
      have HPER := Lib.hid hper
      have HMIN := Lib.hid hmin
      clear hper hmin
      go_loopw [7, 8] (fun v' nd wx => ∃ (i g' cap : Nat), 1 ≤ i ∧ i ≤ p ∧ v' = .slice (some ⟨g', 0, none⟩) i cap ∧ nd = .int .i64 (itE es la x i : Nat) ∧ wx.ownsRow wr.heap.size 3 1 (.slice (some ⟨g', 0, none⟩) i cap) i ((backE es la x i).map intV) ∧ Below wr.heap.size wr wx) (fun v' _ _ => p - lenOf v')
      case atStart => exact ⟨1, _, _, Nat.le_refl _, hp0, rfl, by rw [H1.out], HO2.out, HB2.out⟩
      case round =>
        obtain ⟨wo, rfl⟩ : ∃ wo : World, wo = wr := ⟨_, rfl⟩
        obtain ⟨i, g', cap, hi1, hip, rfl, rfl, hown, hbo⟩ := hrel
        have hblo : Below w.heap.size w wo := hbl.trans (hbo.mono (by omega))
        obtain ⟨y, u', j', gg, oo, hA, hg2, hy, hu', hy8, hu8', hjk', hlj', f1, f2⟩ := HST.out (q + i) wo hblo
        simp only [Option.some.injEq, Addr.mk.injEq, and_true] at hA
        obtain ⟨rfl, rfl⟩ := hA
        have hyi : itE es la x i = y := by rw [← HX.out, ← itE_add]; exact hy
        have hui : itE es la x (i + 1) = u' := by rw [← HX.out, ← itE_add, ← Nat.add_assoc]; exact hu'
        rw [hyi]
        have hcbo : wo.cell? ⟨w.heap.size, 1, none⟩ = some (.slice (some ⟨g, o, none⟩) k c) := (hbo.cell (p := ⟨w.heap.size, 1, none⟩) hsz).trans hcb
        have hso := hbo.size
        have j1 : b < wo.heap.size := by omega
        have j2 : g < wo.heap.size := by omega
        have j3 : w.heap.size < wo.heap.size := by omega
        have hglt := (hown.lt g' rfl).2
        have hglo := (hown.lt g' rfl).1
        have hyb : (y : Int) < 8 := by omega
        have hjb : (j' : Int) < (k : Int) := by omega
        have HYI := Lib.hid hyi
        have HUI := Lib.hid hui
        have HLJ := Lib.hid hlj'
        clear hy hu' hyi hui hlj'
        by_cases hlt2 : i < p
        · have hyx : ((y : Int) != (x : Int)) = true := by
            have := HMIN.out i (by omega) hlt2
            rw [HYI.out] at this
            simp; omega
          have HBK : Hid ((backE es la x (i + 1)).map intV = (backE es la x i).map intV ++ [.int .i64 (j' : Int)]) := Lib.hid (by rw [backE_succ, List.map_append, HYI.out, HLJ.out]; rfl)
          have HOW := Lib.hid hown
          clear hlt
          go_wp2_with (at_builtin; refine wpList_append_own _ rfl _ _ 33 rfl wr.heap.size 3 i0 (.int .i64 0) 1 8 Try.underlying33 hi hz0 hz1 hz2 rfl (by decide) _ _ _ rfl (HOW.out.alloc _) ⟨_, 0, none⟩ 1 1 [.int .i64 (j' : Int)] rfl rfl ?c1 ?c2 ?c3 ?c4 ?c5 ?_)
          case c1 => exact cell_one_new _ _ _
          case c2 => simp [Value.oneCell']
          case c3 => unfold maxLen; omega
          case c4 => omega
          case c5 => simp; omega
          intro v' w5 hown5 hg5 _
          have hb5 : Below wr.heap.size wo w5 := ((Below.refl _ wo).alloc (by omega) _).grown hg5 (by simp; omega) (fun t ht => (HOW.out.lt t ht).1)
          obtain ⟨g5, cap5, rfl⟩ := ownsRow_succ hown5
          rw [← HBK.out] at hown5
          have hbo5 : Below wr.heap.size wr w5 := hbo.trans hb5
          have hcb5 : w5.cell? ⟨w.heap.size, 1, none⟩ = some (.slice (some ⟨g, o, none⟩) k c) := (hb5.cell (p := ⟨w.heap.size, 1, none⟩) hsz).trans hcbo
          have f15 : w5.cell? ⟨b, 16 + y, none⟩ = some (.int .i64 (j' : Int)) := (hb5.cell (p := ⟨b, 16 + y, none⟩) (by dsimp only; omega)).trans f1
          have f25 : w5.cell? ⟨g, o + j' * 3, none⟩ = some (.int .i64 (u' : Int)) := (hb5.cell (p := ⟨g, o + j' * 3, none⟩) (by dsimp only; omega)).trans f2
          have HO5 := Lib.hid hown5
          clear hg5 hown5 hb5 f1 f2 hcbo
          go_wp2_with fail
          go_quiet (fail)
          go_wp2_with fail
          go_roundw
          case rel => exact ⟨i + 1, g5, cap5, by omega, by omega, rfl, by rw [HUI.out], own_below HO5.out (below_drewN (Below.refl _ _) _), below_drewN hbo5 _⟩
          case measure => simp [lenOf]; omega
        · have : i = p := by omega
          subst this
          have hyx : y = x := by rw [← HYI.out]; exact HPER.out
          have hyx2 : ((y : Int) != (x : Int)) = false := by simp [hyx]
          have HYX := Lib.hid hyx
          have hrev := reverse_any g' wr.heap.size i cap (backE es la x i) wo (backE_length _ _ _ _) hp0 (by omega) hown
          have HRV := Lib.hid hrev
          clear hyx hrev
          go_wp2_with fail
          refine HRV.out.mono ?_
          rintro e w6 ⟨rfl, hown6, hg6⟩
          go_wp2_with fail
          go_ret
          refine ⟨_, _, rfl, by rw [HX.out]; exact own_base hown6 (Nat.le_of_lt hsz), ?_⟩
          exact hbl.trans (((hbo.grown hg6 (by omega) (fun t ht => by cases ht; exact hglo))).mono (by omega))

end Go.Proofs.Yteppmlepbfjnpaa

namespace Go.Proofs.Yteppmlepbfjnpaa
open Go.RowKit
set_option linter.unusedVariables false
set_option linter.unusedSimpArgs false

/-- The first p (from p on, f at most) at which the way back is at x again. -/
def perE (es : List GE) (la : Nat → Int) (x : Nat) : Nat → Nat → Nat
  | 0, p => p
  | f + 1, p => if itE es la x p = x then p else perE es la x f (p + 1)
theorem perE_spec {es : List GE} {la : Nat → Int} {x : Nat} : ∀ (f p : Nat), (∃ q, p ≤ q ∧ q ≤ p + f ∧ itE es la x q = x) →
    p ≤ perE es la x f p ∧ perE es la x f p ≤ p + f ∧ itE es la x (perE es la x f p) = x ∧ ∀ t, p ≤ t → t < perE es la x f p → itE es la x t ≠ x := by
  intro f
  induction f with
  | zero =>
    rintro p ⟨q, h1, h2, h3⟩
    have : q = p := by omega
    subst this
    exact ⟨Nat.le_refl _, Nat.le_refl _, h3, fun t h4 h5 => by simp [perE] at h5; omega⟩
  | succ f ih =>
    rintro p ⟨q, h1, h2, h3⟩
    by_cases hp : itE es la x p = x
    · have e : perE es la x (f + 1) p = p := by unfold perE; rw [if_pos hp]
      rw [e]
      exact ⟨Nat.le_refl _, by omega, hp, fun t h4 h5 => by omega⟩
    · have e : perE es la x (f + 1) p = perE es la x f (p + 1) := by conv => lhs; unfold perE
                                                                     rw [if_neg hp]
      rw [e]
      have hq : q ≠ p := fun e => hp (e ▸ h3)
      obtain ⟨a1, a2, a3, a4⟩ := ih (p + 1) ⟨q, by omega, by omega, h3⟩
      refine ⟨by omega, by omega, a3, fun t h4 h5 => ?_⟩
      by_cases ht : t = p
      · subst ht; exact hp
      · exact a4 t (by omega) h5

def s0C (N : Nat) (l : Int) : St := ⟨fun j => decide (j < N), fun _ => 0, fun _ => l⟩
def endC (N : Nat) (es : List GE) : St × Int := roundsE es (s0C N (-1)) N
def headC (N : Nat) (es : List GE) : Nat := (edE es (endC N es).2).v.toNat
def atC (N : Nat) (es : List GE) : Nat := itE es (endC N es).1.la (headC N es) N
def perC (N : Nat) (es : List GE) : Nat := perE es (endC N es).1.la (atC N es) 8 1
def cycR (n : Int) (es : List GE) : List Int :=
  if okG n es = true then (if (endC n.toNat es).2 = -1 then [] else (backE es (endC n.toNat es).1.la (atC n.toNat es) (perC n.toNat es)).reverse) else []

theorem okG_nodes {N : Nat} {es : List GE} (hok : okG N es = true) : ∀ (j : Nat) (e : GE), es[j]? = some e → e.u.toNat < N ∧ e.v.toNat < N := by
  intro j e he
  obtain ⟨u, v, heq, hu, hv⟩ := okG_edgeN hok he
  rw [heq]; simp; exact ⟨hu, hv⟩

theorem cyc_facts {N : Nat} {es : List GE} (hok : okG N es = true) (h : (endC N es).2 ≠ -1) :
    ∃ (j : Nat) (e : GE), (endC N es).2 = (j : Int) ∧ (roundsE es (s0C N 0) N).2 = (j : Int) ∧ es[j]? = some e ∧ headC N es = e.v.toNat ∧
      (∀ q, itE es (endC N es).1.la (headC N es) q < N ∧ ∃ (j : Nat) (e : GE), (endC N es).1.la (itE es (endC N es).1.la (headC N es) q) = (j : Int) ∧ (roundsE es (s0C N 0) N).1.la (itE es (endC N es).1.la (headC N es) q) = (j : Int) ∧ es[j]? = some e) ∧
      0 < perC N es ∧ perC N es ≤ 9 ∧ itE es (endC N es).1.la (atC N es) (perC N es) = atC N es ∧ (∀ q, 0 < q → q < perC N es → itE es (endC N es).1.la (atC N es) q ≠ atC N es) ∧ perC N es ≤ 8 := by
  have hes := okG_nodes hok
  obtain ⟨t, w, h1, h2⟩ := Way.rounds (s := s0C N (-1)) (s' := s0C N 0) hes (fun v hv => decide_eq_true hv) rfl rfl N
  have hN8 := (okG_rng hok).2.1
  rcases rounds_rng es (s0C N (-1)) N with hr | ⟨j, e, hj, he⟩
  · exact absurd hr h
  · have hj2 : (endC N es).2 = (j : Int) := hj
    have hhead : headC N es = e.v.toNat := by unfold headC; rw [hj2, edE_at es he]
    have htv := h2 j e hj he
    obtain ⟨hb1, p, hp0, hpN, hpp⟩ := w.back hes (v := e.v.toNat) (hes j e he).2 (by omega)
    have hb1' := hb1
    rw [← hhead] at hb1 hpp
    have hper := perE_spec (es := es) (la := (endC N es).1.la) (x := atC N es) 8 1 ⟨p, by omega, by omega, hpp⟩
    have hp8 : perC N es ≤ 8 := by
      rcases Nat.lt_or_ge 8 (perC N es) with h9 | h9
      · exact absurd hpp (hper.2.2.2 p (by omega) (by show p < perC N es; omega))
      · exact h9
    exact ⟨j, e, hj2, h1.trans hj, he, hhead, hb1, hper.1, hper.2.1, hper.2.2.1, fun q h3 h4 => hper.2.2.2 q (by omega) h4, hp8⟩

theorem back_same {es : List GE} {la la' : Nat → Int} {v : Nat} (h : ∀ q, la' (itE es la v q) = la (itE es la v q)) (N p : Nat) :
    itE es la' v N = itE es la v N ∧ (∀ q, itE es la' (itE es la' v N) q = itE es la (itE es la v N) q) ∧ backE es la' (itE es la' v N) p = backE es la (itE es la v N) p := by
  have h1 := itE_same (es := es) (la := la) (la' := la') (v := v) h
  have h2 : ∀ q, itE es la' (itE es la' v N) q = itE es la (itE es la v N) q := fun q => by rw [← itE_add, ← itE_add, h1]
  refine ⟨h1 N, h2, ?_⟩
  unfold backE
  apply List.map_congr_left
  intro q _
  rw [h2 q, ← itE_add, h]

theorem cycR_len (n : Int) (es : List GE) : (cycR n es).length ≤ 8 := by
  unfold cycR
  split
  · next hok =>
    split
    · simp
    · next h =>
      have hr := okG_rng hok
      have hn : ((n.toNat : Nat) : Int) = n := by omega
      have hok' : okG (n.toNat : Int) es = true := by rw [hn]; exact hok
      obtain ⟨_, _, _, _, _, _, _, _, _, _, _, hp⟩ := cyc_facts hok' h
      rw [List.length_reverse, backE_length]; exact hp
  · simp
theorem cycR_no {n : Int} {es : List GE} (h : okG n es = false) : cycR n es = [] := by unfold cycR; rw [if_neg (by rw [h]; simp)]
theorem cycR_nil {N : Nat} {es : List GE} (h : (endC N es).2 = -1) : cycR N es = [] := by
  unfold cycR
  split
  · rw [if_pos (by simpa using h)]
  · rfl
theorem cycR_yes {N : Nat} {es : List GE} (hok : okG N es = true) (h : (endC N es).2 ≠ -1) : cycR N es = (backE es (endC N es).1.la (atC N es) (perC N es)).reverse := by
  unfold cycR
  rw [if_pos hok, if_neg (by simpa using h)]; simp

end Go.Proofs.Yteppmlepbfjnpaa
