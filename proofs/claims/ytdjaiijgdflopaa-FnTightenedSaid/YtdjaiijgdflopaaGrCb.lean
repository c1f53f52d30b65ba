/-
  WALK of impl's cycleBehind: the way back from a node, then once round the cycle.
-/
import Derived.Test.YtdjaiijgdflopaaGrY
import Derived.Deep.Onto
namespace Go.Proofs.Ytdjaiijgdflopaa
open Go.RowKit
set_option linter.unusedVariables false
set_option linter.unusedSimpArgs false

def lenOf : Value → Nat
  | .slice _ n _ => n
  | _ => 0
/-- A slice literal of one element is the call's own. -/
theorem owns_one (w : World) (t : TypeId) (x : Value) : (w.alloc (.cells #[x] t)).ownsRow w.heap.size t 1 (.slice (some ⟨w.heap.size, 0, none⟩) 1 1) 1 [x] :=
  ⟨rfl, .inr ⟨w.heap.size, 1, #[x], rfl, Nat.le_refl _, World.alloc_heap_new w _, Nat.le_refl _, by unfold maxLen; omega, rfl, rfl⟩⟩
theorem backE_length (es : List GE) (la : Nat → Int) (v m : Nat) : (backE es la v m).length = m := by simp [backE]
theorem backE_one (es : List GE) (la : Nat → Int) (v : Nat) : backE es la v 1 = [la v] := rfl

set_option maxRecDepth 100000 in
set_option maxHeartbeats 4000000 in
theorem cycleBehind_any (b N : Nat) (es : List GE) (A : Option Addr) (k c : Nat) (s : St) (v p : Nat) (w : World) (hn : es.length = k) (hok : okG N es = true) (hr : EdgeAt w A es) (hs : MkAt w b s)
    (hp : ∀ q, itE es s.la v q < N ∧ ∃ (j : Nat) (e : GE), s.la (itE es s.la v q) = (j : Int) ∧ es[j]? = some e)
    (hp0 : 0 < p) (hp8 : p ≤ 8) (hper : itE es s.la (itE es s.la v N) p = itE es s.la v N) (hmin : ∀ q, 0 < q → q < p → itE es s.la (itE es s.la v N) q ≠ itE es s.la v N) :
    Calls Try.prog 54 #[.pointer (some ⟨b, 0, none⟩), grV N A k c, .int .i64 v] w fun e w' =>
      ∃ B cb, e = .returned (.slice B p cb) ∧ w'.ownsRow w.heap.size 3 1 (.slice B p cb) p ((backE es s.la (itE es s.la v N) p).reverse.map intV) ∧ Below w.heap.size w w' := by
  obtain ⟨i0, hi, hz0, hz1, hz2⟩ := info_parts Try.info3
  have hN8 := (okG_rng hok).2.1
  have hk80 := (okG_rng hok).2.2
  rw [hn] at hk80
  obtain ⟨la, hla⟩ : ∃ la, la = s.la := ⟨_, rfl⟩
  rw [← hla] at hp hper hmin ⊢
  -- a node of the way back, in whatever world keeps the old blocks
  have hstep : ∀ (q : Nat) (wr : World), Below w.heap.size w wr → ∃ (x u j : Nat) (g o : Nat), A = some ⟨g, o, none⟩ ∧ g < w.heap.size ∧ itE es la v q = x ∧ itE es la v (q + 1) = u ∧ x < 8 ∧ u < 8 ∧ j < k ∧ la x = j ∧
      wr.cell? ⟨b, 16 + x, none⟩ = some (.int .i64 (j : Int)) ∧ wr.cell? ⟨g, o + j * 3, none⟩ = some (.int .i64 (u : Int)) := by
    intro q wr hb
    obtain ⟨hx, j, e, hj, he⟩ := hp q
    have hjk : j < es.length := (List.getElem?_eq_some_iff.1 he).1
    obtain ⟨g, o, hA, hg, hc⟩ := hr (by omega)
    obtain ⟨u', v', heq, hu', hv'⟩ := okG_edgeN hok he
    have hnx : itE es la v (q + 1) = u' := by show nxE es la _ = _; unfold nxE; rw [hj, edE_at es he, heq]; simp
    refine ⟨_, u', j, g, o, hA, hg, rfl, hnx, by omega, by omega, by omega, hj, ?_, ?_⟩
    · have := (hs.la.below hb hs.la.lt).cell (itE es la v q) (by omega)
      rw [← hj, hla]
      rw [hla] at this
      exact this
    · refine (hb.cell (p := ⟨g, o + j * 3, none⟩) hg).trans ((hc j hjk).1.trans ?_)
      have : es[j] = e := by rw [List.getElem?_eq_getElem hjk] at he; exact Option.some.inj he
      rw [this, heq]
  have HST := Lib.hid hstep
  have hbw := hs.kn.lt
  have HPER := Lib.hid hper
  have HMIN := Lib.hid hmin
  clear hr hs hn hok hp hla hstep hper hmin
  unfold grV
  go_enter Try.func54, Try.ntmps54
  go_wp2_with fail
  go_loopw [2, 11] (fun nd i wr => ∃ q : Nat, q ≤ N ∧ i = .int .i64 q ∧ nd = .int .i64 (itE es la v q : Nat) ∧ Below w.heap.size w wr ∧ wr.cell? ⟨w.heap.size, 1, none⟩ = some (.slice A k c) ∧ w.heap.size < wr.heap.size) (fun _ i _ => N - (intOf i).toNat)
  case atStart => exact ⟨0, Nat.zero_le _, rfl, rfl, (by repeat (first | exact Below.refl _ _ | refine below_step (by assumption) (by first | omega | (simp; done) | (simp; omega)) ?_ | refine below_drewN ?_ _ | refine Below.drew ?_ | refine Below.setCell ?_ (by first | omega | (simp; done) | (simp; omega)) _ | refine Below.alloc ?_ (by first | omega | (simp; done) | (simp; omega)) _)), by go_simp, by simp⟩
  case round =>
    obtain ⟨q, hq, rfl, rfl, hbl, hcb, hsz⟩ := hrel
    by_cases hlt : q < N
    · obtain ⟨x, u, j, g, o, rfl, hg, hx, hu, hx8, hu8, hjk, hlj, f1, f2⟩ := HST.out q wr hbl
      rw [hx]
      have HU := Lib.hid hu
      have hxi : (x : Int) < 8 := by omega
      have hji : (j : Int) < (k : Int) := by omega
      clear hx hu hlj
      go_wp2_with fail
      go_quiet (fail)
      go_wp2_with fail
      go_roundw
      case rel => exact ⟨q + 1, by omega, by go_num, by rw [HU.out], below_drewN hbl _, by first | assumption | go_simp, by first | assumption | simpa using hsz⟩
      case measure => simp [intOf]; omega
    · have : q = N := by omega
      subst this
      obtain ⟨x0, hx0⟩ : ∃ x, x = itE es la v q := ⟨_, rfl⟩
      obtain ⟨x, u, j, g, o, rfl, hg, hx, hu, hx8, hu8, hjk, hlj, f1, f2⟩ := HST.out q wr hbl
      rw [hx]
      have HX := Lib.hid hx
      have HU := Lib.hid hu
      have HJ := Lib.hid hlj
      have hxi : (x : Int) < 8 := by omega
      have hji : (j : Int) < (k : Int) := by omega
      have i1 : b < wr.heap.size := by have := hbl.size; omega
      have i2 : g < wr.heap.size := by have := hbl.size; omega
      clear hx hu hlj hx0 x0
      go_wp2_with fail
      go_quiet (fail)
      go_wp2_with fail
      obtain ⟨w2, hw2⟩ : ∃ w2, w2 = (wr.alloc (.cells #[.int .i64 (j : Int)] 3)).drewN nq := ⟨_, rfl⟩
      rw [← hw2]
      have hb2 : Below wr.heap.size wr w2 := by rw [hw2]; exact below_drewN ((Below.refl _ _).alloc (Nat.le_refl _) _) _
      have ho2 : w2.ownsRow wr.heap.size 3 1 (.slice (some ⟨wr.heap.size, 0, none⟩) 1 1) 1 ((backE es la x 1).map intV) := by
        rw [hw2, backE_one, HJ.out]
        exact own_below (owns_one wr _ _) (below_drewN (Below.refl _ _) _)
      have h1 : itE es la x 1 = u := by rw [← HU.out, itE_add, HX.out]
      have H1 := Lib.hid h1
      have HO2 := Lib.hid ho2
      have HB2 := Lib.hid hb2
      clear hw2 h1 ho2 hb2 f1 f2
      have hper := HPER.out
      have hmin := HMIN.out
      rw [HX.out] at hper hmin
      have HPER := Lib.hid hper
      have HMIN := Lib.hid hmin
      clear hper hmin
      go_loopw [7, 8] (fun v' nd wx => ∃ (i g' cap : Nat), 1 ≤ i ∧ i ≤ p ∧ v' = .slice (some ⟨g', 0, none⟩) i cap ∧ nd = .int .i64 (itE es la x i : Nat) ∧ wx.ownsRow wr.heap.size 3 1 (.slice (some ⟨g', 0, none⟩) i cap) i ((backE es la x i).map intV) ∧ Below wr.heap.size wr wx) (fun v' _ _ => p - lenOf v')
      case atStart => exact ⟨1, _, _, Nat.le_refl _, hp0, rfl, by rw [H1.out], HO2.out, HB2.out⟩
      case round =>
        obtain ⟨wo, rfl⟩ : ∃ wo : World, wo = wr := ⟨_, rfl⟩
        obtain ⟨i, g', cap, hi1, hip, rfl, rfl, hown, hbo⟩ := hrel
        have hblo : Below w.heap.size w wo := hbl.trans (hbo.mono (by omega))
        obtain ⟨y, u', j', gg, oo, hA, hg2, hy, hu', hy8, hu8', hjk', hlj', f1, f2⟩ := HST.out (q + i) wo hblo
        simp only [Option.some.injEq, Addr.mk.injEq, and_true] at hA
        obtain ⟨rfl, rfl⟩ := hA
        have hyi : itE es la x i = y := by rw [← HX.out, ← itE_add]; exact hy
        have hui : itE es la x (i + 1) = u' := by rw [← HX.out, ← itE_add, ← Nat.add_assoc]; exact hu'
        rw [hyi]
        have hcbo : wo.cell? ⟨w.heap.size, 1, none⟩ = some (.slice (some ⟨g, o, none⟩) k c) := (hbo.cell (p := ⟨w.heap.size, 1, none⟩) hsz).trans hcb
        have hso := hbo.size
        have j1 : b < wo.heap.size := by omega
        have j2 : g < wo.heap.size := by omega
        have j3 : w.heap.size < wo.heap.size := by omega
        have hglt := (hown.lt g' rfl).2
        have hglo := (hown.lt g' rfl).1
        have hyb : (y : Int) < 8 := by omega
        have hjb : (j' : Int) < (k : Int) := by omega
        have HYI := Lib.hid hyi
        have HUI := Lib.hid hui
        have HLJ := Lib.hid hlj'
        clear hy hu' hyi hui hlj'
        by_cases hlt2 : i < p
        · have hyx : ((y : Int) != (x : Int)) = true := by
            have := HMIN.out i (by omega) hlt2
            rw [HYI.out] at this
            simp; omega
          have HBK : Hid ((backE es la x (i + 1)).map intV = (backE es la x i).map intV ++ [.int .i64 (j' : Int)]) := Lib.hid (by rw [backE_succ, List.map_append, HYI.out, HLJ.out]; rfl)
          have HOW := Lib.hid hown
          clear hlt
          go_wp2_with (at_builtin; refine wpList_append_own _ rfl _ _ 27 rfl wr.heap.size 3 i0 (.int .i64 0) 1 8 Try.underlying27 hi hz0 hz1 hz2 rfl (by decide) _ _ _ rfl (HOW.out.alloc _) ⟨_, 0, none⟩ 1 1 [.int .i64 (j' : Int)] rfl rfl ?c1 ?c2 ?c3 ?c4 ?c5 ?_)
          case c1 => exact cell_one_new _ _ _
          case c2 => simp [Value.oneCell']
          case c3 => unfold maxLen; omega
          case c4 => omega
          case c5 => simp; omega
          intro v' w5 hown5 hg5 _
          have hb5 : Below wr.heap.size wo w5 := ((Below.refl _ wo).alloc (by omega) _).grown hg5 (by simp; omega) (fun t ht => (HOW.out.lt t ht).1)
          obtain ⟨g5, cap5, rfl⟩ := ownsRow_succ hown5
          rw [← HBK.out] at hown5
          have hbo5 : Below wr.heap.size wr w5 := hbo.trans hb5
          have hcb5 : w5.cell? ⟨w.heap.size, 1, none⟩ = some (.slice (some ⟨g, o, none⟩) k c) := (hb5.cell (p := ⟨w.heap.size, 1, none⟩) hsz).trans hcbo
          have f15 : w5.cell? ⟨b, 16 + y, none⟩ = some (.int .i64 (j' : Int)) := (hb5.cell (p := ⟨b, 16 + y, none⟩) (by dsimp only; omega)).trans f1
          have f25 : w5.cell? ⟨g, o + j' * 3, none⟩ = some (.int .i64 (u' : Int)) := (hb5.cell (p := ⟨g, o + j' * 3, none⟩) (by dsimp only; omega)).trans f2
          have HO5 := Lib.hid hown5
          clear hg5 hown5 hb5 f1 f2 hcbo
          go_wp2_with fail
          go_quiet (fail)
          go_wp2_with fail
          go_roundw
          case rel => exact ⟨i + 1, g5, cap5, by omega, by omega, rfl, by rw [HUI.out], own_below HO5.out (below_drewN (Below.refl _ _) _), below_drewN hbo5 _⟩
          case measure => simp [lenOf]; omega
        · have : i = p := by omega
          subst this
          have hyx : y = x := by rw [← HYI.out]; exact HPER.out
          have hyx2 : ((y : Int) != (x : Int)) = false := by simp [hyx]
          have HYX := Lib.hid hyx
          have hrev := reverse_any g' wr.heap.size i cap (backE es la x i) wo (backE_length _ _ _ _) hp0 (by omega) hown
          have HRV := Lib.hid hrev
          clear hyx hrev
          go_wp2_with fail
          refine HRV.out.mono ?_
          rintro e w6 ⟨rfl, hown6, hg6⟩
          go_wp2_with fail
          go_ret
          refine ⟨_, _, rfl, by rw [HX.out]; exact own_base hown6 (Nat.le_of_lt hsz), ?_⟩
          exact hbl.trans (((hbo.grown hg6 (by omega) (fun t ht => by cases ht; exact hglo))).mono (by omega))

end Go.Proofs.Ytdjaiijgdflopaa
