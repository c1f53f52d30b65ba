/-
  WALK of impl's lower: one edge.
-/
import Derived.Test.YtdjaiijgdflopaaGrF
import Derived.BigRegion
import Derived.RegionTactic
namespace Go.Proofs.Ytdjaiijgdflopaa
open Go.RowKit
set_option linter.unusedVariables false
set_option linter.unusedSimpArgs false

def stepE (s : St) (i : Nat) (e : GE) : St := if lowE s e = true then updE s i e else s
theorem cells_marks : Try.prog.cellsOf 82 = 24 := by kernel_rfl

set_option maxRecDepth 100000 in
set_option maxHeartbeats 4000000 in
theorem lower_any (b i : Nat) (e : GE) (u v : Nat) (he : e = ⟨u, v, e.c⟩) (hu : u < 8) (hv : v < 8) (s : St) (w : World) (hs : MkAt w b s) :
    Calls Try.prog 89 #[.pointer (some ⟨b, 0, none⟩), .int .i64 i, e.val] w fun x w' => x = .returned (.bool (lowE s e)) ∧ MkAt w' b (stepE s i e) ∧ w.grownBy w' (some b) := by
  have HSP := Lib.hid hs
  have hb := hs.kn.lt
  obtain ⟨x, hx⟩ : ∃ x, x = e.c := ⟨_, rfl⟩
  have hval : e.val = .agg #[.int .i64 (u : Int), .int .i64 (v : Int), .int .i64 x] := by rw [hx, he]; rfl
  rw [hval]
  obtain ⟨bu, hbu⟩ : ∃ b, b = s.kn u := ⟨_, rfl⟩
  obtain ⟨bv, hbv⟩ : ∃ b, b = s.kn v := ⟨_, rfl⟩
  obtain ⟨nu, hnu⟩ : ∃ b, b = s.nu u := ⟨_, rfl⟩
  obtain ⟨nv, hnv⟩ : ∃ b, b = s.nu v := ⟨_, rfl⟩
  obtain ⟨lv, hlv⟩ : ∃ b, b = s.la v := ⟨_, rfl⟩
  have f1 : w.cell? ⟨b, u, none⟩ = some (.bool bu) := by rw [hbu]; simpa [fB] using hs.kn.cell u hu
  have f2 : w.cell? ⟨b, v, none⟩ = some (.bool bv) := by rw [hbv]; simpa [fB] using hs.kn.cell v hv
  have f3 : w.cell? ⟨b, 8 + u, none⟩ = some (.int .i64 nu) := by rw [hnu]; simpa [fI] using hs.nu.cell u hu
  have f4 : w.cell? ⟨b, 8 + v, none⟩ = some (.int .i64 nv) := by rw [hnv]; simpa [fI] using hs.nu.cell v hv
  have f5 : w.cell? ⟨b, 16 + v, none⟩ = some (.int .i64 lv) := by rw [hlv]; simpa [fI] using hs.la.cell v hv
  have r1 : w.frozen? ⟨b, 8 + v, none⟩ = false := by simpa using hs.nu.free v hv
  have r2 : w.frozen? ⟨b, 16 + v, none⟩ = false := by simpa using hs.la.free v hv
  have r3 : w.frozen? ⟨b, v, none⟩ = false := by simpa using hs.kn.free v hv
  have hlow : ∀ r, r = (bu && (!bv || decide (wrap64 (nu + x) < nv))) → lowE s e = r := by
    intro r hr; rw [hr, hbu, hbv, hnu, hnv, hx, he]; rfl
  have hsum : sumE s e = wrap64 (nu + x) := by rw [hnu, hx, he]; rfl
  obtain ⟨sv, hsv⟩ : ∃ sv, sv = wrap64 (nu + x) := ⟨_, rfl⟩
  have z1 : wrap64 (nu + x) = sv := hsv.symm
  have z2 : IntKind.i64.wrap (nu + x) = sv := (IntWalk.i64_left _).trans z1
  rw [z1] at hlow hsum
  have hv2 : e.v.toNat = v := by rw [he]; simp
  have HV2 := Lib.hid hv2
  have HLO := Lib.hid hlow
  have HSU := Lib.hid hsum
  have hui : (u : Int) < 8 := by omega
  have hvi : (v : Int) < 8 := by omega
  have ng : (b = w.heap.size) = False := eq_false (by omega)
  have ng2 : (w.heap.size = b) = False := eq_false (by omega)
  clear he hbu hbv hnu hnv hlv hlow hsum hsv hs hval hx hv2
  cases bu with
  | false =>
    go_enter Try.func89, Try.ntmps89
    go_wp2_with fail
    go_quiet (fail)
    go_wp2_with fail
    go_quiet (fail)
    go_wp2_with fail
    go_ret
    exact ⟨ret_b (HLO.out _ rfl).symm, by rw [stepE, if_neg (by rw [HLO.out _ rfl]; simp)]; exact (by repeat (first | exact HSP.out | refine MkAt.drew ?_ | refine MkAt.drewN ?_ _ | refine MkAt.alloc ?_ _)), (by repeat (first | exact World.grownBy_self _ _ | refine grown_drew ?_ | refine grown_drewN ?_ _ | refine grown_set ?_ _ _ | refine grown_alloc ?_ _))⟩
  | true =>
    cases bv with
    | false =>
      go_enter Try.func89, Try.ntmps89
      go_wp2_with fail
      go_quiet (fail)
      go_wp2_with fail
      go_quiet (fail)
      go_wp2_with fail
      go_region
      all_goals
        go_wp2_with fail
        go_ret
        refine ⟨ret_b (HLO.out _ rfl).symm, ?_, (by repeat (first | exact World.grownBy_self _ _ | refine grown_drew ?_ | refine grown_drewN ?_ _ | refine grown_set ?_ _ _ | refine grown_alloc ?_ _))⟩
        rw [stepE, if_pos (HLO.out true rfl)]
        refine ⟨?_, ?_, ?_⟩
        · show RowF _ _ _ _ (fB (updE s i e).kn)
          rw [← upd_kn HV2.out i]
          exact (by first | (repeat (first | exact HSP.out.kn | refine RowF.drew ?_ | refine RowF.drewN ?_ _ | refine RowF.alloc ?_ _ | refine RowF.store ?_ (i := v) (by first | (simp; done) | (simp; omega) | omega) (by assumption) _ | refine RowF.beside ?_ (by first | (simp; done) | (simp; omega) | omega) _)))
        · show RowF _ _ _ _ (fI (updE s i e).nu)
          rw [← upd_nu HV2.out HSU.out]
          exact (by first | (repeat (first | exact HSP.out.nu | refine RowF.drew ?_ | refine RowF.drewN ?_ _ | refine RowF.alloc ?_ _ | refine RowF.store ?_ (i := v) (by first | (simp; done) | (simp; omega) | omega) (by assumption) _ | refine RowF.beside ?_ (by first | (simp; done) | (simp; omega) | omega) _)))
        · show RowF _ _ _ _ (fI (updE s i e).la)
          rw [← upd_la HV2.out]
          exact (by first | (repeat (first | exact HSP.out.la | refine RowF.drew ?_ | refine RowF.drewN ?_ _ | refine RowF.alloc ?_ _ | refine RowF.store ?_ (i := v) (by first | (simp; done) | (simp; omega) | omega) (by assumption) _ | refine RowF.beside ?_ (by first | (simp; done) | (simp; omega) | omega) _)))
    | true =>
      by_cases hl2 : sv < nv
      · have hl3 : decide (nv ≤ sv) = false := decide_eq_false (by omega)
        go_enter Try.func89, Try.ntmps89
        go_wp2_with fail
        go_quiet (fail)
        go_wp2_with fail
        go_quiet (fail)
        go_wp2_with fail
        go_region
        all_goals
          go_wp2_with fail
          go_ret
          refine ⟨ret_b (HLO.out _ (by rw [decide_eq_true hl2]; rfl)).symm, ?_, (by repeat (first | exact World.grownBy_self _ _ | refine grown_drew ?_ | refine grown_drewN ?_ _ | refine grown_set ?_ _ _ | refine grown_alloc ?_ _))⟩
          rw [stepE, if_pos (HLO.out true (by rw [decide_eq_true hl2]; rfl))]
          refine ⟨?_, ?_, ?_⟩
          · show RowF _ _ _ _ (fB (updE s i e).kn)
            rw [← upd_kn HV2.out i]
            exact (by first | (repeat (first | exact HSP.out.kn | refine RowF.drew ?_ | refine RowF.drewN ?_ _ | refine RowF.alloc ?_ _ | refine RowF.store ?_ (i := v) (by first | (simp; done) | (simp; omega) | omega) (by assumption) _ | refine RowF.beside ?_ (by first | (simp; done) | (simp; omega) | omega) _)))
          · show RowF _ _ _ _ (fI (updE s i e).nu)
            rw [← upd_nu HV2.out HSU.out]
            exact (by first | (repeat (first | exact HSP.out.nu | refine RowF.drew ?_ | refine RowF.drewN ?_ _ | refine RowF.alloc ?_ _ | refine RowF.store ?_ (i := v) (by first | (simp; done) | (simp; omega) | omega) (by assumption) _ | refine RowF.beside ?_ (by first | (simp; done) | (simp; omega) | omega) _)))
          · show RowF _ _ _ _ (fI (updE s i e).la)
            rw [← upd_la HV2.out]
            exact (by first | (repeat (first | exact HSP.out.la | refine RowF.drew ?_ | refine RowF.drewN ?_ _ | refine RowF.alloc ?_ _ | refine RowF.store ?_ (i := v) (by first | (simp; done) | (simp; omega) | omega) (by assumption) _ | refine RowF.beside ?_ (by first | (simp; done) | (simp; omega) | omega) _)))
      · have hl3 : decide (nv ≤ sv) = true := decide_eq_true (by omega)
        have hl4 : nv ≤ sv := by omega
        have HD := Lib.hid (decide_eq_false hl2)
        go_enter Try.func89, Try.ntmps89
        go_wp2_with fail
        go_quiet (fail)
        go_wp2_with fail
        go_quiet (fail)
        go_wp2_with fail
        go_ret
        exact ⟨ret_b (HLO.out _ (by rw [HD.out]; rfl)).symm, by rw [stepE, if_neg (by rw [HLO.out false (by rw [HD.out]; rfl)]; simp)]; exact (by repeat (first | exact HSP.out | refine MkAt.drew ?_ | refine MkAt.drewN ?_ _ | refine MkAt.alloc ?_ _)), (by repeat (first | exact World.grownBy_self _ _ | refine grown_drew ?_ | refine grown_drewN ?_ _ | refine grown_set ?_ _ _ | refine grown_alloc ?_ _))⟩

end Go.Proofs.Ytdjaiijgdflopaa
