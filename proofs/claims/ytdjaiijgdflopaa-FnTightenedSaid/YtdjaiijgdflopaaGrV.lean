/-
  WALK of impl.ShortestFrom.
-/
import Derived.Test.YtdjaiijgdflopaaGrU
import Derived.Deep.Cut
import Derived.RangeFuncRecord
import Derived.Laws.Rows
namespace Go.Proofs.Ytdjaiijgdflopaa
open Go.RowKit
set_option linter.unusedVariables false
set_option linter.unusedSimpArgs false

def zeroM : Array Value := #[.bool false, .bool false, .bool false, .bool false, .bool false, .bool false, .bool false, .bool false, .int .i64 0, .int .i64 0, .int .i64 0, .int .i64 0, .int .i64 0, .int .i64 0, .int .i64 0, .int .i64 0, .int .i64 0, .int .i64 0, .int .i64 0, .int .i64 0, .int .i64 0, .int .i64 0, .int .i64 0, .int .i64 0]
theorem zeroM_at (w : World) (i : Nat) : (w.alloc (.cells zeroM 82)).cell? ⟨w.heap.size, i, none⟩ = zeroM[i]? := cell_of_row _ _ i zeroM _ (0, 0) (World.alloc_heap_new w _)
theorem zeroM_free (w : World) (i : Nat) : (w.alloc (.cells zeroM 82)).frozen? ⟨w.heap.size, i, none⟩ = false := frozen_of_row _ _ i zeroM _ (World.alloc_heap_new w _)
theorem mk_zero (w : World) : MkAt (w.alloc (.cells zeroM 82)) w.heap.size ⟨fun _ => false, fun _ => 0, fun _ => 0⟩ := by
  refine ⟨⟨by simp, fun j hj => ?_, fun j hj => zeroM_free _ _⟩, ⟨by simp, fun j hj => ?_, fun j hj => zeroM_free _ _⟩, ⟨by simp, fun j hj => ?_, fun j hj => zeroM_free _ _⟩⟩
  all_goals
    rw [zeroM_at]
    have : j = 0 ∨ j = 1 ∨ j = 2 ∨ j = 3 ∨ j = 4 ∨ j = 5 ∨ j = 6 ∨ j = 7 := by omega
    rcases this with rfl | rfl | rfl | rfl | rfl | rfl | rfl | rfl <;> rfl

set_option maxRecDepth 100000 in
set_option maxHeartbeats 4000000 in
theorem impl_ShortestFrom (n : Int) (es : List GE) (A : Option Addr) (k c : Nat) (z : Int) (w : World) (hn : es.length = k) (hk : k ≤ 1048576) (hr : EdgeAt w A es) :
    Calls Try.prog 18 #[grV n A k c, .int .i64 z] w fun e w' =>
      ∃ B m cb, e = .returned (.tuple #[.slice B m cb, .bool (shortR n es z).2]) ∧ m = (shortR n es z).1.length ∧ w'.ownsRow w.heap.size 3 1 (.slice B m cb) m ((shortR n es z).1.map intV) ∧ Below w.heap.size w w' := by
  have hz : ∀ W, (zeroValue 82).run Try.prog W = .ok (.agg #[.bool false, .bool false, .bool false, .bool false, .bool false, .bool false, .bool false, .bool false, .int .i64 0, .int .i64 0, .int .i64 0, .int .i64 0, .int .i64 0, .int .i64 0, .int .i64 0, .int .i64 0, .int .i64 0, .int .i64 0, .int .i64 0, .int .i64 0, .int .i64 0, .int .i64 0, .int .i64 0, .int .i64 0]) W := fun _ => by kernel_rfl
  have hg := fun W h => impl_GraphOk n es A k c W hn hk h
  have HR := Lib.hid hr
  have HL := Lib.hid hn
  clear hr hn
  obtain ⟨ok, hok⟩ : ∃ b, b = okG n es := ⟨_, rfl⟩
  rw [← hok] at hg
  have HG := Lib.hid hg
  have HO := Lib.hid hok
  clear hok hg
  have hin := fun W => hasNode_any n A k c z W
  cases ok with
  | false =>
    clear hin
    unfold grV at HG ⊢
    go_enter Try.func18, Try.ntmps18
    go_wp2_with fail
    refine (HG.out _ (HR.out.below (by repeat (first | exact Below.refl _ _ | refine below_step (by assumption) (by first | omega | (simp; done) | (simp; omega)) ?_ | refine below_drewN ?_ _ | refine Below.drew ?_ | refine Below.setCell ?_ (by first | omega | (simp; done) | (simp; omega)) _ | refine Below.alloc ?_ (by first | omega | (simp; done) | (simp; omega)) _)))).mono ?_
    rintro e w1 ⟨rfl, b1⟩
    go_wp2_with fail
    go_ret2
    have h := shortR_no (n := n) (es := es) (z := z) (by rw [← HO.out]; rfl)
    exact ⟨none, 0, 0, by rw [h]; rfl, by rw [h]; rfl, by rw [h]; exact ⟨rfl, .inl ⟨rfl, rfl⟩⟩, (by repeat (first | exact Below.refl _ _ | refine below_step (by assumption) (by first | omega | (simp; done) | (simp; omega)) ?_ | refine below_drewN ?_ _ | refine Below.drew ?_ | refine Below.setCell ?_ (by first | omega | (simp; done) | (simp; omega)) _ | refine Below.alloc ?_ (by first | omega | (simp; done) | (simp; omega)) _))⟩
  | true =>
    have hrng := okG_rng HO.out.symm
    obtain ⟨N, rfl⟩ : ∃ N : Nat, n = N := ⟨n.toNat, by omega⟩
    have hN8 : N ≤ 8 := by omega
    clear hrng
    by_cases hzn : 0 ≤ z ∧ z < (N : Int)
    · rw [decide_eq_true hzn] at hin
      obtain ⟨u, rfl⟩ : ∃ u : Nat, z = u := ⟨z.toNat, by omega⟩
      have hu : u < N := by omega
      have hui : (u : Int) < 8 := by omega
      have HI := Lib.hid hin
      clear hin hzn
      unfold grV at HG HI ⊢
      go_enter Try.func18, Try.ntmps18
      go_wp2_with fail
      refine (HG.out _ (HR.out.below (by repeat (first | exact Below.refl _ _ | refine below_step (by assumption) (by first | omega | (simp; done) | (simp; omega)) ?_ | refine below_drewN ?_ _ | refine Below.drew ?_ | refine Below.setCell ?_ (by first | omega | (simp; done) | (simp; omega)) _ | refine Below.alloc ?_ (by first | omega | (simp; done) | (simp; omega)) _)))).mono ?_
      rintro e w1 ⟨rfl, b1⟩
      have ka1 : w1.cell? ⟨w.heap.size, 0, none⟩ = some (.int .i64 (N : Int)) := (b1.cell (p := ⟨w.heap.size, 0, none⟩) (by first | omega | (simp; done) | (simp; omega))).trans (by first | assumption | go_simp)
      have kb1 : w1.cell? ⟨w.heap.size, 1, none⟩ = some (.slice A k c) := (b1.cell (p := ⟨w.heap.size, 1, none⟩) (by first | omega | (simp; done) | (simp; omega))).trans (by first | assumption | go_simp)
      have sz1 : w.heap.size < w1.heap.size := Nat.lt_of_lt_of_le (by first | omega | (simp; done) | (simp; omega)) b1.size
      have B1 : Below w.heap.size w w1 := (by repeat (first | exact Below.refl _ _ | refine below_step (by assumption) (by first | omega | (simp; done) | (simp; omega)) ?_ | refine below_drewN ?_ _ | refine Below.drew ?_ | refine Below.setCell ?_ (by first | omega | (simp; done) | (simp; omega)) _ | refine Below.alloc ?_ (by first | omega | (simp; done) | (simp; omega)) _))
      clear b1
      go_wp2_with fail
      refine (HI.out _).mono ?_
      rintro e w2 ⟨rfl, b2⟩
      have ka2 : w2.cell? ⟨w.heap.size, 0, none⟩ = some (.int .i64 (N : Int)) := (b2.cell (p := ⟨w.heap.size, 0, none⟩) (by first | omega | (simp; done) | (simp; omega))).trans (by first | assumption | go_simp)
      have kb2 : w2.cell? ⟨w.heap.size, 1, none⟩ = some (.slice A k c) := (b2.cell (p := ⟨w.heap.size, 1, none⟩) (by first | omega | (simp; done) | (simp; omega))).trans (by first | assumption | go_simp)
      have sz2 : w.heap.size < w2.heap.size := Nat.lt_of_lt_of_le (by first | omega | (simp; done) | (simp; omega)) b2.size
      have B2 : Below w.heap.size w w2 := B1.trans (b2.mono (by omega))
      clear b2 B1 ka1 kb1
      go_upto_region 4 with (fail)
      have hM3 := mk_zero w2
      unfold zeroM at hM3
      obtain ⟨w3, hw3⟩ : ∃ w3, w3 = w2.alloc (.cells #[.bool false, .bool false, .bool false, .bool false, .bool false, .bool false, .bool false, .bool false, .int .i64 0, .int .i64 0, .int .i64 0, .int .i64 0, .int .i64 0, .int .i64 0, .int .i64 0, .int .i64 0, .int .i64 0, .int .i64 0, .int .i64 0, .int .i64 0, .int .i64 0, .int .i64 0, .int .i64 0, .int .i64 0] 82) := ⟨_, rfl⟩
      rw [← hw3] at hM3 ⊢
      have b3 : Below w2.heap.size w2 w3 := by rw [hw3]; exact (Below.refl _ _).alloc (Nat.le_refl _) _
      clear hw3
      obtain ⟨b, hb⟩ : ∃ b, b = w2.heap.size := ⟨_, rfl⟩
      have ka3 := (b3.cell (p := ⟨w.heap.size, 0, none⟩) (by dsimp only; omega)).trans ka2
      have kb3 := (b3.cell (p := ⟨w.heap.size, 1, none⟩) (by dsimp only; omega)).trans kb2
      have B3 : Below w.heap.size w w3 := B2.trans (b3.mono (by omega))
      rw [← hb] at hM3 sz2 ⊢
      clear hb b3 B2 ka2 kb2
      have f1 : w3.cell? ⟨b, u, none⟩ = some (.bool false) := by simpa [fB] using hM3.kn.cell u (by omega)
      have r1 : w3.frozen? ⟨b, u, none⟩ = false := by simpa using hM3.kn.free u (by omega)
      have n1 : (w.heap.size = b) = False := eq_false (by omega)
      have n2 : (b = w.heap.size) = False := eq_false (by omega)
      have hM4 : MkAt (w3.setCell ⟨b, u, none⟩ (.bool true)) b (srcS u) := by
        refine ⟨(hM3.kn.store (i := u) (by omega) (by omega) _).congr (fun j hj => ?_), (hM3.nu.beside (by omega) _).congr (fun j hj => rfl), (hM3.la.beside (by omega) _).congr (fun j hj => rfl)⟩
        unfold upf fB srcS
        dsimp only
        by_cases e : j = u
        · rw [if_pos e, decide_eq_true e]
        · rw [if_neg e, decide_eq_false e]
      have hB4 : Below w.heap.size w (w3.setCell ⟨b, u, none⟩ (.bool true)) := B3.setCell (by dsimp only; omega) _
      have HM := Lib.hid hM4
      have HB := Lib.hid hB4
      clear hM3 hM4 hB4 B3
      have hse := settle_any b N es A k c (srcS u) w _ HL.out HO.out.symm HR.out HB.out (by omega) HM.out
      obtain ⟨ch, hch⟩ : ∃ ch, ch = (roundsE es (srcS u) N).2 := ⟨_, rfl⟩
      obtain ⟨sN, hsN⟩ : ∃ s, s = (roundsE es (srcS u) N).1 := ⟨_, rfl⟩
      rw [← hch, ← hsN] at hse
      unfold grV at hse
      have HSE := Lib.hid hse
      have HCH := Lib.hid hch
      have HSN := Lib.hid hsN
      have b4 : Below b w3 (w3.setCell ⟨b, u, none⟩ (.bool true)) := (Below.refl _ _).setCell (p := ⟨b, u, none⟩) (Nat.le_refl _) _
      have HB4 := Lib.hid b4
      clear hse hch hsN b4
      by_cases h1 : ch = -1
      · have hbc : (ch != -1) = false := by simp [h1]
        have H1 := Lib.hid h1
        clear h1
        go_wp2_with fail
        refine HSE.out.mono ?_
        rintro e w5 ⟨rfl, hM5, hb5⟩
        have ka5 : w5.cell? ⟨w.heap.size, 0, none⟩ = some (.int .i64 (N : Int)) := ((HB4.out.trans hb5).cell (p := ⟨w.heap.size, 0, none⟩) (by dsimp only; omega)).trans ka3
        have B5 : Below w.heap.size w w5 := HB.out.trans (hb5.mono (by omega))
        have hd := distances_any b N sN w5 hN8 hM5
        have HD := Lib.hid hd
        clear hd hM5 hb5
        go_wp2_with fail
        refine HD.out.mono ?_
        rintro e w6 ⟨B, cb, rfl, ho, hb6⟩
        go_wp2_with fail
        go_ret2
        have h := shortR_yes (n := N) (u := u) (es := es) HO.out.symm hu (by rw [← HCH.out]; exact H1.out)
        rw [← HSN.out] at h
        refine ⟨B, N, cb, by rw [h]; rfl, by rw [h]; exact (distZ_length _ _).symm, ?_, B5.trans (hb6.mono B5.size)⟩
        rw [h, ← distL_eq]
        exact own_base ho B5.size
      · have hbc : (ch != -1) = true := by simp [h1]
        have H1 := Lib.hid h1
        clear h1
        go_wp2_with fail
        refine HSE.out.mono ?_
        rintro e w5 ⟨rfl, hM5, hb5⟩
        have B5 : Below w.heap.size w w5 := HB.out.trans (hb5.mono (by omega))
        clear hM5 hb5
        go_wp2_with fail
        go_ret2
        have h := shortR_neg (n := N) (u := u) (es := es) (by rw [← HCH.out]; exact H1.out)
        exact ⟨none, 0, 0, by rw [h]; rfl, by rw [h]; rfl, by rw [h]; exact ⟨rfl, .inl ⟨rfl, rfl⟩⟩, B5⟩
    · rw [decide_eq_false hzn] at hin
      have HI := Lib.hid hin
      have HZ := Lib.hid hzn
      clear hin hzn
      unfold grV at HG HI ⊢
      go_enter Try.func18, Try.ntmps18
      go_wp2_with fail
      refine (HG.out _ (HR.out.below (by repeat (first | exact Below.refl _ _ | refine below_step (by assumption) (by first | omega | (simp; done) | (simp; omega)) ?_ | refine below_drewN ?_ _ | refine Below.drew ?_ | refine Below.setCell ?_ (by first | omega | (simp; done) | (simp; omega)) _ | refine Below.alloc ?_ (by first | omega | (simp; done) | (simp; omega)) _)))).mono ?_
      rintro e w1 ⟨rfl, b1⟩
      have ka1 : w1.cell? ⟨w.heap.size, 0, none⟩ = some (.int .i64 (N : Int)) := (b1.cell (p := ⟨w.heap.size, 0, none⟩) (by first | omega | (simp; done) | (simp; omega))).trans (by first | assumption | go_simp)
      have kb1 : w1.cell? ⟨w.heap.size, 1, none⟩ = some (.slice A k c) := (b1.cell (p := ⟨w.heap.size, 1, none⟩) (by first | omega | (simp; done) | (simp; omega))).trans (by first | assumption | go_simp)
      have sz1 : w.heap.size < w1.heap.size := Nat.lt_of_lt_of_le (by first | omega | (simp; done) | (simp; omega)) b1.size
      have B1 : Below w.heap.size w w1 := (by repeat (first | exact Below.refl _ _ | refine below_step (by assumption) (by first | omega | (simp; done) | (simp; omega)) ?_ | refine below_drewN ?_ _ | refine Below.drew ?_ | refine Below.setCell ?_ (by first | omega | (simp; done) | (simp; omega)) _ | refine Below.alloc ?_ (by first | omega | (simp; done) | (simp; omega)) _))
      clear b1
      go_wp2_with fail
      refine (HI.out _).mono ?_
      rintro e w2 ⟨rfl, b2⟩
      have B2 : Below w.heap.size w w2 := B1.trans (b2.mono (by omega))
      clear b2 B1
      go_wp2_with fail
      go_ret2
      have h := shortR_no (n := (N : Int)) (es := es) (z := z) (by rw [← HO.out, decide_eq_false HZ.out]; rfl)
      exact ⟨none, 0, 0, by rw [h]; rfl, by rw [h]; rfl, by rw [h]; exact ⟨rfl, .inl ⟨rfl, rfl⟩⟩, B2⟩

end Go.Proofs.Ytdjaiijgdflopaa
