/-
  WALKS of spec.PathWeight and impl.PathWeight.
-/
import Derived.Test.YtdmockkifoknnaaGrP
namespace Go.Proofs.Ytdmockkifoknnaa
open Go.RowKit
set_option linter.unusedVariables false
set_option linter.unusedSimpArgs false

def pathW (n : Int) (es : List GE) (zs : List Int) : Int := if okG n es = true ∧ zs.length ≤ 80 then sumTo es zs zs.length else 0
theorem ret_i {a b : Int} (h : a = b) : Ending.returned (.int .i64 a) = .returned (.int .i64 b) := by rw [h]

set_option maxRecDepth 100000 in
set_option maxHeartbeats 2000000 in
theorem spec_PathWeight (n : Int) (es : List GE) (A : Option Addr) (k c : Nat) (zs : List Int) (B : Option Addr) (m cb : Nat) (w : World) (hn : es.length = k) (hk : k ≤ 1048576) (hzl : zs.length = m) (hm : m ≤ 1048576) (hr : EdgeAt w A es) (hz : RowAt w B (zs.map intV)) :
    Calls Try.prog 24 #[grV n A k c, .slice B m cb] w fun e w' => e = .returned (.int .i64 (pathW n es zs)) ∧ Below w.heap.size w w' := by
  have hg := fun W h => spec_GraphOk n es A k c W hn hk h
  have HR := Lib.hid hr
  have HZ := Lib.hid hz
  have HL := Lib.hid hn
  have HM := Lib.hid hzl
  clear hr hz hn hzl
  obtain ⟨ok, hok⟩ : ∃ b, b = okG n es := ⟨_, rfl⟩
  rw [← hok] at hg
  have HO := Lib.hid hok
  clear hok
  unfold grV at hg ⊢
  cases ok with
  | false =>
    go_enter Try.func24, Try.ntmps24
    go_wp2_with (go_at_call 9; refine (hg _ (HR.out.below (by repeat (first | exact Below.refl _ _ | refine below_step (by assumption) (by first | omega | (simp; done) | (simp; omega)) ?_ | refine below_drewN ?_ _ | refine Below.drew ?_ | refine Below.setCell ?_ (by first | omega | (simp; done) | (simp; omega)) _ | refine Below.alloc ?_ (by first | omega | (simp; done) | (simp; omega)) _)))).mono ?_; rintro e w1 ⟨rfl, b1⟩; have ka : w1.cell? ⟨w.heap.size, 0, none⟩ = some (.int .i64 n) := (b1.cell (p := ⟨w.heap.size, 0, none⟩) (by first | omega | (simp; done) | (simp; omega))).trans (by first | assumption | go_simp); have kb : w1.cell? ⟨w.heap.size, 1, none⟩ = some (.slice A k c) := (b1.cell (p := ⟨w.heap.size, 1, none⟩) (by first | omega | (simp; done) | (simp; omega))).trans (by first | assumption | go_simp); have ks : w.heap.size < w1.heap.size := Nat.lt_of_lt_of_le (by first | omega | (simp; done) | (simp; omega)) b1.size)
    go_ret
    exact ⟨ret_i (by unfold pathW; rw [if_neg (by rw [← HO.out]; simp)]), (by repeat (first | exact Below.refl _ _ | refine below_step (by assumption) (by first | omega | (simp; done) | (simp; omega)) ?_ | refine below_drewN ?_ _ | refine Below.drew ?_ | refine Below.setCell ?_ (by first | omega | (simp; done) | (simp; omega)) _ | refine Below.alloc ?_ (by first | omega | (simp; done) | (simp; omega)) _))⟩
  | true =>
    by_cases h80 : m ≤ 80
    · have h80i : ¬ ((80 : Int) < m) := by omega
      have HP : Hid (pathW n es zs = sumTo es zs m) := Lib.hid (by unfold pathW; rw [if_pos ⟨HO.out.symm, by rw [HM.out]; exact h80⟩, HM.out])
      go_enter Try.func24, Try.ntmps24
      go_wp2_with (go_at_call 9; refine (hg _ (HR.out.below (by repeat (first | exact Below.refl _ _ | refine below_step (by assumption) (by first | omega | (simp; done) | (simp; omega)) ?_ | refine below_drewN ?_ _ | refine Below.drew ?_ | refine Below.setCell ?_ (by first | omega | (simp; done) | (simp; omega)) _ | refine Below.alloc ?_ (by first | omega | (simp; done) | (simp; omega)) _)))).mono ?_; rintro e w1 ⟨rfl, b1⟩; have ka : w1.cell? ⟨w.heap.size, 0, none⟩ = some (.int .i64 n) := (b1.cell (p := ⟨w.heap.size, 0, none⟩) (by first | omega | (simp; done) | (simp; omega))).trans (by first | assumption | go_simp); have kb : w1.cell? ⟨w.heap.size, 1, none⟩ = some (.slice A k c) := (b1.cell (p := ⟨w.heap.size, 1, none⟩) (by first | omega | (simp; done) | (simp; omega))).trans (by first | assumption | go_simp); have ks : w.heap.size < w1.heap.size := Nat.lt_of_lt_of_le (by first | omega | (simp; done) | (simp; omega)) b1.size)
      go_loopw [5, 18] (fun s i wr => ∃ j : Nat, j ≤ m ∧ i = .int .i64 j ∧ s = .int .i64 (sumTo es zs j) ∧ wr.cell? ⟨w.heap.size, 1, none⟩ = some (.slice A k c) ∧ Below w.heap.size w wr ∧ w.heap.size < wr.heap.size) (fun _ i _ => m - (intOf i).toNat)
      case atStart => exact ⟨0, Nat.zero_le _, rfl, rfl, kb, (by repeat (first | exact Below.refl _ _ | refine below_step (by assumption) (by first | omega | (simp; done) | (simp; omega)) ?_ | refine below_drewN ?_ _ | refine Below.drew ?_ | refine Below.setCell ?_ (by first | omega | (simp; done) | (simp; omega)) _ | refine Below.alloc ?_ (by first | omega | (simp; done) | (simp; omega)) _)), ks⟩
      case round =>
        clear b1 ka kb ks
        obtain ⟨j, hj, rfl, rfl, hca, hbw, hsz⟩ := hrel
        by_cases hlt : j < m
        · obtain ⟨g, o, rfl, hg, hc⟩ := HZ.out (by have := HM.out; simp; omega)
          obtain ⟨z, hz1, hz2⟩ : ∃ z : Int, wr.cell? ⟨g, o + j, none⟩ = some (.int .i64 z) ∧ zs[j]? = some z := by
            have hl := HM.out
            exact ⟨zs[j]'(by omega), (hbw.cell (p := ⟨g, o + j, none⟩) hg).trans ((hc j (by simp; omega)).trans (by rw [List.getElem_map]; rfl)), List.getElem?_eq_getElem (by omega)⟩
          have HZ2 := Lib.hid hz2
          clear hc hz2
          have hrng := sumTo_rng HO.out.symm zs j
          by_cases hin : 0 ≤ z ∧ z < (k : Int)
          · obtain ⟨q, rfl⟩ : ∃ q : Nat, z = q := ⟨z.toNat, by omega⟩
            have hq : q < k := by omega
            obtain ⟨g', o', rfl, hg', hc'⟩ := HR.out (by have := HL.out; omega)
            obtain ⟨x, hx1, hx2⟩ : ∃ x : GE, wr.cell? ⟨g', o' + q * 3 + 2, none⟩ = some (.int .i64 x.c) ∧ es[q]? = some x := by
              have hl := HL.out
              exact ⟨es[q]'(by omega), (hbw.cell (p := ⟨g', o' + q * 3 + 2, none⟩) hg').trans (hc' q (by omega)).2.2, List.getElem?_eq_getElem (by omega)⟩
            have hxr := (okG_edge HO.out.symm hx2).2.2
            have HS := Lib.hid (sumTo_in HZ2.out hx2)
            have hh := l01In_any (q : Int) 0 ((k : Int) - 1)
            rw [show (decide ((0 : Int) ≤ (q : Int)) && decide ((q : Int) ≤ (k : Int) - 1)) = true from by simp; omega] at hh
            have HH := Lib.hid hh
            clear hx2 hc' hh
            go_wp2_with (go_at_call 27; refine (HH.out _).mono ?_; rintro e w2 ⟨rfl, rfl⟩)
            go_roundw
            case rel => exact ⟨j + 1, by omega, by go_num, by rw [HS.out], hca, hbw, hsz⟩
            case measure => simp [intOf]; omega
          · have HS := Lib.hid (sumTo_out HZ2.out (by have := HL.out; omega) : sumTo es zs (j + 1) = _)
            have hh := l01In_any z 0 ((k : Int) - 1)
            rw [show (decide ((0 : Int) ≤ z) && decide (z ≤ (k : Int) - 1)) = false from by simp; omega] at hh
            have HH := Lib.hid hh
            clear hh hin
            go_wp2_with (go_at_call 27; refine (HH.out _).mono ?_; rintro e w2 ⟨rfl, rfl⟩)
            go_roundw
            case rel => exact ⟨j + 1, by omega, by go_num, by rw [HS.out], hca, hbw, hsz⟩
            case measure => simp [intOf]; omega
        · go_wp2_with fail
          go_ret
          have : j = m := by omega
          subst this
          exact ⟨ret_i HP.out.symm, hbw⟩
    · have h80i : ((80 : Int) < m) := by omega
      go_enter Try.func24, Try.ntmps24
      go_wp2_with (go_at_call 9; refine (hg _ (HR.out.below (by repeat (first | exact Below.refl _ _ | refine below_step (by assumption) (by first | omega | (simp; done) | (simp; omega)) ?_ | refine below_drewN ?_ _ | refine Below.drew ?_ | refine Below.setCell ?_ (by first | omega | (simp; done) | (simp; omega)) _ | refine Below.alloc ?_ (by first | omega | (simp; done) | (simp; omega)) _)))).mono ?_; rintro e w1 ⟨rfl, b1⟩; have ka : w1.cell? ⟨w.heap.size, 0, none⟩ = some (.int .i64 n) := (b1.cell (p := ⟨w.heap.size, 0, none⟩) (by first | omega | (simp; done) | (simp; omega))).trans (by first | assumption | go_simp); have kb : w1.cell? ⟨w.heap.size, 1, none⟩ = some (.slice A k c) := (b1.cell (p := ⟨w.heap.size, 1, none⟩) (by first | omega | (simp; done) | (simp; omega))).trans (by first | assumption | go_simp); have ks : w.heap.size < w1.heap.size := Nat.lt_of_lt_of_le (by first | omega | (simp; done) | (simp; omega)) b1.size)
      go_ret
      exact ⟨ret_i (by unfold pathW; rw [if_neg (by rw [HM.out]; omega)]), (by repeat (first | exact Below.refl _ _ | refine below_step (by assumption) (by first | omega | (simp; done) | (simp; omega)) ?_ | refine below_drewN ?_ _ | refine Below.drew ?_ | refine Below.setCell ?_ (by first | omega | (simp; done) | (simp; omega)) _ | refine Below.alloc ?_ (by first | omega | (simp; done) | (simp; omega)) _))⟩

set_option maxRecDepth 100000 in
set_option maxHeartbeats 2000000 in
theorem impl_PathWeight (n : Int) (es : List GE) (A : Option Addr) (k c : Nat) (zs : List Int) (B : Option Addr) (m cb : Nat) (w : World) (hn : es.length = k) (hk : k ≤ 1048576) (hzl : zs.length = m) (hm : m ≤ 1048576) (hr : EdgeAt w A es) (hz : RowAt w B (zs.map intV)) :
    Calls Try.prog 25 #[grV n A k c, .slice B m cb] w fun e w' => e = .returned (.int .i64 (pathW n es zs)) ∧ Below w.heap.size w w' := by
  have hg := fun W h => impl_GraphOk n es A k c W hn hk h
  have HR := Lib.hid hr
  have HZ := Lib.hid hz
  have HL := Lib.hid hn
  have HM := Lib.hid hzl
  clear hr hz hn hzl
  obtain ⟨ok, hok⟩ : ∃ b, b = okG n es := ⟨_, rfl⟩
  rw [← hok] at hg
  have HO := Lib.hid hok
  clear hok
  unfold grV at hg ⊢
  cases ok with
  | false =>
    go_enter Try.func25, Try.ntmps25
    go_wp2_with (go_at_call 11; refine (hg _ (HR.out.below (by repeat (first | exact Below.refl _ _ | refine below_step (by assumption) (by first | omega | (simp; done) | (simp; omega)) ?_ | refine below_drewN ?_ _ | refine Below.drew ?_ | refine Below.setCell ?_ (by first | omega | (simp; done) | (simp; omega)) _ | refine Below.alloc ?_ (by first | omega | (simp; done) | (simp; omega)) _)))).mono ?_; rintro e w1 ⟨rfl, b1⟩; have ka : w1.cell? ⟨w.heap.size, 0, none⟩ = some (.int .i64 n) := (b1.cell (p := ⟨w.heap.size, 0, none⟩) (by first | omega | (simp; done) | (simp; omega))).trans (by first | assumption | go_simp); have kb : w1.cell? ⟨w.heap.size, 1, none⟩ = some (.slice A k c) := (b1.cell (p := ⟨w.heap.size, 1, none⟩) (by first | omega | (simp; done) | (simp; omega))).trans (by first | assumption | go_simp); have ks : w.heap.size < w1.heap.size := Nat.lt_of_lt_of_le (by first | omega | (simp; done) | (simp; omega)) b1.size)
    go_ret
    exact ⟨ret_i (by unfold pathW; rw [if_neg (by rw [← HO.out]; simp)]), (by repeat (first | exact Below.refl _ _ | refine below_step (by assumption) (by first | omega | (simp; done) | (simp; omega)) ?_ | refine below_drewN ?_ _ | refine Below.drew ?_ | refine Below.setCell ?_ (by first | omega | (simp; done) | (simp; omega)) _ | refine Below.alloc ?_ (by first | omega | (simp; done) | (simp; omega)) _))⟩
  | true =>
    by_cases h80 : m ≤ 80
    · have h80i : ¬ ((80 : Int) < m) := by omega
      have HP : Hid (pathW n es zs = sumTo es zs m) := Lib.hid (by unfold pathW; rw [if_pos ⟨HO.out.symm, by rw [HM.out]; exact h80⟩, HM.out])
      go_enter Try.func25, Try.ntmps25
      go_wp2_with (first | (go_at_call 11; refine (hg _ (HR.out.below (by repeat (first | exact Below.refl _ _ | refine below_step (by assumption) (by first | omega | (simp; done) | (simp; omega)) ?_ | refine below_drewN ?_ _ | refine Below.drew ?_ | refine Below.setCell ?_ (by first | omega | (simp; done) | (simp; omega)) _ | refine Below.alloc ?_ (by first | omega | (simp; done) | (simp; omega)) _)))).mono ?_; rintro e w1 ⟨rfl, b1⟩; have ka : w1.cell? ⟨w.heap.size, 0, none⟩ = some (.int .i64 n) := (b1.cell (p := ⟨w.heap.size, 0, none⟩) (by first | omega | (simp; done) | (simp; omega))).trans (by first | assumption | go_simp); have kb : w1.cell? ⟨w.heap.size, 1, none⟩ = some (.slice A k c) := (b1.cell (p := ⟨w.heap.size, 1, none⟩) (by first | omega | (simp; done) | (simp; omega))).trans (by first | assumption | go_simp); have ks : w.heap.size < w1.heap.size := Nat.lt_of_lt_of_le (by first | omega | (simp; done) | (simp; omega)) b1.size) | (go_at_call 37; refine (impl_sumOf n es A k c zs B m cb _ HO.out.symm HL.out HM.out hm (HR.out.below (by repeat (first | exact Below.refl _ _ | refine below_step (by assumption) (by first | omega | (simp; done) | (simp; omega)) ?_ | refine below_drewN ?_ _ | refine Below.drew ?_ | refine Below.setCell ?_ (by first | omega | (simp; done) | (simp; omega)) _ | refine Below.alloc ?_ (by first | omega | (simp; done) | (simp; omega)) _))) (HZ.out.below (by repeat (first | exact Below.refl _ _ | refine below_step (by assumption) (by first | omega | (simp; done) | (simp; omega)) ?_ | refine below_drewN ?_ _ | refine Below.drew ?_ | refine Below.setCell ?_ (by first | omega | (simp; done) | (simp; omega)) _ | refine Below.alloc ?_ (by first | omega | (simp; done) | (simp; omega)) _)))).mono ?_; rintro e w2 ⟨rfl, b2⟩))
      go_ret
      exact ⟨ret_i HP.out.symm, (by repeat (first | exact Below.refl _ _ | refine below_step (by assumption) (by first | omega | (simp; done) | (simp; omega)) ?_ | refine below_drewN ?_ _ | refine Below.drew ?_ | refine Below.setCell ?_ (by first | omega | (simp; done) | (simp; omega)) _ | refine Below.alloc ?_ (by first | omega | (simp; done) | (simp; omega)) _))⟩
    · have h80i : ((80 : Int) < m) := by omega
      go_enter Try.func25, Try.ntmps25
      go_wp2_with (go_at_call 11; refine (hg _ (HR.out.below (by repeat (first | exact Below.refl _ _ | refine below_step (by assumption) (by first | omega | (simp; done) | (simp; omega)) ?_ | refine below_drewN ?_ _ | refine Below.drew ?_ | refine Below.setCell ?_ (by first | omega | (simp; done) | (simp; omega)) _ | refine Below.alloc ?_ (by first | omega | (simp; done) | (simp; omega)) _)))).mono ?_; rintro e w1 ⟨rfl, b1⟩; have ka : w1.cell? ⟨w.heap.size, 0, none⟩ = some (.int .i64 n) := (b1.cell (p := ⟨w.heap.size, 0, none⟩) (by first | omega | (simp; done) | (simp; omega))).trans (by first | assumption | go_simp); have kb : w1.cell? ⟨w.heap.size, 1, none⟩ = some (.slice A k c) := (b1.cell (p := ⟨w.heap.size, 1, none⟩) (by first | omega | (simp; done) | (simp; omega))).trans (by first | assumption | go_simp); have ks : w.heap.size < w1.heap.size := Nat.lt_of_lt_of_le (by first | omega | (simp; done) | (simp; omega)) b1.size)
      go_ret
      exact ⟨ret_i (by unfold pathW; rw [if_neg (by rw [HM.out]; omega)]), (by repeat (first | exact Below.refl _ _ | refine below_step (by assumption) (by first | omega | (simp; done) | (simp; omega)) ?_ | refine below_drewN ?_ _ | refine Below.drew ?_ | refine Below.setCell ?_ (by first | omega | (simp; done) | (simp; omega)) _ | refine Below.alloc ?_ (by first | omega | (simp; done) | (simp; omega)) _))⟩

end Go.Proofs.Ytdmockkifoknnaa
