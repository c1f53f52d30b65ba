/-
  WALK of impl.IsNegativeCycle.
-/
import Derived.Test.YtdjaiijgdflopaaGrD
namespace Go.Proofs.Ytdjaiijgdflopaa
open Go.RowKit
set_option linter.unusedVariables false
set_option linter.unusedSimpArgs false

theorem negC_eq {n : Int} {es : List GE} {zs : List Int} {m : Nat} (hm : zs.length = m) : negC n es zs = (okG n es && (closedTo es zs m && decide (0 < m)) && decide (sumTo es zs m < 0)) := by
  subst hm
  unfold negC
  cases okG n es <;> cases closedTo es zs zs.length <;> cases decide (0 < zs.length) <;> cases decide (sumTo es zs zs.length < 0) <;> rfl

set_option maxRecDepth 100000 in
set_option maxHeartbeats 4000000 in
theorem impl_IsNegativeCycle (n : Int) (es : List GE) (A : Option Addr) (k c : Nat) (zs : List Int) (B : Option Addr) (m cb : Nat) (w : World) (hn : es.length = k) (hk : k ≤ 1048576) (hzl : zs.length = m) (hm : m ≤ 1048576) (hr : EdgeAt w A es) (hz : RowAt w B (zs.map intV)) :
    Calls Try.prog 22 #[grV n A k c, .slice B m cb] w fun e w' => e = .returned (.bool (negC n es zs)) ∧ Below w.heap.size w w' := by
  have hg := fun W h => impl_GraphOk n es A k c W hn hk h
  have hcl := fun W h h' => impl_isClosedWalk n es A k c zs B m cb W hn hk hzl hm h h'
  have hsu := fun W ho h h' => impl_sumOf n es A k c zs B m cb W ho hn hzl hm h h'
  have HR := Lib.hid hr
  have HZ := Lib.hid hz
  have HN := Lib.hid (negC_eq (n := n) (es := es) hzl)
  clear hr hz hn hzl
  obtain ⟨ok, hok⟩ : ∃ b, b = okG n es := ⟨_, rfl⟩
  obtain ⟨cl, hclb⟩ : ∃ b, b = (closedTo es zs m && decide (0 < m)) := ⟨_, rfl⟩
  obtain ⟨su, hsub⟩ : ∃ z, z = sumTo es zs m := ⟨_, rfl⟩
  rw [← hok] at hg
  rw [← hclb] at hcl
  rw [← hsub] at hsu
  rw [← hok, ← hclb, ← hsub] at HN
  have HO := Lib.hid hok
  have HG := Lib.hid hg
  have HC := Lib.hid hcl
  have HS := Lib.hid hsu
  clear hok hg hcl hsu hclb hsub
  unfold grV at HG HC HS ⊢
  cases ok with
  | false =>
    go_enter Try.func22, Try.ntmps22
    go_wp2_with fail
    refine (HG.out _ (HR.out.below (by repeat (first | exact Below.refl _ _ | refine below_step (by assumption) (by first | omega | (simp; done) | (simp; omega)) ?_ | refine below_drewN ?_ _ | refine Below.drew ?_ | refine Below.setCell ?_ (by first | omega | (simp; done) | (simp; omega)) _ | refine Below.alloc ?_ (by first | omega | (simp; done) | (simp; omega)) _)))).mono ?_
    rintro e w1 ⟨rfl, b1⟩
    go_wp2_with fail
    go_ret
    exact ⟨ret_b (by rw [HN.out]; rfl), (by repeat (first | exact Below.refl _ _ | refine below_step (by assumption) (by first | omega | (simp; done) | (simp; omega)) ?_ | refine below_drewN ?_ _ | refine Below.drew ?_ | refine Below.setCell ?_ (by first | omega | (simp; done) | (simp; omega)) _ | refine Below.alloc ?_ (by first | omega | (simp; done) | (simp; omega)) _))⟩
  | true =>
    go_enter Try.func22, Try.ntmps22
    go_wp2_with fail
    refine (HG.out _ (HR.out.below (by repeat (first | exact Below.refl _ _ | refine below_step (by assumption) (by first | omega | (simp; done) | (simp; omega)) ?_ | refine below_drewN ?_ _ | refine Below.drew ?_ | refine Below.setCell ?_ (by first | omega | (simp; done) | (simp; omega)) _ | refine Below.alloc ?_ (by first | omega | (simp; done) | (simp; omega)) _)))).mono ?_
    rintro e w1 ⟨rfl, b1⟩
    have ka : w1.cell? ⟨w.heap.size, 0, none⟩ = some (.int .i64 n) := (b1.cell (p := ⟨w.heap.size, 0, none⟩) (by first | omega | (simp; done) | (simp; omega))).trans (by first | assumption | go_simp)
    have kb : w1.cell? ⟨w.heap.size, 1, none⟩ = some (.slice A k c) := (b1.cell (p := ⟨w.heap.size, 1, none⟩) (by first | omega | (simp; done) | (simp; omega))).trans (by first | assumption | go_simp)
    have sz1 : w.heap.size < w1.heap.size := Nat.lt_of_lt_of_le (by first | omega | (simp; done) | (simp; omega)) b1.size
    have B1 : Below w.heap.size w w1 := (by repeat (first | exact Below.refl _ _ | refine below_step (by assumption) (by first | omega | (simp; done) | (simp; omega)) ?_ | refine below_drewN ?_ _ | refine Below.drew ?_ | refine Below.setCell ?_ (by first | omega | (simp; done) | (simp; omega)) _ | refine Below.alloc ?_ (by first | omega | (simp; done) | (simp; omega)) _))
    clear b1
    go_wp2_with fail
    refine (HC.out _ (HR.out.below B1) (HZ.out.below B1)).mono ?_
    rintro e w2 ⟨rfl, b2⟩
    have ka2 : w2.cell? ⟨w.heap.size, 0, none⟩ = some (.int .i64 n) := (b2.cell (p := ⟨w.heap.size, 0, none⟩) (by first | omega | (simp; done) | (simp; omega))).trans (by first | assumption | go_simp)
    have kb2 : w2.cell? ⟨w.heap.size, 1, none⟩ = some (.slice A k c) := (b2.cell (p := ⟨w.heap.size, 1, none⟩) (by first | omega | (simp; done) | (simp; omega))).trans (by first | assumption | go_simp)
    have B2 : Below w.heap.size w w2 := B1.trans (b2.mono (Nat.le_of_lt sz1))
    clear b2 B1
    cases cl with
    | false =>
      go_wp2_with fail
      go_ret
      exact ⟨ret_b (by rw [HN.out]; rfl), B2⟩
    | true =>
      go_wp2_with fail
      refine (HS.out _ HO.out.symm (HR.out.below B2) (HZ.out.below B2)).mono ?_
      rintro e w3 ⟨rfl, b3⟩
      have B3 : Below w.heap.size w w3 := B2.trans (b3.mono B2.size)
      clear b3
      by_cases hneg : su < 0
      · have hd : decide (su < 0) = true := decide_eq_true hneg
        go_wp2_with fail
        go_ret
        exact ⟨ret_b (by rw [HN.out, hd]; rfl), B3⟩
      · have hd : decide (su < 0) = false := decide_eq_false hneg
        go_wp2_with fail
        go_ret
        exact ⟨ret_b (by rw [HN.out, hd]; rfl), B3⟩

end Go.Proofs.Ytdjaiijgdflopaa
