/-
  laws.FnExactNextTimes HOLDS: whatever the arguments, impl.NextTimes answers as spec.NextTimes does, and the arguments read as they did. No condition.
-/
import Derived.Test.YteppmlepbfjnpaaRows
import Derived.Test.YteppmlepbfjnpaaFrame
import Derived.Test.YteppmlepbfjnpaaBdIvOk
import Derived.Test.YteppmlepbfjnpaaBdPaC
import Derived.Test.YteppmlepbfjnpaaImP
import Derived.Deep.RegionHeld3
import Derived.Deep.CutRange
import Derived.ProofKit
import Derived.Lib.SmallJoins
namespace Go.Proofs.Yteppmlepbfjnpaa
open Go.RowKit Go.ChangeShapes Go.WideShapes Go.ChangeAt Go.WideMaps Go.WideElems
set_option linter.unusedVariables false
set_option linter.unusedSimpArgs false

theorem own_to {w : World} {B e n s lo hi : Nat} {v : Value} {xs : List Value} (h : w.ownsRow B e s v n xs) (hl : ∀ q, v.ownBlock = some q → lo < q ∧ q < hi) : w.ownsRow (lo + 1) e s v n xs := by
  refine ⟨h.1, ?_⟩
  rcases h.2 with h2 | ⟨g, cap, cur, h1, h2, h3⟩
  · exact .inl h2
  · subst h1
    have := (hl g rfl).1
    exact .inr ⟨g, cap, cur, rfl, by omega, h3⟩
theorem own_off {v v' : Value} {a b c d : Nat} (h : ∀ q, v.ownBlock = some q → a < q ∧ q < b) (h' : ∀ q, v'.ownBlock = some q → c < q ∧ q < d) (hd : b ≤ c + 1 ∨ d ≤ a + 1 := by omega) : v.ownBlock = none ∨ v.ownBlock ≠ v'.ownBlock := by
  cases hb : v.ownBlock with
  | none => exact .inl rfl
  | some q =>
    refine .inr fun e => ?_
    have h1 := h q hb
    have h2 := h' q e.symm
    omega

theorem toIntS_sl (zs : List Int) (A : Option Addr) (n c : Nat) (w : World) (hn : zs.length = n) (hm : n ≤ 1099511627776) (hr : RowAt w A (zs.map intV)) :
    Calls Try.prog 28 #[.slice A n c] w fun e w' => ∃ A' c', e = .returned (.slice A' n c') ∧ w'.ownsRow w.heap.size 3 1 (.slice A' n c') n (zs.map intV) ∧ Below w.heap.size w w' :=
  (toIntS_any zs A n c w hn hm hr).mono fun e w' ⟨v, e1, o, b⟩ => by
    obtain ⟨A', c', rfl, _, _⟩ := own_form o
    exact ⟨A', c', e1, o, b⟩
theorem eqIntS_sl (zs : List Int) (A B : Option Addr) (n ca cb : Nat) (w : World) (hn : zs.length = n) (hm : n ≤ maxLen) (ha : RowAt w A (zs.map intV)) (hb : RowAt w B (zs.map intV)) :
    Calls Try.prog 30 #[.slice A n ca, .slice B n cb] w fun e w' => e = .returned (.bool true) ∧ Below w.heap.size w w' :=
  (eqIntS_same zs A B n ca cb w hn hm ha hb).mono fun e w' ⟨h1, r, h2⟩ => ⟨h1, by rw [h2]; exact below_drewN (Below.refl _ _) r⟩

set_option maxRecDepth 100000 in
set_option maxHeartbeats 16000000 in
theorem FnExactNextTimes_walk (n : Int) (es : List GL) (A : Option Addr) (k c : Nat) (ts : List Int) (T : Option Addr) (m d : Nat) (x : Int) (w : World) (wn : (Lit.int .i64 n).wf = true) (hn : es.length = k) (hm : k ≤ maxLen) (hw : ∀ e ∈ es, e.wf) (hr : LinkAt w A es) (hzl : ts.length = m) (hzm : m ≤ maxLen) (hzw : ∀ y ∈ ts, (Lit.int .i64 y).wf = true) (hz : RowAt w T (ts.map intV)) :
    Calls Try.prog 8 #[grV n A k c, .slice T m d, .int .i64 x] w fun e w' => e = .returned (.bool true) ∧ Below w.heap.size w w' := by
  have HZ := Lib.hid (szSimple_any n A k c · hm)
  have HR := Lib.hid hr
  have HL := Lib.hid hn
  have HT := Lib.hid hz
  have HM := Lib.hid hzl
  have hzm2 := hzm
  unfold maxLen at hzm2
  clear hr hn hz hzl hzm
  by_cases hlong : m ≤ 1048576
  · have hl1 : ¬ ((1048576 : Int) < m) := by omega
    by_cases h : k ≤ 1048576
    · rw [if_pos h] at HZ
      have hlt : ¬ ((1048576 : Int) - k < 0) := by omega
      have HTO := Lib.hid (fun W h' => toSimple_any n es A k c W HL.out h h')
      have HTI := Lib.hid (fun W h' => toIntS_sl ts T m d W HM.out (by omega) h')
      have HEG := Lib.hid (fun A1 A2 c1 c2 W h1 h2 => eqSimple_same n es A1 A2 k c1 c2 W HL.out hm h1 h2)
      have HEZ := Lib.hid (fun A1 A2 c1 c2 W h1 h2 => eqIntS_sl ts A1 A2 m c1 c2 W HM.out (by unfold maxLen; omega) h1 h2)
      have HSP := Lib.hid (fun A' c' T' d' W h' h2 => spec_NextTimes x n es A' k c' ts T' m d' W HL.out h HM.out h' h2)
      have HIM := Lib.hid (fun A' c' T' d' W h' h2 => impl_NextTimes x n es A' k c' ts T' m d' W HL.out h HM.out h' h2)
      obtain ⟨lo, hlo⟩ : ∃ t, t = ntL n es ts x := ⟨_, rfl⟩
      obtain ⟨hi, hhi⟩ : ∃ t, t = ntH n es ts x := ⟨_, rfl⟩
      obtain ⟨ok, hok⟩ : ∃ t, t = ntB n es ts x := ⟨_, rfl⟩
      unfold ntV at HSP HIM
      rw [← hlo, ← hhi, ← hok] at HSP HIM
      have HEI := Lib.hid (eqInterval_any lo hi)
      have hoo : (ok != ok) = false := by simp
      clear hlo hhi hok
      unfold grV at HZ HSP HIM HTO HEG ⊢
      unfold ivV at HSP HIM HEI
      go_enter Try.func8, Try.ntmps8
      go_wp2_with fail
      refine (HZ.out _).mono ?_
      rintro e w1 ⟨rfl, b1⟩
      have c0_w1 : w1.cell? ⟨w.heap.size, 0, none⟩ = some (.int .i64 n) := (b1.cell (p := ⟨w.heap.size, 0, none⟩) (by first | omega | (simp; done) | (simp; omega))).trans (by first | assumption | go_simp)
      have c1_w1 : w1.cell? ⟨w.heap.size, 1, none⟩ = some (.slice A k c) := (b1.cell (p := ⟨w.heap.size, 1, none⟩) (by first | omega | (simp; done) | (simp; omega))).trans (by first | assumption | go_simp)
      have s0_w1 : w.heap.size < w1.heap.size := Nat.lt_of_lt_of_le (by first | omega | (simp; done) | (simp; omega)) b1.size
      have B_w1 : Below w.heap.size w w1 := (by repeat (first | exact Below.refl _ _ | refine below_step (by assumption) (by first | omega | (simp; done) | (simp; omega)) ?_ | refine below_drewN ?_ _ | refine Below.drew ?_ | refine Below.setCell ?_ (by first | omega | (simp; done) | (simp; omega)) _ | refine Below.alloc ?_ (by first | omega | (simp; done) | (simp; omega)) _))
      clear b1
      go_wp2_with fail
      refine (HTO.out _ (HR.out.below B_w1)).mono ?_
      rintro e ua ⟨A2, A2c, rfl, h2, b2⟩
      have HEua := Lib.hid (own_link h2)
      clear h2
      have c0_ua : ua.cell? ⟨w.heap.size, 0, none⟩ = some (.int .i64 n) := (b2.cell (p := ⟨w.heap.size, 0, none⟩) (by dsimp only; omega)).trans c0_w1
      have c1_ua : ua.cell? ⟨w.heap.size, 1, none⟩ = some (.slice A k c) := (b2.cell (p := ⟨w.heap.size, 1, none⟩) (by dsimp only; omega)).trans c1_w1
      have s0_ua : w.heap.size < ua.heap.size := Nat.lt_of_lt_of_le s0_w1 b2.size
      have B_ua : Below w.heap.size w ua := B_w1.trans (b2.mono B_w1.size)
      clear c0_w1 c1_w1 s0_w1  b2
      go_wp2_with fail
      refine (HTI.out _ (HT.out.below B_ua)).mono ?_
      rintro e ub ⟨T3, T3c, rfl, h3, b3⟩
      have HEub := Lib.hid (HEua.out.below b3)
      have HIub := Lib.hid (own_row h3)
      clear h3 HEua
      have c0_ub : ub.cell? ⟨w.heap.size, 0, none⟩ = some (.int .i64 n) := (b3.cell (p := ⟨w.heap.size, 0, none⟩) (by dsimp only; omega)).trans c0_ua
      have c1_ub : ub.cell? ⟨w.heap.size, 1, none⟩ = some (.slice A k c) := (b3.cell (p := ⟨w.heap.size, 1, none⟩) (by dsimp only; omega)).trans c1_ua
      have s0_ub : w.heap.size < ub.heap.size := Nat.lt_of_lt_of_le s0_ua b3.size
      have B_ub : Below w.heap.size w ub := B_ua.trans (b3.mono B_ua.size)
      clear c0_ua c1_ua s0_ua  b3
      go_wp2_with fail
      refine (HSP.out A2 A2c T3 T3c _ HEub.out HIub.out).mono ?_
      rintro e uc ⟨rfl, b3⟩
      clear HEub HIub
      have c0_uc : uc.cell? ⟨w.heap.size, 0, none⟩ = some (.int .i64 n) := (b3.cell (p := ⟨w.heap.size, 0, none⟩) (by dsimp only; omega)).trans c0_ub
      have c1_uc : uc.cell? ⟨w.heap.size, 1, none⟩ = some (.slice A k c) := (b3.cell (p := ⟨w.heap.size, 1, none⟩) (by dsimp only; omega)).trans c1_ub
      have s0_uc : w.heap.size < uc.heap.size := Nat.lt_of_lt_of_le s0_ub b3.size
      have B_uc : Below w.heap.size w uc := B_ub.trans (b3.mono B_ub.size)
      clear c0_ub c1_ub s0_ub  b3
      obtain ⟨bD, hbD⟩ : ∃ b, b = uc.heap.size := ⟨_, rfl⟩
      obtain ⟨ud, hud⟩ : ∃ W, W = uc.alloc (.cells #[.int .i64 lo, .int .i64 hi] 29) := ⟨_, rfl⟩
      have ba : Below uc.heap.size uc ud := by rw [hud]; exact (Below.refl _ _).alloc (Nat.le_refl _) _
      have u_bD_0 : w.heap.size < bD := by omega
      have z_ud : ud.heap.size = bD + 1 := by rw [hud, hbD]; simp
      have c2_ud : ud.cell? ⟨bD, 0, none⟩ = some (.int .i64 lo) := by rw [hud, hbD]; go_simp
      have c3_ud : ud.cell? ⟨bD, 1, none⟩ = some (.int .i64 hi) := by rw [hud, hbD]; go_simp
      have s1_ud : bD < ud.heap.size := by omega
      go_upto_region 8 with (fail)
      rw [← hud]
      try rw [← hbD]
      have c0_ud : ud.cell? ⟨w.heap.size, 0, none⟩ = some (.int .i64 n) := (ba.cell (p := ⟨w.heap.size, 0, none⟩) (by dsimp only; omega)).trans c0_uc
      have c1_ud : ud.cell? ⟨w.heap.size, 1, none⟩ = some (.slice A k c) := (ba.cell (p := ⟨w.heap.size, 1, none⟩) (by dsimp only; omega)).trans c1_uc
      have s0_ud : w.heap.size < ud.heap.size := Nat.lt_of_lt_of_le s0_uc ba.size
      have B_ud : Below w.heap.size w ud := B_uc.trans (ba.mono B_uc.size)
      clear c0_uc c1_uc s0_uc  ba
      clear hbD hud
      go_wp2_with fail
      refine (HTO.out _ (HR.out.below B_ud)).mono ?_
      rintro e ue ⟨A4, c4, rfl, h4, b4⟩
      have g4 := Lib.hid h4
      clear h4
      have c0_ue : ue.cell? ⟨w.heap.size, 0, none⟩ = some (.int .i64 n) := (b4.cell (p := ⟨w.heap.size, 0, none⟩) (by dsimp only; omega)).trans c0_ud
      have c1_ue : ue.cell? ⟨w.heap.size, 1, none⟩ = some (.slice A k c) := (b4.cell (p := ⟨w.heap.size, 1, none⟩) (by dsimp only; omega)).trans c1_ud
      have c2_ue : ue.cell? ⟨bD, 0, none⟩ = some (.int .i64 lo) := (b4.cell (p := ⟨bD, 0, none⟩) (by dsimp only; omega)).trans c2_ud
      have c3_ue : ue.cell? ⟨bD, 1, none⟩ = some (.int .i64 hi) := (b4.cell (p := ⟨bD, 1, none⟩) (by dsimp only; omega)).trans c3_ud
      have s0_ue : w.heap.size < ue.heap.size := Nat.lt_of_lt_of_le s0_ud b4.size
      have s1_ue : bD < ue.heap.size := Nat.lt_of_lt_of_le s1_ud b4.size
      have B_ue : Below w.heap.size w ue := B_ud.trans (b4.mono B_ud.size)
      clear c0_ud c1_ud c2_ud c3_ud s0_ud s1_ud  b4
      have oX_ue := g4
      clear g4
      obtain ⟨bX, hbX⟩ : ∃ b, b = ue.heap.size := ⟨_, rfl⟩
      obtain ⟨uf, huf⟩ : ∃ W, W = ue.alloc (.cells #[.int .i64 n, .slice A4 k c4] 25) := ⟨_, rfl⟩
      have ba : Below ue.heap.size ue uf := by rw [huf]; exact (Below.refl _ _).alloc (Nat.le_refl _) _
      have u_bX_0 : w.heap.size < bX := by omega
      have u_bX_1 : bD < bX := by omega
      have z_uf : uf.heap.size = bX + 1 := by rw [huf, hbX]; simp
      have c4_uf : uf.cell? ⟨bX, 0, none⟩ = some (.int .i64 n) := by rw [huf, hbX]; go_simp
      have c5_uf : uf.cell? ⟨bX, 1, none⟩ = some (.slice A4 k c4) := by rw [huf, hbX]; go_simp
      have s2_uf : bX < uf.heap.size := by omega
      go_upto_region 9 with (fail)
      rw [← huf]
      try rw [← hbX]
      have c0_uf : uf.cell? ⟨w.heap.size, 0, none⟩ = some (.int .i64 n) := (ba.cell (p := ⟨w.heap.size, 0, none⟩) (by dsimp only; omega)).trans c0_ue
      have c1_uf : uf.cell? ⟨w.heap.size, 1, none⟩ = some (.slice A k c) := (ba.cell (p := ⟨w.heap.size, 1, none⟩) (by dsimp only; omega)).trans c1_ue
      have c2_uf : uf.cell? ⟨bD, 0, none⟩ = some (.int .i64 lo) := (ba.cell (p := ⟨bD, 0, none⟩) (by dsimp only; omega)).trans c2_ue
      have c3_uf : uf.cell? ⟨bD, 1, none⟩ = some (.int .i64 hi) := (ba.cell (p := ⟨bD, 1, none⟩) (by dsimp only; omega)).trans c3_ue
      have s0_uf : w.heap.size < uf.heap.size := Nat.lt_of_lt_of_le s0_ue ba.size
      have s1_uf : bD < uf.heap.size := Nat.lt_of_lt_of_le s1_ue ba.size
      have B_uf : Below w.heap.size w uf := B_ue.trans (ba.mono B_ue.size)
      have oX_uf := Lib.hid (own_below oX_ue.out ba)
      clear c0_ue c1_ue c2_ue c3_ue s0_ue s1_ue oX_ue ba
      clear hbX huf
      go_wp2_with fail
      refine (HTI.out _ (HT.out.below B_uf)).mono ?_
      rintro e ug ⟨T6, d6, rfl, h6, b6⟩
      have g6 := Lib.hid h6
      clear h6
      have c0_ug : ug.cell? ⟨w.heap.size, 0, none⟩ = some (.int .i64 n) := (b6.cell (p := ⟨w.heap.size, 0, none⟩) (by dsimp only; omega)).trans c0_uf
      have c1_ug : ug.cell? ⟨w.heap.size, 1, none⟩ = some (.slice A k c) := (b6.cell (p := ⟨w.heap.size, 1, none⟩) (by dsimp only; omega)).trans c1_uf
      have c2_ug : ug.cell? ⟨bD, 0, none⟩ = some (.int .i64 lo) := (b6.cell (p := ⟨bD, 0, none⟩) (by dsimp only; omega)).trans c2_uf
      have c3_ug : ug.cell? ⟨bD, 1, none⟩ = some (.int .i64 hi) := (b6.cell (p := ⟨bD, 1, none⟩) (by dsimp only; omega)).trans c3_uf
      have c4_ug : ug.cell? ⟨bX, 0, none⟩ = some (.int .i64 n) := (b6.cell (p := ⟨bX, 0, none⟩) (by dsimp only; omega)).trans c4_uf
      have c5_ug : ug.cell? ⟨bX, 1, none⟩ = some (.slice A4 k c4) := (b6.cell (p := ⟨bX, 1, none⟩) (by dsimp only; omega)).trans c5_uf
      have s0_ug : w.heap.size < ug.heap.size := Nat.lt_of_lt_of_le s0_uf b6.size
      have s1_ug : bD < ug.heap.size := Nat.lt_of_lt_of_le s1_uf b6.size
      have s2_ug : bX < ug.heap.size := Nat.lt_of_lt_of_le s2_uf b6.size
      have B_ug : Below w.heap.size w ug := B_uf.trans (b6.mono B_uf.size)
      have oX_ug := Lib.hid (own_below oX_uf.out b6)
      clear c0_uf c1_uf c2_uf c3_uf c4_uf c5_uf s0_uf s1_uf s2_uf oX_uf b6
      have oT_ug := g6
      clear g6
      go_wp2_with fail
      refine (HIM.out A4 c4 T6 d6 _ (own_link oX_ug.out) (own_row oT_ug.out)).mono ?_
      rintro e uh ⟨rfl, b5⟩
      have c0_uh : uh.cell? ⟨w.heap.size, 0, none⟩ = some (.int .i64 n) := (b5.cell (p := ⟨w.heap.size, 0, none⟩) (by dsimp only; omega)).trans c0_ug
      have c1_uh : uh.cell? ⟨w.heap.size, 1, none⟩ = some (.slice A k c) := (b5.cell (p := ⟨w.heap.size, 1, none⟩) (by dsimp only; omega)).trans c1_ug
      have c2_uh : uh.cell? ⟨bD, 0, none⟩ = some (.int .i64 lo) := (b5.cell (p := ⟨bD, 0, none⟩) (by dsimp only; omega)).trans c2_ug
      have c3_uh : uh.cell? ⟨bD, 1, none⟩ = some (.int .i64 hi) := (b5.cell (p := ⟨bD, 1, none⟩) (by dsimp only; omega)).trans c3_ug
      have c4_uh : uh.cell? ⟨bX, 0, none⟩ = some (.int .i64 n) := (b5.cell (p := ⟨bX, 0, none⟩) (by dsimp only; omega)).trans c4_ug
      have c5_uh : uh.cell? ⟨bX, 1, none⟩ = some (.slice A4 k c4) := (b5.cell (p := ⟨bX, 1, none⟩) (by dsimp only; omega)).trans c5_ug
      have s0_uh : w.heap.size < uh.heap.size := Nat.lt_of_lt_of_le s0_ug b5.size
      have s1_uh : bD < uh.heap.size := Nat.lt_of_lt_of_le s1_ug b5.size
      have s2_uh : bX < uh.heap.size := Nat.lt_of_lt_of_le s2_ug b5.size
      have B_uh : Below w.heap.size w uh := B_ug.trans (b5.mono B_ug.size)
      have oX_uh := Lib.hid (own_below oX_ug.out b5)
      have oT_uh := Lib.hid (own_below oT_ug.out b5)
      clear c0_ug c1_ug c2_ug c3_ug c4_ug c5_ug s0_ug s1_ug s2_ug oX_ug oT_ug b5
      obtain ⟨bY, hbY⟩ : ∃ b, b = uh.heap.size := ⟨_, rfl⟩
      obtain ⟨ui, hui⟩ : ∃ W, W = uh.alloc (.cells #[.int .i64 lo, .int .i64 hi] 29) := ⟨_, rfl⟩
      have ba : Below uh.heap.size uh ui := by rw [hui]; exact (Below.refl _ _).alloc (Nat.le_refl _) _
      have u_bY_0 : w.heap.size < bY := by omega
      have u_bY_1 : bD < bY := by omega
      have u_bY_2 : bX < bY := by omega
      have z_ui : ui.heap.size = bY + 1 := by rw [hui, hbY]; simp
      have c6_ui : ui.cell? ⟨bY, 0, none⟩ = some (.int .i64 lo) := by rw [hui, hbY]; go_simp
      have c7_ui : ui.cell? ⟨bY, 1, none⟩ = some (.int .i64 hi) := by rw [hui, hbY]; go_simp
      have s3_ui : bY < ui.heap.size := by omega
      go_upto_region 11 with (fail)
      rw [← hui]
      try rw [← hbY]
      have c0_ui : ui.cell? ⟨w.heap.size, 0, none⟩ = some (.int .i64 n) := (ba.cell (p := ⟨w.heap.size, 0, none⟩) (by dsimp only; omega)).trans c0_uh
      have c1_ui : ui.cell? ⟨w.heap.size, 1, none⟩ = some (.slice A k c) := (ba.cell (p := ⟨w.heap.size, 1, none⟩) (by dsimp only; omega)).trans c1_uh
      have c2_ui : ui.cell? ⟨bD, 0, none⟩ = some (.int .i64 lo) := (ba.cell (p := ⟨bD, 0, none⟩) (by dsimp only; omega)).trans c2_uh
      have c3_ui : ui.cell? ⟨bD, 1, none⟩ = some (.int .i64 hi) := (ba.cell (p := ⟨bD, 1, none⟩) (by dsimp only; omega)).trans c3_uh
      have c4_ui : ui.cell? ⟨bX, 0, none⟩ = some (.int .i64 n) := (ba.cell (p := ⟨bX, 0, none⟩) (by dsimp only; omega)).trans c4_uh
      have c5_ui : ui.cell? ⟨bX, 1, none⟩ = some (.slice A4 k c4) := (ba.cell (p := ⟨bX, 1, none⟩) (by dsimp only; omega)).trans c5_uh
      have s0_ui : w.heap.size < ui.heap.size := Nat.lt_of_lt_of_le s0_uh ba.size
      have s1_ui : bD < ui.heap.size := Nat.lt_of_lt_of_le s1_uh ba.size
      have s2_ui : bX < ui.heap.size := Nat.lt_of_lt_of_le s2_uh ba.size
      have B_ui : Below w.heap.size w ui := B_uh.trans (ba.mono B_uh.size)
      have oX_ui := Lib.hid (own_below oX_uh.out ba)
      have oT_ui := Lib.hid (own_below oT_uh.out ba)
      clear c0_uh c1_uh c2_uh c3_uh c4_uh c5_uh s0_uh s1_uh s2_uh oX_uh oT_uh ba
      clear hbY hui
      go_wp2_with fail
      refine (HEI.out _).mono ?_
      rintro e uj ⟨rfl, b7⟩
      have c0_uj : uj.cell? ⟨w.heap.size, 0, none⟩ = some (.int .i64 n) := (b7.cell (p := ⟨w.heap.size, 0, none⟩) (by dsimp only; omega)).trans c0_ui
      have c1_uj : uj.cell? ⟨w.heap.size, 1, none⟩ = some (.slice A k c) := (b7.cell (p := ⟨w.heap.size, 1, none⟩) (by dsimp only; omega)).trans c1_ui
      have c2_uj : uj.cell? ⟨bD, 0, none⟩ = some (.int .i64 lo) := (b7.cell (p := ⟨bD, 0, none⟩) (by dsimp only; omega)).trans c2_ui
      have c3_uj : uj.cell? ⟨bD, 1, none⟩ = some (.int .i64 hi) := (b7.cell (p := ⟨bD, 1, none⟩) (by dsimp only; omega)).trans c3_ui
      have c4_uj : uj.cell? ⟨bX, 0, none⟩ = some (.int .i64 n) := (b7.cell (p := ⟨bX, 0, none⟩) (by dsimp only; omega)).trans c4_ui
      have c5_uj : uj.cell? ⟨bX, 1, none⟩ = some (.slice A4 k c4) := (b7.cell (p := ⟨bX, 1, none⟩) (by dsimp only; omega)).trans c5_ui
      have c6_uj : uj.cell? ⟨bY, 0, none⟩ = some (.int .i64 lo) := (b7.cell (p := ⟨bY, 0, none⟩) (by dsimp only; omega)).trans c6_ui
      have c7_uj : uj.cell? ⟨bY, 1, none⟩ = some (.int .i64 hi) := (b7.cell (p := ⟨bY, 1, none⟩) (by dsimp only; omega)).trans c7_ui
      have s0_uj : w.heap.size < uj.heap.size := Nat.lt_of_lt_of_le s0_ui b7.size
      have s1_uj : bD < uj.heap.size := Nat.lt_of_lt_of_le s1_ui b7.size
      have s2_uj : bX < uj.heap.size := Nat.lt_of_lt_of_le s2_ui b7.size
      have s3_uj : bY < uj.heap.size := Nat.lt_of_lt_of_le s3_ui b7.size
      have B_uj : Below w.heap.size w uj := B_ui.trans (b7.mono B_ui.size)
      have oX_uj := Lib.hid (own_below oX_ui.out b7)
      have oT_uj := Lib.hid (own_below oT_ui.out b7)
      clear c0_ui c1_ui c2_ui c3_ui c4_ui c5_ui c6_ui c7_ui s0_ui s1_ui s2_ui s3_ui oX_ui oT_ui b7
      go_wp2_with fail
      go_region_held3 (fun W => W.cell? ⟨w.heap.size, 0, none⟩ = some (.int .i64 n) ∧ W.cell? ⟨w.heap.size, 1, none⟩ = some (.slice A k c) ∧ W.cell? ⟨bX, 0, none⟩ = some (.int .i64 n) ∧ W.cell? ⟨bX, 1, none⟩ = some (.slice A4 k c4)) (first | go_keep | (dsimp only; refine ⟨?_, ?_, ?_, ?_⟩ <;> first | assumption | go_keep | go_simp)) (first | (go_at_call 27; refine (HTO.out _ (HR.out.below (by repeat (first | exact Below.refl _ _ | refine below_step (by assumption) (by first | omega | (simp; done) | (simp; omega)) ?_ | refine below_drewN ?_ _ | refine Below.drew ?_ | refine Below.setCell ?_ (by first | omega | (simp; done) | (simp; omega)) _ | refine Below.alloc ?_ (by first | omega | (simp; done) | (simp; omega)) _)))).mono ?_; rintro e w7 ⟨A7, c7, rfl, h7, b7b⟩; have c0_w7 : w7.cell? ⟨w.heap.size, 0, none⟩ = some (.int .i64 n) := (b7b.cell (p := ⟨w.heap.size, 0, none⟩) (by first | omega | (simp; done) | (simp; omega))).trans (by first | assumption | go_simp); have c1_w7 : w7.cell? ⟨w.heap.size, 1, none⟩ = some (.slice A k c) := (b7b.cell (p := ⟨w.heap.size, 1, none⟩) (by first | omega | (simp; done) | (simp; omega))).trans (by first | assumption | go_simp); have c2_w7 : w7.cell? ⟨bD, 0, none⟩ = some (.int .i64 lo) := (b7b.cell (p := ⟨bD, 0, none⟩) (by first | omega | (simp; done) | (simp; omega))).trans (by first | assumption | go_simp); have c3_w7 : w7.cell? ⟨bD, 1, none⟩ = some (.int .i64 hi) := (b7b.cell (p := ⟨bD, 1, none⟩) (by first | omega | (simp; done) | (simp; omega))).trans (by first | assumption | go_simp); have c4_w7 : w7.cell? ⟨bX, 0, none⟩ = some (.int .i64 n) := (b7b.cell (p := ⟨bX, 0, none⟩) (by first | omega | (simp; done) | (simp; omega))).trans (by first | assumption | go_simp); have c5_w7 : w7.cell? ⟨bX, 1, none⟩ = some (.slice A4 k c4) := (b7b.cell (p := ⟨bX, 1, none⟩) (by first | omega | (simp; done) | (simp; omega))).trans (by first | assumption | go_simp); have c6_w7 : w7.cell? ⟨bY, 0, none⟩ = some (.int .i64 lo) := (b7b.cell (p := ⟨bY, 0, none⟩) (by first | omega | (simp; done) | (simp; omega))).trans (by first | assumption | go_simp); have c7_w7 : w7.cell? ⟨bY, 1, none⟩ = some (.int .i64 hi) := (b7b.cell (p := ⟨bY, 1, none⟩) (by first | omega | (simp; done) | (simp; omega))).trans (by first | assumption | go_simp); have s0_w7 : w.heap.size < w7.heap.size := Nat.lt_of_lt_of_le (by first | omega | (simp; done) | (simp; omega)) b7b.size; have s1_w7 : bD < w7.heap.size := Nat.lt_of_lt_of_le (by first | omega | (simp; done) | (simp; omega)) b7b.size; have s2_w7 : bX < w7.heap.size := Nat.lt_of_lt_of_le (by first | omega | (simp; done) | (simp; omega)) b7b.size; have s3_w7 : bY < w7.heap.size := Nat.lt_of_lt_of_le (by first | omega | (simp; done) | (simp; omega)) b7b.size; have q7 : uj.heap.size ≤ w7.heap.size := b7b.size; have E7 : LinkAt w7 A7 es := own_link h7; have F7 : LinkAt w7 A4 es := LinkAt.below (w := _) (by exact LinkAt.of_heap (own_link oX_uj.out) rfl) b7b) | (go_at_call 29; refine (HEG.out A4 A7 c4 c7 _ (by exact F7.of_heap rfl) (by exact E7.of_heap rfl)).mono ?_; rintro e w8 ⟨rfl, b8b⟩; have c0_w8 : w8.cell? ⟨w.heap.size, 0, none⟩ = some (.int .i64 n) := (b8b.cell (p := ⟨w.heap.size, 0, none⟩) (by first | omega | (simp; done) | (simp; omega))).trans (by first | assumption | go_simp); have c1_w8 : w8.cell? ⟨w.heap.size, 1, none⟩ = some (.slice A k c) := (b8b.cell (p := ⟨w.heap.size, 1, none⟩) (by first | omega | (simp; done) | (simp; omega))).trans (by first | assumption | go_simp); have c2_w8 : w8.cell? ⟨bD, 0, none⟩ = some (.int .i64 lo) := (b8b.cell (p := ⟨bD, 0, none⟩) (by first | omega | (simp; done) | (simp; omega))).trans (by first | assumption | go_simp); have c3_w8 : w8.cell? ⟨bD, 1, none⟩ = some (.int .i64 hi) := (b8b.cell (p := ⟨bD, 1, none⟩) (by first | omega | (simp; done) | (simp; omega))).trans (by first | assumption | go_simp); have c4_w8 : w8.cell? ⟨bX, 0, none⟩ = some (.int .i64 n) := (b8b.cell (p := ⟨bX, 0, none⟩) (by first | omega | (simp; done) | (simp; omega))).trans (by first | assumption | go_simp); have c5_w8 : w8.cell? ⟨bX, 1, none⟩ = some (.slice A4 k c4) := (b8b.cell (p := ⟨bX, 1, none⟩) (by first | omega | (simp; done) | (simp; omega))).trans (by first | assumption | go_simp); have c6_w8 : w8.cell? ⟨bY, 0, none⟩ = some (.int .i64 lo) := (b8b.cell (p := ⟨bY, 0, none⟩) (by first | omega | (simp; done) | (simp; omega))).trans (by first | assumption | go_simp); have c7_w8 : w8.cell? ⟨bY, 1, none⟩ = some (.int .i64 hi) := (b8b.cell (p := ⟨bY, 1, none⟩) (by first | omega | (simp; done) | (simp; omega))).trans (by first | assumption | go_simp); have s0_w8 : w.heap.size < w8.heap.size := Nat.lt_of_lt_of_le (by first | omega | (simp; done) | (simp; omega)) b8b.size; have s1_w8 : bD < w8.heap.size := Nat.lt_of_lt_of_le (by first | omega | (simp; done) | (simp; omega)) b8b.size; have s2_w8 : bX < w8.heap.size := Nat.lt_of_lt_of_le (by first | omega | (simp; done) | (simp; omega)) b8b.size; have s3_w8 : bY < w8.heap.size := Nat.lt_of_lt_of_le (by first | omega | (simp; done) | (simp; omega)) b8b.size))
      all_goals
        have U8 : Below uj.heap.size uj w8 := (by repeat (first | exact Below.refl _ _ | refine below_step (by assumption) (by first | omega | (simp; done) | (simp; omega)) ?_ | refine below_drewN ?_ _ | refine Below.drew ?_ | refine Below.setCell ?_ (by first | omega | (simp; done) | (simp; omega)) _ | refine Below.alloc ?_ (by first | omega | (simp; done) | (simp; omega)) _))
        have oX_w8 := Lib.hid (own_below oX_uj.out U8)
        have oT_w8 := Lib.hid (own_below oT_uj.out U8)
        have B_w8 : Below w.heap.size w w8 := B_uj.trans (U8.mono B_uj.size)
        clear b7b b8b h7 E7 F7 U8 oX_uj oT_uj c0_uj c1_uj c2_uj c3_uj c4_uj c5_uj c6_uj c7_uj s0_uj s1_uj s2_uj s3_uj c0_w7 c1_w7 c2_w7 c3_w7 c4_w7 c5_w7 c6_w7 c7_w7 s0_w7 s1_w7 s2_w7 s3_w7
        go_wp2_with fail
        refine (HTI.out _ (HT.out.below B_w8)).mono ?_
        rintro e uk ⟨T9, d9, rfl, h9, b9⟩
        have HI9 := Lib.hid (own_row h9)
        clear h9
        have c0_uk : uk.cell? ⟨w.heap.size, 0, none⟩ = some (.int .i64 n) := (b9.cell (p := ⟨w.heap.size, 0, none⟩) (by dsimp only; omega)).trans c0_w8
        have c1_uk : uk.cell? ⟨w.heap.size, 1, none⟩ = some (.slice A k c) := (b9.cell (p := ⟨w.heap.size, 1, none⟩) (by dsimp only; omega)).trans c1_w8
        have c2_uk : uk.cell? ⟨bD, 0, none⟩ = some (.int .i64 lo) := (b9.cell (p := ⟨bD, 0, none⟩) (by dsimp only; omega)).trans c2_w8
        have c3_uk : uk.cell? ⟨bD, 1, none⟩ = some (.int .i64 hi) := (b9.cell (p := ⟨bD, 1, none⟩) (by dsimp only; omega)).trans c3_w8
        have c4_uk : uk.cell? ⟨bX, 0, none⟩ = some (.int .i64 n) := (b9.cell (p := ⟨bX, 0, none⟩) (by dsimp only; omega)).trans c4_w8
        have c5_uk : uk.cell? ⟨bX, 1, none⟩ = some (.slice A4 k c4) := (b9.cell (p := ⟨bX, 1, none⟩) (by dsimp only; omega)).trans c5_w8
        have c6_uk : uk.cell? ⟨bY, 0, none⟩ = some (.int .i64 lo) := (b9.cell (p := ⟨bY, 0, none⟩) (by dsimp only; omega)).trans c6_w8
        have c7_uk : uk.cell? ⟨bY, 1, none⟩ = some (.int .i64 hi) := (b9.cell (p := ⟨bY, 1, none⟩) (by dsimp only; omega)).trans c7_w8
        have s0_uk : w.heap.size < uk.heap.size := Nat.lt_of_lt_of_le s0_w8 b9.size
        have s1_uk : bD < uk.heap.size := Nat.lt_of_lt_of_le s1_w8 b9.size
        have s2_uk : bX < uk.heap.size := Nat.lt_of_lt_of_le s2_w8 b9.size
        have s3_uk : bY < uk.heap.size := Nat.lt_of_lt_of_le s3_w8 b9.size
        have B_uk : Below w.heap.size w uk := B_w8.trans (b9.mono B_w8.size)
        have oX_uk := Lib.hid (own_below oX_w8.out b9)
        have oT_uk := Lib.hid (own_below oT_w8.out b9)
        clear c0_w8 c1_w8 c2_w8 c3_w8 c4_w8 c5_w8 c6_w8 c7_w8 s0_w8 s1_w8 s2_w8 s3_w8 oX_w8 oT_w8 b9
        go_wp2_with fail
        refine (HEZ.out T6 T9 d6 d9 _ (own_row oT_uk.out) HI9.out).mono ?_
        rintro e ul ⟨rfl, b10⟩
        clear HI9
        have c0_ul : ul.cell? ⟨w.heap.size, 0, none⟩ = some (.int .i64 n) := (b10.cell (p := ⟨w.heap.size, 0, none⟩) (by dsimp only; omega)).trans c0_uk
        have c1_ul : ul.cell? ⟨w.heap.size, 1, none⟩ = some (.slice A k c) := (b10.cell (p := ⟨w.heap.size, 1, none⟩) (by dsimp only; omega)).trans c1_uk
        have c2_ul : ul.cell? ⟨bD, 0, none⟩ = some (.int .i64 lo) := (b10.cell (p := ⟨bD, 0, none⟩) (by dsimp only; omega)).trans c2_uk
        have c3_ul : ul.cell? ⟨bD, 1, none⟩ = some (.int .i64 hi) := (b10.cell (p := ⟨bD, 1, none⟩) (by dsimp only; omega)).trans c3_uk
        have c4_ul : ul.cell? ⟨bX, 0, none⟩ = some (.int .i64 n) := (b10.cell (p := ⟨bX, 0, none⟩) (by dsimp only; omega)).trans c4_uk
        have c5_ul : ul.cell? ⟨bX, 1, none⟩ = some (.slice A4 k c4) := (b10.cell (p := ⟨bX, 1, none⟩) (by dsimp only; omega)).trans c5_uk
        have c6_ul : ul.cell? ⟨bY, 0, none⟩ = some (.int .i64 lo) := (b10.cell (p := ⟨bY, 0, none⟩) (by dsimp only; omega)).trans c6_uk
        have c7_ul : ul.cell? ⟨bY, 1, none⟩ = some (.int .i64 hi) := (b10.cell (p := ⟨bY, 1, none⟩) (by dsimp only; omega)).trans c7_uk
        have s0_ul : w.heap.size < ul.heap.size := Nat.lt_of_lt_of_le s0_uk b10.size
        have s1_ul : bD < ul.heap.size := Nat.lt_of_lt_of_le s1_uk b10.size
        have s2_ul : bX < ul.heap.size := Nat.lt_of_lt_of_le s2_uk b10.size
        have s3_ul : bY < ul.heap.size := Nat.lt_of_lt_of_le s3_uk b10.size
        have B_ul : Below w.heap.size w ul := B_uk.trans (b10.mono B_uk.size)
        have oX_ul := Lib.hid (own_below oX_uk.out b10)
        have oT_ul := Lib.hid (own_below oT_uk.out b10)
        clear c0_uk c1_uk c2_uk c3_uk c4_uk c5_uk c6_uk c7_uk s0_uk s1_uk s2_uk s3_uk oX_uk oT_uk b10
        go_wp2_with fail
        go_ret
        exact ⟨rfl, B_ul⟩
    · rw [if_neg h] at HZ
      go_enter Try.func8, Try.ntmps8
      unfold grV at HZ
      unfold grV
      go_wp2_with fail
      refine (HZ.out _).mono ?_
      rintro e w1 ⟨rfl, b1⟩
      go_wp2_with fail
      go_ret
      exact ⟨rfl, (by repeat (first | exact Below.refl _ _ | refine below_step (by assumption) (by first | omega | (simp; done) | (simp; omega)) ?_ | refine below_drewN ?_ _ | refine Below.drew ?_ | refine Below.setCell ?_ (by first | omega | (simp; done) | (simp; omega)) _ | refine Below.alloc ?_ (by first | omega | (simp; done) | (simp; omega)) _))⟩
  · have hl1 : ((1048576 : Int) < m) := by omega
    go_enter Try.func8, Try.ntmps8
    unfold grV
    go_wp2_with fail
    go_ret
    exact ⟨rfl, (by repeat (first | exact Below.refl _ _ | refine below_step (by assumption) (by first | omega | (simp; done) | (simp; omega)) ?_ | refine below_drewN ?_ _ | refine Below.drew ?_ | refine Below.setCell ?_ (by first | omega | (simp; done) | (simp; omega)) _ | refine Below.alloc ?_ (by first | omega | (simp; done) | (simp; omega)) _))⟩

/-! ### FnExactNextTimes: the row -/

set_option maxRecDepth 100000 in
theorem FnExactNextTimes_lifted (os : Os) (started : os.Started) (H : Type) (enc : TypeId × Value → H) :
    ReturnsInHanded {} Try.checked os 8 .any (Rows.fnExactNextTimesSpec.pre6 enc Try.prog Try.f8 Rows.fnExactNextTimesRow.domain false) (Rows.fnExactNextTimesSpec.post enc Try.prog Try.f8 false true false false) := by
  refine returnsInHanded_of_change (C := Try.checked) (by kernel_rfl) started (by kernel_rfl) Try.func8
    (ChangeSpec.witness6 (enc := enc) (C := Try.checked) false ⟨#[], #[.agg #[.int .i64 0, .slice none 0 0], .slice none 0 0, .int .i64 0], []⟩ 8 (by kernel_rfl) (by kernel_rfl) (by kernel_rfl) (by kernel_rfl)) ?_
  intro W base args ds gs before hval0 hW hcnd _
  have hval : ∀ (j : Nat) t v, Try.f8.params[j]? = some t → args[j]? = some v → Value.okWide Try.prog W .any base t v := hval0
  have hW2 := hW
  obtain ⟨p, q, hA0, hV, hpq, hfz, hnd⟩ := hW2
  have hA : DataW.TrodAll enc Try.prog W 0 (fun _ => true) true Try.f8.params.toList args.toList ds p := hA0
  rw [Try.params8] at hA hval
  obtain ⟨v0, v1, v2, d0, d1, d2, p0, p1, p2, hargs, hds, hp, h0, h1, h2⟩ := trodAll_three hA
  obtain ⟨hgs, hq⟩ := trodVars_none hV
  subst hargs
  subst hds
  subst hgs
  obtain ⟨n0, A0, k0, c0, es0, rfl, wn0, hl0, hm0, hw0, hr0⟩ := open_simple (hval 0 46 v0 rfl rfl) h0
  obtain ⟨s1, l1, c1, rfl⟩ := okWide_slice Try.underlying33 (hval 1 33 v1 rfl rfl)
  obtain ⟨fuel1, hf1⟩ := h1
  obtain ⟨zs1, hzl1, hzm1, hzw1, hzr1⟩ := ints_in Try.underlying33 Try.underlying3 cells_int1 hf1
  obtain ⟨a2, rfl, rfl, _, w2⟩ := open_int Try.underlying3 (hval 2 3 v2 rfl rfl) h2
  refine (FnExactNextTimes_walk n0 es0 A0 k0 c0 zs1 s1 l1 c1 a2 W wn0 hl0 hm0 hw0 hr0 hzl1 hzm1 hzw1 hzr1).mono fun e W2 ⟨he, hb⟩ => ?_
  subst he
  exact ⟨_, rfl, law_post (by kernel_rfl) (by rw [Try.params8]; decide +kernel) (by kernel_rfl) Try.underlying4 rfl ⟨rfl, rfl, rfl⟩ hW hb⟩

theorem FnExactNextTimes_holds : Rows.FnExactNextTimesSaid :=
  OpenClaim.holds_of_wide 8 Try.f8 rfl rfl rfl rfl rfl rfl rfl ⟨rfl, rfl, rfl, rfl, rfl⟩ rfl rfl rfl rfl rfl (by kernel_rfl) Try.func8 (by kernel_rfl)
    (of_decide_eq_true (by kernel_rfl)) (by unfold Func.isWrapper; first | (rw [if_pos (by decide +kernel)]; kernel_rfl) | (rw [if_neg (by decide +kernel)]; exact ⟨rfl, rfl⟩))
    (fun os started H enc _ => FnExactNextTimes_lifted os started H enc)

end Go.Proofs.Yteppmlepbfjnpaa

