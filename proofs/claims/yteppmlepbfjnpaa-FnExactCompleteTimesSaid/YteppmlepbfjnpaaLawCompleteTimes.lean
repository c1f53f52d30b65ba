/-
  laws.FnExactCompleteTimes HOLDS: whatever the arguments, impl.CompleteTimes answers as spec.CompleteTimes does, the arguments read as they did, and the answer's memory is its own. No condition.
-/
import Derived.Test.YteppmlepbfjnpaaRows
import Derived.Test.YteppmlepbfjnpaaFrame
import Derived.Test.YteppmlepbfjnpaaBdLkM
import Derived.Test.YteppmlepbfjnpaaBdIvOk
import Derived.Test.YteppmlepbfjnpaaBdPaC
import Derived.Test.YteppmlepbfjnpaaImP
import Derived.Deep.RegionHeld3
import Derived.Deep.CutRange
import Derived.ProofKit
import Derived.Lib.SmallJoins
namespace Go.Proofs.Yteppmlepbfjnpaa
open Go.RowKit Go.ChangeShapes Go.WideShapes Go.ChangeAt Go.WideMaps Go.WideElems
set_option linter.unusedVariables false
set_option linter.unusedSimpArgs false

theorem own_to {w : World} {B e n s lo hi : Nat} {v : Value} {xs : List Value} (h : w.ownsRow B e s v n xs) (hl : ∀ q, v.ownBlock = some q → lo < q ∧ q < hi) : w.ownsRow (lo + 1) e s v n xs := by
  refine ⟨h.1, ?_⟩
  rcases h.2 with h2 | ⟨g, cap, cur, h1, h2, h3⟩
  · exact .inl h2
  · subst h1
    have := (hl g rfl).1
    exact .inr ⟨g, cap, cur, rfl, by omega, h3⟩
theorem own_off {v v' : Value} {a b c d : Nat} (h : ∀ q, v.ownBlock = some q → a < q ∧ q < b) (h' : ∀ q, v'.ownBlock = some q → c < q ∧ q < d) (hd : b ≤ c + 1 ∨ d ≤ a + 1 := by omega) : v.ownBlock = none ∨ v.ownBlock ≠ v'.ownBlock := by
  cases hb : v.ownBlock with
  | none => exact .inl rfl
  | some q =>
    refine .inr fun e => ?_
    have h1 := h q hb
    have h2 := h' q e.symm
    omega

theorem toIntS_sl (zs : List Int) (A : Option Addr) (n c : Nat) (w : World) (hn : zs.length = n) (hm : n ≤ 1099511627776) (hr : RowAt w A (zs.map intV)) :
    Calls Try.prog 28 #[.slice A n c] w fun e w' => ∃ A' c', e = .returned (.slice A' n c') ∧ w'.ownsRow w.heap.size 3 1 (.slice A' n c') n (zs.map intV) ∧ Below w.heap.size w w' :=
  (toIntS_any zs A n c w hn hm hr).mono fun e w' ⟨v, e1, o, b⟩ => by
    obtain ⟨A', c', rfl, _, _⟩ := own_form o
    exact ⟨A', c', e1, o, b⟩
theorem eqIntS_sl (zs : List Int) (A B : Option Addr) (n ca cb : Nat) (w : World) (hn : zs.length = n) (hm : n ≤ maxLen) (ha : RowAt w A (zs.map intV)) (hb : RowAt w B (zs.map intV)) :
    Calls Try.prog 30 #[.slice A n ca, .slice B n cb] w fun e w' => e = .returned (.bool true) ∧ Below w.heap.size w w' :=
  (eqIntS_same zs A B n ca cb w hn hm ha hb).mono fun e w' ⟨h1, r, h2⟩ => ⟨h1, by rw [h2]; exact below_drewN (Below.refl _ _) r⟩

theorem times_con {r : List Int × Bool} {w : World} {f : FuncId} {args : Array Value} {zs : List Int} {ok : Bool} {q : Nat} (h1 : zs = r.1) (h0 : ok = r.2) (h2 : q = zs.length) (h : Calls Try.prog f args w fun e w' => ∃ B m cb, e = .returned (.tuple #[.slice B m cb, .bool r.2]) ∧ m = r.1.length ∧ w'.ownsRow w.heap.size 3 1 (.slice B m cb) m (r.1.map intV) ∧ Below w.heap.size w w') :
    Calls Try.prog f args w fun e w' => ∃ B cb, e = .returned (.tuple #[.slice B q cb, .bool ok]) ∧ w'.ownsRow w.heap.size 3 1 (.slice B q cb) q (zs.map intV) ∧ Below w.heap.size w w' :=
  h.mono fun e w' ⟨A, k, c, e1, e2, e3, e4⟩ => by
    subst h1 h2 h0 e2
    exact ⟨A, c, e1, e3, e4⟩

set_option maxRecDepth 100000 in
set_option maxHeartbeats 16000000 in
theorem FnExactCompleteTimes_walk (n : Int) (es : List GL) (A : Option Addr) (k c : Nat) (ts : List Int) (T : Option Addr) (m d : Nat) (w : World) (wn : (Lit.int .i64 n).wf = true) (hn : es.length = k) (hm : k ≤ maxLen) (hw : ∀ e ∈ es, e.wf) (hr : LinkAt w A es) (hzl : ts.length = m) (hzm : m ≤ maxLen) (hzw : ∀ y ∈ ts, (Lit.int .i64 y).wf = true) (hz : RowAt w T (ts.map intV)) :
    Calls Try.prog 9 #[grV n A k c, .slice T m d] w fun e w' => e = .returned (.bool true) ∧ Below w.heap.size w w' := by
  have HZ := Lib.hid (szSimple_any n A k c · hm)
  have HR := Lib.hid hr
  have HL := Lib.hid hn
  have HT := Lib.hid hz
  have HM := Lib.hid hzl
  have hzm2 := hzm
  unfold maxLen at hzm2
  clear hr hn hz hzl hzm
  by_cases hlong : m ≤ 1048576
  · have hl1 : ¬ ((1048576 : Int) < m) := by omega
    by_cases h : k ≤ 1048576
    · rw [if_pos h] at HZ
      have hlt : ¬ ((1048576 : Int) - k < 0) := by omega
      have HTO := Lib.hid (fun W h' => toSimple_any n es A k c W HL.out h h')
      have HTI := Lib.hid (fun W h' => toIntS_sl ts T m d W HM.out (by omega) h')
      have HEG := Lib.hid (fun A1 A2 c1 c2 W h1 h2 => eqSimple_same n es A1 A2 k c1 c2 W HL.out hm h1 h2)
      have HEZ := Lib.hid (fun A1 A2 c1 c2 W h1 h2 => eqIntS_sl ts A1 A2 m c1 c2 W HM.out (by unfold maxLen; omega) h1 h2)
      obtain ⟨zs, hzs⟩ : ∃ t, t = (cpR n es ts).1 := ⟨_, rfl⟩
      obtain ⟨ok, hok⟩ : ∃ t, t = (cpR n es ts).2 := ⟨_, rfl⟩
      obtain ⟨q, hq⟩ : ∃ t, t = zs.length := ⟨_, rfl⟩
      have hq8 : q ≤ 8 := by rw [hq, hzs]; exact cpR_len n es ts
      have HSP := Lib.hid (fun A' c' T' d' W h' h2 => times_con hzs hok hq (spec_CompleteTimes n es A' k c' ts T' m d' W HL.out h HM.out h' h2))
      have HIM := Lib.hid (fun A' c' T' d' W h' h2 => times_con hzs hok hq (impl_CompleteTimes n es A' k c' ts T' m d' W HL.out h HM.out hlong h' h2))
      have HEE := Lib.hid (fun D E c1 c2 W h1 h2 => eqIntS_sl zs D E q c1 c2 W hq.symm (by unfold maxLen; omega) h1 h2)
      have hoo : (ok != ok) = false := by simp
      clear hzs hok hq
      have t1 : ¬ ((1 : Int) + 4 * (k : Int) < 0) := by omega
      have t4 : ¬ ((1 : Int) + 4 * (k : Int) + (m : Int) < 0) := by omega
      have t2 : ¬ ((1 : Int) + (q : Int) < 0) := by omega
      have t3 : (((1 : Int) + (q : Int)) != (1 : Int) + (q : Int)) = false := by simp
      unfold grV at HZ HSP HIM HTO HEG ⊢
      go_enter Try.func9, Try.ntmps9
      go_wp2_with fail
      refine (HZ.out _).mono ?_
      rintro e w1 ⟨rfl, b1⟩
      have c0_w1 : w1.cell? ⟨w.heap.size, 0, none⟩ = some (.int .i64 n) := (b1.cell (p := ⟨w.heap.size, 0, none⟩) (by first | omega | (simp; done) | (simp; omega))).trans (by first | assumption | go_simp)
      have c1_w1 : w1.cell? ⟨w.heap.size, 1, none⟩ = some (.slice A k c) := (b1.cell (p := ⟨w.heap.size, 1, none⟩) (by first | omega | (simp; done) | (simp; omega))).trans (by first | assumption | go_simp)
      have s0_w1 : w.heap.size < w1.heap.size := Nat.lt_of_lt_of_le (by first | omega | (simp; done) | (simp; omega)) b1.size
      have B_w1 : Below w.heap.size w w1 := (by repeat (first | exact Below.refl _ _ | refine below_step (by assumption) (by first | omega | (simp; done) | (simp; omega)) ?_ | refine below_drewN ?_ _ | refine Below.drew ?_ | refine Below.setCell ?_ (by first | omega | (simp; done) | (simp; omega)) _ | refine Below.alloc ?_ (by first | omega | (simp; done) | (simp; omega)) _))
      clear b1
      go_wp2_with fail
      refine (HTO.out _ (HR.out.below B_w1)).mono ?_
      rintro e ua ⟨A2, A2c, rfl, h2, b2⟩
      have HEua := Lib.hid (own_link h2)
      clear h2
      have c0_ua : ua.cell? ⟨w.heap.size, 0, none⟩ = some (.int .i64 n) := (b2.cell (p := ⟨w.heap.size, 0, none⟩) (by dsimp only; omega)).trans c0_w1
      have c1_ua : ua.cell? ⟨w.heap.size, 1, none⟩ = some (.slice A k c) := (b2.cell (p := ⟨w.heap.size, 1, none⟩) (by dsimp only; omega)).trans c1_w1
      have s0_ua : w.heap.size < ua.heap.size := Nat.lt_of_lt_of_le s0_w1 b2.size
      have B_ua : Below w.heap.size w ua := B_w1.trans (b2.mono B_w1.size)
      clear c0_w1 c1_w1 s0_w1  b2
      go_wp2_with fail
      refine (HTI.out _ (HT.out.below B_ua)).mono ?_
      rintro e ub ⟨T3, T3c, rfl, h3, b3⟩
      have HEub := Lib.hid (HEua.out.below b3)
      have HIub := Lib.hid (own_row h3)
      clear h3 HEua
      have c0_ub : ub.cell? ⟨w.heap.size, 0, none⟩ = some (.int .i64 n) := (b3.cell (p := ⟨w.heap.size, 0, none⟩) (by dsimp only; omega)).trans c0_ua
      have c1_ub : ub.cell? ⟨w.heap.size, 1, none⟩ = some (.slice A k c) := (b3.cell (p := ⟨w.heap.size, 1, none⟩) (by dsimp only; omega)).trans c1_ua
      have s0_ub : w.heap.size < ub.heap.size := Nat.lt_of_lt_of_le s0_ua b3.size
      have B_ub : Below w.heap.size w ub := B_ua.trans (b3.mono B_ua.size)
      clear c0_ua c1_ua s0_ua  b3
      go_wp2_with fail
      refine (HSP.out A2 A2c T3 T3c _ HEub.out HIub.out).mono ?_
      rintro e uc ⟨D3, d3, rfl, h3, b3⟩
      have lt3 := h3.lt
      have s03 := s0_ub
      have g3 := Lib.hid h3
      clear h3 HEub HIub
      have c0_uc : uc.cell? ⟨w.heap.size, 0, none⟩ = some (.int .i64 n) := (b3.cell (p := ⟨w.heap.size, 0, none⟩) (by dsimp only; omega)).trans c0_ub
      have c1_uc : uc.cell? ⟨w.heap.size, 1, none⟩ = some (.slice A k c) := (b3.cell (p := ⟨w.heap.size, 1, none⟩) (by dsimp only; omega)).trans c1_ub
      have s0_uc : w.heap.size < uc.heap.size := Nat.lt_of_lt_of_le s0_ub b3.size
      have B_uc : Below w.heap.size w uc := B_ub.trans (b3.mono B_ub.size)
      clear c0_ub c1_ub s0_ub  b3
      have oD_uc := g3
      clear g3
      obtain ⟨e1, he1⟩ : ∃ e, e = uc.heap.size := ⟨_, rfl⟩
      have ltD : ∀ p, (Value.slice D3 q d3).ownBlock = some p → w.heap.size < p ∧ p < e1 := fun p hp => by have := lt3 p hp; omega
      have e1s : w.heap.size < e1 := by rw [he1]; exact s0_uc
      clear lt3 s03
      go_wp2_with fail
      refine (HTO.out _ (HR.out.below B_uc)).mono ?_
      rintro e ue ⟨A4, c4, rfl, h4, b4⟩
      have lt4 := h4.lt
      have lx4 : ∀ p, (Value.slice A4 k c4).ownBlock = some p → e1 - 1 < p ∧ p < ue.heap.size := fun p hp => by have := lt4 p hp; omega
      have e1a : e1 ≤ ue.heap.size := by have := b4.size; omega
      have g4 := Lib.hid h4
      clear h4 lt4 he1
      have c0_ue : ue.cell? ⟨w.heap.size, 0, none⟩ = some (.int .i64 n) := (b4.cell (p := ⟨w.heap.size, 0, none⟩) (by dsimp only; omega)).trans c0_uc
      have c1_ue : ue.cell? ⟨w.heap.size, 1, none⟩ = some (.slice A k c) := (b4.cell (p := ⟨w.heap.size, 1, none⟩) (by dsimp only; omega)).trans c1_uc
      have s0_ue : w.heap.size < ue.heap.size := Nat.lt_of_lt_of_le s0_uc b4.size
      have B_ue : Below w.heap.size w ue := B_uc.trans (b4.mono B_uc.size)
      have oD_ue := Lib.hid (own_below oD_uc.out b4)
      clear c0_uc c1_uc s0_uc oD_uc b4
      have oX_ue := g4
      clear g4
      obtain ⟨bX, hbX⟩ : ∃ b, b = ue.heap.size := ⟨_, rfl⟩
      obtain ⟨uf, huf⟩ : ∃ W, W = ue.alloc (.cells #[.int .i64 n, .slice A4 k c4] 25) := ⟨_, rfl⟩
      have ba : Below ue.heap.size ue uf := by rw [huf]; exact (Below.refl _ _).alloc (Nat.le_refl _) _
      have u_bX_0 : w.heap.size < bX := by omega
      have z_uf : uf.heap.size = bX + 1 := by rw [huf, hbX]; simp
      have ltX : ∀ p, (Value.slice A4 k c4).ownBlock = some p → e1 - 1 < p ∧ p < bX := fun p hp => by have := lx4 p hp; omega
      have e1b : e1 ≤ bX := by omega
      clear lx4 e1a
      have c2_uf : uf.cell? ⟨bX, 0, none⟩ = some (.int .i64 n) := by rw [huf, hbX]; go_simp
      have c3_uf : uf.cell? ⟨bX, 1, none⟩ = some (.slice A4 k c4) := by rw [huf, hbX]; go_simp
      have s1_uf : bX < uf.heap.size := by omega
      go_upto_region 9 with (fail)
      rw [← huf]
      try rw [← hbX]
      have c0_uf : uf.cell? ⟨w.heap.size, 0, none⟩ = some (.int .i64 n) := (ba.cell (p := ⟨w.heap.size, 0, none⟩) (by dsimp only; omega)).trans c0_ue
      have c1_uf : uf.cell? ⟨w.heap.size, 1, none⟩ = some (.slice A k c) := (ba.cell (p := ⟨w.heap.size, 1, none⟩) (by dsimp only; omega)).trans c1_ue
      have s0_uf : w.heap.size < uf.heap.size := Nat.lt_of_lt_of_le s0_ue ba.size
      have B_uf : Below w.heap.size w uf := B_ue.trans (ba.mono B_ue.size)
      have oD_uf := Lib.hid (own_below oD_ue.out ba)
      have oX_uf := Lib.hid (own_below oX_ue.out ba)
      clear c0_ue c1_ue s0_ue oD_ue oX_ue ba
      clear hbX huf
      go_wp2_with fail
      refine (HTI.out _ (HT.out.below B_uf)).mono ?_
      rintro e ug ⟨T6, d6, rfl, h6, b6⟩
      have lt6 := h6.lt
      have z6 := z_uf
      obtain ⟨e2, he2⟩ : ∃ e, e = ug.heap.size := ⟨_, rfl⟩
      have ltT : ∀ p, (Value.slice T6 m d6).ownBlock = some p → bX < p ∧ p < e2 := fun p hp => by have := lt6 p hp; omega
      have e2s : bX < e2 := by have := b6.size; omega
      have g6 := Lib.hid h6
      clear h6 lt6 z6 z_uf
      have c0_ug : ug.cell? ⟨w.heap.size, 0, none⟩ = some (.int .i64 n) := (b6.cell (p := ⟨w.heap.size, 0, none⟩) (by dsimp only; omega)).trans c0_uf
      have c1_ug : ug.cell? ⟨w.heap.size, 1, none⟩ = some (.slice A k c) := (b6.cell (p := ⟨w.heap.size, 1, none⟩) (by dsimp only; omega)).trans c1_uf
      have c2_ug : ug.cell? ⟨bX, 0, none⟩ = some (.int .i64 n) := (b6.cell (p := ⟨bX, 0, none⟩) (by dsimp only; omega)).trans c2_uf
      have c3_ug : ug.cell? ⟨bX, 1, none⟩ = some (.slice A4 k c4) := (b6.cell (p := ⟨bX, 1, none⟩) (by dsimp only; omega)).trans c3_uf
      have s0_ug : w.heap.size < ug.heap.size := Nat.lt_of_lt_of_le s0_uf b6.size
      have s1_ug : bX < ug.heap.size := Nat.lt_of_lt_of_le s1_uf b6.size
      have B_ug : Below w.heap.size w ug := B_uf.trans (b6.mono B_uf.size)
      have oD_ug := Lib.hid (own_below oD_uf.out b6)
      have oX_ug := Lib.hid (own_below oX_uf.out b6)
      clear c0_uf c1_uf c2_uf c3_uf s0_uf s1_uf oD_uf oX_uf b6
      have oT_ug := g6
      clear g6
      go_wp2_with fail
      refine (HIM.out A4 c4 T6 d6 _ (own_link oX_ug.out) (own_row oT_ug.out)).mono ?_
      rintro e uh ⟨D5, d5, rfl, h5, b5⟩
      have lt5 := h5.lt
      have ly5 : ∀ p, (Value.slice D5 q d5).ownBlock = some p → e2 - 1 < p ∧ p < uh.heap.size := fun p hp => by have := lt5 p hp; omega
      have e2a : e2 ≤ uh.heap.size := by have := b5.size; omega
      have g5 := Lib.hid h5
      clear h5 lt5 he2
      have c0_uh : uh.cell? ⟨w.heap.size, 0, none⟩ = some (.int .i64 n) := (b5.cell (p := ⟨w.heap.size, 0, none⟩) (by dsimp only; omega)).trans c0_ug
      have c1_uh : uh.cell? ⟨w.heap.size, 1, none⟩ = some (.slice A k c) := (b5.cell (p := ⟨w.heap.size, 1, none⟩) (by dsimp only; omega)).trans c1_ug
      have c2_uh : uh.cell? ⟨bX, 0, none⟩ = some (.int .i64 n) := (b5.cell (p := ⟨bX, 0, none⟩) (by dsimp only; omega)).trans c2_ug
      have c3_uh : uh.cell? ⟨bX, 1, none⟩ = some (.slice A4 k c4) := (b5.cell (p := ⟨bX, 1, none⟩) (by dsimp only; omega)).trans c3_ug
      have s0_uh : w.heap.size < uh.heap.size := Nat.lt_of_lt_of_le s0_ug b5.size
      have s1_uh : bX < uh.heap.size := Nat.lt_of_lt_of_le s1_ug b5.size
      have B_uh : Below w.heap.size w uh := B_ug.trans (b5.mono B_ug.size)
      have oD_uh := Lib.hid (own_below oD_ug.out b5)
      have oX_uh := Lib.hid (own_below oX_ug.out b5)
      have oT_uh := Lib.hid (own_below oT_ug.out b5)
      clear c0_ug c1_ug c2_ug c3_ug s0_ug s1_ug oD_ug oX_ug oT_ug b5
      have oY_uh := g5
      clear g5
      obtain ⟨e3, he3⟩ : ∃ e, e = uh.heap.size := ⟨_, rfl⟩
      have ltY : ∀ p, (Value.slice D5 q d5).ownBlock = some p → e2 - 1 < p ∧ p < e3 := fun p hp => by have := ly5 p hp; omega
      clear ly5 e2a he3
      go_wp2_with fail
      refine (HEE.out D5 D3 d5 d3 _ (own_row oY_uh.out) (own_row oD_uh.out)).mono ?_
      rintro e uj ⟨rfl, b7⟩
      have c0_uj : uj.cell? ⟨w.heap.size, 0, none⟩ = some (.int .i64 n) := (b7.cell (p := ⟨w.heap.size, 0, none⟩) (by dsimp only; omega)).trans c0_uh
      have c1_uj : uj.cell? ⟨w.heap.size, 1, none⟩ = some (.slice A k c) := (b7.cell (p := ⟨w.heap.size, 1, none⟩) (by dsimp only; omega)).trans c1_uh
      have c2_uj : uj.cell? ⟨bX, 0, none⟩ = some (.int .i64 n) := (b7.cell (p := ⟨bX, 0, none⟩) (by dsimp only; omega)).trans c2_uh
      have c3_uj : uj.cell? ⟨bX, 1, none⟩ = some (.slice A4 k c4) := (b7.cell (p := ⟨bX, 1, none⟩) (by dsimp only; omega)).trans c3_uh
      have s0_uj : w.heap.size < uj.heap.size := Nat.lt_of_lt_of_le s0_uh b7.size
      have s1_uj : bX < uj.heap.size := Nat.lt_of_lt_of_le s1_uh b7.size
      have B_uj : Below w.heap.size w uj := B_uh.trans (b7.mono B_uh.size)
      have oD_uj := Lib.hid (own_below oD_uh.out b7)
      have oX_uj := Lib.hid (own_below oX_uh.out b7)
      have oT_uj := Lib.hid (own_below oT_uh.out b7)
      have oY_uj := Lib.hid (own_below oY_uh.out b7)
      clear c0_uh c1_uh c2_uh c3_uh s0_uh s1_uh oD_uh oX_uh oT_uh oY_uh b7
      go_wp2_with fail
      go_region_held3 (fun W => W.cell? ⟨w.heap.size, 0, none⟩ = some (.int .i64 n) ∧ W.cell? ⟨w.heap.size, 1, none⟩ = some (.slice A k c) ∧ W.cell? ⟨bX, 0, none⟩ = some (.int .i64 n) ∧ W.cell? ⟨bX, 1, none⟩ = some (.slice A4 k c4)) (first | go_keep | (dsimp only; refine ⟨?_, ?_, ?_, ?_⟩ <;> first | assumption | go_keep | go_simp)) (first | (go_at_call 27; refine (HTO.out _ (HR.out.below (by repeat (first | exact Below.refl _ _ | refine below_step (by assumption) (by first | omega | (simp; done) | (simp; omega)) ?_ | refine below_drewN ?_ _ | refine Below.drew ?_ | refine Below.setCell ?_ (by first | omega | (simp; done) | (simp; omega)) _ | refine Below.alloc ?_ (by first | omega | (simp; done) | (simp; omega)) _)))).mono ?_; rintro e w7 ⟨A7, c7, rfl, h7, b7b⟩; have c0_w7 : w7.cell? ⟨w.heap.size, 0, none⟩ = some (.int .i64 n) := (b7b.cell (p := ⟨w.heap.size, 0, none⟩) (by first | omega | (simp; done) | (simp; omega))).trans (by first | assumption | go_simp); have c1_w7 : w7.cell? ⟨w.heap.size, 1, none⟩ = some (.slice A k c) := (b7b.cell (p := ⟨w.heap.size, 1, none⟩) (by first | omega | (simp; done) | (simp; omega))).trans (by first | assumption | go_simp); have c2_w7 : w7.cell? ⟨bX, 0, none⟩ = some (.int .i64 n) := (b7b.cell (p := ⟨bX, 0, none⟩) (by first | omega | (simp; done) | (simp; omega))).trans (by first | assumption | go_simp); have c3_w7 : w7.cell? ⟨bX, 1, none⟩ = some (.slice A4 k c4) := (b7b.cell (p := ⟨bX, 1, none⟩) (by first | omega | (simp; done) | (simp; omega))).trans (by first | assumption | go_simp); have s0_w7 : w.heap.size < w7.heap.size := Nat.lt_of_lt_of_le (by first | omega | (simp; done) | (simp; omega)) b7b.size; have s1_w7 : bX < w7.heap.size := Nat.lt_of_lt_of_le (by first | omega | (simp; done) | (simp; omega)) b7b.size; have q7 : uj.heap.size ≤ w7.heap.size := b7b.size; have E7 : LinkAt w7 A7 es := own_link h7; have F7 : LinkAt w7 A4 es := LinkAt.below (w := _) (by exact LinkAt.of_heap (own_link oX_uj.out) rfl) b7b) | (go_at_call 29; refine (HEG.out A4 A7 c4 c7 _ (by exact F7.of_heap rfl) (by exact E7.of_heap rfl)).mono ?_; rintro e w8 ⟨rfl, b8b⟩; have c0_w8 : w8.cell? ⟨w.heap.size, 0, none⟩ = some (.int .i64 n) := (b8b.cell (p := ⟨w.heap.size, 0, none⟩) (by first | omega | (simp; done) | (simp; omega))).trans (by first | assumption | go_simp); have c1_w8 : w8.cell? ⟨w.heap.size, 1, none⟩ = some (.slice A k c) := (b8b.cell (p := ⟨w.heap.size, 1, none⟩) (by first | omega | (simp; done) | (simp; omega))).trans (by first | assumption | go_simp); have c2_w8 : w8.cell? ⟨bX, 0, none⟩ = some (.int .i64 n) := (b8b.cell (p := ⟨bX, 0, none⟩) (by first | omega | (simp; done) | (simp; omega))).trans (by first | assumption | go_simp); have c3_w8 : w8.cell? ⟨bX, 1, none⟩ = some (.slice A4 k c4) := (b8b.cell (p := ⟨bX, 1, none⟩) (by first | omega | (simp; done) | (simp; omega))).trans (by first | assumption | go_simp); have s0_w8 : w.heap.size < w8.heap.size := Nat.lt_of_lt_of_le (by first | omega | (simp; done) | (simp; omega)) b8b.size; have s1_w8 : bX < w8.heap.size := Nat.lt_of_lt_of_le (by first | omega | (simp; done) | (simp; omega)) b8b.size))
      all_goals
        have U8 : Below uj.heap.size uj w8 := (by repeat (first | exact Below.refl _ _ | refine below_step (by assumption) (by first | omega | (simp; done) | (simp; omega)) ?_ | refine below_drewN ?_ _ | refine Below.drew ?_ | refine Below.setCell ?_ (by first | omega | (simp; done) | (simp; omega)) _ | refine Below.alloc ?_ (by first | omega | (simp; done) | (simp; omega)) _))
        have oD_w8 := Lib.hid (own_below oD_uj.out U8)
        have oX_w8 := Lib.hid (own_below oX_uj.out U8)
        have oT_w8 := Lib.hid (own_below oT_uj.out U8)
        have oY_w8 := Lib.hid (own_below oY_uj.out U8)
        have B_w8 : Below w.heap.size w w8 := B_uj.trans (U8.mono B_uj.size)
        clear b7b b8b h7 E7 F7 U8 oD_uj oX_uj oT_uj oY_uj c0_uj c1_uj c2_uj c3_uj s0_uj s1_uj c0_w7 c1_w7 c2_w7 c3_w7 s0_w7 s1_w7
        go_wp2_with fail
        refine (HTI.out _ (HT.out.below B_w8)).mono ?_
        rintro e uk ⟨T9, d9, rfl, h9, b9⟩
        have HI9 := Lib.hid (own_row h9)
        clear h9
        have c0_uk : uk.cell? ⟨w.heap.size, 0, none⟩ = some (.int .i64 n) := (b9.cell (p := ⟨w.heap.size, 0, none⟩) (by dsimp only; omega)).trans c0_w8
        have c1_uk : uk.cell? ⟨w.heap.size, 1, none⟩ = some (.slice A k c) := (b9.cell (p := ⟨w.heap.size, 1, none⟩) (by dsimp only; omega)).trans c1_w8
        have c2_uk : uk.cell? ⟨bX, 0, none⟩ = some (.int .i64 n) := (b9.cell (p := ⟨bX, 0, none⟩) (by dsimp only; omega)).trans c2_w8
        have c3_uk : uk.cell? ⟨bX, 1, none⟩ = some (.slice A4 k c4) := (b9.cell (p := ⟨bX, 1, none⟩) (by dsimp only; omega)).trans c3_w8
        have s0_uk : w.heap.size < uk.heap.size := Nat.lt_of_lt_of_le s0_w8 b9.size
        have s1_uk : bX < uk.heap.size := Nat.lt_of_lt_of_le s1_w8 b9.size
        have B_uk : Below w.heap.size w uk := B_w8.trans (b9.mono B_w8.size)
        have oD_uk := Lib.hid (own_below oD_w8.out b9)
        have oX_uk := Lib.hid (own_below oX_w8.out b9)
        have oT_uk := Lib.hid (own_below oT_w8.out b9)
        have oY_uk := Lib.hid (own_below oY_w8.out b9)
        clear c0_w8 c1_w8 c2_w8 c3_w8 s0_w8 s1_w8 oD_w8 oX_w8 oT_w8 oY_w8 b9
        go_wp2_with fail
        refine (HEZ.out T6 T9 d6 d9 _ (own_row oT_uk.out) HI9.out).mono ?_
        rintro e ul ⟨rfl, b10⟩
        clear HI9
        have c0_ul : ul.cell? ⟨w.heap.size, 0, none⟩ = some (.int .i64 n) := (b10.cell (p := ⟨w.heap.size, 0, none⟩) (by dsimp only; omega)).trans c0_uk
        have c1_ul : ul.cell? ⟨w.heap.size, 1, none⟩ = some (.slice A k c) := (b10.cell (p := ⟨w.heap.size, 1, none⟩) (by dsimp only; omega)).trans c1_uk
        have c2_ul : ul.cell? ⟨bX, 0, none⟩ = some (.int .i64 n) := (b10.cell (p := ⟨bX, 0, none⟩) (by dsimp only; omega)).trans c2_uk
        have c3_ul : ul.cell? ⟨bX, 1, none⟩ = some (.slice A4 k c4) := (b10.cell (p := ⟨bX, 1, none⟩) (by dsimp only; omega)).trans c3_uk
        have s0_ul : w.heap.size < ul.heap.size := Nat.lt_of_lt_of_le s0_uk b10.size
        have s1_ul : bX < ul.heap.size := Nat.lt_of_lt_of_le s1_uk b10.size
        have B_ul : Below w.heap.size w ul := B_uk.trans (b10.mono B_uk.size)
        have oD_ul := Lib.hid (own_below oD_uk.out b10)
        have oX_ul := Lib.hid (own_below oX_uk.out b10)
        have oT_ul := Lib.hid (own_below oT_uk.out b10)
        have oY_ul := Lib.hid (own_below oY_uk.out b10)
        clear c0_uk c1_uk c2_uk c3_uk s0_uk s1_uk oD_uk oX_uk oT_uk oY_uk b10
        have hmk := markSimple_any n A4 k c4 _ 1 (cellsL es) ul (by omega) (own_to oX_ul.out ltX)
        rw [show ((1 : Nat) : Int) = 1 from rfl] at hmk
        unfold grV at hmk
        have HMK := Lib.hid hmk
        clear hmk
        go_wp2_with fail
        refine (HMK.out).mono ?_
        rintro e um ⟨rfl, _, hg9⟩
        have bm : Below ul.heap.size ul (ul.alloc (.cells #[.int .i64 n, .slice A4 k c4] 25)) := (Below.refl _ _).alloc (Nat.le_refl _) _
        have c0_um := grown_cell hg9 (b := w.heap.size) (o := 0) (v := .int .i64 n) ((bm.cell (p := ⟨w.heap.size, 0, none⟩) (by dsimp only; omega)).trans c0_ul) (fun h => by have := ltX _ h; omega)
        have c1_um := grown_cell hg9 (b := w.heap.size) (o := 1) (v := .slice A k c) ((bm.cell (p := ⟨w.heap.size, 1, none⟩) (by dsimp only; omega)).trans c1_ul) (fun h => by have := ltX _ h; omega)
        have c2_um := grown_cell hg9 (b := bX) (o := 0) (v := .int .i64 n) ((bm.cell (p := ⟨bX, 0, none⟩) (by dsimp only; omega)).trans c2_ul) (fun h => by have := ltX _ h; omega)
        have c3_um := grown_cell hg9 (b := bX) (o := 1) (v := .slice A4 k c4) ((bm.cell (p := ⟨bX, 1, none⟩) (by dsimp only; omega)).trans c3_ul) (fun h => by have := ltX _ h; omega)
        have s0_um : w.heap.size < um.heap.size := Nat.lt_of_lt_of_le s0_ul (Nat.le_trans bm.size hg9.size)
        have s1_um : bX < um.heap.size := Nat.lt_of_lt_of_le s1_ul (Nat.le_trans bm.size hg9.size)
        have B_um : Below w.heap.size w um := (B_ul.trans (bm.mono B_ul.size)).grown hg9 (Nat.le_trans B_ul.size bm.size) (fun q hq => by have := ltX q hq; omega)
        have oD_um := Lib.hid ((own_below oD_ul.out bm).kept hg9 (own_off ltD ltX))
        have oT_um := Lib.hid ((own_below oT_ul.out bm).kept hg9 (own_off ltT ltX))
        have oY_um := Lib.hid ((own_below oY_ul.out bm).kept hg9 (own_off ltY ltX))
        clear bm hg9 HMK oX_ul
        clear c0_ul c1_ul c2_ul c3_ul s0_ul s1_ul oD_ul oT_ul oY_ul 
        have hmk := markIntS_any T6 m d6 _ (1 + 4 * k) (ts.map intV) um (by omega) (by omega) (own_to oT_um.out ltT)
        rw [show ((1 + 4 * k : Nat) : Int) = 1 + 4 * (k : Int) from by omega] at hmk
        have HMK := Lib.hid hmk
        clear hmk
        go_wp2_with fail
        refine (HMK.out).mono ?_
        rintro e un ⟨rfl, _, hg10⟩
        have bm : Below um.heap.size um um := Below.refl _ _
        have c0_un := grown_cell hg10 (b := w.heap.size) (o := 0) (v := .int .i64 n) ((bm.cell (p := ⟨w.heap.size, 0, none⟩) (by dsimp only; omega)).trans c0_um) (fun h => by have := ltT _ h; omega)
        have c1_un := grown_cell hg10 (b := w.heap.size) (o := 1) (v := .slice A k c) ((bm.cell (p := ⟨w.heap.size, 1, none⟩) (by dsimp only; omega)).trans c1_um) (fun h => by have := ltT _ h; omega)
        have c2_un := grown_cell hg10 (b := bX) (o := 0) (v := .int .i64 n) ((bm.cell (p := ⟨bX, 0, none⟩) (by dsimp only; omega)).trans c2_um) (fun h => by have := ltT _ h; omega)
        have c3_un := grown_cell hg10 (b := bX) (o := 1) (v := .slice A4 k c4) ((bm.cell (p := ⟨bX, 1, none⟩) (by dsimp only; omega)).trans c3_um) (fun h => by have := ltT _ h; omega)
        have s0_un : w.heap.size < un.heap.size := Nat.lt_of_lt_of_le s0_um (Nat.le_trans bm.size hg10.size)
        have s1_un : bX < un.heap.size := Nat.lt_of_lt_of_le s1_um (Nat.le_trans bm.size hg10.size)
        have B_un : Below w.heap.size w un := (B_um.trans (bm.mono B_um.size)).grown hg10 (Nat.le_trans B_um.size bm.size) (fun q hq => by have := ltT q hq; omega)
        have oD_un := Lib.hid ((own_below oD_um.out bm).kept hg10 (own_off ltD ltT))
        have oY_un := Lib.hid ((own_below oY_um.out bm).kept hg10 (own_off ltY ltT))
        clear bm hg10 HMK oT_um
        clear c0_um c1_um c2_um c3_um s0_um s1_um oD_um oY_um 
        go_wp2_with fail
        refine (HEE.out D5 D3 d5 d3 _ (own_row oY_un.out) (own_row oD_un.out)).mono ?_
        rintro e uo ⟨rfl, b11⟩
        have c0_uo : uo.cell? ⟨w.heap.size, 0, none⟩ = some (.int .i64 n) := (b11.cell (p := ⟨w.heap.size, 0, none⟩) (by dsimp only; omega)).trans c0_un
        have c1_uo : uo.cell? ⟨w.heap.size, 1, none⟩ = some (.slice A k c) := (b11.cell (p := ⟨w.heap.size, 1, none⟩) (by dsimp only; omega)).trans c1_un
        have c2_uo : uo.cell? ⟨bX, 0, none⟩ = some (.int .i64 n) := (b11.cell (p := ⟨bX, 0, none⟩) (by dsimp only; omega)).trans c2_un
        have c3_uo : uo.cell? ⟨bX, 1, none⟩ = some (.slice A4 k c4) := (b11.cell (p := ⟨bX, 1, none⟩) (by dsimp only; omega)).trans c3_un
        have s0_uo : w.heap.size < uo.heap.size := Nat.lt_of_lt_of_le s0_un b11.size
        have s1_uo : bX < uo.heap.size := Nat.lt_of_lt_of_le s1_un b11.size
        have B_uo : Below w.heap.size w uo := B_un.trans (b11.mono B_un.size)
        have oD_uo := Lib.hid (own_below oD_un.out b11)
        have oY_uo := Lib.hid (own_below oY_un.out b11)
        clear c0_un c1_un c2_un c3_un s0_un s1_un oD_un oY_un b11
        have hmk := markIntS_any D5 q d5 _ 1 (zs.map intV) uo (by omega) (by omega) (own_to oY_uo.out ltY)
        rw [show ((1 : Nat) : Int) = 1 from rfl] at hmk
        have HMK := Lib.hid hmk
        clear hmk
        go_wp2_with fail
        refine (HMK.out).mono ?_
        rintro e up ⟨rfl, oY, hg11⟩
        have bm : Below uo.heap.size uo uo := Below.refl _ _
        have c0_up := grown_cell hg11 (b := w.heap.size) (o := 0) (v := .int .i64 n) ((bm.cell (p := ⟨w.heap.size, 0, none⟩) (by dsimp only; omega)).trans c0_uo) (fun h => by have := ltY _ h; omega)
        have c1_up := grown_cell hg11 (b := w.heap.size) (o := 1) (v := .slice A k c) ((bm.cell (p := ⟨w.heap.size, 1, none⟩) (by dsimp only; omega)).trans c1_uo) (fun h => by have := ltY _ h; omega)
        have c2_up := grown_cell hg11 (b := bX) (o := 0) (v := .int .i64 n) ((bm.cell (p := ⟨bX, 0, none⟩) (by dsimp only; omega)).trans c2_uo) (fun h => by have := ltY _ h; omega)
        have c3_up := grown_cell hg11 (b := bX) (o := 1) (v := .slice A4 k c4) ((bm.cell (p := ⟨bX, 1, none⟩) (by dsimp only; omega)).trans c3_uo) (fun h => by have := ltY _ h; omega)
        have s0_up : w.heap.size < up.heap.size := Nat.lt_of_lt_of_le s0_uo (Nat.le_trans bm.size hg11.size)
        have s1_up : bX < up.heap.size := Nat.lt_of_lt_of_le s1_uo (Nat.le_trans bm.size hg11.size)
        have B_up : Below w.heap.size w up := (B_uo.trans (bm.mono B_uo.size)).grown hg11 (Nat.le_trans B_uo.size bm.size) (fun q hq => by have := ltY q hq; omega)
        have oD_up := Lib.hid ((own_below oD_uo.out bm).kept hg11 (own_off ltD ltY))
        have oY_up := Lib.hid oY
        clear bm hg11 HMK oY
        clear c0_uo c1_uo c2_uo c3_uo s0_uo s1_uo oD_uo oY_uo 
        have hhd := fun (W : World) h => heldIntS_any D5 q d5 1 W (by omega) (by omega) h
        rw [show ((1 : Nat) : Int) = 1 from rfl] at hhd
        have HHD := Lib.hid hhd
        clear hhd
        go_wp2_with fail
        refine (HHD.out _ (own_row oY_up.out)).mono ?_
        rintro e uq ⟨rfl, hw12⟩
        have b12 : Below up.heap.size up uq := by rw [hw12]; exact Below.refl _ _
        clear hw12
        have c0_uq : uq.cell? ⟨w.heap.size, 0, none⟩ = some (.int .i64 n) := (b12.cell (p := ⟨w.heap.size, 0, none⟩) (by dsimp only; omega)).trans c0_up
        have c1_uq : uq.cell? ⟨w.heap.size, 1, none⟩ = some (.slice A k c) := (b12.cell (p := ⟨w.heap.size, 1, none⟩) (by dsimp only; omega)).trans c1_up
        have c2_uq : uq.cell? ⟨bX, 0, none⟩ = some (.int .i64 n) := (b12.cell (p := ⟨bX, 0, none⟩) (by dsimp only; omega)).trans c2_up
        have c3_uq : uq.cell? ⟨bX, 1, none⟩ = some (.slice A4 k c4) := (b12.cell (p := ⟨bX, 1, none⟩) (by dsimp only; omega)).trans c3_up
        have s0_uq : w.heap.size < uq.heap.size := Nat.lt_of_lt_of_le s0_up b12.size
        have s1_uq : bX < uq.heap.size := Nat.lt_of_lt_of_le s1_up b12.size
        have B_uq : Below w.heap.size w uq := B_up.trans (b12.mono B_up.size)
        have oD_uq := Lib.hid (own_below oD_up.out b12)
        have oY_uq := Lib.hid (own_below oY_up.out b12)
        clear c0_up c1_up c2_up c3_up s0_up s1_up oD_up oY_up b12
        go_wp2_with fail
        refine (HTO.out _ (HR.out.below B_uq)).mono ?_
        rintro e ur ⟨A13, A13c, rfl, h2, b2⟩
        have HEur := Lib.hid (own_link h2)
        clear h2
        have c0_ur : ur.cell? ⟨w.heap.size, 0, none⟩ = some (.int .i64 n) := (b2.cell (p := ⟨w.heap.size, 0, none⟩) (by dsimp only; omega)).trans c0_uq
        have c1_ur : ur.cell? ⟨w.heap.size, 1, none⟩ = some (.slice A k c) := (b2.cell (p := ⟨w.heap.size, 1, none⟩) (by dsimp only; omega)).trans c1_uq
        have c2_ur : ur.cell? ⟨bX, 0, none⟩ = some (.int .i64 n) := (b2.cell (p := ⟨bX, 0, none⟩) (by dsimp only; omega)).trans c2_uq
        have c3_ur : ur.cell? ⟨bX, 1, none⟩ = some (.slice A4 k c4) := (b2.cell (p := ⟨bX, 1, none⟩) (by dsimp only; omega)).trans c3_uq
        have s0_ur : w.heap.size < ur.heap.size := Nat.lt_of_lt_of_le s0_uq b2.size
        have s1_ur : bX < ur.heap.size := Nat.lt_of_lt_of_le s1_uq b2.size
        have B_ur : Below w.heap.size w ur := B_uq.trans (b2.mono B_uq.size)
        have oD_ur := Lib.hid (own_below oD_uq.out b2)
        have oY_ur := Lib.hid (own_below oY_uq.out b2)
        clear c0_uq c1_uq c2_uq c3_uq s0_uq s1_uq oD_uq oY_uq b2
        go_wp2_with fail
        refine (HTI.out _ (HT.out.below B_ur)).mono ?_
        rintro e us ⟨T13, T13c, rfl, h3, b3⟩
        have HEus := Lib.hid (HEur.out.below b3)
        have HIus := Lib.hid (own_row h3)
        clear h3 HEur
        have c0_us : us.cell? ⟨w.heap.size, 0, none⟩ = some (.int .i64 n) := (b3.cell (p := ⟨w.heap.size, 0, none⟩) (by dsimp only; omega)).trans c0_ur
        have c1_us : us.cell? ⟨w.heap.size, 1, none⟩ = some (.slice A k c) := (b3.cell (p := ⟨w.heap.size, 1, none⟩) (by dsimp only; omega)).trans c1_ur
        have c2_us : us.cell? ⟨bX, 0, none⟩ = some (.int .i64 n) := (b3.cell (p := ⟨bX, 0, none⟩) (by dsimp only; omega)).trans c2_ur
        have c3_us : us.cell? ⟨bX, 1, none⟩ = some (.slice A4 k c4) := (b3.cell (p := ⟨bX, 1, none⟩) (by dsimp only; omega)).trans c3_ur
        have s0_us : w.heap.size < us.heap.size := Nat.lt_of_lt_of_le s0_ur b3.size
        have s1_us : bX < us.heap.size := Nat.lt_of_lt_of_le s1_ur b3.size
        have B_us : Below w.heap.size w us := B_ur.trans (b3.mono B_ur.size)
        have oD_us := Lib.hid (own_below oD_ur.out b3)
        have oY_us := Lib.hid (own_below oY_ur.out b3)
        clear c0_ur c1_ur c2_ur c3_ur s0_ur s1_ur oD_ur oY_ur b3
        go_wp2_with fail
        refine (HIM.out A13 A13c T13 T13c _ HEus.out HIus.out).mono ?_
        rintro e ut ⟨D14, d14, rfl, h14, b14⟩
        have g14 := Lib.hid h14
        clear h14 HEus HIus
        have c0_ut : ut.cell? ⟨w.heap.size, 0, none⟩ = some (.int .i64 n) := (b14.cell (p := ⟨w.heap.size, 0, none⟩) (by dsimp only; omega)).trans c0_us
        have c1_ut : ut.cell? ⟨w.heap.size, 1, none⟩ = some (.slice A k c) := (b14.cell (p := ⟨w.heap.size, 1, none⟩) (by dsimp only; omega)).trans c1_us
        have c2_ut : ut.cell? ⟨bX, 0, none⟩ = some (.int .i64 n) := (b14.cell (p := ⟨bX, 0, none⟩) (by dsimp only; omega)).trans c2_us
        have c3_ut : ut.cell? ⟨bX, 1, none⟩ = some (.slice A4 k c4) := (b14.cell (p := ⟨bX, 1, none⟩) (by dsimp only; omega)).trans c3_us
        have s0_ut : w.heap.size < ut.heap.size := Nat.lt_of_lt_of_le s0_us b14.size
        have s1_ut : bX < ut.heap.size := Nat.lt_of_lt_of_le s1_us b14.size
        have B_ut : Below w.heap.size w ut := B_us.trans (b14.mono B_us.size)
        have oD_ut := Lib.hid (own_below oD_us.out b14)
        have oY_ut := Lib.hid (own_below oY_us.out b14)
        clear c0_us c1_us c2_us c3_us s0_us s1_us oD_us oY_us b14
        have oZ_ut := g14
        clear g14
        go_wp2_with fail
        refine (HEE.out D14 D3 d14 d3 _ (own_row oZ_ut.out) (own_row oD_ut.out)).mono ?_
        rintro e uv ⟨rfl, b15⟩
        have c0_uv : uv.cell? ⟨w.heap.size, 0, none⟩ = some (.int .i64 n) := (b15.cell (p := ⟨w.heap.size, 0, none⟩) (by dsimp only; omega)).trans c0_ut
        have c1_uv : uv.cell? ⟨w.heap.size, 1, none⟩ = some (.slice A k c) := (b15.cell (p := ⟨w.heap.size, 1, none⟩) (by dsimp only; omega)).trans c1_ut
        have c2_uv : uv.cell? ⟨bX, 0, none⟩ = some (.int .i64 n) := (b15.cell (p := ⟨bX, 0, none⟩) (by dsimp only; omega)).trans c2_ut
        have c3_uv : uv.cell? ⟨bX, 1, none⟩ = some (.slice A4 k c4) := (b15.cell (p := ⟨bX, 1, none⟩) (by dsimp only; omega)).trans c3_ut
        have s0_uv : w.heap.size < uv.heap.size := Nat.lt_of_lt_of_le s0_ut b15.size
        have s1_uv : bX < uv.heap.size := Nat.lt_of_lt_of_le s1_ut b15.size
        have B_uv : Below w.heap.size w uv := B_ut.trans (b15.mono B_ut.size)
        have oD_uv := Lib.hid (own_below oD_ut.out b15)
        have oY_uv := Lib.hid (own_below oY_ut.out b15)
        have oZ_uv := Lib.hid (own_below oZ_ut.out b15)
        clear c0_ut c1_ut c2_ut c3_ut s0_ut s1_ut oD_ut oY_ut oZ_ut b15
        go_wp2_with fail
        refine (HHD.out _ (own_row oY_uv.out)).mono ?_
        rintro e uw ⟨rfl, hw16⟩
        have B_uw : Below w.heap.size w uw := by rw [hw16]; exact B_uv
        clear hw16
        go_wp2_with fail
        go_ret
        exact ⟨rfl, B_uw⟩
    · rw [if_neg h] at HZ
      go_enter Try.func9, Try.ntmps9
      unfold grV at HZ
      unfold grV
      go_wp2_with fail
      refine (HZ.out _).mono ?_
      rintro e w1 ⟨rfl, b1⟩
      go_wp2_with fail
      go_ret
      exact ⟨rfl, (by repeat (first | exact Below.refl _ _ | refine below_step (by assumption) (by first | omega | (simp; done) | (simp; omega)) ?_ | refine below_drewN ?_ _ | refine Below.drew ?_ | refine Below.setCell ?_ (by first | omega | (simp; done) | (simp; omega)) _ | refine Below.alloc ?_ (by first | omega | (simp; done) | (simp; omega)) _))⟩
  · have hl1 : ((1048576 : Int) < m) := by omega
    go_enter Try.func9, Try.ntmps9
    unfold grV
    go_wp2_with fail
    go_ret
    exact ⟨rfl, (by repeat (first | exact Below.refl _ _ | refine below_step (by assumption) (by first | omega | (simp; done) | (simp; omega)) ?_ | refine below_drewN ?_ _ | refine Below.drew ?_ | refine Below.setCell ?_ (by first | omega | (simp; done) | (simp; omega)) _ | refine Below.alloc ?_ (by first | omega | (simp; done) | (simp; omega)) _))⟩

/-! ### FnExactCompleteTimes: the row -/

set_option maxRecDepth 100000 in
theorem FnExactCompleteTimes_lifted (os : Os) (started : os.Started) (H : Type) (enc : TypeId × Value → H) :
    ReturnsInHanded {} Try.checked os 9 .any (Rows.fnExactCompleteTimesSpec.pre6 enc Try.prog Try.f9 Rows.fnExactCompleteTimesRow.domain false) (Rows.fnExactCompleteTimesSpec.post enc Try.prog Try.f9 false true false false) := by
  refine returnsInHanded_of_change (C := Try.checked) (by kernel_rfl) started (by kernel_rfl) Try.func9
    (ChangeSpec.witness6 (enc := enc) (C := Try.checked) false ⟨#[], #[.agg #[.int .i64 0, .slice none 0 0], .slice none 0 0], []⟩ 8 (by kernel_rfl) (by kernel_rfl) (by kernel_rfl) (by kernel_rfl)) ?_
  intro W base args ds gs before hval0 hW hcnd _
  have hval : ∀ (j : Nat) t v, Try.f9.params[j]? = some t → args[j]? = some v → Value.okWide Try.prog W .any base t v := hval0
  have hW2 := hW
  obtain ⟨p, q, hA0, hV, hpq, hfz, hnd⟩ := hW2
  have hA : DataW.TrodAll enc Try.prog W 0 (fun _ => true) true Try.f9.params.toList args.toList ds p := hA0
  rw [Try.params9] at hA hval
  obtain ⟨v0, v1, d0, d1, p0, p1, hargs, hds, hp, h0, h1⟩ := trodAll_two hA
  obtain ⟨hgs, hq⟩ := trodVars_none hV
  subst hargs
  subst hds
  subst hgs
  obtain ⟨n0, A0, k0, c0, es0, rfl, wn0, hl0, hm0, hw0, hr0⟩ := open_simple (hval 0 46 v0 rfl rfl) h0
  obtain ⟨s1, l1, c1, rfl⟩ := okWide_slice Try.underlying33 (hval 1 33 v1 rfl rfl)
  obtain ⟨fuel1, hf1⟩ := h1
  obtain ⟨zs1, hzl1, hzm1, hzw1, hzr1⟩ := ints_in Try.underlying33 Try.underlying3 cells_int1 hf1
  refine (FnExactCompleteTimes_walk n0 es0 A0 k0 c0 zs1 s1 l1 c1 W wn0 hl0 hm0 hw0 hr0 hzl1 hzm1 hzw1 hzr1).mono fun e W2 ⟨he, hb⟩ => ?_
  subst he
  exact ⟨_, rfl, law_post (by kernel_rfl) (by rw [Try.params9]; decide +kernel) (by kernel_rfl) Try.underlying4 rfl ⟨rfl, rfl, rfl⟩ hW hb⟩

theorem FnExactCompleteTimes_holds : Rows.FnExactCompleteTimesSaid :=
  OpenClaim.holds_of_wide 9 Try.f9 rfl rfl rfl rfl rfl rfl rfl ⟨rfl, rfl, rfl, rfl, rfl⟩ rfl rfl rfl rfl rfl (by kernel_rfl) Try.func9 (by kernel_rfl)
    (of_decide_eq_true (by kernel_rfl)) (by unfold Func.isWrapper; first | (rw [if_pos (by decide +kernel)]; kernel_rfl) | (rw [if_neg (by decide +kernel)]; exact ⟨rfl, rfl⟩))
    (fun os started H enc _ => FnExactCompleteTimes_lifted os started H enc)

end Go.Proofs.Yteppmlepbfjnpaa

