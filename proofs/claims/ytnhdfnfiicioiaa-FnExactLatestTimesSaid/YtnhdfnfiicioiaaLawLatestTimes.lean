/-
  laws.FnExactLatestTimes HOLDS: whatever the arguments, impl.LatestTimes answers as spec.LatestTimes does, the arguments read as they did, and the answer's memory is its own. No condition.
-/
import Derived.Test.YtnhdfnfiicioiaaRows
import Derived.Test.YtnhdfnfiicioiaaFrame
import Derived.Test.YtnhdfnfiicioiaaBdLkM
import Derived.Test.YtnhdfnfiicioiaaBdIvOk
import Derived.Test.YtnhdfnfiicioiaaBdSmW
import Derived.Test.YtnhdfnfiicioiaaImS
import Derived.Deep.RegionHeld3
import Derived.Deep.CutRange
import Derived.ProofKit
import Derived.Lib.SmallJoins
namespace Go.Proofs.Ytnhdfnfiicioiaa
open Go.RowKit Go.ChangeShapes Go.WideShapes Go.ChangeAt Go.WideMaps Go.WideElems
set_option linter.unusedVariables false
set_option linter.unusedSimpArgs false

theorem own_to {w : World} {B e n s lo hi : Nat} {v : Value} {xs : List Value} (h : w.ownsRow B e s v n xs) (hl : ∀ q, v.ownBlock = some q → lo < q ∧ q < hi) : w.ownsRow (lo + 1) e s v n xs := by
  refine ⟨h.1, ?_⟩
  rcases h.2 with h2 | ⟨g, cap, cur, h1, h2, h3⟩
  · exact .inl h2
  · subst h1
    have := (hl g rfl).1
    exact .inr ⟨g, cap, cur, rfl, by omega, h3⟩
theorem own_off {v v' : Value} {a b c d : Nat} (h : ∀ q, v.ownBlock = some q → a < q ∧ q < b) (h' : ∀ q, v'.ownBlock = some q → c < q ∧ q < d) (hd : b ≤ c + 1 ∨ d ≤ a + 1 := by omega) : v.ownBlock = none ∨ v.ownBlock ≠ v'.ownBlock := by
  cases hb : v.ownBlock with
  | none => exact .inl rfl
  | some q =>
    refine .inr fun e => ?_
    have h1 := h q hb
    have h2 := h' q e.symm
    omega

theorem times_con {r : List Int × Bool} {w : World} {f : FuncId} {args : Array Value} {zs : List Int} {ok : Bool} {q : Nat} (h1 : zs = r.1) (h0 : ok = r.2) (h2 : q = zs.length) (h : Calls Try.prog f args w fun e w' => ∃ B m cb, e = .returned (.tuple #[.slice B m cb, .bool r.2]) ∧ m = r.1.length ∧ w'.ownsRow w.heap.size 3 1 (.slice B m cb) m (r.1.map intV) ∧ Below w.heap.size w w') :
    Calls Try.prog f args w fun e w' => ∃ B cb, e = .returned (.tuple #[.slice B q cb, .bool ok]) ∧ w'.ownsRow w.heap.size 3 1 (.slice B q cb) q (zs.map intV) ∧ Below w.heap.size w w' :=
  h.mono fun e w' ⟨A, k, c, e1, e2, e3, e4⟩ => by
    subst h1 h2 h0 e2
    exact ⟨A, c, e1, e3, e4⟩

set_option maxRecDepth 100000 in
set_option maxHeartbeats 16000000 in
theorem FnExactLatestTimes_walk (n : Int) (es : List GL) (A : Option Addr) (k c : Nat) (w : World) (wn : (Lit.int .i64 n).wf = true) (hn : es.length = k) (hm : k ≤ maxLen) (hw : ∀ e ∈ es, e.wf) (hr : LinkAt w A es) :
    Calls Try.prog 11 #[grV n A k c] w fun e w' => e = .returned (.bool true) ∧ Below w.heap.size w w' := by
  have HZ := Lib.hid (szSimple_any n A k c · hm)
  have HR := Lib.hid hr
  have HL := Lib.hid hn
  clear hr hn
  by_cases h : k ≤ 1048576
  · rw [if_pos h] at HZ
    have hlt : ¬ ((1048576 : Int) - k < 0) := by omega
    have HTO := Lib.hid (fun W h' => toSimple_any n es A k c W HL.out h h')
    have HEG := Lib.hid (fun A1 A2 c1 c2 W h1 h2 => eqSimple_same n es A1 A2 k c1 c2 W HL.out hm h1 h2)
    obtain ⟨zs, hzs⟩ : ∃ t, t = (latR n es).1 := ⟨_, rfl⟩
    obtain ⟨ok, hok⟩ : ∃ t, t = (latR n es).2 := ⟨_, rfl⟩
    obtain ⟨q, hq⟩ : ∃ t, t = zs.length := ⟨_, rfl⟩
    have hq8 : q ≤ 8 := by rw [hq, hzs]; exact latR_len n es
    have HSP := Lib.hid (fun A' c' W h' => times_con hzs hok hq (spec_LatestTimes n es A' k c' W HL.out h h'))
    have HIM := Lib.hid (fun A' c' W h' => times_con hzs hok hq (impl_LatestTimes n es A' k c' W HL.out h h'))
    have HEE := Lib.hid (fun D E c1 c2 W h1 h2 => (eqIntS_same zs D E q c1 c2 W hq.symm (by unfold maxLen; omega) h1 h2).mono (R' := fun e w' => e = .returned (.bool true) ∧ Below W.heap.size W w') fun e w' hh => ⟨hh.1, by obtain ⟨r, hr⟩ := hh.2; rw [hr]; exact below_drewN (Below.refl _ _) r⟩)
    have hoo : (ok != ok) = false := by simp
    clear hzs hok hq
    have t2 : ¬ ((1 : Int) + (q : Int) < 0) := by omega
    have t3 : (((1 : Int) + (q : Int)) != (1 : Int) + (q : Int)) = false := by simp
    have t1 : ¬ ((1 : Int) + 4 * (k : Int) < 0) := by omega
    unfold grV at HZ HSP HIM HTO HEG ⊢
    go_enter Try.func11, Try.ntmps11
    go_wp2_with fail
    refine (HZ.out _).mono ?_
    rintro e w1 ⟨rfl, b1⟩
    have c0_w1 : w1.cell? ⟨w.heap.size, 0, none⟩ = some (.int .i64 n) := (b1.cell (p := ⟨w.heap.size, 0, none⟩) (by first | omega | (simp; done) | (simp; omega))).trans (by first | assumption | go_simp)
    have c1_w1 : w1.cell? ⟨w.heap.size, 1, none⟩ = some (.slice A k c) := (b1.cell (p := ⟨w.heap.size, 1, none⟩) (by first | omega | (simp; done) | (simp; omega))).trans (by first | assumption | go_simp)
    have s0_w1 : w.heap.size < w1.heap.size := Nat.lt_of_lt_of_le (by first | omega | (simp; done) | (simp; omega)) b1.size
    have B_w1 : Below w.heap.size w w1 := (by repeat (first | exact Below.refl _ _ | refine below_step (by assumption) (by first | omega | (simp; done) | (simp; omega)) ?_ | refine below_drewN ?_ _ | refine Below.drew ?_ | refine Below.setCell ?_ (by first | omega | (simp; done) | (simp; omega)) _ | refine Below.alloc ?_ (by first | omega | (simp; done) | (simp; omega)) _))
    clear b1
    go_wp2_with fail
    refine (HTO.out _ (HR.out.below B_w1)).mono ?_
    rintro e w2 ⟨A2, c2, rfl, h2, b2⟩
    have HE2 := Lib.hid (own_link h2)
    clear h2
    have c0_w2 : w2.cell? ⟨w.heap.size, 0, none⟩ = some (.int .i64 n) := (b2.cell (p := ⟨w.heap.size, 0, none⟩) (by dsimp only; omega)).trans c0_w1
    have c1_w2 : w2.cell? ⟨w.heap.size, 1, none⟩ = some (.slice A k c) := (b2.cell (p := ⟨w.heap.size, 1, none⟩) (by dsimp only; omega)).trans c1_w1
    have s0_w2 : w.heap.size < w2.heap.size := Nat.lt_of_lt_of_le s0_w1 b2.size
    have B_w2 : Below w.heap.size w w2 := B_w1.trans (b2.mono B_w1.size)
    clear c0_w1 c1_w1 s0_w1  b2
    go_wp2_with fail
    refine (HSP.out A2 c2 _ HE2.out).mono ?_
    rintro e w3 ⟨D3, c3, rfl, h3, b3⟩
    have lt3 := h3.lt
    have s03 := s0_w2
    have g3 := Lib.hid h3
    clear h3 HE2
    have c0_w3 : w3.cell? ⟨w.heap.size, 0, none⟩ = some (.int .i64 n) := (b3.cell (p := ⟨w.heap.size, 0, none⟩) (by dsimp only; omega)).trans c0_w2
    have c1_w3 : w3.cell? ⟨w.heap.size, 1, none⟩ = some (.slice A k c) := (b3.cell (p := ⟨w.heap.size, 1, none⟩) (by dsimp only; omega)).trans c1_w2
    have s0_w3 : w.heap.size < w3.heap.size := Nat.lt_of_lt_of_le s0_w2 b3.size
    have B_w3 : Below w.heap.size w w3 := B_w2.trans (b3.mono B_w2.size)
    clear c0_w2 c1_w2 s0_w2  b3
    have oD_w3 := g3
    clear g3
    obtain ⟨e1, he1⟩ : ∃ e, e = w3.heap.size := ⟨_, rfl⟩
    have ltD : ∀ p, (Value.slice D3 q c3).ownBlock = some p → w.heap.size < p ∧ p < e1 := fun p hp => by have := lt3 p hp; omega
    have e1s : w.heap.size < e1 := by rw [he1]; exact s0_w3
    clear lt3 s03
    go_wp2_with fail
    refine (HTO.out _ (HR.out.below B_w3)).mono ?_
    rintro e w4 ⟨A4, c4, rfl, h4, b4b⟩
    have lt4 := h4.lt
    have lx4 : ∀ p, (Value.slice A4 k c4).ownBlock = some p → e1 - 1 < p ∧ p < w4.heap.size := fun p hp => by have := lt4 p hp; omega
    have e1a : e1 ≤ w4.heap.size := by rw [he1]; exact b4b.size
    have g4 := Lib.hid h4
    clear h4 he1 lt4
    have c0_w4 : w4.cell? ⟨w.heap.size, 0, none⟩ = some (.int .i64 n) := (b4b.cell (p := ⟨w.heap.size, 0, none⟩) (by dsimp only; omega)).trans c0_w3
    have c1_w4 : w4.cell? ⟨w.heap.size, 1, none⟩ = some (.slice A k c) := (b4b.cell (p := ⟨w.heap.size, 1, none⟩) (by dsimp only; omega)).trans c1_w3
    have s0_w4 : w.heap.size < w4.heap.size := Nat.lt_of_lt_of_le s0_w3 b4b.size
    have B_w4 : Below w.heap.size w w4 := B_w3.trans (b4b.mono B_w3.size)
    have oD_w4 := Lib.hid (own_below oD_w3.out b4b)
    clear c0_w3 c1_w3 s0_w3 oD_w3 b4b
    have oX_w4 := g4
    clear g4
    obtain ⟨b5, hb5⟩ : ∃ b, b = w4.heap.size := ⟨_, rfl⟩
    obtain ⟨wb, hwb⟩ : ∃ W, W = w4.alloc (.cells #[.int .i64 n, .slice A4 k c4] 25) := ⟨_, rfl⟩
    have ba : Below w4.heap.size w4 wb := by rw [hwb]; exact (Below.refl _ _).alloc (Nat.le_refl _) _
    have u_b5_0 : w.heap.size < b5 := by omega
    have z_wb : wb.heap.size = b5 + 1 := by rw [hwb, hb5]; simp
    have ltX : ∀ p, (Value.slice A4 k c4).ownBlock = some p → e1 - 1 < p ∧ p < b5 := fun p hp => by have := lx4 p hp; omega
    have e1b : e1 ≤ b5 := by omega
    clear lx4 e1a
    have c2_wb : wb.cell? ⟨b5, 0, none⟩ = some (.int .i64 n) := by rw [hwb, hb5]; go_simp
    have c3_wb : wb.cell? ⟨b5, 1, none⟩ = some (.slice A4 k c4) := by rw [hwb, hb5]; go_simp
    have s1_wb : b5 < wb.heap.size := by omega
    go_upto_region 7 with (fail)
    rw [← hwb]
    try rw [← hb5]
    have c0_wb : wb.cell? ⟨w.heap.size, 0, none⟩ = some (.int .i64 n) := (ba.cell (p := ⟨w.heap.size, 0, none⟩) (by dsimp only; omega)).trans c0_w4
    have c1_wb : wb.cell? ⟨w.heap.size, 1, none⟩ = some (.slice A k c) := (ba.cell (p := ⟨w.heap.size, 1, none⟩) (by dsimp only; omega)).trans c1_w4
    have s0_wb : w.heap.size < wb.heap.size := Nat.lt_of_lt_of_le s0_w4 ba.size
    have B_wb : Below w.heap.size w wb := B_w4.trans (ba.mono B_w4.size)
    have oD_wb := Lib.hid (own_below oD_w4.out ba)
    have oX_wb := Lib.hid (own_below oX_w4.out ba)
    clear c0_w4 c1_w4 s0_w4 oD_w4 oX_w4 ba
    clear hb5 hwb
    go_wp2_with fail
    refine (HIM.out A4 c4 _ (own_link oX_wb.out)).mono ?_
    rintro e w5 ⟨D5, c5, rfl, h5, b5b⟩
    have lt5 := h5.lt
    have z5 := z_wb
    have g5 := Lib.hid h5
    clear h5
    have c0_w5 : w5.cell? ⟨w.heap.size, 0, none⟩ = some (.int .i64 n) := (b5b.cell (p := ⟨w.heap.size, 0, none⟩) (by dsimp only; omega)).trans c0_wb
    have c1_w5 : w5.cell? ⟨w.heap.size, 1, none⟩ = some (.slice A k c) := (b5b.cell (p := ⟨w.heap.size, 1, none⟩) (by dsimp only; omega)).trans c1_wb
    have c2_w5 : w5.cell? ⟨b5, 0, none⟩ = some (.int .i64 n) := (b5b.cell (p := ⟨b5, 0, none⟩) (by dsimp only; omega)).trans c2_wb
    have c3_w5 : w5.cell? ⟨b5, 1, none⟩ = some (.slice A4 k c4) := (b5b.cell (p := ⟨b5, 1, none⟩) (by dsimp only; omega)).trans c3_wb
    have s0_w5 : w.heap.size < w5.heap.size := Nat.lt_of_lt_of_le s0_wb b5b.size
    have s1_w5 : b5 < w5.heap.size := Nat.lt_of_lt_of_le s1_wb b5b.size
    have B_w5 : Below w.heap.size w w5 := B_wb.trans (b5b.mono B_wb.size)
    have oD_w5 := Lib.hid (own_below oD_wb.out b5b)
    have oX_w5 := Lib.hid (own_below oX_wb.out b5b)
    clear c0_wb c1_wb c2_wb c3_wb s0_wb s1_wb oD_wb oX_wb b5b
    have oY_w5 := g5
    clear g5
    obtain ⟨e2, he2⟩ : ∃ e, e = w5.heap.size := ⟨_, rfl⟩
    have ltY : ∀ p, (Value.slice D5 q c5).ownBlock = some p → b5 < p ∧ p < e2 := fun p hp => by have := lt5 p hp; omega
    clear lt5 z5 z_wb
    go_wp2_with fail
    refine (HEE.out D5 D3 c5 c3 _ (own_row oY_w5.out) (own_row oD_w5.out)).mono ?_
    rintro e w6 ⟨rfl, b6b⟩
    have c0_w6 : w6.cell? ⟨w.heap.size, 0, none⟩ = some (.int .i64 n) := (b6b.cell (p := ⟨w.heap.size, 0, none⟩) (by dsimp only; omega)).trans c0_w5
    have c1_w6 : w6.cell? ⟨w.heap.size, 1, none⟩ = some (.slice A k c) := (b6b.cell (p := ⟨w.heap.size, 1, none⟩) (by dsimp only; omega)).trans c1_w5
    have c2_w6 : w6.cell? ⟨b5, 0, none⟩ = some (.int .i64 n) := (b6b.cell (p := ⟨b5, 0, none⟩) (by dsimp only; omega)).trans c2_w5
    have c3_w6 : w6.cell? ⟨b5, 1, none⟩ = some (.slice A4 k c4) := (b6b.cell (p := ⟨b5, 1, none⟩) (by dsimp only; omega)).trans c3_w5
    have s0_w6 : w.heap.size < w6.heap.size := Nat.lt_of_lt_of_le s0_w5 b6b.size
    have s1_w6 : b5 < w6.heap.size := Nat.lt_of_lt_of_le s1_w5 b6b.size
    have B_w6 : Below w.heap.size w w6 := B_w5.trans (b6b.mono B_w5.size)
    have oD_w6 := Lib.hid (own_below oD_w5.out b6b)
    have oX_w6 := Lib.hid (own_below oX_w5.out b6b)
    have oY_w6 := Lib.hid (own_below oY_w5.out b6b)
    clear c0_w5 c1_w5 c2_w5 c3_w5 s0_w5 s1_w5 oD_w5 oX_w5 oY_w5 b6b
    clear he2
    go_wp2_with fail
    go_region_held3 (fun W => W.cell? ⟨w.heap.size, 0, none⟩ = some (.int .i64 n) ∧ W.cell? ⟨w.heap.size, 1, none⟩ = some (.slice A k c) ∧ W.cell? ⟨b5, 0, none⟩ = some (.int .i64 n) ∧ W.cell? ⟨b5, 1, none⟩ = some (.slice A4 k c4)) (first | go_keep | (dsimp only; refine ⟨?_, ?_, ?_, ?_⟩ <;> first | assumption | go_keep | go_simp)) (first | (go_at_call 29; refine (HTO.out _ (HR.out.below (by repeat (first | exact Below.refl _ _ | refine below_step (by assumption) (by first | omega | (simp; done) | (simp; omega)) ?_ | refine below_drewN ?_ _ | refine Below.drew ?_ | refine Below.setCell ?_ (by first | omega | (simp; done) | (simp; omega)) _ | refine Below.alloc ?_ (by first | omega | (simp; done) | (simp; omega)) _)))).mono ?_; rintro e w7 ⟨A7, c7, rfl, h7, b7b⟩; have c0_w7 : w7.cell? ⟨w.heap.size, 0, none⟩ = some (.int .i64 n) := (b7b.cell (p := ⟨w.heap.size, 0, none⟩) (by first | omega | (simp; done) | (simp; omega))).trans (by first | assumption | go_simp); have c1_w7 : w7.cell? ⟨w.heap.size, 1, none⟩ = some (.slice A k c) := (b7b.cell (p := ⟨w.heap.size, 1, none⟩) (by first | omega | (simp; done) | (simp; omega))).trans (by first | assumption | go_simp); have c2_w7 : w7.cell? ⟨b5, 0, none⟩ = some (.int .i64 n) := (b7b.cell (p := ⟨b5, 0, none⟩) (by first | omega | (simp; done) | (simp; omega))).trans (by first | assumption | go_simp); have c3_w7 : w7.cell? ⟨b5, 1, none⟩ = some (.slice A4 k c4) := (b7b.cell (p := ⟨b5, 1, none⟩) (by first | omega | (simp; done) | (simp; omega))).trans (by first | assumption | go_simp); have s0_w7 : w.heap.size < w7.heap.size := Nat.lt_of_lt_of_le (by first | omega | (simp; done) | (simp; omega)) b7b.size; have s1_w7 : b5 < w7.heap.size := Nat.lt_of_lt_of_le (by first | omega | (simp; done) | (simp; omega)) b7b.size; have q7 : w6.heap.size ≤ w7.heap.size := b7b.size; have E7 : LinkAt w7 A7 es := own_link h7; have F7 : LinkAt w7 A4 es := LinkAt.below (w := _) (by exact LinkAt.of_heap (own_link oX_w6.out) rfl) b7b) | (go_at_call 30; refine (HEG.out A4 A7 c4 c7 _ (by exact F7.of_heap rfl) (by exact E7.of_heap rfl)).mono ?_; rintro e w8 ⟨rfl, b8b⟩; have c0_w8 : w8.cell? ⟨w.heap.size, 0, none⟩ = some (.int .i64 n) := (b8b.cell (p := ⟨w.heap.size, 0, none⟩) (by first | omega | (simp; done) | (simp; omega))).trans (by first | assumption | go_simp); have c1_w8 : w8.cell? ⟨w.heap.size, 1, none⟩ = some (.slice A k c) := (b8b.cell (p := ⟨w.heap.size, 1, none⟩) (by first | omega | (simp; done) | (simp; omega))).trans (by first | assumption | go_simp); have c2_w8 : w8.cell? ⟨b5, 0, none⟩ = some (.int .i64 n) := (b8b.cell (p := ⟨b5, 0, none⟩) (by first | omega | (simp; done) | (simp; omega))).trans (by first | assumption | go_simp); have c3_w8 : w8.cell? ⟨b5, 1, none⟩ = some (.slice A4 k c4) := (b8b.cell (p := ⟨b5, 1, none⟩) (by first | omega | (simp; done) | (simp; omega))).trans (by first | assumption | go_simp); have s0_w8 : w.heap.size < w8.heap.size := Nat.lt_of_lt_of_le (by first | omega | (simp; done) | (simp; omega)) b8b.size; have s1_w8 : b5 < w8.heap.size := Nat.lt_of_lt_of_le (by first | omega | (simp; done) | (simp; omega)) b8b.size))
    all_goals
      have U8 : Below w6.heap.size w6 w8 := (by repeat (first | exact Below.refl _ _ | refine below_step (by assumption) (by first | omega | (simp; done) | (simp; omega)) ?_ | refine below_drewN ?_ _ | refine Below.drew ?_ | refine Below.setCell ?_ (by first | omega | (simp; done) | (simp; omega)) _ | refine Below.alloc ?_ (by first | omega | (simp; done) | (simp; omega)) _))
      have oD_w8 := Lib.hid (own_below oD_w6.out U8)
      have oX_w8 := Lib.hid (own_below oX_w6.out U8)
      have oY_w8 := Lib.hid (own_below oY_w6.out U8)
      have B_w8 : Below w.heap.size w w8 := B_w6.trans (U8.mono B_w6.size)
      clear b7b b8b h7 E7 F7 U8 oD_w6 oX_w6 oY_w6 c0_w6 c1_w6 c2_w6 c3_w6 s0_w6 s1_w6 c0_w7 c1_w7 c2_w7 c3_w7 s0_w7 s1_w7
      have hmk := markSimple_any n A4 k c4 _ 1 (cellsL es) w8 (by omega) (own_to oX_w8.out ltX)
      rw [show ((1 : Nat) : Int) = 1 from rfl] at hmk
      unfold grV at hmk
      have HMK := Lib.hid hmk
      clear hmk
      go_wp2_with fail
      refine (HMK.out).mono ?_
      rintro e w9 ⟨rfl, _, hg9⟩
      have bm : Below w8.heap.size w8 (w8.alloc (.cells #[.int .i64 n, .slice A4 k c4] 25)) := (Below.refl _ _).alloc (Nat.le_refl _) _
      have c0_w9 := grown_cell hg9 (b := w.heap.size) (o := 0) (v := .int .i64 n) ((bm.cell (p := ⟨w.heap.size, 0, none⟩) (by dsimp only; omega)).trans c0_w8) (fun h => by have := ltX _ h; omega)
      have c1_w9 := grown_cell hg9 (b := w.heap.size) (o := 1) (v := .slice A k c) ((bm.cell (p := ⟨w.heap.size, 1, none⟩) (by dsimp only; omega)).trans c1_w8) (fun h => by have := ltX _ h; omega)
      have c2_w9 := grown_cell hg9 (b := b5) (o := 0) (v := .int .i64 n) ((bm.cell (p := ⟨b5, 0, none⟩) (by dsimp only; omega)).trans c2_w8) (fun h => by have := ltX _ h; omega)
      have c3_w9 := grown_cell hg9 (b := b5) (o := 1) (v := .slice A4 k c4) ((bm.cell (p := ⟨b5, 1, none⟩) (by dsimp only; omega)).trans c3_w8) (fun h => by have := ltX _ h; omega)
      have s0_w9 : w.heap.size < w9.heap.size := Nat.lt_of_lt_of_le s0_w8 (Nat.le_trans bm.size hg9.size)
      have s1_w9 : b5 < w9.heap.size := Nat.lt_of_lt_of_le s1_w8 (Nat.le_trans bm.size hg9.size)
      have B_w9 : Below w.heap.size w w9 := (B_w8.trans (bm.mono B_w8.size)).grown hg9 (Nat.le_trans B_w8.size bm.size) (fun q hq => by have := ltX q hq; omega)
      have oD_w9 := Lib.hid ((own_below oD_w8.out bm).kept hg9 (own_off ltD ltX))
      have oY_w9 := Lib.hid ((own_below oY_w8.out bm).kept hg9 (own_off ltY ltX))
      clear bm hg9 HMK oX_w8
      clear c0_w8 c1_w8 c2_w8 c3_w8 s0_w8 s1_w8 oD_w8 oY_w8 
      go_wp2_with fail
      refine (HEE.out D5 D3 c5 c3 _ (own_row oY_w9.out) (own_row oD_w9.out)).mono ?_
      rintro e w10 ⟨rfl, b10⟩
      have c0_w10 : w10.cell? ⟨w.heap.size, 0, none⟩ = some (.int .i64 n) := (b10.cell (p := ⟨w.heap.size, 0, none⟩) (by dsimp only; omega)).trans c0_w9
      have c1_w10 : w10.cell? ⟨w.heap.size, 1, none⟩ = some (.slice A k c) := (b10.cell (p := ⟨w.heap.size, 1, none⟩) (by dsimp only; omega)).trans c1_w9
      have c2_w10 : w10.cell? ⟨b5, 0, none⟩ = some (.int .i64 n) := (b10.cell (p := ⟨b5, 0, none⟩) (by dsimp only; omega)).trans c2_w9
      have c3_w10 : w10.cell? ⟨b5, 1, none⟩ = some (.slice A4 k c4) := (b10.cell (p := ⟨b5, 1, none⟩) (by dsimp only; omega)).trans c3_w9
      have s0_w10 : w.heap.size < w10.heap.size := Nat.lt_of_lt_of_le s0_w9 b10.size
      have s1_w10 : b5 < w10.heap.size := Nat.lt_of_lt_of_le s1_w9 b10.size
      have B_w10 : Below w.heap.size w w10 := B_w9.trans (b10.mono B_w9.size)
      have oD_w10 := Lib.hid (own_below oD_w9.out b10)
      have oY_w10 := Lib.hid (own_below oY_w9.out b10)
      clear c0_w9 c1_w9 c2_w9 c3_w9 s0_w9 s1_w9 oD_w9 oY_w9 b10
      have hmk := markIntS_any D5 q c5 _ 1 (zs.map intV) w10 (by omega) (by omega) (own_to oY_w10.out ltY)
      rw [show ((1 : Nat) : Int) = 1 from rfl] at hmk
      have HMK := Lib.hid hmk
      clear hmk
      go_wp2_with fail
      refine (HMK.out).mono ?_
      rintro e w11 ⟨rfl, oY, hg11⟩
      have bm : Below w10.heap.size w10 w10 := Below.refl _ _
      have c0_w11 := grown_cell hg11 (b := w.heap.size) (o := 0) (v := .int .i64 n) ((bm.cell (p := ⟨w.heap.size, 0, none⟩) (by dsimp only; omega)).trans c0_w10) (fun h => by have := ltY _ h; omega)
      have c1_w11 := grown_cell hg11 (b := w.heap.size) (o := 1) (v := .slice A k c) ((bm.cell (p := ⟨w.heap.size, 1, none⟩) (by dsimp only; omega)).trans c1_w10) (fun h => by have := ltY _ h; omega)
      have c2_w11 := grown_cell hg11 (b := b5) (o := 0) (v := .int .i64 n) ((bm.cell (p := ⟨b5, 0, none⟩) (by dsimp only; omega)).trans c2_w10) (fun h => by have := ltY _ h; omega)
      have c3_w11 := grown_cell hg11 (b := b5) (o := 1) (v := .slice A4 k c4) ((bm.cell (p := ⟨b5, 1, none⟩) (by dsimp only; omega)).trans c3_w10) (fun h => by have := ltY _ h; omega)
      have s0_w11 : w.heap.size < w11.heap.size := Nat.lt_of_lt_of_le s0_w10 (Nat.le_trans bm.size hg11.size)
      have s1_w11 : b5 < w11.heap.size := Nat.lt_of_lt_of_le s1_w10 (Nat.le_trans bm.size hg11.size)
      have B_w11 : Below w.heap.size w w11 := (B_w10.trans (bm.mono B_w10.size)).grown hg11 (Nat.le_trans B_w10.size bm.size) (fun q hq => by have := ltY q hq; omega)
      have oD_w11 := Lib.hid ((own_below oD_w10.out bm).kept hg11 (own_off ltD ltY))
      have oY_w11 := Lib.hid oY
      clear bm hg11 HMK oY
      clear c0_w10 c1_w10 c2_w10 c3_w10 s0_w10 s1_w10 oD_w10 oY_w10 
      have hhd := fun (W : World) h => heldIntS_any D5 q c5 1 W (by omega) (by omega) h
      rw [show ((1 : Nat) : Int) = 1 from rfl] at hhd
      have HHD := Lib.hid hhd
      clear hhd
      go_wp2_with fail
      refine (HHD.out _ (own_row oY_w11.out)).mono ?_
      rintro e w12 ⟨rfl, hw12⟩
      have b12 : Below w11.heap.size w11 w12 := by rw [hw12]; exact Below.refl _ _
      clear hw12
      have c0_w12 : w12.cell? ⟨w.heap.size, 0, none⟩ = some (.int .i64 n) := (b12.cell (p := ⟨w.heap.size, 0, none⟩) (by dsimp only; omega)).trans c0_w11
      have c1_w12 : w12.cell? ⟨w.heap.size, 1, none⟩ = some (.slice A k c) := (b12.cell (p := ⟨w.heap.size, 1, none⟩) (by dsimp only; omega)).trans c1_w11
      have c2_w12 : w12.cell? ⟨b5, 0, none⟩ = some (.int .i64 n) := (b12.cell (p := ⟨b5, 0, none⟩) (by dsimp only; omega)).trans c2_w11
      have c3_w12 : w12.cell? ⟨b5, 1, none⟩ = some (.slice A4 k c4) := (b12.cell (p := ⟨b5, 1, none⟩) (by dsimp only; omega)).trans c3_w11
      have s0_w12 : w.heap.size < w12.heap.size := Nat.lt_of_lt_of_le s0_w11 b12.size
      have s1_w12 : b5 < w12.heap.size := Nat.lt_of_lt_of_le s1_w11 b12.size
      have B_w12 : Below w.heap.size w w12 := B_w11.trans (b12.mono B_w11.size)
      have oD_w12 := Lib.hid (own_below oD_w11.out b12)
      have oY_w12 := Lib.hid (own_below oY_w11.out b12)
      clear c0_w11 c1_w11 c2_w11 c3_w11 s0_w11 s1_w11 oD_w11 oY_w11 b12
      go_wp2_with fail
      refine (HTO.out _ (HR.out.below B_w12)).mono ?_
      rintro e w13 ⟨A13, c13, rfl, h13, b13⟩
      have HE13 := Lib.hid (own_link h13)
      clear h13
      have c0_w13 : w13.cell? ⟨w.heap.size, 0, none⟩ = some (.int .i64 n) := (b13.cell (p := ⟨w.heap.size, 0, none⟩) (by dsimp only; omega)).trans c0_w12
      have c1_w13 : w13.cell? ⟨w.heap.size, 1, none⟩ = some (.slice A k c) := (b13.cell (p := ⟨w.heap.size, 1, none⟩) (by dsimp only; omega)).trans c1_w12
      have c2_w13 : w13.cell? ⟨b5, 0, none⟩ = some (.int .i64 n) := (b13.cell (p := ⟨b5, 0, none⟩) (by dsimp only; omega)).trans c2_w12
      have c3_w13 : w13.cell? ⟨b5, 1, none⟩ = some (.slice A4 k c4) := (b13.cell (p := ⟨b5, 1, none⟩) (by dsimp only; omega)).trans c3_w12
      have s0_w13 : w.heap.size < w13.heap.size := Nat.lt_of_lt_of_le s0_w12 b13.size
      have s1_w13 : b5 < w13.heap.size := Nat.lt_of_lt_of_le s1_w12 b13.size
      have B_w13 : Below w.heap.size w w13 := B_w12.trans (b13.mono B_w12.size)
      have oD_w13 := Lib.hid (own_below oD_w12.out b13)
      have oY_w13 := Lib.hid (own_below oY_w12.out b13)
      clear c0_w12 c1_w12 c2_w12 c3_w12 s0_w12 s1_w12 oD_w12 oY_w12 b13
      go_wp2_with fail
      refine (HIM.out A13 c13 _ HE13.out).mono ?_
      rintro e w14 ⟨D14, c14, rfl, h14, b14⟩
      have g14 := Lib.hid h14
      clear h14 HE13
      have c0_w14 : w14.cell? ⟨w.heap.size, 0, none⟩ = some (.int .i64 n) := (b14.cell (p := ⟨w.heap.size, 0, none⟩) (by dsimp only; omega)).trans c0_w13
      have c1_w14 : w14.cell? ⟨w.heap.size, 1, none⟩ = some (.slice A k c) := (b14.cell (p := ⟨w.heap.size, 1, none⟩) (by dsimp only; omega)).trans c1_w13
      have c2_w14 : w14.cell? ⟨b5, 0, none⟩ = some (.int .i64 n) := (b14.cell (p := ⟨b5, 0, none⟩) (by dsimp only; omega)).trans c2_w13
      have c3_w14 : w14.cell? ⟨b5, 1, none⟩ = some (.slice A4 k c4) := (b14.cell (p := ⟨b5, 1, none⟩) (by dsimp only; omega)).trans c3_w13
      have s0_w14 : w.heap.size < w14.heap.size := Nat.lt_of_lt_of_le s0_w13 b14.size
      have s1_w14 : b5 < w14.heap.size := Nat.lt_of_lt_of_le s1_w13 b14.size
      have B_w14 : Below w.heap.size w w14 := B_w13.trans (b14.mono B_w13.size)
      have oD_w14 := Lib.hid (own_below oD_w13.out b14)
      have oY_w14 := Lib.hid (own_below oY_w13.out b14)
      clear c0_w13 c1_w13 c2_w13 c3_w13 s0_w13 s1_w13 oD_w13 oY_w13 b14
      have oZ_w14 := g14
      clear g14
      go_wp2_with fail
      refine (HEE.out D14 D3 c14 c3 _ (own_row oZ_w14.out) (own_row oD_w14.out)).mono ?_
      rintro e w15 ⟨rfl, b15⟩
      have c0_w15 : w15.cell? ⟨w.heap.size, 0, none⟩ = some (.int .i64 n) := (b15.cell (p := ⟨w.heap.size, 0, none⟩) (by dsimp only; omega)).trans c0_w14
      have c1_w15 : w15.cell? ⟨w.heap.size, 1, none⟩ = some (.slice A k c) := (b15.cell (p := ⟨w.heap.size, 1, none⟩) (by dsimp only; omega)).trans c1_w14
      have c2_w15 : w15.cell? ⟨b5, 0, none⟩ = some (.int .i64 n) := (b15.cell (p := ⟨b5, 0, none⟩) (by dsimp only; omega)).trans c2_w14
      have c3_w15 : w15.cell? ⟨b5, 1, none⟩ = some (.slice A4 k c4) := (b15.cell (p := ⟨b5, 1, none⟩) (by dsimp only; omega)).trans c3_w14
      have s0_w15 : w.heap.size < w15.heap.size := Nat.lt_of_lt_of_le s0_w14 b15.size
      have s1_w15 : b5 < w15.heap.size := Nat.lt_of_lt_of_le s1_w14 b15.size
      have B_w15 : Below w.heap.size w w15 := B_w14.trans (b15.mono B_w14.size)
      have oD_w15 := Lib.hid (own_below oD_w14.out b15)
      have oY_w15 := Lib.hid (own_below oY_w14.out b15)
      have oZ_w15 := Lib.hid (own_below oZ_w14.out b15)
      clear c0_w14 c1_w14 c2_w14 c3_w14 s0_w14 s1_w14 oD_w14 oY_w14 oZ_w14 b15
      go_wp2_with fail
      refine (HHD.out _ (own_row oY_w15.out)).mono ?_
      rintro e w16 ⟨rfl, hw16⟩
      have B_w16 : Below w.heap.size w w16 := by rw [hw16]; exact B_w15
      clear hw16
      go_wp2_with fail
      go_ret
      exact ⟨rfl, B_w16⟩
  · rw [if_neg h] at HZ
    go_enter Try.func11, Try.ntmps11
    unfold grV at HZ
    unfold grV
    go_wp2_with fail
    refine (HZ.out _).mono ?_
    rintro e w1 ⟨rfl, b1⟩
    go_wp2_with fail
    go_ret
    exact ⟨rfl, (by repeat (first | exact Below.refl _ _ | refine below_step (by assumption) (by first | omega | (simp; done) | (simp; omega)) ?_ | refine below_drewN ?_ _ | refine Below.drew ?_ | refine Below.setCell ?_ (by first | omega | (simp; done) | (simp; omega)) _ | refine Below.alloc ?_ (by first | omega | (simp; done) | (simp; omega)) _))⟩

/-! ### FnExactLatestTimes: the row -/

set_option maxRecDepth 100000 in
theorem FnExactLatestTimes_lifted (os : Os) (started : os.Started) (H : Type) (enc : TypeId × Value → H) :
    ReturnsInHanded {} Try.checked os 11 .any (Rows.fnExactLatestTimesSpec.pre6 enc Try.prog Try.f11 Rows.fnExactLatestTimesRow.domain false) (Rows.fnExactLatestTimesSpec.post enc Try.prog Try.f11 false true false false) := by
  refine returnsInHanded_of_change (C := Try.checked) (by kernel_rfl) started (by kernel_rfl) Try.func11
    (ChangeSpec.witness6 (enc := enc) (C := Try.checked) false ⟨#[], #[.agg #[.int .i64 0, .slice none 0 0]], []⟩ 8 (by kernel_rfl) (by kernel_rfl) (by kernel_rfl) (by kernel_rfl)) ?_
  intro W base args ds gs before hval0 hW hcnd _
  have hval : ∀ (j : Nat) t v, Try.f11.params[j]? = some t → args[j]? = some v → Value.okWide Try.prog W .any base t v := hval0
  have hW2 := hW
  obtain ⟨p, q, hA0, hV, hpq, hfz, hnd⟩ := hW2
  have hA : DataW.TrodAll enc Try.prog W 0 (fun _ => true) true Try.f11.params.toList args.toList ds p := hA0
  rw [Try.params11] at hA hval
  obtain ⟨v0, d0, hargs, hds, h0⟩ := trodAll_one hA
  obtain ⟨hgs, hq⟩ := trodVars_none hV
  subst hargs
  subst hds
  subst hgs
  obtain ⟨n0, A0, k0, c0, es0, rfl, wn0, hl0, hm0, hw0, hr0⟩ := open_simple (hval 0 47 v0 rfl rfl) h0
  refine (FnExactLatestTimes_walk n0 es0 A0 k0 c0 W wn0 hl0 hm0 hw0 hr0).mono fun e W2 ⟨he, hb⟩ => ?_
  subst he
  exact ⟨_, rfl, law_post (by kernel_rfl) (by rw [Try.params11]; decide +kernel) (by kernel_rfl) Try.underlying4 rfl ⟨rfl, rfl, rfl⟩ hW hb⟩

theorem FnExactLatestTimes_holds : Rows.FnExactLatestTimesSaid :=
  OpenClaim.holds_of_wide 11 Try.f11 rfl rfl rfl rfl rfl rfl rfl ⟨rfl, rfl, rfl, rfl, rfl⟩ rfl rfl rfl rfl rfl (by kernel_rfl) Try.func11 (by kernel_rfl)
    (of_decide_eq_true (by kernel_rfl)) (by unfold Func.isWrapper; first | (rw [if_pos (by decide +kernel)]; kernel_rfl) | (rw [if_neg (by decide +kernel)]; exact ⟨rfl, rfl⟩))
    (fun os started H enc _ => FnExactLatestTimes_lifted os started H enc)

end Go.Proofs.Ytnhdfnfiicioiaa

