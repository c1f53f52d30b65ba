/-
  laws.FnConflicts HOLDS: whatever the bytes that the network is drawn of: without one link of its conflict, a network that was made inconsistent by this link is consistent again; the bytes read as they did. No condition.
-/
import Derived.Test.YtnhdfnfiicioiaaRows
import Derived.Test.YtnhdfnfiicioiaaFrame
import Derived.Test.YtnhdfnfiicioiaaBdSmK
import Derived.Test.YtnhdfnfiicioiaaImS
import Derived.Test.YtnhdfnfiicioiaaNwL
import Derived.Deep.RegionHeld3
import Derived.Deep.CutRange
import Derived.ProofKit
import Derived.Lib.SmallJoins
namespace Go.Proofs.Ytnhdfnfiicioiaa
open Go.RowKit Go.ChangeShapes Go.WideShapes Go.ChangeAt Go.WideMaps Go.WideElems
set_option linter.unusedVariables false
set_option linter.unusedSimpArgs false

theorem ints_con {cs : List Int} {w : World} {f : FuncId} {args : Array Value} {zs : List Int} {q : Nat} (h1 : zs = cs) (h2 : q = zs.length) (h : Calls Try.prog f args w fun e w' => ∃ B m cb, e = .returned (.slice B m cb) ∧ m = cs.length ∧ w'.ownsRow w.heap.size 3 1 (.slice B m cb) m (cs.map intV) ∧ Below w.heap.size w w') :
    Calls Try.prog f args w fun e w' => ∃ B cb, e = .returned (.slice B q cb) ∧ w'.ownsRow w.heap.size 3 1 (.slice B q cb) q (zs.map intV) ∧ Below w.heap.size w w' :=
  h.mono fun e w' ⟨A, k, c, e1, e2, e3, e4⟩ => by
    subst h1 h2 e2
    exact ⟨A, c, e1, e3, e4⟩

theorem okS_take {N : Nat} {es : List GL} (h : okS N es = true) (j : Nat) : okS N (es.take j) = true := by
  have h1 := okS_rng h
  unfold okS
  rw [decide_eq_true ⟨h1.1, h1.2.1, by rw [List.length_take]; omega⟩, Bool.true_and, List.all_eq_true]
  intro e he
  obtain ⟨a, b, c⟩ := okS_link h (List.mem_of_mem_take he)
  unfold okL
  rw [decide_eq_true a, decide_eq_true b, c]; rfl
theorem wl_con {N : Nat} {ls : List GL} {e0 : GL} {w : World} {f : FuncId} {args : Array Value} {m : Nat} (h1 : okS N ls = true) (h2 : okS N (ls ++ [e0]) = true) (hm : m = ls.length + 1) (h : Calls Try.prog f args w fun x w' => WlEnd N ls e0 w x w') :
    Calls Try.prog f args w fun x w' => ∃ B cb, x = .returned (.tuple #[.agg #[.int .i64 N, .slice B m cb], .bool true]) ∧ w'.ownsRow w.heap.size 42 4 (.slice B m cb) m (cellsL (ls ++ [e0])) ∧ Below w.heap.size w w' :=
  h.mono fun x w' ⟨A, k, c, e1, e2, e3, e4⟩ => by
    have hr : wlR N ls e0 = true := by unfold wlR; rw [h1, h2]; rfl
    have hn : wlN N ls e0 = N := by unfold wlN; rw [if_pos hr]
    have he : wlE N ls e0 = ls ++ [e0] := by unfold wlE; rw [if_pos hr]
    rw [hn, hr] at e1
    rw [he] at e2 e3
    have : k = m := by rw [e2, List.length_append, hm]; rfl
    subst this
    exact ⟨A, c, e1, e3, e4⟩
theorem link_belowK {w w' : World} {A : Option Addr} {es : List GL} {K m c : Nat} (h : LinkAt w A es) (hl : ∀ q, (Value.slice A m c).ownBlock = some q → q < K) (hb : Below K w w') : LinkAt w' A es := by
  intro hx
  obtain ⟨g, o, hA, hg, hc⟩ := h hx
  have hgK : g < K := hl g (by rw [hA]; rfl)
  have := hb.size
  exact ⟨g, o, hA, by omega, fun j hj => ⟨(hb.cell (p := ⟨g, o + j * 4, none⟩) hgK).trans (hc j hj).1, (hb.cell (p := ⟨g, o + j * 4 + 1, none⟩) hgK).trans (hc j hj).2.1, (hb.cell (p := ⟨g, o + j * 4 + 2, none⟩) hgK).trans (hc j hj).2.2.1, (hb.cell (p := ⟨g, o + j * 4 + 3, none⟩) hgK).trans (hc j hj).2.2.2⟩⟩
theorem row_atC {W : World} {A : Option Addr} {zs : List Int} {j : Nat} (h : RowAt W A (zs.map intV)) (hj : j < zs.length) : ∃ g o, A = some ⟨g, o, none⟩ ∧ g < W.heap.size ∧ W.cell? ⟨g, o + j, none⟩ = some (.int .i64 zs[j]) := row_get h hj

set_option maxRecDepth 100000 in
set_option maxHeartbeats 16000000 in
theorem FnConflicts_walk (A : Option Addr) (n c : Nat) (w : World) (hby : Bytes w w.heap.size A n) :
    Calls Try.prog 4 #[.slice A n c] w fun e w' => e = .returned (.bool true) ∧ Below w.heap.size w w' := by
  by_cases h : n ≤ 1048576
  · have HMS := Lib.hid (MakeSimple_any A n c w h hby)
    have hlt : ¬ ((1048576 : Int) < (n : Int)) := by omega
    have B_w : Below w.heap.size w w := Below.refl _ _
    have HBY := Lib.hid hby
    clear hby
    go_enter Try.func4, Try.ntmps4
    go_wp2_with fail
    refine HMS.out.mono ?_
    rintro e w1 ⟨N, es, D1, k, c1, rfl, hN2, hN5, hek, hk7, hdr, ho1, bb1⟩
    have HOK := Lib.hid (below_of_drawn (N := N) (ls := es) (by omega) (by omega) (by omega) hdr)
    have HDR := Lib.hid hdr
    have HL := Lib.hid hek
    have hk20 : k ≤ 1048576 := by omega
    clear HMS hek hdr
    have HIC := Lib.hid (fun ls A2 m d2 W (hl : ls.length = m) (hm : m ≤ 8) h' => impl_IsConsistent N ls A2 m d2 W hl (by omega) h')
    have HCF := Lib.hid (fun ls A2 m d2 W (hl : ls.length = m) (hm : m ≤ 8) h' => impl_ConflictOf N ls A2 m d2 W hl (by omega) h')
    have HWL := Lib.hid (fun ls e0 A2 m d2 W (hl : ls.length = m) (hm : m ≤ 8) (h1 : okS N ls = true) (h2 : okS N (ls ++ [e0]) = true) h' => wl_con (m := m + 1) h1 h2 (by rw [hl]) (impl_WithLink N ls e0 A2 m d2 W hl (by omega) h'))
    unfold grV at HIC HCF HWL ⊢
    simp only [GL.val] at HWL
    have oD := Lib.hid ho1
    clear ho1
    have B_w1 : Below w.heap.size w w1 := B_w.trans (bb1.mono B_w.size)
    clear   bb1
    have oD_w1 := oD
    clear oD
    have LD1 := Lib.hid oD_w1.out.lt
    obtain ⟨b3, hb3⟩ : ∃ b, b = w1.heap.size := ⟨_, rfl⟩
    have LD3 := Lib.hid (show ∀ q, (Value.slice D1 k c1).ownBlock = some q → q < b3 from fun q hq => by have := (LD1.out q hq).2; omega)
    obtain ⟨wa, hwa⟩ : ∃ W, W = w1.alloc (.cells #[.int .i64 N, .slice D1 k c1] 25) := ⟨_, rfl⟩
    have ba : Below w1.heap.size w1 wa := by rw [hwa]; exact (Below.refl _ _).alloc (Nat.le_refl _) _
    have z_wa : wa.heap.size = b3 + 1 := by rw [hwa, hb3]; simp
    have c0_wa : wa.cell? ⟨b3, 0, none⟩ = some (.int .i64 N) := by rw [hwa, hb3]; go_simp
    have c1_wa : wa.cell? ⟨b3, 1, none⟩ = some (.slice D1 k c1) := by rw [hwa, hb3]; go_simp
    have s0_wa : b3 < wa.heap.size := by omega
    go_upto_region 4 with (fail)
    rw [← hwa]
    try rw [← hb3]
    have B_wa : Below w.heap.size w wa := B_w1.trans (ba.mono B_w1.size)
    have oD_wa := Lib.hid (own_below oD_w1.out ba)
    clear  oD_w1 ba
    clear hb3 hwa
    clear z_wa
    obtain ⟨b4, hb4⟩ : ∃ b, b = wa.heap.size := ⟨_, rfl⟩
    have WB4 : w.heap.size ≤ b4 := by rw [hb4]; exact B_wa.size
    obtain ⟨wb, hwb⟩ : ∃ W, W = wa.alloc (.cells #[.int .i64 N, .slice none 0 0] 25) := ⟨_, rfl⟩
    have FZ0 : wb.frozen? ⟨b4, 0, none⟩ = false := by rw [hwb, hb4]; go_simp
    have FZ1 : wb.frozen? ⟨b4, 1, none⟩ = false := by rw [hwb, hb4]; go_simp
    have ba : Below wa.heap.size wa wb := by rw [hwb]; exact (Below.refl _ _).alloc (Nat.le_refl _) _
    have u_b4_0 : b3 < b4 := by omega
    have z_wb : wb.heap.size = b4 + 1 := by rw [hwb, hb4]; simp
    have c2_wb : wb.cell? ⟨b4, 0, none⟩ = some (.int .i64 N) := by rw [hwb, hb4]; go_simp
    have c3_wb : wb.cell? ⟨b4, 1, none⟩ = some (.slice none 0 0) := by rw [hwb, hb4]; go_simp
    have s1_wb : b4 < wb.heap.size := by omega
    go_upto_region 5 with (fail)
    rw [← hwb]
    try rw [← hb4]
    have c0_wb : wb.cell? ⟨b3, 0, none⟩ = some (.int .i64 N) := (ba.cell (p := ⟨b3, 0, none⟩) (by dsimp only; omega)).trans c0_wa
    have c1_wb : wb.cell? ⟨b3, 1, none⟩ = some (.slice D1 k c1) := (ba.cell (p := ⟨b3, 1, none⟩) (by dsimp only; omega)).trans c1_wa
    have s0_wb : b3 < wb.heap.size := Nat.lt_of_lt_of_le s0_wa ba.size
    have B_wb : Below w.heap.size w wb := B_wa.trans (ba.mono B_wa.size)
    have oD_wb := Lib.hid (own_below oD_wa.out ba)
    clear c0_wa c1_wa s0_wa oD_wa ba
    clear hb4 hwb
    clear z_wb
    skip
    have fz0 : wb.frozen? ⟨b4, 0, none⟩ = false := FZ0
    have fz1 : wb.frozen? ⟨b4, 1, none⟩ = false := FZ1
    have HLD := Lib.hid (fun W (b : Below b4 wb W) => link_belowK (own_link oD_wb.out) (m := k) (c := c1) (fun q hq => by have := LD3.out q hq; omega) b)
    have hwb4 : w.heap.size ≤ b4 := WB4
    have HC0 := Lib.hid (nil_cons (N := N) (by omega) (by omega))
    go_wp2_with fail
    go_loopw [23] (fun ii wr => ∃ (j : Nat) (A2 : Option Addr) (d2 : Nat), ii = .int .i64 j ∧ j ≤ k ∧ consR N (es.take j) = true ∧ wr.cell? ⟨b4, 0, none⟩ = some (.int .i64 N) ∧ wr.cell? ⟨b4, 1, none⟩ = some (.slice A2 j d2) ∧ wr.frozen? ⟨b4, 0, none⟩ = false ∧ wr.frozen? ⟨b4, 1, none⟩ = false ∧ wr.ownsRow (b4 + 1) 42 4 (.slice A2 j d2) j (cellsL (es.take j)) ∧ b4 < wr.heap.size ∧ Below b4 wb wr) (fun ii _ => k - (intOf ii).toNat)
    case atStart => exact ⟨0, none, 0, rfl, by omega, HC0.out, c2_wb, c3_wb, fz0, fz1, World.ownsRow_nil _ _ _ _, s1_wb, Below.refl _ _⟩
    case round =>
      obtain ⟨j, A2, d2, rfl, hj, hcs, n0, n1, z0, z1, hown, hsz, hb⟩ := hrel
      have p0 : wr.cell? ⟨b3, 0, none⟩ = some (.int .i64 N) := (hb.cell (p := ⟨b3, 0, none⟩) (by dsimp only; omega)).trans c0_wb
      have p1 : wr.cell? ⟨b3, 1, none⟩ = some (.slice D1 k c1) := (hb.cell (p := ⟨b3, 1, none⟩) (by dsimp only; omega)).trans c1_wb
      have B_wr : Below w.heap.size w wr := B_wb.trans (hb.mono hwb4)
      have HCS := Lib.hid hcs
      have HOW := Lib.hid hown
      have HBB := Lib.hid hb
      have hjl : (es.take j).length = j := by rw [List.length_take, HL.out]; omega
      have HJL := Lib.hid hjl
      clear hcs hown hjl
      by_cases hlt2 : j < k
      · obtain ⟨gg, oo, hD, hgg, hcc⟩ := (HLD.out wr hb) (by have := HL.out; omega)
        obtain ⟨q0, q1, q2, q3⟩ := hcc j (by have := HL.out; omega)
        have hej : es[j]? = some (es[j]'(by have := HL.out; omega)) := List.getElem?_eq_getElem _
        obtain ⟨e, he⟩ : ∃ e, e = es[j]'(by have := HL.out; omega) := ⟨_, rfl⟩
        rw [← he] at q0 q1 q2 q3 hej
        have htk : es.take (j + 1) = es.take j ++ [e] := by rw [List.take_add_one, hej]; rfl
        have HTK := Lib.hid htk
        have hwl := fun W h' => HWL.out (es.take j) e A2 j d2 W HJL.out (by omega) (okS_take HOK.out j) (by rw [← htk]; exact okS_take HOK.out (j + 1)) h'
        rw [← htk] at hwl
        obtain ⟨u, v, lo, hi'⟩ := e
        dsimp only at q0 q1 q2 q3 hwl
        have HW := Lib.hid hwl
        subst hD
        have ng : (b4 = wr.heap.size) = False := eq_false (by omega)
        have ng3 : (b3 = wr.heap.size) = False := eq_false (by omega)
        have sb3 : b3 < wr.heap.size := by omega
        have ngg : (gg = wr.heap.size) = False := eq_false (by omega)
        have HLX := Lib.hid (own_link HOW.out)
        clear hcc hej he htk hwl hb
        go_wp2_with fail
        refine (HW.out _ (HLX.out.below (by repeat (first | exact Below.refl _ _ | refine below_step (by assumption) (by first | omega | (simp; done) | (simp; omega)) ?_ | refine below_drewN ?_ _ | refine Below.drew ?_ | refine Below.setCell ?_ (by first | omega | (simp; done) | (simp; omega)) _ | refine Below.alloc ?_ (by first | omega | (simp; done) | (simp; omega)) _)))).mono ?_
        rintro x w2 ⟨B7, c7, rfl, h7, b2⟩
        have n0_2 : w2.cell? ⟨b4, 0, none⟩ = some (.int .i64 N) := (b2.cell (p := ⟨b4, 0, none⟩) (by first | omega | (simp; done) | (simp; omega))).trans (by first | assumption | go_simp)
        have n1_2 : w2.cell? ⟨b4, 1, none⟩ = some (.slice A2 j d2) := (b2.cell (p := ⟨b4, 1, none⟩) (by first | omega | (simp; done) | (simp; omega))).trans (by first | assumption | go_simp)
        have p0_2 : w2.cell? ⟨b3, 0, none⟩ = some (.int .i64 N) := (b2.cell (p := ⟨b3, 0, none⟩) (by first | omega | (simp; done) | (simp; omega))).trans (by first | assumption | go_simp)
        have p1_2 : w2.cell? ⟨b3, 1, none⟩ = some (.slice (some ⟨gg, oo, none⟩) k c1) := (b2.cell (p := ⟨b3, 1, none⟩) (by first | omega | (simp; done) | (simp; omega))).trans (by first | assumption | go_simp)
        have z0_2 : w2.frozen? ⟨b4, 0, none⟩ = false := (b2.frozen (p := ⟨b4, 0, none⟩) (by first | omega | (simp; done) | (simp; omega))).trans (by first | assumption | go_simp)
        have z1_2 : w2.frozen? ⟨b4, 1, none⟩ = false := (b2.frozen (p := ⟨b4, 1, none⟩) (by first | omega | (simp; done) | (simp; omega))).trans (by first | assumption | go_simp)
        have s2 : b4 < w2.heap.size := Nat.lt_of_lt_of_le (by first | omega | (simp; done) | (simp; omega)) b2.size
        have hrr : Below wr.heap.size wr w2 := below_step b2 (by first | omega | (simp; done) | (simp; omega)) ((Below.refl _ _).alloc (Nat.le_refl _) _)
        have B_w2 : Below w.heap.size w w2 := B_wr.trans (hrr.mono B_wr.size)
        have HB2 := Lib.hid (HBB.out.trans (hrr.mono (by omega)))
        have HOW2 := Lib.hid (own_below HOW.out hrr)
        have lt7 := h7.lt
        have h7s : b4 + 1 ≤ (wr.alloc (.cells #[.int .i64 u, .int .i64 v, .int .i64 lo, .int .i64 hi'] 42)).heap.size := by simp; omega
        have H7 := Lib.hid (own_base h7 h7s)
        obtain ⟨b7, hb7⟩ : ∃ b, b = w2.heap.size := ⟨_, rfl⟩
        obtain ⟨w3, hw3⟩ : ∃ W, W = w2.alloc (.cells #[.int .i64 N, .slice B7 (j + 1) c7] 25) := ⟨_, rfl⟩
        have ba : Below w2.heap.size w2 w3 := by rw [hw3]; exact (Below.refl _ _).alloc (Nat.le_refl _) _
        have m0 : w3.cell? ⟨b7, 0, none⟩ = some (.int .i64 N) := by rw [hw3, hb7]; go_simp
        have m1 : w3.cell? ⟨b7, 1, none⟩ = some (.slice B7 (j + 1) c7) := by rw [hw3, hb7]; go_simp
        have s7 : b7 < w3.heap.size := by rw [hw3, hb7]; simp
        have n0_3 : w3.cell? ⟨b4, 0, none⟩ = some (.int .i64 N) := (ba.cell (p := ⟨b4, 0, none⟩) (by dsimp only; omega)).trans n0_2
        have n1_3 : w3.cell? ⟨b4, 1, none⟩ = some (.slice A2 j d2) := (ba.cell (p := ⟨b4, 1, none⟩) (by dsimp only; omega)).trans n1_2
        have p0_3 : w3.cell? ⟨b3, 0, none⟩ = some (.int .i64 N) := (ba.cell (p := ⟨b3, 0, none⟩) (by dsimp only; omega)).trans p0_2
        have p1_3 : w3.cell? ⟨b3, 1, none⟩ = some (.slice (some ⟨gg, oo, none⟩) k c1) := (ba.cell (p := ⟨b3, 1, none⟩) (by dsimp only; omega)).trans p1_2
        have z0_3 : w3.frozen? ⟨b4, 0, none⟩ = false := (ba.frozen (p := ⟨b4, 0, none⟩) (by dsimp only; omega)).trans z0_2
        have z1_3 : w3.frozen? ⟨b4, 1, none⟩ = false := (ba.frozen (p := ⟨b4, 1, none⟩) (by dsimp only; omega)).trans z1_2
        have B_w3 : Below w.heap.size w w3 := B_w2.trans (ba.mono B_w2.size)
        have HB3 := Lib.hid (HB2.out.trans (ba.mono (by omega)))
        have HOW3 := Lib.hid (own_below HOW2.out ba)
        have H73 := Lib.hid (own_below H7.out ba)
        have u7 : b4 < b7 := by omega
        have u3 : b3 < b7 := by omega
        have lt73 : ∀ q, (Value.slice B7 (j + 1) c7).ownBlock = some q → q < b7 := fun q hq => by have := (lt7 q hq).2; omega
        go_upto_region 9 with (fail)
        rw [← hw3]
        try rw [← hb7]
        clear hw3 hb7 ba b2 h7 lt7 h7s n0_2 n1_2 p0_2 p1_2 z0_2 z1_2 s2 hrr B_w2 HB2 HOW2 H7 n0 n1 p0 p1 z0 z1 q0 q1 q2 q3 HBB HLX HW B_wr ng ng3 ngg
        have hj1 : (es.take (j + 1)).length = j + 1 := by rw [List.length_take, HL.out]; omega
        have hic := fun W h' => HIC.out (es.take (j + 1)) B7 (j + 1) c7 W hj1 (by omega) h'
        obtain ⟨cb, hcb⟩ : ∃ b, b = consR N (es.take (j + 1)) := ⟨_, rfl⟩
        rw [← hcb] at hic
        have HI := Lib.hid hic
        have HCB := Lib.hid hcb.symm
        have HJ1 := Lib.hid hj1
        clear hic hcb hj1
        go_wp2_with fail
        refine (HI.out _ (own_link H73.out)).mono ?_
        rintro x w4 ⟨rfl, b4b⟩
        have n0_4 : w4.cell? ⟨b4, 0, none⟩ = some (.int .i64 N) := (b4b.cell (p := ⟨b4, 0, none⟩) (by dsimp only; omega)).trans n0_3
        have n1_4 : w4.cell? ⟨b4, 1, none⟩ = some (.slice A2 j d2) := (b4b.cell (p := ⟨b4, 1, none⟩) (by dsimp only; omega)).trans n1_3
        have p0_4 : w4.cell? ⟨b3, 0, none⟩ = some (.int .i64 N) := (b4b.cell (p := ⟨b3, 0, none⟩) (by dsimp only; omega)).trans p0_3
        have p1_4 : w4.cell? ⟨b3, 1, none⟩ = some (.slice (some ⟨gg, oo, none⟩) k c1) := (b4b.cell (p := ⟨b3, 1, none⟩) (by dsimp only; omega)).trans p1_3
        have m0_4 : w4.cell? ⟨b7, 0, none⟩ = some (.int .i64 N) := (b4b.cell (p := ⟨b7, 0, none⟩) (by dsimp only; omega)).trans m0
        have m1_4 : w4.cell? ⟨b7, 1, none⟩ = some (.slice B7 (j + 1) c7) := (b4b.cell (p := ⟨b7, 1, none⟩) (by dsimp only; omega)).trans m1
        have z0_4 : w4.frozen? ⟨b4, 0, none⟩ = false := (b4b.frozen (p := ⟨b4, 0, none⟩) (by dsimp only; omega)).trans z0_3
        have z1_4 : w4.frozen? ⟨b4, 1, none⟩ = false := (b4b.frozen (p := ⟨b4, 1, none⟩) (by dsimp only; omega)).trans z1_3
        have s7_4 : b7 < w4.heap.size := Nat.lt_of_lt_of_le s7 b4b.size
        have B_w4 : Below w.heap.size w w4 := B_w3.trans (b4b.mono B_w3.size)
        have HB4 := Lib.hid (HB3.out.trans (b4b.mono (by omega)))
        have HOW4 := Lib.hid (own_below HOW3.out b4b)
        have H74 := Lib.hid (own_below H73.out b4b)
        clear b4b n0_3 n1_3 p0_3 p1_3 m0 m1 z0_3 z1_3 s7 B_w3 HB3 HOW3 H73 HI
        cases cb with
        | true =>
          go_wp2_with fail
          go_roundw
          case rel => exact ⟨j + 1, B7, c7, by go_num, by omega, HCB.out, by go_simp, by go_simp, by go_simp, by go_simp, own_set (own_set H74.out _ _ (by dsimp only; omega)) _ _ (by dsimp only; omega), by simp; omega, (HB4.out.setCell (by dsimp only; omega) _).setCell (by dsimp only; omega) _⟩
          case measure => simp [intOf]; omega
        | false =>
          obtain ⟨zs, hzs⟩ : ∃ t, t = confR N (es.take (j + 1)) := ⟨_, rfl⟩
          obtain ⟨q, hq⟩ : ∃ t, t = zs.length := ⟨_, rfl⟩
          have hcf := fun W h' => ints_con hzs hq (HCF.out (es.take (j + 1)) B7 (j + 1) c7 W HJ1.out (by omega) h')
          have HCQ := Lib.hid hcf
          have hq8 : q ≤ 8 := by rw [hq, hzs]; exact confR_len _ _
          have hmem : (j : Int) ∈ zs := by have := conf_last (N := N) (ls := es.take j) (by rw [← HTK.out]; exact okS_take HOK.out (j + 1)) (okS_take HOK.out j) HCS.out (by rw [← HTK.out]; exact HCB.out); rw [HJL.out, ← HTK.out] at this; rw [hzs]; exact this
          have HM := Lib.hid hmem
          have HQ := Lib.hid hq
          clear hzs hq hcf hmem
          go_wp2_with fail
          refine (HCQ.out _ (own_link H74.out)).mono ?_
          rintro x w5 ⟨A9, c9, rfl, h9, b5b⟩
          have n0_5 : w5.cell? ⟨b4, 0, none⟩ = some (.int .i64 N) := (b5b.cell (p := ⟨b4, 0, none⟩) (by dsimp only; omega)).trans n0_4
          have n1_5 : w5.cell? ⟨b4, 1, none⟩ = some (.slice A2 j d2) := (b5b.cell (p := ⟨b4, 1, none⟩) (by dsimp only; omega)).trans n1_4
          have m0_5 : w5.cell? ⟨b7, 0, none⟩ = some (.int .i64 N) := (b5b.cell (p := ⟨b7, 0, none⟩) (by dsimp only; omega)).trans m0_4
          have m1_5 : w5.cell? ⟨b7, 1, none⟩ = some (.slice B7 (j + 1) c7) := (b5b.cell (p := ⟨b7, 1, none⟩) (by dsimp only; omega)).trans m1_4
          have s7_5 : b7 < w5.heap.size := Nat.lt_of_lt_of_le s7_4 b5b.size
          have B_w5 : Below w.heap.size w w5 := B_w4.trans (b5b.mono B_w4.size)
          have HOW5 := Lib.hid (own_below HOW4.out b5b)
          have H9 := Lib.hid (own_row h9)
          clear b5b h9 n0_4 n1_4 p0_4 p1_4 m0_4 m1_4 z0_4 z1_4 s7_4 B_w4 HB4 HOW4 H74
          go_wp2_with fail
          go_loopw [42] (fun pp wq => ∃ p : Nat, pp = .int .i64 p ∧ p ≤ q ∧ (∀ i (hi : i < zs.length), i < p → zs[i] ≠ (j : Int)) ∧ wq = w5) (fun pp _ => q - (intOf pp).toNat)
          case atStart => exact ⟨0, rfl, by omega, fun i hi h => by omega, rfl⟩
          case round =>
            obtain ⟨p, rfl, hp, hne, rfl⟩ := hrel
            have HNE := Lib.hid hne
            clear hne
            by_cases hpq : p < q
            · have hpz : p < zs.length := by have := HQ.out; omega
              obtain ⟨g9, o9, hA9, hg9, hc9⟩ := row_atC H9.out hpz
              obtain ⟨y, hy⟩ : ∃ y, y = zs[p] := ⟨_, rfl⟩
              rw [← hy] at hc9
              have HY := Lib.hid hy
              subst hA9
              clear hy
              by_cases hyj : y = (j : Int)
              · subst hyj
                have hjj : ((j : Int) == (j : Int)) = true := by simp
                have hic := fun W h' => HIC.out (es.take j) A2 j d2 W HJL.out (by omega) h'
                rw [HCS.out] at hic
                have HI2 := Lib.hid hic
                clear hic
                go_wp2_with fail
                refine (HI2.out _ (own_link HOW5.out)).mono ?_
                rintro x w6 ⟨rfl, b6b⟩
                have B_w6 : Below w.heap.size w w6 := B_w5.trans (b6b.mono B_w5.size)
                go_wp2_with fail
                go_ret
                exact ⟨rfl, B_w6⟩
              · have hjj : (y == (j : Int)) = false := by simp [hyj]
                have HNJ := Lib.hid hyj
                clear hyj
                go_wp2_with fail
                go_roundw
                case rel => exact ⟨p + 1, by go_num, by omega, fun i hi h => by rcases Nat.lt_or_ge i p with h2 | h2; exact HNE.out i hi h2; (have : i = p := by omega); subst this; rw [← HY.out]; exact HNJ.out, by first | rfl | trivial⟩
                case measure => simp [intOf]; omega
            · exfalso
              obtain ⟨i, hi, hi2⟩ := List.getElem_of_mem HM.out
              exact HNE.out i hi (by have := HQ.out; omega) hi2
      · have hjk : j = k := by omega
        subst hjk
        have htk : es.take j = es := List.take_of_length_le (by have := HL.out; omega)
        have hic := fun W h' => HIC.out (es.take j) A2 j d2 W HJL.out (by omega) h'
        rw [HCS.out] at hic
        have HI2 := Lib.hid hic
        clear hic htk
        have hll : ((j : Int) == (j : Int)) = true := by simp
        go_wp2_with fail
        refine (HI2.out _ (own_link HOW.out)).mono ?_
        rintro x w2 ⟨rfl, b2⟩
        have n1_2 : w2.cell? ⟨b4, 1, none⟩ = some (.slice A2 j d2) := (b2.cell (p := ⟨b4, 1, none⟩) (by first | omega | (simp; done) | (simp; omega))).trans (by first | assumption | go_simp)
        have p1_2 : w2.cell? ⟨b3, 1, none⟩ = some (.slice D1 j c1) := (b2.cell (p := ⟨b3, 1, none⟩) (by first | omega | (simp; done) | (simp; omega))).trans (by first | assumption | go_simp)
        have B_w2 : Below w.heap.size w w2 := B_wr.trans (b2.mono B_wr.size)
        go_wp2_with fail
        go_ret
        exact ⟨rfl, B_w2⟩
  · have hlt : (1048576 : Int) < (n : Int) := by omega
    go_enter Try.func4, Try.ntmps4
    go_wp2_with fail
    go_ret
    exact ⟨rfl, (by repeat (first | exact Below.refl _ _ | refine below_step (by assumption) (by first | omega | (simp; done) | (simp; omega)) ?_ | refine below_drewN ?_ _ | refine Below.drew ?_ | refine Below.setCell ?_ (by first | omega | (simp; done) | (simp; omega)) _ | refine Below.alloc ?_ (by first | omega | (simp; done) | (simp; omega)) _))⟩

/-! ### FnConflicts: the row -/

set_option maxRecDepth 100000 in
theorem FnConflicts_lifted (os : Os) (started : os.Started) (H : Type) (enc : TypeId × Value → H) :
    ReturnsInHanded {} Try.checked os 4 .any (Rows.fnConflictsSpec.pre6 enc Try.prog Try.f4 Rows.fnConflictsRow.domain false) (Rows.fnConflictsSpec.post enc Try.prog Try.f4 false true false false) := by
  refine returnsInHanded_of_change (C := Try.checked) (by kernel_rfl) started (by kernel_rfl) Try.func4
    (ChangeSpec.witness6 (enc := enc) (C := Try.checked) false ⟨#[], #[.slice none 0 0], []⟩ 8 (by kernel_rfl) (by kernel_rfl) (by kernel_rfl) (by kernel_rfl)) ?_
  intro W base args ds gs before hval0 hW hcnd _
  have hval : ∀ (j : Nat) t v, Try.f4.params[j]? = some t → args[j]? = some v → Value.okWide Try.prog W .any base t v := hval0
  have hW2 := hW
  obtain ⟨p, q, hA0, hV, hpq, hfz, hnd⟩ := hW2
  have hA : DataW.TrodAll enc Try.prog W 0 (fun _ => true) true Try.f4.params.toList args.toList ds p := hA0
  rw [Try.params4] at hA hval
  obtain ⟨v0, d0, hargs, hds, h0⟩ := trodAll_one hA
  obtain ⟨hgs, hq⟩ := trodVars_none hV
  subst hargs
  subst hds
  subst hgs
  obtain ⟨A0, n0, c0, rfl⟩ := okWide_slice Try.underlying22 (hval 0 22 v0 rfl rfl)
  have h0b := h0
  obtain ⟨fuel, hf⟩ := h0b
  obtain ⟨hm, hby⟩ := bytes_in Try.underlying22 Try.underlying5 cells_u8 hf
  refine (FnConflicts_walk A0 n0 c0 W hby).mono fun e W2 ⟨he, hb⟩ => ?_
  subst he
  exact ⟨_, rfl, law_post (by kernel_rfl) (by rw [Try.params4]; decide +kernel) (by kernel_rfl) Try.underlying4 rfl ⟨rfl, rfl, rfl⟩ hW hb⟩

theorem FnConflicts_holds : Rows.FnConflictsSaid :=
  OpenClaim.holds_of_wide 4 Try.f4 rfl rfl rfl rfl rfl rfl rfl ⟨rfl, rfl, rfl, rfl, rfl⟩ rfl rfl rfl rfl rfl (by kernel_rfl) Try.func4 (by kernel_rfl)
    (of_decide_eq_true (by kernel_rfl)) (by unfold Func.isWrapper; first | (rw [if_pos (by decide +kernel)]; kernel_rfl) | (rw [if_neg (by decide +kernel)]; exact ⟨rfl, rfl⟩))
    (fun os started H enc _ => FnConflicts_lifted os started H enc)

end Go.Proofs.Ytnhdfnfiicioiaa

