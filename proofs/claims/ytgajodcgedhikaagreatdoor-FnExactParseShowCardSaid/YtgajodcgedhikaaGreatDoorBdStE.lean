/-
  WALKS of spec.l09Node and spec.l09ParseTie.
  SHOWS READ: what the reader of lines has, and the memory of a show that grows.
-/
import Derived.Test.YtgajodcgedhikaaGreatDoorBdLwM
import Derived.Test.YtgajodcgedhikaaGreatDoorBdParse
import Derived.Deep.RegionHeld3
import Derived.Deep.Cut
import Derived.Deep.CutRange
namespace Go.Proofs.YtgajodcgedhikaaGreatDoor
open Go.RowKit
set_option linter.unusedVariables false
set_option linter.unusedSimpArgs false

theorem row_at9 {w : World} {A : Option Addr} {ws : List ByteArray} (h : RowAt w A (ws.map Value.string)) {q : Nat} (hq : q < ws.length) : ∃ g o, A = some ⟨g, o, none⟩ ∧ g < w.heap.size ∧ ∀ j, j < ws.length → w.cell? ⟨g, o + j, none⟩ = some (.string (wAt ws j)) := by
  obtain ⟨g, o, hA, hg, hc⟩ := h (by simp; omega)
  refine ⟨g, o, hA, hg, fun j hj => ?_⟩
  have := hc j (by simp; omega)
  unfold wAt
  rw [List.getElem?_eq_getElem hj]
  simpa using this
theorem str_is {x b : ByteArray} {l : List UInt8} (h : b.toList = l) : (x.toList == l) = decide (x = b) := by
  subst h
  by_cases hq : x = b
  · rw [bytes_same hq, decide_eq_true hq]
  · rw [bytes_other hq, decide_eq_false hq]
theorem wAt_size {ws : List ByteArray} (h : ∀ x ∈ ws, x.size ≤ 1048576) (j : Nat) : (wAt ws j).size ≤ 1048576 := by
  unfold wAt
  cases he : ws[j]? with
  | none => show (ByteArray.mk #[]).size ≤ _; exact Nat.zero_le _
  | some x => exact h x (List.mem_of_getElem? he)
/-- What the reader of a node's line hands back. -/
structure NdEnd (ws : List ByteArray) (w w' : World) (e : Ending) : Prop where
  ex : ∃ (x : GN) (L : Option Addr) (c : Nat) (ok : Bool), e = .returned (.tuple #[.agg #[.string x.name, .slice L x.lab.length c, .int .i64 x.wat], .bool ok]) ∧ lnN ws = (if ok then some x else none) ∧ w'.ownsRow w.heap.size 3 1 (.slice L x.lab.length c) x.lab.length (x.lab.map intV) ∧ Below w.heap.size w w'

set_option maxRecDepth 100000 in
set_option maxHeartbeats 16000000 in
theorem spec_l09Node (ws : List ByteArray) (A : Option Addr) (n c : Nat) (w : World) (hl : ws.length = n) (hn : n ≤ 1048577) (hsz : ∀ x ∈ ws, x.size ≤ 1048576) (hr : RowAt w A (ws.map Value.string)) :
    Calls Tryz.prog 12 #[.slice A n c] w fun e w' => NdEnd ws w w' e := by
  have HR := Lib.hid hr
  have HL := Lib.hid hl
  have HSZ := Lib.hid hsz
  clear hr hl hsz
  by_cases h35 : n = 3 ∨ n = 5
  · have HN := Lib.hid (show lnN ws = (if (parL (wAt ws 2)).2 then some ⟨wAt ws 1, (parL (wAt ws 2)).1, if n = 5 then (parseOf (wAt ws 4)).getD 0 else 0⟩ else none) from by unfold lnN; rw [HL.out, if_pos h35])
    obtain ⟨g, o, rfl, hg, hc⟩ := row_at9 HR.out (q := 0) (by have := HL.out; omega)
    have k1 := hc 1 (by have := HL.out; omega)
    have k2 := hc 2 (by have := HL.out; omega)
    have hPL := fun W => spec_ParseLabel (wAt ws 2) W (wAt_size HSZ.out 2)
    obtain ⟨x1, hx1⟩ : ∃ x, x = wAt ws 1 := ⟨_, rfl⟩
    obtain ⟨x2, hx2⟩ : ∃ x, x = wAt ws 2 := ⟨_, rfl⟩
    obtain ⟨zs, hzs⟩ : ∃ z, z = (parL (wAt ws 2)).1 := ⟨_, rfl⟩
    obtain ⟨ok, hok⟩ : ∃ z, z = (parL (wAt ws 2)).2 := ⟨_, rfl⟩
    rw [← hzs, ← hok, ← hx2] at hPL
    rw [← hzs, ← hok, ← hx1] at HN
    rw [← hx1] at k1
    rw [← hx2] at k2
    have HPL := Lib.hid hPL
    clear hPL hx2 hzs hok hx1
    have hn1 : (1 : Int) < (n : Int) := by omega
    have hn2 : (2 : Int) < (n : Int) := by omega
    by_cases h5 : n = 5
    · have k4 := hc 4 (by have := HL.out; omega)
      have hPI := fun W => spec_ParseInt (wAt ws 4) W (wAt_size HSZ.out 4)
      obtain ⟨x4, hx4⟩ : ∃ x, x = wAt ws 4 := ⟨_, rfl⟩
      obtain ⟨v, hv⟩ : ∃ x, x = (parseOf (wAt ws 4)).getD 0 := ⟨_, rfl⟩
      obtain ⟨bs, hbs⟩ : ∃ x, x = (parseOf (wAt ws 4)).isSome := ⟨_, rfl⟩
      have HN5 := Lib.hid (show lnN ws = if ok then some ⟨x1, zs, v⟩ else none from by rw [HN.out, if_pos h5, ← hv])
      rw [← hv, ← hbs, ← hx4] at hPI
      rw [← hx4] at k4
      have HPI := Lib.hid hPI
      have hd3 : ((n : Int) != 3) = true := by simp; omega
      have hd5 : ((n : Int) != 5) = false := by simp; omega
      have he5 : ((n : Int) == 5) = true := by simp; omega
      have hn4 : (4 : Int) < (n : Int) := by omega
      clear hc hPI hx4 hv hbs h5 h35 HN
      go_enter Tryz.func12, Tryz.ntmps12
      have zg : g < w.heap.size := hg
      go_wp2_with fail
      refine (HPL.out _).mono ?_
      rintro e w1 ⟨Lb, q, cb, rfl, hq, ho, b1⟩
      have c0_w1 : w1.cell? ⟨w.heap.size, 0, none⟩ = some (.string ⟨#[]⟩) := (b1.cell (p := ⟨w.heap.size, 0, none⟩) (by first | omega | (simp; done) | (simp; omega))).trans (by first | assumption | go_simp)
      have c1_w1 : w1.cell? ⟨w.heap.size, 1, none⟩ = some (.slice none 0 0) := (b1.cell (p := ⟨w.heap.size, 1, none⟩) (by first | omega | (simp; done) | (simp; omega))).trans (by first | assumption | go_simp)
      have c2_w1 : w1.cell? ⟨w.heap.size, 2, none⟩ = some (.int .i64 0) := (b1.cell (p := ⟨w.heap.size, 2, none⟩) (by first | omega | (simp; done) | (simp; omega))).trans (by first | assumption | go_simp)
      have c3_w1 : w1.cell? ⟨w.heap.size + 1, 0, none⟩ = some (.string x1) := (b1.cell (p := ⟨w.heap.size + 1, 0, none⟩) (by first | omega | (simp; done) | (simp; omega))).trans (by first | assumption | go_simp)
      have c4_w1 : w1.cell? ⟨w.heap.size + 1, 1, none⟩ = some (.slice none 0 0) := (b1.cell (p := ⟨w.heap.size + 1, 1, none⟩) (by first | omega | (simp; done) | (simp; omega))).trans (by first | assumption | go_simp)
      have c5_w1 : w1.cell? ⟨w.heap.size + 1, 2, none⟩ = some (.int .i64 0) := (b1.cell (p := ⟨w.heap.size + 1, 2, none⟩) (by first | omega | (simp; done) | (simp; omega))).trans (by first | assumption | go_simp)
      have c6_w1 : w1.cell? ⟨g, o + 4, none⟩ = some (.string x4) := (b1.cell (p := ⟨g, o + 4, none⟩) (by first | omega | (simp; done) | (simp; omega))).trans (by first | assumption | go_simp)
      have f0_w1 : w1.frozen? ⟨w.heap.size, 0, none⟩ = false := (b1.frozen (p := ⟨w.heap.size, 0, none⟩) (by first | omega | (simp; done) | (simp; omega))).trans (by first | assumption | go_simp)
      have f1_w1 : w1.frozen? ⟨w.heap.size, 1, none⟩ = false := (b1.frozen (p := ⟨w.heap.size, 1, none⟩) (by first | omega | (simp; done) | (simp; omega))).trans (by first | assumption | go_simp)
      have f2_w1 : w1.frozen? ⟨w.heap.size, 2, none⟩ = false := (b1.frozen (p := ⟨w.heap.size, 2, none⟩) (by first | omega | (simp; done) | (simp; omega))).trans (by first | assumption | go_simp)
      have f3_w1 : w1.frozen? ⟨w.heap.size + 1, 0, none⟩ = false := (b1.frozen (p := ⟨w.heap.size + 1, 0, none⟩) (by first | omega | (simp; done) | (simp; omega))).trans (by first | assumption | go_simp)
      have f4_w1 : w1.frozen? ⟨w.heap.size + 1, 1, none⟩ = false := (b1.frozen (p := ⟨w.heap.size + 1, 1, none⟩) (by first | omega | (simp; done) | (simp; omega))).trans (by first | assumption | go_simp)
      have f5_w1 : w1.frozen? ⟨w.heap.size + 1, 2, none⟩ = false := (b1.frozen (p := ⟨w.heap.size + 1, 2, none⟩) (by first | omega | (simp; done) | (simp; omega))).trans (by first | assumption | go_simp)
      have s0_w1 : w.heap.size < w1.heap.size := Nat.lt_of_lt_of_le (by first | omega | (simp; done) | (simp; omega)) b1.size
      have s1_w1 : w.heap.size + 1 < w1.heap.size := Nat.lt_of_lt_of_le (by first | omega | (simp; done) | (simp; omega)) b1.size
      have B_w1 : Below w.heap.size w w1 := (by repeat (first | exact Below.refl _ _ | refine below_step (by assumption) (by first | omega | (simp; done) | (simp; omega)) ?_ | refine below_drewN ?_ _ | refine Below.drew ?_ | refine Below.setCell ?_ (by first | omega | (simp; done) | (simp; omega)) _ | refine Below.alloc ?_ (by first | omega | (simp; done) | (simp; omega)) _))
      have HO := Lib.hid ho
      have HQ := Lib.hid hq
      have zg1 : g < w1.heap.size := Nat.lt_of_lt_of_le (by first | omega | (simp; done) | (simp; omega)) b1.size
      clear b1 ho hq k1 k2 k4
      go_wp2_with fail
      refine (HPI.out _).mono ?_
      rintro e w2 ⟨rfl, b2⟩
      have c0_w2 : w2.cell? ⟨w.heap.size, 0, none⟩ = some (.string ⟨#[]⟩) := (b2.cell (p := ⟨w.heap.size, 0, none⟩) (by first | omega | (simp; done) | (simp; omega))).trans (by first | assumption | go_simp)
      have c1_w2 : w2.cell? ⟨w.heap.size, 1, none⟩ = some (.slice none 0 0) := (b2.cell (p := ⟨w.heap.size, 1, none⟩) (by first | omega | (simp; done) | (simp; omega))).trans (by first | assumption | go_simp)
      have c2_w2 : w2.cell? ⟨w.heap.size, 2, none⟩ = some (.int .i64 0) := (b2.cell (p := ⟨w.heap.size, 2, none⟩) (by first | omega | (simp; done) | (simp; omega))).trans (by first | assumption | go_simp)
      have c3_w2 : w2.cell? ⟨w.heap.size + 1, 0, none⟩ = some (.string x1) := (b2.cell (p := ⟨w.heap.size + 1, 0, none⟩) (by first | omega | (simp; done) | (simp; omega))).trans (by first | assumption | go_simp)
      have c4_w2 : w2.cell? ⟨w.heap.size + 1, 1, none⟩ = some (.slice Lb q cb) := (b2.cell (p := ⟨w.heap.size + 1, 1, none⟩) (by first | omega | (simp; done) | (simp; omega))).trans (by first | assumption | go_simp)
      have c5_w2 : w2.cell? ⟨w.heap.size + 1, 2, none⟩ = some (.int .i64 0) := (b2.cell (p := ⟨w.heap.size + 1, 2, none⟩) (by first | omega | (simp; done) | (simp; omega))).trans (by first | assumption | go_simp)
      have c6_w2 : w2.cell? ⟨g, o + 4, none⟩ = some (.string x4) := (b2.cell (p := ⟨g, o + 4, none⟩) (by first | omega | (simp; done) | (simp; omega))).trans (by first | assumption | go_simp)
      have f0_w2 : w2.frozen? ⟨w.heap.size, 0, none⟩ = false := (b2.frozen (p := ⟨w.heap.size, 0, none⟩) (by first | omega | (simp; done) | (simp; omega))).trans (by first | assumption | go_simp)
      have f1_w2 : w2.frozen? ⟨w.heap.size, 1, none⟩ = false := (b2.frozen (p := ⟨w.heap.size, 1, none⟩) (by first | omega | (simp; done) | (simp; omega))).trans (by first | assumption | go_simp)
      have f2_w2 : w2.frozen? ⟨w.heap.size, 2, none⟩ = false := (b2.frozen (p := ⟨w.heap.size, 2, none⟩) (by first | omega | (simp; done) | (simp; omega))).trans (by first | assumption | go_simp)
      have f3_w2 : w2.frozen? ⟨w.heap.size + 1, 0, none⟩ = false := (b2.frozen (p := ⟨w.heap.size + 1, 0, none⟩) (by first | omega | (simp; done) | (simp; omega))).trans (by first | assumption | go_simp)
      have f4_w2 : w2.frozen? ⟨w.heap.size + 1, 1, none⟩ = false := (b2.frozen (p := ⟨w.heap.size + 1, 1, none⟩) (by first | omega | (simp; done) | (simp; omega))).trans (by first | assumption | go_simp)
      have f5_w2 : w2.frozen? ⟨w.heap.size + 1, 2, none⟩ = false := (b2.frozen (p := ⟨w.heap.size + 1, 2, none⟩) (by first | omega | (simp; done) | (simp; omega))).trans (by first | assumption | go_simp)
      have s0_w2 : w.heap.size < w2.heap.size := Nat.lt_of_lt_of_le (by first | omega | (simp; done) | (simp; omega)) b2.size
      have s1_w2 : w.heap.size + 1 < w2.heap.size := Nat.lt_of_lt_of_le (by first | omega | (simp; done) | (simp; omega)) b2.size
      have B_w2 : Below w.heap.size w w2 := (by repeat (first | exact Below.refl _ _ | refine below_step (by assumption) (by first | omega | (simp; done) | (simp; omega)) ?_ | refine below_drewN ?_ _ | refine Below.drew ?_ | refine Below.setCell ?_ (by first | omega | (simp; done) | (simp; omega)) _ | refine Below.alloc ?_ (by first | omega | (simp; done) | (simp; omega)) _))
      have HO2 := Lib.hid (own_below (own_set HO.out ⟨w.heap.size + 1, 1, none⟩ (.slice Lb q cb) (by simp)) b2)
      clear b2 c0_w1 c1_w1 c2_w1 c3_w1 c4_w1 c5_w1 c6_w1 f0_w1 f1_w1 f2_w1 f3_w1 f4_w1 f5_w1 s0_w1 s1_w1 B_w1 HO
      go_wp2_with fail
      refine bodyPost_ret (v := .tuple #[.agg #[.string x1, .slice Lb q cb, .int .i64 v], .bool ok]) (by first | (simp [results, Tryz.results12, go_sem]; done) | simp [*, results, Tryz.results12, go_sem]) rfl ⟨⟨x1, zs, v⟩, Lb, cb, ok, ?_, HN5.out, ?_, ?_⟩
      · rw [HQ.out]
      · rw [← HQ.out]
        refine own_base (B := w.heap.size + 1 + 1) ?_ (by omega)
        have h3 := HO2.out
        simp at h3
        repeat (refine own_set ?_ _ _ (by first | (simp; done) | (simp; omega)))
        exact h3
      · exact by repeat (first | exact B_w2 | refine Below.setCell ?_ (by first | omega | (simp; done) | (simp; omega)) _)
    · have HN3 := Lib.hid (show lnN ws = if ok then some ⟨x1, zs, 0⟩ else none from by rw [HN.out, if_neg h5])
      have hd3 : ((n : Int) != 3) = false := by simp; omega
      have he5 : ((n : Int) == 5) = false := by simp; omega
      clear hc h5 h35 HN
      go_enter Tryz.func12, Tryz.ntmps12
      have zg : g < w.heap.size := hg
      go_wp2_with fail
      refine (HPL.out _).mono ?_
      rintro e w1 ⟨Lb, q, cb, rfl, hq, ho, b1⟩
      have c0_w1 : w1.cell? ⟨w.heap.size, 0, none⟩ = some (.string ⟨#[]⟩) := (b1.cell (p := ⟨w.heap.size, 0, none⟩) (by first | omega | (simp; done) | (simp; omega))).trans (by first | assumption | go_simp)
      have c1_w1 : w1.cell? ⟨w.heap.size, 1, none⟩ = some (.slice none 0 0) := (b1.cell (p := ⟨w.heap.size, 1, none⟩) (by first | omega | (simp; done) | (simp; omega))).trans (by first | assumption | go_simp)
      have c2_w1 : w1.cell? ⟨w.heap.size, 2, none⟩ = some (.int .i64 0) := (b1.cell (p := ⟨w.heap.size, 2, none⟩) (by first | omega | (simp; done) | (simp; omega))).trans (by first | assumption | go_simp)
      have c3_w1 : w1.cell? ⟨w.heap.size + 1, 0, none⟩ = some (.string x1) := (b1.cell (p := ⟨w.heap.size + 1, 0, none⟩) (by first | omega | (simp; done) | (simp; omega))).trans (by first | assumption | go_simp)
      have c4_w1 : w1.cell? ⟨w.heap.size + 1, 1, none⟩ = some (.slice none 0 0) := (b1.cell (p := ⟨w.heap.size + 1, 1, none⟩) (by first | omega | (simp; done) | (simp; omega))).trans (by first | assumption | go_simp)
      have c5_w1 : w1.cell? ⟨w.heap.size + 1, 2, none⟩ = some (.int .i64 0) := (b1.cell (p := ⟨w.heap.size + 1, 2, none⟩) (by first | omega | (simp; done) | (simp; omega))).trans (by first | assumption | go_simp)
      have f0_w1 : w1.frozen? ⟨w.heap.size, 0, none⟩ = false := (b1.frozen (p := ⟨w.heap.size, 0, none⟩) (by first | omega | (simp; done) | (simp; omega))).trans (by first | assumption | go_simp)
      have f1_w1 : w1.frozen? ⟨w.heap.size, 1, none⟩ = false := (b1.frozen (p := ⟨w.heap.size, 1, none⟩) (by first | omega | (simp; done) | (simp; omega))).trans (by first | assumption | go_simp)
      have f2_w1 : w1.frozen? ⟨w.heap.size, 2, none⟩ = false := (b1.frozen (p := ⟨w.heap.size, 2, none⟩) (by first | omega | (simp; done) | (simp; omega))).trans (by first | assumption | go_simp)
      have f3_w1 : w1.frozen? ⟨w.heap.size + 1, 0, none⟩ = false := (b1.frozen (p := ⟨w.heap.size + 1, 0, none⟩) (by first | omega | (simp; done) | (simp; omega))).trans (by first | assumption | go_simp)
      have f4_w1 : w1.frozen? ⟨w.heap.size + 1, 1, none⟩ = false := (b1.frozen (p := ⟨w.heap.size + 1, 1, none⟩) (by first | omega | (simp; done) | (simp; omega))).trans (by first | assumption | go_simp)
      have f5_w1 : w1.frozen? ⟨w.heap.size + 1, 2, none⟩ = false := (b1.frozen (p := ⟨w.heap.size + 1, 2, none⟩) (by first | omega | (simp; done) | (simp; omega))).trans (by first | assumption | go_simp)
      have s0_w1 : w.heap.size < w1.heap.size := Nat.lt_of_lt_of_le (by first | omega | (simp; done) | (simp; omega)) b1.size
      have s1_w1 : w.heap.size + 1 < w1.heap.size := Nat.lt_of_lt_of_le (by first | omega | (simp; done) | (simp; omega)) b1.size
      have B_w1 : Below w.heap.size w w1 := (by repeat (first | exact Below.refl _ _ | refine below_step (by assumption) (by first | omega | (simp; done) | (simp; omega)) ?_ | refine below_drewN ?_ _ | refine Below.drew ?_ | refine Below.setCell ?_ (by first | omega | (simp; done) | (simp; omega)) _ | refine Below.alloc ?_ (by first | omega | (simp; done) | (simp; omega)) _))
      have HO := Lib.hid ho
      have HQ := Lib.hid hq
      have zg1 : g < w1.heap.size := Nat.lt_of_lt_of_le (by first | omega | (simp; done) | (simp; omega)) b1.size
      clear b1 ho hq k1 k2
      go_wp2_with fail
      refine bodyPost_ret (v := .tuple #[.agg #[.string x1, .slice Lb q cb, .int .i64 0], .bool ok]) (by first | (simp [results, Tryz.results12, go_sem]; done) | simp [*, results, Tryz.results12, go_sem]) rfl ⟨⟨x1, zs, 0⟩, Lb, cb, ok, ?_, HN3.out, ?_, ?_⟩
      · rw [HQ.out]
      · rw [← HQ.out]
        refine own_base (B := w.heap.size + 1 + 1) ?_ (by omega)
        have h3 := HO.out
        simp at h3
        repeat (refine own_set ?_ _ _ (by first | (simp; done) | (simp; omega)))
        exact h3
      · exact by repeat (first | exact B_w1 | refine Below.setCell ?_ (by first | omega | (simp; done) | (simp; omega)) _)
  · have HN := Lib.hid (show lnN ws = none from by unfold lnN; rw [HL.out, if_neg h35])
    have hd3 : ((n : Int) != 3) = true := by simp; omega
    have hd5 : ((n : Int) != 5) = true := by simp; omega
    clear h35
    go_enter Tryz.func12, Tryz.ntmps12
    go_wp2_with fail
    refine bodyPost_ret (v := .tuple #[.agg #[.string ⟨#[]⟩, .slice none 0 0, .int .i64 0], .bool false]) (by first | (simp [results, Tryz.results12, go_sem]; done) | simp [*, results, Tryz.results12, go_sem]) rfl ⟨⟨⟨#[]⟩, [], 0⟩, none, 0, false, rfl, HN.out, World.ownsRow_nil _ _ _ _, (by repeat (first | exact Below.refl _ _ | refine below_step (by assumption) (by first | omega | (simp; done) | (simp; omega)) ?_ | refine below_drewN ?_ _ | refine Below.drew ?_ | refine Below.setCell ?_ (by first | omega | (simp; done) | (simp; omega)) _ | refine Below.alloc ?_ (by first | omega | (simp; done) | (simp; omega)) _))⟩

/-- What the reader of a tie's line hands back. -/
structure TiEnd (ns : List GN) (ws : List ByteArray) (w w' : World) (e : Ending) : Prop where
  ex : ∃ (x : GT) (ok : Bool), e = .returned (.tuple #[.agg #[.int .i64 x.u, .int .i64 x.v, .int .i64 x.lo, .int .i64 x.hi, .bool x.fr], .bool ok]) ∧ lnT ns ws = (if ok then some x else none) ∧ Below w.heap.size w w'
theorem cut29 {p q : Prop} (hp : p) (k : p → q) : q := k hp
theorem cell_new9 (x : World) (cs : Array Value) (T : TypeId) (j : Nat) (v : Value) (h : cs[j]? = some v) : (x.alloc (.cells cs T)).cell? ⟨x.heap.size, j, none⟩ = some v := by
  have := heap_alloc_new x (.cells cs T)
  dsimp only [World.cell?]
  rw [this]
  exact h
theorem frozen_new9 (x : World) (cs : Array Value) (T : TypeId) (j : Nat) : (x.alloc (.cells cs T)).frozen? ⟨x.heap.size, j, none⟩ = false := by
  have := heap_alloc_new x (.cells cs T)
  dsimp only [World.frozen?]
  rw [this]
  simp
theorem below_at {W W' : World} {b j : Nat} {v : Value} (hb : Below W.heap.size W W') (h : W.cell? ⟨b, j, none⟩ = some v) : W'.cell? ⟨b, j, none⟩ = some v := (hb.cell (p := ⟨b, j, none⟩) (spot_of h)).trans h
theorem old_alloc {W : World} {o : Obj} {b j : Nat} {v : Value} (h : W.cell? ⟨b, j, none⟩ = some v) : (W.alloc o).cell? ⟨b, j, none⟩ = some v := below_at ((Below.refl _ _).alloc (Nat.le_refl _) o) h
theorem old_drew {W : World} {b j : Nat} {v : Value} (h : W.cell? ⟨b, j, none⟩ = some v) : W.drew.cell? ⟨b, j, none⟩ = some v := h
/-- A tie's box, empty. -/
def BoxZ (W : World) (b : Nat) : Prop := W.cell? ⟨b, 0, none⟩ = some (.int .i64 0) ∧ W.cell? ⟨b, 1, none⟩ = some (.int .i64 0) ∧ W.cell? ⟨b, 2, none⟩ = some (.int .i64 0) ∧ W.cell? ⟨b, 3, none⟩ = some (.int .i64 0) ∧ W.cell? ⟨b, 4, none⟩ = some (.bool false) ∧ W.frozen? ⟨b, 0, none⟩ = false ∧ W.frozen? ⟨b, 1, none⟩ = false ∧ W.frozen? ⟨b, 2, none⟩ = false ∧ W.frozen? ⟨b, 3, none⟩ = false ∧ W.frozen? ⟨b, 4, none⟩ = false
theorem BoxZ.new (x : World) {T : TypeId} : BoxZ (x.alloc (.cells #[.int .i64 0, .int .i64 0, .int .i64 0, .int .i64 0, .bool false] T)) x.heap.size :=
  ⟨cell_new9 _ _ _ _ _ rfl, cell_new9 _ _ _ _ _ rfl, cell_new9 _ _ _ _ _ rfl, cell_new9 _ _ _ _ _ rfl, cell_new9 _ _ _ _ _ rfl, frozen_new9 _ _ _ _, frozen_new9 _ _ _ _, frozen_new9 _ _ _ _, frozen_new9 _ _ _ _, frozen_new9 _ _ _ _⟩
theorem BoxZ.newd (x : World) {T : TypeId} : BoxZ (x.drew.alloc (.cells #[.int .i64 0, .int .i64 0, .int .i64 0, .int .i64 0, .bool false] T)) x.heap.size := BoxZ.new x.drew
theorem BoxZ.newe (x : World) {T : TypeId} : BoxZ ((x.alloc (.cells #[.int .i64 0, .int .i64 0, .int .i64 0, .int .i64 0, .bool false] T)).drew) x.heap.size := BoxZ.new x
/-- A tie's box with its ends and its mark. -/
def BoxT (W : World) (b : Nat) (u v : Int) (f : Bool) : Prop := W.cell? ⟨b, 0, none⟩ = some (.int .i64 u) ∧ W.cell? ⟨b, 1, none⟩ = some (.int .i64 v) ∧ W.cell? ⟨b, 2, none⟩ = some (.int .i64 0) ∧ W.cell? ⟨b, 3, none⟩ = some (.int .i64 0) ∧ W.cell? ⟨b, 4, none⟩ = some (.bool f) ∧ W.frozen? ⟨b, 0, none⟩ = false ∧ W.frozen? ⟨b, 1, none⟩ = false ∧ W.frozen? ⟨b, 2, none⟩ = false ∧ W.frozen? ⟨b, 3, none⟩ = false ∧ W.frozen? ⟨b, 4, none⟩ = false
theorem BoxT.new (x : World) {u v : Int} {f : Bool} {T : TypeId} : BoxT (x.alloc (.cells #[.int .i64 u, .int .i64 v, .int .i64 0, .int .i64 0, .bool f] T)) x.heap.size u v f :=
  ⟨cell_new9 _ _ _ _ _ rfl, cell_new9 _ _ _ _ _ rfl, cell_new9 _ _ _ _ _ rfl, cell_new9 _ _ _ _ _ rfl, cell_new9 _ _ _ _ _ rfl, frozen_new9 _ _ _ _, frozen_new9 _ _ _ _, frozen_new9 _ _ _ _, frozen_new9 _ _ _ _, frozen_new9 _ _ _ _⟩
theorem BoxT.set {W : World} {b : Nat} {u v : Int} {f : Bool} (h : BoxZ W b) : BoxT (((((W.setCell ⟨b, 0, none⟩ (.int .i64 u)).setCell ⟨b, 1, none⟩ (.int .i64 v)).setCell ⟨b, 2, none⟩ (.int .i64 0)).setCell ⟨b, 3, none⟩ (.int .i64 0)).setCell ⟨b, 4, none⟩ (.bool f)) b u v f := by
  obtain ⟨c0, c1, c2, c3, c4, g0, g1, g2, g3, g4⟩ := h
  refine ⟨?_, ?_, ?_, ?_, ?_, ?_, ?_, ?_, ?_, ?_⟩ <;> go_simp
theorem BoxZ.below {W W' : World} {b : Nat} (h : BoxZ W b) (hb : Below W.heap.size W W') : BoxZ W' b := by
  have hl := spot_of h.1
  obtain ⟨c0, c1, c2, c3, c4, f0, f1, f2, f3, f4⟩ := h
  exact ⟨(hb.cell (p := ⟨b, 0, none⟩) hl).trans c0, (hb.cell (p := ⟨b, 1, none⟩) hl).trans c1, (hb.cell (p := ⟨b, 2, none⟩) hl).trans c2, (hb.cell (p := ⟨b, 3, none⟩) hl).trans c3, (hb.cell (p := ⟨b, 4, none⟩) hl).trans c4,
    (hb.frozen (p := ⟨b, 0, none⟩) hl).trans f0, (hb.frozen (p := ⟨b, 1, none⟩) hl).trans f1, (hb.frozen (p := ⟨b, 2, none⟩) hl).trans f2, (hb.frozen (p := ⟨b, 3, none⟩) hl).trans f3, (hb.frozen (p := ⟨b, 4, none⟩) hl).trans f4⟩
theorem cell_off9 {w : World} {b q c o : Nat} {x v : Value} (h : w.cell? ⟨b, q, none⟩ = some v) (hne : b ≠ c) : (w.setCell ⟨c, o, none⟩ x).cell? ⟨b, q, none⟩ = some v :=
  (World.cell?_of_block (a := ⟨b, q, none⟩) (Below.heap_setCell _ _ _ _ hne)).trans h
theorem lnT_form {ns : List GN} {ws : List ByteArray} {n : Nat} (hl : ws.length = n) (h : n = 5) {f0 : Bool} (hf : f0 = decide (wAt ws 0 = ⟨#[102, 114, 101, 101]⟩)) : lnT ns ws = (if (parseOf (wAt ws 3)).isSome && (parseOf (wAt ws 4)).isSome then some ⟨namR ns (wAt ws 1), namR ns (wAt ws 2), (parseOf (wAt ws 3)).getD 0, (parseOf (wAt ws 4)).getD 0, f0⟩ else none) := by
  subst hf
  unfold lnT
  rw [if_pos (by omega)]
  cases parseOf (wAt ws 3) <;> cases parseOf (wAt ws 4) <;> rfl

set_option maxRecDepth 100000 in
set_option maxHeartbeats 16000000 in
theorem spec_l09ParseTie (s : GS) (ws : List ByteArray) (A : Option Addr) (k c : Nat) (B : Option Addr) (m d : Nat) (T : Option Addr) (n e : Nat) (w : World) (hk : k ≤ 1048576) (hl : ws.length = n) (hn : n ≤ 1048577) (hsz : ∀ x ∈ ws, x.size ≤ 1048576) (ha : ShowAt w s A k B m) (hr : RowAt w T (ws.map Value.string)) :
    Calls Tryz.prog 13 #[shV A k c B m d s.h, .slice T n e] w fun x w' => TiEnd s.ns ws w w' x := by
  have HNN := Lib.hid (fun x W h => spec_NodeNamed s x A k c B m d W hk h)
  have HA := Lib.hid ha
  have HR := Lib.hid hr
  have HL := Lib.hid hl
  have HSZ := Lib.hid hsz
  clear ha hr hl hsz
  obtain ⟨h, hhh⟩ : ∃ h, h = s.h := ⟨_, rfl⟩
  rw [← hhh] at HNN
  rw [← hhh]
  clear hhh
  unfold shV at HNN ⊢
  by_cases h5 : n = 5
  · obtain ⟨g, o, rfl, hg, hc⟩ := row_at9 HR.out (q := 0) (by have := HL.out; omega)
    have k0 := hc 0 (by have := HL.out; omega)
    have k1 := hc 1 (by have := HL.out; omega)
    have k2 := hc 2 (by have := HL.out; omega)
    have k3 := hc 3 (by have := HL.out; omega)
    have k4 := hc 4 (by have := HL.out; omega)
    rw [Nat.add_zero] at k0
    have hp3 := fun W => spec_ParseInt (wAt ws 3) W (wAt_size HSZ.out 3)
    have hp4 := fun W => spec_ParseInt (wAt ws 4) W (wAt_size HSZ.out 4)
    have hn1 := fun W h => HNN.out (wAt ws 1) W h
    have hn2 := fun W h => HNN.out (wAt ws 2) W h
    obtain ⟨f0, hf0⟩ : ∃ b, b = decide (wAt ws 0 = ⟨#[102, 114, 101, 101]⟩) := ⟨_, rfl⟩
    have hform := lnT_form (ns := s.ns) HL.out h5 hf0
    have hfr : ((wAt ws 0).toList == [102, 114, 101, 101]) = f0 := (str_is ((Lib.toList_data ⟨#[102, 114, 101, 101]⟩).trans rfl)).trans hf0.symm
    obtain ⟨x0, hx0⟩ : ∃ x, x = wAt ws 0 := ⟨_, rfl⟩
    obtain ⟨x1, hx1⟩ : ∃ x, x = wAt ws 1 := ⟨_, rfl⟩
    obtain ⟨x2, hx2⟩ : ∃ x, x = wAt ws 2 := ⟨_, rfl⟩
    obtain ⟨x3, hx3⟩ : ∃ x, x = wAt ws 3 := ⟨_, rfl⟩
    obtain ⟨x4, hx4⟩ : ∃ x, x = wAt ws 4 := ⟨_, rfl⟩
    rw [← hx0] at k0 hfr
    rw [← hx1] at k1 hn1 hform
    rw [← hx2] at k2 hn2 hform
    rw [← hx3] at k3 hp3 hform
    rw [← hx4] at k4 hp4 hform
    obtain ⟨a, ha⟩ : ∃ x, x = (parseOf x3).getD 0 := ⟨_, rfl⟩
    obtain ⟨oa, hoa⟩ : ∃ x, x = (parseOf x3).isSome := ⟨_, rfl⟩
    obtain ⟨b, hb⟩ : ∃ x, x = (parseOf x4).getD 0 := ⟨_, rfl⟩
    obtain ⟨ob, hob⟩ : ∃ x, x = (parseOf x4).isSome := ⟨_, rfl⟩
    obtain ⟨u, hu⟩ : ∃ x, x = namR s.ns x1 := ⟨_, rfl⟩
    obtain ⟨v, hv⟩ : ∃ x, x = namR s.ns x2 := ⟨_, rfl⟩
    rw [← ha, ← hoa] at hp3 hform
    rw [← hb, ← hob] at hp4 hform
    rw [← hu] at hn1 hform
    rw [← hv] at hn2 hform
    have H3 := Lib.hid hp3
    have H4 := Lib.hid hp4
    have HN1 := Lib.hid hn1
    have HN2 := Lib.hid hn2
    have HF := Lib.hid hform
    have hd : ((n : Int) != 5) = false := by simp; omega
    have i0 : (0 : Int) < (n : Int) := by omega
    have i0n : 0 < n := by omega
    have i1 : (1 : Int) < (n : Int) := by omega
    have i2 : (2 : Int) < (n : Int) := by omega
    have i3 : (3 : Int) < (n : Int) := by omega
    have i4 : (4 : Int) < (n : Int) := by omega
    clear hc hp3 hp4 hn1 hn2 hform hf0 hx0 hx1 hx2 hx3 hx4 ha hoa hb hob hu hv h5
    obtain ⟨w1, hw1⟩ : ∃ W, W = (w.alloc (.cells #[.slice A k c, .slice B m d, .int .i64 h] 25)).alloc (.cells #[.int .i64 0, .int .i64 0, .int .i64 0, .int .i64 0, .bool false] 42) := ⟨_, rfl⟩
    have B_w1 : Below w.heap.size w w1 := by rw [hw1]; exact (by repeat (first | exact Below.refl _ _ | refine below_step (by assumption) (by first | omega | (simp; done) | (simp; omega)) ?_ | refine below_drewN ?_ _ | refine Below.drew ?_ | refine Below.setCell ?_ (by first | omega | (simp; done) | (simp; omega)) _ | refine Below.alloc ?_ (by first | omega | (simp; done) | (simp; omega)) _))
    have z1_w1 : w.heap.size + 1 < w1.heap.size := by rw [hw1]; simp
    have z0_w1 : w.heap.size < w1.heap.size := by omega
    have zg_w1 : g < w1.heap.size := by omega
    have c0_w1 : w1.cell? ⟨w.heap.size, 0, none⟩ = some (.slice A k c) := by rw [hw1]; go_simp
    have c1_w1 : w1.cell? ⟨w.heap.size, 1, none⟩ = some (.slice B m d) := by rw [hw1]; go_simp
    have c2_w1 : w1.cell? ⟨w.heap.size, 2, none⟩ = some (.int .i64 h) := by rw [hw1]; go_simp
    have r0_w1 : w1.cell? ⟨w.heap.size + 1, 0, none⟩ = some (.int .i64 0) := by rw [hw1]; go_simp
    have r1_w1 : w1.cell? ⟨w.heap.size + 1, 1, none⟩ = some (.int .i64 0) := by rw [hw1]; go_simp
    have r2_w1 : w1.cell? ⟨w.heap.size + 1, 2, none⟩ = some (.int .i64 0) := by rw [hw1]; go_simp
    have r3_w1 : w1.cell? ⟨w.heap.size + 1, 3, none⟩ = some (.int .i64 0) := by rw [hw1]; go_simp
    have r4_w1 : w1.cell? ⟨w.heap.size + 1, 4, none⟩ = some (.bool false) := by rw [hw1]; go_simp
    have f0_w1 : w1.frozen? ⟨w.heap.size + 1, 0, none⟩ = false := by rw [hw1]; go_simp
    have f1_w1 : w1.frozen? ⟨w.heap.size + 1, 1, none⟩ = false := by rw [hw1]; go_simp
    have f2_w1 : w1.frozen? ⟨w.heap.size + 1, 2, none⟩ = false := by rw [hw1]; go_simp
    have f3_w1 : w1.frozen? ⟨w.heap.size + 1, 3, none⟩ = false := by rw [hw1]; go_simp
    have f4_w1 : w1.frozen? ⟨w.heap.size + 1, 4, none⟩ = false := by rw [hw1]; go_simp
    have k0_w1 := (B_w1.cell (p := ⟨g, o, none⟩) hg).trans k0
    have k1_w1 := (B_w1.cell (p := ⟨g, o + 1, none⟩) hg).trans k1
    have k2_w1 := (B_w1.cell (p := ⟨g, o + 2, none⟩) hg).trans k2
    have k3_w1 := (B_w1.cell (p := ⟨g, o + 3, none⟩) hg).trans k3
    have k4_w1 := (B_w1.cell (p := ⟨g, o + 4, none⟩) hg).trans k4
    have HA1 := Lib.hid (HA.out.below B_w1)
    have BW1 := Lib.hid B_w1
    have HW1 := Lib.hid hw1
    clear hw1 B_w1 k0 k1 k2 k3 k4
    go_enter Tryz.func13, Tryz.ntmps13
    go_upto_region 3 with (fail)
    rw [← HW1.out]
    clear HW1
    go_cut [6] from 15 to 29 (fun p wc => ∃ (Bx : Nat), p = Value.pointer (some ⟨Bx, 0, none⟩) ∧ w1.heap.size ≤ Bx ∧ Bx < wc.heap.size ∧ BoxT wc Bx u v f0 ∧ Below w1.heap.size w1 wc)
    case first =>
      go_region_held3 (fun W => W.cell? ⟨w.heap.size, 0, none⟩ = some (.slice A k c) ∧ W.cell? ⟨w.heap.size, 1, none⟩ = some (.slice B m d) ∧ W.cell? ⟨w.heap.size, 2, none⟩ = some (.int .i64 h) ∧ W.cell? ⟨g, o, none⟩ = some (.string x0) ∧ W.cell? ⟨g, o + 1, none⟩ = some (.string x1) ∧ W.cell? ⟨g, o + 2, none⟩ = some (.string x2)) (first | ((try dsimp only); refine ⟨?_, ?_, ?_, ?_, ?_, ?_⟩ <;> first | (with_reducible assumption) | (with_reducible refine cell_off9 ?_ ?_; (repeat (with_reducible refine cell_off9 ?_ ?_)); all_goals (first | with_reducible assumption | omega)) | ((repeat (first | with_reducible refine old_alloc ?_ | with_reducible refine old_drew ?_)); with_reducible assumption)) | (go_keep; done)) (first | (go_at_call_of 29 (Value.string x1); refine (HN1.out _ (HA1.out.below (w := w1) (by repeat (first | exact Below.refl _ _ | refine below_step (by assumption) (by first | omega | (simp; done) | (simp; omega)) ?_ | refine below_drewN ?_ _ | refine Below.drew ?_ | refine Below.setCell ?_ (by first | omega | (simp; done) | (simp; omega)) _ | refine Below.alloc ?_ (by first | omega | (simp; done) | (simp; omega)) _)))).mono ?_; rintro y x2w ⟨rfl, y2⟩; have c0_x2w : x2w.cell? ⟨w.heap.size, 0, none⟩ = some (.slice A k c) := below_at y2 (by first | with_reducible assumption | ((repeat (first | with_reducible refine old_alloc ?_ | with_reducible refine old_drew ?_)); with_reducible assumption) | go_simp); have c1_x2w : x2w.cell? ⟨w.heap.size, 1, none⟩ = some (.slice B m d) := below_at y2 (by first | with_reducible assumption | ((repeat (first | with_reducible refine old_alloc ?_ | with_reducible refine old_drew ?_)); with_reducible assumption) | go_simp); have c2_x2w : x2w.cell? ⟨w.heap.size, 2, none⟩ = some (.int .i64 h) := below_at y2 (by first | with_reducible assumption | ((repeat (first | with_reducible refine old_alloc ?_ | with_reducible refine old_drew ?_)); with_reducible assumption) | go_simp); have k0_x2w : x2w.cell? ⟨g, o, none⟩ = some (.string x0) := below_at y2 (by first | with_reducible assumption | ((repeat (first | with_reducible refine old_alloc ?_ | with_reducible refine old_drew ?_)); with_reducible assumption) | go_simp); have k1_x2w : x2w.cell? ⟨g, o + 1, none⟩ = some (.string x1) := below_at y2 (by first | with_reducible assumption | ((repeat (first | with_reducible refine old_alloc ?_ | with_reducible refine old_drew ?_)); with_reducible assumption) | go_simp); have k2_x2w : x2w.cell? ⟨g, o + 2, none⟩ = some (.string x2) := below_at y2 (by first | with_reducible assumption | ((repeat (first | with_reducible refine old_alloc ?_ | with_reducible refine old_drew ?_)); with_reducible assumption) | go_simp); have qy2 := y2.size; (try simp at qy2); (try (have uqw1 : BoxZ x2w w1.heap.size := BoxZ.below (by with_reducible first | assumption | exact BoxZ.new _ | exact BoxZ.newd _ | exact BoxZ.newe _) y2; have ⟨uc0w1, uc1w1, uc2w1, uc3w1, uc4w1, uf0w1, uf1w1, uf2w1, uf3w1, uf4w1⟩ := uqw1)); (try (have uqx3w : BoxZ x2w x3w.heap.size := BoxZ.below (by with_reducible first | assumption | exact BoxZ.new _ | exact BoxZ.newd _ | exact BoxZ.newe _) y2; have ⟨uc0x3w, uc1x3w, uc2x3w, uc3x3w, uc4x3w, uf0x3w, uf1x3w, uf2x3w, uf3x3w, uf4x3w⟩ := uqx3w))) | (go_at_call_of 29 (Value.string x2); refine (HN2.out _ (HA1.out.below (w := w1) (by repeat (first | exact Below.refl _ _ | refine below_step (by assumption) (by first | omega | (simp; done) | (simp; omega)) ?_ | refine below_drewN ?_ _ | refine Below.drew ?_ | refine Below.setCell ?_ (by first | omega | (simp; done) | (simp; omega)) _ | refine Below.alloc ?_ (by first | omega | (simp; done) | (simp; omega)) _)))).mono ?_; rintro y x3w ⟨rfl, y3⟩; have c0_x3w : x3w.cell? ⟨w.heap.size, 0, none⟩ = some (.slice A k c) := below_at y3 (by first | with_reducible assumption | ((repeat (first | with_reducible refine old_alloc ?_ | with_reducible refine old_drew ?_)); with_reducible assumption) | go_simp); have c1_x3w : x3w.cell? ⟨w.heap.size, 1, none⟩ = some (.slice B m d) := below_at y3 (by first | with_reducible assumption | ((repeat (first | with_reducible refine old_alloc ?_ | with_reducible refine old_drew ?_)); with_reducible assumption) | go_simp); have c2_x3w : x3w.cell? ⟨w.heap.size, 2, none⟩ = some (.int .i64 h) := below_at y3 (by first | with_reducible assumption | ((repeat (first | with_reducible refine old_alloc ?_ | with_reducible refine old_drew ?_)); with_reducible assumption) | go_simp); have k0_x3w : x3w.cell? ⟨g, o, none⟩ = some (.string x0) := below_at y3 (by first | with_reducible assumption | ((repeat (first | with_reducible refine old_alloc ?_ | with_reducible refine old_drew ?_)); with_reducible assumption) | go_simp); have k1_x3w : x3w.cell? ⟨g, o + 1, none⟩ = some (.string x1) := below_at y3 (by first | with_reducible assumption | ((repeat (first | with_reducible refine old_alloc ?_ | with_reducible refine old_drew ?_)); with_reducible assumption) | go_simp); have k2_x3w : x3w.cell? ⟨g, o + 2, none⟩ = some (.string x2) := below_at y3 (by first | with_reducible assumption | ((repeat (first | with_reducible refine old_alloc ?_ | with_reducible refine old_drew ?_)); with_reducible assumption) | go_simp); have qy3 := y3.size; (try simp at qy3); (try (have uqw1 : BoxZ x3w w1.heap.size := BoxZ.below (by with_reducible first | assumption | exact BoxZ.new _ | exact BoxZ.newd _ | exact BoxZ.newe _) y3; have ⟨uc0w1, uc1w1, uc2w1, uc3w1, uc4w1, uf0w1, uf1w1, uf2w1, uf3w1, uf4w1⟩ := uqw1)); (try (have uqx2w : BoxZ x3w x2w.heap.size := BoxZ.below (by with_reducible first | assumption | exact BoxZ.new _ | exact BoxZ.newd _ | exact BoxZ.newe _) y3; have ⟨uc0x2w, uc1x2w, uc2x2w, uc3x2w, uc4x2w, uf0x2w, uf1x2w, uf2x2w, uf3x2w, uf4x2w⟩ := uqx2w))))
      all_goals go_wp2_with fail
      all_goals (go_meet; refine ⟨_, rfl, ?_, ?_, ?_, ?_⟩)
      all_goals (first | with_reducible exact BoxT.new _ | with_reducible exact BoxT.set (by assumption) | omega | (simp; done) | (simp; omega) | ((repeat (first | exact Below.refl _ _ | refine below_step (by assumption) (by first | omega | (simp; done) | (simp; omega)) ?_ | refine below_drewN ?_ _ | refine Below.drew ?_ | refine Below.setCell ?_ (by first | omega | (simp; done) | (simp; omega)) _ | refine Below.alloc ?_ (by first | omega | (simp; done) | (simp; omega)) _)); done))
    case rest =>
      obtain ⟨w2, hww⟩ : ∃ W, W = wc := ⟨_, rfl⟩
      rw [← hww] at hcut ⊢
      clear hww wc
      obtain ⟨Bx, rfl, hlo, hhi, hbox, bR⟩ := hcut
      obtain ⟨b0, b1, b2, b3, b4, g0, g1, g2, g3, g4⟩ := hbox
      have r0_w2 : w2.cell? ⟨w.heap.size + 1, 0, none⟩ = some (.int .i64 0) := below_at bR r0_w1
      have r1_w2 : w2.cell? ⟨w.heap.size + 1, 1, none⟩ = some (.int .i64 0) := below_at bR r1_w1
      have r2_w2 : w2.cell? ⟨w.heap.size + 1, 2, none⟩ = some (.int .i64 0) := below_at bR r2_w1
      have r3_w2 : w2.cell? ⟨w.heap.size + 1, 3, none⟩ = some (.int .i64 0) := below_at bR r3_w1
      have r4_w2 : w2.cell? ⟨w.heap.size + 1, 4, none⟩ = some (.bool false) := below_at bR r4_w1
      have k3_w2 : w2.cell? ⟨g, o + 3, none⟩ = some (.string x3) := below_at bR k3_w1
      have k4_w2 : w2.cell? ⟨g, o + 4, none⟩ = some (.string x4) := below_at bR k4_w1
      have f0_w2 : w2.frozen? ⟨w.heap.size + 1, 0, none⟩ = false := (bR.frozen (p := ⟨w.heap.size + 1, 0, none⟩) z1_w1).trans f0_w1
      have f1_w2 : w2.frozen? ⟨w.heap.size + 1, 1, none⟩ = false := (bR.frozen (p := ⟨w.heap.size + 1, 1, none⟩) z1_w1).trans f1_w1
      have f2_w2 : w2.frozen? ⟨w.heap.size + 1, 2, none⟩ = false := (bR.frozen (p := ⟨w.heap.size + 1, 2, none⟩) z1_w1).trans f2_w1
      have f3_w2 : w2.frozen? ⟨w.heap.size + 1, 3, none⟩ = false := (bR.frozen (p := ⟨w.heap.size + 1, 3, none⟩) z1_w1).trans f3_w1
      have f4_w2 : w2.frozen? ⟨w.heap.size + 1, 4, none⟩ = false := (bR.frozen (p := ⟨w.heap.size + 1, 4, none⟩) z1_w1).trans f4_w1
      have b0_w2 := b0
      have b1_w2 := b1
      have b2_w2 := b2
      have b3_w2 := b3
      have b4_w2 := b4
      have g0_w2 := g0
      have g1_w2 := g1
      have g2_w2 := g2
      have g3_w2 := g3
      have g4_w2 := g4
      have z1_w2 : w.heap.size + 1 < w2.heap.size := Nat.lt_of_lt_of_le z1_w1 bR.size
      have zb_w2 : Bx < w2.heap.size := hhi
      have hne : w.heap.size + 1 < Bx := by omega
      have B_w2 : Below w.heap.size w w2 := BW1.out.trans (bR.mono BW1.out.size)
      have hwx : w.heap.size ≤ Bx := by omega
      clear c0_w1 c1_w1 c2_w1 r0_w1 r1_w1 r2_w1 r3_w1 r4_w1 f0_w1 f1_w1 f2_w1 f3_w1 f4_w1 k0_w1 k1_w1 k2_w1 k3_w1 k4_w1 b0 b1 b2 b3 b4 g0 g1 g2 g3 g4 bR hlo hhi z0_w1 zg_w1 z1_w1 HA1 BW1
      go_wp2_with fail
      refine (H3.out _).mono ?_
      rintro y w3 ⟨rfl, y3⟩
      have r0_w3 : w3.cell? ⟨w.heap.size + 1, 0, none⟩ = some (.int .i64 0) := below_at y3 r0_w2
      have r1_w3 : w3.cell? ⟨w.heap.size + 1, 1, none⟩ = some (.int .i64 0) := below_at y3 r1_w2
      have r2_w3 : w3.cell? ⟨w.heap.size + 1, 2, none⟩ = some (.int .i64 0) := below_at y3 r2_w2
      have r3_w3 : w3.cell? ⟨w.heap.size + 1, 3, none⟩ = some (.int .i64 0) := below_at y3 r3_w2
      have r4_w3 : w3.cell? ⟨w.heap.size + 1, 4, none⟩ = some (.bool false) := below_at y3 r4_w2
      have k3_w3 : w3.cell? ⟨g, o + 3, none⟩ = some (.string x3) := below_at y3 k3_w2
      have k4_w3 : w3.cell? ⟨g, o + 4, none⟩ = some (.string x4) := below_at y3 k4_w2
      have b0_w3 : w3.cell? ⟨Bx, 0, none⟩ = some (.int .i64 u) := below_at y3 b0_w2
      have b1_w3 : w3.cell? ⟨Bx, 1, none⟩ = some (.int .i64 v) := below_at y3 b1_w2
      have b2_w3 : w3.cell? ⟨Bx, 2, none⟩ = some (.int .i64 0) := below_at y3 b2_w2
      have b3_w3 : w3.cell? ⟨Bx, 3, none⟩ = some (.int .i64 0) := below_at y3 b3_w2
      have b4_w3 : w3.cell? ⟨Bx, 4, none⟩ = some (.bool f0) := below_at y3 b4_w2
      have f0_w3 : w3.frozen? ⟨w.heap.size + 1, 0, none⟩ = false := (y3.frozen (p := ⟨w.heap.size + 1, 0, none⟩) z1_w2).trans f0_w2
      have f1_w3 : w3.frozen? ⟨w.heap.size + 1, 1, none⟩ = false := (y3.frozen (p := ⟨w.heap.size + 1, 1, none⟩) z1_w2).trans f1_w2
      have f2_w3 : w3.frozen? ⟨w.heap.size + 1, 2, none⟩ = false := (y3.frozen (p := ⟨w.heap.size + 1, 2, none⟩) z1_w2).trans f2_w2
      have f3_w3 : w3.frozen? ⟨w.heap.size + 1, 3, none⟩ = false := (y3.frozen (p := ⟨w.heap.size + 1, 3, none⟩) z1_w2).trans f3_w2
      have f4_w3 : w3.frozen? ⟨w.heap.size + 1, 4, none⟩ = false := (y3.frozen (p := ⟨w.heap.size + 1, 4, none⟩) z1_w2).trans f4_w2
      have g0_w3 : w3.frozen? ⟨Bx, 0, none⟩ = false := (y3.frozen (p := ⟨Bx, 0, none⟩) zb_w2).trans g0_w2
      have g1_w3 : w3.frozen? ⟨Bx, 1, none⟩ = false := (y3.frozen (p := ⟨Bx, 1, none⟩) zb_w2).trans g1_w2
      have g2_w3 : w3.frozen? ⟨Bx, 2, none⟩ = false := (y3.frozen (p := ⟨Bx, 2, none⟩) zb_w2).trans g2_w2
      have g3_w3 : w3.frozen? ⟨Bx, 3, none⟩ = false := (y3.frozen (p := ⟨Bx, 3, none⟩) zb_w2).trans g3_w2
      have g4_w3 : w3.frozen? ⟨Bx, 4, none⟩ = false := (y3.frozen (p := ⟨Bx, 4, none⟩) zb_w2).trans g4_w2
      have z1_w3 : w.heap.size + 1 < w3.heap.size := Nat.lt_of_lt_of_le z1_w2 y3.size
      have zb_w3 : Bx < w3.heap.size := Nat.lt_of_lt_of_le zb_w2 y3.size
      have B_w3 : Below w.heap.size w w3 := B_w2.trans (y3.mono B_w2.size)
      clear y3 r0_w2 r1_w2 r2_w2 r3_w2 r4_w2 k3_w2 k4_w2 b0_w2 b1_w2 b2_w2 b3_w2 b4_w2 f0_w2 f1_w2 f2_w2 f3_w2 f4_w2 g0_w2 g1_w2 g2_w2 g3_w2 g4_w2 z1_w2 zb_w2 B_w2
      go_wp2_with fail
      refine (H4.out _).mono ?_
      rintro y w4 ⟨rfl, y4⟩
      have r0_w4 : w4.cell? ⟨w.heap.size + 1, 0, none⟩ = some (.int .i64 0) := below_at y4 r0_w3
      have r1_w4 : w4.cell? ⟨w.heap.size + 1, 1, none⟩ = some (.int .i64 0) := below_at y4 r1_w3
      have r2_w4 : w4.cell? ⟨w.heap.size + 1, 2, none⟩ = some (.int .i64 0) := below_at y4 r2_w3
      have r3_w4 : w4.cell? ⟨w.heap.size + 1, 3, none⟩ = some (.int .i64 0) := below_at y4 r3_w3
      have r4_w4 : w4.cell? ⟨w.heap.size + 1, 4, none⟩ = some (.bool false) := below_at y4 r4_w3
      have b0_w4 : w4.cell? ⟨Bx, 0, none⟩ = some (.int .i64 u) := below_at y4 b0_w3
      have b1_w4 : w4.cell? ⟨Bx, 1, none⟩ = some (.int .i64 v) := below_at y4 b1_w3
      have b2_w4 : w4.cell? ⟨Bx, 2, none⟩ = some (.int .i64 0) := below_at y4 b2_w3
      have b3_w4 : w4.cell? ⟨Bx, 3, none⟩ = some (.int .i64 0) := below_at y4 b3_w3
      have b4_w4 : w4.cell? ⟨Bx, 4, none⟩ = some (.bool f0) := below_at y4 b4_w3
      have f0_w4 : w4.frozen? ⟨w.heap.size + 1, 0, none⟩ = false := (y4.frozen (p := ⟨w.heap.size + 1, 0, none⟩) z1_w3).trans f0_w3
      have f1_w4 : w4.frozen? ⟨w.heap.size + 1, 1, none⟩ = false := (y4.frozen (p := ⟨w.heap.size + 1, 1, none⟩) z1_w3).trans f1_w3
      have f2_w4 : w4.frozen? ⟨w.heap.size + 1, 2, none⟩ = false := (y4.frozen (p := ⟨w.heap.size + 1, 2, none⟩) z1_w3).trans f2_w3
      have f3_w4 : w4.frozen? ⟨w.heap.size + 1, 3, none⟩ = false := (y4.frozen (p := ⟨w.heap.size + 1, 3, none⟩) z1_w3).trans f3_w3
      have f4_w4 : w4.frozen? ⟨w.heap.size + 1, 4, none⟩ = false := (y4.frozen (p := ⟨w.heap.size + 1, 4, none⟩) z1_w3).trans f4_w3
      have g0_w4 : w4.frozen? ⟨Bx, 0, none⟩ = false := (y4.frozen (p := ⟨Bx, 0, none⟩) zb_w3).trans g0_w3
      have g1_w4 : w4.frozen? ⟨Bx, 1, none⟩ = false := (y4.frozen (p := ⟨Bx, 1, none⟩) zb_w3).trans g1_w3
      have g2_w4 : w4.frozen? ⟨Bx, 2, none⟩ = false := (y4.frozen (p := ⟨Bx, 2, none⟩) zb_w3).trans g2_w3
      have g3_w4 : w4.frozen? ⟨Bx, 3, none⟩ = false := (y4.frozen (p := ⟨Bx, 3, none⟩) zb_w3).trans g3_w3
      have g4_w4 : w4.frozen? ⟨Bx, 4, none⟩ = false := (y4.frozen (p := ⟨Bx, 4, none⟩) zb_w3).trans g4_w3
      have z1_w4 : w.heap.size + 1 < w4.heap.size := Nat.lt_of_lt_of_le z1_w3 y4.size
      have zb_w4 : Bx < w4.heap.size := Nat.lt_of_lt_of_le zb_w3 y4.size
      have B_w4 : Below w.heap.size w w4 := B_w3.trans (y4.mono B_w3.size)
      clear y4 r0_w3 r1_w3 r2_w3 r3_w3 r4_w3 b0_w3 b1_w3 b2_w3 b3_w3 b4_w3 f0_w3 f1_w3 f2_w3 f3_w3 f4_w3 g0_w3 g1_w3 g2_w3 g3_w3 g4_w3 z1_w3 zb_w3 B_w3
      have nx1 : (w.heap.size + 1 = Bx) = False := eq_false (by omega)
      have nx2 : (Bx = w.heap.size + 1) = False := eq_false (by omega)
      clear HA HR HL HSZ HNN H3 H4 HN1 HN2 hk hn hg i0 i0n i1 i2 i3 i4 hd hfr
      cases oa with
      | false =>
        go_wp2_with fail
        refine bodyPost_ret (v := .tuple #[.agg #[.int .i64 u, .int .i64 v, .int .i64 a, .int .i64 b, .bool f0], .bool false]) (by first | (simp [results, Tryz.results13, go_sem]; done) | simp [*, results, Tryz.results13, go_sem]) rfl ⟨⟨u, v, a, b, f0⟩, false, rfl, by rw [HF.out]; rfl, ?_⟩
        exact by repeat (first | with_reducible exact B_w4 | with_reducible refine Below.setCell ?_ (by first | omega | (simp; done) | (simp; omega)) _)
      | true =>
        go_wp2_with fail
        refine bodyPost_ret (v := .tuple #[.agg #[.int .i64 u, .int .i64 v, .int .i64 a, .int .i64 b, .bool f0], .bool ob]) (by first | (simp [results, Tryz.results13, go_sem]; done) | simp [*, results, Tryz.results13, go_sem]) rfl ⟨⟨u, v, a, b, f0⟩, ob, rfl, by rw [HF.out]; rfl, ?_⟩
        exact by repeat (first | with_reducible exact B_w4 | with_reducible refine Below.setCell ?_ (by first | omega | (simp; done) | (simp; omega)) _)
  · have HN := Lib.hid (show lnT s.ns ws = none from by unfold lnT; rw [if_neg (by have := HL.out; omega)])
    have hd : ((n : Int) != 5) = true := by simp; omega
    clear h5
    go_enter Tryz.func13, Tryz.ntmps13
    go_wp2_with fail
    refine bodyPost_ret (v := .tuple #[.agg #[.int .i64 0, .int .i64 0, .int .i64 0, .int .i64 0, .bool false], .bool false]) (by first | (simp [results, Tryz.results13, go_sem]; done) | simp [*, results, Tryz.results13, go_sem]) rfl ⟨⟨0, 0, 0, 0, false⟩, false, rfl, HN.out, (by repeat (first | exact Below.refl _ _ | refine below_step (by assumption) (by first | omega | (simp; done) | (simp; omega)) ?_ | refine below_drewN ?_ _ | refine Below.drew ?_ | refine Below.setCell ?_ (by first | omega | (simp; done) | (simp; omega)) _ | refine Below.alloc ?_ (by first | omega | (simp; done) | (simp; omega)) _))⟩

end Go.Proofs.YtgajodcgedhikaaGreatDoor

namespace Go.Proofs.YtgajodcgedhikaaGreatDoor
open Go.RowKit
set_option linter.unusedVariables false
set_option linter.unusedSimpArgs false

/-- What is read so far is small. -/
structure PsOk (s : GS) : Prop where
  ns : s.ns.length ≤ 7
  ts : s.ts.length ≤ 14
  each : ∀ e ∈ s.ns, e.name.size ≤ 1048576 ∧ e.lab.length ≤ 3
theorem parL_len3 (s : ByteArray) : (parL s).1.length ≤ 3 := by
  unfold parL
  split
  · simp
  · split
    · split
      · rename_i h; exact labR_len h.1
      · exact Nat.zero_le _
    · exact Nat.zero_le _
theorem lnN_ok {w : List ByteArray} {e : GN} (hw : ∀ x ∈ w, x.size ≤ 1048576) (h : lnN w = some e) : e.name.size ≤ 1048576 ∧ e.lab.length ≤ 3 := by
  unfold lnN at h
  split at h
  · split at h
    · injection h with h
      subst h
      exact ⟨wAt_size hw 1, parL_len3 _⟩
    · cases h
  · cases h
theorem lnR_ok {s s2 : GS} {i : Nat} {w : List ByteArray} (hw : ∀ x ∈ w, x.size ≤ 1048576) (ho : PsOk s) (h : lnR s i w = some s2) : PsOk s2 := by
  unfold lnR at h
  split at h
  · split at h
    · injection h with h; subst h; exact ⟨ho.ns, ho.ts, ho.each⟩
    · cases h
  · split at h
    · rename_i h7
      split at h
      · rename_i e he
        injection h with h; subst h
        refine ⟨by simp; omega, ho.ts, fun x hx => ?_⟩
        rcases List.mem_append.1 hx with hx | hx
        · exact ho.each x hx
        · obtain rfl : x = e := by simpa using hx
          exact lnN_ok hw he
      · cases h
    · split at h
      · rename_i h14
        split at h
        · injection h with h; subst h
          exact ⟨ho.ns, by simp; omega, ho.each⟩
        · cases h
      · cases h
theorem psJ_ok {ls : List ByteArray} (hs : ∀ x ∈ ls, x.size ≤ 1048576) : ∀ {j : Nat} {s : GS}, psJ ls j = some s → PsOk s
  | 0, s, h => by
    unfold psJ at h
    injection h with h; subst h
    exact ⟨Nat.zero_le _, Nat.zero_le _, fun e he => by simp [gS0] at he⟩
  | j + 1, s, h => by
    unfold psJ at h
    cases h1 : psJ ls j with
    | none => rw [h1] at h; cases h
    | some s1 =>
      rw [h1] at h
      refine lnR_ok (fun x hx => ?_) (psJ_ok hs h1) h
      have h2 := split_sizes _ _ x hx
      have h3 : (ls[j]?.getD ⟨#[]⟩).size ≤ 1048576 := by
        cases he : ls[j]? with
        | none => show (ByteArray.mk #[]).size ≤ _; exact Nat.zero_le _
        | some l => exact hs l (List.mem_of_getElem? he)
      exact Nat.le_trans h2 h3
theorem PsOk.shB {s : GS} (h : PsOk s) : ShB s := by
  have hsum : ∀ j, slJ s.ns j ≤ 3 * j := by
    intro j
    induction j with
    | zero => exact Nat.le_refl _
    | succ j ih =>
      have : (s.ns[j]?.getD gN0).lab.length ≤ 3 := by
        cases he : s.ns[j]? with
        | none => show ([] : List Int).length ≤ 3; exact Nat.zero_le _
        | some e => exact (h.each e (List.mem_of_getElem? he)).2
      show slJ s.ns j + (s.ns[j]?.getD gN0).lab.length ≤ _
      omega
  have h1 := h.ns
  have h2 := h.ts
  exact ⟨by omega, by omega, fun e he => ⟨(h.each e he).1, by have := (h.each e he).2; omega⟩, by have := hsum s.ns.length; omega⟩

theorem own_count {w : World} {B e s n k c : Nat} {A : Option Addr} {xs : List Value} (h : w.ownsRow B e s (.slice A k c) n xs) : k = n := by
  obtain ⟨A', c', hv⟩ := own_formZ h
  injection hv

/-- A node is appended. -/
theorem OwnS.node {w w6 : World} {lo hi k c m d g3 cap : Nat} {A B : Option Addr} {s : GS} {zs : List NL} {z : NL} (h : OwnS w lo hi s A k c B m d zs) (hhi : hi ≤ w.heap.size) (hz : w.ownsRow lo 3 1 z.V z.e.lab.length (z.e.lab.map intV)) (hzn : ∀ b, z.V.ownBlock = some b → hi ≤ b)
    (hg : w.grownBy w6 (Value.slice A k c).ownBlock) (ho : w6.ownsRow lo 38 3 (.slice (some ⟨g3, 0, none⟩) (k + 1) cap) (k + 1) (cellsZ (zs ++ [z]))) (hat : (Value.slice A k c).ownBlock = some g3 ∨ w.heap.size ≤ g3) :
    OwnS w6 lo w6.heap.size ⟨s.ns ++ [z.e], s.ts, s.h⟩ (some ⟨g3, 0, none⟩) (k + 1) cap B m d (zs ++ [z]) := by
  have hk := own_count h.nodes.row
  have hg3 : ∀ b, (Value.slice A k c).ownBlock ≠ some b → b < hi → g3 ≠ b := by
    intro b h1 h2 e
    subst e
    rcases hat with h3 | h3
    · exact h1 h3
    · omega
  refine ⟨?_, ?_, h.lt, ⟨?_, ?_, ?_, ?_, ?_⟩, ?_, ?_⟩
  · show (zs ++ [z]).map NL.e = s.ns ++ [z.e]
    rw [List.map_append, ← h.es]; rfl
  · show (s.ns ++ [z.e]).length = k + 1
    rw [List.length_append, h.ln]; rfl
  · rw [List.length_append, ← hk]; exact ho
  · intro y hy
    rcases List.mem_append.1 hy with hy | hy
    · refine (h.nodes.lab y hy).kept hg ?_
      cases hb : y.V.ownBlock with
      | none => exact .inl rfl
      | some b => exact .inr (fun e => (h.nodes.sep y hy b hb).1 e.symm)
    · obtain rfl : y = z := by simpa using hy
      refine hz.kept hg ?_
      cases hb : y.V.ownBlock with
      | none => exact .inl rfl
      | some b => exact .inr (fun e => by have := hzn b hb; have := h.nodes.le b e.symm; omega)
  · intro y hy b hb
    show (some g3 : Option Nat) ≠ some b ∧ b < w6.heap.size
    rcases List.mem_append.1 hy with hy | hy
    · have h1 := h.nodes.sep y hy b hb
      exact ⟨fun e => hg3 b h1.1 h1.2 (by injection e), by have := hg.size; omega⟩
    · obtain rfl : y = z := by simpa using hy
      have h1 := hzn b hb
      have h2 := (hz.lt b hb).2
      refine ⟨fun e => ?_, by have := hg.size; omega⟩
      injection e with e
      subst e
      rcases hat with h3 | h3
      · have := h.nodes.le _ h3; omega
      · omega
  · rw [List.pairwise_append]
    refine ⟨h.nodes.dist, List.pairwise_singleton _ _, fun a ha b hb q h1 h2 => ?_⟩
    obtain rfl : b = z := by simpa using hb
    have := (h.nodes.sep a ha q h1).2
    have := hzn q h2
    omega
  · intro b hb
    exact (ho.lt b hb).2
  · refine h.ties.kept hg ?_
    cases hb : (Value.slice B m d).ownBlock with
    | none => exact .inl rfl
    | some b => exact .inr (fun e => (h.tsep b hb).1 e.symm)
  · intro b hb
    have h1 := h.tsep b hb
    refine ⟨fun e => hg3 b h1.1 h1.2.2 (by simpa [Value.ownBlock] using e), fun y hy => ?_, by have := hg.size; have := h1.2.2; omega⟩
    rcases List.mem_append.1 hy with hy | hy
    · exact h1.2.1 y hy
    · obtain rfl : y = z := by simpa using hy
      intro e
      have := hzn b e
      have := h1.2.2
      omega
/-- A tie is appended. -/
theorem OwnS.tie {w w6 : World} {lo hi k c m d g3 cap : Nat} {A B : Option Addr} {s : GS} {zs : List NL} {t : GT} (h : OwnS w lo hi s A k c B m d zs) (hhi : hi ≤ w.heap.size)
    (hg : w.grownBy w6 (Value.slice B m d).ownBlock) (ho : w6.ownsRow lo 42 5 (.slice (some ⟨g3, 0, none⟩) (m + 1) cap) (m + 1) (cellsT (s.ts ++ [t]))) (hat : (Value.slice B m d).ownBlock = some g3 ∨ w.heap.size ≤ g3) :
    OwnS w6 lo w6.heap.size ⟨s.ns, s.ts ++ [t], s.h⟩ A k c (some ⟨g3, 0, none⟩) (m + 1) cap zs := by
  have hoff : ∀ u : Value, (∀ b, u.ownBlock = some b → (Value.slice B m d).ownBlock ≠ some b) → u.ownBlock = none ∨ u.ownBlock ≠ (Value.slice B m d).ownBlock := by
    intro u hu
    cases hb : u.ownBlock with
    | none => exact .inl rfl
    | some b => exact .inr (fun e => hu b hb e.symm)
  refine ⟨h.es, h.ln, by show (s.ts ++ [t]).length = m + 1; rw [List.length_append, h.lt]; rfl, ⟨h.nodes.row.kept hg (hoff _ fun b hb e => (h.tsep b e).1 hb), fun z hz => (h.nodes.lab z hz).kept hg (hoff _ fun b hb e => (h.tsep b e).2.1 z hz hb), fun z hz b hb => ⟨(h.nodes.sep z hz b hb).1, by have := (h.nodes.sep z hz b hb).2; have := hg.size; omega⟩, h.nodes.dist, fun b hb => by have := h.nodes.le b hb; have := hg.size; omega⟩, ho, ?_⟩
  intro b hb
  obtain rfl : g3 = b := by simpa [Value.ownBlock] using hb
  refine ⟨fun e => ?_, fun z hz e => ?_, (ho.lt g3 hb).2⟩
  · rcases hat with h1 | h1
    · exact (h.tsep _ h1).1 e
    · have := h.nodes.le _ e; omega
  · rcases hat with h1 | h1
    · exact (h.tsep _ h1).2.1 z hz e
    · have := (h.nodes.sep z hz _ e).2; omega
theorem OwnS.horizon {w : World} {lo hi k c m d : Nat} {A B : Option Addr} {s : GS} {zs : List NL} (h : OwnS w lo hi s A k c B m d zs) (x : Int) : OwnS w lo hi ⟨s.ns, s.ts, x⟩ A k c B m d zs := ⟨h.es, h.ln, h.lt, h.nodes, h.ties, h.tsep⟩
theorem OwnS.none (w : World) (lo hi : Nat) : OwnS w lo hi gS0 none 0 0 none 0 0 [] :=
  ⟨rfl, rfl, rfl, ⟨World.ownsRow_nil _ _ _ _, fun z hz => by simp at hz, fun z hz => by simp at hz, List.Pairwise.nil, fun b hb => by simp [Value.ownBlock] at hb⟩, World.ownsRow_nil _ _ _ _, fun b hb => by simp [Value.ownBlock] at hb⟩

end Go.Proofs.YtgajodcgedhikaaGreatDoor
