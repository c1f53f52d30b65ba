/-
  WALK of impl's grid.table.
-/
import Derived.Test.YtdjaiijgdflopaaGdD
import Derived.Deep.RegionLaw
import Derived.Deep.AppendLies
namespace Go.Proofs.Ytdjaiijgdflopaa
open Go.RowKit
set_option linter.unusedVariables false
set_option linter.unusedSimpArgs false

def rowG (N : Nat) (f : Nat → Int) (i : Nat) : List Int := (List.range N).map fun k => f (i * 8 + k)
def tabG (N : Nat) (f : Nat → Int) (j : Nat) : List Int := (List.range j).flatMap (rowG N f)
theorem tabG_next (N : Nat) (f : Nat → Int) (j : Nat) : tabG N f (j + 1) = tabG N f j ++ rowG N f j := by unfold tabG; rw [List.range_succ, List.flatMap_append]; simp
theorem rowG_length (N : Nat) (f : Nat → Int) (i : Nat) : (rowG N f i).length = N := by simp [rowG]
theorem tabG_length (N : Nat) (f : Nat → Int) (j : Nat) : (tabG N f j).length = j * N := flat_length (rowG_length N f) j
theorem own_drew {w : World} {B e s n : Nat} {v : Value} {xs : List Value} (h : w.ownsRow B e s v n xs) : w.drew.ownsRow B e s v n xs :=
  h.kept (row := none) ⟨rfl, rfl, rfl, Nat.le_refl _, fun _ _ _ => rfl⟩ (by
    cases hb : v.ownBlock with
    | none => exact .inl rfl
    | some g => exact .inr (by simp))
theorem grown_cell {w w' : World} {row : Option Nat} (hg : w.grownBy w' row) {b o : Nat} {v : Value} (h : w.cell? ⟨b, o, none⟩ = some v) (hr : row ≠ some b) : w'.cell? ⟨b, o, none⟩ = some v :=
  (World.cell?_of_block (a := ⟨b, o, none⟩) (hg.block b (block_lt_of_cell (a := ⟨b, o, none⟩) h) (fun e => hr e.symm))).trans h
theorem grown_free {w w' : World} {row : Option Nat} (hg : w.grownBy w' row) {b o : Nat} (hb : b < w.heap.size) (h : w.frozen? ⟨b, o, none⟩ = false) (hr : row ≠ some b) : w'.frozen? ⟨b, o, none⟩ = false :=
  (World.frozen?_of_block (a := ⟨b, o, none⟩) (hg.block b hb (fun e => hr e.symm))).trans h

set_option maxRecDepth 100000 in
set_option maxHeartbeats 4000000 in
theorem table_any (N : Nat) (f : Nat → Int) (w : World) (hN : N ≤ 8) :
    Calls Try.prog 52 #[.agg (gridA f), .int .i64 N] w fun e w' => ∃ A c, e = .returned (grV N A (N * N) c) ∧ w'.ownsRow w.heap.size 3 1 (.slice A (N * N) c) (N * N) ((tabG N f N).map intV) ∧ Below w.heap.size w w' := by
  obtain ⟨i0, hi, hz0, hz1, hz2⟩ := info_parts Try.info3
  have h64 := sq_le hN
  go_enter Try.func52, Try.ntmps52
  go_wp2_with fail
  go_loopw [10] (fun i wr => ∃ (j s : Nat) (A : Option Addr) (c : Nat), j ≤ N ∧ i = .int .i64 j ∧ s = j * N ∧ GdAt wr w.heap.size f ∧ wr.cell? ⟨w.heap.size + 1, 0, none⟩ = some (.int .i64 0) ∧ wr.cell? ⟨w.heap.size + 1, 1, none⟩ = some (.slice none 0 0) ∧ wr.frozen? ⟨w.heap.size + 1, 0, none⟩ = false ∧ wr.frozen? ⟨w.heap.size + 1, 1, none⟩ = false ∧ wr.cell? ⟨w.heap.size + 1 + 1, 0, none⟩ = some (.int .i64 N) ∧ wr.cell? ⟨w.heap.size + 1 + 1, 1, none⟩ = some (.slice A s c) ∧ wr.frozen? ⟨w.heap.size + 1 + 1, 1, none⟩ = false ∧ wr.ownsRow (w.heap.size + 1 + 1 + 1) 3 1 (.slice A s c) s ((tabG N f j).map intV) ∧ w.heap.size + 1 + 1 < wr.heap.size ∧ Below w.heap.size w wr) (fun i _ => N - (intOf i).toNat)
  case atStart => exact ⟨0, 0, none, 0, Nat.zero_le _, rfl, by simp, (((GdAt.new w f).alloc _).alloc _), by go_simp, by go_simp, by go_simp, by go_simp, by go_simp, by go_simp, by go_simp, by exact World.ownsRow_nil _ _ _ _, by simp, (by repeat (first | exact Below.refl _ _ | refine below_step (by assumption) (by first | omega | (simp; done) | (simp; omega)) ?_ | refine below_drewN ?_ _ | refine Below.drew ?_ | refine Below.setCell ?_ (by first | omega | (simp; done) | (simp; omega)) _ | refine Below.alloc ?_ (by first | omega | (simp; done) | (simp; omega)) _))⟩
  case round =>
    obtain ⟨j, s, A, c, hj, rfl, hs, hG, r0, r1, g0, g1, t0, t1, t2, hown, hsz, hbw⟩ := hrel
    have hs64 : s + N ≤ 72 := by have h1 : j * N ≤ N * N := Nat.mul_le_mul_right N hj
                                 omega
    by_cases hjN : j < N
    · have HSJ := Lib.hid hs
      have HG := Lib.hid hG
      have HOW := Lib.hid (own_drew hown)
      have hjj : (j : Int) < 8 := by omega
      have hN8 : (N : Int) ≤ 8 := by omega
      have hlt2 : ∀ q, (Value.slice A s c).ownBlock = some q → w.heap.size + 1 + 1 + 1 ≤ q := fun q hq => (hown.lt q hq).1
      have hnb1 : (Value.slice A s c).ownBlock ≠ some (w.heap.size + 1 + 1) := fun h => by have := hlt2 _ h; omega
      have hnb0 : (Value.slice A s c).ownBlock ≠ some (w.heap.size + 1) := fun h => by have := hlt2 _ h; omega
      have hnbd : (Value.slice A s c).ownBlock ≠ some (w.heap.size) := fun h => by have := hlt2 _ h; omega
      have hnews : ∀ (q : Nat) (u : Value), ((rowG N f j).map intV)[q]? = some u → (World.drew wr).cell? ((⟨w.heap.size, j * 8, none⟩ : Addr).add q) = some u := by
        intro q u hq
        have hq2 : q < N := by
          rcases Nat.lt_or_ge q N with h | h
          · exact h
          · rw [List.getElem?_eq_none (by simp [rowG]; omega)] at hq; cases hq
        have : ((rowG N f j).map intV)[q]? = some (intV (f (j * 8 + q))) := by simp [rowG, hq2]
        rw [this] at hq
        injection hq with hq
        rw [← hq]
        rw [Go.WideShapes.add_plain]
        exact HG.out.drew.cell (j := j * 8 + q) (by omega)
      have HNW := Lib.hid hnews
      clear hnews hG hown hs
      go_wp2_with fail
      refine wp_region_still_tail 6 (by kernel_rfl) (by kernel_rfl) ?_
      change wpStill _ _ (World.drew _) _ _ _
      simp only [List.take_succ_cons, List.take_zero, List.drop_succ_cons, List.drop_zero]
      repeat still_step
      refine wpStill_nil ?_
      change wpList _ _ _ _ _ (World.drew _)
      go_wp2_with (at_builtin; refine wpList_append_lies _ rfl _ _ 27 rfl (w.heap.size + 1 + 1 + 1) 3 i0 (.int .i64 0) 1 8 Try.underlying27 hi hz0 hz1 hz2 rfl (by decide) _ _ _ rfl HOW.out ⟨w.heap.size, j * 8, none⟩ N _ ((rowG N f j).map intV) rfl ?c1 HNW.out ?c2 ?c3 ?c4 ?c5 ?c6 _ rfl ?_)
      case c1 => simp [rowG]
      case c2 => intro u hu; simp [rowG] at hu; obtain ⟨_, _, rfl⟩ := hu; rfl
      case c3 => omega
      case c4 => unfold maxLen; omega
      case c5 => omega
      case c6 => simp; omega
      intro g cap w3 ho3 hg3 hat hl3
      have G3 : GdAt w3 w.heap.size f := HG.out.drew.of_heap (hg3.block _ (by simpa using HG.out.lt) (fun e => hnbd e.symm))
      have q0 := grown_cell hg3 (b := w.heap.size + 1) (o := 0) (v := .int .i64 0) (by simpa using r0) hnb0
      have q1 := grown_cell hg3 (b := w.heap.size + 1) (o := 1) (v := .slice none 0 0) (by simpa using r1) hnb0
      have p0 := grown_free hg3 (b := w.heap.size + 1) (o := 0) (by simp; omega) (by simpa using g0) hnb0
      have p1 := grown_free hg3 (b := w.heap.size + 1) (o := 1) (by simp; omega) (by simpa using g1) hnb0
      have s0 := grown_cell hg3 (b := w.heap.size + 1 + 1) (o := 0) (v := .int .i64 N) (by simpa using t0) hnb1
      have s1 := grown_cell hg3 (b := w.heap.size + 1 + 1) (o := 1) (v := .slice A s c) (by simpa using t1) hnb1
      have s2 := grown_free hg3 (b := w.heap.size + 1 + 1) (o := 1) (by simp; omega) (by simpa using t2) hnb1
      have hsz3 : w.heap.size + 1 + 1 < w3.heap.size := by have := hg3.size; simp at this; omega
      have B3 : Below w.heap.size w w3 := (hbw.drew).grown hg3 (by have := hbw.size; simpa using this) (fun q hq => by have := hlt2 q hq; omega)
      rw [← List.map_append, ← tabG_next] at ho3
      have HO3 := Lib.hid ho3
      have G3 := Lib.hid G3
      clear hg3 hat HOW HNW r0 r1 g0 g1 t0 t1 t2 ho3 HG
      go_wp2_with fail
      go_roundw
      case rel => exact ⟨j + 1, s + N, some ⟨g, 0, none⟩, cap, by omega, by go_num, by rw [HSJ.out, Nat.succ_mul], G3.out.other (by dsimp only; omega) _, by go_simp, by go_simp, by go_simp, by go_simp, by go_simp, by go_simp, by go_simp, own_set HO3.out _ _ (by dsimp only; omega), by simpa [World.setCell] using hsz3, (by repeat (first | exact Below.refl _ _ | refine below_step (by assumption) (by first | omega | (simp; done) | (simp; omega)) ?_ | refine below_drewN ?_ _ | refine Below.drew ?_ | refine Below.setCell ?_ (by first | omega | (simp; done) | (simp; omega)) _ | refine Below.alloc ?_ (by first | omega | (simp; done) | (simp; omega)) _))⟩
      case measure => simp [intOf]; omega
    · have hjn : j = N := by omega
      subst hjn
      subst hs
      go_wp2_with fail
      refine bodyPost_ret (v := grV j A (j * j) c) (by simp [results, Try.results52, go_sem, grV, *]) rfl ⟨A, c, rfl, ?_, ?_⟩
      · refine own_base (B := w.heap.size + 1 + 1 + 1) ?_ (by omega)
        repeat (refine own_set ?_ _ _ (by simp))
        exact hown
      · exact (by repeat (first | exact Below.refl _ _ | refine below_step (by assumption) (by first | omega | (simp; done) | (simp; omega)) ?_ | refine below_drewN ?_ _ | refine Below.drew ?_ | refine Below.setCell ?_ (by first | omega | (simp; done) | (simp; omega)) _ | refine Below.alloc ?_ (by first | omega | (simp; done) | (simp; omega)) _))

end Go.Proofs.Ytdjaiijgdflopaa
