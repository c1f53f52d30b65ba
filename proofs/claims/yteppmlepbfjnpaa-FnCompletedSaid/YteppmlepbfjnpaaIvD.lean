/-
  WALKS of the draws of intervals.
-/
import Derived.Test.YteppmlepbfjnpaaProg
import Derived.Test.YteppmlepbfjnpaaBdPaC
import Derived.Test.YteppmlepbfjnpaaBdIvOk
import Derived.WalkKit
import Derived.WalkSpells
import Derived.WalkLawsBesides
import Derived.Deep.QuietTactic
import Derived.Deep.RegionWith
import Derived.Deep.RegionHeld3
import Derived.BigQuiet
import Derived.Lib.Hide
import Derived.Below
namespace Go.Proofs.Yteppmlepbfjnpaa
open Go.RowKit
set_option linter.unusedVariables false
set_option linter.unusedSimpArgs false

theorem grown_of_below {w w' : World} {r : Option Nat} (b : Below w.heap.size w w') : w.grownBy w' r := ⟨b.os, b.tape, b.output, b.size, fun k hk _ => b.block k hk⟩
theorem grown_setCell {w w2 : World} {r : Option Nat} (h : w.grownBy w2 r) {p : Addr} (hp : w.heap.size ≤ p.block) (u : Value) : w.grownBy (w2.setCell p u) r :=
  ⟨h.os, h.tape, h.output, by simpa using h.size, fun k hk hr => (Below.heap_setCell w2 p u k (by omega)).trans (h.block k hk hr)⟩
theorem Cur.setCell {w : World} {g : Nat} {A : Option Addr} {n c : Nat} (h : Cur w g A n c) {p : Addr} (hp : g ≠ p.block) (u : Value) : Cur (w.setCell p u) g A n c := h.kept (Below.heap_setCell w p u g hp)

set_option maxRecDepth 100000 in
set_option maxHeartbeats 1000000 in
theorem l02Bounded_any (g : Nat) (A : Option Addr) (n c : Nat) (w : World) (hm : n ≤ 1048576) (hcur : Cur w g A n c) (hby : Bytes w g A n) :
    Calls Try.prog 93 #[.pointer (some ⟨g, 0, none⟩)] w fun e w' => ∃ l k : Int, e = .returned (ivV l k) ∧ (-10 ≤ l ∧ l ≤ 10 ∧ l ≤ k ∧ k ≤ 17) ∧ Cur w' g A n c ∧ w.grownBy w' (some g) := by
  have hg := hcur.lt
  have HBY := Lib.hid hby
  have HCU := Lib.hid hcur
  clear hcur hby
  go_enter Try.func93, Try.ntmps93
  go_wp2_with fail
  refine (l01Below_small 21 g A n c _ (by omega) (by omega) hm (HCU.out.alloc _) (HBY.out.alloc _)).mono ?_
  rintro e w1 ⟨x, rfl, hx, hc1, g1⟩
  have hb1 := g1.block w.heap.size (by simp) (by simp; omega)
  have k10 := (World.cell?_of_block (a := ⟨w.heap.size, 0, none⟩) hb1).trans (show _ = some (.int .i64 0) by go_simp)
  have k11 := (World.cell?_of_block (a := ⟨w.heap.size, 1, none⟩) hb1).trans (show _ = some (.int .i64 0) by go_simp)
  have z10 := (World.frozen?_of_block (a := ⟨w.heap.size, 0, none⟩) hb1).trans (show _ = false by go_simp)
  have z11 := (World.frozen?_of_block (a := ⟨w.heap.size, 1, none⟩) hb1).trans (show _ = false by go_simp)
  have hs1 : w.heap.size < w1.heap.size := by have := g1.size; simp at this; omega
  have HB1 := Lib.hid ((HBY.out.alloc _).grown g1)
  have HC1 := Lib.hid hc1
  have G1 := Lib.hid (grown_trans (grown_of_below (below_one _)) g1)
  clear hb1 hc1 g1
  go_wp2_with fail
  refine (l01Below_small 8 g A n c _ (by omega) (by omega) hm HC1.out HB1.out).mono ?_
  rintro e w2 ⟨y, rfl, hy, hc2, g2⟩
  have hb2 := g2.block w.heap.size (by omega) (by simp; omega)
  have k20 := (World.cell?_of_block (a := ⟨w.heap.size, 0, none⟩) hb2).trans k10
  have k21 := (World.cell?_of_block (a := ⟨w.heap.size, 1, none⟩) hb2).trans k11
  have z20 := (World.frozen?_of_block (a := ⟨w.heap.size, 0, none⟩) hb2).trans z10
  have z21 := (World.frozen?_of_block (a := ⟨w.heap.size, 1, none⟩) hb2).trans z11
  have HC2 := Lib.hid hc2
  have G2 := Lib.hid (grown_trans G1.out g2)
  clear hb2 hc2 g2
  go_wp2
  refine bodyPost_ret (v := .agg #[.int .i64 ((x : Int) - 10), .int .i64 ((x : Int) - 10 + y)]) (by first | (simp [results, Try.results93, go_sem]; done) | simp [*, results, Try.results93, go_sem]) rfl ⟨_, _, rfl, ⟨by omega, by omega, by omega, by omega⟩, (HC2.out.setCell (by simp; omega) _).setCell (by simp; omega) _, grown_setCell (grown_setCell G2.out (by simp) _) (by simp) _⟩

def DrawnI (l h : Int) : Prop := (l = -1000000 ∨ (-10 ≤ l ∧ l ≤ 10)) ∧ (h = 1000000 ∨ (-10 ≤ h ∧ h ≤ 17)) ∧ (l = -1000000 ∨ h = 1000000 ∨ l ≤ h)

set_option maxRecDepth 100000 in
set_option maxHeartbeats 1000000 in
theorem l02Draw_any (g : Nat) (A : Option Addr) (n c : Nat) (w : World) (hm : n ≤ 1048576) (hcur : Cur w g A n c) (hby : Bytes w g A n) :
    Calls Try.prog 73 #[.pointer (some ⟨g, 0, none⟩)] w fun e w' => ∃ l k : Int, e = .returned (ivV l k) ∧ DrawnI l k ∧ Cur w' g A n c ∧ w.grownBy w' (some g) := by
  have hg := hcur.lt
  have HBY := Lib.hid hby
  have HCU := Lib.hid hcur
  clear hcur hby
  go_enter Try.func73, Try.ntmps73
  go_wp2_with fail
  refine (l02Bounded_any g A n c _ hm (HCU.out.alloc _) (HBY.out.alloc _)).mono ?_
  rintro e w1 ⟨l, k, rfl, hlk, hc1, g1⟩
  unfold ivV
  have hb1 := g1.block w.heap.size (by simp) (by simp; omega)
  have k10 := (World.cell?_of_block (a := ⟨w.heap.size, 0, none⟩) hb1).trans (show _ = some (.int .i64 0) by go_simp)
  have k11 := (World.cell?_of_block (a := ⟨w.heap.size, 1, none⟩) hb1).trans (show _ = some (.int .i64 0) by go_simp)
  have z10 := (World.frozen?_of_block (a := ⟨w.heap.size, 0, none⟩) hb1).trans (show _ = false by go_simp)
  have z11 := (World.frozen?_of_block (a := ⟨w.heap.size, 1, none⟩) hb1).trans (show _ = false by go_simp)
  have hs1 : w.heap.size < w1.heap.size := by have := g1.size; simp at this; omega
  have HB1 := Lib.hid ((HBY.out.alloc _).grown g1)
  have HC1 := Lib.hid hc1
  have G1 := Lib.hid (grown_trans (grown_of_below (below_one _)) g1)
  clear hb1 hc1 g1
  go_wp2_with fail
  refine (l01Below_small 8 g A n c _ (by omega) (by omega) hm (HC1.out.alloc _) (HB1.out.alloc _)).mono ?_
  rintro e w2 ⟨x, rfl, hx, hc2, g2⟩
  have hb2 := (g2.block w.heap.size (by simp; omega) (by simp; omega)).trans (Below.heap_alloc w1 _ w.heap.size hs1)
  have k20 := (World.cell?_of_block (a := ⟨w.heap.size, 0, none⟩) hb2).trans k10
  have k21 := (World.cell?_of_block (a := ⟨w.heap.size, 1, none⟩) hb2).trans k11
  have z20 := (World.frozen?_of_block (a := ⟨w.heap.size, 0, none⟩) hb2).trans z10
  have z21 := (World.frozen?_of_block (a := ⟨w.heap.size, 1, none⟩) hb2).trans z11
  have hb3 := g2.block w1.heap.size (by simp) (by simp; omega)
  have j20 := (World.cell?_of_block (a := ⟨w1.heap.size, 0, none⟩) hb3).trans (show _ = some (.int .i64 l) by go_simp)
  have j21 := (World.cell?_of_block (a := ⟨w1.heap.size, 1, none⟩) hb3).trans (show _ = some (.int .i64 k) by go_simp)
  have y20 := (World.frozen?_of_block (a := ⟨w1.heap.size, 0, none⟩) hb3).trans (show _ = false by go_simp)
  have y21 := (World.frozen?_of_block (a := ⟨w1.heap.size, 1, none⟩) hb3).trans (show _ = false by go_simp)
  have HC2 := Lib.hid hc2
  have G2 := Lib.hid (grown_trans (grown_alloc G1.out _) g2)
  have HLK := Lib.hid hlk
  have ne1 : (w.heap.size = w1.heap.size) = False := eq_false (by omega)
  have ne2 : (w1.heap.size = w.heap.size) = False := eq_false (by omega)
  clear hb2 hb3 hc2 g2 hlk
  have hx4 : x = 0 ∨ x = 1 ∨ x = 2 ∨ 3 ≤ x := by omega
  rcases hx4 with rfl | rfl | rfl | h3
  · go_wp2
    refine bodyPost_ret (v := .agg #[.int .i64 (-1000000), .int .i64 k]) (by first | (simp [results, Try.results73, go_sem]; done) | simp [*, results, Try.results73, go_sem]) rfl ⟨_, _, rfl, by have := HLK.out; unfold DrawnI; omega, ?_, ?_⟩
    · (repeat (first | exact HC2.out | refine Cur.setCell ?_ (by first | omega | (simp; omega)) _))
    · (repeat (first | exact G2.out | refine grown_setCell ?_ (by first | omega | (simp; done) | (simp; omega)) _))
  · go_wp2
    refine bodyPost_ret (v := .agg #[.int .i64 l, .int .i64 1000000]) (by first | (simp [results, Try.results73, go_sem]; done) | simp [*, results, Try.results73, go_sem]) rfl ⟨_, _, rfl, by have := HLK.out; unfold DrawnI; omega, ?_, ?_⟩
    · (repeat (first | exact HC2.out | refine Cur.setCell ?_ (by first | omega | (simp; omega)) _))
    · (repeat (first | exact G2.out | refine grown_setCell ?_ (by first | omega | (simp; done) | (simp; omega)) _))
  · go_wp2
    refine bodyPost_ret (v := .agg #[.int .i64 (-1000000), .int .i64 1000000]) (by first | (simp [results, Try.results73, go_sem]; done) | simp [*, results, Try.results73, go_sem]) rfl ⟨_, _, rfl, by have := HLK.out; unfold DrawnI; omega, ?_, ?_⟩
    · (repeat (first | exact HC2.out | refine Cur.setCell ?_ (by first | omega | (simp; omega)) _))
    · (repeat (first | exact G2.out | refine grown_setCell ?_ (by first | omega | (simp; done) | (simp; omega)) _))
  · have e0 : ((x : Int) == 0) = false := by simp; omega
    have e1 : ((x : Int) == 1) = false := by simp; omega
    have e2 : ((x : Int) == 2) = false := by simp; omega
    go_wp2
    refine bodyPost_ret (v := .agg #[.int .i64 l, .int .i64 k]) (by first | (simp [results, Try.results73, go_sem]; done) | simp [*, results, Try.results73, go_sem]) rfl ⟨_, _, rfl, by have := HLK.out; unfold DrawnI; omega, ?_, ?_⟩
    · (repeat (first | exact HC2.out | refine Cur.setCell ?_ (by first | omega | (simp; omega)) _))
    · (repeat (first | exact G2.out | refine grown_setCell ?_ (by first | omega | (simp; done) | (simp; omega)) _))

end Go.Proofs.Yteppmlepbfjnpaa

