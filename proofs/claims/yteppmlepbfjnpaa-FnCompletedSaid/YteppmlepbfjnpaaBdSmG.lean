/-
  WALKS of spec.GraphOf and spec.IsConsistent.
  WALKS of impl.networkOf and impl.GraphOf.
  WALK of impl.NegativeCycle.
  WALK of spec.ConflictOf.
-/
import Derived.Test.YteppmlepbfjnpaaBdSmF
import Derived.Test.YteppmlepbfjnpaaBdNwE
import Derived.Deep.RegionHeld3
import Derived.Deep.AppendLies
namespace Go.Proofs.Yteppmlepbfjnpaa
open Go.RowKit
set_option linter.unusedVariables false
set_option linter.unusedSimpArgs false

/-- What GraphOf ends in: the graph, its edges in memory of their own. -/
def GrEnd (n : Int) (es : List GL) (w : World) (x : Ending) (w' : World) : Prop :=
  ∃ B m cb, x = .returned (grV (grN n es) B m cb) ∧ m = (grE n es).length ∧ w'.ownsRow w.heap.size 110 3 (.slice B m cb) m (cellsE (grE n es)) ∧ Below w.heap.size w w'

set_option maxRecDepth 100000 in
set_option maxHeartbeats 4000000 in
theorem spec_GraphOf (n : Int) (es : List GL) (A : Option Addr) (k c : Nat) (w : World) (hn : es.length = k) (hm : k ≤ 1048576) (hr : LinkAt w A es) :
    Calls Try.prog 90 #[grV n A k c] w fun e w' => GrEnd n es w e w' := by
  have HS := Lib.hid (fun W h => spec_SimpleOk n es A k c W hn hm h)
  have HR := Lib.hid hr
  have HL := Lib.hid hn
  clear hr hn
  obtain ⟨ok, hok⟩ : ∃ b, b = okS n es := ⟨_, rfl⟩
  rw [← hok] at HS
  have HO := Lib.hid hok.symm
  clear hok
  unfold grV at HS ⊢
  cases ok with
  | false =>
    go_enter Try.func90, Try.ntmps90
    go_wp2_with fail
    refine (HS.out _ (HR.out.below (by repeat (first | exact Below.refl _ _ | refine below_step (by assumption) (by first | omega | (simp; done) | (simp; omega)) ?_ | refine below_drewN ?_ _ | refine Below.drew ?_ | refine Below.setCell ?_ (by first | omega | (simp; done) | (simp; omega)) _ | refine Below.alloc ?_ (by first | omega | (simp; done) | (simp; omega)) _)))).mono ?_
    rintro e w1 ⟨rfl, b1⟩
    have c0_w1 : w1.cell? ⟨w.heap.size, 0, none⟩ = some (.int .i64 n) := (b1.cell (p := ⟨w.heap.size, 0, none⟩) (by first | omega | (simp; done) | (simp; omega))).trans (by first | assumption | go_simp)
    have c1_w1 : w1.cell? ⟨w.heap.size, 1, none⟩ = some (.slice A k c) := (b1.cell (p := ⟨w.heap.size, 1, none⟩) (by first | omega | (simp; done) | (simp; omega))).trans (by first | assumption | go_simp)
    have c2_w1 : w1.cell? ⟨w.heap.size + 1, 0, none⟩ = some (.int .i64 0) := (b1.cell (p := ⟨w.heap.size + 1, 0, none⟩) (by first | omega | (simp; done) | (simp; omega))).trans (by first | assumption | go_simp)
    have c3_w1 : w1.cell? ⟨w.heap.size + 1, 1, none⟩ = some (.slice none 0 0) := (b1.cell (p := ⟨w.heap.size + 1, 1, none⟩) (by first | omega | (simp; done) | (simp; omega))).trans (by first | assumption | go_simp)
    have f0_w1 : w1.frozen? ⟨w.heap.size + 1, 0, none⟩ = false := (b1.frozen (p := ⟨w.heap.size + 1, 0, none⟩) (by first | omega | (simp; done) | (simp; omega))).trans (by first | assumption | go_simp)
    have f1_w1 : w1.frozen? ⟨w.heap.size + 1, 1, none⟩ = false := (b1.frozen (p := ⟨w.heap.size + 1, 1, none⟩) (by first | omega | (simp; done) | (simp; omega))).trans (by first | assumption | go_simp)
    have s0_w1 : w.heap.size < w1.heap.size := Nat.lt_of_lt_of_le (by first | omega | (simp; done) | (simp; omega)) b1.size
    have s1_w1 : w.heap.size + 1 < w1.heap.size := Nat.lt_of_lt_of_le (by first | omega | (simp; done) | (simp; omega)) b1.size
    have B_w1 : Below w.heap.size w w1 := (by repeat (first | exact Below.refl _ _ | refine below_step (by assumption) (by first | omega | (simp; done) | (simp; omega)) ?_ | refine below_drewN ?_ _ | refine Below.drew ?_ | refine Below.setCell ?_ (by first | omega | (simp; done) | (simp; omega)) _ | refine Below.alloc ?_ (by first | omega | (simp; done) | (simp; omega)) _))
    clear b1  
    go_wp2_with fail
    refine bodyPost_ret (v := .agg #[.int .i64 0, .slice none 0 0]) (by first | (simp [results, Try.results90, go_sem, c2_w1, c3_w1]; done) | simp [*, results, Try.results90, go_sem]) rfl ⟨none, 0, 0, by unfold grV; rw [grN_no HO.out], by rw [grE_no HO.out]; rfl, by rw [grE_no HO.out]; exact World.ownsRow_nil _ _ _ _, (by repeat (first | exact Below.refl _ _ | refine below_step (by assumption) (by first | omega | (simp; done) | (simp; omega)) ?_ | refine below_drewN ?_ _ | refine Below.drew ?_ | refine Below.setCell ?_ (by first | omega | (simp; done) | (simp; omega)) _ | refine Below.alloc ?_ (by first | omega | (simp; done) | (simp; omega)) _))⟩
  | true =>
    have hrg := okS_rng HO.out
    have HLK := Lib.hid (fun W h => spec_l05Edges n es A k c W HL.out (by have := HL.out; omega) (fun e he => (okS_link HO.out he).2.2) h)
    unfold grV at HLK
    clear hrg
    go_enter Try.func90, Try.ntmps90
    go_wp2_with fail
    refine (HS.out _ (HR.out.below (by repeat (first | exact Below.refl _ _ | refine below_step (by assumption) (by first | omega | (simp; done) | (simp; omega)) ?_ | refine below_drewN ?_ _ | refine Below.drew ?_ | refine Below.setCell ?_ (by first | omega | (simp; done) | (simp; omega)) _ | refine Below.alloc ?_ (by first | omega | (simp; done) | (simp; omega)) _)))).mono ?_
    rintro e w1 ⟨rfl, b1⟩
    have c0_w1 : w1.cell? ⟨w.heap.size, 0, none⟩ = some (.int .i64 n) := (b1.cell (p := ⟨w.heap.size, 0, none⟩) (by first | omega | (simp; done) | (simp; omega))).trans (by first | assumption | go_simp)
    have c1_w1 : w1.cell? ⟨w.heap.size, 1, none⟩ = some (.slice A k c) := (b1.cell (p := ⟨w.heap.size, 1, none⟩) (by first | omega | (simp; done) | (simp; omega))).trans (by first | assumption | go_simp)
    have c2_w1 : w1.cell? ⟨w.heap.size + 1, 0, none⟩ = some (.int .i64 0) := (b1.cell (p := ⟨w.heap.size + 1, 0, none⟩) (by first | omega | (simp; done) | (simp; omega))).trans (by first | assumption | go_simp)
    have c3_w1 : w1.cell? ⟨w.heap.size + 1, 1, none⟩ = some (.slice none 0 0) := (b1.cell (p := ⟨w.heap.size + 1, 1, none⟩) (by first | omega | (simp; done) | (simp; omega))).trans (by first | assumption | go_simp)
    have f0_w1 : w1.frozen? ⟨w.heap.size + 1, 0, none⟩ = false := (b1.frozen (p := ⟨w.heap.size + 1, 0, none⟩) (by first | omega | (simp; done) | (simp; omega))).trans (by first | assumption | go_simp)
    have f1_w1 : w1.frozen? ⟨w.heap.size + 1, 1, none⟩ = false := (b1.frozen (p := ⟨w.heap.size + 1, 1, none⟩) (by first | omega | (simp; done) | (simp; omega))).trans (by first | assumption | go_simp)
    have s0_w1 : w.heap.size < w1.heap.size := Nat.lt_of_lt_of_le (by first | omega | (simp; done) | (simp; omega)) b1.size
    have s1_w1 : w.heap.size + 1 < w1.heap.size := Nat.lt_of_lt_of_le (by first | omega | (simp; done) | (simp; omega)) b1.size
    have B_w1 : Below w.heap.size w w1 := (by repeat (first | exact Below.refl _ _ | refine below_step (by assumption) (by first | omega | (simp; done) | (simp; omega)) ?_ | refine below_drewN ?_ _ | refine Below.drew ?_ | refine Below.setCell ?_ (by first | omega | (simp; done) | (simp; omega)) _ | refine Below.alloc ?_ (by first | omega | (simp; done) | (simp; omega)) _))
    clear b1  
    go_wp2_with fail
    have LO : Hid (w.heap.size + 1 < w1.heap.size ∧ w.heap.size ≤ w1.heap.size) := Lib.hid ⟨s1_w1, by omega⟩
    refine (HLK.out _ (HR.out.below (by repeat (first | exact Below.refl _ _ | refine below_step (by assumption) (by first | omega | (simp; done) | (simp; omega)) ?_ | refine below_drewN ?_ _ | refine Below.drew ?_ | refine Below.setCell ?_ (by first | omega | (simp; done) | (simp; omega)) _ | refine Below.alloc ?_ (by first | omega | (simp; done) | (simp; omega)) _)))).mono ?_
    rintro e w2 ⟨B, m, cb, D, q, cd, rfl, hm1, hq1, h2, _, b2⟩
    have c0_w2 : w2.cell? ⟨w.heap.size, 0, none⟩ = some (.int .i64 n) := (b2.cell (p := ⟨w.heap.size, 0, none⟩) (by first | omega | (simp; done) | (simp; omega))).trans (by first | assumption | go_simp)
    have c1_w2 : w2.cell? ⟨w.heap.size, 1, none⟩ = some (.slice A k c) := (b2.cell (p := ⟨w.heap.size, 1, none⟩) (by first | omega | (simp; done) | (simp; omega))).trans (by first | assumption | go_simp)
    have c2_w2 : w2.cell? ⟨w.heap.size + 1, 0, none⟩ = some (.int .i64 0) := (b2.cell (p := ⟨w.heap.size + 1, 0, none⟩) (by first | omega | (simp; done) | (simp; omega))).trans (by first | assumption | go_simp)
    have c3_w2 : w2.cell? ⟨w.heap.size + 1, 1, none⟩ = some (.slice none 0 0) := (b2.cell (p := ⟨w.heap.size + 1, 1, none⟩) (by first | omega | (simp; done) | (simp; omega))).trans (by first | assumption | go_simp)
    have f0_w2 : w2.frozen? ⟨w.heap.size + 1, 0, none⟩ = false := (b2.frozen (p := ⟨w.heap.size + 1, 0, none⟩) (by first | omega | (simp; done) | (simp; omega))).trans (by first | assumption | go_simp)
    have f1_w2 : w2.frozen? ⟨w.heap.size + 1, 1, none⟩ = false := (b2.frozen (p := ⟨w.heap.size + 1, 1, none⟩) (by first | omega | (simp; done) | (simp; omega))).trans (by first | assumption | go_simp)
    have s0_w2 : w.heap.size < w2.heap.size := Nat.lt_of_lt_of_le (by first | omega | (simp; done) | (simp; omega)) b2.size
    have s1_w2 : w.heap.size + 1 < w2.heap.size := Nat.lt_of_lt_of_le (by first | omega | (simp; done) | (simp; omega)) b2.size
    have B_w2 : Below w.heap.size w w2 := (by repeat (first | exact Below.refl _ _ | refine below_step (by assumption) (by first | omega | (simp; done) | (simp; omega)) ?_ | refine below_drewN ?_ _ | refine Below.drew ?_ | refine Below.setCell ?_ (by first | omega | (simp; done) | (simp; omega)) _ | refine Below.alloc ?_ (by first | omega | (simp; done) | (simp; omega)) _))
    clear b2 c0_w1 c1_w1 c2_w1 c3_w1 f0_w1 f1_w1 s0_w1 s1_w1 B_w1
    skip
    have H2 := Lib.hid h2
    have HM1 := Lib.hid hm1
    clear h2 hm1 hq1
    go_wp2_with fail
    refine bodyPost_ret (v := .agg #[.int .i64 n, .slice B m cb]) (by first | (simp [results, Try.results90, go_sem, c2_w2, c3_w2, f2_w2, f3_w2]; done) | simp [*, results, Try.results90, go_sem]) rfl ⟨B, m, cb, by unfold grV; rw [grN_yes HO.out], by rw [grE_yes HO.out]; exact HM1.out, ?_, by refine Below.setCell (Below.setCell ?_ (by first | omega | (simp; done) | (simp; omega)) _) (by first | omega | (simp; done) | (simp; omega)) _; exact B_w2⟩
    rw [grE_yes HO.out]
    exact own_base (own_set (own_set H2.out _ _ (by have := LO.out; dsimp only; omega)) _ _ (by have := LO.out; dsimp only; omega)) (by have := LO.out; omega)

set_option maxRecDepth 100000 in
set_option maxHeartbeats 4000000 in
theorem spec_IsConsistent (n : Int) (es : List GL) (A : Option Addr) (k c : Nat) (w : World) (hn : es.length = k) (hm : k ≤ 1048576) (hr : LinkAt w A es) :
    Calls Try.prog 71 #[grV n A k c] w fun e w' => e = .returned (.bool (consR n es)) ∧ Below w.heap.size w w' := by
  have HS := Lib.hid (fun W h => spec_SimpleOk n es A k c W hn hm h)
  have HG := Lib.hid (fun W h => spec_GraphOf n es A k c W hn hm h)
  have HR := Lib.hid hr
  clear hr hn
  obtain ⟨ok, hok⟩ : ∃ b, b = okS n es := ⟨_, rfl⟩
  rw [← hok] at HS
  have HO := Lib.hid hok.symm
  clear hok
  unfold grV at HS HG ⊢
  cases ok with
  | false =>
    go_enter Try.func71, Try.ntmps71
    go_wp2_with fail
    refine (HS.out _ (HR.out.below (by repeat (first | exact Below.refl _ _ | refine below_step (by assumption) (by first | omega | (simp; done) | (simp; omega)) ?_ | refine below_drewN ?_ _ | refine Below.drew ?_ | refine Below.setCell ?_ (by first | omega | (simp; done) | (simp; omega)) _ | refine Below.alloc ?_ (by first | omega | (simp; done) | (simp; omega)) _)))).mono ?_
    rintro e w1 ⟨rfl, b1⟩
    go_wp2_with fail
    go_ret
    exact ⟨ret_b (by unfold consR; rw [HO.out]; rfl), (by repeat (first | exact Below.refl _ _ | refine below_step (by assumption) (by first | omega | (simp; done) | (simp; omega)) ?_ | refine below_drewN ?_ _ | refine Below.drew ?_ | refine Below.setCell ?_ (by first | omega | (simp; done) | (simp; omega)) _ | refine Below.alloc ?_ (by first | omega | (simp; done) | (simp; omega)) _))⟩
  | true =>
    have HC := Lib.hid (fun A' k' c' W hl hr => spec_NegativeCycle n (gE es) A' k' c' W hl (by have := (gE_len80 HO.out).1; omega) hr)
    unfold grV at HC
    go_enter Try.func71, Try.ntmps71
    go_wp2_with fail
    refine (HS.out _ (HR.out.below (by repeat (first | exact Below.refl _ _ | refine below_step (by assumption) (by first | omega | (simp; done) | (simp; omega)) ?_ | refine below_drewN ?_ _ | refine Below.drew ?_ | refine Below.setCell ?_ (by first | omega | (simp; done) | (simp; omega)) _ | refine Below.alloc ?_ (by first | omega | (simp; done) | (simp; omega)) _)))).mono ?_
    rintro e w1 ⟨rfl, b1⟩
    have c0_w1 : w1.cell? ⟨w.heap.size, 0, none⟩ = some (.int .i64 n) := (b1.cell (p := ⟨w.heap.size, 0, none⟩) (by first | omega | (simp; done) | (simp; omega))).trans (by first | assumption | go_simp)
    have c1_w1 : w1.cell? ⟨w.heap.size, 1, none⟩ = some (.slice A k c) := (b1.cell (p := ⟨w.heap.size, 1, none⟩) (by first | omega | (simp; done) | (simp; omega))).trans (by first | assumption | go_simp)
    have s0_w1 : w.heap.size < w1.heap.size := Nat.lt_of_lt_of_le (by first | omega | (simp; done) | (simp; omega)) b1.size
    have B_w1 : Below w.heap.size w w1 := (by repeat (first | exact Below.refl _ _ | refine below_step (by assumption) (by first | omega | (simp; done) | (simp; omega)) ?_ | refine below_drewN ?_ _ | refine Below.drew ?_ | refine Below.setCell ?_ (by first | omega | (simp; done) | (simp; omega)) _ | refine Below.alloc ?_ (by first | omega | (simp; done) | (simp; omega)) _))
    clear b1  
    go_wp2_with fail
    refine (HG.out _ (HR.out.below (by repeat (first | exact Below.refl _ _ | refine below_step (by assumption) (by first | omega | (simp; done) | (simp; omega)) ?_ | refine below_drewN ?_ _ | refine Below.drew ?_ | refine Below.setCell ?_ (by first | omega | (simp; done) | (simp; omega)) _ | refine Below.alloc ?_ (by first | omega | (simp; done) | (simp; omega)) _)))).mono ?_
    rintro e w2 ⟨B, m, cb, rfl, hm1, h2, b2⟩
    have c0_w2 : w2.cell? ⟨w.heap.size, 0, none⟩ = some (.int .i64 n) := (b2.cell (p := ⟨w.heap.size, 0, none⟩) (by first | omega | (simp; done) | (simp; omega))).trans (by first | assumption | go_simp)
    have c1_w2 : w2.cell? ⟨w.heap.size, 1, none⟩ = some (.slice A k c) := (b2.cell (p := ⟨w.heap.size, 1, none⟩) (by first | omega | (simp; done) | (simp; omega))).trans (by first | assumption | go_simp)
    have s0_w2 : w.heap.size < w2.heap.size := Nat.lt_of_lt_of_le (by first | omega | (simp; done) | (simp; omega)) b2.size
    have B_w2 : Below w.heap.size w w2 := (by repeat (first | exact Below.refl _ _ | refine below_step (by assumption) (by first | omega | (simp; done) | (simp; omega)) ?_ | refine below_drewN ?_ _ | refine Below.drew ?_ | refine Below.setCell ?_ (by first | omega | (simp; done) | (simp; omega)) _ | refine Below.alloc ?_ (by first | omega | (simp; done) | (simp; omega)) _))
    clear b2 c0_w1 c1_w1 s0_w1 B_w1
    rw [grE_yes HO.out] at hm1 h2
    have HE := Lib.hid (own_edgeS h2)
    have HM1 := Lib.hid hm1
    clear h2 hm1
    unfold grV
    rw [grN_yes HO.out]
    go_wp2_with fail
    refine (HC.out B m cb _ HM1.out.symm HE.out).mono ?_
    rintro e w3 ⟨D, q, cd, rfl, hq, _, b3⟩
    have c0_w3 : w3.cell? ⟨w.heap.size, 0, none⟩ = some (.int .i64 n) := (b3.cell (p := ⟨w.heap.size, 0, none⟩) (by first | omega | (simp; done) | (simp; omega))).trans (by first | assumption | go_simp)
    have c1_w3 : w3.cell? ⟨w.heap.size, 1, none⟩ = some (.slice A k c) := (b3.cell (p := ⟨w.heap.size, 1, none⟩) (by first | omega | (simp; done) | (simp; omega))).trans (by first | assumption | go_simp)
    have s0_w3 : w.heap.size < w3.heap.size := Nat.lt_of_lt_of_le (by first | omega | (simp; done) | (simp; omega)) b3.size
    have B_w3 : Below w.heap.size w w3 := (by repeat (first | exact Below.refl _ _ | refine below_step (by assumption) (by first | omega | (simp; done) | (simp; omega)) ?_ | refine below_drewN ?_ _ | refine Below.drew ?_ | refine Below.setCell ?_ (by first | omega | (simp; done) | (simp; omega)) _ | refine Below.alloc ?_ (by first | omega | (simp; done) | (simp; omega)) _))
    clear b3 c0_w2 c1_w2 s0_w2 B_w2
    have hqe : ((q : Int) == 0) = decide ((cycR n (gE es)).length = 0) := by rw [← hq, Bool.eq_iff_iff]; simp
    have HQ := Lib.hid hqe
    clear hqe hq
    go_wp2_with fail
    go_ret
    exact ⟨ret_b (by unfold consR; rw [HO.out, Bool.true_and]; exact HQ.out), B_w3⟩

end Go.Proofs.Yteppmlepbfjnpaa

namespace Go.Proofs.Yteppmlepbfjnpaa
open Go.RowKit
set_option linter.unusedVariables false
set_option linter.unusedSimpArgs false

def grI (n : Int) (es : List GL) : List Int := if okS n es then gI es else []
theorem grI_yes {n : Int} {es : List GL} (h : okS n es = true) : grI n es = gI es := by unfold grI; rw [if_pos h]
theorem grI_no {n : Int} {es : List GL} (h : okS n es = false) : grI n es = [] := by unfold grI; rw [if_neg (by simp [h])]
/-- What networkOf ends in. -/
def NwEnd (n : Int) (es : List GL) (w : World) (x : Ending) (w' : World) : Prop :=
  ∃ A k c D q cd, x = .returned (nwV (grN n es) A k c D q cd) ∧ k = (grE n es).length ∧ q = (grI n es).length ∧ w'.ownsRow w.heap.size 110 3 (.slice A k c) k (cellsE (grE n es)) ∧ w'.ownsRow w.heap.size 3 1 (.slice D q cd) q ((grI n es).map intV) ∧ Below w.heap.size w w'

set_option maxRecDepth 100000 in
set_option maxHeartbeats 4000000 in
theorem networkOf_any (n : Int) (es : List GL) (A : Option Addr) (k c : Nat) (w : World) (hn : es.length = k) (hm : k ≤ 1048576) (hr : LinkAt w A es) :
    Calls Try.prog 47 #[grV n A k c] w fun e w' => NwEnd n es w e w' := by
  have HS := Lib.hid (fun W h => impl_SimpleOk n es A k c W hn hm h)
  have HR := Lib.hid hr
  have HL := Lib.hid hn
  clear hr hn
  obtain ⟨ok, hok⟩ : ∃ b, b = okS n es := ⟨_, rfl⟩
  rw [← hok] at HS
  have HO := Lib.hid hok.symm
  clear hok
  unfold grV at HS ⊢
  cases ok with
  | false =>
    go_enter Try.func47, Try.ntmps47
    go_wp2_with fail
    refine (HS.out _ (HR.out.below (by repeat (first | exact Below.refl _ _ | refine below_step (by assumption) (by first | omega | (simp; done) | (simp; omega)) ?_ | refine below_drewN ?_ _ | refine Below.drew ?_ | refine Below.setCell ?_ (by first | omega | (simp; done) | (simp; omega)) _ | refine Below.alloc ?_ (by first | omega | (simp; done) | (simp; omega)) _)))).mono ?_
    rintro e w1 ⟨rfl, b1⟩
    have c0_w1 : w1.cell? ⟨w.heap.size, 0, none⟩ = some (.int .i64 n) := (b1.cell (p := ⟨w.heap.size, 0, none⟩) (by first | omega | (simp; done) | (simp; omega))).trans (by first | assumption | go_simp)
    have c1_w1 : w1.cell? ⟨w.heap.size, 1, none⟩ = some (.slice A k c) := (b1.cell (p := ⟨w.heap.size, 1, none⟩) (by first | omega | (simp; done) | (simp; omega))).trans (by first | assumption | go_simp)
    have c2_w1 : w1.cell? ⟨w.heap.size + 1, 0, none⟩ = some (.int .i64 0) := (b1.cell (p := ⟨w.heap.size + 1, 0, none⟩) (by first | omega | (simp; done) | (simp; omega))).trans (by first | assumption | go_simp)
    have c3_w1 : w1.cell? ⟨w.heap.size + 1, 1, none⟩ = some (.slice none 0 0) := (b1.cell (p := ⟨w.heap.size + 1, 1, none⟩) (by first | omega | (simp; done) | (simp; omega))).trans (by first | assumption | go_simp)
    have c4_w1 : w1.cell? ⟨w.heap.size + 1, 2, none⟩ = some (.slice none 0 0) := (b1.cell (p := ⟨w.heap.size + 1, 2, none⟩) (by first | omega | (simp; done) | (simp; omega))).trans (by first | assumption | go_simp)
    have f0_w1 : w1.frozen? ⟨w.heap.size + 1, 0, none⟩ = false := (b1.frozen (p := ⟨w.heap.size + 1, 0, none⟩) (by first | omega | (simp; done) | (simp; omega))).trans (by first | assumption | go_simp)
    have f1_w1 : w1.frozen? ⟨w.heap.size + 1, 1, none⟩ = false := (b1.frozen (p := ⟨w.heap.size + 1, 1, none⟩) (by first | omega | (simp; done) | (simp; omega))).trans (by first | assumption | go_simp)
    have f2_w1 : w1.frozen? ⟨w.heap.size + 1, 2, none⟩ = false := (b1.frozen (p := ⟨w.heap.size + 1, 2, none⟩) (by first | omega | (simp; done) | (simp; omega))).trans (by first | assumption | go_simp)
    have s0_w1 : w.heap.size < w1.heap.size := Nat.lt_of_lt_of_le (by first | omega | (simp; done) | (simp; omega)) b1.size
    have s1_w1 : w.heap.size + 1 < w1.heap.size := Nat.lt_of_lt_of_le (by first | omega | (simp; done) | (simp; omega)) b1.size
    have B_w1 : Below w.heap.size w w1 := (by repeat (first | exact Below.refl _ _ | refine below_step (by assumption) (by first | omega | (simp; done) | (simp; omega)) ?_ | refine below_drewN ?_ _ | refine Below.drew ?_ | refine Below.setCell ?_ (by first | omega | (simp; done) | (simp; omega)) _ | refine Below.alloc ?_ (by first | omega | (simp; done) | (simp; omega)) _))
    clear b1  
    go_wp2_with fail
    refine bodyPost_ret (v := .agg #[.int .i64 0, .slice none 0 0, .slice none 0 0]) (by first | (simp [results, Try.results47, go_sem, c2_w1, c3_w1, c4_w1]; done) | simp [*, results, Try.results47, go_sem]) rfl ⟨none, 0, 0, none, 0, 0, by unfold nwV; rw [grN_no HO.out], by rw [grE_no HO.out]; rfl, by rw [grI_no HO.out]; rfl, by rw [grE_no HO.out]; exact World.ownsRow_nil _ _ _ _, by rw [grI_no HO.out]; exact World.ownsRow_nil _ _ _ _, (by repeat (first | exact Below.refl _ _ | refine below_step (by assumption) (by first | omega | (simp; done) | (simp; omega)) ?_ | refine below_drewN ?_ _ | refine Below.drew ?_ | refine Below.setCell ?_ (by first | omega | (simp; done) | (simp; omega)) _ | refine Below.alloc ?_ (by first | omega | (simp; done) | (simp; omega)) _))⟩
  | true =>
    have hk40 : k ≤ 40 := by have := okS_rng HO.out; have := HL.out; omega
    go_enter Try.func47, Try.ntmps47
    go_wp2_with fail
    refine (HS.out _ (HR.out.below (by repeat (first | exact Below.refl _ _ | refine below_step (by assumption) (by first | omega | (simp; done) | (simp; omega)) ?_ | refine below_drewN ?_ _ | refine Below.drew ?_ | refine Below.setCell ?_ (by first | omega | (simp; done) | (simp; omega)) _ | refine Below.alloc ?_ (by first | omega | (simp; done) | (simp; omega)) _)))).mono ?_
    rintro e w1 ⟨rfl, b1⟩
    have c0_w1 : w1.cell? ⟨w.heap.size, 0, none⟩ = some (.int .i64 n) := (b1.cell (p := ⟨w.heap.size, 0, none⟩) (by first | omega | (simp; done) | (simp; omega))).trans (by first | assumption | go_simp)
    have c1_w1 : w1.cell? ⟨w.heap.size, 1, none⟩ = some (.slice A k c) := (b1.cell (p := ⟨w.heap.size, 1, none⟩) (by first | omega | (simp; done) | (simp; omega))).trans (by first | assumption | go_simp)
    have c2_w1 : w1.cell? ⟨w.heap.size + 1, 0, none⟩ = some (.int .i64 0) := (b1.cell (p := ⟨w.heap.size + 1, 0, none⟩) (by first | omega | (simp; done) | (simp; omega))).trans (by first | assumption | go_simp)
    have c3_w1 : w1.cell? ⟨w.heap.size + 1, 1, none⟩ = some (.slice none 0 0) := (b1.cell (p := ⟨w.heap.size + 1, 1, none⟩) (by first | omega | (simp; done) | (simp; omega))).trans (by first | assumption | go_simp)
    have c4_w1 : w1.cell? ⟨w.heap.size + 1, 2, none⟩ = some (.slice none 0 0) := (b1.cell (p := ⟨w.heap.size + 1, 2, none⟩) (by first | omega | (simp; done) | (simp; omega))).trans (by first | assumption | go_simp)
    have f0_w1 : w1.frozen? ⟨w.heap.size + 1, 0, none⟩ = false := (b1.frozen (p := ⟨w.heap.size + 1, 0, none⟩) (by first | omega | (simp; done) | (simp; omega))).trans (by first | assumption | go_simp)
    have f1_w1 : w1.frozen? ⟨w.heap.size + 1, 1, none⟩ = false := (b1.frozen (p := ⟨w.heap.size + 1, 1, none⟩) (by first | omega | (simp; done) | (simp; omega))).trans (by first | assumption | go_simp)
    have f2_w1 : w1.frozen? ⟨w.heap.size + 1, 2, none⟩ = false := (b1.frozen (p := ⟨w.heap.size + 1, 2, none⟩) (by first | omega | (simp; done) | (simp; omega))).trans (by first | assumption | go_simp)
    have s0_w1 : w.heap.size < w1.heap.size := Nat.lt_of_lt_of_le (by first | omega | (simp; done) | (simp; omega)) b1.size
    have s1_w1 : w.heap.size + 1 < w1.heap.size := Nat.lt_of_lt_of_le (by first | omega | (simp; done) | (simp; omega)) b1.size
    have B_w1 : Below w.heap.size w w1 := (by repeat (first | exact Below.refl _ _ | refine below_step (by assumption) (by first | omega | (simp; done) | (simp; omega)) ?_ | refine below_drewN ?_ _ | refine Below.drew ?_ | refine Below.setCell ?_ (by first | omega | (simp; done) | (simp; omega)) _ | refine Below.alloc ?_ (by first | omega | (simp; done) | (simp; omega)) _))
    clear b1  
    have n1 : (w.heap.size = w1.heap.size) = False := eq_false (by omega)
    have n2 : (w1.heap.size = w.heap.size) = False := eq_false (by omega)
    have n3 : (w.heap.size + 1 = w1.heap.size) = False := eq_false (by omega)
    have n4 : (w1.heap.size = w.heap.size + 1) = False := eq_false (by omega)
    have R0 : Hid (NetR (w1.alloc (.cells #[.int .i64 n, .slice none 0 0, .slice none 0 0] 71)) (w1.heap.size) n (.slice none 0 0) (.slice none 0 0) (.slice none 0 0) (.slice none 0 0) 0 0 [] []) := Lib.hid ⟨by go_simp, by go_simp, by go_simp, by go_simp, by go_simp, World.ownsRow_nil _ _ _ _, World.ownsRow_nil _ _ _ _, fun q h => by simp [Value.ownBlock] at h, by simp⟩
    have BX0 : Hid (Below w1.heap.size w1 (w1.alloc (.cells #[.int .i64 n, .slice none 0 0, .slice none 0 0] 71))) := Lib.hid ((Below.refl _ _).alloc (Nat.le_refl _) _)
    go_wp2_with fail
    go_loopw [17] (fun ii wr => ∃ (j sa sb : Nat) (A2 : Option Addr) (c2 : Nat) (B2 : Option Addr) (d2 : Nat), j ≤ k ∧ ii = .int .i64 j ∧ sa = (gE (es.take j)).length ∧ sb = (fromJ es j).length ∧ NetR wr (w1.heap.size) n (.slice A2 sa c2) (.slice B2 sb d2) (.slice A2 sa c2) (.slice B2 sb d2) sa sb (gE (es.take j)) (fromJ es j) ∧ Below w1.heap.size w1 wr) (fun ii _ => k - (intOf ii).toNat)
    case atStart => exact ⟨0, 0, 0, none, 0, none, 0, Nat.zero_le _, rfl, rfl, rfl, R0.out, BX0.out⟩
    case round =>
      obtain ⟨j, sa, sb, A2, c2, B2, d2, hj, rfl, hsa, hsb, hnet, hbw⟩ := hrel
      have X := Lib.hid hnet
      have BW := Lib.hid (B_w1.trans (hbw.mono B_w1.size))
      have BW1 := Lib.hid hbw
      have HSA := Lib.hid hsa
      have HSB := Lib.hid hsb
      obtain ⟨k0, k1, k2, h1, h2, s0, ng0, ng1⟩ := X.out.facts
      clear hnet hbw hsa hsb
      by_cases hlt : j < k
      · have hl := HL.out
        obtain ⟨g, o, rfl, hg, hc⟩ := HR.out (by omega)
        obtain ⟨c0, c1, c2', c3⟩ := hc j (by omega)
        have hkk := (okS_link HO.out (List.getElem_mem (show j < es.length by omega))).2.2
        have hlen := gE_length es j (by omega)
        have hnE := gE_next (es := es) (j := j) (List.getElem?_eq_getElem (by omega))
        have hnF := fromJ_next (es := es) (j := j) (List.getElem?_eq_getElem (by omega))
        have hs80 : sa ≤ 80 ∧ sb ≤ 80 := by have := HSA.out; have := HSB.out; omega
        obtain ⟨e, he⟩ : ∃ e, e = es[j]'(by omega) := ⟨_, rfl⟩
        rw [← he] at c0 c1 c2' c3 hkk hnE hnF
        have q0 := (BW.out.cell (p := ⟨g, o + j * 4, none⟩) hg).trans c0
        have q1 := (BW.out.cell (p := ⟨g, o + j * 4 + 1, none⟩) hg).trans c1
        have q2 := (BW.out.cell (p := ⟨g, o + j * 4 + 2, none⟩) hg).trans c2'
        have q3 := (BW.out.cell (p := ⟨g, o + j * 4 + 3, none⟩) hg).trans c3
        obtain ⟨u, v, lo, hi⟩ := e
        dsimp only at q0 q1 q2 q3 hkk
        have HA := Lib.hid (fun W h => addLink_any (w1.heap.size) n A2 sa c2 B2 sb d2 (gE (es.take j)) (fromJ es j) (j : Int) u v lo hi W hkk (by omega) (by omega) h)
        have X2 := Lib.hid (X.out.alloc (.cells #[.int .i64 u, .int .i64 v, .int .i64 lo, .int .i64 hi] 76))
        have HNE := Lib.hid hnE
        have HNF := Lib.hid hnF
        clear hc c0 c1 c2' c3 he hl hkk hlen hnE hnF
        go_wp2_with fail
        refine (HA.out _ X2.out).mono ?_
        rintro e w3 ⟨rfl, A3, c3, B3, d3, x3, s3⟩
        have X3 := Lib.hid x3
        have BW3 := Lib.hid (BW1.out.trans (((Below.refl _ _).alloc (Nat.le_refl _) _ |>.mono BW1.out.size).trans ((s3.base X2.out).mono (Nat.le_refl _))))
        clear x3 s3
        go_wp2_with fail
        go_roundw
        case rel => exact ⟨j + 1, _, _, A3, c3, B3, d3, by omega, by go_num, by rw [HNE.out, List.length_append, ← HSA.out], by rw [HNF.out, List.length_append, ← HSB.out], by rw [HNE.out, HNF.out]; exact X3.out, BW3.out⟩
        case measure => simp [intOf]; omega
      · have hjk : j = k := by omega
        subst hjk
        have e0 := (BW1.out.cell (p := ⟨w.heap.size + 1, 0, none⟩) s1_w1).trans c2_w1
        have e1 := (BW1.out.cell (p := ⟨w.heap.size + 1, 1, none⟩) s1_w1).trans c3_w1
        have e2 := (BW1.out.cell (p := ⟨w.heap.size + 1, 2, none⟩) s1_w1).trans c4_w1
        have f0 := (BW1.out.frozen (p := ⟨w.heap.size + 1, 0, none⟩) s1_w1).trans f0_w1
        have f1 := (BW1.out.frozen (p := ⟨w.heap.size + 1, 1, none⟩) s1_w1).trans f1_w1
        have f2 := (BW1.out.frozen (p := ⟨w.heap.size + 1, 2, none⟩) s1_w1).trans f2_w1
        have LO : Hid (w.heap.size + 1 < w1.heap.size) := Lib.hid (by omega)
        have m1 : (w.heap.size + 1 = w1.heap.size) = False := eq_false (by have := LO.out; omega)
        have m2 : (w1.heap.size = w.heap.size + 1) = False := eq_false (by have := LO.out; omega)
        go_wp2_with fail
        refine bodyPost_ret (v := .agg #[.int .i64 n, .slice A2 sa c2, .slice B2 sb d2]) (by first | (simp [results, Try.results47, go_sem, e0, e1, e2, f0, f1, f2]; done) | simp [*, results, Try.results47, go_sem]) rfl ?_
        have hl := HL.out
        have hsa := HSA.out
        have hsb := HSB.out
        have X4 := X.out
        have hfg : fromJ es j = gI es := by unfold gI; rw [hl]
        rw [List.take_of_length_le (by omega)] at hsa X4
        rw [hfg] at hsb X4
        refine ⟨A2, sa, c2, B2, sb, d2, by unfold nwV; rw [grN_yes HO.out], by rw [grE_yes HO.out]; exact hsa, by rw [grI_yes HO.out]; exact hsb, ?_, ?_, ?_⟩
        · rw [grE_yes HO.out]
          refine own_base ?_ (show w.heap.size ≤ w1.heap.size + 1 by have := LO.out; omega)
          repeat (refine own_set ?_ _ _ (by have := LO.out; dsimp only; omega))
          exact X4.rowE
        · rw [grI_yes HO.out]
          refine own_base ?_ (show w.heap.size ≤ w1.heap.size + 1 by have := LO.out; omega)
          repeat (refine own_set ?_ _ _ (by have := LO.out; dsimp only; omega))
          exact X4.rowT
        · repeat (refine Below.setCell ?_ (by first | omega | (simp; done) | (simp; omega)) _)
          exact BW.out

set_option maxRecDepth 100000 in
set_option maxHeartbeats 4000000 in
theorem impl_GraphOf (n : Int) (es : List GL) (A : Option Addr) (k c : Nat) (w : World) (hn : es.length = k) (hm : k ≤ 1048576) (hr : LinkAt w A es) :
    Calls Try.prog 79 #[grV n A k c] w fun e w' => GrEnd n es w e w' := by
  have HS := Lib.hid (fun W h => networkOf_any n es A k c W hn hm h)
  have HR := Lib.hid hr
  clear hr hn
  obtain ⟨t0, ht0⟩ : ∃ t, t = grN n es := ⟨_, rfl⟩
  have HT0 := Lib.hid ht0
  unfold NwEnd nwV at HS
  rw [← ht0] at HS
  unfold grV at HS ⊢
  clear ht0
  have hfd : ∀ (A1 : Option Addr) (m c1 : Nat) (D1 : Option Addr) (q d1 : Nat) (W : World), (Instr.field 71 (.agg #[.int .i64 t0, .slice A1 m c1, .slice D1 q d1]) 0).run Try.prog W = .ok (.agg #[.int .i64 t0, .slice A1 m c1]) W := fun _ _ _ _ _ _ _ => by kernel_rfl
  go_enter Try.func79, Try.ntmps79
  have hz : w.heap.size + 1 < ((w.alloc (.cells #[.int .i64 n, .slice A k c] 25)).alloc (.cells #[.int .i64 0, .slice none 0 0] 69)).heap.size := by simp
  go_wp2_with fail
  refine (HS.out _ (HR.out.below (by repeat (first | exact Below.refl _ _ | refine below_step (by assumption) (by first | omega | (simp; done) | (simp; omega)) ?_ | refine below_drewN ?_ _ | refine Below.drew ?_ | refine Below.setCell ?_ (by first | omega | (simp; done) | (simp; omega)) _ | refine Below.alloc ?_ (by first | omega | (simp; done) | (simp; omega)) _)))).mono ?_
  rintro e w1 ⟨A1, m, c1, D1, q, d1, rfl, hm1, hq1, hE, hT, b1⟩
  have c0_w1 : w1.cell? ⟨w.heap.size, 0, none⟩ = some (.int .i64 n) := (b1.cell (p := ⟨w.heap.size, 0, none⟩) (by first | omega | (simp; done) | (simp; omega))).trans (by first | assumption | go_simp)
  have c1_w1 : w1.cell? ⟨w.heap.size, 1, none⟩ = some (.slice A k c) := (b1.cell (p := ⟨w.heap.size, 1, none⟩) (by first | omega | (simp; done) | (simp; omega))).trans (by first | assumption | go_simp)
  have c2_w1 : w1.cell? ⟨w.heap.size + 1, 0, none⟩ = some (.int .i64 0) := (b1.cell (p := ⟨w.heap.size + 1, 0, none⟩) (by first | omega | (simp; done) | (simp; omega))).trans (by first | assumption | go_simp)
  have c3_w1 : w1.cell? ⟨w.heap.size + 1, 1, none⟩ = some (.slice none 0 0) := (b1.cell (p := ⟨w.heap.size + 1, 1, none⟩) (by first | omega | (simp; done) | (simp; omega))).trans (by first | assumption | go_simp)
  have f0_w1 : w1.frozen? ⟨w.heap.size + 1, 0, none⟩ = false := (b1.frozen (p := ⟨w.heap.size + 1, 0, none⟩) (by first | omega | (simp; done) | (simp; omega))).trans (by first | assumption | go_simp)
  have f1_w1 : w1.frozen? ⟨w.heap.size + 1, 1, none⟩ = false := (b1.frozen (p := ⟨w.heap.size + 1, 1, none⟩) (by first | omega | (simp; done) | (simp; omega))).trans (by first | assumption | go_simp)
  have s0_w1 : w.heap.size < w1.heap.size := Nat.lt_of_lt_of_le (by first | omega | (simp; done) | (simp; omega)) b1.size
  have s1_w1 : w.heap.size + 1 < w1.heap.size := Nat.lt_of_lt_of_le (by first | omega | (simp; done) | (simp; omega)) b1.size
  have B_w1 : Below w.heap.size w w1 := (by repeat (first | exact Below.refl _ _ | refine below_step (by assumption) (by first | omega | (simp; done) | (simp; omega)) ?_ | refine below_drewN ?_ _ | refine Below.drew ?_ | refine Below.setCell ?_ (by first | omega | (simp; done) | (simp; omega)) _ | refine Below.alloc ?_ (by first | omega | (simp; done) | (simp; omega)) _))
  clear b1  
  have HE := Lib.hid hE
  have HM := Lib.hid hm1
  clear hE hT hm1 hq1
  have HZ := Lib.hid hz
  clear hz
  go_wp2_with fail
  refine bodyPost_ret (v := .agg #[.int .i64 t0, .slice A1 m c1]) (by first | (simp [results, Try.results79, go_sem, c2_w1, c3_w1]; done) | simp [*, results, Try.results79, go_sem]) rfl ?_
  refine ⟨A1, m, c1, by unfold grV; rw [HT0.out], HM.out, ?_, by refine Below.setCell (Below.setCell ?_ (by first | omega | (simp; done) | (simp; omega)) _) (by first | omega | (simp; done) | (simp; omega)) _; exact B_w1⟩
  exact own_base (own_set (own_set HE.out _ _ HZ.out) _ _ HZ.out) (by have := HZ.out; omega)

end Go.Proofs.Yteppmlepbfjnpaa

namespace Go.Proofs.Yteppmlepbfjnpaa
open Go.RowKit
set_option linter.unusedVariables false
set_option linter.unusedSimpArgs false

theorem same_end {N : Nat} {es : List GE} (hok : okG N es = true) : (roundsE es (s0C N 0) N).2 = (endC N es).2 := by
  obtain ⟨t, _, h1, _⟩ := Way.rounds (s := s0C N (-1)) (s' := s0C N 0) (okG_nodes hok) (fun v hv => decide_eq_true hv) rfl rfl N
  exact h1

set_option maxRecDepth 100000 in
set_option maxHeartbeats 8000000 in
theorem impl_NegativeCycle (n : Int) (es : List GE) (A : Option Addr) (k c : Nat) (w : World) (hn : es.length = k) (hk : k ≤ 1048576) (hr : EdgeAt w A es) :
    Calls Try.prog 49 #[grV n A k c] w fun e w' =>
      ∃ B m cb, e = .returned (.slice B m cb) ∧ m = (cycR n es).length ∧ w'.ownsRow w.heap.size 3 1 (.slice B m cb) m ((cycR n es).map intV) ∧ Below w.heap.size w w' := by
  have hz : ∀ W, (zeroValue 106).run Try.prog W = .ok (.agg #[.bool false, .bool false, .bool false, .bool false, .bool false, .bool false, .bool false, .bool false, .int .i64 0, .int .i64 0, .int .i64 0, .int .i64 0, .int .i64 0, .int .i64 0, .int .i64 0, .int .i64 0, .int .i64 0, .int .i64 0, .int .i64 0, .int .i64 0, .int .i64 0, .int .i64 0, .int .i64 0, .int .i64 0]) W := fun _ => by kernel_rfl
  have hg := fun W h => impl_GraphOk n es A k c W hn hk h
  have HR := Lib.hid hr
  have HL := Lib.hid hn
  clear hr hn
  obtain ⟨ok, hok⟩ : ∃ b, b = okG n es := ⟨_, rfl⟩
  rw [← hok] at hg
  have HG := Lib.hid hg
  have HO := Lib.hid hok
  clear hok hg
  cases ok with
  | false =>
    unfold grV at HG ⊢
    go_enter Try.func49, Try.ntmps49
    go_wp2_with fail
    refine (HG.out _ (HR.out.below (by repeat (first | exact Below.refl _ _ | refine below_step (by assumption) (by first | omega | (simp; done) | (simp; omega)) ?_ | refine below_drewN ?_ _ | refine Below.drew ?_ | refine Below.setCell ?_ (by first | omega | (simp; done) | (simp; omega)) _ | refine Below.alloc ?_ (by first | omega | (simp; done) | (simp; omega)) _)))).mono ?_
    rintro e w1 ⟨rfl, b1⟩
    go_wp2_with fail
    go_ret
    have h := cycR_no (n := n) (es := es) HO.out.symm
    exact ⟨none, 0, 0, rfl, by rw [h]; rfl, by rw [h]; exact ⟨rfl, .inl ⟨rfl, rfl⟩⟩, (by repeat (first | exact Below.refl _ _ | refine below_step (by assumption) (by first | omega | (simp; done) | (simp; omega)) ?_ | refine below_drewN ?_ _ | refine Below.drew ?_ | refine Below.setCell ?_ (by first | omega | (simp; done) | (simp; omega)) _ | refine Below.alloc ?_ (by first | omega | (simp; done) | (simp; omega)) _))⟩
  | true =>
    have hrng := okG_rng HO.out.symm
    obtain ⟨N, rfl⟩ : ∃ N : Nat, n = N := ⟨n.toNat, by omega⟩
    have hN8 : N ≤ 8 := by omega
    have hk80 : k ≤ 80 := by have := HL.out; omega
    clear hrng
    unfold grV at HG ⊢
    go_enter Try.func49, Try.ntmps49
    go_wp2_with fail
    refine (HG.out _ (HR.out.below (by repeat (first | exact Below.refl _ _ | refine below_step (by assumption) (by first | omega | (simp; done) | (simp; omega)) ?_ | refine below_drewN ?_ _ | refine Below.drew ?_ | refine Below.setCell ?_ (by first | omega | (simp; done) | (simp; omega)) _ | refine Below.alloc ?_ (by first | omega | (simp; done) | (simp; omega)) _)))).mono ?_
    rintro e w2 ⟨rfl, b2⟩
    have ka2 : w2.cell? ⟨w.heap.size, 0, none⟩ = some (.int .i64 (N : Int)) := (b2.cell (p := ⟨w.heap.size, 0, none⟩) (by first | omega | (simp; done) | (simp; omega))).trans (by first | assumption | go_simp)
    have kb2 : w2.cell? ⟨w.heap.size, 1, none⟩ = some (.slice A k c) := (b2.cell (p := ⟨w.heap.size, 1, none⟩) (by first | omega | (simp; done) | (simp; omega))).trans (by first | assumption | go_simp)
    have sz2 : w.heap.size < w2.heap.size := Nat.lt_of_lt_of_le (by first | omega | (simp; done) | (simp; omega)) b2.size
    have B2 : Below w.heap.size w w2 := (by repeat (first | exact Below.refl _ _ | refine below_step (by assumption) (by first | omega | (simp; done) | (simp; omega)) ?_ | refine below_drewN ?_ _ | refine Below.drew ?_ | refine Below.setCell ?_ (by first | omega | (simp; done) | (simp; omega)) _ | refine Below.alloc ?_ (by first | omega | (simp; done) | (simp; omega)) _))
    clear b2
    go_upto_region 4 with (fail)
    have hM3 := mk_zero w2
    unfold zeroM at hM3
    obtain ⟨w3, hw3⟩ : ∃ w3, w3 = w2.alloc (.cells #[.bool false, .bool false, .bool false, .bool false, .bool false, .bool false, .bool false, .bool false, .int .i64 0, .int .i64 0, .int .i64 0, .int .i64 0, .int .i64 0, .int .i64 0, .int .i64 0, .int .i64 0, .int .i64 0, .int .i64 0, .int .i64 0, .int .i64 0, .int .i64 0, .int .i64 0, .int .i64 0, .int .i64 0] 106) := ⟨_, rfl⟩
    rw [← hw3] at hM3 ⊢
    have b3 : Below w2.heap.size w2 w3 := by rw [hw3]; exact (Below.refl _ _).alloc (Nat.le_refl _) _
    clear hw3
    obtain ⟨b, hb⟩ : ∃ b, b = w2.heap.size := ⟨_, rfl⟩
    have ka3 := (b3.cell (p := ⟨w.heap.size, 0, none⟩) (by dsimp only; omega)).trans ka2
    have kb3 := (b3.cell (p := ⟨w.heap.size, 1, none⟩) (by dsimp only; omega)).trans kb2
    have B3 : Below w.heap.size w w3 := B2.trans (b3.mono (by omega))
    rw [← hb] at hM3 sz2 ⊢
    clear hb b3 B2 ka2 kb2
    have hK0 : RowF w3 b 0 8 (mixV (.bool true) (.bool false) 0) := by rw [mixV_zero]; exact hM3.kn.congr (fun j hj => rfl)
    have hD0 : RowF w3 b 8 8 (fun _ => .int .i64 0) := hM3.nu.congr (fun j hj => rfl)
    have hL0 : RowF w3 b 16 8 (fun _ => .int .i64 0) := hM3.la.congr (fun j hj => rfl)
    have HK0 := Lib.hid hK0
    have HD0 := Lib.hid hD0
    have HL0 := Lib.hid hL0
    clear hM3 hK0 hD0 hL0
    go_wp2_with fail
    go_loopw [11] (fun i wr => ∃ q : Nat, q ≤ N ∧ i = .int .i64 q ∧ RowF wr b 0 8 (mixV (.bool true) (.bool false) q) ∧ RowF wr b 8 8 (fun _ => .int .i64 0) ∧ RowF wr b 16 8 (fun _ => .int .i64 0) ∧ Below b w3 wr) (fun i _ => N - (intOf i).toNat)
    case atStart => exact ⟨0, Nat.zero_le _, rfl, HK0.out, HD0.out, HL0.out, Below.refl _ _⟩
    case round =>
      obtain ⟨q, hq, rfl, hK, hD, hLr, hbw⟩ := hrel
      by_cases hlt : q < N
      · have f1 : wr.cell? ⟨b, q, none⟩ = some (.bool false) := by simpa [mixV] using hK.cell q (by omega)
        have r1 : wr.frozen? ⟨b, q, none⟩ = false := by simpa using hK.free q (by omega)
        have hqi : (q : Int) < 8 := by omega
        have HD := Lib.hid hD
        have HLr := Lib.hid hLr
        have HK := Lib.hid hK
        clear hD hLr hK
        go_wp2_with fail
        go_roundw
        case rel => exact ⟨q + 1, by omega, by go_num, by rw [← mixV_set]; exact HK.out.store (by omega) (by omega) _, HD.out.beside (by omega) _, HLr.out.beside (by omega) _, hbw.setCell (Nat.le_refl _) _⟩
        case measure => simp [intOf]; omega
      · have : q = N := by omega
        subst this
        obtain ⟨w5, rfl⟩ : ∃ w5 : World, w5 = wr := ⟨_, rfl⟩
        have hM5 : MkAt w5 b (s0C q 0) := ⟨hK.congr (fun j hj => by unfold mixV fB s0C; dsimp only; by_cases h : j < q <;> simp [h]), hD.congr (fun j hj => rfl), hLr.congr (fun j hj => rfl)⟩
        have ka5 := (hbw.cell (p := ⟨w.heap.size, 0, none⟩) sz2).trans ka3
        have kb5 := (hbw.cell (p := ⟨w.heap.size, 1, none⟩) sz2).trans kb3
        have hB5 : Below w.heap.size w w5 := B3.trans (hbw.mono (by omega))
        have hse := settle_any b q es A k c (s0C q 0) w w5 HL.out HO.out.symm HR.out hB5 (by omega) hM5
        rw [same_end HO.out.symm] at hse
        obtain ⟨ch, hch⟩ : ∃ ch, ch = (endC q es).2 := ⟨_, rfl⟩
        obtain ⟨sN, hsN⟩ : ∃ s, s = (roundsE es (s0C q 0) q).1 := ⟨_, rfl⟩
        rw [← hch, ← hsN] at hse
        unfold grV at hse
        have HSE := Lib.hid hse
        have HCH := Lib.hid hch
        have HSN := Lib.hid hsN
        clear hse hch hsN hK hD hLr hM5 hbw hlt
        by_cases h1 : ch = -1
        · have hbc : (ch == -1) = true := by simp [h1]
          have H1 := Lib.hid h1
          clear h1
          go_wp2_with fail
          refine HSE.out.mono ?_
          rintro e w6 ⟨rfl, hM6, hb6⟩
          have B6 : Below w.heap.size w w6 := hB5.trans (hb6.mono (by omega))
          clear hM6 hb6
          go_wp2_with fail
          go_ret
          have h := cycR_nil (N := q) (es := es) (by rw [← HCH.out]; exact H1.out)
          exact ⟨none, 0, 0, rfl, by rw [h]; rfl, by rw [h]; exact ⟨rfl, .inl ⟨rfl, rfl⟩⟩, B6⟩
        · have hbc : (ch == -1) = false := by simp [h1]
          have hcf := cyc_facts HO.out.symm (by rw [← HCH.out]; exact h1)
          have hyes := cycR_yes HO.out.symm (by rw [← HCH.out]; exact h1)
          rw [← HCH.out] at hcf
          obtain ⟨jc, ec, hjc, _, hec, hhead, hpath, hp0, _, hper, hmin, hp8⟩ := hcf
          subst hjc
          rw [← HSN.out] at hpath
          have hla : ∀ i, sN.la (itE es (endC q es).1.la (headC q es) i) = (endC q es).1.la (itE es (endC q es).1.la (headC q es) i) := by
            intro i
            obtain ⟨_, j, e, a1, a2, _⟩ := hpath i
            rw [a1, a2]
          have hbs := back_same (es := es) hla q (perC q es)
          have hits := itE_same (es := es) hla
          have hp' : ∀ i, itE es sN.la (headC q es) i < q ∧ ∃ (j : Nat) (e : GE), sN.la (itE es sN.la (headC q es) i) = (j : Int) ∧ es[j]? = some e := by
            intro i
            rw [hits i]
            obtain ⟨a0, j, e, _, a2, a3⟩ := hpath i
            exact ⟨a0, j, e, a2, a3⟩
          have hper' : itE es sN.la (itE es sN.la (headC q es) q) (perC q es) = itE es sN.la (headC q es) q := by
            rw [hbs.2.1, hbs.1]; exact hper
          have hmin' : ∀ i, 0 < i → i < perC q es → itE es sN.la (itE es sN.la (headC q es) q) i ≠ itE es sN.la (headC q es) q := by
            intro i h1 h2
            rw [hbs.2.1, hbs.1]; exact hmin i h1 h2
          have hcb := fun W hE hM => cycleBehind_any b q es A k c sN (headC q es) (perC q es) W HL.out HO.out.symm hE hM hp' hp0 hp8 hper' hmin'
          rw [hbs.2.2] at hcb
          have hres : (backE es (endC q es).1.la (itE es (endC q es).1.la (headC q es) q) (perC q es)).reverse = cycR (q : Int) es := by rw [hyes]; rfl
          rw [hres] at hcb
          have hplen : perC q es = (cycR (q : Int) es).length := by rw [← hres, List.length_reverse, backE_length]
          obtain ⟨u0, v0, heq0, hu0, hv0⟩ := okG_edgeN HO.out.symm hec
          have hv0v : headC q es = v0 := by rw [hhead, heq0]; simp
          rw [hv0v] at hcb
          obtain ⟨pp, hpp⟩ : ∃ pp, pp = perC q es := ⟨_, rfl⟩
          rw [← hpp] at hcb hplen
          have hjk : jc < k := by have := (List.getElem?_eq_some_iff.1 hec).1; have := HL.out; omega
          obtain ⟨g, o, rfl, hg, hc⟩ := HR.out (by have := HL.out; omega)
          have f12 : w.cell? ⟨g, o + jc * 3 + 1, none⟩ = some (.int .i64 (v0 : Int)) := by
            refine (hc jc (by have := HL.out; omega)).2.1.trans ?_
            have : es[jc]'(by have := HL.out; omega) = ec := by rw [List.getElem?_eq_getElem (by have := HL.out; omega)] at hec; exact Option.some.inj hec
            rw [this, heq0]
          unfold grV at hcb
          have HCB := Lib.hid hcb
          have HPL := Lib.hid hplen
          have hji : (jc : Int) < (k : Int) := by omega
          clear h1 hyes hec hhead hpath hp0 hper hmin hp8 hla hbs hits hp' hper' hmin' hcb hres hplen heq0 hv0v hpp hc
          go_wp2_with fail
          refine HSE.out.mono ?_
          rintro e w6 ⟨rfl, hM6, hb6⟩
          have B6 : Below w.heap.size w w6 := hB5.trans (hb6.mono (by omega))
          have ka6 := (hb6.cell (p := ⟨w.heap.size, 0, none⟩) sz2).trans ka5
          have kb6 := (hb6.cell (p := ⟨w.heap.size, 1, none⟩) sz2).trans kb5
          have f6 : w6.cell? ⟨g, o + jc * 3 + 1, none⟩ = some (.int .i64 (v0 : Int)) := (B6.cell (p := ⟨g, o + jc * 3 + 1, none⟩) hg).trans f12
          have E6 := HR.out.below B6
          have hws : w.heap.size < w6.heap.size := by have := hM6.kn.lt; omega
          have hgs : g < w6.heap.size := by omega
          have HM6 := Lib.hid hM6
          have HE6 := Lib.hid E6
          clear hb6 hM6 E6 ka5 kb5 f12 ka3 kb3
          go_wp2_with fail
          go_region_held3 (fun W => W.cell? ⟨w.heap.size, 0, none⟩ = some (.int .i64 (q : Int)) ∧ W.cell? ⟨w.heap.size, 1, none⟩ = some (.slice (some ⟨g, o, none⟩) k c) ∧ W.cell? ⟨g, o + jc * 3 + 1, none⟩ = some (.int .i64 (v0 : Int))) (first | go_keep | (dsimp only; refine ⟨?_, ?_, ?_⟩ <;> first | assumption | go_keep | go_simp)) (first | (go_at_call 83; refine (HCB.out _ (by exact HE6.out.of_heap rfl) (by exact HM6.out.of_heap (Nat.le_refl _) rfl)).mono ?_; rintro e w7 ⟨D7, c7, rfl, ho7, b7⟩; have ka7 : w7.cell? ⟨w.heap.size, 0, none⟩ = some (.int .i64 (q : Int)) := (b7.cell (p := ⟨w.heap.size, 0, none⟩) (by first | omega | (simp; done) | (simp; omega))).trans (by first | assumption | go_simp); have kb7 : w7.cell? ⟨w.heap.size, 1, none⟩ = some (.slice (some ⟨g, o, none⟩) k c) := (b7.cell (p := ⟨w.heap.size, 1, none⟩) (by first | omega | (simp; done) | (simp; omega))).trans (by first | assumption | go_simp); have f7 : w7.cell? ⟨g, o + jc * 3 + 1, none⟩ = some (.int .i64 (v0 : Int)) := (b7.cell (p := ⟨g, o + jc * 3 + 1, none⟩) (by first | omega | (simp; done) | (simp; omega))).trans (by first | assumption | go_simp)))
          all_goals
            go_wp2_with fail
            go_ret
            refine ⟨D7, pp, c7, rfl, HPL.out, own_base ho7 (by simp; omega), B6.trans ?_⟩
            exact (Below.refl _ _).drew.trans (b7.mono (by simp; omega))

end Go.Proofs.Yteppmlepbfjnpaa

namespace Go.Proofs.Yteppmlepbfjnpaa
open Go.RowKit
set_option linter.unusedVariables false
set_option linter.unusedSimpArgs false

theorem RowAt.kept {w w' : World} {A : Option Addr} {xs : List Value} {r : Option Nat} (h : RowAt w A xs) (hg : w.grownBy w' r) (hne : ∀ g o, 0 < xs.length → A = some ⟨g, o, none⟩ → r ≠ some g) : RowAt w' A xs := by
  intro hx
  obtain ⟨g, o, hA, hlt, hc⟩ := h hx
  have := hg.size
  exact ⟨g, o, hA, by omega, fun j hj => (World.cell?_of_block (a := ⟨g, o + j, none⟩) (hg.block g hlt (fun e => hne g o hx hA e.symm))).trans (hc j hj)⟩
theorem RowAt.not_empty {w : World} {A : Option Addr} {xs : List Value} {b : Nat} {t : TypeId} (h : RowAt w A xs) (hb : w.heap[b]? = some (.cells #[] t (0, 0))) : ∀ g o, 0 < xs.length → A = some ⟨g, o, none⟩ → g ≠ b := by
  intro g o hx hA hgb
  subst hgb
  obtain ⟨g', o', hA', _, hc⟩ := h hx
  rw [hA'] at hA
  injection hA with hA
  injection hA with h1 h2
  subst h1
  have := hc 0 hx
  simp [World.cell?, hb] at this
theorem RowAt.lt {w : World} {A : Option Addr} {xs : List Value} (h : RowAt w A xs) : ∀ g o, 0 < xs.length → A = some ⟨g, o, none⟩ → g < w.heap.size := by
  intro g o hx hA
  obtain ⟨g', o', hA', hlt, _⟩ := h hx
  rw [hA'] at hA
  injection hA with hA
  injection hA with h1 h2
  subst h1; exact hlt
theorem take_map_next {f : Int → Int} {cs : List Int} {j : Nat} {x : Int} (h : cs[j]? = some x) : (cs.take (j + 1)).map f = (cs.take j).map f ++ [f x] := by
  rw [List.take_add_one, h]; simp

end Go.Proofs.Yteppmlepbfjnpaa
