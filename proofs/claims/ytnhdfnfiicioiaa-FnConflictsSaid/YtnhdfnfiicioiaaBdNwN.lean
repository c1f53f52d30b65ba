/-
  WALKS of impl.networkOf and impl.GraphOf.
  WALK of impl.NegativeCycle.
  WALKS of impl.IsConsistent and impl.ConflictOf.
-/
import Derived.Test.YtnhdfnfiicioiaaBdNwT
import Derived.Test.YtnhdfnfiicioiaaBdSmF
import Derived.Deep.RegionHeld3
import Derived.Test.YtnhdfnfiicioiaaSmC
import Derived.Deep.AppendLies
namespace Go.Proofs.Ytnhdfnfiicioiaa
open Go.RowKit
set_option linter.unusedVariables false
set_option linter.unusedSimpArgs false

def grI (n : Int) (es : List GL) : List Int := if okS n es then gI es else []
theorem grI_yes {n : Int} {es : List GL} (h : okS n es = true) : grI n es = gI es := by unfold grI; rw [if_pos h]
theorem grI_no {n : Int} {es : List GL} (h : okS n es = false) : grI n es = [] := by unfold grI; rw [if_neg (by simp [h])]
/-- What networkOf ends in. -/
def NwEnd (n : Int) (es : List GL) (w : World) (x : Ending) (w' : World) : Prop :=
  ∃ A k c D q cd, x = .returned (nwV (grN n es) A k c D q cd) ∧ k = (grE n es).length ∧ q = (grI n es).length ∧ w'.ownsRow w.heap.size 115 3 (.slice A k c) k (cellsE (grE n es)) ∧ w'.ownsRow w.heap.size 3 1 (.slice D q cd) q ((grI n es).map intV) ∧ Below w.heap.size w w'

set_option maxRecDepth 100000 in
set_option maxHeartbeats 4000000 in
theorem networkOf_any (n : Int) (es : List GL) (A : Option Addr) (k c : Nat) (w : World) (hn : es.length = k) (hm : k ≤ 1048576) (hr : LinkAt w A es) :
    Calls Try.prog 54 #[grV n A k c] w fun e w' => NwEnd n es w e w' := by
  have HS := Lib.hid (fun W h => impl_SimpleOk n es A k c W hn hm h)
  have HR := Lib.hid hr
  have HL := Lib.hid hn
  clear hr hn
  obtain ⟨ok, hok⟩ : ∃ b, b = okS n es := ⟨_, rfl⟩
  rw [← hok] at HS
  have HO := Lib.hid hok.symm
  clear hok
  unfold grV at HS ⊢
  cases ok with
  | false =>
    go_enter Try.func54, Try.ntmps54
    go_wp2_with fail
    refine (HS.out _ (HR.out.below (by repeat (first | exact Below.refl _ _ | refine below_step (by assumption) (by first | omega | (simp; done) | (simp; omega)) ?_ | refine below_drewN ?_ _ | refine Below.drew ?_ | refine Below.setCell ?_ (by first | omega | (simp; done) | (simp; omega)) _ | refine Below.alloc ?_ (by first | omega | (simp; done) | (simp; omega)) _)))).mono ?_
    rintro e w1 ⟨rfl, b1⟩
    have c0_w1 : w1.cell? ⟨w.heap.size, 0, none⟩ = some (.int .i64 n) := (b1.cell (p := ⟨w.heap.size, 0, none⟩) (by first | omega | (simp; done) | (simp; omega))).trans (by first | assumption | go_simp)
    have c1_w1 : w1.cell? ⟨w.heap.size, 1, none⟩ = some (.slice A k c) := (b1.cell (p := ⟨w.heap.size, 1, none⟩) (by first | omega | (simp; done) | (simp; omega))).trans (by first | assumption | go_simp)
    have c2_w1 : w1.cell? ⟨w.heap.size + 1, 0, none⟩ = some (.int .i64 0) := (b1.cell (p := ⟨w.heap.size + 1, 0, none⟩) (by first | omega | (simp; done) | (simp; omega))).trans (by first | assumption | go_simp)
    have c3_w1 : w1.cell? ⟨w.heap.size + 1, 1, none⟩ = some (.slice none 0 0) := (b1.cell (p := ⟨w.heap.size + 1, 1, none⟩) (by first | omega | (simp; done) | (simp; omega))).trans (by first | assumption | go_simp)
    have c4_w1 : w1.cell? ⟨w.heap.size + 1, 2, none⟩ = some (.slice none 0 0) := (b1.cell (p := ⟨w.heap.size + 1, 2, none⟩) (by first | omega | (simp; done) | (simp; omega))).trans (by first | assumption | go_simp)
    have f0_w1 : w1.frozen? ⟨w.heap.size + 1, 0, none⟩ = false := (b1.frozen (p := ⟨w.heap.size + 1, 0, none⟩) (by first | omega | (simp; done) | (simp; omega))).trans (by first | assumption | go_simp)
    have f1_w1 : w1.frozen? ⟨w.heap.size + 1, 1, none⟩ = false := (b1.frozen (p := ⟨w.heap.size + 1, 1, none⟩) (by first | omega | (simp; done) | (simp; omega))).trans (by first | assumption | go_simp)
    have f2_w1 : w1.frozen? ⟨w.heap.size + 1, 2, none⟩ = false := (b1.frozen (p := ⟨w.heap.size + 1, 2, none⟩) (by first | omega | (simp; done) | (simp; omega))).trans (by first | assumption | go_simp)
    have s0_w1 : w.heap.size < w1.heap.size := Nat.lt_of_lt_of_le (by first | omega | (simp; done) | (simp; omega)) b1.size
    have s1_w1 : w.heap.size + 1 < w1.heap.size := Nat.lt_of_lt_of_le (by first | omega | (simp; done) | (simp; omega)) b1.size
    have B_w1 : Below w.heap.size w w1 := (by repeat (first | exact Below.refl _ _ | refine below_step (by assumption) (by first | omega | (simp; done) | (simp; omega)) ?_ | refine below_drewN ?_ _ | refine Below.drew ?_ | refine Below.setCell ?_ (by first | omega | (simp; done) | (simp; omega)) _ | refine Below.alloc ?_ (by first | omega | (simp; done) | (simp; omega)) _))
    clear b1  
    go_wp2_with fail
    refine bodyPost_ret (v := .agg #[.int .i64 0, .slice none 0 0, .slice none 0 0]) (by first | (simp [results, Try.results54, go_sem, c2_w1, c3_w1, c4_w1]; done) | simp [*, results, Try.results54, go_sem]) rfl ⟨none, 0, 0, none, 0, 0, by unfold nwV; rw [grN_no HO.out], by rw [grE_no HO.out]; rfl, by rw [grI_no HO.out]; rfl, by rw [grE_no HO.out]; exact World.ownsRow_nil _ _ _ _, by rw [grI_no HO.out]; exact World.ownsRow_nil _ _ _ _, (by repeat (first | exact Below.refl _ _ | refine below_step (by assumption) (by first | omega | (simp; done) | (simp; omega)) ?_ | refine below_drewN ?_ _ | refine Below.drew ?_ | refine Below.setCell ?_ (by first | omega | (simp; done) | (simp; omega)) _ | refine Below.alloc ?_ (by first | omega | (simp; done) | (simp; omega)) _))⟩
  | true =>
    have hk40 : k ≤ 40 := by have := okS_rng HO.out; have := HL.out; omega
    go_enter Try.func54, Try.ntmps54
    go_wp2_with fail
    refine (HS.out _ (HR.out.below (by repeat (first | exact Below.refl _ _ | refine below_step (by assumption) (by first | omega | (simp; done) | (simp; omega)) ?_ | refine below_drewN ?_ _ | refine Below.drew ?_ | refine Below.setCell ?_ (by first | omega | (simp; done) | (simp; omega)) _ | refine Below.alloc ?_ (by first | omega | (simp; done) | (simp; omega)) _)))).mono ?_
    rintro e w1 ⟨rfl, b1⟩
    have c0_w1 : w1.cell? ⟨w.heap.size, 0, none⟩ = some (.int .i64 n) := (b1.cell (p := ⟨w.heap.size, 0, none⟩) (by first | omega | (simp; done) | (simp; omega))).trans (by first | assumption | go_simp)
    have c1_w1 : w1.cell? ⟨w.heap.size, 1, none⟩ = some (.slice A k c) := (b1.cell (p := ⟨w.heap.size, 1, none⟩) (by first | omega | (simp; done) | (simp; omega))).trans (by first | assumption | go_simp)
    have c2_w1 : w1.cell? ⟨w.heap.size + 1, 0, none⟩ = some (.int .i64 0) := (b1.cell (p := ⟨w.heap.size + 1, 0, none⟩) (by first | omega | (simp; done) | (simp; omega))).trans (by first | assumption | go_simp)
    have c3_w1 : w1.cell? ⟨w.heap.size + 1, 1, none⟩ = some (.slice none 0 0) := (b1.cell (p := ⟨w.heap.size + 1, 1, none⟩) (by first | omega | (simp; done) | (simp; omega))).trans (by first | assumption | go_simp)
    have c4_w1 : w1.cell? ⟨w.heap.size + 1, 2, none⟩ = some (.slice none 0 0) := (b1.cell (p := ⟨w.heap.size + 1, 2, none⟩) (by first | omega | (simp; done) | (simp; omega))).trans (by first | assumption | go_simp)
    have f0_w1 : w1.frozen? ⟨w.heap.size + 1, 0, none⟩ = false := (b1.frozen (p := ⟨w.heap.size + 1, 0, none⟩) (by first | omega | (simp; done) | (simp; omega))).trans (by first | assumption | go_simp)
    have f1_w1 : w1.frozen? ⟨w.heap.size + 1, 1, none⟩ = false := (b1.frozen (p := ⟨w.heap.size + 1, 1, none⟩) (by first | omega | (simp; done) | (simp; omega))).trans (by first | assumption | go_simp)
    have f2_w1 : w1.frozen? ⟨w.heap.size + 1, 2, none⟩ = false := (b1.frozen (p := ⟨w.heap.size + 1, 2, none⟩) (by first | omega | (simp; done) | (simp; omega))).trans (by first | assumption | go_simp)
    have s0_w1 : w.heap.size < w1.heap.size := Nat.lt_of_lt_of_le (by first | omega | (simp; done) | (simp; omega)) b1.size
    have s1_w1 : w.heap.size + 1 < w1.heap.size := Nat.lt_of_lt_of_le (by first | omega | (simp; done) | (simp; omega)) b1.size
    have B_w1 : Below w.heap.size w w1 := (by repeat (first | exact Below.refl _ _ | refine below_step (by assumption) (by first | omega | (simp; done) | (simp; omega)) ?_ | refine below_drewN ?_ _ | refine Below.drew ?_ | refine Below.setCell ?_ (by first | omega | (simp; done) | (simp; omega)) _ | refine Below.alloc ?_ (by first | omega | (simp; done) | (simp; omega)) _))
    clear b1  
    have n1 : (w.heap.size = w1.heap.size) = False := eq_false (by omega)
    have n2 : (w1.heap.size = w.heap.size) = False := eq_false (by omega)
    have n3 : (w.heap.size + 1 = w1.heap.size) = False := eq_false (by omega)
    have n4 : (w1.heap.size = w.heap.size + 1) = False := eq_false (by omega)
    have R0 : Hid (NetR (w1.alloc (.cells #[.int .i64 n, .slice none 0 0, .slice none 0 0] 74)) (w1.heap.size) n (.slice none 0 0) (.slice none 0 0) (.slice none 0 0) (.slice none 0 0) 0 0 [] []) := Lib.hid ⟨by go_simp, by go_simp, by go_simp, by go_simp, by go_simp, World.ownsRow_nil _ _ _ _, World.ownsRow_nil _ _ _ _, fun q h => by simp [Value.ownBlock] at h, by simp⟩
    have BX0 : Hid (Below w1.heap.size w1 (w1.alloc (.cells #[.int .i64 n, .slice none 0 0, .slice none 0 0] 74))) := Lib.hid ((Below.refl _ _).alloc (Nat.le_refl _) _)
    go_wp2_with fail
    go_loopw [17] (fun ii wr => ∃ (j sa sb : Nat) (A2 : Option Addr) (c2 : Nat) (B2 : Option Addr) (d2 : Nat), j ≤ k ∧ ii = .int .i64 j ∧ sa = (gE (es.take j)).length ∧ sb = (fromJ es j).length ∧ NetR wr (w1.heap.size) n (.slice A2 sa c2) (.slice B2 sb d2) (.slice A2 sa c2) (.slice B2 sb d2) sa sb (gE (es.take j)) (fromJ es j) ∧ Below w1.heap.size w1 wr) (fun ii _ => k - (intOf ii).toNat)
    case atStart => exact ⟨0, 0, 0, none, 0, none, 0, Nat.zero_le _, rfl, rfl, rfl, R0.out, BX0.out⟩
    case round =>
      obtain ⟨j, sa, sb, A2, c2, B2, d2, hj, rfl, hsa, hsb, hnet, hbw⟩ := hrel
      have X := Lib.hid hnet
      have BW := Lib.hid (B_w1.trans (hbw.mono B_w1.size))
      have BW1 := Lib.hid hbw
      have HSA := Lib.hid hsa
      have HSB := Lib.hid hsb
      obtain ⟨k0, k1, k2, h1, h2, s0, ng0, ng1⟩ := X.out.facts
      clear hnet hbw hsa hsb
      by_cases hlt : j < k
      · have hl := HL.out
        obtain ⟨g, o, rfl, hg, hc⟩ := HR.out (by omega)
        obtain ⟨c0, c1, c2', c3⟩ := hc j (by omega)
        have hkk := (okS_link HO.out (List.getElem_mem (show j < es.length by omega))).2.2
        have hlen := gE_length es j (by omega)
        have hnE := gE_next (es := es) (j := j) (List.getElem?_eq_getElem (by omega))
        have hnF := fromJ_next (es := es) (j := j) (List.getElem?_eq_getElem (by omega))
        have hs80 : sa ≤ 80 ∧ sb ≤ 80 := by have := HSA.out; have := HSB.out; omega
        obtain ⟨e, he⟩ : ∃ e, e = es[j]'(by omega) := ⟨_, rfl⟩
        rw [← he] at c0 c1 c2' c3 hkk hnE hnF
        have q0 := (BW.out.cell (p := ⟨g, o + j * 4, none⟩) hg).trans c0
        have q1 := (BW.out.cell (p := ⟨g, o + j * 4 + 1, none⟩) hg).trans c1
        have q2 := (BW.out.cell (p := ⟨g, o + j * 4 + 2, none⟩) hg).trans c2'
        have q3 := (BW.out.cell (p := ⟨g, o + j * 4 + 3, none⟩) hg).trans c3
        obtain ⟨u, v, lo, hi⟩ := e
        dsimp only at q0 q1 q2 q3 hkk
        have HA := Lib.hid (fun W h => addLink_any (w1.heap.size) n A2 sa c2 B2 sb d2 (gE (es.take j)) (fromJ es j) (j : Int) u v lo hi W hkk (by omega) (by omega) h)
        have X2 := Lib.hid (X.out.alloc (.cells #[.int .i64 u, .int .i64 v, .int .i64 lo, .int .i64 hi] 42))
        have HNE := Lib.hid hnE
        have HNF := Lib.hid hnF
        clear hc c0 c1 c2' c3 he hl hkk hlen hnE hnF
        go_wp2_with fail
        refine (HA.out _ X2.out).mono ?_
        rintro e w3 ⟨rfl, A3, c3, B3, d3, x3, s3⟩
        have X3 := Lib.hid x3
        have BW3 := Lib.hid (BW1.out.trans (((Below.refl _ _).alloc (Nat.le_refl _) _ |>.mono BW1.out.size).trans ((s3.base X2.out).mono (Nat.le_refl _))))
        clear x3 s3
        go_wp2_with fail
        go_roundw
        case rel => exact ⟨j + 1, _, _, A3, c3, B3, d3, by omega, by go_num, by rw [HNE.out, List.length_append, ← HSA.out], by rw [HNF.out, List.length_append, ← HSB.out], by rw [HNE.out, HNF.out]; exact X3.out, BW3.out⟩
        case measure => simp [intOf]; omega
      · have hjk : j = k := by omega
        subst hjk
        have e0 := (BW1.out.cell (p := ⟨w.heap.size + 1, 0, none⟩) s1_w1).trans c2_w1
        have e1 := (BW1.out.cell (p := ⟨w.heap.size + 1, 1, none⟩) s1_w1).trans c3_w1
        have e2 := (BW1.out.cell (p := ⟨w.heap.size + 1, 2, none⟩) s1_w1).trans c4_w1
        have f0 := (BW1.out.frozen (p := ⟨w.heap.size + 1, 0, none⟩) s1_w1).trans f0_w1
        have f1 := (BW1.out.frozen (p := ⟨w.heap.size + 1, 1, none⟩) s1_w1).trans f1_w1
        have f2 := (BW1.out.frozen (p := ⟨w.heap.size + 1, 2, none⟩) s1_w1).trans f2_w1
        have LO : Hid (w.heap.size + 1 < w1.heap.size) := Lib.hid (by omega)
        have m1 : (w.heap.size + 1 = w1.heap.size) = False := eq_false (by have := LO.out; omega)
        have m2 : (w1.heap.size = w.heap.size + 1) = False := eq_false (by have := LO.out; omega)
        go_wp2_with fail
        refine bodyPost_ret (v := .agg #[.int .i64 n, .slice A2 sa c2, .slice B2 sb d2]) (by first | (simp [results, Try.results54, go_sem, e0, e1, e2, f0, f1, f2]; done) | simp [*, results, Try.results54, go_sem]) rfl ?_
        have hl := HL.out
        have hsa := HSA.out
        have hsb := HSB.out
        have X4 := X.out
        have hfg : fromJ es j = gI es := by unfold gI; rw [hl]
        rw [List.take_of_length_le (by omega)] at hsa X4
        rw [hfg] at hsb X4
        refine ⟨A2, sa, c2, B2, sb, d2, by unfold nwV; rw [grN_yes HO.out], by rw [grE_yes HO.out]; exact hsa, by rw [grI_yes HO.out]; exact hsb, ?_, ?_, ?_⟩
        · rw [grE_yes HO.out]
          refine own_base ?_ (show w.heap.size ≤ w1.heap.size + 1 by have := LO.out; omega)
          repeat (refine own_set ?_ _ _ (by have := LO.out; dsimp only; omega))
          exact X4.rowE
        · rw [grI_yes HO.out]
          refine own_base ?_ (show w.heap.size ≤ w1.heap.size + 1 by have := LO.out; omega)
          repeat (refine own_set ?_ _ _ (by have := LO.out; dsimp only; omega))
          exact X4.rowT
        · repeat (refine Below.setCell ?_ (by first | omega | (simp; done) | (simp; omega)) _)
          exact BW.out

set_option maxRecDepth 100000 in
set_option maxHeartbeats 4000000 in
theorem impl_GraphOf (n : Int) (es : List GL) (A : Option Addr) (k c : Nat) (w : World) (hn : es.length = k) (hm : k ≤ 1048576) (hr : LinkAt w A es) :
    Calls Try.prog 32 #[grV n A k c] w fun e w' => GrEnd n es w e w' := by
  have HS := Lib.hid (fun W h => networkOf_any n es A k c W hn hm h)
  have HR := Lib.hid hr
  clear hr hn
  obtain ⟨t0, ht0⟩ : ∃ t, t = grN n es := ⟨_, rfl⟩
  have HT0 := Lib.hid ht0
  unfold NwEnd nwV at HS
  rw [← ht0] at HS
  unfold grV at HS ⊢
  clear ht0
  have hfd : ∀ (A1 : Option Addr) (m c1 : Nat) (D1 : Option Addr) (q d1 : Nat) (W : World), (Instr.field 74 (.agg #[.int .i64 t0, .slice A1 m c1, .slice D1 q d1]) 0).run Try.prog W = .ok (.agg #[.int .i64 t0, .slice A1 m c1]) W := fun _ _ _ _ _ _ _ => by kernel_rfl
  go_enter Try.func32, Try.ntmps32
  have hz : w.heap.size + 1 < ((w.alloc (.cells #[.int .i64 n, .slice A k c] 25)).alloc (.cells #[.int .i64 0, .slice none 0 0] 54)).heap.size := by simp
  go_wp2_with fail
  refine (HS.out _ (HR.out.below (by repeat (first | exact Below.refl _ _ | refine below_step (by assumption) (by first | omega | (simp; done) | (simp; omega)) ?_ | refine below_drewN ?_ _ | refine Below.drew ?_ | refine Below.setCell ?_ (by first | omega | (simp; done) | (simp; omega)) _ | refine Below.alloc ?_ (by first | omega | (simp; done) | (simp; omega)) _)))).mono ?_
  rintro e w1 ⟨A1, m, c1, D1, q, d1, rfl, hm1, hq1, hE, hT, b1⟩
  have c0_w1 : w1.cell? ⟨w.heap.size, 0, none⟩ = some (.int .i64 n) := (b1.cell (p := ⟨w.heap.size, 0, none⟩) (by first | omega | (simp; done) | (simp; omega))).trans (by first | assumption | go_simp)
  have c1_w1 : w1.cell? ⟨w.heap.size, 1, none⟩ = some (.slice A k c) := (b1.cell (p := ⟨w.heap.size, 1, none⟩) (by first | omega | (simp; done) | (simp; omega))).trans (by first | assumption | go_simp)
  have c2_w1 : w1.cell? ⟨w.heap.size + 1, 0, none⟩ = some (.int .i64 0) := (b1.cell (p := ⟨w.heap.size + 1, 0, none⟩) (by first | omega | (simp; done) | (simp; omega))).trans (by first | assumption | go_simp)
  have c3_w1 : w1.cell? ⟨w.heap.size + 1, 1, none⟩ = some (.slice none 0 0) := (b1.cell (p := ⟨w.heap.size + 1, 1, none⟩) (by first | omega | (simp; done) | (simp; omega))).trans (by first | assumption | go_simp)
  have f0_w1 : w1.frozen? ⟨w.heap.size + 1, 0, none⟩ = false := (b1.frozen (p := ⟨w.heap.size + 1, 0, none⟩) (by first | omega | (simp; done) | (simp; omega))).trans (by first | assumption | go_simp)
  have f1_w1 : w1.frozen? ⟨w.heap.size + 1, 1, none⟩ = false := (b1.frozen (p := ⟨w.heap.size + 1, 1, none⟩) (by first | omega | (simp; done) | (simp; omega))).trans (by first | assumption | go_simp)
  have s0_w1 : w.heap.size < w1.heap.size := Nat.lt_of_lt_of_le (by first | omega | (simp; done) | (simp; omega)) b1.size
  have s1_w1 : w.heap.size + 1 < w1.heap.size := Nat.lt_of_lt_of_le (by first | omega | (simp; done) | (simp; omega)) b1.size
  have B_w1 : Below w.heap.size w w1 := (by repeat (first | exact Below.refl _ _ | refine below_step (by assumption) (by first | omega | (simp; done) | (simp; omega)) ?_ | refine below_drewN ?_ _ | refine Below.drew ?_ | refine Below.setCell ?_ (by first | omega | (simp; done) | (simp; omega)) _ | refine Below.alloc ?_ (by first | omega | (simp; done) | (simp; omega)) _))
  clear b1  
  have HE := Lib.hid hE
  have HM := Lib.hid hm1
  clear hE hT hm1 hq1
  have HZ := Lib.hid hz
  clear hz
  go_wp2_with fail
  refine bodyPost_ret (v := .agg #[.int .i64 t0, .slice A1 m c1]) (by first | (simp [results, Try.results32, go_sem, c2_w1, c3_w1]; done) | simp [*, results, Try.results32, go_sem]) rfl ?_
  refine ⟨A1, m, c1, by unfold grV; rw [HT0.out], HM.out, ?_, by refine Below.setCell (Below.setCell ?_ (by first | omega | (simp; done) | (simp; omega)) _) (by first | omega | (simp; done) | (simp; omega)) _; exact B_w1⟩
  exact own_base (own_set (own_set HE.out _ _ HZ.out) _ _ HZ.out) (by have := HZ.out; omega)

end Go.Proofs.Ytnhdfnfiicioiaa

namespace Go.Proofs.Ytnhdfnfiicioiaa
open Go.RowKit
set_option linter.unusedVariables false
set_option linter.unusedSimpArgs false

theorem same_end {N : Nat} {es : List GE} (hok : okG N es = true) : (roundsE es (s0C N 0) N).2 = (endC N es).2 := by
  obtain ⟨t, _, h1, _⟩ := Way.rounds (s := s0C N (-1)) (s' := s0C N 0) (okG_nodes hok) (fun v hv => decide_eq_true hv) rfl rfl N
  exact h1

set_option maxRecDepth 100000 in
set_option maxHeartbeats 8000000 in
theorem impl_NegativeCycle (n : Int) (es : List GE) (A : Option Addr) (k c : Nat) (w : World) (hn : es.length = k) (hk : k ≤ 1048576) (hr : EdgeAt w A es) :
    Calls Try.prog 56 #[grV n A k c] w fun e w' =>
      ∃ B m cb, e = .returned (.slice B m cb) ∧ m = (cycR n es).length ∧ w'.ownsRow w.heap.size 3 1 (.slice B m cb) m ((cycR n es).map intV) ∧ Below w.heap.size w w' := by
  have hz : ∀ W, (zeroValue 111).run Try.prog W = .ok (.agg #[.bool false, .bool false, .bool false, .bool false, .bool false, .bool false, .bool false, .bool false, .int .i64 0, .int .i64 0, .int .i64 0, .int .i64 0, .int .i64 0, .int .i64 0, .int .i64 0, .int .i64 0, .int .i64 0, .int .i64 0, .int .i64 0, .int .i64 0, .int .i64 0, .int .i64 0, .int .i64 0, .int .i64 0]) W := fun _ => by kernel_rfl
  have hg := fun W h => impl_GraphOk n es A k c W hn hk h
  have HR := Lib.hid hr
  have HL := Lib.hid hn
  clear hr hn
  obtain ⟨ok, hok⟩ : ∃ b, b = okG n es := ⟨_, rfl⟩
  rw [← hok] at hg
  have HG := Lib.hid hg
  have HO := Lib.hid hok
  clear hok hg
  cases ok with
  | false =>
    unfold grV at HG ⊢
    go_enter Try.func56, Try.ntmps56
    go_wp2_with fail
    refine (HG.out _ (HR.out.below (by repeat (first | exact Below.refl _ _ | refine below_step (by assumption) (by first | omega | (simp; done) | (simp; omega)) ?_ | refine below_drewN ?_ _ | refine Below.drew ?_ | refine Below.setCell ?_ (by first | omega | (simp; done) | (simp; omega)) _ | refine Below.alloc ?_ (by first | omega | (simp; done) | (simp; omega)) _)))).mono ?_
    rintro e w1 ⟨rfl, b1⟩
    go_wp2_with fail
    go_ret
    have h := cycR_no (n := n) (es := es) HO.out.symm
    exact ⟨none, 0, 0, rfl, by rw [h]; rfl, by rw [h]; exact ⟨rfl, .inl ⟨rfl, rfl⟩⟩, (by repeat (first | exact Below.refl _ _ | refine below_step (by assumption) (by first | omega | (simp; done) | (simp; omega)) ?_ | refine below_drewN ?_ _ | refine Below.drew ?_ | refine Below.setCell ?_ (by first | omega | (simp; done) | (simp; omega)) _ | refine Below.alloc ?_ (by first | omega | (simp; done) | (simp; omega)) _))⟩
  | true =>
    have hrng := okG_rng HO.out.symm
    obtain ⟨N, rfl⟩ : ∃ N : Nat, n = N := ⟨n.toNat, by omega⟩
    have hN8 : N ≤ 8 := by omega
    have hk80 : k ≤ 80 := by have := HL.out; omega
    clear hrng
    unfold grV at HG ⊢
    go_enter Try.func56, Try.ntmps56
    go_wp2_with fail
    refine (HG.out _ (HR.out.below (by repeat (first | exact Below.refl _ _ | refine below_step (by assumption) (by first | omega | (simp; done) | (simp; omega)) ?_ | refine below_drewN ?_ _ | refine Below.drew ?_ | refine Below.setCell ?_ (by first | omega | (simp; done) | (simp; omega)) _ | refine Below.alloc ?_ (by first | omega | (simp; done) | (simp; omega)) _)))).mono ?_
    rintro e w2 ⟨rfl, b2⟩
    have ka2 : w2.cell? ⟨w.heap.size, 0, none⟩ = some (.int .i64 (N : Int)) := (b2.cell (p := ⟨w.heap.size, 0, none⟩) (by first | omega | (simp; done) | (simp; omega))).trans (by first | assumption | go_simp)
    have kb2 : w2.cell? ⟨w.heap.size, 1, none⟩ = some (.slice A k c) := (b2.cell (p := ⟨w.heap.size, 1, none⟩) (by first | omega | (simp; done) | (simp; omega))).trans (by first | assumption | go_simp)
    have sz2 : w.heap.size < w2.heap.size := Nat.lt_of_lt_of_le (by first | omega | (simp; done) | (simp; omega)) b2.size
    have B2 : Below w.heap.size w w2 := (by repeat (first | exact Below.refl _ _ | refine below_step (by assumption) (by first | omega | (simp; done) | (simp; omega)) ?_ | refine below_drewN ?_ _ | refine Below.drew ?_ | refine Below.setCell ?_ (by first | omega | (simp; done) | (simp; omega)) _ | refine Below.alloc ?_ (by first | omega | (simp; done) | (simp; omega)) _))
    clear b2
    go_upto_region 4 with (fail)
    have hM3 := mk_zero w2
    unfold zeroM at hM3
    obtain ⟨w3, hw3⟩ : ∃ w3, w3 = w2.alloc (.cells #[.bool false, .bool false, .bool false, .bool false, .bool false, .bool false, .bool false, .bool false, .int .i64 0, .int .i64 0, .int .i64 0, .int .i64 0, .int .i64 0, .int .i64 0, .int .i64 0, .int .i64 0, .int .i64 0, .int .i64 0, .int .i64 0, .int .i64 0, .int .i64 0, .int .i64 0, .int .i64 0, .int .i64 0] 111) := ⟨_, rfl⟩
    rw [← hw3] at hM3 ⊢
    have b3 : Below w2.heap.size w2 w3 := by rw [hw3]; exact (Below.refl _ _).alloc (Nat.le_refl _) _
    clear hw3
    obtain ⟨b, hb⟩ : ∃ b, b = w2.heap.size := ⟨_, rfl⟩
    have ka3 := (b3.cell (p := ⟨w.heap.size, 0, none⟩) (by dsimp only; omega)).trans ka2
    have kb3 := (b3.cell (p := ⟨w.heap.size, 1, none⟩) (by dsimp only; omega)).trans kb2
    have B3 : Below w.heap.size w w3 := B2.trans (b3.mono (by omega))
    rw [← hb] at hM3 sz2 ⊢
    clear hb b3 B2 ka2 kb2
    have hK0 : RowF w3 b 0 8 (mixV (.bool true) (.bool false) 0) := by rw [mixV_zero]; exact hM3.kn.congr (fun j hj => rfl)
    have hD0 : RowF w3 b 8 8 (fun _ => .int .i64 0) := hM3.nu.congr (fun j hj => rfl)
    have hL0 : RowF w3 b 16 8 (fun _ => .int .i64 0) := hM3.la.congr (fun j hj => rfl)
    have HK0 := Lib.hid hK0
    have HD0 := Lib.hid hD0
    have HL0 := Lib.hid hL0
    clear hM3 hK0 hD0 hL0
    go_wp2_with fail
    go_loopw [11] (fun i wr => ∃ q : Nat, q ≤ N ∧ i = .int .i64 q ∧ RowF wr b 0 8 (mixV (.bool true) (.bool false) q) ∧ RowF wr b 8 8 (fun _ => .int .i64 0) ∧ RowF wr b 16 8 (fun _ => .int .i64 0) ∧ Below b w3 wr) (fun i _ => N - (intOf i).toNat)
    case atStart => exact ⟨0, Nat.zero_le _, rfl, HK0.out, HD0.out, HL0.out, Below.refl _ _⟩
    case round =>
      obtain ⟨q, hq, rfl, hK, hD, hLr, hbw⟩ := hrel
      by_cases hlt : q < N
      · have f1 : wr.cell? ⟨b, q, none⟩ = some (.bool false) := by simpa [mixV] using hK.cell q (by omega)
        have r1 : wr.frozen? ⟨b, q, none⟩ = false := by simpa using hK.free q (by omega)
        have hqi : (q : Int) < 8 := by omega
        have HD := Lib.hid hD
        have HLr := Lib.hid hLr
        have HK := Lib.hid hK
        clear hD hLr hK
        go_wp2_with fail
        go_roundw
        case rel => exact ⟨q + 1, by omega, by go_num, by rw [← mixV_set]; exact HK.out.store (by omega) (by omega) _, HD.out.beside (by omega) _, HLr.out.beside (by omega) _, hbw.setCell (Nat.le_refl _) _⟩
        case measure => simp [intOf]; omega
      · have : q = N := by omega
        subst this
        obtain ⟨w5, rfl⟩ : ∃ w5 : World, w5 = wr := ⟨_, rfl⟩
        have hM5 : MkAt w5 b (s0C q 0) := ⟨hK.congr (fun j hj => by unfold mixV fB s0C; dsimp only; by_cases h : j < q <;> simp [h]), hD.congr (fun j hj => rfl), hLr.congr (fun j hj => rfl)⟩
        have ka5 := (hbw.cell (p := ⟨w.heap.size, 0, none⟩) sz2).trans ka3
        have kb5 := (hbw.cell (p := ⟨w.heap.size, 1, none⟩) sz2).trans kb3
        have hB5 : Below w.heap.size w w5 := B3.trans (hbw.mono (by omega))
        have hse := settle_any b q es A k c (s0C q 0) w w5 HL.out HO.out.symm HR.out hB5 (by omega) hM5
        rw [same_end HO.out.symm] at hse
        obtain ⟨ch, hch⟩ : ∃ ch, ch = (endC q es).2 := ⟨_, rfl⟩
        obtain ⟨sN, hsN⟩ : ∃ s, s = (roundsE es (s0C q 0) q).1 := ⟨_, rfl⟩
        rw [← hch, ← hsN] at hse
        unfold grV at hse
        have HSE := Lib.hid hse
        have HCH := Lib.hid hch
        have HSN := Lib.hid hsN
        clear hse hch hsN hK hD hLr hM5 hbw hlt
        by_cases h1 : ch = -1
        · have hbc : (ch == -1) = true := by simp [h1]
          have H1 := Lib.hid h1
          clear h1
          go_wp2_with fail
          refine HSE.out.mono ?_
          rintro e w6 ⟨rfl, hM6, hb6⟩
          have B6 : Below w.heap.size w w6 := hB5.trans (hb6.mono (by omega))
          clear hM6 hb6
          go_wp2_with fail
          go_ret
          have h := cycR_nil (N := q) (es := es) (by rw [← HCH.out]; exact H1.out)
          exact ⟨none, 0, 0, rfl, by rw [h]; rfl, by rw [h]; exact ⟨rfl, .inl ⟨rfl, rfl⟩⟩, B6⟩
        · have hbc : (ch == -1) = false := by simp [h1]
          have hcf := cyc_facts HO.out.symm (by rw [← HCH.out]; exact h1)
          have hyes := cycR_yes HO.out.symm (by rw [← HCH.out]; exact h1)
          rw [← HCH.out] at hcf
          obtain ⟨jc, ec, hjc, _, hec, hhead, hpath, hp0, _, hper, hmin, hp8⟩ := hcf
          subst hjc
          rw [← HSN.out] at hpath
          have hla : ∀ i, sN.la (itE es (endC q es).1.la (headC q es) i) = (endC q es).1.la (itE es (endC q es).1.la (headC q es) i) := by
            intro i
            obtain ⟨_, j, e, a1, a2, _⟩ := hpath i
            rw [a1, a2]
          have hbs := back_same (es := es) hla q (perC q es)
          have hits := itE_same (es := es) hla
          have hp' : ∀ i, itE es sN.la (headC q es) i < q ∧ ∃ (j : Nat) (e : GE), sN.la (itE es sN.la (headC q es) i) = (j : Int) ∧ es[j]? = some e := by
            intro i
            rw [hits i]
            obtain ⟨a0, j, e, _, a2, a3⟩ := hpath i
            exact ⟨a0, j, e, a2, a3⟩
          have hper' : itE es sN.la (itE es sN.la (headC q es) q) (perC q es) = itE es sN.la (headC q es) q := by
            rw [hbs.2.1, hbs.1]; exact hper
          have hmin' : ∀ i, 0 < i → i < perC q es → itE es sN.la (itE es sN.la (headC q es) q) i ≠ itE es sN.la (headC q es) q := by
            intro i h1 h2
            rw [hbs.2.1, hbs.1]; exact hmin i h1 h2
          have hcb := fun W hE hM => cycleBehind_any b q es A k c sN (headC q es) (perC q es) W HL.out HO.out.symm hE hM hp' hp0 hp8 hper' hmin'
          rw [hbs.2.2] at hcb
          have hres : (backE es (endC q es).1.la (itE es (endC q es).1.la (headC q es) q) (perC q es)).reverse = cycR (q : Int) es := by rw [hyes]; rfl
          rw [hres] at hcb
          have hplen : perC q es = (cycR (q : Int) es).length := by rw [← hres, List.length_reverse, backE_length]
          obtain ⟨u0, v0, heq0, hu0, hv0⟩ := okG_edgeN HO.out.symm hec
          have hv0v : headC q es = v0 := by rw [hhead, heq0]; simp
          rw [hv0v] at hcb
          obtain ⟨pp, hpp⟩ : ∃ pp, pp = perC q es := ⟨_, rfl⟩
          rw [← hpp] at hcb hplen
          have hjk : jc < k := by have := (List.getElem?_eq_some_iff.1 hec).1; have := HL.out; omega
          obtain ⟨g, o, rfl, hg, hc⟩ := HR.out (by have := HL.out; omega)
          have f12 : w.cell? ⟨g, o + jc * 3 + 1, none⟩ = some (.int .i64 (v0 : Int)) := by
            refine (hc jc (by have := HL.out; omega)).2.1.trans ?_
            have : es[jc]'(by have := HL.out; omega) = ec := by rw [List.getElem?_eq_getElem (by have := HL.out; omega)] at hec; exact Option.some.inj hec
            rw [this, heq0]
          unfold grV at hcb
          have HCB := Lib.hid hcb
          have HPL := Lib.hid hplen
          have hji : (jc : Int) < (k : Int) := by omega
          clear h1 hyes hec hhead hpath hp0 hper hmin hp8 hla hbs hits hp' hper' hmin' hcb hres hplen heq0 hv0v hpp hc
          go_wp2_with fail
          refine HSE.out.mono ?_
          rintro e w6 ⟨rfl, hM6, hb6⟩
          have B6 : Below w.heap.size w w6 := hB5.trans (hb6.mono (by omega))
          have ka6 := (hb6.cell (p := ⟨w.heap.size, 0, none⟩) sz2).trans ka5
          have kb6 := (hb6.cell (p := ⟨w.heap.size, 1, none⟩) sz2).trans kb5
          have f6 : w6.cell? ⟨g, o + jc * 3 + 1, none⟩ = some (.int .i64 (v0 : Int)) := (B6.cell (p := ⟨g, o + jc * 3 + 1, none⟩) hg).trans f12
          have E6 := HR.out.below B6
          have hws : w.heap.size < w6.heap.size := by have := hM6.kn.lt; omega
          have hgs : g < w6.heap.size := by omega
          have HM6 := Lib.hid hM6
          have HE6 := Lib.hid E6
          clear hb6 hM6 E6 ka5 kb5 f12 ka3 kb3
          go_wp2_with fail
          go_region_held3 (fun W => W.cell? ⟨w.heap.size, 0, none⟩ = some (.int .i64 (q : Int)) ∧ W.cell? ⟨w.heap.size, 1, none⟩ = some (.slice (some ⟨g, o, none⟩) k c) ∧ W.cell? ⟨g, o + jc * 3 + 1, none⟩ = some (.int .i64 (v0 : Int))) (first | go_keep | (dsimp only; refine ⟨?_, ?_, ?_⟩ <;> first | assumption | go_keep | go_simp)) (first | (go_at_call 92; refine (HCB.out _ (by exact HE6.out.of_heap rfl) (by exact HM6.out.of_heap (Nat.le_refl _) rfl)).mono ?_; rintro e w7 ⟨D7, c7, rfl, ho7, b7⟩; have ka7 : w7.cell? ⟨w.heap.size, 0, none⟩ = some (.int .i64 (q : Int)) := (b7.cell (p := ⟨w.heap.size, 0, none⟩) (by first | omega | (simp; done) | (simp; omega))).trans (by first | assumption | go_simp); have kb7 : w7.cell? ⟨w.heap.size, 1, none⟩ = some (.slice (some ⟨g, o, none⟩) k c) := (b7.cell (p := ⟨w.heap.size, 1, none⟩) (by first | omega | (simp; done) | (simp; omega))).trans (by first | assumption | go_simp); have f7 : w7.cell? ⟨g, o + jc * 3 + 1, none⟩ = some (.int .i64 (v0 : Int)) := (b7.cell (p := ⟨g, o + jc * 3 + 1, none⟩) (by first | omega | (simp; done) | (simp; omega))).trans (by first | assumption | go_simp)))
          all_goals
            go_wp2_with fail
            go_ret
            refine ⟨D7, pp, c7, rfl, HPL.out, own_base ho7 (by simp; omega), B6.trans ?_⟩
            exact (Below.refl _ _).drew.trans (b7.mono (by simp; omega))

end Go.Proofs.Ytnhdfnfiicioiaa

namespace Go.Proofs.Ytnhdfnfiicioiaa
open Go.RowKit
set_option linter.unusedVariables false
set_option linter.unusedSimpArgs false

set_option maxRecDepth 100000 in
set_option maxHeartbeats 4000000 in
theorem impl_IsConsistent (n : Int) (es : List GL) (A : Option Addr) (k c : Nat) (w : World) (hn : es.length = k) (hm : k ≤ 1048576) (hr : LinkAt w A es) :
    Calls Try.prog 16 #[grV n A k c] w fun e w' => e = .returned (.bool (consR n es)) ∧ Below w.heap.size w w' := by
  have HS := Lib.hid (fun W h => networkOf_any n es A k c W hn hm h)
  have HR := Lib.hid hr
  clear hr hn
  obtain ⟨ok, hok⟩ : ∃ b, b = okS n es := ⟨_, rfl⟩
  have HO := Lib.hid hok.symm
  clear hok
  unfold NwEnd nwV at HS
  cases ok with
  | false =>
    rw [grN_no HO.out] at HS
    have hh := fun A k c W => hasNode_any 0 A k c 0 W
    rw [show decide ((0 : Int) ≤ 0 ∧ (0 : Int) < 0) = false from by decide] at hh
    unfold grV at HS hh ⊢
    have HH := Lib.hid hh
    clear hh
    go_enter Try.func16, Try.ntmps16
    go_wp2_with fail
    refine (HS.out _ (HR.out.below (by repeat (first | exact Below.refl _ _ | refine below_step (by assumption) (by first | omega | (simp; done) | (simp; omega)) ?_ | refine below_drewN ?_ _ | refine Below.drew ?_ | refine Below.setCell ?_ (by first | omega | (simp; done) | (simp; omega)) _ | refine Below.alloc ?_ (by first | omega | (simp; done) | (simp; omega)) _)))).mono ?_
    rintro e w1 ⟨A1, m, c1, D1, q, d1, rfl, _, _, _, _, b1⟩
    have c0_w1 : w1.cell? ⟨w.heap.size, 0, none⟩ = some (.int .i64 n) := (b1.cell (p := ⟨w.heap.size, 0, none⟩) (by first | omega | (simp; done) | (simp; omega))).trans (by first | assumption | go_simp)
    have c1_w1 : w1.cell? ⟨w.heap.size, 1, none⟩ = some (.slice A k c) := (b1.cell (p := ⟨w.heap.size, 1, none⟩) (by first | omega | (simp; done) | (simp; omega))).trans (by first | assumption | go_simp)
    have s0_w1 : w.heap.size < w1.heap.size := Nat.lt_of_lt_of_le (by first | omega | (simp; done) | (simp; omega)) b1.size
    have B_w1 : Below w.heap.size w w1 := (by repeat (first | exact Below.refl _ _ | refine below_step (by assumption) (by first | omega | (simp; done) | (simp; omega)) ?_ | refine below_drewN ?_ _ | refine Below.drew ?_ | refine Below.setCell ?_ (by first | omega | (simp; done) | (simp; omega)) _ | refine Below.alloc ?_ (by first | omega | (simp; done) | (simp; omega)) _))
    clear b1  
    go_wp2_with fail
    refine (HH.out _ _ _ _).mono ?_
    rintro e w2 ⟨rfl, b2⟩
    have c0_w2 : w2.cell? ⟨w.heap.size, 0, none⟩ = some (.int .i64 n) := (b2.cell (p := ⟨w.heap.size, 0, none⟩) (by first | omega | (simp; done) | (simp; omega))).trans (by first | assumption | go_simp)
    have c1_w2 : w2.cell? ⟨w.heap.size, 1, none⟩ = some (.slice A k c) := (b2.cell (p := ⟨w.heap.size, 1, none⟩) (by first | omega | (simp; done) | (simp; omega))).trans (by first | assumption | go_simp)
    have c2_w2 : w2.cell? ⟨w1.heap.size, 0, none⟩ = some (.int .i64 0) := (b2.cell (p := ⟨w1.heap.size, 0, none⟩) (by first | omega | (simp; done) | (simp; omega))).trans (by first | assumption | go_simp)
    have c3_w2 : w2.cell? ⟨w1.heap.size, 1, none⟩ = some (.slice A1 m c1) := (b2.cell (p := ⟨w1.heap.size, 1, none⟩) (by first | omega | (simp; done) | (simp; omega))).trans (by first | assumption | go_simp)
    have c4_w2 : w2.cell? ⟨w1.heap.size, 2, none⟩ = some (.slice D1 q d1) := (b2.cell (p := ⟨w1.heap.size, 2, none⟩) (by first | omega | (simp; done) | (simp; omega))).trans (by first | assumption | go_simp)
    have s0_w2 : w.heap.size < w2.heap.size := Nat.lt_of_lt_of_le (by first | omega | (simp; done) | (simp; omega)) b2.size
    have s1_w2 : w1.heap.size < w2.heap.size := Nat.lt_of_lt_of_le (by first | omega | (simp; done) | (simp; omega)) b2.size
    have B_w2 : Below w.heap.size w w2 := (by repeat (first | exact Below.refl _ _ | refine below_step (by assumption) (by first | omega | (simp; done) | (simp; omega)) ?_ | refine below_drewN ?_ _ | refine Below.drew ?_ | refine Below.setCell ?_ (by first | omega | (simp; done) | (simp; omega)) _ | refine Below.alloc ?_ (by first | omega | (simp; done) | (simp; omega)) _))
    clear b2 c0_w1 c1_w1 s0_w1 B_w1
    go_wp2_with fail
    go_ret
    exact ⟨ret_b (by unfold consR; rw [HO.out]; rfl), B_w2⟩
  | true =>
    have h1n := (okS_rng HO.out).1
    rw [grN_yes HO.out, grE_yes HO.out] at HS
    have hh := fun A k c W => hasNode_any n A k c 0 W
    rw [show decide ((0 : Int) ≤ 0 ∧ (0 : Int) < n) = true from decide_eq_true ⟨by omega, by omega⟩] at hh
    have HC := Lib.hid (fun A' k' c' W hl hr => impl_NegativeCycle n (gE es) A' k' c' W hl (by have := (gE_len80 HO.out).1; omega) hr)
    unfold grV at HS hh HC ⊢
    have HH := Lib.hid hh
    clear hh h1n
    go_enter Try.func16, Try.ntmps16
    go_wp2_with fail
    refine (HS.out _ (HR.out.below (by repeat (first | exact Below.refl _ _ | refine below_step (by assumption) (by first | omega | (simp; done) | (simp; omega)) ?_ | refine below_drewN ?_ _ | refine Below.drew ?_ | refine Below.setCell ?_ (by first | omega | (simp; done) | (simp; omega)) _ | refine Below.alloc ?_ (by first | omega | (simp; done) | (simp; omega)) _)))).mono ?_
    rintro e w1 ⟨A1, m, c1, D1, q, d1, rfl, hm1, _, hE, _, b1⟩
    have HE := Lib.hid (own_edgeS hE)
    have HM1 := Lib.hid hm1
    clear hE hm1
    have c0_w1 : w1.cell? ⟨w.heap.size, 0, none⟩ = some (.int .i64 n) := (b1.cell (p := ⟨w.heap.size, 0, none⟩) (by first | omega | (simp; done) | (simp; omega))).trans (by first | assumption | go_simp)
    have c1_w1 : w1.cell? ⟨w.heap.size, 1, none⟩ = some (.slice A k c) := (b1.cell (p := ⟨w.heap.size, 1, none⟩) (by first | omega | (simp; done) | (simp; omega))).trans (by first | assumption | go_simp)
    have s0_w1 : w.heap.size < w1.heap.size := Nat.lt_of_lt_of_le (by first | omega | (simp; done) | (simp; omega)) b1.size
    have B_w1 : Below w.heap.size w w1 := (by repeat (first | exact Below.refl _ _ | refine below_step (by assumption) (by first | omega | (simp; done) | (simp; omega)) ?_ | refine below_drewN ?_ _ | refine Below.drew ?_ | refine Below.setCell ?_ (by first | omega | (simp; done) | (simp; omega)) _ | refine Below.alloc ?_ (by first | omega | (simp; done) | (simp; omega)) _))
    clear b1  
    go_wp2_with fail
    refine (HH.out _ _ _ _).mono ?_
    rintro e w2 ⟨rfl, b2⟩
    have HE2 := Lib.hid (HE.out.below (((Below.refl _ w1).alloc (Nat.le_refl _) _).trans (b2.mono (by simp))))
    have c0_w2 : w2.cell? ⟨w.heap.size, 0, none⟩ = some (.int .i64 n) := (b2.cell (p := ⟨w.heap.size, 0, none⟩) (by first | omega | (simp; done) | (simp; omega))).trans (by first | assumption | go_simp)
    have c1_w2 : w2.cell? ⟨w.heap.size, 1, none⟩ = some (.slice A k c) := (b2.cell (p := ⟨w.heap.size, 1, none⟩) (by first | omega | (simp; done) | (simp; omega))).trans (by first | assumption | go_simp)
    have c2_w2 : w2.cell? ⟨w1.heap.size, 0, none⟩ = some (.int .i64 n) := (b2.cell (p := ⟨w1.heap.size, 0, none⟩) (by first | omega | (simp; done) | (simp; omega))).trans (by first | assumption | go_simp)
    have c3_w2 : w2.cell? ⟨w1.heap.size, 1, none⟩ = some (.slice A1 m c1) := (b2.cell (p := ⟨w1.heap.size, 1, none⟩) (by first | omega | (simp; done) | (simp; omega))).trans (by first | assumption | go_simp)
    have c4_w2 : w2.cell? ⟨w1.heap.size, 2, none⟩ = some (.slice D1 q d1) := (b2.cell (p := ⟨w1.heap.size, 2, none⟩) (by first | omega | (simp; done) | (simp; omega))).trans (by first | assumption | go_simp)
    have s0_w2 : w.heap.size < w2.heap.size := Nat.lt_of_lt_of_le (by first | omega | (simp; done) | (simp; omega)) b2.size
    have s1_w2 : w1.heap.size < w2.heap.size := Nat.lt_of_lt_of_le (by first | omega | (simp; done) | (simp; omega)) b2.size
    have B_w2 : Below w.heap.size w w2 := (by repeat (first | exact Below.refl _ _ | refine below_step (by assumption) (by first | omega | (simp; done) | (simp; omega)) ?_ | refine below_drewN ?_ _ | refine Below.drew ?_ | refine Below.setCell ?_ (by first | omega | (simp; done) | (simp; omega)) _ | refine Below.alloc ?_ (by first | omega | (simp; done) | (simp; omega)) _))
    clear b2 c0_w1 c1_w1 s0_w1 B_w1
    go_wp2_with fail
    refine (HC.out A1 m c1 _ HM1.out.symm HE2.out).mono ?_
    rintro e w3 ⟨G, p, cp, rfl, hp, _, b3⟩
    have c0_w3 : w3.cell? ⟨w.heap.size, 0, none⟩ = some (.int .i64 n) := (b3.cell (p := ⟨w.heap.size, 0, none⟩) (by first | omega | (simp; done) | (simp; omega))).trans (by first | assumption | go_simp)
    have c1_w3 : w3.cell? ⟨w.heap.size, 1, none⟩ = some (.slice A k c) := (b3.cell (p := ⟨w.heap.size, 1, none⟩) (by first | omega | (simp; done) | (simp; omega))).trans (by first | assumption | go_simp)
    have c2_w3 : w3.cell? ⟨w1.heap.size, 0, none⟩ = some (.int .i64 n) := (b3.cell (p := ⟨w1.heap.size, 0, none⟩) (by first | omega | (simp; done) | (simp; omega))).trans (by first | assumption | go_simp)
    have c3_w3 : w3.cell? ⟨w1.heap.size, 1, none⟩ = some (.slice A1 m c1) := (b3.cell (p := ⟨w1.heap.size, 1, none⟩) (by first | omega | (simp; done) | (simp; omega))).trans (by first | assumption | go_simp)
    have c4_w3 : w3.cell? ⟨w1.heap.size, 2, none⟩ = some (.slice D1 q d1) := (b3.cell (p := ⟨w1.heap.size, 2, none⟩) (by first | omega | (simp; done) | (simp; omega))).trans (by first | assumption | go_simp)
    have s0_w3 : w.heap.size < w3.heap.size := Nat.lt_of_lt_of_le (by first | omega | (simp; done) | (simp; omega)) b3.size
    have s1_w3 : w1.heap.size < w3.heap.size := Nat.lt_of_lt_of_le (by first | omega | (simp; done) | (simp; omega)) b3.size
    have B_w3 : Below w.heap.size w w3 := (by repeat (first | exact Below.refl _ _ | refine below_step (by assumption) (by first | omega | (simp; done) | (simp; omega)) ?_ | refine below_drewN ?_ _ | refine Below.drew ?_ | refine Below.setCell ?_ (by first | omega | (simp; done) | (simp; omega)) _ | refine Below.alloc ?_ (by first | omega | (simp; done) | (simp; omega)) _))
    clear b3 c0_w2 c1_w2 c2_w2 c3_w2 c4_w2 s0_w2 s1_w2 B_w2
    have hqe : ((p : Int) == 0) = decide ((cycR n (gE es)).length = 0) := by rw [← hp, Bool.eq_iff_iff]; simp
    have HQ := Lib.hid hqe
    clear hqe hp
    go_wp2_with fail
    go_ret
    exact ⟨ret_b (by unfold consR; rw [HO.out, Bool.true_and]; exact HQ.out), B_w3⟩

theorem cyc_zero : cycR 0 [] = [] := by
  have := cycR_nil (N := 0) (es := []) rfl
  simpa using this
theorem conf_all (n : Int) (es : List GL) : confR n es = (cycR (grN n es) (grE n es)).map (fun q => (grI n es)[q.toNat]?.getD 0) := by
  unfold confR grN grE grI
  cases h : okS n es with
  | true => simp
  | false => simp [cyc_zero]
theorem cyc_all_in {n : Int} {es : List GL} {q : Int} (hq : q ∈ cycR (grN n es) (grE n es)) : 0 ≤ q ∧ q < (grI n es).length := by
  cases h : okS n es with
  | true =>
    rw [grN_yes h, grE_yes h] at hq
    rw [grI_yes h, (gE_len80 h).2]
    exact cycR_in h hq
  | false =>
    rw [grN_no h, grE_no h, cyc_zero] at hq
    simp at hq

set_option maxRecDepth 100000 in
set_option maxHeartbeats 8000000 in
theorem impl_ConflictOf (n : Int) (es : List GL) (A : Option Addr) (k c : Nat) (w : World) (hn : es.length = k) (hm : k ≤ 1048576) (hr : LinkAt w A es) :
    Calls Try.prog 17 #[grV n A k c] w fun e w' => ∃ B m cb, e = .returned (.slice B m cb) ∧ m = (confR n es).length ∧ w'.ownsRow w.heap.size 3 1 (.slice B m cb) m ((confR n es).map intV) ∧ Below w.heap.size w w' := by
  have HS := Lib.hid (fun W h => networkOf_any n es A k c W hn hm h)
  have HR := Lib.hid hr
  clear hr hn
  obtain ⟨i1, hii, hy0, hy1, hy2⟩ := info_parts Try.info3
  have hlen := grE_len n es
  rw [conf_all]
  have hcin : ∀ q ∈ cycR (grN n es) (grE n es), 0 ≤ q ∧ q < (grI n es).length := fun q hq => cyc_all_in hq
  have hcl : (cycR (grN n es) (grE n es)).length ≤ 8 := cycR_len _ _
  unfold NwEnd nwV at HS
  obtain ⟨t0, ht0⟩ : ∃ t, t = grN n es := ⟨_, rfl⟩
  obtain ⟨e0, he0⟩ : ∃ t, t = grE n es := ⟨_, rfl⟩
  obtain ⟨fr, hfr⟩ : ∃ t, t = grI n es := ⟨_, rfl⟩
  rw [← ht0, ← he0, ← hfr] at HS hcin ⊢
  rw [← ht0, ← he0] at hcl
  rw [← he0] at hlen
  have HC := Lib.hid (fun A' k' c' W hl hr => impl_NegativeCycle t0 e0 A' k' c' W hl (by omega) hr)
  obtain ⟨cs, hcs⟩ : ∃ cs, cs = cycR t0 e0 := ⟨_, rfl⟩
  rw [← hcs] at HC hcin hcl ⊢
  unfold grV at HS HC ⊢
  have HIN := Lib.hid hcin
  clear hcs hfr hcin ht0 he0
  go_enter Try.func17, Try.ntmps17
  go_wp2_with fail
  refine (HS.out _ (HR.out.below (by repeat (first | exact Below.refl _ _ | refine below_step (by assumption) (by first | omega | (simp; done) | (simp; omega)) ?_ | refine below_drewN ?_ _ | refine Below.drew ?_ | refine Below.setCell ?_ (by first | omega | (simp; done) | (simp; omega)) _ | refine Below.alloc ?_ (by first | omega | (simp; done) | (simp; omega)) _)))).mono ?_
  rintro e w1 ⟨A1, m, c1, D, q, cd, rfl, hm1, hq1, hE, hT, b1⟩
  have HE := Lib.hid (own_edgeS hE)
  have HM1 := Lib.hid hm1
  have HQ := Lib.hid hq1
  have HT := Lib.hid (own_row hT)
  clear hE hm1 hT hq1
  have c0_w1 : w1.cell? ⟨w.heap.size, 0, none⟩ = some (.int .i64 n) := (b1.cell (p := ⟨w.heap.size, 0, none⟩) (by first | omega | (simp; done) | (simp; omega))).trans (by first | assumption | go_simp)
  have c1_w1 : w1.cell? ⟨w.heap.size, 1, none⟩ = some (.slice A k c) := (b1.cell (p := ⟨w.heap.size, 1, none⟩) (by first | omega | (simp; done) | (simp; omega))).trans (by first | assumption | go_simp)
  have s0_w1 : w.heap.size < w1.heap.size := Nat.lt_of_lt_of_le (by first | omega | (simp; done) | (simp; omega)) b1.size
  have B_w1 : Below w.heap.size w w1 := (by repeat (first | exact Below.refl _ _ | refine below_step (by assumption) (by first | omega | (simp; done) | (simp; omega)) ?_ | refine below_drewN ?_ _ | refine Below.drew ?_ | refine Below.setCell ?_ (by first | omega | (simp; done) | (simp; omega)) _ | refine Below.alloc ?_ (by first | omega | (simp; done) | (simp; omega)) _))
  clear b1  
  have HE2 := Lib.hid (HE.out.below ((Below.refl _ w1).alloc (Nat.le_refl _) (.cells #[.int .i64 t0, .slice A1 m c1, .slice D q cd] 74)))
  go_wp2_with fail
  refine (HC.out A1 m c1 _ HM1.out.symm HE2.out).mono ?_
  rintro e w3 ⟨G, p, cp, rfl, hp, hrg, b3⟩
  have RG := Lib.hid (own_row hrg)
  have RD := Lib.hid (HT.out.below (((Below.refl _ w1).alloc (Nat.le_refl _) (.cells #[.int .i64 t0, .slice A1 m c1, .slice D q cd] 74)).trans (b3.mono (by simp))))
  have HP := Lib.hid hp
  have hp8 : p ≤ 8 := by omega
  clear hrg hp
  have c0_w3 : w3.cell? ⟨w.heap.size, 0, none⟩ = some (.int .i64 n) := (b3.cell (p := ⟨w.heap.size, 0, none⟩) (by first | omega | (simp; done) | (simp; omega))).trans (by first | assumption | go_simp)
  have c1_w3 : w3.cell? ⟨w.heap.size, 1, none⟩ = some (.slice A k c) := (b3.cell (p := ⟨w.heap.size, 1, none⟩) (by first | omega | (simp; done) | (simp; omega))).trans (by first | assumption | go_simp)
  have c2_w3 : w3.cell? ⟨w1.heap.size, 0, none⟩ = some (.int .i64 t0) := (b3.cell (p := ⟨w1.heap.size, 0, none⟩) (by first | omega | (simp; done) | (simp; omega))).trans (by first | assumption | go_simp)
  have c3_w3 : w3.cell? ⟨w1.heap.size, 1, none⟩ = some (.slice A1 m c1) := (b3.cell (p := ⟨w1.heap.size, 1, none⟩) (by first | omega | (simp; done) | (simp; omega))).trans (by first | assumption | go_simp)
  have c4_w3 : w3.cell? ⟨w1.heap.size, 2, none⟩ = some (.slice D q cd) := (b3.cell (p := ⟨w1.heap.size, 2, none⟩) (by first | omega | (simp; done) | (simp; omega))).trans (by first | assumption | go_simp)
  have s0_w3 : w.heap.size < w3.heap.size := Nat.lt_of_lt_of_le (by first | omega | (simp; done) | (simp; omega)) b3.size
  have s1_w3 : w1.heap.size < w3.heap.size := Nat.lt_of_lt_of_le (by first | omega | (simp; done) | (simp; omega)) b3.size
  have B_w3 : Below w.heap.size w w3 := (by repeat (first | exact Below.refl _ _ | refine below_step (by assumption) (by first | omega | (simp; done) | (simp; omega)) ?_ | refine below_drewN ?_ _ | refine Below.drew ?_ | refine Below.setCell ?_ (by first | omega | (simp; done) | (simp; omega)) _ | refine Below.alloc ?_ (by first | omega | (simp; done) | (simp; omega)) _))
  clear b3 c0_w1 c1_w1 s0_w1 B_w1
  go_wp2_with fail
  go_loopw [13, 4] (fun ii ou wr => ∃ (j : Nat) (A2 : Option Addr) (d2 : Nat), j ≤ p ∧ ii = .int .i64 j ∧ ou = .slice A2 j d2 ∧ wr.ownsRow w3.heap.size 3 1 (.slice A2 j d2) j (((cs.take j).map (fun q => fr[q.toNat]?.getD 0)).map intV) ∧ Below w3.heap.size w3 wr) (fun ii _ _ => p - (intOf ii).toNat)
  case atStart => exact ⟨0, none, 0, Nat.zero_le _, rfl, rfl, World.ownsRow_nil _ _ _ _, Below.refl _ _⟩
  case round =>
    obtain ⟨j, A2, d2, hj, rfl, rfl, hown, hbw⟩ := hrel
    have hwz := hbw.size
    by_cases hlt : j < p
    · have hp := HP.out
      obtain ⟨x, hx⟩ : ∃ x, cs[j]? = some x := ⟨_, List.getElem?_eq_getElem (by omega)⟩
      have hxi := HIN.out x (List.mem_of_getElem? hx)
      obtain ⟨y, rfl⟩ : ∃ y : Nat, x = y := ⟨x.toNat, by omega⟩
      have hq := HQ.out
      have hyq : y < q := by omega
      obtain ⟨g1, o1, hG, hg1, hc1⟩ := (RG.out.below hbw) (by simp; omega)
      obtain ⟨g2, o2, hD, hg2, hc2⟩ := (RD.out.below hbw) (by simp; omega)
      have x1 := hc1 j (by simp; omega)
      have x2 := hc2 y (by simp; omega)
      have hxe : (cs.map intV)[j]'(by simp; omega) = .int .i64 y := by have := hx; rw [List.getElem?_eq_getElem (by omega)] at this; injection this with this; simp [intV, this]
      rw [hxe] at x1
      obtain ⟨z, hz⟩ : ∃ z, fr[y]? = some z := ⟨_, List.getElem?_eq_getElem (by omega)⟩
      have hze : (fr.map intV)[y]'(by simp; omega) = .int .i64 z := by have := hz; rw [List.getElem?_eq_getElem (by omega)] at this; injection this with this; simp [intV, this]
      rw [hze] at x2
      have HT2 := Lib.hid (take_map_next (f := fun q => fr[q.toNat]?.getD 0) hx)
      have hfz : fr[((y : Int)).toNat]?.getD 0 = z := by simp [hz]
      have HZ := Lib.hid hfz
      have k4 := (hbw.cell (p := ⟨w1.heap.size, 2, none⟩) s1_w3).trans c4_w3
      subst hG hD
      have HOW := Lib.hid hown
      clear hown hc1 hc2 hx hz hxe hze hp hq hxi hfz
      go_wp2_with (at_builtin; refine wpList_append_lies _ rfl _ _ 28 rfl (w3.heap.size) 3 i1 (.int .i64 0) 1 8 Try.underlying28 hii hy0 hy1 hy2 rfl (by decide) _ _ _ rfl (HOW.out.alloc _) ⟨_, 0, none⟩ 1 1 _ rfl rfl (World.news_of_block (heap_made _ _ _ (by first | rfl | simp))) (one_c1 _) (by decide) (by unfold maxLen; omega) (by omega) (by simp; omega) _ rfl ?_)
      intro g3 cap w6 ho6 hg6 hat6 hl6
      go_wp2_with fail
      go_roundw
      case rel =>
        refine ⟨j + 1, some ⟨g3, 0, none⟩, cap, by omega, by go_num, rfl, ?_, ?_⟩
        · rw [HT2.out, HZ.out]; simpa [intV] using ho6
        · exact (hbw.alloc hbw.size _).grown hg6 (by simp; omega) (fun r hr => (HOW.out.lt r hr).1)
      case measure => simp [intOf]; omega
    · have hjp : j = p := by omega
      subst hjp
      have hp := HP.out
      rw [List.take_of_length_le (by omega)] at hown
      have HOW := Lib.hid hown
      clear hown
      go_wp2_with fail
      go_ret
      exact ⟨A2, j, d2, rfl, by rw [List.length_map]; exact hp, own_base HOW.out (by omega), B_w3.trans (hbw.mono B_w3.size)⟩

end Go.Proofs.Ytnhdfnfiicioiaa
