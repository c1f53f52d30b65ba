/-
  WALKS of slices.Clone of links and impl.FixTimes.
-/
import Derived.Test.YteppmlepbfjnpaaPwO
import Derived.Test.YteppmlepbfjnpaaBdSmL
import Derived.Test.YteppmlepbfjnpaaNwL
import Derived.Lib.AppendZeros
import Derived.Lib.SliceRun
import Derived.Deep.RegionHeld3
import Derived.Deep.CutRange
import Derived.Deep.AppendLies
namespace Go.Proofs.Yteppmlepbfjnpaa
open Go.RowKit
set_option linter.unusedVariables false
set_option linter.unusedSimpArgs false

set_option maxRecDepth 100000 in
set_option maxHeartbeats 4000000 in
theorem clone_links (es : List GL) (A : Option Addr) (k c : Nat) (w : World) (hn : es.length = k) (hm : k ≤ 1048576) (hr : LinkAt w A es) :
    Calls Try.prog 51 #[.slice A k c] w fun e w' => ∃ B cb, e = .returned (.slice B k cb) ∧ w'.ownsRow w.heap.size 76 4 (.slice B k cb) k (cellsL es) ∧ Below w.heap.size w w' := by
  obtain ⟨i0, hi0, hz0, hz1, hz2⟩ := info_parts Try.info76
  have q22 : ∀ (w : World) (a : Option Addr) (n c n' c' : Nat), (binOp .eql 23 (.slice a n c) (.slice none n' c')).run Try.prog w = .ok (.bool a.isNone) w := fun w a n c n' c' => Lib.run_eql_slice_nil w _ _ a n c n' c' Try.underlying23
  have HR := Lib.hid hr
  have HN := Lib.hid hn
  clear hn
  cases A with
  | none =>
    have hk : k = 0 := by
      rcases Nat.eq_zero_or_pos k with h | h
      · exact h
      · obtain ⟨g, o, h2, _⟩ := hr (by have := HN.out; omega); cases h2
    have hes : cellsL es = [] := by rw [List.eq_nil_of_length_eq_zero (HN.out.trans hk)]; rfl
    have HE := Lib.hid hes
    subst hk
    clear hes hr
    go_enter Try.func51, Try.ntmps51
    go_wp2_with fail
    go_ret
    exact ⟨none, 0, rfl, by rw [HE.out]; exact World.ownsRow_nil _ _ _ _, Below.refl _ _⟩
  | some ad =>
    clear hr
    obtain ⟨wa, hwa⟩ : ∃ W, W = w.alloc (.cells #[] 76) := ⟨_, rfl⟩
    have ba : Below w.heap.size w wa := by rw [hwa]; exact (Below.refl _ _).alloc (Nat.le_refl _) _
    have za : wa.heap.size = w.heap.size + 1 := by rw [hwa]; simp
    have hea : wa.heap[w.heap.size]? = some (.cells #[] 76 (0, 0)) := by rw [hwa]; exact heap_alloc_new _ _
    have hRa := HR.out.below ba
    obtain ⟨v', w2, hrun, hown, hg2, _⟩ := run_append_read (P := Try.prog) (w := wa) w.heap.size 23 23 76 i0 (.agg #[.int .i64 0, .int .i64 0, .int .i64 0, .int .i64 0]) 4 32 Try.underlying23 hi0 hz0 hz1 hz2 rfl (by decide) _ 0 [] (own_emp w.heap.size (Nat.le_refl _) hea) (some ad) k c (cellsL es) (by rw [cellsL_length, HN.out]) (fun h => link_news hRa (by have := HN.out; omega)) (cellsL_one es) (by unfold maxLen; omega) (by omega) (by omega)
    have B2 : Below w.heap.size w w2 := ba.grown hg2 (by omega) (fun r hr => Nat.le_of_eq (by simpa [Value.ownBlock] using hr))
    have hown2 := own_zeroS hown
    obtain ⟨B, cb, rfl, _, _⟩ := ownL_form hown2
    have HRUN := Lib.hid hrun
    have HO := Lib.hid hown2
    have HB := Lib.hid B2
    clear hrun hown hown2 hg2 hea hRa B2
    go_enter Try.func51, Try.ntmps51
    go_upto_region 3 with (fail)
    go_wp2_with (first | (at_builtin; rw [← hwa]; refine Lib.wpList_append_run _ rfl _ _ _ _ rfl _ _ rfl rfl _ _ HRUN.out ?_))
    go_ret
    exact ⟨B, cb, rfl, HO.out, HB.out⟩

/-- The box of FixTimes behind its making. -/
def FxCut (w1 : World) (n : Int) (es : List GL) (k : Nat) (p : Value) (wc : World) : Prop :=
  ∃ (B : Nat) (A : Option Addr) (c : Nat), p = .pointer (some ⟨B, 0, none⟩) ∧ BoxR wc w1.heap.size B n (.slice A k c) k es ∧ w1.heap.size ≤ B ∧ Below w1.heap.size w1 wc

set_option maxRecDepth 100000 in
set_option maxHeartbeats 8000000 in
theorem impl_FixTimes (n : Int) (es : List GL) (A : Option Addr) (k c : Nat) (ts : List Int) (T : Option Addr) (m d : Nat) (w : World) (hn : es.length = k) (hm : k ≤ 1048576) (hl : ts.length = m) (hr : LinkAt w A es) (ht : RowAt w T (ts.map intV)) :
    Calls Try.prog 16 #[grV n A k c, .slice T m d] w fun e w' => FxEnd n es ts w e w' := by
  obtain ⟨i0, hi, hz0, hz1, hz2⟩ := info_parts Try.info76
  have HS := Lib.hid (fun W h h2 => impl_PartialOk n es A k c ts T m d W hn hm hl h h2)
  have HCP := Lib.hid (fun W h => clone_links es A k c W hn hm h)
  have HSO := Lib.hid (fun (ls : List GL) A2 s c2 W (h1 : ls.length = s) (h2 : s ≤ 1048576) h => impl_SimpleOk n ls A2 s c2 W h1 h2 h)
  have HR := Lib.hid hr
  have HT := Lib.hid ht
  have HL := Lib.hid hl
  have HN := Lib.hid hn
  clear hr hn ht hl
  obtain ⟨ok, hok⟩ : ∃ b, b = pokR n es ts := ⟨_, rfl⟩
  rw [← hok] at HS
  have HO := Lib.hid hok.symm
  clear hok
  unfold grV at HS HCP HSO ⊢
  cases ok with
  | false =>
    go_enter Try.func16, Try.ntmps16
    go_wp2_with fail
    refine (HS.out _ (HR.out.below (by repeat (first | exact Below.refl _ _ | refine below_step (by assumption) (by first | omega | (simp; done) | (simp; omega)) ?_ | refine below_drewN ?_ _ | refine Below.drew ?_ | refine Below.setCell ?_ (by first | omega | (simp; done) | (simp; omega)) _ | refine Below.alloc ?_ (by first | omega | (simp; done) | (simp; omega)) _))) (HT.out.below (by repeat (first | exact Below.refl _ _ | refine below_step (by assumption) (by first | omega | (simp; done) | (simp; omega)) ?_ | refine below_drewN ?_ _ | refine Below.drew ?_ | refine Below.setCell ?_ (by first | omega | (simp; done) | (simp; omega)) _ | refine Below.alloc ?_ (by first | omega | (simp; done) | (simp; omega)) _)))).mono ?_
    rintro e w1 ⟨rfl, b1⟩
    have c0_w1 : w1.cell? ⟨w.heap.size, 0, none⟩ = some (.int .i64 n) := (b1.cell (p := ⟨w.heap.size, 0, none⟩) (by first | omega | (simp; done) | (simp; omega))).trans (by first | assumption | go_simp)
    have c1_w1 : w1.cell? ⟨w.heap.size, 1, none⟩ = some (.slice A k c) := (b1.cell (p := ⟨w.heap.size, 1, none⟩) (by first | omega | (simp; done) | (simp; omega))).trans (by first | assumption | go_simp)
    have c2_w1 : w1.cell? ⟨w.heap.size + 1, 0, none⟩ = some (.int .i64 0) := (b1.cell (p := ⟨w.heap.size + 1, 0, none⟩) (by first | omega | (simp; done) | (simp; omega))).trans (by first | assumption | go_simp)
    have c3_w1 : w1.cell? ⟨w.heap.size + 1, 1, none⟩ = some (.slice none 0 0) := (b1.cell (p := ⟨w.heap.size + 1, 1, none⟩) (by first | omega | (simp; done) | (simp; omega))).trans (by first | assumption | go_simp)
    have f0_w1 : w1.frozen? ⟨w.heap.size + 1, 0, none⟩ = false := (b1.frozen (p := ⟨w.heap.size + 1, 0, none⟩) (by first | omega | (simp; done) | (simp; omega))).trans (by first | assumption | go_simp)
    have f1_w1 : w1.frozen? ⟨w.heap.size + 1, 1, none⟩ = false := (b1.frozen (p := ⟨w.heap.size + 1, 1, none⟩) (by first | omega | (simp; done) | (simp; omega))).trans (by first | assumption | go_simp)
    have s0_w1 : w.heap.size < w1.heap.size := Nat.lt_of_lt_of_le (by first | omega | (simp; done) | (simp; omega)) b1.size
    have s1_w1 : w.heap.size + 1 < w1.heap.size := Nat.lt_of_lt_of_le (by first | omega | (simp; done) | (simp; omega)) b1.size
    have B_w1 : Below w.heap.size w w1 := (by repeat (first | exact Below.refl _ _ | refine below_step (by assumption) (by first | omega | (simp; done) | (simp; omega)) ?_ | refine below_drewN ?_ _ | refine Below.drew ?_ | refine Below.setCell ?_ (by first | omega | (simp; done) | (simp; omega)) _ | refine Below.alloc ?_ (by first | omega | (simp; done) | (simp; omega)) _))
    clear b1  
    go_wp2_with fail
    refine bodyPost_ret (v := .tuple #[.agg #[.int .i64 0, .slice none 0 0], .bool false]) (by first | (simp [results, Try.results16, go_sem, c2_w1, c3_w1, f0_w1, f1_w1]; done) | simp [*, results, Try.results16, go_sem]) rfl (FxEnd.no (fxR_pok HO.out) (by refine Below.setCell (Below.setCell ?_ (by first | omega | (simp; done) | (simp; omega)) _) (by first | omega | (simp; done) | (simp; omega)) _; exact B_w1))
  | true =>
    obtain ⟨hok1, hln, h00, hrg⟩ := pokR_ok HO.out
    have hk40 : k ≤ 40 := by have := okS_rng hok1; have := HN.out; omega
    have hm8 : m ≤ 8 := by have := okS_rng hok1; have := HL.out; omega
    clear hok1 hln h00 hrg
    go_enter Try.func16, Try.ntmps16
    go_wp2_with fail
    refine (HS.out _ (HR.out.below (by repeat (first | exact Below.refl _ _ | refine below_step (by assumption) (by first | omega | (simp; done) | (simp; omega)) ?_ | refine below_drewN ?_ _ | refine Below.drew ?_ | refine Below.setCell ?_ (by first | omega | (simp; done) | (simp; omega)) _ | refine Below.alloc ?_ (by first | omega | (simp; done) | (simp; omega)) _))) (HT.out.below (by repeat (first | exact Below.refl _ _ | refine below_step (by assumption) (by first | omega | (simp; done) | (simp; omega)) ?_ | refine below_drewN ?_ _ | refine Below.drew ?_ | refine Below.setCell ?_ (by first | omega | (simp; done) | (simp; omega)) _ | refine Below.alloc ?_ (by first | omega | (simp; done) | (simp; omega)) _)))).mono ?_
    rintro e w1 ⟨rfl, b1⟩
    have c0_w1 : w1.cell? ⟨w.heap.size, 0, none⟩ = some (.int .i64 n) := (b1.cell (p := ⟨w.heap.size, 0, none⟩) (by first | omega | (simp; done) | (simp; omega))).trans (by first | assumption | go_simp)
    have c1_w1 : w1.cell? ⟨w.heap.size, 1, none⟩ = some (.slice A k c) := (b1.cell (p := ⟨w.heap.size, 1, none⟩) (by first | omega | (simp; done) | (simp; omega))).trans (by first | assumption | go_simp)
    have c2_w1 : w1.cell? ⟨w.heap.size + 1, 0, none⟩ = some (.int .i64 0) := (b1.cell (p := ⟨w.heap.size + 1, 0, none⟩) (by first | omega | (simp; done) | (simp; omega))).trans (by first | assumption | go_simp)
    have c3_w1 : w1.cell? ⟨w.heap.size + 1, 1, none⟩ = some (.slice none 0 0) := (b1.cell (p := ⟨w.heap.size + 1, 1, none⟩) (by first | omega | (simp; done) | (simp; omega))).trans (by first | assumption | go_simp)
    have f0_w1 : w1.frozen? ⟨w.heap.size + 1, 0, none⟩ = false := (b1.frozen (p := ⟨w.heap.size + 1, 0, none⟩) (by first | omega | (simp; done) | (simp; omega))).trans (by first | assumption | go_simp)
    have f1_w1 : w1.frozen? ⟨w.heap.size + 1, 1, none⟩ = false := (b1.frozen (p := ⟨w.heap.size + 1, 1, none⟩) (by first | omega | (simp; done) | (simp; omega))).trans (by first | assumption | go_simp)
    have s0_w1 : w.heap.size < w1.heap.size := Nat.lt_of_lt_of_le (by first | omega | (simp; done) | (simp; omega)) b1.size
    have s1_w1 : w.heap.size + 1 < w1.heap.size := Nat.lt_of_lt_of_le (by first | omega | (simp; done) | (simp; omega)) b1.size
    have B_w1 : Below w.heap.size w w1 := (by repeat (first | exact Below.refl _ _ | refine below_step (by assumption) (by first | omega | (simp; done) | (simp; omega)) ?_ | refine below_drewN ?_ _ | refine Below.drew ?_ | refine Below.setCell ?_ (by first | omega | (simp; done) | (simp; omega)) _ | refine Below.alloc ?_ (by first | omega | (simp; done) | (simp; omega)) _))
    clear b1  
    have LO : Hid (w.heap.size + 1 < w1.heap.size) := Lib.hid s1_w1
    have E0 := Lib.hid c2_w1
    have E1 := Lib.hid c3_w1
    have G0 := Lib.hid f0_w1
    have G1 := Lib.hid f1_w1
    have B1K := Lib.hid B_w1
    have HR1 := Lib.hid (HR.out.below B_w1)
    go_upto_region 3 with (fail)
    go_cut [6] from 14 to 20 (fun p wc => FxCut w1 n es k p wc)
    case first =>
      go_region_held3 (fun W => W.cell? ⟨w.heap.size, 0, none⟩ = some (.int .i64 n) ∧ W.cell? ⟨w.heap.size, 1, none⟩ = some (.slice A k c)) (first | (go_keep; done) | ((try dsimp only); refine ⟨?_, ?_⟩ <;> first | assumption | (go_simp; done))) (first | (go_simp; go_at_call 51; refine (HCP.out _ (LinkAt.below (w := w1) HR1.out (by repeat (first | exact Below.refl _ _ | refine below_step (by assumption) (by first | omega | (simp; done) | (simp; omega)) ?_ | refine below_drewN ?_ _ | refine Below.drew ?_ | refine Below.setCell ?_ (by first | omega | (simp; done) | (simp; omega)) _ | refine Below.alloc ?_ (by first | omega | (simp; done) | (simp; omega)) _)))).mono ?_; rintro e w2 ⟨A1, c1, rfl, h1, b2⟩; have c0_w2 : w2.cell? ⟨w.heap.size, 0, none⟩ = some (.int .i64 n) := (b2.cell (p := ⟨w.heap.size, 0, none⟩) (by first | omega | (simp; done) | (simp; omega))).trans (by first | assumption | go_simp); have c1_w2 : w2.cell? ⟨w.heap.size, 1, none⟩ = some (.slice A k c) := (b2.cell (p := ⟨w.heap.size, 1, none⟩) (by first | omega | (simp; done) | (simp; omega))).trans (by first | assumption | go_simp); (try (refine cutL (p := w2.cell? ⟨w1.heap.size, 0, none⟩ = some (.int .i64 0)) ?_ ?_; refine (b2.cell (p := ⟨w1.heap.size, 0, none⟩) ?_).trans ?_; (focus (first | omega | (simp; done) | (simp; omega))); (focus (go_simp; done)); intro g0)); (try (refine cutL (p := w2.frozen? ⟨w1.heap.size, 0, none⟩ = false) ?_ ?_; refine (b2.frozen (p := ⟨w1.heap.size, 0, none⟩) ?_).trans ?_; (focus (first | omega | (simp; done) | (simp; omega))); (focus (go_simp; done)); intro g1)); (try (refine cutL (p := w2.cell? ⟨w1.heap.size, 1, none⟩ = some (.slice none 0 0)) ?_ ?_; refine (b2.cell (p := ⟨w1.heap.size, 1, none⟩) ?_).trans ?_; (focus (first | omega | (simp; done) | (simp; omega))); (focus (go_simp; done)); intro g2)); (try (refine cutL (p := w2.frozen? ⟨w1.heap.size, 1, none⟩ = false) ?_ ?_; refine (b2.frozen (p := ⟨w1.heap.size, 1, none⟩) ?_).trans ?_; (focus (first | omega | (simp; done) | (simp; omega))); (focus (go_simp; done)); intro g3)); have z2 := b2.size; (try simp at z2); have s0 : w.heap.size < w2.heap.size := (by omega); have s1 : w.heap.size + 1 < w2.heap.size := (by omega); have s2 : w1.heap.size ≤ w2.heap.size := (by omega); have n1 : (w.heap.size = w2.heap.size) = False := eq_false (by omega); have n2 : (w2.heap.size = w.heap.size) = False := eq_false (by omega); have n3 : (w.heap.size = w1.heap.size) = False := eq_false (by omega); have n4 : (w1.heap.size = w.heap.size) = False := eq_false (by omega); have B2 : Below w1.heap.size w1 w2 := (by repeat (first | exact Below.refl _ _ | refine below_step (by assumption) (by first | omega | (simp; done) | (simp; omega)) ?_ | refine below_drewN ?_ _ | refine Below.drew ?_ | refine Below.setCell ?_ (by first | omega | (simp; done) | (simp; omega)) _ | refine Below.alloc ?_ (by first | omega | (simp; done) | (simp; omega)) _)); have HO1 := Lib.hid (own_base (B' := w1.heap.size) h1 (by first | omega | (simp; done) | (simp; omega))); have HH1 := Lib.hid h1; have HLT := h1.lt; (try simp at HLT); clear h1 b2))
      all_goals go_wp2_with fail
      all_goals (go_meet; refine ⟨_, A1, c1, rfl, ⟨?_, ?_, ?_, ?_, ?_, ?_⟩, ?_, ?_⟩)
      all_goals (first | omega | (simp; done) | (simp; omega) | (go_simp; done) | exact HO1.out.alloc _ | exact HO1.out | exact own_base (own_set (own_set HH1.out _ _ (by first | omega | (dsimp only; omega) | (simp; done) | (simp; omega))) _ _ (by first | omega | (dsimp only; omega) | (simp; done) | (simp; omega))) (by first | omega | (dsimp only; omega) | (simp; done) | (simp; omega)) | (intro e; have := HLT _ e; omega) | (intro e; have := (HLT _ e).1; have := (HLT _ e).2; omega) | ((repeat (first | exact B2 | refine Below.setCell ?_ (by first | omega | (dsimp only; omega) | (simp; done) | (simp; omega)) _ | refine Below.alloc ?_ (by first | omega | (dsimp only; omega) | (simp; done) | (simp; omega)) _ | refine Below.drew ?_)); done))
    case rest =>
      obtain ⟨w3, hww⟩ : ∃ W, W = wc := ⟨_, rfl⟩
      rw [← hww] at hcut ⊢
      clear hww wc
      obtain ⟨B, A1, c1, rfl, hbox, hBlo, bR⟩ := hcut
      have X0 : Hid (BoxR w3 w1.heap.size B n (.slice A1 k c1) k (es ++ fixJ ts 0)) := Lib.hid (by unfold fixJ; rw [List.append_nil]; exact hbox)
      have B3 : Hid (Below w1.heap.size w1 w3) := Lib.hid bR
      have lo1 : w.heap.size + 1 < B := by have := LO.out; omega
      clear hbox bR c0_w1 c1_w1 c2_w1 c3_w1 f0_w1 f1_w1 s0_w1 s1_w1
      go_wp2_with fail
      go_loopw [22] (fun ii wr => ∃ (j s : Nat) (A2 : Option Addr) (c2 : Nat), j ≤ m ∧ ii = .int .i64 j ∧ s = (es ++ fixJ ts j).length ∧ BoxR wr w1.heap.size B n (.slice A2 s c2) s (es ++ fixJ ts j) ∧ Below w1.heap.size w1 wr) (fun ii _ => m - (intOf ii).toNat)
      case atStart => exact ⟨0, k, A1, c1, Nat.zero_le _, rfl, by unfold fixJ; rw [List.append_nil, HN.out], X0.out, B3.out⟩
      case round =>
        obtain ⟨j, s, A2, c2, hj, rfl, hs, hbox, hbw⟩ := hrel
        have X := Lib.hid hbox
        have BW := Lib.hid hbw
        have HSL := Lib.hid hs
        have hs48 : s ≤ 48 := by have := fixJ_len ts j; rw [List.length_append, HN.out] at hs; omega
        obtain ⟨k0, k1, f1, s0⟩ := X.out.facts
        clear hbox hbw hs
        by_cases hlt : j < m
        · obtain ⟨g, o, rfl, hg2, hc2⟩ := row_get HT.out (q := j) (by have := HL.out; omega)
          have hnx := fixJ_next (ts := ts) (j := j) (List.getElem?_eq_getElem (by have := HL.out; omega))
          obtain ⟨x, hx⟩ : ∃ x, x = ts[j]'(by have := HL.out; omega) := ⟨_, rfl⟩
          rw [← hx] at hnx
          rw [← hx] at hc2
          have x1 := (BW.out.cell (p := ⟨g, o + j, none⟩) (by have := LO.out; dsimp only; omega)).trans (((B1K.out.cell (p := ⟨g, o + j, none⟩) hg2).trans hc2))
          have HX := Lib.hid hnx
          clear hc2 hnx hx
          by_cases hj0 : j = 0
          · have hjn : ¬ ((0 : Int) < (j : Int)) := by omega
            have HF : Hid (fx1 x j = []) := Lib.hid (by unfold fx1; rw [if_neg (by omega)])
            clear hj0
            go_wp2_with fail
            go_roundw
            case rel => exact ⟨j + 1, s, A2, c2, by omega, by go_num, by rw [HX.out, HF.out, List.append_nil]; exact HSL.out, by rw [HX.out, HF.out, List.append_nil]; exact X.out, BW.out⟩
            case measure => simp [intOf]; omega
          · have hjp : (0 : Int) < (j : Int) := by omega
            by_cases hx1 : x = -1
            · have hxb : (x != -1) = false := by simp [hx1]
              have HF : Hid (fx1 x j = []) := Lib.hid (by unfold fx1; rw [if_neg (by omega)])
              clear hx1
              go_wp2_with fail
              go_roundw
              case rel => exact ⟨j + 1, s, A2, c2, by omega, by go_num, by rw [HX.out, HF.out, List.append_nil]; exact HSL.out, by rw [HX.out, HF.out, List.append_nil]; exact X.out, BW.out⟩
              case measure => simp [intOf]; omega
            · have hxb : (x != -1) = true := by simp [hx1]
              have HF : Hid (fx1 x j = [⟨0, j, x, x⟩]) := Lib.hid (by unfold fx1; rw [if_pos ⟨by omega, hx1⟩])
              clear hx1
              go_wp2_with (at_builtin; refine wpList_append_lies _ rfl _ _ 23 rfl (w1.heap.size) 76 i0 (.agg #[.int .i64 0, .int .i64 0, .int .i64 0, .int .i64 0]) 4 32 Try.underlying23 hi hz0 hz1 hz2 rfl (by decide) _ _ _ rfl (X.out.row.alloc _) ⟨_, 0, none⟩ 1 1 _ rfl rfl (World.news_of_block (heap_made _ _ _ (by first | rfl | simp))) (one_c4 _ _ _ _) (by decide) (by unfold maxLen; omega) (by omega) (by have := BW.out.size; simp; omega) _ rfl ?_)
              intro g6 cap w6 ho6 hg6 hat6 hl6
              have hba : Below wr.heap.size wr (wr.alloc (.cells #[.int .i64 0, .int .i64 j, .int .i64 x, .int .i64 x] 76)) := (Below.refl _ _).alloc (Nat.le_refl _) _
              have XX := X.out.below hba
              have X6 := Lib.hid (XX.grow ho6 hg6 (hat6.imp id (fun h => h.trans (by first | rfl | simp))))
              have B6 := Lib.hid (XX.from (BW.out.trans (hba.mono BW.out.size)) hg6 (by have := BW.out.size; simp; omega) (by omega) (.slice (some ⟨g6, 0, none⟩) (s + 1) cap))
              have q1 := grown_cellS hg6 XX.c1 XX.off
              have q2 := grown_freeS hg6 XX.lt XX.f1 XX.off
              have q3 : B < w6.heap.size := Nat.lt_of_lt_of_le XX.lt hg6.size
              clear ho6 hg6 hat6 hl6 hba XX
              go_wp2_with fail
              go_roundw
              case rel => exact ⟨j + 1, s + 1, some ⟨g6, 0, none⟩, cap, by omega, by go_num, by rw [HX.out, HF.out, ← List.append_assoc, List.length_append, ← HSL.out]; rfl, by rw [HX.out, HF.out, ← List.append_assoc]; exact X6.out, B6.out⟩
              case measure => simp [intOf]; omega
        · have hjm : j = m := by omega
          subst hjm
          have hfl : fixJ ts j = fixL ts := by unfold fixL; rw [HL.out]
          have X4 := X.out
          have hsl := HSL.out
          rw [hfl] at X4 hsl
          have XO := Lib.hid X4
          have HSL2 := Lib.hid hsl
          have e0 := (BW.out.cell (p := ⟨w.heap.size + 1, 0, none⟩) LO.out).trans (show w1.cell? ⟨w.heap.size + 1, 0, none⟩ = some (.int .i64 0) from E0.out)
          have e1 := (BW.out.cell (p := ⟨w.heap.size + 1, 1, none⟩) LO.out).trans (show w1.cell? ⟨w.heap.size + 1, 1, none⟩ = some (.slice none 0 0) from E1.out)
          have g0 := (BW.out.frozen (p := ⟨w.heap.size + 1, 0, none⟩) LO.out).trans (show w1.frozen? ⟨w.heap.size + 1, 0, none⟩ = false from G0.out)
          have g1 := (BW.out.frozen (p := ⟨w.heap.size + 1, 1, none⟩) LO.out).trans (show w1.frozen? ⟨w.heap.size + 1, 1, none⟩ = false from G1.out)
          have z1r : w1.heap.size ≤ wr.heap.size := BW.out.size
          clear X4 hsl hfl
          go_wp2_with fail
          refine (HSO.out (es ++ fixL ts) A2 s c2 _ HSL2.out.symm (by omega) (own_link XO.out.row)).mono ?_
          rintro e w7 ⟨rfl, b7⟩
          have X7 := Lib.hid (XO.out.below b7)
          have B7 : Below w.heap.size w w7 := (B1K.out.trans (BW.out.mono B1K.out.size)).trans (b7.mono (by have := B1K.out.size; omega))
          have r0 := (b7.cell (p := ⟨w.heap.size + 1, 0, none⟩) (by have := LO.out; dsimp only; omega)).trans e0
          have r1 := (b7.cell (p := ⟨w.heap.size + 1, 1, none⟩) (by have := LO.out; dsimp only; omega)).trans e1
          have t0 := (b7.frozen (p := ⟨w.heap.size + 1, 0, none⟩) (by have := LO.out; dsimp only; omega)).trans g0
          have t1 := (b7.frozen (p := ⟨w.heap.size + 1, 1, none⟩) (by have := LO.out; dsimp only; omega)).trans g1
          have z7 : w1.heap.size ≤ w7.heap.size := Nat.le_trans z1r b7.size
          obtain ⟨k0, k1, f1, s0⟩ := X7.out.facts
          clear b7 e0 e1 g0 g1
          have m1 : (w.heap.size + 1 = B) = False := eq_false (by have := LO.out; omega)
          have m2 : (B = w.heap.size + 1) = False := eq_false (by have := LO.out; omega)
          have s7 : w.heap.size + 1 < w7.heap.size := by have := LO.out; omega
          obtain ⟨o2, ho2⟩ : ∃ b, b = okS n (es ++ fixL ts) := ⟨_, rfl⟩
          rw [← ho2]
          have hfx : fxR n es ts = o2 := by unfold fxR; rw [HO.out, Bool.true_and, ho2]
          have HFX := Lib.hid hfx
          clear ho2 hfx
          cases o2 with
          | false =>
            go_wp2_with fail
            refine bodyPost_ret (v := .tuple #[.agg #[.int .i64 0, .slice none 0 0], .bool false]) (by first | (simp [results, Try.results16, go_sem, r0, r1, t0, t1]; done) | simp [*, results, Try.results16, go_sem]) rfl (FxEnd.no HFX.out (by refine Below.setCell (Below.setCell ?_ (by first | omega | (simp; done) | (simp; omega)) _) (by first | omega | (simp; done) | (simp; omega)) _; exact B7))
          | true =>
            go_wp2_with fail
            refine bodyPost_ret (v := .tuple #[.agg #[.int .i64 n, .slice A2 s c2], .bool true]) (by first | (simp [results, Try.results16, go_sem, r0, r1, t0, t1]; done) | simp [*, results, Try.results16, go_sem]) rfl ?_
            refine ⟨A2, s, c2, by rw [fxN_yes HFX.out, HFX.out]; rfl, by rw [fxE_yes HFX.out]; exact HSL2.out, ?_, by refine Below.setCell (Below.setCell ?_ (by first | omega | (simp; done) | (simp; omega)) _) (by first | omega | (simp; done) | (simp; omega)) _; exact B7⟩
            rw [fxE_yes HFX.out]
            exact own_base (own_set (own_set X7.out.row _ _ (by have := LO.out; dsimp only; omega)) _ _ (by have := LO.out; dsimp only; omega)) (by have := LO.out; omega)

end Go.Proofs.Yteppmlepbfjnpaa

