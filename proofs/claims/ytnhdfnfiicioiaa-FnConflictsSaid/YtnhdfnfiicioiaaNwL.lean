/-
  WALKS of slices.Grow at nil, slices.Concat of two slices of links, and impl.WithLink.
-/
import Derived.Test.YtnhdfnfiicioiaaSmL
import Derived.Test.YtnhdfnfiicioiaaNwO
import Derived.Lib.AppendZeros
import Derived.Deep.RegionHeld3
import Derived.Deep.RegionLaw
import Derived.Deep.CutRange
namespace Go.Proofs.Ytnhdfnfiicioiaa
open Go.RowKit
set_option linter.unusedVariables false
set_option linter.unusedSimpArgs false

set_option maxRecDepth 100000 in
set_option maxHeartbeats 4000000 in
theorem grow_nil (m : Nat) (w : World) (h1 : 1 ≤ m) (hm : m ≤ 1048577) :
    Calls Try.prog 101 #[.slice none 0 0, .int .i64 m] w fun e w' => ∃ g cap, e = .returned (.slice (some ⟨g, 0, none⟩) 0 cap) ∧ w'.ownsRow w.heap.size 42 4 (.slice (some ⟨g, 0, none⟩) 0 cap) 0 [] ∧ Below w.heap.size w w' := by
  obtain ⟨i0, hi, hz0, hz1, hz2⟩ := info_parts Try.info42
  have happ := fun ty => Lib.run_append_nil_zeros (P := Try.prog) w 23 3 ty 42 i0 (.agg #[.int .i64 0, .int .i64 0, .int .i64 0, .int .i64 0]) .i64 .i64 Try.underlying23 Try.underlying3 hi hz0 m (by omega) (by rw [hz1]; decide) (by omega) (by rw [hz2]; omega)
  have hC1 := grownCap_ge w m 0 42
  have hC2 := grownCap_le_maxLen w m 0 42 (by unfold maxLen; omega)
  obtain ⟨C, hC⟩ : ∃ C, C = grownCap w m 0 42 := ⟨_, rfl⟩
  rw [← hC] at happ hC1 hC2
  obtain ⟨Z, hZ⟩ : ∃ Z, Z = Builtin.zeroCells ((.agg #[.int .i64 0, .int .i64 0, .int .i64 0, .int .i64 0]) : Value).cells m ++ Builtin.zeroCells ((.agg #[.int .i64 0, .int .i64 0, .int .i64 0, .int .i64 0]) : Value).cells (C - m) := ⟨_, rfl⟩
  rw [← hZ] at happ
  have hZs : Z.size = C * 4 := by
    rw [hZ, Array.size_append, size_zeroCells, size_zeroCells, ← Nat.add_mul, show m + (C - m) = C by omega]
    rfl
  have hown := World.ownsRow_made (w := w.drew) (base := w.heap.size) (e := 42) (size := 4) Z C (Nat.le_refl _) hC2 hZs
  have HO := Lib.hid hown
  have HA := Lib.hid happ
  clear happ hown hZ hZs hC
  unfold maxLen at hC2
  go_enter Try.func101, Try.ntmps101
  go_wp2_with (at_builtin; refine Lib.wpList_append_run _ rfl _ _ _ _ rfl _ _ rfl rfl _ _ (HA.out _) ?_)
  go_ret
  exact ⟨_, C, rfl, HO.out, (Below.refl _ _).drew.alloc (Nat.le_refl _) _⟩

theorem link_one {w : World} {b : Nat} {u v lo hi : Int} {t : TypeId} (h : w.heap[b]? = some (.cells #[.int .i64 u, .int .i64 v, .int .i64 lo, .int .i64 hi] t (0, 0))) : LinkAt w (some ⟨b, 0, none⟩) [⟨u, v, lo, hi⟩] := by
  intro _
  refine ⟨b, 0, rfl, (Array.getElem?_eq_some_iff.1 h).1, fun j hj => ?_⟩
  have hj0 : j = 0 := by simpa using hj
  subst hj0
  refine ⟨?_, ?_, ?_, ?_⟩ <;> (rw [cell_of_row w b _ _ t (0, 0) h]; rfl)

/-- The state ahead of each round of Concat's second loop. -/
def CcR (w : World) (es : List GL) (x : GL) (k : Nat) (ii ou : Value) (wr : World) : Prop :=
  ∃ (j : Nat) (L : List GL) (A3 : Option Addr) (d3 : Nat), ii = .int .i64 (j : Int) ∧ ou = .slice A3 L.length d3 ∧ (j = 0 ∧ L = [] ∨ j = 1 ∧ L = es ∨ j = 2 ∧ L = es ++ [x]) ∧ wr.ownsRow w.heap.size 42 4 (.slice A3 L.length d3) L.length (cellsL L) ∧ Below w.heap.size w wr

set_option maxRecDepth 100000 in
set_option maxHeartbeats 8000000 in
theorem concat_two (b b2 : Nat) (n : Int) (es : List GL) (A : Option Addr) (k c : Nat) (u v lo hi : Int) (t1 t2 : TypeId) (w : World) (hn : es.length = k) (hm : k ≤ 1048576) (hr : LinkAt w A es)
    (hb : w.heap[b]? = some (.cells #[.slice A k c, .slice (some ⟨b2, 0, none⟩) 1 1] t1 (0, 0))) (hb2 : w.heap[b2]? = some (.cells #[.int .i64 u, .int .i64 v, .int .i64 lo, .int .i64 hi] t2 (0, 0))) :
    Calls Try.prog 69 #[.slice (some ⟨b, 0, none⟩) 2 2] w fun e w' => ∃ B cb, e = .returned (.slice B (k + 1) cb) ∧ w'.ownsRow w.heap.size 42 4 (.slice B (k + 1) cb) (k + 1) (cellsL (es ++ [⟨u, v, lo, hi⟩])) ∧ Below w.heap.size w w' := by
  obtain ⟨i0, hi0, hz0, hz1, hz2⟩ := info_parts Try.info42
  have hlb : b < w.heap.size := (Array.getElem?_eq_some_iff.1 hb).1
  have k0 : w.cell? ⟨b, 0, none⟩ = some (.slice A k c) := by rw [cell_of_row w b _ _ t1 (0, 0) hb]; rfl
  have k1 : w.cell? ⟨b, 1, none⟩ = some (.slice (some ⟨b2, 0, none⟩) 1 1) := by rw [cell_of_row w b _ _ t1 (0, 0) hb]; rfl
  have HR := Lib.hid hr
  have HR2 := Lib.hid (link_one hb2)
  have HL := Lib.hid hn
  have HG := Lib.hid (fun W => grow_nil (k + 1) W (by omega) (by omega))
  clear hr hb hb2 hn
  have hk1 : ((k + 1 : Nat) : Int) = (k : Int) + 1 := by omega
  rw [hk1] at HG
  clear hk1
  go_enter Try.func69, Try.ntmps69
  go_wp2_with fail
  go_loopw [11, 3] (fun ii sz wr => wr = w ∧ ((ii = .int .i64 0 ∧ sz = .int .i64 0) ∨ (ii = .int .i64 1 ∧ sz = .int .i64 (k : Int)) ∨ (ii = .int .i64 2 ∧ sz = .int .i64 ((k : Int) + 1)))) (fun ii _ _ => 2 - (intOf ii).toNat)
  case atStart => exact ⟨rfl, .inl ⟨rfl, rfl⟩⟩
  case round =>
    obtain ⟨hw, hcase⟩ := hrel
    obtain rfl : w = wr := hw.symm
    clear hw
    rcases hcase with ⟨rfl, rfl⟩ | ⟨rfl, rfl⟩ | ⟨rfl, rfl⟩
    · have hneg : ¬ ((k : Int) < 0) := by omega
      go_wp2_with fail
      go_roundw
      case rel => exact ⟨by first | rfl | trivial, .inr (.inl ⟨by first | rfl | trivial, by first | rfl | simp⟩)⟩
      case measure => simp [intOf]
    · have hneg : ¬ ((k : Int) + 1 < 0) := by omega
      go_wp2_with fail
      go_roundw
      case rel => exact ⟨by first | rfl | trivial, .inr (.inr ⟨by first | rfl | trivial, by first | rfl | trivial⟩)⟩
      case measure => simp [intOf]
    · go_wp2_with fail
      refine (HG.out _).mono ?_
      rintro e w2 ⟨g, cap, rfl, hown, hb⟩
      have HOW := Lib.hid hown
      have HB := Lib.hid hb
      clear hown hb
      go_wp2_with fail
      go_loopw [27, 6] (fun ii ou wr => CcR w es ⟨u, v, lo, hi⟩ k ii ou wr) (fun ii _ _ => 2 - (intOf ii).toNat)
      case atStart => exact ⟨0, [], _, _, rfl, rfl, .inl ⟨rfl, rfl⟩, HOW.out, HB.out⟩
      case round =>
        obtain ⟨j, L, A3, d3, rfl, rfl, hcase, hown, hbw⟩ := hrel
        have HOW3 := Lib.hid hown
        have BW := Lib.hid hbw
        have q0 := (hbw.cell (p := ⟨b, 0, none⟩) hlb).trans k0
        have q1 := (hbw.cell (p := ⟨b, 1, none⟩) hlb).trans k1
        have hbs := hbw.size
        clear hown hbw HOW
        rcases hcase with ⟨rfl, rfl⟩ | ⟨rfl, rfl⟩ | ⟨rfl, rfl⟩
        · obtain ⟨v', w3, hrun, hown3, hg3, hl3⟩ := run_append_read (P := Try.prog) (w := wr) _ 23 23 42 i0 (.agg #[.int .i64 0, .int .i64 0, .int .i64 0, .int .i64 0]) 4 32 Try.underlying23 hi0 hz0 hz1 hz2 rfl (by decide) _ _ _ HOW3.out A k c (cellsL es) (by rw [cellsL_length, HL.out]) (fun h => link_news (HR.out.below BW.out) (by rw [HL.out]; exact h)) (cellsL_one es) (by unfold maxLen; simp; omega) (by simp; omega) hbs
          have HRUN := Lib.hid hrun
          have B3 := Lib.hid (BW.out.grown hg3 hbs (fun r hr => (HOW3.out.lt r hr).1))
          have hown4 := own_zeroS hown3
          obtain ⟨A4, d4, rfl, _, _⟩ := ownL_form hown4
          have HO4 := Lib.hid hown4
          clear hrun hown3 hg3 hl3 hown4
          go_wp2_with (at_builtin; refine Lib.wpList_append_run _ rfl _ _ _ _ rfl _ _ rfl rfl _ _ HRUN.out ?_)
          go_roundw
          case rel => exact ⟨1, es, A4, d4, rfl, by rw [HL.out], .inr (.inl ⟨rfl, rfl⟩), by rw [HL.out]; exact HO4.out, B3.out⟩
          case measure => simp [intOf]
        · obtain ⟨v', w3, hrun, hown3, hg3, hl3⟩ := run_append_read (P := Try.prog) (w := wr) _ 23 23 42 i0 (.agg #[.int .i64 0, .int .i64 0, .int .i64 0, .int .i64 0]) 4 32 Try.underlying23 hi0 hz0 hz1 hz2 rfl (by decide) _ _ _ HOW3.out (some ⟨b2, 0, none⟩) 1 1 (cellsL [⟨u, v, lo, hi⟩]) (by rw [cellsL_length]; rfl) (fun h => link_news (HR2.out.below BW.out) (by simp)) (cellsL_one _) (by have := HL.out; unfold maxLen; omega) (by have := HL.out; omega) hbs
          have HRUN := Lib.hid hrun
          have B3 := Lib.hid (BW.out.grown hg3 hbs (fun r hr => (HOW3.out.lt r hr).1))
          obtain ⟨A4, d4, rfl, _, _⟩ := ownL_form (by rw [← cellsL_append] at hown3; exact hown3)
          have HO4 := Lib.hid (show w3.ownsRow _ _ 4 _ _ (cellsL (L ++ [⟨u, v, lo, hi⟩])) from by rw [cellsL_append]; exact hown3)
          clear hrun hown3 hg3 hl3
          go_wp2_with (at_builtin; refine Lib.wpList_append_run _ rfl _ _ _ _ rfl _ _ rfl rfl _ _ HRUN.out ?_)
          go_roundw
          case rel => exact ⟨2, L ++ [⟨u, v, lo, hi⟩], A4, d4, rfl, by simp, .inr (.inr ⟨rfl, rfl⟩), by simpa using HO4.out, B3.out⟩
          case measure => simp [intOf]
        · go_wp2_with fail
          go_ret
          have hlen : (es ++ [⟨u, v, lo, hi⟩] : List GL).length = k + 1 := by rw [List.length_append, HL.out]; rfl
          have ho := HOW3.out
          rw [hlen] at ho ⊢
          exact ⟨A3, d3, rfl, ho, BW.out⟩

set_option maxRecDepth 100000 in
set_option maxHeartbeats 2000000 in
theorem simpleOk_more (n : Int) (es : List GL) (A : Option Addr) (k c : Nat) (w : World) (hn : es.length = k) (hm : k ≤ 1048577) (hr : LinkAt w A es) :
    Calls Try.prog 19 #[grV n A k c] w fun e w' => e = .returned (.bool (okS n es)) ∧ Below w.heap.size w w' := by
  by_cases h : k ≤ 1048576
  · exact impl_SimpleOk n es A k c w hn h hr
  · have hk40 : ((40 : Int) < k) := by omega
    have HL := Lib.hid (okS_big n es (by omega))
    clear hr hn
    unfold grV
    by_cases h1 : n < 1
    · go_enter Try.func19, Try.ntmps19
      go_wp2_with fail
      go_ret
      exact ⟨ret_b HL.out.symm, (by repeat (first | exact Below.refl _ _ | refine below_step (by assumption) (by first | omega | (simp; done) | (simp; omega)) ?_ | refine below_drewN ?_ _ | refine Below.drew ?_ | refine Below.setCell ?_ (by first | omega | (simp; done) | (simp; omega)) _ | refine Below.alloc ?_ (by first | omega | (simp; done) | (simp; omega)) _))⟩
    · by_cases h8 : 8 < n
      · go_enter Try.func19, Try.ntmps19
        go_wp2_with fail
        go_ret
        exact ⟨ret_b HL.out.symm, (by repeat (first | exact Below.refl _ _ | refine below_step (by assumption) (by first | omega | (simp; done) | (simp; omega)) ?_ | refine below_drewN ?_ _ | refine Below.drew ?_ | refine Below.setCell ?_ (by first | omega | (simp; done) | (simp; omega)) _ | refine Below.alloc ?_ (by first | omega | (simp; done) | (simp; omega)) _))⟩
      · go_enter Try.func19, Try.ntmps19
        go_wp2_with fail
        go_ret
        exact ⟨ret_b HL.out.symm, (by repeat (first | exact Below.refl _ _ | refine below_step (by assumption) (by first | omega | (simp; done) | (simp; omega)) ?_ | refine below_drewN ?_ _ | refine Below.drew ?_ | refine Below.setCell ?_ (by first | omega | (simp; done) | (simp; omega)) _ | refine Below.alloc ?_ (by first | omega | (simp; done) | (simp; omega)) _))⟩
theorem okS_front {n : Int} {es : List GL} {e : GL} (h : okS n (es ++ [e]) = true) : okS n es = true := by
  have hr := okS_rng h
  rw [List.length_append] at hr
  unfold okS at h ⊢
  rw [Bool.and_eq_true] at h ⊢
  refine ⟨decide_eq_true ⟨hr.1, hr.2.1, by have := hr.2.2; simp at this; omega⟩, ?_⟩
  have h2 := h.2
  rw [List.all_append, Bool.and_eq_true] at h2
  exact h2.1
theorem wlR_back (n : Int) (es : List GL) (e : GL) : wlR n es e = okS n (es ++ [e]) := by
  unfold wlR
  cases h : okS n (es ++ [e]) with
  | true => rw [okS_front h]; rfl
  | false => rw [Bool.and_false]

theorem cutL {p q : Prop} (hp : p) (k : p → q) : q := k hp
/-- What the making of the longer network leaves. -/
def WlCut (w0 : World) (n : Int) (L : List GL) (m : Nat) (p : Value) (wc : World) : Prop :=
  ∃ (B : Nat) (A : Option Addr) (c : Nat), p = .pointer (some ⟨B, 0, none⟩) ∧ w0.heap.size ≤ B ∧ B < wc.heap.size ∧ wc.cell? ⟨B, 0, none⟩ = some (.int .i64 n) ∧ wc.cell? ⟨B, 1, none⟩ = some (.slice A m c) ∧ wc.ownsRow w0.heap.size 42 4 (.slice A m c) m (cellsL L) ∧ Below w0.heap.size w0 wc

set_option maxRecDepth 100000 in
set_option maxHeartbeats 16000000 in
theorem impl_WithLink (n : Int) (es : List GL) (e : GL) (A : Option Addr) (k c : Nat) (w : World) (hn : es.length = k) (hm : k ≤ 1048576) (hr : LinkAt w A es) :
    Calls Try.prog 26 #[grV n A k c, e.val] w fun x w' => WlEnd n es e w x w' := by
  have HS := Lib.hid (fun A2 c2 W h => simpleOk_more n (es ++ [e]) A2 (k + 1) c2 W (by simp [hn]) (by omega) h)
  have HCC := Lib.hid (fun b b2 u v lo hi t1 t2 W h h1 h2 => concat_two b b2 n es A k c u v lo hi t1 t2 W hn hm h h1 h2)
  have HR := Lib.hid hr
  have HL := Lib.hid hn
  clear hr hn
  obtain ⟨o2, ho2⟩ : ∃ b, b = okS n (es ++ [e]) := ⟨_, rfl⟩
  rw [← ho2] at HS
  have HWR := Lib.hid (show wlR n es e = o2 from by rw [wlR_back, ho2])
  clear ho2
  obtain ⟨u, v, lo, hi'⟩ := e
  unfold grV at HS ⊢
  unfold GL.val
  go_enter Try.func26, Try.ntmps26
  go_wp2_with fail
  obtain ⟨w0, hw0⟩ : ∃ W, W = ((w.alloc (.cells #[.int .i64 n, .slice A k c] 25)).alloc (.cells #[.int .i64 u, .int .i64 v, .int .i64 lo, .int .i64 hi'] 42)).alloc (.cells #[.int .i64 0, .slice none 0 0] 25) := ⟨_, rfl⟩
  have c0_w0 : w0.cell? ⟨w.heap.size, 0, none⟩ = some (.int .i64 n) := by rw [hw0]; go_simp
  have c1_w0 : w0.cell? ⟨w.heap.size, 1, none⟩ = some (.slice A k c) := by rw [hw0]; go_simp
  have c2_w0 : w0.cell? ⟨w.heap.size + 1, 0, none⟩ = some (.int .i64 u) := by rw [hw0]; go_simp
  have c3_w0 : w0.cell? ⟨w.heap.size + 1, 1, none⟩ = some (.int .i64 v) := by rw [hw0]; go_simp
  have c4_w0 : w0.cell? ⟨w.heap.size + 1, 2, none⟩ = some (.int .i64 lo) := by rw [hw0]; go_simp
  have c5_w0 : w0.cell? ⟨w.heap.size + 1, 3, none⟩ = some (.int .i64 hi') := by rw [hw0]; go_simp
  have c6_w0 : w0.cell? ⟨w.heap.size + 1 + 1, 0, none⟩ = some (.int .i64 0) := by rw [hw0]; go_simp
  have c7_w0 : w0.cell? ⟨w.heap.size + 1 + 1, 1, none⟩ = some (.slice none 0 0) := by rw [hw0]; go_simp
  have f0_w0 : w0.frozen? ⟨w.heap.size + 1 + 1, 0, none⟩ = false := by rw [hw0]; go_simp
  have f1_w0 : w0.frozen? ⟨w.heap.size + 1 + 1, 1, none⟩ = false := by rw [hw0]; go_simp
  have z0 : w0.heap.size = w.heap.size + 1 + 1 + 1 := by rw [hw0]; simp
  have B_w0 : Below w.heap.size w w0 := by rw [hw0]; exact (by repeat (first | exact Below.refl _ _ | refine below_step (by assumption) (by first | omega | (simp; done) | (simp; omega)) ?_ | refine below_drewN ?_ _ | refine Below.drew ?_ | refine Below.setCell ?_ (by first | omega | (simp; done) | (simp; omega)) _ | refine Below.alloc ?_ (by first | omega | (simp; done) | (simp; omega)) _))
  skip
  rw [← hw0]
  clear hw0
  have HR0 := Lib.hid (HR.out.below B_w0)
  go_cut [6] from 7 to 15 (fun p wc => WlCut w0 n (es ++ [⟨u, v, lo, hi'⟩]) (k + 1) p wc)
  case first =>
    go_region_held3 (fun W => W.cell? ⟨w.heap.size, 0, none⟩ = some (.int .i64 n) ∧ W.cell? ⟨w.heap.size, 1, none⟩ = some (.slice A k c) ∧ W.cell? ⟨w.heap.size + 1, 0, none⟩ = some (.int .i64 u) ∧ W.cell? ⟨w.heap.size + 1, 1, none⟩ = some (.int .i64 v) ∧ W.cell? ⟨w.heap.size + 1, 2, none⟩ = some (.int .i64 lo) ∧ W.cell? ⟨w.heap.size + 1, 3, none⟩ = some (.int .i64 hi')) (first | (go_keep; done) | ((try dsimp only); refine ⟨?_, ?_, ?_, ?_, ?_, ?_⟩ <;> first | assumption | (go_simp; done))) (first | (go_simp; go_at_call 69; refine (HCC.out _ _ _ _ _ _ _ _ _ (LinkAt.below (w := w0) HR0.out (by repeat (first | exact Below.refl _ _ | refine below_step (by assumption) (by first | omega | (simp; done) | (simp; omega)) ?_ | refine below_drewN ?_ _ | refine Below.drew ?_ | refine Below.setCell ?_ (by first | omega | (simp; done) | (simp; omega)) _ | refine Below.alloc ?_ (by first | omega | (simp; done) | (simp; omega)) _))) (by first | exact heap_made _ _ _ (by first | rfl | omega | (simp; done) | (simp; omega)) | exact heap_kept (heap_made _ _ _ (by first | rfl | omega | (simp; done) | (simp; omega))) | exact heap_kept (heap_kept (heap_made _ _ _ (by first | rfl | omega | (simp; done) | (simp; omega))))) (by first | exact heap_made _ _ _ (by first | rfl | omega | (simp; done) | (simp; omega)) | exact heap_kept (heap_made _ _ _ (by first | rfl | omega | (simp; done) | (simp; omega))) | exact heap_kept (heap_kept (heap_made _ _ _ (by first | rfl | omega | (simp; done) | (simp; omega)))))).mono ?_; rintro e w1 ⟨A1, c1, rfl, h1, b1⟩; have c0_w1 : w1.cell? ⟨w.heap.size, 0, none⟩ = some (.int .i64 n) := (b1.cell (p := ⟨w.heap.size, 0, none⟩) (by first | omega | (simp; done) | (simp; omega))).trans (by first | assumption | go_simp); have c1_w1 : w1.cell? ⟨w.heap.size, 1, none⟩ = some (.slice A k c) := (b1.cell (p := ⟨w.heap.size, 1, none⟩) (by first | omega | (simp; done) | (simp; omega))).trans (by first | assumption | go_simp); have c2_w1 : w1.cell? ⟨w.heap.size + 1, 0, none⟩ = some (.int .i64 u) := (b1.cell (p := ⟨w.heap.size + 1, 0, none⟩) (by first | omega | (simp; done) | (simp; omega))).trans (by first | assumption | go_simp); have c3_w1 : w1.cell? ⟨w.heap.size + 1, 1, none⟩ = some (.int .i64 v) := (b1.cell (p := ⟨w.heap.size + 1, 1, none⟩) (by first | omega | (simp; done) | (simp; omega))).trans (by first | assumption | go_simp); have c4_w1 : w1.cell? ⟨w.heap.size + 1, 2, none⟩ = some (.int .i64 lo) := (b1.cell (p := ⟨w.heap.size + 1, 2, none⟩) (by first | omega | (simp; done) | (simp; omega))).trans (by first | assumption | go_simp); have c5_w1 : w1.cell? ⟨w.heap.size + 1, 3, none⟩ = some (.int .i64 hi') := (b1.cell (p := ⟨w.heap.size + 1, 3, none⟩) (by first | omega | (simp; done) | (simp; omega))).trans (by first | assumption | go_simp); (try (refine cutL (p := w1.cell? ⟨w.heap.size + 1 + 1 + 1, 0, none⟩ = some (.int .i64 0)) ?_ ?_; refine (b1.cell (p := ⟨w.heap.size + 1 + 1 + 1, 0, none⟩) ?_).trans ?_; (focus (first | omega | (simp; done) | (simp; omega))); (focus (go_simp; done)); intro g3_0)); (try (refine cutL (p := w1.frozen? ⟨w.heap.size + 1 + 1 + 1, 0, none⟩ = false) ?_ ?_; refine (b1.frozen (p := ⟨w.heap.size + 1 + 1 + 1, 0, none⟩) ?_).trans ?_; (focus (first | omega | (simp; done) | (simp; omega))); (focus (go_simp; done)); intro h3_0)); (try (refine cutL (p := w1.cell? ⟨w.heap.size + 1 + 1 + 1, 1, none⟩ = some (.slice none 0 0)) ?_ ?_; refine (b1.cell (p := ⟨w.heap.size + 1 + 1 + 1, 1, none⟩) ?_).trans ?_; (focus (first | omega | (simp; done) | (simp; omega))); (focus (go_simp; done)); intro g3_1)); (try (refine cutL (p := w1.frozen? ⟨w.heap.size + 1 + 1 + 1, 1, none⟩ = false) ?_ ?_; refine (b1.frozen (p := ⟨w.heap.size + 1 + 1 + 1, 1, none⟩) ?_).trans ?_; (focus (first | omega | (simp; done) | (simp; omega))); (focus (go_simp; done)); intro h3_1)); (try (refine cutL (p := w1.cell? ⟨w.heap.size + 1 + 1 + 1 + 1, 0, none⟩ = some (.int .i64 0)) ?_ ?_; refine (b1.cell (p := ⟨w.heap.size + 1 + 1 + 1 + 1, 0, none⟩) ?_).trans ?_; (focus (first | omega | (simp; done) | (simp; omega))); (focus (go_simp; done)); intro g4_0)); (try (refine cutL (p := w1.frozen? ⟨w.heap.size + 1 + 1 + 1 + 1, 0, none⟩ = false) ?_ ?_; refine (b1.frozen (p := ⟨w.heap.size + 1 + 1 + 1 + 1, 0, none⟩) ?_).trans ?_; (focus (first | omega | (simp; done) | (simp; omega))); (focus (go_simp; done)); intro h4_0)); (try (refine cutL (p := w1.cell? ⟨w.heap.size + 1 + 1 + 1 + 1, 1, none⟩ = some (.slice none 0 0)) ?_ ?_; refine (b1.cell (p := ⟨w.heap.size + 1 + 1 + 1 + 1, 1, none⟩) ?_).trans ?_; (focus (first | omega | (simp; done) | (simp; omega))); (focus (go_simp; done)); intro g4_1)); (try (refine cutL (p := w1.frozen? ⟨w.heap.size + 1 + 1 + 1 + 1, 1, none⟩ = false) ?_ ?_; refine (b1.frozen (p := ⟨w.heap.size + 1 + 1 + 1 + 1, 1, none⟩) ?_).trans ?_; (focus (first | omega | (simp; done) | (simp; omega))); (focus (go_simp; done)); intro h4_1)); (try (refine cutL (p := w1.cell? ⟨w.heap.size + 1 + 1 + 1 + 1 + 1, 0, none⟩ = some (.int .i64 0)) ?_ ?_; refine (b1.cell (p := ⟨w.heap.size + 1 + 1 + 1 + 1 + 1, 0, none⟩) ?_).trans ?_; (focus (first | omega | (simp; done) | (simp; omega))); (focus (go_simp; done)); intro g5_0)); (try (refine cutL (p := w1.frozen? ⟨w.heap.size + 1 + 1 + 1 + 1 + 1, 0, none⟩ = false) ?_ ?_; refine (b1.frozen (p := ⟨w.heap.size + 1 + 1 + 1 + 1 + 1, 0, none⟩) ?_).trans ?_; (focus (first | omega | (simp; done) | (simp; omega))); (focus (go_simp; done)); intro h5_0)); (try (refine cutL (p := w1.cell? ⟨w.heap.size + 1 + 1 + 1 + 1 + 1, 1, none⟩ = some (.slice none 0 0)) ?_ ?_; refine (b1.cell (p := ⟨w.heap.size + 1 + 1 + 1 + 1 + 1, 1, none⟩) ?_).trans ?_; (focus (first | omega | (simp; done) | (simp; omega))); (focus (go_simp; done)); intro g5_1)); (try (refine cutL (p := w1.frozen? ⟨w.heap.size + 1 + 1 + 1 + 1 + 1, 1, none⟩ = false) ?_ ?_; refine (b1.frozen (p := ⟨w.heap.size + 1 + 1 + 1 + 1 + 1, 1, none⟩) ?_).trans ?_; (focus (first | omega | (simp; done) | (simp; omega))); (focus (go_simp; done)); intro h5_1)); have z1 := b1.size; (try simp at z1); have s0 : w.heap.size + 1 + 1 < w1.heap.size := (by omega); have s1 : w.heap.size < w1.heap.size := (by omega); have s2 : w.heap.size + 1 < w1.heap.size := (by omega); have n1 : (w.heap.size = w1.heap.size) = False := eq_false (by omega); have n2 : (w1.heap.size = w.heap.size) = False := eq_false (by omega); have B1 : Below w0.heap.size w0 w1 := (by repeat (first | exact Below.refl _ _ | refine below_step (by assumption) (by first | omega | (simp; done) | (simp; omega)) ?_ | refine below_drewN ?_ _ | refine Below.drew ?_ | refine Below.setCell ?_ (by first | omega | (simp; done) | (simp; omega)) _ | refine Below.alloc ?_ (by first | omega | (simp; done) | (simp; omega)) _)); have HO1 := Lib.hid (own_base (B' := w0.heap.size) h1 (by first | omega | (simp; done) | (simp; omega))); have HH1 := Lib.hid h1; clear h1 b1))
    all_goals go_wp2_with fail
    all_goals (go_meet; refine ⟨_, A1, c1, rfl, ?_, ?_, ?_, ?_, ?_, ?_⟩)
    all_goals (first | omega | (simp; done) | (simp; omega) | (go_simp; done) | exact HO1.out.alloc _ | exact HO1.out | exact own_base (own_set (own_set HH1.out _ _ (by first | omega | (dsimp only; omega) | (simp; done) | (simp; omega))) _ _ (by first | omega | (dsimp only; omega) | (simp; done) | (simp; omega))) (by first | omega | (dsimp only; omega) | (simp; done) | (simp; omega)) | ((repeat (first | exact B1 | refine Below.setCell ?_ (by first | omega | (dsimp only; omega) | (simp; done) | (simp; omega)) _ | refine Below.alloc ?_ (by first | omega | (dsimp only; omega) | (simp; done) | (simp; omega)) _ | refine Below.drew ?_)); done))
  case rest =>
    obtain ⟨w3, hww⟩ : ∃ W, W = wc := ⟨_, rfl⟩
    rw [← hww] at hcut ⊢
    clear hww wc
    obtain ⟨B, A1, c1, rfl, hlo, hhi, e0, e1, oR, bR⟩ := hcut
    have c0_w3 : w3.cell? ⟨w.heap.size + 1 + 1, 0, none⟩ = some (.int .i64 0) := (bR.cell (p := ⟨w.heap.size + 1 + 1, 0, none⟩) (by dsimp only; omega)).trans c6_w0
    have c1_w3 : w3.cell? ⟨w.heap.size + 1 + 1, 1, none⟩ = some (.slice none 0 0) := (bR.cell (p := ⟨w.heap.size + 1 + 1, 1, none⟩) (by dsimp only; omega)).trans c7_w0
    have c2_w3 := e0
    have c3_w3 := e1
    have f0_w3 : w3.frozen? ⟨w.heap.size + 1 + 1, 0, none⟩ = false := (bR.frozen (p := ⟨w.heap.size + 1 + 1, 0, none⟩) (by dsimp only; omega)).trans f0_w0
    have f1_w3 : w3.frozen? ⟨w.heap.size + 1 + 1, 1, none⟩ = false := (bR.frozen (p := ⟨w.heap.size + 1 + 1, 1, none⟩) (by dsimp only; omega)).trans f1_w0
    have s0_w3 : w.heap.size + 1 + 1 < w3.heap.size := by have := bR.size; omega
    have s1_w3 := hhi
    have B_w3 : Below w.heap.size w w3 := B_w0.trans (bR.mono (by omega))
    have LB : Hid (w.heap.size + 1 + 1 < B) := Lib.hid (by omega)
    have OR := Lib.hid oR
    have LO : Hid (w.heap.size + 1 + 1 < w0.heap.size) := Lib.hid (by omega)
    have m1 : (w.heap.size + 1 + 1 = B) = False := eq_false (by omega)
    have m2 : (B = w.heap.size + 1 + 1) = False := eq_false (by omega)
    clear bR e0 e1 hhi hlo oR c0_w0 c1_w0 c2_w0 c3_w0 c4_w0 c5_w0 c6_w0 c7_w0 f0_w0 f1_w0 z0
    go_wp2_with fail
    refine (HS.out A1 c1 _ (own_link OR.out)).mono ?_
    rintro e w4 ⟨rfl, b4⟩
    have OR4 := Lib.hid (own_below OR.out b4)
    have c0_w4 : w4.cell? ⟨w.heap.size + 1 + 1, 0, none⟩ = some (.int .i64 0) := (b4.cell (p := ⟨w.heap.size + 1 + 1, 0, none⟩) (by first | omega | (simp; done) | (simp; omega))).trans (by first | assumption | go_simp)
    have c1_w4 : w4.cell? ⟨w.heap.size + 1 + 1, 1, none⟩ = some (.slice none 0 0) := (b4.cell (p := ⟨w.heap.size + 1 + 1, 1, none⟩) (by first | omega | (simp; done) | (simp; omega))).trans (by first | assumption | go_simp)
    have c2_w4 : w4.cell? ⟨B, 0, none⟩ = some (.int .i64 n) := (b4.cell (p := ⟨B, 0, none⟩) (by first | omega | (simp; done) | (simp; omega))).trans (by first | assumption | go_simp)
    have c3_w4 : w4.cell? ⟨B, 1, none⟩ = some (.slice A1 (k + 1) c1) := (b4.cell (p := ⟨B, 1, none⟩) (by first | omega | (simp; done) | (simp; omega))).trans (by first | assumption | go_simp)
    have f0_w4 : w4.frozen? ⟨w.heap.size + 1 + 1, 0, none⟩ = false := (b4.frozen (p := ⟨w.heap.size + 1 + 1, 0, none⟩) (by first | omega | (simp; done) | (simp; omega))).trans (by first | assumption | go_simp)
    have f1_w4 : w4.frozen? ⟨w.heap.size + 1 + 1, 1, none⟩ = false := (b4.frozen (p := ⟨w.heap.size + 1 + 1, 1, none⟩) (by first | omega | (simp; done) | (simp; omega))).trans (by first | assumption | go_simp)
    have s0_w4 : w.heap.size + 1 + 1 < w4.heap.size := Nat.lt_of_lt_of_le (by first | omega | (simp; done) | (simp; omega)) b4.size
    have s1_w4 : B < w4.heap.size := Nat.lt_of_lt_of_le (by first | omega | (simp; done) | (simp; omega)) b4.size
    have B_w4 : Below w.heap.size w w4 := (by repeat (first | exact Below.refl _ _ | refine below_step (by assumption) (by first | omega | (simp; done) | (simp; omega)) ?_ | refine below_drewN ?_ _ | refine Below.drew ?_ | refine Below.setCell ?_ (by first | omega | (simp; done) | (simp; omega)) _ | refine Below.alloc ?_ (by first | omega | (simp; done) | (simp; omega)) _))
    clear b4 c0_w3 c1_w3 c2_w3 c3_w3 f0_w3 f1_w3 s0_w3 s1_w3 B_w3
    cases o2 with
    | false =>
      go_wp2_with fail
      refine bodyPost_ret (v := .tuple #[.agg #[.int .i64 0, .slice none 0 0], .bool false]) (by first | (simp [results, Try.results26, go_sem, c0_w4, c1_w4, f0_w4, f1_w4]; done) | simp [*, results, Try.results26, go_sem]) rfl (WlEnd.no HWR.out (by refine Below.setCell (Below.setCell ?_ (by first | omega | (simp; done) | (simp; omega)) _) (by first | omega | (simp; done) | (simp; omega)) _; exact B_w4))
    | true =>
      go_wp2_with fail
      refine bodyPost_ret (v := .tuple #[.agg #[.int .i64 n, .slice A1 (k + 1) c1], .bool true]) (by first | (simp [results, Try.results26, go_sem, c0_w4, c1_w4, f0_w4, f1_w4]; done) | simp [*, results, Try.results26, go_sem]) rfl ?_
      have h1 : wlN n es ⟨u, v, lo, hi'⟩ = n := by unfold wlN; rw [if_pos HWR.out]
      have h2 : wlE n es ⟨u, v, lo, hi'⟩ = es ++ [⟨u, v, lo, hi'⟩] := by unfold wlE; rw [if_pos HWR.out]
      refine ⟨A1, k + 1, c1, by rw [h1, HWR.out]; rfl, by rw [h2, List.length_append, HL.out]; rfl, ?_, by refine Below.setCell (Below.setCell ?_ (by first | omega | (simp; done) | (simp; omega)) _) (by first | omega | (simp; done) | (simp; omega)) _; exact B_w4⟩
      rw [h2]
      exact own_base (own_set (own_set OR4.out _ _ (by have := LO.out; dsimp only; omega)) _ _ (by have := LO.out; dsimp only; omega)) (by have := LO.out; omega)

end Go.Proofs.Ytnhdfnfiicioiaa

