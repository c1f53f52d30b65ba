/-
  PLAIN: the graph of a network, its consistency, its conflict, its windows, its times.
  WALK of spec.NegativeCycle.
  WALKS of spec.GraphOf and spec.IsConsistent.
-/
import Derived.Test.YtnhdfnfiicioiaaBdSmO
import Derived.Test.YtnhdfnfiicioiaaBdTgC
import Derived.Test.YtnhdfnfiicioiaaTbE
import Derived.Test.YtnhdfnfiicioiaaMathF
import Derived.Test.YtnhdfnfiicioiaaBdGrY
import Derived.Deep.Cut
namespace Go.Proofs.Ytnhdfnfiicioiaa
open Go.RowKit
set_option linter.unusedVariables false
set_option linter.unusedSimpArgs false

theorem RowAt.of_eq {w : World} {A : Option Addr} {xs ys : List Value} (h : RowAt w A xs) (e : xs = ys) : RowAt w A ys := e ▸ h
theorem own_edgeS {W : World} {B t k c : Nat} {A : Option Addr} {es : List GE} (h : W.ownsRow B t 3 (.slice A k c) k (cellsE es)) : EdgeAt W A es := by
  obtain ⟨_, _, hv, _, hE⟩ := ownE_form h
  injection hv with hv
  rw [hv]; exact hE
def grN (n : Int) (es : List GL) : Int := if okS n es then n else 0
def grE (n : Int) (es : List GL) : List GE := if okS n es then gE es else []
theorem grN_yes {n : Int} {es : List GL} (h : okS n es = true) : grN n es = n := by unfold grN; rw [if_pos h]
theorem grE_yes {n : Int} {es : List GL} (h : okS n es = true) : grE n es = gE es := by unfold grE; rw [if_pos h]
theorem grN_no {n : Int} {es : List GL} (h : okS n es = false) : grN n es = 0 := by unfold grN; rw [if_neg (by simp [h])]
theorem grE_no {n : Int} {es : List GL} (h : okS n es = false) : grE n es = [] := by unfold grE; rw [if_neg (by simp [h])]
theorem gE_len80 {n : Int} {es : List GL} (h : okS n es = true) : (gE es).length ≤ 80 ∧ (gI es).length = (gE es).length := by
  have h1 := okS_rng h
  have h2 := gE_length es es.length (Nat.le_refl _)
  rw [List.take_of_length_le (Nat.le_refl _)] at h2
  unfold gI
  omega
theorem grE_len (n : Int) (es : List GL) : (grE n es).length ≤ 80 := by
  unfold grE
  split
  · next h => exact (gE_len80 h).1
  · simp
/-- There is a schedule. -/
def consR (n : Int) (es : List GL) : Bool := okS n es && decide ((cycR n (gE es)).length = 0)
def confR (n : Int) (es : List GL) : List Int := if okS n es then (cycR n (gE es)).map (fun q => (gI es)[q.toNat]?.getD 0) else []
theorem confR_len (n : Int) (es : List GL) : (confR n es).length ≤ 8 := by
  unfold confR
  split
  · rw [List.length_map]; exact cycR_len _ _
  · simp
theorem okS_okG {n : Int} {es : List GL} (h : okS n es = true) : okG n (gE es) = true := by
  have h1 := okS_rng h
  have h2 := (gE_len80 h).1
  unfold okG
  rw [decide_eq_true ⟨by omega, h1.2.1, h2⟩, Bool.true_and, List.all_eq_true]
  intro x hx
  unfold gE at hx
  rw [List.mem_flatMap] at hx
  obtain ⟨e, he, hxe⟩ := hx
  obtain ⟨f1, f2, f3⟩ := okS_link h he
  have f4 := okI_of f3
  unfold lkE lkH lkL at hxe
  rw [List.mem_append] at hxe
  unfold okE
  rw [Bool.and_eq_true, Bool.and_eq_true]
  rcases hxe with hxe | hxe
  · split at hxe
    · simp at hxe
    · simp at hxe; subst hxe
      exact ⟨⟨decide_eq_true f1, decide_eq_true f2⟩, decide_eq_true ⟨by dsimp only; omega, by dsimp only; omega⟩⟩
  · split at hxe
    · simp at hxe
    · simp at hxe; subst hxe
      exact ⟨⟨decide_eq_true f2, decide_eq_true f1⟩, decide_eq_true ⟨by dsimp only; omega, by dsimp only; omega⟩⟩
theorem closedTo_in {es : List GE} {zs : List Int} : ∀ {m j : Nat}, closedTo es zs m = true → j < m → (hj : j < zs.length) → 0 ≤ zs[j] ∧ zs[j] < es.length
  | 0, j, _, h, _ => by omega
  | m + 1, j, h, hm, hj => by
    unfold closedTo at h
    rw [Bool.and_eq_true] at h
    by_cases e : j = m
    · subst e
      have h2 := h.2
      unfold linkE at h2
      rw [List.getElem?_eq_getElem hj] at h2
      split at h2
      · next z b hz hb =>
        injection hz with hz
        subst hz
        rw [Bool.and_eq_true, Bool.and_eq_true] at h2
        exact of_decide_eq_true h2.1.1
      · simp at h2
    · exact closedTo_in h.1 (by omega) hj
/-- Each index of the reported cycle is an edge's. -/
theorem cycR_in {n : Int} {es : List GL} (h : okS n es = true) {q : Int} (hq : q ∈ cycR n (gE es)) : 0 ≤ q ∧ q < (gE es).length := by
  have hg := okS_okG h
  have h1 := okS_rng h
  obtain ⟨N, rfl⟩ : ∃ N : Nat, n = N := ⟨n.toNat, by omega⟩
  by_cases hc : (endC N (gE es)).2 = -1
  · rw [cycR_nil hc] at hq; simp at hq
  · have hn := cyc_isneg hg hc
    unfold negC at hn
    simp only [Bool.and_eq_true] at hn
    have hcl := hn.1.2
    obtain ⟨j, hj, rfl⟩ := List.getElem_of_mem hq
    exact closedTo_in hcl hj hj
def wTab (n : Int) (es : List GL) : List Int := (closeR n (gE es)).2.1
def wB (n : Int) (es : List GL) (v : Int) : Bool := consR n es && winB (closeR n (gE es)).1 (wTab n es) 0 v
def wL (n : Int) (es : List GL) (v : Int) : Int := if wB n es v then winL (closeR n (gE es)).1 (wTab n es) 0 v else 0
def wH (n : Int) (es : List GL) (v : Int) : Int := if wB n es v then winH (closeR n (gE es)).1 (wTab n es) 0 v else 0
def wV (n : Int) (es : List GL) (v : Int) : Value := .tuple #[ivV (wL n es v) (wH n es v), .bool (wB n es v)]

end Go.Proofs.Ytnhdfnfiicioiaa

namespace Go.Proofs.Ytnhdfnfiicioiaa
open Go.RowKit
set_option linter.unusedVariables false
set_option linter.unusedSimpArgs false

def mixV (a b : Value) (i : Nat) : Nat → Value := fun t => if t < i then a else b
theorem mixV_zero (a b : Value) : mixV a b 0 = fun _ => b := by funext t; simp [mixV]
theorem mixV_set (a b : Value) (i : Nat) : upf (mixV a b i) i a = mixV a b (i + 1) := by
  funext t; unfold upf mixV
  by_cases e : t = i
  · subst e; rw [if_pos rfl, if_pos (by omega)]
  · rw [if_neg e]
    by_cases l : t < i
    · rw [if_pos l, if_pos (by omega)]
    · rw [if_neg l, if_neg (by omega)]

/-- An empty slice literal is the call's own. -/
theorem owns_zero (w : World) (t : TypeId) : (w.alloc (.cells #[] t)).ownsRow w.heap.size t 1 (.slice (some ⟨w.heap.size, 0, none⟩) 0 0) 0 [] :=
  ⟨rfl, .inr ⟨w.heap.size, 0, #[], rfl, Nat.le_refl _, World.alloc_heap_new w _, Nat.le_refl _, Nat.zero_le _, rfl, rfl⟩⟩

set_option maxRecDepth 100000 in
set_option maxHeartbeats 8000000 in
theorem spec_NegativeCycle (n : Int) (es : List GE) (A : Option Addr) (k c : Nat) (w : World) (hn : es.length = k) (hk : k ≤ 1048576) (hr : EdgeAt w A es) :
    Calls Try.prog 80 #[grV n A k c] w fun e w' =>
      ∃ B m cb, e = .returned (.slice B m cb) ∧ m = (cycR n es).length ∧ RowAt w' B ((cycR n es).map intV) ∧ Below w.heap.size w w' := by
  have hg := fun W h => spec_GraphOk n es A k c W hn hk h
  have HR := Lib.hid hr
  have HL := Lib.hid hn
  clear hr hn
  obtain ⟨ok, hok⟩ : ∃ b, b = okG n es := ⟨_, rfl⟩
  rw [← hok] at hg
  have HG := Lib.hid hg
  have HO := Lib.hid hok
  clear hok hg
  cases ok with
  | false =>
    unfold grV at HG ⊢
    go_enter Try.func80, Try.ntmps80
    go_wp2_with fail
    refine (HG.out _ (HR.out.below (by repeat (first | exact Below.refl _ _ | refine below_step (by assumption) (by first | omega | (simp; done) | (simp; omega)) ?_ | refine below_drewN ?_ _ | refine Below.drew ?_ | refine Below.setCell ?_ (by first | omega | (simp; done) | (simp; omega)) _ | refine Below.alloc ?_ (by first | omega | (simp; done) | (simp; omega)) _)))).mono ?_
    rintro e w1 ⟨rfl, b1⟩
    go_wp2_with fail
    go_ret
    have h := cycR_no (n := n) (es := es) HO.out.symm
    exact ⟨none, 0, 0, rfl, by rw [h]; rfl, by rw [h]; exact fun hx => by simp at hx, (by repeat (first | exact Below.refl _ _ | refine below_step (by assumption) (by first | omega | (simp; done) | (simp; omega)) ?_ | refine below_drewN ?_ _ | refine Below.drew ?_ | refine Below.setCell ?_ (by first | omega | (simp; done) | (simp; omega)) _ | refine Below.alloc ?_ (by first | omega | (simp; done) | (simp; omega)) _))⟩
  | true =>
    have hrng := okG_rng HO.out.symm
    obtain ⟨N, rfl⟩ : ∃ N : Nat, n = N := ⟨n.toNat, by omega⟩
    have hN8 : N ≤ 8 := by omega
    have hk80 : k ≤ 80 := by have := HL.out; omega
    clear hrng
    by_cases hz : N = 0
    · have hzb : ((N : Int) == 0) = true := by simp [hz]
      have HZ := Lib.hid hz
      clear hz
      unfold grV at HG ⊢
      go_enter Try.func80, Try.ntmps80
      go_wp2_with fail
      refine (HG.out _ (HR.out.below (by repeat (first | exact Below.refl _ _ | refine below_step (by assumption) (by first | omega | (simp; done) | (simp; omega)) ?_ | refine below_drewN ?_ _ | refine Below.drew ?_ | refine Below.setCell ?_ (by first | omega | (simp; done) | (simp; omega)) _ | refine Below.alloc ?_ (by first | omega | (simp; done) | (simp; omega)) _)))).mono ?_
      rintro e w1 ⟨rfl, b1⟩
      have ka1 : w1.cell? ⟨w.heap.size, 0, none⟩ = some (.int .i64 (N : Int)) := (b1.cell (p := ⟨w.heap.size, 0, none⟩) (by first | omega | (simp; done) | (simp; omega))).trans (by first | assumption | go_simp)
      have B1 : Below w.heap.size w w1 := (by repeat (first | exact Below.refl _ _ | refine below_step (by assumption) (by first | omega | (simp; done) | (simp; omega)) ?_ | refine below_drewN ?_ _ | refine Below.drew ?_ | refine Below.setCell ?_ (by first | omega | (simp; done) | (simp; omega)) _ | refine Below.alloc ?_ (by first | omega | (simp; done) | (simp; omega)) _))
      clear b1
      go_wp2_with fail
      go_ret
      have h := cycR_nil (N := N) (es := es) (by rw [HZ.out]; rfl)
      exact ⟨none, 0, 0, rfl, by rw [h]; rfl, by rw [h]; exact fun hx => by simp at hx, B1⟩
    have hzb : ((N : Int) == 0) = false := by simp [hz]
    have hN0 : 0 < N := by omega
    clear hz
    obtain ⟨i0, hi, hz0, hz1, hz2⟩ := info_parts Try.info3
    obtain ⟨j0, hj, hj0, hj1, hj2⟩ := info_parts Try.info4
    have hb2 : i0.bytes * N ≤ 281474976710656 := by rw [hz2]; omega
    have hb3 : j0.bytes * N ≤ 281474976710656 := by rw [hj2]; omega
    unfold grV at HG ⊢
    go_enter Try.func80, Try.ntmps80
    go_wp2_with fail
    refine (HG.out _ (HR.out.below (by repeat (first | exact Below.refl _ _ | refine below_step (by assumption) (by first | omega | (simp; done) | (simp; omega)) ?_ | refine below_drewN ?_ _ | refine Below.drew ?_ | refine Below.setCell ?_ (by first | omega | (simp; done) | (simp; omega)) _ | refine Below.alloc ?_ (by first | omega | (simp; done) | (simp; omega)) _)))).mono ?_
    rintro e w1 ⟨rfl, b1⟩
    have ka1 : w1.cell? ⟨w.heap.size, 0, none⟩ = some (.int .i64 (N : Int)) := (b1.cell (p := ⟨w.heap.size, 0, none⟩) (by first | omega | (simp; done) | (simp; omega))).trans (by first | assumption | go_simp)
    have kb1 : w1.cell? ⟨w.heap.size, 1, none⟩ = some (.slice A k c) := (b1.cell (p := ⟨w.heap.size, 1, none⟩) (by first | omega | (simp; done) | (simp; omega))).trans (by first | assumption | go_simp)
    have sz1 : w.heap.size < w1.heap.size := Nat.lt_of_lt_of_le (by first | omega | (simp; done) | (simp; omega)) b1.size
    have B1 : Below w.heap.size w w1 := (by repeat (first | exact Below.refl _ _ | refine below_step (by assumption) (by first | omega | (simp; done) | (simp; omega)) ?_ | refine below_drewN ?_ _ | refine Below.drew ?_ | refine Below.setCell ?_ (by first | omega | (simp; done) | (simp; omega)) _ | refine Below.alloc ?_ (by first | omega | (simp; done) | (simp; omega)) _))
    clear b1
    go_wp2_with (at_make; refine wpList_make_full _ rfl _ _ 28 rfl w1.heap.size 3 i0 (.int .i64 0) 1 Try.underlying28 hi hz0 hz1 .i64 .i64 _ _ N rfl rfl rfl rfl hb2 (by unfold maxLen; omega) (Nat.le_refl _) ?_)
    intro w2 h2 g2
    have b2 : Below w1.heap.size w1 w2 := (Below.refl _ w1).grown g2 (Nat.le_refl _) (fun k hk => by cases hk)
    have hl2 := (h2.lt _ rfl).2
    have ka2 := (b2.cell (p := ⟨w.heap.size, 0, none⟩) (by dsimp only; omega)).trans ka1
    have kb2 := (b2.cell (p := ⟨w.heap.size, 1, none⟩) (by dsimp only; omega)).trans kb1
    have B2 : Below w.heap.size w w2 := B1.trans (b2.mono (by omega))
    have R2 : RowF w2 w1.heap.size 0 N (fun _ => .int .i64 0) := row_made (by rw [toList_madeCells_one] at h2; exact h2) hl2
    clear g2 h2 b2
    go_wp2_with (at_make; refine wpList_make_full _ rfl _ _ 28 rfl w2.heap.size 3 i0 (.int .i64 0) 1 Try.underlying28 hi hz0 hz1 .i64 .i64 _ _ N rfl rfl rfl rfl hb2 (by unfold maxLen; omega) (Nat.le_refl _) ?_)
    intro w3 h3 g3
    have b3 : Below w2.heap.size w2 w3 := (Below.refl _ w2).grown g3 (Nat.le_refl _) (fun k hk => by cases hk)
    have hl3 := (h3.lt _ rfl).2
    have ka3 := (b3.cell (p := ⟨w.heap.size, 0, none⟩) (by dsimp only; omega)).trans ka2
    have kb3 := (b3.cell (p := ⟨w.heap.size, 1, none⟩) (by dsimp only; omega)).trans kb2
    have B3 : Below w.heap.size w w3 := B2.trans (b3.mono (by omega))
    have R3 := R2.below b3 hl2
    have S3 : RowF w3 w2.heap.size 0 N (fun _ => .int .i64 0) := row_made (by rw [toList_madeCells_one] at h3; exact h3) hl3
    clear g3 h3 b3 R2
    go_wp2_with (at_make; refine wpList_make_full _ rfl _ _ 125 rfl w3.heap.size 4 j0 (.bool false) 1 Try.underlying125 hj hj0 hj1 .i64 .i64 _ _ N rfl rfl rfl rfl hb3 (by unfold maxLen; omega) (Nat.le_refl _) ?_)
    intro w4 h4 g4
    have b4 : Below w3.heap.size w3 w4 := (Below.refl _ w3).grown g4 (Nat.le_refl _) (fun k hk => by cases hk)
    have hl4 := (h4.lt _ rfl).2
    have ka4 := (b4.cell (p := ⟨w.heap.size, 0, none⟩) (by dsimp only; omega)).trans ka3
    have kb4 := (b4.cell (p := ⟨w.heap.size, 1, none⟩) (by dsimp only; omega)).trans kb3
    have B4 : Below w.heap.size w w4 := B3.trans (b4.mono (by omega))
    have R4 := R3.below b4 (by omega)
    have S4 := S3.below b4 hl3
    have T4 : RowF w4 w3.heap.size 0 N (fun _ => .bool false) := row_made (by rw [toList_madeCells_one] at h4; exact h4) hl4
    clear g4 h4 b4 R3 S3 ka1 kb1 ka2 kb2 ka3 kb3
    obtain ⟨gd, hgd⟩ : ∃ g, g = w1.heap.size := ⟨_, rfl⟩
    obtain ⟨gl, hgl⟩ : ∃ g, g = w2.heap.size := ⟨_, rfl⟩
    obtain ⟨gk, hgk⟩ : ∃ g, g = w3.heap.size := ⟨_, rfl⟩
    rw [← hgd] at R4 hl2 sz1 ⊢
    rw [← hgl] at S4 hl2 hl3 ⊢
    rw [← hgk] at T4 hl3 hl4 ⊢
    clear hgd hgl hgk B1 B2 B3
    have hgw : w.heap.size < gd := sz1
    have HR4 := Lib.hid R4
    have hS0 : RowF w4 gl 0 N (mixV (.int .i64 (-1)) (.int .i64 0) 0) := by rw [mixV_zero]; exact S4
    have hT0 : RowF w4 gk 0 N (mixV (.bool true) (.bool false) 0) := by rw [mixV_zero]; exact T4
    have HS0 := Lib.hid hS0
    have HT0 := Lib.hid hT0
    clear R4 S4 T4 hS0 hT0
    go_wp2_with fail
    -- known and last are set
    go_loopw [32] (fun i wr => ∃ q : Nat, q ≤ N ∧ i = .int .i64 q ∧ RowF wr gd 0 N (fun _ => .int .i64 0) ∧ RowF wr gl 0 N (mixV (.int .i64 (-1)) (.int .i64 0) q) ∧ RowF wr gk 0 N (mixV (.bool true) (.bool false) q) ∧ Below gd w4 wr) (fun i _ => N - (intOf i).toNat)
    case atStart => exact ⟨0, Nat.zero_le _, rfl, HR4.out, HS0.out, HT0.out, Below.refl _ _⟩
    case round =>
      obtain ⟨q, hq, rfl, hD, hLr, hK, hbw⟩ := hrel
      by_cases hlt : q < N
      · have f1 : wr.cell? ⟨gk, q, none⟩ = some (.bool false) := by simpa [mixV] using hK.cell q hlt
        have f2 : wr.cell? ⟨gl, q, none⟩ = some (.int .i64 0) := by simpa [mixV] using hLr.cell q hlt
        have r1 : wr.frozen? ⟨gk, q, none⟩ = false := by simpa using hK.free q hlt
        have r2 : wr.frozen? ⟨gl, q, none⟩ = false := by simpa using hLr.free q hlt
        have n3 : (gl = gk) = False := eq_false (by omega)
        have n4 : (gk = gl) = False := eq_false (by omega)
        have HD := Lib.hid hD
        have HLr := Lib.hid hLr
        have HK := Lib.hid hK
        clear hD hLr hK
        go_wp2_with fail
        go_roundw
        case rel => exact ⟨q + 1, by omega, by go_num, (HD.out.other (by dsimp only; omega) _).other (by dsimp only; omega) _, by rw [← mixV_set]; exact (HLr.out.other (by dsimp only; omega) _).store (by omega) hlt _, by rw [← mixV_set]; exact (HK.out.store (by omega) hlt _).other (by dsimp only; omega) _, (hbw.setCell (by dsimp only; omega) _).setCell (by dsimp only; omega) _⟩
        case measure => simp [intOf]; omega
      · have : q = N := by omega
        subst this
        obtain ⟨w5, rfl⟩ : ∃ w5 : World, w5 = wr := ⟨_, rfl⟩
        have hS : SpAt w5 gd gl gk q (s0C q (-1)) := ⟨hD.congr (fun j hj => rfl), hLr.congr (fun j hj => by simp [mixV, hj, fI, s0C]), hK.congr (fun j hj => by simp [mixV, hj, fB, s0C])⟩
        have HS := Lib.hid hS
        have ka5 := (hbw.cell (p := ⟨w.heap.size, 0, none⟩) hgw).trans ka4
        have kb5 := (hbw.cell (p := ⟨w.heap.size, 1, none⟩) hgw).trans kb4
        have hB5 : Below w.heap.size w w5 := B4.trans (hbw.mono (by omega))
        clear hD hLr hK hS hbw hlt
        go_wp2_with fail
        -- the rounds
        go_loopw [7, 8] (fun ch i wr => ∃ r : Nat, r ≤ q ∧ i = .int .i64 r ∧ ch = .int .i64 (roundsE es (s0C q (-1)) r).2 ∧ SpAt wr gd gl gk q (roundsE es (s0C q (-1)) r).1 ∧ Below gd w5 wr) (fun _ i _ => q - (intOf i).toNat)
        case atStart => exact ⟨0, Nat.zero_le _, rfl, rfl, HS.out, Below.refl _ _⟩
        case round =>
          obtain ⟨r, hr, rfl, rfl, hsp, hbw⟩ := hrel
          have kar := (hbw.cell (p := ⟨w.heap.size, 0, none⟩) hgw).trans ka5
          have kbr := (hbw.cell (p := ⟨w.heap.size, 1, none⟩) hgw).trans kb5
          by_cases hlt : r < q
          · obtain ⟨sq, hsq⟩ : ∃ s, s = (roundsE es (s0C q (-1)) r).1 := ⟨_, rfl⟩
            have hnx : roundsE es (s0C q (-1)) (r + 1) = passTo es sq es.length := by rw [hsq]; rfl
            rw [HL.out] at hnx
            rw [← hsq] at hsp
            have hBr : Below w.heap.size w wr := hB5.trans (hbw.mono (by omega))
            have hcl := l03Round_any q es A k c gd gl gk q q q sq w wr HL.out HO.out.symm HR.out hBr (by omega) hsp (by omega) (by omega)
            unfold grV at hcl
            have HNX := Lib.hid hnx
            have HCL := Lib.hid hcl
            clear hsp hsq hnx hcl
            go_wp2_with (go_at_call 105; refine HCL.out.mono ?_; rintro e w6 ⟨rfl, hs6, hb6⟩)
            go_roundw
            case rel => exact ⟨r + 1, by omega, by go_num, by rw [HNX.out], by rw [HNX.out]; exact hs6, hbw.trans hb6⟩
            case measure => simp [intOf]; omega
          · have : r = q := by omega
            subst this
            obtain ⟨w6, rfl⟩ : ∃ w6 : World, w6 = wr := ⟨_, rfl⟩
            have hB6 : Below w.heap.size w w6 := hB5.trans (hbw.mono (by omega))
            have hsp2 : SpAt w6 gd gl gk r (endC r es).1 := hsp
            obtain ⟨ch, hch⟩ : ∃ ch, ch = (roundsE es (s0C r (-1)) r).2 := ⟨_, rfl⟩
            rw [← hch]
            have hch2 : (endC r es).2 = ch := hch.symm
            have HSP := Lib.hid hsp2
            have HCH := Lib.hid hch2
            clear hsp hsp2 hch hch2 hbw hlt
            by_cases h1 : ch = -1
            · have hneg : ch < 0 := by omega
              have H1 := Lib.hid h1
              clear h1
              go_wp2_with fail
              go_ret
              have h := cycR_nil (N := r) (es := es) (by rw [HCH.out]; exact H1.out)
              exact ⟨none, 0, 0, rfl, by rw [h]; rfl, by rw [h]; exact fun hx => by simp at hx, hB6⟩
            · have hcf := cyc_facts HO.out.symm (by rw [HCH.out]; exact h1)
              have hyes := cycR_yes HO.out.symm (by rw [HCH.out]; exact h1)
              rw [HCH.out] at hcf
              obtain ⟨jc, ec, hjc, _, hec, hhead, hpath, hp0, _, hper, hmin, hp8⟩ := hcf
              subst hjc
              have HYES := Lib.hid hyes
              obtain ⟨la, hla⟩ : ∃ la, la = (endC r es).1.la := ⟨_, rfl⟩
              obtain ⟨v, hv⟩ : ∃ v, v = headC r es := ⟨_, rfl⟩
              obtain ⟨p, hpp⟩ : ∃ p, p = perC r es := ⟨_, rfl⟩
              obtain ⟨x, hx⟩ : ∃ x, x = atC r es := ⟨_, rfl⟩
              have hxv : itE es la v r = x := by rw [hla, hv, hx]; rfl
              rw [← hla, ← hv] at hpath
              rw [← hpp] at hp0 hp8
              rw [← hla, ← hpp, ← hx] at hper hmin
              have hjk : jc < k := by have := (List.getElem?_eq_some_iff.1 hec).1; have := HL.out; omega
              obtain ⟨g, o, rfl, hg, hc⟩ := HR.out (by have := HL.out; omega)
              obtain ⟨u0, v0, heq0, hu0, hv0⟩ := okG_edgeN HO.out.symm hec
              have hv0v : v0 = v := by rw [hv, hhead, heq0]; simp
              subst hv0v
              have hkeep : ∀ (wr : World), Below w6.heap.size w6 wr → ∀ y : Addr, y.block < w.heap.size → wr.cell? y = w.cell? y := fun wr hb y hy =>
                (hb.cell (p := y) (by have := hB6.size; omega)).trans (hB6.cell (p := y) hy)
              have f19 : w6.cell? ⟨g, o + jc * 3 + 1, none⟩ = some (.int .i64 (v0 : Int)) := by
                refine (hkeep w6 (Below.refl _ _) _ hg).trans ((hc jc (by have := HL.out; omega)).2.1.trans ?_)
                have : es[jc]'(by have := HL.out; omega) = ec := by rw [List.getElem?_eq_getElem (by have := HL.out; omega)] at hec; exact Option.some.inj hec
                rw [this, heq0]
              have hstep : ∀ (i : Nat) (wr : World), Below w6.heap.size w6 wr → ∃ (y u j : Nat), itE es la v0 i = y ∧ itE es la v0 (i + 1) = u ∧ y < r ∧ u < r ∧ j < k ∧ la y = j ∧
                  wr.cell? ⟨gl, y, none⟩ = some (.int .i64 (j : Int)) ∧ wr.cell? ⟨g, o + j * 3, none⟩ = some (.int .i64 (u : Int)) := by
                intro i wr hb
                obtain ⟨hx, j, e, hj, _, he⟩ := hpath i
                have hjk : j < es.length := (List.getElem?_eq_some_iff.1 he).1
                obtain ⟨u', v', heq, hu', hv'⟩ := okG_edgeN HO.out.symm he
                have hnx : itE es la v0 (i + 1) = u' := by show nxE es la _ = _; unfold nxE; rw [hj, edE_at es he, heq]; simp
                refine ⟨_, u', j, rfl, hnx, hx, hu', by have := HL.out; omega, hj, ?_, ?_⟩
                · have h3 := (HSP.out.la.below hb HSP.out.la.lt).cell (itE es la v0 i) hx
                  rw [Nat.zero_add] at h3
                  rw [h3, ← hj, hla]; rfl
                · refine (hkeep wr hb _ hg).trans ((hc j hjk).1.trans ?_)
                  have : es[j] = e := by rw [List.getElem?_eq_getElem hjk] at he; exact Option.some.inj he
                  rw [this, heq]
              have kar6 := kar
              have kbr6 := kbr
              have hgl6 := HSP.out.la.lt
              have hres : (cycR (r : Int) es) = (backE es la x p).reverse := by rw [HYES.out, ← hla, ← hpp, ← hx]
              have HRES := Lib.hid hres
              have HST := Lib.hid hstep
              have HPER := Lib.hid hper
              have HMIN := Lib.hid hmin
              have HXV := Lib.hid hxv
              have hwg : w.heap.size < w6.heap.size := by have := hB6.size; have := hgl6; omega
              have hgg : g < w6.heap.size := by omega
              have hji : (jc : Int) < (k : Int) := by omega
              have hneg : ¬ ((jc : Int) < 0) := by omega
              clear hc heq0 hec hkeep hpath hstep hhead hv hpp hx hla hyes h1 hres hper hmin hxv kar kbr HYES
              go_wp2_with fail
              -- the way back
              go_loopw [9, 10] (fun nd i wr => ∃ i' : Nat, i' ≤ r ∧ i = .int .i64 i' ∧ nd = .int .i64 (itE es la v0 i' : Nat) ∧ Below w6.heap.size w6 wr) (fun _ i _ => r - (intOf i).toNat)
              case atStart => exact ⟨0, Nat.zero_le _, rfl, rfl, Below.refl _ _⟩
              case round =>
                obtain ⟨i', hi', rfl, rfl, hbl⟩ := hrel
                have ka7 := (hbl.cell (p := ⟨w.heap.size, 0, none⟩) (by dsimp only; omega)).trans kar6
                have kb7 := (hbl.cell (p := ⟨w.heap.size, 1, none⟩) (by dsimp only; omega)).trans kbr6
                by_cases hlt : i' < r
                · obtain ⟨y, u, j, hy, hu, hy8, hu8, hjk2, hlj, f1, f2⟩ := HST.out i' wr hbl
                  rw [hy]
                  have HU := Lib.hid hu
                  have hyi : (y : Int) < (r : Int) := by omega
                  have hji2 : (j : Int) < (k : Int) := by omega
                  clear hy hu hlj
                  go_wp2_with fail
                  go_quiet (fail)
                  go_wp2_with fail
                  go_roundw
                  case rel => exact ⟨i' + 1, by omega, by go_num, by rw [HU.out], below_drewN hbl _⟩
                  case measure => simp [intOf]; omega
                · have : i' = r := by omega
                  subst this
                  obtain ⟨w7, rfl⟩ : ∃ w7 : World, w7 = wr := ⟨_, rfl⟩
                  rw [HXV.out]
                  clear hlt
                  go_wp2_with fail
                  have hz0' : (w7.alloc (.cells #[] 3)).ownsRow w7.heap.size 3 1 (.slice (some ⟨w7.heap.size, 0, none⟩) 0 0) 0 ((backE es la x 0).reverse.map intV) := owns_zero _ _
                  have HZ0 := Lib.hid hz0'
                  have HBL := Lib.hid hbl
                  have hs7 := hbl.size
                  clear hz0' hbl ka7 kb7
                  go_loopw [11, 12] (fun v' nd wx => ∃ (i g' cap : Nat), i ≤ p ∧ v' = .slice (some ⟨g', 0, none⟩) i cap ∧ nd = .int .i64 (itE es la x i : Nat) ∧ wx.ownsRow w7.heap.size 3 1 (.slice (some ⟨g', 0, none⟩) i cap) i ((backE es la x i).reverse.map intV) ∧ Below w7.heap.size w7 wx) (fun v' _ _ => p - lenOf v')
                  case atStart => exact ⟨0, _, _, Nat.zero_le _, rfl, rfl, HZ0.out, (Below.refl _ _).alloc (Nat.le_refl _) _⟩
                  case round =>
                    obtain ⟨wo, rfl⟩ : ∃ wo : World, wo = wr := ⟨_, rfl⟩
                    obtain ⟨i, g', cap, hip, rfl, rfl, hown, hbo⟩ := hrel
                    have hblo : Below w6.heap.size w6 wo := HBL.out.trans (hbo.mono hs7)
                    have ka8 := (hblo.cell (p := ⟨w.heap.size, 0, none⟩) (by dsimp only; omega)).trans kar6
                    have kb8 := (hblo.cell (p := ⟨w.heap.size, 1, none⟩) (by dsimp only; omega)).trans kbr6
                    obtain ⟨y, u', j', hy, hu', hy8, hu8', hjk', hlj', f1, f2⟩ := HST.out (i' + i) wo hblo
                    have hyi : itE es la x i = y := by rw [← HXV.out, ← itE_add]; exact hy
                    have hui : itE es la x (i + 1) = u' := by rw [← HXV.out, ← itE_add, ← Nat.add_assoc]; exact hu'
                    rw [hyi]
                    have hso := hbo.size
                    have hlto := (hown.lt g' rfl).2
                    have hyb : (y : Int) < (i' : Int) := by omega
                    have hjb : (j' : Int) < (k : Int) := by omega
                    have j1 : w.heap.size < wo.heap.size := by omega
                    have j2 : g < wo.heap.size := by omega
                    have j3 : gl < wo.heap.size := by omega
                    have HYI := Lib.hid hyi
                    have HUI := Lib.hid hui
                    have HLJ := Lib.hid hlj'
                    have HOW := Lib.hid hown
                    clear hy hu' hyi hui hlj' hown
                    by_cases hlt2 : i < p
                    · have hgo : ((i : Int) == 0) = true ∨ (((i : Int) == 0) = false ∧ ((y : Int) != (x : Int)) = true) := by
                        by_cases hi0 : i = 0
                        · exact .inl (by simp [hi0])
                        · have := HMIN.out i (by omega) hlt2
                          rw [HYI.out] at this
                          exact .inr ⟨by simp [hi0], by simp; omega⟩
                      have HBK : Hid ((backE es la x (i + 1)).reverse.map intV = [.int .i64 (j' : Int)] ++ (backE es la x i).reverse.map intV) := Lib.hid (by rw [backE_succ, List.reverse_append, List.map_append, HYI.out, HLJ.out]; rfl)
                      rcases hgo with hb | ⟨hb, hb'⟩
                      all_goals
                        go_wp2_with (at_builtin; refine wpList_append_own _ rfl _ _ 28 rfl w7.heap.size 3 i0 (.int .i64 0) 1 8 Try.underlying28 hi hz0 hz1 hz2 rfl (by decide) _ _ _ rfl (own_base (owns_one wo _ _) hso) ⟨g', 0, none⟩ i cap ((backE es la x i).reverse.map intV) rfl ?_ ?_ ?_ ?_ ?_ ?_ ?_)
                        · simp [backE_length]
                        · intro t v ht
                          have h3 := (HOW.out.alloc (.cells #[.int .i64 (j' : Int)] 3)).cellAt t (by have := (List.getElem?_eq_some_iff.1 ht).1; simp [backE_length] at this; omega)
                          rw [ht] at h3
                          rw [Go.WideShapes.add_plain, Nat.zero_add]
                          exact h3
                        · intro v hv
                          obtain ⟨z, _, rfl⟩ := List.mem_map.1 hv
                          rfl
                        · unfold maxLen; omega
                        · omega
                        · simp; omega
                        intro v' w8 hown5 hg5 _
                        have hb5 : Below w7.heap.size wo w8 := ((Below.refl _ wo).alloc hso _).grown hg5 (by simp; omega) (fun t ht => by cases ht; exact hso)
                        have hown5 : w8.ownsRow w7.heap.size 3 1 v' (i + 1) ((backE es la x (i + 1)).reverse.map intV) := by rw [HBK.out, Nat.add_comm i 1]; simpa [List.map_reverse] using hown5
                        obtain ⟨g5, cap5, rfl⟩ := ownsRow_succ hown5
                        have hbo5 : Below w7.heap.size w7 w8 := hbo.trans hb5
                        have hbl5 : Below w6.heap.size w6 w8 := HBL.out.trans (hbo5.mono hs7)
                        have kb9 := (hbl5.cell (p := ⟨w.heap.size, 1, none⟩) (by dsimp only; omega)).trans kbr6
                        have f15 : w8.cell? ⟨gl, y, none⟩ = some (.int .i64 (j' : Int)) := (hb5.cell (p := ⟨gl, y, none⟩) (by dsimp only; omega)).trans f1
                        have f25 : w8.cell? ⟨g, o + j' * 3, none⟩ = some (.int .i64 (u' : Int)) := (hb5.cell (p := ⟨g, o + j' * 3, none⟩) (by dsimp only; omega)).trans f2
                        have HO5 := Lib.hid hown5
                        clear hg5 hown5 hb5 f1 f2 ka8 kb8
                        go_wp2_with fail
                        go_quiet (fail)
                        go_wp2_with fail
                        go_roundw
                        case rel => exact ⟨i + 1, g5, cap5, by omega, rfl, by rw [HUI.out], own_below HO5.out (below_drewN (Below.refl _ _) _), below_drewN hbo5 _⟩
                        case measure => simp [lenOf]; omega
                    · have : i = p := by omega
                      subst this
                      have hyx : y = x := by rw [← HYI.out]; exact HPER.out
                      have hyx2 : ((y : Int) != (x : Int)) = false := by simp [hyx]
                      have hi0 : ((i : Int) == 0) = false := by simp; omega
                      clear hyx
                      go_wp2_with fail
                      go_ret
                      refine ⟨_, i, _, rfl, by rw [HRES.out, List.length_reverse, backE_length], by rw [HRES.out]; exact own_row HOW.out, hB6.trans (hblo.mono (by omega))⟩

end Go.Proofs.Ytnhdfnfiicioiaa

namespace Go.Proofs.Ytnhdfnfiicioiaa
open Go.RowKit
set_option linter.unusedVariables false
set_option linter.unusedSimpArgs false

/-- What GraphOf ends in: the graph, its edges in memory of their own. -/
def GrEnd (n : Int) (es : List GL) (w : World) (x : Ending) (w' : World) : Prop :=
  ∃ B m cb, x = .returned (grV (grN n es) B m cb) ∧ m = (grE n es).length ∧ w'.ownsRow w.heap.size 115 3 (.slice B m cb) m (cellsE (grE n es)) ∧ Below w.heap.size w w'

set_option maxRecDepth 100000 in
set_option maxHeartbeats 4000000 in
theorem spec_GraphOf (n : Int) (es : List GL) (A : Option Addr) (k c : Nat) (w : World) (hn : es.length = k) (hm : k ≤ 1048576) (hr : LinkAt w A es) :
    Calls Try.prog 31 #[grV n A k c] w fun e w' => GrEnd n es w e w' := by
  have HS := Lib.hid (fun W h => spec_SimpleOk n es A k c W hn hm h)
  have HR := Lib.hid hr
  have HL := Lib.hid hn
  clear hr hn
  obtain ⟨ok, hok⟩ : ∃ b, b = okS n es := ⟨_, rfl⟩
  rw [← hok] at HS
  have HO := Lib.hid hok.symm
  clear hok
  unfold grV at HS ⊢
  cases ok with
  | false =>
    go_enter Try.func31, Try.ntmps31
    go_wp2_with fail
    refine (HS.out _ (HR.out.below (by repeat (first | exact Below.refl _ _ | refine below_step (by assumption) (by first | omega | (simp; done) | (simp; omega)) ?_ | refine below_drewN ?_ _ | refine Below.drew ?_ | refine Below.setCell ?_ (by first | omega | (simp; done) | (simp; omega)) _ | refine Below.alloc ?_ (by first | omega | (simp; done) | (simp; omega)) _)))).mono ?_
    rintro e w1 ⟨rfl, b1⟩
    have c0_w1 : w1.cell? ⟨w.heap.size, 0, none⟩ = some (.int .i64 n) := (b1.cell (p := ⟨w.heap.size, 0, none⟩) (by first | omega | (simp; done) | (simp; omega))).trans (by first | assumption | go_simp)
    have c1_w1 : w1.cell? ⟨w.heap.size, 1, none⟩ = some (.slice A k c) := (b1.cell (p := ⟨w.heap.size, 1, none⟩) (by first | omega | (simp; done) | (simp; omega))).trans (by first | assumption | go_simp)
    have c2_w1 : w1.cell? ⟨w.heap.size + 1, 0, none⟩ = some (.int .i64 0) := (b1.cell (p := ⟨w.heap.size + 1, 0, none⟩) (by first | omega | (simp; done) | (simp; omega))).trans (by first | assumption | go_simp)
    have c3_w1 : w1.cell? ⟨w.heap.size + 1, 1, none⟩ = some (.slice none 0 0) := (b1.cell (p := ⟨w.heap.size + 1, 1, none⟩) (by first | omega | (simp; done) | (simp; omega))).trans (by first | assumption | go_simp)
    have f0_w1 : w1.frozen? ⟨w.heap.size + 1, 0, none⟩ = false := (b1.frozen (p := ⟨w.heap.size + 1, 0, none⟩) (by first | omega | (simp; done) | (simp; omega))).trans (by first | assumption | go_simp)
    have f1_w1 : w1.frozen? ⟨w.heap.size + 1, 1, none⟩ = false := (b1.frozen (p := ⟨w.heap.size + 1, 1, none⟩) (by first | omega | (simp; done) | (simp; omega))).trans (by first | assumption | go_simp)
    have s0_w1 : w.heap.size < w1.heap.size := Nat.lt_of_lt_of_le (by first | omega | (simp; done) | (simp; omega)) b1.size
    have s1_w1 : w.heap.size + 1 < w1.heap.size := Nat.lt_of_lt_of_le (by first | omega | (simp; done) | (simp; omega)) b1.size
    have B_w1 : Below w.heap.size w w1 := (by repeat (first | exact Below.refl _ _ | refine below_step (by assumption) (by first | omega | (simp; done) | (simp; omega)) ?_ | refine below_drewN ?_ _ | refine Below.drew ?_ | refine Below.setCell ?_ (by first | omega | (simp; done) | (simp; omega)) _ | refine Below.alloc ?_ (by first | omega | (simp; done) | (simp; omega)) _))
    clear b1  
    go_wp2_with fail
    refine bodyPost_ret (v := .agg #[.int .i64 0, .slice none 0 0]) (by first | (simp [results, Try.results31, go_sem, c2_w1, c3_w1]; done) | simp [*, results, Try.results31, go_sem]) rfl ⟨none, 0, 0, by unfold grV; rw [grN_no HO.out], by rw [grE_no HO.out]; rfl, by rw [grE_no HO.out]; exact World.ownsRow_nil _ _ _ _, (by repeat (first | exact Below.refl _ _ | refine below_step (by assumption) (by first | omega | (simp; done) | (simp; omega)) ?_ | refine below_drewN ?_ _ | refine Below.drew ?_ | refine Below.setCell ?_ (by first | omega | (simp; done) | (simp; omega)) _ | refine Below.alloc ?_ (by first | omega | (simp; done) | (simp; omega)) _))⟩
  | true =>
    have hrg := okS_rng HO.out
    have HLK := Lib.hid (fun W h => spec_l05Edges n es A k c W HL.out (by have := HL.out; omega) (fun e he => (okS_link HO.out he).2.2) h)
    unfold grV at HLK
    clear hrg
    go_enter Try.func31, Try.ntmps31
    go_wp2_with fail
    refine (HS.out _ (HR.out.below (by repeat (first | exact Below.refl _ _ | refine below_step (by assumption) (by first | omega | (simp; done) | (simp; omega)) ?_ | refine below_drewN ?_ _ | refine Below.drew ?_ | refine Below.setCell ?_ (by first | omega | (simp; done) | (simp; omega)) _ | refine Below.alloc ?_ (by first | omega | (simp; done) | (simp; omega)) _)))).mono ?_
    rintro e w1 ⟨rfl, b1⟩
    have c0_w1 : w1.cell? ⟨w.heap.size, 0, none⟩ = some (.int .i64 n) := (b1.cell (p := ⟨w.heap.size, 0, none⟩) (by first | omega | (simp; done) | (simp; omega))).trans (by first | assumption | go_simp)
    have c1_w1 : w1.cell? ⟨w.heap.size, 1, none⟩ = some (.slice A k c) := (b1.cell (p := ⟨w.heap.size, 1, none⟩) (by first | omega | (simp; done) | (simp; omega))).trans (by first | assumption | go_simp)
    have c2_w1 : w1.cell? ⟨w.heap.size + 1, 0, none⟩ = some (.int .i64 0) := (b1.cell (p := ⟨w.heap.size + 1, 0, none⟩) (by first | omega | (simp; done) | (simp; omega))).trans (by first | assumption | go_simp)
    have c3_w1 : w1.cell? ⟨w.heap.size + 1, 1, none⟩ = some (.slice none 0 0) := (b1.cell (p := ⟨w.heap.size + 1, 1, none⟩) (by first | omega | (simp; done) | (simp; omega))).trans (by first | assumption | go_simp)
    have f0_w1 : w1.frozen? ⟨w.heap.size + 1, 0, none⟩ = false := (b1.frozen (p := ⟨w.heap.size + 1, 0, none⟩) (by first | omega | (simp; done) | (simp; omega))).trans (by first | assumption | go_simp)
    have f1_w1 : w1.frozen? ⟨w.heap.size + 1, 1, none⟩ = false := (b1.frozen (p := ⟨w.heap.size + 1, 1, none⟩) (by first | omega | (simp; done) | (simp; omega))).trans (by first | assumption | go_simp)
    have s0_w1 : w.heap.size < w1.heap.size := Nat.lt_of_lt_of_le (by first | omega | (simp; done) | (simp; omega)) b1.size
    have s1_w1 : w.heap.size + 1 < w1.heap.size := Nat.lt_of_lt_of_le (by first | omega | (simp; done) | (simp; omega)) b1.size
    have B_w1 : Below w.heap.size w w1 := (by repeat (first | exact Below.refl _ _ | refine below_step (by assumption) (by first | omega | (simp; done) | (simp; omega)) ?_ | refine below_drewN ?_ _ | refine Below.drew ?_ | refine Below.setCell ?_ (by first | omega | (simp; done) | (simp; omega)) _ | refine Below.alloc ?_ (by first | omega | (simp; done) | (simp; omega)) _))
    clear b1  
    go_wp2_with fail
    have LO : Hid (w.heap.size + 1 < w1.heap.size ∧ w.heap.size ≤ w1.heap.size) := Lib.hid ⟨s1_w1, by omega⟩
    refine (HLK.out _ (HR.out.below (by repeat (first | exact Below.refl _ _ | refine below_step (by assumption) (by first | omega | (simp; done) | (simp; omega)) ?_ | refine below_drewN ?_ _ | refine Below.drew ?_ | refine Below.setCell ?_ (by first | omega | (simp; done) | (simp; omega)) _ | refine Below.alloc ?_ (by first | omega | (simp; done) | (simp; omega)) _)))).mono ?_
    rintro e w2 ⟨B, m, cb, D, q, cd, rfl, hm1, hq1, h2, _, b2⟩
    have c0_w2 : w2.cell? ⟨w.heap.size, 0, none⟩ = some (.int .i64 n) := (b2.cell (p := ⟨w.heap.size, 0, none⟩) (by first | omega | (simp; done) | (simp; omega))).trans (by first | assumption | go_simp)
    have c1_w2 : w2.cell? ⟨w.heap.size, 1, none⟩ = some (.slice A k c) := (b2.cell (p := ⟨w.heap.size, 1, none⟩) (by first | omega | (simp; done) | (simp; omega))).trans (by first | assumption | go_simp)
    have c2_w2 : w2.cell? ⟨w.heap.size + 1, 0, none⟩ = some (.int .i64 0) := (b2.cell (p := ⟨w.heap.size + 1, 0, none⟩) (by first | omega | (simp; done) | (simp; omega))).trans (by first | assumption | go_simp)
    have c3_w2 : w2.cell? ⟨w.heap.size + 1, 1, none⟩ = some (.slice none 0 0) := (b2.cell (p := ⟨w.heap.size + 1, 1, none⟩) (by first | omega | (simp; done) | (simp; omega))).trans (by first | assumption | go_simp)
    have f0_w2 : w2.frozen? ⟨w.heap.size + 1, 0, none⟩ = false := (b2.frozen (p := ⟨w.heap.size + 1, 0, none⟩) (by first | omega | (simp; done) | (simp; omega))).trans (by first | assumption | go_simp)
    have f1_w2 : w2.frozen? ⟨w.heap.size + 1, 1, none⟩ = false := (b2.frozen (p := ⟨w.heap.size + 1, 1, none⟩) (by first | omega | (simp; done) | (simp; omega))).trans (by first | assumption | go_simp)
    have s0_w2 : w.heap.size < w2.heap.size := Nat.lt_of_lt_of_le (by first | omega | (simp; done) | (simp; omega)) b2.size
    have s1_w2 : w.heap.size + 1 < w2.heap.size := Nat.lt_of_lt_of_le (by first | omega | (simp; done) | (simp; omega)) b2.size
    have B_w2 : Below w.heap.size w w2 := (by repeat (first | exact Below.refl _ _ | refine below_step (by assumption) (by first | omega | (simp; done) | (simp; omega)) ?_ | refine below_drewN ?_ _ | refine Below.drew ?_ | refine Below.setCell ?_ (by first | omega | (simp; done) | (simp; omega)) _ | refine Below.alloc ?_ (by first | omega | (simp; done) | (simp; omega)) _))
    clear b2 c0_w1 c1_w1 c2_w1 c3_w1 f0_w1 f1_w1 s0_w1 s1_w1 B_w1
    skip
    have H2 := Lib.hid h2
    have HM1 := Lib.hid hm1
    clear h2 hm1 hq1
    go_wp2_with fail
    refine bodyPost_ret (v := .agg #[.int .i64 n, .slice B m cb]) (by first | (simp [results, Try.results31, go_sem, c2_w2, c3_w2, f2_w2, f3_w2]; done) | simp [*, results, Try.results31, go_sem]) rfl ⟨B, m, cb, by unfold grV; rw [grN_yes HO.out], by rw [grE_yes HO.out]; exact HM1.out, ?_, by refine Below.setCell (Below.setCell ?_ (by first | omega | (simp; done) | (simp; omega)) _) (by first | omega | (simp; done) | (simp; omega)) _; exact B_w2⟩
    rw [grE_yes HO.out]
    exact own_base (own_set (own_set H2.out _ _ (by have := LO.out; dsimp only; omega)) _ _ (by have := LO.out; dsimp only; omega)) (by have := LO.out; omega)

set_option maxRecDepth 100000 in
set_option maxHeartbeats 4000000 in
theorem spec_IsConsistent (n : Int) (es : List GL) (A : Option Addr) (k c : Nat) (w : World) (hn : es.length = k) (hm : k ≤ 1048576) (hr : LinkAt w A es) :
    Calls Try.prog 37 #[grV n A k c] w fun e w' => e = .returned (.bool (consR n es)) ∧ Below w.heap.size w w' := by
  have HS := Lib.hid (fun W h => spec_SimpleOk n es A k c W hn hm h)
  have HG := Lib.hid (fun W h => spec_GraphOf n es A k c W hn hm h)
  have HR := Lib.hid hr
  clear hr hn
  obtain ⟨ok, hok⟩ : ∃ b, b = okS n es := ⟨_, rfl⟩
  rw [← hok] at HS
  have HO := Lib.hid hok.symm
  clear hok
  unfold grV at HS HG ⊢
  cases ok with
  | false =>
    go_enter Try.func37, Try.ntmps37
    go_wp2_with fail
    refine (HS.out _ (HR.out.below (by repeat (first | exact Below.refl _ _ | refine below_step (by assumption) (by first | omega | (simp; done) | (simp; omega)) ?_ | refine below_drewN ?_ _ | refine Below.drew ?_ | refine Below.setCell ?_ (by first | omega | (simp; done) | (simp; omega)) _ | refine Below.alloc ?_ (by first | omega | (simp; done) | (simp; omega)) _)))).mono ?_
    rintro e w1 ⟨rfl, b1⟩
    go_wp2_with fail
    go_ret
    exact ⟨ret_b (by unfold consR; rw [HO.out]; rfl), (by repeat (first | exact Below.refl _ _ | refine below_step (by assumption) (by first | omega | (simp; done) | (simp; omega)) ?_ | refine below_drewN ?_ _ | refine Below.drew ?_ | refine Below.setCell ?_ (by first | omega | (simp; done) | (simp; omega)) _ | refine Below.alloc ?_ (by first | omega | (simp; done) | (simp; omega)) _))⟩
  | true =>
    have HC := Lib.hid (fun A' k' c' W hl hr => spec_NegativeCycle n (gE es) A' k' c' W hl (by have := (gE_len80 HO.out).1; omega) hr)
    unfold grV at HC
    go_enter Try.func37, Try.ntmps37
    go_wp2_with fail
    refine (HS.out _ (HR.out.below (by repeat (first | exact Below.refl _ _ | refine below_step (by assumption) (by first | omega | (simp; done) | (simp; omega)) ?_ | refine below_drewN ?_ _ | refine Below.drew ?_ | refine Below.setCell ?_ (by first | omega | (simp; done) | (simp; omega)) _ | refine Below.alloc ?_ (by first | omega | (simp; done) | (simp; omega)) _)))).mono ?_
    rintro e w1 ⟨rfl, b1⟩
    have c0_w1 : w1.cell? ⟨w.heap.size, 0, none⟩ = some (.int .i64 n) := (b1.cell (p := ⟨w.heap.size, 0, none⟩) (by first | omega | (simp; done) | (simp; omega))).trans (by first | assumption | go_simp)
    have c1_w1 : w1.cell? ⟨w.heap.size, 1, none⟩ = some (.slice A k c) := (b1.cell (p := ⟨w.heap.size, 1, none⟩) (by first | omega | (simp; done) | (simp; omega))).trans (by first | assumption | go_simp)
    have s0_w1 : w.heap.size < w1.heap.size := Nat.lt_of_lt_of_le (by first | omega | (simp; done) | (simp; omega)) b1.size
    have B_w1 : Below w.heap.size w w1 := (by repeat (first | exact Below.refl _ _ | refine below_step (by assumption) (by first | omega | (simp; done) | (simp; omega)) ?_ | refine below_drewN ?_ _ | refine Below.drew ?_ | refine Below.setCell ?_ (by first | omega | (simp; done) | (simp; omega)) _ | refine Below.alloc ?_ (by first | omega | (simp; done) | (simp; omega)) _))
    clear b1  
    go_wp2_with fail
    refine (HG.out _ (HR.out.below (by repeat (first | exact Below.refl _ _ | refine below_step (by assumption) (by first | omega | (simp; done) | (simp; omega)) ?_ | refine below_drewN ?_ _ | refine Below.drew ?_ | refine Below.setCell ?_ (by first | omega | (simp; done) | (simp; omega)) _ | refine Below.alloc ?_ (by first | omega | (simp; done) | (simp; omega)) _)))).mono ?_
    rintro e w2 ⟨B, m, cb, rfl, hm1, h2, b2⟩
    have c0_w2 : w2.cell? ⟨w.heap.size, 0, none⟩ = some (.int .i64 n) := (b2.cell (p := ⟨w.heap.size, 0, none⟩) (by first | omega | (simp; done) | (simp; omega))).trans (by first | assumption | go_simp)
    have c1_w2 : w2.cell? ⟨w.heap.size, 1, none⟩ = some (.slice A k c) := (b2.cell (p := ⟨w.heap.size, 1, none⟩) (by first | omega | (simp; done) | (simp; omega))).trans (by first | assumption | go_simp)
    have s0_w2 : w.heap.size < w2.heap.size := Nat.lt_of_lt_of_le (by first | omega | (simp; done) | (simp; omega)) b2.size
    have B_w2 : Below w.heap.size w w2 := (by repeat (first | exact Below.refl _ _ | refine below_step (by assumption) (by first | omega | (simp; done) | (simp; omega)) ?_ | refine below_drewN ?_ _ | refine Below.drew ?_ | refine Below.setCell ?_ (by first | omega | (simp; done) | (simp; omega)) _ | refine Below.alloc ?_ (by first | omega | (simp; done) | (simp; omega)) _))
    clear b2 c0_w1 c1_w1 s0_w1 B_w1
    rw [grE_yes HO.out] at hm1 h2
    have HE := Lib.hid (own_edgeS h2)
    have HM1 := Lib.hid hm1
    clear h2 hm1
    unfold grV
    rw [grN_yes HO.out]
    go_wp2_with fail
    refine (HC.out B m cb _ HM1.out.symm HE.out).mono ?_
    rintro e w3 ⟨D, q, cd, rfl, hq, _, b3⟩
    have c0_w3 : w3.cell? ⟨w.heap.size, 0, none⟩ = some (.int .i64 n) := (b3.cell (p := ⟨w.heap.size, 0, none⟩) (by first | omega | (simp; done) | (simp; omega))).trans (by first | assumption | go_simp)
    have c1_w3 : w3.cell? ⟨w.heap.size, 1, none⟩ = some (.slice A k c) := (b3.cell (p := ⟨w.heap.size, 1, none⟩) (by first | omega | (simp; done) | (simp; omega))).trans (by first | assumption | go_simp)
    have s0_w3 : w.heap.size < w3.heap.size := Nat.lt_of_lt_of_le (by first | omega | (simp; done) | (simp; omega)) b3.size
    have B_w3 : Below w.heap.size w w3 := (by repeat (first | exact Below.refl _ _ | refine below_step (by assumption) (by first | omega | (simp; done) | (simp; omega)) ?_ | refine below_drewN ?_ _ | refine Below.drew ?_ | refine Below.setCell ?_ (by first | omega | (simp; done) | (simp; omega)) _ | refine Below.alloc ?_ (by first | omega | (simp; done) | (simp; omega)) _))
    clear b3 c0_w2 c1_w2 s0_w2 B_w2
    have hqe : ((q : Int) == 0) = decide ((cycR n (gE es)).length = 0) := by rw [← hq, Bool.eq_iff_iff]; simp
    have HQ := Lib.hid hqe
    clear hqe hq
    go_wp2_with fail
    go_ret
    exact ⟨ret_b (by unfold consR; rw [HO.out, Bool.true_and]; exact HQ.out), B_w3⟩

end Go.Proofs.Ytnhdfnfiicioiaa
