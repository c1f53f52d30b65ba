/-
  WALKS of hasEdge, sumOf, spec.PathWeight and impl.PathWeight: the sum of the weights of the edges with these indices.
-/
import Derived.Test.YtdjaiijgdflopaaGrI
import Derived.Test.YtdjaiijgdflopaaGrN
namespace Go.Proofs.Ytdjaiijgdflopaa
open Go.RowKit
set_option linter.unusedVariables false
set_option linter.unusedSimpArgs false

def wtE (es : List GE) (z : Int) : Int := if 0 ≤ z then (match es[z.toNat]? with | some e => e.c | none => 0) else 0
def sumTo (es : List GE) (zs : List Int) : Nat → Int
  | 0 => 0
  | j + 1 => sumTo es zs j + (match zs[j]? with | some z => wtE es z | none => 0)

theorem okG_edge {n : Int} {es : List GE} (h : okG n es = true) {j : Nat} {e : GE} (he : es[j]? = some e) :
    (0 ≤ e.u ∧ e.u < n) ∧ (0 ≤ e.v ∧ e.v < n) ∧ (-1000000 < e.c ∧ e.c < 1000000) := by
  unfold okG at h
  simp only [Bool.and_eq_true, List.all_eq_true] at h
  have := h.2 e (List.mem_of_getElem? he)
  unfold okE at this
  simp only [Bool.and_eq_true, decide_eq_true_eq] at this
  exact ⟨this.1.1, this.1.2, this.2⟩
theorem okG_rng {n : Int} {es : List GE} (h : okG n es = true) : 0 ≤ n ∧ n ≤ 8 ∧ es.length ≤ 80 := by
  unfold okG at h
  simp only [Bool.and_eq_true, decide_eq_true_eq] at h
  exact h.1
theorem wtE_rng {n : Int} {es : List GE} (h : okG n es = true) (z : Int) : -1000000 ≤ wtE es z ∧ wtE es z ≤ 1000000 := by
  unfold wtE
  split
  · split
    · next e he => have := okG_edge h he; omega
    · omega
  · omega
theorem sumTo_rng {n : Int} {es : List GE} (h : okG n es = true) (zs : List Int) (j : Nat) : -1000000 * (j : Int) ≤ sumTo es zs j ∧ sumTo es zs j ≤ 1000000 * (j : Int) := by
  induction j with
  | zero => simp [sumTo]
  | succ j ih =>
    unfold sumTo
    split
    · next z _ => have := wtE_rng h z; omega
    · omega
theorem sumTo_in {es : List GE} {zs : List Int} {j q : Nat} {e : GE} (hz : zs[j]? = some (q : Int)) (he : es[q]? = some e) : sumTo es zs (j + 1) = sumTo es zs j + e.c := by
  conv => lhs; unfold sumTo
  simp [hz, wtE, he]
theorem sumTo_out {es : List GE} {zs : List Int} {j : Nat} {z : Int} (hz : zs[j]? = some z) (ho : ¬ (0 ≤ z ∧ z < es.length)) : sumTo es zs (j + 1) = sumTo es zs j := by
  conv => lhs; unfold sumTo
  simp only [hz]
  have : wtE es z = 0 := by
    unfold wtE
    split
    · rw [List.getElem?_eq_none (by omega)]
    · rfl
  omega

set_option maxRecDepth 100000 in
set_option maxHeartbeats 1000000 in
theorem hasEdge_any (n : Int) (A : Option Addr) (k c : Nat) (i : Int) (w : World) :
    Calls Try.prog 91 #[grV n A k c, .int .i64 i] w fun e w' => e = .returned (.bool (decide (0 ≤ i ∧ i < (k : Int)))) ∧ Below w.heap.size w w' := by
  unfold grV
  by_cases h1 : 0 ≤ i
  · by_cases h2 : i < (k : Int)
    all_goals
      go_enter Try.func91, Try.ntmps91
      go_wp2
      go_ret
      exact ⟨ret_b (by simp [h1, h2]), (by repeat (first | exact Below.refl _ _ | refine below_step (by assumption) (by first | omega | (simp; done) | (simp; omega)) ?_ | refine below_drewN ?_ _ | refine Below.drew ?_ | refine Below.setCell ?_ (by first | omega | (simp; done) | (simp; omega)) _ | refine Below.alloc ?_ (by first | omega | (simp; done) | (simp; omega)) _))⟩
  · go_enter Try.func91, Try.ntmps91
    go_wp2
    go_ret
    exact ⟨ret_b (by simp; intro; omega), (by repeat (first | exact Below.refl _ _ | refine below_step (by assumption) (by first | omega | (simp; done) | (simp; omega)) ?_ | refine below_drewN ?_ _ | refine Below.drew ?_ | refine Below.setCell ?_ (by first | omega | (simp; done) | (simp; omega)) _ | refine Below.alloc ?_ (by first | omega | (simp; done) | (simp; omega)) _))⟩

set_option maxRecDepth 100000 in
set_option maxHeartbeats 2000000 in
theorem impl_sumOf (n : Int) (es : List GE) (A : Option Addr) (k c : Nat) (zs : List Int) (B : Option Addr) (m cb : Nat) (w : World) (hok : okG n es = true) (hn : es.length = k) (hzl : zs.length = m) (hm : m ≤ 1048576) (hr : EdgeAt w A es) (hz : RowAt w B (zs.map intV)) :
    Calls Try.prog 62 #[grV n A k c, .slice B m cb] w fun e w' => e = .returned (.int .i64 (sumTo es zs m)) ∧ Below w.heap.size w w' := by
  have HE := Lib.hid (hasEdge_any n A k c)
  unfold grV at HE ⊢
  have HR := Lib.hid hr
  have HZ := Lib.hid hz
  have HL := Lib.hid hn
  have HM := Lib.hid hzl
  have HO := Lib.hid hok
  clear hr hz hn hzl hok
  go_enter Try.func62, Try.ntmps62
  go_wp2_with fail
  go_loopw [5, 10] (fun s i wr => ∃ j : Nat, j ≤ m ∧ i = .int .i64 j ∧ s = .int .i64 (sumTo es zs j) ∧ wr.cell? ⟨w.heap.size, 0, none⟩ = some (.int .i64 n) ∧ wr.cell? ⟨w.heap.size, 1, none⟩ = some (.slice A k c) ∧ Below w.heap.size w wr ∧ w.heap.size < wr.heap.size) (fun _ i _ => m - (intOf i).toNat)
  case atStart => exact ⟨0, Nat.zero_le _, rfl, rfl, by go_simp, by go_simp, (by repeat (first | exact Below.refl _ _ | refine below_step (by assumption) (by first | omega | (simp; done) | (simp; omega)) ?_ | refine below_drewN ?_ _ | refine Below.drew ?_ | refine Below.setCell ?_ (by first | omega | (simp; done) | (simp; omega)) _ | refine Below.alloc ?_ (by first | omega | (simp; done) | (simp; omega)) _)), by simp⟩
  case round =>
    obtain ⟨j, hj, rfl, rfl, hcn, hca, hbw, hsz⟩ := hrel
    by_cases hlt : j < m
    · obtain ⟨g, o, rfl, hg, hc⟩ := HZ.out (by have := HM.out; simp; omega)
      obtain ⟨z, hz1, hz2⟩ : ∃ z : Int, wr.cell? ⟨g, o + j, none⟩ = some (.int .i64 z) ∧ zs[j]? = some z := by
        have hl := HM.out
        exact ⟨zs[j]'(by omega), (hbw.cell (p := ⟨g, o + j, none⟩) hg).trans ((hc j (by simp; omega)).trans (by rw [List.getElem_map]; rfl)), List.getElem?_eq_getElem (by omega)⟩
      have HZ2 := Lib.hid hz2
      clear hc hz2
      have hrng := sumTo_rng HO.out zs j
      by_cases hin : 0 ≤ z ∧ z < (k : Int)
      · obtain ⟨q, rfl⟩ : ∃ q : Nat, z = q := ⟨z.toNat, by omega⟩
        have hq : q < k := by omega
        obtain ⟨g', o', rfl, hg', hc'⟩ := HR.out (by have := HL.out; omega)
        obtain ⟨x, hx1, hx2⟩ : ∃ x : GE, wr.cell? ⟨g', o' + q * 3 + 2, none⟩ = some (.int .i64 x.c) ∧ es[q]? = some x := by
          have hl := HL.out
          exact ⟨es[q]'(by omega), (hbw.cell (p := ⟨g', o' + q * 3 + 2, none⟩) hg').trans (hc' q (by omega)).2.2, List.getElem?_eq_getElem (by omega)⟩
        have hxr := (okG_edge HO.out hx2).2.2
        have HS := Lib.hid (sumTo_in HZ2.out hx2)
        clear hx2 hc'
        have hh := hasEdge_any n (some ⟨g', o', none⟩) k c (q : Int)
        unfold grV at hh
        rw [decide_eq_true hin] at hh
        have HH := Lib.hid hh
        clear hh
        go_wp2_with (go_at_call 91; refine (HH.out _).mono ?_; rintro e w2 ⟨rfl, b2⟩; have ka : w2.cell? ⟨w.heap.size, 0, none⟩ = some (.int .i64 n) := (b2.cell (p := ⟨w.heap.size, 0, none⟩) (by first | omega | (simp; done) | (simp; omega))).trans (by assumption); have kb : w2.cell? ⟨w.heap.size, 1, none⟩ = some (.slice (some ⟨g', o', none⟩) k c) := (b2.cell (p := ⟨w.heap.size, 1, none⟩) (by first | omega | (simp; done) | (simp; omega))).trans (by assumption); have kc : w2.cell? ⟨g', o' + q * 3 + 2, none⟩ = some (.int .i64 x.c) := (b2.cell (p := ⟨g', o' + q * 3 + 2, none⟩) (by first | omega | (simp; done) | (simp; omega))).trans (by assumption); have ks : w.heap.size < w2.heap.size := Nat.lt_of_lt_of_le (by first | omega | (simp; done) | (simp; omega)) b2.size)
        go_roundw
        case rel => exact ⟨j + 1, by omega, by go_num, by rw [HS.out], ka, kb, (by repeat (first | exact Below.refl _ _ | refine below_step (by assumption) (by first | omega | (simp; done) | (simp; omega)) ?_ | refine below_drewN ?_ _ | refine Below.drew ?_ | refine Below.setCell ?_ (by first | omega | (simp; done) | (simp; omega)) _ | refine Below.alloc ?_ (by first | omega | (simp; done) | (simp; omega)) _)), ks⟩
        case measure => simp [intOf]; omega
      · have HS := Lib.hid (sumTo_out HZ2.out (by have := HL.out; omega) : sumTo es zs (j + 1) = _)
        have hh := hasEdge_any n A k c z
        unfold grV at hh
        rw [decide_eq_false hin] at hh
        have HH := Lib.hid hh
        clear hh hin
        go_wp2_with (go_at_call 91; refine (HH.out _).mono ?_; rintro e w2 ⟨rfl, b2⟩; have ka : w2.cell? ⟨w.heap.size, 0, none⟩ = some (.int .i64 n) := (b2.cell (p := ⟨w.heap.size, 0, none⟩) (by first | omega | (simp; done) | (simp; omega))).trans (by assumption); have kb : w2.cell? ⟨w.heap.size, 1, none⟩ = some (.slice A k c) := (b2.cell (p := ⟨w.heap.size, 1, none⟩) (by first | omega | (simp; done) | (simp; omega))).trans (by assumption); have ks : w.heap.size < w2.heap.size := Nat.lt_of_lt_of_le (by first | omega | (simp; done) | (simp; omega)) b2.size)
        go_roundw
        case rel => exact ⟨j + 1, by omega, by go_num, by rw [HS.out], ka, kb, (by repeat (first | exact Below.refl _ _ | refine below_step (by assumption) (by first | omega | (simp; done) | (simp; omega)) ?_ | refine below_drewN ?_ _ | refine Below.drew ?_ | refine Below.setCell ?_ (by first | omega | (simp; done) | (simp; omega)) _ | refine Below.alloc ?_ (by first | omega | (simp; done) | (simp; omega)) _)), ks⟩
        case measure => simp [intOf]; omega
    · go_wp2_with fail
      go_ret
      have : j = m := by omega
      subst this
      exact ⟨rfl, hbw⟩

end Go.Proofs.Ytdjaiijgdflopaa
