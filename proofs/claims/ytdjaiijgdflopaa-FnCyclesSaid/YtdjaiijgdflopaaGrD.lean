/-
  WALKS of isClosedWalk and impl.IsNegativeCycle.
-/
import Derived.Test.YtdjaiijgdflopaaGrC
import Derived.Test.YtdjaiijgdflopaaQuC
import Derived.Deep.RegionHeld3
import Derived.Deep.RegionWith
namespace Go.Proofs.Ytdjaiijgdflopaa
open Go.RowKit
set_option linter.unusedVariables false
set_option linter.unusedSimpArgs false

set_option maxRecDepth 100000 in
set_option maxHeartbeats 4000000 in
theorem impl_isClosedWalk (n : Int) (es : List GE) (A : Option Addr) (k c : Nat) (zs : List Int) (B : Option Addr) (m cb : Nat) (w : World) (hn : es.length = k) (hk : k ≤ 1048576) (hzl : zs.length = m) (hm : m ≤ 1048576) (hr : EdgeAt w A es) (hz : RowAt w B (zs.map intV)) :
    Calls Try.prog 63 #[grV n A k c, .slice B m cb] w fun e w' => e = .returned (.bool (closedTo es zs m && decide (0 < m))) ∧ Below w.heap.size w w' := by
  have HR := Lib.hid hr
  have HZ := Lib.hid hz
  have HL := Lib.hid hn
  have HM := Lib.hid hzl
  clear hr hz hn hzl
  unfold grV
  go_enter Try.func63, Try.ntmps63
  go_wp2_with fail
  go_loopw [10] (fun i wr => ∃ j : Nat, j ≤ m ∧ i = .int .i64 j ∧ closedTo es zs j = true ∧ wr.cell? ⟨w.heap.size, 0, none⟩ = some (.int .i64 n) ∧ wr.cell? ⟨w.heap.size, 1, none⟩ = some (.slice A k c) ∧ Below w.heap.size w wr ∧ w.heap.size < wr.heap.size) (fun i _ => m - (intOf i).toNat)
  case atStart => exact ⟨0, Nat.zero_le _, rfl, rfl, by go_simp, by go_simp, (by repeat (first | exact Below.refl _ _ | refine below_step (by assumption) (by first | omega | (simp; done) | (simp; omega)) ?_ | refine below_drewN ?_ _ | refine Below.drew ?_ | refine Below.setCell ?_ (by first | omega | (simp; done) | (simp; omega)) _ | refine Below.alloc ?_ (by first | omega | (simp; done) | (simp; omega)) _)), by simp⟩
  case round =>
    obtain ⟨j, hj, rfl, hcl, hcn, hca, hbw, hsz⟩ := hrel
    have HCL := Lib.hid hcl
    clear hcl
    by_cases hlt : j < m
    · obtain ⟨g, o, rfl, hg, hc⟩ := HZ.out (by have := HM.out; simp; omega)
      have hpm : (j + m - 1) % m < m := Nat.mod_lt _ (by omega)
      obtain ⟨p, hp⟩ : ∃ p, p = (j + m - 1) % m := ⟨_, rfl⟩
      have hpi : Int.tmod ((j : Int) + m - 1) m = (p : Int) := by
        rw [hp, show ((j : Int) + m - 1) = ((j + m - 1 : Nat) : Int) from by omega]; rfl
      have hpi2 : ((j : Int) + m - 1) % m = (p : Int) := by
        rw [hp, show ((j : Int) + m - 1) = ((j + m - 1 : Nat) : Int) from by omega]; rfl
      rw [← hp] at hpm
      obtain ⟨z, hz1, hz2⟩ : ∃ z : Int, wr.cell? ⟨g, o + j, none⟩ = some (.int .i64 z) ∧ zs[j]? = some z := by
        have hl := HM.out
        exact ⟨zs[j]'(by omega), (hbw.cell (p := ⟨g, o + j, none⟩) hg).trans ((hc j (by simp; omega)).trans (by rw [List.getElem_map]; rfl)), List.getElem?_eq_getElem (by omega)⟩
      obtain ⟨b, hb1, hb2⟩ : ∃ b : Int, wr.cell? ⟨g, o + p, none⟩ = some (.int .i64 b) ∧ zs[p]? = some b := by
        have hl := HM.out
        exact ⟨zs[p]'(by omega), (hbw.cell (p := ⟨g, o + p, none⟩) hg).trans ((hc p (by simp; omega)).trans (by rw [List.getElem_map]; rfl)), List.getElem?_eq_getElem (by omega)⟩
      have hlk := link_eq es zs HM.out hz2 (by rw [← hp]; exact hb2)
      have HZ2 := Lib.hid hz2
      clear hc hz2 hb2 hp
      have hcz := hasEdge_any n A k c z
      have hcb := hasEdge_any n A k c b
      unfold grV at hcz hcb
      by_cases hin : 0 ≤ z ∧ z < (k : Int)
      · rw [decide_eq_true hin] at hcz
        rw [show inE es z = true from by unfold inE; rw [HL.out]; exact decide_eq_true hin] at hlk
        obtain ⟨q, rfl⟩ : ∃ q : Nat, z = q := ⟨z.toNat, by omega⟩
        have hq : q < k := by omega
        obtain ⟨g', o', rfl, hg', hc'⟩ := HR.out (by have := HL.out; omega)
        have HCZ := Lib.hid hcz
        clear hcz
        obtain ⟨x, hxu, hx⟩ : ∃ x : GE, wr.cell? ⟨g', o' + q * 3, none⟩ = some (.int .i64 x.u) ∧ es[q]? = some x := by
          have hl := HL.out
          exact ⟨es[q]'(by omega), (hbw.cell (p := ⟨g', o' + q * 3, none⟩) hg').trans (hc' q (by omega)).1, List.getElem?_eq_getElem (by omega)⟩
        rw [edE_at es hx] at hlk
        by_cases hbn : 0 ≤ b ∧ b < (k : Int)
        · rw [decide_eq_true hbn] at hcb
          rw [show inE es b = true from by unfold inE; rw [HL.out]; exact decide_eq_true hbn] at hlk
          have HCB := Lib.hid hcb
          clear hcb
          obtain ⟨r, rfl⟩ : ∃ r : Nat, b = r := ⟨b.toNat, by omega⟩
          have hr : r < k := by omega
          obtain ⟨y, hyv, hy⟩ : ∃ y : GE, wr.cell? ⟨g', o' + r * 3 + 1, none⟩ = some (.int .i64 y.v) ∧ es[r]? = some y := by
            have hl := HL.out
            exact ⟨es[r]'(by omega), (hbw.cell (p := ⟨g', o' + r * 3 + 1, none⟩) hg').trans (hc' r (by omega)).2.1, List.getElem?_eq_getElem (by omega)⟩
          rw [edE_at es hy] at hlk
          have HLK := Lib.hid hlk
          clear hlk hx hy hc'
          by_cases hvu : y.v = x.u
          · have hne : (y.v != x.u) = false := by simp [hvu]
            have HVU := Lib.hid hvu
            clear hvu
            go_wp2_with fail
            obtain ⟨C, hC⟩ : ∃ C : World → Prop, C = fun W => Below wr.heap.size wr W := ⟨_, rfl⟩
            have qb : ∀ W, C W → Below wr.heap.size wr W := fun W h => by rw [hC] at h; exact h
            have qc : ∀ W, Below wr.heap.size wr W → C W := fun W h => by rw [hC]; exact h
            have hC0 : C (World.drew wr) := qc _ (Below.refl _ _).drew
            have q0 : ∀ zc : WC C, zc.w.cell? ⟨w.heap.size, 0, none⟩ = some (.int .i64 n) := fun zc => ((qb _ zc.h).cell (p := ⟨w.heap.size, 0, none⟩) (by first | omega | (simp; done) | (simp; omega))).trans (by first | assumption | go_simp)
            have q1 : ∀ zc : WC C, zc.w.cell? ⟨w.heap.size, 1, none⟩ = some (.slice (some ⟨g', o', none⟩) k c) := fun zc => ((qb _ zc.h).cell (p := ⟨w.heap.size, 1, none⟩) (by first | omega | (simp; done) | (simp; omega))).trans (by first | assumption | go_simp)
            have q2 : ∀ zc : WC C, zc.w.cell? ⟨g', o' + r * 3 + 1, none⟩ = some (.int .i64 y.v) := fun zc => ((qb _ zc.h).cell (p := ⟨g', o' + r * 3 + 1, none⟩) (by first | omega | (simp; done) | (simp; omega))).trans (by first | assumption | go_simp)
            have q3 : ∀ zc : WC C, zc.w.cell? ⟨g', o' + q * 3, none⟩ = some (.int .i64 x.u) := fun zc => ((qb _ zc.h).cell (p := ⟨g', o' + q * 3, none⟩) (by first | omega | (simp; done) | (simp; omega))).trans (by first | assumption | go_simp)
            have A0 : Hid (∀ zc : WC C, Calls Try.prog 91 #[.agg #[.int .i64 n, .slice (some ⟨g', o', none⟩) k c], .int .i64 (q : Int)] zc.w fun e w2 => e = .returned (.bool true) ∧ ∃ y : WC C, w2 = y.w) := Lib.hid (fun zc => wc_calls ((HCZ.out zc.w).mono fun e w2 k => ⟨k.1, qc _ ((qb _ zc.h).trans (k.2.mono (qb _ zc.h).size))⟩))
            have A1 : Hid (∀ zc : WC C, Calls Try.prog 91 #[.agg #[.int .i64 n, .slice (some ⟨g', o', none⟩) k c], .int .i64 (r : Int)] zc.w fun e w2 => e = .returned (.bool true) ∧ ∃ y : WC C, w2 = y.w) := Lib.hid (fun zc => wc_calls ((HCB.out zc.w).mono fun e w2 k => ⟨k.1, qc _ ((qb _ zc.h).trans (k.2.mono (qb _ zc.h).size))⟩))
            have nwc : Nonempty (WC C) := ⟨⟨_, hC0⟩⟩
            clear hC
            refine region_wc C (by kernel_rfl) (by kernel_rfl) hC0 ?_
            repeat (go_big_quiet_step (first | (go_at_call_of 91 (Value.int .i64 (q : Int)); exact A0.out _) | (go_at_call_of 91 (Value.int .i64 (r : Int)); exact A1.out _)))
            refine wpQuiet_nil ?_
            rintro _ ⟨xq, rfl⟩
            have bq := qb _ xq.h
            have g0 := q0 xq
            have g1 := q1 xq
            have g2 := q2 xq
            have g3 := q3 xq
            obtain ⟨wq, hwq⟩ : ∃ wq, wq = xq.w := ⟨_, rfl⟩
            rw [← hwq] at bq g0 g1 g2 g3 ⊢
            clear hwq xq nwc hC0 qb qc q0 q1 q2 q3 A0 A1 C
            go_wp2_with fail
            go_roundw
            case rel => exact ⟨j + 1, by omega, by go_num, closedTo_next es zs (by rw [HLK.out, HVU.out]; simp) HCL.out, g0, g1, (hbw.trans (bq.mono hbw.size)), Nat.lt_of_lt_of_le hsz bq.size⟩
            case measure => simp [intOf]; omega
          · have hne : (y.v != x.u) = true := by simp [hvu]
            go_wp2_with fail
            obtain ⟨C, hC⟩ : ∃ C : World → Prop, C = fun W => Below wr.heap.size wr W := ⟨_, rfl⟩
            have qb : ∀ W, C W → Below wr.heap.size wr W := fun W h => by rw [hC] at h; exact h
            have qc : ∀ W, Below wr.heap.size wr W → C W := fun W h => by rw [hC]; exact h
            have hC0 : C (World.drew wr) := qc _ (Below.refl _ _).drew
            have q0 : ∀ zc : WC C, zc.w.cell? ⟨w.heap.size, 0, none⟩ = some (.int .i64 n) := fun zc => ((qb _ zc.h).cell (p := ⟨w.heap.size, 0, none⟩) (by first | omega | (simp; done) | (simp; omega))).trans (by first | assumption | go_simp)
            have q1 : ∀ zc : WC C, zc.w.cell? ⟨w.heap.size, 1, none⟩ = some (.slice (some ⟨g', o', none⟩) k c) := fun zc => ((qb _ zc.h).cell (p := ⟨w.heap.size, 1, none⟩) (by first | omega | (simp; done) | (simp; omega))).trans (by first | assumption | go_simp)
            have q2 : ∀ zc : WC C, zc.w.cell? ⟨g', o' + r * 3 + 1, none⟩ = some (.int .i64 y.v) := fun zc => ((qb _ zc.h).cell (p := ⟨g', o' + r * 3 + 1, none⟩) (by first | omega | (simp; done) | (simp; omega))).trans (by first | assumption | go_simp)
            have q3 : ∀ zc : WC C, zc.w.cell? ⟨g', o' + q * 3, none⟩ = some (.int .i64 x.u) := fun zc => ((qb _ zc.h).cell (p := ⟨g', o' + q * 3, none⟩) (by first | omega | (simp; done) | (simp; omega))).trans (by first | assumption | go_simp)
            have A0 : Hid (∀ zc : WC C, Calls Try.prog 91 #[.agg #[.int .i64 n, .slice (some ⟨g', o', none⟩) k c], .int .i64 (q : Int)] zc.w fun e w2 => e = .returned (.bool true) ∧ ∃ y : WC C, w2 = y.w) := Lib.hid (fun zc => wc_calls ((HCZ.out zc.w).mono fun e w2 k => ⟨k.1, qc _ ((qb _ zc.h).trans (k.2.mono (qb _ zc.h).size))⟩))
            have A1 : Hid (∀ zc : WC C, Calls Try.prog 91 #[.agg #[.int .i64 n, .slice (some ⟨g', o', none⟩) k c], .int .i64 (r : Int)] zc.w fun e w2 => e = .returned (.bool true) ∧ ∃ y : WC C, w2 = y.w) := Lib.hid (fun zc => wc_calls ((HCB.out zc.w).mono fun e w2 k => ⟨k.1, qc _ ((qb _ zc.h).trans (k.2.mono (qb _ zc.h).size))⟩))
            have nwc : Nonempty (WC C) := ⟨⟨_, hC0⟩⟩
            clear hC
            refine region_wc C (by kernel_rfl) (by kernel_rfl) hC0 ?_
            repeat (go_big_quiet_step (first | (go_at_call_of 91 (Value.int .i64 (q : Int)); exact A0.out _) | (go_at_call_of 91 (Value.int .i64 (r : Int)); exact A1.out _)))
            refine wpQuiet_nil ?_
            rintro _ ⟨xq, rfl⟩
            have bq := qb _ xq.h
            have g0 := q0 xq
            have g1 := q1 xq
            have g2 := q2 xq
            have g3 := q3 xq
            obtain ⟨wq, hwq⟩ : ∃ wq, wq = xq.w := ⟨_, rfl⟩
            rw [← hwq] at bq g0 g1 g2 g3 ⊢
            clear hwq xq nwc hC0 qb qc q0 q1 q2 q3 A0 A1 C
            go_wp2_with fail
            go_ret
            exact ⟨ret_b (by rw [closedTo_not es zs (by rw [HLK.out, decide_eq_false hvu]; rfl) m hlt]; rfl), (hbw.trans (bq.mono hbw.size))⟩
        · rw [decide_eq_false hbn] at hcb
          rw [show inE es b = false from by unfold inE; rw [HL.out]; exact decide_eq_false hbn] at hlk
          have HCB := Lib.hid hcb
          have HLK := Lib.hid hlk
          clear hcb hlk hx hc'
          go_wp2_with fail
          obtain ⟨C, hC⟩ : ∃ C : World → Prop, C = fun W => Below wr.heap.size wr W := ⟨_, rfl⟩
          have qb : ∀ W, C W → Below wr.heap.size wr W := fun W h => by rw [hC] at h; exact h
          have qc : ∀ W, Below wr.heap.size wr W → C W := fun W h => by rw [hC]; exact h
          have hC0 : C (World.drew wr) := qc _ (Below.refl _ _).drew
          have q0 : ∀ zc : WC C, zc.w.cell? ⟨w.heap.size, 0, none⟩ = some (.int .i64 n) := fun zc => ((qb _ zc.h).cell (p := ⟨w.heap.size, 0, none⟩) (by first | omega | (simp; done) | (simp; omega))).trans (by first | assumption | go_simp)
          have q1 : ∀ zc : WC C, zc.w.cell? ⟨w.heap.size, 1, none⟩ = some (.slice (some ⟨g', o', none⟩) k c) := fun zc => ((qb _ zc.h).cell (p := ⟨w.heap.size, 1, none⟩) (by first | omega | (simp; done) | (simp; omega))).trans (by first | assumption | go_simp)
          have A0 : Hid (∀ zc : WC C, Calls Try.prog 91 #[.agg #[.int .i64 n, .slice (some ⟨g', o', none⟩) k c], .int .i64 (q : Int)] zc.w fun e w2 => e = .returned (.bool true) ∧ ∃ y : WC C, w2 = y.w) := Lib.hid (fun zc => wc_calls ((HCZ.out zc.w).mono fun e w2 k => ⟨k.1, qc _ ((qb _ zc.h).trans (k.2.mono (qb _ zc.h).size))⟩))
          have A1 : Hid (∀ zc : WC C, Calls Try.prog 91 #[.agg #[.int .i64 n, .slice (some ⟨g', o', none⟩) k c], .int .i64 b] zc.w fun e w2 => e = .returned (.bool false) ∧ ∃ y : WC C, w2 = y.w) := Lib.hid (fun zc => wc_calls ((HCB.out zc.w).mono fun e w2 k => ⟨k.1, qc _ ((qb _ zc.h).trans (k.2.mono (qb _ zc.h).size))⟩))
          have nwc : Nonempty (WC C) := ⟨⟨_, hC0⟩⟩
          clear hC
          refine region_wc C (by kernel_rfl) (by kernel_rfl) hC0 ?_
          repeat (go_big_quiet_step (first | (go_at_call_of 91 (Value.int .i64 (q : Int)); exact A0.out _) | (go_at_call_of 91 (Value.int .i64 b); exact A1.out _)))
          refine wpQuiet_nil ?_
          rintro _ ⟨xq, rfl⟩
          have bq := qb _ xq.h
          have g0 := q0 xq
          have g1 := q1 xq
          obtain ⟨wq, hwq⟩ : ∃ wq, wq = xq.w := ⟨_, rfl⟩
          rw [← hwq] at bq g0 g1 ⊢
          clear hwq xq nwc hC0 qb qc q0 q1 A0 A1 C
          go_wp2_with fail
          go_ret
          exact ⟨ret_b (by rw [closedTo_not es zs (by rw [HLK.out]; rfl) m hlt]; rfl), (hbw.trans (bq.mono hbw.size))⟩
      · rw [decide_eq_false hin] at hcz
        rw [show inE es z = false from by unfold inE; rw [HL.out]; exact decide_eq_false hin] at hlk
        have HCZ := Lib.hid hcz
        have HLK := Lib.hid hlk
        clear hcz hcb hlk
        go_wp2_with fail
        obtain ⟨C, hC⟩ : ∃ C : World → Prop, C = fun W => Below wr.heap.size wr W := ⟨_, rfl⟩
        have qb : ∀ W, C W → Below wr.heap.size wr W := fun W h => by rw [hC] at h; exact h
        have qc : ∀ W, Below wr.heap.size wr W → C W := fun W h => by rw [hC]; exact h
        have hC0 : C (World.drew wr) := qc _ (Below.refl _ _).drew
        have q0 : ∀ zc : WC C, zc.w.cell? ⟨w.heap.size, 0, none⟩ = some (.int .i64 n) := fun zc => ((qb _ zc.h).cell (p := ⟨w.heap.size, 0, none⟩) (by first | omega | (simp; done) | (simp; omega))).trans (by first | assumption | go_simp)
        have q1 : ∀ zc : WC C, zc.w.cell? ⟨w.heap.size, 1, none⟩ = some (.slice A k c) := fun zc => ((qb _ zc.h).cell (p := ⟨w.heap.size, 1, none⟩) (by first | omega | (simp; done) | (simp; omega))).trans (by first | assumption | go_simp)
        have A0 : Hid (∀ zc : WC C, Calls Try.prog 91 #[.agg #[.int .i64 n, .slice A k c], .int .i64 z] zc.w fun e w2 => e = .returned (.bool false) ∧ ∃ y : WC C, w2 = y.w) := Lib.hid (fun zc => wc_calls ((HCZ.out zc.w).mono fun e w2 k => ⟨k.1, qc _ ((qb _ zc.h).trans (k.2.mono (qb _ zc.h).size))⟩))
        have nwc : Nonempty (WC C) := ⟨⟨_, hC0⟩⟩
        clear hC
        refine region_wc C (by kernel_rfl) (by kernel_rfl) hC0 ?_
        repeat (go_big_quiet_step (first | (go_at_call 91; exact A0.out _)))
        refine wpQuiet_nil ?_
        rintro _ ⟨xq, rfl⟩
        have bq := qb _ xq.h
        have g0 := q0 xq
        have g1 := q1 xq
        obtain ⟨wq, hwq⟩ : ∃ wq, wq = xq.w := ⟨_, rfl⟩
        rw [← hwq] at bq g0 g1 ⊢
        clear hwq xq nwc hC0 qb qc q0 q1 A0 C
        go_wp2_with fail
        go_ret
        exact ⟨ret_b (by rw [closedTo_not es zs (by rw [HLK.out]; rfl) m hlt]; rfl), (hbw.trans (bq.mono hbw.size))⟩
    · have : j = m := by omega
      subst this
      by_cases h0 : 0 < j
      · have h0i : (0 : Int) < (j : Int) := by omega
        go_wp2_with fail
        go_ret
        exact ⟨ret_b (by rw [HCL.out]; simp [h0]), hbw⟩
      · have h0i : ¬ ((0 : Int) < (j : Int)) := by omega
        go_wp2_with fail
        go_ret
        exact ⟨ret_b (by first | rfl | (rw [HCL.out]; simp; omega)), hbw⟩

end Go.Proofs.Ytdjaiijgdflopaa
