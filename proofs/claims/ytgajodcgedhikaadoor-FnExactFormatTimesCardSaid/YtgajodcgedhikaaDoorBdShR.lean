/-
  WALK of spec.l08Tie.
  WALKS of spec.ShowOk, FreeTie, IsFree, WatcherOf.
-/
import Derived.Test.YtgajodcgedhikaaDoorShQ
import Derived.Deep.RegionHeld3
import Derived.Deep.Cut
import Derived.Deep.CutRange
namespace Go.Proofs.YtgajodcgedhikaaDoor
open Go.RowKit
set_option linter.unusedVariables false
set_option linter.unusedSimpArgs false

theorem tiB_at {ns : List GN} {ts : List GT} {i : Nat} {u v lo hi : Int} {fr : Bool} (h : ts[i]? = some ⟨u, v, lo, hi, fr⟩) : tiB ns ts i = ((decide (0 ≤ u) && decide (u ≤ (ns.length : Int) - 1)) && ((decide (0 ≤ v) && decide (v ≤ (ns.length : Int) - 1)) && (decide (u ≠ v) && (decide (-20 ≤ lo) && (decide (hi ≤ 20) && (decide (lo ≤ hi) &&
    (!fr || (decide (1 ≤ lo) && (decide (v ≠ 0) && (decide ((ns[v.toNat]?.getD gN0).wat = 0) && (decide ((ns[u.toNat]?.getD gN0).lab = (ns[v.toNat]?.getD gN0).lab) && decide (freR ts v = i))))))))))))  := by unfold tiB; rw [h]; rfl
theorem tie_facts {w : World} {A : Option Addr} {ts : List GT} (h : TieAt w A ts) {j : Nat} {u v lo hi : Int} {fr : Bool} (he : ts[j]? = some ⟨u, v, lo, hi, fr⟩) : ∃ g o, A = some ⟨g, o, none⟩ ∧ g < w.heap.size ∧ w.cell? ⟨g, o + j * 5, none⟩ = some (.int .i64 u) ∧ w.cell? ⟨g, o + j * 5 + 1, none⟩ = some (.int .i64 v) ∧ w.cell? ⟨g, o + j * 5 + 2, none⟩ = some (.int .i64 lo) ∧ w.cell? ⟨g, o + j * 5 + 3, none⟩ = some (.int .i64 hi) ∧ w.cell? ⟨g, o + j * 5 + 4, none⟩ = some (.bool fr) := by
  obtain ⟨hj, he⟩ := List.getElem?_eq_some_iff.1 he
  obtain ⟨g, o, hA, hg, hc⟩ := h (by omega)
  obtain ⟨c0, c1, c2, c3, c4⟩ := hc j hj
  rw [he] at c0 c1 c2 c3 c4
  exact ⟨g, o, hA, hg, c0, c1, c2, c3, c4⟩
theorem same_below (a b : List Int) (A : Option Addr) (k c : Nat) (B : Option Addr) (m d : Nat) (w : World) (hl : a.length = k) (hm : k ≤ 1048576) (hlb : b.length = m) (hmb : m ≤ 1048576) (hr : RowAt w A (a.map intV)) (hrb : RowAt w B (b.map intV)) : Calls Tryd.prog 56 #[.slice A k c, .slice B m d] w fun e w' => e = .returned (.bool (decide (a = b))) ∧ Below w.heap.size w w' := (spec_l08Same a b A k c B m d w hl hm hlb hmb hr hrb).mono fun e w' k => ⟨k.1, by rw [← k.2]; exact Below.refl _ _⟩

set_option maxRecDepth 100000 in
set_option maxHeartbeats 16000000 in
theorem spec_l08Tie (s : GS) (i : Nat) (A : Option Addr) (k c : Nat) (B : Option Addr) (m d : Nat) (w : World) (hs : ShB s) (hi : i < m) (ha : ShowAt w s A k B m) :
    Calls Tryd.prog 37 #[shV A k c B m d s.h, .int .i64 i] w fun e w' => e = .returned (.bool (tiB s.ns s.ts i)) ∧ Below w.heap.size w w' := by
  have hkk : k ≤ 1048576 := by have := hs.ns; have := ha.ln; omega
  have hmm : m ≤ 1048576 := by have := hs.ts; have := ha.lt; omega
  have HLN := Lib.hid ha.ln
  have HLT := Lib.hid ha.lt
  have HEACH := Lib.hid hs.each
  have HFRE := Lib.hid (fun p W h => spec_l08Free s p A k c B m d W hmm h)
  have HA := Lib.hid ha
  clear ha hs
  obtain ⟨h, hh⟩ : ∃ h, h = s.h := ⟨_, rfl⟩
  rw [← hh] at HFRE
  rw [← hh]
  clear hh
  unfold shV at HFRE ⊢
  obtain ⟨⟨u, v, lo, hi2, fr⟩, he⟩ : ∃ e, s.ts[i]? = some e := ⟨_, List.getElem?_eq_getElem (by have := HLT.out; omega)⟩
  have HEQ := Lib.hid (tiB_at (ns := s.ns) he)
  rw [HLN.out] at HEQ
  obtain ⟨gt, ot, rfl, hgt, t0, t1, t2, t3, t4⟩ := tie_facts HA.out.ties he
  clear he
  obtain ⟨w1, hw1⟩ : ∃ W, W = (w.alloc (.cells #[.slice A k c, .slice (some ⟨gt, ot, none⟩) m d, .int .i64 h] 31)).alloc (.cells #[.int .i64 u, .int .i64 v, .int .i64 lo, .int .i64 hi2, .bool fr] 48) := ⟨_, rfl⟩
  have B_w1 : Below w.heap.size w w1 := by rw [hw1]; exact (by repeat (first | exact Below.refl _ _ | refine below_step (by assumption) (by first | omega | (simp; done) | (simp; omega)) ?_ | refine below_drewN ?_ _ | refine Below.drew ?_ | refine Below.setCell ?_ (by first | omega | (simp; done) | (simp; omega)) _ | refine Below.alloc ?_ (by first | omega | (simp; done) | (simp; omega)) _))
  have z_w1 : w.heap.size + 1 < w1.heap.size := by rw [hw1]; simp
  have c0_w1 : w1.cell? ⟨w.heap.size, 0, none⟩ = some (.slice A k c) := by rw [hw1]; go_simp
  have c1_w1 : w1.cell? ⟨w.heap.size, 1, none⟩ = some (.slice (some ⟨gt, ot, none⟩) m d) := by rw [hw1]; go_simp
  have c2_w1 : w1.cell? ⟨w.heap.size, 2, none⟩ = some (.int .i64 h) := by rw [hw1]; go_simp
  have e0_w1 : w1.cell? ⟨w.heap.size + 1, 0, none⟩ = some (.int .i64 u) := by rw [hw1]; go_simp
  have e1_w1 : w1.cell? ⟨w.heap.size + 1, 1, none⟩ = some (.int .i64 v) := by rw [hw1]; go_simp
  have e2_w1 : w1.cell? ⟨w.heap.size + 1, 2, none⟩ = some (.int .i64 lo) := by rw [hw1]; go_simp
  have e3_w1 : w1.cell? ⟨w.heap.size + 1, 3, none⟩ = some (.int .i64 hi2) := by rw [hw1]; go_simp
  have e4_w1 : w1.cell? ⟨w.heap.size + 1, 4, none⟩ = some (.bool fr) := by rw [hw1]; go_simp
  have HA1 := Lib.hid (HA.out.below B_w1)
  have BW1 := Lib.hid B_w1
  have HW1 := Lib.hid hw1
  have hsub : IntKind.i64.wrap ((k : Int) - 1) = (k : Int) - 1 := (IntWalk.i64_left _).trans (IntWalk.wrap64_in _ ⟨by omega, by omega⟩)
  have hi0 : (0 : Int) ≤ (i : Int) := by omega
  have him : (i : Int) < (m : Int) := by omega
  have HI1 := Lib.hid (l01In_any u 0 ((k : Int) - 1))
  have HI2 := Lib.hid (l01In_any v 0 ((k : Int) - 1))
  obtain ⟨b1, hb1⟩ : ∃ b, b = (decide (0 ≤ u) && decide (u ≤ (k : Int) - 1)) := ⟨_, rfl⟩
  obtain ⟨b2, hb2⟩ : ∃ b, b = (decide (0 ≤ v) && decide (v ≤ (k : Int) - 1)) := ⟨_, rfl⟩
  rw [← hb1] at HI1 HEQ
  rw [← hb2] at HI2 HEQ
  have HB1 := Lib.hid hb1
  have HB2 := Lib.hid hb2
  clear hb1 hb2 hw1 B_w1
  go_enter Tryd.func37, Tryd.ntmps37
  go_upto_region 3 with (fail)
  rw [← HW1.out]
  clear t0 t1 t2 t3 t4 HW1 hsub
  cases b1 with
  | false =>
    go_wp2_with fail
    refine (HI1.out _).mono ?_
    rintro x wx ⟨rfl, rfl⟩
    go_wp2_with fail
    go_ret
    exact ⟨ret_b (by rw [HEQ.out]; rfl), BW1.out⟩
  | true =>
    cases b2 with
    | false =>
      go_wp2_with fail
      refine (HI1.out _).mono ?_
      rintro x wx ⟨rfl, rfl⟩
      go_wp2_with fail
      refine (HI2.out _).mono ?_
      rintro x wx ⟨rfl, rfl⟩
      go_wp2_with fail
      go_ret
      exact ⟨ret_b (by rw [HEQ.out]; rfl), BW1.out⟩
    | true =>
      go_wp2_with fail
      refine (HI1.out _).mono ?_
      rintro x wx ⟨rfl, rfl⟩
      go_wp2_with fail
      refine (HI2.out _).mono ?_
      rintro x wx ⟨rfl, rfl⟩
      have hu := HB1.out.symm
      rw [Bool.and_eq_true] at hu
      have hu0 := of_decide_eq_true hu.1
      have hu1 := of_decide_eq_true hu.2
      have hv := HB2.out.symm
      rw [Bool.and_eq_true] at hv
      have hv0 := of_decide_eq_true hv.1
      have hv1 := of_decide_eq_true hv.2
      clear hu hv
      by_cases huv : u = v
      · have HX0 := Lib.hid (decide_eq_false (show ¬ (u ≠ v) from fun q => q huv))
        have hq : (u == v) = true := by simp [huv]
        clear huv
        go_wp2_with fail
        go_ret
        exact ⟨ret_b (by rw [HEQ.out, HX0.out]; rfl), BW1.out⟩
      · have HX0 := Lib.hid (decide_eq_true (show u ≠ v from huv))
        have hq : (u == v) = false := by simp [huv]
        clear huv
        by_cases hlo : lo < -20
        · have HX1 := Lib.hid (decide_eq_false (show ¬ (-20 ≤ lo) by omega))
          go_wp2_with fail
          go_ret
          exact ⟨ret_b (by rw [HEQ.out, HX0.out, HX1.out]; rfl), BW1.out⟩
        · have HX1 := Lib.hid (decide_eq_true (show -20 ≤ lo by omega))
          by_cases hhi : 20 < hi2
          · have HX2 := Lib.hid (decide_eq_false (show ¬ (hi2 ≤ 20) by omega))
            go_wp2_with fail
            go_ret
            exact ⟨ret_b (by rw [HEQ.out, HX0.out, HX1.out, HX2.out]; rfl), BW1.out⟩
          · have HX2 := Lib.hid (decide_eq_true (show hi2 ≤ 20 by omega))
            by_cases hlh : hi2 < lo
            · have HX3 := Lib.hid (decide_eq_false (show ¬ (lo ≤ hi2) by omega))
              go_wp2_with fail
              go_ret
              exact ⟨ret_b (by rw [HEQ.out, HX0.out, HX1.out, HX2.out, HX3.out]; rfl), BW1.out⟩
            · have HX3 := Lib.hid (decide_eq_true (show lo ≤ hi2 by omega))
              go_upto_region 5 with (fail)
              obtain ⟨nu, rfl⟩ : ∃ n : Nat, u = n := ⟨u.toNat, by omega⟩
              obtain ⟨nv, rfl⟩ : ∃ n : Nat, v = n := ⟨v.toNat, by omega⟩
              obtain ⟨f, hf⟩ : ∃ f, s.ns[nu]? = some f := ⟨_, List.getElem?_eq_getElem (by have := HLN.out; omega)⟩
              obtain ⟨f2, hf2⟩ : ∃ f, s.ns[nv]? = some f := ⟨_, List.getElem?_eq_getElem (by have := HLN.out; omega)⟩
              have HEQ2 := HEQ.out
              have hnu : ((nu : Nat) : Int).toNat = nu := by omega
              have hnv : ((nv : Nat) : Int).toNat = nv := by omega
              rw [hnu, hnv, hf, hf2, Option.getD_some, Option.getD_some] at HEQ2
              have HEQ := Lib.hid HEQ2
              obtain ⟨g, o, Lu, cu, rfl, hg, a0, a1, a2, hra⟩ := node_facts HA1.out.nodes hf
              obtain ⟨g2, o2, Lv, cv, hA2, _, v0, v1, v2, hrv⟩ := node_facts HA1.out.nodes hf2
              injection hA2 with hA2
              injection hA2 with hA3 hA4
              subst hA3 hA4
              have hfm := (HEACH.out f (List.mem_of_getElem? hf)).2
              have hfm2 := (HEACH.out f2 (List.mem_of_getElem? hf2)).2
              obtain ⟨fl, hfl⟩ : ∃ q, q = f.lab.length := ⟨_, rfl⟩
              obtain ⟨fl2, hfl2⟩ : ∃ q, q = f2.lab.length := ⟨_, rfl⟩
              rw [← hfl] at a1 hfm
              rw [← hfl2] at v1 hfm2
              obtain ⟨sm, hsm⟩ : ∃ b, b = decide (f.lab = f2.lab) := ⟨_, rfl⟩
              have hsame := fun W h1 h2 => same_below f.lab f2.lab Lu fl cu Lv fl2 cv W hfl.symm hfm hfl2.symm hfm2 h1 h2
              rw [← hsm] at hsame HEQ
              have HSM := Lib.hid hsame
              obtain ⟨fz, hfz⟩ : ∃ b, b = freR s.ts nv := ⟨_, rfl⟩
              have hfree := fun W h1 => HFRE.out nv W h1
              rw [← hfz] at hfree HEQ
              have HFZ := Lib.hid hfree
              have HRA := Lib.hid hra
              have HRV := Lib.hid hrv
              have hnu0 : (0 : Int) ≤ (nu : Int) := by omega
              have hnuk : (nu : Int) < (k : Int) := by omega
              have hnv0 : (0 : Int) ≤ (nv : Int) := by omega
              have hnvk : (nv : Int) < (k : Int) := by omega
              have z0_w1 : w.heap.size < w1.heap.size := by omega
              clear hf hf2 HEQ2 hnu hnv hfl hfl2 hsm hsame hfz hfree hra hrv hq hu0 hu1 hv0 hv1
              go_upto_region 5 with (fail)
              cases fr with
              | false =>
                obtain ⟨C, hC⟩ : ∃ C : World → Prop, C = fun W => Below w1.heap.size w1 W := ⟨_, rfl⟩
                have qb : ∀ W, C W → Below w1.heap.size w1 W := fun W h => by rw [hC] at h; exact h
                have qc : ∀ W, Below w1.heap.size w1 W → C W := fun W h => by rw [hC]; exact h
                have hC0 : C (World.drew w1) := qc _ (Below.refl _ _).drew
                have qf0 : ∀ zc : WC C, zc.w.cell? ⟨w.heap.size, 0, none⟩ = some (.slice (some ⟨g, o, none⟩) k c) := fun zc => ((qb _ zc.h).cell (p := ⟨w.heap.size, 0, none⟩) (by first | omega | (simp; done) | (simp; omega))).trans (by first | assumption | go_simp)
                have qf1 : ∀ zc : WC C, zc.w.cell? ⟨w.heap.size, 1, none⟩ = some (.slice (some ⟨gt, ot, none⟩) m d) := fun zc => ((qb _ zc.h).cell (p := ⟨w.heap.size, 1, none⟩) (by first | omega | (simp; done) | (simp; omega))).trans (by first | assumption | go_simp)
                have qf2 : ∀ zc : WC C, zc.w.cell? ⟨w.heap.size, 2, none⟩ = some (.int .i64 h) := fun zc => ((qb _ zc.h).cell (p := ⟨w.heap.size, 2, none⟩) (by first | omega | (simp; done) | (simp; omega))).trans (by first | assumption | go_simp)
                have qf3 : ∀ zc : WC C, zc.w.cell? ⟨w.heap.size + 1, 0, none⟩ = some (.int .i64 nu) := fun zc => ((qb _ zc.h).cell (p := ⟨w.heap.size + 1, 0, none⟩) (by first | omega | (simp; done) | (simp; omega))).trans (by first | assumption | go_simp)
                have qf4 : ∀ zc : WC C, zc.w.cell? ⟨w.heap.size + 1, 1, none⟩ = some (.int .i64 nv) := fun zc => ((qb _ zc.h).cell (p := ⟨w.heap.size + 1, 1, none⟩) (by first | omega | (simp; done) | (simp; omega))).trans (by first | assumption | go_simp)
                have qf5 : ∀ zc : WC C, zc.w.cell? ⟨w.heap.size + 1, 2, none⟩ = some (.int .i64 lo) := fun zc => ((qb _ zc.h).cell (p := ⟨w.heap.size + 1, 2, none⟩) (by first | omega | (simp; done) | (simp; omega))).trans (by first | assumption | go_simp)
                have qf6 : ∀ zc : WC C, zc.w.cell? ⟨w.heap.size + 1, 3, none⟩ = some (.int .i64 hi2) := fun zc => ((qb _ zc.h).cell (p := ⟨w.heap.size + 1, 3, none⟩) (by first | omega | (simp; done) | (simp; omega))).trans (by first | assumption | go_simp)
                have qf7 : ∀ zc : WC C, zc.w.cell? ⟨w.heap.size + 1, 4, none⟩ = some (.bool false) := fun zc => ((qb _ zc.h).cell (p := ⟨w.heap.size + 1, 4, none⟩) (by first | omega | (simp; done) | (simp; omega))).trans (by first | assumption | go_simp)
                have qf8 : ∀ zc : WC C, zc.w.cell? ⟨g, o + nu * 3 + 1, none⟩ = some (.slice Lu fl cu) := fun zc => ((qb _ zc.h).cell (p := ⟨g, o + nu * 3 + 1, none⟩) (by first | omega | (simp; done) | (simp; omega))).trans (by first | assumption | go_simp)
                have qf9 : ∀ zc : WC C, zc.w.cell? ⟨g, o + nv * 3 + 1, none⟩ = some (.slice Lv fl2 cv) := fun zc => ((qb _ zc.h).cell (p := ⟨g, o + nv * 3 + 1, none⟩) (by first | omega | (simp; done) | (simp; omega))).trans (by first | assumption | go_simp)
                have qf10 : ∀ zc : WC C, zc.w.cell? ⟨g, o + nv * 3 + 2, none⟩ = some (.int .i64 f2.wat) := fun zc => ((qb _ zc.h).cell (p := ⟨g, o + nv * 3 + 2, none⟩) (by first | omega | (simp; done) | (simp; omega))).trans (by first | assumption | go_simp)
                have nwc : Nonempty (WC C) := ⟨⟨_, hC0⟩⟩
                clear hC
                refine region_wc C (by kernel_rfl) (by kernel_rfl) hC0 ?_
                repeat (go_big_quiet_step (fail))
                refine wpQuiet_nil ?_
                rintro _ ⟨xq, rfl⟩
                have bq := qb _ xq.h
                have gf0 := qf0 xq
                have gf1 := qf1 xq
                have gf2 := qf2 xq
                have gf3 := qf3 xq
                have gf4 := qf4 xq
                have gf5 := qf5 xq
                have gf6 := qf6 xq
                have gf7 := qf7 xq
                have gf8 := qf8 xq
                have gf9 := qf9 xq
                have gf10 := qf10 xq
                obtain ⟨wq, hwq⟩ : ∃ wq, wq = xq.w := ⟨_, rfl⟩
                rw [← hwq] at bq gf0 gf1 gf2 gf3 gf4 gf5 gf6 gf7 gf8 gf9 gf10 ⊢
                clear hwq xq nwc hC0 qb qc qf0 qf1 qf2 qf3 qf4 qf5 qf6 qf7 qf8 qf9 qf10  C
                go_wp2_with fail
                go_ret
                exact ⟨ret_b (by rw [HEQ.out, HX0.out, HX1.out, HX2.out, HX3.out]; rfl), BW1.out.trans (bq.mono BW1.out.size)⟩
              | true =>
                by_cases h1 : 1 ≤ lo
                · have d1 : decide ((1 : Int) ≤ lo) = true := decide_eq_true h1
                  by_cases h2 : nv = 0
                  · have d2 : ((nv : Int) != 0) = false := by simp [h2]
                    have HY := Lib.hid (decide_eq_false (show ¬ ((nv : Int) ≠ 0) by omega))
                    have HY1 := Lib.hid d1
                    clear h2
                    obtain ⟨C, hC⟩ : ∃ C : World → Prop, C = fun W => Below w1.heap.size w1 W := ⟨_, rfl⟩
                    have qb : ∀ W, C W → Below w1.heap.size w1 W := fun W h => by rw [hC] at h; exact h
                    have qc : ∀ W, Below w1.heap.size w1 W → C W := fun W h => by rw [hC]; exact h
                    have hC0 : C (World.drew w1) := qc _ (Below.refl _ _).drew
                    have qf0 : ∀ zc : WC C, zc.w.cell? ⟨w.heap.size, 0, none⟩ = some (.slice (some ⟨g, o, none⟩) k c) := fun zc => ((qb _ zc.h).cell (p := ⟨w.heap.size, 0, none⟩) (by first | omega | (simp; done) | (simp; omega))).trans (by first | assumption | go_simp)
                    have qf1 : ∀ zc : WC C, zc.w.cell? ⟨w.heap.size, 1, none⟩ = some (.slice (some ⟨gt, ot, none⟩) m d) := fun zc => ((qb _ zc.h).cell (p := ⟨w.heap.size, 1, none⟩) (by first | omega | (simp; done) | (simp; omega))).trans (by first | assumption | go_simp)
                    have qf2 : ∀ zc : WC C, zc.w.cell? ⟨w.heap.size, 2, none⟩ = some (.int .i64 h) := fun zc => ((qb _ zc.h).cell (p := ⟨w.heap.size, 2, none⟩) (by first | omega | (simp; done) | (simp; omega))).trans (by first | assumption | go_simp)
                    have qf3 : ∀ zc : WC C, zc.w.cell? ⟨w.heap.size + 1, 0, none⟩ = some (.int .i64 nu) := fun zc => ((qb _ zc.h).cell (p := ⟨w.heap.size + 1, 0, none⟩) (by first | omega | (simp; done) | (simp; omega))).trans (by first | assumption | go_simp)
                    have qf4 : ∀ zc : WC C, zc.w.cell? ⟨w.heap.size + 1, 1, none⟩ = some (.int .i64 nv) := fun zc => ((qb _ zc.h).cell (p := ⟨w.heap.size + 1, 1, none⟩) (by first | omega | (simp; done) | (simp; omega))).trans (by first | assumption | go_simp)
                    have qf5 : ∀ zc : WC C, zc.w.cell? ⟨w.heap.size + 1, 2, none⟩ = some (.int .i64 lo) := fun zc => ((qb _ zc.h).cell (p := ⟨w.heap.size + 1, 2, none⟩) (by first | omega | (simp; done) | (simp; omega))).trans (by first | assumption | go_simp)
                    have qf6 : ∀ zc : WC C, zc.w.cell? ⟨w.heap.size + 1, 3, none⟩ = some (.int .i64 hi2) := fun zc => ((qb _ zc.h).cell (p := ⟨w.heap.size + 1, 3, none⟩) (by first | omega | (simp; done) | (simp; omega))).trans (by first | assumption | go_simp)
                    have qf7 : ∀ zc : WC C, zc.w.cell? ⟨w.heap.size + 1, 4, none⟩ = some (.bool true) := fun zc => ((qb _ zc.h).cell (p := ⟨w.heap.size + 1, 4, none⟩) (by first | omega | (simp; done) | (simp; omega))).trans (by first | assumption | go_simp)
                    have qf8 : ∀ zc : WC C, zc.w.cell? ⟨g, o + nu * 3 + 1, none⟩ = some (.slice Lu fl cu) := fun zc => ((qb _ zc.h).cell (p := ⟨g, o + nu * 3 + 1, none⟩) (by first | omega | (simp; done) | (simp; omega))).trans (by first | assumption | go_simp)
                    have qf9 : ∀ zc : WC C, zc.w.cell? ⟨g, o + nv * 3 + 1, none⟩ = some (.slice Lv fl2 cv) := fun zc => ((qb _ zc.h).cell (p := ⟨g, o + nv * 3 + 1, none⟩) (by first | omega | (simp; done) | (simp; omega))).trans (by first | assumption | go_simp)
                    have qf10 : ∀ zc : WC C, zc.w.cell? ⟨g, o + nv * 3 + 2, none⟩ = some (.int .i64 f2.wat) := fun zc => ((qb _ zc.h).cell (p := ⟨g, o + nv * 3 + 2, none⟩) (by first | omega | (simp; done) | (simp; omega))).trans (by first | assumption | go_simp)
                    have nwc : Nonempty (WC C) := ⟨⟨_, hC0⟩⟩
                    clear hC
                    refine region_wc C (by kernel_rfl) (by kernel_rfl) hC0 ?_
                    repeat (go_big_quiet_step (fail))
                    refine wpQuiet_nil ?_
                    rintro _ ⟨xq, rfl⟩
                    have bq := qb _ xq.h
                    have gf0 := qf0 xq
                    have gf1 := qf1 xq
                    have gf2 := qf2 xq
                    have gf3 := qf3 xq
                    have gf4 := qf4 xq
                    have gf5 := qf5 xq
                    have gf6 := qf6 xq
                    have gf7 := qf7 xq
                    have gf8 := qf8 xq
                    have gf9 := qf9 xq
                    have gf10 := qf10 xq
                    obtain ⟨wq, hwq⟩ : ∃ wq, wq = xq.w := ⟨_, rfl⟩
                    rw [← hwq] at bq gf0 gf1 gf2 gf3 gf4 gf5 gf6 gf7 gf8 gf9 gf10 ⊢
                    clear hwq xq nwc hC0 qb qc qf0 qf1 qf2 qf3 qf4 qf5 qf6 qf7 qf8 qf9 qf10  C
                    go_wp2_with fail
                    go_ret
                    exact ⟨ret_b (by rw [HEQ.out, HX0.out, HX1.out, HX2.out, HX3.out, HY1.out, HY.out]; rfl), BW1.out.trans (bq.mono BW1.out.size)⟩
                  · have d2 : ((nv : Int) != 0) = true := by simp; omega
                    have HY := Lib.hid (decide_eq_true (show ((nv : Int) ≠ 0) by omega))
                    have HY1 := Lib.hid d1
                    clear h2
                    by_cases h3 : f2.wat = 0
                    · have d3 : (f2.wat == 0) = true := by simp [h3]
                      have HY2 := Lib.hid (decide_eq_true h3)
                      clear h3
                      cases sm with
                      | false =>
                        obtain ⟨C, hC⟩ : ∃ C : World → Prop, C = fun W => Below w1.heap.size w1 W := ⟨_, rfl⟩
                        have qb : ∀ W, C W → Below w1.heap.size w1 W := fun W h => by rw [hC] at h; exact h
                        have qc : ∀ W, Below w1.heap.size w1 W → C W := fun W h => by rw [hC]; exact h
                        have hC0 : C (World.drew w1) := qc _ (Below.refl _ _).drew
                        have qf0 : ∀ zc : WC C, zc.w.cell? ⟨w.heap.size, 0, none⟩ = some (.slice (some ⟨g, o, none⟩) k c) := fun zc => ((qb _ zc.h).cell (p := ⟨w.heap.size, 0, none⟩) (by first | omega | (simp; done) | (simp; omega))).trans (by first | assumption | go_simp)
                        have qf1 : ∀ zc : WC C, zc.w.cell? ⟨w.heap.size, 1, none⟩ = some (.slice (some ⟨gt, ot, none⟩) m d) := fun zc => ((qb _ zc.h).cell (p := ⟨w.heap.size, 1, none⟩) (by first | omega | (simp; done) | (simp; omega))).trans (by first | assumption | go_simp)
                        have qf2 : ∀ zc : WC C, zc.w.cell? ⟨w.heap.size, 2, none⟩ = some (.int .i64 h) := fun zc => ((qb _ zc.h).cell (p := ⟨w.heap.size, 2, none⟩) (by first | omega | (simp; done) | (simp; omega))).trans (by first | assumption | go_simp)
                        have qf3 : ∀ zc : WC C, zc.w.cell? ⟨w.heap.size + 1, 0, none⟩ = some (.int .i64 nu) := fun zc => ((qb _ zc.h).cell (p := ⟨w.heap.size + 1, 0, none⟩) (by first | omega | (simp; done) | (simp; omega))).trans (by first | assumption | go_simp)
                        have qf4 : ∀ zc : WC C, zc.w.cell? ⟨w.heap.size + 1, 1, none⟩ = some (.int .i64 nv) := fun zc => ((qb _ zc.h).cell (p := ⟨w.heap.size + 1, 1, none⟩) (by first | omega | (simp; done) | (simp; omega))).trans (by first | assumption | go_simp)
                        have qf5 : ∀ zc : WC C, zc.w.cell? ⟨w.heap.size + 1, 2, none⟩ = some (.int .i64 lo) := fun zc => ((qb _ zc.h).cell (p := ⟨w.heap.size + 1, 2, none⟩) (by first | omega | (simp; done) | (simp; omega))).trans (by first | assumption | go_simp)
                        have qf6 : ∀ zc : WC C, zc.w.cell? ⟨w.heap.size + 1, 3, none⟩ = some (.int .i64 hi2) := fun zc => ((qb _ zc.h).cell (p := ⟨w.heap.size + 1, 3, none⟩) (by first | omega | (simp; done) | (simp; omega))).trans (by first | assumption | go_simp)
                        have qf7 : ∀ zc : WC C, zc.w.cell? ⟨w.heap.size + 1, 4, none⟩ = some (.bool true) := fun zc => ((qb _ zc.h).cell (p := ⟨w.heap.size + 1, 4, none⟩) (by first | omega | (simp; done) | (simp; omega))).trans (by first | assumption | go_simp)
                        have qf8 : ∀ zc : WC C, zc.w.cell? ⟨g, o + nu * 3 + 1, none⟩ = some (.slice Lu fl cu) := fun zc => ((qb _ zc.h).cell (p := ⟨g, o + nu * 3 + 1, none⟩) (by first | omega | (simp; done) | (simp; omega))).trans (by first | assumption | go_simp)
                        have qf9 : ∀ zc : WC C, zc.w.cell? ⟨g, o + nv * 3 + 1, none⟩ = some (.slice Lv fl2 cv) := fun zc => ((qb _ zc.h).cell (p := ⟨g, o + nv * 3 + 1, none⟩) (by first | omega | (simp; done) | (simp; omega))).trans (by first | assumption | go_simp)
                        have qf10 : ∀ zc : WC C, zc.w.cell? ⟨g, o + nv * 3 + 2, none⟩ = some (.int .i64 f2.wat) := fun zc => ((qb _ zc.h).cell (p := ⟨g, o + nv * 3 + 2, none⟩) (by first | omega | (simp; done) | (simp; omega))).trans (by first | assumption | go_simp)
                        have A0 : Hid (∀ zc : WC C, Calls Tryd.prog 56 #[.slice Lu fl cu, .slice Lv fl2 cv] zc.w fun e w2 => e = .returned (.bool false) ∧ ∃ y : WC C, w2 = y.w) := Lib.hid (fun zc => wc_calls (((fun _ => HSM.out zc.w (HRA.out.below (qb _ zc.h)) (HRV.out.below (qb _ zc.h))) zc.w).mono fun e w2 k => ⟨k.1, qc _ ((qb _ zc.h).trans (k.2.mono (qb _ zc.h).size))⟩))
                        have nwc : Nonempty (WC C) := ⟨⟨_, hC0⟩⟩
                        clear hC
                        refine region_wc C (by kernel_rfl) (by kernel_rfl) hC0 ?_
                        repeat (go_big_quiet_step (first | (go_at_call 56; with_reducible exact A0.out _)))
                        refine wpQuiet_nil ?_
                        rintro _ ⟨xq, rfl⟩
                        have bq := qb _ xq.h
                        have gf0 := qf0 xq
                        have gf1 := qf1 xq
                        have gf2 := qf2 xq
                        have gf3 := qf3 xq
                        have gf4 := qf4 xq
                        have gf5 := qf5 xq
                        have gf6 := qf6 xq
                        have gf7 := qf7 xq
                        have gf8 := qf8 xq
                        have gf9 := qf9 xq
                        have gf10 := qf10 xq
                        obtain ⟨wq, hwq⟩ : ∃ wq, wq = xq.w := ⟨_, rfl⟩
                        rw [← hwq] at bq gf0 gf1 gf2 gf3 gf4 gf5 gf6 gf7 gf8 gf9 gf10 ⊢
                        clear hwq xq nwc hC0 qb qc qf0 qf1 qf2 qf3 qf4 qf5 qf6 qf7 qf8 qf9 qf10 A0 C
                        go_wp2_with fail
                        go_ret
                        exact ⟨ret_b (by rw [HEQ.out, HX0.out, HX1.out, HX2.out, HX3.out, HY1.out, HY.out, HY2.out]; rfl), BW1.out.trans (bq.mono BW1.out.size)⟩
                      | true =>
                        by_cases h4 : fz = (i : Int)
                        · have d4 : (fz == (i : Int)) = true := by simp [h4]
                          have HY3 := Lib.hid (decide_eq_true h4)
                          clear h4
                          obtain ⟨C, hC⟩ : ∃ C : World → Prop, C = fun W => Below w1.heap.size w1 W := ⟨_, rfl⟩
                          have qb : ∀ W, C W → Below w1.heap.size w1 W := fun W h => by rw [hC] at h; exact h
                          have qc : ∀ W, Below w1.heap.size w1 W → C W := fun W h => by rw [hC]; exact h
                          have hC0 : C (World.drew w1) := qc _ (Below.refl _ _).drew
                          have qf0 : ∀ zc : WC C, zc.w.cell? ⟨w.heap.size, 0, none⟩ = some (.slice (some ⟨g, o, none⟩) k c) := fun zc => ((qb _ zc.h).cell (p := ⟨w.heap.size, 0, none⟩) (by first | omega | (simp; done) | (simp; omega))).trans (by first | assumption | go_simp)
                          have qf1 : ∀ zc : WC C, zc.w.cell? ⟨w.heap.size, 1, none⟩ = some (.slice (some ⟨gt, ot, none⟩) m d) := fun zc => ((qb _ zc.h).cell (p := ⟨w.heap.size, 1, none⟩) (by first | omega | (simp; done) | (simp; omega))).trans (by first | assumption | go_simp)
                          have qf2 : ∀ zc : WC C, zc.w.cell? ⟨w.heap.size, 2, none⟩ = some (.int .i64 h) := fun zc => ((qb _ zc.h).cell (p := ⟨w.heap.size, 2, none⟩) (by first | omega | (simp; done) | (simp; omega))).trans (by first | assumption | go_simp)
                          have qf3 : ∀ zc : WC C, zc.w.cell? ⟨w.heap.size + 1, 0, none⟩ = some (.int .i64 nu) := fun zc => ((qb _ zc.h).cell (p := ⟨w.heap.size + 1, 0, none⟩) (by first | omega | (simp; done) | (simp; omega))).trans (by first | assumption | go_simp)
                          have qf4 : ∀ zc : WC C, zc.w.cell? ⟨w.heap.size + 1, 1, none⟩ = some (.int .i64 nv) := fun zc => ((qb _ zc.h).cell (p := ⟨w.heap.size + 1, 1, none⟩) (by first | omega | (simp; done) | (simp; omega))).trans (by first | assumption | go_simp)
                          have qf5 : ∀ zc : WC C, zc.w.cell? ⟨w.heap.size + 1, 2, none⟩ = some (.int .i64 lo) := fun zc => ((qb _ zc.h).cell (p := ⟨w.heap.size + 1, 2, none⟩) (by first | omega | (simp; done) | (simp; omega))).trans (by first | assumption | go_simp)
                          have qf6 : ∀ zc : WC C, zc.w.cell? ⟨w.heap.size + 1, 3, none⟩ = some (.int .i64 hi2) := fun zc => ((qb _ zc.h).cell (p := ⟨w.heap.size + 1, 3, none⟩) (by first | omega | (simp; done) | (simp; omega))).trans (by first | assumption | go_simp)
                          have qf7 : ∀ zc : WC C, zc.w.cell? ⟨w.heap.size + 1, 4, none⟩ = some (.bool true) := fun zc => ((qb _ zc.h).cell (p := ⟨w.heap.size + 1, 4, none⟩) (by first | omega | (simp; done) | (simp; omega))).trans (by first | assumption | go_simp)
                          have qf8 : ∀ zc : WC C, zc.w.cell? ⟨g, o + nu * 3 + 1, none⟩ = some (.slice Lu fl cu) := fun zc => ((qb _ zc.h).cell (p := ⟨g, o + nu * 3 + 1, none⟩) (by first | omega | (simp; done) | (simp; omega))).trans (by first | assumption | go_simp)
                          have qf9 : ∀ zc : WC C, zc.w.cell? ⟨g, o + nv * 3 + 1, none⟩ = some (.slice Lv fl2 cv) := fun zc => ((qb _ zc.h).cell (p := ⟨g, o + nv * 3 + 1, none⟩) (by first | omega | (simp; done) | (simp; omega))).trans (by first | assumption | go_simp)
                          have qf10 : ∀ zc : WC C, zc.w.cell? ⟨g, o + nv * 3 + 2, none⟩ = some (.int .i64 f2.wat) := fun zc => ((qb _ zc.h).cell (p := ⟨g, o + nv * 3 + 2, none⟩) (by first | omega | (simp; done) | (simp; omega))).trans (by first | assumption | go_simp)
                          have A0 : Hid (∀ zc : WC C, Calls Tryd.prog 56 #[.slice Lu fl cu, .slice Lv fl2 cv] zc.w fun e w2 => e = .returned (.bool true) ∧ ∃ y : WC C, w2 = y.w) := Lib.hid (fun zc => wc_calls (((fun _ => HSM.out zc.w (HRA.out.below (qb _ zc.h)) (HRV.out.below (qb _ zc.h))) zc.w).mono fun e w2 k => ⟨k.1, qc _ ((qb _ zc.h).trans (k.2.mono (qb _ zc.h).size))⟩))
                          have A1 : Hid (∀ zc : WC C, Calls Tryd.prog 57 #[.agg #[.slice (some ⟨g, o, none⟩) k c, .slice (some ⟨gt, ot, none⟩) m d, .int .i64 h], .int .i64 nv] zc.w fun e w2 => e = .returned (.int .i64 fz) ∧ ∃ y : WC C, w2 = y.w) := Lib.hid (fun zc => wc_calls (((fun _ => HFZ.out zc.w (HA1.out.below (qb _ zc.h))) zc.w).mono fun e w2 k => ⟨k.1, qc _ ((qb _ zc.h).trans (k.2.mono (qb _ zc.h).size))⟩))
                          have nwc : Nonempty (WC C) := ⟨⟨_, hC0⟩⟩
                          clear hC
                          refine region_wc C (by kernel_rfl) (by kernel_rfl) hC0 ?_
                          repeat (go_big_quiet_step (first | (go_at_call 56; with_reducible exact A0.out _) | (go_at_call 57; with_reducible exact A1.out _)))
                          refine wpQuiet_nil ?_
                          rintro _ ⟨xq, rfl⟩
                          have bq := qb _ xq.h
                          have gf0 := qf0 xq
                          have gf1 := qf1 xq
                          have gf2 := qf2 xq
                          have gf3 := qf3 xq
                          have gf4 := qf4 xq
                          have gf5 := qf5 xq
                          have gf6 := qf6 xq
                          have gf7 := qf7 xq
                          have gf8 := qf8 xq
                          have gf9 := qf9 xq
                          have gf10 := qf10 xq
                          obtain ⟨wq, hwq⟩ : ∃ wq, wq = xq.w := ⟨_, rfl⟩
                          rw [← hwq] at bq gf0 gf1 gf2 gf3 gf4 gf5 gf6 gf7 gf8 gf9 gf10 ⊢
                          clear hwq xq nwc hC0 qb qc qf0 qf1 qf2 qf3 qf4 qf5 qf6 qf7 qf8 qf9 qf10 A0 A1 C
                          go_wp2_with fail
                          go_ret
                          exact ⟨ret_b (by rw [HEQ.out, HX0.out, HX1.out, HX2.out, HX3.out, HY1.out, HY.out, HY2.out, HY3.out]; rfl), BW1.out.trans (bq.mono BW1.out.size)⟩
                        · have d4 : (fz == (i : Int)) = false := by simp [h4]
                          have HY3 := Lib.hid (decide_eq_false h4)
                          clear h4
                          obtain ⟨C, hC⟩ : ∃ C : World → Prop, C = fun W => Below w1.heap.size w1 W := ⟨_, rfl⟩
                          have qb : ∀ W, C W → Below w1.heap.size w1 W := fun W h => by rw [hC] at h; exact h
                          have qc : ∀ W, Below w1.heap.size w1 W → C W := fun W h => by rw [hC]; exact h
                          have hC0 : C (World.drew w1) := qc _ (Below.refl _ _).drew
                          have qf0 : ∀ zc : WC C, zc.w.cell? ⟨w.heap.size, 0, none⟩ = some (.slice (some ⟨g, o, none⟩) k c) := fun zc => ((qb _ zc.h).cell (p := ⟨w.heap.size, 0, none⟩) (by first | omega | (simp; done) | (simp; omega))).trans (by first | assumption | go_simp)
                          have qf1 : ∀ zc : WC C, zc.w.cell? ⟨w.heap.size, 1, none⟩ = some (.slice (some ⟨gt, ot, none⟩) m d) := fun zc => ((qb _ zc.h).cell (p := ⟨w.heap.size, 1, none⟩) (by first | omega | (simp; done) | (simp; omega))).trans (by first | assumption | go_simp)
                          have qf2 : ∀ zc : WC C, zc.w.cell? ⟨w.heap.size, 2, none⟩ = some (.int .i64 h) := fun zc => ((qb _ zc.h).cell (p := ⟨w.heap.size, 2, none⟩) (by first | omega | (simp; done) | (simp; omega))).trans (by first | assumption | go_simp)
                          have qf3 : ∀ zc : WC C, zc.w.cell? ⟨w.heap.size + 1, 0, none⟩ = some (.int .i64 nu) := fun zc => ((qb _ zc.h).cell (p := ⟨w.heap.size + 1, 0, none⟩) (by first | omega | (simp; done) | (simp; omega))).trans (by first | assumption | go_simp)
                          have qf4 : ∀ zc : WC C, zc.w.cell? ⟨w.heap.size + 1, 1, none⟩ = some (.int .i64 nv) := fun zc => ((qb _ zc.h).cell (p := ⟨w.heap.size + 1, 1, none⟩) (by first | omega | (simp; done) | (simp; omega))).trans (by first | assumption | go_simp)
                          have qf5 : ∀ zc : WC C, zc.w.cell? ⟨w.heap.size + 1, 2, none⟩ = some (.int .i64 lo) := fun zc => ((qb _ zc.h).cell (p := ⟨w.heap.size + 1, 2, none⟩) (by first | omega | (simp; done) | (simp; omega))).trans (by first | assumption | go_simp)
                          have qf6 : ∀ zc : WC C, zc.w.cell? ⟨w.heap.size + 1, 3, none⟩ = some (.int .i64 hi2) := fun zc => ((qb _ zc.h).cell (p := ⟨w.heap.size + 1, 3, none⟩) (by first | omega | (simp; done) | (simp; omega))).trans (by first | assumption | go_simp)
                          have qf7 : ∀ zc : WC C, zc.w.cell? ⟨w.heap.size + 1, 4, none⟩ = some (.bool true) := fun zc => ((qb _ zc.h).cell (p := ⟨w.heap.size + 1, 4, none⟩) (by first | omega | (simp; done) | (simp; omega))).trans (by first | assumption | go_simp)
                          have qf8 : ∀ zc : WC C, zc.w.cell? ⟨g, o + nu * 3 + 1, none⟩ = some (.slice Lu fl cu) := fun zc => ((qb _ zc.h).cell (p := ⟨g, o + nu * 3 + 1, none⟩) (by first | omega | (simp; done) | (simp; omega))).trans (by first | assumption | go_simp)
                          have qf9 : ∀ zc : WC C, zc.w.cell? ⟨g, o + nv * 3 + 1, none⟩ = some (.slice Lv fl2 cv) := fun zc => ((qb _ zc.h).cell (p := ⟨g, o + nv * 3 + 1, none⟩) (by first | omega | (simp; done) | (simp; omega))).trans (by first | assumption | go_simp)
                          have qf10 : ∀ zc : WC C, zc.w.cell? ⟨g, o + nv * 3 + 2, none⟩ = some (.int .i64 f2.wat) := fun zc => ((qb _ zc.h).cell (p := ⟨g, o + nv * 3 + 2, none⟩) (by first | omega | (simp; done) | (simp; omega))).trans (by first | assumption | go_simp)
                          have A0 : Hid (∀ zc : WC C, Calls Tryd.prog 56 #[.slice Lu fl cu, .slice Lv fl2 cv] zc.w fun e w2 => e = .returned (.bool true) ∧ ∃ y : WC C, w2 = y.w) := Lib.hid (fun zc => wc_calls (((fun _ => HSM.out zc.w (HRA.out.below (qb _ zc.h)) (HRV.out.below (qb _ zc.h))) zc.w).mono fun e w2 k => ⟨k.1, qc _ ((qb _ zc.h).trans (k.2.mono (qb _ zc.h).size))⟩))
                          have A1 : Hid (∀ zc : WC C, Calls Tryd.prog 57 #[.agg #[.slice (some ⟨g, o, none⟩) k c, .slice (some ⟨gt, ot, none⟩) m d, .int .i64 h], .int .i64 nv] zc.w fun e w2 => e = .returned (.int .i64 fz) ∧ ∃ y : WC C, w2 = y.w) := Lib.hid (fun zc => wc_calls (((fun _ => HFZ.out zc.w (HA1.out.below (qb _ zc.h))) zc.w).mono fun e w2 k => ⟨k.1, qc _ ((qb _ zc.h).trans (k.2.mono (qb _ zc.h).size))⟩))
                          have nwc : Nonempty (WC C) := ⟨⟨_, hC0⟩⟩
                          clear hC
                          refine region_wc C (by kernel_rfl) (by kernel_rfl) hC0 ?_
                          repeat (go_big_quiet_step (first | (go_at_call 56; with_reducible exact A0.out _) | (go_at_call 57; with_reducible exact A1.out _)))
                          refine wpQuiet_nil ?_
                          rintro _ ⟨xq, rfl⟩
                          have bq := qb _ xq.h
                          have gf0 := qf0 xq
                          have gf1 := qf1 xq
                          have gf2 := qf2 xq
                          have gf3 := qf3 xq
                          have gf4 := qf4 xq
                          have gf5 := qf5 xq
                          have gf6 := qf6 xq
                          have gf7 := qf7 xq
                          have gf8 := qf8 xq
                          have gf9 := qf9 xq
                          have gf10 := qf10 xq
                          obtain ⟨wq, hwq⟩ : ∃ wq, wq = xq.w := ⟨_, rfl⟩
                          rw [← hwq] at bq gf0 gf1 gf2 gf3 gf4 gf5 gf6 gf7 gf8 gf9 gf10 ⊢
                          clear hwq xq nwc hC0 qb qc qf0 qf1 qf2 qf3 qf4 qf5 qf6 qf7 qf8 qf9 qf10 A0 A1 C
                          go_wp2_with fail
                          go_ret
                          exact ⟨ret_b (by rw [HEQ.out, HX0.out, HX1.out, HX2.out, HX3.out, HY1.out, HY.out, HY2.out, HY3.out]; rfl), BW1.out.trans (bq.mono BW1.out.size)⟩
                    · have d3 : (f2.wat == 0) = false := by simp [h3]
                      have HY2 := Lib.hid (decide_eq_false h3)
                      clear h3
                      obtain ⟨C, hC⟩ : ∃ C : World → Prop, C = fun W => Below w1.heap.size w1 W := ⟨_, rfl⟩
                      have qb : ∀ W, C W → Below w1.heap.size w1 W := fun W h => by rw [hC] at h; exact h
                      have qc : ∀ W, Below w1.heap.size w1 W → C W := fun W h => by rw [hC]; exact h
                      have hC0 : C (World.drew w1) := qc _ (Below.refl _ _).drew
                      have qf0 : ∀ zc : WC C, zc.w.cell? ⟨w.heap.size, 0, none⟩ = some (.slice (some ⟨g, o, none⟩) k c) := fun zc => ((qb _ zc.h).cell (p := ⟨w.heap.size, 0, none⟩) (by first | omega | (simp; done) | (simp; omega))).trans (by first | assumption | go_simp)
                      have qf1 : ∀ zc : WC C, zc.w.cell? ⟨w.heap.size, 1, none⟩ = some (.slice (some ⟨gt, ot, none⟩) m d) := fun zc => ((qb _ zc.h).cell (p := ⟨w.heap.size, 1, none⟩) (by first | omega | (simp; done) | (simp; omega))).trans (by first | assumption | go_simp)
                      have qf2 : ∀ zc : WC C, zc.w.cell? ⟨w.heap.size, 2, none⟩ = some (.int .i64 h) := fun zc => ((qb _ zc.h).cell (p := ⟨w.heap.size, 2, none⟩) (by first | omega | (simp; done) | (simp; omega))).trans (by first | assumption | go_simp)
                      have qf3 : ∀ zc : WC C, zc.w.cell? ⟨w.heap.size + 1, 0, none⟩ = some (.int .i64 nu) := fun zc => ((qb _ zc.h).cell (p := ⟨w.heap.size + 1, 0, none⟩) (by first | omega | (simp; done) | (simp; omega))).trans (by first | assumption | go_simp)
                      have qf4 : ∀ zc : WC C, zc.w.cell? ⟨w.heap.size + 1, 1, none⟩ = some (.int .i64 nv) := fun zc => ((qb _ zc.h).cell (p := ⟨w.heap.size + 1, 1, none⟩) (by first | omega | (simp; done) | (simp; omega))).trans (by first | assumption | go_simp)
                      have qf5 : ∀ zc : WC C, zc.w.cell? ⟨w.heap.size + 1, 2, none⟩ = some (.int .i64 lo) := fun zc => ((qb _ zc.h).cell (p := ⟨w.heap.size + 1, 2, none⟩) (by first | omega | (simp; done) | (simp; omega))).trans (by first | assumption | go_simp)
                      have qf6 : ∀ zc : WC C, zc.w.cell? ⟨w.heap.size + 1, 3, none⟩ = some (.int .i64 hi2) := fun zc => ((qb _ zc.h).cell (p := ⟨w.heap.size + 1, 3, none⟩) (by first | omega | (simp; done) | (simp; omega))).trans (by first | assumption | go_simp)
                      have qf7 : ∀ zc : WC C, zc.w.cell? ⟨w.heap.size + 1, 4, none⟩ = some (.bool true) := fun zc => ((qb _ zc.h).cell (p := ⟨w.heap.size + 1, 4, none⟩) (by first | omega | (simp; done) | (simp; omega))).trans (by first | assumption | go_simp)
                      have qf8 : ∀ zc : WC C, zc.w.cell? ⟨g, o + nu * 3 + 1, none⟩ = some (.slice Lu fl cu) := fun zc => ((qb _ zc.h).cell (p := ⟨g, o + nu * 3 + 1, none⟩) (by first | omega | (simp; done) | (simp; omega))).trans (by first | assumption | go_simp)
                      have qf9 : ∀ zc : WC C, zc.w.cell? ⟨g, o + nv * 3 + 1, none⟩ = some (.slice Lv fl2 cv) := fun zc => ((qb _ zc.h).cell (p := ⟨g, o + nv * 3 + 1, none⟩) (by first | omega | (simp; done) | (simp; omega))).trans (by first | assumption | go_simp)
                      have qf10 : ∀ zc : WC C, zc.w.cell? ⟨g, o + nv * 3 + 2, none⟩ = some (.int .i64 f2.wat) := fun zc => ((qb _ zc.h).cell (p := ⟨g, o + nv * 3 + 2, none⟩) (by first | omega | (simp; done) | (simp; omega))).trans (by first | assumption | go_simp)
                      have nwc : Nonempty (WC C) := ⟨⟨_, hC0⟩⟩
                      clear hC
                      refine region_wc C (by kernel_rfl) (by kernel_rfl) hC0 ?_
                      repeat (go_big_quiet_step (fail))
                      refine wpQuiet_nil ?_
                      rintro _ ⟨xq, rfl⟩
                      have bq := qb _ xq.h
                      have gf0 := qf0 xq
                      have gf1 := qf1 xq
                      have gf2 := qf2 xq
                      have gf3 := qf3 xq
                      have gf4 := qf4 xq
                      have gf5 := qf5 xq
                      have gf6 := qf6 xq
                      have gf7 := qf7 xq
                      have gf8 := qf8 xq
                      have gf9 := qf9 xq
                      have gf10 := qf10 xq
                      obtain ⟨wq, hwq⟩ : ∃ wq, wq = xq.w := ⟨_, rfl⟩
                      rw [← hwq] at bq gf0 gf1 gf2 gf3 gf4 gf5 gf6 gf7 gf8 gf9 gf10 ⊢
                      clear hwq xq nwc hC0 qb qc qf0 qf1 qf2 qf3 qf4 qf5 qf6 qf7 qf8 qf9 qf10  C
                      go_wp2_with fail
                      go_ret
                      exact ⟨ret_b (by rw [HEQ.out, HX0.out, HX1.out, HX2.out, HX3.out, HY1.out, HY.out, HY2.out]; rfl), BW1.out.trans (bq.mono BW1.out.size)⟩
                · have d1 : decide ((1 : Int) ≤ lo) = false := decide_eq_false h1
                  have HY1 := Lib.hid d1
                  obtain ⟨C, hC⟩ : ∃ C : World → Prop, C = fun W => Below w1.heap.size w1 W := ⟨_, rfl⟩
                  have qb : ∀ W, C W → Below w1.heap.size w1 W := fun W h => by rw [hC] at h; exact h
                  have qc : ∀ W, Below w1.heap.size w1 W → C W := fun W h => by rw [hC]; exact h
                  have hC0 : C (World.drew w1) := qc _ (Below.refl _ _).drew
                  have qf0 : ∀ zc : WC C, zc.w.cell? ⟨w.heap.size, 0, none⟩ = some (.slice (some ⟨g, o, none⟩) k c) := fun zc => ((qb _ zc.h).cell (p := ⟨w.heap.size, 0, none⟩) (by first | omega | (simp; done) | (simp; omega))).trans (by first | assumption | go_simp)
                  have qf1 : ∀ zc : WC C, zc.w.cell? ⟨w.heap.size, 1, none⟩ = some (.slice (some ⟨gt, ot, none⟩) m d) := fun zc => ((qb _ zc.h).cell (p := ⟨w.heap.size, 1, none⟩) (by first | omega | (simp; done) | (simp; omega))).trans (by first | assumption | go_simp)
                  have qf2 : ∀ zc : WC C, zc.w.cell? ⟨w.heap.size, 2, none⟩ = some (.int .i64 h) := fun zc => ((qb _ zc.h).cell (p := ⟨w.heap.size, 2, none⟩) (by first | omega | (simp; done) | (simp; omega))).trans (by first | assumption | go_simp)
                  have qf3 : ∀ zc : WC C, zc.w.cell? ⟨w.heap.size + 1, 0, none⟩ = some (.int .i64 nu) := fun zc => ((qb _ zc.h).cell (p := ⟨w.heap.size + 1, 0, none⟩) (by first | omega | (simp; done) | (simp; omega))).trans (by first | assumption | go_simp)
                  have qf4 : ∀ zc : WC C, zc.w.cell? ⟨w.heap.size + 1, 1, none⟩ = some (.int .i64 nv) := fun zc => ((qb _ zc.h).cell (p := ⟨w.heap.size + 1, 1, none⟩) (by first | omega | (simp; done) | (simp; omega))).trans (by first | assumption | go_simp)
                  have qf5 : ∀ zc : WC C, zc.w.cell? ⟨w.heap.size + 1, 2, none⟩ = some (.int .i64 lo) := fun zc => ((qb _ zc.h).cell (p := ⟨w.heap.size + 1, 2, none⟩) (by first | omega | (simp; done) | (simp; omega))).trans (by first | assumption | go_simp)
                  have qf6 : ∀ zc : WC C, zc.w.cell? ⟨w.heap.size + 1, 3, none⟩ = some (.int .i64 hi2) := fun zc => ((qb _ zc.h).cell (p := ⟨w.heap.size + 1, 3, none⟩) (by first | omega | (simp; done) | (simp; omega))).trans (by first | assumption | go_simp)
                  have qf7 : ∀ zc : WC C, zc.w.cell? ⟨w.heap.size + 1, 4, none⟩ = some (.bool true) := fun zc => ((qb _ zc.h).cell (p := ⟨w.heap.size + 1, 4, none⟩) (by first | omega | (simp; done) | (simp; omega))).trans (by first | assumption | go_simp)
                  have qf8 : ∀ zc : WC C, zc.w.cell? ⟨g, o + nu * 3 + 1, none⟩ = some (.slice Lu fl cu) := fun zc => ((qb _ zc.h).cell (p := ⟨g, o + nu * 3 + 1, none⟩) (by first | omega | (simp; done) | (simp; omega))).trans (by first | assumption | go_simp)
                  have qf9 : ∀ zc : WC C, zc.w.cell? ⟨g, o + nv * 3 + 1, none⟩ = some (.slice Lv fl2 cv) := fun zc => ((qb _ zc.h).cell (p := ⟨g, o + nv * 3 + 1, none⟩) (by first | omega | (simp; done) | (simp; omega))).trans (by first | assumption | go_simp)
                  have qf10 : ∀ zc : WC C, zc.w.cell? ⟨g, o + nv * 3 + 2, none⟩ = some (.int .i64 f2.wat) := fun zc => ((qb _ zc.h).cell (p := ⟨g, o + nv * 3 + 2, none⟩) (by first | omega | (simp; done) | (simp; omega))).trans (by first | assumption | go_simp)
                  have nwc : Nonempty (WC C) := ⟨⟨_, hC0⟩⟩
                  clear hC
                  refine region_wc C (by kernel_rfl) (by kernel_rfl) hC0 ?_
                  repeat (go_big_quiet_step (fail))
                  refine wpQuiet_nil ?_
                  rintro _ ⟨xq, rfl⟩
                  have bq := qb _ xq.h
                  have gf0 := qf0 xq
                  have gf1 := qf1 xq
                  have gf2 := qf2 xq
                  have gf3 := qf3 xq
                  have gf4 := qf4 xq
                  have gf5 := qf5 xq
                  have gf6 := qf6 xq
                  have gf7 := qf7 xq
                  have gf8 := qf8 xq
                  have gf9 := qf9 xq
                  have gf10 := qf10 xq
                  obtain ⟨wq, hwq⟩ : ∃ wq, wq = xq.w := ⟨_, rfl⟩
                  rw [← hwq] at bq gf0 gf1 gf2 gf3 gf4 gf5 gf6 gf7 gf8 gf9 gf10 ⊢
                  clear hwq xq nwc hC0 qb qc qf0 qf1 qf2 qf3 qf4 qf5 qf6 qf7 qf8 qf9 qf10  C
                  go_wp2_with fail
                  go_ret
                  exact ⟨ret_b (by rw [HEQ.out, HX0.out, HX1.out, HX2.out, HX3.out, HY1.out]; rfl), BW1.out.trans (bq.mono BW1.out.size)⟩

end Go.Proofs.YtgajodcgedhikaaDoor

namespace Go.Proofs.YtgajodcgedhikaaDoor
open Go.RowKit
set_option linter.unusedVariables false
set_option linter.unusedSimpArgs false

theorem shR_at (s : GS) : shR s = (ndsR s.ns && (decide (s.ts.length ≤ 14) && ((decide (1 ≤ s.h) && decide (s.h ≤ 10)) && allJ (tiB s.ns s.ts) s.ts.length))) := rfl

set_option maxRecDepth 100000 in
set_option maxHeartbeats 8000000 in
theorem spec_ShowOk (s : GS) (A : Option Addr) (k c : Nat) (B : Option Addr) (m d : Nat) (w : World) (hs : ShB s) (ha : ShowAt w s A k B m) :
    Calls Tryd.prog 19 #[shV A k c B m d s.h] w fun e w' => e = .returned (.bool (shR s)) ∧ Below w.heap.size w w' := by
  have HN := Lib.hid (fun W h => spec_l08Nodes s A k c B m d W hs h)
  have HT := Lib.hid (fun i W h1 h => spec_l08Tie s i A k c B m d W hs h1 h)
  have HI := Lib.hid (l01In_any s.h 1 10)
  have HLT := Lib.hid ha.lt
  have HV := Lib.hid (shR_at s)
  rw [ha.lt] at HV
  have HA := Lib.hid ha
  have hh : ∃ h, h = s.h := ⟨_, rfl⟩
  obtain ⟨w1, hw1⟩ : ∃ W, W = w.alloc (.cells #[.slice A k c, .slice B m d, .int .i64 s.h] 31) := ⟨_, rfl⟩
  have B_w1 : Below w.heap.size w w1 := by rw [hw1]; exact (Below.refl _ _).alloc (Nat.le_refl _) _
  have z_w1 : w.heap.size < w1.heap.size := by rw [hw1]; simp
  have c0_w1 : w1.cell? ⟨w.heap.size, 0, none⟩ = some (.slice A k c) := by rw [hw1]; go_simp
  have c1_w1 : w1.cell? ⟨w.heap.size, 1, none⟩ = some (.slice B m d) := by rw [hw1]; go_simp
  have c2_w1 : w1.cell? ⟨w.heap.size, 2, none⟩ = some (.int .i64 s.h) := by rw [hw1]; go_simp
  have HA1 := Lib.hid (ha.below B_w1)
  have BW1 := Lib.hid B_w1
  have HW1 := Lib.hid hw1
  clear ha hh hw1 B_w1
  unfold shV at HN HT ⊢
  obtain ⟨h, hh⟩ : ∃ h, h = s.h := ⟨_, rfl⟩
  rw [← hh] at HN HT HI HV HW1 c2_w1 ⊢
  clear hh
  obtain ⟨b1, hb1⟩ : ∃ b, b = ndsR s.ns := ⟨_, rfl⟩
  obtain ⟨b3, hb3⟩ : ∃ b, b = (decide (1 ≤ h) && decide (h ≤ 10)) := ⟨_, rfl⟩
  rw [← hb1] at HN HV
  rw [← hb3] at HI HV
  clear hb1 hb3
  cases b1 with
  | false =>
    go_enter Tryd.func19, Tryd.ntmps19
    go_wp2_with fail
    rw [← HW1.out]
    refine (HN.out _ HA1.out).mono ?_
    rintro e w2 ⟨rfl, b2⟩
    have c0_w2 : w2.cell? ⟨w.heap.size, 0, none⟩ = some (.slice A k c) := (b2.cell (p := ⟨w.heap.size, 0, none⟩) (by first | omega | (simp; done) | (simp; omega))).trans (by first | assumption | go_simp)
    have c1_w2 : w2.cell? ⟨w.heap.size, 1, none⟩ = some (.slice B m d) := (b2.cell (p := ⟨w.heap.size, 1, none⟩) (by first | omega | (simp; done) | (simp; omega))).trans (by first | assumption | go_simp)
    have c2_w2 : w2.cell? ⟨w.heap.size, 2, none⟩ = some (.int .i64 h) := (b2.cell (p := ⟨w.heap.size, 2, none⟩) (by first | omega | (simp; done) | (simp; omega))).trans (by first | assumption | go_simp)
    have B_w2 : Below w1.heap.size w1 w2 := (by repeat (first | exact Below.refl _ _ | refine below_step (by assumption) (by first | omega | (simp; done) | (simp; omega)) ?_ | refine below_drewN ?_ _ | refine Below.drew ?_ | refine Below.setCell ?_ (by first | omega | (simp; done) | (simp; omega)) _ | refine Below.alloc ?_ (by first | omega | (simp; done) | (simp; omega)) _))
    have z_w2 := B_w2.size
    clear b2 c0_w1 c1_w1 c2_w1
    go_wp2_with fail
    go_ret
    exact ⟨ret_b (by rw [HV.out]; rfl), BW1.out.trans (B_w2.mono BW1.out.size)⟩
  | true =>
    by_cases hm : m ≤ 14
    · have hmi : ¬ ((14 : Int) < (m : Int)) := by omega
      have HM := Lib.hid (decide_eq_true hm)
      go_enter Tryd.func19, Tryd.ntmps19
      go_wp2_with fail
      rw [← HW1.out]
      refine (HN.out _ HA1.out).mono ?_
      rintro e w2 ⟨rfl, b2⟩
      have c0_w2 : w2.cell? ⟨w.heap.size, 0, none⟩ = some (.slice A k c) := (b2.cell (p := ⟨w.heap.size, 0, none⟩) (by first | omega | (simp; done) | (simp; omega))).trans (by first | assumption | go_simp)
      have c1_w2 : w2.cell? ⟨w.heap.size, 1, none⟩ = some (.slice B m d) := (b2.cell (p := ⟨w.heap.size, 1, none⟩) (by first | omega | (simp; done) | (simp; omega))).trans (by first | assumption | go_simp)
      have c2_w2 : w2.cell? ⟨w.heap.size, 2, none⟩ = some (.int .i64 h) := (b2.cell (p := ⟨w.heap.size, 2, none⟩) (by first | omega | (simp; done) | (simp; omega))).trans (by first | assumption | go_simp)
      have B_w2 : Below w1.heap.size w1 w2 := (by repeat (first | exact Below.refl _ _ | refine below_step (by assumption) (by first | omega | (simp; done) | (simp; omega)) ?_ | refine below_drewN ?_ _ | refine Below.drew ?_ | refine Below.setCell ?_ (by first | omega | (simp; done) | (simp; omega)) _ | refine Below.alloc ?_ (by first | omega | (simp; done) | (simp; omega)) _))
      have z_w2 := B_w2.size
      clear b2 c0_w1 c1_w1 c2_w1
      go_wp2_with fail
      refine (HI.out _).mono ?_
      rintro e wx ⟨rfl, hwx⟩
      subst hwx
      cases b3 with
      | false =>
        go_wp2_with fail
        go_ret
        exact ⟨ret_b (by rw [HV.out, HM.out]; rfl), BW1.out.trans (B_w2.mono BW1.out.size)⟩
      | true =>
        have BW2 := Lib.hid B_w2
        have HA2 := Lib.hid (HA1.out.below B_w2)
        go_wp2_with fail
        go_loopw [22] (fun i wr => ∃ j : Nat, j ≤ m ∧ i = .int .i64 j ∧ allJ (tiB s.ns s.ts) j = true ∧ Below w2.heap.size w2 wr) (fun i _ => m - (intOf i).toNat)
        case atStart => exact ⟨0, Nat.zero_le _, rfl, rfl, Below.refl _ _⟩
        case round =>
          obtain ⟨j, hj, rfl, hall, hbw⟩ := hrel
          have HALL := Lib.hid hall
          clear hall
          have zs2 : w.heap.size < w2.heap.size := Nat.lt_of_lt_of_le z_w1 z_w2
          have k0 := (hbw.cell (p := ⟨w.heap.size, 0, none⟩) zs2).trans c0_w2
          have k1 := (hbw.cell (p := ⟨w.heap.size, 1, none⟩) zs2).trans c1_w2
          have k2 := (hbw.cell (p := ⟨w.heap.size, 2, none⟩) zs2).trans c2_w2
          have BW := Lib.hid hbw
          clear hbw
          by_cases hlt : j < m
          · have hjm : ((j : Int) < (m : Int)) := by omega
            have hti := fun W hh => HT.out j W hlt hh
            obtain ⟨b, hb⟩ : ∃ b, b = tiB s.ns s.ts j := ⟨_, rfl⟩
            rw [← hb] at hti
            have HTI := Lib.hid hti
            have HB := Lib.hid hb.symm
            clear hti hb
            go_wp2_with fail
            refine (HTI.out _ (HA2.out.below BW.out)).mono ?_
            rintro e w3 ⟨rfl, b3⟩
            have B3 := Lib.hid (BW.out.trans (b3.mono BW.out.size))
            clear b3 k0 k1 k2
            cases b with
            | false =>
              have HNO := Lib.hid (allJ_no (f := tiB s.ns s.ts) (j := j + 1) (by rw [allJ_next, HB.out, Bool.and_false]) (show j + 1 ≤ m by omega))
              go_wp2_with fail
              go_ret
              exact ⟨ret_b (by rw [HV.out, HM.out, HNO.out]; rfl), BW1.out.trans ((BW2.out.trans (B3.out.mono BW2.out.size)).mono BW1.out.size)⟩
            | true =>
              go_wp2_with fail
              go_roundw
              case rel => exact ⟨j + 1, by omega, by go_num, by rw [allJ_next, HALL.out, HB.out]; rfl, B3.out⟩
              case measure => simp [intOf]; omega
          · have hjm : ¬ ((j : Int) < (m : Int)) := by omega
            have HYES := Lib.hid (show allJ (tiB s.ns s.ts) m = true from by rw [show m = j from by omega]; exact HALL.out)
            go_wp2_with fail
            go_ret
            exact ⟨ret_b (by rw [HV.out, HM.out, HYES.out]; rfl), BW1.out.trans ((BW2.out.trans (BW.out.mono BW2.out.size)).mono BW1.out.size)⟩
    · have hmi : ((14 : Int) < (m : Int)) := by omega
      have HM := Lib.hid (decide_eq_false hm)
      go_enter Tryd.func19, Tryd.ntmps19
      go_wp2_with fail
      rw [← HW1.out]
      refine (HN.out _ HA1.out).mono ?_
      rintro e w2 ⟨rfl, b2⟩
      have c0_w2 : w2.cell? ⟨w.heap.size, 0, none⟩ = some (.slice A k c) := (b2.cell (p := ⟨w.heap.size, 0, none⟩) (by first | omega | (simp; done) | (simp; omega))).trans (by first | assumption | go_simp)
      have c1_w2 : w2.cell? ⟨w.heap.size, 1, none⟩ = some (.slice B m d) := (b2.cell (p := ⟨w.heap.size, 1, none⟩) (by first | omega | (simp; done) | (simp; omega))).trans (by first | assumption | go_simp)
      have c2_w2 : w2.cell? ⟨w.heap.size, 2, none⟩ = some (.int .i64 h) := (b2.cell (p := ⟨w.heap.size, 2, none⟩) (by first | omega | (simp; done) | (simp; omega))).trans (by first | assumption | go_simp)
      have B_w2 : Below w1.heap.size w1 w2 := (by repeat (first | exact Below.refl _ _ | refine below_step (by assumption) (by first | omega | (simp; done) | (simp; omega)) ?_ | refine below_drewN ?_ _ | refine Below.drew ?_ | refine Below.setCell ?_ (by first | omega | (simp; done) | (simp; omega)) _ | refine Below.alloc ?_ (by first | omega | (simp; done) | (simp; omega)) _))
      have z_w2 := B_w2.size
      clear b2 c0_w1 c1_w1 c2_w1
      go_wp2_with fail
      go_ret
      exact ⟨ret_b (by rw [HV.out, HM.out]; rfl), BW1.out.trans (B_w2.mono BW1.out.size)⟩

end Go.Proofs.YtgajodcgedhikaaDoor
