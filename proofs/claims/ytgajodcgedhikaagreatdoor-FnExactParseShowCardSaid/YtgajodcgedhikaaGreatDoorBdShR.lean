/-
  WALK of spec.l08Tie.
  WALKS of the laws' helpers heldNodeS, heldTieS, heldShow.
-/
import Derived.Test.YtgajodcgedhikaaGreatDoorShQ
import Derived.Deep.RegionHeld3
import Derived.Deep.Cut
import Derived.Deep.CutRange
import Derived.Test.YtgajodcgedhikaaGreatDoorBdIvOk
namespace Go.Proofs.YtgajodcgedhikaaGreatDoor
open Go.RowKit
set_option linter.unusedVariables false
set_option linter.unusedSimpArgs false

theorem tiB_at {ns : List GN} {ts : List GT} {i : Nat} {u v lo hi : Int} {fr : Bool} (h : ts[i]? = some ⟨u, v, lo, hi, fr⟩) : tiB ns ts i = ((decide (0 ≤ u) && decide (u ≤ (ns.length : Int) - 1)) && ((decide (0 ≤ v) && decide (v ≤ (ns.length : Int) - 1)) && (decide (u ≠ v) && (decide (-20 ≤ lo) && (decide (hi ≤ 20) && (decide (lo ≤ hi) &&
    (!fr || (decide (1 ≤ lo) && (decide (v ≠ 0) && (decide ((ns[v.toNat]?.getD gN0).wat = 0) && (decide ((ns[u.toNat]?.getD gN0).lab = (ns[v.toNat]?.getD gN0).lab) && decide (freR ts v = i))))))))))))  := by unfold tiB; rw [h]; rfl
theorem tie_facts {w : World} {A : Option Addr} {ts : List GT} (h : TieAt w A ts) {j : Nat} {u v lo hi : Int} {fr : Bool} (he : ts[j]? = some ⟨u, v, lo, hi, fr⟩) : ∃ g o, A = some ⟨g, o, none⟩ ∧ g < w.heap.size ∧ w.cell? ⟨g, o + j * 5, none⟩ = some (.int .i64 u) ∧ w.cell? ⟨g, o + j * 5 + 1, none⟩ = some (.int .i64 v) ∧ w.cell? ⟨g, o + j * 5 + 2, none⟩ = some (.int .i64 lo) ∧ w.cell? ⟨g, o + j * 5 + 3, none⟩ = some (.int .i64 hi) ∧ w.cell? ⟨g, o + j * 5 + 4, none⟩ = some (.bool fr) := by
  obtain ⟨hj, he⟩ := List.getElem?_eq_some_iff.1 he
  obtain ⟨g, o, hA, hg, hc⟩ := h (by omega)
  obtain ⟨c0, c1, c2, c3, c4⟩ := hc j hj
  rw [he] at c0 c1 c2 c3 c4
  exact ⟨g, o, hA, hg, c0, c1, c2, c3, c4⟩
theorem same_below (a b : List Int) (A : Option Addr) (k c : Nat) (B : Option Addr) (m d : Nat) (w : World) (hl : a.length = k) (hm : k ≤ 1048576) (hlb : b.length = m) (hmb : m ≤ 1048576) (hr : RowAt w A (a.map intV)) (hrb : RowAt w B (b.map intV)) : Calls Tryz.prog 55 #[.slice A k c, .slice B m d] w fun e w' => e = .returned (.bool (decide (a = b))) ∧ Below w.heap.size w w' := (spec_l08Same a b A k c B m d w hl hm hlb hmb hr hrb).mono fun e w' k => ⟨k.1, by rw [← k.2]; exact Below.refl _ _⟩

set_option maxRecDepth 100000 in
set_option maxHeartbeats 16000000 in
theorem spec_l08Tie (s : GS) (i : Nat) (A : Option Addr) (k c : Nat) (B : Option Addr) (m d : Nat) (w : World) (hs : ShB s) (hi : i < m) (ha : ShowAt w s A k B m) :
    Calls Tryz.prog 32 #[shV A k c B m d s.h, .int .i64 i] w fun e w' => e = .returned (.bool (tiB s.ns s.ts i)) ∧ Below w.heap.size w w' := by
  have hkk : k ≤ 1048576 := by have := hs.ns; have := ha.ln; omega
  have hmm : m ≤ 1048576 := by have := hs.ts; have := ha.lt; omega
  have HLN := Lib.hid ha.ln
  have HLT := Lib.hid ha.lt
  have HEACH := Lib.hid hs.each
  have HFRE := Lib.hid (fun p W h => spec_l08Free s p A k c B m d W hmm h)
  have HA := Lib.hid ha
  clear ha hs
  obtain ⟨h, hh⟩ : ∃ h, h = s.h := ⟨_, rfl⟩
  rw [← hh] at HFRE
  rw [← hh]
  clear hh
  unfold shV at HFRE ⊢
  obtain ⟨⟨u, v, lo, hi2, fr⟩, he⟩ : ∃ e, s.ts[i]? = some e := ⟨_, List.getElem?_eq_getElem (by have := HLT.out; omega)⟩
  have HEQ := Lib.hid (tiB_at (ns := s.ns) he)
  rw [HLN.out] at HEQ
  obtain ⟨gt, ot, rfl, hgt, t0, t1, t2, t3, t4⟩ := tie_facts HA.out.ties he
  clear he
  obtain ⟨w1, hw1⟩ : ∃ W, W = (w.alloc (.cells #[.slice A k c, .slice (some ⟨gt, ot, none⟩) m d, .int .i64 h] 25)).alloc (.cells #[.int .i64 u, .int .i64 v, .int .i64 lo, .int .i64 hi2, .bool fr] 42) := ⟨_, rfl⟩
  have B_w1 : Below w.heap.size w w1 := by rw [hw1]; exact (by repeat (first | exact Below.refl _ _ | refine below_step (by assumption) (by first | omega | (simp; done) | (simp; omega)) ?_ | refine below_drewN ?_ _ | refine Below.drew ?_ | refine Below.setCell ?_ (by first | omega | (simp; done) | (simp; omega)) _ | refine Below.alloc ?_ (by first | omega | (simp; done) | (simp; omega)) _))
  have z_w1 : w.heap.size + 1 < w1.heap.size := by rw [hw1]; simp
  have c0_w1 : w1.cell? ⟨w.heap.size, 0, none⟩ = some (.slice A k c) := by rw [hw1]; go_simp
  have c1_w1 : w1.cell? ⟨w.heap.size, 1, none⟩ = some (.slice (some ⟨gt, ot, none⟩) m d) := by rw [hw1]; go_simp
  have c2_w1 : w1.cell? ⟨w.heap.size, 2, none⟩ = some (.int .i64 h) := by rw [hw1]; go_simp
  have e0_w1 : w1.cell? ⟨w.heap.size + 1, 0, none⟩ = some (.int .i64 u) := by rw [hw1]; go_simp
  have e1_w1 : w1.cell? ⟨w.heap.size + 1, 1, none⟩ = some (.int .i64 v) := by rw [hw1]; go_simp
  have e2_w1 : w1.cell? ⟨w.heap.size + 1, 2, none⟩ = some (.int .i64 lo) := by rw [hw1]; go_simp
  have e3_w1 : w1.cell? ⟨w.heap.size + 1, 3, none⟩ = some (.int .i64 hi2) := by rw [hw1]; go_simp
  have e4_w1 : w1.cell? ⟨w.heap.size + 1, 4, none⟩ = some (.bool fr) := by rw [hw1]; go_simp
  have HA1 := Lib.hid (HA.out.below B_w1)
  have BW1 := Lib.hid B_w1
  have HW1 := Lib.hid hw1
  have hsub : IntKind.i64.wrap ((k : Int) - 1) = (k : Int) - 1 := (IntWalk.i64_left _).trans (IntWalk.wrap64_in _ ⟨by omega, by omega⟩)
  have hi0 : (0 : Int) ≤ (i : Int) := by omega
  have him : (i : Int) < (m : Int) := by omega
  have HI1 := Lib.hid (l01In_any u 0 ((k : Int) - 1))
  have HI2 := Lib.hid (l01In_any v 0 ((k : Int) - 1))
  obtain ⟨b1, hb1⟩ : ∃ b, b = (decide (0 ≤ u) && decide (u ≤ (k : Int) - 1)) := ⟨_, rfl⟩
  obtain ⟨b2, hb2⟩ : ∃ b, b = (decide (0 ≤ v) && decide (v ≤ (k : Int) - 1)) := ⟨_, rfl⟩
  rw [← hb1] at HI1 HEQ
  rw [← hb2] at HI2 HEQ
  have HB1 := Lib.hid hb1
  have HB2 := Lib.hid hb2
  clear hb1 hb2 hw1 B_w1
  go_enter Tryz.func32, Tryz.ntmps32
  go_upto_region 3 with (fail)
  rw [← HW1.out]
  clear t0 t1 t2 t3 t4 HW1 hsub
  cases b1 with
  | false =>
    go_wp2_with fail
    refine (HI1.out _).mono ?_
    rintro x wx ⟨rfl, rfl⟩
    go_wp2_with fail
    go_ret
    exact ⟨ret_b (by rw [HEQ.out]; rfl), BW1.out⟩
  | true =>
    cases b2 with
    | false =>
      go_wp2_with fail
      refine (HI1.out _).mono ?_
      rintro x wx ⟨rfl, rfl⟩
      go_wp2_with fail
      refine (HI2.out _).mono ?_
      rintro x wx ⟨rfl, rfl⟩
      go_wp2_with fail
      go_ret
      exact ⟨ret_b (by rw [HEQ.out]; rfl), BW1.out⟩
    | true =>
      go_wp2_with fail
      refine (HI1.out _).mono ?_
      rintro x wx ⟨rfl, rfl⟩
      go_wp2_with fail
      refine (HI2.out _).mono ?_
      rintro x wx ⟨rfl, rfl⟩
      have hu := HB1.out.symm
      rw [Bool.and_eq_true] at hu
      have hu0 := of_decide_eq_true hu.1
      have hu1 := of_decide_eq_true hu.2
      have hv := HB2.out.symm
      rw [Bool.and_eq_true] at hv
      have hv0 := of_decide_eq_true hv.1
      have hv1 := of_decide_eq_true hv.2
      clear hu hv
      by_cases huv : u = v
      · have HX0 := Lib.hid (decide_eq_false (show ¬ (u ≠ v) from fun q => q huv))
        have hq : (u == v) = true := by simp [huv]
        clear huv
        go_wp2_with fail
        go_ret
        exact ⟨ret_b (by rw [HEQ.out, HX0.out]; rfl), BW1.out⟩
      · have HX0 := Lib.hid (decide_eq_true (show u ≠ v from huv))
        have hq : (u == v) = false := by simp [huv]
        clear huv
        by_cases hlo : lo < -20
        · have HX1 := Lib.hid (decide_eq_false (show ¬ (-20 ≤ lo) by omega))
          go_wp2_with fail
          go_ret
          exact ⟨ret_b (by rw [HEQ.out, HX0.out, HX1.out]; rfl), BW1.out⟩
        · have HX1 := Lib.hid (decide_eq_true (show -20 ≤ lo by omega))
          by_cases hhi : 20 < hi2
          · have HX2 := Lib.hid (decide_eq_false (show ¬ (hi2 ≤ 20) by omega))
            go_wp2_with fail
            go_ret
            exact ⟨ret_b (by rw [HEQ.out, HX0.out, HX1.out, HX2.out]; rfl), BW1.out⟩
          · have HX2 := Lib.hid (decide_eq_true (show hi2 ≤ 20 by omega))
            by_cases hlh : hi2 < lo
            · have HX3 := Lib.hid (decide_eq_false (show ¬ (lo ≤ hi2) by omega))
              go_wp2_with fail
              go_ret
              exact ⟨ret_b (by rw [HEQ.out, HX0.out, HX1.out, HX2.out, HX3.out]; rfl), BW1.out⟩
            · have HX3 := Lib.hid (decide_eq_true (show lo ≤ hi2 by omega))
              go_upto_region 5 with (fail)
              obtain ⟨nu, rfl⟩ : ∃ n : Nat, u = n := ⟨u.toNat, by omega⟩
              obtain ⟨nv, rfl⟩ : ∃ n : Nat, v = n := ⟨v.toNat, by omega⟩
              obtain ⟨f, hf⟩ : ∃ f, s.ns[nu]? = some f := ⟨_, List.getElem?_eq_getElem (by have := HLN.out; omega)⟩
              obtain ⟨f2, hf2⟩ : ∃ f, s.ns[nv]? = some f := ⟨_, List.getElem?_eq_getElem (by have := HLN.out; omega)⟩
              have HEQ2 := HEQ.out
              have hnu : ((nu : Nat) : Int).toNat = nu := by omega
              have hnv : ((nv : Nat) : Int).toNat = nv := by omega
              rw [hnu, hnv, hf, hf2, Option.getD_some, Option.getD_some] at HEQ2
              have HEQ := Lib.hid HEQ2
              obtain ⟨g, o, Lu, cu, rfl, hg, a0, a1, a2, hra⟩ := node_facts HA1.out.nodes hf
              obtain ⟨g2, o2, Lv, cv, hA2, _, v0, v1, v2, hrv⟩ := node_facts HA1.out.nodes hf2
              injection hA2 with hA2
              injection hA2 with hA3 hA4
              subst hA3 hA4
              have hfm := (HEACH.out f (List.mem_of_getElem? hf)).2
              have hfm2 := (HEACH.out f2 (List.mem_of_getElem? hf2)).2
              obtain ⟨fl, hfl⟩ : ∃ q, q = f.lab.length := ⟨_, rfl⟩
              obtain ⟨fl2, hfl2⟩ : ∃ q, q = f2.lab.length := ⟨_, rfl⟩
              rw [← hfl] at a1 hfm
              rw [← hfl2] at v1 hfm2
              obtain ⟨sm, hsm⟩ : ∃ b, b = decide (f.lab = f2.lab) := ⟨_, rfl⟩
              have hsame := fun W h1 h2 => same_below f.lab f2.lab Lu fl cu Lv fl2 cv W hfl.symm hfm hfl2.symm hfm2 h1 h2
              rw [← hsm] at hsame HEQ
              have HSM := Lib.hid hsame
              obtain ⟨fz, hfz⟩ : ∃ b, b = freR s.ts nv := ⟨_, rfl⟩
              have hfree := fun W h1 => HFRE.out nv W h1
              rw [← hfz] at hfree HEQ
              have HFZ := Lib.hid hfree
              have HRA := Lib.hid hra
              have HRV := Lib.hid hrv
              have hnu0 : (0 : Int) ≤ (nu : Int) := by omega
              have hnuk : (nu : Int) < (k : Int) := by omega
              have hnv0 : (0 : Int) ≤ (nv : Int) := by omega
              have hnvk : (nv : Int) < (k : Int) := by omega
              have z0_w1 : w.heap.size < w1.heap.size := by omega
              clear hf hf2 HEQ2 hnu hnv hfl hfl2 hsm hsame hfz hfree hra hrv hq hu0 hu1 hv0 hv1
              go_upto_region 5 with (fail)
              cases fr with
              | false =>
                obtain ⟨C, hC⟩ : ∃ C : World → Prop, C = fun W => Below w1.heap.size w1 W := ⟨_, rfl⟩
                have qb : ∀ W, C W → Below w1.heap.size w1 W := fun W h => by rw [hC] at h; exact h
                have qc : ∀ W, Below w1.heap.size w1 W → C W := fun W h => by rw [hC]; exact h
                have hC0 : C (World.drew w1) := qc _ (Below.refl _ _).drew
                have qf0 : ∀ zc : WC C, zc.w.cell? ⟨w.heap.size, 0, none⟩ = some (.slice (some ⟨g, o, none⟩) k c) := fun zc => ((qb _ zc.h).cell (p := ⟨w.heap.size, 0, none⟩) (by first | omega | (simp; done) | (simp; omega))).trans (by first | assumption | go_simp)
                have qf1 : ∀ zc : WC C, zc.w.cell? ⟨w.heap.size, 1, none⟩ = some (.slice (some ⟨gt, ot, none⟩) m d) := fun zc => ((qb _ zc.h).cell (p := ⟨w.heap.size, 1, none⟩) (by first | omega | (simp; done) | (simp; omega))).trans (by first | assumption | go_simp)
                have qf2 : ∀ zc : WC C, zc.w.cell? ⟨w.heap.size, 2, none⟩ = some (.int .i64 h) := fun zc => ((qb _ zc.h).cell (p := ⟨w.heap.size, 2, none⟩) (by first | omega | (simp; done) | (simp; omega))).trans (by first | assumption | go_simp)
                have qf3 : ∀ zc : WC C, zc.w.cell? ⟨w.heap.size + 1, 0, none⟩ = some (.int .i64 nu) := fun zc => ((qb _ zc.h).cell (p := ⟨w.heap.size + 1, 0, none⟩) (by first | omega | (simp; done) | (simp; omega))).trans (by first | assumption | go_simp)
                have qf4 : ∀ zc : WC C, zc.w.cell? ⟨w.heap.size + 1, 1, none⟩ = some (.int .i64 nv) := fun zc => ((qb _ zc.h).cell (p := ⟨w.heap.size + 1, 1, none⟩) (by first | omega | (simp; done) | (simp; omega))).trans (by first | assumption | go_simp)
                have qf5 : ∀ zc : WC C, zc.w.cell? ⟨w.heap.size + 1, 2, none⟩ = some (.int .i64 lo) := fun zc => ((qb _ zc.h).cell (p := ⟨w.heap.size + 1, 2, none⟩) (by first | omega | (simp; done) | (simp; omega))).trans (by first | assumption | go_simp)
                have qf6 : ∀ zc : WC C, zc.w.cell? ⟨w.heap.size + 1, 3, none⟩ = some (.int .i64 hi2) := fun zc => ((qb _ zc.h).cell (p := ⟨w.heap.size + 1, 3, none⟩) (by first | omega | (simp; done) | (simp; omega))).trans (by first | assumption | go_simp)
                have qf7 : ∀ zc : WC C, zc.w.cell? ⟨w.heap.size + 1, 4, none⟩ = some (.bool false) := fun zc => ((qb _ zc.h).cell (p := ⟨w.heap.size + 1, 4, none⟩) (by first | omega | (simp; done) | (simp; omega))).trans (by first | assumption | go_simp)
                have qf8 : ∀ zc : WC C, zc.w.cell? ⟨g, o + nu * 3 + 1, none⟩ = some (.slice Lu fl cu) := fun zc => ((qb _ zc.h).cell (p := ⟨g, o + nu * 3 + 1, none⟩) (by first | omega | (simp; done) | (simp; omega))).trans (by first | assumption | go_simp)
                have qf9 : ∀ zc : WC C, zc.w.cell? ⟨g, o + nv * 3 + 1, none⟩ = some (.slice Lv fl2 cv) := fun zc => ((qb _ zc.h).cell (p := ⟨g, o + nv * 3 + 1, none⟩) (by first | omega | (simp; done) | (simp; omega))).trans (by first | assumption | go_simp)
                have qf10 : ∀ zc : WC C, zc.w.cell? ⟨g, o + nv * 3 + 2, none⟩ = some (.int .i64 f2.wat) := fun zc => ((qb _ zc.h).cell (p := ⟨g, o + nv * 3 + 2, none⟩) (by first | omega | (simp; done) | (simp; omega))).trans (by first | assumption | go_simp)
                have nwc : Nonempty (WC C) := ⟨⟨_, hC0⟩⟩
                clear hC
                refine region_wc C (by kernel_rfl) (by kernel_rfl) hC0 ?_
                repeat (go_big_quiet_step (fail))
                refine wpQuiet_nil ?_
                rintro _ ⟨xq, rfl⟩
                have bq := qb _ xq.h
                have gf0 := qf0 xq
                have gf1 := qf1 xq
                have gf2 := qf2 xq
                have gf3 := qf3 xq
                have gf4 := qf4 xq
                have gf5 := qf5 xq
                have gf6 := qf6 xq
                have gf7 := qf7 xq
                have gf8 := qf8 xq
                have gf9 := qf9 xq
                have gf10 := qf10 xq
                obtain ⟨wq, hwq⟩ : ∃ wq, wq = xq.w := ⟨_, rfl⟩
                rw [← hwq] at bq gf0 gf1 gf2 gf3 gf4 gf5 gf6 gf7 gf8 gf9 gf10 ⊢
                clear hwq xq nwc hC0 qb qc qf0 qf1 qf2 qf3 qf4 qf5 qf6 qf7 qf8 qf9 qf10  C
                go_wp2_with fail
                go_ret
                exact ⟨ret_b (by rw [HEQ.out, HX0.out, HX1.out, HX2.out, HX3.out]; rfl), BW1.out.trans (bq.mono BW1.out.size)⟩
              | true =>
                by_cases h1 : 1 ≤ lo
                · have d1 : decide ((1 : Int) ≤ lo) = true := decide_eq_true h1
                  by_cases h2 : nv = 0
                  · have d2 : ((nv : Int) != 0) = false := by simp [h2]
                    have HY := Lib.hid (decide_eq_false (show ¬ ((nv : Int) ≠ 0) by omega))
                    have HY1 := Lib.hid d1
                    clear h2
                    obtain ⟨C, hC⟩ : ∃ C : World → Prop, C = fun W => Below w1.heap.size w1 W := ⟨_, rfl⟩
                    have qb : ∀ W, C W → Below w1.heap.size w1 W := fun W h => by rw [hC] at h; exact h
                    have qc : ∀ W, Below w1.heap.size w1 W → C W := fun W h => by rw [hC]; exact h
                    have hC0 : C (World.drew w1) := qc _ (Below.refl _ _).drew
                    have qf0 : ∀ zc : WC C, zc.w.cell? ⟨w.heap.size, 0, none⟩ = some (.slice (some ⟨g, o, none⟩) k c) := fun zc => ((qb _ zc.h).cell (p := ⟨w.heap.size, 0, none⟩) (by first | omega | (simp; done) | (simp; omega))).trans (by first | assumption | go_simp)
                    have qf1 : ∀ zc : WC C, zc.w.cell? ⟨w.heap.size, 1, none⟩ = some (.slice (some ⟨gt, ot, none⟩) m d) := fun zc => ((qb _ zc.h).cell (p := ⟨w.heap.size, 1, none⟩) (by first | omega | (simp; done) | (simp; omega))).trans (by first | assumption | go_simp)
                    have qf2 : ∀ zc : WC C, zc.w.cell? ⟨w.heap.size, 2, none⟩ = some (.int .i64 h) := fun zc => ((qb _ zc.h).cell (p := ⟨w.heap.size, 2, none⟩) (by first | omega | (simp; done) | (simp; omega))).trans (by first | assumption | go_simp)
                    have qf3 : ∀ zc : WC C, zc.w.cell? ⟨w.heap.size + 1, 0, none⟩ = some (.int .i64 nu) := fun zc => ((qb _ zc.h).cell (p := ⟨w.heap.size + 1, 0, none⟩) (by first | omega | (simp; done) | (simp; omega))).trans (by first | assumption | go_simp)
                    have qf4 : ∀ zc : WC C, zc.w.cell? ⟨w.heap.size + 1, 1, none⟩ = some (.int .i64 nv) := fun zc => ((qb _ zc.h).cell (p := ⟨w.heap.size + 1, 1, none⟩) (by first | omega | (simp; done) | (simp; omega))).trans (by first | assumption | go_simp)
                    have qf5 : ∀ zc : WC C, zc.w.cell? ⟨w.heap.size + 1, 2, none⟩ = some (.int .i64 lo) := fun zc => ((qb _ zc.h).cell (p := ⟨w.heap.size + 1, 2, none⟩) (by first | omega | (simp; done) | (simp; omega))).trans (by first | assumption | go_simp)
                    have qf6 : ∀ zc : WC C, zc.w.cell? ⟨w.heap.size + 1, 3, none⟩ = some (.int .i64 hi2) := fun zc => ((qb _ zc.h).cell (p := ⟨w.heap.size + 1, 3, none⟩) (by first | omega | (simp; done) | (simp; omega))).trans (by first | assumption | go_simp)
                    have qf7 : ∀ zc : WC C, zc.w.cell? ⟨w.heap.size + 1, 4, none⟩ = some (.bool true) := fun zc => ((qb _ zc.h).cell (p := ⟨w.heap.size + 1, 4, none⟩) (by first | omega | (simp; done) | (simp; omega))).trans (by first | assumption | go_simp)
                    have qf8 : ∀ zc : WC C, zc.w.cell? ⟨g, o + nu * 3 + 1, none⟩ = some (.slice Lu fl cu) := fun zc => ((qb _ zc.h).cell (p := ⟨g, o + nu * 3 + 1, none⟩) (by first | omega | (simp; done) | (simp; omega))).trans (by first | assumption | go_simp)
                    have qf9 : ∀ zc : WC C, zc.w.cell? ⟨g, o + nv * 3 + 1, none⟩ = some (.slice Lv fl2 cv) := fun zc => ((qb _ zc.h).cell (p := ⟨g, o + nv * 3 + 1, none⟩) (by first | omega | (simp; done) | (simp; omega))).trans (by first | assumption | go_simp)
                    have qf10 : ∀ zc : WC C, zc.w.cell? ⟨g, o + nv * 3 + 2, none⟩ = some (.int .i64 f2.wat) := fun zc => ((qb _ zc.h).cell (p := ⟨g, o + nv * 3 + 2, none⟩) (by first | omega | (simp; done) | (simp; omega))).trans (by first | assumption | go_simp)
                    have nwc : Nonempty (WC C) := ⟨⟨_, hC0⟩⟩
                    clear hC
                    refine region_wc C (by kernel_rfl) (by kernel_rfl) hC0 ?_
                    repeat (go_big_quiet_step (fail))
                    refine wpQuiet_nil ?_
                    rintro _ ⟨xq, rfl⟩
                    have bq := qb _ xq.h
                    have gf0 := qf0 xq
                    have gf1 := qf1 xq
                    have gf2 := qf2 xq
                    have gf3 := qf3 xq
                    have gf4 := qf4 xq
                    have gf5 := qf5 xq
                    have gf6 := qf6 xq
                    have gf7 := qf7 xq
                    have gf8 := qf8 xq
                    have gf9 := qf9 xq
                    have gf10 := qf10 xq
                    obtain ⟨wq, hwq⟩ : ∃ wq, wq = xq.w := ⟨_, rfl⟩
                    rw [← hwq] at bq gf0 gf1 gf2 gf3 gf4 gf5 gf6 gf7 gf8 gf9 gf10 ⊢
                    clear hwq xq nwc hC0 qb qc qf0 qf1 qf2 qf3 qf4 qf5 qf6 qf7 qf8 qf9 qf10  C
                    go_wp2_with fail
                    go_ret
                    exact ⟨ret_b (by rw [HEQ.out, HX0.out, HX1.out, HX2.out, HX3.out, HY1.out, HY.out]; rfl), BW1.out.trans (bq.mono BW1.out.size)⟩
                  · have d2 : ((nv : Int) != 0) = true := by simp; omega
                    have HY := Lib.hid (decide_eq_true (show ((nv : Int) ≠ 0) by omega))
                    have HY1 := Lib.hid d1
                    clear h2
                    by_cases h3 : f2.wat = 0
                    · have d3 : (f2.wat == 0) = true := by simp [h3]
                      have HY2 := Lib.hid (decide_eq_true h3)
                      clear h3
                      cases sm with
                      | false =>
                        obtain ⟨C, hC⟩ : ∃ C : World → Prop, C = fun W => Below w1.heap.size w1 W := ⟨_, rfl⟩
                        have qb : ∀ W, C W → Below w1.heap.size w1 W := fun W h => by rw [hC] at h; exact h
                        have qc : ∀ W, Below w1.heap.size w1 W → C W := fun W h => by rw [hC]; exact h
                        have hC0 : C (World.drew w1) := qc _ (Below.refl _ _).drew
                        have qf0 : ∀ zc : WC C, zc.w.cell? ⟨w.heap.size, 0, none⟩ = some (.slice (some ⟨g, o, none⟩) k c) := fun zc => ((qb _ zc.h).cell (p := ⟨w.heap.size, 0, none⟩) (by first | omega | (simp; done) | (simp; omega))).trans (by first | assumption | go_simp)
                        have qf1 : ∀ zc : WC C, zc.w.cell? ⟨w.heap.size, 1, none⟩ = some (.slice (some ⟨gt, ot, none⟩) m d) := fun zc => ((qb _ zc.h).cell (p := ⟨w.heap.size, 1, none⟩) (by first | omega | (simp; done) | (simp; omega))).trans (by first | assumption | go_simp)
                        have qf2 : ∀ zc : WC C, zc.w.cell? ⟨w.heap.size, 2, none⟩ = some (.int .i64 h) := fun zc => ((qb _ zc.h).cell (p := ⟨w.heap.size, 2, none⟩) (by first | omega | (simp; done) | (simp; omega))).trans (by first | assumption | go_simp)
                        have qf3 : ∀ zc : WC C, zc.w.cell? ⟨w.heap.size + 1, 0, none⟩ = some (.int .i64 nu) := fun zc => ((qb _ zc.h).cell (p := ⟨w.heap.size + 1, 0, none⟩) (by first | omega | (simp; done) | (simp; omega))).trans (by first | assumption | go_simp)
                        have qf4 : ∀ zc : WC C, zc.w.cell? ⟨w.heap.size + 1, 1, none⟩ = some (.int .i64 nv) := fun zc => ((qb _ zc.h).cell (p := ⟨w.heap.size + 1, 1, none⟩) (by first | omega | (simp; done) | (simp; omega))).trans (by first | assumption | go_simp)
                        have qf5 : ∀ zc : WC C, zc.w.cell? ⟨w.heap.size + 1, 2, none⟩ = some (.int .i64 lo) := fun zc => ((qb _ zc.h).cell (p := ⟨w.heap.size + 1, 2, none⟩) (by first | omega | (simp; done) | (simp; omega))).trans (by first | assumption | go_simp)
                        have qf6 : ∀ zc : WC C, zc.w.cell? ⟨w.heap.size + 1, 3, none⟩ = some (.int .i64 hi2) := fun zc => ((qb _ zc.h).cell (p := ⟨w.heap.size + 1, 3, none⟩) (by first | omega | (simp; done) | (simp; omega))).trans (by first | assumption | go_simp)
                        have qf7 : ∀ zc : WC C, zc.w.cell? ⟨w.heap.size + 1, 4, none⟩ = some (.bool true) := fun zc => ((qb _ zc.h).cell (p := ⟨w.heap.size + 1, 4, none⟩) (by first | omega | (simp; done) | (simp; omega))).trans (by first | assumption | go_simp)
                        have qf8 : ∀ zc : WC C, zc.w.cell? ⟨g, o + nu * 3 + 1, none⟩ = some (.slice Lu fl cu) := fun zc => ((qb _ zc.h).cell (p := ⟨g, o + nu * 3 + 1, none⟩) (by first | omega | (simp; done) | (simp; omega))).trans (by first | assumption | go_simp)
                        have qf9 : ∀ zc : WC C, zc.w.cell? ⟨g, o + nv * 3 + 1, none⟩ = some (.slice Lv fl2 cv) := fun zc => ((qb _ zc.h).cell (p := ⟨g, o + nv * 3 + 1, none⟩) (by first | omega | (simp; done) | (simp; omega))).trans (by first | assumption | go_simp)
                        have qf10 : ∀ zc : WC C, zc.w.cell? ⟨g, o + nv * 3 + 2, none⟩ = some (.int .i64 f2.wat) := fun zc => ((qb _ zc.h).cell (p := ⟨g, o + nv * 3 + 2, none⟩) (by first | omega | (simp; done) | (simp; omega))).trans (by first | assumption | go_simp)
                        have A0 : Hid (∀ zc : WC C, Calls Tryz.prog 55 #[.slice Lu fl cu, .slice Lv fl2 cv] zc.w fun e w2 => e = .returned (.bool false) ∧ ∃ y : WC C, w2 = y.w) := Lib.hid (fun zc => wc_calls (((fun _ => HSM.out zc.w (HRA.out.below (qb _ zc.h)) (HRV.out.below (qb _ zc.h))) zc.w).mono fun e w2 k => ⟨k.1, qc _ ((qb _ zc.h).trans (k.2.mono (qb _ zc.h).size))⟩))
                        have nwc : Nonempty (WC C) := ⟨⟨_, hC0⟩⟩
                        clear hC
                        refine region_wc C (by kernel_rfl) (by kernel_rfl) hC0 ?_
                        repeat (go_big_quiet_step (first | (go_at_call 55; with_reducible exact A0.out _)))
                        refine wpQuiet_nil ?_
                        rintro _ ⟨xq, rfl⟩
                        have bq := qb _ xq.h
                        have gf0 := qf0 xq
                        have gf1 := qf1 xq
                        have gf2 := qf2 xq
                        have gf3 := qf3 xq
                        have gf4 := qf4 xq
                        have gf5 := qf5 xq
                        have gf6 := qf6 xq
                        have gf7 := qf7 xq
                        have gf8 := qf8 xq
                        have gf9 := qf9 xq
                        have gf10 := qf10 xq
                        obtain ⟨wq, hwq⟩ : ∃ wq, wq = xq.w := ⟨_, rfl⟩
                        rw [← hwq] at bq gf0 gf1 gf2 gf3 gf4 gf5 gf6 gf7 gf8 gf9 gf10 ⊢
                        clear hwq xq nwc hC0 qb qc qf0 qf1 qf2 qf3 qf4 qf5 qf6 qf7 qf8 qf9 qf10 A0 C
                        go_wp2_with fail
                        go_ret
                        exact ⟨ret_b (by rw [HEQ.out, HX0.out, HX1.out, HX2.out, HX3.out, HY1.out, HY.out, HY2.out]; rfl), BW1.out.trans (bq.mono BW1.out.size)⟩
                      | true =>
                        by_cases h4 : fz = (i : Int)
                        · have d4 : (fz == (i : Int)) = true := by simp [h4]
                          have HY3 := Lib.hid (decide_eq_true h4)
                          clear h4
                          obtain ⟨C, hC⟩ : ∃ C : World → Prop, C = fun W => Below w1.heap.size w1 W := ⟨_, rfl⟩
                          have qb : ∀ W, C W → Below w1.heap.size w1 W := fun W h => by rw [hC] at h; exact h
                          have qc : ∀ W, Below w1.heap.size w1 W → C W := fun W h => by rw [hC]; exact h
                          have hC0 : C (World.drew w1) := qc _ (Below.refl _ _).drew
                          have qf0 : ∀ zc : WC C, zc.w.cell? ⟨w.heap.size, 0, none⟩ = some (.slice (some ⟨g, o, none⟩) k c) := fun zc => ((qb _ zc.h).cell (p := ⟨w.heap.size, 0, none⟩) (by first | omega | (simp; done) | (simp; omega))).trans (by first | assumption | go_simp)
                          have qf1 : ∀ zc : WC C, zc.w.cell? ⟨w.heap.size, 1, none⟩ = some (.slice (some ⟨gt, ot, none⟩) m d) := fun zc => ((qb _ zc.h).cell (p := ⟨w.heap.size, 1, none⟩) (by first | omega | (simp; done) | (simp; omega))).trans (by first | assumption | go_simp)
                          have qf2 : ∀ zc : WC C, zc.w.cell? ⟨w.heap.size, 2, none⟩ = some (.int .i64 h) := fun zc => ((qb _ zc.h).cell (p := ⟨w.heap.size, 2, none⟩) (by first | omega | (simp; done) | (simp; omega))).trans (by first | assumption | go_simp)
                          have qf3 : ∀ zc : WC C, zc.w.cell? ⟨w.heap.size + 1, 0, none⟩ = some (.int .i64 nu) := fun zc => ((qb _ zc.h).cell (p := ⟨w.heap.size + 1, 0, none⟩) (by first | omega | (simp; done) | (simp; omega))).trans (by first | assumption | go_simp)
                          have qf4 : ∀ zc : WC C, zc.w.cell? ⟨w.heap.size + 1, 1, none⟩ = some (.int .i64 nv) := fun zc => ((qb _ zc.h).cell (p := ⟨w.heap.size + 1, 1, none⟩) (by first | omega | (simp; done) | (simp; omega))).trans (by first | assumption | go_simp)
                          have qf5 : ∀ zc : WC C, zc.w.cell? ⟨w.heap.size + 1, 2, none⟩ = some (.int .i64 lo) := fun zc => ((qb _ zc.h).cell (p := ⟨w.heap.size + 1, 2, none⟩) (by first | omega | (simp; done) | (simp; omega))).trans (by first | assumption | go_simp)
                          have qf6 : ∀ zc : WC C, zc.w.cell? ⟨w.heap.size + 1, 3, none⟩ = some (.int .i64 hi2) := fun zc => ((qb _ zc.h).cell (p := ⟨w.heap.size + 1, 3, none⟩) (by first | omega | (simp; done) | (simp; omega))).trans (by first | assumption | go_simp)
                          have qf7 : ∀ zc : WC C, zc.w.cell? ⟨w.heap.size + 1, 4, none⟩ = some (.bool true) := fun zc => ((qb _ zc.h).cell (p := ⟨w.heap.size + 1, 4, none⟩) (by first | omega | (simp; done) | (simp; omega))).trans (by first | assumption | go_simp)
                          have qf8 : ∀ zc : WC C, zc.w.cell? ⟨g, o + nu * 3 + 1, none⟩ = some (.slice Lu fl cu) := fun zc => ((qb _ zc.h).cell (p := ⟨g, o + nu * 3 + 1, none⟩) (by first | omega | (simp; done) | (simp; omega))).trans (by first | assumption | go_simp)
                          have qf9 : ∀ zc : WC C, zc.w.cell? ⟨g, o + nv * 3 + 1, none⟩ = some (.slice Lv fl2 cv) := fun zc => ((qb _ zc.h).cell (p := ⟨g, o + nv * 3 + 1, none⟩) (by first | omega | (simp; done) | (simp; omega))).trans (by first | assumption | go_simp)
                          have qf10 : ∀ zc : WC C, zc.w.cell? ⟨g, o + nv * 3 + 2, none⟩ = some (.int .i64 f2.wat) := fun zc => ((qb _ zc.h).cell (p := ⟨g, o + nv * 3 + 2, none⟩) (by first | omega | (simp; done) | (simp; omega))).trans (by first | assumption | go_simp)
                          have A0 : Hid (∀ zc : WC C, Calls Tryz.prog 55 #[.slice Lu fl cu, .slice Lv fl2 cv] zc.w fun e w2 => e = .returned (.bool true) ∧ ∃ y : WC C, w2 = y.w) := Lib.hid (fun zc => wc_calls (((fun _ => HSM.out zc.w (HRA.out.below (qb _ zc.h)) (HRV.out.below (qb _ zc.h))) zc.w).mono fun e w2 k => ⟨k.1, qc _ ((qb _ zc.h).trans (k.2.mono (qb _ zc.h).size))⟩))
                          have A1 : Hid (∀ zc : WC C, Calls Tryz.prog 56 #[.agg #[.slice (some ⟨g, o, none⟩) k c, .slice (some ⟨gt, ot, none⟩) m d, .int .i64 h], .int .i64 nv] zc.w fun e w2 => e = .returned (.int .i64 fz) ∧ ∃ y : WC C, w2 = y.w) := Lib.hid (fun zc => wc_calls (((fun _ => HFZ.out zc.w (HA1.out.below (qb _ zc.h))) zc.w).mono fun e w2 k => ⟨k.1, qc _ ((qb _ zc.h).trans (k.2.mono (qb _ zc.h).size))⟩))
                          have nwc : Nonempty (WC C) := ⟨⟨_, hC0⟩⟩
                          clear hC
                          refine region_wc C (by kernel_rfl) (by kernel_rfl) hC0 ?_
                          repeat (go_big_quiet_step (first | (go_at_call 55; with_reducible exact A0.out _) | (go_at_call 56; with_reducible exact A1.out _)))
                          refine wpQuiet_nil ?_
                          rintro _ ⟨xq, rfl⟩
                          have bq := qb _ xq.h
                          have gf0 := qf0 xq
                          have gf1 := qf1 xq
                          have gf2 := qf2 xq
                          have gf3 := qf3 xq
                          have gf4 := qf4 xq
                          have gf5 := qf5 xq
                          have gf6 := qf6 xq
                          have gf7 := qf7 xq
                          have gf8 := qf8 xq
                          have gf9 := qf9 xq
                          have gf10 := qf10 xq
                          obtain ⟨wq, hwq⟩ : ∃ wq, wq = xq.w := ⟨_, rfl⟩
                          rw [← hwq] at bq gf0 gf1 gf2 gf3 gf4 gf5 gf6 gf7 gf8 gf9 gf10 ⊢
                          clear hwq xq nwc hC0 qb qc qf0 qf1 qf2 qf3 qf4 qf5 qf6 qf7 qf8 qf9 qf10 A0 A1 C
                          go_wp2_with fail
                          go_ret
                          exact ⟨ret_b (by rw [HEQ.out, HX0.out, HX1.out, HX2.out, HX3.out, HY1.out, HY.out, HY2.out, HY3.out]; rfl), BW1.out.trans (bq.mono BW1.out.size)⟩
                        · have d4 : (fz == (i : Int)) = false := by simp [h4]
                          have HY3 := Lib.hid (decide_eq_false h4)
                          clear h4
                          obtain ⟨C, hC⟩ : ∃ C : World → Prop, C = fun W => Below w1.heap.size w1 W := ⟨_, rfl⟩
                          have qb : ∀ W, C W → Below w1.heap.size w1 W := fun W h => by rw [hC] at h; exact h
                          have qc : ∀ W, Below w1.heap.size w1 W → C W := fun W h => by rw [hC]; exact h
                          have hC0 : C (World.drew w1) := qc _ (Below.refl _ _).drew
                          have qf0 : ∀ zc : WC C, zc.w.cell? ⟨w.heap.size, 0, none⟩ = some (.slice (some ⟨g, o, none⟩) k c) := fun zc => ((qb _ zc.h).cell (p := ⟨w.heap.size, 0, none⟩) (by first | omega | (simp; done) | (simp; omega))).trans (by first | assumption | go_simp)
                          have qf1 : ∀ zc : WC C, zc.w.cell? ⟨w.heap.size, 1, none⟩ = some (.slice (some ⟨gt, ot, none⟩) m d) := fun zc => ((qb _ zc.h).cell (p := ⟨w.heap.size, 1, none⟩) (by first | omega | (simp; done) | (simp; omega))).trans (by first | assumption | go_simp)
                          have qf2 : ∀ zc : WC C, zc.w.cell? ⟨w.heap.size, 2, none⟩ = some (.int .i64 h) := fun zc => ((qb _ zc.h).cell (p := ⟨w.heap.size, 2, none⟩) (by first | omega | (simp; done) | (simp; omega))).trans (by first | assumption | go_simp)
                          have qf3 : ∀ zc : WC C, zc.w.cell? ⟨w.heap.size + 1, 0, none⟩ = some (.int .i64 nu) := fun zc => ((qb _ zc.h).cell (p := ⟨w.heap.size + 1, 0, none⟩) (by first | omega | (simp; done) | (simp; omega))).trans (by first | assumption | go_simp)
                          have qf4 : ∀ zc : WC C, zc.w.cell? ⟨w.heap.size + 1, 1, none⟩ = some (.int .i64 nv) := fun zc => ((qb _ zc.h).cell (p := ⟨w.heap.size + 1, 1, none⟩) (by first | omega | (simp; done) | (simp; omega))).trans (by first | assumption | go_simp)
                          have qf5 : ∀ zc : WC C, zc.w.cell? ⟨w.heap.size + 1, 2, none⟩ = some (.int .i64 lo) := fun zc => ((qb _ zc.h).cell (p := ⟨w.heap.size + 1, 2, none⟩) (by first | omega | (simp; done) | (simp; omega))).trans (by first | assumption | go_simp)
                          have qf6 : ∀ zc : WC C, zc.w.cell? ⟨w.heap.size + 1, 3, none⟩ = some (.int .i64 hi2) := fun zc => ((qb _ zc.h).cell (p := ⟨w.heap.size + 1, 3, none⟩) (by first | omega | (simp; done) | (simp; omega))).trans (by first | assumption | go_simp)
                          have qf7 : ∀ zc : WC C, zc.w.cell? ⟨w.heap.size + 1, 4, none⟩ = some (.bool true) := fun zc => ((qb _ zc.h).cell (p := ⟨w.heap.size + 1, 4, none⟩) (by first | omega | (simp; done) | (simp; omega))).trans (by first | assumption | go_simp)
                          have qf8 : ∀ zc : WC C, zc.w.cell? ⟨g, o + nu * 3 + 1, none⟩ = some (.slice Lu fl cu) := fun zc => ((qb _ zc.h).cell (p := ⟨g, o + nu * 3 + 1, none⟩) (by first | omega | (simp; done) | (simp; omega))).trans (by first | assumption | go_simp)
                          have qf9 : ∀ zc : WC C, zc.w.cell? ⟨g, o + nv * 3 + 1, none⟩ = some (.slice Lv fl2 cv) := fun zc => ((qb _ zc.h).cell (p := ⟨g, o + nv * 3 + 1, none⟩) (by first | omega | (simp; done) | (simp; omega))).trans (by first | assumption | go_simp)
                          have qf10 : ∀ zc : WC C, zc.w.cell? ⟨g, o + nv * 3 + 2, none⟩ = some (.int .i64 f2.wat) := fun zc => ((qb _ zc.h).cell (p := ⟨g, o + nv * 3 + 2, none⟩) (by first | omega | (simp; done) | (simp; omega))).trans (by first | assumption | go_simp)
                          have A0 : Hid (∀ zc : WC C, Calls Tryz.prog 55 #[.slice Lu fl cu, .slice Lv fl2 cv] zc.w fun e w2 => e = .returned (.bool true) ∧ ∃ y : WC C, w2 = y.w) := Lib.hid (fun zc => wc_calls (((fun _ => HSM.out zc.w (HRA.out.below (qb _ zc.h)) (HRV.out.below (qb _ zc.h))) zc.w).mono fun e w2 k => ⟨k.1, qc _ ((qb _ zc.h).trans (k.2.mono (qb _ zc.h).size))⟩))
                          have A1 : Hid (∀ zc : WC C, Calls Tryz.prog 56 #[.agg #[.slice (some ⟨g, o, none⟩) k c, .slice (some ⟨gt, ot, none⟩) m d, .int .i64 h], .int .i64 nv] zc.w fun e w2 => e = .returned (.int .i64 fz) ∧ ∃ y : WC C, w2 = y.w) := Lib.hid (fun zc => wc_calls (((fun _ => HFZ.out zc.w (HA1.out.below (qb _ zc.h))) zc.w).mono fun e w2 k => ⟨k.1, qc _ ((qb _ zc.h).trans (k.2.mono (qb _ zc.h).size))⟩))
                          have nwc : Nonempty (WC C) := ⟨⟨_, hC0⟩⟩
                          clear hC
                          refine region_wc C (by kernel_rfl) (by kernel_rfl) hC0 ?_
                          repeat (go_big_quiet_step (first | (go_at_call 55; with_reducible exact A0.out _) | (go_at_call 56; with_reducible exact A1.out _)))
                          refine wpQuiet_nil ?_
                          rintro _ ⟨xq, rfl⟩
                          have bq := qb _ xq.h
                          have gf0 := qf0 xq
                          have gf1 := qf1 xq
                          have gf2 := qf2 xq
                          have gf3 := qf3 xq
                          have gf4 := qf4 xq
                          have gf5 := qf5 xq
                          have gf6 := qf6 xq
                          have gf7 := qf7 xq
                          have gf8 := qf8 xq
                          have gf9 := qf9 xq
                          have gf10 := qf10 xq
                          obtain ⟨wq, hwq⟩ : ∃ wq, wq = xq.w := ⟨_, rfl⟩
                          rw [← hwq] at bq gf0 gf1 gf2 gf3 gf4 gf5 gf6 gf7 gf8 gf9 gf10 ⊢
                          clear hwq xq nwc hC0 qb qc qf0 qf1 qf2 qf3 qf4 qf5 qf6 qf7 qf8 qf9 qf10 A0 A1 C
                          go_wp2_with fail
                          go_ret
                          exact ⟨ret_b (by rw [HEQ.out, HX0.out, HX1.out, HX2.out, HX3.out, HY1.out, HY.out, HY2.out, HY3.out]; rfl), BW1.out.trans (bq.mono BW1.out.size)⟩
                    · have d3 : (f2.wat == 0) = false := by simp [h3]
                      have HY2 := Lib.hid (decide_eq_false h3)
                      clear h3
                      obtain ⟨C, hC⟩ : ∃ C : World → Prop, C = fun W => Below w1.heap.size w1 W := ⟨_, rfl⟩
                      have qb : ∀ W, C W → Below w1.heap.size w1 W := fun W h => by rw [hC] at h; exact h
                      have qc : ∀ W, Below w1.heap.size w1 W → C W := fun W h => by rw [hC]; exact h
                      have hC0 : C (World.drew w1) := qc _ (Below.refl _ _).drew
                      have qf0 : ∀ zc : WC C, zc.w.cell? ⟨w.heap.size, 0, none⟩ = some (.slice (some ⟨g, o, none⟩) k c) := fun zc => ((qb _ zc.h).cell (p := ⟨w.heap.size, 0, none⟩) (by first | omega | (simp; done) | (simp; omega))).trans (by first | assumption | go_simp)
                      have qf1 : ∀ zc : WC C, zc.w.cell? ⟨w.heap.size, 1, none⟩ = some (.slice (some ⟨gt, ot, none⟩) m d) := fun zc => ((qb _ zc.h).cell (p := ⟨w.heap.size, 1, none⟩) (by first | omega | (simp; done) | (simp; omega))).trans (by first | assumption | go_simp)
                      have qf2 : ∀ zc : WC C, zc.w.cell? ⟨w.heap.size, 2, none⟩ = some (.int .i64 h) := fun zc => ((qb _ zc.h).cell (p := ⟨w.heap.size, 2, none⟩) (by first | omega | (simp; done) | (simp; omega))).trans (by first | assumption | go_simp)
                      have qf3 : ∀ zc : WC C, zc.w.cell? ⟨w.heap.size + 1, 0, none⟩ = some (.int .i64 nu) := fun zc => ((qb _ zc.h).cell (p := ⟨w.heap.size + 1, 0, none⟩) (by first | omega | (simp; done) | (simp; omega))).trans (by first | assumption | go_simp)
                      have qf4 : ∀ zc : WC C, zc.w.cell? ⟨w.heap.size + 1, 1, none⟩ = some (.int .i64 nv) := fun zc => ((qb _ zc.h).cell (p := ⟨w.heap.size + 1, 1, none⟩) (by first | omega | (simp; done) | (simp; omega))).trans (by first | assumption | go_simp)
                      have qf5 : ∀ zc : WC C, zc.w.cell? ⟨w.heap.size + 1, 2, none⟩ = some (.int .i64 lo) := fun zc => ((qb _ zc.h).cell (p := ⟨w.heap.size + 1, 2, none⟩) (by first | omega | (simp; done) | (simp; omega))).trans (by first | assumption | go_simp)
                      have qf6 : ∀ zc : WC C, zc.w.cell? ⟨w.heap.size + 1, 3, none⟩ = some (.int .i64 hi2) := fun zc => ((qb _ zc.h).cell (p := ⟨w.heap.size + 1, 3, none⟩) (by first | omega | (simp; done) | (simp; omega))).trans (by first | assumption | go_simp)
                      have qf7 : ∀ zc : WC C, zc.w.cell? ⟨w.heap.size + 1, 4, none⟩ = some (.bool true) := fun zc => ((qb _ zc.h).cell (p := ⟨w.heap.size + 1, 4, none⟩) (by first | omega | (simp; done) | (simp; omega))).trans (by first | assumption | go_simp)
                      have qf8 : ∀ zc : WC C, zc.w.cell? ⟨g, o + nu * 3 + 1, none⟩ = some (.slice Lu fl cu) := fun zc => ((qb _ zc.h).cell (p := ⟨g, o + nu * 3 + 1, none⟩) (by first | omega | (simp; done) | (simp; omega))).trans (by first | assumption | go_simp)
                      have qf9 : ∀ zc : WC C, zc.w.cell? ⟨g, o + nv * 3 + 1, none⟩ = some (.slice Lv fl2 cv) := fun zc => ((qb _ zc.h).cell (p := ⟨g, o + nv * 3 + 1, none⟩) (by first | omega | (simp; done) | (simp; omega))).trans (by first | assumption | go_simp)
                      have qf10 : ∀ zc : WC C, zc.w.cell? ⟨g, o + nv * 3 + 2, none⟩ = some (.int .i64 f2.wat) := fun zc => ((qb _ zc.h).cell (p := ⟨g, o + nv * 3 + 2, none⟩) (by first | omega | (simp; done) | (simp; omega))).trans (by first | assumption | go_simp)
                      have nwc : Nonempty (WC C) := ⟨⟨_, hC0⟩⟩
                      clear hC
                      refine region_wc C (by kernel_rfl) (by kernel_rfl) hC0 ?_
                      repeat (go_big_quiet_step (fail))
                      refine wpQuiet_nil ?_
                      rintro _ ⟨xq, rfl⟩
                      have bq := qb _ xq.h
                      have gf0 := qf0 xq
                      have gf1 := qf1 xq
                      have gf2 := qf2 xq
                      have gf3 := qf3 xq
                      have gf4 := qf4 xq
                      have gf5 := qf5 xq
                      have gf6 := qf6 xq
                      have gf7 := qf7 xq
                      have gf8 := qf8 xq
                      have gf9 := qf9 xq
                      have gf10 := qf10 xq
                      obtain ⟨wq, hwq⟩ : ∃ wq, wq = xq.w := ⟨_, rfl⟩
                      rw [← hwq] at bq gf0 gf1 gf2 gf3 gf4 gf5 gf6 gf7 gf8 gf9 gf10 ⊢
                      clear hwq xq nwc hC0 qb qc qf0 qf1 qf2 qf3 qf4 qf5 qf6 qf7 qf8 qf9 qf10  C
                      go_wp2_with fail
                      go_ret
                      exact ⟨ret_b (by rw [HEQ.out, HX0.out, HX1.out, HX2.out, HX3.out, HY1.out, HY.out, HY2.out]; rfl), BW1.out.trans (bq.mono BW1.out.size)⟩
                · have d1 : decide ((1 : Int) ≤ lo) = false := decide_eq_false h1
                  have HY1 := Lib.hid d1
                  obtain ⟨C, hC⟩ : ∃ C : World → Prop, C = fun W => Below w1.heap.size w1 W := ⟨_, rfl⟩
                  have qb : ∀ W, C W → Below w1.heap.size w1 W := fun W h => by rw [hC] at h; exact h
                  have qc : ∀ W, Below w1.heap.size w1 W → C W := fun W h => by rw [hC]; exact h
                  have hC0 : C (World.drew w1) := qc _ (Below.refl _ _).drew
                  have qf0 : ∀ zc : WC C, zc.w.cell? ⟨w.heap.size, 0, none⟩ = some (.slice (some ⟨g, o, none⟩) k c) := fun zc => ((qb _ zc.h).cell (p := ⟨w.heap.size, 0, none⟩) (by first | omega | (simp; done) | (simp; omega))).trans (by first | assumption | go_simp)
                  have qf1 : ∀ zc : WC C, zc.w.cell? ⟨w.heap.size, 1, none⟩ = some (.slice (some ⟨gt, ot, none⟩) m d) := fun zc => ((qb _ zc.h).cell (p := ⟨w.heap.size, 1, none⟩) (by first | omega | (simp; done) | (simp; omega))).trans (by first | assumption | go_simp)
                  have qf2 : ∀ zc : WC C, zc.w.cell? ⟨w.heap.size, 2, none⟩ = some (.int .i64 h) := fun zc => ((qb _ zc.h).cell (p := ⟨w.heap.size, 2, none⟩) (by first | omega | (simp; done) | (simp; omega))).trans (by first | assumption | go_simp)
                  have qf3 : ∀ zc : WC C, zc.w.cell? ⟨w.heap.size + 1, 0, none⟩ = some (.int .i64 nu) := fun zc => ((qb _ zc.h).cell (p := ⟨w.heap.size + 1, 0, none⟩) (by first | omega | (simp; done) | (simp; omega))).trans (by first | assumption | go_simp)
                  have qf4 : ∀ zc : WC C, zc.w.cell? ⟨w.heap.size + 1, 1, none⟩ = some (.int .i64 nv) := fun zc => ((qb _ zc.h).cell (p := ⟨w.heap.size + 1, 1, none⟩) (by first | omega | (simp; done) | (simp; omega))).trans (by first | assumption | go_simp)
                  have qf5 : ∀ zc : WC C, zc.w.cell? ⟨w.heap.size + 1, 2, none⟩ = some (.int .i64 lo) := fun zc => ((qb _ zc.h).cell (p := ⟨w.heap.size + 1, 2, none⟩) (by first | omega | (simp; done) | (simp; omega))).trans (by first | assumption | go_simp)
                  have qf6 : ∀ zc : WC C, zc.w.cell? ⟨w.heap.size + 1, 3, none⟩ = some (.int .i64 hi2) := fun zc => ((qb _ zc.h).cell (p := ⟨w.heap.size + 1, 3, none⟩) (by first | omega | (simp; done) | (simp; omega))).trans (by first | assumption | go_simp)
                  have qf7 : ∀ zc : WC C, zc.w.cell? ⟨w.heap.size + 1, 4, none⟩ = some (.bool true) := fun zc => ((qb _ zc.h).cell (p := ⟨w.heap.size + 1, 4, none⟩) (by first | omega | (simp; done) | (simp; omega))).trans (by first | assumption | go_simp)
                  have qf8 : ∀ zc : WC C, zc.w.cell? ⟨g, o + nu * 3 + 1, none⟩ = some (.slice Lu fl cu) := fun zc => ((qb _ zc.h).cell (p := ⟨g, o + nu * 3 + 1, none⟩) (by first | omega | (simp; done) | (simp; omega))).trans (by first | assumption | go_simp)
                  have qf9 : ∀ zc : WC C, zc.w.cell? ⟨g, o + nv * 3 + 1, none⟩ = some (.slice Lv fl2 cv) := fun zc => ((qb _ zc.h).cell (p := ⟨g, o + nv * 3 + 1, none⟩) (by first | omega | (simp; done) | (simp; omega))).trans (by first | assumption | go_simp)
                  have qf10 : ∀ zc : WC C, zc.w.cell? ⟨g, o + nv * 3 + 2, none⟩ = some (.int .i64 f2.wat) := fun zc => ((qb _ zc.h).cell (p := ⟨g, o + nv * 3 + 2, none⟩) (by first | omega | (simp; done) | (simp; omega))).trans (by first | assumption | go_simp)
                  have nwc : Nonempty (WC C) := ⟨⟨_, hC0⟩⟩
                  clear hC
                  refine region_wc C (by kernel_rfl) (by kernel_rfl) hC0 ?_
                  repeat (go_big_quiet_step (fail))
                  refine wpQuiet_nil ?_
                  rintro _ ⟨xq, rfl⟩
                  have bq := qb _ xq.h
                  have gf0 := qf0 xq
                  have gf1 := qf1 xq
                  have gf2 := qf2 xq
                  have gf3 := qf3 xq
                  have gf4 := qf4 xq
                  have gf5 := qf5 xq
                  have gf6 := qf6 xq
                  have gf7 := qf7 xq
                  have gf8 := qf8 xq
                  have gf9 := qf9 xq
                  have gf10 := qf10 xq
                  obtain ⟨wq, hwq⟩ : ∃ wq, wq = xq.w := ⟨_, rfl⟩
                  rw [← hwq] at bq gf0 gf1 gf2 gf3 gf4 gf5 gf6 gf7 gf8 gf9 gf10 ⊢
                  clear hwq xq nwc hC0 qb qc qf0 qf1 qf2 qf3 qf4 qf5 qf6 qf7 qf8 qf9 qf10  C
                  go_wp2_with fail
                  go_ret
                  exact ⟨ret_b (by rw [HEQ.out, HX0.out, HX1.out, HX2.out, HX3.out, HY1.out]; rfl), BW1.out.trans (bq.mono BW1.out.size)⟩

end Go.Proofs.YtgajodcgedhikaaGreatDoor

namespace Go.Proofs.YtgajodcgedhikaaGreatDoor
open Go.RowKit
set_option linter.unusedVariables false
set_option linter.unusedSimpArgs false

theorem mkJ_at (zs : List NL) (k : Nat) {j : Nat} (hj : j < zs.length) : ∀ {m : Nat}, j < m → m ≤ zs.length → (mkJ zs k m)[j]? = some (markZ zs[j] (k + 2 * j + slJ (nodesZ zs) j))
  | 0, h, _ => by omega
  | m + 1, h, hm => by
    unfold mkJ
    by_cases e : j = m
    · subst e
      rw [List.getElem?_set_self (by rw [mkJ_len]; exact hj), List.getElem?_eq_getElem hj]; rfl
    · rw [List.getElem?_set_ne (by omega)]
      exact mkJ_at zs k hj (by omega) (by omega)
theorem tkJ_at (ts : List GT) (k : Nat) {j : Nat} (hj : j < ts.length) : ∀ {m : Nat}, j < m → m ≤ ts.length → (tkJ ts k m)[j]? = some (markT (k + 5 * j))
  | 0, h, _ => by omega
  | m + 1, h, hm => by
    unfold tkJ
    by_cases e : j = m
    · subst e
      rw [List.getElem?_set_self (by rw [tkJ_len]; exact hj)]
    · rw [List.getElem?_set_ne (by omega)]
      exact tkJ_at ts k hj (by omega) (by omega)

set_option maxRecDepth 100000 in
set_option maxHeartbeats 16000000 in
theorem heldTieS_any (ts : List GT) (A : Option Addr) (n c k : Nat) (w : World) (hn : ts.length = n) (hb : k + 5 * n ≤ 1099511627776) (h : TieAt w A (tkJ ts k n)) :
    Calls Tryz.prog 25 #[.slice A n c, .int .i64 k] w fun x w' => x = .returned (.int .i64 ((k + 5 * n : Nat) : Int)) ∧ w' = w := by
  have HO := Lib.hid h
  have HN := Lib.hid hn
  clear h hn
  go_enter Tryz.func25, Tryz.ntmps25
  go_wp2_with fail
  go_loopw [5, 1] (fun i q wr => ∃ (j p : Nat), j ≤ n ∧ i = .int .i64 j ∧ q = .int .i64 p ∧ p = k + 5 * j ∧ wr = w) (fun i _ _ => n - (intOf i).toNat)
  case atStart => exact ⟨0, k, Nat.zero_le _, rfl, rfl, by simp, rfl⟩
  case round =>
    obtain ⟨j, p, hj, rfl, rfl, hp, hw⟩ := hrel
    obtain rfl : w = wr := hw.symm
    have HP := Lib.hid hp
    by_cases hlt : j < n
    · have hjl : ((j : Int) < (n : Int)) := by omega
      have he := tkJ_at ts k (show j < ts.length by have := HN.out; omega) hlt (by have := HN.out; omega)
      rw [← hp] at he
      have hpb : p + 5 ≤ 1099511627776 := by omega
      obtain ⟨h1, h2, h3, h4, h5⟩ := wrap_five p hpb
      obtain ⟨fr, hfr⟩ : ∃ f, f = (((p : Int) + 4) % 3 == 0) := ⟨_, rfl⟩
      have he2 : (tkJ ts k n)[j]? = some ⟨(p : Int), (p : Int) + 1, (p : Int) + 2, (p : Int) + 3, fr⟩ := by rw [he, hfr]; rfl
      have hft : (((p : Int) + 4) % 3 == 0) = fr := hfr.symm
      obtain ⟨g, o, rfl, hg, t0, t1, t2, t3, t4⟩ := tie_facts HO.out he2
      have hj0 : (0 : Int) ≤ (j : Int) := by omega
      have n0 : ((p : Int) != (p : Int)) = false := by simp
      have n1 : (((p : Int) + 1) != (p : Int) + 1) = false := by simp
      have n2 : (((p : Int) + 2) != (p : Int) + 2) = false := by simp
      have n3 : (((p : Int) + 3) != (p : Int) + 3) = false := by simp
      have n4 : (fr != fr) = false := by simp
      clear hp hw he he2 hfr
      go_wp2_with fail
      go_roundw
      case rel => exact ⟨j + 1, p + 5, by omega, by go_num, by first | go_num | (congr 1; omega) | (simp; omega), by have := HP.out; omega, by first | rfl | trivial⟩
      case measure => simp [intOf]; omega
    · have hjl : ¬ ((j : Int) < (n : Int)) := by omega
      have hjn : j = n := by omega
      subst hjn
      go_wp2_with fail
      go_ret
      exact ⟨int_ans (by have := HP.out; first | omega | (simp; omega)), rfl⟩

set_option maxRecDepth 100000 in
set_option maxHeartbeats 16000000 in
theorem heldNodeS_any (zs : List NL) (A : Option Addr) (n c k : Nat) (w : World) (hk : 0 < k) (hn : zs.length = n) (hb : k + 2 * n + slJ (nodesZ zs) n ≤ 1099511627776) (h : NodesAt w A (nodesZ (mkJ zs k n))) :
    Calls Tryz.prog 24 #[.slice A n c, .int .i64 k] w fun x w' => x = .returned (.int .i64 ((k + 2 * n + slJ (nodesZ zs) n : Nat) : Int)) ∧ Below w.heap.size w w' := by
  have HO := Lib.hid h
  have HN := Lib.hid hn
  have HB9 := Lib.hid hb
  have hnb : n ≤ 1099511627776 := by omega
  clear h hn hb
  go_enter Tryz.func24, Tryz.ntmps24
  go_wp2_with fail
  go_loopw [5, 1] (fun i q wr => ∃ (j p : Nat), j ≤ n ∧ i = .int .i64 j ∧ q = .int .i64 p ∧ p = k + 2 * j + slJ (nodesZ zs) j ∧ Below w.heap.size w wr) (fun i _ _ => n - (intOf i).toNat)
  case atStart => exact ⟨0, k, Nat.zero_le _, rfl, rfl, by simp [slJ], Below.refl _ _⟩
  case round =>
    obtain ⟨j, p, hj, rfl, rfl, hp, hbw⟩ := hrel
    have HP := Lib.hid hp
    have HBW := Lib.hid hbw
    by_cases hlt : j < n
    · have hjl : ((j : Int) < (n : Int)) := by omega
      have hjz : j < zs.length := by have := HN.out; omega
      obtain ⟨z, hz⟩ : ∃ z, z = zs[j]'hjz := ⟨_, rfl⟩
      have he : (nodesZ (mkJ zs k n))[j]? = some (markE z.e p) := by
        unfold nodesZ
        rw [List.getElem?_map, mkJ_at zs k hjz hlt (by have := HN.out; omega), ← hz, HP.out]; rfl
      obtain ⟨ql, hql⟩ : ∃ q, q = z.e.lab.length := ⟨_, rfl⟩
      have hsl : slJ (nodesZ zs) (j + 1) = slJ (nodesZ zs) j + ql := by
        rw [slJ_at _ (by unfold nodesZ; rw [List.length_map]; exact hjz), hql, hz]
        simp [nodesZ]
      have hle := slJ_le (nodesZ zs) (show j + 1 ≤ n by omega)
      have hpb : p + 2 + ql ≤ 1099511627776 := by have := HB9.out; omega
      have hp0 : 0 < p := by omega
      obtain ⟨g, o, L, cl, rfl, hg, a0, a1, a2, hra⟩ := node_facts (HO.out.below hbw) he
      have hlen : (markE z.e p).lab.length = ql := by unfold markE mrkI; simp [hql]
      rw [hlen] at a1
      have hrow : RowAt wr L (imarks (p + 1) ql) := by
        have h9 : (markE z.e p).lab.map intV = imarks (p + 1) ql := by rw [hql]; exact mrkI_cells _ _
        rw [h9] at hra; exact hra
      have a0' : wr.cell? ⟨g, o + j * 3, none⟩ = some (.string (markB p)) := a0
      have a2' : wr.cell? ⟨g, o + j * 3 + 2, none⟩ = some (.int .i64 ((p : Int) + 1 + ql)) := by
        have h9 : (markE z.e p).wat = (p : Int) + 1 + ql := by unfold markE; rw [hql]; dsimp only; omega
        rw [h9] at a2; exact a2
      have HMT := Lib.hid (fun W => markText_any p W hp0 (by omega))
      obtain ⟨mb, hmb⟩ : ∃ b, b = markB p := ⟨_, rfl⟩
      rw [← hmb] at a0' HMT
      have hoo : (mb.toList != mb.toList) = false := by simp
      have HROW := Lib.hid hrow
      have HSL := Lib.hid hsl
      have hj0 : (0 : Int) ≤ (j : Int) := by omega
      clear hp he hz hsl hle a0 a2 hra hrow hmb hlen hql
      go_upto_region 4 with (fail)
      obtain ⟨C, hC⟩ : ∃ C : World → Prop, C = fun W => Below wr.heap.size wr W := ⟨_, rfl⟩
      have qb : ∀ W, C W → Below wr.heap.size wr W := fun W h => by rw [hC] at h; exact h
      have qc : ∀ W, Below wr.heap.size wr W → C W := fun W h => by rw [hC]; exact h
      have hC0 : C (World.drew wr) := qc _ (Below.refl _ _).drew
      have qf0 : ∀ zc : WC C, zc.w.cell? ⟨g, o + j * 3, none⟩ = some (.string mb) := fun zc => ((qb _ zc.h).cell (p := ⟨g, o + j * 3, none⟩) (by first | omega | (simp; done) | (simp; omega))).trans (by first | assumption | go_simp)
      have qf1 : ∀ zc : WC C, zc.w.cell? ⟨g, o + j * 3 + 1, none⟩ = some (.slice L ql cl) := fun zc => ((qb _ zc.h).cell (p := ⟨g, o + j * 3 + 1, none⟩) (by first | omega | (simp; done) | (simp; omega))).trans (by first | assumption | go_simp)
      have qf2 : ∀ zc : WC C, zc.w.cell? ⟨g, o + j * 3 + 2, none⟩ = some (.int .i64 ((p : Int) + 1 + ql)) := fun zc => ((qb _ zc.h).cell (p := ⟨g, o + j * 3 + 2, none⟩) (by first | omega | (simp; done) | (simp; omega))).trans (by first | assumption | go_simp)
      have A0 : Hid (∀ zc : WC C, Calls Tryz.prog 46 #[.int .i64 p] zc.w fun e w2 => e = .returned (.string mb) ∧ ∃ y : WC C, w2 = y.w) := Lib.hid (fun zc => wc_calls (((fun _ => HMT.out zc.w) zc.w).mono fun e w2 k => ⟨k.1, qc _ ((qb _ zc.h).trans (k.2.mono (qb _ zc.h).size))⟩))
      have nwc : Nonempty (WC C) := ⟨⟨_, hC0⟩⟩
      clear hC
      refine region_wc C (by kernel_rfl) (by kernel_rfl) hC0 ?_
      repeat (go_big_quiet_step (first | (go_at_call 46; with_reducible exact A0.out _)))
      refine wpQuiet_nil ?_
      rintro _ ⟨xq, rfl⟩
      have bq := qb _ xq.h
      have gf0 := qf0 xq
      have gf1 := qf1 xq
      have gf2 := qf2 xq
      obtain ⟨wq, hwq⟩ : ∃ wq, wq = xq.w := ⟨_, rfl⟩
      rw [← hwq] at bq gf0 gf1 gf2 ⊢
      clear hwq xq nwc hC0 qb qc qf0 qf1 qf2 A0 C
      have BQ := Lib.hid (HBW.out.trans (bq.mono HBW.out.size))
      have HI := Lib.hid (heldIntS_any L ql cl (p + 1) wq (by omega) (by omega) (HROW.out.below bq))
      go_wp2_with fail
      have hi9 := HI.out
      rw [show (((p + 1 : Nat) : Int)) = (p : Int) + 1 from by omega] at hi9
      refine hi9.mono ?_
      rintro x w5 ⟨rfl, hw5⟩
      subst hw5
      clear hi9
      have hnn : ¬ ((p : Int) + 1 + (ql : Int) < 0) := by omega
      have hne : (((p : Int) + 1 + (ql : Int)) != (p : Int) + 1 + (ql : Int)) = false := by simp
      go_wp2_with fail
      go_roundw
      case rel => exact ⟨j + 1, p + 2 + ql, by omega, by go_num, by first | go_num | (congr 1; omega) | (simp; omega), by have := HP.out; have := HSL.out; omega, BQ.out⟩
      case measure => simp [intOf]; omega
    · have hjl : ¬ ((j : Int) < (n : Int)) := by omega
      have hjn : j = n := by omega
      subst hjn
      go_wp2_with fail
      go_ret
      exact ⟨int_ans (by have := HP.out; first | omega | (simp; omega)), HBW.out⟩

set_option maxRecDepth 100000 in
set_option maxHeartbeats 8000000 in
theorem heldShow_any (s : GS) (A : Option Addr) (k c : Nat) (B : Option Addr) (m d : Nat) (zs : List NL) (p : Nat) (w : World) (hp : 0 < p) (hb : ShB s) (hpb : p ≤ 1000000) (hes : nodesZ zs = s.ns) (hln : s.ns.length = k) (hlt : s.ts.length = m) (ha : ShowAt w (mkS s zs p) A k B m) :
    Calls Tryz.prog 8 #[shV A k c B m d s.h, .int .i64 p] w fun x w' => x = .returned (.int .i64 ((p + 2 * k + slJ s.ns k + 5 * m : Nat) : Int)) ∧ Below w.heap.size w w' := by
  have hzl : zs.length = k := by have := hln; rw [← hes] at this; simpa [nodesZ] using this
  have hsum : slJ s.ns k ≤ 1048576 := by have := hb.sum; rwa [hln] at this
  have hkk : k ≤ 1048576 := by have := hb.ns; omega
  have hmm : m ≤ 1048576 := by have := hb.ts; omega
  have HN := Lib.hid (fun W (h : NodesAt W A (nodesZ (mkJ zs p zs.length))) => heldNodeS_any zs A k c p W hp hzl (by rw [hes]; omega) (by rw [← hzl]; exact h))
  rw [hes] at HN
  have HT := Lib.hid (fun W (h : TieAt W B (tkJ s.ts (p + 2 * zs.length + slJ (nodesZ zs) zs.length) s.ts.length)) => heldTieS_any s.ts B m d (p + 2 * k + slJ s.ns k) W hlt (by omega) (by rw [hlt, hzl, hes] at h; exact h))
  have HAN := Lib.hid ha.nodes
  have HAT := Lib.hid ha.ties
  obtain ⟨q, hq⟩ : ∃ q, q = p + 2 * k + slJ s.ns k := ⟨_, rfl⟩
  have hq0 : ¬ ((q : Int) < 0) := by omega
  have hq1 : ¬ (((q + 5 * m : Nat) : Int) < 0) := by omega
  rw [← hq] at HN HT
  rw [← hq]
  obtain ⟨r, hr⟩ : ∃ r, r = q + 5 * m := ⟨_, rfl⟩
  rw [← hr] at HT hq1
  rw [← hr]
  obtain ⟨h, hh⟩ : ∃ h, h = s.h := ⟨_, rfl⟩
  rw [← hh]
  unfold shV
  clear ha hes hln hlt hzl hsum hq hr hh hb
  go_enter Tryz.func8, Tryz.ntmps8
  go_wp2_with fail
  refine (HN.out _ (HAN.out.below (w := w) (by repeat (first | exact Below.refl _ _ | refine below_step (by assumption) (by first | omega | (simp; done) | (simp; omega)) ?_ | refine below_drewN ?_ _ | refine Below.drew ?_ | refine Below.setCell ?_ (by first | omega | (simp; done) | (simp; omega)) _ | refine Below.alloc ?_ (by first | omega | (simp; done) | (simp; omega)) _)))).mono ?_
  rintro e w1 ⟨rfl, b1⟩
  have B_w1 : Below w.heap.size w w1 := (by repeat (first | exact Below.refl _ _ | refine below_step (by assumption) (by first | omega | (simp; done) | (simp; omega)) ?_ | refine below_drewN ?_ _ | refine Below.drew ?_ | refine Below.setCell ?_ (by first | omega | (simp; done) | (simp; omega)) _ | refine Below.alloc ?_ (by first | omega | (simp; done) | (simp; omega)) _))
  have c1_w1 : w1.cell? ⟨w.heap.size, 1, none⟩ = some (.slice B m d) := (b1.cell (p := ⟨w.heap.size, 1, none⟩) (by first | omega | (simp; done) | (simp; omega))).trans (by first | assumption | go_simp)
  clear b1
  go_wp2_with fail
  refine (HT.out _ (HAT.out.below (w := w) B_w1)).mono ?_
  rintro e w2 ⟨rfl, hw2⟩
  subst hw2
  go_wp2_with fail
  go_ret
  exact ⟨rfl, B_w1⟩

end Go.Proofs.YtgajodcgedhikaaGreatDoor
