/-
  WALKS of impl's freeOk, tiesOk, ShowOk.
-/
import Derived.Test.YtgajodcgedhikaaGreatDoorBdPnE
import Derived.Deep.RegionHeld3
import Derived.Deep.Cut
import Derived.Deep.CutRange
namespace Go.Proofs.YtgajodcgedhikaaGreatDoor
open Go.RowKit
set_option linter.unusedVariables false
set_option linter.unusedSimpArgs false

/-- What is asked of a free tie. -/
def frB (ns : List GN) (ts : List GT) (i : Int) (t : GT) : Bool :=
  decide (1 ≤ t.lo) && (decide (t.v ≠ 0) && (decide ((ns[t.v.toNat]?.getD gN0).wat = 0) && (decide ((ns[t.v.toNat]?.getD gN0).lab = (ns[t.u.toNat]?.getD gN0).lab) && decide (freR ts t.v = i))))
theorem tk_rng {k : Nat} {t : GT} (h : tkB k t = true) : 0 ≤ t.u ∧ t.u < k ∧ 0 ≤ t.v ∧ t.v < k := by
  unfold tkB at h
  simp only [Bool.and_eq_true, decide_eq_true_eq] at h
  exact ⟨h.1.1, h.1.2, h.2.1.1, h.2.1.2⟩
theorem tiB_tk {ns : List GN} {ts : List GT} {i : Nat} {t : GT} (h : ts[i]? = some t) : tiB ns ts i = (tkB ns.length t && (!t.fr || frB ns ts i t)) := by
  obtain ⟨u, v, lo, hi, fr⟩ := t
  rw [tiB_at h]
  unfold tkB frB
  dsimp only
  rw [Bool.eq_iff_iff]
  simp only [Bool.and_eq_true, Bool.or_eq_true, decide_eq_true_eq, Bool.not_eq_true']
  constructor
  · rintro ⟨⟨h1, h2⟩, ⟨h3, h4⟩, h5, h6, h7, h8, h9⟩
    refine ⟨⟨⟨h1, by omega⟩, ⟨h3, by omega⟩, h5, h6, h8, h7⟩, ?_⟩
    rcases h9 with h9 | ⟨a, b, c, d, e⟩
    · exact .inl h9
    · exact .inr ⟨a, b, c, d.symm, e⟩
  · rintro ⟨⟨⟨h1, h2⟩, ⟨h3, h4⟩, h5, h6, h8, h7⟩, h9⟩
    refine ⟨⟨h1, by omega⟩, ⟨h3, by omega⟩, h5, h6, h7, h8, ?_⟩
    rcases h9 with h9 | ⟨a, b, c, d, e⟩
    · exact .inl h9
    · exact .inr ⟨a, b, c, d.symm, e⟩

set_option maxRecDepth 100000 in
set_option maxHeartbeats 16000000 in
theorem freeOk_any (s : GS) (i : Int) (t : GT) (A : Option Addr) (k c : Nat) (B : Option Addr) (m d : Nat) (w : World) (hs : ShB s) (ht : tkB k t = true) (ha : ShowAt w s A k B m) :
    Calls Tryz.prog 67 #[shV A k c B m d s.h, .int .i64 i, t.val] w fun e w' => e = .returned (.bool (frB s.ns s.ts i t)) ∧ Below w.heap.size w w' := by
  obtain ⟨hu0, hu1, hv0, hv1⟩ := tk_rng ht
  obtain ⟨u, v, lo, hi2, fr⟩ := t
  dsimp only at hu0 hu1 hv0 hv1
  have hmm : m ≤ 1048576 := by have := hs.ts; have := ha.lt; omega
  have hkk : k ≤ 1048576 := by have := hs.ns; have := ha.ln; omega
  have HLN := Lib.hid ha.ln
  have HEACH := Lib.hid hs.each
  have HFRE := Lib.hid (fun p W h => free_any s p A k c B m d W hmm h)
  have HA := Lib.hid ha
  have HEQ : Hid (frB s.ns s.ts i ⟨u, v, lo, hi2, fr⟩ = (decide (1 ≤ lo) && (decide (v ≠ 0) && (decide ((s.ns[v.toNat]?.getD gN0).wat = 0) && (decide ((s.ns[v.toNat]?.getD gN0).lab = (s.ns[u.toNat]?.getD gN0).lab) && decide (freR s.ts v = i)))))) := Lib.hid rfl
  clear ha hs ht
  unfold GT.val
  dsimp only
  obtain ⟨h, hh⟩ : ∃ h, h = s.h := ⟨_, rfl⟩
  rw [← hh] at HFRE
  rw [← hh]
  clear hh
  unfold shV at HFRE ⊢
  obtain ⟨nu, rfl⟩ : ∃ n : Nat, u = n := ⟨u.toNat, by omega⟩
  obtain ⟨nv, rfl⟩ : ∃ n : Nat, v = n := ⟨v.toNat, by omega⟩
  obtain ⟨f, hf⟩ : ∃ f, s.ns[nu]? = some f := ⟨_, List.getElem?_eq_getElem (by have := HLN.out; omega)⟩
  obtain ⟨f2, hf2⟩ : ∃ f, s.ns[nv]? = some f := ⟨_, List.getElem?_eq_getElem (by have := HLN.out; omega)⟩
  have HEQ2 := HEQ.out
  have hnu : ((nu : Nat) : Int).toNat = nu := by omega
  have hnv : ((nv : Nat) : Int).toNat = nv := by omega
  rw [hnu, hnv, hf, hf2, Option.getD_some, Option.getD_some] at HEQ2
  have HEQ := Lib.hid HEQ2
  obtain ⟨g, o, Lu, cu, rfl, hg, a0, a1, a2, hra⟩ := node_facts HA.out.nodes hf
  obtain ⟨g2, o2, Lv, cv, hA2, _, v0, v1, v2, hrv⟩ := node_facts HA.out.nodes hf2
  injection hA2 with hA2
  injection hA2 with hA3 hA4
  subst hA3 hA4
  have hfm := (HEACH.out f (List.mem_of_getElem? hf)).2
  have hfm2 := (HEACH.out f2 (List.mem_of_getElem? hf2)).2
  obtain ⟨fl, hfl⟩ : ∃ q, q = f.lab.length := ⟨_, rfl⟩
  obtain ⟨fl2, hfl2⟩ : ∃ q, q = f2.lab.length := ⟨_, rfl⟩
  rw [← hfl] at a1 hfm
  rw [← hfl2] at v1 hfm2
  obtain ⟨w1, hw1⟩ : ∃ W, W = ((w.alloc (.cells #[.slice (some ⟨g, o, none⟩) k c, .slice B m d, .int .i64 h] 25)).alloc (.cells #[.int .i64 nu, .int .i64 nv, .int .i64 lo, .int .i64 hi2, .bool fr] 42)).alloc (.cells #[.string f2.name, .slice Lv fl2 cv, .int .i64 f2.wat] 38) := ⟨_, rfl⟩
  have B_w1 : Below w.heap.size w w1 := by rw [hw1]; exact (by repeat (first | exact Below.refl _ _ | refine below_step (by assumption) (by first | omega | (simp; done) | (simp; omega)) ?_ | refine below_drewN ?_ _ | refine Below.drew ?_ | refine Below.setCell ?_ (by first | omega | (simp; done) | (simp; omega)) _ | refine Below.alloc ?_ (by first | omega | (simp; done) | (simp; omega)) _))
  have z_w1 : w.heap.size + 2 < w1.heap.size := by rw [hw1]; simp
  have p0 : w1.cell? ⟨w.heap.size, 0, none⟩ = some (.slice (some ⟨g, o, none⟩) k c) := by rw [hw1]; go_simp
  have p1 : w1.cell? ⟨w.heap.size, 1, none⟩ = some (.slice B m d) := by rw [hw1]; go_simp
  have p2 : w1.cell? ⟨w.heap.size, 2, none⟩ = some (.int .i64 h) := by rw [hw1]; go_simp
  have p3 : w1.cell? ⟨w.heap.size + 1, 0, none⟩ = some (.int .i64 nu) := by rw [hw1]; go_simp
  have p4 : w1.cell? ⟨w.heap.size + 1, 1, none⟩ = some (.int .i64 nv) := by rw [hw1]; go_simp
  have p5 : w1.cell? ⟨w.heap.size + 1, 2, none⟩ = some (.int .i64 lo) := by rw [hw1]; go_simp
  have p6 : w1.cell? ⟨w.heap.size + 1 + 1, 1, none⟩ = some (.slice Lv fl2 cv) := by rw [hw1]; go_simp
  have p7 : w1.cell? ⟨w.heap.size + 1 + 1, 2, none⟩ = some (.int .i64 f2.wat) := by rw [hw1]; go_simp
  have p8 : w1.cell? ⟨g, o + nu * 3 + 1, none⟩ = some (.slice Lu fl cu) := (B_w1.cell (p := ⟨g, o + nu * 3 + 1, none⟩) hg).trans a1
  have HA1 := Lib.hid (HA.out.below B_w1)
  have HRA := Lib.hid (hra.below B_w1)
  have HRV := Lib.hid (hrv.below B_w1)
  have BW1 := Lib.hid B_w1
  have HW1 := Lib.hid hw1
  obtain ⟨sm, hsm⟩ : ∃ b, b = decide (f2.lab = f.lab) := ⟨_, rfl⟩
  have hsame := fun W h1 h2 => equal_ints f2.lab f.lab Lv fl2 cv Lu fl cu W hfl2.symm hfm2 hfl.symm hfm h1 h2
  rw [← hsm] at hsame HEQ
  have HSM := Lib.hid hsame
  obtain ⟨fz, hfz⟩ : ∃ b, b = freR s.ts nv := ⟨_, rfl⟩
  have hfree := fun W h1 => HFRE.out nv W h1
  rw [← hfz] at hfree HEQ
  have HFZ := Lib.hid hfree
  have hgw : g < w1.heap.size := Nat.lt_of_lt_of_le hg B_w1.size
  have z0_w1 : w.heap.size < w1.heap.size := by omega
  have z1_w1 : w.heap.size + 1 < w1.heap.size := by omega
  have z2_w1 : w.heap.size + 1 + 1 < w1.heap.size := by omega
  have hnu0 : (0 : Int) ≤ (nu : Int) := by omega
  have hnv0 : (0 : Int) ≤ (nv : Int) := by omega
  clear hf hf2 HEQ2 hnu hnv hfl hfl2 hsm hsame hfz hfree hra hrv hw1 B_w1
  go_enter Tryz.func67, Tryz.ntmps67
  go_upto_region 2 with (fail)
  rw [← HW1.out]
  clear a0 a1 a2 v0 v1 v2 HW1
  by_cases h1 : 1 ≤ lo
  · have d1 : decide ((1 : Int) ≤ lo) = true := decide_eq_true h1
    by_cases h2 : nv = 0
    · have d2 : ((nv : Int) != 0) = false := by simp [h2]
      have HY := Lib.hid (decide_eq_false (show ¬ ((nv : Int) ≠ 0) by omega))
      have HY1 := Lib.hid d1
      clear h2
      obtain ⟨C, hC⟩ : ∃ C : World → Prop, C = fun W => Below w1.heap.size w1 W := ⟨_, rfl⟩
      have qb : ∀ W, C W → Below w1.heap.size w1 W := fun W h => by rw [hC] at h; exact h
      have qc : ∀ W, Below w1.heap.size w1 W → C W := fun W h => by rw [hC]; exact h
      have hC0 : C (World.drew w1) := qc _ (Below.refl _ _).drew
      have qf0 : ∀ zc : WC C, zc.w.cell? ⟨w.heap.size, 0, none⟩ = some (.slice (some ⟨g, o, none⟩) k c) := fun zc => ((qb _ zc.h).cell (p := ⟨w.heap.size, 0, none⟩) (by first | omega | (simp; done) | (simp; omega))).trans (by first | assumption | go_simp)
      have qf1 : ∀ zc : WC C, zc.w.cell? ⟨w.heap.size, 1, none⟩ = some (.slice B m d) := fun zc => ((qb _ zc.h).cell (p := ⟨w.heap.size, 1, none⟩) (by first | omega | (simp; done) | (simp; omega))).trans (by first | assumption | go_simp)
      have qf2 : ∀ zc : WC C, zc.w.cell? ⟨w.heap.size, 2, none⟩ = some (.int .i64 h) := fun zc => ((qb _ zc.h).cell (p := ⟨w.heap.size, 2, none⟩) (by first | omega | (simp; done) | (simp; omega))).trans (by first | assumption | go_simp)
      have qf3 : ∀ zc : WC C, zc.w.cell? ⟨w.heap.size + 1, 0, none⟩ = some (.int .i64 nu) := fun zc => ((qb _ zc.h).cell (p := ⟨w.heap.size + 1, 0, none⟩) (by first | omega | (simp; done) | (simp; omega))).trans (by first | assumption | go_simp)
      have qf4 : ∀ zc : WC C, zc.w.cell? ⟨w.heap.size + 1, 1, none⟩ = some (.int .i64 nv) := fun zc => ((qb _ zc.h).cell (p := ⟨w.heap.size + 1, 1, none⟩) (by first | omega | (simp; done) | (simp; omega))).trans (by first | assumption | go_simp)
      have qf5 : ∀ zc : WC C, zc.w.cell? ⟨w.heap.size + 1, 2, none⟩ = some (.int .i64 lo) := fun zc => ((qb _ zc.h).cell (p := ⟨w.heap.size + 1, 2, none⟩) (by first | omega | (simp; done) | (simp; omega))).trans (by first | assumption | go_simp)
      have qf6 : ∀ zc : WC C, zc.w.cell? ⟨w.heap.size + 1 + 1, 1, none⟩ = some (.slice Lv fl2 cv) := fun zc => ((qb _ zc.h).cell (p := ⟨w.heap.size + 1 + 1, 1, none⟩) (by first | omega | (simp; done) | (simp; omega))).trans (by first | assumption | go_simp)
      have qf7 : ∀ zc : WC C, zc.w.cell? ⟨w.heap.size + 1 + 1, 2, none⟩ = some (.int .i64 f2.wat) := fun zc => ((qb _ zc.h).cell (p := ⟨w.heap.size + 1 + 1, 2, none⟩) (by first | omega | (simp; done) | (simp; omega))).trans (by first | assumption | go_simp)
      have qf8 : ∀ zc : WC C, zc.w.cell? ⟨g, o + nu * 3 + 1, none⟩ = some (.slice Lu fl cu) := fun zc => ((qb _ zc.h).cell (p := ⟨g, o + nu * 3 + 1, none⟩) (by first | omega | (simp; done) | (simp; omega))).trans (by first | assumption | go_simp)
      have nwc : Nonempty (WC C) := ⟨⟨_, hC0⟩⟩
      clear hC
      refine region_wc C (by kernel_rfl) (by kernel_rfl) hC0 ?_
      repeat (go_big_quiet_step (fail))
      refine wpQuiet_nil ?_
      rintro _ ⟨xq, rfl⟩
      have bq := qb _ xq.h
      have gf0 := qf0 xq
      have gf1 := qf1 xq
      have gf2 := qf2 xq
      have gf3 := qf3 xq
      have gf4 := qf4 xq
      have gf5 := qf5 xq
      have gf6 := qf6 xq
      have gf7 := qf7 xq
      have gf8 := qf8 xq
      obtain ⟨wq, hwq⟩ : ∃ wq, wq = xq.w := ⟨_, rfl⟩
      rw [← hwq] at bq gf0 gf1 gf2 gf3 gf4 gf5 gf6 gf7 gf8 ⊢
      clear hwq xq nwc hC0 qb qc qf0 qf1 qf2 qf3 qf4 qf5 qf6 qf7 qf8  C
      go_wp2_with fail
      go_ret
      exact ⟨ret_b (by rw [HEQ.out, HY1.out, HY.out]; rfl), BW1.out.trans (bq.mono BW1.out.size)⟩
    · have d2 : ((nv : Int) != 0) = true := by simp; omega
      have HY := Lib.hid (decide_eq_true (show ((nv : Int) ≠ 0) by omega))
      have HY1 := Lib.hid d1
      clear h2
      by_cases h3 : f2.wat = 0
      · have d3 : (f2.wat == 0) = true := by simp [h3]
        have HY2 := Lib.hid (decide_eq_true h3)
        clear h3
        cases sm with
        | false =>
          obtain ⟨C, hC⟩ : ∃ C : World → Prop, C = fun W => Below w1.heap.size w1 W := ⟨_, rfl⟩
          have qb : ∀ W, C W → Below w1.heap.size w1 W := fun W h => by rw [hC] at h; exact h
          have qc : ∀ W, Below w1.heap.size w1 W → C W := fun W h => by rw [hC]; exact h
          have hC0 : C (World.drew w1) := qc _ (Below.refl _ _).drew
          have qf0 : ∀ zc : WC C, zc.w.cell? ⟨w.heap.size, 0, none⟩ = some (.slice (some ⟨g, o, none⟩) k c) := fun zc => ((qb _ zc.h).cell (p := ⟨w.heap.size, 0, none⟩) (by first | omega | (simp; done) | (simp; omega))).trans (by first | assumption | go_simp)
          have qf1 : ∀ zc : WC C, zc.w.cell? ⟨w.heap.size, 1, none⟩ = some (.slice B m d) := fun zc => ((qb _ zc.h).cell (p := ⟨w.heap.size, 1, none⟩) (by first | omega | (simp; done) | (simp; omega))).trans (by first | assumption | go_simp)
          have qf2 : ∀ zc : WC C, zc.w.cell? ⟨w.heap.size, 2, none⟩ = some (.int .i64 h) := fun zc => ((qb _ zc.h).cell (p := ⟨w.heap.size, 2, none⟩) (by first | omega | (simp; done) | (simp; omega))).trans (by first | assumption | go_simp)
          have qf3 : ∀ zc : WC C, zc.w.cell? ⟨w.heap.size + 1, 0, none⟩ = some (.int .i64 nu) := fun zc => ((qb _ zc.h).cell (p := ⟨w.heap.size + 1, 0, none⟩) (by first | omega | (simp; done) | (simp; omega))).trans (by first | assumption | go_simp)
          have qf4 : ∀ zc : WC C, zc.w.cell? ⟨w.heap.size + 1, 1, none⟩ = some (.int .i64 nv) := fun zc => ((qb _ zc.h).cell (p := ⟨w.heap.size + 1, 1, none⟩) (by first | omega | (simp; done) | (simp; omega))).trans (by first | assumption | go_simp)
          have qf5 : ∀ zc : WC C, zc.w.cell? ⟨w.heap.size + 1, 2, none⟩ = some (.int .i64 lo) := fun zc => ((qb _ zc.h).cell (p := ⟨w.heap.size + 1, 2, none⟩) (by first | omega | (simp; done) | (simp; omega))).trans (by first | assumption | go_simp)
          have qf6 : ∀ zc : WC C, zc.w.cell? ⟨w.heap.size + 1 + 1, 1, none⟩ = some (.slice Lv fl2 cv) := fun zc => ((qb _ zc.h).cell (p := ⟨w.heap.size + 1 + 1, 1, none⟩) (by first | omega | (simp; done) | (simp; omega))).trans (by first | assumption | go_simp)
          have qf7 : ∀ zc : WC C, zc.w.cell? ⟨w.heap.size + 1 + 1, 2, none⟩ = some (.int .i64 f2.wat) := fun zc => ((qb _ zc.h).cell (p := ⟨w.heap.size + 1 + 1, 2, none⟩) (by first | omega | (simp; done) | (simp; omega))).trans (by first | assumption | go_simp)
          have qf8 : ∀ zc : WC C, zc.w.cell? ⟨g, o + nu * 3 + 1, none⟩ = some (.slice Lu fl cu) := fun zc => ((qb _ zc.h).cell (p := ⟨g, o + nu * 3 + 1, none⟩) (by first | omega | (simp; done) | (simp; omega))).trans (by first | assumption | go_simp)
          have A0 : Hid (∀ zc : WC C, Calls Tryz.prog 84 #[.slice Lv fl2 cv, .slice Lu fl cu] zc.w fun e w2 => e = .returned (.bool false) ∧ ∃ y : WC C, w2 = y.w) := Lib.hid (fun zc => wc_calls (((fun _ => HSM.out zc.w (HRV.out.below (qb _ zc.h)) (HRA.out.below (qb _ zc.h))) zc.w).mono fun e w2 k => ⟨k.1, qc _ ((qb _ zc.h).trans (k.2.mono (qb _ zc.h).size))⟩))
          have nwc : Nonempty (WC C) := ⟨⟨_, hC0⟩⟩
          clear hC
          refine region_wc C (by kernel_rfl) (by kernel_rfl) hC0 ?_
          repeat (go_big_quiet_step (first | (go_at_call 84; with_reducible exact A0.out _)))
          refine wpQuiet_nil ?_
          rintro _ ⟨xq, rfl⟩
          have bq := qb _ xq.h
          have gf0 := qf0 xq
          have gf1 := qf1 xq
          have gf2 := qf2 xq
          have gf3 := qf3 xq
          have gf4 := qf4 xq
          have gf5 := qf5 xq
          have gf6 := qf6 xq
          have gf7 := qf7 xq
          have gf8 := qf8 xq
          obtain ⟨wq, hwq⟩ : ∃ wq, wq = xq.w := ⟨_, rfl⟩
          rw [← hwq] at bq gf0 gf1 gf2 gf3 gf4 gf5 gf6 gf7 gf8 ⊢
          clear hwq xq nwc hC0 qb qc qf0 qf1 qf2 qf3 qf4 qf5 qf6 qf7 qf8 A0 C
          go_wp2_with fail
          go_ret
          exact ⟨ret_b (by rw [HEQ.out, HY1.out, HY.out, HY2.out]; rfl), BW1.out.trans (bq.mono BW1.out.size)⟩
        | true =>
          by_cases h4 : fz = i
          · have d4 : (fz == i) = true := by simp [h4]
            have HY3 := Lib.hid (decide_eq_true h4)
            clear h4
            obtain ⟨C, hC⟩ : ∃ C : World → Prop, C = fun W => Below w1.heap.size w1 W := ⟨_, rfl⟩
            have qb : ∀ W, C W → Below w1.heap.size w1 W := fun W h => by rw [hC] at h; exact h
            have qc : ∀ W, Below w1.heap.size w1 W → C W := fun W h => by rw [hC]; exact h
            have hC0 : C (World.drew w1) := qc _ (Below.refl _ _).drew
            have qf0 : ∀ zc : WC C, zc.w.cell? ⟨w.heap.size, 0, none⟩ = some (.slice (some ⟨g, o, none⟩) k c) := fun zc => ((qb _ zc.h).cell (p := ⟨w.heap.size, 0, none⟩) (by first | omega | (simp; done) | (simp; omega))).trans (by first | assumption | go_simp)
            have qf1 : ∀ zc : WC C, zc.w.cell? ⟨w.heap.size, 1, none⟩ = some (.slice B m d) := fun zc => ((qb _ zc.h).cell (p := ⟨w.heap.size, 1, none⟩) (by first | omega | (simp; done) | (simp; omega))).trans (by first | assumption | go_simp)
            have qf2 : ∀ zc : WC C, zc.w.cell? ⟨w.heap.size, 2, none⟩ = some (.int .i64 h) := fun zc => ((qb _ zc.h).cell (p := ⟨w.heap.size, 2, none⟩) (by first | omega | (simp; done) | (simp; omega))).trans (by first | assumption | go_simp)
            have qf3 : ∀ zc : WC C, zc.w.cell? ⟨w.heap.size + 1, 0, none⟩ = some (.int .i64 nu) := fun zc => ((qb _ zc.h).cell (p := ⟨w.heap.size + 1, 0, none⟩) (by first | omega | (simp; done) | (simp; omega))).trans (by first | assumption | go_simp)
            have qf4 : ∀ zc : WC C, zc.w.cell? ⟨w.heap.size + 1, 1, none⟩ = some (.int .i64 nv) := fun zc => ((qb _ zc.h).cell (p := ⟨w.heap.size + 1, 1, none⟩) (by first | omega | (simp; done) | (simp; omega))).trans (by first | assumption | go_simp)
            have qf5 : ∀ zc : WC C, zc.w.cell? ⟨w.heap.size + 1, 2, none⟩ = some (.int .i64 lo) := fun zc => ((qb _ zc.h).cell (p := ⟨w.heap.size + 1, 2, none⟩) (by first | omega | (simp; done) | (simp; omega))).trans (by first | assumption | go_simp)
            have qf6 : ∀ zc : WC C, zc.w.cell? ⟨w.heap.size + 1 + 1, 1, none⟩ = some (.slice Lv fl2 cv) := fun zc => ((qb _ zc.h).cell (p := ⟨w.heap.size + 1 + 1, 1, none⟩) (by first | omega | (simp; done) | (simp; omega))).trans (by first | assumption | go_simp)
            have qf7 : ∀ zc : WC C, zc.w.cell? ⟨w.heap.size + 1 + 1, 2, none⟩ = some (.int .i64 f2.wat) := fun zc => ((qb _ zc.h).cell (p := ⟨w.heap.size + 1 + 1, 2, none⟩) (by first | omega | (simp; done) | (simp; omega))).trans (by first | assumption | go_simp)
            have qf8 : ∀ zc : WC C, zc.w.cell? ⟨g, o + nu * 3 + 1, none⟩ = some (.slice Lu fl cu) := fun zc => ((qb _ zc.h).cell (p := ⟨g, o + nu * 3 + 1, none⟩) (by first | omega | (simp; done) | (simp; omega))).trans (by first | assumption | go_simp)
            have A0 : Hid (∀ zc : WC C, Calls Tryz.prog 84 #[.slice Lv fl2 cv, .slice Lu fl cu] zc.w fun e w2 => e = .returned (.bool true) ∧ ∃ y : WC C, w2 = y.w) := Lib.hid (fun zc => wc_calls (((fun _ => HSM.out zc.w (HRV.out.below (qb _ zc.h)) (HRA.out.below (qb _ zc.h))) zc.w).mono fun e w2 k => ⟨k.1, qc _ ((qb _ zc.h).trans (k.2.mono (qb _ zc.h).size))⟩))
            have A1 : Hid (∀ zc : WC C, Calls Tryz.prog 85 #[.agg #[.slice (some ⟨g, o, none⟩) k c, .slice B m d, .int .i64 h], .int .i64 nv] zc.w fun e w2 => e = .returned (.int .i64 fz) ∧ ∃ y : WC C, w2 = y.w) := Lib.hid (fun zc => wc_calls (((fun _ => HFZ.out zc.w (HA1.out.below (qb _ zc.h))) zc.w).mono fun e w2 k => ⟨k.1, qc _ ((qb _ zc.h).trans (k.2.mono (qb _ zc.h).size))⟩))
            have nwc : Nonempty (WC C) := ⟨⟨_, hC0⟩⟩
            clear hC
            refine region_wc C (by kernel_rfl) (by kernel_rfl) hC0 ?_
            repeat (go_big_quiet_step (first | (go_at_call 84; with_reducible exact A0.out _) | (go_at_call 85; with_reducible exact A1.out _)))
            refine wpQuiet_nil ?_
            rintro _ ⟨xq, rfl⟩
            have bq := qb _ xq.h
            have gf0 := qf0 xq
            have gf1 := qf1 xq
            have gf2 := qf2 xq
            have gf3 := qf3 xq
            have gf4 := qf4 xq
            have gf5 := qf5 xq
            have gf6 := qf6 xq
            have gf7 := qf7 xq
            have gf8 := qf8 xq
            obtain ⟨wq, hwq⟩ : ∃ wq, wq = xq.w := ⟨_, rfl⟩
            rw [← hwq] at bq gf0 gf1 gf2 gf3 gf4 gf5 gf6 gf7 gf8 ⊢
            clear hwq xq nwc hC0 qb qc qf0 qf1 qf2 qf3 qf4 qf5 qf6 qf7 qf8 A0 A1 C
            go_wp2_with fail
            go_ret
            exact ⟨ret_b (by rw [HEQ.out, HY1.out, HY.out, HY2.out, HY3.out]; rfl), BW1.out.trans (bq.mono BW1.out.size)⟩
          · have d4 : (fz == i) = false := by simp [h4]
            have HY3 := Lib.hid (decide_eq_false h4)
            clear h4
            obtain ⟨C, hC⟩ : ∃ C : World → Prop, C = fun W => Below w1.heap.size w1 W := ⟨_, rfl⟩
            have qb : ∀ W, C W → Below w1.heap.size w1 W := fun W h => by rw [hC] at h; exact h
            have qc : ∀ W, Below w1.heap.size w1 W → C W := fun W h => by rw [hC]; exact h
            have hC0 : C (World.drew w1) := qc _ (Below.refl _ _).drew
            have qf0 : ∀ zc : WC C, zc.w.cell? ⟨w.heap.size, 0, none⟩ = some (.slice (some ⟨g, o, none⟩) k c) := fun zc => ((qb _ zc.h).cell (p := ⟨w.heap.size, 0, none⟩) (by first | omega | (simp; done) | (simp; omega))).trans (by first | assumption | go_simp)
            have qf1 : ∀ zc : WC C, zc.w.cell? ⟨w.heap.size, 1, none⟩ = some (.slice B m d) := fun zc => ((qb _ zc.h).cell (p := ⟨w.heap.size, 1, none⟩) (by first | omega | (simp; done) | (simp; omega))).trans (by first | assumption | go_simp)
            have qf2 : ∀ zc : WC C, zc.w.cell? ⟨w.heap.size, 2, none⟩ = some (.int .i64 h) := fun zc => ((qb _ zc.h).cell (p := ⟨w.heap.size, 2, none⟩) (by first | omega | (simp; done) | (simp; omega))).trans (by first | assumption | go_simp)
            have qf3 : ∀ zc : WC C, zc.w.cell? ⟨w.heap.size + 1, 0, none⟩ = some (.int .i64 nu) := fun zc => ((qb _ zc.h).cell (p := ⟨w.heap.size + 1, 0, none⟩) (by first | omega | (simp; done) | (simp; omega))).trans (by first | assumption | go_simp)
            have qf4 : ∀ zc : WC C, zc.w.cell? ⟨w.heap.size + 1, 1, none⟩ = some (.int .i64 nv) := fun zc => ((qb _ zc.h).cell (p := ⟨w.heap.size + 1, 1, none⟩) (by first | omega | (simp; done) | (simp; omega))).trans (by first | assumption | go_simp)
            have qf5 : ∀ zc : WC C, zc.w.cell? ⟨w.heap.size + 1, 2, none⟩ = some (.int .i64 lo) := fun zc => ((qb _ zc.h).cell (p := ⟨w.heap.size + 1, 2, none⟩) (by first | omega | (simp; done) | (simp; omega))).trans (by first | assumption | go_simp)
            have qf6 : ∀ zc : WC C, zc.w.cell? ⟨w.heap.size + 1 + 1, 1, none⟩ = some (.slice Lv fl2 cv) := fun zc => ((qb _ zc.h).cell (p := ⟨w.heap.size + 1 + 1, 1, none⟩) (by first | omega | (simp; done) | (simp; omega))).trans (by first | assumption | go_simp)
            have qf7 : ∀ zc : WC C, zc.w.cell? ⟨w.heap.size + 1 + 1, 2, none⟩ = some (.int .i64 f2.wat) := fun zc => ((qb _ zc.h).cell (p := ⟨w.heap.size + 1 + 1, 2, none⟩) (by first | omega | (simp; done) | (simp; omega))).trans (by first | assumption | go_simp)
            have qf8 : ∀ zc : WC C, zc.w.cell? ⟨g, o + nu * 3 + 1, none⟩ = some (.slice Lu fl cu) := fun zc => ((qb _ zc.h).cell (p := ⟨g, o + nu * 3 + 1, none⟩) (by first | omega | (simp; done) | (simp; omega))).trans (by first | assumption | go_simp)
            have A0 : Hid (∀ zc : WC C, Calls Tryz.prog 84 #[.slice Lv fl2 cv, .slice Lu fl cu] zc.w fun e w2 => e = .returned (.bool true) ∧ ∃ y : WC C, w2 = y.w) := Lib.hid (fun zc => wc_calls (((fun _ => HSM.out zc.w (HRV.out.below (qb _ zc.h)) (HRA.out.below (qb _ zc.h))) zc.w).mono fun e w2 k => ⟨k.1, qc _ ((qb _ zc.h).trans (k.2.mono (qb _ zc.h).size))⟩))
            have A1 : Hid (∀ zc : WC C, Calls Tryz.prog 85 #[.agg #[.slice (some ⟨g, o, none⟩) k c, .slice B m d, .int .i64 h], .int .i64 nv] zc.w fun e w2 => e = .returned (.int .i64 fz) ∧ ∃ y : WC C, w2 = y.w) := Lib.hid (fun zc => wc_calls (((fun _ => HFZ.out zc.w (HA1.out.below (qb _ zc.h))) zc.w).mono fun e w2 k => ⟨k.1, qc _ ((qb _ zc.h).trans (k.2.mono (qb _ zc.h).size))⟩))
            have nwc : Nonempty (WC C) := ⟨⟨_, hC0⟩⟩
            clear hC
            refine region_wc C (by kernel_rfl) (by kernel_rfl) hC0 ?_
            repeat (go_big_quiet_step (first | (go_at_call 84; with_reducible exact A0.out _) | (go_at_call 85; with_reducible exact A1.out _)))
            refine wpQuiet_nil ?_
            rintro _ ⟨xq, rfl⟩
            have bq := qb _ xq.h
            have gf0 := qf0 xq
            have gf1 := qf1 xq
            have gf2 := qf2 xq
            have gf3 := qf3 xq
            have gf4 := qf4 xq
            have gf5 := qf5 xq
            have gf6 := qf6 xq
            have gf7 := qf7 xq
            have gf8 := qf8 xq
            obtain ⟨wq, hwq⟩ : ∃ wq, wq = xq.w := ⟨_, rfl⟩
            rw [← hwq] at bq gf0 gf1 gf2 gf3 gf4 gf5 gf6 gf7 gf8 ⊢
            clear hwq xq nwc hC0 qb qc qf0 qf1 qf2 qf3 qf4 qf5 qf6 qf7 qf8 A0 A1 C
            go_wp2_with fail
            go_ret
            exact ⟨ret_b (by rw [HEQ.out, HY1.out, HY.out, HY2.out, HY3.out]; rfl), BW1.out.trans (bq.mono BW1.out.size)⟩
      · have d3 : (f2.wat == 0) = false := by simp [h3]
        have HY2 := Lib.hid (decide_eq_false h3)
        clear h3
        obtain ⟨C, hC⟩ : ∃ C : World → Prop, C = fun W => Below w1.heap.size w1 W := ⟨_, rfl⟩
        have qb : ∀ W, C W → Below w1.heap.size w1 W := fun W h => by rw [hC] at h; exact h
        have qc : ∀ W, Below w1.heap.size w1 W → C W := fun W h => by rw [hC]; exact h
        have hC0 : C (World.drew w1) := qc _ (Below.refl _ _).drew
        have qf0 : ∀ zc : WC C, zc.w.cell? ⟨w.heap.size, 0, none⟩ = some (.slice (some ⟨g, o, none⟩) k c) := fun zc => ((qb _ zc.h).cell (p := ⟨w.heap.size, 0, none⟩) (by first | omega | (simp; done) | (simp; omega))).trans (by first | assumption | go_simp)
        have qf1 : ∀ zc : WC C, zc.w.cell? ⟨w.heap.size, 1, none⟩ = some (.slice B m d) := fun zc => ((qb _ zc.h).cell (p := ⟨w.heap.size, 1, none⟩) (by first | omega | (simp; done) | (simp; omega))).trans (by first | assumption | go_simp)
        have qf2 : ∀ zc : WC C, zc.w.cell? ⟨w.heap.size, 2, none⟩ = some (.int .i64 h) := fun zc => ((qb _ zc.h).cell (p := ⟨w.heap.size, 2, none⟩) (by first | omega | (simp; done) | (simp; omega))).trans (by first | assumption | go_simp)
        have qf3 : ∀ zc : WC C, zc.w.cell? ⟨w.heap.size + 1, 0, none⟩ = some (.int .i64 nu) := fun zc => ((qb _ zc.h).cell (p := ⟨w.heap.size + 1, 0, none⟩) (by first | omega | (simp; done) | (simp; omega))).trans (by first | assumption | go_simp)
        have qf4 : ∀ zc : WC C, zc.w.cell? ⟨w.heap.size + 1, 1, none⟩ = some (.int .i64 nv) := fun zc => ((qb _ zc.h).cell (p := ⟨w.heap.size + 1, 1, none⟩) (by first | omega | (simp; done) | (simp; omega))).trans (by first | assumption | go_simp)
        have qf5 : ∀ zc : WC C, zc.w.cell? ⟨w.heap.size + 1, 2, none⟩ = some (.int .i64 lo) := fun zc => ((qb _ zc.h).cell (p := ⟨w.heap.size + 1, 2, none⟩) (by first | omega | (simp; done) | (simp; omega))).trans (by first | assumption | go_simp)
        have qf6 : ∀ zc : WC C, zc.w.cell? ⟨w.heap.size + 1 + 1, 1, none⟩ = some (.slice Lv fl2 cv) := fun zc => ((qb _ zc.h).cell (p := ⟨w.heap.size + 1 + 1, 1, none⟩) (by first | omega | (simp; done) | (simp; omega))).trans (by first | assumption | go_simp)
        have qf7 : ∀ zc : WC C, zc.w.cell? ⟨w.heap.size + 1 + 1, 2, none⟩ = some (.int .i64 f2.wat) := fun zc => ((qb _ zc.h).cell (p := ⟨w.heap.size + 1 + 1, 2, none⟩) (by first | omega | (simp; done) | (simp; omega))).trans (by first | assumption | go_simp)
        have qf8 : ∀ zc : WC C, zc.w.cell? ⟨g, o + nu * 3 + 1, none⟩ = some (.slice Lu fl cu) := fun zc => ((qb _ zc.h).cell (p := ⟨g, o + nu * 3 + 1, none⟩) (by first | omega | (simp; done) | (simp; omega))).trans (by first | assumption | go_simp)
        have nwc : Nonempty (WC C) := ⟨⟨_, hC0⟩⟩
        clear hC
        refine region_wc C (by kernel_rfl) (by kernel_rfl) hC0 ?_
        repeat (go_big_quiet_step (fail))
        refine wpQuiet_nil ?_
        rintro _ ⟨xq, rfl⟩
        have bq := qb _ xq.h
        have gf0 := qf0 xq
        have gf1 := qf1 xq
        have gf2 := qf2 xq
        have gf3 := qf3 xq
        have gf4 := qf4 xq
        have gf5 := qf5 xq
        have gf6 := qf6 xq
        have gf7 := qf7 xq
        have gf8 := qf8 xq
        obtain ⟨wq, hwq⟩ : ∃ wq, wq = xq.w := ⟨_, rfl⟩
        rw [← hwq] at bq gf0 gf1 gf2 gf3 gf4 gf5 gf6 gf7 gf8 ⊢
        clear hwq xq nwc hC0 qb qc qf0 qf1 qf2 qf3 qf4 qf5 qf6 qf7 qf8  C
        go_wp2_with fail
        go_ret
        exact ⟨ret_b (by rw [HEQ.out, HY1.out, HY.out, HY2.out]; rfl), BW1.out.trans (bq.mono BW1.out.size)⟩
  · have d1 : decide ((1 : Int) ≤ lo) = false := decide_eq_false h1
    have HY1 := Lib.hid d1
    obtain ⟨C, hC⟩ : ∃ C : World → Prop, C = fun W => Below w1.heap.size w1 W := ⟨_, rfl⟩
    have qb : ∀ W, C W → Below w1.heap.size w1 W := fun W h => by rw [hC] at h; exact h
    have qc : ∀ W, Below w1.heap.size w1 W → C W := fun W h => by rw [hC]; exact h
    have hC0 : C (World.drew w1) := qc _ (Below.refl _ _).drew
    have qf0 : ∀ zc : WC C, zc.w.cell? ⟨w.heap.size, 0, none⟩ = some (.slice (some ⟨g, o, none⟩) k c) := fun zc => ((qb _ zc.h).cell (p := ⟨w.heap.size, 0, none⟩) (by first | omega | (simp; done) | (simp; omega))).trans (by first | assumption | go_simp)
    have qf1 : ∀ zc : WC C, zc.w.cell? ⟨w.heap.size, 1, none⟩ = some (.slice B m d) := fun zc => ((qb _ zc.h).cell (p := ⟨w.heap.size, 1, none⟩) (by first | omega | (simp; done) | (simp; omega))).trans (by first | assumption | go_simp)
    have qf2 : ∀ zc : WC C, zc.w.cell? ⟨w.heap.size, 2, none⟩ = some (.int .i64 h) := fun zc => ((qb _ zc.h).cell (p := ⟨w.heap.size, 2, none⟩) (by first | omega | (simp; done) | (simp; omega))).trans (by first | assumption | go_simp)
    have qf3 : ∀ zc : WC C, zc.w.cell? ⟨w.heap.size + 1, 0, none⟩ = some (.int .i64 nu) := fun zc => ((qb _ zc.h).cell (p := ⟨w.heap.size + 1, 0, none⟩) (by first | omega | (simp; done) | (simp; omega))).trans (by first | assumption | go_simp)
    have qf4 : ∀ zc : WC C, zc.w.cell? ⟨w.heap.size + 1, 1, none⟩ = some (.int .i64 nv) := fun zc => ((qb _ zc.h).cell (p := ⟨w.heap.size + 1, 1, none⟩) (by first | omega | (simp; done) | (simp; omega))).trans (by first | assumption | go_simp)
    have qf5 : ∀ zc : WC C, zc.w.cell? ⟨w.heap.size + 1, 2, none⟩ = some (.int .i64 lo) := fun zc => ((qb _ zc.h).cell (p := ⟨w.heap.size + 1, 2, none⟩) (by first | omega | (simp; done) | (simp; omega))).trans (by first | assumption | go_simp)
    have qf6 : ∀ zc : WC C, zc.w.cell? ⟨w.heap.size + 1 + 1, 1, none⟩ = some (.slice Lv fl2 cv) := fun zc => ((qb _ zc.h).cell (p := ⟨w.heap.size + 1 + 1, 1, none⟩) (by first | omega | (simp; done) | (simp; omega))).trans (by first | assumption | go_simp)
    have qf7 : ∀ zc : WC C, zc.w.cell? ⟨w.heap.size + 1 + 1, 2, none⟩ = some (.int .i64 f2.wat) := fun zc => ((qb _ zc.h).cell (p := ⟨w.heap.size + 1 + 1, 2, none⟩) (by first | omega | (simp; done) | (simp; omega))).trans (by first | assumption | go_simp)
    have qf8 : ∀ zc : WC C, zc.w.cell? ⟨g, o + nu * 3 + 1, none⟩ = some (.slice Lu fl cu) := fun zc => ((qb _ zc.h).cell (p := ⟨g, o + nu * 3 + 1, none⟩) (by first | omega | (simp; done) | (simp; omega))).trans (by first | assumption | go_simp)
    have nwc : Nonempty (WC C) := ⟨⟨_, hC0⟩⟩
    clear hC
    refine region_wc C (by kernel_rfl) (by kernel_rfl) hC0 ?_
    repeat (go_big_quiet_step (fail))
    refine wpQuiet_nil ?_
    rintro _ ⟨xq, rfl⟩
    have bq := qb _ xq.h
    have gf0 := qf0 xq
    have gf1 := qf1 xq
    have gf2 := qf2 xq
    have gf3 := qf3 xq
    have gf4 := qf4 xq
    have gf5 := qf5 xq
    have gf6 := qf6 xq
    have gf7 := qf7 xq
    have gf8 := qf8 xq
    obtain ⟨wq, hwq⟩ : ∃ wq, wq = xq.w := ⟨_, rfl⟩
    rw [← hwq] at bq gf0 gf1 gf2 gf3 gf4 gf5 gf6 gf7 gf8 ⊢
    clear hwq xq nwc hC0 qb qc qf0 qf1 qf2 qf3 qf4 qf5 qf6 qf7 qf8  C
    go_wp2_with fail
    go_ret
    exact ⟨ret_b (by rw [HEQ.out, HY1.out]; rfl), BW1.out.trans (bq.mono BW1.out.size)⟩

end Go.Proofs.YtgajodcgedhikaaGreatDoor

