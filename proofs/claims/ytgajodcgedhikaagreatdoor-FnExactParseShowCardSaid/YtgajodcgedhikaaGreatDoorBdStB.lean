/-
  WALKS of spec.l09Tie and spec.FormatTie.
  WALK of spec.FormatShow.
  WALKS of the laws' helpers over shows: toNode, toNodeS, toTie, toTieS, toShow.
-/
import Derived.Test.YtgajodcgedhikaaGreatDoorBdLwM
import Derived.Deep.RegionHeld3
import Derived.Deep.Cut
import Derived.Deep.CutRange
import Derived.Test.YtgajodcgedhikaaGreatDoorBdShO
import Derived.Test.YtgajodcgedhikaaGreatDoorBdDig
import Derived.Test.YtgajodcgedhikaaGreatDoorBdIvOk
namespace Go.Proofs.YtgajodcgedhikaaGreatDoor
open Go.RowKit
set_option linter.unusedVariables false
set_option linter.unusedSimpArgs false

theorem numB_le {n : Int} (h0 : -9223372036854775808 ≤ n) (h1 : n ≤ 9223372036854775807) : (numB n).size ≤ 20 := by
  have hsz : (numB n).size = (Lib.itoa n).length := by
    show (Lib.itoa n).toArray.size = _
    simp
  rw [hsz]
  unfold Lib.itoa
  split
  · have := dec_len19 n.natAbs (by omega)
    simp; omega
  · have := dec_len19 n.toNat (by omega)
    omega

set_option maxRecDepth 100000 in
set_option maxHeartbeats 16000000 in
theorem spec_l09Tie (s : GS) (t : GT) (A : Option Addr) (k c : Nat) (B : Option Addr) (m d : Nat) (w : World) (hu : 0 ≤ t.u ∧ t.u ≤ (k : Int) - 1) (hv : 0 ≤ t.v ∧ t.v ≤ (k : Int) - 1) (hl : -1000 ≤ t.lo ∧ t.lo ≤ 1000) (hh : -1000 ≤ t.hi ∧ t.hi ≤ 1000) (hn : ∀ e ∈ s.ns, e.name.size ≤ 1048576) (hk : k ≤ 1048576) (ha : ShowAt w s A k B m) :
    Calls Tryz.prog 34 #[shV A k c B m d s.h, .agg #[.int .i64 t.u, .int .i64 t.v, .int .i64 t.lo, .int .i64 t.hi, .bool t.fr]] w fun e w' => e = .returned (.string (tieW s.ns t)) ∧ Below w.heap.size w w' := by
  obtain ⟨u, v, lo, hi, fr⟩ := t
  dsimp only at hu hv hl hh ⊢
  obtain ⟨h, hhh⟩ : ∃ h, h = s.h := ⟨_, rfl⟩
  rw [← hhh]
  clear hhh
  obtain ⟨nu, rfl⟩ : ∃ n : Nat, u = n := ⟨u.toNat, by omega⟩
  obtain ⟨nv, rfl⟩ : ∃ n : Nat, v = n := ⟨v.toNat, by omega⟩
  obtain ⟨f, hf⟩ : ∃ f, s.ns[nu]? = some f := ⟨_, List.getElem?_eq_getElem (by have := ha.ln; omega)⟩
  obtain ⟨f2, hf2⟩ : ∃ f, s.ns[nv]? = some f := ⟨_, List.getElem?_eq_getElem (by have := ha.ln; omega)⟩
  have hx1 : nmAt s.ns (nu : Int) = f.name := by unfold nmAt; rw [show ((nu : Nat) : Int).toNat = nu by omega, hf]; rfl
  have hx2 : nmAt s.ns (nv : Int) = f2.name := by unfold nmAt; rw [show ((nv : Nat) : Int).toNat = nv by omega, hf2]; rfl
  have hs1 := hn f (List.mem_of_getElem? hf)
  have hs2 := hn f2 (List.mem_of_getElem? hf2)
  have hw : tieW s.ns ⟨nu, nv, lo, hi, fr⟩ = ((((((((if fr then (⟨#[102, 114, 101, 101, 32]⟩ : ByteArray) else ⟨#[116, 105, 101, 32]⟩) ++ f.name) ++ ⟨#[32]⟩) ++ f2.name) ++ ⟨#[32]⟩) ++ numB lo) ++ ⟨#[32]⟩) ++ numB hi) := by unfold tieW; rw [← hx1, ← hx2]; rfl
  have hy1 := numB_le (n := lo) (by omega) (by omega)
  have hy2 := numB_le (n := hi) (by omega) (by omega)
  have HF1 := Lib.hid (fun W => spec_FormatInt lo W (by omega) (by omega))
  have HF2 := Lib.hid (fun W => spec_FormatInt hi W (by omega) (by omega))
  obtain ⟨g, o, Lu, cu, rfl, hg, a0, _, _, _⟩ := node_facts ha.nodes hf
  obtain ⟨g2, o2, Lv, cv, hA2, _, v0, _, _, _⟩ := node_facts ha.nodes hf2
  injection hA2 with hA2
  injection hA2 with hA3 hA4
  subst hA3 hA4
  obtain ⟨x1, hx1'⟩ : ∃ x, x = f.name := ⟨_, rfl⟩
  obtain ⟨x2, hx2'⟩ : ∃ x, x = f2.name := ⟨_, rfl⟩
  obtain ⟨y1, hy1'⟩ : ∃ x, x = numB lo := ⟨_, rfl⟩
  obtain ⟨y2, hy2'⟩ : ∃ x, x = numB hi := ⟨_, rfl⟩
  rw [← hx1'] at hs1 hw a0
  rw [← hx2'] at hs2 hw v0
  rw [← hy1'] at hy1 hw HF1
  rw [← hy2'] at hy2 hw HF2
  have HW := Lib.hid hw
  unfold shV
  have hnu0 : (0 : Int) ≤ (nu : Int) := by omega
  have hnuk : (nu : Int) < (k : Int) := by omega
  have hnv0 : (0 : Int) ≤ (nv : Int) := by omega
  have hnvk : (nv : Int) < (k : Int) := by omega
  clear hw hx1 hx2 hx1' hx2' hy1' hy2' hf hf2 hn ha hu hv hl hh
  obtain ⟨w1, hw1⟩ : ∃ W, W = (w.alloc (.cells #[.slice (some ⟨g, o, none⟩) k c, .slice B m d, .int .i64 h] 25)).alloc (.cells #[.int .i64 nu, .int .i64 nv, .int .i64 lo, .int .i64 hi, .bool fr] 42) := ⟨_, rfl⟩
  have B_w1 : Below w.heap.size w w1 := by rw [hw1]; exact (by repeat (first | exact Below.refl _ _ | refine below_step (by assumption) (by first | omega | (simp; done) | (simp; omega)) ?_ | refine below_drewN ?_ _ | refine Below.drew ?_ | refine Below.setCell ?_ (by first | omega | (simp; done) | (simp; omega)) _ | refine Below.alloc ?_ (by first | omega | (simp; done) | (simp; omega)) _))
  have z_w1 : w.heap.size + 1 < w1.heap.size := by rw [hw1]; simp
  have c0_w1 : w1.cell? ⟨w.heap.size, 0, none⟩ = some (.slice (some ⟨g, o, none⟩) k c) := by rw [hw1]; go_simp
  have c1_w1 : w1.cell? ⟨w.heap.size, 1, none⟩ = some (.slice B m d) := by rw [hw1]; go_simp
  have c2_w1 : w1.cell? ⟨w.heap.size, 2, none⟩ = some (.int .i64 h) := by rw [hw1]; go_simp
  have e0_w1 : w1.cell? ⟨w.heap.size + 1, 0, none⟩ = some (.int .i64 nu) := by rw [hw1]; go_simp
  have e1_w1 : w1.cell? ⟨w.heap.size + 1, 1, none⟩ = some (.int .i64 nv) := by rw [hw1]; go_simp
  have e2_w1 : w1.cell? ⟨w.heap.size + 1, 2, none⟩ = some (.int .i64 lo) := by rw [hw1]; go_simp
  have e3_w1 : w1.cell? ⟨w.heap.size + 1, 3, none⟩ = some (.int .i64 hi) := by rw [hw1]; go_simp
  have e4_w1 : w1.cell? ⟨w.heap.size + 1, 4, none⟩ = some (.bool fr) := by rw [hw1]; go_simp
  have a0_w1 : w1.cell? ⟨g, o + nu * 3, none⟩ = some (.string x1) := (B_w1.cell (p := ⟨g, o + nu * 3, none⟩) hg).trans a0
  have v0_w1 : w1.cell? ⟨g, o + nv * 3, none⟩ = some (.string x2) := (B_w1.cell (p := ⟨g, o + nv * 3, none⟩) hg).trans v0
  have zg_w1 : g < w1.heap.size := by omega
  have z0_w1 : w.heap.size < w1.heap.size := by omega
  have BW1 := Lib.hid B_w1
  have HW1 := Lib.hid hw1
  clear hw1 B_w1 a0 v0
  cases fr with
  | false =>
    go_enter Tryz.func34, Tryz.ntmps34
    go_upto_region 2 with (fail)
    rw [← HW1.out]
    clear HW1
    go_upto_region 4 with (fail)
    obtain ⟨C, hC⟩ : ∃ C : World → Prop, C = fun W => Below w1.heap.size w1 W := ⟨_, rfl⟩
    have qb : ∀ W, C W → Below w1.heap.size w1 W := fun W h => by rw [hC] at h; exact h
    have qc : ∀ W, Below w1.heap.size w1 W → C W := fun W h => by rw [hC]; exact h
    have hC0 : C (World.drew w1) := qc _ (Below.refl _ _).drew
    have qf0 : ∀ zc : WC C, zc.w.cell? ⟨w.heap.size, 0, none⟩ = some (.slice (some ⟨g, o, none⟩) k c) := fun zc => ((qb _ zc.h).cell (p := ⟨w.heap.size, 0, none⟩) (by first | omega | (simp; done) | (simp; omega))).trans (by first | assumption | go_simp)
    have qf1 : ∀ zc : WC C, zc.w.cell? ⟨w.heap.size + 1, 0, none⟩ = some (.int .i64 nu) := fun zc => ((qb _ zc.h).cell (p := ⟨w.heap.size + 1, 0, none⟩) (by first | omega | (simp; done) | (simp; omega))).trans (by first | assumption | go_simp)
    have qf2 : ∀ zc : WC C, zc.w.cell? ⟨w.heap.size + 1, 1, none⟩ = some (.int .i64 nv) := fun zc => ((qb _ zc.h).cell (p := ⟨w.heap.size + 1, 1, none⟩) (by first | omega | (simp; done) | (simp; omega))).trans (by first | assumption | go_simp)
    have qf3 : ∀ zc : WC C, zc.w.cell? ⟨w.heap.size + 1, 2, none⟩ = some (.int .i64 lo) := fun zc => ((qb _ zc.h).cell (p := ⟨w.heap.size + 1, 2, none⟩) (by first | omega | (simp; done) | (simp; omega))).trans (by first | assumption | go_simp)
    have qf4 : ∀ zc : WC C, zc.w.cell? ⟨w.heap.size + 1, 3, none⟩ = some (.int .i64 hi) := fun zc => ((qb _ zc.h).cell (p := ⟨w.heap.size + 1, 3, none⟩) (by first | omega | (simp; done) | (simp; omega))).trans (by first | assumption | go_simp)
    have qf5 : ∀ zc : WC C, zc.w.cell? ⟨g, o + nu * 3, none⟩ = some (.string x1) := fun zc => ((qb _ zc.h).cell (p := ⟨g, o + nu * 3, none⟩) (by first | omega | (simp; done) | (simp; omega))).trans (by first | assumption | go_simp)
    have qf6 : ∀ zc : WC C, zc.w.cell? ⟨g, o + nv * 3, none⟩ = some (.string x2) := fun zc => ((qb _ zc.h).cell (p := ⟨g, o + nv * 3, none⟩) (by first | omega | (simp; done) | (simp; omega))).trans (by first | assumption | go_simp)
    have A0 : Hid (∀ zc : WC C, Calls Tryz.prog 27 #[.int .i64 lo] zc.w fun e w2 => e = .returned (.string y1) ∧ ∃ y : WC C, w2 = y.w) := Lib.hid (fun zc => wc_calls (((fun _ => HF1.out zc.w) zc.w).mono fun e w2 k => ⟨k.1, qc _ ((qb _ zc.h).trans (k.2.mono (qb _ zc.h).size))⟩))
    have A1 : Hid (∀ zc : WC C, Calls Tryz.prog 27 #[.int .i64 hi] zc.w fun e w2 => e = .returned (.string y2) ∧ ∃ y : WC C, w2 = y.w) := Lib.hid (fun zc => wc_calls (((fun _ => HF2.out zc.w) zc.w).mono fun e w2 k => ⟨k.1, qc _ ((qb _ zc.h).trans (k.2.mono (qb _ zc.h).size))⟩))
    have nwc : Nonempty (WC C) := ⟨⟨_, hC0⟩⟩
    clear hC
    refine region_wc C (by kernel_rfl) (by kernel_rfl) hC0 ?_
    repeat (go_big_quiet_step (first | (go_at_call_of 27 (Value.int .i64 lo); with_reducible exact A0.out _) | (go_at_call_of 27 (Value.int .i64 hi); with_reducible exact A1.out _)))
    refine wpQuiet_nil ?_
    rintro _ ⟨xq, rfl⟩
    have bq := qb _ xq.h
    have gf0 := qf0 xq
    have gf1 := qf1 xq
    have gf2 := qf2 xq
    have gf3 := qf3 xq
    have gf4 := qf4 xq
    have gf5 := qf5 xq
    have gf6 := qf6 xq
    obtain ⟨wq, hwq⟩ : ∃ wq, wq = xq.w := ⟨_, rfl⟩
    rw [← hwq] at bq gf0 gf1 gf2 gf3 gf4 gf5 gf6 ⊢
    clear hwq xq nwc hC0 qb qc qf0 qf1 qf2 qf3 qf4 qf5 qf6 A0 A1 C
    go_wp2_with fail
    go_ret
    exact ⟨str_ans (by rw [HW.out]; rfl), BW1.out.trans (bq.mono BW1.out.size)⟩
  | true =>
    go_enter Tryz.func34, Tryz.ntmps34
    go_upto_region 2 with (fail)
    rw [← HW1.out]
    clear HW1
    go_upto_region 4 with (fail)
    obtain ⟨C, hC⟩ : ∃ C : World → Prop, C = fun W => Below w1.heap.size w1 W := ⟨_, rfl⟩
    have qb : ∀ W, C W → Below w1.heap.size w1 W := fun W h => by rw [hC] at h; exact h
    have qc : ∀ W, Below w1.heap.size w1 W → C W := fun W h => by rw [hC]; exact h
    have hC0 : C (World.drew w1) := qc _ (Below.refl _ _).drew
    have qf0 : ∀ zc : WC C, zc.w.cell? ⟨w.heap.size, 0, none⟩ = some (.slice (some ⟨g, o, none⟩) k c) := fun zc => ((qb _ zc.h).cell (p := ⟨w.heap.size, 0, none⟩) (by first | omega | (simp; done) | (simp; omega))).trans (by first | assumption | go_simp)
    have qf1 : ∀ zc : WC C, zc.w.cell? ⟨w.heap.size + 1, 0, none⟩ = some (.int .i64 nu) := fun zc => ((qb _ zc.h).cell (p := ⟨w.heap.size + 1, 0, none⟩) (by first | omega | (simp; done) | (simp; omega))).trans (by first | assumption | go_simp)
    have qf2 : ∀ zc : WC C, zc.w.cell? ⟨w.heap.size + 1, 1, none⟩ = some (.int .i64 nv) := fun zc => ((qb _ zc.h).cell (p := ⟨w.heap.size + 1, 1, none⟩) (by first | omega | (simp; done) | (simp; omega))).trans (by first | assumption | go_simp)
    have qf3 : ∀ zc : WC C, zc.w.cell? ⟨w.heap.size + 1, 2, none⟩ = some (.int .i64 lo) := fun zc => ((qb _ zc.h).cell (p := ⟨w.heap.size + 1, 2, none⟩) (by first | omega | (simp; done) | (simp; omega))).trans (by first | assumption | go_simp)
    have qf4 : ∀ zc : WC C, zc.w.cell? ⟨w.heap.size + 1, 3, none⟩ = some (.int .i64 hi) := fun zc => ((qb _ zc.h).cell (p := ⟨w.heap.size + 1, 3, none⟩) (by first | omega | (simp; done) | (simp; omega))).trans (by first | assumption | go_simp)
    have qf5 : ∀ zc : WC C, zc.w.cell? ⟨g, o + nu * 3, none⟩ = some (.string x1) := fun zc => ((qb _ zc.h).cell (p := ⟨g, o + nu * 3, none⟩) (by first | omega | (simp; done) | (simp; omega))).trans (by first | assumption | go_simp)
    have qf6 : ∀ zc : WC C, zc.w.cell? ⟨g, o + nv * 3, none⟩ = some (.string x2) := fun zc => ((qb _ zc.h).cell (p := ⟨g, o + nv * 3, none⟩) (by first | omega | (simp; done) | (simp; omega))).trans (by first | assumption | go_simp)
    have A0 : Hid (∀ zc : WC C, Calls Tryz.prog 27 #[.int .i64 lo] zc.w fun e w2 => e = .returned (.string y1) ∧ ∃ y : WC C, w2 = y.w) := Lib.hid (fun zc => wc_calls (((fun _ => HF1.out zc.w) zc.w).mono fun e w2 k => ⟨k.1, qc _ ((qb _ zc.h).trans (k.2.mono (qb _ zc.h).size))⟩))
    have A1 : Hid (∀ zc : WC C, Calls Tryz.prog 27 #[.int .i64 hi] zc.w fun e w2 => e = .returned (.string y2) ∧ ∃ y : WC C, w2 = y.w) := Lib.hid (fun zc => wc_calls (((fun _ => HF2.out zc.w) zc.w).mono fun e w2 k => ⟨k.1, qc _ ((qb _ zc.h).trans (k.2.mono (qb _ zc.h).size))⟩))
    have nwc : Nonempty (WC C) := ⟨⟨_, hC0⟩⟩
    clear hC
    refine region_wc C (by kernel_rfl) (by kernel_rfl) hC0 ?_
    repeat (go_big_quiet_step (first | (go_at_call_of 27 (Value.int .i64 lo); with_reducible exact A0.out _) | (go_at_call_of 27 (Value.int .i64 hi); with_reducible exact A1.out _)))
    refine wpQuiet_nil ?_
    rintro _ ⟨xq, rfl⟩
    have bq := qb _ xq.h
    have gf0 := qf0 xq
    have gf1 := qf1 xq
    have gf2 := qf2 xq
    have gf3 := qf3 xq
    have gf4 := qf4 xq
    have gf5 := qf5 xq
    have gf6 := qf6 xq
    obtain ⟨wq, hwq⟩ : ∃ wq, wq = xq.w := ⟨_, rfl⟩
    rw [← hwq] at bq gf0 gf1 gf2 gf3 gf4 gf5 gf6 ⊢
    clear hwq xq nwc hC0 qb qc qf0 qf1 qf2 qf3 qf4 qf5 qf6 A0 A1 C
    go_wp2_with fail
    go_ret
    exact ⟨str_ans (by rw [HW.out]; rfl), BW1.out.trans (bq.mono BW1.out.size)⟩

end Go.Proofs.YtgajodcgedhikaaGreatDoor

namespace Go.Proofs.YtgajodcgedhikaaGreatDoor
open Go.RowKit
set_option linter.unusedVariables false
set_option linter.unusedSimpArgs false

theorem fmtL_size {l : List Int} (h : labR l = true) : (fmtL l).size ≤ 11 := by
  obtain ⟨s, t, u, hs, ht, hu, rfl⟩ := dr_of h
  exact drL_size hs ht hu
theorem nodS_0 {y nm fl : ByteArray} {lab : List Int} {wat : Int} (h : wat = 0) (hf : fl = fmtL lab) : nodS y ⟨nm, lab, wat⟩ = ((((y ++ ⟨#[110, 111, 100, 101, 32]⟩) ++ nm) ++ ⟨#[32]⟩) ++ fl) ++ ⟨#[10]⟩ := by
  subst hf; unfold nodS; rw [if_pos h]; rfl
theorem nodS_1 {y nm fl yn : ByteArray} {lab : List Int} {wat : Int} (h : ¬ wat = 0) (hf : fl = fmtL lab) (hn : yn = numB wat) : nodS y ⟨nm, lab, wat⟩ = ((((((y ++ ⟨#[110, 111, 100, 101, 32]⟩) ++ nm) ++ ⟨#[32]⟩) ++ fl) ++ ⟨#[32, 119, 97, 116, 99, 104, 32]⟩) ++ yn) ++ ⟨#[10]⟩ := by
  subst hf hn; unfold nodS; rw [if_neg h]; rfl
theorem nodJ_next {s : GS} {j : Nat} {e : GN} {y : ByteArray} (hy : nodJ s j = y) (he : s.ns[j]? = some e) : nodJ s (j + 1) = nodS y e := by
  conv => lhs; unfold nodJ
  rw [hy, he]; rfl
theorem tieJ_next {s : GS} {j : Nat} {t : GT} {y : ByteArray} (hy : tieJ s j = y) (he : s.ts[j]? = some t) : tieJ s (j + 1) = (y ++ tieW s.ns t) ++ ⟨#[10]⟩ := by
  conv => lhs; unfold tieJ
  rw [hy, he]; rfl
theorem tieW_size {ns : List GN} {t : GT} (hl : -1000 ≤ t.lo ∧ t.lo ≤ 1000) (hh : -1000 ≤ t.hi ∧ t.hi ≤ 1000) (hn : ∀ e ∈ ns, e.name.size ≤ 1048576) : (tieW ns t).size ≤ 2097300 := by
  have hy1 := numB_le (n := t.lo) (by omega) (by omega)
  have hy2 := numB_le (n := t.hi) (by omega) (by omega)
  have hnm : ∀ v, (nmAt ns v).size ≤ 1048576 := by
    intro v
    unfold nmAt
    cases h : ns[v.toNat]? with
    | none => show (ByteArray.empty).size ≤ _; exact Nat.zero_le _
    | some e => exact hn e (List.mem_of_getElem? h)
  have h1 := hnm t.u
  have h2 := hnm t.v
  have h3 : (if t.fr then (⟨#[102, 114, 101, 101, 32]⟩ : ByteArray) else ⟨#[116, 105, 101, 32]⟩).size ≤ 5 := by split <;> decide
  have h4 : bSp.size = 1 := rfl
  unfold tieW
  simp only [ByteArray.size_append]
  omega
theorem getAt9 {T : Type} {l : List T} {j : Nat} {e : T} (hj : j < l.length) (h : l[j]? = some e) : l[j] = e := by
  rw [List.getElem?_eq_getElem hj] at h; injection h

set_option maxRecDepth 100000 in
set_option maxHeartbeats 32000000 in
theorem spec_FormatShow (s : GS) (A : Option Addr) (k c : Nat) (B : Option Addr) (m d : Nat) (w : World) (hs : ShB s) (ha : ShowAt w s A k B m) :
    Calls Tryz.prog 15 #[shV A k c B m d s.h] w fun e w' => e = .returned (.string (fmtS s)) ∧ Below w.heap.size w w' := by
  have hkk : k ≤ 1048576 := by have := hs.ns; have := ha.ln; omega
  have hmm : m ≤ 1048576 := by have := hs.ts; have := ha.lt; omega
  have HOK := Lib.hid (fun W h => spec_ShowOk s A k c B m d W hs h)
  have HNM := Lib.hid (fun e he => (hs.each e he).1)
  have HLM := Lib.hid (fun e he => (hs.each e he).2)
  have HTI := Lib.hid (fun t W a b cc dd h => spec_l09Tie s t A k c B m d W a b cc dd HNM.out hkk h)
  have HLN := Lib.hid ha.ln
  have HLT := Lib.hid ha.lt
  have hr : fmtS s = if shR s then tieJ s m else ⟨#[]⟩ := by unfold fmtS; rw [HLT.out]
  have HRT := Lib.hid hr
  have HSN := Lib.hid (fun (h : shR s = true) j (hj : j < s.ns.length) => shR_node h hj)
  have HST := Lib.hid (fun (h : shR s = true) j (hj : j < s.ts.length) => shR_tie h hj)
  have HRG := Lib.hid (fun (h : shR s = true) => shR_rng h)
  have HA := Lib.hid ha
  clear ha hs hr
  obtain ⟨h, hhh⟩ : ∃ h, h = s.h := ⟨_, rfl⟩
  rw [← hhh] at HOK HTI
  rw [← hhh]
  have HHH := Lib.hid hhh
  clear hhh
  unfold shV at HOK HTI ⊢
  obtain ⟨b1, hb1⟩ : ∃ b, b = shR s := ⟨_, rfl⟩
  rw [← hb1] at HOK HRT HSN HST HRG
  clear hb1
  cases b1 with
  | false =>
    go_enter Tryz.func15, Tryz.ntmps15
    go_wp2_with fail
    refine (HOK.out _ (HA.out.below (w := w) (by repeat (first | exact Below.refl _ _ | refine below_step (by assumption) (by first | omega | (simp; done) | (simp; omega)) ?_ | refine below_drewN ?_ _ | refine Below.drew ?_ | refine Below.setCell ?_ (by first | omega | (simp; done) | (simp; omega)) _ | refine Below.alloc ?_ (by first | omega | (simp; done) | (simp; omega)) _)))).mono ?_
    rintro e w1 ⟨rfl, b1⟩
    have B_w1 : Below w.heap.size w w1 := (by repeat (first | exact Below.refl _ _ | refine below_step (by assumption) (by first | omega | (simp; done) | (simp; omega)) ?_ | refine below_drewN ?_ _ | refine Below.drew ?_ | refine Below.setCell ?_ (by first | omega | (simp; done) | (simp; omega)) _ | refine Below.alloc ?_ (by first | omega | (simp; done) | (simp; omega)) _))
    go_wp2_with fail
    go_ret
    exact ⟨str_ans (by rw [HRT.out]; rfl), B_w1⟩
  | true =>
    have hrg := HRG.out rfl
    have HSN2 := Lib.hid (HSN.out rfl)
    have HST2 := Lib.hid (HST.out rfl)
    clear HSN HST HRG
    rw [HLN.out, HLT.out] at hrg
    have HFH := Lib.hid (fun W => spec_FormatInt h W (by have := HHH.out; omega) (by have := HHH.out; omega))
    have hyh := numB_le (n := h) (by have := HHH.out; omega) (by have := HHH.out; omega)
    obtain ⟨yh, hyh2⟩ : ∃ t, t = numB h := ⟨_, rfl⟩
    rw [← hyh2] at HFH hyh
    have HYH := Lib.hid (show nodJ s 0 = (⟨#[104, 111, 114, 105, 122, 111, 110, 32]⟩ ++ yh) ++ ⟨#[10]⟩ from by rw [hyh2, HHH.out]; rfl)
    have hk7 : k ≤ 7 := hrg.2.1
    have hm14 : m ≤ 14 := hrg.2.2.1
    clear hyh2 hrg
    go_enter Tryz.func15, Tryz.ntmps15
    go_wp2_with fail
    refine (HOK.out _ (HA.out.below (w := w) (by repeat (first | exact Below.refl _ _ | refine below_step (by assumption) (by first | omega | (simp; done) | (simp; omega)) ?_ | refine below_drewN ?_ _ | refine Below.drew ?_ | refine Below.setCell ?_ (by first | omega | (simp; done) | (simp; omega)) _ | refine Below.alloc ?_ (by first | omega | (simp; done) | (simp; omega)) _)))).mono ?_
    rintro e w1 ⟨rfl, b1⟩
    have B_w1 : Below w.heap.size w w1 := (by repeat (first | exact Below.refl _ _ | refine below_step (by assumption) (by first | omega | (simp; done) | (simp; omega)) ?_ | refine below_drewN ?_ _ | refine Below.drew ?_ | refine Below.setCell ?_ (by first | omega | (simp; done) | (simp; omega)) _ | refine Below.alloc ?_ (by first | omega | (simp; done) | (simp; omega)) _))
    have z0_w1 : w.heap.size < w1.heap.size := Nat.lt_of_lt_of_le (by first | omega | (simp; done) | (simp; omega)) b1.size
    have c0_w1 : w1.cell? ⟨w.heap.size, 0, none⟩ = some (.slice A k c) := (b1.cell (p := ⟨w.heap.size, 0, none⟩) (by first | omega | (simp; done) | (simp; omega))).trans (by first | assumption | go_simp)
    have c1_w1 : w1.cell? ⟨w.heap.size, 1, none⟩ = some (.slice B m d) := (b1.cell (p := ⟨w.heap.size, 1, none⟩) (by first | omega | (simp; done) | (simp; omega))).trans (by first | assumption | go_simp)
    have c2_w1 : w1.cell? ⟨w.heap.size, 2, none⟩ = some (.int .i64 h) := (b1.cell (p := ⟨w.heap.size, 2, none⟩) (by first | omega | (simp; done) | (simp; omega))).trans (by first | assumption | go_simp)
    clear b1
    go_wp2_with fail
    refine (HFH.out _).mono ?_
    rintro e w2 ⟨rfl, b2⟩
    have B_w2 : Below w.heap.size w w2 := B_w1.trans (b2.mono B_w1.size)
    have z0_w2 : w.heap.size < w2.heap.size := Nat.lt_of_lt_of_le z0_w1 b2.size
    have c0_w2 := (b2.cell (p := ⟨w.heap.size, 0, none⟩) z0_w1).trans c0_w1
    have c1_w2 := (b2.cell (p := ⟨w.heap.size, 1, none⟩) z0_w1).trans c1_w1
    have c2_w2 := (b2.cell (p := ⟨w.heap.size, 2, none⟩) z0_w1).trans c2_w1
    have HA2 := Lib.hid (HA.out.below B_w2)
    have BW2 := Lib.hid B_w2
    clear b2 c0_w1 c1_w1 c2_w1 z0_w1 B_w1 B_w2
    go_wp2_with fail
    go_loopw [19, 3] (fun i sv wr => ∃ (j : Nat) (y : ByteArray), j ≤ k ∧ i = .int .i64 j ∧ sv = .string y ∧ nodJ s j = y ∧ y.size ≤ 100 + j * 1048700 ∧ Below w2.heap.size w2 wr) (fun i _ _ => k - (intOf i).toNat)
    case atStart => exact ⟨0, _, Nat.zero_le _, rfl, rfl, HYH.out, by rw [ByteArray.size_append, ByteArray.size_append]; show 8 + yh.size + 1 ≤ _; omega, Below.refl _ _⟩
    case round =>
      obtain ⟨j, y, hj, rfl, rfl, hy, hys, hb⟩ := hrel
      have HY := Lib.hid hy
      have HB := Lib.hid hb
      have zb := hb.size
      clear hy hb
      by_cases hlt : j < k
      · have hjl : ((j : Int) < (k : Int)) := by omega
        have hjn : j < s.ns.length := by have := HLN.out; omega
        obtain ⟨⟨nm, lab, wat⟩, he⟩ : ∃ e, s.ns[j]? = some e := ⟨_, List.getElem?_eq_getElem hjn⟩
        have hsn := HSN2.out j hjn
        rw [getAt9 hjn he] at hsn
        have hnm := HNM.out _ (List.mem_of_getElem? he)
        have hlm := HLM.out _ (List.mem_of_getElem? he)
        dsimp only at hsn hnm hlm
        have hfs := fmtL_size hsn.2.1
        have hns := numB_le (n := wat) (by omega) (by omega)
        have hN := fun W => spec_FormatInt wat W (by omega) (by omega)
        have HNX := Lib.hid (nodJ_next HY.out he)
        obtain ⟨g, o, L, cl, rfl, hg, a0, a1, a2, hra⟩ := node_facts (HA2.out.below HB.out).nodes he
        obtain ⟨q, hq⟩ : ∃ q, q = lab.length := ⟨_, rfl⟩
        dsimp only at a0 a1 a2 hra
        rw [← hq] at a1 hlm
        have hFM := fun W h => spec_FormatLabel lab L q cl W hq.symm hlm h
        obtain ⟨fl, hfl⟩ : ∃ t, t = fmtL lab := ⟨_, rfl⟩
        rw [← hfl] at hFM hfs
        obtain ⟨yn, hyn⟩ : ∃ t, t = numB wat := ⟨_, rfl⟩
        rw [← hyn] at hN hns
        have HFM := Lib.hid hFM
        have HN := Lib.hid hN
        have HN0 := Lib.hid (fun (h0 : wat = 0) => nodS_0 (y := y) (nm := nm) h0 hfl)
        have HN1 := Lib.hid (fun (h0 : ¬ wat = 0) => nodS_1 (y := y) (nm := nm) h0 hfl hyn)
        obtain ⟨w3, hw3⟩ : ∃ W, W = wr.alloc (.cells #[.string nm, .slice L q cl, .int .i64 wat] 38) := ⟨_, rfl⟩
        have b3 : Below wr.heap.size wr w3 := by rw [hw3]; exact (Below.refl _ _).alloc (Nat.le_refl _) _
        have HRA := Lib.hid (hra.below b3)
        have z3 : wr.heap.size < w3.heap.size := by rw [hw3]; simp
        have n0_w3 : w3.cell? ⟨wr.heap.size, 0, none⟩ = some (.string nm) := by rw [hw3]; go_simp
        have n1_w3 : w3.cell? ⟨wr.heap.size, 1, none⟩ = some (.slice L q cl) := by rw [hw3]; go_simp
        have n2_w3 : w3.cell? ⟨wr.heap.size, 2, none⟩ = some (.int .i64 wat) := by rw [hw3]; go_simp
        have HW3 := Lib.hid hw3
        have HB3 := Lib.hid (HB.out.trans (b3.mono zb))
        clear hra hN hFM hfl hyn hq hsn he hw3 b3
        go_upto_region 7 with (fail)
        rw [← HW3.out]
        clear a0 a1 a2 HW3
        obtain ⟨C, hC⟩ : ∃ C : World → Prop, C = fun W => Below w3.heap.size w3 W := ⟨_, rfl⟩
        have qb : ∀ W, C W → Below w3.heap.size w3 W := fun W h => by rw [hC] at h; exact h
        have qc : ∀ W, Below w3.heap.size w3 W → C W := fun W h => by rw [hC]; exact h
        have hC0 : C (World.drew w3) := qc _ (Below.refl _ _).drew
        have qf0 : ∀ zc : WC C, zc.w.cell? ⟨wr.heap.size, 0, none⟩ = some (.string nm) := fun zc => ((qb _ zc.h).cell (p := ⟨wr.heap.size, 0, none⟩) (by first | omega | (simp; done) | (simp; omega))).trans (by first | assumption | go_simp)
        have qf1 : ∀ zc : WC C, zc.w.cell? ⟨wr.heap.size, 1, none⟩ = some (.slice L q cl) := fun zc => ((qb _ zc.h).cell (p := ⟨wr.heap.size, 1, none⟩) (by first | omega | (simp; done) | (simp; omega))).trans (by first | assumption | go_simp)
        have qf2 : ∀ zc : WC C, zc.w.cell? ⟨wr.heap.size, 2, none⟩ = some (.int .i64 wat) := fun zc => ((qb _ zc.h).cell (p := ⟨wr.heap.size, 2, none⟩) (by first | omega | (simp; done) | (simp; omega))).trans (by first | assumption | go_simp)
        have A0 : Hid (∀ zc : WC C, Calls Tryz.prog 33 #[.slice L q cl] zc.w fun e w2 => e = .returned (.string fl) ∧ ∃ y : WC C, w2 = y.w) := Lib.hid (fun zc => wc_calls (((fun _ => HFM.out zc.w (HRA.out.below (qb _ zc.h))) zc.w).mono fun e w2 k => ⟨k.1, qc _ ((qb _ zc.h).trans (k.2.mono (qb _ zc.h).size))⟩))
        have nwc : Nonempty (WC C) := ⟨⟨_, hC0⟩⟩
        clear hC
        refine region_wc C (by kernel_rfl) (by kernel_rfl) hC0 ?_
        repeat (go_big_quiet_step (first | (go_at_call 33; with_reducible exact A0.out _)))
        refine wpQuiet_nil ?_
        rintro _ ⟨xq, rfl⟩
        have bq := qb _ xq.h
        have gf0 := qf0 xq
        have gf1 := qf1 xq
        have gf2 := qf2 xq
        obtain ⟨wq, hwq⟩ : ∃ wq, wq = xq.w := ⟨_, rfl⟩
        rw [← hwq] at bq gf0 gf1 gf2 ⊢
        clear hwq xq nwc hC0 qb qc qf0 qf1 qf2 A0 C
        have BQ := Lib.hid (HB3.out.trans (bq.mono HB3.out.size))
        by_cases h0 : wat = 0
        · have hwb : (wat != 0) = false := by simp [h0]
          have HND := Lib.hid (HN0.out h0)
          clear h0
          go_wp2_with fail
          go_roundw
          case rel => exact ⟨j + 1, _, by omega, by go_num, rfl, by rw [HNX.out, HND.out], by simp only [ByteArray.size_append]; have e1 : (⟨#[110, 111, 100, 101, 32]⟩ : ByteArray).size = 5 := rfl; have e2 : (⟨#[32]⟩ : ByteArray).size = 1 := rfl; have e3 : (⟨#[10]⟩ : ByteArray).size = 1 := rfl; omega, BQ.out⟩
          case measure => simp [intOf]; omega
        · have hwb : (wat != 0) = true := by simp [h0]
          have HND := Lib.hid (HN1.out h0)
          clear h0
          go_wp2_with fail
          refine (HN.out _).mono ?_
          rintro e w5 ⟨rfl, b5⟩
          have HB5 := Lib.hid (BQ.out.trans (b5.mono BQ.out.size))
          clear b5
          go_wp2_with fail
          go_roundw
          case rel => exact ⟨j + 1, _, by omega, by go_num, rfl, by rw [HNX.out, HND.out], by simp only [ByteArray.size_append]; have e1 : (⟨#[110, 111, 100, 101, 32]⟩ : ByteArray).size = 5 := rfl; have e2 : (⟨#[32]⟩ : ByteArray).size = 1 := rfl; have e3 : (⟨#[10]⟩ : ByteArray).size = 1 := rfl; have e4 : (⟨#[32, 119, 97, 116, 99, 104, 32]⟩ : ByteArray).size = 7 := rfl; omega, HB5.out⟩
          case measure => simp [intOf]; omega
      · have hjl : ¬ ((j : Int) < (k : Int)) := by omega
        have hjk : j = k := by omega
        subst hjk
        have c0_wr := (HB.out.cell (p := ⟨w.heap.size, 0, none⟩) z0_w2).trans c0_w2
        have c1_wr := (HB.out.cell (p := ⟨w.heap.size, 1, none⟩) z0_w2).trans c1_w2
        have c2_wr := (HB.out.cell (p := ⟨w.heap.size, 2, none⟩) z0_w2).trans c2_w2
        have HY0 := Lib.hid (show tieJ s 0 = y from by unfold tieJ; rw [HLN.out]; exact HY.out)
        have hys2 : y.size ≤ 7341000 + 0 * 2097400 := by rw [Nat.zero_mul]; omega
        clear HY hys
        go_wp2_with fail
        go_loopw [48, 3] (fun i sv wt => ∃ (n : Nat) (y : ByteArray), n ≤ m ∧ i = .int .i64 n ∧ sv = .string y ∧ tieJ s n = y ∧ y.size ≤ 7341000 + n * 2097400 ∧ Below w2.heap.size w2 wt) (fun i _ _ => m - (intOf i).toNat)
        case atStart => exact ⟨0, _, Nat.zero_le _, rfl, rfl, HY0.out, hys2, HB.out⟩
        case round =>
          obtain ⟨n, y2, hn, rfl, rfl, hy, hys, hb⟩ := hrel
          have HYT := Lib.hid hy
          have HBT := Lib.hid hb
          have zbt := hb.size
          clear hy hb
          rename World => wn
          by_cases hlt2 : n < m
          · have hnl : ((n : Int) < (m : Int)) := by omega
            have hnn : n < s.ts.length := by have := HLT.out; omega
            obtain ⟨⟨u, v, lo, hi2, fr⟩, he⟩ : ∃ e, s.ts[n]? = some e := ⟨_, List.getElem?_eq_getElem hnn⟩
            have hst := HST2.out n hnn
            rw [getAt9 hnn he, HLN.out] at hst
            dsimp only at hst
            have htw := tieW_size (ns := s.ns) (t := ⟨u, v, lo, hi2, fr⟩) ⟨by dsimp only; omega, by dsimp only; omega⟩ ⟨by dsimp only; omega, by dsimp only; omega⟩ HNM.out
            have HNX := Lib.hid (tieJ_next HYT.out he)
            have hTT := fun W h => HTI.out ⟨u, v, lo, hi2, fr⟩ W hst.1 hst.2.1 ⟨by dsimp only; omega, by dsimp only; omega⟩ ⟨by dsimp only; omega, by dsimp only; omega⟩ h
            obtain ⟨r, hr⟩ : ∃ r, r = tieW s.ns ⟨u, v, lo, hi2, fr⟩ := ⟨_, rfl⟩
            rw [← hr] at hTT htw HNX
            have HTT := Lib.hid hTT
            obtain ⟨gt, ot, rfl, hgt, t0, t1, t2, t3, t4⟩ := tie_facts (HA2.out.below HBT.out).ties he
            have d0 := (HBT.out.cell (p := ⟨w.heap.size, 0, none⟩) z0_w2).trans c0_w2
            have d1 := (HBT.out.cell (p := ⟨w.heap.size, 1, none⟩) z0_w2).trans c1_w2
            have d2 := (HBT.out.cell (p := ⟨w.heap.size, 2, none⟩) z0_w2).trans c2_w2
            have HAT := Lib.hid (HA2.out.below HBT.out)
            have zwn : w.heap.size < wn.heap.size := by omega
            clear he hst hr hTT c0_wr c1_wr c2_wr
            go_wp2_with fail
            refine (HTT.out _ (HAT.out.below (by repeat (first | exact Below.refl _ _ | refine below_step (by assumption) (by first | omega | (simp; done) | (simp; omega)) ?_ | refine below_drewN ?_ _ | refine Below.drew ?_ | refine Below.setCell ?_ (by first | omega | (simp; done) | (simp; omega)) _ | refine Below.alloc ?_ (by first | omega | (simp; done) | (simp; omega)) _)))).mono ?_
            rintro e w5 ⟨rfl, b5⟩
            have HB5 := Lib.hid (show Below w2.heap.size w2 w5 from HBT.out.trans (((Below.refl _ _).alloc (Nat.le_refl _) _).trans (b5.mono (by simp)) |>.mono zbt))
            clear b5
            go_wp2_with fail
            go_roundw
            case rel => exact ⟨n + 1, _, by omega, by go_num, rfl, by rw [HNX.out], by simp only [ByteArray.size_append]; have e3 : (⟨#[10]⟩ : ByteArray).size = 1 := rfl; omega, HB5.out⟩
            case measure => simp [intOf]; omega
          · have hnl : ¬ ((n : Int) < (m : Int)) := by omega
            have hnm : n = m := by omega
            subst hnm
            clear c0_wr c1_wr c2_wr
            go_wp2_with fail
            go_ret
            exact ⟨str_ans (by rw [HRT.out, HYT.out]; simp), BW2.out.trans (HBT.out.mono BW2.out.size)⟩

end Go.Proofs.YtgajodcgedhikaaGreatDoor

namespace Go.Proofs.YtgajodcgedhikaaGreatDoor
open Go.RowKit
set_option linter.unusedVariables false
set_option linter.unusedSimpArgs false

theorem Tryz.info38 : (Tryz.prog.info? 38).map (fun i => (i.zero, i.size, i.bytes)) = some (some (.agg #[.string { data := #[] }, .slice none 0 0, .int .i64 0]), 3, 48) := by kernel_rfl

theorem Tryz.info42 : (Tryz.prog.info? 42).map (fun i => (i.zero, i.size, i.bytes)) = some (some (.agg #[.int .i64 0, .int .i64 0, .int .i64 0, .int .i64 0, .bool false]), 5, 40) := by kernel_rfl

theorem put3Z (xs : List Value) (k : Nat) (zs : List NL) (z : NL) (hl : k * 3 + 3 ≤ xs.length) (hk : xs.take (k * 3) = cellsZ zs) :
    (((xs.set (k * 3) (.string z.e.name)).set (k * 3 + 1) z.V).set (k * 3 + 2) (.int .i64 z.e.wat)).take ((k + 1) * 3) = cellsZ (zs ++ [z]) := by
  have hx : xs = xs.take (k * 3) ++ xs.drop (k * 3) := (List.take_append_drop _ _).symm
  obtain ⟨a, b, c, r, hr⟩ : ∃ a b c r, xs.drop (k * 3) = a :: b :: c :: r := by
    have hd : (xs.drop (k * 3)).length = xs.length - k * 3 := List.length_drop ..
    match h : xs.drop (k * 3) with
    | [] => rw [h] at hd; simp at hd; omega
    | [_] => rw [h] at hd; simp at hd; omega
    | [_, _] => rw [h] at hd; simp at hd; omega
    | a :: b :: c :: r => exact ⟨a, b, c, r, rfl⟩
  have hp : (xs.take (k * 3)).length = k * 3 := by simp; omega
  rw [hx, hr]
  rw [List.set_append_right _ _ (by omega), List.set_append_right _ _ (by omega), List.set_append_right _ _ (by omega), hp]
  rw [show k * 3 - k * 3 = 0 from by omega, show k * 3 + 1 - k * 3 = 1 from by omega, show k * 3 + 2 - k * 3 = 2 from by omega]
  rw [List.take_append, hp, List.take_of_length_le (by omega), show (k + 1) * 3 - k * 3 = 3 from by omega, cellsZ_append, hk]
  rfl
theorem put5T (xs : List Value) (k : Nat) (es : List GT) (e : GT) (hl : k * 5 + 5 ≤ xs.length) (hk : xs.take (k * 5) = cellsT (es.take k)) (he : es[k]? = some e) :
    (((((xs.set (k * 5) (.int .i64 e.u)).set (k * 5 + 1) (.int .i64 e.v)).set (k * 5 + 2) (.int .i64 e.lo)).set (k * 5 + 3) (.int .i64 e.hi)).set (k * 5 + 4) (.bool e.fr)).take ((k + 1) * 5) = cellsT (es.take (k + 1)) := by
  have hes : es.take (k + 1) = es.take k ++ [e] := by
    rw [List.take_add_one, he]; rfl
  have hx : xs = xs.take (k * 5) ++ xs.drop (k * 5) := (List.take_append_drop _ _).symm
  obtain ⟨a, b, c, d, f, r, hr⟩ : ∃ a b c d f r, xs.drop (k * 5) = a :: b :: c :: d :: f :: r := by
    have hd : (xs.drop (k * 5)).length = xs.length - k * 5 := List.length_drop ..
    match h : xs.drop (k * 5) with
    | [] => rw [h] at hd; simp at hd; omega
    | [_] => rw [h] at hd; simp at hd; omega
    | [_, _] => rw [h] at hd; simp at hd; omega
    | [_, _, _] => rw [h] at hd; simp at hd; omega
    | [_, _, _, _] => rw [h] at hd; simp at hd; omega
    | a :: b :: c :: d :: f :: r => exact ⟨a, b, c, d, f, r, rfl⟩
  have hp : (xs.take (k * 5)).length = k * 5 := by simp; omega
  rw [hx, hr]
  rw [List.set_append_right _ _ (by omega), List.set_append_right _ _ (by omega), List.set_append_right _ _ (by omega), List.set_append_right _ _ (by omega), List.set_append_right _ _ (by omega), hp]
  rw [show k * 5 - k * 5 = 0 from by omega, show k * 5 + 1 - k * 5 = 1 from by omega, show k * 5 + 2 - k * 5 = 2 from by omega, show k * 5 + 3 - k * 5 = 3 from by omega, show k * 5 + 4 - k * 5 = 4 from by omega]
  rw [List.take_append, hp, List.take_of_length_le (by omega), show (k + 1) * 5 - k * 5 = 5 from by omega, hes, cellsT_append, hk]
  rfl

end Go.Proofs.YtgajodcgedhikaaGreatDoor
