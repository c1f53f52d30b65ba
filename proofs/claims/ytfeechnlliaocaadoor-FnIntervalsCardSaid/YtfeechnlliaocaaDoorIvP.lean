/-
  WALK of impl.ParseInterval.
-/
import Derived.Test.YtfeechnlliaocaaDoorProg
import Derived.Test.YtfeechnlliaocaaDoorIvB
import Derived.WalkKit
import Derived.WalkSpells
import Derived.WalkLawsBesides
import Derived.Deep.QuietTactic
import Derived.Deep.RegionWith
import Derived.Deep.RegionHeld3
import Derived.BigQuiet
import Derived.Lib.Hide
import Derived.Below
namespace Go.Proofs.YtfeechnlliaocaaDoor
open Go.RowKit
set_option linter.unusedVariables false
set_option linter.unusedSimpArgs false

def pIv (s : ByteArray) : Value := match parseIv s with
  | some (l, h) => .tuple #[ivV l h, .bool true]
  | none => .tuple #[ivV 0 0, .bool false]
theorem fmt_yes {s : ByteArray} (h : fmtIv (lowOf s) (highOf s) = s) : parseIv s = some (lowOf s, highOf s) := by
  cases hk : okI (lowOf s) (highOf s) with
  | true =>
    unfold fmtIv at h
    rw [if_pos hk] at h
    unfold parseIv
    rw [if_pos ⟨hk, h⟩]
  | false =>
    unfold fmtIv at h
    rw [if_neg (by rw [hk]; decide)] at h
    rw [← h] at hk
    exact absurd hk (by decide +kernel)
theorem fmt_no {s : ByteArray} (h : ¬ fmtIv (lowOf s) (highOf s) = s) : parseIv s = none := by
  unfold parseIv
  split
  · rename_i q
    exact absurd (by unfold fmtIv; rw [if_pos q.1]; exact q.2) h
  · rfl
theorem cutL_size (s : ByteArray) : (cutL s).size ≤ s.size := by
  have e : (cutL s).size = (Lib.cut s.data.toList dotsB.data.toList).1.length := by show ((Lib.cut s.data.toList dotsB.data.toList).1.toArray).size = _; simp
  rw [e, Lib.size_eq]
  unfold Lib.cut
  split <;> simp
  exact Nat.min_le_right _ _
theorem cutR_size (s : ByteArray) : (cutR s).size ≤ s.size := by
  have e : (cutR s).size = (Lib.cut s.data.toList dotsB.data.toList).2.1.length := by show ((Lib.cut s.data.toList dotsB.data.toList).2.1.toArray).size = _; simp
  rw [e, Lib.size_eq]
  unfold Lib.cut
  split <;> simp

set_option maxRecDepth 100000 in
set_option maxHeartbeats 1000000 in
theorem impl_Parse_yes (s : ByteArray) (w : World) (hs : s.size ≤ 1048576) (hm : MaxL w) (ht : Pow10 w) (he : Errs w) (hf : fmtIv (lowOf s) (highOf s) = s) :
    Calls Tryd.prog 7 #[.string s] w fun e w' => e = .returned (pIv s) ∧ Below w.heap.size w w' := by
  rw [show pIv s = .tuple #[ivV (lowOf s) (highOf s), .bool true] from by unfold pIv; rw [fmt_yes hf]]
  have HM := Lib.hid hm
  have HT := Lib.hid ht
  have HE := Lib.hid he
  have HC := Lib.hid (fun (w' : World) (hb' : Below w.heap.size w w') => strings_Cut s dotsB w' hs (HM.out.kept hb'))
  have hcl := cutL_size s
  have hcr := cutR_size s
  have HL := Lib.hid (fun (w' : World) (hb' : Below w.heap.size w w') => impl_parseBound (cutL s) w' (by omega) (var_kept hb' HT.out) (HE.out.kept hb'))
  have HH := Lib.hid (fun (w' : World) (hb' : Below w.heap.size w w') => impl_parseBound (cutR s) w' (by omega) (var_kept hb' HT.out) (HE.out.kept hb'))
  have HF := Lib.hid (fun (w' : World) (hb' : Below w.heap.size w w') => impl_FormatInterval (lowOf s) (highOf s) w' (var_kept hb' HT.out))
  obtain ⟨b, hbb⟩ : ∃ b, b = (Lib.cut s.data.toList dotsB.data.toList).2.2 := ⟨_, rfl⟩
  change Hid (∀ (w' : World) (hb' : Below w.heap.size w w'), Calls _ _ _ w' fun e w'' => e = .returned (.tuple #[.string (cutL s), .string (cutR s), .bool (Lib.cut s.data.toList dotsB.data.toList).2.2]) ∧ _) at HC
  change Hid (∀ (w' : World) (hb' : Below w.heap.size w w'), Calls _ _ _ w' fun e w'' => e = .returned (.int .i64 (lowOf s)) ∧ _) at HL
  change Hid (∀ (w' : World) (hb' : Below w.heap.size w w'), Calls _ _ _ w' fun e w'' => e = .returned (.int .i64 (highOf s)) ∧ _) at HH
  rw [← hbb] at HC
  obtain ⟨x, hx⟩ : ∃ x, x = cutL s := ⟨_, rfl⟩
  obtain ⟨y, hy⟩ : ∃ y, y = cutR s := ⟨_, rfl⟩
  obtain ⟨lo, hlo⟩ : ∃ x, x = lowOf s := ⟨_, rfl⟩
  obtain ⟨hi, hhi⟩ : ∃ x, x = highOf s := ⟨_, rfl⟩
  rw [← hx, ← hy] at HC
  rw [← hx, ← hlo] at HL
  rw [← hy, ← hhi] at HH
  rw [← hlo, ← hhi] at HF
  clear hbb hx hy hcl hcr hm ht he
  rw [← hlo, ← hhi] at hf ⊢
  obtain ⟨t, htt⟩ : ∃ t, t = fmtIv lo hi := ⟨_, rfl⟩
  rw [← htt] at hf HF
  have e1 : (!t.toList == s.toList) = false := by rw [hf]; simp
  clear hf htt
  clear hlo hhi
  unfold ivV at HF
  unfold dotsB at HC
  go_enter Tryd.func7, Tryd.ntmps7
  go_wp2_with (first | (go_at_call 23; refine (HC.out _ (by repeat (first | exact Below.refl _ _ | refine below_step (by assumption) (by (try simp) <;> omega) ?_ | refine below_drewN ?_ _ | refine Below.drew ?_ | refine Below.setCell ?_ (by (try simp) <;> omega) _ | refine Below.alloc ?_ (by (try simp) <;> omega) _))).mono ?_; rintro e w1 ⟨rfl, q, rfl⟩) | (go_at_call_of 24 x; refine (HL.out _ (by repeat (first | exact Below.refl _ _ | refine below_step (by assumption) (by (try simp) <;> omega) ?_ | refine below_drewN ?_ _ | refine Below.drew ?_ | refine Below.setCell ?_ (by (try simp) <;> omega) _ | refine Below.alloc ?_ (by (try simp) <;> omega) _))).mono ?_; rintro e wx ⟨rfl, bx⟩; have s_wx : w.heap.size < wx.heap.size := Nat.lt_of_lt_of_le (by (try simp) <;> omega) bx.size; have k0_wx : wx.cell? ⟨w.heap.size, 0, none⟩ = some (.int .i64 0) := (bx.cell (p := ⟨w.heap.size, 0, none⟩) (by (try simp) <;> omega)).trans (by go_simp); have z0_wx : wx.frozen? ⟨w.heap.size, 0, none⟩ = false := (bx.frozen (p := ⟨w.heap.size, 0, none⟩) (by (try simp) <;> omega)).trans (by go_simp); have k1_wx : wx.cell? ⟨w.heap.size, 1, none⟩ = some (.int .i64 0) := (bx.cell (p := ⟨w.heap.size, 1, none⟩) (by (try simp) <;> omega)).trans (by go_simp); have z1_wx : wx.frozen? ⟨w.heap.size, 1, none⟩ = false := (bx.frozen (p := ⟨w.heap.size, 1, none⟩) (by (try simp) <;> omega)).trans (by go_simp)) | (go_at_call_of 24 y; refine (HH.out _ (by repeat (first | exact Below.refl _ _ | refine below_step (by assumption) (by (try simp) <;> omega) ?_ | refine below_drewN ?_ _ | refine Below.drew ?_ | refine Below.setCell ?_ (by (try simp) <;> omega) _ | refine Below.alloc ?_ (by (try simp) <;> omega) _))).mono ?_; rintro e wy ⟨rfl, bY⟩; have s_wy : w.heap.size < wy.heap.size := Nat.lt_of_lt_of_le (by (try simp) <;> omega) bY.size; have k0_wy : wy.cell? ⟨w.heap.size, 0, none⟩ = some (.int .i64 0) := (bY.cell (p := ⟨w.heap.size, 0, none⟩) (by (try simp) <;> omega)).trans (by go_simp); have z0_wy : wy.frozen? ⟨w.heap.size, 0, none⟩ = false := (bY.frozen (p := ⟨w.heap.size, 0, none⟩) (by (try simp) <;> omega)).trans (by go_simp); have k1_wy : wy.cell? ⟨w.heap.size, 1, none⟩ = some (.int .i64 0) := (bY.cell (p := ⟨w.heap.size, 1, none⟩) (by (try simp) <;> omega)).trans (by go_simp); have z1_wy : wy.frozen? ⟨w.heap.size, 1, none⟩ = false := (bY.frozen (p := ⟨w.heap.size, 1, none⟩) (by (try simp) <;> omega)).trans (by go_simp)) | (go_at_call 8; refine (HF.out _ (by repeat (first | exact Below.refl _ _ | refine below_step (by assumption) (by (try simp) <;> omega) ?_ | refine below_drewN ?_ _ | refine Below.drew ?_ | refine Below.setCell ?_ (by (try simp) <;> omega) _ | refine Below.alloc ?_ (by (try simp) <;> omega) _))).mono ?_; rintro e wf ⟨rfl, bf⟩; have s_wf : w.heap.size < wf.heap.size := Nat.lt_of_lt_of_le (by (try simp) <;> omega) bf.size; have k0_wf : wf.cell? ⟨w.heap.size, 0, none⟩ = some (.int .i64 0) := (bf.cell (p := ⟨w.heap.size, 0, none⟩) (by (try simp) <;> omega)).trans (by go_simp); have z0_wf : wf.frozen? ⟨w.heap.size, 0, none⟩ = false := (bf.frozen (p := ⟨w.heap.size, 0, none⟩) (by (try simp) <;> omega)).trans (by go_simp); have k1_wf : wf.cell? ⟨w.heap.size, 1, none⟩ = some (.int .i64 0) := (bf.cell (p := ⟨w.heap.size, 1, none⟩) (by (try simp) <;> omega)).trans (by go_simp); have z1_wf : wf.frozen? ⟨w.heap.size, 1, none⟩ = false := (bf.frozen (p := ⟨w.heap.size, 1, none⟩) (by (try simp) <;> omega)).trans (by go_simp); have t_wf : wy.heap.size < wf.heap.size := Nat.lt_of_lt_of_le (by (try simp) <;> omega) bf.size; have i0_wf : wf.cell? ⟨wy.heap.size, 0, none⟩ = some (.int .i64 lo) := (bf.cell (p := ⟨wy.heap.size, 0, none⟩) (by (try simp) <;> omega)).trans (by go_simp); have i1_wf : wf.cell? ⟨wy.heap.size, 1, none⟩ = some (.int .i64 hi) := (bf.cell (p := ⟨wy.heap.size, 1, none⟩) (by (try simp) <;> omega)).trans (by go_simp)))
  all_goals (go_wp2; refine bodyPost_ret (v := .tuple #[.agg #[.int .i64 lo, .int .i64 hi], .bool true]) (by first | (simp [results, Tryd.results7, go_sem]; done) | simp [*, results, Tryd.results7, go_sem]) rfl ⟨rfl, (by repeat (first | exact Below.refl _ _ | refine below_step (by assumption) (by (try simp) <;> omega) ?_ | refine below_drewN ?_ _ | refine Below.drew ?_ | refine Below.setCell ?_ (by (try simp) <;> omega) _ | refine Below.alloc ?_ (by (try simp) <;> omega) _))⟩)

set_option maxRecDepth 100000 in
set_option maxHeartbeats 1000000 in
theorem impl_Parse_no (s : ByteArray) (w : World) (hs : s.size ≤ 1048576) (hm : MaxL w) (ht : Pow10 w) (he : Errs w) (hf : ¬ fmtIv (lowOf s) (highOf s) = s) :
    Calls Tryd.prog 7 #[.string s] w fun e w' => e = .returned (pIv s) ∧ Below w.heap.size w w' := by
  rw [show pIv s = .tuple #[ivV 0 0, .bool false] from by unfold pIv; rw [fmt_no hf]]
  have HM := Lib.hid hm
  have HT := Lib.hid ht
  have HE := Lib.hid he
  have HC := Lib.hid (fun (w' : World) (hb' : Below w.heap.size w w') => strings_Cut s dotsB w' hs (HM.out.kept hb'))
  have hcl := cutL_size s
  have hcr := cutR_size s
  have HL := Lib.hid (fun (w' : World) (hb' : Below w.heap.size w w') => impl_parseBound (cutL s) w' (by omega) (var_kept hb' HT.out) (HE.out.kept hb'))
  have HH := Lib.hid (fun (w' : World) (hb' : Below w.heap.size w w') => impl_parseBound (cutR s) w' (by omega) (var_kept hb' HT.out) (HE.out.kept hb'))
  have HF := Lib.hid (fun (w' : World) (hb' : Below w.heap.size w w') => impl_FormatInterval (lowOf s) (highOf s) w' (var_kept hb' HT.out))
  obtain ⟨b, hbb⟩ : ∃ b, b = (Lib.cut s.data.toList dotsB.data.toList).2.2 := ⟨_, rfl⟩
  change Hid (∀ (w' : World) (hb' : Below w.heap.size w w'), Calls _ _ _ w' fun e w'' => e = .returned (.tuple #[.string (cutL s), .string (cutR s), .bool (Lib.cut s.data.toList dotsB.data.toList).2.2]) ∧ _) at HC
  change Hid (∀ (w' : World) (hb' : Below w.heap.size w w'), Calls _ _ _ w' fun e w'' => e = .returned (.int .i64 (lowOf s)) ∧ _) at HL
  change Hid (∀ (w' : World) (hb' : Below w.heap.size w w'), Calls _ _ _ w' fun e w'' => e = .returned (.int .i64 (highOf s)) ∧ _) at HH
  rw [← hbb] at HC
  obtain ⟨x, hx⟩ : ∃ x, x = cutL s := ⟨_, rfl⟩
  obtain ⟨y, hy⟩ : ∃ y, y = cutR s := ⟨_, rfl⟩
  obtain ⟨lo, hlo⟩ : ∃ x, x = lowOf s := ⟨_, rfl⟩
  obtain ⟨hi, hhi⟩ : ∃ x, x = highOf s := ⟨_, rfl⟩
  rw [← hx, ← hy] at HC
  rw [← hx, ← hlo] at HL
  rw [← hy, ← hhi] at HH
  rw [← hlo, ← hhi] at HF
  clear hbb hx hy hcl hcr hm ht he
  rw [← hlo, ← hhi] at hf
  obtain ⟨t, htt⟩ : ∃ t, t = fmtIv lo hi := ⟨_, rfl⟩
  rw [← htt] at hf HF
  have e1 : (!t.toList == s.toList) = true := by rw [other_b hf]; rfl
  clear hf htt
  clear hlo hhi
  unfold ivV at HF
  unfold dotsB at HC
  go_enter Tryd.func7, Tryd.ntmps7
  go_wp2_with (first | (go_at_call 23; refine (HC.out _ (by repeat (first | exact Below.refl _ _ | refine below_step (by assumption) (by (try simp) <;> omega) ?_ | refine below_drewN ?_ _ | refine Below.drew ?_ | refine Below.setCell ?_ (by (try simp) <;> omega) _ | refine Below.alloc ?_ (by (try simp) <;> omega) _))).mono ?_; rintro e w1 ⟨rfl, q, rfl⟩) | (go_at_call_of 24 x; refine (HL.out _ (by repeat (first | exact Below.refl _ _ | refine below_step (by assumption) (by (try simp) <;> omega) ?_ | refine below_drewN ?_ _ | refine Below.drew ?_ | refine Below.setCell ?_ (by (try simp) <;> omega) _ | refine Below.alloc ?_ (by (try simp) <;> omega) _))).mono ?_; rintro e wx ⟨rfl, bx⟩; have s_wx : w.heap.size < wx.heap.size := Nat.lt_of_lt_of_le (by (try simp) <;> omega) bx.size; have k0_wx : wx.cell? ⟨w.heap.size, 0, none⟩ = some (.int .i64 0) := (bx.cell (p := ⟨w.heap.size, 0, none⟩) (by (try simp) <;> omega)).trans (by go_simp); have z0_wx : wx.frozen? ⟨w.heap.size, 0, none⟩ = false := (bx.frozen (p := ⟨w.heap.size, 0, none⟩) (by (try simp) <;> omega)).trans (by go_simp); have k1_wx : wx.cell? ⟨w.heap.size, 1, none⟩ = some (.int .i64 0) := (bx.cell (p := ⟨w.heap.size, 1, none⟩) (by (try simp) <;> omega)).trans (by go_simp); have z1_wx : wx.frozen? ⟨w.heap.size, 1, none⟩ = false := (bx.frozen (p := ⟨w.heap.size, 1, none⟩) (by (try simp) <;> omega)).trans (by go_simp)) | (go_at_call_of 24 y; refine (HH.out _ (by repeat (first | exact Below.refl _ _ | refine below_step (by assumption) (by (try simp) <;> omega) ?_ | refine below_drewN ?_ _ | refine Below.drew ?_ | refine Below.setCell ?_ (by (try simp) <;> omega) _ | refine Below.alloc ?_ (by (try simp) <;> omega) _))).mono ?_; rintro e wy ⟨rfl, bY⟩; have s_wy : w.heap.size < wy.heap.size := Nat.lt_of_lt_of_le (by (try simp) <;> omega) bY.size; have k0_wy : wy.cell? ⟨w.heap.size, 0, none⟩ = some (.int .i64 0) := (bY.cell (p := ⟨w.heap.size, 0, none⟩) (by (try simp) <;> omega)).trans (by go_simp); have z0_wy : wy.frozen? ⟨w.heap.size, 0, none⟩ = false := (bY.frozen (p := ⟨w.heap.size, 0, none⟩) (by (try simp) <;> omega)).trans (by go_simp); have k1_wy : wy.cell? ⟨w.heap.size, 1, none⟩ = some (.int .i64 0) := (bY.cell (p := ⟨w.heap.size, 1, none⟩) (by (try simp) <;> omega)).trans (by go_simp); have z1_wy : wy.frozen? ⟨w.heap.size, 1, none⟩ = false := (bY.frozen (p := ⟨w.heap.size, 1, none⟩) (by (try simp) <;> omega)).trans (by go_simp)) | (go_at_call 8; refine (HF.out _ (by repeat (first | exact Below.refl _ _ | refine below_step (by assumption) (by (try simp) <;> omega) ?_ | refine below_drewN ?_ _ | refine Below.drew ?_ | refine Below.setCell ?_ (by (try simp) <;> omega) _ | refine Below.alloc ?_ (by (try simp) <;> omega) _))).mono ?_; rintro e wf ⟨rfl, bf⟩; have s_wf : w.heap.size < wf.heap.size := Nat.lt_of_lt_of_le (by (try simp) <;> omega) bf.size; have k0_wf : wf.cell? ⟨w.heap.size, 0, none⟩ = some (.int .i64 0) := (bf.cell (p := ⟨w.heap.size, 0, none⟩) (by (try simp) <;> omega)).trans (by go_simp); have z0_wf : wf.frozen? ⟨w.heap.size, 0, none⟩ = false := (bf.frozen (p := ⟨w.heap.size, 0, none⟩) (by (try simp) <;> omega)).trans (by go_simp); have k1_wf : wf.cell? ⟨w.heap.size, 1, none⟩ = some (.int .i64 0) := (bf.cell (p := ⟨w.heap.size, 1, none⟩) (by (try simp) <;> omega)).trans (by go_simp); have z1_wf : wf.frozen? ⟨w.heap.size, 1, none⟩ = false := (bf.frozen (p := ⟨w.heap.size, 1, none⟩) (by (try simp) <;> omega)).trans (by go_simp); have t_wf : wy.heap.size < wf.heap.size := Nat.lt_of_lt_of_le (by (try simp) <;> omega) bf.size; have i0_wf : wf.cell? ⟨wy.heap.size, 0, none⟩ = some (.int .i64 lo) := (bf.cell (p := ⟨wy.heap.size, 0, none⟩) (by (try simp) <;> omega)).trans (by go_simp); have i1_wf : wf.cell? ⟨wy.heap.size, 1, none⟩ = some (.int .i64 hi) := (bf.cell (p := ⟨wy.heap.size, 1, none⟩) (by (try simp) <;> omega)).trans (by go_simp)))
  all_goals (go_wp2; refine bodyPost_ret (v := .tuple #[.agg #[.int .i64 0, .int .i64 0], .bool false]) (by first | (simp [results, Tryd.results7, go_sem]; done) | simp [*, results, Tryd.results7, go_sem]) rfl ⟨rfl, (by repeat (first | exact Below.refl _ _ | refine below_step (by assumption) (by (try simp) <;> omega) ?_ | refine below_drewN ?_ _ | refine Below.drew ?_ | refine Below.setCell ?_ (by (try simp) <;> omega) _ | refine Below.alloc ?_ (by (try simp) <;> omega) _))⟩)

end Go.Proofs.YtfeechnlliaocaaDoor
