/-
  WALK of spec.ParseInterval; both.
-/
import Derived.Test.YtfeechnlliaocaaDoorProg
import Derived.Test.YtfeechnlliaocaaDoorIvP
import Derived.WalkKit
import Derived.WalkSpells
import Derived.WalkLawsBesides
import Derived.Deep.QuietTactic
import Derived.Deep.RegionWith
import Derived.Deep.RegionHeld3
import Derived.BigQuiet
import Derived.Lib.Hide
import Derived.Below
namespace Go.Proofs.YtfeechnlliaocaaDoor
open Go.RowKit
set_option linter.unusedVariables false
set_option linter.unusedSimpArgs false

theorem impl_ParseInterval (s : ByteArray) (w : World) (hs : s.size ≤ 1048576) (hm : MaxL w) (ht : Pow10 w) (he : Errs w) :
    Calls Tryd.prog 7 #[.string s] w fun e w' => e = .returned (pIv s) ∧ Below w.heap.size w w' := by
  by_cases hf : fmtIv (lowOf s) (highOf s) = s
  · exact impl_Parse_yes s w hs hm ht he hf
  · exact impl_Parse_no s w hs hm ht he hf

set_option maxRecDepth 100000 in
set_option maxHeartbeats 1000000 in
theorem spec_Parse_len (s : ByteArray) (w : World) (hs : s.size ≤ 1048576) (hl : ¬ (split s dotB).length = 3) :
    Calls Tryd.prog 19 #[.string s] w fun e w' => e = .returned (pIv s) ∧ Below w.heap.size w w' := by
  rw [show pIv s = .tuple #[ivV 0 0, .bool false] from by unfold pIv; rw [none_len hl]]
  have HSP := Lib.hid (fun (w' : World) => spec_SplitAny s dotB w' hs (by decide))
  unfold dotB at HSP
  go_enter Tryd.func19, Tryd.ntmps19
  go_wp2_with fail
  refine (HSP.out _).mono ?_
  rintro e w1 ⟨v, rfl, hown, b1⟩
  change w1.ownsRow _ _ _ v (split s dotB).length ((split s dotB).map Value.string) at hown
  obtain ⟨A, cp, rfl, hlen, hrow⟩ := own_form hown
  have hS : Hid (Below w.heap.size w w1) := Lib.hid (by repeat (first | exact Below.refl _ _ | refine below_step (by assumption) (by (try simp) <;> omega) ?_ | refine below_drewN ?_ _ | refine Below.drew ?_ | refine Below.setCell ?_ (by (try simp) <;> omega) _ | refine Below.alloc ?_ (by (try simp) <;> omega) _))
  have bS := hS.out
  obtain ⟨n, hn⟩ : ∃ n, n = (split s dotB).length := ⟨_, rfl⟩
  rw [← hn] at hl hown hlen
  rw [← hn]
  have hl2 : ((n : Int) != 3) = true := by simp; omega
  clear hn hl
  have s_w1 : w.heap.size < w1.heap.size := Nat.lt_of_lt_of_le (by (try simp) <;> omega) b1.size
  have k0_w1 : w1.cell? ⟨w.heap.size, 0, none⟩ = some (.int .i64 0) := (b1.cell (p := ⟨w.heap.size, 0, none⟩) (by (try simp) <;> omega)).trans (by go_simp)
  have z0_w1 : w1.frozen? ⟨w.heap.size, 0, none⟩ = false := (b1.frozen (p := ⟨w.heap.size, 0, none⟩) (by (try simp) <;> omega)).trans (by go_simp)
  have k1_w1 : w1.cell? ⟨w.heap.size, 1, none⟩ = some (.int .i64 0) := (b1.cell (p := ⟨w.heap.size, 1, none⟩) (by (try simp) <;> omega)).trans (by go_simp)
  have z1_w1 : w1.frozen? ⟨w.heap.size, 1, none⟩ = false := (b1.frozen (p := ⟨w.heap.size, 1, none⟩) (by (try simp) <;> omega)).trans (by go_simp)
  clear hown hlen hrow
  go_wp2
  refine bodyPost_ret (v := .tuple #[.agg #[.int .i64 0, .int .i64 0], .bool false]) (by first | (simp [results, Tryd.results19, go_sem]; done) | simp [*, results, Tryd.results19, go_sem]) rfl ⟨rfl, (by repeat (first | exact Below.refl _ _ | refine below_step (by assumption) (by (try simp) <;> omega) ?_ | refine below_drewN ?_ _ | refine Below.drew ?_ | refine Below.setCell ?_ (by (try simp) <;> omega) _ | refine Below.alloc ?_ (by (try simp) <;> omega) _))⟩

theorem emp_list {b : ByteArray} (h : b = ⟨#[]⟩) : b.toList = [] := by rw [h]; exact (Lib.toList_data _).trans rfl
theorem emp_no {b : ByteArray} (h : ¬ b = ⟨#[]⟩) : (b.toList == []) = false := by
  have := other_b h
  rwa [emp_list rfl] at this

set_option maxRecDepth 100000 in
set_option maxHeartbeats 1000000 in
theorem spec_Parse_mid (s a b c : ByteArray) (w : World) (hs : s.size ≤ 1048576) (hsp : split s dotB = [a, b, c]) (hb : ¬ b = ⟨#[]⟩) :
    Calls Tryd.prog 19 #[.string s] w fun e w' => e = .returned (pIv s) ∧ Below w.heap.size w w' := by
  rw [show pIv s = .tuple #[ivV 0 0, .bool false] from by unfold pIv; rw [none_mid hsp hb]]
  have e1 := emp_no hb
  clear hb
  have HSP := Lib.hid (fun (w' : World) => spec_SplitAny s dotB w' hs (by decide))
  unfold dotB at HSP
  go_enter Tryd.func19, Tryd.ntmps19
  go_wp2_with fail
  refine (HSP.out _).mono ?_
  rintro e w1 ⟨v, rfl, hown, b1⟩
  change w1.ownsRow _ _ _ v (split s dotB).length ((split s dotB).map Value.string) at hown
  obtain ⟨A, cp, rfl, hlen, hrow⟩ := own_form hown
  have hS : Hid (Below w.heap.size w w1) := Lib.hid (by repeat (first | exact Below.refl _ _ | refine below_step (by assumption) (by (try simp) <;> omega) ?_ | refine below_drewN ?_ _ | refine Below.drew ?_ | refine Below.setCell ?_ (by (try simp) <;> omega) _ | refine Below.alloc ?_ (by (try simp) <;> omega) _))
  have bS := hS.out
  obtain ⟨g, o, rfl, hg, hc⟩ := hrow (by rw [hsp]; simp)
  rw [hsp] at hc
  have c0 : w1.cell? ⟨g, o, none⟩ = some (.string a) := hc 0 (by simp)
  have c1 : w1.cell? ⟨g, o + 1, none⟩ = some (.string b) := hc 1 (by simp)
  have c2 : w1.cell? ⟨g, o + 2, none⟩ = some (.string c) := hc 2 (by simp)
  clear hc hown hlen
  rw [show (split s dotB).length = 3 from by rw [hsp]; rfl]
  clear hsp hrow
  have s_w1 : w.heap.size < w1.heap.size := Nat.lt_of_lt_of_le (by (try simp) <;> omega) b1.size
  have k0_w1 : w1.cell? ⟨w.heap.size, 0, none⟩ = some (.int .i64 0) := (b1.cell (p := ⟨w.heap.size, 0, none⟩) (by (try simp) <;> omega)).trans (by go_simp)
  have z0_w1 : w1.frozen? ⟨w.heap.size, 0, none⟩ = false := (b1.frozen (p := ⟨w.heap.size, 0, none⟩) (by (try simp) <;> omega)).trans (by go_simp)
  have k1_w1 : w1.cell? ⟨w.heap.size, 1, none⟩ = some (.int .i64 0) := (b1.cell (p := ⟨w.heap.size, 1, none⟩) (by (try simp) <;> omega)).trans (by go_simp)
  have z1_w1 : w1.frozen? ⟨w.heap.size, 1, none⟩ = false := (b1.frozen (p := ⟨w.heap.size, 1, none⟩) (by (try simp) <;> omega)).trans (by go_simp)
  go_wp2

  refine bodyPost_ret (v := .tuple #[.agg #[.int .i64 0, .int .i64 0], .bool false]) (by first | (simp [results, Tryd.results19, go_sem]; done) | simp [*, results, Tryd.results19, go_sem]) rfl ⟨rfl, (by repeat (first | exact Below.refl _ _ | refine below_step (by assumption) (by (try simp) <;> omega) ?_ | refine below_drewN ?_ _ | refine Below.drew ?_ | refine Below.setCell ?_ (by (try simp) <;> omega) _ | refine Below.alloc ?_ (by (try simp) <;> omega) _))⟩

theorem split_sizes (s sp : ByteArray) : ∀ x ∈ split s sp, x.size ≤ s.size := by
  have h : ∀ k, ∀ x ∈ (splitTo s sp k).1, x.size ≤ s.size := by
    intro k
    induction k with
    | zero => intro x hx; simp [splitTo] at hx
    | succ k ih =>
      unfold splitTo
      split
      · split
        · intro x hx
          simp at hx
          rcases hx with hx | rfl
          · exact ih x hx
          · rw [ByteArray.size_extract]; omega
        · exact ih
      · exact ih
  intro x hx
  unfold split at hx
  rw [List.mem_append] at hx
  rcases hx with hx | hx
  · exact h _ x hx
  · rw [List.mem_singleton] at hx
    rw [hx, ByteArray.size_extract]; omega

set_option maxRecDepth 100000 in
set_option maxHeartbeats 1000000 in
theorem spec_Parse_c1 (s a b c : ByteArray) (l k : Int) (w : World) (hs : s.size ≤ 1048576) (hsp : split s dotB = [a, b, c]) (hb : b = ⟨#[]⟩) (ha : readB a = none) :
    Calls Tryd.prog 19 #[.string s] w fun e w' => e = .returned (pIv s) ∧ Below w.heap.size w w' := by
  rw [show pIv s = .tuple #[ivV 0 0, .bool false] from by unfold pIv; rw [none_low hsp ha]]
  have e1 := emp_list hb
  have hsa : a.size ≤ 1048576 := Nat.le_trans (split_sizes s dotB a (by rw [hsp]; simp)) hs
  have hsc : c.size ≤ 1048576 := Nat.le_trans (split_sizes s dotB c (by rw [hsp]; simp)) hs
  have HL : Hid (∀ w' : World, Calls Tryd.prog 34 #[.string a] w' fun e w'' => e = .returned (.tuple #[.int .i64 0, .bool false]) ∧ Below w'.heap.size w' w'') := Lib.hid fun w' => by have := spec_l02Bound a w' hsa; rw [ha] at this; exact this
  obtain ⟨rc, hrc⟩ : ∃ x, x = (readB c).getD 0 := ⟨_, rfl⟩
  obtain ⟨oc, hoc⟩ : ∃ x, x = (readB c).isSome := ⟨_, rfl⟩
  have HH := Lib.hid (fun w' => spec_l02Bound c w' hsc)
  rw [← hrc, ← hoc] at HH
  clear hrc hoc ha
  clear hb
  have HSP := Lib.hid (fun (w' : World) => spec_SplitAny s dotB w' hs (by decide))
  unfold dotB at HSP
  go_enter Tryd.func19, Tryd.ntmps19
  go_wp2_with fail
  refine (HSP.out _).mono ?_
  rintro e w1 ⟨v, rfl, hown, b1⟩
  change w1.ownsRow _ _ _ v (split s dotB).length ((split s dotB).map Value.string) at hown
  obtain ⟨A, cp, rfl, hlen, hrow⟩ := own_form hown
  have hS : Hid (Below w.heap.size w w1) := Lib.hid (by repeat (first | exact Below.refl _ _ | refine below_step (by assumption) (by (try simp) <;> omega) ?_ | refine below_drewN ?_ _ | refine Below.drew ?_ | refine Below.setCell ?_ (by (try simp) <;> omega) _ | refine Below.alloc ?_ (by (try simp) <;> omega) _))
  have bS := hS.out
  obtain ⟨g, o, rfl, hg, hc⟩ := hrow (by rw [hsp]; simp)
  rw [hsp] at hc
  have c0 : w1.cell? ⟨g, o, none⟩ = some (.string a) := hc 0 (by simp)
  have c1 : w1.cell? ⟨g, o + 1, none⟩ = some (.string b) := hc 1 (by simp)
  have c2 : w1.cell? ⟨g, o + 2, none⟩ = some (.string c) := hc 2 (by simp)
  clear hc hown hlen
  rw [show (split s dotB).length = 3 from by rw [hsp]; rfl]
  clear hsp hrow
  have s_w1 : w.heap.size < w1.heap.size := Nat.lt_of_lt_of_le (by (try simp) <;> omega) b1.size
  have k0_w1 : w1.cell? ⟨w.heap.size, 0, none⟩ = some (.int .i64 0) := (b1.cell (p := ⟨w.heap.size, 0, none⟩) (by (try simp) <;> omega)).trans (by go_simp)
  have z0_w1 : w1.frozen? ⟨w.heap.size, 0, none⟩ = false := (b1.frozen (p := ⟨w.heap.size, 0, none⟩) (by (try simp) <;> omega)).trans (by go_simp)
  have k1_w1 : w1.cell? ⟨w.heap.size, 1, none⟩ = some (.int .i64 0) := (b1.cell (p := ⟨w.heap.size, 1, none⟩) (by (try simp) <;> omega)).trans (by go_simp)
  have z1_w1 : w1.frozen? ⟨w.heap.size, 1, none⟩ = false := (b1.frozen (p := ⟨w.heap.size, 1, none⟩) (by (try simp) <;> omega)).trans (by go_simp)
  have g_w1 := hg

  go_wp2_with (first | (go_at_call_of 34 (Value.string a); refine (HL.out _).mono ?_; rintro e wx ⟨rfl, bx⟩; have s_wx : w.heap.size < wx.heap.size := Nat.lt_of_lt_of_le (by (try simp) <;> omega) bx.size; have k0_wx : wx.cell? ⟨w.heap.size, 0, none⟩ = some (.int .i64 0) := (bx.cell (p := ⟨w.heap.size, 0, none⟩) (by (try simp) <;> omega)).trans (by go_simp); have z0_wx : wx.frozen? ⟨w.heap.size, 0, none⟩ = false := (bx.frozen (p := ⟨w.heap.size, 0, none⟩) (by (try simp) <;> omega)).trans (by go_simp); have k1_wx : wx.cell? ⟨w.heap.size, 1, none⟩ = some (.int .i64 0) := (bx.cell (p := ⟨w.heap.size, 1, none⟩) (by (try simp) <;> omega)).trans (by go_simp); have z1_wx : wx.frozen? ⟨w.heap.size, 1, none⟩ = false := (bx.frozen (p := ⟨w.heap.size, 1, none⟩) (by (try simp) <;> omega)).trans (by go_simp); have g_wx : g < wx.heap.size := Nat.lt_of_lt_of_le (by (try simp) <;> omega) bx.size; have gc_wx : wx.cell? ⟨g, o + 2, none⟩ = some (.string c) := (bx.cell (p := ⟨g, o + 2, none⟩) (by (try simp) <;> omega)).trans (by go_simp)) | (go_at_call_of 34 (Value.string c); refine (HH.out _).mono ?_; rintro e wy ⟨rfl, bY⟩; have s_wy : w.heap.size < wy.heap.size := Nat.lt_of_lt_of_le (by (try simp) <;> omega) bY.size; have k0_wy : wy.cell? ⟨w.heap.size, 0, none⟩ = some (.int .i64 0) := (bY.cell (p := ⟨w.heap.size, 0, none⟩) (by (try simp) <;> omega)).trans (by go_simp); have z0_wy : wy.frozen? ⟨w.heap.size, 0, none⟩ = false := (bY.frozen (p := ⟨w.heap.size, 0, none⟩) (by (try simp) <;> omega)).trans (by go_simp); have k1_wy : wy.cell? ⟨w.heap.size, 1, none⟩ = some (.int .i64 0) := (bY.cell (p := ⟨w.heap.size, 1, none⟩) (by (try simp) <;> omega)).trans (by go_simp); have z1_wy : wy.frozen? ⟨w.heap.size, 1, none⟩ = false := (bY.frozen (p := ⟨w.heap.size, 1, none⟩) (by (try simp) <;> omega)).trans (by go_simp)))
  all_goals (go_wp2; refine bodyPost_ret (v := .tuple #[.agg #[.int .i64 0, .int .i64 0], .bool false]) (by first | (simp [results, Tryd.results19, go_sem]; done) | simp [*, results, Tryd.results19, go_sem]) rfl ⟨rfl, (by repeat (first | exact Below.refl _ _ | refine below_step (by assumption) (by (try simp) <;> omega) ?_ | refine below_drewN ?_ _ | refine Below.drew ?_ | refine Below.setCell ?_ (by (try simp) <;> omega) _ | refine Below.alloc ?_ (by (try simp) <;> omega) _))⟩)

set_option maxRecDepth 100000 in
set_option maxHeartbeats 1000000 in
theorem spec_Parse_c2 (s a b c : ByteArray) (l k : Int) (w : World) (hs : s.size ≤ 1048576) (hsp : split s dotB = [a, b, c]) (hb : b = ⟨#[]⟩) (ha : readB a = some l) (hc : readB c = none) :
    Calls Tryd.prog 19 #[.string s] w fun e w' => e = .returned (pIv s) ∧ Below w.heap.size w w' := by
  rw [show pIv s = .tuple #[ivV 0 0, .bool false] from by unfold pIv; rw [none_high hsp hc]]
  have e1 := emp_list hb
  have hsa : a.size ≤ 1048576 := Nat.le_trans (split_sizes s dotB a (by rw [hsp]; simp)) hs
  have hsc : c.size ≤ 1048576 := Nat.le_trans (split_sizes s dotB c (by rw [hsp]; simp)) hs
  have HL : Hid (∀ w' : World, Calls Tryd.prog 34 #[.string a] w' fun e w'' => e = .returned (.tuple #[.int .i64 l, .bool true]) ∧ Below w'.heap.size w' w'') := Lib.hid fun w' => by have := spec_l02Bound a w' hsa; rw [ha] at this; exact this
  have HH : Hid (∀ w' : World, Calls Tryd.prog 34 #[.string c] w' fun e w'' => e = .returned (.tuple #[.int .i64 0, .bool false]) ∧ Below w'.heap.size w' w'') := Lib.hid fun w' => by have := spec_l02Bound c w' hsc; rw [hc] at this; exact this
  clear ha hc
  clear hb
  have HSP := Lib.hid (fun (w' : World) => spec_SplitAny s dotB w' hs (by decide))
  unfold dotB at HSP
  go_enter Tryd.func19, Tryd.ntmps19
  go_wp2_with fail
  refine (HSP.out _).mono ?_
  rintro e w1 ⟨v, rfl, hown, b1⟩
  change w1.ownsRow _ _ _ v (split s dotB).length ((split s dotB).map Value.string) at hown
  obtain ⟨A, cp, rfl, hlen, hrow⟩ := own_form hown
  have hS : Hid (Below w.heap.size w w1) := Lib.hid (by repeat (first | exact Below.refl _ _ | refine below_step (by assumption) (by (try simp) <;> omega) ?_ | refine below_drewN ?_ _ | refine Below.drew ?_ | refine Below.setCell ?_ (by (try simp) <;> omega) _ | refine Below.alloc ?_ (by (try simp) <;> omega) _))
  have bS := hS.out
  obtain ⟨g, o, rfl, hg, hc⟩ := hrow (by rw [hsp]; simp)
  rw [hsp] at hc
  have c0 : w1.cell? ⟨g, o, none⟩ = some (.string a) := hc 0 (by simp)
  have c1 : w1.cell? ⟨g, o + 1, none⟩ = some (.string b) := hc 1 (by simp)
  have c2 : w1.cell? ⟨g, o + 2, none⟩ = some (.string c) := hc 2 (by simp)
  clear hc hown hlen
  rw [show (split s dotB).length = 3 from by rw [hsp]; rfl]
  clear hsp hrow
  have s_w1 : w.heap.size < w1.heap.size := Nat.lt_of_lt_of_le (by (try simp) <;> omega) b1.size
  have k0_w1 : w1.cell? ⟨w.heap.size, 0, none⟩ = some (.int .i64 0) := (b1.cell (p := ⟨w.heap.size, 0, none⟩) (by (try simp) <;> omega)).trans (by go_simp)
  have z0_w1 : w1.frozen? ⟨w.heap.size, 0, none⟩ = false := (b1.frozen (p := ⟨w.heap.size, 0, none⟩) (by (try simp) <;> omega)).trans (by go_simp)
  have k1_w1 : w1.cell? ⟨w.heap.size, 1, none⟩ = some (.int .i64 0) := (b1.cell (p := ⟨w.heap.size, 1, none⟩) (by (try simp) <;> omega)).trans (by go_simp)
  have z1_w1 : w1.frozen? ⟨w.heap.size, 1, none⟩ = false := (b1.frozen (p := ⟨w.heap.size, 1, none⟩) (by (try simp) <;> omega)).trans (by go_simp)
  have g_w1 := hg

  go_wp2_with (first | (go_at_call_of 34 (Value.string a); refine (HL.out _).mono ?_; rintro e wx ⟨rfl, bx⟩; have s_wx : w.heap.size < wx.heap.size := Nat.lt_of_lt_of_le (by (try simp) <;> omega) bx.size; have k0_wx : wx.cell? ⟨w.heap.size, 0, none⟩ = some (.int .i64 0) := (bx.cell (p := ⟨w.heap.size, 0, none⟩) (by (try simp) <;> omega)).trans (by go_simp); have z0_wx : wx.frozen? ⟨w.heap.size, 0, none⟩ = false := (bx.frozen (p := ⟨w.heap.size, 0, none⟩) (by (try simp) <;> omega)).trans (by go_simp); have k1_wx : wx.cell? ⟨w.heap.size, 1, none⟩ = some (.int .i64 0) := (bx.cell (p := ⟨w.heap.size, 1, none⟩) (by (try simp) <;> omega)).trans (by go_simp); have z1_wx : wx.frozen? ⟨w.heap.size, 1, none⟩ = false := (bx.frozen (p := ⟨w.heap.size, 1, none⟩) (by (try simp) <;> omega)).trans (by go_simp); have g_wx : g < wx.heap.size := Nat.lt_of_lt_of_le (by (try simp) <;> omega) bx.size; have gc_wx : wx.cell? ⟨g, o + 2, none⟩ = some (.string c) := (bx.cell (p := ⟨g, o + 2, none⟩) (by (try simp) <;> omega)).trans (by go_simp)) | (go_at_call_of 34 (Value.string c); refine (HH.out _).mono ?_; rintro e wy ⟨rfl, bY⟩; have s_wy : w.heap.size < wy.heap.size := Nat.lt_of_lt_of_le (by (try simp) <;> omega) bY.size; have k0_wy : wy.cell? ⟨w.heap.size, 0, none⟩ = some (.int .i64 0) := (bY.cell (p := ⟨w.heap.size, 0, none⟩) (by (try simp) <;> omega)).trans (by go_simp); have z0_wy : wy.frozen? ⟨w.heap.size, 0, none⟩ = false := (bY.frozen (p := ⟨w.heap.size, 0, none⟩) (by (try simp) <;> omega)).trans (by go_simp); have k1_wy : wy.cell? ⟨w.heap.size, 1, none⟩ = some (.int .i64 0) := (bY.cell (p := ⟨w.heap.size, 1, none⟩) (by (try simp) <;> omega)).trans (by go_simp); have z1_wy : wy.frozen? ⟨w.heap.size, 1, none⟩ = false := (bY.frozen (p := ⟨w.heap.size, 1, none⟩) (by (try simp) <;> omega)).trans (by go_simp)))
  all_goals (go_wp2; refine bodyPost_ret (v := .tuple #[.agg #[.int .i64 0, .int .i64 0], .bool false]) (by first | (simp [results, Tryd.results19, go_sem]; done) | simp [*, results, Tryd.results19, go_sem]) rfl ⟨rfl, (by repeat (first | exact Below.refl _ _ | refine below_step (by assumption) (by (try simp) <;> omega) ?_ | refine below_drewN ?_ _ | refine Below.drew ?_ | refine Below.setCell ?_ (by (try simp) <;> omega) _ | refine Below.alloc ?_ (by (try simp) <;> omega) _))⟩)

set_option maxRecDepth 100000 in
set_option maxHeartbeats 1000000 in
theorem spec_Parse_c3 (s a b c : ByteArray) (l k : Int) (w : World) (hs : s.size ≤ 1048576) (hsp : split s dotB = [a, b, c]) (hb : b = ⟨#[]⟩) (ha : readB a = some l) (hc : readB c = some k) (hk : okI l k = false) :
    Calls Tryd.prog 19 #[.string s] w fun e w' => e = .returned (pIv s) ∧ Below w.heap.size w w' := by
  rw [show pIv s = .tuple #[ivV 0 0, .bool false] from by unfold pIv; rw [none_text hsp ha hc (fun h => by rw [hk] at h; exact absurd h.1 (by decide))]]
  have e1 := emp_list hb
  have hsa : a.size ≤ 1048576 := Nat.le_trans (split_sizes s dotB a (by rw [hsp]; simp)) hs
  have hsc : c.size ≤ 1048576 := Nat.le_trans (split_sizes s dotB c (by rw [hsp]; simp)) hs
  have HL : Hid (∀ w' : World, Calls Tryd.prog 34 #[.string a] w' fun e w'' => e = .returned (.tuple #[.int .i64 l, .bool true]) ∧ Below w'.heap.size w' w'') := Lib.hid fun w' => by have := spec_l02Bound a w' hsa; rw [ha] at this; exact this
  have HH : Hid (∀ w' : World, Calls Tryd.prog 34 #[.string c] w' fun e w'' => e = .returned (.tuple #[.int .i64 k, .bool true]) ∧ Below w'.heap.size w' w'') := Lib.hid fun w' => by have := spec_l02Bound c w' hsc; rw [hc] at this; exact this
  have HO : Hid (∀ w : World, Calls Tryd.prog 31 #[ivV l k] w fun e w' => e = .returned (.bool false) ∧ w' = w.alloc (.cells #[.int .i64 l, .int .i64 k] 24)) := Lib.hid fun w => by have := spec_IntervalOk l k w; rw [hk] at this; exact this
  clear ha hc hk
  unfold ivV at HO
  clear hb
  have HSP := Lib.hid (fun (w' : World) => spec_SplitAny s dotB w' hs (by decide))
  unfold dotB at HSP
  go_enter Tryd.func19, Tryd.ntmps19
  go_wp2_with fail
  refine (HSP.out _).mono ?_
  rintro e w1 ⟨v, rfl, hown, b1⟩
  change w1.ownsRow _ _ _ v (split s dotB).length ((split s dotB).map Value.string) at hown
  obtain ⟨A, cp, rfl, hlen, hrow⟩ := own_form hown
  have hS : Hid (Below w.heap.size w w1) := Lib.hid (by repeat (first | exact Below.refl _ _ | refine below_step (by assumption) (by (try simp) <;> omega) ?_ | refine below_drewN ?_ _ | refine Below.drew ?_ | refine Below.setCell ?_ (by (try simp) <;> omega) _ | refine Below.alloc ?_ (by (try simp) <;> omega) _))
  have bS := hS.out
  obtain ⟨g, o, rfl, hg, hc⟩ := hrow (by rw [hsp]; simp)
  rw [hsp] at hc
  have c0 : w1.cell? ⟨g, o, none⟩ = some (.string a) := hc 0 (by simp)
  have c1 : w1.cell? ⟨g, o + 1, none⟩ = some (.string b) := hc 1 (by simp)
  have c2 : w1.cell? ⟨g, o + 2, none⟩ = some (.string c) := hc 2 (by simp)
  clear hc hown hlen
  rw [show (split s dotB).length = 3 from by rw [hsp]; rfl]
  clear hsp hrow
  have s_w1 : w.heap.size < w1.heap.size := Nat.lt_of_lt_of_le (by (try simp) <;> omega) b1.size
  have k0_w1 : w1.cell? ⟨w.heap.size, 0, none⟩ = some (.int .i64 0) := (b1.cell (p := ⟨w.heap.size, 0, none⟩) (by (try simp) <;> omega)).trans (by go_simp)
  have z0_w1 : w1.frozen? ⟨w.heap.size, 0, none⟩ = false := (b1.frozen (p := ⟨w.heap.size, 0, none⟩) (by (try simp) <;> omega)).trans (by go_simp)
  have k1_w1 : w1.cell? ⟨w.heap.size, 1, none⟩ = some (.int .i64 0) := (b1.cell (p := ⟨w.heap.size, 1, none⟩) (by (try simp) <;> omega)).trans (by go_simp)
  have z1_w1 : w1.frozen? ⟨w.heap.size, 1, none⟩ = false := (b1.frozen (p := ⟨w.heap.size, 1, none⟩) (by (try simp) <;> omega)).trans (by go_simp)
  have g_w1 := hg

  go_wp2_with (first | (go_at_call_of 34 (Value.string a); refine (HL.out _).mono ?_; rintro e wx ⟨rfl, bx⟩; have s_wx : w.heap.size < wx.heap.size := Nat.lt_of_lt_of_le (by (try simp) <;> omega) bx.size; have k0_wx : wx.cell? ⟨w.heap.size, 0, none⟩ = some (.int .i64 0) := (bx.cell (p := ⟨w.heap.size, 0, none⟩) (by (try simp) <;> omega)).trans (by go_simp); have z0_wx : wx.frozen? ⟨w.heap.size, 0, none⟩ = false := (bx.frozen (p := ⟨w.heap.size, 0, none⟩) (by (try simp) <;> omega)).trans (by go_simp); have k1_wx : wx.cell? ⟨w.heap.size, 1, none⟩ = some (.int .i64 0) := (bx.cell (p := ⟨w.heap.size, 1, none⟩) (by (try simp) <;> omega)).trans (by go_simp); have z1_wx : wx.frozen? ⟨w.heap.size, 1, none⟩ = false := (bx.frozen (p := ⟨w.heap.size, 1, none⟩) (by (try simp) <;> omega)).trans (by go_simp); have g_wx : g < wx.heap.size := Nat.lt_of_lt_of_le (by (try simp) <;> omega) bx.size; have gc_wx : wx.cell? ⟨g, o + 2, none⟩ = some (.string c) := (bx.cell (p := ⟨g, o + 2, none⟩) (by (try simp) <;> omega)).trans (by go_simp)) | (go_at_call_of 34 (Value.string c); refine (HH.out _).mono ?_; rintro e wy ⟨rfl, bY⟩; have s_wy : w.heap.size < wy.heap.size := Nat.lt_of_lt_of_le (by (try simp) <;> omega) bY.size; have k0_wy : wy.cell? ⟨w.heap.size, 0, none⟩ = some (.int .i64 0) := (bY.cell (p := ⟨w.heap.size, 0, none⟩) (by (try simp) <;> omega)).trans (by go_simp); have z0_wy : wy.frozen? ⟨w.heap.size, 0, none⟩ = false := (bY.frozen (p := ⟨w.heap.size, 0, none⟩) (by (try simp) <;> omega)).trans (by go_simp); have k1_wy : wy.cell? ⟨w.heap.size, 1, none⟩ = some (.int .i64 0) := (bY.cell (p := ⟨w.heap.size, 1, none⟩) (by (try simp) <;> omega)).trans (by go_simp); have z1_wy : wy.frozen? ⟨w.heap.size, 1, none⟩ = false := (bY.frozen (p := ⟨w.heap.size, 1, none⟩) (by (try simp) <;> omega)).trans (by go_simp)) | (go_at_call 31; refine (HO.out _).mono ?_; rintro e w9 ⟨rfl, rfl⟩))
  all_goals (go_wp2; refine bodyPost_ret (v := .tuple #[.agg #[.int .i64 0, .int .i64 0], .bool false]) (by first | (simp [results, Tryd.results19, go_sem]; done) | simp [*, results, Tryd.results19, go_sem]) rfl ⟨rfl, (by repeat (first | exact Below.refl _ _ | refine below_step (by assumption) (by (try simp) <;> omega) ?_ | refine below_drewN ?_ _ | refine Below.drew ?_ | refine Below.setCell ?_ (by (try simp) <;> omega) _ | refine Below.alloc ?_ (by (try simp) <;> omega) _))⟩)

set_option maxRecDepth 100000 in
set_option maxHeartbeats 1000000 in
theorem spec_Parse_c4 (s a b c : ByteArray) (l k : Int) (w : World) (hs : s.size ≤ 1048576) (hsp : split s dotB = [a, b, c]) (hb : b = ⟨#[]⟩) (ha : readB a = some l) (hc : readB c = some k) (hk : okI l k = true) (hf : ¬ ivB l k = s) :
    Calls Tryd.prog 19 #[.string s] w fun e w' => e = .returned (pIv s) ∧ Below w.heap.size w w' := by
  rw [show pIv s = .tuple #[ivV 0 0, .bool false] from by unfold pIv; rw [none_text hsp ha hc (fun h => hf h.2)]]
  have e1 := emp_list hb
  have hsa : a.size ≤ 1048576 := Nat.le_trans (split_sizes s dotB a (by rw [hsp]; simp)) hs
  have hsc : c.size ≤ 1048576 := Nat.le_trans (split_sizes s dotB c (by rw [hsp]; simp)) hs
  have HL : Hid (∀ w' : World, Calls Tryd.prog 34 #[.string a] w' fun e w'' => e = .returned (.tuple #[.int .i64 l, .bool true]) ∧ Below w'.heap.size w' w'') := Lib.hid fun w' => by have := spec_l02Bound a w' hsa; rw [ha] at this; exact this
  have HH : Hid (∀ w' : World, Calls Tryd.prog 34 #[.string c] w' fun e w'' => e = .returned (.tuple #[.int .i64 k, .bool true]) ∧ Below w'.heap.size w' w'') := Lib.hid fun w' => by have := spec_l02Bound c w' hsc; rw [hc] at this; exact this
  have HO : Hid (∀ w : World, Calls Tryd.prog 31 #[ivV l k] w fun e w' => e = .returned (.bool true) ∧ w' = w.alloc (.cells #[.int .i64 l, .int .i64 k] 24)) := Lib.hid fun w => by have := spec_IntervalOk l k w; rw [hk] at this; exact this
  have HF := Lib.hid (spec_FormatInterval l k)
  rw [show fmtIv l k = ivB l k from by unfold fmtIv; rw [if_pos hk]] at HF
  obtain ⟨t, htt⟩ : ∃ t, t = ivB l k := ⟨_, rfl⟩
  rw [← htt] at hf HF
  have e9 : (!t.toList == s.toList) = true := by rw [other_b hf]; rfl
  clear ha hc hk hf htt
  unfold ivV at HO HF
  clear hb
  have HSP := Lib.hid (fun (w' : World) => spec_SplitAny s dotB w' hs (by decide))
  unfold dotB at HSP
  go_enter Tryd.func19, Tryd.ntmps19
  go_wp2_with fail
  refine (HSP.out _).mono ?_
  rintro e w1 ⟨v, rfl, hown, b1⟩
  change w1.ownsRow _ _ _ v (split s dotB).length ((split s dotB).map Value.string) at hown
  obtain ⟨A, cp, rfl, hlen, hrow⟩ := own_form hown
  have hS : Hid (Below w.heap.size w w1) := Lib.hid (by repeat (first | exact Below.refl _ _ | refine below_step (by assumption) (by (try simp) <;> omega) ?_ | refine below_drewN ?_ _ | refine Below.drew ?_ | refine Below.setCell ?_ (by (try simp) <;> omega) _ | refine Below.alloc ?_ (by (try simp) <;> omega) _))
  have bS := hS.out
  obtain ⟨g, o, rfl, hg, hc⟩ := hrow (by rw [hsp]; simp)
  rw [hsp] at hc
  have c0 : w1.cell? ⟨g, o, none⟩ = some (.string a) := hc 0 (by simp)
  have c1 : w1.cell? ⟨g, o + 1, none⟩ = some (.string b) := hc 1 (by simp)
  have c2 : w1.cell? ⟨g, o + 2, none⟩ = some (.string c) := hc 2 (by simp)
  clear hc hown hlen
  rw [show (split s dotB).length = 3 from by rw [hsp]; rfl]
  clear hsp hrow
  have s_w1 : w.heap.size < w1.heap.size := Nat.lt_of_lt_of_le (by (try simp) <;> omega) b1.size
  have k0_w1 : w1.cell? ⟨w.heap.size, 0, none⟩ = some (.int .i64 0) := (b1.cell (p := ⟨w.heap.size, 0, none⟩) (by (try simp) <;> omega)).trans (by go_simp)
  have z0_w1 : w1.frozen? ⟨w.heap.size, 0, none⟩ = false := (b1.frozen (p := ⟨w.heap.size, 0, none⟩) (by (try simp) <;> omega)).trans (by go_simp)
  have k1_w1 : w1.cell? ⟨w.heap.size, 1, none⟩ = some (.int .i64 0) := (b1.cell (p := ⟨w.heap.size, 1, none⟩) (by (try simp) <;> omega)).trans (by go_simp)
  have z1_w1 : w1.frozen? ⟨w.heap.size, 1, none⟩ = false := (b1.frozen (p := ⟨w.heap.size, 1, none⟩) (by (try simp) <;> omega)).trans (by go_simp)
  have g_w1 := hg

  go_wp2_with (first | (go_at_call_of 34 (Value.string a); refine (HL.out _).mono ?_; rintro e wx ⟨rfl, bx⟩; have s_wx : w.heap.size < wx.heap.size := Nat.lt_of_lt_of_le (by (try simp) <;> omega) bx.size; have k0_wx : wx.cell? ⟨w.heap.size, 0, none⟩ = some (.int .i64 0) := (bx.cell (p := ⟨w.heap.size, 0, none⟩) (by (try simp) <;> omega)).trans (by go_simp); have z0_wx : wx.frozen? ⟨w.heap.size, 0, none⟩ = false := (bx.frozen (p := ⟨w.heap.size, 0, none⟩) (by (try simp) <;> omega)).trans (by go_simp); have k1_wx : wx.cell? ⟨w.heap.size, 1, none⟩ = some (.int .i64 0) := (bx.cell (p := ⟨w.heap.size, 1, none⟩) (by (try simp) <;> omega)).trans (by go_simp); have z1_wx : wx.frozen? ⟨w.heap.size, 1, none⟩ = false := (bx.frozen (p := ⟨w.heap.size, 1, none⟩) (by (try simp) <;> omega)).trans (by go_simp); have g_wx : g < wx.heap.size := Nat.lt_of_lt_of_le (by (try simp) <;> omega) bx.size; have gc_wx : wx.cell? ⟨g, o + 2, none⟩ = some (.string c) := (bx.cell (p := ⟨g, o + 2, none⟩) (by (try simp) <;> omega)).trans (by go_simp)) | (go_at_call_of 34 (Value.string c); refine (HH.out _).mono ?_; rintro e wy ⟨rfl, bY⟩; have s_wy : w.heap.size < wy.heap.size := Nat.lt_of_lt_of_le (by (try simp) <;> omega) bY.size; have k0_wy : wy.cell? ⟨w.heap.size, 0, none⟩ = some (.int .i64 0) := (bY.cell (p := ⟨w.heap.size, 0, none⟩) (by (try simp) <;> omega)).trans (by go_simp); have z0_wy : wy.frozen? ⟨w.heap.size, 0, none⟩ = false := (bY.frozen (p := ⟨w.heap.size, 0, none⟩) (by (try simp) <;> omega)).trans (by go_simp); have k1_wy : wy.cell? ⟨w.heap.size, 1, none⟩ = some (.int .i64 0) := (bY.cell (p := ⟨w.heap.size, 1, none⟩) (by (try simp) <;> omega)).trans (by go_simp); have z1_wy : wy.frozen? ⟨w.heap.size, 1, none⟩ = false := (bY.frozen (p := ⟨w.heap.size, 1, none⟩) (by (try simp) <;> omega)).trans (by go_simp)) | (go_at_call 31; refine (HO.out _).mono ?_; rintro e w9 ⟨rfl, rfl⟩) | (go_at_call 17; refine (HF.out _).mono ?_; rintro e wf ⟨rfl, bf⟩; have s_wf : w.heap.size < wf.heap.size := Nat.lt_of_lt_of_le (by (try simp) <;> omega) bf.size; have k0_wf : wf.cell? ⟨w.heap.size, 0, none⟩ = some (.int .i64 0) := (bf.cell (p := ⟨w.heap.size, 0, none⟩) (by (try simp) <;> omega)).trans (by go_simp); have z0_wf : wf.frozen? ⟨w.heap.size, 0, none⟩ = false := (bf.frozen (p := ⟨w.heap.size, 0, none⟩) (by (try simp) <;> omega)).trans (by go_simp); have k1_wf : wf.cell? ⟨w.heap.size, 1, none⟩ = some (.int .i64 0) := (bf.cell (p := ⟨w.heap.size, 1, none⟩) (by (try simp) <;> omega)).trans (by go_simp); have z1_wf : wf.frozen? ⟨w.heap.size, 1, none⟩ = false := (bf.frozen (p := ⟨w.heap.size, 1, none⟩) (by (try simp) <;> omega)).trans (by go_simp); have t_wf : wy.heap.size < wf.heap.size := Nat.lt_of_lt_of_le (by (try simp) <;> omega) bf.size; have i0_wf : wf.cell? ⟨wy.heap.size, 0, none⟩ = some (.int .i64 l) := (bf.cell (p := ⟨wy.heap.size, 0, none⟩) (by (try simp) <;> omega)).trans (by go_simp); have i1_wf : wf.cell? ⟨wy.heap.size, 1, none⟩ = some (.int .i64 k) := (bf.cell (p := ⟨wy.heap.size, 1, none⟩) (by (try simp) <;> omega)).trans (by go_simp)))
  all_goals (go_wp2; refine bodyPost_ret (v := .tuple #[.agg #[.int .i64 0, .int .i64 0], .bool false]) (by first | (simp [results, Tryd.results19, go_sem]; done) | simp [*, results, Tryd.results19, go_sem]) rfl ⟨rfl, (by repeat (first | exact Below.refl _ _ | refine below_step (by assumption) (by (try simp) <;> omega) ?_ | refine below_drewN ?_ _ | refine Below.drew ?_ | refine Below.setCell ?_ (by (try simp) <;> omega) _ | refine Below.alloc ?_ (by (try simp) <;> omega) _))⟩)

set_option maxRecDepth 100000 in
set_option maxHeartbeats 1000000 in
theorem spec_Parse_c5 (s a b c : ByteArray) (l k : Int) (w : World) (hs : s.size ≤ 1048576) (hsp : split s dotB = [a, b, c]) (hb : b = ⟨#[]⟩) (ha : readB a = some l) (hc : readB c = some k) (hk : okI l k = true) (hf : ivB l k = s) :
    Calls Tryd.prog 19 #[.string s] w fun e w' => e = .returned (pIv s) ∧ Below w.heap.size w w' := by
  rw [show pIv s = .tuple #[ivV l k, .bool true] from by unfold pIv; rw [← hf, parseIv_iv hk]]
  have e1 := emp_list hb
  have hsa : a.size ≤ 1048576 := Nat.le_trans (split_sizes s dotB a (by rw [hsp]; simp)) hs
  have hsc : c.size ≤ 1048576 := Nat.le_trans (split_sizes s dotB c (by rw [hsp]; simp)) hs
  have HL : Hid (∀ w' : World, Calls Tryd.prog 34 #[.string a] w' fun e w'' => e = .returned (.tuple #[.int .i64 l, .bool true]) ∧ Below w'.heap.size w' w'') := Lib.hid fun w' => by have := spec_l02Bound a w' hsa; rw [ha] at this; exact this
  have HH : Hid (∀ w' : World, Calls Tryd.prog 34 #[.string c] w' fun e w'' => e = .returned (.tuple #[.int .i64 k, .bool true]) ∧ Below w'.heap.size w' w'') := Lib.hid fun w' => by have := spec_l02Bound c w' hsc; rw [hc] at this; exact this
  have HO : Hid (∀ w : World, Calls Tryd.prog 31 #[ivV l k] w fun e w' => e = .returned (.bool true) ∧ w' = w.alloc (.cells #[.int .i64 l, .int .i64 k] 24)) := Lib.hid fun w => by have := spec_IntervalOk l k w; rw [hk] at this; exact this
  have HF := Lib.hid (spec_FormatInterval l k)
  rw [show fmtIv l k = ivB l k from by unfold fmtIv; rw [if_pos hk]] at HF
  obtain ⟨t, htt⟩ : ∃ t, t = ivB l k := ⟨_, rfl⟩
  rw [← htt] at hf HF
  have e9 : (!t.toList == s.toList) = false := by rw [hf]; simp
  clear ha hc hk hf htt
  unfold ivV at HO HF
  clear hb
  have HSP := Lib.hid (fun (w' : World) => spec_SplitAny s dotB w' hs (by decide))
  unfold dotB at HSP
  go_enter Tryd.func19, Tryd.ntmps19
  go_wp2_with fail
  refine (HSP.out _).mono ?_
  rintro e w1 ⟨v, rfl, hown, b1⟩
  change w1.ownsRow _ _ _ v (split s dotB).length ((split s dotB).map Value.string) at hown
  obtain ⟨A, cp, rfl, hlen, hrow⟩ := own_form hown
  have hS : Hid (Below w.heap.size w w1) := Lib.hid (by repeat (first | exact Below.refl _ _ | refine below_step (by assumption) (by (try simp) <;> omega) ?_ | refine below_drewN ?_ _ | refine Below.drew ?_ | refine Below.setCell ?_ (by (try simp) <;> omega) _ | refine Below.alloc ?_ (by (try simp) <;> omega) _))
  have bS := hS.out
  obtain ⟨g, o, rfl, hg, hc⟩ := hrow (by rw [hsp]; simp)
  rw [hsp] at hc
  have c0 : w1.cell? ⟨g, o, none⟩ = some (.string a) := hc 0 (by simp)
  have c1 : w1.cell? ⟨g, o + 1, none⟩ = some (.string b) := hc 1 (by simp)
  have c2 : w1.cell? ⟨g, o + 2, none⟩ = some (.string c) := hc 2 (by simp)
  clear hc hown hlen
  rw [show (split s dotB).length = 3 from by rw [hsp]; rfl]
  clear hsp hrow
  have s_w1 : w.heap.size < w1.heap.size := Nat.lt_of_lt_of_le (by (try simp) <;> omega) b1.size
  have k0_w1 : w1.cell? ⟨w.heap.size, 0, none⟩ = some (.int .i64 0) := (b1.cell (p := ⟨w.heap.size, 0, none⟩) (by (try simp) <;> omega)).trans (by go_simp)
  have z0_w1 : w1.frozen? ⟨w.heap.size, 0, none⟩ = false := (b1.frozen (p := ⟨w.heap.size, 0, none⟩) (by (try simp) <;> omega)).trans (by go_simp)
  have k1_w1 : w1.cell? ⟨w.heap.size, 1, none⟩ = some (.int .i64 0) := (b1.cell (p := ⟨w.heap.size, 1, none⟩) (by (try simp) <;> omega)).trans (by go_simp)
  have z1_w1 : w1.frozen? ⟨w.heap.size, 1, none⟩ = false := (b1.frozen (p := ⟨w.heap.size, 1, none⟩) (by (try simp) <;> omega)).trans (by go_simp)
  have g_w1 := hg

  go_wp2_with (first | (go_at_call_of 34 (Value.string a); refine (HL.out _).mono ?_; rintro e wx ⟨rfl, bx⟩; have s_wx : w.heap.size < wx.heap.size := Nat.lt_of_lt_of_le (by (try simp) <;> omega) bx.size; have k0_wx : wx.cell? ⟨w.heap.size, 0, none⟩ = some (.int .i64 0) := (bx.cell (p := ⟨w.heap.size, 0, none⟩) (by (try simp) <;> omega)).trans (by go_simp); have z0_wx : wx.frozen? ⟨w.heap.size, 0, none⟩ = false := (bx.frozen (p := ⟨w.heap.size, 0, none⟩) (by (try simp) <;> omega)).trans (by go_simp); have k1_wx : wx.cell? ⟨w.heap.size, 1, none⟩ = some (.int .i64 0) := (bx.cell (p := ⟨w.heap.size, 1, none⟩) (by (try simp) <;> omega)).trans (by go_simp); have z1_wx : wx.frozen? ⟨w.heap.size, 1, none⟩ = false := (bx.frozen (p := ⟨w.heap.size, 1, none⟩) (by (try simp) <;> omega)).trans (by go_simp); have g_wx : g < wx.heap.size := Nat.lt_of_lt_of_le (by (try simp) <;> omega) bx.size; have gc_wx : wx.cell? ⟨g, o + 2, none⟩ = some (.string c) := (bx.cell (p := ⟨g, o + 2, none⟩) (by (try simp) <;> omega)).trans (by go_simp)) | (go_at_call_of 34 (Value.string c); refine (HH.out _).mono ?_; rintro e wy ⟨rfl, bY⟩; have s_wy : w.heap.size < wy.heap.size := Nat.lt_of_lt_of_le (by (try simp) <;> omega) bY.size; have k0_wy : wy.cell? ⟨w.heap.size, 0, none⟩ = some (.int .i64 0) := (bY.cell (p := ⟨w.heap.size, 0, none⟩) (by (try simp) <;> omega)).trans (by go_simp); have z0_wy : wy.frozen? ⟨w.heap.size, 0, none⟩ = false := (bY.frozen (p := ⟨w.heap.size, 0, none⟩) (by (try simp) <;> omega)).trans (by go_simp); have k1_wy : wy.cell? ⟨w.heap.size, 1, none⟩ = some (.int .i64 0) := (bY.cell (p := ⟨w.heap.size, 1, none⟩) (by (try simp) <;> omega)).trans (by go_simp); have z1_wy : wy.frozen? ⟨w.heap.size, 1, none⟩ = false := (bY.frozen (p := ⟨w.heap.size, 1, none⟩) (by (try simp) <;> omega)).trans (by go_simp)) | (go_at_call 31; refine (HO.out _).mono ?_; rintro e w9 ⟨rfl, rfl⟩) | (go_at_call 17; refine (HF.out _).mono ?_; rintro e wf ⟨rfl, bf⟩; have s_wf : w.heap.size < wf.heap.size := Nat.lt_of_lt_of_le (by (try simp) <;> omega) bf.size; have k0_wf : wf.cell? ⟨w.heap.size, 0, none⟩ = some (.int .i64 0) := (bf.cell (p := ⟨w.heap.size, 0, none⟩) (by (try simp) <;> omega)).trans (by go_simp); have z0_wf : wf.frozen? ⟨w.heap.size, 0, none⟩ = false := (bf.frozen (p := ⟨w.heap.size, 0, none⟩) (by (try simp) <;> omega)).trans (by go_simp); have k1_wf : wf.cell? ⟨w.heap.size, 1, none⟩ = some (.int .i64 0) := (bf.cell (p := ⟨w.heap.size, 1, none⟩) (by (try simp) <;> omega)).trans (by go_simp); have z1_wf : wf.frozen? ⟨w.heap.size, 1, none⟩ = false := (bf.frozen (p := ⟨w.heap.size, 1, none⟩) (by (try simp) <;> omega)).trans (by go_simp); have t_wf : wy.heap.size < wf.heap.size := Nat.lt_of_lt_of_le (by (try simp) <;> omega) bf.size; have i0_wf : wf.cell? ⟨wy.heap.size, 0, none⟩ = some (.int .i64 l) := (bf.cell (p := ⟨wy.heap.size, 0, none⟩) (by (try simp) <;> omega)).trans (by go_simp); have i1_wf : wf.cell? ⟨wy.heap.size, 1, none⟩ = some (.int .i64 k) := (bf.cell (p := ⟨wy.heap.size, 1, none⟩) (by (try simp) <;> omega)).trans (by go_simp)))
  all_goals (go_wp2; refine bodyPost_ret (v := .tuple #[.agg #[.int .i64 l, .int .i64 k], .bool true]) (by first | (simp [results, Tryd.results19, go_sem]; done) | simp [*, results, Tryd.results19, go_sem]) rfl ⟨rfl, (by repeat (first | exact Below.refl _ _ | refine below_step (by assumption) (by (try simp) <;> omega) ?_ | refine below_drewN ?_ _ | refine Below.drew ?_ | refine Below.setCell ?_ (by (try simp) <;> omega) _ | refine Below.alloc ?_ (by (try simp) <;> omega) _))⟩)

theorem three {α : Type} {l : List α} (h : l.length = 3) : ∃ a b c, l = [a, b, c] := by
  match l, h with
  | [a, b, c], _ => exact ⟨a, b, c, rfl⟩

theorem spec_ParseInterval (s : ByteArray) (w : World) (hs : s.size ≤ 1048576) :
    Calls Tryd.prog 19 #[.string s] w fun e w' => e = .returned (pIv s) ∧ Below w.heap.size w w' := by
  by_cases hl : (split s dotB).length = 3
  · obtain ⟨a, b, c, hsp⟩ := three hl
    by_cases hb : b = ⟨#[]⟩
    · cases ha : readB a with
      | none => exact spec_Parse_c1 s a b c 0 0 w hs hsp hb ha
      | some l =>
        cases hc : readB c with
        | none => exact spec_Parse_c2 s a b c l 0 w hs hsp hb ha hc
        | some k =>
          cases hk : okI l k with
          | false => exact spec_Parse_c3 s a b c l k w hs hsp hb ha hc hk
          | true =>
            by_cases hf : ivB l k = s
            · exact spec_Parse_c5 s a b c l k w hs hsp hb ha hc hk hf
            · exact spec_Parse_c4 s a b c l k w hs hsp hb ha hc hk hf
    · exact spec_Parse_mid s a b c w hs hsp hb
  · exact spec_Parse_len s w hs hl
theorem pIv_form (s : ByteArray) : ∃ l k b, pIv s = .tuple #[ivV l k, .bool b] := by
  unfold pIv
  cases parseIv s with
  | none => exact ⟨0, 0, false, rfl⟩
  | some v => exact ⟨v.1, v.2, true, rfl⟩

end Go.Proofs.YtfeechnlliaocaaDoor
