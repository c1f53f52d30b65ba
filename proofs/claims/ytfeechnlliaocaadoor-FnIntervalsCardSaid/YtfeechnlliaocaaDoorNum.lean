/-
  WALK of spec.FormatInt: the numeral that strconv.Itoa gives.
-/
import Derived.Test.YtfeechnlliaocaaDoorProg
import Derived.Test.YtfeechnlliaocaaDoorDig
import Derived.Test.YtfeechnlliaocaaDoorMark
import Derived.Lib.ItoaNum
import Derived.Lib.ItoaMem
import Derived.Lib.ItoaLen
namespace Go.Proofs.YtfeechnlliaocaaDoor
open Go.RowKit
set_option linter.unusedVariables false
set_option linter.unusedSimpArgs false

/-- The numeral of n, as a string. -/
def numB (n : Int) : ByteArray := ⟨(Lib.itoa n).toArray⟩
def decB (u : Nat) : ByteArray := ⟨(Lib.decDigits u).toArray⟩
theorem numB_pos (u : Nat) : numB u = decB u := by unfold numB decB; rw [Lib.itoa_nonneg]
theorem numB_neg (u : Nat) (h : 1 ≤ u) : numB (-(u : Int)) = ⟨#[45]⟩ ++ decB u := by
  apply ByteArray.ext; apply Array.toList_inj.1
  unfold numB decB; rw [Lib.itoa_neg u h]; simp
theorem decB_small (u : Nat) (h : u < 10) : decB u = byteB (48 + u) := by
  unfold decB byteB; rw [Lib.decDigits_one h]
theorem decB_big (u : Nat) (h : 10 ≤ u) : decB u = decB (u / 10) ++ byteB (48 + u % 10) := by
  apply ByteArray.ext; apply Array.toList_inj.1
  unfold decB byteB; rw [Lib.decDigits, dif_neg (by omega)]; simp
theorem decB_size (u : Nat) (h : u ≤ 9223372036854775807) : (decB u).size ≤ 21 := by
  have h1 := Lib.itoa_length_le u (by omega) (by omega)
  rw [Lib.itoa_nonneg] at h1
  show (Lib.decDigits u).toArray.size ≤ 21
  simpa using h1

set_option maxRecDepth 100000 in
set_option maxHeartbeats 400000 in
theorem spec_FormatInt_pos (u : Nat) (w : World) (hu : u ≤ 9223372036854775807) :
    Calls Tryd.prog 44 #[.int .i64 u] w fun e w' => e = .returned (.string (decB u)) ∧ Below w.heap.size w w' := by
  have hs := decB_size u hu
  go_enter Tryd.func44, Tryd.ntmps44
  go_wp2
  go_loopw [0, 3] (fun i o wr => ∃ (m : Nat) (x : ByteArray), i = .int .i64 m ∧ o = .string x ∧ m ≤ u ∧ Hid (decB m ++ x = decB u) ∧ x.size ≤ 21 ∧ Below w.heap.size w wr) (fun i _ _ => (intOf i).toNat)
  case atStart => exact ⟨u, ⟨#[]⟩, rfl, rfl, Nat.le_refl _, Lib.hid (by apply ByteArray.ext; simp), by decide, Below.refl _ _⟩
  case round =>
    obtain ⟨m, x, rfl, rfl, hm, HM, hx, hbw⟩ := hrel
    by_cases hn : 9 < m
    · have hcv := conv_one wr (48 + m % 10) (by omega)
      have ec : ((48 + m % 10 : Nat) : Int) = 48 + (m : Int) % 10 := by omega
      rw [ec] at hcv
      clear ec
      have hbs : (byteB (48 + m % 10)).size ≤ 1 := Nat.le_refl _
      have ed : ((m : Int) / 10) = ((m / 10 : Nat) : Int) := by omega
      have HD := Lib.hid ed
      clear ed
      have hstep : Hid (decB (m / 10) ++ (byteB (48 + m % 10) ++ x) = decB u) := Lib.hid (by rw [← HM.out, decB_big m (by omega), ByteArray.append_assoc])
      have hxs : (byteB (48 + m % 10) ++ x).size ≤ 21 := by
        have h1 : (decB (m / 10) ++ (byteB (48 + m % 10) ++ x)).size = (decB (m / 10)).size + (byteB (48 + m % 10) ++ x).size := ByteArray.size_append
        rw [hstep.out] at h1
        omega
      go_wp2
      go_roundw
      case rel => exact ⟨m / 10, byteB (48 + m % 10) ++ x, by rw [HD.out], rfl, by omega, hstep, hxs, hbw.alloc hbw.size _⟩
      case measure => simp [intOf]; omega
    · have hcv := conv_one wr (48 + m) (by omega)
      have ec : ((48 + m : Nat) : Int) = 48 + (m : Int) := by omega
      rw [ec] at hcv
      clear ec
      have hbs : (byteB (48 + m)).size ≤ 1 := Nat.le_refl _
      have hend : Hid (byteB (48 + m) ++ x = decB u) := Lib.hid (by rw [← HM.out, decB_small m (by omega)])
      go_wp2
      go_ret
      exact ⟨by rw [← hend.out]; rfl, hbw.alloc hbw.size _⟩

theorem cell_after {W w1 : World} (hb : Below W.heap.size W w1) {g : Nat} {x : Value} (h : W.cell? ⟨g, 0, none⟩ = some x) : w1.cell? ⟨g, 0, none⟩ = some x := by
  refine (hb.cell (p := ⟨g, 0, none⟩) ?_).trans h
  rcases Nat.lt_or_ge g W.heap.size with hlt | hge
  · exact hlt
  · have : W.heap[g]? = none := Array.getElem?_eq_none hge
    simp [World.cell?, this] at h
theorem below_call_alloc {w w1 : World} (hb : Below w.drew.heap.size w.drew w1) (o : Obj) : Below w.heap.size w (w1.alloc o) :=
  Below.alloc (show Below w.heap.size w w1 from ⟨hb.os, hb.tape, hb.output, hb.size, hb.block⟩) hb.size o
theorem below_alloc_call {w w1 : World} {o : Obj} (hb : Below (w.alloc o).drew.heap.size (w.alloc o).drew w1) : Below w.heap.size w w1 :=
  (((Below.refl w.heap.size w).alloc (Nat.le_refl _) o).drew).trans (hb.mono (by show w.heap.size ≤ (w.alloc o).heap.size; simp))
theorem cell_new (w : World) (x : Value) (t : TypeId) : (w.alloc (.cells #[x] t)).cell? ⟨w.heap.size, 0, none⟩ = some x := cell_one_new w x t 0 x rfl
theorem not_big (y b : ByteArray) (hy : y.size ≤ 22) (hb : b.size ≤ 1) : ¬ 9223372036854775807 < y.size + b.size := by omega

set_option maxRecDepth 100000 in
set_option maxHeartbeats 1000000 in
theorem spec_FormatInt_neg : ∀ (u : Nat) (w : World), 1 ≤ u → u ≤ 9223372036854775808 →
    Calls Tryd.prog 44 #[.int .i64 (-(u : Int))] w fun e w' => e = .returned (.string (⟨#[45]⟩ ++ decB u)) ∧ Below w.heap.size w w' := by
  intro u
  induction u using Nat.strongRecOn with
  | _ u ih =>
    intro w h1 h2
    by_cases hb : u < 10
    · have hcv := conv_one w (48 + u) (by omega)
      have ec : ((48 + u : Nat) : Int) = 48 + (u : Int) := by omega
      rw [ec] at hcv
      clear ec
      have HE := Lib.hid (decB_small u hb)
      have hq : ((-(u : Int)).tdiv 10 == 0) = true := by
        rw [Int.neg_tdiv, Int.tdiv_eq_ediv_of_nonneg (by omega)]
        simp; omega
      go_enter Tryd.func44, Tryd.ntmps44
      go_wp2
      go_ret
      exact ⟨by rw [HE.out]; rfl, (Below.refl _ _).alloc (Nat.le_refl _) _⟩
    · obtain ⟨b, hb0⟩ : ∃ b, b = byteB (48 + u % 10) := ⟨_, rfl⟩
      have HB := Lib.hid hb0
      have hbs : b.size ≤ 1 := by rw [hb0]; exact Nat.le_refl _
      have hct : ∀ W, Calls Tryd.prog 44 #[.int .i64 (-((u : Int) / 10))] W fun e w' => ∃ y : ByteArray, e = .returned (.string y) ∧ y.size ≤ 22 ∧ Hid (y = ⟨#[45]⟩ ++ decB (u / 10)) ∧ Below W.heap.size W w' := by
        intro W
        have := ih (u / 10) (by omega) W (by omega) (by omega)
        rw [show ((u / 10 : Nat) : Int) = (u : Int) / 10 from by omega] at this
        refine this.mono fun e w' ⟨he, hb⟩ => ⟨_, he, ?_, Lib.hid rfl, hb⟩
        have h3 : ((⟨#[45]⟩ : ByteArray) ++ decB (u / 10)).size = 1 + (decB (u / 10)).size := ByteArray.size_append
        have := decB_size (u / 10) (by omega)
        omega
      have HC := Lib.hid hct
      have hcv : ∀ W : World, (convert 22 9 (.slice (some ⟨W.heap.size, 0, none⟩) 1 1)).run Tryd.prog (W.alloc (.cells #[.int .u8 (48 + (u : Int) % 10)] 5)) = .ok (.string b) (W.alloc (.cells #[.int .u8 (48 + (u : Int) % 10)] 5)) := by
        intro W
        have := conv_one W (48 + u % 10) (by omega)
        rw [show ((48 + u % 10 : Nat) : Int) = 48 + (u : Int) % 10 from by omega, ← hb0] at this
        exact this
      have hca := conv_at (48 + u % 10) (by omega)
      rw [show ((48 + u % 10 : Nat) : Int) = 48 + (u : Int) % 10 from by omega, ← hb0] at hca
      have HA := Lib.hid hca
      have hcvd := fun W : World => hca (W.alloc (.cells #[.int .u8 (48 + (u : Int) % 10)] 5)).drew W.heap.size (cell_new W (.int .u8 (48 + (u : Int) % 10)) 5)
      have hq : ((-(u : Int)) / 10 == 0) = false := by simp; omega
      have hq2 : (-((u : Int) / 10) == 0) = false := by simp; omega
      have HE := Lib.hid (decB_big u (by omega))
      have hw1 : IntKind.i64.wrap (-((u : Int) / 10)) = -((u : Int) / 10) := IntWalk.i64_in _ (by omega)
      have hw2 : ((u : Int)).tmod 10 = (u : Int) % 10 := Int.tmod_eq_emod_of_nonneg (by omega)
      have hw3 : IntKind.i64.wrap (48 + (u : Int) % 10) = 48 + (u : Int) % 10 := IntWalk.i64_in _ (by omega)
      have hw4 : IntKind.u8.wrap (48 + (u : Int) % 10) = 48 + (u : Int) % 10 := IntWalk.u8_in _ (by omega)
      clear hct hca ih hb0
      go_enter Tryd.func44, Tryd.ntmps44
      go_wp2
      go_region_with (first | (go_at_call 44; refine (HC.out _).mono ?_; rintro e w1 ⟨y, rfl, hy, HY, hb1⟩; have hcv2 := HA.out w1 w.heap.size (cell_after hb1 (cell_new w (.int .u8 (48 + (u : Int) % 10)) 5)); have hcat := not_big y b hy hbs) | (go_at_call 44; refine (HC.out _).mono ?_; rintro e w1 ⟨y, rfl, hy, HY, hb1⟩; have hcat := not_big y b hy hbs))
      all_goals
        go_wp2
        go_ret
        have hfin : (⟨#[45]⟩ : ByteArray) ++ decB u = y ++ b := by rw [HE.out, HY.out, HB.out, ByteArray.append_assoc]
        refine ⟨by rw [hfin]; rfl, ?_⟩
        first | exact below_call_alloc hb1 _ | exact below_alloc_call hb1

end Go.Proofs.YtfeechnlliaocaaDoor
