/-
  WALK of spec.FormatInt: the numeral that strconv.Itoa gives.
  strconv.Itoa AND strconv.Atoi AT THIS TRANSLATION: the shelf's theorems, laid by their structures.
  WALK of impl.FormatInt, and what the listed table gives.
  WALKS of spec.SplitAny and impl.SplitAny: both hand back the same parts, in a row of their own.
  WALKS of spec.Join and of the laws' helpers toStringS, szStringS.
  WALK of spec.FormatLabel.
-/
import Derived.Test.YtgajodcgedhikaaGreatDoorProg
import Derived.Test.YtgajodcgedhikaaGreatDoorBdDig
import Derived.Lib.ItoaNum
import Derived.Lib.ItoaMem
import Derived.Lib.ItoaLen
import Derived.Shelf.Strconv.Itoa3
import Derived.Shelf.Strconv.AtoiAll
import Derived.Shelf.Strconv.ErrVarAll
import Derived.Test.YtgajodcgedhikaaGreatDoorFrame
import Derived.Lib.LaidTab
import Derived.Stop.LaidErr
import Derived.RowKit
import Derived.WalkKit
import Derived.WalkSpells
import Derived.WalkLawsBesides
import Derived.Deep.QuietTactic
import Derived.BigQuiet
import Derived.Lib.Hide
import Derived.Laws.Rows
import Derived.Deep.Onto
import Derived.Test.YtgajodcgedhikaaGreatDoorBdShB
import Derived.Deep.AppendLies
import Derived.Deep.CutRange
namespace Go.Proofs.YtgajodcgedhikaaGreatDoor
open Go.RowKit
set_option linter.unusedVariables false
set_option linter.unusedSimpArgs false

/-- The numeral of n, as a string. -/
def numB (n : Int) : ByteArray := ⟨(Lib.itoa n).toArray⟩
def decB (u : Nat) : ByteArray := ⟨(Lib.decDigits u).toArray⟩
theorem numB_pos (u : Nat) : numB u = decB u := by unfold numB decB; rw [Lib.itoa_nonneg]
theorem numB_neg (u : Nat) (h : 1 ≤ u) : numB (-(u : Int)) = ⟨#[45]⟩ ++ decB u := by
  apply ByteArray.ext; apply Array.toList_inj.1
  unfold numB decB; rw [Lib.itoa_neg u h]; simp
theorem decB_small (u : Nat) (h : u < 10) : decB u = byteB (48 + u) := by
  unfold decB byteB; rw [Lib.decDigits_one h]
theorem decB_big (u : Nat) (h : 10 ≤ u) : decB u = decB (u / 10) ++ byteB (48 + u % 10) := by
  apply ByteArray.ext; apply Array.toList_inj.1
  unfold decB byteB; rw [Lib.decDigits, dif_neg (by omega)]; simp
theorem decB_size (u : Nat) (h : u ≤ 9223372036854775807) : (decB u).size ≤ 21 := by
  have h1 := Lib.itoa_length_le u (by omega) (by omega)
  rw [Lib.itoa_nonneg] at h1
  show (Lib.decDigits u).toArray.size ≤ 21
  simpa using h1

set_option maxRecDepth 100000 in
set_option maxHeartbeats 400000 in
theorem spec_FormatInt_pos (u : Nat) (w : World) (hu : u ≤ 9223372036854775807) :
    Calls Tryz.prog 27 #[.int .i64 u] w fun e w' => e = .returned (.string (decB u)) ∧ Below w.heap.size w w' := by
  have hs := decB_size u hu
  go_enter Tryz.func27, Tryz.ntmps27
  go_wp2
  go_loopw [0, 3] (fun i o wr => ∃ (m : Nat) (x : ByteArray), i = .int .i64 m ∧ o = .string x ∧ m ≤ u ∧ Hid (decB m ++ x = decB u) ∧ x.size ≤ 21 ∧ Below w.heap.size w wr) (fun i _ _ => (intOf i).toNat)
  case atStart => exact ⟨u, ⟨#[]⟩, rfl, rfl, Nat.le_refl _, Lib.hid (by apply ByteArray.ext; simp), by decide, Below.refl _ _⟩
  case round =>
    obtain ⟨m, x, rfl, rfl, hm, HM, hx, hbw⟩ := hrel
    by_cases hn : 9 < m
    · have hcv := conv_one wr (48 + m % 10) (by omega)
      have ec : ((48 + m % 10 : Nat) : Int) = 48 + (m : Int) % 10 := by omega
      rw [ec] at hcv
      clear ec
      have hbs : (byteB (48 + m % 10)).size ≤ 1 := Nat.le_refl _
      have ed : ((m : Int) / 10) = ((m / 10 : Nat) : Int) := by omega
      have HD := Lib.hid ed
      clear ed
      have hstep : Hid (decB (m / 10) ++ (byteB (48 + m % 10) ++ x) = decB u) := Lib.hid (by rw [← HM.out, decB_big m (by omega), ByteArray.append_assoc])
      have hxs : (byteB (48 + m % 10) ++ x).size ≤ 21 := by
        have h1 : (decB (m / 10) ++ (byteB (48 + m % 10) ++ x)).size = (decB (m / 10)).size + (byteB (48 + m % 10) ++ x).size := ByteArray.size_append
        rw [hstep.out] at h1
        omega
      go_wp2
      go_roundw
      case rel => exact ⟨m / 10, byteB (48 + m % 10) ++ x, by rw [HD.out], rfl, by omega, hstep, hxs, hbw.alloc hbw.size _⟩
      case measure => simp [intOf]; omega
    · have hcv := conv_one wr (48 + m) (by omega)
      have ec : ((48 + m : Nat) : Int) = 48 + (m : Int) := by omega
      rw [ec] at hcv
      clear ec
      have hbs : (byteB (48 + m)).size ≤ 1 := Nat.le_refl _
      have hend : Hid (byteB (48 + m) ++ x = decB u) := Lib.hid (by rw [← HM.out, decB_small m (by omega)])
      go_wp2
      go_ret
      exact ⟨by rw [← hend.out]; rfl, hbw.alloc hbw.size _⟩

theorem cell_after {W w1 : World} (hb : Below W.heap.size W w1) {g : Nat} {x : Value} (h : W.cell? ⟨g, 0, none⟩ = some x) : w1.cell? ⟨g, 0, none⟩ = some x := by
  refine (hb.cell (p := ⟨g, 0, none⟩) ?_).trans h
  rcases Nat.lt_or_ge g W.heap.size with hlt | hge
  · exact hlt
  · have : W.heap[g]? = none := Array.getElem?_eq_none hge
    simp [World.cell?, this] at h
theorem below_call_alloc {w w1 : World} (hb : Below w.drew.heap.size w.drew w1) (o : Obj) : Below w.heap.size w (w1.alloc o) :=
  Below.alloc (show Below w.heap.size w w1 from ⟨hb.os, hb.tape, hb.output, hb.size, hb.block⟩) hb.size o
theorem below_alloc_call {w w1 : World} {o : Obj} (hb : Below (w.alloc o).drew.heap.size (w.alloc o).drew w1) : Below w.heap.size w w1 :=
  (((Below.refl w.heap.size w).alloc (Nat.le_refl _) o).drew).trans (hb.mono (by show w.heap.size ≤ (w.alloc o).heap.size; simp))
theorem cell_new (w : World) (x : Value) (t : TypeId) : (w.alloc (.cells #[x] t)).cell? ⟨w.heap.size, 0, none⟩ = some x := cell_one_new w x t 0 x rfl
theorem not_big (y b : ByteArray) (hy : y.size ≤ 22) (hb : b.size ≤ 1) : ¬ 9223372036854775807 < y.size + b.size := by omega

set_option maxRecDepth 100000 in
set_option maxHeartbeats 1000000 in
theorem spec_FormatInt_neg : ∀ (u : Nat) (w : World), 1 ≤ u → u ≤ 9223372036854775808 →
    Calls Tryz.prog 27 #[.int .i64 (-(u : Int))] w fun e w' => e = .returned (.string (⟨#[45]⟩ ++ decB u)) ∧ Below w.heap.size w w' := by
  intro u
  induction u using Nat.strongRecOn with
  | _ u ih =>
    intro w h1 h2
    by_cases hb : u < 10
    · have hcv := conv_one w (48 + u) (by omega)
      have ec : ((48 + u : Nat) : Int) = 48 + (u : Int) := by omega
      rw [ec] at hcv
      clear ec
      have HE := Lib.hid (decB_small u hb)
      have hq : ((-(u : Int)).tdiv 10 == 0) = true := by
        rw [Int.neg_tdiv, Int.tdiv_eq_ediv_of_nonneg (by omega)]
        simp; omega
      go_enter Tryz.func27, Tryz.ntmps27
      go_wp2
      go_ret
      exact ⟨by rw [HE.out]; rfl, (Below.refl _ _).alloc (Nat.le_refl _) _⟩
    · obtain ⟨b, hb0⟩ : ∃ b, b = byteB (48 + u % 10) := ⟨_, rfl⟩
      have HB := Lib.hid hb0
      have hbs : b.size ≤ 1 := by rw [hb0]; exact Nat.le_refl _
      have hct : ∀ W, Calls Tryz.prog 27 #[.int .i64 (-((u : Int) / 10))] W fun e w' => ∃ y : ByteArray, e = .returned (.string y) ∧ y.size ≤ 22 ∧ Hid (y = ⟨#[45]⟩ ++ decB (u / 10)) ∧ Below W.heap.size W w' := by
        intro W
        have := ih (u / 10) (by omega) W (by omega) (by omega)
        rw [show ((u / 10 : Nat) : Int) = (u : Int) / 10 from by omega] at this
        refine this.mono fun e w' ⟨he, hb⟩ => ⟨_, he, ?_, Lib.hid rfl, hb⟩
        have h3 : ((⟨#[45]⟩ : ByteArray) ++ decB (u / 10)).size = 1 + (decB (u / 10)).size := ByteArray.size_append
        have := decB_size (u / 10) (by omega)
        omega
      have HC := Lib.hid hct
      have hcv : ∀ W : World, (convert 76 9 (.slice (some ⟨W.heap.size, 0, none⟩) 1 1)).run Tryz.prog (W.alloc (.cells #[.int .u8 (48 + (u : Int) % 10)] 5)) = .ok (.string b) (W.alloc (.cells #[.int .u8 (48 + (u : Int) % 10)] 5)) := by
        intro W
        have := conv_one W (48 + u % 10) (by omega)
        rw [show ((48 + u % 10 : Nat) : Int) = 48 + (u : Int) % 10 from by omega, ← hb0] at this
        exact this
      have hca := conv_at (48 + u % 10) (by omega)
      rw [show ((48 + u % 10 : Nat) : Int) = 48 + (u : Int) % 10 from by omega, ← hb0] at hca
      have HA := Lib.hid hca
      have hcvd := fun W : World => hca (W.alloc (.cells #[.int .u8 (48 + (u : Int) % 10)] 5)).drew W.heap.size (cell_new W (.int .u8 (48 + (u : Int) % 10)) 5)
      have hq : ((-(u : Int)) / 10 == 0) = false := by simp; omega
      have hq2 : (-((u : Int) / 10) == 0) = false := by simp; omega
      have HE := Lib.hid (decB_big u (by omega))
      have hw1 : IntKind.i64.wrap (-((u : Int) / 10)) = -((u : Int) / 10) := IntWalk.i64_in _ (by omega)
      have hw2 : ((u : Int)).tmod 10 = (u : Int) % 10 := Int.tmod_eq_emod_of_nonneg (by omega)
      have hw3 : IntKind.i64.wrap (48 + (u : Int) % 10) = 48 + (u : Int) % 10 := IntWalk.i64_in _ (by omega)
      have hw4 : IntKind.u8.wrap (48 + (u : Int) % 10) = 48 + (u : Int) % 10 := IntWalk.u8_in _ (by omega)
      clear hct hca ih hb0
      go_enter Tryz.func27, Tryz.ntmps27
      go_wp2
      go_region_with (first | (go_at_call 27; refine (HC.out _).mono ?_; rintro e w1 ⟨y, rfl, hy, HY, hb1⟩; have hcv2 := HA.out w1 w.heap.size (cell_after hb1 (cell_new w (.int .u8 (48 + (u : Int) % 10)) 5)); have hcat := not_big y b hy hbs) | (go_at_call 27; refine (HC.out _).mono ?_; rintro e w1 ⟨y, rfl, hy, HY, hb1⟩; have hcat := not_big y b hy hbs))
      all_goals
        go_wp2
        go_ret
        have hfin : (⟨#[45]⟩ : ByteArray) ++ decB u = y ++ b := by rw [HE.out, HY.out, HB.out, ByteArray.append_assoc]
        refine ⟨by rw [hfin]; rfl, ?_⟩
        first | exact below_call_alloc hb1 _ | exact below_alloc_call hb1

end Go.Proofs.YtgajodcgedhikaaGreatDoor

namespace Go.Proofs.YtgajodcgedhikaaGreatDoor
open Go.Shelf

def laysM171_ren : Go.Shelf.Ren := ⟨fun | 171 => 70 | 243 => 87 | 246 => 100 | 283 => 105 | 284 => 106 | 285 => 107 | 286 => 108 | 129 => 117 | 317 => 116 | 318 => 118 | 319 => 119 | 320 => 120 | 337 => 125 | 338 => 126 | n => n, fun | 3 => 3 | 9 => 9 | 2 => 2 | 4 => 4 | 171 => 116 | 0 => 0 | 53 => 117 | 37 => 76 | 5 => 5 | 173 => 120 | 212 => 129 | 51 => 130 | 20 => 20 | 213 => 131 | 46 => 132 | 232 => 146 | 233 => 147 | n => n, fun | 17 => 0 | 18 => 3 | 19 => 4 | n => n⟩
theorem laysM171 : Go.Proofs.LaysM.n171 Tryz.prog laysM171_ren := {
  mixed := by kernel_rfl
  f129 := Tryz.func117.trans (congrArg some (by kernel_rfl))
  f171 := Tryz.func70.trans (congrArg some (by kernel_rfl))
  f243 := Tryz.func87.trans (congrArg some (by kernel_rfl))
  f246 := Tryz.func100.trans (congrArg some (by kernel_rfl))
  f283 := Tryz.func105.trans (congrArg some (by kernel_rfl))
  f284 := Tryz.func106.trans (congrArg some (by kernel_rfl))
  f285 := Tryz.func107.trans (congrArg some (by kernel_rfl))
  f286 := Tryz.func108.trans (congrArg some (by kernel_rfl))
  f317 := Tryz.func116.trans (congrArg some (by kernel_rfl))
  f318 := Tryz.func118.trans (congrArg some (by kernel_rfl))
  f319 := Tryz.func119.trans (congrArg some (by kernel_rfl))
  f320 := Tryz.func120.trans (congrArg some (by kernel_rfl))
  f337 := Tryz.func125.trans (congrArg some (by kernel_rfl))
  f338 := Tryz.func126.trans (congrArg some (by kernel_rfl))
  t0 := Tryz.underlying0
  a0 := Tryz.isAgg0
  z0 := Tryz.sizeOf0
  v0 := Tryz.zeroValue0
  t2 := Tryz.underlying2
  a2 := Tryz.isAgg2
  z2 := Tryz.sizeOf2
  v2 := Tryz.zeroValue2
  t3 := Tryz.underlying3
  a3 := Tryz.isAgg3
  z3 := Tryz.sizeOf3
  v3 := Tryz.zeroValue3
  t4 := Tryz.underlying4
  a4 := Tryz.isAgg4
  z4 := Tryz.sizeOf4
  v4 := Tryz.zeroValue4
  t5 := Tryz.underlying5
  a5 := Tryz.isAgg5
  z5 := Tryz.sizeOf5
  v5 := Tryz.zeroValue5
  t9 := Tryz.underlying9
  a9 := Tryz.isAgg9
  z9 := Tryz.sizeOf9
  v9 := Tryz.zeroValue9
  t20 := Tryz.underlying20
  a20 := Tryz.isAgg20
  z20 := Tryz.sizeOf20
  v20 := Tryz.zeroValue20
  t37 := Tryz.underlying76
  a37 := Tryz.isAgg76
  z37 := Tryz.sizeOf76
  v37 := Tryz.zeroValue76
  t46 := Tryz.underlying132
  a46 := Tryz.isAgg132
  z46 := Tryz.sizeOf132
  v46 := Tryz.zeroValue132
  t51 := Tryz.underlying130
  a51 := Tryz.isAgg130
  z51 := Tryz.sizeOf130
  v51 := Tryz.zeroValue130
  t53 := Tryz.underlying117
  a53 := Tryz.isAgg117
  z53 := Tryz.sizeOf117
  v53 := Tryz.zeroValue117
  t171 := Tryz.underlying116
  a171 := Tryz.isAgg116
  z171 := Tryz.sizeOf116
  v171 := Tryz.zeroValue116
  t173 := Tryz.underlying120
  a173 := Tryz.isAgg120
  z173 := Tryz.sizeOf120
  v173 := Tryz.zeroValue120
  t212 := Tryz.underlying129
  a212 := Tryz.isAgg129
  z212 := Tryz.sizeOf129
  v212 := Tryz.zeroValue129
  t213 := Tryz.underlying131
  a213 := Tryz.isAgg131
  z213 := Tryz.sizeOf131
  t232 := Tryz.underlying146
  a232 := Tryz.isAgg146
  z232 := Tryz.sizeOf146
  v232 := Tryz.zeroValue146
  t233 := Tryz.underlying147
  a233 := Tryz.isAgg147
  z233 := Tryz.sizeOf147
  v233 := Tryz.zeroValue147
  g17 := by kernel_rfl
  g18 := by kernel_rfl
  g19 := by kernel_rfl
  i0 := by kernel_rfl
  i2 := by kernel_rfl
  i3 := by kernel_rfl
  i4 := by kernel_rfl
  i5 := by kernel_rfl
  i9 := by kernel_rfl
  i20 := by kernel_rfl
  i37 := by kernel_rfl
  i46 := by kernel_rfl
  i51 := by kernel_rfl
  i53 := by kernel_rfl
  i171 := by kernel_rfl
  i173 := by kernel_rfl
  i212 := by kernel_rfl
  i232 := by kernel_rfl
  i233 := by kernel_rfl
  m17 := by kernel_rfl
  m18 := by kernel_rfl
  m19 := by kernel_rfl }

def laysC172_ren : Go.Shelf.Ren := ⟨fun | 172 => 89 | 244 => 101 | 245 => 102 | 247 => 109 | 279 => 110 | 280 => 111 | 281 => 112 | 282 => 113 | 287 => 121 | 316 => 122 | 171 => 70 | 205 => 123 | 321 => 127 | 322 => 128 | 243 => 87 | 246 => 100 | 283 => 105 | 284 => 106 | 285 => 107 | 286 => 108 | 129 => 117 | 317 => 116 | 318 => 118 | 319 => 119 | 320 => 120 | 337 => 125 | 338 => 126 | n => n, fun | 9 => 9 | 3 => 3 | 75 => 94 | 76 => 95 | 4 => 4 | 5 => 5 | 167 => 122 | 37 => 76 | 0 => 0 | 85 => 123 | 2 => 2 | 168 => 125 | 53 => 117 | 175 => 134 | 46 => 132 | 210 => 138 | 127 => 103 | 145 => 145 | 143 => 143 | 21 => 21 | 171 => 116 | 173 => 120 | 212 => 129 | 51 => 130 | 20 => 20 | 213 => 131 | 232 => 146 | 233 => 147 | 80 => 70 | n => n, fun | 15 => 1 | 16 => 2 | 17 => 0 | 18 => 3 | 19 => 4 | n => n⟩
theorem laysC172 : Go.Proofs.LaysC.n172 Tryz.prog laysC172_ren := {
  mixed := by kernel_rfl
  f129 := Tryz.func117.trans (congrArg some (by kernel_rfl))
  f171 := Tryz.func70.trans (congrArg some (by kernel_rfl))
  f172 := Tryz.func89.trans (congrArg some (by kernel_rfl))
  f205 := Tryz.func123.trans (congrArg some (by kernel_rfl))
  f243 := Tryz.func87.trans (congrArg some (by kernel_rfl))
  f244 := Tryz.func101.trans (congrArg some (by kernel_rfl))
  f245 := Tryz.func102.trans (congrArg some (by kernel_rfl))
  f246 := Tryz.func100.trans (congrArg some (by kernel_rfl))
  f247 := Tryz.func109.trans (congrArg some (by kernel_rfl))
  f279 := Tryz.func110.trans (congrArg some (by kernel_rfl))
  f280 := Tryz.func111.trans (congrArg some (by kernel_rfl))
  f281 := Tryz.func112.trans (congrArg some (by kernel_rfl))
  f282 := Tryz.func113.trans (congrArg some (by kernel_rfl))
  f283 := Tryz.func105.trans (congrArg some (by kernel_rfl))
  f284 := Tryz.func106.trans (congrArg some (by kernel_rfl))
  f285 := Tryz.func107.trans (congrArg some (by kernel_rfl))
  f286 := Tryz.func108.trans (congrArg some (by kernel_rfl))
  f287 := Tryz.func121.trans (congrArg some (by kernel_rfl))
  f316 := Tryz.func122.trans (congrArg some (by kernel_rfl))
  f317 := Tryz.func116.trans (congrArg some (by kernel_rfl))
  f318 := Tryz.func118.trans (congrArg some (by kernel_rfl))
  f319 := Tryz.func119.trans (congrArg some (by kernel_rfl))
  f320 := Tryz.func120.trans (congrArg some (by kernel_rfl))
  f321 := Tryz.func127.trans (congrArg some (by kernel_rfl))
  f322 := Tryz.func128.trans (congrArg some (by kernel_rfl))
  f337 := Tryz.func125.trans (congrArg some (by kernel_rfl))
  f338 := Tryz.func126.trans (congrArg some (by kernel_rfl))
  t0 := Tryz.underlying0
  a0 := Tryz.isAgg0
  z0 := Tryz.sizeOf0
  v0 := Tryz.zeroValue0
  t2 := Tryz.underlying2
  a2 := Tryz.isAgg2
  z2 := Tryz.sizeOf2
  v2 := Tryz.zeroValue2
  t3 := Tryz.underlying3
  a3 := Tryz.isAgg3
  z3 := Tryz.sizeOf3
  v3 := Tryz.zeroValue3
  t4 := Tryz.underlying4
  a4 := Tryz.isAgg4
  z4 := Tryz.sizeOf4
  v4 := Tryz.zeroValue4
  t5 := Tryz.underlying5
  a5 := Tryz.isAgg5
  z5 := Tryz.sizeOf5
  v5 := Tryz.zeroValue5
  t9 := Tryz.underlying9
  a9 := Tryz.isAgg9
  z9 := Tryz.sizeOf9
  v9 := Tryz.zeroValue9
  t20 := Tryz.underlying20
  a20 := Tryz.isAgg20
  z20 := Tryz.sizeOf20
  v20 := Tryz.zeroValue20
  t21 := Tryz.underlying21
  a21 := Tryz.isAgg21
  z21 := Tryz.sizeOf21
  v21 := Tryz.zeroValue21
  t37 := Tryz.underlying76
  a37 := Tryz.isAgg76
  z37 := Tryz.sizeOf76
  v37 := Tryz.zeroValue76
  t46 := Tryz.underlying132
  a46 := Tryz.isAgg132
  z46 := Tryz.sizeOf132
  v46 := Tryz.zeroValue132
  t51 := Tryz.underlying130
  a51 := Tryz.isAgg130
  z51 := Tryz.sizeOf130
  v51 := Tryz.zeroValue130
  t53 := Tryz.underlying117
  a53 := Tryz.isAgg117
  z53 := Tryz.sizeOf117
  v53 := Tryz.zeroValue117
  t75 := Tryz.underlying94
  a75 := Tryz.isAgg94
  z75 := Tryz.sizeOf94
  v75 := Tryz.zeroValue94
  t76 := Tryz.underlying95
  a76 := Tryz.isAgg95
  z76 := Tryz.sizeOf95
  v76 := Tryz.zeroValue95
  t85 := Tryz.underlying123
  a85 := Tryz.isAgg123
  z85 := Tryz.sizeOf123
  v85 := Tryz.zeroValue123
  t127 := Tryz.underlying103
  a127 := Tryz.isAgg103
  z127 := Tryz.sizeOf103
  v127 := Tryz.zeroValue103
  t143 := Tryz.underlying143
  a143 := Tryz.isAgg143
  z143 := Tryz.sizeOf143
  v143 := Tryz.zeroValue143
  t145 := Tryz.underlying145
  a145 := Tryz.isAgg145
  z145 := Tryz.sizeOf145
  v145 := Tryz.zeroValue145
  t167 := Tryz.underlying122
  a167 := Tryz.isAgg122
  z167 := Tryz.sizeOf122
  v167 := Tryz.zeroValue122
  t168 := Tryz.underlying125
  a168 := Tryz.isAgg125
  z168 := Tryz.sizeOf125
  v168 := Tryz.zeroValue125
  t171 := Tryz.underlying116
  a171 := Tryz.isAgg116
  z171 := Tryz.sizeOf116
  v171 := Tryz.zeroValue116
  t173 := Tryz.underlying120
  a173 := Tryz.isAgg120
  z173 := Tryz.sizeOf120
  v173 := Tryz.zeroValue120
  t175 := Tryz.underlying134
  a175 := Tryz.isAgg134
  z175 := Tryz.sizeOf134
  v175 := Tryz.zeroValue134
  t210 := Tryz.underlying138
  a210 := Tryz.isAgg138
  z210 := Tryz.sizeOf138
  v210 := Tryz.zeroValue138
  t212 := Tryz.underlying129
  a212 := Tryz.isAgg129
  z212 := Tryz.sizeOf129
  v212 := Tryz.zeroValue129
  t213 := Tryz.underlying131
  a213 := Tryz.isAgg131
  z213 := Tryz.sizeOf131
  t232 := Tryz.underlying146
  a232 := Tryz.isAgg146
  z232 := Tryz.sizeOf146
  v232 := Tryz.zeroValue146
  t233 := Tryz.underlying147
  a233 := Tryz.isAgg147
  z233 := Tryz.sizeOf147
  v233 := Tryz.zeroValue147
  g15 := by kernel_rfl
  g16 := by kernel_rfl
  g17 := by kernel_rfl
  g18 := by kernel_rfl
  g19 := by kernel_rfl
  t80 := Tryz.underlying70
  a80 := Tryz.isAgg70
  z80 := Tryz.sizeOf70
  v80 := Tryz.zeroValue70
  i0 := by kernel_rfl
  i2 := by kernel_rfl
  i3 := by kernel_rfl
  i4 := by kernel_rfl
  i5 := by kernel_rfl
  i9 := by kernel_rfl
  i20 := by kernel_rfl
  i21 := by kernel_rfl
  i37 := by kernel_rfl
  i46 := by kernel_rfl
  i51 := by kernel_rfl
  i53 := by kernel_rfl
  i75 := by kernel_rfl
  i76 := by kernel_rfl
  i80 := by kernel_rfl
  i85 := by kernel_rfl
  i127 := by kernel_rfl
  i143 := by kernel_rfl
  i145 := by kernel_rfl
  i167 := by kernel_rfl
  i168 := by kernel_rfl
  i171 := by kernel_rfl
  i173 := by kernel_rfl
  i175 := by kernel_rfl
  i210 := by kernel_rfl
  i212 := by kernel_rfl
  i232 := by kernel_rfl
  i233 := by kernel_rfl
  m15 := by kernel_rfl
  m16 := by kernel_rfl
  m17 := by kernel_rfl
  m18 := by kernel_rfl
  m19 := by kernel_rfl
  c0 := by kernel_rfl
  c2 := by kernel_rfl
  c3 := by kernel_rfl
  c4 := by kernel_rfl
  c5 := by kernel_rfl
  c9 := by kernel_rfl
  c20 := by kernel_rfl
  c21 := by kernel_rfl
  c37 := by kernel_rfl
  c46 := by kernel_rfl
  c51 := by kernel_rfl
  c53 := by kernel_rfl
  c75 := by kernel_rfl
  c76 := by kernel_rfl
  c80 := by kernel_rfl
  c85 := by kernel_rfl
  c127 := by kernel_rfl
  c143 := by kernel_rfl
  c145 := by kernel_rfl
  c167 := by kernel_rfl
  c168 := by kernel_rfl
  c171 := by kernel_rfl
  c173 := by kernel_rfl
  c175 := by kernel_rfl
  c210 := by kernel_rfl
  c212 := by kernel_rfl
  c213 := by kernel_rfl
  c232 := by kernel_rfl
  c233 := by kernel_rfl }

open Go.RowKit Go.Sort in
theorem strconv_Itoa (n : Int) (h0 : -9223372036854775808 ≤ n) (h1 : n ≤ 9223372036854775807) (w : World) (htab : Lib.TabIs Tryz.prog w "internal/strconv.uint64pow10" .u64 Lib.pow10Tab) :
    Calls Tryz.prog 70 #[.int .i64 n] w fun e w' => e = .returned (.string ⟨(Lib.itoa n).toArray⟩) ∧ ∃ k os, w' = grow (w.drewN k) os := Any.strconv_Itoa laysM171 n h0 h1 w htab

open Go.RowKit in
theorem strconv_Atoi_ok (s : ByteArray) (hmax : s.size ≤ 9223372036854775806) (v : Int) (h : Lib.atoiAll s.data.toList = .ok v) (w : World) :
    Calls Tryz.prog 89 #[.string s] w fun e w' => e = .returned (.tuple #[.int .i64 v, .nilIface]) ∧ (w' = w ∨ ∃ t, w' = Lib.bytesWorld w 5 t) := Any.strconv_Atoi_ok laysC172 s hmax v h w

open Go.RowKit in
/-- At every string that spells no int: an error that is not nil. -/
theorem strconv_Atoi_err (s : ByteArray) (hlim : s.size ≤ 281474976710656) (h : ∀ v, Lib.atoiAll s.data.toList ≠ .ok v) (tp tp2 : TypeId) (p p2 : Value) (w : World)
    (hvar : w.var? Tryz.prog "strconv.ErrSyntax" = some #[.iface tp p]) (hvar2 : w.var? Tryz.prog "strconv.ErrRange" = some #[.iface tp2 p2]) :
    Calls Tryz.prog 89 #[.string s] w fun e w' => ∃ v N, e = .returned (.tuple #[.int .i64 v, .iface 125 (.pointer (some ⟨N, 0, none⟩))]) ∧ Below w.heap.size w w' := by
  cases hc : Lib.atoiAll s.data.toList with
  | ok v => exact absurd hc (h v)
  | _ =>
    first
      | exact (Any.strconv_Atoi_range_var laysC172 s hlim hc tp2 p2 w hvar2).mono fun e w' ⟨N, he, _, _, hb⟩ => ⟨_, N, he, hb⟩
      | exact (Any.strconv_Atoi_syntax_var laysC172 s hlim hc tp p w hvar).mono fun e w' ⟨N, he, _, _, hb⟩ => ⟨_, N, he, hb⟩

end Go.Proofs.YtgajodcgedhikaaGreatDoor

namespace Go.Proofs.YtgajodcgedhikaaGreatDoor
open Go.RowKit
set_option linter.unusedVariables false
set_option linter.unusedSimpArgs false

/-- A listed variable reads as it did where nothing old has turned. -/
theorem var_kept {P : Program} {W W' : World} {n : String} {cs : Array Value} (hb : Below W.heap.size W W') (h : W.var? P n = some cs) : W'.var? P n = some cs := by
  unfold World.var? at h ⊢
  cases hg : P.globalNamed n with
  | none => simp [hg] at h
  | some g =>
    simp only [hg, Option.bind_some] at h ⊢
    have hlt : g < W.heap.size := by
      rcases Nat.lt_or_ge g W.heap.size with h2 | h2
      · exact h2
      · rw [Array.getElem?_eq_none h2] at h; simp at h
    rw [hb.block g hlt]
    exact h

abbrev Pow10 (w : World) : Prop := Lib.TabIs Tryz.prog w "internal/strconv.uint64pow10" .u64 Lib.pow10Tab

theorem below_grow (w : World) (k : Nat) (os : Array Obj) : Below w.heap.size w (Go.Sort.grow (w.drewN k) os) := by
  refine ⟨rfl, rfl, rfl, ?_, fun i hi => ?_⟩
  · show w.heap.size ≤ (w.heap ++ os).size
    simp
  · show (w.heap ++ os)[i]? = w.heap[i]?
    rw [Array.getElem?_append_left hi]

set_option maxRecDepth 100000 in
set_option maxHeartbeats 400000 in
theorem impl_FormatInt (n : Int) (w : World) (h0 : -9223372036854775808 ≤ n) (h1 : n ≤ 9223372036854775807) (ht : Pow10 w) :
    Calls Tryz.prog 40 #[.int .i64 n] w fun e w' => e = .returned (.string (numB n)) ∧ Below w.heap.size w w' := by
  have HC := Lib.hid (strconv_Itoa n h0 h1 w ht)
  clear ht
  go_enter Tryz.func40, Tryz.ntmps40
  go_wp2_with fail
  refine HC.out.mono ?_
  rintro e w1 ⟨rfl, k, os, hw⟩
  have hb : Below w.heap.size w w1 := by rw [hw]; exact below_grow w k os
  clear hw
  go_wp2
  go_ret
  exact ⟨rfl, hb⟩

set_option maxRecDepth 100000 in
set_option maxHeartbeats 400000 in
/-- spec.FormatInt, at every int. -/
theorem spec_FormatInt (n : Int) (w : World) (h0 : -9223372036854775808 ≤ n) (h1 : n ≤ 9223372036854775807) :
    Calls Tryz.prog 27 #[.int .i64 n] w fun e w' => e = .returned (.string (numB n)) ∧ Below w.heap.size w w' := by
  by_cases h : 0 ≤ n
  · obtain ⟨u, rfl⟩ : ∃ u : Nat, n = u := ⟨n.toNat, by omega⟩
    rw [numB_pos]
    exact spec_FormatInt_pos u w (by omega)
  · obtain ⟨u, rfl⟩ : ∃ u : Nat, n = -(u : Int) := ⟨n.natAbs, by omega⟩
    rw [numB_neg u (by omega)]
    exact spec_FormatInt_neg u w (by omega) (by omega)

theorem gPow10 : Tryz.prog.globalNamed "internal/strconv.uint64pow10" = some 0 := by kernel_rfl
theorem tPow10 : (Tryz.prog.globals[0]?).map (·.type) = some 129 := by kernel_rfl
theorem cPow10 : Tryz.prog.cellsOf 129 = 20 := by kernel_rfl
theorem cU64 : Tryz.prog.cellsOf 117 = 1 := by kernel_rfl
theorem pow10_of {d : DataW Unit} (hd : d = Lib.tabData .u64 Lib.pow10Tab) {r : List (String × DataW Unit)} {W : World} (h : laidMet Tryz.prog (("internal/strconv.uint64pow10", d) :: r) W) : Pow10 W := by
  subst hd
  exact Lib.tabIs_of_head gPow10 tPow10 Tryz.underlying129 Tryz.underlying117 cU64 cPow10 h

end Go.Proofs.YtgajodcgedhikaaGreatDoor

namespace Go.Proofs.YtgajodcgedhikaaGreatDoor
open Go.RowKit
set_option linter.unusedVariables false
set_option linter.unusedSimpArgs false

def isSep (sp : ByteArray) (c : UInt8) : Bool := sp.data.toList.contains c
/-- The parts that are cut off by place k, and where the part at hand begins. -/
def splitTo (s sp : ByteArray) : Nat → List ByteArray × Nat
  | 0 => ([], 0)
  | k + 1 => if h : k < s.size then (if isSep sp s[k] then ((splitTo s sp k).1 ++ [s.extract (splitTo s sp k).2 k], k + 1) else splitTo s sp k) else splitTo s sp k
def split (s sp : ByteArray) : List ByteArray := (splitTo s sp s.size).1 ++ [s.extract (splitTo s sp s.size).2 s.size]

theorem splitTo_le (s sp : ByteArray) (k : Nat) : (splitTo s sp k).2 ≤ k ∧ (splitTo s sp k).1.length ≤ k := by
  induction k with
  | zero => simp [splitTo]
  | succ k ih =>
    unfold splitTo
    split
    · split
      · simp; omega
      · omega
    · omega
theorem splitTo_sep (s sp : ByteArray) (k : Nat) (h : k < s.size) (hc : isSep sp s[k] = true) : splitTo s sp (k + 1) = ((splitTo s sp k).1 ++ [s.extract (splitTo s sp k).2 k], k + 1) := by
  rw [splitTo, dif_pos h, if_pos hc]
theorem splitTo_not (s sp : ByteArray) (k : Nat) (h : k < s.size) (hc : isSep sp s[k] = false) : splitTo s sp (k + 1) = splitTo s sp k := by
  rw [splitTo, dif_pos h, if_neg (by simp [hc])]

/-- The first place of a separator's byte among the separators. -/
theorem sep_first (sp : ByteArray) (c : UInt8) (h : isSep sp c = true) : ∃ j, ∃ hj : j < sp.size, sp[j] = c ∧ ∀ i (hi : i < j), sp[i]'(by omega) ≠ c := by
  unfold isSep at h
  have hm : c ∈ sp.data.toList := by simpa using h
  have hlt := List.findIdx_lt_length_of_exists (p := (· == c)) (xs := sp.data.toList) ⟨c, hm, by simp⟩
  refine ⟨sp.data.toList.findIdx (· == c), by simpa using hlt, ?_, ?_⟩
  · exact beq_iff_eq.1 (List.findIdx_getElem (w := hlt))
  · intro i hi
    have := List.not_of_lt_findIdx hi
    exact fun e => by rw [show (sp.data.toList[i]'(by simp; have := hlt; simp at this; omega) == c) = true from beq_iff_eq.2 e] at this; cases this
theorem sep_none (sp : ByteArray) (c : UInt8) (h : isSep sp c = false) (i : Nat) (hi : i < sp.size) : sp[i] ≠ c := by
  intro e
  unfold isSep at h
  have hm : c ∈ sp.data.toList := by
    rw [← e]
    exact List.getElem_mem (l := sp.data.toList) (n := i) (by simpa using hi)
  simp at h
  exact h (by simpa using hm)

theorem Tryz.info9 : (Tryz.prog.info? 9).map (fun i => (i.zero, i.size, i.bytes)) = some (some (.string ⟨#[]⟩), 1, 16) := by kernel_rfl

set_option maxRecDepth 100000 in
set_option maxHeartbeats 400000 in
theorem spec_SplitAny (s sp : ByteArray) (w : World) (hs : s.size ≤ 1048576) (hp : sp.size ≤ maxLen) :
    Calls Tryz.prog 10 #[.string s, .string sp] w fun e w' => ∃ v, e = .returned v ∧ w'.ownsRow w.heap.size 9 1 v (split s sp).length ((split s sp).map Value.string) ∧ Below w.heap.size w w' := by
  unfold maxLen at hp
  obtain ⟨i0, hi, hz0, hz1, hz2⟩ := info_parts Tryz.info9
  go_enter Tryz.func10, Tryz.ntmps10
  go_wp2
  go_loopw [5, 6, 7] (fun v f i wr => ∃ k : Nat, k ≤ s.size ∧ i = .int .i64 k ∧ f = .int .i64 (splitTo s sp k).2 ∧ wr.ownsRow w.heap.size 9 1 v (splitTo s sp k).1.length ((splitTo s sp k).1.map Value.string) ∧ Below w.heap.size w wr) (fun _ _ i _ => s.size - (intOf i).toNat)
  case atStart =>
    refine ⟨0, Nat.zero_le _, rfl, rfl, ?_, (Below.refl _ w).alloc (Nat.le_refl _) _⟩
    exact ⟨rfl, .inr ⟨w.heap.size, 0, #[], rfl, Nat.le_refl _, heap_alloc_new w _, Nat.le_refl _, by simp [maxLen], rfl, rfl⟩⟩
  case round =>
    obtain ⟨k, hk, rfl, rfl, hown, hbw⟩ := hrel
    have hle := splitTo_le s sp k
    by_cases hlt : k < s.size
    · cases hc : isSep sp s[k] with
      | true =>
        obtain ⟨j, hj, hje, hjn⟩ := sep_first sp s[k] hc
        have HE := Lib.hid hje
        have HN := Lib.hid hjn
        have HS := Lib.hid (splitTo_sep s sp k hlt hc)
        clear hc hje hjn
        go_wp2
        go_loopw [5, 6, 8] (fun v f i wi => ∃ i' : Nat, i' ≤ j ∧ i = .int .i64 i' ∧ f = .int .i64 (splitTo s sp k).2 ∧ wi.ownsRow w.heap.size 9 1 v (splitTo s sp k).1.length ((splitTo s sp k).1.map Value.string) ∧ Below w.heap.size w wi) (fun _ _ i _ => j - (intOf i).toNat)
        case atStart => exact ⟨0, Nat.zero_le _, rfl, rfl, hown, hbw⟩
        case round =>
          rename_i v8 f8 i8 wi
          obtain ⟨i', hij, rfl, rfl, hown, hbw⟩ := hrel
          by_cases hlj : i' < j
          · have hne : ((s[k].toNat : Int) == (sp[i'].toNat : Int)) = false := by
              have := HN.out i' hlj
              have e2 := HE.out
              simp; intro e; exact this (by rw [UInt8.toNat_inj.1 (show s[k].toNat = sp[i'].toNat by omega)])
            go_wp2
            go_quiet (fail)
            go_wp2
            go_roundw
            case rel => exact ⟨i' + 1, by omega, by go_num, rfl, hown, below_drewN hbw nq⟩
            case measure => simp [intOf]; omega
          · have hij2 : i' = j := by omega
            subst hij2
            have heq : ((s[k].toNat : Int) == (sp[i'].toNat : Int)) = true := by rw [HE.out]; simp
            go_wp2
            go_quiet (fail)
            go_wp2_with (at_builtin; refine wpList_append_own _ rfl _ _ 31 rfl w.heap.size 9 i0 (.string ⟨#[]⟩) 1 16 Tryz.underlying31 hi hz0 hz1 hz2 rfl (by decide) _ _ _ rfl (hown.alloc _) ⟨_, 0, none⟩ 1 1 [.string (s.extract (splitTo s sp k).2 k)] rfl rfl ?c1 ?c2 ?c3 ?c4 ?c5 ?_)
            case c1 => exact cell_one_new _ _ _
            case c2 => simp [Value.oneCell']
            case c3 => unfold maxLen; omega
            case c4 => omega
            case c5 => have := hbw.size; simp; omega
            intro v' w1 hown1 hg1 _
            have hbw1 := ((below_drewN hbw nq).alloc (by have := hbw.size; simpa using this) _).grown hg1 (by have := hbw.size; simp; omega) (fun g hg => (hown.lt g hg).1)
            clear hg1
            go_wp2
            go_roundw
            case rel => exact ⟨k + 1, by omega, by go_num, by rw [HS.out]; go_num, by rw [HS.out]; simpa using hown1, hbw1⟩
            case measure => simp [intOf]; omega
      | false =>
        have hnone := Lib.hid (sep_none sp s[k] hc)
        have HS := Lib.hid (splitTo_not s sp k hlt hc)
        clear hc
        go_wp2
        go_loopw [5, 6, 8] (fun v f i wi => ∃ j : Nat, j ≤ sp.size ∧ i = .int .i64 j ∧ f = .int .i64 (splitTo s sp k).2 ∧ wi.ownsRow w.heap.size 9 1 v (splitTo s sp k).1.length ((splitTo s sp k).1.map Value.string) ∧ Below w.heap.size w wi) (fun _ _ i _ => sp.size - (intOf i).toNat)
        case atStart => exact ⟨0, Nat.zero_le _, rfl, rfl, hown, hbw⟩
        case round =>
          obtain ⟨j, hj, rfl, rfl, hown, hbw⟩ := hrel
          by_cases hjl : j < sp.size
          · have hne : ((s[k].toNat : Int) == (sp[j].toNat : Int)) = false := by
              have := hnone.out j hjl
              simp; intro e; exact this (UInt8.toNat_inj.1 (by omega))
            go_wp2
            go_quiet (fail)
            go_wp2
            go_roundw
            case rel => exact ⟨j + 1, by omega, by go_num, rfl, hown, below_drewN hbw nq⟩
            case measure => simp [intOf]; omega
          · go_wp2
            go_roundw
            case rel => exact ⟨k + 1, by omega, by go_num, by rw [HS.out], by rw [HS.out]; exact hown, hbw⟩
            case measure => simp [intOf]; omega
    · go_wp2_with (at_builtin; refine wpList_append_own _ rfl _ _ 31 rfl w.heap.size 9 i0 (.string ⟨#[]⟩) 1 16 Tryz.underlying31 hi hz0 hz1 hz2 rfl (by decide) _ _ _ rfl (hown.alloc _) ⟨wr.heap.size, 0, none⟩ 1 1 [.string (s.extract (splitTo s sp k).2 s.size)] rfl rfl ?d1 ?d2 ?d3 ?d4 ?d5 ?_)
      case d1 => exact cell_one_new _ _ _
      case d2 => simp [Value.oneCell']
      case d3 => unfold maxLen; omega
      case d4 => omega
      case d5 => have := hbw.size; simp; omega
      intro v' w1 hown1 hg1 _
      have hbw1 := (hbw.alloc hbw.size _).grown hg1 (by have := hbw.size; simp; omega) (fun g hg => (hown.lt g hg).1)
      clear hg1
      go_wp2
      go_ret
      have hks : k = s.size := by omega
      subst hks
      exact ⟨_, rfl, by unfold split; simpa using hown1, hbw1⟩

/-- The table of the separators: at place c, is c a separator? -/
def sepTab (l : List UInt8) : Array Value := ((List.range 256).map fun c => Value.bool (l.contains (UInt8.ofNat c))).toArray
theorem row_set {w : World} {g j : Nat} {cs : Array Value} {t : TypeId} {fr : Nat × Nat} (hg : w.heap[g]? = some (.cells cs t fr)) (u : Value) :
    (w.setCell ⟨g, j, none⟩ u).heap[g]? = some (.cells (cs.setIfInBounds j u) t fr) := by
  simp [World.setCell, Array.getElem?_modify, hg]
theorem zero36 (w : World) : (zeroValue 82).run Tryz.prog w = .ok (.agg (sepTab [])) w := by kernel_rfl
theorem sepTab_at (l : List UInt8) (c : UInt8) : (sepTab l)[c.toNat]? = some (.bool (l.contains c)) := by
  have h : c.toNat < 256 := c.toNat_lt
  simp [sepTab, h]
theorem sepTab_set (l : List UInt8) (c : UInt8) : (sepTab l).setIfInBounds c.toNat (.bool true) = sepTab (l ++ [c]) := by
  have h : c.toNat < 256 := c.toNat_lt
  apply Array.ext
  · simp [sepTab]
  · intro i h1 h2
    by_cases e : c.toNat = i
    · subst e
      simp [sepTab]
    · have : UInt8.ofNat i ≠ c := by
        intro e2
        apply e
        rw [← e2]
        have : (sepTab l).size = 256 := by simp [sepTab]
        have h3 : i < 256 := by simpa [this] using h1
        simp; omega
      simp [sepTab, List.getElem_set, e, this]

set_option maxRecDepth 100000 in
set_option maxHeartbeats 400000 in
theorem impl_SplitAny (s sp : ByteArray) (w : World) (hs : s.size ≤ 1048576) (hp : sp.size ≤ maxLen) :
    Calls Tryz.prog 35 #[.string s, .string sp] w fun e w' => ∃ v, e = .returned v ∧ w'.ownsRow w.heap.size 9 1 v (split s sp).length ((split s sp).map Value.string) ∧ Below w.heap.size w w' := by
  unfold maxLen at hp
  obtain ⟨i0, hi, hz0, hz1, hz2⟩ := info_parts Tryz.info9
  have hz := zero36
  go_enter Tryz.func35, Tryz.ntmps35
  go_wp2
  clear hz
  go_loopw [12] (fun i wr => ∃ k : Nat, k ≤ sp.size ∧ i = .int .i64 k ∧ wr.heap[w.heap.size]? = some (.cells (sepTab (sp.data.toList.take k)) 82 (0, 0)) ∧ Below w.heap.size w wr) (fun i _ => sp.size - (intOf i).toNat)
  case atStart => exact ⟨0, Nat.zero_le _, rfl, heap_alloc_new w _, (Below.refl _ w).alloc (Nat.le_refl _) _⟩
  case round =>
    obtain ⟨k, hk, rfl, hT, hbw⟩ := hrel
    have hTab := Lib.hid hT
    clear hT
    by_cases hlt : k < sp.size
    · obtain ⟨y, hcell⟩ : ∃ y, wr.cell? ⟨w.heap.size, sp[k].toNat, none⟩ = some y := ⟨_, (cell_of_row _ _ _ _ _ _ hTab.out).trans (sepTab_at _ _)⟩
      have hfr : wr.frozen? ⟨w.heap.size, sp[k].toNat, none⟩ = false := frozen_of_row _ _ _ _ _ hTab.out
      have hcl : (sp[k].toNat : Int) < 256 := by have := sp[k].toNat_lt; omega
      go_wp2
      go_roundw
      case rel => exact ⟨k + 1, by omega, by go_num, by rw [row_set hTab.out, sepTab_set, ← take_snoc sp k hlt], hbw.setCell (Nat.le_refl _) _⟩
      case measure => simp [intOf]; omega
    · have hks : k = sp.size := by omega
      subst hks
      have hall : sp.data.toList.take sp.size = sp.data.toList := List.take_of_length_le (by simp)
      have hTab2 : Hid (wr.heap[w.heap.size]? = some (.cells (sepTab sp.data.toList) 82 (0, 0))) := by
        have := hTab.out
        rw [hall] at this
        exact Lib.hid this
      clear hTab hall
      obtain ⟨wo, rfl⟩ : ∃ wo : World, wo = wr := ⟨_, rfl⟩
      go_wp2
      go_loopw [7, 8, 22] (fun v f i wi => ∃ k : Nat, k ≤ s.size ∧ i = .int .i64 k ∧ f = .int .i64 (splitTo s sp k).2 ∧ wi.ownsRow (w.heap.size + 1) 9 1 v (splitTo s sp k).1.length ((splitTo s sp k).1.map Value.string) ∧ Below w.heap.size w wi ∧ w.heap.size + 1 ≤ wi.heap.size ∧ wi.heap[w.heap.size]? = some (.cells (sepTab sp.data.toList) 82 (0, 0))) (fun _ _ i _ => s.size - (intOf i).toNat)
      case atStart =>
        refine ⟨0, Nat.zero_le _, rfl, rfl, World.ownsRow_nil _ _ _ _, hbw, ?_, hTab2.out⟩
        have := (Array.getElem?_eq_some_iff.1 hTab2.out).1
        omega
      case round =>
        obtain ⟨k, hk, rfl, rfl, hown, hbw, hsz, hT⟩ := hrel
        have hTab := Lib.hid hT
        clear hT
        have hle := splitTo_le s sp k
        by_cases hlt : k < s.size
        · have hcl : (s[k].toNat : Int) < 256 := by have := s[k].toNat_lt; omega
          have hcell0 := Lib.hid ((cell_of_row _ _ s[k].toNat _ _ _ hTab.out).trans (sepTab_at sp.data.toList s[k]))
          cases hc : isSep sp s[k] with
          | true =>
            have hcell : wr.cell? ⟨w.heap.size, s[k].toNat, none⟩ = some (.bool true) := by
              have := hcell0.out
              unfold isSep at hc
              rw [hc] at this
              exact this
            have HS := Lib.hid (splitTo_sep s sp k hlt hc)
            clear hc hcell0
            go_wp2_with (at_builtin; refine wpList_append_own _ rfl _ _ 31 rfl (w.heap.size + 1) 9 i0 (.string ⟨#[]⟩) 1 16 Tryz.underlying31 hi hz0 hz1 hz2 rfl (by decide) _ _ _ rfl (hown.alloc _) ⟨wr.heap.size, 0, none⟩ 1 1 [.string (s.extract (splitTo s sp k).2 k)] rfl rfl ?c1 ?c2 ?c3 ?c4 ?c5 ?_)
            case c1 => exact cell_one_new _ _ _
            case c2 => simp [Value.oneCell']
            case c3 => unfold maxLen; omega
            case c4 => omega
            case c5 => simp; omega
            intro v' w1 hown1 hg1 _
            have hbw1 := (hbw.alloc hbw.size _).grown hg1 (by have := hbw.size; simp; omega) (fun g hg => by have := (hown.lt g hg).1; omega)
            have hsz1 : w.heap.size + 1 ≤ w1.heap.size := by have := hg1.size; simp at this; omega
            have hT1 := Lib.hid ((hg1.block w.heap.size (by simp; omega) (fun e => by have := (hown.lt _ e.symm).1; omega)).trans ((Below.heap_alloc _ _ _ (by omega)).trans hTab.out))
            clear hg1
            go_wp2
            go_roundw
            case rel => exact ⟨k + 1, by omega, by go_num, by rw [HS.out]; go_num, by rw [HS.out]; simpa using hown1, hbw1, hsz1, hT1.out⟩
            case measure => simp [intOf]; omega
          | false =>
            have hcell : wr.cell? ⟨w.heap.size, s[k].toNat, none⟩ = some (.bool false) := by
              have := hcell0.out
              unfold isSep at hc
              rw [hc] at this
              exact this
            have HS := Lib.hid (splitTo_not s sp k hlt hc)
            clear hc hcell0
            go_wp2
            go_roundw
            case rel => exact ⟨k + 1, by omega, by go_num, by rw [HS.out], by rw [HS.out]; exact hown, hbw, hsz, hTab.out⟩
            case measure => simp [intOf]; omega
        · go_wp2_with (at_builtin; refine wpList_append_own _ rfl _ _ 31 rfl (w.heap.size + 1) 9 i0 (.string ⟨#[]⟩) 1 16 Tryz.underlying31 hi hz0 hz1 hz2 rfl (by decide) _ _ _ rfl (hown.alloc _) ⟨wr.heap.size, 0, none⟩ 1 1 [.string (s.extract (splitTo s sp k).2 s.size)] rfl rfl ?d1 ?d2 ?d3 ?d4 ?d5 ?_)
          case d1 => exact cell_one_new _ _ _
          case d2 => simp [Value.oneCell']
          case d3 => unfold maxLen; omega
          case d4 => omega
          case d5 => simp; omega
          intro v' w1 hown1 hg1 _
          have hbw1 := (hbw.alloc hbw.size _).grown hg1 (by have := hbw.size; simp; omega) (fun g hg => by have := (hown.lt g hg).1; omega)
          clear hg1
          go_wp2
          go_ret
          have hks : k = s.size := by omega
          subst hks
          exact ⟨_, rfl, by unfold split; simpa using hown1.mono (Nat.le_succ _), hbw1⟩

theorem split_len (s sp : ByteArray) : (split s sp).length ≤ s.size + 1 := by
  have := (splitTo_le s sp s.size).2
  simp [split]; omega

end Go.Proofs.YtgajodcgedhikaaGreatDoor

namespace Go.Proofs.YtgajodcgedhikaaGreatDoor
open Go.RowKit
set_option linter.unusedVariables false
set_option linter.unusedSimpArgs false

/-- The first k parts, joined. -/
def joinTo (ss : List ByteArray) (sep : ByteArray) : Nat → ByteArray
  | 0 => ⟨#[]⟩
  | k + 1 => (if 0 < k then joinTo ss sep k ++ sep else joinTo ss sep k) ++ ss.getD k ⟨#[]⟩
def joinB (ss : List ByteArray) (sep : ByteArray) : ByteArray := joinTo ss sep ss.length

theorem joinTo_size (ss : List ByteArray) (sep : ByteArray) (hsep : sep.size ≤ 1048576) (hss : ∀ x ∈ ss, x.size ≤ 1048576) (k : Nat) : (joinTo ss sep k).size ≤ k * 2097152 := by
  induction k with
  | zero => simp [joinTo, ByteArray.size]
  | succ k ih =>
    have h1 : (ss.getD k ⟨#[]⟩).size ≤ 1048576 := by
      rw [List.getD_eq_getElem?_getD]
      cases h : ss[k]? with
      | none => simp [ByteArray.size]
      | some x => exact hss x (List.mem_of_getElem? h)
    unfold joinTo
    split <;> simp only [ByteArray.size_append] <;> omega

set_option maxRecDepth 100000 in
set_option maxHeartbeats 400000 in
theorem spec_Join (ss : List ByteArray) (sep : ByteArray) (A : Option Addr) (n c : Nat) (w : World) (hn : ss.length = n) (hm : n ≤ 1048576) (hsep : sep.size ≤ 1048576) (hss : ∀ x ∈ ss, x.size ≤ 1048576) (hr : RowAt w A (ss.map Value.string)) :
    Calls Tryz.prog 57 #[.slice A n c, .string sep] w fun e w' => e = .returned (.string (joinB ss sep)) ∧ w = w' := by
  have HR := Lib.hid hr
  have HL := Lib.hid hn
  have HS := Lib.hid hss
  clear hr hn hss
  go_enter Tryz.func57, Tryz.ntmps57
  go_wp2
  go_loop [5, 10] (fun o i => ∃ (k : Nat) (y : ByteArray), k ≤ n ∧ i = .int .i64 k ∧ o = .string y ∧ Hid (joinTo ss sep k = y)) (fun _ i => n - (intOf i).toNat)
  case atStart => exact ⟨0, _, Nat.zero_le _, rfl, rfl, Lib.hid rfl⟩
  case round =>
    obtain ⟨k, y, hk, rfl, rfl, HY⟩ := hrel
    by_cases hlt : k < n
    · have hl := HL.out
      obtain ⟨g, o, rfl, hg, hc⟩ := HR.out (by simp; omega)
      obtain ⟨x, h1, hx2⟩ : ∃ x : ByteArray, w.cell? ⟨g, o + k, none⟩ = some (.string x) ∧ Hid (ss.getD k ⟨#[]⟩ = x) :=
        ⟨ss[k]'(by omega), (hc k (by simp; omega)).trans (by rw [List.getElem_map]), Lib.hid (by rw [List.getD_eq_getElem?_getD, List.getElem?_eq_getElem (by omega)]; rfl)⟩
      have hxs : x.size ≤ 1048576 := by
        have := hx2.out
        rw [List.getD_eq_getElem?_getD, List.getElem?_eq_getElem (by omega)] at this
        exact HS.out x (by rw [← this]; exact List.getElem_mem _)
      have hys : y.size ≤ 2199023255552 := by
        have := joinTo_size ss sep hsep HS.out k
        rw [HY.out] at this
        omega
      clear hc hl
      have hstep : Hid (joinTo ss sep (k + 1) = (if 0 < k then y ++ sep else y) ++ x) := Lib.hid (by rw [joinTo, hx2.out, HY.out])
      clear hx2
      by_cases h0 : 0 < k
      · rw [if_pos h0] at hstep
        have hsz : (y ++ sep).size ≤ 4398046511104 := by rw [ByteArray.size_append]; omega
        go_wp2
        go_round
        case rel => exact ⟨k + 1, _, by omega, by go_num, rfl, hstep⟩
        case measure => simp [intOf]; omega
      · rw [if_neg h0] at hstep
        have hk0 : k = 0 := by omega
        subst hk0
        rw [Nat.add_zero] at h1
        go_wp2
        go_round
        case rel => exact ⟨1, _, by omega, by go_num, rfl, hstep⟩
        case measure => simp [intOf]; omega
    · go_wp2
      go_ret
      have hkn : k = n := by omega
      subst hkn
      exact ⟨by unfold joinB; rw [HL.out, HY.out]; rfl, rfl⟩

/-- What szStringS tells where its answer is not negative. -/
def SzTells (ss : List ByteArray) (n : Nat) (r : Int) : Prop := r ≤ 1048576 ∧ -1 ≤ r ∧ (0 ≤ r → n ≤ 1048576 ∧ ∀ x ∈ ss, x.size ≤ 1048576)

theorem put_next (xs : List Value) (z : Value) (n k : Nat) (x : Value) (hx : xs[k]? = some x) (hl : xs.length = n) (hk : k < n) :
    (xs.take k ++ List.replicate (n - k) z).set k x = xs.take (k + 1) ++ List.replicate (n - (k + 1)) z := by
  have h1 : (xs.take k).length = k := by simp; omega
  rw [List.set_append, if_neg (by omega), h1, Nat.sub_self]
  obtain ⟨m, hm⟩ : ∃ m, n - k = m + 1 := ⟨n - k - 1, by omega⟩
  rw [hm, show n - (k + 1) = m from by omega, List.replicate_succ, List.set_cons_zero, List.take_add_one, hx]
  simp

end Go.Proofs.YtgajodcgedhikaaGreatDoor

namespace Go.Proofs.YtgajodcgedhikaaGreatDoor
open Go.RowKit
set_option linter.unusedVariables false
set_option linter.unusedSimpArgs false

/-- The text of a literal. -/
def litW (x : Int) : ByteArray := if x < 0 then ⟨#[33]⟩ ++ (⟨#[112]⟩ ++ numB (absI x)) else ⟨#[112]⟩ ++ numB (absI x)
/-- The text of a label. -/
def fmtL (l : List Int) : ByteArray := if labR l then (if l.length = 0 then ⟨#[45]⟩ else joinB (l.map litW) ⟨#[38]⟩) else ⟨#[]⟩
theorem num_three {x : Int} (h : litB x = true) : (numB (absI x)).size = 1 := by
  have hab := litB_abs h
  obtain ⟨u, hu⟩ : ∃ u : Nat, absI x = u := ⟨(absI x).toNat, by omega⟩
  rw [hu, numB_pos, decB_small u (by omega)]
  rfl
theorem litW_size {x : Int} (h : litB x = true) : (litW x).size ≤ 3 := by
  have := num_three h
  unfold litW
  split
  · rw [ByteArray.size_append, ByteArray.size_append, this]; exact Nat.le_refl _
  · rw [ByteArray.size_append, this]; exact Nat.le_succ _
theorem fmt_no {l : List Int} (h : labR l = false) : fmtL l = ⟨#[]⟩ := by unfold fmtL; rw [h]; rfl
theorem fmt_nil {l : List Int} (h : labR l = true) (h0 : l.length = 0) : fmtL l = ⟨#[45]⟩ := by unfold fmtL; rw [h, if_pos rfl, if_pos h0]
theorem fmt_lit {l : List Int} (h : labR l = true) (h0 : ¬ l.length = 0) : fmtL l = joinB (l.map litW) ⟨#[38]⟩ := by unfold fmtL; rw [h, if_pos rfl, if_neg h0]
theorem own_empS {W : World} {B s : Nat} {t : TypeId} (b : Nat) (hB : B ≤ b) (h : W.heap[b]? = some (.cells #[] t (0, 0))) : W.ownsRow B t s (.slice (some ⟨b, 0, none⟩) 0 0) 0 [] :=
  ⟨by simp, .inr ⟨b, 0, #[], rfl, hB, h, Nat.le_refl _, Nat.zero_le _, by simp, by simp⟩⟩
theorem heap_newS (w : World) (o : Obj) (g : Nat) (h : g = w.heap.size) : (w.alloc o).heap[g]? = some o := by rw [h]; exact heap_alloc_new w o
theorem one_c1S (a : ByteArray) : ∀ u ∈ [Value.string a], u.oneCell' = true := fun u hu => by simp at hu; subst hu; rfl
theorem str_ans {a b : ByteArray} (h : a = b) : Ending.returned (.string a) = .returned (.string b) := by rw [h]
theorem litW_next {l : List Int} {j : Nat} (h : j < l.length) : ((l.take (j + 1)).map litW).map Value.string = ((l.take j).map litW).map Value.string ++ [.string (litW l[j])] := by
  rw [List.take_add_one, List.getElem?_eq_getElem h, List.map_append, List.map_append]; rfl

set_option maxRecDepth 100000 in
set_option maxHeartbeats 4000000 in
theorem spec_FormatLabel (l : List Int) (A : Option Addr) (k c : Nat) (w : World) (hl : l.length = k) (hm : k ≤ 1048576) (hr : RowAt w A (l.map intV)) :
    Calls Tryz.prog 33 #[.slice A k c] w fun e w' => e = .returned (.string (fmtL l)) ∧ Below w.heap.size w w' := by
  obtain ⟨i1, hii, hy0, hy1, hy2⟩ := info_parts Tryz.info9
  obtain ⟨wa, hwa⟩ : ∃ W, W = w.alloc (.cells #[] 9) := ⟨_, rfl⟩
  have ba : Below w.heap.size w wa := by rw [hwa]; exact (Below.refl _ _).alloc (Nat.le_refl _) _
  have OA : Hid (wa.ownsRow w.heap.size 9 1 (.slice (some ⟨w.heap.size, 0, none⟩) 0 0) 0 (((l.take 0).map litW).map Value.string)) := Lib.hid (own_empS w.heap.size (Nat.le_refl _) (by rw [hwa]; exact heap_alloc_new _ _))
  have BA := Lib.hid ba
  have HOK := Lib.hid (spec_LabelOk l A k c wa hl hm (hr.below ba))
  have HR := Lib.hid hr
  have HL := Lib.hid hl
  clear hr hl ba
  go_enter Tryz.func33, Tryz.ntmps33
  go_upto_region 2 with (fail)
  rw [← hwa]
  clear hwa
  go_wp2_with fail
  refine HOK.out.mono ?_
  rintro e w1 ⟨rfl, rfl⟩
  cases hlab : labR l with
  | false =>
    have HF := Lib.hid (fmt_no hlab)
    clear hlab
    go_wp2_with fail
    go_ret
    exact ⟨str_ans HF.out.symm, BA.out⟩
  | true =>
    have HLB := Lib.hid hlab
    clear hlab
    by_cases h0 : k = 0
    · have HF := Lib.hid (fmt_nil HLB.out (by have := HL.out; omega))
      have hk0 : ((k : Int) == 0) = true := by simp [h0]
      clear h0
      go_wp2_with fail
      go_ret
      exact ⟨str_ans HF.out.symm, BA.out⟩
    · have HF := Lib.hid (fmt_lit HLB.out (by have := HL.out; omega))
      have hk0 : ((k : Int) == 0) = false := by simp; omega
      go_wp2_with fail
      go_loopw [16, 3] (fun i s wr => ∃ (j : Nat) (A2 : Option Addr) (d2 : Nat), j ≤ k ∧ i = .int .i64 j ∧ s = .slice A2 j d2 ∧ wr.ownsRow w.heap.size 9 1 (.slice A2 j d2) j (((l.take j).map litW).map Value.string) ∧ Below w.heap.size w wr) (fun i _ _ => k - (intOf i).toNat)
      case atStart => exact ⟨0, _, _, Nat.zero_le _, rfl, rfl, OA.out, BA.out⟩
      case round =>
        obtain ⟨j, A2, d2, hj, rfl, rfl, hown, hb⟩ := hrel
        have OW := Lib.hid hown
        have HB := Lib.hid hb
        clear hown hb
        by_cases hlt : j < k
        · have hjl : ((j : Int) < (k : Int)) := by omega
          obtain ⟨g, o, rfl, hg, hc⟩ := row_getB HR.out (q := j) (by have := HL.out; omega)
          have HNX := Lib.hid (litW_next (l := l) (j := j) (by have := HL.out; omega))
          obtain ⟨x, hx⟩ : ∃ x, x = l[j]'(by have := HL.out; omega) := ⟨_, rfl⟩
          have hlx : litB x = true := by rw [hx]; exact labR_lit HLB.out (List.getElem_mem _)
          rw [← hx] at hc HNX
          have x1 := (HB.out.cell (p := ⟨g, o + j, none⟩) hg).trans hc
          clear hc hx
          have hx3 := litB_of hlx
          have hab := litB_abs hlx
          have HP := Lib.hid (fun W => prop_any x ⟨hx3.2.1, hx3.2.2⟩ W)
          have hn := fun W => spec_FormatInt (absI x) W (by omega) (by omega)
          have hnsz := num_three hlx
          obtain ⟨nb, hnb⟩ : ∃ t, t = numB (absI x) := ⟨_, rfl⟩
          rw [← hnb] at hn hnsz
          have HN := Lib.hid hn
          clear hn
          obtain ⟨W9, hW9⟩ : ∃ t, t = litW x := ⟨_, rfl⟩
          by_cases hneg : x < 0
          · have e9 : ⟨#[33]⟩ ++ (⟨#[112]⟩ ++ nb) = W9 := by rw [hW9, hnb]; unfold litW; rw [if_pos hneg]
            have E9 := Lib.hid e9
            rw [← hW9] at HNX
            have hsz2 : ((⟨#[112]⟩ : ByteArray) ++ nb).size = 2 := by rw [ByteArray.size_append, hnsz]; rfl
            clear hlx hab hW9 e9 hnb
            clear hx3
            go_wp2_with fail
            refine (HP.out _).mono ?_
            rintro e w2 ⟨rfl, rfl⟩
            go_wp2_with fail
            refine (HN.out _).mono ?_
            rintro e w3 ⟨rfl, bh⟩
            have HB3 := Lib.hid (HB.out.trans (bh.mono HB.out.size))
            have OW3 := Lib.hid (own_below OW.out bh)
            have hbs := HB3.out.size
            clear bh OW HB
            go_wp2_with (at_builtin; refine wpList_append_lies _ rfl _ _ 31 rfl (w.heap.size) 9 i1 (.string ⟨#[]⟩) 1 16 Tryz.underlying31 hii hy0 hy1 hy2 rfl (by decide) _ _ _ rfl (OW3.out.alloc _) ⟨_, 0, none⟩ 1 1 _ rfl rfl (World.news_of_block (heap_newS _ _ _ (by first | rfl | simp))) (one_c1S _) (by decide) (by unfold maxLen; omega) (by omega) (by simp; omega) _ rfl ?_)
            intro g3 cap w6 ho6 hg6 hat6 hl6
            go_wp2_with fail
            go_roundw
            case rel =>
              refine ⟨j + 1, some ⟨g3, 0, none⟩, cap, by omega, by go_num, rfl, ?_, (HB3.out.alloc hbs _).grown hg6 (by simp; omega) (fun r hr => (OW3.out.lt r hr).1)⟩
              rw [HNX.out, ← E9.out]; simpa using ho6
            case measure => simp [intOf]; omega
          · have e9 : ⟨#[112]⟩ ++ nb = W9 := by rw [hW9, hnb]; unfold litW; rw [if_neg hneg]
            have E9 := Lib.hid e9
            rw [← hW9] at HNX
            have hsz2 : ((⟨#[112]⟩ : ByteArray) ++ nb).size = 2 := by rw [ByteArray.size_append, hnsz]; rfl
            clear hlx hab hW9 e9 hnb
            clear hx3
            go_wp2_with fail
            refine (HP.out _).mono ?_
            rintro e w2 ⟨rfl, rfl⟩
            go_wp2_with fail
            refine (HN.out _).mono ?_
            rintro e w3 ⟨rfl, bh⟩
            have HB3 := Lib.hid (HB.out.trans (bh.mono HB.out.size))
            have OW3 := Lib.hid (own_below OW.out bh)
            have hbs := HB3.out.size
            clear bh OW HB
            go_wp2_with (at_builtin; refine wpList_append_lies _ rfl _ _ 31 rfl (w.heap.size) 9 i1 (.string ⟨#[]⟩) 1 16 Tryz.underlying31 hii hy0 hy1 hy2 rfl (by decide) _ _ _ rfl (OW3.out.alloc _) ⟨_, 0, none⟩ 1 1 _ rfl rfl (World.news_of_block (heap_newS _ _ _ (by first | rfl | simp))) (one_c1S _) (by decide) (by unfold maxLen; omega) (by omega) (by simp; omega) _ rfl ?_)
            intro g3 cap w6 ho6 hg6 hat6 hl6
            go_wp2_with fail
            go_roundw
            case rel =>
              refine ⟨j + 1, some ⟨g3, 0, none⟩, cap, by omega, by go_num, rfl, ?_, (HB3.out.alloc hbs _).grown hg6 (by simp; omega) (fun r hr => (OW3.out.lt r hr).1)⟩
              rw [HNX.out, ← E9.out]; simpa using ho6
            case measure => simp [intOf]; omega
        · have hjl : ¬ ((j : Int) < (k : Int)) := by omega
          have ht : l.take j = l := List.take_of_length_le (by have := HL.out; omega)
          have hjk : j = k := by omega
          subst hjk
          have o9 := OW.out
          rw [ht] at o9
          have HJ := Lib.hid (fun W h => spec_Join (l.map litW) ⟨#[38]⟩ A2 j d2 W (by rw [List.length_map]; exact HL.out) hm (by decide) (fun y hy => by obtain ⟨z, hz, rfl⟩ := List.mem_map.1 hy; exact Nat.le_trans (litW_size (labR_lit HLB.out hz)) (by decide)) h)
          have RW := Lib.hid (own_row o9)
          clear o9 ht
          go_wp2_with fail
          refine (HJ.out _ RW.out).mono ?_
          rintro e w2 ⟨rfl, rfl⟩
          go_wp2_with fail
          go_ret
          exact ⟨str_ans HF.out.symm, HB.out⟩

end Go.Proofs.YtgajodcgedhikaaGreatDoor
