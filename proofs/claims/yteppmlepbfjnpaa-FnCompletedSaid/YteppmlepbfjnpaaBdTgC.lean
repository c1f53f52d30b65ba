/-
  WALK of impl.TightenTable.
  WALK of impl.ShortestFrom.
  SMALL LEMMAS for the laws whose answer is memory of its own.
  WALK of impl.CloseGraph.
  WALKS of spec.CellOf and impl.CellOf.
  impl.orZero, spec.ReverseInterval.
-/
import Derived.Test.YteppmlepbfjnpaaTgB
import Derived.Test.YteppmlepbfjnpaaBdTbC
import Derived.Test.YteppmlepbfjnpaaBdGrN
import Derived.Deep.RegionHeld3
import Derived.Deep.CutRange
import Derived.Test.YteppmlepbfjnpaaBdGrK
import Derived.Deep.Cut
import Derived.RangeFuncRecord
import Derived.Laws.Rows
import Derived.Test.YteppmlepbfjnpaaProg
import Derived.Test.YteppmlepbfjnpaaBdDig
import Derived.Test.YteppmlepbfjnpaaBdIvOk
import Derived.WalkKit
import Derived.WalkSpells
import Derived.WalkLawsBesides
import Derived.Deep.QuietTactic
import Derived.Deep.RegionWith
import Derived.BigQuiet
import Derived.Lib.Hide
import Derived.Below
namespace Go.Proofs.Yteppmlepbfjnpaa
open Go.RowKit
set_option linter.unusedVariables false
set_option linter.unusedSimpArgs false

/-- From the k-th operation of a region that draws its order on, all before it carried out: what is quiet goes by one lexical walk. -/
theorem quiet_rest {P : Program} (C : World → Prop) {Q : Exit → Act → World → Prop} {L : List Oper} (k : Nat) {fuel : Nat} {listed : Array Bool} {a : Act} {w : World}
    (hf : (L.drop k).length = fuel) (hns : Region.noSelect L.toArray = true) (hB : Region.lexFrom .any L.toArray (L.drop k).length k listed = true) (hC : C w)
    (h : wpQuiet P L.toArray (fun w' => ∃ x : WC C, w' = x.w) (fun a' => ∀ w', (∃ x : WC C, w' = x.w) → Q .normal a' w') (L.drop k) a) : wpAny P .any L.toArray Q fuel listed a w := by
  subst hf
  refine wpAny_of_quiet (C := fun w' => ∃ x : WC C, w' = x.w) (Q := fun a' => ∀ w', (∃ x : WC C, w' = x.w) → Q .normal a' w') (fun _ w' hw' h => h w' hw') _ _ _ _ ⟨⟨_, hC⟩, rfl⟩ ?_
  exact wpAnyQ_lex (C := fun w' => ∃ x : WC C, w' = x.w) hns (L.drop k) k listed a (fun j => by simp) hB h
theorem tab_tight {N u v : Nat} (zs : List Int) {x : Int} (hN : N ≤ 8) (hu : u < N) (hv : v < N) : tabG N (tgF N (gT N zs) u v x) N = tightC N zs ⟨u, v, x⟩ := by
  unfold tabG tightC
  have e : ∀ i ∈ List.range N, rowG N (tgF N (gT N zs) u v x) i = (List.range N).map fun k => tightAt N zs ⟨u, v, x⟩ i k := by
    intro i hi
    have hi2 : i < N := by simpa using hi
    unfold rowG
    apply List.map_congr_left
    intro k hk
    have hk2 : k < N := by simpa using hk
    have e1 : (i * 8 + k) / 8 = i := by omega
    have e2 : (i * 8 + k) % 8 = k := by omega
    unfold tgF tgS
    rw [e1, e2, if_pos (by omega)]
    unfold tgA tightAt
    rw [gT_at zs hN hi2 hk2, gT_at zs hN hi2 hu, gT_at zs hN hv hk2]
    simp
  rw [List.flatMap_def, List.flatMap_def, List.map_congr_left e]
theorem edge_one (w : World) (u v x : Int) : EdgeAt (w.alloc (.cells #[.int .i64 u, .int .i64 v, .int .i64 x] 110)) (some ⟨w.heap.size, 0, none⟩) [⟨u, v, x⟩] := fun _ =>
  ⟨w.heap.size, 0, rfl, by simp, fun j hj => by
    have : j = 0 := by simp at hj; omega
    subst this
    refine ⟨?_, ?_, ?_⟩ <;> go_simp⟩
theorem tight_impl (n : Int) (cs : List Int) (e : GE) (hn : 0 ≤ n ∧ n ≤ 8) : tightOk n cs e = (closedR n cs && okG n [e] && !decide (addI e.c (atT n.toNat cs e.v.toNat e.u.toNat) < 0)) := by
  unfold tightOk okG okE
  rw [decide_eq_true (show 0 ≤ n ∧ n ≤ 8 ∧ ([e] : List GE).length ≤ 80 from ⟨hn.1, hn.2, by simp⟩)]
  simp only [List.all_cons, List.all_nil, Bool.and_true, Bool.true_and, Bool.and_assoc]

end Go.Proofs.Yteppmlepbfjnpaa

namespace Go.Proofs.Yteppmlepbfjnpaa
open Go.RowKit
set_option linter.unusedVariables false
set_option linter.unusedSimpArgs false

def zeroM : Array Value := #[.bool false, .bool false, .bool false, .bool false, .bool false, .bool false, .bool false, .bool false, .int .i64 0, .int .i64 0, .int .i64 0, .int .i64 0, .int .i64 0, .int .i64 0, .int .i64 0, .int .i64 0, .int .i64 0, .int .i64 0, .int .i64 0, .int .i64 0, .int .i64 0, .int .i64 0, .int .i64 0, .int .i64 0]
theorem zeroM_at (w : World) (i : Nat) : (w.alloc (.cells zeroM 106)).cell? ⟨w.heap.size, i, none⟩ = zeroM[i]? := cell_of_row _ _ i zeroM _ (0, 0) (World.alloc_heap_new w _)
theorem zeroM_free (w : World) (i : Nat) : (w.alloc (.cells zeroM 106)).frozen? ⟨w.heap.size, i, none⟩ = false := frozen_of_row _ _ i zeroM _ (World.alloc_heap_new w _)
theorem mk_zero (w : World) : MkAt (w.alloc (.cells zeroM 106)) w.heap.size ⟨fun _ => false, fun _ => 0, fun _ => 0⟩ := by
  refine ⟨⟨by simp, fun j hj => ?_, fun j hj => zeroM_free _ _⟩, ⟨by simp, fun j hj => ?_, fun j hj => zeroM_free _ _⟩, ⟨by simp, fun j hj => ?_, fun j hj => zeroM_free _ _⟩⟩
  all_goals
    rw [zeroM_at]
    have : j = 0 ∨ j = 1 ∨ j = 2 ∨ j = 3 ∨ j = 4 ∨ j = 5 ∨ j = 6 ∨ j = 7 := by omega
    rcases this with rfl | rfl | rfl | rfl | rfl | rfl | rfl | rfl <;> rfl

set_option maxRecDepth 100000 in
set_option maxHeartbeats 4000000 in
theorem impl_ShortestFrom (n : Int) (es : List GE) (A : Option Addr) (k c : Nat) (z : Int) (w : World) (hn : es.length = k) (hk : k ≤ 1048576) (hr : EdgeAt w A es) :
    Calls Try.prog 95 #[grV n A k c, .int .i64 z] w fun e w' =>
      ∃ B m cb, e = .returned (.tuple #[.slice B m cb, .bool (shortR n es z).2]) ∧ m = (shortR n es z).1.length ∧ w'.ownsRow w.heap.size 3 1 (.slice B m cb) m ((shortR n es z).1.map intV) ∧ Below w.heap.size w w' := by
  have hz : ∀ W, (zeroValue 106).run Try.prog W = .ok (.agg #[.bool false, .bool false, .bool false, .bool false, .bool false, .bool false, .bool false, .bool false, .int .i64 0, .int .i64 0, .int .i64 0, .int .i64 0, .int .i64 0, .int .i64 0, .int .i64 0, .int .i64 0, .int .i64 0, .int .i64 0, .int .i64 0, .int .i64 0, .int .i64 0, .int .i64 0, .int .i64 0, .int .i64 0]) W := fun _ => by kernel_rfl
  have hg := fun W h => impl_GraphOk n es A k c W hn hk h
  have HR := Lib.hid hr
  have HL := Lib.hid hn
  clear hr hn
  obtain ⟨ok, hok⟩ : ∃ b, b = okG n es := ⟨_, rfl⟩
  rw [← hok] at hg
  have HG := Lib.hid hg
  have HO := Lib.hid hok
  clear hok hg
  have hin := fun W => hasNode_any n A k c z W
  cases ok with
  | false =>
    clear hin
    unfold grV at HG ⊢
    go_enter Try.func95, Try.ntmps95
    go_wp2_with fail
    refine (HG.out _ (HR.out.below (by repeat (first | exact Below.refl _ _ | refine below_step (by assumption) (by first | omega | (simp; done) | (simp; omega)) ?_ | refine below_drewN ?_ _ | refine Below.drew ?_ | refine Below.setCell ?_ (by first | omega | (simp; done) | (simp; omega)) _ | refine Below.alloc ?_ (by first | omega | (simp; done) | (simp; omega)) _)))).mono ?_
    rintro e w1 ⟨rfl, b1⟩
    go_wp2_with fail
    go_ret2
    have h := shortR_no (n := n) (es := es) (z := z) (by rw [← HO.out]; rfl)
    exact ⟨none, 0, 0, by rw [h]; rfl, by rw [h]; rfl, by rw [h]; exact ⟨rfl, .inl ⟨rfl, rfl⟩⟩, (by repeat (first | exact Below.refl _ _ | refine below_step (by assumption) (by first | omega | (simp; done) | (simp; omega)) ?_ | refine below_drewN ?_ _ | refine Below.drew ?_ | refine Below.setCell ?_ (by first | omega | (simp; done) | (simp; omega)) _ | refine Below.alloc ?_ (by first | omega | (simp; done) | (simp; omega)) _))⟩
  | true =>
    have hrng := okG_rng HO.out.symm
    obtain ⟨N, rfl⟩ : ∃ N : Nat, n = N := ⟨n.toNat, by omega⟩
    have hN8 : N ≤ 8 := by omega
    clear hrng
    by_cases hzn : 0 ≤ z ∧ z < (N : Int)
    · rw [decide_eq_true hzn] at hin
      obtain ⟨u, rfl⟩ : ∃ u : Nat, z = u := ⟨z.toNat, by omega⟩
      have hu : u < N := by omega
      have hui : (u : Int) < 8 := by omega
      have HI := Lib.hid hin
      clear hin hzn
      unfold grV at HG HI ⊢
      go_enter Try.func95, Try.ntmps95
      go_wp2_with fail
      refine (HG.out _ (HR.out.below (by repeat (first | exact Below.refl _ _ | refine below_step (by assumption) (by first | omega | (simp; done) | (simp; omega)) ?_ | refine below_drewN ?_ _ | refine Below.drew ?_ | refine Below.setCell ?_ (by first | omega | (simp; done) | (simp; omega)) _ | refine Below.alloc ?_ (by first | omega | (simp; done) | (simp; omega)) _)))).mono ?_
      rintro e w1 ⟨rfl, b1⟩
      have ka1 : w1.cell? ⟨w.heap.size, 0, none⟩ = some (.int .i64 (N : Int)) := (b1.cell (p := ⟨w.heap.size, 0, none⟩) (by first | omega | (simp; done) | (simp; omega))).trans (by first | assumption | go_simp)
      have kb1 : w1.cell? ⟨w.heap.size, 1, none⟩ = some (.slice A k c) := (b1.cell (p := ⟨w.heap.size, 1, none⟩) (by first | omega | (simp; done) | (simp; omega))).trans (by first | assumption | go_simp)
      have sz1 : w.heap.size < w1.heap.size := Nat.lt_of_lt_of_le (by first | omega | (simp; done) | (simp; omega)) b1.size
      have B1 : Below w.heap.size w w1 := (by repeat (first | exact Below.refl _ _ | refine below_step (by assumption) (by first | omega | (simp; done) | (simp; omega)) ?_ | refine below_drewN ?_ _ | refine Below.drew ?_ | refine Below.setCell ?_ (by first | omega | (simp; done) | (simp; omega)) _ | refine Below.alloc ?_ (by first | omega | (simp; done) | (simp; omega)) _))
      clear b1
      go_wp2_with fail
      refine (HI.out _).mono ?_
      rintro e w2 ⟨rfl, b2⟩
      have ka2 : w2.cell? ⟨w.heap.size, 0, none⟩ = some (.int .i64 (N : Int)) := (b2.cell (p := ⟨w.heap.size, 0, none⟩) (by first | omega | (simp; done) | (simp; omega))).trans (by first | assumption | go_simp)
      have kb2 : w2.cell? ⟨w.heap.size, 1, none⟩ = some (.slice A k c) := (b2.cell (p := ⟨w.heap.size, 1, none⟩) (by first | omega | (simp; done) | (simp; omega))).trans (by first | assumption | go_simp)
      have sz2 : w.heap.size < w2.heap.size := Nat.lt_of_lt_of_le (by first | omega | (simp; done) | (simp; omega)) b2.size
      have B2 : Below w.heap.size w w2 := B1.trans (b2.mono (by omega))
      clear b2 B1 ka1 kb1
      go_upto_region 4 with (fail)
      have hM3 := mk_zero w2
      unfold zeroM at hM3
      obtain ⟨w3, hw3⟩ : ∃ w3, w3 = w2.alloc (.cells #[.bool false, .bool false, .bool false, .bool false, .bool false, .bool false, .bool false, .bool false, .int .i64 0, .int .i64 0, .int .i64 0, .int .i64 0, .int .i64 0, .int .i64 0, .int .i64 0, .int .i64 0, .int .i64 0, .int .i64 0, .int .i64 0, .int .i64 0, .int .i64 0, .int .i64 0, .int .i64 0, .int .i64 0] 106) := ⟨_, rfl⟩
      rw [← hw3] at hM3 ⊢
      have b3 : Below w2.heap.size w2 w3 := by rw [hw3]; exact (Below.refl _ _).alloc (Nat.le_refl _) _
      clear hw3
      obtain ⟨b, hb⟩ : ∃ b, b = w2.heap.size := ⟨_, rfl⟩
      have ka3 := (b3.cell (p := ⟨w.heap.size, 0, none⟩) (by dsimp only; omega)).trans ka2
      have kb3 := (b3.cell (p := ⟨w.heap.size, 1, none⟩) (by dsimp only; omega)).trans kb2
      have B3 : Below w.heap.size w w3 := B2.trans (b3.mono (by omega))
      rw [← hb] at hM3 sz2 ⊢
      clear hb b3 B2 ka2 kb2
      have f1 : w3.cell? ⟨b, u, none⟩ = some (.bool false) := by simpa [fB] using hM3.kn.cell u (by omega)
      have r1 : w3.frozen? ⟨b, u, none⟩ = false := by simpa using hM3.kn.free u (by omega)
      have n1 : (w.heap.size = b) = False := eq_false (by omega)
      have n2 : (b = w.heap.size) = False := eq_false (by omega)
      have hM4 : MkAt (w3.setCell ⟨b, u, none⟩ (.bool true)) b (srcS u) := by
        refine ⟨(hM3.kn.store (i := u) (by omega) (by omega) _).congr (fun j hj => ?_), (hM3.nu.beside (by omega) _).congr (fun j hj => rfl), (hM3.la.beside (by omega) _).congr (fun j hj => rfl)⟩
        unfold upf fB srcS
        dsimp only
        by_cases e : j = u
        · rw [if_pos e, decide_eq_true e]
        · rw [if_neg e, decide_eq_false e]
      have hB4 : Below w.heap.size w (w3.setCell ⟨b, u, none⟩ (.bool true)) := B3.setCell (by dsimp only; omega) _
      have HM := Lib.hid hM4
      have HB := Lib.hid hB4
      clear hM3 hM4 hB4 B3
      have hse := settle_any b N es A k c (srcS u) w _ HL.out HO.out.symm HR.out HB.out (by omega) HM.out
      obtain ⟨ch, hch⟩ : ∃ ch, ch = (roundsE es (srcS u) N).2 := ⟨_, rfl⟩
      obtain ⟨sN, hsN⟩ : ∃ s, s = (roundsE es (srcS u) N).1 := ⟨_, rfl⟩
      rw [← hch, ← hsN] at hse
      unfold grV at hse
      have HSE := Lib.hid hse
      have HCH := Lib.hid hch
      have HSN := Lib.hid hsN
      have b4 : Below b w3 (w3.setCell ⟨b, u, none⟩ (.bool true)) := (Below.refl _ _).setCell (p := ⟨b, u, none⟩) (Nat.le_refl _) _
      have HB4 := Lib.hid b4
      clear hse hch hsN b4
      by_cases h1 : ch = -1
      · have hbc : (ch != -1) = false := by simp [h1]
        have H1 := Lib.hid h1
        clear h1
        go_wp2_with fail
        refine HSE.out.mono ?_
        rintro e w5 ⟨rfl, hM5, hb5⟩
        have ka5 : w5.cell? ⟨w.heap.size, 0, none⟩ = some (.int .i64 (N : Int)) := ((HB4.out.trans hb5).cell (p := ⟨w.heap.size, 0, none⟩) (by dsimp only; omega)).trans ka3
        have B5 : Below w.heap.size w w5 := HB.out.trans (hb5.mono (by omega))
        have hd := distances_any b N sN w5 hN8 hM5
        have HD := Lib.hid hd
        clear hd hM5 hb5
        go_wp2_with fail
        refine HD.out.mono ?_
        rintro e w6 ⟨B, cb, rfl, ho, hb6⟩
        go_wp2_with fail
        go_ret2
        have h := shortR_yes (n := N) (u := u) (es := es) HO.out.symm hu (by rw [← HCH.out]; exact H1.out)
        rw [← HSN.out] at h
        refine ⟨B, N, cb, by rw [h]; rfl, by rw [h]; exact (distZ_length _ _).symm, ?_, B5.trans (hb6.mono B5.size)⟩
        rw [h, ← distL_eq]
        exact own_base ho B5.size
      · have hbc : (ch != -1) = true := by simp [h1]
        have H1 := Lib.hid h1
        clear h1
        go_wp2_with fail
        refine HSE.out.mono ?_
        rintro e w5 ⟨rfl, hM5, hb5⟩
        have B5 : Below w.heap.size w w5 := HB.out.trans (hb5.mono (by omega))
        clear hM5 hb5
        go_wp2_with fail
        go_ret2
        have h := shortR_neg (n := N) (u := u) (es := es) (by rw [← HCH.out]; exact H1.out)
        exact ⟨none, 0, 0, by rw [h]; rfl, by rw [h]; rfl, by rw [h]; exact ⟨rfl, .inl ⟨rfl, rfl⟩⟩, B5⟩
    · rw [decide_eq_false hzn] at hin
      have HI := Lib.hid hin
      have HZ := Lib.hid hzn
      clear hin hzn
      unfold grV at HG HI ⊢
      go_enter Try.func95, Try.ntmps95
      go_wp2_with fail
      refine (HG.out _ (HR.out.below (by repeat (first | exact Below.refl _ _ | refine below_step (by assumption) (by first | omega | (simp; done) | (simp; omega)) ?_ | refine below_drewN ?_ _ | refine Below.drew ?_ | refine Below.setCell ?_ (by first | omega | (simp; done) | (simp; omega)) _ | refine Below.alloc ?_ (by first | omega | (simp; done) | (simp; omega)) _)))).mono ?_
      rintro e w1 ⟨rfl, b1⟩
      have ka1 : w1.cell? ⟨w.heap.size, 0, none⟩ = some (.int .i64 (N : Int)) := (b1.cell (p := ⟨w.heap.size, 0, none⟩) (by first | omega | (simp; done) | (simp; omega))).trans (by first | assumption | go_simp)
      have kb1 : w1.cell? ⟨w.heap.size, 1, none⟩ = some (.slice A k c) := (b1.cell (p := ⟨w.heap.size, 1, none⟩) (by first | omega | (simp; done) | (simp; omega))).trans (by first | assumption | go_simp)
      have sz1 : w.heap.size < w1.heap.size := Nat.lt_of_lt_of_le (by first | omega | (simp; done) | (simp; omega)) b1.size
      have B1 : Below w.heap.size w w1 := (by repeat (first | exact Below.refl _ _ | refine below_step (by assumption) (by first | omega | (simp; done) | (simp; omega)) ?_ | refine below_drewN ?_ _ | refine Below.drew ?_ | refine Below.setCell ?_ (by first | omega | (simp; done) | (simp; omega)) _ | refine Below.alloc ?_ (by first | omega | (simp; done) | (simp; omega)) _))
      clear b1
      go_wp2_with fail
      refine (HI.out _).mono ?_
      rintro e w2 ⟨rfl, b2⟩
      have B2 : Below w.heap.size w w2 := B1.trans (b2.mono (by omega))
      clear b2 B1
      go_wp2_with fail
      go_ret2
      have h := shortR_no (n := (N : Int)) (es := es) (z := z) (by rw [← HO.out, decide_eq_false HZ.out]; rfl)
      exact ⟨none, 0, 0, by rw [h]; rfl, by rw [h]; rfl, by rw [h]; exact ⟨rfl, .inl ⟨rfl, rfl⟩⟩, B2⟩

end Go.Proofs.Yteppmlepbfjnpaa

namespace Go.Proofs.Yteppmlepbfjnpaa
open Go.RowKit
set_option linter.unusedVariables false
set_option linter.unusedSimpArgs false

theorem own_apart {w : World} {B e n s : Nat} {v u : Value} {xs : List Value} (h : w.ownsRow B e s v n xs) (hu : ∀ q, u.ownBlock = some q → q < B) : v.ownBlock = none ∨ v.ownBlock ≠ u.ownBlock := by
  cases hv : v.ownBlock with
  | none => exact .inl rfl
  | some g => exact .inr (fun e => by have h1 := (h.lt g hv).1; have h2 := hu g e.symm; omega)
theorem World.cell?_lt {w : World} {b o : Nat} {v : Value} (h : w.cell? ⟨b, o, none⟩ = some v) : b < w.heap.size := by
  rcases Nat.lt_or_ge b w.heap.size with hlt | hge
  · exact hlt
  · have : w.heap[b]? = none := Array.getElem?_eq_none hge
    simp [World.cell?, this] at h
theorem shortR_len (n : Int) (es : List GE) (z : Int) : (shortR n es z).1.length ≤ 8 := by
  unfold shortR
  split
  · next h =>
    have h1 : okG n es = true := by have := h.1; simp only [Bool.and_eq_true] at this; exact this.1
    have := okG_rng h1
    rw [distZ_length]; omega
  · simp

end Go.Proofs.Yteppmlepbfjnpaa

namespace Go.Proofs.Yteppmlepbfjnpaa
open Go.RowKit
set_option linter.unusedVariables false
set_option linter.unusedSimpArgs false

/-- A grid that is filled row by row with h, the loops standing at i, k. -/
def fnS (N : Nat) (h : Nat → Nat → Int) (i k : Nat) : Nat → Int := fun p => if p / 8 < N ∧ p % 8 < N ∧ (p / 8 < i ∨ (p / 8 = i ∧ p % 8 < k)) then h (p / 8) (p % 8) else 0
theorem fnS_start (N : Nat) (h : Nat → Nat → Int) : fnS N h 0 0 = fun _ => 0 := by funext p; unfold fnS; rw [if_neg (by omega)]
theorem fnS_row (N : Nat) (h : Nat → Nat → Int) (i : Nat) : fnS N h i N = fnS N h (i + 1) 0 := by
  funext p; unfold fnS
  by_cases e : p / 8 < N ∧ p % 8 < N ∧ p / 8 < i + 1
  · rw [if_pos (by omega), if_pos (by omega)]
  · rw [if_neg (by omega), if_neg (by omega)]
theorem fnS_next {N i k : Nat} (h : Nat → Nat → Int) (hN : N ≤ 8) (hi : i < N) (hk : k < N) : upf (fnS N h i k) (i * 8 + k) (h i k) = fnS N h i (k + 1) := by
  funext p; unfold upf
  by_cases e : p = i * 8 + k
  · have e1 : p / 8 = i := by omega
    have e2 : p % 8 = k := by omega
    rw [if_pos e]; unfold fnS
    rw [e1, e2, if_pos (by omega)]
  · rw [if_neg e]; unfold fnS
    by_cases g : p / 8 < N ∧ p % 8 < N ∧ (p / 8 < i ∨ (p / 8 = i ∧ p % 8 < k))
    · rw [if_pos g, if_pos (by omega)]
    · rw [if_neg g, if_neg (by omega)]
theorem tab_fn {N : Nat} (h : Nat → Nat → Int) (hN : N ≤ 8) : tabG N (fnS N h N 0) N = (List.range N).flatMap fun i => (List.range N).map fun k => h i k := by
  unfold tabG
  have e : ∀ i ∈ List.range N, rowG N (fnS N h N 0) i = (List.range N).map fun k => h i k := by
    intro i hi
    have hi2 : i < N := by simpa using hi
    unfold rowG
    apply List.map_congr_left
    intro k hk
    have hk2 : k < N := by simpa using hk
    have e1 : (i * 8 + k) / 8 = i := by omega
    have e2 : (i * 8 + k) % 8 = k := by omega
    unfold fnS
    rw [e1, e2, if_pos (by omega)]
  rw [List.flatMap_def, List.flatMap_def, List.map_congr_left e]
def cgH (N : Nat) (es : List GE) (i k : Nat) : Int := clampI (distE (roundsE es (srcS i) N).1 k)
theorem tab_close {N : Nat} (es : List GE) (hN : N ≤ 8) : tabG N (fnS N (cgH N es) N 0) N = closeC N es := by
  rw [tab_fn _ hN]
  unfold closeC rowC distZ cgH
  simp [Function.comp_def]
theorem closeOk_all {N : Nat} {es : List GE} (h : ∀ p, p < N → (roundsE es (srcS p) N).2 = -1) : closeOk N es = true := by
  unfold closeOk; rw [List.all_eq_true]; intro p hp; exact decide_eq_true (h p (by simpa using hp))
theorem closeOk_not {N : Nat} {es : List GE} {i : Nat} (hi : i < N) (h : (roundsE es (srcS i) N).2 ≠ -1) : closeOk N es = false := by
  unfold closeOk; rw [List.all_eq_false]; exact ⟨i, by simpa using hi, by simpa using h⟩
def CgEnd (n : Int) (es : List GE) (w : World) (x : Ending) (w' : World) : Prop :=
  ∃ A k c, x = .returned (tgV (closeR n es).1 A k c (closeR n es).2.2) ∧ k = (closeR n es).2.1.length ∧ w'.ownsRow w.heap.size 3 1 (.slice A k c) k ((closeR n es).2.1.map intV) ∧ Below w.heap.size w w'
theorem closeR_no {n : Int} {es : List GE} (h : ¬ (okG n es = true ∧ closeOk n.toNat es = true)) : closeR n es = (0, [], false) := by unfold closeR; rw [if_neg h]
theorem closeR_yes {N : Nat} {es : List GE} (h : okG N es = true) (h2 : closeOk N es = true) : closeR N es = ((N : Int), closeC N es, true) := by unfold closeR; rw [if_pos ⟨h, by simpa using h2⟩]; simp
theorem CgEnd.no {n : Int} {es : List GE} {w w' : World} (h : ¬ (okG n es = true ∧ closeOk n.toNat es = true)) (hb : Below w.heap.size w w') : CgEnd n es w (.returned (.tuple #[.agg #[.int .i64 0, .slice none 0 0], .bool false])) w' := by
  unfold CgEnd; rw [closeR_no h]
  exact ⟨none, 0, 0, rfl, rfl, World.ownsRow_nil _ _ _ _, hb⟩
theorem row_other {W : World} {g o b q : Nat} {xs : List Value} {v : Value} (h : RowAt W (some ⟨g, o, none⟩) xs) (hg : g ≠ b) : RowAt (W.drew.setCell ⟨b, q, none⟩ v) (some ⟨g, o, none⟩) xs := by
  intro hx
  obtain ⟨g', o', hA, hg', hc⟩ := h hx
  injection hA with hA
  injection hA with h1 h2
  subst h1
  subst h2
  refine ⟨g, o, rfl, by simpa [World.setCell] using hg', fun j hj => ?_⟩
  rw [World.cell?_setCell_other _ _ _ _ (by intro h; simp only [Addr.mk.injEq] at h; omega)]
  exact hc j hj
theorem distZ_at (s : St) {j k : Nat} (h : k < j) : (distZ s j)[k]?.getD 0 = distE s k := by simp [distZ, h]

set_option maxRecDepth 100000 in
set_option maxHeartbeats 8000000 in
theorem impl_CloseGraph (n : Int) (es : List GE) (A : Option Addr) (k c : Nat) (w : World) (hn : es.length = k) (hk : k ≤ 1048576) (hr : EdgeAt w A es) :
    Calls Try.prog 78 #[grV n A k c] w fun e w' => CgEnd n es w e w' := by
  have hg := fun W h => impl_GraphOk n es A k c W hn hk h
  have HSF := Lib.hid (fun (z : Int) W h => impl_ShortestFrom n es A k c z W hn hk h)
  have HR := Lib.hid hr
  have HL := Lib.hid hn
  have hz := zero_grid
  clear hr hn
  obtain ⟨ok, hok⟩ : ∃ b, b = okG n es := ⟨_, rfl⟩
  rw [← hok] at hg
  have HG := Lib.hid hg
  have HO := Lib.hid hok.symm
  clear hok hg
  unfold grV at HG HSF ⊢
  cases ok with
  | false =>
    have HNO := Lib.hid (fun w' => CgEnd.no (n := n) (es := es) (w := w) (w' := w') (by rw [HO.out]; simp))
    go_enter Try.func78, Try.ntmps78
    go_wp2_with fail
    refine (HG.out _ (HR.out.below (by repeat (first | exact Below.refl _ _ | refine below_step (by assumption) (by first | omega | (simp; done) | (simp; omega)) ?_ | refine below_drewN ?_ _ | refine Below.drew ?_ | refine Below.setCell ?_ (by first | omega | (simp; done) | (simp; omega)) _ | refine Below.alloc ?_ (by first | omega | (simp; done) | (simp; omega)) _)))).mono ?_
    rintro e w1 ⟨rfl, b1⟩

    have k0_w1 : w1.cell? ⟨w.heap.size + 1, 0, none⟩ = some (.int .i64 0) := (b1.cell (p := ⟨w.heap.size + 1, 0, none⟩) (by first | omega | (simp; done) | (simp; omega))).trans (by first | assumption | go_simp)
    have k1_w1 : w1.cell? ⟨w.heap.size + 1, 1, none⟩ = some (.slice none 0 0) := (b1.cell (p := ⟨w.heap.size + 1, 1, none⟩) (by first | omega | (simp; done) | (simp; omega))).trans (by first | assumption | go_simp)
    have f0_w1 : w1.frozen? ⟨w.heap.size + 1, 0, none⟩ = false := (b1.frozen (p := ⟨w.heap.size + 1, 0, none⟩) (by first | omega | (simp; done) | (simp; omega))).trans (by first | assumption | go_simp)
    have f1_w1 : w1.frozen? ⟨w.heap.size + 1, 1, none⟩ = false := (b1.frozen (p := ⟨w.heap.size + 1, 1, none⟩) (by first | omega | (simp; done) | (simp; omega))).trans (by first | assumption | go_simp)
    have s0_w1 : w.heap.size + 1 < w1.heap.size := Nat.lt_of_lt_of_le (by first | omega | (simp; done) | (simp; omega)) b1.size
    have B_w1 : Below w.heap.size w w1 := (by repeat (first | exact Below.refl _ _ | refine below_step (by assumption) (by first | omega | (simp; done) | (simp; omega)) ?_ | refine below_drewN ?_ _ | refine Below.drew ?_ | refine Below.setCell ?_ (by first | omega | (simp; done) | (simp; omega)) _ | refine Below.alloc ?_ (by first | omega | (simp; done) | (simp; omega)) _))
    clear b1
    go_wp2_with fail
    refine bodyPost_ret (v := .tuple #[.agg #[.int .i64 0, .slice none 0 0], .bool false]) (by first | (simp [results, Try.results78, go_sem]; done) | simp [*, results, Try.results78, go_sem]) rfl (HNO.out _ (by repeat (first | exact Below.refl _ _ | refine below_step (by assumption) (by first | omega | (simp; done) | (simp; omega)) ?_ | refine below_drewN ?_ _ | refine Below.drew ?_ | refine Below.setCell ?_ (by first | omega | (simp; done) | (simp; omega)) _ | refine Below.alloc ?_ (by first | omega | (simp; done) | (simp; omega)) _)))
  | true =>
    have hrg := okG_rng HO.out
    obtain ⟨N, rfl⟩ : ∃ N : Nat, n = N := ⟨n.toNat, by omega⟩
    have hN8 : N ≤ 8 := by omega
    clear hrg
    have HTB := Lib.hid (fun W => table_any N (fnS N (cgH N es) N 0) W hN8)
    unfold grV at HTB
    go_enter Try.func78, Try.ntmps78
    go_wp2_with fail
    refine (HG.out _ (HR.out.below (by repeat (first | exact Below.refl _ _ | refine below_step (by assumption) (by first | omega | (simp; done) | (simp; omega)) ?_ | refine below_drewN ?_ _ | refine Below.drew ?_ | refine Below.setCell ?_ (by first | omega | (simp; done) | (simp; omega)) _ | refine Below.alloc ?_ (by first | omega | (simp; done) | (simp; omega)) _)))).mono ?_
    rintro e w1 ⟨rfl, b1⟩
    have k0_w1 : w1.cell? ⟨w.heap.size, 0, none⟩ = some (.int .i64 N) := (b1.cell (p := ⟨w.heap.size, 0, none⟩) (by first | omega | (simp; done) | (simp; omega))).trans (by first | assumption | go_simp)
    have k1_w1 : w1.cell? ⟨w.heap.size, 1, none⟩ = some (.slice A k c) := (b1.cell (p := ⟨w.heap.size, 1, none⟩) (by first | omega | (simp; done) | (simp; omega))).trans (by first | assumption | go_simp)
    have k2_w1 : w1.cell? ⟨w.heap.size + 1, 0, none⟩ = some (.int .i64 0) := (b1.cell (p := ⟨w.heap.size + 1, 0, none⟩) (by first | omega | (simp; done) | (simp; omega))).trans (by first | assumption | go_simp)
    have k3_w1 : w1.cell? ⟨w.heap.size + 1, 1, none⟩ = some (.slice none 0 0) := (b1.cell (p := ⟨w.heap.size + 1, 1, none⟩) (by first | omega | (simp; done) | (simp; omega))).trans (by first | assumption | go_simp)
    have f0_w1 : w1.frozen? ⟨w.heap.size + 1, 0, none⟩ = false := (b1.frozen (p := ⟨w.heap.size + 1, 0, none⟩) (by first | omega | (simp; done) | (simp; omega))).trans (by first | assumption | go_simp)
    have f1_w1 : w1.frozen? ⟨w.heap.size + 1, 1, none⟩ = false := (b1.frozen (p := ⟨w.heap.size + 1, 1, none⟩) (by first | omega | (simp; done) | (simp; omega))).trans (by first | assumption | go_simp)
    have s0_w1 : w.heap.size + 1 < w1.heap.size := Nat.lt_of_lt_of_le (by first | omega | (simp; done) | (simp; omega)) b1.size
    have B_w1 : Below w.heap.size w w1 := (by repeat (first | exact Below.refl _ _ | refine below_step (by assumption) (by first | omega | (simp; done) | (simp; omega)) ?_ | refine below_drewN ?_ _ | refine Below.drew ?_ | refine Below.setCell ?_ (by first | omega | (simp; done) | (simp; omega)) _ | refine Below.alloc ?_ (by first | omega | (simp; done) | (simp; omega)) _))
    clear b1
    obtain ⟨b4, hb4⟩ : ∃ b, b = w1.heap.size := ⟨_, rfl⟩
    obtain ⟨wz, hwz⟩ : ∃ wz, wz = w1.alloc (.cells (gridA fun _ => 0) 121) := ⟨_, rfl⟩
    have hG0 : GdAt wz b4 (fnS N (cgH N es) 0 0) := by rw [hwz, fnS_start]; exact GdAt.made hb4
    have bz : Below w1.heap.size w1 wz := by rw [hwz]; exact (Below.refl _ _).alloc (Nat.le_refl _) _
    have c0 : wz.cell? ⟨w.heap.size, 0, none⟩ = some (.int .i64 N) := (bz.cell (p := ⟨w.heap.size, 0, none⟩) (by dsimp only; omega)).trans k0_w1
    have c1 : wz.cell? ⟨w.heap.size, 1, none⟩ = some (.slice A k c) := (bz.cell (p := ⟨w.heap.size, 1, none⟩) (by dsimp only; omega)).trans k1_w1
    have c2 : wz.cell? ⟨w.heap.size + 1, 0, none⟩ = some (.int .i64 0) := (bz.cell (p := ⟨w.heap.size + 1, 0, none⟩) (by dsimp only; omega)).trans k2_w1
    have c3 : wz.cell? ⟨w.heap.size + 1, 1, none⟩ = some (.slice none 0 0) := (bz.cell (p := ⟨w.heap.size + 1, 1, none⟩) (by dsimp only; omega)).trans k3_w1
    have z0 : wz.frozen? ⟨w.heap.size + 1, 0, none⟩ = false := (bz.frozen (p := ⟨w.heap.size + 1, 0, none⟩) (by dsimp only; omega)).trans f0_w1
    have z1 : wz.frozen? ⟨w.heap.size + 1, 1, none⟩ = false := (bz.frozen (p := ⟨w.heap.size + 1, 1, none⟩) (by dsimp only; omega)).trans f1_w1
    have BZ : Below w.heap.size w wz := B_w1.trans (bz.mono B_w1.size)
    have hb4w : w.heap.size + 1 < b4 := by omega
    go_upto_region 4 with (fail)
    rw [← hwz, ← hb4]
    have HG0 := Lib.hid hG0
    clear hwz hb4 bz hG0 k0_w1 k1_w1 k2_w1 k3_w1 f0_w1 f1_w1 s0_w1 B_w1
    have m1 : (b4 = w.heap.size + 1) = False := eq_false (by omega)
    have m2 : (w.heap.size + 1 = b4) = False := eq_false (by omega)
    go_wp2_with fail
    go_loopw [16] (fun i wr => ∃ q : Nat, q ≤ N ∧ i = .int .i64 q ∧ (∀ p, p < q → (roundsE es (srcS p) N).2 = -1) ∧ GdAt wr b4 (fnS N (cgH N es) q 0) ∧ wr.cell? ⟨w.heap.size, 0, none⟩ = some (.int .i64 N) ∧ wr.cell? ⟨w.heap.size, 1, none⟩ = some (.slice A k c) ∧ wr.cell? ⟨w.heap.size + 1, 0, none⟩ = some (.int .i64 0) ∧ wr.cell? ⟨w.heap.size + 1, 1, none⟩ = some (.slice none 0 0) ∧ wr.frozen? ⟨w.heap.size + 1, 0, none⟩ = false ∧ wr.frozen? ⟨w.heap.size + 1, 1, none⟩ = false ∧ Below w.heap.size w wr) (fun i _ => N - (intOf i).toNat)
    case atStart => exact ⟨0, Nat.zero_le _, rfl, fun p hp => by omega, HG0.out, c0, c1, c2, c3, z0, z1, BZ⟩
    case round =>
      clear c0 c1 c2 c3 z0 z1 BZ HG0
      obtain ⟨i, hi, rfl, hall, hgd, c0, c1, c2, c3, z0, z1, hbw⟩ := hrel
      have HALL := Lib.hid hall
      have HGD := Lib.hid hgd
      have hlt4 := hgd.lt
      have hsz : w.heap.size + 1 < wr.heap.size := by omega
      clear hall hgd
      by_cases hiN : i < N
      · have hiN2 : (i : Int) < (N : Int) := by omega
        have hii : (i : Int) < 8 := by omega
        by_cases hrd : (roundsE es (srcS i) N).2 = -1
        · have hsf := HSF.out (i : Int)
          rw [shortR_yes HO.out hiN hrd] at hsf
          dsimp only at hsf
          have HS1 := Lib.hid hsf
          have HN1 := Lib.hid (upto_next (p := fun p => (roundsE es (srcS p) N).2 = -1) HALL.out hrd)
          clear hsf hrd
          go_wp2_with fail
          refine (HS1.out _ (HR.out.below hbw)).mono ?_
          rintro e w2 ⟨B, m, cb, rfl, hm, hown, b2⟩
          rw [distZ_length] at hm
          rw [hm] at hown ⊢
          have hrow := own_row hown
          have hown0 := hown
          have d0 : w2.cell? ⟨w.heap.size, 0, none⟩ = some (.int .i64 N) := (b2.cell (p := ⟨w.heap.size, 0, none⟩) (by dsimp only; omega)).trans c0
          have d1 : w2.cell? ⟨w.heap.size, 1, none⟩ = some (.slice A k c) := (b2.cell (p := ⟨w.heap.size, 1, none⟩) (by dsimp only; omega)).trans c1
          have d2 : w2.cell? ⟨w.heap.size + 1, 0, none⟩ = some (.int .i64 0) := (b2.cell (p := ⟨w.heap.size + 1, 0, none⟩) (by dsimp only; omega)).trans c2
          have d3 : w2.cell? ⟨w.heap.size + 1, 1, none⟩ = some (.slice none 0 0) := (b2.cell (p := ⟨w.heap.size + 1, 1, none⟩) (by dsimp only; omega)).trans c3
          have y0 : w2.frozen? ⟨w.heap.size + 1, 0, none⟩ = false := (b2.frozen (p := ⟨w.heap.size + 1, 0, none⟩) (by dsimp only; omega)).trans z0
          have y1 : w2.frozen? ⟨w.heap.size + 1, 1, none⟩ = false := (b2.frozen (p := ⟨w.heap.size + 1, 1, none⟩) (by dsimp only; omega)).trans z1
          have hgd2 := HGD.out.below b2 hlt4
          have B2 : Below w.heap.size w w2 := hbw.trans (b2.mono hbw.size)
          have hgB : ∀ g o, B = some ⟨g, o, none⟩ → wr.heap.size ≤ g := fun g o h => by subst h; exact (hown0.lt g rfl).1
          have HGB := Lib.hid hgB
          have HGD2 := Lib.hid hgd2
          have HRW := Lib.hid hrow
          clear hown hown0 hm b2 hgd2 hrow hgB c0 c1 c2 c3 z0 z1 hbw HGD
          go_wp2_with fail
          go_loopw [30] (fun i3 wr => ∃ q : Nat, q ≤ N ∧ i3 = .int .i64 q ∧ GdAt wr b4 (fnS N (cgH N es) i q) ∧ RowAt wr B ((distZ (roundsE es (srcS i) N).1 N).map intV) ∧ wr.cell? ⟨w.heap.size, 0, none⟩ = some (.int .i64 N) ∧ wr.cell? ⟨w.heap.size, 1, none⟩ = some (.slice A k c) ∧ wr.cell? ⟨w.heap.size + 1, 0, none⟩ = some (.int .i64 0) ∧ wr.cell? ⟨w.heap.size + 1, 1, none⟩ = some (.slice none 0 0) ∧ wr.frozen? ⟨w.heap.size + 1, 0, none⟩ = false ∧ wr.frozen? ⟨w.heap.size + 1, 1, none⟩ = false ∧ Below w.heap.size w wr) (fun i3 _ => N - (intOf i3).toNat)
          case atStart => exact ⟨0, Nat.zero_le _, rfl, HGD2.out, HRW.out, d0, d1, d2, d3, y0, y1, B2⟩
          case round =>
            clear d0 d1 d2 d3 y0 y1 B2 HGD2 HRW
            obtain ⟨j, hj, rfl, hgd, hrow, c0, c1, c2, c3, z0, z1, hbw⟩ := hrel
            have hlt5 := hgd.lt
            by_cases hjN : j < N
            · obtain ⟨g, o, rfl, hgl, hc⟩ := rowInts hrow (q := j) (by rw [distZ_length]; exact hjN)
              rw [distZ_at _ hjN] at hc
              have hgg := HGB.out g o rfl
              have hnx := fnS_next (cgH N es) hN8 hiN hjN
              have e1 := hgd.cell (j := i * 8 + j) (by omega)
              have e2 := hgd.free (i * 8 + j)
              obtain ⟨old, hold⟩ : ∃ x, x = fnS N (cgH N es) i j (i * 8 + j) := ⟨_, rfl⟩
              have hcg : cgH N es i j = clampI (distE (roundsE es (srcS i) N).1 j) := rfl
              obtain ⟨x, hx⟩ : ∃ x, x = distE (roundsE es (srcS i) N).1 j := ⟨_, rfl⟩
              rw [hcg, ← hx] at hnx
              rw [← hx] at hc
              rw [← hold] at e1
              have HA := Lib.hid (fun W : World => (impl_ClampBound x W).mono (R' := fun e w' => e = .returned (.int .i64 (clampI x)) ∧ w' = W) (fun e w' ⟨h1, h2⟩ => ⟨h1, h2.symm⟩))
              have HNX := Lib.hid hnx
              have HGD3 := Lib.hid hgd
              have HRW3 := Lib.hid hrow
              have hji : (j : Int) < 8 := by omega
              have hgb4 : g ≠ b4 := by omega
              clear hnx hgd hold hcg hx hgg hrow
              go_wp2_with fail
              refine wp_region_still_tail 6 (by kernel_rfl) (by kernel_rfl) ?_
              change wpStill _ _ (World.drew _) _ _ _
              simp only [List.take_succ_cons, List.take_zero, List.drop_succ_cons, List.drop_zero]
              repeat (first | still_step | still_call (HA.out _))
              refine wpStill_nil ?_
              change wpList _ _ _ _ _ (World.drew _)
              go_wp2_with fail
              go_roundw
              case rel => exact ⟨j + 1, by omega, by go_num, by rw [← HNX.out]; exact HGD3.out.drew.store (by omega) _, row_other HRW3.out hgb4, by go_simp, by go_simp, by go_simp, by go_simp, by go_simp, by go_simp, (by repeat (first | exact Below.refl _ _ | refine below_step (by assumption) (by first | omega | (simp; done) | (simp; omega)) ?_ | refine below_drewN ?_ _ | refine Below.drew ?_ | refine Below.setCell ?_ (by first | omega | (simp; done) | (simp; omega)) _ | refine Below.alloc ?_ (by first | omega | (simp; done) | (simp; omega)) _))⟩
              case measure => simp [intOf]; omega
            · have hjn : j = N := by omega
              rw [hjn, fnS_row] at hgd
              have HGD3 := Lib.hid hgd
              clear hgd hjn
              go_wp2_with fail
              go_roundw
              case rel => exact ⟨i + 1, by omega, by go_num, HN1.out, HGD3.out, c0, c1, c2, c3, z0, z1, hbw⟩
              case measure => simp [intOf]; omega
        · have HNO := Lib.hid (fun w' => CgEnd.no (n := (N : Int)) (es := es) (w := w) (w' := w') (by rw [Int.toNat_natCast, closeOk_not hiN hrd]; simp))
          have hsf := HSF.out (i : Int)
          rw [shortR_neg hrd] at hsf
          dsimp only at hsf
          have HS1 := Lib.hid hsf
          clear hsf hrd
          go_wp2_with fail
          refine (HS1.out _ (HR.out.below hbw)).mono ?_
          rintro e w2 ⟨B, m, cb, rfl, hm, hown, b2⟩
          have d0 : w2.cell? ⟨w.heap.size, 0, none⟩ = some (.int .i64 N) := (b2.cell (p := ⟨w.heap.size, 0, none⟩) (by dsimp only; omega)).trans c0
          have d1 : w2.cell? ⟨w.heap.size, 1, none⟩ = some (.slice A k c) := (b2.cell (p := ⟨w.heap.size, 1, none⟩) (by dsimp only; omega)).trans c1
          have d2 : w2.cell? ⟨w.heap.size + 1, 0, none⟩ = some (.int .i64 0) := (b2.cell (p := ⟨w.heap.size + 1, 0, none⟩) (by dsimp only; omega)).trans c2
          have d3 : w2.cell? ⟨w.heap.size + 1, 1, none⟩ = some (.slice none 0 0) := (b2.cell (p := ⟨w.heap.size + 1, 1, none⟩) (by dsimp only; omega)).trans c3
          have y0 : w2.frozen? ⟨w.heap.size + 1, 0, none⟩ = false := (b2.frozen (p := ⟨w.heap.size + 1, 0, none⟩) (by dsimp only; omega)).trans z0
          have y1 : w2.frozen? ⟨w.heap.size + 1, 1, none⟩ = false := (b2.frozen (p := ⟨w.heap.size + 1, 1, none⟩) (by dsimp only; omega)).trans z1
          have s2 : w.heap.size + 1 < w2.heap.size := Nat.lt_of_lt_of_le hsz b2.size
          have B2 : Below w.heap.size w w2 := hbw.trans (b2.mono hbw.size)
          clear hm hown b2
          go_wp2_with fail
          refine bodyPost_ret (v := .tuple #[.agg #[.int .i64 0, .slice none 0 0], .bool false]) (by first | (simp [results, Try.results78, go_sem]; done) | simp [*, results, Try.results78, go_sem]) rfl (HNO.out _ (by repeat (first | exact Below.refl _ _ | refine below_step (by assumption) (by first | omega | (simp; done) | (simp; omega)) ?_ | refine below_drewN ?_ _ | refine Below.drew ?_ | refine Below.setCell ?_ (by first | omega | (simp; done) | (simp; omega)) _ | refine Below.alloc ?_ (by first | omega | (simp; done) | (simp; omega)) _)))
      · have hin : i = N := by omega
        have hgd := HGD.out
        rw [hin] at hgd
        have hall := HALL.out
        rw [hin] at hall
        have HYES := Lib.hid (closeR_yes HO.out (closeOk_all hall))
        clear hall
        go_wp2_with (first | (refine wpList_load_row rfl 121 _ rfl b4 rfl 121 _ (0, 0) _ hgd Try.underlying121 rfl (size_grid _) ?_) | (go_at_call 96; refine (HTB.out _).mono ?_; rintro e w5 ⟨A5, c5, rfl, ho5, b5⟩; have HO5 := Lib.hid ho5; clear ho5; have k0_w5 : w5.cell? ⟨w.heap.size, 0, none⟩ = some (.int .i64 N) := (b5.cell (p := ⟨w.heap.size, 0, none⟩) (by first | omega | (simp; done) | (simp; omega))).trans (by first | assumption | go_simp); have k1_w5 : w5.cell? ⟨w.heap.size, 1, none⟩ = some (.slice A k c) := (b5.cell (p := ⟨w.heap.size, 1, none⟩) (by first | omega | (simp; done) | (simp; omega))).trans (by first | assumption | go_simp); have k2_w5 : w5.cell? ⟨w.heap.size + 1, 0, none⟩ = some (.int .i64 0) := (b5.cell (p := ⟨w.heap.size + 1, 0, none⟩) (by first | omega | (simp; done) | (simp; omega))).trans (by first | assumption | go_simp); have k3_w5 : w5.cell? ⟨w.heap.size + 1, 1, none⟩ = some (.slice none 0 0) := (b5.cell (p := ⟨w.heap.size + 1, 1, none⟩) (by first | omega | (simp; done) | (simp; omega))).trans (by first | assumption | go_simp); have f0_w5 : w5.frozen? ⟨w.heap.size + 1, 0, none⟩ = false := (b5.frozen (p := ⟨w.heap.size + 1, 0, none⟩) (by first | omega | (simp; done) | (simp; omega))).trans (by first | assumption | go_simp); have f1_w5 : w5.frozen? ⟨w.heap.size + 1, 1, none⟩ = false := (b5.frozen (p := ⟨w.heap.size + 1, 1, none⟩) (by first | omega | (simp; done) | (simp; omega))).trans (by first | assumption | go_simp); have s0_w5 : w.heap.size + 1 < w5.heap.size := Nat.lt_of_lt_of_le (by first | omega | (simp; done) | (simp; omega)) b5.size; have B_w5 : Below w.heap.size w w5 := (by repeat (first | exact Below.refl _ _ | refine below_step (by assumption) (by first | omega | (simp; done) | (simp; omega)) ?_ | refine below_drewN ?_ _ | refine Below.drew ?_ | refine Below.setCell ?_ (by first | omega | (simp; done) | (simp; omega)) _ | refine Below.alloc ?_ (by first | omega | (simp; done) | (simp; omega)) _))))
        refine bodyPost_ret (v := tgV N A5 (N * N) c5 true) (by first | (simp [results, Try.results78, go_sem, tgV, grV]; done) | simp [*, results, Try.results78, go_sem, tgV, grV]) rfl ?_
        unfold CgEnd
        rw [HYES.out]
        refine ⟨A5, N * N, c5, rfl, by rw [close_length], ?_, (by repeat (first | exact Below.refl _ _ | refine below_step (by assumption) (by first | omega | (simp; done) | (simp; omega)) ?_ | refine below_drewN ?_ _ | refine Below.drew ?_ | refine Below.setCell ?_ (by first | omega | (simp; done) | (simp; omega)) _ | refine Below.alloc ?_ (by first | omega | (simp; done) | (simp; omega)) _))⟩
        have ho6 := HO5.out
        rw [tab_close es hN8] at ho6
        refine own_base (B := wr.heap.size) ?_ (by omega)
        repeat (refine own_set ?_ _ _ (by dsimp only; omega))
        exact ho6

end Go.Proofs.Yteppmlepbfjnpaa

namespace Go.Proofs.Yteppmlepbfjnpaa
open Go.RowKit
set_option linter.unusedVariables false
set_option linter.unusedSimpArgs false

theorem cellR_no {n : Int} {cs : List Int} {i k : Int} (h : ¬ (okT n cs = true ∧ (0 ≤ i ∧ i < n) ∧ (0 ≤ k ∧ k < n))) : cellR n cs i k = 0 := by unfold cellR; rw [if_neg h]
theorem cellR_at {N i k : Nat} {cs : List Int} (h : okT N cs = true) (hi : i < N) (hk : k < N) : cellR N cs i k = atT N cs i k := by
  unfold cellR; rw [if_pos ⟨h, by omega, by omega⟩]; simp

end Go.Proofs.Yteppmlepbfjnpaa

namespace Go.Proofs.Yteppmlepbfjnpaa
open Go.RowKit
set_option linter.unusedVariables false
set_option linter.unusedSimpArgs false

set_option maxRecDepth 100000 in
set_option maxHeartbeats 1000000 in
theorem impl_orZero_true (l h : Int) (hkHO : okI l h = true) (w : World) :
    Calls Try.prog 77 #[ivV l h] w fun e w' => e = .returned (orZ (okI l h) l h) ∧ Below w.heap.size w w' := by
  rw [hkHO]
  have HO : Hid (∀ w : World, Calls Try.prog 52 #[ivV l h] w fun e w' => e = .returned (.bool true) ∧ ∃ q x y, w' = (((w.alloc (.cells #[.int .i64 l, .int .i64 h] 29)).alloc (.cells #[.int .i64 l, .int .i64 h] 29)).alloc (.cells #[.int .i64 x, .int .i64 y] 29)).drewN q) := Lib.hid fun w => by have := impl_IntervalOk l h w; rw [hkHO] at this; exact this
  clear hkHO
  unfold ivV at HO ⊢
  go_enter Try.func77, Try.ntmps77
  go_wp2_with (go_at_call_of 52 (Value.agg #[Value.int IntKind.i64 l, Value.int IntKind.i64 h]); refine (HO.out _).mono ?_; rintro e w1 ⟨rfl, q, x, y, rfl⟩)
  all_goals (go_wp2; refine bodyPost_ret (v := .agg #[.int .i64 l, .int .i64 h]) (by first | (simp [results, Try.results77, go_sem]; done) | simp [*, results, Try.results77, go_sem]) rfl ⟨rfl, (by repeat (first | exact Below.refl _ _ | refine Below.trans ?_ (Below.mono b1 (by (try simp) <;> omega)) | refine below_drewN ?_ _ | refine Below.drew ?_ | refine Below.setCell ?_ (by (try simp) <;> omega) _ | refine Below.alloc ?_ (by (try simp) <;> omega) _))⟩)

set_option maxRecDepth 100000 in
set_option maxHeartbeats 1000000 in
theorem impl_orZero_false (l h : Int) (hkHO : okI l h = false) (w : World) :
    Calls Try.prog 77 #[ivV l h] w fun e w' => e = .returned (orZ (okI l h) l h) ∧ Below w.heap.size w w' := by
  rw [hkHO]
  have HO : Hid (∀ w : World, Calls Try.prog 52 #[ivV l h] w fun e w' => e = .returned (.bool false) ∧ ∃ q x y, w' = (((w.alloc (.cells #[.int .i64 l, .int .i64 h] 29)).alloc (.cells #[.int .i64 l, .int .i64 h] 29)).alloc (.cells #[.int .i64 x, .int .i64 y] 29)).drewN q) := Lib.hid fun w => by have := impl_IntervalOk l h w; rw [hkHO] at this; exact this
  clear hkHO
  unfold ivV at HO ⊢
  go_enter Try.func77, Try.ntmps77
  go_wp2_with (go_at_call_of 52 (Value.agg #[Value.int IntKind.i64 l, Value.int IntKind.i64 h]); refine (HO.out _).mono ?_; rintro e w1 ⟨rfl, q, x, y, rfl⟩)
  all_goals (go_wp2; refine bodyPost_ret (v := .agg #[.int .i64 0, .int .i64 0]) (by first | (simp [results, Try.results77, go_sem]; done) | simp [*, results, Try.results77, go_sem]) rfl ⟨rfl, (by repeat (first | exact Below.refl _ _ | refine Below.trans ?_ (Below.mono b1 (by (try simp) <;> omega)) | refine below_drewN ?_ _ | refine Below.drew ?_ | refine Below.setCell ?_ (by (try simp) <;> omega) _ | refine Below.alloc ?_ (by (try simp) <;> omega) _))⟩)

theorem impl_orZero (l h : Int) (w : World) :
    Calls Try.prog 77 #[ivV l h] w fun e w' => e = .returned (orZ (okI l h) l h) ∧ Below w.heap.size w w' := by
  cases hk : okI l h with
  | true => have := impl_orZero_true l h hk w; rw [hk] at this; exact this
  | false => have := impl_orZero_false l h hk w; rw [hk] at this; exact this

end Go.Proofs.Yteppmlepbfjnpaa
