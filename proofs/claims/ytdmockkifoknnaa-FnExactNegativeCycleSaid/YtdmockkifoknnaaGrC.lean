/-
  WALKS of spec.IsNegativeCycle, isClosedWalk and impl.IsNegativeCycle.
-/
import Derived.Test.YtdmockkifoknnaaGrW
import Derived.Deep.RegionHeld3
import Derived.Deep.RegionWith
namespace Go.Proofs.Ytdmockkifoknnaa
open Go.RowKit
set_option linter.unusedVariables false
set_option linter.unusedSimpArgs false

def inE (es : List GE) (z : Int) : Bool := decide (0 ≤ z ∧ z < es.length)
def edE (es : List GE) (z : Int) : GE := (es[z.toNat]?).getD ⟨0, 0, 0⟩
def linkE (es : List GE) (zs : List Int) (j : Nat) : Bool :=
  match zs[j]?, zs[(j + zs.length - 1) % zs.length]? with
  | some z, some b => inE es z && inE es b && decide ((edE es b).v = (edE es z).u)
  | _, _ => false
def closedTo (es : List GE) (zs : List Int) : Nat → Bool
  | 0 => true
  | j + 1 => closedTo es zs j && linkE es zs j
theorem closedTo_not (es : List GE) (zs : List Int) {j : Nat} (h : linkE es zs j = false) : ∀ m, j < m → closedTo es zs m = false := by
  intro m hm
  induction m with
  | zero => omega
  | succ m ih =>
    unfold closedTo
    by_cases he : j = m
    · subst he; rw [h, Bool.and_false]
    · rw [ih (by omega), Bool.false_and]
theorem closedTo_next (es : List GE) (zs : List Int) {j : Nat} (h : linkE es zs j = true) (hj : closedTo es zs j = true) : closedTo es zs (j + 1) = true := by
  unfold closedTo; rw [h, hj]; rfl
def negC (n : Int) (es : List GE) (zs : List Int) : Bool := okG n es && decide (0 < zs.length) && closedTo es zs zs.length && decide (sumTo es zs zs.length < 0)

theorem link_eq (es : List GE) (zs : List Int) {j m : Nat} {z b : Int} (hm : zs.length = m) (hz : zs[j]? = some z) (hb : zs[(j + m - 1) % m]? = some b) :
    linkE es zs j = (inE es z && inE es b && decide ((edE es b).v = (edE es z).u)) := by
  subst hm
  unfold linkE; rw [hz, hb]
theorem edE_at (es : List GE) {q : Nat} {x : GE} (h : es[q]? = some x) : edE es (q : Int) = x := by simp [edE, h]

set_option maxRecDepth 100000 in
set_option maxHeartbeats 4000000 in
theorem spec_IsNegativeCycle (n : Int) (es : List GE) (A : Option Addr) (k c : Nat) (zs : List Int) (B : Option Addr) (m cb : Nat) (w : World) (hn : es.length = k) (hk : k ≤ 1048576) (hzl : zs.length = m) (hm : m ≤ 1048576) (hr : EdgeAt w A es) (hz : RowAt w B (zs.map intV)) :
    Calls Try.prog 21 #[grV n A k c, .slice B m cb] w fun e w' => e = .returned (.bool (negC n es zs)) ∧ Below w.heap.size w w' := by
  have hg := fun W h => spec_GraphOk n es A k c W hn hk h
  have HR := Lib.hid hr
  have HZ := Lib.hid hz
  have HL := Lib.hid hn
  have HM := Lib.hid hzl
  clear hr hz hn hzl
  obtain ⟨ok, hok⟩ : ∃ b, b = okG n es := ⟨_, rfl⟩
  rw [← hok] at hg
  have HO := Lib.hid hok
  clear hok
  unfold grV at hg ⊢
  cases ok with
  | false =>
    go_enter Try.func21, Try.ntmps21
    go_wp2_with (go_at_call 9; refine (hg _ (HR.out.below (by repeat (first | exact Below.refl _ _ | refine below_step (by assumption) (by first | omega | (simp; done) | (simp; omega)) ?_ | refine below_drewN ?_ _ | refine Below.drew ?_ | refine Below.setCell ?_ (by first | omega | (simp; done) | (simp; omega)) _ | refine Below.alloc ?_ (by first | omega | (simp; done) | (simp; omega)) _)))).mono ?_; rintro e w1 ⟨rfl, b1⟩; have ka : w1.cell? ⟨w.heap.size, 0, none⟩ = some (.int .i64 n) := (b1.cell (p := ⟨w.heap.size, 0, none⟩) (by first | omega | (simp; done) | (simp; omega))).trans (by first | assumption | go_simp); have kb : w1.cell? ⟨w.heap.size, 1, none⟩ = some (.slice A k c) := (b1.cell (p := ⟨w.heap.size, 1, none⟩) (by first | omega | (simp; done) | (simp; omega))).trans (by first | assumption | go_simp); have ks : w.heap.size < w1.heap.size := Nat.lt_of_lt_of_le (by first | omega | (simp; done) | (simp; omega)) b1.size)
    go_ret
    exact ⟨ret_b (by unfold negC; rw [← HO.out]; rfl), (by repeat (first | exact Below.refl _ _ | refine below_step (by assumption) (by first | omega | (simp; done) | (simp; omega)) ?_ | refine below_drewN ?_ _ | refine Below.drew ?_ | refine Below.setCell ?_ (by first | omega | (simp; done) | (simp; omega)) _ | refine Below.alloc ?_ (by first | omega | (simp; done) | (simp; omega)) _))⟩
  | true =>
    by_cases h0 : m = 0
    · have hm0 : ((m : Int) == 0) = true := by simp [h0]
      go_enter Try.func21, Try.ntmps21
      go_wp2_with (go_at_call 9; refine (hg _ (HR.out.below (by repeat (first | exact Below.refl _ _ | refine below_step (by assumption) (by first | omega | (simp; done) | (simp; omega)) ?_ | refine below_drewN ?_ _ | refine Below.drew ?_ | refine Below.setCell ?_ (by first | omega | (simp; done) | (simp; omega)) _ | refine Below.alloc ?_ (by first | omega | (simp; done) | (simp; omega)) _)))).mono ?_; rintro e w1 ⟨rfl, b1⟩; have ka : w1.cell? ⟨w.heap.size, 0, none⟩ = some (.int .i64 n) := (b1.cell (p := ⟨w.heap.size, 0, none⟩) (by first | omega | (simp; done) | (simp; omega))).trans (by first | assumption | go_simp); have kb : w1.cell? ⟨w.heap.size, 1, none⟩ = some (.slice A k c) := (b1.cell (p := ⟨w.heap.size, 1, none⟩) (by first | omega | (simp; done) | (simp; omega))).trans (by first | assumption | go_simp); have ks : w.heap.size < w1.heap.size := Nat.lt_of_lt_of_le (by first | omega | (simp; done) | (simp; omega)) b1.size)
      go_ret
      exact ⟨ret_b (by unfold negC; rw [HM.out, h0]; simp), (by repeat (first | exact Below.refl _ _ | refine below_step (by assumption) (by first | omega | (simp; done) | (simp; omega)) ?_ | refine below_drewN ?_ _ | refine Below.drew ?_ | refine Below.setCell ?_ (by first | omega | (simp; done) | (simp; omega)) _ | refine Below.alloc ?_ (by first | omega | (simp; done) | (simp; omega)) _))⟩
    · have hm0 : ((m : Int) == 0) = false := by simp [h0]
      have HP : Hid (negC n es zs = (closedTo es zs m && decide (sumTo es zs m < 0))) := Lib.hid (by unfold negC; rw [← HO.out, HM.out, show decide (0 < m) = true from by simp; omega]; simp)
      go_enter Try.func21, Try.ntmps21
      go_wp2_with (go_at_call 9; refine (hg _ (HR.out.below (by repeat (first | exact Below.refl _ _ | refine below_step (by assumption) (by first | omega | (simp; done) | (simp; omega)) ?_ | refine below_drewN ?_ _ | refine Below.drew ?_ | refine Below.setCell ?_ (by first | omega | (simp; done) | (simp; omega)) _ | refine Below.alloc ?_ (by first | omega | (simp; done) | (simp; omega)) _)))).mono ?_; rintro e w1 ⟨rfl, b1⟩; have ka : w1.cell? ⟨w.heap.size, 0, none⟩ = some (.int .i64 n) := (b1.cell (p := ⟨w.heap.size, 0, none⟩) (by first | omega | (simp; done) | (simp; omega))).trans (by first | assumption | go_simp); have kb : w1.cell? ⟨w.heap.size, 1, none⟩ = some (.slice A k c) := (b1.cell (p := ⟨w.heap.size, 1, none⟩) (by first | omega | (simp; done) | (simp; omega))).trans (by first | assumption | go_simp); have ks : w.heap.size < w1.heap.size := Nat.lt_of_lt_of_le (by first | omega | (simp; done) | (simp; omega)) b1.size)
      go_loopw [5, 19] (fun s i wr => ∃ j : Nat, j ≤ m ∧ i = .int .i64 j ∧ s = .int .i64 (sumTo es zs j) ∧ closedTo es zs j = true ∧ wr.cell? ⟨w.heap.size, 1, none⟩ = some (.slice A k c) ∧ Below w.heap.size w wr ∧ w.heap.size < wr.heap.size) (fun _ i _ => m - (intOf i).toNat)
      case atStart => exact ⟨0, Nat.zero_le _, rfl, rfl, rfl, kb, (by repeat (first | exact Below.refl _ _ | refine below_step (by assumption) (by first | omega | (simp; done) | (simp; omega)) ?_ | refine below_drewN ?_ _ | refine Below.drew ?_ | refine Below.setCell ?_ (by first | omega | (simp; done) | (simp; omega)) _ | refine Below.alloc ?_ (by first | omega | (simp; done) | (simp; omega)) _)), ks⟩
      case round =>
        clear b1 ka kb ks hg
        obtain ⟨j, hj, rfl, rfl, hcl, hca, hbw, hsz⟩ := hrel
        have HCL := Lib.hid hcl
        clear hcl
        by_cases hlt : j < m
        · obtain ⟨g, o, rfl, hg, hc⟩ := HZ.out (by have := HM.out; simp; omega)
          have hpm : (j + m - 1) % m < m := Nat.mod_lt _ (by omega)
          obtain ⟨p, hp⟩ : ∃ p, p = (j + m - 1) % m := ⟨_, rfl⟩
          have hpi : Int.tmod ((j : Int) + m - 1) m = (p : Int) := by
            rw [hp, show ((j : Int) + m - 1) = ((j + m - 1 : Nat) : Int) from by omega]; rfl
          have hpi2 : ((j : Int) + m - 1) % m = (p : Int) := by
            rw [hp, show ((j : Int) + m - 1) = ((j + m - 1 : Nat) : Int) from by omega]; rfl
          rw [← hp] at hpm
          obtain ⟨z, hz1, hz2⟩ : ∃ z : Int, wr.cell? ⟨g, o + j, none⟩ = some (.int .i64 z) ∧ zs[j]? = some z := by
            have hl := HM.out
            exact ⟨zs[j]'(by omega), (hbw.cell (p := ⟨g, o + j, none⟩) hg).trans ((hc j (by simp; omega)).trans (by rw [List.getElem_map]; rfl)), List.getElem?_eq_getElem (by omega)⟩
          obtain ⟨b, hb1, hb2⟩ : ∃ b : Int, wr.cell? ⟨g, o + p, none⟩ = some (.int .i64 b) ∧ zs[p]? = some b := by
            have hl := HM.out
            exact ⟨zs[p]'(by omega), (hbw.cell (p := ⟨g, o + p, none⟩) hg).trans ((hc p (by simp; omega)).trans (by rw [List.getElem_map]; rfl)), List.getElem?_eq_getElem (by omega)⟩
          have hlk := link_eq es zs HM.out hz2 (by rw [← hp]; exact hb2)
          have HZ2 := Lib.hid hz2
          clear hc hz2 hb2 hp
          have hrng := sumTo_rng HO.out.symm zs j
          have hwk : IntKind.i64.wrap ((k : Int) - 1) = (k : Int) - 1 := (IntWalk.i64_left _).trans (IntWalk.wrap64_in _ (by omega))
          have hcz := l01In_any z 0 ((k : Int) - 1)
          have hcb := l01In_any b 0 ((k : Int) - 1)
          by_cases hin : 0 ≤ z ∧ z < (k : Int)
          · rw [show (decide ((0 : Int) ≤ z) && decide (z ≤ (k : Int) - 1)) = true from by simp; omega] at hcz
            rw [show inE es z = true from by unfold inE; rw [HL.out]; exact decide_eq_true hin] at hlk
            have HCZ := Lib.hid hcz
            clear hcz
            obtain ⟨q, rfl⟩ : ∃ q : Nat, z = q := ⟨z.toNat, by omega⟩
            have hq : q < k := by omega
            obtain ⟨g', o', rfl, hg', hc'⟩ := HR.out (by have := HL.out; omega)
            obtain ⟨x, hxu, hxc, hx⟩ : ∃ x : GE, wr.cell? ⟨g', o' + q * 3, none⟩ = some (.int .i64 x.u) ∧ wr.cell? ⟨g', o' + q * 3 + 2, none⟩ = some (.int .i64 x.c) ∧ es[q]? = some x := by
              have hl := HL.out
              exact ⟨es[q]'(by omega), (hbw.cell (p := ⟨g', o' + q * 3, none⟩) hg').trans (hc' q (by omega)).1, (hbw.cell (p := ⟨g', o' + q * 3 + 2, none⟩) hg').trans (hc' q (by omega)).2.2, List.getElem?_eq_getElem (by omega)⟩
            have hxr := (okG_edge HO.out.symm hx).2.2
            have HS := Lib.hid (sumTo_in HZ2.out hx)
            rw [edE_at es hx] at hlk
            by_cases hbn : 0 ≤ b ∧ b < (k : Int)
            · rw [show (decide ((0 : Int) ≤ b) && decide (b ≤ (k : Int) - 1)) = true from by simp; omega] at hcb
              rw [show inE es b = true from by unfold inE; rw [HL.out]; exact decide_eq_true hbn] at hlk
              have HCB : Hid (∀ (W : World) (q : Nat), Calls Try.prog 27 #[.int .i64 b, .int .i64 0, .int .i64 ((k : Int) - 1)] (W.drewN q) fun e w'' => e = .returned (.bool true) ∧ ∃ n, w'' = W.drewN n) := Lib.hid (fun W q => (hcb (W.drewN q)).mono (by rintro e w3 ⟨rfl, rfl⟩; exact ⟨rfl, q, rfl⟩))
              clear hcb
              obtain ⟨r, rfl⟩ : ∃ r : Nat, b = r := ⟨b.toNat, by omega⟩
              have hr : r < k := by omega
              obtain ⟨y, hyv, hy⟩ : ∃ y : GE, wr.cell? ⟨g', o' + r * 3 + 1, none⟩ = some (.int .i64 y.v) ∧ es[r]? = some y := by
                have hl := HL.out
                exact ⟨es[r]'(by omega), (hbw.cell (p := ⟨g', o' + r * 3 + 1, none⟩) hg').trans (hc' r (by omega)).2.1, List.getElem?_eq_getElem (by omega)⟩
              rw [edE_at es hy] at hlk
              have HLK := Lib.hid hlk
              clear hlk hx hy hc'
              by_cases hvu : y.v = x.u
              · have hne : (y.v != x.u) = false := by simp [hvu]
                have hne2 : ((x.u : Int) != x.u) = false := by simp
                go_wp2_with (first | (go_at_call_of 27 (Value.int .i64 (q : Int)); refine (HCZ.out _).mono ?_; rintro e w2 ⟨rfl, rfl⟩))
                go_quiet ((go_at_call_of 27 (Value.int .i64 (r : Int)); exact HCB.out _ _))
                all_goals
                  go_wp2_with fail
                  go_roundw
                  case rel => exact ⟨j + 1, by omega, by go_num, by rw [HS.out], closedTo_next es zs (by rw [HLK.out, hvu]; simp) HCL.out, by first | assumption | go_simp, below_drewN hbw _, (by first | omega | (simp; done) | (simp; omega))⟩
                  case measure => simp [intOf]; omega
              · have hne : (y.v != x.u) = true := by simp [hvu]
                go_wp2_with (first | (go_at_call_of 27 (Value.int .i64 (q : Int)); refine (HCZ.out _).mono ?_; rintro e w2 ⟨rfl, rfl⟩))
                go_quiet ((go_at_call_of 27 (Value.int .i64 (r : Int)); exact HCB.out _ _))
                all_goals
                  go_wp2_with fail
                  go_ret
                  exact ⟨ret_b (by rw [HP.out, closedTo_not es zs (by rw [HLK.out, decide_eq_false hvu]; rfl) m hlt]; rfl), (by repeat (first | exact Below.refl _ _ | refine below_step (by assumption) (by first | omega | (simp; done) | (simp; omega)) ?_ | refine below_drewN ?_ _ | refine Below.drew ?_ | refine Below.setCell ?_ (by first | omega | (simp; done) | (simp; omega)) _ | refine Below.alloc ?_ (by first | omega | (simp; done) | (simp; omega)) _))⟩
            · rw [show (decide ((0 : Int) ≤ b) && decide (b ≤ (k : Int) - 1)) = false from by simp; omega] at hcb
              rw [show inE es b = false from by unfold inE; rw [HL.out]; exact decide_eq_false hbn] at hlk
              have HCB : Hid (∀ (W : World) (q : Nat), Calls Try.prog 27 #[.int .i64 b, .int .i64 0, .int .i64 ((k : Int) - 1)] (W.drewN q) fun e w'' => e = .returned (.bool false) ∧ ∃ n, w'' = W.drewN n) := Lib.hid (fun W q => (hcb (W.drewN q)).mono (by rintro e w3 ⟨rfl, rfl⟩; exact ⟨rfl, q, rfl⟩))
              have HLK := Lib.hid hlk
              clear hcb hlk hx hc'
              go_wp2_with (first | (go_at_call_of 27 (Value.int .i64 (q : Int)); refine (HCZ.out _).mono ?_; rintro e w2 ⟨rfl, rfl⟩))
              go_quiet ((go_at_call 27; exact HCB.out _ _))
              all_goals
                go_wp2_with fail
                go_ret
                exact ⟨ret_b (by rw [HP.out, closedTo_not es zs (by rw [HLK.out]; rfl) m hlt]; rfl), (by repeat (first | exact Below.refl _ _ | refine below_step (by assumption) (by first | omega | (simp; done) | (simp; omega)) ?_ | refine below_drewN ?_ _ | refine Below.drew ?_ | refine Below.setCell ?_ (by first | omega | (simp; done) | (simp; omega)) _ | refine Below.alloc ?_ (by first | omega | (simp; done) | (simp; omega)) _))⟩
          · rw [show (decide ((0 : Int) ≤ z) && decide (z ≤ (k : Int) - 1)) = false from by simp; omega] at hcz
            rw [show inE es z = false from by unfold inE; rw [HL.out]; exact decide_eq_false hin] at hlk
            have HCZ := Lib.hid hcz
            have HLK := Lib.hid hlk
            clear hcz hcb hlk
            go_wp2_with (first | (go_at_call 27; refine (HCZ.out _).mono ?_; rintro e w2 ⟨rfl, rfl⟩))
            go_ret
            exact ⟨ret_b (by rw [HP.out, closedTo_not es zs (by rw [HLK.out]; rfl) m hlt]; rfl), hbw⟩
        · go_wp2_with fail
          go_ret
          have : j = m := by omega
          subst this
          exact ⟨ret_b (by rw [HP.out, HCL.out]; rfl), hbw⟩

end Go.Proofs.Ytdmockkifoknnaa
