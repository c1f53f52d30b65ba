/-
  WALK of spec.l08Nodes.
-/
import Derived.Test.YtgajodcgedhikaaGreatDoorBdShB
import Derived.Deep.RegionHeld3
import Derived.Deep.Cut
import Derived.Deep.CutRange
namespace Go.Proofs.YtgajodcgedhikaaGreatDoor
open Go.RowKit
set_option linter.unusedVariables false
set_option linter.unusedSimpArgs false

theorem ndsR_head {ns : List GN} (h : ndH ns = false) : ndsR ns = false := by unfold ndsR; rw [h]; rfl
theorem ndsR_A {ns : List GN} {j : Nat} (h : ndA ns j = false) (hj : j < ns.length) : ndsR ns = false := by
  have : allJ (ndA ns) ns.length = false := allJ_no (j := j + 1) (by rw [allJ_next, h, Bool.and_false]) (by omega)
  unfold ndsR; rw [this, Bool.false_and, Bool.and_false]
theorem ndsR_B {ns : List GN} {j : Nat} (h : ndB ns j = false) (hj : j < ns.length) : ndsR ns = false := by
  have : allJ (ndB ns) ns.length = false := allJ_no (j := j + 1) (by rw [allJ_next, h, Bool.and_false]) (by omega)
  unfold ndsR; rw [this, Bool.and_false, Bool.and_false]
theorem ndA_at {ns : List GN} {j : Nat} {e : GN} (h : ns[j]? = some e) : ndA ns j = (nodB e && (decide (namR ns e.name = j) && (decide (e.wat = 0) || decide (watR ns e.wat = j)))) := by unfold ndA; rw [h]; rfl
theorem ndB_at {ns : List GN} {j : Nat} {e : GN} (h : ns[j]? = some e) : ndB ns j = allJ (fun q => ndX ns e.lab (e.lab[q]?.getD 0)) e.lab.length := by unfold ndB; rw [h]; rfl
theorem ndA_lab {ns : List GN} {j : Nat} {e : GN} (h : ns[j]? = some e) (ha : ndA ns j = true) : labR e.lab = true := by
  rw [ndA_at h, Bool.and_eq_true] at ha
  have := ha.1
  unfold nodB at this
  rw [Bool.and_eq_true, Bool.and_eq_true] at this
  exact this.2.1
theorem watR_rng (ns : List GN) (p : Int) : watR ns p = -1 ∨ ∃ i, i < ns.length ∧ watR ns p = (i : Int) := by
  unfold watR
  rcases fir_rng (fun e : GN => decide (e.wat = p)) ns with h | ⟨j, hj, h, _⟩
  · exact .inl h
  · exact .inr ⟨j, hj, h⟩
theorem namR_rng (ns : List GN) (p : ByteArray) : namR ns p = -1 ∨ ∃ i, i < ns.length ∧ namR ns p = (i : Int) := by
  unfold namR
  rcases fir_rng (fun e : GN => decide (e.name = p)) ns with h | ⟨j, hj, h, _⟩
  · exact .inl h
  · exact .inr ⟨j, hj, h⟩
theorem ndX_no {ns : List GN} {l : List Int} {x : Int} (h : watR ns (absI x) < 0) : ndX ns l x = false := by unfold ndX; rw [decide_eq_false (by omega)]; rfl
theorem ndX_at {ns : List GN} {l : List Int} {x : Int} {i : Nat} {f : GN} (h : watR ns (absI x) = (i : Int)) (hf : ns[i]? = some f) : ndX ns l x = (!hasR f.lab x && (!hasR f.lab (-x) && impR l f.lab)) := by
  unfold ndX
  rw [h, decide_eq_true (by omega), Bool.true_and]
  have h1 : ((i : Int)).toNat = i := by omega
  rw [h1, hf]; rfl
theorem node_facts {w : World} {A : Option Addr} {ns : List GN} (h : NodesAt w A ns) {j : Nat} {e : GN} (he : ns[j]? = some e) : ∃ g o L c, A = some ⟨g, o, none⟩ ∧ g < w.heap.size ∧ w.cell? ⟨g, o + j * 3, none⟩ = some (.string e.name) ∧ w.cell? ⟨g, o + j * 3 + 1, none⟩ = some (.slice L e.lab.length c) ∧ w.cell? ⟨g, o + j * 3 + 2, none⟩ = some (.int .i64 e.wat) ∧ RowAt w L (e.lab.map intV) := by
  obtain ⟨hj, rfl⟩ := List.getElem?_eq_some_iff.1 he
  obtain ⟨g, o, hA, hg, hc⟩ := h (by omega)
  obtain ⟨c0, c2, L, c, c1, hr⟩ := hc j hj
  exact ⟨g, o, L, c, hA, hg, c0, c1, c2, hr⟩

theorem prop_below (x : Int) (h : -3 ≤ x ∧ x ≤ 3) (w : World) : Calls Tryz.prog 52 #[.int .i64 x] w fun e w' => e = .returned (.int .i64 (absI x)) ∧ Below w.heap.size w w' := (prop_any x h w).mono fun e w' k => ⟨k.1, by rw [← k.2]; exact Below.refl _ _⟩
theorem has_below (n : Int) (a : List Int) (A : Option Addr) (k c : Nat) (w : World) (hl : a.length = k) (hm : k ≤ 1048576) (hr : RowAt w A (a.map intV)) : Calls Tryz.prog 53 #[.slice A k c, .int .i64 n] w fun e w' => e = .returned (.bool (hasR a n)) ∧ Below w.heap.size w w' := (has_any n a A k c w hl hm hr).mono fun e w' k => ⟨k.1, by first | (rw [← k.2]; exact Below.refl _ _) | (rw [k.2]; exact Below.refl _ _)⟩
theorem imp_below (a b : List Int) (A : Option Addr) (k c : Nat) (B : Option Addr) (m d : Nat) (w : World) (hl : a.length = k) (hm : k ≤ 1048576) (hlb : b.length = m) (hmb : m ≤ 1048576) (hr : RowAt w A (a.map intV)) (hrb : RowAt w B (b.map intV)) : Calls Tryz.prog 54 #[.slice A k c, .slice B m d] w fun e w' => e = .returned (.bool (impR a b)) ∧ Below w.heap.size w w' := (spec_ImpliesLabel a b A k c B m d w hl hm hlb hmb hr hrb).mono fun e w' k => ⟨k.1, by first | (rw [← k.2]; exact Below.refl _ _) | (rw [k.2]; exact Below.refl _ _)⟩

set_option maxRecDepth 100000 in
set_option maxHeartbeats 16000000 in
theorem spec_l08Nodes (s : GS) (A : Option Addr) (k c : Nat) (B : Option Addr) (m d : Nat) (w : World) (hs : ShB s) (ha : ShowAt w s A k B m) :
    Calls Tryz.prog 30 #[shV A k c B m d s.h] w fun e w' => e = .returned (.bool (ndsR s.ns)) ∧ Below w.heap.size w w' := by
  have hkk : k ≤ 1048576 := by have := hs.ns; have := ha.ln; omega
  have HLN := Lib.hid ha.ln
  have HEACH := Lib.hid hs.each
  have HWT := Lib.hid (fun p W h => spec_l08Watcher s p A k c B m d W hkk h)
  have HNN := Lib.hid (fun p W h => spec_NodeNamed s p A k c B m d W hkk h)
  have HA := Lib.hid ha
  clear ha hs
  obtain ⟨h, hh⟩ : ∃ h, h = s.h := ⟨_, rfl⟩
  rw [← hh] at HWT HNN
  rw [← hh]
  clear hh
  unfold shV at HWT HNN ⊢
  have hin := l01In_any (k : Int) 1 7
  by_cases h17 : 1 ≤ k ∧ k ≤ 7
  · have hb : (decide ((1 : Int) ≤ k) && decide ((k : Int) ≤ 7)) = true := by rw [decide_eq_true (by omega), decide_eq_true (by omega)]; rfl
    rw [hb] at hin
    have HIN := Lib.hid hin
    clear hin hb
    obtain ⟨f0, hf0⟩ : ∃ f, s.ns[0]? = some f := ⟨_, List.getElem?_eq_getElem (by have := HLN.out; omega)⟩
    obtain ⟨g, o, L0, cl0, rfl, hg, n0, n1, n2, _⟩ := node_facts HA.out.nodes hf0
    rw [Nat.zero_mul, Nat.add_zero] at n0 n1 n2
    obtain ⟨nl, hq0⟩ : ∃ q, q = f0.lab.length := ⟨_, rfl⟩
    rw [← hq0] at n1
    have HH : Hid (ndH s.ns = (decide (nl = 0) && decide (f0.wat = 0))) := Lib.hid (by
      unfold ndH
      rw [hf0, decide_eq_true (by have := HLN.out; omega), Bool.true_and, hq0]; rfl)
    obtain ⟨w1, hw1⟩ : ∃ W, W = w.alloc (.cells #[.slice (some ⟨g, o, none⟩) k c, .slice B m d, .int .i64 h] 25) := ⟨_, rfl⟩
    have B_w1 : Below w.heap.size w w1 := by rw [hw1]; exact (Below.refl _ _).alloc (Nat.le_refl _) _
    have z_w1 : w.heap.size < w1.heap.size := by rw [hw1]; simp
    have c0_w1 : w1.cell? ⟨w.heap.size, 0, none⟩ = some (.slice (some ⟨g, o, none⟩) k c) := by rw [hw1]; go_simp
    have c1_w1 : w1.cell? ⟨w.heap.size, 1, none⟩ = some (.slice B m d) := by rw [hw1]; go_simp
    have c2_w1 : w1.cell? ⟨w.heap.size, 2, none⟩ = some (.int .i64 h) := by rw [hw1]; go_simp
    have m0 := (B_w1.cell (p := ⟨g, o, none⟩) hg).trans n0
    have m1 := (B_w1.cell (p := ⟨g, o + 1, none⟩) hg).trans n1
    have m2 := (B_w1.cell (p := ⟨g, o + 2, none⟩) hg).trans n2
    have HA1 := Lib.hid (HA.out.below B_w1)
    have BW1 := Lib.hid B_w1
    have HW1 := Lib.hid hw1
    have C1 := Lib.hid (And.intro c0_w1 (And.intro c1_w1 c2_w1))
    clear hf0 hq0 n0 n1 n2 hw1 B_w1
    have hk0 : (0 : Int) < (k : Int) := by omega
    go_enter Tryz.func30, Tryz.ntmps30
    go_wp2_with fail
    rw [← HW1.out]
    refine (HIN.out _).mono ?_
    rintro x wx ⟨rfl, rfl⟩
    by_cases hl0 : nl = 0
    · by_cases hw0 : f0.wat = 0
      · have hlb : ¬ ((0 : Int) < (nl : Int)) := by omega
        have hwb : (f0.wat != 0) = false := by simp [hw0]
        have HHT : Hid (ndH s.ns = true) := Lib.hid (by rw [HH.out, decide_eq_true hl0, decide_eq_true hw0]; rfl)
        clear hl0 hw0
        go_wp2_with fail
        clear m0 m1 m2 hlb hwb c0_w1 c1_w1 c2_w1
        obtain ⟨c0_w1, c1_w1, c2_w1⟩ := C1.out
        go_loopw [35] (fun i wr => ∃ j : Nat, j ≤ k ∧ i = .int .i64 j ∧ allJ (ndA s.ns) j = true ∧ Below w1.heap.size w1 wr) (fun i _ => k - (intOf i).toNat)
        case atStart => exact ⟨0, Nat.zero_le _, rfl, rfl, Below.refl _ _⟩
        case round =>
          obtain ⟨j, hj, rfl, hall, hbw⟩ := hrel
          have HALL := Lib.hid hall
          clear hall
          by_cases hlt : j < k
          · have hjk : ((j : Int) < (k : Int)) := by omega
            obtain ⟨e, he⟩ : ∃ f, s.ns[j]? = some f := ⟨_, List.getElem?_eq_getElem (by have := HLN.out; omega)⟩
            obtain ⟨g2, o2, L, cl, hA2, _, d0, d1, d2, hrow⟩ := node_facts HA1.out.nodes he
            injection hA2 with hA2
            injection hA2 with hA3 hA4
            subst hA3 hA4
            have hg1 : g < w1.heap.size := by have := BW1.out.size; omega
            have HEQ := Lib.hid (ndA_at he)
            have hem := HEACH.out e (List.mem_of_getElem? he)
            obtain ⟨q, hq⟩ : ∃ q, q = e.lab.length := ⟨_, rfl⟩
            rw [← hq] at d1 hem
            have HNO := Lib.hid (fun W h => spec_NodeOk e L cl q W hq.symm hem.2 (by unfold maxLen; omega) h)
            have k0 := (hbw.cell (p := ⟨g, o + j * 3, none⟩) hg1).trans d0
            have k1 := (hbw.cell (p := ⟨g, o + j * 3 + 1, none⟩) hg1).trans d1
            have k2 := (hbw.cell (p := ⟨g, o + j * 3 + 2, none⟩) hg1).trans d2
            have HROW := Lib.hid (hrow.below hbw)
            have HAR := Lib.hid (HA1.out.below hbw)
            have BW := Lib.hid hbw
            have zr := hbw.size
            have zw := Nat.lt_of_lt_of_le z_w1 zr
            have c0_wr := (hbw.cell (p := ⟨w.heap.size, 0, none⟩) z_w1).trans c0_w1
            have c1_wr := (hbw.cell (p := ⟨w.heap.size, 1, none⟩) z_w1).trans c1_w1
            have c2_wr := (hbw.cell (p := ⟨w.heap.size, 2, none⟩) z_w1).trans c2_w1
            have n1 : (wr.heap.size = w.heap.size) = False := eq_false (by omega)
            have n2 : (w.heap.size = wr.heap.size) = False := eq_false (by omega)
            have HBAD := Lib.hid (fun (hx : ndA s.ns j = false) => ndsR_A hx (by have := HLN.out; omega))
            have HGOOD := Lib.hid (fun (hx : ndA s.ns j = true) => (show allJ (ndA s.ns) (j + 1) = true from by rw [allJ_next, HALL.out, hx]; rfl))
            obtain ⟨b1, hb1⟩ : ∃ b, b = nodB e := ⟨_, rfl⟩
            rw [← hb1] at HNO HEQ
            obtain ⟨x1, hx1⟩ : ∃ b, b = namR s.ns e.name := ⟨_, rfl⟩
            have hnn := fun W h => HNN.out e.name W h
            rw [← hx1] at HEQ hnn
            have HN := Lib.hid hnn
            obtain ⟨x2, hx2⟩ : ∃ b, b = watR s.ns e.wat := ⟨_, rfl⟩
            have hww := fun W h => HWT.out e.wat W h
            rw [← hx2] at HEQ hww
            have HW := Lib.hid hww
            clear he hrow hq hem d0 d1 d2 hbw hb1 hx1 hnn hx2 hww c0_w1 c1_w1 c2_w1
            cases b1 with
            | false =>
              have hbw0 := BW.out
              go_wp2_with fail
              refine (HNO.out _ (HROW.out.below (by repeat (first | exact Below.refl _ _ | refine below_step (by assumption) (by first | omega | (simp; done) | (simp; omega)) ?_ | refine below_drewN ?_ _ | refine Below.drew ?_ | refine Below.setCell ?_ (by first | omega | (simp; done) | (simp; omega)) _ | refine Below.alloc ?_ (by first | omega | (simp; done) | (simp; omega)) _)))).mono ?_
              rintro e w3 ⟨rfl, b3⟩
              have c0_w3 : w3.cell? ⟨w.heap.size, 0, none⟩ = some (.slice (some ⟨g, o, none⟩) k c) := (b3.cell (p := ⟨w.heap.size, 0, none⟩) (by first | omega | (simp; done) | (simp; omega))).trans (by first | assumption | go_simp)
              have c1_w3 : w3.cell? ⟨w.heap.size, 1, none⟩ = some (.slice B m d) := (b3.cell (p := ⟨w.heap.size, 1, none⟩) (by first | omega | (simp; done) | (simp; omega))).trans (by first | assumption | go_simp)
              have c2_w3 : w3.cell? ⟨w.heap.size, 2, none⟩ = some (.int .i64 h) := (b3.cell (p := ⟨w.heap.size, 2, none⟩) (by first | omega | (simp; done) | (simp; omega))).trans (by first | assumption | go_simp)
              have c3_w3 : w3.cell? ⟨wr.heap.size, 0, none⟩ = some (.string e.name) := (b3.cell (p := ⟨wr.heap.size, 0, none⟩) (by first | omega | (simp; done) | (simp; omega))).trans (by first | assumption | go_simp)
              have c4_w3 : w3.cell? ⟨wr.heap.size, 1, none⟩ = some (.slice L q cl) := (b3.cell (p := ⟨wr.heap.size, 1, none⟩) (by first | omega | (simp; done) | (simp; omega))).trans (by first | assumption | go_simp)
              have c5_w3 : w3.cell? ⟨wr.heap.size, 2, none⟩ = some (.int .i64 e.wat) := (b3.cell (p := ⟨wr.heap.size, 2, none⟩) (by first | omega | (simp; done) | (simp; omega))).trans (by first | assumption | go_simp)
              have B_w3 : Below w1.heap.size w1 w3 := (by repeat (first | exact Below.refl _ _ | refine below_step (by assumption) (by first | omega | (simp; done) | (simp; omega)) ?_ | refine below_drewN ?_ _ | refine Below.drew ?_ | refine Below.setCell ?_ (by first | omega | (simp; done) | (simp; omega)) _ | refine Below.alloc ?_ (by first | omega | (simp; done) | (simp; omega)) _))
              have z_w3 := B_w3.size
              have s0_w3 : w.heap.size < w3.heap.size := Nat.lt_of_lt_of_le (by first | omega | (simp; done) | (simp; omega)) b3.size
              have s1_w3 : wr.heap.size < w3.heap.size := Nat.lt_of_lt_of_le (by first | omega | (simp; done) | (simp; omega)) b3.size
              clear b3 
              clear hbw0
              go_wp2_with fail
              go_ret
              exact ⟨ret_b (HBAD.out (by rw [HEQ.out]; rfl)).symm, BW1.out.trans (B_w3.mono BW1.out.size)⟩
            | true =>
              by_cases hx : x1 = (j : Int)
              · have hxb : (x1 != (j : Int)) = false := by simp [hx]
                have HX := Lib.hid (decide_eq_true hx)
                clear hx
                by_cases hy : e.wat = 0
                · have hyb : (e.wat != 0) = false := by simp [hy]
                  have HY := Lib.hid (decide_eq_true hy)
                  clear hy
                  have hbw0 := BW.out
                  go_wp2_with fail
                  refine (HNO.out _ (HROW.out.below (by repeat (first | exact Below.refl _ _ | refine below_step (by assumption) (by first | omega | (simp; done) | (simp; omega)) ?_ | refine below_drewN ?_ _ | refine Below.drew ?_ | refine Below.setCell ?_ (by first | omega | (simp; done) | (simp; omega)) _ | refine Below.alloc ?_ (by first | omega | (simp; done) | (simp; omega)) _)))).mono ?_
                  rintro e w3 ⟨rfl, b3⟩
                  have c0_w3 : w3.cell? ⟨w.heap.size, 0, none⟩ = some (.slice (some ⟨g, o, none⟩) k c) := (b3.cell (p := ⟨w.heap.size, 0, none⟩) (by first | omega | (simp; done) | (simp; omega))).trans (by first | assumption | go_simp)
                  have c1_w3 : w3.cell? ⟨w.heap.size, 1, none⟩ = some (.slice B m d) := (b3.cell (p := ⟨w.heap.size, 1, none⟩) (by first | omega | (simp; done) | (simp; omega))).trans (by first | assumption | go_simp)
                  have c2_w3 : w3.cell? ⟨w.heap.size, 2, none⟩ = some (.int .i64 h) := (b3.cell (p := ⟨w.heap.size, 2, none⟩) (by first | omega | (simp; done) | (simp; omega))).trans (by first | assumption | go_simp)
                  have c3_w3 : w3.cell? ⟨wr.heap.size, 0, none⟩ = some (.string e.name) := (b3.cell (p := ⟨wr.heap.size, 0, none⟩) (by first | omega | (simp; done) | (simp; omega))).trans (by first | assumption | go_simp)
                  have c4_w3 : w3.cell? ⟨wr.heap.size, 1, none⟩ = some (.slice L q cl) := (b3.cell (p := ⟨wr.heap.size, 1, none⟩) (by first | omega | (simp; done) | (simp; omega))).trans (by first | assumption | go_simp)
                  have c5_w3 : w3.cell? ⟨wr.heap.size, 2, none⟩ = some (.int .i64 e.wat) := (b3.cell (p := ⟨wr.heap.size, 2, none⟩) (by first | omega | (simp; done) | (simp; omega))).trans (by first | assumption | go_simp)
                  have B_w3 : Below w1.heap.size w1 w3 := (by repeat (first | exact Below.refl _ _ | refine below_step (by assumption) (by first | omega | (simp; done) | (simp; omega)) ?_ | refine below_drewN ?_ _ | refine Below.drew ?_ | refine Below.setCell ?_ (by first | omega | (simp; done) | (simp; omega)) _ | refine Below.alloc ?_ (by first | omega | (simp; done) | (simp; omega)) _))
                  have z_w3 := B_w3.size
                  have s0_w3 : w.heap.size < w3.heap.size := Nat.lt_of_lt_of_le (by first | omega | (simp; done) | (simp; omega)) b3.size
                  have s1_w3 : wr.heap.size < w3.heap.size := Nat.lt_of_lt_of_le (by first | omega | (simp; done) | (simp; omega)) b3.size
                  clear b3 
                  go_wp2_with fail
                  refine (HN.out _ (HA1.out.below (w := w1) (by repeat (first | exact Below.refl _ _ | refine below_step (by assumption) (by first | omega | (simp; done) | (simp; omega)) ?_ | refine below_drewN ?_ _ | refine Below.drew ?_ | refine Below.setCell ?_ (by first | omega | (simp; done) | (simp; omega)) _ | refine Below.alloc ?_ (by first | omega | (simp; done) | (simp; omega)) _)))).mono ?_
                  rintro e w4 ⟨rfl, b4⟩
                  have c0_w4 : w4.cell? ⟨w.heap.size, 0, none⟩ = some (.slice (some ⟨g, o, none⟩) k c) := (b4.cell (p := ⟨w.heap.size, 0, none⟩) (by first | omega | (simp; done) | (simp; omega))).trans (by first | assumption | go_simp)
                  have c1_w4 : w4.cell? ⟨w.heap.size, 1, none⟩ = some (.slice B m d) := (b4.cell (p := ⟨w.heap.size, 1, none⟩) (by first | omega | (simp; done) | (simp; omega))).trans (by first | assumption | go_simp)
                  have c2_w4 : w4.cell? ⟨w.heap.size, 2, none⟩ = some (.int .i64 h) := (b4.cell (p := ⟨w.heap.size, 2, none⟩) (by first | omega | (simp; done) | (simp; omega))).trans (by first | assumption | go_simp)
                  have c3_w4 : w4.cell? ⟨wr.heap.size, 0, none⟩ = some (.string e.name) := (b4.cell (p := ⟨wr.heap.size, 0, none⟩) (by first | omega | (simp; done) | (simp; omega))).trans (by first | assumption | go_simp)
                  have c4_w4 : w4.cell? ⟨wr.heap.size, 1, none⟩ = some (.slice L q cl) := (b4.cell (p := ⟨wr.heap.size, 1, none⟩) (by first | omega | (simp; done) | (simp; omega))).trans (by first | assumption | go_simp)
                  have c5_w4 : w4.cell? ⟨wr.heap.size, 2, none⟩ = some (.int .i64 e.wat) := (b4.cell (p := ⟨wr.heap.size, 2, none⟩) (by first | omega | (simp; done) | (simp; omega))).trans (by first | assumption | go_simp)
                  have B_w4 : Below w1.heap.size w1 w4 := (by repeat (first | exact Below.refl _ _ | refine below_step (by assumption) (by first | omega | (simp; done) | (simp; omega)) ?_ | refine below_drewN ?_ _ | refine Below.drew ?_ | refine Below.setCell ?_ (by first | omega | (simp; done) | (simp; omega)) _ | refine Below.alloc ?_ (by first | omega | (simp; done) | (simp; omega)) _))
                  have z_w4 := B_w4.size
                  have s0_w4 : w.heap.size < w4.heap.size := Nat.lt_of_lt_of_le (by first | omega | (simp; done) | (simp; omega)) b4.size
                  have s1_w4 : wr.heap.size < w4.heap.size := Nat.lt_of_lt_of_le (by first | omega | (simp; done) | (simp; omega)) b4.size
                  clear b4 c0_w3 c1_w3 c2_w3 c3_w3 c4_w3 c5_w3 s0_w3 s1_w3 B_w3 z_w3
                  clear hbw0
                  go_wp2_with fail
                  go_roundw
                  case rel => exact ⟨j + 1, by omega, by go_num, HGOOD.out (by rw [HEQ.out, HX.out, HY.out]; rfl), B_w4⟩
                  case measure => simp [intOf]; omega
                · have hyb : (e.wat != 0) = true := by simp [hy]
                  have HY := Lib.hid (decide_eq_false hy)
                  clear hy
                  by_cases hz : x2 = (j : Int)
                  · have hzb : (x2 != (j : Int)) = false := by simp [hz]
                    have HZ := Lib.hid (decide_eq_true hz)
                    clear hz
                    have hbw0 := BW.out
                    go_wp2_with fail
                    refine (HNO.out _ (HROW.out.below (by repeat (first | exact Below.refl _ _ | refine below_step (by assumption) (by first | omega | (simp; done) | (simp; omega)) ?_ | refine below_drewN ?_ _ | refine Below.drew ?_ | refine Below.setCell ?_ (by first | omega | (simp; done) | (simp; omega)) _ | refine Below.alloc ?_ (by first | omega | (simp; done) | (simp; omega)) _)))).mono ?_
                    rintro e w3 ⟨rfl, b3⟩
                    have c0_w3 : w3.cell? ⟨w.heap.size, 0, none⟩ = some (.slice (some ⟨g, o, none⟩) k c) := (b3.cell (p := ⟨w.heap.size, 0, none⟩) (by first | omega | (simp; done) | (simp; omega))).trans (by first | assumption | go_simp)
                    have c1_w3 : w3.cell? ⟨w.heap.size, 1, none⟩ = some (.slice B m d) := (b3.cell (p := ⟨w.heap.size, 1, none⟩) (by first | omega | (simp; done) | (simp; omega))).trans (by first | assumption | go_simp)
                    have c2_w3 : w3.cell? ⟨w.heap.size, 2, none⟩ = some (.int .i64 h) := (b3.cell (p := ⟨w.heap.size, 2, none⟩) (by first | omega | (simp; done) | (simp; omega))).trans (by first | assumption | go_simp)
                    have c3_w3 : w3.cell? ⟨wr.heap.size, 0, none⟩ = some (.string e.name) := (b3.cell (p := ⟨wr.heap.size, 0, none⟩) (by first | omega | (simp; done) | (simp; omega))).trans (by first | assumption | go_simp)
                    have c4_w3 : w3.cell? ⟨wr.heap.size, 1, none⟩ = some (.slice L q cl) := (b3.cell (p := ⟨wr.heap.size, 1, none⟩) (by first | omega | (simp; done) | (simp; omega))).trans (by first | assumption | go_simp)
                    have c5_w3 : w3.cell? ⟨wr.heap.size, 2, none⟩ = some (.int .i64 e.wat) := (b3.cell (p := ⟨wr.heap.size, 2, none⟩) (by first | omega | (simp; done) | (simp; omega))).trans (by first | assumption | go_simp)
                    have B_w3 : Below w1.heap.size w1 w3 := (by repeat (first | exact Below.refl _ _ | refine below_step (by assumption) (by first | omega | (simp; done) | (simp; omega)) ?_ | refine below_drewN ?_ _ | refine Below.drew ?_ | refine Below.setCell ?_ (by first | omega | (simp; done) | (simp; omega)) _ | refine Below.alloc ?_ (by first | omega | (simp; done) | (simp; omega)) _))
                    have z_w3 := B_w3.size
                    have s0_w3 : w.heap.size < w3.heap.size := Nat.lt_of_lt_of_le (by first | omega | (simp; done) | (simp; omega)) b3.size
                    have s1_w3 : wr.heap.size < w3.heap.size := Nat.lt_of_lt_of_le (by first | omega | (simp; done) | (simp; omega)) b3.size
                    clear b3 
                    go_wp2_with fail
                    refine (HN.out _ (HA1.out.below (w := w1) (by repeat (first | exact Below.refl _ _ | refine below_step (by assumption) (by first | omega | (simp; done) | (simp; omega)) ?_ | refine below_drewN ?_ _ | refine Below.drew ?_ | refine Below.setCell ?_ (by first | omega | (simp; done) | (simp; omega)) _ | refine Below.alloc ?_ (by first | omega | (simp; done) | (simp; omega)) _)))).mono ?_
                    rintro e w4 ⟨rfl, b4⟩
                    have c0_w4 : w4.cell? ⟨w.heap.size, 0, none⟩ = some (.slice (some ⟨g, o, none⟩) k c) := (b4.cell (p := ⟨w.heap.size, 0, none⟩) (by first | omega | (simp; done) | (simp; omega))).trans (by first | assumption | go_simp)
                    have c1_w4 : w4.cell? ⟨w.heap.size, 1, none⟩ = some (.slice B m d) := (b4.cell (p := ⟨w.heap.size, 1, none⟩) (by first | omega | (simp; done) | (simp; omega))).trans (by first | assumption | go_simp)
                    have c2_w4 : w4.cell? ⟨w.heap.size, 2, none⟩ = some (.int .i64 h) := (b4.cell (p := ⟨w.heap.size, 2, none⟩) (by first | omega | (simp; done) | (simp; omega))).trans (by first | assumption | go_simp)
                    have c3_w4 : w4.cell? ⟨wr.heap.size, 0, none⟩ = some (.string e.name) := (b4.cell (p := ⟨wr.heap.size, 0, none⟩) (by first | omega | (simp; done) | (simp; omega))).trans (by first | assumption | go_simp)
                    have c4_w4 : w4.cell? ⟨wr.heap.size, 1, none⟩ = some (.slice L q cl) := (b4.cell (p := ⟨wr.heap.size, 1, none⟩) (by first | omega | (simp; done) | (simp; omega))).trans (by first | assumption | go_simp)
                    have c5_w4 : w4.cell? ⟨wr.heap.size, 2, none⟩ = some (.int .i64 e.wat) := (b4.cell (p := ⟨wr.heap.size, 2, none⟩) (by first | omega | (simp; done) | (simp; omega))).trans (by first | assumption | go_simp)
                    have B_w4 : Below w1.heap.size w1 w4 := (by repeat (first | exact Below.refl _ _ | refine below_step (by assumption) (by first | omega | (simp; done) | (simp; omega)) ?_ | refine below_drewN ?_ _ | refine Below.drew ?_ | refine Below.setCell ?_ (by first | omega | (simp; done) | (simp; omega)) _ | refine Below.alloc ?_ (by first | omega | (simp; done) | (simp; omega)) _))
                    have z_w4 := B_w4.size
                    have s0_w4 : w.heap.size < w4.heap.size := Nat.lt_of_lt_of_le (by first | omega | (simp; done) | (simp; omega)) b4.size
                    have s1_w4 : wr.heap.size < w4.heap.size := Nat.lt_of_lt_of_le (by first | omega | (simp; done) | (simp; omega)) b4.size
                    clear b4 c0_w3 c1_w3 c2_w3 c3_w3 c4_w3 c5_w3 s0_w3 s1_w3 B_w3 z_w3
                    go_wp2_with fail
                    refine (HW.out _ (HA1.out.below (w := w1) (by repeat (first | exact Below.refl _ _ | refine below_step (by assumption) (by first | omega | (simp; done) | (simp; omega)) ?_ | refine below_drewN ?_ _ | refine Below.drew ?_ | refine Below.setCell ?_ (by first | omega | (simp; done) | (simp; omega)) _ | refine Below.alloc ?_ (by first | omega | (simp; done) | (simp; omega)) _)))).mono ?_
                    rintro e w5 ⟨rfl, b5⟩
                    have c0_w5 : w5.cell? ⟨w.heap.size, 0, none⟩ = some (.slice (some ⟨g, o, none⟩) k c) := (b5.cell (p := ⟨w.heap.size, 0, none⟩) (by first | omega | (simp; done) | (simp; omega))).trans (by first | assumption | go_simp)
                    have c1_w5 : w5.cell? ⟨w.heap.size, 1, none⟩ = some (.slice B m d) := (b5.cell (p := ⟨w.heap.size, 1, none⟩) (by first | omega | (simp; done) | (simp; omega))).trans (by first | assumption | go_simp)
                    have c2_w5 : w5.cell? ⟨w.heap.size, 2, none⟩ = some (.int .i64 h) := (b5.cell (p := ⟨w.heap.size, 2, none⟩) (by first | omega | (simp; done) | (simp; omega))).trans (by first | assumption | go_simp)
                    have c3_w5 : w5.cell? ⟨wr.heap.size, 0, none⟩ = some (.string e.name) := (b5.cell (p := ⟨wr.heap.size, 0, none⟩) (by first | omega | (simp; done) | (simp; omega))).trans (by first | assumption | go_simp)
                    have c4_w5 : w5.cell? ⟨wr.heap.size, 1, none⟩ = some (.slice L q cl) := (b5.cell (p := ⟨wr.heap.size, 1, none⟩) (by first | omega | (simp; done) | (simp; omega))).trans (by first | assumption | go_simp)
                    have c5_w5 : w5.cell? ⟨wr.heap.size, 2, none⟩ = some (.int .i64 e.wat) := (b5.cell (p := ⟨wr.heap.size, 2, none⟩) (by first | omega | (simp; done) | (simp; omega))).trans (by first | assumption | go_simp)
                    have B_w5 : Below w1.heap.size w1 w5 := (by repeat (first | exact Below.refl _ _ | refine below_step (by assumption) (by first | omega | (simp; done) | (simp; omega)) ?_ | refine below_drewN ?_ _ | refine Below.drew ?_ | refine Below.setCell ?_ (by first | omega | (simp; done) | (simp; omega)) _ | refine Below.alloc ?_ (by first | omega | (simp; done) | (simp; omega)) _))
                    have z_w5 := B_w5.size
                    have s0_w5 : w.heap.size < w5.heap.size := Nat.lt_of_lt_of_le (by first | omega | (simp; done) | (simp; omega)) b5.size
                    have s1_w5 : wr.heap.size < w5.heap.size := Nat.lt_of_lt_of_le (by first | omega | (simp; done) | (simp; omega)) b5.size
                    clear b5 c0_w4 c1_w4 c2_w4 c3_w4 c4_w4 c5_w4 s0_w4 s1_w4 B_w4 z_w4
                    clear hbw0
                    go_wp2_with fail
                    go_roundw
                    case rel => exact ⟨j + 1, by omega, by go_num, HGOOD.out (by rw [HEQ.out, HX.out, HY.out, HZ.out]; rfl), B_w5⟩
                    case measure => simp [intOf]; omega
                  · have hzb : (x2 != (j : Int)) = true := by simp [hz]
                    have HZ := Lib.hid (decide_eq_false hz)
                    clear hz
                    have hbw0 := BW.out
                    go_wp2_with fail
                    refine (HNO.out _ (HROW.out.below (by repeat (first | exact Below.refl _ _ | refine below_step (by assumption) (by first | omega | (simp; done) | (simp; omega)) ?_ | refine below_drewN ?_ _ | refine Below.drew ?_ | refine Below.setCell ?_ (by first | omega | (simp; done) | (simp; omega)) _ | refine Below.alloc ?_ (by first | omega | (simp; done) | (simp; omega)) _)))).mono ?_
                    rintro e w3 ⟨rfl, b3⟩
                    have c0_w3 : w3.cell? ⟨w.heap.size, 0, none⟩ = some (.slice (some ⟨g, o, none⟩) k c) := (b3.cell (p := ⟨w.heap.size, 0, none⟩) (by first | omega | (simp; done) | (simp; omega))).trans (by first | assumption | go_simp)
                    have c1_w3 : w3.cell? ⟨w.heap.size, 1, none⟩ = some (.slice B m d) := (b3.cell (p := ⟨w.heap.size, 1, none⟩) (by first | omega | (simp; done) | (simp; omega))).trans (by first | assumption | go_simp)
                    have c2_w3 : w3.cell? ⟨w.heap.size, 2, none⟩ = some (.int .i64 h) := (b3.cell (p := ⟨w.heap.size, 2, none⟩) (by first | omega | (simp; done) | (simp; omega))).trans (by first | assumption | go_simp)
                    have c3_w3 : w3.cell? ⟨wr.heap.size, 0, none⟩ = some (.string e.name) := (b3.cell (p := ⟨wr.heap.size, 0, none⟩) (by first | omega | (simp; done) | (simp; omega))).trans (by first | assumption | go_simp)
                    have c4_w3 : w3.cell? ⟨wr.heap.size, 1, none⟩ = some (.slice L q cl) := (b3.cell (p := ⟨wr.heap.size, 1, none⟩) (by first | omega | (simp; done) | (simp; omega))).trans (by first | assumption | go_simp)
                    have c5_w3 : w3.cell? ⟨wr.heap.size, 2, none⟩ = some (.int .i64 e.wat) := (b3.cell (p := ⟨wr.heap.size, 2, none⟩) (by first | omega | (simp; done) | (simp; omega))).trans (by first | assumption | go_simp)
                    have B_w3 : Below w1.heap.size w1 w3 := (by repeat (first | exact Below.refl _ _ | refine below_step (by assumption) (by first | omega | (simp; done) | (simp; omega)) ?_ | refine below_drewN ?_ _ | refine Below.drew ?_ | refine Below.setCell ?_ (by first | omega | (simp; done) | (simp; omega)) _ | refine Below.alloc ?_ (by first | omega | (simp; done) | (simp; omega)) _))
                    have z_w3 := B_w3.size
                    have s0_w3 : w.heap.size < w3.heap.size := Nat.lt_of_lt_of_le (by first | omega | (simp; done) | (simp; omega)) b3.size
                    have s1_w3 : wr.heap.size < w3.heap.size := Nat.lt_of_lt_of_le (by first | omega | (simp; done) | (simp; omega)) b3.size
                    clear b3 
                    go_wp2_with fail
                    refine (HN.out _ (HA1.out.below (w := w1) (by repeat (first | exact Below.refl _ _ | refine below_step (by assumption) (by first | omega | (simp; done) | (simp; omega)) ?_ | refine below_drewN ?_ _ | refine Below.drew ?_ | refine Below.setCell ?_ (by first | omega | (simp; done) | (simp; omega)) _ | refine Below.alloc ?_ (by first | omega | (simp; done) | (simp; omega)) _)))).mono ?_
                    rintro e w4 ⟨rfl, b4⟩
                    have c0_w4 : w4.cell? ⟨w.heap.size, 0, none⟩ = some (.slice (some ⟨g, o, none⟩) k c) := (b4.cell (p := ⟨w.heap.size, 0, none⟩) (by first | omega | (simp; done) | (simp; omega))).trans (by first | assumption | go_simp)
                    have c1_w4 : w4.cell? ⟨w.heap.size, 1, none⟩ = some (.slice B m d) := (b4.cell (p := ⟨w.heap.size, 1, none⟩) (by first | omega | (simp; done) | (simp; omega))).trans (by first | assumption | go_simp)
                    have c2_w4 : w4.cell? ⟨w.heap.size, 2, none⟩ = some (.int .i64 h) := (b4.cell (p := ⟨w.heap.size, 2, none⟩) (by first | omega | (simp; done) | (simp; omega))).trans (by first | assumption | go_simp)
                    have c3_w4 : w4.cell? ⟨wr.heap.size, 0, none⟩ = some (.string e.name) := (b4.cell (p := ⟨wr.heap.size, 0, none⟩) (by first | omega | (simp; done) | (simp; omega))).trans (by first | assumption | go_simp)
                    have c4_w4 : w4.cell? ⟨wr.heap.size, 1, none⟩ = some (.slice L q cl) := (b4.cell (p := ⟨wr.heap.size, 1, none⟩) (by first | omega | (simp; done) | (simp; omega))).trans (by first | assumption | go_simp)
                    have c5_w4 : w4.cell? ⟨wr.heap.size, 2, none⟩ = some (.int .i64 e.wat) := (b4.cell (p := ⟨wr.heap.size, 2, none⟩) (by first | omega | (simp; done) | (simp; omega))).trans (by first | assumption | go_simp)
                    have B_w4 : Below w1.heap.size w1 w4 := (by repeat (first | exact Below.refl _ _ | refine below_step (by assumption) (by first | omega | (simp; done) | (simp; omega)) ?_ | refine below_drewN ?_ _ | refine Below.drew ?_ | refine Below.setCell ?_ (by first | omega | (simp; done) | (simp; omega)) _ | refine Below.alloc ?_ (by first | omega | (simp; done) | (simp; omega)) _))
                    have z_w4 := B_w4.size
                    have s0_w4 : w.heap.size < w4.heap.size := Nat.lt_of_lt_of_le (by first | omega | (simp; done) | (simp; omega)) b4.size
                    have s1_w4 : wr.heap.size < w4.heap.size := Nat.lt_of_lt_of_le (by first | omega | (simp; done) | (simp; omega)) b4.size
                    clear b4 c0_w3 c1_w3 c2_w3 c3_w3 c4_w3 c5_w3 s0_w3 s1_w3 B_w3 z_w3
                    go_wp2_with fail
                    refine (HW.out _ (HA1.out.below (w := w1) (by repeat (first | exact Below.refl _ _ | refine below_step (by assumption) (by first | omega | (simp; done) | (simp; omega)) ?_ | refine below_drewN ?_ _ | refine Below.drew ?_ | refine Below.setCell ?_ (by first | omega | (simp; done) | (simp; omega)) _ | refine Below.alloc ?_ (by first | omega | (simp; done) | (simp; omega)) _)))).mono ?_
                    rintro e w5 ⟨rfl, b5⟩
                    have c0_w5 : w5.cell? ⟨w.heap.size, 0, none⟩ = some (.slice (some ⟨g, o, none⟩) k c) := (b5.cell (p := ⟨w.heap.size, 0, none⟩) (by first | omega | (simp; done) | (simp; omega))).trans (by first | assumption | go_simp)
                    have c1_w5 : w5.cell? ⟨w.heap.size, 1, none⟩ = some (.slice B m d) := (b5.cell (p := ⟨w.heap.size, 1, none⟩) (by first | omega | (simp; done) | (simp; omega))).trans (by first | assumption | go_simp)
                    have c2_w5 : w5.cell? ⟨w.heap.size, 2, none⟩ = some (.int .i64 h) := (b5.cell (p := ⟨w.heap.size, 2, none⟩) (by first | omega | (simp; done) | (simp; omega))).trans (by first | assumption | go_simp)
                    have c3_w5 : w5.cell? ⟨wr.heap.size, 0, none⟩ = some (.string e.name) := (b5.cell (p := ⟨wr.heap.size, 0, none⟩) (by first | omega | (simp; done) | (simp; omega))).trans (by first | assumption | go_simp)
                    have c4_w5 : w5.cell? ⟨wr.heap.size, 1, none⟩ = some (.slice L q cl) := (b5.cell (p := ⟨wr.heap.size, 1, none⟩) (by first | omega | (simp; done) | (simp; omega))).trans (by first | assumption | go_simp)
                    have c5_w5 : w5.cell? ⟨wr.heap.size, 2, none⟩ = some (.int .i64 e.wat) := (b5.cell (p := ⟨wr.heap.size, 2, none⟩) (by first | omega | (simp; done) | (simp; omega))).trans (by first | assumption | go_simp)
                    have B_w5 : Below w1.heap.size w1 w5 := (by repeat (first | exact Below.refl _ _ | refine below_step (by assumption) (by first | omega | (simp; done) | (simp; omega)) ?_ | refine below_drewN ?_ _ | refine Below.drew ?_ | refine Below.setCell ?_ (by first | omega | (simp; done) | (simp; omega)) _ | refine Below.alloc ?_ (by first | omega | (simp; done) | (simp; omega)) _))
                    have z_w5 := B_w5.size
                    have s0_w5 : w.heap.size < w5.heap.size := Nat.lt_of_lt_of_le (by first | omega | (simp; done) | (simp; omega)) b5.size
                    have s1_w5 : wr.heap.size < w5.heap.size := Nat.lt_of_lt_of_le (by first | omega | (simp; done) | (simp; omega)) b5.size
                    clear b5 c0_w4 c1_w4 c2_w4 c3_w4 c4_w4 c5_w4 s0_w4 s1_w4 B_w4 z_w4
                    clear hbw0
                    go_wp2_with fail
                    go_ret
                    exact ⟨ret_b (HBAD.out (by rw [HEQ.out, HX.out, HY.out, HZ.out]; rfl)).symm, BW1.out.trans (B_w5.mono BW1.out.size)⟩
              · have hxb : (x1 != (j : Int)) = true := by simp [hx]
                have HX := Lib.hid (decide_eq_false hx)
                clear hx
                have hbw0 := BW.out
                go_wp2_with fail
                refine (HNO.out _ (HROW.out.below (by repeat (first | exact Below.refl _ _ | refine below_step (by assumption) (by first | omega | (simp; done) | (simp; omega)) ?_ | refine below_drewN ?_ _ | refine Below.drew ?_ | refine Below.setCell ?_ (by first | omega | (simp; done) | (simp; omega)) _ | refine Below.alloc ?_ (by first | omega | (simp; done) | (simp; omega)) _)))).mono ?_
                rintro e w3 ⟨rfl, b3⟩
                have c0_w3 : w3.cell? ⟨w.heap.size, 0, none⟩ = some (.slice (some ⟨g, o, none⟩) k c) := (b3.cell (p := ⟨w.heap.size, 0, none⟩) (by first | omega | (simp; done) | (simp; omega))).trans (by first | assumption | go_simp)
                have c1_w3 : w3.cell? ⟨w.heap.size, 1, none⟩ = some (.slice B m d) := (b3.cell (p := ⟨w.heap.size, 1, none⟩) (by first | omega | (simp; done) | (simp; omega))).trans (by first | assumption | go_simp)
                have c2_w3 : w3.cell? ⟨w.heap.size, 2, none⟩ = some (.int .i64 h) := (b3.cell (p := ⟨w.heap.size, 2, none⟩) (by first | omega | (simp; done) | (simp; omega))).trans (by first | assumption | go_simp)
                have c3_w3 : w3.cell? ⟨wr.heap.size, 0, none⟩ = some (.string e.name) := (b3.cell (p := ⟨wr.heap.size, 0, none⟩) (by first | omega | (simp; done) | (simp; omega))).trans (by first | assumption | go_simp)
                have c4_w3 : w3.cell? ⟨wr.heap.size, 1, none⟩ = some (.slice L q cl) := (b3.cell (p := ⟨wr.heap.size, 1, none⟩) (by first | omega | (simp; done) | (simp; omega))).trans (by first | assumption | go_simp)
                have c5_w3 : w3.cell? ⟨wr.heap.size, 2, none⟩ = some (.int .i64 e.wat) := (b3.cell (p := ⟨wr.heap.size, 2, none⟩) (by first | omega | (simp; done) | (simp; omega))).trans (by first | assumption | go_simp)
                have B_w3 : Below w1.heap.size w1 w3 := (by repeat (first | exact Below.refl _ _ | refine below_step (by assumption) (by first | omega | (simp; done) | (simp; omega)) ?_ | refine below_drewN ?_ _ | refine Below.drew ?_ | refine Below.setCell ?_ (by first | omega | (simp; done) | (simp; omega)) _ | refine Below.alloc ?_ (by first | omega | (simp; done) | (simp; omega)) _))
                have z_w3 := B_w3.size
                have s0_w3 : w.heap.size < w3.heap.size := Nat.lt_of_lt_of_le (by first | omega | (simp; done) | (simp; omega)) b3.size
                have s1_w3 : wr.heap.size < w3.heap.size := Nat.lt_of_lt_of_le (by first | omega | (simp; done) | (simp; omega)) b3.size
                clear b3 
                go_wp2_with fail
                refine (HN.out _ (HA1.out.below (w := w1) (by repeat (first | exact Below.refl _ _ | refine below_step (by assumption) (by first | omega | (simp; done) | (simp; omega)) ?_ | refine below_drewN ?_ _ | refine Below.drew ?_ | refine Below.setCell ?_ (by first | omega | (simp; done) | (simp; omega)) _ | refine Below.alloc ?_ (by first | omega | (simp; done) | (simp; omega)) _)))).mono ?_
                rintro e w4 ⟨rfl, b4⟩
                have c0_w4 : w4.cell? ⟨w.heap.size, 0, none⟩ = some (.slice (some ⟨g, o, none⟩) k c) := (b4.cell (p := ⟨w.heap.size, 0, none⟩) (by first | omega | (simp; done) | (simp; omega))).trans (by first | assumption | go_simp)
                have c1_w4 : w4.cell? ⟨w.heap.size, 1, none⟩ = some (.slice B m d) := (b4.cell (p := ⟨w.heap.size, 1, none⟩) (by first | omega | (simp; done) | (simp; omega))).trans (by first | assumption | go_simp)
                have c2_w4 : w4.cell? ⟨w.heap.size, 2, none⟩ = some (.int .i64 h) := (b4.cell (p := ⟨w.heap.size, 2, none⟩) (by first | omega | (simp; done) | (simp; omega))).trans (by first | assumption | go_simp)
                have c3_w4 : w4.cell? ⟨wr.heap.size, 0, none⟩ = some (.string e.name) := (b4.cell (p := ⟨wr.heap.size, 0, none⟩) (by first | omega | (simp; done) | (simp; omega))).trans (by first | assumption | go_simp)
                have c4_w4 : w4.cell? ⟨wr.heap.size, 1, none⟩ = some (.slice L q cl) := (b4.cell (p := ⟨wr.heap.size, 1, none⟩) (by first | omega | (simp; done) | (simp; omega))).trans (by first | assumption | go_simp)
                have c5_w4 : w4.cell? ⟨wr.heap.size, 2, none⟩ = some (.int .i64 e.wat) := (b4.cell (p := ⟨wr.heap.size, 2, none⟩) (by first | omega | (simp; done) | (simp; omega))).trans (by first | assumption | go_simp)
                have B_w4 : Below w1.heap.size w1 w4 := (by repeat (first | exact Below.refl _ _ | refine below_step (by assumption) (by first | omega | (simp; done) | (simp; omega)) ?_ | refine below_drewN ?_ _ | refine Below.drew ?_ | refine Below.setCell ?_ (by first | omega | (simp; done) | (simp; omega)) _ | refine Below.alloc ?_ (by first | omega | (simp; done) | (simp; omega)) _))
                have z_w4 := B_w4.size
                have s0_w4 : w.heap.size < w4.heap.size := Nat.lt_of_lt_of_le (by first | omega | (simp; done) | (simp; omega)) b4.size
                have s1_w4 : wr.heap.size < w4.heap.size := Nat.lt_of_lt_of_le (by first | omega | (simp; done) | (simp; omega)) b4.size
                clear b4 c0_w3 c1_w3 c2_w3 c3_w3 c4_w3 c5_w3 s0_w3 s1_w3 B_w3 z_w3
                clear hbw0
                go_wp2_with fail
                go_ret
                exact ⟨ret_b (HBAD.out (by rw [HEQ.out, HX.out]; rfl)).symm, BW1.out.trans (B_w4.mono BW1.out.size)⟩
          · have hjk : ¬ ((j : Int) < (k : Int)) := by omega
            have hjk2 : j = k := by omega
            have HALLK := Lib.hid (show allJ (ndA s.ns) k = true from by rw [← hjk2]; exact HALL.out)
            have c0_wr := (hbw.cell (p := ⟨w.heap.size, 0, none⟩) z_w1).trans c0_w1
            have c1_wr := (hbw.cell (p := ⟨w.heap.size, 1, none⟩) z_w1).trans c1_w1
            have c2_wr := (hbw.cell (p := ⟨w.heap.size, 2, none⟩) z_w1).trans c2_w1
            have BWO := Lib.hid hbw
            clear hjk2 HALL hlt hj hbw
            rename World => wo
            go_wp2_with fail
            clear c0_wr c1_wr c2_wr hjk
            go_loopw [68] (fun i wr => ∃ j : Nat, j ≤ k ∧ i = .int .i64 j ∧ allJ (ndB s.ns) j = true ∧ Below w1.heap.size w1 wr) (fun i _ => k - (intOf i).toNat)
            case atStart => exact ⟨0, Nat.zero_le _, rfl, rfl, BWO.out⟩
            case round =>
              obtain ⟨j, hj, rfl, hall, hbw⟩ := hrel
              rename World => wn
              have HALL := Lib.hid hall
              clear hall
              by_cases hlt : j < k
              · have hjk : ((j : Int) < (k : Int)) := by omega
                obtain ⟨e, he⟩ : ∃ f, s.ns[j]? = some f := ⟨_, List.getElem?_eq_getElem (by have := HLN.out; omega)⟩
                obtain ⟨g2, o2, L, cl, hA2, _, d0, d1, d2, hrow⟩ := node_facts HA1.out.nodes he
                injection hA2 with hA2
                injection hA2 with hA3 hA4
                subst hA3 hA4
                have hg1 : g < w1.heap.size := by have := BW1.out.size; omega
                have HEQ := Lib.hid (ndB_at he)
                have hem := HEACH.out e (List.mem_of_getElem? he)
                have HLR := Lib.hid (ndA_lab he (allJ_of HALLK.out hlt))
                obtain ⟨q, hq⟩ : ∃ q, q = e.lab.length := ⟨_, rfl⟩
                rw [← hq] at d1 hem
                have HQ := Lib.hid hq.symm
                have hq20 : q ≤ 1048576 := hem.2
                have k0 := (hbw.cell (p := ⟨g, o + j * 3, none⟩) hg1).trans d0
                have k1 := (hbw.cell (p := ⟨g, o + j * 3 + 1, none⟩) hg1).trans d1
                have k2 := (hbw.cell (p := ⟨g, o + j * 3 + 2, none⟩) hg1).trans d2
                have zr := hbw.size
                have zw := Nat.lt_of_lt_of_le z_w1 zr
                have c0_wr := (hbw.cell (p := ⟨w.heap.size, 0, none⟩) z_w1).trans c0_w1
                have c1_wr := (hbw.cell (p := ⟨w.heap.size, 1, none⟩) z_w1).trans c1_w1
                have c2_wr := (hbw.cell (p := ⟨w.heap.size, 2, none⟩) z_w1).trans c2_w1
                obtain ⟨w3, hw3⟩ : ∃ W, W = wn.alloc (.cells #[.string e.name, .slice L q cl, .int .i64 e.wat] 38) := ⟨_, rfl⟩
                have b3 : Below wn.heap.size wn w3 := by rw [hw3]; exact (Below.refl _ _).alloc (Nat.le_refl _) _
                have z3 : wn.heap.size < w3.heap.size := by rw [hw3]; simp
                have c0_w3 : w3.cell? ⟨w.heap.size, 0, none⟩ = some (.slice (some ⟨g, o, none⟩) k c) := (b3.cell (p := ⟨w.heap.size, 0, none⟩) zw).trans c0_wr
                have c1_w3 : w3.cell? ⟨w.heap.size, 1, none⟩ = some (.slice B m d) := (b3.cell (p := ⟨w.heap.size, 1, none⟩) zw).trans c1_wr
                have c2_w3 : w3.cell? ⟨w.heap.size, 2, none⟩ = some (.int .i64 h) := (b3.cell (p := ⟨w.heap.size, 2, none⟩) zw).trans c2_wr
                have e0_w3 : w3.cell? ⟨wn.heap.size, 0, none⟩ = some (.string e.name) := by rw [hw3]; go_simp
                have e1_w3 : w3.cell? ⟨wn.heap.size, 1, none⟩ = some (.slice L q cl) := by rw [hw3]; go_simp
                have e2_w3 : w3.cell? ⟨wn.heap.size, 2, none⟩ = some (.int .i64 e.wat) := by rw [hw3]; go_simp
                have bw3 := hbw.trans (b3.mono zr)
                have BW3 := Lib.hid bw3
                have HA3 := Lib.hid (HA1.out.below bw3)
                have HROW := Lib.hid (hrow.below bw3)
                have H3 := Lib.hid hw3
                have zw3 : w.heap.size < w3.heap.size := Nat.lt_trans zw z3
                have HBAD := Lib.hid (fun (hx : ndB s.ns j = false) => ndsR_B hx (by have := HLN.out; omega))
                have HGOOD := Lib.hid (fun (hx : ndB s.ns j = true) => (show allJ (ndB s.ns) (j + 1) = true from by rw [allJ_next, HALL.out, hx]; rfl))
                clear he hrow hq hem d0 d1 d2 hbw b3 bw3 hw3
                go_upto_region 12 with (fail)
                rw [← H3.out]
                clear c0_wr c1_wr c2_wr k0 k1 k2 H3
                go_wp2_with fail
                go_loopw [75] (fun i wr => ∃ p : Nat, p ≤ q ∧ i = .int .i64 p ∧ allJ (fun t => ndX s.ns e.lab (e.lab[t]?.getD 0)) p = true ∧ Below w3.heap.size w3 wr) (fun i _ => q - (intOf i).toNat)
                case atStart => exact ⟨0, Nat.zero_le _, rfl, rfl, Below.refl _ _⟩
                case round =>
                  obtain ⟨p, hp, rfl, hall, hbi⟩ := hrel
                  rename World => wi
                  have HALI := Lib.hid hall
                  have zi := hbi.size
                  have BI := Lib.hid hbi
                  clear hall
                  by_cases hlt2 : p < q
                  · have hpq : ((p : Int) < (q : Int)) := by omega
                    obtain ⟨g3, o3, hL, hg3, hc3⟩ := row_getB HROW.out (q := p) (by have := HQ.out; omega)
                    subst hL
                    obtain ⟨x, hx⟩ : ∃ x, x = e.lab[p]'(by have := HQ.out; omega) := ⟨_, rfl⟩
                    rw [← hx] at hc3
                    have hlit := labR_lit HLR.out (x := x) (by rw [hx]; exact List.getElem_mem _)
                    have hx3 : -3 ≤ x ∧ x ≤ 3 := by have := litB_of hlit; omega
                    have HXD := Lib.hid (show e.lab[p]?.getD 0 = x from by rw [hx, List.getElem?_eq_getElem (by have := HQ.out; omega)]; rfl)
                    have y1 := (hbi.cell (p := ⟨g3, o3 + p, none⟩) hg3).trans hc3
                    have c0_wi := (hbi.cell (p := ⟨w.heap.size, 0, none⟩) zw3).trans c0_w3
                    have c1_wi := (hbi.cell (p := ⟨w.heap.size, 1, none⟩) zw3).trans c1_w3
                    have c2_wi := (hbi.cell (p := ⟨w.heap.size, 2, none⟩) zw3).trans c2_w3
                    have e0_wi := (hbi.cell (p := ⟨wn.heap.size, 0, none⟩) z3).trans e0_w3
                    have e1_wi := (hbi.cell (p := ⟨wn.heap.size, 1, none⟩) z3).trans e1_w3
                    have e2_wi := (hbi.cell (p := ⟨wn.heap.size, 2, none⟩) z3).trans e2_w3
                    have HAI := Lib.hid (HA3.out.below hbi)
                    have HRI := Lib.hid (HROW.out.below hbi)
                    have HBADX := Lib.hid (fun (hz : ndX s.ns e.lab x = false) => HBAD.out (by rw [HEQ.out]; exact allJ_no (j := p + 1) (by rw [allJ_next, HXD.out, hz, Bool.and_false]) (by have := HQ.out; omega)))
                    have HGOODX := Lib.hid (fun (hz : ndX s.ns e.lab x = true) => (show allJ (fun t => ndX s.ns e.lab (e.lab[t]?.getD 0)) (p + 1) = true from by rw [allJ_next, HALI.out, HXD.out, hz]; rfl))
                    have hneg : IntKind.i64.wrap (-x) = -x := (IntWalk.i64_left _).trans (IntWalk.wrap64_in _ ⟨by omega, by omega⟩)
                    have HNEG := Lib.hid hneg
                    obtain ⟨z, hz⟩ : ∃ z, z = watR s.ns (absI x) := ⟨_, rfl⟩
                    have hwt := fun W hh => HWT.out (absI x) W hh
                    rw [← hz] at hwt
                    have HW := Lib.hid hwt
                    have HZR := Lib.hid (watR_rng s.ns (absI x))
                    rw [← hz] at HZR
                    have HZ := Lib.hid hz.symm
                    have wi_sz : w.heap.size < wi.heap.size := Nat.lt_of_lt_of_le zw3 zi
                    have wn_sz : wn.heap.size < wi.heap.size := Nat.lt_of_lt_of_le z3 zi
                    clear hx hlit hc3 hbi hz hwt hneg c0_w3 c1_w3 c2_w3 e0_w3 e1_w3 e2_w3 c0_w1 c1_w1 c2_w1
                    go_upto_region 15 with (fail)
                    obtain ⟨C, hC⟩ : ∃ C : World → Prop, C = fun W => Below wi.heap.size wi W := ⟨_, rfl⟩
                    have qb : ∀ W, C W → Below wi.heap.size wi W := fun W h => by rw [hC] at h; exact h
                    have qc : ∀ W, Below wi.heap.size wi W → C W := fun W h => by rw [hC]; exact h
                    have hC0 : C (World.drew wi) := qc _ (Below.refl _ _).drew
                    have q0 : ∀ zc : WC C, zc.w.cell? ⟨w.heap.size, 0, none⟩ = some (.slice (some ⟨g, o, none⟩) k c) := fun zc => ((qb _ zc.h).cell (p := ⟨w.heap.size, 0, none⟩) (by first | omega | (simp; done) | (simp; omega))).trans (by first | assumption | go_simp)
                    have q1 : ∀ zc : WC C, zc.w.cell? ⟨w.heap.size, 1, none⟩ = some (.slice B m d) := fun zc => ((qb _ zc.h).cell (p := ⟨w.heap.size, 1, none⟩) (by first | omega | (simp; done) | (simp; omega))).trans (by first | assumption | go_simp)
                    have q2 : ∀ zc : WC C, zc.w.cell? ⟨w.heap.size, 2, none⟩ = some (.int .i64 h) := fun zc => ((qb _ zc.h).cell (p := ⟨w.heap.size, 2, none⟩) (by first | omega | (simp; done) | (simp; omega))).trans (by first | assumption | go_simp)
                    have q3 : ∀ zc : WC C, zc.w.cell? ⟨wn.heap.size, 0, none⟩ = some (.string e.name) := fun zc => ((qb _ zc.h).cell (p := ⟨wn.heap.size, 0, none⟩) (by first | omega | (simp; done) | (simp; omega))).trans (by first | assumption | go_simp)
                    have q4 : ∀ zc : WC C, zc.w.cell? ⟨wn.heap.size, 1, none⟩ = some (.slice (some ⟨g3, o3, none⟩) q cl) := fun zc => ((qb _ zc.h).cell (p := ⟨wn.heap.size, 1, none⟩) (by first | omega | (simp; done) | (simp; omega))).trans (by first | assumption | go_simp)
                    have q5 : ∀ zc : WC C, zc.w.cell? ⟨wn.heap.size, 2, none⟩ = some (.int .i64 e.wat) := fun zc => ((qb _ zc.h).cell (p := ⟨wn.heap.size, 2, none⟩) (by first | omega | (simp; done) | (simp; omega))).trans (by first | assumption | go_simp)
                    have A0 : Hid (∀ zc : WC C, Calls Tryz.prog 52 #[.int .i64 x] zc.w fun e w2 => e = .returned (.int .i64 (absI x)) ∧ ∃ y : WC C, w2 = y.w) := Lib.hid (fun zc => wc_calls (((fun W => prop_below x hx3 W) zc.w).mono fun e w2 k => ⟨k.1, qc _ ((qb _ zc.h).trans (k.2.mono (qb _ zc.h).size))⟩))
                    have A1 : Hid (∀ zc : WC C, Calls Tryz.prog 51 #[.agg #[.slice (some ⟨g, o, none⟩) k c, .slice B m d, .int .i64 h], .int .i64 (absI x)] zc.w fun e w2 => e = .returned (.int .i64 z) ∧ ∃ y : WC C, w2 = y.w) := Lib.hid (fun zc => wc_calls (((fun _ => HW.out zc.w (HAI.out.below (qb _ zc.h))) zc.w).mono fun e w2 k => ⟨k.1, qc _ ((qb _ zc.h).trans (k.2.mono (qb _ zc.h).size))⟩))
                    have nwc : Nonempty (WC C) := ⟨⟨_, hC0⟩⟩
                    clear hC
                    refine region_wc C (by kernel_rfl) (by kernel_rfl) hC0 ?_
                    repeat (go_big_quiet_step (first | (go_at_call 52; exact A0.out _) | (go_at_call 51; exact A1.out _)))
                    refine wpQuiet_nil ?_
                    rintro _ ⟨xq, rfl⟩
                    have bq := qb _ xq.h
                    have gf0 := q0 xq
                    have gf1 := q1 xq
                    have gf2 := q2 xq
                    have gf3 := q3 xq
                    have gf4 := q4 xq
                    have gf5 := q5 xq
                    obtain ⟨wq, hwq⟩ : ∃ wq, wq = xq.w := ⟨_, rfl⟩
                    rw [← hwq] at bq gf0 gf1 gf2 gf3 gf4 gf5 ⊢
                    clear hwq xq nwc hC0 qb qc q0 q1 q2 q3 q4 q5 A0 A1 C
                    obtain ⟨wv, hwv⟩ : ∃ W, W = wq := ⟨_, rfl⟩
                    rw [← hwv] at bq gf0 gf1 gf2 gf3 gf4 gf5 ⊢
                    clear hwv wq
                    have zv := bq.size
                    have BV := Lib.hid bq
                    have HAV := Lib.hid (HAI.out.below bq)
                    have HRV := Lib.hid (HRI.out.below bq)
                    have wv_sz : w.heap.size < wv.heap.size := Nat.lt_of_lt_of_le wi_sz zv
                    have wnv_sz : wn.heap.size < wv.heap.size := Nat.lt_of_lt_of_le wn_sz zv
                    clear bq c0_wi c1_wi c2_wi e0_wi e1_wi e2_wi y1
                    have BWV : Hid (Below w1.heap.size w1 wv) := Lib.hid ((BW3.out.trans (BI.out.mono BW3.out.size)).trans (BV.out.mono (by have := BW3.out.size; omega)))
                    have B3V : Hid (Below w3.heap.size w3 wv) := Lib.hid (BI.out.trans (BV.out.mono zi))
                    go_upto_region 16 with (fail)
                    rcases HZR.out with hzn | ⟨i0, hi0, hzi⟩
                    · subst hzn
                      have hzb : decide ((-1 : Int) < 0) = true := rfl
                      obtain ⟨C, hC⟩ : ∃ C : World → Prop, C = fun W => Below wv.heap.size wv W := ⟨_, rfl⟩
                      have qb : ∀ W, C W → Below wv.heap.size wv W := fun W h => by rw [hC] at h; exact h
                      have qc : ∀ W, Below wv.heap.size wv W → C W := fun W h => by rw [hC]; exact h
                      have hC0 : C (World.drew wv) := qc _ (Below.refl _ _).drew
                      have q0 : ∀ zc : WC C, zc.w.cell? ⟨w.heap.size, 0, none⟩ = some (.slice (some ⟨g, o, none⟩) k c) := fun zc => ((qb _ zc.h).cell (p := ⟨w.heap.size, 0, none⟩) (by first | omega | (simp; done) | (simp; omega))).trans (by first | assumption | go_simp)
                      have q1 : ∀ zc : WC C, zc.w.cell? ⟨w.heap.size, 1, none⟩ = some (.slice B m d) := fun zc => ((qb _ zc.h).cell (p := ⟨w.heap.size, 1, none⟩) (by first | omega | (simp; done) | (simp; omega))).trans (by first | assumption | go_simp)
                      have q2 : ∀ zc : WC C, zc.w.cell? ⟨w.heap.size, 2, none⟩ = some (.int .i64 h) := fun zc => ((qb _ zc.h).cell (p := ⟨w.heap.size, 2, none⟩) (by first | omega | (simp; done) | (simp; omega))).trans (by first | assumption | go_simp)
                      have q3 : ∀ zc : WC C, zc.w.cell? ⟨wn.heap.size, 0, none⟩ = some (.string e.name) := fun zc => ((qb _ zc.h).cell (p := ⟨wn.heap.size, 0, none⟩) (by first | omega | (simp; done) | (simp; omega))).trans (by first | assumption | go_simp)
                      have q4 : ∀ zc : WC C, zc.w.cell? ⟨wn.heap.size, 1, none⟩ = some (.slice (some ⟨g3, o3, none⟩) q cl) := fun zc => ((qb _ zc.h).cell (p := ⟨wn.heap.size, 1, none⟩) (by first | omega | (simp; done) | (simp; omega))).trans (by first | assumption | go_simp)
                      have q5 : ∀ zc : WC C, zc.w.cell? ⟨wn.heap.size, 2, none⟩ = some (.int .i64 e.wat) := fun zc => ((qb _ zc.h).cell (p := ⟨wn.heap.size, 2, none⟩) (by first | omega | (simp; done) | (simp; omega))).trans (by first | assumption | go_simp)
                      have nwc : Nonempty (WC C) := ⟨⟨_, hC0⟩⟩
                      clear hC
                      refine region_wc C (by kernel_rfl) (by kernel_rfl) hC0 ?_
                      repeat (go_big_quiet_step (fail))
                      refine wpQuiet_nil ?_
                      rintro _ ⟨xq, rfl⟩
                      have bq := qb _ xq.h
                      have gf0 := q0 xq
                      have gf1 := q1 xq
                      have gf2 := q2 xq
                      have gf3 := q3 xq
                      have gf4 := q4 xq
                      have gf5 := q5 xq
                      obtain ⟨wq, hwq⟩ : ∃ wq, wq = xq.w := ⟨_, rfl⟩
                      rw [← hwq] at bq gf0 gf1 gf2 gf3 gf4 gf5 ⊢
                      clear hwq xq nwc hC0 qb qc q0 q1 q2 q3 q4 q5  C
                      go_wp2_with fail
                      go_ret
                      exact ⟨ret_b (HBADX.out (ndX_no (by rw [HZ.out]; omega))).symm, BW1.out.trans ((BWV.out.trans (bq.mono (by have := BWV.out.size; omega))).mono BW1.out.size)⟩
                    · subst hzi
                      have hzb : decide (((i0 : Nat) : Int) < 0) = false := decide_eq_false (by omega)
                      have hzi0 : (0 : Int) ≤ (i0 : Int) := by omega
                      have hzik : (i0 : Int) < (k : Int) := by have := HLN.out; omega
                      obtain ⟨f, hf⟩ : ∃ f, s.ns[i0]? = some f := ⟨_, List.getElem?_eq_getElem hi0⟩
                      obtain ⟨g4, o4, L2, cl2, hA4, hgv, v0, v1, v2, hrf⟩ := node_facts HAV.out.nodes hf
                      injection hA4 with hA4
                      injection hA4 with hA5 hA6
                      subst hA5 hA6
                      have HXV := Lib.hid (ndX_at (l := e.lab) HZ.out hf)
                      have hfm := (HEACH.out f (List.mem_of_getElem? hf)).2
                      obtain ⟨fl, hq2⟩ : ∃ q, q = f.lab.length := ⟨_, rfl⟩
                      rw [← hq2] at v1 hfm
                      have HQ2 := Lib.hid hq2.symm
                      have HRF := Lib.hid hrf
                      obtain ⟨h1, hh1⟩ : ∃ b, b = hasR f.lab x := ⟨_, rfl⟩
                      obtain ⟨h2, hh2⟩ : ∃ b, b = hasR f.lab (-x) := ⟨_, rfl⟩
                      obtain ⟨h3, hh3⟩ : ∃ b, b = impR e.lab f.lab := ⟨_, rfl⟩
                      rw [← hh1, ← hh2, ← hh3] at HXV
                      have HH1 : Hid (∀ W, RowAt W L2 (f.lab.map intV) → Calls Tryz.prog 53 #[.slice L2 fl cl2, .int .i64 x] W fun e w2 => e = .returned (.bool h1) ∧ Below W.heap.size W w2) := Lib.hid (fun W hr => by rw [hh1]; exact has_below x f.lab L2 fl cl2 W HQ2.out hfm hr)
                      have HH2 : Hid (∀ W, RowAt W L2 (f.lab.map intV) → Calls Tryz.prog 53 #[.slice L2 fl cl2, .int .i64 (-x)] W fun e w2 => e = .returned (.bool h2) ∧ Below W.heap.size W w2) := Lib.hid (fun W hr => by rw [hh2]; exact has_below (-x) f.lab L2 fl cl2 W HQ2.out hfm hr)
                      have HH3 : Hid (∀ W, RowAt W (some ⟨g3, o3, none⟩) (e.lab.map intV) → RowAt W L2 (f.lab.map intV) → Calls Tryz.prog 54 #[.slice (some ⟨g3, o3, none⟩) q cl, .slice L2 fl cl2] W fun e w2 => e = .returned (.bool h3) ∧ Below W.heap.size W w2) := Lib.hid (fun W hr hr2 => by rw [hh3]; exact imp_below e.lab f.lab _ q cl L2 fl cl2 W HQ.out hq20 HQ2.out hfm hr hr2)
                      clear hf hq2 hrf hh1 hh2 hh3
                      cases h1 with
                      | true =>
                        obtain ⟨C, hC⟩ : ∃ C : World → Prop, C = fun W => Below wv.heap.size wv W := ⟨_, rfl⟩
                        have qb : ∀ W, C W → Below wv.heap.size wv W := fun W h => by rw [hC] at h; exact h
                        have qc : ∀ W, Below wv.heap.size wv W → C W := fun W h => by rw [hC]; exact h
                        have hC0 : C (World.drew wv) := qc _ (Below.refl _ _).drew
                        have q0 : ∀ zc : WC C, zc.w.cell? ⟨w.heap.size, 0, none⟩ = some (.slice (some ⟨g, o, none⟩) k c) := fun zc => ((qb _ zc.h).cell (p := ⟨w.heap.size, 0, none⟩) (by first | omega | (simp; done) | (simp; omega))).trans (by first | assumption | go_simp)
                        have q1 : ∀ zc : WC C, zc.w.cell? ⟨w.heap.size, 1, none⟩ = some (.slice B m d) := fun zc => ((qb _ zc.h).cell (p := ⟨w.heap.size, 1, none⟩) (by first | omega | (simp; done) | (simp; omega))).trans (by first | assumption | go_simp)
                        have q2 : ∀ zc : WC C, zc.w.cell? ⟨w.heap.size, 2, none⟩ = some (.int .i64 h) := fun zc => ((qb _ zc.h).cell (p := ⟨w.heap.size, 2, none⟩) (by first | omega | (simp; done) | (simp; omega))).trans (by first | assumption | go_simp)
                        have q3 : ∀ zc : WC C, zc.w.cell? ⟨wn.heap.size, 0, none⟩ = some (.string e.name) := fun zc => ((qb _ zc.h).cell (p := ⟨wn.heap.size, 0, none⟩) (by first | omega | (simp; done) | (simp; omega))).trans (by first | assumption | go_simp)
                        have q4 : ∀ zc : WC C, zc.w.cell? ⟨wn.heap.size, 1, none⟩ = some (.slice (some ⟨g3, o3, none⟩) q cl) := fun zc => ((qb _ zc.h).cell (p := ⟨wn.heap.size, 1, none⟩) (by first | omega | (simp; done) | (simp; omega))).trans (by first | assumption | go_simp)
                        have q5 : ∀ zc : WC C, zc.w.cell? ⟨wn.heap.size, 2, none⟩ = some (.int .i64 e.wat) := fun zc => ((qb _ zc.h).cell (p := ⟨wn.heap.size, 2, none⟩) (by first | omega | (simp; done) | (simp; omega))).trans (by first | assumption | go_simp)
                        have q6 : ∀ zc : WC C, zc.w.cell? ⟨g, o + i0 * 3, none⟩ = some (.string f.name) := fun zc => ((qb _ zc.h).cell (p := ⟨g, o + i0 * 3, none⟩) (by first | omega | (simp; done) | (simp; omega))).trans (by first | assumption | go_simp)
                        have q7 : ∀ zc : WC C, zc.w.cell? ⟨g, o + i0 * 3 + 1, none⟩ = some (.slice L2 fl cl2) := fun zc => ((qb _ zc.h).cell (p := ⟨g, o + i0 * 3 + 1, none⟩) (by first | omega | (simp; done) | (simp; omega))).trans (by first | assumption | go_simp)
                        have q8 : ∀ zc : WC C, zc.w.cell? ⟨g, o + i0 * 3 + 2, none⟩ = some (.int .i64 f.wat) := fun zc => ((qb _ zc.h).cell (p := ⟨g, o + i0 * 3 + 2, none⟩) (by first | omega | (simp; done) | (simp; omega))).trans (by first | assumption | go_simp)
                        have A0 : Hid (∀ zc : WC C, Calls Tryz.prog 53 #[.slice L2 fl cl2, .int .i64 x] zc.w fun e w2 => e = .returned (.bool true) ∧ ∃ y : WC C, w2 = y.w) := Lib.hid (fun zc => wc_calls (((fun _ => HH1.out zc.w (HRF.out.below (qb _ zc.h))) zc.w).mono fun e w2 k => ⟨k.1, qc _ ((qb _ zc.h).trans (k.2.mono (qb _ zc.h).size))⟩))
                        have nwc : Nonempty (WC C) := ⟨⟨_, hC0⟩⟩
                        clear hC
                        have hneg := HNEG.out
                        refine region_wc C (by kernel_rfl) (by kernel_rfl) hC0 ?_
                        repeat (go_big_quiet_step (first | (go_at_call 53; with_reducible exact A0.out _)))
                        refine wpQuiet_nil ?_
                        clear hneg
                        rintro _ ⟨xq, rfl⟩
                        have bq := qb _ xq.h
                        have gf0 := q0 xq
                        have gf1 := q1 xq
                        have gf2 := q2 xq
                        have gf3 := q3 xq
                        have gf4 := q4 xq
                        have gf5 := q5 xq
                        have gf6 := q6 xq
                        have gf7 := q7 xq
                        have gf8 := q8 xq
                        obtain ⟨wq, hwq⟩ : ∃ wq, wq = xq.w := ⟨_, rfl⟩
                        rw [← hwq] at bq gf0 gf1 gf2 gf3 gf4 gf5 gf6 gf7 gf8 ⊢
                        clear hwq xq nwc hC0 qb qc q0 q1 q2 q3 q4 q5 q6 q7 q8 A0 C
                        go_wp2_with fail
                        go_ret
                        exact ⟨ret_b (HBADX.out (by rw [HXV.out]; rfl)).symm, BW1.out.trans ((BWV.out.trans (bq.mono (by have := BWV.out.size; omega))).mono BW1.out.size)⟩
                      | false =>
                        cases h2 with
                        | true =>
                          obtain ⟨C, hC⟩ : ∃ C : World → Prop, C = fun W => Below wv.heap.size wv W := ⟨_, rfl⟩
                          have qb : ∀ W, C W → Below wv.heap.size wv W := fun W h => by rw [hC] at h; exact h
                          have qc : ∀ W, Below wv.heap.size wv W → C W := fun W h => by rw [hC]; exact h
                          have hC0 : C (World.drew wv) := qc _ (Below.refl _ _).drew
                          have q0 : ∀ zc : WC C, zc.w.cell? ⟨w.heap.size, 0, none⟩ = some (.slice (some ⟨g, o, none⟩) k c) := fun zc => ((qb _ zc.h).cell (p := ⟨w.heap.size, 0, none⟩) (by first | omega | (simp; done) | (simp; omega))).trans (by first | assumption | go_simp)
                          have q1 : ∀ zc : WC C, zc.w.cell? ⟨w.heap.size, 1, none⟩ = some (.slice B m d) := fun zc => ((qb _ zc.h).cell (p := ⟨w.heap.size, 1, none⟩) (by first | omega | (simp; done) | (simp; omega))).trans (by first | assumption | go_simp)
                          have q2 : ∀ zc : WC C, zc.w.cell? ⟨w.heap.size, 2, none⟩ = some (.int .i64 h) := fun zc => ((qb _ zc.h).cell (p := ⟨w.heap.size, 2, none⟩) (by first | omega | (simp; done) | (simp; omega))).trans (by first | assumption | go_simp)
                          have q3 : ∀ zc : WC C, zc.w.cell? ⟨wn.heap.size, 0, none⟩ = some (.string e.name) := fun zc => ((qb _ zc.h).cell (p := ⟨wn.heap.size, 0, none⟩) (by first | omega | (simp; done) | (simp; omega))).trans (by first | assumption | go_simp)
                          have q4 : ∀ zc : WC C, zc.w.cell? ⟨wn.heap.size, 1, none⟩ = some (.slice (some ⟨g3, o3, none⟩) q cl) := fun zc => ((qb _ zc.h).cell (p := ⟨wn.heap.size, 1, none⟩) (by first | omega | (simp; done) | (simp; omega))).trans (by first | assumption | go_simp)
                          have q5 : ∀ zc : WC C, zc.w.cell? ⟨wn.heap.size, 2, none⟩ = some (.int .i64 e.wat) := fun zc => ((qb _ zc.h).cell (p := ⟨wn.heap.size, 2, none⟩) (by first | omega | (simp; done) | (simp; omega))).trans (by first | assumption | go_simp)
                          have q6 : ∀ zc : WC C, zc.w.cell? ⟨g, o + i0 * 3, none⟩ = some (.string f.name) := fun zc => ((qb _ zc.h).cell (p := ⟨g, o + i0 * 3, none⟩) (by first | omega | (simp; done) | (simp; omega))).trans (by first | assumption | go_simp)
                          have q7 : ∀ zc : WC C, zc.w.cell? ⟨g, o + i0 * 3 + 1, none⟩ = some (.slice L2 fl cl2) := fun zc => ((qb _ zc.h).cell (p := ⟨g, o + i0 * 3 + 1, none⟩) (by first | omega | (simp; done) | (simp; omega))).trans (by first | assumption | go_simp)
                          have q8 : ∀ zc : WC C, zc.w.cell? ⟨g, o + i0 * 3 + 2, none⟩ = some (.int .i64 f.wat) := fun zc => ((qb _ zc.h).cell (p := ⟨g, o + i0 * 3 + 2, none⟩) (by first | omega | (simp; done) | (simp; omega))).trans (by first | assumption | go_simp)
                          have A0 : Hid (∀ zc : WC C, Calls Tryz.prog 53 #[.slice L2 fl cl2, .int .i64 x] zc.w fun e w2 => e = .returned (.bool false) ∧ ∃ y : WC C, w2 = y.w) := Lib.hid (fun zc => wc_calls (((fun _ => HH1.out zc.w (HRF.out.below (qb _ zc.h))) zc.w).mono fun e w2 k => ⟨k.1, qc _ ((qb _ zc.h).trans (k.2.mono (qb _ zc.h).size))⟩))
                          have A1 : Hid (∀ zc : WC C, Calls Tryz.prog 53 #[.slice L2 fl cl2, .int .i64 (-x)] zc.w fun e w2 => e = .returned (.bool true) ∧ ∃ y : WC C, w2 = y.w) := Lib.hid (fun zc => wc_calls (((fun _ => HH2.out zc.w (HRF.out.below (qb _ zc.h))) zc.w).mono fun e w2 k => ⟨k.1, qc _ ((qb _ zc.h).trans (k.2.mono (qb _ zc.h).size))⟩))
                          have nwc : Nonempty (WC C) := ⟨⟨_, hC0⟩⟩
                          clear hC
                          have hneg := HNEG.out
                          refine region_wc C (by kernel_rfl) (by kernel_rfl) hC0 ?_
                          repeat (go_big_quiet_step (first | (go_at_call 53; with_reducible exact A0.out _) | (go_at_call 53; with_reducible exact A1.out _)))
                          refine wpQuiet_nil ?_
                          clear hneg
                          rintro _ ⟨xq, rfl⟩
                          have bq := qb _ xq.h
                          have gf0 := q0 xq
                          have gf1 := q1 xq
                          have gf2 := q2 xq
                          have gf3 := q3 xq
                          have gf4 := q4 xq
                          have gf5 := q5 xq
                          have gf6 := q6 xq
                          have gf7 := q7 xq
                          have gf8 := q8 xq
                          obtain ⟨wq, hwq⟩ : ∃ wq, wq = xq.w := ⟨_, rfl⟩
                          rw [← hwq] at bq gf0 gf1 gf2 gf3 gf4 gf5 gf6 gf7 gf8 ⊢
                          clear hwq xq nwc hC0 qb qc q0 q1 q2 q3 q4 q5 q6 q7 q8 A0 A1 C
                          go_wp2_with fail
                          go_ret
                          exact ⟨ret_b (HBADX.out (by rw [HXV.out]; rfl)).symm, BW1.out.trans ((BWV.out.trans (bq.mono (by have := BWV.out.size; omega))).mono BW1.out.size)⟩
                        | false =>
                          cases h3 with
                          | false =>
                            obtain ⟨C, hC⟩ : ∃ C : World → Prop, C = fun W => Below wv.heap.size wv W := ⟨_, rfl⟩
                            have qb : ∀ W, C W → Below wv.heap.size wv W := fun W h => by rw [hC] at h; exact h
                            have qc : ∀ W, Below wv.heap.size wv W → C W := fun W h => by rw [hC]; exact h
                            have hC0 : C (World.drew wv) := qc _ (Below.refl _ _).drew
                            have q0 : ∀ zc : WC C, zc.w.cell? ⟨w.heap.size, 0, none⟩ = some (.slice (some ⟨g, o, none⟩) k c) := fun zc => ((qb _ zc.h).cell (p := ⟨w.heap.size, 0, none⟩) (by first | omega | (simp; done) | (simp; omega))).trans (by first | assumption | go_simp)
                            have q1 : ∀ zc : WC C, zc.w.cell? ⟨w.heap.size, 1, none⟩ = some (.slice B m d) := fun zc => ((qb _ zc.h).cell (p := ⟨w.heap.size, 1, none⟩) (by first | omega | (simp; done) | (simp; omega))).trans (by first | assumption | go_simp)
                            have q2 : ∀ zc : WC C, zc.w.cell? ⟨w.heap.size, 2, none⟩ = some (.int .i64 h) := fun zc => ((qb _ zc.h).cell (p := ⟨w.heap.size, 2, none⟩) (by first | omega | (simp; done) | (simp; omega))).trans (by first | assumption | go_simp)
                            have q3 : ∀ zc : WC C, zc.w.cell? ⟨wn.heap.size, 0, none⟩ = some (.string e.name) := fun zc => ((qb _ zc.h).cell (p := ⟨wn.heap.size, 0, none⟩) (by first | omega | (simp; done) | (simp; omega))).trans (by first | assumption | go_simp)
                            have q4 : ∀ zc : WC C, zc.w.cell? ⟨wn.heap.size, 1, none⟩ = some (.slice (some ⟨g3, o3, none⟩) q cl) := fun zc => ((qb _ zc.h).cell (p := ⟨wn.heap.size, 1, none⟩) (by first | omega | (simp; done) | (simp; omega))).trans (by first | assumption | go_simp)
                            have q5 : ∀ zc : WC C, zc.w.cell? ⟨wn.heap.size, 2, none⟩ = some (.int .i64 e.wat) := fun zc => ((qb _ zc.h).cell (p := ⟨wn.heap.size, 2, none⟩) (by first | omega | (simp; done) | (simp; omega))).trans (by first | assumption | go_simp)
                            have q6 : ∀ zc : WC C, zc.w.cell? ⟨g, o + i0 * 3, none⟩ = some (.string f.name) := fun zc => ((qb _ zc.h).cell (p := ⟨g, o + i0 * 3, none⟩) (by first | omega | (simp; done) | (simp; omega))).trans (by first | assumption | go_simp)
                            have q7 : ∀ zc : WC C, zc.w.cell? ⟨g, o + i0 * 3 + 1, none⟩ = some (.slice L2 fl cl2) := fun zc => ((qb _ zc.h).cell (p := ⟨g, o + i0 * 3 + 1, none⟩) (by first | omega | (simp; done) | (simp; omega))).trans (by first | assumption | go_simp)
                            have q8 : ∀ zc : WC C, zc.w.cell? ⟨g, o + i0 * 3 + 2, none⟩ = some (.int .i64 f.wat) := fun zc => ((qb _ zc.h).cell (p := ⟨g, o + i0 * 3 + 2, none⟩) (by first | omega | (simp; done) | (simp; omega))).trans (by first | assumption | go_simp)
                            have A0 : Hid (∀ zc : WC C, Calls Tryz.prog 53 #[.slice L2 fl cl2, .int .i64 x] zc.w fun e w2 => e = .returned (.bool false) ∧ ∃ y : WC C, w2 = y.w) := Lib.hid (fun zc => wc_calls (((fun _ => HH1.out zc.w (HRF.out.below (qb _ zc.h))) zc.w).mono fun e w2 k => ⟨k.1, qc _ ((qb _ zc.h).trans (k.2.mono (qb _ zc.h).size))⟩))
                            have A1 : Hid (∀ zc : WC C, Calls Tryz.prog 53 #[.slice L2 fl cl2, .int .i64 (-x)] zc.w fun e w2 => e = .returned (.bool false) ∧ ∃ y : WC C, w2 = y.w) := Lib.hid (fun zc => wc_calls (((fun _ => HH2.out zc.w (HRF.out.below (qb _ zc.h))) zc.w).mono fun e w2 k => ⟨k.1, qc _ ((qb _ zc.h).trans (k.2.mono (qb _ zc.h).size))⟩))
                            have A2 : Hid (∀ zc : WC C, Calls Tryz.prog 54 #[.slice (some ⟨g3, o3, none⟩) q cl, .slice L2 fl cl2] zc.w fun e w2 => e = .returned (.bool false) ∧ ∃ y : WC C, w2 = y.w) := Lib.hid (fun zc => wc_calls (((fun _ => HH3.out zc.w (HRV.out.below (qb _ zc.h)) (HRF.out.below (qb _ zc.h))) zc.w).mono fun e w2 k => ⟨k.1, qc _ ((qb _ zc.h).trans (k.2.mono (qb _ zc.h).size))⟩))
                            have nwc : Nonempty (WC C) := ⟨⟨_, hC0⟩⟩
                            clear hC
                            have hneg := HNEG.out
                            refine region_wc C (by kernel_rfl) (by kernel_rfl) hC0 ?_
                            repeat (go_big_quiet_step (first | (go_at_call 53; with_reducible exact A0.out _) | (go_at_call 53; with_reducible exact A1.out _) | (go_at_call 54; with_reducible exact A2.out _)))
                            refine wpQuiet_nil ?_
                            clear hneg
                            rintro _ ⟨xq, rfl⟩
                            have bq := qb _ xq.h
                            have gf0 := q0 xq
                            have gf1 := q1 xq
                            have gf2 := q2 xq
                            have gf3 := q3 xq
                            have gf4 := q4 xq
                            have gf5 := q5 xq
                            have gf6 := q6 xq
                            have gf7 := q7 xq
                            have gf8 := q8 xq
                            obtain ⟨wq, hwq⟩ : ∃ wq, wq = xq.w := ⟨_, rfl⟩
                            rw [← hwq] at bq gf0 gf1 gf2 gf3 gf4 gf5 gf6 gf7 gf8 ⊢
                            clear hwq xq nwc hC0 qb qc q0 q1 q2 q3 q4 q5 q6 q7 q8 A0 A1 A2 C
                            go_wp2_with fail
                            go_ret
                            exact ⟨ret_b (HBADX.out (by rw [HXV.out]; rfl)).symm, BW1.out.trans ((BWV.out.trans (bq.mono (by have := BWV.out.size; omega))).mono BW1.out.size)⟩
                          | true =>
                            obtain ⟨C, hC⟩ : ∃ C : World → Prop, C = fun W => Below wv.heap.size wv W := ⟨_, rfl⟩
                            have qb : ∀ W, C W → Below wv.heap.size wv W := fun W h => by rw [hC] at h; exact h
                            have qc : ∀ W, Below wv.heap.size wv W → C W := fun W h => by rw [hC]; exact h
                            have hC0 : C (World.drew wv) := qc _ (Below.refl _ _).drew
                            have q0 : ∀ zc : WC C, zc.w.cell? ⟨w.heap.size, 0, none⟩ = some (.slice (some ⟨g, o, none⟩) k c) := fun zc => ((qb _ zc.h).cell (p := ⟨w.heap.size, 0, none⟩) (by first | omega | (simp; done) | (simp; omega))).trans (by first | assumption | go_simp)
                            have q1 : ∀ zc : WC C, zc.w.cell? ⟨w.heap.size, 1, none⟩ = some (.slice B m d) := fun zc => ((qb _ zc.h).cell (p := ⟨w.heap.size, 1, none⟩) (by first | omega | (simp; done) | (simp; omega))).trans (by first | assumption | go_simp)
                            have q2 : ∀ zc : WC C, zc.w.cell? ⟨w.heap.size, 2, none⟩ = some (.int .i64 h) := fun zc => ((qb _ zc.h).cell (p := ⟨w.heap.size, 2, none⟩) (by first | omega | (simp; done) | (simp; omega))).trans (by first | assumption | go_simp)
                            have q3 : ∀ zc : WC C, zc.w.cell? ⟨wn.heap.size, 0, none⟩ = some (.string e.name) := fun zc => ((qb _ zc.h).cell (p := ⟨wn.heap.size, 0, none⟩) (by first | omega | (simp; done) | (simp; omega))).trans (by first | assumption | go_simp)
                            have q4 : ∀ zc : WC C, zc.w.cell? ⟨wn.heap.size, 1, none⟩ = some (.slice (some ⟨g3, o3, none⟩) q cl) := fun zc => ((qb _ zc.h).cell (p := ⟨wn.heap.size, 1, none⟩) (by first | omega | (simp; done) | (simp; omega))).trans (by first | assumption | go_simp)
                            have q5 : ∀ zc : WC C, zc.w.cell? ⟨wn.heap.size, 2, none⟩ = some (.int .i64 e.wat) := fun zc => ((qb _ zc.h).cell (p := ⟨wn.heap.size, 2, none⟩) (by first | omega | (simp; done) | (simp; omega))).trans (by first | assumption | go_simp)
                            have q6 : ∀ zc : WC C, zc.w.cell? ⟨g, o + i0 * 3, none⟩ = some (.string f.name) := fun zc => ((qb _ zc.h).cell (p := ⟨g, o + i0 * 3, none⟩) (by first | omega | (simp; done) | (simp; omega))).trans (by first | assumption | go_simp)
                            have q7 : ∀ zc : WC C, zc.w.cell? ⟨g, o + i0 * 3 + 1, none⟩ = some (.slice L2 fl cl2) := fun zc => ((qb _ zc.h).cell (p := ⟨g, o + i0 * 3 + 1, none⟩) (by first | omega | (simp; done) | (simp; omega))).trans (by first | assumption | go_simp)
                            have q8 : ∀ zc : WC C, zc.w.cell? ⟨g, o + i0 * 3 + 2, none⟩ = some (.int .i64 f.wat) := fun zc => ((qb _ zc.h).cell (p := ⟨g, o + i0 * 3 + 2, none⟩) (by first | omega | (simp; done) | (simp; omega))).trans (by first | assumption | go_simp)
                            have A0 : Hid (∀ zc : WC C, Calls Tryz.prog 53 #[.slice L2 fl cl2, .int .i64 x] zc.w fun e w2 => e = .returned (.bool false) ∧ ∃ y : WC C, w2 = y.w) := Lib.hid (fun zc => wc_calls (((fun _ => HH1.out zc.w (HRF.out.below (qb _ zc.h))) zc.w).mono fun e w2 k => ⟨k.1, qc _ ((qb _ zc.h).trans (k.2.mono (qb _ zc.h).size))⟩))
                            have A1 : Hid (∀ zc : WC C, Calls Tryz.prog 53 #[.slice L2 fl cl2, .int .i64 (-x)] zc.w fun e w2 => e = .returned (.bool false) ∧ ∃ y : WC C, w2 = y.w) := Lib.hid (fun zc => wc_calls (((fun _ => HH2.out zc.w (HRF.out.below (qb _ zc.h))) zc.w).mono fun e w2 k => ⟨k.1, qc _ ((qb _ zc.h).trans (k.2.mono (qb _ zc.h).size))⟩))
                            have A2 : Hid (∀ zc : WC C, Calls Tryz.prog 54 #[.slice (some ⟨g3, o3, none⟩) q cl, .slice L2 fl cl2] zc.w fun e w2 => e = .returned (.bool true) ∧ ∃ y : WC C, w2 = y.w) := Lib.hid (fun zc => wc_calls (((fun _ => HH3.out zc.w (HRV.out.below (qb _ zc.h)) (HRF.out.below (qb _ zc.h))) zc.w).mono fun e w2 k => ⟨k.1, qc _ ((qb _ zc.h).trans (k.2.mono (qb _ zc.h).size))⟩))
                            have nwc : Nonempty (WC C) := ⟨⟨_, hC0⟩⟩
                            clear hC
                            have hneg := HNEG.out
                            refine region_wc C (by kernel_rfl) (by kernel_rfl) hC0 ?_
                            repeat (go_big_quiet_step (first | (go_at_call 53; with_reducible exact A0.out _) | (go_at_call 53; with_reducible exact A1.out _) | (go_at_call 54; with_reducible exact A2.out _)))
                            refine wpQuiet_nil ?_
                            clear hneg
                            rintro _ ⟨xq, rfl⟩
                            have bq := qb _ xq.h
                            have gf0 := q0 xq
                            have gf1 := q1 xq
                            have gf2 := q2 xq
                            have gf3 := q3 xq
                            have gf4 := q4 xq
                            have gf5 := q5 xq
                            have gf6 := q6 xq
                            have gf7 := q7 xq
                            have gf8 := q8 xq
                            obtain ⟨wq, hwq⟩ : ∃ wq, wq = xq.w := ⟨_, rfl⟩
                            rw [← hwq] at bq gf0 gf1 gf2 gf3 gf4 gf5 gf6 gf7 gf8 ⊢
                            clear hwq xq nwc hC0 qb qc q0 q1 q2 q3 q4 q5 q6 q7 q8 A0 A1 A2 C
                            go_wp2_with fail
                            go_roundw
                            case rel => exact ⟨p + 1, by omega, by go_num, HGOODX.out (by rw [HXV.out]; rfl), B3V.out.trans (bq.mono (by have := B3V.out.size; omega))⟩
                            case measure => simp [intOf]; omega
                  · have hpq : ¬ ((p : Int) < (q : Int)) := by omega
                    have HND := Lib.hid (HGOOD.out (by rw [HEQ.out, HQ.out]; have := HALI.out; rwa [show p = q from by omega] at this))
                    go_wp2_with fail
                    go_roundw
                    case rel => exact ⟨j + 1, by omega, by go_num, HND.out, BW3.out.trans (BI.out.mono BW3.out.size)⟩
                    case measure => simp [intOf]; omega
              · have hjk : ¬ ((j : Int) < (k : Int)) := by omega
                have HFIN : Hid (ndsR s.ns = true) := Lib.hid (by
                  have h1 := HALL.out; have h2 := HALLK.out
                  rw [show j = k from by omega] at h1
                  unfold ndsR
                  rw [HHT.out, HLN.out, h1, h2]; rfl)
                go_wp2_with fail
                go_ret
                exact ⟨ret_b HFIN.out.symm, BW1.out.trans (hbw.mono BW1.out.size)⟩
      · have hlb : ¬ ((0 : Int) < (nl : Int)) := by omega
        have hwb : (f0.wat != 0) = true := by simp [hw0]
        have HHT : Hid (ndH s.ns = false) := Lib.hid (by rw [HH.out, decide_eq_false hw0, Bool.and_false])
        clear hl0 hw0
        go_wp2_with fail
        go_ret
        exact ⟨ret_b (ndsR_head HHT.out).symm, BW1.out⟩
    · have hlb : ((0 : Int) < (nl : Int)) := by omega
      have HHT : Hid (ndH s.ns = false) := Lib.hid (by rw [HH.out, decide_eq_false hl0, Bool.false_and])
      clear hl0
      go_wp2_with fail
      go_ret
      exact ⟨ret_b (ndsR_head HHT.out).symm, BW1.out⟩
  · have hb : (decide ((1 : Int) ≤ k) && decide ((k : Int) ≤ 7)) = false := by
      rw [Bool.and_eq_false_iff, decide_eq_false_iff_not, decide_eq_false_iff_not]; omega
    rw [hb] at hin
    have HIN := Lib.hid hin
    have HHT : Hid (ndH s.ns = false) := Lib.hid (by
      unfold ndH; rw [decide_eq_false (by have := HLN.out; omega)]; rfl)
    clear hin hb
    go_enter Tryz.func30, Tryz.ntmps30
    go_wp2_with fail
    refine (HIN.out _).mono ?_
    rintro x wx ⟨rfl, rfl⟩
    go_wp2_with fail
    go_ret
    exact ⟨ret_b (ndsR_head HHT.out).symm, (by repeat (first | exact Below.refl _ _ | refine below_step (by assumption) (by first | omega | (simp; done) | (simp; omega)) ?_ | refine below_drewN ?_ _ | refine Below.drew ?_ | refine Below.setCell ?_ (by first | omega | (simp; done) | (simp; omega)) _ | refine Below.alloc ?_ (by first | omega | (simp; done) | (simp; omega)) _))⟩

end Go.Proofs.YtgajodcgedhikaaGreatDoor

