/-
  WALK of impl's nodesOk.
  WALKS of slices.Equal at ints and at ties, impl's sameNodes, slices.EqualFunc at nodes, impl.SameShows.
-/
import Derived.Test.YtgajodcgedhikaaGreatDoorBdPnC
import Derived.Deep.RegionHeld3
import Derived.Deep.CutRange
import Derived.Test.YtgajodcgedhikaaGreatDoorBdPnA
import Derived.Test.YtgajodcgedhikaaGreatDoorBdShR
import Derived.BigQuiet
import Derived.Deep.QuietTactic
import Derived.Deep.Cut
import Derived.Laws.StructEq
namespace Go.Proofs.YtgajodcgedhikaaGreatDoor
open Go.RowKit
open Go.Maps (Keyed int_keyed string_keyed keyOf_int_mk has)
set_option linter.unusedVariables false
set_option linter.unusedSimpArgs false

theorem namR_self {ns : List GN} {j : Nat} {e : GN} (h : ns[j]? = some e) : 0 ≤ namR ns e.name := by
  rcases namR_rng ns e.name with h1 | ⟨i, _, h1⟩
  · have := firJ_none (f := fun x : GN => decide (x.name = e.name)) h1 e (List.mem_of_getElem? h)
    simp at this
  · omega
theorem lasR_self {ns : List GN} {j : Nat} {e : GN} (h : ns[j]? = some e) (h0 : e.wat ≠ 0) : 0 ≤ lasR ns e.wat := by
  rcases lasR_rng ns e.wat with h1 | ⟨i, _, h1, _⟩
  · have := lasR_none h0 h1 (List.getElem?_eq_some_iff.1 h).1
    rw [h] at this
    exact absurd rfl this
  · omega
theorem ndA2_at {ns : List GN} {j : Nat} {e : GN} (h : ns[j]? = some e) : ndA2 ns j = (nodB e && (decide (namR ns e.name = j) && (decide (e.wat = 0) || decide (lasR ns e.wat = j)))) := by
  unfold ndA2; rw [h]; rfl
theorem ndC_at {ns : List GN} {j : Nat} {e : GN} (h : ns[j]? = some e) : ndC ns j = ((nodB e && (decide (namR ns e.name = j) && (decide (e.wat = 0) || decide (lasR ns e.wat = j)))) && obR ns e.lab) := by
  unfold ndC; rw [ndA2_at h, h]; rfl
theorem ndP_no {ns : List GN} {j : Nat} (h : ndC ns j = false) (hj : j < ns.length) : ndP ns = false := by
  unfold ndP
  rw [allJ_no (f := ndC ns) (j := j + 1) (by rw [allJ_next, h, Bool.and_false]) (show j + 1 ≤ ns.length by omega), Bool.and_false]
theorem at_name {ns : List GN} {x : ByteArray} {c : Int} (h : (nmR ns 0).atKey (.string x.data.toList) (.lit (.int .i64 0)) = (.lit (.int .i64 c) : DU)) : c = idxZ (namR ns x) := by
  have h2 := nmR_at x ns 0
  have h3 : (.lit (.int .i64 c) : DU) = vI (idxZ (firJ (fun e => decide (e.name = x)) ns 0)) := h.symm.trans h2
  unfold vI at h3
  injection h3 with h3
  injection h3 with _ h3
theorem at_watch {ns : List GN} {p c : Int} (h : (waD ns ns.length).atKey (.int .i64 p) (.lit (.int .i64 0)) = (.lit (.int .i64 c) : DU)) : c = idxZ (lasR ns p) := by
  have h2 := waR_at ns p
  have h3 : (.lit (.int .i64 c) : DU) = vI (idxZ (lasR ns p)) := h.symm.trans h2
  unfold vI at h3
  injection h3 with h3
  injection h3 with _ h3

set_option maxRecDepth 100000 in
set_option maxHeartbeats 16000000 in
theorem nodesOk_any (s : GS) (A : Option Addr) (k c : Nat) (B : Option Addr) (m d : Nat) (w : World) (hs : ShB s) (hw : ∀ e ∈ s.ns, e.wf) (ha : ShowAt w s A k B m) :
    Calls Tryz.prog 37 #[shV A k c B m d s.h] w fun e w' => e = .returned (.bool (ndsR s.ns)) ∧ Below w.heap.size w w' := by
  have hkk : k ≤ 1048576 := by have := hs.ns; have := ha.ln; omega
  have HLN := Lib.hid ha.ln
  have HEACH := Lib.hid hs.each
  have HWF := Lib.hid hw
  have HNM := Lib.hid (fun W h => names_any s.ns A k c W ha.ln hkk hw h)
  have HWT := Lib.hid (fun W h => watchers_any s.ns A k c W ha.ln hkk hw h)
  have HOB0 := Lib.hid (fun lab b L q cl W hl hq hx h1 h2 h3 => isObserved_any s lab b A k c B m d L q cl W hs hl hq hx h1 h2 h3)
  have HA := Lib.hid ha
  clear ha hs hw
  rw [← ndP_eq]
  obtain ⟨h, hh⟩ : ∃ h, h = s.h := ⟨_, rfl⟩
  rw [← hh] at HOB0
  rw [← hh]
  clear hh
  unfold shV at HOB0 ⊢
  by_cases h1 : k < 1
  · have hk1 : ((k : Int) < 1) := by omega
    have HH : Hid (ndH s.ns = false) := Lib.hid (by unfold ndH; rw [decide_eq_false (by have := HLN.out; omega)]; rfl)
    go_enter Tryz.func37, Tryz.ntmps37
    go_wp2_with fail
    go_ret
    exact ⟨ret_b (by unfold ndP; rw [HH.out]; rfl), (by repeat (first | exact Below.refl _ _ | refine below_step (by assumption) (by first | omega | (simp; done) | (simp; omega)) ?_ | refine below_drewN ?_ _ | refine Below.drew ?_ | refine Below.setCell ?_ (by first | omega | (simp; done) | (simp; omega)) _ | refine Below.alloc ?_ (by first | omega | (simp; done) | (simp; omega)) _))⟩
  by_cases h7 : 7 < k
  · have hk1 : ¬ ((k : Int) < 1) := by omega
    have hk7 : ((7 : Int) < (k : Int)) := by omega
    have HH : Hid (ndH s.ns = false) := Lib.hid (by unfold ndH; rw [decide_eq_false (by have := HLN.out; omega)]; rfl)
    go_enter Tryz.func37, Tryz.ntmps37
    go_wp2_with fail
    go_ret
    exact ⟨ret_b (by unfold ndP; rw [HH.out]; rfl), (by repeat (first | exact Below.refl _ _ | refine below_step (by assumption) (by first | omega | (simp; done) | (simp; omega)) ?_ | refine below_drewN ?_ _ | refine Below.drew ?_ | refine Below.setCell ?_ (by first | omega | (simp; done) | (simp; omega)) _ | refine Below.alloc ?_ (by first | omega | (simp; done) | (simp; omega)) _))⟩
  have hk1 : ¬ ((k : Int) < 1) := by omega
  have hk7 : ¬ ((7 : Int) < (k : Int)) := by omega
  have hk0 : (0 : Int) < (k : Int) := by omega
  obtain ⟨f0, hf0⟩ : ∃ f, s.ns[0]? = some f := ⟨_, List.getElem?_eq_getElem (by have := HLN.out; omega)⟩
  obtain ⟨g, o, L0, cl0, rfl, hg, n0, n1, n2, _⟩ := node_facts HA.out.nodes hf0
  rw [Nat.zero_mul, Nat.add_zero] at n0 n1 n2
  obtain ⟨nl, hq0⟩ : ∃ q, q = f0.lab.length := ⟨_, rfl⟩
  rw [← hq0] at n1
  have HH : Hid (ndH s.ns = (decide (nl = 0) && decide (f0.wat = 0))) := Lib.hid (by
    unfold ndH
    rw [hf0, decide_eq_true (by have := HLN.out; omega), Bool.true_and, hq0]; rfl)
  obtain ⟨w1, hw1⟩ : ∃ W, W = w.alloc (.cells #[.slice (some ⟨g, o, none⟩) k c, .slice B m d, .int .i64 h] 25) := ⟨_, rfl⟩
  have B_w1 : Below w.heap.size w w1 := by rw [hw1]; exact (Below.refl _ _).alloc (Nat.le_refl _) _
  have z_w1 : w.heap.size < w1.heap.size := by rw [hw1]; simp
  have c0_w1 : w1.cell? ⟨w.heap.size, 0, none⟩ = some (.slice (some ⟨g, o, none⟩) k c) := by rw [hw1]; go_simp
  have c1_w1 : w1.cell? ⟨w.heap.size, 1, none⟩ = some (.slice B m d) := by rw [hw1]; go_simp
  have c2_w1 : w1.cell? ⟨w.heap.size, 2, none⟩ = some (.int .i64 h) := by rw [hw1]; go_simp
  have m0 := (B_w1.cell (p := ⟨g, o, none⟩) hg).trans n0
  have m1 := (B_w1.cell (p := ⟨g, o + 1, none⟩) hg).trans n1
  have m2 := (B_w1.cell (p := ⟨g, o + 2, none⟩) hg).trans n2
  have HA1 := Lib.hid (HA.out.below B_w1)
  have BW1 := Lib.hid B_w1
  have HW1 := Lib.hid hw1
  clear hf0 hq0 n0 n1 n2 hw1 B_w1
  by_cases hl0 : nl = 0
  · by_cases hw0 : f0.wat = 0
    · have hlb : ¬ ((0 : Int) < (nl : Int)) := by omega
      have hwb : (f0.wat != 0) = false := by simp [hw0]
      have HHT : Hid (ndH s.ns = true) := Lib.hid (by rw [HH.out, decide_eq_true hl0, decide_eq_true hw0]; rfl)
      clear hl0 hw0
      go_enter Tryz.func37, Tryz.ntmps37
      go_upto_region 1 with (fail)
      rw [← HW1.out]
      go_upto_region 3 with (fail)
      clear m0 m1 m2 hlb hwb hk1 hk7 hk0
      go_cut [3, 4] from 34 to 39 (fun p q wc => ∃ b1 b2, p = .map (some b1) ∧ q = .map (some b2) ∧ MapSI wc b1 k (nmR s.ns 0) ∧ MapII wc b2 k (waD s.ns k) ∧ Below w1.heap.size w1 wc)
      case first =>
        go_region_held3 (fun W => W.cell? ⟨w.heap.size, 0, none⟩ = some (.slice (some ⟨g, o, none⟩) k c) ∧ W.cell? ⟨w.heap.size, 1, none⟩ = some (.slice B m d) ∧ W.cell? ⟨w.heap.size, 2, none⟩ = some (.int .i64 h)) (first | (go_keep; done) | (with_reducible (refine ⟨?_, ?_, ?_⟩ <;> assumption)) | ((try dsimp only); refine ⟨?_, ?_, ?_⟩ <;> first | assumption | (go_simp; done))) (first | (go_at_call 62; refine (HNM.out _ (HA1.out.nodes.below (w := w1) (by repeat (first | exact Below.refl _ _ | refine below_step (by assumption) (by first | omega | (simp; done) | (simp; omega)) ?_ | refine below_drewN ?_ _ | refine Below.drew ?_ | refine Below.setCell ?_ (by first | omega | (simp; done) | (simp; omega)) _ | refine Below.alloc ?_ (by first | omega | (simp; done) | (simp; omega)) _)))).mono ?_; rintro e w6 ⟨rfl, hm6, b6⟩; have c0_w6 : w6.cell? ⟨w.heap.size, 0, none⟩ = some (.slice (some ⟨g, o, none⟩) k c) := (b6.cell (p := ⟨w.heap.size, 0, none⟩) (by first | omega | (simp; done) | (simp; omega))).trans (by first | assumption | go_simp); have c1_w6 : w6.cell? ⟨w.heap.size, 1, none⟩ = some (.slice B m d) := (b6.cell (p := ⟨w.heap.size, 1, none⟩) (by first | omega | (simp; done) | (simp; omega))).trans (by first | assumption | go_simp); have c2_w6 : w6.cell? ⟨w.heap.size, 2, none⟩ = some (.int .i64 h) := (b6.cell (p := ⟨w.heap.size, 2, none⟩) (by first | omega | (simp; done) | (simp; omega))).trans (by first | assumption | go_simp); have s0_w6 : w.heap.size < w6.heap.size := Nat.lt_of_lt_of_le (by first | omega | (simp; done) | (simp; omega)) b6.size; have N6 := Lib.hid hm6; have B6 := Lib.hid (show Below w1.heap.size w1 w6 from (by first | (with_reducible exact B7.out.trans (b6.mono B7.out.size)) | (with_reducible exact B7.out.drew.trans (b6.mono B7.out.size)) | exact (by repeat (first | exact Below.refl _ _ | refine below_step (by assumption) (by first | omega | (simp; done) | (simp; omega)) ?_ | refine below_drewN ?_ _ | refine Below.drew ?_ | refine Below.setCell ?_ (by first | omega | (simp; done) | (simp; omega)) _ | refine Below.alloc ?_ (by first | omega | (simp; done) | (simp; omega)) _)))); clear hm6) | (go_at_call 63; refine (HWT.out _ (HA1.out.nodes.below (w := w1) (by repeat (first | exact Below.refl _ _ | refine below_step (by assumption) (by first | omega | (simp; done) | (simp; omega)) ?_ | refine below_drewN ?_ _ | refine Below.drew ?_ | refine Below.setCell ?_ (by first | omega | (simp; done) | (simp; omega)) _ | refine Below.alloc ?_ (by first | omega | (simp; done) | (simp; omega)) _)))).mono ?_; rintro e w7 ⟨rfl, hm7, b7⟩; have c0_w7 : w7.cell? ⟨w.heap.size, 0, none⟩ = some (.slice (some ⟨g, o, none⟩) k c) := (b7.cell (p := ⟨w.heap.size, 0, none⟩) (by first | omega | (simp; done) | (simp; omega))).trans (by first | assumption | go_simp); have c1_w7 : w7.cell? ⟨w.heap.size, 1, none⟩ = some (.slice B m d) := (b7.cell (p := ⟨w.heap.size, 1, none⟩) (by first | omega | (simp; done) | (simp; omega))).trans (by first | assumption | go_simp); have c2_w7 : w7.cell? ⟨w.heap.size, 2, none⟩ = some (.int .i64 h) := (b7.cell (p := ⟨w.heap.size, 2, none⟩) (by first | omega | (simp; done) | (simp; omega))).trans (by first | assumption | go_simp); have s0_w7 : w.heap.size < w7.heap.size := Nat.lt_of_lt_of_le (by first | omega | (simp; done) | (simp; omega)) b7.size; have N7 := Lib.hid hm7; have B7 := Lib.hid (show Below w1.heap.size w1 w7 from (by first | (with_reducible exact B6.out.trans (b7.mono B6.out.size)) | (with_reducible exact B6.out.drew.trans (b7.mono B6.out.size)) | exact (by repeat (first | exact Below.refl _ _ | refine below_step (by assumption) (by first | omega | (simp; done) | (simp; omega)) ?_ | refine below_drewN ?_ _ | refine Below.drew ?_ | refine Below.setCell ?_ (by first | omega | (simp; done) | (simp; omega)) _ | refine Below.alloc ?_ (by first | omega | (simp; done) | (simp; omega)) _)))); clear hm7))
        all_goals go_wp2_with fail
        all_goals (go_meet; refine ⟨_, _, rfl, rfl, ?_, ?_, ?_⟩)
        all_goals (first | with_reducible exact N6.out | with_reducible exact N7.out | with_reducible exact B6.out | with_reducible exact B7.out | exact own_map_below N6.out b7 | exact own_map_below N7.out b6)
      case rest =>
        obtain ⟨w2, hww⟩ : ∃ W, W = wc := ⟨_, rfl⟩
        rw [← hww] at hcut ⊢
        clear hww wc
        obtain ⟨n1, n2, rfl, rfl, hm1, hm2, hb2⟩ := hcut
        have z_w2 := hb2.size
        have zz2 := Nat.lt_of_lt_of_le z_w1 z_w2
        have c0_w2 : w2.cell? ⟨w.heap.size, 0, none⟩ = some (.slice (some ⟨g, o, none⟩) k c) := (hb2.cell (p := ⟨w.heap.size, 0, none⟩) z_w1).trans c0_w1
        have c1_w2 : w2.cell? ⟨w.heap.size, 1, none⟩ = some (.slice B m d) := (hb2.cell (p := ⟨w.heap.size, 1, none⟩) z_w1).trans c1_w1
        have c2_w2 : w2.cell? ⟨w.heap.size, 2, none⟩ = some (.int .i64 h) := (hb2.cell (p := ⟨w.heap.size, 2, none⟩) z_w1).trans c2_w1
        have BW2 := Lib.hid hb2
        have HM1 := Lib.hid hm1
        have HM2 := Lib.hid hm2
        have HA2 := Lib.hid (HA1.out.below hb2)
        clear hb2 hm1 hm2 c0_w1 c1_w1 c2_w1
        go_wp2_with fail
        go_loopw [43] (fun i wr => ∃ j : Nat, j ≤ k ∧ i = .int .i64 j ∧ allJ (ndC s.ns) j = true ∧ Below w2.heap.size w2 wr) (fun i _ => k - (intOf i).toNat)
        case atStart => exact ⟨0, Nat.zero_le _, rfl, rfl, Below.refl _ _⟩
        case round =>
          obtain ⟨j, hj, rfl, hall, hbw⟩ := hrel
          have HALL := Lib.hid hall
          clear hall
          by_cases hlt : j < k
          · have hjk : ((j : Int) < (k : Int)) := by omega
            obtain ⟨e, he⟩ : ∃ f, s.ns[j]? = some f := ⟨_, List.getElem?_eq_getElem (by have := HLN.out; omega)⟩
            obtain ⟨g2, o2, L, cl, hA2, hg1, d0, d1, d2, hrow⟩ := node_facts HA2.out.nodes he
            injection hA2 with hA2
            injection hA2 with hA3 hA4
            subst hA3 hA4
            have HEQ := Lib.hid (ndC_at he)
            have hem := HEACH.out e (List.mem_of_getElem? he)
            have hwe := HWF.out e (List.mem_of_getElem? he)
            have HNS := Lib.hid (namR_self he)
            have HLS := Lib.hid (fun h0 => lasR_self he h0)
            obtain ⟨q, hq⟩ : ∃ q, q = e.lab.length := ⟨_, rfl⟩
            rw [← hq] at d1 hem
            have HNO := Lib.hid (fun W h => impl_NodeOk e L cl q W hq.symm hem.2 (by unfold maxLen; omega) h)
            have HOB := Lib.hid (fun W h1 h2 h3 => HOB0.out e.lab n2 L q cl W hq.symm hem.2 (fun x hx => wf_rngD (hwe.2.2.1 x hx)) h1 h2 h3)
            have HKN := Lib.hid (Go.WideMaps.keyOf_string_mk Tryz.underlying9 hwe.1)
            have HKI := Lib.hid (keyOf_int_mk Tryz.underlying3 hwe.2.2.2)
            have k0 := (hbw.cell (p := ⟨g, o + j * 3, none⟩) hg1).trans d0
            have k1 := (hbw.cell (p := ⟨g, o + j * 3 + 1, none⟩) hg1).trans d1
            have k2 := (hbw.cell (p := ⟨g, o + j * 3 + 2, none⟩) hg1).trans d2
            have HROW := Lib.hid (hrow.below hbw)
            have HAR := Lib.hid (HA2.out.below hbw)
            have HM1r := Lib.hid (own_map_below HM1.out hbw)
            have HM2r := Lib.hid (own_map_below HM2.out hbw)
            have BW := Lib.hid hbw
            have zr := hbw.size
            have zw := Nat.lt_of_lt_of_le zz2 zr
            have c0_wr := (hbw.cell (p := ⟨w.heap.size, 0, none⟩) zz2).trans c0_w2
            have c1_wr := (hbw.cell (p := ⟨w.heap.size, 1, none⟩) zz2).trans c1_w2
            have c2_wr := (hbw.cell (p := ⟨w.heap.size, 2, none⟩) zz2).trans c2_w2
            have e1 : (wr.heap.size = w.heap.size) = False := eq_false (by omega)
            have e2 : (w.heap.size = wr.heap.size) = False := eq_false (by omega)
            have HBAD := Lib.hid (fun (hx : ndC s.ns j = false) => ndP_no hx (by have := HLN.out; omega))
            have HGOOD := Lib.hid (fun (hx : ndC s.ns j = true) => (show allJ (ndC s.ns) (j + 1) = true from by rw [allJ_next, HALL.out, hx]; rfl))
            obtain ⟨b1, hb1⟩ : ∃ b, b = nodB e := ⟨_, rfl⟩
            rw [← hb1] at HNO HEQ
            obtain ⟨b2, hb2⟩ : ∃ b, b = obR s.ns e.lab := ⟨_, rfl⟩
            rw [← hb2] at HOB HEQ
            obtain ⟨x1, hx1⟩ : ∃ b, b = idxZ (namR s.ns e.name) := ⟨_, rfl⟩
            obtain ⟨x2, hx2⟩ : ∃ b, b = idxZ (lasR s.ns e.wat) := ⟨_, rfl⟩
            have HD1 : Hid (decide (namR s.ns e.name = j) = decide (x1 = j)) := Lib.hid (by rw [hx1]; unfold idxZ; rw [if_pos HNS.out])
            have HD2 : Hid (e.wat ≠ 0 → decide (lasR s.ns e.wat = j) = decide (x2 = j)) := Lib.hid (fun h0 => by rw [hx2]; unfold idxZ; rw [if_pos (HLS.out h0)])
            rw [HD1.out] at HEQ
            have HX1 := Lib.hid hx1
            have HX2 := Lib.hid hx2
            clear he hrow hq hem hwe d0 d1 d2 hbw hb1 hb2 hx1 hx2 c0_w2 c1_w2 c2_w2 HD1
            cases b1 with
            | false =>
              have hbw0 := BW.out
              go_wp2_with fail
              refine (HNO.out _ (HROW.out.below (by repeat (first | exact Below.refl _ _ | refine below_step (by assumption) (by first | omega | (simp; done) | (simp; omega)) ?_ | refine below_drewN ?_ _ | refine Below.drew ?_ | refine Below.setCell ?_ (by first | omega | (simp; done) | (simp; omega)) _ | refine Below.alloc ?_ (by first | omega | (simp; done) | (simp; omega)) _)))).mono ?_
              rintro e w3 ⟨rfl, b3⟩
              have c0_w3 : w3.cell? ⟨w.heap.size, 0, none⟩ = some (.slice (some ⟨g, o, none⟩) k c) := (b3.cell (p := ⟨w.heap.size, 0, none⟩) (by first | omega | (simp; done) | (simp; omega))).trans (by first | assumption | go_simp)
              have c1_w3 : w3.cell? ⟨w.heap.size, 1, none⟩ = some (.slice B m d) := (b3.cell (p := ⟨w.heap.size, 1, none⟩) (by first | omega | (simp; done) | (simp; omega))).trans (by first | assumption | go_simp)
              have c2_w3 : w3.cell? ⟨w.heap.size, 2, none⟩ = some (.int .i64 h) := (b3.cell (p := ⟨w.heap.size, 2, none⟩) (by first | omega | (simp; done) | (simp; omega))).trans (by first | assumption | go_simp)
              have c3_w3 : w3.cell? ⟨wr.heap.size, 0, none⟩ = some (.string e.name) := (b3.cell (p := ⟨wr.heap.size, 0, none⟩) (by first | omega | (simp; done) | (simp; omega))).trans (by first | assumption | go_simp)
              have c4_w3 : w3.cell? ⟨wr.heap.size, 1, none⟩ = some (.slice L q cl) := (b3.cell (p := ⟨wr.heap.size, 1, none⟩) (by first | omega | (simp; done) | (simp; omega))).trans (by first | assumption | go_simp)
              have c5_w3 : w3.cell? ⟨wr.heap.size, 2, none⟩ = some (.int .i64 e.wat) := (b3.cell (p := ⟨wr.heap.size, 2, none⟩) (by first | omega | (simp; done) | (simp; omega))).trans (by first | assumption | go_simp)
              have B_r3 : Below wr.heap.size wr w3 := (by repeat (first | exact Below.refl _ _ | refine below_step (by assumption) (by first | omega | (simp; done) | (simp; omega)) ?_ | refine below_drewN ?_ _ | refine Below.drew ?_ | refine Below.setCell ?_ (by first | omega | (simp; done) | (simp; omega)) _ | refine Below.alloc ?_ (by first | omega | (simp; done) | (simp; omega)) _))
              have B_w3 : Below w2.heap.size w2 w3 := BW.out.trans (B_r3.mono zr)
              have z_w3 := B_w3.size
              have s0_w3 : w.heap.size < w3.heap.size := Nat.lt_of_lt_of_le (by first | omega | (simp; done) | (simp; omega)) b3.size
              have s1_w3 : wr.heap.size < w3.heap.size := Nat.lt_of_lt_of_le (by first | omega | (simp; done) | (simp; omega)) b3.size
              have HM1q := Lib.hid (own_map_below HM1r.out B_r3)
              have HM2q := Lib.hid (own_map_below HM2r.out B_r3)
              have HROW3 := Lib.hid (HROW.out.below B_r3)
              have HAR3 := Lib.hid (HAR.out.below B_r3)
              clear b3 hbw0 B_r3
              go_wp2_with fail
              go_ret
              exact ⟨ret_b (HBAD.out (by rw [HEQ.out]; rfl)).symm, BW1.out.trans ((BW2.out.trans (B_w3.mono z_w2)).mono BW1.out.size)⟩
            | true =>
              by_cases hx : x1 = (j : Int)
              · have hxb : (x1 != (j : Int)) = false := by simp [hx]
                have HX := Lib.hid (decide_eq_true hx)
                clear hx
                by_cases hy : e.wat = 0
                · have hyb : (e.wat != 0) = false := by simp [hy]
                  have HY := Lib.hid (decide_eq_true hy)
                  clear hy
                  have hbw0 := BW.out
                  go_wp2_with fail
                  refine (HNO.out _ (HROW.out.below (by repeat (first | exact Below.refl _ _ | refine below_step (by assumption) (by first | omega | (simp; done) | (simp; omega)) ?_ | refine below_drewN ?_ _ | refine Below.drew ?_ | refine Below.setCell ?_ (by first | omega | (simp; done) | (simp; omega)) _ | refine Below.alloc ?_ (by first | omega | (simp; done) | (simp; omega)) _)))).mono ?_
                  rintro e w3 ⟨rfl, b3⟩
                  have c0_w3 : w3.cell? ⟨w.heap.size, 0, none⟩ = some (.slice (some ⟨g, o, none⟩) k c) := (b3.cell (p := ⟨w.heap.size, 0, none⟩) (by first | omega | (simp; done) | (simp; omega))).trans (by first | assumption | go_simp)
                  have c1_w3 : w3.cell? ⟨w.heap.size, 1, none⟩ = some (.slice B m d) := (b3.cell (p := ⟨w.heap.size, 1, none⟩) (by first | omega | (simp; done) | (simp; omega))).trans (by first | assumption | go_simp)
                  have c2_w3 : w3.cell? ⟨w.heap.size, 2, none⟩ = some (.int .i64 h) := (b3.cell (p := ⟨w.heap.size, 2, none⟩) (by first | omega | (simp; done) | (simp; omega))).trans (by first | assumption | go_simp)
                  have c3_w3 : w3.cell? ⟨wr.heap.size, 0, none⟩ = some (.string e.name) := (b3.cell (p := ⟨wr.heap.size, 0, none⟩) (by first | omega | (simp; done) | (simp; omega))).trans (by first | assumption | go_simp)
                  have c4_w3 : w3.cell? ⟨wr.heap.size, 1, none⟩ = some (.slice L q cl) := (b3.cell (p := ⟨wr.heap.size, 1, none⟩) (by first | omega | (simp; done) | (simp; omega))).trans (by first | assumption | go_simp)
                  have c5_w3 : w3.cell? ⟨wr.heap.size, 2, none⟩ = some (.int .i64 e.wat) := (b3.cell (p := ⟨wr.heap.size, 2, none⟩) (by first | omega | (simp; done) | (simp; omega))).trans (by first | assumption | go_simp)
                  have B_r3 : Below wr.heap.size wr w3 := (by repeat (first | exact Below.refl _ _ | refine below_step (by assumption) (by first | omega | (simp; done) | (simp; omega)) ?_ | refine below_drewN ?_ _ | refine Below.drew ?_ | refine Below.setCell ?_ (by first | omega | (simp; done) | (simp; omega)) _ | refine Below.alloc ?_ (by first | omega | (simp; done) | (simp; omega)) _))
                  have B_w3 : Below w2.heap.size w2 w3 := BW.out.trans (B_r3.mono zr)
                  have z_w3 := B_w3.size
                  have s0_w3 : w.heap.size < w3.heap.size := Nat.lt_of_lt_of_le (by first | omega | (simp; done) | (simp; omega)) b3.size
                  have s1_w3 : wr.heap.size < w3.heap.size := Nat.lt_of_lt_of_le (by first | omega | (simp; done) | (simp; omega)) b3.size
                  have HM1q := Lib.hid (own_map_below HM1r.out B_r3)
                  have HM2q := Lib.hid (own_map_below HM2r.out B_r3)
                  have HROW3 := Lib.hid (HROW.out.below B_r3)
                  have HAR3 := Lib.hid (HAR.out.below B_r3)
                  clear b3 hbw0 B_r3
                  obtain ⟨y1, hrun1, hat1, _⟩ := HM1q.out.lookup_int keyedS Tryz.underlying83 Tryz.underlying3 (zeroI _) HKN.out
                  obtain rfl : y1 = x1 := (at_name hat1).trans HX1.out.symm
                  clear hat1
                  go_wp2_with fail
                  refine (HOB.out _ HAR3.out HROW3.out HM2q.out).mono ?_
                  rintro e4 w4 ⟨rfl, b4⟩
                  have B_w4 : Below w2.heap.size w2 w4 := B_w3.trans (b4.mono z_w3)
                  clear b4 c0_w3 c1_w3 c2_w3 c3_w3 c4_w3 c5_w3 hrun1
                  cases b2 with
                  | false =>
                    go_wp2_with fail
                    go_ret
                    exact ⟨ret_b (HBAD.out (by rw [HEQ.out, HX.out, HY.out]; rfl)).symm, BW1.out.trans ((BW2.out.trans (B_w4.mono z_w2)).mono BW1.out.size)⟩
                  | true =>
                    go_wp2_with fail
                    go_roundw
                    case rel => exact ⟨j + 1, by omega, by go_num, HGOOD.out (by rw [HEQ.out, HX.out, HY.out]; rfl), B_w4⟩
                    case measure => simp [intOf]; omega
                · have hyb : (e.wat != 0) = true := by simp [hy]
                  have HY := Lib.hid (decide_eq_false hy)
                  have HDY := Lib.hid (HD2.out hy)
                  clear hy
                  by_cases hz : x2 = (j : Int)
                  · have hzb : (x2 != (j : Int)) = false := by simp [hz]
                    have HZ := Lib.hid (decide_eq_true hz)
                    clear hz
                    have hbw0 := BW.out
                    go_wp2_with fail
                    refine (HNO.out _ (HROW.out.below (by repeat (first | exact Below.refl _ _ | refine below_step (by assumption) (by first | omega | (simp; done) | (simp; omega)) ?_ | refine below_drewN ?_ _ | refine Below.drew ?_ | refine Below.setCell ?_ (by first | omega | (simp; done) | (simp; omega)) _ | refine Below.alloc ?_ (by first | omega | (simp; done) | (simp; omega)) _)))).mono ?_
                    rintro e w3 ⟨rfl, b3⟩
                    have c0_w3 : w3.cell? ⟨w.heap.size, 0, none⟩ = some (.slice (some ⟨g, o, none⟩) k c) := (b3.cell (p := ⟨w.heap.size, 0, none⟩) (by first | omega | (simp; done) | (simp; omega))).trans (by first | assumption | go_simp)
                    have c1_w3 : w3.cell? ⟨w.heap.size, 1, none⟩ = some (.slice B m d) := (b3.cell (p := ⟨w.heap.size, 1, none⟩) (by first | omega | (simp; done) | (simp; omega))).trans (by first | assumption | go_simp)
                    have c2_w3 : w3.cell? ⟨w.heap.size, 2, none⟩ = some (.int .i64 h) := (b3.cell (p := ⟨w.heap.size, 2, none⟩) (by first | omega | (simp; done) | (simp; omega))).trans (by first | assumption | go_simp)
                    have c3_w3 : w3.cell? ⟨wr.heap.size, 0, none⟩ = some (.string e.name) := (b3.cell (p := ⟨wr.heap.size, 0, none⟩) (by first | omega | (simp; done) | (simp; omega))).trans (by first | assumption | go_simp)
                    have c4_w3 : w3.cell? ⟨wr.heap.size, 1, none⟩ = some (.slice L q cl) := (b3.cell (p := ⟨wr.heap.size, 1, none⟩) (by first | omega | (simp; done) | (simp; omega))).trans (by first | assumption | go_simp)
                    have c5_w3 : w3.cell? ⟨wr.heap.size, 2, none⟩ = some (.int .i64 e.wat) := (b3.cell (p := ⟨wr.heap.size, 2, none⟩) (by first | omega | (simp; done) | (simp; omega))).trans (by first | assumption | go_simp)
                    have B_r3 : Below wr.heap.size wr w3 := (by repeat (first | exact Below.refl _ _ | refine below_step (by assumption) (by first | omega | (simp; done) | (simp; omega)) ?_ | refine below_drewN ?_ _ | refine Below.drew ?_ | refine Below.setCell ?_ (by first | omega | (simp; done) | (simp; omega)) _ | refine Below.alloc ?_ (by first | omega | (simp; done) | (simp; omega)) _))
                    have B_w3 : Below w2.heap.size w2 w3 := BW.out.trans (B_r3.mono zr)
                    have z_w3 := B_w3.size
                    have s0_w3 : w.heap.size < w3.heap.size := Nat.lt_of_lt_of_le (by first | omega | (simp; done) | (simp; omega)) b3.size
                    have s1_w3 : wr.heap.size < w3.heap.size := Nat.lt_of_lt_of_le (by first | omega | (simp; done) | (simp; omega)) b3.size
                    have HM1q := Lib.hid (own_map_below HM1r.out B_r3)
                    have HM2q := Lib.hid (own_map_below HM2r.out B_r3)
                    have HROW3 := Lib.hid (HROW.out.below B_r3)
                    have HAR3 := Lib.hid (HAR.out.below B_r3)
                    clear b3 hbw0 B_r3
                    obtain ⟨y1, hrun1, hat1, _⟩ := HM1q.out.lookup_int keyedS Tryz.underlying83 Tryz.underlying3 (zeroI _) HKN.out
                    obtain rfl : y1 = x1 := (at_name hat1).trans HX1.out.symm
                    clear hat1
                    obtain ⟨y2, hrun2, hat2, _⟩ := HM2q.out.lookup_int keyedI Tryz.underlying85 Tryz.underlying3 (zeroI _) HKI.out
                    obtain rfl : y2 = x2 := (at_watch (by rw [HLN.out]; exact hat2)).trans HX2.out.symm
                    clear hat2
                    go_wp2_with fail
                    refine (HOB.out _ HAR3.out HROW3.out HM2q.out).mono ?_
                    rintro e4 w4 ⟨rfl, b4⟩
                    have B_w4 : Below w2.heap.size w2 w4 := B_w3.trans (b4.mono z_w3)
                    clear b4 c0_w3 c1_w3 c2_w3 c3_w3 c4_w3 c5_w3 hrun1 hrun2
                    cases b2 with
                    | false =>
                      go_wp2_with fail
                      go_ret
                      exact ⟨ret_b (HBAD.out (by rw [HEQ.out, HX.out, HY.out, HDY.out, HZ.out]; rfl)).symm, BW1.out.trans ((BW2.out.trans (B_w4.mono z_w2)).mono BW1.out.size)⟩
                    | true =>
                      go_wp2_with fail
                      go_roundw
                      case rel => exact ⟨j + 1, by omega, by go_num, HGOOD.out (by rw [HEQ.out, HX.out, HY.out, HDY.out, HZ.out]; rfl), B_w4⟩
                      case measure => simp [intOf]; omega
                  · have hzb : (x2 != (j : Int)) = true := by simp [hz]
                    have HZ := Lib.hid (decide_eq_false hz)
                    clear hz
                    have hbw0 := BW.out
                    go_wp2_with fail
                    refine (HNO.out _ (HROW.out.below (by repeat (first | exact Below.refl _ _ | refine below_step (by assumption) (by first | omega | (simp; done) | (simp; omega)) ?_ | refine below_drewN ?_ _ | refine Below.drew ?_ | refine Below.setCell ?_ (by first | omega | (simp; done) | (simp; omega)) _ | refine Below.alloc ?_ (by first | omega | (simp; done) | (simp; omega)) _)))).mono ?_
                    rintro e w3 ⟨rfl, b3⟩
                    have c0_w3 : w3.cell? ⟨w.heap.size, 0, none⟩ = some (.slice (some ⟨g, o, none⟩) k c) := (b3.cell (p := ⟨w.heap.size, 0, none⟩) (by first | omega | (simp; done) | (simp; omega))).trans (by first | assumption | go_simp)
                    have c1_w3 : w3.cell? ⟨w.heap.size, 1, none⟩ = some (.slice B m d) := (b3.cell (p := ⟨w.heap.size, 1, none⟩) (by first | omega | (simp; done) | (simp; omega))).trans (by first | assumption | go_simp)
                    have c2_w3 : w3.cell? ⟨w.heap.size, 2, none⟩ = some (.int .i64 h) := (b3.cell (p := ⟨w.heap.size, 2, none⟩) (by first | omega | (simp; done) | (simp; omega))).trans (by first | assumption | go_simp)
                    have c3_w3 : w3.cell? ⟨wr.heap.size, 0, none⟩ = some (.string e.name) := (b3.cell (p := ⟨wr.heap.size, 0, none⟩) (by first | omega | (simp; done) | (simp; omega))).trans (by first | assumption | go_simp)
                    have c4_w3 : w3.cell? ⟨wr.heap.size, 1, none⟩ = some (.slice L q cl) := (b3.cell (p := ⟨wr.heap.size, 1, none⟩) (by first | omega | (simp; done) | (simp; omega))).trans (by first | assumption | go_simp)
                    have c5_w3 : w3.cell? ⟨wr.heap.size, 2, none⟩ = some (.int .i64 e.wat) := (b3.cell (p := ⟨wr.heap.size, 2, none⟩) (by first | omega | (simp; done) | (simp; omega))).trans (by first | assumption | go_simp)
                    have B_r3 : Below wr.heap.size wr w3 := (by repeat (first | exact Below.refl _ _ | refine below_step (by assumption) (by first | omega | (simp; done) | (simp; omega)) ?_ | refine below_drewN ?_ _ | refine Below.drew ?_ | refine Below.setCell ?_ (by first | omega | (simp; done) | (simp; omega)) _ | refine Below.alloc ?_ (by first | omega | (simp; done) | (simp; omega)) _))
                    have B_w3 : Below w2.heap.size w2 w3 := BW.out.trans (B_r3.mono zr)
                    have z_w3 := B_w3.size
                    have s0_w3 : w.heap.size < w3.heap.size := Nat.lt_of_lt_of_le (by first | omega | (simp; done) | (simp; omega)) b3.size
                    have s1_w3 : wr.heap.size < w3.heap.size := Nat.lt_of_lt_of_le (by first | omega | (simp; done) | (simp; omega)) b3.size
                    have HM1q := Lib.hid (own_map_below HM1r.out B_r3)
                    have HM2q := Lib.hid (own_map_below HM2r.out B_r3)
                    have HROW3 := Lib.hid (HROW.out.below B_r3)
                    have HAR3 := Lib.hid (HAR.out.below B_r3)
                    clear b3 hbw0 B_r3
                    obtain ⟨y1, hrun1, hat1, _⟩ := HM1q.out.lookup_int keyedS Tryz.underlying83 Tryz.underlying3 (zeroI _) HKN.out
                    obtain rfl : y1 = x1 := (at_name hat1).trans HX1.out.symm
                    clear hat1
                    obtain ⟨y2, hrun2, hat2, _⟩ := HM2q.out.lookup_int keyedI Tryz.underlying85 Tryz.underlying3 (zeroI _) HKI.out
                    obtain rfl : y2 = x2 := (at_watch (by rw [HLN.out]; exact hat2)).trans HX2.out.symm
                    clear hat2
                    go_wp2_with fail
                    go_ret
                    exact ⟨ret_b (HBAD.out (by rw [HEQ.out, HX.out, HY.out, HDY.out, HZ.out]; rfl)).symm, BW1.out.trans ((BW2.out.trans (B_w3.mono z_w2)).mono BW1.out.size)⟩
              · have hxb : (x1 != (j : Int)) = true := by simp [hx]
                have HX := Lib.hid (decide_eq_false hx)
                clear hx
                have hbw0 := BW.out
                go_wp2_with fail
                refine (HNO.out _ (HROW.out.below (by repeat (first | exact Below.refl _ _ | refine below_step (by assumption) (by first | omega | (simp; done) | (simp; omega)) ?_ | refine below_drewN ?_ _ | refine Below.drew ?_ | refine Below.setCell ?_ (by first | omega | (simp; done) | (simp; omega)) _ | refine Below.alloc ?_ (by first | omega | (simp; done) | (simp; omega)) _)))).mono ?_
                rintro e w3 ⟨rfl, b3⟩
                have c0_w3 : w3.cell? ⟨w.heap.size, 0, none⟩ = some (.slice (some ⟨g, o, none⟩) k c) := (b3.cell (p := ⟨w.heap.size, 0, none⟩) (by first | omega | (simp; done) | (simp; omega))).trans (by first | assumption | go_simp)
                have c1_w3 : w3.cell? ⟨w.heap.size, 1, none⟩ = some (.slice B m d) := (b3.cell (p := ⟨w.heap.size, 1, none⟩) (by first | omega | (simp; done) | (simp; omega))).trans (by first | assumption | go_simp)
                have c2_w3 : w3.cell? ⟨w.heap.size, 2, none⟩ = some (.int .i64 h) := (b3.cell (p := ⟨w.heap.size, 2, none⟩) (by first | omega | (simp; done) | (simp; omega))).trans (by first | assumption | go_simp)
                have c3_w3 : w3.cell? ⟨wr.heap.size, 0, none⟩ = some (.string e.name) := (b3.cell (p := ⟨wr.heap.size, 0, none⟩) (by first | omega | (simp; done) | (simp; omega))).trans (by first | assumption | go_simp)
                have c4_w3 : w3.cell? ⟨wr.heap.size, 1, none⟩ = some (.slice L q cl) := (b3.cell (p := ⟨wr.heap.size, 1, none⟩) (by first | omega | (simp; done) | (simp; omega))).trans (by first | assumption | go_simp)
                have c5_w3 : w3.cell? ⟨wr.heap.size, 2, none⟩ = some (.int .i64 e.wat) := (b3.cell (p := ⟨wr.heap.size, 2, none⟩) (by first | omega | (simp; done) | (simp; omega))).trans (by first | assumption | go_simp)
                have B_r3 : Below wr.heap.size wr w3 := (by repeat (first | exact Below.refl _ _ | refine below_step (by assumption) (by first | omega | (simp; done) | (simp; omega)) ?_ | refine below_drewN ?_ _ | refine Below.drew ?_ | refine Below.setCell ?_ (by first | omega | (simp; done) | (simp; omega)) _ | refine Below.alloc ?_ (by first | omega | (simp; done) | (simp; omega)) _))
                have B_w3 : Below w2.heap.size w2 w3 := BW.out.trans (B_r3.mono zr)
                have z_w3 := B_w3.size
                have s0_w3 : w.heap.size < w3.heap.size := Nat.lt_of_lt_of_le (by first | omega | (simp; done) | (simp; omega)) b3.size
                have s1_w3 : wr.heap.size < w3.heap.size := Nat.lt_of_lt_of_le (by first | omega | (simp; done) | (simp; omega)) b3.size
                have HM1q := Lib.hid (own_map_below HM1r.out B_r3)
                have HM2q := Lib.hid (own_map_below HM2r.out B_r3)
                have HROW3 := Lib.hid (HROW.out.below B_r3)
                have HAR3 := Lib.hid (HAR.out.below B_r3)
                clear b3 hbw0 B_r3
                obtain ⟨y1, hrun1, hat1, _⟩ := HM1q.out.lookup_int keyedS Tryz.underlying83 Tryz.underlying3 (zeroI _) HKN.out
                obtain rfl : y1 = x1 := (at_name hat1).trans HX1.out.symm
                clear hat1
                go_wp2_with fail
                go_ret
                exact ⟨ret_b (HBAD.out (by rw [HEQ.out, HX.out]; rfl)).symm, BW1.out.trans ((BW2.out.trans (B_w3.mono z_w2)).mono BW1.out.size)⟩
          · have hjk : ¬ ((j : Int) < (k : Int)) := by omega
            have HYES := Lib.hid (show allJ (ndC s.ns) s.ns.length = true from by rw [show s.ns.length = j from by have := HLN.out; omega]; exact HALL.out)
            have BW := Lib.hid hbw
            clear hbw
            go_wp2_with fail
            go_ret
            exact ⟨ret_b (by unfold ndP; rw [HHT.out, HYES.out]; rfl), BW1.out.trans ((BW2.out.trans (BW.out.mono z_w2)).mono BW1.out.size)⟩
    · have hlb : ¬ ((0 : Int) < (nl : Int)) := by omega
      have hwb : (f0.wat != 0) = true := by simp [hw0]
      have HHT := Lib.hid (decide_eq_false hw0)
      clear hl0 hw0
      go_enter Tryz.func37, Tryz.ntmps37
      go_upto_region 1 with (fail)
      rw [← HW1.out]
      go_wp2_with fail
      go_ret
      exact ⟨ret_b (by unfold ndP; rw [HH.out, HHT.out, Bool.and_false]; rfl), BW1.out⟩
  · have hlb : ((0 : Int) < (nl : Int)) := by omega
    have HHT := Lib.hid (decide_eq_false hl0)
    clear hl0
    go_enter Tryz.func37, Tryz.ntmps37
    go_upto_region 1 with (fail)
    rw [← HW1.out]
    go_wp2_with fail
    go_ret
    exact ⟨ret_b (by unfold ndP; rw [HH.out, HHT.out]; rfl), BW1.out⟩

end Go.Proofs.YtgajodcgedhikaaGreatDoor

namespace Go.Proofs.YtgajodcgedhikaaGreatDoor
open Go.RowKit
set_option linter.unusedVariables false
set_option linter.unusedSimpArgs false

set_option maxRecDepth 100000 in
set_option maxHeartbeats 4000000 in
theorem equal_ints (a b : List Int) (A : Option Addr) (k c : Nat) (B : Option Addr) (m d : Nat) (w : World) (hl : a.length = k) (hm : k ≤ 1048576) (hlb : b.length = m) (hmb : m ≤ 1048576) (hr : RowAt w A (a.map intV)) (hrb : RowAt w B (b.map intV)) :
    Calls Tryz.prog 84 #[.slice A k c, .slice B m d] w fun e w' => e = .returned (.bool (decide (a = b))) ∧ Below w.heap.size w w' := by
  have HA := Lib.hid hr
  have HB := Lib.hid hrb
  have HL := Lib.hid hl
  have HLB := Lib.hid hlb
  clear hr hrb hl hlb
  by_cases hkm : k = m
  · subst hkm
    have hne : ((k : Int) != (k : Int)) = false := by simp
    go_enter Tryz.func84, Tryz.ntmps84
    go_wp2_with fail
    go_loopw [13] (fun i wr => ∃ j : Nat, j ≤ k ∧ i = .int .i64 j ∧ a.take j = b.take j ∧ Below w.heap.size w wr) (fun i _ => k - (intOf i).toNat)
    case atStart => exact ⟨0, Nat.zero_le _, rfl, rfl, Below.refl _ _⟩
    case round =>
      obtain ⟨j, hj, rfl, hall, hbw⟩ := hrel
      have HT := Lib.hid hall
      clear hall
      by_cases hlt : j < k
      · have hjk : ((j : Int) < (k : Int)) := by omega
        obtain ⟨g, o, rfl, hg, hc⟩ := row_getB HA.out (q := j) (by have := HL.out; omega)
        obtain ⟨g2, o2, rfl, hg2, hc2⟩ := row_getB HB.out (q := j) (by have := HLB.out; omega)
        obtain ⟨x, hx⟩ : ∃ x, x = a[j]'(by have := HL.out; omega) := ⟨_, rfl⟩
        obtain ⟨y, hy⟩ : ∃ x, x = b[j]'(by have := HLB.out; omega) := ⟨_, rfl⟩
        rw [← hx] at hc
        rw [← hy] at hc2
        have HX := Lib.hid hx
        have HY := Lib.hid hy
        have k1 := (hbw.cell (p := ⟨g, o + j, none⟩) hg).trans hc
        have k2 := (hbw.cell (p := ⟨g2, o2 + j, none⟩) hg2).trans hc2
        have BW := Lib.hid hbw
        clear hx hy hc hc2 hbw
        by_cases hxy : x = y
        · have hb : (x != y) = false := by simp [hxy]
          have HXY := Lib.hid hxy
          clear hxy
          go_wp2_with fail
          go_quiet (fail)
          go_wp2_with fail
          go_roundw
          case rel => exact ⟨j + 1, by omega, by go_num, by rw [List.take_add_one, List.take_add_one, HT.out, List.getElem?_eq_getElem (by have := HL.out; omega), List.getElem?_eq_getElem (by have := HLB.out; omega), ← HX.out, ← HY.out, HXY.out], by first | exact BW.out | exact BW.out.drew | exact below_drewN BW.out _⟩
          case measure => simp [intOf]; omega
        · have hb : (x != y) = true := by simp [hxy]
          have HXY := Lib.hid hxy
          clear hxy
          go_wp2_with fail
          go_quiet (fail)
          go_wp2_with fail
          go_ret
          exact ⟨ret_b (decide_eq_false (fun e => HXY.out (by rw [HX.out, HY.out]; simp [e]))).symm, by first | exact BW.out | exact BW.out.drew | exact below_drewN BW.out _⟩
      · have hjk : ¬ ((j : Int) < (k : Int)) := by omega
        go_wp2_with fail
        go_ret
        exact ⟨ret_b (decide_eq_true (by have := HT.out; rwa [List.take_of_length_le (by have := HL.out; omega), List.take_of_length_le (by have := HLB.out; omega)] at this)).symm, hbw⟩
  · have hne : ((k : Int) != (m : Int)) = true := by simp; omega
    go_enter Tryz.func84, Tryz.ntmps84
    go_wp2_with fail
    go_ret
    exact ⟨ret_b (decide_eq_false (fun e => hkm (by rw [← HL.out, ← HLB.out, e]))).symm, Below.refl _ _⟩

def tieQ (a b : List GT) : Bool := decide (a.length = b.length) && allJ (fun i => tieE (a[i]?.getD gT0) (b[i]?.getD gT0)) a.length
theorem tieQ_no {a b : List GT} {j : Nat} (h : tieE (a[j]?.getD gT0) (b[j]?.getD gT0) = false) (hj : j < a.length) : tieQ a b = false := by
  unfold tieQ
  rw [allJ_no (f := fun i => tieE (a[i]?.getD gT0) (b[i]?.getD gT0)) (j := j + 1) (by rw [allJ_next, h, Bool.and_false]) (show j + 1 ≤ a.length by omega), Bool.and_false]

end Go.Proofs.YtgajodcgedhikaaGreatDoor
