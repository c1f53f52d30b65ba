/-
  WALK of spec.l03Round: one round over the edges.
-/
import Derived.Test.YtdjaiijgdflopaaGrF
import Derived.BigRegion
import Derived.RegionTactic
namespace Go.Proofs.Ytdjaiijgdflopaa
open Go.RowKit
set_option linter.unusedVariables false
set_option linter.unusedSimpArgs false

theorem okG_edgeN {n : Nat} {es : List GE} (h : okG n es = true) {j : Nat} {e : GE} (he : es[j]? = some e) :
    ∃ u v : Nat, e = ⟨u, v, e.c⟩ ∧ u < n ∧ v < n := by
  obtain ⟨⟨h1, h2⟩, ⟨h3, h4⟩, _⟩ := okG_edge h he
  obtain ⟨u, v, c⟩ := e
  exact ⟨u.toNat, v.toNat, by dsimp only at *; congr <;> omega, by dsimp only at *; omega, by dsimp only at *; omega⟩

set_option maxRecDepth 100000 in
set_option maxHeartbeats 4000000 in
theorem l03Round_any (n : Nat) (es : List GE) (A : Option Addr) (k c gd gl gk cd cl ck : Nat) (s : St) (w0 w : World) (hn : es.length = k) (hok : okG n es = true) (hr : EdgeAt w0 A es) (hb0 : Below w0.heap.size w0 w) (h0 : w0.heap.size ≤ gd)
    (hs : SpAt w gd gl gk n s) (hdl : gd < gl) (hlk : gl < gk) :
    Calls Try.prog 93 #[grV n A k c, .slice (some ⟨gd, 0, none⟩) n cd, .slice (some ⟨gl, 0, none⟩) n cl, .slice (some ⟨gk, 0, none⟩) n ck] w fun e w' =>
      e = .returned (.int .i64 (passTo es s k).2) ∧ SpAt w' gd gl gk n (passTo es s k).1 ∧ Below gd w w' := by
  have hk80 := (okG_rng hok).2.2
  have hn8 := (okG_rng hok).2.1
  rw [hn] at hk80
  have HR := Lib.hid hr
  have HL := Lib.hid hn
  have HO := Lib.hid hok
  have HB := Lib.hid hb0
  have hgk := hs.kn.lt
  have HS := Lib.hid hs
  clear hr hn hok hb0 hs
  unfold grV
  go_enter Try.func93, Try.ntmps93
  go_wp2_with fail
  go_loopw [9, 15] (fun ch i wr => ∃ j : Nat, j ≤ k ∧ i = .int .i64 j ∧ ch = .int .i64 (passTo es s j).2 ∧ SpAt wr gd gl gk n (passTo es s j).1 ∧ Below gd w wr ∧ gk < wr.heap.size) (fun _ i _ => k - (intOf i).toNat)
  case atStart => exact ⟨0, Nat.zero_le _, rfl, rfl, ⟨HS.out.nu.alloc _, HS.out.la.alloc _, HS.out.kn.alloc _⟩, (by repeat (first | exact Below.refl _ _ | refine below_step (by assumption) (by first | omega | (simp; done) | (simp; omega)) ?_ | refine below_drewN ?_ _ | refine Below.drew ?_ | refine Below.setCell ?_ (by first | omega | (simp; done) | (simp; omega)) _ | refine Below.alloc ?_ (by first | omega | (simp; done) | (simp; omega)) _)), by simp; omega⟩
  case round =>
    obtain ⟨j, hj, rfl, rfl, hsp, hbw, hgw⟩ := hrel
    have HSP := Lib.hid hsp
    clear hsp
    by_cases hlt : j < k
    · obtain ⟨g, o, rfl, hg, hc⟩ := HR.out (by have := HL.out; omega)
      have hc1 := hc j (by have := HL.out; omega)
      obtain ⟨e, he⟩ : ∃ e, e = es[j]'(by have := HL.out; omega) := ⟨_, rfl⟩
      rw [← he] at hc1
      have hej : es[j]? = some e := by rw [he]; exact List.getElem?_eq_getElem _
      obtain ⟨u, v, heq, hu, hv⟩ := okG_edgeN HO.out hej
      have HE := Lib.hid hej
      obtain ⟨c0, c1, c2⟩ := hc1
      have hw : ∀ x : Addr, x.block < w0.heap.size → wr.cell? x = w0.cell? x := fun x hx => (hbw.cell (p := x) (by omega)).trans (HB.out.cell (p := x) hx)
      have k0 := (hw ⟨g, o + j * 3, none⟩ hg).trans c0
      have k1 := (hw ⟨g, o + j * 3 + 1, none⟩ hg).trans c1
      have k2 := (hw ⟨g, o + j * 3 + 2, none⟩ hg).trans c2
      rw [heq] at k0 k1 k2
      dsimp only at k0 k1 k2
      obtain ⟨x, hx⟩ : ∃ x, x = e.c := ⟨_, rfl⟩
      rw [← hx] at k2
      have HX := Lib.hid heq
      have HC := Lib.hid hx
      clear hw c0 c1 c2 hc he hej heq hx
      go_wp2_with fail
      obtain ⟨wa, hwa⟩ : ∃ wa, wa = wr.alloc (.cells #[.int .i64 (u : Int), .int .i64 (v : Int), .int .i64 x] 35) := ⟨_, rfl⟩
      rw [← hwa]
      have e0 : wa.cell? ⟨wr.heap.size, 0, none⟩ = some (.int .i64 (u : Int)) := by rw [hwa]; go_simp
      have e1 : wa.cell? ⟨wr.heap.size, 1, none⟩ = some (.int .i64 (v : Int)) := by rw [hwa]; go_simp
      have e2 : wa.cell? ⟨wr.heap.size, 2, none⟩ = some (.int .i64 x) := by rw [hwa]; go_simp
      have hba : Below gd w wa := by rw [hwa]; exact hbw.alloc (by omega) _
      have hsza : gk < wa.heap.size := by rw [hwa]; simp; omega
      have hspa : SpAt wa gd gl gk n (passTo es s j).1 := by rw [hwa]; exact ⟨HSP.out.nu.alloc _, HSP.out.la.alloc _, HSP.out.kn.alloc _⟩
      clear hwa hbw k0 k1 k2
      obtain ⟨s', hs'⟩ : ∃ s', s' = (passTo es s j).1 := ⟨_, rfl⟩
      rw [← hs'] at hspa
      have HS' := Lib.hid hs'
      clear hs'
      obtain ⟨bu, hbu⟩ : ∃ b, b = s'.kn u := ⟨_, rfl⟩
      obtain ⟨bv, hbv⟩ : ∃ b, b = s'.kn v := ⟨_, rfl⟩
      obtain ⟨nu, hnu⟩ : ∃ b, b = s'.nu u := ⟨_, rfl⟩
      obtain ⟨nv, hnv⟩ : ∃ b, b = s'.nu v := ⟨_, rfl⟩
      obtain ⟨lv, hlv⟩ : ∃ b, b = s'.la v := ⟨_, rfl⟩
      have f1 : wa.cell? ⟨gk, u, none⟩ = some (.bool bu) := by rw [hbu]; simpa [fB] using hspa.kn.cell u hu
      have f2 : wa.cell? ⟨gk, v, none⟩ = some (.bool bv) := by rw [hbv]; simpa [fB] using hspa.kn.cell v hv
      have f3 : wa.cell? ⟨gd, u, none⟩ = some (.int .i64 nu) := by rw [hnu]; simpa [fI] using hspa.nu.cell u hu
      have f4 : wa.cell? ⟨gd, v, none⟩ = some (.int .i64 nv) := by rw [hnv]; simpa [fI] using hspa.nu.cell v hv
      have f5 : wa.cell? ⟨gl, v, none⟩ = some (.int .i64 lv) := by rw [hlv]; simpa [fI] using hspa.la.cell v hv
      have r1 : wa.frozen? ⟨gd, v, none⟩ = false := by simpa using hspa.nu.free v hv
      have r2 : wa.frozen? ⟨gl, v, none⟩ = false := by simpa using hspa.la.free v hv
      have r3 : wa.frozen? ⟨gk, v, none⟩ = false := by simpa using hspa.kn.free v hv
      have hge := HE.out
      have hlow : ∀ b, b = (bu && (!bv || decide (wrap64 (nu + x) < nv))) → lowE s' e = b := by
        intro b hb; rw [hb, hbu, hbv, hnu, hnv, HC.out, HX.out]; rfl
      have hsum : sumE s' e = wrap64 (nu + x) := by rw [hnu, HC.out, HX.out]; rfl
      obtain ⟨sv, hsv⟩ : ∃ sv, sv = wrap64 (nu + x) := ⟨_, rfl⟩
      have z1 : wrap64 (nu + x) = sv := hsv.symm
      have z2 : IntKind.i64.wrap (nu + x) = sv := (IntWalk.i64_left _).trans z1
      rw [z1] at hlow hsum
      have HLO := Lib.hid hlow
      have HSU := Lib.hid hsum
      have HSP2 := Lib.hid hspa
      have n1 : (gd = gl) = False := eq_false (by omega)
      have n2 : (gl = gd) = False := eq_false (by omega)
      have n3 : (gd = gk) = False := eq_false (by omega)
      have n4 : (gk = gd) = False := eq_false (by omega)
      have n5 : (gl = gk) = False := eq_false (by omega)
      have n6 : (gk = gl) = False := eq_false (by omega)
      have n7 : (gd = wr.heap.size) = False := eq_false (by omega)
      have n8 : (gl = wr.heap.size) = False := eq_false (by omega)
      have n9 : (gk = wr.heap.size) = False := eq_false (by omega)
      have m7 : (wr.heap.size = gd) = False := eq_false (by omega)
      have m8 : (wr.heap.size = gl) = False := eq_false (by omega)
      have m9 : (wr.heap.size = gk) = False := eq_false (by omega)
      have q1 : (v : Nat) < n := hv
      clear hbu hbv hnu hnv hlv hge hlow hsum hsv hspa
      have hui : (u : Int) < (n : Int) := by omega
      have hvi : (v : Int) < (n : Int) := by omega
      cases bu with
      | false =>
        go_quiet (fail)
        go_wp2_with fail
        go_roundw
        case rel => exact ⟨j + 1, by omega, by go_num, by rw [pass_not HE.out (by rw [← HS'.out]; exact HLO.out _ rfl)], by rw [pass_not HE.out (by rw [← HS'.out]; exact HLO.out _ rfl), ← HS'.out]; exact ⟨HSP2.out.nu.drewN _, HSP2.out.la.drewN _, HSP2.out.kn.drewN _⟩, below_drewN hba _, by first | assumption | go_simp⟩
        case measure => simp [intOf]; omega
      | true =>
        cases bv with
        | false =>
          go_quiet (fail)
          go_wp2_with fail
          go_region
          all_goals
            go_wp2_with fail
            go_roundw
            case rel =>
              have hp := pass_low HE.out (by rw [← HS'.out]; exact HLO.out true (by rfl))
              have hv2 : e.v.toNat = v := by rw [HX.out]; simp
              rw [← HS'.out] at hp
              refine ⟨j + 1, by omega, by go_num, by rw [hp], ?_, (by repeat (first | assumption | refine below_drewN ?_ _ | refine Below.drew ?_ | refine Below.setCell ?_ (by first | omega | (simp; done) | (simp; omega)) _ | refine Below.alloc ?_ (by first | omega | (simp; done) | (simp; omega)) _)), by first | assumption | go_simp⟩
              rw [hp]
              refine ⟨?_, ?_, ?_⟩
              · show RowF _ _ _ _ (fI (updE s' j e).nu)
                rw [← upd_nu hv2 HSU.out]
                exact (by first | (repeat (first | exact HSP2.out.nu | refine RowF.drew ?_ | refine RowF.drewN ?_ _ | refine RowF.store ?_ (i := v) (by simp) q1 _ | refine RowF.other ?_ (by first | (simp; done) | (simp; omega) | omega) _)))
              · show RowF _ _ _ _ (fI (updE s' j e).la)
                rw [← upd_la hv2]
                exact (by first | (repeat (first | exact HSP2.out.la | refine RowF.drew ?_ | refine RowF.drewN ?_ _ | refine RowF.store ?_ (i := v) (by simp) q1 _ | refine RowF.other ?_ (by first | (simp; done) | (simp; omega) | omega) _)))
              · show RowF _ _ _ _ (fB (updE s' j e).kn)
                rw [← upd_kn hv2 j]
                exact (by first | (repeat (first | exact HSP2.out.kn | refine RowF.drew ?_ | refine RowF.drewN ?_ _ | refine RowF.store ?_ (i := v) (by simp) q1 _ | refine RowF.other ?_ (by first | (simp; done) | (simp; omega) | omega) _)))
            case measure => simp [intOf]; omega
        | true =>
          by_cases hl2 : sv < nv
          · go_quiet (fail)
            go_wp2_with fail
            go_region
            all_goals
              go_wp2_with fail
              go_roundw
              case rel =>
                have hp := pass_low HE.out (by rw [← HS'.out]; exact HLO.out true (by rw [decide_eq_true hl2]; rfl))
                have hv2 : e.v.toNat = v := by rw [HX.out]; simp
                rw [← HS'.out] at hp
                refine ⟨j + 1, by omega, by go_num, by rw [hp], ?_, (by repeat (first | assumption | refine below_drewN ?_ _ | refine Below.drew ?_ | refine Below.setCell ?_ (by first | omega | (simp; done) | (simp; omega)) _ | refine Below.alloc ?_ (by first | omega | (simp; done) | (simp; omega)) _)), by first | assumption | go_simp⟩
                rw [hp]
                refine ⟨?_, ?_, ?_⟩
                · show RowF _ _ _ _ (fI (updE s' j e).nu)
                  rw [← upd_nu hv2 HSU.out]
                  exact (by first | (repeat (first | exact HSP2.out.nu | refine RowF.drew ?_ | refine RowF.drewN ?_ _ | refine RowF.store ?_ (i := v) (by simp) q1 _ | refine RowF.other ?_ (by first | (simp; done) | (simp; omega) | omega) _)))
                · show RowF _ _ _ _ (fI (updE s' j e).la)
                  rw [← upd_la hv2]
                  exact (by first | (repeat (first | exact HSP2.out.la | refine RowF.drew ?_ | refine RowF.drewN ?_ _ | refine RowF.store ?_ (i := v) (by simp) q1 _ | refine RowF.other ?_ (by first | (simp; done) | (simp; omega) | omega) _)))
                · show RowF _ _ _ _ (fB (updE s' j e).kn)
                  rw [← upd_kn hv2 j]
                  exact (by first | (repeat (first | exact HSP2.out.kn | refine RowF.drew ?_ | refine RowF.drewN ?_ _ | refine RowF.store ?_ (i := v) (by simp) q1 _ | refine RowF.other ?_ (by first | (simp; done) | (simp; omega) | omega) _)))
              case measure => simp [intOf]; omega
          · have hl3 : decide (sv < nv) = false := decide_eq_false hl2
            go_quiet (fail)
            go_wp2_with fail
            go_roundw
            case rel => exact ⟨j + 1, by omega, by go_num, by rw [pass_not HE.out (by rw [← HS'.out]; exact HLO.out _ (by rw [hl3]; rfl))], by rw [pass_not HE.out (by rw [← HS'.out]; exact HLO.out _ (by rw [hl3]; rfl)), ← HS'.out]; exact ⟨HSP2.out.nu.drewN _, HSP2.out.la.drewN _, HSP2.out.kn.drewN _⟩, below_drewN hba _, by first | assumption | go_simp⟩
            case measure => simp [intOf]; omega
    · go_wp2_with fail
      go_ret
      have : j = k := by omega
      subst this
      exact ⟨rfl, HSP.out, hbw⟩

end Go.Proofs.Ytdjaiijgdflopaa
