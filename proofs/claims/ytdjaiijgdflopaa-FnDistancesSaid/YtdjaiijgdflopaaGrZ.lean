/-
  WALK of impl.NegativeCycle.
-/
import Derived.Test.YtdjaiijgdflopaaGrSn
import Derived.Deep.RegionHeld3
namespace Go.Proofs.Ytdjaiijgdflopaa
open Go.RowKit
set_option linter.unusedVariables false
set_option linter.unusedSimpArgs false

theorem same_end {N : Nat} {es : List GE} (hok : okG N es = true) : (roundsE es (s0C N 0) N).2 = (endC N es).2 := by
  obtain ⟨t, _, h1, _⟩ := Way.rounds (s := s0C N (-1)) (s' := s0C N 0) (okG_nodes hok) (fun v hv => decide_eq_true hv) rfl rfl N
  exact h1

set_option maxRecDepth 100000 in
set_option maxHeartbeats 8000000 in
theorem impl_NegativeCycle (n : Int) (es : List GE) (A : Option Addr) (k c : Nat) (w : World) (hn : es.length = k) (hk : k ≤ 1048576) (hr : EdgeAt w A es) :
    Calls Try.prog 15 #[grV n A k c] w fun e w' =>
      ∃ B m cb, e = .returned (.slice B m cb) ∧ m = (cycR n es).length ∧ w'.ownsRow w.heap.size 3 1 (.slice B m cb) m ((cycR n es).map intV) ∧ Below w.heap.size w w' := by
  have hz : ∀ W, (zeroValue 82).run Try.prog W = .ok (.agg #[.bool false, .bool false, .bool false, .bool false, .bool false, .bool false, .bool false, .bool false, .int .i64 0, .int .i64 0, .int .i64 0, .int .i64 0, .int .i64 0, .int .i64 0, .int .i64 0, .int .i64 0, .int .i64 0, .int .i64 0, .int .i64 0, .int .i64 0, .int .i64 0, .int .i64 0, .int .i64 0, .int .i64 0]) W := fun _ => by kernel_rfl
  have hg := fun W h => impl_GraphOk n es A k c W hn hk h
  have HR := Lib.hid hr
  have HL := Lib.hid hn
  clear hr hn
  obtain ⟨ok, hok⟩ : ∃ b, b = okG n es := ⟨_, rfl⟩
  rw [← hok] at hg
  have HG := Lib.hid hg
  have HO := Lib.hid hok
  clear hok hg
  cases ok with
  | false =>
    unfold grV at HG ⊢
    go_enter Try.func15, Try.ntmps15
    go_wp2_with fail
    refine (HG.out _ (HR.out.below (by repeat (first | exact Below.refl _ _ | refine below_step (by assumption) (by first | omega | (simp; done) | (simp; omega)) ?_ | refine below_drewN ?_ _ | refine Below.drew ?_ | refine Below.setCell ?_ (by first | omega | (simp; done) | (simp; omega)) _ | refine Below.alloc ?_ (by first | omega | (simp; done) | (simp; omega)) _)))).mono ?_
    rintro e w1 ⟨rfl, b1⟩
    go_wp2_with fail
    go_ret
    have h := cycR_no (n := n) (es := es) HO.out.symm
    exact ⟨none, 0, 0, rfl, by rw [h]; rfl, by rw [h]; exact ⟨rfl, .inl ⟨rfl, rfl⟩⟩, (by repeat (first | exact Below.refl _ _ | refine below_step (by assumption) (by first | omega | (simp; done) | (simp; omega)) ?_ | refine below_drewN ?_ _ | refine Below.drew ?_ | refine Below.setCell ?_ (by first | omega | (simp; done) | (simp; omega)) _ | refine Below.alloc ?_ (by first | omega | (simp; done) | (simp; omega)) _))⟩
  | true =>
    have hrng := okG_rng HO.out.symm
    obtain ⟨N, rfl⟩ : ∃ N : Nat, n = N := ⟨n.toNat, by omega⟩
    have hN8 : N ≤ 8 := by omega
    have hk80 : k ≤ 80 := by have := HL.out; omega
    clear hrng
    unfold grV at HG ⊢
    go_enter Try.func15, Try.ntmps15
    go_wp2_with fail
    refine (HG.out _ (HR.out.below (by repeat (first | exact Below.refl _ _ | refine below_step (by assumption) (by first | omega | (simp; done) | (simp; omega)) ?_ | refine below_drewN ?_ _ | refine Below.drew ?_ | refine Below.setCell ?_ (by first | omega | (simp; done) | (simp; omega)) _ | refine Below.alloc ?_ (by first | omega | (simp; done) | (simp; omega)) _)))).mono ?_
    rintro e w2 ⟨rfl, b2⟩
    have ka2 : w2.cell? ⟨w.heap.size, 0, none⟩ = some (.int .i64 (N : Int)) := (b2.cell (p := ⟨w.heap.size, 0, none⟩) (by first | omega | (simp; done) | (simp; omega))).trans (by first | assumption | go_simp)
    have kb2 : w2.cell? ⟨w.heap.size, 1, none⟩ = some (.slice A k c) := (b2.cell (p := ⟨w.heap.size, 1, none⟩) (by first | omega | (simp; done) | (simp; omega))).trans (by first | assumption | go_simp)
    have sz2 : w.heap.size < w2.heap.size := Nat.lt_of_lt_of_le (by first | omega | (simp; done) | (simp; omega)) b2.size
    have B2 : Below w.heap.size w w2 := (by repeat (first | exact Below.refl _ _ | refine below_step (by assumption) (by first | omega | (simp; done) | (simp; omega)) ?_ | refine below_drewN ?_ _ | refine Below.drew ?_ | refine Below.setCell ?_ (by first | omega | (simp; done) | (simp; omega)) _ | refine Below.alloc ?_ (by first | omega | (simp; done) | (simp; omega)) _))
    clear b2
    go_upto_region 4 with (fail)
    have hM3 := mk_zero w2
    unfold zeroM at hM3
    obtain ⟨w3, hw3⟩ : ∃ w3, w3 = w2.alloc (.cells #[.bool false, .bool false, .bool false, .bool false, .bool false, .bool false, .bool false, .bool false, .int .i64 0, .int .i64 0, .int .i64 0, .int .i64 0, .int .i64 0, .int .i64 0, .int .i64 0, .int .i64 0, .int .i64 0, .int .i64 0, .int .i64 0, .int .i64 0, .int .i64 0, .int .i64 0, .int .i64 0, .int .i64 0] 82) := ⟨_, rfl⟩
    rw [← hw3] at hM3 ⊢
    have b3 : Below w2.heap.size w2 w3 := by rw [hw3]; exact (Below.refl _ _).alloc (Nat.le_refl _) _
    clear hw3
    obtain ⟨b, hb⟩ : ∃ b, b = w2.heap.size := ⟨_, rfl⟩
    have ka3 := (b3.cell (p := ⟨w.heap.size, 0, none⟩) (by dsimp only; omega)).trans ka2
    have kb3 := (b3.cell (p := ⟨w.heap.size, 1, none⟩) (by dsimp only; omega)).trans kb2
    have B3 : Below w.heap.size w w3 := B2.trans (b3.mono (by omega))
    rw [← hb] at hM3 sz2 ⊢
    clear hb b3 B2 ka2 kb2
    have hK0 : RowF w3 b 0 8 (mixV (.bool true) (.bool false) 0) := by rw [mixV_zero]; exact hM3.kn.congr (fun j hj => rfl)
    have hD0 : RowF w3 b 8 8 (fun _ => .int .i64 0) := hM3.nu.congr (fun j hj => rfl)
    have hL0 : RowF w3 b 16 8 (fun _ => .int .i64 0) := hM3.la.congr (fun j hj => rfl)
    have HK0 := Lib.hid hK0
    have HD0 := Lib.hid hD0
    have HL0 := Lib.hid hL0
    clear hM3 hK0 hD0 hL0
    go_wp2_with fail
    go_loopw [11] (fun i wr => ∃ q : Nat, q ≤ N ∧ i = .int .i64 q ∧ RowF wr b 0 8 (mixV (.bool true) (.bool false) q) ∧ RowF wr b 8 8 (fun _ => .int .i64 0) ∧ RowF wr b 16 8 (fun _ => .int .i64 0) ∧ Below b w3 wr) (fun i _ => N - (intOf i).toNat)
    case atStart => exact ⟨0, Nat.zero_le _, rfl, HK0.out, HD0.out, HL0.out, Below.refl _ _⟩
    case round =>
      obtain ⟨q, hq, rfl, hK, hD, hLr, hbw⟩ := hrel
      by_cases hlt : q < N
      · have f1 : wr.cell? ⟨b, q, none⟩ = some (.bool false) := by simpa [mixV] using hK.cell q (by omega)
        have r1 : wr.frozen? ⟨b, q, none⟩ = false := by simpa using hK.free q (by omega)
        have hqi : (q : Int) < 8 := by omega
        have HD := Lib.hid hD
        have HLr := Lib.hid hLr
        have HK := Lib.hid hK
        clear hD hLr hK
        go_wp2_with fail
        go_roundw
        case rel => exact ⟨q + 1, by omega, by go_num, by rw [← mixV_set]; exact HK.out.store (by omega) (by omega) _, HD.out.beside (by omega) _, HLr.out.beside (by omega) _, hbw.setCell (Nat.le_refl _) _⟩
        case measure => simp [intOf]; omega
      · have : q = N := by omega
        subst this
        obtain ⟨w5, rfl⟩ : ∃ w5 : World, w5 = wr := ⟨_, rfl⟩
        have hM5 : MkAt w5 b (s0C q 0) := ⟨hK.congr (fun j hj => by unfold mixV fB s0C; dsimp only; by_cases h : j < q <;> simp [h]), hD.congr (fun j hj => rfl), hLr.congr (fun j hj => rfl)⟩
        have ka5 := (hbw.cell (p := ⟨w.heap.size, 0, none⟩) sz2).trans ka3
        have kb5 := (hbw.cell (p := ⟨w.heap.size, 1, none⟩) sz2).trans kb3
        have hB5 : Below w.heap.size w w5 := B3.trans (hbw.mono (by omega))
        have hse := settle_any b q es A k c (s0C q 0) w w5 HL.out HO.out.symm HR.out hB5 (by omega) hM5
        rw [same_end HO.out.symm] at hse
        obtain ⟨ch, hch⟩ : ∃ ch, ch = (endC q es).2 := ⟨_, rfl⟩
        obtain ⟨sN, hsN⟩ : ∃ s, s = (roundsE es (s0C q 0) q).1 := ⟨_, rfl⟩
        rw [← hch, ← hsN] at hse
        unfold grV at hse
        have HSE := Lib.hid hse
        have HCH := Lib.hid hch
        have HSN := Lib.hid hsN
        clear hse hch hsN hK hD hLr hM5 hbw hlt
        by_cases h1 : ch = -1
        · have hbc : (ch == -1) = true := by simp [h1]
          have H1 := Lib.hid h1
          clear h1
          go_wp2_with fail
          refine HSE.out.mono ?_
          rintro e w6 ⟨rfl, hM6, hb6⟩
          have B6 : Below w.heap.size w w6 := hB5.trans (hb6.mono (by omega))
          clear hM6 hb6
          go_wp2_with fail
          go_ret
          have h := cycR_nil (N := q) (es := es) (by rw [← HCH.out]; exact H1.out)
          exact ⟨none, 0, 0, rfl, by rw [h]; rfl, by rw [h]; exact ⟨rfl, .inl ⟨rfl, rfl⟩⟩, B6⟩
        · have hbc : (ch == -1) = false := by simp [h1]
          have hcf := cyc_facts HO.out.symm (by rw [← HCH.out]; exact h1)
          have hyes := cycR_yes HO.out.symm (by rw [← HCH.out]; exact h1)
          rw [← HCH.out] at hcf
          obtain ⟨jc, ec, hjc, _, hec, hhead, hpath, hp0, _, hper, hmin, hp8⟩ := hcf
          subst hjc
          rw [← HSN.out] at hpath
          have hla : ∀ i, sN.la (itE es (endC q es).1.la (headC q es) i) = (endC q es).1.la (itE es (endC q es).1.la (headC q es) i) := by
            intro i
            obtain ⟨_, j, e, a1, a2, _⟩ := hpath i
            rw [a1, a2]
          have hbs := back_same (es := es) hla q (perC q es)
          have hits := itE_same (es := es) hla
          have hp' : ∀ i, itE es sN.la (headC q es) i < q ∧ ∃ (j : Nat) (e : GE), sN.la (itE es sN.la (headC q es) i) = (j : Int) ∧ es[j]? = some e := by
            intro i
            rw [hits i]
            obtain ⟨a0, j, e, _, a2, a3⟩ := hpath i
            exact ⟨a0, j, e, a2, a3⟩
          have hper' : itE es sN.la (itE es sN.la (headC q es) q) (perC q es) = itE es sN.la (headC q es) q := by
            rw [hbs.2.1, hbs.1]; exact hper
          have hmin' : ∀ i, 0 < i → i < perC q es → itE es sN.la (itE es sN.la (headC q es) q) i ≠ itE es sN.la (headC q es) q := by
            intro i h1 h2
            rw [hbs.2.1, hbs.1]; exact hmin i h1 h2
          have hcb := fun W hE hM => cycleBehind_any b q es A k c sN (headC q es) (perC q es) W HL.out HO.out.symm hE hM hp' hp0 hp8 hper' hmin'
          rw [hbs.2.2] at hcb
          have hres : (backE es (endC q es).1.la (itE es (endC q es).1.la (headC q es) q) (perC q es)).reverse = cycR (q : Int) es := by rw [hyes]; rfl
          rw [hres] at hcb
          have hplen : perC q es = (cycR (q : Int) es).length := by rw [← hres, List.length_reverse, backE_length]
          obtain ⟨u0, v0, heq0, hu0, hv0⟩ := okG_edgeN HO.out.symm hec
          have hv0v : headC q es = v0 := by rw [hhead, heq0]; simp
          rw [hv0v] at hcb
          obtain ⟨pp, hpp⟩ : ∃ pp, pp = perC q es := ⟨_, rfl⟩
          rw [← hpp] at hcb hplen
          have hjk : jc < k := by have := (List.getElem?_eq_some_iff.1 hec).1; have := HL.out; omega
          obtain ⟨g, o, rfl, hg, hc⟩ := HR.out (by have := HL.out; omega)
          have f12 : w.cell? ⟨g, o + jc * 3 + 1, none⟩ = some (.int .i64 (v0 : Int)) := by
            refine (hc jc (by have := HL.out; omega)).2.1.trans ?_
            have : es[jc]'(by have := HL.out; omega) = ec := by rw [List.getElem?_eq_getElem (by have := HL.out; omega)] at hec; exact Option.some.inj hec
            rw [this, heq0]
          unfold grV at hcb
          have HCB := Lib.hid hcb
          have HPL := Lib.hid hplen
          have hji : (jc : Int) < (k : Int) := by omega
          clear h1 hyes hec hhead hpath hp0 hper hmin hp8 hla hbs hits hp' hper' hmin' hcb hres hplen heq0 hv0v hpp hc
          go_wp2_with fail
          refine HSE.out.mono ?_
          rintro e w6 ⟨rfl, hM6, hb6⟩
          have B6 : Below w.heap.size w w6 := hB5.trans (hb6.mono (by omega))
          have ka6 := (hb6.cell (p := ⟨w.heap.size, 0, none⟩) sz2).trans ka5
          have kb6 := (hb6.cell (p := ⟨w.heap.size, 1, none⟩) sz2).trans kb5
          have f6 : w6.cell? ⟨g, o + jc * 3 + 1, none⟩ = some (.int .i64 (v0 : Int)) := (B6.cell (p := ⟨g, o + jc * 3 + 1, none⟩) hg).trans f12
          have E6 := HR.out.below B6
          have hws : w.heap.size < w6.heap.size := by have := hM6.kn.lt; omega
          have hgs : g < w6.heap.size := by omega
          have HM6 := Lib.hid hM6
          have HE6 := Lib.hid E6
          clear hb6 hM6 E6 ka5 kb5 f12 ka3 kb3
          go_wp2_with fail
          go_region_held3 (fun W => W.cell? ⟨w.heap.size, 0, none⟩ = some (.int .i64 (q : Int)) ∧ W.cell? ⟨w.heap.size, 1, none⟩ = some (.slice (some ⟨g, o, none⟩) k c) ∧ W.cell? ⟨g, o + jc * 3 + 1, none⟩ = some (.int .i64 (v0 : Int))) (first | go_keep | (dsimp only; refine ⟨?_, ?_, ?_⟩ <;> first | assumption | go_keep | go_simp)) (first | (go_at_call 54; refine (HCB.out _ (by exact HE6.out.of_heap rfl) (by exact HM6.out.of_heap (Nat.le_refl _) rfl)).mono ?_; rintro e w7 ⟨D7, c7, rfl, ho7, b7⟩; have ka7 : w7.cell? ⟨w.heap.size, 0, none⟩ = some (.int .i64 (q : Int)) := (b7.cell (p := ⟨w.heap.size, 0, none⟩) (by first | omega | (simp; done) | (simp; omega))).trans (by first | assumption | go_simp); have kb7 : w7.cell? ⟨w.heap.size, 1, none⟩ = some (.slice (some ⟨g, o, none⟩) k c) := (b7.cell (p := ⟨w.heap.size, 1, none⟩) (by first | omega | (simp; done) | (simp; omega))).trans (by first | assumption | go_simp); have f7 : w7.cell? ⟨g, o + jc * 3 + 1, none⟩ = some (.int .i64 (v0 : Int)) := (b7.cell (p := ⟨g, o + jc * 3 + 1, none⟩) (by first | omega | (simp; done) | (simp; omega))).trans (by first | assumption | go_simp)))
          all_goals
            go_wp2_with fail
            go_ret
            refine ⟨D7, pp, c7, rfl, HPL.out, own_base ho7 (by simp; omega), B6.trans ?_⟩
            exact (Below.refl _ _).drew.trans (b7.mono (by simp; omega))

end Go.Proofs.Ytdjaiijgdflopaa
