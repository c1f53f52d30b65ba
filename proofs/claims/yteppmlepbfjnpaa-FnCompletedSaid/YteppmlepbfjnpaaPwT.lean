/-
  WALKS of slices.Clone at []int, (*impl.partial).fix, impl.complete and impl.CompleteTimes.
-/
import Derived.Test.YteppmlepbfjnpaaPwC
import Derived.Test.YteppmlepbfjnpaaPaN
import Derived.Lib.AppendZeros
import Derived.Lib.SliceRun
import Derived.Deep.RegionHeld3
import Derived.Deep.RegionLaw
import Derived.Deep.CutRange
namespace Go.Proofs.Yteppmlepbfjnpaa
open Go.RowKit
set_option linter.unusedVariables false
set_option linter.unusedSimpArgs false

theorem own_formI {w : World} {B e s n : Nat} {v : Value} {xs : List Value} (h : w.ownsRow B e s v n xs) : ∃ A c, v = .slice A n c := by
  rcases h.2 with ⟨rfl, rfl⟩ | ⟨g, cap, cur, rfl, _⟩
  · exact ⟨_, _, rfl⟩
  · exact ⟨_, _, rfl⟩
theorem row_newsI {w : World} {A : Option Addr} {ts : List Int} (h : RowAt w A (ts.map intV)) (hp : 0 < ts.length) : ∃ ad, A = some ad ∧ ∀ j u, (ts.map intV)[j]? = some u → w.cell? (ad.add j) = some u := row_news h hp

set_option maxRecDepth 100000 in
set_option maxHeartbeats 4000000 in
theorem clone_ints (ts : List Int) (A : Option Addr) (k c : Nat) (w : World) (hn : ts.length = k) (hm : k ≤ 1048576) (hr : RowAt w A (ts.map intV)) :
    Calls Try.prog 56 #[.slice A k c] w fun e w' => ∃ B cb, e = .returned (.slice B k cb) ∧ w'.ownsRow w.heap.size 3 1 (.slice B k cb) k (ts.map intV) ∧ Below w.heap.size w w' := by
  obtain ⟨i1, hii, hy0, hy1, hy2⟩ := info_parts Try.info3
  have q22 : ∀ (w : World) (a : Option Addr) (n c n' c' : Nat), (binOp .eql 33 (.slice a n c) (.slice none n' c')).run Try.prog w = .ok (.bool a.isNone) w := fun w a n c n' c' => Lib.run_eql_slice_nil w _ _ a n c n' c' Try.underlying33
  have HR := Lib.hid hr
  have HN := Lib.hid hn
  clear hn
  cases A with
  | none =>
    have hk : k = 0 := by
      rcases Nat.eq_zero_or_pos k with h | h
      · exact h
      · obtain ⟨ad, h2, _⟩ := row_newsI hr (by have := HN.out; omega); cases h2
    have hes : ts.map intV = [] := by rw [List.eq_nil_of_length_eq_zero (HN.out.trans hk)]; rfl
    have HE := Lib.hid hes
    subst hk
    clear hes hr
    go_enter Try.func56, Try.ntmps56
    go_wp2_with fail
    go_ret
    exact ⟨none, 0, rfl, by rw [HE.out]; exact World.ownsRow_nil _ _ _ _, Below.refl _ _⟩
  | some ad =>
    clear hr
    obtain ⟨wa, hwa⟩ : ∃ W, W = w.alloc (.cells #[] 3) := ⟨_, rfl⟩
    have ba : Below w.heap.size w wa := by rw [hwa]; exact (Below.refl _ _).alloc (Nat.le_refl _) _
    have za : wa.heap.size = w.heap.size + 1 := by rw [hwa]; simp
    have hea : wa.heap[w.heap.size]? = some (.cells #[] 3 (0, 0)) := by rw [hwa]; exact heap_alloc_new _ _
    have hRa := HR.out.below ba
    obtain ⟨v', w2, hrun, hown, hg2, _⟩ := run_append_read (P := Try.prog) (w := wa) w.heap.size 33 33 3 i1 (.int .i64 0) 1 8 Try.underlying33 hii hy0 hy1 hy2 rfl (by decide) _ 0 [] (own_emp w.heap.size (Nat.le_refl _) hea) (some ad) k c (ts.map intV) (by rw [List.length_map, HN.out, Nat.mul_one]) (fun h => row_newsI hRa (by have := HN.out; omega)) (fun u hu => by rw [List.mem_map] at hu; obtain ⟨z, _, rfl⟩ := hu; rfl) (by unfold maxLen; omega) (by omega) (by omega)
    have B2 : Below w.heap.size w w2 := ba.grown hg2 (by omega) (fun r hr => Nat.le_of_eq (by simpa [Value.ownBlock] using hr))
    have hown2 := own_zeroS hown
    obtain ⟨B, cb, rfl⟩ := own_formI hown2
    have HRUN := Lib.hid hrun
    have HO := Lib.hid hown2
    have HB := Lib.hid B2
    clear hrun hown hown2 hg2 hea hRa B2
    go_enter Try.func56, Try.ntmps56
    go_upto_region 3 with (fail)
    go_wp2_with (first | (at_builtin; rw [← hwa]; refine Lib.wpList_append_run _ rfl _ _ _ _ rfl _ _ rfl rfl _ _ HRUN.out ?_))
    go_ret
    exact ⟨B, cb, rfl, HO.out, HB.out⟩

/-- A partial schedule in its box, its times in memory of their own. -/
structure ParR (W : World) (B0 bx : Nat) (n : Int) (A : Option Addr) (k c : Nat) (T : Option Addr) (m d : Nat) (o : List Int) : Prop where
  c0 : W.cell? ⟨bx, 0, none⟩ = some (.int .i64 n)
  c1 : W.cell? ⟨bx, 1, none⟩ = some (.slice A k c)
  c2 : W.cell? ⟨bx, 2, none⟩ = some (.slice T m d)
  row : W.ownsRow B0 3 1 (.slice T m d) m (o.map intV)
  off : (Value.slice T m d).ownBlock ≠ some bx
  lt : bx < W.heap.size
theorem ParR.below {W W' : World} {B0 bx : Nat} {n : Int} {A : Option Addr} {k c : Nat} {T : Option Addr} {m d : Nat} {o : List Int} (h : ParR W B0 bx n A k c T m d o) (hb : Below W.heap.size W W') : ParR W' B0 bx n A k c T m d o :=
  ⟨(hb.cell h.lt).trans h.c0, (hb.cell h.lt).trans h.c1, (hb.cell h.lt).trans h.c2, own_below h.row hb, h.off, Nat.lt_of_lt_of_le h.lt hb.size⟩
theorem ParR.drew {W : World} {B0 bx : Nat} {n : Int} {A : Option Addr} {k c : Nat} {T : Option Addr} {m d : Nat} {o : List Int} (h : ParR W B0 bx n A k c T m d o) : ParR W.drew B0 bx n A k c T m d o := ⟨h.c0, h.c1, h.c2, h.row, h.off, h.lt⟩
theorem ParR.set {W : World} {B0 bx : Nat} {n : Int} {A : Option Addr} {k c g m d : Nat} {o : List Int} (h : ParR W B0 bx n A k c (some ⟨g, 0, none⟩) m d o) (j : Nat) (x : Int) : ParR (W.setCell ⟨g, j, none⟩ (.int .i64 x)) B0 bx n A k c (some ⟨g, 0, none⟩) m d (o.set j x) := by
  have hne : g ≠ bx := fun e => h.off (by subst e; rfl)
  have k0 := h.c0
  have k1 := h.c1
  have k2 := h.c2
  refine ⟨by go_simp, by go_simp, by go_simp, ?_, h.off, by simpa using h.lt⟩
  have := (h.row.stored j (.int .i64 x)).1
  rw [List.map_set]
  exact this

set_option maxRecDepth 100000 in
set_option maxHeartbeats 8000000 in
theorem fix_any (n : Int) (es : List GL) (A : Option Addr) (k c : Nat) (o : List Int) (T : Option Addr) (m d bx B0 j : Nat) (w : World) (hn : es.length = k) (hm : k ≤ 1048576) (hl : o.length = m) (hj : j < m) (hm2 : m ≤ 1048576) (hr : LinkAt w A es) (hp : ParR w B0 bx n A k c T m d o) (hB : B0 ≤ w.heap.size) :
    Calls Try.prog 58 #[.pointer (some ⟨bx, 0, none⟩), .int .i64 j] w fun e w' => e = .returned (.bool (ntB n es o j && decide (0 ≤ ntL n es o j))) ∧ ParR w' B0 bx n A k c T m d (if (ntB n es o j && decide (0 ≤ ntL n es o j)) = true then o.set j (ntL n es o j) else o) ∧ Below B0 w w' := by
  have HNT := Lib.hid (fun W h h2 => impl_NextTimes j n es A k c o T m d W hn hm hl h h2)
  have HR := Lib.hid hr
  have HP := Lib.hid hp
  have HL := Lib.hid hl
  obtain ⟨g, cap, hT, _, _⟩ := hp.row.form (by omega)
  injection hT with hT1 _ hT2
  subst hT1 hT2
  have k0 := hp.c0
  have k1 := hp.c1
  have k2 := hp.c2
  have s0 := hp.lt
  have hne : g ≠ bx := fun e => hp.off (by subst e; rfl)
  have hgl := (hp.row.lt g rfl)
  have HTR := Lib.hid (own_row hp.row)
  unfold ntV ivV at HNT
  obtain ⟨lo, hlo⟩ : ∃ t, t = ntL n es o j := ⟨_, rfl⟩
  obtain ⟨hi, hhi⟩ : ∃ t, t = ntH n es o j := ⟨_, rfl⟩
  obtain ⟨bw, hbw⟩ : ∃ t, t = ntB n es o j := ⟨_, rfl⟩
  rw [← hlo, ← hhi, ← hbw] at HNT
  rw [← hlo, ← hbw]
  clear hlo hhi hbw hp hr hn hl
  unfold grV at HNT
  have p0 : (w.heap.size = bx) = False := eq_false (by omega)
  have p1 : (bx = w.heap.size) = False := eq_false (by omega)
  go_enter Try.func58, Try.ntmps58
  go_upto_region 1 with (fail)
  go_cut [5, 6] from 7 to 20 (fun p b wc => b = .bool bw ∧ ∃ bi, p = .pointer (some ⟨bi, 0, none⟩) ∧ wc.cell? ⟨bi, 0, none⟩ = some (.int .i64 lo) ∧ w.heap.size ≤ bi ∧ bi < wc.heap.size ∧ Below w.heap.size w wc)
  case first =>
    go_region_held3 (fun W => W.cell? ⟨bx, 0, none⟩ = some (.int .i64 n) ∧ W.cell? ⟨bx, 1, none⟩ = some (.slice A k c) ∧ W.cell? ⟨bx, 2, none⟩ = some (.slice (some ⟨g, 0, none⟩) m d)) (first | (go_keep; done) | ((try dsimp only); refine ⟨?_, ?_, ?_⟩ <;> first | assumption | (go_simp; done))) (first | (go_simp; go_at_call 23; refine (HNT.out _ (LinkAt.below (w := w) HR.out (by repeat (first | exact Below.refl _ _ | refine below_step (by assumption) (by first | omega | (simp; done) | (simp; omega)) ?_ | refine below_drewN ?_ _ | refine Below.drew ?_ | refine Below.setCell ?_ (by first | omega | (simp; done) | (simp; omega)) _ | refine Below.alloc ?_ (by first | omega | (simp; done) | (simp; omega)) _))) (RowAt.below (w := w) HTR.out (by repeat (first | exact Below.refl _ _ | refine below_step (by assumption) (by first | omega | (simp; done) | (simp; omega)) ?_ | refine below_drewN ?_ _ | refine Below.drew ?_ | refine Below.setCell ?_ (by first | omega | (simp; done) | (simp; omega)) _ | refine Below.alloc ?_ (by first | omega | (simp; done) | (simp; omega)) _)))).mono ?_; rintro e w2 ⟨rfl, b2⟩; have c0_w2 : w2.cell? ⟨bx, 0, none⟩ = some (.int .i64 n) := (b2.cell (p := ⟨bx, 0, none⟩) (by first | omega | (simp; done) | (simp; omega))).trans (by first | assumption | go_simp); have c1_w2 : w2.cell? ⟨bx, 1, none⟩ = some (.slice A k c) := (b2.cell (p := ⟨bx, 1, none⟩) (by first | omega | (simp; done) | (simp; omega))).trans (by first | assumption | go_simp); have c2_w2 : w2.cell? ⟨bx, 2, none⟩ = some (.slice (some ⟨g, 0, none⟩) m d) := (b2.cell (p := ⟨bx, 2, none⟩) (by first | omega | (simp; done) | (simp; omega))).trans (by first | assumption | go_simp); (try (refine cutL (p := w2.cell? ⟨w.heap.size, 0, none⟩ = some (.int .i64 0)) ?_ ?_; refine (b2.cell (p := ⟨w.heap.size, 0, none⟩) ?_).trans ?_; (focus (first | omega | (simp; done) | (simp; omega))); (focus (go_simp; done)); intro g0)); (try (refine cutL (p := w2.frozen? ⟨w.heap.size, 0, none⟩ = false) ?_ ?_; refine (b2.frozen (p := ⟨w.heap.size, 0, none⟩) ?_).trans ?_; (focus (first | omega | (simp; done) | (simp; omega))); (focus (go_simp; done)); intro g1)); (try (refine cutL (p := w2.cell? ⟨w.heap.size, 1, none⟩ = some (.int .i64 0)) ?_ ?_; refine (b2.cell (p := ⟨w.heap.size, 1, none⟩) ?_).trans ?_; (focus (first | omega | (simp; done) | (simp; omega))); (focus (go_simp; done)); intro g2)); (try (refine cutL (p := w2.frozen? ⟨w.heap.size, 1, none⟩ = false) ?_ ?_; refine (b2.frozen (p := ⟨w.heap.size, 1, none⟩) ?_).trans ?_; (focus (first | omega | (simp; done) | (simp; omega))); (focus (go_simp; done)); intro g3)); have z2 := b2.size; (try simp at z2); have s2 : bx < w2.heap.size := (by omega); have n1 : (bx = w2.heap.size) = False := eq_false (by omega); have n2 : (w2.heap.size = bx) = False := eq_false (by omega); have B2 : Below w.heap.size w w2 := (by repeat (first | exact Below.refl _ _ | refine below_step (by assumption) (by first | omega | (simp; done) | (simp; omega)) ?_ | refine below_drewN ?_ _ | refine Below.drew ?_ | refine Below.setCell ?_ (by first | omega | (simp; done) | (simp; omega)) _ | refine Below.alloc ?_ (by first | omega | (simp; done) | (simp; omega)) _)); clear b2))
    all_goals go_wp2_with fail
    all_goals (go_meet; refine ⟨rfl, _, rfl, ?_, ?_, ?_, ?_⟩)
    all_goals (first | omega | (simp; done) | (simp; omega) | (go_simp; done) | ((repeat (first | exact B2 | refine Below.setCell ?_ (by first | omega | (dsimp only; omega) | (simp; done) | (simp; omega)) _ | refine Below.alloc ?_ (by first | omega | (dsimp only; omega) | (simp; done) | (simp; omega)) _ | refine Below.drew ?_)); done))
  case rest =>
    obtain ⟨rfl, bi, rfl, hc, hlb, hbi, bR⟩ := hcut
    obtain ⟨w3, hww⟩ : ∃ W, W = wc := ⟨_, rfl⟩
    rw [← hww] at hc hbi bR ⊢
    clear hww wc
    have P3 := Lib.hid (HP.out.below bR)
    have BB : Hid (Below B0 w w3) := Lib.hid (bR.mono hB)
    have y0 := P3.out.c0
    have y1 := P3.out.c1
    have y2 := P3.out.c2
    have s3 := P3.out.lt
    have hg3 : g < w3.heap.size := Nat.lt_of_lt_of_le hgl.2 bR.size
    have hgb : B0 ≤ g := hgl.1
    have u1 : (g = bi) = False := eq_false (by omega)
    have u2 : (bi = g) = False := eq_false (by omega)
    have u3 : (bx = bi) = False := eq_false (by omega)
    have u4 : (bi = bx) = False := eq_false (by omega)
    clear bR k0 k1 k2 s0 p0 p1 hgl
    cases bw with
    | false =>
      go_wp2_with fail
      go_ret
      exact ⟨rfl, P3.out, BB.out⟩
    | true =>
      by_cases h0 : lo < 0
      · have hd : decide (0 ≤ lo) = false := decide_eq_false (by omega)
        have HD := Lib.hid hd
        clear hd
        go_wp2_with fail
        go_ret
        refine ⟨by first | rfl | trivial | exact ret_b (by rw [HD.out]; rfl), ?_, BB.out⟩
        first | exact P3.out | (rw [HD.out]; exact P3.out)
      · have hd : decide (0 ≤ lo) = true := decide_eq_true (by omega)
        have HD := Lib.hid hd
        have hoj : o[j]? = some (o[j]'(by have := HL.out; omega)) := List.getElem?_eq_getElem (by have := HL.out; omega)
        have v1 : w3.cell? ⟨g, j, none⟩ = some (.int .i64 (o[j]'(by have := HL.out; omega))) := (P3.out.row.cellAt j (by omega)).trans (by rw [List.getElem?_map, hoj]; rfl)
        have v2 := P3.out.row.frozenAt j
        have hjm : ((j : Nat) : Int) < (m : Int) := by omega
        clear hd hoj
        have PS := Lib.hid (P3.out.set j lo)
        have BS : Hid (Below B0 w (w3.setCell ⟨g, j, none⟩ (.int .i64 lo))) := Lib.hid (BB.out.setCell (by dsimp only; omega) _)
        go_wp2_with fail
        go_region_law (fail)
        all_goals go_wp2_with fail
        all_goals go_ret
        all_goals (refine ⟨by first | rfl | trivial | exact ret_b (by rw [HD.out]; rfl), ?_, ?_⟩)
        all_goals (first | exact BS.out | exact PS.out | exact BS.out.drew | exact PS.out.drew)

theorem cpJ_rest {n : Int} {es : List GL} {ts : List Int} : ∀ {j : Nat} {o : List Int}, cpJ n es ts j = some o → ∀ i, j ≤ i → o[i]? = ts[i]?
  | 0, o, h, i, _ => by unfold cpJ at h; injection h with h; rw [h]
  | j + 1, o, h, i, hi => by
    cases hp : cpJ n es ts j with
    | none => unfold cpJ at h; rw [hp] at h; cases h
    | some o1 =>
      rw [cpJ_next hp] at h
      have ih := cpJ_rest hp i (by omega)
      unfold cpStep at h
      split at h
      · split at h
        · injection h with h
          subst h
          rw [List.getElem?_set_ne (by omega)]
          exact ih
        · cases h
      · injection h with h
        subst h
        exact ih

set_option maxRecDepth 100000 in
set_option maxHeartbeats 8000000 in
theorem complete_any (n : Int) (es : List GL) (A : Option Addr) (k c : Nat) (ts : List Int) (T : Option Addr) (m d : Nat) (T2 : Option Addr) (d2 bx : Nat) (w0 w : World) (hn : es.length = k) (hm : k ≤ 1048576) (hl : ts.length = m) (hm2 : m ≤ 1048576) (hr : LinkAt w0 A es) (ht : RowAt w0 T (ts.map intV)) (h0 : Below w0.heap.size w0 w) (hp : ParR w w0.heap.size bx n A k c T2 m d2 ts) :
    Calls Try.prog 57 #[.slice T m d, .func (.func 58) #[.pointer (some ⟨bx, 0, none⟩)] #[]] w fun e w' => (∃ o, cpJ n es ts m = some o ∧ e = .returned (.bool true) ∧ ParR w' w0.heap.size bx n A k c T2 m d2 o ∧ Below w0.heap.size w0 w') ∨ (cpJ n es ts m = none ∧ e = .returned (.bool false) ∧ Below w0.heap.size w0 w') := by
  have HFX := Lib.hid (fun (o : List Int) (j : Nat) W (h1 : o.length = m) (h2 : j < m) h3 h4 h5 => fix_any n es A k c o T2 m d2 bx w0.heap.size j W hn hm h1 h2 hm2 h3 h4 h5)
  have HR := Lib.hid hr
  have HT := Lib.hid ht
  have HL := Lib.hid hl
  have HP := Lib.hid hp
  have HB := Lib.hid h0
  clear hr ht hl hp h0 hn
  go_enter Try.func57, Try.ntmps57
  go_wp2_with fail
  go_loopw [9] (fun ii wr => ∃ (j : Nat) (o : List Int), j ≤ m ∧ ii = .int .i64 j ∧ cpJ n es ts j = some o ∧ ParR wr w0.heap.size bx n A k c T2 m d2 o ∧ Below w0.heap.size w0 wr) (fun ii _ => m - (intOf ii).toNat)
  case atStart => exact ⟨0, ts, Nat.zero_le _, rfl, rfl, HP.out, HB.out⟩
  case round =>
    obtain ⟨j, o, hj, rfl, hcp, hpr, hbw⟩ := hrel
    have HCP := Lib.hid hcp
    have PR := Lib.hid hpr
    have BW := Lib.hid hbw
    have HOL := Lib.hid ((cpJ_len hcp).trans HL.out)
    have hrest := cpJ_rest hcp j (Nat.le_refl _)
    have zr := hbw.size
    clear hcp hpr hbw
    by_cases hlt : j < m
    · obtain ⟨g, og, rfl, hg, hc⟩ := row_get HT.out (q := j) (by have := HL.out; omega)
      obtain ⟨y, hy⟩ : ∃ y, y = ts[j]'(by have := HL.out; omega) := ⟨_, rfl⟩
      rw [← hy] at hc
      have hyd : o[j]?.getD 0 = y := by rw [hrest, List.getElem?_eq_getElem (by have := HL.out; omega), ← hy]; rfl
      have x1 := (BW.out.cell (p := ⟨g, og + j, none⟩) hg).trans hc
      have HYD := Lib.hid hyd
      clear hyd hy hrest hc
      by_cases hy1 : y = -1
      · have hyb : (y == -1) = true := by simp [hy1]
        have HY1 := Lib.hid (HYD.out.trans hy1)
        clear hy1
        have hfx := fun W h3 h4 h5 => HFX.out o j W HOL.out hlt h3 h4 h5
        obtain ⟨bb, hbb⟩ : ∃ b, b = (ntB n es o j && decide (0 ≤ ntL n es o j)) := ⟨_, rfl⟩
        rw [← hbb] at hfx
        have HF := Lib.hid hfx
        have HBB := Lib.hid hbb
        clear hfx hbb
        go_wp2_with fail
        refine (HF.out _ (HR.out.below BW.out) PR.out zr).mono ?_
        rintro e w3 ⟨rfl, p3, b3⟩
        have P3 := Lib.hid p3
        have B3 := Lib.hid (BW.out.trans b3)
        clear p3 b3
        cases bb with
        | false =>
          have hno : cpStep n es o j = none := by
            refine cpStep_bad HY1.out ?_
            have := HBB.out
            rw [← Bool.and_assoc, ← this]; rfl
          have HNO := Lib.hid (cpJ_none (show cpJ n es ts (j + 1) = none from (cpJ_next HCP.out).trans hno) (show j + 1 ≤ m by omega))
          clear hno
          go_wp2_with fail
          go_ret
          exact .inr ⟨HNO.out, rfl, B3.out⟩
        | true =>
          have hyes : cpStep n es o j = some (o.set j (ntL n es o j)) := by
            have h1 := HBB.out.symm
            rw [Bool.and_eq_true] at h1
            exact cpStep_set HY1.out h1.1 (of_decide_eq_true h1.2) (ntL_low h1.1)
          have HYES := Lib.hid ((cpJ_next HCP.out).trans hyes)
          clear hyes
          go_wp2_with fail
          go_roundw
          case rel => exact ⟨j + 1, o.set j (ntL n es o j), by omega, by go_num, HYES.out, by simpa using P3.out, B3.out⟩
          case measure => simp [intOf]; omega
      · have hyb : (y == -1) = false := by simp [hy1]
        have HS := Lib.hid (show cpJ n es ts (j + 1) = some o from (cpJ_next HCP.out).trans (cpStep_skip (by rw [HYD.out]; exact hy1)))
        clear hy1
        go_wp2_with fail
        go_roundw
        case rel => exact ⟨j + 1, o, by omega, by go_num, HS.out, PR.out, BW.out⟩
        case measure => simp [intOf]; omega
    · have hjm : j = m := by omega
      subst hjm
      go_wp2_with fail
      go_ret
      exact .inl ⟨o, HCP.out, rfl, PR.out, BW.out⟩

/-- The box of CompleteTimes behind its making. -/
def CpCut (w0 w1 : World) (n : Int) (A : Option Addr) (k c : Nat) (m : Nat) (ts : List Int) (p : Value) (wc : World) : Prop :=
  ∃ (bx : Nat) (T2 : Option Addr) (d2 : Nat), p = .pointer (some ⟨bx, 0, none⟩) ∧ ParR wc w0.heap.size bx n A k c T2 m d2 ts ∧ w1.heap.size ≤ bx ∧ Below w1.heap.size w1 wc

set_option maxRecDepth 100000 in
set_option maxHeartbeats 16000000 in
theorem impl_CompleteTimes (n : Int) (es : List GL) (A : Option Addr) (k c : Nat) (ts : List Int) (T : Option Addr) (m d : Nat) (w : World) (hn : es.length = k) (hm : k ≤ 1048576) (hl : ts.length = m) (hm2 : m ≤ 1048576) (hr : LinkAt w A es) (ht : RowAt w T (ts.map intV)) :
    Calls Try.prog 21 #[grV n A k c, .slice T m d] w fun e w' => ∃ B q cb, e = .returned (.tuple #[.slice B q cb, .bool (cpR n es ts).2]) ∧ q = (cpR n es ts).1.length ∧ w'.ownsRow w.heap.size 3 1 (.slice B q cb) q ((cpR n es ts).1.map intV) ∧ Below w.heap.size w w' := by
  have hmf : ∀ (fn : Fn) (first cap : Array Value) (w : World), (Instr.makeFunc fn first cap).run Try.prog w = .ok (.func fn first cap) w := fun _ _ _ _ => rfl
  have HCL := Lib.hid (fun W h => clone_ints ts T m d W hl hm2 h)
  have HCM := Lib.hid (fun T2 d2 bx W h1 h2 => complete_any n es A k c ts T m d T2 d2 bx w W hn hm hl hm2 hr ht h1 h2)
  have HCE := Lib.hid (fun (o : List Int) T2 d2 W (h1 : o.length = m) h2 h3 => impl_CanExtend n es A k c o T2 m d2 W hn hm h1 h2 h3)
  have HR := Lib.hid hr
  have HT := Lib.hid ht
  have HL := Lib.hid hl
  clear hr hn ht hl
  unfold grV at HCE ⊢
  go_enter Try.func21, Try.ntmps21
  obtain ⟨w1, hw1⟩ : ∃ W, W = w.alloc (.cells #[.int .i64 n, .slice A k c] 25) := ⟨_, rfl⟩
  have c0_w1 : w1.cell? ⟨w.heap.size, 0, none⟩ = some (.int .i64 n) := by rw [hw1]; go_simp
  have c1_w1 : w1.cell? ⟨w.heap.size, 1, none⟩ = some (.slice A k c) := by rw [hw1]; go_simp
  have z1 : w.heap.size < w1.heap.size := by rw [hw1]; simp
  have B_w1 : Below w.heap.size w w1 := by rw [hw1]; exact (Below.refl _ _).alloc (Nat.le_refl _) _
  go_upto_region 1 with (fail)
  rw [← hw1]
  clear hw1
  go_cut [6] from 7 to 11 (fun p wc => CpCut w w1 n A k c m ts p wc)
  case first =>
    go_region_held3 (fun W => W.cell? ⟨w.heap.size, 0, none⟩ = some (.int .i64 n) ∧ W.cell? ⟨w.heap.size, 1, none⟩ = some (.slice A k c)) (first | (go_keep; done) | ((try dsimp only); refine ⟨?_, ?_⟩ <;> first | assumption | (go_simp; done))) (first | (go_simp; go_at_call 56; refine (HCL.out _ (RowAt.below (w := w) HT.out (by repeat (first | exact Below.refl _ _ | refine below_step (by assumption) (by first | omega | (simp; done) | (simp; omega)) ?_ | refine below_drewN ?_ _ | refine Below.drew ?_ | refine Below.setCell ?_ (by first | omega | (simp; done) | (simp; omega)) _ | refine Below.alloc ?_ (by first | omega | (simp; done) | (simp; omega)) _)))).mono ?_; rintro e w2 ⟨T2, d2, rfl, h1, b2⟩; have c0_w2 : w2.cell? ⟨w.heap.size, 0, none⟩ = some (.int .i64 n) := (b2.cell (p := ⟨w.heap.size, 0, none⟩) (by first | omega | (simp; done) | (simp; omega))).trans (by first | assumption | go_simp); have c1_w2 : w2.cell? ⟨w.heap.size, 1, none⟩ = some (.slice A k c) := (b2.cell (p := ⟨w.heap.size, 1, none⟩) (by first | omega | (simp; done) | (simp; omega))).trans (by first | assumption | go_simp); (try (refine cutL (p := w2.cell? ⟨w1.heap.size, 0, none⟩ = some (.int .i64 0)) ?_ ?_; refine (b2.cell (p := ⟨w1.heap.size, 0, none⟩) ?_).trans ?_; (focus (first | omega | (simp; done) | (simp; omega))); (focus (go_simp; done)); intro g0)); (try (refine cutL (p := w2.frozen? ⟨w1.heap.size, 0, none⟩ = false) ?_ ?_; refine (b2.frozen (p := ⟨w1.heap.size, 0, none⟩) ?_).trans ?_; (focus (first | omega | (simp; done) | (simp; omega))); (focus (go_simp; done)); intro g1)); (try (refine cutL (p := w2.cell? ⟨w1.heap.size, 1, none⟩ = some (.slice none 0 0)) ?_ ?_; refine (b2.cell (p := ⟨w1.heap.size, 1, none⟩) ?_).trans ?_; (focus (first | omega | (simp; done) | (simp; omega))); (focus (go_simp; done)); intro g2)); (try (refine cutL (p := w2.frozen? ⟨w1.heap.size, 1, none⟩ = false) ?_ ?_; refine (b2.frozen (p := ⟨w1.heap.size, 1, none⟩) ?_).trans ?_; (focus (first | omega | (simp; done) | (simp; omega))); (focus (go_simp; done)); intro g3)); (try (refine cutL (p := w2.cell? ⟨w1.heap.size, 2, none⟩ = some (.slice none 0 0)) ?_ ?_; refine (b2.cell (p := ⟨w1.heap.size, 2, none⟩) ?_).trans ?_; (focus (first | omega | (simp; done) | (simp; omega))); (focus (go_simp; done)); intro g4)); (try (refine cutL (p := w2.frozen? ⟨w1.heap.size, 2, none⟩ = false) ?_ ?_; refine (b2.frozen (p := ⟨w1.heap.size, 2, none⟩) ?_).trans ?_; (focus (first | omega | (simp; done) | (simp; omega))); (focus (go_simp; done)); intro g5)); have z2 := b2.size; (try simp at z2); have s0 : w.heap.size < w2.heap.size := (by omega); have s2 : w1.heap.size ≤ w2.heap.size := (by omega); have n1 : (w.heap.size = w2.heap.size) = False := eq_false (by omega); have n2 : (w2.heap.size = w.heap.size) = False := eq_false (by omega); have n3 : (w.heap.size = w1.heap.size) = False := eq_false (by omega); have n4 : (w1.heap.size = w.heap.size) = False := eq_false (by omega); have B2 : Below w1.heap.size w1 w2 := (by repeat (first | exact Below.refl _ _ | refine below_step (by assumption) (by first | omega | (simp; done) | (simp; omega)) ?_ | refine below_drewN ?_ _ | refine Below.drew ?_ | refine Below.setCell ?_ (by first | omega | (simp; done) | (simp; omega)) _ | refine Below.alloc ?_ (by first | omega | (simp; done) | (simp; omega)) _)); have HO1 := Lib.hid (own_base (B' := w.heap.size) h1 (by first | omega | (simp; done) | (simp; omega))); have HH1 := Lib.hid h1; have HLT := h1.lt; (try simp at HLT); clear h1 b2))
    all_goals go_wp2_with fail
    all_goals (go_meet; refine ⟨_, T2, d2, rfl, ⟨?_, ?_, ?_, ?_, ?_, ?_⟩, ?_, ?_⟩)
    all_goals (first | omega | (simp; done) | (simp; omega) | (go_simp; done) | exact HO1.out.alloc _ | exact HO1.out | exact own_base (own_set (own_set (own_set HH1.out _ _ (by first | omega | (dsimp only; omega) | (simp; done) | (simp; omega))) _ _ (by first | omega | (dsimp only; omega) | (simp; done) | (simp; omega))) _ _ (by first | omega | (dsimp only; omega) | (simp; done) | (simp; omega))) (by first | omega | (dsimp only; omega) | (simp; done) | (simp; omega)) | (intro e; have := HLT _ e; omega) | (intro e; have := (HLT _ e).1; have := (HLT _ e).2; omega) | ((repeat (first | exact B2 | refine Below.setCell ?_ (by first | omega | (dsimp only; omega) | (simp; done) | (simp; omega)) _ | refine Below.alloc ?_ (by first | omega | (dsimp only; omega) | (simp; done) | (simp; omega)) _ | refine Below.drew ?_)); done))
  case rest =>
    obtain ⟨w3, hww⟩ : ∃ W, W = wc := ⟨_, rfl⟩
    rw [← hww] at hcut ⊢
    clear hww wc
    obtain ⟨bx, T2, d2, rfl, hpr, hlo, bR⟩ := hcut
    have P3 := Lib.hid hpr
    have B3 := Lib.hid (B_w1.trans (bR.mono B_w1.size))
    have z3 := hpr.lt
    have LBX : Hid (w.heap.size < bx) := Lib.hid (by omega)
    clear hpr hlo bR c0_w1 c1_w1 B_w1 z1
    go_wp2_with fail
    refine (HCM.out T2 d2 bx _ B3.out P3.out).mono ?_
    rintro e w4 (⟨o, ho, rfl, p4, b4⟩ | ⟨ho, rfl, b4⟩)
    · have HO := Lib.hid ho
      have P4 := Lib.hid p4
      have B4 := Lib.hid b4
      have HOL := Lib.hid ((cpJ_len ho).trans HL.out)
      have y0 := p4.c0
      have y1 := p4.c1
      have y2 := p4.c2
      have y3 := p4.lt
      have HEND := Lib.hid (cp_end (show cpJ n es ts ts.length = some o from by rw [HL.out]; exact ho))
      clear ho p4 b4
      have hce := fun W h2 h3 => HCE.out o T2 d2 W HOL.out h2 h3
      obtain ⟨ce, hce2⟩ : ∃ b, b = ceR n es o := ⟨_, rfl⟩
      rw [← hce2] at hce HEND
      have HC := Lib.hid hce
      clear hce hce2
      go_wp2_with fail
      refine (HC.out _ (HR.out.below B4.out) (own_row P4.out.row)).mono ?_
      rintro e w5 ⟨rfl, b5⟩
      have P5 := Lib.hid (P4.out.below b5)
      have B5 := Lib.hid (B4.out.trans (b5.mono B4.out.size))
      have u0 := P5.out.c0
      have u1 := P5.out.c1
      have u2 := P5.out.c2
      have u3 := P5.out.lt
      clear b5 y0 y1 y2 y3
      cases ce with
      | false =>
        go_wp2_with fail
        refine bodyPost_ret (v := .tuple #[.slice none 0 0, .bool false]) (by first | (simp [results, Try.results21, go_sem]; done) | simp [*, results, Try.results21, go_sem]) rfl ?_
        rw [HEND.out]
        exact ⟨none, 0, 0, rfl, rfl, World.ownsRow_nil _ _ _ _, B5.out⟩
      | true =>
        go_wp2_with fail
        refine bodyPost_ret (v := .tuple #[.slice T2 m d2, .bool true]) (by first | (simp [results, Try.results21, go_sem]; done) | simp [*, results, Try.results21, go_sem]) rfl ?_
        rw [HEND.out]
        exact ⟨T2, m, d2, rfl, HOL.out.symm, P5.out.row, B5.out⟩
    · have HEND := Lib.hid (cp_stop (show cpJ n es ts ts.length = none from by rw [HL.out]; exact ho))
      have B4 := Lib.hid b4
      clear ho b4
      go_wp2_with fail
      refine bodyPost_ret (v := .tuple #[.slice none 0 0, .bool false]) (by first | (simp [results, Try.results21, go_sem]; done) | simp [*, results, Try.results21, go_sem]) rfl ?_
      rw [HEND.out]
      exact ⟨none, 0, 0, rfl, rfl, World.ownsRow_nil _ _ _ _, B4.out⟩

end Go.Proofs.Yteppmlepbfjnpaa

