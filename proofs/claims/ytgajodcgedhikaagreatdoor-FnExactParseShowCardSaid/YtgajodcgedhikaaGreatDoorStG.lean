/-
  WALK of spec.ParseShow.
-/
import Derived.Test.YtgajodcgedhikaaGreatDoorBdStE
import Derived.Test.YtgajodcgedhikaaGreatDoorBdStB
import Derived.Deep.AppendLies
import Derived.Deep.CutRange
namespace Go.Proofs.YtgajodcgedhikaaGreatDoor
open Go.RowKit
set_option linter.unusedVariables false
set_option linter.unusedSimpArgs false

/-- A show's box: its three cells, none of them frozen. -/
def SBox (W : World) (b : Nat) (v0 v1 v2 : Value) : Prop := W.cell? ⟨b, 0, none⟩ = some v0 ∧ W.cell? ⟨b, 1, none⟩ = some v1 ∧ W.cell? ⟨b, 2, none⟩ = some v2 ∧ W.frozen? ⟨b, 0, none⟩ = false ∧ W.frozen? ⟨b, 1, none⟩ = false ∧ W.frozen? ⟨b, 2, none⟩ = false
theorem SBox.lt {W : World} {b : Nat} {v0 v1 v2 : Value} (h : SBox W b v0 v1 v2) : b < W.heap.size := spot_of h.1
theorem SBox.below {W W' : World} {b : Nat} {v0 v1 v2 : Value} (h : SBox W b v0 v1 v2) (hb : Below W.heap.size W W') : SBox W' b v0 v1 v2 := by
  have hl := h.lt
  obtain ⟨c0, c1, c2, f0, f1, f2⟩ := h
  exact ⟨below_at hb c0, below_at hb c1, below_at hb c2, (hb.frozen (p := ⟨b, 0, none⟩) hl).trans f0, (hb.frozen (p := ⟨b, 1, none⟩) hl).trans f1, (hb.frozen (p := ⟨b, 2, none⟩) hl).trans f2⟩
theorem SBox.alloc {W : World} {b : Nat} {v0 v1 v2 : Value} (h : SBox W b v0 v1 v2) (o : Obj) : SBox (W.alloc o) b v0 v1 v2 := h.below ((Below.refl _ _).alloc (Nat.le_refl _) o)
theorem SBox.same {W W' : World} {b : Nat} {v0 v1 v2 : Value} (h : SBox W b v0 v1 v2) (hb : W'.heap[b]? = W.heap[b]?) : SBox W' b v0 v1 v2 := by
  obtain ⟨c0, c1, c2, f0, f1, f2⟩ := h
  have hf : ∀ o, W'.frozen? ⟨b, o, none⟩ = W.frozen? ⟨b, o, none⟩ := fun o => by simp only [World.frozen?, hb]
  exact ⟨(World.cell?_of_block (a := ⟨b, 0, none⟩) hb).trans c0, (World.cell?_of_block (a := ⟨b, 1, none⟩) hb).trans c1, (World.cell?_of_block (a := ⟨b, 2, none⟩) hb).trans c2, (hf 0).trans f0, (hf 1).trans f1, (hf 2).trans f2⟩
theorem SBox.off {W : World} {b c o : Nat} {v0 v1 v2 u : Value} (h : SBox W b v0 v1 v2) (hne : b ≠ c) : SBox (W.setCell ⟨c, o, none⟩ u) b v0 v1 v2 := h.same (Below.heap_setCell _ _ _ _ hne)
theorem SBox.grown {W W' : World} {row : Option Nat} {b : Nat} {v0 v1 v2 : Value} (h : SBox W b v0 v1 v2) (hg : W.grownBy W' row) (hr : row ≠ some b) : SBox W' b v0 v1 v2 := h.same (hg.block b h.lt (fun e => hr e.symm))
theorem SBox.set0 {W : World} {b : Nat} {v0 v1 v2 u : Value} (h : SBox W b v0 v1 v2) : SBox (W.setCell ⟨b, 0, none⟩ u) b u v1 v2 := by
  obtain ⟨c0, c1, c2, f0, f1, f2⟩ := h
  refine ⟨?_, ?_, ?_, ?_, ?_, ?_⟩ <;> go_simp
theorem SBox.set1 {W : World} {b : Nat} {v0 v1 v2 u : Value} (h : SBox W b v0 v1 v2) : SBox (W.setCell ⟨b, 1, none⟩ u) b v0 u v2 := by
  obtain ⟨c0, c1, c2, f0, f1, f2⟩ := h
  refine ⟨?_, ?_, ?_, ?_, ?_, ?_⟩ <;> go_simp
theorem SBox.set2 {W : World} {b : Nat} {v0 v1 v2 u : Value} (h : SBox W b v0 v1 v2) : SBox (W.setCell ⟨b, 2, none⟩ u) b v0 v1 u := by
  obtain ⟨c0, c1, c2, f0, f1, f2⟩ := h
  refine ⟨?_, ?_, ?_, ?_, ?_, ?_⟩ <;> go_simp
theorem lines_sub (s : ByteArray) : ∀ x ∈ lines s, x.size ≤ s.size := by
  intro x hx
  refine split_sizes s ⟨#[10]⟩ x ?_
  unfold lines at hx
  split at hx
  · unfold split; exact List.mem_append.2 (.inl hx)
  · exact hx
theorem lines_len (s : ByteArray) : (lines s).length ≤ s.size + 1 := by
  have h := split_len s ⟨#[10]⟩
  unfold lines
  split
  · unfold split at h; rw [List.length_append] at h; omega
  · exact h
/-- What the reader of a show hands back. -/
structure PsEnd (t : ByteArray) (w w' : World) (e : Ending) : Prop where
  ex : ∃ (A : Option Addr) (k c : Nat) (B : Option Addr) (m d : Nat) (zs : List NL), e = .returned (.tuple #[.agg #[.slice A k c, .slice B m d, .int .i64 (psR t).1.h], .bool (psR t).2]) ∧ OwnS w' w.heap.size w'.heap.size (psR t).1 A k c B m d zs ∧ Below w.heap.size w w'
theorem PsEnd.no {t : ByteArray} {w w' : World} {e : Ending} (h : psR t = (gS0, false)) (he : e = .returned (.tuple #[.agg #[.slice none 0 0, .slice none 0 0, .int .i64 0], .bool false])) (hb : Below w.heap.size w w') : PsEnd t w w' e :=
  ⟨none, 0, 0, none, 0, 0, [], by rw [he, h]; rfl, by rw [h]; exact OwnS.none _ _ _, hb⟩
theorem OwnS.alloc {w : World} {lo hi k c m d : Nat} {A B : Option Addr} {s : GS} {zs : List NL} (h : OwnS w lo hi s A k c B m d zs) (o : Obj) : OwnS (w.alloc o) lo hi s A k c B m d zs := h.below ((Below.refl _ _).alloc (Nat.le_refl _) o)
theorem kept_off {w w6 : World} {B e s n e1 : Nat} {v : Value} {xs : List Value} {row : Option Nat} (h : w.ownsRow B e s v n xs) (hg : w.grownBy w6 row) (h1 : ∀ q, v.ownBlock = some q → q < e1) (h2 : ∀ q, row = some q → e1 ≤ q) : w6.ownsRow B e s v n xs := by
  refine h.kept hg ?_
  cases hb : v.ownBlock with
  | none => exact .inl rfl
  | some b => exact .inr (fun e => by have := h1 b hb; have := h2 b e.symm; omega)
theorem heap_made9 (w : World) (o : Obj) (g : Nat) (h : g = w.heap.size) : (w.alloc o).heap[g]? = some o := by rw [h]; exact heap_alloc_new w o
theorem one_c3N (a : ByteArray) (L : Option Addr) (q c : Nat) (x : Int) : ∀ u ∈ [Value.string a, .slice L q c, .int .i64 x], u.oneCell' = true := fun u hu => by
  simp at hu
  rcases hu with rfl | rfl | rfl <;> rfl
theorem one_c5T (a b c d : Int) (f : Bool) : ∀ u ∈ [Value.int .i64 a, .int .i64 b, .int .i64 c, .int .i64 d, .bool f], u.oneCell' = true := fun u hu => by
  simp at hu
  rcases hu with rfl | rfl | rfl | rfl | rfl <;> rfl
theorem lnR_a {s : GS} {i : Nat} {w : List ByteArray} (h : i = 0 ∧ wAt w 0 = ⟨#[104, 111, 114, 105, 122, 111, 110]⟩ ∧ w.length = 2) : lnR s i w = match parseOf (wAt w 1) with | some n => some { s with h := n } | none => none := by unfold lnR; rw [if_pos h]; rfl
theorem lnR_b {s : GS} {i : Nat} {w : List ByteArray} (h : ¬ (i = 0 ∧ wAt w 0 = ⟨#[104, 111, 114, 105, 122, 111, 110]⟩ ∧ w.length = 2)) (h2 : wAt w 0 = ⟨#[110, 111, 100, 101]⟩ ∧ s.ns.length < 7) : lnR s i w = match lnN w with | some e => some { s with ns := s.ns ++ [e] } | none => none := by unfold lnR; rw [if_neg h, if_pos h2]; rfl
theorem lnR_c {s : GS} {i : Nat} {w : List ByteArray} (h : ¬ (i = 0 ∧ wAt w 0 = ⟨#[104, 111, 114, 105, 122, 111, 110]⟩ ∧ w.length = 2)) (h2 : ¬ (wAt w 0 = ⟨#[110, 111, 100, 101]⟩ ∧ s.ns.length < 7)) (h3 : (wAt w 0 = ⟨#[116, 105, 101]⟩ ∨ wAt w 0 = ⟨#[102, 114, 101, 101]⟩) ∧ s.ts.length < 14) : lnR s i w = match lnT s.ns w with | some t => some { s with ts := s.ts ++ [t] } | none => none := by unfold lnR; rw [if_neg h, if_neg h2, if_pos h3]; rfl
theorem lnR_d {s : GS} {i : Nat} {w : List ByteArray} (h : ¬ (i = 0 ∧ wAt w 0 = ⟨#[104, 111, 114, 105, 122, 111, 110]⟩ ∧ w.length = 2)) (h2 : ¬ (wAt w 0 = ⟨#[110, 111, 100, 101]⟩ ∧ s.ns.length < 7)) (h3 : ¬ ((wAt w 0 = ⟨#[116, 105, 101]⟩ ∨ wAt w 0 = ⟨#[102, 114, 101, 101]⟩) ∧ s.ts.length < 14)) : lnR s i w = none := by unfold lnR; rw [if_neg h, if_neg h2, if_neg h3]

set_option maxRecDepth 100000 in
set_option maxHeartbeats 64000000 in
theorem spec_ParseShow (t : ByteArray) (w : World) (hs : t.size ≤ 1048576) :
    Calls Tryz.prog 4 #[.string t] w fun e w' => PsEnd t w w' e := by
  obtain ⟨i0, hi, hz0, hz1, hz2⟩ := info_parts Tryz.info38
  obtain ⟨j0, hj, hy0, hy1, hy2⟩ := info_parts Tryz.info42
  have HSL := Lib.hid (fun W => spec_SplitLines t W hs)
  obtain ⟨ls, hls⟩ : ∃ x, x = lines t := ⟨_, rfl⟩
  obtain ⟨n, hn⟩ : ∃ x, x = ls.length := ⟨_, rfl⟩
  have hn1 : n ≤ 1048577 := by rw [hn, hls]; have := lines_len t; omega
  have HSZ := Lib.hid (show ∀ x ∈ ls, x.size ≤ 1048576 from by rw [hls]; intro x hx; exact Nat.le_trans (lines_sub t x hx) hs)
  have HNO := Lib.hid (fun j (hj : j ≤ n) (h : psJ ls j = none) => psR_none (t := t) (j := j) (by rw [← hls, ← hn]; exact hj) (by rw [← hls]; exact h))
  have HSM := Lib.hid (fun s (h : psJ ls n = some s) => psR_some (t := t) (s := s) (by rw [← hls, ← hn]; exact h))
  rw [← hls, ← hn] at HSL
  have HN := Lib.hid hn
  clear hls hn
  go_enter Tryz.func4, Tryz.ntmps4
  go_wp2_with fail
  refine (HSL.out _).mono ?_
  rintro e w1 ⟨v, rfl, hown, b1⟩
  obtain ⟨A0, dc, rfl, _, _⟩ := own_form hown
  have HRB := Lib.hid (show SBox w1 w.heap.size (.slice none 0 0) (.slice none 0 0) (.int .i64 0) from SBox.below ⟨by go_simp, by go_simp, by go_simp, by go_simp, by go_simp, by go_simp⟩ b1)
  have HSB := Lib.hid (show SBox w1 (w.heap.size + 1) (.slice none 0 0) (.slice none 0 0) (.int .i64 0) from SBox.below ⟨by go_simp, by go_simp, by go_simp, by go_simp, by go_simp, by go_simp⟩ b1)
  have B1 := Lib.hid (show Below w.heap.size w w1 from (by repeat (first | exact Below.refl _ _ | refine below_step (by assumption) (by first | omega | (simp; done) | (simp; omega)) ?_ | refine below_drewN ?_ _ | refine Below.drew ?_ | refine Below.setCell ?_ (by first | omega | (simp; done) | (simp; omega)) _ | refine Below.alloc ?_ (by first | omega | (simp; done) | (simp; omega)) _)))
  have OL := Lib.hid (show w1.ownsRow (w.heap.size + 2) 9 1 (.slice A0 n dc) n (ls.map Value.string) from own_base hown (by simp))
  obtain ⟨e1, he1⟩ : ∃ e, e = w1.heap.size := ⟨_, rfl⟩
  have LTL := Lib.hid (show ∀ q, (Value.slice A0 n dc).ownBlock = some q → q < e1 from fun q hq => by rw [he1]; exact (hown.lt q hq).2)
  have hse : w.heap.size + 2 ≤ e1 := by rw [he1]; have := b1.size; simp at this; omega
  have HE1 := Lib.hid he1
  clear hown b1 he1 HSL
  go_wp2_with fail
  go_loopw [19] (fun i wr => ∃ (j : Nat) (s : GS) (A1 : Option Addr) (k1 c1 : Nat) (B1 : Option Addr) (m1 d1 : Nat) (zs : List NL), j ≤ n ∧ i = .int .i64 j ∧ psJ ls j = some s ∧ SBox wr w.heap.size (.slice none 0 0) (.slice none 0 0) (.int .i64 0) ∧ SBox wr (w.heap.size + 1) (.slice A1 k1 c1) (.slice B1 m1 d1) (.int .i64 s.h) ∧ OwnS wr e1 wr.heap.size s A1 k1 c1 B1 m1 d1 zs ∧ wr.ownsRow (w.heap.size + 2) 9 1 (.slice A0 n dc) n (ls.map Value.string) ∧ e1 ≤ wr.heap.size ∧ Below w.heap.size w wr) (fun i _ => n - (intOf i).toNat)
  case atStart => exact ⟨0, gS0, none, 0, 0, none, 0, 0, [], Nat.zero_le _, rfl, rfl, HRB.out, HSB.out, OwnS.none _ _ _, OL.out, by rw [HE1.out]; exact Nat.le_refl _, B1.out⟩
  case round =>
    obtain ⟨j, s, A1, k1, c1, B1v, m1, d1, zs, hj2, rfl, hps, hrb, hsb, hos, hol, hes, hb⟩ := hrel
    have HPS := Lib.hid hps
    have RB := Lib.hid hrb
    have SB := Lib.hid hsb
    have OS := Lib.hid hos
    have OR := Lib.hid hol
    have HB := Lib.hid hb
    clear hps hrb hsb hos hol hb HRB HSB B1 OL
    by_cases hlt : j < n
    · have hjl : ((j : Int) < (n : Int)) := by omega
      obtain ⟨g, o', hA0, hg, hc⟩ := row_getS (own_row OR.out) (q := j) (by have := HN.out; omega)
      obtain ⟨l, hl⟩ : ∃ l, l = ls[j]'(by have := HN.out; omega) := ⟨_, rfl⟩
      rw [← hl] at hc
      have hlj : ls[j]? = some l := by rw [hl]; exact List.getElem?_eq_getElem (by have := HN.out; omega)
      have hlz : l.size ≤ 1048576 := by rw [hl]; exact HSZ.out _ (List.getElem_mem _)
      have hnx := psJ_next HPS.out hlj
      have hok := psJ_ok HSZ.out HPS.out
      have HW := Lib.hid (fun W => spec_SplitAny l ⟨#[32]⟩ W hlz (by decide))
      obtain ⟨ws, hws⟩ : ∃ x, x = split l bSp := ⟨_, rfl⟩
      have hwz : ∀ x ∈ ws, x.size ≤ 1048576 := by rw [hws]; intro x hx; exact Nat.le_trans (split_sizes _ _ x hx) hlz
      obtain ⟨q, hq⟩ : ∃ x, x = ws.length := ⟨_, rfl⟩
      have hq1 : q ≤ 1048577 := by rw [hq, hws]; have := split_len l bSp; omega
      have hq0 : 1 ≤ q := by rw [hq, hws]; exact split_pos _ _
      rw [← hws] at hnx
      have e9 : split l ⟨#[32]⟩ = ws := hws.symm
      rw [e9, ← hq] at HW
      have HNX := Lib.hid hnx
      have HOK := Lib.hid hok
      have HWZ := Lib.hid hwz
      have HQ := Lib.hid hq.symm
      have hkl := OS.out.ln
      have hml := OS.out.lt
      have hk7 : k1 ≤ 7 := by have := hok.ns; omega
      have hm14 : m1 ≤ 14 := by have := hok.ts; omega
      have HKL := Lib.hid hkl
      have HML := Lib.hid hml
      subst hA0
      have x9 := hc
      clear hc hl hlj hnx hok hwz hq e9 hws hlz hkl hml
      go_wp2_with fail
      refine (HW.out _).mono ?_
      rintro e w2 ⟨v, rfl, hown, b2⟩
      obtain ⟨A2, d2, rfl, _, _⟩ := own_form hown
      obtain ⟨g2, o2, rfl, hg2, hcw⟩ := row_at9 (own_row hown) (q := 0) (by have := HQ.out; omega)
      have WR := Lib.hid (own_row hown)
      have k0 := hcw 0 (by have := HQ.out; omega)
      rw [Nat.add_zero] at k0
      have HCW := Lib.hid hcw
      have RB2 := Lib.hid (RB.out.below b2)
      have SB2 := Lib.hid (SB.out.below b2)
      have OS2 := Lib.hid ((OS.out.below b2).base (Nat.le_refl _) b2.size)
      have OR2 := Lib.hid (own_below OR.out b2)
      have HB2 := Lib.hid (HB.out.trans (b2.mono HB.out.size))
      have hes2 : e1 ≤ w2.heap.size := Nat.le_trans hes b2.size
      obtain ⟨x0, hx0⟩ : ∃ x, x = wAt ws 0 := ⟨_, rfl⟩
      rw [← hx0] at k0
      have HX0 := Lib.hid hx0
      have i0n : 0 < q := by omega
      have i0i : (0 : Int) < (q : Int) := by omega
      obtain ⟨s0, s1, s2, sf0, sf1, sf2⟩ := SB2.out
      clear hown b2 hcw RB SB OS OR HB HW hes hx0 x9 hg
      by_cases hj0 : j = 0
      · have hb1 : ((j : Int) == 0) = true := by simp [hj0]
        by_cases h_hor : x0 = ⟨#[104, 111, 114, 105, 122, 111, 110]⟩
        · have hb_hor : (x0.toList == [104, 111, 114, 105, 122, 111, 110]) = true := (str_is ((Lib.toList_data ⟨#[104, 111, 114, 105, 122, 111, 110]⟩).trans rfl)).trans (decide_eq_true h_hor)
          by_cases hq2 : q = 2
          · have hb3 : ((q : Int) == 2) = true := by simp [hq2]
            have HLA := Lib.hid (lnR_a (s := s) (i := j) (w := ws) ⟨hj0, HX0.out.symm.trans h_hor, HQ.out.trans hq2⟩)
            have kw := HCW.out 1 (by have := HQ.out; omega)
            have hPI := fun W => spec_ParseInt (wAt ws 1) W (wAt_size HWZ.out 1)
            have hi1 : (1 : Int) < (q : Int) := by omega
            cases hp : parseOf (wAt ws 1) with
            | none =>
              rw [hp] at hPI
              have HR1 := HNX.out
              rw [HLA.out, hp] at HR1
              have HPI := Lib.hid (fun W => (hPI W).mono fun e w' h => (⟨h.1, h.2⟩ : e = .returned (.tuple #[.int .i64 0, .bool false]) ∧ Below W.heap.size W w'))
              obtain ⟨xw, hxw⟩ : ∃ x, x = wAt ws 1 := ⟨_, rfl⟩
              rw [← hxw] at HPI kw
              clear hPI hp hxw HLA HX0 HCW WR HNX HWZ HQ
              go_wp2_with fail
              refine (HPI.out _).mono ?_
              rintro e w3 ⟨rfl, b3⟩
              have RB3 := Lib.hid (RB2.out.below b3)
              have SB3 := Lib.hid (SB2.out.below b3)
              have HB3 := Lib.hid (HB2.out.trans (b3.mono HB2.out.size))
              have HR0 := Lib.hid (HNO.out (j + 1) (by omega) HR1)
              clear b3 HR1
              clear s0 s1 s2 sf0 sf1 sf2
              obtain ⟨s0, s1, s2, sf0, sf1, sf2⟩ := SB3.out
              obtain ⟨r0, r1, r2, rf0, rf1, rf2⟩ := RB3.out
              have nx1 : (w.heap.size = w.heap.size + 1) = False := eq_false (by omega)
              have nx2 : (w.heap.size + 1 = w.heap.size) = False := eq_false (by omega)
              go_wp2_with fail
              refine bodyPost_ret (v := .tuple #[.agg #[.slice none 0 0, .slice none 0 0, .int .i64 0], .bool false]) (by first | (simp [results, Tryz.results4, go_sem]; done) | simp [*, results, Tryz.results4, go_sem]) rfl (PsEnd.no HR0.out rfl (by repeat (first | with_reducible exact HB3.out | with_reducible refine Below.setCell ?_ (by first | omega | (simp; done) | (simp; omega)) _ | with_reducible refine Below.alloc ?_ (by first | omega | (simp; done) | (simp; omega)) _)))
            | some v =>
              rw [hp] at hPI
              have HR1 := HNX.out
              rw [HLA.out, hp] at HR1
              have HPI := Lib.hid (fun W => (hPI W).mono fun e w' h => (⟨h.1, h.2⟩ : e = .returned (.tuple #[.int .i64 v, .bool true]) ∧ Below W.heap.size W w'))
              obtain ⟨xw, hxw⟩ : ∃ x, x = wAt ws 1 := ⟨_, rfl⟩
              rw [← hxw] at HPI kw
              clear hPI hp hxw HLA HX0 HCW WR HNX HWZ HQ
              go_wp2_with fail
              refine (HPI.out _).mono ?_
              rintro e w3 ⟨rfl, b3⟩
              have RB3 := Lib.hid (RB2.out.below b3)
              have SB3 := Lib.hid (SB2.out.below b3)
              have HB3 := Lib.hid (HB2.out.trans (b3.mono HB2.out.size))
              have HSTEP := Lib.hid HR1
              have OS3 := Lib.hid ((OS2.out.below b3).base (Nat.le_refl _) b3.size)
              have OR3 := Lib.hid (own_below OR2.out b3)
              have hes3 : e1 ≤ w3.heap.size := Nat.le_trans hes2 b3.size
              clear b3 HR1
              clear s0 s1 s2 sf0 sf1 sf2
              obtain ⟨s0, s1, s2, sf0, sf1, sf2⟩ := SB3.out
              go_wp2_with fail
              go_roundw
              case rel => exact ⟨j + 1, ⟨s.ns, s.ts, v⟩, A1, k1, c1, B1v, m1, d1, zs, by omega, by go_num, HSTEP.out, RB3.out.off (by omega), SB3.out.set2, ((OS3.out.horizon v).set _ _ (by dsimp only; omega)).base (Nat.le_refl _) (by simp), own_set OR3.out _ _ (by dsimp only; omega), by simpa using hes3, HB3.out.setCell (by dsimp only; omega) _⟩
              case measure => simp [intOf]; omega
          · have hb3 : ((q : Int) == 2) = false := by simp; omega
            have h_node : ¬ x0 = ⟨#[110, 111, 100, 101]⟩ := by rw [h_hor]; decide
            have hb_node : (x0.toList == [110, 111, 100, 101]) = false := (str_is ((Lib.toList_data ⟨#[110, 111, 100, 101]⟩).trans rfl)).trans (decide_eq_false h_node)
            have h_tie : ¬ x0 = ⟨#[116, 105, 101]⟩ := by rw [h_hor]; decide
            have hb_tie : (x0.toList == [116, 105, 101]) = false := (str_is ((Lib.toList_data ⟨#[116, 105, 101]⟩).trans rfl)).trans (decide_eq_false h_tie)
            have h_free : ¬ x0 = ⟨#[102, 114, 101, 101]⟩ := by rw [h_hor]; decide
            have hb_free : (x0.toList == [102, 114, 101, 101]) = false := (str_is ((Lib.toList_data ⟨#[102, 114, 101, 101]⟩).trans rfl)).trans (decide_eq_false h_free)
            have HR0 := Lib.hid (HNO.out (j + 1) (by omega) (by rw [HNX.out]; exact lnR_d (fun q9 => hq2 (by have := q9.2.2; have := HQ.out; omega)) (fun q9 => h_node (HX0.out.trans q9.1)) (fun q9 => q9.1.elim (fun h9 => h_tie (HX0.out.trans h9)) (fun h9 => h_free (HX0.out.trans h9)))))
            obtain ⟨r0, r1, r2, rf0, rf1, rf2⟩ := RB2.out
            clear HNX HOK HWZ HQ HX0 HCW WR
            go_wp2_with fail
            refine bodyPost_ret (v := .tuple #[.agg #[.slice none 0 0, .slice none 0 0, .int .i64 0], .bool false]) (by first | (simp [results, Tryz.results4, go_sem]; done) | simp [*, results, Tryz.results4, go_sem]) rfl (PsEnd.no HR0.out rfl (by repeat (first | with_reducible exact HB2.out | with_reducible refine Below.setCell ?_ (by first | omega | (simp; done) | (simp; omega)) _ | with_reducible refine Below.alloc ?_ (by first | omega | (simp; done) | (simp; omega)) _)))
        · have hb_hor : (x0.toList == [104, 111, 114, 105, 122, 111, 110]) = false := (str_is ((Lib.toList_data ⟨#[104, 111, 114, 105, 122, 111, 110]⟩).trans rfl)).trans (decide_eq_false h_hor)
          by_cases h_node : x0 = ⟨#[110, 111, 100, 101]⟩
          · have hb_node : (x0.toList == [110, 111, 100, 101]) = true := (str_is ((Lib.toList_data ⟨#[110, 111, 100, 101]⟩).trans rfl)).trans (decide_eq_true h_node)
            have h_tie : ¬ x0 = ⟨#[116, 105, 101]⟩ := by rw [h_node]; decide
            have hb_tie : (x0.toList == [116, 105, 101]) = false := (str_is ((Lib.toList_data ⟨#[116, 105, 101]⟩).trans rfl)).trans (decide_eq_false h_tie)
            have h_free : ¬ x0 = ⟨#[102, 114, 101, 101]⟩ := by rw [h_node]; decide
            have hb_free : (x0.toList == [102, 114, 101, 101]) = false := (str_is ((Lib.toList_data ⟨#[102, 114, 101, 101]⟩).trans rfl)).trans (decide_eq_false h_free)
            by_cases hk : k1 < 7
            · have hki : ((k1 : Int) < 7) := by omega
              have HLB := Lib.hid (lnR_b (s := s) (i := j) (w := ws) (fun q9 => h_hor (HX0.out.trans q9.2.1)) ⟨HX0.out.symm.trans h_node, by have := HKL.out; omega⟩)
              have HND := Lib.hid (fun W h => spec_l09Node ws (some ⟨g2, o2, none⟩) q d2 W HQ.out hq1 HWZ.out h)
              clear HCW HX0 HQ HWZ
              go_wp2_with fail
              refine (HND.out _ WR.out).mono ?_
              rintro e w3 ⟨x, L, c, ok, rfl, hln, hrow, b3⟩
              have HR1 := HNX.out
              rw [HLB.out, hln] at HR1
              have RB3 := Lib.hid (RB2.out.below b3)
              have SB3 := Lib.hid (SB2.out.below b3)
              have HB3 := Lib.hid (HB2.out.trans (b3.mono HB2.out.size))
              have OS3 := Lib.hid (OS2.out.below b3)
              have OR3 := Lib.hid (own_below OR2.out b3)
              have z3 := b3.size
              have HRW := Lib.hid hrow
              obtain ⟨nm, lab, wat⟩ := x
              dsimp only at HRW HR1
              obtain ⟨ql, hql⟩ : ∃ x, x = lab.length := ⟨_, rfl⟩
              have HR2 := Lib.hid HR1
              have HQL := Lib.hid hql
              dsimp only
              rw [← hql]
              have hes3 : e1 ≤ w3.heap.size := Nat.le_trans hes2 z3
              have hk0 := own_count OS3.out.nodes.row
              have HROW := Lib.hid (show (w3.alloc (.cells #[.string nm, .slice L ql c, .int .i64 wat] 38)).ownsRow e1 38 3 (.slice A1 k1 c1) k1 (cellsZ zs) from by have h9 := OS3.out.nodes.row; rw [← hk0] at h9; exact h9.alloc _)
              have HK0 := Lib.hid hk0
              have zS := SB3.out.lt
              have zR := RB3.out.lt
              clear b3 hln hrow HR1 HNX HLB HND WR hk0 hql
              clear s0 s1 s2 sf0 sf1 sf2
              obtain ⟨s0, s1, s2, sf0, sf1, sf2⟩ := SB3.out
              go_wp2_with (at_builtin; (refine wpList_append_lies _ rfl _ _ 22 rfl e1 38 i0 (.agg #[.string ⟨#[]⟩, .slice none 0 0, .int .i64 0]) 3 48 Tryz.underlying22 hi hz0 hz1 hz2 rfl (by decide) _ _ _ rfl (HROW.out.alloc _) ⟨_, 0, none⟩ 1 1 _ rfl rfl (World.news_of_block (heap_made9 _ _ _ (by first | rfl | simp))) (one_c3N _ _ _ _ _) (by decide) (by unfold maxLen; omega) (by omega) (by first | omega | (simp; omega)) _ rfl ?_))
              intro g3 cap w6 ho6 hg6 hat6 hl6
              have hrow : ∀ q9, (Value.slice A1 k1 c1).ownBlock = some q9 → e1 ≤ q9 := fun q9 h9 => (OS3.out.nodes.row.lt q9 h9).1
              have HZR := Lib.hid (own_base ((HRW.out.alloc (.cells #[.string nm, .slice L ql c, .int .i64 wat] 38)).alloc (.cells #[.string nm, .slice L ql c, .int .i64 wat] 38)) hes2)
              have OS6 := Lib.hid (OwnS.node (z := ⟨⟨nm, lab, wat⟩, L, c⟩) ((OS3.out.alloc (.cells #[.string nm, .slice L ql c, .int .i64 wat] 38)).alloc (.cells #[.string nm, .slice L ql c, .int .i64 wat] 38)) (by simp; omega) HZR.out (fun b9 h9 => (HRW.out.lt b9 h9).1) hg6 (by rw [cellsZ_append]; have h9 := ho6; rw [HQL.out] at h9; exact h9) (hat6.imp id (fun h9 => by rw [h9]; simp)))
              have SB6 := Lib.hid (((SB3.out.alloc _).alloc _).grown hg6 (fun h9 => by have := hrow _ h9; omega))
              have RB6 := Lib.hid (((RB3.out.alloc _).alloc _).grown hg6 (fun h9 => by have := hrow _ h9; omega))
              have OR6 := Lib.hid (kept_off ((OR3.out.alloc _).alloc _) hg6 LTL.out hrow)
              have hg6s := hg6.size
              simp at hg6s
              have HB6 := Lib.hid (show Below w.heap.size w w6 from ((HB3.out.alloc (by omega) (.cells #[.string nm, .slice L ql c, .int .i64 wat] 38)).alloc (by simp; omega) (.cells #[.string nm, .slice L ql c, .int .i64 wat] 38)).grown hg6 (by simp; omega) (fun r9 h9 => by have := hrow r9 h9; omega))
              have hes6 : e1 ≤ w6.heap.size := by omega
              clear ho6 hg6 hat6 hl6 hrow hg6s HROW HZR
              clear s0 s1 s2 sf0 sf1 sf2
              obtain ⟨s0, s1, s2, sf0, sf1, sf2⟩ := SB6.out
              have nx1 : (w.heap.size = w.heap.size + 1) = False := eq_false (by omega)
              have nx2 : (w.heap.size + 1 = w.heap.size) = False := eq_false (by omega)
              cases ok with
              | false =>
                have HR0 := Lib.hid (HNO.out (j + 1) (by omega) (by have h9 := HR2.out; simpa using h9))
                obtain ⟨r0, r1, r2, rf0, rf1, rf2⟩ := RB6.out
                go_wp2_with fail
                refine bodyPost_ret (v := .tuple #[.agg #[.slice none 0 0, .slice none 0 0, .int .i64 0], .bool false]) (by first | (simp [results, Tryz.results4, go_sem]; done) | simp [*, results, Tryz.results4, go_sem]) rfl (PsEnd.no HR0.out rfl (by repeat (first | with_reducible exact HB6.out | with_reducible refine Below.setCell ?_ (by first | omega | (simp; done) | (simp; omega)) _ | with_reducible refine Below.alloc ?_ (by first | omega | (simp; done) | (simp; omega)) _)))
              | true =>
                have HSTEP := Lib.hid (show psJ ls (j + 1) = some ⟨s.ns ++ [⟨nm, lab, wat⟩], s.ts, s.h⟩ from by have h9 := HR2.out; simpa using h9)
                go_wp2_with fail
                go_roundw
                case rel => exact ⟨j + 1, ⟨s.ns ++ [⟨nm, lab, wat⟩], s.ts, s.h⟩, some ⟨g3, 0, none⟩, k1 + 1, cap, B1v, m1, d1, zs ++ [⟨⟨nm, lab, wat⟩, L, c⟩], by omega, by go_num, HSTEP.out, RB6.out.off (by omega), SB6.out.set0, (OS6.out.set _ _ (by dsimp only; omega)).base (Nat.le_refl _) (by simp), own_set OR6.out _ _ (by dsimp only; omega), by simpa using hes6, HB6.out.setCell (by dsimp only; omega) _⟩
                case measure => simp [intOf]; omega
            · have hki : ¬ ((k1 : Int) < 7) := by omega
              have HR0 := Lib.hid (HNO.out (j + 1) (by omega) (by rw [HNX.out]; exact lnR_d (fun q9 => h_hor (HX0.out.trans q9.2.1)) (fun q9 => hk (by have := HKL.out; have := q9.2; omega)) (fun q9 => q9.1.elim (fun h9 => h_tie (HX0.out.trans h9)) (fun h9 => h_free (HX0.out.trans h9)))))
              obtain ⟨r0, r1, r2, rf0, rf1, rf2⟩ := RB2.out
              clear HNX HOK HWZ HQ HX0 HCW WR
              go_wp2_with fail
              refine bodyPost_ret (v := .tuple #[.agg #[.slice none 0 0, .slice none 0 0, .int .i64 0], .bool false]) (by first | (simp [results, Tryz.results4, go_sem]; done) | simp [*, results, Tryz.results4, go_sem]) rfl (PsEnd.no HR0.out rfl (by repeat (first | with_reducible exact HB2.out | with_reducible refine Below.setCell ?_ (by first | omega | (simp; done) | (simp; omega)) _ | with_reducible refine Below.alloc ?_ (by first | omega | (simp; done) | (simp; omega)) _)))
          · have hb_node : (x0.toList == [110, 111, 100, 101]) = false := (str_is ((Lib.toList_data ⟨#[110, 111, 100, 101]⟩).trans rfl)).trans (decide_eq_false h_node)
            by_cases h_tie : x0 = ⟨#[116, 105, 101]⟩
            · have hb_tie : (x0.toList == [116, 105, 101]) = true := (str_is ((Lib.toList_data ⟨#[116, 105, 101]⟩).trans rfl)).trans (decide_eq_true h_tie)
              have h_free : ¬ x0 = ⟨#[102, 114, 101, 101]⟩ := by rw [h_tie]; decide
              have hb_free : (x0.toList == [102, 114, 101, 101]) = false := (str_is ((Lib.toList_data ⟨#[102, 114, 101, 101]⟩).trans rfl)).trans (decide_eq_false h_free)
              by_cases hm : m1 < 14
              · have hmi : ((m1 : Int) < 14) := by omega
                have HLC := Lib.hid (lnR_c (s := s) (i := j) (w := ws) (fun q9 => h_hor (HX0.out.trans q9.2.1)) (fun q9 => h_node (HX0.out.trans q9.1)) ⟨.inl (HX0.out.symm.trans h_tie), by have := HML.out; omega⟩)
                have hTT := fun W h h9 => spec_l09ParseTie s ws A1 k1 c1 B1v m1 d1 (some ⟨g2, o2, none⟩) q d2 W (by omega) HQ.out hq1 HWZ.out h h9
                unfold shV at hTT
                have HTT := Lib.hid hTT
                have HAT := Lib.hid OS2.out.at_
                clear HCW HX0 HQ HWZ hTT
                go_wp2_with fail
                refine (HTT.out _ HAT.out WR.out).mono ?_
                rintro e w3 ⟨x, ok, rfl, hln, b3⟩
                have HR1 := HNX.out
                rw [HLC.out, hln] at HR1
                have RB3 := Lib.hid (RB2.out.below b3)
                have SB3 := Lib.hid (SB2.out.below b3)
                have HB3 := Lib.hid (HB2.out.trans (b3.mono HB2.out.size))
                have OS3 := Lib.hid (OS2.out.below b3)
                have OR3 := Lib.hid (own_below OR2.out b3)
                have z3 := b3.size
                obtain ⟨u, v, lo, hi9, fr⟩ := x
                try dsimp only at HR1
                have HR2 := Lib.hid HR1
                try dsimp only
                have hes3 : e1 ≤ w3.heap.size := Nat.le_trans hes2 z3
                have HROW := Lib.hid (show (w3.alloc (.cells #[.int .i64 u, .int .i64 v, .int .i64 lo, .int .i64 hi9, .bool fr] 42)).ownsRow e1 42 5 (.slice B1v m1 d1) m1 (cellsT s.ts) from own_below OS3.out.ties ((Below.refl _ _).alloc (Nat.le_refl _) _))
                have zS := SB3.out.lt
                have zR := RB3.out.lt
                clear b3 hln HR1 HNX HLC HTT HAT WR
                clear s0 s1 s2 sf0 sf1 sf2
                obtain ⟨s0, s1, s2, sf0, sf1, sf2⟩ := SB3.out
                go_wp2_with (at_builtin; (refine wpList_append_lies _ rfl _ _ 23 rfl e1 42 j0 (.agg #[.int .i64 0, .int .i64 0, .int .i64 0, .int .i64 0, .bool false]) 5 40 Tryz.underlying23 hj hy0 hy1 hy2 rfl (by decide) _ _ _ rfl (HROW.out.alloc _) ⟨_, 0, none⟩ 1 1 _ rfl rfl (World.news_of_block (heap_made9 _ _ _ (by first | rfl | simp))) (one_c5T _ _ _ _ _) (by decide) (by unfold maxLen; omega) (by omega) (by first | omega | (simp; omega)) _ rfl ?_))
                intro g3 cap w6 ho6 hg6 hat6 hl6
                have hrow : ∀ q9, (Value.slice B1v m1 d1).ownBlock = some q9 → e1 ≤ q9 := fun q9 h9 => (OS3.out.ties.lt q9 h9).1
                have OS6 := Lib.hid (OwnS.tie (t := ⟨u, v, lo, hi9, fr⟩) ((OS3.out.alloc (.cells #[.int .i64 u, .int .i64 v, .int .i64 lo, .int .i64 hi9, .bool fr] 42)).alloc (.cells #[.int .i64 u, .int .i64 v, .int .i64 lo, .int .i64 hi9, .bool fr] 42)) (by simp; omega) hg6 (by rw [cellsT_append]; exact ho6) (hat6.imp id (fun h9 => by rw [h9]; simp)))
                have SB6 := Lib.hid (((SB3.out.alloc _).alloc _).grown hg6 (fun h9 => by have := hrow _ h9; omega))
                have RB6 := Lib.hid (((RB3.out.alloc _).alloc _).grown hg6 (fun h9 => by have := hrow _ h9; omega))
                have OR6 := Lib.hid (kept_off ((OR3.out.alloc _).alloc _) hg6 LTL.out hrow)
                have hg6s := hg6.size
                simp at hg6s
                have HB6 := Lib.hid (show Below w.heap.size w w6 from ((HB3.out.alloc (by omega) (.cells #[.int .i64 u, .int .i64 v, .int .i64 lo, .int .i64 hi9, .bool fr] 42)).alloc (by simp; omega) (.cells #[.int .i64 u, .int .i64 v, .int .i64 lo, .int .i64 hi9, .bool fr] 42)).grown hg6 (by simp; omega) (fun r9 h9 => by have := hrow r9 h9; omega))
                have hes6 : e1 ≤ w6.heap.size := by omega
                clear ho6 hg6 hat6 hl6 hrow hg6s HROW
                clear s0 s1 s2 sf0 sf1 sf2
                obtain ⟨s0, s1, s2, sf0, sf1, sf2⟩ := SB6.out
                have nx1 : (w.heap.size = w.heap.size + 1) = False := eq_false (by omega)
                have nx2 : (w.heap.size + 1 = w.heap.size) = False := eq_false (by omega)
                cases ok with
                | false =>
                  have HR0 := Lib.hid (HNO.out (j + 1) (by omega) (by have h9 := HR2.out; simpa using h9))
                  obtain ⟨r0, r1, r2, rf0, rf1, rf2⟩ := RB6.out
                  go_wp2_with fail
                  refine bodyPost_ret (v := .tuple #[.agg #[.slice none 0 0, .slice none 0 0, .int .i64 0], .bool false]) (by first | (simp [results, Tryz.results4, go_sem]; done) | simp [*, results, Tryz.results4, go_sem]) rfl (PsEnd.no HR0.out rfl (by repeat (first | with_reducible exact HB6.out | with_reducible refine Below.setCell ?_ (by first | omega | (simp; done) | (simp; omega)) _ | with_reducible refine Below.alloc ?_ (by first | omega | (simp; done) | (simp; omega)) _)))
                | true =>
                  have HSTEP := Lib.hid (show psJ ls (j + 1) = some ⟨s.ns, s.ts ++ [⟨u, v, lo, hi9, fr⟩], s.h⟩ from by have h9 := HR2.out; simpa using h9)
                  go_wp2_with fail
                  go_roundw
                  case rel => exact ⟨j + 1, ⟨s.ns, s.ts ++ [⟨u, v, lo, hi9, fr⟩], s.h⟩, A1, k1, c1, some ⟨g3, 0, none⟩, m1 + 1, cap, zs, by omega, by go_num, HSTEP.out, RB6.out.off (by omega), SB6.out.set1, (OS6.out.set _ _ (by dsimp only; omega)).base (Nat.le_refl _) (by simp), own_set OR6.out _ _ (by dsimp only; omega), by simpa using hes6, HB6.out.setCell (by dsimp only; omega) _⟩
                  case measure => simp [intOf]; omega
              · have hmi : ¬ ((m1 : Int) < 14) := by omega
                have HR0 := Lib.hid (HNO.out (j + 1) (by omega) (by rw [HNX.out]; exact lnR_d (fun q9 => h_hor (HX0.out.trans q9.2.1)) (fun q9 => h_node (HX0.out.trans q9.1)) (fun q9 => hm (by have := HML.out; have := q9.2; omega))))
                obtain ⟨r0, r1, r2, rf0, rf1, rf2⟩ := RB2.out
                clear HNX HOK HWZ HQ HX0 HCW WR
                go_wp2_with fail
                refine bodyPost_ret (v := .tuple #[.agg #[.slice none 0 0, .slice none 0 0, .int .i64 0], .bool false]) (by first | (simp [results, Tryz.results4, go_sem]; done) | simp [*, results, Tryz.results4, go_sem]) rfl (PsEnd.no HR0.out rfl (by repeat (first | with_reducible exact HB2.out | with_reducible refine Below.setCell ?_ (by first | omega | (simp; done) | (simp; omega)) _ | with_reducible refine Below.alloc ?_ (by first | omega | (simp; done) | (simp; omega)) _)))
            · have hb_tie : (x0.toList == [116, 105, 101]) = false := (str_is ((Lib.toList_data ⟨#[116, 105, 101]⟩).trans rfl)).trans (decide_eq_false h_tie)
              by_cases h_free : x0 = ⟨#[102, 114, 101, 101]⟩
              · have hb_free : (x0.toList == [102, 114, 101, 101]) = true := (str_is ((Lib.toList_data ⟨#[102, 114, 101, 101]⟩).trans rfl)).trans (decide_eq_true h_free)
                by_cases hm : m1 < 14
                · have hmi : ((m1 : Int) < 14) := by omega
                  have HLC := Lib.hid (lnR_c (s := s) (i := j) (w := ws) (fun q9 => h_hor (HX0.out.trans q9.2.1)) (fun q9 => h_node (HX0.out.trans q9.1)) ⟨.inr (HX0.out.symm.trans h_free), by have := HML.out; omega⟩)
                  have hTT := fun W h h9 => spec_l09ParseTie s ws A1 k1 c1 B1v m1 d1 (some ⟨g2, o2, none⟩) q d2 W (by omega) HQ.out hq1 HWZ.out h h9
                  unfold shV at hTT
                  have HTT := Lib.hid hTT
                  have HAT := Lib.hid OS2.out.at_
                  clear HCW HX0 HQ HWZ hTT
                  go_wp2_with fail
                  refine (HTT.out _ HAT.out WR.out).mono ?_
                  rintro e w3 ⟨x, ok, rfl, hln, b3⟩
                  have HR1 := HNX.out
                  rw [HLC.out, hln] at HR1
                  have RB3 := Lib.hid (RB2.out.below b3)
                  have SB3 := Lib.hid (SB2.out.below b3)
                  have HB3 := Lib.hid (HB2.out.trans (b3.mono HB2.out.size))
                  have OS3 := Lib.hid (OS2.out.below b3)
                  have OR3 := Lib.hid (own_below OR2.out b3)
                  have z3 := b3.size
                  obtain ⟨u, v, lo, hi9, fr⟩ := x
                  try dsimp only at HR1
                  have HR2 := Lib.hid HR1
                  try dsimp only
                  have hes3 : e1 ≤ w3.heap.size := Nat.le_trans hes2 z3
                  have HROW := Lib.hid (show (w3.alloc (.cells #[.int .i64 u, .int .i64 v, .int .i64 lo, .int .i64 hi9, .bool fr] 42)).ownsRow e1 42 5 (.slice B1v m1 d1) m1 (cellsT s.ts) from own_below OS3.out.ties ((Below.refl _ _).alloc (Nat.le_refl _) _))
                  have zS := SB3.out.lt
                  have zR := RB3.out.lt
                  clear b3 hln HR1 HNX HLC HTT HAT WR
                  clear s0 s1 s2 sf0 sf1 sf2
                  obtain ⟨s0, s1, s2, sf0, sf1, sf2⟩ := SB3.out
                  go_wp2_with (at_builtin; (refine wpList_append_lies _ rfl _ _ 23 rfl e1 42 j0 (.agg #[.int .i64 0, .int .i64 0, .int .i64 0, .int .i64 0, .bool false]) 5 40 Tryz.underlying23 hj hy0 hy1 hy2 rfl (by decide) _ _ _ rfl (HROW.out.alloc _) ⟨_, 0, none⟩ 1 1 _ rfl rfl (World.news_of_block (heap_made9 _ _ _ (by first | rfl | simp))) (one_c5T _ _ _ _ _) (by decide) (by unfold maxLen; omega) (by omega) (by first | omega | (simp; omega)) _ rfl ?_))
                  intro g3 cap w6 ho6 hg6 hat6 hl6
                  have hrow : ∀ q9, (Value.slice B1v m1 d1).ownBlock = some q9 → e1 ≤ q9 := fun q9 h9 => (OS3.out.ties.lt q9 h9).1
                  have OS6 := Lib.hid (OwnS.tie (t := ⟨u, v, lo, hi9, fr⟩) ((OS3.out.alloc (.cells #[.int .i64 u, .int .i64 v, .int .i64 lo, .int .i64 hi9, .bool fr] 42)).alloc (.cells #[.int .i64 u, .int .i64 v, .int .i64 lo, .int .i64 hi9, .bool fr] 42)) (by simp; omega) hg6 (by rw [cellsT_append]; exact ho6) (hat6.imp id (fun h9 => by rw [h9]; simp)))
                  have SB6 := Lib.hid (((SB3.out.alloc _).alloc _).grown hg6 (fun h9 => by have := hrow _ h9; omega))
                  have RB6 := Lib.hid (((RB3.out.alloc _).alloc _).grown hg6 (fun h9 => by have := hrow _ h9; omega))
                  have OR6 := Lib.hid (kept_off ((OR3.out.alloc _).alloc _) hg6 LTL.out hrow)
                  have hg6s := hg6.size
                  simp at hg6s
                  have HB6 := Lib.hid (show Below w.heap.size w w6 from ((HB3.out.alloc (by omega) (.cells #[.int .i64 u, .int .i64 v, .int .i64 lo, .int .i64 hi9, .bool fr] 42)).alloc (by simp; omega) (.cells #[.int .i64 u, .int .i64 v, .int .i64 lo, .int .i64 hi9, .bool fr] 42)).grown hg6 (by simp; omega) (fun r9 h9 => by have := hrow r9 h9; omega))
                  have hes6 : e1 ≤ w6.heap.size := by omega
                  clear ho6 hg6 hat6 hl6 hrow hg6s HROW
                  clear s0 s1 s2 sf0 sf1 sf2
                  obtain ⟨s0, s1, s2, sf0, sf1, sf2⟩ := SB6.out
                  have nx1 : (w.heap.size = w.heap.size + 1) = False := eq_false (by omega)
                  have nx2 : (w.heap.size + 1 = w.heap.size) = False := eq_false (by omega)
                  cases ok with
                  | false =>
                    have HR0 := Lib.hid (HNO.out (j + 1) (by omega) (by have h9 := HR2.out; simpa using h9))
                    obtain ⟨r0, r1, r2, rf0, rf1, rf2⟩ := RB6.out
                    go_wp2_with fail
                    refine bodyPost_ret (v := .tuple #[.agg #[.slice none 0 0, .slice none 0 0, .int .i64 0], .bool false]) (by first | (simp [results, Tryz.results4, go_sem]; done) | simp [*, results, Tryz.results4, go_sem]) rfl (PsEnd.no HR0.out rfl (by repeat (first | with_reducible exact HB6.out | with_reducible refine Below.setCell ?_ (by first | omega | (simp; done) | (simp; omega)) _ | with_reducible refine Below.alloc ?_ (by first | omega | (simp; done) | (simp; omega)) _)))
                  | true =>
                    have HSTEP := Lib.hid (show psJ ls (j + 1) = some ⟨s.ns, s.ts ++ [⟨u, v, lo, hi9, fr⟩], s.h⟩ from by have h9 := HR2.out; simpa using h9)
                    go_wp2_with fail
                    go_roundw
                    case rel => exact ⟨j + 1, ⟨s.ns, s.ts ++ [⟨u, v, lo, hi9, fr⟩], s.h⟩, A1, k1, c1, some ⟨g3, 0, none⟩, m1 + 1, cap, zs, by omega, by go_num, HSTEP.out, RB6.out.off (by omega), SB6.out.set1, (OS6.out.set _ _ (by dsimp only; omega)).base (Nat.le_refl _) (by simp), own_set OR6.out _ _ (by dsimp only; omega), by simpa using hes6, HB6.out.setCell (by dsimp only; omega) _⟩
                    case measure => simp [intOf]; omega
                · have hmi : ¬ ((m1 : Int) < 14) := by omega
                  have HR0 := Lib.hid (HNO.out (j + 1) (by omega) (by rw [HNX.out]; exact lnR_d (fun q9 => h_hor (HX0.out.trans q9.2.1)) (fun q9 => h_node (HX0.out.trans q9.1)) (fun q9 => hm (by have := HML.out; have := q9.2; omega))))
                  obtain ⟨r0, r1, r2, rf0, rf1, rf2⟩ := RB2.out
                  clear HNX HOK HWZ HQ HX0 HCW WR
                  go_wp2_with fail
                  refine bodyPost_ret (v := .tuple #[.agg #[.slice none 0 0, .slice none 0 0, .int .i64 0], .bool false]) (by first | (simp [results, Tryz.results4, go_sem]; done) | simp [*, results, Tryz.results4, go_sem]) rfl (PsEnd.no HR0.out rfl (by repeat (first | with_reducible exact HB2.out | with_reducible refine Below.setCell ?_ (by first | omega | (simp; done) | (simp; omega)) _ | with_reducible refine Below.alloc ?_ (by first | omega | (simp; done) | (simp; omega)) _)))
              · have hb_free : (x0.toList == [102, 114, 101, 101]) = false := (str_is ((Lib.toList_data ⟨#[102, 114, 101, 101]⟩).trans rfl)).trans (decide_eq_false h_free)
                have HR0 := Lib.hid (HNO.out (j + 1) (by omega) (by rw [HNX.out]; exact lnR_d (fun q9 => h_hor (HX0.out.trans q9.2.1)) (fun q9 => h_node (HX0.out.trans q9.1)) (fun q9 => q9.1.elim (fun h9 => h_tie (HX0.out.trans h9)) (fun h9 => h_free (HX0.out.trans h9)))))
                obtain ⟨r0, r1, r2, rf0, rf1, rf2⟩ := RB2.out
                clear HNX HOK HWZ HQ HX0 HCW WR
                go_wp2_with fail
                refine bodyPost_ret (v := .tuple #[.agg #[.slice none 0 0, .slice none 0 0, .int .i64 0], .bool false]) (by first | (simp [results, Tryz.results4, go_sem]; done) | simp [*, results, Tryz.results4, go_sem]) rfl (PsEnd.no HR0.out rfl (by repeat (first | with_reducible exact HB2.out | with_reducible refine Below.setCell ?_ (by first | omega | (simp; done) | (simp; omega)) _ | with_reducible refine Below.alloc ?_ (by first | omega | (simp; done) | (simp; omega)) _)))
      · have hb1 : ((j : Int) == 0) = false := by simp [hj0]
        by_cases h_node : x0 = ⟨#[110, 111, 100, 101]⟩
        · have hb_node : (x0.toList == [110, 111, 100, 101]) = true := (str_is ((Lib.toList_data ⟨#[110, 111, 100, 101]⟩).trans rfl)).trans (decide_eq_true h_node)
          have h_tie : ¬ x0 = ⟨#[116, 105, 101]⟩ := by rw [h_node]; decide
          have hb_tie : (x0.toList == [116, 105, 101]) = false := (str_is ((Lib.toList_data ⟨#[116, 105, 101]⟩).trans rfl)).trans (decide_eq_false h_tie)
          have h_free : ¬ x0 = ⟨#[102, 114, 101, 101]⟩ := by rw [h_node]; decide
          have hb_free : (x0.toList == [102, 114, 101, 101]) = false := (str_is ((Lib.toList_data ⟨#[102, 114, 101, 101]⟩).trans rfl)).trans (decide_eq_false h_free)
          by_cases hk : k1 < 7
          · have hki : ((k1 : Int) < 7) := by omega
            have HLB := Lib.hid (lnR_b (s := s) (i := j) (w := ws) (fun q9 => hj0 q9.1) ⟨HX0.out.symm.trans h_node, by have := HKL.out; omega⟩)
            have HND := Lib.hid (fun W h => spec_l09Node ws (some ⟨g2, o2, none⟩) q d2 W HQ.out hq1 HWZ.out h)
            clear HCW HX0 HQ HWZ
            go_wp2_with fail
            refine (HND.out _ WR.out).mono ?_
            rintro e w3 ⟨x, L, c, ok, rfl, hln, hrow, b3⟩
            have HR1 := HNX.out
            rw [HLB.out, hln] at HR1
            have RB3 := Lib.hid (RB2.out.below b3)
            have SB3 := Lib.hid (SB2.out.below b3)
            have HB3 := Lib.hid (HB2.out.trans (b3.mono HB2.out.size))
            have OS3 := Lib.hid (OS2.out.below b3)
            have OR3 := Lib.hid (own_below OR2.out b3)
            have z3 := b3.size
            have HRW := Lib.hid hrow
            obtain ⟨nm, lab, wat⟩ := x
            dsimp only at HRW HR1
            obtain ⟨ql, hql⟩ : ∃ x, x = lab.length := ⟨_, rfl⟩
            have HR2 := Lib.hid HR1
            have HQL := Lib.hid hql
            dsimp only
            rw [← hql]
            have hes3 : e1 ≤ w3.heap.size := Nat.le_trans hes2 z3
            have hk0 := own_count OS3.out.nodes.row
            have HROW := Lib.hid (show (w3.alloc (.cells #[.string nm, .slice L ql c, .int .i64 wat] 38)).ownsRow e1 38 3 (.slice A1 k1 c1) k1 (cellsZ zs) from by have h9 := OS3.out.nodes.row; rw [← hk0] at h9; exact h9.alloc _)
            have HK0 := Lib.hid hk0
            have zS := SB3.out.lt
            have zR := RB3.out.lt
            clear b3 hln hrow HR1 HNX HLB HND WR hk0 hql
            clear s0 s1 s2 sf0 sf1 sf2
            obtain ⟨s0, s1, s2, sf0, sf1, sf2⟩ := SB3.out
            go_wp2_with (at_builtin; (refine wpList_append_lies _ rfl _ _ 22 rfl e1 38 i0 (.agg #[.string ⟨#[]⟩, .slice none 0 0, .int .i64 0]) 3 48 Tryz.underlying22 hi hz0 hz1 hz2 rfl (by decide) _ _ _ rfl (HROW.out.alloc _) ⟨_, 0, none⟩ 1 1 _ rfl rfl (World.news_of_block (heap_made9 _ _ _ (by first | rfl | simp))) (one_c3N _ _ _ _ _) (by decide) (by unfold maxLen; omega) (by omega) (by first | omega | (simp; omega)) _ rfl ?_))
            intro g3 cap w6 ho6 hg6 hat6 hl6
            have hrow : ∀ q9, (Value.slice A1 k1 c1).ownBlock = some q9 → e1 ≤ q9 := fun q9 h9 => (OS3.out.nodes.row.lt q9 h9).1
            have HZR := Lib.hid (own_base ((HRW.out.alloc (.cells #[.string nm, .slice L ql c, .int .i64 wat] 38)).alloc (.cells #[.string nm, .slice L ql c, .int .i64 wat] 38)) hes2)
            have OS6 := Lib.hid (OwnS.node (z := ⟨⟨nm, lab, wat⟩, L, c⟩) ((OS3.out.alloc (.cells #[.string nm, .slice L ql c, .int .i64 wat] 38)).alloc (.cells #[.string nm, .slice L ql c, .int .i64 wat] 38)) (by simp; omega) HZR.out (fun b9 h9 => (HRW.out.lt b9 h9).1) hg6 (by rw [cellsZ_append]; have h9 := ho6; rw [HQL.out] at h9; exact h9) (hat6.imp id (fun h9 => by rw [h9]; simp)))
            have SB6 := Lib.hid (((SB3.out.alloc _).alloc _).grown hg6 (fun h9 => by have := hrow _ h9; omega))
            have RB6 := Lib.hid (((RB3.out.alloc _).alloc _).grown hg6 (fun h9 => by have := hrow _ h9; omega))
            have OR6 := Lib.hid (kept_off ((OR3.out.alloc _).alloc _) hg6 LTL.out hrow)
            have hg6s := hg6.size
            simp at hg6s
            have HB6 := Lib.hid (show Below w.heap.size w w6 from ((HB3.out.alloc (by omega) (.cells #[.string nm, .slice L ql c, .int .i64 wat] 38)).alloc (by simp; omega) (.cells #[.string nm, .slice L ql c, .int .i64 wat] 38)).grown hg6 (by simp; omega) (fun r9 h9 => by have := hrow r9 h9; omega))
            have hes6 : e1 ≤ w6.heap.size := by omega
            clear ho6 hg6 hat6 hl6 hrow hg6s HROW HZR
            clear s0 s1 s2 sf0 sf1 sf2
            obtain ⟨s0, s1, s2, sf0, sf1, sf2⟩ := SB6.out
            have nx1 : (w.heap.size = w.heap.size + 1) = False := eq_false (by omega)
            have nx2 : (w.heap.size + 1 = w.heap.size) = False := eq_false (by omega)
            cases ok with
            | false =>
              have HR0 := Lib.hid (HNO.out (j + 1) (by omega) (by have h9 := HR2.out; simpa using h9))
              obtain ⟨r0, r1, r2, rf0, rf1, rf2⟩ := RB6.out
              go_wp2_with fail
              refine bodyPost_ret (v := .tuple #[.agg #[.slice none 0 0, .slice none 0 0, .int .i64 0], .bool false]) (by first | (simp [results, Tryz.results4, go_sem]; done) | simp [*, results, Tryz.results4, go_sem]) rfl (PsEnd.no HR0.out rfl (by repeat (first | with_reducible exact HB6.out | with_reducible refine Below.setCell ?_ (by first | omega | (simp; done) | (simp; omega)) _ | with_reducible refine Below.alloc ?_ (by first | omega | (simp; done) | (simp; omega)) _)))
            | true =>
              have HSTEP := Lib.hid (show psJ ls (j + 1) = some ⟨s.ns ++ [⟨nm, lab, wat⟩], s.ts, s.h⟩ from by have h9 := HR2.out; simpa using h9)
              go_wp2_with fail
              go_roundw
              case rel => exact ⟨j + 1, ⟨s.ns ++ [⟨nm, lab, wat⟩], s.ts, s.h⟩, some ⟨g3, 0, none⟩, k1 + 1, cap, B1v, m1, d1, zs ++ [⟨⟨nm, lab, wat⟩, L, c⟩], by omega, by go_num, HSTEP.out, RB6.out.off (by omega), SB6.out.set0, (OS6.out.set _ _ (by dsimp only; omega)).base (Nat.le_refl _) (by simp), own_set OR6.out _ _ (by dsimp only; omega), by simpa using hes6, HB6.out.setCell (by dsimp only; omega) _⟩
              case measure => simp [intOf]; omega
          · have hki : ¬ ((k1 : Int) < 7) := by omega
            have HR0 := Lib.hid (HNO.out (j + 1) (by omega) (by rw [HNX.out]; exact lnR_d (fun q9 => hj0 q9.1) (fun q9 => hk (by have := HKL.out; have := q9.2; omega)) (fun q9 => q9.1.elim (fun h9 => h_tie (HX0.out.trans h9)) (fun h9 => h_free (HX0.out.trans h9)))))
            obtain ⟨r0, r1, r2, rf0, rf1, rf2⟩ := RB2.out
            clear HNX HOK HWZ HQ HX0 HCW WR
            go_wp2_with fail
            refine bodyPost_ret (v := .tuple #[.agg #[.slice none 0 0, .slice none 0 0, .int .i64 0], .bool false]) (by first | (simp [results, Tryz.results4, go_sem]; done) | simp [*, results, Tryz.results4, go_sem]) rfl (PsEnd.no HR0.out rfl (by repeat (first | with_reducible exact HB2.out | with_reducible refine Below.setCell ?_ (by first | omega | (simp; done) | (simp; omega)) _ | with_reducible refine Below.alloc ?_ (by first | omega | (simp; done) | (simp; omega)) _)))
        · have hb_node : (x0.toList == [110, 111, 100, 101]) = false := (str_is ((Lib.toList_data ⟨#[110, 111, 100, 101]⟩).trans rfl)).trans (decide_eq_false h_node)
          by_cases h_tie : x0 = ⟨#[116, 105, 101]⟩
          · have hb_tie : (x0.toList == [116, 105, 101]) = true := (str_is ((Lib.toList_data ⟨#[116, 105, 101]⟩).trans rfl)).trans (decide_eq_true h_tie)
            have h_free : ¬ x0 = ⟨#[102, 114, 101, 101]⟩ := by rw [h_tie]; decide
            have hb_free : (x0.toList == [102, 114, 101, 101]) = false := (str_is ((Lib.toList_data ⟨#[102, 114, 101, 101]⟩).trans rfl)).trans (decide_eq_false h_free)
            by_cases hm : m1 < 14
            · have hmi : ((m1 : Int) < 14) := by omega
              have HLC := Lib.hid (lnR_c (s := s) (i := j) (w := ws) (fun q9 => hj0 q9.1) (fun q9 => h_node (HX0.out.trans q9.1)) ⟨.inl (HX0.out.symm.trans h_tie), by have := HML.out; omega⟩)
              have hTT := fun W h h9 => spec_l09ParseTie s ws A1 k1 c1 B1v m1 d1 (some ⟨g2, o2, none⟩) q d2 W (by omega) HQ.out hq1 HWZ.out h h9
              unfold shV at hTT
              have HTT := Lib.hid hTT
              have HAT := Lib.hid OS2.out.at_
              clear HCW HX0 HQ HWZ hTT
              go_wp2_with fail
              refine (HTT.out _ HAT.out WR.out).mono ?_
              rintro e w3 ⟨x, ok, rfl, hln, b3⟩
              have HR1 := HNX.out
              rw [HLC.out, hln] at HR1
              have RB3 := Lib.hid (RB2.out.below b3)
              have SB3 := Lib.hid (SB2.out.below b3)
              have HB3 := Lib.hid (HB2.out.trans (b3.mono HB2.out.size))
              have OS3 := Lib.hid (OS2.out.below b3)
              have OR3 := Lib.hid (own_below OR2.out b3)
              have z3 := b3.size
              obtain ⟨u, v, lo, hi9, fr⟩ := x
              try dsimp only at HR1
              have HR2 := Lib.hid HR1
              try dsimp only
              have hes3 : e1 ≤ w3.heap.size := Nat.le_trans hes2 z3
              have HROW := Lib.hid (show (w3.alloc (.cells #[.int .i64 u, .int .i64 v, .int .i64 lo, .int .i64 hi9, .bool fr] 42)).ownsRow e1 42 5 (.slice B1v m1 d1) m1 (cellsT s.ts) from own_below OS3.out.ties ((Below.refl _ _).alloc (Nat.le_refl _) _))
              have zS := SB3.out.lt
              have zR := RB3.out.lt
              clear b3 hln HR1 HNX HLC HTT HAT WR
              clear s0 s1 s2 sf0 sf1 sf2
              obtain ⟨s0, s1, s2, sf0, sf1, sf2⟩ := SB3.out
              go_wp2_with (at_builtin; (refine wpList_append_lies _ rfl _ _ 23 rfl e1 42 j0 (.agg #[.int .i64 0, .int .i64 0, .int .i64 0, .int .i64 0, .bool false]) 5 40 Tryz.underlying23 hj hy0 hy1 hy2 rfl (by decide) _ _ _ rfl (HROW.out.alloc _) ⟨_, 0, none⟩ 1 1 _ rfl rfl (World.news_of_block (heap_made9 _ _ _ (by first | rfl | simp))) (one_c5T _ _ _ _ _) (by decide) (by unfold maxLen; omega) (by omega) (by first | omega | (simp; omega)) _ rfl ?_))
              intro g3 cap w6 ho6 hg6 hat6 hl6
              have hrow : ∀ q9, (Value.slice B1v m1 d1).ownBlock = some q9 → e1 ≤ q9 := fun q9 h9 => (OS3.out.ties.lt q9 h9).1
              have OS6 := Lib.hid (OwnS.tie (t := ⟨u, v, lo, hi9, fr⟩) ((OS3.out.alloc (.cells #[.int .i64 u, .int .i64 v, .int .i64 lo, .int .i64 hi9, .bool fr] 42)).alloc (.cells #[.int .i64 u, .int .i64 v, .int .i64 lo, .int .i64 hi9, .bool fr] 42)) (by simp; omega) hg6 (by rw [cellsT_append]; exact ho6) (hat6.imp id (fun h9 => by rw [h9]; simp)))
              have SB6 := Lib.hid (((SB3.out.alloc _).alloc _).grown hg6 (fun h9 => by have := hrow _ h9; omega))
              have RB6 := Lib.hid (((RB3.out.alloc _).alloc _).grown hg6 (fun h9 => by have := hrow _ h9; omega))
              have OR6 := Lib.hid (kept_off ((OR3.out.alloc _).alloc _) hg6 LTL.out hrow)
              have hg6s := hg6.size
              simp at hg6s
              have HB6 := Lib.hid (show Below w.heap.size w w6 from ((HB3.out.alloc (by omega) (.cells #[.int .i64 u, .int .i64 v, .int .i64 lo, .int .i64 hi9, .bool fr] 42)).alloc (by simp; omega) (.cells #[.int .i64 u, .int .i64 v, .int .i64 lo, .int .i64 hi9, .bool fr] 42)).grown hg6 (by simp; omega) (fun r9 h9 => by have := hrow r9 h9; omega))
              have hes6 : e1 ≤ w6.heap.size := by omega
              clear ho6 hg6 hat6 hl6 hrow hg6s HROW
              clear s0 s1 s2 sf0 sf1 sf2
              obtain ⟨s0, s1, s2, sf0, sf1, sf2⟩ := SB6.out
              have nx1 : (w.heap.size = w.heap.size + 1) = False := eq_false (by omega)
              have nx2 : (w.heap.size + 1 = w.heap.size) = False := eq_false (by omega)
              cases ok with
              | false =>
                have HR0 := Lib.hid (HNO.out (j + 1) (by omega) (by have h9 := HR2.out; simpa using h9))
                obtain ⟨r0, r1, r2, rf0, rf1, rf2⟩ := RB6.out
                go_wp2_with fail
                refine bodyPost_ret (v := .tuple #[.agg #[.slice none 0 0, .slice none 0 0, .int .i64 0], .bool false]) (by first | (simp [results, Tryz.results4, go_sem]; done) | simp [*, results, Tryz.results4, go_sem]) rfl (PsEnd.no HR0.out rfl (by repeat (first | with_reducible exact HB6.out | with_reducible refine Below.setCell ?_ (by first | omega | (simp; done) | (simp; omega)) _ | with_reducible refine Below.alloc ?_ (by first | omega | (simp; done) | (simp; omega)) _)))
              | true =>
                have HSTEP := Lib.hid (show psJ ls (j + 1) = some ⟨s.ns, s.ts ++ [⟨u, v, lo, hi9, fr⟩], s.h⟩ from by have h9 := HR2.out; simpa using h9)
                go_wp2_with fail
                go_roundw
                case rel => exact ⟨j + 1, ⟨s.ns, s.ts ++ [⟨u, v, lo, hi9, fr⟩], s.h⟩, A1, k1, c1, some ⟨g3, 0, none⟩, m1 + 1, cap, zs, by omega, by go_num, HSTEP.out, RB6.out.off (by omega), SB6.out.set1, (OS6.out.set _ _ (by dsimp only; omega)).base (Nat.le_refl _) (by simp), own_set OR6.out _ _ (by dsimp only; omega), by simpa using hes6, HB6.out.setCell (by dsimp only; omega) _⟩
                case measure => simp [intOf]; omega
            · have hmi : ¬ ((m1 : Int) < 14) := by omega
              have HR0 := Lib.hid (HNO.out (j + 1) (by omega) (by rw [HNX.out]; exact lnR_d (fun q9 => hj0 q9.1) (fun q9 => h_node (HX0.out.trans q9.1)) (fun q9 => hm (by have := HML.out; have := q9.2; omega))))
              obtain ⟨r0, r1, r2, rf0, rf1, rf2⟩ := RB2.out
              clear HNX HOK HWZ HQ HX0 HCW WR
              go_wp2_with fail
              refine bodyPost_ret (v := .tuple #[.agg #[.slice none 0 0, .slice none 0 0, .int .i64 0], .bool false]) (by first | (simp [results, Tryz.results4, go_sem]; done) | simp [*, results, Tryz.results4, go_sem]) rfl (PsEnd.no HR0.out rfl (by repeat (first | with_reducible exact HB2.out | with_reducible refine Below.setCell ?_ (by first | omega | (simp; done) | (simp; omega)) _ | with_reducible refine Below.alloc ?_ (by first | omega | (simp; done) | (simp; omega)) _)))
          · have hb_tie : (x0.toList == [116, 105, 101]) = false := (str_is ((Lib.toList_data ⟨#[116, 105, 101]⟩).trans rfl)).trans (decide_eq_false h_tie)
            by_cases h_free : x0 = ⟨#[102, 114, 101, 101]⟩
            · have hb_free : (x0.toList == [102, 114, 101, 101]) = true := (str_is ((Lib.toList_data ⟨#[102, 114, 101, 101]⟩).trans rfl)).trans (decide_eq_true h_free)
              by_cases hm : m1 < 14
              · have hmi : ((m1 : Int) < 14) := by omega
                have HLC := Lib.hid (lnR_c (s := s) (i := j) (w := ws) (fun q9 => hj0 q9.1) (fun q9 => h_node (HX0.out.trans q9.1)) ⟨.inr (HX0.out.symm.trans h_free), by have := HML.out; omega⟩)
                have hTT := fun W h h9 => spec_l09ParseTie s ws A1 k1 c1 B1v m1 d1 (some ⟨g2, o2, none⟩) q d2 W (by omega) HQ.out hq1 HWZ.out h h9
                unfold shV at hTT
                have HTT := Lib.hid hTT
                have HAT := Lib.hid OS2.out.at_
                clear HCW HX0 HQ HWZ hTT
                go_wp2_with fail
                refine (HTT.out _ HAT.out WR.out).mono ?_
                rintro e w3 ⟨x, ok, rfl, hln, b3⟩
                have HR1 := HNX.out
                rw [HLC.out, hln] at HR1
                have RB3 := Lib.hid (RB2.out.below b3)
                have SB3 := Lib.hid (SB2.out.below b3)
                have HB3 := Lib.hid (HB2.out.trans (b3.mono HB2.out.size))
                have OS3 := Lib.hid (OS2.out.below b3)
                have OR3 := Lib.hid (own_below OR2.out b3)
                have z3 := b3.size
                obtain ⟨u, v, lo, hi9, fr⟩ := x
                try dsimp only at HR1
                have HR2 := Lib.hid HR1
                try dsimp only
                have hes3 : e1 ≤ w3.heap.size := Nat.le_trans hes2 z3
                have HROW := Lib.hid (show (w3.alloc (.cells #[.int .i64 u, .int .i64 v, .int .i64 lo, .int .i64 hi9, .bool fr] 42)).ownsRow e1 42 5 (.slice B1v m1 d1) m1 (cellsT s.ts) from own_below OS3.out.ties ((Below.refl _ _).alloc (Nat.le_refl _) _))
                have zS := SB3.out.lt
                have zR := RB3.out.lt
                clear b3 hln HR1 HNX HLC HTT HAT WR
                clear s0 s1 s2 sf0 sf1 sf2
                obtain ⟨s0, s1, s2, sf0, sf1, sf2⟩ := SB3.out
                go_wp2_with (at_builtin; (refine wpList_append_lies _ rfl _ _ 23 rfl e1 42 j0 (.agg #[.int .i64 0, .int .i64 0, .int .i64 0, .int .i64 0, .bool false]) 5 40 Tryz.underlying23 hj hy0 hy1 hy2 rfl (by decide) _ _ _ rfl (HROW.out.alloc _) ⟨_, 0, none⟩ 1 1 _ rfl rfl (World.news_of_block (heap_made9 _ _ _ (by first | rfl | simp))) (one_c5T _ _ _ _ _) (by decide) (by unfold maxLen; omega) (by omega) (by first | omega | (simp; omega)) _ rfl ?_))
                intro g3 cap w6 ho6 hg6 hat6 hl6
                have hrow : ∀ q9, (Value.slice B1v m1 d1).ownBlock = some q9 → e1 ≤ q9 := fun q9 h9 => (OS3.out.ties.lt q9 h9).1
                have OS6 := Lib.hid (OwnS.tie (t := ⟨u, v, lo, hi9, fr⟩) ((OS3.out.alloc (.cells #[.int .i64 u, .int .i64 v, .int .i64 lo, .int .i64 hi9, .bool fr] 42)).alloc (.cells #[.int .i64 u, .int .i64 v, .int .i64 lo, .int .i64 hi9, .bool fr] 42)) (by simp; omega) hg6 (by rw [cellsT_append]; exact ho6) (hat6.imp id (fun h9 => by rw [h9]; simp)))
                have SB6 := Lib.hid (((SB3.out.alloc _).alloc _).grown hg6 (fun h9 => by have := hrow _ h9; omega))
                have RB6 := Lib.hid (((RB3.out.alloc _).alloc _).grown hg6 (fun h9 => by have := hrow _ h9; omega))
                have OR6 := Lib.hid (kept_off ((OR3.out.alloc _).alloc _) hg6 LTL.out hrow)
                have hg6s := hg6.size
                simp at hg6s
                have HB6 := Lib.hid (show Below w.heap.size w w6 from ((HB3.out.alloc (by omega) (.cells #[.int .i64 u, .int .i64 v, .int .i64 lo, .int .i64 hi9, .bool fr] 42)).alloc (by simp; omega) (.cells #[.int .i64 u, .int .i64 v, .int .i64 lo, .int .i64 hi9, .bool fr] 42)).grown hg6 (by simp; omega) (fun r9 h9 => by have := hrow r9 h9; omega))
                have hes6 : e1 ≤ w6.heap.size := by omega
                clear ho6 hg6 hat6 hl6 hrow hg6s HROW
                clear s0 s1 s2 sf0 sf1 sf2
                obtain ⟨s0, s1, s2, sf0, sf1, sf2⟩ := SB6.out
                have nx1 : (w.heap.size = w.heap.size + 1) = False := eq_false (by omega)
                have nx2 : (w.heap.size + 1 = w.heap.size) = False := eq_false (by omega)
                cases ok with
                | false =>
                  have HR0 := Lib.hid (HNO.out (j + 1) (by omega) (by have h9 := HR2.out; simpa using h9))
                  obtain ⟨r0, r1, r2, rf0, rf1, rf2⟩ := RB6.out
                  go_wp2_with fail
                  refine bodyPost_ret (v := .tuple #[.agg #[.slice none 0 0, .slice none 0 0, .int .i64 0], .bool false]) (by first | (simp [results, Tryz.results4, go_sem]; done) | simp [*, results, Tryz.results4, go_sem]) rfl (PsEnd.no HR0.out rfl (by repeat (first | with_reducible exact HB6.out | with_reducible refine Below.setCell ?_ (by first | omega | (simp; done) | (simp; omega)) _ | with_reducible refine Below.alloc ?_ (by first | omega | (simp; done) | (simp; omega)) _)))
                | true =>
                  have HSTEP := Lib.hid (show psJ ls (j + 1) = some ⟨s.ns, s.ts ++ [⟨u, v, lo, hi9, fr⟩], s.h⟩ from by have h9 := HR2.out; simpa using h9)
                  go_wp2_with fail
                  go_roundw
                  case rel => exact ⟨j + 1, ⟨s.ns, s.ts ++ [⟨u, v, lo, hi9, fr⟩], s.h⟩, A1, k1, c1, some ⟨g3, 0, none⟩, m1 + 1, cap, zs, by omega, by go_num, HSTEP.out, RB6.out.off (by omega), SB6.out.set1, (OS6.out.set _ _ (by dsimp only; omega)).base (Nat.le_refl _) (by simp), own_set OR6.out _ _ (by dsimp only; omega), by simpa using hes6, HB6.out.setCell (by dsimp only; omega) _⟩
                  case measure => simp [intOf]; omega
              · have hmi : ¬ ((m1 : Int) < 14) := by omega
                have HR0 := Lib.hid (HNO.out (j + 1) (by omega) (by rw [HNX.out]; exact lnR_d (fun q9 => hj0 q9.1) (fun q9 => h_node (HX0.out.trans q9.1)) (fun q9 => hm (by have := HML.out; have := q9.2; omega))))
                obtain ⟨r0, r1, r2, rf0, rf1, rf2⟩ := RB2.out
                clear HNX HOK HWZ HQ HX0 HCW WR
                go_wp2_with fail
                refine bodyPost_ret (v := .tuple #[.agg #[.slice none 0 0, .slice none 0 0, .int .i64 0], .bool false]) (by first | (simp [results, Tryz.results4, go_sem]; done) | simp [*, results, Tryz.results4, go_sem]) rfl (PsEnd.no HR0.out rfl (by repeat (first | with_reducible exact HB2.out | with_reducible refine Below.setCell ?_ (by first | omega | (simp; done) | (simp; omega)) _ | with_reducible refine Below.alloc ?_ (by first | omega | (simp; done) | (simp; omega)) _)))
            · have hb_free : (x0.toList == [102, 114, 101, 101]) = false := (str_is ((Lib.toList_data ⟨#[102, 114, 101, 101]⟩).trans rfl)).trans (decide_eq_false h_free)
              have HR0 := Lib.hid (HNO.out (j + 1) (by omega) (by rw [HNX.out]; exact lnR_d (fun q9 => hj0 q9.1) (fun q9 => h_node (HX0.out.trans q9.1)) (fun q9 => q9.1.elim (fun h9 => h_tie (HX0.out.trans h9)) (fun h9 => h_free (HX0.out.trans h9)))))
              obtain ⟨r0, r1, r2, rf0, rf1, rf2⟩ := RB2.out
              clear HNX HOK HWZ HQ HX0 HCW WR
              go_wp2_with fail
              refine bodyPost_ret (v := .tuple #[.agg #[.slice none 0 0, .slice none 0 0, .int .i64 0], .bool false]) (by first | (simp [results, Tryz.results4, go_sem]; done) | simp [*, results, Tryz.results4, go_sem]) rfl (PsEnd.no HR0.out rfl (by repeat (first | with_reducible exact HB2.out | with_reducible refine Below.setCell ?_ (by first | omega | (simp; done) | (simp; omega)) _ | with_reducible refine Below.alloc ?_ (by first | omega | (simp; done) | (simp; omega)) _)))
    · have hjl : ¬ ((j : Int) < (n : Int)) := by omega
      have hjn : j = n := by omega
      subst hjn
      have hfin := HSM.out s HPS.out
      have hok := psJ_ok HSZ.out HPS.out
      have hkl := OS.out.ln
      have hml := OS.out.lt
      have hSO := fun W h => spec_ShowOk s A1 k1 c1 B1v m1 d1 W hok.shB h
      have hFS := fun W h => spec_FormatShow s A1 k1 c1 B1v m1 d1 W hok.shB h
      unfold shV at hSO hFS
      have HSO := Lib.hid hSO
      have HFS := Lib.hid hFS
      have HFIN := Lib.hid hfin
      clear hfin hok hkl hml hSO hFS
      obtain ⟨s0, s1, s2, sf0, sf1, sf2⟩ := SB.out
      go_wp2_with fail
      refine (HSO.out _ OS.out.at_).mono ?_
      rintro e w2 ⟨rfl, b2⟩
      have RB2 := Lib.hid (RB.out.below b2)
      have SB2 := Lib.hid (SB.out.below b2)
      have OS2 := Lib.hid ((OS.out.below b2).base (Nat.le_refl _) b2.size)
      have HB2 := Lib.hid (HB.out.trans (b2.mono HB.out.size))
      clear b2 s0 s1 s2 sf0 sf1 sf2
      have nx1 : (w.heap.size = w.heap.size + 1) = False := eq_false (by omega)
      have nx2 : (w.heap.size + 1 = w.heap.size) = False := eq_false (by omega)
      obtain ⟨s0, s1, s2, sf0, sf1, sf2⟩ := SB2.out
      obtain ⟨bo, hbo⟩ : ∃ b, b = shR s := ⟨_, rfl⟩
      rw [← hbo]
      cases bo with
      | false =>
        have HR0 := Lib.hid (show psR t = (gS0, false) from by rw [HFIN.out, ← hbo, if_neg (by simp)])
        obtain ⟨r0, r1, r2, rf0, rf1, rf2⟩ := RB2.out
        clear hbo
        go_wp2_with fail
        refine bodyPost_ret (v := .tuple #[.agg #[.slice none 0 0, .slice none 0 0, .int .i64 0], .bool false]) (by first | (simp [results, Tryz.results4, go_sem]; done) | simp [*, results, Tryz.results4, go_sem]) rfl (PsEnd.no HR0.out rfl (by repeat (first | with_reducible exact HB2.out | with_reducible refine Below.setCell ?_ (by first | omega | (simp; done) | (simp; omega)) _ | with_reducible refine Below.alloc ?_ (by first | omega | (simp; done) | (simp; omega)) _)))
      | true =>
        have HBO := Lib.hid hbo.symm
        clear hbo
        by_cases hft : fmtS s = t
        · have HR0 := Lib.hid (show psR t = (s, true) from by rw [HFIN.out, if_pos ⟨HBO.out, hft⟩])
          have hq := bytes_same hft
          clear hft
          go_wp2_with fail
          refine (HFS.out _ OS2.out.at_).mono ?_
          rintro e w3 ⟨rfl, b3⟩
          have RB3 := Lib.hid (RB2.out.below b3)
          have SB3 := Lib.hid (SB2.out.below b3)
          have OS3 := Lib.hid ((OS2.out.below b3).base (Nat.le_refl _) b3.size)
          have HB3 := Lib.hid (HB2.out.trans (b3.mono HB2.out.size))
          clear b3 s0 s1 s2 sf0 sf1 sf2
          obtain ⟨s0, s1, s2, sf0, sf1, sf2⟩ := SB3.out
          obtain ⟨r0, r1, r2, rf0, rf1, rf2⟩ := RB3.out
          have zR := RB3.out.lt
          go_wp2_with fail
          refine bodyPost_ret (v := .tuple #[.agg #[.slice A1 k1 c1, .slice B1v m1 d1, .int .i64 s.h], .bool true]) (by first | (simp [results, Tryz.results4, go_sem]; done) | simp [*, results, Tryz.results4, go_sem]) rfl ⟨A1, k1, c1, B1v, m1, d1, zs, by rw [HR0.out], ?_, (by repeat (first | with_reducible exact HB3.out | with_reducible refine Below.setCell ?_ (by first | omega | (simp; done) | (simp; omega)) _ | with_reducible refine Below.alloc ?_ (by first | omega | (simp; done) | (simp; omega)) _))⟩
          rw [HR0.out]
          exact OwnS.base (hi := w3.heap.size) (lo := e1) (((OS3.out.set _ _ (by dsimp only; omega)).set _ _ (by dsimp only; omega)).set _ _ (by dsimp only; omega)) (by omega) (by simp)
        · have HR0 := Lib.hid (show psR t = (gS0, false) from by rw [HFIN.out, if_neg (fun h9 => hft h9.2)])
          have hq := bytes_other hft
          clear hft
          go_wp2_with fail
          refine (HFS.out _ OS2.out.at_).mono ?_
          rintro e w3 ⟨rfl, b3⟩
          have RB3 := Lib.hid (RB2.out.below b3)
          have HB3 := Lib.hid (HB2.out.trans (b3.mono HB2.out.size))
          clear b3 s0 s1 s2 sf0 sf1 sf2
          obtain ⟨r0, r1, r2, rf0, rf1, rf2⟩ := RB3.out
          go_wp2_with fail
          refine bodyPost_ret (v := .tuple #[.agg #[.slice none 0 0, .slice none 0 0, .int .i64 0], .bool false]) (by first | (simp [results, Tryz.results4, go_sem]; done) | simp [*, results, Tryz.results4, go_sem]) rfl (PsEnd.no HR0.out rfl (by repeat (first | with_reducible exact HB3.out | with_reducible refine Below.setCell ?_ (by first | omega | (simp; done) | (simp; omega)) _ | with_reducible refine Below.alloc ?_ (by first | omega | (simp; done) | (simp; omega)) _)))

end Go.Proofs.YtgajodcgedhikaaGreatDoor

