/-
  WALK of spec.ShortestFrom.
-/
import Derived.Test.YtdjaiijgdflopaaGrR
namespace Go.Proofs.Ytdjaiijgdflopaa
open Go.RowKit
set_option linter.unusedVariables false
set_option linter.unusedSimpArgs false

def srcS (u : Nat) : St := ⟨fun j => decide (j = u), fun _ => 0, fun _ => 0⟩
def distZ (s : St) (j : Nat) : List Int := (List.range j).map (distE s)
theorem distL_eq (s : St) (j : Nat) : distL s j = (distZ s j).map intV := by simp [distL, distZ]
theorem distZ_length (s : St) (j : Nat) : (distZ s j).length = j := by simp [distZ]
def shortR (n : Int) (es : List GE) (z : Int) : List Int × Bool :=
  if (okG n es && decide (0 ≤ z ∧ z < n)) = true ∧ (roundsE es (srcS z.toNat) n.toNat).2 = -1 then (distZ (roundsE es (srcS z.toNat) n.toNat).1 n.toNat, true) else ([], false)
theorem Try.info4 : (Try.prog.info? 4).map (fun i => (i.zero, i.size, i.bytes)) = some (some (.bool false), 1, 1) := by kernel_rfl
theorem ret_ib {A : Option Addr} {m m' cb : Nat} {b b' : Bool} (h : m = m') (hb : b = b') : Ending.returned (.tuple #[.slice A m cb, .bool b]) = .returned (.tuple #[.slice A m' cb, .bool b']) := by rw [h, hb]

/-- A made slice of equal values, as a row. -/
theorem row_made {w : World} {B e g n cap : Nat} {x : Value} (h : w.ownsRow B e 1 (.slice (some ⟨g, 0, none⟩) n cap) n (List.replicate n x)) (hg : g < w.heap.size) : RowF w g 0 n (fun _ => x) :=
  ⟨hg, fun j hj => by rw [Nat.zero_add, h.cellAt j (by omega), List.getElem?_replicate, if_pos hj], fun j hj => by rw [Nat.zero_add]; exact h.frozenAt j⟩
theorem RowF.rowAt {w : World} {g n : Nat} {f : Nat → Value} {xs : List Value} (h : RowF w g 0 n f) (hl : xs.length = n) (hx : ∀ j (hj : j < xs.length), xs[j] = f j) : RowAt w (some ⟨g, 0, none⟩) xs := fun _ =>
  ⟨g, 0, rfl, h.lt, fun j hj => (h.cell j (by omega)).trans (by rw [hx j hj])⟩

def mixD (s : St) (j : Nat) : Nat → Value := fun i => if i < j then intV (distE s i) else intV (s.nu i)
theorem mixD_zero (s : St) : mixD s 0 = fI s.nu := by funext i; simp [mixD, fI, intV]
theorem mixD_set {s : St} {j : Nat} (h : distE s j = 1000000) : upf (mixD s j) j (.int .i64 1000000) = mixD s (j + 1) := by
  funext i; unfold upf mixD
  by_cases e : i = j
  · subst e; rw [if_pos rfl, if_pos (by omega), h]; rfl
  · rw [if_neg e]
    by_cases l : i < j
    · rw [if_pos l, if_pos (by omega)]
    · rw [if_neg l, if_neg (by omega)]
theorem mixD_keep {s : St} {j : Nat} (h : distE s j = s.nu j) : mixD s j = mixD s (j + 1) := by
  funext i; unfold mixD
  by_cases e : i = j
  · subst e; rw [if_neg (by omega), if_pos (by omega), h]
  · by_cases l : i < j
    · rw [if_pos l, if_pos (by omega)]
    · rw [if_neg l, if_neg (by omega)]

theorem shortR_no {n : Int} {es : List GE} {z : Int} (h : (okG n es && decide (0 ≤ z ∧ z < n)) = false) : shortR n es z = ([], false) := by
  unfold shortR; rw [if_neg (by rw [h]; simp)]
theorem shortR_neg {n u : Nat} {es : List GE} (h : (roundsE es (srcS u) n).2 ≠ -1) : shortR n es u = ([], false) := by
  unfold shortR; rw [if_neg]; intro h2; exact h (by simpa using h2.2)
theorem shortR_yes {n u : Nat} {es : List GE} (h0 : okG n es = true) (hu : u < n) (h : (roundsE es (srcS u) n).2 = -1) : shortR n es u = (distZ (roundsE es (srcS u) n).1 n, true) := by
  unfold shortR
  rw [if_pos ⟨by rw [h0]; simp; omega, by simpa using h⟩]; simp

set_option maxRecDepth 100000 in
set_option maxHeartbeats 4000000 in
theorem spec_ShortestFrom_new (n : Int) (es : List GE) (A : Option Addr) (k c : Nat) (z : Int) (w : World) (hn : es.length = k) (hk : k ≤ 1048576) (hr : EdgeAt w A es) :
    Calls Try.prog 78 #[grV n A k c, .int .i64 z] w fun e w' =>
      ∃ B m cb, e = .returned (.tuple #[.slice B m cb, .bool (shortR n es z).2]) ∧ m = (shortR n es z).1.length ∧ RowAt w' B ((shortR n es z).1.map intV) ∧ (∀ g o, B = some ⟨g, o, none⟩ → w.heap.size ≤ g) ∧ Below w.heap.size w w' := by
  have hg := fun W h => spec_GraphOk n es A k c W hn hk h
  have HR := Lib.hid hr
  have HL := Lib.hid hn
  clear hr hn
  obtain ⟨ok, hok⟩ : ∃ b, b = okG n es := ⟨_, rfl⟩
  rw [← hok] at hg
  have HG := Lib.hid hg
  have HO := Lib.hid hok
  clear hok hg
  have hin := l01In_any z 0 (n - 1)
  have HI := Lib.hid hin
  clear hin
  cases ok with
  | false =>
    unfold grV at HG ⊢
    go_enter Try.func78, Try.ntmps78
    go_wp2_with fail
    refine (HG.out _ (HR.out.below (by repeat (first | exact Below.refl _ _ | refine below_step (by assumption) (by first | omega | (simp; done) | (simp; omega)) ?_ | refine below_drewN ?_ _ | refine Below.drew ?_ | refine Below.setCell ?_ (by first | omega | (simp; done) | (simp; omega)) _ | refine Below.alloc ?_ (by first | omega | (simp; done) | (simp; omega)) _)))).mono ?_
    rintro e w1 ⟨rfl, b1⟩
    go_wp2_with fail
    go_ret2
    have h := shortR_no (n := n) (es := es) (z := z) (by rw [← HO.out]; rfl)
    exact ⟨none, 0, 0, by rw [h]; rfl, by rw [h]; rfl, by rw [h]; exact fun hx => by simp at hx, (fun g o e => by cases e), (by repeat (first | exact Below.refl _ _ | refine below_step (by assumption) (by first | omega | (simp; done) | (simp; omega)) ?_ | refine below_drewN ?_ _ | refine Below.drew ?_ | refine Below.setCell ?_ (by first | omega | (simp; done) | (simp; omega)) _ | refine Below.alloc ?_ (by first | omega | (simp; done) | (simp; omega)) _))⟩
  | true =>
    have hrng := okG_rng HO.out.symm
    obtain ⟨N, rfl⟩ : ∃ N : Nat, n = N := ⟨n.toNat, by omega⟩
    have hN8 : N ≤ 8 := by omega
    have hk80 : k ≤ 80 := by have := HL.out; omega
    clear hrng
    by_cases hz : 0 ≤ z ∧ z < (N : Int)
    · obtain ⟨u, rfl⟩ : ∃ u : Nat, z = u := ⟨z.toNat, by omega⟩
      have hu : u < N := by omega
      have hui : (u : Int) < (N : Int) := by omega
      have hin := HI.out
      rw [show (decide ((0 : Int) ≤ (u : Int)) && decide ((u : Int) ≤ (N : Int) - 1)) = true from by simp; omega] at hin
      have HI := Lib.hid hin
      clear hin hz
      obtain ⟨i0, hi, hz0, hz1, hz2⟩ := info_parts Try.info3
      obtain ⟨j0, hj, hj0, hj1, hj2⟩ := info_parts Try.info4
      have hb2 : i0.bytes * N ≤ 281474976710656 := by rw [hz2]; omega
      have hb3 : j0.bytes * N ≤ 281474976710656 := by rw [hj2]; omega
      unfold grV at HG ⊢
      go_enter Try.func78, Try.ntmps78
      go_wp2_with fail
      refine (HG.out _ (HR.out.below (by repeat (first | exact Below.refl _ _ | refine below_step (by assumption) (by first | omega | (simp; done) | (simp; omega)) ?_ | refine below_drewN ?_ _ | refine Below.drew ?_ | refine Below.setCell ?_ (by first | omega | (simp; done) | (simp; omega)) _ | refine Below.alloc ?_ (by first | omega | (simp; done) | (simp; omega)) _)))).mono ?_
      rintro e w1 ⟨rfl, b1⟩
      have ka1 : w1.cell? ⟨w.heap.size, 0, none⟩ = some (.int .i64 (N : Int)) := (b1.cell (p := ⟨w.heap.size, 0, none⟩) (by first | omega | (simp; done) | (simp; omega))).trans (by first | assumption | go_simp)
      have kb1 : w1.cell? ⟨w.heap.size, 1, none⟩ = some (.slice A k c) := (b1.cell (p := ⟨w.heap.size, 1, none⟩) (by first | omega | (simp; done) | (simp; omega))).trans (by first | assumption | go_simp)
      have sz1 : w.heap.size < w1.heap.size := Nat.lt_of_lt_of_le (by first | omega | (simp; done) | (simp; omega)) b1.size
      have B1 : Below w.heap.size w w1 := (by repeat (first | exact Below.refl _ _ | refine below_step (by assumption) (by first | omega | (simp; done) | (simp; omega)) ?_ | refine below_drewN ?_ _ | refine Below.drew ?_ | refine Below.setCell ?_ (by first | omega | (simp; done) | (simp; omega)) _ | refine Below.alloc ?_ (by first | omega | (simp; done) | (simp; omega)) _))
      clear b1
      go_wp2_with fail
      refine (HI.out _).mono ?_
      rintro e w2 ⟨rfl, rfl⟩
      go_wp2_with (at_make; refine wpList_make_full _ rfl _ _ 27 rfl w1.heap.size 3 i0 (.int .i64 0) 1 Try.underlying27 hi hz0 hz1 .i64 .i64 _ _ N rfl rfl rfl rfl hb2 (by unfold maxLen; omega) (Nat.le_refl _) ?_)
      intro w2 h2 g2
      have b2 : Below w1.heap.size w1 w2 := (Below.refl _ w1).grown g2 (Nat.le_refl _) (fun k hk => by cases hk)
      have hl2 := (h2.lt _ rfl).2
      have ka2 := (b2.cell (p := ⟨w.heap.size, 0, none⟩) (by dsimp only; omega)).trans ka1
      have kb2 := (b2.cell (p := ⟨w.heap.size, 1, none⟩) (by dsimp only; omega)).trans kb1
      have B2 : Below w.heap.size w w2 := B1.trans (b2.mono (by omega))
      have R2 : RowF w2 w1.heap.size 0 N (fun _ => .int .i64 0) := row_made (by rw [toList_madeCells_one] at h2; exact h2) hl2
      clear g2 h2 b2
      go_wp2_with (at_make; refine wpList_make_full _ rfl _ _ 27 rfl w2.heap.size 3 i0 (.int .i64 0) 1 Try.underlying27 hi hz0 hz1 .i64 .i64 _ _ N rfl rfl rfl rfl hb2 (by unfold maxLen; omega) (Nat.le_refl _) ?_)
      intro w3 h3 g3
      have b3 : Below w2.heap.size w2 w3 := (Below.refl _ w2).grown g3 (Nat.le_refl _) (fun k hk => by cases hk)
      have hl3 := (h3.lt _ rfl).2
      have ka3 := (b3.cell (p := ⟨w.heap.size, 0, none⟩) (by dsimp only; omega)).trans ka2
      have kb3 := (b3.cell (p := ⟨w.heap.size, 1, none⟩) (by dsimp only; omega)).trans kb2
      have B3 : Below w.heap.size w w3 := B2.trans (b3.mono (by omega))
      have R3 := R2.below b3 hl2
      have S3 : RowF w3 w2.heap.size 0 N (fun _ => .int .i64 0) := row_made (by rw [toList_madeCells_one] at h3; exact h3) hl3
      clear g3 h3 b3 R2
      go_wp2_with (at_make; refine wpList_make_full _ rfl _ _ 116 rfl w3.heap.size 4 j0 (.bool false) 1 Try.underlying116 hj hj0 hj1 .i64 .i64 _ _ N rfl rfl rfl rfl hb3 (by unfold maxLen; omega) (Nat.le_refl _) ?_)
      intro w4 h4 g4
      have b4 : Below w3.heap.size w3 w4 := (Below.refl _ w3).grown g4 (Nat.le_refl _) (fun k hk => by cases hk)
      have hl4 := (h4.lt _ rfl).2
      have ka4 := (b4.cell (p := ⟨w.heap.size, 0, none⟩) (by dsimp only; omega)).trans ka3
      have kb4 := (b4.cell (p := ⟨w.heap.size, 1, none⟩) (by dsimp only; omega)).trans kb3
      have B4 : Below w.heap.size w w4 := B3.trans (b4.mono (by omega))
      have R4 := R3.below b4 (by omega)
      have S4 := S3.below b4 hl3
      have T4 : RowF w4 w3.heap.size 0 N (fun _ => .bool false) := row_made (by rw [toList_madeCells_one] at h4; exact h4) hl4
      clear g4 h4 b4 R3 S3 ka1 kb1 ka2 kb2 ka3 kb3
      obtain ⟨gd, hgd⟩ : ∃ g, g = w1.heap.size := ⟨_, rfl⟩
      obtain ⟨gl, hgl⟩ : ∃ g, g = w2.heap.size := ⟨_, rfl⟩
      obtain ⟨gk, hgk⟩ : ∃ g, g = w3.heap.size := ⟨_, rfl⟩
      rw [← hgd] at R4 hl2 sz1 ⊢
      rw [← hgl] at S4 hl2 hl3 ⊢
      rw [← hgk] at T4 hl3 hl4 ⊢
      clear hgd hgl hgk B1 B2 B3
      have f1 : w4.cell? ⟨gk, u, none⟩ = some (.bool false) := by simpa using T4.cell u hu
      have r1 : w4.frozen? ⟨gk, u, none⟩ = false := by simpa using T4.free u hu
      have n1 : (gd = gk) = False := eq_false (by omega)
      have n2 : (gk = gd) = False := eq_false (by omega)
      have n3 : (gl = gk) = False := eq_false (by omega)
      have n4 : (gk = gl) = False := eq_false (by omega)
      have n5 : (w.heap.size = gk) = False := eq_false (by omega)
      have n6 : (gk = w.heap.size) = False := eq_false (by omega)
      have hS : SpAt (w4.setCell ⟨gk, u, none⟩ (.bool true)) gd gl gk N (srcS u) := by
        refine ⟨(R4.other (by dsimp only; omega) _).congr (fun j hj => rfl), (S4.other (by dsimp only; omega) _).congr (fun j hj => rfl), (T4.store (i := u) (by omega) hu _).congr (fun j hj => ?_)⟩
        unfold upf fB srcS
        dsimp only
        by_cases e : j = u
        · rw [if_pos e, decide_eq_true e]
        · rw [if_neg e, decide_eq_false e]
      have hB5 : Below w.heap.size w (w4.setCell ⟨gk, u, none⟩ (.bool true)) := B4.setCell (by dsimp only; omega) _
      have HS := Lib.hid hS
      have HB5 := Lib.hid hB5
      clear R4 S4 T4 hS hB5 B4
      go_wp2_with fail
      obtain ⟨w5, hw5⟩ : ∃ w5, w5 = w4.setCell ⟨gk, u, none⟩ (.bool true) := ⟨_, rfl⟩
      have ka5 : w5.cell? ⟨w.heap.size, 0, none⟩ = some (.int .i64 (N : Int)) := by rw [hw5]; go_simp
      have kb5 : w5.cell? ⟨w.heap.size, 1, none⟩ = some (.slice A k c) := by rw [hw5]; go_simp
      have hl5 : gk < w5.heap.size := by rw [hw5]; simpa [World.setCell] using hl4
      rw [← hw5]
      have hS5 := HS.out
      have hB5 := HB5.out
      rw [← hw5] at hS5 hB5
      have HS := Lib.hid hS5
      clear hw5 hS5 HB5 f1 r1 ka4 kb4 hl4 n1 n2 n3 n4 n5 n6
      have hgw : w.heap.size < gd := sz1
      go_loopw [9] (fun i wr => ∃ q : Nat, q ≤ N ∧ i = .int .i64 q ∧ SpAt wr gd gl gk N (roundsE es (srcS u) q).1 ∧ Below gd w5 wr ∧ (q = 0 ∨ (roundsE es (srcS u) q).2 ≠ -1)) (fun i _ => N - (intOf i).toNat)
      case atStart => exact ⟨0, Nat.zero_le _, rfl, HS.out, Below.refl _ _, .inl rfl⟩
      case round =>
        obtain ⟨q, hq, rfl, hsp, hbw, hst⟩ := hrel
        have kar := (hbw.cell (p := ⟨w.heap.size, 0, none⟩) hgw).trans ka5
        have kbr := (hbw.cell (p := ⟨w.heap.size, 1, none⟩) hgw).trans kb5
        have HST := Lib.hid hst
        clear hst
        by_cases hlt : q < N
        · obtain ⟨sq, hsq⟩ : ∃ s, s = (roundsE es (srcS u) q).1 := ⟨_, rfl⟩
          have hnx : roundsE es (srcS u) (q + 1) = passTo es sq es.length := by rw [hsq]; rfl
          rw [HL.out] at hnx
          rw [← hsq] at hsp
          have hBr : Below w.heap.size w wr := hB5.trans (hbw.mono (by omega))
          have hcl := l03Round_any N es A k c gd gl gk N N N sq w wr HL.out HO.out.symm HR.out hBr (by omega) hsp (by omega) (by omega)
          unfold grV at hcl
          have hrg := rounds_rng es (srcS u) (q + 1)
          rw [hnx] at hrg
          have HNX := Lib.hid hnx
          obtain ⟨ch, hch⟩ : ∃ ch, ch = (passTo es sq k).2 := ⟨_, rfl⟩
          rw [← hch] at hcl hrg
          have HCH := Lib.hid hch
          have HCL := Lib.hid hcl
          clear hsp hsq hnx hch hcl
          by_cases h1 : ch = -1
          · have hneg : ch < 0 := by omega
            have H1 := Lib.hid h1
            clear h1 hrg
            go_wp2_with (go_at_call 93; refine HCL.out.mono ?_; rintro e w6 ⟨rfl, hs6, hb6⟩)
            obtain ⟨s6, hs6e⟩ : ∃ s, s = (passTo es sq k).1 := ⟨_, rfl⟩
            rw [← hs6e] at hs6
            have HS6 := Lib.hid hs6e
            have hM0 : RowF w6 gd 0 N (mixD s6 0) := by rw [mixD_zero]; exact hs6.nu
            have hK0 : RowF w6 gk 0 N (fB s6.kn) := hs6.kn
            have HM0 := Lib.hid hM0
            have HK0 := Lib.hid hK0
            have HB6 := Lib.hid hb6
            clear hs6e hM0 hK0 hs6 hb6
            go_loopw [48] (fun i wx => ∃ j : Nat, j ≤ N ∧ i = .int .i64 j ∧ RowF wx gd 0 N (mixD s6 j) ∧ RowF wx gk 0 N (fB s6.kn) ∧ Below gd w6 wx) (fun i _ => N - (intOf i).toNat)
            case atStart => exact ⟨0, Nat.zero_le _, rfl, HM0.out, HK0.out, Below.refl _ _⟩
            case round =>
              obtain ⟨j, hj, rfl, hD, hK, hbx⟩ := hrel
              by_cases hlt2 : j < N
              · obtain ⟨bk, hbk⟩ : ∃ x, x = s6.kn j := ⟨_, rfl⟩
                obtain ⟨nu, hnu⟩ : ∃ x, x = s6.nu j := ⟨_, rfl⟩
                have f1 : wr.cell? ⟨gk, j, none⟩ = some (.bool bk) := by rw [hbk]; simpa [fB] using hK.cell j hlt2
                have f2 : wr.cell? ⟨gd, j, none⟩ = some (.int .i64 nu) := by rw [hnu]; simpa [mixD, intV] using hD.cell j hlt2
                have r2 : wr.frozen? ⟨gd, j, none⟩ = false := by simpa using hD.free j hlt2
                have hdst : ∀ d, d = (if bk = true then (if nu ≤ 1000000 then nu else 1000000) else 1000000) → distE s6 j = d := by intro d hd; rw [hd, hbk, hnu]; rfl
                have HDS := Lib.hid hdst
                have HNU := Lib.hid hnu
                have HD := Lib.hid hD
                have HK := Lib.hid hK
                have hgdk : gk ≠ gd := by omega
                clear hdst hbk hnu hD hK
                cases bk with
                | false =>
                  go_wp2_with fail
                  go_roundw
                  case rel => exact ⟨j + 1, by omega, by go_num, by rw [← mixD_set (HDS.out _ rfl)]; exact HD.out.store (by omega) hlt2 _, HK.out.other (by dsimp only; omega) _, hbx.setCell (by dsimp only; omega) _⟩
                  case measure => simp [intOf]; omega
                | true =>
                  by_cases hle : nu ≤ 1000000
                  · have hle2 : ¬ (1000000 < nu) := by omega
                    have HLE := Lib.hid hle
                    go_wp2_with fail
                    go_roundw
                    case rel => exact ⟨j + 1, by omega, by go_num, by rw [← mixD_keep (by rw [HDS.out _ rfl, if_pos rfl, if_pos HLE.out, HNU.out])]; exact HD.out, HK.out, hbx⟩
                    case measure => simp [intOf]; omega
                  · have hle2 : 1000000 < nu := by omega
                    have HLE := Lib.hid hle
                    go_wp2_with fail
                    go_roundw
                    case rel => exact ⟨j + 1, by omega, by go_num, by rw [← mixD_set (by rw [HDS.out _ rfl, if_pos rfl, if_neg HLE.out])]; exact HD.out.store (by omega) hlt2 _, HK.out.other (by dsimp only; omega) _, hbx.setCell (by dsimp only; omega) _⟩
                    case measure => simp [intOf]; omega
              · have : j = N := by omega
                subst this
                go_wp2_with fail
                go_ret2
                have hst : roundsE es (srcS u) j = passTo es sq k := by
                  have := rounds_still es (srcS u) q (by rw [HNX.out, ← HCH.out]; exact H1.out) (j - (q + 1))
                  rw [show q + 1 + (j - (q + 1)) = j from by omega, HNX.out] at this
                  exact this
                have h := shortR_yes (n := j) (u := u) (es := es) HO.out.symm hu (by rw [hst, ← HCH.out]; exact H1.out)
                rw [hst, ← HS6.out] at h
                refine ⟨some ⟨gd, 0, none⟩, j, j, by rw [h]; rfl, by rw [h]; exact (distZ_length _ _).symm, ?_, fun g o e => by (injection e with e; injection e with e; omega), hB5.trans ((hbw.trans (HB6.out.trans hbx)).mono (by omega))⟩
                rw [h]
                refine hD.rowAt (by simp [distZ]) (fun i hi => ?_)
                have hij : i < j := by simpa [distZ] using hi
                simp [distZ, mixD, hij]
          · have hneg : ¬ (ch < 0) := by
              rcases hrg with h | ⟨j, e, h, _⟩ <;> omega
            have H1 := Lib.hid h1
            clear h1 hrg
            go_wp2_with (go_at_call 93; refine HCL.out.mono ?_; rintro e w6 ⟨rfl, hs6, hb6⟩)
            go_roundw
            case rel => exact ⟨q + 1, by omega, by go_num, by rw [HNX.out]; exact hs6, hbw.trans hb6, .inr (by rw [HNX.out, ← HCH.out]; exact H1.out)⟩
            case measure => simp [intOf]; omega
        · have : q = N := by omega
          subst this
          go_wp2_with fail
          go_ret2
          have h := shortR_neg (n := q) (u := u) (es := es) (by rcases HST.out with h | h; · omega
                                                                · exact h)
          exact ⟨none, 0, 0, by rw [h]; rfl, by rw [h]; rfl, by rw [h]; exact fun hx => by simp at hx, (fun g o e => by cases e), hB5.trans (hbw.mono (by omega))⟩
    · have hin := HI.out
      rw [show (decide ((0 : Int) ≤ z) && decide (z ≤ (N : Int) - 1)) = false from by simp; omega] at hin
      have HI := Lib.hid hin
      have HZ := Lib.hid hz
      clear hin hz
      unfold grV at HG ⊢
      go_enter Try.func78, Try.ntmps78
      go_wp2_with fail
      refine (HG.out _ (HR.out.below (by repeat (first | exact Below.refl _ _ | refine below_step (by assumption) (by first | omega | (simp; done) | (simp; omega)) ?_ | refine below_drewN ?_ _ | refine Below.drew ?_ | refine Below.setCell ?_ (by first | omega | (simp; done) | (simp; omega)) _ | refine Below.alloc ?_ (by first | omega | (simp; done) | (simp; omega)) _)))).mono ?_
      rintro e w1 ⟨rfl, b1⟩
      have ka1 : w1.cell? ⟨w.heap.size, 0, none⟩ = some (.int .i64 (N : Int)) := (b1.cell (p := ⟨w.heap.size, 0, none⟩) (by first | omega | (simp; done) | (simp; omega))).trans (by first | assumption | go_simp)
      have sz1 : w.heap.size < w1.heap.size := Nat.lt_of_lt_of_le (by first | omega | (simp; done) | (simp; omega)) b1.size
      have B1 : Below w.heap.size w w1 := (by repeat (first | exact Below.refl _ _ | refine below_step (by assumption) (by first | omega | (simp; done) | (simp; omega)) ?_ | refine below_drewN ?_ _ | refine Below.drew ?_ | refine Below.setCell ?_ (by first | omega | (simp; done) | (simp; omega)) _ | refine Below.alloc ?_ (by first | omega | (simp; done) | (simp; omega)) _))
      clear b1
      go_wp2_with fail
      refine (HI.out _).mono ?_
      rintro e w2 ⟨rfl, rfl⟩
      go_wp2_with fail
      go_ret2
      have h := shortR_no (n := (N : Int)) (es := es) (z := z) (by rw [← HO.out, decide_eq_false HZ.out]; rfl)
      exact ⟨none, 0, 0, by rw [h]; rfl, by rw [h]; rfl, by rw [h]; exact fun hx => by simp at hx, (fun g o e => by cases e), B1⟩

theorem spec_ShortestFrom (n : Int) (es : List GE) (A : Option Addr) (k c : Nat) (z : Int) (w : World) (hn : es.length = k) (hk : k ≤ 1048576) (hr : EdgeAt w A es) :
    Calls Try.prog 78 #[grV n A k c, .int .i64 z] w fun e w' =>
      ∃ B m cb, e = .returned (.tuple #[.slice B m cb, .bool (shortR n es z).2]) ∧ m = (shortR n es z).1.length ∧ RowAt w' B ((shortR n es z).1.map intV) ∧ Below w.heap.size w w' :=
  (spec_ShortestFrom_new n es A k c z w hn hk hr).mono fun e w' ⟨B, m, cb, h1, h2, h3, _, h5⟩ => ⟨B, m, cb, h1, h2, h3, h5⟩

end Go.Proofs.Ytdjaiijgdflopaa
