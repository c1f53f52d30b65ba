/-
  laws.FnSchedules HOLDS: whatever the bytes that the network and the times are drawn of: the earliest and the latest times of a consistent network are schedules, and no schedule leaves the windows; an inconsistent one has a conflict; the bytes read as they did. No condition.
-/
import Derived.Test.YtnhdfnfiicioiaaRows
import Derived.Test.YtnhdfnfiicioiaaFrame
import Derived.Test.YtnhdfnfiicioiaaBdSmK
import Derived.Test.YtnhdfnfiicioiaaImS
import Derived.Deep.RegionHeld3
import Derived.Deep.CutRange
import Derived.ProofKit
import Derived.Lib.SmallJoins
namespace Go.Proofs.Ytnhdfnfiicioiaa
open Go.RowKit Go.ChangeShapes Go.WideShapes Go.ChangeAt Go.WideMaps Go.WideElems
set_option linter.unusedVariables false
set_option linter.unusedSimpArgs false

theorem ints_con {cs : List Int} {w : World} {f : FuncId} {args : Array Value} {zs : List Int} {q : Nat} (h1 : zs = cs) (h2 : q = zs.length) (h : Calls Try.prog f args w fun e w' => ∃ B m cb, e = .returned (.slice B m cb) ∧ m = cs.length ∧ w'.ownsRow w.heap.size 3 1 (.slice B m cb) m (cs.map intV) ∧ Below w.heap.size w w') :
    Calls Try.prog f args w fun e w' => ∃ B cb, e = .returned (.slice B q cb) ∧ w'.ownsRow w.heap.size 3 1 (.slice B q cb) q (zs.map intV) ∧ Below w.heap.size w w' :=
  h.mono fun e w' ⟨A, k, c, e1, e2, e3, e4⟩ => by
    subst h1 h2 e2
    exact ⟨A, c, e1, e3, e4⟩

theorem times_con {r : List Int × Bool} {w : World} {f : FuncId} {args : Array Value} {zs : List Int} {ok : Bool} {q : Nat} (h1 : zs = r.1) (h0 : ok = r.2) (h2 : q = zs.length) (h : Calls Try.prog f args w fun e w' => ∃ B m cb, e = .returned (.tuple #[.slice B m cb, .bool r.2]) ∧ m = r.1.length ∧ w'.ownsRow w.heap.size 3 1 (.slice B m cb) m (r.1.map intV) ∧ Below w.heap.size w w') :
    Calls Try.prog f args w fun e w' => ∃ B cb, e = .returned (.tuple #[.slice B q cb, .bool ok]) ∧ w'.ownsRow w.heap.size 3 1 (.slice B q cb) q (zs.map intV) ∧ Below w.heap.size w w' :=
  h.mono fun e w' ⟨A, k, c, e1, e2, e3, e4⟩ => by
    subst h1 h2 h0 e2
    exact ⟨A, c, e1, e3, e4⟩

theorem brR_nonneg {N : Nat} {es : List GL} {ts : List Int} (hok : okS N es = true) (hd : DrT N ts) (hs : schR N es ts = false) : 0 ≤ brR N es ts := by
  obtain ⟨h1, h2, h3⟩ := hd
  have htm : tmR N es ts = true := by
    unfold tmR
    rw [hok, decide_eq_true (by omega), Bool.true_and, Bool.true_and, List.all_eq_true]
    intro x hx
    have := h3 x hx
    unfold inB
    rw [decide_eq_true (by omega), decide_eq_true (by omega)]; rfl
  unfold schR at hs
  rw [htm, h2, Bool.true_and] at hs
  simp at hs
  omega
theorem brR_none {N : Nat} {es : List GL} {ts : List Int} (hs : schR N es ts = true) : brR N es ts = -1 := by
  unfold schR at hs
  rw [Bool.and_eq_true, Bool.and_eq_true, decide_eq_true_eq, decide_eq_true_eq] at hs
  have := hs.2
  unfold brR at this ⊢
  split at this
  · next h => rw [if_pos h]; have := brJ_rng es ts; omega
  · next h => rw [if_neg h]

theorem dw_oki {N : Nat} {ls : List GL} (H : DW N ls) {i : Nat} (hi : i < N) : okI (wL N ls i) (wH N ls i) = true := by
  obtain ⟨_, h1, h2⟩ := dw_win H hi
  have := dw_rng H hi
  rw [h1, h2]
  unfold okI; exact decide_eq_true (by omega)
theorem row_at {W : World} {A : Option Addr} {zs : List Int} {j : Nat} {x : Int} (h : RowAt W A (zs.map intV)) (hx : zs[j]? = some x) : ∃ g o, A = some ⟨g, o, none⟩ ∧ g < W.heap.size ∧ W.cell? ⟨g, o + j, none⟩ = some (.int .i64 x) := by
  have hj : j < zs.length := (List.getElem?_eq_some_iff.1 hx).1
  obtain ⟨g, o, hA, hg, hc⟩ := row_get h hj
  have : zs[j] = x := (List.getElem?_eq_some_iff.1 hx).2
  rw [this] at hc
  exact ⟨g, o, hA, hg, hc⟩

set_option maxRecDepth 100000 in
set_option maxHeartbeats 16000000 in
theorem FnSchedules_walk (A : Option Addr) (n c : Nat) (w : World) (hby : Bytes w w.heap.size A n) :
    Calls Try.prog 3 #[.slice A n c] w fun e w' => e = .returned (.bool true) ∧ Below w.heap.size w w' := by
  by_cases h : n ≤ 1048576
  · have HMS := Lib.hid (MakeSimple_any A n c w h hby)
    have hlt : ¬ ((1048576 : Int) < (n : Int)) := by omega
    have B_w : Below w.heap.size w w := Below.refl _ _
    have HBY := Lib.hid hby
    clear hby
    go_enter Try.func3, Try.ntmps3
    go_wp2_with fail
    refine HMS.out.mono ?_
    rintro e w1 ⟨N, es, D1, k, c1, rfl, hN2, hN5, hek, hk7, hdr, ho1, bb1⟩
    have HOK := Lib.hid (below_of_drawn (N := N) (ls := es) (by omega) (by omega) (by omega) hdr)
    have HDR := Lib.hid hdr
    have HL := Lib.hid hek
    have hk20 : k ≤ 1048576 := by omega
    clear HMS hek hdr
    obtain ⟨ok, hok⟩ : ∃ b, b = consR N es := ⟨_, rfl⟩
    have HIC := Lib.hid (fun W h' => impl_IsConsistent N es D1 k c1 W HL.out hk20 h')
    rw [← hok] at HIC
    have HO := Lib.hid hok.symm
    clear hok
    have HSO := Lib.hid (fun W h' => impl_SimpleOk N es D1 k c1 W HL.out hk20 h')
    rw [HOK.out] at HSO
    obtain ⟨cs, hcs⟩ : ∃ t, t = confR N es := ⟨_, rfl⟩
    obtain ⟨q, hq⟩ : ∃ t, t = cs.length := ⟨_, rfl⟩
    have HCF := Lib.hid (fun W h' => ints_con hcs hq (impl_ConflictOf N es D1 k c1 W HL.out hk20 h'))
    have HQ := Lib.hid hq
    have HCS := Lib.hid hcs
    clear hcs hq
    obtain ⟨az, has⟩ : ∃ t, t = (earR N es).1 := ⟨_, rfl⟩
    obtain ⟨oa, hoa⟩ : ∃ t, t = (earR N es).2 := ⟨_, rfl⟩
    obtain ⟨qa, hqa⟩ : ∃ t, t = az.length := ⟨_, rfl⟩
    have HET := Lib.hid (fun W h' => times_con has hoa hqa (impl_EarliestTimes N es D1 k c1 W HL.out hk20 h'))
    have HAS := Lib.hid has
    have HOA := Lib.hid hoa
    have HQA := Lib.hid hqa
    clear has hoa hqa
    obtain ⟨bs, hbs⟩ : ∃ t, t = (latR N es).1 := ⟨_, rfl⟩
    obtain ⟨ob, hob⟩ : ∃ t, t = (latR N es).2 := ⟨_, rfl⟩
    obtain ⟨qb, hqb⟩ : ∃ t, t = bs.length := ⟨_, rfl⟩
    have HLT := Lib.hid (fun W h' => times_con hbs hob hqb (impl_LatestTimes N es D1 k c1 W HL.out hk20 h'))
    have HBS := Lib.hid hbs
    have HOB := Lib.hid hob
    have HQB := Lib.hid hqb
    clear hbs hob hqb
    have HSC := Lib.hid (fun ts T m d W (hl : ts.length = m) h1 h2 => impl_IsSchedule N es D1 k c1 ts T m d W HL.out hk20 hl h1 h2)
    have HBL := Lib.hid (fun ts T m d W (hl : ts.length = m) h1 h2 => impl_BrokenLink N es D1 k c1 ts T m d W HL.out hk20 hl h1 h2)
    have HWO := Lib.hid (fun v W h1 => impl_WindowOf N es D1 k c1 v W HL.out hk20 h1)
    have HMT := Lib.hid (fun W (b : Below w.heap.size w W) => MakeTimes_any 40 N (by omega) (by omega) A n c W h (by decide) ((HBY.out.below b).fresh b))
    unfold grV at HIC HSO HCF HET HLT HSC HBL HWO ⊢
    have oD := Lib.hid ho1
    clear ho1
    have B_w1 : Below w.heap.size w w1 := B_w.trans (bb1.mono B_w.size)
    clear   bb1
    have oD_w1 := oD
    clear oD
    obtain ⟨b3, hb3⟩ : ∃ b, b = w1.heap.size := ⟨_, rfl⟩
    obtain ⟨wa, hwa⟩ : ∃ W, W = w1.alloc (.cells #[.int .i64 N, .slice D1 k c1] 25) := ⟨_, rfl⟩
    have ba : Below w1.heap.size w1 wa := by rw [hwa]; exact (Below.refl _ _).alloc (Nat.le_refl _) _
    have z_wa : wa.heap.size = b3 + 1 := by rw [hwa, hb3]; simp
    have c0_wa : wa.cell? ⟨b3, 0, none⟩ = some (.int .i64 N) := by rw [hwa, hb3]; go_simp
    have c1_wa : wa.cell? ⟨b3, 1, none⟩ = some (.slice D1 k c1) := by rw [hwa, hb3]; go_simp
    have s0_wa : b3 < wa.heap.size := by omega
    go_upto_region 4 with (fail)
    rw [← hwa]
    try rw [← hb3]
    have B_wa : Below w.heap.size w wa := B_w1.trans (ba.mono B_w1.size)
    have oD_wa := Lib.hid (own_below oD_w1.out ba)
    clear  oD_w1 ba
    clear hb3 hwa
    go_wp2_with fail
    refine (HIC.out _ (own_link oD_wa.out)).mono ?_
    rintro e w2 ⟨rfl, bb2⟩
    have c0_w2 : w2.cell? ⟨b3, 0, none⟩ = some (.int .i64 N) := (bb2.cell (p := ⟨b3, 0, none⟩) (by dsimp only; omega)).trans c0_wa
    have c1_w2 : w2.cell? ⟨b3, 1, none⟩ = some (.slice D1 k c1) := (bb2.cell (p := ⟨b3, 1, none⟩) (by dsimp only; omega)).trans c1_wa
    have s0_w2 : b3 < w2.heap.size := Nat.lt_of_lt_of_le s0_wa bb2.size
    have B_w2 : Below w.heap.size w w2 := B_wa.trans (bb2.mono B_wa.size)
    have oD_w2 := Lib.hid (own_below oD_wa.out bb2)
    clear c0_wa c1_wa s0_wa oD_wa bb2
    cases ok with
    | false =>
      have hq0 : (0 : Int) < (q : Int) := by have := conf_pos HOK.out HO.out; have := HQ.out; have := HCS.out; subst this; omega
      have hoaf : oa = false := by rw [HOA.out, earR_bad (j := 0) (by simp; omega) (by unfold earG wB; rw [HO.out]; rfl)]
      subst hoaf
      go_wp2_with fail
      refine (HCF.out _ (own_link oD_w2.out)).mono ?_
      rintro e w3 ⟨A3, c3, rfl, _, bb3⟩
      have c0_w3 : w3.cell? ⟨b3, 0, none⟩ = some (.int .i64 N) := (bb3.cell (p := ⟨b3, 0, none⟩) (by dsimp only; omega)).trans c0_w2
      have c1_w3 : w3.cell? ⟨b3, 1, none⟩ = some (.slice D1 k c1) := (bb3.cell (p := ⟨b3, 1, none⟩) (by dsimp only; omega)).trans c1_w2
      have s0_w3 : b3 < w3.heap.size := Nat.lt_of_lt_of_le s0_w2 bb3.size
      have B_w3 : Below w.heap.size w w3 := B_w2.trans (bb3.mono B_w2.size)
      have oD_w3 := Lib.hid (own_below oD_w2.out bb3)
      clear c0_w2 c1_w2 s0_w2 oD_w2 bb3
      go_wp2_with fail
      refine (HET.out _ (own_link oD_w3.out)).mono ?_
      rintro e w4 ⟨A4, c4, rfl, _, bb4⟩
      have c0_w4 : w4.cell? ⟨b3, 0, none⟩ = some (.int .i64 N) := (bb4.cell (p := ⟨b3, 0, none⟩) (by dsimp only; omega)).trans c0_w3
      have c1_w4 : w4.cell? ⟨b3, 1, none⟩ = some (.slice D1 k c1) := (bb4.cell (p := ⟨b3, 1, none⟩) (by dsimp only; omega)).trans c1_w3
      have s0_w4 : b3 < w4.heap.size := Nat.lt_of_lt_of_le s0_w3 bb4.size
      have B_w4 : Below w.heap.size w w4 := B_w3.trans (bb4.mono B_w3.size)
      have oD_w4 := Lib.hid (own_below oD_w3.out bb4)
      clear c0_w3 c1_w3 s0_w3 oD_w3 bb4
      go_wp2_with fail
      refine (HSO.out _ (own_link oD_w4.out)).mono ?_
      rintro e w5 ⟨rfl, bb5⟩
      have B_w5 : Below w.heap.size w w5 := B_w4.trans (bb5.mono B_w4.size)
      go_wp2_with fail
      go_ret
      exact ⟨rfl, B_w5⟩
    | true =>
      have HDW := Lib.hid (DW.mk hN2 hN5 (by have := HL.out; omega) HDR.out HO.out)
      have hqz : q = 0 := by have h1 := HQ.out; have h2 := HCS.out; rw [conf_nil HO.out] at h2; subst h2; simpa using h1
      subst hqz
      have hea := dw_ear HDW.out
      have hla := dw_lat HDW.out
      have hoat : oa = true := by rw [HOA.out, hea]
      have hobt : ob = true := by rw [HOB.out, hla]
      subst hoat hobt
      have hqaN : qa = N := by rw [HQA.out, HAS.out, hea]; simp
      have hqbN : qb = N := by rw [HQB.out, HBS.out, hla]; simp
      have HAL := Lib.hid (show az.length = N from by rw [← HQA.out]; exact hqaN)
      have HBLn := Lib.hid (show bs.length = N from by rw [← HQB.out]; exact hqbN)
      rw [hqaN] at HET
      rw [hqbN] at HLT
      have HSA := Lib.hid (show schR N es az = true from by rw [HAS.out]; exact dw_ear_sch HDW.out)
      have HSB := Lib.hid (show schR N es bs = true from by rw [HBS.out]; exact dw_lat_sch HDW.out)
      have HAV := Lib.hid (show ∀ j, j < N → az[j]? = some (wL N es j) from fun j hj => by rw [HAS.out, hea]; dsimp only; rw [List.getElem?_map, List.getElem?_range hj]; rfl)
      have HBV := Lib.hid (show ∀ j, j < N → bs[j]? = some (wH N es j) from fun j hj => by rw [HBS.out, hla]; dsimp only; rw [List.getElem?_map, List.getElem?_range hj]; rfl)
      have hsa := HSC.out az
      rw [HSA.out] at hsa
      have HSCA := Lib.hid hsa
      have hsb := HSC.out bs
      rw [HSB.out] at hsb
      have HSCB := Lib.hid hsb
      have hNN : ((N : Int) != (N : Int)) = false := by simp
      clear hea hla hqaN hqbN hsa hsb
      go_wp2_with fail
      refine (HET.out _ (own_link oD_w2.out)).mono ?_
      rintro e w3 ⟨A3, c3, rfl, h3, bb3⟩
      have g3 := Lib.hid h3
      clear h3
      have c0_w3 : w3.cell? ⟨b3, 0, none⟩ = some (.int .i64 N) := (bb3.cell (p := ⟨b3, 0, none⟩) (by dsimp only; omega)).trans c0_w2
      have c1_w3 : w3.cell? ⟨b3, 1, none⟩ = some (.slice D1 k c1) := (bb3.cell (p := ⟨b3, 1, none⟩) (by dsimp only; omega)).trans c1_w2
      have s0_w3 : b3 < w3.heap.size := Nat.lt_of_lt_of_le s0_w2 bb3.size
      have B_w3 : Below w.heap.size w w3 := B_w2.trans (bb3.mono B_w2.size)
      have oD_w3 := Lib.hid (own_below oD_w2.out bb3)
      clear c0_w2 c1_w2 s0_w2 oD_w2 bb3
      have oE_w3 := g3
      clear g3
      go_wp2_with fail
      refine (HLT.out _ (own_link oD_w3.out)).mono ?_
      rintro e w4 ⟨A4, c4, rfl, h4, bb4⟩
      have g4 := Lib.hid h4
      clear h4
      have c0_w4 : w4.cell? ⟨b3, 0, none⟩ = some (.int .i64 N) := (bb4.cell (p := ⟨b3, 0, none⟩) (by dsimp only; omega)).trans c0_w3
      have c1_w4 : w4.cell? ⟨b3, 1, none⟩ = some (.slice D1 k c1) := (bb4.cell (p := ⟨b3, 1, none⟩) (by dsimp only; omega)).trans c1_w3
      have s0_w4 : b3 < w4.heap.size := Nat.lt_of_lt_of_le s0_w3 bb4.size
      have B_w4 : Below w.heap.size w w4 := B_w3.trans (bb4.mono B_w3.size)
      have oD_w4 := Lib.hid (own_below oD_w3.out bb4)
      have oE_w4 := Lib.hid (own_below oE_w3.out bb4)
      clear c0_w3 c1_w3 s0_w3 oD_w3 oE_w3 bb4
      have oL_w4 := g4
      clear g4
      go_wp2_with fail
      refine (HSCA.out A3 N c3 _ HAL.out (own_link oD_w4.out) (own_row oE_w4.out)).mono ?_
      rintro e w5 ⟨rfl, bb5⟩
      have c0_w5 : w5.cell? ⟨b3, 0, none⟩ = some (.int .i64 N) := (bb5.cell (p := ⟨b3, 0, none⟩) (by dsimp only; omega)).trans c0_w4
      have c1_w5 : w5.cell? ⟨b3, 1, none⟩ = some (.slice D1 k c1) := (bb5.cell (p := ⟨b3, 1, none⟩) (by dsimp only; omega)).trans c1_w4
      have s0_w5 : b3 < w5.heap.size := Nat.lt_of_lt_of_le s0_w4 bb5.size
      have B_w5 : Below w.heap.size w w5 := B_w4.trans (bb5.mono B_w4.size)
      have oD_w5 := Lib.hid (own_below oD_w4.out bb5)
      have oE_w5 := Lib.hid (own_below oE_w4.out bb5)
      have oL_w5 := Lib.hid (own_below oL_w4.out bb5)
      clear c0_w4 c1_w4 s0_w4 oD_w4 oE_w4 oL_w4 bb5
      go_wp2_with fail
      refine (HSCB.out A4 N c4 _ HBLn.out (own_link oD_w5.out) (own_row oL_w5.out)).mono ?_
      rintro e w6 ⟨rfl, bb6⟩
      have c0_w6 : w6.cell? ⟨b3, 0, none⟩ = some (.int .i64 N) := (bb6.cell (p := ⟨b3, 0, none⟩) (by dsimp only; omega)).trans c0_w5
      have c1_w6 : w6.cell? ⟨b3, 1, none⟩ = some (.slice D1 k c1) := (bb6.cell (p := ⟨b3, 1, none⟩) (by dsimp only; omega)).trans c1_w5
      have s0_w6 : b3 < w6.heap.size := Nat.lt_of_lt_of_le s0_w5 bb6.size
      have B_w6 : Below w.heap.size w w6 := B_w5.trans (bb6.mono B_w5.size)
      have oD_w6 := Lib.hid (own_below oD_w5.out bb6)
      have oE_w6 := Lib.hid (own_below oE_w5.out bb6)
      have oL_w6 := Lib.hid (own_below oL_w5.out bb6)
      clear c0_w5 c1_w5 s0_w5 oD_w5 oE_w5 oL_w5 bb6
      go_wp2_with fail
      refine (HCF.out _ (own_link oD_w6.out)).mono ?_
      rintro e w7 ⟨A7, c7, rfl, _, bb7⟩
      have c0_w7 : w7.cell? ⟨b3, 0, none⟩ = some (.int .i64 N) := (bb7.cell (p := ⟨b3, 0, none⟩) (by dsimp only; omega)).trans c0_w6
      have c1_w7 : w7.cell? ⟨b3, 1, none⟩ = some (.slice D1 k c1) := (bb7.cell (p := ⟨b3, 1, none⟩) (by dsimp only; omega)).trans c1_w6
      have s0_w7 : b3 < w7.heap.size := Nat.lt_of_lt_of_le s0_w6 bb7.size
      have B_w7 : Below w.heap.size w w7 := B_w6.trans (bb7.mono B_w6.size)
      have oD_w7 := Lib.hid (own_below oD_w6.out bb7)
      have oE_w7 := Lib.hid (own_below oE_w6.out bb7)
      have oL_w7 := Lib.hid (own_below oL_w6.out bb7)
      clear c0_w6 c1_w6 s0_w6 oD_w6 oE_w6 oL_w6 bb7
      go_wp2_with fail
      refine (HMT.out _ B_w7).mono ?_
      rintro e w8 ⟨ts, A8, c8, rfl, hdt, h8, bb8⟩
      have g8 := Lib.hid h8
      have HDT := Lib.hid hdt
      clear h8 hdt
      have c0_w8 : w8.cell? ⟨b3, 0, none⟩ = some (.int .i64 N) := (bb8.cell (p := ⟨b3, 0, none⟩) (by dsimp only; omega)).trans c0_w7
      have c1_w8 : w8.cell? ⟨b3, 1, none⟩ = some (.slice D1 k c1) := (bb8.cell (p := ⟨b3, 1, none⟩) (by dsimp only; omega)).trans c1_w7
      have s0_w8 : b3 < w8.heap.size := Nat.lt_of_lt_of_le s0_w7 bb8.size
      have B_w8 : Below w.heap.size w w8 := B_w7.trans (bb8.mono B_w7.size)
      have oD_w8 := Lib.hid (own_below oD_w7.out bb8)
      have oE_w8 := Lib.hid (own_below oE_w7.out bb8)
      have oL_w8 := Lib.hid (own_below oL_w7.out bb8)
      clear c0_w7 c1_w7 s0_w7 oD_w7 oE_w7 oL_w7 bb8
      have oT_w8 := g8
      clear g8
      have hst := HSC.out ts A8 N c8
      have hbt := HBL.out ts A8 N c8
      obtain ⟨sc, hsc⟩ : ∃ t, t = schR N es ts := ⟨_, rfl⟩
      obtain ⟨br, hbr⟩ : ∃ t, t = brR N es ts := ⟨_, rfl⟩
      rw [← hsc] at hst
      rw [← hbr] at hbt
      have HST := Lib.hid hst
      have HBT := Lib.hid hbt
      have HSS := Lib.hid hsc.symm
      have HBB := Lib.hid hbr
      clear hst hbt hsc hbr
      go_wp2_with fail
      refine (HST.out _ HDT.out.1 (own_link oD_w8.out) (own_row oT_w8.out)).mono ?_
      rintro e w9 ⟨rfl, bb9⟩
      have c0_w9 : w9.cell? ⟨b3, 0, none⟩ = some (.int .i64 N) := (bb9.cell (p := ⟨b3, 0, none⟩) (by dsimp only; omega)).trans c0_w8
      have c1_w9 : w9.cell? ⟨b3, 1, none⟩ = some (.slice D1 k c1) := (bb9.cell (p := ⟨b3, 1, none⟩) (by dsimp only; omega)).trans c1_w8
      have s0_w9 : b3 < w9.heap.size := Nat.lt_of_lt_of_le s0_w8 bb9.size
      have B_w9 : Below w.heap.size w w9 := B_w8.trans (bb9.mono B_w8.size)
      have oD_w9 := Lib.hid (own_below oD_w8.out bb9)
      have oE_w9 := Lib.hid (own_below oE_w8.out bb9)
      have oL_w9 := Lib.hid (own_below oL_w8.out bb9)
      have oT_w9 := Lib.hid (own_below oT_w8.out bb9)
      clear c0_w8 c1_w8 s0_w8 oD_w8 oE_w8 oL_w8 oT_w8 bb9
      cases sc with
      | false =>
        have hbr0 : (0 : Int) ≤ br := by rw [HBB.out]; exact brR_nonneg HOK.out HDT.out HSS.out
        go_wp2_with fail
        refine (HBT.out _ HDT.out.1 (own_link oD_w9.out) (own_row oT_w9.out)).mono ?_
        rintro e w10 ⟨rfl, bb10⟩
        have B_w10 : Below w.heap.size w w10 := B_w9.trans (bb10.mono B_w9.size)
        go_wp2_with fail
        go_ret
        exact ⟨rfl, B_w10⟩
      | true =>
        have hbr0 : br = -1 := by rw [HBB.out]; exact brR_none HSS.out
        subst hbr0
        go_wp2_with fail
        go_loopw [104] (fun ii wr => ∃ j : Nat, ii = .int .i64 j ∧ j ≤ N ∧ Below w9.heap.size w9 wr) (fun ii _ => N - (intOf ii).toNat)
        case atStart => exact ⟨0, rfl, by omega, Below.refl _ _⟩
        case round =>
          obtain ⟨j, rfl, hj, hbr⟩ := hrel
          have c0_wr : wr.cell? ⟨b3, 0, none⟩ = some (.int .i64 N) := (hbr.cell (p := ⟨b3, 0, none⟩) (by dsimp only; omega)).trans c0_w9
          have c1_wr : wr.cell? ⟨b3, 1, none⟩ = some (.slice D1 k c1) := (hbr.cell (p := ⟨b3, 1, none⟩) (by dsimp only; omega)).trans c1_w9
          have s0_wr : b3 < wr.heap.size := Nat.lt_of_lt_of_le s0_w9 hbr.size
          have B_wr : Below w.heap.size w wr := B_w9.trans (hbr.mono B_w9.size)
          have oD_wr := Lib.hid (own_below oD_w9.out hbr)
          have oE_wr := Lib.hid (own_below oE_w9.out hbr)
          have oL_wr := Lib.hid (own_below oL_w9.out hbr)
          have oT_wr := Lib.hid (own_below oT_w9.out hbr)
          clear c0_w9 c1_w9 s0_w9 oD_w9 oE_w9 oL_w9 oT_w9 B_w9
          by_cases hlt2 : j < N
          · obtain ⟨hwb, hwl, hwh⟩ := dw_win HDW.out hlt2
            obtain ⟨hin1, hin2⟩ := dw_in HDW.out HSS.out hlt2
            have hrg := dw_rng HDW.out hlt2
            have hoki := dw_oki HDW.out hlt2
            obtain ⟨x, hx⟩ : ∃ x, ts[j]? = some x := ⟨_, List.getElem?_eq_getElem (by rw [HDT.out.1]; exact hlt2)⟩
            rw [hx] at hin1 hin2
            simp only [Option.getD_some] at hin1 hin2
            have hwo := HWO.out (j : Int)
            unfold wV ivV at hwo
            rw [hwb] at hwo
            obtain ⟨lo, hlo⟩ : ∃ t, t = wL N es j := ⟨_, rfl⟩
            obtain ⟨hi, hhi⟩ : ∃ t, t = wH N es j := ⟨_, rfl⟩
            rw [← hlo] at hwo hwl hoki
            rw [← hhi] at hwo hwh hoki
            have HWJ := Lib.hid hwo
            have hci : inI lo hi x = true := by unfold inI; rw [hoki, Bool.true_and]; exact decide_eq_true (by omega)
            have hct := impl_Contains lo hi x
            rw [hci] at hct
            unfold ivV at hct
            have HCT := Lib.hid hct
            have hav := HAV.out j hlt2
            have hbv := HBV.out j hlt2
            rw [← hlo] at hav
            rw [← hhi] at hbv
            obtain ⟨g8, o8, hA8, hg8, hc8⟩ := row_at (own_row oT_wr.out) hx
            obtain ⟨g3, o3, hA3, hg3, hc3⟩ := row_at (own_row oE_wr.out) hav
            obtain ⟨g4, o4, hA4, hg4, hc4⟩ := row_at (own_row oL_wr.out) hbv
            have lx1 : ¬ x < lo := by omega
            have lx2 : ¬ hi < x := by omega
            subst hA8 hA3 hA4
            clear hwb hwl hwh hin1 hin2 hrg hoki hx hwo hlo hhi hci hct hav hbv
            go_wp2_with fail
            refine (HWJ.out _ (own_link oD_wr.out)).mono ?_
            rintro e w10 ⟨rfl, b10⟩
            have c0_w10 : w10.cell? ⟨b3, 0, none⟩ = some (.int .i64 N) := (b10.cell (p := ⟨b3, 0, none⟩) (by dsimp only; omega)).trans c0_wr
            have c1_w10 : w10.cell? ⟨b3, 1, none⟩ = some (.slice D1 k c1) := (b10.cell (p := ⟨b3, 1, none⟩) (by dsimp only; omega)).trans c1_wr
            have s0_w10 : b3 < w10.heap.size := Nat.lt_of_lt_of_le s0_wr b10.size
            have k8 : w10.cell? ⟨g8, o8 + j, none⟩ = some (.int .i64 x) := (b10.cell (p := ⟨g8, o8 + j, none⟩) hg8).trans hc8
            have k3 : w10.cell? ⟨g3, o3 + j, none⟩ = some (.int .i64 lo) := (b10.cell (p := ⟨g3, o3 + j, none⟩) hg3).trans hc3
            have k4 : w10.cell? ⟨g4, o4 + j, none⟩ = some (.int .i64 hi) := (b10.cell (p := ⟨g4, o4 + j, none⟩) hg4).trans hc4
            have l8 : g8 < w10.heap.size := Nat.lt_of_lt_of_le hg8 b10.size
            have l3 : g3 < w10.heap.size := Nat.lt_of_lt_of_le hg3 b10.size
            have l4 : g4 < w10.heap.size := Nat.lt_of_lt_of_le hg4 b10.size
            have hb10 := hbr.trans (b10.mono hbr.size)
            go_wp2_with fail
            refine (HCT.out _).mono ?_
            rintro e w11 ⟨rfl, b11⟩
            have ba : Below w10.heap.size w10 w11 := below_step b11 (by first | omega | (simp; done) | (simp; omega)) ((Below.refl _ _).alloc (Nat.le_refl _) _)
            have m3 : w11.cell? ⟨g3, o3 + j, none⟩ = some (.int .i64 lo) := (ba.cell (p := ⟨g3, o3 + j, none⟩) l3).trans k3
            have m4 : w11.cell? ⟨g4, o4 + j, none⟩ = some (.int .i64 hi) := (ba.cell (p := ⟨g4, o4 + j, none⟩) l4).trans k4
            go_wp2_with fail
            go_roundw
            case rel => exact ⟨j + 1, by go_num, by omega, hb10.trans (ba.mono hb10.size)⟩
            case measure => simp [intOf]; omega
          · have hjk : ¬ ((j : Int) < (N : Int)) := by omega
            go_wp2_with fail
            refine (HBT.out _ HDT.out.1 (own_link oD_wr.out) (own_row oT_wr.out)).mono ?_
            rintro e w10 ⟨rfl, b10⟩
            have B_w10 : Below w.heap.size w w10 := B_wr.trans (b10.mono B_wr.size)
            go_wp2_with fail
            go_ret
            exact ⟨rfl, B_w10⟩
  · have hlt : (1048576 : Int) < (n : Int) := by omega
    go_enter Try.func3, Try.ntmps3
    go_wp2_with fail
    go_ret
    exact ⟨rfl, (by repeat (first | exact Below.refl _ _ | refine below_step (by assumption) (by first | omega | (simp; done) | (simp; omega)) ?_ | refine below_drewN ?_ _ | refine Below.drew ?_ | refine Below.setCell ?_ (by first | omega | (simp; done) | (simp; omega)) _ | refine Below.alloc ?_ (by first | omega | (simp; done) | (simp; omega)) _))⟩

/-! ### FnSchedules: the row -/

set_option maxRecDepth 100000 in
theorem FnSchedules_lifted (os : Os) (started : os.Started) (H : Type) (enc : TypeId × Value → H) :
    ReturnsInHanded {} Try.checked os 3 .any (Rows.fnSchedulesSpec.pre6 enc Try.prog Try.f3 Rows.fnSchedulesRow.domain false) (Rows.fnSchedulesSpec.post enc Try.prog Try.f3 false true false false) := by
  refine returnsInHanded_of_change (C := Try.checked) (by kernel_rfl) started (by kernel_rfl) Try.func3
    (ChangeSpec.witness6 (enc := enc) (C := Try.checked) false ⟨#[], #[.slice none 0 0], []⟩ 8 (by kernel_rfl) (by kernel_rfl) (by kernel_rfl) (by kernel_rfl)) ?_
  intro W base args ds gs before hval0 hW hcnd _
  have hval : ∀ (j : Nat) t v, Try.f3.params[j]? = some t → args[j]? = some v → Value.okWide Try.prog W .any base t v := hval0
  have hW2 := hW
  obtain ⟨p, q, hA0, hV, hpq, hfz, hnd⟩ := hW2
  have hA : DataW.TrodAll enc Try.prog W 0 (fun _ => true) true Try.f3.params.toList args.toList ds p := hA0
  rw [Try.params3] at hA hval
  obtain ⟨v0, d0, hargs, hds, h0⟩ := trodAll_one hA
  obtain ⟨hgs, hq⟩ := trodVars_none hV
  subst hargs
  subst hds
  subst hgs
  obtain ⟨A0, n0, c0, rfl⟩ := okWide_slice Try.underlying22 (hval 0 22 v0 rfl rfl)
  have h0b := h0
  obtain ⟨fuel, hf⟩ := h0b
  obtain ⟨hm, hby⟩ := bytes_in Try.underlying22 Try.underlying5 cells_u8 hf
  refine (FnSchedules_walk A0 n0 c0 W hby).mono fun e W2 ⟨he, hb⟩ => ?_
  subst he
  exact ⟨_, rfl, law_post (by kernel_rfl) (by rw [Try.params3]; decide +kernel) (by kernel_rfl) Try.underlying4 rfl ⟨rfl, rfl, rfl⟩ hW hb⟩

theorem FnSchedules_holds : Rows.FnSchedulesSaid :=
  OpenClaim.holds_of_wide 3 Try.f3 rfl rfl rfl rfl rfl rfl rfl ⟨rfl, rfl, rfl, rfl, rfl⟩ rfl rfl rfl rfl rfl (by kernel_rfl) Try.func3 (by kernel_rfl)
    (of_decide_eq_true (by kernel_rfl)) (by unfold Func.isWrapper; first | (rw [if_pos (by decide +kernel)]; kernel_rfl) | (rw [if_neg (by decide +kernel)]; exact ⟨rfl, rfl⟩))
    (fun os started H enc _ => FnSchedules_lifted os started H enc)

end Go.Proofs.Ytnhdfnfiicioiaa

