/-
  laws.FnCompleted HOLDS: whatever the bytes that the network and the times are drawn of: a partial schedule that can be extended is completed to a schedule that keeps its times; the bytes read as they did. No condition.
-/
import Derived.Test.YteppmlepbfjnpaaRows
import Derived.Test.YteppmlepbfjnpaaFrame
import Derived.Test.YteppmlepbfjnpaaBdLkM
import Derived.Test.YteppmlepbfjnpaaImS
import Derived.Test.YteppmlepbfjnpaaPaM
import Derived.Test.YteppmlepbfjnpaaImP
import Derived.Test.YteppmlepbfjnpaaBdTbC
import Derived.Deep.RegionHeld3
import Derived.Deep.CutRange
import Derived.Deep.AppendLies
import Derived.ProofKit
import Derived.Lib.SmallJoins
namespace Go.Proofs.Yteppmlepbfjnpaa
open Go.RowKit Go.ChangeShapes Go.WideShapes Go.ChangeAt Go.WideMaps Go.WideElems
set_option linter.unusedVariables false
set_option linter.unusedSimpArgs false

theorem num_con {f : FuncId} {args : Array Value} {w : World} (h : Calls Try.prog f args w fun e w' => ∃ x : Int, e = .returned (.int .i64 x) ∧ 0 ≤ x ∧ x ≤ 65535 ∧ Below w.heap.size w w') :
    Calls Try.prog f args w fun e w' => ∃ v : {x : Int // 0 ≤ x ∧ x ≤ 65535}, e = .returned (.int .i64 v.1) ∧ Below w.heap.size w w' :=
  h.mono fun e w' ⟨x, e1, e2, e3, e4⟩ => ⟨⟨x, e2, e3⟩, e1, e4⟩
theorem pt_drawn {N : Nat} {ts : List Int} (h : DrT N ts) : PT N ts := ⟨h.1, h.2.1, fun x hx => by have := h.2.2 x hx; omega⟩
theorem pt_open {N j : Nat} {ts : List Int} (h : PT N ts) (hj : 1 ≤ j) : PT N (ts.set j (-1)) := by
  refine ⟨by rw [List.length_set]; exact h.hl, by rw [List.getElem?_set, if_neg (by omega)]; exact h.h0, fun x hx => ?_⟩
  rcases List.mem_or_eq_of_mem_set hx with h1 | h1
  · exact h.hr x h1
  · omega
theorem cp_con {n : Int} {es : List GL} {ts : List Int} {w : World} {f : FuncId} {args : Array Value} {zs : List Int} {ok : Bool} {q : Nat} (h0 : cpR n es ts = (zs, ok)) (hq : q = zs.length) (h : Calls Try.prog f args w fun e w' => ∃ B q cb, e = .returned (.tuple #[.slice B q cb, .bool (cpR n es ts).2]) ∧ q = (cpR n es ts).1.length ∧ w'.ownsRow w.heap.size 3 1 (.slice B q cb) q ((cpR n es ts).1.map intV) ∧ Below w.heap.size w w') :
    Calls Try.prog f args w fun e w' => ∃ B cb, e = .returned (.tuple #[.slice B q cb, .bool ok]) ∧ w'.ownsRow w.heap.size 3 1 (.slice B q cb) q (zs.map intV) ∧ Below w.heap.size w w' :=
  h.mono fun e w' ⟨A, k, c, e1, e2, e3, e4⟩ => by
    rw [h0] at e1 e2 e3
    subst hq e2
    exact ⟨A, c, e1, e3, e4⟩
theorem cpR_nope {n : Int} {es : List GL} {ts : List Int} (h : ceR n es ts = false) : cpR n es ts = ([], false) := by unfold cpR; rw [if_neg (by rw [h]; simp)]

set_option maxRecDepth 100000 in
set_option maxHeartbeats 16000000 in
theorem FnCompleted_walk (A : Option Addr) (n c : Nat) (w : World) (hby : Bytes w w.heap.size A n) :
    Calls Try.prog 4 #[.slice A n c] w fun e w' => e = .returned (.bool true) ∧ Below w.heap.size w w' := by
  by_cases h : n ≤ 1048576
  · have HMS := Lib.hid (MakeSimple_any A n c w h hby)
    have hlt : ¬ ((1048576 : Int) < (n : Int)) := by omega
    have B_w : Below w.heap.size w w := Below.refl _ _
    have HBY := Lib.hid hby
    clear hby
    go_enter Try.func4, Try.ntmps4
    go_wp2_with fail
    refine HMS.out.mono ?_
    rintro e w1 ⟨N, es, D1, k, c1, rfl, hN2, hN5, hek, hk7, hdr, ho1, bb1⟩
    have HOK := Lib.hid (below_of_drawn (N := N) (ls := es) (by omega) (by omega) (by omega) hdr)
    have HDR := Lib.hid hdr
    have HL := Lib.hid hek
    have hk20 : k ≤ 1048576 := by omega
    clear HMS hek hdr
    have hhok := HOK.out
    have hk7' : es.length ≤ 7 := by have := HL.out; omega
    have HCPT := Lib.hid (fun ts T m d W (hl : ts.length = m) (hm2 : m ≤ 1048576) h1 h2 => impl_CompleteTimes N es D1 k c1 ts T m d W HL.out hk20 hl hm2 h1 h2)
    have HCE := Lib.hid (fun ts T m d W (hl : ts.length = m) h1 h2 => impl_CanExtend N es D1 k c1 ts T m d W HL.out hk20 hl h1 h2)
    have HPO := Lib.hid (fun ts T m d W (hl : ts.length = m) h1 h2 => impl_PartialOk N es D1 k c1 ts T m d W HL.out hk20 hl h1 h2)
    have HNT := Lib.hid (fun v ts T m d W (hl : ts.length = m) h1 h2 => impl_NextTimes v N es D1 k c1 ts T m d W HL.out hk20 hl h1 h2)
    have HSC := Lib.hid (fun ts T m d W (hl : ts.length = m) h1 h2 => impl_IsSchedule N es D1 k c1 ts T m d W HL.out hk20 hl h1 h2)
    have HMT := Lib.hid (fun W (b : Below w.heap.size w W) => MakeTimes_any 40 N (by omega) (by omega) A n c W h (by decide) ((HBY.out.below b).fresh b))
    have HMN := Lib.hid (fun (j : Nat) (hj : j ≤ 100) (W : World) (b : Below w.heap.size w W) => num_con (MakeNum_any j A n c W h (by omega) ((HBY.out.below b).fresh b)))
    have HK7 := Lib.hid hk7'
    have O1 := Lib.hid ho1
    obtain ⟨L, hL⟩ : ∃ L : Nat, N = L + 1 := ⟨N - 1, by omega⟩
    have HLN := Lib.hid hL
    clear hk7' hhok ho1 hL
    unfold grV at HCPT HCE HPO HNT HSC ⊢
    obtain ⟨b3, hb3⟩ : ∃ b, b = w1.heap.size := ⟨_, rfl⟩
    obtain ⟨wa, hwa⟩ : ∃ W, W = w1.alloc (.cells #[.int .i64 N, .slice D1 k c1] 25) := ⟨_, rfl⟩
    have ba : Below w1.heap.size w1 wa := by rw [hwa]; exact (Below.refl _ _).alloc (Nat.le_refl _) _
    have c0a : wa.cell? ⟨b3, 0, none⟩ = some (.int .i64 N) := by rw [hwa, hb3]; go_simp
    have c1a : wa.cell? ⟨b3, 1, none⟩ = some (.slice D1 k c1) := by rw [hwa, hb3]; go_simp
    have s3a : b3 < wa.heap.size := by rw [hwa, hb3]; simp
    have OA := Lib.hid (own_below O1.out ba)
    have BA : Below w.heap.size w wa := bb1.trans (ba.mono bb1.size)
    go_upto_region 4 with (fail)
    rw [← hwa]
    try rw [← hb3]
    clear hwa ba O1 bb1 hb3
    go_wp2_with fail
    refine (HMT.out _ BA).mono ?_
    rintro x w2 ⟨ts0, A8, c8, rfl, hdt, h8, b2⟩
    obtain ⟨gt, ct, hgv, hgb, hgl⟩ := h8.form (by omega)
    injection hgv with hA8 _ hc8
    subst hA8
    obtain rfl := hc8.symm
    have za := b2.size
    have PT0 := Lib.hid (pt_drawn hdt)
    have OT0 := Lib.hid h8
    have B2A := Lib.hid b2
    clear hdt h8 b2 hgl HMT
    go_wp2_with fail
    go_loopw [5] (fun ii wr => ∃ (j : Nat) (ts : List Int), ii = .int .i64 j ∧ 1 ≤ j ∧ j ≤ N ∧ PT N ts ∧ wr.ownsRow wa.heap.size 3 1 (.slice (some ⟨gt, 0, none⟩) N ct) N (ts.map intV) ∧ Below wa.heap.size wa wr) (fun ii _ => N - (intOf ii).toNat)
    case atStart => exact ⟨1, ts0, rfl, Nat.le_refl _, by omega, PT0.out, OT0.out, B2A.out⟩
    case round =>
      rename World => wo
      obtain ⟨j, ts, rfl, hj1, hjN, hpt, hown, hbr⟩ := hrel
      have OT := Lib.hid hown
      have HPT := Lib.hid hpt
      have HBR := Lib.hid hbr
      have zo := hbr.size
      have c0o := (hbr.cell (p := ⟨b3, 0, none⟩) s3a).trans c0a
      have c1o := (hbr.cell (p := ⟨b3, 1, none⟩) s3a).trans c1a
      clear hown hpt hbr
      by_cases hlt2 : j < N
      · have hjl : ((j : Int) < (N : Int)) := by omega
        have hmn := HMN.out (50 + j) (by omega)
        rw [show ((50 + j : Nat) : Int) = 50 + (j : Int) from by omega] at hmn
        have HM := Lib.hid hmn
        clear hmn
        go_wp2_with fail
        refine (HM.out _ (BA.trans (HBR.out.mono BA.size))).mono ?_
        rintro x w3 ⟨⟨x, hx0, hx1⟩, rfl, b3b⟩
        dsimp only
        have O3 := Lib.hid (own_below OT.out b3b)
        have B3 := Lib.hid (HBR.out.trans (b3b.mono zo))
        have z3 := B3.out.size
        clear b3b c0o c1o
        have ht : x.tmod 2 = x % 2 := Int.tmod_eq_emod_of_nonneg hx0
        by_cases hp : x % 2 = 0
        · have hb1 : (x % 2 == 0) = true := by simp [hp]
          have hb2 : (x.tmod 2 == 0) = true := by rw [ht]; exact hb1
          obtain ⟨y, hy⟩ : ∃ y, ts[j]? = some y := ⟨_, List.getElem?_eq_getElem (by rw [HPT.out.hl]; exact hlt2)⟩
          have x1 : w3.cell? ⟨gt, j, none⟩ = some (.int .i64 y) := (O3.out.cellAt j (by omega)).trans (by rw [List.getElem?_map, hy]; rfl)
          have y2 := O3.out.frozenAt j
          have HST := Lib.hid (O3.out.stored j (.int .i64 (-1))).1
          clear hp ht hy
          go_wp2_with fail
          go_roundw
          case rel => exact ⟨j + 1, ts.set j (-1), by go_num, by omega, by omega, pt_open HPT.out hj1, by rw [List.map_set]; exact HST.out, B3.out.setCell (by dsimp only; exact (O3.out.lt gt rfl).1) _⟩
          case measure => simp [intOf]; omega
        · have hb1 : (x % 2 == 0) = false := by simp [hp]
          have hb2 : (x.tmod 2 == 0) = false := by rw [ht]; exact hb1
          clear hp ht
          go_wp2_with fail
          go_roundw
          case rel => exact ⟨j + 1, ts, by go_num, by omega, by omega, HPT.out, O3.out, B3.out⟩
          case measure => simp [intOf]; omega
      · have hje : j = N := by omega
        have hjl : ¬ ((j : Int) < (N : Int)) := by omega
        have BO : Below w.heap.size w wo := BA.trans (HBR.out.mono BA.size)
        have LD := Lib.hid (own_link (own_below OA.out HBR.out))
        have RT := Lib.hid (own_row OT.out)
        have s3o : b3 < wo.heap.size := by omega
        have hfx := pt_fx HOK.out HK7.out HPT.out
        have hpo := pt_pok (es := es) HOK.out HPT.out
        obtain ⟨ok, hok⟩ : ∃ b, b = consR N (es ++ fixL ts) := ⟨_, rfl⟩
        have hce : ceR N es ts = ok := by unfold ceR; rw [hfx, hok]; rfl
        have HO := Lib.hid hok.symm
        have hcx := fun (W : World) h1 h2 => HCE.out ts (some ⟨gt, 0, none⟩) N ct W HPT.out.hl h1 h2
        rw [hce] at hcx
        have hpx := fun (W : World) h1 h2 => HPO.out ts (some ⟨gt, 0, none⟩) N ct W HPT.out.hl h1 h2
        rw [hpo] at hpx
        have HCX := Lib.hid hcx
        have HPX := Lib.hid hpx
        have HFXR := Lib.hid hfx
        have HCER := Lib.hid hce
        clear hok hce hcx hpx hfx hpo hje
        cases ok with
        | false =>
          have HC2 := Lib.hid (fun (W : World) h1 h2 => cp_con (cpR_nope HCER.out) rfl (HCPT.out ts (some ⟨gt, 0, none⟩) N ct W HPT.out.hl (by omega) h1 h2))
          go_wp2_with fail
          refine (HC2.out _ LD.out RT.out).mono ?_
          rintro x w3 ⟨B3, q3, rfl, _, b3b⟩
          have c03 := (b3b.cell (p := ⟨b3, 0, none⟩) s3o).trans c0o
          have c13 := (b3b.cell (p := ⟨b3, 1, none⟩) s3o).trans c1o
          have s33 : b3 < w3.heap.size := Nat.lt_of_lt_of_le s3o b3b.size
          have LD3 := Lib.hid (LD.out.below b3b)
          have RT3 := Lib.hid (RT.out.below b3b)
          have BB3 : Below w.heap.size w w3 := BO.trans (b3b.mono BO.size)
          clear b3b c0o c1o
          go_wp2_with fail
          refine (HCX.out _ LD3.out RT3.out).mono ?_
          rintro x w4 ⟨rfl, b4⟩
          have c04 := (b4.cell (p := ⟨b3, 0, none⟩) s33).trans c03
          have c14 := (b4.cell (p := ⟨b3, 1, none⟩) s33).trans c13
          have LD4 := Lib.hid (LD3.out.below b4)
          have RT4 := Lib.hid (RT3.out.below b4)
          have BB4 : Below w.heap.size w w4 := BB3.trans (b4.mono BB3.size)
          clear b4 c03 c13
          go_wp2_with fail
          refine (HPX.out _ LD4.out RT4.out).mono ?_
          rintro x w5 ⟨rfl, b5⟩
          go_wp2_with fail
          go_ret
          exact ⟨rfl, BB4.trans (b5.mono BB4.size)⟩
        | true =>
          have H := CT.mk hN2 hN5 HK7.out HDR.out HOK.out HPT.out HO.out
          have hall := ct_all H
          have hsch := ct_sch H
          obtain ⟨hnb, hnin⟩ := ct_win H (i := L) (by have := HLN.out; omega)
          have hfixed := fun (i : Nat) (y : Int) (h1 : ts[i]? = some y) (h2 : y ≠ -1) => ct_fixed H h1 h2
          obtain ⟨E, hE⟩ : ∃ E, E = eaT N (es ++ fixL ts) := ⟨_, rfl⟩
          rw [← hE] at hall hsch hnin
          simp only [← hE] at hfixed
          have hcat : ∀ i, i < N → ((List.range N).map E)[i]? = some (E i) := fun i hi => by rw [List.getElem?_map, List.getElem?_range hi]; rfl
          obtain ⟨cs, hcs⟩ : ∃ t, t = (List.range N).map E := ⟨_, rfl⟩
          have hcl : N = cs.length := by rw [hcs]; simp
          rw [← hcs] at hall hsch hcat
          have HC2 := Lib.hid (fun (W : World) h1 h2 => cp_con hall hcl (HCPT.out ts (some ⟨gt, 0, none⟩) N ct W HPT.out.hl (by omega) h1 h2))
          have hsx := fun T d (W : World) h1 h2 => HSC.out cs T N d W hcl.symm h1 h2
          rw [hsch] at hsx
          have HSX := Lib.hid hsx
          have HCAT := Lib.hid hcat
          have HFI := Lib.hid hfixed
          have hnx := fun (W : World) h1 h2 => HNT.out (L : Int) ts (some ⟨gt, 0, none⟩) N ct W HPT.out.hl h1 h2
          unfold ntV ivV at hnx
          rw [hnb] at hnx
          obtain ⟨lo, hlo⟩ : ∃ t, t = ntL N es ts L := ⟨_, rfl⟩
          obtain ⟨hi, hhi⟩ : ∃ t, t = ntH N es ts L := ⟨_, rfl⟩
          rw [← hlo, ← hhi] at hnx hnin
          obtain ⟨z, hz⟩ : ∃ z, z = E L := ⟨_, rfl⟩
          have HCZ := Lib.hid (show cs[L]? = some z from by rw [hz]; exact hcat L (by have := HLN.out; omega))
          rw [← hz] at hnin
          have hct := impl_Contains lo hi z
          rw [hnin] at hct
          unfold ivV at hct
          have HCT := Lib.hid hct
          have HNX := Lib.hid hnx
          clear H hall hsch hnb hnin hfixed hE hcat hcs hcl hsx hnx hlo hhi hz hct HCPT HCE HPO HNT HSC HMN
          go_wp2_with fail
          refine (HC2.out _ LD.out RT.out).mono ?_
          rintro x w3 ⟨B3, q3, rfl, h3, b3b⟩
          obtain ⟨gc, cc, hgv, _, _⟩ := h3.form (by omega)
          injection hgv with hB3 _ hq3
          subst hB3
          obtain rfl := hq3.symm
          have c03 := (b3b.cell (p := ⟨b3, 0, none⟩) s3o).trans c0o
          have c13 := (b3b.cell (p := ⟨b3, 1, none⟩) s3o).trans c1o
          have s33 : b3 < w3.heap.size := Nat.lt_of_lt_of_le s3o b3b.size
          have LD3 := Lib.hid (LD.out.below b3b)
          have OT3 := Lib.hid (own_below OT.out b3b)
          have RT3 := Lib.hid (RT.out.below b3b)
          have OC3 := Lib.hid h3
          have BB3 : Below w.heap.size w w3 := BO.trans (b3b.mono BO.size)
          clear b3b c0o c1o h3
          have hNN : ((N : Int) != (N : Int)) = false := by simp
          go_wp2_with fail
          go_loopw [60] (fun ii wr => ∃ p : Nat, ii = .int .i64 p ∧ p ≤ N ∧ wr = w3) (fun ii _ => N - (intOf ii).toNat)
          case atStart => exact ⟨0, rfl, by omega, rfl⟩
          case round =>
            obtain ⟨p, rfl, hpN, hw⟩ := hrel
            obtain rfl := hw.symm
            by_cases hlt3 : p < N
            · have hpl : ((p : Int) < (N : Int)) := by omega
              obtain ⟨y, hy⟩ : ∃ y, ts[p]? = some y := ⟨_, List.getElem?_eq_getElem (by rw [HPT.out.hl]; exact hlt3)⟩
              have x1 : w3.cell? ⟨gt, p, none⟩ = some (.int .i64 y) := (OT3.out.cellAt p (by omega)).trans (by rw [List.getElem?_map, hy]; rfl)
              have HY := Lib.hid hy
              clear hy
              by_cases hy1 : y = -1
              · have hyb : (y != -1) = false := by simp [hy1]
                clear hy1
                go_wp2_with fail
                go_roundw
                case rel => exact ⟨p + 1, by go_num, by omega, by first | rfl | trivial⟩
                case measure => simp [intOf]; omega
              · have hyb : (y != -1) = true := by simp [hy1]
                have x2 : w3.cell? ⟨gc, p, none⟩ = some (.int .i64 y) := (OC3.out.cellAt p (by omega)).trans (by rw [List.getElem?_map, HCAT.out p hlt3, HFI.out p y HY.out hy1]; rfl)
                have hyy : (y != y) = false := by simp
                clear hy1
                go_wp2_with fail
                go_roundw
                case rel => exact ⟨p + 1, by go_num, by omega, by first | rfl | trivial⟩
                case measure => simp [intOf]; omega
            · have hpl : ¬ ((p : Int) < (N : Int)) := by omega
              have hNL : (N : Int) - 1 = (L : Int) := by have := HLN.out; omega
              have iL0 : (0 : Int) ≤ (L : Int) := by omega
              have iL1 : (L : Int) < (N : Int) := by have := HLN.out; omega
              have hwL : IntKind.i64.wrap ((N : Int) - 1) = (L : Int) := by rw [hNL]; exact (IntWalk.i64_left _).trans (by unfold wrap64; omega)
              go_wp2_with fail
              refine (HNX.out _ LD3.out RT3.out).mono ?_
              rintro x w4 ⟨rfl, b4⟩
              obtain ⟨b10, hb10⟩ : ∃ b, b = w4.heap.size := ⟨_, rfl⟩
              obtain ⟨w5, hw5⟩ : ∃ W, W = w4.alloc (.cells #[.int .i64 lo, .int .i64 hi] 29) := ⟨_, rfl⟩
              have b45 : Below w4.heap.size w4 w5 := by rw [hw5]; exact (Below.refl _ _).alloc (Nat.le_refl _) _
              have f0 : w5.cell? ⟨b10, 0, none⟩ = some (.int .i64 lo) := by rw [hw5, hb10]; go_simp
              have f1 : w5.cell? ⟨b10, 1, none⟩ = some (.int .i64 hi) := by rw [hw5, hb10]; go_simp
              have s10 : b10 < w5.heap.size := by rw [hw5, hb10]; simp
              have b35 : Below w3.heap.size w3 w5 := b4.trans (b45.mono b4.size)
              have c05 := (b35.cell (p := ⟨b3, 0, none⟩) s33).trans c03
              have c15 := (b35.cell (p := ⟨b3, 1, none⟩) s33).trans c13
              have s35 : b3 < w5.heap.size := Nat.lt_of_lt_of_le s33 b35.size
              have OC5 := Lib.hid (own_below OC3.out b35)
              have LD5 := Lib.hid (LD3.out.below b35)
              have RC5 := Lib.hid (own_row OC5.out)
              have gcs : gc < w5.heap.size := (OC5.out.lt gc rfl).2
              have xL : w5.cell? ⟨gc, L, none⟩ = some (.int .i64 z) := (OC5.out.cellAt L (by have := HLN.out; omega)).trans (by rw [List.getElem?_map, HCZ.out]; rfl)
              have B5 : Below w.heap.size w w5 := BB3.trans (b35.mono BB3.size)
              go_upto_region 22 with (fail)
              rw [← hw5]
              try rw [← hb10]
              clear hw5 hb10 b45 b4 b35 c03 c13
              go_wp2_with fail
              obtain ⟨C, hC⟩ : ∃ C : World → Prop, C = fun W => Below w5.heap.size w5 W := ⟨_, rfl⟩
              have qb : ∀ W, C W → Below w5.heap.size w5 W := fun W h => by rw [hC] at h; exact h
              have qc : ∀ W, Below w5.heap.size w5 W → C W := fun W h => by rw [hC]; exact h
              have hC0 : C (World.drew w5) := qc _ (Below.refl _ _).drew
              have q0 : ∀ zc : WC C, zc.w.cell? ⟨b3, 0, none⟩ = some (.int .i64 N) := fun zc => ((qb _ zc.h).cell (p := ⟨b3, 0, none⟩) (by first | omega | (simp; done) | (simp; omega))).trans (by first | assumption | go_simp)
              have q1 : ∀ zc : WC C, zc.w.cell? ⟨b3, 1, none⟩ = some (.slice D1 k c1) := fun zc => ((qb _ zc.h).cell (p := ⟨b3, 1, none⟩) (by first | omega | (simp; done) | (simp; omega))).trans (by first | assumption | go_simp)
              have q2 : ∀ zc : WC C, zc.w.cell? ⟨b10, 0, none⟩ = some (.int .i64 lo) := fun zc => ((qb _ zc.h).cell (p := ⟨b10, 0, none⟩) (by first | omega | (simp; done) | (simp; omega))).trans (by first | assumption | go_simp)
              have q3 : ∀ zc : WC C, zc.w.cell? ⟨b10, 1, none⟩ = some (.int .i64 hi) := fun zc => ((qb _ zc.h).cell (p := ⟨b10, 1, none⟩) (by first | omega | (simp; done) | (simp; omega))).trans (by first | assumption | go_simp)
              have q4 : ∀ zc : WC C, zc.w.cell? ⟨gc, L, none⟩ = some (.int .i64 z) := fun zc => ((qb _ zc.h).cell (p := ⟨gc, L, none⟩) (by first | omega | (simp; done) | (simp; omega))).trans (by first | assumption | go_simp)
              have A0 : Hid (∀ zc : WC C, Calls Try.prog 24 #[.agg #[.int .i64 N, .slice D1 k c1], .slice (some ⟨gc, 0, none⟩) N cc] zc.w fun e w2 => e = .returned (.bool true) ∧ ∃ y : WC C, w2 = y.w) := Lib.hid (fun zc => wc_calls (((fun (_ : World) => HSX.out (some ⟨gc, 0, none⟩) cc zc.w (LD5.out.below (qb _ zc.h)) (RC5.out.below (qb _ zc.h))) zc.w).mono fun e w2 k => ⟨k.1, qc _ ((qb _ zc.h).trans (k.2.mono (qb _ zc.h).size))⟩))
              have A1 : Hid (∀ zc : WC C, Calls Try.prog 18 #[.agg #[.int .i64 lo, .int .i64 hi], .int .i64 z] zc.w fun e w2 => e = .returned (.bool true) ∧ ∃ y : WC C, w2 = y.w) := Lib.hid (fun zc => wc_calls ((HCT.out zc.w).mono fun e w2 k => ⟨k.1, qc _ ((qb _ zc.h).trans (k.2.mono (qb _ zc.h).size))⟩))
              have nwc : Nonempty (WC C) := ⟨⟨_, hC0⟩⟩
              clear hC
              refine region_wc C (by kernel_rfl) (by kernel_rfl) hC0 ?_
              repeat (go_big_quiet_step (first | (go_at_call 24; exact A0.out _) | (go_at_call 18; exact A1.out _)))
              refine wpQuiet_nil ?_
              rintro _ ⟨xq, rfl⟩
              have bq := qb _ xq.h
              have g0 := q0 xq
              have g1 := q1 xq
              have g2 := q2 xq
              have g3 := q3 xq
              have g4 := q4 xq
              obtain ⟨wq, hwq⟩ : ∃ wq, wq = xq.w := ⟨_, rfl⟩
              rw [← hwq] at bq g0 g1 g2 g3 g4 ⊢
              clear hwq xq nwc hC0 qb qc q0 q1 q2 q3 q4 A0 A1 C
              go_wp2_with fail
              go_ret
              exact ⟨rfl, B5.trans (bq.mono B5.size)⟩

  · have hlt : (1048576 : Int) < (n : Int) := by omega
    go_enter Try.func4, Try.ntmps4
    go_wp2_with fail
    go_ret
    exact ⟨rfl, (by repeat (first | exact Below.refl _ _ | refine below_step (by assumption) (by first | omega | (simp; done) | (simp; omega)) ?_ | refine below_drewN ?_ _ | refine Below.drew ?_ | refine Below.setCell ?_ (by first | omega | (simp; done) | (simp; omega)) _ | refine Below.alloc ?_ (by first | omega | (simp; done) | (simp; omega)) _))⟩

/-! ### FnCompleted: the row -/

set_option maxRecDepth 100000 in
theorem FnCompleted_lifted (os : Os) (started : os.Started) (H : Type) (enc : TypeId × Value → H) :
    ReturnsInHanded {} Try.checked os 4 .any (Rows.fnCompletedSpec.pre6 enc Try.prog Try.f4 Rows.fnCompletedRow.domain false) (Rows.fnCompletedSpec.post enc Try.prog Try.f4 false true false false) := by
  refine returnsInHanded_of_change (C := Try.checked) (by kernel_rfl) started (by kernel_rfl) Try.func4
    (ChangeSpec.witness6 (enc := enc) (C := Try.checked) false ⟨#[], #[.slice none 0 0], []⟩ 8 (by kernel_rfl) (by kernel_rfl) (by kernel_rfl) (by kernel_rfl)) ?_
  intro W base args ds gs before hval0 hW hcnd _
  have hval : ∀ (j : Nat) t v, Try.f4.params[j]? = some t → args[j]? = some v → Value.okWide Try.prog W .any base t v := hval0
  have hW2 := hW
  obtain ⟨p, q, hA0, hV, hpq, hfz, hnd⟩ := hW2
  have hA : DataW.TrodAll enc Try.prog W 0 (fun _ => true) true Try.f4.params.toList args.toList ds p := hA0
  rw [Try.params4] at hA hval
  obtain ⟨v0, d0, hargs, hds, h0⟩ := trodAll_one hA
  obtain ⟨hgs, hq⟩ := trodVars_none hV
  subst hargs
  subst hds
  subst hgs
  obtain ⟨A0, n0, c0, rfl⟩ := okWide_slice Try.underlying22 (hval 0 22 v0 rfl rfl)
  have h0b := h0
  obtain ⟨fuel, hf⟩ := h0b
  obtain ⟨hm, hby⟩ := bytes_in Try.underlying22 Try.underlying5 cells_u8 hf
  refine (FnCompleted_walk A0 n0 c0 W hby).mono fun e W2 ⟨he, hb⟩ => ?_
  subst he
  exact ⟨_, rfl, law_post (by kernel_rfl) (by rw [Try.params4]; decide +kernel) (by kernel_rfl) Try.underlying4 rfl ⟨rfl, rfl, rfl⟩ hW hb⟩

theorem FnCompleted_holds : Rows.FnCompletedSaid :=
  OpenClaim.holds_of_wide 4 Try.f4 rfl rfl rfl rfl rfl rfl rfl ⟨rfl, rfl, rfl, rfl, rfl⟩ rfl rfl rfl rfl rfl (by kernel_rfl) Try.func4 (by kernel_rfl)
    (of_decide_eq_true (by kernel_rfl)) (by unfold Func.isWrapper; first | (rw [if_pos (by decide +kernel)]; kernel_rfl) | (rw [if_neg (by decide +kernel)]; exact ⟨rfl, rfl⟩))
    (fun os started H enc _ => FnCompleted_lifted os started H enc)

end Go.Proofs.Yteppmlepbfjnpaa

