/-
  laws.FnWindows HOLDS: whatever the bytes that the network is drawn of: exactly the times of its window can be fixed for an event of a consistent network; the bytes read as they did. No condition.
-/
import Derived.Test.YteppmlepbfjnpaaRows
import Derived.Test.YteppmlepbfjnpaaFrame
import Derived.Test.YteppmlepbfjnpaaBdLkM
import Derived.Test.YteppmlepbfjnpaaImS
import Derived.Test.YteppmlepbfjnpaaPaM
import Derived.Test.YteppmlepbfjnpaaImP
import Derived.Test.YteppmlepbfjnpaaBdTbC
import Derived.Deep.RegionHeld3
import Derived.Deep.CutRange
import Derived.Deep.AppendLies
import Derived.ProofKit
import Derived.Lib.SmallJoins
namespace Go.Proofs.Yteppmlepbfjnpaa
open Go.RowKit Go.ChangeShapes Go.WideShapes Go.ChangeAt Go.WideMaps Go.WideElems
set_option linter.unusedVariables false
set_option linter.unusedSimpArgs false

theorem num_con {f : FuncId} {args : Array Value} {w : World} (h : Calls Try.prog f args w fun e w' => ∃ x : Int, e = .returned (.int .i64 x) ∧ 0 ≤ x ∧ x ≤ 65535 ∧ Below w.heap.size w w') :
    Calls Try.prog f args w fun e w' => ∃ v : {x : Int // 0 ≤ x ∧ x ≤ 65535}, e = .returned (.int .i64 v.1) ∧ Below w.heap.size w w' :=
  h.mono fun e w' ⟨x, e1, e2, e3, e4⟩ => ⟨⟨x, e2, e3⟩, e1, e4⟩
theorem num_e (v : {x : Int // 0 ≤ x ∧ x ≤ 65535}) (N : Nat) (h : 2 ≤ N) : ∃ e : Nat, 1 + v.1.tmod ((N : Int) - 1) = e ∧ 1 ≤ e ∧ e < N := by
  rw [Int.tmod_eq_emod_of_nonneg v.2.1]
  have a := Int.emod_nonneg v.1 (show (N : Int) - 1 ≠ 0 by omega)
  have b := Int.emod_lt_of_pos v.1 (show 0 < (N : Int) - 1 by omega)
  exact ⟨(1 + v.1 % ((N : Int) - 1)).toNat, by omega, by omega, by omega⟩
theorem num_ew (v : {x : Int // 0 ≤ x ∧ x ≤ 65535}) (N : Nat) (h : 2 ≤ N) (h5 : N ≤ 5) : IntKind.i64.wrap (1 + v.1.tmod ((N : Int) - 1)) = 1 + v.1.tmod ((N : Int) - 1) := by
  obtain ⟨e, h1, h2, h3⟩ := num_e v N h
  rw [h1]
  exact (IntWalk.i64_left _).trans (by unfold wrap64; omega)
theorem fx_con {N : Nat} {es : List GL} {ts : List Int} {w : World} {f : FuncId} {args : Array Value} (hf : fxR N es ts = true) (h : Calls Try.prog f args w fun e w' => FxEnd N es ts w e w') :
    Calls Try.prog f args w fun e w' => ∃ B q cb, e = .returned (.tuple #[.agg #[.int .i64 N, .slice B q cb], .bool true]) ∧ q = (es ++ fixL ts).length ∧ w'.ownsRow w.heap.size 76 4 (.slice B q cb) q (cellsL (es ++ fixL ts)) ∧ Below w.heap.size w w' :=
  h.mono fun e w' ⟨B, q, cb, e1, e2, e3, e4⟩ => by
    rw [fxN_yes hf, hf] at e1
    rw [fxE_yes hf] at e2 e3
    exact ⟨B, q, cb, e1, e2, e3, e4⟩
theorem rep_next (j : Nat) : (List.replicate (j + 1) (-1 : Int)).map intV = (List.replicate j (-1 : Int)).map intV ++ [.int .i64 (-1)] := by rw [List.replicate_succ']; simp [intV]

set_option maxRecDepth 100000 in
set_option maxHeartbeats 16000000 in
theorem FnWindows_walk (A : Option Addr) (n c : Nat) (w : World) (hby : Bytes w w.heap.size A n) :
    Calls Try.prog 3 #[.slice A n c] w fun e w' => e = .returned (.bool true) ∧ Below w.heap.size w w' := by
  by_cases h : n ≤ 1048576
  · have HMS := Lib.hid (MakeSimple_any A n c w h hby)
    have hlt : ¬ ((1048576 : Int) < (n : Int)) := by omega
    have B_w : Below w.heap.size w w := Below.refl _ _
    have HBY := Lib.hid hby
    clear hby
    go_enter Try.func3, Try.ntmps3
    go_wp2_with fail
    refine HMS.out.mono ?_
    rintro e w1 ⟨N, es, D1, k, c1, rfl, hN2, hN5, hek, hk7, hdr, ho1, bb1⟩
    have HOK := Lib.hid (below_of_drawn (N := N) (ls := es) (by omega) (by omega) (by omega) hdr)
    have HDR := Lib.hid hdr
    have HL := Lib.hid hek
    have hk20 : k ≤ 1048576 := by omega
    clear HMS hek hdr
    have hhok := HOK.out
    have hk7' : es.length ≤ 7 := by have := HL.out; omega
    obtain ⟨i1, hii, hy0, hy1, hy2⟩ := info_parts Try.info3
    obtain ⟨ok, hok⟩ : ∃ b, b = consR N es := ⟨_, rfl⟩
    have HIC := Lib.hid (fun W h' => impl_IsConsistent N es D1 k c1 W HL.out hk20 h')
    rw [← hok] at HIC
    have HSO := Lib.hid (fun W h' => impl_SimpleOk N es D1 k c1 W HL.out hk20 h')
    rw [hhok] at HSO
    have HWO := Lib.hid (fun v W h1 => impl_WindowOf N es D1 k c1 v W HL.out hk20 h1)
    have HFX := Lib.hid (fun ts T m d W (hl : ts.length = m) (hf : fxR N es ts = true) h1 h2 => fx_con hf (impl_FixTimes N es D1 k c1 ts T m d W HL.out hk20 hl h1 h2))
    have HCE := Lib.hid (fun ts T m d W (hl : ts.length = m) h1 h2 => impl_CanExtend N es D1 k c1 ts T m d W HL.out hk20 hl h1 h2)
    have HCO := Lib.hid (fun ts T m d W (hl : ts.length = m) (hm5 : m ≤ 5) h2 => impl_CountOpen ts T m d W hl (by omega) h2)
    have HI2 := Lib.hid (fun ls A2 m d2 W (hl : ls.length = m) (hm : m ≤ 1048576) h' => impl_IsConsistent N ls A2 m d2 W hl hm h')
    have hn40 := fun (W : World) (b : Below w.heap.size w W) => num_con (MakeNum_any 40 A n c W h (by decide) ((HBY.out.below b).fresh b))
    rw [show ((40 : Nat) : Int) = 40 from rfl] at hn40
    have HN40 := Lib.hid hn40
    have HO := Lib.hid hok.symm
    have HK7 := Lib.hid hk7'
    have LD := Lib.hid ho1.lt
    have O1 := Lib.hid ho1
    clear hn40 hok hk7' hhok ho1
    unfold grV at HIC HSO HWO HFX HCE HI2 ⊢
    -- the network's box
    obtain ⟨b3, hb3⟩ : ∃ b, b = w1.heap.size := ⟨_, rfl⟩
    obtain ⟨wa, hwa⟩ : ∃ W, W = w1.alloc (.cells #[.int .i64 N, .slice D1 k c1] 25) := ⟨_, rfl⟩
    have ba : Below w1.heap.size w1 wa := by rw [hwa]; exact (Below.refl _ _).alloc (Nat.le_refl _) _
    have c0a : wa.cell? ⟨b3, 0, none⟩ = some (.int .i64 N) := by rw [hwa, hb3]; go_simp
    have c1a : wa.cell? ⟨b3, 1, none⟩ = some (.slice D1 k c1) := by rw [hwa, hb3]; go_simp
    have s3a : b3 < wa.heap.size := by rw [hwa, hb3]; simp
    have OA := Lib.hid (own_below O1.out ba)
    have BA : Below w.heap.size w wa := bb1.trans (ba.mono bb1.size)
    go_upto_region 4 with (fail)
    rw [← hwa]
    try rw [← hb3]
    clear hwa ba O1 LD bb1 hb3
    have hw1 : IntKind.i64.wrap ((N : Int) - 1) = (N : Int) - 1 := (IntWalk.i64_left _).trans (by unfold wrap64; omega)
    have hz1 : (((N : Int) - 1) == 0) = false := by simp; omega
    have hz2 : ¬ ((N : Int) - 1 = 0) := by omega
    go_cut [4] from 17 to 23 (fun v wc => ∃ e : Nat, v = Value.int .i64 e ∧ 1 ≤ e ∧ e < N ∧ Below wa.heap.size wa wc)
    case first =>
      go_region_held3 (fun W => W.cell? ⟨b3, 0, none⟩ = some (.int .i64 N) ∧ W.cell? ⟨b3, 1, none⟩ = some (.slice D1 k c1)) (first | (go_keep; done) | ((try dsimp only); refine ⟨?_, ?_⟩ <;> first | assumption | (go_keep; done) | (go_simp; done))) (first | (go_at_call 12; refine (HN40.out _ (BA.trans (Below.mono (B := wa.heap.size) (by repeat (first | exact Below.refl _ _ | refine below_step (by assumption) (by first | omega | (simp; done) | (simp; omega)) ?_ | refine below_drewN ?_ _ | refine Below.drew ?_ | refine Below.setCell ?_ (by first | omega | (simp; done) | (simp; omega)) _ | refine Below.alloc ?_ (by first | omega | (simp; done) | (simp; omega)) _)) BA.size))).mono ?_; rintro e x2 ⟨v1, rfl, y2⟩; have d0 : x2.cell? ⟨b3, 0, none⟩ = some (.int .i64 N) := (y2.cell (p := ⟨b3, 0, none⟩) (by first | omega | (simp; done) | (simp; omega))).trans (by first | assumption | go_simp); have d1 : x2.cell? ⟨b3, 1, none⟩ = some (.slice D1 k c1) := (y2.cell (p := ⟨b3, 1, none⟩) (by first | omega | (simp; done) | (simp; omega))).trans (by first | assumption | go_simp); have hew := num_ew v1 N hN2 hN5; have s2x : b3 < x2.heap.size := Nat.lt_of_lt_of_le (by first | omega | (simp; done) | (simp; omega)) y2.size))
      all_goals go_wp2_with fail
      all_goals go_meet
      all_goals (obtain ⟨e1, q1, q2, q3⟩ := num_e v1 N hN2; exact ⟨e1, by first | (rw [q1]; done) | (rw [← q1]; done) | (simp [q1]; done), q2, q3, (by repeat (first | exact Below.refl _ _ | refine below_step (by assumption) (by first | omega | (simp; done) | (simp; omega)) ?_ | refine below_drewN ?_ _ | refine Below.drew ?_ | refine Below.setCell ?_ (by first | omega | (simp; done) | (simp; omega)) _ | refine Below.alloc ?_ (by first | omega | (simp; done) | (simp; omega)) _))⟩)
    case rest =>
      obtain ⟨w2, hww⟩ : ∃ W, W = wc := ⟨_, rfl⟩
      rw [← hww] at hcut ⊢
      clear hww wc
      obtain ⟨e, rfl, he1, heN, b2⟩ := hcut
      have c02 := (b2.cell (p := ⟨b3, 0, none⟩) s3a).trans c0a
      have c12 := (b2.cell (p := ⟨b3, 1, none⟩) s3a).trans c1a
      have s32 : b3 < w2.heap.size := Nat.lt_of_lt_of_le s3a b2.size
      have O2 := Lib.hid (own_below OA.out b2)
      have B2 : Below w.heap.size w w2 := BA.trans (b2.mono BA.size)
      clear b2 c0a c1a s3a OA BA HN40 hw1 hz1 hz2
      have hwo := fun W h1 => HWO.out (e : Int) W h1
      cases ok with
      | false =>
        rw [wV_no HO.out] at hwo
        have HWE := Lib.hid hwo
        clear hwo
        go_wp2_with fail
        refine (HWE.out _ (own_link O2.out)).mono ?_
        rintro x w3 ⟨rfl, b3b⟩
        have c03 := (b3b.cell (p := ⟨b3, 0, none⟩) s32).trans c02
        have c13 := (b3b.cell (p := ⟨b3, 1, none⟩) s32).trans c12
        have s33 : b3 < w3.heap.size := Nat.lt_of_lt_of_le s32 b3b.size
        have O3 := Lib.hid (own_below O2.out b3b)
        have B3 : Below w.heap.size w w3 := B2.trans (b3b.mono B2.size)
        have n1 : (b3 = w3.heap.size) = False := eq_false (by omega)
        have n2 : (w3.heap.size = b3) = False := eq_false (by omega)
        clear b3b c02 c12 s32
        go_wp2_with fail
        refine (HIC.out _ (own_link (O3.out.alloc _))).mono ?_
        rintro x w4 ⟨rfl, b4⟩
        have ba : Below w3.heap.size w3 w4 := below_step b4 (by first | omega | (simp; done) | (simp; omega)) ((Below.refl _ _).alloc (Nat.le_refl _) _)
        have c04 := (ba.cell (p := ⟨b3, 0, none⟩) s33).trans c03
        have c14 := (ba.cell (p := ⟨b3, 1, none⟩) s33).trans c13
        have O4 := Lib.hid (own_below O3.out ba)
        have B4 : Below w.heap.size w w4 := B3.trans (ba.mono B3.size)
        clear b4 ba c03 c13
        go_wp2_with fail
        refine (HSO.out _ (own_link O4.out)).mono ?_
        rintro x w5 ⟨rfl, b5⟩
        go_wp2_with fail
        go_ret
        exact ⟨rfl, B4.trans (b5.mono B4.size)⟩
      | true =>
        have GG := gw_dw (DW.mk hN2 hN5 HK7.out HDR.out HO.out)
        obtain ⟨hwb, hlo0, hhi0⟩ := gw_win GG heN
        have hrg := gw_rng GG heN
        have hWC := fun (x : Nat) (hx : x ≤ 30) => win_cons (x := (x : Int)) GG heN (by omega) (by omega) (pt_ok HOK.out HK7.out (tsW_pt hN2 heN (by omega) (show (0 : Int) ≤ (x : Int) by omega) (by omega))) (by omega) (by rw [tsW_at heN (by omega) e heN, if_pos rfl]) (tsW_one heN (by omega))
        unfold wV ivV at hwo
        rw [hwb] at hwo
        obtain ⟨lo, hlo⟩ : ∃ t, t = wL N es e := ⟨_, rfl⟩
        obtain ⟨hi, hhi⟩ : ∃ t, t = wH N es e := ⟨_, rfl⟩
        rw [← hlo, ← hhi] at hwo hWC
        have HWE := Lib.hid hwo
        have HWC := Lib.hid hWC
        clear hwo hwb hlo0 hhi0 hrg hWC hlo hhi GG
        go_wp2_with fail
        refine (HWE.out _ (own_link O2.out)).mono ?_
        rintro x w3 ⟨rfl, b3b⟩
        obtain ⟨b5, hb5⟩ : ∃ b, b = w3.heap.size := ⟨_, rfl⟩
        obtain ⟨wb, hwb⟩ : ∃ W, W = w3.alloc (.cells #[.int .i64 lo, .int .i64 hi] 29) := ⟨_, rfl⟩
        have ba : Below w3.heap.size w3 wb := by rw [hwb]; exact (Below.refl _ _).alloc (Nat.le_refl _) _
        have b23 : Below w2.heap.size w2 wb := b3b.trans (ba.mono b3b.size)
        have v0 : wb.cell? ⟨b5, 0, none⟩ = some (.int .i64 lo) := by rw [hwb, hb5]; go_simp
        have v1 : wb.cell? ⟨b5, 1, none⟩ = some (.int .i64 hi) := by rw [hwb, hb5]; go_simp
        have s5 : b5 < wb.heap.size := by rw [hwb, hb5]; simp
        have c0b := (b23.cell (p := ⟨b3, 0, none⟩) s32).trans c02
        have c1b := (b23.cell (p := ⟨b3, 1, none⟩) s32).trans c12
        have s3 : b3 < wb.heap.size := Nat.lt_of_lt_of_le s32 b23.size
        have OB := Lib.hid (own_below O2.out b23)
        have BB : Below w.heap.size w wb := B2.trans (b23.mono B2.size)
        go_upto_region 8 with (fail)
        rw [← hwb]
        try rw [← hb5]
        clear hwb ba b23 b3b hb5 c02 c12 s32 O2 B2 HWE
        go_wp2_with fail
        go_loopw [7] (fun ii wr => ∃ q : Nat, ii = .int .i64 q ∧ q ≤ 30 ∧ Below wb.heap.size wb wr) (fun ii _ => 30 - (intOf ii).toNat)
        case atStart => exact ⟨0, rfl, by omega, Below.refl _ _⟩
        case round =>
          rename World => wo
          obtain ⟨q, rfl, hq30, hbr⟩ := hrel
          have HBR := Lib.hid hbr
          have zr := hbr.size
          have c0r := (hbr.cell (p := ⟨b3, 0, none⟩) s3).trans c0b
          clear hbr
          by_cases hlt2 : q < 30
          · have hql : ((q : Int) < 30) := by omega
            -- the times: everything open
            obtain ⟨wx, hwx⟩ : ∃ W, W = wo.alloc (.cells #[] 3) := ⟨_, rfl⟩
            have bx : Below wo.heap.size wo wx := by rw [hwx]; exact (Below.refl _ _).alloc (Nat.le_refl _) _
            have OX : Hid (wx.ownsRow wo.heap.size 3 1 (.slice (some ⟨wo.heap.size, 0, none⟩) 0 0) 0 ((List.replicate 0 (-1 : Int)).map intV)) := Lib.hid (own_emp wo.heap.size (Nat.le_refl _) (by rw [hwx]; exact heap_alloc_new _ _))
            have BX := Lib.hid bx
            go_upto_region 12 with (fail)
            rw [← hwx]
            clear hwx bx
            go_wp2_with fail
            go_loopw [9, 8] (fun pp tt ws => ∃ (p : Nat) (A2 : Option Addr) (d2 : Nat), pp = .int .i64 p ∧ tt = .slice A2 p d2 ∧ p ≤ N ∧ ws.ownsRow wo.heap.size 3 1 (.slice A2 p d2) p ((List.replicate p (-1 : Int)).map intV) ∧ Below wo.heap.size wo ws) (fun pp _ _ => N - (intOf pp).toNat)
            case atStart => exact ⟨0, _, _, rfl, rfl, Nat.zero_le _, OX.out, BX.out⟩
            case round =>
              rename World => ws
              obtain ⟨p, A2, d2, rfl, rfl, hpN, hown, hbs⟩ := hrel
              have OW := Lib.hid hown
              have HBS := Lib.hid hbs
              have zs := hbs.size
              have hbb := Lib.hid (HBR.out.trans (hbs.mono zr))
              have c0s := (hbb.out.cell (p := ⟨b3, 0, none⟩) s3).trans c0b
              have c1s := (hbb.out.cell (p := ⟨b3, 1, none⟩) s3).trans c1b
              clear hown hbs
              by_cases hlt3 : p < N
              · have hpl : ((p : Int) < (N : Int)) := by omega
                go_wp2_with (at_builtin; refine wpList_append_lies _ rfl _ _ 33 rfl (wo.heap.size) 3 i1 (.int .i64 0) 1 8 Try.underlying33 hii hy0 hy1 hy2 rfl (by decide) _ _ _ rfl (OW.out.alloc _) ⟨_, 0, none⟩ 1 1 _ rfl rfl (World.news_of_block (heap_made _ _ _ (by first | rfl | simp))) (one_c1 _) (by decide) (by unfold maxLen; omega) (by omega) (by simp; omega) _ rfl ?_)
                intro g5 cap w6 ho6 hg6 hat6 hl6
                go_wp2_with fail
                go_roundw
                case rel =>
                  refine ⟨p + 1, some ⟨g5, 0, none⟩, cap, by go_num, rfl, by omega, ?_, ?_⟩
                  · rw [rep_next]; simpa using ho6
                  · exact (HBS.out.alloc HBS.out.size _).grown hg6 (by simp; omega) (fun r hr => (OW.out.lt r hr).1)
                case measure => simp [intOf]; omega
              · have hpe : p = N := by omega
                subst hpe
                have hpl : ¬ ((p : Int) < (p : Int)) := by omega
                obtain ⟨g, cap, hgv, hgb, hgl⟩ := OW.out.form (by omega)
                injection hgv with hA2 _ hcap
                subst hA2
                obtain rfl := hcap.symm
                -- the two stores
                have x0 : ws.cell? ⟨g, 0, none⟩ = some (.int .i64 (-1)) := (OW.out.cellAt 0 (by omega)).trans (by rw [List.getElem?_map, List.getElem?_replicate, if_pos (by omega)]; rfl)
                have xe : ws.cell? ⟨g, e, none⟩ = some (.int .i64 (-1)) := (OW.out.cellAt e (by omega)).trans (by rw [List.getElem?_map, List.getElem?_replicate, if_pos (by omega)]; rfl)
                have z0 := OW.out.frozenAt 0
                have ze := OW.out.frozenAt e
                have ne0 : (0 = e) = False := eq_false (by omega)
                have ne1 : (e = 0) = False := eq_false (by omega)
                have ie0 : (0 : Int) ≤ (e : Int) := by omega
                have ie1 : (e : Int) < (p : Int) := by omega
                have ip0 : (0 : Int) < (p : Int) := by omega
                have HST := Lib.hid ((OW.out.stored 0 (.int .i64 0)).1.stored e (.int .i64 q)).1
                obtain ⟨wt, hwt⟩ : ∃ W, W = (ws.setCell ⟨g, 0, none⟩ (.int .i64 0)).setCell ⟨g, e, none⟩ (.int .i64 q) := ⟨_, rfl⟩
                have ot : wt.ownsRow wo.heap.size 3 1 (.slice (some ⟨g, 0, none⟩) p cap) p ((tsW p e q).map intV) := by
                  rw [hwt]; unfold tsW; rw [List.map_set, List.map_set]; exact HST.out
                have bt : Below wb.heap.size wb wt := by rw [hwt]; exact (hbb.out.setCell (by dsimp only; omega) _).setCell (by dsimp only; omega) _
                have OT := Lib.hid ot
                have BT := Lib.hid bt
                go_upto_region 18 with (fail)
                rw [← hwt]
                clear hwt ot bt x0 xe z0 ze HST OW HBS hbb c0s c1s ne0 ne1
                have c0t := (BT.out.cell (p := ⟨b3, 0, none⟩) s3).trans c0b
                have c1t := (BT.out.cell (p := ⟨b3, 1, none⟩) s3).trans c1b
                have v0t := (BT.out.cell (p := ⟨b5, 0, none⟩) s5).trans v0
                have v1t := (BT.out.cell (p := ⟨b5, 1, none⟩) s5).trans v1
                have zt := BT.out.size
                have hpt := tsW_pt (x := (q : Int)) hN2 heN (by omega) (by omega) (by omega)
                have HFXR := Lib.hid (pt_fx HOK.out HK7.out hpt)
                have HTL := Lib.hid (tsW_len p e (q : Int))
                have hce : ceR p es (tsW p e q) = inI lo hi q := by unfold ceR; rw [HFXR.out, Bool.true_and]; exact HWC.out q (by omega)
                have hcn : cntR (tsW p e q) = (p : Int) - 2 := tsW_cnt hN2 hN5 heN (by omega) (by omega)
                have hcc := HWC.out q (by omega)
                obtain ⟨ts, hts⟩ : ∃ t, t = tsW p e q := ⟨_, rfl⟩
                rw [← hts] at OT HFXR HTL hce hcn hcc
                obtain ⟨b, hb⟩ : ∃ b, b = inI lo hi q := ⟨_, rfl⟩
                rw [← hb] at hce hcc
                have hct := impl_Contains lo hi q
                rw [← hb] at hct
                unfold ivV at hct
                have HCT := Lib.hid hct
                have HCEV := Lib.hid hce
                have HCNV := Lib.hid hcn
                have HCCV := Lib.hid hcc
                have hbbn : (b != b) = false := by simp
                have hle : (es ++ fixL ts).length ≤ 40 := (okS_rng (fxR_ok HFXR.out).2).2.2
                have HLE := Lib.hid hle
                clear hts hb hct hce hcn hcc hpt hle
                go_wp2_with fail
                refine (HFX.out ts _ p cap _ HTL.out HFXR.out (own_link (own_below OB.out BT.out)) (own_row OT.out)).mono ?_
                rintro x w6 ⟨B6, q6, c6, rfl, hq6, h6, b6⟩
                have HQ6 := Lib.hid hq6.symm
                clear hq6
                obtain ⟨b10, hb10⟩ : ∃ b, b = w6.heap.size := ⟨_, rfl⟩
                obtain ⟨w7, hw7⟩ : ∃ W, W = w6.alloc (.cells #[.int .i64 p, .slice B6 q6 c6] 25) := ⟨_, rfl⟩
                have b67 : Below w6.heap.size w6 w7 := by rw [hw7]; exact (Below.refl _ _).alloc (Nat.le_refl _) _
                have f0 : w7.cell? ⟨b10, 0, none⟩ = some (.int .i64 p) := by rw [hw7, hb10]; go_simp
                have f1 : w7.cell? ⟨b10, 1, none⟩ = some (.slice B6 q6 c6) := by rw [hw7, hb10]; go_simp
                have s10 : b10 < w7.heap.size := by rw [hw7, hb10]; simp
                have bt7 : Below wt.heap.size wt w7 := b6.trans (b67.mono b6.size)
                have c07 := (bt7.cell (p := ⟨b3, 0, none⟩) (by dsimp only; omega)).trans c0t
                have c17 := (bt7.cell (p := ⟨b3, 1, none⟩) (by dsimp only; omega)).trans c1t
                have v07 := (bt7.cell (p := ⟨b5, 0, none⟩) (by dsimp only; omega)).trans v0t
                have v17 := (bt7.cell (p := ⟨b5, 1, none⟩) (by dsimp only; omega)).trans v1t
                have z7 : wt.heap.size ≤ w7.heap.size := bt7.size
                have LF := Lib.hid (own_link (own_below h6 b67))
                have RT := Lib.hid (own_row (own_below OT.out bt7))
                have B7 := Lib.hid (BT.out.trans (bt7.mono zt))
                have LD := Lib.hid (own_link (own_below OB.out B7.out))
                go_upto_region 19 with (fail)
                rw [← hw7]
                try rw [← hb10]
                clear hw7 hb10 b67 b6 h6 bt7 c0t c1t v0t v1t OT BT
                have s37 : b3 < w7.heap.size := by omega
                have s57 : b5 < w7.heap.size := by omega
                have hcx := fun (W : World) h1 h2 => HCE.out ts (some ⟨g, 0, none⟩) p cap W HTL.out h1 h2
                rw [HCEV.out] at hcx
                have hix := fun (W : World) h1 => HI2.out (es ++ fixL ts) B6 q6 c6 W HQ6.out (by have := HLE.out; have := HQ6.out; omega) h1
                rw [HCCV.out] at hix
                have hnx := fun (W : World) h1 => HCO.out ts (some ⟨g, 0, none⟩) p cap W HTL.out hN5 h1
                rw [HCNV.out] at hnx
                have HCX := Lib.hid hcx
                have HIX := Lib.hid hix
                have HNX := Lib.hid hnx
                clear hcx hix hnx
                go_wp2_with fail
                obtain ⟨C, hC⟩ : ∃ C : World → Prop, C = fun W => Below w7.heap.size w7 W := ⟨_, rfl⟩
                have qb : ∀ W, C W → Below w7.heap.size w7 W := fun W h => by rw [hC] at h; exact h
                have qc : ∀ W, Below w7.heap.size w7 W → C W := fun W h => by rw [hC]; exact h
                have hC0 : C (World.drew w7) := qc _ (Below.refl _ _).drew
                have q0 : ∀ zc : WC C, zc.w.cell? ⟨b3, 0, none⟩ = some (.int .i64 p) := fun zc => ((qb _ zc.h).cell (p := ⟨b3, 0, none⟩) (by first | omega | (simp; done) | (simp; omega))).trans (by first | assumption | go_simp)
                have q1 : ∀ zc : WC C, zc.w.cell? ⟨b3, 1, none⟩ = some (.slice D1 k c1) := fun zc => ((qb _ zc.h).cell (p := ⟨b3, 1, none⟩) (by first | omega | (simp; done) | (simp; omega))).trans (by first | assumption | go_simp)
                have q2 : ∀ zc : WC C, zc.w.cell? ⟨b5, 0, none⟩ = some (.int .i64 lo) := fun zc => ((qb _ zc.h).cell (p := ⟨b5, 0, none⟩) (by first | omega | (simp; done) | (simp; omega))).trans (by first | assumption | go_simp)
                have q3 : ∀ zc : WC C, zc.w.cell? ⟨b5, 1, none⟩ = some (.int .i64 hi) := fun zc => ((qb _ zc.h).cell (p := ⟨b5, 1, none⟩) (by first | omega | (simp; done) | (simp; omega))).trans (by first | assumption | go_simp)
                have q4 : ∀ zc : WC C, zc.w.cell? ⟨b10, 0, none⟩ = some (.int .i64 p) := fun zc => ((qb _ zc.h).cell (p := ⟨b10, 0, none⟩) (by first | omega | (simp; done) | (simp; omega))).trans (by first | assumption | go_simp)
                have q5 : ∀ zc : WC C, zc.w.cell? ⟨b10, 1, none⟩ = some (.slice B6 q6 c6) := fun zc => ((qb _ zc.h).cell (p := ⟨b10, 1, none⟩) (by first | omega | (simp; done) | (simp; omega))).trans (by first | assumption | go_simp)
                have A0 : Hid (∀ zc : WC C, Calls Try.prog 17 #[.agg #[.int .i64 p, .slice D1 k c1], .slice (some ⟨g, 0, none⟩) p cap] zc.w fun e w2 => e = .returned (.bool b) ∧ ∃ y : WC C, w2 = y.w) := Lib.hid (fun zc => wc_calls (((fun (_ : World) => HCX.out zc.w (LD.out.below (qb _ zc.h)) (RT.out.below (qb _ zc.h))) zc.w).mono fun e w2 k => ⟨k.1, qc _ ((qb _ zc.h).trans (k.2.mono (qb _ zc.h).size))⟩))
                have A1 : Hid (∀ zc : WC C, Calls Try.prog 18 #[.agg #[.int .i64 lo, .int .i64 hi], .int .i64 q] zc.w fun e w2 => e = .returned (.bool b) ∧ ∃ y : WC C, w2 = y.w) := Lib.hid (fun zc => wc_calls ((HCT.out zc.w).mono fun e w2 k => ⟨k.1, qc _ ((qb _ zc.h).trans (k.2.mono (qb _ zc.h).size))⟩))
                have A2 : Hid (∀ zc : WC C, Calls Try.prog 14 #[.agg #[.int .i64 p, .slice B6 q6 c6]] zc.w fun e w2 => e = .returned (.bool b) ∧ ∃ y : WC C, w2 = y.w) := Lib.hid (fun zc => wc_calls (((fun (_ : World) => HIX.out zc.w (LF.out.below (qb _ zc.h))) zc.w).mono fun e w2 k => ⟨k.1, qc _ ((qb _ zc.h).trans (k.2.mono (qb _ zc.h).size))⟩))
                have A3 : Hid (∀ zc : WC C, Calls Try.prog 19 #[.slice (some ⟨g, 0, none⟩) p cap] zc.w fun e w2 => e = .returned (.int .i64 ((p : Int) - 2)) ∧ ∃ y : WC C, w2 = y.w) := Lib.hid (fun zc => wc_calls (((fun (_ : World) => HNX.out zc.w (RT.out.below (qb _ zc.h))) zc.w).mono fun e w2 k => ⟨k.1, qc _ ((qb _ zc.h).trans (k.2.mono (qb _ zc.h).size))⟩))
                have nwc : Nonempty (WC C) := ⟨⟨_, hC0⟩⟩
                clear hC
                refine region_wc C (by kernel_rfl) (by kernel_rfl) hC0 ?_
                repeat (go_big_quiet_step (first | (go_at_call 17; exact A0.out _) | (go_at_call 18; exact A1.out _) | (go_at_call 14; exact A2.out _) | (go_at_call 19; exact A3.out _)))
                refine wpQuiet_nil ?_
                rintro _ ⟨xq, rfl⟩
                have bq := qb _ xq.h
                have g0 := q0 xq
                have g1 := q1 xq
                have g2 := q2 xq
                have g3 := q3 xq
                have g4 := q4 xq
                have g5 := q5 xq
                obtain ⟨wq, hwq⟩ : ∃ wq, wq = xq.w := ⟨_, rfl⟩
                rw [← hwq] at bq g0 g1 g2 g3 g4 g5 ⊢
                clear hwq xq nwc hC0 qb qc q0 q1 q2 q3 q4 q5 A0 A1 A2 A3 C
                go_wp2_with fail
                go_roundw
                case rel => exact ⟨q + 1, by go_num, by omega, B7.out.trans (bq.mono B7.out.size)⟩
                case measure => simp [intOf]; omega
          · have hql : ¬ ((q : Int) < 30) := by omega
            go_wp2_with fail
            go_ret
            exact ⟨rfl, BB.trans (HBR.out.mono BB.size)⟩

  · have hlt : (1048576 : Int) < (n : Int) := by omega
    go_enter Try.func3, Try.ntmps3
    go_wp2_with fail
    go_ret
    exact ⟨rfl, (by repeat (first | exact Below.refl _ _ | refine below_step (by assumption) (by first | omega | (simp; done) | (simp; omega)) ?_ | refine below_drewN ?_ _ | refine Below.drew ?_ | refine Below.setCell ?_ (by first | omega | (simp; done) | (simp; omega)) _ | refine Below.alloc ?_ (by first | omega | (simp; done) | (simp; omega)) _))⟩

/-! ### FnWindows: the row -/

set_option maxRecDepth 100000 in
theorem FnWindows_lifted (os : Os) (started : os.Started) (H : Type) (enc : TypeId × Value → H) :
    ReturnsInHanded {} Try.checked os 3 .any (Rows.fnWindowsSpec.pre6 enc Try.prog Try.f3 Rows.fnWindowsRow.domain false) (Rows.fnWindowsSpec.post enc Try.prog Try.f3 false true false false) := by
  refine returnsInHanded_of_change (C := Try.checked) (by kernel_rfl) started (by kernel_rfl) Try.func3
    (ChangeSpec.witness6 (enc := enc) (C := Try.checked) false ⟨#[], #[.slice none 0 0], []⟩ 8 (by kernel_rfl) (by kernel_rfl) (by kernel_rfl) (by kernel_rfl)) ?_
  intro W base args ds gs before hval0 hW hcnd _
  have hval : ∀ (j : Nat) t v, Try.f3.params[j]? = some t → args[j]? = some v → Value.okWide Try.prog W .any base t v := hval0
  have hW2 := hW
  obtain ⟨p, q, hA0, hV, hpq, hfz, hnd⟩ := hW2
  have hA : DataW.TrodAll enc Try.prog W 0 (fun _ => true) true Try.f3.params.toList args.toList ds p := hA0
  rw [Try.params3] at hA hval
  obtain ⟨v0, d0, hargs, hds, h0⟩ := trodAll_one hA
  obtain ⟨hgs, hq⟩ := trodVars_none hV
  subst hargs
  subst hds
  subst hgs
  obtain ⟨A0, n0, c0, rfl⟩ := okWide_slice Try.underlying22 (hval 0 22 v0 rfl rfl)
  have h0b := h0
  obtain ⟨fuel, hf⟩ := h0b
  obtain ⟨hm, hby⟩ := bytes_in Try.underlying22 Try.underlying5 cells_u8 hf
  refine (FnWindows_walk A0 n0 c0 W hby).mono fun e W2 ⟨he, hb⟩ => ?_
  subst he
  exact ⟨_, rfl, law_post (by kernel_rfl) (by rw [Try.params3]; decide +kernel) (by kernel_rfl) Try.underlying4 rfl ⟨rfl, rfl, rfl⟩ hW hb⟩

theorem FnWindows_holds : Rows.FnWindowsSaid :=
  OpenClaim.holds_of_wide 3 Try.f3 rfl rfl rfl rfl rfl rfl rfl ⟨rfl, rfl, rfl, rfl, rfl⟩ rfl rfl rfl rfl rfl (by kernel_rfl) Try.func3 (by kernel_rfl)
    (of_decide_eq_true (by kernel_rfl)) (by unfold Func.isWrapper; first | (rw [if_pos (by decide +kernel)]; kernel_rfl) | (rw [if_neg (by decide +kernel)]; exact ⟨rfl, rfl⟩))
    (fun os started H enc _ => FnWindows_lifted os started H enc)

end Go.Proofs.Yteppmlepbfjnpaa

