/-
  laws.FnLabels HOLDS, AND ITS TIED CARD: whatever the bytes that the two labels are drawn of, the law answers true, and the bytes read as they did. The listed tables and error values of the library are tied to the program's text.
-/
import Derived.Test.YtaokabkffnjbjaaDoorCards
import Derived.Test.YtaokabkffnjbjaaDoorTie
import Derived.Test.YtaokabkffnjbjaaDoorFrame
import Derived.Test.YtaokabkffnjbjaaDoorBdLwF
import Derived.Test.YtaokabkffnjbjaaDoorBdWords
import Derived.ProofKit
import Derived.Lib.SmallJoins
import Derived.Deep.RegionHeld3
import Derived.Deep.CutRange
import Derived.Deep.DeepHandedRow
import Derived.Deep.DeepWitnessRowRef
import Derived.LaidMore
import Derived.LaidHandle
import Derived.MakeChecks
import Derived.Stop.LaidErr
import Derived.Lib.LaidTab
namespace Go.Proofs.YtaokabkffnjbjaaDoor
open Go.RowKit Go.ChangeShapes Go.WideShapes Go.ChangeAt Go.WideMaps Go.WideElems
open Go.ChangeMaps (open_string shut_string)
set_option linter.unusedVariables false
set_option linter.unusedSimpArgs false

theorem own_to {w : World} {B e n s lo hi : Nat} {v : Value} {xs : List Value} (h : w.ownsRow B e s v n xs) (hl : ∀ q, v.ownBlock = some q → lo < q ∧ q < hi) : w.ownsRow (lo + 1) e s v n xs := by
  refine ⟨h.1, ?_⟩
  rcases h.2 with h2 | ⟨g, cap, cur, h1, h2, h3⟩
  · exact .inl h2
  · subst h1
    have := (hl g rfl).1
    exact .inr ⟨g, cap, cur, rfl, by omega, h3⟩
theorem own_off {v v' : Value} {a b c d : Nat} (h : ∀ q, v.ownBlock = some q → a < q ∧ q < b) (h' : ∀ q, v'.ownBlock = some q → c < q ∧ q < d) (hd : b ≤ c + 1 ∨ d ≤ a + 1 := by omega) : v.ownBlock = none ∨ v.ownBlock ≠ v'.ownBlock := by
  cases hb : v.ownBlock with
  | none => exact .inl rfl
  | some q =>
    refine .inr fun e => ?_
    have h1 := h q hb
    have h2 := h' q e.symm
    omega

theorem own_off7 {v v' : Value} {a b c d : Nat} (h : ∀ q, v.ownBlock = some q → a ≤ q ∧ q < b) (h' : ∀ q, v'.ownBlock = some q → c ≤ q ∧ q < d) (hd : b ≤ c ∨ d ≤ a := by omega) : v.ownBlock = none ∨ v.ownBlock ≠ v'.ownBlock := by
  cases hv : v.ownBlock with
  | none => exact Or.inl rfl
  | some q =>
    refine Or.inr fun he => ?_
    have h1 := h q hv
    have h2 := h' q he.symm
    omega
theorem same_below {f : FuncId} {args : Array Value} {w : World} {v : Value} (h : Calls Tryd.prog f args w fun e w' => e = .returned v ∧ w = w') : Calls Tryd.prog f args w fun e w' => e = .returned v ∧ Below w.heap.size w w' :=
  h.mono fun e w' ⟨h1, h2⟩ => ⟨h1, by subst h2; exact Below.refl _ _⟩
theorem ints_c7 {f : FuncId} {args : Array Value} {w : World} {r zs : List Int} {q : Nat} (h1 : zs = r) (h2 : q = zs.length) (h : Calls Tryd.prog f args w fun e w' => ∃ B m cb, e = .returned (.slice B m cb) ∧ m = r.length ∧ w'.ownsRow w.heap.size 3 1 (.slice B m cb) m (r.map intV) ∧ Below w.heap.size w w') :
    Calls Tryd.prog f args w fun e w' => ∃ B cb, e = .returned (.slice B q cb) ∧ w'.ownsRow w.heap.size 3 1 (.slice B q cb) q (zs.map intV) ∧ Below w.heap.size w w' :=
  h.mono fun e w' ⟨A, k, c, e1, e2, e3, e4⟩ => by
    subst h1 h2 e2
    exact ⟨A, c, e1, e3, e4⟩
theorem intsb_c7 {f : FuncId} {args : Array Value} {w : World} {r : List Int × Bool} {zs : List Int} {ok : Bool} {q : Nat} (h1 : zs = r.1) (h0 : ok = r.2) (h2 : q = zs.length) (h : Calls Tryd.prog f args w fun e w' => ∃ B m cb, e = .returned (.tuple #[.slice B m cb, .bool r.2]) ∧ m = r.1.length ∧ w'.ownsRow w.heap.size 3 1 (.slice B m cb) m (r.1.map intV) ∧ Below w.heap.size w w') :
    Calls Tryd.prog f args w fun e w' => ∃ B cb, e = .returned (.tuple #[.slice B q cb, .bool ok]) ∧ w'.ownsRow w.heap.size 3 1 (.slice B q cb) q (zs.map intV) ∧ Below w.heap.size w w' :=
  h.mono fun e w' ⟨A, k, c, e1, e2, e3, e4⟩ => by
    subst h1 h2 h0 e2
    exact ⟨A, c, e1, e3, e4⟩

theorem vbit (m : Nat) (h : m < 8) : wrap64 (1 - wrap64 (2 * bits BinOp.and IntKind.i64 (m : Int) 1)) = bitV m := by
  have h8 : m = 0 ∨ m = 1 ∨ m = 2 ∨ m = 3 ∨ m = 4 ∨ m = 5 ∨ m = 6 ∨ m = 7 := by omega
  rcases h8 with rfl | rfl | rfl | rfl | rfl | rfl | rfl | rfl <;> decide +kernel
theorem three_row (w : World) (a b c : Int) : RowAt (w.alloc (.cells #[.int .i64 a, .int .i64 b, .int .i64 c] 3)) (some ⟨w.heap.size, 0, none⟩) ([a, b, c].map intV) := by
  intro _
  refine ⟨w.heap.size, 0, rfl, by simp, fun j hj => ?_⟩
  rw [Nat.zero_add, cell_of_row _ _ j _ _ _ (heap_alloc_new w _)]
  match j, hj with
  | 0, _ => rfl
  | 1, _ => rfl
  | 2, _ => rfl
  | j + 3, h => simp at h; omega

set_option maxRecDepth 100000 in
set_option maxHeartbeats 16000000 in
theorem FnLabels_walk (A : Option Addr) (n c : Nat) (w : World) (hn : n ≤ maxLen) (hby : Bytes w w.heap.size A n) (ht : Pow10 w) (he : Errs w) :
    Calls Tryd.prog 3 #[.slice A n c] w fun e w' => e = .returned (.bool true) ∧ Below w.heap.size w w' := by
  have hn2 := hn
  unfold maxLen at hn2
  have HBY := Lib.hid hby
  have HTT := Lib.hid ht
  have HER := Lib.hid he
  clear ht he hby hn
  by_cases hlong : n ≤ 1048576
  · have hl1 : ¬ ((1048576 : Int) < n) := by omega
    have HM1 := Lib.hid (MakeLabel_any 1 A n c w hlong (by omega) HBY.out)
    have HM9 := Lib.hid (fun (W : World) (hb : Below w.heap.size w W) => MakeLabel_any 9 A n c W hlong (by omega) ((HBY.out.below hb).fresh hb))
    go_enter Tryd.func3, Tryd.ntmps3
    have B_w : Below w.heap.size w w := Below.refl _ _
    go_wp2_with fail
    refine (HM1.out).mono ?_
    rintro e u1 ⟨s, t, u, D1, k, d1, rfl, hs, ht, hu, hk, hh, bh⟩
    obtain ⟨la, hla⟩ : ∃ l, l = drL s t u := ⟨_, rfl⟩
    rw [← hla] at hk hh
    have R1 := Lib.hid (show labR la = true from by rw [hla]; exact drL_lab hs ht hu)
    have R2 := Lib.hid (show impR la la = true from by rw [hla]; exact drL_imp hs ht hu)
    have R3 := Lib.hid (show parL (fmtL la) = (la, true) from by rw [hla]; exact drL_read hs ht hu)
    have R4 := Lib.hid (show (fmtL la).size ≤ 1048576 from by rw [hla]; have := drL_size hs ht hu; omega)
    have LA := Lib.hid hk.symm
    have hk3 : k ≤ 3 := by rw [hk]; exact labR_len R1.out
    have HLA := Lib.hid hla
    have g1 := Lib.hid hh
    clear hh hla hk
    have B_u1 : Below w.heap.size w u1 := B_w.trans (bh.mono B_w.size)
    clear   bh
    have oA_u1 := g1
    clear g1
    go_wp2_with fail
    refine (HM9.out _ B_u1).mono ?_
    rintro e u2 ⟨s2, t2, v2, D2, k2, d2, rfl, hs2, ht2, hu2, hk2, hh, bh⟩
    obtain ⟨lb, hlb⟩ : ∃ l, l = drL s2 t2 v2 := ⟨_, rfl⟩
    rw [← hlb] at hk2 hh
    have LB := Lib.hid hk2.symm
    have hk23 : k2 ≤ 3 := by rw [hk2, hlb]; exact labR_len (drL_lab hs2 ht2 hu2)
    have HBO := Lib.hid (fun (j : Nat) (hj : j < 8) => (show (decide (stR la (vsN j) = 1) && decide (stR lb (vsN j) = 1)) = ((jnR la lb).2 && decide (stR (jnR la lb).1 (vsN j) = 1)) from by rw [HLA.out, hlb]; exact drL_both hs ht hu hs2 ht2 hu2 hj))
    have g1 := Lib.hid hh
    clear hh hlb hk2 HLA hs ht hu hs2 ht2 hu2
    have B_u2 : Below w.heap.size w u2 := B_u1.trans (bh.mono B_u1.size)
    have oA_u2 := Lib.hid (own_below oA_u1.out bh)
    clear  oA_u1 bh
    have oB_u2 := g1
    clear g1
    have HF := Lib.hid (impl_FormatLabel la D1 k d1 u2 LA.out (by omega) (own_row oA_u2.out) (var_kept B_u2 HTT.out))
    obtain ⟨tx, htx⟩ : ∃ x, x = fmtL la := ⟨_, rfl⟩
    rw [← htx] at HF R3 R4
    have HP := Lib.hid (fun (W : World) (hb : Below w.heap.size w W) => impl_ParseLabel tx W R4.out (var_kept hb HTT.out) (HER.out.kept hb))
    rw [R3.out] at HP
    dsimp only at HP
    rw [show la.length = k from LA.out] at HP
    clear htx R3 R4
    go_wp2_with fail
    refine (HF.out).mono ?_
    rintro e u3 ⟨rfl, bh⟩
    clear HF
    have B_u3 : Below w.heap.size w u3 := B_u2.trans (bh.mono B_u2.size)
    have oA_u3 := Lib.hid (own_below oA_u2.out bh)
    have oB_u3 := Lib.hid (own_below oB_u2.out bh)
    clear  oA_u2 oB_u2 bh
    go_wp2_with fail
    refine (HP.out _ B_u3).mono ?_
    rintro e u4 ⟨D4, k4, d4, rfl, hk4, hh, bh⟩
    subst hk4
    have g1 := Lib.hid hh
    clear hh HP
    have B_u4 : Below w.heap.size w u4 := B_u3.trans (bh.mono B_u3.size)
    have oA_u4 := Lib.hid (own_below oA_u3.out bh)
    have oB_u4 := Lib.hid (own_below oB_u3.out bh)
    clear  oA_u3 oB_u3 bh
    have oX_u4 := g1
    clear g1
    have HK := Lib.hid (impl_LabelOk la D1 k4 d1 u4 LA.out (by omega) (own_row oA_u4.out))
    rw [R1.out] at HK
    have hkk : ((k4 : Int) != k4) = false := by simp
    go_wp2_with fail
    refine (HK.out).mono ?_
    rintro e u5 ⟨rfl, bh⟩
    clear HK
    have B_u5 : Below w.heap.size w u5 := B_u4.trans (bh.mono B_u4.size)
    have oA_u5 := Lib.hid (own_below oA_u4.out bh)
    have oB_u5 := Lib.hid (own_below oB_u4.out bh)
    have oX_u5 := Lib.hid (own_below oX_u4.out bh)
    clear  oA_u4 oB_u4 oX_u4 bh
    have HK := Lib.hid (impl_ImpliesLabel la la D1 k4 d1 D4 k4 d4 u5 LA.out (by omega) LA.out (by omega) (own_row oA_u5.out) (own_row oX_u5.out))
    rw [R2.out] at HK
    go_wp2_with fail
    refine (HK.out).mono ?_
    rintro e u6 ⟨rfl, bh⟩
    clear HK
    have B_u6 : Below w.heap.size w u6 := B_u5.trans (bh.mono B_u5.size)
    have oA_u6 := Lib.hid (own_below oA_u5.out bh)
    have oB_u6 := Lib.hid (own_below oB_u5.out bh)
    have oX_u6 := Lib.hid (own_below oX_u5.out bh)
    clear  oA_u5 oB_u5 oX_u5 bh
    have HK := Lib.hid (impl_ImpliesLabel la la D4 k4 d4 D1 k4 d1 u6 LA.out (by omega) LA.out (by omega) (own_row oX_u6.out) (own_row oA_u6.out))
    rw [R2.out] at HK
    go_wp2_with fail
    refine (HK.out).mono ?_
    rintro e u7 ⟨rfl, bh⟩
    clear HK
    have B_u7 : Below w.heap.size w u7 := B_u6.trans (bh.mono B_u6.size)
    have oA_u7 := Lib.hid (own_below oA_u6.out bh)
    have oB_u7 := Lib.hid (own_below oB_u6.out bh)
    have oX_u7 := Lib.hid (own_below oX_u6.out bh)
    clear  oA_u6 oB_u6 oX_u6 bh
    clear oX_u7
    have HK := Lib.hid (impl_JoinLabels la lb D1 k4 d1 D2 k2 d2 u7 LA.out (by omega) LB.out (by omega) (own_row oA_u7.out) (own_row oB_u7.out))
    obtain ⟨lj, hlj⟩ : ∃ l, l = (jnR la lb).1 := ⟨_, rfl⟩
    obtain ⟨kb, hkb⟩ : ∃ l, l = (jnR la lb).2 := ⟨_, rfl⟩
    have hj3 : lj.length ≤ 3 := by rw [hlj]; exact jnR_len la lb
    rw [← hlj, ← hkb] at HK HBO
    clear hlj hkb
    go_wp2_with fail
    refine (HK.out).mono ?_
    rintro e u8 ⟨D8, k8, d8, rfl, hk8, hh, bh⟩
    have LJ := Lib.hid hk8.symm
    rw [← hk8] at hj3
    have g1 := Lib.hid hh
    clear hh hk8 HK
    have B_u8 : Below w.heap.size w u8 := B_u7.trans (bh.mono B_u7.size)
    have oA_u8 := Lib.hid (own_below oA_u7.out bh)
    have oB_u8 := Lib.hid (own_below oB_u7.out bh)
    clear  oA_u7 oB_u7 bh
    have oJ_u8 := g1
    clear g1
    go_wp2_with fail
    have RA := Lib.hid (own_row oA_u8.out)
    have RB := Lib.hid (own_row oB_u8.out)
    have RJ := Lib.hid (own_row oJ_u8.out)
    clear oA_u8 oB_u8 oJ_u8
    go_loopw [9, 10, 11] (fun nn vv oo wr => ∃ q : Nat, q ≤ 8 ∧ nn = .int .i64 q ∧ Below w.heap.size w wr ∧ RowAt wr D1 (la.map intV) ∧ RowAt wr D2 (lb.map intV) ∧ RowAt wr D8 (lj.map intV)) (fun nn _ _ _ => 8 - (intOf nn).toNat)
    case atStart => exact ⟨0, by omega, rfl, B_u8, RA.out, RB.out, RJ.out⟩
    case round =>
      clear RA RB RJ B_u8
      rename_i nn vv oo wr
      obtain ⟨q, hq, rfl, hbw, hra, hrb, hrj⟩ := hrel
      have HRA := Lib.hid hra
      have HRB := Lib.hid hrb
      have HRJ := Lib.hid hrj
      have HBW := Lib.hid hbw
      clear hra hrb hrj hbw
      by_cases hlt : q < 8
      · have HQ := Lib.hid (HBO.out q hlt)
        have e0 := vbit q hlt
        have e1 := vbit (q / 2) (by omega)
        have e2 := vbit (q / 4) (by omega)
        rw [show (((q / 2 : Nat) : Int)) = (q : Int) / 2 from by omega] at e1
        rw [show (((q / 4 : Nat) : Int)) = (q : Int) / 4 from by omega] at e2
        have E0 := Lib.hid e0
        have E1 := Lib.hid e1
        have E2 := Lib.hid e2
        clear e0 e1 e2
        have HVO := Lib.hid (vsN_val hlt)
        have HVC := Lib.hid (vsN_cz hlt)
        go_wp2_with fail
        rw [E0.out, E1.out, E2.out]
        clear E0 E1 E2
        obtain ⟨wv, hwv⟩ : ∃ W, W = wr.alloc (.cells #[.int .i64 (bitV q), .int .i64 (bitV (q / 2)), .int .i64 (bitV (q / 4))] 3) := ⟨_, rfl⟩
        rw [← hwv]
        have bb : Hid (Below wr.heap.size wr wv) := Lib.hid (by rw [hwv]; exact (Below.refl _ _).alloc (Nat.le_refl _) _)
        have rv : Hid (RowAt wv (some ⟨wr.heap.size, 0, none⟩) ((vsN q).map intV)) := Lib.hid (by rw [hwv]; exact three_row wr _ _ _)
        clear hwv
        have HSA := Lib.hid (fun (W : World) (hb : Below wr.heap.size wr W) (hv : RowAt W (some ⟨wr.heap.size, 0, none⟩) ((vsN q).map intV)) => impl_LabelState la (vsN q) D1 k4 d1 (some ⟨wr.heap.size, 0, none⟩) 3 3 W LA.out (by omega) rfl (by omega) (HRA.out.below hb) hv)
        have HSB := Lib.hid (fun (W : World) (hb : Below wr.heap.size wr W) (hv : RowAt W (some ⟨wr.heap.size, 0, none⟩) ((vsN q).map intV)) => impl_LabelState lb (vsN q) D2 k2 d2 (some ⟨wr.heap.size, 0, none⟩) 3 3 W LB.out (by omega) rfl (by omega) (HRB.out.below hb) hv)
        have HSJ := Lib.hid (fun (W : World) (hb : Below wr.heap.size wr W) (hv : RowAt W (some ⟨wr.heap.size, 0, none⟩) ((vsN q).map intV)) => impl_LabelState lj (vsN q) D8 k8 d8 (some ⟨wr.heap.size, 0, none⟩) 3 3 W LJ.out (by omega) rfl (by omega) (HRJ.out.below hb) hv)
        have HVA := Lib.hid (fun (W : World) (hv : RowAt W (some ⟨wr.heap.size, 0, none⟩) ((vsN q).map intV)) => impl_ValuesOk (vsN q) (some ⟨wr.heap.size, 0, none⟩) 3 3 W rfl (by omega) hv)
        have HCV := Lib.hid (fun (W : World) (hv : RowAt W (some ⟨wr.heap.size, 0, none⟩) ((vsN q).map intV)) => impl_CountValues (vsN q) (some ⟨wr.heap.size, 0, none⟩) 3 3 W rfl (by omega) hv)
        rw [HVO.out] at HVA
        rw [HVC.out] at HCV
        obtain ⟨za, hza⟩ : ∃ z, z = stR la (vsN q) := ⟨_, rfl⟩
        obtain ⟨zb, hzb⟩ : ∃ z, z = stR lb (vsN q) := ⟨_, rfl⟩
        obtain ⟨zj, hzj⟩ : ∃ z, z = stR lj (vsN q) := ⟨_, rfl⟩
        rw [← hza] at HSA
        rw [← hzb] at HSB
        rw [← hzj] at HSJ
        rw [← hza, ← hzb, ← hzj] at HQ
        clear hza hzb hzj HVO HVC
        obtain ⟨pa, hpa⟩ : ∃ p, p = (za == 1) := ⟨_, rfl⟩
        obtain ⟨pb, hpb⟩ : ∃ p, p = (zb == 1) := ⟨_, rfl⟩
        obtain ⟨pj, hpj⟩ : ∃ p, p = (zj == 1) := ⟨_, rfl⟩
        have hqq := HQ.out
        rw [show decide (za = 1) = pa from hpa.symm, show decide (zb = 1) = pb from hpb.symm, show decide (zj = 1) = pj from hpj.symm] at hqq
        clear HQ
        refine (HSA.out _ bb.out rv.out).mono ?_
        rintro e vx ⟨rfl, bx⟩
        have rv := Lib.hid (rv.out.below bx)
        have bb := Lib.hid (bb.out.trans (bx.mono bb.out.size))
        clear bx
        cases pa <;> cases pb <;> cases kb <;> cases pj
        all_goals first
          | exact absurd hqq (by decide)
          | (clear hqq
             have hpa2 := hpa.symm
             have hpb2 := hpb.symm
             have hpj2 := hpj.symm
             clear hpa hpb hpj
             go_wp2_with (first
               | (go_at_call_of 12 (Value.slice D2 k2 d2); refine (HSB.out _ bb.out rv.out).mono ?_; rintro e vx ⟨rfl, bx⟩; have rv := Lib.hid (rv.out.below bx); have bb := Lib.hid (bb.out.trans (bx.mono bb.out.size)); clear bx)
               | (go_at_call_of 12 (Value.slice D8 k8 d8); refine (HSJ.out _ bb.out rv.out).mono ?_; rintro e vx ⟨rfl, bx⟩; have rv := Lib.hid (rv.out.below bx); have bb := Lib.hid (bb.out.trans (bx.mono bb.out.size)); clear bx)
               | (go_at_call 13; refine (HVA.out _ rv.out).mono ?_; rintro e vx ⟨rfl, bx⟩; have rv := Lib.hid (rv.out.below bx); have bb := Lib.hid (bb.out.trans (bx.mono bb.out.size)); clear bx)
               | (go_at_call 14; refine (HCV.out _ rv.out).mono ?_; rintro e vx ⟨rfl, bx⟩; have rv := Lib.hid (rv.out.below bx); have bb := Lib.hid (bb.out.trans (bx.mono bb.out.size)); clear bx))
             go_roundw
             case rel => exact ⟨q + 1, by omega, by go_num, HBW.out.trans (bb.out.mono HBW.out.size), HRA.out.below bb.out, HRB.out.below bb.out, HRJ.out.below bb.out⟩
             case measure => simp [intOf]; omega)
      · have hq8 : q = 8 := by omega
        subst hq8
        have HWO := Lib.hid (impl_WithoutLiteral 1 la D1 k4 d1 wr LA.out (by omega) HRA.out (by omega) (by omega))
        have hwl : (woR la 1).length ≤ k4 := by have := wo_all la 1; have := LA.out; omega
        go_wp2_with fail
        refine HWO.out.mono ?_
        rintro e w9 ⟨B9, q9, c9, rfl, hq9, hh, bh⟩
        have hq9k : (q9 : Int) ≤ k4 := by omega
        have BH := Lib.hid bh
        clear hh bh hq9 hwl
        go_wp2_with fail
        refine (impl_LabelState [] [0, 0, 0] none 0 0 (some ⟨w9.heap.size, 0, none⟩) 3 3 _ rfl (by omega) rfl (by omega) (fun h => by simp at h) (three_row w9 0 0 0)).mono ?_
        rintro e w10 ⟨rfl, bh⟩
        rw [nil_state]
        have bz := Lib.hid (HBW.out.trans ((BH.out.trans (((Below.refl w9.heap.size w9).alloc (Nat.le_refl _) (.cells #[.int .i64 0, .int .i64 0, .int .i64 0] 3)).mono BH.out.size)).mono HBW.out.size))
        have bz := Lib.hid (bz.out.trans (bh.mono bz.out.size))
        clear bh
        go_wp2_with fail
        go_ret
        exact ⟨rfl, bz.out⟩
  · have hl1 : ((1048576 : Int) < n) := by omega
    go_enter Tryd.func3, Tryd.ntmps3
    go_wp2_with fail
    go_ret
    exact ⟨rfl, Below.refl _ _⟩

/-! ### FnLabels: the row and its card -/

theorem FnLabels_reads (os : Os) {H : Type} (enc : TypeId × Value → H) : ∃ places, DataW.whole enc Tryd.prog ((World.doorLaid Tryd.prog 400 os).forCall (fun _ _ => 0) ⟨#[], #[.slice none 0 0], []⟩).memory Tryd.f3.params.toList Rows.fnLabelsSpec.vars false (#[.slice none 0 0] : Array Value).toList 8 = some ([.nil], [], places) :=
  ⟨[], by kernel_rfl⟩
theorem FnLabels_met (os : Os) (args : Array Value) : laidMetH Tryd.prog Rows.fnLabelsRow.laid ((World.doorLaid Tryd.prog 400 os).forCall (fun _ _ => 0) ⟨#[], args, []⟩).memory :=
  laidMetH_of_parts3 (fuel := 8) (laidMet_of_run' 8 (by kernel_rfl) (by kernel_rfl)) (by kernel_rfl) (by kernel_rfl)

set_option maxRecDepth 100000 in
theorem FnLabels_lifted (os : Os) (started : os.Started) (H : Type) (enc : TypeId × Value → H) (F : Stop.Interp) :
    ReturnsInHanded {} Tryd.checked os 3 .any ((OpenSpec.ofChange Rows.fnLabelsSpec).preRow enc Tryd.prog Tryd.f3 Rows.fnLabelsRow.domain false Rows.fnLabelsRow.laid) (((OpenSpec.ofChange Rows.fnLabelsSpec).at F).post enc Tryd.prog Tryd.f3 false true false false) := by
  obtain ⟨places, hx⟩ := FnLabels_reads os enc
  refine returnsInHanded_of_row (C := Tryd.checked) (s := OpenSpec.ofChange Rows.fnLabelsSpec) (by kernel_rfl) started (by kernel_rfl) Tryd.func3
    (witness_row_atRef (enc := enc) (C := Tryd.checked) false (World.doorLaid Tryd.prog 400 os) #[.slice none 0 0] rfl (by kernel_rfl) (by kernel_rfl) (by kernel_rfl)
      (OpenSpec.preRow_of_cond 8 hx (by kernel_rfl) (fun k hk => by cases hk) (by kernel_rfl) (FnLabels_met os _))) ?_
  intro W base args ds gs before hval0 hW _ _ _ hL0 _ _
  have hL : laidMet Tryd.prog Rows.fnLabelsRow.laid W := by
    rw [← MakeChecks.laidMetH_plain _ _ _ (by kernel_rfl)]
    exact hL0
  have hval : ∀ (j : Nat) t v, Tryd.f3.params[j]? = some t → args[j]? = some v → Value.okWide Tryd.prog W .any base t v := hval0
  have hW2 := hW
  obtain ⟨p, q, hA0, hV, hpq, hfz, hnd⟩ := hW2
  have hA : DataW.TrodAll enc Tryd.prog W 0 (fun _ => true) true Tryd.f3.params.toList args.toList ds p := hA0
  rw [Tryd.params3] at hA hval
  obtain ⟨v0, d0, hargs, hds, h0⟩ := trodAll_one hA
  obtain ⟨hgs, hq⟩ := trodVars_none hV
  subst hargs
  subst hds
  subst hgs
  obtain ⟨A0, n0, c0, rfl⟩ := okWide_slice Tryd.underlying22 (hval 0 22 v0 rfl rfl)
  have h0b := h0
  obtain ⟨fuel, hf⟩ := h0b
  obtain ⟨hm, hby⟩ := bytes_in Tryd.underlying22 Tryd.underlying5 cells_u8 hf
  refine (FnLabels_walk A0 n0 c0 W hm hby (pow10_of rfl hL.tail.tail) (errs_of hL.tail.tail.tail)).mono fun e W2 ⟨he, hb⟩ => ?_
  subst he
  exact ⟨_, rfl, law_post (by kernel_rfl) (by rw [Tryd.params3]; decide +kernel) (by kernel_rfl) Tryd.underlying4 rfl ⟨rfl, rfl, rfl⟩ hW hb⟩

theorem FnLabels_said : Rows.FnLabelsSaid :=
  OpenClaim.holds_of_cond 3 Tryd.f3 rfl rfl rfl rfl rfl rfl rfl ⟨rfl, rfl, rfl, rfl, rfl⟩ rfl rfl rfl rfl rfl (by kernel_rfl) Tryd.func3 (by kernel_rfl)
    (of_decide_eq_true (by kernel_rfl)) (by unfold Func.isWrapper; first | (rw [if_pos (by decide +kernel)]; kernel_rfl) | (rw [if_neg (by decide +kernel)]; exact ⟨rfl, rfl⟩))
    (fun os started H enc _ F => by rw [OpenClaim.pre_eq_preRow]; exact FnLabels_lifted os started H enc F)

/-- No parameter wants a stand-in. -/
theorem FnLabels_plain (f : FuncId) (fn : Func) (hf : Tryd.pinned.checked.prog.funcNamed "loop.example/g00827/laws.FnLabels" = some f) (hfn : Tryd.pinned.checked.prog.funcs[f]? = some fn) :
    true = Tryd.pinned.checked.prog.looks [] ∧ ∀ (j : Nat) t, fn.params[j]? = some t → Tryd.pinned.checked.prog.wantsStandIn t = false := by
  obtain rfl : f = 3 := Option.some.inj ((show Tryd.prog.funcNamed "loop.example/g00827/laws.FnLabels" = some 3 by kernel_rfl).symm.trans hf) |>.symm
  obtain rfl : fn = Tryd.f3 := (Option.some.inj (Tryd.func3.symm.trans hfn)).symm
  refine ⟨by kernel_rfl, fun j t ht => ?_⟩
  rw [Tryd.params3] at ht
  have hm : t ∈ [22] := by simpa using Array.mem_of_getElem? ht
  have hall : ([22].all fun u => !Tryd.prog.wantsStandIn u) = true := by kernel_rfl
  exact (show Tryd.prog.wantsStandIn t = false by simpa using List.all_eq_true.1 hall t hm)

theorem FnLabels_card : Rows.FnLabelsCardSaid :=
  Claim7.holds_tied_plain_at .later [] _ _ _ _ FnLabels_said (fun _ h => by cases h) (by kernel_rfl) (fun _ h => by cases h) fnLabels_row_tie rfl ⟨rfl, rfl⟩ (by kernel_rfl) rfl FnLabels_plain (by kernel_rfl)

end Go.Proofs.YtaokabkffnjbjaaDoor

