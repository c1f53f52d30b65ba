/-
  laws.FnExactChosenNodes HOLDS: whatever the arguments, impl.ChosenNodes answers as spec.ChosenNodes does, and the arguments read as they did. No condition.
-/
import Derived.Test.YtgnehihnkkoneaaRows
import Derived.Test.YtgnehihnkkoneaaFrame
import Derived.Test.YtgnehihnkkoneaaBdIvOk
import Derived.Test.YtgnehihnkkoneaaBdShE
import Derived.Test.YtgnehihnkkoneaaBdPnJ
import Derived.Test.YtgnehihnkkoneaaShM
import Derived.Deep.RegionHeld3
import Derived.Deep.CutRange
import Derived.ProofKit
import Derived.Lib.SmallJoins
namespace Go.Proofs.Ytgnehihnkkoneaa
open Go.RowKit Go.ChangeShapes Go.WideShapes Go.ChangeAt Go.WideMaps Go.WideElems
open Go.ChangeMaps (open_string shut_string)
set_option linter.unusedVariables false
set_option linter.unusedSimpArgs false

theorem ints_conS {cs : List Int} {w : World} {f : FuncId} {args : Array Value} {zs : List Int} {q : Nat} (h1 : zs = cs) (h2 : q = zs.length) (h : Calls Try.prog f args w fun e w' => ∃ B m cb, e = .returned (.slice B m cb) ∧ m = cs.length ∧ w'.ownsRow w.heap.size 3 1 (.slice B m cb) m (cs.map intV) ∧ Below w.heap.size w w') :
    Calls Try.prog f args w fun e w' => ∃ B cb, e = .returned (.slice B q cb) ∧ w'.ownsRow w.heap.size 3 1 (.slice B q cb) q (zs.map intV) ∧ Below w.heap.size w w' :=
  h.mono fun e w' ⟨A, k, c, e1, e2, e3, e4⟩ => by
    subst h1 h2 e2
    exact ⟨A, c, e1, e3, e4⟩
theorem Within.cell {lo hi : Nat} {w w' : World} (h : Within lo hi w w') {b o : Nat} {v : Value} (hc : w.cell? ⟨b, o, none⟩ = some v) (hb : b < w.heap.size) (hx : b < lo ∨ hi ≤ b) : w'.cell? ⟨b, o, none⟩ = some v := (World.cell?_of_block (a := ⟨b, o, none⟩) (h.block b hb hx)).trans hc
theorem Within.own {lo hi : Nat} {w w' : World} {B e s n : Nat} {v : Value} {xs : List Value} (k : Within lo hi w w') (h : w.ownsRow B e s v n xs) (hp : ∀ b, v.ownBlock = some b → b < lo ∨ hi ≤ b) : w'.ownsRow B e s v n xs := by
  rcases h.2 with ⟨hv, hn⟩ | ⟨g, cap, cur, hv, hB, hg, hr⟩
  · exact ⟨h.1, .inl ⟨hv, hn⟩⟩
  · subst hv
    exact ⟨h.1, .inr ⟨g, cap, cur, rfl, hB, (k.block g (Array.getElem?_eq_some_iff.1 hg).1 (hp g rfl)).trans hg, hr⟩⟩

set_option maxRecDepth 100000 in
set_option maxHeartbeats 32000000 in
theorem FnExactChosenNodes_walk (s : GS) (A : Option Addr) (k c : Nat) (B : Option Addr) (m d : Nat) (w : World) (hkm : k ≤ maxLen) (hmm : m ≤ maxLen) (hw : ∀ e ∈ s.ns, e.wf) (ha : ShowAt w s A k B m) :
    Calls Try.prog 9 #[shV A k c B m d s.h] w fun e w' => e = .returned (.bool true) ∧ Below w.heap.size w w' := by
  have HZ := Lib.hid (fun W h => szShow_left s A k c B m d 1048576 W hkm hmm hw h (by omega) (by omega))
  have HTO0 := Lib.hid (fun W hs h => toShow_any s A k c B m d W hs h)
  have HEQ0 := Lib.hid (fun hs A1 c1 B1 d1 A2 c2 B2 d2 W h1 h2 => eqShow_same s A1 k c1 B1 m d1 A2 c2 B2 d2 W hs h1 h2)
  obtain ⟨zs, hzs⟩ : ∃ t, t = chR s := ⟨_, rfl⟩
  obtain ⟨q, hq⟩ : ∃ t, t = zs.length := ⟨_, rfl⟩
  have hq8 : q ≤ 7 := by rw [hq, hzs]; exact chR_len s
  have HSP0 := Lib.hid (fun (hs : ShB s) A1 c1 B1 d1 W h => ints_conS hzs hq (spec_ChosenNodes s A1 k c1 B1 m d1 W hs h))
  have HIM0 := Lib.hid (fun (hs : ShB s) A1 c1 B1 d1 W h => ints_conS hzs hq (impl_ChosenNodes s A1 k c1 B1 m d1 W hs hw h))
  have HEE := Lib.hid (fun (D E : Option Addr) c1 c2 W h1 h2 => eqIntS_same zs D E q c1 c2 W hq.symm (by unfold maxLen; omega) h1 h2)
  have HMS0 := Lib.hid (fun (hs : ShB s) A1 c1 B1 d1 zz lo hi W h1 h2 h3 => markShow_any s A1 k c1 B1 m d1 zz lo hi 1 W (by omega) hs (by omega) h1 h2 h3)
  have HLN := Lib.hid ha.ln
  have HA := Lib.hid ha
  clear ha hw hzs hq
  obtain ⟨h, hh⟩ : ∃ h, h = s.h := ⟨_, rfl⟩
  rw [← hh] at HZ HTO0 HEQ0 HSP0 HIM0 HMS0
  rw [← hh]
  clear hh
  unfold shV at HZ HTO0 HEQ0 HSP0 HIM0 HMS0 ⊢
  go_enter Try.func9, Try.ntmps9
  go_wp2_with fail
  refine (HZ.out _ (HA.out.below (by repeat (first | exact Below.refl _ _ | refine below_step (by assumption) (by first | omega | (simp; done) | (simp; omega)) ?_ | refine below_drewN ?_ _ | refine Below.drew ?_ | refine Below.setCell ?_ (by first | omega | (simp; done) | (simp; omega)) _ | refine Below.alloc ?_ (by first | omega | (simp; done) | (simp; omega)) _)))).mono ?_
  rintro e w1 ⟨r, rfl, hr, b1⟩
  have c0_w1 : w1.cell? ⟨w.heap.size, 0, none⟩ = some (.slice A k c) := (b1.cell (p := ⟨w.heap.size, 0, none⟩) (by first | omega | (simp; done) | (simp; omega))).trans (by first | assumption | go_simp)
  have c1_w1 : w1.cell? ⟨w.heap.size, 1, none⟩ = some (.slice B m d) := (b1.cell (p := ⟨w.heap.size, 1, none⟩) (by first | omega | (simp; done) | (simp; omega))).trans (by first | assumption | go_simp)
  have c2_w1 : w1.cell? ⟨w.heap.size, 2, none⟩ = some (.int .i64 h) := (b1.cell (p := ⟨w.heap.size, 2, none⟩) (by first | omega | (simp; done) | (simp; omega))).trans (by first | assumption | go_simp)
  have B_w1 : Below w.heap.size w w1 := (by repeat (first | exact Below.refl _ _ | refine below_step (by assumption) (by first | omega | (simp; done) | (simp; omega)) ?_ | refine below_drewN ?_ _ | refine Below.drew ?_ | refine Below.setCell ?_ (by first | omega | (simp; done) | (simp; omega)) _ | refine Below.alloc ?_ (by first | omega | (simp; done) | (simp; omega)) _))
  have z_w1 := B_w1.size
  have s0_w1 : w.heap.size < w1.heap.size := Nat.lt_of_lt_of_le (by first | omega | (simp; done) | (simp; omega)) b1.size
  clear b1 
  rcases hr with rfl | ⟨hr0, hr1, hs⟩
  · go_wp2_with fail
    go_ret
    exact ⟨rfl, B_w1⟩
  · have hrn : ¬ (r < 0) := by omega
    have HS := Lib.hid hs
    have HTO := Lib.hid (fun W hx => HTO0.out W hs hx)
    have HEQ := Lib.hid (HEQ0.out hs)
    have HSP := Lib.hid (HSP0.out hs)
    have HIM := Lib.hid (HIM0.out hs)
    have HMS := Lib.hid (HMS0.out hs)
    clear HTO0 HEQ0 HSP0 HIM0 HMS0 hs
    go_wp2_with fail
    refine (HTO.out _ (HA.out.below (w := w) (by repeat (first | exact Below.refl _ _ | refine below_step (by assumption) (by first | omega | (simp; done) | (simp; omega)) ?_ | refine below_drewN ?_ _ | refine Below.drew ?_ | refine Below.setCell ?_ (by first | omega | (simp; done) | (simp; omega)) _ | refine Below.alloc ?_ (by first | omega | (simp; done) | (simp; omega)) _)))).mono ?_
    rintro e w2 ⟨A2, c2, B2, d2, zs2, rfl, ho2, b2⟩
    have HS2 := Lib.hid ho2.at_
    clear ho2
    have c0_w2 : w2.cell? ⟨w.heap.size, 0, none⟩ = some (.slice A k c) := (b2.cell (p := ⟨w.heap.size, 0, none⟩) (by first | omega | (simp; done) | (simp; omega))).trans (by first | assumption | go_simp)
    have c1_w2 : w2.cell? ⟨w.heap.size, 1, none⟩ = some (.slice B m d) := (b2.cell (p := ⟨w.heap.size, 1, none⟩) (by first | omega | (simp; done) | (simp; omega))).trans (by first | assumption | go_simp)
    have c2_w2 : w2.cell? ⟨w.heap.size, 2, none⟩ = some (.int .i64 h) := (b2.cell (p := ⟨w.heap.size, 2, none⟩) (by first | omega | (simp; done) | (simp; omega))).trans (by first | assumption | go_simp)
    have B_w2 : Below w.heap.size w w2 := (by repeat (first | exact Below.refl _ _ | refine below_step (by assumption) (by first | omega | (simp; done) | (simp; omega)) ?_ | refine below_drewN ?_ _ | refine Below.drew ?_ | refine Below.setCell ?_ (by first | omega | (simp; done) | (simp; omega)) _ | refine Below.alloc ?_ (by first | omega | (simp; done) | (simp; omega)) _))
    have z_w2 := B_w2.size
    have s0_w2 : w.heap.size < w2.heap.size := Nat.lt_of_lt_of_le (by first | omega | (simp; done) | (simp; omega)) b2.size
    clear b2 c0_w1 c1_w1 c2_w1 s0_w1 B_w1 z_w1
    go_wp2_with fail
    refine (HSP.out A2 c2 B2 d2 _ HS2.out).mono ?_
    rintro e w3 ⟨D3, c3, rfl, h3, b3⟩
    have OD3 := Lib.hid h3
    clear h3
    have c0_w3 : w3.cell? ⟨w.heap.size, 0, none⟩ = some (.slice A k c) := (b3.cell (p := ⟨w.heap.size, 0, none⟩) (by first | omega | (simp; done) | (simp; omega))).trans (by first | assumption | go_simp)
    have c1_w3 : w3.cell? ⟨w.heap.size, 1, none⟩ = some (.slice B m d) := (b3.cell (p := ⟨w.heap.size, 1, none⟩) (by first | omega | (simp; done) | (simp; omega))).trans (by first | assumption | go_simp)
    have c2_w3 : w3.cell? ⟨w.heap.size, 2, none⟩ = some (.int .i64 h) := (b3.cell (p := ⟨w.heap.size, 2, none⟩) (by first | omega | (simp; done) | (simp; omega))).trans (by first | assumption | go_simp)
    have B_w3 : Below w.heap.size w w3 := (by repeat (first | exact Below.refl _ _ | refine below_step (by assumption) (by first | omega | (simp; done) | (simp; omega)) ?_ | refine below_drewN ?_ _ | refine Below.drew ?_ | refine Below.setCell ?_ (by first | omega | (simp; done) | (simp; omega)) _ | refine Below.alloc ?_ (by first | omega | (simp; done) | (simp; omega)) _))
    have z_w3 := B_w3.size
    have s0_w3 : w.heap.size < w3.heap.size := Nat.lt_of_lt_of_le (by first | omega | (simp; done) | (simp; omega)) b3.size
    clear b3 c0_w2 c1_w2 c2_w2 s0_w2 B_w2 z_w2
    have w3s : w.heap.size < w3.heap.size := s0_w3
    go_wp2_with fail
    refine (HTO.out _ (HA.out.below (w := w) (by repeat (first | exact Below.refl _ _ | refine below_step (by assumption) (by first | omega | (simp; done) | (simp; omega)) ?_ | refine below_drewN ?_ _ | refine Below.drew ?_ | refine Below.setCell ?_ (by first | omega | (simp; done) | (simp; omega)) _ | refine Below.alloc ?_ (by first | omega | (simp; done) | (simp; omega)) _)))).mono ?_
    rintro e w4 ⟨A4, c4, B4, d4, zs4, rfl, ho4, b4⟩
    have HS4 := Lib.hid ho4.at_
    have OS4 := Lib.hid (show OwnS w4 w3.heap.size w4.heap.size s A4 k c4 B4 m d4 zs4 from ho4)
    have OD4 := Lib.hid (own_below OD3.out (show Below w3.heap.size w3 w4 from (by repeat (first | exact Below.refl _ _ | refine below_step (by assumption) (by first | omega | (simp; done) | (simp; omega)) ?_ | refine below_drewN ?_ _ | refine Below.drew ?_ | refine Below.setCell ?_ (by first | omega | (simp; done) | (simp; omega)) _ | refine Below.alloc ?_ (by first | omega | (simp; done) | (simp; omega)) _))))
    have lt3 := Lib.hid (OD3.out.lt)
    have z34 := b4.size
    clear ho4 OD3
    have c0_w4 : w4.cell? ⟨w.heap.size, 0, none⟩ = some (.slice A k c) := (b4.cell (p := ⟨w.heap.size, 0, none⟩) (by first | omega | (simp; done) | (simp; omega))).trans (by first | assumption | go_simp)
    have c1_w4 : w4.cell? ⟨w.heap.size, 1, none⟩ = some (.slice B m d) := (b4.cell (p := ⟨w.heap.size, 1, none⟩) (by first | omega | (simp; done) | (simp; omega))).trans (by first | assumption | go_simp)
    have c2_w4 : w4.cell? ⟨w.heap.size, 2, none⟩ = some (.int .i64 h) := (b4.cell (p := ⟨w.heap.size, 2, none⟩) (by first | omega | (simp; done) | (simp; omega))).trans (by first | assumption | go_simp)
    have B_w4 : Below w.heap.size w w4 := (by repeat (first | exact Below.refl _ _ | refine below_step (by assumption) (by first | omega | (simp; done) | (simp; omega)) ?_ | refine below_drewN ?_ _ | refine Below.drew ?_ | refine Below.setCell ?_ (by first | omega | (simp; done) | (simp; omega)) _ | refine Below.alloc ?_ (by first | omega | (simp; done) | (simp; omega)) _))
    have z_w4 := B_w4.size
    have s0_w4 : w.heap.size < w4.heap.size := Nat.lt_of_lt_of_le (by first | omega | (simp; done) | (simp; omega)) b4.size
    clear b4 c0_w3 c1_w3 c2_w3 s0_w3 B_w3 z_w3
    go_wp2_with fail
    refine (HIM.out A4 c4 B4 d4 _ (HS4.out.below (w := w4) (by repeat (first | exact Below.refl _ _ | refine below_step (by assumption) (by first | omega | (simp; done) | (simp; omega)) ?_ | refine below_drewN ?_ _ | refine Below.drew ?_ | refine Below.setCell ?_ (by first | omega | (simp; done) | (simp; omega)) _ | refine Below.alloc ?_ (by first | omega | (simp; done) | (simp; omega)) _)))).mono ?_
    rintro e w5 ⟨D5, c5, rfl, h5, b5⟩
    have P45 := Lib.hid (show Below w4.heap.size w4 w5 from (by repeat (first | exact Below.refl _ _ | refine below_step (by assumption) (by first | omega | (simp; done) | (simp; omega)) ?_ | refine below_drewN ?_ _ | refine Below.drew ?_ | refine Below.setCell ?_ (by first | omega | (simp; done) | (simp; omega)) _ | refine Below.alloc ?_ (by first | omega | (simp; done) | (simp; omega)) _)))
    have HS5 := Lib.hid (HS4.out.below P45.out)
    have OS5 := Lib.hid (OS4.out.below P45.out)
    have OD5 := Lib.hid (own_below OD4.out P45.out)
    have OG5 := Lib.hid h5
    have lt5 : ∀ b, (Value.slice D5 q c5).ownBlock = some b → w4.heap.size < b := fun b hb => by have := (h5.lt b hb).1; simp at this; omega
    have LT5 := Lib.hid lt5
    have c0_w5 : w5.cell? ⟨w.heap.size, 0, none⟩ = some (.slice A k c) := (b5.cell (p := ⟨w.heap.size, 0, none⟩) (by first | omega | (simp; done) | (simp; omega))).trans (by first | assumption | go_simp)
    have c1_w5 : w5.cell? ⟨w.heap.size, 1, none⟩ = some (.slice B m d) := (b5.cell (p := ⟨w.heap.size, 1, none⟩) (by first | omega | (simp; done) | (simp; omega))).trans (by first | assumption | go_simp)
    have c2_w5 : w5.cell? ⟨w.heap.size, 2, none⟩ = some (.int .i64 h) := (b5.cell (p := ⟨w.heap.size, 2, none⟩) (by first | omega | (simp; done) | (simp; omega))).trans (by first | assumption | go_simp)
    have c3_w5 : w5.cell? ⟨w4.heap.size, 0, none⟩ = some (.slice A4 k c4) := (b5.cell (p := ⟨w4.heap.size, 0, none⟩) (by first | omega | (simp; done) | (simp; omega))).trans (by first | assumption | go_simp)
    have c4_w5 : w5.cell? ⟨w4.heap.size, 1, none⟩ = some (.slice B4 m d4) := (b5.cell (p := ⟨w4.heap.size, 1, none⟩) (by first | omega | (simp; done) | (simp; omega))).trans (by first | assumption | go_simp)
    have c5_w5 : w5.cell? ⟨w4.heap.size, 2, none⟩ = some (.int .i64 h) := (b5.cell (p := ⟨w4.heap.size, 2, none⟩) (by first | omega | (simp; done) | (simp; omega))).trans (by first | assumption | go_simp)
    have B_w5 : Below w.heap.size w w5 := (by repeat (first | exact Below.refl _ _ | refine below_step (by assumption) (by first | omega | (simp; done) | (simp; omega)) ?_ | refine below_drewN ?_ _ | refine Below.drew ?_ | refine Below.setCell ?_ (by first | omega | (simp; done) | (simp; omega)) _ | refine Below.alloc ?_ (by first | omega | (simp; done) | (simp; omega)) _))
    have z_w5 := B_w5.size
    have s0_w5 : w.heap.size < w5.heap.size := Nat.lt_of_lt_of_le (by first | omega | (simp; done) | (simp; omega)) b5.size
    have s1_w5 : w4.heap.size < w5.heap.size := Nat.lt_of_lt_of_le (by first | omega | (simp; done) | (simp; omega)) b5.size
    clear b5 h5 lt5 OD4 OS4 c0_w4 c1_w4 c2_w4 B_w4 z_w4 s0_w4
    go_wp2_with fail
    refine (HEE.out D5 D3 c5 c3 _ (own_row OG5.out) (own_row OD5.out)).mono ?_
    rintro e w6 ⟨rfl, n6, hw6⟩
    have b6 : Below w5.heap.size w5 w6 := by rw [hw6]; exact below_drewN (Below.refl _ _) _
    have P56 := Lib.hid b6
    have HS6 := Lib.hid (HS5.out.below b6)
    have OS6 := Lib.hid (OS5.out.below b6)
    have OD6 := Lib.hid (own_below OD5.out b6)
    have OG6 := Lib.hid (own_below OG5.out b6)
    have c0_w6 : w6.cell? ⟨w.heap.size, 0, none⟩ = some (.slice A k c) := (b6.cell (p := ⟨w.heap.size, 0, none⟩) (by first | omega | (simp; done) | (simp; omega))).trans (by first | assumption | go_simp)
    have c1_w6 : w6.cell? ⟨w.heap.size, 1, none⟩ = some (.slice B m d) := (b6.cell (p := ⟨w.heap.size, 1, none⟩) (by first | omega | (simp; done) | (simp; omega))).trans (by first | assumption | go_simp)
    have c2_w6 : w6.cell? ⟨w.heap.size, 2, none⟩ = some (.int .i64 h) := (b6.cell (p := ⟨w.heap.size, 2, none⟩) (by first | omega | (simp; done) | (simp; omega))).trans (by first | assumption | go_simp)
    have c3_w6 : w6.cell? ⟨w4.heap.size, 0, none⟩ = some (.slice A4 k c4) := (b6.cell (p := ⟨w4.heap.size, 0, none⟩) (by first | omega | (simp; done) | (simp; omega))).trans (by first | assumption | go_simp)
    have c4_w6 : w6.cell? ⟨w4.heap.size, 1, none⟩ = some (.slice B4 m d4) := (b6.cell (p := ⟨w4.heap.size, 1, none⟩) (by first | omega | (simp; done) | (simp; omega))).trans (by first | assumption | go_simp)
    have c5_w6 : w6.cell? ⟨w4.heap.size, 2, none⟩ = some (.int .i64 h) := (b6.cell (p := ⟨w4.heap.size, 2, none⟩) (by first | omega | (simp; done) | (simp; omega))).trans (by first | assumption | go_simp)
    have B_w6 : Below w.heap.size w w6 := (by repeat (first | exact Below.refl _ _ | refine below_step (by assumption) (by first | omega | (simp; done) | (simp; omega)) ?_ | refine below_drewN ?_ _ | refine Below.drew ?_ | refine Below.setCell ?_ (by first | omega | (simp; done) | (simp; omega)) _ | refine Below.alloc ?_ (by first | omega | (simp; done) | (simp; omega)) _))
    have z_w6 := B_w6.size
    have s0_w6 : w.heap.size < w6.heap.size := Nat.lt_of_lt_of_le (by first | omega | (simp; done) | (simp; omega)) b6.size
    have s1_w6 : w4.heap.size < w6.heap.size := Nat.lt_of_lt_of_le (by first | omega | (simp; done) | (simp; omega)) b6.size
    clear b6 hw6 OS5 OD5 OG5 HS5 c0_w5 c1_w5 c2_w5 c3_w5 c4_w5 c5_w5 B_w5 z_w5 s0_w5 s1_w5
    have HS5 := HS6
    go_wp2_with fail
    go_region_held3 (fun W => W.cell? ⟨w.heap.size, 0, none⟩ = some (.slice A k c) ∧ W.cell? ⟨w.heap.size, 1, none⟩ = some (.slice B m d) ∧ W.cell? ⟨w.heap.size, 2, none⟩ = some (.int .i64 h) ∧ W.cell? ⟨w4.heap.size, 0, none⟩ = some (.slice A4 k c4) ∧ W.cell? ⟨w4.heap.size, 1, none⟩ = some (.slice B4 m d4) ∧ W.cell? ⟨w4.heap.size, 2, none⟩ = some (.int .i64 h)) (first | (go_keep; done) | ((try dsimp only); refine ⟨?_, ?_, ?_, ?_, ?_, ?_⟩ <;> first | assumption | (go_simp; done))) (first | (go_at_call 18; refine (HTO.out _ (HA.out.below (w := w) (by repeat (first | exact Below.refl _ _ | refine below_step (by assumption) (by first | omega | (simp; done) | (simp; omega)) ?_ | refine below_drewN ?_ _ | refine Below.drew ?_ | refine Below.setCell ?_ (by first | omega | (simp; done) | (simp; omega)) _ | refine Below.alloc ?_ (by first | omega | (simp; done) | (simp; omega)) _)))).mono ?_; rintro e w7 ⟨A6, c6, B6, d6, zs6, rfl, ho6, b6⟩; have c0_w7 : w7.cell? ⟨w.heap.size, 0, none⟩ = some (.slice A k c) := (b6.cell (p := ⟨w.heap.size, 0, none⟩) (by first | omega | (simp; done) | (simp; omega))).trans (by first | assumption | go_simp); have c1_w7 : w7.cell? ⟨w.heap.size, 1, none⟩ = some (.slice B m d) := (b6.cell (p := ⟨w.heap.size, 1, none⟩) (by first | omega | (simp; done) | (simp; omega))).trans (by first | assumption | go_simp); have c2_w7 : w7.cell? ⟨w.heap.size, 2, none⟩ = some (.int .i64 h) := (b6.cell (p := ⟨w.heap.size, 2, none⟩) (by first | omega | (simp; done) | (simp; omega))).trans (by first | assumption | go_simp); have c3_w7 : w7.cell? ⟨w4.heap.size, 0, none⟩ = some (.slice A4 k c4) := (b6.cell (p := ⟨w4.heap.size, 0, none⟩) (by first | omega | (simp; done) | (simp; omega))).trans (by first | assumption | go_simp); have c4_w7 : w7.cell? ⟨w4.heap.size, 1, none⟩ = some (.slice B4 m d4) := (b6.cell (p := ⟨w4.heap.size, 1, none⟩) (by first | omega | (simp; done) | (simp; omega))).trans (by first | assumption | go_simp); have c5_w7 : w7.cell? ⟨w4.heap.size, 2, none⟩ = some (.int .i64 h) := (b6.cell (p := ⟨w4.heap.size, 2, none⟩) (by first | omega | (simp; done) | (simp; omega))).trans (by first | assumption | go_simp); have s0_w7 : w.heap.size < w7.heap.size := Nat.lt_of_lt_of_le (by first | omega | (simp; done) | (simp; omega)) b6.size; have s1_w7 : w4.heap.size < w7.heap.size := Nat.lt_of_lt_of_le (by first | omega | (simp; done) | (simp; omega)) b6.size; have E6 := Lib.hid ho6.at_; have F6 := Lib.hid (show ShowAt w7 s A4 k B4 m from HS5.out.below (w := w6) (by repeat (first | exact Below.refl _ _ | refine below_step (by assumption) (by first | omega | (simp; done) | (simp; omega)) ?_ | refine below_drewN ?_ _ | refine Below.drew ?_ | refine Below.setCell ?_ (by first | omega | (simp; done) | (simp; omega)) _ | refine Below.alloc ?_ (by first | omega | (simp; done) | (simp; omega)) _))); have B6 := Lib.hid (show Below w6.heap.size w6 w7 from (by repeat (first | exact Below.refl _ _ | refine below_step (by assumption) (by first | omega | (simp; done) | (simp; omega)) ?_ | refine below_drewN ?_ _ | refine Below.drew ?_ | refine Below.setCell ?_ (by first | omega | (simp; done) | (simp; omega)) _ | refine Below.alloc ?_ (by first | omega | (simp; done) | (simp; omega)) _))); clear ho6) | (go_at_call 20; refine (HEQ.out _ _ _ _ _ _ _ _ _ (F6.out.below (w := w7) (by repeat (first | exact Below.refl _ _ | refine below_step (by assumption) (by first | omega | (simp; done) | (simp; omega)) ?_ | refine below_drewN ?_ _ | refine Below.drew ?_ | refine Below.setCell ?_ (by first | omega | (simp; done) | (simp; omega)) _ | refine Below.alloc ?_ (by first | omega | (simp; done) | (simp; omega)) _))) (E6.out.below (w := w7) (by repeat (first | exact Below.refl _ _ | refine below_step (by assumption) (by first | omega | (simp; done) | (simp; omega)) ?_ | refine below_drewN ?_ _ | refine Below.drew ?_ | refine Below.setCell ?_ (by first | omega | (simp; done) | (simp; omega)) _ | refine Below.alloc ?_ (by first | omega | (simp; done) | (simp; omega)) _)))).mono ?_; rintro e w8 ⟨rfl, b7⟩; have c0_w8 : w8.cell? ⟨w.heap.size, 0, none⟩ = some (.slice A k c) := (b7.cell (p := ⟨w.heap.size, 0, none⟩) (by first | omega | (simp; done) | (simp; omega))).trans (by first | assumption | go_simp); have c1_w8 : w8.cell? ⟨w.heap.size, 1, none⟩ = some (.slice B m d) := (b7.cell (p := ⟨w.heap.size, 1, none⟩) (by first | omega | (simp; done) | (simp; omega))).trans (by first | assumption | go_simp); have c2_w8 : w8.cell? ⟨w.heap.size, 2, none⟩ = some (.int .i64 h) := (b7.cell (p := ⟨w.heap.size, 2, none⟩) (by first | omega | (simp; done) | (simp; omega))).trans (by first | assumption | go_simp); have c3_w8 : w8.cell? ⟨w4.heap.size, 0, none⟩ = some (.slice A4 k c4) := (b7.cell (p := ⟨w4.heap.size, 0, none⟩) (by first | omega | (simp; done) | (simp; omega))).trans (by first | assumption | go_simp); have c4_w8 : w8.cell? ⟨w4.heap.size, 1, none⟩ = some (.slice B4 m d4) := (b7.cell (p := ⟨w4.heap.size, 1, none⟩) (by first | omega | (simp; done) | (simp; omega))).trans (by first | assumption | go_simp); have c5_w8 : w8.cell? ⟨w4.heap.size, 2, none⟩ = some (.int .i64 h) := (b7.cell (p := ⟨w4.heap.size, 2, none⟩) (by first | omega | (simp; done) | (simp; omega))).trans (by first | assumption | go_simp); have s0_w8 : w.heap.size < w8.heap.size := Nat.lt_of_lt_of_le (by first | omega | (simp; done) | (simp; omega)) b7.size; have s1_w8 : w4.heap.size < w8.heap.size := Nat.lt_of_lt_of_le (by first | omega | (simp; done) | (simp; omega)) b7.size; have B7 := Lib.hid (B6.out.trans ((show Below w7.heap.size w7 w8 from (by repeat (first | exact Below.refl _ _ | refine below_step (by assumption) (by first | omega | (simp; done) | (simp; omega)) ?_ | refine below_drewN ?_ _ | refine Below.drew ?_ | refine Below.setCell ?_ (by first | omega | (simp; done) | (simp; omega)) _ | refine Below.alloc ?_ (by first | omega | (simp; done) | (simp; omega)) _))).mono B6.out.size))))
    all_goals
      have P68 := Lib.hid (show Below w6.heap.size w6 w8 from B7.out)
      have OS8 := Lib.hid (OS6.out.below P68.out)
      have OD8 := Lib.hid (own_below OD6.out P68.out)
      have OG8 := Lib.hid (own_below OG6.out P68.out)
      have B_w8 := Lib.hid (B_w6.trans (P68.out.mono z_w6))
      have z8 : w4.heap.size < w8.heap.size := by assumption
      clear B7 B6 E6 F6 HS5 HS6
      have hms := HMS.out A4 c4 B4 d4 zs4 w3.heap.size w4.heap.size w8 OS8.out (by omega) (by omega)
      rw [show ((1 : Nat) : Int) = 1 from rfl] at hms
      have HMS8 := Lib.hid hms
      clear hms
      go_wp2_with fail
      refine HMS8.out.mono ?_
      rintro e w9 ⟨rfl, _, wi⟩
      have c0_w9 : w9.cell? ⟨w.heap.size, 0, none⟩ = some (.slice A k c) := wi.cell (by assumption) (by omega) (.inl (by omega))
      have c1_w9 : w9.cell? ⟨w.heap.size, 1, none⟩ = some (.slice B m d) := wi.cell (by assumption) (by omega) (.inl (by omega))
      have c2_w9 : w9.cell? ⟨w.heap.size, 2, none⟩ = some (.int .i64 h) := wi.cell (by assumption) (by omega) (.inl (by omega))
      have OD9 := Lib.hid (wi.own OD8.out (fun b hb => .inl (lt3.out b hb).2))
      have OG9 := Lib.hid (wi.own OG8.out (fun b hb => .inr (by have := LT5.out b hb; omega)))
      have B_w9 : Below w.heap.size w w9 := B_w8.out.trans ((wi.below (by omega)).mono (by omega))
      have z_w9 := B_w9.size
      have s0_w9 : w.heap.size < w9.heap.size := Nat.lt_of_lt_of_le (show w.heap.size < w8.heap.size by omega) wi.size
      have t1 : ¬ (((1 + 2 * k + slJ s.ns k + 5 * m : Nat) : Int) < 0) := by omega
      clear wi OD8 OG8 OS8 B_w8
      go_wp2_with fail
      refine (HEE.out D5 D3 c5 c3 _ (own_row OG9.out) (own_row OD9.out)).mono ?_
      rintro e w10 ⟨rfl, n10, hw10⟩
      have b10 : Below w9.heap.size w9 w10 := by rw [hw10]; exact below_drewN (Below.refl _ _) _
      have OD10 := Lib.hid (own_below OD9.out b10)
      have OG10 := Lib.hid (own_below OG9.out b10)
      clear hw10 OD9 OG9 t1
      have c0_w10 : w10.cell? ⟨w.heap.size, 0, none⟩ = some (.slice A k c) := (b10.cell (p := ⟨w.heap.size, 0, none⟩) (by first | omega | (simp; done) | (simp; omega))).trans (by first | assumption | go_simp)
      have c1_w10 : w10.cell? ⟨w.heap.size, 1, none⟩ = some (.slice B m d) := (b10.cell (p := ⟨w.heap.size, 1, none⟩) (by first | omega | (simp; done) | (simp; omega))).trans (by first | assumption | go_simp)
      have c2_w10 : w10.cell? ⟨w.heap.size, 2, none⟩ = some (.int .i64 h) := (b10.cell (p := ⟨w.heap.size, 2, none⟩) (by first | omega | (simp; done) | (simp; omega))).trans (by first | assumption | go_simp)
      have B_w10 : Below w.heap.size w w10 := (by repeat (first | exact Below.refl _ _ | refine below_step (by assumption) (by first | omega | (simp; done) | (simp; omega)) ?_ | refine below_drewN ?_ _ | refine Below.drew ?_ | refine Below.setCell ?_ (by first | omega | (simp; done) | (simp; omega)) _ | refine Below.alloc ?_ (by first | omega | (simp; done) | (simp; omega)) _))
      have z_w10 := B_w10.size
      have s0_w10 : w.heap.size < w10.heap.size := Nat.lt_of_lt_of_le (by first | omega | (simp; done) | (simp; omega)) b10.size
      clear b10 c0_w9 c1_w9 c2_w9 B_w9 z_w9 s0_w9
      have hmk := markIntS_any D5 q c5 _ 1 (zs.map intV) w10 (by omega) (by omega) OG10.out
      rw [show ((1 : Nat) : Int) = 1 from rfl] at hmk
      have HMK := Lib.hid hmk
      clear hmk
      go_wp2_with fail
      refine HMK.out.mono ?_
      rintro e w11 ⟨rfl, og11, hg11⟩
      have OG11 := Lib.hid og11
      have OD11 := Lib.hid (OD10.out.kept hg11 (by
        cases hb : (Value.slice D3 q c3).ownBlock with
        | none => exact .inl rfl
        | some b => exact .inr fun e => by have h1 := (lt3.out b hb).2; have h2 := LT5.out b e.symm; omega))
      have c0_w11 : w11.cell? ⟨w.heap.size, 0, none⟩ = some (.slice A k c) := (World.cell?_of_block (a := ⟨w.heap.size, 0, none⟩) (hg11.block w.heap.size (by omega) (fun e => by have := LT5.out _ e.symm; omega))).trans c0_w10
      have c1_w11 : w11.cell? ⟨w.heap.size, 1, none⟩ = some (.slice B m d) := (World.cell?_of_block (a := ⟨w.heap.size, 1, none⟩) (hg11.block w.heap.size (by omega) (fun e => by have := LT5.out _ e.symm; omega))).trans c1_w10
      have c2_w11 : w11.cell? ⟨w.heap.size, 2, none⟩ = some (.int .i64 h) := (World.cell?_of_block (a := ⟨w.heap.size, 2, none⟩) (hg11.block w.heap.size (by omega) (fun e => by have := LT5.out _ e.symm; omega))).trans c2_w10
      have B_w11 : Below w.heap.size w w11 := B_w10.grown hg11 (by omega) (fun b hb => by have := LT5.out b hb; omega)
      have z_w11 := B_w11.size
      have s0_w11 : w.heap.size < w11.heap.size := Nat.lt_of_lt_of_le s0_w10 hg11.size
      clear hg11 og11 OG10 OD10 HMK c0_w10 c1_w10 c2_w10 B_w10 z_w10 s0_w10
      have hhd := fun (W : World) hh => heldIntS_any D5 q c5 1 W (by omega) (by omega) hh
      rw [show ((1 : Nat) : Int) = 1 from rfl] at hhd
      have HHD := Lib.hid hhd
      clear hhd
      have t2 : ¬ ((1 : Int) + (q : Int) < 0) := by omega
      have t3 : (((1 : Int) + (q : Int)) != (1 : Int) + (q : Int)) = false := by simp
      go_wp2_with fail
      refine (HHD.out _ (own_row OG11.out)).mono ?_
      rintro e w12 ⟨rfl, hw12⟩
      subst hw12
      go_wp2_with fail
      refine (HTO.out _ (HA.out.below B_w11)).mono ?_
      rintro e w13 ⟨A13, c13, B13, d13, zs13, rfl, ho13, b13⟩
      have HS13 := Lib.hid ho13.at_
      have OD13 := Lib.hid (own_below OD11.out b13)
      have OG13 := Lib.hid (own_below OG11.out b13)
      clear ho13 OD11 OG11
      have c0_w13 : w13.cell? ⟨w.heap.size, 0, none⟩ = some (.slice A k c) := (b13.cell (p := ⟨w.heap.size, 0, none⟩) (by first | omega | (simp; done) | (simp; omega))).trans (by first | assumption | go_simp)
      have c1_w13 : w13.cell? ⟨w.heap.size, 1, none⟩ = some (.slice B m d) := (b13.cell (p := ⟨w.heap.size, 1, none⟩) (by first | omega | (simp; done) | (simp; omega))).trans (by first | assumption | go_simp)
      have c2_w13 : w13.cell? ⟨w.heap.size, 2, none⟩ = some (.int .i64 h) := (b13.cell (p := ⟨w.heap.size, 2, none⟩) (by first | omega | (simp; done) | (simp; omega))).trans (by first | assumption | go_simp)
      have B_w13 : Below w.heap.size w w13 := (by repeat (first | exact Below.refl _ _ | refine below_step (by assumption) (by first | omega | (simp; done) | (simp; omega)) ?_ | refine below_drewN ?_ _ | refine Below.drew ?_ | refine Below.setCell ?_ (by first | omega | (simp; done) | (simp; omega)) _ | refine Below.alloc ?_ (by first | omega | (simp; done) | (simp; omega)) _))
      have z_w13 := B_w13.size
      have s0_w13 : w.heap.size < w13.heap.size := Nat.lt_of_lt_of_le (by first | omega | (simp; done) | (simp; omega)) b13.size
      clear b13 c0_w11 c1_w11 c2_w11 B_w11 z_w11 s0_w11
      go_wp2_with fail
      refine (HIM.out A13 c13 B13 d13 _ HS13.out).mono ?_
      rintro e w14 ⟨D14, c14, rfl, h14, b14⟩
      have OH14 := Lib.hid h14
      have OD14 := Lib.hid (own_below OD13.out b14)
      have OG14 := Lib.hid (own_below OG13.out b14)
      clear h14 OD13 OG13 HS13
      have c0_w14 : w14.cell? ⟨w.heap.size, 0, none⟩ = some (.slice A k c) := (b14.cell (p := ⟨w.heap.size, 0, none⟩) (by first | omega | (simp; done) | (simp; omega))).trans (by first | assumption | go_simp)
      have c1_w14 : w14.cell? ⟨w.heap.size, 1, none⟩ = some (.slice B m d) := (b14.cell (p := ⟨w.heap.size, 1, none⟩) (by first | omega | (simp; done) | (simp; omega))).trans (by first | assumption | go_simp)
      have c2_w14 : w14.cell? ⟨w.heap.size, 2, none⟩ = some (.int .i64 h) := (b14.cell (p := ⟨w.heap.size, 2, none⟩) (by first | omega | (simp; done) | (simp; omega))).trans (by first | assumption | go_simp)
      have B_w14 : Below w.heap.size w w14 := (by repeat (first | exact Below.refl _ _ | refine below_step (by assumption) (by first | omega | (simp; done) | (simp; omega)) ?_ | refine below_drewN ?_ _ | refine Below.drew ?_ | refine Below.setCell ?_ (by first | omega | (simp; done) | (simp; omega)) _ | refine Below.alloc ?_ (by first | omega | (simp; done) | (simp; omega)) _))
      have z_w14 := B_w14.size
      have s0_w14 : w.heap.size < w14.heap.size := Nat.lt_of_lt_of_le (by first | omega | (simp; done) | (simp; omega)) b14.size
      clear b14 c0_w13 c1_w13 c2_w13 B_w13 z_w13 s0_w13
      go_wp2_with fail
      refine (HEE.out D14 D3 c14 c3 _ (own_row OH14.out) (own_row OD14.out)).mono ?_
      rintro e w15 ⟨rfl, n15, hw15⟩
      have b15 : Below w14.heap.size w14 w15 := by rw [hw15]; exact below_drewN (Below.refl _ _) _
      have OG15 := Lib.hid (own_below OG14.out b15)
      clear hw15 OH14 OD14 OG14
      have c0_w15 : w15.cell? ⟨w.heap.size, 0, none⟩ = some (.slice A k c) := (b15.cell (p := ⟨w.heap.size, 0, none⟩) (by first | omega | (simp; done) | (simp; omega))).trans (by first | assumption | go_simp)
      have c1_w15 : w15.cell? ⟨w.heap.size, 1, none⟩ = some (.slice B m d) := (b15.cell (p := ⟨w.heap.size, 1, none⟩) (by first | omega | (simp; done) | (simp; omega))).trans (by first | assumption | go_simp)
      have c2_w15 : w15.cell? ⟨w.heap.size, 2, none⟩ = some (.int .i64 h) := (b15.cell (p := ⟨w.heap.size, 2, none⟩) (by first | omega | (simp; done) | (simp; omega))).trans (by first | assumption | go_simp)
      have B_w15 : Below w.heap.size w w15 := (by repeat (first | exact Below.refl _ _ | refine below_step (by assumption) (by first | omega | (simp; done) | (simp; omega)) ?_ | refine below_drewN ?_ _ | refine Below.drew ?_ | refine Below.setCell ?_ (by first | omega | (simp; done) | (simp; omega)) _ | refine Below.alloc ?_ (by first | omega | (simp; done) | (simp; omega)) _))
      have z_w15 := B_w15.size
      have s0_w15 : w.heap.size < w15.heap.size := Nat.lt_of_lt_of_le (by first | omega | (simp; done) | (simp; omega)) b15.size
      clear b15 c0_w14 c1_w14 c2_w14 B_w14 z_w14 s0_w14
      go_wp2_with fail
      refine (HHD.out _ (own_row OG15.out)).mono ?_
      rintro e w16 ⟨rfl, hw16⟩
      subst hw16
      go_wp2_with fail
      go_ret
      exact ⟨rfl, B_w15⟩

/-! ### FnExactChosenNodes: the row -/

set_option maxRecDepth 100000 in
theorem FnExactChosenNodes_lifted (os : Os) (started : os.Started) (H : Type) (enc : TypeId × Value → H) :
    ReturnsInHanded {} Try.checked os 9 .any (Rows.fnExactChosenNodesSpec.pre6 enc Try.prog Try.f9 Rows.fnExactChosenNodesRow.domain false) (Rows.fnExactChosenNodesSpec.post enc Try.prog Try.f9 false true false false) := by
  refine returnsInHanded_of_change (C := Try.checked) (by kernel_rfl) started (by kernel_rfl) Try.func9
    (ChangeSpec.witness6 (enc := enc) (C := Try.checked) false ⟨#[], #[.agg #[.slice none 0 0, .slice none 0 0, .int .i64 0]], []⟩ 8 (by kernel_rfl) (by kernel_rfl) (by kernel_rfl) (by kernel_rfl)) ?_
  intro W base args ds gs before hval0 hW hcnd _
  have hval : ∀ (j : Nat) t v, Try.f9.params[j]? = some t → args[j]? = some v → Value.okWide Try.prog W .any base t v := hval0
  have hW2 := hW
  obtain ⟨p, q, hA0, hV, hpq, hfz, hnd⟩ := hW2
  have hA : DataW.TrodAll enc Try.prog W 0 (fun _ => true) true Try.f9.params.toList args.toList ds p := hA0
  rw [Try.params9] at hA hval
  obtain ⟨v0, d0, hargs, hds, h0⟩ := trodAll_one hA
  obtain ⟨hgs, hq⟩ := trodVars_none hV
  subst hargs
  subst hds
  subst hgs
  obtain ⟨s0, A0, k0, c0, B0, m0, e0, rfl, wn0, hk0, hm0, hw0, hw1, hr0⟩ := open_show (hval 0 34 v0 rfl rfl) h0
  refine (FnExactChosenNodes_walk s0 A0 k0 c0 B0 m0 e0 W hk0 hm0 hw0 hr0).mono fun e W2 ⟨he, hb⟩ => ?_
  subst he
  exact ⟨_, rfl, law_post (by kernel_rfl) (by rw [Try.params9]; decide +kernel) (by kernel_rfl) Try.underlying4 rfl ⟨rfl, rfl, rfl⟩ hW hb⟩

theorem FnExactChosenNodes_holds : Rows.FnExactChosenNodesSaid :=
  OpenClaim.holds_of_wide 9 Try.f9 rfl rfl rfl rfl rfl rfl rfl ⟨rfl, rfl, rfl, rfl, rfl⟩ rfl rfl rfl rfl rfl (by kernel_rfl) Try.func9 (by kernel_rfl)
    (of_decide_eq_true (by kernel_rfl)) (by unfold Func.isWrapper; first | (rw [if_pos (by decide +kernel)]; kernel_rfl) | (rw [if_neg (by decide +kernel)]; exact ⟨rfl, rfl⟩))
    (fun os started H enc _ => FnExactChosenNodes_lifted os started H enc)

end Go.Proofs.Ytgnehihnkkoneaa

