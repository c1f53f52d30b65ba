/-
  laws.FnExactJoinLabels HOLDS: whatever the arguments, impl.JoinLabels answers as spec.JoinLabels does, the arguments read as they did, and the answer's memory is its own. No condition.
-/
import Derived.Test.YtaokabkffnjbjaaRows
import Derived.Test.YtaokabkffnjbjaaFrame
import Derived.Test.YtaokabkffnjbjaaBdLbP
import Derived.Test.YtaokabkffnjbjaaBdLwJ
import Derived.Deep.RegionHeld3
import Derived.Deep.CutRange
import Derived.ProofKit
import Derived.Lib.SmallJoins
namespace Go.Proofs.Ytaokabkffnjbjaa
open Go.RowKit Go.ChangeShapes Go.WideShapes Go.ChangeAt Go.WideMaps Go.WideElems
set_option linter.unusedVariables false
set_option linter.unusedSimpArgs false

theorem own_to {w : World} {B e n s lo hi : Nat} {v : Value} {xs : List Value} (h : w.ownsRow B e s v n xs) (hl : ∀ q, v.ownBlock = some q → lo < q ∧ q < hi) : w.ownsRow (lo + 1) e s v n xs := by
  refine ⟨h.1, ?_⟩
  rcases h.2 with h2 | ⟨g, cap, cur, h1, h2, h3⟩
  · exact .inl h2
  · subst h1
    have := (hl g rfl).1
    exact .inr ⟨g, cap, cur, rfl, by omega, h3⟩
theorem own_off {v v' : Value} {a b c d : Nat} (h : ∀ q, v.ownBlock = some q → a < q ∧ q < b) (h' : ∀ q, v'.ownBlock = some q → c < q ∧ q < d) (hd : b ≤ c + 1 ∨ d ≤ a + 1 := by omega) : v.ownBlock = none ∨ v.ownBlock ≠ v'.ownBlock := by
  cases hb : v.ownBlock with
  | none => exact .inl rfl
  | some q =>
    refine .inr fun e => ?_
    have h1 := h q hb
    have h2 := h' q e.symm
    omega

theorem toIntS_sl (zs : List Int) (A : Option Addr) (n c : Nat) (w : World) (hn : zs.length = n) (hm : n ≤ 1099511627776) (hr : RowAt w A (zs.map intV)) :
    Calls Try.prog 11 #[.slice A n c] w fun e w' => ∃ A' c', e = .returned (.slice A' n c') ∧ w'.ownsRow w.heap.size 3 1 (.slice A' n c') n (zs.map intV) ∧ Below w.heap.size w w' :=
  (toIntS_any zs A n c w hn hm hr).mono fun e w' ⟨v, e1, o, b⟩ => by
    obtain ⟨A', c', rfl, _, _⟩ := own_form o
    exact ⟨A', c', e1, o, b⟩
theorem eqIntS_sl (zs : List Int) (A B : Option Addr) (n ca cb : Nat) (w : World) (hn : zs.length = n) (hm : n ≤ maxLen) (ha : RowAt w A (zs.map intV)) (hb : RowAt w B (zs.map intV)) :
    Calls Try.prog 13 #[.slice A n ca, .slice B n cb] w fun e w' => e = .returned (.bool true) ∧ Below w.heap.size w w' :=
  (eqIntS_same zs A B n ca cb w hn hm ha hb).mono fun e w' ⟨h1, r, h2⟩ => ⟨h1, by rw [h2]; exact below_drewN (Below.refl _ _) r⟩

theorem own_off7 {v v' : Value} {a b c d : Nat} (h : ∀ q, v.ownBlock = some q → a ≤ q ∧ q < b) (h' : ∀ q, v'.ownBlock = some q → c ≤ q ∧ q < d) (hd : b ≤ c ∨ d ≤ a := by omega) : v.ownBlock = none ∨ v.ownBlock ≠ v'.ownBlock := by
  cases hv : v.ownBlock with
  | none => exact Or.inl rfl
  | some q =>
    refine Or.inr fun he => ?_
    have h1 := h q hv
    have h2 := h' q he.symm
    omega
theorem same_below {f : FuncId} {args : Array Value} {w : World} {v : Value} (h : Calls Try.prog f args w fun e w' => e = .returned v ∧ w = w') : Calls Try.prog f args w fun e w' => e = .returned v ∧ Below w.heap.size w w' :=
  h.mono fun e w' ⟨h1, h2⟩ => ⟨h1, by subst h2; exact Below.refl _ _⟩
theorem ints_c7 {f : FuncId} {args : Array Value} {w : World} {r zs : List Int} {q : Nat} (h1 : zs = r) (h2 : q = zs.length) (h : Calls Try.prog f args w fun e w' => ∃ B m cb, e = .returned (.slice B m cb) ∧ m = r.length ∧ w'.ownsRow w.heap.size 3 1 (.slice B m cb) m (r.map intV) ∧ Below w.heap.size w w') :
    Calls Try.prog f args w fun e w' => ∃ B cb, e = .returned (.slice B q cb) ∧ w'.ownsRow w.heap.size 3 1 (.slice B q cb) q (zs.map intV) ∧ Below w.heap.size w w' :=
  h.mono fun e w' ⟨A, k, c, e1, e2, e3, e4⟩ => by
    subst h1 h2 e2
    exact ⟨A, c, e1, e3, e4⟩
theorem intsb_c7 {f : FuncId} {args : Array Value} {w : World} {r : List Int × Bool} {zs : List Int} {ok : Bool} {q : Nat} (h1 : zs = r.1) (h0 : ok = r.2) (h2 : q = zs.length) (h : Calls Try.prog f args w fun e w' => ∃ B m cb, e = .returned (.tuple #[.slice B m cb, .bool r.2]) ∧ m = r.1.length ∧ w'.ownsRow w.heap.size 3 1 (.slice B m cb) m (r.1.map intV) ∧ Below w.heap.size w w') :
    Calls Try.prog f args w fun e w' => ∃ B cb, e = .returned (.tuple #[.slice B q cb, .bool ok]) ∧ w'.ownsRow w.heap.size 3 1 (.slice B q cb) q (zs.map intV) ∧ Below w.heap.size w w' :=
  h.mono fun e w' ⟨A, k, c, e1, e2, e3, e4⟩ => by
    subst h1 h2 h0 e2
    exact ⟨A, c, e1, e3, e4⟩

set_option maxRecDepth 100000 in
set_option maxHeartbeats 16000000 in
theorem FnExactJoinLabels_walk (a : List Int) (A : Option Addr) (k c : Nat) (b : List Int) (B : Option Addr) (m d : Nat) (w : World) (hla : a.length = k) (hka : k ≤ maxLen) (hra : RowAt w A (a.map intV)) (hlb : b.length = m) (hmb : m ≤ maxLen) (hrb : RowAt w B (b.map intV)) :
    Calls Try.prog 6 #[.slice A k c, .slice B m d] w fun e w' => e = .returned (.bool true) ∧ Below w.heap.size w w' := by
  have HRA := Lib.hid hra
  have HLA := Lib.hid hla
  have HRB := Lib.hid hrb
  have HLB := Lib.hid hlb
  have hka2 := hka
  unfold maxLen at hka2
  have hmb2 := hmb
  unfold maxLen at hmb2
  clear hra hla hka hrb hlb hmb
  by_cases hlong : k ≤ 1048576
  · have hl1 : ¬ ((1048576 : Int) < k) := by omega
    by_cases hlong2 : m ≤ 1048576
    · have hl2 : ¬ ((1048576 : Int) < m) := by omega
      have HTA := Lib.hid (fun W h' => toIntS_sl a A k c W HLA.out (by omega) h')
      have HEA := Lib.hid (fun A1 A2 c1 c2 W h1 h2 => eqIntS_sl a A1 A2 k c1 c2 W HLA.out (by unfold maxLen; omega) h1 h2)
      have HTB := Lib.hid (fun W h' => toIntS_sl b B m d W HLB.out (by omega) h')
      have HEB := Lib.hid (fun A1 A2 c1 c2 W h1 h2 => eqIntS_sl b A1 A2 m c1 c2 W HLB.out (by unfold maxLen; omega) h1 h2)
      obtain ⟨zs, hzs⟩ : ∃ t, t = (jnR a b).1 := ⟨_, rfl⟩
      obtain ⟨ok, hok⟩ : ∃ t, t = (jnR a b).2 := ⟨_, rfl⟩
      obtain ⟨q, hq⟩ : ∃ t, t = zs.length := ⟨_, rfl⟩
      have hqb : q ≤ 1048576 := by rw [hq, hzs]; exact (by have := jnR_len a b; omega)
      have HSP := Lib.hid (fun A' c' B' d' W h1 h2 => intsb_c7 hzs hok hq (spec_JoinLabels a b A' k c' B' m d' W HLA.out hlong HLB.out hlong2 h1 h2))
      have HIM := Lib.hid (fun A' c' B' d' W h1 h2 => intsb_c7 hzs hok hq (impl_JoinLabels a b A' k c' B' m d' W HLA.out hlong HLB.out hlong2 h1 h2))
      have hoo : (ok != ok) = false := by simp
      have HEE := Lib.hid (fun D E c1 c2 W h1 h2 => eqIntS_sl zs D E q c1 c2 W hq.symm (by unfold maxLen; omega) h1 h2)
      clear hzs hq hok
      have t1 : ¬ ((1 : Int) + (k : Int) < 0) := by omega
      have t4 : ¬ ((1 : Int) + (k : Int) + (m : Int) < 0) := by omega
      have t2 : ¬ ((1 : Int) + (q : Int) < 0) := by omega
      have t3 : (((1 : Int) + (q : Int)) != (1 : Int) + (q : Int)) = false := by simp
      go_enter Try.func6, Try.ntmps6
      have B_w : Below w.heap.size w w := Below.refl _ _
      go_wp2_with fail
      refine (HTA.out _ (HRA.out.below B_w)).mono ?_
      rintro e ua ⟨Tua, Tuac, rfl, hh, bh⟩
      have HIua := Lib.hid (own_row hh)
      clear hh
      have B_ua : Below w.heap.size w ua := B_w.trans (bh.mono B_w.size)
      clear   bh
      go_wp2_with fail
      refine (HTB.out _ (HRB.out.below B_ua)).mono ?_
      rintro e ub ⟨Tub, Tubc, rfl, hh, bh⟩
      have HJub := Lib.hid (own_row hh)
      have HIub := Lib.hid (HIua.out.below bh)
      clear hh HIua
      have B_ub : Below w.heap.size w ub := B_ua.trans (bh.mono B_ua.size)
      clear   bh
      go_wp2_with fail
      refine (HSP.out Tua Tuac Tub Tubc _ HIub.out HJub.out).mono ?_
      rintro e uc ⟨D3, d3, rfl, hh, bh⟩
      have lt3 := hh.lt
      obtain ⟨e1, he1⟩ : ∃ e, e = uc.heap.size := ⟨_, rfl⟩
      have ltD : ∀ x, (Value.slice D3 q d3).ownBlock = some x → w.heap.size ≤ x ∧ x < e1 := fun x hx => by have := lt3 x hx; have := B_ub.size; omega
      have g3 := Lib.hid hh
      clear hh lt3 HIub HJub
      have B_uc : Below w.heap.size w uc := B_ub.trans (bh.mono B_ub.size)
      clear   bh
      have oD_uc := g3
      clear g3
      have e1s : w.heap.size ≤ e1 := by rw [he1]; exact B_uc.size
      go_wp2_with fail
      refine (HTA.out _ (HRA.out.below B_uc)).mono ?_
      rintro e ud ⟨T4, T4c, rfl, hh, bh⟩
      have lt4 := hh.lt
      obtain ⟨e2, he2⟩ : ∃ e, e = ud.heap.size := ⟨_, rfl⟩
      have ltX : ∀ x, (Value.slice T4 k T4c).ownBlock = some x → e1 ≤ x ∧ x < e2 := fun x hx => by have := lt4 x hx; omega
      have e2s : e1 ≤ e2 := by rw [he1, he2]; exact bh.size
      have g4 := Lib.hid hh
      clear hh lt4
      have B_ud : Below w.heap.size w ud := B_uc.trans (bh.mono B_uc.size)
      have oD_ud := Lib.hid (own_below oD_uc.out bh)
      clear  oD_uc bh
      have oX_ud := g4
      clear g4
      go_wp2_with fail
      refine (HTB.out _ (HRB.out.below B_ud)).mono ?_
      rintro e ue ⟨T5, T5c, rfl, hh, bh⟩
      have lt5 := hh.lt
      obtain ⟨e3, he3⟩ : ∃ e, e = ue.heap.size := ⟨_, rfl⟩
      have ltV : ∀ x, (Value.slice T5 m T5c).ownBlock = some x → e2 ≤ x ∧ x < e3 := fun x hx => by have := lt5 x hx; omega
      have e3s : e2 ≤ e3 := by rw [he2, he3]; exact bh.size
      have g5 := Lib.hid hh
      clear hh lt5
      have B_ue : Below w.heap.size w ue := B_ud.trans (bh.mono B_ud.size)
      have oD_ue := Lib.hid (own_below oD_ud.out bh)
      have oX_ue := Lib.hid (own_below oX_ud.out bh)
      clear  oD_ud oX_ud bh
      have oV_ue := g5
      clear g5
      go_wp2_with fail
      refine (HIM.out T4 T4c T5 T5c _ (own_row oX_ue.out) (own_row oV_ue.out)).mono ?_
      rintro e uf ⟨D5, d5, rfl, hh, bh⟩
      have lt6 := hh.lt
      obtain ⟨e4, he4⟩ : ∃ e, e = uf.heap.size := ⟨_, rfl⟩
      have ltY : ∀ x, (Value.slice D5 q d5).ownBlock = some x → e3 ≤ x ∧ x < e4 := fun x hx => by have := lt6 x hx; omega
      have g6 := Lib.hid hh
      clear hh lt6
      have B_uf : Below w.heap.size w uf := B_ue.trans (bh.mono B_ue.size)
      have oD_uf := Lib.hid (own_below oD_ue.out bh)
      have oX_uf := Lib.hid (own_below oX_ue.out bh)
      have oV_uf := Lib.hid (own_below oV_ue.out bh)
      clear  oD_ue oX_ue oV_ue bh
      have oY_uf := g6
      clear g6
      go_wp2_with fail
      refine (HEE.out D5 D3 d5 d3 _ (own_row oY_uf.out) (own_row oD_uf.out)).mono ?_
      rintro e ug ⟨rfl, bh⟩
      have B_ug : Below w.heap.size w ug := B_uf.trans (bh.mono B_uf.size)
      have oD_ug := Lib.hid (own_below oD_uf.out bh)
      have oX_ug := Lib.hid (own_below oX_uf.out bh)
      have oV_ug := Lib.hid (own_below oV_uf.out bh)
      have oY_ug := Lib.hid (own_below oY_uf.out bh)
      clear  oD_uf oX_uf oV_uf oY_uf bh
      go_wp2_with fail
      refine (HTA.out _ (HRA.out.below B_ug)).mono ?_
      rintro e uh ⟨T7, T7c, rfl, hh, bh⟩
      have HI7 := Lib.hid (own_row hh)
      clear hh
      have B_uh : Below w.heap.size w uh := B_ug.trans (bh.mono B_ug.size)
      have oD_uh := Lib.hid (own_below oD_ug.out bh)
      have oX_uh := Lib.hid (own_below oX_ug.out bh)
      have oV_uh := Lib.hid (own_below oV_ug.out bh)
      have oY_uh := Lib.hid (own_below oY_ug.out bh)
      clear  oD_ug oX_ug oV_ug oY_ug bh
      go_wp2_with fail
      refine (HEA.out T4 T7 T4c T7c _ (own_row oX_uh.out) HI7.out).mono ?_
      rintro e ui ⟨rfl, bh⟩
      clear HI7
      have B_ui : Below w.heap.size w ui := B_uh.trans (bh.mono B_uh.size)
      have oD_ui := Lib.hid (own_below oD_uh.out bh)
      have oX_ui := Lib.hid (own_below oX_uh.out bh)
      have oV_ui := Lib.hid (own_below oV_uh.out bh)
      have oY_ui := Lib.hid (own_below oY_uh.out bh)
      clear  oD_uh oX_uh oV_uh oY_uh bh
      go_wp2_with fail
      refine (HTB.out _ (HRB.out.below B_ui)).mono ?_
      rintro e uj ⟨T8, T8c, rfl, hh, bh⟩
      have HI8 := Lib.hid (own_row hh)
      clear hh
      have B_uj : Below w.heap.size w uj := B_ui.trans (bh.mono B_ui.size)
      have oD_uj := Lib.hid (own_below oD_ui.out bh)
      have oX_uj := Lib.hid (own_below oX_ui.out bh)
      have oV_uj := Lib.hid (own_below oV_ui.out bh)
      have oY_uj := Lib.hid (own_below oY_ui.out bh)
      clear  oD_ui oX_ui oV_ui oY_ui bh
      go_wp2_with fail
      refine (HEB.out T5 T8 T5c T8c _ (own_row oV_uj.out) HI8.out).mono ?_
      rintro e uk ⟨rfl, bh⟩
      clear HI8
      have B_uk : Below w.heap.size w uk := B_uj.trans (bh.mono B_uj.size)
      have oD_uk := Lib.hid (own_below oD_uj.out bh)
      have oX_uk := Lib.hid (own_below oX_uj.out bh)
      have oV_uk := Lib.hid (own_below oV_uj.out bh)
      have oY_uk := Lib.hid (own_below oY_uj.out bh)
      clear  oD_uj oX_uj oV_uj oY_uj bh
      have hmk := markIntS_any T4 k T4c _ 1 (a.map intV) uk (by omega) (by omega) oX_uk.out
      rw [show ((1 : Nat) : Int) = 1 from rfl] at hmk
      have HMK := Lib.hid hmk
      clear hmk
      go_wp2_with fail
      refine (HMK.out).mono ?_
      rintro e um ⟨rfl, _, hg9⟩
      have bm : Below uk.heap.size uk uk := Below.refl _ _
      have B_um : Below w.heap.size w um := (B_uk.trans (bm.mono B_uk.size)).grown hg9 (Nat.le_trans B_uk.size bm.size) (fun q hq => by have := ltX q hq; omega)
      have oD_um := Lib.hid ((own_below oD_uk.out bm).kept hg9 (own_off7 ltD ltX))
      have oV_um := Lib.hid ((own_below oV_uk.out bm).kept hg9 (own_off7 ltV ltX))
      have oY_um := Lib.hid ((own_below oY_uk.out bm).kept hg9 (own_off7 ltY ltX))
      clear bm hg9 HMK oX_uk
      clear  oD_uk oV_uk oY_uk 
      have hmk := markIntS_any T5 m T5c _ (1 + k) (b.map intV) um (by omega) (by omega) oV_um.out
      rw [show ((1 + k : Nat) : Int) = 1 + (k : Int) from by omega] at hmk
      have HMK := Lib.hid hmk
      clear hmk
      go_wp2_with fail
      refine (HMK.out).mono ?_
      rintro e un ⟨rfl, _, hg9⟩
      have bm : Below um.heap.size um um := Below.refl _ _
      have B_un : Below w.heap.size w un := (B_um.trans (bm.mono B_um.size)).grown hg9 (Nat.le_trans B_um.size bm.size) (fun q hq => by have := ltV q hq; omega)
      have oD_un := Lib.hid ((own_below oD_um.out bm).kept hg9 (own_off7 ltD ltV))
      have oY_un := Lib.hid ((own_below oY_um.out bm).kept hg9 (own_off7 ltY ltV))
      clear bm hg9 HMK oV_um
      clear  oD_um oY_um 
      go_wp2_with fail
      refine (HEE.out D5 D3 d5 d3 _ (own_row oY_un.out) (own_row oD_un.out)).mono ?_
      rintro e uo ⟨rfl, bh⟩
      have B_uo : Below w.heap.size w uo := B_un.trans (bh.mono B_un.size)
      have oD_uo := Lib.hid (own_below oD_un.out bh)
      have oY_uo := Lib.hid (own_below oY_un.out bh)
      clear  oD_un oY_un bh
      have hmk := markIntS_any D5 q d5 _ 1 (zs.map intV) uo (by omega) (by omega) oY_uo.out
      rw [show ((1 : Nat) : Int) = 1 from rfl] at hmk
      have HMK := Lib.hid hmk
      clear hmk
      go_wp2_with fail
      refine (HMK.out).mono ?_
      rintro e up ⟨rfl, oY, hg11⟩
      have bm : Below uo.heap.size uo uo := Below.refl _ _
      have B_up : Below w.heap.size w up := (B_uo.trans (bm.mono B_uo.size)).grown hg11 (Nat.le_trans B_uo.size bm.size) (fun q hq => by have := ltY q hq; omega)
      have oD_up := Lib.hid ((own_below oD_uo.out bm).kept hg11 (own_off7 ltD ltY))
      have oY_up := Lib.hid oY
      clear bm hg11 HMK oY
      clear  oD_uo oY_uo 
      have hhd := fun (W : World) h => heldIntS_any D5 q d5 1 W (by omega) (by omega) h
      rw [show ((1 : Nat) : Int) = 1 from rfl] at hhd
      have HHD := Lib.hid hhd
      clear hhd
      go_wp2_with fail
      refine (HHD.out _ (own_row oY_up.out)).mono ?_
      rintro e uq ⟨rfl, hw12⟩
      have b12 : Below up.heap.size up uq := by rw [hw12]; exact Below.refl _ _
      clear hw12
      have B_uq : Below w.heap.size w uq := B_up.trans (b12.mono B_up.size)
      have oD_uq := Lib.hid (own_below oD_up.out b12)
      have oY_uq := Lib.hid (own_below oY_up.out b12)
      clear  oD_up oY_up b12
      go_wp2_with fail
      refine (HTA.out _ (HRA.out.below B_uq)).mono ?_
      rintro e ur ⟨Tur, Turc, rfl, hh, bh⟩
      have HIur := Lib.hid (own_row hh)
      clear hh
      have B_ur : Below w.heap.size w ur := B_uq.trans (bh.mono B_uq.size)
      have oD_ur := Lib.hid (own_below oD_uq.out bh)
      have oY_ur := Lib.hid (own_below oY_uq.out bh)
      clear  oD_uq oY_uq bh
      go_wp2_with fail
      refine (HTB.out _ (HRB.out.below B_ur)).mono ?_
      rintro e us ⟨Tus, Tusc, rfl, hh, bh⟩
      have HJus := Lib.hid (own_row hh)
      have HIus := Lib.hid (HIur.out.below bh)
      clear hh HIur
      have B_us : Below w.heap.size w us := B_ur.trans (bh.mono B_ur.size)
      have oD_us := Lib.hid (own_below oD_ur.out bh)
      have oY_us := Lib.hid (own_below oY_ur.out bh)
      clear  oD_ur oY_ur bh
      go_wp2_with fail
      refine (HIM.out Tur Turc Tus Tusc _ HIus.out HJus.out).mono ?_
      rintro e ut ⟨D14, d14, rfl, hh, bh⟩
      have g14 := Lib.hid hh
      clear hh
      have B_ut : Below w.heap.size w ut := B_us.trans (bh.mono B_us.size)
      have oD_ut := Lib.hid (own_below oD_us.out bh)
      have oY_ut := Lib.hid (own_below oY_us.out bh)
      clear  oD_us oY_us bh
      have oZ_ut := g14
      clear g14
      go_wp2_with fail
      refine (HEE.out D14 D3 d14 d3 _ (own_row oZ_ut.out) (own_row oD_ut.out)).mono ?_
      rintro e uv ⟨rfl, bh⟩
      have B_uv : Below w.heap.size w uv := B_ut.trans (bh.mono B_ut.size)
      have oD_uv := Lib.hid (own_below oD_ut.out bh)
      have oY_uv := Lib.hid (own_below oY_ut.out bh)
      have oZ_uv := Lib.hid (own_below oZ_ut.out bh)
      clear  oD_ut oY_ut oZ_ut bh
      go_wp2_with fail
      refine (HHD.out _ (own_row oY_uv.out)).mono ?_
      rintro e uw ⟨rfl, hw16⟩
      have B_uw : Below w.heap.size w uw := by rw [hw16]; exact B_uv
      clear hw16
      go_wp2_with fail
      go_ret
      exact ⟨rfl, B_uw⟩
    · have hl2 : ((1048576 : Int) < m) := by omega
      go_enter Try.func6, Try.ntmps6
      go_wp2_with fail
      go_ret
      exact ⟨rfl, Below.refl _ _⟩
  · have hl1 : ((1048576 : Int) < k) := by omega
    go_enter Try.func6, Try.ntmps6
    go_wp2_with fail
    go_ret
    exact ⟨rfl, Below.refl _ _⟩

/-! ### FnExactJoinLabels: the row -/

set_option maxRecDepth 100000 in
theorem FnExactJoinLabels_lifted (os : Os) (started : os.Started) (H : Type) (enc : TypeId × Value → H) :
    ReturnsInHanded {} Try.checked os 6 .any (Rows.fnExactJoinLabelsSpec.pre6 enc Try.prog Try.f6 Rows.fnExactJoinLabelsRow.domain false) (Rows.fnExactJoinLabelsSpec.post enc Try.prog Try.f6 false true false false) := by
  refine returnsInHanded_of_change (C := Try.checked) (by kernel_rfl) started (by kernel_rfl) Try.func6
    (ChangeSpec.witness6 (enc := enc) (C := Try.checked) false ⟨#[], #[.slice none 0 0, .slice none 0 0], []⟩ 8 (by kernel_rfl) (by kernel_rfl) (by kernel_rfl) (by kernel_rfl)) ?_
  intro W base args ds gs before hval0 hW hcnd _
  have hval : ∀ (j : Nat) t v, Try.f6.params[j]? = some t → args[j]? = some v → Value.okWide Try.prog W .any base t v := hval0
  have hW2 := hW
  obtain ⟨p, q, hA0, hV, hpq, hfz, hnd⟩ := hW2
  have hA : DataW.TrodAll enc Try.prog W 0 (fun _ => true) true Try.f6.params.toList args.toList ds p := hA0
  rw [Try.params6] at hA hval
  obtain ⟨v0, v1, d0, d1, p0, p1, hargs, hds, hp, h0, h1⟩ := trodAll_two hA
  obtain ⟨hgs, hq⟩ := trodVars_none hV
  subst hargs
  subst hds
  subst hgs
  obtain ⟨s0, l0, c0, rfl⟩ := okWide_slice Try.underlying22 (hval 0 22 v0 rfl rfl)
  obtain ⟨fuel0, hf0⟩ := h0
  obtain ⟨zs0, hzl0, hzm0, hzw0, hzr0⟩ := ints_in Try.underlying22 Try.underlying3 cells_int1 hf0
  obtain ⟨s1, l1, c1, rfl⟩ := okWide_slice Try.underlying22 (hval 1 22 v1 rfl rfl)
  obtain ⟨fuel1, hf1⟩ := h1
  obtain ⟨zs1, hzl1, hzm1, hzw1, hzr1⟩ := ints_in Try.underlying22 Try.underlying3 cells_int1 hf1
  refine (FnExactJoinLabels_walk zs0 s0 l0 c0 zs1 s1 l1 c1 W hzl0 hzm0 hzr0 hzl1 hzm1 hzr1).mono fun e W2 ⟨he, hb⟩ => ?_
  subst he
  exact ⟨_, rfl, law_post (by kernel_rfl) (by rw [Try.params6]; decide +kernel) (by kernel_rfl) Try.underlying4 rfl ⟨rfl, rfl, rfl⟩ hW hb⟩

theorem FnExactJoinLabels_holds : Rows.FnExactJoinLabelsSaid :=
  OpenClaim.holds_of_wide 6 Try.f6 rfl rfl rfl rfl rfl rfl rfl ⟨rfl, rfl, rfl, rfl, rfl⟩ rfl rfl rfl rfl rfl (by kernel_rfl) Try.func6 (by kernel_rfl)
    (of_decide_eq_true (by kernel_rfl)) (by unfold Func.isWrapper; first | (rw [if_pos (by decide +kernel)]; kernel_rfl) | (rw [if_neg (by decide +kernel)]; exact ⟨rfl, rfl⟩))
    (fun os started H enc _ => FnExactJoinLabels_lifted os started H enc)

end Go.Proofs.Ytaokabkffnjbjaa

