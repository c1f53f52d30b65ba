/-
  WALKS of the program: a node's line, a tie's line, FormatTie.
  WALK of the program's FormatShow.
-/
import Derived.Test.YtgajodcgedhikaaDoorBdStB
import Derived.Test.YtgajodcgedhikaaDoorBdPnI
import Derived.Deep.AppendLies
import Derived.Deep.RegionHeld3
import Derived.Deep.Cut
import Derived.Deep.CutRange
namespace Go.Proofs.YtgajodcgedhikaaDoor
open Go.RowKit
set_option linter.unusedVariables false
set_option linter.unusedSimpArgs false

theorem own_blockX {W : World} {B n s c : Nat} {t : TypeId} {xs : List Value} (b : Nat) (hB : B ≤ b) (h : W.heap[b]? = some (.cells xs.toArray t (0, 0))) (hl : xs.length = n * s) (hc : c = n) (hn : n ≤ maxLen) : W.ownsRow B t s (.slice (some ⟨b, 0, none⟩) n c) n xs := by
  subst hc
  exact ⟨hl, .inr ⟨b, c, xs.toArray, rfl, hB, h, Nat.le_refl _, hn, by simpa using hl, by simp [← hl]⟩⟩
theorem heap_newX (w : World) (o : Obj) (g : Nat) (h : g = w.heap.size) : (w.alloc o).heap[g]? = some o := by rw [h]; exact heap_alloc_new w o
theorem row_newX (w : World) (ss : List ByteArray) (xs : Array Value) (h : xs = (ss.map Value.string).toArray) : RowAt (w.alloc (.cells xs 9)) (some ⟨w.heap.size, 0, none⟩) (ss.map Value.string) := by
  intro _
  refine ⟨w.heap.size, 0, rfl, by simp, fun j hj => ?_⟩
  have h2 := cell_of_row (w.alloc (.cells xs 9)) w.heap.size (0 + j) xs 9 (0, 0) (heap_alloc_new w _)
  rw [h2, Nat.zero_add, h]
  simp [List.getElem?_eq_getElem hj]
theorem own_rowX {w : World} {B n c : Nat} {A : Option Addr} {ss : List ByteArray} (h : w.ownsRow B 9 1 (.slice A n c) n (ss.map Value.string)) : RowAt w A (ss.map Value.string) := own_row h
theorem one_c2X (a b : ByteArray) : ∀ u ∈ [Value.string a, Value.string b], u.oneCell' = true := fun u hu => by simp at hu; rcases hu with rfl | rfl <;> rfl
theorem one_c1X (a : ByteArray) : ∀ u ∈ [Value.string a], u.oneCell' = true := fun u hu => by simp at hu; subst hu; rfl
theorem nodL_0 {e : GN} (h : e.wat = 0) : joinB [bNode, e.name, fmtL e.lab] bSp = nodL e := by
  apply bytes_inj
  simp [nodL, h, joinB, joinTo, bNode, bSp]
theorem nodL_1 {e : GN} (h : ¬ e.wat = 0) : joinB [bNode, e.name, fmtL e.lab, bWatch, numB e.wat] bSp = nodL e := by
  apply bytes_inj
  simp [nodL, h, joinB, joinTo, bNode, bSp, bWatch]
theorem tieW_join (ns : List GN) (t : GT) : joinB [if t.fr then bFree else bTie, nmAt ns t.u, nmAt ns t.v, numB t.lo, numB t.hi] bSp = tieW ns t := by
  apply bytes_inj
  cases hf : t.fr <;> simp [tieW, hf, joinB, joinTo, bFree, bTie, bSp]
theorem horL_join (h : Int) : joinB [bHor, numB h] bSp = horL h := by
  apply bytes_inj
  simp [horL, joinB, joinTo, bHor, bSp]

set_option maxRecDepth 100000 in
set_option maxHeartbeats 8000000 in
theorem node_line (e : GN) (L : Option Addr) (c : Nat) (w : World) (hsz : e.name.size ≤ 1048576) (hlab : labR e.lab = true) (hw0 : 0 ≤ e.wat) (hw3 : e.wat ≤ 3) (hr : RowAt w L (e.lab.map intV)) (ht : Pow10 w) :
    Calls Tryd.prog 32 #[ndV L c e] w fun x w' => x = .returned (.string (nodL e)) ∧ Below w.heap.size w w' := by
  obtain ⟨i1, hii, hy0, hy1, hy2⟩ := info_parts Tryd.info9
  have hlen := labR_len hlab
  have hfs := fmtL_size hlab
  have HFL := Lib.hid (fun W h hp => impl_FormatLabel e.lab L e.lab.length c W rfl (by omega) h hp)
  have HFN := Lib.hid (fun W hp => impl_FormatInt e.wat W (by omega) (by omega) hp)
  have hns := numB_le (n := e.wat) (by omega) (by omega)
  have HR := Lib.hid hr
  have HT := Lib.hid ht
  have H0 := Lib.hid (fun h => nodL_0 (e := e) h)
  have H1 := Lib.hid (fun h => nodL_1 (e := e) h)
  obtain ⟨nm, lab, wat⟩ := e
  unfold ndV
  dsimp only at HFL HFN HR H0 H1 hsz hfs hns hw0 hw3 ⊢
  obtain ⟨q, hq⟩ : ∃ q, q = lab.length := ⟨_, rfl⟩
  rw [← hq] at HFL ⊢
  obtain ⟨fl, hfl⟩ : ∃ y, y = fmtL lab := ⟨_, rfl⟩
  rw [← hfl] at HFL H0 H1 hfs
  obtain ⟨yn, hyn⟩ : ∃ y, y = numB wat := ⟨_, rfl⟩
  rw [← hyn] at HFN H1 hns
  obtain ⟨w1, hw1⟩ : ∃ W, W = w.alloc (.cells #[.string nm, .slice L q c, .int .i64 wat] 56) := ⟨_, rfl⟩
  have B_w1 : Below w.heap.size w w1 := by rw [hw1]; exact (Below.refl _ _).alloc (Nat.le_refl _) _
  have z_w1 : w.heap.size < w1.heap.size := by rw [hw1]; simp
  have a0_w1 : w1.cell? ⟨w.heap.size, 0, none⟩ = some (.string nm) := by rw [hw1]; go_simp
  have a1_w1 : w1.cell? ⟨w.heap.size, 1, none⟩ = some (.slice L q c) := by rw [hw1]; go_simp
  have a2_w1 : w1.cell? ⟨w.heap.size, 2, none⟩ = some (.int .i64 wat) := by rw [hw1]; go_simp
  have HP := Lib.hid (pow_kept HT.out B_w1)
  have HR1 := Lib.hid (HR.out.below B_w1)
  have BW1 := Lib.hid B_w1
  have HW1 := Lib.hid hw1
  clear hw1 B_w1 hr ht hlab hlen hq hfl hyn HR HT
  by_cases h0 : wat = 0
  · have hb : (wat != 0) = false := by simp [h0]
    have HX := Lib.hid (H0.out h0)
    clear H0 H1 h0 HFN
    go_enter Tryd.func32, Tryd.ntmps32
    go_upto_region 1 with (fail)
    rw [← HW1.out]
    clear HW1
    go_region_held3 (fun W => W.cell? ⟨w.heap.size, 0, none⟩ = some (.string nm) ∧ W.cell? ⟨w.heap.size, 1, none⟩ = some (.slice L q c)) (first | (go_keep; done) | ((try dsimp only); refine ⟨?_, ?_⟩ <;> first | assumption | (go_simp; done))) (first | (go_at_call 49; refine (HFL.out _ (HR1.out.below (by repeat (first | exact Below.refl _ _ | refine below_step (by assumption) (by first | omega | (simp; done) | (simp; omega)) ?_ | refine below_drewN ?_ _ | refine Below.drew ?_ | refine Below.setCell ?_ (by first | omega | (simp; done) | (simp; omega)) _ | refine Below.alloc ?_ (by first | omega | (simp; done) | (simp; omega)) _))) (pow_kept HP.out (by repeat (first | exact Below.refl _ _ | refine below_step (by assumption) (by first | omega | (simp; done) | (simp; omega)) ?_ | refine below_drewN ?_ _ | refine Below.drew ?_ | refine Below.setCell ?_ (by first | omega | (simp; done) | (simp; omega)) _ | refine Below.alloc ?_ (by first | omega | (simp; done) | (simp; omega)) _)))).mono ?_; rintro x wa ⟨rfl, ba⟩; have BA : Below w1.heap.size w1 wa := (by exact (by repeat (first | exact Below.refl _ _ | refine below_step (by assumption) (by first | omega | (simp; done) | (simp; omega)) ?_ | refine below_drewN ?_ _ | refine Below.drew ?_ | refine Below.setCell ?_ (by first | omega | (simp; done) | (simp; omega)) _ | refine Below.alloc ?_ (by first | omega | (simp; done) | (simp; omega)) _))); have za := BA.size; have zwa : w.heap.size < wa.heap.size := (by omega); have a0_wa : wa.cell? ⟨w.heap.size, 0, none⟩ = some (.string nm) := (BA.cell (p := ⟨w.heap.size, 0, none⟩) (by omega)).trans a0_w1; have a1_wa : wa.cell? ⟨w.heap.size, 1, none⟩ = some (.slice L q c) := (BA.cell (p := ⟨w.heap.size, 1, none⟩) (by omega)).trans a1_w1; have a2_wa : wa.cell? ⟨w.heap.size, 2, none⟩ = some (.int .i64 wat) := (BA.cell (p := ⟨w.heap.size, 2, none⟩) (by omega)).trans a2_w1; clear ba))
    all_goals
      go_wp2_with fail
      refine (impl_Join [bNode, nm, fl] bSp _ 3 3 _ rfl (by omega) (by decide) (by
        intro y hy
        simp at hy
        rcases hy with rfl | rfl | rfl
        · decide
        · omega
        · omega) (by exact (row_newX wa [bNode, nm, fl] _ rfl).of_heap rfl)).mono ?_
      rintro x2 w2 ⟨rfl, b2⟩
      go_wp2_with fail
      go_ret
      exact ⟨str_ans HX.out, BW1.out.trans (Below.mono (show Below w1.heap.size w1 w2 from (by repeat (first | exact Below.refl _ _ | refine below_step (by assumption) (by first | omega | (simp; done) | (simp; omega)) ?_ | refine below_drewN ?_ _ | refine Below.drew ?_ | refine Below.setCell ?_ (by first | omega | (simp; done) | (simp; omega)) _ | refine Below.alloc ?_ (by first | omega | (simp; done) | (simp; omega)) _))) BW1.out.size)⟩
  · have hb : (wat != 0) = true := by simp [h0]
    have HX := Lib.hid (H1.out h0)
    clear H0 H1 h0
    go_enter Tryd.func32, Tryd.ntmps32
    go_upto_region 1 with (fail)
    rw [← HW1.out]
    clear HW1
    go_region_held3 (fun W => W.cell? ⟨w.heap.size, 0, none⟩ = some (.string nm) ∧ W.cell? ⟨w.heap.size, 1, none⟩ = some (.slice L q c)) (first | (go_keep; done) | ((try dsimp only); refine ⟨?_, ?_⟩ <;> first | assumption | (go_simp; done))) (first | (go_at_call 49; refine (HFL.out _ (HR1.out.below (by repeat (first | exact Below.refl _ _ | refine below_step (by assumption) (by first | omega | (simp; done) | (simp; omega)) ?_ | refine below_drewN ?_ _ | refine Below.drew ?_ | refine Below.setCell ?_ (by first | omega | (simp; done) | (simp; omega)) _ | refine Below.alloc ?_ (by first | omega | (simp; done) | (simp; omega)) _))) (pow_kept HP.out (by repeat (first | exact Below.refl _ _ | refine below_step (by assumption) (by first | omega | (simp; done) | (simp; omega)) ?_ | refine below_drewN ?_ _ | refine Below.drew ?_ | refine Below.setCell ?_ (by first | omega | (simp; done) | (simp; omega)) _ | refine Below.alloc ?_ (by first | omega | (simp; done) | (simp; omega)) _)))).mono ?_; rintro x wa ⟨rfl, ba⟩; have BA : Below w1.heap.size w1 wa := (by exact (by repeat (first | exact Below.refl _ _ | refine below_step (by assumption) (by first | omega | (simp; done) | (simp; omega)) ?_ | refine below_drewN ?_ _ | refine Below.drew ?_ | refine Below.setCell ?_ (by first | omega | (simp; done) | (simp; omega)) _ | refine Below.alloc ?_ (by first | omega | (simp; done) | (simp; omega)) _))); have za := BA.size; have zwa : w.heap.size < wa.heap.size := (by omega); have a0_wa : wa.cell? ⟨w.heap.size, 0, none⟩ = some (.string nm) := (BA.cell (p := ⟨w.heap.size, 0, none⟩) (by omega)).trans a0_w1; have a1_wa : wa.cell? ⟨w.heap.size, 1, none⟩ = some (.slice L q c) := (BA.cell (p := ⟨w.heap.size, 1, none⟩) (by omega)).trans a1_w1; have a2_wa : wa.cell? ⟨w.heap.size, 2, none⟩ = some (.int .i64 wat) := (BA.cell (p := ⟨w.heap.size, 2, none⟩) (by omega)).trans a2_w1; clear ba))
    all_goals
      obtain ⟨wb, hwb⟩ : ∃ W, W = wa.alloc (.cells #[.string ⟨#[110, 111, 100, 101]⟩, .string nm, .string fl] 9) := ⟨_, rfl⟩
      rw [← hwb]
      have BB : Below w1.heap.size w1 wb := by rw [hwb]; exact BA.alloc za _
      have zb := BB.size
      have OW := Lib.hid (show wb.ownsRow w1.heap.size 9 1 (.slice (some ⟨wa.heap.size, 0, none⟩) 3 3) 3 ([bNode, nm, fl].map Value.string) from own_blockX wa.heap.size za (by rw [hwb]; exact heap_alloc_new _ _) rfl rfl (by decide))
      have a2_wb := (BB.cell (p := ⟨w.heap.size, 2, none⟩) (by omega)).trans a2_w1
      have zwb : w.heap.size < wb.heap.size := by omega
      clear hwb a0_wa a1_wa a2_wa
      go_wp2_with fail
      refine (HFN.out _ (pow_kept HP.out BB)).mono ?_
      rintro x wc ⟨rfl, bc⟩
      have OC := Lib.hid (own_below OW.out bc)
      have BC : Below w1.heap.size w1 wc := BB.trans (bc.mono zb)
      have zc := BC.size
      clear bc
      go_wp2_with (at_builtin; refine wpList_append_lies _ rfl _ _ 59 rfl (w1.heap.size) 9 i1 (.string ⟨#[]⟩) 1 16 Tryd.underlying59 hii hy0 hy1 hy2 rfl (by decide) _ _ _ rfl (OC.out.alloc _) ⟨_, 0, none⟩ 2 2 _ rfl rfl (World.news_of_block (heap_newX _ _ _ (by first | rfl | (simp; done)))) (one_c2X _ _) (by decide) (by unfold maxLen; omega) (by omega) (by simp; omega) _ rfl ?_)
      intro g5 cap w6 ho6 hg6 hat6 hl6
      have B6 : Below w1.heap.size w1 w6 := (BC.alloc zc _).grown hg6 (by simp; omega) (fun r hr => (OC.out.lt r hr).1)
      have O6 := Lib.hid (show w6.ownsRow w1.heap.size 9 1 (.slice (some ⟨g5, 0, none⟩) 5 cap) 5 ([bNode, nm, fl, bWatch, yn].map Value.string) from by simpa [bWatch] using ho6)
      clear ho6 hg6 hat6 hl6
      go_wp2_with fail
      refine (impl_Join [bNode, nm, fl, bWatch, yn] bSp _ 5 cap _ rfl (by omega) (by decide) (by
        intro y hy
        simp at hy
        rcases hy with rfl | rfl | rfl | rfl | rfl
        · decide
        · omega
        · omega
        · decide
        · omega) (own_rowX O6.out)).mono ?_
      rintro x2 w7 ⟨rfl, b7⟩
      go_wp2_with fail
      go_ret
      exact ⟨str_ans HX.out, BW1.out.trans ((B6.trans (b7.mono B6.size)).mono BW1.out.size)⟩

set_option maxRecDepth 100000 in
set_option maxHeartbeats 16000000 in
theorem tie_line (s : GS) (t : GT) (A : Option Addr) (k c : Nat) (B : Option Addr) (m d : Nat) (w : World) (hu : 0 ≤ t.u ∧ t.u ≤ (k : Int) - 1) (hv : 0 ≤ t.v ∧ t.v ≤ (k : Int) - 1) (hl : -1000 ≤ t.lo ∧ t.lo ≤ 1000) (hh : -1000 ≤ t.hi ∧ t.hi ≤ 1000) (hn : ∀ e ∈ s.ns, e.name.size ≤ 1048576) (ha : ShowAt w s A k B m) (ht : Pow10 w) :
    Calls Tryd.prog 25 #[shV A k c B m d s.h, .agg #[.int .i64 t.u, .int .i64 t.v, .int .i64 t.lo, .int .i64 t.hi, .bool t.fr]] w fun e w' => e = .returned (.string (tieW s.ns t)) ∧ Below w.heap.size w w' := by
  obtain ⟨u, v, lo, hi, fr⟩ := t
  dsimp only at hu hv hl hh ⊢
  have hw := tieW_join s.ns ⟨u, v, lo, hi, fr⟩
  dsimp only at hw
  obtain ⟨h, hhh⟩ : ∃ h, h = s.h := ⟨_, rfl⟩
  rw [← hhh]
  clear hhh
  obtain ⟨nu, rfl⟩ : ∃ n : Nat, u = n := ⟨u.toNat, by omega⟩
  obtain ⟨nv, rfl⟩ : ∃ n : Nat, v = n := ⟨v.toNat, by omega⟩
  obtain ⟨f, hf⟩ : ∃ f, s.ns[nu]? = some f := ⟨_, List.getElem?_eq_getElem (by have := ha.ln; omega)⟩
  obtain ⟨f2, hf2⟩ : ∃ f, s.ns[nv]? = some f := ⟨_, List.getElem?_eq_getElem (by have := ha.ln; omega)⟩
  have hx1 : nmAt s.ns (nu : Int) = f.name := by unfold nmAt; rw [show ((nu : Nat) : Int).toNat = nu by omega, hf]; rfl
  have hx2 : nmAt s.ns (nv : Int) = f2.name := by unfold nmAt; rw [show ((nv : Nat) : Int).toNat = nv by omega, hf2]; rfl
  have hs1 := hn f (List.mem_of_getElem? hf)
  have hs2 := hn f2 (List.mem_of_getElem? hf2)
  rw [hx1, hx2] at hw
  have hy1 := numB_le (n := lo) (by omega) (by omega)
  have hy2 := numB_le (n := hi) (by omega) (by omega)
  have HF1 := Lib.hid (fun W hp => impl_FormatInt lo W (by omega) (by omega) hp)
  have HF2 := Lib.hid (fun W hp => impl_FormatInt hi W (by omega) (by omega) hp)
  obtain ⟨g, o, Lu, cu, rfl, hg, a0, _, _, _⟩ := node_facts ha.nodes hf
  obtain ⟨g2, o2, Lv, cv, hA2, _, v0, _, _, _⟩ := node_facts ha.nodes hf2
  injection hA2 with hA2
  injection hA2 with hA3 hA4
  subst hA3 hA4
  obtain ⟨x1, hx1'⟩ : ∃ x, x = f.name := ⟨_, rfl⟩
  obtain ⟨x2, hx2'⟩ : ∃ x, x = f2.name := ⟨_, rfl⟩
  obtain ⟨y1, hy1'⟩ : ∃ x, x = numB lo := ⟨_, rfl⟩
  obtain ⟨y2, hy2'⟩ : ∃ x, x = numB hi := ⟨_, rfl⟩
  rw [← hx1'] at hs1 hw a0
  rw [← hx2'] at hs2 hw v0
  rw [← hy1'] at hy1 hw HF1
  rw [← hy2'] at hy2 hw HF2
  have HW := Lib.hid hw
  unfold shV
  have hnu0 : (0 : Int) ≤ (nu : Int) := by omega
  have hnuk : (nu : Int) < (k : Int) := by omega
  have hnv0 : (0 : Int) ≤ (nv : Int) := by omega
  have hnvk : (nv : Int) < (k : Int) := by omega
  have hnuk2 : nu < k := by omega
  have hnvk2 : nv < k := by omega
  clear hw hx1 hx2 hx1' hx2' hy1' hy2' hf hf2 hn ha hu hv hl hh
  obtain ⟨w1, hw1⟩ : ∃ W, W = (w.alloc (.cells #[.slice (some ⟨g, o, none⟩) k c, .slice B m d, .int .i64 h] 31)).alloc (.cells #[.int .i64 nu, .int .i64 nv, .int .i64 lo, .int .i64 hi, .bool fr] 48) := ⟨_, rfl⟩
  have B_w1 : Below w.heap.size w w1 := by rw [hw1]; exact (by repeat (first | exact Below.refl _ _ | refine below_step (by assumption) (by first | omega | (simp; done) | (simp; omega)) ?_ | refine below_drewN ?_ _ | refine Below.drew ?_ | refine Below.setCell ?_ (by first | omega | (simp; done) | (simp; omega)) _ | refine Below.alloc ?_ (by first | omega | (simp; done) | (simp; omega)) _))
  have z_w1 : w.heap.size + 1 < w1.heap.size := by rw [hw1]; simp
  have c0_w1 : w1.cell? ⟨w.heap.size, 0, none⟩ = some (.slice (some ⟨g, o, none⟩) k c) := by rw [hw1]; go_simp
  have c1_w1 : w1.cell? ⟨w.heap.size, 1, none⟩ = some (.slice B m d) := by rw [hw1]; go_simp
  have c2_w1 : w1.cell? ⟨w.heap.size, 2, none⟩ = some (.int .i64 h) := by rw [hw1]; go_simp
  have e0_w1 : w1.cell? ⟨w.heap.size + 1, 0, none⟩ = some (.int .i64 nu) := by rw [hw1]; go_simp
  have e1_w1 : w1.cell? ⟨w.heap.size + 1, 1, none⟩ = some (.int .i64 nv) := by rw [hw1]; go_simp
  have e2_w1 : w1.cell? ⟨w.heap.size + 1, 2, none⟩ = some (.int .i64 lo) := by rw [hw1]; go_simp
  have e3_w1 : w1.cell? ⟨w.heap.size + 1, 3, none⟩ = some (.int .i64 hi) := by rw [hw1]; go_simp
  have e4_w1 : w1.cell? ⟨w.heap.size + 1, 4, none⟩ = some (.bool fr) := by rw [hw1]; go_simp
  have a0_w1 : w1.cell? ⟨g, o + nu * 3, none⟩ = some (.string x1) := (B_w1.cell (p := ⟨g, o + nu * 3, none⟩) hg).trans a0
  have v0_w1 : w1.cell? ⟨g, o + nv * 3, none⟩ = some (.string x2) := (B_w1.cell (p := ⟨g, o + nv * 3, none⟩) hg).trans v0
  have zg_w1 : g < w1.heap.size := by omega
  have z0_w1 : w.heap.size < w1.heap.size := by omega
  have HP := Lib.hid (pow_kept ht B_w1)
  have BW1 := Lib.hid B_w1
  have HW1 := Lib.hid hw1
  clear hw1 B_w1 a0 v0 ht
  cases fr with
  | false =>
    go_enter Tryd.func25, Tryd.ntmps25
    go_upto_region 2 with (fail)
    rw [← HW1.out]
    clear HW1
    go_upto_region 4 with (fail)
    go_region_held3 (fun W => W.cell? ⟨w.heap.size, 0, none⟩ = some (.slice (some ⟨g, o, none⟩) k c) ∧ W.cell? ⟨w.heap.size + 1, 0, none⟩ = some (.int .i64 nu) ∧ W.cell? ⟨w.heap.size + 1, 1, none⟩ = some (.int .i64 nv) ∧ W.cell? ⟨w.heap.size + 1, 2, none⟩ = some (.int .i64 lo) ∧ W.cell? ⟨w.heap.size + 1, 3, none⟩ = some (.int .i64 hi) ∧ W.cell? ⟨g, o + nu * 3, none⟩ = some (.string x1) ∧ W.cell? ⟨g, o + nv * 3, none⟩ = some (.string x2)) (first | (go_keep; done) | ((try dsimp only); refine ⟨?_, ?_, ?_, ?_, ?_, ?_, ?_⟩ <;> first | assumption | (go_simp; done))) (first | (go_at_call_of 31 (Value.int .i64 lo); refine (HF1.out _ (pow_kept HP.out (by repeat (first | exact Below.refl _ _ | refine below_step (by assumption) (by first | omega | (simp; done) | (simp; omega)) ?_ | refine below_drewN ?_ _ | refine Below.drew ?_ | refine Below.setCell ?_ (by first | omega | (simp; done) | (simp; omega)) _ | refine Below.alloc ?_ (by first | omega | (simp; done) | (simp; omega)) _)))).mono ?_; rintro x wa ⟨rfl, bwa⟩; have Bwa : Below w1.heap.size w1 wa := (by exact (by repeat (first | exact Below.refl _ _ | refine below_step (by assumption) (by first | omega | (simp; done) | (simp; omega)) ?_ | refine below_drewN ?_ _ | refine Below.drew ?_ | refine Below.setCell ?_ (by first | omega | (simp; done) | (simp; omega)) _ | refine Below.alloc ?_ (by first | omega | (simp; done) | (simp; omega)) _))); have zwa := Bwa.size; have c0_wa : wa.cell? ⟨w.heap.size, 0, none⟩ = some (.slice (some ⟨g, o, none⟩) k c) := (Bwa.cell (p := ⟨w.heap.size, 0, none⟩) (by omega)).trans c0_w1; have e0_wa : wa.cell? ⟨w.heap.size + 1, 0, none⟩ = some (.int .i64 nu) := (Bwa.cell (p := ⟨w.heap.size + 1, 0, none⟩) (by omega)).trans e0_w1; have e1_wa : wa.cell? ⟨w.heap.size + 1, 1, none⟩ = some (.int .i64 nv) := (Bwa.cell (p := ⟨w.heap.size + 1, 1, none⟩) (by omega)).trans e1_w1; have e2_wa : wa.cell? ⟨w.heap.size + 1, 2, none⟩ = some (.int .i64 lo) := (Bwa.cell (p := ⟨w.heap.size + 1, 2, none⟩) (by omega)).trans e2_w1; have e3_wa : wa.cell? ⟨w.heap.size + 1, 3, none⟩ = some (.int .i64 hi) := (Bwa.cell (p := ⟨w.heap.size + 1, 3, none⟩) (by omega)).trans e3_w1; have a0_wa : wa.cell? ⟨g, o + nu * 3, none⟩ = some (.string x1) := (Bwa.cell (p := ⟨g, o + nu * 3, none⟩) (by omega)).trans a0_w1; have v0_wa : wa.cell? ⟨g, o + nv * 3, none⟩ = some (.string x2) := (Bwa.cell (p := ⟨g, o + nv * 3, none⟩) (by omega)).trans v0_w1; clear bwa) | (go_at_call_of 31 (Value.int .i64 hi); refine (HF2.out _ (pow_kept HP.out (by repeat (first | exact Below.refl _ _ | refine below_step (by assumption) (by first | omega | (simp; done) | (simp; omega)) ?_ | refine below_drewN ?_ _ | refine Below.drew ?_ | refine Below.setCell ?_ (by first | omega | (simp; done) | (simp; omega)) _ | refine Below.alloc ?_ (by first | omega | (simp; done) | (simp; omega)) _)))).mono ?_; rintro x wb ⟨rfl, bwb⟩; have Bwb : Below w1.heap.size w1 wb := (by exact (by repeat (first | exact Below.refl _ _ | refine below_step (by assumption) (by first | omega | (simp; done) | (simp; omega)) ?_ | refine below_drewN ?_ _ | refine Below.drew ?_ | refine Below.setCell ?_ (by first | omega | (simp; done) | (simp; omega)) _ | refine Below.alloc ?_ (by first | omega | (simp; done) | (simp; omega)) _))); have zwb := Bwb.size; have c0_wb : wb.cell? ⟨w.heap.size, 0, none⟩ = some (.slice (some ⟨g, o, none⟩) k c) := (Bwb.cell (p := ⟨w.heap.size, 0, none⟩) (by omega)).trans c0_w1; have e0_wb : wb.cell? ⟨w.heap.size + 1, 0, none⟩ = some (.int .i64 nu) := (Bwb.cell (p := ⟨w.heap.size + 1, 0, none⟩) (by omega)).trans e0_w1; have e1_wb : wb.cell? ⟨w.heap.size + 1, 1, none⟩ = some (.int .i64 nv) := (Bwb.cell (p := ⟨w.heap.size + 1, 1, none⟩) (by omega)).trans e1_w1; have e2_wb : wb.cell? ⟨w.heap.size + 1, 2, none⟩ = some (.int .i64 lo) := (Bwb.cell (p := ⟨w.heap.size + 1, 2, none⟩) (by omega)).trans e2_w1; have e3_wb : wb.cell? ⟨w.heap.size + 1, 3, none⟩ = some (.int .i64 hi) := (Bwb.cell (p := ⟨w.heap.size + 1, 3, none⟩) (by omega)).trans e3_w1; have a0_wb : wb.cell? ⟨g, o + nu * 3, none⟩ = some (.string x1) := (Bwb.cell (p := ⟨g, o + nu * 3, none⟩) (by omega)).trans a0_w1; have v0_wb : wb.cell? ⟨g, o + nv * 3, none⟩ = some (.string x2) := (Bwb.cell (p := ⟨g, o + nv * 3, none⟩) (by omega)).trans v0_w1; clear bwb) | (go_at_call 30; refine (impl_joinParts [bTie, x1, x2, y1, y2] bSp _ 5 5 _ rfl (by omega) (by decide) (by intro y hy; simp at hy; rcases hy with rfl | rfl | rfl | rfl | rfl <;> first | decide | omega) (by exact (row_newX _ [bTie, x1, x2, y1, y2] _ rfl))).mono ?_; rintro x wj ⟨rfl, bwj⟩; have Bwj : Below w1.heap.size w1 wj := (by exact (by repeat (first | exact Below.refl _ _ | refine below_step (by assumption) (by first | omega | (simp; done) | (simp; omega)) ?_ | refine below_drewN ?_ _ | refine Below.drew ?_ | refine Below.setCell ?_ (by first | omega | (simp; done) | (simp; omega)) _ | refine Below.alloc ?_ (by first | omega | (simp; done) | (simp; omega)) _))); have zwj := Bwj.size; have c0_wj : wj.cell? ⟨w.heap.size, 0, none⟩ = some (.slice (some ⟨g, o, none⟩) k c) := (Bwj.cell (p := ⟨w.heap.size, 0, none⟩) (by omega)).trans c0_w1; have e0_wj : wj.cell? ⟨w.heap.size + 1, 0, none⟩ = some (.int .i64 nu) := (Bwj.cell (p := ⟨w.heap.size + 1, 0, none⟩) (by omega)).trans e0_w1; have e1_wj : wj.cell? ⟨w.heap.size + 1, 1, none⟩ = some (.int .i64 nv) := (Bwj.cell (p := ⟨w.heap.size + 1, 1, none⟩) (by omega)).trans e1_w1; have e2_wj : wj.cell? ⟨w.heap.size + 1, 2, none⟩ = some (.int .i64 lo) := (Bwj.cell (p := ⟨w.heap.size + 1, 2, none⟩) (by omega)).trans e2_w1; have e3_wj : wj.cell? ⟨w.heap.size + 1, 3, none⟩ = some (.int .i64 hi) := (Bwj.cell (p := ⟨w.heap.size + 1, 3, none⟩) (by omega)).trans e3_w1; have a0_wj : wj.cell? ⟨g, o + nu * 3, none⟩ = some (.string x1) := (Bwj.cell (p := ⟨g, o + nu * 3, none⟩) (by omega)).trans a0_w1; have v0_wj : wj.cell? ⟨g, o + nv * 3, none⟩ = some (.string x2) := (Bwj.cell (p := ⟨g, o + nv * 3, none⟩) (by omega)).trans v0_w1; clear bwj))
    all_goals
      go_wp2_with fail
      go_ret
      exact ⟨str_ans (by first | exact HW.out | (rw [← HW.out]; rfl)), BW1.out.trans (Bwj.mono BW1.out.size)⟩
  | true =>
    go_enter Tryd.func25, Tryd.ntmps25
    go_upto_region 2 with (fail)
    rw [← HW1.out]
    clear HW1
    go_upto_region 4 with (fail)
    go_region_held3 (fun W => W.cell? ⟨w.heap.size, 0, none⟩ = some (.slice (some ⟨g, o, none⟩) k c) ∧ W.cell? ⟨w.heap.size + 1, 0, none⟩ = some (.int .i64 nu) ∧ W.cell? ⟨w.heap.size + 1, 1, none⟩ = some (.int .i64 nv) ∧ W.cell? ⟨w.heap.size + 1, 2, none⟩ = some (.int .i64 lo) ∧ W.cell? ⟨w.heap.size + 1, 3, none⟩ = some (.int .i64 hi) ∧ W.cell? ⟨g, o + nu * 3, none⟩ = some (.string x1) ∧ W.cell? ⟨g, o + nv * 3, none⟩ = some (.string x2)) (first | (go_keep; done) | ((try dsimp only); refine ⟨?_, ?_, ?_, ?_, ?_, ?_, ?_⟩ <;> first | assumption | (go_simp; done))) (first | (go_at_call_of 31 (Value.int .i64 lo); refine (HF1.out _ (pow_kept HP.out (by repeat (first | exact Below.refl _ _ | refine below_step (by assumption) (by first | omega | (simp; done) | (simp; omega)) ?_ | refine below_drewN ?_ _ | refine Below.drew ?_ | refine Below.setCell ?_ (by first | omega | (simp; done) | (simp; omega)) _ | refine Below.alloc ?_ (by first | omega | (simp; done) | (simp; omega)) _)))).mono ?_; rintro x wa ⟨rfl, bwa⟩; have Bwa : Below w1.heap.size w1 wa := (by exact (by repeat (first | exact Below.refl _ _ | refine below_step (by assumption) (by first | omega | (simp; done) | (simp; omega)) ?_ | refine below_drewN ?_ _ | refine Below.drew ?_ | refine Below.setCell ?_ (by first | omega | (simp; done) | (simp; omega)) _ | refine Below.alloc ?_ (by first | omega | (simp; done) | (simp; omega)) _))); have zwa := Bwa.size; have c0_wa : wa.cell? ⟨w.heap.size, 0, none⟩ = some (.slice (some ⟨g, o, none⟩) k c) := (Bwa.cell (p := ⟨w.heap.size, 0, none⟩) (by omega)).trans c0_w1; have e0_wa : wa.cell? ⟨w.heap.size + 1, 0, none⟩ = some (.int .i64 nu) := (Bwa.cell (p := ⟨w.heap.size + 1, 0, none⟩) (by omega)).trans e0_w1; have e1_wa : wa.cell? ⟨w.heap.size + 1, 1, none⟩ = some (.int .i64 nv) := (Bwa.cell (p := ⟨w.heap.size + 1, 1, none⟩) (by omega)).trans e1_w1; have e2_wa : wa.cell? ⟨w.heap.size + 1, 2, none⟩ = some (.int .i64 lo) := (Bwa.cell (p := ⟨w.heap.size + 1, 2, none⟩) (by omega)).trans e2_w1; have e3_wa : wa.cell? ⟨w.heap.size + 1, 3, none⟩ = some (.int .i64 hi) := (Bwa.cell (p := ⟨w.heap.size + 1, 3, none⟩) (by omega)).trans e3_w1; have a0_wa : wa.cell? ⟨g, o + nu * 3, none⟩ = some (.string x1) := (Bwa.cell (p := ⟨g, o + nu * 3, none⟩) (by omega)).trans a0_w1; have v0_wa : wa.cell? ⟨g, o + nv * 3, none⟩ = some (.string x2) := (Bwa.cell (p := ⟨g, o + nv * 3, none⟩) (by omega)).trans v0_w1; clear bwa) | (go_at_call_of 31 (Value.int .i64 hi); refine (HF2.out _ (pow_kept HP.out (by repeat (first | exact Below.refl _ _ | refine below_step (by assumption) (by first | omega | (simp; done) | (simp; omega)) ?_ | refine below_drewN ?_ _ | refine Below.drew ?_ | refine Below.setCell ?_ (by first | omega | (simp; done) | (simp; omega)) _ | refine Below.alloc ?_ (by first | omega | (simp; done) | (simp; omega)) _)))).mono ?_; rintro x wb ⟨rfl, bwb⟩; have Bwb : Below w1.heap.size w1 wb := (by exact (by repeat (first | exact Below.refl _ _ | refine below_step (by assumption) (by first | omega | (simp; done) | (simp; omega)) ?_ | refine below_drewN ?_ _ | refine Below.drew ?_ | refine Below.setCell ?_ (by first | omega | (simp; done) | (simp; omega)) _ | refine Below.alloc ?_ (by first | omega | (simp; done) | (simp; omega)) _))); have zwb := Bwb.size; have c0_wb : wb.cell? ⟨w.heap.size, 0, none⟩ = some (.slice (some ⟨g, o, none⟩) k c) := (Bwb.cell (p := ⟨w.heap.size, 0, none⟩) (by omega)).trans c0_w1; have e0_wb : wb.cell? ⟨w.heap.size + 1, 0, none⟩ = some (.int .i64 nu) := (Bwb.cell (p := ⟨w.heap.size + 1, 0, none⟩) (by omega)).trans e0_w1; have e1_wb : wb.cell? ⟨w.heap.size + 1, 1, none⟩ = some (.int .i64 nv) := (Bwb.cell (p := ⟨w.heap.size + 1, 1, none⟩) (by omega)).trans e1_w1; have e2_wb : wb.cell? ⟨w.heap.size + 1, 2, none⟩ = some (.int .i64 lo) := (Bwb.cell (p := ⟨w.heap.size + 1, 2, none⟩) (by omega)).trans e2_w1; have e3_wb : wb.cell? ⟨w.heap.size + 1, 3, none⟩ = some (.int .i64 hi) := (Bwb.cell (p := ⟨w.heap.size + 1, 3, none⟩) (by omega)).trans e3_w1; have a0_wb : wb.cell? ⟨g, o + nu * 3, none⟩ = some (.string x1) := (Bwb.cell (p := ⟨g, o + nu * 3, none⟩) (by omega)).trans a0_w1; have v0_wb : wb.cell? ⟨g, o + nv * 3, none⟩ = some (.string x2) := (Bwb.cell (p := ⟨g, o + nv * 3, none⟩) (by omega)).trans v0_w1; clear bwb) | (go_at_call 30; refine (impl_joinParts [bFree, x1, x2, y1, y2] bSp _ 5 5 _ rfl (by omega) (by decide) (by intro y hy; simp at hy; rcases hy with rfl | rfl | rfl | rfl | rfl <;> first | decide | omega) (by exact (row_newX _ [bFree, x1, x2, y1, y2] _ rfl))).mono ?_; rintro x wj ⟨rfl, bwj⟩; have Bwj : Below w1.heap.size w1 wj := (by exact (by repeat (first | exact Below.refl _ _ | refine below_step (by assumption) (by first | omega | (simp; done) | (simp; omega)) ?_ | refine below_drewN ?_ _ | refine Below.drew ?_ | refine Below.setCell ?_ (by first | omega | (simp; done) | (simp; omega)) _ | refine Below.alloc ?_ (by first | omega | (simp; done) | (simp; omega)) _))); have zwj := Bwj.size; have c0_wj : wj.cell? ⟨w.heap.size, 0, none⟩ = some (.slice (some ⟨g, o, none⟩) k c) := (Bwj.cell (p := ⟨w.heap.size, 0, none⟩) (by omega)).trans c0_w1; have e0_wj : wj.cell? ⟨w.heap.size + 1, 0, none⟩ = some (.int .i64 nu) := (Bwj.cell (p := ⟨w.heap.size + 1, 0, none⟩) (by omega)).trans e0_w1; have e1_wj : wj.cell? ⟨w.heap.size + 1, 1, none⟩ = some (.int .i64 nv) := (Bwj.cell (p := ⟨w.heap.size + 1, 1, none⟩) (by omega)).trans e1_w1; have e2_wj : wj.cell? ⟨w.heap.size + 1, 2, none⟩ = some (.int .i64 lo) := (Bwj.cell (p := ⟨w.heap.size + 1, 2, none⟩) (by omega)).trans e2_w1; have e3_wj : wj.cell? ⟨w.heap.size + 1, 3, none⟩ = some (.int .i64 hi) := (Bwj.cell (p := ⟨w.heap.size + 1, 3, none⟩) (by omega)).trans e3_w1; have a0_wj : wj.cell? ⟨g, o + nu * 3, none⟩ = some (.string x1) := (Bwj.cell (p := ⟨g, o + nu * 3, none⟩) (by omega)).trans a0_w1; have v0_wj : wj.cell? ⟨g, o + nv * 3, none⟩ = some (.string x2) := (Bwj.cell (p := ⟨g, o + nv * 3, none⟩) (by omega)).trans v0_w1; clear bwj))
    all_goals
      go_wp2_with fail
      go_ret
      exact ⟨str_ans (by first | exact HW.out | (rw [← HW.out]; rfl)), BW1.out.trans (Bwj.mono BW1.out.size)⟩

set_option maxRecDepth 100000 in
set_option maxHeartbeats 8000000 in
theorem impl_FormatTie (s : GS) (i : Int) (A : Option Addr) (k c : Nat) (B : Option Addr) (m d : Nat) (w : World) (hs : ShB s) (hw : ∀ e ∈ s.ns, e.wf) (ha : ShowAt w s A k B m) (hp : Pow10 w) :
    Calls Tryd.prog 9 #[shV A k c B m d s.h, .int .i64 i] w fun e w' => e = .returned (.string (ftiR s i)) ∧ Below w.heap.size w w' := by
  have HOK := Lib.hid (fun W h => impl_ShowOk s A k c B m d W hs hw h)
  have HNM := Lib.hid (fun e he => (hs.each e he).1)
  have HTI := Lib.hid (fun t W a b cc dd h q => tie_line s t A k c B m d W a b cc dd HNM.out h q)
  have HLN := Lib.hid ha.ln
  have HLT := Lib.hid ha.lt
  have hmm : m ≤ 1048576 := by have := hs.ts; have := ha.lt; omega
  have HST := Lib.hid (fun (h : shR s = true) j (hj : j < s.ts.length) => shR_tie h hj)
  have hr : ftiR s i = if shR s && (decide (0 ≤ i) && decide (i ≤ (m : Int) - 1)) then tieW s.ns (s.ts[i.toNat]?.getD gT0) else ⟨#[]⟩ := by unfold ftiR; rw [HLT.out]
  have HR := Lib.hid hr
  have HA := Lib.hid ha
  have HP := Lib.hid hp
  clear ha hs hr hw hp
  obtain ⟨h, hhh⟩ : ∃ h, h = s.h := ⟨_, rfl⟩
  rw [← hhh] at HOK HTI
  rw [← hhh]
  clear hhh
  unfold shV at HOK HTI ⊢
  obtain ⟨b1, hb1⟩ : ∃ b, b = shR s := ⟨_, rfl⟩
  rw [← hb1] at HOK HR HST
  clear hb1
  obtain ⟨w0, hw0⟩ : ∃ W, W = w.alloc (.cells #[.slice A k c, .slice B m d, .int .i64 h] 31) := ⟨_, rfl⟩
  have B_w0 : Below w.heap.size w w0 := by rw [hw0]; exact (Below.refl _ _).alloc (Nat.le_refl _) _
  have z_w0 : w.heap.size < w0.heap.size := by rw [hw0]; simp
  have c0_w0 : w0.cell? ⟨w.heap.size, 0, none⟩ = some (.slice A k c) := by rw [hw0]; go_simp
  have c1_w0 : w0.cell? ⟨w.heap.size, 1, none⟩ = some (.slice B m d) := by rw [hw0]; go_simp
  have c2_w0 : w0.cell? ⟨w.heap.size, 2, none⟩ = some (.int .i64 h) := by rw [hw0]; go_simp
  have HA0 := Lib.hid (HA.out.below B_w0)
  have HP0 := Lib.hid (pow_kept HP.out B_w0)
  have BW0 := Lib.hid B_w0
  have HW0 := Lib.hid hw0
  clear hw0 B_w0 HA HP
  cases b1 with
  | false =>
    have HX := Lib.hid (show ftiR s i = ⟨#[]⟩ from by rw [HR.out]; rfl)
    clear HR HST
    go_enter Tryd.func9, Tryd.ntmps9
    go_upto_region 1 with (fail)
    rw [← HW0.out]
    clear HW0
    go_wp2_with fail
    refine (HOK.out _ HA0.out).mono ?_
    rintro e w1 ⟨rfl, b1⟩
    have c1_w1 := (b1.cell (p := ⟨w.heap.size, 1, none⟩) z_w0).trans c1_w0
    go_wp2_with fail
    go_ret
    exact ⟨str_ans HX.out.symm, BW0.out.trans (b1.mono BW0.out.size)⟩
  | true =>
    have HST2 := Lib.hid (HST.out rfl)
    clear HST
    by_cases hi0 : i < 0
    · have HX := Lib.hid (show ftiR s i = ⟨#[]⟩ from by rw [HR.out, decide_eq_false (by omega)]; rfl)
      clear HR
      go_enter Tryd.func9, Tryd.ntmps9
      go_upto_region 1 with (fail)
      rw [← HW0.out]
      clear HW0
      go_wp2_with fail
      refine (HOK.out _ HA0.out).mono ?_
      rintro e w1 ⟨rfl, b1⟩
      have c1_w1 := (b1.cell (p := ⟨w.heap.size, 1, none⟩) z_w0).trans c1_w0
      go_wp2_with fail
      go_ret
      exact ⟨str_ans HX.out.symm, BW0.out.trans (b1.mono BW0.out.size)⟩
    · by_cases him : (m : Int) ≤ i
      · have HX := Lib.hid (show ftiR s i = ⟨#[]⟩ from by rw [HR.out, decide_eq_false (show ¬ (i ≤ (m : Int) - 1) by omega), Bool.and_false]; rfl)
        clear HR
        go_enter Tryd.func9, Tryd.ntmps9
        go_upto_region 1 with (fail)
        rw [← HW0.out]
        clear HW0
        go_wp2_with fail
        refine (HOK.out _ HA0.out).mono ?_
        rintro e w1 ⟨rfl, b1⟩
        have c1_w1 := (b1.cell (p := ⟨w.heap.size, 1, none⟩) z_w0).trans c1_w0
        go_wp2_with fail
        go_ret
        exact ⟨str_ans HX.out.symm, BW0.out.trans (b1.mono BW0.out.size)⟩
      · obtain ⟨j, rfl⟩ : ∃ j : Nat, i = j := ⟨i.toNat, by omega⟩
        have hjm : j < m := by omega
        obtain ⟨⟨u, v, lo, hi2, fr⟩, he⟩ : ∃ e, s.ts[j]? = some e := ⟨_, List.getElem?_eq_getElem (by have := HLT.out; omega)⟩
        have hst := HST2.out j (by have := HLT.out; omega)
        rw [getAt9 (by have := HLT.out; omega) he] at hst
        dsimp only at hst
        rw [HLN.out] at hst
        have HX := Lib.hid (show ftiR s (j : Int) = tieW s.ns ⟨u, v, lo, hi2, fr⟩ from by rw [HR.out, decide_eq_true (show (0 : Int) ≤ (j : Int) by omega), decide_eq_true (show (j : Int) ≤ (m : Int) - 1 by omega), show ((j : Nat) : Int).toNat = j by omega, he]; rfl)
        have HTL := Lib.hid (fun W h q => HTI.out ⟨u, v, lo, hi2, fr⟩ W (by exact ⟨hst.1.1, hst.1.2⟩) (by exact ⟨hst.2.1.1, hst.2.1.2⟩) (by dsimp only; omega) (by dsimp only; omega) h q)
        obtain ⟨gt, ot, rfl, hgt, t0, t1, t2, t3, t4⟩ := tie_facts HA0.out.ties he
        have hj0 : (0 : Int) ≤ (j : Int) := by omega
        have hjk : (j : Int) < (m : Int) := by omega
        have hge : ¬ ((m : Int) ≤ (j : Int)) := him
        clear HR HST2 HTI hst him
        go_enter Tryd.func9, Tryd.ntmps9
        go_upto_region 1 with (fail)
        rw [← HW0.out]
        clear HW0
        go_wp2_with fail
        refine (HOK.out _ HA0.out).mono ?_
        rintro e w1 ⟨rfl, b1⟩
        have k0 := (b1.cell (p := ⟨gt, ot + j * 5, none⟩) hgt).trans t0
        have k1 := (b1.cell (p := ⟨gt, ot + j * 5 + 1, none⟩) hgt).trans t1
        have k2 := (b1.cell (p := ⟨gt, ot + j * 5 + 2, none⟩) hgt).trans t2
        have k3 := (b1.cell (p := ⟨gt, ot + j * 5 + 3, none⟩) hgt).trans t3
        have k4 := (b1.cell (p := ⟨gt, ot + j * 5 + 4, none⟩) hgt).trans t4
        have c0_w1 := (b1.cell (p := ⟨w.heap.size, 0, none⟩) z_w0).trans c0_w0
        have c1_w1 := (b1.cell (p := ⟨w.heap.size, 1, none⟩) z_w0).trans c1_w0
        have c2_w1 := (b1.cell (p := ⟨w.heap.size, 2, none⟩) z_w0).trans c2_w0
        have HC := Lib.hid (HTL.out w1.drew (HA0.out.below b1.drew) (pow_kept HP0.out b1.drew))
        have B1 := Lib.hid b1
        clear c0_w0 c1_w0 c2_w0 t0 t1 t2 t3 t4 b1
        go_upto_region 3 with (fail)
        go_region_law (first | (go_simp; go_at_call 25; refine HC.out.mono ?_; rintro e w2 ⟨rfl, b2⟩))
        all_goals
          go_wp2_with fail
          go_ret
          exact ⟨str_ans HX.out.symm, BW0.out.trans ((B1.out.trans (Below.mono (show Below w1.heap.size w1 w2 from ((Below.refl _ _).drew).trans b2) B1.out.size)).mono BW0.out.size)⟩

end Go.Proofs.YtgajodcgedhikaaDoor

namespace Go.Proofs.YtgajodcgedhikaaDoor
open Go.RowKit
set_option linter.unusedVariables false
set_option linter.unusedSimpArgs false

/-- The lines that are there behind j nodes, and behind all nodes and j ties. -/
def liN (s : GS) (j : Nat) : List ByteArray := horL s.h :: (s.ns.take j).map nodL
def liT (s : GS) (j : Nat) : List ByteArray := liN s s.ns.length ++ (s.ts.take j).map (tieW s.ns)
theorem liN_next {s : GS} {j : Nat} {e : GN} (h : s.ns[j]? = some e) : liN s (j + 1) = liN s j ++ [nodL e] := by
  unfold liN
  rw [List.take_add_one, h, List.map_append]; rfl
theorem liT_next {s : GS} {j : Nat} {t : GT} (h : s.ts[j]? = some t) : liT s (j + 1) = liT s j ++ [tieW s.ns t] := by
  unfold liT
  rw [List.take_add_one, h, List.map_append, ← List.append_assoc]; rfl
theorem liT_0 (s : GS) : liT s 0 = liN s s.ns.length := by unfold liT; simp
theorem liT_all (s : GS) : liT s s.ts.length = linS s := by
  unfold liT liN linS
  rw [List.take_of_length_le (Nat.le_refl _), List.take_of_length_le (Nat.le_refl _)]
theorem name_le {s : GS} (h : shR s = true) {e : GN} (he : e ∈ s.ns) : e.name.size ≤ 8 := by
  obtain ⟨j, hj, rfl⟩ := List.getElem_of_mem he
  have h1 := (shR_node h hj).1
  unfold nameB at h1
  rw [Bool.and_eq_true, Bool.and_eq_true, decide_eq_true_eq, decide_eq_true_eq] at h1
  have := h1.1.2
  simpa using this
theorem nmAt_le {s : GS} (h : shR s = true) (v : Int) : (nmAt s.ns v).size ≤ 8 := by
  unfold nmAt
  cases he : s.ns[v.toNat]? with
  | none => show (ByteArray.empty).size ≤ _; exact Nat.zero_le _
  | some e => exact name_le h (List.mem_of_getElem? he)
theorem nodL_size {e : GN} (h1 : e.name.size ≤ 8) (h2 : labR e.lab = true) (h3 : 0 ≤ e.wat) (h4 : e.wat ≤ 3) : (nodL e).size ≤ 100 := by
  have hf := fmtL_size h2
  have hn := numB_le (n := e.wat) (by omega) (by omega)
  have q1 : (⟨#[110, 111, 100, 101, 32]⟩ : ByteArray).size = 5 := rfl
  have q2 : (⟨#[32, 119, 97, 116, 99, 104, 32]⟩ : ByteArray).size = 7 := rfl
  have q3 : bSp.size = 1 := rfl
  unfold nodL
  split <;> simp only [ByteArray.size_append] <;> omega
theorem lin_size {s : GS} (h : shR s = true) : ∀ x ∈ linS s, x.size ≤ 1048576 := by
  intro x hx
  have hr := shR_rng h
  unfold linS at hx
  rcases List.mem_append.1 hx with hx | hx
  · rcases List.mem_cons.1 hx with rfl | hx
    · have := numB_le (n := s.h) (by omega) (by omega)
      have q1 : (⟨#[104, 111, 114, 105, 122, 111, 110, 32]⟩ : ByteArray).size = 8 := rfl
      unfold horL
      simp only [ByteArray.size_append]
      omega
    · obtain ⟨e, he, rfl⟩ := List.mem_map.1 hx
      obtain ⟨j, hj, hje⟩ := List.getElem_of_mem he
      have h1 := shR_node h hj
      rw [hje] at h1
      have := nodL_size (name_le h he) h1.2.1 h1.2.2.1 h1.2.2.2.1
      omega
  · obtain ⟨t, ht, rfl⟩ := List.mem_map.1 hx
    obtain ⟨j, hj, hje⟩ := List.getElem_of_mem ht
    have h1 := shR_tie h hj
    rw [hje] at h1
    have a1 := nmAt_le h t.u
    have a2 := nmAt_le h t.v
    have b1 := numB_le (n := t.lo) (by omega) (by omega)
    have b2 := numB_le (n := t.hi) (by omega) (by omega)
    have h3 : (if t.fr then (⟨#[102, 114, 101, 101, 32]⟩ : ByteArray) else ⟨#[116, 105, 101, 32]⟩).size ≤ 5 := by split <;> decide
    have h4 : bSp.size = 1 := rfl
    unfold tieW
    simp only [ByteArray.size_append]
    omega
theorem joinTo_cat (b : ByteArray) (c : UInt8) (hb : b = ⟨#[c]⟩) (ss : List ByteArray) : ∀ j, j ≤ ss.length → 0 < j → (joinTo ss b j).data.toList ++ [c] = catL c ((ss.take j).map (·.data.toList))
  | 0, _, h => absurd h (by omega)
  | j + 1, hj, _ => by
    have hx : ss.getD j ⟨#[]⟩ = ss[j] := by rw [List.getD_eq_getElem?_getD, List.getElem?_eq_getElem (by omega)]; rfl
    have ht : ss.take (j + 1) = ss.take j ++ [ss[j]] := by rw [List.take_add_one, List.getElem?_eq_getElem (by omega)]; rfl
    rw [joinTo, hx, ht, List.map_append, show List.map (·.data.toList) [ss[j]] = [ss[j].data.toList] from rfl, cat_snoc]
    by_cases h0 : 0 < j
    · have ih := joinTo_cat b c hb ss j (by omega) h0
      rw [if_pos h0, ← ih, hb]
      simp
    · obtain rfl : j = 0 := by omega
      rw [if_neg (by omega)]
      simp [joinTo, catL]
theorem fmtS_join {s : GS} (h : shR s = true) : joinB (linS s) bNl ++ bNl = fmtS s := by
  apply bytes_inj
  rw [fmtS_bytes h]
  have h1 := joinTo_cat bNl 10 rfl (linS s) (linS s).length (Nat.le_refl _) (by unfold linS; simp)
  rw [List.take_of_length_le (Nat.le_refl _)] at h1
  rw [← h1]
  simp [joinB, bNl]
theorem fmtS_no {s : GS} (h : shR s = false) : fmtS s = ⟨#[]⟩ := by unfold fmtS; rw [if_neg (by rw [h]; simp)]
theorem join_two0 (x y : ByteArray) : joinB [x, y] ⟨#[]⟩ = x ++ y := join_twoL x y
theorem joinB_le {ss : List ByteArray} {b : ByteArray} (hb : b.size ≤ 1) (hs : ∀ x ∈ ss, x.size ≤ 1000) (hn : ss.length ≤ 100) : (joinB ss b).size ≤ 1048576 := by
  have h1 : ∀ j, (joinTo ss b j).size ≤ j * 1001 := by
    intro j
    induction j with
    | zero => show (ByteArray.mk #[]).size ≤ _; exact Nat.zero_le _
    | succ j ih =>
      have hx : (ss.getD j ⟨#[]⟩).size ≤ 1000 := by
        rw [List.getD_eq_getElem?_getD]
        cases he : ss[j]? with
        | none => show (ByteArray.mk #[]).size ≤ _; exact Nat.zero_le _
        | some e => exact hs e (List.mem_of_getElem? he)
      rw [joinTo]
      split <;> simp only [ByteArray.size_append] <;> omega
  have := h1 ss.length
  unfold joinB
  omega
theorem lin_small {s : GS} (h : shR s = true) : ∀ x ∈ linS s, x.size ≤ 1000 := by
  intro x hx
  have hr := shR_rng h
  unfold linS at hx
  rcases List.mem_append.1 hx with hx | hx
  · rcases List.mem_cons.1 hx with rfl | hx
    · have := numB_le (n := s.h) (by omega) (by omega)
      have q1 : (⟨#[104, 111, 114, 105, 122, 111, 110, 32]⟩ : ByteArray).size = 8 := rfl
      unfold horL
      simp only [ByteArray.size_append]
      omega
    · obtain ⟨e, he, rfl⟩ := List.mem_map.1 hx
      obtain ⟨j, hj, hje⟩ := List.getElem_of_mem he
      have h1 := shR_node h hj
      rw [hje] at h1
      have := nodL_size (name_le h he) h1.2.1 h1.2.2.1 h1.2.2.2.1
      omega
  · obtain ⟨t, ht, rfl⟩ := List.mem_map.1 hx
    obtain ⟨j, hj, hje⟩ := List.getElem_of_mem ht
    have h1 := shR_tie h hj
    rw [hje] at h1
    have a1 := nmAt_le h t.u
    have a2 := nmAt_le h t.v
    have b1 := numB_le (n := t.lo) (by omega) (by omega)
    have b2 := numB_le (n := t.hi) (by omega) (by omega)
    have h3 : (if t.fr then (⟨#[102, 114, 101, 101, 32]⟩ : ByteArray) else ⟨#[116, 105, 101, 32]⟩).size ≤ 5 := by split <;> decide
    have h4 : bSp.size = 1 := rfl
    unfold tieW
    simp only [ByteArray.size_append]
    omega

set_option maxRecDepth 100000 in
set_option maxHeartbeats 32000000 in
theorem impl_FormatShow (s : GS) (A : Option Addr) (k c : Nat) (B : Option Addr) (m d : Nat) (w : World) (hs : ShB s) (hw : ∀ e ∈ s.ns, e.wf) (ha : ShowAt w s A k B m) (hp : Pow10 w) :
    Calls Tryd.prog 12 #[shV A k c B m d s.h] w fun e w' => e = .returned (.string (fmtS s)) ∧ Below w.heap.size w w' := by
  obtain ⟨i1, hii, hy0, hy1, hy2⟩ := info_parts Tryd.info9
  have HOK := Lib.hid (fun W h => impl_ShowOk s A k c B m d W hs hw h)
  have HNM := Lib.hid (fun e he => (hs.each e he).1)
  have HTI := Lib.hid (fun t W a b cc dd h q => tie_line s t A k c B m d W a b cc dd HNM.out h q)
  have HLN := Lib.hid ha.ln
  have HLT := Lib.hid ha.lt
  have hmm : m ≤ 1048576 := by have := hs.ts; have := ha.lt; omega
  have HA := Lib.hid ha
  have HP := Lib.hid hp
  clear ha hs hw hp
  obtain ⟨h, hhh⟩ : ∃ h, h = s.h := ⟨_, rfl⟩
  rw [← hhh] at HOK HTI
  rw [← hhh]
  have HHH := Lib.hid hhh
  clear hhh
  unfold shV at HOK HTI ⊢
  obtain ⟨w0, hw0⟩ : ∃ W, W = w.alloc (.cells #[.slice A k c, .slice B m d, .int .i64 h] 31) := ⟨_, rfl⟩
  have B_w0 : Below w.heap.size w w0 := by rw [hw0]; exact (Below.refl _ _).alloc (Nat.le_refl _) _
  have z_w0 : w.heap.size < w0.heap.size := by rw [hw0]; simp
  have c0_w0 : w0.cell? ⟨w.heap.size, 0, none⟩ = some (.slice A k c) := by rw [hw0]; go_simp
  have c1_w0 : w0.cell? ⟨w.heap.size, 1, none⟩ = some (.slice B m d) := by rw [hw0]; go_simp
  have c2_w0 : w0.cell? ⟨w.heap.size, 2, none⟩ = some (.int .i64 h) := by rw [hw0]; go_simp
  have HA0 := Lib.hid (HA.out.below B_w0)
  have HP0 := Lib.hid (pow_kept HP.out B_w0)
  have BW0 := Lib.hid B_w0
  have HW0 := Lib.hid hw0
  clear hw0 B_w0 HA HP
  obtain ⟨b1, hb1⟩ : ∃ b, b = shR s := ⟨_, rfl⟩
  rw [← hb1] at HOK
  cases b1 with
  | false =>
    have HX := Lib.hid (fmtS_no hb1.symm)
    clear hb1
    go_enter Tryd.func12, Tryd.ntmps12
    go_upto_region 1 with (fail)
    rw [← HW0.out]
    clear HW0
    go_wp2_with fail
    refine (HOK.out _ HA0.out).mono ?_
    rintro e w1 ⟨rfl, b1⟩
    go_wp2_with fail
    go_ret
    exact ⟨str_ans HX.out.symm, BW0.out.trans (b1.mono BW0.out.size)⟩
  | true =>
    have hsh := hb1.symm
    have hrg := shR_rng hsh
    have HSN := Lib.hid (fun j (hj : j < s.ns.length) => shR_node hsh hj)
    have HST := Lib.hid (fun j (hj : j < s.ts.length) => shR_tie hsh hj)
    have HLZ := Lib.hid (lin_size hsh)
    have HLZ2 := Lib.hid (joinB_le (b := bNl) (by decide) (lin_small hsh) (by unfold linS; simp; omega))
    have HFS := Lib.hid (fmtS_join hsh)
    have HALL := Lib.hid (liT_all s)
    have HT0 := Lib.hid (liT_0 s)
    have HNL := Lib.hid (fun e he => (name_le (e := e) hsh he))
    rw [HLT.out] at HALL
    rw [HLN.out] at HT0
    have hk7 : k ≤ 7 := by have := hrg.2.1; have := HLN.out; omega
    have hm14 : m ≤ 14 := by have := hrg.2.2.1; have := HLT.out; omega
    have HFH := Lib.hid (fun W q => impl_FormatInt h W (by have := HHH.out; omega) (by have := HHH.out; omega) q)
    have hyh := numB_le (n := h) (by have := HHH.out; omega) (by have := HHH.out; omega)
    have HJH := Lib.hid (show joinB [bHor, numB h] bSp = horL s.h from by rw [horL_join, HHH.out])
    obtain ⟨yh, hyh2⟩ : ∃ t, t = numB h := ⟨_, rfl⟩
    rw [← hyh2] at HFH hyh HJH
    clear hyh2 hrg hsh hb1
    go_enter Tryd.func12, Tryd.ntmps12
    go_upto_region 1 with (fail)
    rw [← HW0.out]
    clear HW0
    go_wp2_with fail
    refine (HOK.out _ HA0.out).mono ?_
    rintro e w1 ⟨rfl, b1⟩
    have c2_w1 := (b1.cell (p := ⟨w.heap.size, 2, none⟩) z_w0).trans c2_w0
    have B1 := Lib.hid b1
    have z1 := b1.size
    have zw1 : w.heap.size < w1.heap.size := by omega
    clear b1
    go_wp2_with fail
    refine (HFH.out _ (pow_kept HP0.out B1.out)).mono ?_
    rintro e w2 ⟨rfl, b2⟩
    have B2 := Lib.hid (B1.out.trans (b2.mono z1))
    have z2 := B2.out.size
    clear b2 c2_w1
    go_wp2_with fail
    refine (impl_joinParts [bHor, yh] bSp _ 2 2 _ rfl (by omega) (by decide) (by
      intro y hy
      simp at hy
      rcases hy with rfl | rfl
      · decide
      · omega) (row_newX w2 [bHor, yh] _ rfl)).mono ?_
    rintro e w3 ⟨rfl, b3⟩
    rw [HJH.out]
    obtain ⟨y0, hy0'⟩ : ∃ y, y = horL s.h := ⟨_, rfl⟩
    rw [← hy0']
    have B3 := Lib.hid (B2.out.trans (Below.mono (show Below w2.heap.size w2 w3 from ((Below.refl _ _).alloc (Nat.le_refl _) _).trans (b3.mono (by simp))) z2))
    have z3 := B3.out.size
    clear b3
    obtain ⟨w4, hw4⟩ : ∃ W, W = w3.alloc (.cells #[.string y0] 9) := ⟨_, rfl⟩
    have B4 := Lib.hid (show Below w0.heap.size w0 w4 from by rw [hw4]; exact B3.out.alloc z3 _)
    have z4 := B4.out.size
    have O4 := Lib.hid (show w4.ownsRow w0.heap.size 9 1 (.slice (some ⟨w3.heap.size, 0, none⟩) 1 1) 1 ((liN s 0).map Value.string) from own_blockX w3.heap.size z3 (by rw [hw4, hy0']; exact heap_alloc_new _ _) rfl rfl (by decide))
    have HW4 := Lib.hid hw4
    clear hw4 hy0'
    have c0_w4 := (B4.out.cell (p := ⟨w.heap.size, 0, none⟩) z_w0).trans c0_w0
    go_upto_region 4 with (fail)
    rw [← HW4.out]
    clear HW4
    go_wp2_with fail
    go_loopw [20, 3] (fun i q wr => ∃ (j p : Nat) (C : Option Addr) (cb : Nat), j ≤ k ∧ i = .int .i64 j ∧ q = .slice C p cb ∧ p = j + 1 ∧ wr.ownsRow w0.heap.size 9 1 (.slice C p cb) p ((liN s j).map Value.string) ∧ Below w0.heap.size w0 wr) (fun i _ _ => k - (intOf i).toNat)
    case atStart => exact ⟨0, 1, _, 1, Nat.zero_le _, rfl, rfl, rfl, O4.out, B4.out⟩
    case round =>
      obtain ⟨j, p, C, cb, hj, rfl, rfl, hpj, hown, hbw⟩ := hrel
      have HO := Lib.hid hown
      have BW := Lib.hid hbw
      have zr := hbw.size
      have zwr : w.heap.size < wr.heap.size := by omega
      have HPJ := Lib.hid hpj
      have hp8 : p ≤ 8 := by omega
      clear hown hbw hpj
      by_cases hlt : j < k
      · have hjk : ((j : Int) < (k : Int)) := by omega
        obtain ⟨⟨nm, lab, wat⟩, he⟩ : ∃ e, s.ns[j]? = some e := ⟨_, List.getElem?_eq_getElem (by have := HLN.out; omega)⟩
        have HE := Lib.hid (liN_next he)
        have hsn := HSN.out j (by have := HLN.out; omega)
        rw [getAt9 (by have := HLN.out; omega) he] at hsn
        have hnl := HNL.out _ (List.mem_of_getElem? he)
        dsimp only at hsn hnl
        obtain ⟨g, o, L, cl, rfl, hg, a0, a1, a2, hrow⟩ := node_facts HA0.out.nodes he
        dsimp only at a0 a1 a2 hrow
        have k0 := (BW.out.cell (p := ⟨g, o + j * 3, none⟩) hg).trans a0
        have HROW := Lib.hid (hrow.below BW.out)
        have HNO := Lib.hid (fun W hr q => node_line ⟨nm, lab, wat⟩ L cl W (by dsimp only; omega) hsn.2.1 hsn.2.2.1 hsn.2.2.2.1 hr q)
        have hj0 : (0 : Int) ≤ (j : Int) := by omega
        obtain ⟨q, hq⟩ : ∃ q, q = lab.length := ⟨_, rfl⟩
        obtain ⟨ln, hln⟩ : ∃ y, y = nodL ⟨nm, lab, wat⟩ := ⟨_, rfl⟩
        have k1 := (BW.out.cell (p := ⟨g, o + j * 3 + 1, none⟩) hg).trans a1
        have k2 := (BW.out.cell (p := ⟨g, o + j * 3 + 2, none⟩) hg).trans a2
        unfold ndV at HNO
        dsimp only at HNO
        rw [← hq] at HNO k1
        rw [← hln] at HNO HE
        obtain ⟨w5, hw5⟩ : ∃ W, W = wr.alloc (.cells #[.string nm, .slice L q cl, .int .i64 wat] 56) := ⟨_, rfl⟩
        have b5 : Below wr.heap.size wr w5 := by rw [hw5]; exact (Below.refl _ _).alloc (Nat.le_refl _) _
        have n0_w5 : w5.cell? ⟨wr.heap.size, 0, none⟩ = some (.string nm) := by rw [hw5]; go_simp
        have n1_w5 : w5.cell? ⟨wr.heap.size, 1, none⟩ = some (.slice L q cl) := by rw [hw5]; go_simp
        have n2_w5 : w5.cell? ⟨wr.heap.size, 2, none⟩ = some (.int .i64 wat) := by rw [hw5]; go_simp
        have z5 : wr.heap.size < w5.heap.size := by rw [hw5]; simp
        have ROW5 := Lib.hid (HROW.out.below b5)
        have O5 := Lib.hid (own_below HO.out b5)
        have B5 := Lib.hid (BW.out.trans (b5.mono zr))
        have zz5 := B5.out.size
        have HW5 := Lib.hid hw5
        clear hw5 b5 hq hln hrow hsn hnl he a0 a1 a2
        go_upto_region 7 with (fail)
        rw [← HW5.out]
        clear HW5 k0 k1 k2
        go_wp2_with fail
        refine (HNO.out _ ROW5.out (pow_kept HP0.out B5.out)).mono ?_
        rintro e w6 ⟨rfl, b6⟩
        have O6 := Lib.hid (own_below O5.out b6)
        have B6 := Lib.hid (B5.out.trans (b6.mono zz5))
        have z6 := B6.out.size
        clear b6
        go_wp2_with (at_builtin; refine wpList_append_lies _ rfl _ _ 59 rfl (w0.heap.size) 9 i1 (.string ⟨#[]⟩) 1 16 Tryd.underlying59 hii hy0 hy1 hy2 rfl (by decide) _ _ _ rfl (O6.out.alloc _) ⟨_, 0, none⟩ 1 1 _ rfl rfl (World.news_of_block (heap_newX _ _ _ (by first | rfl | (simp; done)))) (one_c1X _) (by decide) (by unfold maxLen; omega) (by omega) (by simp; omega) _ rfl ?_)
        intro g5 cap w7 ho7 hg7 hat7 hl7
        have O7 := Lib.hid ho7
        have B7 := Lib.hid ((B6.out.alloc z6 _).grown hg7 (by simp; omega) (fun r hr => (O6.out.lt r hr).1))
        clear ho7 hg7 hat7 hl7
        go_wp2_with fail
        go_roundw
        case rel => exact ⟨j + 1, p + 1, some ⟨g5, 0, none⟩, cap, by omega, by go_num, rfl, by have := HPJ.out; omega, by rw [HE.out, List.map_append]; exact O7.out, B7.out⟩
        case measure => simp [intOf]; omega
      · have hjk : ¬ ((j : Int) < (k : Int)) := by omega
        obtain rfl : j = k := by omega
        have c1_wr := (BW.out.cell (p := ⟨w.heap.size, 1, none⟩) z_w0).trans c1_w0
        have OX := Lib.hid (show wr.ownsRow w0.heap.size 9 1 (.slice C p cb) p ((liT s 0).map Value.string) from by rw [HT0.out]; exact HO.out)
        obtain ⟨wx, hwx⟩ : ∃ W, W = wr := ⟨_, rfl⟩
        rw [← hwx] at OX BW c1_wr zr ⊢
        clear hlt HO O4 B4 z4 c0_w4 hwx
        go_wp2_with fail
        go_loopw [33, 3] (fun i q wy => ∃ (u p : Nat) (C : Option Addr) (cb : Nat), u ≤ m ∧ i = .int .i64 u ∧ q = .slice C p cb ∧ p = j + 1 + u ∧ wy.ownsRow w0.heap.size 9 1 (.slice C p cb) p ((liT s u).map Value.string) ∧ Below w0.heap.size w0 wy) (fun i _ _ => m - (intOf i).toNat)
        case atStart => exact ⟨0, p, C, cb, Nat.zero_le _, rfl, rfl, by have := HPJ.out; omega, OX.out, BW.out⟩
        case round =>
          obtain ⟨u, p2, C2, cb2, hu, rfl, rfl, hpu, hown, hbw⟩ := hrel
          have HO := Lib.hid hown
          have BR := Lib.hid hbw
          have zq := hbw.size
          have c0_wr := (hbw.cell (p := ⟨w.heap.size, 0, none⟩) z_w0).trans c0_w0
          have c1_wr2 := (hbw.cell (p := ⟨w.heap.size, 1, none⟩) z_w0).trans c1_w0
          have c2_wr := (hbw.cell (p := ⟨w.heap.size, 2, none⟩) z_w0).trans c2_w0
          have zwr2 : w.heap.size < wr.heap.size := by omega
          have HPU := Lib.hid hpu
          have hp22 : p2 ≤ 22 := by omega
          clear hown hbw OX hpu
          by_cases hlt : u < m
          · have hum : ((u : Int) < (m : Int)) := by omega
            obtain ⟨⟨tu, tv, lo, hi2, fr⟩, he⟩ : ∃ e, s.ts[u]? = some e := ⟨_, List.getElem?_eq_getElem (by have := HLT.out; omega)⟩
            have HE := Lib.hid (liT_next he)
            have hst := HST.out u (by have := HLT.out; omega)
            rw [getAt9 (by have := HLT.out; omega) he] at hst
            dsimp only at hst
            rw [HLN.out] at hst
            have HTL := Lib.hid (fun W h q => HTI.out ⟨tu, tv, lo, hi2, fr⟩ W (by exact ⟨hst.1.1, hst.1.2⟩) (by exact ⟨hst.2.1.1, hst.2.1.2⟩) (by dsimp only; omega) (by dsimp only; omega) h q)
            obtain ⟨gt, ot, rfl, hgt, t0, t1, t2, t3, t4⟩ := tie_facts HA0.out.ties he
            dsimp only at t0 t1 t2 t3 t4 HTL
            have k0 := (BR.out.cell (p := ⟨gt, ot + u * 5, none⟩) hgt).trans t0
            have k1 := (BR.out.cell (p := ⟨gt, ot + u * 5 + 1, none⟩) hgt).trans t1
            have k2 := (BR.out.cell (p := ⟨gt, ot + u * 5 + 2, none⟩) hgt).trans t2
            have k3 := (BR.out.cell (p := ⟨gt, ot + u * 5 + 3, none⟩) hgt).trans t3
            have k4 := (BR.out.cell (p := ⟨gt, ot + u * 5 + 4, none⟩) hgt).trans t4
            have hu0 : (0 : Int) ≤ (u : Int) := by omega
            obtain ⟨ln, hln⟩ : ∃ y, y = tieW s.ns ⟨tu, tv, lo, hi2, fr⟩ := ⟨_, rfl⟩
            rw [← hln] at HTL HE
            obtain ⟨w5, hw5⟩ : ∃ W, W = wr.alloc (.cells #[.int .i64 tu, .int .i64 tv, .int .i64 lo, .int .i64 hi2, .bool fr] 48) := ⟨_, rfl⟩
            have b5 : Below wr.heap.size wr w5 := by rw [hw5]; exact (Below.refl _ _).alloc (Nat.le_refl _) _
            have n0_w5 : w5.cell? ⟨wr.heap.size, 0, none⟩ = some (.int .i64 tu) := by rw [hw5]; go_simp
            have n1_w5 : w5.cell? ⟨wr.heap.size, 1, none⟩ = some (.int .i64 tv) := by rw [hw5]; go_simp
            have n2_w5 : w5.cell? ⟨wr.heap.size, 2, none⟩ = some (.int .i64 lo) := by rw [hw5]; go_simp
            have n3_w5 : w5.cell? ⟨wr.heap.size, 3, none⟩ = some (.int .i64 hi2) := by rw [hw5]; go_simp
            have n4_w5 : w5.cell? ⟨wr.heap.size, 4, none⟩ = some (.bool fr) := by rw [hw5]; go_simp
            have c0_w5 := (b5.cell (p := ⟨w.heap.size, 0, none⟩) zwr2).trans c0_wr
            have c1_w5 := (b5.cell (p := ⟨w.heap.size, 1, none⟩) zwr2).trans c1_wr2
            have c2_w5 := (b5.cell (p := ⟨w.heap.size, 2, none⟩) zwr2).trans c2_wr
            have z5 : wr.heap.size < w5.heap.size := by rw [hw5]; simp
            have O5 := Lib.hid (own_below HO.out b5)
            have B5 := Lib.hid (BR.out.trans (b5.mono zq))
            have zz5 := B5.out.size
            have HW5 := Lib.hid hw5
            clear hw5 b5 hln hst he t0 t1 t2 t3 t4 HTI
            go_upto_region 12 with (fail)
            rw [← HW5.out]
            clear HW5 k0 k1 k2 k3 k4
            go_wp2_with fail
            refine (HTL.out _ (HA0.out.below B5.out) (pow_kept HP0.out B5.out)).mono ?_
            rintro e w6 ⟨rfl, b6⟩
            have O6 := Lib.hid (own_below O5.out b6)
            have B6 := Lib.hid (B5.out.trans (b6.mono zz5))
            have z6 := B6.out.size
            clear b6
            go_wp2_with (at_builtin; refine wpList_append_lies _ rfl _ _ 59 rfl (w0.heap.size) 9 i1 (.string ⟨#[]⟩) 1 16 Tryd.underlying59 hii hy0 hy1 hy2 rfl (by decide) _ _ _ rfl (O6.out.alloc _) ⟨_, 0, none⟩ 1 1 _ rfl rfl (World.news_of_block (heap_newX _ _ _ (by first | rfl | (simp; done)))) (one_c1X _) (by decide) (by unfold maxLen; omega) (by omega) (by simp; omega) _ rfl ?_)
            intro g5 cap w7 ho7 hg7 hat7 hl7
            have O7 := Lib.hid ho7
            have B7 := Lib.hid ((B6.out.alloc z6 _).grown hg7 (by simp; omega) (fun r hr => (O6.out.lt r hr).1))
            clear ho7 hg7 hat7 hl7
            go_wp2_with fail
            go_roundw
            case rel => exact ⟨u + 1, p2 + 1, some ⟨g5, 0, none⟩, cap, by omega, by go_num, rfl, by have := HPU.out; omega, by rw [HE.out, List.map_append]; exact O7.out, B7.out⟩
            case measure => simp [intOf]; omega
          · have hum : ¬ ((u : Int) < (m : Int)) := by omega
            obtain rfl : u = m := by omega
            have hln2 := HO.out.1
            have HJ := Lib.hid (impl_Join (linS s) bNl C2 p2 cb2 wr (by rw [HALL.out, List.length_map] at hln2; omega) (by omega) (by decide) HLZ.out (own_rowX (by rw [← HALL.out]; exact HO.out)))
            clear hln2
            go_wp2_with fail
            refine HJ.out.mono ?_
            rintro e w8 ⟨rfl, b8⟩
            have B8 := Lib.hid (BR.out.trans (b8.mono zq))
            have z8 := B8.out.size
            obtain ⟨jj, hjj⟩ : ∃ y, y = joinB (linS s) bNl := ⟨_, rfl⟩
            rw [← hjj]
            have hjs := HLZ2.out
            have hfs := HFS.out
            rw [← hjj] at hjs hfs
            have HX := Lib.hid hfs
            clear b8 hjj hfs
            go_wp2_with fail
            refine (impl_joinParts [jj, bNl] ⟨#[]⟩ _ 2 2 _ rfl (by omega) (by decide) (by
              intro y hy
              simp at hy
              rcases hy with rfl | rfl
              · omega
              · decide) (row_newX w8 [jj, bNl] _ rfl)).mono ?_
            rintro e w9 ⟨rfl, b9⟩
            rw [join_twoL, HX.out]
            go_wp2_with fail
            go_ret
            exact ⟨rfl, BW0.out.trans ((B8.out.trans (Below.mono (show Below w8.heap.size w8 w9 from ((Below.refl _ _).alloc (Nat.le_refl _) _).trans (b9.mono (by simp))) z8)).mono BW0.out.size)⟩

end Go.Proofs.YtgajodcgedhikaaDoor
