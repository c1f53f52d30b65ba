/-
  WALKS of the program: lineKinds, readLine.
  WALKS of the program: a node's line, a tie's line, FormatTie.
-/
import Derived.Test.YtgajodcgedhikaaGreatDoorBdQuL
import Derived.Laws.CopyOwn
import Derived.Test.YtgajodcgedhikaaGreatDoorBdStB
import Derived.Test.YtgajodcgedhikaaGreatDoorBdPnI
import Derived.Test.YtgajodcgedhikaaGreatDoorBdLwF
import Derived.Deep.AppendLies
import Derived.Deep.RegionHeld3
import Derived.Deep.Cut
import Derived.Deep.CutRange
namespace Go.Proofs.YtgajodcgedhikaaGreatDoor
open Go.RowKit
set_option linter.unusedVariables false
set_option linter.unusedSimpArgs false

theorem ki_iff0 (x : ByteArray) : bHor = x ↔ kiR x = 0 := by
  by_cases h0 : x = bHor
  · subst h0; exact iff_of_true (by decide) (by decide)
  by_cases h1 : x = bNode
  · subst h1; exact iff_of_false (by decide) (by decide)
  by_cases h2 : x = bTie
  · subst h2; exact iff_of_false (by decide) (by decide)
  by_cases h3 : x = bFree
  · subst h3; exact iff_of_false (by decide) (by decide)
  exact iff_of_false (fun e => h0 e.symm) (by unfold kiR; rw [if_neg h0, if_neg h1, if_neg h2, if_neg h3]; decide)
theorem ki_eq0 (x : ByteArray) : (bHor.toList == x.toList) = decide (kiR x = 0) := (str_is rfl).trans (decide_eq_decide.2 (ki_iff0 x))
theorem ki_iff1 (x : ByteArray) : bNode = x ↔ kiR x = 1 := by
  by_cases h0 : x = bHor
  · subst h0; exact iff_of_false (by decide) (by decide)
  by_cases h1 : x = bNode
  · subst h1; exact iff_of_true (by decide) (by decide)
  by_cases h2 : x = bTie
  · subst h2; exact iff_of_false (by decide) (by decide)
  by_cases h3 : x = bFree
  · subst h3; exact iff_of_false (by decide) (by decide)
  exact iff_of_false (fun e => h1 e.symm) (by unfold kiR; rw [if_neg h0, if_neg h1, if_neg h2, if_neg h3]; decide)
theorem ki_eq1 (x : ByteArray) : (bNode.toList == x.toList) = decide (kiR x = 1) := (str_is rfl).trans (decide_eq_decide.2 (ki_iff1 x))
theorem ki_iff2 (x : ByteArray) : bTie = x ↔ kiR x = 2 := by
  by_cases h0 : x = bHor
  · subst h0; exact iff_of_false (by decide) (by decide)
  by_cases h1 : x = bNode
  · subst h1; exact iff_of_false (by decide) (by decide)
  by_cases h2 : x = bTie
  · subst h2; exact iff_of_true (by decide) (by decide)
  by_cases h3 : x = bFree
  · subst h3; exact iff_of_false (by decide) (by decide)
  exact iff_of_false (fun e => h2 e.symm) (by unfold kiR; rw [if_neg h0, if_neg h1, if_neg h2, if_neg h3]; decide)
theorem ki_eq2 (x : ByteArray) : (bTie.toList == x.toList) = decide (kiR x = 2) := (str_is rfl).trans (decide_eq_decide.2 (ki_iff2 x))
theorem ki_iff3 (x : ByteArray) : bFree = x ↔ kiR x = 3 := by
  by_cases h0 : x = bHor
  · subst h0; exact iff_of_false (by decide) (by decide)
  by_cases h1 : x = bNode
  · subst h1; exact iff_of_false (by decide) (by decide)
  by_cases h2 : x = bTie
  · subst h2; exact iff_of_false (by decide) (by decide)
  by_cases h3 : x = bFree
  · subst h3; exact iff_of_true (by decide) (by decide)
  exact iff_of_false (fun e => h3 e.symm) (by unfold kiR; rw [if_neg h0, if_neg h1, if_neg h2, if_neg h3]; decide)
theorem ki_eq3 (x : ByteArray) : (bFree.toList == x.toList) = decide (kiR x = 3) := (str_is rfl).trans (decide_eq_decide.2 (ki_iff3 x))
theorem kiR_le (x : ByteArray) : kiR x ≤ 4 := by unfold kiR; repeat (first | (split; omega) | omega)
def emp5 : List Value := [.string ⟨#[]⟩, .string ⟨#[]⟩, .string ⟨#[]⟩, .string ⟨#[]⟩, .string ⟨#[]⟩]
theorem splice5 (ws : List ByteArray) : splice emp5 0 ((ws.take 5).map Value.string) = [.string (wAt ws 0), .string (wAt ws 1), .string (wAt ws 2), .string (wAt ws 3), .string (wAt ws 4)] := by
  match ws with
  | [] => rfl
  | [a] => rfl
  | [a, b] => rfl
  | [a, b, c] => rfl
  | [a, b, c, d] => rfl
  | a :: b :: c :: d :: e :: _ => rfl
theorem take5_len (ws : List ByteArray) {q : Nat} (h : ws.length = q) : ((ws.take 5).map Value.string).length = Nat.min q 5 := by
  rw [List.length_map, List.length_take, h]
  exact Nat.min_comm _ _
theorem take5_at {ws : List ByteArray} {j : Nat} {v : Value} (h : ((ws.take 5).map Value.string)[j]? = some v) : j < ws.length ∧ v = .string (wAt ws j) := by
  rw [List.getElem?_map, List.getElem?_take] at h
  split at h
  · cases hw : ws[j]? with
    | none => rw [hw] at h; cases h
    | some x =>
      rw [hw] at h
      injection h with h
      exact ⟨(List.getElem?_eq_some_iff.1 hw).1, by unfold wAt; rw [hw]; exact h.symm⟩
  · cases h
theorem zero_words (w : World) : (zeroValue 62).run Tryz.prog w = .ok (.agg #[.string ⟨#[]⟩, .string ⟨#[]⟩, .string ⟨#[]⟩, .string ⟨#[]⟩, .string ⟨#[]⟩]) w := by kernel_rfl
theorem info_str1 : (Tryz.prog.info? 9).map (·.size) = some 1 := by kernel_rfl

theorem add_none (g o j : Nat) : (⟨g, o, none⟩ : Addr).add j = ⟨g, o + j, none⟩ := by unfold Addr.add; split <;> simp_all

theorem rd_far {w w' : World} {b hi q o : Nat} {s : GS} {v : Value} (h : RdAt w w' b hi s) (h1 : hi ≤ q) (h2 : q < w.heap.size) (h3 : w.cell? ⟨q, o, none⟩ = some v) : w'.cell? ⟨q, o, none⟩ = some v := by
  obtain ⟨_, _, _, _, _, _, _, _, h9⟩ := h
  exact (World.cell?_of_block (a := ⟨q, o, none⟩) (h9.block q h2 (.inr h1))).trans h3
theorem alloc_far {w : World} {q o : Nat} {v : Value} {x : Obj} (h : q < w.heap.size) (h3 : w.cell? ⟨q, o, none⟩ = some v) : (w.alloc x).cell? ⟨q, o, none⟩ = some v :=
  (((Below.refl w.heap.size w).alloc (Nat.le_refl _) x).cell (p := ⟨q, o, none⟩) h).trans h3

def kiC : Array Value := #[.string bHor, .func (.func 58) #[] #[], .string bNode, .func (.func 59) #[] #[], .string bTie, .func (.func 60) #[] #[], .string bFree, .func (.func 61) #[] #[]]
set_option maxRecDepth 100000 in
theorem kinds_any (w : World) : Calls Tryz.prog 36 #[] w fun e w' => e = .returned (.slice (some ⟨w.heap.size, 0, none⟩) 4 4) ∧ w' = w.alloc (.cells kiC 67) := by
  go_enter Tryz.func36, Tryz.ntmps36
  go_wp2_with fail
  go_ret
  exact ⟨rfl, rfl⟩

set_option maxRecDepth 100000 in
set_option maxHeartbeats 16000000 in
theorem read_line (l : ByteArray) (b hi : Nat) (s : GS) (A : Option Addr) (k c : Nat) (B : Option Addr) (m d : Nat) (zs : List NL) (w : World) (hls : l.size ≤ 1048576) (hk : k ≤ 1000) (hm : m ≤ 1000) (hwf : ∀ e ∈ s.ns, e.wf) (hr : RdS w b hi s A k c B m d zs) (h1 : b < hi) (h2 : hi ≤ w.heap.size) (hp : Pow10 w) (he : Errs w) :
    Calls Tryz.prog 17 #[.pointer (some ⟨b, 0, none⟩), .string l] w fun e w' => e = .returned (.tuple #[]) ∧ RdAt w w' b hi (prL s (split l bSp)) := by
  have HW := Lib.hid (fun W => impl_SplitAny l ⟨#[32]⟩ W hls (by decide))
  obtain ⟨ws, hws⟩ : ∃ x, x = split l bSp := ⟨_, rfl⟩
  have hwz : ∀ x ∈ ws, x.size ≤ 1048576 := by rw [hws]; intro x hx; exact Nat.le_trans (split_sizes _ _ x hx) hls
  obtain ⟨q, hq⟩ : ∃ x, x = ws.length := ⟨_, rfl⟩
  have hq0 : 1 ≤ q := by rw [hq, hws]; exact split_pos _ _
  have e9 : split l ⟨#[32]⟩ = ws := hws.symm
  rw [e9, ← hq] at HW
  rw [← hws]
  have HQ := Lib.hid hq.symm
  have HSP := Lib.hid (splice5 ws)
  have HTL := Lib.hid (take5_len ws hq.symm)
  have HTA := Lib.hid (fun j v h => take5_at (ws := ws) (j := j) (v := v) h)
  obtain ⟨CS, hCS⟩ : ∃ CS, CS = (ws.take 5).map Value.string := ⟨_, rfl⟩
  rw [← hCS] at HSP HTL HTA
  have HFIT : Hid (0 + CS.length ≤ emp5.length) := Lib.hid (by rw [HTL.out, Nat.zero_add]; exact Nat.min_le_right q 5)
  have HM4 := kiR_le (wAt ws 0)
  have HX0 := Lib.hid (ki_eq0 (wAt ws 0))
  have HX1 := Lib.hid (ki_eq1 (wAt ws 0))
  have HX2 := Lib.hid (ki_eq2 (wAt ws 0))
  have HX3 := Lib.hid (ki_eq3 (wAt ws 0))
  have HR0 := Lib.hid (fun W hR hh hp he => read_horizon ws b hi s A k c B m d zs W hwz hR h1 hh hp he)
  have HR1 := Lib.hid (fun W hR hh hp he => read_node ws b hi s A k c B m d zs W hwz hk hR h1 hh hp he)
  have HR2 := Lib.hid (fun W hR hh hp he => read_tie ws b hi s A k c B m d zs W hwz hk hm hwf hR h1 hh hp he)
  have HR3 := Lib.hid (fun W hR hh hp he => read_free ws b hi s A k c B m d zs W hwz hk hm hwf hR h1 hh hp he)
  have HSF : Hid (prL s ws = kiS (kiR (wAt ws 0)) s ws) := Lib.hid rfl
  obtain ⟨mk, hmk⟩ : ∃ x, x = kiR (wAt ws 0) := ⟨_, rfl⟩
  rw [← hmk] at HM4 HX0 HX1 HX2 HX3 HSF
  clear hmk hCS hq hws e9 hwz
  unfold waV at HR0 HR1 HR2 HR3
  generalize wAt ws 0 = x0 at HX0 HX1 HX2 HX3 HR0 HR1 HR2 HR3 HSP
  generalize wAt ws 1 = x1 at HR0 HR1 HR2 HR3 HSP
  generalize wAt ws 2 = x2 at HR0 HR1 HR2 HR3 HSP
  generalize wAt ws 3 = x3 at HR0 HR1 HR2 HR3 HSP
  generalize wAt ws 4 = x4 at HR0 HR1 HR2 HR3 HSP
  have hz := zero_words
  obtain ⟨w1, hw1⟩ : ∃ W, W = w.alloc (.cells #[.string ⟨#[]⟩, .string ⟨#[]⟩, .string ⟨#[]⟩, .string ⟨#[]⟩, .string ⟨#[]⟩] 62) := ⟨_, rfl⟩
  have B_w1 : Below w.heap.size w w1 := by rw [hw1]; exact (Below.refl _ _).alloc (Nat.le_refl _) _
  have z1 : w.heap.size < w1.heap.size := by rw [hw1]; simp
  have K1 := Lib.hid (show w1.heap[w.heap.size]? = some (.cells emp5.toArray 62 (0, 0)) from by rw [hw1]; exact heap_alloc_new _ _)
  have HRD := Lib.hid hr
  have HP := Lib.hid hp
  have HE := Lib.hid he
  have BW1 := Lib.hid B_w1
  have HW1 := Lib.hid hw1
  clear hw1 B_w1 hr hp he hwf hls
  go_enter Tryz.func17, Tryz.ntmps17
  go_upto_region 1 with (fail)
  clear hz
  rw [← HW1.out]
  clear HW1
  go_region_law (first | (refine step_copy_splice rfl (.tmp 7) (.tmp 9) 31 31 rfl 9 Tryz.underlying31 info_str1 _ _ _ _ _ _ rfl rfl w.heap.size 0 emp5 62 K2.out CS HTL.out (fun _ => ⟨rfl, _, rfl, HCP.out⟩) HFIT.out HON.out w.heap.size w2 (Below.refl _ _) (Nat.le_refl _) ?_; intro w3 hg3 hb3) | (go_simp; go_at_call 35; refine (HW.out _).mono ?_; rintro e w2 ⟨v, rfl, hown, b2⟩; have B2 := Lib.hid (show Below w1.heap.size w1 w2 from (by repeat (first | exact Below.refl _ _ | refine below_step (by assumption) (by first | omega | (simp; done) | (simp; omega)) ?_ | refine below_drewN ?_ _ | refine Below.drew ?_ | refine Below.setCell ?_ (by first | omega | (simp; done) | (simp; omega)) _ | refine Below.alloc ?_ (by first | omega | (simp; done) | (simp; omega)) _))); obtain ⟨A2, d2, rfl, _, _⟩ := own_form hown; obtain ⟨g2, o2, rfl, hg2, hcw⟩ := row_at9 (own_row hown) (q := 0) (by have := HQ.out; omega); have HCP : Hid (∀ j v, CS[j]? = some v → w2.cell? ((⟨g2, o2, none⟩ : Addr).add j) = some v) := Lib.hid (fun j v hjv => by obtain ⟨t1, t2⟩ := HTA.out j v hjv; rw [t2, add_none]; exact hcw j t1); have K2 := Lib.hid ((B2.out.block w.heap.size z1).trans K1.out); have HON : Hid (∀ v ∈ CS, v.oneCell' = true) := Lib.hid (fun v hv => by obtain ⟨j, hj, hjv⟩ := List.getElem_of_mem hv; obtain ⟨_, t2⟩ := HTA.out j v (by rw [List.getElem?_eq_getElem hj, hjv]); rw [t2]; rfl); clear hown b2 hcw))
  have h5 := hg3.out
  rw [HSP.out] at h5
  have B3 := Lib.hid (BW1.out.trans ((B2.out.mono BW1.out.size).trans hb3))
  have z3 : w.heap.size < w3.heap.size := Nat.lt_of_lt_of_le z1 (Nat.le_trans B2.out.size hb3.size)
  have a0_w3 : w3.cell? ⟨w.heap.size, 0, none⟩ = some (.string x0) := (cell_of_row w3 w.heap.size 0 _ 62 (0, 0) h5).trans rfl
  have a1_w3 : w3.cell? ⟨w.heap.size, 1, none⟩ = some (.string x1) := (cell_of_row w3 w.heap.size 1 _ 62 (0, 0) h5).trans rfl
  have a2_w3 : w3.cell? ⟨w.heap.size, 2, none⟩ = some (.string x2) := (cell_of_row w3 w.heap.size 2 _ 62 (0, 0) h5).trans rfl
  have a3_w3 : w3.cell? ⟨w.heap.size, 3, none⟩ = some (.string x3) := (cell_of_row w3 w.heap.size 3 _ 62 (0, 0) h5).trans rfl
  have a4_w3 : w3.cell? ⟨w.heap.size, 4, none⟩ = some (.string x4) := (cell_of_row w3 w.heap.size 4 _ 62 (0, 0) h5).trans rfl
  clear h5 hg3 hb3 hg2
  go_wp2_with fail
  refine (kinds_any w3).mono ?_
  rintro e w4 ⟨rfl, hw4⟩
  have b4 : Below w3.heap.size w3 w4 := by rw [hw4]; exact (Below.refl _ _).alloc (Nat.le_refl _) _
  have z4 : w3.heap.size < w4.heap.size := by rw [hw4]; simp
  have zw4 : w.heap.size < w4.heap.size := by omega
  have a0_w4 := (b4.cell (p := ⟨w.heap.size, 0, none⟩) z3).trans a0_w3
  have a1_w4 := (b4.cell (p := ⟨w.heap.size, 1, none⟩) z3).trans a1_w3
  have a2_w4 := (b4.cell (p := ⟨w.heap.size, 2, none⟩) z3).trans a2_w3
  have a3_w4 := (b4.cell (p := ⟨w.heap.size, 3, none⟩) z3).trans a3_w3
  have a4_w4 := (b4.cell (p := ⟨w.heap.size, 4, none⟩) z3).trans a4_w3
  have k0_w4 : w4.cell? ⟨w3.heap.size, 0, none⟩ = some (.string bHor) := by rw [hw4]; exact (cell_of_row _ w3.heap.size 0 _ 67 (0, 0) (heap_alloc_new w3 _)).trans rfl
  have f0_w4 : w4.cell? ⟨w3.heap.size, 1, none⟩ = some (.func (.func 58) #[] #[]) := by rw [hw4]; exact (cell_of_row _ w3.heap.size 1 _ 67 (0, 0) (heap_alloc_new w3 _)).trans rfl
  have k1_w4 : w4.cell? ⟨w3.heap.size, 2, none⟩ = some (.string bNode) := by rw [hw4]; exact (cell_of_row _ w3.heap.size 2 _ 67 (0, 0) (heap_alloc_new w3 _)).trans rfl
  have f1_w4 : w4.cell? ⟨w3.heap.size, 3, none⟩ = some (.func (.func 59) #[] #[]) := by rw [hw4]; exact (cell_of_row _ w3.heap.size 3 _ 67 (0, 0) (heap_alloc_new w3 _)).trans rfl
  have k2_w4 : w4.cell? ⟨w3.heap.size, 4, none⟩ = some (.string bTie) := by rw [hw4]; exact (cell_of_row _ w3.heap.size 4 _ 67 (0, 0) (heap_alloc_new w3 _)).trans rfl
  have f2_w4 : w4.cell? ⟨w3.heap.size, 5, none⟩ = some (.func (.func 60) #[] #[]) := by rw [hw4]; exact (cell_of_row _ w3.heap.size 5 _ 67 (0, 0) (heap_alloc_new w3 _)).trans rfl
  have k3_w4 : w4.cell? ⟨w3.heap.size, 6, none⟩ = some (.string bFree) := by rw [hw4]; exact (cell_of_row _ w3.heap.size 6 _ 67 (0, 0) (heap_alloc_new w3 _)).trans rfl
  have f3_w4 : w4.cell? ⟨w3.heap.size, 7, none⟩ = some (.func (.func 61) #[] #[]) := by rw [hw4]; exact (cell_of_row _ w3.heap.size 7 _ 67 (0, 0) (heap_alloc_new w3 _)).trans rfl
  have B4 := Lib.hid (B3.out.trans (b4.mono (Nat.le_of_lt z3)))
  have R4 := Lib.hid (HRD.out.below B4.out)
  have HP4 := Lib.hid (pow_kept HP.out B4.out)
  have HE4 := Lib.hid (errs_kept HE.out B4.out)
  have hh4 : hi ≤ w4.heap.size := by omega
  clear hw4 b4 a0_w3 a1_w3 a2_w3 a3_w3 a4_w3
  go_wp2_with fail
  go_loopw [13] (fun i wr => ∃ j : Nat, j ≤ 4 ∧ i = .int .i64 j ∧ w4.heap.size ≤ wr.heap.size ∧ (∀ q o v, hi ≤ q → q < w4.heap.size → w4.cell? ⟨q, o, none⟩ = some v → wr.cell? ⟨q, o, none⟩ = some v) ∧ ((j ≤ mk ∧ Below w4.heap.size w4 wr) ∨ (mk < j ∧ RdAt w4 wr b hi (kiS mk s ws)))) (fun i _ => 4 - (intOf i).toNat)
  case atStart => exact ⟨0, Nat.zero_le _, rfl, Nat.le_refl _, fun _ _ _ _ _ h => h, .inl ⟨Nat.zero_le _, Below.refl _ _⟩⟩
  case round =>
    obtain ⟨j, hj, rfl, hsz, hfar, hst⟩ := hrel
    have HFAR := Lib.hid hfar
    have HST := Lib.hid hst
    clear hfar hst
    have zwr : w.heap.size < wr.heap.size := by omega
    have z3r : w3.heap.size < wr.heap.size := by omega
    have a0_wr := HFAR.out w.heap.size 0 _ h2 zw4 a0_w4
    have a1_wr := HFAR.out w.heap.size 1 _ h2 zw4 a1_w4
    have a2_wr := HFAR.out w.heap.size 2 _ h2 zw4 a2_w4
    have a3_wr := HFAR.out w.heap.size 3 _ h2 zw4 a3_w4
    have a4_wr := HFAR.out w.heap.size 4 _ h2 zw4 a4_w4
    rcases (show j = 0 ∨ j = 1 ∨ j = 2 ∨ j = 3 ∨ j = 4 from by omega) with hjj | hjj | hjj | hjj | hjj
    · obtain rfl := hjj
      have k_wr := HFAR.out w3.heap.size 0 _ (by omega) z4 k0_w4
      have f_wr := HFAR.out w3.heap.size 1 _ (by omega) z4 f0_w4
      have hsto := fun (W : World) (a : Addr) => run_store Tryz.prog W a (Value.func (Fn.func 58) #[] #[]) .plain rfl
      by_cases hm0 : mk = 0
      · have hc := HX0.out
        rw [decide_eq_true hm0] at hc
        have hbl : Below w4.heap.size w4 wr := by
          rcases HST.out with h9 | h9
          · exact h9.2
          · omega
        obtain ⟨kw, hkw⟩ : ∃ y, y = bHor := ⟨_, rfl⟩
        rw [← hkw] at hc k_wr
        obtain ⟨w5, hw5⟩ : ∃ W, W = wr.alloc (.cells #[.string kw, .func (.func 58) #[] #[]] 67) := ⟨_, rfl⟩
        have b5 : Below wr.heap.size wr w5 := by rw [hw5]; exact (Below.refl _ _).alloc (Nat.le_refl _) _
        have B5 := Lib.hid (hbl.trans (b5.mono hsz))
        have HC := Lib.hid (HR0.out w5 (R4.out.below B5.out) (Nat.le_trans hh4 B5.out.size) (pow_kept HP4.out B5.out) (errs_kept HE4.out B5.out))
        have n0_w5 : w5.cell? ⟨wr.heap.size, 0, none⟩ = some (.string kw) := by rw [hw5]; go_simp
        have n1_w5 : w5.cell? ⟨wr.heap.size, 1, none⟩ = some (.func (.func 58) #[] #[]) := by rw [hw5]; go_simp
        have z5 : wr.heap.size < w5.heap.size := by rw [hw5]; simp
        have a0_w5 := (b5.cell (p := ⟨w.heap.size, 0, none⟩) zwr).trans a0_wr
        have a1_w5 := (b5.cell (p := ⟨w.heap.size, 1, none⟩) zwr).trans a1_wr
        have a2_w5 := (b5.cell (p := ⟨w.heap.size, 2, none⟩) zwr).trans a2_wr
        have a3_w5 := (b5.cell (p := ⟨w.heap.size, 3, none⟩) zwr).trans a3_wr
        have a4_w5 := (b5.cell (p := ⟨w.heap.size, 4, none⟩) zwr).trans a4_wr
        have HW5 := Lib.hid hw5
        have HMK := Lib.hid hm0
        clear hw5 b5 hbl hkw hm0
        go_upto_region 5 with (fail)
        rw [← HW5.out]
        clear HW5 a0_wr a1_wr a2_wr a3_wr a4_wr k_wr f_wr
        go_wp2_with fail
        refine HC.out.mono ?_
        rintro e w6 ⟨rfl, hat⟩
        have HAT := Lib.hid (show RdAt w4 w6 b hi (kiS mk s ws) from by rw [HMK.out]; exact hat.from B5.out)
        clear hat
        go_wp2_with fail
        go_roundw
        case rel => exact ⟨1, by omega, by go_num, by obtain ⟨_, _, _, _, _, _, _, _, h9⟩ := HAT.out; exact h9.size, fun q o v h7 h8 h9 => rd_far HAT.out h7 h8 h9, .inr ⟨by rw [HMK.out]; omega, HAT.out⟩⟩
        case measure => simp [intOf]
      · have hc := HX0.out
        rw [decide_eq_false hm0] at hc
        obtain ⟨kw, hkw⟩ : ∃ y, y = bHor := ⟨_, rfl⟩
        rw [← hkw] at hc k_wr
        have HMK := Lib.hid hm0
        clear hkw hm0
        go_wp2_with fail
        go_roundw
        case rel => exact ⟨1, by omega, by go_num, by simp; omega, fun q o v h7 h8 h9 => alloc_far (by omega) (HFAR.out q o v h7 h8 h9), HST.out.imp (fun h9 => ⟨by have := HMK.out; omega, h9.2.alloc hsz _⟩) (fun h9 => ⟨by omega, h9.2.to ((Below.refl _ _).alloc (Nat.le_refl _) _)⟩)⟩
        case measure => simp [intOf]
    · obtain rfl := hjj
      have k_wr := HFAR.out w3.heap.size 2 _ (by omega) z4 k1_w4
      have f_wr := HFAR.out w3.heap.size 3 _ (by omega) z4 f1_w4
      have hsto := fun (W : World) (a : Addr) => run_store Tryz.prog W a (Value.func (Fn.func 59) #[] #[]) .plain rfl
      by_cases hm1 : mk = 1
      · have hc := HX1.out
        rw [decide_eq_true hm1] at hc
        have hbl : Below w4.heap.size w4 wr := by
          rcases HST.out with h9 | h9
          · exact h9.2
          · omega
        obtain ⟨kw, hkw⟩ : ∃ y, y = bNode := ⟨_, rfl⟩
        rw [← hkw] at hc k_wr
        obtain ⟨w5, hw5⟩ : ∃ W, W = wr.alloc (.cells #[.string kw, .func (.func 59) #[] #[]] 67) := ⟨_, rfl⟩
        have b5 : Below wr.heap.size wr w5 := by rw [hw5]; exact (Below.refl _ _).alloc (Nat.le_refl _) _
        have B5 := Lib.hid (hbl.trans (b5.mono hsz))
        have HC := Lib.hid (HR1.out w5 (R4.out.below B5.out) (Nat.le_trans hh4 B5.out.size) (pow_kept HP4.out B5.out) (errs_kept HE4.out B5.out))
        have n0_w5 : w5.cell? ⟨wr.heap.size, 0, none⟩ = some (.string kw) := by rw [hw5]; go_simp
        have n1_w5 : w5.cell? ⟨wr.heap.size, 1, none⟩ = some (.func (.func 59) #[] #[]) := by rw [hw5]; go_simp
        have z5 : wr.heap.size < w5.heap.size := by rw [hw5]; simp
        have a0_w5 := (b5.cell (p := ⟨w.heap.size, 0, none⟩) zwr).trans a0_wr
        have a1_w5 := (b5.cell (p := ⟨w.heap.size, 1, none⟩) zwr).trans a1_wr
        have a2_w5 := (b5.cell (p := ⟨w.heap.size, 2, none⟩) zwr).trans a2_wr
        have a3_w5 := (b5.cell (p := ⟨w.heap.size, 3, none⟩) zwr).trans a3_wr
        have a4_w5 := (b5.cell (p := ⟨w.heap.size, 4, none⟩) zwr).trans a4_wr
        have HW5 := Lib.hid hw5
        have HMK := Lib.hid hm1
        clear hw5 b5 hbl hkw hm1
        go_upto_region 5 with (fail)
        rw [← HW5.out]
        clear HW5 a0_wr a1_wr a2_wr a3_wr a4_wr k_wr f_wr
        go_wp2_with fail
        refine HC.out.mono ?_
        rintro e w6 ⟨rfl, hat⟩
        have HAT := Lib.hid (show RdAt w4 w6 b hi (kiS mk s ws) from by rw [HMK.out]; exact hat.from B5.out)
        clear hat
        go_wp2_with fail
        go_roundw
        case rel => exact ⟨2, by omega, by go_num, by obtain ⟨_, _, _, _, _, _, _, _, h9⟩ := HAT.out; exact h9.size, fun q o v h7 h8 h9 => rd_far HAT.out h7 h8 h9, .inr ⟨by rw [HMK.out]; omega, HAT.out⟩⟩
        case measure => simp [intOf]
      · have hc := HX1.out
        rw [decide_eq_false hm1] at hc
        obtain ⟨kw, hkw⟩ : ∃ y, y = bNode := ⟨_, rfl⟩
        rw [← hkw] at hc k_wr
        have HMK := Lib.hid hm1
        clear hkw hm1
        go_wp2_with fail
        go_roundw
        case rel => exact ⟨2, by omega, by go_num, by simp; omega, fun q o v h7 h8 h9 => alloc_far (by omega) (HFAR.out q o v h7 h8 h9), HST.out.imp (fun h9 => ⟨by have := HMK.out; omega, h9.2.alloc hsz _⟩) (fun h9 => ⟨by omega, h9.2.to ((Below.refl _ _).alloc (Nat.le_refl _) _)⟩)⟩
        case measure => simp [intOf]
    · obtain rfl := hjj
      have k_wr := HFAR.out w3.heap.size 4 _ (by omega) z4 k2_w4
      have f_wr := HFAR.out w3.heap.size 5 _ (by omega) z4 f2_w4
      have hsto := fun (W : World) (a : Addr) => run_store Tryz.prog W a (Value.func (Fn.func 60) #[] #[]) .plain rfl
      by_cases hm2 : mk = 2
      · have hc := HX2.out
        rw [decide_eq_true hm2] at hc
        have hbl : Below w4.heap.size w4 wr := by
          rcases HST.out with h9 | h9
          · exact h9.2
          · omega
        obtain ⟨kw, hkw⟩ : ∃ y, y = bTie := ⟨_, rfl⟩
        rw [← hkw] at hc k_wr
        obtain ⟨w5, hw5⟩ : ∃ W, W = wr.alloc (.cells #[.string kw, .func (.func 60) #[] #[]] 67) := ⟨_, rfl⟩
        have b5 : Below wr.heap.size wr w5 := by rw [hw5]; exact (Below.refl _ _).alloc (Nat.le_refl _) _
        have B5 := Lib.hid (hbl.trans (b5.mono hsz))
        have HC := Lib.hid (HR2.out w5 (R4.out.below B5.out) (Nat.le_trans hh4 B5.out.size) (pow_kept HP4.out B5.out) (errs_kept HE4.out B5.out))
        have n0_w5 : w5.cell? ⟨wr.heap.size, 0, none⟩ = some (.string kw) := by rw [hw5]; go_simp
        have n1_w5 : w5.cell? ⟨wr.heap.size, 1, none⟩ = some (.func (.func 60) #[] #[]) := by rw [hw5]; go_simp
        have z5 : wr.heap.size < w5.heap.size := by rw [hw5]; simp
        have a0_w5 := (b5.cell (p := ⟨w.heap.size, 0, none⟩) zwr).trans a0_wr
        have a1_w5 := (b5.cell (p := ⟨w.heap.size, 1, none⟩) zwr).trans a1_wr
        have a2_w5 := (b5.cell (p := ⟨w.heap.size, 2, none⟩) zwr).trans a2_wr
        have a3_w5 := (b5.cell (p := ⟨w.heap.size, 3, none⟩) zwr).trans a3_wr
        have a4_w5 := (b5.cell (p := ⟨w.heap.size, 4, none⟩) zwr).trans a4_wr
        have HW5 := Lib.hid hw5
        have HMK := Lib.hid hm2
        clear hw5 b5 hbl hkw hm2
        go_upto_region 5 with (fail)
        rw [← HW5.out]
        clear HW5 a0_wr a1_wr a2_wr a3_wr a4_wr k_wr f_wr
        go_wp2_with fail
        refine HC.out.mono ?_
        rintro e w6 ⟨rfl, hat⟩
        have HAT := Lib.hid (show RdAt w4 w6 b hi (kiS mk s ws) from by rw [HMK.out]; exact hat.from B5.out)
        clear hat
        go_wp2_with fail
        go_roundw
        case rel => exact ⟨3, by omega, by go_num, by obtain ⟨_, _, _, _, _, _, _, _, h9⟩ := HAT.out; exact h9.size, fun q o v h7 h8 h9 => rd_far HAT.out h7 h8 h9, .inr ⟨by rw [HMK.out]; omega, HAT.out⟩⟩
        case measure => simp [intOf]
      · have hc := HX2.out
        rw [decide_eq_false hm2] at hc
        obtain ⟨kw, hkw⟩ : ∃ y, y = bTie := ⟨_, rfl⟩
        rw [← hkw] at hc k_wr
        have HMK := Lib.hid hm2
        clear hkw hm2
        go_wp2_with fail
        go_roundw
        case rel => exact ⟨3, by omega, by go_num, by simp; omega, fun q o v h7 h8 h9 => alloc_far (by omega) (HFAR.out q o v h7 h8 h9), HST.out.imp (fun h9 => ⟨by have := HMK.out; omega, h9.2.alloc hsz _⟩) (fun h9 => ⟨by omega, h9.2.to ((Below.refl _ _).alloc (Nat.le_refl _) _)⟩)⟩
        case measure => simp [intOf]
    · obtain rfl := hjj
      have k_wr := HFAR.out w3.heap.size 6 _ (by omega) z4 k3_w4
      have f_wr := HFAR.out w3.heap.size 7 _ (by omega) z4 f3_w4
      have hsto := fun (W : World) (a : Addr) => run_store Tryz.prog W a (Value.func (Fn.func 61) #[] #[]) .plain rfl
      by_cases hm3 : mk = 3
      · have hc := HX3.out
        rw [decide_eq_true hm3] at hc
        have hbl : Below w4.heap.size w4 wr := by
          rcases HST.out with h9 | h9
          · exact h9.2
          · omega
        obtain ⟨kw, hkw⟩ : ∃ y, y = bFree := ⟨_, rfl⟩
        rw [← hkw] at hc k_wr
        obtain ⟨w5, hw5⟩ : ∃ W, W = wr.alloc (.cells #[.string kw, .func (.func 61) #[] #[]] 67) := ⟨_, rfl⟩
        have b5 : Below wr.heap.size wr w5 := by rw [hw5]; exact (Below.refl _ _).alloc (Nat.le_refl _) _
        have B5 := Lib.hid (hbl.trans (b5.mono hsz))
        have HC := Lib.hid (HR3.out w5 (R4.out.below B5.out) (Nat.le_trans hh4 B5.out.size) (pow_kept HP4.out B5.out) (errs_kept HE4.out B5.out))
        have n0_w5 : w5.cell? ⟨wr.heap.size, 0, none⟩ = some (.string kw) := by rw [hw5]; go_simp
        have n1_w5 : w5.cell? ⟨wr.heap.size, 1, none⟩ = some (.func (.func 61) #[] #[]) := by rw [hw5]; go_simp
        have z5 : wr.heap.size < w5.heap.size := by rw [hw5]; simp
        have a0_w5 := (b5.cell (p := ⟨w.heap.size, 0, none⟩) zwr).trans a0_wr
        have a1_w5 := (b5.cell (p := ⟨w.heap.size, 1, none⟩) zwr).trans a1_wr
        have a2_w5 := (b5.cell (p := ⟨w.heap.size, 2, none⟩) zwr).trans a2_wr
        have a3_w5 := (b5.cell (p := ⟨w.heap.size, 3, none⟩) zwr).trans a3_wr
        have a4_w5 := (b5.cell (p := ⟨w.heap.size, 4, none⟩) zwr).trans a4_wr
        have HW5 := Lib.hid hw5
        have HMK := Lib.hid hm3
        clear hw5 b5 hbl hkw hm3
        go_upto_region 5 with (fail)
        rw [← HW5.out]
        clear HW5 a0_wr a1_wr a2_wr a3_wr a4_wr k_wr f_wr
        go_wp2_with fail
        refine HC.out.mono ?_
        rintro e w6 ⟨rfl, hat⟩
        have HAT := Lib.hid (show RdAt w4 w6 b hi (kiS mk s ws) from by rw [HMK.out]; exact hat.from B5.out)
        clear hat
        go_wp2_with fail
        go_roundw
        case rel => exact ⟨4, by omega, by go_num, by obtain ⟨_, _, _, _, _, _, _, _, h9⟩ := HAT.out; exact h9.size, fun q o v h7 h8 h9 => rd_far HAT.out h7 h8 h9, .inr ⟨by rw [HMK.out]; omega, HAT.out⟩⟩
        case measure => simp [intOf]
      · have hc := HX3.out
        rw [decide_eq_false hm3] at hc
        obtain ⟨kw, hkw⟩ : ∃ y, y = bFree := ⟨_, rfl⟩
        rw [← hkw] at hc k_wr
        have HMK := Lib.hid hm3
        clear hkw hm3
        go_wp2_with fail
        go_roundw
        case rel => exact ⟨4, by omega, by go_num, by simp; omega, fun q o v h7 h8 h9 => alloc_far (by omega) (HFAR.out q o v h7 h8 h9), HST.out.imp (fun h9 => ⟨by have := HMK.out; omega, h9.2.alloc hsz _⟩) (fun h9 => ⟨by omega, h9.2.to ((Below.refl _ _).alloc (Nat.le_refl _) _)⟩)⟩
        case measure => simp [intOf]
    · obtain rfl := hjj
      have HEND := Lib.hid (show RdAt w4 wr b hi (kiS mk s ws) from by
        rcases HST.out with h9 | h9
        · have h8 : mk = 4 := by omega
          rw [h8]
          exact ⟨A, k, c, B, m, d, zs, (R4.out.below h9.2).up (by omega), Within.of_below h9.2⟩
        · exact h9.2)
      go_wp2_with fail
      go_end0
      exact ⟨rfl, by rw [HSF.out]; exact HEND.out.from B4.out⟩

end Go.Proofs.YtgajodcgedhikaaGreatDoor

namespace Go.Proofs.YtgajodcgedhikaaGreatDoor
open Go.RowKit
set_option linter.unusedVariables false
set_option linter.unusedSimpArgs false

theorem own_blockX {W : World} {B n s c : Nat} {t : TypeId} {xs : List Value} (b : Nat) (hB : B ≤ b) (h : W.heap[b]? = some (.cells xs.toArray t (0, 0))) (hl : xs.length = n * s) (hc : c = n) (hn : n ≤ maxLen) : W.ownsRow B t s (.slice (some ⟨b, 0, none⟩) n c) n xs := by
  subst hc
  exact ⟨hl, .inr ⟨b, c, xs.toArray, rfl, hB, h, Nat.le_refl _, hn, by simpa using hl, by simp [← hl]⟩⟩
theorem heap_newX (w : World) (o : Obj) (g : Nat) (h : g = w.heap.size) : (w.alloc o).heap[g]? = some o := by rw [h]; exact heap_alloc_new w o
theorem row_newX (w : World) (ss : List ByteArray) (xs : Array Value) (h : xs = (ss.map Value.string).toArray) : RowAt (w.alloc (.cells xs 9)) (some ⟨w.heap.size, 0, none⟩) (ss.map Value.string) := by
  intro _
  refine ⟨w.heap.size, 0, rfl, by simp, fun j hj => ?_⟩
  have h2 := cell_of_row (w.alloc (.cells xs 9)) w.heap.size (0 + j) xs 9 (0, 0) (heap_alloc_new w _)
  rw [h2, Nat.zero_add, h]
  simp [List.getElem?_eq_getElem hj]
theorem own_rowX {w : World} {B n c : Nat} {A : Option Addr} {ss : List ByteArray} (h : w.ownsRow B 9 1 (.slice A n c) n (ss.map Value.string)) : RowAt w A (ss.map Value.string) := own_row h
theorem one_c2X (a b : ByteArray) : ∀ u ∈ [Value.string a, Value.string b], u.oneCell' = true := fun u hu => by simp at hu; rcases hu with rfl | rfl <;> rfl
theorem one_c1X (a : ByteArray) : ∀ u ∈ [Value.string a], u.oneCell' = true := fun u hu => by simp at hu; subst hu; rfl
theorem nodL_0 {e : GN} (h : e.wat = 0) : joinB [bNode, e.name, fmtL e.lab] bSp = nodL e := by
  apply bytes_inj
  simp [nodL, h, joinB, joinTo, bNode, bSp]
theorem nodL_1 {e : GN} (h : ¬ e.wat = 0) : joinB [bNode, e.name, fmtL e.lab, bWatch, numB e.wat] bSp = nodL e := by
  apply bytes_inj
  simp [nodL, h, joinB, joinTo, bNode, bSp, bWatch]
theorem tieW_join (ns : List GN) (t : GT) : joinB [if t.fr then bFree else bTie, nmAt ns t.u, nmAt ns t.v, numB t.lo, numB t.hi] bSp = tieW ns t := by
  apply bytes_inj
  cases hf : t.fr <;> simp [tieW, hf, joinB, joinTo, bFree, bTie, bSp]
theorem horL_join (h : Int) : joinB [bHor, numB h] bSp = horL h := by
  apply bytes_inj
  simp [horL, joinB, joinTo, bHor, bSp]

set_option maxRecDepth 100000 in
set_option maxHeartbeats 8000000 in
theorem node_line (e : GN) (L : Option Addr) (c : Nat) (w : World) (hsz : e.name.size ≤ 1048576) (hlab : labR e.lab = true) (hw0 : 0 ≤ e.wat) (hw3 : e.wat ≤ 3) (hr : RowAt w L (e.lab.map intV)) (ht : Pow10 w) :
    Calls Tryz.prog 41 #[ndV L c e] w fun x w' => x = .returned (.string (nodL e)) ∧ Below w.heap.size w w' := by
  obtain ⟨i1, hii, hy0, hy1, hy2⟩ := info_parts Tryz.info9
  have hlen := labR_len hlab
  have hfs := fmtL_size hlab
  have HFL := Lib.hid (fun W h hp => impl_FormatLabel e.lab L e.lab.length c W rfl (by omega) h hp)
  have HFN := Lib.hid (fun W hp => impl_FormatInt e.wat W (by omega) (by omega) hp)
  have hns := numB_le (n := e.wat) (by omega) (by omega)
  have HR := Lib.hid hr
  have HT := Lib.hid ht
  have H0 := Lib.hid (fun h => nodL_0 (e := e) h)
  have H1 := Lib.hid (fun h => nodL_1 (e := e) h)
  obtain ⟨nm, lab, wat⟩ := e
  unfold ndV
  dsimp only at HFL HFN HR H0 H1 hsz hfs hns hw0 hw3 ⊢
  obtain ⟨q, hq⟩ : ∃ q, q = lab.length := ⟨_, rfl⟩
  rw [← hq] at HFL ⊢
  obtain ⟨fl, hfl⟩ : ∃ y, y = fmtL lab := ⟨_, rfl⟩
  rw [← hfl] at HFL H0 H1 hfs
  obtain ⟨yn, hyn⟩ : ∃ y, y = numB wat := ⟨_, rfl⟩
  rw [← hyn] at HFN H1 hns
  obtain ⟨w1, hw1⟩ : ∃ W, W = w.alloc (.cells #[.string nm, .slice L q c, .int .i64 wat] 38) := ⟨_, rfl⟩
  have B_w1 : Below w.heap.size w w1 := by rw [hw1]; exact (Below.refl _ _).alloc (Nat.le_refl _) _
  have z_w1 : w.heap.size < w1.heap.size := by rw [hw1]; simp
  have a0_w1 : w1.cell? ⟨w.heap.size, 0, none⟩ = some (.string nm) := by rw [hw1]; go_simp
  have a1_w1 : w1.cell? ⟨w.heap.size, 1, none⟩ = some (.slice L q c) := by rw [hw1]; go_simp
  have a2_w1 : w1.cell? ⟨w.heap.size, 2, none⟩ = some (.int .i64 wat) := by rw [hw1]; go_simp
  have HP := Lib.hid (pow_kept HT.out B_w1)
  have HR1 := Lib.hid (HR.out.below B_w1)
  have BW1 := Lib.hid B_w1
  have HW1 := Lib.hid hw1
  clear hw1 B_w1 hr ht hlab hlen hq hfl hyn HR HT
  by_cases h0 : wat = 0
  · have hb : (wat != 0) = false := by simp [h0]
    have HX := Lib.hid (H0.out h0)
    clear H0 H1 h0 HFN
    go_enter Tryz.func41, Tryz.ntmps41
    go_upto_region 1 with (fail)
    rw [← HW1.out]
    clear HW1
    go_region_held3 (fun W => W.cell? ⟨w.heap.size, 0, none⟩ = some (.string nm) ∧ W.cell? ⟨w.heap.size, 1, none⟩ = some (.slice L q c)) (first | (go_keep; done) | ((try dsimp only); refine ⟨?_, ?_⟩ <;> first | assumption | (go_simp; done))) (first | (go_at_call 71; refine (HFL.out _ (HR1.out.below (by repeat (first | exact Below.refl _ _ | refine below_step (by assumption) (by first | omega | (simp; done) | (simp; omega)) ?_ | refine below_drewN ?_ _ | refine Below.drew ?_ | refine Below.setCell ?_ (by first | omega | (simp; done) | (simp; omega)) _ | refine Below.alloc ?_ (by first | omega | (simp; done) | (simp; omega)) _))) (pow_kept HP.out (by repeat (first | exact Below.refl _ _ | refine below_step (by assumption) (by first | omega | (simp; done) | (simp; omega)) ?_ | refine below_drewN ?_ _ | refine Below.drew ?_ | refine Below.setCell ?_ (by first | omega | (simp; done) | (simp; omega)) _ | refine Below.alloc ?_ (by first | omega | (simp; done) | (simp; omega)) _)))).mono ?_; rintro x wa ⟨rfl, ba⟩; have BA : Below w1.heap.size w1 wa := (by exact (by repeat (first | exact Below.refl _ _ | refine below_step (by assumption) (by first | omega | (simp; done) | (simp; omega)) ?_ | refine below_drewN ?_ _ | refine Below.drew ?_ | refine Below.setCell ?_ (by first | omega | (simp; done) | (simp; omega)) _ | refine Below.alloc ?_ (by first | omega | (simp; done) | (simp; omega)) _))); have za := BA.size; have zwa : w.heap.size < wa.heap.size := (by omega); have a0_wa : wa.cell? ⟨w.heap.size, 0, none⟩ = some (.string nm) := (BA.cell (p := ⟨w.heap.size, 0, none⟩) (by omega)).trans a0_w1; have a1_wa : wa.cell? ⟨w.heap.size, 1, none⟩ = some (.slice L q c) := (BA.cell (p := ⟨w.heap.size, 1, none⟩) (by omega)).trans a1_w1; have a2_wa : wa.cell? ⟨w.heap.size, 2, none⟩ = some (.int .i64 wat) := (BA.cell (p := ⟨w.heap.size, 2, none⟩) (by omega)).trans a2_w1; clear ba))
    all_goals
      go_wp2_with fail
      refine (impl_Join [bNode, nm, fl] bSp _ 3 3 _ rfl (by omega) (by decide) (by
        intro y hy
        simp at hy
        rcases hy with rfl | rfl | rfl
        · decide
        · omega
        · omega) (by exact (row_newX wa [bNode, nm, fl] _ rfl).of_heap rfl)).mono ?_
      rintro x2 w2 ⟨rfl, b2⟩
      go_wp2_with fail
      go_ret
      exact ⟨str_ans HX.out, BW1.out.trans (Below.mono (show Below w1.heap.size w1 w2 from (by repeat (first | exact Below.refl _ _ | refine below_step (by assumption) (by first | omega | (simp; done) | (simp; omega)) ?_ | refine below_drewN ?_ _ | refine Below.drew ?_ | refine Below.setCell ?_ (by first | omega | (simp; done) | (simp; omega)) _ | refine Below.alloc ?_ (by first | omega | (simp; done) | (simp; omega)) _))) BW1.out.size)⟩
  · have hb : (wat != 0) = true := by simp [h0]
    have HX := Lib.hid (H1.out h0)
    clear H0 H1 h0
    go_enter Tryz.func41, Tryz.ntmps41
    go_upto_region 1 with (fail)
    rw [← HW1.out]
    clear HW1
    go_region_held3 (fun W => W.cell? ⟨w.heap.size, 0, none⟩ = some (.string nm) ∧ W.cell? ⟨w.heap.size, 1, none⟩ = some (.slice L q c)) (first | (go_keep; done) | ((try dsimp only); refine ⟨?_, ?_⟩ <;> first | assumption | (go_simp; done))) (first | (go_at_call 71; refine (HFL.out _ (HR1.out.below (by repeat (first | exact Below.refl _ _ | refine below_step (by assumption) (by first | omega | (simp; done) | (simp; omega)) ?_ | refine below_drewN ?_ _ | refine Below.drew ?_ | refine Below.setCell ?_ (by first | omega | (simp; done) | (simp; omega)) _ | refine Below.alloc ?_ (by first | omega | (simp; done) | (simp; omega)) _))) (pow_kept HP.out (by repeat (first | exact Below.refl _ _ | refine below_step (by assumption) (by first | omega | (simp; done) | (simp; omega)) ?_ | refine below_drewN ?_ _ | refine Below.drew ?_ | refine Below.setCell ?_ (by first | omega | (simp; done) | (simp; omega)) _ | refine Below.alloc ?_ (by first | omega | (simp; done) | (simp; omega)) _)))).mono ?_; rintro x wa ⟨rfl, ba⟩; have BA : Below w1.heap.size w1 wa := (by exact (by repeat (first | exact Below.refl _ _ | refine below_step (by assumption) (by first | omega | (simp; done) | (simp; omega)) ?_ | refine below_drewN ?_ _ | refine Below.drew ?_ | refine Below.setCell ?_ (by first | omega | (simp; done) | (simp; omega)) _ | refine Below.alloc ?_ (by first | omega | (simp; done) | (simp; omega)) _))); have za := BA.size; have zwa : w.heap.size < wa.heap.size := (by omega); have a0_wa : wa.cell? ⟨w.heap.size, 0, none⟩ = some (.string nm) := (BA.cell (p := ⟨w.heap.size, 0, none⟩) (by omega)).trans a0_w1; have a1_wa : wa.cell? ⟨w.heap.size, 1, none⟩ = some (.slice L q c) := (BA.cell (p := ⟨w.heap.size, 1, none⟩) (by omega)).trans a1_w1; have a2_wa : wa.cell? ⟨w.heap.size, 2, none⟩ = some (.int .i64 wat) := (BA.cell (p := ⟨w.heap.size, 2, none⟩) (by omega)).trans a2_w1; clear ba))
    all_goals
      obtain ⟨wb, hwb⟩ : ∃ W, W = wa.alloc (.cells #[.string ⟨#[110, 111, 100, 101]⟩, .string nm, .string fl] 9) := ⟨_, rfl⟩
      rw [← hwb]
      have BB : Below w1.heap.size w1 wb := by rw [hwb]; exact BA.alloc za _
      have zb := BB.size
      have OW := Lib.hid (show wb.ownsRow w1.heap.size 9 1 (.slice (some ⟨wa.heap.size, 0, none⟩) 3 3) 3 ([bNode, nm, fl].map Value.string) from own_blockX wa.heap.size za (by rw [hwb]; exact heap_alloc_new _ _) rfl rfl (by decide))
      have a2_wb := (BB.cell (p := ⟨w.heap.size, 2, none⟩) (by omega)).trans a2_w1
      have zwb : w.heap.size < wb.heap.size := by omega
      clear hwb a0_wa a1_wa a2_wa
      go_wp2_with fail
      refine (HFN.out _ (pow_kept HP.out BB)).mono ?_
      rintro x wc ⟨rfl, bc⟩
      have OC := Lib.hid (own_below OW.out bc)
      have BC : Below w1.heap.size w1 wc := BB.trans (bc.mono zb)
      have zc := BC.size
      clear bc
      go_wp2_with (at_builtin; refine wpList_append_lies _ rfl _ _ 31 rfl (w1.heap.size) 9 i1 (.string ⟨#[]⟩) 1 16 Tryz.underlying31 hii hy0 hy1 hy2 rfl (by decide) _ _ _ rfl (OC.out.alloc _) ⟨_, 0, none⟩ 2 2 _ rfl rfl (World.news_of_block (heap_newX _ _ _ (by first | rfl | (simp; done)))) (one_c2X _ _) (by decide) (by unfold maxLen; omega) (by omega) (by simp; omega) _ rfl ?_)
      intro g5 cap w6 ho6 hg6 hat6 hl6
      have B6 : Below w1.heap.size w1 w6 := (BC.alloc zc _).grown hg6 (by simp; omega) (fun r hr => (OC.out.lt r hr).1)
      have O6 := Lib.hid (show w6.ownsRow w1.heap.size 9 1 (.slice (some ⟨g5, 0, none⟩) 5 cap) 5 ([bNode, nm, fl, bWatch, yn].map Value.string) from by simpa [bWatch] using ho6)
      clear ho6 hg6 hat6 hl6
      go_wp2_with fail
      refine (impl_Join [bNode, nm, fl, bWatch, yn] bSp _ 5 cap _ rfl (by omega) (by decide) (by
        intro y hy
        simp at hy
        rcases hy with rfl | rfl | rfl | rfl | rfl
        · decide
        · omega
        · omega
        · decide
        · omega) (own_rowX O6.out)).mono ?_
      rintro x2 w7 ⟨rfl, b7⟩
      go_wp2_with fail
      go_ret
      exact ⟨str_ans HX.out, BW1.out.trans ((B6.trans (b7.mono B6.size)).mono BW1.out.size)⟩

set_option maxRecDepth 100000 in
set_option maxHeartbeats 16000000 in
theorem tie_line (s : GS) (t : GT) (A : Option Addr) (k c : Nat) (B : Option Addr) (m d : Nat) (w : World) (hu : 0 ≤ t.u ∧ t.u ≤ (k : Int) - 1) (hv : 0 ≤ t.v ∧ t.v ≤ (k : Int) - 1) (hl : -1000 ≤ t.lo ∧ t.lo ≤ 1000) (hh : -1000 ≤ t.hi ∧ t.hi ≤ 1000) (hn : ∀ e ∈ s.ns, e.name.size ≤ 1048576) (ha : ShowAt w s A k B m) (ht : Pow10 w) :
    Calls Tryz.prog 42 #[shV A k c B m d s.h, .agg #[.int .i64 t.u, .int .i64 t.v, .int .i64 t.lo, .int .i64 t.hi, .bool t.fr]] w fun e w' => e = .returned (.string (tieW s.ns t)) ∧ Below w.heap.size w w' := by
  obtain ⟨u, v, lo, hi, fr⟩ := t
  dsimp only at hu hv hl hh ⊢
  have hw := tieW_join s.ns ⟨u, v, lo, hi, fr⟩
  dsimp only at hw
  obtain ⟨h, hhh⟩ : ∃ h, h = s.h := ⟨_, rfl⟩
  rw [← hhh]
  clear hhh
  obtain ⟨nu, rfl⟩ : ∃ n : Nat, u = n := ⟨u.toNat, by omega⟩
  obtain ⟨nv, rfl⟩ : ∃ n : Nat, v = n := ⟨v.toNat, by omega⟩
  obtain ⟨f, hf⟩ : ∃ f, s.ns[nu]? = some f := ⟨_, List.getElem?_eq_getElem (by have := ha.ln; omega)⟩
  obtain ⟨f2, hf2⟩ : ∃ f, s.ns[nv]? = some f := ⟨_, List.getElem?_eq_getElem (by have := ha.ln; omega)⟩
  have hx1 : nmAt s.ns (nu : Int) = f.name := by unfold nmAt; rw [show ((nu : Nat) : Int).toNat = nu by omega, hf]; rfl
  have hx2 : nmAt s.ns (nv : Int) = f2.name := by unfold nmAt; rw [show ((nv : Nat) : Int).toNat = nv by omega, hf2]; rfl
  have hs1 := hn f (List.mem_of_getElem? hf)
  have hs2 := hn f2 (List.mem_of_getElem? hf2)
  rw [hx1, hx2] at hw
  have hy1 := numB_le (n := lo) (by omega) (by omega)
  have hy2 := numB_le (n := hi) (by omega) (by omega)
  have HF1 := Lib.hid (fun W hp => impl_FormatInt lo W (by omega) (by omega) hp)
  have HF2 := Lib.hid (fun W hp => impl_FormatInt hi W (by omega) (by omega) hp)
  obtain ⟨g, o, Lu, cu, rfl, hg, a0, _, _, _⟩ := node_facts ha.nodes hf
  obtain ⟨g2, o2, Lv, cv, hA2, _, v0, _, _, _⟩ := node_facts ha.nodes hf2
  injection hA2 with hA2
  injection hA2 with hA3 hA4
  subst hA3 hA4
  obtain ⟨x1, hx1'⟩ : ∃ x, x = f.name := ⟨_, rfl⟩
  obtain ⟨x2, hx2'⟩ : ∃ x, x = f2.name := ⟨_, rfl⟩
  obtain ⟨y1, hy1'⟩ : ∃ x, x = numB lo := ⟨_, rfl⟩
  obtain ⟨y2, hy2'⟩ : ∃ x, x = numB hi := ⟨_, rfl⟩
  rw [← hx1'] at hs1 hw a0
  rw [← hx2'] at hs2 hw v0
  rw [← hy1'] at hy1 hw HF1
  rw [← hy2'] at hy2 hw HF2
  have HW := Lib.hid hw
  unfold shV
  have hnu0 : (0 : Int) ≤ (nu : Int) := by omega
  have hnuk : (nu : Int) < (k : Int) := by omega
  have hnv0 : (0 : Int) ≤ (nv : Int) := by omega
  have hnvk : (nv : Int) < (k : Int) := by omega
  have hnuk2 : nu < k := by omega
  have hnvk2 : nv < k := by omega
  clear hw hx1 hx2 hx1' hx2' hy1' hy2' hf hf2 hn ha hu hv hl hh
  obtain ⟨w1, hw1⟩ : ∃ W, W = (w.alloc (.cells #[.slice (some ⟨g, o, none⟩) k c, .slice B m d, .int .i64 h] 25)).alloc (.cells #[.int .i64 nu, .int .i64 nv, .int .i64 lo, .int .i64 hi, .bool fr] 42) := ⟨_, rfl⟩
  have B_w1 : Below w.heap.size w w1 := by rw [hw1]; exact (by repeat (first | exact Below.refl _ _ | refine below_step (by assumption) (by first | omega | (simp; done) | (simp; omega)) ?_ | refine below_drewN ?_ _ | refine Below.drew ?_ | refine Below.setCell ?_ (by first | omega | (simp; done) | (simp; omega)) _ | refine Below.alloc ?_ (by first | omega | (simp; done) | (simp; omega)) _))
  have z_w1 : w.heap.size + 1 < w1.heap.size := by rw [hw1]; simp
  have c0_w1 : w1.cell? ⟨w.heap.size, 0, none⟩ = some (.slice (some ⟨g, o, none⟩) k c) := by rw [hw1]; go_simp
  have c1_w1 : w1.cell? ⟨w.heap.size, 1, none⟩ = some (.slice B m d) := by rw [hw1]; go_simp
  have c2_w1 : w1.cell? ⟨w.heap.size, 2, none⟩ = some (.int .i64 h) := by rw [hw1]; go_simp
  have e0_w1 : w1.cell? ⟨w.heap.size + 1, 0, none⟩ = some (.int .i64 nu) := by rw [hw1]; go_simp
  have e1_w1 : w1.cell? ⟨w.heap.size + 1, 1, none⟩ = some (.int .i64 nv) := by rw [hw1]; go_simp
  have e2_w1 : w1.cell? ⟨w.heap.size + 1, 2, none⟩ = some (.int .i64 lo) := by rw [hw1]; go_simp
  have e3_w1 : w1.cell? ⟨w.heap.size + 1, 3, none⟩ = some (.int .i64 hi) := by rw [hw1]; go_simp
  have e4_w1 : w1.cell? ⟨w.heap.size + 1, 4, none⟩ = some (.bool fr) := by rw [hw1]; go_simp
  have a0_w1 : w1.cell? ⟨g, o + nu * 3, none⟩ = some (.string x1) := (B_w1.cell (p := ⟨g, o + nu * 3, none⟩) hg).trans a0
  have v0_w1 : w1.cell? ⟨g, o + nv * 3, none⟩ = some (.string x2) := (B_w1.cell (p := ⟨g, o + nv * 3, none⟩) hg).trans v0
  have zg_w1 : g < w1.heap.size := by omega
  have z0_w1 : w.heap.size < w1.heap.size := by omega
  have HP := Lib.hid (pow_kept ht B_w1)
  have BW1 := Lib.hid B_w1
  have HW1 := Lib.hid hw1
  clear hw1 B_w1 a0 v0 ht
  cases fr with
  | false =>
    go_enter Tryz.func42, Tryz.ntmps42
    go_upto_region 2 with (fail)
    rw [← HW1.out]
    clear HW1
    go_upto_region 4 with (fail)
    go_region_held3 (fun W => W.cell? ⟨w.heap.size, 0, none⟩ = some (.slice (some ⟨g, o, none⟩) k c) ∧ W.cell? ⟨w.heap.size + 1, 0, none⟩ = some (.int .i64 nu) ∧ W.cell? ⟨w.heap.size + 1, 1, none⟩ = some (.int .i64 nv) ∧ W.cell? ⟨w.heap.size + 1, 2, none⟩ = some (.int .i64 lo) ∧ W.cell? ⟨w.heap.size + 1, 3, none⟩ = some (.int .i64 hi) ∧ W.cell? ⟨g, o + nu * 3, none⟩ = some (.string x1) ∧ W.cell? ⟨g, o + nv * 3, none⟩ = some (.string x2)) (first | (go_keep; done) | ((try dsimp only); refine ⟨?_, ?_, ?_, ?_, ?_, ?_, ?_⟩ <;> first | assumption | (go_simp; done))) (first | (go_at_call_of 40 (Value.int .i64 lo); refine (HF1.out _ (pow_kept HP.out (by repeat (first | exact Below.refl _ _ | refine below_step (by assumption) (by first | omega | (simp; done) | (simp; omega)) ?_ | refine below_drewN ?_ _ | refine Below.drew ?_ | refine Below.setCell ?_ (by first | omega | (simp; done) | (simp; omega)) _ | refine Below.alloc ?_ (by first | omega | (simp; done) | (simp; omega)) _)))).mono ?_; rintro x wa ⟨rfl, bwa⟩; have Bwa : Below w1.heap.size w1 wa := (by exact (by repeat (first | exact Below.refl _ _ | refine below_step (by assumption) (by first | omega | (simp; done) | (simp; omega)) ?_ | refine below_drewN ?_ _ | refine Below.drew ?_ | refine Below.setCell ?_ (by first | omega | (simp; done) | (simp; omega)) _ | refine Below.alloc ?_ (by first | omega | (simp; done) | (simp; omega)) _))); have zwa := Bwa.size; have c0_wa : wa.cell? ⟨w.heap.size, 0, none⟩ = some (.slice (some ⟨g, o, none⟩) k c) := (Bwa.cell (p := ⟨w.heap.size, 0, none⟩) (by omega)).trans c0_w1; have e0_wa : wa.cell? ⟨w.heap.size + 1, 0, none⟩ = some (.int .i64 nu) := (Bwa.cell (p := ⟨w.heap.size + 1, 0, none⟩) (by omega)).trans e0_w1; have e1_wa : wa.cell? ⟨w.heap.size + 1, 1, none⟩ = some (.int .i64 nv) := (Bwa.cell (p := ⟨w.heap.size + 1, 1, none⟩) (by omega)).trans e1_w1; have e2_wa : wa.cell? ⟨w.heap.size + 1, 2, none⟩ = some (.int .i64 lo) := (Bwa.cell (p := ⟨w.heap.size + 1, 2, none⟩) (by omega)).trans e2_w1; have e3_wa : wa.cell? ⟨w.heap.size + 1, 3, none⟩ = some (.int .i64 hi) := (Bwa.cell (p := ⟨w.heap.size + 1, 3, none⟩) (by omega)).trans e3_w1; have a0_wa : wa.cell? ⟨g, o + nu * 3, none⟩ = some (.string x1) := (Bwa.cell (p := ⟨g, o + nu * 3, none⟩) (by omega)).trans a0_w1; have v0_wa : wa.cell? ⟨g, o + nv * 3, none⟩ = some (.string x2) := (Bwa.cell (p := ⟨g, o + nv * 3, none⟩) (by omega)).trans v0_w1; clear bwa) | (go_at_call_of 40 (Value.int .i64 hi); refine (HF2.out _ (pow_kept HP.out (by repeat (first | exact Below.refl _ _ | refine below_step (by assumption) (by first | omega | (simp; done) | (simp; omega)) ?_ | refine below_drewN ?_ _ | refine Below.drew ?_ | refine Below.setCell ?_ (by first | omega | (simp; done) | (simp; omega)) _ | refine Below.alloc ?_ (by first | omega | (simp; done) | (simp; omega)) _)))).mono ?_; rintro x wb ⟨rfl, bwb⟩; have Bwb : Below w1.heap.size w1 wb := (by exact (by repeat (first | exact Below.refl _ _ | refine below_step (by assumption) (by first | omega | (simp; done) | (simp; omega)) ?_ | refine below_drewN ?_ _ | refine Below.drew ?_ | refine Below.setCell ?_ (by first | omega | (simp; done) | (simp; omega)) _ | refine Below.alloc ?_ (by first | omega | (simp; done) | (simp; omega)) _))); have zwb := Bwb.size; have c0_wb : wb.cell? ⟨w.heap.size, 0, none⟩ = some (.slice (some ⟨g, o, none⟩) k c) := (Bwb.cell (p := ⟨w.heap.size, 0, none⟩) (by omega)).trans c0_w1; have e0_wb : wb.cell? ⟨w.heap.size + 1, 0, none⟩ = some (.int .i64 nu) := (Bwb.cell (p := ⟨w.heap.size + 1, 0, none⟩) (by omega)).trans e0_w1; have e1_wb : wb.cell? ⟨w.heap.size + 1, 1, none⟩ = some (.int .i64 nv) := (Bwb.cell (p := ⟨w.heap.size + 1, 1, none⟩) (by omega)).trans e1_w1; have e2_wb : wb.cell? ⟨w.heap.size + 1, 2, none⟩ = some (.int .i64 lo) := (Bwb.cell (p := ⟨w.heap.size + 1, 2, none⟩) (by omega)).trans e2_w1; have e3_wb : wb.cell? ⟨w.heap.size + 1, 3, none⟩ = some (.int .i64 hi) := (Bwb.cell (p := ⟨w.heap.size + 1, 3, none⟩) (by omega)).trans e3_w1; have a0_wb : wb.cell? ⟨g, o + nu * 3, none⟩ = some (.string x1) := (Bwb.cell (p := ⟨g, o + nu * 3, none⟩) (by omega)).trans a0_w1; have v0_wb : wb.cell? ⟨g, o + nv * 3, none⟩ = some (.string x2) := (Bwb.cell (p := ⟨g, o + nv * 3, none⟩) (by omega)).trans v0_w1; clear bwb) | (go_at_call 39; refine (impl_joinParts [bTie, x1, x2, y1, y2] bSp _ 5 5 _ rfl (by omega) (by decide) (by intro y hy; simp at hy; rcases hy with rfl | rfl | rfl | rfl | rfl <;> first | decide | omega) (by exact (row_newX _ [bTie, x1, x2, y1, y2] _ rfl))).mono ?_; rintro x wj ⟨rfl, bwj⟩; have Bwj : Below w1.heap.size w1 wj := (by exact (by repeat (first | exact Below.refl _ _ | refine below_step (by assumption) (by first | omega | (simp; done) | (simp; omega)) ?_ | refine below_drewN ?_ _ | refine Below.drew ?_ | refine Below.setCell ?_ (by first | omega | (simp; done) | (simp; omega)) _ | refine Below.alloc ?_ (by first | omega | (simp; done) | (simp; omega)) _))); have zwj := Bwj.size; have c0_wj : wj.cell? ⟨w.heap.size, 0, none⟩ = some (.slice (some ⟨g, o, none⟩) k c) := (Bwj.cell (p := ⟨w.heap.size, 0, none⟩) (by omega)).trans c0_w1; have e0_wj : wj.cell? ⟨w.heap.size + 1, 0, none⟩ = some (.int .i64 nu) := (Bwj.cell (p := ⟨w.heap.size + 1, 0, none⟩) (by omega)).trans e0_w1; have e1_wj : wj.cell? ⟨w.heap.size + 1, 1, none⟩ = some (.int .i64 nv) := (Bwj.cell (p := ⟨w.heap.size + 1, 1, none⟩) (by omega)).trans e1_w1; have e2_wj : wj.cell? ⟨w.heap.size + 1, 2, none⟩ = some (.int .i64 lo) := (Bwj.cell (p := ⟨w.heap.size + 1, 2, none⟩) (by omega)).trans e2_w1; have e3_wj : wj.cell? ⟨w.heap.size + 1, 3, none⟩ = some (.int .i64 hi) := (Bwj.cell (p := ⟨w.heap.size + 1, 3, none⟩) (by omega)).trans e3_w1; have a0_wj : wj.cell? ⟨g, o + nu * 3, none⟩ = some (.string x1) := (Bwj.cell (p := ⟨g, o + nu * 3, none⟩) (by omega)).trans a0_w1; have v0_wj : wj.cell? ⟨g, o + nv * 3, none⟩ = some (.string x2) := (Bwj.cell (p := ⟨g, o + nv * 3, none⟩) (by omega)).trans v0_w1; clear bwj))
    all_goals
      go_wp2_with fail
      go_ret
      exact ⟨str_ans (by first | exact HW.out | (rw [← HW.out]; rfl)), BW1.out.trans (Bwj.mono BW1.out.size)⟩
  | true =>
    go_enter Tryz.func42, Tryz.ntmps42
    go_upto_region 2 with (fail)
    rw [← HW1.out]
    clear HW1
    go_upto_region 4 with (fail)
    go_region_held3 (fun W => W.cell? ⟨w.heap.size, 0, none⟩ = some (.slice (some ⟨g, o, none⟩) k c) ∧ W.cell? ⟨w.heap.size + 1, 0, none⟩ = some (.int .i64 nu) ∧ W.cell? ⟨w.heap.size + 1, 1, none⟩ = some (.int .i64 nv) ∧ W.cell? ⟨w.heap.size + 1, 2, none⟩ = some (.int .i64 lo) ∧ W.cell? ⟨w.heap.size + 1, 3, none⟩ = some (.int .i64 hi) ∧ W.cell? ⟨g, o + nu * 3, none⟩ = some (.string x1) ∧ W.cell? ⟨g, o + nv * 3, none⟩ = some (.string x2)) (first | (go_keep; done) | ((try dsimp only); refine ⟨?_, ?_, ?_, ?_, ?_, ?_, ?_⟩ <;> first | assumption | (go_simp; done))) (first | (go_at_call_of 40 (Value.int .i64 lo); refine (HF1.out _ (pow_kept HP.out (by repeat (first | exact Below.refl _ _ | refine below_step (by assumption) (by first | omega | (simp; done) | (simp; omega)) ?_ | refine below_drewN ?_ _ | refine Below.drew ?_ | refine Below.setCell ?_ (by first | omega | (simp; done) | (simp; omega)) _ | refine Below.alloc ?_ (by first | omega | (simp; done) | (simp; omega)) _)))).mono ?_; rintro x wa ⟨rfl, bwa⟩; have Bwa : Below w1.heap.size w1 wa := (by exact (by repeat (first | exact Below.refl _ _ | refine below_step (by assumption) (by first | omega | (simp; done) | (simp; omega)) ?_ | refine below_drewN ?_ _ | refine Below.drew ?_ | refine Below.setCell ?_ (by first | omega | (simp; done) | (simp; omega)) _ | refine Below.alloc ?_ (by first | omega | (simp; done) | (simp; omega)) _))); have zwa := Bwa.size; have c0_wa : wa.cell? ⟨w.heap.size, 0, none⟩ = some (.slice (some ⟨g, o, none⟩) k c) := (Bwa.cell (p := ⟨w.heap.size, 0, none⟩) (by omega)).trans c0_w1; have e0_wa : wa.cell? ⟨w.heap.size + 1, 0, none⟩ = some (.int .i64 nu) := (Bwa.cell (p := ⟨w.heap.size + 1, 0, none⟩) (by omega)).trans e0_w1; have e1_wa : wa.cell? ⟨w.heap.size + 1, 1, none⟩ = some (.int .i64 nv) := (Bwa.cell (p := ⟨w.heap.size + 1, 1, none⟩) (by omega)).trans e1_w1; have e2_wa : wa.cell? ⟨w.heap.size + 1, 2, none⟩ = some (.int .i64 lo) := (Bwa.cell (p := ⟨w.heap.size + 1, 2, none⟩) (by omega)).trans e2_w1; have e3_wa : wa.cell? ⟨w.heap.size + 1, 3, none⟩ = some (.int .i64 hi) := (Bwa.cell (p := ⟨w.heap.size + 1, 3, none⟩) (by omega)).trans e3_w1; have a0_wa : wa.cell? ⟨g, o + nu * 3, none⟩ = some (.string x1) := (Bwa.cell (p := ⟨g, o + nu * 3, none⟩) (by omega)).trans a0_w1; have v0_wa : wa.cell? ⟨g, o + nv * 3, none⟩ = some (.string x2) := (Bwa.cell (p := ⟨g, o + nv * 3, none⟩) (by omega)).trans v0_w1; clear bwa) | (go_at_call_of 40 (Value.int .i64 hi); refine (HF2.out _ (pow_kept HP.out (by repeat (first | exact Below.refl _ _ | refine below_step (by assumption) (by first | omega | (simp; done) | (simp; omega)) ?_ | refine below_drewN ?_ _ | refine Below.drew ?_ | refine Below.setCell ?_ (by first | omega | (simp; done) | (simp; omega)) _ | refine Below.alloc ?_ (by first | omega | (simp; done) | (simp; omega)) _)))).mono ?_; rintro x wb ⟨rfl, bwb⟩; have Bwb : Below w1.heap.size w1 wb := (by exact (by repeat (first | exact Below.refl _ _ | refine below_step (by assumption) (by first | omega | (simp; done) | (simp; omega)) ?_ | refine below_drewN ?_ _ | refine Below.drew ?_ | refine Below.setCell ?_ (by first | omega | (simp; done) | (simp; omega)) _ | refine Below.alloc ?_ (by first | omega | (simp; done) | (simp; omega)) _))); have zwb := Bwb.size; have c0_wb : wb.cell? ⟨w.heap.size, 0, none⟩ = some (.slice (some ⟨g, o, none⟩) k c) := (Bwb.cell (p := ⟨w.heap.size, 0, none⟩) (by omega)).trans c0_w1; have e0_wb : wb.cell? ⟨w.heap.size + 1, 0, none⟩ = some (.int .i64 nu) := (Bwb.cell (p := ⟨w.heap.size + 1, 0, none⟩) (by omega)).trans e0_w1; have e1_wb : wb.cell? ⟨w.heap.size + 1, 1, none⟩ = some (.int .i64 nv) := (Bwb.cell (p := ⟨w.heap.size + 1, 1, none⟩) (by omega)).trans e1_w1; have e2_wb : wb.cell? ⟨w.heap.size + 1, 2, none⟩ = some (.int .i64 lo) := (Bwb.cell (p := ⟨w.heap.size + 1, 2, none⟩) (by omega)).trans e2_w1; have e3_wb : wb.cell? ⟨w.heap.size + 1, 3, none⟩ = some (.int .i64 hi) := (Bwb.cell (p := ⟨w.heap.size + 1, 3, none⟩) (by omega)).trans e3_w1; have a0_wb : wb.cell? ⟨g, o + nu * 3, none⟩ = some (.string x1) := (Bwb.cell (p := ⟨g, o + nu * 3, none⟩) (by omega)).trans a0_w1; have v0_wb : wb.cell? ⟨g, o + nv * 3, none⟩ = some (.string x2) := (Bwb.cell (p := ⟨g, o + nv * 3, none⟩) (by omega)).trans v0_w1; clear bwb) | (go_at_call 39; refine (impl_joinParts [bFree, x1, x2, y1, y2] bSp _ 5 5 _ rfl (by omega) (by decide) (by intro y hy; simp at hy; rcases hy with rfl | rfl | rfl | rfl | rfl <;> first | decide | omega) (by exact (row_newX _ [bFree, x1, x2, y1, y2] _ rfl))).mono ?_; rintro x wj ⟨rfl, bwj⟩; have Bwj : Below w1.heap.size w1 wj := (by exact (by repeat (first | exact Below.refl _ _ | refine below_step (by assumption) (by first | omega | (simp; done) | (simp; omega)) ?_ | refine below_drewN ?_ _ | refine Below.drew ?_ | refine Below.setCell ?_ (by first | omega | (simp; done) | (simp; omega)) _ | refine Below.alloc ?_ (by first | omega | (simp; done) | (simp; omega)) _))); have zwj := Bwj.size; have c0_wj : wj.cell? ⟨w.heap.size, 0, none⟩ = some (.slice (some ⟨g, o, none⟩) k c) := (Bwj.cell (p := ⟨w.heap.size, 0, none⟩) (by omega)).trans c0_w1; have e0_wj : wj.cell? ⟨w.heap.size + 1, 0, none⟩ = some (.int .i64 nu) := (Bwj.cell (p := ⟨w.heap.size + 1, 0, none⟩) (by omega)).trans e0_w1; have e1_wj : wj.cell? ⟨w.heap.size + 1, 1, none⟩ = some (.int .i64 nv) := (Bwj.cell (p := ⟨w.heap.size + 1, 1, none⟩) (by omega)).trans e1_w1; have e2_wj : wj.cell? ⟨w.heap.size + 1, 2, none⟩ = some (.int .i64 lo) := (Bwj.cell (p := ⟨w.heap.size + 1, 2, none⟩) (by omega)).trans e2_w1; have e3_wj : wj.cell? ⟨w.heap.size + 1, 3, none⟩ = some (.int .i64 hi) := (Bwj.cell (p := ⟨w.heap.size + 1, 3, none⟩) (by omega)).trans e3_w1; have a0_wj : wj.cell? ⟨g, o + nu * 3, none⟩ = some (.string x1) := (Bwj.cell (p := ⟨g, o + nu * 3, none⟩) (by omega)).trans a0_w1; have v0_wj : wj.cell? ⟨g, o + nv * 3, none⟩ = some (.string x2) := (Bwj.cell (p := ⟨g, o + nv * 3, none⟩) (by omega)).trans v0_w1; clear bwj))
    all_goals
      go_wp2_with fail
      go_ret
      exact ⟨str_ans (by first | exact HW.out | (rw [← HW.out]; rfl)), BW1.out.trans (Bwj.mono BW1.out.size)⟩

end Go.Proofs.YtgajodcgedhikaaGreatDoor
