/-
  WALKS of the program: a literal's word, FormatLabel.
  WALKS of the program: strings.CutPrefix, strings.TrimPrefix, parseLiteral, ParseLabel.
  WALKS of the program: what each kind of line adds to a show (readHorizon, readNode, addTie, readTie, readFree).
  A REGION THAT DRAWS ITS ORDER, WHOSE FIRST n OPERATIONS YIELD ONE VALUE IN EVERY WORLD OF A CLASS (calls among them), AND WHOSE LAST ONES CAN ONLY COME ONE AFTER ANOTHER (an append, a store): one walk of the first ones at the class, then the last ones in every world of it.
-/
import Derived.Test.YtgajodcgedhikaaGreatDoorBdStP
import Derived.Test.YtgajodcgedhikaaGreatDoorBdNum
import Derived.Test.YtgajodcgedhikaaGreatDoorBdPnI
import Derived.Deep.AppendLies
import Derived.Deep.CutRange
import Derived.Test.YtgajodcgedhikaaGreatDoorBdLwM
import Derived.Deep.RegionLaw
import Derived.Deep.Cut
import Derived.Test.YtgajodcgedhikaaGreatDoorBdShB
import Derived.StillTail
namespace Go.Proofs.YtgajodcgedhikaaGreatDoor
open Go.RowKit
set_option linter.unusedVariables false
set_option linter.unusedSimpArgs false

theorem join_twoL (x y : ByteArray) : joinB [x, y] ⟨#[]⟩ = x ++ y := by
  apply ByteArray.ext; apply Array.toList_inj.1
  simp [joinB, joinTo]
theorem row_twoL (w : World) (x y : ByteArray) : RowAt (w.alloc (.cells #[.string x, .string y] 9)) (some ⟨w.heap.size, 0, none⟩) ([x, y].map Value.string) := by
  intro _
  refine ⟨w.heap.size, 0, rfl, by simp, fun j hj => ?_⟩
  have h := cell_of_row (w.alloc (.cells #[.string x, .string y] 9)) w.heap.size (0 + j) #[.string x, .string y] 9 (0, 0) (heap_alloc_new w _)
  rw [h, Nat.zero_add]
  match j, hj with
  | 0, _ => rfl
  | 1, _ => rfl
theorem pow_kept {w w' : World} (h : Pow10 w) (hb : Below w.heap.size w w') : Pow10 w' := var_kept hb h

set_option maxRecDepth 100000 in
set_option maxHeartbeats 4000000 in
theorem word_pos (x : Int) (w : World) (hx : 1 ≤ x ∧ x ≤ 3) (ht : Pow10 w) : Calls Tryz.prog 88 #[.int .i64 x] w fun e w' => e = .returned (.string (litW x)) ∧ Below w.heap.size w w' := by
  have HF := Lib.hid (impl_FormatInt x w (by omega) (by omega) ht)
  have hw : litW x = ⟨#[112]⟩ ++ numB x := by unfold litW absI; rw [if_neg (by omega), if_neg (by omega)]
  have hl : litB x = true := by unfold litB; rw [decide_eq_true (by omega), decide_eq_true (by omega), decide_eq_true (by omega)]; rfl
  have hsz := num_three hl
  rw [show absI x = x from by unfold absI; rw [if_neg (by omega)]] at hsz
  obtain ⟨nb, hnb⟩ : ∃ t, t = numB x := ⟨_, rfl⟩
  rw [← hnb] at HF hw hsz
  have HW := Lib.hid hw
  have hn : ¬ (x < 0) := by omega
  clear hw hl hnb ht hx
  go_enter Tryz.func88, Tryz.ntmps88
  go_wp2_with fail
  refine HF.out.mono ?_
  rintro e w1 ⟨rfl, b1⟩
  have hs1 := b1.size
  go_wp2_with fail
  refine (impl_joinParts [⟨#[112]⟩, nb] ⟨#[]⟩ _ 2 2 _ rfl (by omega) (by decide) (by
    intro y hy
    simp at hy
    rcases hy with rfl | rfl
    · decide
    · omega) (row_twoL w1 ⟨#[112]⟩ nb)).mono ?_
  rintro e w2 ⟨rfl, b2⟩
  have hb : Below w.heap.size w w2 := (b1.alloc b1.size _).trans (b2.mono (by simp; omega))
  rw [join_twoL]
  clear b1 b2
  go_wp2_with fail
  go_ret
  exact ⟨by rw [HW.out]; rfl, hb⟩

set_option maxRecDepth 100000 in
set_option maxHeartbeats 4000000 in
theorem word_lw (x : Int) (w : World) (hx : litB x = true) (ht : Pow10 w) : Calls Tryz.prog 88 #[.int .i64 x] w fun e w' => e = .returned (.string (litW x)) ∧ Below w.heap.size w w' := by
  have h3 := litB_of hx
  by_cases h0 : x < 0
  · have HP := Lib.hid (word_pos (-x) w (by omega) ht)
    have hw : litW x = ⟨#[33]⟩ ++ litW (-x) := by unfold litW absI; rw [if_pos h0, if_pos h0, if_neg (by omega), if_neg (by omega)]
    have hy : litB (-x) = true := by unfold litB; rw [decide_eq_true (by omega), decide_eq_true (by omega), decide_eq_true (by omega)]; rfl
    have hsz := litW_size hy
    obtain ⟨nb, hnb⟩ : ∃ t, t = litW (-x) := ⟨_, rfl⟩
    rw [← hnb] at HP hw hsz
    have HW := Lib.hid hw
    clear hw hy hnb ht hx
    go_enter Tryz.func88, Tryz.ntmps88
    go_wp2_with fail
    refine HP.out.mono ?_
    rintro e w1 ⟨rfl, b1⟩
    have hs1 := b1.size
    go_wp2_with fail
    refine (impl_joinParts [⟨#[33]⟩, nb] ⟨#[]⟩ _ 2 2 _ rfl (by omega) (by decide) (by
      intro y hy
      simp at hy
      rcases hy with rfl | rfl
      · decide
      · omega) (row_twoL w1 ⟨#[33]⟩ nb)).mono ?_
    rintro e w2 ⟨rfl, b2⟩
    have hb : Below w.heap.size w w2 := (b1.alloc b1.size _).trans (b2.mono (by simp; omega))
    rw [join_twoL]
    clear b1 b2
    go_wp2_with fail
    go_ret
    exact ⟨by rw [HW.out]; rfl, hb⟩
  · exact word_pos x w (by omega) ht

set_option maxRecDepth 100000 in
set_option maxHeartbeats 4000000 in
theorem impl_FormatLabel (l : List Int) (A : Option Addr) (k c : Nat) (w : World) (hl : l.length = k) (hk : k ≤ 1048576) (hr : RowAt w A (l.map intV)) (ht : Pow10 w) :
    Calls Tryz.prog 71 #[.slice A k c] w fun e w' => e = .returned (.string (fmtL l)) ∧ Below w.heap.size w w' := by
  obtain ⟨i1, hii, hy0, hy1, hy2⟩ := info_parts Tryz.info9
  have HOK := Lib.hid (impl_LabelOk0 l A k c w hl hk hr)
  have HR := Lib.hid hr
  have HL := Lib.hid hl
  have HT := Lib.hid ht
  clear hr hl ht
  cases hlab : labR l with
  | false =>
    have HF := Lib.hid (fmt_no hlab)
    rw [hlab] at HOK
    clear hlab
    go_enter Tryz.func71, Tryz.ntmps71
    go_wp2_with fail
    refine HOK.out.mono ?_
    rintro e w1 ⟨rfl, hw1⟩
    subst hw1
    go_wp2_with fail
    go_ret
    exact ⟨str_ans HF.out.symm, Below.refl _ _⟩
  | true =>
    have HLB := Lib.hid hlab
    rw [hlab] at HOK
    clear hlab
    by_cases h0 : k = 0
    · have HF := Lib.hid (fmt_nil HLB.out (by have := HL.out; omega))
      have hk0 : ((k : Int) == 0) = true := by simp [h0]
      clear h0
      go_enter Tryz.func71, Tryz.ntmps71
      go_wp2_with fail
      refine HOK.out.mono ?_
      rintro e w1 ⟨rfl, hw1⟩
      subst hw1
      go_wp2_with fail
      go_ret
      exact ⟨str_ans HF.out.symm, Below.refl _ _⟩
    · have HF := Lib.hid (fmt_lit HLB.out (by have := HL.out; omega))
      have hk0 : ((k : Int) == 0) = false := by simp; omega
      go_enter Tryz.func71, Tryz.ntmps71
      go_wp2_with fail
      refine HOK.out.mono ?_
      rintro e w1 ⟨rfl, hw1⟩
      subst hw1
      go_wp2_with fail
      go_loopw [14, 3] (fun i s wr => ∃ (j : Nat) (A2 : Option Addr) (d2 : Nat), j ≤ k ∧ i = .int .i64 j ∧ s = .slice A2 j d2 ∧ wr.ownsRow w.heap.size 9 1 (.slice A2 j d2) j (((l.take j).map litW).map Value.string) ∧ Below w.heap.size w wr) (fun i _ _ => k - (intOf i).toNat)
      case atStart => exact ⟨0, none, 0, Nat.zero_le _, rfl, rfl, World.ownsRow_nil _ _ _ _, Below.refl _ _⟩
      case round =>
        obtain ⟨j, A2, d2, hj, rfl, rfl, hown, hb⟩ := hrel
        have OW := Lib.hid hown
        have HB := Lib.hid hb
        clear hown hb
        by_cases hlt : j < k
        · have hjl : ((j : Int) < (k : Int)) := by omega
          obtain ⟨g, o, rfl, hg, hc⟩ := row_getB HR.out (q := j) (by have := HL.out; omega)
          have HNX := Lib.hid (litW_next (l := l) (j := j) (by have := HL.out; omega))
          obtain ⟨x, hx⟩ : ∃ x, x = l[j]'(by have := HL.out; omega) := ⟨_, rfl⟩
          have hlx : litB x = true := by rw [hx]; exact labR_lit HLB.out (List.getElem_mem _)
          rw [← hx] at hc HNX
          have x1 := (HB.out.cell (p := ⟨g, o + j, none⟩) hg).trans hc
          have HWD := Lib.hid (word_lw x wr hlx (pow_kept HT.out HB.out))
          have hws := litW_size hlx
          obtain ⟨W9, hW9⟩ : ∃ t, t = litW x := ⟨_, rfl⟩
          rw [← hW9] at HNX HWD hws
          clear hc hx hlx hW9
          go_wp2_with fail
          refine HWD.out.mono ?_
          rintro e w3 ⟨rfl, bh⟩
          have HB3 := Lib.hid (HB.out.trans (bh.mono HB.out.size))
          have OW3 := Lib.hid (own_below OW.out bh)
          have hbs := HB3.out.size
          clear bh OW HB
          go_wp2_with (at_builtin; refine wpList_append_lies _ rfl _ _ 31 rfl (w.heap.size) 9 i1 (.string ⟨#[]⟩) 1 16 Tryz.underlying31 hii hy0 hy1 hy2 rfl (by decide) _ _ _ rfl (OW3.out.alloc _) ⟨_, 0, none⟩ 1 1 _ rfl rfl (World.news_of_block (heap_newS _ _ _ (by first | rfl | simp))) (one_c1S _) (by decide) (by unfold maxLen; omega) (by omega) (by simp; omega) _ rfl ?_)
          intro g3 cap w6 ho6 hg6 hat6 hl6
          go_wp2_with fail
          go_roundw
          case rel =>
            refine ⟨j + 1, some ⟨g3, 0, none⟩, cap, by omega, by go_num, rfl, ?_, (HB3.out.alloc hbs _).grown hg6 (by simp; omega) (fun r hr => (OW3.out.lt r hr).1)⟩
            rw [HNX.out]; simpa using ho6
          case measure => simp [intOf]; omega
        · have hjl : ¬ ((j : Int) < (k : Int)) := by omega
          have ht : l.take j = l := List.take_of_length_le (by have := HL.out; omega)
          have hjk : j = k := by omega
          subst hjk
          have o9 := OW.out
          rw [ht] at o9
          have HJ := Lib.hid (fun W h => impl_joinParts (l.map litW) ⟨#[38]⟩ A2 j d2 W (by rw [List.length_map]; exact HL.out) hk (by decide) (fun y hy => by obtain ⟨z, hz, rfl⟩ := List.mem_map.1 hy; exact Nat.le_trans (litW_size (labR_lit HLB.out hz)) (by decide)) h)
          have RW := Lib.hid (own_row o9)
          clear o9 ht
          go_wp2_with fail
          refine (HJ.out _ RW.out).mono ?_
          rintro e w2 ⟨rfl, b2⟩
          have HB2 := Lib.hid (HB.out.trans (b2.mono HB.out.size))
          clear b2
          go_wp2_with fail
          go_ret
          exact ⟨str_ans HF.out.symm, HB2.out⟩

end Go.Proofs.YtgajodcgedhikaaGreatDoor

namespace Go.Proofs.YtgajodcgedhikaaGreatDoor
open Go.RowKit
set_option linter.unusedVariables false
set_option linter.unusedSimpArgs false

set_option maxRecDepth 100000 in
set_option maxHeartbeats 4000000 in
theorem hp_any (s p : ByteArray) (w : World) : Calls Tryz.prog 124 #[.string s, .string p] w fun e w' => e = .returned (.bool (hpB s p)) ∧ w = w' := by
  by_cases h : p.size ≤ s.size
  · have hv : hpB s p = ((s.extract 0 p.size).toList == p.toList) := by unfold hpB; rw [decide_eq_true h, Bool.true_and, Lib.toList_data, Lib.toList_data]
    have HV := Lib.hid hv
    have h1 : ((p.size : Int) ≤ (s.size : Int)) := by omega
    clear hv
    go_enter Tryz.func124, Tryz.ntmps124
    go_wp2
    go_ret
    exact ⟨ret_b (by rw [HV.out]), rfl⟩
  · have HV := Lib.hid (show hpB s p = false from by unfold hpB; rw [decide_eq_false h, Bool.false_and])
    have h1 : ¬ ((p.size : Int) ≤ (s.size : Int)) := by omega
    go_enter Tryz.func124, Tryz.ntmps124
    go_wp2
    go_ret
    exact ⟨ret_b HV.out.symm, rfl⟩

set_option maxRecDepth 100000 in
set_option maxHeartbeats 4000000 in
theorem cutp_lite (s p : ByteArray) (w : World) : Calls Tryz.prog 114 #[.string s, .string p] w fun e w' => e = .returned (.tuple #[.string (cutB s p), .bool (hpB s p)]) ∧ w = w' := by
  have h0 := hp_any s p w
  cases hb : hpB s p with
  | false =>
    have HC := Lib.hid (show cutB s p = s from by unfold cutB; rw [hb]; rfl)
    rw [hb] at h0
    have H0 := Lib.hid h0
    clear h0 hb
    go_enter Tryz.func114, Tryz.ntmps114
    go_wp2_with fail
    refine H0.out.mono ?_
    rintro e w1 ⟨rfl, hw1⟩
    subst hw1
    go_wp2_with fail
    refine bodyPost_ret (v := .tuple #[.string s, .bool false]) (by simp [results, Tryz.results114, go_sem]) rfl ?_
    rw [HC.out]
    exact ⟨rfl, rfl⟩
  | true =>
    have hle : p.size ≤ s.size := by unfold hpB at hb; rw [Bool.and_eq_true] at hb; exact of_decide_eq_true hb.1
    have HC := Lib.hid (show cutB s p = s.extract p.size s.size from by unfold cutB; rw [hb]; rfl)
    rw [hb] at h0
    have H0 := Lib.hid h0
    clear h0 hb
    go_enter Tryz.func114, Tryz.ntmps114
    go_wp2_with fail
    refine H0.out.mono ?_
    rintro e w1 ⟨rfl, hw1⟩
    subst hw1
    go_wp2_with fail
    refine bodyPost_ret (v := .tuple #[.string (s.extract p.size s.size), .bool true]) (by simp [results, Tryz.results114, go_sem]) rfl ?_
    rw [HC.out]
    exact ⟨rfl, rfl⟩

set_option maxRecDepth 100000 in
set_option maxHeartbeats 4000000 in
theorem cutp_any (s p : ByteArray) (w : World) : Calls Tryz.prog 103 #[.string s, .string p] w fun e w' => e = .returned (.tuple #[.string (cutB s p), .bool (hpB s p)]) ∧ w = w' := by
  have H0 := Lib.hid (cutp_lite s p w)
  obtain ⟨c, hc⟩ : ∃ c, c = cutB s p := ⟨_, rfl⟩
  obtain ⟨b, hb⟩ : ∃ b, b = hpB s p := ⟨_, rfl⟩
  rw [← hc, ← hb] at H0 ⊢
  clear hc hb
  go_enter Tryz.func103, Tryz.ntmps103
  go_wp2_with fail
  refine H0.out.mono ?_
  rintro e w1 ⟨rfl, hw1⟩
  subst hw1
  go_wp2_with fail
  refine bodyPost_ret (v := .tuple #[.string c, .bool b]) (by simp [results, Tryz.results103, go_sem]) rfl ?_
  exact ⟨rfl, rfl⟩

set_option maxRecDepth 100000 in
set_option maxHeartbeats 4000000 in
theorem trimp_lite (s p : ByteArray) (w : World) : Calls Tryz.prog 115 #[.string s, .string p] w fun e w' => e = .returned (.string (cutB s p)) ∧ w = w' := by
  have h0 := hp_any s p w
  cases hb : hpB s p with
  | false =>
    have HC := Lib.hid (show cutB s p = s from by unfold cutB; rw [hb]; rfl)
    rw [hb] at h0
    have H0 := Lib.hid h0
    clear h0 hb
    go_enter Tryz.func115, Tryz.ntmps115
    go_wp2_with fail
    refine H0.out.mono ?_
    rintro e w1 ⟨rfl, hw1⟩
    subst hw1
    go_wp2_with fail
    go_ret
    exact ⟨str_ans HC.out.symm, rfl⟩
  | true =>
    have hle : p.size ≤ s.size := by unfold hpB at hb; rw [Bool.and_eq_true] at hb; exact of_decide_eq_true hb.1
    have HC := Lib.hid (show cutB s p = s.extract p.size s.size from by unfold cutB; rw [hb]; rfl)
    rw [hb] at h0
    have H0 := Lib.hid h0
    clear h0 hb
    go_enter Tryz.func115, Tryz.ntmps115
    go_wp2_with fail
    refine H0.out.mono ?_
    rintro e w1 ⟨rfl, hw1⟩
    subst hw1
    go_wp2_with fail
    go_ret
    exact ⟨str_ans HC.out.symm, rfl⟩

set_option maxRecDepth 100000 in
set_option maxHeartbeats 4000000 in
theorem trimp_any (s p : ByteArray) (w : World) : Calls Tryz.prog 104 #[.string s, .string p] w fun e w' => e = .returned (.string (cutB s p)) ∧ w = w' := by
  have H0 := Lib.hid (trimp_lite s p w)
  go_enter Tryz.func104, Tryz.ntmps104
  go_wp2_with fail
  refine H0.out.mono ?_
  rintro e w1 ⟨rfl, hw1⟩
  subst hw1
  go_wp2_with fail
  go_ret
  exact ⟨rfl, rfl⟩

theorem cut_size (s p : ByteArray) : (cutB s p).size ≤ s.size := by
  unfold cutB
  split
  · rw [ByteArray.size_extract]; omega
  · exact Nat.le_refl _
theorem tup_ib {a b : Int} {c d : Bool} (h1 : a = b) (h2 : c = d) : Ending.returned (.tuple #[.int .i64 a, .bool c]) = .returned (.tuple #[.int .i64 b, .bool d]) := by rw [h1, h2]

set_option maxRecDepth 100000 in
set_option maxHeartbeats 4000000 in
theorem parlit_any (t : ByteArray) (w : World) (hs : t.size ≤ 1048576) (ht : Pow10 w) (he : Errs w) : Calls Tryz.prog 90 #[.string t] w fun e w' => e = .returned (.int .i64 (litP t)) ∧ Below w.heap.size w w' := by
  have h1 := cutp_any t ⟨#[33]⟩ w
  have hl : litP t = if hpB t ⟨#[33]⟩ then IntKind.i64.wrap (-((parseOf (cutB (cutB t ⟨#[33]⟩) ⟨#[112]⟩)).getD 0)) else (parseOf (cutB (cutB t ⟨#[33]⟩) ⟨#[112]⟩)).getD 0 := rfl
  obtain ⟨r, hr⟩ : ∃ r, r = cutB t ⟨#[33]⟩ := ⟨_, rfl⟩
  have hrs : r.size ≤ 1048576 := by rw [hr]; exact Nat.le_trans (cut_size _ _) hs
  rw [← hr] at h1 hl
  have h2 := trimp_any r ⟨#[112]⟩ w
  obtain ⟨u, hu⟩ : ∃ u, u = cutB r ⟨#[112]⟩ := ⟨_, rfl⟩
  have hus : u.size ≤ 1048576 := by rw [hu]; exact Nat.le_trans (cut_size _ _) hrs
  rw [← hu] at h2 hl
  have h3 := impl_ParseInt u w hus ht he
  obtain ⟨n, hn⟩ : ∃ n, n = (parseOf u).getD 0 := ⟨_, rfl⟩
  obtain ⟨ok, hok⟩ : ∃ b, b = (parseOf u).isSome := ⟨_, rfl⟩
  rw [← hn, ← hok] at h3
  rw [← hn] at hl
  obtain ⟨np, hnp⟩ : ∃ t, t = IntKind.i64.wrap (-n) := ⟨_, rfl⟩
  rw [← hnp] at hl
  have hnw : IntKind.i64.wrap (-n) = np := hnp.symm
  have H1 := Lib.hid h1
  have H2 := Lib.hid h2
  have H3 := Lib.hid h3
  have HL := Lib.hid hl
  obtain ⟨neg, hneg⟩ : ∃ b, b = hpB t ⟨#[33]⟩ := ⟨_, rfl⟩
  rw [← hneg] at H1 HL
  clear h1 h2 h3 hl hr hrs hu hus hn hok hnp hneg ht he
  cases neg with
  | false =>
    go_enter Tryz.func90, Tryz.ntmps90
    go_wp2_with fail
    refine H1.out.mono ?_
    rintro e w1 ⟨rfl, hw1⟩
    subst hw1
    go_wp2_with fail
    refine H2.out.mono ?_
    rintro e w2 ⟨rfl, hw2⟩
    subst hw2
    go_wp2_with fail
    refine H3.out.mono ?_
    rintro e w3 ⟨rfl, b3⟩
    go_wp2_with fail
    go_ret
    exact ⟨int_ans (by rw [HL.out]; rfl), b3⟩
  | true =>
    go_enter Tryz.func90, Tryz.ntmps90
    go_wp2_with fail
    refine H1.out.mono ?_
    rintro e w1 ⟨rfl, hw1⟩
    subst hw1
    go_wp2_with fail
    refine H2.out.mono ?_
    rintro e w2 ⟨rfl, hw2⟩
    subst hw2
    go_wp2_with fail
    refine H3.out.mono ?_
    rintro e w3 ⟨rfl, b3⟩
    go_wp2_with fail
    go_ret
    exact ⟨int_ans (by rw [HL.out]; rfl), b3⟩

theorem own_offL {v v' : Value} {a b c d : Nat} (h : ∀ q, v.ownBlock = some q → a ≤ q ∧ q < b) (h' : ∀ q, v'.ownBlock = some q → c ≤ q ∧ q < d) (hd : b ≤ c ∨ d ≤ a) : v.ownBlock = none ∨ v.ownBlock ≠ v'.ownBlock := by
  cases hv : v.ownBlock with
  | none => exact Or.inl rfl
  | some q =>
    refine Or.inr fun he => ?_
    have h1 := h q hv
    have h2 := h' q he.symm
    omega
theorem litP_next {ws : List ByteArray} {j : Nat} {t : ByteArray} (h : ws[j]? = some t) : (ws.take (j + 1)).map litP = (ws.take j).map litP ++ [litP t] := by
  rw [List.take_add_one, h, List.map_append]; rfl
theorem fmt_nil0 : fmtL [] = ⟨#[45]⟩ := rfl
theorem lwL_form {s : ByteArray} (h : ¬ s = ⟨#[45]⟩) {o : List Int} (ho : lwW s = o) : lwL s = if labR o = true ∧ fmtL o = s then (o, true) else ([], false) := by
  subst ho; unfold lwL; rw [if_neg h]

set_option maxRecDepth 100000 in
set_option maxHeartbeats 8000000 in
theorem impl_ParseLabel (s : ByteArray) (w : World) (hs : s.size ≤ 1048576) (ht : Pow10 w) (he : Errs w) :
    Calls Tryz.prog 75 #[.string s] w fun e w' => ∃ B q cb, e = .returned (.tuple #[.slice B q cb, .bool (parL s).2]) ∧ q = (parL s).1.length ∧ w'.ownsRow w.heap.size 3 1 (.slice B q cb) q ((parL s).1.map intV) ∧ Below w.heap.size w w' := by
  obtain ⟨i1, hii, hy0, hy1, hy2⟩ := info_parts Tryz.info3
  rw [← lw_par s]
  have hf := impl_FormatLabel [] none 0 0 w rfl (by omega) (fun h => by simp at h) ht
  rw [fmt_nil0] at hf
  obtain ⟨D, hD⟩ : ∃ D : ByteArray, D = ⟨#[45]⟩ := ⟨_, rfl⟩
  rw [← hD] at hf
  have HF := Lib.hid hf
  clear hf
  by_cases hdash : s = ⟨#[45]⟩
  · have HR0 := Lib.hid (show lwL s = ([], true) from by unfold lwL; rw [if_pos hdash])
    have hd : (s.toList == D.toList) = true := bytes_same (by rw [hD]; exact hdash)
    clear hdash hD ht he
    go_enter Tryz.func75, Tryz.ntmps75
    go_wp2_with fail
    refine HF.out.mono ?_
    rintro e w1 ⟨rfl, b1⟩
    go_wp2_with fail
    refine bodyPost_ret (v := .tuple #[.slice none 0 0, .bool true]) (by simp [results, Tryz.results75, go_sem]) rfl ?_
    rw [HR0.out]
    exact ⟨none, 0, 0, rfl, rfl, World.ownsRow_nil _ _ _ _, b1⟩
  · have hd : (s.toList == D.toList) = false := bytes_other (by rw [hD]; exact hdash)
    have HSP := Lib.hid (fun W => impl_SplitAny s ⟨#[38]⟩ W (by omega) (by decide))
    have HLF := Lib.hid (fun o h => lwL_form (s := s) hdash (o := o) h)
    have HT := Lib.hid ht
    have HE := Lib.hid he
    have hlw : lwW s = (split s ⟨#[38]⟩).map litP := rfl
    obtain ⟨ws, hws⟩ : ∃ t, t = split s ⟨#[38]⟩ := ⟨_, rfl⟩
    obtain ⟨n, hn⟩ : ∃ t, t = ws.length := ⟨_, rfl⟩
    have hn1 : n ≤ 1048577 := by rw [hn, hws]; exact Nat.le_trans (split_len _ _) (by omega)
    have hsz : ∀ x ∈ ws, x.size ≤ 1048576 := by rw [hws]; intro x hx; exact Nat.le_trans (split_sizes _ _ x hx) (by omega)
    have HSZ := Lib.hid hsz
    rw [← hws] at HSP hlw
    rw [← hn] at HSP
    have HLW := Lib.hid hlw
    have HN := Lib.hid hn
    clear hws hn hsz hlw hdash ht he hD
    go_enter Tryz.func75, Tryz.ntmps75
    go_wp2_with fail
    refine HF.out.mono ?_
    rintro e w0 ⟨rfl, b0⟩
    have B0 := Lib.hid b0
    clear b0
    go_wp2_with fail
    refine (HSP.out _).mono ?_
    rintro e w1 ⟨v, rfl, hown, bh⟩
    obtain ⟨A0, dc, rfl, hcap, _⟩ := own_form hown
    have ltw := hown.lt
    obtain ⟨e1, he1⟩ : ∃ e, e = w1.heap.size := ⟨_, rfl⟩
    rw [← he1] at ltw
    have hbs0 := bh.size
    have OS := Lib.hid hown
    have B1 := Lib.hid (B0.out.trans (bh.mono B0.out.size))
    have LTW := Lib.hid ltw
    have HE1 := Lib.hid he1
    have hwe : w.heap.size ≤ e1 := by rw [he1]; exact B1.out.size
    clear hown bh ltw HSP hcap he1
    go_wp2_with fail
    go_loopw [13, 4] (fun i sv wr => ∃ (j : Nat) (A2 : Option Addr) (d2 : Nat), j ≤ n ∧ i = .int .i64 j ∧ sv = .slice A2 j d2 ∧ wr.ownsRow e1 3 1 (.slice A2 j d2) j (((ws.take j).map litP).map intV) ∧ wr.ownsRow w0.heap.size 9 1 (.slice A0 n dc) n (ws.map Value.string) ∧ e1 ≤ wr.heap.size ∧ Below w.heap.size w wr) (fun i _ _ => n - (intOf i).toNat)
    case atStart => exact ⟨0, none, 0, Nat.zero_le _, rfl, rfl, World.ownsRow_nil _ _ _ _, OS.out, by rw [HE1.out]; exact Nat.le_refl _, B1.out⟩
    case round =>
      obtain ⟨j, A2, d2, hj, rfl, rfl, hown, hos, hes, hb⟩ := hrel
      have OW := Lib.hid hown
      have OR := Lib.hid hos
      have HB := Lib.hid hb
      clear hown hos hb
      by_cases hlt : j < n
      · have hjl : ((j : Int) < (n : Int)) := by omega
        obtain ⟨g, o', hA0, hg, hc⟩ := row_getS (own_row OR.out) (q := j) (by have := HN.out; omega)
        obtain ⟨t, ht⟩ : ∃ t, t = ws[j]'(by have := HN.out; omega) := ⟨_, rfl⟩
        rw [← ht] at hc
        have hwj : ws[j]? = some t := by rw [ht]; exact List.getElem?_eq_getElem (by have := HN.out; omega)
        have hts : t.size ≤ 1048576 := by rw [ht]; exact HSZ.out _ (List.getElem_mem _)
        have HNX := Lib.hid (litP_next hwj)
        have HPL := Lib.hid (parlit_any t wr hts (pow_kept HT.out HB.out) (HE.out.kept HB.out))
        obtain ⟨z, hz⟩ : ∃ z, z = litP t := ⟨_, rfl⟩
        rw [← hz] at HNX HPL
        subst hA0
        have x1 := hc
        clear hc ht hwj hz hts
        go_wp2_with fail
        refine HPL.out.mono ?_
        rintro e w2 ⟨rfl, bh⟩
        have HB2 := Lib.hid (HB.out.trans (bh.mono HB.out.size))
        have OW2 := Lib.hid (own_below OW.out bh)
        have OR2 := Lib.hid (own_below OR.out bh)
        have hes2 : e1 ≤ w2.heap.size := Nat.le_trans hes bh.size
        have hbs := HB2.out.size
        have HOF := Lib.hid (own_offL (v := .slice (some ⟨g, o', none⟩) n dc) (v' := .slice A2 j d2) LTW.out OW2.out.lt (.inl (Nat.le_refl _)))
        clear bh OW OR
        go_wp2_with (at_builtin; refine wpList_append_lies _ rfl _ _ 36 rfl e1 3 i1 (.int .i64 0) 1 8 Tryz.underlying36 hii hy0 hy1 hy2 rfl (by decide) _ _ _ rfl (OW2.out.alloc _) ⟨_, 0, none⟩ 1 1 _ rfl rfl (World.news_of_block (heap_newS _ _ _ (by first | rfl | simp))) (one_c1T _) (by decide) (by unfold maxLen; omega) (by omega) (by simp; omega) _ rfl ?_)
        intro g3 cap w6 ho6 hg6 hat6 hl6
        go_wp2_with fail
        go_roundw
        case rel =>
          refine ⟨j + 1, some ⟨g3, 0, none⟩, cap, by omega, by go_num, rfl, by rw [HNX.out, List.map_append]; simpa [intV] using ho6, (OR2.out.alloc _).kept hg6 HOF.out, ?_, (HB2.out.alloc hbs _).grown hg6 (by simp; omega) (fun r hr => Nat.le_trans hwe (OW2.out.lt r hr).1)⟩
          have h7 := hg6.size; (try simp only [World.alloc, Array.size_push] at h7); (try simp at h7); omega
        case measure => simp [intOf]; omega
      · have hjl : ¬ ((j : Int) < (n : Int)) := by omega
        have hjn : j = n := by omega
        subst hjn
        have htk : ws.take j = ws := List.take_of_length_le (by have := HN.out; omega)
        have o9 := OW.out
        rw [htk] at o9
        obtain ⟨o, ho⟩ : ∃ o, o = ws.map litP := ⟨_, rfl⟩
        rw [← ho] at o9
        have hol : o.length = j := by rw [ho, List.length_map]; exact HN.out.symm
        have HPL := Lib.hid (HLF.out o (by rw [HLW.out]; exact ho.symm))
        have OW9 := Lib.hid o9
        have HOK := Lib.hid (impl_LabelOkB o A2 j d2 wr hol (by omega) (own_row o9))
        have HOL := Lib.hid hol
        have HFM := Lib.hid (fun (h3 : j ≤ 3) => impl_FormatLabel o A2 j d2 wr hol (by omega) (own_row o9) (pow_kept HT.out HB.out))
        clear hol ho o9 htk
        cases hlab : labR o with
        | false =>
          have HR0 := Lib.hid (show lwL s = ([], false) from by rw [HPL.out, if_neg (fun h => by rw [hlab] at h; exact absurd h.1 (by simp))])
          rw [hlab] at HOK
          clear hlab
          go_wp2_with fail
          refine HOK.out.mono ?_
          rintro e w2 ⟨rfl, hw2⟩
          subst hw2
          go_wp2_with fail
          refine bodyPost_ret (v := .tuple #[.slice none 0 0, .bool false]) (by simp [results, Tryz.results75, go_sem]) rfl ?_
          rw [HR0.out]
          exact ⟨none, 0, 0, rfl, rfl, World.ownsRow_nil _ _ _ _, HB.out⟩
        | true =>
          have HF3 := Lib.hid (HFM.out (by have := labR_len hlab; have := HOL.out; omega))
          rw [hlab] at HOK
          by_cases hfm : fmtL o = s
          · have HR0 := Lib.hid (show lwL s = (o, true) from by rw [HPL.out, if_pos ⟨hlab, hfm⟩])
            have hq := bytes_same hfm
            clear hlab hfm
            go_wp2_with fail
            refine HOK.out.mono ?_
            rintro e w2 ⟨rfl, hw2⟩
            subst hw2
            go_wp2_with fail
            refine HF3.out.mono ?_
            rintro e w3 ⟨rfl, bh⟩
            have OW3 := Lib.hid (own_base (own_below OW9.out bh) hwe)
            have HB3 := Lib.hid (HB.out.trans (bh.mono HB.out.size))
            clear bh
            go_wp2_with fail
            refine bodyPost_ret (v := .tuple #[.slice A2 j d2, .bool true]) (by simp [results, Tryz.results75, go_sem]) rfl ?_
            rw [HR0.out]
            exact ⟨A2, j, d2, rfl, HOL.out.symm, OW3.out, HB3.out⟩
          · have HR0 := Lib.hid (show lwL s = ([], false) from by rw [HPL.out, if_neg (fun h => hfm h.2)])
            have hq := bytes_other hfm
            clear hlab hfm
            go_wp2_with fail
            refine HOK.out.mono ?_
            rintro e w2 ⟨rfl, hw2⟩
            subst hw2
            go_wp2_with fail
            refine HF3.out.mono ?_
            rintro e w3 ⟨rfl, bh⟩
            have HB3 := Lib.hid (HB.out.trans (bh.mono HB.out.size))
            clear bh
            go_wp2_with fail
            refine bodyPost_ret (v := .tuple #[.slice none 0 0, .bool false]) (by simp [results, Tryz.results75, go_sem]) rfl ?_
            rw [HR0.out]
            exact ⟨none, 0, 0, rfl, rfl, World.ownsRow_nil _ _ _ _, HB3.out⟩

end Go.Proofs.YtgajodcgedhikaaGreatDoor

namespace Go.Proofs.YtgajodcgedhikaaGreatDoor
open Go.RowKit
set_option linter.unusedVariables false
set_option linter.unusedSimpArgs false

/-- A line's words, handed by value. -/
def waV (ws : List ByteArray) : Value := .agg #[.string (wAt ws 0), .string (wAt ws 1), .string (wAt ws 2), .string (wAt ws 3), .string (wAt ws 4)]
theorem errs_kept {w w' : World} (h : Errs w) (hb : Below w.heap.size w w') : Errs w' := h.kept hb
theorem own_drewY {w : World} {B e s n : Nat} {v : Value} {xs : List Value} (h : w.ownsRow B e s v n xs) : w.drew.ownsRow B e s v n xs := h
theorem heap_newY (w : World) (o : Obj) (g : Nat) (h : g = w.heap.size) : (w.alloc o).heap[g]? = some o := by rw [h]; exact heap_alloc_new w o
theorem heap_newYd (w : World) (o : Obj) (g : Nat) (h : g = w.heap.size) : ((w.alloc o).drew).heap[g]? = some o := heap_newY w o g h

set_option maxRecDepth 100000 in
set_option maxHeartbeats 8000000 in
theorem read_horizon (ws : List ByteArray) (b hi : Nat) (s : GS) (A : Option Addr) (k c : Nat) (B : Option Addr) (m d : Nat) (zs : List NL) (w : World) (hsz : ∀ x ∈ ws, x.size ≤ 1048576) (hr : RdS w b hi s A k c B m d zs) (h1 : b < hi) (h2 : hi ≤ w.heap.size) (hp : Pow10 w) (he : Errs w) :
    Calls Tryz.prog 58 #[.pointer (some ⟨b, 0, none⟩), waV ws] w fun e w' => e = .returned (.tuple #[]) ∧ RdAt w w' b hi (prH s ws) := by
  have HPI := Lib.hid (fun W hq hr => impl_ParseInt (wAt ws 1) W (wAt_size hsz 1) hq hr)
  have HV : Hid (prH s ws = ⟨s.ns, s.ts, (parseOf (wAt ws 1)).getD 0⟩) := Lib.hid rfl
  unfold waV
  generalize wAt ws 0 = x0
  generalize wAt ws 2 = x2
  generalize wAt ws 3 = x3
  generalize wAt ws 4 = x4
  obtain ⟨n, hn⟩ : ∃ n, n = (parseOf (wAt ws 1)).getD 0 := ⟨_, rfl⟩
  rw [← hn] at HPI HV
  obtain ⟨q, hq⟩ : ∃ q, q = (parseOf (wAt ws 1)).isSome := ⟨_, rfl⟩
  rw [← hq] at HPI
  obtain ⟨x1, hx1⟩ : ∃ x, x = wAt ws 1 := ⟨_, rfl⟩
  rw [← hx1] at HPI
  rw [← hx1]
  obtain ⟨w1, hw1⟩ : ∃ W, W = w.alloc (.cells #[.string x0, .string x1, .string x2, .string x3, .string x4] 62) := ⟨_, rfl⟩
  have B_w1 : Below w.heap.size w w1 := by rw [hw1]; exact (Below.refl _ _).alloc (Nat.le_refl _) _
  have a1_w1 : w1.cell? ⟨w.heap.size, 1, none⟩ = some (.string x1) := by rw [hw1]; go_simp
  have R1 := Lib.hid (hr.below B_w1)
  have HP := Lib.hid (pow_kept hp B_w1)
  have HE := Lib.hid (errs_kept he B_w1)
  have BW1 := Lib.hid B_w1
  have HW1 := Lib.hid hw1
  have z1 := B_w1.size
  clear hw1 B_w1 hr hp he hn hq hx1 hsz
  go_enter Tryz.func58, Tryz.ntmps58
  go_upto_region 1 with (fail)
  rw [← HW1.out]
  clear HW1
  go_wp2_with fail
  refine (HPI.out _ HP.out HE.out).mono ?_
  rintro e w2 ⟨rfl, b2⟩
  have R2 := Lib.hid (R1.out.below b2)
  have B2 := Lib.hid (BW1.out.trans (b2.mono BW1.out.size))
  have z2 := b2.size
  clear b2
  obtain ⟨s0, s1, s2, f0, f1, f2⟩ := R2.out.box
  have sl := R2.out.box.lt
  go_wp2_with fail
  go_end0
  exact ⟨rfl, by rw [HV.out]; exact (R2.out.horizon h1 (by omega) n).from B2.out⟩

set_option maxRecDepth 100000 in
set_option maxHeartbeats 16000000 in
theorem read_node (ws : List ByteArray) (b hi : Nat) (s : GS) (A : Option Addr) (k c : Nat) (B : Option Addr) (m d : Nat) (zs : List NL) (w : World) (hsz : ∀ x ∈ ws, x.size ≤ 1048576) (hk : k ≤ 1000) (hr : RdS w b hi s A k c B m d zs) (h1 : b < hi) (h2 : hi ≤ w.heap.size) (hp : Pow10 w) (he : Errs w) :
    Calls Tryz.prog 59 #[.pointer (some ⟨b, 0, none⟩), waV ws] w fun e w' => e = .returned (.tuple #[]) ∧ RdAt w w' b hi (prN s ws) := by
  obtain ⟨i0, hii, hz0, hz1, hz2⟩ := info_parts Tryz.info38
  have HPL := Lib.hid (fun W hq hr => impl_ParseLabel (wAt ws 2) W (wAt_size hsz 2) hq hr)
  have HPI := Lib.hid (fun W hq hr => impl_ParseInt (wAt ws 4) W (wAt_size hsz 4) hq hr)
  have HV : Hid (prN s ws = ⟨s.ns ++ [⟨wAt ws 1, (parL (wAt ws 2)).1, (parseOf (wAt ws 4)).getD 0⟩], s.ts, s.h⟩) := Lib.hid rfl
  have hlab := parL_len3 (wAt ws 2)
  unfold waV
  generalize wAt ws 0 = x0
  generalize wAt ws 3 = x3
  obtain ⟨n, hn⟩ : ∃ n, n = (parseOf (wAt ws 4)).getD 0 := ⟨_, rfl⟩
  rw [← hn] at HPI HV
  obtain ⟨q, hq⟩ : ∃ q, q = (parseOf (wAt ws 4)).isSome := ⟨_, rfl⟩
  rw [← hq] at HPI
  obtain ⟨lab, hl⟩ : ∃ l, l = (parL (wAt ws 2)).1 := ⟨_, rfl⟩
  rw [← hl] at HPL HV hlab
  obtain ⟨q2, hq2⟩ : ∃ q, q = (parL (wAt ws 2)).2 := ⟨_, rfl⟩
  rw [← hq2] at HPL
  obtain ⟨x1, hx1⟩ : ∃ x, x = wAt ws 1 := ⟨_, rfl⟩
  rw [← hx1] at HV
  rw [← hx1]
  obtain ⟨x2, hx2⟩ : ∃ x, x = wAt ws 2 := ⟨_, rfl⟩
  rw [← hx2] at HPL
  rw [← hx2]
  obtain ⟨x4, hx4⟩ : ∃ x, x = wAt ws 4 := ⟨_, rfl⟩
  rw [← hx4] at HPI
  rw [← hx4]
  obtain ⟨w1, hw1⟩ : ∃ W, W = w.alloc (.cells #[.string x0, .string x1, .string x2, .string x3, .string x4] 62) := ⟨_, rfl⟩
  have B_w1 : Below w.heap.size w w1 := by rw [hw1]; exact (Below.refl _ _).alloc (Nat.le_refl _) _
  have a1_w1 : w1.cell? ⟨w.heap.size, 1, none⟩ = some (.string x1) := by rw [hw1]; go_simp
  have a2_w1 : w1.cell? ⟨w.heap.size, 2, none⟩ = some (.string x2) := by rw [hw1]; go_simp
  have a4_w1 : w1.cell? ⟨w.heap.size, 4, none⟩ = some (.string x4) := by rw [hw1]; go_simp
  have z1 : w.heap.size < w1.heap.size := by rw [hw1]; simp
  have R1 := Lib.hid (hr.below B_w1)
  have HP := Lib.hid (pow_kept hp B_w1)
  have HE := Lib.hid (errs_kept he B_w1)
  have BW1 := Lib.hid B_w1
  have HW1 := Lib.hid hw1
  clear hw1 B_w1 hr hp he hn hq hl hq2 hx1 hx2 hx4 hsz
  go_enter Tryz.func59, Tryz.ntmps59
  go_upto_region 1 with (fail)
  rw [← HW1.out]
  clear HW1
  go_wp2_with fail
  refine (HPL.out _ HP.out HE.out).mono ?_
  rintro e w2 ⟨L, ql, cl, rfl, hql, hol, b2⟩
  have R2 := Lib.hid (R1.out.below b2)
  have OL2 := Lib.hid hol
  have HQL := Lib.hid hql
  have B2 := Lib.hid b2
  have z2 := b2.size
  have a1_w2 := (b2.cell (p := ⟨w.heap.size, 1, none⟩) z1).trans a1_w1
  have a4_w2 := (b2.cell (p := ⟨w.heap.size, 4, none⟩) z1).trans a4_w1
  clear b2 hol hql a1_w1 a2_w1 a4_w1
  go_wp2_with fail
  refine (HPI.out _ (pow_kept HP.out B2.out) (errs_kept HE.out B2.out)).mono ?_
  rintro e w3 ⟨rfl, b3⟩
  have R3 := Lib.hid (R2.out.below b3)
  have OL3 := Lib.hid (own_below OL2.out b3)
  have B3 := Lib.hid (BW1.out.trans ((B2.out.trans (b3.mono z2)).mono BW1.out.size))
  have z3 := b3.size
  have a1_w3 := (b3.cell (p := ⟨w.heap.size, 1, none⟩) (Nat.lt_of_lt_of_le z1 z2)).trans a1_w2
  clear b3 a1_w2 a4_w2 R1 R2 OL2 B2
  obtain ⟨s0, s1, s2, f0, f1, f2⟩ := R3.out.box
  have sl := R3.out.box.lt
  have zw3 : w.heap.size < w3.heap.size := by omega
  have hkz := own_count R3.out.own.nodes.row
  have HKZ := Lib.hid hkz
  have OR3 : Hid (w3.ownsRow (b + 1) 38 3 (.slice A k c) k (cellsZ zs)) := Lib.hid (by have h9 := R3.out.own.nodes.row; rw [← hkz] at h9; exact h9)
  have HZ3 : Hid (w3.ownsRow (b + 1) 3 1 (NL.V ⟨⟨x1, lab, n⟩, L, cl⟩) lab.length (lab.map intV)) := Lib.hid (by have h9 := OL3.out; rw [HQL.out] at h9; exact own_base h9 (by omega))
  have HZN : Hid (∀ q, (NL.V ⟨⟨x1, lab, n⟩, L, cl⟩).ownBlock = some q → hi ≤ q) := Lib.hid (fun q h9 => by have h8 := OL3.out; rw [HQL.out] at h8; have := (h8.lt q h9).1; omega)
  have HB3 := Lib.hid (show b + 1 ≤ w3.heap.size from by omega)
  clear hkz OL3
  go_upto_region 3 with (fail)
  go_region_law (first | (refine step_append_lies _ rfl _ _ 22 rfl (b + 1) 38 i0 (.agg #[.string ⟨#[]⟩, .slice none 0 0, .int .i64 0]) 3 48 Tryz.underlying22 hii hz0 hz1 hz2 rfl (by decide) _ _ _ rfl (by first | exact (own_drewY OR3.out).alloc _ | exact OR3.out.alloc _ | exact own_drewY (OR3.out.alloc _)) ⟨_, 0, none⟩ 1 1 [.string x1, .slice L ql cl, .int .i64 n] rfl rfl (World.news_of_block (by first | exact heap_newY _ _ _ (by first | rfl | (simp; done)) | exact heap_newYd _ _ _ (by first | rfl | (simp; done)))) (one_c3N _ _ _ _ _) (by decide) (by unfold maxLen; omega) (by omega) (by first | omega | (simp; omega)) _ rfl ?_; intro g3 cap w6 ho6 hg6 hat6 hl6; have D6 := Lib.hid (RdS.node (z := ⟨⟨x1, lab, n⟩, L, cl⟩) (by first | with_reducible exact R3.out.alloc _ | with_reducible exact R3.out.drew.alloc _ | with_reducible exact (R3.out.alloc _).drew) h1 (by first | omega | (simp; omega)) (by first | with_reducible exact HZ3.out.alloc _ | with_reducible exact (own_drewY HZ3.out).alloc _ | with_reducible exact own_drewY (HZ3.out.alloc _)) HZN.out hg6 (by rw [cellsZ_append]; have h9 := ho6; rw [HQL.out] at h9; exact h9) (hat6.imp id (fun h9 => by rw [h9]; simp))); have X6 := RdS.boxN (by first | with_reducible exact R3.out.alloc _ | with_reducible exact R3.out.drew.alloc _ | with_reducible exact (R3.out.alloc _).drew) hg6; obtain ⟨s0z, s1z, s2z, f0z, f1z, f2z⟩ := X6; have hl6z := Nat.lt_of_lt_of_le (show b < w3.heap.size by omega) (show w3.heap.size ≤ w6.heap.size from Nat.le_trans (by first | (simp; done) | omega | (simp; omega)) hg6.size); clear ho6 hg6 hat6 hl6))
  all_goals
    go_wp2_with fail
    go_end0
    have b3z := B3.out
    exact ⟨rfl, by rw [HV.out]; exact RdAt.from D6.out (by repeat (first | exact Below.refl _ _ | refine below_step (by assumption) (by first | omega | (simp; done) | (simp; omega)) ?_ | refine below_drewN ?_ _ | refine Below.drew ?_ | refine Below.setCell ?_ (by first | omega | (simp; done) | (simp; omega)) _ | refine Below.alloc ?_ (by first | omega | (simp; done) | (simp; omega)) _))⟩

end Go.Proofs.YtgajodcgedhikaaGreatDoor

namespace Go.Proofs.YtgajodcgedhikaaGreatDoor
set_option linter.unusedVariables false

section
variable {P : Program} {ops : Array Oper} {md : Region.Mode} {C : World → Prop}

/-- f of the first n operations are to come, in whatever order; behind them L. -/
def headW (P : Program) (md : Region.Mode) (ops : Array Oper) (C : World → Prop) (n : Nat) (L : Array Bool → Act → Prop) : Nat → Array Bool → Act → Prop
  | 0, u, a => L u a
  | f + 1, u, a => Region.ready md ops u ≠ [] ∧ ∀ i ∈ Region.ready md ops u, i < n ∧ qOp P ops C i (headW P md ops C n L f (u.setIfInBounds i true)) a

theorem headW_any {n g : Nat} {L : Array Bool → Act → Prop} {R : Exit → Act → World → Prop} (hL : ∀ u a w, C w → L u a → wpAny P md ops R g u a w) (f : Nat) :
    ∀ (u : Array Bool) (a : Act) (w : World), C w → headW P md ops C n L f u a → wpAny P md ops R (f + g) u a w := by
  induction f with
  | zero => intro u a w hw h; rw [Nat.zero_add]; exact hL u a w hw h
  | succ f ih =>
    intro u a w hw h
    obtain ⟨h0, h1⟩ := h
    rw [show f + 1 + g = (f + g) + 1 from by omega]
    exact ⟨fun e => absurd e h0, fun i hi => wpOp_of_qOp hw (fun a' w' hw' k => ih _ a' w' hw' k) (h1 i hi).2⟩

/-- The operation that is next in the text may be taken first. -/
theorem headW_take {n i : Nat} {x : Oper} {v : Value} {L : Array Bool → Act → Prop} (hx : ops[i]? = some x) (hsel : ∀ (j : Nat) (o : Oper) cs b, ops[j]? = some o → o.op ≠ .select cs b)
    (hs : Region.sinkB md ops n = true) (hc : Region.chainB md ops n = true) (hn : n < ops.size) (hin : i < n) (hend : ∀ u a, L u a → ∀ j ∈ Region.ready md ops u, n ≤ j) (f : Nat) :
    ∀ (u : Array Bool) (a : Act), HeadInv md ops n u →
      (∀ j y, ops[j]? = some y → j ≠ i → u.getD j true = false → (∀ e ∈ y.after, Region.binds md e = true → e.on ≠ i) → x.apart ops y = true) →
      i ∈ Region.ready md ops u → YieldsIn P ops C x v a →
      headW P md ops C n L f (u.setIfInBounds i true) (a.put x.dst v) → headW P md ops C n L (f + 1) u a := by
  induction f with
  | zero =>
    intro u a inv _ hr hy H
    have hun := (mem_ready.1 hr).1
    refine ⟨fun e => (by rw [e] at hr; cases hr), fun j hj => ?_⟩
    have hjn : j < n := Nat.lt_of_not_le fun h => tail_waits hs hc hn inv _ i rfl hin hun j h hj
    refine ⟨hjn, ?_⟩
    by_cases hji : j = i
    · subst hji; exact hy.qOp hx H
    · exact absurd (hend _ _ H j (ready_mono hj hji)) (by omega)
  | succ f ih =>
    intro u a inv hfr hr hy H
    have hun := (mem_ready.1 hr).1
    refine ⟨fun e => (by rw [e] at hr; cases hr), fun j hj => ?_⟩
    have hjn : j < n := Nat.lt_of_not_le fun h => tail_waits hs hc hn inv _ i rfl hin hun j h hj
    refine ⟨hjn, ?_⟩
    by_cases hji : j = i
    · subst hji; exact hy.qOp hx H
    · obtain ⟨hju, y, hyj, hall⟩ := mem_ready.1 hj
      have hno : ∀ e ∈ y.after, Region.binds md e = true → e.on ≠ i := fun e he hb heq => by
        have h9 := hall e he hb
        rw [heq, getD_both hun] at h9
        cases h9
      have hq := qOp_put hyj (hfr j y hyj hji hju hno) (fun cs b => hsel i x cs b hx) (fun cs b => hsel j y cs b hyj) hy (H.2 j (ready_mono hj hji)).2
      refine qOp_mono (fun b hb => ih (u.setIfInBounds j true) b (inv.set hj hjn) (fun k z hk hki hku hkn => hfr k z hk hki ?_ hkn) (ready_mono hr (Ne.symm hji)) hb.1 ?_) hq
      · by_cases hjk : j = k
        · subst hjk; exact hju
        · rw [getD_set_ne true hjk] at hku; exact hku
      · rw [Array.setIfInBounds_comm _ _ hji]; exact hb.2

theorem headW_lex {n g : Nat} {K : Act → Prop} (hsel : Region.noSelect ops = true) (hs : Region.sinkB md ops n = true) (hc : Region.chainB md ops n = true) (hn : n < ops.size) (l : List Oper) :
    ∀ (k : Nat) (u : Array Bool) (a : Act), (∀ j, j < l.length → l[j]? = ops[k + j]?) → k + l.length = n → HeadInv md ops n u → Region.lexHead md ops g l.length k u = true → wpQuiet P ops C K l a →
    headW P md ops C n (fun u' a' => Region.seqB md ops g n u' = true ∧ K a') l.length u a := by
  induction l with
  | nil =>
    intro k u a _ hk _ hB h
    obtain rfl : k = n := by simpa using hk
    exact ⟨by simpa [Region.lexHead] using hB, h⟩
  | cons o l ih =>
    intro k u a hl hk inv hB h
    have h0 : ops[k]? = some o := by simpa using (hl 0 (by simp)).symm
    simp only [List.length_cons, Region.lexHead, Bool.and_eq_true] at hB hk
    obtain ⟨⟨hr, hf⟩, hB2⟩ := hB
    have hkn : k < n := by omega
    have hr2 : k ∈ Region.ready md ops u := by simpa using hr
    obtain ⟨v, hy, hK⟩ := yieldsIn_of_qOp h0 (show qOp P ops C k (wpQuiet P ops C K l) a from by unfold qOp; simp only [h0]; exact h)
    refine headW_take h0 (Region.noSelect_spec hsel) hs hc hn hkn (fun u' a' hL => seqB_ready hL.1) l.length u a inv (Region.free_spec h0 hf) hr2 hy ?_
    exact ih (k + 1) _ _ (fun j hj => by have := hl (j + 1) (by simp; omega); simpa [Nat.add_assoc, Nat.add_comm 1 j] using this) (by omega) (inv.set hr2 hkn) hB2 hK

theorem region_tail {id : Nat} {Q : Exit → Act → World → Prop} {a : Act} {w : World} {l : List Oper} (n : Nat) (hm : P.follows .mixedOrders = true) (hB : Region.lexTailB .any l.toArray n = true) (hC : C w.drew)
    (h : wpQuiet P l.toArray C (fun a' => ∀ w', C w' → wpList P l.toArray Q (l.drop n) a' w') (l.take n) a) : (Code.region id l.toArray true).wp P Q a w := by
  simp only [Region.lexTailB, Bool.and_eq_true, decide_eq_true_eq] at hB
  obtain ⟨⟨⟨⟨hsel, hn⟩, hs⟩, hc⟩, hlex⟩ := hB
  have hn2 : n < l.length := by simpa using hn
  have htl : (l.take n).length = n := by simp; omega
  have hdl : (l.drop n).length = l.toArray.size - n := by simp
  have inv0 : HeadInv .any l.toArray n (Array.replicate l.toArray.size false) :=
    ⟨by simp, fun j y _ hl => (by rw [getD_replicate_false] at hl; cases hl), fun t _ ht => getD_in (by simpa using ht) (getD_replicate_false _ _)⟩
  have H := headW_lex (md := .any) (g := l.toArray.size - n) hsel hs hc hn (l.take n) 0 _ a (fun j hj => by
    have hj2 : j < n := by rw [htl] at hj; exact hj
    simp [hj2]) (by simpa using htl) inv0 (by rw [htl]; exact hlex) h
  refine wp_region_any hm ?_
  have T := headW_any (R := Q) (g := l.toArray.size - n) (fun u a' w' hw' hL => by
    have := wpAny_of_seq (md := .any) (Q' := Q) (l.drop n) n u a' w' (fun j => by simp [List.getElem?_drop]) (by rw [hdl]; exact hL.1) (hL.2 w' hw')
    rwa [hdl] at this) _ _ a _ hC H
  rw [htl, show n + (l.toArray.size - n) = l.toArray.size from by omega] at T
  exact T
end

/-- The same at a class given by a structure. -/
theorem region_wct {P : Program} (C : World → Prop) (n : Nat) {id : Nat} {Q : Exit → Act → World → Prop} {a : Act} {w : World} {l : List Oper} (hm : P.follows .mixedOrders = true) (hB : Region.lexTailB .any l.toArray n = true) (hC : C w.drew)
    (h : wpQuiet P l.toArray (fun w' => ∃ x : WC C, w' = x.w) (fun a' => ∀ w', (∃ x : WC C, w' = x.w) → wpList P l.toArray Q (l.drop n) a' w') (l.take n) a) : (Code.region id l.toArray true).wp P Q a w :=
  region_tail (C := fun w' => ∃ x : WC C, w' = x.w) n hm hB ⟨⟨_, hC⟩, rfl⟩ h

end Go.Proofs.YtgajodcgedhikaaGreatDoor
