/-
  WALKS of the program: a literal's word, FormatLabel.
  WALKS of the program: strings.CutPrefix, strings.TrimPrefix, parseLiteral, ParseLabel.
  What the listed error values give.
  The contracts of the program's functions of labels, on the door.
  WALKS of the draws: l01New, l01Byte, l01Below, l01Str: what is drawn lies in its range; a draw writes into its own cursor alone.
  DOOR: the walks of spec.l07Draw and spec.MakeLabel: what is drawn is one of the 27 labels drL.
  A slice of bytes that comes in.
-/
import Derived.Test.YtaokabkffnjbjaaDoorBdLbS
import Derived.Test.YtaokabkffnjbjaaDoorBdNum
import Derived.Test.YtaokabkffnjbjaaDoorBdWords
import Derived.Deep.AppendLies
import Derived.Deep.CutRange
import Derived.Test.YtaokabkffnjbjaaDoorBdLwJ
import Derived.Stop.LaidErr
import Derived.LaidLaws
import Derived.Test.YtaokabkffnjbjaaDoorProg
import Derived.Test.YtaokabkffnjbjaaDoorBdDig
import Derived.Laws.BitsAllLaws
import Derived.Laws.BitsLemmas
import Derived.Deep.QuietTactic
import Derived.BigQuiet
import Derived.ProofKit
namespace Go.Proofs.YtaokabkffnjbjaaDoor
open Go.RowKit
set_option linter.unusedVariables false
set_option linter.unusedSimpArgs false

theorem join_twoL (x y : ByteArray) : joinB [x, y] ⟨#[]⟩ = x ++ y := by
  apply ByteArray.ext; apply Array.toList_inj.1
  simp [joinB, joinTo]
theorem row_twoL (w : World) (x y : ByteArray) : RowAt (w.alloc (.cells #[.string x, .string y] 9)) (some ⟨w.heap.size, 0, none⟩) ([x, y].map Value.string) := by
  intro _
  refine ⟨w.heap.size, 0, rfl, by simp, fun j hj => ?_⟩
  have h := cell_of_row (w.alloc (.cells #[.string x, .string y] 9)) w.heap.size (0 + j) #[.string x, .string y] 9 (0, 0) (heap_alloc_new w _)
  rw [h, Nat.zero_add]
  match j, hj with
  | 0, _ => rfl
  | 1, _ => rfl
theorem pow_kept {w w' : World} (h : Pow10 w) (hb : Below w.heap.size w w') : Pow10 w' := var_kept hb h

set_option maxRecDepth 100000 in
set_option maxHeartbeats 4000000 in
theorem word_pos (x : Int) (w : World) (hx : 1 ≤ x ∧ x ≤ 3) (ht : Pow10 w) : Calls Tryd.prog 26 #[.int .i64 x] w fun e w' => e = .returned (.string (litW x)) ∧ Below w.heap.size w w' := by
  have HF := Lib.hid (impl_FormatInt x w (by omega) (by omega) ht)
  have hw : litW x = ⟨#[112]⟩ ++ numB x := by unfold litW absI; rw [if_neg (by omega), if_neg (by omega)]
  have hl : litB x = true := by unfold litB; rw [decide_eq_true (by omega), decide_eq_true (by omega), decide_eq_true (by omega)]; rfl
  have hsz := num_three hl
  rw [show absI x = x from by unfold absI; rw [if_neg (by omega)]] at hsz
  obtain ⟨nb, hnb⟩ : ∃ t, t = numB x := ⟨_, rfl⟩
  rw [← hnb] at HF hw hsz
  have HW := Lib.hid hw
  have hn : ¬ (x < 0) := by omega
  clear hw hl hnb ht hx
  go_enter Tryd.func26, Tryd.ntmps26
  go_wp2_with fail
  refine HF.out.mono ?_
  rintro e w1 ⟨rfl, b1⟩
  have hs1 := b1.size
  go_wp2_with fail
  refine (impl_joinParts [⟨#[112]⟩, nb] ⟨#[]⟩ _ 2 2 _ rfl (by omega) (by decide) (by
    intro y hy
    simp at hy
    rcases hy with rfl | rfl
    · decide
    · omega) (row_twoL w1 ⟨#[112]⟩ nb)).mono ?_
  rintro e w2 ⟨rfl, b2⟩
  have hb : Below w.heap.size w w2 := (b1.alloc b1.size _).trans (b2.mono (by simp; omega))
  rw [join_twoL]
  clear b1 b2
  go_wp2_with fail
  go_ret
  exact ⟨by rw [HW.out]; rfl, hb⟩

set_option maxRecDepth 100000 in
set_option maxHeartbeats 4000000 in
theorem word_lw (x : Int) (w : World) (hx : litB x = true) (ht : Pow10 w) : Calls Tryd.prog 26 #[.int .i64 x] w fun e w' => e = .returned (.string (litW x)) ∧ Below w.heap.size w w' := by
  have h3 := litB_of hx
  by_cases h0 : x < 0
  · have HP := Lib.hid (word_pos (-x) w (by omega) ht)
    have hw : litW x = ⟨#[33]⟩ ++ litW (-x) := by unfold litW absI; rw [if_pos h0, if_pos h0, if_neg (by omega), if_neg (by omega)]
    have hy : litB (-x) = true := by unfold litB; rw [decide_eq_true (by omega), decide_eq_true (by omega), decide_eq_true (by omega)]; rfl
    have hsz := litW_size hy
    obtain ⟨nb, hnb⟩ : ∃ t, t = litW (-x) := ⟨_, rfl⟩
    rw [← hnb] at HP hw hsz
    have HW := Lib.hid hw
    clear hw hy hnb ht hx
    go_enter Tryd.func26, Tryd.ntmps26
    go_wp2_with fail
    refine HP.out.mono ?_
    rintro e w1 ⟨rfl, b1⟩
    have hs1 := b1.size
    go_wp2_with fail
    refine (impl_joinParts [⟨#[33]⟩, nb] ⟨#[]⟩ _ 2 2 _ rfl (by omega) (by decide) (by
      intro y hy
      simp at hy
      rcases hy with rfl | rfl
      · decide
      · omega) (row_twoL w1 ⟨#[33]⟩ nb)).mono ?_
    rintro e w2 ⟨rfl, b2⟩
    have hb : Below w.heap.size w w2 := (b1.alloc b1.size _).trans (b2.mono (by simp; omega))
    rw [join_twoL]
    clear b1 b2
    go_wp2_with fail
    go_ret
    exact ⟨by rw [HW.out]; rfl, hb⟩
  · exact word_pos x w (by omega) ht

set_option maxRecDepth 100000 in
set_option maxHeartbeats 4000000 in
theorem impl_FormatLabel (l : List Int) (A : Option Addr) (k c : Nat) (w : World) (hl : l.length = k) (hk : k ≤ 1048576) (hr : RowAt w A (l.map intV)) (ht : Pow10 w) :
    Calls Tryd.prog 8 #[.slice A k c] w fun e w' => e = .returned (.string (fmtL l)) ∧ Below w.heap.size w w' := by
  obtain ⟨i1, hii, hy0, hy1, hy2⟩ := info_parts Tryd.info9
  have HOK := Lib.hid (impl_LabelOk0 l A k c w hl hk hr)
  have HR := Lib.hid hr
  have HL := Lib.hid hl
  have HT := Lib.hid ht
  clear hr hl ht
  cases hlab : labR l with
  | false =>
    have HF := Lib.hid (fmt_no hlab)
    rw [hlab] at HOK
    clear hlab
    go_enter Tryd.func8, Tryd.ntmps8
    go_wp2_with fail
    refine HOK.out.mono ?_
    rintro e w1 ⟨rfl, hw1⟩
    subst hw1
    go_wp2_with fail
    go_ret
    exact ⟨str_ans HF.out.symm, Below.refl _ _⟩
  | true =>
    have HLB := Lib.hid hlab
    rw [hlab] at HOK
    clear hlab
    by_cases h0 : k = 0
    · have HF := Lib.hid (fmt_nil HLB.out (by have := HL.out; omega))
      have hk0 : ((k : Int) == 0) = true := by simp [h0]
      clear h0
      go_enter Tryd.func8, Tryd.ntmps8
      go_wp2_with fail
      refine HOK.out.mono ?_
      rintro e w1 ⟨rfl, hw1⟩
      subst hw1
      go_wp2_with fail
      go_ret
      exact ⟨str_ans HF.out.symm, Below.refl _ _⟩
    · have HF := Lib.hid (fmt_lit HLB.out (by have := HL.out; omega))
      have hk0 : ((k : Int) == 0) = false := by simp; omega
      go_enter Tryd.func8, Tryd.ntmps8
      go_wp2_with fail
      refine HOK.out.mono ?_
      rintro e w1 ⟨rfl, hw1⟩
      subst hw1
      go_wp2_with fail
      go_loopw [14, 3] (fun i s wr => ∃ (j : Nat) (A2 : Option Addr) (d2 : Nat), j ≤ k ∧ i = .int .i64 j ∧ s = .slice A2 j d2 ∧ wr.ownsRow w.heap.size 9 1 (.slice A2 j d2) j (((l.take j).map litW).map Value.string) ∧ Below w.heap.size w wr) (fun i _ _ => k - (intOf i).toNat)
      case atStart => exact ⟨0, none, 0, Nat.zero_le _, rfl, rfl, World.ownsRow_nil _ _ _ _, Below.refl _ _⟩
      case round =>
        obtain ⟨j, A2, d2, hj, rfl, rfl, hown, hb⟩ := hrel
        have OW := Lib.hid hown
        have HB := Lib.hid hb
        clear hown hb
        by_cases hlt : j < k
        · have hjl : ((j : Int) < (k : Int)) := by omega
          obtain ⟨g, o, rfl, hg, hc⟩ := row_getB HR.out (q := j) (by have := HL.out; omega)
          have HNX := Lib.hid (litW_next (l := l) (j := j) (by have := HL.out; omega))
          obtain ⟨x, hx⟩ : ∃ x, x = l[j]'(by have := HL.out; omega) := ⟨_, rfl⟩
          have hlx : litB x = true := by rw [hx]; exact labR_lit HLB.out (List.getElem_mem _)
          rw [← hx] at hc HNX
          have x1 := (HB.out.cell (p := ⟨g, o + j, none⟩) hg).trans hc
          have HWD := Lib.hid (word_lw x wr hlx (pow_kept HT.out HB.out))
          have hws := litW_size hlx
          obtain ⟨W9, hW9⟩ : ∃ t, t = litW x := ⟨_, rfl⟩
          rw [← hW9] at HNX HWD hws
          clear hc hx hlx hW9
          go_wp2_with fail
          refine HWD.out.mono ?_
          rintro e w3 ⟨rfl, bh⟩
          have HB3 := Lib.hid (HB.out.trans (bh.mono HB.out.size))
          have OW3 := Lib.hid (own_below OW.out bh)
          have hbs := HB3.out.size
          clear bh OW HB
          go_wp2_with (at_builtin; refine wpList_append_lies _ rfl _ _ 42 rfl (w.heap.size) 9 i1 (.string ⟨#[]⟩) 1 16 Tryd.underlying42 hii hy0 hy1 hy2 rfl (by decide) _ _ _ rfl (OW3.out.alloc _) ⟨_, 0, none⟩ 1 1 _ rfl rfl (World.news_of_block (heap_newS _ _ _ (by first | rfl | simp))) (one_c1S _) (by decide) (by unfold maxLen; omega) (by omega) (by simp; omega) _ rfl ?_)
          intro g3 cap w6 ho6 hg6 hat6 hl6
          go_wp2_with fail
          go_roundw
          case rel =>
            refine ⟨j + 1, some ⟨g3, 0, none⟩, cap, by omega, by go_num, rfl, ?_, (HB3.out.alloc hbs _).grown hg6 (by simp; omega) (fun r hr => (OW3.out.lt r hr).1)⟩
            rw [HNX.out]; simpa using ho6
          case measure => simp [intOf]; omega
        · have hjl : ¬ ((j : Int) < (k : Int)) := by omega
          have ht : l.take j = l := List.take_of_length_le (by have := HL.out; omega)
          have hjk : j = k := by omega
          subst hjk
          have o9 := OW.out
          rw [ht] at o9
          have HJ := Lib.hid (fun W h => impl_joinParts (l.map litW) ⟨#[38]⟩ A2 j d2 W (by rw [List.length_map]; exact HL.out) hk (by decide) (fun y hy => by obtain ⟨z, hz, rfl⟩ := List.mem_map.1 hy; exact Nat.le_trans (litW_size (labR_lit HLB.out hz)) (by decide)) h)
          have RW := Lib.hid (own_row o9)
          clear o9 ht
          go_wp2_with fail
          refine (HJ.out _ RW.out).mono ?_
          rintro e w2 ⟨rfl, b2⟩
          have HB2 := Lib.hid (HB.out.trans (b2.mono HB.out.size))
          clear b2
          go_wp2_with fail
          go_ret
          exact ⟨str_ans HF.out.symm, HB2.out⟩

end Go.Proofs.YtaokabkffnjbjaaDoor

namespace Go.Proofs.YtaokabkffnjbjaaDoor
open Go.RowKit
set_option linter.unusedVariables false
set_option linter.unusedSimpArgs false

set_option maxRecDepth 100000 in
set_option maxHeartbeats 4000000 in
theorem hp_any (s p : ByteArray) (w : World) : Calls Tryd.prog 58 #[.string s, .string p] w fun e w' => e = .returned (.bool (hpB s p)) ∧ w = w' := by
  by_cases h : p.size ≤ s.size
  · have hv : hpB s p = ((s.extract 0 p.size).toList == p.toList) := by unfold hpB; rw [decide_eq_true h, Bool.true_and, Lib.toList_data, Lib.toList_data]
    have HV := Lib.hid hv
    have h1 : ((p.size : Int) ≤ (s.size : Int)) := by omega
    clear hv
    go_enter Tryd.func58, Tryd.ntmps58
    go_wp2
    go_ret
    exact ⟨ret_b (by rw [HV.out]), rfl⟩
  · have HV := Lib.hid (show hpB s p = false from by unfold hpB; rw [decide_eq_false h, Bool.false_and])
    have h1 : ¬ ((p.size : Int) ≤ (s.size : Int)) := by omega
    go_enter Tryd.func58, Tryd.ntmps58
    go_wp2
    go_ret
    exact ⟨ret_b HV.out.symm, rfl⟩

set_option maxRecDepth 100000 in
set_option maxHeartbeats 4000000 in
theorem cutp_lite (s p : ByteArray) (w : World) : Calls Tryd.prog 52 #[.string s, .string p] w fun e w' => e = .returned (.tuple #[.string (cutB s p), .bool (hpB s p)]) ∧ w = w' := by
  have h0 := hp_any s p w
  cases hb : hpB s p with
  | false =>
    have HC := Lib.hid (show cutB s p = s from by unfold cutB; rw [hb]; rfl)
    rw [hb] at h0
    have H0 := Lib.hid h0
    clear h0 hb
    go_enter Tryd.func52, Tryd.ntmps52
    go_wp2_with fail
    refine H0.out.mono ?_
    rintro e w1 ⟨rfl, hw1⟩
    subst hw1
    go_wp2_with fail
    refine bodyPost_ret (v := .tuple #[.string s, .bool false]) (by simp [results, Tryd.results52, go_sem]) rfl ?_
    rw [HC.out]
    exact ⟨rfl, rfl⟩
  | true =>
    have hle : p.size ≤ s.size := by unfold hpB at hb; rw [Bool.and_eq_true] at hb; exact of_decide_eq_true hb.1
    have HC := Lib.hid (show cutB s p = s.extract p.size s.size from by unfold cutB; rw [hb]; rfl)
    rw [hb] at h0
    have H0 := Lib.hid h0
    clear h0 hb
    go_enter Tryd.func52, Tryd.ntmps52
    go_wp2_with fail
    refine H0.out.mono ?_
    rintro e w1 ⟨rfl, hw1⟩
    subst hw1
    go_wp2_with fail
    refine bodyPost_ret (v := .tuple #[.string (s.extract p.size s.size), .bool true]) (by simp [results, Tryd.results52, go_sem]) rfl ?_
    rw [HC.out]
    exact ⟨rfl, rfl⟩

set_option maxRecDepth 100000 in
set_option maxHeartbeats 4000000 in
theorem cutp_any (s p : ByteArray) (w : World) : Calls Tryd.prog 44 #[.string s, .string p] w fun e w' => e = .returned (.tuple #[.string (cutB s p), .bool (hpB s p)]) ∧ w = w' := by
  have H0 := Lib.hid (cutp_lite s p w)
  obtain ⟨c, hc⟩ : ∃ c, c = cutB s p := ⟨_, rfl⟩
  obtain ⟨b, hb⟩ : ∃ b, b = hpB s p := ⟨_, rfl⟩
  rw [← hc, ← hb] at H0 ⊢
  clear hc hb
  go_enter Tryd.func44, Tryd.ntmps44
  go_wp2_with fail
  refine H0.out.mono ?_
  rintro e w1 ⟨rfl, hw1⟩
  subst hw1
  go_wp2_with fail
  refine bodyPost_ret (v := .tuple #[.string c, .bool b]) (by simp [results, Tryd.results44, go_sem]) rfl ?_
  exact ⟨rfl, rfl⟩

set_option maxRecDepth 100000 in
set_option maxHeartbeats 4000000 in
theorem trimp_lite (s p : ByteArray) (w : World) : Calls Tryd.prog 54 #[.string s, .string p] w fun e w' => e = .returned (.string (cutB s p)) ∧ w = w' := by
  have h0 := hp_any s p w
  cases hb : hpB s p with
  | false =>
    have HC := Lib.hid (show cutB s p = s from by unfold cutB; rw [hb]; rfl)
    rw [hb] at h0
    have H0 := Lib.hid h0
    clear h0 hb
    go_enter Tryd.func54, Tryd.ntmps54
    go_wp2_with fail
    refine H0.out.mono ?_
    rintro e w1 ⟨rfl, hw1⟩
    subst hw1
    go_wp2_with fail
    go_ret
    exact ⟨str_ans HC.out.symm, rfl⟩
  | true =>
    have hle : p.size ≤ s.size := by unfold hpB at hb; rw [Bool.and_eq_true] at hb; exact of_decide_eq_true hb.1
    have HC := Lib.hid (show cutB s p = s.extract p.size s.size from by unfold cutB; rw [hb]; rfl)
    rw [hb] at h0
    have H0 := Lib.hid h0
    clear h0 hb
    go_enter Tryd.func54, Tryd.ntmps54
    go_wp2_with fail
    refine H0.out.mono ?_
    rintro e w1 ⟨rfl, hw1⟩
    subst hw1
    go_wp2_with fail
    go_ret
    exact ⟨str_ans HC.out.symm, rfl⟩

set_option maxRecDepth 100000 in
set_option maxHeartbeats 4000000 in
theorem trimp_any (s p : ByteArray) (w : World) : Calls Tryd.prog 46 #[.string s, .string p] w fun e w' => e = .returned (.string (cutB s p)) ∧ w = w' := by
  have H0 := Lib.hid (trimp_lite s p w)
  go_enter Tryd.func46, Tryd.ntmps46
  go_wp2_with fail
  refine H0.out.mono ?_
  rintro e w1 ⟨rfl, hw1⟩
  subst hw1
  go_wp2_with fail
  go_ret
  exact ⟨rfl, rfl⟩

theorem cut_size (s p : ByteArray) : (cutB s p).size ≤ s.size := by
  unfold cutB
  split
  · rw [ByteArray.size_extract]; omega
  · exact Nat.le_refl _
theorem tup_ib {a b : Int} {c d : Bool} (h1 : a = b) (h2 : c = d) : Ending.returned (.tuple #[.int .i64 a, .bool c]) = .returned (.tuple #[.int .i64 b, .bool d]) := by rw [h1, h2]

set_option maxRecDepth 100000 in
set_option maxHeartbeats 4000000 in
theorem parlit_any (t : ByteArray) (w : World) (hs : t.size ≤ 1048576) (ht : Pow10 w) (he : Errs w) : Calls Tryd.prog 25 #[.string t] w fun e w' => e = .returned (.int .i64 (litP t)) ∧ Below w.heap.size w w' := by
  have h1 := cutp_any t ⟨#[33]⟩ w
  have hl : litP t = if hpB t ⟨#[33]⟩ then IntKind.i64.wrap (-((parseOf (cutB (cutB t ⟨#[33]⟩) ⟨#[112]⟩)).getD 0)) else (parseOf (cutB (cutB t ⟨#[33]⟩) ⟨#[112]⟩)).getD 0 := rfl
  obtain ⟨r, hr⟩ : ∃ r, r = cutB t ⟨#[33]⟩ := ⟨_, rfl⟩
  have hrs : r.size ≤ 1048576 := by rw [hr]; exact Nat.le_trans (cut_size _ _) hs
  rw [← hr] at h1 hl
  have h2 := trimp_any r ⟨#[112]⟩ w
  obtain ⟨u, hu⟩ : ∃ u, u = cutB r ⟨#[112]⟩ := ⟨_, rfl⟩
  have hus : u.size ≤ 1048576 := by rw [hu]; exact Nat.le_trans (cut_size _ _) hrs
  rw [← hu] at h2 hl
  have h3 := impl_ParseInt u w hus ht he
  obtain ⟨n, hn⟩ : ∃ n, n = (parseOf u).getD 0 := ⟨_, rfl⟩
  obtain ⟨ok, hok⟩ : ∃ b, b = (parseOf u).isSome := ⟨_, rfl⟩
  rw [← hn, ← hok] at h3
  rw [← hn] at hl
  obtain ⟨np, hnp⟩ : ∃ t, t = IntKind.i64.wrap (-n) := ⟨_, rfl⟩
  rw [← hnp] at hl
  have hnw : IntKind.i64.wrap (-n) = np := hnp.symm
  have H1 := Lib.hid h1
  have H2 := Lib.hid h2
  have H3 := Lib.hid h3
  have HL := Lib.hid hl
  obtain ⟨neg, hneg⟩ : ∃ b, b = hpB t ⟨#[33]⟩ := ⟨_, rfl⟩
  rw [← hneg] at H1 HL
  clear h1 h2 h3 hl hr hrs hu hus hn hok hnp hneg ht he
  cases neg with
  | false =>
    go_enter Tryd.func25, Tryd.ntmps25
    go_wp2_with fail
    refine H1.out.mono ?_
    rintro e w1 ⟨rfl, hw1⟩
    subst hw1
    go_wp2_with fail
    refine H2.out.mono ?_
    rintro e w2 ⟨rfl, hw2⟩
    subst hw2
    go_wp2_with fail
    refine H3.out.mono ?_
    rintro e w3 ⟨rfl, b3⟩
    go_wp2_with fail
    go_ret
    exact ⟨int_ans (by rw [HL.out]; rfl), b3⟩
  | true =>
    go_enter Tryd.func25, Tryd.ntmps25
    go_wp2_with fail
    refine H1.out.mono ?_
    rintro e w1 ⟨rfl, hw1⟩
    subst hw1
    go_wp2_with fail
    refine H2.out.mono ?_
    rintro e w2 ⟨rfl, hw2⟩
    subst hw2
    go_wp2_with fail
    refine H3.out.mono ?_
    rintro e w3 ⟨rfl, b3⟩
    go_wp2_with fail
    go_ret
    exact ⟨int_ans (by rw [HL.out]; rfl), b3⟩

theorem own_offL {v v' : Value} {a b c d : Nat} (h : ∀ q, v.ownBlock = some q → a ≤ q ∧ q < b) (h' : ∀ q, v'.ownBlock = some q → c ≤ q ∧ q < d) (hd : b ≤ c ∨ d ≤ a) : v.ownBlock = none ∨ v.ownBlock ≠ v'.ownBlock := by
  cases hv : v.ownBlock with
  | none => exact Or.inl rfl
  | some q =>
    refine Or.inr fun he => ?_
    have h1 := h q hv
    have h2 := h' q he.symm
    omega
theorem litP_next {ws : List ByteArray} {j : Nat} {t : ByteArray} (h : ws[j]? = some t) : (ws.take (j + 1)).map litP = (ws.take j).map litP ++ [litP t] := by
  rw [List.take_add_one, h, List.map_append]; rfl
theorem fmt_nil0 : fmtL [] = ⟨#[45]⟩ := rfl
theorem lwL_form {s : ByteArray} (h : ¬ s = ⟨#[45]⟩) {o : List Int} (ho : lwW s = o) : lwL s = if labR o = true ∧ fmtL o = s then (o, true) else ([], false) := by
  subst ho; unfold lwL; rw [if_neg h]

set_option maxRecDepth 100000 in
set_option maxHeartbeats 8000000 in
theorem impl_ParseLabel (s : ByteArray) (w : World) (hs : s.size ≤ 1048576) (ht : Pow10 w) (he : Errs w) :
    Calls Tryd.prog 7 #[.string s] w fun e w' => ∃ B q cb, e = .returned (.tuple #[.slice B q cb, .bool (parL s).2]) ∧ q = (parL s).1.length ∧ w'.ownsRow w.heap.size 3 1 (.slice B q cb) q ((parL s).1.map intV) ∧ Below w.heap.size w w' := by
  obtain ⟨i1, hii, hy0, hy1, hy2⟩ := info_parts Tryd.info3
  rw [← lw_par s]
  have hf := impl_FormatLabel [] none 0 0 w rfl (by omega) (fun h => by simp at h) ht
  rw [fmt_nil0] at hf
  obtain ⟨D, hD⟩ : ∃ D : ByteArray, D = ⟨#[45]⟩ := ⟨_, rfl⟩
  rw [← hD] at hf
  have HF := Lib.hid hf
  clear hf
  by_cases hdash : s = ⟨#[45]⟩
  · have HR0 := Lib.hid (show lwL s = ([], true) from by unfold lwL; rw [if_pos hdash])
    have hd : (s.toList == D.toList) = true := bytes_same (by rw [hD]; exact hdash)
    clear hdash hD ht he
    go_enter Tryd.func7, Tryd.ntmps7
    go_wp2_with fail
    refine HF.out.mono ?_
    rintro e w1 ⟨rfl, b1⟩
    go_wp2_with fail
    refine bodyPost_ret (v := .tuple #[.slice none 0 0, .bool true]) (by simp [results, Tryd.results7, go_sem]) rfl ?_
    rw [HR0.out]
    exact ⟨none, 0, 0, rfl, rfl, World.ownsRow_nil _ _ _ _, b1⟩
  · have hd : (s.toList == D.toList) = false := bytes_other (by rw [hD]; exact hdash)
    have HSP := Lib.hid (fun W => impl_SplitAny s ⟨#[38]⟩ W (by omega) (by decide))
    have HLF := Lib.hid (fun o h => lwL_form (s := s) hdash (o := o) h)
    have HT := Lib.hid ht
    have HE := Lib.hid he
    have hlw : lwW s = (split s ⟨#[38]⟩).map litP := rfl
    obtain ⟨ws, hws⟩ : ∃ t, t = split s ⟨#[38]⟩ := ⟨_, rfl⟩
    obtain ⟨n, hn⟩ : ∃ t, t = ws.length := ⟨_, rfl⟩
    have hn1 : n ≤ 1048577 := by rw [hn, hws]; exact Nat.le_trans (split_len _ _) (by omega)
    have hsz : ∀ x ∈ ws, x.size ≤ 1048576 := by rw [hws]; intro x hx; exact Nat.le_trans (split_sizes _ _ x hx) (by omega)
    have HSZ := Lib.hid hsz
    rw [← hws] at HSP hlw
    rw [← hn] at HSP
    have HLW := Lib.hid hlw
    have HN := Lib.hid hn
    clear hws hn hsz hlw hdash ht he hD
    go_enter Tryd.func7, Tryd.ntmps7
    go_wp2_with fail
    refine HF.out.mono ?_
    rintro e w0 ⟨rfl, b0⟩
    have B0 := Lib.hid b0
    clear b0
    go_wp2_with fail
    refine (HSP.out _).mono ?_
    rintro e w1 ⟨v, rfl, hown, bh⟩
    obtain ⟨A0, dc, rfl, hcap, _⟩ := own_form hown
    have ltw := hown.lt
    obtain ⟨e1, he1⟩ : ∃ e, e = w1.heap.size := ⟨_, rfl⟩
    rw [← he1] at ltw
    have hbs0 := bh.size
    have OS := Lib.hid hown
    have B1 := Lib.hid (B0.out.trans (bh.mono B0.out.size))
    have LTW := Lib.hid ltw
    have HE1 := Lib.hid he1
    have hwe : w.heap.size ≤ e1 := by rw [he1]; exact B1.out.size
    clear hown bh ltw HSP hcap he1
    go_wp2_with fail
    go_loopw [13, 4] (fun i sv wr => ∃ (j : Nat) (A2 : Option Addr) (d2 : Nat), j ≤ n ∧ i = .int .i64 j ∧ sv = .slice A2 j d2 ∧ wr.ownsRow e1 3 1 (.slice A2 j d2) j (((ws.take j).map litP).map intV) ∧ wr.ownsRow w0.heap.size 9 1 (.slice A0 n dc) n (ws.map Value.string) ∧ e1 ≤ wr.heap.size ∧ Below w.heap.size w wr) (fun i _ _ => n - (intOf i).toNat)
    case atStart => exact ⟨0, none, 0, Nat.zero_le _, rfl, rfl, World.ownsRow_nil _ _ _ _, OS.out, by rw [HE1.out]; exact Nat.le_refl _, B1.out⟩
    case round =>
      obtain ⟨j, A2, d2, hj, rfl, rfl, hown, hos, hes, hb⟩ := hrel
      have OW := Lib.hid hown
      have OR := Lib.hid hos
      have HB := Lib.hid hb
      clear hown hos hb
      by_cases hlt : j < n
      · have hjl : ((j : Int) < (n : Int)) := by omega
        obtain ⟨g, o', hA0, hg, hc⟩ := row_getS (own_row OR.out) (q := j) (by have := HN.out; omega)
        obtain ⟨t, ht⟩ : ∃ t, t = ws[j]'(by have := HN.out; omega) := ⟨_, rfl⟩
        rw [← ht] at hc
        have hwj : ws[j]? = some t := by rw [ht]; exact List.getElem?_eq_getElem (by have := HN.out; omega)
        have hts : t.size ≤ 1048576 := by rw [ht]; exact HSZ.out _ (List.getElem_mem _)
        have HNX := Lib.hid (litP_next hwj)
        have HPL := Lib.hid (parlit_any t wr hts (pow_kept HT.out HB.out) (HE.out.kept HB.out))
        obtain ⟨z, hz⟩ : ∃ z, z = litP t := ⟨_, rfl⟩
        rw [← hz] at HNX HPL
        subst hA0
        have x1 := hc
        clear hc ht hwj hz hts
        go_wp2_with fail
        refine HPL.out.mono ?_
        rintro e w2 ⟨rfl, bh⟩
        have HB2 := Lib.hid (HB.out.trans (bh.mono HB.out.size))
        have OW2 := Lib.hid (own_below OW.out bh)
        have OR2 := Lib.hid (own_below OR.out bh)
        have hes2 : e1 ≤ w2.heap.size := Nat.le_trans hes bh.size
        have hbs := HB2.out.size
        have HOF := Lib.hid (own_offL (v := .slice (some ⟨g, o', none⟩) n dc) (v' := .slice A2 j d2) LTW.out OW2.out.lt (.inl (Nat.le_refl _)))
        clear bh OW OR
        go_wp2_with (at_builtin; refine wpList_append_lies _ rfl _ _ 23 rfl e1 3 i1 (.int .i64 0) 1 8 Tryd.underlying23 hii hy0 hy1 hy2 rfl (by decide) _ _ _ rfl (OW2.out.alloc _) ⟨_, 0, none⟩ 1 1 _ rfl rfl (World.news_of_block (heap_newS _ _ _ (by first | rfl | simp))) (one_c1T _) (by decide) (by unfold maxLen; omega) (by omega) (by simp; omega) _ rfl ?_)
        intro g3 cap w6 ho6 hg6 hat6 hl6
        go_wp2_with fail
        go_roundw
        case rel =>
          refine ⟨j + 1, some ⟨g3, 0, none⟩, cap, by omega, by go_num, rfl, by rw [HNX.out, List.map_append]; simpa [intV] using ho6, (OR2.out.alloc _).kept hg6 HOF.out, ?_, (HB2.out.alloc hbs _).grown hg6 (by simp; omega) (fun r hr => Nat.le_trans hwe (OW2.out.lt r hr).1)⟩
          have h7 := hg6.size; (try simp only [World.alloc, Array.size_push] at h7); (try simp at h7); omega
        case measure => simp [intOf]; omega
      · have hjl : ¬ ((j : Int) < (n : Int)) := by omega
        have hjn : j = n := by omega
        subst hjn
        have htk : ws.take j = ws := List.take_of_length_le (by have := HN.out; omega)
        have o9 := OW.out
        rw [htk] at o9
        obtain ⟨o, ho⟩ : ∃ o, o = ws.map litP := ⟨_, rfl⟩
        rw [← ho] at o9
        have hol : o.length = j := by rw [ho, List.length_map]; exact HN.out.symm
        have HPL := Lib.hid (HLF.out o (by rw [HLW.out]; exact ho.symm))
        have OW9 := Lib.hid o9
        have HOK := Lib.hid (impl_LabelOkB o A2 j d2 wr hol (by omega) (own_row o9))
        have HOL := Lib.hid hol
        have HFM := Lib.hid (fun (h3 : j ≤ 3) => impl_FormatLabel o A2 j d2 wr hol (by omega) (own_row o9) (pow_kept HT.out HB.out))
        clear hol ho o9 htk
        cases hlab : labR o with
        | false =>
          have HR0 := Lib.hid (show lwL s = ([], false) from by rw [HPL.out, if_neg (fun h => by rw [hlab] at h; exact absurd h.1 (by simp))])
          rw [hlab] at HOK
          clear hlab
          go_wp2_with fail
          refine HOK.out.mono ?_
          rintro e w2 ⟨rfl, hw2⟩
          subst hw2
          go_wp2_with fail
          refine bodyPost_ret (v := .tuple #[.slice none 0 0, .bool false]) (by simp [results, Tryd.results7, go_sem]) rfl ?_
          rw [HR0.out]
          exact ⟨none, 0, 0, rfl, rfl, World.ownsRow_nil _ _ _ _, HB.out⟩
        | true =>
          have HF3 := Lib.hid (HFM.out (by have := labR_len hlab; have := HOL.out; omega))
          rw [hlab] at HOK
          by_cases hfm : fmtL o = s
          · have HR0 := Lib.hid (show lwL s = (o, true) from by rw [HPL.out, if_pos ⟨hlab, hfm⟩])
            have hq := bytes_same hfm
            clear hlab hfm
            go_wp2_with fail
            refine HOK.out.mono ?_
            rintro e w2 ⟨rfl, hw2⟩
            subst hw2
            go_wp2_with fail
            refine HF3.out.mono ?_
            rintro e w3 ⟨rfl, bh⟩
            have OW3 := Lib.hid (own_base (own_below OW9.out bh) hwe)
            have HB3 := Lib.hid (HB.out.trans (bh.mono HB.out.size))
            clear bh
            go_wp2_with fail
            refine bodyPost_ret (v := .tuple #[.slice A2 j d2, .bool true]) (by simp [results, Tryd.results7, go_sem]) rfl ?_
            rw [HR0.out]
            exact ⟨A2, j, d2, rfl, HOL.out.symm, OW3.out, HB3.out⟩
          · have HR0 := Lib.hid (show lwL s = ([], false) from by rw [HPL.out, if_neg (fun h => hfm h.2)])
            have hq := bytes_other hfm
            clear hlab hfm
            go_wp2_with fail
            refine HOK.out.mono ?_
            rintro e w2 ⟨rfl, hw2⟩
            subst hw2
            go_wp2_with fail
            refine HF3.out.mono ?_
            rintro e w3 ⟨rfl, bh⟩
            have HB3 := Lib.hid (HB.out.trans (bh.mono HB.out.size))
            clear bh
            go_wp2_with fail
            refine bodyPost_ret (v := .tuple #[.slice none 0 0, .bool false]) (by simp [results, Tryd.results7, go_sem]) rfl ?_
            rw [HR0.out]
            exact ⟨none, 0, 0, rfl, rfl, World.ownsRow_nil _ _ _ _, HB3.out⟩

end Go.Proofs.YtaokabkffnjbjaaDoor

namespace Go.Proofs.YtaokabkffnjbjaaDoor
open Go.RowKit
theorem gErrRange : Tryd.prog.globalNamed "strconv.ErrRange" = some 1 := by kernel_rfl
theorem tErrRange : (Tryd.prog.globals[1]?).map (·.type) = some 67 := by kernel_rfl
theorem gErrSyntax : Tryd.prog.globalNamed "strconv.ErrSyntax" = some 0 := by kernel_rfl
theorem tErrSyntax : (Tryd.prog.globals[0]?).map (·.type) = some 67 := by kernel_rfl
theorem cErrStr : Tryd.prog.cellsOf 100 = 1 := by kernel_rfl
theorem cStr : Tryd.prog.cellsOf 9 = 1 := by kernel_rfl
theorem starErr : "*" ++ "errors.errorString" = "*errors.errorString" := by decide
theorem rowErr (u : TypeId) (h : Tryd.prog.typeName? 3 u = some "*errors.errorString") : u = 98 :=
  typeName_ptr_named (nm := "errors.errorString") (by rw [starErr]; kernel_rfl) (by kernel_rfl) (by decide) u (by rw [starErr]; exact h)
theorem errs_of {a b : List UInt8} {r : List (String × DataW Unit)} {W : World} (h : laidMet Tryd.prog (("strconv.ErrRange", .iface "*errors.errorString" (.ptr (.agg [.lit (.string a)]))) :: ("strconv.ErrSyntax", .iface "*errors.errorString" (.ptr (.agg [.lit (.string b)]))) :: r) W) : Errs W := by
  obtain ⟨a0, s0, h0, _, _, _⟩ := laid_sentinel h gErrRange tErrRange Tryd.underlying67 rowErr Tryd.underlying98 Tryd.underlying100 rfl rfl Tryd.underlying9 cErrStr cStr
  obtain ⟨a1, s1, h1, _, _, _⟩ := laid_sentinel h.tail gErrSyntax tErrSyntax Tryd.underlying67 rowErr Tryd.underlying98 Tryd.underlying100 rfl rfl Tryd.underlying9 cErrStr cStr
  exact ⟨⟨_, _, h1⟩, _, _, h0⟩

end Go.Proofs.YtaokabkffnjbjaaDoor

namespace Go.Proofs.YtaokabkffnjbjaaDoor
open Go.RowKit

theorem parL_len (s : ByteArray) : (parL s).1.length ≤ 3 := by
  unfold parL
  split
  · simp
  · split
    · split
      · rename_i h; exact labR_len h.1
      · exact Nat.zero_le _
    · exact Nat.zero_le _

end Go.Proofs.YtaokabkffnjbjaaDoor

namespace Go.Proofs.YtaokabkffnjbjaaDoor
open Go.RowKit
set_option linter.unusedVariables false
set_option linter.unusedSimpArgs false

theorem and_low (y : Int) : 0 ≤ bits .and .i64 y 255 ∧ bits .and .i64 y 255 ≤ 255 := by
  have e : bits .and .i64 y 255 = IntKind.i64.wrap ((BitVec.ofInt 64 y &&& BitVec.ofInt 64 255).toNat : Int) := rfl
  have h1 : (BitVec.ofInt 64 255).toNat = 255 := by decide
  rw [e, BitVec.toNat_and, h1, IntKind.wrap_i64]
  have h2 : (BitVec.ofInt 64 y).toNat &&& 255 ≤ 255 := Nat.and_le_right
  omega

theorem and_mid (y : Int) : 0 ≤ bits .and .i64 y 1073741823 ∧ bits .and .i64 y 1073741823 ≤ 1073741823 := by
  have e : bits .and .i64 y 1073741823 = IntKind.i64.wrap ((BitVec.ofInt 64 y &&& BitVec.ofInt 64 1073741823).toNat : Int) := rfl
  have h1 : (BitVec.ofInt 64 1073741823).toNat = 1073741823 := by decide
  rw [e, BitVec.toNat_and, h1, IntKind.wrap_i64]
  have h2 : (BitVec.ofInt 64 y).toNat &&& 1073741823 ≤ 1073741823 := Nat.and_le_right
  omega

/-- A slice of bytes that is read: nil, or its cells hold bytes, in a block other than g. -/
def Bytes (w : World) (g : Nat) (A : Option Addr) (n : Nat) : Prop :=
  0 < n → ∃ b o, A = some ⟨b, o, none⟩ ∧ b < w.heap.size ∧ b ≠ g ∧ ∀ j, j < n → ∃ z : Int, 0 ≤ z ∧ z ≤ 255 ∧ w.cell? ⟨b, o + j, none⟩ = some (.int .u8 z)
/-- The cursor in block g. -/
def Cur (w : World) (g : Nat) (A : Option Addr) (n c : Nat) : Prop :=
  ∃ (i : Nat) (h : Int), i ≤ n ∧ -9223372036854775808 ≤ h ∧ h ≤ 9223372036854775807 ∧ w.heap[g]? = some (.cells #[.slice A n c, .int .i64 i, .int .i64 h] 72 (0, 0))

theorem Bytes.grown {w w' : World} {g : Nat} {A : Option Addr} {n : Nat} (h : Bytes w g A n) (hg : w.grownBy w' (some g)) : Bytes w' g A n := by
  intro hn
  obtain ⟨b, o, hA, hb, hne, hc⟩ := h hn
  refine ⟨b, o, hA, Nat.lt_of_lt_of_le hb hg.size, hne, fun j hj => ?_⟩
  obtain ⟨z, z0, z1, hz⟩ := hc j hj
  exact ⟨z, z0, z1, (World.cell?_of_block (a := ⟨b, o + j, none⟩) (hg.block b hb (by simpa using hne))).trans hz⟩

theorem row_grown {w : World} {g j : Nat} {u : Value} : w.grownBy (w.setCell ⟨g, j, none⟩ u) (some g) :=
  ⟨rfl, rfl, rfl, by simp, fun k _ hk => heap_setCell_other w ⟨g, j, none⟩ k u (fun e => hk (by simp [e]))⟩
theorem drew_grown {w : World} {r : Option Nat} (q : Nat) : w.grownBy (w.drewN q) r := ⟨rfl, rfl, rfl, Nat.le_refl _, fun _ _ _ => rfl⟩
theorem set_row {w : World} {g j : Nat} {cs : Array Value} {t : TypeId} {fr : Nat × Nat} (hg : w.heap[g]? = some (.cells cs t fr)) (u : Value) :
    (w.setCell ⟨g, j, none⟩ u).heap[g]? = some (.cells (cs.setIfInBounds j u) t fr) := by
  simp [World.setCell, Array.getElem?_modify, hg]
theorem wrap64_rng (x : Int) : -9223372036854775808 ≤ wrap64 x ∧ wrap64 x ≤ 9223372036854775807 := by unfold wrap64; omega

set_option maxRecDepth 100000 in
set_option maxHeartbeats 1000000 in
theorem l01Byte_any (g : Nat) (A : Option Addr) (n c : Nat) (w : World) (hm : n ≤ 1048576) (hcur : Cur w g A n c) (hby : Bytes w g A n) :
    Calls Tryd.prog 43 #[.pointer (some ⟨g, 0, none⟩)] w fun e w' => ∃ x : Int, e = .returned (.int .i64 x) ∧ 0 ≤ x ∧ x ≤ 255 ∧ Cur w' g A n c ∧ w.grownBy w' (some g) := by
  obtain ⟨i, h, hi, hh0, hh1, hrow⟩ := hcur
  have HROW := Lib.hid hrow
  have HBY := Lib.hid hby
  have c0 := cell_of_row _ _ 0 _ _ _ hrow
  have c1 := cell_of_row _ _ 1 _ _ _ hrow
  have c2 := cell_of_row _ _ 2 _ _ _ hrow
  have f2 := frozen_of_row _ _ 2 _ _ hrow
  simp at c0 c1 c2
  clear hrow hby
  go_enter Tryd.func43, Tryd.ntmps43
  go_wp2_with fail
  obtain ⟨H, hH⟩ : ∃ H, H = wrap64 (wrap64 (h * 6364136223846793005) + 1442695040888963407) := ⟨_, rfl⟩
  rw [← hH]
  have hHr := wrap64_rng (wrap64 (h * 6364136223846793005) + 1442695040888963407)
  rw [← hH] at hHr
  obtain ⟨hH0, hH1⟩ := hHr
  generalize hW : w.setCell ⟨g, 2, none⟩ (.int .i64 H) = w1
  have HROW1 : Hid (w1.heap[g]? = some (.cells #[.slice A n c, .int .i64 i, .int .i64 H] 72 (0, 0))) := by
    rw [← hW]
    exact Lib.hid (set_row HROW.out _)
  have G1 : w.grownBy w1 (some g) := by rw [← hW]; exact row_grown
  have HBY1 := Lib.hid (HBY.out.grown G1)
  have c0 := cell_of_row _ _ 0 _ _ _ HROW1.out
  have c1 := cell_of_row _ _ 1 _ _ _ HROW1.out
  have c2 := cell_of_row _ _ 2 _ _ _ HROW1.out
  have f1 := frozen_of_row _ _ 1 _ _ HROW1.out
  simp at c0 c1 c2
  clear hW hH HROW HBY
  go_quiet (fail)
  go_wp2_with fail
  have hX := and_low (bits .xor .i64 (H / 8589934592) (H / 35184372088832))
  generalize bits .and .i64 (bits .xor .i64 (H / 8589934592) (H / 35184372088832)) 255 = X at hX ⊢
  obtain ⟨hX0, hX1⟩ := hX
  by_cases hlt : i < n
  · have hlt2 : (i : Int) < n := by omega
    obtain ⟨b, o, rfl, hb, hne, hc⟩ := HBY1.out (by omega)
    obtain ⟨z, z0, z1, hz⟩ := hc i hlt
    clear hc
    go_quiet (fail)
    go_wp2_with fail
    go_quiet (fail)
    go_wp2_with fail
    go_ret
    have hr2 := set_row (j := 1) HROW1.out (.int .i64 ((i : Int) + 1))
    exact ⟨_, rfl, (and_low _).1, (and_low _).2, ⟨i + 1, H, by omega, hH0, hH1, hr2⟩, grown_trans (grown_trans G1 (drew_grown _)) row_grown⟩
  · have hlt2 : ¬ (i : Int) < n := by omega
    go_quiet (fail)
    go_wp2_with fail
    go_ret
    exact ⟨X, rfl, hX0, hX1, ⟨i, H, hi, hH0, hH1, HROW1.out⟩, grown_trans G1 (drew_grown _)⟩

set_option maxRecDepth 100000 in
set_option maxHeartbeats 1000000 in
/-- A number below n, for n from 1 to 256. -/
theorem l01Below_small (m : Nat) (g : Nat) (A : Option Addr) (n c : Nat) (w : World) (hm0 : 0 < m) (hm1 : m ≤ 256) (hm : n ≤ 1048576) (hcur : Cur w g A n c) (hby : Bytes w g A n) :
    Calls Tryd.prog 41 #[.pointer (some ⟨g, 0, none⟩), .int .i64 m] w fun e w' => ∃ x : Nat, e = .returned (.int .i64 x) ∧ x < m ∧ Cur w' g A n c ∧ w.grownBy w' (some g) := by
  have HB := Lib.hid (l01Byte_any g A n c w hm hcur hby)
  clear hcur hby
  go_enter Tryd.func41, Tryd.ntmps41
  go_wp2_with fail
  refine HB.out.mono ?_
  rintro e w1 ⟨x, rfl, hx0, hx1, hc1, hg1⟩
  have HC := Lib.hid hc1
  have HG := Lib.hid hg1
  clear hc1 hg1
  go_wp2
  go_ret
  refine ⟨(x % m).toNat, ?_, ?_, HC.out, HG.out⟩
  · have : 0 ≤ x % (m : Int) := Int.emod_nonneg _ (by omega)
    rw [Int.toNat_of_nonneg this]; rfl
  · have h1 : x % (m : Int) < m := Int.emod_lt_of_pos _ (by omega)
    have h2 : 0 ≤ x % (m : Int) := Int.emod_nonneg _ (by omega)
    omega

theorem l01New_row (w : World) (A : Option Addr) (n c : Nat) (h : Int) : (w.alloc (.cells #[.slice A n c, .int .i64 0, .int .i64 h] 72)).heap[w.heap.size]? = some (.cells #[.slice A n c, .int .i64 0, .int .i64 h] 72 (0, 0)) := heap_alloc_new w _

set_option maxRecDepth 100000 in
set_option maxHeartbeats 1000000 in
set_option maxRecDepth 100000 in
theorem l01New_any (A : Option Addr) (n c : Nat) (w : World) (hm : n ≤ 1048576) (hby : Bytes w w.heap.size A n) :
    Calls Tryd.prog 42 #[.slice A n c] w fun e w' => e = .returned (.pointer (some ⟨w.heap.size, 0, none⟩)) ∧ Cur w' w.heap.size A n c ∧ Below w.heap.size w w' := by
  have HBY := Lib.hid hby
  clear hby
  go_enter Tryd.func42, Tryd.ntmps42
  go_wp2
  go_loop [3, 4] (fun x i => ∃ (k : Nat) (h : Int), k ≤ n ∧ i = .int .i64 k ∧ x = .int .i64 h ∧ -9223372036854775808 ≤ h ∧ h ≤ 9223372036854775807) (fun _ i => n - (intOf i).toNat)
  case atStart => exact ⟨0, _, Nat.zero_le _, rfl, rfl, by omega, by omega⟩
  case round =>
    obtain ⟨k, h, hk, rfl, rfl, hh0, hh1⟩ := hrel
    by_cases hlt : k < n
    · obtain ⟨b, o, rfl, hb, hne, hc⟩ := HBY.out (by omega)
      obtain ⟨z, z0, z1, hz⟩ := hc k hlt
      clear hc
      by_cases hk4 : k < 4000
      · go_wp2
        go_round
        case rel =>
          have hm2 := and_mid (wrap64 (wrap64 (wrap64 (h * 71) + z) + 7))
          exact ⟨k + 1, _, by omega, by go_num, rfl, by omega, by omega⟩
        case measure => simp [intOf]; omega
      · go_wp2
        go_ret
        exact ⟨rfl, ⟨0, h, Nat.zero_le _, hh0, hh1, l01New_row w _ n c h⟩, (Below.refl _ _).alloc (Nat.le_refl _) _⟩
    · go_wp2
      go_ret
      exact ⟨rfl, ⟨0, h, Nat.zero_le _, hh0, hh1, l01New_row w _ n c h⟩, (Below.refl _ _).alloc (Nat.le_refl _) _⟩

theorem Cur.kept {w w' : World} {g : Nat} {A : Option Addr} {n c : Nat} (h : Cur w g A n c) (hb : w'.heap[g]? = w.heap[g]?) : Cur w' g A n c := by
  obtain ⟨i, x, h1, h2, h3, h4⟩ := h
  exact ⟨i, x, h1, h2, h3, hb.trans h4⟩
theorem Cur.lt {w : World} {g : Nat} {A : Option Addr} {n c : Nat} (h : Cur w g A n c) : g < w.heap.size := by
  obtain ⟨i, x, h1, h2, h3, h4⟩ := h
  exact (Array.getElem?_eq_some_iff.1 h4).1
theorem Cur.alloc {w : World} {g : Nat} {A : Option Addr} {n c : Nat} (h : Cur w g A n c) (o : Obj) : Cur (w.alloc o) g A n c := h.kept (Below.heap_alloc w o g h.lt)
theorem Bytes.below {w w' : World} {g : Nat} {A : Option Addr} {n : Nat} (h : Bytes w g A n) (hb : Below w.heap.size w w') : Bytes w' g A n := by
  intro hn
  obtain ⟨b, o, hA, hlt, hne, hc⟩ := h hn
  have := hb.size
  refine ⟨b, o, hA, by omega, hne, fun j hj => ?_⟩
  obtain ⟨z, z0, z1, hz⟩ := hc j hj
  exact ⟨z, z0, z1, (hb.cell (p := ⟨b, o + j, none⟩) hlt).trans hz⟩
/-- Bytes that lay there when the call began lie in none of its own blocks. -/
theorem Bytes.fresh {w w' : World} {A : Option Addr} {n : Nat} (h : Bytes w' w.heap.size A n) (hb : Below w.heap.size w w') : Bytes w' w'.heap.size A n := by
  intro hn
  obtain ⟨b, o, hA, hlt, hne, hc⟩ := h hn
  exact ⟨b, o, hA, hlt, by omega, hc⟩
theorem Bytes.alloc {w : World} {g : Nat} {A : Option Addr} {n : Nat} (h : Bytes w g A n) (o : Obj) : Bytes (w.alloc o) g A n := h.below ((Below.refl _ _).alloc (Nat.le_refl _) o)

theorem five_row (w : World) (v : Nat → ByteArray) : ∀ j (h : j < [v 0, v 1, v 2, v 3, v 4].length), (w.alloc (.cells #[.string (v 0), .string (v 1), .string (v 2), .string (v 3), .string (v 4)] 9)).cell? ⟨w.heap.size, j, none⟩ = some (.string ([v 0, v 1, v 2, v 3, v 4][j])) := by
  intro j hj
  rw [cell_of_row _ _ j _ _ _ (heap_alloc_new w _)]
  match j, hj with
  | 0, _ => rfl
  | 1, _ => rfl
  | 2, _ => rfl
  | 3, _ => rfl
  | 4, _ => rfl

set_option maxRecDepth 100000 in
set_option maxHeartbeats 1000000 in
theorem l29New_any (m : Nat) (A : Option Addr) (n c : Nat) (w : World) (hm : n ≤ 1048576) (hm2 : m ≤ 65536) (hby : Bytes w w.heap.size A n) :
    Calls Tryd.prog 23 #[.slice A n c, .int .i64 m] w fun e w' => e = .returned (.pointer (some ⟨w.heap.size, 0, none⟩)) ∧ Cur w' w.heap.size A n c ∧ Below w.heap.size w w' := by
  have HN := Lib.hid (l01New_any A n c w hm hby)
  have HBY := Lib.hid hby
  clear hby
  go_enter Tryd.func23, Tryd.ntmps23
  go_wp2_with fail
  refine HN.out.mono ?_
  rintro e w1 ⟨rfl, hc1, b1⟩
  have HB1 := Lib.hid (HBY.out.below b1)
  have HC1 := Lib.hid hc1
  clear hc1
  go_wp2
  go_loopw [6] (fun i wr => ∃ k : Nat, k ≤ m ∧ i = .int .i64 k ∧ Cur wr w.heap.size A n c ∧ Bytes wr w.heap.size A n ∧ Below w.heap.size w wr) (fun i _ => m - (intOf i).toNat)
  case atStart => exact ⟨0, Nat.zero_le _, rfl, HC1.out, HB1.out, b1⟩
  case round =>
    obtain ⟨k, hk, rfl, hc, hb, hbw⟩ := hrel
    by_cases hlt : k < m
    · have HQ := Lib.hid (l01Byte_any w.heap.size A n c wr hm hc hb)
      have HB := Lib.hid hb
      clear hc hb
      go_wp2_with fail
      refine HQ.out.mono ?_
      rintro e w3 ⟨x, rfl, hx0, hx1, hc3, g3⟩
      have b3 := hbw.grown g3 hbw.size (fun k hk => by cases hk; exact Nat.le_refl _)
      have HB3 := Lib.hid (HB.out.grown g3)
      have HC3 := Lib.hid hc3
      clear hc3 g3
      go_wp2
      go_roundw
      case rel => exact ⟨k + 1, by omega, by go_num, HC3.out, HB3.out, b3⟩
      case measure => simp [intOf]; omega
    · have HC := Lib.hid hc
      clear hc hb
      go_wp2
      go_ret
      exact ⟨rfl, HC.out, hbw⟩

end Go.Proofs.YtaokabkffnjbjaaDoor

namespace Go.Proofs.YtaokabkffnjbjaaDoor
open Go.RowKit
set_option linter.unusedVariables false
set_option linter.unusedSimpArgs false

theorem own_emp7 {W : World} {B s : Nat} {t : TypeId} (b : Nat) (hB : B ≤ b) (h : W.heap[b]? = some (.cells #[] t (0, 0))) : W.ownsRow B t s (.slice (some ⟨b, 0, none⟩) 0 0) 0 [] :=
  ⟨by simp, .inr ⟨b, 0, #[], rfl, hB, h, Nat.le_refl _, Nat.zero_le _, by simp, by simp⟩⟩
theorem heap_new7 (w : World) (o : Obj) (g : Nat) (h : g = w.heap.size) : (w.alloc o).heap[g]? = some o := by rw [h]; exact heap_alloc_new w o
theorem one_c17 (a : Int) : ∀ u ∈ [Value.int .i64 a], u.oneCell' = true := fun u hu => by simp at hu; subst hu; rfl
/-- The first k parts of a label that is drawn. -/
def drP (k s t u : Nat) : List Int := match k with
  | 0 => []
  | 1 => optL s 1
  | 2 => optL s 1 ++ optL t 2
  | _ => drL s t u
def DrQ (k : Nat) (o : List Int) : Prop := ∃ s t u, s ≤ 2 ∧ t ≤ 2 ∧ u ≤ 2 ∧ o = drP k s t u
theorem optL_len (s : Nat) (p : Int) : (optL s p).length ≤ 1 := by unfold optL; split <;> simp
theorem optL_two (s : Nat) (p : Int) (h : 2 ≤ s) : optL s p = [] := by unfold optL; split <;> first | omega | rfl
theorem DrQ.nil : DrQ 0 [] := ⟨0, 0, 0, by omega, by omega, by omega, rfl⟩
theorem DrQ.len {k : Nat} {o : List Int} (h : DrQ k o) : o.length ≤ 3 := by
  obtain ⟨s, t, u, _, _, _, rfl⟩ := h
  have h1 := optL_len s 1
  have h2 := optL_len t 2
  have h3 := optL_len u 3
  unfold drP
  split <;> (try unfold drL) <;> (try simp only [List.length_append, List.length_nil]) <;> omega
theorem DrQ.snoc {k : Nat} {o : List Int} (h : DrQ k o) (hk : k < 3) (x : Nat) : DrQ (k + 1) (o ++ optL x ((k : Int) + 1)) := by
  obtain ⟨s, t, u, hs, ht, hu, rfl⟩ := h
  obtain ⟨y, hy, hxy⟩ : ∃ y, y ≤ 2 ∧ ∀ p, optL x p = optL y p := by
    by_cases hx : x ≤ 2
    · exact ⟨x, hx, fun _ => rfl⟩
    · exact ⟨2, by omega, fun p => by rw [optL_two x p (by omega), optL_two 2 p (by omega)]⟩
  rw [hxy]
  have h3 : k = 0 ∨ k = 1 ∨ k = 2 := by omega
  rcases h3 with rfl | rfl | rfl
  · exact ⟨y, t, u, hy, ht, hu, rfl⟩
  · exact ⟨s, y, u, hs, hy, hu, rfl⟩
  · exact ⟨s, t, y, hs, ht, hy, rfl⟩
theorem DrQ.plus {k : Nat} {o : List Int} (h : DrQ k o) (hk : k < 3) : DrQ (k + 1) (o ++ [(k : Int) + 1]) := h.snoc hk 0
theorem DrQ.minus {k : Nat} {o : List Int} (h : DrQ k o) (hk : k < 3) : DrQ (k + 1) (o ++ [-((k : Int) + 1)]) := h.snoc hk 1
theorem DrQ.keep {k : Nat} {o : List Int} (h : DrQ k o) (hk : k < 3) : DrQ (k + 1) o := by
  have := h.snoc hk 2
  rwa [optL_two 2 _ (by omega), List.append_nil] at this

theorem grown_allocD {w w2 : World} {r : Option Nat} (h : w.grownBy w2 r) (ob : Obj) : w.grownBy (w2.alloc ob) r :=
  ⟨h.os, h.tape, h.output, by have := h.size; simp; omega, fun k hk hr => (Below.heap_alloc w2 ob k (Nat.lt_of_lt_of_le hk h.size)).trans (h.block k hk hr)⟩
/-- The state of the drawing: the label in memory of its own, the draws' cursor. -/
structure Dr7 (w W : World) (g0 : Nat) (A : Option Addr) (n c : Nat) (A2 : Option Addr) (d2 : Nat) (o : List Int) : Prop where
  row : W.ownsRow w.heap.size 3 1 (.slice A2 o.length d2) o.length (o.map intV)
  g0lt : g0 < w.heap.size
  cur : Cur W g0 A n c
  gr : w.grownBy W (some g0)
theorem Dr7.call {w W W' : World} {g0 : Nat} {A : Option Addr} {n c : Nat} {A2 : Option Addr} {d2 : Nat} {o : List Int} (h : Dr7 w W g0 A n c A2 d2 o) (hc : Cur W' g0 A n c) (hg : W.grownBy W' (some g0)) : Dr7 w W' g0 A n c A2 d2 o := by
  refine ⟨h.row.kept hg ?_, h.g0lt, hc, grown_trans h.gr hg⟩
  cases hb : (Value.slice A2 o.length d2).ownBlock with
  | none => exact .inl rfl
  | some q => exact .inr (fun e => by injection e with e; have := (h.row.lt q hb).1; have := h.g0lt; omega)
theorem Dr7.drew {w W : World} {g0 : Nat} {A : Option Addr} {n c : Nat} {A2 : Option Addr} {d2 : Nat} {o : List Int} (h : Dr7 w W g0 A n c A2 d2 o) : Dr7 w W.drew g0 A n c A2 d2 o := h.call (h.cur.kept rfl) ⟨rfl, rfl, rfl, Nat.le_refl _, fun _ _ _ => rfl⟩
theorem Dr7.grow {w W W' : World} {g0 : Nat} {A : Option Addr} {n c : Nat} {A2 A3 : Option Addr} {d2 d3 : Nat} {o o' : List Int} (h : Dr7 w W g0 A n c A2 d2 o) (ob : Obj) (ho : W'.ownsRow w.heap.size 3 1 (.slice A3 o'.length d3) o'.length (o'.map intV)) (hg : (W.alloc ob).grownBy W' (Value.slice A2 o.length d2).ownBlock) : Dr7 w W' g0 A n c A3 d3 o' := by
  have lt := fun q hq => (h.row.lt q hq).1
  have ng : (Value.slice A2 o.length d2).ownBlock ≠ some g0 := fun e => by have := lt _ e; have := h.g0lt; omega
  have hca := h.cur.alloc ob
  have hga := grown_allocD h.gr ob
  refine ⟨ho, h.g0lt, hca.kept (hg.block g0 hca.lt (fun e => ng e.symm)), ?_⟩
  exact ⟨hg.os.trans hga.os, hg.tape.trans hga.tape, hg.output.trans hga.output, Nat.le_trans hga.size hg.size, fun k hk hne => (hg.block k (Nat.lt_of_lt_of_le hk hga.size) (fun e => by have := lt k e.symm; omega)).trans (hga.block k hk hne)⟩

set_option maxRecDepth 100000 in
set_option maxHeartbeats 16000000 in
theorem l07Draw_any (g0 : Nat) (A : Option Addr) (n c : Nat) (w : World) (hm : n ≤ 1048576) (hcur : Cur w g0 A n c) (hby : Bytes w g0 A n) :
    Calls Tryd.prog 22 #[.pointer (some ⟨g0, 0, none⟩)] w fun e w' =>
      ∃ (s t u : Nat) (B : Option Addr) (k cb : Nat), e = .returned (.slice B k cb) ∧ s ≤ 2 ∧ t ≤ 2 ∧ u ≤ 2 ∧ k = (drL s t u).length ∧ w'.ownsRow w.heap.size 3 1 (.slice B k cb) k ((drL s t u).map intV) ∧ Cur w' g0 A n c ∧ w.grownBy w' (some g0) := by
  obtain ⟨i1, hii, hy0, hy1, hy2⟩ := info_parts Tryd.info3
  have hg0 := hcur.lt
  have hb4 := fun (W : World) (hc : Cur W g0 A n c) (hg : w.grownBy W (some g0)) => l01Below_small 4 g0 A n c W (by omega) (by omega) hm hc (hby.grown hg)
  rw [show ((4 : Nat) : Int) = 4 from rfl] at hb4
  have HB4 := Lib.hid hb4
  obtain ⟨wa, hwa⟩ : ∃ W, W = w.alloc (.cells #[] 3) := ⟨_, rfl⟩
  have D0 : Dr7 w wa g0 A n c (some ⟨w.heap.size, 0, none⟩) 0 [] := ⟨own_emp7 w.heap.size (Nat.le_refl _) (by rw [hwa]; exact heap_alloc_new _ _), hg0, by rw [hwa]; exact hcur.alloc _, by rw [hwa]; exact World.grownBy_alloc _ _ _⟩
  have HD0 := Lib.hid D0
  clear D0 hcur hby hb4
  go_enter Tryd.func22, Tryd.ntmps22
  go_upto_region 2 with (fail)
  rw [← hwa]
  clear hwa
  go_wp2_with fail
  go_loopw [4, 3] (fun i s wr => ∃ (q : Nat) (o : List Int) (A2 : Option Addr) (d2 : Nat), q ≤ 3 ∧ i = .int .i64 ((q : Int) + 1) ∧ s = .slice A2 o.length d2 ∧ DrQ q o ∧ Dr7 w wr g0 A n c A2 d2 o) (fun i _ _ => 4 - (intOf i).toNat)
  case atStart => exact ⟨0, [], _, _, by omega, rfl, rfl, DrQ.nil, HD0.out⟩
  case round =>
    obtain ⟨q, o, A2, d2, hq, rfl, rfl, hdq, hd⟩ := hrel
    have HDQ := Lib.hid hdq
    have HD := Lib.hid hd
    have hol := hdq.len
    clear hdq hd
    by_cases hlt : q < 3
    · have hql : (q : Int) + 1 ≤ 3 := by omega
      go_wp2_with fail
      refine (HB4.out _ HD.out.cur HD.out.gr).mono ?_
      rintro e w3 ⟨x, rfl, hx, hc3, hg3⟩
      have D3 := Lib.hid (HD.out.call hc3 hg3)
      clear hc3 hg3
      have hx4 : x = 0 ∨ x = 1 ∨ 2 ≤ x := by omega
      have hs3 := D3.out.gr.size
      rcases hx4 with rfl | rfl | h2
      · go_wp2_with (at_builtin; refine wpList_append_lies _ rfl _ _ 23 rfl (w.heap.size) 3 i1 (.int .i64 0) 1 8 Tryd.underlying23 hii hy0 hy1 hy2 rfl (by decide) _ _ _ rfl (D3.out.row.alloc _) ⟨_, 0, none⟩ 1 1 _ rfl rfl (World.news_of_block (heap_new7 _ _ _ (by first | rfl | simp))) (one_c17 _) (by decide) (by unfold maxLen; omega) (by omega) (by simp; omega) _ rfl ?_)
        intro g3 cap w6 ho6 hg6 hat6 hl6
        have D6 := Lib.hid (D3.out.grow (A3 := some ⟨g3, 0, none⟩) (d3 := cap) (o' := o ++ [(q : Int) + 1]) _ (by rw [List.length_append, List.map_append]; simpa [intV] using ho6) hg6)
        clear ho6 hg6 hat6 hl6
        go_wp2_with fail
        go_roundw
        case rel => exact ⟨q + 1, o ++ [(q : Int) + 1], some ⟨g3, 0, none⟩, cap, by omega, by go_num, by rw [List.length_append]; rfl, HDQ.out.plus hlt, D6.out⟩
        case measure => simp [intOf]; omega
      · go_wp2_with (at_builtin; refine wpList_append_lies _ rfl _ _ 23 rfl (w.heap.size) 3 i1 (.int .i64 0) 1 8 Tryd.underlying23 hii hy0 hy1 hy2 rfl (by decide) _ _ _ rfl (D3.out.row.alloc _) ⟨_, 0, none⟩ 1 1 _ rfl rfl (World.news_of_block (heap_new7 _ _ _ (by first | rfl | simp))) (one_c17 _) (by decide) (by unfold maxLen; omega) (by omega) (by simp; omega) _ rfl ?_)
        intro g3 cap w6 ho6 hg6 hat6 hl6
        have D6 := Lib.hid (D3.out.grow (A3 := some ⟨g3, 0, none⟩) (d3 := cap) (o' := o ++ [-((q : Int) + 1)]) _ (by rw [List.length_append, List.map_append]; simpa [intV] using ho6) hg6)
        clear ho6 hg6 hat6 hl6
        go_wp2_with fail
        go_roundw
        case rel => exact ⟨q + 1, o ++ [-((q : Int) + 1)], some ⟨g3, 0, none⟩, cap, by omega, by go_num, by rw [List.length_append]; rfl, HDQ.out.minus hlt, D6.out⟩
        case measure => simp [intOf]; omega
      · have e0 : ((x : Int) == 0) = false := by simp; omega
        have e1 : ((x : Int) == 1) = false := by simp; omega
        go_wp2_with fail
        go_roundw
        case rel => exact ⟨q + 1, o, A2, d2, by omega, by go_num, rfl, HDQ.out.keep hlt, D3.out⟩
        case measure => simp [intOf]; omega
    · have hql : ¬ ((q : Int) + 1 ≤ 3) := by omega
      have hq3 : q = 3 := by omega
      subst hq3
      go_wp2_with fail
      refine bodyPost_ret (v := .slice A2 o.length d2) (by simp [results, Tryd.results22, go_sem]) rfl ?_
      obtain ⟨s, t, u, hs, ht, hu, ho⟩ := HDQ.out
      have ho2 : o = drL s t u := ho
      refine ⟨s, t, u, A2, o.length, d2, rfl, hs, ht, hu, by rw [ho2], ?_, HD.out.cur, HD.out.gr⟩
      rw [← ho2]
      exact HD.out.row

set_option maxRecDepth 100000 in
set_option maxHeartbeats 4000000 in
theorem MakeLabel_any (m : Nat) (A : Option Addr) (n c : Nat) (w : World) (hm : n ≤ 1048576) (hm2 : m ≤ 65536) (hby : Bytes w w.heap.size A n) :
    Calls Tryd.prog 6 #[.slice A n c, .int .i64 m] w fun e w' =>
      ∃ (s t u : Nat) (B : Option Addr) (k cb : Nat), e = .returned (.slice B k cb) ∧ s ≤ 2 ∧ t ≤ 2 ∧ u ≤ 2 ∧ k = (drL s t u).length ∧ w'.ownsRow w.heap.size 3 1 (.slice B k cb) k ((drL s t u).map intV) ∧ Below w.heap.size w w' := by
  have HBY := Lib.hid hby
  clear hby
  go_enter Tryd.func6, Tryd.ntmps6
  go_wp2_with fail
  refine (l29New_any m A n c _ hm hm2 HBY.out).mono ?_
  rintro e w1 ⟨rfl, hc1, b1⟩
  have hs1 := hc1.lt
  have HQ := Lib.hid (l07Draw_any w.heap.size A n c w1 hm hc1 (HBY.out.below b1))
  have B1 := Lib.hid b1
  clear hc1 b1
  go_wp2_with fail
  refine HQ.out.mono ?_
  rintro e w2 ⟨s, t, u, B, k, cb, rfl, hs, ht, hu, hk, ho, _, g2⟩
  have HO := Lib.hid ho
  have B2 := Lib.hid (B1.out.grown g2 (by omega) (fun k hk => by cases hk; omega))
  have HK := Lib.hid hk
  clear g2 ho hk
  go_wp2_with fail
  refine bodyPost_ret (v := .slice B k cb) (by simp [results, Tryd.results6, go_sem]) rfl ⟨s, t, u, B, k, cb, rfl, hs, ht, hu, HK.out, own_base HO.out (by omega), B2.out⟩

end Go.Proofs.YtaokabkffnjbjaaDoor

namespace Go.Proofs.YtaokabkffnjbjaaDoor
open Go.RowKit Go.ChangeShapes Go.WideShapes Go.ChangeAt Go.WideMaps Go.WideElems
set_option linter.unusedVariables false

theorem cells_u8 : Tryd.prog.cellsOf 5 = 1 := by kernel_rfl

/-- A slice of bytes that comes in, nil or not: its length, and that its cells hold bytes, below whatever block the call makes. -/
theorem bytes_in {H : Type} {enc : TypeId × Value → H} {P : Program} {W : World} {t e : TypeId} {fuel n c : Nat} {A : Option Addr} {x : DataW H × List MemPlace}
    (ht : P.underlying t = some (.slice e)) (he : P.underlying e = some (.int .u8)) (hc : P.cellsOf e = 1)
    (hf : DataW.trod enc P W 0 (fun _ => true) true fuel t (Value.slice A n c).cells.toList = some x) :
    n ≤ maxLen ∧ Bytes W W.heap.size A n := by
  rcases open_ints ht he hc hf with ⟨hcs, _⟩ | ⟨a, len, cap, zs, hcs, _, hl, hm, hz, _, hcell, hws⟩
  · simp [Value.cells] at hcs
    obtain ⟨rfl, rfl, rfl⟩ := hcs
    exact ⟨Nat.zero_le _, fun h => by omega⟩
  · simp [Value.cells] at hcs
    obtain ⟨rfl, rfl, rfl⟩ := hcs
    have hlen : zs.length = c := by simpa using hz
    refine ⟨by omega, fun hp => ?_⟩
    have h0 := hcell 0 (by omega)
    obtain ⟨b, off, spot⟩ := a
    have hspot : spot = none := by simpa [Addr.add] using World.cell?_spot h0
    subst hspot
    have hb : b < W.heap.size := by
      rcases Nat.lt_or_ge b W.heap.size with hlt | hge
      · exact hlt
      · have : W.heap[b]? = none := Array.getElem?_eq_none hge
        simp [Addr.add, World.cell?, this] at h0
    refine ⟨b, off, rfl, hb, by omega, fun j hj => ?_⟩
    have hw := hws (zs.getD j 0) (by
      rw [List.getD_eq_getElem?_getD, List.getElem?_eq_getElem (by omega)]
      exact List.getElem_mem _)
    have hb2 : 0 ≤ zs.getD j 0 ∧ zs.getD j 0 ≤ 255 := by
      simpa [Lit.wf, IntKind.min, IntKind.max, IntKind.signed, IntKind.bits] using hw
    exact ⟨zs.getD j 0, hb2.1, hb2.2, by rw [← Go.WideShapes.add_plain]; exact hcell j (by omega)⟩

end Go.Proofs.YtaokabkffnjbjaaDoor
