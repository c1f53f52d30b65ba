/-
  WALK of impl.JoinLabels.
  PLAIN: what the text of an int is, and that strconv.Atoi reads it back.
  WALKS of impl.ParseInt and spec.ParseInt.
  WALK of spec.ParseInt.
  WALKS of spec.SplitLines and impl.SplitLines.
-/
import Derived.Test.YtaokabkffnjbjaaDoorBdLbS
import Derived.Deep.AppendLies
import Derived.Deep.CutRange
import Derived.Test.YtaokabkffnjbjaaDoorBdDig
import Derived.Test.YtaokabkffnjbjaaDoorBdNum
import Derived.Lib.AtoiAll
import Derived.Lib.AtoiAllCases
import Derived.Deep.QuietTactic
import Derived.BigQuiet
import Derived.Lib.IndexBytes
import Derived.Test.YtaokabkffnjbjaaDoorProg
namespace Go.Proofs.YtaokabkffnjbjaaDoor
open Go.RowKit
set_option linter.unusedVariables false
set_option linter.unusedSimpArgs false

/-- What the program joins: each proposition, then its negative. -/
def joR (a b : List Int) : Nat → List Int
  | 0 => []
  | j + 1 => joR a b j ++ (if hasR a ((j + 1 : Nat) : Int) || hasR b ((j + 1 : Nat) : Int) then [((j + 1 : Nat) : Int)] else []) ++ (if hasR a (-((j + 1 : Nat) : Int)) || hasR b (-((j + 1 : Nat) : Int)) then [-((j + 1 : Nat) : Int)] else [])
theorem joR_next {a b : List Int} {j : Nat} : joR a b (j + 1) = joR a b j ++ (if hasR a ((j + 1 : Nat) : Int) || hasR b ((j + 1 : Nat) : Int) then [((j + 1 : Nat) : Int)] else []) ++ (if hasR a (-((j + 1 : Nat) : Int)) || hasR b (-((j + 1 : Nat) : Int)) then [-((j + 1 : Nat) : Int)] else []) := rfl
theorem joR_len (a b : List Int) : ∀ j, (joR a b j).length ≤ 2 * j
  | 0 => by simp [joR]
  | j + 1 => by
    have := joR_len a b j
    rw [joR_next, List.length_append, List.length_append]
    split <;> split <;> simp <;> omega
def jnX (y n : Bool) (p : Int) : Option (List Int) := if y then (if n then none else some [p]) else (if n then some [-p] else some [])
def jnS (r s : Option (List Int)) : Option (List Int) := match r with | some o => (match s with | some q => some (o ++ q) | none => none) | none => none
def jnE (r : Option (List Int)) : List Int × Bool := match r with | some o => (o, true) | none => ([], false)
def joX (y1 n1 y2 n2 y3 n3 : Bool) : List Int := (if y1 then [1] else []) ++ (if n1 then [-1] else []) ++ (if y2 then [2] else []) ++ (if n2 then [-2] else []) ++ (if y3 then [3] else []) ++ (if n3 then [-3] else [])
theorem jn_bits : ∀ y1 n1 y2 n2 y3 n3 : Bool, jnE (jnS (jnS (jnS (some []) (jnX y1 n1 1)) (jnX y2 n2 2)) (jnX y3 n3 3)) = (if labR (joX y1 n1 y2 n2 y3 n3) then (joX y1 n1 y2 n2 y3 n3, true) else ([], false)) := by decide
theorem jnP_x (a b : List Int) (p : Nat) : jnP a b p = jnX (hasR a p || hasR b p) (hasR a (-(p : Int)) || hasR b (-(p : Int))) p := rfl
theorem jnJ_s (a b : List Int) (j : Nat) : jnJ a b (j + 1) = jnS (jnJ a b j) (jnP a b (j + 1)) := rfl
theorem jn_form {a b : List Int} (h1 : labR a = true) (h2 : labR b = true) : jnR a b = if labR (joR a b 3) then (joR a b 3, true) else ([], false) := by
  have h := jn_bits (hasR a 1 || hasR b 1) (hasR a (-1) || hasR b (-1)) (hasR a 2 || hasR b 2) (hasR a (-2) || hasR b (-2)) (hasR a 3 || hasR b 3) (hasR a (-3) || hasR b (-3))
  have e : joR a b 3 = joX (hasR a 1 || hasR b 1) (hasR a (-1) || hasR b (-1)) (hasR a 2 || hasR b 2) (hasR a (-2) || hasR b (-2)) (hasR a 3 || hasR b 3) (hasR a (-3) || hasR b (-3)) := by
    rw [joR_next, joR_next, joR_next]
    unfold joX
    simp only [List.append_assoc]
    rfl
  have g : jnJ a b 3 = jnS (jnS (jnS (some []) (jnX (hasR a 1 || hasR b 1) (hasR a (-1) || hasR b (-1)) 1)) (jnX (hasR a 2 || hasR b 2) (hasR a (-2) || hasR b (-2)) 2)) (jnX (hasR a 3 || hasR b 3) (hasR a (-3) || hasR b (-3)) 3) := by
    rw [jnJ_s, jnJ_s, jnJ_s, jnP_x, jnP_x, jnP_x]; rfl
  have r : jnR a b = jnE (jnJ a b 3) := by unfold jnR; rw [h1, h2]; rfl
  rw [r, e, g, h]

set_option maxRecDepth 100000 in
set_option maxHeartbeats 4000000 in
theorem impl_JoinLabels (a b : List Int) (A : Option Addr) (k c : Nat) (B : Option Addr) (m d : Nat) (w : World) (hl : a.length = k) (hm : k ≤ 1048576) (hlb : b.length = m) (hmb : m ≤ 1048576) (hr : RowAt w A (a.map intV)) (hrb : RowAt w B (b.map intV)) :
    Calls Tryd.prog 11 #[.slice A k c, .slice B m d] w fun e w' => ∃ C q cb, e = .returned (.tuple #[.slice C q cb, .bool (jnR a b).2]) ∧ q = (jnR a b).1.length ∧ w'.ownsRow w.heap.size 3 1 (.slice C q cb) q ((jnR a b).1.map intV) ∧ Below w.heap.size w w' := by
  obtain ⟨i1, hii, hy0, hy1, hy2⟩ := info_parts Tryd.info3
  have HOA := Lib.hid (impl_LabelOk0 a A k c w hl hm hr)
  have HOB := Lib.hid (impl_LabelOk0 b B m d w hlb hmb hrb)
  have HHA := Lib.hid (fun n W h => has_lw n a A k c W hl hm h)
  have HHB := Lib.hid (fun n W h => has_lw n b B m d W hlb hmb h)
  have HRA := Lib.hid hr
  have HRB := Lib.hid hrb
  clear hr hrb hl hlb
  obtain ⟨b1, hb1⟩ : ∃ x, x = labR a := ⟨_, rfl⟩
  obtain ⟨b2, hb2⟩ : ∃ x, x = labR b := ⟨_, rfl⟩
  rw [← hb1] at HOA
  rw [← hb2] at HOB
  have H11 := Lib.hid hb1.symm
  have H22 := Lib.hid hb2.symm
  clear hb1 hb2
  cases b1 with
  | false =>
    have HR0 := Lib.hid (show jnR a b = ([], false) from by unfold jnR; rw [H11.out]; rfl)
    go_enter Tryd.func11, Tryd.ntmps11
    go_wp2_with fail
    refine HOA.out.mono ?_
    rintro e w1 ⟨rfl, rfl⟩
    go_wp2_with fail
    refine bodyPost_ret (v := .tuple #[.slice none 0 0, .bool false]) (by simp [results, Tryd.results11, go_sem]) rfl ?_
    rw [HR0.out]
    exact ⟨none, 0, 0, rfl, rfl, World.ownsRow_nil _ _ _ _, Below.refl _ _⟩
  | true =>
    cases b2 with
    | false =>
      have HR0 := Lib.hid (show jnR a b = ([], false) from by unfold jnR; rw [H11.out, H22.out]; rfl)
      go_enter Tryd.func11, Tryd.ntmps11
      go_wp2_with fail
      refine HOA.out.mono ?_
      rintro e w1 ⟨rfl, hw1⟩
      subst hw1
      go_wp2_with fail
      refine HOB.out.mono ?_
      rintro e w1 ⟨rfl, rfl⟩
      go_wp2_with fail
      refine bodyPost_ret (v := .tuple #[.slice none 0 0, .bool false]) (by simp [results, Tryd.results11, go_sem]) rfl ?_
      rw [HR0.out]
      exact ⟨none, 0, 0, rfl, rfl, World.ownsRow_nil _ _ _ _, Below.refl _ _⟩
    | true =>
      have HJF := Lib.hid (jn_form H11.out H22.out)
      go_enter Tryd.func11, Tryd.ntmps11
      go_wp2_with fail
      refine HOA.out.mono ?_
      rintro e w1 ⟨rfl, hw1⟩
      subst hw1
      go_wp2_with fail
      refine HOB.out.mono ?_
      rintro e w1 ⟨rfl, hw1⟩
      subst hw1
      go_wp2_with fail
      go_loopw [17, 6] (fun i s wr => ∃ (q : Nat) (o : List Int) (A2 : Option Addr) (d2 : Nat), q ≤ 3 ∧ i = .int .i64 (q : Int) ∧ s = .slice A2 o.length d2 ∧ joR a b q = o ∧ wr.ownsRow w.heap.size 3 1 (.slice A2 o.length d2) o.length (o.map intV) ∧ Below w.heap.size w wr) (fun i _ _ => 3 - (intOf i).toNat)
      case atStart => exact ⟨0, [], none, 0, by omega, rfl, rfl, rfl, World.ownsRow_nil _ _ _ _, Below.refl _ _⟩
      case round =>
        obtain ⟨q, o, A2, d2, hq, rfl, rfl, hj, hown, hb⟩ := hrel
        have OW := Lib.hid hown
        have HB := Lib.hid hb
        have HJ := Lib.hid hj
        have hol : o.length ≤ 2 * q := by rw [← hj]; exact joR_len a b q
        have hbs := hb.size
        clear hown hb hj
        by_cases hlt : q < 3
        · have hql : ((q : Int) < 3) := by omega
          have hnx := joR_next (a := a) (b := b) (j := q)
          obtain ⟨p, hp⟩ : ∃ p : Nat, p = q + 1 := ⟨_, rfl⟩
          rw [← hp] at hnx
          have HPQ := Lib.hid hp
          have hpi : (q : Int) + 1 = (p : Int) := by omega
          have hp1 : (1 : Int) ≤ (p : Int) := by omega
          have hp3 : (p : Int) ≤ 3 := by omega
          rw [hp] at hnx
          rw [← hp] at hnx
          have h1 := HHA.out (p : Int)
          have h2 := HHB.out (p : Int)
          have h3 := HHA.out (-(p : Int))
          have h4 := HHB.out (-(p : Int))
          obtain ⟨t1, e1⟩ : ∃ x, x = hasR a (p : Int) := ⟨_, rfl⟩
          obtain ⟨t2, e2⟩ : ∃ x, x = hasR b (p : Int) := ⟨_, rfl⟩
          obtain ⟨t3, e3⟩ : ∃ x, x = hasR a (-(p : Int)) := ⟨_, rfl⟩
          obtain ⟨t4, e4⟩ : ∃ x, x = hasR b (-(p : Int)) := ⟨_, rfl⟩
          rw [← e1] at h1
          rw [← e2] at h2
          rw [← e3] at h3
          rw [← e4] at h4
          have HNX := Lib.hid (show joR a b (q + 1) = joR a b q ++ (if hasR a (p : Int) || hasR b (p : Int) then [(p : Int)] else []) ++ (if hasR a (-(p : Int)) || hasR b (-(p : Int)) then [-(p : Int)] else []) from by rw [hp]; exact joR_next)
          have H1 := Lib.hid h1
          have H2 := Lib.hid h2
          have H3 := Lib.hid h3
          have H4 := Lib.hid h4
          have E1 := Lib.hid e1
          have E2 := Lib.hid e2
          have E3 := Lib.hid e3
          have E4 := Lib.hid e4
          clear h1 h2 h3 h4 e1 e2 e3 e4 hnx hp
          cases t1 with
          | true =>
            cases t3 with
            | true =>
              have HJ2 := Lib.hid (show joR a b (q + 1) = o ++ [(p : Int)] ++ [-(p : Int)] from by rw [HNX.out, HJ.out, ← E1.out, ← E2.out, ← E3.out, ← E4.out]; simp)
              go_wp2_with fail
              refine (H1.out _ (HRA.out.below HB.out)).mono ?_
              rintro e w9 ⟨rfl, hw9⟩
              subst hw9
              go_wp2_with (at_builtin; refine wpList_append_lies _ rfl _ _ 23 rfl (w.heap.size) 3 i1 (.int .i64 0) 1 8 Tryd.underlying23 hii hy0 hy1 hy2 rfl (by decide) _ _ _ rfl (OW.out.alloc _) ⟨_, 0, none⟩ 1 1 _ rfl rfl (World.news_of_block (heap_newW _ _ _ (by first | rfl | simp))) (one_c1W _) (by decide) (by unfold maxLen; omega) (by omega) (by simp; omega) _ rfl ?_)
              intro g1 cap1 v1 ho hg hat hl
              have OW1 : Hid (v1.ownsRow w.heap.size 3 1 (.slice (some ⟨g1, 0, none⟩) (o.length + 1) cap1) (o.length + 1) ((o ++ [(p : Int)]).map intV)) := Lib.hid (by rw [List.map_append]; simpa [intV] using ho)
              have HB1 : Hid (Below w.heap.size w v1) := Lib.hid ((HB.out.alloc hbs _).grown hg (by simp; omega) (fun r hr => (OW.out.lt r hr).1))
              have hbs1 : w.heap.size ≤ v1.heap.size := HB1.out.size
              clear ho hg hat hl
              go_wp2_with fail
              refine (H3.out _ (HRA.out.below HB1.out)).mono ?_
              rintro e w9 ⟨rfl, hw9⟩
              subst hw9
              go_wp2_with (at_builtin; refine wpList_append_lies _ rfl _ _ 23 rfl (w.heap.size) 3 i1 (.int .i64 0) 1 8 Tryd.underlying23 hii hy0 hy1 hy2 rfl (by decide) _ _ _ rfl (OW1.out.alloc _) ⟨_, 0, none⟩ 1 1 _ rfl rfl (World.news_of_block (heap_newW _ _ _ (by first | rfl | simp))) (one_c1W _) (by decide) (by unfold maxLen; omega) (by omega) (by simp; omega) _ rfl ?_)
              intro g2 cap2 v2 ho hg hat hl
              have OW2 : Hid (v2.ownsRow w.heap.size 3 1 (.slice (some ⟨g2, 0, none⟩) (o.length + 1 + 1) cap2) (o.length + 1 + 1) (((o ++ [(p : Int)]) ++ [-(p : Int)]).map intV)) := Lib.hid (by rw [List.map_append]; simpa [intV] using ho)
              have HB2 : Hid (Below w.heap.size w v2) := Lib.hid ((HB1.out.alloc hbs1 _).grown hg (by simp; omega) (fun r hr => (OW1.out.lt r hr).1))
              have hbs2 : w.heap.size ≤ v2.heap.size := HB2.out.size
              clear ho hg hat hl
              go_wp2_with fail
              go_roundw
              case rel => exact ⟨q + 1, ((o ++ [(p : Int)]) ++ [-(p : Int)]), _, _, by have := HPQ.out; omega, by have := HPQ.out; go_num, by first | rfl | (simp; done) | (congr 1; simp), by rw [HJ2.out], by have h := OW2.out; rw [show o.length + 1 + 1 = ((o ++ [(p : Int)]) ++ [-(p : Int)]).length from by simp] at h; exact h, HB2.out⟩
              case measure => simp [intOf]; omega
            | false =>
              cases t4 with
              | true =>
                have HJ2 := Lib.hid (show joR a b (q + 1) = o ++ [(p : Int)] ++ [-(p : Int)] from by rw [HNX.out, HJ.out, ← E1.out, ← E2.out, ← E3.out, ← E4.out]; simp)
                go_wp2_with fail
                refine (H1.out _ (HRA.out.below HB.out)).mono ?_
                rintro e w9 ⟨rfl, hw9⟩
                subst hw9
                go_wp2_with (at_builtin; refine wpList_append_lies _ rfl _ _ 23 rfl (w.heap.size) 3 i1 (.int .i64 0) 1 8 Tryd.underlying23 hii hy0 hy1 hy2 rfl (by decide) _ _ _ rfl (OW.out.alloc _) ⟨_, 0, none⟩ 1 1 _ rfl rfl (World.news_of_block (heap_newW _ _ _ (by first | rfl | simp))) (one_c1W _) (by decide) (by unfold maxLen; omega) (by omega) (by simp; omega) _ rfl ?_)
                intro g1 cap1 v1 ho hg hat hl
                have OW1 : Hid (v1.ownsRow w.heap.size 3 1 (.slice (some ⟨g1, 0, none⟩) (o.length + 1) cap1) (o.length + 1) ((o ++ [(p : Int)]).map intV)) := Lib.hid (by rw [List.map_append]; simpa [intV] using ho)
                have HB1 : Hid (Below w.heap.size w v1) := Lib.hid ((HB.out.alloc hbs _).grown hg (by simp; omega) (fun r hr => (OW.out.lt r hr).1))
                have hbs1 : w.heap.size ≤ v1.heap.size := HB1.out.size
                clear ho hg hat hl
                go_wp2_with fail
                refine (H3.out _ (HRA.out.below HB1.out)).mono ?_
                rintro e w9 ⟨rfl, hw9⟩
                subst hw9
                go_wp2_with fail
                refine (H4.out _ (HRB.out.below HB1.out)).mono ?_
                rintro e w9 ⟨rfl, hw9⟩
                subst hw9
                go_wp2_with (at_builtin; refine wpList_append_lies _ rfl _ _ 23 rfl (w.heap.size) 3 i1 (.int .i64 0) 1 8 Tryd.underlying23 hii hy0 hy1 hy2 rfl (by decide) _ _ _ rfl (OW1.out.alloc _) ⟨_, 0, none⟩ 1 1 _ rfl rfl (World.news_of_block (heap_newW _ _ _ (by first | rfl | simp))) (one_c1W _) (by decide) (by unfold maxLen; omega) (by omega) (by simp; omega) _ rfl ?_)
                intro g2 cap2 v2 ho hg hat hl
                have OW2 : Hid (v2.ownsRow w.heap.size 3 1 (.slice (some ⟨g2, 0, none⟩) (o.length + 1 + 1) cap2) (o.length + 1 + 1) (((o ++ [(p : Int)]) ++ [-(p : Int)]).map intV)) := Lib.hid (by rw [List.map_append]; simpa [intV] using ho)
                have HB2 : Hid (Below w.heap.size w v2) := Lib.hid ((HB1.out.alloc hbs1 _).grown hg (by simp; omega) (fun r hr => (OW1.out.lt r hr).1))
                have hbs2 : w.heap.size ≤ v2.heap.size := HB2.out.size
                clear ho hg hat hl
                go_wp2_with fail
                go_roundw
                case rel => exact ⟨q + 1, ((o ++ [(p : Int)]) ++ [-(p : Int)]), _, _, by have := HPQ.out; omega, by have := HPQ.out; go_num, by first | rfl | (simp; done) | (congr 1; simp), by rw [HJ2.out], by have h := OW2.out; rw [show o.length + 1 + 1 = ((o ++ [(p : Int)]) ++ [-(p : Int)]).length from by simp] at h; exact h, HB2.out⟩
                case measure => simp [intOf]; omega
              | false =>
                have HJ2 := Lib.hid (show joR a b (q + 1) = o ++ [(p : Int)] from by rw [HNX.out, HJ.out, ← E1.out, ← E2.out, ← E3.out, ← E4.out]; simp)
                go_wp2_with fail
                refine (H1.out _ (HRA.out.below HB.out)).mono ?_
                rintro e w9 ⟨rfl, hw9⟩
                subst hw9
                go_wp2_with (at_builtin; refine wpList_append_lies _ rfl _ _ 23 rfl (w.heap.size) 3 i1 (.int .i64 0) 1 8 Tryd.underlying23 hii hy0 hy1 hy2 rfl (by decide) _ _ _ rfl (OW.out.alloc _) ⟨_, 0, none⟩ 1 1 _ rfl rfl (World.news_of_block (heap_newW _ _ _ (by first | rfl | simp))) (one_c1W _) (by decide) (by unfold maxLen; omega) (by omega) (by simp; omega) _ rfl ?_)
                intro g1 cap1 v1 ho hg hat hl
                have OW1 : Hid (v1.ownsRow w.heap.size 3 1 (.slice (some ⟨g1, 0, none⟩) (o.length + 1) cap1) (o.length + 1) ((o ++ [(p : Int)]).map intV)) := Lib.hid (by rw [List.map_append]; simpa [intV] using ho)
                have HB1 : Hid (Below w.heap.size w v1) := Lib.hid ((HB.out.alloc hbs _).grown hg (by simp; omega) (fun r hr => (OW.out.lt r hr).1))
                have hbs1 : w.heap.size ≤ v1.heap.size := HB1.out.size
                clear ho hg hat hl
                go_wp2_with fail
                refine (H3.out _ (HRA.out.below HB1.out)).mono ?_
                rintro e w9 ⟨rfl, hw9⟩
                subst hw9
                go_wp2_with fail
                refine (H4.out _ (HRB.out.below HB1.out)).mono ?_
                rintro e w9 ⟨rfl, hw9⟩
                subst hw9
                go_wp2_with fail
                go_roundw
                case rel => exact ⟨q + 1, (o ++ [(p : Int)]), _, _, by have := HPQ.out; omega, by have := HPQ.out; go_num, by first | rfl | (simp; done) | (congr 1; simp), by rw [HJ2.out], by have h := OW1.out; rw [show o.length + 1 = (o ++ [(p : Int)]).length from by simp] at h; exact h, HB1.out⟩
                case measure => simp [intOf]; omega
          | false =>
            cases t2 with
            | true =>
              cases t3 with
              | true =>
                have HJ2 := Lib.hid (show joR a b (q + 1) = o ++ [(p : Int)] ++ [-(p : Int)] from by rw [HNX.out, HJ.out, ← E1.out, ← E2.out, ← E3.out, ← E4.out]; simp)
                go_wp2_with fail
                refine (H1.out _ (HRA.out.below HB.out)).mono ?_
                rintro e w9 ⟨rfl, hw9⟩
                subst hw9
                go_wp2_with fail
                refine (H2.out _ (HRB.out.below HB.out)).mono ?_
                rintro e w9 ⟨rfl, hw9⟩
                subst hw9
                go_wp2_with (at_builtin; refine wpList_append_lies _ rfl _ _ 23 rfl (w.heap.size) 3 i1 (.int .i64 0) 1 8 Tryd.underlying23 hii hy0 hy1 hy2 rfl (by decide) _ _ _ rfl (OW.out.alloc _) ⟨_, 0, none⟩ 1 1 _ rfl rfl (World.news_of_block (heap_newW _ _ _ (by first | rfl | simp))) (one_c1W _) (by decide) (by unfold maxLen; omega) (by omega) (by simp; omega) _ rfl ?_)
                intro g1 cap1 v1 ho hg hat hl
                have OW1 : Hid (v1.ownsRow w.heap.size 3 1 (.slice (some ⟨g1, 0, none⟩) (o.length + 1) cap1) (o.length + 1) ((o ++ [(p : Int)]).map intV)) := Lib.hid (by rw [List.map_append]; simpa [intV] using ho)
                have HB1 : Hid (Below w.heap.size w v1) := Lib.hid ((HB.out.alloc hbs _).grown hg (by simp; omega) (fun r hr => (OW.out.lt r hr).1))
                have hbs1 : w.heap.size ≤ v1.heap.size := HB1.out.size
                clear ho hg hat hl
                go_wp2_with fail
                refine (H3.out _ (HRA.out.below HB1.out)).mono ?_
                rintro e w9 ⟨rfl, hw9⟩
                subst hw9
                go_wp2_with (at_builtin; refine wpList_append_lies _ rfl _ _ 23 rfl (w.heap.size) 3 i1 (.int .i64 0) 1 8 Tryd.underlying23 hii hy0 hy1 hy2 rfl (by decide) _ _ _ rfl (OW1.out.alloc _) ⟨_, 0, none⟩ 1 1 _ rfl rfl (World.news_of_block (heap_newW _ _ _ (by first | rfl | simp))) (one_c1W _) (by decide) (by unfold maxLen; omega) (by omega) (by simp; omega) _ rfl ?_)
                intro g2 cap2 v2 ho hg hat hl
                have OW2 : Hid (v2.ownsRow w.heap.size 3 1 (.slice (some ⟨g2, 0, none⟩) (o.length + 1 + 1) cap2) (o.length + 1 + 1) (((o ++ [(p : Int)]) ++ [-(p : Int)]).map intV)) := Lib.hid (by rw [List.map_append]; simpa [intV] using ho)
                have HB2 : Hid (Below w.heap.size w v2) := Lib.hid ((HB1.out.alloc hbs1 _).grown hg (by simp; omega) (fun r hr => (OW1.out.lt r hr).1))
                have hbs2 : w.heap.size ≤ v2.heap.size := HB2.out.size
                clear ho hg hat hl
                go_wp2_with fail
                go_roundw
                case rel => exact ⟨q + 1, ((o ++ [(p : Int)]) ++ [-(p : Int)]), _, _, by have := HPQ.out; omega, by have := HPQ.out; go_num, by first | rfl | (simp; done) | (congr 1; simp), by rw [HJ2.out], by have h := OW2.out; rw [show o.length + 1 + 1 = ((o ++ [(p : Int)]) ++ [-(p : Int)]).length from by simp] at h; exact h, HB2.out⟩
                case measure => simp [intOf]; omega
              | false =>
                cases t4 with
                | true =>
                  have HJ2 := Lib.hid (show joR a b (q + 1) = o ++ [(p : Int)] ++ [-(p : Int)] from by rw [HNX.out, HJ.out, ← E1.out, ← E2.out, ← E3.out, ← E4.out]; simp)
                  go_wp2_with fail
                  refine (H1.out _ (HRA.out.below HB.out)).mono ?_
                  rintro e w9 ⟨rfl, hw9⟩
                  subst hw9
                  go_wp2_with fail
                  refine (H2.out _ (HRB.out.below HB.out)).mono ?_
                  rintro e w9 ⟨rfl, hw9⟩
                  subst hw9
                  go_wp2_with (at_builtin; refine wpList_append_lies _ rfl _ _ 23 rfl (w.heap.size) 3 i1 (.int .i64 0) 1 8 Tryd.underlying23 hii hy0 hy1 hy2 rfl (by decide) _ _ _ rfl (OW.out.alloc _) ⟨_, 0, none⟩ 1 1 _ rfl rfl (World.news_of_block (heap_newW _ _ _ (by first | rfl | simp))) (one_c1W _) (by decide) (by unfold maxLen; omega) (by omega) (by simp; omega) _ rfl ?_)
                  intro g1 cap1 v1 ho hg hat hl
                  have OW1 : Hid (v1.ownsRow w.heap.size 3 1 (.slice (some ⟨g1, 0, none⟩) (o.length + 1) cap1) (o.length + 1) ((o ++ [(p : Int)]).map intV)) := Lib.hid (by rw [List.map_append]; simpa [intV] using ho)
                  have HB1 : Hid (Below w.heap.size w v1) := Lib.hid ((HB.out.alloc hbs _).grown hg (by simp; omega) (fun r hr => (OW.out.lt r hr).1))
                  have hbs1 : w.heap.size ≤ v1.heap.size := HB1.out.size
                  clear ho hg hat hl
                  go_wp2_with fail
                  refine (H3.out _ (HRA.out.below HB1.out)).mono ?_
                  rintro e w9 ⟨rfl, hw9⟩
                  subst hw9
                  go_wp2_with fail
                  refine (H4.out _ (HRB.out.below HB1.out)).mono ?_
                  rintro e w9 ⟨rfl, hw9⟩
                  subst hw9
                  go_wp2_with (at_builtin; refine wpList_append_lies _ rfl _ _ 23 rfl (w.heap.size) 3 i1 (.int .i64 0) 1 8 Tryd.underlying23 hii hy0 hy1 hy2 rfl (by decide) _ _ _ rfl (OW1.out.alloc _) ⟨_, 0, none⟩ 1 1 _ rfl rfl (World.news_of_block (heap_newW _ _ _ (by first | rfl | simp))) (one_c1W _) (by decide) (by unfold maxLen; omega) (by omega) (by simp; omega) _ rfl ?_)
                  intro g2 cap2 v2 ho hg hat hl
                  have OW2 : Hid (v2.ownsRow w.heap.size 3 1 (.slice (some ⟨g2, 0, none⟩) (o.length + 1 + 1) cap2) (o.length + 1 + 1) (((o ++ [(p : Int)]) ++ [-(p : Int)]).map intV)) := Lib.hid (by rw [List.map_append]; simpa [intV] using ho)
                  have HB2 : Hid (Below w.heap.size w v2) := Lib.hid ((HB1.out.alloc hbs1 _).grown hg (by simp; omega) (fun r hr => (OW1.out.lt r hr).1))
                  have hbs2 : w.heap.size ≤ v2.heap.size := HB2.out.size
                  clear ho hg hat hl
                  go_wp2_with fail
                  go_roundw
                  case rel => exact ⟨q + 1, ((o ++ [(p : Int)]) ++ [-(p : Int)]), _, _, by have := HPQ.out; omega, by have := HPQ.out; go_num, by first | rfl | (simp; done) | (congr 1; simp), by rw [HJ2.out], by have h := OW2.out; rw [show o.length + 1 + 1 = ((o ++ [(p : Int)]) ++ [-(p : Int)]).length from by simp] at h; exact h, HB2.out⟩
                  case measure => simp [intOf]; omega
                | false =>
                  have HJ2 := Lib.hid (show joR a b (q + 1) = o ++ [(p : Int)] from by rw [HNX.out, HJ.out, ← E1.out, ← E2.out, ← E3.out, ← E4.out]; simp)
                  go_wp2_with fail
                  refine (H1.out _ (HRA.out.below HB.out)).mono ?_
                  rintro e w9 ⟨rfl, hw9⟩
                  subst hw9
                  go_wp2_with fail
                  refine (H2.out _ (HRB.out.below HB.out)).mono ?_
                  rintro e w9 ⟨rfl, hw9⟩
                  subst hw9
                  go_wp2_with (at_builtin; refine wpList_append_lies _ rfl _ _ 23 rfl (w.heap.size) 3 i1 (.int .i64 0) 1 8 Tryd.underlying23 hii hy0 hy1 hy2 rfl (by decide) _ _ _ rfl (OW.out.alloc _) ⟨_, 0, none⟩ 1 1 _ rfl rfl (World.news_of_block (heap_newW _ _ _ (by first | rfl | simp))) (one_c1W _) (by decide) (by unfold maxLen; omega) (by omega) (by simp; omega) _ rfl ?_)
                  intro g1 cap1 v1 ho hg hat hl
                  have OW1 : Hid (v1.ownsRow w.heap.size 3 1 (.slice (some ⟨g1, 0, none⟩) (o.length + 1) cap1) (o.length + 1) ((o ++ [(p : Int)]).map intV)) := Lib.hid (by rw [List.map_append]; simpa [intV] using ho)
                  have HB1 : Hid (Below w.heap.size w v1) := Lib.hid ((HB.out.alloc hbs _).grown hg (by simp; omega) (fun r hr => (OW.out.lt r hr).1))
                  have hbs1 : w.heap.size ≤ v1.heap.size := HB1.out.size
                  clear ho hg hat hl
                  go_wp2_with fail
                  refine (H3.out _ (HRA.out.below HB1.out)).mono ?_
                  rintro e w9 ⟨rfl, hw9⟩
                  subst hw9
                  go_wp2_with fail
                  refine (H4.out _ (HRB.out.below HB1.out)).mono ?_
                  rintro e w9 ⟨rfl, hw9⟩
                  subst hw9
                  go_wp2_with fail
                  go_roundw
                  case rel => exact ⟨q + 1, (o ++ [(p : Int)]), _, _, by have := HPQ.out; omega, by have := HPQ.out; go_num, by first | rfl | (simp; done) | (congr 1; simp), by rw [HJ2.out], by have h := OW1.out; rw [show o.length + 1 = (o ++ [(p : Int)]).length from by simp] at h; exact h, HB1.out⟩
                  case measure => simp [intOf]; omega
            | false =>
              cases t3 with
              | true =>
                have HJ2 := Lib.hid (show joR a b (q + 1) = o ++ [-(p : Int)] from by rw [HNX.out, HJ.out, ← E1.out, ← E2.out, ← E3.out, ← E4.out]; simp)
                go_wp2_with fail
                refine (H1.out _ (HRA.out.below HB.out)).mono ?_
                rintro e w9 ⟨rfl, hw9⟩
                subst hw9
                go_wp2_with fail
                refine (H2.out _ (HRB.out.below HB.out)).mono ?_
                rintro e w9 ⟨rfl, hw9⟩
                subst hw9
                go_wp2_with fail
                refine (H3.out _ (HRA.out.below HB.out)).mono ?_
                rintro e w9 ⟨rfl, hw9⟩
                subst hw9
                go_wp2_with (at_builtin; refine wpList_append_lies _ rfl _ _ 23 rfl (w.heap.size) 3 i1 (.int .i64 0) 1 8 Tryd.underlying23 hii hy0 hy1 hy2 rfl (by decide) _ _ _ rfl (OW.out.alloc _) ⟨_, 0, none⟩ 1 1 _ rfl rfl (World.news_of_block (heap_newW _ _ _ (by first | rfl | simp))) (one_c1W _) (by decide) (by unfold maxLen; omega) (by omega) (by simp; omega) _ rfl ?_)
                intro g2 cap2 v2 ho hg hat hl
                have OW2 : Hid (v2.ownsRow w.heap.size 3 1 (.slice (some ⟨g2, 0, none⟩) (o.length + 1) cap2) (o.length + 1) ((o ++ [-(p : Int)]).map intV)) := Lib.hid (by rw [List.map_append]; simpa [intV] using ho)
                have HB2 : Hid (Below w.heap.size w v2) := Lib.hid ((HB.out.alloc hbs _).grown hg (by simp; omega) (fun r hr => (OW.out.lt r hr).1))
                have hbs2 : w.heap.size ≤ v2.heap.size := HB2.out.size
                clear ho hg hat hl
                go_wp2_with fail
                go_roundw
                case rel => exact ⟨q + 1, (o ++ [-(p : Int)]), _, _, by have := HPQ.out; omega, by have := HPQ.out; go_num, by first | rfl | (simp; done) | (congr 1; simp), by rw [HJ2.out], by have h := OW2.out; rw [show o.length + 1 = (o ++ [-(p : Int)]).length from by simp] at h; exact h, HB2.out⟩
                case measure => simp [intOf]; omega
              | false =>
                cases t4 with
                | true =>
                  have HJ2 := Lib.hid (show joR a b (q + 1) = o ++ [-(p : Int)] from by rw [HNX.out, HJ.out, ← E1.out, ← E2.out, ← E3.out, ← E4.out]; simp)
                  go_wp2_with fail
                  refine (H1.out _ (HRA.out.below HB.out)).mono ?_
                  rintro e w9 ⟨rfl, hw9⟩
                  subst hw9
                  go_wp2_with fail
                  refine (H2.out _ (HRB.out.below HB.out)).mono ?_
                  rintro e w9 ⟨rfl, hw9⟩
                  subst hw9
                  go_wp2_with fail
                  refine (H3.out _ (HRA.out.below HB.out)).mono ?_
                  rintro e w9 ⟨rfl, hw9⟩
                  subst hw9
                  go_wp2_with fail
                  refine (H4.out _ (HRB.out.below HB.out)).mono ?_
                  rintro e w9 ⟨rfl, hw9⟩
                  subst hw9
                  go_wp2_with (at_builtin; refine wpList_append_lies _ rfl _ _ 23 rfl (w.heap.size) 3 i1 (.int .i64 0) 1 8 Tryd.underlying23 hii hy0 hy1 hy2 rfl (by decide) _ _ _ rfl (OW.out.alloc _) ⟨_, 0, none⟩ 1 1 _ rfl rfl (World.news_of_block (heap_newW _ _ _ (by first | rfl | simp))) (one_c1W _) (by decide) (by unfold maxLen; omega) (by omega) (by simp; omega) _ rfl ?_)
                  intro g2 cap2 v2 ho hg hat hl
                  have OW2 : Hid (v2.ownsRow w.heap.size 3 1 (.slice (some ⟨g2, 0, none⟩) (o.length + 1) cap2) (o.length + 1) ((o ++ [-(p : Int)]).map intV)) := Lib.hid (by rw [List.map_append]; simpa [intV] using ho)
                  have HB2 : Hid (Below w.heap.size w v2) := Lib.hid ((HB.out.alloc hbs _).grown hg (by simp; omega) (fun r hr => (OW.out.lt r hr).1))
                  have hbs2 : w.heap.size ≤ v2.heap.size := HB2.out.size
                  clear ho hg hat hl
                  go_wp2_with fail
                  go_roundw
                  case rel => exact ⟨q + 1, (o ++ [-(p : Int)]), _, _, by have := HPQ.out; omega, by have := HPQ.out; go_num, by first | rfl | (simp; done) | (congr 1; simp), by rw [HJ2.out], by have h := OW2.out; rw [show o.length + 1 = (o ++ [-(p : Int)]).length from by simp] at h; exact h, HB2.out⟩
                  case measure => simp [intOf]; omega
                | false =>
                  have HJ2 := Lib.hid (show joR a b (q + 1) = o ++ [] from by rw [HNX.out, HJ.out, ← E1.out, ← E2.out, ← E3.out, ← E4.out]; simp)
                  go_wp2_with fail
                  refine (H1.out _ (HRA.out.below HB.out)).mono ?_
                  rintro e w9 ⟨rfl, hw9⟩
                  subst hw9
                  go_wp2_with fail
                  refine (H2.out _ (HRB.out.below HB.out)).mono ?_
                  rintro e w9 ⟨rfl, hw9⟩
                  subst hw9
                  go_wp2_with fail
                  refine (H3.out _ (HRA.out.below HB.out)).mono ?_
                  rintro e w9 ⟨rfl, hw9⟩
                  subst hw9
                  go_wp2_with fail
                  refine (H4.out _ (HRB.out.below HB.out)).mono ?_
                  rintro e w9 ⟨rfl, hw9⟩
                  subst hw9
                  go_wp2_with fail
                  go_roundw
                  case rel => exact ⟨q + 1, o, _, _, by have := HPQ.out; omega, by have := HPQ.out; go_num, by first | rfl | (simp; done) | (congr 1; simp), by rw [HJ2.out]; simp, OW.out, HB.out⟩
                  case measure => simp [intOf]; omega
        · have hql : ¬ ((q : Int) < 3) := by omega
          have hq3 : q = 3 := by omega
          have hj3 : joR a b 3 = o := by rw [← HJ.out, hq3]
          have hjf := HJF.out
          rw [hj3] at hjf
          have hlo := impl_LabelOk0 o A2 o.length d2 wr rfl (by omega) (own_row OW.out)
          obtain ⟨b3, hb3⟩ : ∃ x, x = labR o := ⟨_, rfl⟩
          rw [← hb3] at hlo hjf
          have HLO := Lib.hid hlo
          have HJG := Lib.hid hjf
          clear hlo hjf hb3 hj3 hq3
          cases b3 with
          | false =>
            go_wp2_with fail
            refine HLO.out.mono ?_
            rintro e w9 ⟨rfl, hw9⟩
            subst hw9
            go_wp2_with fail
            refine bodyPost_ret (v := .tuple #[.slice none 0 0, .bool false]) (by simp [results, Tryd.results11, go_sem]) rfl ?_
            rw [HJG.out]
            exact ⟨none, 0, 0, rfl, rfl, World.ownsRow_nil _ _ _ _, HB.out⟩
          | true =>
            go_wp2_with fail
            refine HLO.out.mono ?_
            rintro e w9 ⟨rfl, hw9⟩
            subst hw9
            go_wp2_with fail
            refine bodyPost_ret (v := .tuple #[.slice A2 o.length d2, .bool true]) (by simp [results, Tryd.results11, go_sem]) rfl ?_
            rw [HJG.out]
            exact ⟨A2, o.length, d2, rfl, rfl, OW.out, HB.out⟩

end Go.Proofs.YtaokabkffnjbjaaDoor

namespace Go.Proofs.YtaokabkffnjbjaaDoor
open Go.RowKit
set_option linter.unusedVariables false
set_option linter.unusedSimpArgs false

def valFrom (a : Nat) (l : List UInt8) : Nat := l.foldl (fun a c => a * 10 + (c.toNat - 48)) a
theorem valFrom_cons (a : Nat) (c : UInt8) (l : List UInt8) : valFrom a (c :: l) = valFrom (a * 10 + (c.toNat - 48)) l := by unfold valFrom; rw [List.foldl_cons]
theorem valFrom_snoc (a : Nat) (c : UInt8) (l : List UInt8) : valFrom a (l ++ [c]) = valFrom a l * 10 + (c.toNat - 48) := by unfold valFrom; rw [List.foldl_append, List.foldl_cons, List.foldl_nil]
theorem valFrom_le (l : List UInt8) : ∀ a, a ≤ valFrom a l := by
  induction l with
  | nil => intro a; exact Nat.le_refl _
  | cons c l ih => intro a; rw [valFrom_cons]; have := ih (a * 10 + (c.toNat - 48)); omega
theorem valFrom_take (a : Nat) (l : List UInt8) (k : Nat) : valFrom a (l.take k) ≤ valFrom a l := by
  have h := valFrom_le (l.drop k) (valFrom a (l.take k))
  have e : valFrom (valFrom a (l.take k)) (l.drop k) = valFrom a l := by
    unfold valFrom
    rw [← List.foldl_append, List.take_append_drop]
  omega

def AllDig (l : List UInt8) : Prop := ∀ c ∈ l, 48 ≤ c.toNat ∧ c.toNat ≤ 57
theorem parse_val : ∀ (l : List UInt8) (a : Nat), AllDig l → valFrom a l < 18446744073709551616 → Lib.parseUint10 a l = .ok (valFrom a l) := by
  intro l
  induction l with
  | nil => intro a _ _; rfl
  | cons c l ih =>
    intro a hd hv
    have hc := hd c (by simp)
    have h1 := valFrom_le l (a * 10 + (c.toNat - 48))
    rw [valFrom_cons] at hv
    unfold Lib.parseUint10
    rw [if_pos hc, if_neg (by omega), if_neg (by omega), ih _ (fun x hx => hd x (by simp [hx])) hv, valFrom_cons]

theorem dec_val (u : Nat) : valFrom 0 (Lib.decDigits u) = u := by
  induction u using Nat.strongRecOn with
  | _ u ih =>
    rw [Lib.decDigits]
    by_cases h : u < 10
    · rw [dif_pos h]
      have : (UInt8.ofNat (48 + u)).toNat = 48 + u := by simp; omega
      simp only [valFrom, List.foldl_cons, List.foldl_nil, this]
      omega
    · rw [dif_neg h, valFrom_snoc, ih (u / 10) (by omega)]
      have : (UInt8.ofNat (48 + u % 10)).toNat = 48 + u % 10 := by simp; omega
      rw [this]
      omega
theorem dec_digits (u : Nat) : AllDig (Lib.decDigits u) := by
  induction u using Nat.strongRecOn with
  | _ u ih =>
    rw [Lib.decDigits]
    by_cases h : u < 10
    · rw [dif_pos h]
      intro c hc
      have : (UInt8.ofNat (48 + u)).toNat = 48 + u := by simp; omega
      rw [List.mem_singleton.1 hc, this]; omega
    · rw [dif_neg h]
      intro c hc
      rw [List.mem_append] at hc
      rcases hc with hc | hc
      · exact ih (u / 10) (by omega) c hc
      · have : (UInt8.ofNat (48 + u % 10)).toNat = 48 + u % 10 := by simp; omega
        rw [List.mem_singleton.1 hc, this]; omega
theorem dec_ne (u : Nat) : Lib.decDigits u ≠ [] := by
  rw [Lib.decDigits]
  split <;> simp
theorem dec_len : ∀ (k u : Nat), u < 10 ^ (k + 1) → (Lib.decDigits u).length ≤ k + 1 := by
  intro k
  induction k with
  | zero => intro u h; rw [Lib.decDigits, dif_pos (by omega)]; simp
  | succ k ih =>
    intro u h
    rw [Lib.decDigits]
    by_cases h2 : u < 10
    · rw [dif_pos h2]; simp
    · rw [dif_neg h2]
      have := ih (u / 10) (by rw [Nat.pow_succ] at h; omega)
      simp; omega
theorem dec_len19 (u : Nat) (h : u ≤ 9223372036854775808) : (Lib.decDigits u).length ≤ 19 := dec_len 18 u (by
  have : (10 : Nat) ^ (18 + 1) = 10000000000000000000 := by decide
  omega)

theorem dec_parse (u : Nat) (h : u < 18446744073709551616) : Lib.parseMag (Lib.decDigits u) = .ok u := by
  unfold Lib.parseMag
  rw [if_neg (dec_ne u), parse_val _ 0 (dec_digits u) (by rw [dec_val]; exact h), dec_val]

/-- strconv.Atoi reads the text of an int back. -/
theorem atoi_itoa (n : Int) (h0 : -9223372036854775808 ≤ n) (h1 : n ≤ 9223372036854775807) : Lib.atoiAll (Lib.itoa n) = .ok n := by
  by_cases h : 0 ≤ n
  · obtain ⟨u, rfl⟩ : ∃ u : Nat, n = u := ⟨n.toNat, by omega⟩
    rw [Lib.itoa_nonneg]
    have hp := dec_parse u (by omega)
    have hd := dec_digits u
    cases hl : Lib.decDigits u with
    | nil => exact absurd hl (dec_ne u)
    | cons c r =>
      have hc := hd c (by rw [hl]; simp)
      rw [Lib.atoiAll_plain c r (by omega) (by omega), ← hl, hp]
      unfold Lib.signless
      simp only
      rw [if_neg (by omega)]
  · obtain ⟨u, rfl⟩ : ∃ u : Nat, n = -(u : Int) := ⟨n.natAbs, by omega⟩
    rw [Lib.itoa_neg u (by omega), Lib.atoiAll_minus, dec_parse u (by omega)]
    unfold Lib.signed
    simp only
    rw [if_neg (by omega)]

/-- The int whose text s is. -/
def parseOf (s : ByteArray) : Option Int :=
  match Lib.atoiAll s.data.toList with
  | .ok v => if Lib.itoa v = s.data.toList then some v else none
  | _ => none
theorem parse_some {s : ByteArray} {v : Int} (h : parseOf s = some v) : numB v = s ∧ Lib.atoiAll s.data.toList = .ok v ∧ -9223372036854775808 ≤ v ∧ v ≤ 9223372036854775807 := by
  unfold parseOf at h
  split at h
  · rename_i v' hv
    split at h
    · rename_i hi
      obtain rfl := Option.some.inj h
      refine ⟨?_, hv, Lib.atoiAll_bounds hv⟩
      apply ByteArray.ext; apply Array.toList_inj.1
      simpa [numB] using hi
    · cases h
  · cases h
theorem parse_numB (n : Int) (h0 : -9223372036854775808 ≤ n) (h1 : n ≤ 9223372036854775807) : parseOf (numB n) = some n := by
  unfold parseOf
  have e : (numB n).data.toList = Lib.itoa n := by simp [numB]
  rw [e, atoi_itoa n h0 h1]
  simp
theorem parse_none {s : ByteArray} (h : parseOf s = none) (n : Int) (h0 : -9223372036854775808 ≤ n) (h1 : n ≤ 9223372036854775807) : numB n ≠ s := by
  rintro rfl
  rw [parse_numB n h0 h1] at h
  cases h

end Go.Proofs.YtaokabkffnjbjaaDoor

namespace Go.Proofs.YtaokabkffnjbjaaDoor
open Go.RowKit
set_option linter.unusedVariables false
set_option linter.unusedSimpArgs false

/-- The two sentinels of strconv's hold error values. -/
def Errs (w : World) : Prop := (∃ tp p, w.var? Tryd.prog "strconv.ErrSyntax" = some #[.iface tp p]) ∧ (∃ tp p, w.var? Tryd.prog "strconv.ErrRange" = some #[.iface tp p])
theorem Errs.kept {w w' : World} (h : Errs w) (hb : Below w.heap.size w w') : Errs w' := by
  obtain ⟨⟨tp, p, h1⟩, tq, q, h2⟩ := h
  exact ⟨⟨tp, p, var_kept hb h1⟩, tq, q, var_kept hb h2⟩

theorem below_bytes {w w' : World} {e : TypeId} (h : w' = w ∨ ∃ t, w' = Lib.bytesWorld w e t) : Below w.heap.size w w' := by
  rcases h with rfl | ⟨t, rfl⟩
  · exact Below.refl _ _
  · exact Lib.bytesWorld_below _ _ _

set_option maxRecDepth 100000 in
set_option maxHeartbeats 400000 in
theorem impl_ParseInt (s : ByteArray) (w : World) (hs : s.size ≤ 1048576) (ht : Pow10 w) (he : Errs w) :
    Calls Tryd.prog 45 #[.string s] w fun e w' => e = .returned (.tuple #[.int .i64 ((parseOf s).getD 0), .bool (parseOf s).isSome]) ∧ Below w.heap.size w w' := by
  have HT := Lib.hid ht
  have HE := Lib.hid he
  clear ht he
  cases ha : Lib.atoiAll s.data.toList with
  | ok v =>
    have hbd := Lib.atoiAll_bounds ha
    have HA := Lib.hid (strconv_Atoi_ok s (by omega) v ha w)
    by_cases hi : Lib.itoa v = s.data.toList
    · have hp : parseOf s = some v := by unfold parseOf; rw [ha]; simp [hi]
      have hx : (!(numB v).toList == s.toList) = false := by
        rw [Lib.toList_data, Lib.toList_data]
        simp [numB, hi]
      rw [hp]
      clear ha hi hp
      go_enter Tryd.func45, Tryd.ntmps45
      go_wp2_with fail
      refine HA.out.mono ?_
      rintro e w1 ⟨rfl, hw⟩
      have b1 := below_bytes hw
      clear hw
      go_wp2_with fail
      refine (impl_FormatInt v w1 hbd.1 hbd.2 (var_kept b1 HT.out)).mono ?_
      rintro e w2 ⟨rfl, b2⟩
      have B2 : Below w.heap.size w w2 := b1.trans (b2.mono b1.size)
      clear b1 b2
      go_wp2
      go_ret2
      exact ⟨rfl, B2⟩
    · have hp : parseOf s = none := by unfold parseOf; rw [ha]; simp [hi]
      have hx : (!(numB v).toList == s.toList) = true := by
        rw [Lib.toList_data, Lib.toList_data]
        simp [numB, hi]
      rw [hp]
      clear ha hi hp
      go_enter Tryd.func45, Tryd.ntmps45
      go_wp2_with fail
      refine HA.out.mono ?_
      rintro e w1 ⟨rfl, hw⟩
      have b1 := below_bytes hw
      clear hw
      go_wp2_with fail
      refine (impl_FormatInt v w1 hbd.1 hbd.2 (var_kept b1 HT.out)).mono ?_
      rintro e w2 ⟨rfl, b2⟩
      have B2 : Below w.heap.size w w2 := b1.trans (b2.mono b1.size)
      clear b1 b2
      go_wp2
      go_ret2
      exact ⟨rfl, B2⟩
  | _ =>
    have hp : parseOf s = none := by unfold parseOf; rw [ha]
    obtain ⟨⟨tp, p, h1⟩, tq, q, h2⟩ := HE.out
    have HA := Lib.hid (strconv_Atoi_err s (by omega) (fun v hv => by rw [ha] at hv; cases hv) tp tq p q w h1 h2)
    rw [hp]
    clear ha hp h1 h2 HE HT
    go_enter Tryd.func45, Tryd.ntmps45
    go_wp2_with fail
    refine HA.out.mono ?_
    rintro e w1 ⟨v, N, rfl, b1⟩
    go_wp2
    go_ret2
    exact ⟨rfl, b1⟩

end Go.Proofs.YtaokabkffnjbjaaDoor

namespace Go.Proofs.YtaokabkffnjbjaaDoor
open Go.RowKit
set_option linter.unusedVariables false
set_option linter.unusedSimpArgs false

/-- What the digits' text T tells of the int whose text s is: sign 1 or -1, and the greatest magnitude. -/
def Tells (s T : ByteArray) (neg : Bool) : Prop :=
  ∀ v, parseOf s = some v → ∃ u : Nat, T.data.toList = Lib.decDigits u ∧ v = (if neg then -(u : Int) else (u : Int)) ∧ u ≤ (if neg then 9223372036854775808 else 9223372036854775807)

theorem digits_dec (u : Nat) : digitsB (Lib.decDigits u) = true := by
  unfold digitsB
  have h1 : (Lib.decDigits u).isEmpty = false := by
    cases h : Lib.decDigits u with
    | nil => exact absurd h (dec_ne u)
    | cons a b => rfl
  rw [h1]
  simp only [Bool.not_false, Bool.true_and, List.all_eq_true]
  intro c hc
  have := dec_digits u c hc
  unfold isDig
  simp; omega

theorem digits_at {T : ByteArray} (h : digitsB T.data.toList = true) (k : Nat) (hk : k < T.size) : 48 ≤ T[k].toNat ∧ T[k].toNat ≤ 57 := by
  unfold digitsB at h
  simp only [Bool.and_eq_true, List.all_eq_true] at h
  have := h.2 T[k] (List.getElem_mem (l := T.data.toList) (n := k) (by simpa using hk))
  unfold isDig at this
  simp at this
  exact this

/-- The value of the first k digits. -/
def valTo (T : ByteArray) (k : Nat) : Nat := valFrom 0 (T.data.toList.take k)
theorem valTo_zero (T : ByteArray) : valTo T 0 = 0 := by unfold valTo valFrom; simp
theorem valTo_succ (T : ByteArray) (k : Nat) (hk : k < T.size) : valTo T (k + 1) = valTo T k * 10 + (T[k].toNat - 48) := by
  unfold valTo; rw [take_snoc T k hk, valFrom_snoc]
theorem valTo_all (T : ByteArray) : valTo T T.size = valFrom 0 T.data.toList := by
  unfold valTo; rw [List.take_of_length_le (by simp)]
theorem valTo_le (T : ByteArray) (k : Nat) : valTo T k ≤ valFrom 0 T.data.toList := valFrom_take 0 _ k

theorem none_digits {s T : ByteArray} {neg : Bool} (h : Tells s T neg) (hd : digitsB T.data.toList = false) : parseOf s = none := by
  cases hp : parseOf s with
  | none => rfl
  | some v =>
    obtain ⟨u, hu, _⟩ := h v hp
    rw [hu, digits_dec] at hd; cases hd
theorem none_long {s T : ByteArray} {neg : Bool} (h : Tells s T neg) (hd : 19 < T.size) : parseOf s = none := by
  cases hp : parseOf s with
  | none => rfl
  | some v =>
    obtain ⟨u, hu, _, hb⟩ := h v hp
    have h1 := dec_len19 u (by split at hb <;> omega)
    rw [← hu] at h1
    simp at h1
    omega
theorem none_big {s T : ByteArray} {neg : Bool} (h : Tells s T neg) (k : Nat) (hd : 9223372036854775808 < valTo T k) : parseOf s = none := by
  cases hp : parseOf s with
  | none => rfl
  | some v =>
    obtain ⟨u, hu, _, hb⟩ := h v hp
    have h1 := valTo_le T k
    rw [hu, dec_val] at h1
    split at hb <;> omega
theorem none_edge {s T : ByteArray} (h : Tells s T false) (hd : valTo T T.size = 9223372036854775808) : parseOf s = none := by
  cases hp : parseOf s with
  | none => rfl
  | some v =>
    obtain ⟨u, hu, _, hb⟩ := h v hp
    rw [valTo_all, hu, dec_val] at hd
    simp at hb
    omega
theorem tells_val {s T : ByteArray} {neg : Bool} (h : Tells s T neg) {v : Int} (hp : parseOf s = some v) : v = (if neg then -(valTo T T.size : Int) else (valTo T T.size : Int)) := by
  obtain ⟨u, hu, hv, _⟩ := h v hp
  rw [valTo_all, hu, dec_val]
  exact hv

theorem tells_pos (s : ByteArray) (h : s.size = 0 ∨ ∃ h0 : 0 < s.size, s[0].toNat ≠ 45) : Tells s s false := by
  intro v hv
  obtain ⟨hn, _, h0, h1⟩ := parse_some hv
  have hl : s.data.toList = Lib.itoa v := by rw [← hn]; simp [numB]
  by_cases hneg : 0 ≤ v
  · obtain ⟨u, rfl⟩ : ∃ u : Nat, v = u := ⟨v.toNat, by omega⟩
    exact ⟨u, by rw [hl, Lib.itoa_nonneg], by simp, by simp; omega⟩
  · exfalso
    obtain ⟨u, rfl⟩ : ∃ u : Nat, v = -(u : Int) := ⟨v.natAbs, by omega⟩
    rw [Lib.itoa_neg u (by omega)] at hl
    have hlen : s.data.toList.length = s.size := by simp
    rcases h with h | ⟨h, h2⟩
    · rw [hl, h] at hlen; simp at hlen
    · apply h2
      have e : s[0] = s.data.toList[0]'(by rw [hlen]; exact h) := rfl
      rw [e]
      simp [hl]
theorem tells_neg (s : ByteArray) (h : 0 < s.size) (h2 : s[0].toNat = 45) : Tells s (s.extract 1 s.size) true := by
  intro v hv
  obtain ⟨hn, _, h0, h1⟩ := parse_some hv
  have hl : s.data.toList = Lib.itoa v := by rw [← hn]; simp [numB]
  have hlen : s.data.toList.length = s.size := by simp
  by_cases hneg : 0 ≤ v
  · exfalso
    obtain ⟨u, rfl⟩ : ∃ u : Nat, v = u := ⟨v.toNat, by omega⟩
    rw [Lib.itoa_nonneg] at hl
    have e : s[0] = s.data.toList[0]'(by rw [hlen]; exact h) := rfl
    have := dec_digits u s[0] (by rw [← hl, e]; exact List.getElem_mem _)
    omega
  · obtain ⟨u, rfl⟩ : ∃ u : Nat, v = -(u : Int) := ⟨v.natAbs, by omega⟩
    rw [Lib.itoa_neg u (by omega)] at hl
    refine ⟨u, ?_, by simp, by simp; omega⟩
    rw [Lib.extract_to_end, hl]
    rfl

theorem tdiv_cut (c : Int) (h2 : c ≤ 57) : (-9223372036854775808 + (c - 48)).tdiv 10 = -((9223372036854775808 - (c - 48)) / 10) := by
  rw [show (-9223372036854775808 + (c - 48)) = -(9223372036854775808 - (c - 48)) from by omega, Int.neg_tdiv, Int.tdiv_eq_ediv_of_nonneg (by omega)]
theorem over_cut {a c : Int} (h1 : 48 ≤ c) (h2 : c ≤ 57) (h : a < (-9223372036854775808 + (c - 48)).tdiv 10) : 9223372036854775808 < -a * 10 + (c - 48) := by
  rw [tdiv_cut c h2] at h; omega
theorem under_cut {a c : Int} (h1 : 48 ≤ c) (h2 : c ≤ 57) (h : (-9223372036854775808 + (c - 48)).tdiv 10 ≤ a) : -9223372036854775808 ≤ a * 10 - (c - 48) := by
  rw [tdiv_cut c h2] at h; omega
theorem wraps_cut {a c : Int} (h1 : 48 ≤ c) (h2 : c ≤ 57) (h0 : a ≤ 0) (h : -9223372036854775808 ≤ a * 10 - (c - 48)) : wrap64 (wrap64 (a * 10) - (c - 48)) = a * 10 - (c - 48) := by
  rw [IntWalk.wrap64_in (a * 10) (by omega), IntWalk.wrap64_in _ (by omega)]

/-- The text's last test: the int that was read, written out again. -/
theorem last_no {s T : ByteArray} {neg : Bool} (h : Tells s T neg) (r : Int) (hr : r = (if neg then -(valTo T T.size : Int) else (valTo T T.size : Int))) (hne : numB r ≠ s) : parseOf s = none := by
  cases hp : parseOf s with
  | none => rfl
  | some v =>
    have := tells_val h hp
    rw [← hr] at this
    exact absurd (by rw [← this]; exact (parse_some hp).1) hne
theorem same_text {r : Int} {s : ByteArray} (h : numB r = s) : (!(numB r).toList == s.toList) = false := by rw [h]; simp
theorem other_text {r : Int} {s : ByteArray} (h : numB r ≠ s) : (!(numB r).toList == s.toList) = true := by
  simp only [Bool.not_eq_true', beq_eq_false_iff_ne, ne_eq]
  rw [Lib.toList_data, Lib.toList_data]
  intro e
  exact h (by apply ByteArray.ext; apply Array.toList_inj.1; exact e)

set_option maxRecDepth 100000 in
set_option maxHeartbeats 1000000 in
theorem spec_ParseInt_pos (s : ByteArray) (w : World) (hs : s.size ≤ 1048576) (hneg : s.size = 0 ∨ ∃ h0 : 0 < s.size, s[0].toNat ≠ 45) :
    Calls Tryd.prog 39 #[.string s] w fun e w' => e = .returned (.tuple #[.int .i64 ((parseOf s).getD 0), .bool (parseOf s).isSome]) ∧ Below w.heap.size w w' := by
  have HTL := Lib.hid (tells_pos s hneg)
  cases hd : digitsB s.data.toList with
  | false =>
    have HN := Lib.hid (none_digits HTL.out hd)
    have HD := Lib.hid hd
    clear hd
    rw [HN.out]
    rcases hneg with h0 | ⟨h0, h45⟩
    · go_enter Tryd.func39, Tryd.ntmps39
      go_wp2_with fail
      refine (spec_IsDigits s w (by unfold maxLen; omega)).mono ?_
      rintro e w1 ⟨rfl, rfl⟩
      rw [HD.out]
      go_wp2
      go_ret2
      exact ⟨rfl, Below.refl _ _⟩
    · have hb : ((s[0].toNat : Int) == 45) = false := by simp; omega
      clear h45
      go_enter Tryd.func39, Tryd.ntmps39
      go_wp2_with fail
      refine (spec_IsDigits s w (by unfold maxLen; omega)).mono ?_
      rintro e w1 ⟨rfl, rfl⟩
      rw [HD.out]
      go_wp2
      go_ret2
      exact ⟨rfl, Below.refl _ _⟩
  | true =>
    have HD := Lib.hid hd
    have h0 : 0 < s.size := by
      rcases Nat.eq_zero_or_pos s.size with h | h
      · exfalso
        have : s.data.toList = [] := List.eq_nil_of_length_eq_zero (by simpa using h)
        rw [this] at hd; cases hd
      · exact h
    have h45 : s[0].toNat ≠ 45 := by
      have := digits_at hd 0 h0
      omega
    have hb : ((s[0].toNat : Int) == 45) = false := by simp; omega
    clear h45 hd hneg
    by_cases hl : s.size ≤ 19
    · go_enter Tryd.func39, Tryd.ntmps39
      go_wp2_with fail
      refine (spec_IsDigits s w (by unfold maxLen; omega)).mono ?_
      rintro e w1 ⟨rfl, rfl⟩
      rw [HD.out]
      go_wp2
      go_loop [6, 7] (fun n i => ∃ (k : Nat) (a : Int), k ≤ s.size ∧ i = .int .i64 k ∧ n = .int .i64 a ∧ Hid (a = -(valTo s k : Int)) ∧ a ≤ 0 ∧ -9223372036854775808 ≤ a) (fun _ i => s.size - (intOf i).toNat)
      case atStart => exact ⟨0, 0, Nat.zero_le _, rfl, rfl, Lib.hid (by rw [valTo_zero]; rfl), by omega, by omega⟩
      case round =>
        obtain ⟨k, a, hk, rfl, rfl, HA, ha0, ha1⟩ := hrel
        by_cases hlt : k < s.size
        · have hc := digits_at HD.out k hlt
          have hc1 : 48 ≤ (s[k].toNat : Int) := by omega
          have hc2 : (s[k].toNat : Int) ≤ 57 := by omega
          have HV := Lib.hid (valTo_succ s k hlt)
          clear hc
          go_wp2
          · have hov : a < (-9223372036854775808 + ((s[k].toNat : Int) - 48)).tdiv 10 := by assumption
            have h9 := over_cut hc1 hc2 hov
            have HN := none_big HTL.out (k + 1) (by have := HV.out; have := HA.out; omega)
            go_ret2
            exact ⟨by rw [HN]; rfl, Below.refl _ _⟩
          · have hun : (-9223372036854775808 + ((s[k].toNat : Int) - 48)).tdiv 10 ≤ a := by assumption
            have h9 := under_cut hc1 hc2 hun
            have h10 := wraps_cut hc1 hc2 ha0 h9
            go_round
            case rel => exact ⟨k + 1, a * 10 - ((s[k].toNat : Int) - 48), by omega, by go_num, by rw [h10], Lib.hid (by have := HV.out; have := HA.out; omega), by omega, h9⟩
            case measure => simp [intOf]; omega
        · have hks : k = s.size := by omega
          have hra : Hid ((-a) = (if false then -(valTo s s.size : Int) else (valTo s s.size : Int))) := Lib.hid (by have := HA.out; rw [hks] at this; simp; omega)
          by_cases hed : a = -9223372036854775808
          · have HN := Lib.hid (none_edge HTL.out (by have := HA.out; rw [hks] at this; omega))
            have hq : (a == -9223372036854775808) = true := by simp [hed]
            clear hed
            go_wp2
            go_ret2
            exact ⟨by rw [HN.out]; rfl, Below.refl _ _⟩
          · have hq : (a == -9223372036854775808) = false := by simp [hed]
            have hlo : -9223372036854775807 ≤ a := by omega
            clear hed
            by_cases htx : numB (-a) = s
            · have hsame := same_text htx
              have HP := Lib.hid (htx ▸ parse_numB (-a) (by omega) (by omega))
              clear htx
              go_wp2_with fail
              refine (spec_FormatInt (-a) _ (by omega) (by omega)).mono ?_
              rintro e w2 ⟨rfl, b2⟩
              go_wp2
              go_ret2
              exact ⟨by rw [HP.out]; rfl, b2⟩
            · have hoth := other_text htx
              have HN := Lib.hid (last_no HTL.out (-a) hra.out htx)
              clear htx
              go_wp2_with fail
              refine (spec_FormatInt (-a) _ (by omega) (by omega)).mono ?_
              rintro e w2 ⟨rfl, b2⟩
              go_wp2
              go_ret2
              exact ⟨by rw [HN.out]; rfl, b2⟩
    · have HN := Lib.hid (none_long HTL.out (by omega))
      rw [HN.out]
      go_enter Tryd.func39, Tryd.ntmps39
      go_wp2_with fail
      refine (spec_IsDigits s w (by unfold maxLen; omega)).mono ?_
      rintro e w1 ⟨rfl, rfl⟩
      rw [HD.out]
      go_wp2
      go_ret2
      exact ⟨rfl, Below.refl _ _⟩

set_option maxRecDepth 100000 in
set_option maxHeartbeats 1000000 in
theorem spec_ParseInt_neg (s : ByteArray) (w : World) (hs : s.size ≤ 1048576) (h0 : 0 < s.size) (h45 : s[0].toNat = 45) :
    Calls Tryd.prog 39 #[.string s] w fun e w' => e = .returned (.tuple #[.int .i64 ((parseOf s).getD 0), .bool (parseOf s).isSome]) ∧ Below w.heap.size w w' := by
  have htl := tells_neg s h0 h45
  have hb : ((s[0].toNat : Int) == 45) = true := by rw [h45]; rfl
  obtain ⟨t, htt⟩ : ∃ t, t = s.extract 1 s.size := ⟨_, rfl⟩
  rw [← htt] at htl
  have hts : t.size ≤ 1048576 := by rw [htt, ByteArray.size_extract]; omega
  have HTT := Lib.hid htt
  have HTL := Lib.hid htl
  clear htt htl h45
  cases hd : digitsB t.data.toList with
  | false =>
    have HN := Lib.hid (none_digits HTL.out hd)
    have HD := Lib.hid hd
    clear hd
    rw [HN.out]
    go_enter Tryd.func39, Tryd.ntmps39
    go_wp2_with fail
    rw [← HTT.out]
    refine (spec_IsDigits t w (by unfold maxLen; omega)).mono ?_
    rintro e w1 ⟨rfl, rfl⟩
    rw [HD.out]
    go_wp2
    go_ret2
    exact ⟨rfl, Below.refl _ _⟩
  | true =>
    have HD := Lib.hid hd
    clear hd
    by_cases hl : t.size ≤ 19
    · go_enter Tryd.func39, Tryd.ntmps39
      go_wp2_with fail
      rw [← HTT.out]
      refine (spec_IsDigits t w (by unfold maxLen; omega)).mono ?_
      rintro e w1 ⟨rfl, rfl⟩
      rw [HD.out]
      go_wp2
      go_loop [6, 7] (fun n i => ∃ (k : Nat) (a : Int), k ≤ t.size ∧ i = .int .i64 k ∧ n = .int .i64 a ∧ Hid (a = -(valTo t k : Int)) ∧ a ≤ 0 ∧ -9223372036854775808 ≤ a) (fun _ i => t.size - (intOf i).toNat)
      case atStart => exact ⟨0, 0, Nat.zero_le _, rfl, rfl, Lib.hid (by rw [valTo_zero]; rfl), by omega, by omega⟩
      case round =>
        obtain ⟨k, a, hk, rfl, rfl, HA, ha0, ha1⟩ := hrel
        by_cases hlt : k < t.size
        · have hc := digits_at HD.out k hlt
          have hc1 : 48 ≤ (t[k].toNat : Int) := by omega
          have hc2 : (t[k].toNat : Int) ≤ 57 := by omega
          have HV := Lib.hid (valTo_succ t k hlt)
          clear hc
          go_wp2
          · have hov : a < (-9223372036854775808 + ((t[k].toNat : Int) - 48)).tdiv 10 := by assumption
            have h9 := over_cut hc1 hc2 hov
            have HN := none_big HTL.out (k + 1) (by have := HV.out; have := HA.out; omega)
            go_ret2
            exact ⟨by rw [HN]; rfl, Below.refl _ _⟩
          · have hun : (-9223372036854775808 + ((t[k].toNat : Int) - 48)).tdiv 10 ≤ a := by assumption
            have h9 := under_cut hc1 hc2 hun
            have h10 := wraps_cut hc1 hc2 ha0 h9
            go_round
            case rel => exact ⟨k + 1, a * 10 - ((t[k].toNat : Int) - 48), by omega, by go_num, by rw [h10], Lib.hid (by have := HV.out; have := HA.out; omega), by omega, h9⟩
            case measure => simp [intOf]; omega
        · have hks : k = t.size := by omega
          have hra : Hid (a = (if true then -(valTo t t.size : Int) else (valTo t t.size : Int))) := Lib.hid (by have := HA.out; rw [hks] at this; simp; omega)
          by_cases htx : numB a = s
          · have hsame := same_text htx
            have HP := Lib.hid (htx ▸ parse_numB a (by omega) (by omega))
            clear htx
            go_wp2_with fail
            refine (spec_FormatInt a _ (by omega) (by omega)).mono ?_
            rintro e w2 ⟨rfl, b2⟩
            go_wp2
            go_ret2
            exact ⟨by rw [HP.out]; rfl, b2⟩
          · have hoth := other_text htx
            have HN := Lib.hid (last_no HTL.out a hra.out htx)
            clear htx
            go_wp2_with fail
            refine (spec_FormatInt a _ (by omega) (by omega)).mono ?_
            rintro e w2 ⟨rfl, b2⟩
            go_wp2
            go_ret2
            exact ⟨by rw [HN.out]; rfl, b2⟩
    · have HN := Lib.hid (none_long HTL.out (by omega))
      rw [HN.out]
      go_enter Tryd.func39, Tryd.ntmps39
      go_wp2_with fail
      rw [← HTT.out]
      refine (spec_IsDigits t w (by unfold maxLen; omega)).mono ?_
      rintro e w1 ⟨rfl, rfl⟩
      rw [HD.out]
      go_wp2
      go_ret2
      exact ⟨rfl, Below.refl _ _⟩

theorem spec_ParseInt (s : ByteArray) (w : World) (hs : s.size ≤ 1048576) :
    Calls Tryd.prog 39 #[.string s] w fun e w' => e = .returned (.tuple #[.int .i64 ((parseOf s).getD 0), .bool (parseOf s).isSome]) ∧ Below w.heap.size w w' := by
  by_cases h0 : 0 < s.size
  · by_cases h45 : s[0].toNat = 45
    · exact spec_ParseInt_neg s w hs h0 h45
    · exact spec_ParseInt_pos s w hs (.inr ⟨h0, h45⟩)
  · exact spec_ParseInt_pos s w hs (.inl (by omega))

end Go.Proofs.YtaokabkffnjbjaaDoor

namespace Go.Proofs.YtaokabkffnjbjaaDoor
open Go.RowKit
set_option linter.unusedVariables false
set_option linter.unusedSimpArgs false

def lines (s : ByteArray) : List ByteArray :=
  if (s.extract (splitTo s ⟨#[10]⟩ s.size).2 s.size).size = 0 then (splitTo s ⟨#[10]⟩ s.size).1 else split s ⟨#[10]⟩

/-- An owned slice of one element or more: its form, its cells, its heads. -/
theorem own_cut {w : World} {B e n : Nat} {v : Value} {xs : List Value} (h : w.ownsRow B e 1 v n xs) (hn : 0 < n) :
    ∃ g c, v = .slice (some ⟨g, 0, none⟩) n c ∧ n ≤ c ∧ (∀ m, m ≤ n → w.ownsRow B e 1 (.slice (some ⟨g, 0, none⟩) m c) m (xs.take m)) ∧ ∀ j, j < n → w.cell? ⟨g, j, none⟩ = xs[j]? := by
  have hl : xs.length = n := by simpa using h.1
  obtain ⟨g', cap', hv', _, _⟩ := h.form hn
  have hcells : ∀ j, j < n → w.cell? ⟨g', j, none⟩ = xs[j]? := by
    subst hv'
    exact fun j hj => h.cellAt j (by omega)
  rcases h.2 with ⟨_, h0⟩ | ⟨g, cap, cur, hv, hb, hg, hnc, hcm, hcs, ht⟩
  · omega
  · rw [hv] at hv'
    injection hv' with h1 h2 h3
    obtain rfl : g = g' := by injection h1 with h1; injection h1
    refine ⟨g, cap, hv, hnc, fun m hm => ⟨by simp; omega, .inr ⟨g, cap, cur, rfl, hb, hg, by omega, hcm, hcs, ?_⟩⟩, hcells⟩
    rw [← ht, List.take_take]
    congr 1
    omega

end Go.Proofs.YtaokabkffnjbjaaDoor
