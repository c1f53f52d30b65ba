/-
  WALK of impl.JoinLabels.
  The contracts of the program's functions of labels.
-/
import Derived.Test.YtaokabkffnjbjaaBdLwP
import Derived.Deep.AppendLies
import Derived.Deep.CutRange
import Derived.Test.YtaokabkffnjbjaaBdLbP
namespace Go.Proofs.Ytaokabkffnjbjaa
open Go.RowKit
set_option linter.unusedVariables false
set_option linter.unusedSimpArgs false

/-- What the program joins: each proposition, then its negative. -/
def joR (a b : List Int) : Nat → List Int
  | 0 => []
  | j + 1 => joR a b j ++ (if hasR a ((j + 1 : Nat) : Int) || hasR b ((j + 1 : Nat) : Int) then [((j + 1 : Nat) : Int)] else []) ++ (if hasR a (-((j + 1 : Nat) : Int)) || hasR b (-((j + 1 : Nat) : Int)) then [-((j + 1 : Nat) : Int)] else [])
theorem joR_next {a b : List Int} {j : Nat} : joR a b (j + 1) = joR a b j ++ (if hasR a ((j + 1 : Nat) : Int) || hasR b ((j + 1 : Nat) : Int) then [((j + 1 : Nat) : Int)] else []) ++ (if hasR a (-((j + 1 : Nat) : Int)) || hasR b (-((j + 1 : Nat) : Int)) then [-((j + 1 : Nat) : Int)] else []) := rfl
theorem joR_len (a b : List Int) : ∀ j, (joR a b j).length ≤ 2 * j
  | 0 => by simp [joR]
  | j + 1 => by
    have := joR_len a b j
    rw [joR_next, List.length_append, List.length_append]
    split <;> split <;> simp <;> omega
def jnX (y n : Bool) (p : Int) : Option (List Int) := if y then (if n then none else some [p]) else (if n then some [-p] else some [])
def jnS (r s : Option (List Int)) : Option (List Int) := match r with | some o => (match s with | some q => some (o ++ q) | none => none) | none => none
def jnE (r : Option (List Int)) : List Int × Bool := match r with | some o => (o, true) | none => ([], false)
def joX (y1 n1 y2 n2 y3 n3 : Bool) : List Int := (if y1 then [1] else []) ++ (if n1 then [-1] else []) ++ (if y2 then [2] else []) ++ (if n2 then [-2] else []) ++ (if y3 then [3] else []) ++ (if n3 then [-3] else [])
theorem jn_bits : ∀ y1 n1 y2 n2 y3 n3 : Bool, jnE (jnS (jnS (jnS (some []) (jnX y1 n1 1)) (jnX y2 n2 2)) (jnX y3 n3 3)) = (if labR (joX y1 n1 y2 n2 y3 n3) then (joX y1 n1 y2 n2 y3 n3, true) else ([], false)) := by decide
theorem jnP_x (a b : List Int) (p : Nat) : jnP a b p = jnX (hasR a p || hasR b p) (hasR a (-(p : Int)) || hasR b (-(p : Int))) p := rfl
theorem jnJ_s (a b : List Int) (j : Nat) : jnJ a b (j + 1) = jnS (jnJ a b j) (jnP a b (j + 1)) := rfl
theorem jn_form {a b : List Int} (h1 : labR a = true) (h2 : labR b = true) : jnR a b = if labR (joR a b 3) then (joR a b 3, true) else ([], false) := by
  have h := jn_bits (hasR a 1 || hasR b 1) (hasR a (-1) || hasR b (-1)) (hasR a 2 || hasR b 2) (hasR a (-2) || hasR b (-2)) (hasR a 3 || hasR b 3) (hasR a (-3) || hasR b (-3))
  have e : joR a b 3 = joX (hasR a 1 || hasR b 1) (hasR a (-1) || hasR b (-1)) (hasR a 2 || hasR b 2) (hasR a (-2) || hasR b (-2)) (hasR a 3 || hasR b 3) (hasR a (-3) || hasR b (-3)) := by
    rw [joR_next, joR_next, joR_next]
    unfold joX
    simp only [List.append_assoc]
    rfl
  have g : jnJ a b 3 = jnS (jnS (jnS (some []) (jnX (hasR a 1 || hasR b 1) (hasR a (-1) || hasR b (-1)) 1)) (jnX (hasR a 2 || hasR b 2) (hasR a (-2) || hasR b (-2)) 2)) (jnX (hasR a 3 || hasR b 3) (hasR a (-3) || hasR b (-3)) 3) := by
    rw [jnJ_s, jnJ_s, jnJ_s, jnP_x, jnP_x, jnP_x]; rfl
  have r : jnR a b = jnE (jnJ a b 3) := by unfold jnR; rw [h1, h2]; rfl
  rw [r, e, g, h]

set_option maxRecDepth 100000 in
set_option maxHeartbeats 4000000 in
theorem impl_JoinLabels (a b : List Int) (A : Option Addr) (k c : Nat) (B : Option Addr) (m d : Nat) (w : World) (hl : a.length = k) (hm : k ≤ 1048576) (hlb : b.length = m) (hmb : m ≤ 1048576) (hr : RowAt w A (a.map intV)) (hrb : RowAt w B (b.map intV)) :
    Calls Try.prog 19 #[.slice A k c, .slice B m d] w fun e w' => ∃ C q cb, e = .returned (.tuple #[.slice C q cb, .bool (jnR a b).2]) ∧ q = (jnR a b).1.length ∧ w'.ownsRow w.heap.size 3 1 (.slice C q cb) q ((jnR a b).1.map intV) ∧ Below w.heap.size w w' := by
  obtain ⟨i1, hii, hy0, hy1, hy2⟩ := info_parts Try.info3
  have HOA := Lib.hid (impl_LabelOk0 a A k c w hl hm hr)
  have HOB := Lib.hid (impl_LabelOk0 b B m d w hlb hmb hrb)
  have HHA := Lib.hid (fun n W h => has_lw n a A k c W hl hm h)
  have HHB := Lib.hid (fun n W h => has_lw n b B m d W hlb hmb h)
  have HRA := Lib.hid hr
  have HRB := Lib.hid hrb
  clear hr hrb hl hlb
  obtain ⟨b1, hb1⟩ : ∃ x, x = labR a := ⟨_, rfl⟩
  obtain ⟨b2, hb2⟩ : ∃ x, x = labR b := ⟨_, rfl⟩
  rw [← hb1] at HOA
  rw [← hb2] at HOB
  have H11 := Lib.hid hb1.symm
  have H22 := Lib.hid hb2.symm
  clear hb1 hb2
  cases b1 with
  | false =>
    have HR0 := Lib.hid (show jnR a b = ([], false) from by unfold jnR; rw [H11.out]; rfl)
    go_enter Try.func19, Try.ntmps19
    go_wp2_with fail
    refine HOA.out.mono ?_
    rintro e w1 ⟨rfl, rfl⟩
    go_wp2_with fail
    refine bodyPost_ret (v := .tuple #[.slice none 0 0, .bool false]) (by simp [results, Try.results19, go_sem]) rfl ?_
    rw [HR0.out]
    exact ⟨none, 0, 0, rfl, rfl, World.ownsRow_nil _ _ _ _, Below.refl _ _⟩
  | true =>
    cases b2 with
    | false =>
      have HR0 := Lib.hid (show jnR a b = ([], false) from by unfold jnR; rw [H11.out, H22.out]; rfl)
      go_enter Try.func19, Try.ntmps19
      go_wp2_with fail
      refine HOA.out.mono ?_
      rintro e w1 ⟨rfl, hw1⟩
      subst hw1
      go_wp2_with fail
      refine HOB.out.mono ?_
      rintro e w1 ⟨rfl, rfl⟩
      go_wp2_with fail
      refine bodyPost_ret (v := .tuple #[.slice none 0 0, .bool false]) (by simp [results, Try.results19, go_sem]) rfl ?_
      rw [HR0.out]
      exact ⟨none, 0, 0, rfl, rfl, World.ownsRow_nil _ _ _ _, Below.refl _ _⟩
    | true =>
      have HJF := Lib.hid (jn_form H11.out H22.out)
      go_enter Try.func19, Try.ntmps19
      go_wp2_with fail
      refine HOA.out.mono ?_
      rintro e w1 ⟨rfl, hw1⟩
      subst hw1
      go_wp2_with fail
      refine HOB.out.mono ?_
      rintro e w1 ⟨rfl, hw1⟩
      subst hw1
      go_wp2_with fail
      go_loopw [17, 6] (fun i s wr => ∃ (q : Nat) (o : List Int) (A2 : Option Addr) (d2 : Nat), q ≤ 3 ∧ i = .int .i64 (q : Int) ∧ s = .slice A2 o.length d2 ∧ joR a b q = o ∧ wr.ownsRow w.heap.size 3 1 (.slice A2 o.length d2) o.length (o.map intV) ∧ Below w.heap.size w wr) (fun i _ _ => 3 - (intOf i).toNat)
      case atStart => exact ⟨0, [], none, 0, by omega, rfl, rfl, rfl, World.ownsRow_nil _ _ _ _, Below.refl _ _⟩
      case round =>
        obtain ⟨q, o, A2, d2, hq, rfl, rfl, hj, hown, hb⟩ := hrel
        have OW := Lib.hid hown
        have HB := Lib.hid hb
        have HJ := Lib.hid hj
        have hol : o.length ≤ 2 * q := by rw [← hj]; exact joR_len a b q
        have hbs := hb.size
        clear hown hb hj
        by_cases hlt : q < 3
        · have hql : ((q : Int) < 3) := by omega
          have hnx := joR_next (a := a) (b := b) (j := q)
          obtain ⟨p, hp⟩ : ∃ p : Nat, p = q + 1 := ⟨_, rfl⟩
          rw [← hp] at hnx
          have HPQ := Lib.hid hp
          have hpi : (q : Int) + 1 = (p : Int) := by omega
          have hp1 : (1 : Int) ≤ (p : Int) := by omega
          have hp3 : (p : Int) ≤ 3 := by omega
          rw [hp] at hnx
          rw [← hp] at hnx
          have h1 := HHA.out (p : Int)
          have h2 := HHB.out (p : Int)
          have h3 := HHA.out (-(p : Int))
          have h4 := HHB.out (-(p : Int))
          obtain ⟨t1, e1⟩ : ∃ x, x = hasR a (p : Int) := ⟨_, rfl⟩
          obtain ⟨t2, e2⟩ : ∃ x, x = hasR b (p : Int) := ⟨_, rfl⟩
          obtain ⟨t3, e3⟩ : ∃ x, x = hasR a (-(p : Int)) := ⟨_, rfl⟩
          obtain ⟨t4, e4⟩ : ∃ x, x = hasR b (-(p : Int)) := ⟨_, rfl⟩
          rw [← e1] at h1
          rw [← e2] at h2
          rw [← e3] at h3
          rw [← e4] at h4
          have HNX := Lib.hid (show joR a b (q + 1) = joR a b q ++ (if hasR a (p : Int) || hasR b (p : Int) then [(p : Int)] else []) ++ (if hasR a (-(p : Int)) || hasR b (-(p : Int)) then [-(p : Int)] else []) from by rw [hp]; exact joR_next)
          have H1 := Lib.hid h1
          have H2 := Lib.hid h2
          have H3 := Lib.hid h3
          have H4 := Lib.hid h4
          have E1 := Lib.hid e1
          have E2 := Lib.hid e2
          have E3 := Lib.hid e3
          have E4 := Lib.hid e4
          clear h1 h2 h3 h4 e1 e2 e3 e4 hnx hp
          cases t1 with
          | true =>
            cases t3 with
            | true =>
              have HJ2 := Lib.hid (show joR a b (q + 1) = o ++ [(p : Int)] ++ [-(p : Int)] from by rw [HNX.out, HJ.out, ← E1.out, ← E2.out, ← E3.out, ← E4.out]; simp)
              go_wp2_with fail
              refine (H1.out _ (HRA.out.below HB.out)).mono ?_
              rintro e w9 ⟨rfl, hw9⟩
              subst hw9
              go_wp2_with (at_builtin; refine wpList_append_lies _ rfl _ _ 22 rfl (w.heap.size) 3 i1 (.int .i64 0) 1 8 Try.underlying22 hii hy0 hy1 hy2 rfl (by decide) _ _ _ rfl (OW.out.alloc _) ⟨_, 0, none⟩ 1 1 _ rfl rfl (World.news_of_block (heap_newW _ _ _ (by first | rfl | simp))) (one_c1W _) (by decide) (by unfold maxLen; omega) (by omega) (by simp; omega) _ rfl ?_)
              intro g1 cap1 v1 ho hg hat hl
              have OW1 : Hid (v1.ownsRow w.heap.size 3 1 (.slice (some ⟨g1, 0, none⟩) (o.length + 1) cap1) (o.length + 1) ((o ++ [(p : Int)]).map intV)) := Lib.hid (by rw [List.map_append]; simpa [intV] using ho)
              have HB1 : Hid (Below w.heap.size w v1) := Lib.hid ((HB.out.alloc hbs _).grown hg (by simp; omega) (fun r hr => (OW.out.lt r hr).1))
              have hbs1 : w.heap.size ≤ v1.heap.size := HB1.out.size
              clear ho hg hat hl
              go_wp2_with fail
              refine (H3.out _ (HRA.out.below HB1.out)).mono ?_
              rintro e w9 ⟨rfl, hw9⟩
              subst hw9
              go_wp2_with (at_builtin; refine wpList_append_lies _ rfl _ _ 22 rfl (w.heap.size) 3 i1 (.int .i64 0) 1 8 Try.underlying22 hii hy0 hy1 hy2 rfl (by decide) _ _ _ rfl (OW1.out.alloc _) ⟨_, 0, none⟩ 1 1 _ rfl rfl (World.news_of_block (heap_newW _ _ _ (by first | rfl | simp))) (one_c1W _) (by decide) (by unfold maxLen; omega) (by omega) (by simp; omega) _ rfl ?_)
              intro g2 cap2 v2 ho hg hat hl
              have OW2 : Hid (v2.ownsRow w.heap.size 3 1 (.slice (some ⟨g2, 0, none⟩) (o.length + 1 + 1) cap2) (o.length + 1 + 1) (((o ++ [(p : Int)]) ++ [-(p : Int)]).map intV)) := Lib.hid (by rw [List.map_append]; simpa [intV] using ho)
              have HB2 : Hid (Below w.heap.size w v2) := Lib.hid ((HB1.out.alloc hbs1 _).grown hg (by simp; omega) (fun r hr => (OW1.out.lt r hr).1))
              have hbs2 : w.heap.size ≤ v2.heap.size := HB2.out.size
              clear ho hg hat hl
              go_wp2_with fail
              go_roundw
              case rel => exact ⟨q + 1, ((o ++ [(p : Int)]) ++ [-(p : Int)]), _, _, by have := HPQ.out; omega, by have := HPQ.out; go_num, by first | rfl | (simp; done) | (congr 1; simp), by rw [HJ2.out], by have h := OW2.out; rw [show o.length + 1 + 1 = ((o ++ [(p : Int)]) ++ [-(p : Int)]).length from by simp] at h; exact h, HB2.out⟩
              case measure => simp [intOf]; omega
            | false =>
              cases t4 with
              | true =>
                have HJ2 := Lib.hid (show joR a b (q + 1) = o ++ [(p : Int)] ++ [-(p : Int)] from by rw [HNX.out, HJ.out, ← E1.out, ← E2.out, ← E3.out, ← E4.out]; simp)
                go_wp2_with fail
                refine (H1.out _ (HRA.out.below HB.out)).mono ?_
                rintro e w9 ⟨rfl, hw9⟩
                subst hw9
                go_wp2_with (at_builtin; refine wpList_append_lies _ rfl _ _ 22 rfl (w.heap.size) 3 i1 (.int .i64 0) 1 8 Try.underlying22 hii hy0 hy1 hy2 rfl (by decide) _ _ _ rfl (OW.out.alloc _) ⟨_, 0, none⟩ 1 1 _ rfl rfl (World.news_of_block (heap_newW _ _ _ (by first | rfl | simp))) (one_c1W _) (by decide) (by unfold maxLen; omega) (by omega) (by simp; omega) _ rfl ?_)
                intro g1 cap1 v1 ho hg hat hl
                have OW1 : Hid (v1.ownsRow w.heap.size 3 1 (.slice (some ⟨g1, 0, none⟩) (o.length + 1) cap1) (o.length + 1) ((o ++ [(p : Int)]).map intV)) := Lib.hid (by rw [List.map_append]; simpa [intV] using ho)
                have HB1 : Hid (Below w.heap.size w v1) := Lib.hid ((HB.out.alloc hbs _).grown hg (by simp; omega) (fun r hr => (OW.out.lt r hr).1))
                have hbs1 : w.heap.size ≤ v1.heap.size := HB1.out.size
                clear ho hg hat hl
                go_wp2_with fail
                refine (H3.out _ (HRA.out.below HB1.out)).mono ?_
                rintro e w9 ⟨rfl, hw9⟩
                subst hw9
                go_wp2_with fail
                refine (H4.out _ (HRB.out.below HB1.out)).mono ?_
                rintro e w9 ⟨rfl, hw9⟩
                subst hw9
                go_wp2_with (at_builtin; refine wpList_append_lies _ rfl _ _ 22 rfl (w.heap.size) 3 i1 (.int .i64 0) 1 8 Try.underlying22 hii hy0 hy1 hy2 rfl (by decide) _ _ _ rfl (OW1.out.alloc _) ⟨_, 0, none⟩ 1 1 _ rfl rfl (World.news_of_block (heap_newW _ _ _ (by first | rfl | simp))) (one_c1W _) (by decide) (by unfold maxLen; omega) (by omega) (by simp; omega) _ rfl ?_)
                intro g2 cap2 v2 ho hg hat hl
                have OW2 : Hid (v2.ownsRow w.heap.size 3 1 (.slice (some ⟨g2, 0, none⟩) (o.length + 1 + 1) cap2) (o.length + 1 + 1) (((o ++ [(p : Int)]) ++ [-(p : Int)]).map intV)) := Lib.hid (by rw [List.map_append]; simpa [intV] using ho)
                have HB2 : Hid (Below w.heap.size w v2) := Lib.hid ((HB1.out.alloc hbs1 _).grown hg (by simp; omega) (fun r hr => (OW1.out.lt r hr).1))
                have hbs2 : w.heap.size ≤ v2.heap.size := HB2.out.size
                clear ho hg hat hl
                go_wp2_with fail
                go_roundw
                case rel => exact ⟨q + 1, ((o ++ [(p : Int)]) ++ [-(p : Int)]), _, _, by have := HPQ.out; omega, by have := HPQ.out; go_num, by first | rfl | (simp; done) | (congr 1; simp), by rw [HJ2.out], by have h := OW2.out; rw [show o.length + 1 + 1 = ((o ++ [(p : Int)]) ++ [-(p : Int)]).length from by simp] at h; exact h, HB2.out⟩
                case measure => simp [intOf]; omega
              | false =>
                have HJ2 := Lib.hid (show joR a b (q + 1) = o ++ [(p : Int)] from by rw [HNX.out, HJ.out, ← E1.out, ← E2.out, ← E3.out, ← E4.out]; simp)
                go_wp2_with fail
                refine (H1.out _ (HRA.out.below HB.out)).mono ?_
                rintro e w9 ⟨rfl, hw9⟩
                subst hw9
                go_wp2_with (at_builtin; refine wpList_append_lies _ rfl _ _ 22 rfl (w.heap.size) 3 i1 (.int .i64 0) 1 8 Try.underlying22 hii hy0 hy1 hy2 rfl (by decide) _ _ _ rfl (OW.out.alloc _) ⟨_, 0, none⟩ 1 1 _ rfl rfl (World.news_of_block (heap_newW _ _ _ (by first | rfl | simp))) (one_c1W _) (by decide) (by unfold maxLen; omega) (by omega) (by simp; omega) _ rfl ?_)
                intro g1 cap1 v1 ho hg hat hl
                have OW1 : Hid (v1.ownsRow w.heap.size 3 1 (.slice (some ⟨g1, 0, none⟩) (o.length + 1) cap1) (o.length + 1) ((o ++ [(p : Int)]).map intV)) := Lib.hid (by rw [List.map_append]; simpa [intV] using ho)
                have HB1 : Hid (Below w.heap.size w v1) := Lib.hid ((HB.out.alloc hbs _).grown hg (by simp; omega) (fun r hr => (OW.out.lt r hr).1))
                have hbs1 : w.heap.size ≤ v1.heap.size := HB1.out.size
                clear ho hg hat hl
                go_wp2_with fail
                refine (H3.out _ (HRA.out.below HB1.out)).mono ?_
                rintro e w9 ⟨rfl, hw9⟩
                subst hw9
                go_wp2_with fail
                refine (H4.out _ (HRB.out.below HB1.out)).mono ?_
                rintro e w9 ⟨rfl, hw9⟩
                subst hw9
                go_wp2_with fail
                go_roundw
                case rel => exact ⟨q + 1, (o ++ [(p : Int)]), _, _, by have := HPQ.out; omega, by have := HPQ.out; go_num, by first | rfl | (simp; done) | (congr 1; simp), by rw [HJ2.out], by have h := OW1.out; rw [show o.length + 1 = (o ++ [(p : Int)]).length from by simp] at h; exact h, HB1.out⟩
                case measure => simp [intOf]; omega
          | false =>
            cases t2 with
            | true =>
              cases t3 with
              | true =>
                have HJ2 := Lib.hid (show joR a b (q + 1) = o ++ [(p : Int)] ++ [-(p : Int)] from by rw [HNX.out, HJ.out, ← E1.out, ← E2.out, ← E3.out, ← E4.out]; simp)
                go_wp2_with fail
                refine (H1.out _ (HRA.out.below HB.out)).mono ?_
                rintro e w9 ⟨rfl, hw9⟩
                subst hw9
                go_wp2_with fail
                refine (H2.out _ (HRB.out.below HB.out)).mono ?_
                rintro e w9 ⟨rfl, hw9⟩
                subst hw9
                go_wp2_with (at_builtin; refine wpList_append_lies _ rfl _ _ 22 rfl (w.heap.size) 3 i1 (.int .i64 0) 1 8 Try.underlying22 hii hy0 hy1 hy2 rfl (by decide) _ _ _ rfl (OW.out.alloc _) ⟨_, 0, none⟩ 1 1 _ rfl rfl (World.news_of_block (heap_newW _ _ _ (by first | rfl | simp))) (one_c1W _) (by decide) (by unfold maxLen; omega) (by omega) (by simp; omega) _ rfl ?_)
                intro g1 cap1 v1 ho hg hat hl
                have OW1 : Hid (v1.ownsRow w.heap.size 3 1 (.slice (some ⟨g1, 0, none⟩) (o.length + 1) cap1) (o.length + 1) ((o ++ [(p : Int)]).map intV)) := Lib.hid (by rw [List.map_append]; simpa [intV] using ho)
                have HB1 : Hid (Below w.heap.size w v1) := Lib.hid ((HB.out.alloc hbs _).grown hg (by simp; omega) (fun r hr => (OW.out.lt r hr).1))
                have hbs1 : w.heap.size ≤ v1.heap.size := HB1.out.size
                clear ho hg hat hl
                go_wp2_with fail
                refine (H3.out _ (HRA.out.below HB1.out)).mono ?_
                rintro e w9 ⟨rfl, hw9⟩
                subst hw9
                go_wp2_with (at_builtin; refine wpList_append_lies _ rfl _ _ 22 rfl (w.heap.size) 3 i1 (.int .i64 0) 1 8 Try.underlying22 hii hy0 hy1 hy2 rfl (by decide) _ _ _ rfl (OW1.out.alloc _) ⟨_, 0, none⟩ 1 1 _ rfl rfl (World.news_of_block (heap_newW _ _ _ (by first | rfl | simp))) (one_c1W _) (by decide) (by unfold maxLen; omega) (by omega) (by simp; omega) _ rfl ?_)
                intro g2 cap2 v2 ho hg hat hl
                have OW2 : Hid (v2.ownsRow w.heap.size 3 1 (.slice (some ⟨g2, 0, none⟩) (o.length + 1 + 1) cap2) (o.length + 1 + 1) (((o ++ [(p : Int)]) ++ [-(p : Int)]).map intV)) := Lib.hid (by rw [List.map_append]; simpa [intV] using ho)
                have HB2 : Hid (Below w.heap.size w v2) := Lib.hid ((HB1.out.alloc hbs1 _).grown hg (by simp; omega) (fun r hr => (OW1.out.lt r hr).1))
                have hbs2 : w.heap.size ≤ v2.heap.size := HB2.out.size
                clear ho hg hat hl
                go_wp2_with fail
                go_roundw
                case rel => exact ⟨q + 1, ((o ++ [(p : Int)]) ++ [-(p : Int)]), _, _, by have := HPQ.out; omega, by have := HPQ.out; go_num, by first | rfl | (simp; done) | (congr 1; simp), by rw [HJ2.out], by have h := OW2.out; rw [show o.length + 1 + 1 = ((o ++ [(p : Int)]) ++ [-(p : Int)]).length from by simp] at h; exact h, HB2.out⟩
                case measure => simp [intOf]; omega
              | false =>
                cases t4 with
                | true =>
                  have HJ2 := Lib.hid (show joR a b (q + 1) = o ++ [(p : Int)] ++ [-(p : Int)] from by rw [HNX.out, HJ.out, ← E1.out, ← E2.out, ← E3.out, ← E4.out]; simp)
                  go_wp2_with fail
                  refine (H1.out _ (HRA.out.below HB.out)).mono ?_
                  rintro e w9 ⟨rfl, hw9⟩
                  subst hw9
                  go_wp2_with fail
                  refine (H2.out _ (HRB.out.below HB.out)).mono ?_
                  rintro e w9 ⟨rfl, hw9⟩
                  subst hw9
                  go_wp2_with (at_builtin; refine wpList_append_lies _ rfl _ _ 22 rfl (w.heap.size) 3 i1 (.int .i64 0) 1 8 Try.underlying22 hii hy0 hy1 hy2 rfl (by decide) _ _ _ rfl (OW.out.alloc _) ⟨_, 0, none⟩ 1 1 _ rfl rfl (World.news_of_block (heap_newW _ _ _ (by first | rfl | simp))) (one_c1W _) (by decide) (by unfold maxLen; omega) (by omega) (by simp; omega) _ rfl ?_)
                  intro g1 cap1 v1 ho hg hat hl
                  have OW1 : Hid (v1.ownsRow w.heap.size 3 1 (.slice (some ⟨g1, 0, none⟩) (o.length + 1) cap1) (o.length + 1) ((o ++ [(p : Int)]).map intV)) := Lib.hid (by rw [List.map_append]; simpa [intV] using ho)
                  have HB1 : Hid (Below w.heap.size w v1) := Lib.hid ((HB.out.alloc hbs _).grown hg (by simp; omega) (fun r hr => (OW.out.lt r hr).1))
                  have hbs1 : w.heap.size ≤ v1.heap.size := HB1.out.size
                  clear ho hg hat hl
                  go_wp2_with fail
                  refine (H3.out _ (HRA.out.below HB1.out)).mono ?_
                  rintro e w9 ⟨rfl, hw9⟩
                  subst hw9
                  go_wp2_with fail
                  refine (H4.out _ (HRB.out.below HB1.out)).mono ?_
                  rintro e w9 ⟨rfl, hw9⟩
                  subst hw9
                  go_wp2_with (at_builtin; refine wpList_append_lies _ rfl _ _ 22 rfl (w.heap.size) 3 i1 (.int .i64 0) 1 8 Try.underlying22 hii hy0 hy1 hy2 rfl (by decide) _ _ _ rfl (OW1.out.alloc _) ⟨_, 0, none⟩ 1 1 _ rfl rfl (World.news_of_block (heap_newW _ _ _ (by first | rfl | simp))) (one_c1W _) (by decide) (by unfold maxLen; omega) (by omega) (by simp; omega) _ rfl ?_)
                  intro g2 cap2 v2 ho hg hat hl
                  have OW2 : Hid (v2.ownsRow w.heap.size 3 1 (.slice (some ⟨g2, 0, none⟩) (o.length + 1 + 1) cap2) (o.length + 1 + 1) (((o ++ [(p : Int)]) ++ [-(p : Int)]).map intV)) := Lib.hid (by rw [List.map_append]; simpa [intV] using ho)
                  have HB2 : Hid (Below w.heap.size w v2) := Lib.hid ((HB1.out.alloc hbs1 _).grown hg (by simp; omega) (fun r hr => (OW1.out.lt r hr).1))
                  have hbs2 : w.heap.size ≤ v2.heap.size := HB2.out.size
                  clear ho hg hat hl
                  go_wp2_with fail
                  go_roundw
                  case rel => exact ⟨q + 1, ((o ++ [(p : Int)]) ++ [-(p : Int)]), _, _, by have := HPQ.out; omega, by have := HPQ.out; go_num, by first | rfl | (simp; done) | (congr 1; simp), by rw [HJ2.out], by have h := OW2.out; rw [show o.length + 1 + 1 = ((o ++ [(p : Int)]) ++ [-(p : Int)]).length from by simp] at h; exact h, HB2.out⟩
                  case measure => simp [intOf]; omega
                | false =>
                  have HJ2 := Lib.hid (show joR a b (q + 1) = o ++ [(p : Int)] from by rw [HNX.out, HJ.out, ← E1.out, ← E2.out, ← E3.out, ← E4.out]; simp)
                  go_wp2_with fail
                  refine (H1.out _ (HRA.out.below HB.out)).mono ?_
                  rintro e w9 ⟨rfl, hw9⟩
                  subst hw9
                  go_wp2_with fail
                  refine (H2.out _ (HRB.out.below HB.out)).mono ?_
                  rintro e w9 ⟨rfl, hw9⟩
                  subst hw9
                  go_wp2_with (at_builtin; refine wpList_append_lies _ rfl _ _ 22 rfl (w.heap.size) 3 i1 (.int .i64 0) 1 8 Try.underlying22 hii hy0 hy1 hy2 rfl (by decide) _ _ _ rfl (OW.out.alloc _) ⟨_, 0, none⟩ 1 1 _ rfl rfl (World.news_of_block (heap_newW _ _ _ (by first | rfl | simp))) (one_c1W _) (by decide) (by unfold maxLen; omega) (by omega) (by simp; omega) _ rfl ?_)
                  intro g1 cap1 v1 ho hg hat hl
                  have OW1 : Hid (v1.ownsRow w.heap.size 3 1 (.slice (some ⟨g1, 0, none⟩) (o.length + 1) cap1) (o.length + 1) ((o ++ [(p : Int)]).map intV)) := Lib.hid (by rw [List.map_append]; simpa [intV] using ho)
                  have HB1 : Hid (Below w.heap.size w v1) := Lib.hid ((HB.out.alloc hbs _).grown hg (by simp; omega) (fun r hr => (OW.out.lt r hr).1))
                  have hbs1 : w.heap.size ≤ v1.heap.size := HB1.out.size
                  clear ho hg hat hl
                  go_wp2_with fail
                  refine (H3.out _ (HRA.out.below HB1.out)).mono ?_
                  rintro e w9 ⟨rfl, hw9⟩
                  subst hw9
                  go_wp2_with fail
                  refine (H4.out _ (HRB.out.below HB1.out)).mono ?_
                  rintro e w9 ⟨rfl, hw9⟩
                  subst hw9
                  go_wp2_with fail
                  go_roundw
                  case rel => exact ⟨q + 1, (o ++ [(p : Int)]), _, _, by have := HPQ.out; omega, by have := HPQ.out; go_num, by first | rfl | (simp; done) | (congr 1; simp), by rw [HJ2.out], by have h := OW1.out; rw [show o.length + 1 = (o ++ [(p : Int)]).length from by simp] at h; exact h, HB1.out⟩
                  case measure => simp [intOf]; omega
            | false =>
              cases t3 with
              | true =>
                have HJ2 := Lib.hid (show joR a b (q + 1) = o ++ [-(p : Int)] from by rw [HNX.out, HJ.out, ← E1.out, ← E2.out, ← E3.out, ← E4.out]; simp)
                go_wp2_with fail
                refine (H1.out _ (HRA.out.below HB.out)).mono ?_
                rintro e w9 ⟨rfl, hw9⟩
                subst hw9
                go_wp2_with fail
                refine (H2.out _ (HRB.out.below HB.out)).mono ?_
                rintro e w9 ⟨rfl, hw9⟩
                subst hw9
                go_wp2_with fail
                refine (H3.out _ (HRA.out.below HB.out)).mono ?_
                rintro e w9 ⟨rfl, hw9⟩
                subst hw9
                go_wp2_with (at_builtin; refine wpList_append_lies _ rfl _ _ 22 rfl (w.heap.size) 3 i1 (.int .i64 0) 1 8 Try.underlying22 hii hy0 hy1 hy2 rfl (by decide) _ _ _ rfl (OW.out.alloc _) ⟨_, 0, none⟩ 1 1 _ rfl rfl (World.news_of_block (heap_newW _ _ _ (by first | rfl | simp))) (one_c1W _) (by decide) (by unfold maxLen; omega) (by omega) (by simp; omega) _ rfl ?_)
                intro g2 cap2 v2 ho hg hat hl
                have OW2 : Hid (v2.ownsRow w.heap.size 3 1 (.slice (some ⟨g2, 0, none⟩) (o.length + 1) cap2) (o.length + 1) ((o ++ [-(p : Int)]).map intV)) := Lib.hid (by rw [List.map_append]; simpa [intV] using ho)
                have HB2 : Hid (Below w.heap.size w v2) := Lib.hid ((HB.out.alloc hbs _).grown hg (by simp; omega) (fun r hr => (OW.out.lt r hr).1))
                have hbs2 : w.heap.size ≤ v2.heap.size := HB2.out.size
                clear ho hg hat hl
                go_wp2_with fail
                go_roundw
                case rel => exact ⟨q + 1, (o ++ [-(p : Int)]), _, _, by have := HPQ.out; omega, by have := HPQ.out; go_num, by first | rfl | (simp; done) | (congr 1; simp), by rw [HJ2.out], by have h := OW2.out; rw [show o.length + 1 = (o ++ [-(p : Int)]).length from by simp] at h; exact h, HB2.out⟩
                case measure => simp [intOf]; omega
              | false =>
                cases t4 with
                | true =>
                  have HJ2 := Lib.hid (show joR a b (q + 1) = o ++ [-(p : Int)] from by rw [HNX.out, HJ.out, ← E1.out, ← E2.out, ← E3.out, ← E4.out]; simp)
                  go_wp2_with fail
                  refine (H1.out _ (HRA.out.below HB.out)).mono ?_
                  rintro e w9 ⟨rfl, hw9⟩
                  subst hw9
                  go_wp2_with fail
                  refine (H2.out _ (HRB.out.below HB.out)).mono ?_
                  rintro e w9 ⟨rfl, hw9⟩
                  subst hw9
                  go_wp2_with fail
                  refine (H3.out _ (HRA.out.below HB.out)).mono ?_
                  rintro e w9 ⟨rfl, hw9⟩
                  subst hw9
                  go_wp2_with fail
                  refine (H4.out _ (HRB.out.below HB.out)).mono ?_
                  rintro e w9 ⟨rfl, hw9⟩
                  subst hw9
                  go_wp2_with (at_builtin; refine wpList_append_lies _ rfl _ _ 22 rfl (w.heap.size) 3 i1 (.int .i64 0) 1 8 Try.underlying22 hii hy0 hy1 hy2 rfl (by decide) _ _ _ rfl (OW.out.alloc _) ⟨_, 0, none⟩ 1 1 _ rfl rfl (World.news_of_block (heap_newW _ _ _ (by first | rfl | simp))) (one_c1W _) (by decide) (by unfold maxLen; omega) (by omega) (by simp; omega) _ rfl ?_)
                  intro g2 cap2 v2 ho hg hat hl
                  have OW2 : Hid (v2.ownsRow w.heap.size 3 1 (.slice (some ⟨g2, 0, none⟩) (o.length + 1) cap2) (o.length + 1) ((o ++ [-(p : Int)]).map intV)) := Lib.hid (by rw [List.map_append]; simpa [intV] using ho)
                  have HB2 : Hid (Below w.heap.size w v2) := Lib.hid ((HB.out.alloc hbs _).grown hg (by simp; omega) (fun r hr => (OW.out.lt r hr).1))
                  have hbs2 : w.heap.size ≤ v2.heap.size := HB2.out.size
                  clear ho hg hat hl
                  go_wp2_with fail
                  go_roundw
                  case rel => exact ⟨q + 1, (o ++ [-(p : Int)]), _, _, by have := HPQ.out; omega, by have := HPQ.out; go_num, by first | rfl | (simp; done) | (congr 1; simp), by rw [HJ2.out], by have h := OW2.out; rw [show o.length + 1 = (o ++ [-(p : Int)]).length from by simp] at h; exact h, HB2.out⟩
                  case measure => simp [intOf]; omega
                | false =>
                  have HJ2 := Lib.hid (show joR a b (q + 1) = o ++ [] from by rw [HNX.out, HJ.out, ← E1.out, ← E2.out, ← E3.out, ← E4.out]; simp)
                  go_wp2_with fail
                  refine (H1.out _ (HRA.out.below HB.out)).mono ?_
                  rintro e w9 ⟨rfl, hw9⟩
                  subst hw9
                  go_wp2_with fail
                  refine (H2.out _ (HRB.out.below HB.out)).mono ?_
                  rintro e w9 ⟨rfl, hw9⟩
                  subst hw9
                  go_wp2_with fail
                  refine (H3.out _ (HRA.out.below HB.out)).mono ?_
                  rintro e w9 ⟨rfl, hw9⟩
                  subst hw9
                  go_wp2_with fail
                  refine (H4.out _ (HRB.out.below HB.out)).mono ?_
                  rintro e w9 ⟨rfl, hw9⟩
                  subst hw9
                  go_wp2_with fail
                  go_roundw
                  case rel => exact ⟨q + 1, o, _, _, by have := HPQ.out; omega, by have := HPQ.out; go_num, by first | rfl | (simp; done) | (congr 1; simp), by rw [HJ2.out]; simp, OW.out, HB.out⟩
                  case measure => simp [intOf]; omega
        · have hql : ¬ ((q : Int) < 3) := by omega
          have hq3 : q = 3 := by omega
          have hj3 : joR a b 3 = o := by rw [← HJ.out, hq3]
          have hjf := HJF.out
          rw [hj3] at hjf
          have hlo := impl_LabelOk0 o A2 o.length d2 wr rfl (by omega) (own_row OW.out)
          obtain ⟨b3, hb3⟩ : ∃ x, x = labR o := ⟨_, rfl⟩
          rw [← hb3] at hlo hjf
          have HLO := Lib.hid hlo
          have HJG := Lib.hid hjf
          clear hlo hjf hb3 hj3 hq3
          cases b3 with
          | false =>
            go_wp2_with fail
            refine HLO.out.mono ?_
            rintro e w9 ⟨rfl, hw9⟩
            subst hw9
            go_wp2_with fail
            refine bodyPost_ret (v := .tuple #[.slice none 0 0, .bool false]) (by simp [results, Try.results19, go_sem]) rfl ?_
            rw [HJG.out]
            exact ⟨none, 0, 0, rfl, rfl, World.ownsRow_nil _ _ _ _, HB.out⟩
          | true =>
            go_wp2_with fail
            refine HLO.out.mono ?_
            rintro e w9 ⟨rfl, hw9⟩
            subst hw9
            go_wp2_with fail
            refine bodyPost_ret (v := .tuple #[.slice A2 o.length d2, .bool true]) (by simp [results, Try.results19, go_sem]) rfl ?_
            rw [HJG.out]
            exact ⟨A2, o.length, d2, rfl, rfl, OW.out, HB.out⟩

end Go.Proofs.Ytaokabkffnjbjaa

