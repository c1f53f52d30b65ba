/-
  PLAIN: parts that are cut at one byte and joined by it give the string back.
  WALK of spec.ParseLabel.
  WALK of spec.ParseLabel.
  PLAIN: the mathematics of FnLabels: the labels that are drawn (27 of them), their states under the eight full values, and what joining does to them.
  PLAIN: what is written of a label that is drawn is read again.
  PLAIN: what the program reads of a label's text.
  THE CONTRACTS OF Go's LIBRARY AT THIS TRANSLATION: strings.Builder's WriteString and String (the shelf's theorems, laid by their structures).
  WALKS of impl.joinParts, impl.Join.
-/
import Derived.Test.YtaokabkffnjbjaaDoorBdNum
import Derived.Test.YtaokabkffnjbjaaDoorBdLwJ
import Derived.Lib.Strings
import Derived.Deep.AppendLies
import Derived.Deep.CutRange
import Derived.Test.YtaokabkffnjbjaaDoorBdDig
import Derived.Shelf.Strings.BuilderK
import Derived.Test.YtaokabkffnjbjaaDoorProg
namespace Go.Proofs.YtaokabkffnjbjaaDoor
open Go.RowKit
set_option linter.unusedVariables false
set_option linter.unusedSimpArgs false

theorem joinTo_append (l r : List ByteArray) (sep : ByteArray) : ∀ k, k ≤ l.length → joinTo (l ++ r) sep k = joinTo l sep k := by
  intro k
  induction k with
  | zero => intro _; rfl
  | succ k ih =>
    intro h
    rw [joinTo, joinTo, ih (by omega)]
    have : (l ++ r).getD k ⟨#[]⟩ = l.getD k ⟨#[]⟩ := by
      rw [List.getD_eq_getElem?_getD, List.getD_eq_getElem?_getD, List.getElem?_append_left (by omega)]
    rw [this]
theorem joinB_snoc (l : List ByteArray) (x sep : ByteArray) : joinB (l ++ [x]) sep = (if 0 < l.length then joinB l sep ++ sep else joinB l sep) ++ x := by
  have h1 : (l ++ [x]).length = l.length + 1 := by simp
  have h2 : (l ++ [x]).getD l.length ⟨#[]⟩ = x := by simp
  unfold joinB
  rw [h1, joinTo, joinTo_append l [x] sep l.length (Nat.le_refl _), h2]

theorem split_first (s sp : ByteArray) (k : Nat) : (splitTo s sp k).1.length = 0 → (splitTo s sp k).2 = 0 := by
  induction k with
  | zero => intro _; rfl
  | succ k ih =>
    unfold splitTo
    split
    · split
      · simp
      · exact ih
    · exact ih

theorem join_splitTo (s : ByteArray) (c : UInt8) (k : Nat) (hk : k ≤ s.size) (x : ByteArray) :
    (joinB ((splitTo s ⟨#[c]⟩ k).1 ++ [x]) ⟨#[c]⟩).data.toList = s.data.toList.take (splitTo s ⟨#[c]⟩ k).2 ++ x.data.toList := by
  induction k generalizing x with
  | zero => simp [splitTo, joinB, joinTo]
  | succ k ih =>
    have hlt : k < s.size := hk
    cases hc : isSep ⟨#[c]⟩ s[k] with
    | true =>
      rw [splitTo_sep s _ k hlt hc]
      have hsc : s[k] = c := by
        unfold isSep at hc
        simpa using hc
      have hf := (splitTo_le s ⟨#[c]⟩ k).1
      rw [joinB_snoc, if_pos (by simp)]
      simp only [ByteArray.data_append, Array.toList_append]
      rw [ih (by omega)]
      have e1 : (s.extract (splitTo s ⟨#[c]⟩ k).2 k).data.toList = (s.data.toList.drop (splitTo s ⟨#[c]⟩ k).2).take (k - (splitTo s ⟨#[c]⟩ k).2) := Lib.extract_data s _ _
      have e2 : s.data.toList.take (splitTo s ⟨#[c]⟩ k).2 ++ (s.data.toList.drop (splitTo s ⟨#[c]⟩ k).2).take (k - (splitTo s ⟨#[c]⟩ k).2) = s.data.toList.take k := by
        have := List.take_append_drop (splitTo s ⟨#[c]⟩ k).2 (s.data.toList.take k)
        rw [List.take_take, Nat.min_eq_left hf, List.drop_take] at this
        exact this
      rw [e1, e2, take_snoc s k hlt, hsc]
    | false =>
      rw [splitTo_not s _ k hlt hc]
      exact ih (by omega) x

theorem join_split (s : ByteArray) (c : UInt8) : joinB (split s ⟨#[c]⟩) ⟨#[c]⟩ = s := by
  apply ByteArray.ext; apply Array.toList_inj.1
  unfold split
  rw [join_splitTo s c s.size (Nat.le_refl _)]
  have e1 : (s.extract (splitTo s ⟨#[c]⟩ s.size).2 s.size).data.toList = (s.data.toList.drop (splitTo s ⟨#[c]⟩ s.size).2).take (s.size - (splitTo s ⟨#[c]⟩ s.size).2) := Lib.extract_data s _ _
  have e3 : (s.data.toList.drop (splitTo s ⟨#[c]⟩ s.size).2).take (s.size - (splitTo s ⟨#[c]⟩ s.size).2) = s.data.toList.drop (splitTo s ⟨#[c]⟩ s.size).2 := List.take_of_length_le (by simp)
  rw [e1, e3, List.take_append_drop]

theorem split_sizes (s sp : ByteArray) : ∀ x ∈ split s sp, x.size ≤ s.size := by
  have h : ∀ k, ∀ x ∈ (splitTo s sp k).1, x.size ≤ s.size := by
    intro k
    induction k with
    | zero => intro x hx; simp [splitTo] at hx
    | succ k ih =>
      unfold splitTo
      split
      · split
        · intro x hx
          simp at hx
          rcases hx with hx | rfl
          · exact ih x hx
          · rw [ByteArray.size_extract]; omega
        · exact ih
      · exact ih
  intro x hx
  unfold split at hx
  rw [List.mem_append] at hx
  rcases hx with hx | hx
  · exact h _ x hx
  · rw [List.mem_singleton] at hx
    rw [hx, ByteArray.size_extract]; omega

theorem name_x1 : nameB (⟨#[120, 49]⟩ : ByteArray).data.toList = true := by decide
theorem digits_0 : digitsB (⟨#[48]⟩ : ByteArray).data.toList = true := by decide
theorem lines_ab : (lines ⟨#[97, 10, 98, 10]⟩).length = 2 := by decide +kernel

end Go.Proofs.YtaokabkffnjbjaaDoor

namespace Go.Proofs.YtaokabkffnjbjaaDoor
open Go.RowKit
set_option linter.unusedVariables false
set_option linter.unusedSimpArgs false

/-- Does the word begin with the sign of negation? -/
def negB (s : ByteArray) : Bool := decide (0 < s.size) && decide ((s.data.toList[0]?.getD 0).toNat = 33)
def stripB (s : ByteArray) : ByteArray := if negB s then s.extract 1 s.size else s
/-- The number that a word without sign names. -/
def wordN (t : ByteArray) : Option Int := if 2 ≤ t.size ∧ (t.data.toList[0]?.getD 0).toNat = 112 then (match parseOf (t.extract 1 t.size) with | some n => if 1 ≤ n ∧ n ≤ 3 then some n else none | none => none) else none
def parW (s : ByteArray) : Option Int := match wordN (stripB s) with | some n => some (if negB s then -n else n) | none => none
def parJ (ws : List ByteArray) : Nat → Option (List Int)
  | 0 => some []
  | j + 1 => match parJ ws j with | some o => (match parW (ws[j]?.getD ⟨#[]⟩) with | some x => some (o ++ [x]) | none => none) | none => none
def parL (s : ByteArray) : List Int × Bool := if s = ⟨#[45]⟩ then ([], true) else match parJ (split s ⟨#[38]⟩) (split s ⟨#[38]⟩).length with
  | some o => if labR o = true ∧ fmtL o = s then (o, true) else ([], false)
  | none => ([], false)
theorem parJ_none {ws : List ByteArray} {j : Nat} (h : parJ ws j = none) : ∀ {m : Nat}, j ≤ m → parJ ws m = none
  | 0, hm => by obtain rfl : j = 0 := by omega
                exact h
  | m + 1, hm => by
    by_cases e : j = m + 1
    · subst e; exact h
    · unfold parJ; rw [parJ_none h (show j ≤ m by omega)]
theorem parJ_len {ws : List ByteArray} : ∀ {j : Nat} {o : List Int}, parJ ws j = some o → o.length = j
  | 0, o, h => by simp [parJ] at h; subst h; rfl
  | j + 1, o, h => by
    unfold parJ at h
    cases h1 : parJ ws j with
    | none => rw [h1] at h; simp at h
    | some o1 =>
      rw [h1] at h
      cases h2 : parW (ws[j]?.getD ⟨#[]⟩) with
      | none => rw [h2] at h; simp at h
      | some x => rw [h2] at h; simp at h; subst h; simp [parJ_len h1]
theorem parJ_next {ws : List ByteArray} {j : Nat} {o : List Int} {s : ByteArray} {x : Int} (h : parJ ws j = some o) (hs : ws[j]? = some s) (hx : parW s = some x) : parJ ws (j + 1) = some (o ++ [x]) := by
  unfold parJ; rw [h, hs]; simp only [Option.getD_some]; rw [hx]
theorem parJ_stop {ws : List ByteArray} {j : Nat} {o : List Int} {s : ByteArray} (h : parJ ws j = some o) (hs : ws[j]? = some s) (hx : parW s = none) : parJ ws (j + 1) = none := by
  unfold parJ; rw [h, hs]; simp only [Option.getD_some]; rw [hx]
theorem parL_none {s : ByteArray} (h : ¬ s = ⟨#[45]⟩) {j : Nat} (hj : j ≤ (split s ⟨#[38]⟩).length) (hp : parJ (split s ⟨#[38]⟩) j = none) : parL s = ([], false) := by
  unfold parL; rw [if_neg h, parJ_none hp hj]
theorem parL_some {s : ByteArray} (h : ¬ s = ⟨#[45]⟩) {o : List Int} (hp : parJ (split s ⟨#[38]⟩) (split s ⟨#[38]⟩).length = some o) : parL s = if labR o = true ∧ fmtL o = s then (o, true) else ([], false) := by
  unfold parL; rw [if_neg h, hp]
theorem byte0 {s : ByteArray} (h : 0 < s.size) : s.data.toList[0]?.getD 0 = s[0] := by
  rw [List.getElem?_eq_getElem (by simpa using h)]; rfl
theorem neg_no0 {s : ByteArray} (h : ¬ 0 < s.size) : negB s = false := by unfold negB; simp [h]
theorem neg_is {s : ByteArray} (h : 0 < s.size) : negB s = decide (s[0].toNat = 33) := by unfold negB; rw [byte0 h]; simp [h]
theorem word_short {t : ByteArray} (h : ¬ 2 ≤ t.size) : wordN t = none := by unfold wordN; rw [if_neg (fun e => h e.1)]
theorem word_other {t : ByteArray} (h : 2 ≤ t.size) (h2 : ¬ t[0].toNat = 112) : wordN t = none := by unfold wordN; rw [byte0 (by omega), if_neg (fun e => h2 e.2)]
theorem word_is {t : ByteArray} (h : 2 ≤ t.size) (h2 : t[0].toNat = 112) : wordN t = match parseOf (t.extract 1 t.size) with | some n => if 1 ≤ n ∧ n ≤ 3 then some n else none | none => none := by unfold wordN; rw [byte0 (by omega), if_pos ⟨h, h2⟩]

end Go.Proofs.YtaokabkffnjbjaaDoor

namespace Go.Proofs.YtaokabkffnjbjaaDoor
open Go.RowKit
set_option linter.unusedVariables false
set_option linter.unusedSimpArgs false

theorem row_getS {w : World} {A : Option Addr} {zs : List ByteArray} (h : RowAt w A (zs.map Value.string)) {q : Nat} (hq : q < zs.length) : ∃ g o, A = some ⟨g, o, none⟩ ∧ g < w.heap.size ∧ w.cell? ⟨g, o + q, none⟩ = some (.string zs[q]) := by
  obtain ⟨g, o, hA, hg, hc⟩ := h (by simp; omega)
  refine ⟨g, o, hA, hg, ?_⟩
  have := hc q (by simp; omega)
  simpa using this
theorem bytes_same {a b : ByteArray} (h : a = b) : (a.toList == b.toList) = true := by rw [h]; simp
theorem bytes_other {s t : ByteArray} (h : ¬ s = t) : (s.toList == t.toList) = false := by
  simp only [beq_eq_false_iff_ne, ne_eq]
  rw [Lib.toList_data, Lib.toList_data]
  intro e
  exact h (by apply ByteArray.ext; apply Array.toList_inj.1; exact e)
theorem dash_list : (⟨#[45]⟩ : ByteArray).toList = [45] := (Lib.toList_data _).trans rfl
theorem one_c1T (a : Int) : ∀ u ∈ [Value.int .i64 a], u.oneCell' = true := fun u hu => by simp at hu; subst hu; rfl
theorem splitTo_first (s sp : ByteArray) : ∀ k : Nat, k ≤ s.size → (splitTo s sp k).1.length = 0 ∨ ((splitTo s sp k).1[0]?.getD (ByteArray.mk #[])).size + (splitTo s sp k).1.length ≤ (splitTo s sp k).2
  | 0, _ => .inl rfl
  | k + 1, hk => by
    have ih := splitTo_first s sp k (by omega)
    have hle := (splitTo_le s sp k).1
    unfold splitTo
    split
    · split
      · right
        rcases ih with h0 | h1
        · have hz := split_first s sp k h0
          have hnil : (splitTo s sp k).1 = [] := List.length_eq_zero_iff.1 h0
          rw [hnil, hz]
          simp [ByteArray.size_extract]
          omega
        · by_cases hp : (splitTo s sp k).1.length = 0
          · have hz := split_first s sp k hp
            have hnil : (splitTo s sp k).1 = [] := List.length_eq_zero_iff.1 hp
            rw [hnil, hz]
            simp [ByteArray.size_extract]
            omega
          · rw [List.getElem?_append_left (by omega), List.length_append]
            simp only [List.length_cons, List.length_nil]
            omega
      · exact ih
    · exact ih
theorem split_bound (s sp : ByteArray) (h : 2 ≤ ((split s sp)[0]?.getD (ByteArray.mk #[])).size) : (split s sp).length ≤ s.size := by
  have h1 := splitTo_first s sp s.size (Nat.le_refl _)
  have hle := (splitTo_le s sp s.size).1
  unfold split at h ⊢
  rw [List.length_append, List.length_cons, List.length_nil]
  by_cases hp : (splitTo s sp s.size).1.length = 0
  · have hz := split_first s sp s.size hp
    have hnil : (splitTo s sp s.size).1 = [] := List.length_eq_zero_iff.1 hp
    rw [hnil, hz] at h
    simp [ByteArray.size_extract] at h
    omega
  · rw [List.getElem?_append_left (by omega)] at h
    omega
theorem parW_size {t : ByteArray} {x : Int} (h : parW t = some x) : 2 ≤ t.size := by
  have h2 : 2 ≤ (stripB t).size := by
    by_cases h2 : 2 ≤ (stripB t).size
    · exact h2
    · unfold parW at h; rw [word_short h2] at h; simp at h
  unfold stripB at h2
  split at h2
  · rw [ByteArray.size_extract] at h2; omega
  · exact h2
theorem parJ_first {ws : List ByteArray} : ∀ {j : Nat} {o : List Int}, parJ ws j = some o → 0 < j → 2 ≤ (ws[0]?.getD (ByteArray.mk #[])).size
  | 0, o, h, h0 => by omega
  | j + 1, o, h, _ => by
    unfold parJ at h
    cases h1 : parJ ws j with
    | none => rw [h1] at h; simp at h
    | some o1 =>
      rw [h1] at h
      cases h2 : parW (ws[j]?.getD ⟨#[]⟩) with
      | none => rw [h2] at h; simp at h
      | some x =>
        rcases Nat.eq_zero_or_pos j with e | e
        · subst e; exact parW_size h2
        · exact parJ_first h1 e
theorem wrap_neg3 {n : Int} (h : 1 ≤ n ∧ n ≤ 3) : IntKind.i64.wrap (-1 * n) = -n := by
  have : n = 1 ∨ n = 2 ∨ n = 3 := by omega
  rcases this with rfl | rfl | rfl <;> decide
theorem wrap_pos3 {n : Int} (h : 1 ≤ n ∧ n ≤ 3) : IntKind.i64.wrap (1 * n) = n := by
  have : n = 1 ∨ n = 2 ∨ n = 3 := by omega
  rcases this with rfl | rfl | rfl <;> decide
theorem split_pos (s sp : ByteArray) : 1 ≤ (split s sp).length := by unfold split; simp
theorem off_block {v : Value} {g a b : Nat} (h : ∀ q, v.ownBlock = some q → a ≤ q ∧ q < b) (hg : g < a ∨ b ≤ g) {u : Value} (hu : u.ownBlock = some g) : v.ownBlock = none ∨ v.ownBlock ≠ u.ownBlock := by
  cases hv : v.ownBlock with
  | none => exact Or.inl rfl
  | some q =>
    refine Or.inr fun he => ?_
    rw [hu] at he
    have := h q hv
    injection he with he
    omega
set_option maxRecDepth 100000 in
set_option maxHeartbeats 8000000 in
theorem spec_ParseLabel (s : ByteArray) (w : World) (hs : s.size ≤ 1048576) :
    Calls Tryd.prog 19 #[.string s] w fun e w' => ∃ B q cb, e = .returned (.tuple #[.slice B q cb, .bool (parL s).2]) ∧ q = (parL s).1.length ∧ w'.ownsRow w.heap.size 3 1 (.slice B q cb) q ((parL s).1.map intV) ∧ Below w.heap.size w w' := by
  obtain ⟨i1, hii, hy0, hy1, hy2⟩ := info_parts Tryd.info3
  obtain ⟨wa, hwa⟩ : ∃ W, W = w.alloc (.cells #[] 3) := ⟨_, rfl⟩
  have ba : Below w.heap.size w wa := by rw [hwa]; exact (Below.refl _ _).alloc (Nat.le_refl _) _
  have OA : Hid (wa.ownsRow w.heap.size 3 1 (.slice (some ⟨w.heap.size, 0, none⟩) 0 0) 0 (([] : List Int).map intV)) := Lib.hid (own_empS w.heap.size (Nat.le_refl _) (by rw [hwa]; exact heap_alloc_new _ _))
  have hwz : wa.heap.size = w.heap.size + 1 := by rw [hwa]; simp
  have HWZ := Lib.hid hwz
  have BA := Lib.hid ba
  clear ba hwz
  by_cases hdash : s = ⟨#[45]⟩
  · have HR0 := Lib.hid (show parL s = ([], true) from by unfold parL; rw [if_pos hdash])
    have hd : (s.toList == [45]) = true := by have := bytes_same hdash; rwa [dash_list] at this
    clear hdash
    go_enter Tryd.func19, Tryd.ntmps19
    go_upto_region 2 with (fail)
    rw [← hwa]
    clear hwa
    go_wp2_with fail
    refine bodyPost_ret (v := .tuple #[.slice (some ⟨w.heap.size, 0, none⟩) 0 0, .bool true]) (by simp [results, Tryd.results19, go_sem]) rfl ?_
    rw [HR0.out]
    exact ⟨_, 0, 0, rfl, rfl, OA.out, BA.out⟩
  · have hd : (s.toList == [45]) = false := by have := bytes_other hdash; rwa [dash_list] at this
    have HSP := Lib.hid (spec_SplitAny s ⟨#[38]⟩ wa (by omega) (by decide))
    have HND := Lib.hid hdash
    clear hdash
    obtain ⟨ws, hws⟩ : ∃ t, t = split s ⟨#[38]⟩ := ⟨_, rfl⟩
    obtain ⟨n, hn⟩ : ∃ t, t = ws.length := ⟨_, rfl⟩
    have hn1 : n ≤ 1048577 := by rw [hn, hws]; exact Nat.le_trans (split_len _ _) (by omega)
    have hsz : ∀ x ∈ ws, x.size ≤ 1048576 := by rw [hws]; intro x hx; exact Nat.le_trans (split_sizes _ _ x hx) (by omega)
    have HSZ := Lib.hid hsz
    rw [← hws] at HSP
    rw [← hn] at HSP
    have HWS := Lib.hid hws
    have HN := Lib.hid hn
    clear hws hn hsz
    go_enter Tryd.func19, Tryd.ntmps19
    go_upto_region 2 with (fail)
    rw [← hwa]
    clear hwa
    go_wp2_with fail
    refine HSP.out.mono ?_
    rintro e w1 ⟨v, rfl, hown, bh⟩
    obtain ⟨A0, dc, rfl, hcap, _⟩ := own_form hown
    have ltw := hown.lt
    obtain ⟨e1, he1⟩ : ∃ e, e = w1.heap.size := ⟨_, rfl⟩
    rw [← he1] at ltw
    have hbs0 := bh.size
    have OS := Lib.hid hown
    have B1 := Lib.hid (BA.out.trans (bh.mono BA.out.size))
    have OA1 := Lib.hid (own_below OA.out bh)
    have LTW := Lib.hid ltw
    have HE1 := Lib.hid he1
    clear hown bh ltw OA HSP
    go_wp2_with fail
    go_loopw [17, 4] (fun i sv wr => ∃ (j : Nat) (o : List Int) (g2 d2 : Nat), j ≤ n ∧ i = .int .i64 j ∧ sv = .slice (some ⟨g2, 0, none⟩) j d2 ∧ parJ ws j = some o ∧ (g2 = w.heap.size ∨ e1 ≤ g2) ∧ wr.ownsRow w.heap.size 3 1 (.slice (some ⟨g2, 0, none⟩) j d2) j (o.map intV) ∧ wr.ownsRow wa.heap.size 9 1 (.slice A0 n dc) n (ws.map Value.string) ∧ e1 ≤ wr.heap.size ∧ Below w.heap.size w wr) (fun i _ _ => n - (intOf i).toNat)
    case atStart => exact ⟨0, [], _, _, Nat.zero_le _, rfl, rfl, rfl, .inl rfl, OA1.out, OS.out, by rw [HE1.out]; exact Nat.le_refl _, B1.out⟩
    case round =>
      obtain ⟨j, o, g2, d2, hj, rfl, rfl, hpj, hg2, hown, hos, hes, hb⟩ := hrel
      have OW := Lib.hid hown
      have OR := Lib.hid hos
      have HB := Lib.hid hb
      have HPJ := Lib.hid hpj
      have HG2 := Lib.hid hg2
      clear hown hos hb hpj hg2
      by_cases hlt : j < n
      · have hjl : ((j : Int) < (n : Int)) := by omega
        obtain ⟨g, o', hA0, hg, hc⟩ := row_getS (own_row OR.out) (q := j) (by have := HN.out; omega)
        obtain ⟨t, ht⟩ : ∃ t, t = ws[j]'(by have := HN.out; omega) := ⟨_, rfl⟩
        rw [← ht] at hc
        have hwj : ws[j]? = some t := by rw [ht]; exact List.getElem?_eq_getElem (by have := HN.out; omega)
        have hts : t.size ≤ 1048576 := by rw [ht]; exact HSZ.out _ (List.getElem_mem _)
        have HWJ := Lib.hid hwj
        subst hA0
        have x1 := hc
        clear hc ht hwj
        by_cases h0 : 0 < t.size
        · by_cases h33 : t[0].toNat = 33
          · have hng : negB t = true := by rw [neg_is h0, h33]; rfl
            have c1 : ((0 : Int) < (t.size : Int)) := by omega
            have c2 : ((t[0].toNat : Int) == 33) = true := by rw [h33]; rfl
            obtain ⟨u, hu⟩ : ∃ u, u = t.extract 1 t.size := ⟨_, rfl⟩
            have hst : stripB t = u := by unfold stripB; rw [if_pos hng, hu]
            have hus : u.size ≤ 1048576 := by rw [hu, ByteArray.size_extract]; omega
            have hpw : parW t = match wordN u with | some n => some (-n) | none => none := by unfold parW; rw [hst, hng]; rfl
            have HU := Lib.hid hu
            clear hst hng hu h33
            by_cases h2 : 2 ≤ u.size
            · by_cases h112 : u[0].toNat = 112
              · have d1 : ¬ ((u.size : Int) < 2) := by omega
                have d2 : ((u[0].toNat : Int) != 112) = false := by rw [h112]; rfl
                have hwn := word_is h2 h112
                rw [hwn] at hpw
                obtain ⟨y, hy⟩ : ∃ y, y = u.extract 1 u.size := ⟨_, rfl⟩
                rw [← hy] at hpw
                have hys : y.size ≤ 1048576 := by rw [hy, ByteArray.size_extract]; omega
                have hpi := fun W => spec_ParseInt y W hys
                have HY := Lib.hid hy
                clear hwn hy hys h112
                cases hpu : parseOf y with
                | none =>
                  rw [hpu] at hpi hpw
                  have HPW := Lib.hid hpw
                  have HPI := Lib.hid (fun W => (hpi W).mono fun e w' h => (⟨h.1, h.2⟩ : e = .returned (.tuple #[.int .i64 0, .bool false]) ∧ Below W.heap.size W w'))
                  have HR0 := Lib.hid (parL_none HND.out (j := j + 1) (by rw [← HWS.out, ← HN.out]; omega) (by rw [← HWS.out]; exact parJ_stop HPJ.out HWJ.out HPW.out))
                  clear hpi hpw hpu
                  go_upto_region 11 with (fail)
                  rw [← HU.out]
                  go_wp2_with fail
                  rw [← HY.out]
                  refine (HPI.out _).mono ?_
                  rintro e w2 ⟨rfl, bh⟩
                  have HB2 := Lib.hid (HB.out.trans (bh.mono HB.out.size))
                  clear bh
                  go_wp2_with fail
                  refine bodyPost_ret (v := .tuple #[.slice none 0 0, .bool false]) (by simp [results, Tryd.results19, go_sem]) rfl ?_
                  rw [HR0.out]
                  exact ⟨none, 0, 0, rfl, rfl, World.ownsRow_nil _ _ _ _, HB2.out⟩
                | some n9 =>
                  rw [hpu] at hpi hpw
                  have HPI := Lib.hid (fun W => (hpi W).mono fun e w' h => (⟨h.1, h.2⟩ : e = .returned (.tuple #[.int .i64 n9, .bool true]) ∧ Below W.heap.size W w'))
                  clear hpi hpu
                  by_cases hr9 : 1 ≤ n9 ∧ n9 ≤ 3
                  · have HPW := Lib.hid (show parW t = some (-n9) from by rw [hpw]; simp only [if_pos hr9])
                    have HIN := Lib.hid (fun W => (l01In_any n9 1 3 W).mono fun e w' h => (⟨by rw [h.1, decide_eq_true hr9.1, decide_eq_true hr9.2]; rfl, h.2⟩ : e = .returned (.bool true) ∧ W = w'))
                    obtain ⟨z, hz⟩ : ∃ z, z = -n9 := ⟨_, rfl⟩
                    rw [← hz] at HPW
                    have hw1 : IntKind.i64.wrap (-1 * n9) = z := by rw [hz]; exact wrap_neg3 hr9
                    have hw2 : IntKind.i64.wrap (-n9) = z := by rw [← hw1]; congr 1; omega
                    clear hpw hz hr9
                    go_upto_region 11 with (fail)
                    rw [← HU.out]
                    go_wp2_with fail
                    rw [← HY.out]
                    refine (HPI.out _).mono ?_
                    rintro e w2 ⟨rfl, bh⟩
                    have HB2 := Lib.hid (HB.out.trans (bh.mono HB.out.size))
                    have OW2 := Lib.hid (own_below OW.out bh)
                    have OR2 := Lib.hid (own_below OR.out bh)
                    have hes2 : e1 ≤ w2.heap.size := Nat.le_trans hes bh.size
                    have hbs := HB2.out.size
                    clear bh OW OR
                    go_wp2_with fail
                    refine (HIN.out _).mono ?_
                    rintro e w3 ⟨rfl, hw3⟩
                    subst hw3
                    go_wp2_with (at_builtin; refine wpList_append_lies _ rfl _ _ 23 rfl (w.heap.size) 3 i1 (.int .i64 0) 1 8 Tryd.underlying23 hii hy0 hy1 hy2 rfl (by decide) _ _ _ rfl (OW2.out.alloc _) ⟨_, 0, none⟩ 1 1 _ rfl rfl (World.news_of_block (heap_newS _ _ _ (by first | rfl | simp))) (one_c1T _) (by decide) (by unfold maxLen; omega) (by omega) (by simp; omega) _ rfl ?_)
                    intro g3 cap w6 ho6 hg6 hat6 hl6
                    go_wp2_with fail
                    go_roundw
                    case rel =>
                      refine ⟨j + 1, o ++ [z], g3, cap, by omega, by go_num, rfl, parJ_next HPJ.out HWJ.out HPW.out, ?_, by simpa [intV] using ho6, (OR2.out.alloc _).kept hg6 (off_block (g := g2) LTW.out (by have := HG2.out; have := HWZ.out; omega) rfl), ?_, (HB2.out.alloc hbs _).grown hg6 (by simp; omega) (fun r hr => (OW2.out.lt r hr).1)⟩
                      · rcases hat6 with h | h
                        · have h9 : g2 = g3 := by simpa [Value.ownBlock] using h
                          rw [← h9]; exact HG2.out
                        · right; rw [h]; (try simp); omega
                      · have h7 := hg6.size; (try simp only [World.alloc, Array.size_push] at h7); (try simp at h7); omega
                    case measure => simp [intOf]; omega
                  · have HPW := Lib.hid (show parW t = none from by rw [hpw]; simp only [if_neg hr9])
                    have HIN := Lib.hid (fun W => (l01In_any n9 1 3 W).mono fun e w' h => (⟨by rw [h.1, show (decide (1 ≤ n9) && decide (n9 ≤ 3)) = false from by rw [← Bool.not_eq_true, Bool.and_eq_true, decide_eq_true_eq, decide_eq_true_eq]; exact hr9], h.2⟩ : e = .returned (.bool false) ∧ W = w'))
                    have HR0 := Lib.hid (parL_none HND.out (j := j + 1) (by rw [← HWS.out, ← HN.out]; omega) (by rw [← HWS.out]; exact parJ_stop HPJ.out HWJ.out HPW.out))
                    clear hpw hr9
                    go_upto_region 11 with (fail)
                    rw [← HU.out]
                    go_wp2_with fail
                    rw [← HY.out]
                    refine (HPI.out _).mono ?_
                    rintro e w2 ⟨rfl, bh⟩
                    have HB2 := Lib.hid (HB.out.trans (bh.mono HB.out.size))
                    clear bh
                    go_wp2_with fail
                    refine (HIN.out _).mono ?_
                    rintro e w3 ⟨rfl, hw3⟩
                    subst hw3
                    go_wp2_with fail
                    refine bodyPost_ret (v := .tuple #[.slice none 0 0, .bool false]) (by simp [results, Tryd.results19, go_sem]) rfl ?_
                    rw [HR0.out]
                    exact ⟨none, 0, 0, rfl, rfl, World.ownsRow_nil _ _ _ _, HB2.out⟩
              · have d1 : ¬ ((u.size : Int) < 2) := by omega
                have d2 : ((u[0].toNat : Int) != 112) = true := by simp; omega
                have HPW := Lib.hid (show parW t = none from by rw [hpw, word_other h2 h112])
                have HR0 := Lib.hid (parL_none HND.out (j := j + 1) (by rw [← HWS.out, ← HN.out]; omega) (by rw [← HWS.out]; exact parJ_stop HPJ.out HWJ.out HPW.out))
                clear hpw h112
                go_upto_region 11 with (fail)
                rw [← HU.out]
                go_wp2_with fail
                refine bodyPost_ret (v := .tuple #[.slice none 0 0, .bool false]) (by simp [results, Tryd.results19, go_sem]) rfl ?_
                rw [HR0.out]
                exact ⟨none, 0, 0, rfl, rfl, World.ownsRow_nil _ _ _ _, HB.out⟩
            · have d1 : ((u.size : Int) < 2) := by omega
              have HPW := Lib.hid (show parW t = none from by rw [hpw, word_short h2])
              have HR0 := Lib.hid (parL_none HND.out (j := j + 1) (by rw [← HWS.out, ← HN.out]; omega) (by rw [← HWS.out]; exact parJ_stop HPJ.out HWJ.out HPW.out))
              clear hpw
              go_upto_region 11 with (fail)
              rw [← HU.out]
              go_wp2_with fail
              refine bodyPost_ret (v := .tuple #[.slice none 0 0, .bool false]) (by simp [results, Tryd.results19, go_sem]) rfl ?_
              rw [HR0.out]
              exact ⟨none, 0, 0, rfl, rfl, World.ownsRow_nil _ _ _ _, HB.out⟩
          · have hng : negB t = false := by rw [neg_is h0]; exact decide_eq_false h33
            have c1 : ((0 : Int) < (t.size : Int)) := by omega
            have c2 : ((t[0].toNat : Int) == 33) = false := by simp; omega
            have hst : stripB t = t := by unfold stripB; rw [hng]; rfl
            have hpw : parW t = match wordN t with | some n => some n | none => none := by unfold parW; rw [hst, hng]; rfl
            clear hst hng h33
            by_cases h2 : 2 ≤ t.size
            · by_cases h112 : t[0].toNat = 112
              · have d1 : ¬ ((t.size : Int) < 2) := by omega
                have d2 : ((t[0].toNat : Int) != 112) = false := by rw [h112]; rfl
                have hwn := word_is h2 h112
                rw [hwn] at hpw
                obtain ⟨y, hy⟩ : ∃ y, y = t.extract 1 t.size := ⟨_, rfl⟩
                rw [← hy] at hpw
                have hys : y.size ≤ 1048576 := by rw [hy, ByteArray.size_extract]; omega
                have hpi := fun W => spec_ParseInt y W hys
                have HY := Lib.hid hy
                clear hwn hy hys h112
                cases hpu : parseOf y with
                | none =>
                  rw [hpu] at hpi hpw
                  have HPW := Lib.hid hpw
                  have HPI := Lib.hid (fun W => (hpi W).mono fun e w' h => (⟨h.1, h.2⟩ : e = .returned (.tuple #[.int .i64 0, .bool false]) ∧ Below W.heap.size W w'))
                  have HR0 := Lib.hid (parL_none HND.out (j := j + 1) (by rw [← HWS.out, ← HN.out]; omega) (by rw [← HWS.out]; exact parJ_stop HPJ.out HWJ.out HPW.out))
                  clear hpi hpw hpu
                  go_wp2_with fail
                  rw [← HY.out]
                  refine (HPI.out _).mono ?_
                  rintro e w2 ⟨rfl, bh⟩
                  have HB2 := Lib.hid (HB.out.trans (bh.mono HB.out.size))
                  clear bh
                  go_wp2_with fail
                  refine bodyPost_ret (v := .tuple #[.slice none 0 0, .bool false]) (by simp [results, Tryd.results19, go_sem]) rfl ?_
                  rw [HR0.out]
                  exact ⟨none, 0, 0, rfl, rfl, World.ownsRow_nil _ _ _ _, HB2.out⟩
                | some n9 =>
                  rw [hpu] at hpi hpw
                  have HPI := Lib.hid (fun W => (hpi W).mono fun e w' h => (⟨h.1, h.2⟩ : e = .returned (.tuple #[.int .i64 n9, .bool true]) ∧ Below W.heap.size W w'))
                  clear hpi hpu
                  by_cases hr9 : 1 ≤ n9 ∧ n9 ≤ 3
                  · have HPW := Lib.hid (show parW t = some (n9) from by rw [hpw]; simp only [if_pos hr9])
                    have HIN := Lib.hid (fun W => (l01In_any n9 1 3 W).mono fun e w' h => (⟨by rw [h.1, decide_eq_true hr9.1, decide_eq_true hr9.2]; rfl, h.2⟩ : e = .returned (.bool true) ∧ W = w'))
                    obtain ⟨z, hz⟩ : ∃ z, z = n9 := ⟨_, rfl⟩
                    rw [← hz] at HPW
                    have hw1 : IntKind.i64.wrap (1 * n9) = z := by rw [hz]; exact wrap_pos3 hr9
                    have hw2 : IntKind.i64.wrap n9 = z := by rw [← hw1]; congr 1; omega
                    clear hpw hz hr9
                    go_wp2_with fail
                    rw [← HY.out]
                    refine (HPI.out _).mono ?_
                    rintro e w2 ⟨rfl, bh⟩
                    have HB2 := Lib.hid (HB.out.trans (bh.mono HB.out.size))
                    have OW2 := Lib.hid (own_below OW.out bh)
                    have OR2 := Lib.hid (own_below OR.out bh)
                    have hes2 : e1 ≤ w2.heap.size := Nat.le_trans hes bh.size
                    have hbs := HB2.out.size
                    clear bh OW OR
                    go_wp2_with fail
                    refine (HIN.out _).mono ?_
                    rintro e w3 ⟨rfl, hw3⟩
                    subst hw3
                    go_wp2_with (at_builtin; refine wpList_append_lies _ rfl _ _ 23 rfl (w.heap.size) 3 i1 (.int .i64 0) 1 8 Tryd.underlying23 hii hy0 hy1 hy2 rfl (by decide) _ _ _ rfl (OW2.out.alloc _) ⟨_, 0, none⟩ 1 1 _ rfl rfl (World.news_of_block (heap_newS _ _ _ (by first | rfl | simp))) (one_c1T _) (by decide) (by unfold maxLen; omega) (by omega) (by simp; omega) _ rfl ?_)
                    intro g3 cap w6 ho6 hg6 hat6 hl6
                    go_wp2_with fail
                    go_roundw
                    case rel =>
                      refine ⟨j + 1, o ++ [z], g3, cap, by omega, by go_num, rfl, parJ_next HPJ.out HWJ.out HPW.out, ?_, by simpa [intV] using ho6, (OR2.out.alloc _).kept hg6 (off_block (g := g2) LTW.out (by have := HG2.out; have := HWZ.out; omega) rfl), ?_, (HB2.out.alloc hbs _).grown hg6 (by simp; omega) (fun r hr => (OW2.out.lt r hr).1)⟩
                      · rcases hat6 with h | h
                        · have h9 : g2 = g3 := by simpa [Value.ownBlock] using h
                          rw [← h9]; exact HG2.out
                        · right; rw [h]; (try simp); omega
                      · have h7 := hg6.size; (try simp only [World.alloc, Array.size_push] at h7); (try simp at h7); omega
                    case measure => simp [intOf]; omega
                  · have HPW := Lib.hid (show parW t = none from by rw [hpw]; simp only [if_neg hr9])
                    have HIN := Lib.hid (fun W => (l01In_any n9 1 3 W).mono fun e w' h => (⟨by rw [h.1, show (decide (1 ≤ n9) && decide (n9 ≤ 3)) = false from by rw [← Bool.not_eq_true, Bool.and_eq_true, decide_eq_true_eq, decide_eq_true_eq]; exact hr9], h.2⟩ : e = .returned (.bool false) ∧ W = w'))
                    have HR0 := Lib.hid (parL_none HND.out (j := j + 1) (by rw [← HWS.out, ← HN.out]; omega) (by rw [← HWS.out]; exact parJ_stop HPJ.out HWJ.out HPW.out))
                    clear hpw hr9
                    go_wp2_with fail
                    rw [← HY.out]
                    refine (HPI.out _).mono ?_
                    rintro e w2 ⟨rfl, bh⟩
                    have HB2 := Lib.hid (HB.out.trans (bh.mono HB.out.size))
                    clear bh
                    go_wp2_with fail
                    refine (HIN.out _).mono ?_
                    rintro e w3 ⟨rfl, hw3⟩
                    subst hw3
                    go_wp2_with fail
                    refine bodyPost_ret (v := .tuple #[.slice none 0 0, .bool false]) (by simp [results, Tryd.results19, go_sem]) rfl ?_
                    rw [HR0.out]
                    exact ⟨none, 0, 0, rfl, rfl, World.ownsRow_nil _ _ _ _, HB2.out⟩
              · have d1 : ¬ ((t.size : Int) < 2) := by omega
                have d2 : ((t[0].toNat : Int) != 112) = true := by simp; omega
                have HPW := Lib.hid (show parW t = none from by rw [hpw, word_other h2 h112])
                have HR0 := Lib.hid (parL_none HND.out (j := j + 1) (by rw [← HWS.out, ← HN.out]; omega) (by rw [← HWS.out]; exact parJ_stop HPJ.out HWJ.out HPW.out))
                clear hpw h112
                go_wp2_with fail
                refine bodyPost_ret (v := .tuple #[.slice none 0 0, .bool false]) (by simp [results, Tryd.results19, go_sem]) rfl ?_
                rw [HR0.out]
                exact ⟨none, 0, 0, rfl, rfl, World.ownsRow_nil _ _ _ _, HB.out⟩
            · have d1 : ((t.size : Int) < 2) := by omega
              have HPW := Lib.hid (show parW t = none from by rw [hpw, word_short h2])
              have HR0 := Lib.hid (parL_none HND.out (j := j + 1) (by rw [← HWS.out, ← HN.out]; omega) (by rw [← HWS.out]; exact parJ_stop HPJ.out HWJ.out HPW.out))
              clear hpw
              go_wp2_with fail
              refine bodyPost_ret (v := .tuple #[.slice none 0 0, .bool false]) (by simp [results, Tryd.results19, go_sem]) rfl ?_
              rw [HR0.out]
              exact ⟨none, 0, 0, rfl, rfl, World.ownsRow_nil _ _ _ _, HB.out⟩
        · have hng := neg_no0 h0
          have c1 : ¬ ((0 : Int) < (t.size : Int)) := by omega
          have d1 : ((t.size : Int) < 2) := by omega
          have HPW := Lib.hid (show parW t = none from by unfold parW; rw [show stripB t = t from by unfold stripB; rw [hng]; rfl, word_short (by omega)])
          have HR0 := Lib.hid (parL_none HND.out (j := j + 1) (by rw [← HWS.out, ← HN.out]; omega) (by rw [← HWS.out]; exact parJ_stop HPJ.out HWJ.out HPW.out))
          clear hng
          go_wp2_with fail
          refine bodyPost_ret (v := .tuple #[.slice none 0 0, .bool false]) (by simp [results, Tryd.results19, go_sem]) rfl ?_
          rw [HR0.out]
          exact ⟨none, 0, 0, rfl, rfl, World.ownsRow_nil _ _ _ _, HB.out⟩
      · have hjl : ¬ ((j : Int) < (n : Int)) := by omega
        have hjn : j = n := by omega
        subst hjn
        have HPL := Lib.hid (parL_some HND.out (by rw [← HWS.out, ← HN.out]; exact HPJ.out))
        have hol := parJ_len HPJ.out
        have hj2 : j ≤ 1048576 := by
          rcases Nat.eq_zero_or_pos j with e | e
          · omega
          · have h1 := parJ_first HPJ.out e
            rw [HWS.out] at h1
            have h2 := split_bound _ _ h1
            rw [← HWS.out, ← HN.out] at h2
            omega
        have HOK := Lib.hid (spec_LabelOk o (some ⟨g2, 0, none⟩) j d2 wr hol (by omega) (own_row OW.out))
        have HFM := Lib.hid (spec_FormatLabel o (some ⟨g2, 0, none⟩) j d2 wr hol (by omega) (own_row OW.out))
        clear hol
        go_wp2_with fail
        refine HOK.out.mono ?_
        rintro e w2 ⟨rfl, rfl⟩
        cases hlab : labR o with
        | false =>
          have HR0 := Lib.hid (show parL s = ([], false) from by rw [HPL.out, hlab]; rfl)
          clear hlab
          go_wp2_with fail
          refine bodyPost_ret (v := .tuple #[.slice none 0 0, .bool false]) (by simp [results, Tryd.results19, go_sem]) rfl ?_
          rw [HR0.out]
          exact ⟨none, 0, 0, rfl, rfl, World.ownsRow_nil _ _ _ _, HB.out⟩
        | true =>
          by_cases hfm : fmtL o = s
          · have HR0 := Lib.hid (show parL s = (o, true) from by rw [HPL.out, hlab, if_pos ⟨rfl, hfm⟩])
            have hq := bytes_same hfm
            clear hlab hfm
            go_wp2_with fail
            refine HFM.out.mono ?_
            rintro e w3 ⟨rfl, bh⟩
            have OW3 := Lib.hid (own_below OW.out bh)
            have HB3 := Lib.hid (HB.out.trans (bh.mono HB.out.size))
            clear bh
            go_wp2_with fail
            refine bodyPost_ret (v := .tuple #[.slice (some ⟨g2, 0, none⟩) j d2, .bool true]) (by simp [results, Tryd.results19, go_sem]) rfl ?_
            rw [HR0.out]
            exact ⟨_, j, d2, rfl, (parJ_len HPJ.out).symm, OW3.out, HB3.out⟩
          · have HR0 := Lib.hid (show parL s = ([], false) from by rw [HPL.out, if_neg (fun h => hfm h.2)])
            have hq := bytes_other hfm
            clear hlab hfm
            go_wp2_with fail
            refine HFM.out.mono ?_
            rintro e w3 ⟨rfl, bh⟩
            have HB3 := Lib.hid (HB.out.trans (bh.mono HB.out.size))
            clear bh
            go_wp2_with fail
            refine bodyPost_ret (v := .tuple #[.slice none 0 0, .bool false]) (by simp [results, Tryd.results19, go_sem]) rfl ?_
            rw [HR0.out]
            exact ⟨none, 0, 0, rfl, rfl, World.ownsRow_nil _ _ _ _, HB3.out⟩

end Go.Proofs.YtaokabkffnjbjaaDoor

namespace Go.Proofs.YtaokabkffnjbjaaDoor
open Go.RowKit
set_option linter.unusedVariables false

/-- What a draw adds for proposition p. -/
def optL (s : Nat) (p : Int) : List Int := match s with
  | 0 => [p]
  | 1 => [-p]
  | _ => []
/-- The label of three draws. -/
def drL (s t u : Nat) : List Int := optL s 1 ++ optL t 2 ++ optL u 3
/-- The values that the number n names, bit by bit. -/
def bitV (n : Nat) : Int := if n % 2 = 1 then -1 else 1
def vsN (n : Nat) : List Int := [bitV n, bitV (n / 2), bitV (n / 4)]
def all3 (p : Nat → Bool) : Bool := p 0 && p 1 && p 2
theorem all3_of {p : Nat → Bool} (h : all3 p = true) {s : Nat} (hs : s ≤ 2) : p s = true := by
  unfold all3 at h
  rw [Bool.and_eq_true, Bool.and_eq_true] at h
  obtain e | e | e : s = 0 ∨ s = 1 ∨ s = 2 := by omega
  · rw [e]; exact h.1.1
  · rw [e]; exact h.1.2
  · rw [e]; exact h.2
def all8 (p : Nat → Bool) : Bool := p 0 && p 1 && p 2 && p 3 && p 4 && p 5 && p 6 && p 7
theorem all8_of {p : Nat → Bool} (h : all8 p = true) {n : Nat} (hn : n < 8) : p n = true := by
  unfold all8 at h
  simp only [Bool.and_eq_true] at h
  obtain ⟨⟨⟨⟨⟨⟨⟨h0, h1⟩, h2⟩, h3⟩, h4⟩, h5⟩, h6⟩, h7⟩ := h
  obtain e | e | e | e | e | e | e | e : n = 0 ∨ n = 1 ∨ n = 2 ∨ n = 3 ∨ n = 4 ∨ n = 5 ∨ n = 6 ∨ n = 7 := by omega
  all_goals (rw [e]; assumption)
theorem drL_lab {s t u : Nat} (hs : s ≤ 2) (ht : t ≤ 2) (hu : u ≤ 2) : labR (drL s t u) = true := by
  have h : all3 (fun s => all3 fun t => all3 fun u => labR (drL s t u)) = true := by decide
  exact all3_of (all3_of (all3_of h hs) ht) hu
theorem drL_imp {s t u : Nat} (hs : s ≤ 2) (ht : t ≤ 2) (hu : u ≤ 2) : impR (drL s t u) (drL s t u) = true := by
  have h : all3 (fun s => all3 fun t => all3 fun u => impR (drL s t u) (drL s t u)) = true := by decide
  exact all3_of (all3_of (all3_of h hs) ht) hu
/-- Under full values both labels hold exactly if they can be joined and what they join to holds. -/
def bothB (a b v : List Int) : Bool := (decide (stR a v = 1) && decide (stR b v = 1)) == ((jnR a b).2 && decide (stR (jnR a b).1 v = 1))
def bothS (s : Nat) : Bool := all3 fun t => all3 fun u => all3 fun s' => all3 fun t' => all3 fun u' => all8 fun n => bothB (drL s t u) (drL s' t' u') (vsN n)
set_option maxRecDepth 100000 in
set_option maxHeartbeats 16000000 in
theorem both0 : bothS 0 = true := by decide +kernel
set_option maxRecDepth 100000 in
set_option maxHeartbeats 16000000 in
theorem both1 : bothS 1 = true := by decide +kernel
set_option maxRecDepth 100000 in
set_option maxHeartbeats 16000000 in
theorem both2 : bothS 2 = true := by decide +kernel
theorem drL_both {s t u s' t' u' n : Nat} (hs : s ≤ 2) (ht : t ≤ 2) (hu : u ≤ 2) (hs' : s' ≤ 2) (ht' : t' ≤ 2) (hu' : u' ≤ 2) (hn : n < 8) :
    (decide (stR (drL s t u) (vsN n) = 1) && decide (stR (drL s' t' u') (vsN n) = 1)) = ((jnR (drL s t u) (drL s' t' u')).2 && decide (stR (jnR (drL s t u) (drL s' t' u')).1 (vsN n) = 1)) := by
  have h : all3 bothS = true := by
    unfold all3
    rw [both0, both1, both2]; rfl
  have h1 := all8_of (all3_of (all3_of (all3_of (all3_of (all3_of (all3_of h hs) ht) hu) hs') ht') hu') hn
  unfold bothB at h1
  exact eq_of_beq h1
theorem vsN_val {n : Nat} (hn : n < 8) : valR (vsN n) = true := by
  have h : all8 (fun n => valR (vsN n)) = true := by decide
  exact all8_of h hn
theorem vsN_cz {n : Nat} (hn : n < 8) : czR (vsN n) = 0 := by
  have h : all8 (fun n => decide (czR (vsN n) = 0)) = true := by decide
  have := all8_of h hn
  exact of_decide_eq_true this
theorem nil_state : stR [] [0, 0, 0] = 1 := by decide
theorem wo_all (l : List Int) (p : Int) : (woR l p).length ≤ l.length := by
  have h := wo_len l p l.length
  rwa [List.take_of_length_le (Nat.le_refl _)] at h

end Go.Proofs.YtaokabkffnjbjaaDoor

namespace Go.Proofs.YtaokabkffnjbjaaDoor
open Go.RowKit
set_option linter.unusedVariables false
def readB3 (s : Nat) : Bool := all3 fun t => all3 fun u => decide (parL (fmtL (drL s t u)) = (drL s t u, true))
set_option maxRecDepth 100000 in
set_option maxHeartbeats 16000000 in
theorem read0 : readB3 0 = true := by decide +kernel
set_option maxRecDepth 100000 in
set_option maxHeartbeats 16000000 in
theorem read1 : readB3 1 = true := by decide +kernel
set_option maxRecDepth 100000 in
set_option maxHeartbeats 16000000 in
theorem read2 : readB3 2 = true := by decide +kernel
theorem drL_read {s t u : Nat} (hs : s ≤ 2) (ht : t ≤ 2) (hu : u ≤ 2) : parL (fmtL (drL s t u)) = (drL s t u, true) := by
  have h : all3 readB3 = true := by
    unfold all3
    rw [read0, read1, read2]; rfl
  have h1 := all3_of (all3_of (all3_of h hs) ht) hu
  exact of_decide_eq_true h1
theorem drL_size {s t u : Nat} (hs : s ≤ 2) (ht : t ≤ 2) (hu : u ≤ 2) : (fmtL (drL s t u)).size ≤ 11 := by
  have h : all3 (fun s => all3 fun t => all3 fun u => decide ((fmtL (drL s t u)).size ≤ 11)) = true := by decide +kernel
  have h1 := all3_of (all3_of (all3_of h hs) ht) hu
  exact of_decide_eq_true h1

end Go.Proofs.YtaokabkffnjbjaaDoor

namespace Go.Proofs.YtaokabkffnjbjaaDoor
open Go.RowKit
set_option linter.unusedVariables false
set_option linter.unusedSimpArgs false

/-- Does s begin with p? -/
def hpB (s p : ByteArray) : Bool := decide (p.size ≤ s.size) && ((s.extract 0 p.size).data.toList == p.data.toList)
/-- s without p at its beginning. -/
def cutB (s p : ByteArray) : ByteArray := if hpB s p then s.extract p.size s.size else s
/-- The literal that the program reads of a word. -/
def litP (t : ByteArray) : Int := if hpB t ⟨#[33]⟩ then IntKind.i64.wrap (-((parseOf (cutB (cutB t ⟨#[33]⟩) ⟨#[112]⟩)).getD 0)) else (parseOf (cutB (cutB t ⟨#[33]⟩) ⟨#[112]⟩)).getD 0
def lwW (s : ByteArray) : List Int := (split s ⟨#[38]⟩).map litP
/-- The label that the program reads of a text. -/
def lwL (s : ByteArray) : List Int × Bool := if s = ⟨#[45]⟩ then ([], true) else if labR (lwW s) = true ∧ fmtL (lwW s) = s then (lwW s, true) else ([], false)
def R7 : List Int := [-3, -2, -1, 0, 1, 2, 3]
theorem mem7 {x : Int} (h : litB x = true) : x ∈ R7 := by
  have := litB_of h
  simp [R7]; omega
def fndR (l : List Int) : Bool := [0, 1, 2].any fun s => [0, 1, 2].any fun t => [0, 1, 2].any fun u => decide (l = drL s t u)
theorem fnd_of {l : List Int} (h : fndR l = true) : ∃ s t u, s ≤ 2 ∧ t ≤ 2 ∧ u ≤ 2 ∧ l = drL s t u := by
  unfold fndR at h
  rw [List.any_eq_true] at h
  obtain ⟨s, hs, h⟩ := h
  rw [List.any_eq_true] at h
  obtain ⟨t, ht, h⟩ := h
  rw [List.any_eq_true] at h
  obtain ⟨u, hu, h⟩ := h
  refine ⟨s, t, u, ?_, ?_, ?_, of_decide_eq_true h⟩
  · simp at hs; omega
  · simp at ht; omega
  · simp at hu; omega
theorem fnd0 : fndR [] = true := by decide +kernel
theorem fnd1 : (R7.all fun x => !(labR [x]) || fndR [x]) = true := by decide +kernel
theorem fnd2 : (R7.all fun x => R7.all fun y => !(labR [x, y]) || fndR [x, y]) = true := by decide +kernel
theorem fnd3 : (R7.all fun x => R7.all fun y => R7.all fun z => !(labR [x, y, z]) || fndR [x, y, z]) = true := by decide +kernel
theorem dr_of {l : List Int} (h : labR l = true) : ∃ s t u, s ≤ 2 ∧ t ≤ 2 ∧ u ≤ 2 ∧ l = drL s t u := by
  apply fnd_of
  have hlen := labR_len h
  match l, h, hlen with
  | [], _, _ => exact fnd0
  | [x], h, _ =>
    have hx := mem7 (labR_lit h (x := x) (by simp))
    have h1 := List.all_eq_true.1 fnd1 x hx
    rw [h] at h1; simpa using h1
  | [x, y], h, _ =>
    have hx := mem7 (labR_lit h (x := x) (by simp))
    have hy := mem7 (labR_lit h (x := y) (by simp))
    have h1 := List.all_eq_true.1 (List.all_eq_true.1 fnd2 x hx) y hy
    rw [h] at h1; simpa using h1
  | [x, y, z], h, _ =>
    have hx := mem7 (labR_lit h (x := x) (by simp))
    have hy := mem7 (labR_lit h (x := y) (by simp))
    have hz := mem7 (labR_lit h (x := z) (by simp))
    have h1 := List.all_eq_true.1 (List.all_eq_true.1 (List.all_eq_true.1 fnd3 x hx) y hy) z hz
    rw [h] at h1; simpa using h1
  | _ :: _ :: _ :: _ :: _, _, h => exact absurd h (by simp)
def readP (s : Nat) : Bool := all3 fun t => all3 fun u => decide (drL s t u = [] ∨ lwW (fmtL (drL s t u)) = drL s t u)
set_option maxRecDepth 100000 in
set_option maxHeartbeats 16000000 in
theorem readP0 : readP 0 = true := by decide +kernel
set_option maxRecDepth 100000 in
set_option maxHeartbeats 16000000 in
theorem readP1 : readP 1 = true := by decide +kernel
set_option maxRecDepth 100000 in
set_option maxHeartbeats 16000000 in
theorem readP2 : readP 2 = true := by decide +kernel
theorem drL_readP {s t u : Nat} (hs : s ≤ 2) (ht : t ≤ 2) (hu : u ≤ 2) : drL s t u = [] ∨ lwW (fmtL (drL s t u)) = drL s t u := by
  have h : all3 readP = true := by
    unfold all3
    rw [readP0, readP1, readP2]; rfl
  have h1 := all3_of (all3_of (all3_of h hs) ht) hu
  exact of_decide_eq_true h1
theorem parL_cases {s : ByteArray} (hd : ¬ s = ⟨#[45]⟩) : parL s = ([], false) ∨ ∃ o, labR o = true ∧ fmtL o = s ∧ parL s = (o, true) := by
  unfold parL
  rw [if_neg hd]
  split
  · next o ho =>
    by_cases h : labR o = true ∧ fmtL o = s
    · rw [if_pos h]; exact .inr ⟨o, h.1, h.2, rfl⟩
    · rw [if_neg h]; exact .inl rfl
  · exact .inl rfl
theorem lw_par (s : ByteArray) : lwL s = parL s := by
  by_cases hd : s = ⟨#[45]⟩
  · unfold lwL parL; rw [if_pos hd, if_pos hd]
  · by_cases h : labR (lwW s) = true ∧ fmtL (lwW s) = s
    · have h2 : lwL s = (lwW s, true) := by unfold lwL; rw [if_neg hd, if_pos h]
      rw [h2]
      obtain ⟨a, b, c, ha, hb, hc, e⟩ := dr_of h.1
      have hr := drL_read ha hb hc
      rw [← e, h.2] at hr
      exact hr.symm
    · have h2 : lwL s = ([], false) := by unfold lwL; rw [if_neg hd, if_neg h]
      rw [h2]
      rcases parL_cases hd with h3 | ⟨o, h3, h4, h5⟩
      · exact h3.symm
      · exfalso
        obtain ⟨a, b, c, ha, hb, hc, e⟩ := dr_of h3
        rcases drL_readP ha hb hc with h6 | h6
        · rw [← e] at h6
          apply hd
          rw [← h4, h6]; rfl
        · rw [← e, h4] at h6
          exact h ⟨by rw [h6]; exact h3, by rw [h6]; exact h4⟩

end Go.Proofs.YtaokabkffnjbjaaDoor

namespace Go.Proofs.YtaokabkffnjbjaaDoor
open Go.Shelf

def lays240_ren : Go.Shelf.Ren := ⟨fun | 240 => 56 | 276 => 62 | n => n, fun | 0 => 0 | 4 => 4 | 9 => 9 | 20 => 20 | 37 => 22 | 70 => 63 | 72 => 65 | 164 => 76 | n => n, fun | n => n⟩
theorem lays240 : Go.Proofs.Lays.n240 Tryd.prog lays240_ren := {
  mixed := by kernel_rfl
  f240 := Tryd.func56.trans (congrArg some (by kernel_rfl))
  f276 := Tryd.func62.trans (congrArg some (by kernel_rfl))
  t0 := Tryd.underlying0
  a0 := Tryd.isAgg0
  z0 := Tryd.sizeOf0
  v0 := Tryd.zeroValue0
  t4 := Tryd.underlying4
  a4 := Tryd.isAgg4
  z4 := Tryd.sizeOf4
  v4 := Tryd.zeroValue4
  t9 := Tryd.underlying9
  a9 := Tryd.isAgg9
  z9 := Tryd.sizeOf9
  v9 := Tryd.zeroValue9
  t20 := Tryd.underlying20
  a20 := Tryd.isAgg20
  z20 := Tryd.sizeOf20
  v20 := Tryd.zeroValue20
  t70 := Tryd.underlying63
  a70 := Tryd.isAgg63
  z70 := Tryd.sizeOf63
  v70 := Tryd.zeroValue63
  t72 := Tryd.underlying65
  a72 := Tryd.isAgg65
  z72 := Tryd.sizeOf65
  v72 := Tryd.zeroValue65
  t164 := Tryd.underlying76
  a164 := Tryd.isAgg76
  z164 := Tryd.sizeOf76
  v164 := Tryd.zeroValue76 }
def lays166_ren : Go.Shelf.Ren := ⟨fun | 166 => 48 | 240 => 56 | 276 => 62 | n => n, fun | 0 => 0 | 3 => 3 | 4 => 4 | 5 => 5 | 9 => 9 | 20 => 20 | 37 => 22 | 70 => 63 | 72 => 65 | 75 => 67 | 80 => 46 | 164 => 76 | n => n, fun | n => n⟩
theorem lays166 : Go.Proofs.Lays.n166 Tryd.prog lays166_ren := {
  mixed := by kernel_rfl
  f166 := Tryd.func48.trans (congrArg some (by kernel_rfl))
  f240 := Tryd.func56.trans (congrArg some (by kernel_rfl))
  f276 := Tryd.func62.trans (congrArg some (by kernel_rfl))
  t0 := Tryd.underlying0
  a0 := Tryd.isAgg0
  z0 := Tryd.sizeOf0
  v0 := Tryd.zeroValue0
  t3 := Tryd.underlying3
  a3 := Tryd.isAgg3
  z3 := Tryd.sizeOf3
  v3 := Tryd.zeroValue3
  t4 := Tryd.underlying4
  a4 := Tryd.isAgg4
  z4 := Tryd.sizeOf4
  v4 := Tryd.zeroValue4
  t9 := Tryd.underlying9
  a9 := Tryd.isAgg9
  z9 := Tryd.sizeOf9
  v9 := Tryd.zeroValue9
  t20 := Tryd.underlying20
  a20 := Tryd.isAgg20
  z20 := Tryd.sizeOf20
  v20 := Tryd.zeroValue20
  t37 := Tryd.underlying22
  a37 := Tryd.isAgg22
  z37 := Tryd.sizeOf22
  v37 := Tryd.zeroValue22
  t70 := Tryd.underlying63
  a70 := Tryd.isAgg63
  z70 := Tryd.sizeOf63
  v70 := Tryd.zeroValue63
  t72 := Tryd.underlying65
  a72 := Tryd.isAgg65
  z72 := Tryd.sizeOf65
  v72 := Tryd.zeroValue65
  t75 := Tryd.underlying67
  a75 := Tryd.isAgg67
  z75 := Tryd.sizeOf67
  v75 := Tryd.zeroValue67
  t164 := Tryd.underlying76
  a164 := Tryd.isAgg76
  z164 := Tryd.sizeOf76
  v164 := Tryd.zeroValue76 }
theorem extra166 : Builder.Extra Tryd.prog lays166_ren := {
  sizeBuilder := by kernel_rfl
  liesBuilder := by kernel_rfl
  t5 := Tryd.underlying5
  a5 := Tryd.isAgg5
  z5 := Tryd.sizeOf5
  v5 := Tryd.zeroValue5
  infoByte := by kernel_rfl
  cellsByte := by kernel_rfl
  sizeByte := by kernel_rfl
  neB5 := by decide }
def lays169_ren : Go.Shelf.Ren := ⟨fun | 169 => 49 | n => n, fun | 0 => 0 | 3 => 3 | 5 => 5 | 9 => 9 | 37 => 22 | 70 => 63 | 72 => 65 | 127 => 73 | n => n, fun | n => n⟩
theorem lays169 : Go.Proofs.Lays.n169 Tryd.prog lays169_ren := {
  mixed := by kernel_rfl
  f169 := Tryd.func49.trans (congrArg some (by kernel_rfl))
  t0 := Tryd.underlying0
  a0 := Tryd.isAgg0
  z0 := Tryd.sizeOf0
  v0 := Tryd.zeroValue0
  t3 := Tryd.underlying3
  a3 := Tryd.isAgg3
  z3 := Tryd.sizeOf3
  v3 := Tryd.zeroValue3
  t9 := Tryd.underlying9
  a9 := Tryd.isAgg9
  z9 := Tryd.sizeOf9
  v9 := Tryd.zeroValue9
  t37 := Tryd.underlying22
  a37 := Tryd.isAgg22
  z37 := Tryd.sizeOf22
  v37 := Tryd.zeroValue22
  t70 := Tryd.underlying63
  a70 := Tryd.isAgg63
  z70 := Tryd.sizeOf63
  v70 := Tryd.zeroValue63
  t72 := Tryd.underlying65
  a72 := Tryd.isAgg65
  z72 := Tryd.sizeOf65
  v72 := Tryd.zeroValue65
  t127 := Tryd.underlying73
  a127 := Tryd.isAgg73
  z127 := Tryd.sizeOf73
  v127 := Tryd.zeroValue73 }
theorem extra169 : Builder.Extra Tryd.prog lays169_ren := {
  sizeBuilder := by kernel_rfl
  liesBuilder := by kernel_rfl
  t5 := Tryd.underlying5
  a5 := Tryd.isAgg5
  z5 := Tryd.sizeOf5
  v5 := Tryd.zeroValue5
  infoByte := by kernel_rfl
  cellsByte := by kernel_rfl
  sizeByte := by kernel_rfl
  neB5 := by decide }

open Go.RowKit in
theorem Builder_WriteString (B b : Nat) (bs : List Value) (s : ByteArray) (w : World) (h : Lib.IsBuilderF 65 5 B b bs w) (hlen : bs.length + s.size ≤ 140737488355328) (hBw : B ≤ w.heap.size) :
    Calls Tryd.prog 48 #[.pointer (some ⟨b, 0, none⟩), .string s] w fun e w' => e = .returned (.tuple #[.int .i64 s.size, .nilIface]) ∧ (Lib.BuilderAtF 65 5 B b (.pointer (some ⟨b, 0, none⟩)) (bs ++ Lib.strCells s) w' ∧ Below B w w' ∧ Lib.OthersKept 5 (some b) w w') :=
  Any.Builder_WriteString_k lays166 extra166 B b bs s w h hlen hBw
open Go.RowKit in
theorem Builder_String (B b : Nat) (l : List UInt8) (w : World) (h : Lib.IsBuilderF 65 5 B b (Lib.byteCells l) w) (hBw : B ≤ w.heap.size) :
    Calls Tryd.prog 49 #[.pointer (some ⟨b, 0, none⟩)] w fun e w' => e = .returned (.string ⟨l.toArray⟩) ∧ (Lib.IsBuilderF 65 5 B b (Lib.byteCells l) w' ∧ Below B w w' ∧ Lib.OthersKept 5 (some b) w w') :=
  Any.Builder_String_any_k lays169 extra169 B b l w h hBw

end Go.Proofs.YtaokabkffnjbjaaDoor

namespace Go.Proofs.YtaokabkffnjbjaaDoor
open Go.RowKit
set_option linter.unusedVariables false
set_option linter.unusedSimpArgs false

theorem bytes_of (x : ByteArray) : (⟨x.data.toList.toArray⟩ : ByteArray) = x := by
  apply ByteArray.ext; simp
theorem cells_join (x y : ByteArray) : Lib.byteCells x.data.toList ++ Lib.strCells y = Lib.byteCells (x ++ y).data.toList := by
  simp [Lib.byteCells, Lib.strCells]
theorem cells_len (x : ByteArray) : (Lib.byteCells x.data.toList).length = x.size := by simp [Lib.byteCells]

set_option maxRecDepth 100000 in
set_option maxHeartbeats 1000000 in
theorem impl_joinParts (ss : List ByteArray) (sep : ByteArray) (A : Option Addr) (n c : Nat) (w : World) (hn : ss.length = n) (hm : n ≤ 1048576) (hsep : sep.size ≤ 1048576) (hss : ∀ x ∈ ss, x.size ≤ 1048576) (hr : RowAt w A (ss.map Value.string)) :
    Calls Tryd.prog 27 #[.string sep, .slice A n c] w fun e w' => e = .returned (.string (joinB ss sep)) ∧ Below w.heap.size w w' := by
  have HR := Lib.hid hr
  have HL := Lib.hid hn
  have HS := Lib.hid hss
  clear hr hn hss
  go_enter Tryd.func27, Tryd.ntmps27
  go_wp2
  go_loopw [10] (fun i wr => ∃ (k : Nat) (y : ByteArray), k ≤ n ∧ i = .int .i64 k ∧ Hid (joinTo ss sep k = y) ∧ Lib.IsBuilderF 65 5 w.heap.size w.heap.size (Lib.byteCells y.data.toList) wr ∧ Below w.heap.size w wr) (fun i _ => n - (intOf i).toNat)
  case atStart => exact ⟨0, ⟨#[]⟩, Nat.zero_le _, rfl, Lib.hid rfl, Lib.IsBuilderF.of (Lib.fresh_isBuilder _ _ w), (Below.refl _ w).alloc (Nat.le_refl _) _⟩
  case round =>
    obtain ⟨k, y, hk, rfl, HY, hI, hbw⟩ := hrel
    by_cases hlt : k < n
    · have hl := HL.out
      obtain ⟨g, o, rfl, hg, hc⟩ := HR.out (by simp; omega)
      obtain ⟨x, h1, hx2⟩ : ∃ x : ByteArray, wr.cell? ⟨g, o + k, none⟩ = some (.string x) ∧ Hid (ss.getD k ⟨#[]⟩ = x) :=
        ⟨ss[k]'(by omega), (hbw.cell (p := ⟨g, o + k, none⟩) hg).trans ((hc k (by simp; omega)).trans (by rw [List.getElem_map])), Lib.hid (by rw [List.getD_eq_getElem?_getD, List.getElem?_eq_getElem (by omega)]; rfl)⟩
      have hxs : x.size ≤ 1048576 := by
        have := hx2.out
        rw [List.getD_eq_getElem?_getD, List.getElem?_eq_getElem (by omega)] at this
        exact HS.out x (by rw [← this]; exact List.getElem_mem _)
      have hys : y.size ≤ 2199023255552 := by
        have := joinTo_size ss sep hsep HS.out k
        rw [HY.out] at this
        omega
      clear hc hl
      have hstep : Hid (joinTo ss sep (k + 1) = (if 0 < k then y ++ sep else y) ++ x) := Lib.hid (by rw [joinTo, hx2.out, HY.out])
      clear hx2
      have HI := Lib.hid hI
      clear hI
      by_cases h0 : 0 < k
      · rw [if_pos h0] at hstep
        go_wp2_with fail
        refine (Builder_WriteString w.heap.size w.heap.size _ sep wr HI.out (by rw [cells_len]; omega) hbw.size).mono ?_
        rintro e w1 ⟨rfl, h2, b2, _⟩
        rw [cells_join] at h2
        have H2 := Lib.hid (Or.inr h2 : Lib.IsBuilderF 65 5 w.heap.size w.heap.size (Lib.byteCells (y ++ sep).data.toList) w1)
        have hb1 := hbw.trans b2
        clear h2 b2
        go_wp2_with fail
        refine (Builder_WriteString w.heap.size w.heap.size _ x w1 H2.out (by rw [cells_len, ByteArray.size_append]; omega) hb1.size).mono ?_
        rintro e w2 ⟨rfl, h3, b3, _⟩
        rw [cells_join] at h3
        have H3 := Lib.hid (Or.inr h3 : Lib.IsBuilderF 65 5 w.heap.size w.heap.size (Lib.byteCells (y ++ sep ++ x).data.toList) w2)
        have hb2 := hb1.trans b3
        clear h3 b3
        go_wp2
        go_roundw
        case rel => exact ⟨k + 1, _, by omega, by go_num, hstep, H3.out, hb2⟩
        case measure => simp [intOf]; omega
      · rw [if_neg h0] at hstep
        have hk0 : k = 0 := by omega
        subst hk0
        rw [Nat.add_zero] at h1
        go_wp2_with fail
        refine (Builder_WriteString w.heap.size w.heap.size _ x wr HI.out (by rw [cells_len]; omega) hbw.size).mono ?_
        rintro e w2 ⟨rfl, h3, b3, _⟩
        rw [cells_join] at h3
        have H3 := Lib.hid (Or.inr h3 : Lib.IsBuilderF 65 5 w.heap.size w.heap.size (Lib.byteCells (y ++ x).data.toList) w2)
        have hb2 := hbw.trans b3
        clear h3 b3
        go_wp2
        go_roundw
        case rel => exact ⟨1, _, by omega, by go_num, hstep, H3.out, hb2⟩
        case measure => simp [intOf]; omega
    · have hkn : k = n := by omega
      have HI := Lib.hid hI
      clear hI
      go_wp2_with fail
      refine (Builder_String w.heap.size w.heap.size _ wr HI.out hbw.size).mono ?_
      rintro e w1 ⟨rfl, _, b1, _⟩
      have hb1 := hbw.trans b1
      clear b1
      go_wp2
      go_ret
      subst hkn
      exact ⟨by unfold joinB; rw [HL.out, HY.out, bytes_of]; rfl, hb1⟩

end Go.Proofs.YtaokabkffnjbjaaDoor
