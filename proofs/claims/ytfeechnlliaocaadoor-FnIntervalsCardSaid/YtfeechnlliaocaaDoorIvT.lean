/-
  PLAIN: an interval's text, what reads it back, and the parts of such a text.
-/
import Derived.Test.YtfeechnlliaocaaDoorSplit
import Derived.Test.YtfeechnlliaocaaDoorParse
import Derived.Test.YtfeechnlliaocaaDoorIvA
import Derived.Lib.CutLaws
namespace Go.Proofs.YtfeechnlliaocaaDoor
open Go.RowKit
set_option linter.unusedVariables false
set_option linter.unusedSimpArgs false

def infB : ByteArray := ⟨#[105, 110, 102]⟩
def minfB : ByteArray := ⟨#[45, 105, 110, 102]⟩
def dotB : ByteArray := ⟨#[46]⟩
def dotsB : ByteArray := ⟨#[46, 46]⟩
def boundB (n : Int) : ByteArray := if n = 1000000 then infB else if n = -1000000 then minfB else numB n
def ivB (l h : Int) : ByteArray := boundB l ++ dotsB ++ boundB h
def readB (s : ByteArray) : Option Int := if s = infB then some 1000000 else if s = minfB then some (-1000000) else parseOf s
theorem parse_inf : parseOf infB = none := by decide +kernel
theorem parse_minf : parseOf minfB = none := by decide +kernel
theorem parse_empty : parseOf ⟨#[]⟩ = none := by decide +kernel
theorem read_bound (n : Int) (h0 : -9223372036854775808 ≤ n) (h1 : n ≤ 9223372036854775807) : readB (boundB n) = some n := by
  unfold boundB
  split
  · rename_i h; subst h; rfl
  · split
    · rename_i h; subst h; unfold readB; rw [if_neg (by decide), if_pos rfl]
    · have hp := parse_numB n h0 h1
      unfold readB
      rw [if_neg (by intro e; rw [e, parse_inf] at hp; cases hp), if_neg (by intro e; rw [e, parse_minf] at hp; cases hp)]
      exact hp
theorem read_rng {s : ByteArray} {v : Int} (h : readB s = some v) : -9223372036854775808 ≤ v ∧ v ≤ 9223372036854775807 := by
  unfold readB at h
  split at h
  · obtain rfl := Option.some.inj h; omega
  · split at h
    · obtain rfl := Option.some.inj h; omega
    · exact (parse_some h).2.2
theorem itoa_nodot (n : Int) : ∀ c ∈ Lib.itoa n, c ≠ (46 : UInt8) := by
  have key : ∀ (u : Nat) (c : UInt8), c ∈ Lib.decDigits u → c ≠ (46 : UInt8) := by
    intro u c hc e
    have := dec_digits u c hc
    rw [e] at this
    exact absurd this.1 (by decide)
  intro c hc
  by_cases h : 0 ≤ n
  · obtain ⟨u, rfl⟩ : ∃ u : Nat, n = u := ⟨n.toNat, by omega⟩
    rw [Lib.itoa_nonneg] at hc
    exact key u c hc
  · obtain ⟨u, rfl, hu⟩ : ∃ u : Nat, n = -(u : Int) ∧ 1 ≤ u := ⟨n.natAbs, by omega, by omega⟩
    rw [Lib.itoa_neg u hu] at hc
    rcases List.mem_cons.1 hc with rfl | hc
    · decide
    · exact key u c hc
theorem bound_nodot (n : Int) : ∀ c ∈ (boundB n).data.toList, c ≠ (46 : UInt8) := by
  unfold boundB
  split
  · decide
  · split
    · decide
    · simpa [numB] using itoa_nodot n

theorem nodot_at {x : ByteArray} (h : ∀ c ∈ x.data.toList, c ≠ (46 : UInt8)) (k : Nat) (hk : k < x.size) : isSep dotB x[k] = false := by
  have := h x[k] (List.getElem_mem (l := x.data.toList) (n := k) (by simpa using hk))
  simp [isSep, dotB]; exact fun e => this (by simpa using e)

/-- Two points between texts that have none: three parts. -/
theorem split_dots (x y : ByteArray) (hx : ∀ c ∈ x.data.toList, c ≠ (46 : UInt8)) (hy : ∀ c ∈ y.data.toList, c ≠ (46 : UInt8)) : split (x ++ dotsB ++ y) dotB = [x, ⟨#[]⟩, y] := by
  have hsz : (x ++ dotsB ++ y).size = x.size + 2 + y.size := by rw [ByteArray.size_append, ByteArray.size_append]; rfl
  have at1 : ∀ k (hk : k < x.size), (x ++ dotsB ++ y)[k]'(by omega) = x[k] := fun k hk => by
    rw [ByteArray.getElem_append_left (by rw [ByteArray.size_append]; omega), ByteArray.getElem_append_left hk]
  have at2 : ∀ k (h1 : x.size ≤ k) (h2 : k < x.size + 2), (x ++ dotsB ++ y)[k]'(by omega) = 46 := fun k h1 h2 => by
    rw [ByteArray.getElem_append_left (by rw [ByteArray.size_append]; show k < x.size + 2; omega), ByteArray.getElem_append_right h1]
    have : k - x.size = 0 ∨ k - x.size = 1 := by omega
    rcases this with e | e
    · simp only [e]; rfl
    · simp only [e]; rfl
  have at3 : ∀ k (h1 : x.size + 2 ≤ k) (h2 : k < x.size + 2 + y.size), (x ++ dotsB ++ y)[k]'(by omega) = y[k - (x.size + 2)]'(by omega) := fun k h1 h2 => by
    rw [ByteArray.getElem_append_right (by rw [ByteArray.size_append]; exact h1)]
    simp only [ByteArray.size_append]
    rfl
  obtain ⟨s, hs⟩ : ∃ s, s = x ++ dotsB ++ y := ⟨_, rfl⟩
  have e1 : s.extract 0 x.size = x := by
    rw [hs]; apply ByteArray.ext; apply Array.toList_inj.1
    rw [Lib.extract_data]
    simp
  have e2 : s.extract (x.size + 1) (x.size + 1) = ⟨#[]⟩ := by
    apply ByteArray.ext; apply Array.toList_inj.1
    rw [Lib.extract_data]
    simp
  have e3 : s.extract (x.size + 2) s.size = y := by
    rw [hs, hsz]; apply ByteArray.ext; apply Array.toList_inj.1
    rw [Lib.extract_data]
    have e : (x ++ dotsB ++ y).data.toList = (x.data.toList ++ [46, 46]) ++ y.data.toList := by simp [dotsB]
    have el : (x.data.toList ++ [46, 46]).length = x.size + 2 := by simp
    rw [e, ← el, List.drop_left]
    have : x.data.toList.length = x.size := by simp
    apply List.take_of_length_le
    simp
  simp only [← hs] at hsz at1 at2 at3
  rw [← hs]
  have p1 : ∀ k, k ≤ x.size → splitTo s dotB k = ([], 0) := by
    intro k
    induction k with
    | zero => intro _; rfl
    | succ k ih =>
      intro hk
      rw [splitTo_not s dotB k (by omega) (by rw [at1 k (by omega)]; exact nodot_at hx k (by omega))]
      exact ih (by omega)
  have hdot : isSep dotB 46 = true := by decide
  have p2 : splitTo s dotB (x.size + 1) = ([x], x.size + 1) := by
    rw [splitTo_sep s dotB x.size (by omega) (by rw [at2 _ (by omega) (by omega)]; exact hdot), p1 _ (Nat.le_refl _), e1]
    rfl
  have p3 : splitTo s dotB (x.size + 1 + 1) = ([x, ⟨#[]⟩], x.size + 2) := by
    rw [splitTo_sep s dotB (x.size + 1) (by omega) (by rw [at2 _ (by omega) (by omega)]; exact hdot), p2]
    simp only [e2]
    rfl
  have p4 : ∀ k, k ≤ y.size → splitTo s dotB (x.size + 2 + k) = ([x, ⟨#[]⟩], x.size + 2) := by
    intro k
    induction k with
    | zero => intro _; exact p3
    | succ k ih =>
      intro hk
      rw [← Nat.add_assoc, splitTo_not s dotB (x.size + 2 + k) (by omega) (by rw [at3 _ (by omega) (by omega)]; exact nodot_at hy _ (by omega))]
      exact ih (by omega)
  unfold split
  have hz := p4 y.size (Nat.le_refl _)
  rw [← hsz] at hz
  rw [hz]
  simp only [e3]
  rfl

theorem cut_dots (x y : List UInt8) (hx : ∀ c ∈ x, c ≠ (46 : UInt8)) : Lib.cut (x ++ [46, 46] ++ y) [46, 46] = (x, y, true) := by
  have hi : Lib.index (x ++ [46, 46] ++ y) [46, 46] = (x.length : Nat) := by
    apply Lib.index_first
    · simp
    · simp [Lib.occAt]
    · intro j hj
      have : (x ++ [46, 46] ++ y).drop j = x[j] :: (x ++ [46, 46] ++ y).drop (j + 1) := by
        rw [List.drop_eq_getElem_cons (by simp; omega)]
        congr 1
        rw [List.getElem_append_left (by simp; omega), List.getElem_append_left hj]
      unfold Lib.occAt
      rw [this]
      have hne := hx x[j] (List.getElem_mem _)
      simp [List.isPrefixOf, Ne.symm hne]
  unfold Lib.cut
  rw [hi, if_pos (by omega)]
  simp

def cutL (s : ByteArray) : ByteArray := ⟨(Lib.cut s.data.toList dotsB.data.toList).1.toArray⟩
def cutR (s : ByteArray) : ByteArray := ⟨(Lib.cut s.data.toList dotsB.data.toList).2.1.toArray⟩
def lowOf (s : ByteArray) : Int := (readB (cutL s)).getD 0
def highOf (s : ByteArray) : Int := (readB (cutR s)).getD 0
def parseIv (s : ByteArray) : Option (Int × Int) := if okI (lowOf s) (highOf s) = true ∧ ivB (lowOf s) (highOf s) = s then some (lowOf s, highOf s) else none
theorem getD_rng (s : ByteArray) : -9223372036854775808 ≤ (readB s).getD 0 ∧ (readB s).getD 0 ≤ 9223372036854775807 := by
  cases h : readB s with
  | none => decide
  | some v => exact read_rng h
theorem parseIv_some {s : ByteArray} {l h : Int} (p : parseIv s = some (l, h)) : okI l h = true ∧ ivB l h = s := by
  unfold parseIv at p
  split at p
  · rename_i q
    simp only [Option.some.injEq, Prod.mk.injEq] at p
    rw [p.1, p.2] at q
    exact q
  · cases p
theorem cut_iv (l h : Int) : cutL (ivB l h) = boundB l ∧ cutR (ivB l h) = boundB h := by
  have e : (ivB l h).data.toList = (boundB l).data.toList ++ [46, 46] ++ (boundB h).data.toList := by simp [ivB, dotsB]
  have c := cut_dots (boundB l).data.toList (boundB h).data.toList (bound_nodot l)
  unfold cutL cutR
  rw [e, show dotsB.data.toList = [46, 46] from rfl, c]
  exact ⟨Lib.mk_data _, Lib.mk_data _⟩
theorem parseIv_iv {l h : Int} (k : okI l h = true) : parseIv (ivB l h) = some (l, h) := by
  have hk := okI_of k
  have hl : lowOf (ivB l h) = l := by unfold lowOf; rw [(cut_iv l h).1, read_bound l (by omega) (by omega)]; rfl
  have hh : highOf (ivB l h) = h := by unfold highOf; rw [(cut_iv l h).2, read_bound h (by omega) (by omega)]; rfl
  unfold parseIv
  rw [hl, hh, if_pos ⟨k, rfl⟩]
theorem split_iv (l h : Int) : split (ivB l h) dotB = [boundB l, ⟨#[]⟩, boundB h] := split_dots _ _ (bound_nodot l) (bound_nodot h)

/-- What the parts say when the text is one. -/
theorem parts_iv {s : ByteArray} {l h : Int} (p : parseIv s = some (l, h)) : split s dotB = [boundB l, ⟨#[]⟩, boundB h] := by
  rw [← (parseIv_some p).2]; exact split_iv l h
theorem none_len {s : ByteArray} (h : (split s dotB).length ≠ 3) : parseIv s = none := by
  cases p : parseIv s with
  | none => rfl
  | some v => exact absurd (by rw [parts_iv (l := v.1) (h := v.2) p]; rfl) h
theorem none_mid {s a b c : ByteArray} (h : split s dotB = [a, b, c]) (hb : b ≠ ⟨#[]⟩) : parseIv s = none := by
  cases p : parseIv s with
  | none => rfl
  | some v =>
    have := parts_iv (l := v.1) (h := v.2) p
    rw [h] at this
    simp at this
    exact absurd this.2.1 hb
theorem none_low {s a b c : ByteArray} (h : split s dotB = [a, b, c]) (hb : readB a = none) : parseIv s = none := by
  cases p : parseIv s with
  | none => rfl
  | some v =>
    have := parts_iv (l := v.1) (h := v.2) p
    have hk := okI_of (parseIv_some (l := v.1) (h := v.2) p).1
    rw [h] at this
    simp at this
    rw [this.1, read_bound _ (by omega) (by omega)] at hb
    cases hb
theorem none_high {s a b c : ByteArray} (h : split s dotB = [a, b, c]) (hb : readB c = none) : parseIv s = none := by
  cases p : parseIv s with
  | none => rfl
  | some v =>
    have := parts_iv (l := v.1) (h := v.2) p
    have hk := okI_of (parseIv_some (l := v.1) (h := v.2) p).1
    rw [h] at this
    simp at this
    rw [this.2.2, read_bound _ (by omega) (by omega)] at hb
    cases hb
theorem none_text {s a b c : ByteArray} {l k : Int} (h : split s dotB = [a, b, c]) (ha : readB a = some l) (hc : readB c = some k) (hn : ¬ (okI l k = true ∧ ivB l k = s)) : parseIv s = none := by
  cases p : parseIv s with
  | none => rfl
  | some v =>
    have := parts_iv (l := v.1) (h := v.2) p
    have q := parseIv_some (l := v.1) (h := v.2) p
    have hk := okI_of q.1
    rw [h] at this
    simp at this
    rw [this.1, read_bound _ (by omega) (by omega)] at ha
    rw [this.2.2, read_bound _ (by omega) (by omega)] at hc
    obtain rfl := Option.some.inj ha
    obtain rfl := Option.some.inj hc
    exact absurd q hn

end Go.Proofs.YtfeechnlliaocaaDoor
