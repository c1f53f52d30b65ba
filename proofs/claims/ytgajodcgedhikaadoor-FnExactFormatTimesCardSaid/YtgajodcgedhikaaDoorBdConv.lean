/-
  strconv.Itoa AND strconv.Atoi AT THIS TRANSLATION: the shelf's theorems, laid by their structures.
  WALK of impl.FormatInt, and what the listed table gives.
  WALKS of spec.SplitAny and impl.SplitAny: both hand back the same parts, in a row of their own.
  WALKS of spec.Join and of the laws' helpers toStringS, szStringS.
  WALK of spec.FormatLabel.
  PLAIN: what the text of an int is, and that strconv.Atoi reads it back.
  WALKS of impl.ParseInt and spec.ParseInt.
  WALK of spec.ParseInt.
  WALKS of spec.SplitLines and impl.SplitLines.
  PLAIN: parts that are cut at one byte and joined by it give the string back.
  WALK of spec.ParseLabel.
  PLAIN: shows as text: what is written of a show, and what is read of a text.
  PLAIN: a text that is put together of parts without the separator is split into these parts.
-/
import Derived.Shelf.Strconv.Itoa3
import Derived.Shelf.Strconv.AtoiAll
import Derived.Shelf.Strconv.ErrVarAll
import Derived.Test.YtgajodcgedhikaaDoorProg
import Derived.Test.YtgajodcgedhikaaDoorFrame
import Derived.Test.YtgajodcgedhikaaDoorBdShE
import Derived.Lib.LaidTab
import Derived.Stop.LaidErr
import Derived.RowKit
import Derived.Test.YtgajodcgedhikaaDoorBdDig
import Derived.WalkKit
import Derived.WalkSpells
import Derived.WalkLawsBesides
import Derived.Deep.QuietTactic
import Derived.BigQuiet
import Derived.Lib.Hide
import Derived.Laws.Rows
import Derived.Deep.Onto
import Derived.Deep.AppendLies
import Derived.Deep.CutRange
import Derived.Lib.AtoiAll
import Derived.Lib.AtoiAllCases
import Derived.Lib.IndexBytes
import Derived.Lib.Strings
namespace Go.Proofs.YtgajodcgedhikaaDoor
open Go.Shelf

def laysM171_ren : Go.Shelf.Ren := ⟨fun | 171 => 48 | 243 => 65 | 246 => 78 | 283 => 86 | 284 => 87 | 285 => 88 | 286 => 89 | 129 => 91 | 317 => 90 | 318 => 92 | 319 => 93 | 320 => 94 | 337 => 95 | 338 => 96 | n => n, fun | 3 => 3 | 9 => 9 | 2 => 2 | 4 => 4 | 171 => 107 | 0 => 0 | 53 => 108 | 37 => 71 | 5 => 5 | 173 => 111 | 212 => 114 | 51 => 115 | 20 => 20 | 213 => 116 | 46 => 117 | 232 => 120 | 233 => 121 | n => n, fun | 17 => 0 | 18 => 1 | 19 => 2 | n => n⟩
theorem laysM171 : Go.Proofs.LaysM.n171 Tryd.prog laysM171_ren := {
  mixed := by kernel_rfl
  f129 := Tryd.func91.trans (congrArg some (by kernel_rfl))
  f171 := Tryd.func48.trans (congrArg some (by kernel_rfl))
  f243 := Tryd.func65.trans (congrArg some (by kernel_rfl))
  f246 := Tryd.func78.trans (congrArg some (by kernel_rfl))
  f283 := Tryd.func86.trans (congrArg some (by kernel_rfl))
  f284 := Tryd.func87.trans (congrArg some (by kernel_rfl))
  f285 := Tryd.func88.trans (congrArg some (by kernel_rfl))
  f286 := Tryd.func89.trans (congrArg some (by kernel_rfl))
  f317 := Tryd.func90.trans (congrArg some (by kernel_rfl))
  f318 := Tryd.func92.trans (congrArg some (by kernel_rfl))
  f319 := Tryd.func93.trans (congrArg some (by kernel_rfl))
  f320 := Tryd.func94.trans (congrArg some (by kernel_rfl))
  f337 := Tryd.func95.trans (congrArg some (by kernel_rfl))
  f338 := Tryd.func96.trans (congrArg some (by kernel_rfl))
  t0 := Tryd.underlying0
  a0 := Tryd.isAgg0
  z0 := Tryd.sizeOf0
  v0 := Tryd.zeroValue0
  t2 := Tryd.underlying2
  a2 := Tryd.isAgg2
  z2 := Tryd.sizeOf2
  v2 := Tryd.zeroValue2
  t3 := Tryd.underlying3
  a3 := Tryd.isAgg3
  z3 := Tryd.sizeOf3
  v3 := Tryd.zeroValue3
  t4 := Tryd.underlying4
  a4 := Tryd.isAgg4
  z4 := Tryd.sizeOf4
  v4 := Tryd.zeroValue4
  t5 := Tryd.underlying5
  a5 := Tryd.isAgg5
  z5 := Tryd.sizeOf5
  v5 := Tryd.zeroValue5
  t9 := Tryd.underlying9
  a9 := Tryd.isAgg9
  z9 := Tryd.sizeOf9
  v9 := Tryd.zeroValue9
  t20 := Tryd.underlying20
  a20 := Tryd.isAgg20
  z20 := Tryd.sizeOf20
  v20 := Tryd.zeroValue20
  t37 := Tryd.underlying71
  a37 := Tryd.isAgg71
  z37 := Tryd.sizeOf71
  v37 := Tryd.zeroValue71
  t46 := Tryd.underlying117
  a46 := Tryd.isAgg117
  z46 := Tryd.sizeOf117
  v46 := Tryd.zeroValue117
  t51 := Tryd.underlying115
  a51 := Tryd.isAgg115
  z51 := Tryd.sizeOf115
  v51 := Tryd.zeroValue115
  t53 := Tryd.underlying108
  a53 := Tryd.isAgg108
  z53 := Tryd.sizeOf108
  v53 := Tryd.zeroValue108
  t171 := Tryd.underlying107
  a171 := Tryd.isAgg107
  z171 := Tryd.sizeOf107
  v171 := Tryd.zeroValue107
  t173 := Tryd.underlying111
  a173 := Tryd.isAgg111
  z173 := Tryd.sizeOf111
  v173 := Tryd.zeroValue111
  t212 := Tryd.underlying114
  a212 := Tryd.isAgg114
  z212 := Tryd.sizeOf114
  v212 := Tryd.zeroValue114
  t213 := Tryd.underlying116
  a213 := Tryd.isAgg116
  z213 := Tryd.sizeOf116
  t232 := Tryd.underlying120
  a232 := Tryd.isAgg120
  z232 := Tryd.sizeOf120
  v232 := Tryd.zeroValue120
  t233 := Tryd.underlying121
  a233 := Tryd.isAgg121
  z233 := Tryd.sizeOf121
  v233 := Tryd.zeroValue121
  g17 := by kernel_rfl
  g18 := by kernel_rfl
  g19 := by kernel_rfl
  i0 := by kernel_rfl
  i2 := by kernel_rfl
  i3 := by kernel_rfl
  i4 := by kernel_rfl
  i5 := by kernel_rfl
  i9 := by kernel_rfl
  i20 := by kernel_rfl
  i37 := by kernel_rfl
  i46 := by kernel_rfl
  i51 := by kernel_rfl
  i53 := by kernel_rfl
  i171 := by kernel_rfl
  i173 := by kernel_rfl
  i212 := by kernel_rfl
  i232 := by kernel_rfl
  i233 := by kernel_rfl
  m17 := by kernel_rfl
  m18 := by kernel_rfl
  m19 := by kernel_rfl }

open Go.RowKit Go.Sort in
theorem strconv_Itoa (n : Int) (h0 : -9223372036854775808 ≤ n) (h1 : n ≤ 9223372036854775807) (w : World) (htab : Lib.TabIs Tryd.prog w "internal/strconv.uint64pow10" .u64 Lib.pow10Tab) :
    Calls Tryd.prog 48 #[.int .i64 n] w fun e w' => e = .returned (.string ⟨(Lib.itoa n).toArray⟩) ∧ ∃ k os, w' = grow (w.drewN k) os := Any.strconv_Itoa laysM171 n h0 h1 w htab

end Go.Proofs.YtgajodcgedhikaaDoor

namespace Go.Proofs.YtgajodcgedhikaaDoor
open Go.RowKit
set_option linter.unusedVariables false
set_option linter.unusedSimpArgs false

/-- A listed variable reads as it did where nothing old has turned. -/
theorem var_kept {P : Program} {W W' : World} {n : String} {cs : Array Value} (hb : Below W.heap.size W W') (h : W.var? P n = some cs) : W'.var? P n = some cs := by
  unfold World.var? at h ⊢
  cases hg : P.globalNamed n with
  | none => simp [hg] at h
  | some g =>
    simp only [hg, Option.bind_some] at h ⊢
    have hlt : g < W.heap.size := by
      rcases Nat.lt_or_ge g W.heap.size with h2 | h2
      · exact h2
      · rw [Array.getElem?_eq_none h2] at h; simp at h
    rw [hb.block g hlt]
    exact h

abbrev Pow10 (w : World) : Prop := Lib.TabIs Tryd.prog w "internal/strconv.uint64pow10" .u64 Lib.pow10Tab

theorem below_grow (w : World) (k : Nat) (os : Array Obj) : Below w.heap.size w (Go.Sort.grow (w.drewN k) os) := by
  refine ⟨rfl, rfl, rfl, ?_, fun i hi => ?_⟩
  · show w.heap.size ≤ (w.heap ++ os).size
    simp
  · show (w.heap ++ os)[i]? = w.heap[i]?
    rw [Array.getElem?_append_left hi]

set_option maxRecDepth 100000 in
set_option maxHeartbeats 400000 in
theorem impl_FormatInt (n : Int) (w : World) (h0 : -9223372036854775808 ≤ n) (h1 : n ≤ 9223372036854775807) (ht : Pow10 w) :
    Calls Tryd.prog 31 #[.int .i64 n] w fun e w' => e = .returned (.string (numB n)) ∧ Below w.heap.size w w' := by
  have HC := Lib.hid (strconv_Itoa n h0 h1 w ht)
  clear ht
  go_enter Tryd.func31, Tryd.ntmps31
  go_wp2_with fail
  refine HC.out.mono ?_
  rintro e w1 ⟨rfl, k, os, hw⟩
  have hb : Below w.heap.size w w1 := by rw [hw]; exact below_grow w k os
  clear hw
  go_wp2
  go_ret
  exact ⟨rfl, hb⟩

set_option maxRecDepth 100000 in
set_option maxHeartbeats 400000 in
/-- spec.FormatInt, at every int. -/
theorem spec_FormatInt (n : Int) (w : World) (h0 : -9223372036854775808 ≤ n) (h1 : n ≤ 9223372036854775807) :
    Calls Tryd.prog 28 #[.int .i64 n] w fun e w' => e = .returned (.string (numB n)) ∧ Below w.heap.size w w' := by
  by_cases h : 0 ≤ n
  · obtain ⟨u, rfl⟩ : ∃ u : Nat, n = u := ⟨n.toNat, by omega⟩
    rw [numB_pos]
    exact spec_FormatInt_pos u w (by omega)
  · obtain ⟨u, rfl⟩ : ∃ u : Nat, n = -(u : Int) := ⟨n.natAbs, by omega⟩
    rw [numB_neg u (by omega)]
    exact spec_FormatInt_neg u w (by omega) (by omega)

theorem gPow10 : Tryd.prog.globalNamed "internal/strconv.uint64pow10" = some 0 := by kernel_rfl
theorem tPow10 : (Tryd.prog.globals[0]?).map (·.type) = some 114 := by kernel_rfl
theorem cPow10 : Tryd.prog.cellsOf 114 = 20 := by kernel_rfl
theorem cU64 : Tryd.prog.cellsOf 108 = 1 := by kernel_rfl
theorem pow10_of {d : DataW Unit} (hd : d = Lib.tabData .u64 Lib.pow10Tab) {r : List (String × DataW Unit)} {W : World} (h : laidMet Tryd.prog (("internal/strconv.uint64pow10", d) :: r) W) : Pow10 W := by
  subst hd
  exact Lib.tabIs_of_head gPow10 tPow10 Tryd.underlying114 Tryd.underlying108 cU64 cPow10 h

end Go.Proofs.YtgajodcgedhikaaDoor

namespace Go.Proofs.YtgajodcgedhikaaDoor
open Go.RowKit
set_option linter.unusedVariables false
set_option linter.unusedSimpArgs false

def isSep (sp : ByteArray) (c : UInt8) : Bool := sp.data.toList.contains c
/-- The parts that are cut off by place k, and where the part at hand begins. -/
def splitTo (s sp : ByteArray) : Nat → List ByteArray × Nat
  | 0 => ([], 0)
  | k + 1 => if h : k < s.size then (if isSep sp s[k] then ((splitTo s sp k).1 ++ [s.extract (splitTo s sp k).2 k], k + 1) else splitTo s sp k) else splitTo s sp k
def split (s sp : ByteArray) : List ByteArray := (splitTo s sp s.size).1 ++ [s.extract (splitTo s sp s.size).2 s.size]

theorem splitTo_le (s sp : ByteArray) (k : Nat) : (splitTo s sp k).2 ≤ k ∧ (splitTo s sp k).1.length ≤ k := by
  induction k with
  | zero => simp [splitTo]
  | succ k ih =>
    unfold splitTo
    split
    · split
      · simp; omega
      · omega
    · omega
theorem splitTo_sep (s sp : ByteArray) (k : Nat) (h : k < s.size) (hc : isSep sp s[k] = true) : splitTo s sp (k + 1) = ((splitTo s sp k).1 ++ [s.extract (splitTo s sp k).2 k], k + 1) := by
  rw [splitTo, dif_pos h, if_pos hc]
theorem splitTo_not (s sp : ByteArray) (k : Nat) (h : k < s.size) (hc : isSep sp s[k] = false) : splitTo s sp (k + 1) = splitTo s sp k := by
  rw [splitTo, dif_pos h, if_neg (by simp [hc])]

/-- The first place of a separator's byte among the separators. -/
theorem sep_first (sp : ByteArray) (c : UInt8) (h : isSep sp c = true) : ∃ j, ∃ hj : j < sp.size, sp[j] = c ∧ ∀ i (hi : i < j), sp[i]'(by omega) ≠ c := by
  unfold isSep at h
  have hm : c ∈ sp.data.toList := by simpa using h
  have hlt := List.findIdx_lt_length_of_exists (p := (· == c)) (xs := sp.data.toList) ⟨c, hm, by simp⟩
  refine ⟨sp.data.toList.findIdx (· == c), by simpa using hlt, ?_, ?_⟩
  · exact beq_iff_eq.1 (List.findIdx_getElem (w := hlt))
  · intro i hi
    have := List.not_of_lt_findIdx hi
    exact fun e => by rw [show (sp.data.toList[i]'(by simp; have := hlt; simp at this; omega) == c) = true from beq_iff_eq.2 e] at this; cases this
theorem sep_none (sp : ByteArray) (c : UInt8) (h : isSep sp c = false) (i : Nat) (hi : i < sp.size) : sp[i] ≠ c := by
  intro e
  unfold isSep at h
  have hm : c ∈ sp.data.toList := by
    rw [← e]
    exact List.getElem_mem (l := sp.data.toList) (n := i) (by simpa using hi)
  simp at h
  exact h (by simpa using hm)

theorem Tryd.info9 : (Tryd.prog.info? 9).map (fun i => (i.zero, i.size, i.bytes)) = some (some (.string ⟨#[]⟩), 1, 16) := by kernel_rfl

theorem split_len (s sp : ByteArray) : (split s sp).length ≤ s.size + 1 := by
  have := (splitTo_le s sp s.size).2
  simp [split]; omega

end Go.Proofs.YtgajodcgedhikaaDoor

namespace Go.Proofs.YtgajodcgedhikaaDoor
open Go.RowKit
set_option linter.unusedVariables false
set_option linter.unusedSimpArgs false

/-- The first k parts, joined. -/
def joinTo (ss : List ByteArray) (sep : ByteArray) : Nat → ByteArray
  | 0 => ⟨#[]⟩
  | k + 1 => (if 0 < k then joinTo ss sep k ++ sep else joinTo ss sep k) ++ ss.getD k ⟨#[]⟩
def joinB (ss : List ByteArray) (sep : ByteArray) : ByteArray := joinTo ss sep ss.length

theorem joinTo_size (ss : List ByteArray) (sep : ByteArray) (hsep : sep.size ≤ 1048576) (hss : ∀ x ∈ ss, x.size ≤ 1048576) (k : Nat) : (joinTo ss sep k).size ≤ k * 2097152 := by
  induction k with
  | zero => simp [joinTo, ByteArray.size]
  | succ k ih =>
    have h1 : (ss.getD k ⟨#[]⟩).size ≤ 1048576 := by
      rw [List.getD_eq_getElem?_getD]
      cases h : ss[k]? with
      | none => simp [ByteArray.size]
      | some x => exact hss x (List.mem_of_getElem? h)
    unfold joinTo
    split <;> simp only [ByteArray.size_append] <;> omega

set_option maxRecDepth 100000 in
set_option maxHeartbeats 400000 in
theorem spec_Join (ss : List ByteArray) (sep : ByteArray) (A : Option Addr) (n c : Nat) (w : World) (hn : ss.length = n) (hm : n ≤ 1048576) (hsep : sep.size ≤ 1048576) (hss : ∀ x ∈ ss, x.size ≤ 1048576) (hr : RowAt w A (ss.map Value.string)) :
    Calls Tryd.prog 34 #[.slice A n c, .string sep] w fun e w' => e = .returned (.string (joinB ss sep)) ∧ w = w' := by
  have HR := Lib.hid hr
  have HL := Lib.hid hn
  have HS := Lib.hid hss
  clear hr hn hss
  go_enter Tryd.func34, Tryd.ntmps34
  go_wp2
  go_loop [5, 10] (fun o i => ∃ (k : Nat) (y : ByteArray), k ≤ n ∧ i = .int .i64 k ∧ o = .string y ∧ Hid (joinTo ss sep k = y)) (fun _ i => n - (intOf i).toNat)
  case atStart => exact ⟨0, _, Nat.zero_le _, rfl, rfl, Lib.hid rfl⟩
  case round =>
    obtain ⟨k, y, hk, rfl, rfl, HY⟩ := hrel
    by_cases hlt : k < n
    · have hl := HL.out
      obtain ⟨g, o, rfl, hg, hc⟩ := HR.out (by simp; omega)
      obtain ⟨x, h1, hx2⟩ : ∃ x : ByteArray, w.cell? ⟨g, o + k, none⟩ = some (.string x) ∧ Hid (ss.getD k ⟨#[]⟩ = x) :=
        ⟨ss[k]'(by omega), (hc k (by simp; omega)).trans (by rw [List.getElem_map]), Lib.hid (by rw [List.getD_eq_getElem?_getD, List.getElem?_eq_getElem (by omega)]; rfl)⟩
      have hxs : x.size ≤ 1048576 := by
        have := hx2.out
        rw [List.getD_eq_getElem?_getD, List.getElem?_eq_getElem (by omega)] at this
        exact HS.out x (by rw [← this]; exact List.getElem_mem _)
      have hys : y.size ≤ 2199023255552 := by
        have := joinTo_size ss sep hsep HS.out k
        rw [HY.out] at this
        omega
      clear hc hl
      have hstep : Hid (joinTo ss sep (k + 1) = (if 0 < k then y ++ sep else y) ++ x) := Lib.hid (by rw [joinTo, hx2.out, HY.out])
      clear hx2
      by_cases h0 : 0 < k
      · rw [if_pos h0] at hstep
        have hsz : (y ++ sep).size ≤ 4398046511104 := by rw [ByteArray.size_append]; omega
        go_wp2
        go_round
        case rel => exact ⟨k + 1, _, by omega, by go_num, rfl, hstep⟩
        case measure => simp [intOf]; omega
      · rw [if_neg h0] at hstep
        have hk0 : k = 0 := by omega
        subst hk0
        rw [Nat.add_zero] at h1
        go_wp2
        go_round
        case rel => exact ⟨1, _, by omega, by go_num, rfl, hstep⟩
        case measure => simp [intOf]; omega
    · go_wp2
      go_ret
      have hkn : k = n := by omega
      subst hkn
      exact ⟨by unfold joinB; rw [HL.out, HY.out]; rfl, rfl⟩

/-- What szStringS tells where its answer is not negative. -/
def SzTells (ss : List ByteArray) (n : Nat) (r : Int) : Prop := r ≤ 1048576 ∧ -1 ≤ r ∧ (0 ≤ r → n ≤ 1048576 ∧ ∀ x ∈ ss, x.size ≤ 1048576)

theorem put_next (xs : List Value) (z : Value) (n k : Nat) (x : Value) (hx : xs[k]? = some x) (hl : xs.length = n) (hk : k < n) :
    (xs.take k ++ List.replicate (n - k) z).set k x = xs.take (k + 1) ++ List.replicate (n - (k + 1)) z := by
  have h1 : (xs.take k).length = k := by simp; omega
  rw [List.set_append, if_neg (by omega), h1, Nat.sub_self]
  obtain ⟨m, hm⟩ : ∃ m, n - k = m + 1 := ⟨n - k - 1, by omega⟩
  rw [hm, show n - (k + 1) = m from by omega, List.replicate_succ, List.set_cons_zero, List.take_add_one, hx]
  simp

end Go.Proofs.YtgajodcgedhikaaDoor

namespace Go.Proofs.YtgajodcgedhikaaDoor
open Go.RowKit
set_option linter.unusedVariables false
set_option linter.unusedSimpArgs false

/-- The text of a literal. -/
def litW (x : Int) : ByteArray := if x < 0 then ⟨#[33]⟩ ++ (⟨#[112]⟩ ++ numB (absI x)) else ⟨#[112]⟩ ++ numB (absI x)
/-- The text of a label. -/
def fmtL (l : List Int) : ByteArray := if labR l then (if l.length = 0 then ⟨#[45]⟩ else joinB (l.map litW) ⟨#[38]⟩) else ⟨#[]⟩
theorem num_three {x : Int} (h : litB x = true) : (numB (absI x)).size = 1 := by
  have hab := litB_abs h
  obtain ⟨u, hu⟩ : ∃ u : Nat, absI x = u := ⟨(absI x).toNat, by omega⟩
  rw [hu, numB_pos, decB_small u (by omega)]
  rfl
theorem litW_size {x : Int} (h : litB x = true) : (litW x).size ≤ 3 := by
  have := num_three h
  unfold litW
  split
  · rw [ByteArray.size_append, ByteArray.size_append, this]; exact Nat.le_refl _
  · rw [ByteArray.size_append, this]; exact Nat.le_succ _
theorem fmt_no {l : List Int} (h : labR l = false) : fmtL l = ⟨#[]⟩ := by unfold fmtL; rw [h]; rfl
theorem fmt_nil {l : List Int} (h : labR l = true) (h0 : l.length = 0) : fmtL l = ⟨#[45]⟩ := by unfold fmtL; rw [h, if_pos rfl, if_pos h0]
theorem fmt_lit {l : List Int} (h : labR l = true) (h0 : ¬ l.length = 0) : fmtL l = joinB (l.map litW) ⟨#[38]⟩ := by unfold fmtL; rw [h, if_pos rfl, if_neg h0]
theorem own_empS {W : World} {B s : Nat} {t : TypeId} (b : Nat) (hB : B ≤ b) (h : W.heap[b]? = some (.cells #[] t (0, 0))) : W.ownsRow B t s (.slice (some ⟨b, 0, none⟩) 0 0) 0 [] :=
  ⟨by simp, .inr ⟨b, 0, #[], rfl, hB, h, Nat.le_refl _, Nat.zero_le _, by simp, by simp⟩⟩
theorem heap_newS (w : World) (o : Obj) (g : Nat) (h : g = w.heap.size) : (w.alloc o).heap[g]? = some o := by rw [h]; exact heap_alloc_new w o
theorem one_c1S (a : ByteArray) : ∀ u ∈ [Value.string a], u.oneCell' = true := fun u hu => by simp at hu; subst hu; rfl
theorem str_ans {a b : ByteArray} (h : a = b) : Ending.returned (.string a) = .returned (.string b) := by rw [h]
theorem litW_next {l : List Int} {j : Nat} (h : j < l.length) : ((l.take (j + 1)).map litW).map Value.string = ((l.take j).map litW).map Value.string ++ [.string (litW l[j])] := by
  rw [List.take_add_one, List.getElem?_eq_getElem h, List.map_append, List.map_append]; rfl

set_option maxRecDepth 100000 in
set_option maxHeartbeats 4000000 in
theorem spec_FormatLabel (l : List Int) (A : Option Addr) (k c : Nat) (w : World) (hl : l.length = k) (hm : k ≤ 1048576) (hr : RowAt w A (l.map intV)) :
    Calls Tryd.prog 29 #[.slice A k c] w fun e w' => e = .returned (.string (fmtL l)) ∧ Below w.heap.size w w' := by
  obtain ⟨i1, hii, hy0, hy1, hy2⟩ := info_parts Tryd.info9
  obtain ⟨wa, hwa⟩ : ∃ W, W = w.alloc (.cells #[] 9) := ⟨_, rfl⟩
  have ba : Below w.heap.size w wa := by rw [hwa]; exact (Below.refl _ _).alloc (Nat.le_refl _) _
  have OA : Hid (wa.ownsRow w.heap.size 9 1 (.slice (some ⟨w.heap.size, 0, none⟩) 0 0) 0 (((l.take 0).map litW).map Value.string)) := Lib.hid (own_empS w.heap.size (Nat.le_refl _) (by rw [hwa]; exact heap_alloc_new _ _))
  have BA := Lib.hid ba
  have HOK := Lib.hid (spec_LabelOk l A k c wa hl hm (hr.below ba))
  have HR := Lib.hid hr
  have HL := Lib.hid hl
  clear hr hl ba
  go_enter Tryd.func29, Tryd.ntmps29
  go_upto_region 2 with (fail)
  rw [← hwa]
  clear hwa
  go_wp2_with fail
  refine HOK.out.mono ?_
  rintro e w1 ⟨rfl, rfl⟩
  cases hlab : labR l with
  | false =>
    have HF := Lib.hid (fmt_no hlab)
    clear hlab
    go_wp2_with fail
    go_ret
    exact ⟨str_ans HF.out.symm, BA.out⟩
  | true =>
    have HLB := Lib.hid hlab
    clear hlab
    by_cases h0 : k = 0
    · have HF := Lib.hid (fmt_nil HLB.out (by have := HL.out; omega))
      have hk0 : ((k : Int) == 0) = true := by simp [h0]
      clear h0
      go_wp2_with fail
      go_ret
      exact ⟨str_ans HF.out.symm, BA.out⟩
    · have HF := Lib.hid (fmt_lit HLB.out (by have := HL.out; omega))
      have hk0 : ((k : Int) == 0) = false := by simp; omega
      go_wp2_with fail
      go_loopw [16, 3] (fun i s wr => ∃ (j : Nat) (A2 : Option Addr) (d2 : Nat), j ≤ k ∧ i = .int .i64 j ∧ s = .slice A2 j d2 ∧ wr.ownsRow w.heap.size 9 1 (.slice A2 j d2) j (((l.take j).map litW).map Value.string) ∧ Below w.heap.size w wr) (fun i _ _ => k - (intOf i).toNat)
      case atStart => exact ⟨0, _, _, Nat.zero_le _, rfl, rfl, OA.out, BA.out⟩
      case round =>
        obtain ⟨j, A2, d2, hj, rfl, rfl, hown, hb⟩ := hrel
        have OW := Lib.hid hown
        have HB := Lib.hid hb
        clear hown hb
        by_cases hlt : j < k
        · have hjl : ((j : Int) < (k : Int)) := by omega
          obtain ⟨g, o, rfl, hg, hc⟩ := row_getB HR.out (q := j) (by have := HL.out; omega)
          have HNX := Lib.hid (litW_next (l := l) (j := j) (by have := HL.out; omega))
          obtain ⟨x, hx⟩ : ∃ x, x = l[j]'(by have := HL.out; omega) := ⟨_, rfl⟩
          have hlx : litB x = true := by rw [hx]; exact labR_lit HLB.out (List.getElem_mem _)
          rw [← hx] at hc HNX
          have x1 := (HB.out.cell (p := ⟨g, o + j, none⟩) hg).trans hc
          clear hc hx
          have hx3 := litB_of hlx
          have hab := litB_abs hlx
          have HP := Lib.hid (fun W => prop_any x ⟨hx3.2.1, hx3.2.2⟩ W)
          have hn := fun W => spec_FormatInt (absI x) W (by omega) (by omega)
          have hnsz := num_three hlx
          obtain ⟨nb, hnb⟩ : ∃ t, t = numB (absI x) := ⟨_, rfl⟩
          rw [← hnb] at hn hnsz
          have HN := Lib.hid hn
          clear hn
          obtain ⟨W9, hW9⟩ : ∃ t, t = litW x := ⟨_, rfl⟩
          by_cases hneg : x < 0
          · have e9 : ⟨#[33]⟩ ++ (⟨#[112]⟩ ++ nb) = W9 := by rw [hW9, hnb]; unfold litW; rw [if_pos hneg]
            have E9 := Lib.hid e9
            rw [← hW9] at HNX
            have hsz2 : ((⟨#[112]⟩ : ByteArray) ++ nb).size = 2 := by rw [ByteArray.size_append, hnsz]; rfl
            clear hlx hab hW9 e9 hnb
            clear hx3
            go_wp2_with fail
            refine (HP.out _).mono ?_
            rintro e w2 ⟨rfl, rfl⟩
            go_wp2_with fail
            refine (HN.out _).mono ?_
            rintro e w3 ⟨rfl, bh⟩
            have HB3 := Lib.hid (HB.out.trans (bh.mono HB.out.size))
            have OW3 := Lib.hid (own_below OW.out bh)
            have hbs := HB3.out.size
            clear bh OW HB
            go_wp2_with (at_builtin; refine wpList_append_lies _ rfl _ _ 59 rfl (w.heap.size) 9 i1 (.string ⟨#[]⟩) 1 16 Tryd.underlying59 hii hy0 hy1 hy2 rfl (by decide) _ _ _ rfl (OW3.out.alloc _) ⟨_, 0, none⟩ 1 1 _ rfl rfl (World.news_of_block (heap_newS _ _ _ (by first | rfl | simp))) (one_c1S _) (by decide) (by unfold maxLen; omega) (by omega) (by simp; omega) _ rfl ?_)
            intro g3 cap w6 ho6 hg6 hat6 hl6
            go_wp2_with fail
            go_roundw
            case rel =>
              refine ⟨j + 1, some ⟨g3, 0, none⟩, cap, by omega, by go_num, rfl, ?_, (HB3.out.alloc hbs _).grown hg6 (by simp; omega) (fun r hr => (OW3.out.lt r hr).1)⟩
              rw [HNX.out, ← E9.out]; simpa using ho6
            case measure => simp [intOf]; omega
          · have e9 : ⟨#[112]⟩ ++ nb = W9 := by rw [hW9, hnb]; unfold litW; rw [if_neg hneg]
            have E9 := Lib.hid e9
            rw [← hW9] at HNX
            have hsz2 : ((⟨#[112]⟩ : ByteArray) ++ nb).size = 2 := by rw [ByteArray.size_append, hnsz]; rfl
            clear hlx hab hW9 e9 hnb
            clear hx3
            go_wp2_with fail
            refine (HP.out _).mono ?_
            rintro e w2 ⟨rfl, rfl⟩
            go_wp2_with fail
            refine (HN.out _).mono ?_
            rintro e w3 ⟨rfl, bh⟩
            have HB3 := Lib.hid (HB.out.trans (bh.mono HB.out.size))
            have OW3 := Lib.hid (own_below OW.out bh)
            have hbs := HB3.out.size
            clear bh OW HB
            go_wp2_with (at_builtin; refine wpList_append_lies _ rfl _ _ 59 rfl (w.heap.size) 9 i1 (.string ⟨#[]⟩) 1 16 Tryd.underlying59 hii hy0 hy1 hy2 rfl (by decide) _ _ _ rfl (OW3.out.alloc _) ⟨_, 0, none⟩ 1 1 _ rfl rfl (World.news_of_block (heap_newS _ _ _ (by first | rfl | simp))) (one_c1S _) (by decide) (by unfold maxLen; omega) (by omega) (by simp; omega) _ rfl ?_)
            intro g3 cap w6 ho6 hg6 hat6 hl6
            go_wp2_with fail
            go_roundw
            case rel =>
              refine ⟨j + 1, some ⟨g3, 0, none⟩, cap, by omega, by go_num, rfl, ?_, (HB3.out.alloc hbs _).grown hg6 (by simp; omega) (fun r hr => (OW3.out.lt r hr).1)⟩
              rw [HNX.out, ← E9.out]; simpa using ho6
            case measure => simp [intOf]; omega
        · have hjl : ¬ ((j : Int) < (k : Int)) := by omega
          have ht : l.take j = l := List.take_of_length_le (by have := HL.out; omega)
          have hjk : j = k := by omega
          subst hjk
          have o9 := OW.out
          rw [ht] at o9
          have HJ := Lib.hid (fun W h => spec_Join (l.map litW) ⟨#[38]⟩ A2 j d2 W (by rw [List.length_map]; exact HL.out) hm (by decide) (fun y hy => by obtain ⟨z, hz, rfl⟩ := List.mem_map.1 hy; exact Nat.le_trans (litW_size (labR_lit HLB.out hz)) (by decide)) h)
          have RW := Lib.hid (own_row o9)
          clear o9 ht
          go_wp2_with fail
          refine (HJ.out _ RW.out).mono ?_
          rintro e w2 ⟨rfl, rfl⟩
          go_wp2_with fail
          go_ret
          exact ⟨str_ans HF.out.symm, HB.out⟩

end Go.Proofs.YtgajodcgedhikaaDoor

namespace Go.Proofs.YtgajodcgedhikaaDoor
open Go.RowKit
set_option linter.unusedVariables false
set_option linter.unusedSimpArgs false

def valFrom (a : Nat) (l : List UInt8) : Nat := l.foldl (fun a c => a * 10 + (c.toNat - 48)) a
theorem valFrom_cons (a : Nat) (c : UInt8) (l : List UInt8) : valFrom a (c :: l) = valFrom (a * 10 + (c.toNat - 48)) l := by unfold valFrom; rw [List.foldl_cons]
theorem valFrom_snoc (a : Nat) (c : UInt8) (l : List UInt8) : valFrom a (l ++ [c]) = valFrom a l * 10 + (c.toNat - 48) := by unfold valFrom; rw [List.foldl_append, List.foldl_cons, List.foldl_nil]
theorem valFrom_le (l : List UInt8) : ∀ a, a ≤ valFrom a l := by
  induction l with
  | nil => intro a; exact Nat.le_refl _
  | cons c l ih => intro a; rw [valFrom_cons]; have := ih (a * 10 + (c.toNat - 48)); omega
theorem valFrom_take (a : Nat) (l : List UInt8) (k : Nat) : valFrom a (l.take k) ≤ valFrom a l := by
  have h := valFrom_le (l.drop k) (valFrom a (l.take k))
  have e : valFrom (valFrom a (l.take k)) (l.drop k) = valFrom a l := by
    unfold valFrom
    rw [← List.foldl_append, List.take_append_drop]
  omega

def AllDig (l : List UInt8) : Prop := ∀ c ∈ l, 48 ≤ c.toNat ∧ c.toNat ≤ 57
theorem parse_val : ∀ (l : List UInt8) (a : Nat), AllDig l → valFrom a l < 18446744073709551616 → Lib.parseUint10 a l = .ok (valFrom a l) := by
  intro l
  induction l with
  | nil => intro a _ _; rfl
  | cons c l ih =>
    intro a hd hv
    have hc := hd c (by simp)
    have h1 := valFrom_le l (a * 10 + (c.toNat - 48))
    rw [valFrom_cons] at hv
    unfold Lib.parseUint10
    rw [if_pos hc, if_neg (by omega), if_neg (by omega), ih _ (fun x hx => hd x (by simp [hx])) hv, valFrom_cons]

theorem dec_val (u : Nat) : valFrom 0 (Lib.decDigits u) = u := by
  induction u using Nat.strongRecOn with
  | _ u ih =>
    rw [Lib.decDigits]
    by_cases h : u < 10
    · rw [dif_pos h]
      have : (UInt8.ofNat (48 + u)).toNat = 48 + u := by simp; omega
      simp only [valFrom, List.foldl_cons, List.foldl_nil, this]
      omega
    · rw [dif_neg h, valFrom_snoc, ih (u / 10) (by omega)]
      have : (UInt8.ofNat (48 + u % 10)).toNat = 48 + u % 10 := by simp; omega
      rw [this]
      omega
theorem dec_digits (u : Nat) : AllDig (Lib.decDigits u) := by
  induction u using Nat.strongRecOn with
  | _ u ih =>
    rw [Lib.decDigits]
    by_cases h : u < 10
    · rw [dif_pos h]
      intro c hc
      have : (UInt8.ofNat (48 + u)).toNat = 48 + u := by simp; omega
      rw [List.mem_singleton.1 hc, this]; omega
    · rw [dif_neg h]
      intro c hc
      rw [List.mem_append] at hc
      rcases hc with hc | hc
      · exact ih (u / 10) (by omega) c hc
      · have : (UInt8.ofNat (48 + u % 10)).toNat = 48 + u % 10 := by simp; omega
        rw [List.mem_singleton.1 hc, this]; omega
theorem dec_ne (u : Nat) : Lib.decDigits u ≠ [] := by
  rw [Lib.decDigits]
  split <;> simp
theorem dec_len : ∀ (k u : Nat), u < 10 ^ (k + 1) → (Lib.decDigits u).length ≤ k + 1 := by
  intro k
  induction k with
  | zero => intro u h; rw [Lib.decDigits, dif_pos (by omega)]; simp
  | succ k ih =>
    intro u h
    rw [Lib.decDigits]
    by_cases h2 : u < 10
    · rw [dif_pos h2]; simp
    · rw [dif_neg h2]
      have := ih (u / 10) (by rw [Nat.pow_succ] at h; omega)
      simp; omega
theorem dec_len19 (u : Nat) (h : u ≤ 9223372036854775808) : (Lib.decDigits u).length ≤ 19 := dec_len 18 u (by
  have : (10 : Nat) ^ (18 + 1) = 10000000000000000000 := by decide
  omega)

theorem dec_parse (u : Nat) (h : u < 18446744073709551616) : Lib.parseMag (Lib.decDigits u) = .ok u := by
  unfold Lib.parseMag
  rw [if_neg (dec_ne u), parse_val _ 0 (dec_digits u) (by rw [dec_val]; exact h), dec_val]

/-- strconv.Atoi reads the text of an int back. -/
theorem atoi_itoa (n : Int) (h0 : -9223372036854775808 ≤ n) (h1 : n ≤ 9223372036854775807) : Lib.atoiAll (Lib.itoa n) = .ok n := by
  by_cases h : 0 ≤ n
  · obtain ⟨u, rfl⟩ : ∃ u : Nat, n = u := ⟨n.toNat, by omega⟩
    rw [Lib.itoa_nonneg]
    have hp := dec_parse u (by omega)
    have hd := dec_digits u
    cases hl : Lib.decDigits u with
    | nil => exact absurd hl (dec_ne u)
    | cons c r =>
      have hc := hd c (by rw [hl]; simp)
      rw [Lib.atoiAll_plain c r (by omega) (by omega), ← hl, hp]
      unfold Lib.signless
      simp only
      rw [if_neg (by omega)]
  · obtain ⟨u, rfl⟩ : ∃ u : Nat, n = -(u : Int) := ⟨n.natAbs, by omega⟩
    rw [Lib.itoa_neg u (by omega), Lib.atoiAll_minus, dec_parse u (by omega)]
    unfold Lib.signed
    simp only
    rw [if_neg (by omega)]

/-- The int whose text s is. -/
def parseOf (s : ByteArray) : Option Int :=
  match Lib.atoiAll s.data.toList with
  | .ok v => if Lib.itoa v = s.data.toList then some v else none
  | _ => none
theorem parse_some {s : ByteArray} {v : Int} (h : parseOf s = some v) : numB v = s ∧ Lib.atoiAll s.data.toList = .ok v ∧ -9223372036854775808 ≤ v ∧ v ≤ 9223372036854775807 := by
  unfold parseOf at h
  split at h
  · rename_i v' hv
    split at h
    · rename_i hi
      obtain rfl := Option.some.inj h
      refine ⟨?_, hv, Lib.atoiAll_bounds hv⟩
      apply ByteArray.ext; apply Array.toList_inj.1
      simpa [numB] using hi
    · cases h
  · cases h
theorem parse_numB (n : Int) (h0 : -9223372036854775808 ≤ n) (h1 : n ≤ 9223372036854775807) : parseOf (numB n) = some n := by
  unfold parseOf
  have e : (numB n).data.toList = Lib.itoa n := by simp [numB]
  rw [e, atoi_itoa n h0 h1]
  simp
theorem parse_none {s : ByteArray} (h : parseOf s = none) (n : Int) (h0 : -9223372036854775808 ≤ n) (h1 : n ≤ 9223372036854775807) : numB n ≠ s := by
  rintro rfl
  rw [parse_numB n h0 h1] at h
  cases h

end Go.Proofs.YtgajodcgedhikaaDoor

namespace Go.Proofs.YtgajodcgedhikaaDoor
open Go.RowKit
set_option linter.unusedVariables false
set_option linter.unusedSimpArgs false

/-- The two sentinels of strconv's hold error values. -/
def Errs (w : World) : Prop := (∃ tp p, w.var? Tryd.prog "strconv.ErrSyntax" = some #[.iface tp p]) ∧ (∃ tp p, w.var? Tryd.prog "strconv.ErrRange" = some #[.iface tp p])
theorem Errs.kept {w w' : World} (h : Errs w) (hb : Below w.heap.size w w') : Errs w' := by
  obtain ⟨⟨tp, p, h1⟩, tq, q, h2⟩ := h
  exact ⟨⟨tp, p, var_kept hb h1⟩, tq, q, var_kept hb h2⟩

theorem below_bytes {w w' : World} {e : TypeId} (h : w' = w ∨ ∃ t, w' = Lib.bytesWorld w e t) : Below w.heap.size w w' := by
  rcases h with rfl | ⟨t, rfl⟩
  · exact Below.refl _ _
  · exact Lib.bytesWorld_below _ _ _

end Go.Proofs.YtgajodcgedhikaaDoor

namespace Go.Proofs.YtgajodcgedhikaaDoor
open Go.RowKit
set_option linter.unusedVariables false
set_option linter.unusedSimpArgs false

/-- What the digits' text T tells of the int whose text s is: sign 1 or -1, and the greatest magnitude. -/
def Tells (s T : ByteArray) (neg : Bool) : Prop :=
  ∀ v, parseOf s = some v → ∃ u : Nat, T.data.toList = Lib.decDigits u ∧ v = (if neg then -(u : Int) else (u : Int)) ∧ u ≤ (if neg then 9223372036854775808 else 9223372036854775807)

theorem digits_dec (u : Nat) : digitsB (Lib.decDigits u) = true := by
  unfold digitsB
  have h1 : (Lib.decDigits u).isEmpty = false := by
    cases h : Lib.decDigits u with
    | nil => exact absurd h (dec_ne u)
    | cons a b => rfl
  rw [h1]
  simp only [Bool.not_false, Bool.true_and, List.all_eq_true]
  intro c hc
  have := dec_digits u c hc
  unfold isDig
  simp; omega

theorem digits_at {T : ByteArray} (h : digitsB T.data.toList = true) (k : Nat) (hk : k < T.size) : 48 ≤ T[k].toNat ∧ T[k].toNat ≤ 57 := by
  unfold digitsB at h
  simp only [Bool.and_eq_true, List.all_eq_true] at h
  have := h.2 T[k] (List.getElem_mem (l := T.data.toList) (n := k) (by simpa using hk))
  unfold isDig at this
  simp at this
  exact this

/-- The value of the first k digits. -/
def valTo (T : ByteArray) (k : Nat) : Nat := valFrom 0 (T.data.toList.take k)
theorem valTo_zero (T : ByteArray) : valTo T 0 = 0 := by unfold valTo valFrom; simp
theorem valTo_succ (T : ByteArray) (k : Nat) (hk : k < T.size) : valTo T (k + 1) = valTo T k * 10 + (T[k].toNat - 48) := by
  unfold valTo; rw [take_snoc T k hk, valFrom_snoc]
theorem valTo_all (T : ByteArray) : valTo T T.size = valFrom 0 T.data.toList := by
  unfold valTo; rw [List.take_of_length_le (by simp)]
theorem valTo_le (T : ByteArray) (k : Nat) : valTo T k ≤ valFrom 0 T.data.toList := valFrom_take 0 _ k

theorem none_digits {s T : ByteArray} {neg : Bool} (h : Tells s T neg) (hd : digitsB T.data.toList = false) : parseOf s = none := by
  cases hp : parseOf s with
  | none => rfl
  | some v =>
    obtain ⟨u, hu, _⟩ := h v hp
    rw [hu, digits_dec] at hd; cases hd
theorem none_long {s T : ByteArray} {neg : Bool} (h : Tells s T neg) (hd : 19 < T.size) : parseOf s = none := by
  cases hp : parseOf s with
  | none => rfl
  | some v =>
    obtain ⟨u, hu, _, hb⟩ := h v hp
    have h1 := dec_len19 u (by split at hb <;> omega)
    rw [← hu] at h1
    simp at h1
    omega
theorem none_big {s T : ByteArray} {neg : Bool} (h : Tells s T neg) (k : Nat) (hd : 9223372036854775808 < valTo T k) : parseOf s = none := by
  cases hp : parseOf s with
  | none => rfl
  | some v =>
    obtain ⟨u, hu, _, hb⟩ := h v hp
    have h1 := valTo_le T k
    rw [hu, dec_val] at h1
    split at hb <;> omega
theorem none_edge {s T : ByteArray} (h : Tells s T false) (hd : valTo T T.size = 9223372036854775808) : parseOf s = none := by
  cases hp : parseOf s with
  | none => rfl
  | some v =>
    obtain ⟨u, hu, _, hb⟩ := h v hp
    rw [valTo_all, hu, dec_val] at hd
    simp at hb
    omega
theorem tells_val {s T : ByteArray} {neg : Bool} (h : Tells s T neg) {v : Int} (hp : parseOf s = some v) : v = (if neg then -(valTo T T.size : Int) else (valTo T T.size : Int)) := by
  obtain ⟨u, hu, hv, _⟩ := h v hp
  rw [valTo_all, hu, dec_val]
  exact hv

theorem tells_pos (s : ByteArray) (h : s.size = 0 ∨ ∃ h0 : 0 < s.size, s[0].toNat ≠ 45) : Tells s s false := by
  intro v hv
  obtain ⟨hn, _, h0, h1⟩ := parse_some hv
  have hl : s.data.toList = Lib.itoa v := by rw [← hn]; simp [numB]
  by_cases hneg : 0 ≤ v
  · obtain ⟨u, rfl⟩ : ∃ u : Nat, v = u := ⟨v.toNat, by omega⟩
    exact ⟨u, by rw [hl, Lib.itoa_nonneg], by simp, by simp; omega⟩
  · exfalso
    obtain ⟨u, rfl⟩ : ∃ u : Nat, v = -(u : Int) := ⟨v.natAbs, by omega⟩
    rw [Lib.itoa_neg u (by omega)] at hl
    have hlen : s.data.toList.length = s.size := by simp
    rcases h with h | ⟨h, h2⟩
    · rw [hl, h] at hlen; simp at hlen
    · apply h2
      have e : s[0] = s.data.toList[0]'(by rw [hlen]; exact h) := rfl
      rw [e]
      simp [hl]
theorem tells_neg (s : ByteArray) (h : 0 < s.size) (h2 : s[0].toNat = 45) : Tells s (s.extract 1 s.size) true := by
  intro v hv
  obtain ⟨hn, _, h0, h1⟩ := parse_some hv
  have hl : s.data.toList = Lib.itoa v := by rw [← hn]; simp [numB]
  have hlen : s.data.toList.length = s.size := by simp
  by_cases hneg : 0 ≤ v
  · exfalso
    obtain ⟨u, rfl⟩ : ∃ u : Nat, v = u := ⟨v.toNat, by omega⟩
    rw [Lib.itoa_nonneg] at hl
    have e : s[0] = s.data.toList[0]'(by rw [hlen]; exact h) := rfl
    have := dec_digits u s[0] (by rw [← hl, e]; exact List.getElem_mem _)
    omega
  · obtain ⟨u, rfl⟩ : ∃ u : Nat, v = -(u : Int) := ⟨v.natAbs, by omega⟩
    rw [Lib.itoa_neg u (by omega)] at hl
    refine ⟨u, ?_, by simp, by simp; omega⟩
    rw [Lib.extract_to_end, hl]
    rfl

theorem tdiv_cut (c : Int) (h2 : c ≤ 57) : (-9223372036854775808 + (c - 48)).tdiv 10 = -((9223372036854775808 - (c - 48)) / 10) := by
  rw [show (-9223372036854775808 + (c - 48)) = -(9223372036854775808 - (c - 48)) from by omega, Int.neg_tdiv, Int.tdiv_eq_ediv_of_nonneg (by omega)]
theorem over_cut {a c : Int} (h1 : 48 ≤ c) (h2 : c ≤ 57) (h : a < (-9223372036854775808 + (c - 48)).tdiv 10) : 9223372036854775808 < -a * 10 + (c - 48) := by
  rw [tdiv_cut c h2] at h; omega
theorem under_cut {a c : Int} (h1 : 48 ≤ c) (h2 : c ≤ 57) (h : (-9223372036854775808 + (c - 48)).tdiv 10 ≤ a) : -9223372036854775808 ≤ a * 10 - (c - 48) := by
  rw [tdiv_cut c h2] at h; omega
theorem wraps_cut {a c : Int} (h1 : 48 ≤ c) (h2 : c ≤ 57) (h0 : a ≤ 0) (h : -9223372036854775808 ≤ a * 10 - (c - 48)) : wrap64 (wrap64 (a * 10) - (c - 48)) = a * 10 - (c - 48) := by
  rw [IntWalk.wrap64_in (a * 10) (by omega), IntWalk.wrap64_in _ (by omega)]

/-- The text's last test: the int that was read, written out again. -/
theorem last_no {s T : ByteArray} {neg : Bool} (h : Tells s T neg) (r : Int) (hr : r = (if neg then -(valTo T T.size : Int) else (valTo T T.size : Int))) (hne : numB r ≠ s) : parseOf s = none := by
  cases hp : parseOf s with
  | none => rfl
  | some v =>
    have := tells_val h hp
    rw [← hr] at this
    exact absurd (by rw [← this]; exact (parse_some hp).1) hne
theorem same_text {r : Int} {s : ByteArray} (h : numB r = s) : (!(numB r).toList == s.toList) = false := by rw [h]; simp
theorem other_text {r : Int} {s : ByteArray} (h : numB r ≠ s) : (!(numB r).toList == s.toList) = true := by
  simp only [Bool.not_eq_true', beq_eq_false_iff_ne, ne_eq]
  rw [Lib.toList_data, Lib.toList_data]
  intro e
  exact h (by apply ByteArray.ext; apply Array.toList_inj.1; exact e)

end Go.Proofs.YtgajodcgedhikaaDoor

namespace Go.Proofs.YtgajodcgedhikaaDoor
open Go.RowKit
set_option linter.unusedVariables false
set_option linter.unusedSimpArgs false

def lines (s : ByteArray) : List ByteArray :=
  if (s.extract (splitTo s ⟨#[10]⟩ s.size).2 s.size).size = 0 then (splitTo s ⟨#[10]⟩ s.size).1 else split s ⟨#[10]⟩

/-- An owned slice of one element or more: its form, its cells, its heads. -/
theorem own_cut {w : World} {B e n : Nat} {v : Value} {xs : List Value} (h : w.ownsRow B e 1 v n xs) (hn : 0 < n) :
    ∃ g c, v = .slice (some ⟨g, 0, none⟩) n c ∧ n ≤ c ∧ (∀ m, m ≤ n → w.ownsRow B e 1 (.slice (some ⟨g, 0, none⟩) m c) m (xs.take m)) ∧ ∀ j, j < n → w.cell? ⟨g, j, none⟩ = xs[j]? := by
  have hl : xs.length = n := by simpa using h.1
  obtain ⟨g', cap', hv', _, _⟩ := h.form hn
  have hcells : ∀ j, j < n → w.cell? ⟨g', j, none⟩ = xs[j]? := by
    subst hv'
    exact fun j hj => h.cellAt j (by omega)
  rcases h.2 with ⟨_, h0⟩ | ⟨g, cap, cur, hv, hb, hg, hnc, hcm, hcs, ht⟩
  · omega
  · rw [hv] at hv'
    injection hv' with h1 h2 h3
    obtain rfl : g = g' := by injection h1 with h1; injection h1
    refine ⟨g, cap, hv, hnc, fun m hm => ⟨by simp; omega, .inr ⟨g, cap, cur, rfl, hb, hg, by omega, hcm, hcs, ?_⟩⟩, hcells⟩
    rw [← ht, List.take_take]
    congr 1
    omega

end Go.Proofs.YtgajodcgedhikaaDoor

namespace Go.Proofs.YtgajodcgedhikaaDoor
open Go.RowKit
set_option linter.unusedVariables false
set_option linter.unusedSimpArgs false

theorem joinTo_append (l r : List ByteArray) (sep : ByteArray) : ∀ k, k ≤ l.length → joinTo (l ++ r) sep k = joinTo l sep k := by
  intro k
  induction k with
  | zero => intro _; rfl
  | succ k ih =>
    intro h
    rw [joinTo, joinTo, ih (by omega)]
    have : (l ++ r).getD k ⟨#[]⟩ = l.getD k ⟨#[]⟩ := by
      rw [List.getD_eq_getElem?_getD, List.getD_eq_getElem?_getD, List.getElem?_append_left (by omega)]
    rw [this]
theorem joinB_snoc (l : List ByteArray) (x sep : ByteArray) : joinB (l ++ [x]) sep = (if 0 < l.length then joinB l sep ++ sep else joinB l sep) ++ x := by
  have h1 : (l ++ [x]).length = l.length + 1 := by simp
  have h2 : (l ++ [x]).getD l.length ⟨#[]⟩ = x := by simp
  unfold joinB
  rw [h1, joinTo, joinTo_append l [x] sep l.length (Nat.le_refl _), h2]

theorem split_first (s sp : ByteArray) (k : Nat) : (splitTo s sp k).1.length = 0 → (splitTo s sp k).2 = 0 := by
  induction k with
  | zero => intro _; rfl
  | succ k ih =>
    unfold splitTo
    split
    · split
      · simp
      · exact ih
    · exact ih

theorem join_splitTo (s : ByteArray) (c : UInt8) (k : Nat) (hk : k ≤ s.size) (x : ByteArray) :
    (joinB ((splitTo s ⟨#[c]⟩ k).1 ++ [x]) ⟨#[c]⟩).data.toList = s.data.toList.take (splitTo s ⟨#[c]⟩ k).2 ++ x.data.toList := by
  induction k generalizing x with
  | zero => simp [splitTo, joinB, joinTo]
  | succ k ih =>
    have hlt : k < s.size := hk
    cases hc : isSep ⟨#[c]⟩ s[k] with
    | true =>
      rw [splitTo_sep s _ k hlt hc]
      have hsc : s[k] = c := by
        unfold isSep at hc
        simpa using hc
      have hf := (splitTo_le s ⟨#[c]⟩ k).1
      rw [joinB_snoc, if_pos (by simp)]
      simp only [ByteArray.data_append, Array.toList_append]
      rw [ih (by omega)]
      have e1 : (s.extract (splitTo s ⟨#[c]⟩ k).2 k).data.toList = (s.data.toList.drop (splitTo s ⟨#[c]⟩ k).2).take (k - (splitTo s ⟨#[c]⟩ k).2) := Lib.extract_data s _ _
      have e2 : s.data.toList.take (splitTo s ⟨#[c]⟩ k).2 ++ (s.data.toList.drop (splitTo s ⟨#[c]⟩ k).2).take (k - (splitTo s ⟨#[c]⟩ k).2) = s.data.toList.take k := by
        have := List.take_append_drop (splitTo s ⟨#[c]⟩ k).2 (s.data.toList.take k)
        rw [List.take_take, Nat.min_eq_left hf, List.drop_take] at this
        exact this
      rw [e1, e2, take_snoc s k hlt, hsc]
    | false =>
      rw [splitTo_not s _ k hlt hc]
      exact ih (by omega) x

theorem join_split (s : ByteArray) (c : UInt8) : joinB (split s ⟨#[c]⟩) ⟨#[c]⟩ = s := by
  apply ByteArray.ext; apply Array.toList_inj.1
  unfold split
  rw [join_splitTo s c s.size (Nat.le_refl _)]
  have e1 : (s.extract (splitTo s ⟨#[c]⟩ s.size).2 s.size).data.toList = (s.data.toList.drop (splitTo s ⟨#[c]⟩ s.size).2).take (s.size - (splitTo s ⟨#[c]⟩ s.size).2) := Lib.extract_data s _ _
  have e3 : (s.data.toList.drop (splitTo s ⟨#[c]⟩ s.size).2).take (s.size - (splitTo s ⟨#[c]⟩ s.size).2) = s.data.toList.drop (splitTo s ⟨#[c]⟩ s.size).2 := List.take_of_length_le (by simp)
  rw [e1, e3, List.take_append_drop]

theorem split_sizes (s sp : ByteArray) : ∀ x ∈ split s sp, x.size ≤ s.size := by
  have h : ∀ k, ∀ x ∈ (splitTo s sp k).1, x.size ≤ s.size := by
    intro k
    induction k with
    | zero => intro x hx; simp [splitTo] at hx
    | succ k ih =>
      unfold splitTo
      split
      · split
        · intro x hx
          simp at hx
          rcases hx with hx | rfl
          · exact ih x hx
          · rw [ByteArray.size_extract]; omega
        · exact ih
      · exact ih
  intro x hx
  unfold split at hx
  rw [List.mem_append] at hx
  rcases hx with hx | hx
  · exact h _ x hx
  · rw [List.mem_singleton] at hx
    rw [hx, ByteArray.size_extract]; omega

theorem name_x1 : nameB (⟨#[120, 49]⟩ : ByteArray).data.toList = true := by decide
theorem digits_0 : digitsB (⟨#[48]⟩ : ByteArray).data.toList = true := by decide
theorem lines_ab : (lines ⟨#[97, 10, 98, 10]⟩).length = 2 := by decide +kernel

end Go.Proofs.YtgajodcgedhikaaDoor

namespace Go.Proofs.YtgajodcgedhikaaDoor
open Go.RowKit
set_option linter.unusedVariables false
set_option linter.unusedSimpArgs false

/-- Does the word begin with the sign of negation? -/
def negB (s : ByteArray) : Bool := decide (0 < s.size) && decide ((s.data.toList[0]?.getD 0).toNat = 33)
def stripB (s : ByteArray) : ByteArray := if negB s then s.extract 1 s.size else s
/-- The number that a word without sign names. -/
def wordN (t : ByteArray) : Option Int := if 2 ≤ t.size ∧ (t.data.toList[0]?.getD 0).toNat = 112 then (match parseOf (t.extract 1 t.size) with | some n => if 1 ≤ n ∧ n ≤ 3 then some n else none | none => none) else none
def parW (s : ByteArray) : Option Int := match wordN (stripB s) with | some n => some (if negB s then -n else n) | none => none
def parJ (ws : List ByteArray) : Nat → Option (List Int)
  | 0 => some []
  | j + 1 => match parJ ws j with | some o => (match parW (ws[j]?.getD ⟨#[]⟩) with | some x => some (o ++ [x]) | none => none) | none => none
def parL (s : ByteArray) : List Int × Bool := if s = ⟨#[45]⟩ then ([], true) else match parJ (split s ⟨#[38]⟩) (split s ⟨#[38]⟩).length with
  | some o => if labR o = true ∧ fmtL o = s then (o, true) else ([], false)
  | none => ([], false)
theorem parJ_none {ws : List ByteArray} {j : Nat} (h : parJ ws j = none) : ∀ {m : Nat}, j ≤ m → parJ ws m = none
  | 0, hm => by obtain rfl : j = 0 := by omega
                exact h
  | m + 1, hm => by
    by_cases e : j = m + 1
    · subst e; exact h
    · unfold parJ; rw [parJ_none h (show j ≤ m by omega)]
theorem parJ_len {ws : List ByteArray} : ∀ {j : Nat} {o : List Int}, parJ ws j = some o → o.length = j
  | 0, o, h => by simp [parJ] at h; subst h; rfl
  | j + 1, o, h => by
    unfold parJ at h
    cases h1 : parJ ws j with
    | none => rw [h1] at h; simp at h
    | some o1 =>
      rw [h1] at h
      cases h2 : parW (ws[j]?.getD ⟨#[]⟩) with
      | none => rw [h2] at h; simp at h
      | some x => rw [h2] at h; simp at h; subst h; simp [parJ_len h1]
theorem parJ_next {ws : List ByteArray} {j : Nat} {o : List Int} {s : ByteArray} {x : Int} (h : parJ ws j = some o) (hs : ws[j]? = some s) (hx : parW s = some x) : parJ ws (j + 1) = some (o ++ [x]) := by
  unfold parJ; rw [h, hs]; simp only [Option.getD_some]; rw [hx]
theorem parJ_stop {ws : List ByteArray} {j : Nat} {o : List Int} {s : ByteArray} (h : parJ ws j = some o) (hs : ws[j]? = some s) (hx : parW s = none) : parJ ws (j + 1) = none := by
  unfold parJ; rw [h, hs]; simp only [Option.getD_some]; rw [hx]
theorem parL_none {s : ByteArray} (h : ¬ s = ⟨#[45]⟩) {j : Nat} (hj : j ≤ (split s ⟨#[38]⟩).length) (hp : parJ (split s ⟨#[38]⟩) j = none) : parL s = ([], false) := by
  unfold parL; rw [if_neg h, parJ_none hp hj]
theorem parL_some {s : ByteArray} (h : ¬ s = ⟨#[45]⟩) {o : List Int} (hp : parJ (split s ⟨#[38]⟩) (split s ⟨#[38]⟩).length = some o) : parL s = if labR o = true ∧ fmtL o = s then (o, true) else ([], false) := by
  unfold parL; rw [if_neg h, hp]
theorem byte0 {s : ByteArray} (h : 0 < s.size) : s.data.toList[0]?.getD 0 = s[0] := by
  rw [List.getElem?_eq_getElem (by simpa using h)]; rfl
theorem neg_no0 {s : ByteArray} (h : ¬ 0 < s.size) : negB s = false := by unfold negB; simp [h]
theorem neg_is {s : ByteArray} (h : 0 < s.size) : negB s = decide (s[0].toNat = 33) := by unfold negB; rw [byte0 h]; simp [h]
theorem word_short {t : ByteArray} (h : ¬ 2 ≤ t.size) : wordN t = none := by unfold wordN; rw [if_neg (fun e => h e.1)]
theorem word_other {t : ByteArray} (h : 2 ≤ t.size) (h2 : ¬ t[0].toNat = 112) : wordN t = none := by unfold wordN; rw [byte0 (by omega), if_neg (fun e => h2 e.2)]
theorem word_is {t : ByteArray} (h : 2 ≤ t.size) (h2 : t[0].toNat = 112) : wordN t = match parseOf (t.extract 1 t.size) with | some n => if 1 ≤ n ∧ n ≤ 3 then some n else none | none => none := by unfold wordN; rw [byte0 (by omega), if_pos ⟨h, h2⟩]

end Go.Proofs.YtgajodcgedhikaaDoor

namespace Go.Proofs.YtgajodcgedhikaaDoor
open Go.RowKit
set_option linter.unusedVariables false
set_option linter.unusedSimpArgs false

def bSp : ByteArray := ⟨#[32]⟩
def bNl : ByteArray := ⟨#[10]⟩
def nmAt (ns : List GN) (v : Int) : ByteArray := (ns[v.toNat]?.getD gN0).name
/-- The line of a tie. -/
def tieW (ns : List GN) (t : GT) : ByteArray := ((((((((if t.fr then (⟨#[102, 114, 101, 101, 32]⟩ : ByteArray) else ⟨#[116, 105, 101, 32]⟩) ++ nmAt ns t.u) ++ bSp) ++ nmAt ns t.v) ++ bSp) ++ numB t.lo) ++ bSp) ++ numB t.hi)
def ftiR (s : GS) (i : Int) : ByteArray := if shR s && (decide (0 ≤ i) && decide (i ≤ (s.ts.length : Int) - 1)) then tieW s.ns (s.ts[i.toNat]?.getD gT0) else ⟨#[]⟩
/-- What is written behind out for a node. -/
def nodS (out : ByteArray) (e : GN) : ByteArray :=
  (if e.wat = 0 then (((out ++ ⟨#[110, 111, 100, 101, 32]⟩) ++ e.name) ++ bSp) ++ fmtL e.lab else (((((out ++ ⟨#[110, 111, 100, 101, 32]⟩) ++ e.name) ++ bSp) ++ fmtL e.lab) ++ ⟨#[32, 119, 97, 116, 99, 104, 32]⟩) ++ numB e.wat) ++ bNl
def horW (h : Int) : ByteArray := ((⟨#[104, 111, 114, 105, 122, 111, 110, 32]⟩ : ByteArray) ++ numB h) ++ bNl
def nodJ (s : GS) : Nat → ByteArray
  | 0 => horW s.h
  | j + 1 => nodS (nodJ s j) (s.ns[j]?.getD gN0)
def tieJ (s : GS) : Nat → ByteArray
  | 0 => nodJ s s.ns.length
  | j + 1 => (tieJ s j ++ tieW s.ns (s.ts[j]?.getD gT0)) ++ bNl
/-- The text of a show. -/
def fmtS (s : GS) : ByteArray := if shR s then tieJ s s.ts.length else ⟨#[]⟩
def gS0 : GS := ⟨[], [], 0⟩
def wAt (w : List ByteArray) (i : Nat) : ByteArray := w[i]?.getD ⟨#[]⟩
/-- The node of a line's words. -/
def lnN (w : List ByteArray) : Option GN := if w.length = 3 ∨ w.length = 5 then (if (parL (wAt w 2)).2 then some ⟨wAt w 1, (parL (wAt w 2)).1, if w.length = 5 then (parseOf (wAt w 4)).getD 0 else 0⟩ else none) else none
/-- The tie of a line's words. -/
def lnT (ns : List GN) (w : List ByteArray) : Option GT := if w.length = 5 then (match parseOf (wAt w 3), parseOf (wAt w 4) with | some a, some b => some ⟨namR ns (wAt w 1), namR ns (wAt w 2), a, b, decide (wAt w 0 = ⟨#[102, 114, 101, 101]⟩)⟩ | _, _ => none) else none
def lnR (s : GS) (i : Nat) (w : List ByteArray) : Option GS :=
  if i = 0 ∧ wAt w 0 = ⟨#[104, 111, 114, 105, 122, 111, 110]⟩ ∧ w.length = 2 then (match parseOf (wAt w 1) with | some n => some { s with h := n } | none => none)
  else if wAt w 0 = ⟨#[110, 111, 100, 101]⟩ ∧ s.ns.length < 7 then (match lnN w with | some e => some { s with ns := s.ns ++ [e] } | none => none)
  else if (wAt w 0 = ⟨#[116, 105, 101]⟩ ∨ wAt w 0 = ⟨#[102, 114, 101, 101]⟩) ∧ s.ts.length < 14 then (match lnT s.ns w with | some t => some { s with ts := s.ts ++ [t] } | none => none)
  else none
def psJ (ls : List ByteArray) : Nat → Option GS
  | 0 => some gS0
  | j + 1 => match psJ ls j with | some s => lnR s j (split (ls[j]?.getD ⟨#[]⟩) bSp) | none => none
/-- The show that is read of a text. -/
def psR (t : ByteArray) : GS × Bool := match psJ (lines t) (lines t).length with
  | some s => if shR s = true ∧ fmtS s = t then (s, true) else (gS0, false)
  | none => (gS0, false)
theorem psJ_next {ls : List ByteArray} {j : Nat} {s : GS} {l : ByteArray} (h : psJ ls j = some s) (hl : ls[j]? = some l) : psJ ls (j + 1) = lnR s j (split l bSp) := by
  conv => lhs; unfold psJ
  rw [h, hl]; rfl
theorem psJ_none {ls : List ByteArray} {j : Nat} (h : psJ ls j = none) : ∀ {m : Nat}, j ≤ m → psJ ls m = none
  | 0, hm => by obtain rfl : j = 0 := by omega
                exact h
  | m + 1, hm => by
    by_cases e : j = m + 1
    · subst e; exact h
    · unfold psJ; rw [psJ_none h (show j ≤ m by omega)]
theorem psR_none {t : ByteArray} {j : Nat} (hj : j ≤ (lines t).length) (h : psJ (lines t) j = none) : psR t = (gS0, false) := by
  unfold psR; rw [psJ_none h hj]
theorem psR_some {t : ByteArray} {s : GS} (h : psJ (lines t) (lines t).length = some s) : psR t = if shR s = true ∧ fmtS s = t then (s, true) else (gS0, false) := by
  unfold psR; rw [h]
/-- The parts of what is written of times. -/
def ftJ (ns : List GN) (ts : List Int) : Nat → List ByteArray
  | 0 => []
  | j + 1 => ftJ ns ts j ++ (if ts[j]?.getD 0 = -1 then [] else [((ns[j]?.getD gN0).name ++ ⟨#[64]⟩) ++ numB (ts[j]?.getD 0)])
def ftmR (s : GS) (ts : List Int) : ByteArray := if shR s && decide (ts.length = s.ns.length) then (if (ftJ s.ns ts ts.length).length = 0 then ⟨#[45]⟩ else joinB (ftJ s.ns ts ts.length) bSp) else ⟨#[]⟩

end Go.Proofs.YtgajodcgedhikaaDoor

namespace Go.Proofs.YtgajodcgedhikaaDoor
open Go.RowKit
set_option linter.unusedVariables false
set_option linter.unusedSimpArgs false

abbrev BL := List UInt8
/-- One byte of a text that is split at c. -/
def spS (c : UInt8) (p : List BL × BL) (x : UInt8) : List BL × BL := if x = c then (p.1 ++ [p.2], []) else (p.1, p.2 ++ [x])
def spF (c : UInt8) (p : List BL × BL) (l : BL) : List BL × BL := l.foldl (spS c) p
theorem spF_append (c : UInt8) (p : List BL × BL) (a b : BL) : spF c p (a ++ b) = spF c (spF c p a) b := List.foldl_append ..
theorem spF_free {c : UInt8} : ∀ {w : BL} {A : List BL} {b : BL}, (∀ x ∈ w, x ≠ c) → spF c (A, b) w = (A, b ++ w)
  | [], A, b, _ => by simp [spF]
  | x :: w, A, b, h => by
    have hx : x ≠ c := h x (List.mem_cons_self ..)
    have := spF_free (c := c) (w := w) (A := A) (b := b ++ [x]) (fun y hy => h y (List.mem_cons_of_mem _ hy))
    show spF c (spS c (A, b) x) w = _
    unfold spS
    rw [if_neg hx, this, List.append_assoc]; rfl
theorem spF_sep (c : UInt8) (A : List BL) (b : BL) : spF c (A, b) [c] = (A ++ [b], []) := by
  show spS c (A, b) c = _
  unfold spS
  rw [if_pos rfl]
theorem spF_part {c : UInt8} {w : BL} {A : List BL} {b : BL} (h : ∀ x ∈ w, x ≠ c) : spF c (A, b) (w ++ [c]) = (A ++ [b ++ w], []) := by
  rw [spF_append, spF_free h, spF_sep]
/-- Parts, each with the separator behind it. -/
def catL (c : UInt8) (ws : List BL) : BL := ws.flatMap (fun w => w ++ [c])
theorem spF_cat {c : UInt8} : ∀ {ws : List BL} {A : List BL}, (∀ w ∈ ws, ∀ x ∈ w, x ≠ c) → spF c (A, []) (catL c ws) = (A ++ ws, [])
  | [], A, _ => by simp [spF, catL]
  | w :: ws, A, h => by
    have e : catL c (w :: ws) = (w ++ [c]) ++ catL c ws := by simp [catL]
    rw [e, spF_append, spF_part (h w (List.mem_cons_self ..)), List.nil_append, spF_cat (fun v hv => h v (List.mem_cons_of_mem _ hv)), List.append_assoc]
    rfl
theorem isSep_one (c x : UInt8) : isSep ⟨#[c]⟩ x = decide (x = c) := by
  unfold isSep
  show [c].contains x = _
  rw [Bool.eq_iff_iff, List.contains_iff_mem, decide_eq_true_eq, List.mem_singleton]
theorem ext_take (s : ByteArray) (p k : Nat) (hk : k ≤ s.size) : (s.extract p k).data.toList = (s.data.toList.take k).drop p := by
  rw [ByteArray.data_extract, Array.toList_extract, List.extract_eq_take_drop, List.drop_take]
/-- Splitting by places is splitting byte by byte. -/
theorem splitTo_spF (s : ByteArray) (c : UInt8) : ∀ k, k ≤ s.size → spF c ([], []) (s.data.toList.take k) = ((splitTo s ⟨#[c]⟩ k).1.map (·.data.toList), (s.extract (splitTo s ⟨#[c]⟩ k).2 k).data.toList)
  | 0, _ => by simp [spF, splitTo]
  | k + 1, hk => by
    have ih := splitTo_spF s c k (by omega)
    have hlt : k < s.size := by omega
    have hle := (splitTo_le s ⟨#[c]⟩ k).1
    rw [take_snoc s k hlt, spF_append, ih]
    by_cases h : s[k] = c
    · have hs : isSep ⟨#[c]⟩ s[k] = true := by rw [isSep_one]; exact decide_eq_true h
      rw [splitTo_sep s _ k hlt hs, h, spF_sep]
      simp [ByteArray.data_extract]
    · have hs : isSep ⟨#[c]⟩ s[k] = false := by rw [isSep_one]; exact decide_eq_false h
      rw [splitTo_not s _ k hlt hs, spF_free (fun x hx => by simp at hx; rw [hx]; exact h)]
      congr 1
      rw [ext_take s _ k (by omega), ext_take s _ (k + 1) hk, take_snoc s k hlt, List.drop_append_of_le_length (by rw [List.length_take]; simp; omega)]
theorem split_spF (s : ByteArray) (c : UInt8) : (split s ⟨#[c]⟩).map (·.data.toList) = (spF c ([], []) s.data.toList).1 ++ [(spF c ([], []) s.data.toList).2] := by
  have h := splitTo_spF s c s.size (Nat.le_refl _)
  rw [List.take_of_length_le (by simp)] at h
  rw [h]
  unfold split
  rw [List.map_append]; rfl
theorem bytes_inj {a b : ByteArray} (h : a.data.toList = b.data.toList) : a = b := by
  apply ByteArray.ext; apply Array.toList_inj.1; exact h
theorem map_inj : ∀ {a b : List ByteArray}, a.map (·.data.toList) = b.map (·.data.toList) → a = b
  | [], [], _ => rfl
  | [], _ :: _, h => by simp at h
  | _ :: _, [], h => by simp at h
  | x :: a, y :: b, h => by
    simp only [List.map_cons, List.cons.injEq] at h
    rw [bytes_inj h.1, map_inj h.2]
/-- A text is split as it is put together. -/
theorem split_of {s : ByteArray} {c : UInt8} {A : List ByteArray} {b : ByteArray} (h : spF c ([], []) s.data.toList = (A.map (·.data.toList), b.data.toList)) : split s ⟨#[c]⟩ = A ++ [b] := by
  apply map_inj
  rw [split_spF, h, List.map_append]; rfl
theorem lines_of {s : ByteArray} {A : List ByteArray} (h : spF 10 ([], []) s.data.toList = (A.map (·.data.toList), [])) : lines s = A := by
  have h1 := splitTo_spF s 10 s.size (Nat.le_refl _)
  rw [List.take_of_length_le (by simp), h] at h1
  injection h1 with h2 h3
  have hz : (s.extract (splitTo s ⟨#[10]⟩ s.size).2 s.size).size = 0 := by
    have : (s.extract (splitTo s ⟨#[10]⟩ s.size).2 s.size).data.toList.length = 0 := by rw [← h3]; rfl
    simpa using this
  unfold lines
  rw [if_pos hz]
  exact (map_inj h2).symm

end Go.Proofs.YtgajodcgedhikaaDoor
