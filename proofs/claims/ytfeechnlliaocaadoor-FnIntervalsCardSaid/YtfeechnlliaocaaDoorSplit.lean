/-
  WALKS of spec.SplitAny and impl.SplitAny: both hand back the same parts, in a row of their own.
-/
import Derived.Test.YtfeechnlliaocaaDoorProg
import Derived.Test.YtfeechnlliaocaaDoorDig
import Derived.WalkKit
import Derived.WalkSpells
import Derived.WalkLawsBesides
import Derived.Deep.QuietTactic
import Derived.BigQuiet
import Derived.Lib.Hide
import Derived.Laws.Rows
import Derived.Deep.Onto
namespace Go.Proofs.YtfeechnlliaocaaDoor
open Go.RowKit
set_option linter.unusedVariables false
set_option linter.unusedSimpArgs false

def isSep (sp : ByteArray) (c : UInt8) : Bool := sp.data.toList.contains c
/-- The parts that are cut off by place k, and where the part at hand begins. -/
def splitTo (s sp : ByteArray) : Nat → List ByteArray × Nat
  | 0 => ([], 0)
  | k + 1 => if h : k < s.size then (if isSep sp s[k] then ((splitTo s sp k).1 ++ [s.extract (splitTo s sp k).2 k], k + 1) else splitTo s sp k) else splitTo s sp k
def split (s sp : ByteArray) : List ByteArray := (splitTo s sp s.size).1 ++ [s.extract (splitTo s sp s.size).2 s.size]

theorem splitTo_le (s sp : ByteArray) (k : Nat) : (splitTo s sp k).2 ≤ k ∧ (splitTo s sp k).1.length ≤ k := by
  induction k with
  | zero => simp [splitTo]
  | succ k ih =>
    unfold splitTo
    split
    · split
      · simp; omega
      · omega
    · omega
theorem splitTo_sep (s sp : ByteArray) (k : Nat) (h : k < s.size) (hc : isSep sp s[k] = true) : splitTo s sp (k + 1) = ((splitTo s sp k).1 ++ [s.extract (splitTo s sp k).2 k], k + 1) := by
  rw [splitTo, dif_pos h, if_pos hc]
theorem splitTo_not (s sp : ByteArray) (k : Nat) (h : k < s.size) (hc : isSep sp s[k] = false) : splitTo s sp (k + 1) = splitTo s sp k := by
  rw [splitTo, dif_pos h, if_neg (by simp [hc])]

/-- The first place of a separator's byte among the separators. -/
theorem sep_first (sp : ByteArray) (c : UInt8) (h : isSep sp c = true) : ∃ j, ∃ hj : j < sp.size, sp[j] = c ∧ ∀ i (hi : i < j), sp[i]'(by omega) ≠ c := by
  unfold isSep at h
  have hm : c ∈ sp.data.toList := by simpa using h
  have hlt := List.findIdx_lt_length_of_exists (p := (· == c)) (xs := sp.data.toList) ⟨c, hm, by simp⟩
  refine ⟨sp.data.toList.findIdx (· == c), by simpa using hlt, ?_, ?_⟩
  · exact beq_iff_eq.1 (List.findIdx_getElem (w := hlt))
  · intro i hi
    have := List.not_of_lt_findIdx hi
    exact fun e => by rw [show (sp.data.toList[i]'(by simp; have := hlt; simp at this; omega) == c) = true from beq_iff_eq.2 e] at this; cases this
theorem sep_none (sp : ByteArray) (c : UInt8) (h : isSep sp c = false) (i : Nat) (hi : i < sp.size) : sp[i] ≠ c := by
  intro e
  unfold isSep at h
  have hm : c ∈ sp.data.toList := by
    rw [← e]
    exact List.getElem_mem (l := sp.data.toList) (n := i) (by simpa using hi)
  simp at h
  exact h (by simpa using hm)

theorem Tryd.info9 : (Tryd.prog.info? 9).map (fun i => (i.zero, i.size, i.bytes)) = some (some (.string ⟨#[]⟩), 1, 16) := by kernel_rfl

set_option maxRecDepth 100000 in
set_option maxHeartbeats 400000 in
theorem spec_SplitAny (s sp : ByteArray) (w : World) (hs : s.size ≤ 1048576) (hp : sp.size ≤ maxLen) :
    Calls Tryd.prog 33 #[.string s, .string sp] w fun e w' => ∃ v, e = .returned v ∧ w'.ownsRow w.heap.size 9 1 v (split s sp).length ((split s sp).map Value.string) ∧ Below w.heap.size w w' := by
  unfold maxLen at hp
  obtain ⟨i0, hi, hz0, hz1, hz2⟩ := info_parts Tryd.info9
  go_enter Tryd.func33, Tryd.ntmps33
  go_wp2
  go_loopw [5, 6, 7] (fun v f i wr => ∃ k : Nat, k ≤ s.size ∧ i = .int .i64 k ∧ f = .int .i64 (splitTo s sp k).2 ∧ wr.ownsRow w.heap.size 9 1 v (splitTo s sp k).1.length ((splitTo s sp k).1.map Value.string) ∧ Below w.heap.size w wr) (fun _ _ i _ => s.size - (intOf i).toNat)
  case atStart =>
    refine ⟨0, Nat.zero_le _, rfl, rfl, ?_, (Below.refl _ w).alloc (Nat.le_refl _) _⟩
    exact ⟨rfl, .inr ⟨w.heap.size, 0, #[], rfl, Nat.le_refl _, heap_alloc_new w _, Nat.le_refl _, by simp [maxLen], rfl, rfl⟩⟩
  case round =>
    obtain ⟨k, hk, rfl, rfl, hown, hbw⟩ := hrel
    have hle := splitTo_le s sp k
    by_cases hlt : k < s.size
    · cases hc : isSep sp s[k] with
      | true =>
        obtain ⟨j, hj, hje, hjn⟩ := sep_first sp s[k] hc
        have HE := Lib.hid hje
        have HN := Lib.hid hjn
        have HS := Lib.hid (splitTo_sep s sp k hlt hc)
        clear hc hje hjn
        go_wp2
        go_loopw [5, 6, 8] (fun v f i wi => ∃ i' : Nat, i' ≤ j ∧ i = .int .i64 i' ∧ f = .int .i64 (splitTo s sp k).2 ∧ wi.ownsRow w.heap.size 9 1 v (splitTo s sp k).1.length ((splitTo s sp k).1.map Value.string) ∧ Below w.heap.size w wi) (fun _ _ i _ => j - (intOf i).toNat)
        case atStart => exact ⟨0, Nat.zero_le _, rfl, rfl, hown, hbw⟩
        case round =>
          rename_i v8 f8 i8 wi
          obtain ⟨i', hij, rfl, rfl, hown, hbw⟩ := hrel
          by_cases hlj : i' < j
          · have hne : ((s[k].toNat : Int) == (sp[i'].toNat : Int)) = false := by
              have := HN.out i' hlj
              have e2 := HE.out
              simp; intro e; exact this (by rw [UInt8.toNat_inj.1 (show s[k].toNat = sp[i'].toNat by omega)])
            go_wp2
            go_quiet (fail)
            go_wp2
            go_roundw
            case rel => exact ⟨i' + 1, by omega, by go_num, rfl, hown, below_drewN hbw nq⟩
            case measure => simp [intOf]; omega
          · have hij2 : i' = j := by omega
            subst hij2
            have heq : ((s[k].toNat : Int) == (sp[i'].toNat : Int)) = true := by rw [HE.out]; simp
            go_wp2
            go_quiet (fail)
            go_wp2_with (at_builtin; refine wpList_append_own _ rfl _ _ 52 rfl w.heap.size 9 i0 (.string ⟨#[]⟩) 1 16 Tryd.underlying52 hi hz0 hz1 hz2 rfl (by decide) _ _ _ rfl (hown.alloc _) ⟨_, 0, none⟩ 1 1 [.string (s.extract (splitTo s sp k).2 k)] rfl rfl ?c1 ?c2 ?c3 ?c4 ?c5 ?_)
            case c1 => exact cell_one_new _ _ _
            case c2 => simp [Value.oneCell']
            case c3 => unfold maxLen; omega
            case c4 => omega
            case c5 => have := hbw.size; simp; omega
            intro v' w1 hown1 hg1 _
            have hbw1 := ((below_drewN hbw nq).alloc (by have := hbw.size; simpa using this) _).grown hg1 (by have := hbw.size; simp; omega) (fun g hg => (hown.lt g hg).1)
            clear hg1
            go_wp2
            go_roundw
            case rel => exact ⟨k + 1, by omega, by go_num, by rw [HS.out]; go_num, by rw [HS.out]; simpa using hown1, hbw1⟩
            case measure => simp [intOf]; omega
      | false =>
        have hnone := Lib.hid (sep_none sp s[k] hc)
        have HS := Lib.hid (splitTo_not s sp k hlt hc)
        clear hc
        go_wp2
        go_loopw [5, 6, 8] (fun v f i wi => ∃ j : Nat, j ≤ sp.size ∧ i = .int .i64 j ∧ f = .int .i64 (splitTo s sp k).2 ∧ wi.ownsRow w.heap.size 9 1 v (splitTo s sp k).1.length ((splitTo s sp k).1.map Value.string) ∧ Below w.heap.size w wi) (fun _ _ i _ => sp.size - (intOf i).toNat)
        case atStart => exact ⟨0, Nat.zero_le _, rfl, rfl, hown, hbw⟩
        case round =>
          obtain ⟨j, hj, rfl, rfl, hown, hbw⟩ := hrel
          by_cases hjl : j < sp.size
          · have hne : ((s[k].toNat : Int) == (sp[j].toNat : Int)) = false := by
              have := hnone.out j hjl
              simp; intro e; exact this (UInt8.toNat_inj.1 (by omega))
            go_wp2
            go_quiet (fail)
            go_wp2
            go_roundw
            case rel => exact ⟨j + 1, by omega, by go_num, rfl, hown, below_drewN hbw nq⟩
            case measure => simp [intOf]; omega
          · go_wp2
            go_roundw
            case rel => exact ⟨k + 1, by omega, by go_num, by rw [HS.out], by rw [HS.out]; exact hown, hbw⟩
            case measure => simp [intOf]; omega
    · go_wp2_with (at_builtin; refine wpList_append_own _ rfl _ _ 52 rfl w.heap.size 9 i0 (.string ⟨#[]⟩) 1 16 Tryd.underlying52 hi hz0 hz1 hz2 rfl (by decide) _ _ _ rfl (hown.alloc _) ⟨wr.heap.size, 0, none⟩ 1 1 [.string (s.extract (splitTo s sp k).2 s.size)] rfl rfl ?d1 ?d2 ?d3 ?d4 ?d5 ?_)
      case d1 => exact cell_one_new _ _ _
      case d2 => simp [Value.oneCell']
      case d3 => unfold maxLen; omega
      case d4 => omega
      case d5 => have := hbw.size; simp; omega
      intro v' w1 hown1 hg1 _
      have hbw1 := (hbw.alloc hbw.size _).grown hg1 (by have := hbw.size; simp; omega) (fun g hg => (hown.lt g hg).1)
      clear hg1
      go_wp2
      go_ret
      have hks : k = s.size := by omega
      subst hks
      exact ⟨_, rfl, by unfold split; simpa using hown1, hbw1⟩

theorem split_len (s sp : ByteArray) : (split s sp).length ≤ s.size + 1 := by
  have := (splitTo_le s sp s.size).2
  simp [split]; omega

end Go.Proofs.YtfeechnlliaocaaDoor
