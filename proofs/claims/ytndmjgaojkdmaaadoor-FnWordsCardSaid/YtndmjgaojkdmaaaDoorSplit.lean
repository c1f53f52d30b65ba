/-
  WALKS of spec.SplitAny and impl.SplitAny: both hand back the same parts, in a row of their own.
-/
import Derived.Test.YtndmjgaojkdmaaaDoorProg
import Derived.Test.YtndmjgaojkdmaaaDoorDig
import Derived.WalkKit
import Derived.WalkSpells
import Derived.WalkLawsBesides
import Derived.Deep.QuietTactic
import Derived.BigQuiet
import Derived.Lib.Hide
import Derived.Laws.Rows
import Derived.Deep.Onto
namespace Go.Proofs.YtndmjgaojkdmaaaDoor
open Go.RowKit
set_option linter.unusedVariables false
set_option linter.unusedSimpArgs false

def isSep (sp : ByteArray) (c : UInt8) : Bool := sp.data.toList.contains c
/-- The parts that are cut off by place k, and where the part at hand begins. -/
def splitTo (s sp : ByteArray) : Nat → List ByteArray × Nat
  | 0 => ([], 0)
  | k + 1 => if h : k < s.size then (if isSep sp s[k] then ((splitTo s sp k).1 ++ [s.extract (splitTo s sp k).2 k], k + 1) else splitTo s sp k) else splitTo s sp k
def split (s sp : ByteArray) : List ByteArray := (splitTo s sp s.size).1 ++ [s.extract (splitTo s sp s.size).2 s.size]

theorem splitTo_le (s sp : ByteArray) (k : Nat) : (splitTo s sp k).2 ≤ k ∧ (splitTo s sp k).1.length ≤ k := by
  induction k with
  | zero => simp [splitTo]
  | succ k ih =>
    unfold splitTo
    split
    · split
      · simp; omega
      · omega
    · omega
theorem splitTo_sep (s sp : ByteArray) (k : Nat) (h : k < s.size) (hc : isSep sp s[k] = true) : splitTo s sp (k + 1) = ((splitTo s sp k).1 ++ [s.extract (splitTo s sp k).2 k], k + 1) := by
  rw [splitTo, dif_pos h, if_pos hc]
theorem splitTo_not (s sp : ByteArray) (k : Nat) (h : k < s.size) (hc : isSep sp s[k] = false) : splitTo s sp (k + 1) = splitTo s sp k := by
  rw [splitTo, dif_pos h, if_neg (by simp [hc])]

/-- The first place of a separator's byte among the separators. -/
theorem sep_first (sp : ByteArray) (c : UInt8) (h : isSep sp c = true) : ∃ j, ∃ hj : j < sp.size, sp[j] = c ∧ ∀ i (hi : i < j), sp[i]'(by omega) ≠ c := by
  unfold isSep at h
  have hm : c ∈ sp.data.toList := by simpa using h
  have hlt := List.findIdx_lt_length_of_exists (p := (· == c)) (xs := sp.data.toList) ⟨c, hm, by simp⟩
  refine ⟨sp.data.toList.findIdx (· == c), by simpa using hlt, ?_, ?_⟩
  · exact beq_iff_eq.1 (List.findIdx_getElem (w := hlt))
  · intro i hi
    have := List.not_of_lt_findIdx hi
    exact fun e => by rw [show (sp.data.toList[i]'(by simp; have := hlt; simp at this; omega) == c) = true from beq_iff_eq.2 e] at this; cases this
theorem sep_none (sp : ByteArray) (c : UInt8) (h : isSep sp c = false) (i : Nat) (hi : i < sp.size) : sp[i] ≠ c := by
  intro e
  unfold isSep at h
  have hm : c ∈ sp.data.toList := by
    rw [← e]
    exact List.getElem_mem (l := sp.data.toList) (n := i) (by simpa using hi)
  simp at h
  exact h (by simpa using hm)

theorem Tryd.info9 : (Tryd.prog.info? 9).map (fun i => (i.zero, i.size, i.bytes)) = some (some (.string ⟨#[]⟩), 1, 16) := by kernel_rfl

/-- The table of the separators: at place c, is c a separator? -/
def sepTab (l : List UInt8) : Array Value := ((List.range 256).map fun c => Value.bool (l.contains (UInt8.ofNat c))).toArray
theorem row_set {w : World} {g j : Nat} {cs : Array Value} {t : TypeId} {fr : Nat × Nat} (hg : w.heap[g]? = some (.cells cs t fr)) (u : Value) :
    (w.setCell ⟨g, j, none⟩ u).heap[g]? = some (.cells (cs.setIfInBounds j u) t fr) := by
  simp [World.setCell, Array.getElem?_modify, hg]
theorem zero36 (w : World) : (zeroValue 46).run Tryd.prog w = .ok (.agg (sepTab [])) w := by kernel_rfl
theorem sepTab_at (l : List UInt8) (c : UInt8) : (sepTab l)[c.toNat]? = some (.bool (l.contains c)) := by
  have h : c.toNat < 256 := c.toNat_lt
  simp [sepTab, h]
theorem sepTab_set (l : List UInt8) (c : UInt8) : (sepTab l).setIfInBounds c.toNat (.bool true) = sepTab (l ++ [c]) := by
  have h : c.toNat < 256 := c.toNat_lt
  apply Array.ext
  · simp [sepTab]
  · intro i h1 h2
    by_cases e : c.toNat = i
    · subst e
      simp [sepTab]
    · have : UInt8.ofNat i ≠ c := by
        intro e2
        apply e
        rw [← e2]
        have : (sepTab l).size = 256 := by simp [sepTab]
        have h3 : i < 256 := by simpa [this] using h1
        simp; omega
      simp [sepTab, List.getElem_set, e, this]

set_option maxHeartbeats 400000 in
theorem impl_SplitAny (s sp : ByteArray) (w : World) (hs : s.size ≤ 1048576) (hp : sp.size ≤ maxLen) :
    Calls Tryd.prog 11 #[.string s, .string sp] w fun e w' => ∃ v, e = .returned v ∧ w'.ownsRow w.heap.size 9 1 v (split s sp).length ((split s sp).map Value.string) ∧ Below w.heap.size w w' := by
  unfold maxLen at hp
  obtain ⟨i0, hi, hz0, hz1, hz2⟩ := info_parts Tryd.info9
  have hz := zero36
  go_enter Tryd.func11, Tryd.ntmps11
  go_wp2
  clear hz
  go_loopw [12] (fun i wr => ∃ k : Nat, k ≤ sp.size ∧ i = .int .i64 k ∧ wr.heap[w.heap.size]? = some (.cells (sepTab (sp.data.toList.take k)) 46 (0, 0)) ∧ Below w.heap.size w wr) (fun i _ => sp.size - (intOf i).toNat)
  case atStart => exact ⟨0, Nat.zero_le _, rfl, heap_alloc_new w _, (Below.refl _ w).alloc (Nat.le_refl _) _⟩
  case round =>
    obtain ⟨k, hk, rfl, hT, hbw⟩ := hrel
    have hTab := Lib.hid hT
    clear hT
    by_cases hlt : k < sp.size
    · obtain ⟨y, hcell⟩ : ∃ y, wr.cell? ⟨w.heap.size, sp[k].toNat, none⟩ = some y := ⟨_, (cell_of_row _ _ _ _ _ _ hTab.out).trans (sepTab_at _ _)⟩
      have hfr : wr.frozen? ⟨w.heap.size, sp[k].toNat, none⟩ = false := frozen_of_row _ _ _ _ _ hTab.out
      have hcl : (sp[k].toNat : Int) < 256 := by have := sp[k].toNat_lt; omega
      go_wp2
      go_roundw
      case rel => exact ⟨k + 1, by omega, by go_num, by rw [row_set hTab.out, sepTab_set, ← take_snoc sp k hlt], hbw.setCell (Nat.le_refl _) _⟩
      case measure => simp [intOf]; omega
    · have hks : k = sp.size := by omega
      subst hks
      have hall : sp.data.toList.take sp.size = sp.data.toList := List.take_of_length_le (by simp)
      have hTab2 : Hid (wr.heap[w.heap.size]? = some (.cells (sepTab sp.data.toList) 46 (0, 0))) := by
        have := hTab.out
        rw [hall] at this
        exact Lib.hid this
      clear hTab hall
      obtain ⟨wo, rfl⟩ : ∃ wo : World, wo = wr := ⟨_, rfl⟩
      go_wp2
      go_loopw [7, 8, 22] (fun v f i wi => ∃ k : Nat, k ≤ s.size ∧ i = .int .i64 k ∧ f = .int .i64 (splitTo s sp k).2 ∧ wi.ownsRow (w.heap.size + 1) 9 1 v (splitTo s sp k).1.length ((splitTo s sp k).1.map Value.string) ∧ Below w.heap.size w wi ∧ w.heap.size + 1 ≤ wi.heap.size ∧ wi.heap[w.heap.size]? = some (.cells (sepTab sp.data.toList) 46 (0, 0))) (fun _ _ i _ => s.size - (intOf i).toNat)
      case atStart =>
        refine ⟨0, Nat.zero_le _, rfl, rfl, World.ownsRow_nil _ _ _ _, hbw, ?_, hTab2.out⟩
        have := (Array.getElem?_eq_some_iff.1 hTab2.out).1
        omega
      case round =>
        obtain ⟨k, hk, rfl, rfl, hown, hbw, hsz, hT⟩ := hrel
        have hTab := Lib.hid hT
        clear hT
        have hle := splitTo_le s sp k
        by_cases hlt : k < s.size
        · have hcl : (s[k].toNat : Int) < 256 := by have := s[k].toNat_lt; omega
          have hcell0 := Lib.hid ((cell_of_row _ _ s[k].toNat _ _ _ hTab.out).trans (sepTab_at sp.data.toList s[k]))
          cases hc : isSep sp s[k] with
          | true =>
            have hcell : wr.cell? ⟨w.heap.size, s[k].toNat, none⟩ = some (.bool true) := by
              have := hcell0.out
              unfold isSep at hc
              rw [hc] at this
              exact this
            have HS := Lib.hid (splitTo_sep s sp k hlt hc)
            clear hc hcell0
            go_wp2_with (at_builtin; refine wpList_append_own _ rfl _ _ 29 rfl (w.heap.size + 1) 9 i0 (.string ⟨#[]⟩) 1 16 Tryd.underlying29 hi hz0 hz1 hz2 rfl (by decide) _ _ _ rfl (hown.alloc _) ⟨wr.heap.size, 0, none⟩ 1 1 [.string (s.extract (splitTo s sp k).2 k)] rfl rfl ?c1 ?c2 ?c3 ?c4 ?c5 ?_)
            case c1 => exact cell_one_new _ _ _
            case c2 => simp [Value.oneCell']
            case c3 => unfold maxLen; omega
            case c4 => omega
            case c5 => simp; omega
            intro v' w1 hown1 hg1 _
            have hbw1 := (hbw.alloc hbw.size _).grown hg1 (by have := hbw.size; simp; omega) (fun g hg => by have := (hown.lt g hg).1; omega)
            have hsz1 : w.heap.size + 1 ≤ w1.heap.size := by have := hg1.size; simp at this; omega
            have hT1 := Lib.hid ((hg1.block w.heap.size (by simp; omega) (fun e => by have := (hown.lt _ e.symm).1; omega)).trans ((Below.heap_alloc _ _ _ (by omega)).trans hTab.out))
            clear hg1
            go_wp2
            go_roundw
            case rel => exact ⟨k + 1, by omega, by go_num, by rw [HS.out]; go_num, by rw [HS.out]; simpa using hown1, hbw1, hsz1, hT1.out⟩
            case measure => simp [intOf]; omega
          | false =>
            have hcell : wr.cell? ⟨w.heap.size, s[k].toNat, none⟩ = some (.bool false) := by
              have := hcell0.out
              unfold isSep at hc
              rw [hc] at this
              exact this
            have HS := Lib.hid (splitTo_not s sp k hlt hc)
            clear hc hcell0
            go_wp2
            go_roundw
            case rel => exact ⟨k + 1, by omega, by go_num, by rw [HS.out], by rw [HS.out]; exact hown, hbw, hsz, hTab.out⟩
            case measure => simp [intOf]; omega
        · go_wp2_with (at_builtin; refine wpList_append_own _ rfl _ _ 29 rfl (w.heap.size + 1) 9 i0 (.string ⟨#[]⟩) 1 16 Tryd.underlying29 hi hz0 hz1 hz2 rfl (by decide) _ _ _ rfl (hown.alloc _) ⟨wr.heap.size, 0, none⟩ 1 1 [.string (s.extract (splitTo s sp k).2 s.size)] rfl rfl ?d1 ?d2 ?d3 ?d4 ?d5 ?_)
          case d1 => exact cell_one_new _ _ _
          case d2 => simp [Value.oneCell']
          case d3 => unfold maxLen; omega
          case d4 => omega
          case d5 => simp; omega
          intro v' w1 hown1 hg1 _
          have hbw1 := (hbw.alloc hbw.size _).grown hg1 (by have := hbw.size; simp; omega) (fun g hg => by have := (hown.lt g hg).1; omega)
          clear hg1
          go_wp2
          go_ret
          have hks : k = s.size := by omega
          subst hks
          exact ⟨_, rfl, by unfold split; simpa using hown1.mono (Nat.le_succ _), hbw1⟩

theorem split_len (s sp : ByteArray) : (split s sp).length ≤ s.size + 1 := by
  have := (splitTo_le s sp s.size).2
  simp [split]; omega

end Go.Proofs.YtndmjgaojkdmaaaDoor
