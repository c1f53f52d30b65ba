/-
  WALKS of the laws' own helpers over slices of strings: markText, eqStringS, markStringS, heldStringS, toStringS, szStringS.
-/
import Derived.Test.YtndmjgaojkdmaaaProg
import Derived.Test.YtndmjgaojkdmaaaDig
import Derived.WalkKit
import Derived.WalkSpells
import Derived.WalkLawsBesides
import Derived.Deep.QuietTactic
import Derived.Deep.RegionWith
import Derived.BigQuiet
import Derived.Lib.Hide
import Derived.Laws.Rows
import Derived.Laws.OwnMore
import Derived.Deep.Onto
import Derived.Deep.AppendLies
namespace Go.Proofs.Ytndmjgaojkdmaaa
open Go.RowKit
set_option linter.unusedVariables false
set_option linter.unusedSimpArgs false

/-! ### markText -/

def markGo : Nat → Nat → List UInt8 → List UInt8
  | 0, _, out => out
  | f + 1, k, out => if k = 0 then out else markGo f (k / 10) (UInt8.ofNat (48 + k % 10) :: out)
def markB (k : Nat) : ByteArray := ⟨(109 :: markGo k k []).toArray⟩

theorem markGo_fuel : ∀ (f k : Nat) (out : List UInt8), k ≤ f → markGo f k out = markGo k k out := by
  intro f
  induction f using Nat.strongRecOn with
  | _ f ih =>
    intro k out h
    match f, k with
    | 0, 0 => rfl
    | f + 1, 0 => simp [markGo]
    | f + 1, k + 1 =>
      have hd : (k + 1) / 10 ≤ k := by omega
      simp only [markGo, Nat.add_one_ne_zero, if_false]
      rw [ih f (by omega) ((k + 1) / 10) _ (by omega)]
      by_cases hk : k < f + 1
      · rw [ih k hk ((k + 1) / 10) _ hd]
      · omega
theorem markGo_step (k : Nat) (out : List UInt8) (h : 0 < k) : markGo k k out = markGo (k / 10) (k / 10) (UInt8.ofNat (48 + k % 10) :: out) := by
  obtain ⟨m, rfl⟩ : ∃ m, k = m + 1 := ⟨k - 1, by omega⟩
  rw [markGo, if_neg (by omega), markGo_fuel m _ _ (by omega)]

/-- A byte as a string. -/
def byteB (c : Nat) : ByteArray := ⟨#[UInt8.ofNat c]⟩
theorem byteB_size (c : Nat) : (byteB c).size = 1 := rfl
theorem byteB_append (c : Nat) (x : ByteArray) : (byteB c ++ x).data.toList = UInt8.ofNat c :: x.data.toList := by
  simp [byteB]
theorem conv_one (w : World) (c : Nat) (h1 : c < 256) :
    (convert 39 9 (.slice (some ⟨w.heap.size, 0, none⟩) 1 1)).run Try.prog (w.alloc (.cells #[.int .u8 c] 5)) = .ok (.string (byteB c)) (w.alloc (.cells #[.int .u8 c] 5)) := by
  have h := run_convert_bytes_back (w.alloc (.cells #[.int .u8 c] 5)) 39 9 5 ⟨w.heap.size, 0, none⟩ 1 [UInt8.ofNat c] Try.underlying39 Try.underlying5 Try.underlying9 (by
    intro j hj
    match j, hj with
    | 0, _ =>
      refine (cell_one_new w _ _ 0 _ rfl).trans ?_
      have : (UInt8.ofNat c).toNat = c := by simp; omega
      simp [this])
  exact h

theorem conv_at (c : Nat) (h1 : c < 256) (w : World) (g : Nat) (hc : w.cell? ⟨g, 0, none⟩ = some (.int .u8 c)) :
    (convert 39 9 (.slice (some ⟨g, 0, none⟩) 1 1)).run Try.prog w = .ok (.string (byteB c)) w := by
  have h := run_convert_bytes_back w 39 9 5 ⟨g, 0, none⟩ 1 [UInt8.ofNat c] Try.underlying39 Try.underlying5 Try.underlying9 (by
    intro j hj
    match j, hj with
    | 0, _ =>
      refine hc.trans ?_
      have : (UInt8.ofNat c).toNat = c := by simp; omega
      simp [this])
  exact h

set_option maxHeartbeats 400000 in
theorem markText_any (k : Nat) (w : World) (hk : 0 < k) (hk2 : k ≤ 1099511627776) :
    Calls Try.prog 29 #[.int .i64 k] w fun e w' => e = .returned (.string (markB k)) ∧ Below w.heap.size w w' := by
  go_enter Try.func29, Try.ntmps29
  go_wp2
  go_loopw [0, 3] (fun i o wr => ∃ (n : Nat) (x : ByteArray), i = .int .i64 n ∧ o = .string x ∧ x.size + n ≤ k ∧ markGo n n x.data.toList = markGo k k [] ∧ Below w.heap.size w wr) (fun i _ _ => (intOf i).toNat)
  case atStart => exact ⟨k, ⟨#[]⟩, rfl, rfl, by simp [ByteArray.size], rfl, Below.refl _ _⟩
  case round =>
    obtain ⟨n, x, rfl, rfl, hx, hm, hbw⟩ := hrel
    have HM := Lib.hid hm
    clear hm
    by_cases hn : 0 < n
    · have hcv := conv_one wr (48 + n % 10) (by omega)
      have ec : ((48 + n % 10 : Nat) : Int) = 48 + (n : Int) % 10 := by omega
      rw [ec] at hcv
      clear ec
      have hbs : (byteB (48 + n % 10)).size ≤ 1 := Nat.le_refl _
      have ed : ((n : Int) / 10) = ((n / 10 : Nat) : Int) := by omega
      have HD := Lib.hid ed
      clear ed
      go_wp2
      go_roundw
      case rel =>
        refine ⟨n / 10, byteB (48 + n % 10) ++ x, by rw [HD.out], rfl, ?_, ?_, hbw.alloc hbw.size _⟩
        · rw [ByteArray.size_append]; omega
        · rw [byteB_append, ← HM.out, markGo_step n _ hn]
      case measure => simp [intOf]; omega
    · have hn0 : n = 0 := by omega
      subst hn0
      have hxs : x.size ≤ 9223372036854775806 := by omega
      go_wp2
      go_ret
      refine ⟨?_, hbw⟩
      have h1 := HM.out
      simp [markGo] at h1
      have : (⟨#[109]⟩ : ByteArray) ++ x = markB k := by
        apply ByteArray.ext
        apply Array.toList_inj.1
        unfold markB
        simp [h1]
      rw [this]; rfl

/-! ### Slices of strings that are read -/

/-- The slice at A (nil, or an address in the heap) holds the values xs, one cell each. -/
def RowAt (w : World) (A : Option Addr) (xs : List Value) : Prop :=
  0 < xs.length → ∃ g o, A = some ⟨g, o, none⟩ ∧ g < w.heap.size ∧ ∀ j (h : j < xs.length), w.cell? ⟨g, o + j, none⟩ = some xs[j]

theorem RowAt.below {w w' : World} {A : Option Addr} {xs : List Value} (h : RowAt w A xs) (hb : Below w.heap.size w w') : RowAt w' A xs := by
  intro hx
  obtain ⟨g, o, hA, hg, hc⟩ := h hx
  have := hb.size
  exact ⟨g, o, hA, by omega, fun j hj => (hb.cell (p := ⟨g, o + j, none⟩) hg).trans (hc j hj)⟩

theorem RowAt.of_heap {w w' : World} {A : Option Addr} {xs : List Value} (h : RowAt w A xs) (hb : w'.heap = w.heap) : RowAt w' A xs := by
  intro hx
  obtain ⟨g, o, hA, hg, hc⟩ := h hx
  exact ⟨g, o, hA, by rw [hb]; exact hg, fun j hj => (World.cell?_of_block (a := ⟨g, o + j, none⟩) (by rw [hb])).trans (hc j hj)⟩

/-- An owned slice is one, and what it looks like. -/
theorem own_form {w : World} {B e n : Nat} {v : Value} {xs : List Value} (h : w.ownsRow B e 1 v n xs) : ∃ A c, v = .slice A n c ∧ xs.length = n ∧ RowAt w A xs := by
  have hl : xs.length = n := by simpa using h.1
  rcases Nat.eq_zero_or_pos n with h0 | h0
  · rcases h.2 with ⟨rfl, hn⟩ | ⟨g, cap, cur, rfl, _⟩
    · subst hn
      exact ⟨none, 0, rfl, hl, fun hx => by omega⟩
    · exact ⟨some ⟨g, 0, none⟩, cap, rfl, hl, fun hx => by omega⟩
  · obtain ⟨g, cap, rfl, hb, hg⟩ := h.form h0
    refine ⟨some ⟨g, 0, none⟩, cap, rfl, hl, fun _ => ⟨g, 0, rfl, hg, fun j hj => ?_⟩⟩
    rw [Nat.zero_add, h.cellAt j (by omega)]
    exact List.getElem?_eq_getElem hj

set_option maxHeartbeats 400000 in
theorem eqStringS_same (ss : List ByteArray) (A B : Option Addr) (n ca cb : Nat) (w : World) (hn : ss.length = n) (hm : n ≤ maxLen) (ha : RowAt w A (ss.map Value.string)) (hb : RowAt w B (ss.map Value.string)) :
    Calls Try.prog 15 #[.slice A n ca, .slice B n cb] w fun e w' => e = .returned (.bool true) ∧ ∃ q, w' = w.drewN q := by
  unfold maxLen at hm
  have HA := Lib.hid ha
  have HB := Lib.hid hb
  have HL := Lib.hid hn
  clear ha hb hn
  have hne : ((n : Int) != (n : Int)) = false := by simp
  go_enter Try.func15, Try.ntmps15
  go_wp2
  go_loopw [5] (fun i wr => ∃ k : Nat, k ≤ n ∧ i = .int .i64 k ∧ ∃ q, wr = w.drewN q) (fun i _ => n - (intOf i).toNat)
  case atStart => exact ⟨0, Nat.zero_le _, rfl, 0, rfl⟩
  case round =>
    obtain ⟨k, hk, rfl, q, rfl⟩ := hrel
    by_cases hlt : k < n
    · have hl := HL.out
      obtain ⟨g, o, rfl, hg, hc⟩ := HA.out (by simp; omega)
      obtain ⟨g', o', rfl, hg', hc'⟩ := HB.out (by simp; omega)
      obtain ⟨x, h1, h2⟩ : ∃ x : ByteArray, w.cell? ⟨g, o + k, none⟩ = some (.string x) ∧ w.cell? ⟨g', o' + k, none⟩ = some (.string x) :=
        ⟨ss[k]'(by omega), (hc k (by simp; omega)).trans (by rw [List.getElem_map]), (hc' k (by simp; omega)).trans (by rw [List.getElem_map])⟩
      clear hc hc' hl
      have hxx : (x.toList != x.toList) = false := by simp
      go_wp2
      go_quiet (fail)
      go_wp2
      go_roundw
      case rel => exact ⟨k + 1, by omega, by go_num, q + nq, rfl⟩
      case measure => simp [intOf]; omega
    · go_wp2
      go_ret
      exact ⟨rfl, q, rfl⟩

/-! ### Marks -/

def marks (k n : Nat) : List Value := (List.range n).map fun i => Value.string (markB (k + i))
theorem marks_length (k n : Nat) : (marks k n).length = n := by simp [marks]
theorem marks_at (k n j : Nat) (h : j < (marks k n).length) : (marks k n)[j] = .string (markB (k + j)) := by simp [marks]
theorem marks_step (k j : Nat) (xs : List Value) (h : j < xs.length) : (marks k j ++ xs.drop j).set j (.string (markB (k + j))) = marks k (j + 1) ++ xs.drop (j + 1) := by
  have e : marks k (j + 1) = marks k j ++ [.string (markB (k + j))] := by simp [marks, List.range_succ]
  have h1 : (marks k j).length = j := marks_length k j
  rw [e, List.set_append, if_neg (by omega), h1, Nat.sub_self, List.append_assoc, List.drop_eq_getElem_cons h]
  rfl

theorem below_grown {w w1 w2 : World} {row : Option Nat} (hg : w.grownBy w1 row) (hb : Below w1.heap.size w1 w2) : w.grownBy w2 row :=
  ⟨hb.os.trans hg.os, hb.tape.trans hg.tape, hb.output.trans hg.output, Nat.le_trans hg.size hb.size, fun k hk hr => (hb.block k (Nat.lt_of_lt_of_le hk hg.size)).trans (hg.block k hk hr)⟩
theorem grown_trans {w w1 w2 : World} {row : Option Nat} (hg : w.grownBy w1 row) (hb : w1.grownBy w2 row) : w.grownBy w2 row :=
  ⟨hb.os.trans hg.os, hb.tape.trans hg.tape, hb.output.trans hg.output, Nat.le_trans hg.size hb.size, fun k hk hr => (hb.block k (Nat.lt_of_lt_of_le hk hg.size) hr).trans (hg.block k hk hr)⟩
theorem own_below {w w' : World} {B e n s : Nat} {v : Value} {xs : List Value} (h : w.ownsRow B e s v n xs) (hb : Below w.heap.size w w') : w'.ownsRow B e s v n xs :=
  h.kept (row := none) ⟨hb.os, hb.tape, hb.output, hb.size, fun k hk _ => hb.block k hk⟩ (by
    rcases h.2 with ⟨rfl, _⟩ | ⟨g, cap, cur, rfl, _⟩
    · exact .inl rfl
    · exact .inr (by simp [Value.ownBlock]))

set_option maxHeartbeats 400000 in
theorem markStringS_any (A : Option Addr) (n c B k : Nat) (xs : List Value) (w : World) (hk : 0 < k) (hn : k + n ≤ 1099511627776) (hown : w.ownsRow B 9 1 (.slice A n c) n xs) :
    Calls Try.prog 16 #[.slice A n c, .int .i64 k] w fun e w' => e = .returned (.int .i64 ((k : Int) + n)) ∧ w'.ownsRow B 9 1 (.slice A n c) n (marks k n) ∧ w.grownBy w' (Value.slice A n c).ownBlock := by
  have HO := Lib.hid hown
  have hl0 : xs.length = n := by simpa using hown.1
  have HL := Lib.hid hl0
  clear hown hl0
  go_enter Try.func16, Try.ntmps16
  go_wp2
  go_loopw [1, 5] (fun kk i wr => ∃ j : Nat, j ≤ n ∧ i = .int .i64 j ∧ kk = .int .i64 ((k : Int) + j) ∧ wr.ownsRow B 9 1 (.slice A n c) n (marks k j ++ xs.drop j) ∧ w.grownBy wr (Value.slice A n c).ownBlock) (fun _ i _ => n - (intOf i).toNat)
  case atStart => exact ⟨0, Nat.zero_le _, rfl, by simp, by simpa [marks] using HO.out, World.grownBy.refl _ _⟩
  case round =>
    obtain ⟨j, hj, rfl, rfl, hown, hgr⟩ := hrel
    by_cases hlt : j < n
    · obtain ⟨g, cap, hA, hBg, hg⟩ := hown.form (by omega)
      obtain ⟨rfl, rfl⟩ : A = some ⟨g, 0, none⟩ ∧ c = cap := by simpa using hA
      clear hA
      have ek : ((k : Int) + j) = ((k + j : Nat) : Int) := by omega
      have EK := Lib.hid ek
      clear ek
      go_wp2_with fail
      rw [EK.out]
      refine (markText_any (k + j) _ (by omega) (by omega)).mono ?_
      rintro e w1 ⟨rfl, hb1⟩
      have hown1 := own_below hown hb1
      have hgr1 := below_grown hgr hb1
      have hcell := hown1.cellAt j (by omega)
      obtain ⟨y, hy⟩ : ∃ y, w1.cell? ⟨g, j, none⟩ = some y := by
        rw [hcell]
        have hl := HL.out
        exact ⟨_, List.getElem?_eq_getElem (by simp [marks_length]; omega)⟩
      have hfz := hown1.frozenAt j
      have HS := Lib.hid (hown1.stored j (.string (markB (k + j))))
      have HG := Lib.hid hgr1
      clear hown hgr hown1 hgr1 hcell hb1
      rw [← EK.out]
      go_wp2
      go_roundw
      case rel =>
        have hl := HL.out
        have h1 := HS.out.1
        rw [marks_step k j xs (by omega)] at h1
        refine ⟨j + 1, by omega, by go_num, by rw [show ((j + 1 : Nat) : Int) = (j : Int) + 1 from by omega, Int.add_assoc], h1, ?_⟩
        exact grown_trans HG.out HS.out.2
      case measure => simp [intOf]; omega
    · go_wp2
      go_ret
      have hjn : j = n := by omega
      subst hjn
      have hl := HL.out
      refine ⟨rfl, ?_, hgr⟩
      simpa [← hl] using hown

set_option maxHeartbeats 400000 in
theorem heldStringS_any (A : Option Addr) (n c k : Nat) (w : World) (hk : 0 < k) (hn : k + n ≤ 1099511627776) (hrow : RowAt w A (marks k n)) :
    Calls Try.prog 17 #[.slice A n c, .int .i64 k] w fun e w' => e = .returned (.int .i64 ((k : Int) + n)) ∧ Below w.heap.size w w' := by
  have HO := Lib.hid hrow
  clear hrow
  go_enter Try.func17, Try.ntmps17
  go_wp2
  go_loopw [1, 5] (fun kk i wr => ∃ j : Nat, j ≤ n ∧ i = .int .i64 j ∧ kk = .int .i64 ((k : Int) + j) ∧ Below w.heap.size w wr) (fun _ i _ => n - (intOf i).toNat)
  case atStart => exact ⟨0, Nat.zero_le _, rfl, by simp, Below.refl _ _⟩
  case round =>
    obtain ⟨j, hj, rfl, rfl, hbw⟩ := hrel
    by_cases hlt : j < n
    · obtain ⟨g, o, rfl, hg, hc⟩ := HO.out (by rw [marks_length]; omega)
      have hc1 := (hbw.cell (p := ⟨g, o + j, none⟩) hg).trans ((hc j (by rw [marks_length]; omega)).trans (by rw [marks_at]))
      clear hc
      have hgr : g < wr.heap.size := by have := hbw.size; omega
      have hct := @markText_any (k + j)
      have ek : ((k : Int) + j) = ((k + j : Nat) : Int) := by omega
      rw [ek.symm] at hct
      have HCT := Lib.hid hct
      clear hct ek
      have hxx : ((markB (k + j)).toList != (markB (k + j)).toList) = false := by simp
      go_wp2
      go_region_with (go_at_call 29; refine (HCT.out _ (by omega) (by omega)).mono ?_; rintro e w1 ⟨rfl, hb1⟩; have hc2 := (hb1.cell (p := ⟨g, o + j, none⟩) (by simpa using hgr)).trans hc1)
      all_goals
        have hbw1 : Below w.heap.size w w1 := hbw.drew.trans (Below.mono hb1 hbw.size)
        go_wp2
        go_roundw
        case rel => exact ⟨j + 1, by omega, by go_num, by rw [show ((j + 1 : Nat) : Int) = (j : Int) + 1 from by omega, Int.add_assoc], hbw1⟩
        case measure => simp [intOf]; omega
    · go_wp2
      go_ret
      have hjn : j = n := by omega
      subst hjn
      exact ⟨rfl, hbw⟩
theorem own_row {w : World} {B e n c : Nat} {A : Option Addr} {xs : List Value} (h : w.ownsRow B e 1 (.slice A n c) n xs) : RowAt w A xs := by
  obtain ⟨A', c', hv, _, hr⟩ := own_form h
  injection hv with hA
  rw [hA]; exact hr
/-- Two rows, the second made behind the first's world: they don't meet. -/
theorem own_apart {w w' : World} {B B' e e' s s' n n' : Nat} {v v' : Value} {xs xs' : List Value} (h0 : w.ownsRow B e s v n xs) (h1 : w'.ownsRow B' e' s' v' n' xs') (hB : w.heap.size ≤ B') :
    v.ownBlock = none ∨ v.ownBlock ≠ v'.ownBlock := by
  cases hb : v.ownBlock with
  | none => exact .inl rfl
  | some g =>
    refine .inr fun e => ?_
    have a1 := (h0.lt g hb).2
    have a2 := (h1.lt g e.symm).1
    omega

end Go.Proofs.Ytndmjgaojkdmaaa
