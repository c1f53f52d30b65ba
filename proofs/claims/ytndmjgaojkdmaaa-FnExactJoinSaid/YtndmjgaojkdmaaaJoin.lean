/-
  WALKS of spec.Join and of the laws' helpers toStringS, szStringS.
-/
import Derived.Test.YtndmjgaojkdmaaaProg
import Derived.Test.YtndmjgaojkdmaaaDig
import Derived.Test.YtndmjgaojkdmaaaSplit
import Derived.Test.YtndmjgaojkdmaaaMark
namespace Go.Proofs.Ytndmjgaojkdmaaa
open Go.RowKit
set_option linter.unusedVariables false
set_option linter.unusedSimpArgs false

/-- The first k parts, joined. -/
def joinTo (ss : List ByteArray) (sep : ByteArray) : Nat → ByteArray
  | 0 => ⟨#[]⟩
  | k + 1 => (if 0 < k then joinTo ss sep k ++ sep else joinTo ss sep k) ++ ss.getD k ⟨#[]⟩
def joinB (ss : List ByteArray) (sep : ByteArray) : ByteArray := joinTo ss sep ss.length

theorem joinTo_size (ss : List ByteArray) (sep : ByteArray) (hsep : sep.size ≤ 1048576) (hss : ∀ x ∈ ss, x.size ≤ 1048576) (k : Nat) : (joinTo ss sep k).size ≤ k * 2097152 := by
  induction k with
  | zero => simp [joinTo, ByteArray.size]
  | succ k ih =>
    have h1 : (ss.getD k ⟨#[]⟩).size ≤ 1048576 := by
      rw [List.getD_eq_getElem?_getD]
      cases h : ss[k]? with
      | none => simp [ByteArray.size]
      | some x => exact hss x (List.mem_of_getElem? h)
    unfold joinTo
    split <;> simp only [ByteArray.size_append] <;> omega

set_option maxHeartbeats 400000 in
theorem spec_Join (ss : List ByteArray) (sep : ByteArray) (A : Option Addr) (n c : Nat) (w : World) (hn : ss.length = n) (hm : n ≤ 1048576) (hsep : sep.size ≤ 1048576) (hss : ∀ x ∈ ss, x.size ≤ 1048576) (hr : RowAt w A (ss.map Value.string)) :
    Calls Try.prog 21 #[.slice A n c, .string sep] w fun e w' => e = .returned (.string (joinB ss sep)) ∧ w = w' := by
  have HR := Lib.hid hr
  have HL := Lib.hid hn
  have HS := Lib.hid hss
  clear hr hn hss
  go_enter Try.func21, Try.ntmps21
  go_wp2
  go_loop [5, 10] (fun o i => ∃ (k : Nat) (y : ByteArray), k ≤ n ∧ i = .int .i64 k ∧ o = .string y ∧ Hid (joinTo ss sep k = y)) (fun _ i => n - (intOf i).toNat)
  case atStart => exact ⟨0, _, Nat.zero_le _, rfl, rfl, Lib.hid rfl⟩
  case round =>
    obtain ⟨k, y, hk, rfl, rfl, HY⟩ := hrel
    by_cases hlt : k < n
    · have hl := HL.out
      obtain ⟨g, o, rfl, hg, hc⟩ := HR.out (by simp; omega)
      obtain ⟨x, h1, hx2⟩ : ∃ x : ByteArray, w.cell? ⟨g, o + k, none⟩ = some (.string x) ∧ Hid (ss.getD k ⟨#[]⟩ = x) :=
        ⟨ss[k]'(by omega), (hc k (by simp; omega)).trans (by rw [List.getElem_map]), Lib.hid (by rw [List.getD_eq_getElem?_getD, List.getElem?_eq_getElem (by omega)]; rfl)⟩
      have hxs : x.size ≤ 1048576 := by
        have := hx2.out
        rw [List.getD_eq_getElem?_getD, List.getElem?_eq_getElem (by omega)] at this
        exact HS.out x (by rw [← this]; exact List.getElem_mem _)
      have hys : y.size ≤ 2199023255552 := by
        have := joinTo_size ss sep hsep HS.out k
        rw [HY.out] at this
        omega
      clear hc hl
      have hstep : Hid (joinTo ss sep (k + 1) = (if 0 < k then y ++ sep else y) ++ x) := Lib.hid (by rw [joinTo, hx2.out, HY.out])
      clear hx2
      by_cases h0 : 0 < k
      · rw [if_pos h0] at hstep
        have hsz : (y ++ sep).size ≤ 4398046511104 := by rw [ByteArray.size_append]; omega
        go_wp2
        go_round
        case rel => exact ⟨k + 1, _, by omega, by go_num, rfl, hstep⟩
        case measure => simp [intOf]; omega
      · rw [if_neg h0] at hstep
        have hk0 : k = 0 := by omega
        subst hk0
        rw [Nat.add_zero] at h1
        go_wp2
        go_round
        case rel => exact ⟨1, _, by omega, by go_num, rfl, hstep⟩
        case measure => simp [intOf]; omega
    · go_wp2
      go_ret
      have hkn : k = n := by omega
      subst hkn
      exact ⟨by unfold joinB; rw [HL.out, HY.out]; rfl, rfl⟩

/-- What szStringS tells where its answer is not negative. -/
def SzTells (ss : List ByteArray) (n : Nat) (r : Int) : Prop := r ≤ 1048576 ∧ -1 ≤ r ∧ (0 ≤ r → n ≤ 1048576 ∧ ∀ x ∈ ss, x.size ≤ 1048576)

set_option maxHeartbeats 400000 in
theorem szStringS_any (ss : List ByteArray) (A : Option Addr) (n c : Nat) (w : World) (hn : ss.length = n) (hm : n ≤ maxLen) (hss : ∀ x ∈ ss, x.size ≤ maxLen) (hr : RowAt w A (ss.map Value.string)) :
    Calls Try.prog 20 #[.slice A n c, .int .i64 1048576] w fun e w' => ∃ r : Int, e = .returned (.int .i64 r) ∧ SzTells ss n r ∧ w = w' := by
  unfold maxLen at hm
  have HR := Lib.hid hr
  have HL := Lib.hid hn
  have HS := Lib.hid hss
  clear hr hn hss
  by_cases hbig : n ≤ 1048576
  · go_enter Try.func20, Try.ntmps20
    go_wp2
    go_loop [1, 5] (fun l i => ∃ (k : Nat) (r : Int), k ≤ n ∧ i = .int .i64 k ∧ l = .int .i64 r ∧ 0 ≤ r ∧ r ≤ 1048576 ∧ Hid (∀ j (h : j < ss.length), j < k → ss[j].size ≤ 1048576)) (fun _ i => n - (intOf i).toNat)
    case atStart => exact ⟨0, _, Nat.zero_le _, rfl, rfl, by omega, by omega, Lib.hid fun j _ h => by omega⟩
    case round =>
      obtain ⟨k, r, hk, rfl, rfl, hr0, hr1, hall⟩ := hrel
      by_cases hlt : k < n
      · have hl := HL.out
        obtain ⟨g, o, rfl, hg, hc⟩ := HR.out (by simp; omega)
        obtain ⟨x, h1, hx2⟩ : ∃ x : ByteArray, w.cell? ⟨g, o + k, none⟩ = some (.string x) ∧ Hid (ss[k]? = some x) :=
          ⟨ss[k]'(by omega), (hc k (by simp; omega)).trans (by rw [List.getElem_map]), Lib.hid (List.getElem?_eq_getElem (by omega))⟩
        have hxs : x.size ≤ 9223372036854775807 := by
          have := HS.out x (List.mem_of_getElem? hx2.out)
          unfold maxLen at this
          omega
        clear hc hl
        by_cases hneg : r - x.size < 0
        · go_wp2
          go_ret
          exact ⟨-1, rfl, ⟨by omega, by omega, fun h => by omega⟩, rfl⟩
        · go_wp2
          go_round
          case rel =>
            refine ⟨k + 1, r - x.size, by omega, by go_num, rfl, by omega, by omega, Lib.hid fun j hj hjk => ?_⟩
            by_cases hjk2 : j < k
            · exact hall.out j hj hjk2
            · have : j = k := by omega
              subst this
              have h3 := hx2.out
              rw [List.getElem?_eq_getElem hj] at h3
              rw [Option.some.inj h3]; omega
          case measure => simp [intOf]; omega
      · go_wp2
        go_ret
        refine ⟨r, rfl, ⟨hr1, by omega, fun _ => ⟨hbig, fun x hx => ?_⟩⟩, rfl⟩
        obtain ⟨j, hj, rfl⟩ := List.mem_iff_getElem.1 hx
        exact hall.out j hj (by have := HL.out; omega)
  · go_enter Try.func20, Try.ntmps20
    go_wp2
    go_ret
    exact ⟨-1, rfl, ⟨by omega, by omega, fun h => by omega⟩, rfl⟩

theorem put_next (xs : List Value) (z : Value) (n k : Nat) (x : Value) (hx : xs[k]? = some x) (hl : xs.length = n) (hk : k < n) :
    (xs.take k ++ List.replicate (n - k) z).set k x = xs.take (k + 1) ++ List.replicate (n - (k + 1)) z := by
  have h1 : (xs.take k).length = k := by simp; omega
  rw [List.set_append, if_neg (by omega), h1, Nat.sub_self]
  obtain ⟨m, hm⟩ : ∃ m, n - k = m + 1 := ⟨n - k - 1, by omega⟩
  rw [hm, show n - (k + 1) = m from by omega, List.replicate_succ, List.set_cons_zero, List.take_add_one, hx]
  simp

set_option maxHeartbeats 400000 in
theorem toStringS_any (ss : List ByteArray) (A : Option Addr) (n c : Nat) (w : World) (hn : ss.length = n) (hm : n ≤ 1099511627776) (hr : RowAt w A (ss.map Value.string)) :
    Calls Try.prog 22 #[.slice A n c] w fun e w' => ∃ v, e = .returned v ∧ w'.ownsRow w.heap.size 9 1 v n (ss.map Value.string) ∧ Below w.heap.size w w' := by
  obtain ⟨i0, hi, hz0, hz1, hz2⟩ := info_parts Try.info9
  have hb2 : i0.bytes * n ≤ 281474976710656 := by rw [hz2]; omega
  have HR := Lib.hid hr
  have HL := Lib.hid hn
  clear hr hn
  go_enter Try.func22, Try.ntmps22
  go_wp2_with (refine wpList_make_full _ rfl _ _ 23 rfl w.heap.size 9 i0 (.string ⟨#[]⟩) 1 Try.underlying23 hi hz0 hz1 .i64 .i64 _ _ n rfl rfl rfl rfl hb2 (by unfold maxLen; omega) (Nat.le_refl _) ?_)
  intro w1 h1 g1
  rw [toList_madeCells_one] at h1
  have b1 : Below w.heap.size w w1 := (Below.refl _ w).grown g1 (Nat.le_refl _) (fun k hk => by cases hk)
  clear g1
  go_wp2
  go_loopw [4] (fun i wr => ∃ k : Nat, k ≤ n ∧ i = .int .i64 k ∧ wr.ownsRow w.heap.size 9 1 (.slice (some ⟨w.heap.size, 0, none⟩) n n) n ((ss.map Value.string).take k ++ List.replicate (n - k) (.string ⟨#[]⟩)) ∧ Below w.heap.size w wr) (fun i _ => n - (intOf i).toNat)
  case atStart => exact ⟨0, Nat.zero_le _, rfl, by simpa using h1, b1⟩
  case round =>
    obtain ⟨k, hk, rfl, hown, hbw⟩ := hrel
    by_cases hlt : k < n
    · have hl := HL.out
      obtain ⟨g, o, rfl, hg, hc⟩ := HR.out (by simp; omega)
      obtain ⟨x, h1, hx2⟩ : ∃ x : ByteArray, wr.cell? ⟨g, o + k, none⟩ = some (.string x) ∧ Hid ((ss.map Value.string)[k]? = some (.string x)) :=
        ⟨ss[k]'(by omega), (hbw.cell (p := ⟨g, o + k, none⟩) hg).trans ((hc k (by simp; omega)).trans (by rw [List.getElem_map])), Lib.hid (by rw [List.getElem?_map, List.getElem?_eq_getElem (by omega)]; rfl)⟩
      have hcell := hown.cellAt k (by omega)
      obtain ⟨y, hy⟩ : ∃ y, wr.cell? ⟨w.heap.size, k, none⟩ = some y := by
        rw [hcell]
        exact ⟨_, List.getElem?_eq_getElem (by simp; omega)⟩
      have hfz := hown.frozenAt k
      have HST := Lib.hid (hown.stored k (.string x))
      clear hc hl hcell hown
      go_wp2
      go_roundw
      case rel =>
        refine ⟨k + 1, by omega, by go_num, ?_, hbw.setCell (Nat.le_refl _) _⟩
        have h2 := HST.out.1
        rw [put_next (ss.map Value.string) (.string ⟨#[]⟩) n k _ hx2.out (by have := HL.out; simp; omega) hlt] at h2
        exact h2
      case measure => simp [intOf]; omega
    · go_wp2
      go_ret
      have hkn : k = n := by omega
      subst hkn
      refine ⟨_, rfl, ?_, hbw⟩
      have hl := HL.out
      simpa [List.take_of_length_le, hl] using hown

end Go.Proofs.Ytndmjgaojkdmaaa
