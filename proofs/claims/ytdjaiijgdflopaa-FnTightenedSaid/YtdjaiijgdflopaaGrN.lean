/-
  WALKS of the laws' helpers over slices of ints: toIntS, eqIntS, markIntS, heldIntS; a slice of ints that comes in.
-/
import Derived.Test.YtdjaiijgdflopaaGrE
import Derived.ChangeSlices
namespace Go.Proofs.Ytdjaiijgdflopaa
open Go.RowKit Go.ChangeShapes Go.WideShapes Go.ChangeAt Go.WideMaps Go.WideElems
set_option linter.unusedVariables false
set_option linter.unusedSimpArgs false

def intV (z : Int) : Value := .int .i64 z
theorem intV_eq (z : Int) : intV z = .int .i64 z := rfl
theorem cells_int1 : Try.prog.cellsOf 3 = 1 := by kernel_rfl
theorem Try.info3 : (Try.prog.info? 3).map (fun i => (i.zero, i.size, i.bytes)) = some (some (.int .i64 0), 1, 8) := by kernel_rfl

/-- A slice of ints that comes in, nil or not: the ints it reads as, and where they lie. -/
theorem ints_in {H : Type} {enc : TypeId × Value → H} {P : Program} {W : World} {t e : TypeId} {fuel n c : Nat} {A : Option Addr} {x : DataW H × List MemPlace}
    (ht : P.underlying t = some (.slice e)) (he : P.underlying e = some (.int .i64)) (hc : P.cellsOf e = 1)
    (hf : DataW.trod enc P W 0 (fun _ => true) true fuel t (Value.slice A n c).cells.toList = some x) :
    ∃ zs : List Int, zs.length = n ∧ n ≤ maxLen ∧ (∀ y ∈ zs, (Lit.int .i64 y).wf = true) ∧ RowAt W A (zs.map intV) := by
  rcases Go.ChangeShapes.open_ints ht he hc hf with ⟨hcs, _⟩ | ⟨a, len, cap, ss, hcs, _, hl, hm, hz, _, hcell, hws⟩
  · simp [Value.cells] at hcs
    obtain ⟨rfl, rfl, rfl⟩ := hcs
    exact ⟨[], rfl, Nat.zero_le _, by simp, fun h => by simp at h⟩
  · simp [Value.cells] at hcs
    obtain ⟨rfl, rfl, rfl⟩ := hcs
    have hlen : ss.length = c := by simpa using hz
    refine ⟨ss.take n, by simp; omega, by omega, fun y hy => hws y (List.mem_of_mem_take hy), fun hp => ?_⟩
    have hp2 : 0 < n := by
      simp at hp
      omega
    have h0 := hcell 0 (by omega)
    obtain ⟨b, off, spot⟩ := a
    have hspot : spot = none := by simpa [Addr.add] using World.cell?_spot h0
    subst hspot
    refine ⟨b, off, rfl, ?_, fun j hj => ?_⟩
    · rcases Nat.lt_or_ge b W.heap.size with hlt | hge
      · exact hlt
      · have : W.heap[b]? = none := Array.getElem?_eq_none hge
        simp [Addr.add, World.cell?, this] at h0
    · have hj2 : j < n ∧ j < ss.length := by
        simp at hj
        omega
      rw [← Go.WideShapes.add_plain, hcell j hj2.2, List.getElem_map, List.getElem_take, List.getD_eq_getElem?_getD, List.getElem?_eq_getElem hj2.2]
      rfl

theorem put_int (xs : List Value) (z : Value) (n k : Nat) (u : Value) (hx : xs[k]? = some u) (hn : xs.length = n) (hk : k < n) :
    (xs.take k ++ List.replicate (n - k) z).set k u = xs.take (k + 1) ++ List.replicate (n - (k + 1)) z := by
  have h1 : (xs.take k).length = k := by simp; omega
  have e : n - k = (n - (k + 1)) + 1 := by omega
  rw [List.set_append_right _ _ (by omega), h1, Nat.sub_self, e, List.replicate_succ, List.set_cons_zero, List.take_add_one, hx]
  simp

set_option maxRecDepth 100000 in
set_option maxHeartbeats 400000 in
theorem toIntS_any (zs : List Int) (A : Option Addr) (n c : Nat) (w : World) (hn : zs.length = n) (hm : n ≤ 1099511627776) (hr : RowAt w A (zs.map intV)) :
    Calls Try.prog 73 #[.slice A n c] w fun e w' => ∃ v, e = .returned v ∧ w'.ownsRow w.heap.size 3 1 v n (zs.map intV) ∧ Below w.heap.size w w' := by
  obtain ⟨i0, hi, hz0, hz1, hz2⟩ := info_parts Try.info3
  have hb2 : i0.bytes * n ≤ 281474976710656 := by rw [hz2]; omega
  have HR := Lib.hid hr
  have HL := Lib.hid hn
  clear hr hn
  go_enter Try.func73, Try.ntmps73
  go_wp2_with (refine wpList_make_full _ rfl _ _ 27 rfl w.heap.size 3 i0 (.int .i64 0) 1 Try.underlying27 hi hz0 hz1 .i64 .i64 _ _ n rfl rfl rfl rfl hb2 (by unfold maxLen; omega) (Nat.le_refl _) ?_)
  intro w1 h1 g1
  rw [toList_madeCells_one] at h1
  have b1 : Below w.heap.size w w1 := (Below.refl _ w).grown g1 (Nat.le_refl _) (fun k hk => by cases hk)
  clear g1
  go_wp2
  go_loopw [4] (fun i wr => ∃ k : Nat, k ≤ n ∧ i = .int .i64 k ∧ wr.ownsRow w.heap.size 3 1 (.slice (some ⟨w.heap.size, 0, none⟩) n n) n ((zs.map intV).take k ++ List.replicate (n - k) (.int .i64 0)) ∧ Below w.heap.size w wr) (fun i _ => n - (intOf i).toNat)
  case atStart => exact ⟨0, Nat.zero_le _, rfl, by simpa using h1, b1⟩
  case round =>
    obtain ⟨k, hk, rfl, hown, hbw⟩ := hrel
    by_cases hlt : k < n
    · have hl := HL.out
      obtain ⟨g, o, rfl, hg, hc⟩ := HR.out (by simp; omega)
      obtain ⟨x, h1, hx2⟩ : ∃ x : Int, wr.cell? ⟨g, o + k, none⟩ = some (.int .i64 x) ∧ Hid ((zs.map intV)[k]? = some (.int .i64 x)) :=
        ⟨zs[k]'(by omega), (hbw.cell (p := ⟨g, o + k, none⟩) hg).trans ((hc k (by simp; omega)).trans (by rw [List.getElem_map]; rfl)), Lib.hid (by rw [List.getElem?_map, List.getElem?_eq_getElem (by omega)]; rfl)⟩
      have hcell := hown.cellAt k (by omega)
      obtain ⟨y, hy⟩ : ∃ y, wr.cell? ⟨w.heap.size, k, none⟩ = some y := by
        rw [hcell]
        exact ⟨_, List.getElem?_eq_getElem (by simp; omega)⟩
      have hfz := hown.frozenAt k
      have HST := Lib.hid (hown.stored k (.int .i64 x))
      clear hc hl hcell hown
      go_wp2
      go_roundw
      case rel =>
        refine ⟨k + 1, by omega, by go_num, ?_, hbw.setCell (Nat.le_refl _) _⟩
        have h2 := HST.out.1
        rw [put_int (zs.map intV) (.int .i64 0) n k _ hx2.out (by have := HL.out; simp; omega) hlt] at h2
        exact h2
      case measure => simp [intOf]; omega
    · go_wp2
      go_ret
      have hkn : k = n := by omega
      subst hkn
      refine ⟨_, rfl, ?_, hbw⟩
      have hl := HL.out
      simpa [List.take_of_length_le, hl] using hown

set_option maxRecDepth 100000 in
set_option maxHeartbeats 400000 in
theorem eqIntS_same (zs : List Int) (A B : Option Addr) (n ca cb : Nat) (w : World) (hn : zs.length = n) (hm : n ≤ maxLen) (ha : RowAt w A (zs.map intV)) (hb : RowAt w B (zs.map intV)) :
    Calls Try.prog 74 #[.slice A n ca, .slice B n cb] w fun e w' => e = .returned (.bool true) ∧ ∃ q, w' = w.drewN q := by
  unfold maxLen at hm
  have HA := Lib.hid ha
  have HB := Lib.hid hb
  have HL := Lib.hid hn
  clear ha hb hn
  have hne : ((n : Int) != (n : Int)) = false := by simp
  go_enter Try.func74, Try.ntmps74
  go_wp2
  go_loopw [5] (fun i wr => ∃ k : Nat, k ≤ n ∧ i = .int .i64 k ∧ ∃ q, wr = w.drewN q) (fun i _ => n - (intOf i).toNat)
  case atStart => exact ⟨0, Nat.zero_le _, rfl, 0, rfl⟩
  case round =>
    obtain ⟨k, hk, rfl, q, rfl⟩ := hrel
    by_cases hlt : k < n
    · have hl := HL.out
      obtain ⟨g, o, rfl, hg, hc⟩ := HA.out (by simp; omega)
      obtain ⟨g', o', rfl, hg', hc'⟩ := HB.out (by simp; omega)
      obtain ⟨x, h1, h2⟩ : ∃ x : Int, w.cell? ⟨g, o + k, none⟩ = some (.int .i64 x) ∧ w.cell? ⟨g', o' + k, none⟩ = some (.int .i64 x) :=
        ⟨zs[k]'(by omega), (hc k (by simp; omega)).trans (by rw [List.getElem_map]; rfl), (hc' k (by simp; omega)).trans (by rw [List.getElem_map]; rfl)⟩
      clear hc hc' hl
      have hxx : ((x : Int) != x) = false := by simp
      go_wp2
      go_quiet (fail)
      go_wp2
      go_roundw
      case rel => exact ⟨k + 1, by omega, by go_num, q + nq, rfl⟩
      case measure => simp [intOf]; omega
    · go_wp2
      go_ret
      exact ⟨rfl, q, rfl⟩

def imarks (k n : Nat) : List Value := (List.range n).map fun i => intV ((k + i : Nat) : Int)
theorem imarks_length (k n : Nat) : (imarks k n).length = n := by simp [imarks]
theorem imarks_at (k n j : Nat) (h : j < (imarks k n).length) : (imarks k n)[j] = .int .i64 ((k + j : Nat) : Int) := by simp [imarks, intV]
theorem imarks_step (k j : Nat) (xs : List Value) (h : j < xs.length) : (imarks k j ++ xs.drop j).set j (.int .i64 ((k + j : Nat) : Int)) = imarks k (j + 1) ++ xs.drop (j + 1) := by
  have e : imarks k (j + 1) = imarks k j ++ [.int .i64 ((k + j : Nat) : Int)] := by simp [imarks, List.range_succ, intV]
  have h1 : (imarks k j).length = j := imarks_length k j
  rw [e, List.set_append, if_neg (by omega), h1, Nat.sub_self, List.append_assoc, List.drop_eq_getElem_cons h]
  rfl

set_option maxRecDepth 100000 in
set_option maxHeartbeats 400000 in
theorem markIntS_any (A : Option Addr) (n c B k : Nat) (xs : List Value) (w : World) (hk : 0 < k) (hn : k + n ≤ 1099511627776) (hown : w.ownsRow B 3 1 (.slice A n c) n xs) :
    Calls Try.prog 81 #[.slice A n c, .int .i64 k] w fun e w' => e = .returned (.int .i64 ((k : Int) + n)) ∧ w'.ownsRow B 3 1 (.slice A n c) n (imarks k n) ∧ w.grownBy w' (Value.slice A n c).ownBlock := by
  have HO := Lib.hid hown
  have hl0 : xs.length = n := by simpa using hown.1
  have HL := Lib.hid hl0
  clear hown hl0
  go_enter Try.func81, Try.ntmps81
  go_wp2
  go_loopw [1, 5] (fun kk i wr => ∃ j : Nat, j ≤ n ∧ i = .int .i64 j ∧ kk = .int .i64 ((k : Int) + j) ∧ wr.ownsRow B 3 1 (.slice A n c) n (imarks k j ++ xs.drop j) ∧ w.grownBy wr (Value.slice A n c).ownBlock) (fun _ i _ => n - (intOf i).toNat)
  case atStart => exact ⟨0, Nat.zero_le _, rfl, by simp, by simpa [imarks] using HO.out, World.grownBy.refl _ _⟩
  case round =>
    obtain ⟨j, hj, rfl, rfl, hown, hgr⟩ := hrel
    by_cases hlt : j < n
    · obtain ⟨g, cap, hA, hBg, hg⟩ := hown.form (by omega)
      obtain ⟨rfl, rfl⟩ : A = some ⟨g, 0, none⟩ ∧ c = cap := by simpa using hA
      clear hA
      have hcell := hown.cellAt j (by omega)
      obtain ⟨y, hy⟩ : ∃ y, wr.cell? ⟨g, j, none⟩ = some y := by
        rw [hcell]
        have hl := HL.out
        exact ⟨_, List.getElem?_eq_getElem (by simp [imarks_length]; omega)⟩
      have hfz := hown.frozenAt j
      have HS := Lib.hid (hown.stored j (.int .i64 ((k + j : Nat) : Int)))
      have HG := Lib.hid hgr
      clear hown hgr hcell
      go_wp2
      go_roundw
      case rel =>
        have hl := HL.out
        have h1 := HS.out.1
        rw [imarks_step k j xs (by omega)] at h1
        refine ⟨j + 1, by omega, by go_num, by rw [show ((j + 1 : Nat) : Int) = (j : Int) + 1 from by omega, Int.add_assoc], h1, ?_⟩
        exact grown_trans HG.out HS.out.2
      case measure => simp [intOf]; omega
    · go_wp2
      go_ret
      have hjn : j = n := by omega
      subst hjn
      have hl := HL.out
      refine ⟨rfl, ?_, hgr⟩
      simpa [← hl] using hown

set_option maxRecDepth 100000 in
set_option maxHeartbeats 400000 in
theorem heldIntS_any (A : Option Addr) (n c k : Nat) (w : World) (hk : 0 < k) (hn : k + n ≤ 1099511627776) (hrow : RowAt w A (imarks k n)) :
    Calls Try.prog 82 #[.slice A n c, .int .i64 k] w fun e w' => e = .returned (.int .i64 ((k : Int) + n)) ∧ w' = w := by
  have HO := Lib.hid hrow
  clear hrow
  go_enter Try.func82, Try.ntmps82
  go_wp2
  go_loop [1, 5] (fun kk i => ∃ j : Nat, j ≤ n ∧ i = .int .i64 j ∧ kk = .int .i64 ((k : Int) + j)) (fun _ i => n - (intOf i).toNat)
  case atStart => exact ⟨0, Nat.zero_le _, rfl, by simp⟩
  case round =>
    obtain ⟨j, hj, rfl, rfl⟩ := hrel
    by_cases hlt : j < n
    · obtain ⟨g, o, rfl, hg, hc⟩ := HO.out (by rw [imarks_length]; omega)
      have hc1 := (hc j (by rw [imarks_length]; omega)).trans (by rw [imarks_at])
      clear hc
      rw [show ((k + j : Nat) : Int) = (k : Int) + j from by omega] at hc1
      have hxx : (((k : Int) + j) != ((k : Int) + j)) = false := by simp
      go_wp2
      go_round
      case rel => exact ⟨j + 1, by omega, by go_num, by rw [show ((j + 1 : Nat) : Int) = (j : Int) + 1 from by omega, Int.add_assoc]⟩
      case measure => simp [intOf]; omega
    · go_wp2
      go_ret
      have hjn : j = n := by omega
      subst hjn
      exact ⟨rfl, rfl⟩

theorem own_row {w : World} {B e n c : Nat} {A : Option Addr} {xs : List Value} (h : w.ownsRow B e 1 (.slice A n c) n xs) : RowAt w A xs := by
  obtain ⟨A', c', hv, _, hr⟩ := own_form h
  injection hv with hA
  rw [hA]; exact hr

end Go.Proofs.Ytdjaiijgdflopaa
