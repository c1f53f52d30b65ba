/-
  WALKS of the laws' helpers over slices of ints: toIntS, eqIntS, markIntS, heldIntS; a slice of ints that comes in.
  WALK of spec.l05Edges: the edges of links, and the links from which they come.
  WALKS of markEdgeS, markGraph.
  TABLES: a table that comes in; WALKS of the laws' helpers over tables: szIntS, szTable, toTable, eqTable, markTable, heldTable.
  WALK of impl.GraphOk: a graph that is one.
  WALKS of hasEdge, sumOf, spec.PathWeight and impl.PathWeight: the sum of the weights of the edges with these indices.
  WALKS of spec.PathWeight and impl.PathWeight.
-/
import Derived.Test.YteppmlepbfjnpaaBdIvOk
import Derived.ChangeSlices
import Derived.Deep.AppendLies
import Derived.Test.YteppmlepbfjnpaaBdDig
import Derived.Lib.SmallJoins
import Derived.Deep.Slices
namespace Go.Proofs.Yteppmlepbfjnpaa
open Go.RowKit Go.ChangeShapes Go.WideShapes Go.ChangeAt Go.WideMaps Go.WideElems
set_option linter.unusedVariables false
set_option linter.unusedSimpArgs false

def intV (z : Int) : Value := .int .i64 z
theorem intV_eq (z : Int) : intV z = .int .i64 z := rfl
theorem cells_int1 : Try.prog.cellsOf 3 = 1 := by kernel_rfl
theorem Try.info3 : (Try.prog.info? 3).map (fun i => (i.zero, i.size, i.bytes)) = some (some (.int .i64 0), 1, 8) := by kernel_rfl

/-- A slice of ints that comes in, nil or not: the ints it reads as, and where they lie. -/
theorem ints_in {H : Type} {enc : TypeId × Value → H} {P : Program} {W : World} {t e : TypeId} {fuel n c : Nat} {A : Option Addr} {x : DataW H × List MemPlace}
    (ht : P.underlying t = some (.slice e)) (he : P.underlying e = some (.int .i64)) (hc : P.cellsOf e = 1)
    (hf : DataW.trod enc P W 0 (fun _ => true) true fuel t (Value.slice A n c).cells.toList = some x) :
    ∃ zs : List Int, zs.length = n ∧ n ≤ maxLen ∧ (∀ y ∈ zs, (Lit.int .i64 y).wf = true) ∧ RowAt W A (zs.map intV) := by
  rcases Go.ChangeShapes.open_ints ht he hc hf with ⟨hcs, _⟩ | ⟨a, len, cap, ss, hcs, _, hl, hm, hz, _, hcell, hws⟩
  · simp [Value.cells] at hcs
    obtain ⟨rfl, rfl, rfl⟩ := hcs
    exact ⟨[], rfl, Nat.zero_le _, by simp, fun h => by simp at h⟩
  · simp [Value.cells] at hcs
    obtain ⟨rfl, rfl, rfl⟩ := hcs
    have hlen : ss.length = c := by simpa using hz
    refine ⟨ss.take n, by simp; omega, by omega, fun y hy => hws y (List.mem_of_mem_take hy), fun hp => ?_⟩
    have hp2 : 0 < n := by
      simp at hp
      omega
    have h0 := hcell 0 (by omega)
    obtain ⟨b, off, spot⟩ := a
    have hspot : spot = none := by simpa [Addr.add] using World.cell?_spot h0
    subst hspot
    refine ⟨b, off, rfl, ?_, fun j hj => ?_⟩
    · rcases Nat.lt_or_ge b W.heap.size with hlt | hge
      · exact hlt
      · have : W.heap[b]? = none := Array.getElem?_eq_none hge
        simp [Addr.add, World.cell?, this] at h0
    · have hj2 : j < n ∧ j < ss.length := by
        simp at hj
        omega
      rw [← Go.WideShapes.add_plain, hcell j hj2.2, List.getElem_map, List.getElem_take, List.getD_eq_getElem?_getD, List.getElem?_eq_getElem hj2.2]
      rfl

theorem put_int (xs : List Value) (z : Value) (n k : Nat) (u : Value) (hx : xs[k]? = some u) (hn : xs.length = n) (hk : k < n) :
    (xs.take k ++ List.replicate (n - k) z).set k u = xs.take (k + 1) ++ List.replicate (n - (k + 1)) z := by
  have h1 : (xs.take k).length = k := by simp; omega
  have e : n - k = (n - (k + 1)) + 1 := by omega
  rw [List.set_append_right _ _ (by omega), h1, Nat.sub_self, e, List.replicate_succ, List.set_cons_zero, List.take_add_one, hx]
  simp

set_option maxRecDepth 100000 in
set_option maxHeartbeats 400000 in
theorem toIntS_any (zs : List Int) (A : Option Addr) (n c : Nat) (w : World) (hn : zs.length = n) (hm : n ≤ 1099511627776) (hr : RowAt w A (zs.map intV)) :
    Calls Try.prog 28 #[.slice A n c] w fun e w' => ∃ v, e = .returned v ∧ w'.ownsRow w.heap.size 3 1 v n (zs.map intV) ∧ Below w.heap.size w w' := by
  obtain ⟨i0, hi, hz0, hz1, hz2⟩ := info_parts Try.info3
  have hb2 : i0.bytes * n ≤ 281474976710656 := by rw [hz2]; omega
  have HR := Lib.hid hr
  have HL := Lib.hid hn
  clear hr hn
  go_enter Try.func28, Try.ntmps28
  go_wp2_with (refine wpList_make_full _ rfl _ _ 33 rfl w.heap.size 3 i0 (.int .i64 0) 1 Try.underlying33 hi hz0 hz1 .i64 .i64 _ _ n rfl rfl rfl rfl hb2 (by unfold maxLen; omega) (Nat.le_refl _) ?_)
  intro w1 h1 g1
  rw [toList_madeCells_one] at h1
  have b1 : Below w.heap.size w w1 := (Below.refl _ w).grown g1 (Nat.le_refl _) (fun k hk => by cases hk)
  clear g1
  go_wp2
  go_loopw [4] (fun i wr => ∃ k : Nat, k ≤ n ∧ i = .int .i64 k ∧ wr.ownsRow w.heap.size 3 1 (.slice (some ⟨w.heap.size, 0, none⟩) n n) n ((zs.map intV).take k ++ List.replicate (n - k) (.int .i64 0)) ∧ Below w.heap.size w wr) (fun i _ => n - (intOf i).toNat)
  case atStart => exact ⟨0, Nat.zero_le _, rfl, by simpa using h1, b1⟩
  case round =>
    obtain ⟨k, hk, rfl, hown, hbw⟩ := hrel
    by_cases hlt : k < n
    · have hl := HL.out
      obtain ⟨g, o, rfl, hg, hc⟩ := HR.out (by simp; omega)
      obtain ⟨x, h1, hx2⟩ : ∃ x : Int, wr.cell? ⟨g, o + k, none⟩ = some (.int .i64 x) ∧ Hid ((zs.map intV)[k]? = some (.int .i64 x)) :=
        ⟨zs[k]'(by omega), (hbw.cell (p := ⟨g, o + k, none⟩) hg).trans ((hc k (by simp; omega)).trans (by rw [List.getElem_map]; rfl)), Lib.hid (by rw [List.getElem?_map, List.getElem?_eq_getElem (by omega)]; rfl)⟩
      have hcell := hown.cellAt k (by omega)
      obtain ⟨y, hy⟩ : ∃ y, wr.cell? ⟨w.heap.size, k, none⟩ = some y := by
        rw [hcell]
        exact ⟨_, List.getElem?_eq_getElem (by simp; omega)⟩
      have hfz := hown.frozenAt k
      have HST := Lib.hid (hown.stored k (.int .i64 x))
      clear hc hl hcell hown
      go_wp2
      go_roundw
      case rel =>
        refine ⟨k + 1, by omega, by go_num, ?_, hbw.setCell (Nat.le_refl _) _⟩
        have h2 := HST.out.1
        rw [put_int (zs.map intV) (.int .i64 0) n k _ hx2.out (by have := HL.out; simp; omega) hlt] at h2
        exact h2
      case measure => simp [intOf]; omega
    · go_wp2
      go_ret
      have hkn : k = n := by omega
      subst hkn
      refine ⟨_, rfl, ?_, hbw⟩
      have hl := HL.out
      simpa [List.take_of_length_le, hl] using hown

set_option maxRecDepth 100000 in
set_option maxHeartbeats 400000 in
theorem eqIntS_same (zs : List Int) (A B : Option Addr) (n ca cb : Nat) (w : World) (hn : zs.length = n) (hm : n ≤ maxLen) (ha : RowAt w A (zs.map intV)) (hb : RowAt w B (zs.map intV)) :
    Calls Try.prog 30 #[.slice A n ca, .slice B n cb] w fun e w' => e = .returned (.bool true) ∧ ∃ q, w' = w.drewN q := by
  unfold maxLen at hm
  have HA := Lib.hid ha
  have HB := Lib.hid hb
  have HL := Lib.hid hn
  clear ha hb hn
  have hne : ((n : Int) != (n : Int)) = false := by simp
  go_enter Try.func30, Try.ntmps30
  go_wp2
  go_loopw [5] (fun i wr => ∃ k : Nat, k ≤ n ∧ i = .int .i64 k ∧ ∃ q, wr = w.drewN q) (fun i _ => n - (intOf i).toNat)
  case atStart => exact ⟨0, Nat.zero_le _, rfl, 0, rfl⟩
  case round =>
    obtain ⟨k, hk, rfl, q, rfl⟩ := hrel
    by_cases hlt : k < n
    · have hl := HL.out
      obtain ⟨g, o, rfl, hg, hc⟩ := HA.out (by simp; omega)
      obtain ⟨g', o', rfl, hg', hc'⟩ := HB.out (by simp; omega)
      obtain ⟨x, h1, h2⟩ : ∃ x : Int, w.cell? ⟨g, o + k, none⟩ = some (.int .i64 x) ∧ w.cell? ⟨g', o' + k, none⟩ = some (.int .i64 x) :=
        ⟨zs[k]'(by omega), (hc k (by simp; omega)).trans (by rw [List.getElem_map]; rfl), (hc' k (by simp; omega)).trans (by rw [List.getElem_map]; rfl)⟩
      clear hc hc' hl
      have hxx : ((x : Int) != x) = false := by simp
      go_wp2
      go_quiet (fail)
      go_wp2
      go_roundw
      case rel => exact ⟨k + 1, by omega, by go_num, q + nq, rfl⟩
      case measure => simp [intOf]; omega
    · go_wp2
      go_ret
      exact ⟨rfl, q, rfl⟩

def imarks (k n : Nat) : List Value := (List.range n).map fun i => intV ((k + i : Nat) : Int)
theorem imarks_length (k n : Nat) : (imarks k n).length = n := by simp [imarks]
theorem imarks_at (k n j : Nat) (h : j < (imarks k n).length) : (imarks k n)[j] = .int .i64 ((k + j : Nat) : Int) := by simp [imarks, intV]
theorem imarks_step (k j : Nat) (xs : List Value) (h : j < xs.length) : (imarks k j ++ xs.drop j).set j (.int .i64 ((k + j : Nat) : Int)) = imarks k (j + 1) ++ xs.drop (j + 1) := by
  have e : imarks k (j + 1) = imarks k j ++ [.int .i64 ((k + j : Nat) : Int)] := by simp [imarks, List.range_succ, intV]
  have h1 : (imarks k j).length = j := imarks_length k j
  rw [e, List.set_append, if_neg (by omega), h1, Nat.sub_self, List.append_assoc, List.drop_eq_getElem_cons h]
  rfl

set_option maxRecDepth 100000 in
set_option maxHeartbeats 400000 in
theorem markIntS_any (A : Option Addr) (n c B k : Nat) (xs : List Value) (w : World) (hk : 0 < k) (hn : k + n ≤ 1099511627776) (hown : w.ownsRow B 3 1 (.slice A n c) n xs) :
    Calls Try.prog 33 #[.slice A n c, .int .i64 k] w fun e w' => e = .returned (.int .i64 ((k : Int) + n)) ∧ w'.ownsRow B 3 1 (.slice A n c) n (imarks k n) ∧ w.grownBy w' (Value.slice A n c).ownBlock := by
  have HO := Lib.hid hown
  have hl0 : xs.length = n := by simpa using hown.1
  have HL := Lib.hid hl0
  clear hown hl0
  go_enter Try.func33, Try.ntmps33
  go_wp2
  go_loopw [1, 5] (fun kk i wr => ∃ j : Nat, j ≤ n ∧ i = .int .i64 j ∧ kk = .int .i64 ((k : Int) + j) ∧ wr.ownsRow B 3 1 (.slice A n c) n (imarks k j ++ xs.drop j) ∧ w.grownBy wr (Value.slice A n c).ownBlock) (fun _ i _ => n - (intOf i).toNat)
  case atStart => exact ⟨0, Nat.zero_le _, rfl, by simp, by simpa [imarks] using HO.out, World.grownBy.refl _ _⟩
  case round =>
    obtain ⟨j, hj, rfl, rfl, hown, hgr⟩ := hrel
    by_cases hlt : j < n
    · obtain ⟨g, cap, hA, hBg, hg⟩ := hown.form (by omega)
      obtain ⟨rfl, rfl⟩ : A = some ⟨g, 0, none⟩ ∧ c = cap := by simpa using hA
      clear hA
      have hcell := hown.cellAt j (by omega)
      obtain ⟨y, hy⟩ : ∃ y, wr.cell? ⟨g, j, none⟩ = some y := by
        rw [hcell]
        have hl := HL.out
        exact ⟨_, List.getElem?_eq_getElem (by simp [imarks_length]; omega)⟩
      have hfz := hown.frozenAt j
      have HS := Lib.hid (hown.stored j (.int .i64 ((k + j : Nat) : Int)))
      have HG := Lib.hid hgr
      clear hown hgr hcell
      go_wp2
      go_roundw
      case rel =>
        have hl := HL.out
        have h1 := HS.out.1
        rw [imarks_step k j xs (by omega)] at h1
        refine ⟨j + 1, by omega, by go_num, by rw [show ((j + 1 : Nat) : Int) = (j : Int) + 1 from by omega, Int.add_assoc], h1, ?_⟩
        exact grown_trans HG.out HS.out.2
      case measure => simp [intOf]; omega
    · go_wp2
      go_ret
      have hjn : j = n := by omega
      subst hjn
      have hl := HL.out
      refine ⟨rfl, ?_, hgr⟩
      simpa [← hl] using hown

set_option maxRecDepth 100000 in
set_option maxHeartbeats 400000 in
theorem heldIntS_any (A : Option Addr) (n c k : Nat) (w : World) (hk : 0 < k) (hn : k + n ≤ 1099511627776) (hrow : RowAt w A (imarks k n)) :
    Calls Try.prog 39 #[.slice A n c, .int .i64 k] w fun e w' => e = .returned (.int .i64 ((k : Int) + n)) ∧ w' = w := by
  have HO := Lib.hid hrow
  clear hrow
  go_enter Try.func39, Try.ntmps39
  go_wp2
  go_loop [1, 5] (fun kk i => ∃ j : Nat, j ≤ n ∧ i = .int .i64 j ∧ kk = .int .i64 ((k : Int) + j)) (fun _ i => n - (intOf i).toNat)
  case atStart => exact ⟨0, Nat.zero_le _, rfl, by simp⟩
  case round =>
    obtain ⟨j, hj, rfl, rfl⟩ := hrel
    by_cases hlt : j < n
    · obtain ⟨g, o, rfl, hg, hc⟩ := HO.out (by rw [imarks_length]; omega)
      have hc1 := (hc j (by rw [imarks_length]; omega)).trans (by rw [imarks_at])
      clear hc
      rw [show ((k + j : Nat) : Int) = (k : Int) + j from by omega] at hc1
      have hxx : (((k : Int) + j) != ((k : Int) + j)) = false := by simp
      go_wp2
      go_round
      case rel => exact ⟨j + 1, by omega, by go_num, by rw [show ((j + 1 : Nat) : Int) = (j : Int) + 1 from by omega, Int.add_assoc]⟩
      case measure => simp [intOf]; omega
    · go_wp2
      go_ret
      have hjn : j = n := by omega
      subst hjn
      exact ⟨rfl, rfl⟩

theorem own_row {w : World} {B e n c : Nat} {A : Option Addr} {xs : List Value} (h : w.ownsRow B e 1 (.slice A n c) n xs) : RowAt w A xs := by
  obtain ⟨A', c', hv, _, hr⟩ := own_form h
  injection hv with hA
  rw [hA]; exact hr

end Go.Proofs.Yteppmlepbfjnpaa

namespace Go.Proofs.Yteppmlepbfjnpaa
open Go.RowKit
set_option linter.unusedVariables false
set_option linter.unusedSimpArgs false

def lkH (e : GL) : List GE := if e.h = 1000000 then [] else [⟨e.f, e.t, e.h⟩]
def lkL (e : GL) : List GE := if e.l = -1000000 then [] else [⟨e.t, e.f, -e.l⟩]
def lkE (e : GL) : List GE := lkH e ++ lkL e
/-- The edges of the links. -/
def gE (es : List GL) : List GE := es.flatMap lkE
/-- The index i for each edge of a link. -/
def lkI (e : GL) (i : Int) : List Int := (if e.h = 1000000 then [] else [i]) ++ (if e.l = -1000000 then [] else [i])
def fromJ (es : List GL) : Nat → List Int
  | 0 => []
  | j + 1 => fromJ es j ++ (match es[j]? with | some e => lkI e (j : Int) | none => [])
def gI (es : List GL) : List Int := fromJ es es.length
theorem lkE_length (e : GL) (i : Int) : (lkE e).length = (lkI e i).length ∧ (lkE e).length ≤ 2 := by
  unfold lkE lkH lkL lkI; split <;> split <;> simp
theorem gE_next {es : List GL} {j : Nat} {e : GL} (h : es[j]? = some e) : gE (es.take (j + 1)) = gE (es.take j) ++ lkE e := by
  have : es.take (j + 1) = es.take j ++ [e] := by rw [List.take_add_one, h]; rfl
  unfold gE; rw [this, List.flatMap_append]; simp
theorem fromJ_next {es : List GL} {j : Nat} {e : GL} (h : es[j]? = some e) : fromJ es (j + 1) = fromJ es j ++ lkI e j := by
  conv => lhs; unfold fromJ
  rw [h]
theorem gE_length (es : List GL) : ∀ j, j ≤ es.length → (gE (es.take j)).length ≤ 2 * j ∧ (fromJ es j).length = (gE (es.take j)).length
  | 0, _ => by simp [gE, fromJ]
  | j + 1, h => by
    have he : es[j]? = some es[j] := List.getElem?_eq_getElem (by omega)
    have ⟨h1, h2⟩ := gE_length es j (by omega)
    have ⟨h3, h4⟩ := lkE_length es[j] (j : Int)
    rw [gE_next he, fromJ_next he, List.length_append, List.length_append]
    omega
theorem okL_wrap {l h : Int} (k : okI l h = true) : IntKind.i64.wrap (-l) = -l := by
  have := okI_of k
  exact (IntWalk.i64_left _).trans (by unfold wrap64; omega)

/-- Two rows of memory of their own, apart from each other, beside the network's box and a link's box. -/
structure TwoRows (w W : World) (n : Int) (A : Option Addr) (k c b7 : Nat) (e : GL) (va : Value) (sa : Nat) (E : List GE) (vb : Value) (sb : Nat) (T : List Int) : Prop where
  rowE : W.ownsRow (w.heap.size + 1) 110 3 va sa (cellsE E)
  rowT : W.ownsRow (w.heap.size + 1) 3 1 vb sb (T.map intV)
  apart : ∀ q, va.ownBlock = some q → vb.ownBlock ≠ some q
  offE : ∀ q, va.ownBlock = some q → q ≠ b7
  offT : ∀ q, vb.ownBlock = some q → q ≠ b7
  c0 : W.cell? ⟨w.heap.size, 0, none⟩ = some (.int .i64 n)
  c1 : W.cell? ⟨w.heap.size, 1, none⟩ = some (.slice A k c)
  l0 : W.cell? ⟨b7, 0, none⟩ = some (.int .i64 e.f)
  l1 : W.cell? ⟨b7, 1, none⟩ = some (.int .i64 e.t)
  l2 : W.cell? ⟨b7, 2, none⟩ = some (.int .i64 e.l)
  l3 : W.cell? ⟨b7, 3, none⟩ = some (.int .i64 e.h)
  lt : w.heap.size < b7
  b7lt : b7 < W.heap.size
  below : Below w.heap.size w W
theorem TwoRows.alloc {w W : World} {n : Int} {A : Option Addr} {k c b7 : Nat} {e : GL} {va vb : Value} {sa sb : Nat} {E : List GE} {T : List Int} (h : TwoRows w W n A k c b7 e va sa E vb sb T) (o : Obj) : TwoRows w (W.alloc o) n A k c b7 e va sa E vb sb T := by
  have hs : w.heap.size < W.heap.size := Nat.lt_trans h.lt h.b7lt
  have hc : ∀ (q j : Nat), q < W.heap.size → (W.alloc o).cell? ⟨q, j, none⟩ = W.cell? ⟨q, j, none⟩ := fun q j hq => ((Below.refl W.heap.size W).alloc (Nat.le_refl _) o).cell hq
  exact ⟨h.rowE.alloc o, h.rowT.alloc o, h.apart, h.offE, h.offT, (hc _ _ hs).trans h.c0, (hc _ _ hs).trans h.c1, (hc _ _ h.b7lt).trans h.l0, (hc _ _ h.b7lt).trans h.l1, (hc _ _ h.b7lt).trans h.l2, (hc _ _ h.b7lt).trans h.l3, h.lt, by have := h.b7lt; simp; omega, h.below.alloc h.below.size o⟩
theorem grown_cellS {w w' : World} {row : Option Nat} (hg : w.grownBy w' row) {b o : Nat} {v : Value} (h : w.cell? ⟨b, o, none⟩ = some v) (hr : row ≠ some b) : w'.cell? ⟨b, o, none⟩ = some v :=
  (World.cell?_of_block (a := ⟨b, o, none⟩) (hg.block b (block_lt_of_cell (a := ⟨b, o, none⟩) h) (fun e => hr e.symm))).trans h
/-- Behind a growth of the first row. -/
theorem TwoRows.growE {w W W' : World} {n : Int} {A : Option Addr} {k c b7 : Nat} {e : GL} {va vb : Value} {sa sb g cap : Nat} {E : List GE} {T : List Int} {x y z : Int} (h : TwoRows w W n A k c b7 e va sa E vb sb T)
    (ho : W'.ownsRow (w.heap.size + 1) 110 3 (.slice (some ⟨g, 0, none⟩) (sa + 1) cap) (sa + 1) (cellsE E ++ [.int .i64 x, .int .i64 y, .int .i64 z])) (hg : W.grownBy W' va.ownBlock) (hat : va.ownBlock = some g ∨ g = W.heap.size) :
    TwoRows w W' n A k c b7 e (.slice (some ⟨g, 0, none⟩) (sa + 1) cap) (sa + 1) (E ++ [⟨x, y, z⟩]) vb sb T := by
  have ltE := h.rowE.lt
  have ltT := h.rowT.lt
  have hs : w.heap.size < W.heap.size := Nat.lt_trans h.lt h.b7lt
  have gc : ∀ (q j : Nat) (v : Value), W.cell? ⟨q, j, none⟩ = some v → va.ownBlock ≠ some q → W'.cell? ⟨q, j, none⟩ = some v := fun q j v hv hne => grown_cellS hg hv hne
  have n0 : va.ownBlock ≠ some w.heap.size := fun hq => by have := (ltE _ hq).1; omega
  have n7 : va.ownBlock ≠ some b7 := fun hq => h.offE _ hq rfl
  have hE : cellsE E ++ [.int .i64 x, .int .i64 y, .int .i64 z] = cellsE (E ++ [⟨x, y, z⟩]) := by rw [cellsE_append]; simp [cellsE, GE.cells]
  refine ⟨hE ▸ ho, h.rowT.kept hg ?_, ?_, ?_, h.offT, gc _ _ _ h.c0 n0, gc _ _ _ h.c1 n0, gc _ _ _ h.l0 n7, gc _ _ _ h.l1 n7, gc _ _ _ h.l2 n7, gc _ _ _ h.l3 n7, h.lt, Nat.lt_of_lt_of_le h.b7lt hg.size, h.below.grown hg h.below.size (fun q hq => by have := (ltE _ hq).1; omega)⟩
  · cases hb : vb.ownBlock with
    | none => exact .inl rfl
    | some q => exact .inr (fun e => h.apart q e.symm hb)
  · intro q hq hb
    have hgq : g = q := by simpa [Value.ownBlock] using hq
    subst hgq
    rcases hat with h1 | h1
    · exact h.apart _ h1 hb
    · have := (ltT _ hb).2; omega
  · intro q hq
    have hgq : g = q := by simpa [Value.ownBlock] using hq
    subst hgq
    rcases hat with h1 | h1
    · exact h.offE _ h1
    · have := h.b7lt; omega
/-- Behind a growth of the second row. -/
theorem TwoRows.growT {w W W' : World} {n : Int} {A : Option Addr} {k c b7 : Nat} {e : GL} {va vb : Value} {sa sb g cap : Nat} {E : List GE} {T : List Int} {L : List Value} (x : Int) (h : TwoRows w W n A k c b7 e va sa E vb sb T) (hL : L = (T ++ [x]).map intV)
    (ho : W'.ownsRow (w.heap.size + 1) 3 1 (.slice (some ⟨g, 0, none⟩) (sb + 1) cap) (sb + 1) L) (hg : W.grownBy W' vb.ownBlock) (hat : vb.ownBlock = some g ∨ g = W.heap.size) :
    TwoRows w W' n A k c b7 e va sa E (.slice (some ⟨g, 0, none⟩) (sb + 1) cap) (sb + 1) (T ++ [x]) := by
  have ltE := h.rowE.lt
  have ltT := h.rowT.lt
  have hs : w.heap.size < W.heap.size := Nat.lt_trans h.lt h.b7lt
  have gc : ∀ (q j : Nat) (v : Value), W.cell? ⟨q, j, none⟩ = some v → vb.ownBlock ≠ some q → W'.cell? ⟨q, j, none⟩ = some v := fun q j v hv hne => grown_cellS hg hv hne
  have n0 : vb.ownBlock ≠ some w.heap.size := fun hq => by have := (ltT _ hq).1; omega
  have n7 : vb.ownBlock ≠ some b7 := fun hq => h.offT _ hq rfl
  refine ⟨h.rowE.kept hg ?_, hL ▸ ho, ?_, h.offE, ?_, gc _ _ _ h.c0 n0, gc _ _ _ h.c1 n0, gc _ _ _ h.l0 n7, gc _ _ _ h.l1 n7, gc _ _ _ h.l2 n7, gc _ _ _ h.l3 n7, h.lt, Nat.lt_of_lt_of_le h.b7lt hg.size, h.below.grown hg h.below.size (fun q hq => by have := (ltT _ hq).1; omega)⟩
  · cases hb : va.ownBlock with
    | none => exact .inl rfl
    | some q => exact .inr (fun e => h.apart q hb e.symm)
  · intro q hq hb
    have hgq : g = q := by simpa [Value.ownBlock] using hb
    subst hgq
    rcases hat with h1 | h1
    · exact h.apart _ hq h1
    · have := (ltE _ hq).2; omega
  · intro q hq
    have hgq : g = q := by simpa [Value.ownBlock] using hq
    subst hgq
    rcases hat with h1 | h1
    · exact h.offT _ h1
    · have := h.b7lt; omega

theorem facts_of {w W : World} {n : Int} {A : Option Addr} {k c b7 : Nat} {e : GL} {va vb : Value} {sa sb : Nat} {E : List GE} {T : List Int} (h : TwoRows w W n A k c b7 e va sa E vb sb T) :
    W.cell? ⟨b7, 0, none⟩ = some (.int .i64 e.f) ∧ W.cell? ⟨b7, 1, none⟩ = some (.int .i64 e.t) ∧ W.cell? ⟨b7, 2, none⟩ = some (.int .i64 e.l) ∧ W.cell? ⟨b7, 3, none⟩ = some (.int .i64 e.h) ∧ W.cell? ⟨w.heap.size, 1, none⟩ = some (.slice A k c) ∧ b7 < W.heap.size ∧ w.heap.size < W.heap.size :=
  ⟨h.l0, h.l1, h.l2, h.l3, h.c1, h.b7lt, Nat.lt_trans h.lt h.b7lt⟩
theorem heap_kept {w : World} {g : Nat} {o x : Obj} (h : w.heap[g]? = some x) : (w.alloc o).heap[g]? = some x := by
  have hlt : g < w.heap.size := (Array.getElem?_eq_some_iff.1 h).1
  show (w.heap.push o)[g]? = some x
  rw [Array.getElem?_push_lt hlt, ← h, Array.getElem?_eq_getElem hlt]
theorem heap_made (w : World) (o : Obj) (g : Nat) (h : g = w.heap.size) : (w.alloc o).heap[g]? = some o := by rw [h]; exact heap_alloc_new w o
theorem one_c3 (a b d : Int) : ∀ u ∈ [Value.int .i64 a, .int .i64 b, .int .i64 d], u.oneCell' = true := fun u hu => by simp at hu; rcases hu with rfl | rfl | rfl <;> rfl
theorem one_c1 (a : Int) : ∀ u ∈ [Value.int .i64 a], u.oneCell' = true := fun u hu => by simp at hu; subst hu; rfl
theorem own_emp {W : World} {B s : Nat} {t : TypeId} (b : Nat) (hB : B ≤ b) (h : W.heap[b]? = some (.cells #[] t (0, 0))) : W.ownsRow B t s (.slice (some ⟨b, 0, none⟩) 0 0) 0 [] :=
  ⟨by simp, .inr ⟨b, 0, #[], rfl, hB, h, Nat.le_refl _, Nat.zero_le _, by simp, by simp⟩⟩

set_option maxRecDepth 100000 in
set_option maxHeartbeats 8000000 in
theorem spec_l05Edges (n : Int) (es : List GL) (A : Option Addr) (k c : Nat) (w : World) (hn : es.length = k) (hk : k ≤ 40) (hok : ∀ e ∈ es, okI e.l e.h = true) (hr : LinkAt w A es) :
    Calls Try.prog 104 #[grV n A k c] w fun e w' => ∃ B m cb D q cd, e = .returned (.tuple #[.slice B m cb, .slice D q cd]) ∧ m = (gE es).length ∧ q = (gI es).length ∧ w'.ownsRow w.heap.size 110 3 (.slice B m cb) m (cellsE (gE es)) ∧ w'.ownsRow w.heap.size 3 1 (.slice D q cd) q ((gI es).map intV) ∧ Below w.heap.size w w' := by
  have HR := Lib.hid hr
  have HL := Lib.hid hn
  have HK := Lib.hid hok
  clear hr hn hok
  obtain ⟨i0, hi, hz0, hz1, hz2⟩ := info_parts Try.info110
  obtain ⟨i1, hii, hy0, hy1, hy2⟩ := info_parts Try.info3
  unfold grV
  go_enter Try.func104, Try.ntmps104
  go_wp2_with fail
  go_loopw [13, 4, 5] (fun ii ed fr wr => ∃ (j sa sb : Nat) (A2 : Option Addr) (d2 : Nat) (A3 : Option Addr) (d3 : Nat), j ≤ k ∧ ii = .int .i64 j ∧ ed = .slice A2 sa d2 ∧ fr = .slice A3 sb d3 ∧ sa = (gE (es.take j)).length ∧ sb = (fromJ es j).length ∧ wr.ownsRow (w.heap.size + 1) 110 3 (.slice A2 sa d2) sa (cellsE (gE (es.take j))) ∧ wr.ownsRow (w.heap.size + 1) 3 1 (.slice A3 sb d3) sb ((fromJ es j).map intV) ∧ (∀ q, (Value.slice A2 sa d2).ownBlock = some q → (Value.slice A3 sb d3).ownBlock ≠ some q) ∧ wr.cell? ⟨w.heap.size, 0, none⟩ = some (.int .i64 n) ∧ wr.cell? ⟨w.heap.size, 1, none⟩ = some (.slice A k c) ∧ w.heap.size < wr.heap.size ∧ Below w.heap.size w wr) (fun ii _ _ _ => k - (intOf ii).toNat)
  case atStart => exact ⟨0, 0, 0, _, _, _, _, Nat.zero_le _, rfl, rfl, rfl, rfl, rfl, own_emp _ (by first | omega | simp) (by first | exact heap_kept (heap_made _ _ _ (by simp)) | exact heap_kept (heap_kept (heap_made _ _ _ (by simp)))), own_emp _ (by first | omega | simp) (by first | exact heap_made _ _ _ (by simp) | exact heap_kept (heap_made _ _ _ (by simp))), by intro q hq hq2; simp [Value.ownBlock] at hq hq2; omega, by go_simp, by go_simp, (by first | omega | (simp; done) | (simp; omega)), (by repeat (first | exact Below.refl _ _ | refine below_step (by assumption) (by first | omega | (simp; done) | (simp; omega)) ?_ | refine below_drewN ?_ _ | refine Below.drew ?_ | refine Below.setCell ?_ (by first | omega | (simp; done) | (simp; omega)) _ | refine Below.alloc ?_ (by first | omega | (simp; done) | (simp; omega)) _))⟩
  case round =>
    obtain ⟨j, sa, sb, A2, d2, A3, d3, hj, rfl, rfl, rfl, hsa, hsb, howE, howT, hap, hcn, hca, hsz, hbw⟩ := hrel
    by_cases hlt : j < k
    · have hl := HL.out
      obtain ⟨g, o, rfl, hg, hc⟩ := HR.out (by omega)
      have hc1 := hc j (by omega)
      have hkk := HK.out (es[j]'(by omega)) (List.getElem_mem _)
      have hlen := gE_length es j (by omega)
      have hnE := gE_next (es := es) (j := j) (List.getElem?_eq_getElem (by omega))
      have hnF := fromJ_next (es := es) (j := j) (List.getElem?_eq_getElem (by omega))
      have hs80 : sa ≤ 80 ∧ sb ≤ 80 := by omega
      obtain ⟨e, he⟩ : ∃ e, e = es[j]'(by omega) := ⟨_, rfl⟩
      rw [← he] at hc1 hkk hnE hnF
      obtain ⟨c0, c1, c2, c3⟩ := hc1
      have k0 := (hbw.cell (p := ⟨g, o + j * 4, none⟩) hg).trans c0
      have k1 := (hbw.cell (p := ⟨g, o + j * 4 + 1, none⟩) hg).trans c1
      have k2 := (hbw.cell (p := ⟨g, o + j * 4 + 2, none⟩) hg).trans c2
      have k3 := (hbw.cell (p := ⟨g, o + j * 4 + 3, none⟩) hg).trans c3
      have hx : TwoRows w (wr.alloc (.cells #[.int .i64 e.f, .int .i64 e.t, .int .i64 e.l, .int .i64 e.h] 76)) n (some ⟨g, o, none⟩) k c wr.heap.size e (.slice A2 sa d2) sa (gE (es.take j)) (.slice A3 sb d3) sb (fromJ es j) := by
        refine ⟨howE.alloc _, howT.alloc _, hap, fun q hq => ?_, fun q hq => ?_, (((Below.refl _ wr).alloc (Nat.le_refl _) _).cell hsz).trans hcn, (((Below.refl _ wr).alloc (Nat.le_refl _) _).cell hsz).trans hca, by go_simp, by go_simp, by go_simp, by go_simp, hsz, by simp, hbw.alloc hbw.size _⟩
        · have := (howE.lt _ hq).2; omega
        · have := (howT.lt _ hq).2; omega
      have HX := Lib.hid hx
      have HNE := Lib.hid hnE
      have HNF := Lib.hid hnF
      have HSA := Lib.hid hsa
      have HSB := Lib.hid hsb
      have ng : (w.heap.size = wr.heap.size) = False := eq_false (by omega)
      have ng2 : (wr.heap.size = w.heap.size) = False := eq_false (by omega)
      have hwr := okL_wrap hkk
      obtain ⟨u, v, lo, hi'⟩ := e
      dsimp only at k0 k1 k2 k3 HX HNE HNF hwr
      clear hc c0 c1 c2 c3 he hl hx hkk hlen hnE hnF hsa hsb howE howT hap hbw hcn hca
      by_cases hH : hi' = 1000000
      · subst hH
        have nH : ((1000000 : Int) != 1000000) = false := by simp
        by_cases hLo : lo = -1000000
        · subst hLo
          have nL : ((-1000000 : Int) != -1000000) = false := by simp
          obtain ⟨f0_0, f1_0, f2_0, f3_0, f4_0, f5_0, f6_0⟩ := facts_of HX.out
          go_wp2_with fail
          go_roundw
          case rel =>
            have zE : gE (es.take (j + 1)) = gE (es.take j) := by rw [HNE.out]; simp [lkE, lkH, lkL]
            have zF : fromJ es (j + 1) = fromJ es j := by rw [HNF.out]; simp [lkI]
            have xx := HX.out
            exact ⟨j + 1, sa, sb, _, _, _, _, by omega, by go_num, rfl, rfl, by rw [zE]; (try simp); exact HSA.out, by rw [zF]; (try simp); exact HSB.out, by rw [zE]; exact xx.rowE, by rw [zF]; exact xx.rowT, xx.apart, xx.c0, xx.c1, Nat.lt_trans xx.lt xx.b7lt, xx.below⟩
          case measure => simp [intOf]; omega
        · have nL : (lo != -1000000) = true := by simp [hLo]
          obtain ⟨f0_0, f1_0, f2_0, f3_0, f4_0, f5_0, f6_0⟩ := facts_of HX.out
          go_wp2_with (at_builtin; refine wpList_append_lies _ rfl _ _ 67 rfl (w.heap.size + 1) 110 i0 (.agg #[.int .i64 0, .int .i64 0, .int .i64 0]) 3 24 Try.underlying67 hi hz0 hz1 hz2 rfl (by decide) _ _ _ rfl (HX.out.rowE.alloc _) ⟨_, 0, none⟩ 1 1 _ rfl rfl (World.news_of_block (heap_made _ _ _ (by first | rfl | simp))) (one_c3 _ _ _) (by decide) (by unfold maxLen; omega) (by omega) (by first | omega | (have := HX.out.below.size; simp; omega)) _ rfl ?_)
          intro g1 cap1 w1 ho1 hg1 hat1 hl1
          have X1 := Lib.hid (TwoRows.growE (HX.out.alloc _) ho1 hg1 (hat1.imp id (fun h => h.trans (by simp))))
          clear ho1 hg1 hat1 hl1 f0_0 f1_0 f2_0 f3_0 f4_0 f5_0 f6_0
          obtain ⟨f0_1, f1_1, f2_1, f3_1, f4_1, f5_1, f6_1⟩ := facts_of X1.out
          go_wp2_with (at_builtin; refine wpList_append_lies _ rfl _ _ 33 rfl (w.heap.size + 1) 3 i1 (.int .i64 0) 1 8 Try.underlying33 hii hy0 hy1 hy2 rfl (by decide) _ _ _ rfl (X1.out.rowT.alloc _) ⟨_, 0, none⟩ 1 1 _ rfl rfl (World.news_of_block (heap_made _ _ _ (by first | rfl | simp))) (one_c1 _) (by decide) (by unfold maxLen; omega) (by omega) (by first | omega | (have := X1.out.below.size; simp; omega)) _ rfl ?_)
          intro g2 cap2 w2 ho2 hg2 hat2 hl2
          have X2 := Lib.hid (TwoRows.growT (j : Int) (X1.out.alloc _) (by simp [intV]) ho2 hg2 (hat2.imp id (fun h => h.trans (by simp))))
          clear ho2 hg2 hat2 hl2 f0_1 f1_1 f2_1 f3_1 f4_1 f5_1 f6_1
          obtain ⟨f0_2, f1_2, f2_2, f3_2, f4_2, f5_2, f6_2⟩ := facts_of X2.out
          clear X1
          go_wp2_with fail
          go_roundw
          case rel =>
            have zE : gE (es.take (j + 1)) = gE (es.take j) ++ [⟨v, u, -lo⟩] := by rw [HNE.out]; simp [lkE, lkH, lkL, hLo]
            have zF : fromJ es (j + 1) = fromJ es j ++ [(j : Int)] := by rw [HNF.out]; simp [lkI, hLo]
            have xx := X2.out
            exact ⟨j + 1, sa + 1, sb + 1, _, _, _, _, by omega, by go_num, rfl, rfl, by rw [zE]; (try simp); exact HSA.out, by rw [zF]; (try simp); exact HSB.out, by rw [zE]; exact xx.rowE, by rw [zF]; exact xx.rowT, xx.apart, xx.c0, xx.c1, Nat.lt_trans xx.lt xx.b7lt, xx.below⟩
          case measure => simp [intOf]; omega
      · have nH : (hi' != 1000000) = true := by simp [hH]
        by_cases hLo : lo = -1000000
        · subst hLo
          have nL : ((-1000000 : Int) != -1000000) = false := by simp
          obtain ⟨f0_0, f1_0, f2_0, f3_0, f4_0, f5_0, f6_0⟩ := facts_of HX.out
          go_wp2_with (at_builtin; refine wpList_append_lies _ rfl _ _ 67 rfl (w.heap.size + 1) 110 i0 (.agg #[.int .i64 0, .int .i64 0, .int .i64 0]) 3 24 Try.underlying67 hi hz0 hz1 hz2 rfl (by decide) _ _ _ rfl (HX.out.rowE.alloc _) ⟨_, 0, none⟩ 1 1 _ rfl rfl (World.news_of_block (heap_made _ _ _ (by first | rfl | simp))) (one_c3 _ _ _) (by decide) (by unfold maxLen; omega) (by omega) (by first | omega | (have := HX.out.below.size; simp; omega)) _ rfl ?_)
          intro g1 cap1 w1 ho1 hg1 hat1 hl1
          have X1 := Lib.hid (TwoRows.growE (HX.out.alloc _) ho1 hg1 (hat1.imp id (fun h => h.trans (by simp))))
          clear ho1 hg1 hat1 hl1 f0_0 f1_0 f2_0 f3_0 f4_0 f5_0 f6_0
          obtain ⟨f0_1, f1_1, f2_1, f3_1, f4_1, f5_1, f6_1⟩ := facts_of X1.out
          go_wp2_with (at_builtin; refine wpList_append_lies _ rfl _ _ 33 rfl (w.heap.size + 1) 3 i1 (.int .i64 0) 1 8 Try.underlying33 hii hy0 hy1 hy2 rfl (by decide) _ _ _ rfl (X1.out.rowT.alloc _) ⟨_, 0, none⟩ 1 1 _ rfl rfl (World.news_of_block (heap_made _ _ _ (by first | rfl | simp))) (one_c1 _) (by decide) (by unfold maxLen; omega) (by omega) (by first | omega | (have := X1.out.below.size; simp; omega)) _ rfl ?_)
          intro g2 cap2 w2 ho2 hg2 hat2 hl2
          have X2 := Lib.hid (TwoRows.growT (j : Int) (X1.out.alloc _) (by simp [intV]) ho2 hg2 (hat2.imp id (fun h => h.trans (by simp))))
          clear ho2 hg2 hat2 hl2 f0_1 f1_1 f2_1 f3_1 f4_1 f5_1 f6_1
          obtain ⟨f0_2, f1_2, f2_2, f3_2, f4_2, f5_2, f6_2⟩ := facts_of X2.out
          clear X1
          go_wp2_with fail
          go_roundw
          case rel =>
            have zE : gE (es.take (j + 1)) = gE (es.take j) ++ [⟨u, v, hi'⟩] := by rw [HNE.out]; simp [lkE, lkH, lkL, hH]
            have zF : fromJ es (j + 1) = fromJ es j ++ [(j : Int)] := by rw [HNF.out]; simp [lkI, hH]
            have xx := X2.out
            exact ⟨j + 1, sa + 1, sb + 1, _, _, _, _, by omega, by go_num, rfl, rfl, by rw [zE]; (try simp); exact HSA.out, by rw [zF]; (try simp); exact HSB.out, by rw [zE]; exact xx.rowE, by rw [zF]; exact xx.rowT, xx.apart, xx.c0, xx.c1, Nat.lt_trans xx.lt xx.b7lt, xx.below⟩
          case measure => simp [intOf]; omega
        · have nL : (lo != -1000000) = true := by simp [hLo]
          obtain ⟨f0_0, f1_0, f2_0, f3_0, f4_0, f5_0, f6_0⟩ := facts_of HX.out
          go_wp2_with (at_builtin; refine wpList_append_lies _ rfl _ _ 67 rfl (w.heap.size + 1) 110 i0 (.agg #[.int .i64 0, .int .i64 0, .int .i64 0]) 3 24 Try.underlying67 hi hz0 hz1 hz2 rfl (by decide) _ _ _ rfl (HX.out.rowE.alloc _) ⟨_, 0, none⟩ 1 1 _ rfl rfl (World.news_of_block (heap_made _ _ _ (by first | rfl | simp))) (one_c3 _ _ _) (by decide) (by unfold maxLen; omega) (by omega) (by first | omega | (have := HX.out.below.size; simp; omega)) _ rfl ?_)
          intro g1 cap1 w1 ho1 hg1 hat1 hl1
          have X1 := Lib.hid (TwoRows.growE (HX.out.alloc _) ho1 hg1 (hat1.imp id (fun h => h.trans (by simp))))
          clear ho1 hg1 hat1 hl1 f0_0 f1_0 f2_0 f3_0 f4_0 f5_0 f6_0
          obtain ⟨f0_1, f1_1, f2_1, f3_1, f4_1, f5_1, f6_1⟩ := facts_of X1.out
          go_wp2_with (at_builtin; refine wpList_append_lies _ rfl _ _ 33 rfl (w.heap.size + 1) 3 i1 (.int .i64 0) 1 8 Try.underlying33 hii hy0 hy1 hy2 rfl (by decide) _ _ _ rfl (X1.out.rowT.alloc _) ⟨_, 0, none⟩ 1 1 _ rfl rfl (World.news_of_block (heap_made _ _ _ (by first | rfl | simp))) (one_c1 _) (by decide) (by unfold maxLen; omega) (by omega) (by first | omega | (have := X1.out.below.size; simp; omega)) _ rfl ?_)
          intro g2 cap2 w2 ho2 hg2 hat2 hl2
          have X2 := Lib.hid (TwoRows.growT (j : Int) (X1.out.alloc _) (by simp [intV]) ho2 hg2 (hat2.imp id (fun h => h.trans (by simp))))
          clear ho2 hg2 hat2 hl2 f0_1 f1_1 f2_1 f3_1 f4_1 f5_1 f6_1
          obtain ⟨f0_2, f1_2, f2_2, f3_2, f4_2, f5_2, f6_2⟩ := facts_of X2.out
          clear X1
          go_wp2_with (at_builtin; refine wpList_append_lies _ rfl _ _ 67 rfl (w.heap.size + 1) 110 i0 (.agg #[.int .i64 0, .int .i64 0, .int .i64 0]) 3 24 Try.underlying67 hi hz0 hz1 hz2 rfl (by decide) _ _ _ rfl (X2.out.rowE.alloc _) ⟨_, 0, none⟩ 1 1 _ rfl rfl (World.news_of_block (heap_made _ _ _ (by first | rfl | simp))) (one_c3 _ _ _) (by decide) (by unfold maxLen; omega) (by omega) (by first | omega | (have := X2.out.below.size; simp; omega)) _ rfl ?_)
          intro g3 cap3 w3 ho3 hg3 hat3 hl3
          have X3 := Lib.hid (TwoRows.growE (X2.out.alloc _) ho3 hg3 (hat3.imp id (fun h => h.trans (by simp))))
          clear ho3 hg3 hat3 hl3 f0_2 f1_2 f2_2 f3_2 f4_2 f5_2 f6_2
          obtain ⟨f0_3, f1_3, f2_3, f3_3, f4_3, f5_3, f6_3⟩ := facts_of X3.out
          clear X2
          go_wp2_with (at_builtin; refine wpList_append_lies _ rfl _ _ 33 rfl (w.heap.size + 1) 3 i1 (.int .i64 0) 1 8 Try.underlying33 hii hy0 hy1 hy2 rfl (by decide) _ _ _ rfl (X3.out.rowT.alloc _) ⟨_, 0, none⟩ 1 1 _ rfl rfl (World.news_of_block (heap_made _ _ _ (by first | rfl | simp))) (one_c1 _) (by decide) (by unfold maxLen; omega) (by omega) (by first | omega | (have := X3.out.below.size; simp; omega)) _ rfl ?_)
          intro g4 cap4 w4 ho4 hg4 hat4 hl4
          have X4 := Lib.hid (TwoRows.growT (j : Int) (X3.out.alloc _) (by simp [intV]) ho4 hg4 (hat4.imp id (fun h => h.trans (by simp))))
          clear ho4 hg4 hat4 hl4 f0_3 f1_3 f2_3 f3_3 f4_3 f5_3 f6_3
          obtain ⟨f0_4, f1_4, f2_4, f3_4, f4_4, f5_4, f6_4⟩ := facts_of X4.out
          clear X3
          go_wp2_with fail
          go_roundw
          case rel =>
            have zE : gE (es.take (j + 1)) = gE (es.take j) ++ [⟨u, v, hi'⟩] ++ [⟨v, u, -lo⟩] := by rw [HNE.out]; simp [lkE, lkH, lkL, hH, hLo]
            have zF : fromJ es (j + 1) = fromJ es j ++ [(j : Int)] ++ [(j : Int)] := by rw [HNF.out]; simp [lkI, hH, hLo]
            have xx := X4.out
            exact ⟨j + 1, sa + 1 + 1, sb + 1 + 1, _, _, _, _, by omega, by go_num, rfl, rfl, by rw [zE]; (try simp); exact HSA.out, by rw [zF]; (try simp); exact HSB.out, by rw [zE]; exact xx.rowE, by rw [zF]; exact xx.rowT, xx.apart, xx.c0, xx.c1, Nat.lt_trans xx.lt xx.b7lt, xx.below⟩
          case measure => simp [intOf]; omega
    · have hjk : j = k := by omega
      subst hjk
      have hl := HL.out
      rw [List.take_of_length_le (by omega)] at hsa howE
      have hgi : fromJ es j = gI es := by unfold gI; rw [hl]
      rw [hgi] at hsb howT
      have HA := Lib.hid hsa
      have HB := Lib.hid hsb
      have HOE := Lib.hid howE
      have HOT := Lib.hid howT
      clear hsa hsb howE howT hap hgi hl
      go_wp2_with fail
      refine bodyPost_ret (v := .tuple #[.slice A2 sa d2, .slice A3 sb d3]) (by simp [results, Try.results104, go_sem]) rfl ?_
      exact ⟨A2, sa, d2, A3, sb, d3, rfl, HA.out, HB.out, own_base HOE.out (by omega), own_base HOT.out (by omega), hbw⟩

end Go.Proofs.Yteppmlepbfjnpaa

namespace Go.Proofs.Yteppmlepbfjnpaa
open Go.RowKit Go.ChangeShapes Go.WideShapes Go.ChangeAt Go.WideMaps Go.WideElems
set_option linter.unusedVariables false
set_option linter.unusedSimpArgs false

end Go.Proofs.Yteppmlepbfjnpaa

namespace Go.Proofs.Yteppmlepbfjnpaa
open Go.RowKit Go.ChangeShapes Go.WideShapes Go.ChangeAt Go.WideMaps Go.WideElems
set_option linter.unusedVariables false
set_option linter.unusedSimpArgs false

end Go.Proofs.Yteppmlepbfjnpaa

namespace Go.Proofs.Yteppmlepbfjnpaa
open Go.RowKit
set_option linter.unusedVariables false
set_option linter.unusedSimpArgs false

set_option maxRecDepth 100000 in
set_option maxHeartbeats 2000000 in
theorem impl_GraphOk (n : Int) (es : List GE) (A : Option Addr) (k c : Nat) (w : World) (hn : es.length = k) (hm : k ≤ 1048576) (hr : EdgeAt w A es) :
    Calls Try.prog 81 #[grV n A k c] w fun e w' => e = .returned (.bool (okG n es)) ∧ Below w.heap.size w w' := by
  have HND := Lib.hid (hasNode_any n A k c)
  unfold grV at HND ⊢
  have HR := Lib.hid hr
  have HL := Lib.hid hn
  clear hr hn
  by_cases h0 : 0 ≤ n
  · by_cases h8 : n ≤ 8
    · by_cases h80 : k ≤ 80
      · have hk80 : ¬ ((80 : Int) < k) := by omega
        have hn8 : ¬ (8 < n) := by omega
        have hn0 : ¬ (n < 0) := by omega
        go_enter Try.func81, Try.ntmps81
        go_wp2_with fail
        go_loopw [22] (fun i wr => ∃ j : Nat, j ≤ k ∧ i = .int .i64 j ∧ (es.take j).all (okE n) = true ∧ wr.cell? ⟨w.heap.size, 0, none⟩ = some (.int .i64 n) ∧ wr.cell? ⟨w.heap.size, 1, none⟩ = some (.slice A k c) ∧ Below w.heap.size w wr ∧ w.heap.size < wr.heap.size) (fun i _ => k - (intOf i).toNat)
        case atStart => exact ⟨0, Nat.zero_le _, rfl, rfl, by go_simp, by go_simp, (by repeat (first | exact Below.refl _ _ | refine below_step (by assumption) (by first | omega | (simp; done) | (simp; omega)) ?_ | refine below_drewN ?_ _ | refine Below.drew ?_ | refine Below.setCell ?_ (by first | omega | (simp; done) | (simp; omega)) _ | refine Below.alloc ?_ (by first | omega | (simp; done) | (simp; omega)) _)), by simp⟩
        case round =>
          obtain ⟨j, hj, rfl, hall, hcn, hca, hbw, hsz⟩ := hrel
          have HA := Lib.hid hall
          clear hall
          by_cases hlt : j < k
          · have hl := HL.out
            obtain ⟨g, o, rfl, hg, hc⟩ := HR.out (by omega)
            have hc1 := hc j (by omega)
            have HK1 := Lib.hid (all_take_of es (okE n) j (by omega) HA.out)
            have HK2 := Lib.hid (okG_not n es j (by omega))
            obtain ⟨e, he⟩ : ∃ e, e = es[j]'(by omega) := ⟨_, rfl⟩
            rw [← he] at hc1 HK1 HK2
            obtain ⟨c0, c1, c2⟩ := hc1
            have k0 := (hbw.cell (p := ⟨g, o + j * 3, none⟩) hg).trans c0
            have k1 := (hbw.cell (p := ⟨g, o + j * 3 + 1, none⟩) hg).trans c1
            have k2 := (hbw.cell (p := ⟨g, o + j * 3 + 2, none⟩) hg).trans c2
            have ng : (w.heap.size = wr.heap.size) = False := eq_false (by omega)
            have ng2 : (wr.heap.size = w.heap.size) = False := eq_false (by omega)
            clear hc c0 c1 c2 he hl
            obtain ⟨u, v, cc⟩ := e
            dsimp only at k0 k1 k2
            obtain ⟨bu, hbu⟩ : ∃ b, b = decide (0 ≤ u ∧ u < n) := ⟨_, rfl⟩
            obtain ⟨bv, hbv⟩ : ∃ b, b = decide (0 ≤ v ∧ v < n) := ⟨_, rfl⟩
            have hcu := fun W => HND.out u W
            have hcv := fun W => HND.out v W
            rw [← hbu] at hcu
            rw [← hbv] at hcv
            have HU := Lib.hid hcu
            have HV := Lib.hid hcv
            have hok : okE n ⟨u, v, cc⟩ = (bu && bv && decide (-1000000 < cc ∧ cc < 1000000)) := by
              rw [hbu, hbv]; rfl
            rw [hok] at HK1 HK2
            clear hcu hcv hbu hbv hok
            cases bu with
            | false =>
              go_wp2_with (first | (go_at_call_of 48 (Value.int .i64 u); refine (HU.out _).mono ?_; rintro x w2 ⟨rfl, b2⟩))
              go_ret
              exact ⟨ret_b (HK2.out rfl).symm, (by repeat (first | exact Below.refl _ _ | refine below_step (by assumption) (by first | omega | (simp; done) | (simp; omega)) ?_ | refine below_drewN ?_ _ | refine Below.drew ?_ | refine Below.setCell ?_ (by first | omega | (simp; done) | (simp; omega)) _ | refine Below.alloc ?_ (by first | omega | (simp; done) | (simp; omega)) _))⟩
            | true =>
              cases bv with
              | false =>
                go_wp2_with (first | (go_at_call_of 48 (Value.int .i64 u); refine (HU.out _).mono ?_; rintro x w2 ⟨rfl, b2⟩; have kA_w2 : w2.cell? ⟨w.heap.size, 0, none⟩ = some (.int .i64 n) := (b2.cell (p := ⟨w.heap.size, 0, none⟩) (by first | omega | (simp; done) | (simp; omega))).trans (by first | assumption | go_simp); have kB_w2 : w2.cell? ⟨w.heap.size, 1, none⟩ = some (.slice (some ⟨g, o, none⟩) k c) := (b2.cell (p := ⟨w.heap.size, 1, none⟩) (by first | omega | (simp; done) | (simp; omega))).trans (by first | assumption | go_simp); have kC_w2 : w2.cell? ⟨wr.heap.size, 1, none⟩ = some (.int .i64 v) := (b2.cell (p := ⟨wr.heap.size, 1, none⟩) (by first | omega | (simp; done) | (simp; omega))).trans (by first | assumption | go_simp); have kD_w2 : w2.cell? ⟨wr.heap.size, 2, none⟩ = some (.int .i64 cc) := (b2.cell (p := ⟨wr.heap.size, 2, none⟩) (by first | omega | (simp; done) | (simp; omega))).trans (by first | assumption | go_simp); have s_w2 : w.heap.size < w2.heap.size := Nat.lt_of_lt_of_le (by first | omega | (simp; done) | (simp; omega)) b2.size; have t_w2 : wr.heap.size < w2.heap.size := Nat.lt_of_lt_of_le (by first | omega | (simp; done) | (simp; omega)) b2.size) | (go_at_call_of 48 (Value.int .i64 v); refine (HV.out _).mono ?_; rintro x w3 ⟨rfl, b3⟩; have kA_w3 : w3.cell? ⟨w.heap.size, 0, none⟩ = some (.int .i64 n) := (b3.cell (p := ⟨w.heap.size, 0, none⟩) (by first | omega | (simp; done) | (simp; omega))).trans (by first | assumption | go_simp); have kB_w3 : w3.cell? ⟨w.heap.size, 1, none⟩ = some (.slice (some ⟨g, o, none⟩) k c) := (b3.cell (p := ⟨w.heap.size, 1, none⟩) (by first | omega | (simp; done) | (simp; omega))).trans (by first | assumption | go_simp); have kC_w3 : w3.cell? ⟨wr.heap.size, 1, none⟩ = some (.int .i64 v) := (b3.cell (p := ⟨wr.heap.size, 1, none⟩) (by first | omega | (simp; done) | (simp; omega))).trans (by first | assumption | go_simp); have kD_w3 : w3.cell? ⟨wr.heap.size, 2, none⟩ = some (.int .i64 cc) := (b3.cell (p := ⟨wr.heap.size, 2, none⟩) (by first | omega | (simp; done) | (simp; omega))).trans (by first | assumption | go_simp); have s_w3 : w.heap.size < w3.heap.size := Nat.lt_of_lt_of_le (by first | omega | (simp; done) | (simp; omega)) b3.size; have t_w3 : wr.heap.size < w3.heap.size := Nat.lt_of_lt_of_le (by first | omega | (simp; done) | (simp; omega)) b3.size))
                go_ret
                exact ⟨ret_b (HK2.out rfl).symm, (by repeat (first | exact Below.refl _ _ | refine below_step (by assumption) (by first | omega | (simp; done) | (simp; omega)) ?_ | refine below_drewN ?_ _ | refine Below.drew ?_ | refine Below.setCell ?_ (by first | omega | (simp; done) | (simp; omega)) _ | refine Below.alloc ?_ (by first | omega | (simp; done) | (simp; omega)) _))⟩
              | true =>
                by_cases hlo : cc ≤ -1000000
                · go_wp2_with (first | (go_at_call_of 48 (Value.int .i64 u); refine (HU.out _).mono ?_; rintro x w2 ⟨rfl, b2⟩; have kA_w2 : w2.cell? ⟨w.heap.size, 0, none⟩ = some (.int .i64 n) := (b2.cell (p := ⟨w.heap.size, 0, none⟩) (by first | omega | (simp; done) | (simp; omega))).trans (by first | assumption | go_simp); have kB_w2 : w2.cell? ⟨w.heap.size, 1, none⟩ = some (.slice (some ⟨g, o, none⟩) k c) := (b2.cell (p := ⟨w.heap.size, 1, none⟩) (by first | omega | (simp; done) | (simp; omega))).trans (by first | assumption | go_simp); have kC_w2 : w2.cell? ⟨wr.heap.size, 1, none⟩ = some (.int .i64 v) := (b2.cell (p := ⟨wr.heap.size, 1, none⟩) (by first | omega | (simp; done) | (simp; omega))).trans (by first | assumption | go_simp); have kD_w2 : w2.cell? ⟨wr.heap.size, 2, none⟩ = some (.int .i64 cc) := (b2.cell (p := ⟨wr.heap.size, 2, none⟩) (by first | omega | (simp; done) | (simp; omega))).trans (by first | assumption | go_simp); have s_w2 : w.heap.size < w2.heap.size := Nat.lt_of_lt_of_le (by first | omega | (simp; done) | (simp; omega)) b2.size; have t_w2 : wr.heap.size < w2.heap.size := Nat.lt_of_lt_of_le (by first | omega | (simp; done) | (simp; omega)) b2.size) | (go_at_call_of 48 (Value.int .i64 v); refine (HV.out _).mono ?_; rintro x w3 ⟨rfl, b3⟩; have kA_w3 : w3.cell? ⟨w.heap.size, 0, none⟩ = some (.int .i64 n) := (b3.cell (p := ⟨w.heap.size, 0, none⟩) (by first | omega | (simp; done) | (simp; omega))).trans (by first | assumption | go_simp); have kB_w3 : w3.cell? ⟨w.heap.size, 1, none⟩ = some (.slice (some ⟨g, o, none⟩) k c) := (b3.cell (p := ⟨w.heap.size, 1, none⟩) (by first | omega | (simp; done) | (simp; omega))).trans (by first | assumption | go_simp); have kC_w3 : w3.cell? ⟨wr.heap.size, 1, none⟩ = some (.int .i64 v) := (b3.cell (p := ⟨wr.heap.size, 1, none⟩) (by first | omega | (simp; done) | (simp; omega))).trans (by first | assumption | go_simp); have kD_w3 : w3.cell? ⟨wr.heap.size, 2, none⟩ = some (.int .i64 cc) := (b3.cell (p := ⟨wr.heap.size, 2, none⟩) (by first | omega | (simp; done) | (simp; omega))).trans (by first | assumption | go_simp); have s_w3 : w.heap.size < w3.heap.size := Nat.lt_of_lt_of_le (by first | omega | (simp; done) | (simp; omega)) b3.size; have t_w3 : wr.heap.size < w3.heap.size := Nat.lt_of_lt_of_le (by first | omega | (simp; done) | (simp; omega)) b3.size))
                  go_ret
                  exact ⟨ret_b (HK2.out (by simp; omega)).symm, (by repeat (first | exact Below.refl _ _ | refine below_step (by assumption) (by first | omega | (simp; done) | (simp; omega)) ?_ | refine below_drewN ?_ _ | refine Below.drew ?_ | refine Below.setCell ?_ (by first | omega | (simp; done) | (simp; omega)) _ | refine Below.alloc ?_ (by first | omega | (simp; done) | (simp; omega)) _))⟩
                · have hlo2 : ¬ (cc ≤ -1000000) := hlo
                  by_cases hhi : 1000000 ≤ cc
                  · go_wp2_with (first | (go_at_call_of 48 (Value.int .i64 u); refine (HU.out _).mono ?_; rintro x w2 ⟨rfl, b2⟩; have kA_w2 : w2.cell? ⟨w.heap.size, 0, none⟩ = some (.int .i64 n) := (b2.cell (p := ⟨w.heap.size, 0, none⟩) (by first | omega | (simp; done) | (simp; omega))).trans (by first | assumption | go_simp); have kB_w2 : w2.cell? ⟨w.heap.size, 1, none⟩ = some (.slice (some ⟨g, o, none⟩) k c) := (b2.cell (p := ⟨w.heap.size, 1, none⟩) (by first | omega | (simp; done) | (simp; omega))).trans (by first | assumption | go_simp); have kC_w2 : w2.cell? ⟨wr.heap.size, 1, none⟩ = some (.int .i64 v) := (b2.cell (p := ⟨wr.heap.size, 1, none⟩) (by first | omega | (simp; done) | (simp; omega))).trans (by first | assumption | go_simp); have kD_w2 : w2.cell? ⟨wr.heap.size, 2, none⟩ = some (.int .i64 cc) := (b2.cell (p := ⟨wr.heap.size, 2, none⟩) (by first | omega | (simp; done) | (simp; omega))).trans (by first | assumption | go_simp); have s_w2 : w.heap.size < w2.heap.size := Nat.lt_of_lt_of_le (by first | omega | (simp; done) | (simp; omega)) b2.size; have t_w2 : wr.heap.size < w2.heap.size := Nat.lt_of_lt_of_le (by first | omega | (simp; done) | (simp; omega)) b2.size) | (go_at_call_of 48 (Value.int .i64 v); refine (HV.out _).mono ?_; rintro x w3 ⟨rfl, b3⟩; have kA_w3 : w3.cell? ⟨w.heap.size, 0, none⟩ = some (.int .i64 n) := (b3.cell (p := ⟨w.heap.size, 0, none⟩) (by first | omega | (simp; done) | (simp; omega))).trans (by first | assumption | go_simp); have kB_w3 : w3.cell? ⟨w.heap.size, 1, none⟩ = some (.slice (some ⟨g, o, none⟩) k c) := (b3.cell (p := ⟨w.heap.size, 1, none⟩) (by first | omega | (simp; done) | (simp; omega))).trans (by first | assumption | go_simp); have kC_w3 : w3.cell? ⟨wr.heap.size, 1, none⟩ = some (.int .i64 v) := (b3.cell (p := ⟨wr.heap.size, 1, none⟩) (by first | omega | (simp; done) | (simp; omega))).trans (by first | assumption | go_simp); have kD_w3 : w3.cell? ⟨wr.heap.size, 2, none⟩ = some (.int .i64 cc) := (b3.cell (p := ⟨wr.heap.size, 2, none⟩) (by first | omega | (simp; done) | (simp; omega))).trans (by first | assumption | go_simp); have s_w3 : w.heap.size < w3.heap.size := Nat.lt_of_lt_of_le (by first | omega | (simp; done) | (simp; omega)) b3.size; have t_w3 : wr.heap.size < w3.heap.size := Nat.lt_of_lt_of_le (by first | omega | (simp; done) | (simp; omega)) b3.size))
                    go_ret
                    exact ⟨ret_b (HK2.out (by simp; omega)).symm, (by repeat (first | exact Below.refl _ _ | refine below_step (by assumption) (by first | omega | (simp; done) | (simp; omega)) ?_ | refine below_drewN ?_ _ | refine Below.drew ?_ | refine Below.setCell ?_ (by first | omega | (simp; done) | (simp; omega)) _ | refine Below.alloc ?_ (by first | omega | (simp; done) | (simp; omega)) _))⟩
                  · go_wp2_with (first | (go_at_call_of 48 (Value.int .i64 u); refine (HU.out _).mono ?_; rintro x w2 ⟨rfl, b2⟩; have kA_w2 : w2.cell? ⟨w.heap.size, 0, none⟩ = some (.int .i64 n) := (b2.cell (p := ⟨w.heap.size, 0, none⟩) (by first | omega | (simp; done) | (simp; omega))).trans (by first | assumption | go_simp); have kB_w2 : w2.cell? ⟨w.heap.size, 1, none⟩ = some (.slice (some ⟨g, o, none⟩) k c) := (b2.cell (p := ⟨w.heap.size, 1, none⟩) (by first | omega | (simp; done) | (simp; omega))).trans (by first | assumption | go_simp); have kC_w2 : w2.cell? ⟨wr.heap.size, 1, none⟩ = some (.int .i64 v) := (b2.cell (p := ⟨wr.heap.size, 1, none⟩) (by first | omega | (simp; done) | (simp; omega))).trans (by first | assumption | go_simp); have kD_w2 : w2.cell? ⟨wr.heap.size, 2, none⟩ = some (.int .i64 cc) := (b2.cell (p := ⟨wr.heap.size, 2, none⟩) (by first | omega | (simp; done) | (simp; omega))).trans (by first | assumption | go_simp); have s_w2 : w.heap.size < w2.heap.size := Nat.lt_of_lt_of_le (by first | omega | (simp; done) | (simp; omega)) b2.size; have t_w2 : wr.heap.size < w2.heap.size := Nat.lt_of_lt_of_le (by first | omega | (simp; done) | (simp; omega)) b2.size) | (go_at_call_of 48 (Value.int .i64 v); refine (HV.out _).mono ?_; rintro x w3 ⟨rfl, b3⟩; have kA_w3 : w3.cell? ⟨w.heap.size, 0, none⟩ = some (.int .i64 n) := (b3.cell (p := ⟨w.heap.size, 0, none⟩) (by first | omega | (simp; done) | (simp; omega))).trans (by first | assumption | go_simp); have kB_w3 : w3.cell? ⟨w.heap.size, 1, none⟩ = some (.slice (some ⟨g, o, none⟩) k c) := (b3.cell (p := ⟨w.heap.size, 1, none⟩) (by first | omega | (simp; done) | (simp; omega))).trans (by first | assumption | go_simp); have kC_w3 : w3.cell? ⟨wr.heap.size, 1, none⟩ = some (.int .i64 v) := (b3.cell (p := ⟨wr.heap.size, 1, none⟩) (by first | omega | (simp; done) | (simp; omega))).trans (by first | assumption | go_simp); have kD_w3 : w3.cell? ⟨wr.heap.size, 2, none⟩ = some (.int .i64 cc) := (b3.cell (p := ⟨wr.heap.size, 2, none⟩) (by first | omega | (simp; done) | (simp; omega))).trans (by first | assumption | go_simp); have s_w3 : w.heap.size < w3.heap.size := Nat.lt_of_lt_of_le (by first | omega | (simp; done) | (simp; omega)) b3.size; have t_w3 : wr.heap.size < w3.heap.size := Nat.lt_of_lt_of_le (by first | omega | (simp; done) | (simp; omega)) b3.size))
                    go_roundw
                    case rel => exact ⟨j + 1, by omega, by go_num, HK1.out (by simp; omega), by first | assumption | go_simp, by first | assumption | go_simp, (by repeat (first | exact Below.refl _ _ | refine below_step (by assumption) (by first | omega | (simp; done) | (simp; omega)) ?_ | refine below_drewN ?_ _ | refine Below.drew ?_ | refine Below.setCell ?_ (by first | omega | (simp; done) | (simp; omega)) _ | refine Below.alloc ?_ (by first | omega | (simp; done) | (simp; omega)) _)), (by first | omega | (simp; done) | (simp; omega))⟩
                    case measure => simp [intOf]; omega
          · go_wp2_with fail
            go_ret
            have hl := HL.out
            exact ⟨ret_b (okG_all n es (by omega) (by have := HA.out; rw [show j = es.length from by omega] at this; exact this)).symm, (by repeat (first | exact Below.refl _ _ | refine below_step (by assumption) (by first | omega | (simp; done) | (simp; omega)) ?_ | refine below_drewN ?_ _ | refine Below.drew ?_ | refine Below.setCell ?_ (by first | omega | (simp; done) | (simp; omega)) _ | refine Below.alloc ?_ (by first | omega | (simp; done) | (simp; omega)) _))⟩
      · have hk80 : ((80 : Int) < k) := by omega
        have hn8 : ¬ (8 < n) := by omega
        have hn0 : ¬ (n < 0) := by omega
        go_enter Try.func81, Try.ntmps81
        go_wp2_with fail
        go_ret
        exact ⟨ret_b (okG_big n es (by have := HL.out; omega)).symm, (by repeat (first | exact Below.refl _ _ | refine below_step (by assumption) (by first | omega | (simp; done) | (simp; omega)) ?_ | refine below_drewN ?_ _ | refine Below.drew ?_ | refine Below.setCell ?_ (by first | omega | (simp; done) | (simp; omega)) _ | refine Below.alloc ?_ (by first | omega | (simp; done) | (simp; omega)) _))⟩
    · have hn8 : (8 < n) := by omega
      have hn0 : ¬ (n < 0) := by omega
      go_enter Try.func81, Try.ntmps81
      go_wp2_with fail
      go_ret
      exact ⟨ret_b (okG_big n es (by omega)).symm, (by repeat (first | exact Below.refl _ _ | refine below_step (by assumption) (by first | omega | (simp; done) | (simp; omega)) ?_ | refine below_drewN ?_ _ | refine Below.drew ?_ | refine Below.setCell ?_ (by first | omega | (simp; done) | (simp; omega)) _ | refine Below.alloc ?_ (by first | omega | (simp; done) | (simp; omega)) _))⟩
  · have hn0 : (n < 0) := by omega
    go_enter Try.func81, Try.ntmps81
    go_wp2_with fail
    go_ret
    exact ⟨ret_b (okG_big n es (by omega)).symm, (by repeat (first | exact Below.refl _ _ | refine below_step (by assumption) (by first | omega | (simp; done) | (simp; omega)) ?_ | refine below_drewN ?_ _ | refine Below.drew ?_ | refine Below.setCell ?_ (by first | omega | (simp; done) | (simp; omega)) _ | refine Below.alloc ?_ (by first | omega | (simp; done) | (simp; omega)) _))⟩

end Go.Proofs.Yteppmlepbfjnpaa

namespace Go.Proofs.Yteppmlepbfjnpaa
open Go.RowKit
set_option linter.unusedVariables false
set_option linter.unusedSimpArgs false

def wtE (es : List GE) (z : Int) : Int := if 0 ≤ z then (match es[z.toNat]? with | some e => e.c | none => 0) else 0
def sumTo (es : List GE) (zs : List Int) : Nat → Int
  | 0 => 0
  | j + 1 => sumTo es zs j + (match zs[j]? with | some z => wtE es z | none => 0)

theorem okG_edge {n : Int} {es : List GE} (h : okG n es = true) {j : Nat} {e : GE} (he : es[j]? = some e) :
    (0 ≤ e.u ∧ e.u < n) ∧ (0 ≤ e.v ∧ e.v < n) ∧ (-1000000 < e.c ∧ e.c < 1000000) := by
  unfold okG at h
  simp only [Bool.and_eq_true, List.all_eq_true] at h
  have := h.2 e (List.mem_of_getElem? he)
  unfold okE at this
  simp only [Bool.and_eq_true, decide_eq_true_eq] at this
  exact ⟨this.1.1, this.1.2, this.2⟩
theorem okG_rng {n : Int} {es : List GE} (h : okG n es = true) : 0 ≤ n ∧ n ≤ 8 ∧ es.length ≤ 80 := by
  unfold okG at h
  simp only [Bool.and_eq_true, decide_eq_true_eq] at h
  exact h.1
theorem wtE_rng {n : Int} {es : List GE} (h : okG n es = true) (z : Int) : -1000000 ≤ wtE es z ∧ wtE es z ≤ 1000000 := by
  unfold wtE
  split
  · split
    · next e he => have := okG_edge h he; omega
    · omega
  · omega
theorem sumTo_rng {n : Int} {es : List GE} (h : okG n es = true) (zs : List Int) (j : Nat) : -1000000 * (j : Int) ≤ sumTo es zs j ∧ sumTo es zs j ≤ 1000000 * (j : Int) := by
  induction j with
  | zero => simp [sumTo]
  | succ j ih =>
    unfold sumTo
    split
    · next z _ => have := wtE_rng h z; omega
    · omega
theorem sumTo_in {es : List GE} {zs : List Int} {j q : Nat} {e : GE} (hz : zs[j]? = some (q : Int)) (he : es[q]? = some e) : sumTo es zs (j + 1) = sumTo es zs j + e.c := by
  conv => lhs; unfold sumTo
  simp [hz, wtE, he]
theorem sumTo_out {es : List GE} {zs : List Int} {j : Nat} {z : Int} (hz : zs[j]? = some z) (ho : ¬ (0 ≤ z ∧ z < es.length)) : sumTo es zs (j + 1) = sumTo es zs j := by
  conv => lhs; unfold sumTo
  simp only [hz]
  have : wtE es z = 0 := by
    unfold wtE
    split
    · rw [List.getElem?_eq_none (by omega)]
    · rfl
  omega

end Go.Proofs.Yteppmlepbfjnpaa

namespace Go.Proofs.Yteppmlepbfjnpaa
open Go.RowKit
set_option linter.unusedVariables false
set_option linter.unusedSimpArgs false

def pathW (n : Int) (es : List GE) (zs : List Int) : Int := if okG n es = true ∧ zs.length ≤ 80 then sumTo es zs zs.length else 0
theorem ret_i {a b : Int} (h : a = b) : Ending.returned (.int .i64 a) = .returned (.int .i64 b) := by rw [h]

end Go.Proofs.Yteppmlepbfjnpaa
