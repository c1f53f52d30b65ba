/-
  WALK of slices.Backward over nodes, and of impl's namesOf.
  WALK of impl.WithoutLiteral.
  WALK of impl's isObserved: a range over the map of the watchers.
-/
import Derived.Test.YtgajodcgedhikaaGreatDoorBdPnA
import Derived.RangeFuncNested
import Derived.RangeFuncBound
import Derived.RangeFuncCalls
import Derived.RangeFuncLeaves
import Derived.Shelf.Abstract
import Derived.Shelf.RegionOpen
import Derived.WalkKit
import Derived.OwnWalkIn
import Derived.TacticsInMore
import Derived.LoopNIn
import Derived.LoopIn
import Derived.Maps.OwnIn
import Derived.Test.YtgajodcgedhikaaGreatDoorBdShB
import Derived.Deep.AppendLies
import Derived.Deep.CutRange
namespace Go.Proofs.YtgajodcgedhikaaGreatDoor
open Go.RowKit Go.Shelf
open Go.Maps (Keyed int_keyed string_keyed keyOf_int_mk)
set_option linter.unusedVariables false
set_option linter.unusedSimpArgs false

attribute [local go_sem] Oper.semAt_some

/-- What a round is handed: an index; a node as a value, its name. -/
structure BN where
  idx : Nat
  nm : ByteArray
  L : Option Addr
  q : Nat
  c : Nat
  wt : Int
  hn : nm.size ≤ maxLen
  hi : idx ≤ 1048576
def BN.val (x : BN) : Value := .agg #[.string x.nm, .slice x.L x.q x.c, .int .i64 x.wt]
def BN.pr (x : BN) : Nat × ByteArray := (x.idx, x.nm)
/-- What a round keeps: the blocks below n₀, and the block in which the iterator holds the slice. -/
def KpN (n₀ Bs : Nat) (W W' : World) : Prop := Below n₀ W W' ∧ W'.heap[Bs]? = W.heap[Bs]?
theorem KpN.t {n₀ Bs : Nat} {A B C : World} (h : KpN n₀ Bs A B) (k : KpN n₀ Bs B C) : KpN n₀ Bs A C := ⟨h.1.trans k.1, k.2.trans h.2⟩
theorem KpN.b {n₀ Bs : Nat} {w : World} (hn : n₀ ≤ w.heap.size) (hB : Bs < w.heap.size) (W : World) (l : Nat) (o o' : Obj) (hl : w.heap.size ≤ l) (h : W.heap[l]? = some o) (h1 : o.isCells = false) (h2 : o.isWalk = false) : KpN n₀ Bs W (W.putObj l o') :=
  ⟨belowK_b hn W l o o' hl h h1 h2, World.putObj_heap_other (by omega)⟩
theorem bkN_drop (ns : List GN) {j : Nat} (h : j < ns.length) : bkN (ns.drop j) j = bkN (ns.drop (j + 1)) (j + 1) ++ [(j, (ns[j]).name)] := by
  rw [List.drop_eq_getElem_cons h]; rfl

set_option maxRecDepth 100000 in
set_option maxHeartbeats 2000000 in
theorem back1_in (F : Fence) (n : Nat) (h6 : F.fn 92) (hro : F.round = none) (hn : 1 ≤ n) (l Bs : Nat) (w0 : World) (ns : List GN) (A : Option Addr) (k c : Nat) (hk : ns.length = k) (hkm : k ≤ 1048576) (hw : ∀ e ∈ ns, e.wf) (hA : NodesAt w0 A ns)
    (J Jx : List BN → World → Prop)
    (hY : ∀ pre x W, J pre W → pre.length < k → YieldAt F (n - 1) Tryz.prog l #[.int .i64 (x.idx : Int), .agg #[.string x.nm, .slice x.L x.q x.c, .int .i64 x.wt]] W fun e W' =>
      (e = .returned (.bool true) ∧ J (pre ++ [x]) W' ∧ KpN w0.heap.size Bs W W') ∨ (e = .returned (.bool false) ∧ Jx (pre ++ [x]) W'))
    (W : World) (hBs : W.cell? ⟨Bs, 0, none⟩ = some (.slice A k c)) (hW : Below w0.heap.size w0 W) (h0 : J [] W) :
    CallsIn F n Tryz.prog 92 #[.func (.yield l) #[] #[], .pointer (some ⟨Bs, 0, none⟩)] W fun e W' => (∃ v, e = .returned v) ∧
      ((∃ ys, ys.map BN.pr = bkN ns 0 ∧ J ys W') ∨ (∃ pre : List BN, True ∧ Jx pre W')) := by
  have HA := Lib.hid hA
  have HK := Lib.hid hk
  have HWF := Lib.hid hw
  clear hA hk hw
  refine callsIn_of_wp Tryz.func92 rfl h6 ?_ hro
  simp only [Tryz.ntmps92, List.size_toArray, List.length_cons, List.length_nil, Nat.reduceAdd, Nat.reduceSub, Array.replicate_succ, Array.replicate_zero, List.push_toArray, List.append_toArray, List.nil_append, List.cons_append]
  gi_wp2
  gi_loopw [3] (fun i wr => ∃ (j : Nat) (z : Int) (pre : List BN), j ≤ k ∧ i = .int .i64 z ∧ z = (j : Int) - 1 ∧ pre.map BN.pr = bkN (ns.drop j) j ∧ J pre wr ∧ wr.cell? ⟨Bs, 0, none⟩ = some (.slice A k c) ∧ Below w0.heap.size w0 wr) (fun i _ => (intOf i + 1).toNat)
  case atStart => exact ⟨k, (k : Int) - 1, [], Nat.le_refl _, by go_num, rfl, by rw [List.drop_of_length_le (by have := HK.out; omega)]; rfl, h0, hBs, hW⟩
  case round =>
    obtain ⟨j, z, pre, hj, rfl, hz, hpre, hJs, hcs, hbw⟩ := hrel
    cases j with
    | zero =>
      have hzz : ¬ (0 ≤ z) := by omega
      have HP := Lib.hid hpre
      clear hpre hz
      gi_wp2
      go_end0
      exact ⟨⟨_, rfl⟩, .inl ⟨pre, HP.out, hJs⟩⟩
    | succ j =>
      obtain rfl : z = (j : Int) := by omega
      clear hz
      obtain ⟨e, he⟩ : ∃ f, ns[j]? = some f := ⟨_, List.getElem?_eq_getElem (by have := HK.out; omega)⟩
      obtain ⟨g, o, L, cl, rfl, hg, d0, d1, d2, _⟩ := node_facts HA.out he
      have hwe := HWF.out e (List.mem_of_getElem? he)
      have hlen : pre.length < k := by
        have := congrArg List.length hpre
        rw [List.length_map, bkN_len, List.length_drop] at this
        have := HK.out
        omega
      have hnx : bkN (ns.drop j) j = bkN (ns.drop (j + 1)) (j + 1) ++ [(j, e.name)] := by
        rw [bkN_drop ns (by have := HK.out; omega)]
        obtain ⟨h1, h2⟩ := List.getElem?_eq_some_iff.1 he
        rw [h2]
      obtain ⟨q, hq⟩ : ∃ q, q = e.lab.length := ⟨_, rfl⟩
      rw [← hq] at d1
      have k0 := (hbw.cell (p := ⟨g, o + j * 3, none⟩) hg).trans d0
      have k1 := (hbw.cell (p := ⟨g, o + j * 3 + 1, none⟩) hg).trans d1
      have k2 := (hbw.cell (p := ⟨g, o + j * 3 + 2, none⟩) hg).trans d2
      have hzz : (0 : Int) ≤ (j : Int) := by omega
      have hjk : ((j : Int) < (k : Int)) := by omega
      obtain ⟨fn, tmps, assign, body, hy, hR⟩ := hY pre ⟨j, e.name, L, q, cl, e.wat, hwe.1, by omega⟩ wr hJs hlen
      dsimp only at hy
      have HP := Lib.hid hpre
      have HNX := Lib.hid hnx
      have BW := Lib.hid hbw
      clear hpre hnx hbw d0 d1 d2 he hq
      gi_wp2
      refine hR.mono ?_
      rintro e1 W3 (⟨rfl, hJ3, hk3⟩ | ⟨rfl, hJx3⟩)
      · have hc3 : W3.cell? ⟨Bs, 0, none⟩ = some (.slice (some ⟨g, o, none⟩) k c) := (World.cell?_of_block (a := ⟨Bs, 0, none⟩) hk3.2).trans hcs
        have B3 := Lib.hid (BW.out.trans hk3.1)
        clear hk3
        gi_wp2
        go_roundw
        case rel => exact ⟨j, (j : Int) - 1, _, by omega, by go_num, rfl, by rw [List.map_append, HP.out, HNX.out]; rfl, hJ3, hc3, B3.out⟩
        case measure => simp [intOf]
      · gi_wp2
        refine bodyPost_ret (results_none rfl _ _ _) rfl ?_
        exact ⟨⟨_, rfl⟩, .inr ⟨_, trivial, hJx3⟩⟩

set_option maxHeartbeats 1000000 in
theorem back_in (F : Fence) (n : Nat) (h5 : F.fn 77) (hro : F.round = none) (A : Option Addr) (k c : Nat) (w : World) :
    CallsIn F n Tryz.prog 77 #[.slice A k c] w fun e w' => e = .returned (.func (.func 92) #[] #[.pointer (some ⟨w.heap.size, 0, none⟩)]) ∧ w' = w.alloc (.cells #[.slice A k c] 22) := by
  refine callsIn_of_wp Tryz.func77 rfl h5 ?_ hro
  simp only [Tryz.ntmps77, List.size_toArray, List.length_cons, List.length_nil, Nat.reduceAdd, Nat.reduceSub, Array.replicate_succ, Array.replicate_zero, List.push_toArray, List.append_toArray, List.nil_append, List.cons_append]
  gi_wp2
  go_ret
  exact ⟨rfl, rfl⟩

theorem back_stops (F : Fence) (n : Nat) (h6 : F.fn 92) (hro : F.round = none) (hn : 1 ≤ n) (Bs : Nat) (w0 : World) (ns : List GN) (A : Option Addr) (k c : Nat) (hk : ns.length = k) (hkm : k ≤ 1048576) (hw : ∀ e ∈ ns, e.wf) (hA : NodesAt w0 A ns)
    (w : World) (hBs : Bs < w.heap.size) (hc : w.cell? ⟨Bs, 0, none⟩ = some (.slice A k c)) (hb : Below w0.heap.size w0 w) :
    SeqStopsK F n Tryz.prog 92 #[.pointer (some ⟨Bs, 0, none⟩)] (fun x : BN => #[.int .i64 (x.idx : Int), .agg #[.string x.nm, .slice x.L x.q x.c, .int .i64 x.wt]]) (KpN w0.heap.size Bs) (fun ys => ys.map BN.pr = bkN ns 0) (fun _ => True) k w := fun l J Jx W hW _ _ hY h0 =>
  back1_in F n h6 hro hn l Bs w0 ns A k c hk hkm hw hA J Jx hY W ((hW.cell (p := ⟨Bs, 0, none⟩) hBs).trans hc) (hb.trans (hW.mono hb.size)) h0

theorem keyedS : Keyed Tryz.prog 9 := string_keyed Tryz.underlying9
/-- Block b holds a map from string to int that reads as D. -/
abbrev MapSI (w : World) (b n : Nat) (D : DU) : Prop := w.ownsMap Tryz.prog 9 (plainElem (H := Unit) Tryz.prog 3) b n D

set_option maxRecDepth 100000 in
set_option maxHeartbeats 4000000 in
theorem names_any (ns : List GN) (A : Option Addr) (k c : Nat) (w : World) (hk : ns.length = k) (hkm : k ≤ 1048576) (hw : ∀ e ∈ ns, e.wf) (ha : NodesAt w A ns) :
    Calls Tryz.prog 62 #[.slice A k c] w fun e w' => e = .returned (.map (some w.heap.size)) ∧ MapSI w' w.heap.size k (nmR ns 0) ∧ Below w.heap.size w w' := by
  have hmm := @run_makeMap Tryz.prog
  refine (callsIn_wide (n := 8)).1 ?_
  refine callsIn_of_wp_marks Tryz.func62 rfl trivial ?_ rfl
  simp only [Tryz.ntmps62, List.size_toArray, List.length_cons, List.length_nil, Nat.reduceAdd, Nat.reduceSub, Array.replicate_succ, Array.replicate_zero, List.push_toArray, List.append_toArray, List.nil_append, List.cons_append]
  gi_wp2_with fail
  refine ⟨trivial, ?_⟩
  refine (back_in Fence.wide 7 trivial rfl _ _ _ _).mono ?_
  rintro e w' ⟨rfl, rfl⟩
  gi_wp2_with fail
  have hm0 := World.ownsMap_made w Tryz.prog 9 (plainElem (H := Unit) Tryz.prog 3)
  have bM := (Boxed.new (w.alloc (.map #[] 0)) 83 (.map (some w.heap.size))).alloc (.cells #[.slice A k c] 22)
  have bS := Boxed.new ((w.alloc (.map #[] 0)).alloc (.cells #[.map (some w.heap.size)] 83)) 22 (.slice A k c)
  simp only [World.size_alloc] at bM bS
  have hB0 : Below w.heap.size w (((w.alloc (.map #[] 0)).alloc (.cells #[.map (some w.heap.size)] 83)).alloc (.cells #[.slice A k c] 22)) := (((Below.refl _ w).alloc (Nat.le_refl _) _).alloc (by simp) _).alloc (by simp; omega) _
  have hM1 : MapSI (((w.alloc (.map #[] 0)).alloc (.cells #[.map (some w.heap.size)] 83)).alloc (.cells #[.slice A k c] 22)) w.heap.size 0 (.map []) := (hm0.alloc _).alloc _
  obtain ⟨W0, hW0⟩ : ∃ W0, ((w.alloc (.map #[] 0)).alloc (.cells #[.map (some w.heap.size)] 83)).alloc (.cells #[.slice A k c] 22) = W0 := ⟨_, rfl⟩
  have hsz : W0.heap.size = w.heap.size + 3 := by rw [← hW0]; simp
  rw [hW0] at bM bS hB0 hM1 ⊢
  clear hW0 hm0
  refine wpIn_rangeFunc_ownH (n := 8) rfl (by omega) (gf := 92) (lb := #[.pointer (some ⟨w.heap.size + 1 + 1, 0, none⟩)]) rfl trivial (enters_of Tryz.func92 (by kernel_rfl) rfl)
    (back_stops Fence.wide 7 trivial rfl (by omega) (w.heap.size + 1 + 1) w ns A k c hk hkm hw ha W0 (by omega) bS.cell hB0) KpN.t (KpN.b (by omega) (by omega)) (Below.refl _ _) (fun _ => rfl)
    (fun pre W => (Boxed W (w.heap.size + 1) 83 (.map (some w.heap.size)) ∧ MapSI W w.heap.size pre.length (nmD (pre.map BN.pr))) ∧ (Below w.heap.size w W ∧ w.heap.size + 3 ≤ W.heap.size))
    (fun _ _ _ => False)
    (OwnFrom.and (OwnFrom.and (Own.from (boxed_own _ _ _) _) (fun s X Y row hs hg hr => hs.kept hg (fun e => by have := (hr _ e.symm).1; omega))) (OwnFrom.and (ownFrom_below (Nat.le_refl _) (by omega)) (fun s X Y row hs hg hr => Nat.le_trans hs hg.size)))
    (fun _ _ _ _ _ hs _ _ => hs)
    ⟨⟨bM, hM1⟩, hB0, by omega⟩
    (fun x a' W => ∃ Bx, w.heap.size + 2 < Bx ∧ W.heap[Bx]? = some (.cells #[.string x.nm, .slice x.L x.q x.c, .int .i64 x.wt] 38 (0, 0)) ∧ a' = { tmps := #[.slice A k c, undef, .map none, .pointer (some ⟨w.heap.size + 1, 0, none⟩), .int .i64 (x.idx : Int), .pointer (some ⟨Bx, 0, none⟩), .map (some w.heap.size), .slice A k c, .func (.func 92) #[] #[.pointer (some ⟨w.heap.size + 1 + 1, 0, none⟩)], .int .i64 (x.idx : Int), .agg #[.string x.nm, .slice x.L x.q x.c, .int .i64 x.wt], undef, undef, undef, undef, undef], defers := [] })
    (fun x a' _ X Y row hs hg hr => by
      obtain ⟨Bx, h1, h2, h3⟩ := hs
      exact ⟨Bx, h1, (hg.block Bx (Array.getElem?_eq_some_iff.1 h2).1 (fun e => by obtain ⟨_, o, ho, hc⟩ := hr Bx e.symm; rw [h2] at ho; cases ho; cases hc)).trans h2, h3⟩)
    ?assign ?body ?done ?stop
  case assign =>
    rintro l pre x W K ⟨⟨bM1, hM⟩, hB1, hS1⟩ hK
    gi_wp2
    exact hK _ _ ((KeepsOthers.alloc _ _).from _) ⟨(Below.refl _ W).alloc hB1.size _, Below.heap_alloc W _ _ (by omega)⟩ ⟨⟨bM1.alloc _, hM.alloc _⟩, hB1.alloc hB1.size _, by simp; omega⟩ ⟨W.heap.size, by omega, World.alloc_heap_new W _, rfl⟩
  case body =>
    rintro l pre x a' W hl ⟨r, hr⟩ ⟨⟨bM1, hM⟩, hB1, hS1⟩ ⟨Bx, hBx, bX, rfl⟩ hlt
    have cM := bM1.cell
    have cX : W.cell? ⟨Bx, 0, none⟩ = some (.string x.nm) := by simp [World.cell?, bX]
    have hkey := Go.WideMaps.keyOf_string_mk Tryz.underlying9 x.hn
    have hxi := x.hi
    gi_wp2_with (gi_at_mapUpdate; refine wpListIn_mapUpdate_own _ rfl _ _ _ 83 rfl 9 3 keyedS Tryz.underlying83 _ w.heap.size pre.length _ rfl hM (by unfold maxLen; omega) _ _ _ rfl rfl hkey _ [] (plainElem_int Tryz.underlying3 (WalkArith.wf_i64 (by omega))) ?_; intro w1 hown1 hgrow1)
    obtain ⟨es, ck, hh, _⟩ := hM
    exact ⟨KeepsFrom.of_grownBy hgrow1 (fun j e => by cases e; omega), ⟨(Below.refl _ W).grown hgrow1 hB1.size (fun k e => by cases e; exact Nat.le_refl _), hgrow1.block _ (by omega) (by simp; omega)⟩,
      ⟨bM1.kept hgrow1 (by simp), by rw [List.map_append, List.map_singleton, nmD_snoc, List.length_append]; exact hown1⟩, hB1.grown hgrow1 hB1.size (fun k e => by cases e; exact Nat.le_refl _), Nat.le_trans hS1 hgrow1.size⟩
  case done =>
    rintro D ys W hD hys ⟨⟨bM1, hM⟩, hB1, hS1⟩ hK
    have cM := bM1.cell
    gi_wp2
    refine ⟨by simp, .inl ⟨_, _, rfl, run_takeDeferred hK, ?_⟩⟩
    have hle : ys.length ≤ k := by
      have := congrArg List.length hys
      rw [List.length_map, bkN_len] at this
      omega
    rw [hys, nmD_bk] at hM
    exact ⟨_, results_tmp rfl _ _ _, rfl, (hM.kept (grownBy_putObj' _ D _) (fun e => by cases e; omega)).mono hle, hB1.trans (belowK_b (w := w) (Nat.le_refl _) W D _ _ (by omega) hK rfl rfl)⟩
  case stop =>
    rintro D c pre W _ _ h _
    exact h.elim

end Go.Proofs.YtgajodcgedhikaaGreatDoor

namespace Go.Proofs.YtgajodcgedhikaaGreatDoor
open Go.RowKit
set_option linter.unusedVariables false
set_option linter.unusedSimpArgs false

theorem heap_newW (w : World) (o : Obj) (g : Nat) (h : g = w.heap.size) : (w.alloc o).heap[g]? = some o := by rw [h]; exact heap_alloc_new w o
theorem one_c1W (a : Int) : ∀ u ∈ [Value.int .i64 a], u.oneCell' = true := fun u hu => by simp at hu; subst hu; rfl

set_option maxRecDepth 100000 in
set_option maxHeartbeats 4000000 in
theorem impl_WithoutLiteral (p : Int) (l : List Int) (A : Option Addr) (k c : Nat) (w : World) (hl : l.length = k) (hm : k ≤ 1048576) (hr : RowAt w A (l.map intV)) (hp1 : -9223372036854775808 ≤ p) (hp2 : p ≤ 9223372036854775807) :
    Calls Tryz.prog 82 #[.slice A k c, .int .i64 p] w fun e w' => ∃ B q cb, e = .returned (.slice B q cb) ∧ q = (woR l p).length ∧ w'.ownsRow w.heap.size 3 1 (.slice B q cb) q ((woR l p).map intV) ∧ Below w.heap.size w w' := by
  obtain ⟨i1, hii, hy0, hy1, hy2⟩ := info_parts Tryz.info3
  have HR := Lib.hid hr
  have HL := Lib.hid hl
  clear hr hl
  obtain ⟨np, hnp⟩ : ∃ t, t = IntKind.i64.wrap (-p) := ⟨_, rfl⟩
  have HNP := Lib.hid hnp
  have hnw : IntKind.i64.wrap (-p) = np := hnp.symm
  clear hnp hp1 hp2
  go_enter Tryz.func82, Tryz.ntmps82
  go_wp2_with fail
  go_loopw [10, 5] (fun i s wr => ∃ (j q : Nat) (A2 : Option Addr) (d2 : Nat), j ≤ k ∧ i = .int .i64 j ∧ s = .slice A2 q d2 ∧ q = (woR (l.take j) p).length ∧ wr.ownsRow w.heap.size 3 1 (.slice A2 q d2) q ((woR (l.take j) p).map intV) ∧ Below w.heap.size w wr) (fun i _ _ => k - (intOf i).toNat)
  case atStart => exact ⟨0, 0, none, 0, Nat.zero_le _, rfl, rfl, rfl, World.ownsRow_nil _ _ _ _, Below.refl _ _⟩
  case round =>
    obtain ⟨j, q, A2, d2, hj, rfl, rfl, hq, hown, hb⟩ := hrel
    have OW := Lib.hid hown
    have HB := Lib.hid hb
    have HQ := Lib.hid hq
    have hqj : q ≤ j := by rw [hq]; exact wo_len l p j
    have hbs := hb.size
    clear hown hb hq
    by_cases hlt : j < k
    · have hjl : ((j : Int) < (k : Int)) := by omega
      obtain ⟨g, o, rfl, hg, hc⟩ := row_getB HR.out (q := j) (by have := HL.out; omega)
      have hnx := wo_next (l := l) (p := p) (j := j) (List.getElem?_eq_getElem (by have := HL.out; omega))
      obtain ⟨x, hx⟩ : ∃ x, x = l[j]'(by have := HL.out; omega) := ⟨_, rfl⟩
      rw [← hx] at hc hnx
      rw [← HNP.out] at hnx
      have HNX := Lib.hid hnx
      have x1 := (HB.out.cell (p := ⟨g, o + j, none⟩) hg).trans hc
      clear hc hnx hx
      by_cases hxp : x = p
      · have hx1 : (x != p) = false := by simp [hxp]
        have HE := Lib.hid (show woR (l.take (j + 1)) p = woR (l.take j) p from by rw [HNX.out, if_neg (by rintro ⟨h, _⟩; exact h hxp), List.append_nil])
        clear hxp
        go_wp2_with fail
        go_roundw
        case rel => exact ⟨j + 1, q, A2, d2, by omega, by go_num, rfl, by rw [HE.out]; exact HQ.out, by rw [HE.out]; exact OW.out, HB.out⟩
        case measure => simp [intOf]; omega
      · have hx1 : (x != p) = true := by simp [hxp]
        by_cases hxn : x = np
        · have hx2 : (x != np) = false := by simp [hxn]
          have HE := Lib.hid (show woR (l.take (j + 1)) p = woR (l.take j) p from by rw [HNX.out, if_neg (by rintro ⟨_, h⟩; exact h hxn), List.append_nil])
          clear hxp hxn
          go_wp2_with fail
          go_roundw
          case rel => exact ⟨j + 1, q, A2, d2, by omega, by go_num, rfl, by rw [HE.out]; exact HQ.out, by rw [HE.out]; exact OW.out, HB.out⟩
          case measure => simp [intOf]; omega
        · have hx2 : (x != np) = true := by simp [hxn]
          have HE := Lib.hid (show woR (l.take (j + 1)) p = woR (l.take j) p ++ [x] from by rw [HNX.out, if_pos ⟨hxp, hxn⟩])
          clear hxp hxn
          go_wp2_with (at_builtin; refine wpList_append_lies _ rfl _ _ 36 rfl (w.heap.size) 3 i1 (.int .i64 0) 1 8 Tryz.underlying36 hii hy0 hy1 hy2 rfl (by decide) _ _ _ rfl (OW.out.alloc _) ⟨_, 0, none⟩ 1 1 _ rfl rfl (World.news_of_block (heap_newW _ _ _ (by first | rfl | simp))) (one_c1W _) (by decide) (by unfold maxLen; omega) (by omega) (by simp; omega) _ rfl ?_)
          intro g3 cap w6 ho6 hg6 hat6 hl6
          go_wp2_with fail
          go_roundw
          case rel =>
            refine ⟨j + 1, q + 1, some ⟨g3, 0, none⟩, cap, by omega, by go_num, rfl, by rw [HE.out, List.length_append, ← HQ.out]; rfl, ?_, (HB.out.alloc hbs _).grown hg6 (by simp; omega) (fun r hr => (OW.out.lt r hr).1)⟩
            rw [HE.out]; simpa [intV] using ho6
          case measure => simp [intOf]; omega
    · have hjl : ¬ ((j : Int) < (k : Int)) := by omega
      go_wp2_with fail
      go_ret
      have ht : l.take j = l := List.take_of_length_le (by have := HL.out; omega)
      have h1 := HQ.out
      have h2 := OW.out
      rw [ht] at h1 h2
      exact ⟨A2, q, d2, rfl, h1, h2, HB.out⟩

end Go.Proofs.YtgajodcgedhikaaGreatDoor

namespace Go.Proofs.YtgajodcgedhikaaGreatDoor
open Go.RowKit
open Go.Maps (Keyed int_keyed string_keyed keyOf_int_mk has)
set_option linter.unusedVariables false
set_option linter.unusedSimpArgs false

/-- A range over a map of ints under way. -/
abbrev RngII (w : World) (b r n : Nat) (D : DU) (left : Lit → Bool) (cnt : Nat) : Prop := w.ranges Tryz.prog 3 (plainElem (H := Unit) Tryz.prog 3) b r n D left cnt
theorem ranges_below {w w' : World} {b r n : Nat} {D : DU} {left : Lit → Bool} {cnt : Nat} (h : RngII w b r n D left cnt) (hb : Below w.heap.size w w') : RngII w' b r n D left cnt :=
  h.kept (row := none) ⟨hb.os, hb.tape, hb.output, hb.size, fun i hi _ => hb.block i hi⟩ (by simp) (by simp)
theorem row_ranges {w w' : World} {b r n : Nat} {D : DU} {left : Lit → Bool} {cnt : Nat} {A : Option Addr} {xs : List Value} (h : RowAt w A xs) (hr : RngII w b r n D left cnt) (hg : w.grownBy w' (some r)) : RowAt w' A xs := by
  intro hx
  obtain ⟨g, o, hA, hlt, hc⟩ := h hx
  obtain ⟨es, clock, since, seen, c0, _, _, _, _, hit, _⟩ := hr
  have := hg.size
  refine ⟨g, o, hA, by omega, fun j hj => (World.cell?_of_block (a := ⟨g, o + j, none⟩) (hg.block g hlt (fun e => ?_))).trans (hc j hj)⟩
  cases e
  have := hc 0 hx
  simp [World.cell?, hit] at this
theorem wf_rngD {x : Int} (h : (Lit.int .i64 x).wf = true) : -9223372036854775808 ≤ x ∧ x ≤ 9223372036854775807 := by
  simp [Lit.wf, IntKind.min, IntKind.max, IntKind.signed, IntKind.bits] at h
  omega
def dnL (left : Lit → Bool) (p : Int) : Bool := !left (kI p)
theorem dnL_step (left : Lit → Bool) (x : Int) : dnL (fun z => left z && !z.sameKey (kI x)) = fun q => dnL left q || decide (q = x) := by
  funext q
  unfold dnL
  dsimp only
  rw [kI_same]
  cases left (kI q) <;> cases decide (q = x) <;> rfl
theorem las_of_at {ns : List GN} {x c : Int} (h : ∀ zd : DU, (waD ns ns.length).atKey (kI x) zd = vI c) : ∃ i, i < ns.length ∧ lasR ns x = (i : Int) ∧ c = (i : Int) := by
  have h1 := Go.Maps.has_true_of_atKey h
  rw [waR_has] at h1
  have h1 := of_decide_eq_true h1
  have h2 := h (vI 0)
  rw [waR_at] at h2
  unfold vI idxZ at h2
  rw [if_pos h1] at h2
  injection h2 with h2
  injection h2 with _ h2
  rcases lasR_rng ns x with h3 | ⟨i, hi, h3, _⟩
  · omega
  · exact ⟨i, hi, h3, by omega⟩

set_option maxRecDepth 100000 in
set_option maxHeartbeats 8000000 in
theorem isObserved_any (s : GS) (lab : List Int) (b : Nat) (A : Option Addr) (k c : Nat) (B : Option Addr) (m d : Nat) (L : Option Addr) (q cl : Nat) (w : World) (hs : ShB s) (hl : lab.length = q) (hq : q ≤ 1048576) (hx : ∀ x ∈ lab, -9223372036854775808 ≤ x ∧ x ≤ 9223372036854775807)
    (ha : ShowAt w s A k B m) (hr : RowAt w L (lab.map intV)) (hm : MapII w b k (waD s.ns k)) :
    Calls Tryz.prog 65 #[shV A k c B m d s.h, .slice L q cl, .map (some b)] w fun e w' => e = .returned (.bool (obR s.ns lab)) ∧ Below w.heap.size w w' := by
  obtain ⟨w1, hw1⟩ : ∃ W, W = w.alloc (.cells #[.slice A k c, .slice B m d, .int .i64 s.h] 25) := ⟨_, rfl⟩
  have B_w1 : Below w.heap.size w w1 := by rw [hw1]; exact (Below.refl _ _).alloc (Nat.le_refl _) _
  have z_w1 : w.heap.size < w1.heap.size := by rw [hw1]; simp
  have c0_w1 : w1.cell? ⟨w.heap.size, 0, none⟩ = some (.slice A k c) := by rw [hw1]; go_simp
  have HLN := Lib.hid ha.ln
  have HEACH := Lib.hid hs.each
  have HNB := Lib.hid hs.ns
  have HA1 := Lib.hid (ha.below B_w1)
  have HR1 := Lib.hid (hr.below B_w1)
  have HM1 := Lib.hid (own_map_below hm B_w1)
  have hbn : b < w1.heap.size := Nat.lt_trans hm.lt z_w1
  have HL := Lib.hid hl
  have HX := Lib.hid hx
  have BW1 := Lib.hid B_w1
  have HW1 := Lib.hid hw1
  clear ha hs hr hm hl hx hw1 B_w1
  unfold shV
  obtain ⟨h, hh⟩ : ∃ h, h = s.h := ⟨_, rfl⟩
  rw [← hh] at HW1 ⊢
  clear hh
  go_enter Tryz.func65, Tryz.ntmps65
  go_upto_region 2 with (fail)
  rw [← HW1.out]
  go_wp2_with (first | (at_range; refine wpList_range_own _ rfl _ 85 rfl 3 3 keyedI Tryz.underlying85 _ b k _ rfl HM1.out ?_; intro w0 hrg0 hg0 hs0))
  have HG0 := Lib.hid hg0
  have HRG0 := Lib.hid hrg0
  clear hg0 hrg0
  go_frame
  go_loopw [7] (fun r wr => ∃ (left : Lit → Bool) (cnt : Nat) (C : Option Addr) (p cb : Nat), r = .slice C p cb ∧ p = (obF s.ns lab (dnL left)).length ∧ RowAt wr C ((obF s.ns lab (dnL left)).map intV) ∧ RngII wr b w1.heap.size k (waD s.ns k) left cnt ∧ Below w1.heap.size w1 wr) (fun _ wr => wr.rangeLeft b w1.heap.size)
  case atStart =>
    have hst : obF s.ns lab (dnL (has (waD s.ns k))) = lab := by
      have := obF_start s.ns lab
      rw [HLN.out] at this
      exact this
    have hb0 : Below w1.heap.size w1 w0 := ⟨HG0.out.os, HG0.out.tape, HG0.out.output, HG0.out.size, fun i hi => HG0.out.block i hi (by simp)⟩
    exact ⟨_, _, L, q, cl, rfl, by rw [hst]; exact HL.out.symm, by rw [hst]; exact HR1.out.below hb0, HRG0.out, hb0⟩
  case round =>
    obtain ⟨left, cnt, C, p, cb, rfl, hp, hrow, hrg, hbw⟩ := hrel
    have HP := Lib.hid hp
    have HROW := Lib.hid hrow
    have HRG := Lib.hid hrg
    have HBW := Lib.hid hbw
    have hpq : p ≤ q := by rw [hp, ← HL.out]; exact obF_len _ _ _
    have zr := hbw.size
    clear hp hrow hrg hbw
    go_wp2_with (first | (at_next; refine wpList_next_ranges_ii _ rfl _ rfl 3 3 .i64 .i64 keyedI Tryz.underlying3 Tryz.underlying3 b w1.heap.size k _ _ _ rfl HRG.out ?_ ?_))
    · intro _ hl0
      have hen : obF s.ns lab (dnL left) = obF s.ns lab (fun _ => true) := obF_end (fun p => by unfold dnL; rw [hl0]; rfl)
      have HEN := Lib.hid hen
      clear hl0 hen
      by_cases hp0 : p = 0
      · have hpb : ((p : Int) == 0) = true := by simp [hp0]
        have HV : Hid (obR s.ns lab = true) := Lib.hid (by unfold obR; rw [← HEN.out, ← HP.out, hp0]; rfl)
        clear hp0
        go_wp2_with fail
        go_ret
        exact ⟨ret_b HV.out.symm, BW1.out.trans (HBW.out.mono BW1.out.size)⟩
      · have hpb : ((p : Int) == 0) = false := by simp; omega
        have HV : Hid (obR s.ns lab = false) := Lib.hid (by unfold obR; rw [← HEN.out, ← HP.out]; exact decide_eq_false hp0)
        clear hp0
        go_wp2_with fail
        go_ret
        exact ⟨ret_b HV.out.symm, BW1.out.trans (HBW.out.mono BW1.out.size)⟩
    · intro x c2 w2 cnt1 hwx hwc hlx hat hrg1 hlt hg1 hs1 hen
      obtain ⟨i, hi, hla, rfl⟩ := las_of_at (ns := s.ns) (x := x) (c := c2) (by rw [HLN.out]; exact hat)
      have hbw2 : Below w1.heap.size w1 w2 := HBW.out.grown hg1 zr (fun r hr => by cases hr; exact Nat.le_refl _)
      have hrow2 : RowAt w2 C ((obF s.ns lab (dnL left)).map intV) := row_ranges HROW.out HRG.out hg1
      obtain ⟨e, he⟩ : ∃ f, s.ns[i]? = some f := ⟨_, List.getElem?_eq_getElem hi⟩
      obtain ⟨g, o, L2, cl2, rfl, hg, d0, d1, d2, hrl⟩ := node_facts HA1.out.nodes he
      have hem := (HEACH.out e (List.mem_of_getElem? he)).2
      have hik : ((i : Int) < (k : Int)) := by have := HLN.out; omega
      have hi0 : (0 : Int) ≤ (i : Int) := by omega
      have hps : psB s.ns lab x = (impR lab e.lab && (!hasR e.lab x && !hasR e.lab (nw x))) := by
        unfold psB
        rw [hla, Int.toNat_natCast, he]
        simp
      have hwx2 := wf_rngD hwx
      have hst : obF s.ns lab (dnL fun z => left z && !z.sameKey (kI x)) = if psB s.ns lab x then woR (obF s.ns lab (dnL left)) x else obF s.ns lab (dnL left) := by
        rw [dnL_step]
        by_cases hp : psB s.ns lab x = true
        · rw [if_pos hp, obF_pass HX.out hwx2.1 hwx2.2 hp]
        · rw [if_neg hp, obF_skip (by simpa using hp)]
      obtain ⟨y, hy⟩ : ∃ y, y = nw x := ⟨_, rfl⟩
      have hny : IntKind.i64.wrap (-x) = y := hy.symm
      rw [← hy] at hps
      obtain ⟨n2, hn2⟩ : ∃ t, t = e.lab.length := ⟨_, rfl⟩
      rw [← hn2] at hem d1
      have HI := Lib.hid (fun W h1 h2 => impl_ImpliesLabel0 lab e.lab L q cl L2 n2 cl2 W HL.out hq hn2.symm hem h1 h2)
      have HC := Lib.hid (fun z W h1 => contains_lw z e.lab L2 n2 cl2 W hn2.symm hem h1)
      have HWO := Lib.hid (fun W h1 => impl_WithoutLiteral x (obF s.ns lab (dnL left)) C p cb W HP.out.symm (by omega) h1 hwx2.1 hwx2.2)
      have HRL := Lib.hid ((hrl.below hbw2))
      have HRB := Lib.hid ((HR1.out.below hbw2))
      obtain ⟨b1, hb1⟩ : ∃ t, t = impR lab e.lab := ⟨_, rfl⟩
      obtain ⟨b2, hb2⟩ : ∃ t, t = hasR e.lab x := ⟨_, rfl⟩
      obtain ⟨b3, hb3⟩ : ∃ t, t = hasR e.lab y := ⟨_, rfl⟩
      have HCX := Lib.hid (fun W h1 => (show Calls Tryz.prog 81 #[.slice L2 n2 cl2, .int .i64 x] W fun e w' => e = .returned (.bool b2) ∧ W = w' from by rw [hb2]; exact HC.out x W h1))
      have HCY := Lib.hid (fun W h1 => (show Calls Tryz.prog 81 #[.slice L2 n2 cl2, .int .i64 y] W fun e w' => e = .returned (.bool b3) ∧ W = w' from by rw [hb3]; exact HC.out y W h1))
      rw [← hb1] at HI hps
      rw [← hb2, ← hb3] at hps
      have k0 := (hbw2.cell (p := ⟨w.heap.size, 0, none⟩) z_w1).trans c0_w1
      have m0 := (hbw2.cell (p := ⟨g, o + i * 3, none⟩) hg).trans d0
      have m1 := (hbw2.cell (p := ⟨g, o + i * 3 + 1, none⟩) hg).trans d1
      have m2 := (hbw2.cell (p := ⟨g, o + i * 3 + 2, none⟩) hg).trans d2
      have BW2 := Lib.hid hbw2
      have RW2 := Lib.hid hrow2
      have RG2 := Lib.hid hrg1
      have HST := Lib.hid hst
      have HPS := Lib.hid hps
      have HLE := Lib.hid hrg1.left_eq
      have HLO := Lib.hid HRG.out.left_eq
      have hs2 := hbw2.size
      have HY := Lib.hid hy
      have HGO : Hid (∀ W, RngII W b w1.heap.size k (waD s.ns k) (fun z => left z && !z.sameKey (kI x)) cnt1 → W.rangeLeft b w1.heap.size < wr.rangeLeft b w1.heap.size) := Lib.hid (fun W h => by rw [h.left_eq, HLO.out]; exact hlt)
      clear hbw2 hrow2 hrg1 hst hps hrl hat hlx hg1 he d0 d1 d2 hla hn2 hb1 hb2 hb3 HC c0_w1 hwx hwc hlt hy
      cases b1 with
      | false =>
        have HE : Hid (obF s.ns lab (dnL fun z => left z && !z.sameKey (kI x)) = obF s.ns lab (dnL left)) := Lib.hid (by rw [HST.out, HPS.out]; rfl)
        go_wp2_with fail
        refine (HI.out _ HRB.out HRL.out).mono ?_
        rintro e1 w3 ⟨rfl, hw3⟩
        subst hw3
        go_wp2_with fail
        go_roundw
        case rel => exact ⟨fun z => left z && !z.sameKey (kI x), cnt1, C, p, cb, rfl, by rw [HE.out]; exact HP.out, by rw [HE.out]; exact RW2.out, RG2.out, BW2.out⟩
        case measure => exact HGO.out _ RG2.out
      | true =>
        cases b2 with
        | true =>
          have HE : Hid (obF s.ns lab (dnL fun z => left z && !z.sameKey (kI x)) = obF s.ns lab (dnL left)) := Lib.hid (by rw [HST.out, HPS.out]; rfl)
          go_wp2_with fail
          refine (HI.out _ HRB.out HRL.out).mono ?_
          rintro e1 w3 ⟨rfl, hw3⟩
          subst hw3
          go_wp2_with fail
          refine (HCX.out _ HRL.out).mono ?_
          rintro e2 w3 ⟨rfl, hw3⟩
          subst hw3
          go_wp2_with fail
          go_roundw
          case rel => exact ⟨fun z => left z && !z.sameKey (kI x), cnt1, C, p, cb, rfl, by rw [HE.out]; exact HP.out, by rw [HE.out]; exact RW2.out, RG2.out, BW2.out⟩
          case measure => exact HGO.out _ RG2.out
        | false =>
          cases b3 with
          | true =>
            have HE : Hid (obF s.ns lab (dnL fun z => left z && !z.sameKey (kI x)) = obF s.ns lab (dnL left)) := Lib.hid (by rw [HST.out, HPS.out]; rfl)
            go_wp2_with fail
            refine (HI.out _ HRB.out HRL.out).mono ?_
            rintro e1 w3 ⟨rfl, hw3⟩
            subst hw3
            go_wp2_with fail
            refine (HCX.out _ HRL.out).mono ?_
            rintro e2 w3 ⟨rfl, hw3⟩
            subst hw3
            go_wp2_with fail
            refine (HCY.out _ HRL.out).mono ?_
            rintro e3 w3 ⟨rfl, hw3⟩
            subst hw3
            go_wp2_with fail
            go_roundw
            case rel => exact ⟨fun z => left z && !z.sameKey (kI x), cnt1, C, p, cb, rfl, by rw [HE.out]; exact HP.out, by rw [HE.out]; exact RW2.out, RG2.out, BW2.out⟩
            case measure => exact HGO.out _ RG2.out
          | false =>
            have HE : Hid (obF s.ns lab (dnL fun z => left z && !z.sameKey (kI x)) = woR (obF s.ns lab (dnL left)) x) := Lib.hid (by rw [HST.out, HPS.out]; rfl)
            go_wp2_with fail
            refine (HI.out _ HRB.out HRL.out).mono ?_
            rintro e1 w3 ⟨rfl, hw3⟩
            subst hw3
            go_wp2_with fail
            refine (HCX.out _ HRL.out).mono ?_
            rintro e2 w3 ⟨rfl, hw3⟩
            subst hw3
            go_wp2_with fail
            refine (HCY.out _ HRL.out).mono ?_
            rintro e3 w3 ⟨rfl, hw3⟩
            subst hw3
            go_wp2_with fail
            refine (HWO.out _ RW2.out).mono ?_
            rintro e4 w4 ⟨B4, q4, cb4, rfl, hq4, ho4, b4⟩
            have RG4 := Lib.hid (ranges_below RG2.out b4)
            have RW4 := Lib.hid (own_row ho4)
            have BW4 := Lib.hid (BW2.out.trans (b4.mono hs2))
            have HQ4 := Lib.hid hq4
            clear ho4 b4 k0 m0 m1 m2 hq4
            go_wp2_with fail
            go_roundw
            case rel => exact ⟨fun z => left z && !z.sameKey (kI x), cnt1, B4, q4, cb4, rfl, by rw [HE.out]; exact HQ4.out, by rw [HE.out]; exact RW4.out, RG4.out, BW4.out⟩
            case measure => exact HGO.out _ RG4.out

end Go.Proofs.YtgajodcgedhikaaGreatDoor
