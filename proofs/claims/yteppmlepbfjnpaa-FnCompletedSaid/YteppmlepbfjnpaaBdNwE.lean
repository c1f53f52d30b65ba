/-
  WALKS of impl.addEdge and impl.addLink: a network behind a pointer, its edges and their origins in memory of their own.
  WALK of spec.NegativeCycle.
-/
import Derived.Test.YteppmlepbfjnpaaNwO
import Derived.Test.YteppmlepbfjnpaaBdSmF
import Derived.Deep.AppendLies
import Derived.Deep.RegionLaw
import Derived.Test.YteppmlepbfjnpaaBdGrY
import Derived.Deep.Cut
namespace Go.Proofs.Yteppmlepbfjnpaa
open Go.RowKit
set_option linter.unusedVariables false
set_option linter.unusedSimpArgs false

/-- The network in the box bx: two rows of its own, apart from each other, above the box. -/
structure NetR (W : World) (bx : Nat) (n : Int) (ca cb va vb : Value) (sa sb : Nat) (E : List GE) (T : List Int) : Prop where
  c0 : W.cell? ⟨bx, 0, none⟩ = some (.int .i64 n)
  c1 : W.cell? ⟨bx, 1, none⟩ = some ca
  c2 : W.cell? ⟨bx, 2, none⟩ = some cb
  f1 : W.frozen? ⟨bx, 1, none⟩ = false
  f2 : W.frozen? ⟨bx, 2, none⟩ = false
  rowE : W.ownsRow (bx + 1) 110 3 va sa (cellsE E)
  rowT : W.ownsRow (bx + 1) 3 1 vb sb (T.map intV)
  apart : ∀ q, va.ownBlock = some q → vb.ownBlock ≠ some q
  lt : bx < W.heap.size
/-- What a call on the network leaves. -/
structure NetStep (w W : World) (bx : Nat) (va0 vb0 va vb : Value) : Prop where
  os : W.os = w.os
  tape : W.tape = w.tape
  output : W.output = w.output
  size : w.heap.size ≤ W.heap.size
  block : ∀ k, k < w.heap.size → k ≠ bx → va0.ownBlock ≠ some k → vb0.ownBlock ≠ some k → W.heap[k]? = w.heap[k]?
  newE : ∀ q, va.ownBlock = some q → va0.ownBlock = some q ∨ w.heap.size ≤ q
  newT : ∀ q, vb.ownBlock = some q → vb0.ownBlock = some q ∨ w.heap.size ≤ q

section
variable {w W W' : World} {bx : Nat} {n : Int} {ca cb va vb va0 vb0 : Value} {sa sb : Nat} {E : List GE} {T : List Int}
theorem own_below2 {W W' : World} {B e s n : Nat} {v : Value} {xs : List Value} (h : W.ownsRow B e s v n xs) (hb : Below W.heap.size W W') : W'.ownsRow B e s v n xs := own_below h hb
theorem NetR.below (h : NetR W bx n ca cb va vb sa sb E T) (hb : Below W.heap.size W W') : NetR W' bx n ca cb va vb sa sb E T :=
  ⟨(hb.cell h.lt).trans h.c0, (hb.cell h.lt).trans h.c1, (hb.cell h.lt).trans h.c2, (hb.frozen h.lt).trans h.f1, (hb.frozen h.lt).trans h.f2, own_below2 h.rowE hb, own_below2 h.rowT hb, h.apart, Nat.lt_of_lt_of_le h.lt hb.size⟩
theorem NetR.alloc (h : NetR W bx n ca cb va vb sa sb E T) (o : Obj) : NetR (W.alloc o) bx n ca cb va vb sa sb E T := h.below ((Below.refl _ _).alloc (Nat.le_refl _) o)
theorem NetR.drew (h : NetR W bx n ca cb va vb sa sb E T) : NetR W.drew bx n ca cb va vb sa sb E T := h.below ((Below.refl _ _).drew)
theorem grown_freeN {w w' : World} {row : Option Nat} (hg : w.grownBy w' row) {b o : Nat} (hb : b < w.heap.size) (h : w.frozen? ⟨b, o, none⟩ = false) (hr : row ≠ some b) : w'.frozen? ⟨b, o, none⟩ = false :=
  (World.frozen?_of_block (a := ⟨b, o, none⟩) (hg.block b hb (fun e => hr e.symm))).trans h
theorem NetR.growE {g cap : Nat} {x y z : Int} (h : NetR W bx n ca cb va vb sa sb E T)
    (ho : W'.ownsRow (bx + 1) 110 3 (.slice (some ⟨g, 0, none⟩) (sa + 1) cap) (sa + 1) (cellsE E ++ [.int .i64 x, .int .i64 y, .int .i64 z])) (hg : W.grownBy W' va.ownBlock) (hat : va.ownBlock = some g ∨ g = W.heap.size) :
    NetR W' bx n ca cb (.slice (some ⟨g, 0, none⟩) (sa + 1) cap) vb (sa + 1) sb (E ++ [⟨x, y, z⟩]) T := by
  have ltE := h.rowE.lt
  have ltT := h.rowT.lt
  have n0 : va.ownBlock ≠ some bx := fun hq => by have := (ltE _ hq).1; omega
  have hE : cellsE E ++ [.int .i64 x, .int .i64 y, .int .i64 z] = cellsE (E ++ [⟨x, y, z⟩]) := by rw [cellsE_append]; simp [cellsE, GE.cells]
  refine ⟨grown_cellS hg h.c0 n0, grown_cellS hg h.c1 n0, grown_cellS hg h.c2 n0, grown_freeN hg h.lt h.f1 n0, grown_freeN hg h.lt h.f2 n0, hE ▸ ho, h.rowT.kept hg ?_, ?_, Nat.lt_of_lt_of_le h.lt hg.size⟩
  · cases hb : vb.ownBlock with
    | none => exact .inl rfl
    | some q => exact .inr (fun e => h.apart q e.symm hb)
  · intro q hq hb
    have hgq : g = q := by simpa [Value.ownBlock] using hq
    subst hgq
    rcases hat with h1 | h1
    · exact h.apart _ h1 hb
    · have := (ltT _ hb).2; omega
theorem NetR.growT {g cap : Nat} {L : List Value} (x : Int) (h : NetR W bx n ca cb va vb sa sb E T) (hL : L = (T ++ [x]).map intV)
    (ho : W'.ownsRow (bx + 1) 3 1 (.slice (some ⟨g, 0, none⟩) (sb + 1) cap) (sb + 1) L) (hg : W.grownBy W' vb.ownBlock) (hat : vb.ownBlock = some g ∨ g = W.heap.size) :
    NetR W' bx n ca cb va (.slice (some ⟨g, 0, none⟩) (sb + 1) cap) sa (sb + 1) E (T ++ [x]) := by
  have ltE := h.rowE.lt
  have ltT := h.rowT.lt
  have n0 : vb.ownBlock ≠ some bx := fun hq => by have := (ltT _ hq).1; omega
  refine ⟨grown_cellS hg h.c0 n0, grown_cellS hg h.c1 n0, grown_cellS hg h.c2 n0, grown_freeN hg h.lt h.f1 n0, grown_freeN hg h.lt h.f2 n0, h.rowE.kept hg ?_, hL ▸ ho, ?_, Nat.lt_of_lt_of_le h.lt hg.size⟩
  · cases hb : va.ownBlock with
    | none => exact .inl rfl
    | some q => exact .inr (fun e => h.apart q hb e.symm)
  · intro q hq hb
    have hgq : g = q := by simpa [Value.ownBlock] using hb
    subst hgq
    rcases hat with h1 | h1
    · exact h.apart _ hq h1
    · have := (ltE _ hq).2; omega
theorem NetR.store1 (h : NetR W bx n ca cb va vb sa sb E T) (hv : va.oneCell' = true) : NetR (W.setCell ⟨bx, 1, none⟩ va) bx n va cb va vb sa sb E T := by
  have := h.c0; have := h.c1; have := h.c2; have := h.f1; have := h.f2
  refine ⟨by go_simp, by go_simp, by go_simp, by go_simp, by go_simp, own_set h.rowE _ _ (by dsimp only; omega), own_set h.rowT _ _ (by dsimp only; omega), h.apart, by have := h.lt; simpa using this⟩
theorem NetR.store2 (h : NetR W bx n ca cb va vb sa sb E T) (hv : vb.oneCell' = true) : NetR (W.setCell ⟨bx, 2, none⟩ vb) bx n ca vb va vb sa sb E T := by
  have := h.c0; have := h.c1; have := h.c2; have := h.f1; have := h.f2
  refine ⟨by go_simp, by go_simp, by go_simp, by go_simp, by go_simp, own_set h.rowE _ _ (by dsimp only; omega), own_set h.rowT _ _ (by dsimp only; omega), h.apart, by have := h.lt; simpa using this⟩
theorem NetR.facts (h : NetR W bx n ca cb va vb sa sb E T) : W.cell? ⟨bx, 0, none⟩ = some (.int .i64 n) ∧ W.cell? ⟨bx, 1, none⟩ = some ca ∧ W.cell? ⟨bx, 2, none⟩ = some cb ∧ W.frozen? ⟨bx, 1, none⟩ = false ∧ W.frozen? ⟨bx, 2, none⟩ = false ∧ bx < W.heap.size ∧ (bx = W.heap.size) = False ∧ (W.heap.size = bx) = False :=
  ⟨h.c0, h.c1, h.c2, h.f1, h.f2, h.lt, eq_false (by have := h.lt; omega), eq_false (by have := h.lt; omega)⟩

theorem NetStep.refl (W : World) (bx : Nat) (va vb : Value) : NetStep W W bx va vb va vb := ⟨rfl, rfl, rfl, Nat.le_refl _, fun _ _ _ _ _ => rfl, fun _ h => .inl h, fun _ h => .inl h⟩
theorem NetStep.below (h : NetStep w W bx va0 vb0 va vb) (hb : Below W.heap.size W W') : NetStep w W' bx va0 vb0 va vb :=
  ⟨hb.os.trans h.os, hb.tape.trans h.tape, hb.output.trans h.output, Nat.le_trans h.size hb.size, fun k hk h1 h2 h3 => (hb.block k (Nat.lt_of_lt_of_le hk h.size)).trans (h.block k hk h1 h2 h3), h.newE, h.newT⟩
theorem NetStep.alloc (h : NetStep w W bx va0 vb0 va vb) (o : Obj) : NetStep w (W.alloc o) bx va0 vb0 va vb := h.below ((Below.refl _ _).alloc (Nat.le_refl _) o)
theorem NetStep.drew (h : NetStep w W bx va0 vb0 va vb) : NetStep w W.drew bx va0 vb0 va vb := h.below ((Below.refl _ _).drew)
theorem NetStep.set (h : NetStep w W bx va0 vb0 va vb) (j : Nat) (v : Value) : NetStep w (W.setCell ⟨bx, j, none⟩ v) bx va0 vb0 va vb :=
  ⟨h.os, h.tape, h.output, by simpa using h.size, fun k hk h1 h2 h3 => (Below.heap_setCell _ _ _ _ h1).trans (h.block k hk h1 h2 h3), h.newE, h.newT⟩
theorem NetStep.growE {g s cap : Nat} (h : NetStep w W bx va0 vb0 va vb) (hg : W.grownBy W' va.ownBlock) (hat : va.ownBlock = some g ∨ g = W.heap.size) : NetStep w W' bx va0 vb0 (.slice (some ⟨g, 0, none⟩) s cap) vb := by
  refine ⟨hg.os.trans h.os, hg.tape.trans h.tape, hg.output.trans h.output, Nat.le_trans h.size hg.size, fun k hk h1 h2 h3 => (hg.block k (Nat.lt_of_lt_of_le hk h.size) ?_).trans (h.block k hk h1 h2 h3), ?_, h.newT⟩
  · intro e
    rcases h.newE k e.symm with e2 | e2
    · exact h2 e2
    · omega
  · intro q hq
    have hgq : g = q := by simpa [Value.ownBlock] using hq
    subst hgq
    rcases hat with h1 | h1
    · exact h.newE _ h1
    · right; have := h.size; omega
theorem NetStep.growT {g s cap : Nat} (h : NetStep w W bx va0 vb0 va vb) (hg : W.grownBy W' vb.ownBlock) (hat : vb.ownBlock = some g ∨ g = W.heap.size) : NetStep w W' bx va0 vb0 va (.slice (some ⟨g, 0, none⟩) s cap) := by
  refine ⟨hg.os.trans h.os, hg.tape.trans h.tape, hg.output.trans h.output, Nat.le_trans h.size hg.size, fun k hk h1 h2 h3 => (hg.block k (Nat.lt_of_lt_of_le hk h.size) ?_).trans (h.block k hk h1 h2 h3), h.newE, ?_⟩
  · intro e
    rcases h.newT k e.symm with e2 | e2
    · exact h3 e2
    · omega
  · intro q hq
    have hgq : g = q := by simpa [Value.ownBlock] using hq
    subst hgq
    rcases hat with h1 | h1
    · exact h.newT _ h1
    · right; have := h.size; omega
theorem NetStep.trans {w W W' : World} {bx : Nat} {va0 vb0 va vb va1 vb1 : Value} (h : NetStep w W bx va0 vb0 va vb) (k : NetStep W W' bx va vb va1 vb1) : NetStep w W' bx va0 vb0 va1 vb1 := by
  refine ⟨k.os.trans h.os, k.tape.trans h.tape, k.output.trans h.output, Nat.le_trans h.size k.size, fun i hi h1 h2 h3 => (k.block i (Nat.lt_of_lt_of_le hi h.size) h1 ?_ ?_).trans (h.block i hi h1 h2 h3), ?_, ?_⟩
  · intro e
    rcases h.newE i e with e2 | e2
    · exact h2 e2
    · omega
  · intro e
    rcases h.newT i e with e2 | e2
    · exact h3 e2
    · omega
  · intro q hq
    rcases k.newE q hq with e2 | e2
    · exact h.newE q e2
    · right; have := h.size; omega
  · intro q hq
    rcases k.newT q hq with e2 | e2
    · exact h.newT q e2
    · right; have := h.size; omega
/-- Below the box nothing turns. -/
theorem NetStep.base (h : NetStep w W bx va vb va0 vb0) (hr : NetR w bx n ca cb va vb sa sb E T) : Below bx w W :=
  ⟨h.os, h.tape, h.output, h.size, fun k hk => h.block k (Nat.lt_trans hk hr.lt) (by omega) (fun e => by have := (hr.rowE.lt _ e).1; omega) (fun e => by have := (hr.rowT.lt _ e).1; omega)⟩
/-- A block beside the network's. -/
theorem NetStep.beside (h : NetStep w W bx va vb va0 vb0) {k j : Nat} {v : Value} (hc : w.cell? ⟨k, j, none⟩ = some v) (h1 : k < w.heap.size) (h2 : k ≠ bx) (h3 : va.ownBlock ≠ some k) (h4 : vb.ownBlock ≠ some k) : W.cell? ⟨k, j, none⟩ = some v :=
  (World.cell?_of_block (a := ⟨k, j, none⟩) (h.block k h1 h2 h3 h4)).trans hc

end
/-- What a call on the network ends in. -/
def NetDone (w : World) (bx : Nat) (n : Int) (va vb : Value) (sa sb : Nat) (E : List GE) (T : List Int) (e : Ending) (w' : World) : Prop :=
  e = .returned (.tuple #[]) ∧ ∃ A c B d, NetR w' bx n (.slice A sa c) (.slice B sb d) (.slice A sa c) (.slice B sb d) sa sb E T ∧ NetStep w w' bx va vb (.slice A sa c) (.slice B sb d)

set_option maxRecDepth 100000 in
set_option maxHeartbeats 8000000 in
theorem addEdge_any (bx : Nat) (n : Int) (A : Option Addr) (sa c : Nat) (B : Option Addr) (sb d : Nat) (E : List GE) (T : List Int) (x p q r : Int) (w : World) (hsa : sa ≤ 1000) (hsb : sb ≤ 1000) (h : NetR w bx n (.slice A sa c) (.slice B sb d) (.slice A sa c) (.slice B sb d) sa sb E T) :
    Calls Try.prog 97 #[.pointer (some ⟨bx, 0, none⟩), .int .i64 x, .agg #[.int .i64 p, .int .i64 q, .int .i64 r]] w fun e w' => NetDone w bx n (.slice A sa c) (.slice B sb d) (sa + 1) (sb + 1) (E ++ [⟨p, q, r⟩]) (T ++ [x]) e w' := by
  have X0 := Lib.hid h
  have S0 := Lib.hid (NetStep.refl w bx (.slice A sa c) (.slice B sb d))
  obtain ⟨i0, hi, hz0, hz1, hz2⟩ := info_parts Try.info110
  obtain ⟨i1, hii, hy0, hy1, hy2⟩ := info_parts Try.info3
  obtain ⟨k0, k1, k2, h1, h2, s0, ng0, ng1⟩ := X0.out.facts
  clear h
  go_enter Try.func97, Try.ntmps97
  go_wp2_with fail
  go_region_law (first | (refine step_append_lies _ rfl _ _ 67 rfl (bx + 1) 110 i0 (.agg #[.int .i64 0, .int .i64 0, .int .i64 0]) 3 24 Try.underlying67 hi hz0 hz1 hz2 rfl (by decide) _ _ _ rfl ((by first | exact X0.out.rowE.alloc _ | exact ((X0.out.alloc _).rowE.alloc _) | exact X0.out.drew.rowE.alloc _ | exact ((X0.out.alloc _).drew.rowE.alloc _))) ⟨_, 0, none⟩ 1 1 _ rfl rfl (World.news_of_block (heap_made _ _ _ (by first | rfl | omega | (simp; done) | (simp; omega)))) (one_c3 _ _ _) (by decide) (by unfold maxLen; omega) (by omega) (by first | omega | (simp; done) | (simp; omega)) _ rfl ?_; intro g1 cap1 w1 ho1 hg1 hat1 hl1; have D1 := Lib.hid (NetR.growE (W := _) (by first | exact (X0.out.alloc _) | exact ((X0.out.alloc _).alloc _) | exact (X0.out.drew.alloc _) | exact ((X0.out.alloc _).drew.alloc _)) ho1 hg1 (hat1.imp id (fun h => h.trans (by first | rfl | (simp; done))))); have T1 := Lib.hid (NetStep.growE (W := _) (s := sa + 1) (cap := cap1) (by first | exact (S0.out.alloc _) | exact ((S0.out.alloc _).alloc _) | exact (S0.out.drew.alloc _) | exact ((S0.out.alloc _).drew.alloc _)) hg1 (hat1.imp id (fun h => h.trans (by first | rfl | (simp; done))))); clear hg1 ho1 hat1 hl1 k0 k1 k2 h1 h2 s0 ng0 ng1; obtain ⟨k0, k1, k2, h1, h2, s0, ng0, ng1⟩ := D1.out.facts))
  all_goals
    have X1 := Lib.hid (D1.out.store1 rfl)
    have S1 := Lib.hid (T1.out.set 1 (.slice (some ⟨g1, 0, none⟩) (sa + 1) cap1))
    go_wp2_with (at_builtin; refine wpList_append_lies _ rfl _ _ 33 rfl (bx + 1) 3 i1 (.int .i64 0) 1 8 Try.underlying33 hii hy0 hy1 hy2 rfl (by decide) _ _ _ rfl ((by first | exact X1.out.rowT.alloc _ | exact ((X1.out.alloc _).rowT.alloc _) | exact X1.out.drew.rowT.alloc _ | exact ((X1.out.alloc _).drew.rowT.alloc _))) ⟨_, 0, none⟩ 1 1 _ rfl rfl (World.news_of_block (heap_made _ _ _ (by first | rfl | omega | (simp; done) | (simp; omega)))) (one_c1 _) (by decide) (by unfold maxLen; omega) (by omega) (by first | omega | (simp; done) | (simp; omega)) _ rfl ?_)
    intro g2 cap2 w2 ho2 hg2 hat2 hl2
    ( have D2 := Lib.hid (NetR.growT (W := _) x (by first | exact (X1.out.alloc _) | exact ((X1.out.alloc _).alloc _) | exact (X1.out.drew.alloc _) | exact ((X1.out.alloc _).drew.alloc _)) (by simp [intV]) ho2 hg2 (hat2.imp id (fun h => h.trans (by first | rfl | (simp; done))))); have T2 := Lib.hid (NetStep.growT (W := _) (s := sb + 1) (cap := cap2) (by first | exact (S1.out.alloc _) | exact ((S1.out.alloc _).alloc _) | exact (S1.out.drew.alloc _) | exact ((S1.out.alloc _).drew.alloc _)) hg2 (hat2.imp id (fun h => h.trans (by first | rfl | (simp; done))))); clear hg2 ho2 hat2 hl2 k0 k1 k2 h1 h2 s0 ng0 ng1; obtain ⟨k0, k1, k2, h1, h2, s0, ng0, ng1⟩ := D2.out.facts)
    have X2 := Lib.hid (D2.out.store2 rfl)
    have S2 := Lib.hid (T2.out.set 2 (.slice (some ⟨g2, 0, none⟩) (sb + 1) cap2))
    go_wp2_with fail
    go_end0
    exact ⟨rfl, _, _, _, _, X2.out, S2.out⟩

theorem lkE_of (e : GL) : lkE e = (if e.h = 1000000 then [] else [⟨e.f, e.t, e.h⟩]) ++ (if e.l = -1000000 then [] else [⟨e.t, e.f, -e.l⟩]) := rfl
set_option maxRecDepth 100000 in
set_option maxHeartbeats 8000000 in
theorem addLink_any (bx : Nat) (n : Int) (A : Option Addr) (sa c : Nat) (B : Option Addr) (sb d : Nat) (E : List GE) (T : List Int) (i f t lo hi : Int) (w : World) (hok : okI lo hi = true) (hsa : sa ≤ 900) (hsb : sb ≤ 900) (h : NetR w bx n (.slice A sa c) (.slice B sb d) (.slice A sa c) (.slice B sb d) sa sb E T) :
    Calls Try.prog 80 #[.pointer (some ⟨bx, 0, none⟩), .int .i64 i, .agg #[.int .i64 f, .int .i64 t, .int .i64 lo, .int .i64 hi]] w fun e w' => NetDone w bx n (.slice A sa c) (.slice B sb d) (sa + (lkE ⟨f, t, lo, hi⟩).length) (sb + (lkI ⟨f, t, lo, hi⟩ i).length) (E ++ lkE ⟨f, t, lo, hi⟩) (T ++ lkI ⟨f, t, lo, hi⟩ i) e w' := by
  have hwr : IntKind.i64.wrap (-lo) = -lo := okL_wrap hok
  have hlt := h.lt
  have ltE := h.rowE.lt
  have ltT := h.rowT.lt
  have X0 := Lib.hid (h.alloc (.cells #[.int .i64 f, .int .i64 t, .int .i64 lo, .int .i64 hi] 76))
  have S0 := Lib.hid ((NetStep.refl w bx (.slice A sa c) (.slice B sb d)).alloc (.cells #[.int .i64 f, .int .i64 t, .int .i64 lo, .int .i64 hi] 76))
  have HA := Lib.hid (fun A' c' B' d' x p q r W E' T' sa' sb' h1 h2 hh => addEdge_any bx n A' sa' c' B' sb' d' E' T' x p q r W h1 h2 hh)
  have NE : Hid ((Value.slice A sa c).ownBlock ≠ some w.heap.size ∧ (Value.slice B sb d).ownBlock ≠ some w.heap.size ∧ w.heap.size ≠ bx) := Lib.hid ⟨fun e => by have := (ltE _ e).2; omega, fun e => by have := (ltT _ e).2; omega, by omega⟩
  have ng : (bx = w.heap.size) = False := eq_false (by omega)
  have ng2 : (w.heap.size = bx) = False := eq_false (by omega)
  clear h ltE ltT
  by_cases hH : hi = 1000000
  · subst hH
    have nH : ((1000000 : Int) != 1000000) = false := by simp
    by_cases hL : lo = -1000000
    · subst hL
      have nL : ((-1000000 : Int) != -1000000) = false := by simp
      go_enter Try.func80, Try.ntmps80
      go_wp2_with fail
      go_end0
      exact ⟨rfl, A, c, B, d, by simpa [lkE, lkH, lkL, lkI] using X0.out, S0.out⟩
    · have nL : (lo != -1000000) = true := by simp [hL]
      have HL := Lib.hid hL
      clear hL
      go_enter Try.func80, Try.ntmps80
      go_wp2_with fail
      refine (HA.out A c B d _ _ _ _ _ _ _ _ _ (by omega) (by omega) X0.out).mono ?_
      rintro e w1 ⟨rfl, A1, c1, B1, d1, x1, s1⟩
      go_wp2_with fail
      go_end0
      have e1 : lkE ⟨f, t, lo, 1000000⟩ = [⟨t, f, -lo⟩] := by simp [lkE, lkH, lkL, HL.out]
      have e2 : lkI ⟨f, t, lo, 1000000⟩ i = [i] := by simp [lkI, HL.out]
      rw [e1, e2]
      exact ⟨rfl, A1, c1, B1, d1, x1, S0.out.trans s1⟩
  · have nH : (hi != 1000000) = true := by simp [hH]
    have HH := Lib.hid hH
    clear hH
    by_cases hL : lo = -1000000
    · subst hL
      have nL : ((-1000000 : Int) != -1000000) = false := by simp
      go_enter Try.func80, Try.ntmps80
      go_wp2_with fail
      refine (HA.out A c B d _ _ _ _ _ _ _ _ _ (by omega) (by omega) X0.out).mono ?_
      rintro e w1 ⟨rfl, A1, c1, B1, d1, x1, s1⟩
      have q0 : w1.cell? ⟨w.heap.size, 0, none⟩ = some (.int .i64 f) := s1.beside (by go_simp) (by simp) NE.out.2.2 NE.out.1 NE.out.2.1
      have q1 : w1.cell? ⟨w.heap.size, 1, none⟩ = some (.int .i64 t) := s1.beside (by go_simp) (by simp) NE.out.2.2 NE.out.1 NE.out.2.1
      have q2 : w1.cell? ⟨w.heap.size, 2, none⟩ = some (.int .i64 (-1000000)) := s1.beside (by go_simp) (by simp) NE.out.2.2 NE.out.1 NE.out.2.1
      have q3 : w1.cell? ⟨w.heap.size, 3, none⟩ = some (.int .i64 hi) := s1.beside (by go_simp) (by simp) NE.out.2.2 NE.out.1 NE.out.2.1
      have X1 := Lib.hid x1
      have S1 := Lib.hid (S0.out.trans s1)
      clear x1 s1
      go_wp2_with fail
      go_end0
      have e1 : lkE ⟨f, t, -1000000, hi⟩ = [⟨f, t, hi⟩] := by simp [lkE, lkH, lkL, HH.out]
      have e2 : lkI ⟨f, t, -1000000, hi⟩ i = [i] := by simp [lkI, HH.out]
      rw [e1, e2]
      exact ⟨rfl, A1, c1, B1, d1, X1.out, S1.out⟩
    · have nL : (lo != -1000000) = true := by simp [hL]
      have HL := Lib.hid hL
      clear hL
      go_enter Try.func80, Try.ntmps80
      go_wp2_with fail
      refine (HA.out A c B d _ _ _ _ _ _ _ _ _ (by omega) (by omega) X0.out).mono ?_
      rintro e w1 ⟨rfl, A1, c1, B1, d1, x1, s1⟩
      have q0 : w1.cell? ⟨w.heap.size, 0, none⟩ = some (.int .i64 f) := s1.beside (by go_simp) (by simp) NE.out.2.2 NE.out.1 NE.out.2.1
      have q1 : w1.cell? ⟨w.heap.size, 1, none⟩ = some (.int .i64 t) := s1.beside (by go_simp) (by simp) NE.out.2.2 NE.out.1 NE.out.2.1
      have q2 : w1.cell? ⟨w.heap.size, 2, none⟩ = some (.int .i64 lo) := s1.beside (by go_simp) (by simp) NE.out.2.2 NE.out.1 NE.out.2.1
      have q3 : w1.cell? ⟨w.heap.size, 3, none⟩ = some (.int .i64 hi) := s1.beside (by go_simp) (by simp) NE.out.2.2 NE.out.1 NE.out.2.1
      have X1 := Lib.hid x1
      have S1 := Lib.hid (S0.out.trans s1)
      clear x1 s1
      go_wp2_with fail
      refine (HA.out A1 c1 B1 d1 _ _ _ _ _ _ _ _ _ (by omega) (by omega) X1.out).mono ?_
      rintro e w2 ⟨rfl, A2, c2, B2, d2, x2, s2⟩
      have X2 := Lib.hid x2
      have S2 := Lib.hid (S1.out.trans s2)
      clear x2 s2
      go_wp2_with fail
      go_end0
      have e1 : lkE ⟨f, t, lo, hi⟩ = [⟨f, t, hi⟩, ⟨t, f, -lo⟩] := by simp [lkE, lkH, lkL, HH.out, HL.out]
      have e2 : lkI ⟨f, t, lo, hi⟩ i = [i, i] := by simp [lkI, HH.out, HL.out]
      rw [e1, e2]
      exact ⟨rfl, A2, c2, B2, d2, by simpa using X2.out, S2.out⟩

end Go.Proofs.Yteppmlepbfjnpaa

namespace Go.Proofs.Yteppmlepbfjnpaa
open Go.RowKit
set_option linter.unusedVariables false
set_option linter.unusedSimpArgs false

def mixV (a b : Value) (i : Nat) : Nat → Value := fun t => if t < i then a else b
theorem mixV_zero (a b : Value) : mixV a b 0 = fun _ => b := by funext t; simp [mixV]
theorem mixV_set (a b : Value) (i : Nat) : upf (mixV a b i) i a = mixV a b (i + 1) := by
  funext t; unfold upf mixV
  by_cases e : t = i
  · subst e; rw [if_pos rfl, if_pos (by omega)]
  · rw [if_neg e]
    by_cases l : t < i
    · rw [if_pos l, if_pos (by omega)]
    · rw [if_neg l, if_neg (by omega)]

/-- An empty slice literal is the call's own. -/
theorem owns_zero (w : World) (t : TypeId) : (w.alloc (.cells #[] t)).ownsRow w.heap.size t 1 (.slice (some ⟨w.heap.size, 0, none⟩) 0 0) 0 [] :=
  ⟨rfl, .inr ⟨w.heap.size, 0, #[], rfl, Nat.le_refl _, World.alloc_heap_new w _, Nat.le_refl _, Nat.zero_le _, rfl, rfl⟩⟩

set_option maxRecDepth 100000 in
set_option maxHeartbeats 8000000 in
theorem spec_NegativeCycle (n : Int) (es : List GE) (A : Option Addr) (k c : Nat) (w : World) (hn : es.length = k) (hk : k ≤ 1048576) (hr : EdgeAt w A es) :
    Calls Try.prog 89 #[grV n A k c] w fun e w' =>
      ∃ B m cb, e = .returned (.slice B m cb) ∧ m = (cycR n es).length ∧ RowAt w' B ((cycR n es).map intV) ∧ Below w.heap.size w w' := by
  have hg := fun W h => spec_GraphOk n es A k c W hn hk h
  have HR := Lib.hid hr
  have HL := Lib.hid hn
  clear hr hn
  obtain ⟨ok, hok⟩ : ∃ b, b = okG n es := ⟨_, rfl⟩
  rw [← hok] at hg
  have HG := Lib.hid hg
  have HO := Lib.hid hok
  clear hok hg
  cases ok with
  | false =>
    unfold grV at HG ⊢
    go_enter Try.func89, Try.ntmps89
    go_wp2_with fail
    refine (HG.out _ (HR.out.below (by repeat (first | exact Below.refl _ _ | refine below_step (by assumption) (by first | omega | (simp; done) | (simp; omega)) ?_ | refine below_drewN ?_ _ | refine Below.drew ?_ | refine Below.setCell ?_ (by first | omega | (simp; done) | (simp; omega)) _ | refine Below.alloc ?_ (by first | omega | (simp; done) | (simp; omega)) _)))).mono ?_
    rintro e w1 ⟨rfl, b1⟩
    go_wp2_with fail
    go_ret
    have h := cycR_no (n := n) (es := es) HO.out.symm
    exact ⟨none, 0, 0, rfl, by rw [h]; rfl, by rw [h]; exact fun hx => by simp at hx, (by repeat (first | exact Below.refl _ _ | refine below_step (by assumption) (by first | omega | (simp; done) | (simp; omega)) ?_ | refine below_drewN ?_ _ | refine Below.drew ?_ | refine Below.setCell ?_ (by first | omega | (simp; done) | (simp; omega)) _ | refine Below.alloc ?_ (by first | omega | (simp; done) | (simp; omega)) _))⟩
  | true =>
    have hrng := okG_rng HO.out.symm
    obtain ⟨N, rfl⟩ : ∃ N : Nat, n = N := ⟨n.toNat, by omega⟩
    have hN8 : N ≤ 8 := by omega
    have hk80 : k ≤ 80 := by have := HL.out; omega
    clear hrng
    by_cases hz : N = 0
    · have hzb : ((N : Int) == 0) = true := by simp [hz]
      have HZ := Lib.hid hz
      clear hz
      unfold grV at HG ⊢
      go_enter Try.func89, Try.ntmps89
      go_wp2_with fail
      refine (HG.out _ (HR.out.below (by repeat (first | exact Below.refl _ _ | refine below_step (by assumption) (by first | omega | (simp; done) | (simp; omega)) ?_ | refine below_drewN ?_ _ | refine Below.drew ?_ | refine Below.setCell ?_ (by first | omega | (simp; done) | (simp; omega)) _ | refine Below.alloc ?_ (by first | omega | (simp; done) | (simp; omega)) _)))).mono ?_
      rintro e w1 ⟨rfl, b1⟩
      have ka1 : w1.cell? ⟨w.heap.size, 0, none⟩ = some (.int .i64 (N : Int)) := (b1.cell (p := ⟨w.heap.size, 0, none⟩) (by first | omega | (simp; done) | (simp; omega))).trans (by first | assumption | go_simp)
      have B1 : Below w.heap.size w w1 := (by repeat (first | exact Below.refl _ _ | refine below_step (by assumption) (by first | omega | (simp; done) | (simp; omega)) ?_ | refine below_drewN ?_ _ | refine Below.drew ?_ | refine Below.setCell ?_ (by first | omega | (simp; done) | (simp; omega)) _ | refine Below.alloc ?_ (by first | omega | (simp; done) | (simp; omega)) _))
      clear b1
      go_wp2_with fail
      go_ret
      have h := cycR_nil (N := N) (es := es) (by rw [HZ.out]; rfl)
      exact ⟨none, 0, 0, rfl, by rw [h]; rfl, by rw [h]; exact fun hx => by simp at hx, B1⟩
    have hzb : ((N : Int) == 0) = false := by simp [hz]
    have hN0 : 0 < N := by omega
    clear hz
    obtain ⟨i0, hi, hz0, hz1, hz2⟩ := info_parts Try.info3
    obtain ⟨j0, hj, hj0, hj1, hj2⟩ := info_parts Try.info4
    have hb2 : i0.bytes * N ≤ 281474976710656 := by rw [hz2]; omega
    have hb3 : j0.bytes * N ≤ 281474976710656 := by rw [hj2]; omega
    unfold grV at HG ⊢
    go_enter Try.func89, Try.ntmps89
    go_wp2_with fail
    refine (HG.out _ (HR.out.below (by repeat (first | exact Below.refl _ _ | refine below_step (by assumption) (by first | omega | (simp; done) | (simp; omega)) ?_ | refine below_drewN ?_ _ | refine Below.drew ?_ | refine Below.setCell ?_ (by first | omega | (simp; done) | (simp; omega)) _ | refine Below.alloc ?_ (by first | omega | (simp; done) | (simp; omega)) _)))).mono ?_
    rintro e w1 ⟨rfl, b1⟩
    have ka1 : w1.cell? ⟨w.heap.size, 0, none⟩ = some (.int .i64 (N : Int)) := (b1.cell (p := ⟨w.heap.size, 0, none⟩) (by first | omega | (simp; done) | (simp; omega))).trans (by first | assumption | go_simp)
    have kb1 : w1.cell? ⟨w.heap.size, 1, none⟩ = some (.slice A k c) := (b1.cell (p := ⟨w.heap.size, 1, none⟩) (by first | omega | (simp; done) | (simp; omega))).trans (by first | assumption | go_simp)
    have sz1 : w.heap.size < w1.heap.size := Nat.lt_of_lt_of_le (by first | omega | (simp; done) | (simp; omega)) b1.size
    have B1 : Below w.heap.size w w1 := (by repeat (first | exact Below.refl _ _ | refine below_step (by assumption) (by first | omega | (simp; done) | (simp; omega)) ?_ | refine below_drewN ?_ _ | refine Below.drew ?_ | refine Below.setCell ?_ (by first | omega | (simp; done) | (simp; omega)) _ | refine Below.alloc ?_ (by first | omega | (simp; done) | (simp; omega)) _))
    clear b1
    go_wp2_with (at_make; refine wpList_make_full _ rfl _ _ 33 rfl w1.heap.size 3 i0 (.int .i64 0) 1 Try.underlying33 hi hz0 hz1 .i64 .i64 _ _ N rfl rfl rfl rfl hb2 (by unfold maxLen; omega) (Nat.le_refl _) ?_)
    intro w2 h2 g2
    have b2 : Below w1.heap.size w1 w2 := (Below.refl _ w1).grown g2 (Nat.le_refl _) (fun k hk => by cases hk)
    have hl2 := (h2.lt _ rfl).2
    have ka2 := (b2.cell (p := ⟨w.heap.size, 0, none⟩) (by dsimp only; omega)).trans ka1
    have kb2 := (b2.cell (p := ⟨w.heap.size, 1, none⟩) (by dsimp only; omega)).trans kb1
    have B2 : Below w.heap.size w w2 := B1.trans (b2.mono (by omega))
    have R2 : RowF w2 w1.heap.size 0 N (fun _ => .int .i64 0) := row_made (by rw [toList_madeCells_one] at h2; exact h2) hl2
    clear g2 h2 b2
    go_wp2_with (at_make; refine wpList_make_full _ rfl _ _ 33 rfl w2.heap.size 3 i0 (.int .i64 0) 1 Try.underlying33 hi hz0 hz1 .i64 .i64 _ _ N rfl rfl rfl rfl hb2 (by unfold maxLen; omega) (Nat.le_refl _) ?_)
    intro w3 h3 g3
    have b3 : Below w2.heap.size w2 w3 := (Below.refl _ w2).grown g3 (Nat.le_refl _) (fun k hk => by cases hk)
    have hl3 := (h3.lt _ rfl).2
    have ka3 := (b3.cell (p := ⟨w.heap.size, 0, none⟩) (by dsimp only; omega)).trans ka2
    have kb3 := (b3.cell (p := ⟨w.heap.size, 1, none⟩) (by dsimp only; omega)).trans kb2
    have B3 : Below w.heap.size w w3 := B2.trans (b3.mono (by omega))
    have R3 := R2.below b3 hl2
    have S3 : RowF w3 w2.heap.size 0 N (fun _ => .int .i64 0) := row_made (by rw [toList_madeCells_one] at h3; exact h3) hl3
    clear g3 h3 b3 R2
    go_wp2_with (at_make; refine wpList_make_full _ rfl _ _ 133 rfl w3.heap.size 4 j0 (.bool false) 1 Try.underlying133 hj hj0 hj1 .i64 .i64 _ _ N rfl rfl rfl rfl hb3 (by unfold maxLen; omega) (Nat.le_refl _) ?_)
    intro w4 h4 g4
    have b4 : Below w3.heap.size w3 w4 := (Below.refl _ w3).grown g4 (Nat.le_refl _) (fun k hk => by cases hk)
    have hl4 := (h4.lt _ rfl).2
    have ka4 := (b4.cell (p := ⟨w.heap.size, 0, none⟩) (by dsimp only; omega)).trans ka3
    have kb4 := (b4.cell (p := ⟨w.heap.size, 1, none⟩) (by dsimp only; omega)).trans kb3
    have B4 : Below w.heap.size w w4 := B3.trans (b4.mono (by omega))
    have R4 := R3.below b4 (by omega)
    have S4 := S3.below b4 hl3
    have T4 : RowF w4 w3.heap.size 0 N (fun _ => .bool false) := row_made (by rw [toList_madeCells_one] at h4; exact h4) hl4
    clear g4 h4 b4 R3 S3 ka1 kb1 ka2 kb2 ka3 kb3
    obtain ⟨gd, hgd⟩ : ∃ g, g = w1.heap.size := ⟨_, rfl⟩
    obtain ⟨gl, hgl⟩ : ∃ g, g = w2.heap.size := ⟨_, rfl⟩
    obtain ⟨gk, hgk⟩ : ∃ g, g = w3.heap.size := ⟨_, rfl⟩
    rw [← hgd] at R4 hl2 sz1 ⊢
    rw [← hgl] at S4 hl2 hl3 ⊢
    rw [← hgk] at T4 hl3 hl4 ⊢
    clear hgd hgl hgk B1 B2 B3
    have hgw : w.heap.size < gd := sz1
    have HR4 := Lib.hid R4
    have hS0 : RowF w4 gl 0 N (mixV (.int .i64 (-1)) (.int .i64 0) 0) := by rw [mixV_zero]; exact S4
    have hT0 : RowF w4 gk 0 N (mixV (.bool true) (.bool false) 0) := by rw [mixV_zero]; exact T4
    have HS0 := Lib.hid hS0
    have HT0 := Lib.hid hT0
    clear R4 S4 T4 hS0 hT0
    go_wp2_with fail
    -- known and last are set
    go_loopw [32] (fun i wr => ∃ q : Nat, q ≤ N ∧ i = .int .i64 q ∧ RowF wr gd 0 N (fun _ => .int .i64 0) ∧ RowF wr gl 0 N (mixV (.int .i64 (-1)) (.int .i64 0) q) ∧ RowF wr gk 0 N (mixV (.bool true) (.bool false) q) ∧ Below gd w4 wr) (fun i _ => N - (intOf i).toNat)
    case atStart => exact ⟨0, Nat.zero_le _, rfl, HR4.out, HS0.out, HT0.out, Below.refl _ _⟩
    case round =>
      obtain ⟨q, hq, rfl, hD, hLr, hK, hbw⟩ := hrel
      by_cases hlt : q < N
      · have f1 : wr.cell? ⟨gk, q, none⟩ = some (.bool false) := by simpa [mixV] using hK.cell q hlt
        have f2 : wr.cell? ⟨gl, q, none⟩ = some (.int .i64 0) := by simpa [mixV] using hLr.cell q hlt
        have r1 : wr.frozen? ⟨gk, q, none⟩ = false := by simpa using hK.free q hlt
        have r2 : wr.frozen? ⟨gl, q, none⟩ = false := by simpa using hLr.free q hlt
        have n3 : (gl = gk) = False := eq_false (by omega)
        have n4 : (gk = gl) = False := eq_false (by omega)
        have HD := Lib.hid hD
        have HLr := Lib.hid hLr
        have HK := Lib.hid hK
        clear hD hLr hK
        go_wp2_with fail
        go_roundw
        case rel => exact ⟨q + 1, by omega, by go_num, (HD.out.other (by dsimp only; omega) _).other (by dsimp only; omega) _, by rw [← mixV_set]; exact (HLr.out.other (by dsimp only; omega) _).store (by omega) hlt _, by rw [← mixV_set]; exact (HK.out.store (by omega) hlt _).other (by dsimp only; omega) _, (hbw.setCell (by dsimp only; omega) _).setCell (by dsimp only; omega) _⟩
        case measure => simp [intOf]; omega
      · have : q = N := by omega
        subst this
        obtain ⟨w5, rfl⟩ : ∃ w5 : World, w5 = wr := ⟨_, rfl⟩
        have hS : SpAt w5 gd gl gk q (s0C q (-1)) := ⟨hD.congr (fun j hj => rfl), hLr.congr (fun j hj => by simp [mixV, hj, fI, s0C]), hK.congr (fun j hj => by simp [mixV, hj, fB, s0C])⟩
        have HS := Lib.hid hS
        have ka5 := (hbw.cell (p := ⟨w.heap.size, 0, none⟩) hgw).trans ka4
        have kb5 := (hbw.cell (p := ⟨w.heap.size, 1, none⟩) hgw).trans kb4
        have hB5 : Below w.heap.size w w5 := B4.trans (hbw.mono (by omega))
        clear hD hLr hK hS hbw hlt
        go_wp2_with fail
        -- the rounds
        go_loopw [7, 8] (fun ch i wr => ∃ r : Nat, r ≤ q ∧ i = .int .i64 r ∧ ch = .int .i64 (roundsE es (s0C q (-1)) r).2 ∧ SpAt wr gd gl gk q (roundsE es (s0C q (-1)) r).1 ∧ Below gd w5 wr) (fun _ i _ => q - (intOf i).toNat)
        case atStart => exact ⟨0, Nat.zero_le _, rfl, rfl, HS.out, Below.refl _ _⟩
        case round =>
          obtain ⟨r, hr, rfl, rfl, hsp, hbw⟩ := hrel
          have kar := (hbw.cell (p := ⟨w.heap.size, 0, none⟩) hgw).trans ka5
          have kbr := (hbw.cell (p := ⟨w.heap.size, 1, none⟩) hgw).trans kb5
          by_cases hlt : r < q
          · obtain ⟨sq, hsq⟩ : ∃ s, s = (roundsE es (s0C q (-1)) r).1 := ⟨_, rfl⟩
            have hnx : roundsE es (s0C q (-1)) (r + 1) = passTo es sq es.length := by rw [hsq]; rfl
            rw [HL.out] at hnx
            rw [← hsq] at hsp
            have hBr : Below w.heap.size w wr := hB5.trans (hbw.mono (by omega))
            have hcl := l03Round_any q es A k c gd gl gk q q q sq w wr HL.out HO.out.symm HR.out hBr (by omega) hsp (by omega) (by omega)
            unfold grV at hcl
            have HNX := Lib.hid hnx
            have HCL := Lib.hid hcl
            clear hsp hsq hnx hcl
            go_wp2_with (go_at_call 103; refine HCL.out.mono ?_; rintro e w6 ⟨rfl, hs6, hb6⟩)
            go_roundw
            case rel => exact ⟨r + 1, by omega, by go_num, by rw [HNX.out], by rw [HNX.out]; exact hs6, hbw.trans hb6⟩
            case measure => simp [intOf]; omega
          · have : r = q := by omega
            subst this
            obtain ⟨w6, rfl⟩ : ∃ w6 : World, w6 = wr := ⟨_, rfl⟩
            have hB6 : Below w.heap.size w w6 := hB5.trans (hbw.mono (by omega))
            have hsp2 : SpAt w6 gd gl gk r (endC r es).1 := hsp
            obtain ⟨ch, hch⟩ : ∃ ch, ch = (roundsE es (s0C r (-1)) r).2 := ⟨_, rfl⟩
            rw [← hch]
            have hch2 : (endC r es).2 = ch := hch.symm
            have HSP := Lib.hid hsp2
            have HCH := Lib.hid hch2
            clear hsp hsp2 hch hch2 hbw hlt
            by_cases h1 : ch = -1
            · have hneg : ch < 0 := by omega
              have H1 := Lib.hid h1
              clear h1
              go_wp2_with fail
              go_ret
              have h := cycR_nil (N := r) (es := es) (by rw [HCH.out]; exact H1.out)
              exact ⟨none, 0, 0, rfl, by rw [h]; rfl, by rw [h]; exact fun hx => by simp at hx, hB6⟩
            · have hcf := cyc_facts HO.out.symm (by rw [HCH.out]; exact h1)
              have hyes := cycR_yes HO.out.symm (by rw [HCH.out]; exact h1)
              rw [HCH.out] at hcf
              obtain ⟨jc, ec, hjc, _, hec, hhead, hpath, hp0, _, hper, hmin, hp8⟩ := hcf
              subst hjc
              have HYES := Lib.hid hyes
              obtain ⟨la, hla⟩ : ∃ la, la = (endC r es).1.la := ⟨_, rfl⟩
              obtain ⟨v, hv⟩ : ∃ v, v = headC r es := ⟨_, rfl⟩
              obtain ⟨p, hpp⟩ : ∃ p, p = perC r es := ⟨_, rfl⟩
              obtain ⟨x, hx⟩ : ∃ x, x = atC r es := ⟨_, rfl⟩
              have hxv : itE es la v r = x := by rw [hla, hv, hx]; rfl
              rw [← hla, ← hv] at hpath
              rw [← hpp] at hp0 hp8
              rw [← hla, ← hpp, ← hx] at hper hmin
              have hjk : jc < k := by have := (List.getElem?_eq_some_iff.1 hec).1; have := HL.out; omega
              obtain ⟨g, o, rfl, hg, hc⟩ := HR.out (by have := HL.out; omega)
              obtain ⟨u0, v0, heq0, hu0, hv0⟩ := okG_edgeN HO.out.symm hec
              have hv0v : v0 = v := by rw [hv, hhead, heq0]; simp
              subst hv0v
              have hkeep : ∀ (wr : World), Below w6.heap.size w6 wr → ∀ y : Addr, y.block < w.heap.size → wr.cell? y = w.cell? y := fun wr hb y hy =>
                (hb.cell (p := y) (by have := hB6.size; omega)).trans (hB6.cell (p := y) hy)
              have f19 : w6.cell? ⟨g, o + jc * 3 + 1, none⟩ = some (.int .i64 (v0 : Int)) := by
                refine (hkeep w6 (Below.refl _ _) _ hg).trans ((hc jc (by have := HL.out; omega)).2.1.trans ?_)
                have : es[jc]'(by have := HL.out; omega) = ec := by rw [List.getElem?_eq_getElem (by have := HL.out; omega)] at hec; exact Option.some.inj hec
                rw [this, heq0]
              have hstep : ∀ (i : Nat) (wr : World), Below w6.heap.size w6 wr → ∃ (y u j : Nat), itE es la v0 i = y ∧ itE es la v0 (i + 1) = u ∧ y < r ∧ u < r ∧ j < k ∧ la y = j ∧
                  wr.cell? ⟨gl, y, none⟩ = some (.int .i64 (j : Int)) ∧ wr.cell? ⟨g, o + j * 3, none⟩ = some (.int .i64 (u : Int)) := by
                intro i wr hb
                obtain ⟨hx, j, e, hj, _, he⟩ := hpath i
                have hjk : j < es.length := (List.getElem?_eq_some_iff.1 he).1
                obtain ⟨u', v', heq, hu', hv'⟩ := okG_edgeN HO.out.symm he
                have hnx : itE es la v0 (i + 1) = u' := by show nxE es la _ = _; unfold nxE; rw [hj, edE_at es he, heq]; simp
                refine ⟨_, u', j, rfl, hnx, hx, hu', by have := HL.out; omega, hj, ?_, ?_⟩
                · have h3 := (HSP.out.la.below hb HSP.out.la.lt).cell (itE es la v0 i) hx
                  rw [Nat.zero_add] at h3
                  rw [h3, ← hj, hla]; rfl
                · refine (hkeep wr hb _ hg).trans ((hc j hjk).1.trans ?_)
                  have : es[j] = e := by rw [List.getElem?_eq_getElem hjk] at he; exact Option.some.inj he
                  rw [this, heq]
              have kar6 := kar
              have kbr6 := kbr
              have hgl6 := HSP.out.la.lt
              have hres : (cycR (r : Int) es) = (backE es la x p).reverse := by rw [HYES.out, ← hla, ← hpp, ← hx]
              have HRES := Lib.hid hres
              have HST := Lib.hid hstep
              have HPER := Lib.hid hper
              have HMIN := Lib.hid hmin
              have HXV := Lib.hid hxv
              have hwg : w.heap.size < w6.heap.size := by have := hB6.size; have := hgl6; omega
              have hgg : g < w6.heap.size := by omega
              have hji : (jc : Int) < (k : Int) := by omega
              have hneg : ¬ ((jc : Int) < 0) := by omega
              clear hc heq0 hec hkeep hpath hstep hhead hv hpp hx hla hyes h1 hres hper hmin hxv kar kbr HYES
              go_wp2_with fail
              -- the way back
              go_loopw [9, 10] (fun nd i wr => ∃ i' : Nat, i' ≤ r ∧ i = .int .i64 i' ∧ nd = .int .i64 (itE es la v0 i' : Nat) ∧ Below w6.heap.size w6 wr) (fun _ i _ => r - (intOf i).toNat)
              case atStart => exact ⟨0, Nat.zero_le _, rfl, rfl, Below.refl _ _⟩
              case round =>
                obtain ⟨i', hi', rfl, rfl, hbl⟩ := hrel
                have ka7 := (hbl.cell (p := ⟨w.heap.size, 0, none⟩) (by dsimp only; omega)).trans kar6
                have kb7 := (hbl.cell (p := ⟨w.heap.size, 1, none⟩) (by dsimp only; omega)).trans kbr6
                by_cases hlt : i' < r
                · obtain ⟨y, u, j, hy, hu, hy8, hu8, hjk2, hlj, f1, f2⟩ := HST.out i' wr hbl
                  rw [hy]
                  have HU := Lib.hid hu
                  have hyi : (y : Int) < (r : Int) := by omega
                  have hji2 : (j : Int) < (k : Int) := by omega
                  clear hy hu hlj
                  go_wp2_with fail
                  go_quiet (fail)
                  go_wp2_with fail
                  go_roundw
                  case rel => exact ⟨i' + 1, by omega, by go_num, by rw [HU.out], below_drewN hbl _⟩
                  case measure => simp [intOf]; omega
                · have : i' = r := by omega
                  subst this
                  obtain ⟨w7, rfl⟩ : ∃ w7 : World, w7 = wr := ⟨_, rfl⟩
                  rw [HXV.out]
                  clear hlt
                  go_wp2_with fail
                  have hz0' : (w7.alloc (.cells #[] 3)).ownsRow w7.heap.size 3 1 (.slice (some ⟨w7.heap.size, 0, none⟩) 0 0) 0 ((backE es la x 0).reverse.map intV) := owns_zero _ _
                  have HZ0 := Lib.hid hz0'
                  have HBL := Lib.hid hbl
                  have hs7 := hbl.size
                  clear hz0' hbl ka7 kb7
                  go_loopw [11, 12] (fun v' nd wx => ∃ (i g' cap : Nat), i ≤ p ∧ v' = .slice (some ⟨g', 0, none⟩) i cap ∧ nd = .int .i64 (itE es la x i : Nat) ∧ wx.ownsRow w7.heap.size 3 1 (.slice (some ⟨g', 0, none⟩) i cap) i ((backE es la x i).reverse.map intV) ∧ Below w7.heap.size w7 wx) (fun v' _ _ => p - lenOf v')
                  case atStart => exact ⟨0, _, _, Nat.zero_le _, rfl, rfl, HZ0.out, (Below.refl _ _).alloc (Nat.le_refl _) _⟩
                  case round =>
                    obtain ⟨wo, rfl⟩ : ∃ wo : World, wo = wr := ⟨_, rfl⟩
                    obtain ⟨i, g', cap, hip, rfl, rfl, hown, hbo⟩ := hrel
                    have hblo : Below w6.heap.size w6 wo := HBL.out.trans (hbo.mono hs7)
                    have ka8 := (hblo.cell (p := ⟨w.heap.size, 0, none⟩) (by dsimp only; omega)).trans kar6
                    have kb8 := (hblo.cell (p := ⟨w.heap.size, 1, none⟩) (by dsimp only; omega)).trans kbr6
                    obtain ⟨y, u', j', hy, hu', hy8, hu8', hjk', hlj', f1, f2⟩ := HST.out (i' + i) wo hblo
                    have hyi : itE es la x i = y := by rw [← HXV.out, ← itE_add]; exact hy
                    have hui : itE es la x (i + 1) = u' := by rw [← HXV.out, ← itE_add, ← Nat.add_assoc]; exact hu'
                    rw [hyi]
                    have hso := hbo.size
                    have hlto := (hown.lt g' rfl).2
                    have hyb : (y : Int) < (i' : Int) := by omega
                    have hjb : (j' : Int) < (k : Int) := by omega
                    have j1 : w.heap.size < wo.heap.size := by omega
                    have j2 : g < wo.heap.size := by omega
                    have j3 : gl < wo.heap.size := by omega
                    have HYI := Lib.hid hyi
                    have HUI := Lib.hid hui
                    have HLJ := Lib.hid hlj'
                    have HOW := Lib.hid hown
                    clear hy hu' hyi hui hlj' hown
                    by_cases hlt2 : i < p
                    · have hgo : ((i : Int) == 0) = true ∨ (((i : Int) == 0) = false ∧ ((y : Int) != (x : Int)) = true) := by
                        by_cases hi0 : i = 0
                        · exact .inl (by simp [hi0])
                        · have := HMIN.out i (by omega) hlt2
                          rw [HYI.out] at this
                          exact .inr ⟨by simp [hi0], by simp; omega⟩
                      have HBK : Hid ((backE es la x (i + 1)).reverse.map intV = [.int .i64 (j' : Int)] ++ (backE es la x i).reverse.map intV) := Lib.hid (by rw [backE_succ, List.reverse_append, List.map_append, HYI.out, HLJ.out]; rfl)
                      rcases hgo with hb | ⟨hb, hb'⟩
                      all_goals
                        go_wp2_with (at_builtin; refine wpList_append_own _ rfl _ _ 33 rfl w7.heap.size 3 i0 (.int .i64 0) 1 8 Try.underlying33 hi hz0 hz1 hz2 rfl (by decide) _ _ _ rfl (own_base (owns_one wo _ _) hso) ⟨g', 0, none⟩ i cap ((backE es la x i).reverse.map intV) rfl ?_ ?_ ?_ ?_ ?_ ?_ ?_)
                        · simp [backE_length]
                        · intro t v ht
                          have h3 := (HOW.out.alloc (.cells #[.int .i64 (j' : Int)] 3)).cellAt t (by have := (List.getElem?_eq_some_iff.1 ht).1; simp [backE_length] at this; omega)
                          rw [ht] at h3
                          rw [Go.WideShapes.add_plain, Nat.zero_add]
                          exact h3
                        · intro v hv
                          obtain ⟨z, _, rfl⟩ := List.mem_map.1 hv
                          rfl
                        · unfold maxLen; omega
                        · omega
                        · simp; omega
                        intro v' w8 hown5 hg5 _
                        have hb5 : Below w7.heap.size wo w8 := ((Below.refl _ wo).alloc hso _).grown hg5 (by simp; omega) (fun t ht => by cases ht; exact hso)
                        have hown5 : w8.ownsRow w7.heap.size 3 1 v' (i + 1) ((backE es la x (i + 1)).reverse.map intV) := by rw [HBK.out, Nat.add_comm i 1]; simpa [List.map_reverse] using hown5
                        obtain ⟨g5, cap5, rfl⟩ := ownsRow_succ hown5
                        have hbo5 : Below w7.heap.size w7 w8 := hbo.trans hb5
                        have hbl5 : Below w6.heap.size w6 w8 := HBL.out.trans (hbo5.mono hs7)
                        have kb9 := (hbl5.cell (p := ⟨w.heap.size, 1, none⟩) (by dsimp only; omega)).trans kbr6
                        have f15 : w8.cell? ⟨gl, y, none⟩ = some (.int .i64 (j' : Int)) := (hb5.cell (p := ⟨gl, y, none⟩) (by dsimp only; omega)).trans f1
                        have f25 : w8.cell? ⟨g, o + j' * 3, none⟩ = some (.int .i64 (u' : Int)) := (hb5.cell (p := ⟨g, o + j' * 3, none⟩) (by dsimp only; omega)).trans f2
                        have HO5 := Lib.hid hown5
                        clear hg5 hown5 hb5 f1 f2 ka8 kb8
                        go_wp2_with fail
                        go_quiet (fail)
                        go_wp2_with fail
                        go_roundw
                        case rel => exact ⟨i + 1, g5, cap5, by omega, rfl, by rw [HUI.out], own_below HO5.out (below_drewN (Below.refl _ _) _), below_drewN hbo5 _⟩
                        case measure => simp [lenOf]; omega
                    · have : i = p := by omega
                      subst this
                      have hyx : y = x := by rw [← HYI.out]; exact HPER.out
                      have hyx2 : ((y : Int) != (x : Int)) = false := by simp [hyx]
                      have hi0 : ((i : Int) == 0) = false := by simp; omega
                      clear hyx
                      go_wp2_with fail
                      go_ret
                      refine ⟨_, i, _, rfl, by rw [HRES.out, List.length_reverse, backE_length], by rw [HRES.out]; exact own_row HOW.out, hB6.trans (hblo.mono (by omega))⟩

end Go.Proofs.Yteppmlepbfjnpaa
