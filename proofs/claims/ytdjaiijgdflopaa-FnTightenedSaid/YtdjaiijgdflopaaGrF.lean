/-
  ROWS OF CELLS IN ONE BLOCK, BY A FUNCTION OF THE INDEX: what a new block, a draw, a store do to them; the state of the rounds in memory, in the model's three slices and in the program's one struct.
-/
import Derived.Test.YtdjaiijgdflopaaGrB
namespace Go.Proofs.Ytdjaiijgdflopaa
open Go.RowKit
set_option linter.unusedVariables false
set_option linter.unusedSimpArgs false

/-- From offset o of block g on lie n cells, none frozen, the j-th holding f j. -/
structure RowF (W : World) (g o n : Nat) (f : Nat → Value) : Prop where
  lt : g < W.heap.size
  cell : ∀ j, j < n → W.cell? ⟨g, o + j, none⟩ = some (f j)
  free : ∀ j, j < n → W.frozen? ⟨g, o + j, none⟩ = false

theorem RowF.of_heap {W W' : World} {g o n : Nat} {f : Nat → Value} (h : RowF W g o n f) (hs : W.heap.size ≤ W'.heap.size) (hb : W'.heap[g]? = W.heap[g]?) : RowF W' g o n f :=
  ⟨Nat.lt_of_lt_of_le h.lt hs, fun j hj => (World.cell?_of_block (a := ⟨g, o + j, none⟩) hb).trans (h.cell j hj), fun j hj => (World.frozen?_of_block (a := ⟨g, o + j, none⟩) hb).trans (h.free j hj)⟩
theorem RowF.drew {W : World} {g o n : Nat} {f : Nat → Value} (h : RowF W g o n f) : RowF W.drew g o n f := h.of_heap (Nat.le_refl _) rfl
theorem RowF.drewN {W : World} {g o n : Nat} {f : Nat → Value} (h : RowF W g o n f) (q : Nat) : RowF (W.drewN q) g o n f := h.of_heap (Nat.le_refl _) rfl
theorem RowF.alloc {W : World} {g o n : Nat} {f : Nat → Value} (h : RowF W g o n f) (x : Obj) : RowF (W.alloc x) g o n f := h.of_heap (by simp) (Below.heap_alloc W x g h.lt)
theorem RowF.below {W W' : World} {g o n B : Nat} {f : Nat → Value} (h : RowF W g o n f) (hb : Below B W W') (hg : g < B) : RowF W' g o n f := h.of_heap hb.size (hb.block g hg)
theorem RowF.other {W : World} {g o n : Nat} {f : Nat → Value} (h : RowF W g o n f) {p : Addr} (hp : p.block ≠ g) (x : Value) : RowF (W.setCell p x) g o n f :=
  h.of_heap (by simp [World.setCell]) (Below.heap_setCell W p x g (fun e => hp e.symm))
theorem RowF.congr {W : World} {g o n : Nat} {f f' : Nat → Value} (h : RowF W g o n f) (e : ∀ j, j < n → f j = f' j) : RowF W g o n f' :=
  ⟨h.lt, fun j hj => (h.cell j hj).trans (by rw [e j hj]), h.free⟩
theorem setCell_frozen_block (W : World) (p : Addr) (x : Value) (a : Addr) : (W.setCell p x).frozen? a = W.frozen? a := World.frozen?_setCell _ _ _ _
/-- A store at the i-th. -/
theorem RowF.store {W : World} {g o n : Nat} {f : Nat → Value} (h : RowF W g o n f) {q i : Nat} (hq : q = o + i) (hi : i < n) (x : Value) : RowF (W.setCell ⟨g, q, none⟩ x) g o n (upf f i x) := by
  subst hq
  refine ⟨by simpa [World.setCell] using h.lt, fun j hj => ?_, fun j hj => (setCell_frozen_block _ _ _ _).trans (h.free j hj)⟩
  by_cases e : j = i
  · subst e
    rw [World.cell?_setCell_same _ _ _ (h.cell j hj)]; simp [upf]
  · rw [World.cell?_setCell_other _ _ _ _ (by intro h; simp only [Addr.mk.injEq] at h; omega), h.cell j hj]; simp [upf, e]
/-- A store at another offset of the block. -/
theorem RowF.beside {W : World} {g o n : Nat} {f : Nat → Value} (h : RowF W g o n f) {q : Nat} (hq : q < o ∨ o + n ≤ q) (x : Value) : RowF (W.setCell ⟨g, q, none⟩ x) g o n f :=
  ⟨by simpa [World.setCell] using h.lt, fun j hj => by rw [World.cell?_setCell_other _ _ _ _ (by intro h; simp only [Addr.mk.injEq] at h; omega), h.cell j hj], fun j hj => (setCell_frozen_block _ _ _ _).trans (h.free j hj)⟩

def fI (f : Nat → Int) : Nat → Value := fun j => .int .i64 (f j)
def fB (f : Nat → Bool) : Nat → Value := fun j => .bool (f j)
theorem fI_up (f : Nat → Int) (i : Nat) (x : Int) : upf (fI f) i (.int .i64 x) = fI (upf f i x) := by
  funext j; unfold upf fI; dsimp only; split <;> rfl
theorem fB_up (f : Nat → Bool) (i : Nat) (x : Bool) : upf (fB f) i (.bool x) = fB (upf f i x) := by
  funext j; unfold upf fB; dsimp only; split <;> rfl

/-- The state in the model's three slices. -/
structure SpAt (W : World) (gd gl gk N : Nat) (s : St) : Prop where
  nu : RowF W gd 0 N (fI s.nu)
  la : RowF W gl 0 N (fI s.la)
  kn : RowF W gk 0 N (fB s.kn)
/-- The state in the program's struct. -/
structure MkAt (W : World) (b : Nat) (s : St) : Prop where
  kn : RowF W b 0 8 (fB s.kn)
  nu : RowF W b 8 8 (fI s.nu)
  la : RowF W b 16 8 (fI s.la)
theorem MkAt.of_heap {W W' : World} {b : Nat} {s : St} (h : MkAt W b s) (hs : W.heap.size ≤ W'.heap.size) (hb : W'.heap[b]? = W.heap[b]?) : MkAt W' b s := ⟨h.kn.of_heap hs hb, h.nu.of_heap hs hb, h.la.of_heap hs hb⟩
theorem MkAt.alloc {W : World} {b : Nat} {s : St} (h : MkAt W b s) (x : Obj) : MkAt (W.alloc x) b s := ⟨h.kn.alloc x, h.nu.alloc x, h.la.alloc x⟩
theorem MkAt.drew {W : World} {b : Nat} {s : St} (h : MkAt W b s) : MkAt W.drew b s := ⟨h.kn.drew, h.nu.drew, h.la.drew⟩
theorem MkAt.drewN {W : World} {b : Nat} {s : St} (h : MkAt W b s) (q : Nat) : MkAt (W.drewN q) b s := ⟨h.kn.drewN q, h.nu.drewN q, h.la.drewN q⟩
theorem MkAt.other {W : World} {b : Nat} {s : St} (h : MkAt W b s) {p : Addr} (hp : p.block ≠ b) (x : Value) : MkAt (W.setCell p x) b s := ⟨h.kn.other hp x, h.nu.other hp x, h.la.other hp x⟩
theorem upd_nu {s : St} {e : GE} {v : Nat} {sv : Int} (hv : e.v.toNat = v) (hs : sumE s e = sv) (i : Nat) : upf (fI s.nu) v (.int .i64 sv) = fI (updE s i e).nu := by subst hv; subst hs; exact fI_up _ _ _
theorem upd_la {s : St} {e : GE} {v : Nat} (hv : e.v.toNat = v) (i : Nat) : upf (fI s.la) v (.int .i64 (i : Int)) = fI (updE s i e).la := by subst hv; exact fI_up _ _ _
theorem upd_kn {s : St} {e : GE} {v : Nat} (hv : e.v.toNat = v) (i : Nat) : upf (fB s.kn) v (.bool true) = fB (updE s i e).kn := by subst hv; exact fB_up _ _ _

theorem World.grownBy_self (w : World) (r : Option Nat) : w.grownBy w r := ⟨rfl, rfl, rfl, Nat.le_refl _, fun _ _ _ => rfl⟩
theorem grown_drew {w w' : World} {r : Option Nat} (h : w.grownBy w' r) : w.grownBy w'.drew r := ⟨h.os, h.tape, h.output, h.size, h.block⟩
theorem grown_drewN {w w' : World} {r : Option Nat} (h : w.grownBy w' r) (q : Nat) : w.grownBy (w'.drewN q) r := ⟨h.os, h.tape, h.output, h.size, h.block⟩
theorem grown_alloc {w w' : World} {r : Option Nat} (h : w.grownBy w' r) (o : Obj) : w.grownBy (w'.alloc o) r :=
  ⟨h.os, h.tape, h.output, by have := h.size; simp; omega, fun k hk hr => (Below.heap_alloc w' o k (Nat.lt_of_lt_of_le hk h.size)).trans (h.block k hk hr)⟩
theorem grown_set {w w' : World} {b : Nat} (h : w.grownBy w' (some b)) (q : Nat) (x : Value) : w.grownBy (w'.setCell ⟨b, q, none⟩ x) (some b) :=
  ⟨h.os, h.tape, h.output, by have := h.size; simpa [World.setCell] using this, fun k hk hr => (Below.heap_setCell w' ⟨b, q, none⟩ x k (fun e => hr (by rw [e]))).trans (h.block k hk hr)⟩

end Go.Proofs.Ytdjaiijgdflopaa
