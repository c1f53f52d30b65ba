/-
  GRIDS: an array of arrays as 64 cells by a function of the index; one that lies in a block; what a draw, a new block, a store do to it.
-/
import Derived.Test.YtdjaiijgdflopaaTbC
import Derived.Test.YtdjaiijgdflopaaGrF
import Derived.Deep.WholeRow
import Derived.Laws.CopyOwn
namespace Go.Proofs.Ytdjaiijgdflopaa
open Go.RowKit
set_option linter.unusedVariables false
set_option linter.unusedSimpArgs false

def gridA (f : Nat → Int) : Array Value := ((List.range 64).map fun j => Value.int .i64 (f j)).toArray
theorem gridA_size (f : Nat → Int) : (gridA f).size = 64 := by simp [gridA]
theorem gridA_at (f : Nat → Int) {j : Nat} (h : j < 64) : (gridA f)[j]? = some (.int .i64 (f j)) := by simp [gridA, h]
theorem gridA_set (f : Nat → Int) {j : Nat} (h : j < 64) (x : Int) : (gridA f).setIfInBounds j (.int .i64 x) = gridA (upf f j x) := by
  apply Array.ext_getElem?
  intro i
  rw [Array.getElem?_setIfInBounds]
  by_cases hi : i < 64
  · rw [gridA_at _ hi, gridA_at _ hi, gridA_size]
    by_cases e : j = i
    · subst e; rw [if_pos rfl, if_pos h]; simp [upf]
    · rw [if_neg e]; unfold upf; rw [if_neg (fun h => e h.symm)]
  · rw [Array.getElem?_eq_none (by rw [gridA_size]; omega), Array.getElem?_eq_none (by rw [gridA_size]; omega)]
    by_cases e : j = i
    · omega
    · rw [if_neg e]
theorem gridA_one (f : Nat → Int) : (gridA f).all (·.oneCell') = true := by
  rw [Array.all_eq_true_iff_forall_mem]
  intro v hv
  simp [gridA] at hv
  obtain ⟨_, _, rfl⟩ := hv
  rfl
theorem gridA_congr {f g : Nat → Int} (h : ∀ j, j < 64 → f j = g j) : gridA f = gridA g := by
  apply Array.ext_getElem?
  intro i
  by_cases hi : i < 64
  · rw [gridA_at _ hi, gridA_at _ hi, h i hi]
  · rw [Array.getElem?_eq_none (by rw [gridA_size]; omega), Array.getElem?_eq_none (by rw [gridA_size]; omega)]

theorem info_grid : (Try.prog.info? 77).map (fun i => (i.zero, i.size)) = some (some (.agg (gridA fun _ => 0)), 64) := by kernel_rfl
theorem zero_grid (w : World) : (zeroValue 77).run Try.prog w = .ok (.agg (gridA fun _ => 0)) w := (zero_of_info info_grid).1 w
theorem size_grid (f : Nat → Int) : (Try.prog.info? 77).map (·.size) = some (gridA f).size := by rw [(zero_of_info info_grid).2, gridA_size]

/-- Block b is a grid with the numbers f. -/
def GdAt (W : World) (b : Nat) (f : Nat → Int) : Prop := W.heap[b]? = some (.cells (gridA f) 77 (0, 0))
theorem GdAt.lt {W : World} {b : Nat} {f : Nat → Int} (h : GdAt W b f) : b < W.heap.size := (Array.getElem?_eq_some_iff.1 h).1
theorem GdAt.cell {W : World} {b : Nat} {f : Nat → Int} (h : GdAt W b f) {j : Nat} (hj : j < 64) : W.cell? ⟨b, j, none⟩ = some (.int .i64 (f j)) := by
  rw [cell_of_row W b j _ _ _ h, gridA_at _ hj]
theorem GdAt.free {W : World} {b : Nat} {f : Nat → Int} (h : GdAt W b f) (j : Nat) : W.frozen? ⟨b, j, none⟩ = false := frozen_of_row W b j _ _ h
theorem GdAt.of_heap {W W' : World} {b : Nat} {f : Nat → Int} (h : GdAt W b f) (e : W'.heap[b]? = W.heap[b]?) : GdAt W' b f := by unfold GdAt at *; rw [e, h]
theorem GdAt.drew {W : World} {b : Nat} {f : Nat → Int} (h : GdAt W b f) : GdAt W.drew b f := h
theorem GdAt.drewN {W : World} {b : Nat} {f : Nat → Int} (h : GdAt W b f) (q : Nat) : GdAt (W.drewN q) b f := h.of_heap rfl
theorem GdAt.alloc {W : World} {b : Nat} {f : Nat → Int} (h : GdAt W b f) (o : Obj) : GdAt (W.alloc o) b f := h.of_heap (Below.heap_alloc W o b h.lt)
theorem GdAt.below {W W' : World} {b B : Nat} {f : Nat → Int} (h : GdAt W b f) (hb : Below B W W') (hg : b < B) : GdAt W' b f := h.of_heap (hb.block b hg)
theorem GdAt.other {W : World} {b : Nat} {f : Nat → Int} (h : GdAt W b f) {p : Addr} (hp : p.block ≠ b) (x : Value) : GdAt (W.setCell p x) b f := h.of_heap (Below.heap_setCell W p x b (fun e => hp e.symm))
theorem GdAt.store {W : World} {b : Nat} {f : Nat → Int} (h : GdAt W b f) {j : Nat} (hj : j < 64) (x : Int) : GdAt (W.setCell ⟨b, j, none⟩ (.int .i64 x)) b (upf f j x) := by
  have := heap_setCell_same W b j _ _ (.int .i64 x) h
  rw [gridA_set f hj] at this
  exact this
theorem GdAt.new (W : World) (f : Nat → Int) : GdAt (W.alloc (.cells (gridA f) 77)) W.heap.size f := heap_alloc_new W _
theorem GdAt.made {W : World} {b : Nat} {f : Nat → Int} (h : b = W.heap.size) : GdAt (W.alloc (.cells (gridA f) 77)) b f := by subst h; exact GdAt.new W f
theorem GdAt.congr {W : World} {b : Nat} {f g : Nat → Int} (h : GdAt W b f) (e : ∀ j, j < 64 → f j = g j) : GdAt W b g := by unfold GdAt at *; rw [h, gridA_congr e]
theorem GdAt.row {W : World} {b : Nat} {f : Nat → Int} (h : GdAt W b f) (g : Nat → Int) : GdAt (W.setRow b (gridA g)) b g := setRow_heap W b _ _ _ _ h
theorem GdAt.row_other {W : World} {b c : Nat} {f : Nat → Int} (h : GdAt W b f) (hc : b ≠ c) (cs : Array Value) : GdAt (W.setRow c cs) b f := h.of_heap (setRow_other W c b cs hc)
theorem below_row {B g : Nat} {w0 w : World} (hb : Below B w0 w) (hBg : B ≤ g) (cs : Array Value) : Below B w0 (w.setRow g cs) := below_setRow hb hBg cs

/-- The table's numbers as a grid. -/
def gT (N : Nat) (zs : List Int) : Nat → Int := fun p => if p / 8 < N ∧ p % 8 < N then atT N zs (p / 8) (p % 8) else 0
/-- The same, the first j of them. -/
def gTj (N : Nat) (zs : List Int) (j : Nat) : Nat → Int := fun p => if p / 8 < N ∧ p % 8 < N ∧ p / 8 * N + p % 8 < j then atT N zs (p / 8) (p % 8) else 0
theorem gTj_zero (N : Nat) (zs : List Int) : gTj N zs 0 = fun _ => 0 := by funext p; simp [gTj]
theorem gTj_all {N : Nat} (zs : List Int) : gTj N zs (N * N) = gT N zs := by
  funext p; unfold gTj gT
  by_cases h : p / 8 < N ∧ p % 8 < N
  · rw [if_pos ⟨h.1, h.2, at_lt h.1 h.2⟩, if_pos h]
  · rw [if_neg h, if_neg (fun k => h ⟨k.1, k.2.1⟩)]
theorem gTj_next {N : Nat} (zs : List Int) {j : Nat} (hN : N ≤ 8) (hj : j < N * N) : upf (gTj N zs j) (j / N * 8 + j % N) (zs[j]?.getD 0) = gTj N zs (j + 1) := by
  have hN0 : 0 < N := by rcases Nat.eq_zero_or_pos N with h | h
                         · subst h; omega
                         · exact h
  have hi : j / N < N := Nat.div_lt_of_lt_mul hj
  have hk : j % N < N := Nat.mod_lt _ hN0
  have he : j / N * N + j % N = j := by rw [Nat.mul_comm]; exact Nat.div_add_mod j N
  funext p
  unfold upf
  by_cases e : p = j / N * 8 + j % N
  · have e1 : p / 8 = j / N := by omega
    have e2 : p % 8 = j % N := by omega
    rw [if_pos e]
    unfold gTj
    rw [e1, e2, if_pos ⟨hi, hk, by omega⟩]
    unfold atT; rw [he]
  · rw [if_neg e]
    unfold gTj
    by_cases h : p / 8 < N ∧ p % 8 < N ∧ p / 8 * N + p % 8 < j
    · rw [if_pos h, if_pos ⟨h.1, h.2.1, by omega⟩]
    · rw [if_neg h, if_neg]
      intro k
      apply h
      refine ⟨k.1, k.2.1, ?_⟩
      rcases Nat.lt_or_ge (p / 8 * N + p % 8) j with h | h
      · exact h
      · exfalso
        have hq : p / 8 * N + p % 8 = j := by omega
        have d1 : j / N = p / 8 := by rw [← hq, Nat.mul_comm, Nat.mul_add_div hN0, Nat.div_eq_of_lt k.2.1]; rfl
        have d2 : j % N = p % 8 := by rw [← hq, Nat.mul_comm, Nat.mul_add_mod]; exact Nat.mod_eq_of_lt k.2.1
        apply e; omega

end Go.Proofs.Ytdjaiijgdflopaa
