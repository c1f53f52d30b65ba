/-
  A slice of bytes that comes in.
-/
import Derived.Test.YtfeechnlliaocaaDoorDraw
import Derived.ProofKit
namespace Go.Proofs.YtfeechnlliaocaaDoor
open Go.RowKit Go.ChangeShapes Go.WideShapes Go.ChangeAt Go.WideMaps Go.WideElems
set_option linter.unusedVariables false

theorem cells_u8 : Tryd.prog.cellsOf 5 = 1 := by kernel_rfl

/-- A slice of bytes that comes in, nil or not: its length, and that its cells hold bytes, below whatever block the call makes. -/
theorem bytes_in {H : Type} {enc : TypeId × Value → H} {P : Program} {W : World} {t e : TypeId} {fuel n c : Nat} {A : Option Addr} {x : DataW H × List MemPlace}
    (ht : P.underlying t = some (.slice e)) (he : P.underlying e = some (.int .u8)) (hc : P.cellsOf e = 1)
    (hf : DataW.trod enc P W 0 (fun _ => true) true fuel t (Value.slice A n c).cells.toList = some x) :
    n ≤ maxLen ∧ Bytes W W.heap.size A n := by
  rcases open_ints ht he hc hf with ⟨hcs, _⟩ | ⟨a, len, cap, zs, hcs, _, hl, hm, hz, _, hcell, hws⟩
  · simp [Value.cells] at hcs
    obtain ⟨rfl, rfl, rfl⟩ := hcs
    exact ⟨Nat.zero_le _, fun h => by omega⟩
  · simp [Value.cells] at hcs
    obtain ⟨rfl, rfl, rfl⟩ := hcs
    have hlen : zs.length = c := by simpa using hz
    refine ⟨by omega, fun hp => ?_⟩
    have h0 := hcell 0 (by omega)
    obtain ⟨b, off, spot⟩ := a
    have hspot : spot = none := by simpa [Addr.add] using World.cell?_spot h0
    subst hspot
    have hb : b < W.heap.size := by
      rcases Nat.lt_or_ge b W.heap.size with hlt | hge
      · exact hlt
      · have : W.heap[b]? = none := Array.getElem?_eq_none hge
        simp [Addr.add, World.cell?, this] at h0
    refine ⟨b, off, rfl, hb, by omega, fun j hj => ?_⟩
    have hw := hws (zs.getD j 0) (by
      rw [List.getD_eq_getElem?_getD, List.getElem?_eq_getElem (by omega)]
      exact List.getElem_mem _)
    have hb2 : 0 ≤ zs.getD j 0 ∧ zs.getD j 0 ≤ 255 := by
      simpa [Lit.wf, IntKind.min, IntKind.max, IntKind.signed, IntKind.bits] using hw
    exact ⟨zs.getD j 0, hb2.1, hb2.2, by rw [← Go.WideShapes.add_plain]; exact hcell j (by omega)⟩

end Go.Proofs.YtfeechnlliaocaaDoor
