/-
  What the listed error values give.
-/
import Derived.Test.YtfeechnlliaocaaDoorParseW
import Derived.Stop.LaidErr
import Derived.LaidLaws
namespace Go.Proofs.YtfeechnlliaocaaDoor
open Go.RowKit
theorem gErrRange : Tryd.prog.globalNamed "strconv.ErrRange" = some 2 := by kernel_rfl
theorem tErrRange : (Tryd.prog.globals[2]?).map (·.type) = some 63 := by kernel_rfl
theorem gErrSyntax : Tryd.prog.globalNamed "strconv.ErrSyntax" = some 1 := by kernel_rfl
theorem tErrSyntax : (Tryd.prog.globals[1]?).map (·.type) = some 63 := by kernel_rfl
theorem cErrStr : Tryd.prog.cellsOf 101 = 1 := by kernel_rfl
theorem cStr : Tryd.prog.cellsOf 9 = 1 := by kernel_rfl
theorem starErr : "*" ++ "errors.errorString" = "*errors.errorString" := by decide
theorem rowErr (u : TypeId) (h : Tryd.prog.typeName? 3 u = some "*errors.errorString") : u = 99 :=
  typeName_ptr_named (nm := "errors.errorString") (by rw [starErr]; kernel_rfl) (by kernel_rfl) (by decide) u (by rw [starErr]; exact h)
theorem errs_of {a b : List UInt8} {r : List (String × DataW Unit)} {W : World} (h : laidMet Tryd.prog (("strconv.ErrRange", .iface "*errors.errorString" (.ptr (.agg [.lit (.string a)]))) :: ("strconv.ErrSyntax", .iface "*errors.errorString" (.ptr (.agg [.lit (.string b)]))) :: r) W) : Errs W := by
  obtain ⟨a0, s0, h0, _, _, _⟩ := laid_sentinel h gErrRange tErrRange Tryd.underlying63 rowErr Tryd.underlying99 Tryd.underlying101 rfl rfl Tryd.underlying9 cErrStr cStr
  obtain ⟨a1, s1, h1, _, _, _⟩ := laid_sentinel h.tail gErrSyntax tErrSyntax Tryd.underlying63 rowErr Tryd.underlying99 Tryd.underlying101 rfl rfl Tryd.underlying9 cErrStr cStr
  exact ⟨⟨_, _, h1⟩, _, _, h0⟩

end Go.Proofs.YtfeechnlliaocaaDoor
