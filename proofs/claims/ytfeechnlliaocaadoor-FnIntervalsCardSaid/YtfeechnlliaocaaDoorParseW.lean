/-
  WALKS of impl.ParseInt and spec.ParseInt.
-/
import Derived.Test.YtfeechnlliaocaaDoorFmtI
import Derived.Test.YtfeechnlliaocaaDoorParse
import Derived.Deep.QuietTactic
import Derived.BigQuiet
namespace Go.Proofs.YtfeechnlliaocaaDoor
open Go.RowKit
set_option linter.unusedVariables false
set_option linter.unusedSimpArgs false

/-- The two sentinels of strconv's hold error values. -/
def Errs (w : World) : Prop := (∃ tp p, w.var? Tryd.prog "strconv.ErrSyntax" = some #[.iface tp p]) ∧ (∃ tp p, w.var? Tryd.prog "strconv.ErrRange" = some #[.iface tp p])
theorem Errs.kept {w w' : World} (h : Errs w) (hb : Below w.heap.size w w') : Errs w' := by
  obtain ⟨⟨tp, p, h1⟩, tq, q, h2⟩ := h
  exact ⟨⟨tp, p, var_kept hb h1⟩, tq, q, var_kept hb h2⟩

theorem below_bytes {w w' : World} {e : TypeId} (h : w' = w ∨ ∃ t, w' = Lib.bytesWorld w e t) : Below w.heap.size w w' := by
  rcases h with rfl | ⟨t, rfl⟩
  · exact Below.refl _ _
  · exact Lib.bytesWorld_below _ _ _

set_option maxRecDepth 100000 in
set_option maxHeartbeats 400000 in
theorem impl_ParseInt (s : ByteArray) (w : World) (hs : s.size ≤ 1048576) (ht : Pow10 w) (he : Errs w) :
    Calls Tryd.prog 40 #[.string s] w fun e w' => e = .returned (.tuple #[.int .i64 ((parseOf s).getD 0), .bool (parseOf s).isSome]) ∧ Below w.heap.size w w' := by
  have HT := Lib.hid ht
  have HE := Lib.hid he
  clear ht he
  cases ha : Lib.atoiAll s.data.toList with
  | ok v =>
    have hbd := Lib.atoiAll_bounds ha
    have HA := Lib.hid (strconv_Atoi_ok s (by omega) v ha w)
    by_cases hi : Lib.itoa v = s.data.toList
    · have hp : parseOf s = some v := by unfold parseOf; rw [ha]; simp [hi]
      have hx : (!(numB v).toList == s.toList) = false := by
        rw [Lib.toList_data, Lib.toList_data]
        simp [numB, hi]
      rw [hp]
      clear ha hi hp
      go_enter Tryd.func40, Tryd.ntmps40
      go_wp2_with fail
      refine HA.out.mono ?_
      rintro e w1 ⟨rfl, hw⟩
      have b1 := below_bytes hw
      clear hw
      go_wp2_with fail
      refine (impl_FormatInt v w1 hbd.1 hbd.2 (var_kept b1 HT.out)).mono ?_
      rintro e w2 ⟨rfl, b2⟩
      have B2 : Below w.heap.size w w2 := b1.trans (b2.mono b1.size)
      clear b1 b2
      go_wp2
      go_ret2
      exact ⟨rfl, B2⟩
    · have hp : parseOf s = none := by unfold parseOf; rw [ha]; simp [hi]
      have hx : (!(numB v).toList == s.toList) = true := by
        rw [Lib.toList_data, Lib.toList_data]
        simp [numB, hi]
      rw [hp]
      clear ha hi hp
      go_enter Tryd.func40, Tryd.ntmps40
      go_wp2_with fail
      refine HA.out.mono ?_
      rintro e w1 ⟨rfl, hw⟩
      have b1 := below_bytes hw
      clear hw
      go_wp2_with fail
      refine (impl_FormatInt v w1 hbd.1 hbd.2 (var_kept b1 HT.out)).mono ?_
      rintro e w2 ⟨rfl, b2⟩
      have B2 : Below w.heap.size w w2 := b1.trans (b2.mono b1.size)
      clear b1 b2
      go_wp2
      go_ret2
      exact ⟨rfl, B2⟩
  | _ =>
    have hp : parseOf s = none := by unfold parseOf; rw [ha]
    obtain ⟨⟨tp, p, h1⟩, tq, q, h2⟩ := HE.out
    have HA := Lib.hid (strconv_Atoi_err s (by omega) (fun v hv => by rw [ha] at hv; cases hv) tp tq p q w h1 h2)
    rw [hp]
    clear ha hp h1 h2 HE HT
    go_enter Tryd.func40, Tryd.ntmps40
    go_wp2_with fail
    refine HA.out.mono ?_
    rintro e w1 ⟨v, N, rfl, b1⟩
    go_wp2
    go_ret2
    exact ⟨rfl, b1⟩

end Go.Proofs.YtfeechnlliaocaaDoor
