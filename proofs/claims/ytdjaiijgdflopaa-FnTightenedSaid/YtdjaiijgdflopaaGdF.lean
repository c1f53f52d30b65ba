/-
  GRIDS THAT ARE COMPARED: '==' on two arrays of arrays.
-/
import Derived.Test.YtdjaiijgdflopaaGdA
import Derived.Laws.StructEq
import Derived.Test.YtdjaiijgdflopaaQuC
namespace Go.Proofs.Ytdjaiijgdflopaa
open Go.RowKit
set_option linter.unusedVariables false
set_option linter.unusedSimpArgs false

theorem run_forAll {P : Program} (w : World) (F : Nat → Sem Bool) (eq : Nat → Bool) (k : Option Bool × Unit → World → Result Bool) (k0 : k (none, ()) w = .ok true w) (k1 : k (some false, ()) w = .ok false w) : ∀ (L : List Nat), (∀ i ∈ L, (F i).run P w = .ok (eq i) w) →
    ((forIn L ((none : Option Bool), ()) fun i _ => do
      let r ← F i
      if (!r) = true then pure (ForInStep.done (some false, ())) else pure (ForInStep.yield (none, ())) : Sem (Option Bool × Unit)).run P w).andThen k = .ok (L.all eq) w := by
  intro L
  induction L with
  | nil => intro _; simpa using k0
  | cons i L ih =>
    intro h
    have hi := h i (by simp)
    have ih := ih (fun k hk => h k (by simp [hk]))
    rw [List.forIn_cons, Sem.run_bind, Sem.run_bind, hi]
    simp only [Result.andThen_ok]
    cases he : eq i with
    | false => simpa [he] using k1
    | true => simpa [he] using ih

theorem run_equalIn_arr {P : Program} (w : World) (d : Nat) (t e : TypeId) (n s : Nat) (xs ys : Array Value) (eq : Nat → Bool) (ht : P.underlying t = some (.array n e)) (hs : (P.info? e).map (·.size) = some s)
    (h : ∀ i, i < n → (do let a ← part e xs (i * s); let b ← part e ys (i * s); Op.equalIn d e a b : Sem Bool).run P w = .ok (eq i) w) :
    (Op.equalIn (d + 1) t (.agg xs) (.agg ys)).run P w = .ok ((List.range n).all eq) w := by
  cases hq : P.info? e with
  | none => simp [hq] at hs
  | some inf =>
    have hsz : inf.size = s := by simpa [hq] using hs
    have hso : (sizeOf e).run P w = .ok s w := by simp [sizeOf, typeInfo, hq, hsz]
    simp only [Op.equalIn, Sem.run_bind, run_underlying ht, Result.andThen_ok, hso]
    have e1 : (forIn [:n] ((none : Option Bool), ()) fun i __s => (do
            let a ← part e xs (i * s)
            let b ← part e ys (i * s)
            let r ← Op.equalIn d e a b
            if (!r) = true then pure (ForInStep.done (some false, ())) else pure (ForInStep.yield (none, ())) : Sem (ForInStep (Option Bool × Unit)))) =
        forIn (List.range n) ((none : Option Bool), ()) fun i _ => (do
            let r ← (do let a ← part e xs (i * s); let b ← part e ys (i * s); Op.equalIn d e a b : Sem Bool)
            if (!r) = true then pure (ForInStep.done (some false, ())) else pure (ForInStep.yield (none, ()))) := by
      rw [Std.Legacy.Range.forIn_eq_forIn_range']
      simp [List.range_eq_range', Std.Legacy.Range.size]
    rw [e1]
    exact run_forAll w _ eq _ rfl rfl (List.range n) (fun i hi => h i (by simpa using hi))

theorem part_int {P : Program} (w : World) (e : TypeId) (cs : Array Value) (o : Nat) (v : Value) (k : IntKind) (he : P.underlying e = some (.int k)) (hv : cs[o]? = some v) : (part e cs o).run P w = .ok v w := by
  have ha : (isAgg e).run P w = .ok false w := by unfold isAgg; rw [Sem.run_bind, run_underlying he w]; rfl
  simp [part, Sem.run_bind, ha, hv]
theorem part_arr {P : Program} (w : World) (e e' : TypeId) (n s : Nat) (cs : Array Value) (o : Nat) (he : P.underlying e = some (.array n e')) (hs : (P.info? e).map (·.size) = some s) : (part e cs o).run P w = .ok (.agg (cs.extract o (o + s))) w := by
  cases hq : P.info? e with
  | none => simp [hq] at hs
  | some inf =>
    have hsz : inf.size = s := by simpa [hq] using hs
    have ha : (isAgg e).run P w = .ok true w := by unfold isAgg; rw [Sem.run_bind, run_underlying he w]; rfl
    simp [part, Sem.run_bind, ha, sizeOf, typeInfo, hq, hsz]

def eqGd (f g : Nat → Int) : Bool := (List.range 8).all fun i => (List.range 8).all fun k => f (i * 8 + k) == g (i * 8 + k)
theorem size_row : (Try.prog.info? 75).map (·.size) = some 8 := by kernel_rfl
theorem size_int : (Try.prog.info? 3).map (·.size) = some 1 := by kernel_rfl
theorem run_eqGd (d : Nat) (f g : Nat → Int) (w : World) : (Op.equalIn (d + 1 + 1 + 1) 77 (.agg (gridA f)) (.agg (gridA g))).run Try.prog w = .ok (eqGd f g) w := by
  unfold eqGd
  refine run_equalIn_arr w (d + 1 + 1) 77 75 8 8 _ _ _ Try.underlying77 size_row ?_
  intro i hi
  rw [Sem.run_bind, part_arr w _ 3 8 8 _ _ Try.underlying75 size_row, Result.andThen_ok, Sem.run_bind, part_arr w _ 3 8 8 _ _ Try.underlying75 size_row, Result.andThen_ok]
  refine run_equalIn_arr w (d + 1) 75 3 8 1 _ _ _ Try.underlying75 size_int ?_
  intro k hk
  have hc : ∀ h : Nat → Int, ((gridA h).extract (i * 8) (i * 8 + 8))[k * 1]? = some (.int .i64 (h (i * 8 + k))) := by
    intro h
    rw [Array.getElem?_extract, if_pos (by rw [gridA_size]; omega), Nat.mul_one, gridA_at h (by omega)]
  rw [Sem.run_bind, part_int w _ _ _ _ .i64 Try.underlying3 (hc f), Result.andThen_ok, Sem.run_bind, part_int w _ _ _ _ .i64 Try.underlying3 (hc g), Result.andThen_ok]
  exact run_equalIn_int w d _ _ _ _ _ Try.underlying3
theorem run_eql_grid (f g : Nat → Int) (w : World) : (binOp .eql 77 (.agg (gridA f)) (.agg (gridA g))).run Try.prog w = .ok (.bool (eqGd f g)) w := by
  rw [run_eql_struct, run_eqGd 9997]; rfl
theorem guard_grid (x y : Operand) (f g : Nat → Int) (w : World) : (eqGuard .eql 77 x y (.agg (gridA f)) (.agg (gridA g))).run Try.prog w = .ok () w :=
  run_eqGuard_agg w .eql _ x y _ _ (by kernel_rfl)
theorem eqGd_iff (f g : Nat → Int) : eqGd f g = true ↔ ∀ j, j < 64 → f j = g j := by
  unfold eqGd
  simp only [List.all_eq_true, List.mem_range, beq_iff_eq]
  constructor
  · intro h j hj
    have := h (j / 8) (by omega) (j % 8) (by omega)
    rw [show j / 8 * 8 + j % 8 = j from by omega] at this
    exact this
  · intro h i hi k hk
    exact h _ (by omega)

/-! ### Operations of a quiet walk -/
theorem quiet_load_row {P : Program} {C : World → Prop} {o : Oper} {a : Act} {K : Act → Prop} (ty : TypeId) (x : Operand) (ho : o.op = .load ty x) (g : Nat) (hx : a.eval x = .pointer (some ⟨g, 0, none⟩)) (t : TypeId) (cs : Array Value) (fr : Nat × Nat) (d : TypeDesc)
    (hg : ∀ w, C w → w.heap[g]? = some (.cells cs t fr)) (hu : P.underlying ty = some d) (hd : (match d with | .struct _ | .array _ _ => true | _ => false) = true) (hi : (P.info? ty).map (·.size) = some cs.size)
    (h : K (a.put o.dst (.agg cs))) : o.quiet P a C K := by
  refine ⟨.agg cs, fun w hw => ?_, h⟩
  unfold Oper.quietAt execOp
  simp only [ho, hx, Instr.loadAt, Instr.sureAddr, Sem.run_bind, Sem.run_pure, Result.andThen_ok, run_loadVar_row w g t ty cs fr d (hg w hw) hu hd hi]
  exact ⟨rfl, rfl⟩
theorem quiet_eql_grid {C : World → Prop} {o : Oper} {a : Act} {K : Act → Prop} (x y : Operand) (rt : TypeId) (ho : o.op = .binOp .eql 77 x y rt) (f g : Nat → Int) (hx : a.eval x = .agg (gridA f)) (hy : a.eval y = .agg (gridA g))
    (h : K (a.put o.dst (.bool (eqGd f g)))) : o.quiet Try.prog a C K := by
  refine ⟨.bool (eqGd f g), fun w hw => ?_, h⟩
  unfold Oper.quietAt execOp
  simp only [ho, hx, hy, Sem.run_bind, guard_grid, run_eql_grid, Result.andThen_ok, Sem.run_pure]
  exact ⟨rfl, rfl⟩

end Go.Proofs.Ytdjaiijgdflopaa
