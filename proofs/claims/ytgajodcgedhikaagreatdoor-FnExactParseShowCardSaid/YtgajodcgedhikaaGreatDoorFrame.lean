/-
  A LAW THAT ANSWERS TRUE AND TURNS NOTHING THAT WAS THERE: what its row's post asks, out of 'Below' alone, whatever the arguments' types.
-/
import Derived.Below
import Derived.ChangeSame
import Derived.Carry
namespace Go.Proofs.YtgajodcgedhikaaGreatDoor
open Go.RowKit Go.WideShapes Go.ChangeShapes

section
variable {H : Type} {enc : TypeId × Value → H} {P : Program}

/-- The arguments read as they did: nothing below the old heap's end has turned. -/
theorem args_kept (hl : laidOutB P = true) {W W' : World} (hb : Below W.heap.size W W') :
    ∀ (ts : List TypeId), (∀ t ∈ ts, P.readableRec t = true ∧ t < P.types.size) → ∀ (vs : List Value) (ds : List (DataW H)) (ps : List MemPlace),
      (∀ x ∈ ps, x.block < W.heap.size) → DataW.TrodAll enc P W 0 (fun _ => true) true ts vs ds ps →
      DataW.TrodAll enc P W' 0 (fun b => decide (b < W.heap.size)) true ts vs ds ps := by
  intro ts
  induction ts with
  | nil =>
    intro _ vs ds ps _ h
    match vs, ds, h with
    | [], [], h => exact h
  | cons t ts ih =>
    intro hts vs ds ps hlt h
    match vs, ds, h with
    | v :: vs, d :: ds, ⟨p, q, h1, h2, hpq⟩ =>
      subst hpq
      obtain ⟨hr, hrow⟩ := hts t (by simp)
      exact ⟨p, q, Below.trod hl hr hrow h1 hb fun x hx => hlt x (by simp [hx]), ih (fun t ht => hts t (by simp [ht])) vs ds q (fun x hx => hlt x (by simp [hx])) h2, rfl⟩

/-- WHAT A LAW's ROW ASKS BEHIND THE CALL. -/
theorem law_post {f : Func} {s : ChangeSpec} {W W' : World} {args : Array Value} {ds gs : List (DataW H)} {before : List MemPlace} {t : TypeId}
    (hl : laidOutB P = true) (hts : ∀ t ∈ f.params.toList, P.readableRec t = true ∧ t < P.types.size) (hrt : f.resultTypes = #[t]) (hbool : P.underlying t = some .bool)
    (hvars : s.vars = []) (hfn : (s.fn H (ds ++ gs)).results = [.lit (.bool true)] ∧ (s.fn H (ds ++ gs)).args = ds ∧ (s.fn H (ds ++ gs)).vars = [])
    (hW : DataW.Whole enc P f.params.toList s.vars false W args.toList ds gs before) (hb : Below W.heap.size W W') :
    s.post enc P f false true false false W args (.bool true) W' := by
  have hlt := hW.lt
  have hW1 := hW
  obtain ⟨p, q, hA, hV, hpq, _, _⟩ := hW1
  rw [hvars] at hV
  obtain ⟨rfl, rfl⟩ := trodVars_none hV
  obtain ⟨hr, ha, hv⟩ := hfn
  refine ⟨ds, [], before, [], before, [], hW, ?_, ?_, ?_, hb.frame _, fun h => by cases h⟩
  · rw [hr, hrt]
    exact trodAll_mk1 (shut_bool hbool _)
  · rw [ha]
    subst hpq
    rw [List.append_nil]
    exact args_kept hl hb _ hts _ _ _ (fun x hx => hlt x (by simp [hx])) hA
  · rw [hvars, hv]
    exact rfl
end

end Go.Proofs.YtgajodcgedhikaaGreatDoor
