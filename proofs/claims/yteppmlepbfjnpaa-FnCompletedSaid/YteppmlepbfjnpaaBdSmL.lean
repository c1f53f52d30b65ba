/-
  An append of links that are read; WALKS of spec.l05Copy and spec.WithLink.
  WALK of spec.FixTimes.
-/
import Derived.Test.YteppmlepbfjnpaaBdGrN
import Derived.Deep.AppendLies
import Derived.Deep.RegionHeld3
import Derived.Deep.CutRange
import Derived.Maps.AppendAt
import Derived.Laws.OwnMore
import Derived.Test.YteppmlepbfjnpaaBdSmF
namespace Go.Proofs.Yteppmlepbfjnpaa
open Go.RowKit
set_option linter.unusedVariables false
set_option linter.unusedSimpArgs false

theorem cellsL_one (es : List GL) : ∀ u ∈ cellsL es, u.oneCell' = true := by
  intro u hu
  unfold cellsL at hu
  rw [List.mem_flatMap] at hu
  obtain ⟨e, _, he⟩ := hu
  simp [GL.cells] at he
  rcases he with rfl | rfl | rfl | rfl <;> rfl
theorem link_news {w : World} {A : Option Addr} {es : List GL} (h : LinkAt w A es) (hp : 0 < es.length) : ∃ ad, A = some ad ∧ ∀ j u, (cellsL es)[j]? = some u → w.cell? (ad.add j) = some u := by
  obtain ⟨g, o, hA, _, hc⟩ := h hp
  refine ⟨_, hA, fun j u hj => ?_⟩
  have hl : j < (cellsL es).length := (List.getElem?_eq_some_iff.1 hj).1
  rw [cellsL_length] at hl
  have hq : j / 4 < es.length := by omega
  obtain ⟨c0, c1, c2, c3⟩ := hc (j / 4) hq
  obtain ⟨g0, g1, g2, g3⟩ := getL es (j / 4) hq
  have hr : j % 4 = 0 ∨ j % 4 = 1 ∨ j % 4 = 2 ∨ j % 4 = 3 := by omega
  rw [Addr.add_lit]
  rcases hr with hr | hr | hr | hr
  · rw [show j = j / 4 * 4 from by omega, g0] at hj
    rw [show j = j / 4 * 4 from by omega, c0]; exact hj
  · rw [show j = j / 4 * 4 + 1 from by omega, g1] at hj
    rw [show o + j = o + j / 4 * 4 + 1 from by omega, c1]; exact hj
  · rw [show j = j / 4 * 4 + 2 from by omega, g2] at hj
    rw [show o + j = o + j / 4 * 4 + 2 from by omega, c2]; exact hj
  · rw [show j = j / 4 * 4 + 3 from by omega, g3] at hj
    rw [show o + j = o + j / 4 * 4 + 3 from by omega, c3]; exact hj
theorem run_append_none_c {P : Program} {w : World} (base : Nat) (t ty e : TypeId) (i : TypeInfo) (size c : Nat) (ht : P.underlying t = some (.slice e)) (hi : P.info? e = some i)
    (v : Value) (n : Nat) (xs : List Value) (hown : w.ownsRow base e size v n xs) :
    (Builtin.append_ #[t, t] ty #[v, .slice none 0 c]).run P w = .ok v w := by
  rcases hown.2 with ⟨rfl, rfl⟩ | ⟨g, cap, cur, rfl, _, _, hnc, _⟩
  · simp [Builtin.append_, run_underlying ht, sizeOf, typeInfo, hi, Builtin.lenOf, Builtin.firstCells]
  · simp [Builtin.append_, run_underlying ht, sizeOf, typeInfo, hi, Builtin.lenOf, Builtin.firstCells, hnc, storeCells]
/-- append(own.., src..): the source any cells that are read. -/
theorem run_append_read {P : Program} {w : World} (base : Nat) (t ty e : TypeId) (i : TypeInfo) (z : Value) (size bytes : Nat) (ht : P.underlying t = some (.slice e)) (hi : P.info? e = some i) (hz : i.zero = some z)
    (hsize : i.size = size) (hby : i.bytes = bytes) (hzs : z.cells.size = size) (hsz : 0 < size)
    (v : Value) (n : Nat) (xs : List Value) (hown : w.ownsRow base e size v n xs) (A : Option Addr) (m c : Nat) (news : List Value) (hl : news.length = m * size)
    (hx : 0 < m → ∃ ad, A = some ad ∧ ∀ j u, news[j]? = some u → w.cell? (ad.add j) = some u) (h1 : ∀ u ∈ news, u.oneCell' = true)
    (h63 : n + m ≤ maxLen) (hbytes : (n + m) * bytes ≤ 140737488355328) (hbase : base ≤ w.heap.size) :
    ∃ v' w', (Builtin.append_ #[t, t] ty #[v, .slice A m c]).run P w = .ok v' w' ∧ w'.ownsRow base e size v' (n + m) (xs ++ news) ∧ w.grownBy w' v.ownBlock ∧ (v'.ownBlock = v.ownBlock ∨ v'.ownBlock = some w.heap.size) := by
  cases A with
  | none =>
    have hm : m = 0 := by
      rcases Nat.eq_zero_or_pos m with h | h
      · exact h
      · obtain ⟨ad, h2, _⟩ := hx h; simp at h2
    subst hm
    have hn : news = [] := List.eq_nil_of_length_eq_zero (by simpa using hl)
    subst hn
    exact ⟨v, w, run_append_none_c base t ty e i size c ht hi v n xs hown, by simpa using hown, ⟨rfl, rfl, rfl, Nat.le_refl _, fun _ _ _ => rfl⟩, .inl rfl⟩
  | some a =>
    obtain ⟨v', w', hr, h2, h3, _, h5⟩ := run_append_own_at (P := P) w base t ty e i z size bytes ht hi hz hsize hby hzs hsz v n xs hown a m c news hl (fun j u hj => by
      have hm : 0 < m := by
        rcases Nat.eq_zero_or_pos m with h | h
        · subst h
          have : news = [] := List.eq_nil_of_length_eq_zero (by simpa using hl)
          subst this; simp at hj
        · exact h
      obtain ⟨ad, h2, h3⟩ := hx hm
      injection h2 with h2
      subst h2
      exact h3 j u hj) h1 h63 hbytes hbase
    exact ⟨v', w', hr, h2, h3, h5⟩
theorem step_append_read {P : Program} {w : World} {ops : Array Oper} {o : Oper} {a : Act} {K : Act → World → Prop} {Q : Exit → Act → World → Prop} {E : Prop} (hgd : o.guard = none) (s x : Operand) (t : TypeId)
    (ho : o.op = .call { callee := .builtin .append, args := #[s, x], argTypes := #[t, t] })
    (base : Nat) (e : TypeId) (i : TypeInfo) (z : Value) (size bytes : Nat) (ht : P.underlying t = some (.slice e)) (hi : P.info? e = some i) (hz : i.zero = some z)
    (hsize : i.size = size) (hby : i.bytes = bytes) (hzs : z.cells.size = size) (hsz : 0 < size)
    (v : Value) (n : Nat) (xs : List Value) (hs : a.eval s = v) (hown : w.ownsRow base e size v n xs) (A : Option Addr) (m c : Nat) (news : List Value) (hxe : a.eval x = .slice A m c) (hl : news.length = m * size)
    (hx : 0 < m → ∃ ad, A = some ad ∧ ∀ j u, news[j]? = some u → w.cell? (ad.add j) = some u) (h1 : ∀ u ∈ news, u.oneCell' = true)
    (h63 : n + m ≤ maxLen) (hbytes : (n + m) * bytes ≤ 140737488355328) (hbase : base ≤ w.heap.size)
    (h : ∀ v' w', w'.ownsRow base e size v' (n + m) (xs ++ news) → w.grownBy w' v.ownBlock → (v'.ownBlock = v.ownBlock ∨ v'.ownBlock = some w.heap.size) → K (a.put o.dst v') w') :
    if Region.wanted o (yielded ops a.tmps) = true then Oper.wp P o a w K Q else E := by
  have hw : Region.wanted o (yielded ops a.tmps) = true := by simp [Region.wanted, hgd]
  rw [if_pos hw]
  obtain ⟨v', w', hr, h2, h3, h4⟩ := run_append_read (P := P) base t o.type e i z size bytes ht hi hz hsize hby hzs hsz v n xs hown A m c news hl hx h1 h63 hbytes hbase
  unfold Oper.wp execOp
  simp only [ho, resolve, invoke, builtin, Sem.run_bind, Sem.run_pure, Result.andThen_ok, List.map_toArray, List.map_cons, List.map_nil, hs, hxe, hr]
  exact h v' w' h2 h3 h4
theorem own_zeroS {w : World} {B e s n : Nat} {v : Value} {xs : List Value} (h : w.ownsRow B e s v (0 + n) ([] ++ xs)) : w.ownsRow B e s v n xs := by simpa using h

set_option maxRecDepth 100000 in
set_option maxHeartbeats 8000000 in
theorem spec_l05Copy (n : Int) (es : List GL) (A : Option Addr) (k c : Nat) (w : World) (hn : es.length = k) (hm : k ≤ 1048576) (hr : LinkAt w A es) :
    Calls Try.prog 68 #[grV n A k c] w fun e w' => ∃ A' c', e = .returned (grV n A' k c') ∧ w'.ownsRow w.heap.size 76 4 (.slice A' k c') k (cellsL es) ∧ Below w.heap.size w w' := by
  obtain ⟨i0, hi, hz0, hz1, hz2⟩ := info_parts Try.info76
  have HR := Lib.hid hr
  have hcl : (cellsL es).length = k * 4 := by rw [cellsL_length, hn]
  have HCL := Lib.hid hcl
  have HL := Lib.hid hn
  clear hr hn hcl
  unfold grV
  go_enter Try.func68, Try.ntmps68
  obtain ⟨w0, hw0⟩ : ∃ W, W = (w.alloc (.cells #[.int .i64 n, .slice A k c] 25)).alloc (.cells #[.int .i64 0, .slice none 0 0] 25) := ⟨_, rfl⟩
  have hb0 : Below w.heap.size w w0 := by rw [hw0]; exact (by repeat (first | exact Below.refl _ _ | refine below_step (by assumption) (by first | omega | (simp; done) | (simp; omega)) ?_ | refine below_drewN ?_ _ | refine Below.drew ?_ | refine Below.setCell ?_ (by first | omega | (simp; done) | (simp; omega)) _ | refine Below.alloc ?_ (by first | omega | (simp; done) | (simp; omega)) _))
  have z0 : w0.heap.size = w.heap.size + 1 + 1 := by rw [hw0]; simp
  have c0 : w0.cell? ⟨w.heap.size, 0, none⟩ = some (.int .i64 n) := by rw [hw0]; go_simp
  have c1 : w0.cell? ⟨w.heap.size, 1, none⟩ = some (.slice A k c) := by rw [hw0]; go_simp
  have c2 : w0.cell? ⟨w.heap.size + 1, 0, none⟩ = some (.int .i64 0) := by rw [hw0]; go_simp
  have c3 : w0.cell? ⟨w.heap.size + 1, 1, none⟩ = some (.slice none 0 0) := by rw [hw0]; go_simp
  have f2 : w0.frozen? ⟨w.heap.size + 1, 0, none⟩ = false := by rw [hw0]; go_simp
  have f3 : w0.frozen? ⟨w.heap.size + 1, 1, none⟩ = false := by rw [hw0]; go_simp
  have HR0 := Lib.hid (HR.out.below hb0)
  go_upto_region 1 with (fail)
  rw [← hw0]
  clear hw0
  go_region_held3 (fun W => W.cell? ⟨w.heap.size, 0, none⟩ = some (.int .i64 n) ∧ W.cell? ⟨w.heap.size, 1, none⟩ = some (.slice A k c)) (first | (go_keep; done) | ((try dsimp only); refine ⟨?_, ?_⟩ <;> first | assumption | (go_keep; done) | (go_simp; done)))
    ((refine step_append_read rfl (.tmp 5) (.tmp 7) 23 rfl w0.heap.size 76 i0 (.agg #[.int .i64 0, .int .i64 0, .int .i64 0, .int .i64 0]) 4 32 Try.underlying23 hi hz0 hz1 hz2 rfl (by decide) _ 0 [] rfl (own_emp _ (by first | omega | (simp; done) | (simp; omega)) (by first | exact heap_made _ _ _ (by first | rfl | omega | (simp; done) | (simp; omega)) | exact heap_kept (heap_made _ _ _ (by first | rfl | omega | (simp; done) | (simp; omega))))) A k c (cellsL es) rfl HCL.out (fun hp => link_news (HR0.out.below (by repeat (first | exact Below.refl _ _ | refine Below.drew ?_ | refine Below.alloc ?_ (by first | omega | (simp; done) | (simp; omega)) _))) (by have := HL.out; omega)) (cellsL_one es) (by unfold maxLen; omega) (by omega) (by first | omega | (simp; done) | (simp; omega)) ?_; intro v5 w5 ho5 hg5 hat5; have y5 : Below w0.heap.size w0 w5 := Below.grown (by repeat (first | exact Below.refl _ _ | refine Below.drew ?_ | refine Below.alloc ?_ (by first | omega | (simp; done) | (simp; omega)) _)) hg5 (by first | omega | (simp; done) | (simp; omega)) (fun q hq => by injection hq with hq; first | omega | (simp at hq; omega)); have d0 : w5.cell? ⟨w.heap.size, 0, none⟩ = some (.int .i64 n) := (y5.cell (p := ⟨w.heap.size, 0, none⟩) (by first | omega | (simp; done) | (simp; omega))).trans c0; have d1 : w5.cell? ⟨w.heap.size, 1, none⟩ = some (.slice A k c) := (y5.cell (p := ⟨w.heap.size, 1, none⟩) (by first | omega | (simp; done) | (simp; omega))).trans c1; have d2 : w5.cell? ⟨w.heap.size + 1, 0, none⟩ = some (.int .i64 0) := (y5.cell (p := ⟨w.heap.size + 1, 0, none⟩) (by first | omega | (simp; done) | (simp; omega))).trans c2; have d3 : w5.cell? ⟨w.heap.size + 1, 1, none⟩ = some (.slice none 0 0) := (y5.cell (p := ⟨w.heap.size + 1, 1, none⟩) (by first | omega | (simp; done) | (simp; omega))).trans c3; have e2 : w5.frozen? ⟨w.heap.size + 1, 0, none⟩ = false := (y5.frozen (p := ⟨w.heap.size + 1, 0, none⟩) (by first | omega | (simp; done) | (simp; omega))).trans f2; have e3 : w5.frozen? ⟨w.heap.size + 1, 1, none⟩ = false := (y5.frozen (p := ⟨w.heap.size + 1, 1, none⟩) (by first | omega | (simp; done) | (simp; omega))).trans f3; (obtain ⟨A5, c5, rfl, _, _⟩ := ownL_form (own_zeroS ho5)); have HO5 := Lib.hid (own_zeroS ho5); clear ho5 hg5 hat5))
  all_goals
    have q5 := y5.size
    go_wp2_with fail
    refine bodyPost_ret (v := .agg #[.int .i64 n, .slice A5 k c5]) (by first | (simp [results, Try.results68, go_sem, d2, d3, e2, e3]; done) | simp [*, results, Try.results68, go_sem]) rfl ?_
    refine ⟨A5, c5, rfl, own_base (own_set (own_set HO5.out _ _ (by dsimp only; omega)) _ _ (by dsimp only; omega)) (by omega), ?_⟩
    refine Below.setCell (Below.setCell ?_ (by first | omega | (simp; done) | (simp; omega)) _) (by first | omega | (simp; done) | (simp; omega)) _
    exact hb0.trans (y5.mono (by omega))
def wlR (n : Int) (es : List GL) (e : GL) : Bool := okS n es && okS n (es ++ [e])
def wlN (n : Int) (es : List GL) (e : GL) : Int := if wlR n es e then n else 0
def wlE (n : Int) (es : List GL) (e : GL) : List GL := if wlR n es e then es ++ [e] else []
/-- What WithLink ends in. -/
def WlEnd (n : Int) (es : List GL) (e : GL) (w : World) (x : Ending) (w' : World) : Prop :=
  ∃ B m cb, x = .returned (.tuple #[grV (wlN n es e) B m cb, .bool (wlR n es e)]) ∧ m = (wlE n es e).length ∧ w'.ownsRow w.heap.size 76 4 (.slice B m cb) m (cellsL (wlE n es e)) ∧ Below w.heap.size w w'
theorem WlEnd.no {n : Int} {es : List GL} {e : GL} {w w' : World} (h : wlR n es e = false) (hb : Below w.heap.size w w') : WlEnd n es e w (.returned (.tuple #[.agg #[.int .i64 0, .slice none 0 0], .bool false])) w' := by
  have h1 : wlN n es e = 0 := by unfold wlN; rw [if_neg (by rw [h]; simp)]
  have h2 : wlE n es e = [] := by unfold wlE; rw [if_neg (by rw [h]; simp)]
  exact ⟨none, 0, 0, by rw [h1, h]; rfl, by rw [h2]; rfl, by rw [h2]; exact World.ownsRow_nil _ _ _ _, hb⟩
theorem wlE_len (n : Int) (es : List GL) (e : GL) : (wlE n es e).length ≤ 40 := by
  unfold wlE
  split
  · next h => unfold wlR at h; rw [Bool.and_eq_true] at h; exact (okS_rng h.2).2.2
  · simp
theorem cellsL_snoc (es : List GL) (e : GL) : cellsL (es ++ [e]) = cellsL es ++ [.int .i64 e.f, .int .i64 e.t, .int .i64 e.l, .int .i64 e.h] := by rw [cellsL_append]; simp [cellsL, GL.cells]
theorem one_c4 (a b c d : Int) : ∀ u ∈ [Value.int .i64 a, .int .i64 b, .int .i64 c, .int .i64 d], u.oneCell' = true := fun u hu => by simp at hu; rcases hu with rfl | rfl | rfl | rfl <;> rfl

theorem grown_freeS {w w' : World} {row : Option Nat} (hg : w.grownBy w' row) {b o : Nat} (hb : b < w.heap.size) (h : w.frozen? ⟨b, o, none⟩ = false) (hr : row ≠ some b) : w'.frozen? ⟨b, o, none⟩ = false :=
  (World.frozen?_of_block (a := ⟨b, o, none⟩) (hg.block b hb (fun e => hr e.symm))).trans h
theorem cell_offS {w : World} {b q c o : Nat} {x v : Value} (h : w.cell? ⟨b, q, none⟩ = some v) (hne : b ≠ c) : (w.setCell ⟨c, o, none⟩ x).cell? ⟨b, q, none⟩ = some v :=
  (World.cell?_of_block (a := ⟨b, q, none⟩) (Below.heap_setCell _ _ _ _ hne)).trans h
theorem free_offS {w : World} {b q c o : Nat} {x : Value} (h : w.frozen? ⟨b, q, none⟩ = false) (hne : b ≠ c) : (w.setCell ⟨c, o, none⟩ x).frozen? ⟨b, q, none⟩ = false :=
  (World.frozen?_of_block (a := ⟨b, q, none⟩) (Below.heap_setCell _ _ _ _ hne)).trans h
theorem own_asideS {w : World} {B e s n g c : Nat} {xs : List Value} (h : w.ownsRow B e s (.slice (some ⟨g, 0, none⟩) n c) n xs) (p : Addr) (u : Value) (hp : p.block ≠ g) : (w.setCell p u).ownsRow B e s (.slice (some ⟨g, 0, none⟩) n c) n xs :=
  h.kept (setCell_grown w p u) (.inr (fun e => by
    have : g = p.block := by simpa [Value.ownBlock] using e
    omega))
theorem own_baseS {w : World} {B e n s lo hi : Nat} {v : Value} {xs : List Value} (h : w.ownsRow B e s v n xs) (hl : ∀ q, v.ownBlock = some q → lo < q ∧ q < hi) : w.ownsRow (lo + 1) e s v n xs := by
  refine ⟨h.1, ?_⟩
  rcases h.2 with h2 | ⟨g, cap, cur, h1, h2, h3⟩
  · exact .inl h2
  · subst h1
    have := (hl g rfl).1
    exact .inr ⟨g, cap, cur, rfl, by omega, h3⟩

end Go.Proofs.Yteppmlepbfjnpaa

namespace Go.Proofs.Yteppmlepbfjnpaa
open Go.RowKit
set_option linter.unusedVariables false
set_option linter.unusedSimpArgs false

/-- A network in its box, its links in memory of their own. -/
structure BoxR (W : World) (B bx : Nat) (n : Int) (va : Value) (s : Nat) (ls : List GL) : Prop where
  c0 : W.cell? ⟨bx, 0, none⟩ = some (.int .i64 n)
  c1 : W.cell? ⟨bx, 1, none⟩ = some va
  f1 : W.frozen? ⟨bx, 1, none⟩ = false
  row : W.ownsRow B 76 4 va s (cellsL ls)
  off : va.ownBlock ≠ some bx
  lt : bx < W.heap.size
theorem BoxR.facts {W : World} {B bx : Nat} {n : Int} {va : Value} {s : Nat} {ls : List GL} (h : BoxR W B bx n va s ls) : W.cell? ⟨bx, 0, none⟩ = some (.int .i64 n) ∧ W.cell? ⟨bx, 1, none⟩ = some va ∧ W.frozen? ⟨bx, 1, none⟩ = false ∧ bx < W.heap.size := ⟨h.c0, h.c1, h.f1, h.lt⟩
theorem BoxR.below {W W' : World} {B bx : Nat} {n : Int} {va : Value} {s : Nat} {ls : List GL} (h : BoxR W B bx n va s ls) (hb : Below W.heap.size W W') : BoxR W' B bx n va s ls :=
  ⟨(hb.cell h.lt).trans h.c0, (hb.cell h.lt).trans h.c1, (hb.frozen h.lt).trans h.f1, own_below h.row hb, h.off, Nat.lt_of_lt_of_le h.lt hb.size⟩
theorem BoxR.grow {W W' : World} {B bx : Nat} {n : Int} {va : Value} {s : Nat} {ls : List GL} {g cap : Nat} {u v lo hi : Int} (h : BoxR W B bx n va s ls)
    (ho : W'.ownsRow B 76 4 (.slice (some ⟨g, 0, none⟩) (s + 1) cap) (s + 1) (cellsL ls ++ [.int .i64 u, .int .i64 v, .int .i64 lo, .int .i64 hi])) (hg : W.grownBy W' va.ownBlock) (hat : va.ownBlock = some g ∨ g = W.heap.size) :
    BoxR (W'.setCell ⟨bx, 1, none⟩ (.slice (some ⟨g, 0, none⟩) (s + 1) cap)) B bx n (.slice (some ⟨g, 0, none⟩) (s + 1) cap) (s + 1) (ls ++ [⟨u, v, lo, hi⟩]) := by
  have hne : g ≠ bx := by
    rcases hat with e | e
    · intro q; subst q; exact h.off e
    · have := h.lt; omega
  have k0 := grown_cellS hg h.c0 h.off
  have k1 := grown_cellS hg h.c1 h.off
  have k2 := grown_freeS hg h.lt h.f1 h.off
  refine ⟨by go_simp, by go_simp, by go_simp, ?_, fun e => by simp [Value.ownBlock] at e; omega, by have := Nat.lt_of_lt_of_le h.lt hg.size; simpa using this⟩
  rw [cellsL_snoc]
  exact own_asideS ho _ _ (by dsimp only; omega)
theorem BoxR.from {w W W' : World} {B bx : Nat} {n : Int} {va : Value} {s : Nat} {ls : List GL} (h : BoxR W B bx n va s ls) (hb : Below B w W) (hg : W.grownBy W' va.ownBlock) (hB : B ≤ W.heap.size) (hx : B ≤ bx) (v : Value) : Below B w (W'.setCell ⟨bx, 1, none⟩ v) :=
  (hb.grown hg hB (fun q hq => (h.row.lt q hq).1)).setCell (by dsimp only; omega) _

set_option maxRecDepth 100000 in
set_option maxHeartbeats 8000000 in
theorem spec_FixTimes (n : Int) (es : List GL) (A : Option Addr) (k c : Nat) (ts : List Int) (T : Option Addr) (m d : Nat) (w : World) (hn : es.length = k) (hm : k ≤ 1048576) (hl : ts.length = m) (hr : LinkAt w A es) (ht : RowAt w T (ts.map intV)) :
    Calls Try.prog 31 #[grV n A k c, .slice T m d] w fun e w' => FxEnd n es ts w e w' := by
  obtain ⟨i0, hi, hz0, hz1, hz2⟩ := info_parts Try.info76
  have HS := Lib.hid (fun W h h2 => spec_PartialOk n es A k c ts T m d W hn hm hl h h2)
  have HCP := Lib.hid (fun W h => spec_l05Copy n es A k c W hn hm h)
  have HSO := Lib.hid (fun (ls : List GL) A2 s c2 W (h1 : ls.length = s) (h2 : s ≤ 1048576) h => spec_SimpleOk n ls A2 s c2 W h1 h2 h)
  have HR := Lib.hid hr
  have HT := Lib.hid ht
  have HL := Lib.hid hl
  have HN := Lib.hid hn
  clear hr hn ht hl
  obtain ⟨ok, hok⟩ : ∃ b, b = pokR n es ts := ⟨_, rfl⟩
  rw [← hok] at HS
  have HO := Lib.hid hok.symm
  clear hok
  unfold grV at HS HCP HSO ⊢
  cases ok with
  | false =>
    go_enter Try.func31, Try.ntmps31
    go_wp2_with fail
    refine (HS.out _ (HR.out.below (by repeat (first | exact Below.refl _ _ | refine below_step (by assumption) (by first | omega | (simp; done) | (simp; omega)) ?_ | refine below_drewN ?_ _ | refine Below.drew ?_ | refine Below.setCell ?_ (by first | omega | (simp; done) | (simp; omega)) _ | refine Below.alloc ?_ (by first | omega | (simp; done) | (simp; omega)) _))) (HT.out.below (by repeat (first | exact Below.refl _ _ | refine below_step (by assumption) (by first | omega | (simp; done) | (simp; omega)) ?_ | refine below_drewN ?_ _ | refine Below.drew ?_ | refine Below.setCell ?_ (by first | omega | (simp; done) | (simp; omega)) _ | refine Below.alloc ?_ (by first | omega | (simp; done) | (simp; omega)) _)))).mono ?_
    rintro e w1 ⟨rfl, b1⟩
    have c0_w1 : w1.cell? ⟨w.heap.size, 0, none⟩ = some (.int .i64 n) := (b1.cell (p := ⟨w.heap.size, 0, none⟩) (by first | omega | (simp; done) | (simp; omega))).trans (by first | assumption | go_simp)
    have c1_w1 : w1.cell? ⟨w.heap.size, 1, none⟩ = some (.slice A k c) := (b1.cell (p := ⟨w.heap.size, 1, none⟩) (by first | omega | (simp; done) | (simp; omega))).trans (by first | assumption | go_simp)
    have c2_w1 : w1.cell? ⟨w.heap.size + 1, 0, none⟩ = some (.int .i64 0) := (b1.cell (p := ⟨w.heap.size + 1, 0, none⟩) (by first | omega | (simp; done) | (simp; omega))).trans (by first | assumption | go_simp)
    have c3_w1 : w1.cell? ⟨w.heap.size + 1, 1, none⟩ = some (.slice none 0 0) := (b1.cell (p := ⟨w.heap.size + 1, 1, none⟩) (by first | omega | (simp; done) | (simp; omega))).trans (by first | assumption | go_simp)
    have f0_w1 : w1.frozen? ⟨w.heap.size + 1, 0, none⟩ = false := (b1.frozen (p := ⟨w.heap.size + 1, 0, none⟩) (by first | omega | (simp; done) | (simp; omega))).trans (by first | assumption | go_simp)
    have f1_w1 : w1.frozen? ⟨w.heap.size + 1, 1, none⟩ = false := (b1.frozen (p := ⟨w.heap.size + 1, 1, none⟩) (by first | omega | (simp; done) | (simp; omega))).trans (by first | assumption | go_simp)
    have s0_w1 : w.heap.size < w1.heap.size := Nat.lt_of_lt_of_le (by first | omega | (simp; done) | (simp; omega)) b1.size
    have s1_w1 : w.heap.size + 1 < w1.heap.size := Nat.lt_of_lt_of_le (by first | omega | (simp; done) | (simp; omega)) b1.size
    have B_w1 : Below w.heap.size w w1 := (by repeat (first | exact Below.refl _ _ | refine below_step (by assumption) (by first | omega | (simp; done) | (simp; omega)) ?_ | refine below_drewN ?_ _ | refine Below.drew ?_ | refine Below.setCell ?_ (by first | omega | (simp; done) | (simp; omega)) _ | refine Below.alloc ?_ (by first | omega | (simp; done) | (simp; omega)) _))
    clear b1  
    go_wp2_with fail
    refine bodyPost_ret (v := .tuple #[.agg #[.int .i64 0, .slice none 0 0], .bool false]) (by first | (simp [results, Try.results31, go_sem, c2_w1, c3_w1, f0_w1, f1_w1]; done) | simp [*, results, Try.results31, go_sem]) rfl (FxEnd.no (fxR_pok HO.out) (by refine Below.setCell (Below.setCell ?_ (by first | omega | (simp; done) | (simp; omega)) _) (by first | omega | (simp; done) | (simp; omega)) _; exact B_w1))
  | true =>
    obtain ⟨hok1, hln, h00, hrg⟩ := pokR_ok HO.out
    have hk40 : k ≤ 40 := by have := okS_rng hok1; have := HN.out; omega
    have hm8 : m ≤ 8 := by have := okS_rng hok1; have := HL.out; omega
    clear hok1 hln h00 hrg
    go_enter Try.func31, Try.ntmps31
    go_wp2_with fail
    refine (HS.out _ (HR.out.below (by repeat (first | exact Below.refl _ _ | refine below_step (by assumption) (by first | omega | (simp; done) | (simp; omega)) ?_ | refine below_drewN ?_ _ | refine Below.drew ?_ | refine Below.setCell ?_ (by first | omega | (simp; done) | (simp; omega)) _ | refine Below.alloc ?_ (by first | omega | (simp; done) | (simp; omega)) _))) (HT.out.below (by repeat (first | exact Below.refl _ _ | refine below_step (by assumption) (by first | omega | (simp; done) | (simp; omega)) ?_ | refine below_drewN ?_ _ | refine Below.drew ?_ | refine Below.setCell ?_ (by first | omega | (simp; done) | (simp; omega)) _ | refine Below.alloc ?_ (by first | omega | (simp; done) | (simp; omega)) _)))).mono ?_
    rintro e w1 ⟨rfl, b1⟩
    have c0_w1 : w1.cell? ⟨w.heap.size, 0, none⟩ = some (.int .i64 n) := (b1.cell (p := ⟨w.heap.size, 0, none⟩) (by first | omega | (simp; done) | (simp; omega))).trans (by first | assumption | go_simp)
    have c1_w1 : w1.cell? ⟨w.heap.size, 1, none⟩ = some (.slice A k c) := (b1.cell (p := ⟨w.heap.size, 1, none⟩) (by first | omega | (simp; done) | (simp; omega))).trans (by first | assumption | go_simp)
    have c2_w1 : w1.cell? ⟨w.heap.size + 1, 0, none⟩ = some (.int .i64 0) := (b1.cell (p := ⟨w.heap.size + 1, 0, none⟩) (by first | omega | (simp; done) | (simp; omega))).trans (by first | assumption | go_simp)
    have c3_w1 : w1.cell? ⟨w.heap.size + 1, 1, none⟩ = some (.slice none 0 0) := (b1.cell (p := ⟨w.heap.size + 1, 1, none⟩) (by first | omega | (simp; done) | (simp; omega))).trans (by first | assumption | go_simp)
    have f0_w1 : w1.frozen? ⟨w.heap.size + 1, 0, none⟩ = false := (b1.frozen (p := ⟨w.heap.size + 1, 0, none⟩) (by first | omega | (simp; done) | (simp; omega))).trans (by first | assumption | go_simp)
    have f1_w1 : w1.frozen? ⟨w.heap.size + 1, 1, none⟩ = false := (b1.frozen (p := ⟨w.heap.size + 1, 1, none⟩) (by first | omega | (simp; done) | (simp; omega))).trans (by first | assumption | go_simp)
    have s0_w1 : w.heap.size < w1.heap.size := Nat.lt_of_lt_of_le (by first | omega | (simp; done) | (simp; omega)) b1.size
    have s1_w1 : w.heap.size + 1 < w1.heap.size := Nat.lt_of_lt_of_le (by first | omega | (simp; done) | (simp; omega)) b1.size
    have B_w1 : Below w.heap.size w w1 := (by repeat (first | exact Below.refl _ _ | refine below_step (by assumption) (by first | omega | (simp; done) | (simp; omega)) ?_ | refine below_drewN ?_ _ | refine Below.drew ?_ | refine Below.setCell ?_ (by first | omega | (simp; done) | (simp; omega)) _ | refine Below.alloc ?_ (by first | omega | (simp; done) | (simp; omega)) _))
    clear b1  
    have LO : Hid (w.heap.size + 1 < w1.heap.size) := Lib.hid s1_w1
    have E0 := Lib.hid c2_w1
    have E1 := Lib.hid c3_w1
    have G0 := Lib.hid f0_w1
    have G1 := Lib.hid f1_w1
    have B1K := Lib.hid B_w1
    go_wp2_with fail
    refine (HCP.out _ (HR.out.below B_w1)).mono ?_
    rintro e w2 ⟨A1, c1, rfl, h1, b2⟩
    have H1 := Lib.hid h1
    have lt1 := h1.lt
    have z12 := b2.size
    have BB := Lib.hid b2
    clear h1
    have c0_w2 : w2.cell? ⟨w.heap.size, 0, none⟩ = some (.int .i64 n) := (b2.cell (p := ⟨w.heap.size, 0, none⟩) (by first | omega | (simp; done) | (simp; omega))).trans (by first | assumption | go_simp)
    have c1_w2 : w2.cell? ⟨w.heap.size, 1, none⟩ = some (.slice A k c) := (b2.cell (p := ⟨w.heap.size, 1, none⟩) (by first | omega | (simp; done) | (simp; omega))).trans (by first | assumption | go_simp)
    have c2_w2 : w2.cell? ⟨w.heap.size + 1, 0, none⟩ = some (.int .i64 0) := (b2.cell (p := ⟨w.heap.size + 1, 0, none⟩) (by first | omega | (simp; done) | (simp; omega))).trans (by first | assumption | go_simp)
    have c3_w2 : w2.cell? ⟨w.heap.size + 1, 1, none⟩ = some (.slice none 0 0) := (b2.cell (p := ⟨w.heap.size + 1, 1, none⟩) (by first | omega | (simp; done) | (simp; omega))).trans (by first | assumption | go_simp)
    have f0_w2 : w2.frozen? ⟨w.heap.size + 1, 0, none⟩ = false := (b2.frozen (p := ⟨w.heap.size + 1, 0, none⟩) (by first | omega | (simp; done) | (simp; omega))).trans (by first | assumption | go_simp)
    have f1_w2 : w2.frozen? ⟨w.heap.size + 1, 1, none⟩ = false := (b2.frozen (p := ⟨w.heap.size + 1, 1, none⟩) (by first | omega | (simp; done) | (simp; omega))).trans (by first | assumption | go_simp)
    have s0_w2 : w.heap.size < w2.heap.size := Nat.lt_of_lt_of_le (by first | omega | (simp; done) | (simp; omega)) b2.size
    have s1_w2 : w.heap.size + 1 < w2.heap.size := Nat.lt_of_lt_of_le (by first | omega | (simp; done) | (simp; omega)) b2.size
    have B_w2 : Below w.heap.size w w2 := (by repeat (first | exact Below.refl _ _ | refine below_step (by assumption) (by first | omega | (simp; done) | (simp; omega)) ?_ | refine below_drewN ?_ _ | refine Below.drew ?_ | refine Below.setCell ?_ (by first | omega | (simp; done) | (simp; omega)) _ | refine Below.alloc ?_ (by first | omega | (simp; done) | (simp; omega)) _))
    clear b2 c0_w1 c1_w1 c2_w1 c3_w1 f0_w1 f1_w1 s0_w1 s1_w1 B_w1
    have n1 : (w.heap.size = w2.heap.size) = False := eq_false (by omega)
    have n2 : (w2.heap.size = w.heap.size) = False := eq_false (by omega)
    have n3 : (w.heap.size + 1 = w2.heap.size) = False := eq_false (by omega)
    have n4 : (w2.heap.size = w.heap.size + 1) = False := eq_false (by omega)
    obtain ⟨w3, hw3⟩ : ∃ W, W = w2.alloc (.cells #[.int .i64 n, .slice A1 k c1] 25) := ⟨_, rfl⟩
    have hb3 : Below w2.heap.size w2 w3 := by rw [hw3]; exact (Below.refl _ _).alloc (Nat.le_refl _) _
    have X0 : Hid (BoxR w3 w1.heap.size w2.heap.size n (.slice A1 k c1) k (es ++ fixJ ts 0)) := Lib.hid ⟨by rw [hw3]; go_simp, by rw [hw3]; go_simp, by rw [hw3]; go_simp, by unfold fixJ; rw [List.append_nil]; exact own_below H1.out hb3, fun e => by have := (lt1 _ e).2; omega, by rw [hw3]; simp⟩
    have B3 : Hid (Below w1.heap.size w1 w3) := Lib.hid (BB.out.trans (hb3.mono z12))
    go_upto_region 4 with (fail)
    rw [← hw3]
    clear hw3 hb3 n1 n2 n3 n4 H1 lt1 BB
    go_wp2_with fail
    go_loopw [18] (fun ii wr => ∃ (j s : Nat) (A2 : Option Addr) (c2 : Nat), j ≤ m ∧ ii = .int .i64 j ∧ s = (es ++ fixJ ts j).length ∧ BoxR wr w1.heap.size w2.heap.size n (.slice A2 s c2) s (es ++ fixJ ts j) ∧ Below w1.heap.size w1 wr) (fun ii _ => m - (intOf ii).toNat)
    case atStart => exact ⟨0, k, A1, c1, Nat.zero_le _, rfl, by unfold fixJ; rw [List.append_nil, HN.out], X0.out, B3.out⟩
    case round =>
      obtain ⟨j, s, A2, c2, hj, rfl, hs, hbox, hbw⟩ := hrel
      have X := Lib.hid hbox
      have BW := Lib.hid hbw
      have HSL := Lib.hid hs
      have hs48 : s ≤ 48 := by have := fixJ_len ts j; rw [List.length_append, HN.out] at hs; omega
      obtain ⟨k0, k1, f1, s0⟩ := X.out.facts
      clear hbox hbw hs
      by_cases hlt : j < m
      · obtain ⟨g, o, rfl, hg2, hc2⟩ := row_get HT.out (q := j) (by have := HL.out; omega)
        have hnx := fixJ_next (ts := ts) (j := j) (List.getElem?_eq_getElem (by have := HL.out; omega))
        obtain ⟨x, hx⟩ : ∃ x, x = ts[j]'(by have := HL.out; omega) := ⟨_, rfl⟩
        rw [← hx] at hnx
        rw [← hx] at hc2
        have x1 := (BW.out.cell (p := ⟨g, o + j, none⟩) (by have := LO.out; dsimp only; omega)).trans (((B1K.out.cell (p := ⟨g, o + j, none⟩) hg2).trans hc2))
        have HX := Lib.hid hnx
        clear hc2 hnx hx
        by_cases hj0 : j = 0
        · have hjn : ¬ ((0 : Int) < (j : Int)) := by omega
          have HF : Hid (fx1 x j = []) := Lib.hid (by unfold fx1; rw [if_neg (by omega)])
          clear hj0
          go_wp2_with fail
          go_roundw
          case rel => exact ⟨j + 1, s, A2, c2, by omega, by go_num, by rw [HX.out, HF.out, List.append_nil]; exact HSL.out, by rw [HX.out, HF.out, List.append_nil]; exact X.out, BW.out⟩
          case measure => simp [intOf]; omega
        · have hjp : (0 : Int) < (j : Int) := by omega
          by_cases hx1 : x = -1
          · have hxb : (x != -1) = false := by simp [hx1]
            have HF : Hid (fx1 x j = []) := Lib.hid (by unfold fx1; rw [if_neg (by omega)])
            clear hx1
            go_wp2_with fail
            go_roundw
            case rel => exact ⟨j + 1, s, A2, c2, by omega, by go_num, by rw [HX.out, HF.out, List.append_nil]; exact HSL.out, by rw [HX.out, HF.out, List.append_nil]; exact X.out, BW.out⟩
            case measure => simp [intOf]; omega
          · have hxb : (x != -1) = true := by simp [hx1]
            have HF : Hid (fx1 x j = [⟨0, j, x, x⟩]) := Lib.hid (by unfold fx1; rw [if_pos ⟨by omega, hx1⟩])
            clear hx1
            go_wp2_with (at_builtin; refine wpList_append_lies _ rfl _ _ 23 rfl (w1.heap.size) 76 i0 (.agg #[.int .i64 0, .int .i64 0, .int .i64 0, .int .i64 0]) 4 32 Try.underlying23 hi hz0 hz1 hz2 rfl (by decide) _ _ _ rfl (X.out.row.alloc _) ⟨_, 0, none⟩ 1 1 _ rfl rfl (World.news_of_block (heap_made _ _ _ (by first | rfl | simp))) (one_c4 _ _ _ _) (by decide) (by unfold maxLen; omega) (by omega) (by have := BW.out.size; simp; omega) _ rfl ?_)
            intro g6 cap w6 ho6 hg6 hat6 hl6
            have hba : Below wr.heap.size wr (wr.alloc (.cells #[.int .i64 0, .int .i64 j, .int .i64 x, .int .i64 x] 76)) := (Below.refl _ _).alloc (Nat.le_refl _) _
            have XX := X.out.below hba
            have X6 := Lib.hid (XX.grow ho6 hg6 (hat6.imp id (fun h => h.trans (by first | rfl | simp))))
            have B6 := Lib.hid (XX.from (BW.out.trans (hba.mono BW.out.size)) hg6 (by have := BW.out.size; simp; omega) (by omega) (.slice (some ⟨g6, 0, none⟩) (s + 1) cap))
            have q1 := grown_cellS hg6 XX.c1 XX.off
            have q2 := grown_freeS hg6 XX.lt XX.f1 XX.off
            have q3 : w2.heap.size < w6.heap.size := Nat.lt_of_lt_of_le XX.lt hg6.size
            clear ho6 hg6 hat6 hl6 hba XX
            go_wp2_with fail
            go_roundw
            case rel => exact ⟨j + 1, s + 1, some ⟨g6, 0, none⟩, cap, by omega, by go_num, by rw [HX.out, HF.out, ← List.append_assoc, List.length_append, ← HSL.out]; rfl, by rw [HX.out, HF.out, ← List.append_assoc]; exact X6.out, B6.out⟩
            case measure => simp [intOf]; omega
      · have hjm : j = m := by omega
        subst hjm
        have hfl : fixJ ts j = fixL ts := by unfold fixL; rw [HL.out]
        have X4 := X.out
        have hsl := HSL.out
        rw [hfl] at X4 hsl
        have XO := Lib.hid X4
        have HSL2 := Lib.hid hsl
        have e0 := (BW.out.cell (p := ⟨w.heap.size + 1, 0, none⟩) LO.out).trans (show w1.cell? ⟨w.heap.size + 1, 0, none⟩ = some (.int .i64 0) from E0.out)
        have e1 := (BW.out.cell (p := ⟨w.heap.size + 1, 1, none⟩) LO.out).trans (show w1.cell? ⟨w.heap.size + 1, 1, none⟩ = some (.slice none 0 0) from E1.out)
        have g0 := (BW.out.frozen (p := ⟨w.heap.size + 1, 0, none⟩) LO.out).trans (show w1.frozen? ⟨w.heap.size + 1, 0, none⟩ = false from G0.out)
        have g1 := (BW.out.frozen (p := ⟨w.heap.size + 1, 1, none⟩) LO.out).trans (show w1.frozen? ⟨w.heap.size + 1, 1, none⟩ = false from G1.out)
        have z1r : w1.heap.size ≤ wr.heap.size := BW.out.size
        clear X4 hsl hfl
        go_wp2_with fail
        refine (HSO.out (es ++ fixL ts) A2 s c2 _ HSL2.out.symm (by omega) (own_link XO.out.row)).mono ?_
        rintro e w7 ⟨rfl, b7⟩
        have X7 := Lib.hid (XO.out.below b7)
        have B7 : Below w.heap.size w w7 := (B1K.out.trans (BW.out.mono B1K.out.size)).trans (b7.mono (by have := B1K.out.size; omega))
        have r0 := (b7.cell (p := ⟨w.heap.size + 1, 0, none⟩) (by have := LO.out; dsimp only; omega)).trans e0
        have r1 := (b7.cell (p := ⟨w.heap.size + 1, 1, none⟩) (by have := LO.out; dsimp only; omega)).trans e1
        have t0 := (b7.frozen (p := ⟨w.heap.size + 1, 0, none⟩) (by have := LO.out; dsimp only; omega)).trans g0
        have t1 := (b7.frozen (p := ⟨w.heap.size + 1, 1, none⟩) (by have := LO.out; dsimp only; omega)).trans g1
        have z7 : w1.heap.size ≤ w7.heap.size := Nat.le_trans z1r b7.size
        obtain ⟨k0, k1, f1, s0⟩ := X7.out.facts
        clear b7 e0 e1 g0 g1
        have m1 : (w.heap.size + 1 = w2.heap.size) = False := eq_false (by have := LO.out; omega)
        have m2 : (w2.heap.size = w.heap.size + 1) = False := eq_false (by have := LO.out; omega)
        have s7 : w.heap.size + 1 < w7.heap.size := by have := LO.out; omega
        obtain ⟨o2, ho2⟩ : ∃ b, b = okS n (es ++ fixL ts) := ⟨_, rfl⟩
        rw [← ho2]
        have hfx : fxR n es ts = o2 := by unfold fxR; rw [HO.out, Bool.true_and, ho2]
        have HFX := Lib.hid hfx
        clear ho2 hfx
        cases o2 with
        | false =>
          go_wp2_with fail
          refine bodyPost_ret (v := .tuple #[.agg #[.int .i64 0, .slice none 0 0], .bool false]) (by first | (simp [results, Try.results31, go_sem, r0, r1, t0, t1]; done) | simp [*, results, Try.results31, go_sem]) rfl (FxEnd.no HFX.out (by refine Below.setCell (Below.setCell ?_ (by first | omega | (simp; done) | (simp; omega)) _) (by first | omega | (simp; done) | (simp; omega)) _; exact B7))
        | true =>
          go_wp2_with fail
          refine bodyPost_ret (v := .tuple #[.agg #[.int .i64 n, .slice A2 s c2], .bool true]) (by first | (simp [results, Try.results31, go_sem, r0, r1, t0, t1]; done) | simp [*, results, Try.results31, go_sem]) rfl ?_
          refine ⟨A2, s, c2, by rw [fxN_yes HFX.out, HFX.out]; rfl, by rw [fxE_yes HFX.out]; exact HSL2.out, ?_, by refine Below.setCell (Below.setCell ?_ (by first | omega | (simp; done) | (simp; omega)) _) (by first | omega | (simp; done) | (simp; omega)) _; exact B7⟩
          rw [fxE_yes HFX.out]
          exact own_base (own_set (own_set X7.out.row _ _ (by have := LO.out; dsimp only; omega)) _ _ (by have := LO.out; dsimp only; omega)) (by have := LO.out; omega)

end Go.Proofs.Yteppmlepbfjnpaa
