/-
  An append of links that are read; WALKS of spec.l05Copy and spec.WithLink.
-/
import Derived.Test.YtnhdfnfiicioiaaBdSmO
import Derived.Deep.AppendLies
import Derived.Deep.RegionHeld3
import Derived.Deep.CutRange
import Derived.Maps.AppendAt
import Derived.Laws.OwnMore
namespace Go.Proofs.Ytnhdfnfiicioiaa
open Go.RowKit
set_option linter.unusedVariables false
set_option linter.unusedSimpArgs false

theorem cellsL_one (es : List GL) : ∀ u ∈ cellsL es, u.oneCell' = true := by
  intro u hu
  unfold cellsL at hu
  rw [List.mem_flatMap] at hu
  obtain ⟨e, _, he⟩ := hu
  simp [GL.cells] at he
  rcases he with rfl | rfl | rfl | rfl <;> rfl
theorem link_news {w : World} {A : Option Addr} {es : List GL} (h : LinkAt w A es) (hp : 0 < es.length) : ∃ ad, A = some ad ∧ ∀ j u, (cellsL es)[j]? = some u → w.cell? (ad.add j) = some u := by
  obtain ⟨g, o, hA, _, hc⟩ := h hp
  refine ⟨_, hA, fun j u hj => ?_⟩
  have hl : j < (cellsL es).length := (List.getElem?_eq_some_iff.1 hj).1
  rw [cellsL_length] at hl
  have hq : j / 4 < es.length := by omega
  obtain ⟨c0, c1, c2, c3⟩ := hc (j / 4) hq
  obtain ⟨g0, g1, g2, g3⟩ := getL es (j / 4) hq
  have hr : j % 4 = 0 ∨ j % 4 = 1 ∨ j % 4 = 2 ∨ j % 4 = 3 := by omega
  rw [Addr.add_lit]
  rcases hr with hr | hr | hr | hr
  · rw [show j = j / 4 * 4 from by omega, g0] at hj
    rw [show j = j / 4 * 4 from by omega, c0]; exact hj
  · rw [show j = j / 4 * 4 + 1 from by omega, g1] at hj
    rw [show o + j = o + j / 4 * 4 + 1 from by omega, c1]; exact hj
  · rw [show j = j / 4 * 4 + 2 from by omega, g2] at hj
    rw [show o + j = o + j / 4 * 4 + 2 from by omega, c2]; exact hj
  · rw [show j = j / 4 * 4 + 3 from by omega, g3] at hj
    rw [show o + j = o + j / 4 * 4 + 3 from by omega, c3]; exact hj
theorem run_append_none_c {P : Program} {w : World} (base : Nat) (t ty e : TypeId) (i : TypeInfo) (size c : Nat) (ht : P.underlying t = some (.slice e)) (hi : P.info? e = some i)
    (v : Value) (n : Nat) (xs : List Value) (hown : w.ownsRow base e size v n xs) :
    (Builtin.append_ #[t, t] ty #[v, .slice none 0 c]).run P w = .ok v w := by
  rcases hown.2 with ⟨rfl, rfl⟩ | ⟨g, cap, cur, rfl, _, _, hnc, _⟩
  · simp [Builtin.append_, run_underlying ht, sizeOf, typeInfo, hi, Builtin.lenOf, Builtin.firstCells]
  · simp [Builtin.append_, run_underlying ht, sizeOf, typeInfo, hi, Builtin.lenOf, Builtin.firstCells, hnc, storeCells]
/-- append(own.., src..): the source any cells that are read. -/
theorem run_append_read {P : Program} {w : World} (base : Nat) (t ty e : TypeId) (i : TypeInfo) (z : Value) (size bytes : Nat) (ht : P.underlying t = some (.slice e)) (hi : P.info? e = some i) (hz : i.zero = some z)
    (hsize : i.size = size) (hby : i.bytes = bytes) (hzs : z.cells.size = size) (hsz : 0 < size)
    (v : Value) (n : Nat) (xs : List Value) (hown : w.ownsRow base e size v n xs) (A : Option Addr) (m c : Nat) (news : List Value) (hl : news.length = m * size)
    (hx : 0 < m → ∃ ad, A = some ad ∧ ∀ j u, news[j]? = some u → w.cell? (ad.add j) = some u) (h1 : ∀ u ∈ news, u.oneCell' = true)
    (h63 : n + m ≤ maxLen) (hbytes : (n + m) * bytes ≤ 140737488355328) (hbase : base ≤ w.heap.size) :
    ∃ v' w', (Builtin.append_ #[t, t] ty #[v, .slice A m c]).run P w = .ok v' w' ∧ w'.ownsRow base e size v' (n + m) (xs ++ news) ∧ w.grownBy w' v.ownBlock ∧ (v'.ownBlock = v.ownBlock ∨ v'.ownBlock = some w.heap.size) := by
  cases A with
  | none =>
    have hm : m = 0 := by
      rcases Nat.eq_zero_or_pos m with h | h
      · exact h
      · obtain ⟨ad, h2, _⟩ := hx h; simp at h2
    subst hm
    have hn : news = [] := List.eq_nil_of_length_eq_zero (by simpa using hl)
    subst hn
    exact ⟨v, w, run_append_none_c base t ty e i size c ht hi v n xs hown, by simpa using hown, ⟨rfl, rfl, rfl, Nat.le_refl _, fun _ _ _ => rfl⟩, .inl rfl⟩
  | some a =>
    obtain ⟨v', w', hr, h2, h3, _, h5⟩ := run_append_own_at (P := P) w base t ty e i z size bytes ht hi hz hsize hby hzs hsz v n xs hown a m c news hl (fun j u hj => by
      have hm : 0 < m := by
        rcases Nat.eq_zero_or_pos m with h | h
        · subst h
          have : news = [] := List.eq_nil_of_length_eq_zero (by simpa using hl)
          subst this; simp at hj
        · exact h
      obtain ⟨ad, h2, h3⟩ := hx hm
      injection h2 with h2
      subst h2
      exact h3 j u hj) h1 h63 hbytes hbase
    exact ⟨v', w', hr, h2, h3, h5⟩
theorem step_append_read {P : Program} {w : World} {ops : Array Oper} {o : Oper} {a : Act} {K : Act → World → Prop} {Q : Exit → Act → World → Prop} {E : Prop} (hgd : o.guard = none) (s x : Operand) (t : TypeId)
    (ho : o.op = .call { callee := .builtin .append, args := #[s, x], argTypes := #[t, t] })
    (base : Nat) (e : TypeId) (i : TypeInfo) (z : Value) (size bytes : Nat) (ht : P.underlying t = some (.slice e)) (hi : P.info? e = some i) (hz : i.zero = some z)
    (hsize : i.size = size) (hby : i.bytes = bytes) (hzs : z.cells.size = size) (hsz : 0 < size)
    (v : Value) (n : Nat) (xs : List Value) (hs : a.eval s = v) (hown : w.ownsRow base e size v n xs) (A : Option Addr) (m c : Nat) (news : List Value) (hxe : a.eval x = .slice A m c) (hl : news.length = m * size)
    (hx : 0 < m → ∃ ad, A = some ad ∧ ∀ j u, news[j]? = some u → w.cell? (ad.add j) = some u) (h1 : ∀ u ∈ news, u.oneCell' = true)
    (h63 : n + m ≤ maxLen) (hbytes : (n + m) * bytes ≤ 140737488355328) (hbase : base ≤ w.heap.size)
    (h : ∀ v' w', w'.ownsRow base e size v' (n + m) (xs ++ news) → w.grownBy w' v.ownBlock → (v'.ownBlock = v.ownBlock ∨ v'.ownBlock = some w.heap.size) → K (a.put o.dst v') w') :
    if Region.wanted o (yielded ops a.tmps) = true then Oper.wp P o a w K Q else E := by
  have hw : Region.wanted o (yielded ops a.tmps) = true := by simp [Region.wanted, hgd]
  rw [if_pos hw]
  obtain ⟨v', w', hr, h2, h3, h4⟩ := run_append_read (P := P) base t o.type e i z size bytes ht hi hz hsize hby hzs hsz v n xs hown A m c news hl hx h1 h63 hbytes hbase
  unfold Oper.wp execOp
  simp only [ho, resolve, invoke, builtin, Sem.run_bind, Sem.run_pure, Result.andThen_ok, List.map_toArray, List.map_cons, List.map_nil, hs, hxe, hr]
  exact h v' w' h2 h3 h4
theorem own_zeroS {w : World} {B e s n : Nat} {v : Value} {xs : List Value} (h : w.ownsRow B e s v (0 + n) ([] ++ xs)) : w.ownsRow B e s v n xs := by simpa using h

set_option maxRecDepth 100000 in
set_option maxHeartbeats 8000000 in
theorem spec_l05Copy (n : Int) (es : List GL) (A : Option Addr) (k c : Nat) (w : World) (hn : es.length = k) (hm : k ≤ 1048576) (hr : LinkAt w A es) :
    Calls Try.prog 85 #[grV n A k c] w fun e w' => ∃ A' c', e = .returned (grV n A' k c') ∧ w'.ownsRow w.heap.size 42 4 (.slice A' k c') k (cellsL es) ∧ Below w.heap.size w w' := by
  obtain ⟨i0, hi, hz0, hz1, hz2⟩ := info_parts Try.info42
  have HR := Lib.hid hr
  have hcl : (cellsL es).length = k * 4 := by rw [cellsL_length, hn]
  have HCL := Lib.hid hcl
  have HL := Lib.hid hn
  clear hr hn hcl
  unfold grV
  go_enter Try.func85, Try.ntmps85
  obtain ⟨w0, hw0⟩ : ∃ W, W = (w.alloc (.cells #[.int .i64 n, .slice A k c] 25)).alloc (.cells #[.int .i64 0, .slice none 0 0] 25) := ⟨_, rfl⟩
  have hb0 : Below w.heap.size w w0 := by rw [hw0]; exact (by repeat (first | exact Below.refl _ _ | refine below_step (by assumption) (by first | omega | (simp; done) | (simp; omega)) ?_ | refine below_drewN ?_ _ | refine Below.drew ?_ | refine Below.setCell ?_ (by first | omega | (simp; done) | (simp; omega)) _ | refine Below.alloc ?_ (by first | omega | (simp; done) | (simp; omega)) _))
  have z0 : w0.heap.size = w.heap.size + 1 + 1 := by rw [hw0]; simp
  have c0 : w0.cell? ⟨w.heap.size, 0, none⟩ = some (.int .i64 n) := by rw [hw0]; go_simp
  have c1 : w0.cell? ⟨w.heap.size, 1, none⟩ = some (.slice A k c) := by rw [hw0]; go_simp
  have c2 : w0.cell? ⟨w.heap.size + 1, 0, none⟩ = some (.int .i64 0) := by rw [hw0]; go_simp
  have c3 : w0.cell? ⟨w.heap.size + 1, 1, none⟩ = some (.slice none 0 0) := by rw [hw0]; go_simp
  have f2 : w0.frozen? ⟨w.heap.size + 1, 0, none⟩ = false := by rw [hw0]; go_simp
  have f3 : w0.frozen? ⟨w.heap.size + 1, 1, none⟩ = false := by rw [hw0]; go_simp
  have HR0 := Lib.hid (HR.out.below hb0)
  go_upto_region 1 with (fail)
  rw [← hw0]
  clear hw0
  go_region_held3 (fun W => W.cell? ⟨w.heap.size, 0, none⟩ = some (.int .i64 n) ∧ W.cell? ⟨w.heap.size, 1, none⟩ = some (.slice A k c)) (first | (go_keep; done) | ((try dsimp only); refine ⟨?_, ?_⟩ <;> first | assumption | (go_keep; done) | (go_simp; done)))
    ((refine step_append_read rfl (.tmp 5) (.tmp 7) 23 rfl w0.heap.size 42 i0 (.agg #[.int .i64 0, .int .i64 0, .int .i64 0, .int .i64 0]) 4 32 Try.underlying23 hi hz0 hz1 hz2 rfl (by decide) _ 0 [] rfl (own_emp _ (by first | omega | (simp; done) | (simp; omega)) (by first | exact heap_made _ _ _ (by first | rfl | omega | (simp; done) | (simp; omega)) | exact heap_kept (heap_made _ _ _ (by first | rfl | omega | (simp; done) | (simp; omega))))) A k c (cellsL es) rfl HCL.out (fun hp => link_news (HR0.out.below (by repeat (first | exact Below.refl _ _ | refine Below.drew ?_ | refine Below.alloc ?_ (by first | omega | (simp; done) | (simp; omega)) _))) (by have := HL.out; omega)) (cellsL_one es) (by unfold maxLen; omega) (by omega) (by first | omega | (simp; done) | (simp; omega)) ?_; intro v5 w5 ho5 hg5 hat5; have y5 : Below w0.heap.size w0 w5 := Below.grown (by repeat (first | exact Below.refl _ _ | refine Below.drew ?_ | refine Below.alloc ?_ (by first | omega | (simp; done) | (simp; omega)) _)) hg5 (by first | omega | (simp; done) | (simp; omega)) (fun q hq => by injection hq with hq; first | omega | (simp at hq; omega)); have d0 : w5.cell? ⟨w.heap.size, 0, none⟩ = some (.int .i64 n) := (y5.cell (p := ⟨w.heap.size, 0, none⟩) (by first | omega | (simp; done) | (simp; omega))).trans c0; have d1 : w5.cell? ⟨w.heap.size, 1, none⟩ = some (.slice A k c) := (y5.cell (p := ⟨w.heap.size, 1, none⟩) (by first | omega | (simp; done) | (simp; omega))).trans c1; have d2 : w5.cell? ⟨w.heap.size + 1, 0, none⟩ = some (.int .i64 0) := (y5.cell (p := ⟨w.heap.size + 1, 0, none⟩) (by first | omega | (simp; done) | (simp; omega))).trans c2; have d3 : w5.cell? ⟨w.heap.size + 1, 1, none⟩ = some (.slice none 0 0) := (y5.cell (p := ⟨w.heap.size + 1, 1, none⟩) (by first | omega | (simp; done) | (simp; omega))).trans c3; have e2 : w5.frozen? ⟨w.heap.size + 1, 0, none⟩ = false := (y5.frozen (p := ⟨w.heap.size + 1, 0, none⟩) (by first | omega | (simp; done) | (simp; omega))).trans f2; have e3 : w5.frozen? ⟨w.heap.size + 1, 1, none⟩ = false := (y5.frozen (p := ⟨w.heap.size + 1, 1, none⟩) (by first | omega | (simp; done) | (simp; omega))).trans f3; (obtain ⟨A5, c5, rfl, _, _⟩ := ownL_form (own_zeroS ho5)); have HO5 := Lib.hid (own_zeroS ho5); clear ho5 hg5 hat5))
  all_goals
    have q5 := y5.size
    go_wp2_with fail
    refine bodyPost_ret (v := .agg #[.int .i64 n, .slice A5 k c5]) (by first | (simp [results, Try.results85, go_sem, d2, d3, e2, e3]; done) | simp [*, results, Try.results85, go_sem]) rfl ?_
    refine ⟨A5, c5, rfl, own_base (own_set (own_set HO5.out _ _ (by dsimp only; omega)) _ _ (by dsimp only; omega)) (by omega), ?_⟩
    refine Below.setCell (Below.setCell ?_ (by first | omega | (simp; done) | (simp; omega)) _) (by first | omega | (simp; done) | (simp; omega)) _
    exact hb0.trans (y5.mono (by omega))
def wlR (n : Int) (es : List GL) (e : GL) : Bool := okS n es && okS n (es ++ [e])
def wlN (n : Int) (es : List GL) (e : GL) : Int := if wlR n es e then n else 0
def wlE (n : Int) (es : List GL) (e : GL) : List GL := if wlR n es e then es ++ [e] else []
/-- What WithLink ends in. -/
def WlEnd (n : Int) (es : List GL) (e : GL) (w : World) (x : Ending) (w' : World) : Prop :=
  ∃ B m cb, x = .returned (.tuple #[grV (wlN n es e) B m cb, .bool (wlR n es e)]) ∧ m = (wlE n es e).length ∧ w'.ownsRow w.heap.size 42 4 (.slice B m cb) m (cellsL (wlE n es e)) ∧ Below w.heap.size w w'
theorem WlEnd.no {n : Int} {es : List GL} {e : GL} {w w' : World} (h : wlR n es e = false) (hb : Below w.heap.size w w') : WlEnd n es e w (.returned (.tuple #[.agg #[.int .i64 0, .slice none 0 0], .bool false])) w' := by
  have h1 : wlN n es e = 0 := by unfold wlN; rw [if_neg (by rw [h]; simp)]
  have h2 : wlE n es e = [] := by unfold wlE; rw [if_neg (by rw [h]; simp)]
  exact ⟨none, 0, 0, by rw [h1, h]; rfl, by rw [h2]; rfl, by rw [h2]; exact World.ownsRow_nil _ _ _ _, hb⟩
theorem wlE_len (n : Int) (es : List GL) (e : GL) : (wlE n es e).length ≤ 40 := by
  unfold wlE
  split
  · next h => unfold wlR at h; rw [Bool.and_eq_true] at h; exact (okS_rng h.2).2.2
  · simp
theorem cellsL_snoc (es : List GL) (e : GL) : cellsL (es ++ [e]) = cellsL es ++ [.int .i64 e.f, .int .i64 e.t, .int .i64 e.l, .int .i64 e.h] := by rw [cellsL_append]; simp [cellsL, GL.cells]
theorem one_c4 (a b c d : Int) : ∀ u ∈ [Value.int .i64 a, .int .i64 b, .int .i64 c, .int .i64 d], u.oneCell' = true := fun u hu => by simp at hu; rcases hu with rfl | rfl | rfl | rfl <;> rfl

theorem grown_freeS {w w' : World} {row : Option Nat} (hg : w.grownBy w' row) {b o : Nat} (hb : b < w.heap.size) (h : w.frozen? ⟨b, o, none⟩ = false) (hr : row ≠ some b) : w'.frozen? ⟨b, o, none⟩ = false :=
  (World.frozen?_of_block (a := ⟨b, o, none⟩) (hg.block b hb (fun e => hr e.symm))).trans h
theorem cell_offS {w : World} {b q c o : Nat} {x v : Value} (h : w.cell? ⟨b, q, none⟩ = some v) (hne : b ≠ c) : (w.setCell ⟨c, o, none⟩ x).cell? ⟨b, q, none⟩ = some v :=
  (World.cell?_of_block (a := ⟨b, q, none⟩) (Below.heap_setCell _ _ _ _ hne)).trans h
theorem free_offS {w : World} {b q c o : Nat} {x : Value} (h : w.frozen? ⟨b, q, none⟩ = false) (hne : b ≠ c) : (w.setCell ⟨c, o, none⟩ x).frozen? ⟨b, q, none⟩ = false :=
  (World.frozen?_of_block (a := ⟨b, q, none⟩) (Below.heap_setCell _ _ _ _ hne)).trans h
theorem own_asideS {w : World} {B e s n g c : Nat} {xs : List Value} (h : w.ownsRow B e s (.slice (some ⟨g, 0, none⟩) n c) n xs) (p : Addr) (u : Value) (hp : p.block ≠ g) : (w.setCell p u).ownsRow B e s (.slice (some ⟨g, 0, none⟩) n c) n xs :=
  h.kept (setCell_grown w p u) (.inr (fun e => by
    have : g = p.block := by simpa [Value.ownBlock] using e
    omega))
theorem own_baseS {w : World} {B e n s lo hi : Nat} {v : Value} {xs : List Value} (h : w.ownsRow B e s v n xs) (hl : ∀ q, v.ownBlock = some q → lo < q ∧ q < hi) : w.ownsRow (lo + 1) e s v n xs := by
  refine ⟨h.1, ?_⟩
  rcases h.2 with h2 | ⟨g, cap, cur, h1, h2, h3⟩
  · exact .inl h2
  · subst h1
    have := (hl g rfl).1
    exact .inr ⟨g, cap, cur, rfl, by omega, h3⟩

set_option maxRecDepth 100000 in
set_option maxHeartbeats 8000000 in
theorem spec_WithLink (n : Int) (es : List GL) (e : GL) (A : Option Addr) (k c : Nat) (w : World) (hn : es.length = k) (hm : k ≤ 1048576) (hr : LinkAt w A es) :
    Calls Try.prog 49 #[grV n A k c, e.val] w fun x w' => WlEnd n es e w x w' := by
  obtain ⟨i0, hi, hz0, hz1, hz2⟩ := info_parts Try.info42
  have HCP := Lib.hid (fun W h => spec_l05Copy n es A k c W hn hm h)
  have HS := Lib.hid (fun W h => spec_SimpleOk n es A k c W hn hm h)
  have HS2 := Lib.hid (fun (hq : okS n es = true) A2 c2 W h => spec_SimpleOk n (es ++ [e]) A2 (k + 1) c2 W (by simp [hn]) (by have := okS_rng hq; omega) h)
  have HR := Lib.hid hr
  have HL := Lib.hid hn
  clear hr hn
  obtain ⟨o1, ho1⟩ : ∃ b, b = okS n es := ⟨_, rfl⟩
  obtain ⟨o2, ho2⟩ : ∃ b, b = okS n (es ++ [e]) := ⟨_, rfl⟩
  rw [← ho1] at HS HS2
  rw [← ho2] at HS2
  have HWR := Lib.hid (show wlR n es e = (o1 && o2) from by unfold wlR; rw [ho1, ho2])
  clear ho1 ho2
  obtain ⟨u, v, lo, hi'⟩ := e
  unfold grV at HCP HS HS2 ⊢
  unfold GL.val
  go_enter Try.func49, Try.ntmps49
  go_wp2_with fail
  refine (HCP.out _ (HR.out.below (by repeat (first | exact Below.refl _ _ | refine below_step (by assumption) (by first | omega | (simp; done) | (simp; omega)) ?_ | refine below_drewN ?_ _ | refine Below.drew ?_ | refine Below.setCell ?_ (by first | omega | (simp; done) | (simp; omega)) _ | refine Below.alloc ?_ (by first | omega | (simp; done) | (simp; omega)) _)))).mono ?_
  rintro e w1 ⟨A1, c1, rfl, h1, b1⟩
  have c0_w1 : w1.cell? ⟨w.heap.size, 0, none⟩ = some (.int .i64 n) := (b1.cell (p := ⟨w.heap.size, 0, none⟩) (by first | omega | (simp; done) | (simp; omega))).trans (by first | assumption | go_simp)
  have c1_w1 : w1.cell? ⟨w.heap.size, 1, none⟩ = some (.slice A k c) := (b1.cell (p := ⟨w.heap.size, 1, none⟩) (by first | omega | (simp; done) | (simp; omega))).trans (by first | assumption | go_simp)
  have c2_w1 : w1.cell? ⟨w.heap.size + 1, 0, none⟩ = some (.int .i64 u) := (b1.cell (p := ⟨w.heap.size + 1, 0, none⟩) (by first | omega | (simp; done) | (simp; omega))).trans (by first | assumption | go_simp)
  have c3_w1 : w1.cell? ⟨w.heap.size + 1, 1, none⟩ = some (.int .i64 v) := (b1.cell (p := ⟨w.heap.size + 1, 1, none⟩) (by first | omega | (simp; done) | (simp; omega))).trans (by first | assumption | go_simp)
  have c4_w1 : w1.cell? ⟨w.heap.size + 1, 2, none⟩ = some (.int .i64 lo) := (b1.cell (p := ⟨w.heap.size + 1, 2, none⟩) (by first | omega | (simp; done) | (simp; omega))).trans (by first | assumption | go_simp)
  have c5_w1 : w1.cell? ⟨w.heap.size + 1, 3, none⟩ = some (.int .i64 hi') := (b1.cell (p := ⟨w.heap.size + 1, 3, none⟩) (by first | omega | (simp; done) | (simp; omega))).trans (by first | assumption | go_simp)
  have c6_w1 : w1.cell? ⟨w.heap.size + 1 + 1, 0, none⟩ = some (.int .i64 0) := (b1.cell (p := ⟨w.heap.size + 1 + 1, 0, none⟩) (by first | omega | (simp; done) | (simp; omega))).trans (by first | assumption | go_simp)
  have c7_w1 : w1.cell? ⟨w.heap.size + 1 + 1, 1, none⟩ = some (.slice none 0 0) := (b1.cell (p := ⟨w.heap.size + 1 + 1, 1, none⟩) (by first | omega | (simp; done) | (simp; omega))).trans (by first | assumption | go_simp)
  have f0_w1 : w1.frozen? ⟨w.heap.size + 1 + 1, 0, none⟩ = false := (b1.frozen (p := ⟨w.heap.size + 1 + 1, 0, none⟩) (by first | omega | (simp; done) | (simp; omega))).trans (by first | assumption | go_simp)
  have f1_w1 : w1.frozen? ⟨w.heap.size + 1 + 1, 1, none⟩ = false := (b1.frozen (p := ⟨w.heap.size + 1 + 1, 1, none⟩) (by first | omega | (simp; done) | (simp; omega))).trans (by first | assumption | go_simp)
  have s0_w1 : w.heap.size < w1.heap.size := Nat.lt_of_lt_of_le (by first | omega | (simp; done) | (simp; omega)) b1.size
  have s1_w1 : w.heap.size + 1 < w1.heap.size := Nat.lt_of_lt_of_le (by first | omega | (simp; done) | (simp; omega)) b1.size
  have s2_w1 : w.heap.size + 1 + 1 < w1.heap.size := Nat.lt_of_lt_of_le (by first | omega | (simp; done) | (simp; omega)) b1.size
  have B_w1 : Below w.heap.size w w1 := (by repeat (first | exact Below.refl _ _ | refine below_step (by assumption) (by first | omega | (simp; done) | (simp; omega)) ?_ | refine below_drewN ?_ _ | refine Below.drew ?_ | refine Below.setCell ?_ (by first | omega | (simp; done) | (simp; omega)) _ | refine Below.alloc ?_ (by first | omega | (simp; done) | (simp; omega)) _))
  clear b1  
  have H1 := Lib.hid h1
  have lt1 := h1.lt
  clear h1
  obtain ⟨b6, hb6⟩ : ∃ b, b = w1.heap.size := ⟨_, rfl⟩
  obtain ⟨w2, hw2⟩ : ∃ W, W = w1.alloc (.cells #[.int .i64 n, .slice A1 k c1] 25) := ⟨_, rfl⟩
  have hb2 : Below w1.heap.size w1 w2 := by rw [hw2]; exact (Below.refl _ _).alloc (Nat.le_refl _) _
  have z2 : w2.heap.size = b6 + 1 := by rw [hw2, hb6]; simp
  have e0 : w2.cell? ⟨b6, 0, none⟩ = some (.int .i64 n) := by rw [hw2, hb6]; go_simp
  have e1 : w2.cell? ⟨b6, 1, none⟩ = some (.slice A1 k c1) := by rw [hw2, hb6]; go_simp
  have e2 : w2.frozen? ⟨b6, 1, none⟩ = false := by rw [hw2, hb6]; go_simp
  have H2 := Lib.hid (own_below H1.out hb2)
  have lt6 : ∀ q, (Value.slice A1 k c1).ownBlock = some q → w.heap.size + 1 + 1 < q ∧ q < b6 := fun q hq => by have := lt1 q hq; simp at this; omega
  have u6 : w.heap.size + 1 + 1 < b6 := by omega
  go_upto_region 2 with (fail)
  rw [← hw2]
  try rw [← hb6]
  have c0_w2 : w2.cell? ⟨w.heap.size, 0, none⟩ = some (.int .i64 n) := (hb2.cell (p := ⟨w.heap.size, 0, none⟩) (by first | omega | (simp; done) | (simp; omega))).trans (by first | assumption | go_simp)
  have c1_w2 : w2.cell? ⟨w.heap.size, 1, none⟩ = some (.slice A k c) := (hb2.cell (p := ⟨w.heap.size, 1, none⟩) (by first | omega | (simp; done) | (simp; omega))).trans (by first | assumption | go_simp)
  have c2_w2 : w2.cell? ⟨w.heap.size + 1, 0, none⟩ = some (.int .i64 u) := (hb2.cell (p := ⟨w.heap.size + 1, 0, none⟩) (by first | omega | (simp; done) | (simp; omega))).trans (by first | assumption | go_simp)
  have c3_w2 : w2.cell? ⟨w.heap.size + 1, 1, none⟩ = some (.int .i64 v) := (hb2.cell (p := ⟨w.heap.size + 1, 1, none⟩) (by first | omega | (simp; done) | (simp; omega))).trans (by first | assumption | go_simp)
  have c4_w2 : w2.cell? ⟨w.heap.size + 1, 2, none⟩ = some (.int .i64 lo) := (hb2.cell (p := ⟨w.heap.size + 1, 2, none⟩) (by first | omega | (simp; done) | (simp; omega))).trans (by first | assumption | go_simp)
  have c5_w2 : w2.cell? ⟨w.heap.size + 1, 3, none⟩ = some (.int .i64 hi') := (hb2.cell (p := ⟨w.heap.size + 1, 3, none⟩) (by first | omega | (simp; done) | (simp; omega))).trans (by first | assumption | go_simp)
  have c6_w2 : w2.cell? ⟨w.heap.size + 1 + 1, 0, none⟩ = some (.int .i64 0) := (hb2.cell (p := ⟨w.heap.size + 1 + 1, 0, none⟩) (by first | omega | (simp; done) | (simp; omega))).trans (by first | assumption | go_simp)
  have c7_w2 : w2.cell? ⟨w.heap.size + 1 + 1, 1, none⟩ = some (.slice none 0 0) := (hb2.cell (p := ⟨w.heap.size + 1 + 1, 1, none⟩) (by first | omega | (simp; done) | (simp; omega))).trans (by first | assumption | go_simp)
  have f0_w2 : w2.frozen? ⟨w.heap.size + 1 + 1, 0, none⟩ = false := (hb2.frozen (p := ⟨w.heap.size + 1 + 1, 0, none⟩) (by first | omega | (simp; done) | (simp; omega))).trans (by first | assumption | go_simp)
  have f1_w2 : w2.frozen? ⟨w.heap.size + 1 + 1, 1, none⟩ = false := (hb2.frozen (p := ⟨w.heap.size + 1 + 1, 1, none⟩) (by first | omega | (simp; done) | (simp; omega))).trans (by first | assumption | go_simp)
  have s0_w2 : w.heap.size < w2.heap.size := Nat.lt_of_lt_of_le (by first | omega | (simp; done) | (simp; omega)) hb2.size
  have s1_w2 : w.heap.size + 1 < w2.heap.size := Nat.lt_of_lt_of_le (by first | omega | (simp; done) | (simp; omega)) hb2.size
  have s2_w2 : w.heap.size + 1 + 1 < w2.heap.size := Nat.lt_of_lt_of_le (by first | omega | (simp; done) | (simp; omega)) hb2.size
  have B_w2 : Below w.heap.size w w2 := (by repeat (first | exact Below.refl _ _ | refine below_step (by assumption) (by first | omega | (simp; done) | (simp; omega)) ?_ | refine below_drewN ?_ _ | refine Below.drew ?_ | refine Below.setCell ?_ (by first | omega | (simp; done) | (simp; omega)) _ | refine Below.alloc ?_ (by first | omega | (simp; done) | (simp; omega)) _))
  clear hw2 hb2 H1 lt1 B_w1 c0_w1 c1_w1 c2_w1 c3_w1 c4_w1 c5_w1 c6_w1 c7_w1 f0_w1 f1_w1 s0_w1 s1_w1 s2_w1
  clear hb6
  go_wp2_with (at_builtin; go_loud (refine wpList_append_lies _ rfl _ _ 23 rfl (w.heap.size + 1 + 1 + 1) 42 i0 (.agg #[.int .i64 0, .int .i64 0, .int .i64 0, .int .i64 0]) 4 32 Try.underlying23 hi hz0 hz1 hz2 rfl (by decide) _ k (cellsL es) rfl ((own_baseS H2.out lt6).alloc _) ⟨_, 0, none⟩ 1 1 _ rfl rfl (World.news_of_block (heap_made _ _ _ (by first | rfl | omega | (simp; done) | (simp; omega)))) (one_c4 _ _ _ _) (by decide) (by unfold maxLen; omega) (by omega) (by first | omega | (simp; done) | (simp; omega)) _ rfl ?_))
  intro g3 cap w3 ho3 hg3 hat3 hl3
  have hba : Below w2.heap.size w2 (w2.alloc (.cells #[.int .i64 u, .int .i64 v, .int .i64 lo, .int .i64 hi'] 42)) := (Below.refl _ _).alloc (Nat.le_refl _) _
  have c0_w3 := grown_cellS hg3 (b := w.heap.size) (o := 0) (v := .int .i64 n) ((hba.cell (p := ⟨w.heap.size, 0, none⟩) (by dsimp only; omega)).trans c0_w2) (fun h => by have := lt6 _ h; omega)
  have c1_w3 := grown_cellS hg3 (b := w.heap.size) (o := 1) (v := .slice A k c) ((hba.cell (p := ⟨w.heap.size, 1, none⟩) (by dsimp only; omega)).trans c1_w2) (fun h => by have := lt6 _ h; omega)
  have c2_w3 := grown_cellS hg3 (b := w.heap.size + 1) (o := 0) (v := .int .i64 u) ((hba.cell (p := ⟨w.heap.size + 1, 0, none⟩) (by dsimp only; omega)).trans c2_w2) (fun h => by have := lt6 _ h; omega)
  have c3_w3 := grown_cellS hg3 (b := w.heap.size + 1) (o := 1) (v := .int .i64 v) ((hba.cell (p := ⟨w.heap.size + 1, 1, none⟩) (by dsimp only; omega)).trans c3_w2) (fun h => by have := lt6 _ h; omega)
  have c4_w3 := grown_cellS hg3 (b := w.heap.size + 1) (o := 2) (v := .int .i64 lo) ((hba.cell (p := ⟨w.heap.size + 1, 2, none⟩) (by dsimp only; omega)).trans c4_w2) (fun h => by have := lt6 _ h; omega)
  have c5_w3 := grown_cellS hg3 (b := w.heap.size + 1) (o := 3) (v := .int .i64 hi') ((hba.cell (p := ⟨w.heap.size + 1, 3, none⟩) (by dsimp only; omega)).trans c5_w2) (fun h => by have := lt6 _ h; omega)
  have c6_w3 := grown_cellS hg3 (b := w.heap.size + 1 + 1) (o := 0) (v := .int .i64 0) ((hba.cell (p := ⟨w.heap.size + 1 + 1, 0, none⟩) (by dsimp only; omega)).trans c6_w2) (fun h => by have := lt6 _ h; omega)
  have c7_w3 := grown_cellS hg3 (b := w.heap.size + 1 + 1) (o := 1) (v := .slice none 0 0) ((hba.cell (p := ⟨w.heap.size + 1 + 1, 1, none⟩) (by dsimp only; omega)).trans c7_w2) (fun h => by have := lt6 _ h; omega)
  have f0_w3 := grown_freeS hg3 (b := w.heap.size + 1 + 1) (o := 0) (by have := hba.size; omega) ((hba.frozen (p := ⟨w.heap.size + 1 + 1, 0, none⟩) (by dsimp only; omega)).trans f0_w2) (fun h => by have := lt6 _ h; omega)
  have f1_w3 := grown_freeS hg3 (b := w.heap.size + 1 + 1) (o := 1) (by have := hba.size; omega) ((hba.frozen (p := ⟨w.heap.size + 1 + 1, 1, none⟩) (by dsimp only; omega)).trans f1_w2) (fun h => by have := lt6 _ h; omega)
  have e0_3 := grown_cellS hg3 (b := b6) (o := 0) (v := .int .i64 n) ((hba.cell (p := ⟨b6, 0, none⟩) (by dsimp only; omega)).trans e0) (fun h => by have := lt6 _ h; omega)
  have e1_3 := grown_cellS hg3 (b := b6) (o := 1) (v := .slice A1 k c1) ((hba.cell (p := ⟨b6, 1, none⟩) (by dsimp only; omega)).trans e1) (fun h => by have := lt6 _ h; omega)
  have e2_3 := grown_freeS hg3 (b := b6) (o := 1) (by have := hba.size; omega) ((hba.frozen (p := ⟨b6, 1, none⟩) (by dsimp only; omega)).trans e2) (fun h => by have := lt6 _ h; omega)
  have s6_3 : b6 < w3.heap.size := Nat.lt_of_lt_of_le (by have := hba.size; omega) hg3.size
  have B_w3 : Below w.heap.size w w3 := (B_w2.trans (hba.mono B_w2.size)).grown hg3 (by have := hba.size; omega) (fun q hq => by have := lt6 q hq; omega)
  have gne : g3 ≠ b6 := by rcases hat3 with h | h; exact (fun e => by have := lt6 _ h; omega); exact (by first | omega | (simp at h; omega))
  have HO3 := Lib.hid (show w3.ownsRow (w.heap.size + 1 + 1 + 1) 42 4 (.slice (some ⟨g3, 0, none⟩) (k + 1) cap) (k + 1) (cellsL (es ++ [⟨u, v, lo, hi'⟩])) from by rw [cellsL_snoc]; exact ho3)
  clear ho3 hg3 hat3 hl3 hba H2 lt6 e0 e1 e2 B_w2 c0_w2 c1_w2 c2_w2 c3_w2 c4_w2 c5_w2 c6_w2 c7_w2 f0_w2 f1_w2 s0_w2 s1_w2 s2_w2
  obtain ⟨w4, hw4⟩ : ∃ W, W = w3.setCell ⟨b6, 1, none⟩ (.slice (some ⟨g3, 0, none⟩) (k + 1) cap) := ⟨_, rfl⟩
  have z4 : w4.heap.size = w3.heap.size := by rw [hw4]; simp
  have c0_w4 : w4.cell? ⟨w.heap.size, 0, none⟩ = some (.int .i64 n) := by rw [hw4]; exact cell_offS c0_w3 (by omega)
  have c1_w4 : w4.cell? ⟨w.heap.size, 1, none⟩ = some (.slice A k c) := by rw [hw4]; exact cell_offS c1_w3 (by omega)
  have c2_w4 : w4.cell? ⟨w.heap.size + 1, 0, none⟩ = some (.int .i64 u) := by rw [hw4]; exact cell_offS c2_w3 (by omega)
  have c3_w4 : w4.cell? ⟨w.heap.size + 1, 1, none⟩ = some (.int .i64 v) := by rw [hw4]; exact cell_offS c3_w3 (by omega)
  have c4_w4 : w4.cell? ⟨w.heap.size + 1, 2, none⟩ = some (.int .i64 lo) := by rw [hw4]; exact cell_offS c4_w3 (by omega)
  have c5_w4 : w4.cell? ⟨w.heap.size + 1, 3, none⟩ = some (.int .i64 hi') := by rw [hw4]; exact cell_offS c5_w3 (by omega)
  have c6_w4 : w4.cell? ⟨w.heap.size + 1 + 1, 0, none⟩ = some (.int .i64 0) := by rw [hw4]; exact cell_offS c6_w3 (by omega)
  have c7_w4 : w4.cell? ⟨w.heap.size + 1 + 1, 1, none⟩ = some (.slice none 0 0) := by rw [hw4]; exact cell_offS c7_w3 (by omega)
  have f0_w4 : w4.frozen? ⟨w.heap.size + 1 + 1, 0, none⟩ = false := by rw [hw4]; exact free_offS f0_w3 (by omega)
  have f1_w4 : w4.frozen? ⟨w.heap.size + 1 + 1, 1, none⟩ = false := by rw [hw4]; exact free_offS f1_w3 (by omega)
  have e0_4 : w4.cell? ⟨b6, 0, none⟩ = some (.int .i64 n) := by rw [hw4]; go_simp
  have e1_4 : w4.cell? ⟨b6, 1, none⟩ = some (.slice (some ⟨g3, 0, none⟩) (k + 1) cap) := by rw [hw4]; go_simp
  have B_w4 : Below w.heap.size w w4 := by rw [hw4]; exact B_w3.setCell (by dsimp only; omega) _
  have HO4 := Lib.hid (show w4.ownsRow (w.heap.size + 1 + 1 + 1) 42 4 (.slice (some ⟨g3, 0, none⟩) (k + 1) cap) (k + 1) (cellsL (es ++ [⟨u, v, lo, hi'⟩])) from by rw [hw4]; exact own_asideS HO3.out _ _ (by dsimp only; omega))
  have s0_w4 : w.heap.size < w4.heap.size := by omega
  have s1_w4 : w.heap.size + 1 < w4.heap.size := by omega
  have s2_w4 : w.heap.size + 1 + 1 < w4.heap.size := by omega
  have s6_4 : b6 < w4.heap.size := by omega
  go_upto_region 3 with (fail)
  rw [← hw4]
  clear hw4 z4 HO3 gne e0_3 e1_3 e2_3 s6_3 B_w3 z2 c0_w3 c1_w3 c2_w3 c3_w3 c4_w3 c5_w3 c6_w3 c7_w3 f0_w3 f1_w3
  cases o1 with
  | false =>
    go_wp2_with fail
    refine (HS.out _ (HR.out.below (by repeat (first | exact Below.refl _ _ | refine below_step (by assumption) (by first | omega | (simp; done) | (simp; omega)) ?_ | refine below_drewN ?_ _ | refine Below.drew ?_ | refine Below.setCell ?_ (by first | omega | (simp; done) | (simp; omega)) _ | refine Below.alloc ?_ (by first | omega | (simp; done) | (simp; omega)) _)))).mono ?_
    rintro e w5 ⟨rfl, b5⟩
    have c0_w5 : w5.cell? ⟨w.heap.size, 0, none⟩ = some (.int .i64 n) := (b5.cell (p := ⟨w.heap.size, 0, none⟩) (by first | omega | (simp; done) | (simp; omega))).trans (by first | assumption | go_simp)
    have c1_w5 : w5.cell? ⟨w.heap.size, 1, none⟩ = some (.slice A k c) := (b5.cell (p := ⟨w.heap.size, 1, none⟩) (by first | omega | (simp; done) | (simp; omega))).trans (by first | assumption | go_simp)
    have c2_w5 : w5.cell? ⟨w.heap.size + 1, 0, none⟩ = some (.int .i64 u) := (b5.cell (p := ⟨w.heap.size + 1, 0, none⟩) (by first | omega | (simp; done) | (simp; omega))).trans (by first | assumption | go_simp)
    have c3_w5 : w5.cell? ⟨w.heap.size + 1, 1, none⟩ = some (.int .i64 v) := (b5.cell (p := ⟨w.heap.size + 1, 1, none⟩) (by first | omega | (simp; done) | (simp; omega))).trans (by first | assumption | go_simp)
    have c4_w5 : w5.cell? ⟨w.heap.size + 1, 2, none⟩ = some (.int .i64 lo) := (b5.cell (p := ⟨w.heap.size + 1, 2, none⟩) (by first | omega | (simp; done) | (simp; omega))).trans (by first | assumption | go_simp)
    have c5_w5 : w5.cell? ⟨w.heap.size + 1, 3, none⟩ = some (.int .i64 hi') := (b5.cell (p := ⟨w.heap.size + 1, 3, none⟩) (by first | omega | (simp; done) | (simp; omega))).trans (by first | assumption | go_simp)
    have c6_w5 : w5.cell? ⟨w.heap.size + 1 + 1, 0, none⟩ = some (.int .i64 0) := (b5.cell (p := ⟨w.heap.size + 1 + 1, 0, none⟩) (by first | omega | (simp; done) | (simp; omega))).trans (by first | assumption | go_simp)
    have c7_w5 : w5.cell? ⟨w.heap.size + 1 + 1, 1, none⟩ = some (.slice none 0 0) := (b5.cell (p := ⟨w.heap.size + 1 + 1, 1, none⟩) (by first | omega | (simp; done) | (simp; omega))).trans (by first | assumption | go_simp)
    have f0_w5 : w5.frozen? ⟨w.heap.size + 1 + 1, 0, none⟩ = false := (b5.frozen (p := ⟨w.heap.size + 1 + 1, 0, none⟩) (by first | omega | (simp; done) | (simp; omega))).trans (by first | assumption | go_simp)
    have f1_w5 : w5.frozen? ⟨w.heap.size + 1 + 1, 1, none⟩ = false := (b5.frozen (p := ⟨w.heap.size + 1 + 1, 1, none⟩) (by first | omega | (simp; done) | (simp; omega))).trans (by first | assumption | go_simp)
    have s0_w5 : w.heap.size < w5.heap.size := Nat.lt_of_lt_of_le (by first | omega | (simp; done) | (simp; omega)) b5.size
    have s1_w5 : w.heap.size + 1 < w5.heap.size := Nat.lt_of_lt_of_le (by first | omega | (simp; done) | (simp; omega)) b5.size
    have s2_w5 : w.heap.size + 1 + 1 < w5.heap.size := Nat.lt_of_lt_of_le (by first | omega | (simp; done) | (simp; omega)) b5.size
    have B_w5 : Below w.heap.size w w5 := (by repeat (first | exact Below.refl _ _ | refine below_step (by assumption) (by first | omega | (simp; done) | (simp; omega)) ?_ | refine below_drewN ?_ _ | refine Below.drew ?_ | refine Below.setCell ?_ (by first | omega | (simp; done) | (simp; omega)) _ | refine Below.alloc ?_ (by first | omega | (simp; done) | (simp; omega)) _))
    clear b5 c0_w4 c1_w4 c2_w4 c3_w4 c4_w4 c5_w4 c6_w4 c7_w4 f0_w4 f1_w4 s0_w4 s1_w4 s2_w4 B_w4
    go_wp2_with fail
    refine bodyPost_ret (v := .tuple #[.agg #[.int .i64 0, .slice none 0 0], .bool false]) (by first | (simp [results, Try.results49, go_sem, c6_w5, c7_w5, f0_w5, f1_w5]; done) | simp [*, results, Try.results49, go_sem]) rfl (WlEnd.no (by rw [HWR.out]; rfl) (by refine Below.setCell (Below.setCell ?_ (by first | omega | (simp; done) | (simp; omega)) _) (by first | omega | (simp; done) | (simp; omega)) _; exact B_w5))
  | true =>
    have c8_w4 := e0_4
    have c9_w4 := e1_4
    have s3_w4 := s6_4
    clear e0_4 e1_4 s6_4
    go_wp2_with fail
    refine (HS.out _ (HR.out.below (by repeat (first | exact Below.refl _ _ | refine below_step (by assumption) (by first | omega | (simp; done) | (simp; omega)) ?_ | refine below_drewN ?_ _ | refine Below.drew ?_ | refine Below.setCell ?_ (by first | omega | (simp; done) | (simp; omega)) _ | refine Below.alloc ?_ (by first | omega | (simp; done) | (simp; omega)) _)))).mono ?_
    rintro e w5 ⟨rfl, b5⟩
    have HO5 := Lib.hid (own_below HO4.out b5)
    have c0_w5 : w5.cell? ⟨w.heap.size, 0, none⟩ = some (.int .i64 n) := (b5.cell (p := ⟨w.heap.size, 0, none⟩) (by first | omega | (simp; done) | (simp; omega))).trans (by first | assumption | go_simp)
    have c1_w5 : w5.cell? ⟨w.heap.size, 1, none⟩ = some (.slice A k c) := (b5.cell (p := ⟨w.heap.size, 1, none⟩) (by first | omega | (simp; done) | (simp; omega))).trans (by first | assumption | go_simp)
    have c2_w5 : w5.cell? ⟨w.heap.size + 1, 0, none⟩ = some (.int .i64 u) := (b5.cell (p := ⟨w.heap.size + 1, 0, none⟩) (by first | omega | (simp; done) | (simp; omega))).trans (by first | assumption | go_simp)
    have c3_w5 : w5.cell? ⟨w.heap.size + 1, 1, none⟩ = some (.int .i64 v) := (b5.cell (p := ⟨w.heap.size + 1, 1, none⟩) (by first | omega | (simp; done) | (simp; omega))).trans (by first | assumption | go_simp)
    have c4_w5 : w5.cell? ⟨w.heap.size + 1, 2, none⟩ = some (.int .i64 lo) := (b5.cell (p := ⟨w.heap.size + 1, 2, none⟩) (by first | omega | (simp; done) | (simp; omega))).trans (by first | assumption | go_simp)
    have c5_w5 : w5.cell? ⟨w.heap.size + 1, 3, none⟩ = some (.int .i64 hi') := (b5.cell (p := ⟨w.heap.size + 1, 3, none⟩) (by first | omega | (simp; done) | (simp; omega))).trans (by first | assumption | go_simp)
    have c6_w5 : w5.cell? ⟨w.heap.size + 1 + 1, 0, none⟩ = some (.int .i64 0) := (b5.cell (p := ⟨w.heap.size + 1 + 1, 0, none⟩) (by first | omega | (simp; done) | (simp; omega))).trans (by first | assumption | go_simp)
    have c7_w5 : w5.cell? ⟨w.heap.size + 1 + 1, 1, none⟩ = some (.slice none 0 0) := (b5.cell (p := ⟨w.heap.size + 1 + 1, 1, none⟩) (by first | omega | (simp; done) | (simp; omega))).trans (by first | assumption | go_simp)
    have c8_w5 : w5.cell? ⟨b6, 0, none⟩ = some (.int .i64 n) := (b5.cell (p := ⟨b6, 0, none⟩) (by first | omega | (simp; done) | (simp; omega))).trans (by first | assumption | go_simp)
    have c9_w5 : w5.cell? ⟨b6, 1, none⟩ = some (.slice (some ⟨g3, 0, none⟩) (k + 1) cap) := (b5.cell (p := ⟨b6, 1, none⟩) (by first | omega | (simp; done) | (simp; omega))).trans (by first | assumption | go_simp)
    have f0_w5 : w5.frozen? ⟨w.heap.size + 1 + 1, 0, none⟩ = false := (b5.frozen (p := ⟨w.heap.size + 1 + 1, 0, none⟩) (by first | omega | (simp; done) | (simp; omega))).trans (by first | assumption | go_simp)
    have f1_w5 : w5.frozen? ⟨w.heap.size + 1 + 1, 1, none⟩ = false := (b5.frozen (p := ⟨w.heap.size + 1 + 1, 1, none⟩) (by first | omega | (simp; done) | (simp; omega))).trans (by first | assumption | go_simp)
    have s0_w5 : w.heap.size < w5.heap.size := Nat.lt_of_lt_of_le (by first | omega | (simp; done) | (simp; omega)) b5.size
    have s1_w5 : w.heap.size + 1 < w5.heap.size := Nat.lt_of_lt_of_le (by first | omega | (simp; done) | (simp; omega)) b5.size
    have s2_w5 : w.heap.size + 1 + 1 < w5.heap.size := Nat.lt_of_lt_of_le (by first | omega | (simp; done) | (simp; omega)) b5.size
    have s3_w5 : b6 < w5.heap.size := Nat.lt_of_lt_of_le (by first | omega | (simp; done) | (simp; omega)) b5.size
    have B_w5 : Below w.heap.size w w5 := (by repeat (first | exact Below.refl _ _ | refine below_step (by assumption) (by first | omega | (simp; done) | (simp; omega)) ?_ | refine below_drewN ?_ _ | refine Below.drew ?_ | refine Below.setCell ?_ (by first | omega | (simp; done) | (simp; omega)) _ | refine Below.alloc ?_ (by first | omega | (simp; done) | (simp; omega)) _))
    clear b5 c0_w4 c1_w4 c2_w4 c3_w4 c4_w4 c5_w4 c6_w4 c7_w4 c8_w4 c9_w4 f0_w4 f1_w4 s0_w4 s1_w4 s2_w4 s3_w4 B_w4
    go_wp2_with fail
    refine (HS2.out (by first | rfl | trivial) _ _ _ (own_link HO5.out)).mono ?_
    rintro e w6 ⟨rfl, b6b⟩
    have HO6 := Lib.hid (own_below HO5.out b6b)
    have c0_w6 : w6.cell? ⟨w.heap.size, 0, none⟩ = some (.int .i64 n) := (b6b.cell (p := ⟨w.heap.size, 0, none⟩) (by first | omega | (simp; done) | (simp; omega))).trans (by first | assumption | go_simp)
    have c1_w6 : w6.cell? ⟨w.heap.size, 1, none⟩ = some (.slice A k c) := (b6b.cell (p := ⟨w.heap.size, 1, none⟩) (by first | omega | (simp; done) | (simp; omega))).trans (by first | assumption | go_simp)
    have c2_w6 : w6.cell? ⟨w.heap.size + 1, 0, none⟩ = some (.int .i64 u) := (b6b.cell (p := ⟨w.heap.size + 1, 0, none⟩) (by first | omega | (simp; done) | (simp; omega))).trans (by first | assumption | go_simp)
    have c3_w6 : w6.cell? ⟨w.heap.size + 1, 1, none⟩ = some (.int .i64 v) := (b6b.cell (p := ⟨w.heap.size + 1, 1, none⟩) (by first | omega | (simp; done) | (simp; omega))).trans (by first | assumption | go_simp)
    have c4_w6 : w6.cell? ⟨w.heap.size + 1, 2, none⟩ = some (.int .i64 lo) := (b6b.cell (p := ⟨w.heap.size + 1, 2, none⟩) (by first | omega | (simp; done) | (simp; omega))).trans (by first | assumption | go_simp)
    have c5_w6 : w6.cell? ⟨w.heap.size + 1, 3, none⟩ = some (.int .i64 hi') := (b6b.cell (p := ⟨w.heap.size + 1, 3, none⟩) (by first | omega | (simp; done) | (simp; omega))).trans (by first | assumption | go_simp)
    have c6_w6 : w6.cell? ⟨w.heap.size + 1 + 1, 0, none⟩ = some (.int .i64 0) := (b6b.cell (p := ⟨w.heap.size + 1 + 1, 0, none⟩) (by first | omega | (simp; done) | (simp; omega))).trans (by first | assumption | go_simp)
    have c7_w6 : w6.cell? ⟨w.heap.size + 1 + 1, 1, none⟩ = some (.slice none 0 0) := (b6b.cell (p := ⟨w.heap.size + 1 + 1, 1, none⟩) (by first | omega | (simp; done) | (simp; omega))).trans (by first | assumption | go_simp)
    have c8_w6 : w6.cell? ⟨b6, 0, none⟩ = some (.int .i64 n) := (b6b.cell (p := ⟨b6, 0, none⟩) (by first | omega | (simp; done) | (simp; omega))).trans (by first | assumption | go_simp)
    have c9_w6 : w6.cell? ⟨b6, 1, none⟩ = some (.slice (some ⟨g3, 0, none⟩) (k + 1) cap) := (b6b.cell (p := ⟨b6, 1, none⟩) (by first | omega | (simp; done) | (simp; omega))).trans (by first | assumption | go_simp)
    have f0_w6 : w6.frozen? ⟨w.heap.size + 1 + 1, 0, none⟩ = false := (b6b.frozen (p := ⟨w.heap.size + 1 + 1, 0, none⟩) (by first | omega | (simp; done) | (simp; omega))).trans (by first | assumption | go_simp)
    have f1_w6 : w6.frozen? ⟨w.heap.size + 1 + 1, 1, none⟩ = false := (b6b.frozen (p := ⟨w.heap.size + 1 + 1, 1, none⟩) (by first | omega | (simp; done) | (simp; omega))).trans (by first | assumption | go_simp)
    have s0_w6 : w.heap.size < w6.heap.size := Nat.lt_of_lt_of_le (by first | omega | (simp; done) | (simp; omega)) b6b.size
    have s1_w6 : w.heap.size + 1 < w6.heap.size := Nat.lt_of_lt_of_le (by first | omega | (simp; done) | (simp; omega)) b6b.size
    have s2_w6 : w.heap.size + 1 + 1 < w6.heap.size := Nat.lt_of_lt_of_le (by first | omega | (simp; done) | (simp; omega)) b6b.size
    have s3_w6 : b6 < w6.heap.size := Nat.lt_of_lt_of_le (by first | omega | (simp; done) | (simp; omega)) b6b.size
    have B_w6 : Below w.heap.size w w6 := (by repeat (first | exact Below.refl _ _ | refine below_step (by assumption) (by first | omega | (simp; done) | (simp; omega)) ?_ | refine below_drewN ?_ _ | refine Below.drew ?_ | refine Below.setCell ?_ (by first | omega | (simp; done) | (simp; omega)) _ | refine Below.alloc ?_ (by first | omega | (simp; done) | (simp; omega)) _))
    clear b6b c0_w5 c1_w5 c2_w5 c3_w5 c4_w5 c5_w5 c6_w5 c7_w5 c8_w5 c9_w5 f0_w5 f1_w5 s0_w5 s1_w5 s2_w5 s3_w5 B_w5
    cases o2 with
    | false =>
      go_wp2_with fail
      refine bodyPost_ret (v := .tuple #[.agg #[.int .i64 0, .slice none 0 0], .bool false]) (by first | (simp [results, Try.results49, go_sem, c6_w6, c7_w6, f0_w6, f1_w6]; done) | simp [*, results, Try.results49, go_sem]) rfl (WlEnd.no (by rw [HWR.out]; rfl) (by refine Below.setCell (Below.setCell ?_ (by first | omega | (simp; done) | (simp; omega)) _) (by first | omega | (simp; done) | (simp; omega)) _; exact B_w6))
    | true =>
      go_wp2_with fail
      refine bodyPost_ret (v := .tuple #[.agg #[.int .i64 n, .slice (some ⟨g3, 0, none⟩) (k + 1) cap], .bool true]) (by first | (simp [results, Try.results49, go_sem, c6_w6, c7_w6, f0_w6, f1_w6]; done) | simp [*, results, Try.results49, go_sem]) rfl ?_
      have h1 : wlN n es ⟨u, v, lo, hi'⟩ = n := by unfold wlN; rw [if_pos (by rw [HWR.out]; rfl)]
      have h2 : wlE n es ⟨u, v, lo, hi'⟩ = es ++ [⟨u, v, lo, hi'⟩] := by unfold wlE; rw [if_pos (by rw [HWR.out]; rfl)]
      refine ⟨some ⟨g3, 0, none⟩, k + 1, cap, by rw [h1, HWR.out]; rfl, by rw [h2, List.length_append, HL.out]; rfl, ?_, by refine Below.setCell (Below.setCell ?_ (by first | omega | (simp; done) | (simp; omega)) _) (by first | omega | (simp; done) | (simp; omega)) _; exact B_w6⟩
      rw [h2]
      exact own_base (own_set (own_set HO6.out _ _ (by dsimp only; omega)) _ _ (by dsimp only; omega)) (by omega)

end Go.Proofs.Ytnhdfnfiicioiaa

