/-
  laws.FnTightened HOLDS: whatever the bytes that the graph and the edge are drawn of: the table with the edge added is the table of the graph with this edge; the bytes read as they did. No condition.
-/
import Derived.Test.YtdjaiijgdflopaaRows
import Derived.Test.YtdjaiijgdflopaaFrame
import Derived.Test.YtdjaiijgdflopaaGmB
import Derived.Test.YtdjaiijgdflopaaCgA
import Derived.Test.YtdjaiijgdflopaaTgC
import Derived.Test.YtdjaiijgdflopaaEdA
import Derived.Test.YtdjaiijgdflopaaIvN
import Derived.Deep.RegionHeld3
import Derived.Deep.CutRange
import Derived.ProofKit
import Derived.Lib.SmallJoins
namespace Go.Proofs.Ytdjaiijgdflopaa
open Go.RowKit Go.ChangeShapes Go.WideShapes Go.ChangeAt Go.WideMaps Go.WideElems
set_option linter.unusedVariables false
set_option linter.unusedSimpArgs false
theorem cells_u8 : Try.prog.cellsOf 5 = 1 := by kernel_rfl

/-- A slice of bytes that comes in, nil or not: its length, and that its cells hold bytes, below whatever block the call makes. -/
theorem bytes_in {H : Type} {enc : TypeId × Value → H} {P : Program} {W : World} {t e : TypeId} {fuel n c : Nat} {A : Option Addr} {x : DataW H × List MemPlace}
    (ht : P.underlying t = some (.slice e)) (he : P.underlying e = some (.int .u8)) (hc : P.cellsOf e = 1)
    (hf : DataW.trod enc P W 0 (fun _ => true) true fuel t (Value.slice A n c).cells.toList = some x) :
    n ≤ maxLen ∧ Bytes W W.heap.size A n := by
  rcases open_ints ht he hc hf with ⟨hcs, _⟩ | ⟨a, len, cap, zs, hcs, _, hl, hm, hz, _, hcell, hws⟩
  · simp [Value.cells] at hcs
    obtain ⟨rfl, rfl, rfl⟩ := hcs
    exact ⟨Nat.zero_le _, fun h => by omega⟩
  · simp [Value.cells] at hcs
    obtain ⟨rfl, rfl, rfl⟩ := hcs
    have hlen : zs.length = c := by simpa using hz
    refine ⟨by omega, fun hp => ?_⟩
    have h0 := hcell 0 (by omega)
    obtain ⟨b, off, spot⟩ := a
    have hspot : spot = none := by simpa [Addr.add] using World.cell?_spot h0
    subst hspot
    have hb : b < W.heap.size := by
      rcases Nat.lt_or_ge b W.heap.size with hlt | hge
      · exact hlt
      · have : W.heap[b]? = none := Array.getElem?_eq_none hge
        simp [Addr.add, World.cell?, this] at h0
    refine ⟨b, off, rfl, hb, by omega, fun j hj => ?_⟩
    have hw := hws (zs.getD j 0) (by
      rw [List.getD_eq_getElem?_getD, List.getElem?_eq_getElem (by omega)]
      exact List.getElem_mem _)
    have hb2 : 0 ≤ zs.getD j 0 ∧ zs.getD j 0 ≤ 255 := by
      simpa [Lit.wf, IntKind.min, IntKind.max, IntKind.signed, IntKind.bits] using hw
    exact ⟨zs.getD j 0, hb2.1, hb2.2, by rw [← Go.WideShapes.add_plain]; exact hcell j (by omega)⟩

theorem CgEnd.con {n : Int} {es : List GE} {w : World} {f : FuncId} {args : Array Value} {t0 : Int} {zs : List Int} {ok : Bool} {m : Nat} (h1 : t0 = (closeR n es).1) (h2 : zs = (closeR n es).2.1) (h3 : ok = (closeR n es).2.2) (hm : m = zs.length) (h : Calls Try.prog f args w fun e w' => CgEnd n es w e w') :
    Calls Try.prog f args w fun e w' => ∃ B cb, e = .returned (.tuple #[.agg #[.int .i64 t0, .slice B m cb], .bool ok]) ∧ w'.ownsRow w.heap.size 3 1 (.slice B m cb) m (zs.map intV) ∧ Below w.heap.size w w' :=
  h.mono fun e w' ⟨A, k, c, e1, e2, e3, e4⟩ => by
    subst h1 h2 h3 hm e2
    exact ⟨A, c, e1, e3, e4⟩
theorem own_edge {W : World} {B t k c : Nat} {A : Option Addr} {es : List GE} (h : W.ownsRow B t 3 (.slice A k c) k (cellsE es)) : EdgeAt W A es := by
  obtain ⟨_, _, hv, _, hE⟩ := ownE_form h
  injection hv with hv
  rw [hv]; exact hE
theorem nc_con {n : Int} {es : List GE} {w : World} {f : FuncId} {args : Array Value} {cs : List Int} {q : Nat} (h1 : cs = cycR n es) (h2 : q = cs.length) (h : Calls Try.prog f args w fun e w' => ∃ B m cb, e = .returned (.slice B m cb) ∧ m = (cycR n es).length ∧ w'.ownsRow w.heap.size 3 1 (.slice B m cb) m ((cycR n es).map intV) ∧ Below w.heap.size w w') :
    Calls Try.prog f args w fun e w' => ∃ B cb, e = .returned (.slice B q cb) ∧ w'.ownsRow w.heap.size 3 1 (.slice B q cb) q (cs.map intV) ∧ Below w.heap.size w w' :=
  h.mono fun e w' ⟨A, k, c, e1, e2, e3, e4⟩ => by
    subst h1 h2 e2
    exact ⟨A, c, e1, e3, e4⟩
theorem cycle_facts {N : Nat} {es : List GE} (hok : okG N es = true) :
    ((cycR N es).length = 0 ∧ (closeR N es).2.2 = true) ∨ (0 < (cycR N es).length ∧ (closeR N es).2.2 = false ∧ negC N es (cycR N es) = true ∧ pathW N es (cycR N es) < 0) := by
  by_cases h : closeOk N es = true
  · exact .inl ⟨by rw [cycR_nil ((close_iff hok).1 h)]; rfl, by rw [closeR_yes hok h]⟩
  · have h2 : (endC N es).2 ≠ -1 := fun e => h ((close_iff hok).2 e)
    have h3 := cyc_isneg hok h2
    refine .inr ⟨?_, by rw [closeR_no (fun hh => h (by simpa using hh.2))], h3, cyc_path_neg hok h2⟩
    unfold negC at h3
    simp only [Bool.and_eq_true, decide_eq_true_eq] at h3
    exact h3.1.1.2
theorem pathW_nil (n : Int) (es : List GE) : pathW n es [] = 0 := by unfold pathW; split <;> rfl
theorem negC_nil (n : Int) (es : List GE) : negC n es [] = false := by simp [negC]
theorem row_nil (W : World) (A : Option Addr) : RowAt W A [] := fun h => by simp at h

theorem closeR_none {N : Int} {es : List GE} (h : (closeR N es).2.2 = false) : closeR N es = (0, [], false) := by
  by_cases hh : okG N es = true ∧ closeOk N.toNat es = true
  · unfold closeR at h
    rw [if_pos hh] at h
    simp at h
  · exact closeR_no hh
theorem edR_none : edR 0 [] = [] := by unfold edR; split <;> simp [edL]
theorem ed_con {n : Int} {zs : List Int} {w : World} {f : FuncId} {args : Array Value} {es : List GE} {q : Nat} (h1 : es = edR n zs) (h2 : q = es.length) (h : Calls Try.prog f args w fun e w' => ∃ B m cb, e = .returned (.slice B m cb) ∧ m = (edR n zs).length ∧ w'.ownsRow w.heap.size 35 3 (.slice B m cb) m (cellsE (edR n zs)) ∧ Below w.heap.size w w') :
    Calls Try.prog f args w fun e w' => ∃ B cb, e = .returned (.slice B q cb) ∧ Below w.heap.size w w' :=
  h.mono fun e w' ⟨A, k, c, e1, e2, e3, e4⟩ => by
    subst h1 h2 e2
    exact ⟨A, c, e1, e4⟩

theorem tgcon0 {n : Int} {cs : List Int} {e0 : GE} {w : World} {f : FuncId} {args : Array Value} {t0 : Int} {zs : List Int} {ok : Bool} {m : Nat} {r : Int × List Int × Bool} (hr : tightR n cs e0 = r) (h1 : t0 = r.1) (h2 : zs = r.2.1) (h3 : ok = r.2.2) (hm : m = zs.length) (h : Calls Try.prog f args w fun e w' => TgEnd n cs e0 w e w') :
    Calls Try.prog f args w fun e w' => ∃ B cb, e = .returned (.tuple #[.agg #[.int .i64 t0, .slice B m cb], .bool ok]) ∧ w'.ownsRow w.heap.size 3 1 (.slice B m cb) m (zs.map intV) ∧ Below w.heap.size w w' :=
  h.mono fun e w' ⟨A, k, c, e1, e2, e3, e4⟩ => by
    subst hr h1 h2 h3 hm e2
    exact ⟨A, c, e1, e3, e4⟩
/-- append(own.., src..): the source a row of its own, nil or not. -/
theorem run_append_src {P : Program} {w : World} (base : Nat) (t ty e : TypeId) (i : TypeInfo) (z : Value) (size bytes : Nat) (ht : P.underlying t = some (.slice e)) (hi : P.info? e = some i) (hz : i.zero = some z)
    (hsize : i.size = size) (hby : i.bytes = bytes) (hzs : z.cells.size = size) (hsz : 0 < size)
    (v : Value) (n : Nat) (xs : List Value) (hown : w.ownsRow base e size v n xs) (bx : Nat) (x : Value) (m : Nat) (news : List Value) (hx : w.ownsRow bx e size x m news) (h1 : ∀ u ∈ news, u.oneCell' = true)
    (h63 : n + m ≤ maxLen) (hbytes : (n + m) * bytes ≤ 140737488355328) (hbase : base ≤ w.heap.size) :
    ∃ v' w', (Builtin.append_ #[t, t] ty #[v, x]).run P w = .ok v' w' ∧ w'.ownsRow base e size v' (n + m) (xs ++ news) ∧ w.grownBy w' v.ownBlock ∧ (v'.ownBlock = v.ownBlock ∨ v'.ownBlock = some w.heap.size) := by
  rcases hx.2 with ⟨rfl, rfl⟩ | ⟨g, cap, cur, rfl, hbg, hg, hnc, hcm, hcs, htake⟩
  · have hn : news = [] := List.eq_nil_of_length_eq_zero (by simpa using hx.1)
    subst hn
    exact ⟨v, w, run_append_owned_none w base t ty e i size ht hi v n xs hown, by simpa using hown, ⟨rfl, rfl, rfl, Nat.le_refl _, fun _ _ _ => rfl⟩, .inl rfl⟩
  · obtain ⟨v', w', hr, h2, h3, _, h5⟩ := run_append_own_at (P := P) w base t ty e i z size bytes ht hi hz hsize hby hzs hsz v n xs hown ⟨g, 0, none⟩ m cap news hx.1 (fun j u hj => by
      have hj2 : j < m * size := by
        have := (List.getElem?_eq_some_iff.1 hj).1
        rw [hx.1] at this
        exact this
      rw [← htake, List.getElem?_take_of_lt hj2] at hj
      exact World.news_of_block hg j u (by simpa using hj)) h1 h63 hbytes hbase
    exact ⟨v', w', hr, h2, h3, h5⟩
theorem step_append_src {P : Program} {w : World} {ops : Array Oper} {o : Oper} {a : Act} {K : Act → World → Prop} {Q : Exit → Act → World → Prop} {E : Prop} (hgd : o.guard = none) (s x : Operand) (t : TypeId)
    (ho : o.op = .call { callee := .builtin .append, args := #[s, x], argTypes := #[t, t] })
    (base : Nat) (e : TypeId) (i : TypeInfo) (z : Value) (size bytes : Nat) (ht : P.underlying t = some (.slice e)) (hi : P.info? e = some i) (hz : i.zero = some z)
    (hsize : i.size = size) (hby : i.bytes = bytes) (hzs : z.cells.size = size) (hsz : 0 < size)
    (v : Value) (n : Nat) (xs : List Value) (hs : a.eval s = v) (hown : w.ownsRow base e size v n xs) (bx : Nat) (xv : Value) (m : Nat) (news : List Value) (hxe : a.eval x = xv) (hx : w.ownsRow bx e size xv m news) (h1 : ∀ u ∈ news, u.oneCell' = true)
    (h63 : n + m ≤ maxLen) (hbytes : (n + m) * bytes ≤ 140737488355328) (hbase : base ≤ w.heap.size)
    (h : ∀ v' w', w'.ownsRow base e size v' (n + m) (xs ++ news) → w.grownBy w' v.ownBlock → (v'.ownBlock = v.ownBlock ∨ v'.ownBlock = some w.heap.size) → K (a.put o.dst v') w') :
    if Region.wanted o (yielded ops a.tmps) = true then Oper.wp P o a w K Q else E := by
  have hw : Region.wanted o (yielded ops a.tmps) = true := by simp [Region.wanted, hgd]
  rw [if_pos hw]
  obtain ⟨v', w', hr, h2, h3, h4⟩ := run_append_src (P := P) base t o.type e i z size bytes ht hi hz hsize hby hzs hsz v n xs hown bx xv m news hx h1 h63 hbytes hbase
  unfold Oper.wp execOp
  simp only [ho, resolve, invoke, builtin, Sem.run_bind, Sem.run_pure, Result.andThen_ok, List.map_toArray, List.map_cons, List.map_nil, hs, hxe, hr]
  exact h v' w' h2 h3 h4
theorem cellsE_one' (es : List GE) : ∀ u ∈ cellsE es, u.oneCell' = true := by
  intro u hu
  unfold cellsE at hu
  rw [List.mem_flatMap] at hu
  obtain ⟨e, _, he⟩ := hu
  simp [GE.cells] at he
  rcases he with rfl | rfl | rfl <;> rfl
theorem own_empty {W : World} {g B : Nat} {t : TypeId} (h : W.heap[g]? = some (.cells #[] t (0, 0))) (hB : B ≤ g) : W.ownsRow B t 3 (.slice (some ⟨g, 0, none⟩) 0 0) 0 [] :=
  ⟨rfl, .inr ⟨g, 0, #[], rfl, hB, h, Nat.le_refl _, Nat.zero_le _, rfl, rfl⟩⟩
theorem own_single {W : World} {g : Nat} {t : TypeId} {e : GE} (h : W.heap[g]? = some (.cells #[.int .i64 e.u, .int .i64 e.v, .int .i64 e.c] t (0, 0))) : W.ownsRow g t 3 (.slice (some ⟨g, 0, none⟩) 1 1) 1 (cellsE [e]) :=
  ⟨rfl, .inr ⟨g, 1, _, rfl, Nat.le_refl _, h, Nat.le_refl _, by decide, rfl, rfl⟩⟩
theorem cell_new (x : World) (cs : Array Value) (T : TypeId) (j : Nat) (v : Value) (h : cs[j]? = some v) : (x.alloc (.cells cs T)).cell? ⟨x.heap.size, j, none⟩ = some v := by
  have := heap_alloc_new x (.cells cs T)
  dsimp only [World.cell?]
  rw [this]
  exact h
theorem frozen_new (x : World) (cs : Array Value) (T : TypeId) (j : Nat) : (x.alloc (.cells cs T)).frozen? ⟨x.heap.size, j, none⟩ = false := by
  have := heap_alloc_new x (.cells cs T)
  dsimp only [World.frozen?]
  rw [this]
  simp
theorem cell_off {w : World} {b q c o : Nat} {x v : Value} (h : w.cell? ⟨b, q, none⟩ = some v) (hne : b ≠ c) : (w.setCell ⟨c, o, none⟩ x).cell? ⟨b, q, none⟩ = some v :=
  (World.cell?_of_block (a := ⟨b, q, none⟩) (Below.heap_setCell _ _ _ _ hne)).trans h
theorem cell_drw {w : World} {p : Addr} {v : Value} (h : w.cell? p = some v) : w.drew.cell? p = some v := h
theorem cell_alc {w : World} {p : Addr} {v : Value} {o : Obj} (h : w.cell? p = some v) : (w.alloc o).cell? p = some v := (((Below.refl w.heap.size w).alloc (Nat.le_refl _) o).cell (block_lt_of_cell h)).trans h
theorem cut2 {p q : Prop} (hp : p) (k : p → q) : q := k hp
theorem num_con {f : FuncId} {args : Array Value} {w : World} (h : Calls Try.prog f args w fun e w' => ∃ x : Int, e = .returned (.int .i64 x) ∧ 0 ≤ x ∧ x ≤ 65535 ∧ Below w.heap.size w w') :
    Calls Try.prog f args w fun e w' => ∃ v : {x : Int // 0 ≤ x ∧ x ≤ 65535}, e = .returned (.int .i64 v.1) ∧ Below w.heap.size w w' :=
  h.mono fun e w' ⟨x, e1, e2, e3, e4⟩ => ⟨⟨x, e2, e3⟩, e1, e4⟩
theorem num_rem (v : {x : Int // 0 ≤ x ∧ x ≤ 65535}) (N : Nat) (h : 1 ≤ N) : 0 ≤ v.1.tmod (N : Int) ∧ v.1.tmod (N : Int) < N := by
  rw [Int.tmod_eq_emod_of_nonneg v.2.1]
  exact ⟨Int.emod_nonneg _ (by omega), Int.emod_lt_of_pos _ (by omega)⟩
theorem num_wgt (v : {x : Int // 0 ≤ x ∧ x ≤ 65535}) : -3 ≤ v.1.tmod 12 - 3 ∧ v.1.tmod 12 - 3 ≤ 8 := by
  rw [Int.tmod_eq_emod_of_nonneg v.2.1]
  omega
theorem num_wrap (v : {x : Int // 0 ≤ x ∧ x ≤ 65535}) : IntKind.i64.wrap (v.1.tmod 12 - 3) = v.1.tmod 12 - 3 := by
  have := num_wgt v
  exact (IntWalk.i64_left _).trans (by unfold wrap64; omega)
theorem heap_new (w : World) (o : Obj) (g : Nat) (h : g = w.heap.size) : (w.alloc o).heap[g]? = some o := by rw [h]; exact heap_alloc_new w o
theorem blk_alt {x : Option Nat} {g n c s : Nat} (h : x = (Value.slice (some ⟨g, 0, none⟩) n c).ownBlock ∨ x = some s) : ∀ q, x = some q → q = g ∨ q = s := by
  intro q hq
  rcases h with h | h
  · rw [h] at hq; injection hq with hq; exact .inl hq.symm
  · rw [h] at hq; injection hq with hq; exact .inr hq.symm
theorem own_zero {w : World} {B e s n : Nat} {v : Value} {xs : List Value} (h : w.ownsRow B e s v (0 + n) ([] ++ xs)) : w.ownsRow B e s v n xs := by simpa using h
theorem own_snoc {w : World} {B t m : Nat} {v : Value} {es : List GE} {a b d : Int} (h : w.ownsRow B t 3 v m (cellsE es ++ [.int .i64 a, .int .i64 b, .int .i64 d])) : w.ownsRow B t 3 v m (cellsE (es ++ [⟨a, b, d⟩])) := by
  rw [cellsE_append, cells_one]; exact h
theorem one_three (a b d : Int) : ∀ u ∈ [Value.int .i64 a, .int .i64 b, .int .i64 d], u.oneCell' = true := fun u hu => by simp at hu; rcases hu with rfl | rfl | rfl <;> rfl
theorem blk3_c0 {w : World} {g : Nat} {t : TypeId} {x y z : Value} (h : w.heap[g]? = some (.cells #[x, y, z] t (0, 0))) : w.cell? ⟨g, 0, none⟩ = some x := by simp [World.cell?, h]
theorem blk3_c1 {w : World} {g : Nat} {t : TypeId} {x y z : Value} (h : w.heap[g]? = some (.cells #[x, y, z] t (0, 0))) : w.cell? ⟨g, 1, none⟩ = some y := by simp [World.cell?, h]
theorem blk3_c2 {w : World} {g : Nat} {t : TypeId} {x y z : Value} (h : w.heap[g]? = some (.cells #[x, y, z] t (0, 0))) : w.cell? ⟨g, 2, none⟩ = some z := by simp [World.cell?, h]
theorem blk3_fz {w : World} {g j : Nat} {t : TypeId} {x y z : Value} (h : w.heap[g]? = some (.cells #[x, y, z] t (0, 0))) : w.frozen? ⟨g, j, none⟩ = false := by simp [World.frozen?, h]
theorem blk_c0 {w : World} {g : Nat} {t : TypeId} {x y : Value} (h : w.heap[g]? = some (.cells #[x, y] t (0, 0))) : w.cell? ⟨g, 0, none⟩ = some x := by simp [World.cell?, h]
theorem blk_c1 {w : World} {g : Nat} {t : TypeId} {x y : Value} (h : w.heap[g]? = some (.cells #[x, y] t (0, 0))) : w.cell? ⟨g, 1, none⟩ = some y := by simp [World.cell?, h]
theorem blk_fz {w : World} {g j : Nat} {t : TypeId} {x y : Value} (h : w.heap[g]? = some (.cells #[x, y] t (0, 0))) : w.frozen? ⟨g, j, none⟩ = false := by simp [World.frozen?, h]
theorem heap_old {w : World} {g : Nat} {o x : Obj} (h : w.heap[g]? = some x) : (w.alloc o).heap[g]? = some x := by
  have hlt : g < w.heap.size := (Array.getElem?_eq_some_iff.1 h).1
  show (w.heap.push o)[g]? = some x
  rw [Array.getElem?_push_lt hlt, ← h, Array.getElem?_eq_getElem hlt]
theorem heap_grown {w w' : World} {row : Option Nat} (hg : w.grownBy w' row) {b : Nat} {x : Obj} (h : w.heap[b]? = some x) (hr : row ≠ some b) : w'.heap[b]? = some x :=
  (hg.block b (Array.getElem?_eq_some_iff.1 h).1 (fun e => hr e.symm)).trans h
theorem own_aside {w : World} {B e s n g c : Nat} {xs : List Value} (h : w.ownsRow B e s (.slice (some ⟨g, 0, none⟩) n c) n xs) (p : Addr) (u : Value) (hp : p.block ≠ g) : (w.setCell p u).ownsRow B e s (.slice (some ⟨g, 0, none⟩) n c) n xs :=
  h.kept (setCell_grown w p u) (.inr (fun e => by
    have : g = p.block := by simpa [Value.ownBlock] using e
    omega))
theorem tgt_yes {N : Nat} {es : List GE} (hok : okG N es = true) (hf : (closeR N es).2.2 = true) : (closeR N es).1 = N ∧ (closeR N es).2.1 = closeC N es ∧ closeOk N es = true ∧ (closeR N es).2.1.length ≤ 64 := by
  have h : closeOk N es = true := by
    by_cases h : closeOk N es = true
    · exact h
    · rw [closeR_no (fun hh => h (by simpa using hh.2))] at hf
      simp at hf
  rw [closeR_yes hok h]
  refine ⟨rfl, rfl, h, ?_⟩
  dsimp only
  rw [close_length]
  have := (okG_rng hok).2.1
  exact sq_le (by omega)
theorem closeR_len8 {N : Nat} {es : List GE} : (closeR N es).2.1.length ≤ 64 := by
  by_cases hh : okG N es = true ∧ closeOk N es = true
  · rw [closeR_yes hh.1 hh.2]
    dsimp only
    rw [close_length]
    have := (okG_rng hh.1).2.1
    exact sq_le (by omega)
  · rw [closeR_no (by simpa using hh)]
    simp

set_option maxRecDepth 100000 in
set_option maxHeartbeats 16000000 in
theorem FnTightened_walk (A : Option Addr) (n c : Nat) (w : World) (hby : Bytes w w.heap.size A n) :
    Calls Try.prog 5 #[.slice A n c] w fun e w' => e = .returned (.bool true) ∧ Below w.heap.size w w' := by
  by_cases h : n ≤ 1048576
  · have HMG := Lib.hid (MakeGraph_any A n c w h hby)
    have hlt : ¬ ((1048576 : Int) < (n : Int)) := by omega
    have B_w : Below w.heap.size w w := Below.refl _ _
    have HBY := Lib.hid hby
    clear hby
    go_enter Try.func5, Try.ntmps5
    go_wp2_with fail
    refine HMG.out.mono ?_
    rintro e w1 ⟨N, es, D1, k, c1, rfl, hN1, hN5, hek, hk9, hD, ho1, bb1⟩
    have hokg : okG N es = true := dr_okG hN1 hN5 (by omega) hD
    have HOK := Lib.hid hokg
    have HT := Lib.hid (dr_tiny hD)
    have HL := Lib.hid hek
    have hF := cycle_facts hokg
    obtain ⟨t0, ht0⟩ : ∃ t, t = (closeR N es).1 := ⟨_, rfl⟩
    obtain ⟨zs, hzs⟩ : ∃ t, t = (closeR N es).2.1 := ⟨_, rfl⟩
    obtain ⟨ok, hok⟩ : ∃ t, t = (closeR N es).2.2 := ⟨_, rfl⟩
    obtain ⟨m, hml⟩ : ∃ t, t = zs.length := ⟨_, rfl⟩
    obtain ⟨cs, hcs⟩ : ∃ t, t = cycR N es := ⟨_, rfl⟩
    obtain ⟨q, hq⟩ : ∃ t, t = cs.length := ⟨_, rfl⟩
    have hk20 : k ≤ 1048576 := by omega
    have HCG := Lib.hid (fun A' c' W h' => CgEnd.con ht0 hzs hok hml (impl_CloseGraph N es A' k c' W HL.out hk20 h'))
    have hq8 : q ≤ 8 := by rw [hq, hcs]; exact cycR_len _ _
    have hn30 := fun (W : World) (b : Below w.heap.size w W) => num_con (MakeNum_any 30 A n c W h (by decide) ((HBY.out.below b).fresh b))
    rw [show ((30 : Nat) : Int) = 30 from rfl] at hn30
    have HN30 := Lib.hid hn30
    clear hn30
    have hn32 := fun (W : World) (b : Below w.heap.size w W) => num_con (MakeNum_any 32 A n c W h (by decide) ((HBY.out.below b).fresh b))
    rw [show ((32 : Nat) : Int) = 32 from rfl] at hn32
    have HN32 := Lib.hid hn32
    clear hn32
    have hn34 := fun (W : World) (b : Below w.heap.size w W) => num_con (MakeNum_any 34 A n c W h (by decide) ((HBY.out.below b).fresh b))
    rw [show ((34 : Nat) : Int) = 34 from rfl] at hn34
    have HN34 := Lib.hid hn34
    clear hn34
    have hzN : ((N : Int) == 0) = false := by simp; omega
    have hzM : ¬ (N = 0) := by omega
    have HGO := Lib.hid (fun A2 c2 W hh => by have := impl_GraphOk N es A2 k c2 W HL.out hk20 hh; rw [hokg] at this; exact this)
    have HNO := Lib.hid (fun (hf : ok = false) => show t0 = 0 ∧ zs = [] ∧ m = 0 from by rw [hok] at hf; have := closeR_none hf; subst hml hzs ht0; rw [this]; exact ⟨rfl, rfl, rfl⟩)
    have HED := Lib.hid (fun A2 c2 W hh => ed_con edR_none.symm rfl (impl_EdgesOf 0 [] A2 0 c2 W rfl (by omega) hh))
    have HCT := Lib.hid (fun (hf : ok = true) => show t0 = (N : Int) ∧ zs = closeC N es ∧ closeOk N es = true ∧ m ≤ 64 from by rw [hok] at hf; have := tgt_yes hokg hf; subst hml hzs ht0; exact this)
    have HTC := Lib.hid (fun (a b d : Int) (ha : 0 ≤ a ∧ a < (N : Int)) (hb : 0 ≤ b ∧ b < (N : Int)) (hd : -3 ≤ d ∧ d ≤ 8) h => tight_close (e := ⟨a, b, d⟩) hokg HT.out h (by omega) ha hb (by dsimp only; omega))
    have HML := Lib.hid hml.symm
    clear hF ht0 hzs hok hml hcs hq hokg hek hD hk20
    unfold grV at HCG HGO HED ⊢
    have oD := Lib.hid ho1
    clear ho1
    have B_w1 : Below w.heap.size w w1 := B_w.trans (bb1.mono B_w.size)
    clear   bb1
    have oD_w1 := oD
    clear oD
    obtain ⟨b3, hb3⟩ : ∃ b, b = w1.heap.size := ⟨_, rfl⟩
    obtain ⟨wa, hwa⟩ : ∃ W, W = w1.alloc (.cells #[.int .i64 N, .slice D1 k c1] 25) := ⟨_, rfl⟩
    have ba : Below w1.heap.size w1 wa := by rw [hwa]; exact (Below.refl _ _).alloc (Nat.le_refl _) _
    have z_wa : wa.heap.size = b3 + 1 := by rw [hwa, hb3]; simp
    have c0_wa : wa.cell? ⟨b3, 0, none⟩ = some (.int .i64 N) := by rw [hwa, hb3]; go_simp
    have c1_wa : wa.cell? ⟨b3, 1, none⟩ = some (.slice D1 k c1) := by rw [hwa, hb3]; go_simp
    have s0_wa : b3 < wa.heap.size := by omega
    go_upto_region 4 with (fail)
    rw [← hwa]
    try rw [← hb3]
    have B_wa : Below w.heap.size w wa := B_w1.trans (ba.mono B_w1.size)
    have oD_wa := Lib.hid (own_below oD_w1.out ba)
    clear  oD_w1 ba
    clear hb3 hwa
    go_wp2_with fail
    refine (HCG.out D1 c1 _ (own_edge oD_wa.out)).mono ?_
    rintro e w2 ⟨A2, c2, rfl, h2, bb2⟩
    have g2 := Lib.hid h2
    clear h2
    have c0_w2 : w2.cell? ⟨b3, 0, none⟩ = some (.int .i64 N) := (bb2.cell (p := ⟨b3, 0, none⟩) (by dsimp only; omega)).trans c0_wa
    have c1_w2 : w2.cell? ⟨b3, 1, none⟩ = some (.slice D1 k c1) := (bb2.cell (p := ⟨b3, 1, none⟩) (by dsimp only; omega)).trans c1_wa
    have s0_w2 : b3 < w2.heap.size := Nat.lt_of_lt_of_le s0_wa bb2.size
    have B_w2 : Below w.heap.size w w2 := B_wa.trans (bb2.mono B_wa.size)
    have oD_w2 := Lib.hid (own_below oD_wa.out bb2)
    clear c0_wa c1_wa s0_wa oD_wa bb2
    have oC_w2 := g2
    clear g2
    obtain ⟨b4, hb4⟩ : ∃ b, b = w2.heap.size := ⟨_, rfl⟩
    obtain ⟨wb, hwb⟩ : ∃ W, W = w2.alloc (.cells #[.int .i64 t0, .slice A2 m c2] 29) := ⟨_, rfl⟩
    have ba : Below w2.heap.size w2 wb := by rw [hwb]; exact (Below.refl _ _).alloc (Nat.le_refl _) _
    have u_b4_0 : b3 < b4 := by omega
    have z_wb : wb.heap.size = b4 + 1 := by rw [hwb, hb4]; simp
    have c2_wb : wb.cell? ⟨b4, 0, none⟩ = some (.int .i64 t0) := by rw [hwb, hb4]; go_simp
    have c3_wb : wb.cell? ⟨b4, 1, none⟩ = some (.slice A2 m c2) := by rw [hwb, hb4]; go_simp
    have s1_wb : b4 < wb.heap.size := by omega
    go_upto_region 5 with (fail)
    rw [← hwb]
    try rw [← hb4]
    have c0_wb : wb.cell? ⟨b3, 0, none⟩ = some (.int .i64 N) := (ba.cell (p := ⟨b3, 0, none⟩) (by dsimp only; omega)).trans c0_w2
    have c1_wb : wb.cell? ⟨b3, 1, none⟩ = some (.slice D1 k c1) := (ba.cell (p := ⟨b3, 1, none⟩) (by dsimp only; omega)).trans c1_w2
    have s0_wb : b3 < wb.heap.size := Nat.lt_of_lt_of_le s0_w2 ba.size
    have B_wb : Below w.heap.size w wb := B_w2.trans (ba.mono B_w2.size)
    have oD_wb := Lib.hid (own_below oD_w2.out ba)
    have oC_wb := Lib.hid (own_below oC_w2.out ba)
    clear c0_w2 c1_w2 s0_w2 oD_w2 oC_w2 ba
    clear hb4 hwb
    cases ok with
    | false =>
      obtain ⟨rfl, rfl, rfl⟩ := HNO.out rfl
      go_wp2_with fail
      refine (HGO.out D1 c1 _ (own_edge oD_wb.out)).mono ?_
      rintro e w3 ⟨rfl, bb3⟩
      have c0_w3 : w3.cell? ⟨b3, 0, none⟩ = some (.int .i64 N) := (bb3.cell (p := ⟨b3, 0, none⟩) (by dsimp only; omega)).trans c0_wb
      have c1_w3 : w3.cell? ⟨b3, 1, none⟩ = some (.slice D1 k c1) := (bb3.cell (p := ⟨b3, 1, none⟩) (by dsimp only; omega)).trans c1_wb
      have c2_w3 : w3.cell? ⟨b4, 0, none⟩ = some (.int .i64 0) := (bb3.cell (p := ⟨b4, 0, none⟩) (by dsimp only; omega)).trans c2_wb
      have c3_w3 : w3.cell? ⟨b4, 1, none⟩ = some (.slice A2 0 c2) := (bb3.cell (p := ⟨b4, 1, none⟩) (by dsimp only; omega)).trans c3_wb
      have s0_w3 : b3 < w3.heap.size := Nat.lt_of_lt_of_le s0_wb bb3.size
      have s1_w3 : b4 < w3.heap.size := Nat.lt_of_lt_of_le s1_wb bb3.size
      have B_w3 : Below w.heap.size w w3 := B_wb.trans (bb3.mono B_wb.size)
      have oD_w3 := Lib.hid (own_below oD_wb.out bb3)
      have oC_w3 := Lib.hid (own_below oC_wb.out bb3)
      clear c0_wb c1_wb c2_wb c3_wb s0_wb s1_wb oD_wb oC_wb bb3
      go_wp2_with fail
      refine (HED.out A2 c2 _ (row_nil _ _)).mono ?_
      rintro e w4 ⟨A4, c4, rfl, bb4⟩
      have c0_w4 : w4.cell? ⟨b3, 0, none⟩ = some (.int .i64 N) := (bb4.cell (p := ⟨b3, 0, none⟩) (by dsimp only; omega)).trans c0_w3
      have c1_w4 : w4.cell? ⟨b3, 1, none⟩ = some (.slice D1 k c1) := (bb4.cell (p := ⟨b3, 1, none⟩) (by dsimp only; omega)).trans c1_w3
      have c2_w4 : w4.cell? ⟨b4, 0, none⟩ = some (.int .i64 0) := (bb4.cell (p := ⟨b4, 0, none⟩) (by dsimp only; omega)).trans c2_w3
      have c3_w4 : w4.cell? ⟨b4, 1, none⟩ = some (.slice A2 0 c2) := (bb4.cell (p := ⟨b4, 1, none⟩) (by dsimp only; omega)).trans c3_w3
      have s0_w4 : b3 < w4.heap.size := Nat.lt_of_lt_of_le s0_w3 bb4.size
      have s1_w4 : b4 < w4.heap.size := Nat.lt_of_lt_of_le s1_w3 bb4.size
      have B_w4 : Below w.heap.size w w4 := B_w3.trans (bb4.mono B_w3.size)
      have oD_w4 := Lib.hid (own_below oD_w3.out bb4)
      have oC_w4 := Lib.hid (own_below oC_w3.out bb4)
      clear c0_w3 c1_w3 c2_w3 c3_w3 s0_w3 s1_w3 oD_w3 oC_w3 bb4
      go_wp2_with fail
      refine (Contains_one _).mono ?_
      rintro e w5 ⟨rfl, bb5⟩
      have B_w5 : Below w.heap.size w w5 := B_w4.trans (bb5.mono B_w4.size)
      go_wp2_with fail
      go_ret
      exact ⟨rfl, B_w5⟩
    | true =>
      obtain ⟨rfl, hzc, hcl, hm64⟩ := HCT.out rfl
      go_wp2_with fail
      go_cut [6] from 38 to 52 (fun p wc => ∃ (B : Nat) (a b d : Int), p = Value.pointer (some ⟨B, 0, none⟩) ∧ (0 ≤ a ∧ a < (N : Int)) ∧ (0 ≤ b ∧ b < (N : Int)) ∧ (-3 ≤ d ∧ d ≤ 8) ∧ wb.heap.size ≤ B ∧ B < wc.heap.size ∧ wc.cell? ⟨B, 0, none⟩ = some (.int .i64 a) ∧ wc.cell? ⟨B, 1, none⟩ = some (.int .i64 b) ∧ wc.cell? ⟨B, 2, none⟩ = some (.int .i64 d) ∧ Below wb.heap.size wb wc)
      case first =>
        have sw_wb := B_wb.size
        clear z_wb h HMG HBY B_w hlt HOK HT HGO HED HTC HML HL hq8 B_w1 z_wa B_wa B_w2 HCG HNO HCT hzc hcl hm64 oD_wb oC_wb c1_wb c2_wb c3_wb s1_wb u_b4_0
        go_region_held3 (fun W => W.cell? ⟨b3, 0, none⟩ = some (.int .i64 N)) (((try dsimp only); repeat (first | exact c0_x3 | exact c0_x2 | exact c0_x1 | exact c0_wb | refine cell_alc ?_ | refine cell_drw ?_ | refine cell_off ?_ (by omega)))) (first | (go_at_call_of 25 (Value.int .i64 30); refine (HN30.out _ (by repeat (first | exact B_wb | refine Below.drew ?_ | refine Below.alloc ?_ (by first | omega | (simp; done) | (simp; omega)) _))).mono ?_; rintro e x1 ⟨v1, rfl, y1⟩; have z1 : Below w.heap.size w x1 := below_step y1 (by first | omega | (simp; done) | (simp; omega)) (by repeat (first | exact B_wb | refine Below.drew ?_ | refine Below.alloc ?_ (by first | omega | (simp; done) | (simp; omega)) _)); have c0_x1 : x1.cell? ⟨b3, 0, none⟩ = some (.int .i64 N) := (y1.cell (p := ⟨b3, 0, none⟩) (by first | omega | (simp; done) | (simp; omega))).trans (by repeat (first | exact c0_wb | refine cell_alc ?_ | refine cell_drw ?_)); have s0_x1 : b3 < x1.heap.size := Nat.lt_of_lt_of_le (by first | omega | (simp; done) | (simp; omega)) y1.size; have qy1 := y1.size; (try simp at qy1); (try (refine cut2 (p := x1.heap[wb.heap.size]? = some (.cells #[.int .i64 0, .int .i64 0, .int .i64 0] 35 (0, 0))) ?_ ?_; refine (y1.block _ ?_).trans ?_; (focus (first | omega | (simp; done) | (simp; omega))); (focus (first | exact (heap_new _ _ _ (by first | rfl | (simp; done) | (simp; omega))) | exact heap_old (heap_new _ _ _ (by first | rfl | (simp; done) | (simp; omega))))); intro hX1))) | (go_at_call_of 25 (Value.int .i64 32); refine (HN32.out _ (by repeat (first | exact z1 | exact B_wb | refine Below.drew ?_ | refine Below.alloc ?_ (by first | omega | (simp; done) | (simp; omega)) _))).mono ?_; rintro e x2 ⟨v2, rfl, y2⟩; have z2 : Below w.heap.size w x2 := below_step y2 (by first | omega | (simp; done) | (simp; omega)) (by repeat (first | exact z1 | exact B_wb | refine Below.drew ?_ | refine Below.alloc ?_ (by first | omega | (simp; done) | (simp; omega)) _)); have c0_x2 : x2.cell? ⟨b3, 0, none⟩ = some (.int .i64 N) := (y2.cell (p := ⟨b3, 0, none⟩) (by first | omega | (simp; done) | (simp; omega))).trans (by repeat (first | exact c0_x1 | exact c0_wb | refine cell_alc ?_ | refine cell_drw ?_)); have s0_x2 : b3 < x2.heap.size := Nat.lt_of_lt_of_le (by first | omega | (simp; done) | (simp; omega)) y2.size; have qy2 := y2.size; (try simp at qy2); (try (refine cut2 (p := x2.heap[wb.heap.size]? = some (.cells #[.int .i64 0, .int .i64 0, .int .i64 0] 35 (0, 0))) ?_ ?_; refine (y2.block _ ?_).trans ?_; (focus (first | omega | (simp; done) | (simp; omega))); (focus (first | exact hX1 | exact heap_old hX1 | exact (heap_new _ _ _ (by first | rfl | (simp; done) | (simp; omega))) | exact heap_old (heap_new _ _ _ (by first | rfl | (simp; done) | (simp; omega))))); intro hX2)); (try (refine cut2 (p := x2.heap[x1.heap.size]? = some (.cells #[.int .i64 0, .int .i64 0, .int .i64 0] 35 (0, 0))) ?_ ?_; refine (y2.block _ ?_).trans ?_; (focus (first | omega | (simp; done) | (simp; omega))); (focus (first | exact hX1 | exact heap_old hX1 | exact (heap_new _ _ _ (by first | rfl | (simp; done) | (simp; omega))) | exact heap_old (heap_new _ _ _ (by first | rfl | (simp; done) | (simp; omega))))); intro hX2))) | (go_at_call_of 25 (Value.int .i64 34); refine (HN34.out _ (by repeat (first | exact z2 | exact z1 | exact B_wb | refine Below.drew ?_ | refine Below.alloc ?_ (by first | omega | (simp; done) | (simp; omega)) _))).mono ?_; rintro e x3 ⟨v3, rfl, y3⟩; have z3 : Below w.heap.size w x3 := below_step y3 (by first | omega | (simp; done) | (simp; omega)) (by repeat (first | exact z2 | exact z1 | exact B_wb | refine Below.drew ?_ | refine Below.alloc ?_ (by first | omega | (simp; done) | (simp; omega)) _)); have c0_x3 : x3.cell? ⟨b3, 0, none⟩ = some (.int .i64 N) := (y3.cell (p := ⟨b3, 0, none⟩) (by first | omega | (simp; done) | (simp; omega))).trans (by repeat (first | exact c0_x2 | exact c0_x1 | exact c0_wb | refine cell_alc ?_ | refine cell_drw ?_)); have s0_x3 : b3 < x3.heap.size := Nat.lt_of_lt_of_le (by first | omega | (simp; done) | (simp; omega)) y3.size; have nw := num_wrap v3; have qy3 := y3.size; (try simp at qy3); (try (refine cut2 (p := x3.heap[wb.heap.size]? = some (.cells #[.int .i64 0, .int .i64 0, .int .i64 0] 35 (0, 0))) ?_ ?_; refine (y3.block _ ?_).trans ?_; (focus (first | omega | (simp; done) | (simp; omega))); (focus (first | exact hX2 | exact heap_old hX2 | exact hX1 | exact heap_old hX1 | exact (heap_new _ _ _ (by first | rfl | (simp; done) | (simp; omega))) | exact heap_old (heap_new _ _ _ (by first | rfl | (simp; done) | (simp; omega))))); intro hX3; have f0 := blk3_c0 hX3; have f1 := blk3_c1 hX3; have f2 := blk3_c2 hX3; have f3 := blk3_fz (j := 0) hX3; have f4 := blk3_fz (j := 1) hX3; have f5 := blk3_fz (j := 2) hX3; clear hX3)); (try (refine cut2 (p := x3.heap[x1.heap.size]? = some (.cells #[.int .i64 0, .int .i64 0, .int .i64 0] 35 (0, 0))) ?_ ?_; refine (y3.block _ ?_).trans ?_; (focus (first | omega | (simp; done) | (simp; omega))); (focus (first | exact hX2 | exact heap_old hX2 | exact hX1 | exact heap_old hX1 | exact (heap_new _ _ _ (by first | rfl | (simp; done) | (simp; omega))) | exact heap_old (heap_new _ _ _ (by first | rfl | (simp; done) | (simp; omega))))); intro hX3; have f0 := blk3_c0 hX3; have f1 := blk3_c1 hX3; have f2 := blk3_c2 hX3; have f3 := blk3_fz (j := 0) hX3; have f4 := blk3_fz (j := 1) hX3; have f5 := blk3_fz (j := 2) hX3; clear hX3)); (try (refine cut2 (p := x3.heap[x2.heap.size]? = some (.cells #[.int .i64 0, .int .i64 0, .int .i64 0] 35 (0, 0))) ?_ ?_; refine (y3.block _ ?_).trans ?_; (focus (first | omega | (simp; done) | (simp; omega))); (focus (first | exact hX2 | exact heap_old hX2 | exact hX1 | exact heap_old hX1 | exact (heap_new _ _ _ (by first | rfl | (simp; done) | (simp; omega))) | exact heap_old (heap_new _ _ _ (by first | rfl | (simp; done) | (simp; omega))))); intro hX3; have f0 := blk3_c0 hX3; have f1 := blk3_c1 hX3; have f2 := blk3_c2 hX3; have f3 := blk3_fz (j := 0) hX3; have f4 := blk3_fz (j := 1) hX3; have f5 := blk3_fz (j := 2) hX3; clear hX3))))
        all_goals go_wp2_with fail
        all_goals (go_meet; refine ⟨_, _, _, _, rfl, num_rem v1 N hN1, num_rem v2 N hN1, num_wgt v3, ?_, ?_, ?_, ?_, ?_, ?_⟩)
        all_goals (first | assumption | omega | (simp; done) | (simp; omega) | (go_simp; done) | ((try clear z1 z2 z3); (repeat (first | exact Below.refl _ _ | refine below_step (by assumption) (by first | omega | (simp; done) | (simp; omega)) ?_ | refine below_drewN ?_ _ | refine Below.drew ?_ | refine Below.setCell ?_ (by first | omega | (simp; done) | (simp; omega)) _ | refine Below.alloc ?_ (by first | omega | (simp; done) | (simp; omega)) _)); done))
      case rest =>
        obtain ⟨w3, hww⟩ : ∃ W, W = wc := ⟨_, rfl⟩
        rw [← hww] at hcut ⊢
        clear hww wc
        obtain ⟨b6, a, b, d, rfl, ha, hb, hd, hlo, hhi, e0, e1, e2, bR⟩ := hcut
        have c0_w3 : w3.cell? ⟨b3, 0, none⟩ = some (.int .i64 N) := (bR.cell (p := ⟨b3, 0, none⟩) (by dsimp only; omega)).trans c0_wb
        have c1_w3 : w3.cell? ⟨b3, 1, none⟩ = some (.slice D1 k c1) := (bR.cell (p := ⟨b3, 1, none⟩) (by dsimp only; omega)).trans c1_wb
        have c2_w3 : w3.cell? ⟨b4, 0, none⟩ = some (.int .i64 N) := (bR.cell (p := ⟨b4, 0, none⟩) (by dsimp only; omega)).trans c2_wb
        have c3_w3 : w3.cell? ⟨b4, 1, none⟩ = some (.slice A2 m c2) := (bR.cell (p := ⟨b4, 1, none⟩) (by dsimp only; omega)).trans c3_wb
        have s0_w3 : b3 < w3.heap.size := Nat.lt_of_lt_of_le s0_wb bR.size
        have s1_w3 : b4 < w3.heap.size := Nat.lt_of_lt_of_le s1_wb bR.size
        have u_b6_0 : b3 < b6 := by omega
        have u_b6_1 : b4 < b6 := by omega
        have B_w3 : Below w.heap.size w w3 := B_wb.trans (bR.mono B_wb.size)
        have oD_w3 := Lib.hid (own_below oD_wb.out bR)
        have oC_w3 := Lib.hid (own_below oC_wb.out bR)
        have c4_w3 := e0
        have c5_w3 := e1
        have c6_w3 := e2
        have s2_w3 := hhi
        clear c0_wb c1_wb c2_wb c3_wb s0_wb s1_wb oD_wb oC_wb bR hlo hhi e0 e1 e2
        have htc := HTC.out a b d ha hb hd hcl
        rw [← hzc] at htc
        obtain ⟨r, hr⟩ : ∃ r, r = closeR N (es ++ [⟨a, b, d⟩]) := ⟨_, rfl⟩
        obtain ⟨t1, ht1⟩ : ∃ t, t = r.1 := ⟨_, rfl⟩
        obtain ⟨ys, hys⟩ : ∃ t, t = r.2.1 := ⟨_, rfl⟩
        obtain ⟨ok, hok⟩ : ∃ t, t = r.2.2 := ⟨_, rfl⟩
        obtain ⟨q, hq⟩ : ∃ t, t = ys.length := ⟨_, rfl⟩
        have hq64 : q ≤ 64 := by rw [hq, hys, hr]; exact closeR_len8
        have HTT := Lib.hid (fun A2 c2 W hh => tgcon0 (htc.trans hr.symm) ht1 hys hok hq (impl_TightenTable N zs A2 m c2 a b d W HML.out (by omega) hh))
        have HCH := Lib.hid (fun A2 c2 W hh => CgEnd.con (t0 := t1) (zs := ys) (ok := ok) (m := q) (by rw [← hr]; exact ht1) (by rw [← hr]; exact hys) (by rw [← hr]; exact hok) hq (impl_CloseGraph N (es ++ [⟨a, b, d⟩]) A2 (k + 1) c2 W (by rw [List.length_append, HL.out]; rfl) (by omega) hh))
        have HQ := Lib.hid hq
        have hoo : (ok != ok) = false := by simp
        have hqq : ((q : Int) != (q : Int)) = false := by simp
        clear htc hzc hcl hr ht1 hys hok hq HTC HCT HNO HGO HED HCG
        unfold grV at HTT HCH
        go_wp2_with fail
        refine (HTT.out A2 c2 _ (own_row oC_w3.out)).mono ?_
        rintro e w4 ⟨A4, c4, rfl, h4, bb4⟩
        have g4 := Lib.hid h4
        clear h4
        have c0_w4 : w4.cell? ⟨b3, 0, none⟩ = some (.int .i64 N) := (bb4.cell (p := ⟨b3, 0, none⟩) (by dsimp only; omega)).trans c0_w3
        have c1_w4 : w4.cell? ⟨b3, 1, none⟩ = some (.slice D1 k c1) := (bb4.cell (p := ⟨b3, 1, none⟩) (by dsimp only; omega)).trans c1_w3
        have c2_w4 : w4.cell? ⟨b4, 0, none⟩ = some (.int .i64 N) := (bb4.cell (p := ⟨b4, 0, none⟩) (by dsimp only; omega)).trans c2_w3
        have c3_w4 : w4.cell? ⟨b4, 1, none⟩ = some (.slice A2 m c2) := (bb4.cell (p := ⟨b4, 1, none⟩) (by dsimp only; omega)).trans c3_w3
        have c4_w4 : w4.cell? ⟨b6, 0, none⟩ = some (.int .i64 a) := (bb4.cell (p := ⟨b6, 0, none⟩) (by dsimp only; omega)).trans c4_w3
        have c5_w4 : w4.cell? ⟨b6, 1, none⟩ = some (.int .i64 b) := (bb4.cell (p := ⟨b6, 1, none⟩) (by dsimp only; omega)).trans c5_w3
        have c6_w4 : w4.cell? ⟨b6, 2, none⟩ = some (.int .i64 d) := (bb4.cell (p := ⟨b6, 2, none⟩) (by dsimp only; omega)).trans c6_w3
        have s0_w4 : b3 < w4.heap.size := Nat.lt_of_lt_of_le s0_w3 bb4.size
        have s1_w4 : b4 < w4.heap.size := Nat.lt_of_lt_of_le s1_w3 bb4.size
        have s2_w4 : b6 < w4.heap.size := Nat.lt_of_lt_of_le s2_w3 bb4.size
        have B_w4 : Below w.heap.size w w4 := B_w3.trans (bb4.mono B_w3.size)
        have oD_w4 := Lib.hid (own_below oD_w3.out bb4)
        have oC_w4 := Lib.hid (own_below oC_w3.out bb4)
        clear c0_w3 c1_w3 c2_w3 c3_w3 c4_w3 c5_w3 c6_w3 s0_w3 s1_w3 s2_w3 oD_w3 oC_w3 bb4
        have oX_w4 := g4
        clear g4
        obtain ⟨b7, hb7⟩ : ∃ b, b = w4.heap.size := ⟨_, rfl⟩
        obtain ⟨wd, hwd⟩ : ∃ W, W = w4.alloc (.cells #[.int .i64 t1, .slice A4 q c4] 29) := ⟨_, rfl⟩
        have ba : Below w4.heap.size w4 wd := by rw [hwd]; exact (Below.refl _ _).alloc (Nat.le_refl _) _
        have u_b7_0 : b3 < b7 := by omega
        have u_b7_1 : b4 < b7 := by omega
        have u_b7_2 : b6 < b7 := by omega
        have z_wd : wd.heap.size = b7 + 1 := by rw [hwd, hb7]; simp
        have c7_wd : wd.cell? ⟨b7, 0, none⟩ = some (.int .i64 t1) := by rw [hwd, hb7]; go_simp
        have c8_wd : wd.cell? ⟨b7, 1, none⟩ = some (.slice A4 q c4) := by rw [hwd, hb7]; go_simp
        have s3_wd : b7 < wd.heap.size := by omega
        go_upto_region 9 with (fail)
        rw [← hwd]
        try rw [← hb7]
        have c0_wd : wd.cell? ⟨b3, 0, none⟩ = some (.int .i64 N) := (ba.cell (p := ⟨b3, 0, none⟩) (by dsimp only; omega)).trans c0_w4
        have c1_wd : wd.cell? ⟨b3, 1, none⟩ = some (.slice D1 k c1) := (ba.cell (p := ⟨b3, 1, none⟩) (by dsimp only; omega)).trans c1_w4
        have c2_wd : wd.cell? ⟨b4, 0, none⟩ = some (.int .i64 N) := (ba.cell (p := ⟨b4, 0, none⟩) (by dsimp only; omega)).trans c2_w4
        have c3_wd : wd.cell? ⟨b4, 1, none⟩ = some (.slice A2 m c2) := (ba.cell (p := ⟨b4, 1, none⟩) (by dsimp only; omega)).trans c3_w4
        have c4_wd : wd.cell? ⟨b6, 0, none⟩ = some (.int .i64 a) := (ba.cell (p := ⟨b6, 0, none⟩) (by dsimp only; omega)).trans c4_w4
        have c5_wd : wd.cell? ⟨b6, 1, none⟩ = some (.int .i64 b) := (ba.cell (p := ⟨b6, 1, none⟩) (by dsimp only; omega)).trans c5_w4
        have c6_wd : wd.cell? ⟨b6, 2, none⟩ = some (.int .i64 d) := (ba.cell (p := ⟨b6, 2, none⟩) (by dsimp only; omega)).trans c6_w4
        have s0_wd : b3 < wd.heap.size := Nat.lt_of_lt_of_le s0_w4 ba.size
        have s1_wd : b4 < wd.heap.size := Nat.lt_of_lt_of_le s1_w4 ba.size
        have s2_wd : b6 < wd.heap.size := Nat.lt_of_lt_of_le s2_w4 ba.size
        have B_wd : Below w.heap.size w wd := B_w4.trans (ba.mono B_w4.size)
        have oD_wd := Lib.hid (own_below oD_w4.out ba)
        have oC_wd := Lib.hid (own_below oC_w4.out ba)
        have oX_wd := Lib.hid (own_below oX_w4.out ba)
        clear c0_w4 c1_w4 c2_w4 c3_w4 c4_w4 c5_w4 c6_w4 s0_w4 s1_w4 s2_w4 oD_w4 oC_w4 oX_w4 ba
        clear hb7 hwd
        go_wp2_with fail
        go_cut [9] from 59 to 68 (fun p wc => ∃ (B : Nat) (D : Option Addr) (cd : Nat), p = Value.pointer (some ⟨B, 0, none⟩) ∧ wd.heap.size ≤ B ∧ B < wc.heap.size ∧ wc.cell? ⟨B, 0, none⟩ = some (.int .i64 N) ∧ wc.cell? ⟨B, 1, none⟩ = some (.slice D (k + 1) cd) ∧ wc.ownsRow wd.heap.size 35 3 (.slice D (k + 1) cd) (k + 1) (cellsE (es ++ [⟨a, b, d⟩])) ∧ Below wd.heap.size wd wc)
        case first =>
          obtain ⟨i0, hi, hz0, hz1, hz2⟩ := info_parts Try.info35
          have OD := oD_wd
          clear h HMG HBY B_w hlt HOK HT HN30 HN32 HN34 hzN hzM HML HL hq8 hN1 hN5 B_w1 z_wa B_wa B_w2 z_wb B_wb hm64 u_b4_0 u_b6_0 u_b6_1 u_b7_0 u_b7_1 u_b7_2 B_w3 hq64 HTT HCH HQ hoo hqq B_w4 z_wd c2_wd c3_wd c7_wd c8_wd s1_wd s3_wd B_wd oC_wd oX_wd oD_wd ha hb hd
          skip
          go_region_held3 (fun W => W.cell? ⟨b3, 0, none⟩ = some (.int .i64 N) ∧ W.cell? ⟨b3, 1, none⟩ = some (.slice D1 k c1) ∧ W.cell? ⟨b6, 0, none⟩ = some (.int .i64 a) ∧ W.cell? ⟨b6, 1, none⟩ = some (.int .i64 b) ∧ W.cell? ⟨b6, 2, none⟩ = some (.int .i64 d)) (((try dsimp only); refine ⟨?_, ?_, ?_, ?_, ?_⟩; (focus (repeat (first | exact c0_w6 | exact c0_w5 | exact c0_wd | refine cell_alc ?_ | refine cell_drw ?_ | refine cell_off ?_ (by omega)))); (focus (repeat (first | exact c1_w6 | exact c1_w5 | exact c1_wd | refine cell_alc ?_ | refine cell_drw ?_ | refine cell_off ?_ (by omega)))); (focus (repeat (first | exact c4_w6 | exact c4_w5 | exact c4_wd | refine cell_alc ?_ | refine cell_drw ?_ | refine cell_off ?_ (by omega)))); (focus (repeat (first | exact c5_w6 | exact c5_w5 | exact c5_wd | refine cell_alc ?_ | refine cell_drw ?_ | refine cell_off ?_ (by omega)))); (focus (repeat (first | exact c6_w6 | exact c6_w5 | exact c6_wd | refine cell_alc ?_ | refine cell_drw ?_ | refine cell_off ?_ (by omega)))))) (first | (refine step_append_src rfl (.tmp 61) (.tmp 63) 23 rfl wd.heap.size 35 i0 (.agg #[.int .i64 0, .int .i64 0, .int .i64 0]) 3 24 Try.underlying23 hi hz0 hz1 hz2 rfl (by decide) _ 0 [] rfl (own_empty (by first | exact (heap_new _ _ _ (by first | rfl | (simp; done) | (simp; omega))) | exact heap_old (heap_new _ _ _ (by first | rfl | (simp; done) | (simp; omega))) | exact heap_old (heap_old (heap_new _ _ _ (by first | rfl | (simp; done) | (simp; omega))))) (by first | omega | (simp; done) | (simp; omega))) _ _ k (cellsE es) rfl (own_below OD.out (by repeat (first | exact Below.refl _ _ | refine Below.drew ?_ | refine Below.alloc ?_ (by first | omega | (simp; done) | (simp; omega)) _))) (cellsE_one' es) (by unfold maxLen; omega) (by omega) (by first | omega | (simp; done) | (simp; omega)) ?_; intro v5 w5 ho5 hg5 hat5; have y5 : Below wd.heap.size wd w5 := Below.grown (by repeat (first | exact Below.refl _ _ | refine Below.drew ?_ | refine Below.alloc ?_ (by first | omega | (simp; done) | (simp; omega)) _)) hg5 (by first | omega | (simp; done) | (simp; omega)) (fun q hq => by injection hq with hq; first | omega | (simp at hq; omega)); have c0_w5 : w5.cell? ⟨b3, 0, none⟩ = some (.int .i64 N) := (y5.cell (p := ⟨b3, 0, none⟩) (by first | omega | (simp; done) | (simp; omega))).trans c0_wd; have c1_w5 : w5.cell? ⟨b3, 1, none⟩ = some (.slice D1 k c1) := (y5.cell (p := ⟨b3, 1, none⟩) (by first | omega | (simp; done) | (simp; omega))).trans c1_wd; have c4_w5 : w5.cell? ⟨b6, 0, none⟩ = some (.int .i64 a) := (y5.cell (p := ⟨b6, 0, none⟩) (by first | omega | (simp; done) | (simp; omega))).trans c4_wd; have c5_w5 : w5.cell? ⟨b6, 1, none⟩ = some (.int .i64 b) := (y5.cell (p := ⟨b6, 1, none⟩) (by first | omega | (simp; done) | (simp; omega))).trans c5_wd; have c6_w5 : w5.cell? ⟨b6, 2, none⟩ = some (.int .i64 d) := (y5.cell (p := ⟨b6, 2, none⟩) (by first | omega | (simp; done) | (simp; omega))).trans c6_wd; have lt5 := ho5.lt; have ne5 := blk_alt hat5; (try simp at ne5); have q5 := hg5.size; (try simp at q5); have HO5 := Lib.hid (own_zero ho5); (try (refine cut2 (p := w5.heap[wd.heap.size]? = some (.cells #[.int .i64 0, .slice none 0 0] 25 (0, 0))) ?_ ?_; refine heap_grown hg5 ?_ ?_; (focus (first | exact (heap_new _ _ _ (by first | rfl | (simp; done) | (simp; omega))) | exact heap_old (heap_new _ _ _ (by first | rfl | (simp; done) | (simp; omega))) | exact heap_old (heap_old (heap_new _ _ _ (by first | rfl | (simp; done) | (simp; omega)))))); (focus (intro e; injection e with e; first | omega | (simp at e; done) | (simp at e; omega))); intro hX5)); (try (refine cut2 (p := w5.heap[wd.heap.size + 1]? = some (.cells #[.int .i64 0, .slice none 0 0] 25 (0, 0))) ?_ ?_; refine heap_grown hg5 ?_ ?_; (focus (first | exact (heap_new _ _ _ (by first | rfl | (simp; done) | (simp; omega))) | exact heap_old (heap_new _ _ _ (by first | rfl | (simp; done) | (simp; omega))) | exact heap_old (heap_old (heap_new _ _ _ (by first | rfl | (simp; done) | (simp; omega)))))); (focus (intro e; injection e with e; first | omega | (simp at e; done) | (simp at e; omega))); intro hX5)); (try (refine cut2 (p := w5.heap[wd.heap.size + 2]? = some (.cells #[.int .i64 0, .slice none 0 0] 25 (0, 0))) ?_ ?_; refine heap_grown hg5 ?_ ?_; (focus (first | exact (heap_new _ _ _ (by first | rfl | (simp; done) | (simp; omega))) | exact heap_old (heap_new _ _ _ (by first | rfl | (simp; done) | (simp; omega))) | exact heap_old (heap_old (heap_new _ _ _ (by first | rfl | (simp; done) | (simp; omega)))))); (focus (intro e; injection e with e; first | omega | (simp at e; done) | (simp at e; omega))); intro hX5)); (try (refine cut2 (p := w5.heap[wd.heap.size]? = some (.cells #[.int .i64 a, .int .i64 b, .int .i64 d] 35 (0, 0))) ?_ ?_; refine heap_grown hg5 ?_ ?_; (focus (first | exact (heap_new _ _ _ (by first | rfl | (simp; done) | (simp; omega))) | exact heap_old (heap_new _ _ _ (by first | rfl | (simp; done) | (simp; omega))) | exact heap_old (heap_old (heap_new _ _ _ (by first | rfl | (simp; done) | (simp; omega)))))); (focus (intro e; injection e with e; first | omega | (simp at e; done) | (simp at e; omega))); intro hE5)); (try (refine cut2 (p := w5.heap[wd.heap.size + 1]? = some (.cells #[.int .i64 a, .int .i64 b, .int .i64 d] 35 (0, 0))) ?_ ?_; refine heap_grown hg5 ?_ ?_; (focus (first | exact (heap_new _ _ _ (by first | rfl | (simp; done) | (simp; omega))) | exact heap_old (heap_new _ _ _ (by first | rfl | (simp; done) | (simp; omega))) | exact heap_old (heap_old (heap_new _ _ _ (by first | rfl | (simp; done) | (simp; omega)))))); (focus (intro e; injection e with e; first | omega | (simp at e; done) | (simp at e; omega))); intro hE5)); (try (refine cut2 (p := w5.heap[wd.heap.size + 2]? = some (.cells #[.int .i64 a, .int .i64 b, .int .i64 d] 35 (0, 0))) ?_ ?_; refine heap_grown hg5 ?_ ?_; (focus (first | exact (heap_new _ _ _ (by first | rfl | (simp; done) | (simp; omega))) | exact heap_old (heap_new _ _ _ (by first | rfl | (simp; done) | (simp; omega))) | exact heap_old (heap_old (heap_new _ _ _ (by first | rfl | (simp; done) | (simp; omega)))))); (focus (intro e; injection e with e; first | omega | (simp at e; done) | (simp at e; omega))); intro hE5)); clear ho5) | (refine step_append_lies _ rfl (.tmp 64) (.tmp 66) 23 rfl wd.heap.size 35 i0 (.agg #[.int .i64 0, .int .i64 0, .int .i64 0]) 3 24 Try.underlying23 hi hz0 hz1 hz2 rfl (by decide) _ k (cellsE es) rfl (own_below HO5.out (by repeat (first | exact Below.refl _ _ | refine Below.alloc ?_ (by first | omega | (simp; done) | (simp; omega)) _ | refine Below.drew ?_))) ⟨_, 0, none⟩ 1 1 [.int .i64 a, .int .i64 b, .int .i64 d] rfl rfl (World.news_of_block (cs := #[.int .i64 a, .int .i64 b, .int .i64 d]) (t := 35) (fr := (0, 0)) (by first | exact hE5 | exact heap_old hE5 | exact heap_old (heap_old hE5) | exact (heap_new _ _ _ (by first | rfl | (simp; done) | (simp; omega))) | exact heap_old (heap_new _ _ _ (by first | rfl | (simp; done) | (simp; omega))) | exact heap_old (heap_old (heap_new _ _ _ (by first | rfl | (simp; done) | (simp; omega)))))) (one_three a b d) (by decide) (by unfold maxLen; omega) (by omega) (by first | omega | (simp; done) | (simp; omega)) _ rfl ?_; intro g6 cap6 w6 ho6 hg6 hat6 hl6; have y6 : Below wd.heap.size wd w6 := Below.grown (by repeat (first | exact y5 | refine Below.alloc ?_ (by first | omega | (simp; done) | (simp; omega)) _ | refine Below.drew ?_)) hg6 (by first | omega | (simp; done) | (simp; omega)) (fun q hq => (lt5 q hq).1); have c0_w6 : w6.cell? ⟨b3, 0, none⟩ = some (.int .i64 N) := (y6.cell (p := ⟨b3, 0, none⟩) (by first | omega | (simp; done) | (simp; omega))).trans c0_wd; have c1_w6 : w6.cell? ⟨b3, 1, none⟩ = some (.slice D1 k c1) := (y6.cell (p := ⟨b3, 1, none⟩) (by first | omega | (simp; done) | (simp; omega))).trans c1_wd; have c4_w6 : w6.cell? ⟨b6, 0, none⟩ = some (.int .i64 a) := (y6.cell (p := ⟨b6, 0, none⟩) (by first | omega | (simp; done) | (simp; omega))).trans c4_wd; have c5_w6 : w6.cell? ⟨b6, 1, none⟩ = some (.int .i64 b) := (y6.cell (p := ⟨b6, 1, none⟩) (by first | omega | (simp; done) | (simp; omega))).trans c5_wd; have c6_w6 : w6.cell? ⟨b6, 2, none⟩ = some (.int .i64 d) := (y6.cell (p := ⟨b6, 2, none⟩) (by first | omega | (simp; done) | (simp; omega))).trans c6_wd; have at6 := Or.imp (fun h => And.intro (lt5 _ h).2 (ne5 _ h)) id hat6; (try simp at at6); have q6 := hg6.size; (try simp at q6); have HO6 := Lib.hid (own_snoc ho6); (try (refine cut2 (p := w6.heap[wd.heap.size]? = some (.cells #[.int .i64 0, .slice none 0 0] 25 (0, 0))) ?_ ?_; refine heap_grown hg6 ?_ ?_; (focus (first | exact hX5 | exact heap_old hX5 | exact heap_old (heap_old hX5) | exact (heap_new _ _ _ (by first | rfl | (simp; done) | (simp; omega))) | exact heap_old (heap_new _ _ _ (by first | rfl | (simp; done) | (simp; omega))) | exact heap_old (heap_old (heap_new _ _ _ (by first | rfl | (simp; done) | (simp; omega)))))); (focus (intro e; have := lt5 _ e; have := ne5 _ e; omega)); intro hX6; have f0 := blk_c0 hX6; have f1 := blk_c1 hX6; have f2 := blk_fz (j := 0) hX6; have f3 := blk_fz (j := 1) hX6; clear hX6)); (try (refine cut2 (p := w6.heap[wd.heap.size + 1]? = some (.cells #[.int .i64 0, .slice none 0 0] 25 (0, 0))) ?_ ?_; refine heap_grown hg6 ?_ ?_; (focus (first | exact hX5 | exact heap_old hX5 | exact heap_old (heap_old hX5) | exact (heap_new _ _ _ (by first | rfl | (simp; done) | (simp; omega))) | exact heap_old (heap_new _ _ _ (by first | rfl | (simp; done) | (simp; omega))) | exact heap_old (heap_old (heap_new _ _ _ (by first | rfl | (simp; done) | (simp; omega)))))); (focus (intro e; have := lt5 _ e; have := ne5 _ e; omega)); intro hX6; have f0 := blk_c0 hX6; have f1 := blk_c1 hX6; have f2 := blk_fz (j := 0) hX6; have f3 := blk_fz (j := 1) hX6; clear hX6)); (try (refine cut2 (p := w6.heap[wd.heap.size + 2]? = some (.cells #[.int .i64 0, .slice none 0 0] 25 (0, 0))) ?_ ?_; refine heap_grown hg6 ?_ ?_; (focus (first | exact hX5 | exact heap_old hX5 | exact heap_old (heap_old hX5) | exact (heap_new _ _ _ (by first | rfl | (simp; done) | (simp; omega))) | exact heap_old (heap_new _ _ _ (by first | rfl | (simp; done) | (simp; omega))) | exact heap_old (heap_old (heap_new _ _ _ (by first | rfl | (simp; done) | (simp; omega)))))); (focus (intro e; have := lt5 _ e; have := ne5 _ e; omega)); intro hX6; have f0 := blk_c0 hX6; have f1 := blk_c1 hX6; have f2 := blk_fz (j := 0) hX6; have f3 := blk_fz (j := 1) hX6; clear hX6)); (try (refine cut2 (p := w6.heap[w5.heap.size]? = some (.cells #[.int .i64 0, .slice none 0 0] 25 (0, 0))) ?_ ?_; refine heap_grown hg6 ?_ ?_; (focus (first | exact hX5 | exact heap_old hX5 | exact heap_old (heap_old hX5) | exact (heap_new _ _ _ (by first | rfl | (simp; done) | (simp; omega))) | exact heap_old (heap_new _ _ _ (by first | rfl | (simp; done) | (simp; omega))) | exact heap_old (heap_old (heap_new _ _ _ (by first | rfl | (simp; done) | (simp; omega)))))); (focus (intro e; have := lt5 _ e; have := ne5 _ e; omega)); intro hX6; have f0 := blk_c0 hX6; have f1 := blk_c1 hX6; have f2 := blk_fz (j := 0) hX6; have f3 := blk_fz (j := 1) hX6; clear hX6)); (try (refine cut2 (p := w6.heap[w5.heap.size + 1]? = some (.cells #[.int .i64 0, .slice none 0 0] 25 (0, 0))) ?_ ?_; refine heap_grown hg6 ?_ ?_; (focus (first | exact hX5 | exact heap_old hX5 | exact heap_old (heap_old hX5) | exact (heap_new _ _ _ (by first | rfl | (simp; done) | (simp; omega))) | exact heap_old (heap_new _ _ _ (by first | rfl | (simp; done) | (simp; omega))) | exact heap_old (heap_old (heap_new _ _ _ (by first | rfl | (simp; done) | (simp; omega)))))); (focus (intro e; have := lt5 _ e; have := ne5 _ e; omega)); intro hX6; have f0 := blk_c0 hX6; have f1 := blk_c1 hX6; have f2 := blk_fz (j := 0) hX6; have f3 := blk_fz (j := 1) hX6; clear hX6)); clear ho6))
          all_goals go_wp2_with fail
          all_goals (go_meet; refine ⟨_, some ⟨g6, 0, none⟩, cap6, rfl, ?_, ?_, ?_, ?_, ?_, ?_⟩)
          all_goals (first | assumption | omega | (simp; done) | (simp; omega) | (go_simp; done) | (first | exact HO6.out.alloc _ | exact own_below HO6.out ((Below.refl _ _).alloc (Nat.le_refl _) _) | exact own_aside (own_aside HO6.out _ _ (by dsimp only; omega)) _ _ (by dsimp only; omega) | exact own_aside (own_aside (own_below HO6.out ((Below.refl _ _).alloc (Nat.le_refl _) _)) _ _ (by dsimp only; omega)) _ _ (by dsimp only; omega)) | ((repeat (first | exact Below.refl _ _ | refine below_step (by assumption) (by first | omega | (simp; done) | (simp; omega)) ?_ | refine below_drewN ?_ _ | refine Below.drew ?_ | refine Below.setCell ?_ (by first | omega | (simp; done) | (simp; omega)) _ | refine Below.alloc ?_ (by first | omega | (simp; done) | (simp; omega)) _)); done))
        case rest =>
          obtain ⟨w5, hww⟩ : ∃ W, W = wc := ⟨_, rfl⟩
          rw [← hww] at hcut ⊢
          clear hww wc
          obtain ⟨b9, D5, d5, rfl, hlo, hhi, e0, e1, oR, bR⟩ := hcut
          have c0_w5 : w5.cell? ⟨b3, 0, none⟩ = some (.int .i64 N) := (bR.cell (p := ⟨b3, 0, none⟩) (by dsimp only; omega)).trans c0_wd
          have c1_w5 : w5.cell? ⟨b3, 1, none⟩ = some (.slice D1 k c1) := (bR.cell (p := ⟨b3, 1, none⟩) (by dsimp only; omega)).trans c1_wd
          have c2_w5 : w5.cell? ⟨b4, 0, none⟩ = some (.int .i64 N) := (bR.cell (p := ⟨b4, 0, none⟩) (by dsimp only; omega)).trans c2_wd
          have c3_w5 : w5.cell? ⟨b4, 1, none⟩ = some (.slice A2 m c2) := (bR.cell (p := ⟨b4, 1, none⟩) (by dsimp only; omega)).trans c3_wd
          have c4_w5 : w5.cell? ⟨b6, 0, none⟩ = some (.int .i64 a) := (bR.cell (p := ⟨b6, 0, none⟩) (by dsimp only; omega)).trans c4_wd
          have c5_w5 : w5.cell? ⟨b6, 1, none⟩ = some (.int .i64 b) := (bR.cell (p := ⟨b6, 1, none⟩) (by dsimp only; omega)).trans c5_wd
          have c6_w5 : w5.cell? ⟨b6, 2, none⟩ = some (.int .i64 d) := (bR.cell (p := ⟨b6, 2, none⟩) (by dsimp only; omega)).trans c6_wd
          have c7_w5 : w5.cell? ⟨b7, 0, none⟩ = some (.int .i64 t1) := (bR.cell (p := ⟨b7, 0, none⟩) (by dsimp only; omega)).trans c7_wd
          have c8_w5 : w5.cell? ⟨b7, 1, none⟩ = some (.slice A4 q c4) := (bR.cell (p := ⟨b7, 1, none⟩) (by dsimp only; omega)).trans c8_wd
          have s0_w5 : b3 < w5.heap.size := Nat.lt_of_lt_of_le s0_wd bR.size
          have s1_w5 : b4 < w5.heap.size := Nat.lt_of_lt_of_le s1_wd bR.size
          have s2_w5 : b6 < w5.heap.size := Nat.lt_of_lt_of_le s2_wd bR.size
          have s3_w5 : b7 < w5.heap.size := Nat.lt_of_lt_of_le s3_wd bR.size
          have u_b9_0 : b3 < b9 := by omega
          have u_b9_1 : b4 < b9 := by omega
          have u_b9_2 : b6 < b9 := by omega
          have u_b9_3 : b7 < b9 := by omega
          have B_w5 : Below w.heap.size w w5 := B_wd.trans (bR.mono B_wd.size)
          have oD_w5 := Lib.hid (own_below oD_wd.out bR)
          have oC_w5 := Lib.hid (own_below oC_wd.out bR)
          have oX_w5 := Lib.hid (own_below oX_wd.out bR)
          have c9_w5 := e0
          have c10_w5 := e1
          have s4_w5 := hhi
          clear c0_wd c1_wd c2_wd c3_wd c4_wd c5_wd c6_wd c7_wd c8_wd s0_wd s1_wd s2_wd s3_wd oD_wd oC_wd oX_wd bR hlo hhi e0 e1
          have oH_w5 := Lib.hid oR
          clear oR
          go_wp2_with fail
          refine (HCH.out D5 d5 _ (own_edge oH_w5.out)).mono ?_
          rintro e w6 ⟨A6, c6, rfl, h6, bb6⟩
          have g6 := Lib.hid h6
          clear h6
          have c0_w6 : w6.cell? ⟨b3, 0, none⟩ = some (.int .i64 N) := (bb6.cell (p := ⟨b3, 0, none⟩) (by dsimp only; omega)).trans c0_w5
          have c1_w6 : w6.cell? ⟨b3, 1, none⟩ = some (.slice D1 k c1) := (bb6.cell (p := ⟨b3, 1, none⟩) (by dsimp only; omega)).trans c1_w5
          have c2_w6 : w6.cell? ⟨b4, 0, none⟩ = some (.int .i64 N) := (bb6.cell (p := ⟨b4, 0, none⟩) (by dsimp only; omega)).trans c2_w5
          have c3_w6 : w6.cell? ⟨b4, 1, none⟩ = some (.slice A2 m c2) := (bb6.cell (p := ⟨b4, 1, none⟩) (by dsimp only; omega)).trans c3_w5
          have c4_w6 : w6.cell? ⟨b6, 0, none⟩ = some (.int .i64 a) := (bb6.cell (p := ⟨b6, 0, none⟩) (by dsimp only; omega)).trans c4_w5
          have c5_w6 : w6.cell? ⟨b6, 1, none⟩ = some (.int .i64 b) := (bb6.cell (p := ⟨b6, 1, none⟩) (by dsimp only; omega)).trans c5_w5
          have c6_w6 : w6.cell? ⟨b6, 2, none⟩ = some (.int .i64 d) := (bb6.cell (p := ⟨b6, 2, none⟩) (by dsimp only; omega)).trans c6_w5
          have c7_w6 : w6.cell? ⟨b7, 0, none⟩ = some (.int .i64 t1) := (bb6.cell (p := ⟨b7, 0, none⟩) (by dsimp only; omega)).trans c7_w5
          have c8_w6 : w6.cell? ⟨b7, 1, none⟩ = some (.slice A4 q c4) := (bb6.cell (p := ⟨b7, 1, none⟩) (by dsimp only; omega)).trans c8_w5
          have c9_w6 : w6.cell? ⟨b9, 0, none⟩ = some (.int .i64 N) := (bb6.cell (p := ⟨b9, 0, none⟩) (by dsimp only; omega)).trans c9_w5
          have c10_w6 : w6.cell? ⟨b9, 1, none⟩ = some (.slice D5 (k + 1) d5) := (bb6.cell (p := ⟨b9, 1, none⟩) (by dsimp only; omega)).trans c10_w5
          have s0_w6 : b3 < w6.heap.size := Nat.lt_of_lt_of_le s0_w5 bb6.size
          have s1_w6 : b4 < w6.heap.size := Nat.lt_of_lt_of_le s1_w5 bb6.size
          have s2_w6 : b6 < w6.heap.size := Nat.lt_of_lt_of_le s2_w5 bb6.size
          have s3_w6 : b7 < w6.heap.size := Nat.lt_of_lt_of_le s3_w5 bb6.size
          have s4_w6 : b9 < w6.heap.size := Nat.lt_of_lt_of_le s4_w5 bb6.size
          have B_w6 : Below w.heap.size w w6 := B_w5.trans (bb6.mono B_w5.size)
          have oD_w6 := Lib.hid (own_below oD_w5.out bb6)
          have oC_w6 := Lib.hid (own_below oC_w5.out bb6)
          have oX_w6 := Lib.hid (own_below oX_w5.out bb6)
          have oH_w6 := Lib.hid (own_below oH_w5.out bb6)
          clear c0_w5 c1_w5 c2_w5 c3_w5 c4_w5 c5_w5 c6_w5 c7_w5 c8_w5 c9_w5 c10_w5 s0_w5 s1_w5 s2_w5 s3_w5 s4_w5 oD_w5 oC_w5 oX_w5 oH_w5 bb6
          have oY_w6 := g6
          clear g6
          obtain ⟨b10, hb10⟩ : ∃ b, b = w6.heap.size := ⟨_, rfl⟩
          obtain ⟨we, hwe⟩ : ∃ W, W = w6.alloc (.cells #[.int .i64 t1, .slice A6 q c6] 29) := ⟨_, rfl⟩
          have ba : Below w6.heap.size w6 we := by rw [hwe]; exact (Below.refl _ _).alloc (Nat.le_refl _) _
          have u_b10_0 : b3 < b10 := by omega
          have u_b10_1 : b4 < b10 := by omega
          have u_b10_2 : b6 < b10 := by omega
          have u_b10_3 : b7 < b10 := by omega
          have u_b10_4 : b9 < b10 := by omega
          have z_we : we.heap.size = b10 + 1 := by rw [hwe, hb10]; simp
          have c11_we : we.cell? ⟨b10, 0, none⟩ = some (.int .i64 t1) := by rw [hwe, hb10]; go_simp
          have c12_we : we.cell? ⟨b10, 1, none⟩ = some (.slice A6 q c6) := by rw [hwe, hb10]; go_simp
          have s5_we : b10 < we.heap.size := by omega
          go_upto_region 11 with (fail)
          rw [← hwe]
          try rw [← hb10]
          have c0_we : we.cell? ⟨b3, 0, none⟩ = some (.int .i64 N) := (ba.cell (p := ⟨b3, 0, none⟩) (by dsimp only; omega)).trans c0_w6
          have c1_we : we.cell? ⟨b3, 1, none⟩ = some (.slice D1 k c1) := (ba.cell (p := ⟨b3, 1, none⟩) (by dsimp only; omega)).trans c1_w6
          have c2_we : we.cell? ⟨b4, 0, none⟩ = some (.int .i64 N) := (ba.cell (p := ⟨b4, 0, none⟩) (by dsimp only; omega)).trans c2_w6
          have c3_we : we.cell? ⟨b4, 1, none⟩ = some (.slice A2 m c2) := (ba.cell (p := ⟨b4, 1, none⟩) (by dsimp only; omega)).trans c3_w6
          have c4_we : we.cell? ⟨b6, 0, none⟩ = some (.int .i64 a) := (ba.cell (p := ⟨b6, 0, none⟩) (by dsimp only; omega)).trans c4_w6
          have c5_we : we.cell? ⟨b6, 1, none⟩ = some (.int .i64 b) := (ba.cell (p := ⟨b6, 1, none⟩) (by dsimp only; omega)).trans c5_w6
          have c6_we : we.cell? ⟨b6, 2, none⟩ = some (.int .i64 d) := (ba.cell (p := ⟨b6, 2, none⟩) (by dsimp only; omega)).trans c6_w6
          have c7_we : we.cell? ⟨b7, 0, none⟩ = some (.int .i64 t1) := (ba.cell (p := ⟨b7, 0, none⟩) (by dsimp only; omega)).trans c7_w6
          have c8_we : we.cell? ⟨b7, 1, none⟩ = some (.slice A4 q c4) := (ba.cell (p := ⟨b7, 1, none⟩) (by dsimp only; omega)).trans c8_w6
          have c9_we : we.cell? ⟨b9, 0, none⟩ = some (.int .i64 N) := (ba.cell (p := ⟨b9, 0, none⟩) (by dsimp only; omega)).trans c9_w6
          have c10_we : we.cell? ⟨b9, 1, none⟩ = some (.slice D5 (k + 1) d5) := (ba.cell (p := ⟨b9, 1, none⟩) (by dsimp only; omega)).trans c10_w6
          have s0_we : b3 < we.heap.size := Nat.lt_of_lt_of_le s0_w6 ba.size
          have s1_we : b4 < we.heap.size := Nat.lt_of_lt_of_le s1_w6 ba.size
          have s2_we : b6 < we.heap.size := Nat.lt_of_lt_of_le s2_w6 ba.size
          have s3_we : b7 < we.heap.size := Nat.lt_of_lt_of_le s3_w6 ba.size
          have s4_we : b9 < we.heap.size := Nat.lt_of_lt_of_le s4_w6 ba.size
          have B_we : Below w.heap.size w we := B_w6.trans (ba.mono B_w6.size)
          have oD_we := Lib.hid (own_below oD_w6.out ba)
          have oC_we := Lib.hid (own_below oC_w6.out ba)
          have oX_we := Lib.hid (own_below oX_w6.out ba)
          have oH_we := Lib.hid (own_below oH_w6.out ba)
          have oY_we := Lib.hid (own_below oY_w6.out ba)
          clear c0_w6 c1_w6 c2_w6 c3_w6 c4_w6 c5_w6 c6_w6 c7_w6 c8_w6 c9_w6 c10_w6 s0_w6 s1_w6 s2_w6 s3_w6 s4_w6 oD_w6 oC_w6 oX_w6 oH_w6 oY_w6 ba
          clear hb10 hwe
          go_wp2_with fail
          go_loopw [89] (fun ii wr => ∃ j : Nat, ii = .int .i64 j ∧ j ≤ q ∧ Below we.heap.size we wr) (fun ii _ => q - (intOf ii).toNat)
          case atStart => exact ⟨0, rfl, by omega, Below.refl _ _⟩
          case round =>
            obtain ⟨j, rfl, hj, hbr⟩ := hrel
            have c0_wr : wr.cell? ⟨b3, 0, none⟩ = some (.int .i64 N) := (hbr.cell (p := ⟨b3, 0, none⟩) (by dsimp only; omega)).trans c0_we
            have c1_wr : wr.cell? ⟨b3, 1, none⟩ = some (.slice D1 k c1) := (hbr.cell (p := ⟨b3, 1, none⟩) (by dsimp only; omega)).trans c1_we
            have c2_wr : wr.cell? ⟨b4, 0, none⟩ = some (.int .i64 N) := (hbr.cell (p := ⟨b4, 0, none⟩) (by dsimp only; omega)).trans c2_we
            have c3_wr : wr.cell? ⟨b4, 1, none⟩ = some (.slice A2 m c2) := (hbr.cell (p := ⟨b4, 1, none⟩) (by dsimp only; omega)).trans c3_we
            have c4_wr : wr.cell? ⟨b6, 0, none⟩ = some (.int .i64 a) := (hbr.cell (p := ⟨b6, 0, none⟩) (by dsimp only; omega)).trans c4_we
            have c5_wr : wr.cell? ⟨b6, 1, none⟩ = some (.int .i64 b) := (hbr.cell (p := ⟨b6, 1, none⟩) (by dsimp only; omega)).trans c5_we
            have c6_wr : wr.cell? ⟨b6, 2, none⟩ = some (.int .i64 d) := (hbr.cell (p := ⟨b6, 2, none⟩) (by dsimp only; omega)).trans c6_we
            have c7_wr : wr.cell? ⟨b7, 0, none⟩ = some (.int .i64 t1) := (hbr.cell (p := ⟨b7, 0, none⟩) (by dsimp only; omega)).trans c7_we
            have c8_wr : wr.cell? ⟨b7, 1, none⟩ = some (.slice A4 q c4) := (hbr.cell (p := ⟨b7, 1, none⟩) (by dsimp only; omega)).trans c8_we
            have c9_wr : wr.cell? ⟨b9, 0, none⟩ = some (.int .i64 N) := (hbr.cell (p := ⟨b9, 0, none⟩) (by dsimp only; omega)).trans c9_we
            have c10_wr : wr.cell? ⟨b9, 1, none⟩ = some (.slice D5 (k + 1) d5) := (hbr.cell (p := ⟨b9, 1, none⟩) (by dsimp only; omega)).trans c10_we
            have c11_wr : wr.cell? ⟨b10, 0, none⟩ = some (.int .i64 t1) := (hbr.cell (p := ⟨b10, 0, none⟩) (by dsimp only; omega)).trans c11_we
            have c12_wr : wr.cell? ⟨b10, 1, none⟩ = some (.slice A6 q c6) := (hbr.cell (p := ⟨b10, 1, none⟩) (by dsimp only; omega)).trans c12_we
            have s0_wr : b3 < wr.heap.size := Nat.lt_of_lt_of_le s0_we hbr.size
            have s1_wr : b4 < wr.heap.size := Nat.lt_of_lt_of_le s1_we hbr.size
            have s2_wr : b6 < wr.heap.size := Nat.lt_of_lt_of_le s2_we hbr.size
            have s3_wr : b7 < wr.heap.size := Nat.lt_of_lt_of_le s3_we hbr.size
            have s4_wr : b9 < wr.heap.size := Nat.lt_of_lt_of_le s4_we hbr.size
            have s5_wr : b10 < wr.heap.size := Nat.lt_of_lt_of_le s5_we hbr.size
            have oX_wr := Lib.hid (own_below oX_we.out hbr)
            have oY_wr := Lib.hid (own_below oY_we.out hbr)
            have B_wr : Below w.heap.size w wr := B_we.trans (hbr.mono B_we.size)
            clear c0_we c1_we c2_we c3_we c4_we c5_we c6_we c7_we c8_we c9_we c10_we c11_we c12_we s0_we s1_we s2_we s3_we s4_we s5_we oD_we oC_we oX_we oY_we oH_we B_we
            by_cases hlt : j < q
            · have hl := HQ.out
              have hj2 : j < (ys.map intV).length := by simpa [← hl] using hlt
              obtain ⟨g1, o1, hA1, hg1, hc1⟩ := (own_row oX_wr.out) (by omega)
              obtain ⟨g2, o2, hA2, hg2, hc2⟩ := (own_row oY_wr.out) (by omega)
              have x1 := hc1 j hj2
              have x2 := hc2 j hj2
              obtain ⟨y, hy⟩ : ∃ y, (ys.map intV)[j] = .int .i64 y := by simp [intV]
              rw [hy] at x1 x2
              subst hA1
              subst hA2
              have hyy : (y != y) = false := by simp
              clear hc1 hc2 hy hl hj2
              go_wp2_with fail
              go_roundw
              case rel => exact ⟨j + 1, by go_num, by omega, hbr⟩
              case measure => simp [intOf]; omega
            · have hjk : ¬ ((j : Int) < (q : Int)) := by omega
              go_wp2_with fail
              go_ret
              exact ⟨rfl, B_wr⟩
  · have hlt : (1048576 : Int) < (n : Int) := by omega
    go_enter Try.func5, Try.ntmps5
    go_wp2_with fail
    go_ret
    exact ⟨rfl, (by repeat (first | exact Below.refl _ _ | refine below_step (by assumption) (by first | omega | (simp; done) | (simp; omega)) ?_ | refine below_drewN ?_ _ | refine Below.drew ?_ | refine Below.setCell ?_ (by first | omega | (simp; done) | (simp; omega)) _ | refine Below.alloc ?_ (by first | omega | (simp; done) | (simp; omega)) _))⟩

/-! ### FnTightened: the row -/

set_option maxRecDepth 100000 in
theorem FnTightened_lifted (os : Os) (started : os.Started) (H : Type) (enc : TypeId × Value → H) :
    ReturnsInHanded {} Try.checked os 5 .any (Rows.fnTightenedSpec.pre6 enc Try.prog Try.f5 Rows.fnTightenedRow.domain false) (Rows.fnTightenedSpec.post enc Try.prog Try.f5 false true false false) := by
  refine returnsInHanded_of_change (C := Try.checked) (by kernel_rfl) started (by kernel_rfl) Try.func5
    (ChangeSpec.witness6 (enc := enc) (C := Try.checked) false ⟨#[], #[.slice none 0 0], []⟩ 8 (by kernel_rfl) (by kernel_rfl) (by kernel_rfl) (by kernel_rfl)) ?_
  intro W base args ds gs before hval0 hW hcnd _
  have hval : ∀ (j : Nat) t v, Try.f5.params[j]? = some t → args[j]? = some v → Value.okWide Try.prog W .any base t v := hval0
  have hW2 := hW
  obtain ⟨p, q, hA0, hV, hpq, hfz, hnd⟩ := hW2
  have hA : DataW.TrodAll enc Try.prog W 0 (fun _ => true) true Try.f5.params.toList args.toList ds p := hA0
  rw [Try.params5] at hA hval
  obtain ⟨v0, d0, hargs, hds, h0⟩ := trodAll_one hA
  obtain ⟨hgs, hq⟩ := trodVars_none hV
  subst hargs
  subst hds
  subst hgs
  obtain ⟨A0, n0, c0, rfl⟩ := okWide_slice Try.underlying22 (hval 0 22 v0 rfl rfl)
  have h0b := h0
  obtain ⟨fuel, hf⟩ := h0b
  obtain ⟨hm, hby⟩ := bytes_in Try.underlying22 Try.underlying5 cells_u8 hf
  refine (FnTightened_walk A0 n0 c0 W hby).mono fun e W2 ⟨he, hb⟩ => ?_
  subst he
  exact ⟨_, rfl, law_post (by kernel_rfl) (by rw [Try.params5]; decide +kernel) (by kernel_rfl) Try.underlying4 rfl ⟨rfl, rfl, rfl⟩ hW hb⟩

theorem FnTightened_holds : Rows.FnTightenedSaid :=
  OpenClaim.holds_of_wide 5 Try.f5 rfl rfl rfl rfl rfl rfl rfl ⟨rfl, rfl, rfl, rfl, rfl⟩ rfl rfl rfl rfl rfl (by kernel_rfl) Try.func5 (by kernel_rfl)
    (of_decide_eq_true (by kernel_rfl)) (by unfold Func.isWrapper; first | (rw [if_pos (by decide +kernel)]; kernel_rfl) | (rw [if_neg (by decide +kernel)]; exact ⟨rfl, rfl⟩))
    (fun os started H enc _ => FnTightened_lifted os started H enc)

end Go.Proofs.Ytdjaiijgdflopaa
