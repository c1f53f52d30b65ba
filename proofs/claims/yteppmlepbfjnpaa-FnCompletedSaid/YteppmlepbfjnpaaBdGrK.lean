/-
  WALK of impl's settle: the rounds over the edges.
  WALK of impl's distances.
  WALK of spec.ShortestFrom.
  TABLES, AS FUNCTIONS: valid, a cell, closed, the table of a graph, an edge added, a window, the edges of a table.
  WALKS of the small methods of tables: place, hasNode, number; spec's l04At.
-/
import Derived.Test.YteppmlepbfjnpaaBdGrC
import Derived.WalkMore
import Derived.Test.YteppmlepbfjnpaaBdGrN
import Derived.Test.YteppmlepbfjnpaaBdDig
namespace Go.Proofs.Yteppmlepbfjnpaa
open Go.RowKit Go.Shelf
set_option linter.unusedVariables false
set_option linter.unusedSimpArgs false

attribute [local go_sem] Oper.semAt_some

/-- Blocks b and c may have turned, and new blocks have come; nothing else. -/
structure Two (b c : Nat) (w w' : World) : Prop where
  os : w'.os = w.os
  tape : w'.tape = w.tape
  output : w'.output = w.output
  size : w.heap.size ≤ w'.heap.size
  block : ∀ k, k < w.heap.size → k ≠ b → k ≠ c → w'.heap[k]? = w.heap[k]?
theorem Two.refl (b c : Nat) (w : World) : Two b c w w := ⟨rfl, rfl, rfl, Nat.le_refl _, fun _ _ _ _ => rfl⟩
theorem Two.drew {b c : Nat} {w w' : World} (h : Two b c w w') : Two b c w w'.drew := ⟨h.os, h.tape, h.output, h.size, h.block⟩
theorem Two.alloc {b c : Nat} {w w' : World} (h : Two b c w w') (o : Obj) : Two b c w (w'.alloc o) :=
  ⟨h.os, h.tape, h.output, by have := h.size; simp; omega, fun k hk hb hc => (Below.heap_alloc w' o k (Nat.lt_of_lt_of_le hk h.size)).trans (h.block k hk hb hc)⟩
theorem Two.set {b c : Nat} {w w' : World} (h : Two b c w w') {p : Addr} (hp : p.block = b ∨ p.block = c) (x : Value) : Two b c w (w'.setCell p x) :=
  ⟨h.os, h.tape, h.output, by have := h.size; simpa [World.setCell] using this, fun k hk hb hc => (Below.heap_setCell w' p x k (fun e => by rcases hp with hp | hp <;> omega)).trans (h.block k hk hb hc)⟩
theorem Two.setNew {b c : Nat} {w w' : World} (h : Two b c w w') {p : Addr} (hp : w.heap.size ≤ p.block) (x : Value) : Two b c w (w'.setCell p x) :=
  ⟨h.os, h.tape, h.output, by have := h.size; simpa [World.setCell] using this, fun k hk hb hc => (Below.heap_setCell w' p x k (fun e => by omega)).trans (h.block k hk hb hc)⟩
theorem Two.grown {b c : Nat} {w w1 w2 : World} (h : Two b c w w1) (k : w1.grownBy w2 (some b)) : Two b c w w2 :=
  ⟨k.os.trans h.os, k.tape.trans h.tape, k.output.trans h.output, Nat.le_trans h.size k.size, fun i hi hb hc => (k.block i (Nat.lt_of_lt_of_le hi h.size) (fun e => hb (by injection e))).trans (h.block i hi hb hc)⟩
theorem Two.below {b c : Nat} {w w' : World} (h : Two b c w w') (hb : b < w.heap.size) (hc : b < c) : Below b w w' := ⟨h.os, h.tape, h.output, h.size, fun k hk => h.block k (by omega) (by omega) (by omega)⟩
theorem Two.others {b c : Nat} {w w' : World} (h : Two b c w w') (hb : ∃ o : Obj, w.heap[b]? = some o ∧ o.isCells = true) (hc : ∃ o : Obj, w.heap[c]? = some o ∧ o.isCells = true) : KeepsOthers w w' :=
  ⟨h.size, fun k o hk ho => (h.block k (Array.getElem?_eq_some_iff.1 hk).1
    (fun e => by subst e; obtain ⟨o', h1, h2⟩ := hb; rw [hk] at h1; cases h1; rw [ho] at h2; cases h2)
    (fun e => by subst e; obtain ⟨o', h1, h2⟩ := hc; rw [hk] at h1; cases h1; rw [ho] at h2; cases h2)).trans hk⟩
theorem Two.cell {b c : Nat} {w w' : World} (h : Two b c w w') {p : Addr} (h1 : p.block < w.heap.size) (h2 : p.block ≠ b) (h3 : p.block ≠ c) : w'.cell? p = w.cell? p := World.cell?_of_block (h.block _ h1 h2 h3)

theorem mkAt_own {β : Type} (b : Nat) (f : β → St) : Own (fun s W => MkAt W b (f s)) := fun s X Y row hs hg hr => by
  obtain ⟨o, ho, hc⟩ := cells_of_cell (hs.kn.cell 0 (by omega))
  exact hs.of_heap hg.size (grownBy_keeps_cells hg hr ho hc)
theorem MkAt.obj {W : World} {b : Nat} {s : St} (h : MkAt W b s) : ∃ o : Obj, W.heap[b]? = some o ∧ o.isCells = true := cells_of_cell (h.kn.cell 0 (by omega))
theorem passTo_step {es : List GE} {s : St} {j : Nat} {e : GE} (he : es[j]? = some e) : (passTo es s (j + 1)).1 = stepE (passTo es s j).1 j e := by
  unfold stepE
  cases h : lowE (passTo es s j).1 e with
  | true => rw [pass_low he h]; rfl
  | false => rw [pass_not he h]; rfl

set_option maxRecDepth 100000 in
set_option maxHeartbeats 4000000 in
theorem settle_any (b N : Nat) (es : List GE) (A : Option Addr) (k c : Nat) (s : St) (w0 w : World) (hn : es.length = k) (hok : okG N es = true) (hr : EdgeAt w0 A es) (hb0 : Below w0.heap.size w0 w) (h0 : w0.heap.size ≤ b) (hs : MkAt w b s) :
    Calls Try.prog 82 #[.pointer (some ⟨b, 0, none⟩), grV N A k c] w fun e w' =>
      e = .returned (.int .i64 (roundsE es s N).2) ∧ MkAt w' b (roundsE es s N).1 ∧ Below b w w' := by
  have HR := Lib.hid hr
  have HL := Lib.hid hn
  have HO := Lib.hid hok
  have HB := Lib.hid hb0
  have HS := Lib.hid hs
  have hbw := hs.kn.lt
  have hN8 := (okG_rng hok).2.1
  have hk80 := (okG_rng hok).2.2
  rw [hn] at hk80
  clear hr hn hok hb0 hs
  unfold grV
  refine (callsIn_wide (n := 8)).1 ?_
  refine callsIn_of_wp_marks Try.func82 rfl trivial ?_ rfl
  simp only [Try.ntmps82, List.size_toArray, List.length_cons, List.length_nil, Nat.reduceAdd, Nat.reduceSub, Array.replicate_succ, Array.replicate_zero, List.push_toArray, List.append_toArray, List.nil_append, List.cons_append]
  refine wpIn_wide.2 ?_
  go_wp2_with fail
  go_step3
  go_wp2_with fail
  go_step3
  go_wp2_with fail
  refine (callsIn_wide.1 (rounds_in Fence.wide 1 trivial rfl N A k c _)).mono ?_
  rintro e w1 ⟨rfl, rfl⟩
  go_wp2_with fail
  have bM := ((Boxed.new w 126 (.pointer (some ⟨b, 0, none⟩))).alloc (.cells #[.int .i64 (N : Int), .slice A k c] 69))
  have bC := Boxed.new ((w.alloc (.cells #[.pointer (some ⟨b, 0, none⟩)] 126)).alloc (.cells #[.int .i64 (N : Int), .slice A k c] 69)) 3 (.int .i64 (-1))
  simp only [World.size_alloc] at bC
  obtain ⟨W1, hW1⟩ : ∃ W1, ((w.alloc (.cells #[.pointer (some ⟨b, 0, none⟩)] 126)).alloc (.cells #[.int .i64 (N : Int), .slice A k c] 69)).alloc (.cells #[.int .i64 (-1)] 3) = W1 := ⟨_, rfl⟩
  have hs1 : W1.heap.size = w.heap.size + 1 + 1 + 1 := by rw [← hW1]; simp
  have bM1 : Boxed W1 w.heap.size 126 (.pointer (some ⟨b, 0, none⟩)) := by rw [← hW1]; exact bM.alloc _
  have hB1 : Below b w W1 := by rw [← hW1]; exact ((((Below.refl _ w).alloc (by omega) _).alloc (by simp; omega) _).alloc (by simp; omega) _)
  have hM1 : MkAt W1 b s := by rw [← hW1]; exact ((HS.out.alloc _).alloc _).alloc _
  rw [hW1] at bC ⊢
  clear hW1 bM
  obtain ⟨W0, hW0⟩ : ∃ W0, W1.alloc (.cells #[.int .i64 (N : Int), .slice A k c] 69) = W0 := ⟨_, rfl⟩
  have hs0 : W0.heap.size = w.heap.size + 4 := by rw [← hW0]; simp; omega
  have bM0 : Boxed W0 w.heap.size 126 (.pointer (some ⟨b, 0, none⟩)) := by rw [← hW0]; exact bM1.alloc _
  have bC0 : Boxed W0 (w.heap.size + 2) 3 (.int .i64 (-1)) := by rw [← hW0]; exact bC.alloc _
  have hB0 : Below b w W0 := by rw [← hW0]; exact hB1.alloc (by omega) _
  have hM0 : MkAt W0 b s := by rw [← hW0]; exact hM1.alloc _
  have cN0 : W0.cell? ⟨w.heap.size + 3, 0, none⟩ = some (.int .i64 N) := by
                                                                                have e3 : w.heap.size + 3 = W1.heap.size := by omega
                                                                                rw [← hW0, e3]; clear e3 hs1 hs0 hW0; go_simp
  have cN1 : W0.cell? ⟨w.heap.size + 3, 1, none⟩ = some (.slice A k c) := by
                                                                                have e3 : w.heap.size + 3 = W1.heap.size := by omega
                                                                                rw [← hW0, e3]; clear e3 hs1 hs0 hW0; go_simp
  rw [hW0]
  clear hW0 bM1 bC hB1 hM1 hs1
  refine (wpIn_wide (n := 8)).1 (wpIn_rangeFunc_ownG rfl (by omega) (gf := 110) (lb := #[.pointer (some ⟨w.heap.size + 3, 0, none⟩)]) rfl trivial (enters_of Try.func110 (by kernel_rfl) rfl)
    (rounds_stops Fence.wide 7 trivial rfl (by omega) (w.heap.size + 3) N A k c (by omega) W0 (by omega) cN0 cN1) KpB.t (KpB.b (by omega)) (Below.refl _ _) (fun _ => rfl)
    (fun pre W => ((MkAt W b (roundsE es s pre.length).1 ∧ Boxed W (w.heap.size + 2) 3 (.int .i64 (roundsE es s pre.length).2)) ∧ Boxed W w.heap.size 126 (.pointer (some ⟨b, 0, none⟩))) ∧ Below b W0 W)
    (fun cd pre W => (((MkAt W b (roundsE es s pre.length).1 ∧ Boxed W (w.heap.size + 2) 3 (.int .i64 (roundsE es s pre.length).2)) ∧ Boxed W w.heap.size 126 (.pointer (some ⟨b, 0, none⟩))) ∧ Below b W0 W) ∧ (cd = .exit 0 ∧ 1 ≤ pre.length ∧ (roundsE es s pre.length).2 = -1))
    (OwnFrom.and (OwnFrom.and (OwnFrom.and (Own.from (mkAt_own _ _) _) (Own.from (boxed_own _ _ _) _)) (Own.from (boxed_own _ _ _) _)) (ownFrom_below (by omega) (by omega)))
    (fun cd => OwnFrom.and (OwnFrom.and (OwnFrom.and (OwnFrom.and (Own.from (mkAt_own _ _) _) (Own.from (boxed_own _ _ _) _)) (Own.from (boxed_own _ _ _) _)) (ownFrom_below (by omega) (by omega))) (ownFrom_pure _ _))
    ⟨⟨⟨hM0, bC0⟩, bM0⟩, Below.refl _ _⟩
    (fun x => { tmps := #[.pointer (some ⟨b, 0, none⟩), .agg #[.int .i64 (N : Int), .slice A k c], .pointer (some ⟨w.heap.size, 0, none⟩), .pointer (some ⟨w.heap.size + 1, 0, none⟩), .int .i64 0, .pointer (some ⟨w.heap.size + 1 + 1, 0, none⟩), .slice A k c, undef, undef, .agg #[.int .i64 (N : Int), .slice A k c], .func (.func 110) #[] #[.pointer (some ⟨w.heap.size + 1 + 1 + 1, 0, none⟩)], .slice A k c, undef, undef, undef, undef, undef, undef, undef, undef, undef, undef, undef, undef, undef, undef, undef, undef], defers := [] })
    ?assign ?body ?done ?stop)
  case assign =>
    intro l x W K hK
    gi_wp2
    exact hK
  case body =>
    rintro l pre x W ⟨⟨⟨hM, bC⟩, bM⟩, hBw0⟩ hlen
    have hBw := hB0.trans hBw0
    have hWs0 := hBw0.size
    have cM := bM.cell
    have cC := bC.cell
    have fC := bC.frozen
    have hWs := hBw.size
    have hltC := bC.lt
    obtain ⟨sR, hsR⟩ : ∃ sR, sR = (roundsE es s pre.length).1 := ⟨_, rfl⟩
    have hsR1 : roundsE es s (pre.length + 1) = passTo es sR es.length := by rw [hsR]; rfl
    rw [HL.out] at hsR1
    rw [← hsR] at hM
    have HR1 := Lib.hid hsR1
    have HM := Lib.hid hM
    have HBC := Lib.hid bC
    have HBM := Lib.hid bM
    clear hsR hsR1 hM bC bM
    have n1 : (b = w.heap.size + 2) = False := eq_false (by omega)
    have n2 : (w.heap.size + 2 = b) = False := eq_false (by omega)
    have n3 : (w.heap.size = w.heap.size + 2) = False := eq_false (by omega)
    have n4 : (w.heap.size + 2 = w.heap.size) = False := eq_false (by omega)
    have n5 : (w.heap.size = b) = False := eq_false (by omega)
    have n6 : (b = w.heap.size) = False := eq_false (by omega)
    have hM0 : MkAt (W.setCell ⟨w.heap.size + 2, 0, none⟩ (.int .i64 (-1))) b sR := HM.out.other (by dsimp only; omega) _
    have hC0 : Boxed (W.setCell ⟨w.heap.size + 2, 0, none⟩ (.int .i64 (-1))) (w.heap.size + 2) 3 (.int .i64 (-1)) := HBC.out.set _
    have hT0 : Two b (w.heap.size + 2) W (W.setCell ⟨w.heap.size + 2, 0, none⟩ (.int .i64 (-1))) := (Two.refl _ _ W).set (p := ⟨w.heap.size + 2, 0, none⟩) (.inr rfl) _
    have HM0 := Lib.hid hM0
    have HC0 := Lib.hid hC0
    clear hM0 hC0
    gi_wp2
    gi_loopw [14] (fun i wr => ∃ j : Nat, j ≤ k ∧ i = .int .i64 j ∧ MkAt wr b (passTo es sR j).1 ∧ Boxed wr (w.heap.size + 2) 3 (.int .i64 (passTo es sR j).2) ∧ Two b (w.heap.size + 2) W wr) (fun i _ => k - (intOf i).toNat)
    case atStart => exact ⟨0, Nat.zero_le _, rfl, HM0.out, HC0.out, hT0⟩
    case round =>
      obtain ⟨j, hj, rfl, hMj, hCj, hT⟩ := hrel
      by_cases hlt2 : j < k
      · obtain ⟨g, o, rfl, hg, hc⟩ := HR.out (by have := HL.out; omega)
        have hc1 := hc j (by have := HL.out; omega)
        obtain ⟨e, he⟩ : ∃ e, e = es[j]'(by have := HL.out; omega) := ⟨_, rfl⟩
        rw [← he] at hc1
        have hej : es[j]? = some e := by rw [he]; exact List.getElem?_eq_getElem _
        obtain ⟨u, v, heq, hu, hv⟩ := okG_edgeN HO.out hej
        obtain ⟨c0, c1, c2⟩ := hc1
        have hw : ∀ y : Addr, y.block < w0.heap.size → wr.cell? y = w0.cell? y := fun y hy =>
          (hT.cell (by omega) (by omega) (by omega)).trans ((hBw.cell (p := y) (by omega)).trans (HB.out.cell (p := y) hy))
        have k0 := (hw ⟨g, o + j * 3, none⟩ hg).trans c0
        have k1 := (hw ⟨g, o + j * 3 + 1, none⟩ hg).trans c1
        have k2 := (hw ⟨g, o + j * 3 + 2, none⟩ hg).trans c2
        rw [heq] at k0 k1 k2
        dsimp only at k0 k1 k2
        obtain ⟨y, hy⟩ : ∃ y, y = e.c := ⟨_, rfl⟩
        rw [← hy] at k2 heq
        have cM2 : wr.cell? ⟨w.heap.size, 0, none⟩ = some (.pointer (some ⟨b, 0, none⟩)) := (hT.cell (p := ⟨w.heap.size, 0, none⟩) (by dsimp only; omega) (by dsimp only; omega) (by dsimp only; omega)).trans cM
        have cC2 := hCj.cell
        have fC2 := hCj.frozen
        have hls := hT.size
        have hq := fun W => lower_any b j e u v (by rw [← hy]; exact heq) (by omega) (by omega) (passTo es sR j).1 W
        have hval : e.val = .agg #[.int .i64 (u : Int), .int .i64 (v : Int), .int .i64 y] := by rw [heq]; rfl
        rw [hval] at hq
        have hps : (passTo es sR (j + 1)).1 = stepE (passTo es sR j).1 j e := passTo_step hej
        have HPS := Lib.hid hps
        have HQ := Lib.hid hq
        have HE := Lib.hid hej
        have HM2 := Lib.hid hMj
        have HC2 := Lib.hid hCj
        have HT := Lib.hid hT
        clear hc c0 c1 c2 he hej heq hw hy hps hq hMj hCj hT hval
        have i1 : w.heap.size < wr.heap.size := by omega
        have i2 : w.heap.size + 2 < wr.heap.size := by omega
        have i3 : b < wr.heap.size := by omega
        gi_wp2_with fail
        refine ⟨trivial, ?_⟩
        refine (CallsIn.inRound l (callsIn_wide.2 (HQ.out _ (HM2.out.alloc _)))).mono ?_
        rintro e2 w2 ⟨rfl, hM3, hg3⟩
        have hC3 : Boxed w2 (w.heap.size + 2) 3 (.int .i64 (passTo es sR j).2) := (HC2.out.alloc _).kept hg3 (by simp; omega)
        have hT3 : Two b (w.heap.size + 2) W w2 := (HT.out.alloc _).grown hg3
        have cC3 := hC3.cell
        have fC3 := hC3.frozen
        have HM3 := Lib.hid hM3
        have HC3 := Lib.hid hC3
        have HT3 := Lib.hid hT3
        have hs3 := hg3.size
        clear hM3 hC3 hT3 hg3
        obtain ⟨lo, hlo⟩ : ∃ lo, lo = lowE (passTo es sR j).1 e := ⟨_, rfl⟩
        rw [← hlo]
        have HLO := Lib.hid hlo
        clear hlo
        cases lo with
        | false =>
          have hp := pass_not HE.out HLO.out.symm
          have HP := Lib.hid hp
          clear hp
          gi_wp2_with fail
          go_roundw
          case rel => exact ⟨j + 1, by omega, by go_num, by rw [HPS.out]; exact HM3.out, by rw [HP.out]; exact HC3.out, HT3.out⟩
          case measure => simp [intOf]; omega
        | true =>
          have hp := pass_low HE.out HLO.out.symm
          have HP := Lib.hid hp
          clear hp
          gi_wp2_with fail
          go_roundw
          case rel => exact ⟨j + 1, by omega, by go_num, by rw [HPS.out]; exact HM3.out.other (by dsimp only; omega) _, by rw [HP.out]; exact HC3.out.set _, HT3.out.set (.inr rfl) _⟩
          case measure => simp [intOf]; omega
      · have : j = k := by omega
        subst this
        have cC2 := hCj.cell
        obtain ⟨ch, hch⟩ : ∃ ch, ch = (passTo es sR j).2 := ⟨_, rfl⟩
        rw [← hch] at cC2 hCj
        have HCH := Lib.hid hch
        have hKF : KeepsFrom W0.heap.size W wr := (hT.others HM.out.obj ⟨_, HBC.out, rfl⟩).from _
        have hKp : KpB (w.heap.size + 3) W wr := hT.block _ (by omega) (by omega) (by omega)
        have hBM : Boxed wr w.heap.size 126 (.pointer (some ⟨b, 0, none⟩)) := (hT.block _ (by omega) (by omega) (by omega)).trans HBM.out
        have hBl : Below b W0 wr := hBw0.trans (hT.below (by omega) (by omega))
        have HKp := Lib.hid hKp
        have HT := Lib.hid hT
        have HBM2 := Lib.hid hBM
        have HCj := Lib.hid hCj
        clear hch hKp hT hBM hCj
        by_cases h1 : ch = -1
        · have hb : (ch == -1) = true := by simp [h1]
          have H1 := Lib.hid h1
          clear h1
          gi_wp2_with fail
          refine ⟨hKF, ⟨⟨⟨?_, ?_⟩, HBM2.out⟩, hBl⟩, rfl, by simp, ?_⟩
          · rw [List.length_append, List.length_singleton, HR1.out]; exact hMj
          · rw [List.length_append, List.length_singleton, HR1.out, ← HCH.out]; exact HCj.out
          · rw [List.length_append, List.length_singleton, HR1.out, ← HCH.out]; exact H1.out
        · have hb : (ch == -1) = false := by simp [h1]
          gi_wp2_with fail
          refine ⟨hKF, HKp.out, ⟨⟨?_, ?_⟩, HBM2.out⟩, hBl⟩
          · rw [List.length_append, List.length_singleton, HR1.out]; exact hMj
          · rw [List.length_append, List.length_singleton, HR1.out, ← HCH.out]; exact HCj.out
  case done =>
    rintro D xs W hD hxs ⟨⟨⟨hM, bC⟩, bM⟩, hBw0⟩ hK
    have hBw := hB0.trans hBw0
    rw [hxs] at hM bC
    have cC := bC.cell
    go_wp2_with fail
    refine ⟨by simp, .inl ⟨_, _, rfl, run_takeDeferred hK, ?_⟩⟩
    exact ⟨_, results_tmp rfl _ _ _, rfl, (mkAt_own b (fun _ : Unit => (roundsE es s N).1)).putObj (s := ()) _ hM hK rfl, hBw.trans (belowK_b (w := w) (by omega) W D _ _ (by omega) hK rfl rfl)⟩
  case stop =>
    rintro D cd pre W hD hpl ⟨⟨⟨⟨hM, bC⟩, bM⟩, hBw0⟩, rfl, h1, h2⟩ hK
    have hBw := hB0.trans hBw0
    have hst : roundsE es s N = roundsE es s pre.length := by
      have := rounds_still es s (pre.length - 1) (by rw [show pre.length - 1 + 1 = pre.length from by omega]; exact h2) (N - pre.length)
      rwa [show pre.length - 1 + 1 + (N - pre.length) = N from by omega, show pre.length - 1 + 1 = pre.length from by omega] at this
    rw [← hst] at hM bC
    clear hst h2
    refine wpIn_exit ?_
    have cC := bC.cell
    go_wp2_with fail
    refine ⟨by simp, .inl ⟨_, _, rfl, run_takeDeferred hK, ?_⟩⟩
    exact ⟨_, results_tmp rfl _ _ _, rfl, (mkAt_own b (fun _ : Unit => (roundsE es s N).1)).putObj (s := ()) _ hM hK rfl, hBw.trans (belowK_b (w := w) (by omega) W D _ _ (by omega) hK rfl rfl)⟩

end Go.Proofs.Yteppmlepbfjnpaa

namespace Go.Proofs.Yteppmlepbfjnpaa
open Go.RowKit
set_option linter.unusedVariables false
set_option linter.unusedSimpArgs false

def distE (s : St) (j : Nat) : Int := if s.kn j = true then (if s.nu j ≤ 1000000 then s.nu j else 1000000) else 1000000
def distL (s : St) (j : Nat) : List Value := (List.range j).map fun i => intV (distE s i)
theorem distL_succ (s : St) (j : Nat) : distL s (j + 1) = distL s j ++ [intV (distE s j)] := by simp [distL, List.range_succ]
theorem distL_length (s : St) (j : Nat) : (distL s j).length = j := by simp [distL]
theorem set_take (xs : List Value) (j : Nat) (a : Value) (hj : j < xs.length) : (xs.set j a).take (j + 1) = xs.take j ++ [a] := by
  have h : (xs.take j).length = j := by simp; omega
  rw [List.take_set, List.take_add_one, List.getElem?_eq_getElem hj, List.set_append_right _ _ (by omega), h, Nat.sub_self]
  rfl

set_option maxRecDepth 100000 in
set_option maxHeartbeats 2000000 in
theorem distances_any (b N : Nat) (s : St) (w : World) (hN : N ≤ 8) (hs : MkAt w b s) :
    Calls Try.prog 109 #[.pointer (some ⟨b, 0, none⟩), .int .i64 N] w fun e w' =>
      ∃ B cb, e = .returned (.slice B N cb) ∧ w'.ownsRow w.heap.size 3 1 (.slice B N cb) N (distL s N) ∧ Below w.heap.size w w' := by
  obtain ⟨i0, hi, hz0, hz1, hz2⟩ := info_parts Try.info3
  have hb2 : i0.bytes * N ≤ 281474976710656 := by rw [hz2]; omega
  have HS := Lib.hid hs
  have hbw := hs.kn.lt
  clear hs
  go_enter Try.func109, Try.ntmps109
  go_wp2_with (refine wpList_make_full _ rfl _ _ 33 rfl w.heap.size 3 i0 (.int .i64 0) 1 Try.underlying33 hi hz0 hz1 .i64 .i64 _ _ N rfl rfl rfl rfl hb2 (by unfold maxLen; omega) (Nat.le_refl _) ?_)
  intro w1 h1 g1
  have b1 : Below w.heap.size w w1 := (Below.refl _ w).grown g1 (Nat.le_refl _) (fun k hk => by cases hk)
  have hb0 : ∃ xs, w1.ownsRow w.heap.size 3 1 (.slice (some ⟨w.heap.size, 0, none⟩) N N) N xs ∧ xs.take 0 = distL s 0 := ⟨_, h1, by simp [distL]⟩
  clear g1 h1
  go_wp2
  go_loopw [11] (fun i wr => ∃ j : Nat, j ≤ N ∧ i = .int .i64 j ∧ (∃ xs, wr.ownsRow w.heap.size 3 1 (.slice (some ⟨w.heap.size, 0, none⟩) N N) N xs ∧ xs.take j = distL s j) ∧ Below w.heap.size w wr) (fun i _ => N - (intOf i).toNat)
  case atStart => exact ⟨0, Nat.zero_le _, rfl, hb0, b1⟩
  case round =>
    obtain ⟨j, hj, rfl, ⟨xs, hown, htk⟩, hbl⟩ := hrel
    by_cases hlt : j < N
    · have hlen : xs.length = N := by have := hown.1; omega
      obtain ⟨y, hy⟩ : ∃ y, wr.cell? ⟨w.heap.size, j, none⟩ = some y := ⟨_, (hown.cellAt j (by omega)).trans (List.getElem?_eq_getElem (by omega))⟩
      have hfz := hown.frozenAt j
      obtain ⟨bk, hbk⟩ : ∃ x, x = s.kn j := ⟨_, rfl⟩
      obtain ⟨nu, hnu⟩ : ∃ x, x = s.nu j := ⟨_, rfl⟩
      have hm : MkAt wr b s := HS.out.of_heap hbl.size (hbl.block b hbw)
      have f1 : wr.cell? ⟨b, j, none⟩ = some (.bool bk) := by rw [hbk]; simpa [fB] using hm.kn.cell j (by omega)
      have f2 : wr.cell? ⟨b, 8 + j, none⟩ = some (.int .i64 nu) := by rw [hnu]; simpa [fI] using hm.nu.cell j (by omega)
      have hji : (j : Int) < 8 := by omega
      have hdst : ∀ d, d = (if bk = true then (if nu ≤ 1000000 then nu else 1000000) else 1000000) → distE s j = d := by intro d hd; rw [hd, hbk, hnu]; rfl
      have h1 := fun a => (hown.stored j a).1
      have h2 := fun a a' => ((h1 a).stored j a').1
      have ht := fun a => set_take xs j a (by omega)
      have ht2 : ∀ a a', ((xs.set j a).set j a').take (j + 1) = xs.take j ++ [a'] := fun a a' => by rw [List.set_set]; exact ht a'
      have H1 := Lib.hid h1
      have H2 := Lib.hid h2
      have HT := Lib.hid ht
      have HT2 := Lib.hid ht2
      have HD := Lib.hid hdst
      have HK := Lib.hid htk
      have n1 : (b = w.heap.size) = False := eq_false (by omega)
      have n2 : (w.heap.size = b) = False := eq_false (by omega)
      clear hown htk hlen hbk hnu hm hdst h1 h2 ht ht2
      cases bk with
      | false =>
        go_wp2
        go_roundw
        case rel => exact ⟨j + 1, by omega, by go_num, ⟨_, H1.out _, by rw [HT.out, HK.out, distL_succ, HD.out _ rfl]; rfl⟩, hbl.setCell (Nat.le_refl _) _⟩
        case measure => simp [intOf]; omega
      | true =>
        by_cases hlt2 : nu ≤ 1000000
        · go_wp2
          go_roundw
          case rel => exact ⟨j + 1, by omega, by go_num, ⟨_, H2.out _ _, by rw [HT2.out, HK.out, distL_succ, HD.out _ rfl, if_pos rfl, if_pos hlt2]; rfl⟩, (hbl.setCell (Nat.le_refl _) _).setCell (Nat.le_refl _) _⟩
          case measure => simp [intOf]; omega
        · go_wp2
          go_roundw
          case rel => exact ⟨j + 1, by omega, by go_num, ⟨_, H2.out _ _, by rw [HT2.out, HK.out, distL_succ, HD.out _ rfl, if_pos rfl, if_neg (by omega)]; rfl⟩, (hbl.setCell (Nat.le_refl _) _).setCell (Nat.le_refl _) _⟩
          case measure => simp [intOf]; omega
    · go_wp2
      go_ret
      have : j = N := by omega
      subst this
      refine ⟨_, _, rfl, ?_, hbl⟩
      rw [List.take_of_length_le (by have := hown.1; omega)] at htk
      rw [← htk]; exact hown

end Go.Proofs.Yteppmlepbfjnpaa

namespace Go.Proofs.Yteppmlepbfjnpaa
open Go.RowKit
set_option linter.unusedVariables false
set_option linter.unusedSimpArgs false

def srcS (u : Nat) : St := ⟨fun j => decide (j = u), fun _ => 0, fun _ => 0⟩
def distZ (s : St) (j : Nat) : List Int := (List.range j).map (distE s)
theorem distL_eq (s : St) (j : Nat) : distL s j = (distZ s j).map intV := by simp [distL, distZ]
theorem distZ_length (s : St) (j : Nat) : (distZ s j).length = j := by simp [distZ]
def shortR (n : Int) (es : List GE) (z : Int) : List Int × Bool :=
  if (okG n es && decide (0 ≤ z ∧ z < n)) = true ∧ (roundsE es (srcS z.toNat) n.toNat).2 = -1 then (distZ (roundsE es (srcS z.toNat) n.toNat).1 n.toNat, true) else ([], false)
theorem Try.info4 : (Try.prog.info? 4).map (fun i => (i.zero, i.size, i.bytes)) = some (some (.bool false), 1, 1) := by kernel_rfl
theorem ret_ib {A : Option Addr} {m m' cb : Nat} {b b' : Bool} (h : m = m') (hb : b = b') : Ending.returned (.tuple #[.slice A m cb, .bool b]) = .returned (.tuple #[.slice A m' cb, .bool b']) := by rw [h, hb]

/-- A made slice of equal values, as a row. -/
theorem row_made {w : World} {B e g n cap : Nat} {x : Value} (h : w.ownsRow B e 1 (.slice (some ⟨g, 0, none⟩) n cap) n (List.replicate n x)) (hg : g < w.heap.size) : RowF w g 0 n (fun _ => x) :=
  ⟨hg, fun j hj => by rw [Nat.zero_add, h.cellAt j (by omega), List.getElem?_replicate, if_pos hj], fun j hj => by rw [Nat.zero_add]; exact h.frozenAt j⟩
theorem RowF.rowAt {w : World} {g n : Nat} {f : Nat → Value} {xs : List Value} (h : RowF w g 0 n f) (hl : xs.length = n) (hx : ∀ j (hj : j < xs.length), xs[j] = f j) : RowAt w (some ⟨g, 0, none⟩) xs := fun _ =>
  ⟨g, 0, rfl, h.lt, fun j hj => (h.cell j (by omega)).trans (by rw [hx j hj])⟩

def mixD (s : St) (j : Nat) : Nat → Value := fun i => if i < j then intV (distE s i) else intV (s.nu i)
theorem mixD_zero (s : St) : mixD s 0 = fI s.nu := by funext i; simp [mixD, fI, intV]
theorem mixD_set {s : St} {j : Nat} (h : distE s j = 1000000) : upf (mixD s j) j (.int .i64 1000000) = mixD s (j + 1) := by
  funext i; unfold upf mixD
  by_cases e : i = j
  · subst e; rw [if_pos rfl, if_pos (by omega), h]; rfl
  · rw [if_neg e]
    by_cases l : i < j
    · rw [if_pos l, if_pos (by omega)]
    · rw [if_neg l, if_neg (by omega)]
theorem mixD_keep {s : St} {j : Nat} (h : distE s j = s.nu j) : mixD s j = mixD s (j + 1) := by
  funext i; unfold mixD
  by_cases e : i = j
  · subst e; rw [if_neg (by omega), if_pos (by omega), h]
  · by_cases l : i < j
    · rw [if_pos l, if_pos (by omega)]
    · rw [if_neg l, if_neg (by omega)]

theorem shortR_no {n : Int} {es : List GE} {z : Int} (h : (okG n es && decide (0 ≤ z ∧ z < n)) = false) : shortR n es z = ([], false) := by
  unfold shortR; rw [if_neg (by rw [h]; simp)]
theorem shortR_neg {n u : Nat} {es : List GE} (h : (roundsE es (srcS u) n).2 ≠ -1) : shortR n es u = ([], false) := by
  unfold shortR; rw [if_neg]; intro h2; exact h (by simpa using h2.2)
theorem shortR_yes {n u : Nat} {es : List GE} (h0 : okG n es = true) (hu : u < n) (h : (roundsE es (srcS u) n).2 = -1) : shortR n es u = (distZ (roundsE es (srcS u) n).1 n, true) := by
  unfold shortR
  rw [if_pos ⟨by rw [h0]; simp; omega, by simpa using h⟩]; simp

set_option maxRecDepth 100000 in
set_option maxHeartbeats 4000000 in
theorem spec_ShortestFrom_new (n : Int) (es : List GE) (A : Option Addr) (k c : Nat) (z : Int) (w : World) (hn : es.length = k) (hk : k ≤ 1048576) (hr : EdgeAt w A es) :
    Calls Try.prog 105 #[grV n A k c, .int .i64 z] w fun e w' =>
      ∃ B m cb, e = .returned (.tuple #[.slice B m cb, .bool (shortR n es z).2]) ∧ m = (shortR n es z).1.length ∧ RowAt w' B ((shortR n es z).1.map intV) ∧ (∀ g o, B = some ⟨g, o, none⟩ → w.heap.size ≤ g) ∧ Below w.heap.size w w' := by
  have hg := fun W h => spec_GraphOk n es A k c W hn hk h
  have HR := Lib.hid hr
  have HL := Lib.hid hn
  clear hr hn
  obtain ⟨ok, hok⟩ : ∃ b, b = okG n es := ⟨_, rfl⟩
  rw [← hok] at hg
  have HG := Lib.hid hg
  have HO := Lib.hid hok
  clear hok hg
  have hin := l01In_any z 0 (n - 1)
  have HI := Lib.hid hin
  clear hin
  cases ok with
  | false =>
    unfold grV at HG ⊢
    go_enter Try.func105, Try.ntmps105
    go_wp2_with fail
    refine (HG.out _ (HR.out.below (by repeat (first | exact Below.refl _ _ | refine below_step (by assumption) (by first | omega | (simp; done) | (simp; omega)) ?_ | refine below_drewN ?_ _ | refine Below.drew ?_ | refine Below.setCell ?_ (by first | omega | (simp; done) | (simp; omega)) _ | refine Below.alloc ?_ (by first | omega | (simp; done) | (simp; omega)) _)))).mono ?_
    rintro e w1 ⟨rfl, b1⟩
    go_wp2_with fail
    go_ret2
    have h := shortR_no (n := n) (es := es) (z := z) (by rw [← HO.out]; rfl)
    exact ⟨none, 0, 0, by rw [h]; rfl, by rw [h]; rfl, by rw [h]; exact fun hx => by simp at hx, (fun g o e => by cases e), (by repeat (first | exact Below.refl _ _ | refine below_step (by assumption) (by first | omega | (simp; done) | (simp; omega)) ?_ | refine below_drewN ?_ _ | refine Below.drew ?_ | refine Below.setCell ?_ (by first | omega | (simp; done) | (simp; omega)) _ | refine Below.alloc ?_ (by first | omega | (simp; done) | (simp; omega)) _))⟩
  | true =>
    have hrng := okG_rng HO.out.symm
    obtain ⟨N, rfl⟩ : ∃ N : Nat, n = N := ⟨n.toNat, by omega⟩
    have hN8 : N ≤ 8 := by omega
    have hk80 : k ≤ 80 := by have := HL.out; omega
    clear hrng
    by_cases hz : 0 ≤ z ∧ z < (N : Int)
    · obtain ⟨u, rfl⟩ : ∃ u : Nat, z = u := ⟨z.toNat, by omega⟩
      have hu : u < N := by omega
      have hui : (u : Int) < (N : Int) := by omega
      have hin := HI.out
      rw [show (decide ((0 : Int) ≤ (u : Int)) && decide ((u : Int) ≤ (N : Int) - 1)) = true from by simp; omega] at hin
      have HI := Lib.hid hin
      clear hin hz
      obtain ⟨i0, hi, hz0, hz1, hz2⟩ := info_parts Try.info3
      obtain ⟨j0, hj, hj0, hj1, hj2⟩ := info_parts Try.info4
      have hb2 : i0.bytes * N ≤ 281474976710656 := by rw [hz2]; omega
      have hb3 : j0.bytes * N ≤ 281474976710656 := by rw [hj2]; omega
      unfold grV at HG ⊢
      go_enter Try.func105, Try.ntmps105
      go_wp2_with fail
      refine (HG.out _ (HR.out.below (by repeat (first | exact Below.refl _ _ | refine below_step (by assumption) (by first | omega | (simp; done) | (simp; omega)) ?_ | refine below_drewN ?_ _ | refine Below.drew ?_ | refine Below.setCell ?_ (by first | omega | (simp; done) | (simp; omega)) _ | refine Below.alloc ?_ (by first | omega | (simp; done) | (simp; omega)) _)))).mono ?_
      rintro e w1 ⟨rfl, b1⟩
      have ka1 : w1.cell? ⟨w.heap.size, 0, none⟩ = some (.int .i64 (N : Int)) := (b1.cell (p := ⟨w.heap.size, 0, none⟩) (by first | omega | (simp; done) | (simp; omega))).trans (by first | assumption | go_simp)
      have kb1 : w1.cell? ⟨w.heap.size, 1, none⟩ = some (.slice A k c) := (b1.cell (p := ⟨w.heap.size, 1, none⟩) (by first | omega | (simp; done) | (simp; omega))).trans (by first | assumption | go_simp)
      have sz1 : w.heap.size < w1.heap.size := Nat.lt_of_lt_of_le (by first | omega | (simp; done) | (simp; omega)) b1.size
      have B1 : Below w.heap.size w w1 := (by repeat (first | exact Below.refl _ _ | refine below_step (by assumption) (by first | omega | (simp; done) | (simp; omega)) ?_ | refine below_drewN ?_ _ | refine Below.drew ?_ | refine Below.setCell ?_ (by first | omega | (simp; done) | (simp; omega)) _ | refine Below.alloc ?_ (by first | omega | (simp; done) | (simp; omega)) _))
      clear b1
      go_wp2_with fail
      refine (HI.out _).mono ?_
      rintro e w2 ⟨rfl, rfl⟩
      go_wp2_with (at_make; refine wpList_make_full _ rfl _ _ 33 rfl w1.heap.size 3 i0 (.int .i64 0) 1 Try.underlying33 hi hz0 hz1 .i64 .i64 _ _ N rfl rfl rfl rfl hb2 (by unfold maxLen; omega) (Nat.le_refl _) ?_)
      intro w2 h2 g2
      have b2 : Below w1.heap.size w1 w2 := (Below.refl _ w1).grown g2 (Nat.le_refl _) (fun k hk => by cases hk)
      have hl2 := (h2.lt _ rfl).2
      have ka2 := (b2.cell (p := ⟨w.heap.size, 0, none⟩) (by dsimp only; omega)).trans ka1
      have kb2 := (b2.cell (p := ⟨w.heap.size, 1, none⟩) (by dsimp only; omega)).trans kb1
      have B2 : Below w.heap.size w w2 := B1.trans (b2.mono (by omega))
      have R2 : RowF w2 w1.heap.size 0 N (fun _ => .int .i64 0) := row_made (by rw [toList_madeCells_one] at h2; exact h2) hl2
      clear g2 h2 b2
      go_wp2_with (at_make; refine wpList_make_full _ rfl _ _ 33 rfl w2.heap.size 3 i0 (.int .i64 0) 1 Try.underlying33 hi hz0 hz1 .i64 .i64 _ _ N rfl rfl rfl rfl hb2 (by unfold maxLen; omega) (Nat.le_refl _) ?_)
      intro w3 h3 g3
      have b3 : Below w2.heap.size w2 w3 := (Below.refl _ w2).grown g3 (Nat.le_refl _) (fun k hk => by cases hk)
      have hl3 := (h3.lt _ rfl).2
      have ka3 := (b3.cell (p := ⟨w.heap.size, 0, none⟩) (by dsimp only; omega)).trans ka2
      have kb3 := (b3.cell (p := ⟨w.heap.size, 1, none⟩) (by dsimp only; omega)).trans kb2
      have B3 : Below w.heap.size w w3 := B2.trans (b3.mono (by omega))
      have R3 := R2.below b3 hl2
      have S3 : RowF w3 w2.heap.size 0 N (fun _ => .int .i64 0) := row_made (by rw [toList_madeCells_one] at h3; exact h3) hl3
      clear g3 h3 b3 R2
      go_wp2_with (at_make; refine wpList_make_full _ rfl _ _ 133 rfl w3.heap.size 4 j0 (.bool false) 1 Try.underlying133 hj hj0 hj1 .i64 .i64 _ _ N rfl rfl rfl rfl hb3 (by unfold maxLen; omega) (Nat.le_refl _) ?_)
      intro w4 h4 g4
      have b4 : Below w3.heap.size w3 w4 := (Below.refl _ w3).grown g4 (Nat.le_refl _) (fun k hk => by cases hk)
      have hl4 := (h4.lt _ rfl).2
      have ka4 := (b4.cell (p := ⟨w.heap.size, 0, none⟩) (by dsimp only; omega)).trans ka3
      have kb4 := (b4.cell (p := ⟨w.heap.size, 1, none⟩) (by dsimp only; omega)).trans kb3
      have B4 : Below w.heap.size w w4 := B3.trans (b4.mono (by omega))
      have R4 := R3.below b4 (by omega)
      have S4 := S3.below b4 hl3
      have T4 : RowF w4 w3.heap.size 0 N (fun _ => .bool false) := row_made (by rw [toList_madeCells_one] at h4; exact h4) hl4
      clear g4 h4 b4 R3 S3 ka1 kb1 ka2 kb2 ka3 kb3
      obtain ⟨gd, hgd⟩ : ∃ g, g = w1.heap.size := ⟨_, rfl⟩
      obtain ⟨gl, hgl⟩ : ∃ g, g = w2.heap.size := ⟨_, rfl⟩
      obtain ⟨gk, hgk⟩ : ∃ g, g = w3.heap.size := ⟨_, rfl⟩
      rw [← hgd] at R4 hl2 sz1 ⊢
      rw [← hgl] at S4 hl2 hl3 ⊢
      rw [← hgk] at T4 hl3 hl4 ⊢
      clear hgd hgl hgk B1 B2 B3
      have f1 : w4.cell? ⟨gk, u, none⟩ = some (.bool false) := by simpa using T4.cell u hu
      have r1 : w4.frozen? ⟨gk, u, none⟩ = false := by simpa using T4.free u hu
      have n1 : (gd = gk) = False := eq_false (by omega)
      have n2 : (gk = gd) = False := eq_false (by omega)
      have n3 : (gl = gk) = False := eq_false (by omega)
      have n4 : (gk = gl) = False := eq_false (by omega)
      have n5 : (w.heap.size = gk) = False := eq_false (by omega)
      have n6 : (gk = w.heap.size) = False := eq_false (by omega)
      have hS : SpAt (w4.setCell ⟨gk, u, none⟩ (.bool true)) gd gl gk N (srcS u) := by
        refine ⟨(R4.other (by dsimp only; omega) _).congr (fun j hj => rfl), (S4.other (by dsimp only; omega) _).congr (fun j hj => rfl), (T4.store (i := u) (by omega) hu _).congr (fun j hj => ?_)⟩
        unfold upf fB srcS
        dsimp only
        by_cases e : j = u
        · rw [if_pos e, decide_eq_true e]
        · rw [if_neg e, decide_eq_false e]
      have hB5 : Below w.heap.size w (w4.setCell ⟨gk, u, none⟩ (.bool true)) := B4.setCell (by dsimp only; omega) _
      have HS := Lib.hid hS
      have HB5 := Lib.hid hB5
      clear R4 S4 T4 hS hB5 B4
      go_wp2_with fail
      obtain ⟨w5, hw5⟩ : ∃ w5, w5 = w4.setCell ⟨gk, u, none⟩ (.bool true) := ⟨_, rfl⟩
      have ka5 : w5.cell? ⟨w.heap.size, 0, none⟩ = some (.int .i64 (N : Int)) := by rw [hw5]; go_simp
      have kb5 : w5.cell? ⟨w.heap.size, 1, none⟩ = some (.slice A k c) := by rw [hw5]; go_simp
      have hl5 : gk < w5.heap.size := by rw [hw5]; simpa [World.setCell] using hl4
      rw [← hw5]
      have hS5 := HS.out
      have hB5 := HB5.out
      rw [← hw5] at hS5 hB5
      have HS := Lib.hid hS5
      clear hw5 hS5 HB5 f1 r1 ka4 kb4 hl4 n1 n2 n3 n4 n5 n6
      have hgw : w.heap.size < gd := sz1
      go_loopw [9] (fun i wr => ∃ q : Nat, q ≤ N ∧ i = .int .i64 q ∧ SpAt wr gd gl gk N (roundsE es (srcS u) q).1 ∧ Below gd w5 wr ∧ (q = 0 ∨ (roundsE es (srcS u) q).2 ≠ -1)) (fun i _ => N - (intOf i).toNat)
      case atStart => exact ⟨0, Nat.zero_le _, rfl, HS.out, Below.refl _ _, .inl rfl⟩
      case round =>
        obtain ⟨q, hq, rfl, hsp, hbw, hst⟩ := hrel
        have kar := (hbw.cell (p := ⟨w.heap.size, 0, none⟩) hgw).trans ka5
        have kbr := (hbw.cell (p := ⟨w.heap.size, 1, none⟩) hgw).trans kb5
        have HST := Lib.hid hst
        clear hst
        by_cases hlt : q < N
        · obtain ⟨sq, hsq⟩ : ∃ s, s = (roundsE es (srcS u) q).1 := ⟨_, rfl⟩
          have hnx : roundsE es (srcS u) (q + 1) = passTo es sq es.length := by rw [hsq]; rfl
          rw [HL.out] at hnx
          rw [← hsq] at hsp
          have hBr : Below w.heap.size w wr := hB5.trans (hbw.mono (by omega))
          have hcl := l03Round_any N es A k c gd gl gk N N N sq w wr HL.out HO.out.symm HR.out hBr (by omega) hsp (by omega) (by omega)
          unfold grV at hcl
          have hrg := rounds_rng es (srcS u) (q + 1)
          rw [hnx] at hrg
          have HNX := Lib.hid hnx
          obtain ⟨ch, hch⟩ : ∃ ch, ch = (passTo es sq k).2 := ⟨_, rfl⟩
          rw [← hch] at hcl hrg
          have HCH := Lib.hid hch
          have HCL := Lib.hid hcl
          clear hsp hsq hnx hch hcl
          by_cases h1 : ch = -1
          · have hneg : ch < 0 := by omega
            have H1 := Lib.hid h1
            clear h1 hrg
            go_wp2_with (go_at_call 103; refine HCL.out.mono ?_; rintro e w6 ⟨rfl, hs6, hb6⟩)
            obtain ⟨s6, hs6e⟩ : ∃ s, s = (passTo es sq k).1 := ⟨_, rfl⟩
            rw [← hs6e] at hs6
            have HS6 := Lib.hid hs6e
            have hM0 : RowF w6 gd 0 N (mixD s6 0) := by rw [mixD_zero]; exact hs6.nu
            have hK0 : RowF w6 gk 0 N (fB s6.kn) := hs6.kn
            have HM0 := Lib.hid hM0
            have HK0 := Lib.hid hK0
            have HB6 := Lib.hid hb6
            clear hs6e hM0 hK0 hs6 hb6
            go_loopw [48] (fun i wx => ∃ j : Nat, j ≤ N ∧ i = .int .i64 j ∧ RowF wx gd 0 N (mixD s6 j) ∧ RowF wx gk 0 N (fB s6.kn) ∧ Below gd w6 wx) (fun i _ => N - (intOf i).toNat)
            case atStart => exact ⟨0, Nat.zero_le _, rfl, HM0.out, HK0.out, Below.refl _ _⟩
            case round =>
              obtain ⟨j, hj, rfl, hD, hK, hbx⟩ := hrel
              by_cases hlt2 : j < N
              · obtain ⟨bk, hbk⟩ : ∃ x, x = s6.kn j := ⟨_, rfl⟩
                obtain ⟨nu, hnu⟩ : ∃ x, x = s6.nu j := ⟨_, rfl⟩
                have f1 : wr.cell? ⟨gk, j, none⟩ = some (.bool bk) := by rw [hbk]; simpa [fB] using hK.cell j hlt2
                have f2 : wr.cell? ⟨gd, j, none⟩ = some (.int .i64 nu) := by rw [hnu]; simpa [mixD, intV] using hD.cell j hlt2
                have r2 : wr.frozen? ⟨gd, j, none⟩ = false := by simpa using hD.free j hlt2
                have hdst : ∀ d, d = (if bk = true then (if nu ≤ 1000000 then nu else 1000000) else 1000000) → distE s6 j = d := by intro d hd; rw [hd, hbk, hnu]; rfl
                have HDS := Lib.hid hdst
                have HNU := Lib.hid hnu
                have HD := Lib.hid hD
                have HK := Lib.hid hK
                have hgdk : gk ≠ gd := by omega
                clear hdst hbk hnu hD hK
                cases bk with
                | false =>
                  go_wp2_with fail
                  go_roundw
                  case rel => exact ⟨j + 1, by omega, by go_num, by rw [← mixD_set (HDS.out _ rfl)]; exact HD.out.store (by omega) hlt2 _, HK.out.other (by dsimp only; omega) _, hbx.setCell (by dsimp only; omega) _⟩
                  case measure => simp [intOf]; omega
                | true =>
                  by_cases hle : nu ≤ 1000000
                  · have hle2 : ¬ (1000000 < nu) := by omega
                    have HLE := Lib.hid hle
                    go_wp2_with fail
                    go_roundw
                    case rel => exact ⟨j + 1, by omega, by go_num, by rw [← mixD_keep (by rw [HDS.out _ rfl, if_pos rfl, if_pos HLE.out, HNU.out])]; exact HD.out, HK.out, hbx⟩
                    case measure => simp [intOf]; omega
                  · have hle2 : 1000000 < nu := by omega
                    have HLE := Lib.hid hle
                    go_wp2_with fail
                    go_roundw
                    case rel => exact ⟨j + 1, by omega, by go_num, by rw [← mixD_set (by rw [HDS.out _ rfl, if_pos rfl, if_neg HLE.out])]; exact HD.out.store (by omega) hlt2 _, HK.out.other (by dsimp only; omega) _, hbx.setCell (by dsimp only; omega) _⟩
                    case measure => simp [intOf]; omega
              · have : j = N := by omega
                subst this
                go_wp2_with fail
                go_ret2
                have hst : roundsE es (srcS u) j = passTo es sq k := by
                  have := rounds_still es (srcS u) q (by rw [HNX.out, ← HCH.out]; exact H1.out) (j - (q + 1))
                  rw [show q + 1 + (j - (q + 1)) = j from by omega, HNX.out] at this
                  exact this
                have h := shortR_yes (n := j) (u := u) (es := es) HO.out.symm hu (by rw [hst, ← HCH.out]; exact H1.out)
                rw [hst, ← HS6.out] at h
                refine ⟨some ⟨gd, 0, none⟩, j, j, by rw [h]; rfl, by rw [h]; exact (distZ_length _ _).symm, ?_, fun g o e => by (injection e with e; injection e with e; omega), hB5.trans ((hbw.trans (HB6.out.trans hbx)).mono (by omega))⟩
                rw [h]
                refine hD.rowAt (by simp [distZ]) (fun i hi => ?_)
                have hij : i < j := by simpa [distZ] using hi
                simp [distZ, mixD, hij]
          · have hneg : ¬ (ch < 0) := by
              rcases hrg with h | ⟨j, e, h, _⟩ <;> omega
            have H1 := Lib.hid h1
            clear h1 hrg
            go_wp2_with (go_at_call 103; refine HCL.out.mono ?_; rintro e w6 ⟨rfl, hs6, hb6⟩)
            go_roundw
            case rel => exact ⟨q + 1, by omega, by go_num, by rw [HNX.out]; exact hs6, hbw.trans hb6, .inr (by rw [HNX.out, ← HCH.out]; exact H1.out)⟩
            case measure => simp [intOf]; omega
        · have : q = N := by omega
          subst this
          go_wp2_with fail
          go_ret2
          have h := shortR_neg (n := q) (u := u) (es := es) (by rcases HST.out with h | h; · omega
                                                                · exact h)
          exact ⟨none, 0, 0, by rw [h]; rfl, by rw [h]; rfl, by rw [h]; exact fun hx => by simp at hx, (fun g o e => by cases e), hB5.trans (hbw.mono (by omega))⟩
    · have hin := HI.out
      rw [show (decide ((0 : Int) ≤ z) && decide (z ≤ (N : Int) - 1)) = false from by simp; omega] at hin
      have HI := Lib.hid hin
      have HZ := Lib.hid hz
      clear hin hz
      unfold grV at HG ⊢
      go_enter Try.func105, Try.ntmps105
      go_wp2_with fail
      refine (HG.out _ (HR.out.below (by repeat (first | exact Below.refl _ _ | refine below_step (by assumption) (by first | omega | (simp; done) | (simp; omega)) ?_ | refine below_drewN ?_ _ | refine Below.drew ?_ | refine Below.setCell ?_ (by first | omega | (simp; done) | (simp; omega)) _ | refine Below.alloc ?_ (by first | omega | (simp; done) | (simp; omega)) _)))).mono ?_
      rintro e w1 ⟨rfl, b1⟩
      have ka1 : w1.cell? ⟨w.heap.size, 0, none⟩ = some (.int .i64 (N : Int)) := (b1.cell (p := ⟨w.heap.size, 0, none⟩) (by first | omega | (simp; done) | (simp; omega))).trans (by first | assumption | go_simp)
      have sz1 : w.heap.size < w1.heap.size := Nat.lt_of_lt_of_le (by first | omega | (simp; done) | (simp; omega)) b1.size
      have B1 : Below w.heap.size w w1 := (by repeat (first | exact Below.refl _ _ | refine below_step (by assumption) (by first | omega | (simp; done) | (simp; omega)) ?_ | refine below_drewN ?_ _ | refine Below.drew ?_ | refine Below.setCell ?_ (by first | omega | (simp; done) | (simp; omega)) _ | refine Below.alloc ?_ (by first | omega | (simp; done) | (simp; omega)) _))
      clear b1
      go_wp2_with fail
      refine (HI.out _).mono ?_
      rintro e w2 ⟨rfl, rfl⟩
      go_wp2_with fail
      go_ret2
      have h := shortR_no (n := (N : Int)) (es := es) (z := z) (by rw [← HO.out, decide_eq_false HZ.out]; rfl)
      exact ⟨none, 0, 0, by rw [h]; rfl, by rw [h]; rfl, by rw [h]; exact fun hx => by simp at hx, (fun g o e => by cases e), B1⟩

theorem spec_ShortestFrom (n : Int) (es : List GE) (A : Option Addr) (k c : Nat) (z : Int) (w : World) (hn : es.length = k) (hk : k ≤ 1048576) (hr : EdgeAt w A es) :
    Calls Try.prog 105 #[grV n A k c, .int .i64 z] w fun e w' =>
      ∃ B m cb, e = .returned (.tuple #[.slice B m cb, .bool (shortR n es z).2]) ∧ m = (shortR n es z).1.length ∧ RowAt w' B ((shortR n es z).1.map intV) ∧ Below w.heap.size w w' :=
  (spec_ShortestFrom_new n es A k c z w hn hk hr).mono fun e w' ⟨B, m, cb, h1, h2, h3, _, h5⟩ => ⟨B, m, cb, h1, h2, h3, h5⟩

end Go.Proofs.Yteppmlepbfjnpaa

namespace Go.Proofs.Yteppmlepbfjnpaa
open Go.RowKit
set_option linter.unusedVariables false
set_option linter.unusedSimpArgs false

def cellT (n : Int) (i : Nat) (x : Int) : Bool := decide (-1000000 ≤ x ∧ x ≤ 1000000) && !(decide ((i : Int) % (n + 1) = 0) && decide (x ≠ 0))
def okT (n : Int) (cs : List Int) : Bool := decide (0 ≤ n ∧ n ≤ 8 ∧ (cs.length : Int) = n * n) && (List.range cs.length).all fun i => cellT n i (cs[i]?.getD 0)
/-- The number in row i and column k. -/
def atT (n : Nat) (cs : List Int) (i k : Nat) : Int := cs[i * n + k]?.getD 0
def cellR (n : Int) (cs : List Int) (i k : Int) : Int := if okT n cs = true ∧ (0 ≤ i ∧ i < n) ∧ (0 ≤ k ∧ k < n) then atT n.toNat cs i.toNat k.toNat else 0
def rowC (n : Nat) (es : List GE) (i : Nat) : List Int := (distZ (roundsE es (srcS i) n).1 n).map clampI
def closeOk (n : Nat) (es : List GE) : Bool := (List.range n).all fun i => decide ((roundsE es (srcS i) n).2 = -1)
def closeC (n : Nat) (es : List GE) : List Int := (List.range n).flatMap (rowC n es)
def closeR (n : Int) (es : List GE) : Int × List Int × Bool := if okG n es = true ∧ closeOk n.toNat es = true then (n, closeC n.toNat es, true) else (0, [], false)
def closedR (n : Int) (cs : List Int) : Bool := okT n cs && (List.range n.toNat).all fun i => (List.range n.toNat).all fun j => (List.range n.toNat).all fun k => decide (atT n.toNat cs i k ≤ addI (atT n.toNat cs i j) (atT n.toNat cs j k))
def tightOk (n : Int) (cs : List Int) (e : GE) : Bool := closedR n cs && decide (0 ≤ e.u ∧ e.u < n) && decide (0 ≤ e.v ∧ e.v < n) && decide (-1000000 < e.c ∧ e.c < 1000000) && !decide (addI e.c (atT n.toNat cs e.v.toNat e.u.toNat) < 0)
def tightAt (n : Nat) (cs : List Int) (e : GE) (i k : Nat) : Int :=
  if atT n cs i k ≤ addI (addI (atT n cs i e.u.toNat) e.c) (atT n cs e.v.toNat k) then atT n cs i k else addI (addI (atT n cs i e.u.toNat) e.c) (atT n cs e.v.toNat k)
def tightC (n : Nat) (cs : List Int) (e : GE) : List Int := (List.range n).flatMap fun i => (List.range n).map fun k => tightAt n cs e i k
def tightR (n : Int) (cs : List Int) (e : GE) : Int × List Int × Bool := if tightOk n cs e = true then (n, tightC n.toNat cs e, true) else (0, [], false)

theorem rowC_length (n : Nat) (es : List GE) (i : Nat) : (rowC n es i).length = n := by simp [rowC, distZ]
theorem flat_at {α : Type} {f : Nat → List α} {n : Nat} (hf : ∀ i, (f i).length = n) : ∀ m i k, i < m → k < n → ((List.range m).flatMap f)[i * n + k]? = (f i)[k]? := by
  intro m
  induction m with
  | zero => intro i k h; omega
  | succ m ih =>
    intro i k hi hk
    rw [List.range_succ, List.flatMap_append]
    have hl : ∀ m, ((List.range m).flatMap f).length = m * n := by
      intro m
      induction m with
      | zero => simp
      | succ m ih => rw [List.range_succ, List.flatMap_append, List.length_append, ih]; simp [hf]; rw [Nat.succ_mul]
    by_cases h : i < m
    · rw [List.getElem?_append_left (by rw [hl]; have h1 : (i + 1) * n ≤ m * n := Nat.mul_le_mul_right n h; rw [Nat.succ_mul] at h1; omega)]
      exact ih i k h hk
    · have : i = m := by omega
      subst this
      rw [List.getElem?_append_right (by rw [hl]; omega), hl, show i * n + k - i * n = k from by omega]
      simp
theorem flat_length {α : Type} {f : Nat → List α} {n : Nat} (hf : ∀ i, (f i).length = n) (m : Nat) : ((List.range m).flatMap f).length = m * n := by
  induction m with
  | zero => simp
  | succ m ih => rw [List.range_succ, List.flatMap_append, List.length_append, ih]; simp [hf]; rw [Nat.succ_mul]
theorem close_at (n : Nat) (es : List GE) {i k : Nat} (hi : i < n) (hk : k < n) : atT n (closeC n es) i k = clampI (distE (roundsE es (srcS i) n).1 k) := by
  unfold atT closeC
  rw [flat_at (rowC_length n es) n i k hi hk]
  simp [rowC, distZ, hk]
theorem close_length (n : Nat) (es : List GE) : (closeC n es).length = n * n := flat_length (rowC_length n es) n
theorem tight_at (n : Nat) (cs : List Int) (e : GE) {i k : Nat} (hi : i < n) (hk : k < n) : atT n (tightC n cs e) i k = tightAt n cs e i k := by
  have := flat_at (f := fun i => (List.range n).map fun k => tightAt n cs e i k) (n := n) (fun i => by simp) n i k hi hk
  unfold atT tightC
  rw [this]
  simp [hk]
theorem tight_length (n : Nat) (cs : List Int) (e : GE) : (tightC n cs e).length = n * n := flat_length (fun i => by simp) n
theorem okT_rng {n : Int} {cs : List Int} (h : okT n cs = true) : 0 ≤ n ∧ n ≤ 8 ∧ (cs.length : Int) = n * n := by
  unfold okT at h
  rw [Bool.and_eq_true] at h
  exact of_decide_eq_true h.1
theorem okT_cell {n : Int} {cs : List Int} (h : okT n cs = true) (i : Nat) : -1000000 ≤ cs[i]?.getD 0 ∧ cs[i]?.getD 0 ≤ 1000000 := by
  by_cases hi : i < cs.length
  · unfold okT at h
    rw [Bool.and_eq_true, List.all_eq_true] at h
    have := h.2 i (by simpa using hi)
    unfold cellT at this
    rw [Bool.and_eq_true] at this
    exact of_decide_eq_true this.1
  · rw [List.getElem?_eq_none (by omega)]; simp

end Go.Proofs.Yteppmlepbfjnpaa

namespace Go.Proofs.Yteppmlepbfjnpaa
open Go.RowKit
set_option linter.unusedVariables false
set_option linter.unusedSimpArgs false

/-- A row of ints that is read: the j-th of them. -/
theorem rowInts {w : World} {A : Option Addr} {zs : List Int} (h : RowAt w A (zs.map intV)) {q : Nat} (hq : q < zs.length) : ∃ g o, A = some ⟨g, o, none⟩ ∧ g < w.heap.size ∧ w.cell? ⟨g, o + q, none⟩ = some (.int .i64 (zs[q]?.getD 0)) := by
  obtain ⟨g, o, hA, hg, hc⟩ := h (by simp; omega)
  refine ⟨g, o, hA, hg, ?_⟩
  rw [hc q (by simpa using hq), List.getElem_map, List.getElem?_eq_getElem hq]
  rfl

set_option maxRecDepth 100000 in
set_option maxHeartbeats 1000000 in
theorem thasNode_any (n : Int) (A : Option Addr) (k c : Nat) (i : Int) (w : World) :
    Calls Try.prog 75 #[grV n A k c, .int .i64 i] w fun e w' => e = .returned (.bool (decide (0 ≤ i ∧ i < n))) ∧ Below w.heap.size w w' := by
  unfold grV
  by_cases h1 : 0 ≤ i
  · by_cases h2 : i < n
    all_goals
      go_enter Try.func75, Try.ntmps75
      go_wp2
      go_ret
      exact ⟨ret_b (by simp [h1, h2]), (by repeat (first | exact Below.refl _ _ | refine below_step (by assumption) (by first | omega | (simp; done) | (simp; omega)) ?_ | refine below_drewN ?_ _ | refine Below.drew ?_ | refine Below.setCell ?_ (by first | omega | (simp; done) | (simp; omega)) _ | refine Below.alloc ?_ (by first | omega | (simp; done) | (simp; omega)) _))⟩
  · go_enter Try.func75, Try.ntmps75
    go_wp2
    go_ret
    exact ⟨ret_b (by simp; intro; omega), (by repeat (first | exact Below.refl _ _ | refine below_step (by assumption) (by first | omega | (simp; done) | (simp; omega)) ?_ | refine below_drewN ?_ _ | refine Below.drew ?_ | refine Below.setCell ?_ (by first | omega | (simp; done) | (simp; omega)) _ | refine Below.alloc ?_ (by first | omega | (simp; done) | (simp; omega)) _))⟩

theorem at_lt {N i k : Nat} (hi : i < N) (hk : k < N) : i * N + k < N * N := by
  have h1 : (i + 1) * N ≤ N * N := Nat.mul_le_mul_right N hi
  rw [Nat.succ_mul] at h1; omega
theorem sq_le {N : Nat} (h : N ≤ 8) : N * N ≤ 64 := Nat.mul_le_mul h h

set_option maxRecDepth 100000 in
set_option maxHeartbeats 1000000 in
theorem number_any (N i k : Nat) (zs : List Int) (A : Option Addr) (m c : Nat) (w : World) (hN : N ≤ 8) (hi : i < N) (hk : k < N) (hl : zs.length = m) (hm : m = N * N) (hr : RowAt w A (zs.map intV)) :
    Calls Try.prog 76 #[grV N A m c, .int .i64 i, .int .i64 k] w fun e w' => e = .returned (.int .i64 (atT N zs i k)) ∧ Below w.heap.size w w' := by
  unfold grV atT
  have hat := at_lt hi hk
  have h64 := sq_le hN
  rw [← hm] at hat h64
  obtain ⟨p, hp⟩ : ∃ p, p = i * N := ⟨_, rfl⟩
  have e1 : (i : Int) * (N : Int) = (p : Int) := by rw [hp]; simp
  rw [← hp] at hat ⊢
  obtain ⟨g, o, rfl, hg, hc⟩ := rowInts hr (q := p + k) (by omega)
  obtain ⟨x, hx⟩ : ∃ x, x = zs[p + k]?.getD 0 := ⟨_, rfl⟩
  rw [← hx] at hc ⊢
  have hlt : (p : Int) + k < (m : Int) := by omega
  have ng : (g = w.heap.size) = False := eq_false (by omega)
  have ng2 : (w.heap.size = g) = False := eq_false (by omega)
  clear hx hr hp hm hl
  go_enter Try.func76, Try.ntmps76
  go_wp2
  go_ret
  exact ⟨rfl, (by repeat (first | exact Below.refl _ _ | refine below_step (by assumption) (by first | omega | (simp; done) | (simp; omega)) ?_ | refine below_drewN ?_ _ | refine Below.drew ?_ | refine Below.setCell ?_ (by first | omega | (simp; done) | (simp; omega)) _ | refine Below.alloc ?_ (by first | omega | (simp; done) | (simp; omega)) _))⟩

set_option maxRecDepth 100000 in
set_option maxHeartbeats 1000000 in
theorem l04At_any (N i k : Nat) (zs : List Int) (A : Option Addr) (m c : Nat) (w : World) (hN : N ≤ 8) (hi : i < N) (hk : k < N) (hl : zs.length = m) (hm : m = N * N) (hr : RowAt w A (zs.map intV)) :
    Calls Try.prog 108 #[grV N A m c, .int .i64 i, .int .i64 k] w fun e w' => e = .returned (.int .i64 (atT N zs i k)) ∧ Below w.heap.size w w' := by
  unfold grV atT
  have hat := at_lt hi hk
  have h64 := sq_le hN
  rw [← hm] at hat h64
  obtain ⟨p, hp⟩ : ∃ p, p = i * N := ⟨_, rfl⟩
  have e1 : (i : Int) * (N : Int) = (p : Int) := by rw [hp]; simp
  rw [← hp] at hat ⊢
  obtain ⟨g, o, rfl, hg, hc⟩ := rowInts hr (q := p + k) (by omega)
  obtain ⟨x, hx⟩ : ∃ x, x = zs[p + k]?.getD 0 := ⟨_, rfl⟩
  rw [← hx] at hc ⊢
  have hlt : (p : Int) + k < (m : Int) := by omega
  have ng : (g = w.heap.size) = False := eq_false (by omega)
  have ng2 : (w.heap.size = g) = False := eq_false (by omega)
  clear hx hr hp hm hl
  go_enter Try.func108, Try.ntmps108
  go_wp2
  go_ret
  exact ⟨rfl, (by repeat (first | exact Below.refl _ _ | refine below_step (by assumption) (by first | omega | (simp; done) | (simp; omega)) ?_ | refine below_drewN ?_ _ | refine Below.drew ?_ | refine Below.setCell ?_ (by first | omega | (simp; done) | (simp; omega)) _ | refine Below.alloc ?_ (by first | omega | (simp; done) | (simp; omega)) _))⟩

set_option maxRecDepth 100000 in
set_option maxHeartbeats 1000000 in
theorem place_any (N j : Nat) (A : Option Addr) (m c : Nat) (w : World) (hN : N ≤ 8) (h0 : 0 < N) (hj : j < 64) :
    Calls Try.prog 94 #[grV N A m c, .int .i64 j] w fun e w' => e = .returned (.tuple #[.int .i64 ((j / N : Nat) : Int), .int .i64 ((j % N : Nat) : Int)]) ∧ Below w.heap.size w w' := by
  unfold grV
  have hz : ((N : Int) == 0) = false := by simp; omega
  obtain ⟨a, ha⟩ : ∃ a, a = j / N := ⟨_, rfl⟩
  obtain ⟨b, hb⟩ : ∃ b, b = j % N := ⟨_, rfl⟩
  have e1 : (j : Int).tdiv (N : Int) = (a : Int) := by rw [ha]; rfl
  have e2 : (j : Int).tmod (N : Int) = (b : Int) := by rw [hb]; rfl
  have ha8 : a ≤ j := by rw [ha]; exact Nat.div_le_self _ _
  have hb8 : b < N := by rw [hb]; exact Nat.mod_lt _ h0
  rw [← ha, ← hb]
  clear ha hb
  go_enter Try.func94, Try.ntmps94
  go_wp2
  go_quiet (fail)
  go_wp2
  go_ret2
  exact ⟨rfl, (by repeat (first | exact Below.refl _ _ | refine below_step (by assumption) (by first | omega | (simp; done) | (simp; omega)) ?_ | refine below_drewN ?_ _ | refine Below.drew ?_ | refine Below.setCell ?_ (by first | omega | (simp; done) | (simp; omega)) _ | refine Below.alloc ?_ (by first | omega | (simp; done) | (simp; omega)) _))⟩

end Go.Proofs.Yteppmlepbfjnpaa
