/-
  WALK of impl's settle: the rounds over the edges.
-/
import Derived.Test.YtdjaiijgdflopaaGrH
import Derived.Test.YtdjaiijgdflopaaGrJ
import Derived.Test.YtdjaiijgdflopaaGrG
import Derived.WalkMore
namespace Go.Proofs.Ytdjaiijgdflopaa
open Go.RowKit Go.Shelf
set_option linter.unusedVariables false
set_option linter.unusedSimpArgs false

attribute [local go_sem] Oper.semAt_some

/-- Blocks b and c may have turned, and new blocks have come; nothing else. -/
structure Two (b c : Nat) (w w' : World) : Prop where
  os : w'.os = w.os
  tape : w'.tape = w.tape
  output : w'.output = w.output
  size : w.heap.size ≤ w'.heap.size
  block : ∀ k, k < w.heap.size → k ≠ b → k ≠ c → w'.heap[k]? = w.heap[k]?
theorem Two.refl (b c : Nat) (w : World) : Two b c w w := ⟨rfl, rfl, rfl, Nat.le_refl _, fun _ _ _ _ => rfl⟩
theorem Two.drew {b c : Nat} {w w' : World} (h : Two b c w w') : Two b c w w'.drew := ⟨h.os, h.tape, h.output, h.size, h.block⟩
theorem Two.alloc {b c : Nat} {w w' : World} (h : Two b c w w') (o : Obj) : Two b c w (w'.alloc o) :=
  ⟨h.os, h.tape, h.output, by have := h.size; simp; omega, fun k hk hb hc => (Below.heap_alloc w' o k (Nat.lt_of_lt_of_le hk h.size)).trans (h.block k hk hb hc)⟩
theorem Two.set {b c : Nat} {w w' : World} (h : Two b c w w') {p : Addr} (hp : p.block = b ∨ p.block = c) (x : Value) : Two b c w (w'.setCell p x) :=
  ⟨h.os, h.tape, h.output, by have := h.size; simpa [World.setCell] using this, fun k hk hb hc => (Below.heap_setCell w' p x k (fun e => by rcases hp with hp | hp <;> omega)).trans (h.block k hk hb hc)⟩
theorem Two.setNew {b c : Nat} {w w' : World} (h : Two b c w w') {p : Addr} (hp : w.heap.size ≤ p.block) (x : Value) : Two b c w (w'.setCell p x) :=
  ⟨h.os, h.tape, h.output, by have := h.size; simpa [World.setCell] using this, fun k hk hb hc => (Below.heap_setCell w' p x k (fun e => by omega)).trans (h.block k hk hb hc)⟩
theorem Two.grown {b c : Nat} {w w1 w2 : World} (h : Two b c w w1) (k : w1.grownBy w2 (some b)) : Two b c w w2 :=
  ⟨k.os.trans h.os, k.tape.trans h.tape, k.output.trans h.output, Nat.le_trans h.size k.size, fun i hi hb hc => (k.block i (Nat.lt_of_lt_of_le hi h.size) (fun e => hb (by injection e))).trans (h.block i hi hb hc)⟩
theorem Two.below {b c : Nat} {w w' : World} (h : Two b c w w') (hb : b < w.heap.size) (hc : b < c) : Below b w w' := ⟨h.os, h.tape, h.output, h.size, fun k hk => h.block k (by omega) (by omega) (by omega)⟩
theorem Two.others {b c : Nat} {w w' : World} (h : Two b c w w') (hb : ∃ o : Obj, w.heap[b]? = some o ∧ o.isCells = true) (hc : ∃ o : Obj, w.heap[c]? = some o ∧ o.isCells = true) : KeepsOthers w w' :=
  ⟨h.size, fun k o hk ho => (h.block k (Array.getElem?_eq_some_iff.1 hk).1
    (fun e => by subst e; obtain ⟨o', h1, h2⟩ := hb; rw [hk] at h1; cases h1; rw [ho] at h2; cases h2)
    (fun e => by subst e; obtain ⟨o', h1, h2⟩ := hc; rw [hk] at h1; cases h1; rw [ho] at h2; cases h2)).trans hk⟩
theorem Two.cell {b c : Nat} {w w' : World} (h : Two b c w w') {p : Addr} (h1 : p.block < w.heap.size) (h2 : p.block ≠ b) (h3 : p.block ≠ c) : w'.cell? p = w.cell? p := World.cell?_of_block (h.block _ h1 h2 h3)

theorem mkAt_own {β : Type} (b : Nat) (f : β → St) : Own (fun s W => MkAt W b (f s)) := fun s X Y row hs hg hr => by
  obtain ⟨o, ho, hc⟩ := cells_of_cell (hs.kn.cell 0 (by omega))
  exact hs.of_heap hg.size (grownBy_keeps_cells hg hr ho hc)
theorem MkAt.obj {W : World} {b : Nat} {s : St} (h : MkAt W b s) : ∃ o : Obj, W.heap[b]? = some o ∧ o.isCells = true := cells_of_cell (h.kn.cell 0 (by omega))
theorem passTo_step {es : List GE} {s : St} {j : Nat} {e : GE} (he : es[j]? = some e) : (passTo es s (j + 1)).1 = stepE (passTo es s j).1 j e := by
  unfold stepE
  cases h : lowE (passTo es s j).1 e with
  | true => rw [pass_low he h]; rfl
  | false => rw [pass_not he h]; rfl

set_option maxRecDepth 100000 in
set_option maxHeartbeats 4000000 in
theorem settle_any (b N : Nat) (es : List GE) (A : Option Addr) (k c : Nat) (s : St) (w0 w : World) (hn : es.length = k) (hok : okG N es = true) (hr : EdgeAt w0 A es) (hb0 : Below w0.heap.size w0 w) (h0 : w0.heap.size ≤ b) (hs : MkAt w b s) :
    Calls Try.prog 53 #[.pointer (some ⟨b, 0, none⟩), grV N A k c] w fun e w' =>
      e = .returned (.int .i64 (roundsE es s N).2) ∧ MkAt w' b (roundsE es s N).1 ∧ Below b w w' := by
  have HR := Lib.hid hr
  have HL := Lib.hid hn
  have HO := Lib.hid hok
  have HB := Lib.hid hb0
  have HS := Lib.hid hs
  have hbw := hs.kn.lt
  have hN8 := (okG_rng hok).2.1
  have hk80 := (okG_rng hok).2.2
  rw [hn] at hk80
  clear hr hn hok hb0 hs
  unfold grV
  refine (callsIn_wide (n := 8)).1 ?_
  refine callsIn_of_wp_marks Try.func53 rfl trivial ?_ rfl
  simp only [Try.ntmps53, List.size_toArray, List.length_cons, List.length_nil, Nat.reduceAdd, Nat.reduceSub, Array.replicate_succ, Array.replicate_zero, List.push_toArray, List.append_toArray, List.nil_append, List.cons_append]
  refine wpIn_wide.2 ?_
  go_wp2_with fail
  go_step3
  go_wp2_with fail
  go_step3
  go_wp2_with fail
  refine (callsIn_wide.1 (rounds_in Fence.wide 1 trivial rfl N A k c _)).mono ?_
  rintro e w1 ⟨rfl, rfl⟩
  go_wp2_with fail
  have bM := ((Boxed.new w 109 (.pointer (some ⟨b, 0, none⟩))).alloc (.cells #[.int .i64 (N : Int), .slice A k c] 25))
  have bC := Boxed.new ((w.alloc (.cells #[.pointer (some ⟨b, 0, none⟩)] 109)).alloc (.cells #[.int .i64 (N : Int), .slice A k c] 25)) 3 (.int .i64 (-1))
  simp only [World.size_alloc] at bC
  obtain ⟨W1, hW1⟩ : ∃ W1, ((w.alloc (.cells #[.pointer (some ⟨b, 0, none⟩)] 109)).alloc (.cells #[.int .i64 (N : Int), .slice A k c] 25)).alloc (.cells #[.int .i64 (-1)] 3) = W1 := ⟨_, rfl⟩
  have hs1 : W1.heap.size = w.heap.size + 1 + 1 + 1 := by rw [← hW1]; simp
  have bM1 : Boxed W1 w.heap.size 109 (.pointer (some ⟨b, 0, none⟩)) := by rw [← hW1]; exact bM.alloc _
  have hB1 : Below b w W1 := by rw [← hW1]; exact ((((Below.refl _ w).alloc (by omega) _).alloc (by simp; omega) _).alloc (by simp; omega) _)
  have hM1 : MkAt W1 b s := by rw [← hW1]; exact ((HS.out.alloc _).alloc _).alloc _
  rw [hW1] at bC ⊢
  clear hW1 bM
  obtain ⟨W0, hW0⟩ : ∃ W0, W1.alloc (.cells #[.int .i64 (N : Int), .slice A k c] 25) = W0 := ⟨_, rfl⟩
  have hs0 : W0.heap.size = w.heap.size + 4 := by rw [← hW0]; simp; omega
  have bM0 : Boxed W0 w.heap.size 109 (.pointer (some ⟨b, 0, none⟩)) := by rw [← hW0]; exact bM1.alloc _
  have bC0 : Boxed W0 (w.heap.size + 2) 3 (.int .i64 (-1)) := by rw [← hW0]; exact bC.alloc _
  have hB0 : Below b w W0 := by rw [← hW0]; exact hB1.alloc (by omega) _
  have hM0 : MkAt W0 b s := by rw [← hW0]; exact hM1.alloc _
  have cN0 : W0.cell? ⟨w.heap.size + 3, 0, none⟩ = some (.int .i64 N) := by
                                                                                have e3 : w.heap.size + 3 = W1.heap.size := by omega
                                                                                rw [← hW0, e3]; clear e3 hs1 hs0 hW0; go_simp
  have cN1 : W0.cell? ⟨w.heap.size + 3, 1, none⟩ = some (.slice A k c) := by
                                                                                have e3 : w.heap.size + 3 = W1.heap.size := by omega
                                                                                rw [← hW0, e3]; clear e3 hs1 hs0 hW0; go_simp
  rw [hW0]
  clear hW0 bM1 bC hB1 hM1 hs1
  refine (wpIn_wide (n := 8)).1 (wpIn_rangeFunc_ownG rfl (by omega) (gf := 94) (lb := #[.pointer (some ⟨w.heap.size + 3, 0, none⟩)]) rfl trivial (enters_of Try.func94 (by kernel_rfl) rfl)
    (rounds_stops Fence.wide 7 trivial rfl (by omega) (w.heap.size + 3) N A k c (by omega) W0 (by omega) cN0 cN1) KpB.t (KpB.b (by omega)) (Below.refl _ _) (fun _ => rfl)
    (fun pre W => ((MkAt W b (roundsE es s pre.length).1 ∧ Boxed W (w.heap.size + 2) 3 (.int .i64 (roundsE es s pre.length).2)) ∧ Boxed W w.heap.size 109 (.pointer (some ⟨b, 0, none⟩))) ∧ Below b W0 W)
    (fun cd pre W => (((MkAt W b (roundsE es s pre.length).1 ∧ Boxed W (w.heap.size + 2) 3 (.int .i64 (roundsE es s pre.length).2)) ∧ Boxed W w.heap.size 109 (.pointer (some ⟨b, 0, none⟩))) ∧ Below b W0 W) ∧ (cd = .exit 0 ∧ 1 ≤ pre.length ∧ (roundsE es s pre.length).2 = -1))
    (OwnFrom.and (OwnFrom.and (OwnFrom.and (Own.from (mkAt_own _ _) _) (Own.from (boxed_own _ _ _) _)) (Own.from (boxed_own _ _ _) _)) (ownFrom_below (by omega) (by omega)))
    (fun cd => OwnFrom.and (OwnFrom.and (OwnFrom.and (OwnFrom.and (Own.from (mkAt_own _ _) _) (Own.from (boxed_own _ _ _) _)) (Own.from (boxed_own _ _ _) _)) (ownFrom_below (by omega) (by omega))) (ownFrom_pure _ _))
    ⟨⟨⟨hM0, bC0⟩, bM0⟩, Below.refl _ _⟩
    (fun x => { tmps := #[.pointer (some ⟨b, 0, none⟩), .agg #[.int .i64 (N : Int), .slice A k c], .pointer (some ⟨w.heap.size, 0, none⟩), .pointer (some ⟨w.heap.size + 1, 0, none⟩), .int .i64 0, .pointer (some ⟨w.heap.size + 1 + 1, 0, none⟩), .slice A k c, undef, undef, .agg #[.int .i64 (N : Int), .slice A k c], .func (.func 94) #[] #[.pointer (some ⟨w.heap.size + 1 + 1 + 1, 0, none⟩)], .slice A k c, undef, undef, undef, undef, undef, undef, undef, undef, undef, undef, undef, undef, undef, undef, undef, undef], defers := [] })
    ?assign ?body ?done ?stop)
  case assign =>
    intro l x W K hK
    gi_wp2
    exact hK
  case body =>
    rintro l pre x W ⟨⟨⟨hM, bC⟩, bM⟩, hBw0⟩ hlen
    have hBw := hB0.trans hBw0
    have hWs0 := hBw0.size
    have cM := bM.cell
    have cC := bC.cell
    have fC := bC.frozen
    have hWs := hBw.size
    have hltC := bC.lt
    obtain ⟨sR, hsR⟩ : ∃ sR, sR = (roundsE es s pre.length).1 := ⟨_, rfl⟩
    have hsR1 : roundsE es s (pre.length + 1) = passTo es sR es.length := by rw [hsR]; rfl
    rw [HL.out] at hsR1
    rw [← hsR] at hM
    have HR1 := Lib.hid hsR1
    have HM := Lib.hid hM
    have HBC := Lib.hid bC
    have HBM := Lib.hid bM
    clear hsR hsR1 hM bC bM
    have n1 : (b = w.heap.size + 2) = False := eq_false (by omega)
    have n2 : (w.heap.size + 2 = b) = False := eq_false (by omega)
    have n3 : (w.heap.size = w.heap.size + 2) = False := eq_false (by omega)
    have n4 : (w.heap.size + 2 = w.heap.size) = False := eq_false (by omega)
    have n5 : (w.heap.size = b) = False := eq_false (by omega)
    have n6 : (b = w.heap.size) = False := eq_false (by omega)
    have hM0 : MkAt (W.setCell ⟨w.heap.size + 2, 0, none⟩ (.int .i64 (-1))) b sR := HM.out.other (by dsimp only; omega) _
    have hC0 : Boxed (W.setCell ⟨w.heap.size + 2, 0, none⟩ (.int .i64 (-1))) (w.heap.size + 2) 3 (.int .i64 (-1)) := HBC.out.set _
    have hT0 : Two b (w.heap.size + 2) W (W.setCell ⟨w.heap.size + 2, 0, none⟩ (.int .i64 (-1))) := (Two.refl _ _ W).set (p := ⟨w.heap.size + 2, 0, none⟩) (.inr rfl) _
    have HM0 := Lib.hid hM0
    have HC0 := Lib.hid hC0
    clear hM0 hC0
    gi_wp2
    gi_loopw [14] (fun i wr => ∃ j : Nat, j ≤ k ∧ i = .int .i64 j ∧ MkAt wr b (passTo es sR j).1 ∧ Boxed wr (w.heap.size + 2) 3 (.int .i64 (passTo es sR j).2) ∧ Two b (w.heap.size + 2) W wr) (fun i _ => k - (intOf i).toNat)
    case atStart => exact ⟨0, Nat.zero_le _, rfl, HM0.out, HC0.out, hT0⟩
    case round =>
      obtain ⟨j, hj, rfl, hMj, hCj, hT⟩ := hrel
      by_cases hlt2 : j < k
      · obtain ⟨g, o, rfl, hg, hc⟩ := HR.out (by have := HL.out; omega)
        have hc1 := hc j (by have := HL.out; omega)
        obtain ⟨e, he⟩ : ∃ e, e = es[j]'(by have := HL.out; omega) := ⟨_, rfl⟩
        rw [← he] at hc1
        have hej : es[j]? = some e := by rw [he]; exact List.getElem?_eq_getElem _
        obtain ⟨u, v, heq, hu, hv⟩ := okG_edgeN HO.out hej
        obtain ⟨c0, c1, c2⟩ := hc1
        have hw : ∀ y : Addr, y.block < w0.heap.size → wr.cell? y = w0.cell? y := fun y hy =>
          (hT.cell (by omega) (by omega) (by omega)).trans ((hBw.cell (p := y) (by omega)).trans (HB.out.cell (p := y) hy))
        have k0 := (hw ⟨g, o + j * 3, none⟩ hg).trans c0
        have k1 := (hw ⟨g, o + j * 3 + 1, none⟩ hg).trans c1
        have k2 := (hw ⟨g, o + j * 3 + 2, none⟩ hg).trans c2
        rw [heq] at k0 k1 k2
        dsimp only at k0 k1 k2
        obtain ⟨y, hy⟩ : ∃ y, y = e.c := ⟨_, rfl⟩
        rw [← hy] at k2 heq
        have cM2 : wr.cell? ⟨w.heap.size, 0, none⟩ = some (.pointer (some ⟨b, 0, none⟩)) := (hT.cell (p := ⟨w.heap.size, 0, none⟩) (by dsimp only; omega) (by dsimp only; omega) (by dsimp only; omega)).trans cM
        have cC2 := hCj.cell
        have fC2 := hCj.frozen
        have hls := hT.size
        have hq := fun W => lower_any b j e u v (by rw [← hy]; exact heq) (by omega) (by omega) (passTo es sR j).1 W
        have hval : e.val = .agg #[.int .i64 (u : Int), .int .i64 (v : Int), .int .i64 y] := by rw [heq]; rfl
        rw [hval] at hq
        have hps : (passTo es sR (j + 1)).1 = stepE (passTo es sR j).1 j e := passTo_step hej
        have HPS := Lib.hid hps
        have HQ := Lib.hid hq
        have HE := Lib.hid hej
        have HM2 := Lib.hid hMj
        have HC2 := Lib.hid hCj
        have HT := Lib.hid hT
        clear hc c0 c1 c2 he hej heq hw hy hps hq hMj hCj hT hval
        have i1 : w.heap.size < wr.heap.size := by omega
        have i2 : w.heap.size + 2 < wr.heap.size := by omega
        have i3 : b < wr.heap.size := by omega
        gi_wp2_with fail
        refine ⟨trivial, ?_⟩
        refine (CallsIn.inRound l (callsIn_wide.2 (HQ.out _ (HM2.out.alloc _)))).mono ?_
        rintro e2 w2 ⟨rfl, hM3, hg3⟩
        have hC3 : Boxed w2 (w.heap.size + 2) 3 (.int .i64 (passTo es sR j).2) := (HC2.out.alloc _).kept hg3 (by simp; omega)
        have hT3 : Two b (w.heap.size + 2) W w2 := (HT.out.alloc _).grown hg3
        have cC3 := hC3.cell
        have fC3 := hC3.frozen
        have HM3 := Lib.hid hM3
        have HC3 := Lib.hid hC3
        have HT3 := Lib.hid hT3
        have hs3 := hg3.size
        clear hM3 hC3 hT3 hg3
        obtain ⟨lo, hlo⟩ : ∃ lo, lo = lowE (passTo es sR j).1 e := ⟨_, rfl⟩
        rw [← hlo]
        have HLO := Lib.hid hlo
        clear hlo
        cases lo with
        | false =>
          have hp := pass_not HE.out HLO.out.symm
          have HP := Lib.hid hp
          clear hp
          gi_wp2_with fail
          go_roundw
          case rel => exact ⟨j + 1, by omega, by go_num, by rw [HPS.out]; exact HM3.out, by rw [HP.out]; exact HC3.out, HT3.out⟩
          case measure => simp [intOf]; omega
        | true =>
          have hp := pass_low HE.out HLO.out.symm
          have HP := Lib.hid hp
          clear hp
          gi_wp2_with fail
          go_roundw
          case rel => exact ⟨j + 1, by omega, by go_num, by rw [HPS.out]; exact HM3.out.other (by dsimp only; omega) _, by rw [HP.out]; exact HC3.out.set _, HT3.out.set (.inr rfl) _⟩
          case measure => simp [intOf]; omega
      · have : j = k := by omega
        subst this
        have cC2 := hCj.cell
        obtain ⟨ch, hch⟩ : ∃ ch, ch = (passTo es sR j).2 := ⟨_, rfl⟩
        rw [← hch] at cC2 hCj
        have HCH := Lib.hid hch
        have hKF : KeepsFrom W0.heap.size W wr := (hT.others HM.out.obj ⟨_, HBC.out, rfl⟩).from _
        have hKp : KpB (w.heap.size + 3) W wr := hT.block _ (by omega) (by omega) (by omega)
        have hBM : Boxed wr w.heap.size 109 (.pointer (some ⟨b, 0, none⟩)) := (hT.block _ (by omega) (by omega) (by omega)).trans HBM.out
        have hBl : Below b W0 wr := hBw0.trans (hT.below (by omega) (by omega))
        have HKp := Lib.hid hKp
        have HT := Lib.hid hT
        have HBM2 := Lib.hid hBM
        have HCj := Lib.hid hCj
        clear hch hKp hT hBM hCj
        by_cases h1 : ch = -1
        · have hb : (ch == -1) = true := by simp [h1]
          have H1 := Lib.hid h1
          clear h1
          gi_wp2_with fail
          refine ⟨hKF, ⟨⟨⟨?_, ?_⟩, HBM2.out⟩, hBl⟩, rfl, by simp, ?_⟩
          · rw [List.length_append, List.length_singleton, HR1.out]; exact hMj
          · rw [List.length_append, List.length_singleton, HR1.out, ← HCH.out]; exact HCj.out
          · rw [List.length_append, List.length_singleton, HR1.out, ← HCH.out]; exact H1.out
        · have hb : (ch == -1) = false := by simp [h1]
          gi_wp2_with fail
          refine ⟨hKF, HKp.out, ⟨⟨?_, ?_⟩, HBM2.out⟩, hBl⟩
          · rw [List.length_append, List.length_singleton, HR1.out]; exact hMj
          · rw [List.length_append, List.length_singleton, HR1.out, ← HCH.out]; exact HCj.out
  case done =>
    rintro D xs W hD hxs ⟨⟨⟨hM, bC⟩, bM⟩, hBw0⟩ hK
    have hBw := hB0.trans hBw0
    rw [hxs] at hM bC
    have cC := bC.cell
    go_wp2_with fail
    refine ⟨by simp, .inl ⟨_, _, rfl, run_takeDeferred hK, ?_⟩⟩
    exact ⟨_, results_tmp rfl _ _ _, rfl, (mkAt_own b (fun _ : Unit => (roundsE es s N).1)).putObj (s := ()) _ hM hK rfl, hBw.trans (belowK_b (w := w) (by omega) W D _ _ (by omega) hK rfl rfl)⟩
  case stop =>
    rintro D cd pre W hD hpl ⟨⟨⟨⟨hM, bC⟩, bM⟩, hBw0⟩, rfl, h1, h2⟩ hK
    have hBw := hB0.trans hBw0
    have hst : roundsE es s N = roundsE es s pre.length := by
      have := rounds_still es s (pre.length - 1) (by rw [show pre.length - 1 + 1 = pre.length from by omega]; exact h2) (N - pre.length)
      rwa [show pre.length - 1 + 1 + (N - pre.length) = N from by omega, show pre.length - 1 + 1 = pre.length from by omega] at this
    rw [← hst] at hM bC
    clear hst h2
    refine wpIn_exit ?_
    have cC := bC.cell
    go_wp2_with fail
    refine ⟨by simp, .inl ⟨_, _, rfl, run_takeDeferred hK, ?_⟩⟩
    exact ⟨_, results_tmp rfl _ _ _, rfl, (mkAt_own b (fun _ : Unit => (roundsE es s N).1)).putObj (s := ()) _ hM hK rfl, hBw.trans (belowK_b (w := w) (by omega) W D _ _ (by omega) hK rfl rfl)⟩

end Go.Proofs.Ytdjaiijgdflopaa
