/-
  WALK of spec.MakeGraph: the graph that is drawn has between one and five nodes and at most nine edges, in memory of its own.
-/
import Derived.Test.YtdjaiijgdflopaaGmA
namespace Go.Proofs.Ytdjaiijgdflopaa
open Go.RowKit
set_option linter.unusedVariables false
set_option linter.unusedSimpArgs false

theorem dr_okG {N : Nat} {es : List GE} (hN0 : 1 ≤ N) (hN : N ≤ 5) (hl : es.length ≤ 9) (h : ∀ x ∈ es, DrE N x) : okG N es = true := by
  simp only [okG, Bool.and_eq_true, List.all_eq_true, decide_eq_true_eq]
  refine ⟨⟨by omega, by omega, by omega⟩, fun x hx => ?_⟩
  have := h x hx
  unfold DrE at this
  simp only [okE, Bool.and_eq_true, decide_eq_true_eq]
  omega
theorem dr_tiny {N : Nat} {es : List GE} (h : ∀ x ∈ es, DrE N x) : Tiny es := by
  intro j e he
  have := h e (List.mem_of_getElem? he)
  unfold DrE at this
  omega

set_option maxRecDepth 100000 in
set_option maxHeartbeats 1000000 in
theorem MakeGraph_any (A : Option Addr) (n c : Nat) (w : World) (hm : n ≤ 1048576) (hby : Bytes w w.heap.size A n) :
    Calls Try.prog 13 #[.slice A n c] w fun e w' =>
      ∃ (N : Nat) (es : List GE) (B : Option Addr) (k cb : Nat), e = .returned (grV N B k cb) ∧ 1 ≤ N ∧ N ≤ 5 ∧ es.length = k ∧ k ≤ 9 ∧ (∀ x ∈ es, DrE N x) ∧ w'.ownsRow w.heap.size 35 3 (.slice B k cb) k (cellsE es) ∧ Below w.heap.size w w' := by
  have b0 : Below w.heap.size w (w.alloc (.cells #[.int .i64 0, .slice none 0 0] 25)) := (Below.refl _ _).alloc (Nat.le_refl _) _
  have s0 : (w.alloc (.cells #[.int .i64 0, .slice none 0 0] 25)).heap.size = w.heap.size + 1 := by simp
  have r0 : (w.alloc (.cells #[.int .i64 0, .slice none 0 0] 25)).heap[w.heap.size]? = some (.cells #[.int .i64 0, .slice none 0 0] 25 (0, 0)) := heap_alloc_new w _
  have hb0 := (hby.below b0).fresh b0
  have hn := l01New_any A n c (w.alloc (.cells #[.int .i64 0, .slice none 0 0] 25)) hm hb0
  obtain ⟨w0, hw0⟩ : ∃ W, W = w.alloc (.cells #[.int .i64 0, .slice none 0 0] 25) := ⟨_, rfl⟩
  rw [← hw0] at b0 s0 r0 hb0 hn
  rw [s0] at hn
  have HBY := Lib.hid hb0
  have HN := Lib.hid hn
  have HW := Lib.hid hw0
  have R0 := Lib.hid r0
  have S0 := Lib.hid s0
  clear hby hw0 r0 hb0 hn s0
  go_enter Try.func13, Try.ntmps13
  go_wp2_with fail
  have hw0 := HW.out
  subst hw0
  refine HN.out.mono ?_
  rintro e w1 ⟨rfl, hc1, b1⟩
  have HD := Lib.hid (l03Draw_any _ A n c w1 hm hc1 (by have := HBY.out.below (by rw [S0.out]; exact b1); rw [S0.out] at this; exact this))
  have HB1 := Lib.hid b1
  have hl1 := hc1.lt
  clear hc1 b1 HN
  go_wp2_with fail
  refine HD.out.mono ?_
  rintro e w2 ⟨N, es, B, k, cb, rfl, h0, h1, h2, h3, h4, ho, hg⟩
  have b2 := HB1.out.grown hg (by omega) (fun k hk => by cases hk; exact Nat.le_refl _)
  have hof1 := own_base (B' := w.heap.size + 1) ho (by omega)
  have r2 : w2.heap[w.heap.size]? = some (.cells #[.int .i64 0, .slice none 0 0] 25 (0, 0)) := (b2.block _ (by omega)).trans R0.out
  have c0 : w2.cell? ⟨w.heap.size, 0, none⟩ = some (.int .i64 0) := by simp [World.cell?, r2]
  have c1 : w2.cell? ⟨w.heap.size, 1, none⟩ = some (.slice none 0 0) := by simp [World.cell?, r2]
  have z0 : w2.frozen? ⟨w.heap.size, 0, none⟩ = false := by simp [World.frozen?, r2]
  have z1 : w2.frozen? ⟨w.heap.size, 1, none⟩ = false := by simp [World.frozen?, r2]
  have b02 : Below w.heap.size w w2 := b0.trans (b2.mono (by omega))
  clear ho hg r2 HD HB1 HBY R0 S0
  simp only [grV]
  go_wp2
  refine bodyPost_ret (v := grV N B k cb) (by first | (simp [results, Try.results13, go_sem, grV]; done) | simp [*, results, Try.results13, go_sem, grV]) rfl ⟨N, es, B, k, cb, rfl, h0, h1, h2, h3, h4, ?_, ?_⟩
  · refine own_base (B := w.heap.size + 1) ?_ (by omega)
    repeat (refine own_set ?_ _ _ (by dsimp only; omega))
    exact hof1
  · exact (b02.setCell (p := ⟨w.heap.size, 0, none⟩) (Nat.le_refl _) _).setCell (p := ⟨w.heap.size, 1, none⟩) (Nat.le_refl _) _

end Go.Proofs.Ytdjaiijgdflopaa
