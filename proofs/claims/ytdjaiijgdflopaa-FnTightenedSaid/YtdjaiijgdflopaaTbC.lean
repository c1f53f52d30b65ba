/-
  WALKS of spec.TableOk and impl.TableOk.
-/
import Derived.Test.YtdjaiijgdflopaaTbB
import Derived.Test.YtdjaiijgdflopaaIvW
namespace Go.Proofs.Ytdjaiijgdflopaa
open Go.RowKit
set_option linter.unusedVariables false
set_option linter.unusedSimpArgs false

theorem diag_iff : ∀ N, N ≤ 8 → ∀ j, j < N * N → ((j % (N + 1) = 0) ↔ (j / N = j % N)) := by decide +kernel
theorem cellT_eq (N j : Nat) (x : Int) : cellT N j x = ((decide (-1000000 ≤ x) && decide (x ≤ 1000000)) && !(decide (j % (N + 1) = 0) && decide (x ≠ 0))) := by
  have h : ((j : Int) % ((N : Int) + 1) = 0) ↔ (j % (N + 1) = 0) := by
    have : ((j % (N + 1) : Nat) : Int) = (j : Int) % ((N : Int) + 1) := by simp
    omega
  unfold cellT
  rw [decide_eq_decide.2 h]
  congr 1
  rw [Bool.eq_iff_iff]; simp
theorem okT_no {n : Int} {zs : List Int} (h : ¬ (0 ≤ n ∧ n ≤ 8 ∧ (zs.length : Int) = n * n)) : okT n zs = false := by
  unfold okT; rw [decide_eq_false h, Bool.false_and]
theorem okT_bad {n : Int} {zs : List Int} {j : Nat} (hj : j < zs.length) (h : cellT n j (zs[j]?.getD 0) = false) : okT n zs = false := by
  unfold okT
  have : ((List.range zs.length).all fun i => cellT n i (zs[i]?.getD 0)) = false := by
    rw [List.all_eq_false]; exact ⟨j, by simpa using hj, by rw [h]; simp⟩
  rw [this, Bool.and_false]
theorem okT_yes {n : Int} {zs : List Int} (h : 0 ≤ n ∧ n ≤ 8 ∧ (zs.length : Int) = n * n) (h2 : ∀ j, j < zs.length → cellT n j (zs[j]?.getD 0) = true) : okT n zs = true := by
  unfold okT
  rw [decide_eq_true h, Bool.true_and, List.all_eq_true]
  intro i hi
  exact h2 i (by simpa using hi)
theorem upto_next {p : Nat → Prop} {j : Nat} (h : ∀ q, q < j → p q) (hj : p j) : ∀ q, q < j + 1 → p q := by
  intro q hq
  by_cases e : q = j
  · subst e; exact hj
  · exact h q (by omega)

set_option maxRecDepth 100000 in
set_option maxHeartbeats 2000000 in
theorem spec_TableOk (n : Int) (zs : List Int) (A : Option Addr) (k c : Nat) (w : World) (hn : zs.length = k) (hk : k ≤ 1048576) (hr : RowAt w A (zs.map intV)) :
    Calls Try.prog 28 #[grV n A k c] w fun e w' => e = .returned (.bool (okT n zs)) ∧ Below w.heap.size w w' := by
  unfold grV
  have HR := Lib.hid hr
  have HL := Lib.hid hn
  clear hr hn
  obtain ⟨b, hb⟩ : ∃ b, b = (decide ((0 : Int) ≤ n) && decide (n ≤ 8)) := ⟨_, rfl⟩
  have h0 := l01In_any n 0 8
  rw [← hb] at h0
  have H0 := Lib.hid h0
  have HB := Lib.hid hb
  clear h0 hb
  cases b with
  | false =>
    go_enter Try.func28, Try.ntmps28
    go_wp2_with (go_at_call 72; refine (H0.out _).mono ?_; rintro x w2 ⟨rfl, rfl⟩)
    go_ret
    exact ⟨ret_b (okT_no (by have := HB.out; simp at this; omega)).symm, (by repeat (first | exact Below.refl _ _ | refine below_step (by assumption) (by first | omega | (simp; done) | (simp; omega)) ?_ | refine below_drewN ?_ _ | refine Below.drew ?_ | refine Below.setCell ?_ (by first | omega | (simp; done) | (simp; omega)) _ | refine Below.alloc ?_ (by first | omega | (simp; done) | (simp; omega)) _))⟩
  | true =>
    have hn8 : 0 ≤ n ∧ n ≤ 8 := by have := HB.out; simpa using this.symm
    obtain ⟨N, rfl⟩ : ∃ N : Nat, n = N := ⟨n.toNat, by omega⟩
    have hN8 : N ≤ 8 := by omega
    obtain ⟨s, hs⟩ : ∃ s, s = N * N := ⟨_, rfl⟩
    have hs64 : s ≤ 64 := by rw [hs]; exact sq_le hN8
    have e1 : (N : Int) * (N : Int) = (s : Int) := by rw [hs]; simp
    have HS := Lib.hid hs
    clear hs
    by_cases hks : k = s
    · subst hks
      have hkk : ((k : Int) != (k : Int)) = false := by simp
      go_enter Try.func28, Try.ntmps28
      go_wp2_with (go_at_call 72; refine (H0.out _).mono ?_; rintro x w2 ⟨rfl, rfl⟩)
      clear hkk e1
      go_loopw [23] (fun i wr => ∃ j : Nat, j ≤ k ∧ i = .int .i64 j ∧ (∀ q, q < j → cellT N q (zs[q]?.getD 0) = true) ∧ wr.cell? ⟨w.heap.size, 0, none⟩ = some (.int .i64 N) ∧ Below w.heap.size w wr ∧ w.heap.size < wr.heap.size) (fun i _ => k - (intOf i).toNat)
      case atStart => exact ⟨0, Nat.zero_le _, rfl, fun q hq => by omega, by go_simp, (by repeat (first | exact Below.refl _ _ | refine below_step (by assumption) (by first | omega | (simp; done) | (simp; omega)) ?_ | refine below_drewN ?_ _ | refine Below.drew ?_ | refine Below.setCell ?_ (by first | omega | (simp; done) | (simp; omega)) _ | refine Below.alloc ?_ (by first | omega | (simp; done) | (simp; omega)) _)), by simp⟩
      case round =>
        obtain ⟨j, hj, rfl, hall, hcn, hbw, hsz⟩ := hrel
        have HA := Lib.hid hall
        clear hall
        by_cases hlt : j < k
        · have hl := HL.out
          obtain ⟨g, o, rfl, hg, hc0⟩ := rowInts HR.out (q := j) (by omega)
          have hc := (hbw.cell (p := ⟨g, o + j, none⟩) hg).trans hc0
          have HK1 := Lib.hid (fun h => upto_next (p := fun q => cellT N q (zs[q]?.getD 0) = true) HA.out h)
          have HK2 := Lib.hid (fun h => okT_bad (n := (N : Int)) (zs := zs) (j := j) (by omega) h)
          have hce := cellT_eq N j (zs[j]?.getD 0)
          obtain ⟨x, hx⟩ : ∃ x, x = zs[j]?.getD 0 := ⟨_, rfl⟩
          rw [← hx] at hc HK1 HK2 hce
          obtain ⟨bx, hbx⟩ : ∃ b, b = (decide ((-1000000 : Int) ≤ x) && decide (x ≤ 1000000)) := ⟨_, rfl⟩
          obtain ⟨r, hrr⟩ : ∃ r, r = j % (N + 1) := ⟨_, rfl⟩
          have e2 : (j : Int).tmod ((N : Int) + 1) = (r : Int) := by rw [hrr]; rfl
          have hr8 : r ≤ N := by have : r < N + 1 := by rw [hrr]; exact Nat.mod_lt _ (by omega)
                                 omega
          have hN1 : (((N : Int) + 1) == 0) = false := by simp; omega
          have h1 := l01In_any x (-1000000) 1000000
          rw [← hbx, ← hrr] at hce
          rw [← hbx] at h1
          have H1 := Lib.hid h1
          have HCE := Lib.hid hce
          clear hx hbx hrr h1 hce hl hc0
          cases bx with
          | false =>
            go_wp2_with (go_at_call 72; refine (H1.out _).mono ?_; rintro x w2 ⟨rfl, rfl⟩)
            go_ret
            exact ⟨ret_b (HK2.out (by rw [HCE.out]; rfl)).symm, hbw⟩
          | true =>
            by_cases hr0 : r = 0
            · by_cases hx0 : x = 0
              · have hxx : (x != 0) = false := by rw [hx0]; rfl
                have hrz : ((r : Int) == 0) = true := by rw [hr0]; rfl
                have HK3 := Lib.hid (HK1.out (by rw [HCE.out, hx0]; simp))
                clear hr0 hx0
                go_wp2_with (go_at_call 72; refine (H1.out _).mono ?_; rintro x w2 ⟨rfl, rfl⟩)
                go_roundw
                case rel => exact ⟨j + 1, by omega, by go_num, HK3.out, hcn, hbw, hsz⟩
                case measure => simp [intOf]; omega
              · have hxx : (x != 0) = true := by simpa using hx0
                have hrz : ((r : Int) == 0) = true := by rw [hr0]; rfl
                have HK3 := Lib.hid (HK2.out (by rw [HCE.out, hr0]; simpa using hx0))
                clear hr0 hx0
                go_wp2_with (go_at_call 72; refine (H1.out _).mono ?_; rintro x w2 ⟨rfl, rfl⟩)
                go_ret
                exact ⟨ret_b HK3.out.symm, hbw⟩
            · have hrz : ((r : Int) == 0) = false := by simp; omega
              have HK3 := Lib.hid (HK1.out (by rw [HCE.out, decide_eq_false hr0]; simp))
              clear hr0
              go_wp2_with (go_at_call 72; refine (H1.out _).mono ?_; rintro x w2 ⟨rfl, rfl⟩)
              go_roundw
              case rel => exact ⟨j + 1, by omega, by go_num, HK3.out, hcn, hbw, hsz⟩
              case measure => simp [intOf]; omega
        · go_wp2_with fail
          go_ret
          have hl := HL.out
          have hjk : j = k := by omega
          exact ⟨ret_b (okT_yes ⟨by omega, by omega, by rw [hl, HS.out]; simp⟩ (fun q hq => HA.out q (by omega))).symm, hbw⟩
    · have hkk : ((k : Int) != (s : Int)) = true := by simp; omega
      go_enter Try.func28, Try.ntmps28
      go_wp2_with (go_at_call 72; refine (H0.out _).mono ?_; rintro x w2 ⟨rfl, rfl⟩)
      go_ret
      exact ⟨ret_b (okT_no (by have h1 := HL.out; have h2 := HS.out; intro h; rw [e1] at h; omega)).symm, (by repeat (first | exact Below.refl _ _ | refine below_step (by assumption) (by first | omega | (simp; done) | (simp; omega)) ?_ | refine below_drewN ?_ _ | refine Below.drew ?_ | refine Below.setCell ?_ (by first | omega | (simp; done) | (simp; omega)) _ | refine Below.alloc ?_ (by first | omega | (simp; done) | (simp; omega)) _))⟩
theorem cellT_impl {N j : Nat} (hN : N ≤ 8) (hj : j < N * N) (x : Int) : cellT N j x = (decide (x = clampI x) && !(decide (j / N = j % N) && decide (x ≠ 0))) := by
  rw [cellT_eq, decide_eq_decide.2 (diag_iff N hN j hj)]
  congr 1
  rw [Bool.eq_iff_iff]
  simp only [Bool.and_eq_true, decide_eq_true_eq]
  unfold clampI
  constructor
  · intro h; rw [if_neg (by omega), if_neg (by omega)]
  · intro h; have := clampI_rng x; unfold clampI at this; omega

set_option maxRecDepth 100000 in
set_option maxHeartbeats 2000000 in
theorem impl_TableOk (n : Int) (zs : List Int) (A : Option Addr) (k c : Nat) (w : World) (hn : zs.length = k) (hk : k ≤ 1048576) (hr : RowAt w A (zs.map intV)) :
    Calls Try.prog 20 #[grV n A k c] w fun e w' => e = .returned (.bool (okT n zs)) ∧ Below w.heap.size w w' := by
  unfold grV
  have HR := Lib.hid hr
  have HL := Lib.hid hn
  clear hr hn
  by_cases hn0 : n < 0
  · go_enter Try.func20, Try.ntmps20
    go_wp2_with fail
    go_ret
    exact ⟨ret_b (okT_no (by omega)).symm, (by repeat (first | exact Below.refl _ _ | refine below_step (by assumption) (by first | omega | (simp; done) | (simp; omega)) ?_ | refine below_drewN ?_ _ | refine Below.drew ?_ | refine Below.setCell ?_ (by first | omega | (simp; done) | (simp; omega)) _ | refine Below.alloc ?_ (by first | omega | (simp; done) | (simp; omega)) _))⟩
  · by_cases hn8 : 8 < n
    · go_enter Try.func20, Try.ntmps20
      go_wp2_with fail
      go_ret
      exact ⟨ret_b (okT_no (by omega)).symm, (by repeat (first | exact Below.refl _ _ | refine below_step (by assumption) (by first | omega | (simp; done) | (simp; omega)) ?_ | refine below_drewN ?_ _ | refine Below.drew ?_ | refine Below.setCell ?_ (by first | omega | (simp; done) | (simp; omega)) _ | refine Below.alloc ?_ (by first | omega | (simp; done) | (simp; omega)) _))⟩
    · obtain ⟨N, rfl⟩ : ∃ N : Nat, n = N := ⟨n.toNat, by omega⟩
      have hN8 : N ≤ 8 := by omega
      obtain ⟨s, hs⟩ : ∃ s, s = N * N := ⟨_, rfl⟩
      have hs64 : s ≤ 64 := by rw [hs]; exact sq_le hN8
      have e1 : (N : Int) * (N : Int) = (s : Int) := by rw [hs]; simp
      have HS := Lib.hid hs
      clear hs
      by_cases hks : k = s
      · subst hks
        have hkk : ((k : Int) != (k : Int)) = false := by simp
        go_enter Try.func20, Try.ntmps20
        go_wp2_with fail
        clear hkk e1
        go_loopw [29] (fun i wr => ∃ j : Nat, j ≤ k ∧ i = .int .i64 j ∧ (∀ q, q < j → cellT N q (zs[q]?.getD 0) = true) ∧ wr.cell? ⟨w.heap.size, 0, none⟩ = some (.int .i64 N) ∧ wr.cell? ⟨w.heap.size, 1, none⟩ = some (.slice A k c) ∧ Below w.heap.size w wr ∧ w.heap.size < wr.heap.size) (fun i _ => k - (intOf i).toNat)
        case atStart => exact ⟨0, Nat.zero_le _, rfl, fun q hq => by omega, by go_simp, by go_simp, (by repeat (first | exact Below.refl _ _ | refine below_step (by assumption) (by first | omega | (simp; done) | (simp; omega)) ?_ | refine below_drewN ?_ _ | refine Below.drew ?_ | refine Below.setCell ?_ (by first | omega | (simp; done) | (simp; omega)) _ | refine Below.alloc ?_ (by first | omega | (simp; done) | (simp; omega)) _)), by simp⟩
        case round =>
          obtain ⟨j, hj, rfl, hall, hcn, hcs, hbw, hsz⟩ := hrel
          have HA := Lib.hid hall
          clear hall
          by_cases hlt : j < k
          · have hl := HL.out
            have hN0 : 0 < N := by rcases Nat.eq_zero_or_pos N with h | h
                                   · have := HS.out; subst h; omega
                                   · exact h
            obtain ⟨g, o, rfl, hg, hc0⟩ := rowInts HR.out (q := j) (by omega)
            have hc := (hbw.cell (p := ⟨g, o + j, none⟩) hg).trans hc0
            have HK1 := Lib.hid (fun h => upto_next (p := fun q => cellT N q (zs[q]?.getD 0) = true) HA.out h)
            have HK2 := Lib.hid (fun h => okT_bad (n := (N : Int)) (zs := zs) (j := j) (by omega) h)
            have hce := cellT_impl (j := j) hN8 (by have := HS.out; omega) (zs[j]?.getD 0)
            obtain ⟨x, hx⟩ : ∃ x, x = zs[j]?.getD 0 := ⟨_, rfl⟩
            rw [← hx] at hc HK1 HK2 hce
            have hp := fun W => place_any N j (some ⟨g, o, none⟩) k c W hN8 hN0 (by omega)
            unfold grV at hp
            obtain ⟨a, ha⟩ : ∃ a, a = j / N := ⟨_, rfl⟩
            obtain ⟨b, hb⟩ : ∃ b, b = j % N := ⟨_, rfl⟩
            rw [← ha, ← hb] at hp hce
            have HP := Lib.hid hp
            have hcl := impl_ClampBound x
            obtain ⟨y, hy⟩ : ∃ y, y = clampI x := ⟨_, rfl⟩
            rw [← hy] at hcl hce
            have H1 := Lib.hid hcl
            have HCE := Lib.hid hce
            clear hx ha hb hp hy hcl hce hl hc0
            by_cases hxy : x = y
            · subst hxy
              have hxx : (x != x) = false := by simp
              by_cases hab : a = b
              · subst hab
                have haa : ((a : Int) == (a : Int)) = true := by simp
                by_cases hx0 : x = 0
                · have hxz : (x != 0) = false := by rw [hx0]; rfl
                  have HK3 := Lib.hid (HK1.out (by rw [HCE.out, hx0]; simp))
                  clear hx0
                  go_wp2_with (first | (go_at_call 61; refine (HP.out _).mono ?_; rintro e w1 ⟨rfl, b1⟩; have k0 := (b1.cell (p := ⟨w.heap.size, 0, none⟩) (by dsimp only; omega)).trans hcn; have k1 := (b1.cell (p := ⟨w.heap.size, 1, none⟩) (by dsimp only; omega)).trans hcs; have sz1 : w.heap.size < w1.heap.size := Nat.lt_of_lt_of_le hsz b1.size) | (go_at_call 51; refine (H1.out _).mono ?_; rintro e w2 ⟨rfl, rfl⟩))
                  go_roundw
                  case rel => exact ⟨j + 1, by omega, by go_num, HK3.out, k0, k1, hbw.trans (b1.mono (by omega)), sz1⟩
                  case measure => simp [intOf]; omega
                · have hxz : (x != 0) = true := by simpa using hx0
                  have HK3 := Lib.hid (HK2.out (by rw [HCE.out]; simpa using hx0))
                  clear hx0
                  go_wp2_with (first | (go_at_call 61; refine (HP.out _).mono ?_; rintro e w1 ⟨rfl, b1⟩; have k0 := (b1.cell (p := ⟨w.heap.size, 0, none⟩) (by dsimp only; omega)).trans hcn; have k1 := (b1.cell (p := ⟨w.heap.size, 1, none⟩) (by dsimp only; omega)).trans hcs; have sz1 : w.heap.size < w1.heap.size := Nat.lt_of_lt_of_le hsz b1.size) | (go_at_call 51; refine (H1.out _).mono ?_; rintro e w2 ⟨rfl, rfl⟩))
                  go_ret
                  exact ⟨ret_b HK3.out.symm, hbw.trans (b1.mono (by omega))⟩
              · have haa : ((a : Int) == (b : Int)) = false := by simp; omega
                have HK3 := Lib.hid (HK1.out (by rw [HCE.out]; simp [hab]))
                clear hab
                go_wp2_with (first | (go_at_call 61; refine (HP.out _).mono ?_; rintro e w1 ⟨rfl, b1⟩; have k0 := (b1.cell (p := ⟨w.heap.size, 0, none⟩) (by dsimp only; omega)).trans hcn; have k1 := (b1.cell (p := ⟨w.heap.size, 1, none⟩) (by dsimp only; omega)).trans hcs; have sz1 : w.heap.size < w1.heap.size := Nat.lt_of_lt_of_le hsz b1.size) | (go_at_call 51; refine (H1.out _).mono ?_; rintro e w2 ⟨rfl, rfl⟩))
                go_roundw
                case rel => exact ⟨j + 1, by omega, by go_num, HK3.out, k0, k1, hbw.trans (b1.mono (by omega)), sz1⟩
                case measure => simp [intOf]; omega
            · have hxx : (x != y) = true := by simpa using hxy
              have HK3 := Lib.hid (HK2.out (by rw [HCE.out]; simp [hxy]))
              clear hxy
              go_wp2_with (first | (go_at_call 61; refine (HP.out _).mono ?_; rintro e w1 ⟨rfl, b1⟩; have k0 := (b1.cell (p := ⟨w.heap.size, 0, none⟩) (by dsimp only; omega)).trans hcn; have k1 := (b1.cell (p := ⟨w.heap.size, 1, none⟩) (by dsimp only; omega)).trans hcs; have sz1 : w.heap.size < w1.heap.size := Nat.lt_of_lt_of_le hsz b1.size) | (go_at_call 51; refine (H1.out _).mono ?_; rintro e w2 ⟨rfl, rfl⟩))
              go_ret
              exact ⟨ret_b HK3.out.symm, hbw.trans (b1.mono (by omega))⟩
          · go_wp2_with fail
            go_ret
            have hl := HL.out
            have hjk : j = k := by omega
            exact ⟨ret_b (okT_yes ⟨by omega, by omega, by rw [hl, HS.out]; simp⟩ (fun q hq => HA.out q (by omega))).symm, hbw⟩
      · have hkk : ((k : Int) != (s : Int)) = true := by simp; omega
        go_enter Try.func20, Try.ntmps20
        go_wp2_with fail
        go_ret
        exact ⟨ret_b (okT_no (by have h1 := HL.out; have h2 := HS.out; intro h; rw [e1] at h; omega)).symm, (by repeat (first | exact Below.refl _ _ | refine below_step (by assumption) (by first | omega | (simp; done) | (simp; omega)) ?_ | refine below_drewN ?_ _ | refine Below.drew ?_ | refine Below.setCell ?_ (by first | omega | (simp; done) | (simp; omega)) _ | refine Below.alloc ?_ (by first | omega | (simp; done) | (simp; omega)) _))⟩

end Go.Proofs.Ytdjaiijgdflopaa
