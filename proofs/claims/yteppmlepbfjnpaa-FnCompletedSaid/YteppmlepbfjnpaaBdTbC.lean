/-
  WALKS of spec.TableOk and impl.TableOk.
  GRIDS: an array of arrays as 64 cells by a function of the index; one that lies in a block; what a draw, a new block, a store do to it.
  A REGION THAT DRAWS ITS ORDER, WHOSE OPERATIONS YIELD ONE VALUE IN EVERY WORLD OF A CLASS AND LEAVE A WORLD OF THE CLASS: one lexical walk, at any class.
  GRIDS THAT ARE COMPARED: '==' on two arrays of arrays.
  WALK of impl's Table.grid.
  WALK of impl's grid.shortened.
  WALK of impl's grid.tightened.
  WALK of impl's grid.table.
  WALK of impl.IsClosed; what the comparison says.
  WALK of spec.IsClosed.
  WALK of spec.TightenTable.
-/
import Derived.Test.YteppmlepbfjnpaaBdGrK
import Derived.Test.YteppmlepbfjnpaaBdDig
import Derived.Test.YteppmlepbfjnpaaBdGrC
import Derived.Deep.WholeRow
import Derived.Laws.CopyOwn
import Derived.Test.YteppmlepbfjnpaaProg
import Derived.Deep.QuietTactic
import Derived.BigQuiet
import Derived.Laws.StructEq
import Derived.StillTailTactics
import Derived.Deep.CutRange
import Derived.Deep.Cut
import Derived.Deep.RegionLaw
import Derived.Deep.AppendLies
import Derived.Deep.RegionWith
namespace Go.Proofs.Yteppmlepbfjnpaa
open Go.RowKit
set_option linter.unusedVariables false
set_option linter.unusedSimpArgs false

theorem diag_iff : ∀ N, N ≤ 8 → ∀ j, j < N * N → ((j % (N + 1) = 0) ↔ (j / N = j % N)) := by decide +kernel
theorem cellT_eq (N j : Nat) (x : Int) : cellT N j x = ((decide (-1000000 ≤ x) && decide (x ≤ 1000000)) && !(decide (j % (N + 1) = 0) && decide (x ≠ 0))) := by
  have h : ((j : Int) % ((N : Int) + 1) = 0) ↔ (j % (N + 1) = 0) := by
    have : ((j % (N + 1) : Nat) : Int) = (j : Int) % ((N : Int) + 1) := by simp
    omega
  unfold cellT
  rw [decide_eq_decide.2 h]
  congr 1
  rw [Bool.eq_iff_iff]; simp
theorem okT_no {n : Int} {zs : List Int} (h : ¬ (0 ≤ n ∧ n ≤ 8 ∧ (zs.length : Int) = n * n)) : okT n zs = false := by
  unfold okT; rw [decide_eq_false h, Bool.false_and]
theorem okT_bad {n : Int} {zs : List Int} {j : Nat} (hj : j < zs.length) (h : cellT n j (zs[j]?.getD 0) = false) : okT n zs = false := by
  unfold okT
  have : ((List.range zs.length).all fun i => cellT n i (zs[i]?.getD 0)) = false := by
    rw [List.all_eq_false]; exact ⟨j, by simpa using hj, by rw [h]; simp⟩
  rw [this, Bool.and_false]
theorem okT_yes {n : Int} {zs : List Int} (h : 0 ≤ n ∧ n ≤ 8 ∧ (zs.length : Int) = n * n) (h2 : ∀ j, j < zs.length → cellT n j (zs[j]?.getD 0) = true) : okT n zs = true := by
  unfold okT
  rw [decide_eq_true h, Bool.true_and, List.all_eq_true]
  intro i hi
  exact h2 i (by simpa using hi)
theorem upto_next {p : Nat → Prop} {j : Nat} (h : ∀ q, q < j → p q) (hj : p j) : ∀ q, q < j + 1 → p q := by
  intro q hq
  by_cases e : q = j
  · subst e; exact hj
  · exact h q (by omega)

set_option maxRecDepth 100000 in
set_option maxHeartbeats 2000000 in
theorem spec_TableOk (n : Int) (zs : List Int) (A : Option Addr) (k c : Nat) (w : World) (hn : zs.length = k) (hk : k ≤ 1048576) (hr : RowAt w A (zs.map intV)) :
    Calls Try.prog 107 #[grV n A k c] w fun e w' => e = .returned (.bool (okT n zs)) ∧ Below w.heap.size w w' := by
  unfold grV
  have HR := Lib.hid hr
  have HL := Lib.hid hn
  clear hr hn
  obtain ⟨b, hb⟩ : ∃ b, b = (decide ((0 : Int) ≤ n) && decide (n ≤ 8)) := ⟨_, rfl⟩
  have h0 := l01In_any n 0 8
  rw [← hb] at h0
  have H0 := Lib.hid h0
  have HB := Lib.hid hb
  clear h0 hb
  cases b with
  | false =>
    go_enter Try.func107, Try.ntmps107
    go_wp2_with (go_at_call 65; refine (H0.out _).mono ?_; rintro x w2 ⟨rfl, rfl⟩)
    go_ret
    exact ⟨ret_b (okT_no (by have := HB.out; simp at this; omega)).symm, (by repeat (first | exact Below.refl _ _ | refine below_step (by assumption) (by first | omega | (simp; done) | (simp; omega)) ?_ | refine below_drewN ?_ _ | refine Below.drew ?_ | refine Below.setCell ?_ (by first | omega | (simp; done) | (simp; omega)) _ | refine Below.alloc ?_ (by first | omega | (simp; done) | (simp; omega)) _))⟩
  | true =>
    have hn8 : 0 ≤ n ∧ n ≤ 8 := by have := HB.out; simpa using this.symm
    obtain ⟨N, rfl⟩ : ∃ N : Nat, n = N := ⟨n.toNat, by omega⟩
    have hN8 : N ≤ 8 := by omega
    obtain ⟨s, hs⟩ : ∃ s, s = N * N := ⟨_, rfl⟩
    have hs64 : s ≤ 64 := by rw [hs]; exact sq_le hN8
    have e1 : (N : Int) * (N : Int) = (s : Int) := by rw [hs]; simp
    have HS := Lib.hid hs
    clear hs
    by_cases hks : k = s
    · subst hks
      have hkk : ((k : Int) != (k : Int)) = false := by simp
      go_enter Try.func107, Try.ntmps107
      go_wp2_with (go_at_call 65; refine (H0.out _).mono ?_; rintro x w2 ⟨rfl, rfl⟩)
      clear hkk e1
      go_loopw [23] (fun i wr => ∃ j : Nat, j ≤ k ∧ i = .int .i64 j ∧ (∀ q, q < j → cellT N q (zs[q]?.getD 0) = true) ∧ wr.cell? ⟨w.heap.size, 0, none⟩ = some (.int .i64 N) ∧ Below w.heap.size w wr ∧ w.heap.size < wr.heap.size) (fun i _ => k - (intOf i).toNat)
      case atStart => exact ⟨0, Nat.zero_le _, rfl, fun q hq => by omega, by go_simp, (by repeat (first | exact Below.refl _ _ | refine below_step (by assumption) (by first | omega | (simp; done) | (simp; omega)) ?_ | refine below_drewN ?_ _ | refine Below.drew ?_ | refine Below.setCell ?_ (by first | omega | (simp; done) | (simp; omega)) _ | refine Below.alloc ?_ (by first | omega | (simp; done) | (simp; omega)) _)), by simp⟩
      case round =>
        obtain ⟨j, hj, rfl, hall, hcn, hbw, hsz⟩ := hrel
        have HA := Lib.hid hall
        clear hall
        by_cases hlt : j < k
        · have hl := HL.out
          obtain ⟨g, o, rfl, hg, hc0⟩ := rowInts HR.out (q := j) (by omega)
          have hc := (hbw.cell (p := ⟨g, o + j, none⟩) hg).trans hc0
          have HK1 := Lib.hid (fun h => upto_next (p := fun q => cellT N q (zs[q]?.getD 0) = true) HA.out h)
          have HK2 := Lib.hid (fun h => okT_bad (n := (N : Int)) (zs := zs) (j := j) (by omega) h)
          have hce := cellT_eq N j (zs[j]?.getD 0)
          obtain ⟨x, hx⟩ : ∃ x, x = zs[j]?.getD 0 := ⟨_, rfl⟩
          rw [← hx] at hc HK1 HK2 hce
          obtain ⟨bx, hbx⟩ : ∃ b, b = (decide ((-1000000 : Int) ≤ x) && decide (x ≤ 1000000)) := ⟨_, rfl⟩
          obtain ⟨r, hrr⟩ : ∃ r, r = j % (N + 1) := ⟨_, rfl⟩
          have e2 : (j : Int).tmod ((N : Int) + 1) = (r : Int) := by rw [hrr]; rfl
          have hr8 : r ≤ N := by have : r < N + 1 := by rw [hrr]; exact Nat.mod_lt _ (by omega)
                                 omega
          have hN1 : (((N : Int) + 1) == 0) = false := by simp; omega
          have h1 := l01In_any x (-1000000) 1000000
          rw [← hbx, ← hrr] at hce
          rw [← hbx] at h1
          have H1 := Lib.hid h1
          have HCE := Lib.hid hce
          clear hx hbx hrr h1 hce hl hc0
          cases bx with
          | false =>
            go_wp2_with (go_at_call 65; refine (H1.out _).mono ?_; rintro x w2 ⟨rfl, rfl⟩)
            go_ret
            exact ⟨ret_b (HK2.out (by rw [HCE.out]; rfl)).symm, hbw⟩
          | true =>
            by_cases hr0 : r = 0
            · by_cases hx0 : x = 0
              · have hxx : (x != 0) = false := by rw [hx0]; rfl
                have hrz : ((r : Int) == 0) = true := by rw [hr0]; rfl
                have HK3 := Lib.hid (HK1.out (by rw [HCE.out, hx0]; simp))
                clear hr0 hx0
                go_wp2_with (go_at_call 65; refine (H1.out _).mono ?_; rintro x w2 ⟨rfl, rfl⟩)
                go_roundw
                case rel => exact ⟨j + 1, by omega, by go_num, HK3.out, hcn, hbw, hsz⟩
                case measure => simp [intOf]; omega
              · have hxx : (x != 0) = true := by simpa using hx0
                have hrz : ((r : Int) == 0) = true := by rw [hr0]; rfl
                have HK3 := Lib.hid (HK2.out (by rw [HCE.out, hr0]; simpa using hx0))
                clear hr0 hx0
                go_wp2_with (go_at_call 65; refine (H1.out _).mono ?_; rintro x w2 ⟨rfl, rfl⟩)
                go_ret
                exact ⟨ret_b HK3.out.symm, hbw⟩
            · have hrz : ((r : Int) == 0) = false := by simp; omega
              have HK3 := Lib.hid (HK1.out (by rw [HCE.out, decide_eq_false hr0]; simp))
              clear hr0
              go_wp2_with (go_at_call 65; refine (H1.out _).mono ?_; rintro x w2 ⟨rfl, rfl⟩)
              go_roundw
              case rel => exact ⟨j + 1, by omega, by go_num, HK3.out, hcn, hbw, hsz⟩
              case measure => simp [intOf]; omega
        · go_wp2_with fail
          go_ret
          have hl := HL.out
          have hjk : j = k := by omega
          exact ⟨ret_b (okT_yes ⟨by omega, by omega, by rw [hl, HS.out]; simp⟩ (fun q hq => HA.out q (by omega))).symm, hbw⟩
    · have hkk : ((k : Int) != (s : Int)) = true := by simp; omega
      go_enter Try.func107, Try.ntmps107
      go_wp2_with (go_at_call 65; refine (H0.out _).mono ?_; rintro x w2 ⟨rfl, rfl⟩)
      go_ret
      exact ⟨ret_b (okT_no (by have h1 := HL.out; have h2 := HS.out; intro h; rw [e1] at h; omega)).symm, (by repeat (first | exact Below.refl _ _ | refine below_step (by assumption) (by first | omega | (simp; done) | (simp; omega)) ?_ | refine below_drewN ?_ _ | refine Below.drew ?_ | refine Below.setCell ?_ (by first | omega | (simp; done) | (simp; omega)) _ | refine Below.alloc ?_ (by first | omega | (simp; done) | (simp; omega)) _))⟩
theorem cellT_impl {N j : Nat} (hN : N ≤ 8) (hj : j < N * N) (x : Int) : cellT N j x = (decide (x = clampI x) && !(decide (j / N = j % N) && decide (x ≠ 0))) := by
  rw [cellT_eq, decide_eq_decide.2 (diag_iff N hN j hj)]
  congr 1
  rw [Bool.eq_iff_iff]
  simp only [Bool.and_eq_true, decide_eq_true_eq]
  unfold clampI
  constructor
  · intro h; rw [if_neg (by omega), if_neg (by omega)]
  · intro h; have := clampI_rng x; unfold clampI at this; omega

set_option maxRecDepth 100000 in
set_option maxHeartbeats 2000000 in
theorem impl_TableOk (n : Int) (zs : List Int) (A : Option Addr) (k c : Nat) (w : World) (hn : zs.length = k) (hk : k ≤ 1048576) (hr : RowAt w A (zs.map intV)) :
    Calls Try.prog 74 #[grV n A k c] w fun e w' => e = .returned (.bool (okT n zs)) ∧ Below w.heap.size w w' := by
  unfold grV
  have HR := Lib.hid hr
  have HL := Lib.hid hn
  clear hr hn
  by_cases hn0 : n < 0
  · go_enter Try.func74, Try.ntmps74
    go_wp2_with fail
    go_ret
    exact ⟨ret_b (okT_no (by omega)).symm, (by repeat (first | exact Below.refl _ _ | refine below_step (by assumption) (by first | omega | (simp; done) | (simp; omega)) ?_ | refine below_drewN ?_ _ | refine Below.drew ?_ | refine Below.setCell ?_ (by first | omega | (simp; done) | (simp; omega)) _ | refine Below.alloc ?_ (by first | omega | (simp; done) | (simp; omega)) _))⟩
  · by_cases hn8 : 8 < n
    · go_enter Try.func74, Try.ntmps74
      go_wp2_with fail
      go_ret
      exact ⟨ret_b (okT_no (by omega)).symm, (by repeat (first | exact Below.refl _ _ | refine below_step (by assumption) (by first | omega | (simp; done) | (simp; omega)) ?_ | refine below_drewN ?_ _ | refine Below.drew ?_ | refine Below.setCell ?_ (by first | omega | (simp; done) | (simp; omega)) _ | refine Below.alloc ?_ (by first | omega | (simp; done) | (simp; omega)) _))⟩
    · obtain ⟨N, rfl⟩ : ∃ N : Nat, n = N := ⟨n.toNat, by omega⟩
      have hN8 : N ≤ 8 := by omega
      obtain ⟨s, hs⟩ : ∃ s, s = N * N := ⟨_, rfl⟩
      have hs64 : s ≤ 64 := by rw [hs]; exact sq_le hN8
      have e1 : (N : Int) * (N : Int) = (s : Int) := by rw [hs]; simp
      have HS := Lib.hid hs
      clear hs
      by_cases hks : k = s
      · subst hks
        have hkk : ((k : Int) != (k : Int)) = false := by simp
        go_enter Try.func74, Try.ntmps74
        go_wp2_with fail
        clear hkk e1
        go_loopw [29] (fun i wr => ∃ j : Nat, j ≤ k ∧ i = .int .i64 j ∧ (∀ q, q < j → cellT N q (zs[q]?.getD 0) = true) ∧ wr.cell? ⟨w.heap.size, 0, none⟩ = some (.int .i64 N) ∧ wr.cell? ⟨w.heap.size, 1, none⟩ = some (.slice A k c) ∧ Below w.heap.size w wr ∧ w.heap.size < wr.heap.size) (fun i _ => k - (intOf i).toNat)
        case atStart => exact ⟨0, Nat.zero_le _, rfl, fun q hq => by omega, by go_simp, by go_simp, (by repeat (first | exact Below.refl _ _ | refine below_step (by assumption) (by first | omega | (simp; done) | (simp; omega)) ?_ | refine below_drewN ?_ _ | refine Below.drew ?_ | refine Below.setCell ?_ (by first | omega | (simp; done) | (simp; omega)) _ | refine Below.alloc ?_ (by first | omega | (simp; done) | (simp; omega)) _)), by simp⟩
        case round =>
          obtain ⟨j, hj, rfl, hall, hcn, hcs, hbw, hsz⟩ := hrel
          have HA := Lib.hid hall
          clear hall
          by_cases hlt : j < k
          · have hl := HL.out
            have hN0 : 0 < N := by rcases Nat.eq_zero_or_pos N with h | h
                                   · have := HS.out; subst h; omega
                                   · exact h
            obtain ⟨g, o, rfl, hg, hc0⟩ := rowInts HR.out (q := j) (by omega)
            have hc := (hbw.cell (p := ⟨g, o + j, none⟩) hg).trans hc0
            have HK1 := Lib.hid (fun h => upto_next (p := fun q => cellT N q (zs[q]?.getD 0) = true) HA.out h)
            have HK2 := Lib.hid (fun h => okT_bad (n := (N : Int)) (zs := zs) (j := j) (by omega) h)
            have hce := cellT_impl (j := j) hN8 (by have := HS.out; omega) (zs[j]?.getD 0)
            obtain ⟨x, hx⟩ : ∃ x, x = zs[j]?.getD 0 := ⟨_, rfl⟩
            rw [← hx] at hc HK1 HK2 hce
            have hp := fun W => place_any N j (some ⟨g, o, none⟩) k c W hN8 hN0 (by omega)
            unfold grV at hp
            obtain ⟨a, ha⟩ : ∃ a, a = j / N := ⟨_, rfl⟩
            obtain ⟨b, hb⟩ : ∃ b, b = j % N := ⟨_, rfl⟩
            rw [← ha, ← hb] at hp hce
            have HP := Lib.hid hp
            have hcl := impl_ClampBound x
            obtain ⟨y, hy⟩ : ∃ y, y = clampI x := ⟨_, rfl⟩
            rw [← hy] at hcl hce
            have H1 := Lib.hid hcl
            have HCE := Lib.hid hce
            clear hx ha hb hp hy hcl hce hl hc0
            by_cases hxy : x = y
            · subst hxy
              have hxx : (x != x) = false := by simp
              by_cases hab : a = b
              · subst hab
                have haa : ((a : Int) == (a : Int)) = true := by simp
                by_cases hx0 : x = 0
                · have hxz : (x != 0) = false := by rw [hx0]; rfl
                  have HK3 := Lib.hid (HK1.out (by rw [HCE.out, hx0]; simp))
                  clear hx0
                  go_wp2_with (first | (go_at_call 94; refine (HP.out _).mono ?_; rintro e w1 ⟨rfl, b1⟩; have k0 := (b1.cell (p := ⟨w.heap.size, 0, none⟩) (by dsimp only; omega)).trans hcn; have k1 := (b1.cell (p := ⟨w.heap.size, 1, none⟩) (by dsimp only; omega)).trans hcs; have sz1 : w.heap.size < w1.heap.size := Nat.lt_of_lt_of_le hsz b1.size) | (go_at_call 85; refine (H1.out _).mono ?_; rintro e w2 ⟨rfl, rfl⟩))
                  go_roundw
                  case rel => exact ⟨j + 1, by omega, by go_num, HK3.out, k0, k1, hbw.trans (b1.mono (by omega)), sz1⟩
                  case measure => simp [intOf]; omega
                · have hxz : (x != 0) = true := by simpa using hx0
                  have HK3 := Lib.hid (HK2.out (by rw [HCE.out]; simpa using hx0))
                  clear hx0
                  go_wp2_with (first | (go_at_call 94; refine (HP.out _).mono ?_; rintro e w1 ⟨rfl, b1⟩; have k0 := (b1.cell (p := ⟨w.heap.size, 0, none⟩) (by dsimp only; omega)).trans hcn; have k1 := (b1.cell (p := ⟨w.heap.size, 1, none⟩) (by dsimp only; omega)).trans hcs; have sz1 : w.heap.size < w1.heap.size := Nat.lt_of_lt_of_le hsz b1.size) | (go_at_call 85; refine (H1.out _).mono ?_; rintro e w2 ⟨rfl, rfl⟩))
                  go_ret
                  exact ⟨ret_b HK3.out.symm, hbw.trans (b1.mono (by omega))⟩
              · have haa : ((a : Int) == (b : Int)) = false := by simp; omega
                have HK3 := Lib.hid (HK1.out (by rw [HCE.out]; simp [hab]))
                clear hab
                go_wp2_with (first | (go_at_call 94; refine (HP.out _).mono ?_; rintro e w1 ⟨rfl, b1⟩; have k0 := (b1.cell (p := ⟨w.heap.size, 0, none⟩) (by dsimp only; omega)).trans hcn; have k1 := (b1.cell (p := ⟨w.heap.size, 1, none⟩) (by dsimp only; omega)).trans hcs; have sz1 : w.heap.size < w1.heap.size := Nat.lt_of_lt_of_le hsz b1.size) | (go_at_call 85; refine (H1.out _).mono ?_; rintro e w2 ⟨rfl, rfl⟩))
                go_roundw
                case rel => exact ⟨j + 1, by omega, by go_num, HK3.out, k0, k1, hbw.trans (b1.mono (by omega)), sz1⟩
                case measure => simp [intOf]; omega
            · have hxx : (x != y) = true := by simpa using hxy
              have HK3 := Lib.hid (HK2.out (by rw [HCE.out]; simp [hxy]))
              clear hxy
              go_wp2_with (first | (go_at_call 94; refine (HP.out _).mono ?_; rintro e w1 ⟨rfl, b1⟩; have k0 := (b1.cell (p := ⟨w.heap.size, 0, none⟩) (by dsimp only; omega)).trans hcn; have k1 := (b1.cell (p := ⟨w.heap.size, 1, none⟩) (by dsimp only; omega)).trans hcs; have sz1 : w.heap.size < w1.heap.size := Nat.lt_of_lt_of_le hsz b1.size) | (go_at_call 85; refine (H1.out _).mono ?_; rintro e w2 ⟨rfl, rfl⟩))
              go_ret
              exact ⟨ret_b HK3.out.symm, hbw.trans (b1.mono (by omega))⟩
          · go_wp2_with fail
            go_ret
            have hl := HL.out
            have hjk : j = k := by omega
            exact ⟨ret_b (okT_yes ⟨by omega, by omega, by rw [hl, HS.out]; simp⟩ (fun q hq => HA.out q (by omega))).symm, hbw⟩
      · have hkk : ((k : Int) != (s : Int)) = true := by simp; omega
        go_enter Try.func74, Try.ntmps74
        go_wp2_with fail
        go_ret
        exact ⟨ret_b (okT_no (by have h1 := HL.out; have h2 := HS.out; intro h; rw [e1] at h; omega)).symm, (by repeat (first | exact Below.refl _ _ | refine below_step (by assumption) (by first | omega | (simp; done) | (simp; omega)) ?_ | refine below_drewN ?_ _ | refine Below.drew ?_ | refine Below.setCell ?_ (by first | omega | (simp; done) | (simp; omega)) _ | refine Below.alloc ?_ (by first | omega | (simp; done) | (simp; omega)) _))⟩

end Go.Proofs.Yteppmlepbfjnpaa

namespace Go.Proofs.Yteppmlepbfjnpaa
open Go.RowKit
set_option linter.unusedVariables false
set_option linter.unusedSimpArgs false

def gridA (f : Nat → Int) : Array Value := ((List.range 64).map fun j => Value.int .i64 (f j)).toArray
theorem gridA_size (f : Nat → Int) : (gridA f).size = 64 := by simp [gridA]
theorem gridA_at (f : Nat → Int) {j : Nat} (h : j < 64) : (gridA f)[j]? = some (.int .i64 (f j)) := by simp [gridA, h]
theorem gridA_set (f : Nat → Int) {j : Nat} (h : j < 64) (x : Int) : (gridA f).setIfInBounds j (.int .i64 x) = gridA (upf f j x) := by
  apply Array.ext_getElem?
  intro i
  rw [Array.getElem?_setIfInBounds]
  by_cases hi : i < 64
  · rw [gridA_at _ hi, gridA_at _ hi, gridA_size]
    by_cases e : j = i
    · subst e; rw [if_pos rfl, if_pos h]; simp [upf]
    · rw [if_neg e]; unfold upf; rw [if_neg (fun h => e h.symm)]
  · rw [Array.getElem?_eq_none (by rw [gridA_size]; omega), Array.getElem?_eq_none (by rw [gridA_size]; omega)]
    by_cases e : j = i
    · omega
    · rw [if_neg e]
theorem gridA_one (f : Nat → Int) : (gridA f).all (·.oneCell') = true := by
  rw [Array.all_eq_true_iff_forall_mem]
  intro v hv
  simp [gridA] at hv
  obtain ⟨_, _, rfl⟩ := hv
  rfl
theorem gridA_congr {f g : Nat → Int} (h : ∀ j, j < 64 → f j = g j) : gridA f = gridA g := by
  apply Array.ext_getElem?
  intro i
  by_cases hi : i < 64
  · rw [gridA_at _ hi, gridA_at _ hi, h i hi]
  · rw [Array.getElem?_eq_none (by rw [gridA_size]; omega), Array.getElem?_eq_none (by rw [gridA_size]; omega)]

theorem info_grid : (Try.prog.info? 121).map (fun i => (i.zero, i.size)) = some (some (.agg (gridA fun _ => 0)), 64) := by kernel_rfl
theorem zero_grid (w : World) : (zeroValue 121).run Try.prog w = .ok (.agg (gridA fun _ => 0)) w := (zero_of_info info_grid).1 w
theorem size_grid (f : Nat → Int) : (Try.prog.info? 121).map (·.size) = some (gridA f).size := by rw [(zero_of_info info_grid).2, gridA_size]

/-- Block b is a grid with the numbers f. -/
def GdAt (W : World) (b : Nat) (f : Nat → Int) : Prop := W.heap[b]? = some (.cells (gridA f) 121 (0, 0))
theorem GdAt.lt {W : World} {b : Nat} {f : Nat → Int} (h : GdAt W b f) : b < W.heap.size := (Array.getElem?_eq_some_iff.1 h).1
theorem GdAt.cell {W : World} {b : Nat} {f : Nat → Int} (h : GdAt W b f) {j : Nat} (hj : j < 64) : W.cell? ⟨b, j, none⟩ = some (.int .i64 (f j)) := by
  rw [cell_of_row W b j _ _ _ h, gridA_at _ hj]
theorem GdAt.free {W : World} {b : Nat} {f : Nat → Int} (h : GdAt W b f) (j : Nat) : W.frozen? ⟨b, j, none⟩ = false := frozen_of_row W b j _ _ h
theorem GdAt.of_heap {W W' : World} {b : Nat} {f : Nat → Int} (h : GdAt W b f) (e : W'.heap[b]? = W.heap[b]?) : GdAt W' b f := by unfold GdAt at *; rw [e, h]
theorem GdAt.drew {W : World} {b : Nat} {f : Nat → Int} (h : GdAt W b f) : GdAt W.drew b f := h
theorem GdAt.drewN {W : World} {b : Nat} {f : Nat → Int} (h : GdAt W b f) (q : Nat) : GdAt (W.drewN q) b f := h.of_heap rfl
theorem GdAt.alloc {W : World} {b : Nat} {f : Nat → Int} (h : GdAt W b f) (o : Obj) : GdAt (W.alloc o) b f := h.of_heap (Below.heap_alloc W o b h.lt)
theorem GdAt.below {W W' : World} {b B : Nat} {f : Nat → Int} (h : GdAt W b f) (hb : Below B W W') (hg : b < B) : GdAt W' b f := h.of_heap (hb.block b hg)
theorem GdAt.other {W : World} {b : Nat} {f : Nat → Int} (h : GdAt W b f) {p : Addr} (hp : p.block ≠ b) (x : Value) : GdAt (W.setCell p x) b f := h.of_heap (Below.heap_setCell W p x b (fun e => hp e.symm))
theorem GdAt.store {W : World} {b : Nat} {f : Nat → Int} (h : GdAt W b f) {j : Nat} (hj : j < 64) (x : Int) : GdAt (W.setCell ⟨b, j, none⟩ (.int .i64 x)) b (upf f j x) := by
  have := heap_setCell_same W b j _ _ (.int .i64 x) h
  rw [gridA_set f hj] at this
  exact this
theorem GdAt.new (W : World) (f : Nat → Int) : GdAt (W.alloc (.cells (gridA f) 121)) W.heap.size f := heap_alloc_new W _
theorem GdAt.made {W : World} {b : Nat} {f : Nat → Int} (h : b = W.heap.size) : GdAt (W.alloc (.cells (gridA f) 121)) b f := by subst h; exact GdAt.new W f
theorem GdAt.congr {W : World} {b : Nat} {f g : Nat → Int} (h : GdAt W b f) (e : ∀ j, j < 64 → f j = g j) : GdAt W b g := by unfold GdAt at *; rw [h, gridA_congr e]
theorem GdAt.row {W : World} {b : Nat} {f : Nat → Int} (h : GdAt W b f) (g : Nat → Int) : GdAt (W.setRow b (gridA g)) b g := setRow_heap W b _ _ _ _ h
theorem GdAt.row_other {W : World} {b c : Nat} {f : Nat → Int} (h : GdAt W b f) (hc : b ≠ c) (cs : Array Value) : GdAt (W.setRow c cs) b f := h.of_heap (setRow_other W c b cs hc)
theorem below_row {B g : Nat} {w0 w : World} (hb : Below B w0 w) (hBg : B ≤ g) (cs : Array Value) : Below B w0 (w.setRow g cs) := below_setRow hb hBg cs

/-- The table's numbers as a grid. -/
def gT (N : Nat) (zs : List Int) : Nat → Int := fun p => if p / 8 < N ∧ p % 8 < N then atT N zs (p / 8) (p % 8) else 0
/-- The same, the first j of them. -/
def gTj (N : Nat) (zs : List Int) (j : Nat) : Nat → Int := fun p => if p / 8 < N ∧ p % 8 < N ∧ p / 8 * N + p % 8 < j then atT N zs (p / 8) (p % 8) else 0
theorem gTj_zero (N : Nat) (zs : List Int) : gTj N zs 0 = fun _ => 0 := by funext p; simp [gTj]
theorem gTj_all {N : Nat} (zs : List Int) : gTj N zs (N * N) = gT N zs := by
  funext p; unfold gTj gT
  by_cases h : p / 8 < N ∧ p % 8 < N
  · rw [if_pos ⟨h.1, h.2, at_lt h.1 h.2⟩, if_pos h]
  · rw [if_neg h, if_neg (fun k => h ⟨k.1, k.2.1⟩)]
theorem gTj_next {N : Nat} (zs : List Int) {j : Nat} (hN : N ≤ 8) (hj : j < N * N) : upf (gTj N zs j) (j / N * 8 + j % N) (zs[j]?.getD 0) = gTj N zs (j + 1) := by
  have hN0 : 0 < N := by rcases Nat.eq_zero_or_pos N with h | h
                         · subst h; omega
                         · exact h
  have hi : j / N < N := Nat.div_lt_of_lt_mul hj
  have hk : j % N < N := Nat.mod_lt _ hN0
  have he : j / N * N + j % N = j := by rw [Nat.mul_comm]; exact Nat.div_add_mod j N
  funext p
  unfold upf
  by_cases e : p = j / N * 8 + j % N
  · have e1 : p / 8 = j / N := by omega
    have e2 : p % 8 = j % N := by omega
    rw [if_pos e]
    unfold gTj
    rw [e1, e2, if_pos ⟨hi, hk, by omega⟩]
    unfold atT; rw [he]
  · rw [if_neg e]
    unfold gTj
    by_cases h : p / 8 < N ∧ p % 8 < N ∧ p / 8 * N + p % 8 < j
    · rw [if_pos h, if_pos ⟨h.1, h.2.1, by omega⟩]
    · rw [if_neg h, if_neg]
      intro k
      apply h
      refine ⟨k.1, k.2.1, ?_⟩
      rcases Nat.lt_or_ge (p / 8 * N + p % 8) j with h | h
      · exact h
      · exfalso
        have hq : p / 8 * N + p % 8 = j := by omega
        have d1 : j / N = p / 8 := by rw [← hq, Nat.mul_comm, Nat.mul_add_div hN0, Nat.div_eq_of_lt k.2.1]; rfl
        have d2 : j % N = p % 8 := by rw [← hq, Nat.mul_comm, Nat.mul_add_mod]; exact Nat.mod_eq_of_lt k.2.1
        apply e; omega

end Go.Proofs.Yteppmlepbfjnpaa

namespace Go.Proofs.Yteppmlepbfjnpaa
set_option linter.unusedVariables false

/-- A world of the class C. -/
structure WC (C : World → Prop) where
  w : World
  h : C w

theorem region_wc {P : Program} (C : World → Prop) {id : Nat} {Q : Exit → Act → World → Prop} {a : Act} {w : World} {l : List Oper} (hm : P.follows .mixedOrders = true) (hB : Region.lexB .any l.toArray = true)
    (hC : C w.drew) (h : wpQuiet P l.toArray (fun w' => ∃ x : WC C, w' = x.w) (fun a' => ∀ w', (∃ x : WC C, w' = x.w) → Q .normal a' w') l a) : (Code.region id l.toArray true).wp P Q a w :=
  wp_region_quiet (C := fun w' => ∃ x : WC C, w' = x.w) hm hB ⟨⟨_, hC⟩, rfl⟩ (by simpa using h)

/-- A callee's contract, met in a world of the class. -/
theorem wc_calls {P : Program} {C : World → Prop} {f : FuncId} {args : Array Value} {x : WC C} {v : Value} (h : Calls P f args x.w fun e w' => e = .returned v ∧ C w') :
    Calls P f args x.w fun e w' => e = .returned v ∧ ∃ y : WC C, w' = y.w :=
  h.mono fun _ _ ⟨he, hc⟩ => ⟨he, ⟨_, hc⟩, rfl⟩

end Go.Proofs.Yteppmlepbfjnpaa

namespace Go.Proofs.Yteppmlepbfjnpaa
open Go.RowKit
set_option linter.unusedVariables false
set_option linter.unusedSimpArgs false

theorem run_forAll {P : Program} (w : World) (F : Nat → Sem Bool) (eq : Nat → Bool) (k : Option Bool × Unit → World → Result Bool) (k0 : k (none, ()) w = .ok true w) (k1 : k (some false, ()) w = .ok false w) : ∀ (L : List Nat), (∀ i ∈ L, (F i).run P w = .ok (eq i) w) →
    ((forIn L ((none : Option Bool), ()) fun i _ => do
      let r ← F i
      if (!r) = true then pure (ForInStep.done (some false, ())) else pure (ForInStep.yield (none, ())) : Sem (Option Bool × Unit)).run P w).andThen k = .ok (L.all eq) w := by
  intro L
  induction L with
  | nil => intro _; simpa using k0
  | cons i L ih =>
    intro h
    have hi := h i (by simp)
    have ih := ih (fun k hk => h k (by simp [hk]))
    rw [List.forIn_cons, Sem.run_bind, Sem.run_bind, hi]
    simp only [Result.andThen_ok]
    cases he : eq i with
    | false => simpa [he] using k1
    | true => simpa [he] using ih

theorem run_equalIn_arr {P : Program} (w : World) (d : Nat) (t e : TypeId) (n s : Nat) (xs ys : Array Value) (eq : Nat → Bool) (ht : P.underlying t = some (.array n e)) (hs : (P.info? e).map (·.size) = some s)
    (h : ∀ i, i < n → (do let a ← part e xs (i * s); let b ← part e ys (i * s); Op.equalIn d e a b : Sem Bool).run P w = .ok (eq i) w) :
    (Op.equalIn (d + 1) t (.agg xs) (.agg ys)).run P w = .ok ((List.range n).all eq) w := by
  cases hq : P.info? e with
  | none => simp [hq] at hs
  | some inf =>
    have hsz : inf.size = s := by simpa [hq] using hs
    have hso : (sizeOf e).run P w = .ok s w := by simp [sizeOf, typeInfo, hq, hsz]
    simp only [Op.equalIn, Sem.run_bind, run_underlying ht, Result.andThen_ok, hso]
    have e1 : (forIn [:n] ((none : Option Bool), ()) fun i __s => (do
            let a ← part e xs (i * s)
            let b ← part e ys (i * s)
            let r ← Op.equalIn d e a b
            if (!r) = true then pure (ForInStep.done (some false, ())) else pure (ForInStep.yield (none, ())) : Sem (ForInStep (Option Bool × Unit)))) =
        forIn (List.range n) ((none : Option Bool), ()) fun i _ => (do
            let r ← (do let a ← part e xs (i * s); let b ← part e ys (i * s); Op.equalIn d e a b : Sem Bool)
            if (!r) = true then pure (ForInStep.done (some false, ())) else pure (ForInStep.yield (none, ()))) := by
      rw [Std.Legacy.Range.forIn_eq_forIn_range']
      simp [List.range_eq_range', Std.Legacy.Range.size]
    rw [e1]
    exact run_forAll w _ eq _ rfl rfl (List.range n) (fun i hi => h i (by simpa using hi))

theorem part_int {P : Program} (w : World) (e : TypeId) (cs : Array Value) (o : Nat) (v : Value) (k : IntKind) (he : P.underlying e = some (.int k)) (hv : cs[o]? = some v) : (part e cs o).run P w = .ok v w := by
  have ha : (isAgg e).run P w = .ok false w := by unfold isAgg; rw [Sem.run_bind, run_underlying he w]; rfl
  simp [part, Sem.run_bind, ha, hv]
theorem part_arr {P : Program} (w : World) (e e' : TypeId) (n s : Nat) (cs : Array Value) (o : Nat) (he : P.underlying e = some (.array n e')) (hs : (P.info? e).map (·.size) = some s) : (part e cs o).run P w = .ok (.agg (cs.extract o (o + s))) w := by
  cases hq : P.info? e with
  | none => simp [hq] at hs
  | some inf =>
    have hsz : inf.size = s := by simpa [hq] using hs
    have ha : (isAgg e).run P w = .ok true w := by unfold isAgg; rw [Sem.run_bind, run_underlying he w]; rfl
    simp [part, Sem.run_bind, ha, sizeOf, typeInfo, hq, hsz]

def eqGd (f g : Nat → Int) : Bool := (List.range 8).all fun i => (List.range 8).all fun k => f (i * 8 + k) == g (i * 8 + k)
theorem size_row : (Try.prog.info? 104).map (·.size) = some 8 := by kernel_rfl
theorem size_int : (Try.prog.info? 3).map (·.size) = some 1 := by kernel_rfl
theorem run_eqGd (d : Nat) (f g : Nat → Int) (w : World) : (Op.equalIn (d + 1 + 1 + 1) 121 (.agg (gridA f)) (.agg (gridA g))).run Try.prog w = .ok (eqGd f g) w := by
  unfold eqGd
  refine run_equalIn_arr w (d + 1 + 1) 121 104 8 8 _ _ _ Try.underlying121 size_row ?_
  intro i hi
  rw [Sem.run_bind, part_arr w _ 3 8 8 _ _ Try.underlying104 size_row, Result.andThen_ok, Sem.run_bind, part_arr w _ 3 8 8 _ _ Try.underlying104 size_row, Result.andThen_ok]
  refine run_equalIn_arr w (d + 1) 104 3 8 1 _ _ _ Try.underlying104 size_int ?_
  intro k hk
  have hc : ∀ h : Nat → Int, ((gridA h).extract (i * 8) (i * 8 + 8))[k * 1]? = some (.int .i64 (h (i * 8 + k))) := by
    intro h
    rw [Array.getElem?_extract, if_pos (by rw [gridA_size]; omega), Nat.mul_one, gridA_at h (by omega)]
  rw [Sem.run_bind, part_int w _ _ _ _ .i64 Try.underlying3 (hc f), Result.andThen_ok, Sem.run_bind, part_int w _ _ _ _ .i64 Try.underlying3 (hc g), Result.andThen_ok]
  exact run_equalIn_int w d _ _ _ _ _ Try.underlying3
theorem run_eql_grid (f g : Nat → Int) (w : World) : (binOp .eql 121 (.agg (gridA f)) (.agg (gridA g))).run Try.prog w = .ok (.bool (eqGd f g)) w := by
  rw [run_eql_struct, run_eqGd 9997]; rfl
theorem guard_grid (x y : Operand) (f g : Nat → Int) (w : World) : (eqGuard .eql 121 x y (.agg (gridA f)) (.agg (gridA g))).run Try.prog w = .ok () w :=
  run_eqGuard_agg w .eql _ x y _ _ (by kernel_rfl)
theorem eqGd_iff (f g : Nat → Int) : eqGd f g = true ↔ ∀ j, j < 64 → f j = g j := by
  unfold eqGd
  simp only [List.all_eq_true, List.mem_range, beq_iff_eq]
  constructor
  · intro h j hj
    have := h (j / 8) (by omega) (j % 8) (by omega)
    rw [show j / 8 * 8 + j % 8 = j from by omega] at this
    exact this
  · intro h i hi k hk
    exact h _ (by omega)

/-! ### Operations of a quiet walk -/
theorem quiet_load_row {P : Program} {C : World → Prop} {o : Oper} {a : Act} {K : Act → Prop} (ty : TypeId) (x : Operand) (ho : o.op = .load ty x) (g : Nat) (hx : a.eval x = .pointer (some ⟨g, 0, none⟩)) (t : TypeId) (cs : Array Value) (fr : Nat × Nat) (d : TypeDesc)
    (hg : ∀ w, C w → w.heap[g]? = some (.cells cs t fr)) (hu : P.underlying ty = some d) (hd : (match d with | .struct _ | .array _ _ => true | _ => false) = true) (hi : (P.info? ty).map (·.size) = some cs.size)
    (h : K (a.put o.dst (.agg cs))) : o.quiet P a C K := by
  refine ⟨.agg cs, fun w hw => ?_, h⟩
  unfold Oper.quietAt execOp
  simp only [ho, hx, Instr.loadAt, Instr.sureAddr, Sem.run_bind, Sem.run_pure, Result.andThen_ok, run_loadVar_row w g t ty cs fr d (hg w hw) hu hd hi]
  exact ⟨rfl, rfl⟩
theorem quiet_eql_grid {C : World → Prop} {o : Oper} {a : Act} {K : Act → Prop} (x y : Operand) (rt : TypeId) (ho : o.op = .binOp .eql 121 x y rt) (f g : Nat → Int) (hx : a.eval x = .agg (gridA f)) (hy : a.eval y = .agg (gridA g))
    (h : K (a.put o.dst (.bool (eqGd f g)))) : o.quiet Try.prog a C K := by
  refine ⟨.bool (eqGd f g), fun w hw => ?_, h⟩
  unfold Oper.quietAt execOp
  simp only [ho, hx, hy, Sem.run_bind, guard_grid, run_eql_grid, Result.andThen_ok, Sem.run_pure]
  exact ⟨rfl, rfl⟩

end Go.Proofs.Yteppmlepbfjnpaa

namespace Go.Proofs.Yteppmlepbfjnpaa
open Go.RowKit
set_option linter.unusedVariables false
set_option linter.unusedSimpArgs false

end Go.Proofs.Yteppmlepbfjnpaa

namespace Go.Proofs.Yteppmlepbfjnpaa
open Go.RowKit
set_option linter.unusedVariables false
set_option linter.unusedSimpArgs false

/-- The least of the number and of the ways over the first J nodes. -/
def mnT (f : Nat → Int) (a b : Nat) : Nat → Int
  | 0 => f (a * 8 + b)
  | J + 1 => if mnT f a b J ≤ addI (f (a * 8 + J)) (f (J * 8 + b)) then mnT f a b J else addI (f (a * 8 + J)) (f (J * 8 + b))
/-- The grid when the loops stand at i, j, k. -/
def shS (N : Nat) (f : Nat → Int) (i j k : Nat) : Nat → Int := fun p =>
  if p / 8 < N ∧ p % 8 < N then (if p / 8 < i then mnT f (p / 8) (p % 8) N else if p / 8 = i then (if p % 8 < k then mnT f (p / 8) (p % 8) (j + 1) else mnT f (p / 8) (p % 8) j) else f p) else f p
theorem split8 (p : Nat) : p / 8 * 8 + p % 8 = p := by omega
theorem mnT_zero (f : Nat → Int) (p : Nat) : mnT f (p / 8) (p % 8) 0 = f p := by simp [mnT, split8]
theorem shS_start (N : Nat) (f : Nat → Int) : shS N f 0 0 0 = f := by
  funext p; unfold shS
  split
  · rw [if_neg (by omega)]
    split
    · rw [if_neg (by omega), mnT_zero]
    · rfl
  · rfl
theorem shS_row (N : Nat) (f : Nat → Int) (i j : Nat) : shS N f i j N = shS N f i (j + 1) 0 := by
  funext p; unfold shS
  by_cases h : p / 8 < N ∧ p % 8 < N
  · rw [if_pos h, if_pos h]
    split
    · rfl
    · split
      · rw [if_pos h.2, if_neg (by omega)]
      · rfl
  · rw [if_neg h, if_neg h]
theorem shS_plane (N : Nat) (f : Nat → Int) (i : Nat) : shS N f i N 0 = shS N f (i + 1) 0 0 := by
  funext p; unfold shS
  by_cases h : p / 8 < N ∧ p % 8 < N
  · rw [if_pos h, if_pos h]
    by_cases h1 : p / 8 < i
    · rw [if_pos h1, if_pos (by omega)]
    · rw [if_neg h1]
      by_cases h2 : p / 8 = i
      · rw [if_pos h2, if_neg (by omega), if_pos (by omega)]
      · rw [if_neg h2, if_neg (by omega)]
        by_cases h3 : p / 8 = i + 1
        · rw [if_pos h3, if_neg (by omega), mnT_zero]
        · rw [if_neg h3]
  · rw [if_neg h, if_neg h]
theorem shS_at {N i j k : Nat} (f : Nat → Int) (hN : N ≤ 8) (hi : i < N) (hk : k < N) : shS N f i j k (i * 8 + k) = mnT f i k j := by
  unfold shS
  have e1 : (i * 8 + k) / 8 = i := by omega
  have e2 : (i * 8 + k) % 8 = k := by omega
  rw [e1, e2, if_pos ⟨hi, hk⟩, if_neg (by omega), if_pos rfl, if_neg (by omega)]
theorem shS_next {N i j k : Nat} (f : Nat → Int) (hN : N ≤ 8) (hi : i < N) (hk : k < N) {r : Int} (hr : r = mnT f i k (j + 1)) : upf (shS N f i j k) (i * 8 + k) r = shS N f i j (k + 1) := by
  funext p; unfold upf
  by_cases e : p = i * 8 + k
  · have e1 : p / 8 = i := by omega
    have e2 : p % 8 = k := by omega
    rw [if_pos e]; unfold shS
    rw [e1, e2, if_pos ⟨hi, hk⟩, if_neg (by omega), if_pos rfl, if_pos (by omega), hr]
  · rw [if_neg e]; unfold shS
    by_cases h : p / 8 < N ∧ p % 8 < N
    · rw [if_pos h, if_pos h]
      by_cases h1 : p / 8 < i
      · rw [if_pos h1, if_pos h1]
      · rw [if_neg h1, if_neg h1]
        by_cases h2 : p / 8 = i
        · rw [if_pos h2, if_pos h2]
          by_cases h3 : p % 8 < k
          · rw [if_pos h3, if_pos (by omega)]
          · rw [if_neg h3, if_neg (by omega)]
        · rw [if_neg h2, if_neg h2]
    · rw [if_neg h, if_neg h]
def shF (N : Nat) (f : Nat → Int) : Nat → Int := shS N f N 0 0

end Go.Proofs.Yteppmlepbfjnpaa

namespace Go.Proofs.Yteppmlepbfjnpaa
open Go.RowKit
set_option linter.unusedVariables false
set_option linter.unusedSimpArgs false

def tgA (f : Nat → Int) (u v : Nat) (c : Int) (a b : Nat) : Int :=
  if f (a * 8 + b) ≤ addI (addI (f (a * 8 + u)) c) (f (v * 8 + b)) then f (a * 8 + b) else addI (addI (f (a * 8 + u)) c) (f (v * 8 + b))
def tgS (N : Nat) (f : Nat → Int) (u v : Nat) (c : Int) (i k : Nat) : Nat → Int := fun p =>
  if p / 8 < N ∧ p % 8 < N ∧ (p / 8 < i ∨ (p / 8 = i ∧ p % 8 < k)) then tgA f u v c (p / 8) (p % 8) else f p
theorem tgS_start (N : Nat) (f : Nat → Int) (u v : Nat) (c : Int) : tgS N f u v c 0 0 = f := by
  funext p; unfold tgS; rw [if_neg (by omega)]
theorem tgS_row (N : Nat) (f : Nat → Int) (u v : Nat) (c : Int) (i : Nat) : tgS N f u v c i N = tgS N f u v c (i + 1) 0 := by
  funext p; unfold tgS
  by_cases h : p / 8 < N ∧ p % 8 < N ∧ p / 8 < i + 1
  · rw [if_pos (by omega), if_pos (by omega)]
  · rw [if_neg (by omega), if_neg (by omega)]
theorem tgS_next {N i k : Nat} (f : Nat → Int) (u v : Nat) (c : Int) (hN : N ≤ 8) (hi : i < N) (hk : k < N) : upf (tgS N f u v c i k) (i * 8 + k) (tgA f u v c i k) = tgS N f u v c i (k + 1) := by
  funext p; unfold upf
  by_cases e : p = i * 8 + k
  · have e1 : p / 8 = i := by omega
    have e2 : p % 8 = k := by omega
    rw [if_pos e]; unfold tgS
    rw [e1, e2, if_pos (by omega)]
  · rw [if_neg e]; unfold tgS
    by_cases h : p / 8 < N ∧ p % 8 < N ∧ (p / 8 < i ∨ (p / 8 = i ∧ p % 8 < k))
    · rw [if_pos h, if_pos (by omega)]
    · rw [if_neg h, if_neg (by omega)]
def tgF (N : Nat) (f : Nat → Int) (u v : Nat) (c : Int) : Nat → Int := tgS N f u v c N 0

end Go.Proofs.Yteppmlepbfjnpaa

namespace Go.Proofs.Yteppmlepbfjnpaa
open Go.RowKit
set_option linter.unusedVariables false
set_option linter.unusedSimpArgs false

def rowG (N : Nat) (f : Nat → Int) (i : Nat) : List Int := (List.range N).map fun k => f (i * 8 + k)
def tabG (N : Nat) (f : Nat → Int) (j : Nat) : List Int := (List.range j).flatMap (rowG N f)
theorem tabG_next (N : Nat) (f : Nat → Int) (j : Nat) : tabG N f (j + 1) = tabG N f j ++ rowG N f j := by unfold tabG; rw [List.range_succ, List.flatMap_append]; simp
theorem rowG_length (N : Nat) (f : Nat → Int) (i : Nat) : (rowG N f i).length = N := by simp [rowG]
theorem tabG_length (N : Nat) (f : Nat → Int) (j : Nat) : (tabG N f j).length = j * N := flat_length (rowG_length N f) j
theorem own_drew {w : World} {B e s n : Nat} {v : Value} {xs : List Value} (h : w.ownsRow B e s v n xs) : w.drew.ownsRow B e s v n xs :=
  h.kept (row := none) ⟨rfl, rfl, rfl, Nat.le_refl _, fun _ _ _ => rfl⟩ (by
    cases hb : v.ownBlock with
    | none => exact .inl rfl
    | some g => exact .inr (by simp))
theorem grown_cell {w w' : World} {row : Option Nat} (hg : w.grownBy w' row) {b o : Nat} {v : Value} (h : w.cell? ⟨b, o, none⟩ = some v) (hr : row ≠ some b) : w'.cell? ⟨b, o, none⟩ = some v :=
  (World.cell?_of_block (a := ⟨b, o, none⟩) (hg.block b (block_lt_of_cell (a := ⟨b, o, none⟩) h) (fun e => hr e.symm))).trans h
theorem grown_free {w w' : World} {row : Option Nat} (hg : w.grownBy w' row) {b o : Nat} (hb : b < w.heap.size) (h : w.frozen? ⟨b, o, none⟩ = false) (hr : row ≠ some b) : w'.frozen? ⟨b, o, none⟩ = false :=
  (World.frozen?_of_block (a := ⟨b, o, none⟩) (hg.block b hb (fun e => hr e.symm))).trans h

set_option maxRecDepth 100000 in
set_option maxHeartbeats 4000000 in
theorem table_any (N : Nat) (f : Nat → Int) (w : World) (hN : N ≤ 8) :
    Calls Try.prog 96 #[.agg (gridA f), .int .i64 N] w fun e w' => ∃ A c, e = .returned (grV N A (N * N) c) ∧ w'.ownsRow w.heap.size 3 1 (.slice A (N * N) c) (N * N) ((tabG N f N).map intV) ∧ Below w.heap.size w w' := by
  obtain ⟨i0, hi, hz0, hz1, hz2⟩ := info_parts Try.info3
  have h64 := sq_le hN
  go_enter Try.func96, Try.ntmps96
  go_wp2_with fail
  go_loopw [10] (fun i wr => ∃ (j s : Nat) (A : Option Addr) (c : Nat), j ≤ N ∧ i = .int .i64 j ∧ s = j * N ∧ GdAt wr w.heap.size f ∧ wr.cell? ⟨w.heap.size + 1, 0, none⟩ = some (.int .i64 0) ∧ wr.cell? ⟨w.heap.size + 1, 1, none⟩ = some (.slice none 0 0) ∧ wr.frozen? ⟨w.heap.size + 1, 0, none⟩ = false ∧ wr.frozen? ⟨w.heap.size + 1, 1, none⟩ = false ∧ wr.cell? ⟨w.heap.size + 1 + 1, 0, none⟩ = some (.int .i64 N) ∧ wr.cell? ⟨w.heap.size + 1 + 1, 1, none⟩ = some (.slice A s c) ∧ wr.frozen? ⟨w.heap.size + 1 + 1, 1, none⟩ = false ∧ wr.ownsRow (w.heap.size + 1 + 1 + 1) 3 1 (.slice A s c) s ((tabG N f j).map intV) ∧ w.heap.size + 1 + 1 < wr.heap.size ∧ Below w.heap.size w wr) (fun i _ => N - (intOf i).toNat)
  case atStart => exact ⟨0, 0, none, 0, Nat.zero_le _, rfl, by simp, (((GdAt.new w f).alloc _).alloc _), by go_simp, by go_simp, by go_simp, by go_simp, by go_simp, by go_simp, by go_simp, by exact World.ownsRow_nil _ _ _ _, by simp, (by repeat (first | exact Below.refl _ _ | refine below_step (by assumption) (by first | omega | (simp; done) | (simp; omega)) ?_ | refine below_drewN ?_ _ | refine Below.drew ?_ | refine Below.setCell ?_ (by first | omega | (simp; done) | (simp; omega)) _ | refine Below.alloc ?_ (by first | omega | (simp; done) | (simp; omega)) _))⟩
  case round =>
    obtain ⟨j, s, A, c, hj, rfl, hs, hG, r0, r1, g0, g1, t0, t1, t2, hown, hsz, hbw⟩ := hrel
    have hs64 : s + N ≤ 72 := by have h1 : j * N ≤ N * N := Nat.mul_le_mul_right N hj
                                 omega
    by_cases hjN : j < N
    · have HSJ := Lib.hid hs
      have HG := Lib.hid hG
      have HOW := Lib.hid (own_drew hown)
      have hjj : (j : Int) < 8 := by omega
      have hN8 : (N : Int) ≤ 8 := by omega
      have hlt2 : ∀ q, (Value.slice A s c).ownBlock = some q → w.heap.size + 1 + 1 + 1 ≤ q := fun q hq => (hown.lt q hq).1
      have hnb1 : (Value.slice A s c).ownBlock ≠ some (w.heap.size + 1 + 1) := fun h => by have := hlt2 _ h; omega
      have hnb0 : (Value.slice A s c).ownBlock ≠ some (w.heap.size + 1) := fun h => by have := hlt2 _ h; omega
      have hnbd : (Value.slice A s c).ownBlock ≠ some (w.heap.size) := fun h => by have := hlt2 _ h; omega
      have hnews : ∀ (q : Nat) (u : Value), ((rowG N f j).map intV)[q]? = some u → (World.drew wr).cell? ((⟨w.heap.size, j * 8, none⟩ : Addr).add q) = some u := by
        intro q u hq
        have hq2 : q < N := by
          rcases Nat.lt_or_ge q N with h | h
          · exact h
          · rw [List.getElem?_eq_none (by simp [rowG]; omega)] at hq; cases hq
        have : ((rowG N f j).map intV)[q]? = some (intV (f (j * 8 + q))) := by simp [rowG, hq2]
        rw [this] at hq
        injection hq with hq
        rw [← hq]
        rw [Go.WideShapes.add_plain]
        exact HG.out.drew.cell (j := j * 8 + q) (by omega)
      have HNW := Lib.hid hnews
      clear hnews hG hown hs
      go_wp2_with fail
      refine wp_region_still_tail 6 (by kernel_rfl) (by kernel_rfl) ?_
      change wpStill _ _ (World.drew _) _ _ _
      simp only [List.take_succ_cons, List.take_zero, List.drop_succ_cons, List.drop_zero]
      repeat still_step
      refine wpStill_nil ?_
      change wpList _ _ _ _ _ (World.drew _)
      go_wp2_with (at_builtin; refine wpList_append_lies _ rfl _ _ 33 rfl (w.heap.size + 1 + 1 + 1) 3 i0 (.int .i64 0) 1 8 Try.underlying33 hi hz0 hz1 hz2 rfl (by decide) _ _ _ rfl HOW.out ⟨w.heap.size, j * 8, none⟩ N _ ((rowG N f j).map intV) rfl ?c1 HNW.out ?c2 ?c3 ?c4 ?c5 ?c6 _ rfl ?_)
      case c1 => simp [rowG]
      case c2 => intro u hu; simp [rowG] at hu; obtain ⟨_, _, rfl⟩ := hu; rfl
      case c3 => omega
      case c4 => unfold maxLen; omega
      case c5 => omega
      case c6 => simp; omega
      intro g cap w3 ho3 hg3 hat hl3
      have G3 : GdAt w3 w.heap.size f := HG.out.drew.of_heap (hg3.block _ (by simpa using HG.out.lt) (fun e => hnbd e.symm))
      have q0 := grown_cell hg3 (b := w.heap.size + 1) (o := 0) (v := .int .i64 0) (by simpa using r0) hnb0
      have q1 := grown_cell hg3 (b := w.heap.size + 1) (o := 1) (v := .slice none 0 0) (by simpa using r1) hnb0
      have p0 := grown_free hg3 (b := w.heap.size + 1) (o := 0) (by simp; omega) (by simpa using g0) hnb0
      have p1 := grown_free hg3 (b := w.heap.size + 1) (o := 1) (by simp; omega) (by simpa using g1) hnb0
      have s0 := grown_cell hg3 (b := w.heap.size + 1 + 1) (o := 0) (v := .int .i64 N) (by simpa using t0) hnb1
      have s1 := grown_cell hg3 (b := w.heap.size + 1 + 1) (o := 1) (v := .slice A s c) (by simpa using t1) hnb1
      have s2 := grown_free hg3 (b := w.heap.size + 1 + 1) (o := 1) (by simp; omega) (by simpa using t2) hnb1
      have hsz3 : w.heap.size + 1 + 1 < w3.heap.size := by have := hg3.size; simp at this; omega
      have B3 : Below w.heap.size w w3 := (hbw.drew).grown hg3 (by have := hbw.size; simpa using this) (fun q hq => by have := hlt2 q hq; omega)
      rw [← List.map_append, ← tabG_next] at ho3
      have HO3 := Lib.hid ho3
      have G3 := Lib.hid G3
      clear hg3 hat HOW HNW r0 r1 g0 g1 t0 t1 t2 ho3 HG
      go_wp2_with fail
      go_roundw
      case rel => exact ⟨j + 1, s + N, some ⟨g, 0, none⟩, cap, by omega, by go_num, by rw [HSJ.out, Nat.succ_mul], G3.out.other (by dsimp only; omega) _, by go_simp, by go_simp, by go_simp, by go_simp, by go_simp, by go_simp, by go_simp, own_set HO3.out _ _ (by dsimp only; omega), by simpa [World.setCell] using hsz3, (by repeat (first | exact Below.refl _ _ | refine below_step (by assumption) (by first | omega | (simp; done) | (simp; omega)) ?_ | refine below_drewN ?_ _ | refine Below.drew ?_ | refine Below.setCell ?_ (by first | omega | (simp; done) | (simp; omega)) _ | refine Below.alloc ?_ (by first | omega | (simp; done) | (simp; omega)) _))⟩
      case measure => simp [intOf]; omega
    · have hjn : j = N := by omega
      subst hjn
      subst hs
      go_wp2_with fail
      refine bodyPost_ret (v := grV j A (j * j) c) (by simp [results, Try.results96, go_sem, grV, *]) rfl ⟨A, c, rfl, ?_, ?_⟩
      · refine own_base (B := w.heap.size + 1 + 1 + 1) ?_ (by omega)
        repeat (refine own_set ?_ _ _ (by simp))
        exact hown
      · exact (by repeat (first | exact Below.refl _ _ | refine below_step (by assumption) (by first | omega | (simp; done) | (simp; omega)) ?_ | refine below_drewN ?_ _ | refine Below.drew ?_ | refine Below.setCell ?_ (by first | omega | (simp; done) | (simp; omega)) _ | refine Below.alloc ?_ (by first | omega | (simp; done) | (simp; omega)) _))

end Go.Proofs.Yteppmlepbfjnpaa

namespace Go.Proofs.Yteppmlepbfjnpaa
open Go.RowKit
set_option linter.unusedVariables false
set_option linter.unusedSimpArgs false

theorem mnT_le (f : Nat → Int) (a b : Nat) : ∀ J, mnT f a b J ≤ f (a * 8 + b) ∧ (∀ j, j < J → mnT f a b J ≤ addI (f (a * 8 + j)) (f (j * 8 + b))) ∧ (mnT f a b J = f (a * 8 + b) ∨ ∃ j, j < J ∧ mnT f a b J = addI (f (a * 8 + j)) (f (j * 8 + b)))
  | 0 => ⟨Int.le_refl _, fun j h => by omega, .inl rfl⟩
  | J + 1 => by
    obtain ⟨h1, h2, h3⟩ := mnT_le f a b J
    unfold mnT
    split
    · rename_i h
      refine ⟨h1, fun j hj => ?_, ?_⟩
      · by_cases e : j = J
        · subst e; exact h
        · exact h2 j (by omega)
      · rcases h3 with h3 | ⟨j, hj, h3⟩
        · exact .inl h3
        · exact .inr ⟨j, by omega, h3⟩
    · rename_i h
      refine ⟨by omega, fun j hj => ?_, .inr ⟨J, by omega, rfl⟩⟩
      by_cases e : j = J
      · subst e; omega
      · have := h2 j (by omega); omega
theorem mnT_same (f : Nat → Int) (a b J : Nat) : mnT f a b J = f (a * 8 + b) ↔ ∀ j, j < J → f (a * 8 + b) ≤ addI (f (a * 8 + j)) (f (j * 8 + b)) := by
  obtain ⟨h1, h2, h3⟩ := mnT_le f a b J
  constructor
  · intro h j hj; rw [← h]; exact h2 j hj
  · intro h
    rcases h3 with h3 | ⟨j, hj, h3⟩
    · exact h3
    · have := h j hj; omega
theorem gT_at {N : Nat} (zs : List Int) (hN : N ≤ 8) {i k : Nat} (hi : i < N) (hk : k < N) : gT N zs (i * 8 + k) = atT N zs i k := by
  unfold gT
  rw [show (i * 8 + k) / 8 = i from by omega, show (i * 8 + k) % 8 = k from by omega, if_pos ⟨hi, hk⟩]
theorem shF_at {N : Nat} (f : Nat → Int) {p : Nat} (h : p / 8 < N ∧ p % 8 < N) : shF N f p = mnT f (p / 8) (p % 8) N := by
  unfold shF shS; rw [if_pos h, if_pos h.1]
theorem shF_out {N : Nat} (f : Nat → Int) {p : Nat} (h : ¬ (p / 8 < N ∧ p % 8 < N)) : shF N f p = f p := by
  unfold shF shS; rw [if_neg h]
theorem closed_iff {N : Nat} {zs : List Int} (h : okT N zs = true) : closedR N zs = true ↔ ∀ i, i < N → ∀ j, j < N → ∀ k, k < N → atT N zs i k ≤ addI (atT N zs i j) (atT N zs j k) := by
  unfold closedR
  rw [h, Bool.true_and]
  simp only [List.all_eq_true, List.mem_range, decide_eq_true_eq, Int.toNat_natCast]
theorem closed_eq {N : Nat} {zs : List Int} (hN : N ≤ 8) (h : okT N zs = true) : closedR N zs = eqGd (gT N zs) (shF N (gT N zs)) := by
  rw [Bool.eq_iff_iff, closed_iff h, eqGd_iff]
  constructor
  · intro h p hp
    by_cases hq : p / 8 < N ∧ p % 8 < N
    · rw [shF_at _ hq]
      have := (mnT_same (gT N zs) (p / 8) (p % 8) N).2 (fun j hj => by
        rw [gT_at zs hN hq.1 hq.2, gT_at zs hN hq.1 hj, gT_at zs hN hj hq.2]
        exact h _ hq.1 _ hj _ hq.2)
      rw [this, split8]
    · rw [shF_out _ hq]
  · intro h i hi j hj k hk
    have h1 := h (i * 8 + k) (by omega)
    have e1 : (i * 8 + k) / 8 = i := by omega
    have e2 : (i * 8 + k) % 8 = k := by omega
    rw [shF_at _ (by rw [e1, e2]; exact ⟨hi, hk⟩), e1, e2] at h1
    have := (mnT_same (gT N zs) i k N).1 h1.symm j hj
    rwa [gT_at zs hN hi hk, gT_at zs hN hi hj, gT_at zs hN hj hk] at this
theorem closedR_no {n : Int} {zs : List Int} (h : okT n zs = false) : closedR n zs = false := by unfold closedR; rw [h, Bool.false_and]

end Go.Proofs.Yteppmlepbfjnpaa

namespace Go.Proofs.Yteppmlepbfjnpaa
open Go.RowKit
set_option linter.unusedVariables false
set_option linter.unusedSimpArgs false

end Go.Proofs.Yteppmlepbfjnpaa

namespace Go.Proofs.Yteppmlepbfjnpaa
open Go.RowKit
set_option linter.unusedVariables false
set_option linter.unusedSimpArgs false

theorem tight_split (n : Int) (cs : List Int) (e : GE) : tightOk n cs e = (closedR n cs && (decide (0 ≤ e.u) && decide (e.u ≤ n - 1)) && (decide (0 ≤ e.v) && decide (e.v ≤ n - 1)) && (decide (-999999 ≤ e.c) && decide (e.c ≤ 999999)) && !decide (addI e.c (atT n.toNat cs e.v.toNat e.u.toNat) < 0)) := by
  unfold tightOk
  have h1 : decide (0 ≤ e.u ∧ e.u < n) = (decide (0 ≤ e.u) && decide (e.u ≤ n - 1)) := by rw [Bool.eq_iff_iff]; simp; omega
  have h2 : decide (0 ≤ e.v ∧ e.v < n) = (decide (0 ≤ e.v) && decide (e.v ≤ n - 1)) := by rw [Bool.eq_iff_iff]; simp; omega
  have h3 : decide (-1000000 < e.c ∧ e.c < 1000000) = (decide (-999999 ≤ e.c) && decide (e.c ≤ 999999)) := by rw [Bool.eq_iff_iff]; simp; omega
  rw [h1, h2, h3]
theorem closedR_ok {n : Int} {cs : List Int} (h : closedR n cs = true) : okT n cs = true := by
  unfold closedR at h; rw [Bool.and_eq_true] at h; exact h.1
/-- The table that comes out, and whether one does. -/
def tgV (n : Int) (A : Option Addr) (k c : Nat) (b : Bool) : Value := .tuple #[grV n A k c, .bool b]
theorem tightR_no {n : Int} {cs : List Int} {e : GE} (h : tightOk n cs e = false) : tightR n cs e = (0, [], false) := by unfold tightR; rw [if_neg (by rw [h]; simp)]
theorem tightR_yes {N : Nat} {cs : List Int} {e : GE} (h : tightOk N cs e = true) : tightR N cs e = ((N : Int), tightC N cs e, true) := by unfold tightR; rw [if_pos h]; simp
def TgEnd (n : Int) (cs : List Int) (e : GE) (w : World) (x : Ending) (w' : World) : Prop :=
  ∃ A k c, x = .returned (tgV (tightR n cs e).1 A k c (tightR n cs e).2.2) ∧ k = (tightR n cs e).2.1.length ∧ w'.ownsRow w.heap.size 3 1 (.slice A k c) k ((tightR n cs e).2.1.map intV) ∧ Below w.heap.size w w'
theorem TgEnd.no {n : Int} {cs : List Int} {e : GE} {w w' : World} (h : tightOk n cs e = false) (hb : Below w.heap.size w w') : TgEnd n cs e w (.returned (.tuple #[.agg #[.int .i64 0, .slice none 0 0], .bool false])) w' := by
  unfold TgEnd; rw [tightR_no h]
  exact ⟨none, 0, 0, rfl, rfl, World.ownsRow_nil _ _ _ _, hb⟩

end Go.Proofs.Yteppmlepbfjnpaa
