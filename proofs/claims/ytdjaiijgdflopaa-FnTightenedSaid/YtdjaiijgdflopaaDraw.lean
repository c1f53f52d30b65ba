/-
  WALKS of the draws: l01New, l01Byte, l01Below, l01Str: what is drawn lies in its range; a draw writes into its own cursor alone.
-/
import Derived.Test.YtdjaiijgdflopaaProg
import Derived.Test.YtdjaiijgdflopaaDig
import Derived.Test.YtdjaiijgdflopaaMark
import Derived.Laws.BitsAllLaws
import Derived.Laws.BitsLemmas
import Derived.Deep.QuietTactic
import Derived.BigQuiet
namespace Go.Proofs.Ytdjaiijgdflopaa
open Go.RowKit
set_option linter.unusedVariables false
set_option linter.unusedSimpArgs false

theorem and_low (y : Int) : 0 ≤ bits .and .i64 y 255 ∧ bits .and .i64 y 255 ≤ 255 := by
  have e : bits .and .i64 y 255 = IntKind.i64.wrap ((BitVec.ofInt 64 y &&& BitVec.ofInt 64 255).toNat : Int) := rfl
  have h1 : (BitVec.ofInt 64 255).toNat = 255 := by decide
  rw [e, BitVec.toNat_and, h1, IntKind.wrap_i64]
  have h2 : (BitVec.ofInt 64 y).toNat &&& 255 ≤ 255 := Nat.and_le_right
  omega

theorem and_mid (y : Int) : 0 ≤ bits .and .i64 y 1073741823 ∧ bits .and .i64 y 1073741823 ≤ 1073741823 := by
  have e : bits .and .i64 y 1073741823 = IntKind.i64.wrap ((BitVec.ofInt 64 y &&& BitVec.ofInt 64 1073741823).toNat : Int) := rfl
  have h1 : (BitVec.ofInt 64 1073741823).toNat = 1073741823 := by decide
  rw [e, BitVec.toNat_and, h1, IntKind.wrap_i64]
  have h2 : (BitVec.ofInt 64 y).toNat &&& 1073741823 ≤ 1073741823 := Nat.and_le_right
  omega

/-- A slice of bytes that is read: nil, or its cells hold bytes, in a block other than g. -/
def Bytes (w : World) (g : Nat) (A : Option Addr) (n : Nat) : Prop :=
  0 < n → ∃ b o, A = some ⟨b, o, none⟩ ∧ b < w.heap.size ∧ b ≠ g ∧ ∀ j, j < n → ∃ z : Int, 0 ≤ z ∧ z ≤ 255 ∧ w.cell? ⟨b, o + j, none⟩ = some (.int .u8 z)
/-- The cursor in block g. -/
def Cur (w : World) (g : Nat) (A : Option Addr) (n c : Nat) : Prop :=
  ∃ (i : Nat) (h : Int), i ≤ n ∧ -9223372036854775808 ≤ h ∧ h ≤ 9223372036854775807 ∧ w.heap[g]? = some (.cells #[.slice A n c, .int .i64 i, .int .i64 h] 108 (0, 0))

theorem Bytes.grown {w w' : World} {g : Nat} {A : Option Addr} {n : Nat} (h : Bytes w g A n) (hg : w.grownBy w' (some g)) : Bytes w' g A n := by
  intro hn
  obtain ⟨b, o, hA, hb, hne, hc⟩ := h hn
  refine ⟨b, o, hA, Nat.lt_of_lt_of_le hb hg.size, hne, fun j hj => ?_⟩
  obtain ⟨z, z0, z1, hz⟩ := hc j hj
  exact ⟨z, z0, z1, (World.cell?_of_block (a := ⟨b, o + j, none⟩) (hg.block b hb (by simpa using hne))).trans hz⟩

theorem row_grown {w : World} {g j : Nat} {u : Value} : w.grownBy (w.setCell ⟨g, j, none⟩ u) (some g) :=
  ⟨rfl, rfl, rfl, by simp, fun k _ hk => heap_setCell_other w ⟨g, j, none⟩ k u (fun e => hk (by simp [e]))⟩
theorem drew_grown {w : World} {r : Option Nat} (q : Nat) : w.grownBy (w.drewN q) r := ⟨rfl, rfl, rfl, Nat.le_refl _, fun _ _ _ => rfl⟩
theorem set_row {w : World} {g j : Nat} {cs : Array Value} {t : TypeId} {fr : Nat × Nat} (hg : w.heap[g]? = some (.cells cs t fr)) (u : Value) :
    (w.setCell ⟨g, j, none⟩ u).heap[g]? = some (.cells (cs.setIfInBounds j u) t fr) := by
  simp [World.setCell, Array.getElem?_modify, hg]
theorem wrap64_rng (x : Int) : -9223372036854775808 ≤ wrap64 x ∧ wrap64 x ≤ 9223372036854775807 := by unfold wrap64; omega

set_option maxRecDepth 100000 in
set_option maxHeartbeats 1000000 in
theorem l01Byte_any (g : Nat) (A : Option Addr) (n c : Nat) (w : World) (hm : n ≤ 1048576) (hcur : Cur w g A n c) (hby : Bytes w g A n) :
    Calls Try.prog 68 #[.pointer (some ⟨g, 0, none⟩)] w fun e w' => ∃ x : Int, e = .returned (.int .i64 x) ∧ 0 ≤ x ∧ x ≤ 255 ∧ Cur w' g A n c ∧ w.grownBy w' (some g) := by
  obtain ⟨i, h, hi, hh0, hh1, hrow⟩ := hcur
  have HROW := Lib.hid hrow
  have HBY := Lib.hid hby
  have c0 := cell_of_row _ _ 0 _ _ _ hrow
  have c1 := cell_of_row _ _ 1 _ _ _ hrow
  have c2 := cell_of_row _ _ 2 _ _ _ hrow
  have f2 := frozen_of_row _ _ 2 _ _ hrow
  simp at c0 c1 c2
  clear hrow hby
  go_enter Try.func68, Try.ntmps68
  go_wp2_with fail
  obtain ⟨H, hH⟩ : ∃ H, H = wrap64 (wrap64 (h * 6364136223846793005) + 1442695040888963407) := ⟨_, rfl⟩
  rw [← hH]
  have hHr := wrap64_rng (wrap64 (h * 6364136223846793005) + 1442695040888963407)
  rw [← hH] at hHr
  obtain ⟨hH0, hH1⟩ := hHr
  generalize hW : w.setCell ⟨g, 2, none⟩ (.int .i64 H) = w1
  have HROW1 : Hid (w1.heap[g]? = some (.cells #[.slice A n c, .int .i64 i, .int .i64 H] 108 (0, 0))) := by
    rw [← hW]
    exact Lib.hid (set_row HROW.out _)
  have G1 : w.grownBy w1 (some g) := by rw [← hW]; exact row_grown
  have HBY1 := Lib.hid (HBY.out.grown G1)
  have c0 := cell_of_row _ _ 0 _ _ _ HROW1.out
  have c1 := cell_of_row _ _ 1 _ _ _ HROW1.out
  have c2 := cell_of_row _ _ 2 _ _ _ HROW1.out
  have f1 := frozen_of_row _ _ 1 _ _ HROW1.out
  simp at c0 c1 c2
  clear hW hH HROW HBY
  go_quiet (fail)
  go_wp2_with fail
  have hX := and_low (bits .xor .i64 (H / 8589934592) (H / 35184372088832))
  generalize bits .and .i64 (bits .xor .i64 (H / 8589934592) (H / 35184372088832)) 255 = X at hX ⊢
  obtain ⟨hX0, hX1⟩ := hX
  by_cases hlt : i < n
  · have hlt2 : (i : Int) < n := by omega
    obtain ⟨b, o, rfl, hb, hne, hc⟩ := HBY1.out (by omega)
    obtain ⟨z, z0, z1, hz⟩ := hc i hlt
    clear hc
    go_quiet (fail)
    go_wp2_with fail
    go_quiet (fail)
    go_wp2_with fail
    go_ret
    have hr2 := set_row (j := 1) HROW1.out (.int .i64 ((i : Int) + 1))
    exact ⟨_, rfl, (and_low _).1, (and_low _).2, ⟨i + 1, H, by omega, hH0, hH1, hr2⟩, grown_trans (grown_trans G1 (drew_grown _)) row_grown⟩
  · have hlt2 : ¬ (i : Int) < n := by omega
    go_quiet (fail)
    go_wp2_with fail
    go_ret
    exact ⟨X, rfl, hX0, hX1, ⟨i, H, hi, hH0, hH1, HROW1.out⟩, grown_trans G1 (drew_grown _)⟩

set_option maxRecDepth 100000 in
set_option maxHeartbeats 1000000 in
/-- A number below n, for n from 1 to 256. -/
theorem l01Below_small (m : Nat) (g : Nat) (A : Option Addr) (n c : Nat) (w : World) (hm0 : 0 < m) (hm1 : m ≤ 256) (hm : n ≤ 1048576) (hcur : Cur w g A n c) (hby : Bytes w g A n) :
    Calls Try.prog 87 #[.pointer (some ⟨g, 0, none⟩), .int .i64 m] w fun e w' => ∃ x : Nat, e = .returned (.int .i64 x) ∧ x < m ∧ Cur w' g A n c ∧ w.grownBy w' (some g) := by
  have HB := Lib.hid (l01Byte_any g A n c w hm hcur hby)
  clear hcur hby
  go_enter Try.func87, Try.ntmps87
  go_wp2_with fail
  refine HB.out.mono ?_
  rintro e w1 ⟨x, rfl, hx0, hx1, hc1, hg1⟩
  have HC := Lib.hid hc1
  have HG := Lib.hid hg1
  clear hc1 hg1
  go_wp2
  go_ret
  refine ⟨(x % m).toNat, ?_, ?_, HC.out, HG.out⟩
  · have : 0 ≤ x % (m : Int) := Int.emod_nonneg _ (by omega)
    rw [Int.toNat_of_nonneg this]; rfl
  · have h1 : x % (m : Int) < m := Int.emod_lt_of_pos _ (by omega)
    have h2 : 0 ≤ x % (m : Int) := Int.emod_nonneg _ (by omega)
    omega

theorem l01New_row (w : World) (A : Option Addr) (n c : Nat) (h : Int) : (w.alloc (.cells #[.slice A n c, .int .i64 0, .int .i64 h] 108)).heap[w.heap.size]? = some (.cells #[.slice A n c, .int .i64 0, .int .i64 h] 108 (0, 0)) := heap_alloc_new w _

set_option maxRecDepth 100000 in
set_option maxHeartbeats 1000000 in
set_option maxRecDepth 100000 in
theorem l01New_any (A : Option Addr) (n c : Nat) (w : World) (hm : n ≤ 1048576) (hby : Bytes w w.heap.size A n) :
    Calls Try.prog 50 #[.slice A n c] w fun e w' => e = .returned (.pointer (some ⟨w.heap.size, 0, none⟩)) ∧ Cur w' w.heap.size A n c ∧ Below w.heap.size w w' := by
  have HBY := Lib.hid hby
  clear hby
  go_enter Try.func50, Try.ntmps50
  go_wp2
  go_loop [3, 4] (fun x i => ∃ (k : Nat) (h : Int), k ≤ n ∧ i = .int .i64 k ∧ x = .int .i64 h ∧ -9223372036854775808 ≤ h ∧ h ≤ 9223372036854775807) (fun _ i => n - (intOf i).toNat)
  case atStart => exact ⟨0, _, Nat.zero_le _, rfl, rfl, by omega, by omega⟩
  case round =>
    obtain ⟨k, h, hk, rfl, rfl, hh0, hh1⟩ := hrel
    by_cases hlt : k < n
    · obtain ⟨b, o, rfl, hb, hne, hc⟩ := HBY.out (by omega)
      obtain ⟨z, z0, z1, hz⟩ := hc k hlt
      clear hc
      by_cases hk4 : k < 4000
      · go_wp2
        go_round
        case rel =>
          have hm2 := and_mid (wrap64 (wrap64 (wrap64 (h * 71) + z) + 7))
          exact ⟨k + 1, _, by omega, by go_num, rfl, by omega, by omega⟩
        case measure => simp [intOf]; omega
      · go_wp2
        go_ret
        exact ⟨rfl, ⟨0, h, Nat.zero_le _, hh0, hh1, l01New_row w _ n c h⟩, (Below.refl _ _).alloc (Nat.le_refl _) _⟩
    · go_wp2
      go_ret
      exact ⟨rfl, ⟨0, h, Nat.zero_le _, hh0, hh1, l01New_row w _ n c h⟩, (Below.refl _ _).alloc (Nat.le_refl _) _⟩

theorem Cur.kept {w w' : World} {g : Nat} {A : Option Addr} {n c : Nat} (h : Cur w g A n c) (hb : w'.heap[g]? = w.heap[g]?) : Cur w' g A n c := by
  obtain ⟨i, x, h1, h2, h3, h4⟩ := h
  exact ⟨i, x, h1, h2, h3, hb.trans h4⟩
theorem Cur.lt {w : World} {g : Nat} {A : Option Addr} {n c : Nat} (h : Cur w g A n c) : g < w.heap.size := by
  obtain ⟨i, x, h1, h2, h3, h4⟩ := h
  exact (Array.getElem?_eq_some_iff.1 h4).1
theorem Cur.alloc {w : World} {g : Nat} {A : Option Addr} {n c : Nat} (h : Cur w g A n c) (o : Obj) : Cur (w.alloc o) g A n c := h.kept (Below.heap_alloc w o g h.lt)
theorem Bytes.below {w w' : World} {g : Nat} {A : Option Addr} {n : Nat} (h : Bytes w g A n) (hb : Below w.heap.size w w') : Bytes w' g A n := by
  intro hn
  obtain ⟨b, o, hA, hlt, hne, hc⟩ := h hn
  have := hb.size
  refine ⟨b, o, hA, by omega, hne, fun j hj => ?_⟩
  obtain ⟨z, z0, z1, hz⟩ := hc j hj
  exact ⟨z, z0, z1, (hb.cell (p := ⟨b, o + j, none⟩) hlt).trans hz⟩
/-- Bytes that lay there when the call began lie in none of its own blocks. -/
theorem Bytes.fresh {w w' : World} {A : Option Addr} {n : Nat} (h : Bytes w' w.heap.size A n) (hb : Below w.heap.size w w') : Bytes w' w'.heap.size A n := by
  intro hn
  obtain ⟨b, o, hA, hlt, hne, hc⟩ := h hn
  exact ⟨b, o, hA, hlt, by omega, hc⟩
theorem Bytes.alloc {w : World} {g : Nat} {A : Option Addr} {n : Nat} (h : Bytes w g A n) (o : Obj) : Bytes (w.alloc o) g A n := h.below ((Below.refl _ _).alloc (Nat.le_refl _) o)

theorem five_row (w : World) (v : Nat → ByteArray) : ∀ j (h : j < [v 0, v 1, v 2, v 3, v 4].length), (w.alloc (.cells #[.string (v 0), .string (v 1), .string (v 2), .string (v 3), .string (v 4)] 9)).cell? ⟨w.heap.size, j, none⟩ = some (.string ([v 0, v 1, v 2, v 3, v 4][j])) := by
  intro j hj
  rw [cell_of_row _ _ j _ _ _ (heap_alloc_new w _)]
  match j, hj with
  | 0, _ => rfl
  | 1, _ => rfl
  | 2, _ => rfl
  | 3, _ => rfl
  | 4, _ => rfl

set_option maxRecDepth 100000 in
set_option maxHeartbeats 1000000 in
theorem l29New_any (m : Nat) (A : Option Addr) (n c : Nat) (w : World) (hm : n ≤ 1048576) (hm2 : m ≤ 65536) (hby : Bytes w w.heap.size A n) :
    Calls Try.prog 67 #[.slice A n c, .int .i64 m] w fun e w' => e = .returned (.pointer (some ⟨w.heap.size, 0, none⟩)) ∧ Cur w' w.heap.size A n c ∧ Below w.heap.size w w' := by
  have HN := Lib.hid (l01New_any A n c w hm hby)
  have HBY := Lib.hid hby
  clear hby
  go_enter Try.func67, Try.ntmps67
  go_wp2_with fail
  refine HN.out.mono ?_
  rintro e w1 ⟨rfl, hc1, b1⟩
  have HB1 := Lib.hid (HBY.out.below b1)
  have HC1 := Lib.hid hc1
  clear hc1
  go_wp2
  go_loopw [6] (fun i wr => ∃ k : Nat, k ≤ m ∧ i = .int .i64 k ∧ Cur wr w.heap.size A n c ∧ Bytes wr w.heap.size A n ∧ Below w.heap.size w wr) (fun i _ => m - (intOf i).toNat)
  case atStart => exact ⟨0, Nat.zero_le _, rfl, HC1.out, HB1.out, b1⟩
  case round =>
    obtain ⟨k, hk, rfl, hc, hb, hbw⟩ := hrel
    by_cases hlt : k < m
    · have HQ := Lib.hid (l01Byte_any w.heap.size A n c wr hm hc hb)
      have HB := Lib.hid hb
      clear hc hb
      go_wp2_with fail
      refine HQ.out.mono ?_
      rintro e w3 ⟨x, rfl, hx0, hx1, hc3, g3⟩
      have b3 := hbw.grown g3 hbw.size (fun k hk => by cases hk; exact Nat.le_refl _)
      have HB3 := Lib.hid (HB.out.grown g3)
      have HC3 := Lib.hid hc3
      clear hc3 g3
      go_wp2
      go_roundw
      case rel => exact ⟨k + 1, by omega, by go_num, HC3.out, HB3.out, b3⟩
      case measure => simp [intOf]; omega
    · have HC := Lib.hid hc
      clear hc hb
      go_wp2
      go_ret
      exact ⟨rfl, HC.out, hbw⟩

set_option maxRecDepth 100000 in
set_option maxHeartbeats 1000000 in
theorem MakeNum_any (m : Nat) (A : Option Addr) (n c : Nat) (w : World) (hm : n ≤ 1048576) (hm2 : m ≤ 65536) (hby : Bytes w w.heap.size A n) :
    Calls Try.prog 25 #[.slice A n c, .int .i64 m] w fun e w' => ∃ x : Int, e = .returned (.int .i64 x) ∧ 0 ≤ x ∧ x ≤ 65535 ∧ Below w.heap.size w w' := by
  have HN := Lib.hid (l29New_any m A n c w hm hm2 hby)
  have HBY := Lib.hid hby
  clear hby
  go_enter Try.func25, Try.ntmps25
  go_wp2_with fail
  refine HN.out.mono ?_
  rintro e w1 ⟨rfl, hc1, b1⟩
  have hb1 := HBY.out.below b1
  have HB1 := Lib.hid hb1
  have HQ := Lib.hid (l01Byte_any w.heap.size A n c w1 hm hc1 hb1)
  clear hc1 hb1
  go_wp2_with fail
  refine HQ.out.mono ?_
  rintro e w2 ⟨x, rfl, hx0, hx1, hc2, g2⟩
  have b2 := b1.grown g2 b1.size (fun k hk => by cases hk; exact Nat.le_refl _)
  have HQ2 := Lib.hid (l01Byte_any w.heap.size A n c w2 hm hc2 (HB1.out.grown g2))
  clear hc2 g2 b1
  go_wp2_with fail
  refine HQ2.out.mono ?_
  rintro e w3 ⟨y, rfl, hy0, hy1, hc3, g3⟩
  have b3 := b2.grown g3 b2.size (fun k hk => by cases hk; exact Nat.le_refl _)
  clear hc3 g3 b2
  go_wp2
  go_ret
  exact ⟨_, rfl, by omega, by omega, b3⟩

end Go.Proofs.Ytdjaiijgdflopaa
