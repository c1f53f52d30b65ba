/-
  WALK of impl's distances.
-/
import Derived.Test.YtdjaiijgdflopaaGrK
import Derived.Test.YtdjaiijgdflopaaGrM
namespace Go.Proofs.Ytdjaiijgdflopaa
open Go.RowKit
set_option linter.unusedVariables false
set_option linter.unusedSimpArgs false

def distE (s : St) (j : Nat) : Int := if s.kn j = true then (if s.nu j ≤ 1000000 then s.nu j else 1000000) else 1000000
def distL (s : St) (j : Nat) : List Value := (List.range j).map fun i => intV (distE s i)
theorem distL_succ (s : St) (j : Nat) : distL s (j + 1) = distL s j ++ [intV (distE s j)] := by simp [distL, List.range_succ]
theorem distL_length (s : St) (j : Nat) : (distL s j).length = j := by simp [distL]
theorem set_take (xs : List Value) (j : Nat) (a : Value) (hj : j < xs.length) : (xs.set j a).take (j + 1) = xs.take j ++ [a] := by
  have h : (xs.take j).length = j := by simp; omega
  rw [List.take_set, List.take_add_one, List.getElem?_eq_getElem hj, List.set_append_right _ _ (by omega), h, Nat.sub_self]
  rfl

set_option maxRecDepth 100000 in
set_option maxHeartbeats 2000000 in
theorem distances_any (b N : Nat) (s : St) (w : World) (hN : N ≤ 8) (hs : MkAt w b s) :
    Calls Try.prog 58 #[.pointer (some ⟨b, 0, none⟩), .int .i64 N] w fun e w' =>
      ∃ B cb, e = .returned (.slice B N cb) ∧ w'.ownsRow w.heap.size 3 1 (.slice B N cb) N (distL s N) ∧ Below w.heap.size w w' := by
  obtain ⟨i0, hi, hz0, hz1, hz2⟩ := info_parts Try.info3
  have hb2 : i0.bytes * N ≤ 281474976710656 := by rw [hz2]; omega
  have HS := Lib.hid hs
  have hbw := hs.kn.lt
  clear hs
  go_enter Try.func58, Try.ntmps58
  go_wp2_with (refine wpList_make_full _ rfl _ _ 27 rfl w.heap.size 3 i0 (.int .i64 0) 1 Try.underlying27 hi hz0 hz1 .i64 .i64 _ _ N rfl rfl rfl rfl hb2 (by unfold maxLen; omega) (Nat.le_refl _) ?_)
  intro w1 h1 g1
  have b1 : Below w.heap.size w w1 := (Below.refl _ w).grown g1 (Nat.le_refl _) (fun k hk => by cases hk)
  have hb0 : ∃ xs, w1.ownsRow w.heap.size 3 1 (.slice (some ⟨w.heap.size, 0, none⟩) N N) N xs ∧ xs.take 0 = distL s 0 := ⟨_, h1, by simp [distL]⟩
  clear g1 h1
  go_wp2
  go_loopw [11] (fun i wr => ∃ j : Nat, j ≤ N ∧ i = .int .i64 j ∧ (∃ xs, wr.ownsRow w.heap.size 3 1 (.slice (some ⟨w.heap.size, 0, none⟩) N N) N xs ∧ xs.take j = distL s j) ∧ Below w.heap.size w wr) (fun i _ => N - (intOf i).toNat)
  case atStart => exact ⟨0, Nat.zero_le _, rfl, hb0, b1⟩
  case round =>
    obtain ⟨j, hj, rfl, ⟨xs, hown, htk⟩, hbl⟩ := hrel
    by_cases hlt : j < N
    · have hlen : xs.length = N := by have := hown.1; omega
      obtain ⟨y, hy⟩ : ∃ y, wr.cell? ⟨w.heap.size, j, none⟩ = some y := ⟨_, (hown.cellAt j (by omega)).trans (List.getElem?_eq_getElem (by omega))⟩
      have hfz := hown.frozenAt j
      obtain ⟨bk, hbk⟩ : ∃ x, x = s.kn j := ⟨_, rfl⟩
      obtain ⟨nu, hnu⟩ : ∃ x, x = s.nu j := ⟨_, rfl⟩
      have hm : MkAt wr b s := HS.out.of_heap hbl.size (hbl.block b hbw)
      have f1 : wr.cell? ⟨b, j, none⟩ = some (.bool bk) := by rw [hbk]; simpa [fB] using hm.kn.cell j (by omega)
      have f2 : wr.cell? ⟨b, 8 + j, none⟩ = some (.int .i64 nu) := by rw [hnu]; simpa [fI] using hm.nu.cell j (by omega)
      have hji : (j : Int) < 8 := by omega
      have hdst : ∀ d, d = (if bk = true then (if nu ≤ 1000000 then nu else 1000000) else 1000000) → distE s j = d := by intro d hd; rw [hd, hbk, hnu]; rfl
      have h1 := fun a => (hown.stored j a).1
      have h2 := fun a a' => ((h1 a).stored j a').1
      have ht := fun a => set_take xs j a (by omega)
      have ht2 : ∀ a a', ((xs.set j a).set j a').take (j + 1) = xs.take j ++ [a'] := fun a a' => by rw [List.set_set]; exact ht a'
      have H1 := Lib.hid h1
      have H2 := Lib.hid h2
      have HT := Lib.hid ht
      have HT2 := Lib.hid ht2
      have HD := Lib.hid hdst
      have HK := Lib.hid htk
      have n1 : (b = w.heap.size) = False := eq_false (by omega)
      have n2 : (w.heap.size = b) = False := eq_false (by omega)
      clear hown htk hlen hbk hnu hm hdst h1 h2 ht ht2
      cases bk with
      | false =>
        go_wp2
        go_roundw
        case rel => exact ⟨j + 1, by omega, by go_num, ⟨_, H1.out _, by rw [HT.out, HK.out, distL_succ, HD.out _ rfl]; rfl⟩, hbl.setCell (Nat.le_refl _) _⟩
        case measure => simp [intOf]; omega
      | true =>
        by_cases hlt2 : nu ≤ 1000000
        · go_wp2
          go_roundw
          case rel => exact ⟨j + 1, by omega, by go_num, ⟨_, H2.out _ _, by rw [HT2.out, HK.out, distL_succ, HD.out _ rfl, if_pos rfl, if_pos hlt2]; rfl⟩, (hbl.setCell (Nat.le_refl _) _).setCell (Nat.le_refl _) _⟩
          case measure => simp [intOf]; omega
        · go_wp2
          go_roundw
          case rel => exact ⟨j + 1, by omega, by go_num, ⟨_, H2.out _ _, by rw [HT2.out, HK.out, distL_succ, HD.out _ rfl, if_pos rfl, if_neg (by omega)]; rfl⟩, (hbl.setCell (Nat.le_refl _) _).setCell (Nat.le_refl _) _⟩
          case measure => simp [intOf]; omega
    · go_wp2
      go_ret
      have : j = N := by omega
      subst this
      refine ⟨_, _, rfl, ?_, hbl⟩
      rw [List.take_of_length_le (by have := hown.1; omega)] at htk
      rw [← htk]; exact hown

end Go.Proofs.Ytdjaiijgdflopaa
