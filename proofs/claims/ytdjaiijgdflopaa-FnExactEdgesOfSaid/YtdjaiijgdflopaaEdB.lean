/-
  WALK of spec.EdgesOf.
-/
import Derived.Test.YtdjaiijgdflopaaEdA
namespace Go.Proofs.Ytdjaiijgdflopaa
open Go.RowKit
set_option linter.unusedVariables false
set_option linter.unusedSimpArgs false

theorem edE1_at {N i k : Nat} (cs : List Int) (hk : k < N) : edE1 N cs (i * N + k) = if i ≠ k ∧ -1000000 < atT N cs i k ∧ atT N cs i k < 1000000 then [⟨(i : Int), (k : Int), atT N cs i k⟩] else [] := by
  have d1 : (i * N + k) / N = i := by rw [Nat.mul_comm, Nat.mul_add_div (by omega), Nat.div_eq_of_lt hk]; rfl
  have d2 : (i * N + k) % N = k := by rw [Nat.mul_comm, Nat.mul_add_mod]; exact Nat.mod_eq_of_lt hk
  unfold edE1 atT
  rw [d1, d2]
theorem owns_zero3 (w : World) (t : TypeId) (B : Nat) (hB : B ≤ w.heap.size) : (w.alloc (.cells #[] t)).ownsRow B t 3 (.slice (some ⟨w.heap.size, 0, none⟩) 0 0) 0 [] :=
  ⟨rfl, .inr ⟨w.heap.size, 0, #[], rfl, hB, World.alloc_heap_new w _, Nat.le_refl _, Nat.zero_le _, rfl, rfl⟩⟩

set_option maxRecDepth 100000 in
set_option maxHeartbeats 4000000 in
theorem spec_EdgesOf (n : Int) (zs : List Int) (A : Option Addr) (k c : Nat) (w : World) (hn : zs.length = k) (hk : k ≤ 1048576) (hr : RowAt w A (zs.map intV)) :
    Calls Try.prog 45 #[grV n A k c] w fun e w' => ∃ B m cb, e = .returned (.slice B m cb) ∧ m = (edR n zs).length ∧ w'.ownsRow w.heap.size 35 3 (.slice B m cb) m (cellsE (edR n zs)) ∧ Below w.heap.size w w' := by
  have HT := Lib.hid (fun W h => spec_TableOk n zs A k c W hn hk h)
  have HR := Lib.hid hr
  have HL := Lib.hid hn
  clear hr hn
  obtain ⟨i0, hi, hz0, hz1, hz2⟩ := info_parts Try.info35
  obtain ⟨ok, hok⟩ : ∃ b, b = okT n zs := ⟨_, rfl⟩
  rw [← hok] at HT
  have HO := Lib.hid hok.symm
  clear hok
  unfold grV at HT ⊢
  cases ok with
  | false =>
    go_enter Try.func45, Try.ntmps45
    go_wp2_with fail
    refine (HT.out _ (HR.out.below (by repeat (first | exact Below.refl _ _ | refine below_step (by assumption) (by first | omega | (simp; done) | (simp; omega)) ?_ | refine below_drewN ?_ _ | refine Below.drew ?_ | refine Below.setCell ?_ (by first | omega | (simp; done) | (simp; omega)) _ | refine Below.alloc ?_ (by first | omega | (simp; done) | (simp; omega)) _)))).mono ?_
    rintro e w1 ⟨rfl, b1⟩
    go_wp2_with fail
    go_ret
    exact ⟨none, 0, 0, rfl, by rw [edR_no HO.out]; rfl, by rw [edR_no HO.out]; exact World.ownsRow_nil _ _ _ _, (by repeat (first | exact Below.refl _ _ | refine below_step (by assumption) (by first | omega | (simp; done) | (simp; omega)) ?_ | refine below_drewN ?_ _ | refine Below.drew ?_ | refine Below.setCell ?_ (by first | omega | (simp; done) | (simp; omega)) _ | refine Below.alloc ?_ (by first | omega | (simp; done) | (simp; omega)) _))⟩
  | true =>
    have hrg := okT_rng HO.out
    obtain ⟨N, rfl⟩ : ∃ N : Nat, n = N := ⟨n.toNat, by omega⟩
    have hN8 : N ≤ 8 := by omega
    have hkN : k = N * N := by have h1 := hrg.2.2; have h2 := HL.out; rw [h2] at h1; exact_mod_cast h1
    have h64 := sq_le hN8
    have HAT := Lib.hid (fun (a b : Nat) W ha hb h => l04At_any N a b zs A k c W hN8 ha hb HL.out hkN h)
    unfold grV at HAT
    clear hrg hkN
    go_enter Try.func45, Try.ntmps45
    go_wp2_with fail
    refine (HT.out _ (HR.out.below (by repeat (first | exact Below.refl _ _ | refine below_step (by assumption) (by first | omega | (simp; done) | (simp; omega)) ?_ | refine below_drewN ?_ _ | refine Below.drew ?_ | refine Below.setCell ?_ (by first | omega | (simp; done) | (simp; omega)) _ | refine Below.alloc ?_ (by first | omega | (simp; done) | (simp; omega)) _)))).mono ?_
    rintro e w1 ⟨rfl, b1⟩
    have ka1 : w1.cell? ⟨w.heap.size, 0, none⟩ = some (.int .i64 N) := (b1.cell (p := ⟨w.heap.size, 0, none⟩) (by first | omega | (simp; done) | (simp; omega))).trans (by first | assumption | go_simp)
    have kb1 : w1.cell? ⟨w.heap.size, 1, none⟩ = some (.slice A k c) := (b1.cell (p := ⟨w.heap.size, 1, none⟩) (by first | omega | (simp; done) | (simp; omega))).trans (by first | assumption | go_simp)
    have sz1 : w.heap.size < w1.heap.size := Nat.lt_of_lt_of_le (by first | omega | (simp; done) | (simp; omega)) b1.size
    have B1 : Below w.heap.size w w1 := (by repeat (first | exact Below.refl _ _ | refine below_step (by assumption) (by first | omega | (simp; done) | (simp; omega)) ?_ | refine below_drewN ?_ _ | refine Below.drew ?_ | refine Below.setCell ?_ (by first | omega | (simp; done) | (simp; omega)) _ | refine Below.alloc ?_ (by first | omega | (simp; done) | (simp; omega)) _))
    have ho1 : w1.ownsRow (w.heap.size + 1) 35 3 (.slice (some ⟨w.heap.size + 1, 0, none⟩) 0 0) 0 (cellsE (edL N zs (0 * N + 0))) := by
      have h0 : edL N zs (0 * N + 0) = [] := by simp [edL]
      rw [h0]
      have := own_below (owns_zero3 (w.alloc (.cells #[.int .i64 (N : Int), .slice A k c] 29)) 35 (w.heap.size + 1) (by simp)) b1
      simpa [cellsE] using this
    have HO1 := Lib.hid ho1
    clear b1 ho1
    go_wp2_with fail
    go_loopw [4, 3] (fun ii ed wr => ∃ (i s : Nat) (A2 : Option Addr) (d2 : Nat), i ≤ N ∧ ii = .int .i64 i ∧ ed = .slice A2 s d2 ∧ s = (edL N zs (i * N + 0)).length ∧ wr.ownsRow (w.heap.size + 1) 35 3 (.slice A2 s d2) s (cellsE (edL N zs (i * N + 0))) ∧ wr.cell? ⟨w.heap.size, 0, none⟩ = some (.int .i64 N) ∧ wr.cell? ⟨w.heap.size, 1, none⟩ = some (.slice A k c) ∧ w.heap.size < wr.heap.size ∧ Below w.heap.size w wr) (fun ii _ _ => N - (intOf ii).toNat)
    case atStart => exact ⟨0, 0, some ⟨w.heap.size + 1, 0, none⟩, 0, Nat.zero_le _, rfl, rfl, by simp [edL], HO1.out, ka1, kb1, sz1, B1⟩
    case round =>
      clear ka1 kb1 sz1 B1 HO1
      obtain ⟨i, s, A2, d2, hi2, rfl, rfl, hs, hown, hcn, hcs, hsz, hbw⟩ := hrel
      have HS := Lib.hid hs
      have HOW := Lib.hid hown
      clear hs hown
      by_cases hiN : i < N
      · go_wp2_with fail
        go_loopw [5, 3] (fun ii ed wr => ∃ (j s : Nat) (A2 : Option Addr) (d2 : Nat), j ≤ N ∧ ii = .int .i64 j ∧ ed = .slice A2 s d2 ∧ s = (edL N zs (i * N + j)).length ∧ wr.ownsRow (w.heap.size + 1) 35 3 (.slice A2 s d2) s (cellsE (edL N zs (i * N + j))) ∧ wr.cell? ⟨w.heap.size, 0, none⟩ = some (.int .i64 N) ∧ wr.cell? ⟨w.heap.size, 1, none⟩ = some (.slice A k c) ∧ w.heap.size < wr.heap.size ∧ Below w.heap.size w wr) (fun ii _ _ => N - (intOf ii).toNat)
        case atStart => exact ⟨0, s, A2, d2, Nat.zero_le _, rfl, rfl, HS.out, HOW.out, hcn, hcs, hsz, hbw⟩
        case round =>
          clear hcn hcs hsz hbw HS HOW
          obtain ⟨j, s, A2, d2, hj, rfl, rfl, hs, hown, hcn, hcs, hsz, hbw⟩ := hrel
          have HS := Lib.hid hs
          have HOW := Lib.hid hown
          by_cases hjN : j < N
          · have hnx := edL_next N zs (i * N + j)
            rw [edE1_at zs hjN] at hnx
            have hle := edL_length N zs (i * N + j)
            have hat := at_lt hiN hjN
            have hs72 : s + 1 ≤ 72 := by omega
            have h1 := l01In_any (atT N zs i j) (-999999) 999999
            have HNX := Lib.hid hnx
            clear hnx hle hs hown hat
            by_cases hij : i = j
            · subst hij
              have haa : ((i : Int) != (i : Int)) = false := by simp
              have hedl : edL N zs (i * N + i + 1) = edL N zs (i * N + i) := by rw [HNX.out, if_neg (by simp)]; simp
              have HED := Lib.hid hedl
              clear hedl h1
              go_wp2_with fail
              go_roundw
              case rel => exact ⟨i + 1, s, A2, d2, by omega, by go_num, rfl, by rw [← Nat.add_assoc, HED.out]; exact HS.out, by rw [← Nat.add_assoc, HED.out]; exact HOW.out, hcn, hcs, hsz, hbw⟩
              case measure => simp [intOf]; omega
            · have haa : ((i : Int) != (j : Int)) = true := by simp; omega
              by_cases hx : -1000000 < atT N zs i j ∧ atT N zs i j < 1000000
              · rw [show (decide ((-999999 : Int) ≤ atT N zs i j) && decide (atT N zs i j ≤ 999999)) = true from by simp; omega] at h1
                have H1 := Lib.hid h1
                have hedl : edL N zs (i * N + j + 1) = edL N zs (i * N + j) ++ [⟨i, j, atT N zs i j⟩] := by rw [HNX.out, if_pos ⟨hij, hx.1, hx.2⟩]
                have HED := Lib.hid hedl
                clear hedl h1
                go_wp2_with fail
                refine (HAT.out _ _ _ hiN hjN (HR.out.below hbw)).mono ?_
                rintro e w2 ⟨rfl, b2⟩
                have k0 := (b2.cell (p := ⟨w.heap.size, 0, none⟩) (by dsimp only; omega)).trans hcn
                have k1 := (b2.cell (p := ⟨w.heap.size, 1, none⟩) (by dsimp only; omega)).trans hcs
                have sz2 : w.heap.size < w2.heap.size := Nat.lt_of_lt_of_le hsz b2.size
                have HOW2 := Lib.hid (own_below HOW.out b2)
                have hbw2 := hbw.trans (b2.mono (Nat.le_of_lt hsz))
                have HB2 := Lib.hid hbw2
                clear b2 hbw2 hbw hcn hcs hsz HOW
                go_wp2_with fail
                refine (H1.out _).mono ?_
                rintro e w3 ⟨rfl, rfl⟩
                go_wp2_with fail
                refine (HAT.out _ _ _ hiN hjN (HR.out.below HB2.out)).mono ?_
                rintro e w3 ⟨rfl, b3⟩
                have k2 := (b3.cell (p := ⟨w.heap.size, 0, none⟩) (by dsimp only; omega)).trans k0
                have k3 := (b3.cell (p := ⟨w.heap.size, 1, none⟩) (by dsimp only; omega)).trans k1
                have sz3 : w.heap.size < w3.heap.size := Nat.lt_of_lt_of_le sz2 b3.size
                have HOW3 := Lib.hid (own_below HOW2.out b3)
                have LT3 := Lib.hid HOW3.out.lt
                have hbw3 := HB2.out.trans (b3.mono (Nat.le_of_lt sz2))
                have HB3 := Lib.hid hbw3
                clear b3 hbw3 k0 k1 HOW2 HB2 H1
                go_wp2_with (at_builtin; refine wpList_append_lies _ rfl _ _ 23 rfl (w.heap.size + 1) 35 i0 (.agg #[.int .i64 0, .int .i64 0, .int .i64 0]) 3 24 Try.underlying23 hi hz0 hz1 hz2 rfl (by decide) _ _ _ rfl (HOW3.out.alloc _) ⟨_, 0, none⟩ 1 1 _ rfl rfl (World.news_of_block (heap_alloc_new _ _)) (fun u hu => by simp at hu; rcases hu with rfl | rfl | rfl <;> rfl) (by decide) (by unfold maxLen; omega) (by omega) (by first | omega | (simp; done) | (simp; omega)) _ rfl ?_)
                intro g2 cap w4 ho3 hg3 hat3 hl3
                have hnb : (Value.slice A2 s d2).ownBlock ≠ some w.heap.size := fun h => by have := (LT3.out _ h).1; omega
                have q0 := grown_cell hg3 (b := w.heap.size) (o := 0) (v := .int .i64 N) (by go_simp) hnb
                have q1 := grown_cell hg3 (b := w.heap.size) (o := 1) (v := .slice A k c) (by go_simp) hnb
                have sz4 : w.heap.size < w4.heap.size := Nat.lt_of_lt_of_le (by simp; omega) hg3.size
                have B4 : Below w.heap.size w w4 := (HB3.out.alloc HB3.out.size _).grown hg3 (by simp; omega) (fun q hq => by have := (LT3.out q hq).1; omega)
                have ho4 : w4.ownsRow (w.heap.size + 1) 35 3 (.slice (some ⟨g2, 0, none⟩) (s + 1) cap) (s + 1) (cellsE (edL N zs (i * N + (j + 1)))) := by rw [← Nat.add_assoc, HED.out, cellsE_append, cellsE_one]; exact ho3
                have HO4 := Lib.hid ho4
                clear hg3 hat3 ho3 hnb ho4 k2 k3 HOW3 HB3
                go_wp2_with fail
                go_roundw
                case rel => exact ⟨j + 1, s + 1, some ⟨g2, 0, none⟩, cap, by omega, by go_num, rfl, by rw [← Nat.add_assoc, HED.out, List.length_append, ← HS.out]; rfl, HO4.out, q0, q1, sz4, B4⟩
                case measure => simp [intOf]; omega
              · rw [show (decide ((-999999 : Int) ≤ atT N zs i j) && decide (atT N zs i j ≤ 999999)) = false from by simp; omega] at h1
                have H1 := Lib.hid h1
                have hedl : edL N zs (i * N + j + 1) = edL N zs (i * N + j) := by rw [HNX.out, if_neg (fun h => hx h.2)]; simp
                have HED := Lib.hid hedl
                clear hedl h1
                go_wp2_with fail
                refine (HAT.out _ _ _ hiN hjN (HR.out.below hbw)).mono ?_
                rintro e w2 ⟨rfl, b2⟩
                have k0 := (b2.cell (p := ⟨w.heap.size, 0, none⟩) (by dsimp only; omega)).trans hcn
                have k1 := (b2.cell (p := ⟨w.heap.size, 1, none⟩) (by dsimp only; omega)).trans hcs
                have sz2 : w.heap.size < w2.heap.size := Nat.lt_of_lt_of_le hsz b2.size
                go_wp2_with fail
                refine (H1.out _).mono ?_
                rintro e w3 ⟨rfl, rfl⟩
                go_wp2_with fail
                go_roundw
                case rel => exact ⟨j + 1, s, A2, d2, by omega, by go_num, rfl, by rw [← Nat.add_assoc, HED.out]; exact HS.out, by rw [← Nat.add_assoc, HED.out]; exact own_below HOW.out b2, k0, k1, sz2, hbw.trans (b2.mono (by omega))⟩
                case measure => simp [intOf]; omega
          · have hjn : j = N := by omega
            rw [hjn, show i * N + N = (i + 1) * N + 0 from by rw [Nat.succ_mul]; rfl] at hs hown
            have HS2 := Lib.hid hs
            have HOW2 := Lib.hid hown
            clear hs hown hjn HS HOW
            go_wp2_with fail
            go_roundw
            case rel => exact ⟨i + 1, s, A2, d2, by omega, by go_num, rfl, HS2.out, HOW2.out, hcn, hcs, hsz, hbw⟩
            case measure => simp [intOf]; omega
      · have hin : i = N := by omega
        have hs2 := HS.out
        have ho2 := HOW.out
        rw [hin, Nat.add_zero] at hs2 ho2
        have HS2 := Lib.hid hs2
        have HOW2 := Lib.hid ho2
        clear HS HOW hs2 ho2 hin
        go_wp2_with fail
        go_ret
        exact ⟨A2, s, d2, rfl, by rw [edR_yes HO.out]; exact HS2.out, by rw [edR_yes HO.out]; exact own_base HOW2.out (by omega), hbw⟩

end Go.Proofs.Ytdjaiijgdflopaa
