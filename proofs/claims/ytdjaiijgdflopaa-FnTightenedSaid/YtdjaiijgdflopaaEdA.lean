/-
  WALK of impl.EdgesOf.
-/
import Derived.Test.YtdjaiijgdflopaaTbD
import Derived.Test.YtdjaiijgdflopaaGdE
namespace Go.Proofs.Ytdjaiijgdflopaa
open Go.RowKit
set_option linter.unusedVariables false
set_option linter.unusedSimpArgs false

/-- The edge of the p-th cell, or none. -/
def edE1 (N : Nat) (cs : List Int) (p : Nat) : List GE := if p / N ≠ p % N ∧ -1000000 < cs[p]?.getD 0 ∧ cs[p]?.getD 0 < 1000000 then [⟨((p / N : Nat) : Int), ((p % N : Nat) : Int), cs[p]?.getD 0⟩] else []
def edL (N : Nat) (cs : List Int) (j : Nat) : List GE := (List.range j).flatMap (edE1 N cs)
def edR (n : Int) (cs : List Int) : List GE := if okT n cs = true then edL n.toNat cs (n.toNat * n.toNat) else []
theorem edL_next (N : Nat) (cs : List Int) (j : Nat) : edL N cs (j + 1) = edL N cs j ++ edE1 N cs j := by unfold edL; rw [List.range_succ, List.flatMap_append]; simp
theorem edL_length (N : Nat) (cs : List Int) : ∀ j, (edL N cs j).length ≤ j
  | 0 => by simp [edL]
  | j + 1 => by
    rw [edL_next, List.length_append]
    have := edL_length N cs j
    have : (edE1 N cs j).length ≤ 1 := by unfold edE1; split <;> simp
    omega
theorem edR_no {n : Int} {cs : List Int} (h : okT n cs = false) : edR n cs = [] := by unfold edR; rw [if_neg (by rw [h]; simp)]
theorem edR_yes {N : Nat} {cs : List Int} (h : okT N cs = true) : edR N cs = edL N cs (N * N) := by unfold edR; rw [if_pos h]; simp
theorem cellsE_one (e : GE) : cellsE [e] = e.cells := by simp [cellsE]

set_option maxRecDepth 100000 in
set_option maxHeartbeats 4000000 in
theorem impl_EdgesOf (n : Int) (zs : List Int) (A : Option Addr) (k c : Nat) (w : World) (hn : zs.length = k) (hk : k ≤ 1048576) (hr : RowAt w A (zs.map intV)) :
    Calls Try.prog 23 #[grV n A k c] w fun e w' => ∃ B m cb, e = .returned (.slice B m cb) ∧ m = (edR n zs).length ∧ w'.ownsRow w.heap.size 35 3 (.slice B m cb) m (cellsE (edR n zs)) ∧ Below w.heap.size w w' := by
  have HT := Lib.hid (fun W h => impl_TableOk n zs A k c W hn hk h)
  have HR := Lib.hid hr
  have HL := Lib.hid hn
  clear hr hn
  obtain ⟨i0, hi, hz0, hz1, hz2⟩ := info_parts Try.info35
  obtain ⟨ok, hok⟩ : ∃ b, b = okT n zs := ⟨_, rfl⟩
  rw [← hok] at HT
  have HO := Lib.hid hok.symm
  clear hok
  unfold grV at HT ⊢
  cases ok with
  | false =>
    go_enter Try.func23, Try.ntmps23
    go_wp2_with fail
    refine (HT.out _ (HR.out.below (by repeat (first | exact Below.refl _ _ | refine below_step (by assumption) (by first | omega | (simp; done) | (simp; omega)) ?_ | refine below_drewN ?_ _ | refine Below.drew ?_ | refine Below.setCell ?_ (by first | omega | (simp; done) | (simp; omega)) _ | refine Below.alloc ?_ (by first | omega | (simp; done) | (simp; omega)) _)))).mono ?_
    rintro e w1 ⟨rfl, b1⟩
    go_wp2_with fail
    go_ret
    exact ⟨none, 0, 0, rfl, by rw [edR_no HO.out]; rfl, by rw [edR_no HO.out]; exact World.ownsRow_nil _ _ _ _, (by repeat (first | exact Below.refl _ _ | refine below_step (by assumption) (by first | omega | (simp; done) | (simp; omega)) ?_ | refine below_drewN ?_ _ | refine Below.drew ?_ | refine Below.setCell ?_ (by first | omega | (simp; done) | (simp; omega)) _ | refine Below.alloc ?_ (by first | omega | (simp; done) | (simp; omega)) _))⟩
  | true =>
    have hrg := okT_rng HO.out
    obtain ⟨N, rfl⟩ : ∃ N : Nat, n = N := ⟨n.toNat, by omega⟩
    have hN8 : N ≤ 8 := by omega
    have hkN : k = N * N := by have h1 := hrg.2.2; have h2 := HL.out; rw [h2] at h1; exact_mod_cast h1
    have h64 : k ≤ 64 := by rw [hkN]; exact sq_le hN8
    have HKN := Lib.hid hkN
    clear hrg hkN
    go_enter Try.func23, Try.ntmps23
    go_wp2_with fail
    refine (HT.out _ (HR.out.below (by repeat (first | exact Below.refl _ _ | refine below_step (by assumption) (by first | omega | (simp; done) | (simp; omega)) ?_ | refine below_drewN ?_ _ | refine Below.drew ?_ | refine Below.setCell ?_ (by first | omega | (simp; done) | (simp; omega)) _ | refine Below.alloc ?_ (by first | omega | (simp; done) | (simp; omega)) _)))).mono ?_
    rintro e w1 ⟨rfl, b1⟩
    have ka1 : w1.cell? ⟨w.heap.size, 0, none⟩ = some (.int .i64 N) := (b1.cell (p := ⟨w.heap.size, 0, none⟩) (by first | omega | (simp; done) | (simp; omega))).trans (by first | assumption | go_simp)
    have kb1 : w1.cell? ⟨w.heap.size, 1, none⟩ = some (.slice A k c) := (b1.cell (p := ⟨w.heap.size, 1, none⟩) (by first | omega | (simp; done) | (simp; omega))).trans (by first | assumption | go_simp)
    have sz1 : w.heap.size < w1.heap.size := Nat.lt_of_lt_of_le (by first | omega | (simp; done) | (simp; omega)) b1.size
    have B1 : Below w.heap.size w w1 := (by repeat (first | exact Below.refl _ _ | refine below_step (by assumption) (by first | omega | (simp; done) | (simp; omega)) ?_ | refine below_drewN ?_ _ | refine Below.drew ?_ | refine Below.setCell ?_ (by first | omega | (simp; done) | (simp; omega)) _ | refine Below.alloc ?_ (by first | omega | (simp; done) | (simp; omega)) _))
    clear b1
    go_wp2_with fail
    go_loopw [14, 3] (fun ii ed wr => ∃ (j s : Nat) (A2 : Option Addr) (d2 : Nat), j ≤ k ∧ ii = .int .i64 j ∧ ed = .slice A2 s d2 ∧ s = (edL N zs j).length ∧ wr.ownsRow (w.heap.size + 1) 35 3 (.slice A2 s d2) s (cellsE (edL N zs j)) ∧ wr.cell? ⟨w.heap.size, 0, none⟩ = some (.int .i64 N) ∧ wr.cell? ⟨w.heap.size, 1, none⟩ = some (.slice A k c) ∧ w.heap.size < wr.heap.size ∧ Below w.heap.size w wr) (fun ii _ _ => k - (intOf ii).toNat)
    case atStart => exact ⟨0, 0, none, 0, Nat.zero_le _, rfl, rfl, rfl, World.ownsRow_nil _ _ _ _, ka1, kb1, sz1, B1⟩
    case round =>
      clear ka1 kb1 sz1 B1
      obtain ⟨j, s, A2, d2, hj, rfl, rfl, hs, hown, hcn, hcs, hsz, hbw⟩ := hrel
      by_cases hlt : j < k
      · have hN0 : 0 < N := by rcases Nat.eq_zero_or_pos N with h | h
                               · have := HKN.out; subst h; omega
                               · exact h
        obtain ⟨g, o, rfl, hgl, hc0⟩ := rowInts HR.out (q := j) (by have := HL.out; omega)
        have hc := (hbw.cell (p := ⟨g, o + j, none⟩) hgl).trans hc0
        have hp := fun W => place_any N j (some ⟨g, o, none⟩) k c W hN8 hN0 (by omega)
        unfold grV at hp
        have hnx := edL_next N zs j
        have hle := edL_length N zs j
        have he1 : edE1 N zs j = (if j / N ≠ j % N ∧ -1000000 < zs[j]?.getD 0 ∧ zs[j]?.getD 0 < 1000000 then [⟨((j / N : Nat) : Int), ((j % N : Nat) : Int), zs[j]?.getD 0⟩] else []) := rfl
        have hs72 : s + 1 ≤ 72 := by omega
        obtain ⟨x, hx⟩ : ∃ x, x = zs[j]?.getD 0 := ⟨_, rfl⟩
        obtain ⟨a, ha⟩ : ∃ a, a = j / N := ⟨_, rfl⟩
        obtain ⟨b, hb⟩ : ∃ b, b = j % N := ⟨_, rfl⟩
        rw [← hx, ← ha, ← hb] at he1
        rw [← hx] at hc
        rw [← ha, ← hb] at hp
        have HP := Lib.hid hp
        have HE1 := Lib.hid he1
        have HNX := Lib.hid hnx
        have HS := Lib.hid hs
        have HOW := Lib.hid hown
        clear hx ha hb hp hc0 hnx hle he1 hs hown
        by_cases hab : a = b
        · subst hab
          have haa : ((a : Int) != (a : Int)) = false := by simp
          go_wp2_with (go_at_call 61; refine (HP.out _).mono ?_; rintro e w2 ⟨rfl, b2⟩; have k0 := (b2.cell (p := ⟨w.heap.size, 0, none⟩) (by dsimp only; omega)).trans hcn; have k1 := (b2.cell (p := ⟨w.heap.size, 1, none⟩) (by dsimp only; omega)).trans hcs; have sz2 : w.heap.size < w2.heap.size := Nat.lt_of_lt_of_le hsz b2.size)
          have hedl : edL N zs (j + 1) = edL N zs j := by rw [HNX.out, HE1.out, if_neg (by simp)]; simp
          have HED := Lib.hid hedl
          clear hedl
          go_roundw
          case rel => exact ⟨j + 1, s, A2, d2, by omega, by go_num, rfl, by rw [HED.out]; exact HS.out, by rw [HED.out]; exact own_below HOW.out b2, k0, k1, sz2, hbw.trans (b2.mono (by omega))⟩
          case measure => simp [intOf]; omega
        · have haa : ((a : Int) != (b : Int)) = true := by simp; omega
          by_cases hx1 : -1000000 < x
          · by_cases hx2 : x < 1000000
            · have hedl : edL N zs (j + 1) = edL N zs j ++ [⟨a, b, x⟩] := by rw [HNX.out, HE1.out, if_pos ⟨hab, hx1, hx2⟩]
              have HED := Lib.hid hedl
              clear hedl
              go_wp2_with (first | (go_at_call 61; refine (HP.out _).mono ?_; rintro e w2 ⟨rfl, b2⟩; have k0 := (b2.cell (p := ⟨w.heap.size, 0, none⟩) (by dsimp only; omega)).trans hcn; have k1 := (b2.cell (p := ⟨w.heap.size, 1, none⟩) (by dsimp only; omega)).trans hcs; have sz2 : w.heap.size < w2.heap.size := Nat.lt_of_lt_of_le hsz b2.size; have HOW2 := Lib.hid (own_below HOW.out b2); have hbw2 := hbw.trans (b2.mono (Nat.le_of_lt hsz)); have HB2 := Lib.hid hbw2; have LT2 := Lib.hid HOW2.out.lt; clear b2 hbw2) | (at_builtin; refine wpList_append_lies _ rfl _ _ 23 rfl (w.heap.size + 1) 35 i0 (.agg #[.int .i64 0, .int .i64 0, .int .i64 0]) 3 24 Try.underlying23 hi hz0 hz1 hz2 rfl (by decide) _ _ _ rfl (HOW2.out.alloc _) ⟨_, 0, none⟩ 1 1 _ rfl rfl (World.news_of_block (heap_alloc_new _ _)) (fun u hu => by simp at hu; rcases hu with rfl | rfl | rfl <;> rfl) (by decide) (by unfold maxLen; omega) (by omega) (by first | omega | (simp; done) | (simp; omega)) _ rfl ?_))
              intro g2 cap w3 ho3 hg3 hat3 hl3
              have hnb : (Value.slice A2 s d2).ownBlock ≠ some w.heap.size := fun h => by have := (LT2.out _ h).1; omega
              have q0 := grown_cell hg3 (b := w.heap.size) (o := 0) (v := .int .i64 N) (by go_simp) hnb
              have q1 := grown_cell hg3 (b := w.heap.size) (o := 1) (v := .slice (some ⟨g, o, none⟩) k c) (by go_simp) hnb
              have sz3 : w.heap.size < w3.heap.size := Nat.lt_of_lt_of_le (by simp; omega) hg3.size
              have B3 : Below w.heap.size w w3 := (HB2.out.alloc HB2.out.size _).grown hg3 (by simp; omega) (fun q hq => by have := (LT2.out q hq).1; omega)
              have ho4 : w3.ownsRow (w.heap.size + 1) 35 3 (.slice (some ⟨g2, 0, none⟩) (s + 1) cap) (s + 1) (cellsE (edL N zs (j + 1))) := by rw [HED.out, cellsE_append, cellsE_one]; exact ho3
              have HO4 := Lib.hid ho4
              clear hg3 hat3 ho3 hnb ho4 k0 k1 HOW2 HOW HB2
              go_wp2_with fail
              go_roundw
              case rel => exact ⟨j + 1, s + 1, some ⟨g2, 0, none⟩, cap, by omega, by go_num, rfl, by rw [HED.out, List.length_append, ← HS.out]; rfl, HO4.out, q0, q1, sz3, B3⟩
              case measure => simp [intOf]; omega
            · have hedl : edL N zs (j + 1) = edL N zs j := by rw [HNX.out, HE1.out, if_neg (fun h => hx2 h.2.2)]; simp
              have HED := Lib.hid hedl
              clear hedl
              go_wp2_with (go_at_call 61; refine (HP.out _).mono ?_; rintro e w2 ⟨rfl, b2⟩; have k0 := (b2.cell (p := ⟨w.heap.size, 0, none⟩) (by dsimp only; omega)).trans hcn; have k1 := (b2.cell (p := ⟨w.heap.size, 1, none⟩) (by dsimp only; omega)).trans hcs; have sz2 : w.heap.size < w2.heap.size := Nat.lt_of_lt_of_le hsz b2.size)
              go_roundw
              case rel => exact ⟨j + 1, s, A2, d2, by omega, by go_num, rfl, by rw [HED.out]; exact HS.out, by rw [HED.out]; exact own_below HOW.out b2, k0, k1, sz2, hbw.trans (b2.mono (by omega))⟩
              case measure => simp [intOf]; omega
          · have hedl : edL N zs (j + 1) = edL N zs j := by rw [HNX.out, HE1.out, if_neg (fun h => hx1 h.2.1)]; simp
            have HED := Lib.hid hedl
            clear hedl
            go_wp2_with (go_at_call 61; refine (HP.out _).mono ?_; rintro e w2 ⟨rfl, b2⟩; have k0 := (b2.cell (p := ⟨w.heap.size, 0, none⟩) (by dsimp only; omega)).trans hcn; have k1 := (b2.cell (p := ⟨w.heap.size, 1, none⟩) (by dsimp only; omega)).trans hcs; have sz2 : w.heap.size < w2.heap.size := Nat.lt_of_lt_of_le hsz b2.size)
            go_roundw
            case rel => exact ⟨j + 1, s, A2, d2, by omega, by go_num, rfl, by rw [HED.out]; exact HS.out, by rw [HED.out]; exact own_below HOW.out b2, k0, k1, sz2, hbw.trans (b2.mono (by omega))⟩
            case measure => simp [intOf]; omega
      · have hjk : j = N * N := by have := HKN.out; omega
        rw [hjk] at hs hown
        have HS := Lib.hid hs
        have HOW := Lib.hid hown
        clear hs hown hjk
        go_wp2_with fail
        go_ret
        exact ⟨A2, s, d2, rfl, by rw [edR_yes HO.out]; exact HS.out, by rw [edR_yes HO.out]; exact own_base HOW.out (by omega), hbw⟩

end Go.Proofs.Ytdjaiijgdflopaa
