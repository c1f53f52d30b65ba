/-
  WALK of spec.FormatTimes.
  WALK of the program's FormatTimes.
  THE CONTRACTS OF impl's chapter 10 on the door: FormatTie, FormatShow, FormatTimes.
-/
import Derived.Test.YtgajodcgedhikaaDoorBdStB
import Derived.Test.YtgajodcgedhikaaDoorBdConv
import Derived.Deep.RegionHeld3
import Derived.Deep.Cut
import Derived.Deep.CutRange
import Derived.Deep.AppendLies
import Derived.Test.YtgajodcgedhikaaDoorBdPxA
import Derived.Deep.RegionLaw
namespace Go.Proofs.YtgajodcgedhikaaDoor
open Go.RowKit
set_option linter.unusedVariables false
set_option linter.unusedSimpArgs false

theorem ftJ_open {ns : List GN} {ts : List Int} {j : Nat} (h : ts[j]? = some (-1)) : ftJ ns ts (j + 1) = ftJ ns ts j := by
  conv => lhs; unfold ftJ
  rw [h, Option.getD_some, if_pos rfl, List.append_nil]
theorem ftJ_at {ns : List GN} {ts : List Int} {j : Nat} {x : Int} {e : GN} (h : ts[j]? = some x) (hx : ¬ x = -1) (he : ns[j]? = some e) : ftJ ns ts (j + 1) = ftJ ns ts j ++ [(e.name ++ ⟨#[64]⟩) ++ numB x] := by
  conv => lhs; unfold ftJ
  rw [h, he, Option.getD_some, Option.getD_some, if_neg hx]
theorem wf_lo9 {p : Int} (h : (Lit.int .i64 p).wf = true) : -9223372036854775808 ≤ p := by
  have := h
  simp [Lit.wf, IntKind.min, IntKind.max, IntKind.signed, IntKind.bits] at this
  exact this.1
theorem wf_hi9 {p : Int} (h : (Lit.int .i64 p).wf = true) : p ≤ 9223372036854775807 := by
  have := h
  simp [Lit.wf, IntKind.min, IntKind.max, IntKind.signed, IntKind.bits] at this
  exact this.2
theorem ftJ_size {s : GS} {ts : List Int} (h : shR s = true) (hw : ∀ y ∈ ts, -9223372036854775808 ≤ y ∧ y ≤ 9223372036854775807) : ∀ j, ∀ x ∈ ftJ s.ns ts j, x.size ≤ 1048576
  | 0, x, hx => by simp [ftJ] at hx
  | j + 1, x, hx => by
    unfold ftJ at hx
    rcases List.mem_append.1 hx with hx | hx
    · exact ftJ_size h hw j x hx
    · split at hx
      · simp at hx
      · obtain rfl : x = _ := by simpa using hx
        have hn : (s.ns[j]?.getD gN0).name.size ≤ 8 := by
          cases he : s.ns[j]? with
          | none => show (ByteArray.empty).size ≤ _; exact Nat.zero_le _
          | some e =>
            obtain ⟨hj, he2⟩ := List.getElem?_eq_some_iff.1 he
            have h1 := (shR_node h hj).1
            rw [he2] at h1
            unfold nameB at h1
            rw [Bool.and_eq_true, Bool.and_eq_true, decide_eq_true_eq, decide_eq_true_eq] at h1
            have := h1.1.2
            show e.name.size ≤ 8
            simpa using this
        have hv : -9223372036854775808 ≤ ts[j]?.getD 0 ∧ ts[j]?.getD 0 ≤ 9223372036854775807 := by
          cases he : ts[j]? with
          | none => simp
          | some y => exact hw y (List.mem_of_getElem? he)
        have hy := numB_le hv.1 hv.2
        rw [ByteArray.size_append, ByteArray.size_append]
        have e3 : (⟨#[64]⟩ : ByteArray).size = 1 := rfl
        omega
theorem ftJ_len {ns : List GN} {ts : List Int} : ∀ j, (ftJ ns ts j).length ≤ j
  | 0 => Nat.le_refl _
  | j + 1 => by
    have := ftJ_len (ns := ns) (ts := ts) j
    unfold ftJ
    split <;> simp <;> omega
theorem one_c1D (a : ByteArray) : ∀ u ∈ [Value.string a], u.oneCell' = true := fun u hu => by simp at hu; subst hu; rfl
theorem own_empD {W : World} {B s : Nat} {t : TypeId} (b : Nat) (hB : B ≤ b) (h : W.heap[b]? = some (.cells #[] t (0, 0))) : W.ownsRow B t s (.slice (some ⟨b, 0, none⟩) 0 0) 0 [] :=
  ⟨by simp, .inr ⟨b, 0, #[], rfl, hB, h, Nat.le_refl _, Nat.zero_le _, by simp, by simp⟩⟩
theorem heap_newD (w : World) (o : Obj) (g : Nat) (h : g = w.heap.size) : (w.alloc o).heap[g]? = some o := by rw [h]; exact heap_alloc_new w o

set_option maxRecDepth 100000 in
set_option maxHeartbeats 32000000 in
theorem spec_FormatTimes (s : GS) (ts : List Int) (A : Option Addr) (k c : Nat) (B : Option Addr) (m d : Nat) (T : Option Addr) (n e : Nat) (w : World) (hs : ShB s) (ha : ShowAt w s A k B m) (hl : ts.length = n) (hn : n ≤ 1048576) (hwf : ∀ y ∈ ts, (Lit.int .i64 y).wf = true) (hr : RowAt w T (ts.map intV)) :
    Calls Tryd.prog 13 #[shV A k c B m d s.h, .slice T n e] w fun x w' => x = .returned (.string (ftmR s ts)) ∧ Below w.heap.size w w' := by
  obtain ⟨i1, hii, hy0, hy1, hy2⟩ := info_parts Tryd.info9
  have hkk : k ≤ 1048576 := by have := hs.ns; have := ha.ln; omega
  have HOK := Lib.hid (fun W h => spec_ShowOk s A k c B m d W hs h)
  have HNM := Lib.hid (fun e he => (hs.each e he).1)
  have HLN := Lib.hid ha.ln
  have HL := Lib.hid hl
  have HWF := Lib.hid hwf
  have hrr : ftmR s ts = if shR s && decide (n = k) then (if (ftJ s.ns ts n).length = 0 then ⟨#[45]⟩ else joinB (ftJ s.ns ts n) ⟨#[32]⟩) else ⟨#[]⟩ := by unfold ftmR; rw [hl, ha.ln]; rfl
  have HRT := Lib.hid hrr
  have HRG := Lib.hid (fun (h : shR s = true) => shR_rng h)
  have HPS0 := Lib.hid (fun (h : shR s = true) => ftJ_size h (fun y hy => ⟨wf_lo9 (hwf y hy), wf_hi9 (hwf y hy)⟩))
  have HA := Lib.hid ha
  have HT := Lib.hid hr
  clear ha hs hr hl hrr hwf
  obtain ⟨h, hhh⟩ : ∃ h, h = s.h := ⟨_, rfl⟩
  rw [← hhh] at HOK
  rw [← hhh]
  clear hhh
  unfold shV at HOK ⊢
  obtain ⟨b1, hb1⟩ : ∃ b, b = shR s := ⟨_, rfl⟩
  rw [← hb1] at HOK HRT HRG HPS0
  clear hb1
  cases b1 with
  | false =>
    go_enter Tryd.func13, Tryd.ntmps13
    go_wp2_with fail
    refine (HOK.out _ (HA.out.below (w := w) (by repeat (first | exact Below.refl _ _ | refine below_step (by assumption) (by first | omega | (simp; done) | (simp; omega)) ?_ | refine below_drewN ?_ _ | refine Below.drew ?_ | refine Below.setCell ?_ (by first | omega | (simp; done) | (simp; omega)) _ | refine Below.alloc ?_ (by first | omega | (simp; done) | (simp; omega)) _)))).mono ?_
    rintro e w1 ⟨rfl, b1⟩
    have B_w1 : Below w.heap.size w w1 := (by repeat (first | exact Below.refl _ _ | refine below_step (by assumption) (by first | omega | (simp; done) | (simp; omega)) ?_ | refine below_drewN ?_ _ | refine Below.drew ?_ | refine Below.setCell ?_ (by first | omega | (simp; done) | (simp; omega)) _ | refine Below.alloc ?_ (by first | omega | (simp; done) | (simp; omega)) _))
    go_wp2_with fail
    go_ret
    exact ⟨str_ans (by rw [HRT.out]; rfl), B_w1⟩
  | true =>
    have hrg := HRG.out rfl
    rw [HLN.out] at hrg
    have hk7 : k ≤ 7 := hrg.2.1
    have HPS := Lib.hid (HPS0.out rfl)
    clear hrg HRG HPS0
    by_cases hnk : n = k
    · have hne : ((n : Int) != (k : Int)) = false := by simp [hnk]
      have HNK := Lib.hid hnk
      have HRT2 := Lib.hid (show ftmR s ts = if (ftJ s.ns ts n).length = 0 then ⟨#[45]⟩ else joinB (ftJ s.ns ts n) ⟨#[32]⟩ from by rw [HRT.out, decide_eq_true hnk]; rfl)
      have hn7 : n ≤ 7 := by omega
      clear hnk HRT
      go_enter Tryd.func13, Tryd.ntmps13
      go_wp2_with fail
      refine (HOK.out _ (HA.out.below (w := w) (by repeat (first | exact Below.refl _ _ | refine below_step (by assumption) (by first | omega | (simp; done) | (simp; omega)) ?_ | refine below_drewN ?_ _ | refine Below.drew ?_ | refine Below.setCell ?_ (by first | omega | (simp; done) | (simp; omega)) _ | refine Below.alloc ?_ (by first | omega | (simp; done) | (simp; omega)) _)))).mono ?_
      rintro x w1 ⟨rfl, b1⟩
      have B_w1 : Below w.heap.size w w1 := (by repeat (first | exact Below.refl _ _ | refine below_step (by assumption) (by first | omega | (simp; done) | (simp; omega)) ?_ | refine below_drewN ?_ _ | refine Below.drew ?_ | refine Below.setCell ?_ (by first | omega | (simp; done) | (simp; omega)) _ | refine Below.alloc ?_ (by first | omega | (simp; done) | (simp; omega)) _))
      have z0_w1 : w.heap.size < w1.heap.size := Nat.lt_of_lt_of_le (by first | omega | (simp; done) | (simp; omega)) b1.size
      have c0_w1 : w1.cell? ⟨w.heap.size, 0, none⟩ = some (.slice A k c) := (b1.cell (p := ⟨w.heap.size, 0, none⟩) (by first | omega | (simp; done) | (simp; omega))).trans (by first | assumption | go_simp)
      have HA1 := Lib.hid (HA.out.below B_w1)
      have HT1 := Lib.hid (HT.out.below B_w1)
      have BW1 := Lib.hid B_w1
      obtain ⟨wa, hwa⟩ : ∃ W, W = w1.alloc (.cells #[] 9) := ⟨_, rfl⟩
      have ba : Below w1.heap.size w1 wa := by rw [hwa]; exact (Below.refl _ _).alloc (Nat.le_refl _) _
      have OA : Hid (wa.ownsRow w1.heap.size 9 1 (.slice (some ⟨w1.heap.size, 0, none⟩) 0 0) 0 ((ftJ s.ns ts 0).map Value.string)) := Lib.hid (own_empD w1.heap.size (Nat.le_refl _) (by rw [hwa]; exact heap_alloc_new _ _))
      have BA := Lib.hid ba
      have HWA := Lib.hid hwa
      clear b1 B_w1 ba hwa
      go_upto_region 4 with (fail)
      rw [← HWA.out]
      clear HWA
      go_wp2_with fail
      go_loopw [22, 5] (fun i sv wr => ∃ (j q : Nat) (A2 : Option Addr) (d2 : Nat), j ≤ n ∧ i = .int .i64 j ∧ sv = .slice A2 q d2 ∧ q = (ftJ s.ns ts j).length ∧ wr.ownsRow w1.heap.size 9 1 (.slice A2 q d2) q ((ftJ s.ns ts j).map Value.string) ∧ Below w1.heap.size w1 wr) (fun i _ _ => n - (intOf i).toNat)
      case atStart => exact ⟨0, 0, _, _, Nat.zero_le _, rfl, rfl, rfl, OA.out, BA.out⟩
      case round =>
        obtain ⟨j, q, A2, d2, hj, rfl, rfl, hq, hown, hb⟩ := hrel
        have OW := Lib.hid hown
        have HB := Lib.hid hb
        have HQ := Lib.hid hq
        have hqj : q ≤ j := by rw [hq]; exact ftJ_len j
        have zb := hb.size
        clear hown hb hq
        by_cases hlt : j < n
        · have hjl : ((j : Int) < (n : Int)) := by omega
          obtain ⟨gt, ot, hT, hgt, hc⟩ := row_getB HT1.out (q := j) (by have := HL.out; omega)
          obtain ⟨x, hx⟩ : ∃ x, x = ts[j]'(by have := HL.out; omega) := ⟨_, rfl⟩
          have hxj : ts[j]? = some x := by rw [hx]; exact List.getElem?_eq_getElem _
          have hxw := HWF.out x (by rw [hx]; exact List.getElem_mem _)
          rw [← hx] at hc
          subst hT
          have x1 := (HB.out.cell (p := ⟨gt, ot + j, none⟩) hgt).trans hc
          have c0_wr := (HB.out.cell (p := ⟨w.heap.size, 0, none⟩) z0_w1).trans c0_w1
          have zw : w.heap.size < wr.heap.size := by omega
          by_cases hx1 : x = -1
          · have hxb : (x != -1) = false := by simp [hx1]
            have HNX := Lib.hid (ftJ_open (ns := s.ns) (by rw [← hx1]; exact hxj))
            clear hx hxj hxw hc hx1
            go_wp2_with fail
            go_roundw
            case rel => exact ⟨j + 1, q, A2, d2, by omega, by go_num, rfl, by rw [HNX.out]; exact HQ.out, by rw [HNX.out]; exact OW.out, HB.out⟩
            case measure => simp [intOf]; omega
          · have hxb : (x != -1) = true := by simp [hx1]
            have hjk : j < s.ns.length := by have := HLN.out; have := HNK.out; omega
            obtain ⟨⟨nm, lab, wat⟩, he⟩ : ∃ e, s.ns[j]? = some e := ⟨_, List.getElem?_eq_getElem hjk⟩
            have hnm := HNM.out _ (List.mem_of_getElem? he)
            have HNX0 := ftJ_at hxj hx1 he
            dsimp only at hnm HNX0
            have hxr : -9223372036854775808 ≤ x ∧ x ≤ 9223372036854775807 := ⟨wf_lo9 hxw, wf_hi9 hxw⟩
            have hys := numB_le hxr.1 hxr.2
            have hN := fun W => spec_FormatInt x W hxr.1 hxr.2
            obtain ⟨y, hy⟩ : ∃ y, y = numB x := ⟨_, rfl⟩
            rw [← hy] at hys hN HNX0
            have HN := Lib.hid hN
            have HNX := Lib.hid HNX0
            obtain ⟨g, o, L, cl, rfl, hg, a0, _, _, _⟩ := node_facts (HA1.out.below HB.out).nodes he
            dsimp only at a0
            have hj0 : (0 : Int) ≤ (j : Int) := by omega
            have hjk2 : (j : Int) < (k : Int) := by have := HNK.out; omega
            clear hx hxj hxw hc hx1 he hxr hN HNX0 hy
            have g1 : ¬ (9223372036854775807 < nm.size + 1) := by omega
            have g2 : ¬ (9223372036854775807 < nm.size + 1 + y.size) := by omega
            go_upto_region 8 with (fail)
            go_region_law (first
                | (refine step_append_lies _ rfl _ _ 59 rfl (w1.heap.size) 9 i1 (.string ⟨#[]⟩) 1 16 Tryd.underlying59 hii hy0 hy1 hy2 rfl (by decide) _ _ _ rfl (OW5.out.alloc _) ⟨_, 0, none⟩ 1 1 _ rfl rfl (World.news_of_block (heap_newD _ _ _ (by first | rfl | simp))) (one_c1D _) (by decide) (by unfold maxLen; omega) (by omega) (by simp; omega) _ rfl ?_; intro g3 cap w6 ho6 hg6 hat6 hl6)
                | (go_simp; go_at_call 28; refine (HN.out _).mono ?_; rintro e w5 ⟨rfl, b5⟩; have q5 : Below wr.heap.size wr w5 := (by repeat (first | exact Below.refl _ _ | refine below_step (by assumption) (by first | omega | (simp; done) | (simp; omega)) ?_ | refine below_drewN ?_ _ | refine Below.drew ?_ | refine Below.setCell ?_ (by first | omega | (simp; done) | (simp; omega)) _ | refine Below.alloc ?_ (by first | omega | (simp; done) | (simp; omega)) _)); have HB5 := Lib.hid (HB.out.trans (q5.mono zb)); have OW5 := Lib.hid (own_below OW.out q5); have k0 := (q5.cell (p := ⟨w.heap.size, 0, none⟩) zw).trans c0_wr; have k1 := (q5.cell (p := ⟨g, o + j * 3, none⟩) hg).trans a0; have zb5 := HB5.out.size; have zw5 : w.heap.size < w5.heap.size := Nat.lt_of_lt_of_le zw q5.size; have zg5 : g < w5.heap.size := Nat.lt_of_lt_of_le hg q5.size; clear q5))
            all_goals
              clear k0 k1 zw5 zg5
              go_wp2_with fail
              go_roundw
              case rel => exact ⟨j + 1, q + 1, some ⟨g3, 0, none⟩, cap, by omega, by go_num, rfl, by rw [HNX.out, List.length_append, ← HQ.out]; rfl, by rw [HNX.out, List.map_append]; simpa using ho6, (HB5.out.alloc zb5 _).grown hg6 (by simp; omega) (fun r hr => (OW5.out.lt r hr).1)⟩
              case measure => simp [intOf]; omega
        · have hjl : ¬ ((j : Int) < (n : Int)) := by omega
          have hjn : j = n := by omega
          subst hjn
          have HRT3 := Lib.hid (show ftmR s ts = if q = 0 then ⟨#[45]⟩ else joinB (ftJ s.ns ts j) ⟨#[32]⟩ from by rw [HRT2.out, ← HQ.out])
          by_cases hq0 : q = 0
          · have hqb : ((q : Int) == 0) = true := by simp [hq0]
            have HF := Lib.hid (show ftmR s ts = ⟨#[45]⟩ from by rw [HRT3.out, if_pos hq0])
            clear hq0
            go_wp2_with fail
            go_ret
            exact ⟨str_ans HF.out.symm, BW1.out.trans (HB.out.mono BW1.out.size)⟩
          · have hqb : ((q : Int) == 0) = false := by simp [hq0]
            have HF := Lib.hid (show ftmR s ts = joinB (ftJ s.ns ts j) ⟨#[32]⟩ from by rw [HRT3.out, if_neg hq0])
            have HJ := Lib.hid (spec_Join (ftJ s.ns ts j) ⟨#[32]⟩ A2 q d2 wr HQ.out.symm (by omega) (by decide) (HPS.out j) (own_row OW.out))
            clear hq0
            go_wp2_with fail
            refine HJ.out.mono ?_
            rintro x w5 ⟨rfl, hw5⟩
            have b5 : Below wr.heap.size wr w5 := by first | exact hw5 | (rw [← hw5]; exact Below.refl _ _) | (rw [hw5]; exact Below.refl _ _)
            have HB5 := Lib.hid (HB.out.trans (b5.mono zb))
            clear hw5 b5
            go_wp2_with fail
            go_ret
            exact ⟨str_ans HF.out.symm, BW1.out.trans (HB5.out.mono BW1.out.size)⟩
    · have hne : ((n : Int) != (k : Int)) = true := by simp; omega
      have HF := Lib.hid (show ftmR s ts = ⟨#[]⟩ from by rw [HRT.out, decide_eq_false hnk]; rfl)
      clear hnk
      go_enter Tryd.func13, Tryd.ntmps13
      go_wp2_with fail
      refine (HOK.out _ (HA.out.below (w := w) (by repeat (first | exact Below.refl _ _ | refine below_step (by assumption) (by first | omega | (simp; done) | (simp; omega)) ?_ | refine below_drewN ?_ _ | refine Below.drew ?_ | refine Below.setCell ?_ (by first | omega | (simp; done) | (simp; omega)) _ | refine Below.alloc ?_ (by first | omega | (simp; done) | (simp; omega)) _)))).mono ?_
      rintro x w1 ⟨rfl, b1⟩
      have B_w1 : Below w.heap.size w w1 := (by repeat (first | exact Below.refl _ _ | refine below_step (by assumption) (by first | omega | (simp; done) | (simp; omega)) ?_ | refine below_drewN ?_ _ | refine Below.drew ?_ | refine Below.setCell ?_ (by first | omega | (simp; done) | (simp; omega)) _ | refine Below.alloc ?_ (by first | omega | (simp; done) | (simp; omega)) _))
      have c0_w1 : w1.cell? ⟨w.heap.size, 0, none⟩ = some (.slice A k c) := (b1.cell (p := ⟨w.heap.size, 0, none⟩) (by first | omega | (simp; done) | (simp; omega))).trans (by first | assumption | go_simp)
      clear b1
      go_wp2_with fail
      go_ret
      exact ⟨str_ans HF.out.symm, B_w1⟩

end Go.Proofs.YtgajodcgedhikaaDoor

namespace Go.Proofs.YtgajodcgedhikaaDoor
open Go.RowKit
set_option linter.unusedVariables false
set_option linter.unusedSimpArgs false

theorem join_at (nm y : ByteArray) : joinB [nm, y] ⟨#[64]⟩ = (nm ++ ⟨#[64]⟩) ++ y := by
  apply bytes_inj
  simp [joinB, joinTo]

set_option maxRecDepth 100000 in
set_option maxHeartbeats 32000000 in
theorem impl_FormatTimes (s : GS) (ts : List Int) (A : Option Addr) (k c : Nat) (B : Option Addr) (m d : Nat) (T : Option Addr) (n e : Nat) (w : World) (hs : ShB s) (hw : ∀ e ∈ s.ns, e.wf) (ha : ShowAt w s A k B m) (hl : ts.length = n) (hn : n ≤ 1048576) (hwf : ∀ y ∈ ts, (Lit.int .i64 y).wf = true) (hr : RowAt w T (ts.map intV)) (hp : Pow10 w) :
    Calls Tryd.prog 15 #[shV A k c B m d s.h, .slice T n e] w fun x w' => x = .returned (.string (ftmR s ts)) ∧ Below w.heap.size w w' := by
  obtain ⟨i1, hii, hy0, hy1, hy2⟩ := info_parts Tryd.info9
  have hkk : k ≤ 1048576 := by have := hs.ns; have := ha.ln; omega
  have HOK := Lib.hid (fun W h => impl_ShowOk s A k c B m d W hs hw h)
  have HNM := Lib.hid (fun e he => (hs.each e he).1)
  have HLN := Lib.hid ha.ln
  have HL := Lib.hid hl
  have HWF := Lib.hid hwf
  have hrr : ftmR s ts = if shR s && decide (n = k) then (if (ftJ s.ns ts n).length = 0 then ⟨#[45]⟩ else joinB (ftJ s.ns ts n) ⟨#[32]⟩) else ⟨#[]⟩ := by unfold ftmR; rw [hl, ha.ln]; rfl
  have HRT := Lib.hid hrr
  have HRG := Lib.hid (fun (h : shR s = true) => shR_rng h)
  have HNM80 := Lib.hid (fun (h : shR s = true) e he => name_le (e := e) h he)
  have HPS0 := Lib.hid (fun (h : shR s = true) => ftJ_size h (fun y hy => ⟨wf_lo9 (hwf y hy), wf_hi9 (hwf y hy)⟩))
  have HA := Lib.hid ha
  have HT := Lib.hid hr
  have HP := Lib.hid hp
  clear ha hs hr hl hrr hwf hw hp
  obtain ⟨h, hhh⟩ : ∃ h, h = s.h := ⟨_, rfl⟩
  rw [← hhh] at HOK
  rw [← hhh]
  clear hhh
  unfold shV at HOK ⊢
  obtain ⟨b1, hb1⟩ : ∃ b, b = shR s := ⟨_, rfl⟩
  rw [← hb1] at HOK HRT HRG HPS0 HNM80
  clear hb1
  cases b1 with
  | false =>
    go_enter Tryd.func15, Tryd.ntmps15
    go_wp2_with fail
    refine (HOK.out _ (HA.out.below (w := w) (by repeat (first | exact Below.refl _ _ | refine below_step (by assumption) (by first | omega | (simp; done) | (simp; omega)) ?_ | refine below_drewN ?_ _ | refine Below.drew ?_ | refine Below.setCell ?_ (by first | omega | (simp; done) | (simp; omega)) _ | refine Below.alloc ?_ (by first | omega | (simp; done) | (simp; omega)) _)))).mono ?_
    rintro e w1 ⟨rfl, b1⟩
    have B_w1 : Below w.heap.size w w1 := (by repeat (first | exact Below.refl _ _ | refine below_step (by assumption) (by first | omega | (simp; done) | (simp; omega)) ?_ | refine below_drewN ?_ _ | refine Below.drew ?_ | refine Below.setCell ?_ (by first | omega | (simp; done) | (simp; omega)) _ | refine Below.alloc ?_ (by first | omega | (simp; done) | (simp; omega)) _))
    go_wp2_with fail
    go_ret
    exact ⟨str_ans (by rw [HRT.out]; rfl), B_w1⟩
  | true =>
    have hrg := HRG.out rfl
    rw [HLN.out] at hrg
    have hk7 : k ≤ 7 := hrg.2.1
    have HPS := Lib.hid (HPS0.out rfl)
    have HNM8 := Lib.hid (HNM80.out rfl)
    clear hrg HRG HPS0
    by_cases hnk : n = k
    · have hne : ((n : Int) != (k : Int)) = false := by simp [hnk]
      have HNK := Lib.hid hnk
      have HRT2 := Lib.hid (show ftmR s ts = if (ftJ s.ns ts n).length = 0 then ⟨#[45]⟩ else joinB (ftJ s.ns ts n) ⟨#[32]⟩ from by rw [HRT.out, decide_eq_true hnk]; rfl)
      have hn7 : n ≤ 7 := by omega
      clear hnk HRT
      go_enter Tryd.func15, Tryd.ntmps15
      go_wp2_with fail
      refine (HOK.out _ (HA.out.below (w := w) (by repeat (first | exact Below.refl _ _ | refine below_step (by assumption) (by first | omega | (simp; done) | (simp; omega)) ?_ | refine below_drewN ?_ _ | refine Below.drew ?_ | refine Below.setCell ?_ (by first | omega | (simp; done) | (simp; omega)) _ | refine Below.alloc ?_ (by first | omega | (simp; done) | (simp; omega)) _)))).mono ?_
      rintro x w1 ⟨rfl, b1⟩
      have B_w1 : Below w.heap.size w w1 := (by repeat (first | exact Below.refl _ _ | refine below_step (by assumption) (by first | omega | (simp; done) | (simp; omega)) ?_ | refine below_drewN ?_ _ | refine Below.drew ?_ | refine Below.setCell ?_ (by first | omega | (simp; done) | (simp; omega)) _ | refine Below.alloc ?_ (by first | omega | (simp; done) | (simp; omega)) _))
      have z0_w1 : w.heap.size < w1.heap.size := Nat.lt_of_lt_of_le (by first | omega | (simp; done) | (simp; omega)) b1.size
      have c0_w1 : w1.cell? ⟨w.heap.size, 0, none⟩ = some (.slice A k c) := (b1.cell (p := ⟨w.heap.size, 0, none⟩) (by first | omega | (simp; done) | (simp; omega))).trans (by first | assumption | go_simp)
      have HA1 := Lib.hid (HA.out.below B_w1)
      have HT1 := Lib.hid (HT.out.below B_w1)
      have BW1 := Lib.hid B_w1
      have OA : Hid (w1.ownsRow w1.heap.size 9 1 (.slice none 0 0) 0 ((ftJ s.ns ts 0).map Value.string)) := Lib.hid (World.ownsRow_nil _ _ _ _)
      have HP1 := Lib.hid (pow_kept HP.out B_w1)
      clear b1 B_w1
      go_wp2_with fail
      go_loopw [21, 5] (fun i sv wr => ∃ (j q : Nat) (A2 : Option Addr) (d2 : Nat), j ≤ n ∧ i = .int .i64 j ∧ sv = .slice A2 q d2 ∧ q = (ftJ s.ns ts j).length ∧ wr.ownsRow w1.heap.size 9 1 (.slice A2 q d2) q ((ftJ s.ns ts j).map Value.string) ∧ Below w1.heap.size w1 wr) (fun i _ _ => n - (intOf i).toNat)
      case atStart => exact ⟨0, 0, _, _, Nat.zero_le _, rfl, rfl, rfl, OA.out, Below.refl _ _⟩
      case round =>
        obtain ⟨j, q, A2, d2, hj, rfl, rfl, hq, hown, hb⟩ := hrel
        have OW := Lib.hid hown
        have HB := Lib.hid hb
        have HQ := Lib.hid hq
        have hqj : q ≤ j := by rw [hq]; exact ftJ_len j
        have zb := hb.size
        clear hown hb hq
        by_cases hlt : j < n
        · have hjl : ((j : Int) < (n : Int)) := by omega
          obtain ⟨gt, ot, hT, hgt, hc⟩ := row_getB HT1.out (q := j) (by have := HL.out; omega)
          obtain ⟨x, hx⟩ : ∃ x, x = ts[j]'(by have := HL.out; omega) := ⟨_, rfl⟩
          have hxj : ts[j]? = some x := by rw [hx]; exact List.getElem?_eq_getElem _
          have hxw := HWF.out x (by rw [hx]; exact List.getElem_mem _)
          rw [← hx] at hc
          subst hT
          have x1 := (HB.out.cell (p := ⟨gt, ot + j, none⟩) hgt).trans hc
          have c0_wr := (HB.out.cell (p := ⟨w.heap.size, 0, none⟩) z0_w1).trans c0_w1
          have zw : w.heap.size < wr.heap.size := by omega
          by_cases hx1 : x = -1
          · have hxb : (x != -1) = false := by simp [hx1]
            have HNX := Lib.hid (ftJ_open (ns := s.ns) (by rw [← hx1]; exact hxj))
            clear hx hxj hxw hc hx1
            go_wp2_with fail
            go_roundw
            case rel => exact ⟨j + 1, q, A2, d2, by omega, by go_num, rfl, by rw [HNX.out]; exact HQ.out, by rw [HNX.out]; exact OW.out, HB.out⟩
            case measure => simp [intOf]; omega
          · have hxb : (x != -1) = true := by simp [hx1]
            have hjk : j < s.ns.length := by have := HLN.out; have := HNK.out; omega
            obtain ⟨⟨nm, lab, wat⟩, he⟩ : ∃ e, s.ns[j]? = some e := ⟨_, List.getElem?_eq_getElem hjk⟩
            have hnm := HNM.out _ (List.mem_of_getElem? he)
            have hnm8 : nm.size ≤ 8 := HNM8.out _ (List.mem_of_getElem? he)
            have HNX0 := ftJ_at hxj hx1 he
            dsimp only at hnm HNX0
            have hxr : -9223372036854775808 ≤ x ∧ x ≤ 9223372036854775807 := ⟨wf_lo9 hxw, wf_hi9 hxw⟩
            have hys := numB_le hxr.1 hxr.2
            have hN := fun W q => impl_FormatInt x W hxr.1 hxr.2 q
            obtain ⟨y, hy⟩ : ∃ y, y = numB x := ⟨_, rfl⟩
            rw [← hy] at hys hN HNX0
            have HN := Lib.hid hN
            rw [← join_at] at HNX0
            have HNX := Lib.hid HNX0
            obtain ⟨r, hr⟩ : ∃ r, r = joinB [nm, y] ⟨#[64]⟩ := ⟨_, rfl⟩
            have hrs : r.size ≤ 1048576 := by rw [hr, join_at, ByteArray.size_append, ByteArray.size_append]; have := hnm8; show nm.size + 1 + y.size ≤ _; omega
            rw [← hr] at HNX
            have HRJ := Lib.hid hr
            clear hr
            obtain ⟨g, o, L, cl, rfl, hg, a0, _, _, _⟩ := node_facts (HA1.out.below HB.out).nodes he
            dsimp only at a0
            have hj0 : (0 : Int) ≤ (j : Int) := by omega
            have hjk2 : (j : Int) < (k : Int) := by have := HNK.out; omega
            clear hx hxj hxw hc hx1 he hxr hN HNX0 hy
            go_upto_region 8 with (fail)
            go_region_law (first
                | (refine step_append_lies _ rfl _ _ 59 rfl (w1.heap.size) 9 i1 (.string ⟨#[]⟩) 1 16 Tryd.underlying59 hii hy0 hy1 hy2 rfl (by decide) _ _ _ rfl (OW7.out.alloc _) ⟨_, 0, none⟩ 1 1 _ rfl rfl (World.news_of_block (heap_newD _ _ _ (by first | rfl | simp))) (one_c1D _) (by decide) (by unfold maxLen; omega) (by omega) (by simp; omega) _ rfl ?_; intro g3 cap w6 ho6 hg6 hat6 hl6)
                | (go_simp; go_at_call 31; refine (HN.out _ (pow_kept HP1.out (HB.out.drew))).mono ?_; rintro e w5 ⟨rfl, b5⟩; have q5 : Below wr.heap.size wr w5 := (by repeat (first | exact Below.refl _ _ | refine below_step (by assumption) (by first | omega | (simp; done) | (simp; omega)) ?_ | refine below_drewN ?_ _ | refine Below.drew ?_ | refine Below.setCell ?_ (by first | omega | (simp; done) | (simp; omega)) _ | refine Below.alloc ?_ (by first | omega | (simp; done) | (simp; omega)) _)); have HB5 := Lib.hid (HB.out.trans (q5.mono zb)); have OW5 := Lib.hid (own_below OW.out q5); have k0 := (q5.cell (p := ⟨w.heap.size, 0, none⟩) zw).trans c0_wr; have k1 := (q5.cell (p := ⟨g, o + j * 3, none⟩) hg).trans a0; have zb5 := HB5.out.size; have zw5 : w.heap.size < w5.heap.size := Nat.lt_of_lt_of_le zw q5.size; have zg5 : g < w5.heap.size := Nat.lt_of_lt_of_le hg q5.size; clear q5)
                | (go_simp; go_at_call 30; refine (impl_joinParts [nm, y] ⟨#[64]⟩ _ 2 2 _ rfl (by omega) (by decide) (by intro z9 h9; simp at h9; rcases h9 with rfl | rfl <;> omega) (by exact row_newX w5 [nm, y] _ rfl)).mono ?_; rintro e w7 ⟨rfl, b7⟩; rw [← HRJ.out]; have q7 : Below w5.heap.size w5 w7 := ((Below.refl _ _).alloc (Nat.le_refl _) _).trans (b7.mono (by simp)); have HB7 := Lib.hid (HB5.out.trans (q7.mono zb5)); have OW7 := Lib.hid (own_below OW5.out q7); have k07 := (q7.cell (p := ⟨w.heap.size, 0, none⟩) zw5).trans k0; have k17 := (q7.cell (p := ⟨g, o + j * 3, none⟩) zg5).trans k1; have zb7 := HB7.out.size; have zw7 : w.heap.size < w7.heap.size := Nat.lt_of_lt_of_le zw5 q7.size; have zg7 : g < w7.heap.size := Nat.lt_of_lt_of_le zg5 q7.size; clear q7 b7))
            all_goals
              clear k0 k1 zw5 zg5 k07 k17 zw7 zg7
              go_wp2_with fail
              go_roundw
              case rel => exact ⟨j + 1, q + 1, some ⟨g3, 0, none⟩, cap, by omega, by go_num, rfl, by rw [HNX.out, List.length_append, ← HQ.out]; rfl, by rw [HNX.out, List.map_append]; simpa using ho6, (HB7.out.alloc zb7 _).grown hg6 (by simp; omega) (fun r hr => (OW7.out.lt r hr).1)⟩
              case measure => simp [intOf]; omega
        · have hjl : ¬ ((j : Int) < (n : Int)) := by omega
          have hjn : j = n := by omega
          subst hjn
          have HRT3 := Lib.hid (show ftmR s ts = if q = 0 then ⟨#[45]⟩ else joinB (ftJ s.ns ts j) ⟨#[32]⟩ from by rw [HRT2.out, ← HQ.out])
          by_cases hq0 : q = 0
          · have hqb : ((q : Int) == 0) = true := by simp [hq0]
            have HF := Lib.hid (show ftmR s ts = ⟨#[45]⟩ from by rw [HRT3.out, if_pos hq0])
            clear hq0
            go_wp2_with fail
            go_ret
            exact ⟨str_ans HF.out.symm, BW1.out.trans (HB.out.mono BW1.out.size)⟩
          · have hqb : ((q : Int) == 0) = false := by simp [hq0]
            have HF := Lib.hid (show ftmR s ts = joinB (ftJ s.ns ts j) ⟨#[32]⟩ from by rw [HRT3.out, if_neg hq0])
            have HJ := Lib.hid (impl_Join (ftJ s.ns ts j) ⟨#[32]⟩ A2 q d2 wr HQ.out.symm (by omega) (by decide) (HPS.out j) (own_row OW.out))
            clear hq0
            go_wp2_with fail
            refine HJ.out.mono ?_
            rintro x w5 ⟨rfl, hw5⟩
            have b5 : Below wr.heap.size wr w5 := by first | exact hw5 | (rw [← hw5]; exact Below.refl _ _) | (rw [hw5]; exact Below.refl _ _)
            have HB5 := Lib.hid (HB.out.trans (b5.mono zb))
            clear hw5 b5
            go_wp2_with fail
            go_ret
            exact ⟨str_ans HF.out.symm, BW1.out.trans (HB5.out.mono BW1.out.size)⟩
    · have hne : ((n : Int) != (k : Int)) = true := by simp; omega
      have HF := Lib.hid (show ftmR s ts = ⟨#[]⟩ from by rw [HRT.out, decide_eq_false hnk]; rfl)
      clear hnk
      go_enter Tryd.func15, Tryd.ntmps15
      go_wp2_with fail
      refine (HOK.out _ (HA.out.below (w := w) (by repeat (first | exact Below.refl _ _ | refine below_step (by assumption) (by first | omega | (simp; done) | (simp; omega)) ?_ | refine below_drewN ?_ _ | refine Below.drew ?_ | refine Below.setCell ?_ (by first | omega | (simp; done) | (simp; omega)) _ | refine Below.alloc ?_ (by first | omega | (simp; done) | (simp; omega)) _)))).mono ?_
      rintro x w1 ⟨rfl, b1⟩
      have B_w1 : Below w.heap.size w w1 := (by repeat (first | exact Below.refl _ _ | refine below_step (by assumption) (by first | omega | (simp; done) | (simp; omega)) ?_ | refine below_drewN ?_ _ | refine Below.drew ?_ | refine Below.setCell ?_ (by first | omega | (simp; done) | (simp; omega)) _ | refine Below.alloc ?_ (by first | omega | (simp; done) | (simp; omega)) _))
      have c0_w1 : w1.cell? ⟨w.heap.size, 0, none⟩ = some (.slice A k c) := (b1.cell (p := ⟨w.heap.size, 0, none⟩) (by first | omega | (simp; done) | (simp; omega))).trans (by first | assumption | go_simp)
      clear b1
      go_wp2_with fail
      go_ret
      exact ⟨str_ans HF.out.symm, B_w1⟩

end Go.Proofs.YtgajodcgedhikaaDoor

namespace Go.Proofs.YtgajodcgedhikaaDoor
open Go.RowKit
set_option linter.unusedVariables false

end Go.Proofs.YtgajodcgedhikaaDoor
