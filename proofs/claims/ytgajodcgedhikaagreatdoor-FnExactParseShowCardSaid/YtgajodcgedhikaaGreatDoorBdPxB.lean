/-
  WALK of the program's FormatShow.
  WALK of the program's ParseShow.
  What the listed error values give.
  THE CONTRACT OF impl's ParseShow (PxG).
-/
import Derived.Test.YtgajodcgedhikaaGreatDoorBdPxF
import Derived.Test.YtgajodcgedhikaaGreatDoorBdParse
import Derived.Stop.LaidErr
import Derived.LaidLaws
namespace Go.Proofs.YtgajodcgedhikaaGreatDoor
open Go.RowKit
set_option linter.unusedVariables false
set_option linter.unusedSimpArgs false

/-- The lines that are there behind j nodes, and behind all nodes and j ties. -/
def liN (s : GS) (j : Nat) : List ByteArray := horL s.h :: (s.ns.take j).map nodL
def liT (s : GS) (j : Nat) : List ByteArray := liN s s.ns.length ++ (s.ts.take j).map (tieW s.ns)
theorem liN_next {s : GS} {j : Nat} {e : GN} (h : s.ns[j]? = some e) : liN s (j + 1) = liN s j ++ [nodL e] := by
  unfold liN
  rw [List.take_add_one, h, List.map_append]; rfl
theorem liT_next {s : GS} {j : Nat} {t : GT} (h : s.ts[j]? = some t) : liT s (j + 1) = liT s j ++ [tieW s.ns t] := by
  unfold liT
  rw [List.take_add_one, h, List.map_append, ← List.append_assoc]; rfl
theorem liT_0 (s : GS) : liT s 0 = liN s s.ns.length := by unfold liT; simp
theorem liT_all (s : GS) : liT s s.ts.length = linS s := by
  unfold liT liN linS
  rw [List.take_of_length_le (Nat.le_refl _), List.take_of_length_le (Nat.le_refl _)]
theorem name_le {s : GS} (h : shR s = true) {e : GN} (he : e ∈ s.ns) : e.name.size ≤ 8 := by
  obtain ⟨j, hj, rfl⟩ := List.getElem_of_mem he
  have h1 := (shR_node h hj).1
  unfold nameB at h1
  rw [Bool.and_eq_true, Bool.and_eq_true, decide_eq_true_eq, decide_eq_true_eq] at h1
  have := h1.1.2
  simpa using this
theorem nmAt_le {s : GS} (h : shR s = true) (v : Int) : (nmAt s.ns v).size ≤ 8 := by
  unfold nmAt
  cases he : s.ns[v.toNat]? with
  | none => show (ByteArray.empty).size ≤ _; exact Nat.zero_le _
  | some e => exact name_le h (List.mem_of_getElem? he)
theorem nodL_size {e : GN} (h1 : e.name.size ≤ 8) (h2 : labR e.lab = true) (h3 : 0 ≤ e.wat) (h4 : e.wat ≤ 3) : (nodL e).size ≤ 100 := by
  have hf := fmtL_size h2
  have hn := numB_le (n := e.wat) (by omega) (by omega)
  have q1 : (⟨#[110, 111, 100, 101, 32]⟩ : ByteArray).size = 5 := rfl
  have q2 : (⟨#[32, 119, 97, 116, 99, 104, 32]⟩ : ByteArray).size = 7 := rfl
  have q3 : bSp.size = 1 := rfl
  unfold nodL
  split <;> simp only [ByteArray.size_append] <;> omega
theorem lin_size {s : GS} (h : shR s = true) : ∀ x ∈ linS s, x.size ≤ 1048576 := by
  intro x hx
  have hr := shR_rng h
  unfold linS at hx
  rcases List.mem_append.1 hx with hx | hx
  · rcases List.mem_cons.1 hx with rfl | hx
    · have := numB_le (n := s.h) (by omega) (by omega)
      have q1 : (⟨#[104, 111, 114, 105, 122, 111, 110, 32]⟩ : ByteArray).size = 8 := rfl
      unfold horL
      simp only [ByteArray.size_append]
      omega
    · obtain ⟨e, he, rfl⟩ := List.mem_map.1 hx
      obtain ⟨j, hj, hje⟩ := List.getElem_of_mem he
      have h1 := shR_node h hj
      rw [hje] at h1
      have := nodL_size (name_le h he) h1.2.1 h1.2.2.1 h1.2.2.2.1
      omega
  · obtain ⟨t, ht, rfl⟩ := List.mem_map.1 hx
    obtain ⟨j, hj, hje⟩ := List.getElem_of_mem ht
    have h1 := shR_tie h hj
    rw [hje] at h1
    have a1 := nmAt_le h t.u
    have a2 := nmAt_le h t.v
    have b1 := numB_le (n := t.lo) (by omega) (by omega)
    have b2 := numB_le (n := t.hi) (by omega) (by omega)
    have h3 : (if t.fr then (⟨#[102, 114, 101, 101, 32]⟩ : ByteArray) else ⟨#[116, 105, 101, 32]⟩).size ≤ 5 := by split <;> decide
    have h4 : bSp.size = 1 := rfl
    unfold tieW
    simp only [ByteArray.size_append]
    omega
theorem joinTo_cat (b : ByteArray) (c : UInt8) (hb : b = ⟨#[c]⟩) (ss : List ByteArray) : ∀ j, j ≤ ss.length → 0 < j → (joinTo ss b j).data.toList ++ [c] = catL c ((ss.take j).map (·.data.toList))
  | 0, _, h => absurd h (by omega)
  | j + 1, hj, _ => by
    have hx : ss.getD j ⟨#[]⟩ = ss[j] := by rw [List.getD_eq_getElem?_getD, List.getElem?_eq_getElem (by omega)]; rfl
    have ht : ss.take (j + 1) = ss.take j ++ [ss[j]] := by rw [List.take_add_one, List.getElem?_eq_getElem (by omega)]; rfl
    rw [joinTo, hx, ht, List.map_append, show List.map (·.data.toList) [ss[j]] = [ss[j].data.toList] from rfl, cat_snoc]
    by_cases h0 : 0 < j
    · have ih := joinTo_cat b c hb ss j (by omega) h0
      rw [if_pos h0, ← ih, hb]
      simp
    · obtain rfl : j = 0 := by omega
      rw [if_neg (by omega)]
      simp [joinTo, catL]
theorem fmtS_join {s : GS} (h : shR s = true) : joinB (linS s) bNl ++ bNl = fmtS s := by
  apply bytes_inj
  rw [fmtS_bytes h]
  have h1 := joinTo_cat bNl 10 rfl (linS s) (linS s).length (Nat.le_refl _) (by unfold linS; simp)
  rw [List.take_of_length_le (Nat.le_refl _)] at h1
  rw [← h1]
  simp [joinB, bNl]
theorem fmtS_no {s : GS} (h : shR s = false) : fmtS s = ⟨#[]⟩ := by unfold fmtS; rw [if_neg (by rw [h]; simp)]
theorem join_two0 (x y : ByteArray) : joinB [x, y] ⟨#[]⟩ = x ++ y := join_twoL x y
theorem joinB_le {ss : List ByteArray} {b : ByteArray} (hb : b.size ≤ 1) (hs : ∀ x ∈ ss, x.size ≤ 1000) (hn : ss.length ≤ 100) : (joinB ss b).size ≤ 1048576 := by
  have h1 : ∀ j, (joinTo ss b j).size ≤ j * 1001 := by
    intro j
    induction j with
    | zero => show (ByteArray.mk #[]).size ≤ _; exact Nat.zero_le _
    | succ j ih =>
      have hx : (ss.getD j ⟨#[]⟩).size ≤ 1000 := by
        rw [List.getD_eq_getElem?_getD]
        cases he : ss[j]? with
        | none => show (ByteArray.mk #[]).size ≤ _; exact Nat.zero_le _
        | some e => exact hs e (List.mem_of_getElem? he)
      rw [joinTo]
      split <;> simp only [ByteArray.size_append] <;> omega
  have := h1 ss.length
  unfold joinB
  omega
theorem lin_small {s : GS} (h : shR s = true) : ∀ x ∈ linS s, x.size ≤ 1000 := by
  intro x hx
  have hr := shR_rng h
  unfold linS at hx
  rcases List.mem_append.1 hx with hx | hx
  · rcases List.mem_cons.1 hx with rfl | hx
    · have := numB_le (n := s.h) (by omega) (by omega)
      have q1 : (⟨#[104, 111, 114, 105, 122, 111, 110, 32]⟩ : ByteArray).size = 8 := rfl
      unfold horL
      simp only [ByteArray.size_append]
      omega
    · obtain ⟨e, he, rfl⟩ := List.mem_map.1 hx
      obtain ⟨j, hj, hje⟩ := List.getElem_of_mem he
      have h1 := shR_node h hj
      rw [hje] at h1
      have := nodL_size (name_le h he) h1.2.1 h1.2.2.1 h1.2.2.2.1
      omega
  · obtain ⟨t, ht, rfl⟩ := List.mem_map.1 hx
    obtain ⟨j, hj, hje⟩ := List.getElem_of_mem ht
    have h1 := shR_tie h hj
    rw [hje] at h1
    have a1 := nmAt_le h t.u
    have a2 := nmAt_le h t.v
    have b1 := numB_le (n := t.lo) (by omega) (by omega)
    have b2 := numB_le (n := t.hi) (by omega) (by omega)
    have h3 : (if t.fr then (⟨#[102, 114, 101, 101, 32]⟩ : ByteArray) else ⟨#[116, 105, 101, 32]⟩).size ≤ 5 := by split <;> decide
    have h4 : bSp.size = 1 := rfl
    unfold tieW
    simp only [ByteArray.size_append]
    omega

set_option maxRecDepth 100000 in
set_option maxHeartbeats 32000000 in
theorem impl_FormatShow (s : GS) (A : Option Addr) (k c : Nat) (B : Option Addr) (m d : Nat) (w : World) (hs : ShB s) (hw : ∀ e ∈ s.ns, e.wf) (ha : ShowAt w s A k B m) (hp : Pow10 w) :
    Calls Tryz.prog 19 #[shV A k c B m d s.h] w fun e w' => e = .returned (.string (fmtS s)) ∧ Below w.heap.size w w' := by
  obtain ⟨i1, hii, hy0, hy1, hy2⟩ := info_parts Tryz.info9
  have HOK := Lib.hid (fun W h => impl_ShowOk s A k c B m d W hs hw h)
  have HNM := Lib.hid (fun e he => (hs.each e he).1)
  have HTI := Lib.hid (fun t W a b cc dd h q => tie_line s t A k c B m d W a b cc dd HNM.out h q)
  have HLN := Lib.hid ha.ln
  have HLT := Lib.hid ha.lt
  have hmm : m ≤ 1048576 := by have := hs.ts; have := ha.lt; omega
  have HA := Lib.hid ha
  have HP := Lib.hid hp
  clear ha hs hw hp
  obtain ⟨h, hhh⟩ : ∃ h, h = s.h := ⟨_, rfl⟩
  rw [← hhh] at HOK HTI
  rw [← hhh]
  have HHH := Lib.hid hhh
  clear hhh
  unfold shV at HOK HTI ⊢
  obtain ⟨w0, hw0⟩ : ∃ W, W = w.alloc (.cells #[.slice A k c, .slice B m d, .int .i64 h] 25) := ⟨_, rfl⟩
  have B_w0 : Below w.heap.size w w0 := by rw [hw0]; exact (Below.refl _ _).alloc (Nat.le_refl _) _
  have z_w0 : w.heap.size < w0.heap.size := by rw [hw0]; simp
  have c0_w0 : w0.cell? ⟨w.heap.size, 0, none⟩ = some (.slice A k c) := by rw [hw0]; go_simp
  have c1_w0 : w0.cell? ⟨w.heap.size, 1, none⟩ = some (.slice B m d) := by rw [hw0]; go_simp
  have c2_w0 : w0.cell? ⟨w.heap.size, 2, none⟩ = some (.int .i64 h) := by rw [hw0]; go_simp
  have HA0 := Lib.hid (HA.out.below B_w0)
  have HP0 := Lib.hid (pow_kept HP.out B_w0)
  have BW0 := Lib.hid B_w0
  have HW0 := Lib.hid hw0
  clear hw0 B_w0 HA HP
  obtain ⟨b1, hb1⟩ : ∃ b, b = shR s := ⟨_, rfl⟩
  rw [← hb1] at HOK
  cases b1 with
  | false =>
    have HX := Lib.hid (fmtS_no hb1.symm)
    clear hb1
    go_enter Tryz.func19, Tryz.ntmps19
    go_upto_region 1 with (fail)
    rw [← HW0.out]
    clear HW0
    go_wp2_with fail
    refine (HOK.out _ HA0.out).mono ?_
    rintro e w1 ⟨rfl, b1⟩
    go_wp2_with fail
    go_ret
    exact ⟨str_ans HX.out.symm, BW0.out.trans (b1.mono BW0.out.size)⟩
  | true =>
    have hsh := hb1.symm
    have hrg := shR_rng hsh
    have HSN := Lib.hid (fun j (hj : j < s.ns.length) => shR_node hsh hj)
    have HST := Lib.hid (fun j (hj : j < s.ts.length) => shR_tie hsh hj)
    have HLZ := Lib.hid (lin_size hsh)
    have HLZ2 := Lib.hid (joinB_le (b := bNl) (by decide) (lin_small hsh) (by unfold linS; simp; omega))
    have HFS := Lib.hid (fmtS_join hsh)
    have HALL := Lib.hid (liT_all s)
    have HT0 := Lib.hid (liT_0 s)
    have HNL := Lib.hid (fun e he => (name_le (e := e) hsh he))
    rw [HLT.out] at HALL
    rw [HLN.out] at HT0
    have hk7 : k ≤ 7 := by have := hrg.2.1; have := HLN.out; omega
    have hm14 : m ≤ 14 := by have := hrg.2.2.1; have := HLT.out; omega
    have HFH := Lib.hid (fun W q => impl_FormatInt h W (by have := HHH.out; omega) (by have := HHH.out; omega) q)
    have hyh := numB_le (n := h) (by have := HHH.out; omega) (by have := HHH.out; omega)
    have HJH := Lib.hid (show joinB [bHor, numB h] bSp = horL s.h from by rw [horL_join, HHH.out])
    obtain ⟨yh, hyh2⟩ : ∃ t, t = numB h := ⟨_, rfl⟩
    rw [← hyh2] at HFH hyh HJH
    clear hyh2 hrg hsh hb1
    go_enter Tryz.func19, Tryz.ntmps19
    go_upto_region 1 with (fail)
    rw [← HW0.out]
    clear HW0
    go_wp2_with fail
    refine (HOK.out _ HA0.out).mono ?_
    rintro e w1 ⟨rfl, b1⟩
    have c2_w1 := (b1.cell (p := ⟨w.heap.size, 2, none⟩) z_w0).trans c2_w0
    have B1 := Lib.hid b1
    have z1 := b1.size
    have zw1 : w.heap.size < w1.heap.size := by omega
    clear b1
    go_wp2_with fail
    refine (HFH.out _ (pow_kept HP0.out B1.out)).mono ?_
    rintro e w2 ⟨rfl, b2⟩
    have B2 := Lib.hid (B1.out.trans (b2.mono z1))
    have z2 := B2.out.size
    clear b2 c2_w1
    go_wp2_with fail
    refine (impl_joinParts [bHor, yh] bSp _ 2 2 _ rfl (by omega) (by decide) (by
      intro y hy
      simp at hy
      rcases hy with rfl | rfl
      · decide
      · omega) (row_newX w2 [bHor, yh] _ rfl)).mono ?_
    rintro e w3 ⟨rfl, b3⟩
    rw [HJH.out]
    obtain ⟨y0, hy0'⟩ : ∃ y, y = horL s.h := ⟨_, rfl⟩
    rw [← hy0']
    have B3 := Lib.hid (B2.out.trans (Below.mono (show Below w2.heap.size w2 w3 from ((Below.refl _ _).alloc (Nat.le_refl _) _).trans (b3.mono (by simp))) z2))
    have z3 := B3.out.size
    clear b3
    obtain ⟨w4, hw4⟩ : ∃ W, W = w3.alloc (.cells #[.string y0] 9) := ⟨_, rfl⟩
    have B4 := Lib.hid (show Below w0.heap.size w0 w4 from by rw [hw4]; exact B3.out.alloc z3 _)
    have z4 := B4.out.size
    have O4 := Lib.hid (show w4.ownsRow w0.heap.size 9 1 (.slice (some ⟨w3.heap.size, 0, none⟩) 1 1) 1 ((liN s 0).map Value.string) from own_blockX w3.heap.size z3 (by rw [hw4, hy0']; exact heap_alloc_new _ _) rfl rfl (by decide))
    have HW4 := Lib.hid hw4
    clear hw4 hy0'
    have c0_w4 := (B4.out.cell (p := ⟨w.heap.size, 0, none⟩) z_w0).trans c0_w0
    go_upto_region 4 with (fail)
    rw [← HW4.out]
    clear HW4
    go_wp2_with fail
    go_loopw [20, 3] (fun i q wr => ∃ (j p : Nat) (C : Option Addr) (cb : Nat), j ≤ k ∧ i = .int .i64 j ∧ q = .slice C p cb ∧ p = j + 1 ∧ wr.ownsRow w0.heap.size 9 1 (.slice C p cb) p ((liN s j).map Value.string) ∧ Below w0.heap.size w0 wr) (fun i _ _ => k - (intOf i).toNat)
    case atStart => exact ⟨0, 1, _, 1, Nat.zero_le _, rfl, rfl, rfl, O4.out, B4.out⟩
    case round =>
      obtain ⟨j, p, C, cb, hj, rfl, rfl, hpj, hown, hbw⟩ := hrel
      have HO := Lib.hid hown
      have BW := Lib.hid hbw
      have zr := hbw.size
      have zwr : w.heap.size < wr.heap.size := by omega
      have HPJ := Lib.hid hpj
      have hp8 : p ≤ 8 := by omega
      clear hown hbw hpj
      by_cases hlt : j < k
      · have hjk : ((j : Int) < (k : Int)) := by omega
        obtain ⟨⟨nm, lab, wat⟩, he⟩ : ∃ e, s.ns[j]? = some e := ⟨_, List.getElem?_eq_getElem (by have := HLN.out; omega)⟩
        have HE := Lib.hid (liN_next he)
        have hsn := HSN.out j (by have := HLN.out; omega)
        rw [getAt9 (by have := HLN.out; omega) he] at hsn
        have hnl := HNL.out _ (List.mem_of_getElem? he)
        dsimp only at hsn hnl
        obtain ⟨g, o, L, cl, rfl, hg, a0, a1, a2, hrow⟩ := node_facts HA0.out.nodes he
        dsimp only at a0 a1 a2 hrow
        have k0 := (BW.out.cell (p := ⟨g, o + j * 3, none⟩) hg).trans a0
        have HROW := Lib.hid (hrow.below BW.out)
        have HNO := Lib.hid (fun W hr q => node_line ⟨nm, lab, wat⟩ L cl W (by dsimp only; omega) hsn.2.1 hsn.2.2.1 hsn.2.2.2.1 hr q)
        have hj0 : (0 : Int) ≤ (j : Int) := by omega
        obtain ⟨q, hq⟩ : ∃ q, q = lab.length := ⟨_, rfl⟩
        obtain ⟨ln, hln⟩ : ∃ y, y = nodL ⟨nm, lab, wat⟩ := ⟨_, rfl⟩
        have k1 := (BW.out.cell (p := ⟨g, o + j * 3 + 1, none⟩) hg).trans a1
        have k2 := (BW.out.cell (p := ⟨g, o + j * 3 + 2, none⟩) hg).trans a2
        unfold ndV at HNO
        dsimp only at HNO
        rw [← hq] at HNO k1
        rw [← hln] at HNO HE
        obtain ⟨w5, hw5⟩ : ∃ W, W = wr.alloc (.cells #[.string nm, .slice L q cl, .int .i64 wat] 38) := ⟨_, rfl⟩
        have b5 : Below wr.heap.size wr w5 := by rw [hw5]; exact (Below.refl _ _).alloc (Nat.le_refl _) _
        have n0_w5 : w5.cell? ⟨wr.heap.size, 0, none⟩ = some (.string nm) := by rw [hw5]; go_simp
        have n1_w5 : w5.cell? ⟨wr.heap.size, 1, none⟩ = some (.slice L q cl) := by rw [hw5]; go_simp
        have n2_w5 : w5.cell? ⟨wr.heap.size, 2, none⟩ = some (.int .i64 wat) := by rw [hw5]; go_simp
        have z5 : wr.heap.size < w5.heap.size := by rw [hw5]; simp
        have ROW5 := Lib.hid (HROW.out.below b5)
        have O5 := Lib.hid (own_below HO.out b5)
        have B5 := Lib.hid (BW.out.trans (b5.mono zr))
        have zz5 := B5.out.size
        have HW5 := Lib.hid hw5
        clear hw5 b5 hq hln hrow hsn hnl he a0 a1 a2
        go_upto_region 7 with (fail)
        rw [← HW5.out]
        clear HW5 k0 k1 k2
        go_wp2_with fail
        refine (HNO.out _ ROW5.out (pow_kept HP0.out B5.out)).mono ?_
        rintro e w6 ⟨rfl, b6⟩
        have O6 := Lib.hid (own_below O5.out b6)
        have B6 := Lib.hid (B5.out.trans (b6.mono zz5))
        have z6 := B6.out.size
        clear b6
        go_wp2_with (at_builtin; refine wpList_append_lies _ rfl _ _ 31 rfl (w0.heap.size) 9 i1 (.string ⟨#[]⟩) 1 16 Tryz.underlying31 hii hy0 hy1 hy2 rfl (by decide) _ _ _ rfl (O6.out.alloc _) ⟨_, 0, none⟩ 1 1 _ rfl rfl (World.news_of_block (heap_newX _ _ _ (by first | rfl | (simp; done)))) (one_c1X _) (by decide) (by unfold maxLen; omega) (by omega) (by simp; omega) _ rfl ?_)
        intro g5 cap w7 ho7 hg7 hat7 hl7
        have O7 := Lib.hid ho7
        have B7 := Lib.hid ((B6.out.alloc z6 _).grown hg7 (by simp; omega) (fun r hr => (O6.out.lt r hr).1))
        clear ho7 hg7 hat7 hl7
        go_wp2_with fail
        go_roundw
        case rel => exact ⟨j + 1, p + 1, some ⟨g5, 0, none⟩, cap, by omega, by go_num, rfl, by have := HPJ.out; omega, by rw [HE.out, List.map_append]; exact O7.out, B7.out⟩
        case measure => simp [intOf]; omega
      · have hjk : ¬ ((j : Int) < (k : Int)) := by omega
        obtain rfl : j = k := by omega
        have c1_wr := (BW.out.cell (p := ⟨w.heap.size, 1, none⟩) z_w0).trans c1_w0
        have OX := Lib.hid (show wr.ownsRow w0.heap.size 9 1 (.slice C p cb) p ((liT s 0).map Value.string) from by rw [HT0.out]; exact HO.out)
        obtain ⟨wx, hwx⟩ : ∃ W, W = wr := ⟨_, rfl⟩
        rw [← hwx] at OX BW c1_wr zr ⊢
        clear hlt HO O4 B4 z4 c0_w4 hwx
        go_wp2_with fail
        go_loopw [33, 3] (fun i q wy => ∃ (u p : Nat) (C : Option Addr) (cb : Nat), u ≤ m ∧ i = .int .i64 u ∧ q = .slice C p cb ∧ p = j + 1 + u ∧ wy.ownsRow w0.heap.size 9 1 (.slice C p cb) p ((liT s u).map Value.string) ∧ Below w0.heap.size w0 wy) (fun i _ _ => m - (intOf i).toNat)
        case atStart => exact ⟨0, p, C, cb, Nat.zero_le _, rfl, rfl, by have := HPJ.out; omega, OX.out, BW.out⟩
        case round =>
          obtain ⟨u, p2, C2, cb2, hu, rfl, rfl, hpu, hown, hbw⟩ := hrel
          have HO := Lib.hid hown
          have BR := Lib.hid hbw
          have zq := hbw.size
          have c0_wr := (hbw.cell (p := ⟨w.heap.size, 0, none⟩) z_w0).trans c0_w0
          have c1_wr2 := (hbw.cell (p := ⟨w.heap.size, 1, none⟩) z_w0).trans c1_w0
          have c2_wr := (hbw.cell (p := ⟨w.heap.size, 2, none⟩) z_w0).trans c2_w0
          have zwr2 : w.heap.size < wr.heap.size := by omega
          have HPU := Lib.hid hpu
          have hp22 : p2 ≤ 22 := by omega
          clear hown hbw OX hpu
          by_cases hlt : u < m
          · have hum : ((u : Int) < (m : Int)) := by omega
            obtain ⟨⟨tu, tv, lo, hi2, fr⟩, he⟩ : ∃ e, s.ts[u]? = some e := ⟨_, List.getElem?_eq_getElem (by have := HLT.out; omega)⟩
            have HE := Lib.hid (liT_next he)
            have hst := HST.out u (by have := HLT.out; omega)
            rw [getAt9 (by have := HLT.out; omega) he] at hst
            dsimp only at hst
            rw [HLN.out] at hst
            have HTL := Lib.hid (fun W h q => HTI.out ⟨tu, tv, lo, hi2, fr⟩ W (by exact ⟨hst.1.1, hst.1.2⟩) (by exact ⟨hst.2.1.1, hst.2.1.2⟩) (by dsimp only; omega) (by dsimp only; omega) h q)
            obtain ⟨gt, ot, rfl, hgt, t0, t1, t2, t3, t4⟩ := tie_facts HA0.out.ties he
            dsimp only at t0 t1 t2 t3 t4 HTL
            have k0 := (BR.out.cell (p := ⟨gt, ot + u * 5, none⟩) hgt).trans t0
            have k1 := (BR.out.cell (p := ⟨gt, ot + u * 5 + 1, none⟩) hgt).trans t1
            have k2 := (BR.out.cell (p := ⟨gt, ot + u * 5 + 2, none⟩) hgt).trans t2
            have k3 := (BR.out.cell (p := ⟨gt, ot + u * 5 + 3, none⟩) hgt).trans t3
            have k4 := (BR.out.cell (p := ⟨gt, ot + u * 5 + 4, none⟩) hgt).trans t4
            have hu0 : (0 : Int) ≤ (u : Int) := by omega
            obtain ⟨ln, hln⟩ : ∃ y, y = tieW s.ns ⟨tu, tv, lo, hi2, fr⟩ := ⟨_, rfl⟩
            rw [← hln] at HTL HE
            obtain ⟨w5, hw5⟩ : ∃ W, W = wr.alloc (.cells #[.int .i64 tu, .int .i64 tv, .int .i64 lo, .int .i64 hi2, .bool fr] 42) := ⟨_, rfl⟩
            have b5 : Below wr.heap.size wr w5 := by rw [hw5]; exact (Below.refl _ _).alloc (Nat.le_refl _) _
            have n0_w5 : w5.cell? ⟨wr.heap.size, 0, none⟩ = some (.int .i64 tu) := by rw [hw5]; go_simp
            have n1_w5 : w5.cell? ⟨wr.heap.size, 1, none⟩ = some (.int .i64 tv) := by rw [hw5]; go_simp
            have n2_w5 : w5.cell? ⟨wr.heap.size, 2, none⟩ = some (.int .i64 lo) := by rw [hw5]; go_simp
            have n3_w5 : w5.cell? ⟨wr.heap.size, 3, none⟩ = some (.int .i64 hi2) := by rw [hw5]; go_simp
            have n4_w5 : w5.cell? ⟨wr.heap.size, 4, none⟩ = some (.bool fr) := by rw [hw5]; go_simp
            have c0_w5 := (b5.cell (p := ⟨w.heap.size, 0, none⟩) zwr2).trans c0_wr
            have c1_w5 := (b5.cell (p := ⟨w.heap.size, 1, none⟩) zwr2).trans c1_wr2
            have c2_w5 := (b5.cell (p := ⟨w.heap.size, 2, none⟩) zwr2).trans c2_wr
            have z5 : wr.heap.size < w5.heap.size := by rw [hw5]; simp
            have O5 := Lib.hid (own_below HO.out b5)
            have B5 := Lib.hid (BR.out.trans (b5.mono zq))
            have zz5 := B5.out.size
            have HW5 := Lib.hid hw5
            clear hw5 b5 hln hst he t0 t1 t2 t3 t4 HTI
            go_upto_region 12 with (fail)
            rw [← HW5.out]
            clear HW5 k0 k1 k2 k3 k4
            go_wp2_with fail
            refine (HTL.out _ (HA0.out.below B5.out) (pow_kept HP0.out B5.out)).mono ?_
            rintro e w6 ⟨rfl, b6⟩
            have O6 := Lib.hid (own_below O5.out b6)
            have B6 := Lib.hid (B5.out.trans (b6.mono zz5))
            have z6 := B6.out.size
            clear b6
            go_wp2_with (at_builtin; refine wpList_append_lies _ rfl _ _ 31 rfl (w0.heap.size) 9 i1 (.string ⟨#[]⟩) 1 16 Tryz.underlying31 hii hy0 hy1 hy2 rfl (by decide) _ _ _ rfl (O6.out.alloc _) ⟨_, 0, none⟩ 1 1 _ rfl rfl (World.news_of_block (heap_newX _ _ _ (by first | rfl | (simp; done)))) (one_c1X _) (by decide) (by unfold maxLen; omega) (by omega) (by simp; omega) _ rfl ?_)
            intro g5 cap w7 ho7 hg7 hat7 hl7
            have O7 := Lib.hid ho7
            have B7 := Lib.hid ((B6.out.alloc z6 _).grown hg7 (by simp; omega) (fun r hr => (O6.out.lt r hr).1))
            clear ho7 hg7 hat7 hl7
            go_wp2_with fail
            go_roundw
            case rel => exact ⟨u + 1, p2 + 1, some ⟨g5, 0, none⟩, cap, by omega, by go_num, rfl, by have := HPU.out; omega, by rw [HE.out, List.map_append]; exact O7.out, B7.out⟩
            case measure => simp [intOf]; omega
          · have hum : ¬ ((u : Int) < (m : Int)) := by omega
            obtain rfl : u = m := by omega
            have hln2 := HO.out.1
            have HJ := Lib.hid (impl_Join (linS s) bNl C2 p2 cb2 wr (by rw [HALL.out, List.length_map] at hln2; omega) (by omega) (by decide) HLZ.out (own_rowX (by rw [← HALL.out]; exact HO.out)))
            clear hln2
            go_wp2_with fail
            refine HJ.out.mono ?_
            rintro e w8 ⟨rfl, b8⟩
            have B8 := Lib.hid (BR.out.trans (b8.mono zq))
            have z8 := B8.out.size
            obtain ⟨jj, hjj⟩ : ∃ y, y = joinB (linS s) bNl := ⟨_, rfl⟩
            rw [← hjj]
            have hjs := HLZ2.out
            have hfs := HFS.out
            rw [← hjj] at hjs hfs
            have HX := Lib.hid hfs
            clear b8 hjj hfs
            go_wp2_with fail
            refine (impl_joinParts [jj, bNl] ⟨#[]⟩ _ 2 2 _ rfl (by omega) (by decide) (by
              intro y hy
              simp at hy
              rcases hy with rfl | rfl
              · omega
              · decide) (row_newX w8 [jj, bNl] _ rfl)).mono ?_
            rintro e w9 ⟨rfl, b9⟩
            rw [join_twoL, HX.out]
            go_wp2_with fail
            go_ret
            exact ⟨rfl, BW0.out.trans ((B8.out.trans (Below.mono (show Below w8.heap.size w8 w9 from ((Below.refl _ _).alloc (Nat.le_refl _) _).trans (b9.mono (by simp))) z8)).mono BW0.out.size)⟩

end Go.Proofs.YtgajodcgedhikaaGreatDoor

namespace Go.Proofs.YtgajodcgedhikaaGreatDoor
open Go.RowKit
set_option linter.unusedVariables false
set_option linter.unusedSimpArgs false

theorem lines_small (t : ByteArray) (h : t.size ≤ 1048576) : ∀ x ∈ lines t, x.size ≤ 1048576 := fun x hx => Nat.le_trans (lines_sub t x hx) h

set_option maxRecDepth 100000 in
set_option maxHeartbeats 32000000 in
theorem impl_ParseShow (t : ByteArray) (w : World) (hs : t.size ≤ 1048576) (hp : Pow10 w) (he : Errs w) : Calls Tryz.prog 5 #[.string t] w fun e w' => PsEnd t w w' e := by
  have HSL := Lib.hid (fun W => impl_SplitLines t W hs)
  have HNO := Lib.hid (fun h => prR_no (t := t) h)
  have HYE := Lib.hid (fun h => prR_yes (t := t) h)
  have HSZ := Lib.hid (lines_small t hs)
  have HPO := Lib.hid (fun j => prJ_ok (ls := lines t) (lines_small t hs) j)
  have hln := lines_len t
  obtain ⟨ls, hls⟩ : ∃ x, x = lines t := ⟨_, rfl⟩
  rw [← hls] at HSL HNO HYE HSZ HPO hln
  obtain ⟨n, hn⟩ : ∃ x, x = ls.length := ⟨_, rfl⟩
  rw [← hn] at HSL HNO HYE hln
  have HN := Lib.hid hn
  have hn1 : n ≤ 1048577 := by omega
  clear hls hn hln
  obtain ⟨w1, hw1⟩ : ∃ W, W = w.alloc (.cells #[.slice none 0 0, .slice none 0 0, .int .i64 0] 25) := ⟨_, rfl⟩
  have B_w1 : Below w.heap.size w w1 := by rw [hw1]; exact (Below.refl _ _).alloc (Nat.le_refl _) _
  have z1 : w.heap.size < w1.heap.size := by rw [hw1]; simp
  have RB1 : Hid (SBox w1 w.heap.size (.slice none 0 0) (.slice none 0 0) (.int .i64 0)) := Lib.hid ⟨by rw [hw1]; go_simp, by rw [hw1]; go_simp, by rw [hw1]; go_simp, by rw [hw1]; go_simp, by rw [hw1]; go_simp, by rw [hw1]; go_simp⟩
  have HP := Lib.hid hp
  have HE := Lib.hid he
  have BW1 := Lib.hid B_w1
  have HW1 := Lib.hid hw1
  clear hw1 B_w1 hp he hs
  go_enter Tryz.func5, Tryz.ntmps5
  go_upto_region 1 with (fail)
  rw [← HW1.out]
  clear HW1
  go_wp2_with fail
  refine (HSL.out _).mono ?_
  rintro e w2 ⟨v, rfl, hown, b2⟩
  obtain ⟨A0, dc, rfl, _, _⟩ := own_form hown
  have OL2 := Lib.hid hown
  have RB2 := Lib.hid (RB1.out.below b2)
  have B2 := Lib.hid (BW1.out.trans (b2.mono (Nat.le_of_lt z1)))
  have z2 : w.heap.size < w2.heap.size := Nat.lt_of_lt_of_le z1 b2.size
  clear hown b2 RB1 HSL
  by_cases h22 : 22 < n
  · have hb22 : ((22 : Int) < (n : Int)) := by omega
    have HR0 := Lib.hid (HNO.out h22)
    obtain ⟨r0, r1, r2, rf0, rf1, rf2⟩ := RB2.out
    go_wp2_with fail
    refine bodyPost_ret (v := .tuple #[.agg #[.slice none 0 0, .slice none 0 0, .int .i64 0], .bool false]) (by first | (simp [results, Tryz.results5, go_sem]; done) | simp [*, results, Tryz.results5, go_sem]) rfl (PsEnd.no HR0.out rfl (by repeat (first | with_reducible exact B2.out | with_reducible refine Below.setCell ?_ (by first | omega | (simp; done) | (simp; omega)) _ | with_reducible refine Below.alloc ?_ (by first | omega | (simp; done) | (simp; omega)) _)))
  · have hb22 : ¬ ((22 : Int) < (n : Int)) := by omega
    have hn22 : n ≤ 22 := by omega
    have HFIN := Lib.hid (HYE.out hn22)
    obtain ⟨w3, hw3⟩ : ∃ W, W = w2.alloc (.cells #[.slice none 0 0, .slice none 0 0, .int .i64 0] 25) := ⟨_, rfl⟩
    have b3 : Below w2.heap.size w2 w3 := by rw [hw3]; exact (Below.refl _ _).alloc (Nat.le_refl _) _
    have z3 : w2.heap.size < w3.heap.size := by rw [hw3]; simp
    obtain ⟨b, hb⟩ : ∃ b, b = w2.heap.size := ⟨_, rfl⟩
    have S3 : Hid (RdS w3 b w3.heap.size (prJ ls 0) none 0 0 none 0 0 []) := Lib.hid ⟨by show SBox w3 b (.slice none 0 0) (.slice none 0 0) (.int .i64 0); rw [hb, hw3]; exact ⟨by go_simp, by go_simp, by go_simp, by go_simp, by go_simp, by go_simp⟩, OwnS.none _ _ _⟩
    have RB3 := Lib.hid (RB2.out.below b3)
    have OL3 := Lib.hid (own_below OL2.out b3)
    have LT3 := Lib.hid (show ∀ q, (Value.slice A0 n dc).ownBlock = some q → q < b from fun q hq => by rw [hb]; exact (OL2.out.lt q hq).2)
    have B3 := Lib.hid (B2.out.trans (b3.mono (Nat.le_of_lt z2)))
    have hwb : w.heap.size < b := by omega
    have hb3 : b < w3.heap.size := by omega
    have HW3 := Lib.hid hw3
    have HB := Lib.hid hb
    clear hw3 b3 hb RB2 OL2 B2
    go_upto_region 5 with (fail)
    rw [← HW3.out]
    clear HW3
    rw [← HB.out]
    go_wp2_with fail
    go_loopw [16] (fun i wr => ∃ (j : Nat) (A : Option Addr) (k c : Nat) (B : Option Addr) (m d : Nat) (zs : List NL), j ≤ n ∧ i = .int .i64 j ∧ RdS wr b wr.heap.size (prJ ls j) A k c B m d zs ∧ Below b w3 wr) (fun i _ => n - (intOf i).toNat)
    case atStart => exact ⟨0, none, 0, 0, none, 0, 0, [], Nat.zero_le _, rfl, S3.out, Below.refl _ _⟩
    case round =>
      obtain ⟨j, A, k, c, B, m, d, zs, hj, rfl, hrd, hbw⟩ := hrel
      have RD := Lib.hid hrd
      have BW := Lib.hid hbw
      have zr : b < wr.heap.size := hrd.box.lt
      have hkl := hrd.own.ln
      have hml := hrd.own.lt
      have hpo := HPO.out j
      have hk22 : k ≤ 22 := by have := hpo.ns; omega
      have hm22 : m ≤ 22 := by have := hpo.ts; omega
      have HPJ := Lib.hid hpo
      have BWW := Lib.hid (B3.out.trans (hbw.mono (Nat.le_of_lt hwb)))
      clear hrd hbw hkl hml hpo S3
      by_cases hlt : j < n
      · have hjl : ((j : Int) < (n : Int)) := by omega
        have hj0 : (0 : Int) ≤ (j : Int) := by omega
        have OLr := Lib.hid (show wr.ownsRow (w1.heap.size) 9 1 (.slice A0 n dc) n (ls.map Value.string) from Keep.own (P := fun q => q < b) ⟨BW.out.os, BW.out.tape, BW.out.output, BW.out.size, fun q _ hq => BW.out.block q hq⟩ OL3.out LT3.out)
        obtain ⟨g, o', hA0, hg, hc⟩ := row_getS (own_row OLr.out) (q := j) (by have := HN.out; omega)
        obtain ⟨l, hl⟩ : ∃ l, l = ls[j]'(by have := HN.out; omega) := ⟨_, rfl⟩
        rw [← hl] at hc
        have hlj : ls[j]? = some l := by rw [hl]; exact List.getElem?_eq_getElem (by have := HN.out; omega)
        have hlz : l.size ≤ 1048576 := by rw [hl]; exact HSZ.out _ (List.getElem_mem _)
        have HNX := Lib.hid (prJ_next (s := prJ ls j) rfl hlj)
        have HC := Lib.hid (read_line l b wr.heap.size (prJ ls j) A k c B m d zs wr hlz (by omega) (by omega) HPJ.out.wf RD.out zr (Nat.le_refl _) (pow_kept HP.out BWW.out) (errs_kept HE.out BWW.out))
        subst hA0
        clear hl hlj
        go_wp2_with fail
        refine HC.out.mono ?_
        rintro e w5 ⟨rfl, hat⟩
        rw [← HNX.out] at hat
        obtain ⟨A', k', c', B', m', d', zs', hr5, hw5⟩ := hat
        have R5 := Lib.hid hr5
        have B5 := Lib.hid (BW.out.trans (hw5.below (Nat.le_of_lt zr)))
        clear hr5 hw5
        go_wp2_with fail
        go_roundw
        case rel => exact ⟨j + 1, A', k', c', B', m', d', zs', by omega, by go_num, R5.out, B5.out⟩
        case measure => simp [intOf]; omega
      · have hjl : ¬ ((j : Int) < (n : Int)) := by omega
        obtain rfl : j = n := by omega
        have hfin := HFIN.out
        obtain ⟨s, hsj⟩ : ∃ s, s = prJ ls j := ⟨_, rfl⟩
        have RD2 := RD.out
        have hpj := HPJ.out
        rw [← hsj] at RD2 hfin hpj
        have RDD := Lib.hid RD2
        have HPK := Lib.hid hpj
        have hSO := fun W h => impl_ShowOk s A k c B m d W (hpj.shB (by omega)) hpj.wf h
        have hFS := fun W h q => impl_FormatShow s A k c B m d W (hpj.shB (by omega)) hpj.wf h q
        unfold shV at hSO hFS
        have HSO := Lib.hid hSO
        have HFS := Lib.hid hFS
        have HFI := Lib.hid hfin
        have RBr := Lib.hid (RB3.out.same (BW.out.block w.heap.size hwb))
        clear hSO hFS hfin hpj RD2 hsj RD HPJ HFIN
        obtain ⟨s0, s1, s2, sf0, sf1, sf2⟩ := RDD.out.box
        go_wp2_with fail
        refine (HSO.out _ RDD.out.at_).mono ?_
        rintro e w5 ⟨rfl, b5⟩
        have R5 := Lib.hid ((RDD.out.below b5).up b5.size)
        have RB5 := Lib.hid (RBr.out.below b5)
        have B5 := Lib.hid (BWW.out.trans (b5.mono BWW.out.size))
        have z5 := b5.size
        clear b5 s0 s1 s2 sf0 sf1 sf2
        obtain ⟨s0, s1, s2, sf0, sf1, sf2⟩ := R5.out.box
        have zb5 : b < w5.heap.size := by omega
        have zw5 : w.heap.size < w5.heap.size := by omega
        have nx1 : (w.heap.size = b) = False := eq_false (by omega)
        have nx2 : (b = w.heap.size) = False := eq_false (by omega)
        obtain ⟨bo, hbo⟩ : ∃ b, b = shR s := ⟨_, rfl⟩
        rw [← hbo]
        cases bo with
        | false =>
          have HR0 := Lib.hid (show psR t = (gS0, false) from by rw [HFI.out, ← hbo, if_neg (by simp)])
          obtain ⟨r0, r1, r2, rf0, rf1, rf2⟩ := RB5.out
          clear hbo
          go_wp2_with fail
          refine bodyPost_ret (v := .tuple #[.agg #[.slice none 0 0, .slice none 0 0, .int .i64 0], .bool false]) (by first | (simp [results, Tryz.results5, go_sem]; done) | simp [*, results, Tryz.results5, go_sem]) rfl (PsEnd.no HR0.out rfl (by repeat (first | with_reducible exact B5.out | with_reducible refine Below.setCell ?_ (by first | omega | (simp; done) | (simp; omega)) _ | with_reducible refine Below.alloc ?_ (by first | omega | (simp; done) | (simp; omega)) _)))
        | true =>
          have HBO := Lib.hid hbo.symm
          clear hbo
          by_cases hft : fmtS s = t
          · have HR0 := Lib.hid (show psR t = (s, true) from by rw [HFI.out, if_pos ⟨HBO.out, hft⟩])
            have hq := bytes_same hft
            clear hft
            go_wp2_with fail
            refine (HFS.out _ R5.out.at_ (pow_kept HP.out B5.out)).mono ?_
            rintro e w6 ⟨rfl, b6⟩
            have R6 := Lib.hid ((R5.out.below b6).up b6.size)
            have RB6 := Lib.hid (RB5.out.below b6)
            have B6 := Lib.hid (B5.out.trans (b6.mono B5.out.size))
            clear b6 s0 s1 s2 sf0 sf1 sf2
            obtain ⟨s0, s1, s2, sf0, sf1, sf2⟩ := R6.out.box
            obtain ⟨r0, r1, r2, rf0, rf1, rf2⟩ := RB6.out
            have zR := RB6.out.lt
            have zS := R6.out.box.lt
            go_wp2_with fail
            refine bodyPost_ret (v := .tuple #[.agg #[.slice A k c, .slice B m d, .int .i64 s.h], .bool true]) (by first | (simp [results, Tryz.results5, go_sem]; done) | simp [*, results, Tryz.results5, go_sem]) rfl ⟨A, k, c, B, m, d, zs, by rw [HR0.out], ?_, (by repeat (first | with_reducible exact B6.out | with_reducible refine Below.setCell ?_ (by first | omega | (simp; done) | (simp; omega)) _ | with_reducible refine Below.alloc ?_ (by first | omega | (simp; done) | (simp; omega)) _))⟩
            rw [HR0.out]
            exact OwnS.base (hi := w6.heap.size) (lo := b + 1) (((R6.out.own.set _ _ (by dsimp only; omega)).set _ _ (by dsimp only; omega)).set _ _ (by dsimp only; omega)) (by omega) (by simp)
          · have HR0 := Lib.hid (show psR t = (gS0, false) from by rw [HFI.out, if_neg (fun h9 => hft h9.2)])
            have hq := bytes_other hft
            clear hft
            go_wp2_with fail
            refine (HFS.out _ R5.out.at_ (pow_kept HP.out B5.out)).mono ?_
            rintro e w6 ⟨rfl, b6⟩
            have RB6 := Lib.hid (RB5.out.below b6)
            have B6 := Lib.hid (B5.out.trans (b6.mono B5.out.size))
            clear b6 s0 s1 s2 sf0 sf1 sf2
            obtain ⟨r0, r1, r2, rf0, rf1, rf2⟩ := RB6.out
            have zR := RB6.out.lt
            go_wp2_with fail
            refine bodyPost_ret (v := .tuple #[.agg #[.slice none 0 0, .slice none 0 0, .int .i64 0], .bool false]) (by first | (simp [results, Tryz.results5, go_sem]; done) | simp [*, results, Tryz.results5, go_sem]) rfl (PsEnd.no HR0.out rfl (by repeat (first | with_reducible exact B6.out | with_reducible refine Below.setCell ?_ (by first | omega | (simp; done) | (simp; omega)) _ | with_reducible refine Below.alloc ?_ (by first | omega | (simp; done) | (simp; omega)) _)))

end Go.Proofs.YtgajodcgedhikaaGreatDoor

namespace Go.Proofs.YtgajodcgedhikaaGreatDoor
open Go.RowKit
theorem gErrRange : Tryz.prog.globalNamed "strconv.ErrRange" = some 2 := by kernel_rfl
theorem tErrRange : (Tryz.prog.globals[2]?).map (·.type) = some 94 := by kernel_rfl
theorem gErrSyntax : Tryz.prog.globalNamed "strconv.ErrSyntax" = some 1 := by kernel_rfl
theorem tErrSyntax : (Tryz.prog.globals[1]?).map (·.type) = some 94 := by kernel_rfl
theorem cErrStr : Tryz.prog.cellsOf 145 = 1 := by kernel_rfl
theorem cStr : Tryz.prog.cellsOf 9 = 1 := by kernel_rfl
theorem starErr : "*" ++ "errors.errorString" = "*errors.errorString" := by decide
theorem rowErr (u : TypeId) (h : Tryz.prog.typeName? 3 u = some "*errors.errorString") : u = 143 :=
  typeName_ptr_named (nm := "errors.errorString") (by rw [starErr]; kernel_rfl) (by kernel_rfl) (by decide) u (by rw [starErr]; exact h)
theorem errs_of {a b : List UInt8} {r : List (String × DataW Unit)} {W : World} (h : laidMet Tryz.prog (("strconv.ErrRange", .iface "*errors.errorString" (.ptr (.agg [.lit (.string a)]))) :: ("strconv.ErrSyntax", .iface "*errors.errorString" (.ptr (.agg [.lit (.string b)]))) :: r) W) : Errs W := by
  obtain ⟨a0, s0, h0, _, _, _⟩ := laid_sentinel h gErrRange tErrRange Tryz.underlying94 rowErr Tryz.underlying143 Tryz.underlying145 rfl rfl Tryz.underlying9 cErrStr cStr
  obtain ⟨a1, s1, h1, _, _, _⟩ := laid_sentinel h.tail gErrSyntax tErrSyntax Tryz.underlying94 rowErr Tryz.underlying143 Tryz.underlying145 rfl rfl Tryz.underlying9 cErrStr cStr
  exact ⟨⟨_, _, h1⟩, _, _, h0⟩

end Go.Proofs.YtgajodcgedhikaaGreatDoor

namespace Go.Proofs.YtgajodcgedhikaaGreatDoor

end Go.Proofs.YtgajodcgedhikaaGreatDoor
