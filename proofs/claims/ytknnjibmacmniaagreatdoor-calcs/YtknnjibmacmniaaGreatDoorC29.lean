/- fraction: parseRow, Parse. -/
import Derived.Test.YtknnjibmacmniaaGreatDoorC25
import Derived.Test.YtknnjibmacmniaaGreatDoorC20
import Derived.Test.YtknnjibmacmniaaGreatDoorC24
import Derived.Test.YtknnjibmacmniaaGreatDoorC09
namespace Go.Proofs.YtknnjibmacmniaaGreatDoor
open Go.RowKit
set_option linter.unusedVariables false
attribute [local go_sem ↓] Go.wp_at_zero Go.wp_at_succ

set_option maxHeartbeats 400000 in
theorem f_row_any (s : List UInt8) (w : World) (hl : s.length ≤ 122) :
    Calls Tryz.prog 49 #[.string ⟨s.toArray⟩, .int .i64 60] w fun e w' => ∃ v, e = .returned (.tuple #[v, .bool (wrB s)]) ∧ RepU w' v (prV s) ∧ Below w.heap.size w w' := by
  have hW : ∀ o, Below w.heap.size w (w.alloc o) := fun o => (Below.refl _ _).alloc (Nat.le_refl _) o
  by_cases h60 : s.length ≤ 60
  · have hF := Fz1.new w (.slice none 0 0) 56 (by simp)
    go_enter Tryz.func49, Tryz.ntmps49
    go_wp2_with fail
    refine (n_parse_any s _ h60).mono ?_
    rintro e w1 ⟨v1, rfl, hv1, hb1⟩
    obtain ⟨a1, l1, c1, rfl, r1⟩ := hv1.open
    have hF1 := hF.later (by simp) hb1
    obtain ⟨hfr, x0, hx0⟩ := hF1.parts
    have hbw := Below.next (hW _) hb1 (by simp)
    have hB2 := hF1.put (.slice a1 l1 c1) (by simp)
    have r2 := r1.box ⟨w.heap.size, 0, none⟩ (.slice a1 l1 c1) hF1.1
    have hbw2 := hbw.setCell (p := ⟨w.heap.size, 0, none⟩) (Nat.le_refl _) (.slice a1 l1 c1)
    have q0 := hB2.cell
    obtain ⟨b, HB⟩ : ∃ b, Hid (wrB s = b) := ⟨_, rfl⟩
    rw [HB.out]
    go_wp2
    refine bodyPost_ret (v := .tuple #[.agg #[.slice a1 l1 c1], .bool b]) (by simp [results, Tryz.results49, go_sem, q0]) rfl ⟨_, by rw [HB.out], ⟨_, rfl, r2⟩, hbw2⟩
  · have HW : Hid (wrB s = false) := by
      unfold Hid
      cases h : wrB s
      · rfl
      · exact absurd (wrB_dig h).2.2.1 h60
    have HV := prV_f HW.out
    have HV' : Hid (prV s = 0) := HV
    clear HV
    rw [HW.out]
    go_enter Tryz.func49, Tryz.ntmps49
    go_wp2
    refine bodyPost_ret (v := .tuple #[.agg #[.slice none 0 0], .bool false]) (by simp [results, Tryz.results49, go_sem]) rfl ⟨_, rfl, ⟨_, rfl, ?_⟩, hW _⟩
    rw [HV'.out]
    exact Rep.zero _ _ _

theorem idx47 (s : List UInt8) : (s.all (fun b => b != 47) = true ∧ Lib.index s [47] = -1) ∨ (∃ k, ∃ hk : k < s.length, (s.take k).all (fun b => b != 47) = true ∧ s[k] = 47 ∧ Lib.index s [47] = k) := by
  induction s with
  | nil => left; simp [Lib.index]
  | cons b l ih =>
    by_cases hb : b = 47
    · right
      exact ⟨0, by simp, by simp, by simpa using hb, by simp [Lib.index, hb]⟩
    · have h47 : (List.isPrefixOf [47] (b :: l)) = false := by
        simp [List.isPrefixOf]; exact fun h => hb h.symm
      rcases ih with ⟨h1, h2⟩ | ⟨k, hk, h1, h2, h3⟩
      · left
        refine ⟨by simp [h1, hb], ?_⟩
        unfold Lib.index
        rw [h47, h2]; simp
      · right
        refine ⟨k + 1, by simpa using hk, by simp [h1, hb], by simpa using h2, ?_⟩
        unfold Lib.index
        rw [h47, h3]
        have : ((k : Int) == -1) = false := by rw [beq_eq_false_iff_ne]; omega
        simp [this]
theorem cut47 (s : List UInt8) : (Lib.cut s [47] = (cutN s, cutD s, true)) ∨ (Lib.cut s [47] = (cutN s, [], false) ∧ cutD s = [49]) := by
  rcases idx47 s with ⟨h1, h2⟩ | ⟨k, hk, h1, h2, h3⟩
  · right
    obtain ⟨c1, c2⟩ := cut_none h1
    unfold Lib.cut
    rw [h2, if_neg (by omega), c1]
    exact ⟨rfl, c2⟩
  · left
    obtain ⟨c1, c2⟩ := cut_some hk h1 h2
    unfold Lib.cut
    rw [h3, if_pos (by omega), c1, c2]
    simp
theorem cutND_len (s : List UInt8) : (cutN s).length ≤ s.length ∧ ((cutD s).length ≤ s.length ∨ (cutD s).length = 1) := by
  rcases idx47 s with ⟨h1, h2⟩ | ⟨k, hk, h1, h2, h3⟩
  · obtain ⟨c1, c2⟩ := cut_none h1
    rw [c1, c2]; simp
  · obtain ⟨c1, c2⟩ := cut_some hk h1 h2
    rw [c1, c2]; simp; omega

theorem RepF.opens {w : World} {v : Value} {q : Q} (h : RepF w v q) : ∃ s a1 l1 c1 a2 l2 c2, Hid (q.neg = s) ∧ v = .agg #[.bool s, .slice a1 l1 c1, .slice a2 l2 c2] ∧ Rep .u32 4294967296 w (.slice a1 l1 c1) q.n ∧ Rep .u32 4294967296 w (.slice a2 l2 c2) q.d := by
  obtain ⟨a1, l1, c1, a2, l2, c2, e, h1, h2⟩ := h.open
  exact ⟨_, a1, l1, c1, a2, l2, c2, rfl, e, h1, h2⟩
theorem z48 {s : List UInt8} (h : wrB s = true) : decide (s = [48]) = decide (prV s = 0) := by
  rw [prV_t h]
  by_cases e : s = [48]
  · subst e; simp [sval, sdig, val]
  · have := sval_pos h e
    rw [decide_eq_false e, decide_eq_false (by omega)]
theorem ok_f1 {neg : Bool} {N D : List UInt8} (h : wrB N = false) : okND neg N D = false := by simp [okND, h]
theorem ok_f2 {neg : Bool} {N D : List UInt8} (h : wrB D = false) : okND neg N D = false := by simp [okND, h]
theorem ok_zz {neg : Bool} {N D : List UInt8} (h1 : wrB N = true) (h2 : wrB D = true) : okND neg N D = (!decide (prV D = 0) && !(neg && decide (prV N = 0))) := by
  unfold okND
  rw [h1, h2, z48 h1, z48 h2]; simp

set_option maxRecDepth 100000 in
set_option maxHeartbeats 3200000 in
theorem f_parse_raw (s r N U D : List UInt8) (neg fnd : Bool) (w : World) (hs : s.length ≤ 122) (hr' : r.length ≤ 122) (HP : Hid (Lib.hasPrefix s [126] = neg)) (HR : Hid (Lib.trimPrefix s [126] = r)) (HC : Hid (Lib.cut r [47] = (N, U, fnd)))
    (hN : N.length ≤ 122) (hDl : D.length ≤ 122) (HD : fnd = true ∧ D = U ∨ fnd = false ∧ D = [49]) (hG : Gl w) :
    Calls Tryz.prog 21 #[.string ⟨s.toArray⟩, .int .i64 60] w fun e w' => ∃ v, e = .returned (.tuple #[v, .bool (okND neg N D)]) ∧ (okND neg N D = true → RepF w' v (mk neg (sval N) (sval D))) ∧ Shp v ∧ Below w.heap.size w w' := by
  have hW : ∀ o, Below w.heap.size w (w.alloc o) := fun o => (Below.refl _ _).alloc (Nat.le_refl _) o
  have hF := Fz.new w (.bool false) (.slice none 0 0) (.slice none 0 0) 58 (by simp) (by simp) (by simp)
  obtain ⟨⟨m, hm⟩, _⟩ := hG
  have hm' : (w.alloc (.cells #[.bool false, .slice none 0 0, .slice none 0 0] 58)).cell? ⟨0, 0, none⟩ = some (.int .i64 m) := cell_later (hW _) hm
  obtain ⟨x, HX⟩ : ∃ x, Hid (wrB N = x) := ⟨_, rfl⟩
  obtain ⟨y, HY⟩ : ∃ x, Hid (wrB D = x) := ⟨_, rfl⟩
  obtain ⟨zd, HZD⟩ : ∃ x, Hid (decide (prV D = 0) = x) := ⟨_, rfl⟩
  obtain ⟨zn, HZN⟩ : ∃ x, Hid (decide (prV N = 0) = x) := ⟨_, rfl⟩
  rcases HD with ⟨rfl, rfl⟩ | ⟨rfl, rfl⟩
  all_goals
    go_enter Tryz.func21, Tryz.ntmps21
    go_wp2_with fail
    refine (Tryz.strings_CutPrefix _ _ _).mono ?_
    rintro e w' ⟨rfl, rfl⟩
    simp only
    rw [HP.out, HR.out]
    go_wp2_with fail
    refine (Tryz.strings_Cut _ _ m _ (by simp [ByteArray.size]; omega) hm').mono ?_
    rintro e w' ⟨rfl, j, rfl⟩
    simp only
    rw [HC.out]
    simp only
    go_wp2_with fail
    have hW1 : Below w.heap.size w ((w.alloc (.cells #[.bool false, .slice none 0 0, .slice none 0 0] 58)).drewN j) := below_drewN (hW _) j
    have hF1 : Fz w.heap.size ((w.alloc (.cells #[.bool false, .slice none 0 0, .slice none 0 0] 58)).drewN j) := hF
    refine (f_row_any _ _ hN).mono ?_
    rintro e w1 ⟨v1, rfl, hv1, hb1⟩
    rw [HX.out]
    obtain ⟨a1, l1, c1, rfl, r1⟩ := hv1.open
    have hF2 := hF1.later hF1.lt hb1
    have hbw2 := Below.next hW1 hb1 hW1.size
    have hbA : Below w1.heap.size w1 (w1.alloc (.cells #[.slice a1 l1 c1] 56)) := (Below.refl _ _).alloc (Nat.le_refl _) _
    have hA := Bx.new w1 (.slice a1 l1 c1) 56 (by simp)
    have hF3 := hF2.later hF2.lt hbA
    have hbw3 := Below.next hbw2 hbA hbw2.size
    have r2 := r1.below (Nat.le_refl _) hbA
    clear hW1 hF hF1 hb1 hv1 r1 hF2 hbw2 hbA hm hm'
    go_wp2_with fail
    refine (f_row_any _ _ hDl).mono ?_
    rintro e w4 ⟨v4, rfl, hv4, hb4⟩
    rw [HY.out]
    obtain ⟨a2, l2, c2, rfl, r3⟩ := hv4.open
    have hF4 := hF3.later hF3.lt hb4
    have hbw4 := Below.next hbw3 hb4 hbw3.size
    have hA4 := hA.later (by simp) hb4
    have hbB : Below w4.heap.size w4 (w4.alloc (.cells #[.slice a2 l2 c2] 56)) := (Below.refl _ _).alloc (Nat.le_refl _) _
    have hB5 := Bx.new w4 (.slice a2 l2 c2) 56 (by simp)
    have hA5 := hA4.later hA4.lt hbB
    have hF5 := hF4.later hF4.lt hbB
    have hbw5 := Below.next hbw4 hbB hbw4.size
    have r4 := (r2.below (Nat.le_refl _) hb4).below (Nat.le_refl _) hbB
    have r5 := r3.below (Nat.le_refl _) hbB
    have cA := hA5.cell
    have cB := hB5.cell
    clear hF3 hb4 hv4 r2 r3 hF4 hbw3 hbw4 hA hA4 hbB
    cases x
    · obtain ⟨f0, f1, f2, _, _⟩ := id hF5
      obtain ⟨x0, x1, x2, e0, e1, e2⟩ := hF5.cells
      obtain ⟨q0, q1, q2⟩ := put3_cells hF5 (.bool false) (.slice none 0 0) (.slice none 0 0)
      have hbe := put3_below hbw5 (Nat.le_refl _) (.bool false) (.slice none 0 0) (.slice none 0 0)
      unfold put3 at q0 q1 q2 hbe
      go_wp2
      refine bodyPost_ret (v := .tuple #[.agg #[.bool false, .slice none 0 0, .slice none 0 0], .bool false]) (by simp [results, Tryz.results21, go_sem, q0, q1, q2]) rfl ⟨_, by rw [ok_f1 HX.out], fun h => by rw [ok_f1 HX.out] at h; simp at h, ⟨_, _, _, _, _, _, _, rfl⟩, hbe⟩
    · cases y
      · have HO : Hid (okND neg N _ = false) := ok_f2 HY.out
        obtain ⟨f0, f1, f2, _, _⟩ := id hF5
        obtain ⟨x0, x1, x2, e0, e1, e2⟩ := hF5.cells
        obtain ⟨q0, q1, q2⟩ := put3_cells hF5 (.bool false) (.slice none 0 0) (.slice none 0 0)
        have hbe := put3_below hbw5 (Nat.le_refl _) (.bool false) (.slice none 0 0) (.slice none 0 0)
        unfold put3 at q0 q1 q2 hbe
        go_wp2
        refine bodyPost_ret (v := .tuple #[.agg #[.bool false, .slice none 0 0, .slice none 0 0], .bool false]) (by simp [results, Tryz.results21, go_sem, q0, q1, q2]) rfl ⟨_, by rw [HO.out], fun h => by rw [HO.out] at h; simp at h, ⟨_, _, _, _, _, _, _, rfl⟩, hbe⟩
      · have HOK := ok_zz (neg := neg) HX.out HY.out
        rw [HZD.out, HZN.out] at HOK
        go_wp2_with fail
        refine (n_zero_any _ _ _ ⟨_, rfl, r5⟩).mono ?_
        rintro e w6 ⟨rfl, hb6⟩
        rw [HZD.out]
        have hA6 := hA5.later hA5.lt hb6
        have hB6 := hB5.later hB5.lt hb6
        have hF6 := hF5.later hF5.lt hb6
        have hbw6 := Below.next hbw5 hb6 hbw5.size
        have r6 := r4.below (Nat.le_refl _) hb6
        have r7 := r5.below (Nat.le_refl _) hb6
        clear cA cB hA5 hB5 hF5 hbw5 r4 r5 hb6
        have cA := hA6.cell
        have cB := hB6.cell
        cases zd
        · cases neg
          · simp at HOK
            have HO : Hid (okND false N _ = true) := HOK
            clear HOK
            have vN := sval_lt HX.out
            have vD := sval_lt HY.out
            have hpc := p60_cp
            have hcl := cp_lim
            have HVN : Hid (prV _ = sval _) := prV_t HX.out
            have HVD : Hid (prV _ = sval _) := prV_t HY.out
            have hnz := of_decide_eq_false HZD.out
            rw [HVD.out] at hnz
            have hlN : sval N < lim := by omega
            have hlD : sval _ < lim := Int.lt_of_lt_of_le vD.2 (by omega)
            have hpD := Int.lt_iff_le_and_ne.2 ⟨vD.1, fun h => hnz h.symm⟩
            rw [HVN.out] at r6
            rw [HVD.out] at r7
            go_wp2_with fail
            refine (f_lowest_any _ _ _ _ _ _ ⟨_, rfl, r6⟩ ⟨_, rfl, r7⟩ hpD hlN hlD).mono ?_
            rintro e w9 ⟨v9, rfl, hv9, hb9⟩
            obtain ⟨s0, y1, i1, j1, y2, i2, j2, HS0, rfl, r8, r9⟩ := hv9.opens
            have hF9 := hF6.later hF6.lt hb9
            have hbw9 := Below.next hbw6 hb9 hbw6.size
            obtain ⟨f0, f1, f2, _, _⟩ := id hF9
            obtain ⟨x0, x1, x2, e0, e1, e2⟩ := hF9.cells
            obtain ⟨q0, q1, q2⟩ := put3_cells hF9 (.bool s0) (.slice y1 i1 j1) (.slice y2 i2 j2)
            have hbe := put3_below hbw9 (Nat.le_refl _) (.bool s0) (.slice y1 i1 j1) (.slice y2 i2 j2)
            have r8' := put3_rep hF9 r8 (.bool s0) (.slice y1 i1 j1) (.slice y2 i2 j2) (by simp) (by simp)
            have r9' := put3_rep hF9 r9 (.bool s0) (.slice y1 i1 j1) (.slice y2 i2 j2) (by simp) (by simp)
            unfold put3 at q0 q1 q2 hbe r8' r9'
            go_wp2
            refine bodyPost_ret (v := .tuple #[.agg #[.bool s0, .slice y1 i1 j1, .slice y2 i2 j2], .bool true]) (by simp [results, Tryz.results21, go_sem, q0, q1, q2]) rfl ⟨_, by rw [HO.out], fun _ => ⟨_, _, by rw [HS0.out], r8', r9'⟩, ⟨_, _, _, _, _, _, _, rfl⟩, hbe⟩
          · go_wp2_with fail
            refine (n_zero_any _ _ _ ⟨_, rfl, r6⟩).mono ?_
            rintro e w7 ⟨rfl, hb7⟩
            rw [HZN.out]
            have hA7 := hA6.later hA6.lt hb7
            have hB7 := hB6.later hB6.lt hb7
            have hF7 := hF6.later hF6.lt hb7
            have hbw7 := Below.next hbw6 hb7 hbw6.size
            have r6' := r6.below (Nat.le_refl _) hb7
            have r7' := r7.below (Nat.le_refl _) hb7
            clear cA cB hA6 hB6 hF6 hbw6 r6 r7 hb7
            have cA := hA7.cell
            have cB := hB7.cell
            cases zn
            · simp at HOK
              have HO : Hid (okND true N _ = true) := HOK
              clear HOK
              have vN := sval_lt HX.out
              have vD := sval_lt HY.out
              have hpc := p60_cp
              have hcl := cp_lim
              have HVN : Hid (prV _ = sval _) := prV_t HX.out
              have HVD : Hid (prV _ = sval _) := prV_t HY.out
              have hnz := of_decide_eq_false HZD.out
              rw [HVD.out] at hnz
              have hlN : sval N < lim := by omega
              have hlD : sval _ < lim := Int.lt_of_lt_of_le vD.2 (by omega)
              have hpD := Int.lt_iff_le_and_ne.2 ⟨vD.1, fun h => hnz h.symm⟩
              rw [HVN.out] at r6'
              rw [HVD.out] at r7'
              go_wp2_with fail
              refine (f_lowest_any _ _ _ _ _ _ ⟨_, rfl, r6'⟩ ⟨_, rfl, r7'⟩ hpD hlN hlD).mono ?_
              rintro e w9 ⟨v9, rfl, hv9, hb9⟩
              obtain ⟨s0, y1, i1, j1, y2, i2, j2, HS0, rfl, r8, r9⟩ := hv9.opens
              have hF9 := hF7.later hF7.lt hb9
              have hbw9 := Below.next hbw7 hb9 hbw7.size
              obtain ⟨f0, f1, f2, _, _⟩ := id hF9
              obtain ⟨x0, x1, x2, e0, e1, e2⟩ := hF9.cells
              obtain ⟨q0, q1, q2⟩ := put3_cells hF9 (.bool s0) (.slice y1 i1 j1) (.slice y2 i2 j2)
              have hbe := put3_below hbw9 (Nat.le_refl _) (.bool s0) (.slice y1 i1 j1) (.slice y2 i2 j2)
              have r8' := put3_rep hF9 r8 (.bool s0) (.slice y1 i1 j1) (.slice y2 i2 j2) (by simp) (by simp)
              have r9' := put3_rep hF9 r9 (.bool s0) (.slice y1 i1 j1) (.slice y2 i2 j2) (by simp) (by simp)
              unfold put3 at q0 q1 q2 hbe r8' r9'
              go_wp2
              refine bodyPost_ret (v := .tuple #[.agg #[.bool s0, .slice y1 i1 j1, .slice y2 i2 j2], .bool true]) (by simp [results, Tryz.results21, go_sem, q0, q1, q2]) rfl ⟨_, by rw [HO.out], fun _ => ⟨_, _, by rw [HS0.out], r8', r9'⟩, ⟨_, _, _, _, _, _, _, rfl⟩, hbe⟩
            · simp at HOK
              have HO : Hid (okND true N _ = false) := HOK
              clear HOK
              obtain ⟨f0, f1, f2, _, _⟩ := id hF7
              obtain ⟨x0, x1, x2, e0, e1, e2⟩ := hF7.cells
              obtain ⟨q0, q1, q2⟩ := put3_cells hF7 (.bool false) (.slice none 0 0) (.slice none 0 0)
              have hbe := put3_below hbw7 (Nat.le_refl _) (.bool false) (.slice none 0 0) (.slice none 0 0)
              unfold put3 at q0 q1 q2 hbe
              go_wp2
              refine bodyPost_ret (v := .tuple #[.agg #[.bool false, .slice none 0 0, .slice none 0 0], .bool false]) (by simp [results, Tryz.results21, go_sem, q0, q1, q2]) rfl ⟨_, by rw [HO.out], fun h => by rw [HO.out] at h; simp at h, ⟨_, _, _, _, _, _, _, rfl⟩, hbe⟩
        · simp at HOK
          have HO : Hid (okND neg N _ = false) := HOK
          clear HOK
          obtain ⟨f0, f1, f2, _, _⟩ := id hF6
          obtain ⟨x0, x1, x2, e0, e1, e2⟩ := hF6.cells
          obtain ⟨q0, q1, q2⟩ := put3_cells hF6 (.bool false) (.slice none 0 0) (.slice none 0 0)
          have hbe := put3_below hbw6 (Nat.le_refl _) (.bool false) (.slice none 0 0) (.slice none 0 0)
          unfold put3 at q0 q1 q2 hbe
          go_wp2
          refine bodyPost_ret (v := .tuple #[.agg #[.bool false, .slice none 0 0, .slice none 0 0], .bool false]) (by simp [results, Tryz.results21, go_sem, q0, q1, q2]) rfl ⟨_, by rw [HO.out], fun h => by rw [HO.out] at h; simp at h, ⟨_, _, _, _, _, _, _, rfl⟩, hbe⟩

theorem f_parse_any (s : List UInt8) (w : World) (hs : s.length ≤ 122) (hG : Gl w) :
    Calls Tryz.prog 21 #[.string ⟨s.toArray⟩, .int .i64 60] w fun e w' => ∃ v b, e = .returned (.tuple #[v, .bool b]) ∧ b = (parseQ s).isSome ∧ (∀ q, parseQ s = some q → RepF w' v q) ∧ Shp v ∧ Below w.heap.size w w' := by
  have hpre : ∀ (r : List UInt8) (neg : Bool), Lib.hasPrefix s [126] = neg → Lib.trimPrefix s [126] = r → r.length ≤ 122 → parseQ s = (if okND neg (cutN r) (cutD r) then some (mk neg (sval (cutN r)) (sval (cutD r))) else none) →
      Calls Tryz.prog 21 #[.string ⟨s.toArray⟩, .int .i64 60] w fun e w' => ∃ v b, e = .returned (.tuple #[v, .bool b]) ∧ b = (parseQ s).isSome ∧ (∀ q, parseQ s = some q → RepF w' v q) ∧ Shp v ∧ Below w.heap.size w w' := by
    intro r neg h1 h2 h3 h4
    have hl := cutND_len r
    have key : ∀ U fnd, Lib.cut r [47] = (cutN r, U, fnd) → (fnd = true ∧ cutD r = U ∨ fnd = false ∧ cutD r = [49]) →
        Calls Tryz.prog 21 #[.string ⟨s.toArray⟩, .int .i64 60] w fun e w' => ∃ v b, e = .returned (.tuple #[v, .bool b]) ∧ b = (parseQ s).isSome ∧ (∀ q, parseQ s = some q → RepF w' v q) ∧ Shp v ∧ Below w.heap.size w w' := by
      intro U fnd h5 h6
      refine (f_parse_raw s r (cutN r) U (cutD r) neg fnd w hs (by omega) h1 h2 h5 (by omega) (by omega) h6 hG).mono ?_
      rintro e w' ⟨v, rfl, hr, hsh, hb⟩
      refine ⟨v, _, rfl, ?_, ?_, hsh, hb⟩
      · rw [h4]; cases okND neg (cutN r) (cutD r) <;> simp
      · intro q hq
        rw [h4] at hq
        cases hok : okND neg (cutN r) (cutD r)
        · rw [hok] at hq; simp at hq
        · rw [hok] at hq; simp at hq; subst hq; exact hr hok
    rcases cut47 r with h5 | ⟨h5, h6⟩
    · exact key _ _ h5 (Or.inl ⟨rfl, rfl⟩)
    · exact key _ _ h5 (Or.inr ⟨rfl, h6⟩)
  match s, hs, hpre with
  | [], _, hpre => exact hpre [] false (by simp [Lib.hasPrefix]) (by simp [Lib.trimPrefix, Lib.hasPrefix]) (by simp) (by simp [parseQ])
  | c :: t, hs, hpre =>
    by_cases hc : c = 126
    · subst hc
      exact hpre t true (by simp [Lib.hasPrefix]) (by simp [Lib.trimPrefix, Lib.hasPrefix]) (by simp at hs; omega) (by simp [parseQ])
    · have h1 : Lib.hasPrefix (c :: t) [126] = false := by
        simp [Lib.hasPrefix, List.isPrefixOf]; exact fun h => hc h.symm
      exact hpre (c :: t) false h1 (by simp [Lib.trimPrefix, h1]) hs (by simp [parseQ, hc])
end Go.Proofs.YtknnjibmacmniaaGreatDoor
