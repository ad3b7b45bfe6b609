/- abacus: pick, truth, divide, leftOver. -/
import Derived.Test.YtknnjibmacmniaaGreatDoorC27
import Derived.Test.YtknnjibmacmniaaGreatDoorC29
import Derived.Test.YtknnjibmacmniaaGreatDoorC28
namespace Go.Proofs.YtknnjibmacmniaaGreatDoor
open Go.RowKit
set_option linter.unusedVariables false
attribute [local go_sem ↓] Go.wp_at_zero Go.wp_at_succ

set_option maxRecDepth 100000 in
set_option maxHeartbeats 1600000 in
theorem a_pick_any (s : Bool) (v u : Value) (a b : Q) (w : World) (ha : RepF w v a) (hb : RepF w u b) :
    Calls Tryz.prog 102 #[.bool s, v, u] w fun e w' => ∃ v', e = .returned v' ∧ RepF w' v' (if s then a else b) ∧ Below w.heap.size w w' := by
  have ha' := ha
  have hb' := hb
  obtain ⟨sx, a1, l1, c1, a2, l2, c2, HSX, rfl, h1, h2⟩ := ha.opens
  obtain ⟨sy, a3, l3, c3, a4, l4, c4, HSY, rfl, h3, h4⟩ := hb.opens
  have hT := Three.new w (.bool sx) (.slice a1 l1 c1) (.slice a2 l2 c2) (.bool sy) (.slice a3 l3 c3) (.slice a4 l4 c4) 58 58 58
  have hW : ∀ o o' o'', Below w.heap.size w (((w.alloc o).alloc o').alloc o'') := fun o o' o'' => (((Below.refl _ _).alloc (Nat.le_refl _) o).alloc (by simp) o').alloc (by simp; omega) o''
  obtain ⟨p0, p1, p2⟩ := hT.a.cells
  obtain ⟨p3, p4, p5⟩ := hT.b.cells
  have hR := hT.r
  have hbw := hW (.cells #[.bool sx, .slice a1 l1 c1, .slice a2 l2 c2] 58) (.cells #[.bool sy, .slice a3 l3 c3, .slice a4 l4 c4] 58) (.cells #[.bool false, .slice none 0 0, .slice none 0 0] 58)
  have h1' := h1.below (Nat.le_refl _) hbw
  have h2' := h2.below (Nat.le_refl _) hbw
  have h3' := h3.below (Nat.le_refl _) hbw
  have h4' := h4.below (Nat.le_refl _) hbw
  clear ha hb
  cases s
  · go_enter Tryz.func102, Tryz.ntmps102
    go_wp2
    refine bodyPost_ret (v := .agg #[.bool sy, .slice a3 l3 c3, .slice a4 l4 c4]) (by simp [results, Tryz.results102, go_sem]) rfl ⟨_, rfl, ⟨_, _, by simp [HSY.out], h3.below (Nat.le_refl _) (hW _ _ _), h4.below (Nat.le_refl _) (hW _ _ _)⟩, hW _ _ _⟩
  · go_enter Tryz.func102, Tryz.ntmps102
    go_wp2
    refine bodyPost_ret (v := .agg #[.bool sx, .slice a1 l1 c1, .slice a2 l2 c2]) (by simp [results, Tryz.results102, go_sem]) rfl ⟨_, rfl, ⟨_, _, by simp [HSX.out], h1.below (Nat.le_refl _) (hW _ _ _), h2.below (Nat.le_refl _) (hW _ _ _)⟩, hW _ _ _⟩

set_option maxRecDepth 100000 in
set_option maxHeartbeats 1600000 in
theorem a_truth_any (s : Bool) (w : World) :
    Calls Tryz.prog 100 #[.bool s] w fun e w' => ∃ v', e = .returned v' ∧ RepF w' v' (truthQ s) ∧ Below w.heap.size w w' := by
  have hW : ∀ o, Below w.heap.size w (w.alloc o) := fun o => (Below.refl _ _).alloc (Nat.le_refl _) o
  have hF := Fz.new w (.bool false) (.slice none 0 0) (.slice none 0 0) 58 (by simp) (by simp) (by simp)
  have HT : Hid ((if s then smallQ 1 else smallQ 0) = truthQ s) := by unfold Hid truthQ; cases s <;> rfl
  go_enter Tryz.func100, Tryz.ntmps100
  go_wp2_with fail
  refine (f_whole_any 1 _ (by omega) (by omega)).mono ?_
  rintro e w1 ⟨v1, rfl, hv1, hb1⟩
  have hF1 := hF.later hF.lt hb1
  have hbw1 := Below.next (hW _) hb1 (by simp)
  go_wp2_with fail
  refine (f_whole_any 0 _ (by omega) (by omega)).mono ?_
  rintro e w2 ⟨v2, rfl, hv2, hb2⟩
  have hF2 := hF1.later hF1.lt hb2
  have hbw2 := Below.next hbw1 hb2 hbw1.size
  have hv12 := hv1.below (Nat.le_refl _) hb2
  go_wp2_with fail
  refine (a_pick_any s _ _ (smallQ 1) (smallQ 0) _ hv12 hv2).mono ?_
  rw [HT.out]
  rintro e w3 ⟨v3, rfl, hv3, hb3⟩
  obtain ⟨s0, y1, i1, j1, y2, i2, j2, HS0, rfl, r8, r9⟩ := hv3.opens
  have hF3 := hF2.later hF2.lt hb3
  have hbw3 := Below.next hbw2 hb3 hbw2.size
  obtain ⟨f0, f1, f2, _, _⟩ := id hF3
  obtain ⟨x0, x1, x2, e0, e1, e2⟩ := hF3.cells
  obtain ⟨q0, q1, q2⟩ := put3_cells hF3 (.bool s0) (.slice y1 i1 j1) (.slice y2 i2 j2)
  have hbe := put3_below (g := w.heap.size) hbw3 (by omega) (.bool s0) (.slice y1 i1 j1) (.slice y2 i2 j2)
  have rN' := put3_rep hF3 r8 (.bool s0) (.slice y1 i1 j1) (.slice y2 i2 j2) (by simp) (by simp)
  have rD' := put3_rep hF3 r9 (.bool s0) (.slice y1 i1 j1) (.slice y2 i2 j2) (by simp) (by simp)
  unfold put3 at q0 q1 q2 hbe rN' rD'
  go_wp2
  refine bodyPost_ret (v := .agg #[.bool s0, .slice y1 i1 j1, .slice y2 i2 j2]) (by simp [results, Tryz.results100, go_sem, q0, q1, q2]) rfl ⟨_, rfl, ⟨_, _, by rw [HS0.out], rN', rD'⟩, hbe⟩

set_option maxRecDepth 100000 in
set_option maxHeartbeats 1600000 in
theorem a_divide_zero (v u : Value) (a b : Q) (w : World) (ha : RepF w v a) (hb : RepF w u b) (hz : b.n = 0) :
    Calls Tryz.prog 97 #[v, u] w fun e w' => ∃ v', e = .returned (.tuple #[v', .int .i64 9]) ∧ Shp v' ∧ Below w.heap.size w w' := by
  have ha' := ha
  have hb' := hb
  obtain ⟨sx, a1, l1, c1, a2, l2, c2, HSX, rfl, h1, h2⟩ := ha.opens
  obtain ⟨sy, a3, l3, c3, a4, l4, c4, HSY, rfl, h3, h4⟩ := hb.opens
  have hT := Three.new w (.bool sx) (.slice a1 l1 c1) (.slice a2 l2 c2) (.bool sy) (.slice a3 l3 c3) (.slice a4 l4 c4) 58 58 58
  have hW : ∀ o o' o'', Below w.heap.size w (((w.alloc o).alloc o').alloc o'') := fun o o' o'' => (((Below.refl _ _).alloc (Nat.le_refl _) o).alloc (by simp) o').alloc (by simp; omega) o''
  have HZ : Hid (sgQ b = 0) := by unfold Hid sgQ; rw [if_pos hz]
  clear ha hb hz
  go_enter Tryz.func97, Tryz.ntmps97
  go_wp2_with fail
  refine (f_sign_any _ b _ (hb'.below (Nat.le_refl _) (hW _ _ _))).mono ?_
  rw [HZ.out]
  rintro e w1 ⟨rfl, hb1⟩
  have hT1 := hT.later hb1
  have hR := hT1.r
  have hbw1 := Below.next (hW _ _ _) hb1 (by simp; omega)
  obtain ⟨f0, f1, f2, _, _⟩ := id hR
  obtain ⟨x0, x1, x2, e0, e1, e2⟩ := hR.cells
  obtain ⟨q0, q1, q2⟩ := put3_cells hR (.bool false) (.slice none 0 0) (.slice none 0 0)
  have hbe := put3_below (g := w.heap.size + 1 + 1) hbw1 (by omega) (.bool false) (.slice none 0 0) (.slice none 0 0)
  unfold put3 at q0 q1 q2 hbe
  go_wp2
  refine bodyPost_ret (v := .tuple #[.agg #[.bool false, .slice none 0 0, .slice none 0 0], .int .i64 9]) (by simp [results, Tryz.results97, go_sem, q0, q1, q2]) rfl ⟨_, rfl, ⟨_, _, _, _, _, _, _, rfl⟩, hbe⟩

set_option maxRecDepth 100000 in
set_option maxHeartbeats 1600000 in
theorem a_divide_run (v u : Value) (a b : Q) (w : World) (ha : RepF w v a) (hb : RepF w u b) (oa : a.Ok) (onb : (invQ b).Ok) (hz : ¬ b.n = 0) :
    Calls Tryz.prog 97 #[v, u] w fun e w' => ∃ v', e = .returned (.tuple #[v', .int .i64 0]) ∧ RepF w' v' (mulQ a (invQ b)) ∧ Shp v' ∧ Below w.heap.size w w' := by
  have ha' := ha
  have hb' := hb
  obtain ⟨sx, a1, l1, c1, a2, l2, c2, HSX, rfl, h1, h2⟩ := ha.opens
  obtain ⟨sy, a3, l3, c3, a4, l4, c4, HSY, rfl, h3, h4⟩ := hb.opens
  have hT := Three.new w (.bool sx) (.slice a1 l1 c1) (.slice a2 l2 c2) (.bool sy) (.slice a3 l3 c3) (.slice a4 l4 c4) 58 58 58
  have hW : ∀ o o' o'', Below w.heap.size w (((w.alloc o).alloc o').alloc o'') := fun o o' o'' => (((Below.refl _ _).alloc (Nat.le_refl _) o).alloc (by simp) o').alloc (by simp; omega) o''
  have hs0 : sgQ b ≠ 0 := by unfold sgQ; rw [if_neg hz]; split <;> omega
  obtain ⟨z, HZ⟩ : ∃ z, Hid (sgQ b = z) := ⟨_, rfl⟩
  rw [HZ.out] at hs0
  have hs1 : (z == 0) = false := by simpa using hs0
  clear ha hb hz
  go_enter Tryz.func97, Tryz.ntmps97
  go_wp2_with fail
  refine (f_sign_any _ b _ (hb'.below (Nat.le_refl _) (hW _ _ _))).mono ?_
  rw [HZ.out]
  rintro e w1 ⟨rfl, hb1⟩
  have hT1 := hT.later hb1
  have hbw1 := Below.next (hW _ _ _) hb1 (by simp; omega)
  obtain ⟨p0, p1, p2⟩ := hT1.a.cells
  obtain ⟨p3, p4, p5⟩ := hT1.b.cells
  go_wp2_with fail
  refine (f_divide_any _ _ a b _ (ha'.below (Nat.le_refl _) hbw1) (hb'.below (Nat.le_refl _) hbw1) oa onb).mono ?_
  rintro e w2 ⟨v2, rfl, hv2, hb2⟩
  obtain ⟨s0, y1, i1, j1, y2, i2, j2, HS0, rfl, r8, r9⟩ := hv2.opens
  have hR := (hT1.later hb2).r
  have hbw2 := Below.next hbw1 hb2 hbw1.size
  clear p0 p1 p2 p3 p4 p5
  obtain ⟨f0, f1, f2, _, _⟩ := id hR
  obtain ⟨x0, x1, x2, e0, e1, e2⟩ := hR.cells
  obtain ⟨q0, q1, q2⟩ := put3_cells hR (.bool s0) (.slice y1 i1 j1) (.slice y2 i2 j2)
  have hbe := put3_below (g := w.heap.size + 1 + 1) hbw2 (by omega) (.bool s0) (.slice y1 i1 j1) (.slice y2 i2 j2)
  have rN' := put3_rep hR r8 (.bool s0) (.slice y1 i1 j1) (.slice y2 i2 j2) (by simp) (by simp)
  have rD' := put3_rep hR r9 (.bool s0) (.slice y1 i1 j1) (.slice y2 i2 j2) (by simp) (by simp)
  unfold put3 at q0 q1 q2 hbe rN' rD'
  go_wp2
  refine bodyPost_ret (v := .tuple #[.agg #[.bool s0, .slice y1 i1 j1, .slice y2 i2 j2], .int .i64 0]) (by simp [results, Tryz.results97, go_sem, q0, q1, q2]) rfl ⟨_, rfl, ⟨_, _, by rw [HS0.out], rN', rD'⟩, ⟨_, _, _, _, _, _, _, rfl⟩, hbe⟩

set_option maxRecDepth 100000 in
set_option maxHeartbeats 1600000 in
theorem a_left_arg1 (v u : Value) (a b : Q) (w : World) (ha : RepF w v a) (hb : RepF w u b) (hd : ¬ a.d = 1) :
    Calls Tryz.prog 98 #[v, u] w fun e w' => ∃ v', e = .returned (.tuple #[v', .int .i64 8]) ∧ Shp v' ∧ Below w.heap.size w w' := by
  have ha' := ha
  have hb' := hb
  obtain ⟨sx, a1, l1, c1, a2, l2, c2, HSX, rfl, h1, h2⟩ := ha.opens
  obtain ⟨sy, a3, l3, c3, a4, l4, c4, HSY, rfl, h3, h4⟩ := hb.opens
  have hT := Three.new w (.bool sx) (.slice a1 l1 c1) (.slice a2 l2 c2) (.bool sy) (.slice a3 l3 c3) (.slice a4 l4 c4) 58 58 58
  have hW : ∀ o o' o'', Below w.heap.size w (((w.alloc o).alloc o').alloc o'') := fun o o' o'' => (((Below.refl _ _).alloc (Nat.le_refl _) o).alloc (by simp) o').alloc (by simp; omega) o''
  have HA : Hid (decide (a.d = 1) = false) := decide_eq_false hd
  clear hd
  clear ha hb
  go_enter Tryz.func98, Tryz.ntmps98
  go_wp2_with fail
  refine (f_isone_any _ a _ (ha'.below (Nat.le_refl _) (hW _ _ _))).mono ?_
  rw [HA.out]
  rintro e w1 ⟨rfl, hb1⟩
  have hT1 := hT.later hb1
  have hbw1 := Below.next (hW _ _ _) hb1 (by simp; omega)
  obtain ⟨p0, p1, p2⟩ := hT1.a.cells
  obtain ⟨p3, p4, p5⟩ := hT1.b.cells
  have hR := hT1.r
  clear p0 p1 p2 p3 p4 p5
  obtain ⟨f0, f1, f2, _, _⟩ := id hR
  obtain ⟨x0, x1, x2, e0, e1, e2⟩ := hR.cells
  obtain ⟨q0, q1, q2⟩ := put3_cells hR (.bool false) (.slice none 0 0) (.slice none 0 0)
  have hbe := put3_below (g := w.heap.size + 1 + 1) hbw1 (by omega) (.bool false) (.slice none 0 0) (.slice none 0 0)
  unfold put3 at q0 q1 q2 hbe
  go_wp2
  refine bodyPost_ret (v := .tuple #[.agg #[.bool false, .slice none 0 0, .slice none 0 0], .int .i64 8]) (by simp [results, Tryz.results98, go_sem, q0, q1, q2]) rfl ⟨_, rfl, ⟨_, _, _, _, _, _, _, rfl⟩, hbe⟩

set_option maxRecDepth 100000 in
set_option maxHeartbeats 1600000 in
theorem a_left_arg2 (v u : Value) (a b : Q) (w : World) (ha : RepF w v a) (hb : RepF w u b) (hd : a.d = 1) (hd2 : ¬ b.d = 1) :
    Calls Tryz.prog 98 #[v, u] w fun e w' => ∃ v', e = .returned (.tuple #[v', .int .i64 8]) ∧ Shp v' ∧ Below w.heap.size w w' := by
  have ha' := ha
  have hb' := hb
  obtain ⟨sx, a1, l1, c1, a2, l2, c2, HSX, rfl, h1, h2⟩ := ha.opens
  obtain ⟨sy, a3, l3, c3, a4, l4, c4, HSY, rfl, h3, h4⟩ := hb.opens
  have hT := Three.new w (.bool sx) (.slice a1 l1 c1) (.slice a2 l2 c2) (.bool sy) (.slice a3 l3 c3) (.slice a4 l4 c4) 58 58 58
  have hW : ∀ o o' o'', Below w.heap.size w (((w.alloc o).alloc o').alloc o'') := fun o o' o'' => (((Below.refl _ _).alloc (Nat.le_refl _) o).alloc (by simp) o').alloc (by simp; omega) o''
  have HA : Hid (decide (a.d = 1) = true) := decide_eq_true hd
  have HB : Hid (decide (b.d = 1) = false) := decide_eq_false hd2
  clear hd hd2
  clear ha hb
  go_enter Tryz.func98, Tryz.ntmps98
  go_wp2_with fail
  refine (f_isone_any _ a _ (ha'.below (Nat.le_refl _) (hW _ _ _))).mono ?_
  rw [HA.out]
  rintro e w1 ⟨rfl, hb1⟩
  have hT1 := hT.later hb1
  have hbw1 := Below.next (hW _ _ _) hb1 (by simp; omega)
  obtain ⟨p0, p1, p2⟩ := hT1.a.cells
  obtain ⟨p3, p4, p5⟩ := hT1.b.cells
  go_wp2_with fail
  refine (f_isone_any _ b _ (hb'.below (Nat.le_refl _) hbw1)).mono ?_
  rw [HB.out]
  rintro e w2 ⟨rfl, hb2⟩
  have hT2 := hT1.later hb2
  have hbw2 := Below.next hbw1 hb2 hbw1.size
  clear p0 p1 p2 p3 p4 p5
  obtain ⟨p0, p1, p2⟩ := hT2.a.cells
  obtain ⟨p3, p4, p5⟩ := hT2.b.cells
  have hR := hT2.r
  clear p0 p1 p2 p3 p4 p5
  obtain ⟨f0, f1, f2, _, _⟩ := id hR
  obtain ⟨x0, x1, x2, e0, e1, e2⟩ := hR.cells
  obtain ⟨q0, q1, q2⟩ := put3_cells hR (.bool false) (.slice none 0 0) (.slice none 0 0)
  have hbe := put3_below (g := w.heap.size + 1 + 1) hbw2 (by omega) (.bool false) (.slice none 0 0) (.slice none 0 0)
  unfold put3 at q0 q1 q2 hbe
  go_wp2
  refine bodyPost_ret (v := .tuple #[.agg #[.bool false, .slice none 0 0, .slice none 0 0], .int .i64 8]) (by simp [results, Tryz.results98, go_sem, q0, q1, q2]) rfl ⟨_, rfl, ⟨_, _, _, _, _, _, _, rfl⟩, hbe⟩

set_option maxRecDepth 100000 in
set_option maxHeartbeats 1600000 in
theorem a_left_zero (v u : Value) (a b : Q) (w : World) (ha : RepF w v a) (hb : RepF w u b) (hd : a.d = 1) (hd2 : b.d = 1) (hz : a.n = 0) :
    Calls Tryz.prog 98 #[v, u] w fun e w' => ∃ v', e = .returned (.tuple #[v', .int .i64 0]) ∧ RepF w' v' (b) ∧ Shp v' ∧ Below w.heap.size w w' := by
  have ha' := ha
  have hb' := hb
  obtain ⟨sx, a1, l1, c1, a2, l2, c2, HSX, rfl, h1, h2⟩ := ha.opens
  obtain ⟨sy, a3, l3, c3, a4, l4, c4, HSY, rfl, h3, h4⟩ := hb.opens
  have hT := Three.new w (.bool sx) (.slice a1 l1 c1) (.slice a2 l2 c2) (.bool sy) (.slice a3 l3 c3) (.slice a4 l4 c4) 58 58 58
  have hW : ∀ o o' o'', Below w.heap.size w (((w.alloc o).alloc o').alloc o'') := fun o o' o'' => (((Below.refl _ _).alloc (Nat.le_refl _) o).alloc (by simp) o').alloc (by simp; omega) o''
  have HA : Hid (decide (a.d = 1) = true) := decide_eq_true hd
  have HB : Hid (decide (b.d = 1) = true) := decide_eq_true hd2
  have HZ : Hid (sgQ a = 0) := by unfold Hid sgQ; rw [if_pos hz]
  clear hd hd2 hz
  clear ha hb
  go_enter Tryz.func98, Tryz.ntmps98
  go_wp2_with fail
  refine (f_isone_any _ a _ (ha'.below (Nat.le_refl _) (hW _ _ _))).mono ?_
  rw [HA.out]
  rintro e w1 ⟨rfl, hb1⟩
  have hT1 := hT.later hb1
  have hbw1 := Below.next (hW _ _ _) hb1 (by simp; omega)
  obtain ⟨p0, p1, p2⟩ := hT1.a.cells
  obtain ⟨p3, p4, p5⟩ := hT1.b.cells
  go_wp2_with fail
  refine (f_isone_any _ b _ (hb'.below (Nat.le_refl _) hbw1)).mono ?_
  rw [HB.out]
  rintro e w2 ⟨rfl, hb2⟩
  have hT2 := hT1.later hb2
  have hbw2 := Below.next hbw1 hb2 hbw1.size
  clear p0 p1 p2 p3 p4 p5
  obtain ⟨p0, p1, p2⟩ := hT2.a.cells
  obtain ⟨p3, p4, p5⟩ := hT2.b.cells
  go_wp2_with fail
  refine (f_sign_any _ a _ (ha'.below (Nat.le_refl _) hbw2)).mono ?_
  rw [HZ.out]
  rintro e w3 ⟨rfl, hb3⟩
  have hT3 := hT2.later hb3
  have hbw3 := Below.next hbw2 hb3 hbw2.size
  clear p0 p1 p2 p3 p4 p5
  obtain ⟨p0, p1, p2⟩ := hT3.a.cells
  obtain ⟨p3, p4, p5⟩ := hT3.b.cells
  have hR := hT3.r
  have r8 := h3.below (Nat.le_refl _) hbw3
  have r9 := h4.below (Nat.le_refl _) hbw3
  obtain ⟨f0, f1, f2, _, _⟩ := id hR
  obtain ⟨x0, x1, x2, e0, e1, e2⟩ := hR.cells
  obtain ⟨q0, q1, q2⟩ := put3_cells hR (.bool sy) (.slice a3 l3 c3) (.slice a4 l4 c4)
  have hbe := put3_below (g := w.heap.size + 1 + 1) hbw3 (by omega) (.bool sy) (.slice a3 l3 c3) (.slice a4 l4 c4)
  have rN' := put3_rep hR r8 (.bool sy) (.slice a3 l3 c3) (.slice a4 l4 c4) (by simp) (by simp)
  have rD' := put3_rep hR r9 (.bool sy) (.slice a3 l3 c3) (.slice a4 l4 c4) (by simp) (by simp)
  unfold put3 at q0 q1 q2 hbe rN' rD'
  go_wp2
  refine bodyPost_ret (v := .tuple #[.agg #[.bool sy, .slice a3 l3 c3, .slice a4 l4 c4], .int .i64 0]) (by simp [results, Tryz.results98, go_sem, q0, q1, q2]) rfl ⟨_, rfl, ⟨_, _, by rw [HSY.out], rN', rD'⟩, ⟨_, _, _, _, _, _, _, rfl⟩, hbe⟩

set_option maxRecDepth 100000 in
set_option maxHeartbeats 1600000 in
theorem a_left_run (v u : Value) (a b : Q) (w : World) (ha : RepF w v a) (hb : RepF w u b) (oa : a.Ok) (ob : b.Ok) (hd : a.d = 1) (hd2 : b.d = 1) (hz : 0 < a.n) :
    Calls Tryz.prog 98 #[v, u] w fun e w' => ∃ v', e = .returned (.tuple #[v', .int .i64 0]) ∧ RepF w' v' (restQ a b) ∧ Shp v' ∧ Below w.heap.size w w' := by
  have ha' := ha
  have hb' := hb
  obtain ⟨sx, a1, l1, c1, a2, l2, c2, HSX, rfl, h1, h2⟩ := ha.opens
  obtain ⟨sy, a3, l3, c3, a4, l4, c4, HSY, rfl, h3, h4⟩ := hb.opens
  have hT := Three.new w (.bool sx) (.slice a1 l1 c1) (.slice a2 l2 c2) (.bool sy) (.slice a3 l3 c3) (.slice a4 l4 c4) 58 58 58
  have hW : ∀ o o' o'', Below w.heap.size w (((w.alloc o).alloc o').alloc o'') := fun o o' o'' => (((Below.refl _ _).alloc (Nat.le_refl _) o).alloc (by simp) o').alloc (by simp; omega) o''
  have HA : Hid (decide (a.d = 1) = true) := decide_eq_true hd
  have HB : Hid (decide (b.d = 1) = true) := decide_eq_true hd2
  have HL : Hid (leftQ a b = restQ a b) := left_rest hz hd
  have hs0 : sgQ a ≠ 0 := by unfold sgQ; rw [if_neg (by omega)]; split <;> omega
  obtain ⟨z, HZ⟩ : ∃ z, Hid (sgQ a = z) := ⟨_, rfl⟩
  rw [HZ.out] at hs0
  have hs1 : (z == 0) = false := by simpa using hs0
  clear hd hd2
  clear ha hb
  go_enter Tryz.func98, Tryz.ntmps98
  go_wp2_with fail
  refine (f_isone_any _ a _ (ha'.below (Nat.le_refl _) (hW _ _ _))).mono ?_
  rw [HA.out]
  rintro e w1 ⟨rfl, hb1⟩
  have hT1 := hT.later hb1
  have hbw1 := Below.next (hW _ _ _) hb1 (by simp; omega)
  obtain ⟨p0, p1, p2⟩ := hT1.a.cells
  obtain ⟨p3, p4, p5⟩ := hT1.b.cells
  go_wp2_with fail
  refine (f_isone_any _ b _ (hb'.below (Nat.le_refl _) hbw1)).mono ?_
  rw [HB.out]
  rintro e w2 ⟨rfl, hb2⟩
  have hT2 := hT1.later hb2
  have hbw2 := Below.next hbw1 hb2 hbw1.size
  clear p0 p1 p2 p3 p4 p5
  obtain ⟨p0, p1, p2⟩ := hT2.a.cells
  obtain ⟨p3, p4, p5⟩ := hT2.b.cells
  go_wp2_with fail
  refine (f_sign_any _ a _ (ha'.below (Nat.le_refl _) hbw2)).mono ?_
  rw [HZ.out]
  rintro e w3 ⟨rfl, hb3⟩
  have hT3 := hT2.later hb3
  have hbw3 := Below.next hbw2 hb3 hbw2.size
  clear p0 p1 p2 p3 p4 p5
  obtain ⟨p0, p1, p2⟩ := hT3.a.cells
  obtain ⟨p3, p4, p5⟩ := hT3.b.cells
  go_wp2_with fail
  refine (f_left_any _ _ a b _ (ha'.below (Nat.le_refl _) hbw3) (hb'.below (Nat.le_refl _) hbw3) oa ob hz).mono ?_
  rw [HL.out]
  rintro e w4 ⟨v4, rfl, hv4, hb4⟩
  obtain ⟨s0, y1, i1, j1, y2, i2, j2, HS0, rfl, r8, r9⟩ := hv4.opens
  have hR := (hT3.later hb4).r
  have hbw4 := Below.next hbw3 hb4 hbw3.size
  clear p0 p1 p2 p3 p4 p5
  obtain ⟨f0, f1, f2, _, _⟩ := id hR
  obtain ⟨x0, x1, x2, e0, e1, e2⟩ := hR.cells
  obtain ⟨q0, q1, q2⟩ := put3_cells hR (.bool s0) (.slice y1 i1 j1) (.slice y2 i2 j2)
  have hbe := put3_below (g := w.heap.size + 1 + 1) hbw4 (by omega) (.bool s0) (.slice y1 i1 j1) (.slice y2 i2 j2)
  have rN' := put3_rep hR r8 (.bool s0) (.slice y1 i1 j1) (.slice y2 i2 j2) (by simp) (by simp)
  have rD' := put3_rep hR r9 (.bool s0) (.slice y1 i1 j1) (.slice y2 i2 j2) (by simp) (by simp)
  unfold put3 at q0 q1 q2 hbe rN' rD'
  go_wp2
  refine bodyPost_ret (v := .tuple #[.agg #[.bool s0, .slice y1 i1 j1, .slice y2 i2 j2], .int .i64 0]) (by simp [results, Tryz.results98, go_sem, q0, q1, q2]) rfl ⟨_, rfl, ⟨_, _, by rw [HS0.out], rN', rD'⟩, ⟨_, _, _, _, _, _, _, rfl⟩, hbe⟩

end Go.Proofs.YtknnjibmacmniaaGreatDoor

/- abacus: raise. -/
namespace Go.Proofs.YtknnjibmacmniaaGreatDoor
open Go.RowKit
set_option linter.unusedVariables false
attribute [local go_sem ↓] Go.wp_at_zero Go.wp_at_succ

def powNE (a : Q) (n : Nat) : Int := if powNB a n then 10 else 0

set_option maxRecDepth 100000 in
set_option maxHeartbeats 1600000 in
theorem a_raise_frac (v u : Value) (a b : Q) (w : World) (ha : RepF w v a) (hb : RepF w u b) (hd : ¬ b.d = 1) :
    Calls Tryz.prog 99 #[v, u] w fun e w' => ∃ v', e = .returned (.tuple #[v', .int .i64 8]) ∧ Shp v' ∧ Below w.heap.size w w' := by
  have ha' := ha
  have hb' := hb
  obtain ⟨sx, a1, l1, c1, a2, l2, c2, HSX, rfl, h1, h2⟩ := ha.opens
  obtain ⟨sy, a3, l3, c3, a4, l4, c4, HSY, rfl, h3, h4⟩ := hb.opens
  have hT := Three.new w (.bool sx) (.slice a1 l1 c1) (.slice a2 l2 c2) (.bool sy) (.slice a3 l3 c3) (.slice a4 l4 c4) 58 58 58
  have hW : ∀ o o' o'', Below w.heap.size w (((w.alloc o).alloc o').alloc o'') := fun o o' o'' => (((Below.refl _ _).alloc (Nat.le_refl _) o).alloc (by simp) o').alloc (by simp; omega) o''
  clear ha hb
  go_enter Tryz.func99, Tryz.ntmps99
  go_wp2_with fail
  refine (f_within_frac _ b _ (hb'.below (Nat.le_refl _) (hW _ _ _)) hd).mono ?_
  rintro e w1 ⟨rfl, hb1⟩
  have hT1 := hT.later hb1
  have hR := hT1.r
  have hbw1 := Below.next (hW _ _ _) hb1 (by simp; omega)
  obtain ⟨f0, f1, f2, _, _⟩ := id hR
  obtain ⟨x0, x1, x2, e0, e1, e2⟩ := hR.cells
  obtain ⟨q0, q1, q2⟩ := put3_cells hR (.bool false) (.slice none 0 0) (.slice none 0 0)
  have hbe := put3_below (g := w.heap.size + 1 + 1) hbw1 (by omega) (.bool false) (.slice none 0 0) (.slice none 0 0)
  unfold put3 at q0 q1 q2 hbe
  go_wp2
  refine bodyPost_ret (v := .tuple #[.agg #[.bool false, .slice none 0 0, .slice none 0 0], .int .i64 8]) (by simp [results, Tryz.results99, go_sem, q0, q1, q2]) rfl ⟨_, rfl, ⟨_, _, _, _, _, _, _, rfl⟩, hbe⟩

set_option maxRecDepth 100000 in
set_option maxHeartbeats 1600000 in
theorem a_raise_big (v u : Value) (a b : Q) (w : World) (ha : RepF w v a) (hb : RepF w u b) (hd : b.d = 1) (hn : 99 < b.n) (bn : b.n < lim) :
    Calls Tryz.prog 99 #[v, u] w fun e w' => ∃ v', e = .returned (.tuple #[v', .int .i64 8]) ∧ Shp v' ∧ Below w.heap.size w w' := by
  have ha' := ha
  have hb' := hb
  obtain ⟨sx, a1, l1, c1, a2, l2, c2, HSX, rfl, h1, h2⟩ := ha.opens
  obtain ⟨sy, a3, l3, c3, a4, l4, c4, HSY, rfl, h3, h4⟩ := hb.opens
  have hT := Three.new w (.bool sx) (.slice a1 l1 c1) (.slice a2 l2 c2) (.bool sy) (.slice a3 l3 c3) (.slice a4 l4 c4) 58 58 58
  have hW : ∀ o o' o'', Below w.heap.size w (((w.alloc o).alloc o').alloc o'') := fun o o' o'' => (((Below.refl _ _).alloc (Nat.le_refl _) o).alloc (by simp) o').alloc (by simp; omega) o''
  clear ha hb
  go_enter Tryz.func99, Tryz.ntmps99
  go_wp2_with fail
  refine (f_within_big _ b _ (hb'.below (Nat.le_refl _) (hW _ _ _)) hd hn bn).mono ?_
  rintro e w1 ⟨rfl, hb1⟩
  have hT1 := hT.later hb1
  have hR := hT1.r
  have hbw1 := Below.next (hW _ _ _) hb1 (by simp; omega)
  obtain ⟨f0, f1, f2, _, _⟩ := id hR
  obtain ⟨x0, x1, x2, e0, e1, e2⟩ := hR.cells
  obtain ⟨q0, q1, q2⟩ := put3_cells hR (.bool false) (.slice none 0 0) (.slice none 0 0)
  have hbe := put3_below (g := w.heap.size + 1 + 1) hbw1 (by omega) (.bool false) (.slice none 0 0) (.slice none 0 0)
  unfold put3 at q0 q1 q2 hbe
  go_wp2
  refine bodyPost_ret (v := .tuple #[.agg #[.bool false, .slice none 0 0, .slice none 0 0], .int .i64 8]) (by simp [results, Tryz.results99, go_sem, q0, q1, q2]) rfl ⟨_, rfl, ⟨_, _, _, _, _, _, _, rfl⟩, hbe⟩

set_option maxRecDepth 100000 in
set_option maxHeartbeats 1600000 in
theorem a_raise_zero (v u : Value) (a b : Q) (w : World) (ha : RepF w v a) (hb : RepF w u b) (hd : b.d = 1) (hn : b.n ≤ 99) (h0 : 0 < b.n) (hneg : b.neg = true) (hz : a.n = 0) :
    Calls Tryz.prog 99 #[v, u] w fun e w' => ∃ v', e = .returned (.tuple #[v', .int .i64 9]) ∧ Shp v' ∧ Below w.heap.size w w' := by
  have ha' := ha
  have hb' := hb
  obtain ⟨sx, a1, l1, c1, a2, l2, c2, HSX, rfl, h1, h2⟩ := ha.opens
  obtain ⟨sy, a3, l3, c3, a4, l4, c4, HSY, rfl, h3, h4⟩ := hb.opens
  have hT := Three.new w (.bool sx) (.slice a1 l1 c1) (.slice a2 l2 c2) (.bool sy) (.slice a3 l3 c3) (.slice a4 l4 c4) 58 58 58
  have hW : ∀ o o' o'', Below w.heap.size w (((w.alloc o).alloc o').alloc o'') := fun o o' o'' => (((Below.refl _ _).alloc (Nat.le_refl _) o).alloc (by simp) o').alloc (by simp; omega) o''
  have HE : Hid (sgQ b * b.n = -b.n) := by unfold Hid sgQ; rw [if_neg (by omega), hneg]; simp
  have HZ : Hid (sgQ a = 0) := by unfold Hid sgQ; rw [if_pos hz]
  clear hz hneg
  clear ha hb
  go_enter Tryz.func99, Tryz.ntmps99
  go_wp2_with fail
  refine (f_within_yes _ b _ (hb'.below (Nat.le_refl _) (hW _ _ _)) hd (by omega)).mono ?_
  rw [HE.out]
  rintro e w1 ⟨rfl, hb1⟩
  have hT1 := hT.later hb1
  have hbw1 := Below.next (hW _ _ _) hb1 (by simp; omega)
  obtain ⟨p0, p1, p2⟩ := hT1.a.cells
  go_wp2_with fail
  refine (f_sign_any _ a _ (ha'.below (Nat.le_refl _) hbw1)).mono ?_
  rw [HZ.out]
  rintro e w2 ⟨rfl, hb2⟩
  have hT2 := hT1.later hb2
  have hR := hT2.r
  have hbw2 := Below.next hbw1 hb2 hbw1.size
  clear p0 p1 p2
  obtain ⟨f0, f1, f2, _, _⟩ := id hR
  obtain ⟨x0, x1, x2, e0, e1, e2⟩ := hR.cells
  obtain ⟨q0, q1, q2⟩ := put3_cells hR (.bool false) (.slice none 0 0) (.slice none 0 0)
  have hbe := put3_below (g := w.heap.size + 1 + 1) hbw2 (by omega) (.bool false) (.slice none 0 0) (.slice none 0 0)
  unfold put3 at q0 q1 q2 hbe
  go_wp2
  refine bodyPost_ret (v := .tuple #[.agg #[.bool false, .slice none 0 0, .slice none 0 0], .int .i64 9]) (by simp [results, Tryz.results99, go_sem, q0, q1, q2]) rfl ⟨_, rfl, ⟨_, _, _, _, _, _, _, rfl⟩, hbe⟩

set_option maxRecDepth 100000 in
set_option maxHeartbeats 1600000 in
theorem a_raise_pos (v u : Value) (a b : Q) (w : World) (ha : RepF w v a) (hb : RepF w u b) (sa : a.Sm) (n : Nat) (hd : b.d = 1) (hn : b.n = n) (h99 : n ≤ 99) (hneg : b.neg = false) (hG : Gl w) :
    Calls Tryz.prog 99 #[v, u] w fun e w' => ∃ v' er, e = .returned (.tuple #[v', .int .i64 er]) ∧ er = powNE a n ∧ (er = 0 → RepF w' v' (powN a n)) ∧ Shp v' ∧ Below w.heap.size w w' := by
  have ha' := ha
  have hb' := hb
  obtain ⟨sx, a1, l1, c1, a2, l2, c2, HSX, rfl, h1, h2⟩ := ha.opens
  obtain ⟨sy, a3, l3, c3, a4, l4, c4, HSY, rfl, h3, h4⟩ := hb.opens
  have hT := Three.new w (.bool sx) (.slice a1 l1 c1) (.slice a2 l2 c2) (.bool sy) (.slice a3 l3 c3) (.slice a4 l4 c4) 58 58 58
  have hW : ∀ o o' o'', Below w.heap.size w (((w.alloc o).alloc o').alloc o'') := fun o o' o'' => (((Below.refl _ _).alloc (Nat.le_refl _) o).alloc (by simp) o').alloc (by simp; omega) o''
  have HE : Hid (sgQ b * b.n = n) := by
    unfold Hid sgQ; rw [hneg, hn]; split
    · rename_i h; rw [h]; rfl
    · simp
  clear hneg
  clear ha hb
  go_enter Tryz.func99, Tryz.ntmps99
  go_wp2_with fail
  refine (f_within_yes _ b _ (hb'.below (Nat.le_refl _) (hW _ _ _)) hd (by omega)).mono ?_
  rw [HE.out]
  rintro e w1 ⟨rfl, hb1⟩
  have hT1 := hT.later hb1
  have hbw1 := Below.next (hW _ _ _) hb1 (by simp; omega)
  obtain ⟨p0, p1, p2⟩ := hT1.a.cells
  have hG1 := hG.later hbw1
  have hRp := hT1.r
  have hbp := hbw1
  go_wp2_with fail
  refine (f_power_any _ a n _ (ha'.below (Nat.le_refl _) hbw1) sa h99 hG1).mono ?_
  rintro e w5 ⟨v5, rfl, hv5, hsh, hb5⟩
  obtain ⟨s5, y1, i1, j1, y2, i2, j2, rfl⟩ := hsh
  have hR5 := hRp.later hRp.lt hb5
  have hbw5 := Below.next hbp hb5 hbp.size
  have hbA : Below w5.heap.size w5 (w5.alloc (.cells #[.bool s5, .slice y1 i1 j1, .slice y2 i2 j2] 58)) := (Below.refl _ _).alloc (Nat.le_refl _) _
  have hB6 := Box.new w5 (.bool s5) (.slice y1 i1 j1) (.slice y2 i2 j2) 58
  have hR6 := hR5.later hR5.lt hbA
  have hbw6 := Below.next hbw5 hbA hbw5.size
  obtain ⟨z, HZ⟩ : ∃ z, Hid (powNB a n = z) := ⟨_, rfl⟩
  rw [HZ.out] at hv5 ⊢
  clear hb5 hbA hR5 hbw5
  obtain ⟨t0, t1, t2⟩ := hB6.cells
  cases z
  · obtain ⟨N5, D5, e5, r8, r9⟩ := hv5 rfl
    simp only [Value.agg.injEq, Array.mk.injEq, List.cons.injEq, Value.bool.injEq, and_true] at e5
    obtain ⟨e5, rfl, rfl⟩ := e5
    have HE5 : Hid (s5 = _) := e5
    clear e5
    have r8 := r8.below (Nat.le_refl _) ((Below.refl _ _).alloc (Nat.le_refl _) (.cells #[.bool s5, .slice y1 i1 j1, .slice y2 i2 j2] 58))
    have r9 := r9.below (Nat.le_refl _) ((Below.refl _ _).alloc (Nat.le_refl _) (.cells #[.bool s5, .slice y1 i1 j1, .slice y2 i2 j2] 58))
    obtain ⟨f0, f1, f2, _, _⟩ := id hR6
    obtain ⟨x0, x1, x2, e0, e1, e2⟩ := hR6.cells
    obtain ⟨q0, q1, q2⟩ := put3_cells hR6 (.bool s5) (.slice y1 i1 j1) (.slice y2 i2 j2)
    have hbe := put3_below (g := w.heap.size + 1 + 1) hbw6 (by omega) (.bool s5) (.slice y1 i1 j1) (.slice y2 i2 j2)
    have rN' := put3_rep hR6 r8 (.bool s5) (.slice y1 i1 j1) (.slice y2 i2 j2) (by simp) (by simp)
    have rD' := put3_rep hR6 r9 (.bool s5) (.slice y1 i1 j1) (.slice y2 i2 j2) (by simp) (by simp)
    unfold put3 at q0 q1 q2 hbe rN' rD'
    go_wp2
    refine bodyPost_ret (v := .tuple #[.agg #[.bool s5, .slice y1 i1 j1, .slice y2 i2 j2], .int .i64 0]) (by simp [results, Tryz.results99, go_sem, q0, q1, q2]) rfl ⟨_, 0, rfl, by unfold powNE; rw [HZ.out]; rfl, fun _ => ⟨_, _, by rw [HE5.out], rN', rD'⟩, ⟨_, _, _, _, _, _, _, rfl⟩, hbe⟩
  · clear hv5
    obtain ⟨f0, f1, f2, _, _⟩ := id hR6
    obtain ⟨x0, x1, x2, e0, e1, e2⟩ := hR6.cells
    obtain ⟨q0, q1, q2⟩ := put3_cells hR6 (.bool false) (.slice none 0 0) (.slice none 0 0)
    have hbe := put3_below (g := w.heap.size + 1 + 1) hbw6 (by omega) (.bool false) (.slice none 0 0) (.slice none 0 0)
    unfold put3 at q0 q1 q2 hbe
    go_wp2
    refine bodyPost_ret (v := .tuple #[.agg #[.bool false, .slice none 0 0, .slice none 0 0], .int .i64 10]) (by simp [results, Tryz.results99, go_sem, q0, q1, q2]) rfl ⟨_, 10, rfl, by unfold powNE; rw [HZ.out]; rfl, fun h => by simp at h, ⟨_, _, _, _, _, _, _, rfl⟩, hbe⟩

set_option maxRecDepth 100000 in
set_option maxHeartbeats 1600000 in
theorem a_raise_neg (v u : Value) (a b : Q) (w : World) (ha : RepF w v a) (hb : RepF w u b) (sa : (invQ a).Sm) (n : Nat) (hd : b.d = 1) (hn : b.n = n) (hn0 : 0 < n) (h99 : n ≤ 99) (hneg : b.neg = true) (hz : ¬ a.n = 0) (hG : Gl w) :
    Calls Tryz.prog 99 #[v, u] w fun e w' => ∃ v' er, e = .returned (.tuple #[v', .int .i64 er]) ∧ er = powNE (invQ a) n ∧ (er = 0 → RepF w' v' (powN (invQ a) n)) ∧ Shp v' ∧ Below w.heap.size w w' := by
  have ha' := ha
  have hb' := hb
  obtain ⟨sx, a1, l1, c1, a2, l2, c2, HSX, rfl, h1, h2⟩ := ha.opens
  obtain ⟨sy, a3, l3, c3, a4, l4, c4, HSY, rfl, h3, h4⟩ := hb.opens
  have hT := Three.new w (.bool sx) (.slice a1 l1 c1) (.slice a2 l2 c2) (.bool sy) (.slice a3 l3 c3) (.slice a4 l4 c4) 58 58 58
  have hW : ∀ o o' o'', Below w.heap.size w (((w.alloc o).alloc o').alloc o'') := fun o o' o'' => (((Below.refl _ _).alloc (Nat.le_refl _) o).alloc (by simp) o').alloc (by simp; omega) o''
  have HE : Hid (sgQ b * b.n = -(n : Int)) := by
    unfold Hid sgQ; rw [hneg, hn, if_neg (by omega)]; simp
  have hs0 : sgQ a ≠ 0 := by unfold sgQ; rw [if_neg hz]; split <;> omega
  obtain ⟨z, HZ⟩ : ∃ z, Hid (sgQ a = z) := ⟨_, rfl⟩
  rw [HZ.out] at hs0
  have hs1 : (z == 0) = false := by simpa using hs0
  clear hneg hz
  clear ha hb
  go_enter Tryz.func99, Tryz.ntmps99
  go_wp2_with fail
  refine (f_within_yes _ b _ (hb'.below (Nat.le_refl _) (hW _ _ _)) hd (by omega)).mono ?_
  rw [HE.out]
  rintro e w1 ⟨rfl, hb1⟩
  have hT1 := hT.later hb1
  have hbw1 := Below.next (hW _ _ _) hb1 (by simp; omega)
  obtain ⟨p0, p1, p2⟩ := hT1.a.cells
  go_wp2_with fail
  refine (f_sign_any _ a _ (ha'.below (Nat.le_refl _) hbw1)).mono ?_
  rw [HZ.out]
  rintro e w2 ⟨rfl, hb2⟩
  clear HZ
  have hT2 := hT1.later hb2
  have hbw2 := Below.next hbw1 hb2 hbw1.size
  clear p0 p1 p2 hT1 hb1 hT
  obtain ⟨p0, p1, p2⟩ := hT2.a.cells
  go_wp2_with fail
  refine (f_invert_any _ a _ (ha'.below (Nat.le_refl _) hbw2)).mono ?_
  rintro e w3 ⟨v3, rfl, hv3, hb3⟩
  obtain ⟨s3, b1, n1, k1, b2, n2, k2, HS3, rfl, r1, r2⟩ := hv3.opens
  have hT3 := hT2.later hb3
  have hbw3 := Below.next hbw2 hb3 hbw2.size
  clear p0 p1 p2 hT2 hb2 hb3 hv3
  have hfa := hT3.a.fz (by simp) (by simp) (by simp)
  obtain ⟨f0, f1, f2, _, _⟩ := id hfa
  obtain ⟨x0, x1, x2, e0, e1, e2⟩ := hfa.cells
  obtain ⟨p0, p1, p2⟩ := put3_cells hfa (.bool s3) (.slice b1 n1 k1) (.slice b2 n2 k2)
  have hRp := put3_fz_other hT3.r (show w.heap.size + 1 + 1 ≠ w.heap.size by omega) (.bool s3) (.slice b1 n1 k1) (.slice b2 n2 k2)
  have hbp := put3_below (g := w.heap.size) hbw3 (Nat.le_refl _) (.bool s3) (.slice b1 n1 k1) (.slice b2 n2 k2)
  have r3 := put3_rep hfa r1 (.bool s3) (.slice b1 n1 k1) (.slice b2 n2 k2) (by simp) (by simp)
  have r4 := put3_rep hfa r2 (.bool s3) (.slice b1 n1 k1) (.slice b2 n2 k2) (by simp) (by simp)
  have hG3 := hG.later hbp
  unfold put3 at p0 p1 p2 hRp hbp r3 r4 hG3
  clear r1 r2
  go_wp2_with fail
  refine (f_power_any _ (invQ a) n _ ⟨_, _, by rw [HS3.out], r3, r4⟩ sa h99 hG3).mono ?_
  clear f0 f1 f2 e0 e1 e2 p0 p1 p2
  rintro e w5 ⟨v5, rfl, hv5, hsh, hb5⟩
  obtain ⟨s5, y1, i1, j1, y2, i2, j2, rfl⟩ := hsh
  have hR5 := hRp.later hRp.lt hb5
  have hbw5 := Below.next hbp hb5 hbp.size
  have hbA : Below w5.heap.size w5 (w5.alloc (.cells #[.bool s5, .slice y1 i1 j1, .slice y2 i2 j2] 58)) := (Below.refl _ _).alloc (Nat.le_refl _) _
  have hB6 := Box.new w5 (.bool s5) (.slice y1 i1 j1) (.slice y2 i2 j2) 58
  have hR6 := hR5.later hR5.lt hbA
  have hbw6 := Below.next hbw5 hbA hbw5.size
  obtain ⟨z, HZ⟩ : ∃ z, Hid (powNB (invQ a) n = z) := ⟨_, rfl⟩
  rw [HZ.out] at hv5 ⊢
  clear hb5 hbA hR5 hbw5
  obtain ⟨t0, t1, t2⟩ := hB6.cells
  cases z
  · obtain ⟨N5, D5, e5, r8, r9⟩ := hv5 rfl
    simp only [Value.agg.injEq, Array.mk.injEq, List.cons.injEq, Value.bool.injEq, and_true] at e5
    obtain ⟨e5, rfl, rfl⟩ := e5
    have HE5 : Hid (s5 = _) := e5
    clear e5
    have r8 := r8.below (Nat.le_refl _) ((Below.refl _ _).alloc (Nat.le_refl _) (.cells #[.bool s5, .slice y1 i1 j1, .slice y2 i2 j2] 58))
    have r9 := r9.below (Nat.le_refl _) ((Below.refl _ _).alloc (Nat.le_refl _) (.cells #[.bool s5, .slice y1 i1 j1, .slice y2 i2 j2] 58))
    obtain ⟨f0, f1, f2, _, _⟩ := id hR6
    obtain ⟨x0, x1, x2, e0, e1, e2⟩ := hR6.cells
    obtain ⟨q0, q1, q2⟩ := put3_cells hR6 (.bool s5) (.slice y1 i1 j1) (.slice y2 i2 j2)
    have hbe := put3_below (g := w.heap.size + 1 + 1) hbw6 (by omega) (.bool s5) (.slice y1 i1 j1) (.slice y2 i2 j2)
    have rN' := put3_rep hR6 r8 (.bool s5) (.slice y1 i1 j1) (.slice y2 i2 j2) (by simp) (by simp)
    have rD' := put3_rep hR6 r9 (.bool s5) (.slice y1 i1 j1) (.slice y2 i2 j2) (by simp) (by simp)
    unfold put3 at q0 q1 q2 hbe rN' rD'
    go_wp2
    refine bodyPost_ret (v := .tuple #[.agg #[.bool s5, .slice y1 i1 j1, .slice y2 i2 j2], .int .i64 0]) (by simp [results, Tryz.results99, go_sem, q0, q1, q2]) rfl ⟨_, 0, rfl, by unfold powNE; rw [HZ.out]; rfl, fun _ => ⟨_, _, by rw [HE5.out], rN', rD'⟩, ⟨_, _, _, _, _, _, _, rfl⟩, hbe⟩
  · clear hv5
    obtain ⟨f0, f1, f2, _, _⟩ := id hR6
    obtain ⟨x0, x1, x2, e0, e1, e2⟩ := hR6.cells
    obtain ⟨q0, q1, q2⟩ := put3_cells hR6 (.bool false) (.slice none 0 0) (.slice none 0 0)
    have hbe := put3_below (g := w.heap.size + 1 + 1) hbw6 (by omega) (.bool false) (.slice none 0 0) (.slice none 0 0)
    unfold put3 at q0 q1 q2 hbe
    go_wp2
    refine bodyPost_ret (v := .tuple #[.agg #[.bool false, .slice none 0 0, .slice none 0 0], .int .i64 10]) (by simp [results, Tryz.results99, go_sem, q0, q1, q2]) rfl ⟨_, 10, rfl, by unfold powNE; rw [HZ.out]; rfl, fun h => by simp at h, ⟨_, _, _, _, _, _, _, rfl⟩, hbe⟩

end Go.Proofs.YtknnjibmacmniaaGreatDoor
