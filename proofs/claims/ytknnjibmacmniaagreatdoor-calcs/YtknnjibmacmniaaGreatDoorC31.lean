/- abacus: workUnbounded. -/
import Derived.Test.YtknnjibmacmniaaGreatDoorC30
import Derived.Test.YtknnjibmacmniaaGreatDoorC12
namespace Go.Proofs.YtknnjibmacmniaaGreatDoor
open Go.RowKit
set_option linter.unusedVariables false
attribute [local go_sem ↓] Go.wp_at_zero Go.wp_at_succ

def pickQ (s : Bool) (a b : Q) : Q := if s then a else b
theorem a_pick_q (s : Bool) (v u : Value) (a b : Q) (w : World) (ha : RepF w v a) (hb : RepF w u b) :
    Calls Tryz.prog 102 #[.bool s, v, u] w fun e w' => ∃ v', e = .returned v' ∧ RepF w' v' (pickQ s a b) ∧ Below w.heap.size w w' := a_pick_any s v u a b w ha hb

set_option maxRecDepth 100000 in
set_option maxHeartbeats 1600000 in
theorem a_uw_plus (v u : Value) (a b : Q) (w : World) (ha : RepF w v a) (hb : RepF w u b) (sa : a.Sm) (sb : b.Sm)  :
    Calls Tryz.prog 52 #[.int .i64 0, v, u] w fun e w' => ∃ v' er, e = .returned (.tuple #[v', .int .i64 er]) ∧ er = 0 ∧ (er = 0 → RepF w' v' (sumQ a b)) ∧ Shp v' ∧ Below w.heap.size w w' := by
  have ha' := ha
  have hb' := hb
  obtain ⟨sx, a1, l1, c1, a2, l2, c2, HSX, rfl, h1, h2⟩ := ha.opens
  obtain ⟨sy, a3, l3, c3, a4, l4, c4, HSY, rfl, h3, h4⟩ := hb.opens
  have hT := Three.new w (.bool sx) (.slice a1 l1 c1) (.slice a2 l2 c2) (.bool sy) (.slice a3 l3 c3) (.slice a4 l4 c4) 58 58 58
  have hW : ∀ o o' o'', Below w.heap.size w (((w.alloc o).alloc o').alloc o'') := fun o o' o'' => (((Below.refl _ _).alloc (Nat.le_refl _) o).alloc (by simp) o').alloc (by simp; omega) o''
  obtain ⟨p0, p1, p2⟩ := hT.a.cells
  obtain ⟨p3, p4, p5⟩ := hT.b.cells
  clear ha hb
  go_enter Tryz.func52, Tryz.ntmps52
  go_wp2_with fail
  refine (f_add_any _ _ a b _ (ha'.below (Nat.le_refl _) (hW _ _ _)) (hb'.below (Nat.le_refl _) (hW _ _ _)) sa.ok sb.ok).mono ?_
  rintro e w9 ⟨v9, rfl, hv9, hb9⟩
  have hT9 := hT.later hb9
  have hbw9 := Below.next (hW _ _ _) hb9 (by simp; omega)
  obtain ⟨s0, y1, i1, j1, y2, i2, j2, HS0, rfl, r8, r9⟩ := hv9.opens
  have hR := hT9.r
  clear p0 p1 p2 p3 p4 p5
  obtain ⟨f0, f1, f2, _, _⟩ := id hR
  obtain ⟨x0, x1, x2, e0, e1, e2⟩ := hR.cells
  obtain ⟨q0, q1, q2⟩ := put3_cells hR (.bool s0) (.slice y1 i1 j1) (.slice y2 i2 j2)
  have hbe := put3_below (g := w.heap.size + 1 + 1) hbw9 (by omega) (.bool s0) (.slice y1 i1 j1) (.slice y2 i2 j2)
  have rN' := put3_rep hR r8 (.bool s0) (.slice y1 i1 j1) (.slice y2 i2 j2) (by simp) (by simp)
  have rD' := put3_rep hR r9 (.bool s0) (.slice y1 i1 j1) (.slice y2 i2 j2) (by simp) (by simp)
  unfold put3 at q0 q1 q2 hbe rN' rD'
  go_wp2
  refine bodyPost_ret (v := .tuple #[.agg #[.bool s0, .slice y1 i1 j1, .slice y2 i2 j2], .int .i64 0]) (by simp [results, Tryz.results52, go_sem, q0, q1, q2]) rfl ⟨_, 0, rfl, rfl, fun _ => ⟨_, _, by rw [HS0.out], rN', rD'⟩, ⟨_, _, _, _, _, _, _, rfl⟩, hbe⟩

set_option maxRecDepth 100000 in
set_option maxHeartbeats 1600000 in
theorem a_uw_minus (v u : Value) (a b : Q) (w : World) (ha : RepF w v a) (hb : RepF w u b) (sa : a.Sm) (sb : b.Sm)  :
    Calls Tryz.prog 52 #[.int .i64 1, v, u] w fun e w' => ∃ v' er, e = .returned (.tuple #[v', .int .i64 er]) ∧ er = 0 ∧ (er = 0 → RepF w' v' (sumQ a (negQ b))) ∧ Shp v' ∧ Below w.heap.size w w' := by
  have ha' := ha
  have hb' := hb
  obtain ⟨sx, a1, l1, c1, a2, l2, c2, HSX, rfl, h1, h2⟩ := ha.opens
  obtain ⟨sy, a3, l3, c3, a4, l4, c4, HSY, rfl, h3, h4⟩ := hb.opens
  have hT := Three.new w (.bool sx) (.slice a1 l1 c1) (.slice a2 l2 c2) (.bool sy) (.slice a3 l3 c3) (.slice a4 l4 c4) 58 58 58
  have hW : ∀ o o' o'', Below w.heap.size w (((w.alloc o).alloc o').alloc o'') := fun o o' o'' => (((Below.refl _ _).alloc (Nat.le_refl _) o).alloc (by simp) o').alloc (by simp; omega) o''
  obtain ⟨p0, p1, p2⟩ := hT.a.cells
  obtain ⟨p3, p4, p5⟩ := hT.b.cells
  clear ha hb
  go_enter Tryz.func52, Tryz.ntmps52
  go_wp2_with fail
  refine (f_subtract_any _ _ a b _ (ha'.below (Nat.le_refl _) (hW _ _ _)) (hb'.below (Nat.le_refl _) (hW _ _ _)) sa.ok sb.ok).mono ?_
  rintro e w9 ⟨v9, rfl, hv9, hb9⟩
  have hT9 := hT.later hb9
  have hbw9 := Below.next (hW _ _ _) hb9 (by simp; omega)
  obtain ⟨s0, y1, i1, j1, y2, i2, j2, HS0, rfl, r8, r9⟩ := hv9.opens
  have hR := hT9.r
  clear p0 p1 p2 p3 p4 p5
  obtain ⟨f0, f1, f2, _, _⟩ := id hR
  obtain ⟨x0, x1, x2, e0, e1, e2⟩ := hR.cells
  obtain ⟨q0, q1, q2⟩ := put3_cells hR (.bool s0) (.slice y1 i1 j1) (.slice y2 i2 j2)
  have hbe := put3_below (g := w.heap.size + 1 + 1) hbw9 (by omega) (.bool s0) (.slice y1 i1 j1) (.slice y2 i2 j2)
  have rN' := put3_rep hR r8 (.bool s0) (.slice y1 i1 j1) (.slice y2 i2 j2) (by simp) (by simp)
  have rD' := put3_rep hR r9 (.bool s0) (.slice y1 i1 j1) (.slice y2 i2 j2) (by simp) (by simp)
  unfold put3 at q0 q1 q2 hbe rN' rD'
  go_wp2
  refine bodyPost_ret (v := .tuple #[.agg #[.bool s0, .slice y1 i1 j1, .slice y2 i2 j2], .int .i64 0]) (by simp [results, Tryz.results52, go_sem, q0, q1, q2]) rfl ⟨_, 0, rfl, rfl, fun _ => ⟨_, _, by rw [HS0.out], rN', rD'⟩, ⟨_, _, _, _, _, _, _, rfl⟩, hbe⟩

set_option maxRecDepth 100000 in
set_option maxHeartbeats 1600000 in
theorem a_uw_times (v u : Value) (a b : Q) (w : World) (ha : RepF w v a) (hb : RepF w u b) (sa : a.Sm) (sb : b.Sm)  :
    Calls Tryz.prog 52 #[.int .i64 2, v, u] w fun e w' => ∃ v' er, e = .returned (.tuple #[v', .int .i64 er]) ∧ er = 0 ∧ (er = 0 → RepF w' v' (mulQ a b)) ∧ Shp v' ∧ Below w.heap.size w w' := by
  have ha' := ha
  have hb' := hb
  obtain ⟨sx, a1, l1, c1, a2, l2, c2, HSX, rfl, h1, h2⟩ := ha.opens
  obtain ⟨sy, a3, l3, c3, a4, l4, c4, HSY, rfl, h3, h4⟩ := hb.opens
  have hT := Three.new w (.bool sx) (.slice a1 l1 c1) (.slice a2 l2 c2) (.bool sy) (.slice a3 l3 c3) (.slice a4 l4 c4) 58 58 58
  have hW : ∀ o o' o'', Below w.heap.size w (((w.alloc o).alloc o').alloc o'') := fun o o' o'' => (((Below.refl _ _).alloc (Nat.le_refl _) o).alloc (by simp) o').alloc (by simp; omega) o''
  obtain ⟨p0, p1, p2⟩ := hT.a.cells
  obtain ⟨p3, p4, p5⟩ := hT.b.cells
  clear ha hb
  go_enter Tryz.func52, Tryz.ntmps52
  go_wp2_with fail
  refine (f_mul_any _ _ a b _ (ha'.below (Nat.le_refl _) (hW _ _ _)) (hb'.below (Nat.le_refl _) (hW _ _ _)) sa.ok sb.ok).mono ?_
  rintro e w9 ⟨v9, rfl, hv9, hb9⟩
  have hT9 := hT.later hb9
  have hbw9 := Below.next (hW _ _ _) hb9 (by simp; omega)
  obtain ⟨s0, y1, i1, j1, y2, i2, j2, HS0, rfl, r8, r9⟩ := hv9.opens
  have hR := hT9.r
  clear p0 p1 p2 p3 p4 p5
  obtain ⟨f0, f1, f2, _, _⟩ := id hR
  obtain ⟨x0, x1, x2, e0, e1, e2⟩ := hR.cells
  obtain ⟨q0, q1, q2⟩ := put3_cells hR (.bool s0) (.slice y1 i1 j1) (.slice y2 i2 j2)
  have hbe := put3_below (g := w.heap.size + 1 + 1) hbw9 (by omega) (.bool s0) (.slice y1 i1 j1) (.slice y2 i2 j2)
  have rN' := put3_rep hR r8 (.bool s0) (.slice y1 i1 j1) (.slice y2 i2 j2) (by simp) (by simp)
  have rD' := put3_rep hR r9 (.bool s0) (.slice y1 i1 j1) (.slice y2 i2 j2) (by simp) (by simp)
  unfold put3 at q0 q1 q2 hbe rN' rD'
  go_wp2
  refine bodyPost_ret (v := .tuple #[.agg #[.bool s0, .slice y1 i1 j1, .slice y2 i2 j2], .int .i64 0]) (by simp [results, Tryz.results52, go_sem, q0, q1, q2]) rfl ⟨_, 0, rfl, rfl, fun _ => ⟨_, _, by rw [HS0.out], rN', rD'⟩, ⟨_, _, _, _, _, _, _, rfl⟩, hbe⟩

set_option maxRecDepth 100000 in
set_option maxHeartbeats 1600000 in
theorem a_uw_over0 (v u : Value) (a b : Q) (w : World) (ha : RepF w v a) (hb : RepF w u b) (sa : a.Sm) (sb : b.Sm) (hz : b.n = 0) :
    Calls Tryz.prog 52 #[.int .i64 3, v, u] w fun e w' => ∃ v' er, e = .returned (.tuple #[v', .int .i64 er]) ∧ er = 9 ∧ (er = 0 → RepF w' v' (a)) ∧ Shp v' ∧ Below w.heap.size w w' := by
  have ha' := ha
  have hb' := hb
  obtain ⟨sx, a1, l1, c1, a2, l2, c2, HSX, rfl, h1, h2⟩ := ha.opens
  obtain ⟨sy, a3, l3, c3, a4, l4, c4, HSY, rfl, h3, h4⟩ := hb.opens
  have hT := Three.new w (.bool sx) (.slice a1 l1 c1) (.slice a2 l2 c2) (.bool sy) (.slice a3 l3 c3) (.slice a4 l4 c4) 58 58 58
  have hW : ∀ o o' o'', Below w.heap.size w (((w.alloc o).alloc o').alloc o'') := fun o o' o'' => (((Below.refl _ _).alloc (Nat.le_refl _) o).alloc (by simp) o').alloc (by simp; omega) o''
  obtain ⟨p0, p1, p2⟩ := hT.a.cells
  obtain ⟨p3, p4, p5⟩ := hT.b.cells
  clear ha hb
  go_enter Tryz.func52, Tryz.ntmps52
  go_wp2_with fail
  refine (a_divide_zero _ _ a b _ (ha'.below (Nat.le_refl _) (hW _ _ _)) (hb'.below (Nat.le_refl _) (hW _ _ _)) hz).mono ?_
  rintro e w9 ⟨v9, rfl, hsh, hb9⟩
  obtain ⟨s5, y1, i1, j1, y2, i2, j2, rfl⟩ := hsh
  have hT9 := hT.later hb9
  have hbw9 := Below.next (hW _ _ _) hb9 (by simp; omega)
  have hR := hT9.r
  clear p0 p1 p2 p3 p4 p5
  obtain ⟨f0, f1, f2, _, _⟩ := id hR
  obtain ⟨x0, x1, x2, e0, e1, e2⟩ := hR.cells
  obtain ⟨q0, q1, q2⟩ := put3_cells hR (.bool s5) (.slice y1 i1 j1) (.slice y2 i2 j2)
  have hbe := put3_below (g := w.heap.size + 1 + 1) hbw9 (by omega) (.bool s5) (.slice y1 i1 j1) (.slice y2 i2 j2)
  unfold put3 at q0 q1 q2 hbe
  go_wp2
  refine bodyPost_ret (v := .tuple #[.agg #[.bool s5, .slice y1 i1 j1, .slice y2 i2 j2], .int .i64 9]) (by simp [results, Tryz.results52, go_sem, q0, q1, q2]) rfl ⟨_, 9, rfl, rfl, fun h => by simp at h, ⟨_, _, _, _, _, _, _, rfl⟩, hbe⟩

set_option maxRecDepth 100000 in
set_option maxHeartbeats 1600000 in
theorem a_uw_over (v u : Value) (a b : Q) (w : World) (ha : RepF w v a) (hb : RepF w u b) (sa : a.Sm) (sb : b.Sm) (hz : ¬ b.n = 0) :
    Calls Tryz.prog 52 #[.int .i64 3, v, u] w fun e w' => ∃ v' er, e = .returned (.tuple #[v', .int .i64 er]) ∧ er = 0 ∧ (er = 0 → RepF w' v' (mulQ a (invQ b))) ∧ Shp v' ∧ Below w.heap.size w w' := by
  have ha' := ha
  have hb' := hb
  obtain ⟨sx, a1, l1, c1, a2, l2, c2, HSX, rfl, h1, h2⟩ := ha.opens
  obtain ⟨sy, a3, l3, c3, a4, l4, c4, HSY, rfl, h3, h4⟩ := hb.opens
  have hT := Three.new w (.bool sx) (.slice a1 l1 c1) (.slice a2 l2 c2) (.bool sy) (.slice a3 l3 c3) (.slice a4 l4 c4) 58 58 58
  have hW : ∀ o o' o'', Below w.heap.size w (((w.alloc o).alloc o').alloc o'') := fun o o' o'' => (((Below.refl _ _).alloc (Nat.le_refl _) o).alloc (by simp) o').alloc (by simp; omega) o''
  obtain ⟨p0, p1, p2⟩ := hT.a.cells
  obtain ⟨p3, p4, p5⟩ := hT.b.cells
  have onb : (invQ b).Ok := ⟨Int.le_of_lt sb.ok.d0, sb.ok.d1, by have := sb.n0; show 0 < b.n; omega, sb.ok.n1⟩
  clear ha hb
  go_enter Tryz.func52, Tryz.ntmps52
  go_wp2_with fail
  refine (a_divide_run _ _ a b _ (ha'.below (Nat.le_refl _) (hW _ _ _)) (hb'.below (Nat.le_refl _) (hW _ _ _)) sa.ok onb hz).mono ?_
  rintro e w9 ⟨v9, rfl, hv9, hsh, hb9⟩
  clear hsh
  have hT9 := hT.later hb9
  have hbw9 := Below.next (hW _ _ _) hb9 (by simp; omega)
  obtain ⟨s0, y1, i1, j1, y2, i2, j2, HS0, rfl, r8, r9⟩ := hv9.opens
  have hR := hT9.r
  clear p0 p1 p2 p3 p4 p5
  obtain ⟨f0, f1, f2, _, _⟩ := id hR
  obtain ⟨x0, x1, x2, e0, e1, e2⟩ := hR.cells
  obtain ⟨q0, q1, q2⟩ := put3_cells hR (.bool s0) (.slice y1 i1 j1) (.slice y2 i2 j2)
  have hbe := put3_below (g := w.heap.size + 1 + 1) hbw9 (by omega) (.bool s0) (.slice y1 i1 j1) (.slice y2 i2 j2)
  have rN' := put3_rep hR r8 (.bool s0) (.slice y1 i1 j1) (.slice y2 i2 j2) (by simp) (by simp)
  have rD' := put3_rep hR r9 (.bool s0) (.slice y1 i1 j1) (.slice y2 i2 j2) (by simp) (by simp)
  unfold put3 at q0 q1 q2 hbe rN' rD'
  go_wp2
  refine bodyPost_ret (v := .tuple #[.agg #[.bool s0, .slice y1 i1 j1, .slice y2 i2 j2], .int .i64 0]) (by simp [results, Tryz.results52, go_sem, q0, q1, q2]) rfl ⟨_, 0, rfl, rfl, fun _ => ⟨_, _, by rw [HS0.out], rN', rD'⟩, ⟨_, _, _, _, _, _, _, rfl⟩, hbe⟩

set_option maxRecDepth 100000 in
set_option maxHeartbeats 1600000 in
theorem a_uw_rest1 (v u : Value) (a b : Q) (w : World) (ha : RepF w v a) (hb : RepF w u b) (sa : a.Sm) (sb : b.Sm) (hd : ¬ a.d = 1) :
    Calls Tryz.prog 52 #[.int .i64 4, v, u] w fun e w' => ∃ v' er, e = .returned (.tuple #[v', .int .i64 er]) ∧ er = 8 ∧ (er = 0 → RepF w' v' (a)) ∧ Shp v' ∧ Below w.heap.size w w' := by
  have ha' := ha
  have hb' := hb
  obtain ⟨sx, a1, l1, c1, a2, l2, c2, HSX, rfl, h1, h2⟩ := ha.opens
  obtain ⟨sy, a3, l3, c3, a4, l4, c4, HSY, rfl, h3, h4⟩ := hb.opens
  have hT := Three.new w (.bool sx) (.slice a1 l1 c1) (.slice a2 l2 c2) (.bool sy) (.slice a3 l3 c3) (.slice a4 l4 c4) 58 58 58
  have hW : ∀ o o' o'', Below w.heap.size w (((w.alloc o).alloc o').alloc o'') := fun o o' o'' => (((Below.refl _ _).alloc (Nat.le_refl _) o).alloc (by simp) o').alloc (by simp; omega) o''
  obtain ⟨p0, p1, p2⟩ := hT.a.cells
  obtain ⟨p3, p4, p5⟩ := hT.b.cells
  clear ha hb
  go_enter Tryz.func52, Tryz.ntmps52
  go_wp2_with fail
  refine (a_left_arg1 _ _ a b _ (ha'.below (Nat.le_refl _) (hW _ _ _)) (hb'.below (Nat.le_refl _) (hW _ _ _)) hd).mono ?_
  rintro e w9 ⟨v9, rfl, hsh, hb9⟩
  obtain ⟨s5, y1, i1, j1, y2, i2, j2, rfl⟩ := hsh
  have hT9 := hT.later hb9
  have hbw9 := Below.next (hW _ _ _) hb9 (by simp; omega)
  have hR := hT9.r
  clear p0 p1 p2 p3 p4 p5
  obtain ⟨f0, f1, f2, _, _⟩ := id hR
  obtain ⟨x0, x1, x2, e0, e1, e2⟩ := hR.cells
  obtain ⟨q0, q1, q2⟩ := put3_cells hR (.bool s5) (.slice y1 i1 j1) (.slice y2 i2 j2)
  have hbe := put3_below (g := w.heap.size + 1 + 1) hbw9 (by omega) (.bool s5) (.slice y1 i1 j1) (.slice y2 i2 j2)
  unfold put3 at q0 q1 q2 hbe
  go_wp2
  refine bodyPost_ret (v := .tuple #[.agg #[.bool s5, .slice y1 i1 j1, .slice y2 i2 j2], .int .i64 8]) (by simp [results, Tryz.results52, go_sem, q0, q1, q2]) rfl ⟨_, 8, rfl, rfl, fun h => by simp at h, ⟨_, _, _, _, _, _, _, rfl⟩, hbe⟩

set_option maxRecDepth 100000 in
set_option maxHeartbeats 1600000 in
theorem a_uw_rest2 (v u : Value) (a b : Q) (w : World) (ha : RepF w v a) (hb : RepF w u b) (sa : a.Sm) (sb : b.Sm) (hd : a.d = 1) (hd2 : ¬ b.d = 1) :
    Calls Tryz.prog 52 #[.int .i64 4, v, u] w fun e w' => ∃ v' er, e = .returned (.tuple #[v', .int .i64 er]) ∧ er = 8 ∧ (er = 0 → RepF w' v' (a)) ∧ Shp v' ∧ Below w.heap.size w w' := by
  have ha' := ha
  have hb' := hb
  obtain ⟨sx, a1, l1, c1, a2, l2, c2, HSX, rfl, h1, h2⟩ := ha.opens
  obtain ⟨sy, a3, l3, c3, a4, l4, c4, HSY, rfl, h3, h4⟩ := hb.opens
  have hT := Three.new w (.bool sx) (.slice a1 l1 c1) (.slice a2 l2 c2) (.bool sy) (.slice a3 l3 c3) (.slice a4 l4 c4) 58 58 58
  have hW : ∀ o o' o'', Below w.heap.size w (((w.alloc o).alloc o').alloc o'') := fun o o' o'' => (((Below.refl _ _).alloc (Nat.le_refl _) o).alloc (by simp) o').alloc (by simp; omega) o''
  obtain ⟨p0, p1, p2⟩ := hT.a.cells
  obtain ⟨p3, p4, p5⟩ := hT.b.cells
  clear ha hb
  go_enter Tryz.func52, Tryz.ntmps52
  go_wp2_with fail
  refine (a_left_arg2 _ _ a b _ (ha'.below (Nat.le_refl _) (hW _ _ _)) (hb'.below (Nat.le_refl _) (hW _ _ _)) hd hd2).mono ?_
  rintro e w9 ⟨v9, rfl, hsh, hb9⟩
  obtain ⟨s5, y1, i1, j1, y2, i2, j2, rfl⟩ := hsh
  have hT9 := hT.later hb9
  have hbw9 := Below.next (hW _ _ _) hb9 (by simp; omega)
  have hR := hT9.r
  clear p0 p1 p2 p3 p4 p5
  obtain ⟨f0, f1, f2, _, _⟩ := id hR
  obtain ⟨x0, x1, x2, e0, e1, e2⟩ := hR.cells
  obtain ⟨q0, q1, q2⟩ := put3_cells hR (.bool s5) (.slice y1 i1 j1) (.slice y2 i2 j2)
  have hbe := put3_below (g := w.heap.size + 1 + 1) hbw9 (by omega) (.bool s5) (.slice y1 i1 j1) (.slice y2 i2 j2)
  unfold put3 at q0 q1 q2 hbe
  go_wp2
  refine bodyPost_ret (v := .tuple #[.agg #[.bool s5, .slice y1 i1 j1, .slice y2 i2 j2], .int .i64 8]) (by simp [results, Tryz.results52, go_sem, q0, q1, q2]) rfl ⟨_, 8, rfl, rfl, fun h => by simp at h, ⟨_, _, _, _, _, _, _, rfl⟩, hbe⟩

set_option maxRecDepth 100000 in
set_option maxHeartbeats 1600000 in
theorem a_uw_rest0 (v u : Value) (a b : Q) (w : World) (ha : RepF w v a) (hb : RepF w u b) (sa : a.Sm) (sb : b.Sm) (hd : a.d = 1) (hd2 : b.d = 1) (hz : a.n = 0) :
    Calls Tryz.prog 52 #[.int .i64 4, v, u] w fun e w' => ∃ v' er, e = .returned (.tuple #[v', .int .i64 er]) ∧ er = 0 ∧ (er = 0 → RepF w' v' (b)) ∧ Shp v' ∧ Below w.heap.size w w' := by
  have ha' := ha
  have hb' := hb
  obtain ⟨sx, a1, l1, c1, a2, l2, c2, HSX, rfl, h1, h2⟩ := ha.opens
  obtain ⟨sy, a3, l3, c3, a4, l4, c4, HSY, rfl, h3, h4⟩ := hb.opens
  have hT := Three.new w (.bool sx) (.slice a1 l1 c1) (.slice a2 l2 c2) (.bool sy) (.slice a3 l3 c3) (.slice a4 l4 c4) 58 58 58
  have hW : ∀ o o' o'', Below w.heap.size w (((w.alloc o).alloc o').alloc o'') := fun o o' o'' => (((Below.refl _ _).alloc (Nat.le_refl _) o).alloc (by simp) o').alloc (by simp; omega) o''
  obtain ⟨p0, p1, p2⟩ := hT.a.cells
  obtain ⟨p3, p4, p5⟩ := hT.b.cells
  clear ha hb
  go_enter Tryz.func52, Tryz.ntmps52
  go_wp2_with fail
  refine (a_left_zero _ _ a b _ (ha'.below (Nat.le_refl _) (hW _ _ _)) (hb'.below (Nat.le_refl _) (hW _ _ _)) hd hd2 hz).mono ?_
  rintro e w9 ⟨v9, rfl, hv9, hsh, hb9⟩
  clear hsh
  have hT9 := hT.later hb9
  have hbw9 := Below.next (hW _ _ _) hb9 (by simp; omega)
  obtain ⟨s0, y1, i1, j1, y2, i2, j2, HS0, rfl, r8, r9⟩ := hv9.opens
  have hR := hT9.r
  clear p0 p1 p2 p3 p4 p5
  obtain ⟨f0, f1, f2, _, _⟩ := id hR
  obtain ⟨x0, x1, x2, e0, e1, e2⟩ := hR.cells
  obtain ⟨q0, q1, q2⟩ := put3_cells hR (.bool s0) (.slice y1 i1 j1) (.slice y2 i2 j2)
  have hbe := put3_below (g := w.heap.size + 1 + 1) hbw9 (by omega) (.bool s0) (.slice y1 i1 j1) (.slice y2 i2 j2)
  have rN' := put3_rep hR r8 (.bool s0) (.slice y1 i1 j1) (.slice y2 i2 j2) (by simp) (by simp)
  have rD' := put3_rep hR r9 (.bool s0) (.slice y1 i1 j1) (.slice y2 i2 j2) (by simp) (by simp)
  unfold put3 at q0 q1 q2 hbe rN' rD'
  go_wp2
  refine bodyPost_ret (v := .tuple #[.agg #[.bool s0, .slice y1 i1 j1, .slice y2 i2 j2], .int .i64 0]) (by simp [results, Tryz.results52, go_sem, q0, q1, q2]) rfl ⟨_, 0, rfl, rfl, fun _ => ⟨_, _, by rw [HS0.out], rN', rD'⟩, ⟨_, _, _, _, _, _, _, rfl⟩, hbe⟩

set_option maxRecDepth 100000 in
set_option maxHeartbeats 1600000 in
theorem a_uw_rest (v u : Value) (a b : Q) (w : World) (ha : RepF w v a) (hb : RepF w u b) (sa : a.Sm) (sb : b.Sm) (hd : a.d = 1) (hd2 : b.d = 1) (hz : 0 < a.n) :
    Calls Tryz.prog 52 #[.int .i64 4, v, u] w fun e w' => ∃ v' er, e = .returned (.tuple #[v', .int .i64 er]) ∧ er = 0 ∧ (er = 0 → RepF w' v' (restQ a b)) ∧ Shp v' ∧ Below w.heap.size w w' := by
  have ha' := ha
  have hb' := hb
  obtain ⟨sx, a1, l1, c1, a2, l2, c2, HSX, rfl, h1, h2⟩ := ha.opens
  obtain ⟨sy, a3, l3, c3, a4, l4, c4, HSY, rfl, h3, h4⟩ := hb.opens
  have hT := Three.new w (.bool sx) (.slice a1 l1 c1) (.slice a2 l2 c2) (.bool sy) (.slice a3 l3 c3) (.slice a4 l4 c4) 58 58 58
  have hW : ∀ o o' o'', Below w.heap.size w (((w.alloc o).alloc o').alloc o'') := fun o o' o'' => (((Below.refl _ _).alloc (Nat.le_refl _) o).alloc (by simp) o').alloc (by simp; omega) o''
  obtain ⟨p0, p1, p2⟩ := hT.a.cells
  obtain ⟨p3, p4, p5⟩ := hT.b.cells
  clear ha hb
  go_enter Tryz.func52, Tryz.ntmps52
  go_wp2_with fail
  refine (a_left_run _ _ a b _ (ha'.below (Nat.le_refl _) (hW _ _ _)) (hb'.below (Nat.le_refl _) (hW _ _ _)) sa.ok sb.ok hd hd2 hz).mono ?_
  rintro e w9 ⟨v9, rfl, hv9, hsh, hb9⟩
  clear hsh
  have hT9 := hT.later hb9
  have hbw9 := Below.next (hW _ _ _) hb9 (by simp; omega)
  obtain ⟨s0, y1, i1, j1, y2, i2, j2, HS0, rfl, r8, r9⟩ := hv9.opens
  have hR := hT9.r
  clear p0 p1 p2 p3 p4 p5
  obtain ⟨f0, f1, f2, _, _⟩ := id hR
  obtain ⟨x0, x1, x2, e0, e1, e2⟩ := hR.cells
  obtain ⟨q0, q1, q2⟩ := put3_cells hR (.bool s0) (.slice y1 i1 j1) (.slice y2 i2 j2)
  have hbe := put3_below (g := w.heap.size + 1 + 1) hbw9 (by omega) (.bool s0) (.slice y1 i1 j1) (.slice y2 i2 j2)
  have rN' := put3_rep hR r8 (.bool s0) (.slice y1 i1 j1) (.slice y2 i2 j2) (by simp) (by simp)
  have rD' := put3_rep hR r9 (.bool s0) (.slice y1 i1 j1) (.slice y2 i2 j2) (by simp) (by simp)
  unfold put3 at q0 q1 q2 hbe rN' rD'
  go_wp2
  refine bodyPost_ret (v := .tuple #[.agg #[.bool s0, .slice y1 i1 j1, .slice y2 i2 j2], .int .i64 0]) (by simp [results, Tryz.results52, go_sem, q0, q1, q2]) rfl ⟨_, 0, rfl, rfl, fun _ => ⟨_, _, by rw [HS0.out], rN', rD'⟩, ⟨_, _, _, _, _, _, _, rfl⟩, hbe⟩

set_option maxRecDepth 100000 in
set_option maxHeartbeats 1600000 in
theorem a_uw_powf (v u : Value) (a b : Q) (w : World) (ha : RepF w v a) (hb : RepF w u b) (sa : a.Sm) (sb : b.Sm) (hd : ¬ b.d = 1) :
    Calls Tryz.prog 52 #[.int .i64 5, v, u] w fun e w' => ∃ v' er, e = .returned (.tuple #[v', .int .i64 er]) ∧ er = 8 ∧ (er = 0 → RepF w' v' (a)) ∧ Shp v' ∧ Below w.heap.size w w' := by
  have ha' := ha
  have hb' := hb
  obtain ⟨sx, a1, l1, c1, a2, l2, c2, HSX, rfl, h1, h2⟩ := ha.opens
  obtain ⟨sy, a3, l3, c3, a4, l4, c4, HSY, rfl, h3, h4⟩ := hb.opens
  have hT := Three.new w (.bool sx) (.slice a1 l1 c1) (.slice a2 l2 c2) (.bool sy) (.slice a3 l3 c3) (.slice a4 l4 c4) 58 58 58
  have hW : ∀ o o' o'', Below w.heap.size w (((w.alloc o).alloc o').alloc o'') := fun o o' o'' => (((Below.refl _ _).alloc (Nat.le_refl _) o).alloc (by simp) o').alloc (by simp; omega) o''
  obtain ⟨p0, p1, p2⟩ := hT.a.cells
  obtain ⟨p3, p4, p5⟩ := hT.b.cells
  clear ha hb
  go_enter Tryz.func52, Tryz.ntmps52
  go_wp2_with fail
  refine (a_raise_frac _ _ a b _ (ha'.below (Nat.le_refl _) (hW _ _ _)) (hb'.below (Nat.le_refl _) (hW _ _ _)) hd).mono ?_
  rintro e w9 ⟨v9, rfl, hsh, hb9⟩
  obtain ⟨s5, y1, i1, j1, y2, i2, j2, rfl⟩ := hsh
  have hT9 := hT.later hb9
  have hbw9 := Below.next (hW _ _ _) hb9 (by simp; omega)
  have hR := hT9.r
  clear p0 p1 p2 p3 p4 p5
  obtain ⟨f0, f1, f2, _, _⟩ := id hR
  obtain ⟨x0, x1, x2, e0, e1, e2⟩ := hR.cells
  obtain ⟨q0, q1, q2⟩ := put3_cells hR (.bool s5) (.slice y1 i1 j1) (.slice y2 i2 j2)
  have hbe := put3_below (g := w.heap.size + 1 + 1) hbw9 (by omega) (.bool s5) (.slice y1 i1 j1) (.slice y2 i2 j2)
  unfold put3 at q0 q1 q2 hbe
  go_wp2
  refine bodyPost_ret (v := .tuple #[.agg #[.bool s5, .slice y1 i1 j1, .slice y2 i2 j2], .int .i64 8]) (by simp [results, Tryz.results52, go_sem, q0, q1, q2]) rfl ⟨_, 8, rfl, rfl, fun h => by simp at h, ⟨_, _, _, _, _, _, _, rfl⟩, hbe⟩

set_option maxRecDepth 100000 in
set_option maxHeartbeats 1600000 in
theorem a_uw_powb (v u : Value) (a b : Q) (w : World) (ha : RepF w v a) (hb : RepF w u b) (sa : a.Sm) (sb : b.Sm) (hd : b.d = 1) (hn : 99 < b.n) :
    Calls Tryz.prog 52 #[.int .i64 5, v, u] w fun e w' => ∃ v' er, e = .returned (.tuple #[v', .int .i64 er]) ∧ er = 8 ∧ (er = 0 → RepF w' v' (a)) ∧ Shp v' ∧ Below w.heap.size w w' := by
  have ha' := ha
  have hb' := hb
  obtain ⟨sx, a1, l1, c1, a2, l2, c2, HSX, rfl, h1, h2⟩ := ha.opens
  obtain ⟨sy, a3, l3, c3, a4, l4, c4, HSY, rfl, h3, h4⟩ := hb.opens
  have hT := Three.new w (.bool sx) (.slice a1 l1 c1) (.slice a2 l2 c2) (.bool sy) (.slice a3 l3 c3) (.slice a4 l4 c4) 58 58 58
  have hW : ∀ o o' o'', Below w.heap.size w (((w.alloc o).alloc o').alloc o'') := fun o o' o'' => (((Below.refl _ _).alloc (Nat.le_refl _) o).alloc (by simp) o').alloc (by simp; omega) o''
  obtain ⟨p0, p1, p2⟩ := hT.a.cells
  obtain ⟨p3, p4, p5⟩ := hT.b.cells
  clear ha hb
  go_enter Tryz.func52, Tryz.ntmps52
  go_wp2_with fail
  refine (a_raise_big _ _ a b _ (ha'.below (Nat.le_refl _) (hW _ _ _)) (hb'.below (Nat.le_refl _) (hW _ _ _)) hd hn (lt_lim_of_cp sb.ok.n1)).mono ?_
  rintro e w9 ⟨v9, rfl, hsh, hb9⟩
  obtain ⟨s5, y1, i1, j1, y2, i2, j2, rfl⟩ := hsh
  have hT9 := hT.later hb9
  have hbw9 := Below.next (hW _ _ _) hb9 (by simp; omega)
  have hR := hT9.r
  clear p0 p1 p2 p3 p4 p5
  obtain ⟨f0, f1, f2, _, _⟩ := id hR
  obtain ⟨x0, x1, x2, e0, e1, e2⟩ := hR.cells
  obtain ⟨q0, q1, q2⟩ := put3_cells hR (.bool s5) (.slice y1 i1 j1) (.slice y2 i2 j2)
  have hbe := put3_below (g := w.heap.size + 1 + 1) hbw9 (by omega) (.bool s5) (.slice y1 i1 j1) (.slice y2 i2 j2)
  unfold put3 at q0 q1 q2 hbe
  go_wp2
  refine bodyPost_ret (v := .tuple #[.agg #[.bool s5, .slice y1 i1 j1, .slice y2 i2 j2], .int .i64 8]) (by simp [results, Tryz.results52, go_sem, q0, q1, q2]) rfl ⟨_, 8, rfl, rfl, fun h => by simp at h, ⟨_, _, _, _, _, _, _, rfl⟩, hbe⟩

set_option maxRecDepth 100000 in
set_option maxHeartbeats 1600000 in
theorem a_uw_powz (v u : Value) (a b : Q) (w : World) (ha : RepF w v a) (hb : RepF w u b) (sa : a.Sm) (sb : b.Sm) (hd : b.d = 1) (hn : b.n ≤ 99) (h0 : 0 < b.n) (hneg : b.neg = true) (hz : a.n = 0) :
    Calls Tryz.prog 52 #[.int .i64 5, v, u] w fun e w' => ∃ v' er, e = .returned (.tuple #[v', .int .i64 er]) ∧ er = 9 ∧ (er = 0 → RepF w' v' (a)) ∧ Shp v' ∧ Below w.heap.size w w' := by
  have ha' := ha
  have hb' := hb
  obtain ⟨sx, a1, l1, c1, a2, l2, c2, HSX, rfl, h1, h2⟩ := ha.opens
  obtain ⟨sy, a3, l3, c3, a4, l4, c4, HSY, rfl, h3, h4⟩ := hb.opens
  have hT := Three.new w (.bool sx) (.slice a1 l1 c1) (.slice a2 l2 c2) (.bool sy) (.slice a3 l3 c3) (.slice a4 l4 c4) 58 58 58
  have hW : ∀ o o' o'', Below w.heap.size w (((w.alloc o).alloc o').alloc o'') := fun o o' o'' => (((Below.refl _ _).alloc (Nat.le_refl _) o).alloc (by simp) o').alloc (by simp; omega) o''
  obtain ⟨p0, p1, p2⟩ := hT.a.cells
  obtain ⟨p3, p4, p5⟩ := hT.b.cells
  clear ha hb
  go_enter Tryz.func52, Tryz.ntmps52
  go_wp2_with fail
  refine (a_raise_zero _ _ a b _ (ha'.below (Nat.le_refl _) (hW _ _ _)) (hb'.below (Nat.le_refl _) (hW _ _ _)) hd hn h0 hneg hz).mono ?_
  rintro e w9 ⟨v9, rfl, hsh, hb9⟩
  obtain ⟨s5, y1, i1, j1, y2, i2, j2, rfl⟩ := hsh
  have hT9 := hT.later hb9
  have hbw9 := Below.next (hW _ _ _) hb9 (by simp; omega)
  have hR := hT9.r
  clear p0 p1 p2 p3 p4 p5
  obtain ⟨f0, f1, f2, _, _⟩ := id hR
  obtain ⟨x0, x1, x2, e0, e1, e2⟩ := hR.cells
  obtain ⟨q0, q1, q2⟩ := put3_cells hR (.bool s5) (.slice y1 i1 j1) (.slice y2 i2 j2)
  have hbe := put3_below (g := w.heap.size + 1 + 1) hbw9 (by omega) (.bool s5) (.slice y1 i1 j1) (.slice y2 i2 j2)
  unfold put3 at q0 q1 q2 hbe
  go_wp2
  refine bodyPost_ret (v := .tuple #[.agg #[.bool s5, .slice y1 i1 j1, .slice y2 i2 j2], .int .i64 9]) (by simp [results, Tryz.results52, go_sem, q0, q1, q2]) rfl ⟨_, 9, rfl, rfl, fun h => by simp at h, ⟨_, _, _, _, _, _, _, rfl⟩, hbe⟩

set_option maxRecDepth 100000 in
set_option maxHeartbeats 1600000 in
theorem a_uw_pow (v u : Value) (a b : Q) (w : World) (ha : RepF w v a) (hb : RepF w u b) (sa : a.Sm) (sb : b.Sm) (n : Nat) (hd : b.d = 1) (hn : b.n = n) (h99 : n ≤ 99) (hneg : b.neg = false) (hG : Gl w) :
    Calls Tryz.prog 52 #[.int .i64 5, v, u] w fun e w' => ∃ v' er, e = .returned (.tuple #[v', .int .i64 er]) ∧ er = powNE a n ∧ (er = 0 → RepF w' v' (powN a n)) ∧ Shp v' ∧ Below w.heap.size w w' := by
  have ha' := ha
  have hb' := hb
  obtain ⟨sx, a1, l1, c1, a2, l2, c2, HSX, rfl, h1, h2⟩ := ha.opens
  obtain ⟨sy, a3, l3, c3, a4, l4, c4, HSY, rfl, h3, h4⟩ := hb.opens
  have hT := Three.new w (.bool sx) (.slice a1 l1 c1) (.slice a2 l2 c2) (.bool sy) (.slice a3 l3 c3) (.slice a4 l4 c4) 58 58 58
  have hW : ∀ o o' o'', Below w.heap.size w (((w.alloc o).alloc o').alloc o'') := fun o o' o'' => (((Below.refl _ _).alloc (Nat.le_refl _) o).alloc (by simp) o').alloc (by simp; omega) o''
  obtain ⟨p0, p1, p2⟩ := hT.a.cells
  obtain ⟨p3, p4, p5⟩ := hT.b.cells
  have hGw : ∀ o o' o'', Gl (((w.alloc o).alloc o').alloc o'') := fun o o' o'' => hG.later (hW o o' o'')
  clear ha hb
  go_enter Tryz.func52, Tryz.ntmps52
  go_wp2_with fail
  refine (a_raise_pos _ _ a b _ (ha'.below (Nat.le_refl _) (hW _ _ _)) (hb'.below (Nat.le_refl _) (hW _ _ _)) sa n hd hn h99 hneg (hGw _ _ _)).mono ?_
  rintro e w9 ⟨v9, er, rfl, her, hv9, hsh, hb9⟩
  obtain ⟨s5, y1, i1, j1, y2, i2, j2, rfl⟩ := hsh
  have HER : Hid (er = powNE a n) := her
  have HV9 : Hid (er = 0 → RepF w9 (.agg #[.bool s5, .slice y1 i1 j1, .slice y2 i2 j2]) (powN a n)) := hv9
  clear her hv9
  have hT9 := hT.later hb9
  have hbw9 := Below.next (hW _ _ _) hb9 (by simp; omega)
  have hR := hT9.r
  have hput : er = 0 → RepF (put3 w9 (w.heap.size + 1 + 1) (.bool s5) (.slice y1 i1 j1) (.slice y2 i2 j2)) (.agg #[.bool s5, .slice y1 i1 j1, .slice y2 i2 j2]) (powN a n) := fun h => RepF.put3 (HV9.out h) hR _ _ _ (by simp) (by simp)
  have HPUT : Hid (er = 0 → RepF (put3 w9 (w.heap.size + 1 + 1) (.bool s5) (.slice y1 i1 j1) (.slice y2 i2 j2)) (.agg #[.bool s5, .slice y1 i1 j1, .slice y2 i2 j2]) (powN a n)) := hput
  clear hput HV9
  clear p0 p1 p2 p3 p4 p5
  obtain ⟨f0, f1, f2, _, _⟩ := id hR
  obtain ⟨x0, x1, x2, e0, e1, e2⟩ := hR.cells
  obtain ⟨q0, q1, q2⟩ := put3_cells hR (.bool s5) (.slice y1 i1 j1) (.slice y2 i2 j2)
  have hbe := put3_below (g := w.heap.size + 1 + 1) hbw9 (by omega) (.bool s5) (.slice y1 i1 j1) (.slice y2 i2 j2)
  unfold put3 at q0 q1 q2 hbe
  go_wp2
  refine bodyPost_ret (v := .tuple #[.agg #[.bool s5, .slice y1 i1 j1, .slice y2 i2 j2], .int .i64 er]) (by simp [results, Tryz.results52, go_sem, q0, q1, q2]) rfl ⟨_, er, rfl, HER.out, HPUT.out, ⟨_, _, _, _, _, _, _, rfl⟩, hbe⟩

set_option maxRecDepth 100000 in
set_option maxHeartbeats 1600000 in
theorem a_uw_pown (v u : Value) (a b : Q) (w : World) (ha : RepF w v a) (hb : RepF w u b) (sa : a.Sm) (sb : b.Sm) (n : Nat) (hd : b.d = 1) (hn : b.n = n) (hn0 : 0 < n) (h99 : n ≤ 99) (hneg : b.neg = true) (hz : ¬ a.n = 0) (hG : Gl w) :
    Calls Tryz.prog 52 #[.int .i64 5, v, u] w fun e w' => ∃ v' er, e = .returned (.tuple #[v', .int .i64 er]) ∧ er = powNE (invQ a) n ∧ (er = 0 → RepF w' v' (powN (invQ a) n)) ∧ Shp v' ∧ Below w.heap.size w w' := by
  have ha' := ha
  have hb' := hb
  obtain ⟨sx, a1, l1, c1, a2, l2, c2, HSX, rfl, h1, h2⟩ := ha.opens
  obtain ⟨sy, a3, l3, c3, a4, l4, c4, HSY, rfl, h3, h4⟩ := hb.opens
  have hT := Three.new w (.bool sx) (.slice a1 l1 c1) (.slice a2 l2 c2) (.bool sy) (.slice a3 l3 c3) (.slice a4 l4 c4) 58 58 58
  have hW : ∀ o o' o'', Below w.heap.size w (((w.alloc o).alloc o').alloc o'') := fun o o' o'' => (((Below.refl _ _).alloc (Nat.le_refl _) o).alloc (by simp) o').alloc (by simp; omega) o''
  obtain ⟨p0, p1, p2⟩ := hT.a.cells
  obtain ⟨p3, p4, p5⟩ := hT.b.cells
  have hGw : ∀ o o' o'', Gl (((w.alloc o).alloc o').alloc o'') := fun o o' o'' => hG.later (hW o o' o'')
  have sI : (invQ a).Sm := ⟨Int.le_of_lt sa.d0, sa.d1, by have := sa.n0; show 0 < a.n; omega, sa.n1⟩
  clear ha hb
  go_enter Tryz.func52, Tryz.ntmps52
  go_wp2_with fail
  refine (a_raise_neg _ _ a b _ (ha'.below (Nat.le_refl _) (hW _ _ _)) (hb'.below (Nat.le_refl _) (hW _ _ _)) sI n hd hn hn0 h99 hneg hz (hGw _ _ _)).mono ?_
  rintro e w9 ⟨v9, er, rfl, her, hv9, hsh, hb9⟩
  obtain ⟨s5, y1, i1, j1, y2, i2, j2, rfl⟩ := hsh
  have HER : Hid (er = powNE (invQ a) n) := her
  have HV9 : Hid (er = 0 → RepF w9 (.agg #[.bool s5, .slice y1 i1 j1, .slice y2 i2 j2]) (powN (invQ a) n)) := hv9
  clear her hv9
  have hT9 := hT.later hb9
  have hbw9 := Below.next (hW _ _ _) hb9 (by simp; omega)
  have hR := hT9.r
  have hput : er = 0 → RepF (put3 w9 (w.heap.size + 1 + 1) (.bool s5) (.slice y1 i1 j1) (.slice y2 i2 j2)) (.agg #[.bool s5, .slice y1 i1 j1, .slice y2 i2 j2]) (powN (invQ a) n) := fun h => RepF.put3 (HV9.out h) hR _ _ _ (by simp) (by simp)
  have HPUT : Hid (er = 0 → RepF (put3 w9 (w.heap.size + 1 + 1) (.bool s5) (.slice y1 i1 j1) (.slice y2 i2 j2)) (.agg #[.bool s5, .slice y1 i1 j1, .slice y2 i2 j2]) (powN (invQ a) n)) := hput
  clear hput HV9
  clear p0 p1 p2 p3 p4 p5
  obtain ⟨f0, f1, f2, _, _⟩ := id hR
  obtain ⟨x0, x1, x2, e0, e1, e2⟩ := hR.cells
  obtain ⟨q0, q1, q2⟩ := put3_cells hR (.bool s5) (.slice y1 i1 j1) (.slice y2 i2 j2)
  have hbe := put3_below (g := w.heap.size + 1 + 1) hbw9 (by omega) (.bool s5) (.slice y1 i1 j1) (.slice y2 i2 j2)
  unfold put3 at q0 q1 q2 hbe
  go_wp2
  refine bodyPost_ret (v := .tuple #[.agg #[.bool s5, .slice y1 i1 j1, .slice y2 i2 j2], .int .i64 er]) (by simp [results, Tryz.results52, go_sem, q0, q1, q2]) rfl ⟨_, er, rfl, HER.out, HPUT.out, ⟨_, _, _, _, _, _, _, rfl⟩, hbe⟩

set_option maxRecDepth 100000 in
set_option maxHeartbeats 1600000 in
theorem a_uw_lt (v u : Value) (a b : Q) (w : World) (ha : RepF w v a) (hb : RepF w u b) (sa : a.Sm) (sb : b.Sm) (c : Int) (HC : Hid (sgQ (sumQ a (negQ b)) = c)) :
    Calls Tryz.prog 52 #[.int .i64 6, v, u] w fun e w' => ∃ v' er, e = .returned (.tuple #[v', .int .i64 er]) ∧ er = 0 ∧ (er = 0 → RepF w' v' (truthQ (decide (c < 0)))) ∧ Shp v' ∧ Below w.heap.size w w' := by
  have ha' := ha
  have hb' := hb
  obtain ⟨sx, a1, l1, c1, a2, l2, c2, HSX, rfl, h1, h2⟩ := ha.opens
  obtain ⟨sy, a3, l3, c3, a4, l4, c4, HSY, rfl, h3, h4⟩ := hb.opens
  have hT := Three.new w (.bool sx) (.slice a1 l1 c1) (.slice a2 l2 c2) (.bool sy) (.slice a3 l3 c3) (.slice a4 l4 c4) 58 58 58
  have hW : ∀ o o' o'', Below w.heap.size w (((w.alloc o).alloc o').alloc o'') := fun o o' o'' => (((Below.refl _ _).alloc (Nat.le_refl _) o).alloc (by simp) o').alloc (by simp; omega) o''
  obtain ⟨p0, p1, p2⟩ := hT.a.cells
  obtain ⟨p3, p4, p5⟩ := hT.b.cells
  clear ha hb
  go_enter Tryz.func52, Tryz.ntmps52
  go_wp2_with fail
  refine (f_compare_any _ _ a b _ (ha'.below (Nat.le_refl _) (hW _ _ _)) (hb'.below (Nat.le_refl _) (hW _ _ _)) sa.ok sb.ok).mono ?_
  rw [HC.out]
  rintro e w8 ⟨rfl, hb8⟩
  have hT8 := hT.later hb8
  have hbw8 := Below.next (hW _ _ _) hb8 (by simp; omega)
  go_wp2_with fail
  refine (a_truth_any _ _).mono ?_
  rintro e w9 ⟨v9, rfl, hv9, hb9⟩
  have hT9 := hT8.later hb9
  have hbw9 := Below.next hbw8 hb9 hbw8.size
  obtain ⟨s0, y1, i1, j1, y2, i2, j2, HS0, rfl, r8, r9⟩ := hv9.opens
  have hR := hT9.r
  clear p0 p1 p2 p3 p4 p5
  obtain ⟨f0, f1, f2, _, _⟩ := id hR
  obtain ⟨x0, x1, x2, e0, e1, e2⟩ := hR.cells
  obtain ⟨q0, q1, q2⟩ := put3_cells hR (.bool s0) (.slice y1 i1 j1) (.slice y2 i2 j2)
  have hbe := put3_below (g := w.heap.size + 1 + 1) hbw9 (by omega) (.bool s0) (.slice y1 i1 j1) (.slice y2 i2 j2)
  have rN' := put3_rep hR r8 (.bool s0) (.slice y1 i1 j1) (.slice y2 i2 j2) (by simp) (by simp)
  have rD' := put3_rep hR r9 (.bool s0) (.slice y1 i1 j1) (.slice y2 i2 j2) (by simp) (by simp)
  unfold put3 at q0 q1 q2 hbe rN' rD'
  go_wp2
  refine bodyPost_ret (v := .tuple #[.agg #[.bool s0, .slice y1 i1 j1, .slice y2 i2 j2], .int .i64 0]) (by simp [results, Tryz.results52, go_sem, q0, q1, q2]) rfl ⟨_, 0, rfl, rfl, fun _ => ⟨_, _, by rw [HS0.out], rN', rD'⟩, ⟨_, _, _, _, _, _, _, rfl⟩, hbe⟩

set_option maxRecDepth 100000 in
set_option maxHeartbeats 1600000 in
theorem a_uw_gt (v u : Value) (a b : Q) (w : World) (ha : RepF w v a) (hb : RepF w u b) (sa : a.Sm) (sb : b.Sm) (c : Int) (HC : Hid (sgQ (sumQ a (negQ b)) = c)) :
    Calls Tryz.prog 52 #[.int .i64 7, v, u] w fun e w' => ∃ v' er, e = .returned (.tuple #[v', .int .i64 er]) ∧ er = 0 ∧ (er = 0 → RepF w' v' (truthQ (decide (0 < c)))) ∧ Shp v' ∧ Below w.heap.size w w' := by
  have ha' := ha
  have hb' := hb
  obtain ⟨sx, a1, l1, c1, a2, l2, c2, HSX, rfl, h1, h2⟩ := ha.opens
  obtain ⟨sy, a3, l3, c3, a4, l4, c4, HSY, rfl, h3, h4⟩ := hb.opens
  have hT := Three.new w (.bool sx) (.slice a1 l1 c1) (.slice a2 l2 c2) (.bool sy) (.slice a3 l3 c3) (.slice a4 l4 c4) 58 58 58
  have hW : ∀ o o' o'', Below w.heap.size w (((w.alloc o).alloc o').alloc o'') := fun o o' o'' => (((Below.refl _ _).alloc (Nat.le_refl _) o).alloc (by simp) o').alloc (by simp; omega) o''
  obtain ⟨p0, p1, p2⟩ := hT.a.cells
  obtain ⟨p3, p4, p5⟩ := hT.b.cells
  clear ha hb
  go_enter Tryz.func52, Tryz.ntmps52
  go_wp2_with fail
  refine (f_compare_any _ _ a b _ (ha'.below (Nat.le_refl _) (hW _ _ _)) (hb'.below (Nat.le_refl _) (hW _ _ _)) sa.ok sb.ok).mono ?_
  rw [HC.out]
  rintro e w8 ⟨rfl, hb8⟩
  have hT8 := hT.later hb8
  have hbw8 := Below.next (hW _ _ _) hb8 (by simp; omega)
  go_wp2_with fail
  refine (a_truth_any _ _).mono ?_
  rintro e w9 ⟨v9, rfl, hv9, hb9⟩
  have hT9 := hT8.later hb9
  have hbw9 := Below.next hbw8 hb9 hbw8.size
  obtain ⟨s0, y1, i1, j1, y2, i2, j2, HS0, rfl, r8, r9⟩ := hv9.opens
  have hR := hT9.r
  clear p0 p1 p2 p3 p4 p5
  obtain ⟨f0, f1, f2, _, _⟩ := id hR
  obtain ⟨x0, x1, x2, e0, e1, e2⟩ := hR.cells
  obtain ⟨q0, q1, q2⟩ := put3_cells hR (.bool s0) (.slice y1 i1 j1) (.slice y2 i2 j2)
  have hbe := put3_below (g := w.heap.size + 1 + 1) hbw9 (by omega) (.bool s0) (.slice y1 i1 j1) (.slice y2 i2 j2)
  have rN' := put3_rep hR r8 (.bool s0) (.slice y1 i1 j1) (.slice y2 i2 j2) (by simp) (by simp)
  have rD' := put3_rep hR r9 (.bool s0) (.slice y1 i1 j1) (.slice y2 i2 j2) (by simp) (by simp)
  unfold put3 at q0 q1 q2 hbe rN' rD'
  go_wp2
  refine bodyPost_ret (v := .tuple #[.agg #[.bool s0, .slice y1 i1 j1, .slice y2 i2 j2], .int .i64 0]) (by simp [results, Tryz.results52, go_sem, q0, q1, q2]) rfl ⟨_, 0, rfl, rfl, fun _ => ⟨_, _, by rw [HS0.out], rN', rD'⟩, ⟨_, _, _, _, _, _, _, rfl⟩, hbe⟩

set_option maxRecDepth 100000 in
set_option maxHeartbeats 1600000 in
theorem a_uw_eq (v u : Value) (a b : Q) (w : World) (ha : RepF w v a) (hb : RepF w u b) (sa : a.Sm) (sb : b.Sm) (c : Int) (HC : Hid (sgQ (sumQ a (negQ b)) = c)) :
    Calls Tryz.prog 52 #[.int .i64 8, v, u] w fun e w' => ∃ v' er, e = .returned (.tuple #[v', .int .i64 er]) ∧ er = 0 ∧ (er = 0 → RepF w' v' (truthQ (c == 0))) ∧ Shp v' ∧ Below w.heap.size w w' := by
  have ha' := ha
  have hb' := hb
  obtain ⟨sx, a1, l1, c1, a2, l2, c2, HSX, rfl, h1, h2⟩ := ha.opens
  obtain ⟨sy, a3, l3, c3, a4, l4, c4, HSY, rfl, h3, h4⟩ := hb.opens
  have hT := Three.new w (.bool sx) (.slice a1 l1 c1) (.slice a2 l2 c2) (.bool sy) (.slice a3 l3 c3) (.slice a4 l4 c4) 58 58 58
  have hW : ∀ o o' o'', Below w.heap.size w (((w.alloc o).alloc o').alloc o'') := fun o o' o'' => (((Below.refl _ _).alloc (Nat.le_refl _) o).alloc (by simp) o').alloc (by simp; omega) o''
  obtain ⟨p0, p1, p2⟩ := hT.a.cells
  obtain ⟨p3, p4, p5⟩ := hT.b.cells
  clear ha hb
  go_enter Tryz.func52, Tryz.ntmps52
  go_wp2_with fail
  refine (f_compare_any _ _ a b _ (ha'.below (Nat.le_refl _) (hW _ _ _)) (hb'.below (Nat.le_refl _) (hW _ _ _)) sa.ok sb.ok).mono ?_
  rw [HC.out]
  rintro e w8 ⟨rfl, hb8⟩
  have hT8 := hT.later hb8
  have hbw8 := Below.next (hW _ _ _) hb8 (by simp; omega)
  go_wp2_with fail
  refine (a_truth_any _ _).mono ?_
  rintro e w9 ⟨v9, rfl, hv9, hb9⟩
  have hT9 := hT8.later hb9
  have hbw9 := Below.next hbw8 hb9 hbw8.size
  obtain ⟨s0, y1, i1, j1, y2, i2, j2, HS0, rfl, r8, r9⟩ := hv9.opens
  have hR := hT9.r
  clear p0 p1 p2 p3 p4 p5
  obtain ⟨f0, f1, f2, _, _⟩ := id hR
  obtain ⟨x0, x1, x2, e0, e1, e2⟩ := hR.cells
  obtain ⟨q0, q1, q2⟩ := put3_cells hR (.bool s0) (.slice y1 i1 j1) (.slice y2 i2 j2)
  have hbe := put3_below (g := w.heap.size + 1 + 1) hbw9 (by omega) (.bool s0) (.slice y1 i1 j1) (.slice y2 i2 j2)
  have rN' := put3_rep hR r8 (.bool s0) (.slice y1 i1 j1) (.slice y2 i2 j2) (by simp) (by simp)
  have rD' := put3_rep hR r9 (.bool s0) (.slice y1 i1 j1) (.slice y2 i2 j2) (by simp) (by simp)
  unfold put3 at q0 q1 q2 hbe rN' rD'
  go_wp2
  refine bodyPost_ret (v := .tuple #[.agg #[.bool s0, .slice y1 i1 j1, .slice y2 i2 j2], .int .i64 0]) (by simp [results, Tryz.results52, go_sem, q0, q1, q2]) rfl ⟨_, 0, rfl, rfl, fun _ => ⟨_, _, by rw [HS0.out], rN', rD'⟩, ⟨_, _, _, _, _, _, _, rfl⟩, hbe⟩

set_option maxRecDepth 100000 in
set_option maxHeartbeats 1600000 in
theorem a_uw_min (v u : Value) (a b : Q) (w : World) (ha : RepF w v a) (hb : RepF w u b) (sa : a.Sm) (sb : b.Sm) (c : Int) (HC : Hid (sgQ (sumQ a (negQ b)) = c)) :
    Calls Tryz.prog 52 #[.int .i64 9, v, u] w fun e w' => ∃ v' er, e = .returned (.tuple #[v', .int .i64 er]) ∧ er = 0 ∧ (er = 0 → RepF w' v' (pickQ (decide (c ≤ 0)) a b)) ∧ Shp v' ∧ Below w.heap.size w w' := by
  have ha' := ha
  have hb' := hb
  obtain ⟨sx, a1, l1, c1, a2, l2, c2, HSX, rfl, h1, h2⟩ := ha.opens
  obtain ⟨sy, a3, l3, c3, a4, l4, c4, HSY, rfl, h3, h4⟩ := hb.opens
  have hT := Three.new w (.bool sx) (.slice a1 l1 c1) (.slice a2 l2 c2) (.bool sy) (.slice a3 l3 c3) (.slice a4 l4 c4) 58 58 58
  have hW : ∀ o o' o'', Below w.heap.size w (((w.alloc o).alloc o').alloc o'') := fun o o' o'' => (((Below.refl _ _).alloc (Nat.le_refl _) o).alloc (by simp) o').alloc (by simp; omega) o''
  obtain ⟨p0, p1, p2⟩ := hT.a.cells
  obtain ⟨p3, p4, p5⟩ := hT.b.cells
  clear ha hb
  go_enter Tryz.func52, Tryz.ntmps52
  go_wp2_with fail
  go_region_held3 (fun w' => w'.cell? ⟨w.heap.size, 0, none⟩ = some (.bool sx) ∧ w'.cell? ⟨w.heap.size, 1, none⟩ = some (.slice a1 l1 c1) ∧ w'.cell? ⟨w.heap.size, 2, none⟩ = some (.slice a2 l2 c2) ∧ w'.cell? ⟨w.heap.size + 1, 0, none⟩ = some (.bool sy) ∧ w'.cell? ⟨w.heap.size + 1, 1, none⟩ = some (.slice a3 l3 c3) ∧ w'.cell? ⟨w.heap.size + 1, 2, none⟩ = some (.slice a4 l4 c4) ∧ Fz (w.heap.size + 1 + 1) w' ∧ Below w.heap.size w w' ∧ w.heap.size < w'.heap.size ∧ w.heap.size + 1 + 1 < w'.heap.size)
    (first | exact ⟨p0, p1, p2, p3, p4, p5, hT.r, (hW _ _ _).drew, by simp; omega, hT.s⟩ | exact keepS6 (by assumption) (by assumption) | exact keepP6 (by assumption) (by simp <;> omega) (by omega) (by simp) (by simp) (by simp))
    ((first | (go_at_call 101; refine (f_compare_any _ _ a b _ (ha'.below (Nat.le_refl _) (hW _ _ _).drew) (hb'.below (Nat.le_refl _) (hW _ _ _).drew) sa.ok sb.ok).mono ?_; rw [HC.out]; rintro e w8 ⟨rfl, hb8⟩) | (go_at_call 102; refine (a_pick_q _ _ _ a b _ (ha'.below (Nat.le_refl _) (Below.next (hW _ _ _).drew hb8 (by simp; omega))) (hb'.below (Nat.le_refl _) (Below.next (hW _ _ _).drew hb8 (by simp; omega)))).mono ?_; rintro e w9 ⟨v9, rfl, hv9, hb9⟩; obtain ⟨s0, y1, i1, j1, y2, i2, j2, HS0, rfl, r8, r9⟩ := hv9.opens; have hS9 := keepS6 hb9 (by assumption); obtain ⟨_, _, _, _, _, _, hz9, hS9b⟩ := hS9; obtain ⟨x0, x1, x2, e0, e1, e2⟩ := hz9.cells; obtain ⟨f0, f1, f2, hno9, hh9⟩ := id hz9)))
  all_goals
    have hbw9 := hS9b.1
    obtain ⟨q0, q1, q2⟩ := put3_cells hz9 (.bool s0) (.slice y1 i1 j1) (.slice y2 i2 j2)
    have hbe := put3_below (g := w.heap.size + 1 + 1) hbw9 (by omega) (.bool s0) (.slice y1 i1 j1) (.slice y2 i2 j2)
    have rN' := put3_rep hz9 r8 (.bool s0) (.slice y1 i1 j1) (.slice y2 i2 j2) (by simp) (by simp)
    have rD' := put3_rep hz9 r9 (.bool s0) (.slice y1 i1 j1) (.slice y2 i2 j2) (by simp) (by simp)
    unfold put3 at q0 q1 q2 hbe rN' rD'
    go_wp2
    refine bodyPost_ret (v := .tuple #[.agg #[.bool s0, .slice y1 i1 j1, .slice y2 i2 j2], .int .i64 0]) (by simp [results, Tryz.results52, go_sem, q0, q1, q2]) rfl ⟨_, 0, rfl, rfl, fun _ => ⟨_, _, by rw [HS0.out], rN', rD'⟩, ⟨_, _, _, _, _, _, _, rfl⟩, hbe⟩

set_option maxRecDepth 100000 in
set_option maxHeartbeats 1600000 in
theorem a_uw_max (v u : Value) (a b : Q) (w : World) (ha : RepF w v a) (hb : RepF w u b) (sa : a.Sm) (sb : b.Sm) (c : Int) (HC : Hid (sgQ (sumQ a (negQ b)) = c)) :
    Calls Tryz.prog 52 #[.int .i64 10, v, u] w fun e w' => ∃ v' er, e = .returned (.tuple #[v', .int .i64 er]) ∧ er = 0 ∧ (er = 0 → RepF w' v' (pickQ (decide (0 ≤ c)) a b)) ∧ Shp v' ∧ Below w.heap.size w w' := by
  have ha' := ha
  have hb' := hb
  obtain ⟨sx, a1, l1, c1, a2, l2, c2, HSX, rfl, h1, h2⟩ := ha.opens
  obtain ⟨sy, a3, l3, c3, a4, l4, c4, HSY, rfl, h3, h4⟩ := hb.opens
  have hT := Three.new w (.bool sx) (.slice a1 l1 c1) (.slice a2 l2 c2) (.bool sy) (.slice a3 l3 c3) (.slice a4 l4 c4) 58 58 58
  have hW : ∀ o o' o'', Below w.heap.size w (((w.alloc o).alloc o').alloc o'') := fun o o' o'' => (((Below.refl _ _).alloc (Nat.le_refl _) o).alloc (by simp) o').alloc (by simp; omega) o''
  obtain ⟨p0, p1, p2⟩ := hT.a.cells
  obtain ⟨p3, p4, p5⟩ := hT.b.cells
  clear ha hb
  go_enter Tryz.func52, Tryz.ntmps52
  go_wp2_with fail
  go_region_held3 (fun w' => w'.cell? ⟨w.heap.size, 0, none⟩ = some (.bool sx) ∧ w'.cell? ⟨w.heap.size, 1, none⟩ = some (.slice a1 l1 c1) ∧ w'.cell? ⟨w.heap.size, 2, none⟩ = some (.slice a2 l2 c2) ∧ w'.cell? ⟨w.heap.size + 1, 0, none⟩ = some (.bool sy) ∧ w'.cell? ⟨w.heap.size + 1, 1, none⟩ = some (.slice a3 l3 c3) ∧ w'.cell? ⟨w.heap.size + 1, 2, none⟩ = some (.slice a4 l4 c4) ∧ Fz (w.heap.size + 1 + 1) w' ∧ Below w.heap.size w w' ∧ w.heap.size < w'.heap.size ∧ w.heap.size + 1 + 1 < w'.heap.size)
    (first | exact ⟨p0, p1, p2, p3, p4, p5, hT.r, (hW _ _ _).drew, by simp; omega, hT.s⟩ | exact keepS6 (by assumption) (by assumption) | exact keepP6 (by assumption) (by simp <;> omega) (by omega) (by simp) (by simp) (by simp))
    ((first | (go_at_call 101; refine (f_compare_any _ _ a b _ (ha'.below (Nat.le_refl _) (hW _ _ _).drew) (hb'.below (Nat.le_refl _) (hW _ _ _).drew) sa.ok sb.ok).mono ?_; rw [HC.out]; rintro e w8 ⟨rfl, hb8⟩) | (go_at_call 102; refine (a_pick_q _ _ _ a b _ (ha'.below (Nat.le_refl _) (Below.next (hW _ _ _).drew hb8 (by simp; omega))) (hb'.below (Nat.le_refl _) (Below.next (hW _ _ _).drew hb8 (by simp; omega)))).mono ?_; rintro e w9 ⟨v9, rfl, hv9, hb9⟩; obtain ⟨s0, y1, i1, j1, y2, i2, j2, HS0, rfl, r8, r9⟩ := hv9.opens; have hS9 := keepS6 hb9 (by assumption); obtain ⟨_, _, _, _, _, _, hz9, hS9b⟩ := hS9; obtain ⟨x0, x1, x2, e0, e1, e2⟩ := hz9.cells; obtain ⟨f0, f1, f2, hno9, hh9⟩ := id hz9)))
  all_goals
    have hbw9 := hS9b.1
    obtain ⟨q0, q1, q2⟩ := put3_cells hz9 (.bool s0) (.slice y1 i1 j1) (.slice y2 i2 j2)
    have hbe := put3_below (g := w.heap.size + 1 + 1) hbw9 (by omega) (.bool s0) (.slice y1 i1 j1) (.slice y2 i2 j2)
    have rN' := put3_rep hz9 r8 (.bool s0) (.slice y1 i1 j1) (.slice y2 i2 j2) (by simp) (by simp)
    have rD' := put3_rep hz9 r9 (.bool s0) (.slice y1 i1 j1) (.slice y2 i2 j2) (by simp) (by simp)
    unfold put3 at q0 q1 q2 hbe rN' rD'
    go_wp2
    refine bodyPost_ret (v := .tuple #[.agg #[.bool s0, .slice y1 i1 j1, .slice y2 i2 j2], .int .i64 0]) (by simp [results, Tryz.results52, go_sem, q0, q1, q2]) rfl ⟨_, 0, rfl, rfl, fun _ => ⟨_, _, by rw [HS0.out], rN', rD'⟩, ⟨_, _, _, _, _, _, _, rfl⟩, hbe⟩

end Go.Proofs.YtknnjibmacmniaaGreatDoor
