/- fraction: Multiply, Add. -/
import Derived.Test.YtknnjibmacmniaaGreatDoorC25
namespace Go.Proofs.YtknnjibmacmniaaGreatDoor
open Go.RowKit
set_option linter.unusedVariables false
attribute [local go_sem ↓] Go.wp_at_zero Go.wp_at_succ

set_option maxRecDepth 100000 in
set_option maxHeartbeats 1600000 in
theorem f_mul_any (v u : Value) (a b : Q) (w : World) (ha : RepF w v a) (hb : RepF w u b) (oa : a.Ok) (ob : b.Ok) :
    Calls Tryz.prog 96 #[v, u] w fun e w' => ∃ v', e = .returned v' ∧ RepF w' v' (mulQ a b) ∧ Below w.heap.size w w' := by
  obtain ⟨a1, l1, c1, a2, l2, c2, rfl, h1, h2⟩ := ha.open
  obtain ⟨a3, l3, c3, a4, l4, c4, rfl, h3, h4⟩ := hb.open
  have m1 := mul_cp oa.n0 oa.n1 ob.n0 ob.n1
  have m3 := mul_cp (Int.le_of_lt oa.d0) oa.d1 (Int.le_of_lt ob.d0) ob.d1
  have m4 : 0 < a.d * b.d := Int.mul_pos oa.d0 ob.d0
  have hT := Three.new w (.bool a.neg) (.slice a1 l1 c1) (.slice a2 l2 c2) (.bool b.neg) (.slice a3 l3 c3) (.slice a4 l4 c4) 58 58 58
  have hW : ∀ o o' o'', Below w.heap.size w (((w.alloc o).alloc o').alloc o'') := fun o o' o'' => (((Below.refl _ _).alloc (Nat.le_refl _) o).alloc (by simp) o').alloc (by simp; omega) o''
  rw [show mulQ a b = mk (!(a.neg == b.neg)) (a.n * b.n) (a.d * b.d) from rfl]
  clear ha hb
  go_enter Tryz.func96, Tryz.ntmps96
  go_wp2_with fail
  refine (n_mul_any _ _ a.n b.n _ ⟨_, rfl, h1.below (Nat.le_refl _) (hW _ _ _)⟩ ⟨_, rfl, h3.below (Nat.le_refl _) (hW _ _ _)⟩ (lt_lim_of_cp oa.n1) (lt_lim_of_cp ob.n1)).mono ?_
  rintro e w1 ⟨v1, rfl, hv1, hb1⟩
  obtain ⟨b1, n1, k1, rfl, r1⟩ := hv1.open
  have hbC : Below w1.heap.size w1 (w1.alloc (.cells #[.slice b1 n1 k1] 56)) := (Below.refl _ _).alloc (Nat.le_refl _) _
  have hC := Bx.new w1 (.slice b1 n1 k1) 56 (by simp)
  have hT2 := (hT.later hb1).later hbC
  obtain ⟨p0, p1, p2⟩ := hT2.a.cells
  obtain ⟨p3, p4, p5⟩ := hT2.b.cells
  have hbw1 := Below.next (hW _ _ _) hb1 (by simp; omega)
  have hbw2 := Below.next hbw1 hbC hbw1.size
  have r2 := r1.below (Nat.le_refl _) hbC
  clear hT hb1 hbC hv1 hbw1 r1
  go_wp2_with fail
  refine (n_mul_any _ _ a.d b.d _ ⟨_, rfl, h2.below (Nat.le_refl _) hbw2⟩ ⟨_, rfl, h4.below (Nat.le_refl _) hbw2⟩ (lt_lim_of_cp oa.d1) (lt_lim_of_cp ob.d1)).mono ?_
  rintro e w3 ⟨v3, rfl, hv3, hb3⟩
  obtain ⟨b2, n2, k2, rfl, r3⟩ := hv3.open
  have hbD : Below w3.heap.size w3 (w3.alloc (.cells #[.slice b2 n2 k2] 56)) := (Below.refl _ _).alloc (Nat.le_refl _) _
  have hD := Bx.new w3 (.slice b2 n2 k2) 56 (by simp)
  have hT4 := (hT2.later hb3).later hbD
  have hs3 := hb3.size
  simp only [World.size_alloc] at hs3
  have hC4 := (hC.later (by simp) hb3).later (by omega) hbD
  clear p0 p1 p2 p3 p4 p5
  obtain ⟨p0, p1, p2⟩ := hT4.a.cells
  obtain ⟨p3, p4, p5⟩ := hT4.b.cells
  have hbw3 := Below.next hbw2 hb3 hbw2.size
  have hbw4 := Below.next hbw3 hbD hbw3.size
  have r4 := (r2.below (Nat.le_refl _) hb3).below (Nat.le_refl _) hbD
  have r5 := r3.below (Nat.le_refl _) hbD
  have cC := hC4.cell
  have cD := hD.cell
  clear hT2 hb3 hbD hv3 hbw3 hbw2 r3 r2 hC
  go_wp2_with fail
  refine (f_lowest_any _ _ _ (a.n * b.n) (a.d * b.d) _ ⟨_, rfl, r4⟩ ⟨_, rfl, r5⟩ m4 (by omega) (by omega)).mono ?_
  rintro e w5 ⟨v5, rfl, hv5, hb5⟩
  obtain ⟨b5, n5, k5, b6, n6, k6, rfl, r6, r7⟩ := hv5.open
  have hT5 := (hT4.later hb5).r
  have hbw5 := Below.next hbw4 hb5 hbw4.size
  obtain ⟨x0, x1, x2, e0, e1, e2⟩ := hT5.cells
  obtain ⟨f0, f1, f2, hno, hh⟩ := id hT5
  have hr := RepF.put3 (show RepF w5 _ (mk (!(a.neg == b.neg)) (a.n * b.n) (a.d * b.d)) from ⟨_, _, rfl, r6, r7⟩) hT5 (.bool (mk (!(a.neg == b.neg)) (a.n * b.n) (a.d * b.d)).neg) (.slice b5 n5 k5) (.slice b6 n6 k6) (by simp) (by simp)
  obtain ⟨q0, q1, q2⟩ := put3_cells hT5 (.bool (mk (!(a.neg == b.neg)) (a.n * b.n) (a.d * b.d)).neg) (.slice b5 n5 k5) (.slice b6 n6 k6)
  go_wp2
  refine bodyPost_ret (v := .agg #[.bool (mk (!(a.neg == b.neg)) (a.n * b.n) (a.d * b.d)).neg, .slice b5 n5 k5, .slice b6 n6 k6]) (by unfold put3 at q0 q1 q2; simp [results, Tryz.results96, go_sem, q0, q1, q2]) rfl ⟨_, rfl, hr, ?_⟩
  exact put3_below hbw5 (by omega) _ _ _
end Go.Proofs.YtknnjibmacmniaaGreatDoor

/- fraction: Add. -/
namespace Go.Proofs.YtknnjibmacmniaaGreatDoor
open Go.RowKit
set_option linter.unusedVariables false
attribute [local go_sem ↓] Go.wp_at_zero Go.wp_at_succ

theorem keepS4 {g B : Nat} {W w' w'' : World} {a0 a1 a2 a3 : Addr} {x0 x1 x2 x3 : Value} (hb : Below w'.heap.size w' w'') (h : w'.cell? a0 = some x0 ∧ w'.cell? a1 = some x1 ∧ w'.cell? a2 = some x2 ∧ w'.cell? a3 = some x3 ∧ Fz g w' ∧ Below B W w' ∧ B < w'.heap.size ∧ g < w'.heap.size) :
    w''.cell? a0 = some x0 ∧ w''.cell? a1 = some x1 ∧ w''.cell? a2 = some x2 ∧ w''.cell? a3 = some x3 ∧ Fz g w'' ∧ Below B W w'' ∧ B < w''.heap.size ∧ g < w''.heap.size := by
  obtain ⟨h0, h1⟩ := h
  exact ⟨cell_later hb h0, keepS3 hb h1⟩
theorem keepP4 {g B : Nat} {W w' : World} {a0 a1 a2 a3 : Addr} {x0 x1 x2 x3 v0 v1 v2 : Value} (h : w'.cell? a0 = some x0 ∧ w'.cell? a1 = some x1 ∧ w'.cell? a2 = some x2 ∧ w'.cell? a3 = some x3 ∧ Fz g w' ∧ Below B W w' ∧ B < w'.heap.size ∧ g < w'.heap.size) (hne : a0.block ≠ g ∧ a1.block ≠ g ∧ a2.block ≠ g ∧ a3.block ≠ g) (hg : B ≤ g)
    (z0 : ∀ k x, v0 ≠ .int k x) (z1 : ∀ k x, v1 ≠ .int k x) (z2 : ∀ k x, v2 ≠ .int k x) :
    (put3 w' g v0 v1 v2).cell? a0 = some x0 ∧ (put3 w' g v0 v1 v2).cell? a1 = some x1 ∧ (put3 w' g v0 v1 v2).cell? a2 = some x2 ∧ (put3 w' g v0 v1 v2).cell? a3 = some x3 ∧ Fz g (put3 w' g v0 v1 v2) ∧ Below B W (put3 w' g v0 v1 v2) ∧ B < (put3 w' g v0 v1 v2).heap.size ∧ g < (put3 w' g v0 v1 v2).heap.size := by
  obtain ⟨h0, h1⟩ := h
  exact ⟨put3_cell_other _ _ _ h0 hne.1, keepP3 h1 hne.2 hg z0 z1 z2⟩

set_option maxRecDepth 100000 in
set_option maxHeartbeats 1600000 in
theorem f_add_same (v u : Value) (a b : Q) (w : World) (ha : RepF w v a) (hb : RepF w u b) (oa : a.Ok) (ob : b.Ok) (hs : a.neg = b.neg) :
    Calls Tryz.prog 94 #[v, u] w fun e w' => ∃ v', e = .returned v' ∧ RepF w' v' (sumQ a b) ∧ Below w.heap.size w w' := by
  obtain ⟨a1, l1, c1, a2, l2, c2, rfl, h1, h2⟩ := ha.open
  obtain ⟨a3, l3, c3, a4, l4, c4, rfl, h3, h4⟩ := hb.open
  have m1 := mul_cp oa.n0 oa.n1 (Int.le_of_lt ob.d0) ob.d1
  have m2 := mul_cp ob.n0 ob.n1 (Int.le_of_lt oa.d0) oa.d1
  have m3 := mul_cp (Int.le_of_lt oa.d0) oa.d1 (Int.le_of_lt ob.d0) ob.d1
  have m4 : 0 < a.d * b.d := Int.mul_pos oa.d0 ob.d0
  have hT := Three.new w (.bool a.neg) (.slice a1 l1 c1) (.slice a2 l2 c2) (.bool b.neg) (.slice a3 l3 c3) (.slice a4 l4 c4) 58 58 58
  have hW : ∀ o o' o'', Below w.heap.size w (((w.alloc o).alloc o').alloc o'') := fun o o' o'' => (((Below.refl _ _).alloc (Nat.le_refl _) o).alloc (by simp) o').alloc (by simp; omega) o''
  have HS : Hid (sumQ a b = mk a.neg (a.n * b.d + b.n * a.d) (a.d * b.d)) := by unfold Hid sumQ; rw [if_pos hs]
  have hbq : (a.neg == b.neg) = true := by simp [hs]
  clear ha hb hs
  go_enter Tryz.func94, Tryz.ntmps94
  go_wp2_with fail
  refine (n_mul_any _ _ a.n b.d _ ⟨_, rfl, h1.below (Nat.le_refl _) (hW _ _ _)⟩ ⟨_, rfl, h4.below (Nat.le_refl _) (hW _ _ _)⟩ (lt_lim_of_cp oa.n1) (lt_lim_of_cp ob.d1)).mono ?_
  rintro e w1 ⟨v1, rfl, hv1, hb1⟩
  obtain ⟨b1, n1, k1, rfl, r1⟩ := hv1.open
  have hbC : Below w1.heap.size w1 (w1.alloc (.cells #[.slice b1 n1 k1] 56)) := (Below.refl _ _).alloc (Nat.le_refl _) _
  have hC := Bx.new w1 (.slice b1 n1 k1) 56 (by simp)
  have hT1 := hT.later hb1
  have hs1 := hT1.s
  have hT2 := hT1.later hbC
  obtain ⟨p0, p1, p2⟩ := hT2.a.cells
  obtain ⟨p3, p4, p5⟩ := hT2.b.cells
  have hbw1 := Below.next (hW _ _ _) hb1 (by simp; omega)
  have hbw2 := Below.next hbw1 hbC hbw1.size
  have r2 := r1.below (Nat.le_refl _) hbC
  clear hT hb1 hbC hv1 hbw1 r1 hT1
  go_wp2_with fail
  refine (n_mul_any _ _ b.n a.d _ ⟨_, rfl, h3.below (Nat.le_refl _) hbw2⟩ ⟨_, rfl, h2.below (Nat.le_refl _) hbw2⟩ (lt_lim_of_cp ob.n1) (lt_lim_of_cp oa.d1)).mono ?_
  rintro e w3 ⟨v3, rfl, hv3, hb3⟩
  obtain ⟨b2, n2, k2, rfl, r3⟩ := hv3.open
  have hbD : Below w3.heap.size w3 (w3.alloc (.cells #[.slice b2 n2 k2] 56)) := (Below.refl _ _).alloc (Nat.le_refl _) _
  have hD := Bx.new w3 (.slice b2 n2 k2) 56 (by simp)
  have hT4 := (hT2.later hb3).later hbD
  have hs3 := hb3.size
  simp only [World.size_alloc] at hs3
  have hC4 := (hC.later (by simp) hb3).later (by omega) hbD
  clear p0 p1 p2 p3 p4 p5
  obtain ⟨p0, p1, p2⟩ := hT4.a.cells
  obtain ⟨p3, p4, p5⟩ := hT4.b.cells
  have hbw3 := Below.next hbw2 hb3 hbw2.size
  have hbw4 := Below.next hbw3 hbD hbw3.size
  have r4 := (r2.below (Nat.le_refl _) hb3).below (Nat.le_refl _) hbD
  have r5 := r3.below (Nat.le_refl _) hbD
  clear hT2 hb3 hbD hv3 hbw3 hbw2 r3 r2 hC
  go_wp2_with fail
  refine (n_mul_any _ _ a.d b.d _ ⟨_, rfl, h2.below (Nat.le_refl _) hbw4⟩ ⟨_, rfl, h4.below (Nat.le_refl _) hbw4⟩ (lt_lim_of_cp oa.d1) (lt_lim_of_cp ob.d1)).mono ?_
  rintro e w5 ⟨v5, rfl, hv5, hb5⟩
  obtain ⟨b3, n3, k3, rfl, r6⟩ := hv5.open
  have hbE : Below w5.heap.size w5 (w5.alloc (.cells #[.slice b3 n3 k3] 56)) := (Below.refl _ _).alloc (Nat.le_refl _) _
  have hE := Bx.new w5 (.slice b3 n3 k3) 56 (by simp)
  have hT6 := (hT4.later hb5).later hbE
  have hs5 := hb5.size
  simp only [World.size_alloc] at hs5
  have hC6 := (hC4.later (by simp; omega) hb5).later (by omega) hbE
  have hD6 := (hD.later (by simp) hb5).later (by omega) hbE
  have hbw5 := Below.next hbw4 hb5 hbw4.size
  have hbw6 := Below.next hbw5 hbE hbw5.size
  have r41 := (r4.below (Nat.le_refl _) hb5).below (Nat.le_refl _) hbE
  have r51 := (r5.below (Nat.le_refl _) hb5).below (Nat.le_refl _) hbE
  have r61 := r6.below (Nat.le_refl _) hbE
  clear p0 p1 p2 p3 p4 p5
  obtain ⟨p0, p1, p2⟩ := hT6.a.cells
  obtain ⟨p3, p4, p5⟩ := hT6.b.cells
  have cC := hC6.cell
  have cD := hD6.cell
  have cE := hE.cell
  have hz := hT6.r
  have hsz := hT6.s
  clear hT4 hb5 hbE hv5 hbw5 hbw4 r6 r5 r4 hC4 hD
  go_wp2_with fail
  clear p0 p1 p2 p3 p4 p5 h1 h2 h3 h4 hW
  have p0 := hT6.a.cells.1
  go_region_held3 (fun w' => w'.cell? ⟨w.heap.size, 0, none⟩ = some (.bool a.neg) ∧ w'.cell? ⟨w1.heap.size, 0, none⟩ = some (.slice b1 n1 k1) ∧ w'.cell? ⟨w3.heap.size, 0, none⟩ = some (.slice b2 n2 k2) ∧ w'.cell? ⟨w5.heap.size, 0, none⟩ = some (.slice b3 n3 k3) ∧ Fz (w.heap.size + 1 + 1) w' ∧ Below w.heap.size w w' ∧ w.heap.size < w'.heap.size ∧ w.heap.size + 1 + 1 < w'.heap.size)
    (first | exact ⟨p0, cC, cD, cE, hz, hbw6.drew, Nat.lt_of_le_of_lt (by omega) hsz, hsz⟩ | exact keepS4 (by assumption) (by assumption) | exact keepP4 (by assumption) (by simp; omega) (by omega) (by simp) (by simp) (by simp))
    ((first | (go_at_call 139; refine (n_add_any _ _ (a.n * b.d) (b.n * a.d) _ ⟨_, rfl, by exact r41⟩ ⟨_, rfl, by exact r51⟩ (by omega) (by omega)).mono ?_; rintro e w7 ⟨v7, rfl, hv7, hb7⟩; obtain ⟨b7, n7, k7, rfl, r7⟩ := hv7.open) | (go_at_call 51; refine (f_lowest_any _ _ _ (a.n * b.d + b.n * a.d) (a.d * b.d) _ ⟨_, rfl, by assumption⟩ ⟨_, rfl, by exact r61.below (Nat.le_refl _) (Below.undrew hb7)⟩ m4 (by omega) (by omega)).mono ?_; rintro e w8 ⟨v8, rfl, hv8, hb8⟩; obtain ⟨y1, i1, j1, y2, i2, j2, rfl, r8, r9⟩ := hv8.open; have hS8 := keepS4 hb8 (by assumption); obtain ⟨_, _, _, _, hz8, hS8b⟩ := hS8; obtain ⟨x0, x1, x2, e0, e1, e2⟩ := hz8.cells; obtain ⟨f0, f1, f2, hno8, hh8⟩ := id hz8)))
  all_goals
    obtain ⟨q0, q1, q2⟩ := put3_cells hz8 (.bool (mk a.neg (a.n * b.d + b.n * a.d) (a.d * b.d)).neg) (.slice y1 i1 j1) (.slice y2 i2 j2)
    go_wp2
    refine bodyPost_ret (v := .agg #[.bool (mk a.neg (a.n * b.d + b.n * a.d) (a.d * b.d)).neg, .slice y1 i1 j1, .slice y2 i2 j2]) (by unfold put3 at q0 q1 q2; simp [results, Tryz.results94, go_sem, q0, q1, q2]) rfl ⟨_, rfl, ?_, ?_⟩
    · rw [HS.out]
      exact ⟨_, _, rfl, put3_rep hz8 r8 _ _ _ (by simp) (by simp), put3_rep hz8 r9 _ _ _ (by simp) (by simp)⟩
    · exact put3_below hS8b.1 (by omega) _ _ _

set_option maxRecDepth 100000 in
set_option maxHeartbeats 1600000 in
theorem f_add_ge (v u : Value) (a b : Q) (w : World) (ha : RepF w v a) (hb : RepF w u b) (oa : a.Ok) (ob : b.Ok) (hs : ¬ a.neg = b.neg) (hge : b.n * a.d ≤ a.n * b.d) :
    Calls Tryz.prog 94 #[v, u] w fun e w' => ∃ v', e = .returned v' ∧ RepF w' v' (sumQ a b) ∧ Below w.heap.size w w' := by
  obtain ⟨a1, l1, c1, a2, l2, c2, rfl, h1, h2⟩ := ha.open
  obtain ⟨a3, l3, c3, a4, l4, c4, rfl, h3, h4⟩ := hb.open
  have m1 := mul_cp oa.n0 oa.n1 (Int.le_of_lt ob.d0) ob.d1
  have m2 := mul_cp ob.n0 ob.n1 (Int.le_of_lt oa.d0) oa.d1
  have m3 := mul_cp (Int.le_of_lt oa.d0) oa.d1 (Int.le_of_lt ob.d0) ob.d1
  have m4 : 0 < a.d * b.d := Int.mul_pos oa.d0 ob.d0
  have hT := Three.new w (.bool a.neg) (.slice a1 l1 c1) (.slice a2 l2 c2) (.bool b.neg) (.slice a3 l3 c3) (.slice a4 l4 c4) 58 58 58
  have hW : ∀ o o' o'', Below w.heap.size w (((w.alloc o).alloc o').alloc o'') := fun o o' o'' => (((Below.refl _ _).alloc (Nat.le_refl _) o).alloc (by simp) o').alloc (by simp; omega) o''
  have HS : Hid (sumQ a b = mk a.neg (a.n * b.d - b.n * a.d) (a.d * b.d)) := by unfold Hid sumQ; rw [if_neg hs, if_pos hge]
  have hbq : (a.neg == b.neg) = false := by simp [hs]
  have hsg : 0 ≤ sgn3 (a.n * b.d) (b.n * a.d) := by unfold sgn3; rw [if_neg (by omega)]; split <;> omega
  clear ha hb hs
  go_enter Tryz.func94, Tryz.ntmps94
  go_wp2_with fail
  refine (n_mul_any _ _ a.n b.d _ ⟨_, rfl, h1.below (Nat.le_refl _) (hW _ _ _)⟩ ⟨_, rfl, h4.below (Nat.le_refl _) (hW _ _ _)⟩ (lt_lim_of_cp oa.n1) (lt_lim_of_cp ob.d1)).mono ?_
  rintro e w1 ⟨v1, rfl, hv1, hb1⟩
  obtain ⟨b1, n1, k1, rfl, r1⟩ := hv1.open
  have hbC : Below w1.heap.size w1 (w1.alloc (.cells #[.slice b1 n1 k1] 56)) := (Below.refl _ _).alloc (Nat.le_refl _) _
  have hC := Bx.new w1 (.slice b1 n1 k1) 56 (by simp)
  have hT1 := hT.later hb1
  have hs1 := hT1.s
  have hT2 := hT1.later hbC
  obtain ⟨p0, p1, p2⟩ := hT2.a.cells
  obtain ⟨p3, p4, p5⟩ := hT2.b.cells
  have hbw1 := Below.next (hW _ _ _) hb1 (by simp; omega)
  have hbw2 := Below.next hbw1 hbC hbw1.size
  have r2 := r1.below (Nat.le_refl _) hbC
  clear hT hb1 hbC hv1 hbw1 r1 hT1
  go_wp2_with fail
  refine (n_mul_any _ _ b.n a.d _ ⟨_, rfl, h3.below (Nat.le_refl _) hbw2⟩ ⟨_, rfl, h2.below (Nat.le_refl _) hbw2⟩ (lt_lim_of_cp ob.n1) (lt_lim_of_cp oa.d1)).mono ?_
  rintro e w3 ⟨v3, rfl, hv3, hb3⟩
  obtain ⟨b2, n2, k2, rfl, r3⟩ := hv3.open
  have hbD : Below w3.heap.size w3 (w3.alloc (.cells #[.slice b2 n2 k2] 56)) := (Below.refl _ _).alloc (Nat.le_refl _) _
  have hD := Bx.new w3 (.slice b2 n2 k2) 56 (by simp)
  have hT4 := (hT2.later hb3).later hbD
  have hs3 := hb3.size
  simp only [World.size_alloc] at hs3
  have hC4 := (hC.later (by simp) hb3).later (by omega) hbD
  clear p0 p1 p2 p3 p4 p5
  obtain ⟨p0, p1, p2⟩ := hT4.a.cells
  obtain ⟨p3, p4, p5⟩ := hT4.b.cells
  have hbw3 := Below.next hbw2 hb3 hbw2.size
  have hbw4 := Below.next hbw3 hbD hbw3.size
  have r4 := (r2.below (Nat.le_refl _) hb3).below (Nat.le_refl _) hbD
  have r5 := r3.below (Nat.le_refl _) hbD
  clear hT2 hb3 hbD hv3 hbw3 hbw2 r3 r2 hC
  go_wp2_with fail
  refine (n_mul_any _ _ a.d b.d _ ⟨_, rfl, h2.below (Nat.le_refl _) hbw4⟩ ⟨_, rfl, h4.below (Nat.le_refl _) hbw4⟩ (lt_lim_of_cp oa.d1) (lt_lim_of_cp ob.d1)).mono ?_
  rintro e w5 ⟨v5, rfl, hv5, hb5⟩
  obtain ⟨b3, n3, k3, rfl, r6⟩ := hv5.open
  have hbE : Below w5.heap.size w5 (w5.alloc (.cells #[.slice b3 n3 k3] 56)) := (Below.refl _ _).alloc (Nat.le_refl _) _
  have hE := Bx.new w5 (.slice b3 n3 k3) 56 (by simp)
  have hT6 := (hT4.later hb5).later hbE
  have hs5 := hb5.size
  simp only [World.size_alloc] at hs5
  have hC6 := (hC4.later (by simp; omega) hb5).later (by omega) hbE
  have hD6 := (hD.later (by simp) hb5).later (by omega) hbE
  have hbw5 := Below.next hbw4 hb5 hbw4.size
  have hbw6 := Below.next hbw5 hbE hbw5.size
  have r41 := (r4.below (Nat.le_refl _) hb5).below (Nat.le_refl _) hbE
  have r51 := (r5.below (Nat.le_refl _) hb5).below (Nat.le_refl _) hbE
  have r61 := r6.below (Nat.le_refl _) hbE
  clear p0 p1 p2 p3 p4 p5
  obtain ⟨p0, p1, p2⟩ := hT6.a.cells
  obtain ⟨p3, p4, p5⟩ := hT6.b.cells
  have cC := hC6.cell
  have cD := hD6.cell
  have cE := hE.cell
  have hz := hT6.r
  have hsz := hT6.s
  clear hT4 hb5 hbE hv5 hbw5 hbw4 r6 r5 r4 hC4 hD
  go_wp2_with fail
  refine (n_compare_any _ _ (a.n * b.d) (b.n * a.d) _ ⟨_, rfl, r41⟩ ⟨_, rfl, r51⟩ (by omega) (by omega)).mono ?_
  rintro e w7 ⟨rfl, hb7⟩
  skip
  have r41 := r41.below (Nat.le_refl _) hb7
  have r51 := r51.below (Nat.le_refl _) hb7
  have r61 := r61.below (Nat.le_refl _) hb7
  have hT7 := hT6.later hb7
  have hC6 := hC6.later (by simp; omega) hb7
  have hD6 := hD6.later (by simp; omega) hb7
  have hE := hE.later (by simp) hb7
  have hbw7 := Below.next hbw6 hb7 hbw6.size
  clear p0 p1 p2 p3 p4 p5 cC cD cE hz hsz hT6 hbw6 hb7
  obtain ⟨p0, p1, p2⟩ := hT7.a.cells
  obtain ⟨p3, p4, p5⟩ := hT7.b.cells
  have cC := hC6.cell
  have cD := hD6.cell
  have cE := hE.cell
  have hz := hT7.r
  have hsz := hT7.s
  have hbw6 := hbw7
  go_wp2_with fail
  clear p0 p1 p2 p3 p4 p5 h1 h2 h3 h4 hW
  have p0 := hT7.a.cells.1
  go_region_held3 (fun w' => w'.cell? ⟨w.heap.size, 0, none⟩ = some (.bool a.neg) ∧ w'.cell? ⟨w1.heap.size, 0, none⟩ = some (.slice b1 n1 k1) ∧ w'.cell? ⟨w3.heap.size, 0, none⟩ = some (.slice b2 n2 k2) ∧ w'.cell? ⟨w5.heap.size, 0, none⟩ = some (.slice b3 n3 k3) ∧ Fz (w.heap.size + 1 + 1) w' ∧ Below w.heap.size w w' ∧ w.heap.size < w'.heap.size ∧ w.heap.size + 1 + 1 < w'.heap.size)
    (first | exact ⟨p0, cC, cD, cE, hz, hbw7.drew, Nat.lt_of_le_of_lt (by omega) hsz, hsz⟩ | exact keepS4 (by assumption) (by assumption) | exact keepP4 (by assumption) (by simp; omega) (by omega) (by simp) (by simp) (by simp))
    ((first | (go_at_call 140; refine (n_sub_any _ _ (a.n * b.d) (b.n * a.d) _ ⟨_, rfl, by exact r41⟩ ⟨_, rfl, by exact r51⟩ (by omega) (by omega)).mono ?_; rintro e w7 ⟨v7, rfl, hv7, hb7⟩; obtain ⟨b7, n7, k7, rfl, r7⟩ := hv7.open) | (go_at_call 51; refine (f_lowest_any _ _ _ (a.n * b.d - b.n * a.d) (a.d * b.d) _ ⟨_, rfl, by assumption⟩ ⟨_, rfl, by exact r61.below (Nat.le_refl _) (Below.undrew hb7)⟩ m4 (by omega) (by omega)).mono ?_; rintro e w8 ⟨v8, rfl, hv8, hb8⟩; obtain ⟨y1, i1, j1, y2, i2, j2, rfl, r8, r9⟩ := hv8.open; have hS8 := keepS4 hb8 (by assumption); obtain ⟨_, _, _, _, hz8, hS8b⟩ := hS8; obtain ⟨x0, x1, x2, e0, e1, e2⟩ := hz8.cells; obtain ⟨f0, f1, f2, hno8, hh8⟩ := id hz8)))
  all_goals
    obtain ⟨q0, q1, q2⟩ := put3_cells hz8 (.bool (mk a.neg (a.n * b.d - b.n * a.d) (a.d * b.d)).neg) (.slice y1 i1 j1) (.slice y2 i2 j2)
    go_wp2
    refine bodyPost_ret (v := .agg #[.bool (mk a.neg (a.n * b.d - b.n * a.d) (a.d * b.d)).neg, .slice y1 i1 j1, .slice y2 i2 j2]) (by unfold put3 at q0 q1 q2; simp [results, Tryz.results94, go_sem, q0, q1, q2]) rfl ⟨_, rfl, ?_, ?_⟩
    · rw [HS.out]
      exact ⟨_, _, rfl, put3_rep hz8 r8 _ _ _ (by simp) (by simp), put3_rep hz8 r9 _ _ _ (by simp) (by simp)⟩
    · exact put3_below hS8b.1 (by omega) _ _ _

set_option maxRecDepth 100000 in
set_option maxHeartbeats 1600000 in
theorem f_add_lt (v u : Value) (a b : Q) (w : World) (ha : RepF w v a) (hb : RepF w u b) (oa : a.Ok) (ob : b.Ok) (hs : ¬ a.neg = b.neg) (hge : ¬ b.n * a.d ≤ a.n * b.d) :
    Calls Tryz.prog 94 #[v, u] w fun e w' => ∃ v', e = .returned v' ∧ RepF w' v' (sumQ a b) ∧ Below w.heap.size w w' := by
  obtain ⟨a1, l1, c1, a2, l2, c2, rfl, h1, h2⟩ := ha.open
  obtain ⟨a3, l3, c3, a4, l4, c4, rfl, h3, h4⟩ := hb.open
  have m1 := mul_cp oa.n0 oa.n1 (Int.le_of_lt ob.d0) ob.d1
  have m2 := mul_cp ob.n0 ob.n1 (Int.le_of_lt oa.d0) oa.d1
  have m3 := mul_cp (Int.le_of_lt oa.d0) oa.d1 (Int.le_of_lt ob.d0) ob.d1
  have m4 : 0 < a.d * b.d := Int.mul_pos oa.d0 ob.d0
  have hT := Three.new w (.bool a.neg) (.slice a1 l1 c1) (.slice a2 l2 c2) (.bool b.neg) (.slice a3 l3 c3) (.slice a4 l4 c4) 58 58 58
  have hW : ∀ o o' o'', Below w.heap.size w (((w.alloc o).alloc o').alloc o'') := fun o o' o'' => (((Below.refl _ _).alloc (Nat.le_refl _) o).alloc (by simp) o').alloc (by simp; omega) o''
  have HS : Hid (sumQ a b = mk b.neg (b.n * a.d - a.n * b.d) (a.d * b.d)) := by unfold Hid sumQ; rw [if_neg hs, if_neg hge]
  have hbq : (a.neg == b.neg) = false := by simp [hs]
  have hlt : a.n * b.d < b.n * a.d := by omega
  have HSG : Hid (sgn3 (a.n * b.d) (b.n * a.d) = -1) := sgn3_lt hlt
  clear ha hb hs
  go_enter Tryz.func94, Tryz.ntmps94
  go_wp2_with fail
  refine (n_mul_any _ _ a.n b.d _ ⟨_, rfl, h1.below (Nat.le_refl _) (hW _ _ _)⟩ ⟨_, rfl, h4.below (Nat.le_refl _) (hW _ _ _)⟩ (lt_lim_of_cp oa.n1) (lt_lim_of_cp ob.d1)).mono ?_
  rintro e w1 ⟨v1, rfl, hv1, hb1⟩
  obtain ⟨b1, n1, k1, rfl, r1⟩ := hv1.open
  have hbC : Below w1.heap.size w1 (w1.alloc (.cells #[.slice b1 n1 k1] 56)) := (Below.refl _ _).alloc (Nat.le_refl _) _
  have hC := Bx.new w1 (.slice b1 n1 k1) 56 (by simp)
  have hT1 := hT.later hb1
  have hs1 := hT1.s
  have hT2 := hT1.later hbC
  obtain ⟨p0, p1, p2⟩ := hT2.a.cells
  obtain ⟨p3, p4, p5⟩ := hT2.b.cells
  have hbw1 := Below.next (hW _ _ _) hb1 (by simp; omega)
  have hbw2 := Below.next hbw1 hbC hbw1.size
  have r2 := r1.below (Nat.le_refl _) hbC
  clear hT hb1 hbC hv1 hbw1 r1 hT1
  go_wp2_with fail
  refine (n_mul_any _ _ b.n a.d _ ⟨_, rfl, h3.below (Nat.le_refl _) hbw2⟩ ⟨_, rfl, h2.below (Nat.le_refl _) hbw2⟩ (lt_lim_of_cp ob.n1) (lt_lim_of_cp oa.d1)).mono ?_
  rintro e w3 ⟨v3, rfl, hv3, hb3⟩
  obtain ⟨b2, n2, k2, rfl, r3⟩ := hv3.open
  have hbD : Below w3.heap.size w3 (w3.alloc (.cells #[.slice b2 n2 k2] 56)) := (Below.refl _ _).alloc (Nat.le_refl _) _
  have hD := Bx.new w3 (.slice b2 n2 k2) 56 (by simp)
  have hT4 := (hT2.later hb3).later hbD
  have hs3 := hb3.size
  simp only [World.size_alloc] at hs3
  have hC4 := (hC.later (by simp) hb3).later (by omega) hbD
  clear p0 p1 p2 p3 p4 p5
  obtain ⟨p0, p1, p2⟩ := hT4.a.cells
  obtain ⟨p3, p4, p5⟩ := hT4.b.cells
  have hbw3 := Below.next hbw2 hb3 hbw2.size
  have hbw4 := Below.next hbw3 hbD hbw3.size
  have r4 := (r2.below (Nat.le_refl _) hb3).below (Nat.le_refl _) hbD
  have r5 := r3.below (Nat.le_refl _) hbD
  clear hT2 hb3 hbD hv3 hbw3 hbw2 r3 r2 hC
  go_wp2_with fail
  refine (n_mul_any _ _ a.d b.d _ ⟨_, rfl, h2.below (Nat.le_refl _) hbw4⟩ ⟨_, rfl, h4.below (Nat.le_refl _) hbw4⟩ (lt_lim_of_cp oa.d1) (lt_lim_of_cp ob.d1)).mono ?_
  rintro e w5 ⟨v5, rfl, hv5, hb5⟩
  obtain ⟨b3, n3, k3, rfl, r6⟩ := hv5.open
  have hbE : Below w5.heap.size w5 (w5.alloc (.cells #[.slice b3 n3 k3] 56)) := (Below.refl _ _).alloc (Nat.le_refl _) _
  have hE := Bx.new w5 (.slice b3 n3 k3) 56 (by simp)
  have hT6 := (hT4.later hb5).later hbE
  have hs5 := hb5.size
  simp only [World.size_alloc] at hs5
  have hC6 := (hC4.later (by simp; omega) hb5).later (by omega) hbE
  have hD6 := (hD.later (by simp) hb5).later (by omega) hbE
  have hbw5 := Below.next hbw4 hb5 hbw4.size
  have hbw6 := Below.next hbw5 hbE hbw5.size
  have r41 := (r4.below (Nat.le_refl _) hb5).below (Nat.le_refl _) hbE
  have r51 := (r5.below (Nat.le_refl _) hb5).below (Nat.le_refl _) hbE
  have r61 := r6.below (Nat.le_refl _) hbE
  clear p0 p1 p2 p3 p4 p5
  obtain ⟨p0, p1, p2⟩ := hT6.a.cells
  obtain ⟨p3, p4, p5⟩ := hT6.b.cells
  have cC := hC6.cell
  have cD := hD6.cell
  have cE := hE.cell
  have hz := hT6.r
  have hsz := hT6.s
  clear hT4 hb5 hbE hv5 hbw5 hbw4 r6 r5 r4 hC4 hD
  go_wp2_with fail
  refine (n_compare_any _ _ (a.n * b.d) (b.n * a.d) _ ⟨_, rfl, r41⟩ ⟨_, rfl, r51⟩ (by omega) (by omega)).mono ?_
  rintro e w7 ⟨rfl, hb7⟩
  rw [HSG.out]
  have r41 := r41.below (Nat.le_refl _) hb7
  have r51 := r51.below (Nat.le_refl _) hb7
  have r61 := r61.below (Nat.le_refl _) hb7
  have hT7 := hT6.later hb7
  have hC6 := hC6.later (by simp; omega) hb7
  have hD6 := hD6.later (by simp; omega) hb7
  have hE := hE.later (by simp) hb7
  have hbw7 := Below.next hbw6 hb7 hbw6.size
  clear p0 p1 p2 p3 p4 p5 cC cD cE hz hsz hT6 hbw6 hb7
  obtain ⟨p0, p1, p2⟩ := hT7.a.cells
  obtain ⟨p3, p4, p5⟩ := hT7.b.cells
  have cC := hC6.cell
  have cD := hD6.cell
  have cE := hE.cell
  have hz := hT7.r
  have hsz := hT7.s
  have hbw6 := hbw7
  go_wp2_with fail
  clear p0 p1 p2 p3 p4 p5 h1 h2 h3 h4 hW
  have p0 := hT7.b.cells.1
  go_region_held3 (fun w' => w'.cell? ⟨w.heap.size + 1, 0, none⟩ = some (.bool b.neg) ∧ w'.cell? ⟨w1.heap.size, 0, none⟩ = some (.slice b1 n1 k1) ∧ w'.cell? ⟨w3.heap.size, 0, none⟩ = some (.slice b2 n2 k2) ∧ w'.cell? ⟨w5.heap.size, 0, none⟩ = some (.slice b3 n3 k3) ∧ Fz (w.heap.size + 1 + 1) w' ∧ Below w.heap.size w w' ∧ w.heap.size < w'.heap.size ∧ w.heap.size + 1 + 1 < w'.heap.size)
    (first | exact ⟨p0, cC, cD, cE, hz, hbw7.drew, Nat.lt_of_le_of_lt (by omega) hsz, hsz⟩ | exact keepS4 (by assumption) (by assumption) | exact keepP4 (by assumption) (by simp; omega) (by omega) (by simp) (by simp) (by simp))
    ((first | (go_at_call 140; refine (n_sub_any _ _ (b.n * a.d) (a.n * b.d) _ ⟨_, rfl, by exact r51⟩ ⟨_, rfl, by exact r41⟩ (by omega) (by omega)).mono ?_; rintro e w7 ⟨v7, rfl, hv7, hb7⟩; obtain ⟨b7, n7, k7, rfl, r7⟩ := hv7.open) | (go_at_call 51; refine (f_lowest_any _ _ _ (b.n * a.d - a.n * b.d) (a.d * b.d) _ ⟨_, rfl, by assumption⟩ ⟨_, rfl, by exact r61.below (Nat.le_refl _) (Below.undrew hb7)⟩ m4 (by omega) (by omega)).mono ?_; rintro e w8 ⟨v8, rfl, hv8, hb8⟩; obtain ⟨y1, i1, j1, y2, i2, j2, rfl, r8, r9⟩ := hv8.open; have hS8 := keepS4 hb8 (by assumption); obtain ⟨_, _, _, _, hz8, hS8b⟩ := hS8; obtain ⟨x0, x1, x2, e0, e1, e2⟩ := hz8.cells; obtain ⟨f0, f1, f2, hno8, hh8⟩ := id hz8)))
  all_goals
    obtain ⟨q0, q1, q2⟩ := put3_cells hz8 (.bool (mk b.neg (b.n * a.d - a.n * b.d) (a.d * b.d)).neg) (.slice y1 i1 j1) (.slice y2 i2 j2)
    go_wp2
    refine bodyPost_ret (v := .agg #[.bool (mk b.neg (b.n * a.d - a.n * b.d) (a.d * b.d)).neg, .slice y1 i1 j1, .slice y2 i2 j2]) (by unfold put3 at q0 q1 q2; simp [results, Tryz.results94, go_sem, q0, q1, q2]) rfl ⟨_, rfl, ?_, ?_⟩
    · rw [HS.out]
      exact ⟨_, _, rfl, put3_rep hz8 r8 _ _ _ (by simp) (by simp), put3_rep hz8 r9 _ _ _ (by simp) (by simp)⟩
    · exact put3_below hS8b.1 (by omega) _ _ _

theorem f_add_any (v u : Value) (a b : Q) (w : World) (ha : RepF w v a) (hb : RepF w u b) (oa : a.Ok) (ob : b.Ok) :
    Calls Tryz.prog 94 #[v, u] w fun e w' => ∃ v', e = .returned v' ∧ RepF w' v' (sumQ a b) ∧ Below w.heap.size w w' := by
  by_cases hs : a.neg = b.neg
  · exact f_add_same v u a b w ha hb oa ob hs
  · by_cases hge : b.n * a.d ≤ a.n * b.d
    · exact f_add_ge v u a b w ha hb oa ob hs hge
    · exact f_add_lt v u a b w ha hb oa ob hs hge
end Go.Proofs.YtknnjibmacmniaaGreatDoor
