/- abacusref: sum. -/
import Derived.Test.YtknnjibmacmniaaGreatDoorC04
namespace Go.Proofs.YtknnjibmacmniaaGreatDoor
open Go.RowKit
set_option linter.unusedVariables false
attribute [local go_sem ↓] Go.wp_at_zero Go.wp_at_succ

def cp : Int := 10 ^ 300
theorem mul_cp {x y : Int} (hx : 0 ≤ x) (hx1 : x < cp) (hy : 0 ≤ y) (hy1 : y < cp) : 20 * (x * y) < lim ∧ 0 ≤ x * y := by
  have hc : 0 < cp := pow_pos (by omega) 300
  have h0 := Int.mul_nonneg hx hy
  have h1 : x * y ≤ cp * cp := Int.mul_le_mul (by omega) (by omega) hy (by omega)
  have h2 : cp * cp = 10 ^ 600 := by unfold cp; rw [← Int.pow_add]
  have h3 : lim = 10 ^ 600 * 10 ^ 300 := by unfold lim; rw [← Int.pow_add]
  have h4 : (0 : Int) < 10 ^ 600 := pow_pos (by omega) 600
  have h5 : (10 : Int) ^ 2 ≤ 10 ^ 300 := pow_mono (by omega) (by omega)
  have h6 : (10 : Int) ^ 600 * 10 ^ 2 ≤ 10 ^ 600 * 10 ^ 300 := Int.mul_le_mul_of_nonneg_left h5 (by omega)
  rw [h3]
  rw [h2] at h1
  generalize (10 : Int) ^ 600 = p at *
  generalize (10 : Int) ^ 300 = q at *
  omega
theorem lt_lim_of_cp {x : Int} (h : x < cp) : x < lim := by
  have h3 : cp ≤ lim := pow_mono (by omega) (by omega)
  omega

def sumQ (a b : Q) : Q :=
  if a.neg = b.neg then mk a.neg (a.n * b.d + b.n * a.d) (a.d * b.d)
  else if b.n * a.d ≤ a.n * b.d then mk a.neg (a.n * b.d - b.n * a.d) (a.d * b.d)
  else mk b.neg (b.n * a.d - a.n * b.d) (a.d * b.d)

/-- what is asked of a fraction that is worked with -/
structure Q.Ok (q : Q) : Prop where
  n0 : 0 ≤ q.n
  n1 : q.n < cp
  d0 : 0 < q.d
  d1 : q.d < cp

theorem Fz.cells {g : Nat} {w : World} (h : Fz g w) : ∃ x y z, w.cell? ⟨g, 0, none⟩ = some x ∧ w.cell? ⟨g, 1, none⟩ = some y ∧ w.cell? ⟨g, 2, none⟩ = some z := by
  obtain ⟨_, _, _, _, c, T, hc, hs⟩ := h
  obtain ⟨l⟩ := c
  match l, hs with
  | [x, y, z], _ => exact ⟨x, y, z, by rw [cell_of_row _ _ _ _ _ _ hc]; rfl, by rw [cell_of_row _ _ _ _ _ _ hc]; rfl, by rw [cell_of_row _ _ _ _ _ _ hc]; rfl⟩
theorem Below.undrew {w w' : World} (h : Below w.drew.heap.size w.drew w') : Below w.heap.size w w' := ⟨h.os, h.tape, h.output, h.size, h.block⟩
theorem keepS {g B : Nat} {W w' w'' : World} {a : Addr} {x : Value} (hb : Below w'.heap.size w' w'') (h : w'.cell? a = some x ∧ Fz g w' ∧ Below B W w' ∧ B < w'.heap.size ∧ g < w'.heap.size) :
    w''.cell? a = some x ∧ Fz g w'' ∧ Below B W w'' ∧ B < w''.heap.size ∧ g < w''.heap.size := by
  obtain ⟨h1, h2, h3, h4, h5⟩ := h
  exact ⟨cell_later hb h1, h2.later h5 hb, Below.next h3 hb (Nat.le_of_lt h4), Nat.lt_of_lt_of_le h4 hb.size, Nat.lt_of_lt_of_le h5 hb.size⟩
theorem keepP {g B : Nat} {W w' : World} {a : Addr} {x : Value} {v0 v1 v2 : Value} (h : w'.cell? a = some x ∧ Fz g w' ∧ Below B W w' ∧ B < w'.heap.size ∧ g < w'.heap.size) (hne : a.block ≠ g) (hg : B ≤ g)
    (h0 : ∀ k x, v0 ≠ .int k x) (h1 : ∀ k x, v1 ≠ .int k x) (h2 : ∀ k x, v2 ≠ .int k x) :
    (put3 w' g v0 v1 v2).cell? a = some x ∧ Fz g (put3 w' g v0 v1 v2) ∧ Below B W (put3 w' g v0 v1 v2) ∧ B < (put3 w' g v0 v1 v2).heap.size ∧ g < (put3 w' g v0 v1 v2).heap.size := by
  obtain ⟨k1, k2, k3, k4, k5⟩ := h
  exact ⟨put3_cell_other _ _ _ k1 hne, put3_fz k2 _ _ _ h0 h1 h2, put3_below k3 hg _ _ _, by rw [put3_size]; exact k4, by rw [put3_size]; exact k5⟩

set_option maxRecDepth 100000 in
set_option maxHeartbeats 1600000 in
theorem r_sum_same (v u : Value) (a b : Q) (w : World) (ha : RepQ w v a) (hb : RepQ w u b) (oa : a.Ok) (ob : b.Ok) (hs : a.neg = b.neg) :
    Calls Tryz.prog 56 #[v, u] w fun e w' => ∃ v', e = .returned v' ∧ RepQ w' v' (sumQ a b) ∧ Below w.heap.size w w' := by
  obtain ⟨a1, l1, c1, a2, l2, c2, rfl, h1, h2⟩ := ha.open
  obtain ⟨a3, l3, c3, a4, l4, c4, rfl, h3, h4⟩ := hb.open
  have m1 := mul_cp oa.n0 oa.n1 (Int.le_of_lt ob.d0) ob.d1
  have m2 := mul_cp ob.n0 ob.n1 (Int.le_of_lt oa.d0) oa.d1
  have m3 := mul_cp (Int.le_of_lt oa.d0) oa.d1 (Int.le_of_lt ob.d0) ob.d1
  have m4 : 0 < a.d * b.d := Int.mul_pos oa.d0 ob.d0
  have HS : Hid (sumQ a b = mk a.neg (a.n * b.d + b.n * a.d) (a.d * b.d)) := by unfold Hid sumQ; rw [if_pos hs]
  have hW : ∀ o o' o'', Below w.heap.size w (((w.alloc o).alloc o').alloc o'') := fun o o' o'' => (((Below.refl _ _).alloc (Nat.le_refl _) o).alloc (by simp) o').alloc (by simp; omega) o''
  have hbq : (a.neg == b.neg) = true := by simp [hs]
  clear hs
  go_enter Tryz.func56, Tryz.ntmps56
  go_wp2_with fail
  refine (r_times_any _ _ a.n b.d _ (h1.below (Nat.le_refl _) (hW _ _ _)) (h4.below (Nat.le_refl _) (hW _ _ _)) (lt_lim_of_cp oa.n1) (lt_lim_of_cp ob.d1)).mono ?_
  rintro e w1 ⟨vx, rfl, hx, hb1⟩
  obtain ⟨hc1, hf1⟩ := bcell hb1
  have hw1 := Below.next (hW _ _ _) hb1 (by simp; omega)
  go_wp2_with fail
  refine (r_times_any _ _ b.n a.d _ (h3.below (Nat.le_refl _) hw1) (h2.below (Nat.le_refl _) hw1) (lt_lim_of_cp ob.n1) (lt_lim_of_cp oa.d1)).mono ?_
  rintro e w2 ⟨vy, rfl, hy, hb2⟩
  have hw2 := Below.next hw1 hb2 hw1.size
  have hb12 := Below.next hb1 hb2 hb1.size
  clear hc1 hf1
  obtain ⟨hc1, hf1⟩ := bcell hb12
  go_wp2_with fail
  refine (r_times_any _ _ a.d b.d _ (h2.below (Nat.le_refl _) hw2) (h4.below (Nat.le_refl _) hw2) (lt_lim_of_cp oa.d1) (lt_lim_of_cp ob.d1)).mono ?_
  rintro e w3 ⟨vd, rfl, hd, hb3⟩
  have hw3 := Below.next hw2 hb3 hw2.size
  have hb13 := Below.next hb12 hb3 hb12.size
  clear hc1 hf1
  obtain ⟨hc1, hf1⟩ := bcell hb13
  have hx3 := (hx.below (Nat.le_refl _) hb2).below (Nat.le_refl _) hb3
  have hy3 := hy.below (Nat.le_refl _) hb3
  go_wp2_with fail
  have hcell : w3.cell? ⟨w.heap.size, 0, none⟩ = some (.bool a.neg) := cell_later (Below.next ((((Below.refl _ _).alloc (Nat.le_refl _) _).alloc (by simp) _)) hb13 (by simp)) (cell_of_row (w.alloc (.cells #[.bool a.neg, .slice a1 l1 c1, .slice a2 l2 c2] 35)) _ 0 _ _ _ (heap_alloc_new w _))
  have hfz : Fz (w.heap.size + 1 + 1) w3 := by
    have h := Fz.new ((w.alloc (.cells #[.bool a.neg, .slice a1 l1 c1, .slice a2 l2 c2] 35)).alloc (.cells #[.bool b.neg, .slice a3 l3 c3, .slice a4 l4 c4] 35)) (.bool false) (.slice none 0 0) (.slice none 0 0) 35 (by simp) (by simp) (by simp)
    simp only [World.size_alloc] at h
    exact h.later (by simp) hb13
  have hsz : w.heap.size + 1 + 1 < w3.heap.size := by have := hb13.size; simp at this; omega
  clear hc1 hf1 hb1 hb2 hb3 hb12 hb13 hx hy hw1 hw2 h1 h2 h3 h4 ha hb
  go_region_held3 (fun w' => w'.cell? ⟨w.heap.size, 0, none⟩ = some (.bool a.neg) ∧ Fz (w.heap.size + 1 + 1) w' ∧ Below w.heap.size w w' ∧ w.heap.size < w'.heap.size ∧ w.heap.size + 1 + 1 < w'.heap.size)
    (first | exact ⟨hcell, hfz, hw3.drew, by show _ < w3.heap.size; omega, hsz⟩ | exact keepS (by assumption) (by assumption) | exact keepP (by assumption) (by simp <;> omega) (by omega) (by simp) (by simp) (by simp))
    ((first | (go_at_call 112; refine (r_plus_any _ _ (a.n * b.d) (b.n * a.d) _ (by exact hx3) (by exact hy3) (by omega) (by omega)).mono ?_; rintro e w4 ⟨v4, rfl, hr4, hb4, _⟩) | (go_at_call 28; refine (r_made_any _ _ _ (a.n * b.d + b.n * a.d) (a.d * b.d) _ (by assumption) (by exact hd.below (Nat.le_refl _) (Below.undrew hb4)) m4 (by omega) (by omega)).mono ?_; rintro e w5 ⟨v5, rfl, hr5, hb5⟩; obtain ⟨b1, n1, k1, b2, n2, k2, rfl, hr6, hr7⟩ := RepQ.open hr5; have hS5 := keepS hb5 (by assumption); obtain ⟨hS5a, hz5, hS5b⟩ := hS5; obtain ⟨x0, x1, x2, e0, e1, e2⟩ := hz5.cells; obtain ⟨f0, f1, f2, hno5, hh5⟩ := id hz5)))
  have hq := put3_cells hz5 (.bool (mk a.neg (a.n * b.d + b.n * a.d) (a.d * b.d)).neg) (.slice b1 n1 k1) (.slice b2 n2 k2)
  obtain ⟨q0, q1, q2⟩ := hq
  go_wp2
  refine bodyPost_ret (v := .agg #[.bool (mk a.neg (a.n * b.d + b.n * a.d) (a.d * b.d)).neg, .slice b1 n1 k1, .slice b2 n2 k2]) (by unfold put3 at q0 q1 q2; simp [results, Tryz.results56, go_sem, q0, q1, q2]) rfl ⟨_, rfl, ?_, ?_⟩
  · rw [HS.out]
    exact ⟨_, _, rfl, put3_rep hz5 hr6 _ _ _ (by simp) (by simp), put3_rep hz5 hr7 _ _ _ (by simp) (by simp)⟩
  · exact put3_below hS5b.1 (by omega) _ _ _

set_option maxRecDepth 100000 in
set_option maxHeartbeats 1600000 in
theorem r_sum_ge (v u : Value) (a b : Q) (w : World) (ha : RepQ w v a) (hb : RepQ w u b) (oa : a.Ok) (ob : b.Ok) (hs : ¬ a.neg = b.neg) (hge : b.n * a.d ≤ a.n * b.d) :
    Calls Tryz.prog 56 #[v, u] w fun e w' => ∃ v', e = .returned v' ∧ RepQ w' v' (sumQ a b) ∧ Below w.heap.size w w' := by
  obtain ⟨a1, l1, c1, a2, l2, c2, rfl, h1, h2⟩ := ha.open
  obtain ⟨a3, l3, c3, a4, l4, c4, rfl, h3, h4⟩ := hb.open
  have m1 := mul_cp oa.n0 oa.n1 (Int.le_of_lt ob.d0) ob.d1
  have m2 := mul_cp ob.n0 ob.n1 (Int.le_of_lt oa.d0) oa.d1
  have m3 := mul_cp (Int.le_of_lt oa.d0) oa.d1 (Int.le_of_lt ob.d0) ob.d1
  have m4 : 0 < a.d * b.d := Int.mul_pos oa.d0 ob.d0
  have HS : Hid (sumQ a b = mk a.neg (a.n * b.d - b.n * a.d) (a.d * b.d)) := by unfold Hid sumQ; rw [if_neg hs, if_pos hge]
  have hW : ∀ o o' o'', Below w.heap.size w (((w.alloc o).alloc o').alloc o'') := fun o o' o'' => (((Below.refl _ _).alloc (Nat.le_refl _) o).alloc (by simp) o').alloc (by simp; omega) o''
  have hbq : (a.neg == b.neg) = false := by simp [hs]
  have hsg : 0 ≤ sgn3 (a.n * b.d) (b.n * a.d) := by unfold sgn3; rw [if_neg (by omega)]; split <;> omega
  clear hs
  go_enter Tryz.func56, Tryz.ntmps56
  go_wp2_with fail
  refine (r_times_any _ _ a.n b.d _ (h1.below (Nat.le_refl _) (hW _ _ _)) (h4.below (Nat.le_refl _) (hW _ _ _)) (lt_lim_of_cp oa.n1) (lt_lim_of_cp ob.d1)).mono ?_
  rintro e w1 ⟨vx, rfl, hx, hb1⟩
  obtain ⟨hc1, hf1⟩ := bcell hb1
  have hw1 := Below.next (hW _ _ _) hb1 (by simp; omega)
  go_wp2_with fail
  refine (r_times_any _ _ b.n a.d _ (h3.below (Nat.le_refl _) hw1) (h2.below (Nat.le_refl _) hw1) (lt_lim_of_cp ob.n1) (lt_lim_of_cp oa.d1)).mono ?_
  rintro e w2 ⟨vy, rfl, hy, hb2⟩
  have hw2 := Below.next hw1 hb2 hw1.size
  have hb12 := Below.next hb1 hb2 hb1.size
  clear hc1 hf1
  obtain ⟨hc1, hf1⟩ := bcell hb12
  go_wp2_with fail
  refine (r_times_any _ _ a.d b.d _ (h2.below (Nat.le_refl _) hw2) (h4.below (Nat.le_refl _) hw2) (lt_lim_of_cp oa.d1) (lt_lim_of_cp ob.d1)).mono ?_
  rintro e w3 ⟨vd, rfl, hd, hb3⟩
  have hw3 := Below.next hw2 hb3 hw2.size
  have hb13 := Below.next hb12 hb3 hb12.size
  clear hc1 hf1
  obtain ⟨hc1, hf1⟩ := bcell hb13
  have hx3 := (hx.below (Nat.le_refl _) hb2).below (Nat.le_refl _) hb3
  have hy3 := hy.below (Nat.le_refl _) hb3
  go_wp2_with fail
  refine (r_compare_any _ _ (a.n * b.d) (b.n * a.d) _ hx3 hy3 (by omega) (by omega)).mono ?_
  rintro e w3' ⟨rfl, hb3'⟩
  skip
  have hw3 := Below.next hw3 hb3' hw3.size
  have hb13 := Below.next hb13 hb3' hb13.size
  have hx3 := hx3.below (Nat.le_refl _) hb3'
  have hy3 := hy3.below (Nat.le_refl _) hb3'
  have hd := hd.below (Nat.le_refl _) hb3'
  clear hc1 hf1 hb3'
  rename World => w3
  obtain ⟨hc1, hf1⟩ := bcell hb13
  go_wp2_with fail
  have hcell : w3.cell? ⟨w.heap.size, 0, none⟩ = some (.bool a.neg) := cell_later (Below.next ((((Below.refl _ _).alloc (Nat.le_refl _) _).alloc (by simp) _)) hb13 (by simp)) (cell_of_row (w.alloc (.cells #[.bool a.neg, .slice a1 l1 c1, .slice a2 l2 c2] 35)) _ 0 _ _ _ (heap_alloc_new w _))
  have hfz : Fz (w.heap.size + 1 + 1) w3 := by
    have h := Fz.new ((w.alloc (.cells #[.bool a.neg, .slice a1 l1 c1, .slice a2 l2 c2] 35)).alloc (.cells #[.bool b.neg, .slice a3 l3 c3, .slice a4 l4 c4] 35)) (.bool false) (.slice none 0 0) (.slice none 0 0) 35 (by simp) (by simp) (by simp)
    simp only [World.size_alloc] at h
    exact h.later (by simp) hb13
  have hsz : w.heap.size + 1 + 1 < w3.heap.size := by have := hb13.size; simp at this; omega
  clear hc1 hf1 hb1 hb2 hb3 hb12 hb13 hx hy hw1 hw2 h1 h2 h3 h4 ha hb
  go_region_held3 (fun w' => w'.cell? ⟨w.heap.size, 0, none⟩ = some (.bool a.neg) ∧ Fz (w.heap.size + 1 + 1) w' ∧ Below w.heap.size w w' ∧ w.heap.size < w'.heap.size ∧ w.heap.size + 1 + 1 < w'.heap.size)
    (first | exact ⟨hcell, hfz, hw3.drew, by show _ < w3.heap.size; omega, hsz⟩ | exact keepS (by assumption) (by assumption) | exact keepP (by assumption) (by simp <;> omega) (by omega) (by simp) (by simp) (by simp))
    ((first | (go_at_call 113; refine (r_minus_any _ _ (a.n * b.d) (b.n * a.d) _ (by exact hx3) (by exact hy3) (by omega) (by omega)).mono ?_; rintro e w4 ⟨v4, rfl, hr4, hb4, _⟩) | (go_at_call 28; refine (r_made_any _ _ _ (a.n * b.d - b.n * a.d) (a.d * b.d) _ (by assumption) (by exact hd.below (Nat.le_refl _) (Below.undrew hb4)) m4 (by omega) (by omega)).mono ?_; rintro e w5 ⟨v5, rfl, hr5, hb5⟩; obtain ⟨b1, n1, k1, b2, n2, k2, rfl, hr6, hr7⟩ := RepQ.open hr5; have hS5 := keepS hb5 (by assumption); obtain ⟨hS5a, hz5, hS5b⟩ := hS5; obtain ⟨x0, x1, x2, e0, e1, e2⟩ := hz5.cells; obtain ⟨f0, f1, f2, hno5, hh5⟩ := id hz5)))
  have hq := put3_cells hz5 (.bool (mk a.neg (a.n * b.d - b.n * a.d) (a.d * b.d)).neg) (.slice b1 n1 k1) (.slice b2 n2 k2)
  obtain ⟨q0, q1, q2⟩ := hq
  go_wp2
  refine bodyPost_ret (v := .agg #[.bool (mk a.neg (a.n * b.d - b.n * a.d) (a.d * b.d)).neg, .slice b1 n1 k1, .slice b2 n2 k2]) (by unfold put3 at q0 q1 q2; simp [results, Tryz.results56, go_sem, q0, q1, q2]) rfl ⟨_, rfl, ?_, ?_⟩
  · rw [HS.out]
    exact ⟨_, _, rfl, put3_rep hz5 hr6 _ _ _ (by simp) (by simp), put3_rep hz5 hr7 _ _ _ (by simp) (by simp)⟩
  · exact put3_below hS5b.1 (by omega) _ _ _

set_option maxRecDepth 100000 in
set_option maxHeartbeats 1600000 in
theorem r_sum_lt (v u : Value) (a b : Q) (w : World) (ha : RepQ w v a) (hb : RepQ w u b) (oa : a.Ok) (ob : b.Ok) (hs : ¬ a.neg = b.neg) (hge : ¬ b.n * a.d ≤ a.n * b.d) :
    Calls Tryz.prog 56 #[v, u] w fun e w' => ∃ v', e = .returned v' ∧ RepQ w' v' (sumQ a b) ∧ Below w.heap.size w w' := by
  obtain ⟨a1, l1, c1, a2, l2, c2, rfl, h1, h2⟩ := ha.open
  obtain ⟨a3, l3, c3, a4, l4, c4, rfl, h3, h4⟩ := hb.open
  have m1 := mul_cp oa.n0 oa.n1 (Int.le_of_lt ob.d0) ob.d1
  have m2 := mul_cp ob.n0 ob.n1 (Int.le_of_lt oa.d0) oa.d1
  have m3 := mul_cp (Int.le_of_lt oa.d0) oa.d1 (Int.le_of_lt ob.d0) ob.d1
  have m4 : 0 < a.d * b.d := Int.mul_pos oa.d0 ob.d0
  have HS : Hid (sumQ a b = mk b.neg (b.n * a.d - a.n * b.d) (a.d * b.d)) := by unfold Hid sumQ; rw [if_neg hs, if_neg hge]
  have hW : ∀ o o' o'', Below w.heap.size w (((w.alloc o).alloc o').alloc o'') := fun o o' o'' => (((Below.refl _ _).alloc (Nat.le_refl _) o).alloc (by simp) o').alloc (by simp; omega) o''
  have hbq : (a.neg == b.neg) = false := by simp [hs]
  have hlt : a.n * b.d < b.n * a.d := by omega
  have HSG : Hid (sgn3 (a.n * b.d) (b.n * a.d) = -1) := sgn3_lt hlt
  clear hs hge
  go_enter Tryz.func56, Tryz.ntmps56
  go_wp2_with fail
  refine (r_times_any _ _ a.n b.d _ (h1.below (Nat.le_refl _) (hW _ _ _)) (h4.below (Nat.le_refl _) (hW _ _ _)) (lt_lim_of_cp oa.n1) (lt_lim_of_cp ob.d1)).mono ?_
  rintro e w1 ⟨vx, rfl, hx, hb1⟩
  obtain ⟨hc1, hf1⟩ := bcell hb1
  have hw1 := Below.next (hW _ _ _) hb1 (by simp; omega)
  go_wp2_with fail
  refine (r_times_any _ _ b.n a.d _ (h3.below (Nat.le_refl _) hw1) (h2.below (Nat.le_refl _) hw1) (lt_lim_of_cp ob.n1) (lt_lim_of_cp oa.d1)).mono ?_
  rintro e w2 ⟨vy, rfl, hy, hb2⟩
  have hw2 := Below.next hw1 hb2 hw1.size
  have hb12 := Below.next hb1 hb2 hb1.size
  clear hc1 hf1
  obtain ⟨hc1, hf1⟩ := bcell hb12
  go_wp2_with fail
  refine (r_times_any _ _ a.d b.d _ (h2.below (Nat.le_refl _) hw2) (h4.below (Nat.le_refl _) hw2) (lt_lim_of_cp oa.d1) (lt_lim_of_cp ob.d1)).mono ?_
  rintro e w3 ⟨vd, rfl, hd, hb3⟩
  have hw3 := Below.next hw2 hb3 hw2.size
  have hb13 := Below.next hb12 hb3 hb12.size
  clear hc1 hf1
  obtain ⟨hc1, hf1⟩ := bcell hb13
  have hx3 := (hx.below (Nat.le_refl _) hb2).below (Nat.le_refl _) hb3
  have hy3 := hy.below (Nat.le_refl _) hb3
  go_wp2_with fail
  refine (r_compare_any _ _ (a.n * b.d) (b.n * a.d) _ hx3 hy3 (by omega) (by omega)).mono ?_
  rintro e w3' ⟨rfl, hb3'⟩
  rw [HSG.out]
  have hw3 := Below.next hw3 hb3' hw3.size
  have hb13 := Below.next hb13 hb3' hb13.size
  have hx3 := hx3.below (Nat.le_refl _) hb3'
  have hy3 := hy3.below (Nat.le_refl _) hb3'
  have hd := hd.below (Nat.le_refl _) hb3'
  clear hc1 hf1 hb3'
  rename World => w3
  obtain ⟨hc1, hf1⟩ := bcell hb13
  go_wp2_with fail
  have hcell : w3.cell? ⟨w.heap.size + 1, 0, none⟩ = some (.bool b.neg) := by
    have h := cell_of_row ((w.alloc (.cells #[.bool a.neg, .slice a1 l1 c1, .slice a2 l2 c2] 35)).alloc (.cells #[.bool b.neg, .slice a3 l3 c3, .slice a4 l4 c4] 35)) _ 0 _ _ _ (heap_alloc_new _ _)
    simp only [World.size_alloc] at h
    exact cell_later (Below.next ((Below.refl _ _).alloc (Nat.le_refl _) _) hb13 (by simp)) h
  have hfz : Fz (w.heap.size + 1 + 1) w3 := by
    have h := Fz.new ((w.alloc (.cells #[.bool a.neg, .slice a1 l1 c1, .slice a2 l2 c2] 35)).alloc (.cells #[.bool b.neg, .slice a3 l3 c3, .slice a4 l4 c4] 35)) (.bool false) (.slice none 0 0) (.slice none 0 0) 35 (by simp) (by simp) (by simp)
    simp only [World.size_alloc] at h
    exact h.later (by simp) hb13
  have hsz : w.heap.size + 1 + 1 < w3.heap.size := by have := hb13.size; simp at this; omega
  clear hc1 hf1 hb1 hb2 hb3 hb12 hb13 hx hy hw1 hw2 h1 h2 h3 h4 ha hb
  go_region_held3 (fun w' => w'.cell? ⟨w.heap.size + 1, 0, none⟩ = some (.bool b.neg) ∧ Fz (w.heap.size + 1 + 1) w' ∧ Below w.heap.size w w' ∧ w.heap.size < w'.heap.size ∧ w.heap.size + 1 + 1 < w'.heap.size)
    (first | exact ⟨hcell, hfz, hw3.drew, by show _ < w3.heap.size; omega, hsz⟩ | exact keepS (by assumption) (by assumption) | exact keepP (by assumption) (by simp <;> omega) (by omega) (by simp) (by simp) (by simp))
    ((first | (go_at_call 113; refine (r_minus_any _ _ (b.n * a.d) (a.n * b.d) _ (by exact hy3) (by exact hx3) (by omega) (by omega)).mono ?_; rintro e w4 ⟨v4, rfl, hr4, hb4, _⟩) | (go_at_call 28; refine (r_made_any _ _ _ (b.n * a.d - a.n * b.d) (a.d * b.d) _ (by assumption) (by exact hd.below (Nat.le_refl _) (Below.undrew hb4)) m4 (by omega) (by omega)).mono ?_; rintro e w5 ⟨v5, rfl, hr5, hb5⟩; obtain ⟨b1, n1, k1, b2, n2, k2, rfl, hr6, hr7⟩ := RepQ.open hr5; have hS5 := keepS hb5 (by assumption); obtain ⟨hS5a, hz5, hS5b⟩ := hS5; obtain ⟨x0, x1, x2, e0, e1, e2⟩ := hz5.cells; obtain ⟨f0, f1, f2, hno5, hh5⟩ := id hz5)))
  have hq := put3_cells hz5 (.bool (mk b.neg (b.n * a.d - a.n * b.d) (a.d * b.d)).neg) (.slice b1 n1 k1) (.slice b2 n2 k2)
  obtain ⟨q0, q1, q2⟩ := hq
  go_wp2
  refine bodyPost_ret (v := .agg #[.bool (mk b.neg (b.n * a.d - a.n * b.d) (a.d * b.d)).neg, .slice b1 n1 k1, .slice b2 n2 k2]) (by unfold put3 at q0 q1 q2; simp [results, Tryz.results56, go_sem, q0, q1, q2]) rfl ⟨_, rfl, ?_, ?_⟩
  · rw [HS.out]
    exact ⟨_, _, rfl, put3_rep hz5 hr6 _ _ _ (by simp) (by simp), put3_rep hz5 hr7 _ _ _ (by simp) (by simp)⟩
  · exact put3_below hS5b.1 (by omega) _ _ _

theorem r_sum_any (v u : Value) (a b : Q) (w : World) (ha : RepQ w v a) (hb : RepQ w u b) (oa : a.Ok) (ob : b.Ok) :
    Calls Tryz.prog 56 #[v, u] w fun e w' => ∃ v', e = .returned v' ∧ RepQ w' v' (sumQ a b) ∧ Below w.heap.size w w' := by
  by_cases hs : a.neg = b.neg
  · exact r_sum_same v u a b w ha hb oa ob hs
  · by_cases hge : b.n * a.d ≤ a.n * b.d
    · exact r_sum_ge v u a b w ha hb oa ob hs hge
    · exact r_sum_lt v u a b w ha hb oa ob hs hge
end Go.Proofs.YtknnjibmacmniaaGreatDoor

/- abacusref: product, less. -/
namespace Go.Proofs.YtknnjibmacmniaaGreatDoor
open Go.RowKit
set_option linter.unusedVariables false
attribute [local go_sem ↓] Go.wp_at_zero Go.wp_at_succ

theorem keepS6 {g B : Nat} {W w' w'' : World} {a0 a1 a2 a3 a4 a5 : Addr} {x0 x1 x2 x3 x4 x5 : Value} (hb : Below w'.heap.size w' w'') (h : w'.cell? a0 = some x0 ∧ w'.cell? a1 = some x1 ∧ w'.cell? a2 = some x2 ∧ w'.cell? a3 = some x3 ∧ w'.cell? a4 = some x4 ∧ w'.cell? a5 = some x5 ∧ Fz g w' ∧ Below B W w' ∧ B < w'.heap.size ∧ g < w'.heap.size) : w''.cell? a0 = some x0 ∧ w''.cell? a1 = some x1 ∧ w''.cell? a2 = some x2 ∧ w''.cell? a3 = some x3 ∧ w''.cell? a4 = some x4 ∧ w''.cell? a5 = some x5 ∧ Fz g w'' ∧ Below B W w'' ∧ B < w''.heap.size ∧ g < w''.heap.size := by
  obtain ⟨h0, h1, h2, h3, h4, h5, k2, k3, k4, k5⟩ := h
  exact ⟨cell_later hb h0, cell_later hb h1, cell_later hb h2, cell_later hb h3, cell_later hb h4, cell_later hb h5, k2.later k5 hb, Below.next k3 hb (Nat.le_of_lt k4), Nat.lt_of_lt_of_le k4 hb.size, Nat.lt_of_lt_of_le k5 hb.size⟩
theorem keepP6 {g B : Nat} {W w' : World} {a0 a1 a2 a3 a4 a5 : Addr} {x0 x1 x2 x3 x4 x5 v0 v1 v2 : Value} (h : w'.cell? a0 = some x0 ∧ w'.cell? a1 = some x1 ∧ w'.cell? a2 = some x2 ∧ w'.cell? a3 = some x3 ∧ w'.cell? a4 = some x4 ∧ w'.cell? a5 = some x5 ∧ Fz g w' ∧ Below B W w' ∧ B < w'.heap.size ∧ g < w'.heap.size) (hne : a0.block ≠ g ∧ a1.block ≠ g ∧ a2.block ≠ g ∧ a3.block ≠ g ∧ a4.block ≠ g ∧ a5.block ≠ g) (hg : B ≤ g)
    (z0 : ∀ k x, v0 ≠ .int k x) (z1 : ∀ k x, v1 ≠ .int k x) (z2 : ∀ k x, v2 ≠ .int k x) : (put3 w' g v0 v1 v2).cell? a0 = some x0 ∧ (put3 w' g v0 v1 v2).cell? a1 = some x1 ∧ (put3 w' g v0 v1 v2).cell? a2 = some x2 ∧ (put3 w' g v0 v1 v2).cell? a3 = some x3 ∧ (put3 w' g v0 v1 v2).cell? a4 = some x4 ∧ (put3 w' g v0 v1 v2).cell? a5 = some x5 ∧ Fz g (put3 w' g v0 v1 v2) ∧ Below B W (put3 w' g v0 v1 v2) ∧ B < (put3 w' g v0 v1 v2).heap.size ∧ g < (put3 w' g v0 v1 v2).heap.size := by
  obtain ⟨h0, h1, h2, h3, h4, h5, k2, k3, k4, k5⟩ := h
  obtain ⟨n0, n1, n2, n3, n4, n5⟩ := hne
  exact ⟨put3_cell_other _ _ _ h0 n0, put3_cell_other _ _ _ h1 n1, put3_cell_other _ _ _ h2 n2, put3_cell_other _ _ _ h3 n3, put3_cell_other _ _ _ h4 n4, put3_cell_other _ _ _ h5 n5, put3_fz k2 _ _ _ z0 z1 z2, put3_below k3 hg _ _ _, by rw [put3_size]; exact k4, by rw [put3_size]; exact k5⟩

/-- a box of three cells -/
def Box (w : World) (g : Nat) (v0 v1 v2 : Value) : Prop := ∃ T, w.heap[g]? = some (.cells #[v0, v1, v2] T (0, 0))
theorem Box.new (w : World) (v0 v1 v2 : Value) (T : Nat) : Box (w.alloc (.cells #[v0, v1, v2] T)) w.heap.size v0 v1 v2 := ⟨T, heap_alloc_new w _⟩
theorem Box.below {w w' : World} {g B : Nat} {v0 v1 v2 : Value} (h : Box w g v0 v1 v2) (hg : g < B) (hb : Below B w w') : Box w' g v0 v1 v2 := by
  obtain ⟨T, h⟩ := h
  exact ⟨T, (hb.block g hg).trans h⟩
theorem Box.alloc {w : World} {g : Nat} {v0 v1 v2 : Value} (h : Box w g v0 v1 v2) (hg : g < w.heap.size) (o : Obj) : Box (w.alloc o) g v0 v1 v2 := h.below hg ((Below.refl _ _).alloc (Nat.le_refl _) o)
theorem Box.cells {w : World} {g : Nat} {v0 v1 v2 : Value} (h : Box w g v0 v1 v2) : w.cell? ⟨g, 0, none⟩ = some v0 ∧ w.cell? ⟨g, 1, none⟩ = some v1 ∧ w.cell? ⟨g, 2, none⟩ = some v2 := by
  obtain ⟨T, hh⟩ := h
  exact ⟨by rw [cell_of_row _ _ _ _ _ _ hh]; rfl, by rw [cell_of_row _ _ _ _ _ _ hh]; rfl, by rw [cell_of_row _ _ _ _ _ _ hh]; rfl⟩
/-- two boxes and a third -/
theorem boxes3 (w : World) (u0 u1 u2 v0 v1 v2 : Value) (T T' : Nat) (o : Obj) : Box (((w.alloc (.cells #[u0, u1, u2] T)).alloc (.cells #[v0, v1, v2] T')).alloc o) w.heap.size u0 u1 u2 ∧ Box (((w.alloc (.cells #[u0, u1, u2] T)).alloc (.cells #[v0, v1, v2] T')).alloc o) (w.heap.size + 1) v0 v1 v2 := by
  refine ⟨((Box.new w u0 u1 u2 T).alloc (by simp) _).alloc (by simp; omega) _, ?_⟩
  have h := Box.new (w.alloc (.cells #[u0, u1, u2] T)) v0 v1 v2 T'
  simp only [World.size_alloc] at h
  exact h.alloc (by simp) _
theorem boxes2 (w : World) (u0 u1 u2 v0 v1 v2 : Value) (T T' : Nat) : Box ((w.alloc (.cells #[u0, u1, u2] T)).alloc (.cells #[v0, v1, v2] T')) w.heap.size u0 u1 u2 ∧ Box ((w.alloc (.cells #[u0, u1, u2] T)).alloc (.cells #[v0, v1, v2] T')) (w.heap.size + 1) v0 v1 v2 := by
  refine ⟨(Box.new w u0 u1 u2 T).alloc (by simp) _, ?_⟩
  have h := Box.new (w.alloc (.cells #[u0, u1, u2] T)) v0 v1 v2 T'
  simp only [World.size_alloc] at h
  exact h

def mulQ (a b : Q) : Q := mk (!(a.neg == b.neg)) (a.n * b.n) (a.d * b.d)

set_option maxRecDepth 100000 in
set_option maxHeartbeats 1600000 in
theorem r_product_any (v u : Value) (a b : Q) (w : World) (ha : RepQ w v a) (hb : RepQ w u b) (oa : a.Ok) (ob : b.Ok) :
    Calls Tryz.prog 58 #[v, u] w fun e w' => ∃ v', e = .returned v' ∧ RepQ w' v' (mulQ a b) ∧ Below w.heap.size w w' := by
  obtain ⟨a1, l1, c1, a2, l2, c2, rfl, h1, h2⟩ := ha.open
  obtain ⟨a3, l3, c3, a4, l4, c4, rfl, h3, h4⟩ := hb.open
  have m1 := mul_cp oa.n0 oa.n1 ob.n0 ob.n1
  have m3 := mul_cp (Int.le_of_lt oa.d0) oa.d1 (Int.le_of_lt ob.d0) ob.d1
  have m4 : 0 < a.d * b.d := Int.mul_pos oa.d0 ob.d0
  have hW : ∀ o o' o'', Below w.heap.size w (((w.alloc o).alloc o').alloc o'') := fun o o' o'' => (((Below.refl _ _).alloc (Nat.le_refl _) o).alloc (by simp) o').alloc (by simp; omega) o''
  have hfz : Fz (w.heap.size + 1 + 1) (((w.alloc (.cells #[.bool a.neg, .slice a1 l1 c1, .slice a2 l2 c2] 35)).alloc (.cells #[.bool b.neg, .slice a3 l3 c3, .slice a4 l4 c4] 35)).alloc (.cells #[.bool false, .slice none 0 0, .slice none 0 0] 35)) := by
    have h := Fz.new ((w.alloc (.cells #[.bool a.neg, .slice a1 l1 c1, .slice a2 l2 c2] 35)).alloc (.cells #[.bool b.neg, .slice a3 l3 c3, .slice a4 l4 c4] 35)) (.bool false) (.slice none 0 0) (.slice none 0 0) 35 (by simp) (by simp) (by simp)
    simp only [World.size_alloc] at h
    exact h
  rw [show mulQ a b = mk (!(a.neg == b.neg)) (a.n * b.n) (a.d * b.d) from rfl]
  go_enter Tryz.func58, Tryz.ntmps58
  go_wp2_with fail
  go_region_held3 (fun w' => w'.cell? ⟨w.heap.size, 0, none⟩ = some (.bool a.neg) ∧ w'.cell? ⟨w.heap.size, 1, none⟩ = some (.slice a1 l1 c1) ∧ w'.cell? ⟨w.heap.size, 2, none⟩ = some (.slice a2 l2 c2) ∧ w'.cell? ⟨w.heap.size + 1, 0, none⟩ = some (.bool b.neg) ∧ w'.cell? ⟨w.heap.size + 1, 1, none⟩ = some (.slice a3 l3 c3) ∧ w'.cell? ⟨w.heap.size + 1, 2, none⟩ = some (.slice a4 l4 c4) ∧ Fz (w.heap.size + 1 + 1) w' ∧ Below w.heap.size w w' ∧ w.heap.size < w'.heap.size ∧ w.heap.size + 1 + 1 < w'.heap.size)
    (first | exact ⟨(boxes3 w _ _ _ _ _ _ _ _ _).1.cells.1, (boxes3 w _ _ _ _ _ _ _ _ _).1.cells.2.1, (boxes3 w _ _ _ _ _ _ _ _ _).1.cells.2.2, (boxes3 w _ _ _ _ _ _ _ _ _).2.cells.1, (boxes3 w _ _ _ _ _ _ _ _ _).2.cells.2.1, (boxes3 w _ _ _ _ _ _ _ _ _).2.cells.2.2, hfz, (hW _ _ _).drew, by simp; omega, by simp⟩ | exact keepS6 (by assumption) (by assumption) | exact keepP6 (by assumption) (by simp <;> omega) (by omega) (by simp) (by simp) (by simp))
    ((first | (go_at_call_of 111 (Value.slice a1 l1 c1); refine (r_times_any _ _ a.n b.n _ (h1.below (Nat.le_refl _) (by first | exact (hW _ _ _).drew | exact Below.next (hW _ _ _).drew (by assumption) (by simp; omega))) (h3.below (Nat.le_refl _) (by first | exact (hW _ _ _).drew | exact Below.next (hW _ _ _).drew (by assumption) (by simp; omega))) (lt_lim_of_cp oa.n1) (lt_lim_of_cp ob.n1)).mono ?_; rintro e wN ⟨vN, rfl, hrN, hbN⟩; try (have hrD' := hrD.below (Nat.le_refl _) hbN)) | (go_at_call_of 111 (Value.slice a2 l2 c2); refine (r_times_any _ _ a.d b.d _ (h2.below (Nat.le_refl _) (by first | exact (hW _ _ _).drew | exact Below.next (hW _ _ _).drew (by assumption) (by simp; omega))) (h4.below (Nat.le_refl _) (by first | exact (hW _ _ _).drew | exact Below.next (hW _ _ _).drew (by assumption) (by simp; omega))) (lt_lim_of_cp oa.d1) (lt_lim_of_cp ob.d1)).mono ?_; rintro e wD ⟨vD, rfl, hrD, hbD⟩; try (have hrN' := hrN.below (Nat.le_refl _) hbD)) | (go_at_call 28; refine (r_made_any _ _ _ (a.n * b.n) (a.d * b.d) _ (by assumption) (by assumption) m4 (by omega) (by omega)).mono ?_; rintro e w5 ⟨v5, rfl, hr5, hb5⟩; obtain ⟨b1, n1, k1, b2, n2, k2, rfl, hr6, hr7⟩ := RepQ.open hr5; have hS5 := keepS6 hb5 (by assumption); obtain ⟨_, _, _, _, _, _, hz5, hS5b⟩ := hS5; obtain ⟨x0, x1, x2, e0, e1, e2⟩ := hz5.cells; obtain ⟨f0, f1, f2, hno5, hh5⟩ := id hz5)))
  all_goals
    have hq := put3_cells hz5 (.bool (mk (!(a.neg == b.neg)) (a.n * b.n) (a.d * b.d)).neg) (.slice b1 n1 k1) (.slice b2 n2 k2)
    obtain ⟨q0, q1, q2⟩ := hq
    clear ha hb h1 h2 h3 h4 hfz hrN hrD hr5
    go_wp2
    refine bodyPost_ret (v := .agg #[.bool (mk (!(a.neg == b.neg)) (a.n * b.n) (a.d * b.d)).neg, .slice b1 n1 k1, .slice b2 n2 k2]) (by unfold put3 at q0 q1 q2; simp [results, Tryz.results58, go_sem, q0, q1, q2]) rfl ⟨_, rfl, ?_, ?_⟩
    · exact ⟨_, _, rfl, put3_rep hz5 hr6 _ _ _ (by simp) (by simp), put3_rep hz5 hr7 _ _ _ (by simp) (by simp)⟩
    · exact put3_below hS5b.1 (by omega) _ _ _
end Go.Proofs.YtknnjibmacmniaaGreatDoor
