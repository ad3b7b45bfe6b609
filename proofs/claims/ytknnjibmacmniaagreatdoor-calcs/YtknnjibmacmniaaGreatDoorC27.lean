/- fraction: Subtract, Divide, Compare. -/
import Derived.Test.YtknnjibmacmniaaGreatDoorC26
import Derived.Test.YtknnjibmacmniaaGreatDoorC07
namespace Go.Proofs.YtknnjibmacmniaaGreatDoor
open Go.RowKit
set_option linter.unusedVariables false
attribute [local go_sem ↓] Go.wp_at_zero Go.wp_at_succ

set_option maxRecDepth 100000 in
set_option maxHeartbeats 1600000 in
theorem f_subtract_any (v u : Value) (a b : Q) (w : World) (ha : RepF w v a) (hb : RepF w u b) (oa : a.Ok) (ob : b.Ok) :
    Calls Tryz.prog 95 #[v, u] w fun e w' => ∃ v', e = .returned v' ∧ RepF w' v' (sumQ a (negQ b)) ∧ Below w.heap.size w w' := by
  have ha' := ha
  have hb' := hb
  obtain ⟨a1, l1, c1, a2, l2, c2, rfl, h1, h2⟩ := ha.open
  obtain ⟨a3, l3, c3, a4, l4, c4, rfl, h3, h4⟩ := hb.open
  have hW : ∀ o o' o'', Below w.heap.size w (((w.alloc o).alloc o').alloc o'') := fun o o' o'' => (((Below.refl _ _).alloc (Nat.le_refl _) o).alloc (by simp) o').alloc (by simp; omega) o''
  have hT := Three.new w (.bool a.neg) (.slice a1 l1 c1) (.slice a2 l2 c2) (.bool b.neg) (.slice a3 l3 c3) (.slice a4 l4 c4) 58 58 58
  have onb := ob.negQ
  obtain ⟨p0, p1, p2⟩ := hT.a.cells
  obtain ⟨p3, p4, p5⟩ := hT.b.cells
  obtain ⟨x, HX⟩ : ∃ x, Hid (sumQ a (negQ b) = x) := ⟨_, rfl⟩
  rw [HX.out]
  clear ha hb
  go_enter Tryz.func95, Tryz.ntmps95
  go_wp2_with fail
  go_region_held3 (fun w' => w'.cell? ⟨w.heap.size, 0, none⟩ = some (.bool a.neg) ∧ w'.cell? ⟨w.heap.size, 1, none⟩ = some (.slice a1 l1 c1) ∧ w'.cell? ⟨w.heap.size, 2, none⟩ = some (.slice a2 l2 c2) ∧ w'.cell? ⟨w.heap.size + 1, 0, none⟩ = some (.bool b.neg) ∧ w'.cell? ⟨w.heap.size + 1, 1, none⟩ = some (.slice a3 l3 c3) ∧ w'.cell? ⟨w.heap.size + 1, 2, none⟩ = some (.slice a4 l4 c4) ∧ Fz (w.heap.size + 1 + 1) w' ∧ Below w.heap.size w w' ∧ w.heap.size < w'.heap.size ∧ w.heap.size + 1 + 1 < w'.heap.size)
    (first | exact ⟨p0, p1, p2, p3, p4, p5, hT.r, (hW _ _ _).drew, by simp; omega, hT.s⟩ | exact keepS6 (by assumption) (by assumption) | exact keepP6 (by assumption) (by simp <;> omega) (by omega) (by simp) (by simp) (by simp))
    ((first | (go_at_call 141; refine (f_negate_any _ b _ (hb'.below (Nat.le_refl _) (hW _ _ _).drew)).mono ?_; rintro e w1 ⟨v1, rfl, hr1, hb1⟩; obtain ⟨d1, g1, s1, d2, g2, s2, rfl, hr2, hr3⟩ := hr1.open) | (go_at_call 94; refine (f_add_any _ _ a (negQ b) _ (ha'.below (Nat.le_refl _) (Below.next (hW _ _ _).drew hb1 (by simp; omega))) hr1 oa onb).mono ?_; rw [HX.out]; rintro e w8 ⟨v8, rfl, hv8, hb8⟩; obtain ⟨y1, i1, j1, y2, i2, j2, rfl, r8, r9⟩ := hv8.open; have hS8 := keepS6 hb8 (by assumption); obtain ⟨_, _, _, _, _, _, hz8, hS8b⟩ := hS8; obtain ⟨x0, x1, x2, e0, e1, e2⟩ := hz8.cells; obtain ⟨f0, f1, f2, hno8, hh8⟩ := id hz8)))
  all_goals
    obtain ⟨q0, q1, q2⟩ := put3_cells hz8 (.bool x.neg) (.slice y1 i1 j1) (.slice y2 i2 j2)
    go_wp2
    refine bodyPost_ret (v := .agg #[.bool x.neg, .slice y1 i1 j1, .slice y2 i2 j2]) (by unfold put3 at q0 q1 q2; simp [results, Tryz.results95, go_sem, q0, q1, q2]) rfl ⟨_, rfl, ?_, ?_⟩
    · exact ⟨_, _, rfl, put3_rep hz8 r8 _ _ _ (by simp) (by simp), put3_rep hz8 r9 _ _ _ (by simp) (by simp)⟩
    · exact put3_below hS8b.1 (by omega) _ _ _

set_option maxRecDepth 100000 in
set_option maxHeartbeats 1600000 in
theorem f_divide_any (v u : Value) (a b : Q) (w : World) (ha : RepF w v a) (hb : RepF w u b) (oa : a.Ok) (onb : (invQ b).Ok) :
    Calls Tryz.prog 143 #[v, u] w fun e w' => ∃ v', e = .returned v' ∧ RepF w' v' (mulQ a (invQ b)) ∧ Below w.heap.size w w' := by
  have ha' := ha
  have hb' := hb
  obtain ⟨a1, l1, c1, a2, l2, c2, rfl, h1, h2⟩ := ha.open
  obtain ⟨a3, l3, c3, a4, l4, c4, rfl, h3, h4⟩ := hb.open
  have hW : ∀ o o' o'', Below w.heap.size w (((w.alloc o).alloc o').alloc o'') := fun o o' o'' => (((Below.refl _ _).alloc (Nat.le_refl _) o).alloc (by simp) o').alloc (by simp; omega) o''
  have hT := Three.new w (.bool a.neg) (.slice a1 l1 c1) (.slice a2 l2 c2) (.bool b.neg) (.slice a3 l3 c3) (.slice a4 l4 c4) 58 58 58
  obtain ⟨p0, p1, p2⟩ := hT.a.cells
  obtain ⟨p3, p4, p5⟩ := hT.b.cells
  obtain ⟨x, HX⟩ : ∃ x, Hid (mulQ a (invQ b) = x) := ⟨_, rfl⟩
  rw [HX.out]
  clear ha hb
  go_enter Tryz.func143, Tryz.ntmps143
  go_wp2_with fail
  go_region_held3 (fun w' => w'.cell? ⟨w.heap.size, 0, none⟩ = some (.bool a.neg) ∧ w'.cell? ⟨w.heap.size, 1, none⟩ = some (.slice a1 l1 c1) ∧ w'.cell? ⟨w.heap.size, 2, none⟩ = some (.slice a2 l2 c2) ∧ w'.cell? ⟨w.heap.size + 1, 0, none⟩ = some (.bool b.neg) ∧ w'.cell? ⟨w.heap.size + 1, 1, none⟩ = some (.slice a3 l3 c3) ∧ w'.cell? ⟨w.heap.size + 1, 2, none⟩ = some (.slice a4 l4 c4) ∧ Fz (w.heap.size + 1 + 1) w' ∧ Below w.heap.size w w' ∧ w.heap.size < w'.heap.size ∧ w.heap.size + 1 + 1 < w'.heap.size)
    (first | exact ⟨p0, p1, p2, p3, p4, p5, hT.r, (hW _ _ _).drew, by simp; omega, hT.s⟩ | exact keepS6 (by assumption) (by assumption) | exact keepP6 (by assumption) (by simp <;> omega) (by omega) (by simp) (by simp) (by simp))
    ((first | (go_at_call 146; refine (f_invert_any _ b _ (hb'.below (Nat.le_refl _) (hW _ _ _).drew)).mono ?_; rintro e w1 ⟨v1, rfl, hr1, hb1⟩; obtain ⟨d1, g1, s1, d2, g2, s2, rfl, hr2, hr3⟩ := hr1.open) | (go_at_call 96; refine (f_mul_any _ _ a (invQ b) _ (ha'.below (Nat.le_refl _) (Below.next (hW _ _ _).drew hb1 (by simp; omega))) hr1 oa onb).mono ?_; rw [HX.out]; rintro e w8 ⟨v8, rfl, hv8, hb8⟩; obtain ⟨y1, i1, j1, y2, i2, j2, rfl, r8, r9⟩ := hv8.open; have hS8 := keepS6 hb8 (by assumption); obtain ⟨_, _, _, _, _, _, hz8, hS8b⟩ := hS8; obtain ⟨x0, x1, x2, e0, e1, e2⟩ := hz8.cells; obtain ⟨f0, f1, f2, hno8, hh8⟩ := id hz8)))
  all_goals
    obtain ⟨q0, q1, q2⟩ := put3_cells hz8 (.bool x.neg) (.slice y1 i1 j1) (.slice y2 i2 j2)
    go_wp2
    refine bodyPost_ret (v := .agg #[.bool x.neg, .slice y1 i1 j1, .slice y2 i2 j2]) (by unfold put3 at q0 q1 q2; simp [results, Tryz.results143, go_sem, q0, q1, q2]) rfl ⟨_, rfl, ?_, ?_⟩
    · exact ⟨_, _, rfl, put3_rep hz8 r8 _ _ _ (by simp) (by simp), put3_rep hz8 r9 _ _ _ (by simp) (by simp)⟩
    · exact put3_below hS8b.1 (by omega) _ _ _

set_option maxRecDepth 100000 in
set_option maxHeartbeats 800000 in
theorem f_compare_any (v u : Value) (a b : Q) (w : World) (ha : RepF w v a) (hb : RepF w u b) (oa : a.Ok) (ob : b.Ok) :
    Calls Tryz.prog 101 #[v, u] w fun e w' => e = .returned (.int .i64 (sgQ (sumQ a (negQ b)))) ∧ Below w.heap.size w w' := by
  have ha' := ha
  have hb' := hb
  obtain ⟨a1, l1, c1, a2, l2, c2, rfl, h1, h2⟩ := ha.open
  obtain ⟨a3, l3, c3, a4, l4, c4, rfl, h3, h4⟩ := hb.open
  have hW : ∀ o o', Below w.heap.size w ((w.alloc o).alloc o') := fun o o' => ((Below.refl _ _).alloc (Nat.le_refl _) o).alloc (by simp) o'
  obtain ⟨x, HX⟩ : ∃ x, Hid (sumQ a (negQ b) = x) := ⟨_, rfl⟩
  rw [HX.out]
  go_enter Tryz.func101, Tryz.ntmps101
  go_wp2_with fail
  refine (f_subtract_any _ _ a b _ (ha'.below (Nat.le_refl _) (hW _ _)) (hb'.below (Nat.le_refl _) (hW _ _)) oa ob).mono ?_
  rw [HX.out]
  rintro e w1 ⟨v1, rfl, hv1, hb1⟩
  have hbw1 := Below.next (hW _ _) hb1 (by simp; omega)
  go_wp2_with fail
  refine (f_sign_any _ x _ hv1).mono ?_
  rintro e w2 ⟨rfl, hb2⟩
  have hbw2 := Below.next hbw1 hb2 hbw1.size
  go_wp2
  go_ret
  exact ⟨rfl, hbw2⟩
end Go.Proofs.YtknnjibmacmniaaGreatDoor

/- fraction: Left. -/
namespace Go.Proofs.YtknnjibmacmniaaGreatDoor
open Go.RowKit
set_option linter.unusedVariables false
attribute [local go_sem ↓] Go.wp_at_zero Go.wp_at_succ

theorem Box.put {w : World} {g : Nat} {v0 v1 v2 : Value} (h : Box w g v0 v1 v2) (a : Addr) (x : Value) (hne : g ≠ a.block) : Box (w.setCell a x) g v0 v1 v2 := by
  obtain ⟨T, hh⟩ := h
  exact ⟨T, (Below.heap_setCell w a x g hne).trans hh⟩
def leftQ (a b : Q) : Q := mk a.neg (if ¬ b.n % a.n = 0 ∧ ¬ a.neg = b.neg then a.n - b.n % a.n else b.n % a.n) 1

set_option maxRecDepth 100000 in
set_option maxHeartbeats 1600000 in
theorem f_left_zero (v u : Value) (a b : Q) (w : World) (ha : RepF w v a) (hb : RepF w u b) (oa : a.Ok) (ob : b.Ok) (hp : 0 < a.n) (hz : b.n % a.n = 0) :
    Calls Tryz.prog 144 #[v, u] w fun e w' => ∃ v', e = .returned v' ∧ RepF w' v' (leftQ a b) ∧ Below w.heap.size w w' := by
  obtain ⟨a1, l1, c1, a2, l2, c2, rfl, h1, h2⟩ := ha.open
  obtain ⟨a3, l3, c3, a4, l4, c4, rfl, h3, h4⟩ := hb.open
  have hT := Three.new w (.bool a.neg) (.slice a1 l1 c1) (.slice a2 l2 c2) (.bool b.neg) (.slice a3 l3 c3) (.slice a4 l4 c4) 58 58 58
  have hW : ∀ o o' o'', Below w.heap.size w (((w.alloc o).alloc o').alloc o'') := fun o o' o'' => (((Below.refl _ _).alloc (Nat.le_refl _) o).alloc (by simp) o').alloc (by simp; omega) o''
  have hm0 := Int.emod_nonneg b.n (show a.n ≠ 0 by omega)
  have hm1 := Int.emod_lt_of_pos b.n hp
  have hal := lt_lim_of_cp oa.n1
  have h1l := lt_lim_of_cp one_lt_cp
  have HL : Hid (leftQ a b = mk a.neg (b.n % a.n) 1) := by unfold Hid leftQ; rw [if_neg (fun h => h.1 hz)]
  have HZ : Hid (decide (b.n % a.n = 0) = true) := decide_eq_true hz
  clear hz
  obtain ⟨r, HR⟩ : ∃ r, Hid (b.n % a.n = r) := ⟨_, rfl⟩
  rw [HR.out] at hm0 hm1 HZ HL
  clear ha hb
  go_enter Tryz.func144, Tryz.ntmps144
  go_wp2_with fail
  refine (n_div_any _ _ b.n a.n _ ⟨_, rfl, h3.below (Nat.le_refl _) (hW _ _ _)⟩ ⟨_, rfl, h1.below (Nat.le_refl _) (hW _ _ _)⟩ (lt_lim_of_cp ob.n1) hal hp).mono ?_
  rw [HR.out]
  rintro e w1 ⟨v1, u1, rfl, hv1, hu1, hb1⟩
  obtain ⟨b1, n1, k1, rfl, r1⟩ := hv1.open
  obtain ⟨b2, n2, k2, rfl, r2⟩ := hu1.open
  have hT1 := hT.later hb1
  have hs1 := hT1.s
  have hbw1 := Below.next (hW _ _ _) hb1 (by simp; omega)
  have hbC : Below w1.heap.size w1 ((w1.alloc (.cells #[.slice b1 n1 k1] 56)).alloc (.cells #[.slice b2 n2 k2] 56)) := ((Below.refl _ _).alloc (Nat.le_refl _) _).alloc (by simp) _
  have hC := Bx.new (w1.alloc (.cells #[.slice b1 n1 k1] 56)) (.slice b2 n2 k2) 56 (by simp)
  have hT2 := hT1.later hbC
  have hbw2 := Below.next hbw1 hbC hbw1.size
  have r3 := r2.below (Nat.le_refl _) hbC
  have hs2 := hbC.size
  simp only [World.size_alloc] at hC hs2
  have cC := hC.cell
  go_wp2_with fail
  refine (n_zero_any _ r _ ⟨_, rfl, r3⟩).mono ?_
  rintro e w3 ⟨rfl, hb3⟩
  rw [HZ.out]
  have hT3 := hT2.later hb3
  have hC3 := hC.later (by simp) hb3
  have r4 := r3.below (Nat.le_refl _) hb3
  have hbw3 := Below.next hbw2 hb3 hbw2.size
  have hs3 := hb3.size
  simp only [World.size_alloc] at hs3
  have cC3 := hC3.cell
  obtain ⟨p0, p1, p2⟩ := hT3.a.cells
  obtain ⟨p3, p4, p5⟩ := hT3.b.cells
  clear hT hb1 hv1 hu1 r1 r2 hT1 hbw1 hbC hC hT2 hbw2 r3 hb3 cC
  have hzR := hT3.r
  have hbwR := hbw3
  go_wp2_with fail
  clear p1 p2 p3 p4 p5
  go_region_held3 (fun w' => w'.cell? ⟨w.heap.size, 0, none⟩ = some (.bool a.neg) ∧ w'.cell? ⟨w1.heap.size + 1, 0, none⟩ = some (.slice b2 n2 k2) ∧ Fz (w.heap.size + 1 + 1) w' ∧ Below w.heap.size w w' ∧ w.heap.size ≤ w'.heap.size ∧ w.heap.size + 1 + 1 < w'.heap.size)
    (first | exact ⟨p0, cC3, hzR, hbwR.drew, hbwR.size, hzR.lt⟩ | exact keepL (by assumption) (by assumption) | exact keepLP (by assumption) (by simp <;> omega) (by omega) (by simp) (by simp) (by simp))
    ((first | (go_at_call 136; refine (n_small_any 1 _ (by omega) (by omega)).mono ?_; rintro e w7 ⟨v7, rfl, hv7, hb7⟩; obtain ⟨b7, n7, k7, rfl, r7⟩ := hv7.open) | (go_at_call 51; refine (f_lowest_any _ _ _ (r) 1 _ ⟨_, rfl, by exact r4.below (Nat.le_refl _) (Below.undrew hb7)⟩ ⟨_, rfl, by assumption⟩ (by omega) (by omega) (by omega)).mono ?_; rintro e w8 ⟨v8, rfl, hv8, hb8⟩; obtain ⟨y1, i1, j1, y2, i2, j2, rfl, r8, r9⟩ := hv8.open; have hS8 := keepL hb8 (by assumption); obtain ⟨_, _, hz8, hS8b⟩ := hS8; obtain ⟨x0, x1, x2, e0, e1, e2⟩ := hz8.cells; obtain ⟨f0, f1, f2, hno8, hh8⟩ := id hz8)))
  all_goals
    obtain ⟨q0, q1, q2⟩ := put3_cells hz8 (.bool (mk a.neg (r) 1).neg) (.slice y1 i1 j1) (.slice y2 i2 j2)
    go_wp2
    refine bodyPost_ret (v := .agg #[.bool (mk a.neg (r) 1).neg, .slice y1 i1 j1, .slice y2 i2 j2]) (by unfold put3 at q0 q1 q2; simp [results, Tryz.results144, go_sem, q0, q1, q2]) rfl ⟨_, rfl, ?_, ?_⟩
    · rw [HL.out]
      exact ⟨_, _, rfl, put3_rep hz8 r8 _ _ _ (by simp) (by simp), put3_rep hz8 r9 _ _ _ (by simp) (by simp)⟩
    · exact put3_below hS8b.1 (by omega) _ _ _

set_option maxRecDepth 100000 in
set_option maxHeartbeats 1600000 in
theorem f_left_same (v u : Value) (a b : Q) (w : World) (ha : RepF w v a) (hb : RepF w u b) (oa : a.Ok) (ob : b.Ok) (hp : 0 < a.n) (hz : ¬ b.n % a.n = 0) (hs : a.neg = b.neg) :
    Calls Tryz.prog 144 #[v, u] w fun e w' => ∃ v', e = .returned v' ∧ RepF w' v' (leftQ a b) ∧ Below w.heap.size w w' := by
  obtain ⟨a1, l1, c1, a2, l2, c2, rfl, h1, h2⟩ := ha.open
  obtain ⟨a3, l3, c3, a4, l4, c4, rfl, h3, h4⟩ := hb.open
  have hT := Three.new w (.bool a.neg) (.slice a1 l1 c1) (.slice a2 l2 c2) (.bool b.neg) (.slice a3 l3 c3) (.slice a4 l4 c4) 58 58 58
  have hW : ∀ o o' o'', Below w.heap.size w (((w.alloc o).alloc o').alloc o'') := fun o o' o'' => (((Below.refl _ _).alloc (Nat.le_refl _) o).alloc (by simp) o').alloc (by simp; omega) o''
  have hm0 := Int.emod_nonneg b.n (show a.n ≠ 0 by omega)
  have hm1 := Int.emod_lt_of_pos b.n hp
  have hal := lt_lim_of_cp oa.n1
  have h1l := lt_lim_of_cp one_lt_cp
  have HL : Hid (leftQ a b = mk a.neg (b.n % a.n) 1) := by unfold Hid leftQ; rw [if_neg (fun h => h.2 hs)]
  have HZ : Hid (decide (b.n % a.n = 0) = false) := decide_eq_false hz
  have hbq : (a.neg == b.neg) = true := by simp [hs]
  clear hz hs
  obtain ⟨r, HR⟩ : ∃ r, Hid (b.n % a.n = r) := ⟨_, rfl⟩
  rw [HR.out] at hm0 hm1 HZ HL
  clear ha hb
  go_enter Tryz.func144, Tryz.ntmps144
  go_wp2_with fail
  refine (n_div_any _ _ b.n a.n _ ⟨_, rfl, h3.below (Nat.le_refl _) (hW _ _ _)⟩ ⟨_, rfl, h1.below (Nat.le_refl _) (hW _ _ _)⟩ (lt_lim_of_cp ob.n1) hal hp).mono ?_
  rw [HR.out]
  rintro e w1 ⟨v1, u1, rfl, hv1, hu1, hb1⟩
  obtain ⟨b1, n1, k1, rfl, r1⟩ := hv1.open
  obtain ⟨b2, n2, k2, rfl, r2⟩ := hu1.open
  have hT1 := hT.later hb1
  have hs1 := hT1.s
  have hbw1 := Below.next (hW _ _ _) hb1 (by simp; omega)
  have hbC : Below w1.heap.size w1 ((w1.alloc (.cells #[.slice b1 n1 k1] 56)).alloc (.cells #[.slice b2 n2 k2] 56)) := ((Below.refl _ _).alloc (Nat.le_refl _) _).alloc (by simp) _
  have hC := Bx.new (w1.alloc (.cells #[.slice b1 n1 k1] 56)) (.slice b2 n2 k2) 56 (by simp)
  have hT2 := hT1.later hbC
  have hbw2 := Below.next hbw1 hbC hbw1.size
  have r3 := r2.below (Nat.le_refl _) hbC
  have hs2 := hbC.size
  simp only [World.size_alloc] at hC hs2
  have cC := hC.cell
  go_wp2_with fail
  refine (n_zero_any _ r _ ⟨_, rfl, r3⟩).mono ?_
  rintro e w3 ⟨rfl, hb3⟩
  rw [HZ.out]
  have hT3 := hT2.later hb3
  have hC3 := hC.later (by simp) hb3
  have r4 := r3.below (Nat.le_refl _) hb3
  have hbw3 := Below.next hbw2 hb3 hbw2.size
  have hs3 := hb3.size
  simp only [World.size_alloc] at hs3
  have cC3 := hC3.cell
  obtain ⟨p0, p1, p2⟩ := hT3.a.cells
  obtain ⟨p3, p4, p5⟩ := hT3.b.cells
  clear hT hb1 hv1 hu1 r1 r2 hT1 hbw1 hbC hC hT2 hbw2 r3 hb3 cC
  have hzR := hT3.r
  have hbwR := hbw3
  go_wp2_with fail
  clear p1 p2 p3 p4 p5
  go_region_held3 (fun w' => w'.cell? ⟨w.heap.size, 0, none⟩ = some (.bool a.neg) ∧ w'.cell? ⟨w1.heap.size + 1, 0, none⟩ = some (.slice b2 n2 k2) ∧ Fz (w.heap.size + 1 + 1) w' ∧ Below w.heap.size w w' ∧ w.heap.size ≤ w'.heap.size ∧ w.heap.size + 1 + 1 < w'.heap.size)
    (first | exact ⟨p0, cC3, hzR, hbwR.drew, hbwR.size, hzR.lt⟩ | exact keepL (by assumption) (by assumption) | exact keepLP (by assumption) (by simp <;> omega) (by omega) (by simp) (by simp) (by simp))
    ((first | (go_at_call 136; refine (n_small_any 1 _ (by omega) (by omega)).mono ?_; rintro e w7 ⟨v7, rfl, hv7, hb7⟩; obtain ⟨b7, n7, k7, rfl, r7⟩ := hv7.open) | (go_at_call 51; refine (f_lowest_any _ _ _ (r) 1 _ ⟨_, rfl, by exact r4.below (Nat.le_refl _) (Below.undrew hb7)⟩ ⟨_, rfl, by assumption⟩ (by omega) (by omega) (by omega)).mono ?_; rintro e w8 ⟨v8, rfl, hv8, hb8⟩; obtain ⟨y1, i1, j1, y2, i2, j2, rfl, r8, r9⟩ := hv8.open; have hS8 := keepL hb8 (by assumption); obtain ⟨_, _, hz8, hS8b⟩ := hS8; obtain ⟨x0, x1, x2, e0, e1, e2⟩ := hz8.cells; obtain ⟨f0, f1, f2, hno8, hh8⟩ := id hz8)))
  all_goals
    obtain ⟨q0, q1, q2⟩ := put3_cells hz8 (.bool (mk a.neg (r) 1).neg) (.slice y1 i1 j1) (.slice y2 i2 j2)
    go_wp2
    refine bodyPost_ret (v := .agg #[.bool (mk a.neg (r) 1).neg, .slice y1 i1 j1, .slice y2 i2 j2]) (by unfold put3 at q0 q1 q2; simp [results, Tryz.results144, go_sem, q0, q1, q2]) rfl ⟨_, rfl, ?_, ?_⟩
    · rw [HL.out]
      exact ⟨_, _, rfl, put3_rep hz8 r8 _ _ _ (by simp) (by simp), put3_rep hz8 r9 _ _ _ (by simp) (by simp)⟩
    · exact put3_below hS8b.1 (by omega) _ _ _

set_option maxRecDepth 100000 in
set_option maxHeartbeats 1600000 in
theorem f_left_diff (v u : Value) (a b : Q) (w : World) (ha : RepF w v a) (hb : RepF w u b) (oa : a.Ok) (ob : b.Ok) (hp : 0 < a.n) (hz : ¬ b.n % a.n = 0) (hs : ¬ a.neg = b.neg) :
    Calls Tryz.prog 144 #[v, u] w fun e w' => ∃ v', e = .returned v' ∧ RepF w' v' (leftQ a b) ∧ Below w.heap.size w w' := by
  obtain ⟨a1, l1, c1, a2, l2, c2, rfl, h1, h2⟩ := ha.open
  obtain ⟨a3, l3, c3, a4, l4, c4, rfl, h3, h4⟩ := hb.open
  have hT := Three.new w (.bool a.neg) (.slice a1 l1 c1) (.slice a2 l2 c2) (.bool b.neg) (.slice a3 l3 c3) (.slice a4 l4 c4) 58 58 58
  have hW : ∀ o o' o'', Below w.heap.size w (((w.alloc o).alloc o').alloc o'') := fun o o' o'' => (((Below.refl _ _).alloc (Nat.le_refl _) o).alloc (by simp) o').alloc (by simp; omega) o''
  have hm0 := Int.emod_nonneg b.n (show a.n ≠ 0 by omega)
  have hm1 := Int.emod_lt_of_pos b.n hp
  have hal := lt_lim_of_cp oa.n1
  have h1l := lt_lim_of_cp one_lt_cp
  have HL : Hid (leftQ a b = mk a.neg (a.n - b.n % a.n) 1) := by unfold Hid leftQ; rw [if_pos ⟨hz, hs⟩]
  have HZ : Hid (decide (b.n % a.n = 0) = false) := decide_eq_false hz
  have hbq : (a.neg == b.neg) = false := by simp [hs]
  clear hz hs
  obtain ⟨r, HR⟩ : ∃ r, Hid (b.n % a.n = r) := ⟨_, rfl⟩
  rw [HR.out] at hm0 hm1 HZ HL
  clear ha hb
  go_enter Tryz.func144, Tryz.ntmps144
  go_wp2_with fail
  refine (n_div_any _ _ b.n a.n _ ⟨_, rfl, h3.below (Nat.le_refl _) (hW _ _ _)⟩ ⟨_, rfl, h1.below (Nat.le_refl _) (hW _ _ _)⟩ (lt_lim_of_cp ob.n1) hal hp).mono ?_
  rw [HR.out]
  rintro e w1 ⟨v1, u1, rfl, hv1, hu1, hb1⟩
  obtain ⟨b1, n1, k1, rfl, r1⟩ := hv1.open
  obtain ⟨b2, n2, k2, rfl, r2⟩ := hu1.open
  have hT1 := hT.later hb1
  have hs1 := hT1.s
  have hbw1 := Below.next (hW _ _ _) hb1 (by simp; omega)
  have hbC : Below w1.heap.size w1 ((w1.alloc (.cells #[.slice b1 n1 k1] 56)).alloc (.cells #[.slice b2 n2 k2] 56)) := ((Below.refl _ _).alloc (Nat.le_refl _) _).alloc (by simp) _
  have hC := Bx.new (w1.alloc (.cells #[.slice b1 n1 k1] 56)) (.slice b2 n2 k2) 56 (by simp)
  have hT2 := hT1.later hbC
  have hbw2 := Below.next hbw1 hbC hbw1.size
  have r3 := r2.below (Nat.le_refl _) hbC
  have hs2 := hbC.size
  simp only [World.size_alloc] at hC hs2
  have cC := hC.cell
  go_wp2_with fail
  refine (n_zero_any _ r _ ⟨_, rfl, r3⟩).mono ?_
  rintro e w3 ⟨rfl, hb3⟩
  rw [HZ.out]
  have hT3 := hT2.later hb3
  have hC3 := hC.later (by simp) hb3
  have r4 := r3.below (Nat.le_refl _) hb3
  have hbw3 := Below.next hbw2 hb3 hbw2.size
  have hs3 := hb3.size
  simp only [World.size_alloc] at hs3
  have cC3 := hC3.cell
  obtain ⟨p0, p1, p2⟩ := hT3.a.cells
  obtain ⟨p3, p4, p5⟩ := hT3.b.cells
  clear hT hb1 hv1 hu1 r1 r2 hT1 hbw1 hbC hC hT2 hbw2 r3 hb3 cC
  go_wp2_with fail
  refine (n_sub_any _ _ a.n r _ ⟨_, rfl, h1.below (Nat.le_refl _) hbw3⟩ ⟨_, rfl, r4⟩ hal (by omega)).mono ?_
  rintro e w5 ⟨v5, rfl, hv5, hb5⟩
  obtain ⟨b5, n5, k5, rfl, r5⟩ := hv5.open
  have hT5 := hT3.later hb5
  have hC5 := hC3.later (by omega) hb5
  have hbw5 := Below.next hbw3 hb5 hbw3.size
  have hfC := hC5.free
  have cC5 := hC5.cell
  have hs5 := hb5.size
  have hC6 := hC5.fz.put (.slice b5 n5 k5) (by simp)
  have hF6 := hT5.r.other ⟨w1.heap.size + 1, 0, none⟩ (.slice b5 n5 k5) (by simp; omega)
  have r6 := r5.box ⟨w1.heap.size + 1, 0, none⟩ (.slice b5 n5 k5) hC5.1
  have hbw6 := hbw5.setCell (p := ⟨w1.heap.size + 1, 0, none⟩) (by simp; omega) (.slice b5 n5 k5)
  have hA6 := Box.put hT5.a ⟨w1.heap.size + 1, 0, none⟩ (.slice b5 n5 k5) (by simp; omega)
  clear p0 p1 p2 p3 p4 p5 cC3 hT3 hC3 r4 hbw3
  have p0 := hA6.cells.1
  have cC3 := hC6.cell
  have r4 := r6
  have hzR := hF6
  have hbwR := hbw6
  have p1 := trivial
  have p2 := trivial
  have p3 := trivial
  have p4 := trivial
  have p5 := trivial
  go_wp2_with fail
  clear p1 p2 p3 p4 p5
  go_region_held3 (fun w' => w'.cell? ⟨w.heap.size, 0, none⟩ = some (.bool a.neg) ∧ w'.cell? ⟨w1.heap.size + 1, 0, none⟩ = some (.slice b5 n5 k5) ∧ Fz (w.heap.size + 1 + 1) w' ∧ Below w.heap.size w w' ∧ w.heap.size ≤ w'.heap.size ∧ w.heap.size + 1 + 1 < w'.heap.size)
    (first | exact ⟨p0, cC3, hzR, hbwR.drew, hbwR.size, hzR.lt⟩ | exact keepL (by assumption) (by assumption) | exact keepLP (by assumption) (by simp <;> omega) (by omega) (by simp) (by simp) (by simp))
    ((first | (go_at_call 136; refine (n_small_any 1 _ (by omega) (by omega)).mono ?_; rintro e w7 ⟨v7, rfl, hv7, hb7⟩; obtain ⟨b7, n7, k7, rfl, r7⟩ := hv7.open) | (go_at_call 51; refine (f_lowest_any _ _ _ (a.n - r) 1 _ ⟨_, rfl, by exact r4.below (Nat.le_refl _) (Below.undrew hb7)⟩ ⟨_, rfl, by assumption⟩ (by omega) (by omega) (by omega)).mono ?_; rintro e w8 ⟨v8, rfl, hv8, hb8⟩; obtain ⟨y1, i1, j1, y2, i2, j2, rfl, r8, r9⟩ := hv8.open; have hS8 := keepL hb8 (by assumption); obtain ⟨_, _, hz8, hS8b⟩ := hS8; obtain ⟨x0, x1, x2, e0, e1, e2⟩ := hz8.cells; obtain ⟨f0, f1, f2, hno8, hh8⟩ := id hz8)))
  all_goals
    obtain ⟨q0, q1, q2⟩ := put3_cells hz8 (.bool (mk a.neg (a.n - r) 1).neg) (.slice y1 i1 j1) (.slice y2 i2 j2)
    go_wp2
    refine bodyPost_ret (v := .agg #[.bool (mk a.neg (a.n - r) 1).neg, .slice y1 i1 j1, .slice y2 i2 j2]) (by unfold put3 at q0 q1 q2; simp [results, Tryz.results144, go_sem, q0, q1, q2]) rfl ⟨_, rfl, ?_, ?_⟩
    · rw [HL.out]
      exact ⟨_, _, rfl, put3_rep hz8 r8 _ _ _ (by simp) (by simp), put3_rep hz8 r9 _ _ _ (by simp) (by simp)⟩
    · exact put3_below hS8b.1 (by omega) _ _ _

theorem f_left_any (v u : Value) (a b : Q) (w : World) (ha : RepF w v a) (hb : RepF w u b) (oa : a.Ok) (ob : b.Ok) (hp : 0 < a.n) :
    Calls Tryz.prog 144 #[v, u] w fun e w' => ∃ v', e = .returned v' ∧ RepF w' v' (leftQ a b) ∧ Below w.heap.size w w' := by
  by_cases hz : b.n % a.n = 0
  · exact f_left_zero v u a b w ha hb oa ob hp hz
  · by_cases hs : a.neg = b.neg
    · exact f_left_same v u a b w ha hb oa ob hp hz hs
    · exact f_left_diff v u a b w ha hb oa ob hp hz hs
theorem mk_one {s : Bool} {n : Int} (h : ¬ n = 0) : mk s n 1 = ⟨s, n, 1⟩ := by
  unfold mk; rw [if_neg h]
  have : gcdI n 1 = 1 := by unfold gcdI; simp
  rw [this]; simp
theorem left_rest {a b : Q} (hp : 0 < a.n) (ha : a.d = 1) : leftQ a b = restQ a b := by
  have hm0 := Int.emod_nonneg b.n (show a.n ≠ 0 by omega)
  have hm1 := Int.emod_lt_of_pos b.n hp
  unfold restQ leftQ
  rw [if_neg (show ¬ a.n = 0 by omega)]
  by_cases hz : b.n % a.n = 0
  · have hX : restX a b = ⟨false, 0, 1⟩ := by unfold restX mk; rw [if_pos hz]
    have hT : restT a b = false := by unfold restT; rw [hX]; simp
    rw [if_neg (fun h => h.1 hz), hT, hX, hz]
    simp [mk]
  · have hX : restX a b = ⟨b.neg, b.n % a.n, 1⟩ := by unfold restX; exact mk_one hz
    by_cases hs : a.neg = b.neg
    · have hT : restT a b = false := by unfold restT; rw [hX]; simp [hs]
      rw [if_neg (fun h => h.2 hs), hT, hX, mk_one hz, hs]
      simp
    · have hT : restT a b = true := by
        unfold restT; rw [hX]; simp [hz]; exact fun h => hs h.symm
      rw [if_pos ⟨hz, hs⟩, hT, hX]
      simp only [if_true]
      unfold sumQ
      simp only
      rw [if_neg (fun h => hs h.symm), ha, if_neg (by omega)]
      simp
end Go.Proofs.YtknnjibmacmniaaGreatDoor
