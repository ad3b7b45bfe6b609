/- abacusref: Dyad. -/
import Derived.Test.YtknnjibmacmniaaGreatDoorC09
import Derived.Test.YtknnjibmacmniaaGreatDoorC07
namespace Go.Proofs.YtknnjibmacmniaaGreatDoor
open Go.RowKit
set_option linter.unusedVariables false
attribute [local go_sem ↓] Go.wp_at_zero Go.wp_at_succ

/-- the boxes of Dyad: both numbers, the result, x -/
structure Four (w : World) (g : Nat) (u0 u1 u2 v0 v1 v2 : Value) : Prop where
  t : Three w g u0 u1 u2 v0 v1 v2
  x : ∃ x0 x1 x2, Box w (g + 1 + 1 + 1) x0 x1 x2 ∧ Fz (g + 1 + 1 + 1) w
  s : g + 1 + 1 + 1 < w.heap.size
theorem Four.later {w w' : World} {g : Nat} {u0 u1 u2 v0 v1 v2 : Value} (h : Four w g u0 u1 u2 v0 v1 v2) (hb : Below w.heap.size w w') : Four w' g u0 u1 u2 v0 v1 v2 := by
  obtain ⟨x0, x1, x2, hx, hf⟩ := h.x
  exact ⟨h.t.later hb, ⟨x0, x1, x2, hx.below h.s hb, hf.later h.s hb⟩, Nat.lt_of_lt_of_le h.s hb.size⟩
theorem Four.new (w : World) (a1 a2 a3 a4 : Option Addr) (l1 c1 l2 c2 l3 c3 l4 c4 : Nat) (n m : Bool) (T T' T'' T3 : Nat) :
    Four ((((w.alloc (.cells #[.bool n, .slice a1 l1 c1, .slice a2 l2 c2] T)).alloc (.cells #[.bool m, .slice a3 l3 c3, .slice a4 l4 c4] T')).alloc (.cells #[.bool false, .slice none 0 0, .slice none 0 0] T'')).alloc (.cells #[.bool n, .slice a1 l1 c1, .slice a2 l2 c2] T3)) w.heap.size (.bool n) (.slice a1 l1 c1) (.slice a2 l2 c2) (.bool m) (.slice a3 l3 c3) (.slice a4 l4 c4) := by
  have h := Three.new w (.bool n) (.slice a1 l1 c1) (.slice a2 l2 c2) (.bool m) (.slice a3 l3 c3) (.slice a4 l4 c4) T T' T''
  have hx := Box.new (((w.alloc (.cells #[.bool n, .slice a1 l1 c1, .slice a2 l2 c2] T)).alloc (.cells #[.bool m, .slice a3 l3 c3, .slice a4 l4 c4] T')).alloc (.cells #[.bool false, .slice none 0 0, .slice none 0 0] T'')) (.bool n) (.slice a1 l1 c1) (.slice a2 l2 c2) T3
  simp only [World.size_alloc] at hx
  exact ⟨h.later ((Below.refl _ _).alloc (Nat.le_refl _) _), ⟨_, _, _, hx, hx.fz (by simp) (by simp) (by simp)⟩, by simp⟩
/-- x is set -/
theorem Four.put {w : World} {g : Nat} {u0 u1 u2 v0 v1 v2 : Value} (h : Four w g u0 u1 u2 v0 v1 v2) (s : Bool) (y1 y2 : Option Addr) (m1 j1 m2 j2 : Nat) :
    Fz (g + 1 + 1) (put3 w (g + 1 + 1 + 1) (.bool s) (.slice y1 m1 j1) (.slice y2 m2 j2)) ∧ Box (put3 w (g + 1 + 1 + 1) (.bool s) (.slice y1 m1 j1) (.slice y2 m2 j2)) (g + 1 + 1 + 1) (.bool s) (.slice y1 m1 j1) (.slice y2 m2 j2) := by
  obtain ⟨x0, x1, x2, hx, hf⟩ := h.x
  exact ⟨put3_fz_other h.t.r (by omega) _ _ _, put3_box hf _ _ _⟩
def dyE (e : Int) (x : Q) : Int := if e = 0 then (if bigQ x then 10 else 0) else e

set_option maxRecDepth 100000 in
set_option maxHeartbeats 3200000 in
theorem r_dyad_plus (v u : Value) (a b : Q) (w : World) (ha : RepQ w v a) (hb : RepQ w u b) (sa : a.Sm) (sb : b.Sm) :
    Calls Tryz.prog 25 #[.string ⟨#[43]⟩, v, u] w fun e w' => ∃ v' er, e = .returned (.tuple #[v', .int .i64 er]) ∧ er = dyE 0 (sumQ a b) ∧ (er = 0 → RepQ w' v' (sumQ a b)) ∧ Shp v' ∧ Below w.heap.size w w' := by
  have ha' := ha
  have hb' := hb
  obtain ⟨a1, l1, c1, a2, l2, c2, rfl, h1, h2⟩ := ha.open
  obtain ⟨a3, l3, c3, a4, l4, c4, rfl, h3, h4⟩ := hb.open
  have oa := sa.ok
  have ob := sb.ok
  have hT := Four.new w a1 a2 a3 a4 l1 c1 l2 c2 l3 c3 l4 c4 a.neg b.neg 35 35 35 35
  have hW : ∀ o o' o'' o3, Below w.heap.size w ((((w.alloc o).alloc o').alloc o'').alloc o3) := fun o o' o'' o3 => ((((Below.refl _ _).alloc (Nat.le_refl _) o).alloc (by simp) o').alloc (by simp; omega) o'').alloc (by simp; omega) o3
  clear ha hb h1 h2 h3 h4
  go_enter Tryz.func25, Tryz.ntmps25
  go_wp2_with fail
  refine (r_sum_any _ _ a b _ (ha'.below (Nat.le_refl _) (hW _ _ _ _)) (hb'.below (Nat.le_refl _) (hW _ _ _ _)) oa ob).mono ?_
  rintro e w1 ⟨v1, rfl, hr, hb1⟩
  have hT1 := hT.later hb1
  have hbw := Below.next (hW _ _ _ _) hb1 (by simp; omega)
  obtain ⟨b1, n1, k1, b2, n2, k2, rfl, _, _⟩ := RepQ.open hr
  obtain ⟨x0, x1, x2, hx, hfx⟩ := hT1.x
  obtain ⟨f0, f1, f2, _, _⟩ := id hfx
  obtain ⟨e0, e1, e2⟩ := hx.cells
  obtain ⟨hFr, hBx⟩ := hT1.put (sumQ a b).neg b1 b2 n1 k1 n2 k2
  have hrX := RepQ.put3 hr hfx (.bool (sumQ a b).neg) (.slice b1 n1 k1) (.slice b2 n2 k2) (by simp) (by simp)
  have hbX := put3_below hbw (show w.heap.size ≤ w.heap.size + 1 + 1 + 1 by omega) (.bool (sumQ a b).neg) (.slice b1 n1 k1) (.slice b2 n2 k2)
  have hsX : w.heap.size + 1 + 1 + 1 < (put3 w1 (w.heap.size + 1 + 1 + 1) (.bool (sumQ a b).neg) (.slice b1 n1 k1) (.slice b2 n2 k2)).heap.size := by rw [put3_size]; exact hT1.s
  go_wp2_with fail
  rw [show (((w1.setCell ⟨w.heap.size + 1 + 1 + 1, 0, none⟩ (.bool (sumQ a b).neg)).setCell ⟨w.heap.size + 1 + 1 + 1, 1, none⟩ (.slice b1 n1 k1)).setCell ⟨w.heap.size + 1 + 1 + 1, 2, none⟩ (.slice b2 n2 k2)) = put3 w1 (w.heap.size + 1 + 1 + 1) (.bool (sumQ a b).neg) (.slice b1 n1 k1) (.slice b2 n2 k2) from rfl]
  obtain ⟨wP, HWP⟩ : ∃ wP, Hid (put3 w1 (w.heap.size + 1 + 1 + 1) (.bool (sumQ a b).neg) (.slice b1 n1 k1) (.slice b2 n2 k2) = wP) := ⟨_, rfl⟩
  rw [HWP.out] at hFr hBx hrX hbX hsX ⊢
  clear HWP f0 f1 f2 e0 e1 e2 hx hfx hT1 hbw hr
  obtain ⟨z9, HZ9⟩ : ∃ z, Hid (bigQ (sumQ a b) = z) := ⟨_, rfl⟩
  refine (r_big_any _ (sumQ a b) _ hrX).mono ?_
  rintro e w9 ⟨rfl, hb9⟩
  rw [HZ9.out]
  have hBx9 := hBx.below hsX hb9
  have hFr9 := hFr.later (by omega) hb9
  have hrX9 := hrX.below (Nat.le_refl _) hb9
  have hbX9 := Below.next hbX hb9 hbX.size
  obtain ⟨p0, p1, p2⟩ := hBx9.cells
  obtain ⟨f0, f1, f2, _, _⟩ := id hFr9
  obtain ⟨x0, x1, x2, e0, e1, e2⟩ := hFr9.cells
  obtain ⟨q0, q1, q2⟩ := put3_cells hFr9 (.bool (sumQ a b).neg) (.slice b1 n1 k1) (.slice b2 n2 k2)
  have hres := RepQ.put3 hrX9 hFr9 (.bool (sumQ a b).neg) (.slice b1 n1 k1) (.slice b2 n2 k2) (by simp) (by simp)
  have hbr := put3_below hbX9 (show w.heap.size ≤ w.heap.size + 1 + 1 by omega) (.bool (sumQ a b).neg) (.slice b1 n1 k1) (.slice b2 n2 k2)
  unfold put3 at q0 q1 q2 hres hbr
  clear hFr hBx hrX hbX hsX hb9 hT
  cases z9
  · have HE : Hid (dyE 0 (sumQ a b) = 0) := by simp [Hid, dyE, HZ9.out]
    go_wp2
    refine bodyPost_ret (v := .tuple #[.agg #[.bool (sumQ a b).neg, .slice b1 n1 k1, .slice b2 n2 k2], .int .i64 0]) (by simp [results, Tryz.results25, go_sem, q0, q1, q2]) rfl ⟨_, _, rfl, by rw [HE.out], fun _ => hres, ⟨_, _, _, _, _, _, _, rfl⟩, hbr⟩
  · have HE : Hid (dyE 0 (sumQ a b) = 10) := by simp [Hid, dyE, HZ9.out]
    go_wp2
    refine bodyPost_ret (v := .tuple #[.agg #[.bool (sumQ a b).neg, .slice b1 n1 k1, .slice b2 n2 k2], .int .i64 10]) (by simp [results, Tryz.results25, go_sem, q0, q1, q2]) rfl ⟨_, _, rfl, by rw [HE.out], fun h => by simp at h, ⟨_, _, _, _, _, _, _, rfl⟩, hbr⟩

set_option maxRecDepth 100000 in
set_option maxHeartbeats 3200000 in
theorem r_dyad_times (v u : Value) (a b : Q) (w : World) (ha : RepQ w v a) (hb : RepQ w u b) (sa : a.Sm) (sb : b.Sm) :
    Calls Tryz.prog 25 #[.string ⟨#[42]⟩, v, u] w fun e w' => ∃ v' er, e = .returned (.tuple #[v', .int .i64 er]) ∧ er = dyE 0 (mulQ a b) ∧ (er = 0 → RepQ w' v' (mulQ a b)) ∧ Shp v' ∧ Below w.heap.size w w' := by
  have ha' := ha
  have hb' := hb
  obtain ⟨a1, l1, c1, a2, l2, c2, rfl, h1, h2⟩ := ha.open
  obtain ⟨a3, l3, c3, a4, l4, c4, rfl, h3, h4⟩ := hb.open
  have oa := sa.ok
  have ob := sb.ok
  have hT := Four.new w a1 a2 a3 a4 l1 c1 l2 c2 l3 c3 l4 c4 a.neg b.neg 35 35 35 35
  have hW : ∀ o o' o'' o3, Below w.heap.size w ((((w.alloc o).alloc o').alloc o'').alloc o3) := fun o o' o'' o3 => ((((Below.refl _ _).alloc (Nat.le_refl _) o).alloc (by simp) o').alloc (by simp; omega) o'').alloc (by simp; omega) o3
  clear ha hb h1 h2 h3 h4
  go_enter Tryz.func25, Tryz.ntmps25
  go_wp2_with fail
  refine (r_product_any _ _ a b _ (ha'.below (Nat.le_refl _) (hW _ _ _ _)) (hb'.below (Nat.le_refl _) (hW _ _ _ _)) oa ob).mono ?_
  rintro e w1 ⟨v1, rfl, hr, hb1⟩
  have hT1 := hT.later hb1
  have hbw := Below.next (hW _ _ _ _) hb1 (by simp; omega)
  obtain ⟨b1, n1, k1, b2, n2, k2, rfl, _, _⟩ := RepQ.open hr
  obtain ⟨x0, x1, x2, hx, hfx⟩ := hT1.x
  obtain ⟨f0, f1, f2, _, _⟩ := id hfx
  obtain ⟨e0, e1, e2⟩ := hx.cells
  obtain ⟨hFr, hBx⟩ := hT1.put (mulQ a b).neg b1 b2 n1 k1 n2 k2
  have hrX := RepQ.put3 hr hfx (.bool (mulQ a b).neg) (.slice b1 n1 k1) (.slice b2 n2 k2) (by simp) (by simp)
  have hbX := put3_below hbw (show w.heap.size ≤ w.heap.size + 1 + 1 + 1 by omega) (.bool (mulQ a b).neg) (.slice b1 n1 k1) (.slice b2 n2 k2)
  have hsX : w.heap.size + 1 + 1 + 1 < (put3 w1 (w.heap.size + 1 + 1 + 1) (.bool (mulQ a b).neg) (.slice b1 n1 k1) (.slice b2 n2 k2)).heap.size := by rw [put3_size]; exact hT1.s
  go_wp2_with fail
  rw [show (((w1.setCell ⟨w.heap.size + 1 + 1 + 1, 0, none⟩ (.bool (mulQ a b).neg)).setCell ⟨w.heap.size + 1 + 1 + 1, 1, none⟩ (.slice b1 n1 k1)).setCell ⟨w.heap.size + 1 + 1 + 1, 2, none⟩ (.slice b2 n2 k2)) = put3 w1 (w.heap.size + 1 + 1 + 1) (.bool (mulQ a b).neg) (.slice b1 n1 k1) (.slice b2 n2 k2) from rfl]
  obtain ⟨wP, HWP⟩ : ∃ wP, Hid (put3 w1 (w.heap.size + 1 + 1 + 1) (.bool (mulQ a b).neg) (.slice b1 n1 k1) (.slice b2 n2 k2) = wP) := ⟨_, rfl⟩
  rw [HWP.out] at hFr hBx hrX hbX hsX ⊢
  clear HWP f0 f1 f2 e0 e1 e2 hx hfx hT1 hbw hr
  obtain ⟨z9, HZ9⟩ : ∃ z, Hid (bigQ (mulQ a b) = z) := ⟨_, rfl⟩
  refine (r_big_any _ (mulQ a b) _ hrX).mono ?_
  rintro e w9 ⟨rfl, hb9⟩
  rw [HZ9.out]
  have hBx9 := hBx.below hsX hb9
  have hFr9 := hFr.later (by omega) hb9
  have hrX9 := hrX.below (Nat.le_refl _) hb9
  have hbX9 := Below.next hbX hb9 hbX.size
  obtain ⟨p0, p1, p2⟩ := hBx9.cells
  obtain ⟨f0, f1, f2, _, _⟩ := id hFr9
  obtain ⟨x0, x1, x2, e0, e1, e2⟩ := hFr9.cells
  obtain ⟨q0, q1, q2⟩ := put3_cells hFr9 (.bool (mulQ a b).neg) (.slice b1 n1 k1) (.slice b2 n2 k2)
  have hres := RepQ.put3 hrX9 hFr9 (.bool (mulQ a b).neg) (.slice b1 n1 k1) (.slice b2 n2 k2) (by simp) (by simp)
  have hbr := put3_below hbX9 (show w.heap.size ≤ w.heap.size + 1 + 1 by omega) (.bool (mulQ a b).neg) (.slice b1 n1 k1) (.slice b2 n2 k2)
  unfold put3 at q0 q1 q2 hres hbr
  clear hFr hBx hrX hbX hsX hb9 hT
  cases z9
  · have HE : Hid (dyE 0 (mulQ a b) = 0) := by simp [Hid, dyE, HZ9.out]
    go_wp2
    refine bodyPost_ret (v := .tuple #[.agg #[.bool (mulQ a b).neg, .slice b1 n1 k1, .slice b2 n2 k2], .int .i64 0]) (by simp [results, Tryz.results25, go_sem, q0, q1, q2]) rfl ⟨_, _, rfl, by rw [HE.out], fun _ => hres, ⟨_, _, _, _, _, _, _, rfl⟩, hbr⟩
  · have HE : Hid (dyE 0 (mulQ a b) = 10) := by simp [Hid, dyE, HZ9.out]
    go_wp2
    refine bodyPost_ret (v := .tuple #[.agg #[.bool (mulQ a b).neg, .slice b1 n1 k1, .slice b2 n2 k2], .int .i64 10]) (by simp [results, Tryz.results25, go_sem, q0, q1, q2]) rfl ⟨_, _, rfl, by rw [HE.out], fun h => by simp at h, ⟨_, _, _, _, _, _, _, rfl⟩, hbr⟩

set_option maxRecDepth 100000 in
set_option maxHeartbeats 3200000 in
theorem r_dyad_minus (v u : Value) (a b : Q) (w : World) (ha : RepQ w v a) (hb : RepQ w u b) (sa : a.Sm) (sb : b.Sm) :
    Calls Tryz.prog 25 #[.string ⟨#[45]⟩, v, u] w fun e w' => ∃ v' er, e = .returned (.tuple #[v', .int .i64 er]) ∧ er = dyE 0 (sumQ a (negQ b)) ∧ (er = 0 → RepQ w' v' (sumQ a (negQ b))) ∧ Shp v' ∧ Below w.heap.size w w' := by
  have ha' := ha
  have hb' := hb
  obtain ⟨a1, l1, c1, a2, l2, c2, rfl, h1, h2⟩ := ha.open
  obtain ⟨a3, l3, c3, a4, l4, c4, rfl, h3, h4⟩ := hb.open
  have oa := sa.ok
  have ob := sb.ok
  have hT := Four.new w a1 a2 a3 a4 l1 c1 l2 c2 l3 c3 l4 c4 a.neg b.neg 35 35 35 35
  have hW : ∀ o o' o'' o3, Below w.heap.size w ((((w.alloc o).alloc o').alloc o'').alloc o3) := fun o o' o'' o3 => ((((Below.refl _ _).alloc (Nat.le_refl _) o).alloc (by simp) o').alloc (by simp; omega) o'').alloc (by simp; omega) o3
  clear ha hb h1 h2 h3 h4
  have onb := ob.negQ
  have hA := hT.t.a.cells
  have hB := hT.t.b.cells
  obtain ⟨xx0, xx1, xx2, hx0, hfx0⟩ := hT.x
  have hs4 := hT.s
  go_enter Tryz.func25, Tryz.ntmps25
  go_wp2_with fail
  go_region_held3 (fun w' => w'.cell? ⟨w.heap.size, 0, none⟩ = some (.bool a.neg) ∧ w'.cell? ⟨w.heap.size, 1, none⟩ = some (.slice a1 l1 c1) ∧ w'.cell? ⟨w.heap.size, 2, none⟩ = some (.slice a2 l2 c2) ∧ w'.cell? ⟨w.heap.size + 1, 0, none⟩ = some (.bool b.neg) ∧ w'.cell? ⟨w.heap.size + 1, 1, none⟩ = some (.slice a3 l3 c3) ∧ w'.cell? ⟨w.heap.size + 1, 2, none⟩ = some (.slice a4 l4 c4) ∧ Fz (w.heap.size + 1 + 1 + 1) w' ∧ Below w.heap.size w w' ∧ w.heap.size < w'.heap.size ∧ w.heap.size + 1 + 1 + 1 < w'.heap.size)
    (first | exact ⟨hA.1, hA.2.1, hA.2.2, hB.1, hB.2.1, hB.2.2, hfx0, (hW _ _ _ _).drew, by simp; omega, by simp⟩ | exact keepS6 (by assumption) (by assumption) | exact keepP6 (by assumption) (by simp <;> omega) (by omega) (by simp) (by simp) (by simp))
    ((first | (go_at_call 57; refine (r_negated_any _ b _ (hb'.below (Nat.le_refl _) (hW _ _ _ _).drew)).mono ?_; rintro e w0 ⟨v0, rfl, hr0, hb0⟩) | (go_at_call 56; refine (r_sum_any _ _ a (negQ b) _ (ha'.below (Nat.le_refl _) (Below.next (hW _ _ _ _).drew hb0 (by simp; omega))) hr0 oa onb).mono ?_; rintro e w1 ⟨v1, rfl, hr, hb1⟩; obtain ⟨b1, n1, k1, b2, n2, k2, rfl, _, _⟩ := RepQ.open hr; have hT1 := (hT.later (Below.undrew hb0)).later hb1; obtain ⟨x0, x1, x2, hx, hfx⟩ := hT1.x; obtain ⟨f0, f1, f2, _, _⟩ := id hfx; obtain ⟨e0, e1, e2⟩ := hx.cells)))
  rename_i hH
  clear hH hA hB hx0 hfx0
  have hbw := Below.next (Below.next (hW _ _ _ _) (Below.undrew hb0) (by simp; omega)) hb1 (Nat.le_trans (by simp; omega) (Below.undrew hb0).size)
  obtain ⟨hFr, hBx⟩ := hT1.put (sumQ a (negQ b)).neg b1 b2 n1 k1 n2 k2
  have hrX := RepQ.put3 hr hfx (.bool (sumQ a (negQ b)).neg) (.slice b1 n1 k1) (.slice b2 n2 k2) (by simp) (by simp)
  have hbX := put3_below hbw (show w.heap.size ≤ w.heap.size + 1 + 1 + 1 by omega) (.bool (sumQ a (negQ b)).neg) (.slice b1 n1 k1) (.slice b2 n2 k2)
  have hsX : w.heap.size + 1 + 1 + 1 < (put3 w1 (w.heap.size + 1 + 1 + 1) (.bool (sumQ a (negQ b)).neg) (.slice b1 n1 k1) (.slice b2 n2 k2)).heap.size := by rw [put3_size]; exact hT1.s
  go_wp2_with fail
  rw [show (((w1.setCell ⟨w.heap.size + 1 + 1 + 1, 0, none⟩ (.bool (sumQ a (negQ b)).neg)).setCell ⟨w.heap.size + 1 + 1 + 1, 1, none⟩ (.slice b1 n1 k1)).setCell ⟨w.heap.size + 1 + 1 + 1, 2, none⟩ (.slice b2 n2 k2)) = put3 w1 (w.heap.size + 1 + 1 + 1) (.bool (sumQ a (negQ b)).neg) (.slice b1 n1 k1) (.slice b2 n2 k2) from rfl]
  obtain ⟨wP, HWP⟩ : ∃ wP, Hid (put3 w1 (w.heap.size + 1 + 1 + 1) (.bool (sumQ a (negQ b)).neg) (.slice b1 n1 k1) (.slice b2 n2 k2) = wP) := ⟨_, rfl⟩
  rw [HWP.out] at hFr hBx hrX hbX hsX ⊢
  clear HWP f0 f1 f2 e0 e1 e2 hx hfx hT1 hbw hr
  obtain ⟨z9, HZ9⟩ : ∃ z, Hid (bigQ (sumQ a (negQ b)) = z) := ⟨_, rfl⟩
  refine (r_big_any _ (sumQ a (negQ b)) _ hrX).mono ?_
  rintro e w9 ⟨rfl, hb9⟩
  rw [HZ9.out]
  have hBx9 := hBx.below hsX hb9
  have hFr9 := hFr.later (by omega) hb9
  have hrX9 := hrX.below (Nat.le_refl _) hb9
  have hbX9 := Below.next hbX hb9 hbX.size
  obtain ⟨p0, p1, p2⟩ := hBx9.cells
  obtain ⟨f0, f1, f2, _, _⟩ := id hFr9
  obtain ⟨x0, x1, x2, e0, e1, e2⟩ := hFr9.cells
  obtain ⟨q0, q1, q2⟩ := put3_cells hFr9 (.bool (sumQ a (negQ b)).neg) (.slice b1 n1 k1) (.slice b2 n2 k2)
  have hres := RepQ.put3 hrX9 hFr9 (.bool (sumQ a (negQ b)).neg) (.slice b1 n1 k1) (.slice b2 n2 k2) (by simp) (by simp)
  have hbr := put3_below hbX9 (show w.heap.size ≤ w.heap.size + 1 + 1 by omega) (.bool (sumQ a (negQ b)).neg) (.slice b1 n1 k1) (.slice b2 n2 k2)
  unfold put3 at q0 q1 q2 hres hbr
  clear hFr hBx hrX hbX hsX hb9 hT
  cases z9
  · have HE : Hid (dyE 0 (sumQ a (negQ b)) = 0) := by simp [Hid, dyE, HZ9.out]
    go_wp2
    refine bodyPost_ret (v := .tuple #[.agg #[.bool (sumQ a (negQ b)).neg, .slice b1 n1 k1, .slice b2 n2 k2], .int .i64 0]) (by simp [results, Tryz.results25, go_sem, q0, q1, q2]) rfl ⟨_, _, rfl, by rw [HE.out], fun _ => hres, ⟨_, _, _, _, _, _, _, rfl⟩, hbr⟩
  · have HE : Hid (dyE 0 (sumQ a (negQ b)) = 10) := by simp [Hid, dyE, HZ9.out]
    go_wp2
    refine bodyPost_ret (v := .tuple #[.agg #[.bool (sumQ a (negQ b)).neg, .slice b1 n1 k1, .slice b2 n2 k2], .int .i64 10]) (by simp [results, Tryz.results25, go_sem, q0, q1, q2]) rfl ⟨_, _, rfl, by rw [HE.out], fun h => by simp at h, ⟨_, _, _, _, _, _, _, rfl⟩, hbr⟩

set_option maxRecDepth 100000 in
set_option maxHeartbeats 3200000 in
theorem r_dyad_over0 (v u : Value) (a b : Q) (w : World) (ha : RepQ w v a) (hb : RepQ w u b) (sa : a.Sm) (sb : b.Sm) (hz : b.n = 0) :
    Calls Tryz.prog 25 #[.string ⟨#[37]⟩, v, u] w fun e w' => ∃ v' er, e = .returned (.tuple #[v', .int .i64 er]) ∧ er = 9 ∧ (er = 0 → RepQ w' v' a) ∧ Shp v' ∧ Below w.heap.size w w' := by
  have ha' := ha
  have hb' := hb
  obtain ⟨a1, l1, c1, a2, l2, c2, rfl, h1, h2⟩ := ha.open
  obtain ⟨a3, l3, c3, a4, l4, c4, rfl, h3, h4⟩ := hb.open
  have oa := sa.ok
  have ob := sb.ok
  have hT := Four.new w a1 a2 a3 a4 l1 c1 l2 c2 l3 c3 l4 c4 a.neg b.neg 35 35 35 35
  have hW : ∀ o o' o'' o3, Below w.heap.size w ((((w.alloc o).alloc o').alloc o'').alloc o3) := fun o o' o'' o3 => ((((Below.refl _ _).alloc (Nat.le_refl _) o).alloc (by simp) o').alloc (by simp; omega) o'').alloc (by simp; omega) o3
  clear ha hb h1 h2 h3 h4
  have HZ : Hid (decide (b.n = 0) = true) := decide_eq_true hz
  clear hz
  go_enter Tryz.func25, Tryz.ntmps25
  go_wp2_with fail
  refine (r_zero_any _ b _ (hb'.below (Nat.le_refl _) (hW _ _ _ _))).mono ?_
  rintro e w1 ⟨rfl, hb1⟩
  rw [HZ.out]
  have hT1 := hT.later hb1
  have hbw := Below.next (hW _ _ _ _) hb1 (by simp; omega)
  obtain ⟨p0, p1, p2⟩ := hT1.t.a.cells
  obtain ⟨f0, f1, f2, _, _⟩ := id hT1.t.r
  obtain ⟨x0, x1, x2, e0, e1, e2⟩ := hT1.t.r.cells
  obtain ⟨q0, q1, q2⟩ := put3_cells hT1.t.r (.bool a.neg) (.slice a1 l1 c1) (.slice a2 l2 c2)
  have hbr := put3_below hbw (show w.heap.size ≤ w.heap.size + 1 + 1 by omega) (.bool a.neg) (.slice a1 l1 c1) (.slice a2 l2 c2)
  unfold put3 at q0 q1 q2 hbr
  go_wp2
  exact bodyPost_ret (v := .tuple #[.agg #[.bool a.neg, .slice a1 l1 c1, .slice a2 l2 c2], .int .i64 9]) (by simp [results, Tryz.results25, go_sem, q0, q1, q2]) rfl ⟨_, _, rfl, rfl, fun h => by simp at h, ⟨_, _, _, _, _, _, _, rfl⟩, hbr⟩

set_option maxRecDepth 100000 in
set_option maxHeartbeats 3200000 in
theorem r_dyad_over (v u : Value) (a b : Q) (w : World) (ha : RepQ w v a) (hb : RepQ w u b) (sa : a.Sm) (sb : b.Sm) (hz : ¬ b.n = 0) :
    Calls Tryz.prog 25 #[.string ⟨#[37]⟩, v, u] w fun e w' => ∃ v' er, e = .returned (.tuple #[v', .int .i64 er]) ∧ er = dyE 0 (mulQ a (invQ b)) ∧ (er = 0 → RepQ w' v' (mulQ a (invQ b))) ∧ Shp v' ∧ Below w.heap.size w w' := by
  have ha' := ha
  have hb' := hb
  obtain ⟨a1, l1, c1, a2, l2, c2, rfl, h1, h2⟩ := ha.open
  obtain ⟨a3, l3, c3, a4, l4, c4, rfl, h3, h4⟩ := hb.open
  have oa := sa.ok
  have ob := sb.ok
  have hT := Four.new w a1 a2 a3 a4 l1 c1 l2 c2 l3 c3 l4 c4 a.neg b.neg 35 35 35 35
  have hW : ∀ o o' o'' o3, Below w.heap.size w ((((w.alloc o).alloc o').alloc o'').alloc o3) := fun o o' o'' o3 => ((((Below.refl _ _).alloc (Nat.le_refl _) o).alloc (by simp) o').alloc (by simp; omega) o'').alloc (by simp; omega) o3
  clear ha hb h1 h2 h3 h4
  have HZ : Hid (decide (b.n = 0) = false) := decide_eq_false hz
  have sI : (invQ b).Sm := ⟨Int.le_of_lt sb.d0, sb.d1, by have := sb.n0; show 0 < b.n; omega, sb.n1⟩
  have hbo : RepQ w (.agg #[.bool b.neg, .slice a4 l4 c4, .slice a3 l3 c3]) (invQ b) := by
    obtain ⟨N, D, e, k1, k2⟩ := hb'
    cases e
    exact ⟨_, _, rfl, k2, k1⟩
  clear hz
  go_enter Tryz.func25, Tryz.ntmps25
  go_wp2_with fail
  refine (r_zero_any _ b _ (hb'.below (Nat.le_refl _) (hW _ _ _ _))).mono ?_
  rintro e w0 ⟨rfl, hb0⟩
  rw [HZ.out]
  have hT0 := hT.later hb0
  have hbw0 := Below.next (hW _ _ _ _) hb0 (by simp; omega)
  obtain ⟨p0, p1, p2⟩ := hT0.t.a.cells
  obtain ⟨r0, r1, r2⟩ := hT0.t.b.cells
  go_wp2_with fail
  refine (r_product_any _ _ a (invQ b) _ (ha'.below (Nat.le_refl _) hbw0) (hbo.below (Nat.le_refl _) hbw0) oa sI.ok).mono ?_
  rintro e w1 ⟨v1, rfl, hr, hb1⟩
  have hT1 := hT0.later hb1
  have hbw := Below.next hbw0 hb1 hbw0.size
  obtain ⟨b1, n1, k1, b2, n2, k2, rfl, _, _⟩ := RepQ.open hr
  clear p0 p1 p2 r0 r1 r2 hT0 hbw0 hb0 hb1
  obtain ⟨x0, x1, x2, hx, hfx⟩ := hT1.x
  obtain ⟨f0, f1, f2, _, _⟩ := id hfx
  obtain ⟨e0, e1, e2⟩ := hx.cells
  obtain ⟨hFr, hBx⟩ := hT1.put (mulQ a (invQ b)).neg b1 b2 n1 k1 n2 k2
  have hrX := RepQ.put3 hr hfx (.bool (mulQ a (invQ b)).neg) (.slice b1 n1 k1) (.slice b2 n2 k2) (by simp) (by simp)
  have hbX := put3_below hbw (show w.heap.size ≤ w.heap.size + 1 + 1 + 1 by omega) (.bool (mulQ a (invQ b)).neg) (.slice b1 n1 k1) (.slice b2 n2 k2)
  have hsX : w.heap.size + 1 + 1 + 1 < (put3 w1 (w.heap.size + 1 + 1 + 1) (.bool (mulQ a (invQ b)).neg) (.slice b1 n1 k1) (.slice b2 n2 k2)).heap.size := by rw [put3_size]; exact hT1.s
  go_wp2_with fail
  rw [show (((w1.setCell ⟨w.heap.size + 1 + 1 + 1, 0, none⟩ (.bool (mulQ a (invQ b)).neg)).setCell ⟨w.heap.size + 1 + 1 + 1, 1, none⟩ (.slice b1 n1 k1)).setCell ⟨w.heap.size + 1 + 1 + 1, 2, none⟩ (.slice b2 n2 k2)) = put3 w1 (w.heap.size + 1 + 1 + 1) (.bool (mulQ a (invQ b)).neg) (.slice b1 n1 k1) (.slice b2 n2 k2) from rfl]
  obtain ⟨wP, HWP⟩ : ∃ wP, Hid (put3 w1 (w.heap.size + 1 + 1 + 1) (.bool (mulQ a (invQ b)).neg) (.slice b1 n1 k1) (.slice b2 n2 k2) = wP) := ⟨_, rfl⟩
  rw [HWP.out] at hFr hBx hrX hbX hsX ⊢
  clear HWP f0 f1 f2 e0 e1 e2 hx hfx hT1 hbw hr
  obtain ⟨z9, HZ9⟩ : ∃ z, Hid (bigQ (mulQ a (invQ b)) = z) := ⟨_, rfl⟩
  refine (r_big_any _ (mulQ a (invQ b)) _ hrX).mono ?_
  rintro e w9 ⟨rfl, hb9⟩
  rw [HZ9.out]
  have hBx9 := hBx.below hsX hb9
  have hFr9 := hFr.later (by omega) hb9
  have hrX9 := hrX.below (Nat.le_refl _) hb9
  have hbX9 := Below.next hbX hb9 hbX.size
  obtain ⟨p0, p1, p2⟩ := hBx9.cells
  obtain ⟨f0, f1, f2, _, _⟩ := id hFr9
  obtain ⟨x0, x1, x2, e0, e1, e2⟩ := hFr9.cells
  obtain ⟨q0, q1, q2⟩ := put3_cells hFr9 (.bool (mulQ a (invQ b)).neg) (.slice b1 n1 k1) (.slice b2 n2 k2)
  have hres := RepQ.put3 hrX9 hFr9 (.bool (mulQ a (invQ b)).neg) (.slice b1 n1 k1) (.slice b2 n2 k2) (by simp) (by simp)
  have hbr := put3_below hbX9 (show w.heap.size ≤ w.heap.size + 1 + 1 by omega) (.bool (mulQ a (invQ b)).neg) (.slice b1 n1 k1) (.slice b2 n2 k2)
  unfold put3 at q0 q1 q2 hres hbr
  clear hFr hBx hrX hbX hsX hb9 hT
  cases z9
  · have HE : Hid (dyE 0 (mulQ a (invQ b)) = 0) := by simp [Hid, dyE, HZ9.out]
    go_wp2
    refine bodyPost_ret (v := .tuple #[.agg #[.bool (mulQ a (invQ b)).neg, .slice b1 n1 k1, .slice b2 n2 k2], .int .i64 0]) (by simp [results, Tryz.results25, go_sem, q0, q1, q2]) rfl ⟨_, _, rfl, by rw [HE.out], fun _ => hres, ⟨_, _, _, _, _, _, _, rfl⟩, hbr⟩
  · have HE : Hid (dyE 0 (mulQ a (invQ b)) = 10) := by simp [Hid, dyE, HZ9.out]
    go_wp2
    refine bodyPost_ret (v := .tuple #[.agg #[.bool (mulQ a (invQ b)).neg, .slice b1 n1 k1, .slice b2 n2 k2], .int .i64 10]) (by simp [results, Tryz.results25, go_sem, q0, q1, q2]) rfl ⟨_, _, rfl, by rw [HE.out], fun h => by simp at h, ⟨_, _, _, _, _, _, _, rfl⟩, hbr⟩

set_option maxRecDepth 100000 in
set_option maxHeartbeats 3200000 in
theorem r_dyad_lt (v u : Value) (a b : Q) (w : World) (ha : RepQ w v a) (hb : RepQ w u b) (sa : a.Sm) (sb : b.Sm) :
    Calls Tryz.prog 25 #[.string ⟨#[60]⟩, v, u] w fun e w' => ∃ v' er, e = .returned (.tuple #[v', .int .i64 er]) ∧ er = dyE 0 (truthQ (lessQ a b)) ∧ (er = 0 → RepQ w' v' (truthQ (lessQ a b))) ∧ Shp v' ∧ Below w.heap.size w w' := by
  have ha' := ha
  have hb' := hb
  obtain ⟨a1, l1, c1, a2, l2, c2, rfl, h1, h2⟩ := ha.open
  obtain ⟨a3, l3, c3, a4, l4, c4, rfl, h3, h4⟩ := hb.open
  have oa := sa.ok
  have ob := sb.ok
  have hT := Four.new w a1 a2 a3 a4 l1 c1 l2 c2 l3 c3 l4 c4 a.neg b.neg 35 35 35 35
  have hW : ∀ o o' o'' o3, Below w.heap.size w ((((w.alloc o).alloc o').alloc o'').alloc o3) := fun o o' o'' o3 => ((((Below.refl _ _).alloc (Nat.le_refl _) o).alloc (by simp) o').alloc (by simp; omega) o'').alloc (by simp; omega) o3
  clear ha hb h1 h2 h3 h4
  go_enter Tryz.func25, Tryz.ntmps25
  go_wp2_with fail
  refine (r_less_any _ _ a b _ (ha'.below (Nat.le_refl _) (hW _ _ _ _)) (hb'.below (Nat.le_refl _) (hW _ _ _ _)) oa ob).mono ?_
  rintro e w0 ⟨rfl, hb0⟩
  have hT0 := hT.later hb0
  have hbw0 := Below.next (hW _ _ _ _) hb0 (by simp; omega)
  go_wp2_with fail
  refine (r_truth_any _ _).mono ?_
  rintro e w1 ⟨v1, rfl, hr, hb1⟩
  have hT1 := hT0.later hb1
  have hbw := Below.next hbw0 hb1 hbw0.size
  obtain ⟨b1, n1, k1, b2, n2, k2, rfl, _, _⟩ := RepQ.open hr
  clear hT0 hbw0 hb0 hb1
  obtain ⟨x0, x1, x2, hx, hfx⟩ := hT1.x
  obtain ⟨f0, f1, f2, _, _⟩ := id hfx
  obtain ⟨e0, e1, e2⟩ := hx.cells
  obtain ⟨hFr, hBx⟩ := hT1.put (truthQ (lessQ a b)).neg b1 b2 n1 k1 n2 k2
  have hrX := RepQ.put3 hr hfx (.bool (truthQ (lessQ a b)).neg) (.slice b1 n1 k1) (.slice b2 n2 k2) (by simp) (by simp)
  have hbX := put3_below hbw (show w.heap.size ≤ w.heap.size + 1 + 1 + 1 by omega) (.bool (truthQ (lessQ a b)).neg) (.slice b1 n1 k1) (.slice b2 n2 k2)
  have hsX : w.heap.size + 1 + 1 + 1 < (put3 w1 (w.heap.size + 1 + 1 + 1) (.bool (truthQ (lessQ a b)).neg) (.slice b1 n1 k1) (.slice b2 n2 k2)).heap.size := by rw [put3_size]; exact hT1.s
  go_wp2_with fail
  rw [show (((w1.setCell ⟨w.heap.size + 1 + 1 + 1, 0, none⟩ (.bool (truthQ (lessQ a b)).neg)).setCell ⟨w.heap.size + 1 + 1 + 1, 1, none⟩ (.slice b1 n1 k1)).setCell ⟨w.heap.size + 1 + 1 + 1, 2, none⟩ (.slice b2 n2 k2)) = put3 w1 (w.heap.size + 1 + 1 + 1) (.bool (truthQ (lessQ a b)).neg) (.slice b1 n1 k1) (.slice b2 n2 k2) from rfl]
  obtain ⟨wP, HWP⟩ : ∃ wP, Hid (put3 w1 (w.heap.size + 1 + 1 + 1) (.bool (truthQ (lessQ a b)).neg) (.slice b1 n1 k1) (.slice b2 n2 k2) = wP) := ⟨_, rfl⟩
  rw [HWP.out] at hFr hBx hrX hbX hsX ⊢
  clear HWP f0 f1 f2 e0 e1 e2 hx hfx hT1 hbw hr
  obtain ⟨z9, HZ9⟩ : ∃ z, Hid (bigQ (truthQ (lessQ a b)) = z) := ⟨_, rfl⟩
  refine (r_big_any _ (truthQ (lessQ a b)) _ hrX).mono ?_
  rintro e w9 ⟨rfl, hb9⟩
  rw [HZ9.out]
  have hBx9 := hBx.below hsX hb9
  have hFr9 := hFr.later (by omega) hb9
  have hrX9 := hrX.below (Nat.le_refl _) hb9
  have hbX9 := Below.next hbX hb9 hbX.size
  obtain ⟨p0, p1, p2⟩ := hBx9.cells
  obtain ⟨f0, f1, f2, _, _⟩ := id hFr9
  obtain ⟨x0, x1, x2, e0, e1, e2⟩ := hFr9.cells
  obtain ⟨q0, q1, q2⟩ := put3_cells hFr9 (.bool (truthQ (lessQ a b)).neg) (.slice b1 n1 k1) (.slice b2 n2 k2)
  have hres := RepQ.put3 hrX9 hFr9 (.bool (truthQ (lessQ a b)).neg) (.slice b1 n1 k1) (.slice b2 n2 k2) (by simp) (by simp)
  have hbr := put3_below hbX9 (show w.heap.size ≤ w.heap.size + 1 + 1 by omega) (.bool (truthQ (lessQ a b)).neg) (.slice b1 n1 k1) (.slice b2 n2 k2)
  unfold put3 at q0 q1 q2 hres hbr
  clear hFr hBx hrX hbX hsX hb9 hT
  cases z9
  · have HE : Hid (dyE 0 (truthQ (lessQ a b)) = 0) := by simp [Hid, dyE, HZ9.out]
    go_wp2
    refine bodyPost_ret (v := .tuple #[.agg #[.bool (truthQ (lessQ a b)).neg, .slice b1 n1 k1, .slice b2 n2 k2], .int .i64 0]) (by simp [results, Tryz.results25, go_sem, q0, q1, q2]) rfl ⟨_, _, rfl, by rw [HE.out], fun _ => hres, ⟨_, _, _, _, _, _, _, rfl⟩, hbr⟩
  · have HE : Hid (dyE 0 (truthQ (lessQ a b)) = 10) := by simp [Hid, dyE, HZ9.out]
    go_wp2
    refine bodyPost_ret (v := .tuple #[.agg #[.bool (truthQ (lessQ a b)).neg, .slice b1 n1 k1, .slice b2 n2 k2], .int .i64 10]) (by simp [results, Tryz.results25, go_sem, q0, q1, q2]) rfl ⟨_, _, rfl, by rw [HE.out], fun h => by simp at h, ⟨_, _, _, _, _, _, _, rfl⟩, hbr⟩

set_option maxRecDepth 100000 in
set_option maxHeartbeats 3200000 in
theorem r_dyad_gt (v u : Value) (a b : Q) (w : World) (ha : RepQ w v a) (hb : RepQ w u b) (sa : a.Sm) (sb : b.Sm) :
    Calls Tryz.prog 25 #[.string ⟨#[62]⟩, v, u] w fun e w' => ∃ v' er, e = .returned (.tuple #[v', .int .i64 er]) ∧ er = dyE 0 (truthQ (lessQ b a)) ∧ (er = 0 → RepQ w' v' (truthQ (lessQ b a))) ∧ Shp v' ∧ Below w.heap.size w w' := by
  have ha' := ha
  have hb' := hb
  obtain ⟨a1, l1, c1, a2, l2, c2, rfl, h1, h2⟩ := ha.open
  obtain ⟨a3, l3, c3, a4, l4, c4, rfl, h3, h4⟩ := hb.open
  have oa := sa.ok
  have ob := sb.ok
  have hT := Four.new w a1 a2 a3 a4 l1 c1 l2 c2 l3 c3 l4 c4 a.neg b.neg 35 35 35 35
  have hW : ∀ o o' o'' o3, Below w.heap.size w ((((w.alloc o).alloc o').alloc o'').alloc o3) := fun o o' o'' o3 => ((((Below.refl _ _).alloc (Nat.le_refl _) o).alloc (by simp) o').alloc (by simp; omega) o'').alloc (by simp; omega) o3
  clear ha hb h1 h2 h3 h4
  go_enter Tryz.func25, Tryz.ntmps25
  go_wp2_with fail
  refine (r_less_any _ _ b a _ (hb'.below (Nat.le_refl _) (hW _ _ _ _)) (ha'.below (Nat.le_refl _) (hW _ _ _ _)) ob oa).mono ?_
  rintro e w0 ⟨rfl, hb0⟩
  have hT0 := hT.later hb0
  have hbw0 := Below.next (hW _ _ _ _) hb0 (by simp; omega)
  go_wp2_with fail
  refine (r_truth_any _ _).mono ?_
  rintro e w1 ⟨v1, rfl, hr, hb1⟩
  have hT1 := hT0.later hb1
  have hbw := Below.next hbw0 hb1 hbw0.size
  obtain ⟨b1, n1, k1, b2, n2, k2, rfl, _, _⟩ := RepQ.open hr
  clear hT0 hbw0 hb0 hb1
  obtain ⟨x0, x1, x2, hx, hfx⟩ := hT1.x
  obtain ⟨f0, f1, f2, _, _⟩ := id hfx
  obtain ⟨e0, e1, e2⟩ := hx.cells
  obtain ⟨hFr, hBx⟩ := hT1.put (truthQ (lessQ b a)).neg b1 b2 n1 k1 n2 k2
  have hrX := RepQ.put3 hr hfx (.bool (truthQ (lessQ b a)).neg) (.slice b1 n1 k1) (.slice b2 n2 k2) (by simp) (by simp)
  have hbX := put3_below hbw (show w.heap.size ≤ w.heap.size + 1 + 1 + 1 by omega) (.bool (truthQ (lessQ b a)).neg) (.slice b1 n1 k1) (.slice b2 n2 k2)
  have hsX : w.heap.size + 1 + 1 + 1 < (put3 w1 (w.heap.size + 1 + 1 + 1) (.bool (truthQ (lessQ b a)).neg) (.slice b1 n1 k1) (.slice b2 n2 k2)).heap.size := by rw [put3_size]; exact hT1.s
  go_wp2_with fail
  rw [show (((w1.setCell ⟨w.heap.size + 1 + 1 + 1, 0, none⟩ (.bool (truthQ (lessQ b a)).neg)).setCell ⟨w.heap.size + 1 + 1 + 1, 1, none⟩ (.slice b1 n1 k1)).setCell ⟨w.heap.size + 1 + 1 + 1, 2, none⟩ (.slice b2 n2 k2)) = put3 w1 (w.heap.size + 1 + 1 + 1) (.bool (truthQ (lessQ b a)).neg) (.slice b1 n1 k1) (.slice b2 n2 k2) from rfl]
  obtain ⟨wP, HWP⟩ : ∃ wP, Hid (put3 w1 (w.heap.size + 1 + 1 + 1) (.bool (truthQ (lessQ b a)).neg) (.slice b1 n1 k1) (.slice b2 n2 k2) = wP) := ⟨_, rfl⟩
  rw [HWP.out] at hFr hBx hrX hbX hsX ⊢
  clear HWP f0 f1 f2 e0 e1 e2 hx hfx hT1 hbw hr
  obtain ⟨z9, HZ9⟩ : ∃ z, Hid (bigQ (truthQ (lessQ b a)) = z) := ⟨_, rfl⟩
  refine (r_big_any _ (truthQ (lessQ b a)) _ hrX).mono ?_
  rintro e w9 ⟨rfl, hb9⟩
  rw [HZ9.out]
  have hBx9 := hBx.below hsX hb9
  have hFr9 := hFr.later (by omega) hb9
  have hrX9 := hrX.below (Nat.le_refl _) hb9
  have hbX9 := Below.next hbX hb9 hbX.size
  obtain ⟨p0, p1, p2⟩ := hBx9.cells
  obtain ⟨f0, f1, f2, _, _⟩ := id hFr9
  obtain ⟨x0, x1, x2, e0, e1, e2⟩ := hFr9.cells
  obtain ⟨q0, q1, q2⟩ := put3_cells hFr9 (.bool (truthQ (lessQ b a)).neg) (.slice b1 n1 k1) (.slice b2 n2 k2)
  have hres := RepQ.put3 hrX9 hFr9 (.bool (truthQ (lessQ b a)).neg) (.slice b1 n1 k1) (.slice b2 n2 k2) (by simp) (by simp)
  have hbr := put3_below hbX9 (show w.heap.size ≤ w.heap.size + 1 + 1 by omega) (.bool (truthQ (lessQ b a)).neg) (.slice b1 n1 k1) (.slice b2 n2 k2)
  unfold put3 at q0 q1 q2 hres hbr
  clear hFr hBx hrX hbX hsX hb9 hT
  cases z9
  · have HE : Hid (dyE 0 (truthQ (lessQ b a)) = 0) := by simp [Hid, dyE, HZ9.out]
    go_wp2
    refine bodyPost_ret (v := .tuple #[.agg #[.bool (truthQ (lessQ b a)).neg, .slice b1 n1 k1, .slice b2 n2 k2], .int .i64 0]) (by simp [results, Tryz.results25, go_sem, q0, q1, q2]) rfl ⟨_, _, rfl, by rw [HE.out], fun _ => hres, ⟨_, _, _, _, _, _, _, rfl⟩, hbr⟩
  · have HE : Hid (dyE 0 (truthQ (lessQ b a)) = 10) := by simp [Hid, dyE, HZ9.out]
    go_wp2
    refine bodyPost_ret (v := .tuple #[.agg #[.bool (truthQ (lessQ b a)).neg, .slice b1 n1 k1, .slice b2 n2 k2], .int .i64 10]) (by simp [results, Tryz.results25, go_sem, q0, q1, q2]) rfl ⟨_, _, rfl, by rw [HE.out], fun h => by simp at h, ⟨_, _, _, _, _, _, _, rfl⟩, hbr⟩
end Go.Proofs.YtknnjibmacmniaaGreatDoor
