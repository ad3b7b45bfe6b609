/- abacusref: Dyad: =, min, max, |, ^. -/
import Derived.Test.YtknnjibmacmniaaGreatDoorC10
namespace Go.Proofs.YtknnjibmacmniaaGreatDoor
open Go.RowKit
set_option linter.unusedVariables false

def eqQ (a b : Q) : Bool := !lessQ a b && !lessQ b a
theorem Four.newX (w : World) (a1 a2 a3 a4 : Option Addr) (l1 c1 l2 c2 l3 c3 l4 c4 : Nat) (n m : Bool) (T T' T'' T3 : Nat) :
    Box ((((w.alloc (.cells #[.bool n, .slice a1 l1 c1, .slice a2 l2 c2] T)).alloc (.cells #[.bool m, .slice a3 l3 c3, .slice a4 l4 c4] T')).alloc (.cells #[.bool false, .slice none 0 0, .slice none 0 0] T'')).alloc (.cells #[.bool n, .slice a1 l1 c1, .slice a2 l2 c2] T3)) (w.heap.size + 1 + 1 + 1) (.bool n) (.slice a1 l1 c1) (.slice a2 l2 c2) := by
  have hx := Box.new (((w.alloc (.cells #[.bool n, .slice a1 l1 c1, .slice a2 l2 c2] T)).alloc (.cells #[.bool m, .slice a3 l3 c3, .slice a4 l4 c4] T')).alloc (.cells #[.bool false, .slice none 0 0, .slice none 0 0] T'')) (.bool n) (.slice a1 l1 c1) (.slice a2 l2 c2) T3
  simp only [World.size_alloc] at hx
  exact hx

set_option maxRecDepth 100000 in
set_option maxHeartbeats 3200000 in
theorem r_dyad_eq (v u : Value) (a b : Q) (w : World) (ha : RepQ w v a) (hb : RepQ w u b) (sa : a.Sm) (sb : b.Sm) :
    Calls Tryz.prog 25 #[.string ⟨#[61]⟩, v, u] w fun e w' => ∃ v' er, e = .returned (.tuple #[v', .int .i64 er]) ∧ er = dyE 0 (truthQ (eqQ a b)) ∧ (er = 0 → RepQ w' v' (truthQ (eqQ a b))) ∧ Shp v' ∧ Below w.heap.size w w' := by
  have ha' := ha
  have hb' := hb
  obtain ⟨a1, l1, c1, a2, l2, c2, rfl, h1, h2⟩ := ha.open
  obtain ⟨a3, l3, c3, a4, l4, c4, rfl, h3, h4⟩ := hb.open
  have oa := sa.ok
  have ob := sb.ok
  have hT := Four.new w a1 a2 a3 a4 l1 c1 l2 c2 l3 c3 l4 c4 a.neg b.neg 35 35 35 35
  have hW : ∀ o o' o'' o3, Below w.heap.size w ((((w.alloc o).alloc o').alloc o'').alloc o3) := fun o o' o'' o3 => ((((Below.refl _ _).alloc (Nat.le_refl _) o).alloc (by simp) o').alloc (by simp; omega) o'').alloc (by simp; omega) o3
  clear ha hb h1 h2 h3 h4
  obtain ⟨s1, HS1⟩ : ∃ s, Hid (lessQ a b = s) := ⟨_, rfl⟩
  obtain ⟨s2, HS2⟩ : ∃ s, Hid (lessQ b a = s) := ⟨_, rfl⟩
  have HQ : Hid (eqQ a b = (!s1 && !s2)) := by unfold Hid eqQ; rw [HS1.out, HS2.out]
  go_enter Tryz.func25, Tryz.ntmps25
  go_wp2_with fail
  refine (r_less_any _ _ a b _ (ha'.below (Nat.le_refl _) (hW _ _ _ _)) (hb'.below (Nat.le_refl _) (hW _ _ _ _)) oa ob).mono ?_
  rintro e w0 ⟨rfl, hb0⟩
  rw [HS1.out]
  have hT0 := hT.later hb0
  have hbw0 := Below.next (hW _ _ _ _) hb0 (by simp; omega)
  obtain ⟨p0, p1, p2⟩ := hT0.t.a.cells
  obtain ⟨r0, r1, r2⟩ := hT0.t.b.cells
  cases s1
  · go_wp2_with fail
    refine (r_less_any _ _ b a _ (hb'.below (Nat.le_refl _) hbw0) (ha'.below (Nat.le_refl _) hbw0) ob oa).mono ?_
    rintro e w00 ⟨rfl, hb00⟩
    rw [HS2.out]
    have hT00 := hT0.later hb00
    have hbw00 := Below.next hbw0 hb00 hbw0.size
    clear p0 p1 p2 r0 r1 r2 hT0 hbw0 hb0 hb00
    go_wp2_with fail
    rw [show (!s2) = eqQ a b by rw [HQ.out]; rfl]
    refine (r_truth_any _ _).mono ?_
    rintro e w1 ⟨v1, rfl, hr, hb1⟩
    have hT1 := hT00.later hb1
    have hbw := Below.next hbw00 hb1 hbw00.size
    obtain ⟨b1, n1, k1, b2, n2, k2, rfl, _, _⟩ := RepQ.open hr
    clear hT00 hbw00 hb1
    obtain ⟨x0, x1, x2, hx, hfx⟩ := hT1.x
    obtain ⟨f0, f1, f2, _, _⟩ := id hfx
    obtain ⟨e0, e1, e2⟩ := hx.cells
    obtain ⟨hFr, hBx⟩ := hT1.put (truthQ (eqQ a b)).neg b1 b2 n1 k1 n2 k2
    have hrX := RepQ.put3 hr hfx (.bool (truthQ (eqQ a b)).neg) (.slice b1 n1 k1) (.slice b2 n2 k2) (by simp) (by simp)
    have hbX := put3_below hbw (show w.heap.size ≤ w.heap.size + 1 + 1 + 1 by omega) (.bool (truthQ (eqQ a b)).neg) (.slice b1 n1 k1) (.slice b2 n2 k2)
    have hsX : w.heap.size + 1 + 1 + 1 < (put3 w1 (w.heap.size + 1 + 1 + 1) (.bool (truthQ (eqQ a b)).neg) (.slice b1 n1 k1) (.slice b2 n2 k2)).heap.size := by rw [put3_size]; exact hT1.s
    go_wp2_with fail
    rw [show (((w1.setCell ⟨w.heap.size + 1 + 1 + 1, 0, none⟩ (.bool (truthQ (eqQ a b)).neg)).setCell ⟨w.heap.size + 1 + 1 + 1, 1, none⟩ (.slice b1 n1 k1)).setCell ⟨w.heap.size + 1 + 1 + 1, 2, none⟩ (.slice b2 n2 k2)) = put3 w1 (w.heap.size + 1 + 1 + 1) (.bool (truthQ (eqQ a b)).neg) (.slice b1 n1 k1) (.slice b2 n2 k2) from rfl]
    obtain ⟨wP, HWP⟩ : ∃ wP, Hid (put3 w1 (w.heap.size + 1 + 1 + 1) (.bool (truthQ (eqQ a b)).neg) (.slice b1 n1 k1) (.slice b2 n2 k2) = wP) := ⟨_, rfl⟩
    rw [HWP.out] at hFr hBx hrX hbX hsX ⊢
    clear HWP f0 f1 f2 e0 e1 e2 hx hfx hT1 hbw hr
    obtain ⟨z9, HZ9⟩ : ∃ z, Hid (bigQ (truthQ (eqQ a b)) = z) := ⟨_, rfl⟩
    refine (r_big_any _ (truthQ (eqQ a b)) _ hrX).mono ?_
    rintro e w9 ⟨rfl, hb9⟩
    rw [HZ9.out]
    have hBx9 := hBx.below hsX hb9
    have hFr9 := hFr.later (by omega) hb9
    have hrX9 := hrX.below (Nat.le_refl _) hb9
    have hbX9 := Below.next hbX hb9 hbX.size
    obtain ⟨p0, p1, p2⟩ := hBx9.cells
    obtain ⟨f0, f1, f2, _, _⟩ := id hFr9
    obtain ⟨x0, x1, x2, e0, e1, e2⟩ := hFr9.cells
    obtain ⟨q0, q1, q2⟩ := put3_cells hFr9 (.bool (truthQ (eqQ a b)).neg) (.slice b1 n1 k1) (.slice b2 n2 k2)
    have hres := RepQ.put3 hrX9 hFr9 (.bool (truthQ (eqQ a b)).neg) (.slice b1 n1 k1) (.slice b2 n2 k2) (by simp) (by simp)
    have hbr := put3_below hbX9 (show w.heap.size ≤ w.heap.size + 1 + 1 by omega) (.bool (truthQ (eqQ a b)).neg) (.slice b1 n1 k1) (.slice b2 n2 k2)
    unfold put3 at q0 q1 q2 hres hbr
    clear hFr hBx hrX hbX hsX hb9 hT
    cases z9
    · have HE : Hid (dyE 0 (truthQ (eqQ a b)) = 0) := by simp [Hid, dyE, HZ9.out]
      go_wp2
      refine bodyPost_ret (v := .tuple #[.agg #[.bool (truthQ (eqQ a b)).neg, .slice b1 n1 k1, .slice b2 n2 k2], .int .i64 0]) (by simp [results, Tryz.results25, go_sem, q0, q1, q2]) rfl ⟨_, _, rfl, by rw [HE.out], fun _ => hres, ⟨_, _, _, _, _, _, _, rfl⟩, hbr⟩
    · have HE : Hid (dyE 0 (truthQ (eqQ a b)) = 10) := by simp [Hid, dyE, HZ9.out]
      go_wp2
      refine bodyPost_ret (v := .tuple #[.agg #[.bool (truthQ (eqQ a b)).neg, .slice b1 n1 k1, .slice b2 n2 k2], .int .i64 10]) (by simp [results, Tryz.results25, go_sem, q0, q1, q2]) rfl ⟨_, _, rfl, by rw [HE.out], fun h => by simp at h, ⟨_, _, _, _, _, _, _, rfl⟩, hbr⟩
  · go_wp2_with fail
    rw [show false = eqQ a b by rw [HQ.out]; rfl]
    refine (r_truth_any _ _).mono ?_
    rintro e w1 ⟨v1, rfl, hr, hb1⟩
    have hT1 := hT0.later hb1
    have hbw := Below.next hbw0 hb1 hbw0.size
    obtain ⟨b1, n1, k1, b2, n2, k2, rfl, _, _⟩ := RepQ.open hr
    clear p0 p1 p2 r0 r1 r2 hT0 hbw0 hb0 hb1
    obtain ⟨x0, x1, x2, hx, hfx⟩ := hT1.x
    obtain ⟨f0, f1, f2, _, _⟩ := id hfx
    obtain ⟨e0, e1, e2⟩ := hx.cells
    obtain ⟨hFr, hBx⟩ := hT1.put (truthQ (eqQ a b)).neg b1 b2 n1 k1 n2 k2
    have hrX := RepQ.put3 hr hfx (.bool (truthQ (eqQ a b)).neg) (.slice b1 n1 k1) (.slice b2 n2 k2) (by simp) (by simp)
    have hbX := put3_below hbw (show w.heap.size ≤ w.heap.size + 1 + 1 + 1 by omega) (.bool (truthQ (eqQ a b)).neg) (.slice b1 n1 k1) (.slice b2 n2 k2)
    have hsX : w.heap.size + 1 + 1 + 1 < (put3 w1 (w.heap.size + 1 + 1 + 1) (.bool (truthQ (eqQ a b)).neg) (.slice b1 n1 k1) (.slice b2 n2 k2)).heap.size := by rw [put3_size]; exact hT1.s
    go_wp2_with fail
    rw [show (((w1.setCell ⟨w.heap.size + 1 + 1 + 1, 0, none⟩ (.bool (truthQ (eqQ a b)).neg)).setCell ⟨w.heap.size + 1 + 1 + 1, 1, none⟩ (.slice b1 n1 k1)).setCell ⟨w.heap.size + 1 + 1 + 1, 2, none⟩ (.slice b2 n2 k2)) = put3 w1 (w.heap.size + 1 + 1 + 1) (.bool (truthQ (eqQ a b)).neg) (.slice b1 n1 k1) (.slice b2 n2 k2) from rfl]
    obtain ⟨wP, HWP⟩ : ∃ wP, Hid (put3 w1 (w.heap.size + 1 + 1 + 1) (.bool (truthQ (eqQ a b)).neg) (.slice b1 n1 k1) (.slice b2 n2 k2) = wP) := ⟨_, rfl⟩
    rw [HWP.out] at hFr hBx hrX hbX hsX ⊢
    clear HWP f0 f1 f2 e0 e1 e2 hx hfx hT1 hbw hr
    obtain ⟨z9, HZ9⟩ : ∃ z, Hid (bigQ (truthQ (eqQ a b)) = z) := ⟨_, rfl⟩
    refine (r_big_any _ (truthQ (eqQ a b)) _ hrX).mono ?_
    rintro e w9 ⟨rfl, hb9⟩
    rw [HZ9.out]
    have hBx9 := hBx.below hsX hb9
    have hFr9 := hFr.later (by omega) hb9
    have hrX9 := hrX.below (Nat.le_refl _) hb9
    have hbX9 := Below.next hbX hb9 hbX.size
    obtain ⟨p0, p1, p2⟩ := hBx9.cells
    obtain ⟨f0, f1, f2, _, _⟩ := id hFr9
    obtain ⟨x0, x1, x2, e0, e1, e2⟩ := hFr9.cells
    obtain ⟨q0, q1, q2⟩ := put3_cells hFr9 (.bool (truthQ (eqQ a b)).neg) (.slice b1 n1 k1) (.slice b2 n2 k2)
    have hres := RepQ.put3 hrX9 hFr9 (.bool (truthQ (eqQ a b)).neg) (.slice b1 n1 k1) (.slice b2 n2 k2) (by simp) (by simp)
    have hbr := put3_below hbX9 (show w.heap.size ≤ w.heap.size + 1 + 1 by omega) (.bool (truthQ (eqQ a b)).neg) (.slice b1 n1 k1) (.slice b2 n2 k2)
    unfold put3 at q0 q1 q2 hres hbr
    clear hFr hBx hrX hbX hsX hb9 hT
    cases z9
    · have HE : Hid (dyE 0 (truthQ (eqQ a b)) = 0) := by simp [Hid, dyE, HZ9.out]
      go_wp2
      refine bodyPost_ret (v := .tuple #[.agg #[.bool (truthQ (eqQ a b)).neg, .slice b1 n1 k1, .slice b2 n2 k2], .int .i64 0]) (by simp [results, Tryz.results25, go_sem, q0, q1, q2]) rfl ⟨_, _, rfl, by rw [HE.out], fun _ => hres, ⟨_, _, _, _, _, _, _, rfl⟩, hbr⟩
    · have HE : Hid (dyE 0 (truthQ (eqQ a b)) = 10) := by simp [Hid, dyE, HZ9.out]
      go_wp2
      refine bodyPost_ret (v := .tuple #[.agg #[.bool (truthQ (eqQ a b)).neg, .slice b1 n1 k1, .slice b2 n2 k2], .int .i64 10]) (by simp [results, Tryz.results25, go_sem, q0, q1, q2]) rfl ⟨_, _, rfl, by rw [HE.out], fun h => by simp at h, ⟨_, _, _, _, _, _, _, rfl⟩, hbr⟩

set_option maxRecDepth 100000 in
set_option maxHeartbeats 3200000 in
theorem r_dyad_min (v u : Value) (a b : Q) (w : World) (ha : RepQ w v a) (hb : RepQ w u b) (sa : a.Sm) (sb : b.Sm) :
    Calls Tryz.prog 25 #[.string ⟨#[109, 105, 110]⟩, v, u] w fun e w' => ∃ v' er, e = .returned (.tuple #[v', .int .i64 er]) ∧ er = dyE 0 (if lessQ b a then b else a) ∧ (er = 0 → RepQ w' v' (if lessQ b a then b else a)) ∧ Shp v' ∧ Below w.heap.size w w' := by
  have ha' := ha
  have hb' := hb
  obtain ⟨a1, l1, c1, a2, l2, c2, rfl, h1, h2⟩ := ha.open
  obtain ⟨a3, l3, c3, a4, l4, c4, rfl, h3, h4⟩ := hb.open
  have oa := sa.ok
  have ob := sb.ok
  have hT := Four.new w a1 a2 a3 a4 l1 c1 l2 c2 l3 c3 l4 c4 a.neg b.neg 35 35 35 35
  have hW : ∀ o o' o'' o3, Below w.heap.size w ((((w.alloc o).alloc o').alloc o'').alloc o3) := fun o o' o'' o3 => ((((Below.refl _ _).alloc (Nat.le_refl _) o).alloc (by simp) o').alloc (by simp; omega) o'').alloc (by simp; omega) o3
  clear ha hb h1 h2 h3 h4
  have hXa := Four.newX w a1 a2 a3 a4 l1 c1 l2 c2 l3 c3 l4 c4 a.neg b.neg 35 35 35 35
  obtain ⟨s1, HS1⟩ : ∃ s, Hid (lessQ b a = s) := ⟨_, rfl⟩
  rw [HS1.out]
  have hsW := hT.s
  cases s1
  · rw [show (if false = true then b else a) = a from rfl]
    go_enter Tryz.func25, Tryz.ntmps25
    go_wp2_with fail
    refine (r_less_any _ _ b a _ (hb'.below (Nat.le_refl _) (hW _ _ _ _)) (ha'.below (Nat.le_refl _) (hW _ _ _ _)) ob oa).mono ?_
    rintro e w1 ⟨rfl, hb1⟩
    rw [HS1.out]
    have hT1 := hT.later hb1
    have hBx := hXa.below hsW hb1
    have hFr := hT1.t.r
    have hbX := Below.next (hW _ _ _ _) hb1 (by simp; omega)
    have hrX := ha'.below (Nat.le_refl _) hbX
    have hsX := hT1.s
    obtain ⟨p0, p1, p2⟩ := hBx.cells
    clear hT1 hb1 hXa
    go_wp2_with fail
    clear p0 p1 p2
    obtain ⟨z9, HZ9⟩ : ∃ z, Hid (bigQ a = z) := ⟨_, rfl⟩
    refine (r_big_any _ a _ hrX).mono ?_
    rintro e w9 ⟨rfl, hb9⟩
    rw [HZ9.out]
    have hBx9 := hBx.below hsX hb9
    have hFr9 := hFr.later (by omega) hb9
    have hrX9 := hrX.below (Nat.le_refl _) hb9
    have hbX9 := Below.next hbX hb9 hbX.size
    obtain ⟨p0, p1, p2⟩ := hBx9.cells
    obtain ⟨f0, f1, f2, _, _⟩ := id hFr9
    obtain ⟨x0, x1, x2, e0, e1, e2⟩ := hFr9.cells
    obtain ⟨q0, q1, q2⟩ := put3_cells hFr9 (.bool a.neg) (.slice a1 l1 c1) (.slice a2 l2 c2)
    have hres := RepQ.put3 hrX9 hFr9 (.bool a.neg) (.slice a1 l1 c1) (.slice a2 l2 c2) (by simp) (by simp)
    have hbr := put3_below hbX9 (show w.heap.size ≤ w.heap.size + 1 + 1 by omega) (.bool a.neg) (.slice a1 l1 c1) (.slice a2 l2 c2)
    unfold put3 at q0 q1 q2 hres hbr
    clear hFr hBx hrX hbX hsX hb9 hT
    cases z9
    · have HE : Hid (dyE 0 a = 0) := by simp [Hid, dyE, HZ9.out]
      go_wp2
      refine bodyPost_ret (v := .tuple #[.agg #[.bool a.neg, .slice a1 l1 c1, .slice a2 l2 c2], .int .i64 0]) (by simp [results, Tryz.results25, go_sem, q0, q1, q2]) rfl ⟨_, _, rfl, by rw [HE.out], fun _ => hres, ⟨_, _, _, _, _, _, _, rfl⟩, hbr⟩
    · have HE : Hid (dyE 0 a = 10) := by simp [Hid, dyE, HZ9.out]
      go_wp2
      refine bodyPost_ret (v := .tuple #[.agg #[.bool a.neg, .slice a1 l1 c1, .slice a2 l2 c2], .int .i64 10]) (by simp [results, Tryz.results25, go_sem, q0, q1, q2]) rfl ⟨_, _, rfl, by rw [HE.out], fun h => by simp at h, ⟨_, _, _, _, _, _, _, rfl⟩, hbr⟩
  · rw [show (if true = true then b else a) = b from rfl]
    go_enter Tryz.func25, Tryz.ntmps25
    go_wp2_with fail
    refine (r_less_any _ _ b a _ (hb'.below (Nat.le_refl _) (hW _ _ _ _)) (ha'.below (Nat.le_refl _) (hW _ _ _ _)) ob oa).mono ?_
    rintro e w1 ⟨rfl, hb1⟩
    rw [HS1.out]
    have hT1 := hT.later hb1
    have hbw := Below.next (hW _ _ _ _) hb1 (by simp; omega)
    have hr := hb'.below (Nat.le_refl _) hbw
    obtain ⟨r0, r1, r2⟩ := hT1.t.b.cells
    clear hXa hb1
    obtain ⟨x0, x1, x2, hx, hfx⟩ := hT1.x
    obtain ⟨f0, f1, f2, _, _⟩ := id hfx
    obtain ⟨e0, e1, e2⟩ := hx.cells
    obtain ⟨hFr, hBx⟩ := hT1.put b.neg a3 a4 l3 c3 l4 c4
    have hrX := RepQ.put3 hr hfx (.bool b.neg) (.slice a3 l3 c3) (.slice a4 l4 c4) (by simp) (by simp)
    have hbX := put3_below hbw (show w.heap.size ≤ w.heap.size + 1 + 1 + 1 by omega) (.bool b.neg) (.slice a3 l3 c3) (.slice a4 l4 c4)
    have hsX : w.heap.size + 1 + 1 + 1 < (put3 w1 (w.heap.size + 1 + 1 + 1) (.bool b.neg) (.slice a3 l3 c3) (.slice a4 l4 c4)).heap.size := by rw [put3_size]; exact hT1.s
    go_wp2_with fail
    rw [show (((w1.setCell ⟨w.heap.size + 1 + 1 + 1, 0, none⟩ (.bool b.neg)).setCell ⟨w.heap.size + 1 + 1 + 1, 1, none⟩ (.slice a3 l3 c3)).setCell ⟨w.heap.size + 1 + 1 + 1, 2, none⟩ (.slice a4 l4 c4)) = put3 w1 (w.heap.size + 1 + 1 + 1) (.bool b.neg) (.slice a3 l3 c3) (.slice a4 l4 c4) from rfl]
    obtain ⟨wP, HWP⟩ : ∃ wP, Hid (put3 w1 (w.heap.size + 1 + 1 + 1) (.bool b.neg) (.slice a3 l3 c3) (.slice a4 l4 c4) = wP) := ⟨_, rfl⟩
    rw [HWP.out] at hFr hBx hrX hbX hsX ⊢
    clear r0 r1 r2 HWP f0 f1 f2 e0 e1 e2 hx hfx hT1 hbw hr
    obtain ⟨z9, HZ9⟩ : ∃ z, Hid (bigQ b = z) := ⟨_, rfl⟩
    refine (r_big_any _ b _ hrX).mono ?_
    rintro e w9 ⟨rfl, hb9⟩
    rw [HZ9.out]
    have hBx9 := hBx.below hsX hb9
    have hFr9 := hFr.later (by omega) hb9
    have hrX9 := hrX.below (Nat.le_refl _) hb9
    have hbX9 := Below.next hbX hb9 hbX.size
    obtain ⟨p0, p1, p2⟩ := hBx9.cells
    obtain ⟨f0, f1, f2, _, _⟩ := id hFr9
    obtain ⟨x0, x1, x2, e0, e1, e2⟩ := hFr9.cells
    obtain ⟨q0, q1, q2⟩ := put3_cells hFr9 (.bool b.neg) (.slice a3 l3 c3) (.slice a4 l4 c4)
    have hres := RepQ.put3 hrX9 hFr9 (.bool b.neg) (.slice a3 l3 c3) (.slice a4 l4 c4) (by simp) (by simp)
    have hbr := put3_below hbX9 (show w.heap.size ≤ w.heap.size + 1 + 1 by omega) (.bool b.neg) (.slice a3 l3 c3) (.slice a4 l4 c4)
    unfold put3 at q0 q1 q2 hres hbr
    clear hFr hBx hrX hbX hsX hb9 hT
    cases z9
    · have HE : Hid (dyE 0 b = 0) := by simp [Hid, dyE, HZ9.out]
      go_wp2
      refine bodyPost_ret (v := .tuple #[.agg #[.bool b.neg, .slice a3 l3 c3, .slice a4 l4 c4], .int .i64 0]) (by simp [results, Tryz.results25, go_sem, q0, q1, q2]) rfl ⟨_, _, rfl, by rw [HE.out], fun _ => hres, ⟨_, _, _, _, _, _, _, rfl⟩, hbr⟩
    · have HE : Hid (dyE 0 b = 10) := by simp [Hid, dyE, HZ9.out]
      go_wp2
      refine bodyPost_ret (v := .tuple #[.agg #[.bool b.neg, .slice a3 l3 c3, .slice a4 l4 c4], .int .i64 10]) (by simp [results, Tryz.results25, go_sem, q0, q1, q2]) rfl ⟨_, _, rfl, by rw [HE.out], fun h => by simp at h, ⟨_, _, _, _, _, _, _, rfl⟩, hbr⟩

set_option maxRecDepth 100000 in
set_option maxHeartbeats 3200000 in
theorem r_dyad_max (v u : Value) (a b : Q) (w : World) (ha : RepQ w v a) (hb : RepQ w u b) (sa : a.Sm) (sb : b.Sm) :
    Calls Tryz.prog 25 #[.string ⟨#[109, 97, 120]⟩, v, u] w fun e w' => ∃ v' er, e = .returned (.tuple #[v', .int .i64 er]) ∧ er = dyE 0 (if lessQ a b then b else a) ∧ (er = 0 → RepQ w' v' (if lessQ a b then b else a)) ∧ Shp v' ∧ Below w.heap.size w w' := by
  have ha' := ha
  have hb' := hb
  obtain ⟨a1, l1, c1, a2, l2, c2, rfl, h1, h2⟩ := ha.open
  obtain ⟨a3, l3, c3, a4, l4, c4, rfl, h3, h4⟩ := hb.open
  have oa := sa.ok
  have ob := sb.ok
  have hT := Four.new w a1 a2 a3 a4 l1 c1 l2 c2 l3 c3 l4 c4 a.neg b.neg 35 35 35 35
  have hW : ∀ o o' o'' o3, Below w.heap.size w ((((w.alloc o).alloc o').alloc o'').alloc o3) := fun o o' o'' o3 => ((((Below.refl _ _).alloc (Nat.le_refl _) o).alloc (by simp) o').alloc (by simp; omega) o'').alloc (by simp; omega) o3
  clear ha hb h1 h2 h3 h4
  have hXa := Four.newX w a1 a2 a3 a4 l1 c1 l2 c2 l3 c3 l4 c4 a.neg b.neg 35 35 35 35
  obtain ⟨s1, HS1⟩ : ∃ s, Hid (lessQ a b = s) := ⟨_, rfl⟩
  rw [HS1.out]
  have hsW := hT.s
  cases s1
  · rw [show (if false = true then b else a) = a from rfl]
    go_enter Tryz.func25, Tryz.ntmps25
    go_wp2_with fail
    refine (r_less_any _ _ a b _ (ha'.below (Nat.le_refl _) (hW _ _ _ _)) (hb'.below (Nat.le_refl _) (hW _ _ _ _)) oa ob).mono ?_
    rintro e w1 ⟨rfl, hb1⟩
    rw [HS1.out]
    have hT1 := hT.later hb1
    have hBx := hXa.below hsW hb1
    have hFr := hT1.t.r
    have hbX := Below.next (hW _ _ _ _) hb1 (by simp; omega)
    have hrX := ha'.below (Nat.le_refl _) hbX
    have hsX := hT1.s
    obtain ⟨p0, p1, p2⟩ := hBx.cells
    clear hT1 hb1 hXa
    go_wp2_with fail
    clear p0 p1 p2
    obtain ⟨z9, HZ9⟩ : ∃ z, Hid (bigQ a = z) := ⟨_, rfl⟩
    refine (r_big_any _ a _ hrX).mono ?_
    rintro e w9 ⟨rfl, hb9⟩
    rw [HZ9.out]
    have hBx9 := hBx.below hsX hb9
    have hFr9 := hFr.later (by omega) hb9
    have hrX9 := hrX.below (Nat.le_refl _) hb9
    have hbX9 := Below.next hbX hb9 hbX.size
    obtain ⟨p0, p1, p2⟩ := hBx9.cells
    obtain ⟨f0, f1, f2, _, _⟩ := id hFr9
    obtain ⟨x0, x1, x2, e0, e1, e2⟩ := hFr9.cells
    obtain ⟨q0, q1, q2⟩ := put3_cells hFr9 (.bool a.neg) (.slice a1 l1 c1) (.slice a2 l2 c2)
    have hres := RepQ.put3 hrX9 hFr9 (.bool a.neg) (.slice a1 l1 c1) (.slice a2 l2 c2) (by simp) (by simp)
    have hbr := put3_below hbX9 (show w.heap.size ≤ w.heap.size + 1 + 1 by omega) (.bool a.neg) (.slice a1 l1 c1) (.slice a2 l2 c2)
    unfold put3 at q0 q1 q2 hres hbr
    clear hFr hBx hrX hbX hsX hb9 hT
    cases z9
    · have HE : Hid (dyE 0 a = 0) := by simp [Hid, dyE, HZ9.out]
      go_wp2
      refine bodyPost_ret (v := .tuple #[.agg #[.bool a.neg, .slice a1 l1 c1, .slice a2 l2 c2], .int .i64 0]) (by simp [results, Tryz.results25, go_sem, q0, q1, q2]) rfl ⟨_, _, rfl, by rw [HE.out], fun _ => hres, ⟨_, _, _, _, _, _, _, rfl⟩, hbr⟩
    · have HE : Hid (dyE 0 a = 10) := by simp [Hid, dyE, HZ9.out]
      go_wp2
      refine bodyPost_ret (v := .tuple #[.agg #[.bool a.neg, .slice a1 l1 c1, .slice a2 l2 c2], .int .i64 10]) (by simp [results, Tryz.results25, go_sem, q0, q1, q2]) rfl ⟨_, _, rfl, by rw [HE.out], fun h => by simp at h, ⟨_, _, _, _, _, _, _, rfl⟩, hbr⟩
  · rw [show (if true = true then b else a) = b from rfl]
    go_enter Tryz.func25, Tryz.ntmps25
    go_wp2_with fail
    refine (r_less_any _ _ a b _ (ha'.below (Nat.le_refl _) (hW _ _ _ _)) (hb'.below (Nat.le_refl _) (hW _ _ _ _)) oa ob).mono ?_
    rintro e w1 ⟨rfl, hb1⟩
    rw [HS1.out]
    have hT1 := hT.later hb1
    have hbw := Below.next (hW _ _ _ _) hb1 (by simp; omega)
    have hr := hb'.below (Nat.le_refl _) hbw
    obtain ⟨r0, r1, r2⟩ := hT1.t.b.cells
    clear hXa hb1
    obtain ⟨x0, x1, x2, hx, hfx⟩ := hT1.x
    obtain ⟨f0, f1, f2, _, _⟩ := id hfx
    obtain ⟨e0, e1, e2⟩ := hx.cells
    obtain ⟨hFr, hBx⟩ := hT1.put b.neg a3 a4 l3 c3 l4 c4
    have hrX := RepQ.put3 hr hfx (.bool b.neg) (.slice a3 l3 c3) (.slice a4 l4 c4) (by simp) (by simp)
    have hbX := put3_below hbw (show w.heap.size ≤ w.heap.size + 1 + 1 + 1 by omega) (.bool b.neg) (.slice a3 l3 c3) (.slice a4 l4 c4)
    have hsX : w.heap.size + 1 + 1 + 1 < (put3 w1 (w.heap.size + 1 + 1 + 1) (.bool b.neg) (.slice a3 l3 c3) (.slice a4 l4 c4)).heap.size := by rw [put3_size]; exact hT1.s
    go_wp2_with fail
    rw [show (((w1.setCell ⟨w.heap.size + 1 + 1 + 1, 0, none⟩ (.bool b.neg)).setCell ⟨w.heap.size + 1 + 1 + 1, 1, none⟩ (.slice a3 l3 c3)).setCell ⟨w.heap.size + 1 + 1 + 1, 2, none⟩ (.slice a4 l4 c4)) = put3 w1 (w.heap.size + 1 + 1 + 1) (.bool b.neg) (.slice a3 l3 c3) (.slice a4 l4 c4) from rfl]
    obtain ⟨wP, HWP⟩ : ∃ wP, Hid (put3 w1 (w.heap.size + 1 + 1 + 1) (.bool b.neg) (.slice a3 l3 c3) (.slice a4 l4 c4) = wP) := ⟨_, rfl⟩
    rw [HWP.out] at hFr hBx hrX hbX hsX ⊢
    clear r0 r1 r2 HWP f0 f1 f2 e0 e1 e2 hx hfx hT1 hbw hr
    obtain ⟨z9, HZ9⟩ : ∃ z, Hid (bigQ b = z) := ⟨_, rfl⟩
    refine (r_big_any _ b _ hrX).mono ?_
    rintro e w9 ⟨rfl, hb9⟩
    rw [HZ9.out]
    have hBx9 := hBx.below hsX hb9
    have hFr9 := hFr.later (by omega) hb9
    have hrX9 := hrX.below (Nat.le_refl _) hb9
    have hbX9 := Below.next hbX hb9 hbX.size
    obtain ⟨p0, p1, p2⟩ := hBx9.cells
    obtain ⟨f0, f1, f2, _, _⟩ := id hFr9
    obtain ⟨x0, x1, x2, e0, e1, e2⟩ := hFr9.cells
    obtain ⟨q0, q1, q2⟩ := put3_cells hFr9 (.bool b.neg) (.slice a3 l3 c3) (.slice a4 l4 c4)
    have hres := RepQ.put3 hrX9 hFr9 (.bool b.neg) (.slice a3 l3 c3) (.slice a4 l4 c4) (by simp) (by simp)
    have hbr := put3_below hbX9 (show w.heap.size ≤ w.heap.size + 1 + 1 by omega) (.bool b.neg) (.slice a3 l3 c3) (.slice a4 l4 c4)
    unfold put3 at q0 q1 q2 hres hbr
    clear hFr hBx hrX hbX hsX hb9 hT
    cases z9
    · have HE : Hid (dyE 0 b = 0) := by simp [Hid, dyE, HZ9.out]
      go_wp2
      refine bodyPost_ret (v := .tuple #[.agg #[.bool b.neg, .slice a3 l3 c3, .slice a4 l4 c4], .int .i64 0]) (by simp [results, Tryz.results25, go_sem, q0, q1, q2]) rfl ⟨_, _, rfl, by rw [HE.out], fun _ => hres, ⟨_, _, _, _, _, _, _, rfl⟩, hbr⟩
    · have HE : Hid (dyE 0 b = 10) := by simp [Hid, dyE, HZ9.out]
      go_wp2
      refine bodyPost_ret (v := .tuple #[.agg #[.bool b.neg, .slice a3 l3 c3, .slice a4 l4 c4], .int .i64 10]) (by simp [results, Tryz.results25, go_sem, q0, q1, q2]) rfl ⟨_, _, rfl, by rw [HE.out], fun h => by simp at h, ⟨_, _, _, _, _, _, _, rfl⟩, hbr⟩

set_option maxRecDepth 100000 in
set_option maxHeartbeats 3200000 in
theorem r_dyad_rest_run (v u : Value) (a b : Q) (w : World) (ha : RepQ w v a) (hb : RepQ w u b) (sa : a.Sm) (sb : b.Sm) (ha1 : a.d = 1) (hb1' : b.d = 1) (hz : ¬ a.n = 0) :
    Calls Tryz.prog 25 #[.string ⟨#[124]⟩, v, u] w fun e w' => ∃ v' er, e = .returned (.tuple #[v', .int .i64 er]) ∧ er = dyE 0 (restQ a b) ∧ (er = 0 → RepQ w' v' (restQ a b)) ∧ Shp v' ∧ Below w.heap.size w w' := by
  have ha' := ha
  have hb' := hb
  obtain ⟨a1, l1, c1, a2, l2, c2, rfl, h1, h2⟩ := ha.open
  obtain ⟨a3, l3, c3, a4, l4, c4, rfl, h3, h4⟩ := hb.open
  have oa := sa.ok
  have ob := sb.ok
  have hT := Four.new w a1 a2 a3 a4 l1 c1 l2 c2 l3 c3 l4 c4 a.neg b.neg 35 35 35 35
  have hW : ∀ o o' o'' o3, Below w.heap.size w ((((w.alloc o).alloc o').alloc o'').alloc o3) := fun o o' o'' o3 => ((((Below.refl _ _).alloc (Nat.le_refl _) o).alloc (by simp) o').alloc (by simp; omega) o'').alloc (by simp; omega) o3
  clear ha hb h1 h2 h3 h4
  have HA1 : Hid (a.d = 1) := ha1
  have HB1 : Hid (b.d = 1) := hb1'
  clear ha1 hb1'
  go_enter Tryz.func25, Tryz.ntmps25
  go_wp2_with fail
  refine (r_rest_run _ _ a b _ (ha'.below (Nat.le_refl _) (hW _ _ _ _)) (hb'.below (Nat.le_refl _) (hW _ _ _ _)) sa sb HA1.out HB1.out hz).mono ?_
  rintro e w1 ⟨v1, rfl, hr, hb1⟩
  have hT1 := hT.later hb1
  have hbw := Below.next (hW _ _ _ _) hb1 (by simp; omega)
  obtain ⟨b1, n1, k1, b2, n2, k2, rfl, _, _⟩ := RepQ.open hr
  obtain ⟨x0, x1, x2, hx, hfx⟩ := hT1.x
  obtain ⟨f0, f1, f2, _, _⟩ := id hfx
  obtain ⟨e0, e1, e2⟩ := hx.cells
  obtain ⟨hFr, hBx⟩ := hT1.put (restQ a b).neg b1 b2 n1 k1 n2 k2
  have hrX := RepQ.put3 hr hfx (.bool (restQ a b).neg) (.slice b1 n1 k1) (.slice b2 n2 k2) (by simp) (by simp)
  have hbX := put3_below hbw (show w.heap.size ≤ w.heap.size + 1 + 1 + 1 by omega) (.bool (restQ a b).neg) (.slice b1 n1 k1) (.slice b2 n2 k2)
  have hsX : w.heap.size + 1 + 1 + 1 < (put3 w1 (w.heap.size + 1 + 1 + 1) (.bool (restQ a b).neg) (.slice b1 n1 k1) (.slice b2 n2 k2)).heap.size := by rw [put3_size]; exact hT1.s
  go_wp2_with fail
  rw [show (((w1.setCell ⟨w.heap.size + 1 + 1 + 1, 0, none⟩ (.bool (restQ a b).neg)).setCell ⟨w.heap.size + 1 + 1 + 1, 1, none⟩ (.slice b1 n1 k1)).setCell ⟨w.heap.size + 1 + 1 + 1, 2, none⟩ (.slice b2 n2 k2)) = put3 w1 (w.heap.size + 1 + 1 + 1) (.bool (restQ a b).neg) (.slice b1 n1 k1) (.slice b2 n2 k2) from rfl]
  obtain ⟨wP, HWP⟩ : ∃ wP, Hid (put3 w1 (w.heap.size + 1 + 1 + 1) (.bool (restQ a b).neg) (.slice b1 n1 k1) (.slice b2 n2 k2) = wP) := ⟨_, rfl⟩
  rw [HWP.out] at hFr hBx hrX hbX hsX ⊢
  clear HWP f0 f1 f2 e0 e1 e2 hx hfx hT1 hbw hr
  obtain ⟨z9, HZ9⟩ : ∃ z, Hid (bigQ (restQ a b) = z) := ⟨_, rfl⟩
  refine (r_big_any _ (restQ a b) _ hrX).mono ?_
  rintro e w9 ⟨rfl, hb9⟩
  rw [HZ9.out]
  have hBx9 := hBx.below hsX hb9
  have hFr9 := hFr.later (by omega) hb9
  have hrX9 := hrX.below (Nat.le_refl _) hb9
  have hbX9 := Below.next hbX hb9 hbX.size
  obtain ⟨p0, p1, p2⟩ := hBx9.cells
  obtain ⟨f0, f1, f2, _, _⟩ := id hFr9
  obtain ⟨x0, x1, x2, e0, e1, e2⟩ := hFr9.cells
  obtain ⟨q0, q1, q2⟩ := put3_cells hFr9 (.bool (restQ a b).neg) (.slice b1 n1 k1) (.slice b2 n2 k2)
  have hres := RepQ.put3 hrX9 hFr9 (.bool (restQ a b).neg) (.slice b1 n1 k1) (.slice b2 n2 k2) (by simp) (by simp)
  have hbr := put3_below hbX9 (show w.heap.size ≤ w.heap.size + 1 + 1 by omega) (.bool (restQ a b).neg) (.slice b1 n1 k1) (.slice b2 n2 k2)
  unfold put3 at q0 q1 q2 hres hbr
  clear hFr hBx hrX hbX hsX hb9 hT
  cases z9
  · have HE : Hid (dyE 0 (restQ a b) = 0) := by simp [Hid, dyE, HZ9.out]
    go_wp2
    refine bodyPost_ret (v := .tuple #[.agg #[.bool (restQ a b).neg, .slice b1 n1 k1, .slice b2 n2 k2], .int .i64 0]) (by simp [results, Tryz.results25, go_sem, q0, q1, q2]) rfl ⟨_, _, rfl, by rw [HE.out], fun _ => hres, ⟨_, _, _, _, _, _, _, rfl⟩, hbr⟩
  · have HE : Hid (dyE 0 (restQ a b) = 10) := by simp [Hid, dyE, HZ9.out]
    go_wp2
    refine bodyPost_ret (v := .tuple #[.agg #[.bool (restQ a b).neg, .slice b1 n1 k1, .slice b2 n2 k2], .int .i64 10]) (by simp [results, Tryz.results25, go_sem, q0, q1, q2]) rfl ⟨_, _, rfl, by rw [HE.out], fun h => by simp at h, ⟨_, _, _, _, _, _, _, rfl⟩, hbr⟩

set_option maxRecDepth 100000 in
set_option maxHeartbeats 3200000 in
theorem r_dyad_rest_zero (v u : Value) (a b : Q) (w : World) (ha : RepQ w v a) (hb : RepQ w u b) (sa : a.Sm) (sb : b.Sm) (ha1 : a.d = 1) (hb1' : b.d = 1) (hz : a.n = 0) :
    Calls Tryz.prog 25 #[.string ⟨#[124]⟩, v, u] w fun e w' => ∃ v' er, e = .returned (.tuple #[v', .int .i64 er]) ∧ er = dyE 0 (restQ a b) ∧ (er = 0 → RepQ w' v' (restQ a b)) ∧ Shp v' ∧ Below w.heap.size w w' := by
  have ha' := ha
  have hb' := hb
  obtain ⟨a1, l1, c1, a2, l2, c2, rfl, h1, h2⟩ := ha.open
  obtain ⟨a3, l3, c3, a4, l4, c4, rfl, h3, h4⟩ := hb.open
  have oa := sa.ok
  have ob := sb.ok
  have hT := Four.new w a1 a2 a3 a4 l1 c1 l2 c2 l3 c3 l4 c4 a.neg b.neg 35 35 35 35
  have hW : ∀ o o' o'' o3, Below w.heap.size w ((((w.alloc o).alloc o').alloc o'').alloc o3) := fun o o' o'' o3 => ((((Below.refl _ _).alloc (Nat.le_refl _) o).alloc (by simp) o').alloc (by simp; omega) o'').alloc (by simp; omega) o3
  clear ha hb h1 h2 h3 h4
  have HZZ : Hid (a.n = 0) := hz
  have HA1 : Hid (a.d = 1) := ha1
  have HB1 : Hid (b.d = 1) := hb1'
  clear hz ha1 hb1'
  go_enter Tryz.func25, Tryz.ntmps25
  go_wp2_with fail
  refine (r_rest_zero _ _ a b _ (ha'.below (Nat.le_refl _) (hW _ _ _ _)) (hb'.below (Nat.le_refl _) (hW _ _ _ _)) sa sb HA1.out HB1.out HZZ.out).mono ?_
  rintro e w1 ⟨v1, rfl, hr, hb1⟩
  have hT1 := hT.later hb1
  have hbw := Below.next (hW _ _ _ _) hb1 (by simp; omega)
  obtain ⟨b1, n1, k1, b2, n2, k2, rfl, _, _⟩ := RepQ.open hr
  obtain ⟨x0, x1, x2, hx, hfx⟩ := hT1.x
  obtain ⟨f0, f1, f2, _, _⟩ := id hfx
  obtain ⟨e0, e1, e2⟩ := hx.cells
  obtain ⟨hFr, hBx⟩ := hT1.put (restQ a b).neg b1 b2 n1 k1 n2 k2
  have hrX := RepQ.put3 hr hfx (.bool (restQ a b).neg) (.slice b1 n1 k1) (.slice b2 n2 k2) (by simp) (by simp)
  have hbX := put3_below hbw (show w.heap.size ≤ w.heap.size + 1 + 1 + 1 by omega) (.bool (restQ a b).neg) (.slice b1 n1 k1) (.slice b2 n2 k2)
  have hsX : w.heap.size + 1 + 1 + 1 < (put3 w1 (w.heap.size + 1 + 1 + 1) (.bool (restQ a b).neg) (.slice b1 n1 k1) (.slice b2 n2 k2)).heap.size := by rw [put3_size]; exact hT1.s
  go_wp2_with fail
  rw [show (((w1.setCell ⟨w.heap.size + 1 + 1 + 1, 0, none⟩ (.bool (restQ a b).neg)).setCell ⟨w.heap.size + 1 + 1 + 1, 1, none⟩ (.slice b1 n1 k1)).setCell ⟨w.heap.size + 1 + 1 + 1, 2, none⟩ (.slice b2 n2 k2)) = put3 w1 (w.heap.size + 1 + 1 + 1) (.bool (restQ a b).neg) (.slice b1 n1 k1) (.slice b2 n2 k2) from rfl]
  obtain ⟨wP, HWP⟩ : ∃ wP, Hid (put3 w1 (w.heap.size + 1 + 1 + 1) (.bool (restQ a b).neg) (.slice b1 n1 k1) (.slice b2 n2 k2) = wP) := ⟨_, rfl⟩
  rw [HWP.out] at hFr hBx hrX hbX hsX ⊢
  clear HWP f0 f1 f2 e0 e1 e2 hx hfx hT1 hbw hr
  obtain ⟨z9, HZ9⟩ : ∃ z, Hid (bigQ (restQ a b) = z) := ⟨_, rfl⟩
  refine (r_big_any _ (restQ a b) _ hrX).mono ?_
  rintro e w9 ⟨rfl, hb9⟩
  rw [HZ9.out]
  have hBx9 := hBx.below hsX hb9
  have hFr9 := hFr.later (by omega) hb9
  have hrX9 := hrX.below (Nat.le_refl _) hb9
  have hbX9 := Below.next hbX hb9 hbX.size
  obtain ⟨p0, p1, p2⟩ := hBx9.cells
  obtain ⟨f0, f1, f2, _, _⟩ := id hFr9
  obtain ⟨x0, x1, x2, e0, e1, e2⟩ := hFr9.cells
  obtain ⟨q0, q1, q2⟩ := put3_cells hFr9 (.bool (restQ a b).neg) (.slice b1 n1 k1) (.slice b2 n2 k2)
  have hres := RepQ.put3 hrX9 hFr9 (.bool (restQ a b).neg) (.slice b1 n1 k1) (.slice b2 n2 k2) (by simp) (by simp)
  have hbr := put3_below hbX9 (show w.heap.size ≤ w.heap.size + 1 + 1 by omega) (.bool (restQ a b).neg) (.slice b1 n1 k1) (.slice b2 n2 k2)
  unfold put3 at q0 q1 q2 hres hbr
  clear hFr hBx hrX hbX hsX hb9 hT
  cases z9
  · have HE : Hid (dyE 0 (restQ a b) = 0) := by simp [Hid, dyE, HZ9.out]
    go_wp2
    refine bodyPost_ret (v := .tuple #[.agg #[.bool (restQ a b).neg, .slice b1 n1 k1, .slice b2 n2 k2], .int .i64 0]) (by simp [results, Tryz.results25, go_sem, q0, q1, q2]) rfl ⟨_, _, rfl, by rw [HE.out], fun _ => hres, ⟨_, _, _, _, _, _, _, rfl⟩, hbr⟩
  · have HE : Hid (dyE 0 (restQ a b) = 10) := by simp [Hid, dyE, HZ9.out]
    go_wp2
    refine bodyPost_ret (v := .tuple #[.agg #[.bool (restQ a b).neg, .slice b1 n1 k1, .slice b2 n2 k2], .int .i64 10]) (by simp [results, Tryz.results25, go_sem, q0, q1, q2]) rfl ⟨_, _, rfl, by rw [HE.out], fun h => by simp at h, ⟨_, _, _, _, _, _, _, rfl⟩, hbr⟩

set_option maxRecDepth 100000 in
set_option maxHeartbeats 3200000 in
theorem r_dyad_rest_arg (v u : Value) (a b : Q) (w : World) (ha : RepQ w v a) (hb : RepQ w u b) (sa : a.Sm) (sb : b.Sm) (hn : ¬ (a.d = 1 ∧ b.d = 1)) :
    Calls Tryz.prog 25 #[.string ⟨#[124]⟩, v, u] w fun e w' => ∃ v' er, e = .returned (.tuple #[v', .int .i64 er]) ∧ er = 8 ∧ (er = 0 → RepQ w' v' a) ∧ Shp v' ∧ Below w.heap.size w w' := by
  have ha' := ha
  have hb' := hb
  obtain ⟨a1, l1, c1, a2, l2, c2, rfl, h1, h2⟩ := ha.open
  obtain ⟨a3, l3, c3, a4, l4, c4, rfl, h3, h4⟩ := hb.open
  have oa := sa.ok
  have ob := sb.ok
  have hT := Four.new w a1 a2 a3 a4 l1 c1 l2 c2 l3 c3 l4 c4 a.neg b.neg 35 35 35 35
  have hW : ∀ o o' o'' o3, Below w.heap.size w ((((w.alloc o).alloc o').alloc o'').alloc o3) := fun o o' o'' o3 => ((((Below.refl _ _).alloc (Nat.le_refl _) o).alloc (by simp) o').alloc (by simp; omega) o'').alloc (by simp; omega) o3
  clear ha hb h1 h2 h3 h4
  have HN : Hid (¬ (a.d = 1 ∧ b.d = 1)) := hn
  clear hn
  go_enter Tryz.func25, Tryz.ntmps25
  go_wp2_with fail
  refine (r_rest_arg _ _ a b _ (ha'.below (Nat.le_refl _) (hW _ _ _ _)) (hb'.below (Nat.le_refl _) (hW _ _ _ _)) sa sb HN.out).mono ?_
  rintro e w1 ⟨v1, rfl, hShp, hb1⟩
  obtain ⟨sE, y1, m1, j1, y2, m2, j2, rfl⟩ := hShp
  have hT1 := hT.later hb1
  have hbw := Below.next (hW _ _ _ _) hb1 (by simp; omega)
  obtain ⟨x0, x1, x2, hx, hfx⟩ := hT1.x
  obtain ⟨f0, f1, f2, _, _⟩ := id hfx
  obtain ⟨e0, e1, e2⟩ := hx.cells
  obtain ⟨g0, g1, g2, _, _⟩ := id hT1.t.r
  obtain ⟨z0, z1, z2, d0, d1, d2⟩ := hT1.t.r.cells
  obtain ⟨hFr, hBx⟩ := hT1.put sE y1 y2 m1 j1 m2 j2
  have hbX := put3_below hbw (show w.heap.size ≤ w.heap.size + 1 + 1 + 1 by omega) (.bool sE) (.slice y1 m1 j1) (.slice y2 m2 j2)
  obtain ⟨q0, q1, q2⟩ := put3_cells hFr (.bool sE) (.slice y1 m1 j1) (.slice y2 m2 j2)
  have hbr := put3_below hbX (show w.heap.size ≤ w.heap.size + 1 + 1 by omega) (.bool sE) (.slice y1 m1 j1) (.slice y2 m2 j2)
  have hn1 : ¬ (w.heap.size + 1 + 1 = w.heap.size + 1 + 1 + 1) := by omega
  unfold put3 at q0 q1 q2 hbr
  clear hFr hBx hbX hfx hx hT
  go_wp2
  exact bodyPost_ret (v := .tuple #[.agg #[.bool sE, .slice y1 m1 j1, .slice y2 m2 j2], .int .i64 8]) (by simp [results, Tryz.results25, go_sem, q0, q1, q2]) rfl ⟨_, _, rfl, rfl, fun h => by simp at h, ⟨_, _, _, _, _, _, _, rfl⟩, hbr⟩

set_option maxRecDepth 100000 in
set_option maxHeartbeats 3200000 in
theorem r_dyad_pow_arg (v u : Value) (a b : Q) (w : World) (ha : RepQ w v a) (hb : RepQ w u b) (sa : a.Sm) (sb : b.Sm) (hc : countQ b = -1) :
    Calls Tryz.prog 25 #[.string ⟨#[94]⟩, v, u] w fun e w' => ∃ v' er, e = .returned (.tuple #[v', .int .i64 er]) ∧ er = 8 ∧ (er = 0 → RepQ w' v' a) ∧ Shp v' ∧ Below w.heap.size w w' := by
  have ha' := ha
  have hb' := hb
  obtain ⟨a1, l1, c1, a2, l2, c2, rfl, h1, h2⟩ := ha.open
  obtain ⟨a3, l3, c3, a4, l4, c4, rfl, h3, h4⟩ := hb.open
  have oa := sa.ok
  have ob := sb.ok
  have hT := Four.new w a1 a2 a3 a4 l1 c1 l2 c2 l3 c3 l4 c4 a.neg b.neg 35 35 35 35
  have hW : ∀ o o' o'' o3, Below w.heap.size w ((((w.alloc o).alloc o').alloc o'').alloc o3) := fun o o' o'' o3 => ((((Below.refl _ _).alloc (Nat.le_refl _) o).alloc (by simp) o').alloc (by simp; omega) o'').alloc (by simp; omega) o3
  clear ha hb h1 h2 h3 h4
  have HC : Hid (countQ b = -1) := hc
  clear hc
  go_enter Tryz.func25, Tryz.ntmps25
  go_wp2_with fail
  refine (r_power_arg _ _ a b _ (ha'.below (Nat.le_refl _) (hW _ _ _ _)) (hb'.below (Nat.le_refl _) (hW _ _ _ _)) sb HC.out).mono ?_
  rintro e w1 ⟨v1, rfl, hShp, hb1⟩
  obtain ⟨sE, y1, m1, j1, y2, m2, j2, rfl⟩ := hShp
  have hT1 := hT.later hb1
  have hbw := Below.next (hW _ _ _ _) hb1 (by simp; omega)
  obtain ⟨x0, x1, x2, hx, hfx⟩ := hT1.x
  obtain ⟨f0, f1, f2, _, _⟩ := id hfx
  obtain ⟨e0, e1, e2⟩ := hx.cells
  obtain ⟨g0, g1, g2, _, _⟩ := id hT1.t.r
  obtain ⟨z0, z1, z2, d0, d1, d2⟩ := hT1.t.r.cells
  obtain ⟨hFr, hBx⟩ := hT1.put sE y1 y2 m1 j1 m2 j2
  have hbX := put3_below hbw (show w.heap.size ≤ w.heap.size + 1 + 1 + 1 by omega) (.bool sE) (.slice y1 m1 j1) (.slice y2 m2 j2)
  obtain ⟨q0, q1, q2⟩ := put3_cells hFr (.bool sE) (.slice y1 m1 j1) (.slice y2 m2 j2)
  have hbr := put3_below hbX (show w.heap.size ≤ w.heap.size + 1 + 1 by omega) (.bool sE) (.slice y1 m1 j1) (.slice y2 m2 j2)
  have hn1 : ¬ (w.heap.size + 1 + 1 = w.heap.size + 1 + 1 + 1) := by omega
  unfold put3 at q0 q1 q2 hbr
  clear hFr hBx hbX hfx hx hT
  go_wp2
  exact bodyPost_ret (v := .tuple #[.agg #[.bool sE, .slice y1 m1 j1, .slice y2 m2 j2], .int .i64 8]) (by simp [results, Tryz.results25, go_sem, q0, q1, q2]) rfl ⟨_, _, rfl, rfl, fun h => by simp at h, ⟨_, _, _, _, _, _, _, rfl⟩, hbr⟩

set_option maxRecDepth 100000 in
set_option maxHeartbeats 3200000 in
theorem r_dyad_pow_zero (v u : Value) (a b : Q) (w : World) (ha : RepQ w v a) (hb : RepQ w u b) (sa : a.Sm) (sb : b.Sm) (hc : 0 ≤ countQ b) (hn : b.neg = true) (hz : a.n = 0) :
    Calls Tryz.prog 25 #[.string ⟨#[94]⟩, v, u] w fun e w' => ∃ v' er, e = .returned (.tuple #[v', .int .i64 er]) ∧ er = 9 ∧ (er = 0 → RepQ w' v' a) ∧ Shp v' ∧ Below w.heap.size w w' := by
  have ha' := ha
  have hb' := hb
  obtain ⟨a1, l1, c1, a2, l2, c2, rfl, h1, h2⟩ := ha.open
  obtain ⟨a3, l3, c3, a4, l4, c4, rfl, h3, h4⟩ := hb.open
  have oa := sa.ok
  have ob := sb.ok
  have hT := Four.new w a1 a2 a3 a4 l1 c1 l2 c2 l3 c3 l4 c4 a.neg b.neg 35 35 35 35
  have hW : ∀ o o' o'' o3, Below w.heap.size w ((((w.alloc o).alloc o').alloc o'').alloc o3) := fun o o' o'' o3 => ((((Below.refl _ _).alloc (Nat.le_refl _) o).alloc (by simp) o').alloc (by simp; omega) o'').alloc (by simp; omega) o3
  clear ha hb h1 h2 h3 h4
  have HC : Hid (0 ≤ countQ b) := hc
  have HN : Hid (b.neg = true) := hn
  have HZ : Hid (a.n = 0) := hz
  clear hc hn hz
  go_enter Tryz.func25, Tryz.ntmps25
  go_wp2_with fail
  refine (r_power_zero _ _ a b _ (ha'.below (Nat.le_refl _) (hW _ _ _ _)) (hb'.below (Nat.le_refl _) (hW _ _ _ _)) sb HC.out HN.out HZ.out).mono ?_
  rintro e w1 ⟨v1, rfl, hShp, hb1⟩
  obtain ⟨sE, y1, m1, j1, y2, m2, j2, rfl⟩ := hShp
  have hT1 := hT.later hb1
  have hbw := Below.next (hW _ _ _ _) hb1 (by simp; omega)
  obtain ⟨x0, x1, x2, hx, hfx⟩ := hT1.x
  obtain ⟨f0, f1, f2, _, _⟩ := id hfx
  obtain ⟨e0, e1, e2⟩ := hx.cells
  obtain ⟨g0, g1, g2, _, _⟩ := id hT1.t.r
  obtain ⟨z0, z1, z2, d0, d1, d2⟩ := hT1.t.r.cells
  obtain ⟨hFr, hBx⟩ := hT1.put sE y1 y2 m1 j1 m2 j2
  have hbX := put3_below hbw (show w.heap.size ≤ w.heap.size + 1 + 1 + 1 by omega) (.bool sE) (.slice y1 m1 j1) (.slice y2 m2 j2)
  obtain ⟨q0, q1, q2⟩ := put3_cells hFr (.bool sE) (.slice y1 m1 j1) (.slice y2 m2 j2)
  have hbr := put3_below hbX (show w.heap.size ≤ w.heap.size + 1 + 1 by omega) (.bool sE) (.slice y1 m1 j1) (.slice y2 m2 j2)
  have hn1 : ¬ (w.heap.size + 1 + 1 = w.heap.size + 1 + 1 + 1) := by omega
  unfold put3 at q0 q1 q2 hbr
  clear hFr hBx hbX hfx hx hT
  go_wp2
  exact bodyPost_ret (v := .tuple #[.agg #[.bool sE, .slice y1 m1 j1, .slice y2 m2 j2], .int .i64 9]) (by simp [results, Tryz.results25, go_sem, q0, q1, q2]) rfl ⟨_, _, rfl, rfl, fun h => by simp at h, ⟨_, _, _, _, _, _, _, rfl⟩, hbr⟩

set_option maxRecDepth 100000 in
set_option maxHeartbeats 3200000 in
theorem r_dyad_pow_pos (v u : Value) (a b : Q) (w : World) (ha : RepQ w v a) (hb : RepQ w u b) (sa : a.Sm) (sb : b.Sm) (n : Nat) (hc : countQ b = n) (hn : b.neg = false) :
    Calls Tryz.prog 25 #[.string ⟨#[94]⟩, v, u] w fun e w' => ∃ v' er, e = .returned (.tuple #[v', .int .i64 er]) ∧ er = dyE (powErr a n) (powQ a n) ∧ (er = 0 → RepQ w' v' (powQ a n)) ∧ Shp v' ∧ Below w.heap.size w w' := by
  have ha' := ha
  have hb' := hb
  obtain ⟨a1, l1, c1, a2, l2, c2, rfl, h1, h2⟩ := ha.open
  obtain ⟨a3, l3, c3, a4, l4, c4, rfl, h3, h4⟩ := hb.open
  have oa := sa.ok
  have ob := sb.ok
  have hT := Four.new w a1 a2 a3 a4 l1 c1 l2 c2 l3 c3 l4 c4 a.neg b.neg 35 35 35 35
  have hW : ∀ o o' o'' o3, Below w.heap.size w ((((w.alloc o).alloc o').alloc o'').alloc o3) := fun o o' o'' o3 => ((((Below.refl _ _).alloc (Nat.le_refl _) o).alloc (by simp) o').alloc (by simp; omega) o'').alloc (by simp; omega) o3
  clear ha hb h1 h2 h3 h4
  have HC : Hid (countQ b = n) := hc
  have HN : Hid (b.neg = false) := hn
  clear hc hn
  obtain ⟨pe, HPE⟩ : ∃ pe, Hid (powB a n = pe) := ⟨_, rfl⟩
  go_enter Tryz.func25, Tryz.ntmps25
  go_wp2_with fail
  refine (r_power_pos _ _ a b _ (ha'.below (Nat.le_refl _) (hW _ _ _ _)) (hb'.below (Nat.le_refl _) (hW _ _ _ _)) sa sb n HC.out HN.out).mono ?_
  rintro e w1 ⟨v1, er, rfl, her, hrr, hShp, hb1⟩
  cases pe
  · have h0 : er = 0 := by rw [her]; unfold powErr; rw [HPE.out]; rfl
    have HE0 : Hid (powErr a n = 0) := by rw [← her]; exact h0
    have hr := hrr h0
    subst h0
    clear hrr her
    have hT1 := hT.later hb1
    have hbw := Below.next (hW _ _ _ _) hb1 (by simp; omega)
    obtain ⟨b1, n1, k1, b2, n2, k2, rfl, _, _⟩ := RepQ.open hr
    obtain ⟨x0, x1, x2, hx, hfx⟩ := hT1.x
    obtain ⟨f0, f1, f2, _, _⟩ := id hfx
    obtain ⟨e0, e1, e2⟩ := hx.cells
    obtain ⟨hFr, hBx⟩ := hT1.put (powQ a n).neg b1 b2 n1 k1 n2 k2
    have hrX := RepQ.put3 hr hfx (.bool (powQ a n).neg) (.slice b1 n1 k1) (.slice b2 n2 k2) (by simp) (by simp)
    have hbX := put3_below hbw (show w.heap.size ≤ w.heap.size + 1 + 1 + 1 by omega) (.bool (powQ a n).neg) (.slice b1 n1 k1) (.slice b2 n2 k2)
    have hsX : w.heap.size + 1 + 1 + 1 < (put3 w1 (w.heap.size + 1 + 1 + 1) (.bool (powQ a n).neg) (.slice b1 n1 k1) (.slice b2 n2 k2)).heap.size := by rw [put3_size]; exact hT1.s
    go_wp2_with fail
    rw [show (((w1.setCell ⟨w.heap.size + 1 + 1 + 1, 0, none⟩ (.bool (powQ a n).neg)).setCell ⟨w.heap.size + 1 + 1 + 1, 1, none⟩ (.slice b1 n1 k1)).setCell ⟨w.heap.size + 1 + 1 + 1, 2, none⟩ (.slice b2 n2 k2)) = put3 w1 (w.heap.size + 1 + 1 + 1) (.bool (powQ a n).neg) (.slice b1 n1 k1) (.slice b2 n2 k2) from rfl]
    obtain ⟨wP, HWP⟩ : ∃ wP, Hid (put3 w1 (w.heap.size + 1 + 1 + 1) (.bool (powQ a n).neg) (.slice b1 n1 k1) (.slice b2 n2 k2) = wP) := ⟨_, rfl⟩
    rw [HWP.out] at hFr hBx hrX hbX hsX ⊢
    clear HWP f0 f1 f2 e0 e1 e2 hx hfx hT1 hbw hr
    obtain ⟨z9, HZ9⟩ : ∃ z, Hid (bigQ (powQ a n) = z) := ⟨_, rfl⟩
    refine (r_big_any _ (powQ a n) _ hrX).mono ?_
    rintro e w9 ⟨rfl, hb9⟩
    rw [HZ9.out]
    have hBx9 := hBx.below hsX hb9
    have hFr9 := hFr.later (by omega) hb9
    have hrX9 := hrX.below (Nat.le_refl _) hb9
    have hbX9 := Below.next hbX hb9 hbX.size
    obtain ⟨p0, p1, p2⟩ := hBx9.cells
    obtain ⟨f0, f1, f2, _, _⟩ := id hFr9
    obtain ⟨x0, x1, x2, e0, e1, e2⟩ := hFr9.cells
    obtain ⟨q0, q1, q2⟩ := put3_cells hFr9 (.bool (powQ a n).neg) (.slice b1 n1 k1) (.slice b2 n2 k2)
    have hres := RepQ.put3 hrX9 hFr9 (.bool (powQ a n).neg) (.slice b1 n1 k1) (.slice b2 n2 k2) (by simp) (by simp)
    have hbr := put3_below hbX9 (show w.heap.size ≤ w.heap.size + 1 + 1 by omega) (.bool (powQ a n).neg) (.slice b1 n1 k1) (.slice b2 n2 k2)
    unfold put3 at q0 q1 q2 hres hbr
    clear hFr hBx hrX hbX hsX hb9 hT
    cases z9
    · have HE : Hid (dyE 0 (powQ a n) = 0) := by simp [Hid, dyE, HZ9.out]
      go_wp2
      refine bodyPost_ret (v := .tuple #[.agg #[.bool (powQ a n).neg, .slice b1 n1 k1, .slice b2 n2 k2], .int .i64 0]) (by simp [results, Tryz.results25, go_sem, q0, q1, q2]) rfl ⟨_, _, rfl, by rw [HE0.out, HE.out], fun _ => hres, ⟨_, _, _, _, _, _, _, rfl⟩, hbr⟩
    · have HE : Hid (dyE 0 (powQ a n) = 10) := by simp [Hid, dyE, HZ9.out]
      go_wp2
      refine bodyPost_ret (v := .tuple #[.agg #[.bool (powQ a n).neg, .slice b1 n1 k1, .slice b2 n2 k2], .int .i64 10]) (by simp [results, Tryz.results25, go_sem, q0, q1, q2]) rfl ⟨_, _, rfl, by rw [HE0.out, HE.out], fun h => by simp at h, ⟨_, _, _, _, _, _, _, rfl⟩, hbr⟩
  · have h0 : er = 10 := by rw [her]; unfold powErr; rw [HPE.out]; rfl
    have HE0 : Hid (dyE (powErr a n) (powQ a n) = 10) := by unfold Hid; rw [← her, h0]; rfl
    subst h0
    clear hrr her
    obtain ⟨sE, y1, m1, j1, y2, m2, j2, rfl⟩ := hShp
    have hT1 := hT.later hb1
    have hbw := Below.next (hW _ _ _ _) hb1 (by simp; omega)
    obtain ⟨x0, x1, x2, hx, hfx⟩ := hT1.x
    obtain ⟨f0, f1, f2, _, _⟩ := id hfx
    obtain ⟨e0, e1, e2⟩ := hx.cells
    obtain ⟨g0, g1, g2, _, _⟩ := id hT1.t.r
    obtain ⟨z0, z1, z2, d0, d1, d2⟩ := hT1.t.r.cells
    obtain ⟨hFr, hBx⟩ := hT1.put sE y1 y2 m1 j1 m2 j2
    have hbX := put3_below hbw (show w.heap.size ≤ w.heap.size + 1 + 1 + 1 by omega) (.bool sE) (.slice y1 m1 j1) (.slice y2 m2 j2)
    obtain ⟨q0, q1, q2⟩ := put3_cells hFr (.bool sE) (.slice y1 m1 j1) (.slice y2 m2 j2)
    have hbr := put3_below hbX (show w.heap.size ≤ w.heap.size + 1 + 1 by omega) (.bool sE) (.slice y1 m1 j1) (.slice y2 m2 j2)
    have hn1 : ¬ (w.heap.size + 1 + 1 = w.heap.size + 1 + 1 + 1) := by omega
    unfold put3 at q0 q1 q2 hbr
    clear hFr hBx hbX hfx hx hT
    go_wp2
    exact bodyPost_ret (v := .tuple #[.agg #[.bool sE, .slice y1 m1 j1, .slice y2 m2 j2], .int .i64 10]) (by simp [results, Tryz.results25, go_sem, q0, q1, q2]) rfl ⟨_, _, rfl, by rw [HE0.out], fun h => by simp at h, ⟨_, _, _, _, _, _, _, rfl⟩, hbr⟩

set_option maxRecDepth 100000 in
set_option maxHeartbeats 3200000 in
theorem r_dyad_pow_neg (v u : Value) (a b : Q) (w : World) (ha : RepQ w v a) (hb : RepQ w u b) (sa : a.Sm) (sb : b.Sm) (n : Nat) (hc : countQ b = n) (hn : b.neg = true) (hz : ¬ a.n = 0) :
    Calls Tryz.prog 25 #[.string ⟨#[94]⟩, v, u] w fun e w' => ∃ v' er, e = .returned (.tuple #[v', .int .i64 er]) ∧ er = dyE (powErr (invQ a) n) (powQ (invQ a) n) ∧ (er = 0 → RepQ w' v' (powQ (invQ a) n)) ∧ Shp v' ∧ Below w.heap.size w w' := by
  have ha' := ha
  have hb' := hb
  obtain ⟨a1, l1, c1, a2, l2, c2, rfl, h1, h2⟩ := ha.open
  obtain ⟨a3, l3, c3, a4, l4, c4, rfl, h3, h4⟩ := hb.open
  have oa := sa.ok
  have ob := sb.ok
  have hT := Four.new w a1 a2 a3 a4 l1 c1 l2 c2 l3 c3 l4 c4 a.neg b.neg 35 35 35 35
  have hW : ∀ o o' o'' o3, Below w.heap.size w ((((w.alloc o).alloc o').alloc o'').alloc o3) := fun o o' o'' o3 => ((((Below.refl _ _).alloc (Nat.le_refl _) o).alloc (by simp) o').alloc (by simp; omega) o'').alloc (by simp; omega) o3
  clear ha hb h1 h2 h3 h4
  have HC : Hid (countQ b = n) := hc
  have HN : Hid (b.neg = true) := hn
  have HZ : Hid (¬ a.n = 0) := hz
  clear hc hn hz
  obtain ⟨pe, HPE⟩ : ∃ pe, Hid (powB (invQ a) n = pe) := ⟨_, rfl⟩
  go_enter Tryz.func25, Tryz.ntmps25
  go_wp2_with fail
  refine (r_power_neg _ _ a b _ (ha'.below (Nat.le_refl _) (hW _ _ _ _)) (hb'.below (Nat.le_refl _) (hW _ _ _ _)) sa sb n HC.out HN.out HZ.out).mono ?_
  rintro e w1 ⟨v1, er, rfl, her, hrr, hShp, hb1⟩
  cases pe
  · have h0 : er = 0 := by rw [her]; unfold powErr; rw [HPE.out]; rfl
    have HE0 : Hid (powErr (invQ a) n = 0) := by rw [← her]; exact h0
    have hr := hrr h0
    subst h0
    clear hrr her
    have hT1 := hT.later hb1
    have hbw := Below.next (hW _ _ _ _) hb1 (by simp; omega)
    obtain ⟨b1, n1, k1, b2, n2, k2, rfl, _, _⟩ := RepQ.open hr
    obtain ⟨x0, x1, x2, hx, hfx⟩ := hT1.x
    obtain ⟨f0, f1, f2, _, _⟩ := id hfx
    obtain ⟨e0, e1, e2⟩ := hx.cells
    obtain ⟨hFr, hBx⟩ := hT1.put (powQ (invQ a) n).neg b1 b2 n1 k1 n2 k2
    have hrX := RepQ.put3 hr hfx (.bool (powQ (invQ a) n).neg) (.slice b1 n1 k1) (.slice b2 n2 k2) (by simp) (by simp)
    have hbX := put3_below hbw (show w.heap.size ≤ w.heap.size + 1 + 1 + 1 by omega) (.bool (powQ (invQ a) n).neg) (.slice b1 n1 k1) (.slice b2 n2 k2)
    have hsX : w.heap.size + 1 + 1 + 1 < (put3 w1 (w.heap.size + 1 + 1 + 1) (.bool (powQ (invQ a) n).neg) (.slice b1 n1 k1) (.slice b2 n2 k2)).heap.size := by rw [put3_size]; exact hT1.s
    go_wp2_with fail
    rw [show (((w1.setCell ⟨w.heap.size + 1 + 1 + 1, 0, none⟩ (.bool (powQ (invQ a) n).neg)).setCell ⟨w.heap.size + 1 + 1 + 1, 1, none⟩ (.slice b1 n1 k1)).setCell ⟨w.heap.size + 1 + 1 + 1, 2, none⟩ (.slice b2 n2 k2)) = put3 w1 (w.heap.size + 1 + 1 + 1) (.bool (powQ (invQ a) n).neg) (.slice b1 n1 k1) (.slice b2 n2 k2) from rfl]
    obtain ⟨wP, HWP⟩ : ∃ wP, Hid (put3 w1 (w.heap.size + 1 + 1 + 1) (.bool (powQ (invQ a) n).neg) (.slice b1 n1 k1) (.slice b2 n2 k2) = wP) := ⟨_, rfl⟩
    rw [HWP.out] at hFr hBx hrX hbX hsX ⊢
    clear HWP f0 f1 f2 e0 e1 e2 hx hfx hT1 hbw hr
    obtain ⟨z9, HZ9⟩ : ∃ z, Hid (bigQ (powQ (invQ a) n) = z) := ⟨_, rfl⟩
    refine (r_big_any _ (powQ (invQ a) n) _ hrX).mono ?_
    rintro e w9 ⟨rfl, hb9⟩
    rw [HZ9.out]
    have hBx9 := hBx.below hsX hb9
    have hFr9 := hFr.later (by omega) hb9
    have hrX9 := hrX.below (Nat.le_refl _) hb9
    have hbX9 := Below.next hbX hb9 hbX.size
    obtain ⟨p0, p1, p2⟩ := hBx9.cells
    obtain ⟨f0, f1, f2, _, _⟩ := id hFr9
    obtain ⟨x0, x1, x2, e0, e1, e2⟩ := hFr9.cells
    obtain ⟨q0, q1, q2⟩ := put3_cells hFr9 (.bool (powQ (invQ a) n).neg) (.slice b1 n1 k1) (.slice b2 n2 k2)
    have hres := RepQ.put3 hrX9 hFr9 (.bool (powQ (invQ a) n).neg) (.slice b1 n1 k1) (.slice b2 n2 k2) (by simp) (by simp)
    have hbr := put3_below hbX9 (show w.heap.size ≤ w.heap.size + 1 + 1 by omega) (.bool (powQ (invQ a) n).neg) (.slice b1 n1 k1) (.slice b2 n2 k2)
    unfold put3 at q0 q1 q2 hres hbr
    clear hFr hBx hrX hbX hsX hb9 hT
    cases z9
    · have HE : Hid (dyE 0 (powQ (invQ a) n) = 0) := by simp [Hid, dyE, HZ9.out]
      go_wp2
      refine bodyPost_ret (v := .tuple #[.agg #[.bool (powQ (invQ a) n).neg, .slice b1 n1 k1, .slice b2 n2 k2], .int .i64 0]) (by simp [results, Tryz.results25, go_sem, q0, q1, q2]) rfl ⟨_, _, rfl, by rw [HE0.out, HE.out], fun _ => hres, ⟨_, _, _, _, _, _, _, rfl⟩, hbr⟩
    · have HE : Hid (dyE 0 (powQ (invQ a) n) = 10) := by simp [Hid, dyE, HZ9.out]
      go_wp2
      refine bodyPost_ret (v := .tuple #[.agg #[.bool (powQ (invQ a) n).neg, .slice b1 n1 k1, .slice b2 n2 k2], .int .i64 10]) (by simp [results, Tryz.results25, go_sem, q0, q1, q2]) rfl ⟨_, _, rfl, by rw [HE0.out, HE.out], fun h => by simp at h, ⟨_, _, _, _, _, _, _, rfl⟩, hbr⟩
  · have h0 : er = 10 := by rw [her]; unfold powErr; rw [HPE.out]; rfl
    have HE0 : Hid (dyE (powErr (invQ a) n) (powQ (invQ a) n) = 10) := by unfold Hid; rw [← her, h0]; rfl
    subst h0
    clear hrr her
    obtain ⟨sE, y1, m1, j1, y2, m2, j2, rfl⟩ := hShp
    have hT1 := hT.later hb1
    have hbw := Below.next (hW _ _ _ _) hb1 (by simp; omega)
    obtain ⟨x0, x1, x2, hx, hfx⟩ := hT1.x
    obtain ⟨f0, f1, f2, _, _⟩ := id hfx
    obtain ⟨e0, e1, e2⟩ := hx.cells
    obtain ⟨g0, g1, g2, _, _⟩ := id hT1.t.r
    obtain ⟨z0, z1, z2, d0, d1, d2⟩ := hT1.t.r.cells
    obtain ⟨hFr, hBx⟩ := hT1.put sE y1 y2 m1 j1 m2 j2
    have hbX := put3_below hbw (show w.heap.size ≤ w.heap.size + 1 + 1 + 1 by omega) (.bool sE) (.slice y1 m1 j1) (.slice y2 m2 j2)
    obtain ⟨q0, q1, q2⟩ := put3_cells hFr (.bool sE) (.slice y1 m1 j1) (.slice y2 m2 j2)
    have hbr := put3_below hbX (show w.heap.size ≤ w.heap.size + 1 + 1 by omega) (.bool sE) (.slice y1 m1 j1) (.slice y2 m2 j2)
    have hn1 : ¬ (w.heap.size + 1 + 1 = w.heap.size + 1 + 1 + 1) := by omega
    unfold put3 at q0 q1 q2 hbr
    clear hFr hBx hbX hfx hx hT
    go_wp2
    exact bodyPost_ret (v := .tuple #[.agg #[.bool sE, .slice y1 m1 j1, .slice y2 m2 j2], .int .i64 10]) (by simp [results, Tryz.results25, go_sem, q0, q1, q2]) rfl ⟨_, _, rfl, by rw [HE0.out], fun h => by simp at h, ⟨_, _, _, _, _, _, _, rfl⟩, hbr⟩
end Go.Proofs.YtknnjibmacmniaaGreatDoor
