/- fraction: Sign, IsWhole, Invert, Negate, Whole. -/
import Derived.Test.YtknnjibmacmniaaGreatDoorC13
import Derived.Test.YtknnjibmacmniaaGreatDoorC06
import Derived.Test.YtknnjibmacmniaaGreatDoorC19
namespace Go.Proofs.YtknnjibmacmniaaGreatDoor
open Go.RowKit
set_option linter.unusedVariables false
attribute [local go_sem ↓] Go.wp_at_zero Go.wp_at_succ

/-- the value v is the fraction q, its rows of words -/
def RepF (w : World) (v : Value) (q : Q) : Prop := ∃ N D, v = .agg #[.bool q.neg, N, D] ∧ Rep .u32 4294967296 w N q.n ∧ Rep .u32 4294967296 w D q.d
theorem RepF.below {w w' : World} {v : Value} {q : Q} (h : RepF w v q) {B : Nat} (hB : w.heap.size ≤ B) (hb : Below B w w') : RepF w' v q := by
  obtain ⟨N, D, e, h1, h2⟩ := h
  exact ⟨N, D, e, h1.below hB hb, h2.below hB hb⟩
theorem RepF.open {w : World} {v : Value} {q : Q} (h : RepF w v q) : ∃ a1 l1 c1 a2 l2 c2, v = .agg #[.bool q.neg, .slice a1 l1 c1, .slice a2 l2 c2] ∧ Rep .u32 4294967296 w (.slice a1 l1 c1) q.n ∧ Rep .u32 4294967296 w (.slice a2 l2 c2) q.d := by
  obtain ⟨N, D, rfl, h1, h2⟩ := h
  obtain ⟨a1, l1, c1, rfl⟩ := h1.shape
  obtain ⟨a2, l2, c2, rfl⟩ := h2.shape
  exact ⟨a1, l1, c1, a2, l2, c2, rfl, h1, h2⟩
theorem RepF.put3 {w : World} {v : Value} {q : Q} (h : RepF w v q) {g : Nat} (hf : Fz g w) (v0 v1 v2 : Value) (h0 : ∀ k x, v0 ≠ .int k x) (h1 : ∀ k x, v1 ≠ .int k x) : RepF (put3 w g v0 v1 v2) v q := by
  obtain ⟨N, D, e, k1, k2⟩ := h
  exact ⟨N, D, e, put3_rep hf k1 v0 v1 v2 h0 h1, put3_rep hf k2 v0 v1 v2 h0 h1⟩

theorem keepL {g B : Nat} {W w' w'' : World} {a0 a1 : Addr} {x0 x1 : Value} (hb : Below w'.heap.size w' w'') (h : w'.cell? a0 = some x0 ∧ w'.cell? a1 = some x1 ∧ Fz g w' ∧ Below B W w' ∧ B ≤ w'.heap.size ∧ g < w'.heap.size) :
    w''.cell? a0 = some x0 ∧ w''.cell? a1 = some x1 ∧ Fz g w'' ∧ Below B W w'' ∧ B ≤ w''.heap.size ∧ g < w''.heap.size := by
  obtain ⟨h0, h1, h2, h3, h4, h5⟩ := h
  exact ⟨cell_later hb h0, cell_later hb h1, h2.later h5 hb, Below.next h3 hb h4, Nat.le_trans h4 hb.size, Nat.lt_of_lt_of_le h5 hb.size⟩
theorem keepLP {g B : Nat} {W w' : World} {a0 a1 : Addr} {x0 x1 : Value} {v0 v1 v2 : Value} (h : w'.cell? a0 = some x0 ∧ w'.cell? a1 = some x1 ∧ Fz g w' ∧ Below B W w' ∧ B ≤ w'.heap.size ∧ g < w'.heap.size) (hne : a0.block ≠ g ∧ a1.block ≠ g) (hg : B ≤ g)
    (z0 : ∀ k x, v0 ≠ .int k x) (z1 : ∀ k x, v1 ≠ .int k x) (z2 : ∀ k x, v2 ≠ .int k x) :
    (put3 w' g v0 v1 v2).cell? a0 = some x0 ∧ (put3 w' g v0 v1 v2).cell? a1 = some x1 ∧ Fz g (put3 w' g v0 v1 v2) ∧ Below B W (put3 w' g v0 v1 v2) ∧ B ≤ (put3 w' g v0 v1 v2).heap.size ∧ g < (put3 w' g v0 v1 v2).heap.size := by
  obtain ⟨h0, h1, h2, h3, h4, h5⟩ := h
  exact ⟨put3_cell_other _ _ _ h0 hne.1, put3_cell_other _ _ _ h1 hne.2, put3_fz h2 _ _ _ z0 z1 z2, put3_below h3 hg _ _ _, by rw [put3_size]; exact h4, by rw [put3_size]; exact h5⟩
theorem Fz.other {g : Nat} {w : World} (h : Fz g w) (a : Addr) (x : Value) (hne : g ≠ a.block) : Fz g (w.setCell a x) := by
  obtain ⟨f0, f1, f2, hn, c, T, hc, hs⟩ := h
  have hh := Below.heap_setCell w a x g hne
  have hfr := fun o => frozen_row (w := w.setCell a x) (g := g) (c := c) (T := T) (hh.trans hc) o
  refine ⟨hfr 0, hfr 1, hfr 2, fun o k y e => ?_, c, T, hh.trans hc, hs⟩
  rw [World.cell?_of_block (w := w) (a := ⟨g, o, none⟩) hh] at e
  exact hn o k y e
theorem Fz.lt {g : Nat} {w : World} (h : Fz g w) : g < w.heap.size := by
  obtain ⟨f0, f1, f2, hn, c, T, hc, hs⟩ := h
  exact (Array.getElem?_eq_some_iff.1 hc).1
theorem Fz.mid {g B : Nat} {w w' : World} (h : Fz g w) (hb : Below B w w') (hg : g < B) : Fz g w' := by
  obtain ⟨f0, f1, f2, hn, c, T, hc, hs⟩ := h
  have hh := (hb.block g hg).trans hc
  have hfr := fun o => frozen_row (w := w') (g := g) (c := c) (T := T) hh o
  exact ⟨hfr 0, hfr 1, hfr 2, hn.below hg hb, c, T, hh, hs⟩


theorem keepS3 {g B : Nat} {W w' w'' : World} {a0 a1 a2 : Addr} {x0 x1 x2 : Value} (hb : Below w'.heap.size w' w'') (h : w'.cell? a0 = some x0 ∧ w'.cell? a1 = some x1 ∧ w'.cell? a2 = some x2 ∧ Fz g w' ∧ Below B W w' ∧ B < w'.heap.size ∧ g < w'.heap.size) :
    w''.cell? a0 = some x0 ∧ w''.cell? a1 = some x1 ∧ w''.cell? a2 = some x2 ∧ Fz g w'' ∧ Below B W w'' ∧ B < w''.heap.size ∧ g < w''.heap.size := by
  obtain ⟨h0, h1, h2, h3, h4, h5, h6⟩ := h
  exact ⟨cell_later hb h0, cell_later hb h1, cell_later hb h2, h3.later h6 hb, Below.next h4 hb (by omega), Nat.lt_of_lt_of_le h5 hb.size, Nat.lt_of_lt_of_le h6 hb.size⟩
theorem keepP3 {g B : Nat} {W w' : World} {a0 a1 a2 : Addr} {x0 x1 x2 v0 v1 v2 : Value} (h : w'.cell? a0 = some x0 ∧ w'.cell? a1 = some x1 ∧ w'.cell? a2 = some x2 ∧ Fz g w' ∧ Below B W w' ∧ B < w'.heap.size ∧ g < w'.heap.size) (hne : a0.block ≠ g ∧ a1.block ≠ g ∧ a2.block ≠ g) (hg : B ≤ g)
    (z0 : ∀ k x, v0 ≠ .int k x) (z1 : ∀ k x, v1 ≠ .int k x) (z2 : ∀ k x, v2 ≠ .int k x) :
    (put3 w' g v0 v1 v2).cell? a0 = some x0 ∧ (put3 w' g v0 v1 v2).cell? a1 = some x1 ∧ (put3 w' g v0 v1 v2).cell? a2 = some x2 ∧ Fz g (put3 w' g v0 v1 v2) ∧ Below B W (put3 w' g v0 v1 v2) ∧ B < (put3 w' g v0 v1 v2).heap.size ∧ g < (put3 w' g v0 v1 v2).heap.size := by
  obtain ⟨h0, h1, h2, h3, h4, h5, h6⟩ := h
  exact ⟨put3_cell_other _ _ _ h0 hne.1, put3_cell_other _ _ _ h1 hne.2.1, put3_cell_other _ _ _ h2 hne.2.2, put3_fz h3 _ _ _ z0 z1 z2, put3_below h4 hg _ _ _, by rw [put3_size]; exact h5, by rw [put3_size]; exact h6⟩

/-- a number's side of 0 -/
def sgQ (q : Q) : Int := if q.n = 0 then 0 else if q.neg then -1 else 1
set_option maxHeartbeats 400000 in
theorem f_sign_any (v : Value) (q : Q) (w : World) (h : RepF w v q) :
    Calls Tryz.prog 142 #[v] w fun e w' => e = .returned (.int .i64 (sgQ q)) ∧ Below w.heap.size w w' := by
  obtain ⟨a1, l1, c1, a2, l2, c2, rfl, h1, h2⟩ := h.open
  have hB := Box.new w (.bool q.neg) (.slice a1 l1 c1) (.slice a2 l2 c2) 58
  have hW : ∀ o, Below w.heap.size w (w.alloc o) := fun o => (Below.refl _ _).alloc (Nat.le_refl _) o
  obtain ⟨z, HZ⟩ : ∃ z, Hid (decide (q.n = 0) = z) := ⟨_, rfl⟩
  have HS : Hid (sgQ q = if z then 0 else if q.neg then -1 else 1) := by
    unfold Hid; rw [← HZ.out]; unfold sgQ; simp
  obtain ⟨s, HN⟩ : ∃ s, Hid (q.neg = s) := ⟨_, rfl⟩
  rw [HN.out] at hB HS ⊢
  clear h
  go_enter Tryz.func142, Tryz.ntmps142
  go_wp2_with fail
  refine (n_zero_any _ q.n _ ⟨_, rfl, h1.below (Nat.le_refl _) (hW _)⟩).mono ?_
  rintro e w1 ⟨rfl, hb1⟩
  rw [HZ.out]
  obtain ⟨p0, p1, p2⟩ := (hB.below (by simp) hb1).cells
  have hbw := Below.next (hW _) hb1 (by simp)
  cases z
  · cases s
    · go_wp2
      go_ret
      exact ⟨by rw [HS.out]; rfl, hbw⟩
    · go_wp2
      go_ret
      exact ⟨by rw [HS.out]; rfl, hbw⟩
  · go_wp2
    go_ret
    exact ⟨by rw [HS.out]; rfl, hbw⟩

set_option maxHeartbeats 400000 in
theorem f_isone_any (v : Value) (q : Q) (w : World) (h : RepF w v q) :
    Calls Tryz.prog 55 #[v] w fun e w' => e = .returned (.bool (decide (q.d = 1))) ∧ Below w.heap.size w w' := by
  obtain ⟨a1, l1, c1, a2, l2, c2, rfl, h1, h2⟩ := h.open
  have hW : ∀ o, Below w.heap.size w (w.alloc o) := fun o => (Below.refl _ _).alloc (Nat.le_refl _) o
  obtain ⟨z, HZ⟩ : ∃ z, Hid (decide (q.d = 1) = z) := ⟨_, rfl⟩
  rw [HZ.out]
  go_enter Tryz.func55, Tryz.ntmps55
  go_wp2_with fail
  refine (n_one_any _ q.d _ ⟨_, rfl, h2.below (Nat.le_refl _) (hW _)⟩).mono ?_
  rintro e w1 ⟨rfl, hb1⟩
  rw [HZ.out]
  have hbw := Below.next (hW _) hb1 (by simp)
  go_wp2
  go_ret
  exact ⟨rfl, hbw⟩

set_option maxHeartbeats 400000 in
theorem f_invert_any (v : Value) (q : Q) (w : World) (h : RepF w v q) :
    Calls Tryz.prog 146 #[v] w fun e w' => ∃ v', e = .returned v' ∧ RepF w' v' (invQ q) ∧ Below w.heap.size w w' := by
  obtain ⟨a1, l1, c1, a2, l2, c2, rfl, h1, h2⟩ := h.open
  have hW : ∀ o o', Below w.heap.size w ((w.alloc o).alloc o') := fun o o' => ((Below.refl _ _).alloc (Nat.le_refl _) o).alloc (by simp) o'
  go_enter Tryz.func146, Tryz.ntmps146
  go_wp2
  refine bodyPost_ret (v := .agg #[.bool q.neg, .slice a2 l2 c2, .slice a1 l1 c1]) (by simp [results, Tryz.results146, go_sem]) rfl ⟨_, rfl, ⟨_, _, rfl, h2.below (Nat.le_refl _) (hW _ _), h1.below (Nat.le_refl _) (hW _ _)⟩, hW _ _⟩

set_option maxRecDepth 100000 in
set_option maxHeartbeats 1600000 in
theorem f_negate_any (v : Value) (q : Q) (w : World) (h : RepF w v q) :
    Calls Tryz.prog 141 #[v] w fun e w' => ∃ v', e = .returned v' ∧ RepF w' v' (negQ q) ∧ Below w.heap.size w w' := by
  have h' := h
  obtain ⟨a1, l1, c1, a2, l2, c2, rfl, h1, h2⟩ := h.open
  have hn0 := h1.nonneg (by omega)
  have hW : ∀ o o', Below w.heap.size w ((w.alloc o).alloc o') := fun o o' => ((Below.refl _ _).alloc (Nat.le_refl _) o).alloc (by simp) o'
  have hB := (Box.new w (.bool q.neg) (.slice a1 l1 c1) (.slice a2 l2 c2) 58).alloc (by simp) (.cells #[.bool false, .slice none 0 0, .slice none 0 0] 58)
  have hF := Fz.new (w.alloc (.cells #[.bool q.neg, .slice a1 l1 c1, .slice a2 l2 c2] 58)) (.bool false) (.slice none 0 0) (.slice none 0 0) 58 (by simp) (by simp) (by simp)
  simp only [World.size_alloc] at hF
  obtain ⟨p0, p1, p2⟩ := hB.cells
  obtain ⟨x, HX⟩ : ∃ x, Hid (sgQ q = x) := ⟨_, rfl⟩
  have HS : Hid (negQ q = ⟨decide (x > 0), q.n, q.d⟩) := by
    unfold Hid; rw [← HX.out]; unfold sgQ negQ
    by_cases hz : q.n = 0
    · simp [hz]
    · cases hq : q.neg <;> simp [hz]
  have hx : x = 0 ∨ x = 1 ∨ x = -1 := by rw [← HX.out]; unfold sgQ; split <;> (try split) <;> omega
  obtain ⟨bx, HB⟩ : ∃ t, Hid (decide (x > 0) = t) := ⟨_, rfl⟩
  rw [HB.out] at HS
  clear h hB
  go_enter Tryz.func141, Tryz.ntmps141
  go_wp2_with fail
  go_region_held3 (fun w' => w'.cell? ⟨w.heap.size, 0, none⟩ = some (.bool q.neg) ∧ w'.cell? ⟨w.heap.size, 1, none⟩ = some (.slice a1 l1 c1) ∧ w'.cell? ⟨w.heap.size, 2, none⟩ = some (.slice a2 l2 c2) ∧ Fz (w.heap.size + 1) w' ∧ Below w.heap.size w w' ∧ w.heap.size < w'.heap.size ∧ w.heap.size + 1 < w'.heap.size)
    (first | exact ⟨p0, p1, p2, hF, (hW _ _).drew, by simp; omega, by simp⟩ | exact keepS3 (by assumption) (by assumption) | exact keepP3 (by assumption) (by simp) (by omega) (by simp) (by simp) (by simp))
    ((first | (go_at_call 142; refine (f_sign_any _ q _ (h'.below (Nat.le_refl _) (hW _ _).drew)).mono ?_; rintro e w1 ⟨rfl, hb1⟩; rw [HX.out]; have hS5 := keepS3 hb1 (by assumption); obtain ⟨_, _, _, hz5, hS5b⟩ := hS5; obtain ⟨x0, x1, x2, e0, e1, e2⟩ := hz5.cells; obtain ⟨f0, f1, f2, hno5, hh5⟩ := id hz5; have h15 := h1.below (Nat.le_refl _) (Below.next (hW _ _).drew hb1 (by simp; omega)); have h25 := h2.below (Nat.le_refl _) (Below.next (hW _ _).drew hb1 (by simp; omega)))))
  all_goals
    rw [HB.out]
    obtain ⟨q0, q1, q2⟩ := put3_cells hz5 (.bool bx) (.slice a1 l1 c1) (.slice a2 l2 c2)
    go_wp2
    refine bodyPost_ret (v := .agg #[.bool bx, .slice a1 l1 c1, .slice a2 l2 c2]) (by unfold put3 at q0 q1 q2; simp [results, Tryz.results141, go_sem, q0, q1, q2]) rfl ⟨_, rfl, ?_, ?_⟩
    · rw [HS.out]
      exact ⟨_, _, rfl, put3_rep hz5 h15 _ _ _ (by simp) (by simp), put3_rep hz5 h25 _ _ _ (by simp) (by simp)⟩
    · exact put3_below hS5b.1 (by omega) _ _ _

set_option maxRecDepth 100000 in
set_option maxHeartbeats 800000 in
theorem f_whole_any (n : Int) (w : World) (h0 : 0 ≤ n) (h1 : n < 4294967296) :
    Calls Tryz.prog 148 #[.int .u32 n] w fun e w' => ∃ v', e = .returned v' ∧ RepF w' v' (smallQ n) ∧ Below w.heap.size w w' := by
  have hW : ∀ o, Below w.heap.size w (w.alloc o) := fun o => (Below.refl _ _).alloc (Nat.le_refl _) o
  have hF := Fz.new w (.bool false) (.slice none 0 0) (.slice none 0 0) 58 (by simp) (by simp) (by simp)
  go_enter Tryz.func148, Tryz.ntmps148
  go_wp2_with fail
  refine (n_small_any n _ h0 h1).mono ?_
  rintro e w1 ⟨v1, rfl, hv1, hb1⟩
  obtain ⟨a1, l1, c1, rfl, h1'⟩ := hv1.open
  have hF1 := hF.later (by simp) hb1
  have hbw := Below.next (hW _) hb1 (by simp)
  have hs1 : w.heap.size < w1.heap.size := hF1.lt
  go_wp2_with fail
  refine (n_small_any 1 _ (by omega) (by omega)).mono ?_
  rintro e w2 ⟨v2, rfl, hv2, hb2⟩
  obtain ⟨a2, l2, c2, rfl, h2'⟩ := hv2.open
  have hF2 := hF1.later (by omega) hb2
  have hbw2 := Below.next hbw hb2 hbw.size
  have h12 := h1'.below (Nat.le_refl _) hb2
  obtain ⟨x0, x1, x2, e0, e1, e2⟩ := hF2.cells
  obtain ⟨f0, f1, f2, hno, hh⟩ := id hF2
  obtain ⟨q0, q1, q2⟩ := put3_cells hF2 (.bool false) (.slice a1 l1 c1) (.slice a2 l2 c2)
  go_wp2
  refine bodyPost_ret (v := .agg #[.bool false, .slice a1 l1 c1, .slice a2 l2 c2]) (by unfold put3 at q0 q1 q2; simp [results, Tryz.results148, go_sem, q0, q1, q2]) rfl ⟨_, rfl, ?_, ?_⟩
  · exact ⟨_, _, rfl, put3_rep hF2 h12 _ _ _ (by simp) (by simp), put3_rep hF2 h2' _ _ _ (by simp) (by simp)⟩
  · exact put3_below hbw2 (Nat.le_refl _) _ _ _
end Go.Proofs.YtknnjibmacmniaaGreatDoor

/- fraction: lowest. -/
namespace Go.Proofs.YtknnjibmacmniaaGreatDoor
open Go.RowKit
set_option linter.unusedVariables false
attribute [local go_sem ↓] Go.wp_at_zero Go.wp_at_succ

/-- what lowest makes -/
theorem mk_low {b : Bool} {n d : Int} (hn : 0 ≤ n) (hd : 0 < d) : mk b n d = ⟨b && !decide (n / gcdI n d = 0), n / gcdI n d, d / gcdI n d⟩ := by
  have hg := gcdI_pos (x := n) hd
  unfold mk
  split
  · rename_i h0
    subst h0
    have e : gcdI 0 d = d := by unfold gcdI; rw [Int.gcd_zero_left]; omega
    rw [e, Int.zero_ediv, Int.ediv_self (by omega)]; simp
  · rename_i h0
    have h1 : n / gcdI n d ≠ 0 := by
      intro e
      have h2 := Int.ediv_mul_cancel (gcdI_dvd_left n d)
      rw [e, Int.zero_mul] at h2
      exact h0 h2.symm
    simp [h1]

set_option maxRecDepth 100000 in
set_option maxHeartbeats 3200000 in
theorem f_lowest_any (neg : Bool) (v u : Value) (n d : Int) (w : World) (hx : RepU w v n) (hy : RepU w u d) (hd : 0 < d) (bn : n < lim) (bd : d < lim) :
    Calls Tryz.prog 51 #[.bool neg, v, u] w fun e w' => ∃ v, e = .returned v ∧ RepF w' v (mk neg n d) ∧ Below w.heap.size w w' := by
  obtain ⟨a1, l1, c1, rfl, h1⟩ := hx.open
  obtain ⟨a2, l2, c2, rfl, h2⟩ := hy.open
  have hn0 := h1.nonneg (by omega)
  have hW : ∀ o o' o'', Below w.heap.size w (((w.alloc o).alloc o').alloc o'') := fun o o' o'' => (((Below.refl _ _).alloc (Nat.le_refl _) o).alloc (by simp) o').alloc (by simp; omega) o''
  have hg0 := gcdI_pos (x := n) hd
  have hg1 := gcdI_le (x := n) hd
  have HMK := mk_low (b := neg) hn0 hd
  obtain ⟨g, HG⟩ : ∃ g, Hid (gcdI n d = g) := ⟨_, rfl⟩
  rw [HG.out] at hg0 hg1 HMK
  have HMK2 : Hid (mk neg n d = ⟨neg && !decide (n / g = 0), n / g, d / g⟩) := HMK
  clear HMK
  obtain ⟨n', HN⟩ : ∃ t, Hid (n / g = t) := ⟨_, rfl⟩
  obtain ⟨d', HD⟩ : ∃ t, Hid (d / g = t) := ⟨_, rfl⟩
  obtain ⟨z, HZ⟩ : ∃ z, Hid (decide (n' = 0) = z) := ⟨_, rfl⟩
  rw [HN.out, HD.out, HZ.out] at HMK2
  have hA := Bx.new w (.slice a1 l1 c1) 56 (by simp)
  have hB := Bx.new (w.alloc (.cells #[.slice a1 l1 c1] 56)) (.slice a2 l2 c2) 56 (by simp)
  have hF := Fz.new ((w.alloc (.cells #[.slice a1 l1 c1] 56)).alloc (.cells #[.slice a2 l2 c2] 56)) (.bool false) (.slice none 0 0) (.slice none 0 0) 58 (by simp) (by simp) (by simp)
  have hA' := (hA.later (by simp) ((Below.refl _ _).alloc (Nat.le_refl _) (.cells #[.slice a2 l2 c2] 56))).later (by simp; omega) ((Below.refl _ _).alloc (Nat.le_refl _) (.cells #[.bool false, .slice none 0 0, .slice none 0 0] 58))
  have hB' := hB.later (by simp) ((Below.refl _ _).alloc (Nat.le_refl _) (.cells #[.bool false, .slice none 0 0, .slice none 0 0] 58))
  simp only [World.size_alloc] at hB' hF
  clear hA hB
  go_enter Tryz.func51, Tryz.ntmps51
  go_wp2_with fail
  refine (n_common_any _ _ n d _ (hx.below (Nat.le_refl _) (hW _ _ _)) (hy.below (Nat.le_refl _) (hW _ _ _)) bn bd).mono ?_
  rintro e w1 ⟨v1, rfl, hv1, hb1⟩
  obtain ⟨a3, l3, c3, rfl, h3⟩ := hv1.open
  rw [HG.out] at h3
  have hbw1 := Below.next (hW _ _ _) hb1 (by simp; omega)
  have hs1 := hb1.size
  simp only [World.size_alloc] at hs1
  have hA1 := hA'.later (by simp; omega) hb1
  have hB1 := hB'.later (by simp) hb1
  have hF1 := hF.later (by simp) hb1
  have hC1 := Bx.new w1 (.slice a3 l3 c3) 56 (by simp)
  have hbC : Below w1.heap.size w1 (w1.alloc (.cells #[.slice a3 l3 c3] 56)) := (Below.refl _ _).alloc (Nat.le_refl _) _
  have hA2 := hA1.later (by omega) hbC
  have hB2 := hB1.later (by omega) hbC
  have hF2 := hF1.later (by omega) hbC
  have h32 := h3.below (Nat.le_refl _) hbC
  have hbw2 := Below.next hbw1 hbC hbw1.size
  have hs2 : w1.heap.size + 1 ≤ (w1.alloc (.cells #[.slice a3 l3 c3] 56)).heap.size := by simp
  clear hA' hB' hF hA1 hB1 hF1 hb1 hbC hv1 h3
  have cA := hA2.cell
  have cC := hC1.cell
  go_wp2_with fail
  refine (n_div_any _ _ n g _ ⟨_, rfl, h1.below (Nat.le_refl _) hbw2⟩ ⟨_, rfl, h32⟩ bn (by omega) hg0).mono ?_
  rintro e w3 ⟨v3, u3, rfl, hv3, hu3, hb3⟩
  obtain ⟨a4, l4, c4, rfl, h4⟩ := hv3.open
  obtain ⟨a5, l5, c5, rfl, h5⟩ := hu3.open
  rw [HN.out] at h4
  have hA3 := hA2.later (by omega) hb3
  have hB3 := hB2.later (by omega) hb3
  have hC3 := hC1.later (by omega) hb3
  have hF3 := hF2.later (by omega) hb3
  have h33 := h32.below (Nat.le_refl _) hb3
  have hbw3 := Below.next hbw2 hb3 hbw2.size
  have hs3 := Nat.le_trans hs2 hb3.size
  have hfA := hA3.free
  have cA3 := hA3.cell
  have hA4 := hA3.fz.put (.slice a4 l4 c4) (by simp)
  have hB4 := hB3.other ⟨w.heap.size, 0, none⟩ (.slice a4 l4 c4) (by simp)
  have hC4 := hC3.other ⟨w.heap.size, 0, none⟩ (.slice a4 l4 c4) (by simp; omega)
  have hF4 := hF3.other ⟨w.heap.size, 0, none⟩ (.slice a4 l4 c4) (by simp; omega)
  have h34 := h33.box ⟨w.heap.size, 0, none⟩ (.slice a4 l4 c4) hA3.1
  have h44 := h4.box ⟨w.heap.size, 0, none⟩ (.slice a4 l4 c4) hA3.1
  have hbw4 := hbw3.setCell (p := ⟨w.heap.size, 0, none⟩) (Nat.le_refl _) (.slice a4 l4 c4)
  have hs4 : w1.heap.size + 1 ≤ (w3.setCell ⟨w.heap.size, 0, none⟩ (.slice a4 l4 c4)).heap.size := by simp [World.setCell]; omega
  clear cA cC hA2 hB2 hC1 hF2 h32 hbw2 hb3 hv3 hu3 h4 h5 hA3 hB3 hC3 hF3 h33 hbw3
  have cB := hB4.cell
  have cC := hC4.cell
  go_wp2_with fail
  refine (n_div_any _ _ d g _ ⟨_, rfl, h2.below (Nat.le_refl _) hbw4⟩ ⟨_, rfl, h34⟩ bd (by omega) hg0).mono ?_
  rintro e w5 ⟨v5, u5, rfl, hv5, hu5, hb5⟩
  obtain ⟨a6, l6, c6, rfl, h6⟩ := hv5.open
  obtain ⟨a7, l7, c7, rfl, h7⟩ := hu5.open
  rw [HD.out] at h6
  have hA5 := hA4.later (by omega) hb5
  have hB5 := hB4.later (by omega) hb5
  have hF5 := hF4.later (by omega) hb5
  have h45 := h44.below (Nat.le_refl _) hb5
  have hbw5 := Below.next hbw4 hb5 hbw4.size
  have hs5 := Nat.le_trans hs4 hb5.size
  have hfB := hB5.free
  have cB5 := hB5.cell
  have hB6 := hB5.fz.put (.slice a6 l6 c6) (by simp)
  have hA6 := hA5.other ⟨w.heap.size + 1, 0, none⟩ (.slice a6 l6 c6) (by simp)
  have hF6 := hF5.other ⟨w.heap.size + 1, 0, none⟩ (.slice a6 l6 c6) (by simp)
  have h46 := h45.box ⟨w.heap.size + 1, 0, none⟩ (.slice a6 l6 c6) hB5.1
  have h66 := h6.box ⟨w.heap.size + 1, 0, none⟩ (.slice a6 l6 c6) hB5.1
  have hbw6 := hbw5.setCell (p := ⟨w.heap.size + 1, 0, none⟩) (by simp) (.slice a6 l6 c6)
  have hs6 : w1.heap.size + 1 ≤ (w5.setCell ⟨w.heap.size + 1, 0, none⟩ (.slice a6 l6 c6)).heap.size := by simp [World.setCell]; omega
  clear cB cC hA4 hB4 hC4 hF4 h34 h44 hbw4 hb5 hv5 hu5 h6 h7 hA5 hB5 hF5 h45 hbw5
  have cA := hA6.cell
  have cB := hB6.cell
  obtain ⟨f0, f1, f2, hno, hh⟩ := id hF6
  obtain ⟨x0, x1, x2, e0, e1, e2⟩ := hF6.cells
  cases neg
  · have HMF : Hid (mk false n d = ⟨false, n', d'⟩) := by have := HMK2.out; unfold Hid; simpa using this
    obtain ⟨q0, q1, q2⟩ := put3_cells hF6 (.bool false) (.slice a4 l4 c4) (.slice a6 l6 c6)
    have h47 := put3_rep hF6 h46 (.bool false) (.slice a4 l4 c4) (.slice a6 l6 c6) (by simp) (by simp)
    have h67 := put3_rep hF6 h66 (.bool false) (.slice a4 l4 c4) (.slice a6 l6 c6) (by simp) (by simp)
    have hb7 := put3_below hbw6 (show w.heap.size ≤ w.heap.size + 1 + 1 by omega) (.bool false) (.slice a4 l4 c4) (.slice a6 l6 c6)
    unfold put3 at q0 q1 q2 h47 h67 hb7
    go_wp2_with fail
    go_region
    go_wp2
    refine bodyPost_ret (v := .agg #[.bool false, .slice a4 l4 c4, .slice a6 l6 c6]) (by simp [results, Tryz.results51, go_sem, q0, q1, q2]) rfl ⟨_, rfl, ?_, hb7.drew⟩
    rw [HMF.out]
    exact ⟨_, _, rfl, h47.below (Nat.le_refl _) (Below.refl _ _).drew, h67.below (Nat.le_refl _) (Below.refl _ _).drew⟩
  · have HMF : Hid (mk true n d = ⟨!z, n', d'⟩) := by have := HMK2.out; unfold Hid; simpa using this
    clear f0 f1 f2 hno hh e0 e1 e2
    cases z
    · go_wp2_with fail
      go_region_held3 (fun w' => w'.cell? ⟨w.heap.size, 0, none⟩ = some (.slice a4 l4 c4) ∧ w'.cell? ⟨w.heap.size + 1, 0, none⟩ = some (.slice a6 l6 c6) ∧ Fz (w.heap.size + 1 + 1) w' ∧ Below w.heap.size w w' ∧ w.heap.size ≤ w'.heap.size ∧ w.heap.size + 1 + 1 < w'.heap.size)
        (first | exact ⟨cA, cB, hF6, hbw6.drew, hbw6.size, hF6.lt⟩ | exact keepL (by assumption) (by assumption) | exact keepLP (by assumption) (by simp <;> omega) (by omega) (by simp) (by simp) (by simp))
        ((first | (go_at_call 50; refine (n_zero_any _ n' _ ⟨_, rfl, h46.below (Nat.le_refl _) (Below.refl _ _).drew⟩).mono ?_; rintro e w8 ⟨rfl, hb8⟩; rw [HZ.out]; have hS8 := keepL hb8 (by assumption); obtain ⟨_, _, hF8, hS8b⟩ := hS8; obtain ⟨f0, f1, f2, hno, hh⟩ := id hF8; obtain ⟨x0, x1, x2, e0, e1, e2⟩ := hF8.cells; have h48 := h46.below (Nat.le_refl _) (Below.undrew hb8); have h68 := h66.below (Nat.le_refl _) (Below.undrew hb8))))
      all_goals
        obtain ⟨q0, q1, q2⟩ := put3_cells hF8 (.bool true) (.slice a4 l4 c4) (.slice a6 l6 c6)
        have h47 := put3_rep hF8 h48 (.bool true) (.slice a4 l4 c4) (.slice a6 l6 c6) (by simp) (by simp)
        have h67 := put3_rep hF8 h68 (.bool true) (.slice a4 l4 c4) (.slice a6 l6 c6) (by simp) (by simp)
        have hb7 := put3_below hS8b.1 (show w.heap.size ≤ w.heap.size + 1 + 1 by omega) (.bool true) (.slice a4 l4 c4) (.slice a6 l6 c6)
        unfold put3 at q0 q1 q2 h47 h67 hb7
        go_wp2
        refine bodyPost_ret (v := .agg #[.bool true, .slice a4 l4 c4, .slice a6 l6 c6]) (by simp [results, Tryz.results51, go_sem, q0, q1, q2]) rfl ⟨_, rfl, ?_, hb7⟩
        rw [HMF.out]
        exact ⟨_, _, rfl, h47, h67⟩
    · go_wp2_with fail
      go_region_held3 (fun w' => w'.cell? ⟨w.heap.size, 0, none⟩ = some (.slice a4 l4 c4) ∧ w'.cell? ⟨w.heap.size + 1, 0, none⟩ = some (.slice a6 l6 c6) ∧ Fz (w.heap.size + 1 + 1) w' ∧ Below w.heap.size w w' ∧ w.heap.size ≤ w'.heap.size ∧ w.heap.size + 1 + 1 < w'.heap.size)
        (first | exact ⟨cA, cB, hF6, hbw6.drew, hbw6.size, hF6.lt⟩ | exact keepL (by assumption) (by assumption) | exact keepLP (by assumption) (by simp <;> omega) (by omega) (by simp) (by simp) (by simp))
        ((first | (go_at_call 50; refine (n_zero_any _ n' _ ⟨_, rfl, h46.below (Nat.le_refl _) (Below.refl _ _).drew⟩).mono ?_; rintro e w8 ⟨rfl, hb8⟩; rw [HZ.out]; have hS8 := keepL hb8 (by assumption); obtain ⟨_, _, hF8, hS8b⟩ := hS8; obtain ⟨f0, f1, f2, hno, hh⟩ := id hF8; obtain ⟨x0, x1, x2, e0, e1, e2⟩ := hF8.cells; have h48 := h46.below (Nat.le_refl _) (Below.undrew hb8); have h68 := h66.below (Nat.le_refl _) (Below.undrew hb8))))
      all_goals
        obtain ⟨q0, q1, q2⟩ := put3_cells hF8 (.bool false) (.slice a4 l4 c4) (.slice a6 l6 c6)
        have h47 := put3_rep hF8 h48 (.bool false) (.slice a4 l4 c4) (.slice a6 l6 c6) (by simp) (by simp)
        have h67 := put3_rep hF8 h68 (.bool false) (.slice a4 l4 c4) (.slice a6 l6 c6) (by simp) (by simp)
        have hb7 := put3_below hS8b.1 (show w.heap.size ≤ w.heap.size + 1 + 1 by omega) (.bool false) (.slice a4 l4 c4) (.slice a6 l6 c6)
        unfold put3 at q0 q1 q2 h47 h67 hb7
        go_wp2
        refine bodyPost_ret (v := .agg #[.bool false, .slice a4 l4 c4, .slice a6 l6 c6]) (by simp [results, Tryz.results51, go_sem, q0, q1, q2]) rfl ⟨_, rfl, ?_, hb7⟩
        rw [HMF.out]
        exact ⟨_, _, rfl, h47, h67⟩
end Go.Proofs.YtknnjibmacmniaaGreatDoor
