/- abacusref: rest. -/
import Derived.Test.YtknnjibmacmniaaGreatDoorC06
namespace Go.Proofs.YtknnjibmacmniaaGreatDoor
open Go.RowKit
set_option linter.unusedVariables false
attribute [local go_sem ↓] Go.wp_at_zero Go.wp_at_succ

def restX (a b : Q) : Q := mk b.neg (b.n % a.n) 1
def restT (a b : Q) : Bool := !decide ((restX a b).n = 0) && !((restX a b).neg == a.neg)
def restQ (a b : Q) : Q := if a.n = 0 then b else if restT a b then sumQ (restX a b) a else restX a b

theorem keepR {g B : Nat} {W w' w'' : World} {u0 u1 u2 v0 v1 v2 : Value} (hb : Below w'.heap.size w' w'') (h : w'.cell? ⟨g + 1, 0, none⟩ = some v0 ∧ Three w' g u0 u1 u2 v0 v1 v2 ∧ Below B W w' ∧ B < w'.heap.size) :
    w''.cell? ⟨g + 1, 0, none⟩ = some v0 ∧ Three w'' g u0 u1 u2 v0 v1 v2 ∧ Below B W w'' ∧ B < w''.heap.size := by
  obtain ⟨h1, h2, h3, h4⟩ := h
  exact ⟨cell_later hb h1, h2.later hb, Below.next h3 hb (Nat.le_of_lt h4), Nat.lt_of_lt_of_le h4 hb.size⟩
theorem keepRa {g B : Nat} {W w' : World} {u0 u1 u2 v0 v1 v2 : Value} {o : Obj} (h : w'.cell? ⟨g + 1, 0, none⟩ = some v0 ∧ Three w' g u0 u1 u2 v0 v1 v2 ∧ Below B W w' ∧ B < w'.heap.size) :
    (w'.alloc o).cell? ⟨g + 1, 0, none⟩ = some v0 ∧ Three (w'.alloc o) g u0 u1 u2 v0 v1 v2 ∧ Below B W (w'.alloc o) ∧ B < (w'.alloc o).heap.size :=
  keepR ((Below.refl _ _).alloc (Nat.le_refl _) o) h

theorem Three.put3 {w : World} {g x : Nat} {u0 u1 u2 v0 v1 v2 : Value} (h : Three w g u0 u1 u2 v0 v1 v2) (hx : g + 1 + 1 < x) (z0 z1 z2 : Value) : Three (put3 w x z0 z1 z2) g u0 u1 u2 v0 v1 v2 :=
  ⟨put3_box_other h.a (by omega) _ _ _, put3_box_other h.b (by omega) _ _ _, put3_fz_other h.r (by omega) _ _ _, by rw [put3_size]; exact h.s⟩
theorem keepRp {g B x : Nat} {W w' : World} {u0 u1 u2 v0 v1 v2 z0 z1 z2 : Value} (hx : g + 1 + 1 < x) (hB : B ≤ x) (h : w'.cell? ⟨g + 1, 0, none⟩ = some v0 ∧ Three w' g u0 u1 u2 v0 v1 v2 ∧ Below B W w' ∧ B < w'.heap.size) :
    (put3 w' x z0 z1 z2).cell? ⟨g + 1, 0, none⟩ = some v0 ∧ Three (put3 w' x z0 z1 z2) g u0 u1 u2 v0 v1 v2 ∧ Below B W (put3 w' x z0 z1 z2) ∧ B < (put3 w' x z0 z1 z2).heap.size := by
  obtain ⟨h1, h2, h3, h4⟩ := h
  exact ⟨put3_cell_other _ _ _ h1 (by simp; omega), h2.put3 hx _ _ _, put3_below h3 hB _ _ _, by rw [put3_size]; exact h4⟩
theorem later_lt {w w' : World} {o : Obj} (h : Below (w.alloc o).drew.heap.size (w.alloc o).drew w') : w.heap.size < w'.heap.size := by
  have h1 := (Below.undrew h).size
  simp only [World.size_alloc] at h1
  omega
theorem mk_le {neg : Bool} {n d : Int} (hn : 0 ≤ n) (hd : 0 < d) : 0 ≤ (mk neg n d).n ∧ (mk neg n d).n ≤ n ∧ 0 < (mk neg n d).d ∧ (mk neg n d).d ≤ d := by
  have h0 := mk_d0 (neg := neg) (n := n) hd
  have hg := gcdI_pos (x := n) hd
  refine ⟨?_, ?_, h0, ?_⟩
  · unfold mk; split
    · exact Int.le_refl _
    · exact Int.ediv_nonneg hn (by omega)
  · unfold mk; split
    · exact hn
    · exact Int.ediv_le_self _ hn
  · unfold mk; split
    · exact hd
    · exact Int.ediv_le_self _ (by omega)
theorem Box.lt {w : World} {g : Nat} {v0 v1 v2 : Value} (h : Box w g v0 v1 v2) : g < w.heap.size := by
  obtain ⟨T, h⟩ := h
  exact (Array.getElem?_eq_some_iff.1 h).1
theorem one_lt_cp : (1 : Int) < cp := by
  have h := p60_cp
  have h' : (2 : Int) ≤ 10 ^ 60 := by decide
  omega
theorem cp_lim : 10 * cp < lim := by
  have h2 : (1 : Int) < cp := by
    have h := p60_cp
    have h' : (2 : Int) ≤ 10 ^ 60 := by decide
    omega
  have := mul_cp (x := 1) (y := cp - 1) (by omega) h2 (by omega) (by omega)
  omega

set_option maxRecDepth 100000 in
set_option maxHeartbeats 8000000 in
theorem r_rest_run (v u : Value) (a b : Q) (w : World) (ha : RepQ w v a) (hb : RepQ w u b) (sa : a.Sm) (sb : b.Sm) (ha1 : a.d = 1) (hb1 : b.d = 1) (hz : ¬ a.n = 0) :
    Calls Tryz.prog 60 #[v, u] w fun e w' => ∃ v', e = .returned (.tuple #[v', .int .i64 0]) ∧ RepQ w' v' (restQ a b) ∧ Below w.heap.size w w' := by
  have ha' := ha
  have hb' := hb
  obtain ⟨a1, l1, c1, a2, l2, c2, rfl, h1, h2⟩ := ha.open
  obtain ⟨a3, l3, c3, a4, l4, c4, rfl, h3, h4⟩ := hb.open
  have HA1 : Hid (decide (a.d = 1) = true) := decide_eq_true ha1
  have HB1 : Hid (decide (b.d = 1) = true) := decide_eq_true hb1
  have HZ : Hid (decide (a.n = 0) = false) := decide_eq_false hz
  have hl1 := one_lt_lim
  have HR : Hid (restQ a b = if restT a b then sumQ (restX a b) a else restX a b) := by unfold Hid restQ; rw [if_neg hz]
  have hcl := cp_lim
  have han : 0 < a.n := by have := sa.n0; omega
  have hm0 := Int.emod_nonneg b.n (show a.n ≠ 0 by omega)
  have hm1 := Int.emod_lt_of_pos b.n han
  have oX : (restX a b).Ok := by
    have h := mk_le (neg := b.neg) hm0 (show (0 : Int) < 1 by omega)
    have := sb.ok.n1
    have h1 := one_lt_cp
    have h2 := sa.ok.n1
    exact ⟨h.1, by have := h.2.1; show (mk b.neg (b.n % a.n) 1).n < cp; omega, h.2.2.1, by have := h.2.2.2; show (mk b.neg (b.n % a.n) 1).d < cp; omega⟩
  have oa := sa.ok
  have ob := sb.ok
  have hT := Three.new w (.bool a.neg) (.slice a1 l1 c1) (.slice a2 l2 c2) (.bool b.neg) (.slice a3 l3 c3) (.slice a4 l4 c4) 35 35 35
  have hW : ∀ o o' o'', Below w.heap.size w (((w.alloc o).alloc o').alloc o'') := fun o o' o'' => (((Below.refl _ _).alloc (Nat.le_refl _) o).alloc (by simp) o').alloc (by simp; omega) o''
  have b1' := oa.n1
  have b2' := ob.n1
  clear ha hb ha1 hb1 hz
  go_enter Tryz.func60, Tryz.ntmps60
  go_wp2_with fail
  refine (r_whole_any _ a _ (ha'.below (Nat.le_refl _) (hW _ _ _)) (lt_lim_of_cp oa.d1)).mono ?_
  rintro e w1 ⟨rfl, hb1⟩
  rw [HA1.out]
  have hT1 := hT.later hb1
  have hw1 := Below.next (hW _ _ _) hb1 (by simp; omega)
  obtain ⟨p0, p1, p2⟩ := hT1.b.cells
  clear hT hb1
  go_wp2_with fail
  refine (r_whole_any _ b _ (hb'.below (Nat.le_refl _) hw1) (lt_lim_of_cp ob.d1)).mono ?_
  rintro e w2 ⟨rfl, hb2⟩
  rw [HB1.out]
  have hT2 := hT1.later hb2
  have hw2 := Below.next hw1 hb2 hw1.size
  clear p0 p1 p2 hT1 hb2 hw1
  obtain ⟨p0, p1, p2⟩ := hT2.a.cells
  go_wp2_with fail
  refine (r_zero_any _ a _ (ha'.below (Nat.le_refl _) hw2)).mono ?_
  rintro e w3 ⟨rfl, hb3⟩
  rw [HZ.out]
  have hT3 := hT2.later hb3
  have hw3 := Below.next hw2 hb3 hw2.size
  clear p0 p1 p2 hT2 hb3 hw2
  obtain ⟨p0, p1, p2⟩ := hT3.a.cells
  obtain ⟨r0, r1, r2⟩ := hT3.b.cells
  go_wp2_with fail
  refine (r_divide_any _ _ b.n a.n _ (h3.below (Nat.le_refl _) hw3) (h1.below (Nat.le_refl _) hw3) (lt_lim_of_cp ob.n1) han (by omega)).mono ?_
  rintro e w4 ⟨vq, vr, rfl, _, hr, hb4⟩
  have hT4 := hT3.later hb4
  have hw4 := Below.next hw3 hb4 hw3.size
  clear p0 p1 p2 r0 r1 r2 hT3 hb4 hw3
  obtain ⟨r0, r1, r2⟩ := hT4.b.cells
  have hs4 := hT4.s
  go_wp2_with fail
  go_region_held3 (fun w' => w'.cell? ⟨w.heap.size + 1, 0, none⟩ = some (.bool b.neg) ∧ Three w' w.heap.size (.bool a.neg) (.slice a1 l1 c1) (.slice a2 l2 c2) (.bool b.neg) (.slice a3 l3 c3) (.slice a4 l4 c4) ∧ Below w.heap.size w w' ∧ w.heap.size < w'.heap.size)
    (first | exact ⟨r0, ⟨hT4.a, hT4.b, hT4.r, hT4.s⟩, hw4.drew, by show _ < w4.heap.size; omega⟩ | exact keepR (by assumption) (by assumption) | exact keepRa (by assumption) | exact keepRp (by first | omega | (have := hbo.size; have : w4.heap.size ≤ wo.heap.size := this; omega)) (by first | omega | (have := hbo.size; have : w4.heap.size ≤ wo.heap.size := this; omega)) (by assumption))
    ((first | (go_at_call 67; refine (r_one_rep _).mono ?_; rintro e wo ⟨ao, l, c, rfl, hro, hbo⟩) | (go_at_call 28; refine (r_made_any _ _ _ (b.n % a.n) 1 _ (by first | exact hr.below (Nat.le_refl _) (Below.undrew hbo) | exact hr.below (Nat.le_refl _) ((Below.undrew hbo).alloc (Below.undrew hbo).size _) | exact hr.below (Nat.le_refl _) (Below.next ((Below.refl _ _).alloc (Nat.le_refl _) _) (Below.undrew hbo) (by simp))) (by first | exact hro | exact hro.below (Nat.le_refl _) ((Below.refl _ _).alloc (Nat.le_refl _) _)) (by omega) (by omega) (by omega)).mono ?_; rintro e w5 ⟨v5, rfl, hr5, hb5⟩; change RepQ w5 v5 (restX a b) at hr5; obtain ⟨b1, n1, k1, b2, n2, k2, rfl, hr6, hr7⟩ := RepQ.open hr5; have hSw5 := keepR hb5 (by assumption); (first | (have hzx : Fz w4.heap.size w5 := ((Fz.new w4 (.bool false) (.slice none 0 0) (.slice none 0 0) 35 (by simp) (by simp) (by simp)).later (by simp) (Below.undrew hbo)).later (later_lt hbo) hb5; obtain ⟨f0, f1, f2, _, _⟩ := id hzx; obtain ⟨x0, x1, x2, e0, e1, e2⟩ := hzx.cells) | (have hzx : Fz wo.heap.size w5 := (Fz.new wo (.bool false) (.slice none 0 0) (.slice none 0 0) 35 (by simp) (by simp) (by simp)).later (by simp) hb5; obtain ⟨f0, f1, f2, _, _⟩ := id hzx; obtain ⟨x0, x1, x2, e0, e1, e2⟩ := hzx.cells) | skip))))
  all_goals (first | (have hzx' : Fz w4.heap.size w5 := hzx; have hgx : w.heap.size + 1 + 1 < w4.heap.size := (by omega); have hBx := put3_box hzx' (.bool (restX a b).neg) (.slice b1 n1 k1) (.slice b2 n2 k2); have hrx := RepQ.put3 hr5 hzx' (.bool (restX a b).neg) (.slice b1 n1 k1) (.slice b2 n2 k2) (by simp) (by simp); have hTE := hSw5.2.1.put3 hgx (.bool (restX a b).neg) (.slice b1 n1 k1) (.slice b2 n2 k2); have hbE := put3_below hSw5.2.2.1 (show w.heap.size ≤ w4.heap.size by omega) (.bool (restX a b).neg) (.slice b1 n1 k1) (.slice b2 n2 k2); unfold put3 at hBx hrx hTE hbE; clear hzx hzx'; generalize w4.heap.size = gx at hBx hrx hTE hbE hgx ⊢) | (have hwo := (Below.undrew hbo).size; have hzx' : Fz wo.heap.size w5 := hzx; have hgx : w.heap.size + 1 + 1 < wo.heap.size := (by omega); have hBx := put3_box hzx' (.bool (restX a b).neg) (.slice b1 n1 k1) (.slice b2 n2 k2); have hrx := RepQ.put3 hr5 hzx' (.bool (restX a b).neg) (.slice b1 n1 k1) (.slice b2 n2 k2) (by simp) (by simp); have hTE := hSw5.2.1.put3 hgx (.bool (restX a b).neg) (.slice b1 n1 k1) (.slice b2 n2 k2); have hbE := put3_below hSw5.2.2.1 (show w.heap.size ≤ wo.heap.size by omega) (.bool (restX a b).neg) (.slice b1 n1 k1) (.slice b2 n2 k2); unfold put3 at hBx hrx hTE hbE; clear hzx hzx'; generalize wo.heap.size = gx at hBx hrx hTE hbE hgx ⊢) | (have hgx : w.heap.size + 1 + 1 < w5.heap.size := hSw5.2.1.s; have hBx := Box.new w5 (.bool (restX a b).neg) (.slice b1 n1 k1) (.slice b2 n2 k2) 35; have hrx := hr5.below (Nat.le_refl _) ((Below.refl _ _).alloc (Nat.le_refl _) (.cells #[.bool (restX a b).neg, .slice b1 n1 k1, .slice b2 n2 k2] 35)); have hTE := hSw5.2.1.later ((Below.refl _ _).alloc (Nat.le_refl _) (.cells #[.bool (restX a b).neg, .slice b1 n1 k1, .slice b2 n2 k2] 35)); have hbE := hSw5.2.2.1.alloc (Nat.le_of_lt hSw5.2.2.2) (.cells #[.bool (restX a b).neg, .slice b1 n1 k1, .slice b2 n2 k2] 35); generalize w5.heap.size = gx at hBx hgx ⊢))
  all_goals
    rename_i hH
    clear hH hSw5 hr5 hr6 hr7 hb5 hro hbo
    obtain ⟨z6, HZ6⟩ : ∃ z, Hid (decide ((restX a b).n = 0) = z) := ⟨_, rfl⟩
    obtain ⟨s6, HS6⟩ : ∃ s, Hid (((restX a b).neg == a.neg) = s) := ⟨_, rfl⟩
    have HT6 : Hid (restT a b = (!z6 && !s6)) := by unfold Hid restT; rw [HZ6.out, HS6.out]
    have hs6 := HS6.out
    have hgs := hBx.lt
    obtain ⟨p0, p1, p2⟩ := hBx.cells
    go_wp2_with fail
    refine (r_zero_any _ (restX a b) _ hrx).mono ?_
    rintro e w6 ⟨rfl, hb6⟩
    rw [HZ6.out]
    have hT6 := hTE.later hb6
    have hBx6 := hBx.below hgs hb6
    have hrx6 := hrx.below (Nat.le_refl _) hb6
    have hbE6 := Below.next hbE hb6 hbE.size
    have hgs6 := Nat.lt_of_lt_of_le hgs hb6.size
    clear hTE hBx hrx hbE hgs hb6 p0 p1 p2
    obtain ⟨p0, p1, p2⟩ := hBx6.cells
    obtain ⟨r0, r1, r2⟩ := hT6.a.cells
    have hnx : ¬ (w.heap.size + 1 + 1 = gx) := by omega
    cases z6
    · cases s6
      · have HF : Hid (restQ a b = sumQ (restX a b) a) := by unfold Hid; rw [HR.out, HT6.out]; rfl
        go_wp2_with fail
        refine (r_sum_any _ _ (restX a b) a _ hrx6 (ha'.below (Nat.le_refl _) hbE6) oX oa).mono ?_
        rintro e w7 ⟨v7, rfl, hr7, hb7⟩
        obtain ⟨y1, m1, j1, y2, m2, j2, rfl, hr8, hr9⟩ := RepQ.open hr7
        have hT7 := hT6.later hb7
        have hBx7 := hBx6.below hgs6 hb7
        have hbE7 := Below.next hbE6 hb7 hbE6.size
        clear p0 p1 p2 r0 r1 r2 hT6 hBx6 hrx6 hbE6 hb7
        have hfx := hBx7.fz (by simp) (by simp) (by simp)
        obtain ⟨f0, f1, f2, _, _⟩ := id hfx
        obtain ⟨g0, g1, g2, _, _⟩ := id hT7.r
        obtain ⟨p0, p1, p2⟩ := hBx7.cells
        obtain ⟨x0, x1, x2, e0, e1, e2⟩ := hT7.r.cells
        have hfr := put3_fz_other hT7.r hnx (.bool (sumQ (restX a b) a).neg) (.slice y1 m1 j1) (.slice y2 m2 j2)
        obtain ⟨q0, q1, q2⟩ := put3_cells hfr (.bool (sumQ (restX a b) a).neg) (.slice y1 m1 j1) (.slice y2 m2 j2)
        have hres := (RepQ.put3 (RepQ.put3 hr7 hfx (.bool (sumQ (restX a b) a).neg) (.slice y1 m1 j1) (.slice y2 m2 j2) (by simp) (by simp)) hfr (.bool (sumQ (restX a b) a).neg) (.slice y1 m1 j1) (.slice y2 m2 j2) (by simp) (by simp))
        have hbr := put3_below (put3_below hbE7 (show w.heap.size ≤ gx by omega) (.bool (sumQ (restX a b) a).neg) (.slice y1 m1 j1) (.slice y2 m2 j2)) (show w.heap.size ≤ w.heap.size + 1 + 1 by omega) (.bool (sumQ (restX a b) a).neg) (.slice y1 m1 j1) (.slice y2 m2 j2)
        unfold put3 at q0 q1 q2 hres hbr
        clear hfr hfx
        go_wp2
        refine bodyPost_ret (v := .tuple #[.agg #[.bool (sumQ (restX a b) a).neg, .slice y1 m1 j1, .slice y2 m2 j2], .int .i64 0]) (by simp [results, Tryz.results60, go_sem, q0, q1, q2]) rfl ⟨_, rfl, by rw [HF.out]; exact hres, hbr⟩
      · have HF : Hid (restQ a b = restX a b) := by unfold Hid; rw [HR.out, HT6.out]; rfl
        obtain ⟨g0, g1, g2, _, _⟩ := id hT6.r
        obtain ⟨x0, x1, x2, e0, e1, e2⟩ := hT6.r.cells
        obtain ⟨q0, q1, q2⟩ := put3_cells hT6.r (.bool (restX a b).neg) (.slice b1 n1 k1) (.slice b2 n2 k2)
        have hres := RepQ.put3 hrx6 hT6.r (.bool (restX a b).neg) (.slice b1 n1 k1) (.slice b2 n2 k2) (by simp) (by simp)
        have hbr := put3_below hbE6 (show w.heap.size ≤ w.heap.size + 1 + 1 by omega) (.bool (restX a b).neg) (.slice b1 n1 k1) (.slice b2 n2 k2)
        unfold put3 at q0 q1 q2 hres hbr
        go_wp2
        refine bodyPost_ret (v := .tuple #[.agg #[.bool (restX a b).neg, .slice b1 n1 k1, .slice b2 n2 k2], .int .i64 0]) (by simp [results, Tryz.results60, go_sem, q0, q1, q2]) rfl ⟨_, rfl, by rw [HF.out]; exact hres, hbr⟩
    · have HF : Hid (restQ a b = restX a b) := by unfold Hid; rw [HR.out, HT6.out]; simp
      obtain ⟨g0, g1, g2, _, _⟩ := id hT6.r
      obtain ⟨x0, x1, x2, e0, e1, e2⟩ := hT6.r.cells
      obtain ⟨q0, q1, q2⟩ := put3_cells hT6.r (.bool (restX a b).neg) (.slice b1 n1 k1) (.slice b2 n2 k2)
      have hres := RepQ.put3 hrx6 hT6.r (.bool (restX a b).neg) (.slice b1 n1 k1) (.slice b2 n2 k2) (by simp) (by simp)
      have hbr := put3_below hbE6 (show w.heap.size ≤ w.heap.size + 1 + 1 by omega) (.bool (restX a b).neg) (.slice b1 n1 k1) (.slice b2 n2 k2)
      unfold put3 at q0 q1 q2 hres hbr
      go_wp2
      refine bodyPost_ret (v := .tuple #[.agg #[.bool (restX a b).neg, .slice b1 n1 k1, .slice b2 n2 k2], .int .i64 0]) (by simp [results, Tryz.results60, go_sem, q0, q1, q2]) rfl ⟨_, rfl, by rw [HF.out]; exact hres, hbr⟩

set_option maxRecDepth 100000 in
set_option maxHeartbeats 1600000 in
theorem r_rest_arg (v u : Value) (a b : Q) (w : World) (ha : RepQ w v a) (hb : RepQ w u b) (sa : a.Sm) (sb : b.Sm) (hn : ¬ (a.d = 1 ∧ b.d = 1)) :
    Calls Tryz.prog 60 #[v, u] w fun e w' => ∃ v', e = .returned (.tuple #[v', .int .i64 8]) ∧ Shp v' ∧ Below w.heap.size w w' := by
  have ha' := ha
  have hb' := hb
  obtain ⟨a1, l1, c1, a2, l2, c2, rfl, h1, h2⟩ := ha.open
  obtain ⟨a3, l3, c3, a4, l4, c4, rfl, h3, h4⟩ := hb.open
  obtain ⟨za, HZA⟩ : ∃ z, Hid (decide (a.d = 1) = z) := ⟨_, rfl⟩
  obtain ⟨zb, HZB⟩ : ∃ z, Hid (decide (b.d = 1) = z) := ⟨_, rfl⟩
  have hz : za = false ∨ (za = true ∧ zb = false) := by
    have e1 := HZA.out
    have e2 := HZB.out
    cases za
    · exact .inl rfl
    · right
      refine ⟨rfl, ?_⟩
      rw [← e2]
      exact decide_eq_false (fun h => hn ⟨of_decide_eq_true e1, h⟩)
  have oa := sa.ok
  have ob := sb.ok
  have hT := Three.new w (.bool a.neg) (.slice a1 l1 c1) (.slice a2 l2 c2) (.bool b.neg) (.slice a3 l3 c3) (.slice a4 l4 c4) 35 35 35
  have hW : ∀ o o' o'', Below w.heap.size w (((w.alloc o).alloc o').alloc o'') := fun o o' o'' => (((Below.refl _ _).alloc (Nat.le_refl _) o).alloc (by simp) o').alloc (by simp; omega) o''
  clear ha hb hn
  rcases hz with rfl | ⟨rfl, rfl⟩
  · go_enter Tryz.func60, Tryz.ntmps60
    go_wp2_with fail
    refine (r_whole_any _ a _ (ha'.below (Nat.le_refl _) (hW _ _ _)) (lt_lim_of_cp oa.d1)).mono ?_
    rintro e w1 ⟨rfl, hb1⟩
    rw [HZA.out]
    have hT1 := hT.later hb1
    have hw1 := Below.next (hW _ _ _) hb1 (by simp; omega)
    obtain ⟨p0, p1, p2⟩ := hT1.a.cells
    obtain ⟨f0, f1, f2, _, _⟩ := id hT1.r
    obtain ⟨x0, x1, x2, e0, e1, e2⟩ := hT1.r.cells
    obtain ⟨q0, q1, q2⟩ := put3_cells hT1.r (.bool a.neg) (.slice a1 l1 c1) (.slice a2 l2 c2)
    have hbr := put3_below hw1 (show w.heap.size ≤ w.heap.size + 1 + 1 by omega) (.bool a.neg) (.slice a1 l1 c1) (.slice a2 l2 c2)
    unfold put3 at q0 q1 q2 hbr
    go_wp2
    exact bodyPost_ret (v := .tuple #[.agg #[.bool a.neg, .slice a1 l1 c1, .slice a2 l2 c2], .int .i64 8]) (by simp [results, Tryz.results60, go_sem, q0, q1, q2]) rfl ⟨_, rfl, ⟨_, _, _, _, _, _, _, rfl⟩, hbr⟩
  · go_enter Tryz.func60, Tryz.ntmps60
    go_wp2_with fail
    refine (r_whole_any _ a _ (ha'.below (Nat.le_refl _) (hW _ _ _)) (lt_lim_of_cp oa.d1)).mono ?_
    rintro e w1 ⟨rfl, hb1⟩
    rw [HZA.out]
    have hT1 := hT.later hb1
    have hw1 := Below.next (hW _ _ _) hb1 (by simp; omega)
    obtain ⟨p0, p1, p2⟩ := hT1.b.cells
    go_wp2_with fail
    refine (r_whole_any _ b _ (hb'.below (Nat.le_refl _) hw1) (lt_lim_of_cp ob.d1)).mono ?_
    rintro e w2 ⟨rfl, hb2⟩
    rw [HZB.out]
    have hT2 := hT1.later hb2
    have hw2 := Below.next hw1 hb2 hw1.size
    clear p0 p1 p2 hT1
    obtain ⟨p0, p1, p2⟩ := hT2.a.cells
    obtain ⟨f0, f1, f2, _, _⟩ := id hT2.r
    obtain ⟨x0, x1, x2, e0, e1, e2⟩ := hT2.r.cells
    obtain ⟨q0, q1, q2⟩ := put3_cells hT2.r (.bool a.neg) (.slice a1 l1 c1) (.slice a2 l2 c2)
    have hbr := put3_below hw2 (show w.heap.size ≤ w.heap.size + 1 + 1 by omega) (.bool a.neg) (.slice a1 l1 c1) (.slice a2 l2 c2)
    unfold put3 at q0 q1 q2 hbr
    go_wp2
    exact bodyPost_ret (v := .tuple #[.agg #[.bool a.neg, .slice a1 l1 c1, .slice a2 l2 c2], .int .i64 8]) (by simp [results, Tryz.results60, go_sem, q0, q1, q2]) rfl ⟨_, rfl, ⟨_, _, _, _, _, _, _, rfl⟩, hbr⟩

set_option maxRecDepth 100000 in
set_option maxHeartbeats 1600000 in
theorem r_rest_zero (v u : Value) (a b : Q) (w : World) (ha : RepQ w v a) (hb : RepQ w u b) (sa : a.Sm) (sb : b.Sm) (ha1 : a.d = 1) (hb1 : b.d = 1) (hz : a.n = 0) :
    Calls Tryz.prog 60 #[v, u] w fun e w' => ∃ v', e = .returned (.tuple #[v', .int .i64 0]) ∧ RepQ w' v' (restQ a b) ∧ Below w.heap.size w w' := by
  have ha' := ha
  have hb' := hb
  obtain ⟨a1, l1, c1, a2, l2, c2, rfl, h1, h2⟩ := ha.open
  obtain ⟨a3, l3, c3, a4, l4, c4, rfl, h3, h4⟩ := hb.open
  have HA1 : Hid (decide (a.d = 1) = true) := decide_eq_true ha1
  have HB1 : Hid (decide (b.d = 1) = true) := decide_eq_true hb1
  have HZ : Hid (decide (a.n = 0) = true) := decide_eq_true hz
  have HR : Hid (restQ a b = b) := by unfold Hid restQ; rw [if_pos hz]
  have oa := sa.ok
  have ob := sb.ok
  have hT := Three.new w (.bool a.neg) (.slice a1 l1 c1) (.slice a2 l2 c2) (.bool b.neg) (.slice a3 l3 c3) (.slice a4 l4 c4) 35 35 35
  have hW : ∀ o o' o'', Below w.heap.size w (((w.alloc o).alloc o').alloc o'') := fun o o' o'' => (((Below.refl _ _).alloc (Nat.le_refl _) o).alloc (by simp) o').alloc (by simp; omega) o''
  clear ha hb ha1 hb1 hz
  go_enter Tryz.func60, Tryz.ntmps60
  go_wp2_with fail
  refine (r_whole_any _ a _ (ha'.below (Nat.le_refl _) (hW _ _ _)) (lt_lim_of_cp oa.d1)).mono ?_
  rintro e w1 ⟨rfl, hb1⟩
  rw [HA1.out]
  have hT1 := hT.later hb1
  have hw1 := Below.next (hW _ _ _) hb1 (by simp; omega)
  obtain ⟨p0, p1, p2⟩ := hT1.b.cells
  clear hT hb1
  go_wp2_with fail
  refine (r_whole_any _ b _ (hb'.below (Nat.le_refl _) hw1) (lt_lim_of_cp ob.d1)).mono ?_
  rintro e w2 ⟨rfl, hb2⟩
  rw [HB1.out]
  have hT2 := hT1.later hb2
  have hw2 := Below.next hw1 hb2 hw1.size
  clear p0 p1 p2 hT1 hb2 hw1
  obtain ⟨p0, p1, p2⟩ := hT2.a.cells
  go_wp2_with fail
  refine (r_zero_any _ a _ (ha'.below (Nat.le_refl _) hw2)).mono ?_
  rintro e w3 ⟨rfl, hb3⟩
  rw [HZ.out]
  have hT3 := hT2.later hb3
  have hw3 := Below.next hw2 hb3 hw2.size
  clear p0 p1 p2 hT2 hb3 hw2
  obtain ⟨p0, p1, p2⟩ := hT3.b.cells
  obtain ⟨f0, f1, f2, _, _⟩ := id hT3.r
  obtain ⟨x0, x1, x2, e0, e1, e2⟩ := hT3.r.cells
  obtain ⟨q0, q1, q2⟩ := put3_cells hT3.r (.bool b.neg) (.slice a3 l3 c3) (.slice a4 l4 c4)
  have hres := RepQ.put3 (hb'.below (Nat.le_refl _) hw3) hT3.r (.bool b.neg) (.slice a3 l3 c3) (.slice a4 l4 c4) (by simp) (by simp)
  have hbr := put3_below hw3 (show w.heap.size ≤ w.heap.size + 1 + 1 by omega) (.bool b.neg) (.slice a3 l3 c3) (.slice a4 l4 c4)
  unfold put3 at q0 q1 q2 hbr hres
  go_wp2
  exact bodyPost_ret (v := .tuple #[.agg #[.bool b.neg, .slice a3 l3 c3, .slice a4 l4 c4], .int .i64 0]) (by simp [results, Tryz.results60, go_sem, q0, q1, q2]) rfl ⟨_, rfl, by rw [HR.out]; exact hres, hbr⟩
end Go.Proofs.YtknnjibmacmniaaGreatDoor
