/- fraction: Digits, Text. -/
import Derived.Test.YtknnjibmacmniaaGreatDoorC25
import Derived.Test.YtknnjibmacmniaaGreatDoorC24
import Derived.Test.YtknnjibmacmniaaGreatDoorC07
import Derived.Test.YtknnjibmacmniaaGreatDoorC08
import Derived.Deep.RegionWith
namespace Go.Proofs.YtknnjibmacmniaaGreatDoor
open Go.RowKit
set_option linter.unusedVariables false
attribute [local go_sem ↓] Go.wp_at_zero Go.wp_at_succ

theorem keepG {B : Nat} {W w' w'' : World} {a0 a1 : Addr} {x0 x1 : Value} (hb : Below w'.heap.size w' w'') (h : w'.cell? a0 = some x0 ∧ w'.cell? a1 = some x1 ∧ Below B W w' ∧ B ≤ w'.heap.size ∧ Gl w') :
    w''.cell? a0 = some x0 ∧ w''.cell? a1 = some x1 ∧ Below B W w'' ∧ B ≤ w''.heap.size ∧ Gl w'' := by
  obtain ⟨h0, h1, h2, h3, h4⟩ := h
  exact ⟨cell_later hb h0, cell_later hb h1, Below.next h2 hb h3, Nat.le_trans h3 hb.size, h4.later hb⟩

set_option maxRecDepth 100000 in
set_option maxHeartbeats 1600000 in
theorem f_digits_any (v : Value) (q : Q) (w : World) (h : RepF w v q) (bn : q.n < lim) (bd : q.d < lim) (hG : Gl w) :
    Calls Tryz.prog 53 #[v] w fun e w' => e = .returned (.int .i64 (max ((txt q.n).length : Int) ((txt q.d).length : Int))) ∧ Below w.heap.size w w' := by
  obtain ⟨a1, l1, c1, a2, l2, c2, rfl, h1, h2⟩ := h.open
  have hB := Box.new w (.bool q.neg) (.slice a1 l1 c1) (.slice a2 l2 c2) 58
  have hW : ∀ o, Below w.heap.size w (w.alloc o).drew := fun o => ((Below.refl _ _).alloc (Nat.le_refl _) o).drew
  obtain ⟨x, HX⟩ : ∃ x, Hid (((txt q.n).length : Int) = x) := ⟨_, rfl⟩
  obtain ⟨y, HY⟩ : ∃ x, Hid (((txt q.d).length : Int) = x) := ⟨_, rfl⟩
  rw [HX.out, HY.out]
  obtain ⟨p0, p1, p2⟩ := hB.cells
  clear h hB
  go_enter Tryz.func53, Tryz.ntmps53
  go_wp2_with fail
  go_region_held3 (fun w' => w'.cell? ⟨w.heap.size, 1, none⟩ = some (.slice a1 l1 c1) ∧ w'.cell? ⟨w.heap.size, 2, none⟩ = some (.slice a2 l2 c2) ∧ Below w.heap.size w w' ∧ w.heap.size ≤ w'.heap.size ∧ Gl w')
    (first | assumption | exact ⟨p1, p2, hW _, (hW _).size, hG.later (hW _)⟩ | exact keepG (by assumption) (by assumption))
    ((first | (go_at_call_of 103 (Value.slice a1 l1 c1); refine (n_digits_any _ q.n _ ⟨_, rfl, h1.below (Nat.le_refl _) (by exact And.left (And.right (And.right (by assumption))))⟩ bn (And.right (And.right (And.right (And.right (by assumption)))))).mono ?_; rw [HX.out]; rintro e w1 ⟨rfl, hb1⟩) | (go_at_call_of 103 (Value.slice a2 l2 c2); refine (n_digits_any _ q.d _ ⟨_, rfl, h2.below (Nat.le_refl _) (by exact And.left (And.right (And.right (by assumption))))⟩ bd (And.right (And.right (And.right (And.right (by assumption)))))).mono ?_; rw [HY.out]; rintro e w2 ⟨rfl, hb2⟩)))
  rename_i hH
  obtain ⟨_, _, hH2, _⟩ := hH
  go_wp2
  go_ret
  exact ⟨ret_int (by simp only [Int.max_def]), hH2⟩

theorem nDig_le : ∀ (k u : Nat), 0 < k → u < 10 ^ k → Lib.nDigits u ≤ k
  | 0, _, h, _ => by omega
  | k + 1, u, _, hu => by
    by_cases h : u < 10
    · rw [Lib.nDigits_small h]; omega
    · rw [Lib.nDigits_big h]
      have hk : 0 < k := by
        rcases Nat.eq_zero_or_pos k with rfl | h'
        · simp at hu; omega
        · exact h'
      have := nDig_le k (u / 10) hk (by rw [Nat.pow_succ] at hu; omega)
      omega
theorem txt_len_le {n : Int} (hn : 0 ≤ n) {k : Nat} (hk : 0 < k) : (txt n).length ≤ k ↔ n < 10 ^ k := by
  rw [txt_dec n hn, dec_length]
  have e : ((10 ^ k : Nat) : Int) = 10 ^ k := by norm_cast
  constructor
  · intro h
    have h1 := Lib.lt_pow_nDigits n.toNat
    have h2 := Nat.pow_le_pow_right (show 0 < 10 by omega) h
    omega
  · intro h
    exact nDig_le k _ hk (by omega)
theorem txt_len_lim {n : Int} (hn : 0 ≤ n) (h : n < lim) : (txt n).length ≤ 1000 := by
  have := (txt_len_le hn (k := 900) (by omega)).2 h
  omega
theorem big_digits {q : Q} (hn : 0 ≤ q.n) (hd : 0 ≤ q.d) : decide (max ((txt q.n).length : Int) ((txt q.d).length : Int) > 60) = bigQ q := by
  have h1 := txt_len_le hn (k := 60) (by omega)
  have h2 := txt_len_le hd (k := 60) (by omega)
  unfold bigQ
  rw [Bool.eq_iff_iff]
  simp only [Bool.or_eq_true, decide_eq_true_eq]
  generalize (10 : Int) ^ 60 = K at *
  simp only [Int.max_def]
  constructor
  · intro h
    split at h
    · right; omega
    · left; omega
  · rintro (h | h)
    · split <;> omega
    · split <;> omega

set_option maxRecDepth 100000 in
set_option maxHeartbeats 1600000 in
theorem f_text_any (v : Value) (q : Q) (w : World) (h : RepF w v q) (bn : q.n < lim) (bd : q.d < lim) (hG : Gl w) :
    Calls Tryz.prog 24 #[v] w fun e w' => e = .returned (.string ⟨(txtQ q).toArray⟩) ∧ Below w.heap.size w w' := by
  have h' := h
  obtain ⟨a1, l1, c1, a2, l2, c2, rfl, h1, h2⟩ := h.open
  have t1 := txt_len_lim (h1.nonneg (by omega)) bn
  have t2 := txt_len_lim (h2.nonneg (by omega)) bd
  obtain ⟨neg, n, d⟩ := q
  simp only at *
  have hW : ∀ o, Below w.heap.size w (w.alloc o) := fun o => (Below.refl _ _).alloc (Nat.le_refl _) o
  have hB := Box.new w (.bool neg) (.slice a1 l1 c1) (.slice a2 l2 c2) 58
  obtain ⟨z, HZ⟩ : ∃ z, Hid (decide (d = 1) = z) := ⟨_, rfl⟩
  cases neg
  all_goals cases z
  all_goals
    go_enter Tryz.func24, Tryz.ntmps24
    go_wp2_with fail
    refine (n_text_any _ n _ ⟨_, rfl, h1.below (Nat.le_refl _) (hW _)⟩ bn (hG.later (hW _))).mono ?_
    rintro e w1 ⟨rfl, hb1⟩
    have hB1 := hB.below (by simp) hb1
    obtain ⟨p0, p1, p2⟩ := hB1.cells
    have hbw := Below.next (hW _) hb1 (by simp)
    go_wp2_with fail
    refine (f_isone_any _ _ _ (h'.below (Nat.le_refl _) hbw)).mono ?_
    simp only
    rw [HZ.out]
    rintro e w2 ⟨rfl, hb2⟩
    have hB2 := hB1.below hB1.lt hb2
    clear p0 p1 p2
    obtain ⟨p0, p1, p2⟩ := hB2.cells
    have hbw2 := Below.next hbw hb2 hbw.size
    go_wp2_with fail
    first
      | (go_ret; exact ⟨ret_str (by have hd := HZ.out; simp at hd; apply ByteArray.ext; simp [txtQ, hd]), hbw2⟩)
      | (refine (n_text_any _ d _ ⟨_, rfl, h2.below (Nat.le_refl _) hbw2⟩ bd (hG.later hbw2)).mono ?_; rintro e w4 ⟨rfl, hb4⟩; go_wp2; go_ret; exact ⟨ret_str (by have hd := HZ.out; simp at hd; apply ByteArray.ext; simp [txtQ, hd]), Below.next hbw2 hb4 hbw2.size⟩)
end Go.Proofs.YtknnjibmacmniaaGreatDoor

/- fraction: WholeWithin. -/
namespace Go.Proofs.YtknnjibmacmniaaGreatDoor
open Go.RowKit
set_option linter.unusedVariables false
attribute [local go_sem ↓] Go.wp_at_zero Go.wp_at_succ

theorem keepB3 {B : Nat} {W w' w'' : World} {a0 a1 a2 : Addr} {x0 x1 x2 : Value} (hb : Below w'.heap.size w' w'') (h : w'.cell? a0 = some x0 ∧ w'.cell? a1 = some x1 ∧ w'.cell? a2 = some x2 ∧ Below B W w' ∧ B ≤ w'.heap.size) :
    w''.cell? a0 = some x0 ∧ w''.cell? a1 = some x1 ∧ w''.cell? a2 = some x2 ∧ Below B W w'' ∧ B ≤ w''.heap.size := by
  obtain ⟨h0, h1, h2, h3, h4⟩ := h
  exact ⟨cell_later hb h0, cell_later hb h1, cell_later hb h2, Below.next h3 hb h4, Nat.le_trans h4 hb.size⟩

theorem wrap_i64 {n : Int} (h0 : -1000 ≤ n) (h1 : n ≤ 1000) : IntKind.i64.wrap n = n := by
  simp [IntKind.wrap, IntKind.bits, IntKind.signed]; omega
set_option maxRecDepth 100000 in
set_option maxHeartbeats 1600000 in
theorem f_within_frac (v : Value) (q : Q) (w : World) (h : RepF w v q) (hd : ¬ q.d = 1) :
    Calls Tryz.prog 145 #[v, .int .u32 99] w fun e w' => e = .returned (.tuple #[.int .i64 0, .bool false]) ∧ Below w.heap.size w w' := by
  have h' := h
  obtain ⟨a1, l1, c1, a2, l2, c2, rfl, h1, h2⟩ := h.open
  have hW : ∀ o, Below w.heap.size w (w.alloc o) := fun o => (Below.refl _ _).alloc (Nat.le_refl _) o
  obtain ⟨p0, p1, p2⟩ := (Box.new w (.bool q.neg) (.slice a1 l1 c1) (.slice a2 l2 c2) 58).cells
  have HZ : Hid (decide (q.d = 1) = false) := decide_eq_false hd
  clear hd
  go_enter Tryz.func145, Tryz.ntmps145
  go_wp2_with fail
  first | (go_region_with (first | (go_at_call 55; refine (f_isone_any _ q _ (h'.below (Nat.le_refl _) (hW _).drew)).mono ?_; rw [HZ.out]; rintro e w1 ⟨rfl, hb1⟩))) | fail
  all_goals
    go_wp2
    refine bodyPost_ret (v := .tuple #[.int .i64 0, .bool false]) (by simp [results, Tryz.results145, go_sem]) rfl ⟨rfl, Below.next (hW _).drew hb1 (by simp)⟩

set_option maxRecDepth 100000 in
set_option maxHeartbeats 1600000 in
theorem f_within_big (v : Value) (q : Q) (w : World) (h : RepF w v q) (hd : q.d = 1) (hn : 99 < q.n) (bn : q.n < lim) :
    Calls Tryz.prog 145 #[v, .int .u32 99] w fun e w' => e = .returned (.tuple #[.int .i64 0, .bool false]) ∧ Below w.heap.size w w' := by
  have h' := h
  obtain ⟨a1, l1, c1, a2, l2, c2, rfl, h1, h2⟩ := h.open
  have hW : ∀ o, Below w.heap.size w (w.alloc o) := fun o => (Below.refl _ _).alloc (Nat.le_refl _) o
  obtain ⟨p0, p1, p2⟩ := (Box.new w (.bool q.neg) (.slice a1 l1 c1) (.slice a2 l2 c2) 58).cells
  have HZ : Hid (decide (q.d = 1) = true) := decide_eq_true hd
  have HC : Hid (sgn3 q.n 99 = 1) := sgn3_gt hn
  clear hd
  go_enter Tryz.func145, Tryz.ntmps145
  go_wp2_with fail
  go_region_held3 (fun w' => w'.cell? ⟨w.heap.size, 0, none⟩ = some (.bool q.neg) ∧ w'.cell? ⟨w.heap.size, 1, none⟩ = some (.slice a1 l1 c1) ∧ w'.cell? ⟨w.heap.size, 2, none⟩ = some (.slice a2 l2 c2) ∧ Below w.heap.size w w' ∧ w.heap.size ≤ w'.heap.size)
    (first | assumption | exact ⟨p0, p1, p2, (hW _).drew, (hW _).size⟩ | exact keepB3 (by assumption) (by assumption))
    ((first | (go_at_call 55; refine (f_isone_any _ q _ (h'.below (Nat.le_refl _) (hW _).drew)).mono ?_; rw [HZ.out]; rintro e w1 ⟨rfl, hb1⟩) | (go_at_call 136; refine (n_small_any 99 _ (by omega) (by omega)).mono ?_; rintro e w2 ⟨v2, rfl, hv2, hb2⟩; obtain ⟨b2, n2, k2, rfl, r2⟩ := hv2.open) | (go_at_call 134; refine (n_compare_any _ _ q.n 99 _ ⟨_, rfl, h1.below (Nat.le_refl _) (by exact And.left (And.right (And.right (And.right (by assumption)))))⟩ ⟨_, rfl, by assumption⟩ bn (by omega)).mono ?_; rw [HC.out]; rintro e w3 ⟨rfl, hb3⟩)))
  rename_i hH
  obtain ⟨_, _, _, hH2, _⟩ := hH
  go_wp2
  refine bodyPost_ret (v := .tuple #[.int .i64 0, .bool false]) (by simp [results, Tryz.results145, go_sem]) rfl ⟨rfl, hH2⟩

set_option maxRecDepth 100000 in
set_option maxHeartbeats 1600000 in
theorem f_within_yes (v : Value) (q : Q) (w : World) (h : RepF w v q) (hd : q.d = 1) (hn : q.n ≤ 99) :
    Calls Tryz.prog 145 #[v, .int .u32 99] w fun e w' => e = .returned (.tuple #[.int .i64 (sgQ q * q.n), .bool true]) ∧ Below w.heap.size w w' := by
  have h' := h
  obtain ⟨a1, l1, c1, a2, l2, c2, rfl, h1, h2⟩ := h.open
  have hW : ∀ o, Below w.heap.size w (w.alloc o) := fun o => (Below.refl _ _).alloc (Nat.le_refl _) o
  obtain ⟨p0, p1, p2⟩ := (Box.new w (.bool q.neg) (.slice a1 l1 c1) (.slice a2 l2 c2) 58).cells
  have HZ : Hid (decide (q.d = 1) = true) := decide_eq_true hd
  have hn0 := h1.nonneg (by omega)
  have hC : sgn3 q.n 99 ≤ 0 := by unfold sgn3; split <;> (try split) <;> omega
  obtain ⟨c, HC⟩ : ∃ c, Hid (sgn3 q.n 99 = c) := ⟨_, rfl⟩
  rw [HC.out] at hC
  obtain ⟨s, HS⟩ : ∃ s, Hid (sgQ q = s) := ⟨_, rfl⟩
  have hs : -1 ≤ s ∧ s ≤ 1 := by rw [← HS.out]; unfold sgQ; split <;> (try split) <;> omega
  have hm : -99 ≤ s * q.n ∧ s * q.n ≤ 99 := by
    have : s = -1 ∨ s = 0 ∨ s = 1 := by omega
    rcases this with rfl | rfl | rfl <;> omega
  have hl99 : (99 : Int) < lim := by have h := lt_lim_of_cp one_lt_cp; have := cp_lim; have := p60_cp; have h' : (100 : Int) ≤ 10 ^ 60 := by decide
                                     omega
  rw [HS.out]
  clear hd
  go_enter Tryz.func145, Tryz.ntmps145
  go_wp2_with fail
  go_region_held3 (fun w' => w'.cell? ⟨w.heap.size, 0, none⟩ = some (.bool q.neg) ∧ w'.cell? ⟨w.heap.size, 1, none⟩ = some (.slice a1 l1 c1) ∧ w'.cell? ⟨w.heap.size, 2, none⟩ = some (.slice a2 l2 c2) ∧ Below w.heap.size w w' ∧ w.heap.size ≤ w'.heap.size)
    (first | assumption | exact ⟨p0, p1, p2, (hW _).drew, (hW _).size⟩ | exact keepB3 (by assumption) (by assumption))
    ((first | (go_at_call 55; refine (f_isone_any _ q _ (h'.below (Nat.le_refl _) (hW _).drew)).mono ?_; rw [HZ.out]; rintro e w1 ⟨rfl, hb1⟩) | (go_at_call 136; refine (n_small_any 99 _ (by omega) (by omega)).mono ?_; rintro e w2 ⟨v2, rfl, hv2, hb2⟩; obtain ⟨b2, n2, k2, rfl, r2⟩ := hv2.open) | (go_at_call 134; refine (n_compare_any _ _ q.n 99 _ ⟨_, rfl, h1.below (Nat.le_refl _) (by exact And.left (And.right (And.right (And.right (by assumption)))))⟩ ⟨_, rfl, by assumption⟩ (by omega) (by omega)).mono ?_; rw [HC.out]; rintro e w3 ⟨rfl, hb3⟩)))
  rename_i hH
  have hH' := hH
  obtain ⟨r0, r1, r2, hH2, hH3⟩ := hH
  clear p0 p1 p2
  go_wp2_with fail
  go_region_held3 (fun w' => w'.cell? ⟨w.heap.size, 0, none⟩ = some (.bool q.neg) ∧ w'.cell? ⟨w.heap.size, 1, none⟩ = some (.slice a1 l1 c1) ∧ w'.cell? ⟨w.heap.size, 2, none⟩ = some (.slice a2 l2 c2) ∧ Below w.heap.size w w' ∧ w.heap.size ≤ w'.heap.size)
    (first | assumption | exact ⟨r0, r1, r2, hH2.drew, hH3⟩ | exact keepB3 (by assumption) (by assumption))
    ((first | (go_at_call 142; refine (f_sign_any _ q _ (h'.below (Nat.le_refl _) (by exact And.left (And.right (And.right (And.right (by assumption))))))).mono ?_; rw [HS.out]; rintro e w4 ⟨rfl, hb4⟩) | (go_at_call 196; refine (n_low_any _ q.n _ ⟨_, rfl, h1.below (Nat.le_refl _) (by exact And.left (And.right (And.right (And.right (by assumption)))))⟩ (by omega)).mono ?_; rintro e w5 ⟨rfl, hb5⟩)))
  rename_i hJ
  obtain ⟨_, _, _, hJ2, _⟩ := hJ
  go_wp2
  refine bodyPost_ret (v := .tuple #[.int .i64 (s * q.n), .bool true]) (by simp [results, Tryz.results145, go_sem]; rw [wrap_i64 (n := q.n) (by omega) (by omega), wrap_i64 (by omega) (by omega)]) rfl ⟨rfl, hJ2⟩
end Go.Proofs.YtknnjibmacmniaaGreatDoor

/- fraction: Power. -/
namespace Go.Proofs.YtknnjibmacmniaaGreatDoor
open Go.RowKit
set_option linter.unusedVariables false
attribute [local go_sem ↓] Go.wp_at_zero Go.wp_at_succ

theorem Box.other {w : World} {g : Nat} {v0 v1 v2 : Value} (h : Box w g v0 v1 v2) (a : Addr) (x : Value) (hne : g ≠ a.block) : Box (w.setCell a x) g v0 v1 v2 := by
  obtain ⟨T, hh⟩ := h
  exact ⟨T, (Below.heap_setCell w a x g hne).trans hh⟩
theorem Box.set0 {w : World} {g : Nat} {v0 v1 v2 : Value} (h : Box w g v0 v1 v2) (x : Value) : Box (w.setCell ⟨g, 0, none⟩ x) g x v1 v2 := by
  obtain ⟨T, hh⟩ := h
  exact ⟨T, by rw [heap_setCell_same w g 0 _ T x hh]; simp⟩
theorem Box.set1 {w : World} {g : Nat} {v0 v1 v2 : Value} (h : Box w g v0 v1 v2) (x : Value) : Box (w.setCell ⟨g, 1, none⟩ x) g v0 x v2 := by
  obtain ⟨T, hh⟩ := h
  exact ⟨T, by rw [heap_setCell_same w g 1 _ T x hh]; simp⟩
theorem Box.set2 {w : World} {g : Nat} {v0 v1 v2 : Value} (h : Box w g v0 v1 v2) (x : Value) : Box (w.setCell ⟨g, 2, none⟩ x) g v0 v1 x := by
  obtain ⟨T, hh⟩ := h
  exact ⟨T, by rw [heap_setCell_same w g 2 _ T x hh]; simp⟩

def sgP (s : Bool) : Nat → Bool
  | 0 => false
  | k + 1 => !(sgP s k == s)
def powN (a : Q) (k : Nat) : Q := ⟨sgP a.neg k, a.n ^ k, a.d ^ k⟩
def powNB (a : Q) : Nat → Bool
  | 0 => false
  | k + 1 => powNB a k || bigQ (powN a (k + 1))
theorem powNB_mono {a : Q} {k n : Nat} (h : powNB a k = true) (hk : k ≤ n) : powNB a n = true := by
  induction n with
  | zero => have : k = 0 := by omega
            subst this; exact h
  | succ n ih =>
    rcases Nat.lt_or_ge k (n + 1) with h1 | h1
    · simp [powNB, ih (by omega)]
    · have : k = n + 1 := by omega
      subst this; exact h

/-- the power's box, the fraction's box and the answer's, while Power runs -/
structure PwS (w wr : World) (g8 : Nat) (a : Q) (s : Bool) (P0 P1 A1 A2 : Value) (x y : Int) : Prop where
  bp : Box wr g8 (.bool s) P0 P1
  ba : Box wr w.heap.size (.bool a.neg) A1 A2
  fr : Fz (w.heap.size + 1) wr
  rx : Rep .u32 4294967296 wr P0 x
  ry : Rep .u32 4294967296 wr P1 y
  r1 : Rep .u32 4294967296 wr A1 a.n
  r2 : Rep .u32 4294967296 wr A2 a.d
  be : Below w.heap.size w wr
  sz : g8 < wr.heap.size
  gt : w.heap.size + 1 < g8
theorem PwS.later {w wr w' : World} {g8 : Nat} {a : Q} {s : Bool} {P0 P1 A1 A2 : Value} {x y : Int} (h : PwS w wr g8 a s P0 P1 A1 A2 x y) (hb : Below wr.heap.size wr w') : PwS w w' g8 a s P0 P1 A1 A2 x y := by
  have h1 := h.sz
  have h2 := h.gt
  exact ⟨h.bp.below h.sz hb, h.ba.below (by omega) hb, h.fr.later (by omega) hb, h.rx.below (Nat.le_refl _) hb, h.ry.below (Nat.le_refl _) hb, h.r1.below (Nat.le_refl _) hb, h.r2.below (Nat.le_refl _) hb, Below.next h.be hb h.be.size, Nat.lt_of_lt_of_le h.sz hb.size, h.gt⟩
theorem PwS.set {w wr : World} {g8 : Nat} {a : Q} {s s' : Bool} {P0 P1 P0' P1' A1 A2 : Value} {x y x' y' : Int} (h : PwS w wr g8 a s P0 P1 A1 A2 x y) (hp : Fz g8 wr) (o : Nat) (v : Value) (hb : Box (wr.setCell ⟨g8, o, none⟩ v) g8 (.bool s') P0' P1')
    (hx : Rep .u32 4294967296 wr P0' x') (hy : Rep .u32 4294967296 wr P1' y') : PwS w (wr.setCell ⟨g8, o, none⟩ v) g8 a s' P0' P1' A1 A2 x' y' := by
  have h1 := h.sz
  have h2 := h.gt
  have hn := hp.2.2.2.1
  exact ⟨hb, h.ba.other _ _ (by simp; omega), h.fr.other _ _ (by simp; omega), hx.box _ _ hn, hy.box _ _ hn, h.r1.box _ _ hn, h.r2.box _ _ hn, h.be.setCell (p := ⟨g8, o, none⟩) (by simp; omega) v, by simp [World.setCell]; exact h.sz, h.gt⟩

set_option maxRecDepth 100000 in
set_option maxHeartbeats 3200000 in
theorem f_power_any (v : Value) (a : Q) (n : Nat) (w : World) (ha : RepF w v a) (sa : a.Sm) (hn99 : n ≤ 99) (hG : Gl w) :
    Calls Tryz.prog 147 #[v, .int .i64 n, .int .i64 60] w fun e w' => ∃ v', e = .returned (.tuple #[v', .bool (!powNB a n)]) ∧ (powNB a n = false → RepF w' v' (powN a n)) ∧ Shp v' ∧ Below w.heap.size w w' := by
  obtain ⟨a1, l1, c1, a2, l2, c2, rfl, h1, h2⟩ := ha.open
  have hW : ∀ o o', Below w.heap.size w ((w.alloc o).alloc o') := fun o o' => ((Below.refl _ _).alloc (Nat.le_refl _) o).alloc (by simp) o'
  have hB := (Box.new w (.bool a.neg) (.slice a1 l1 c1) (.slice a2 l2 c2) 58).alloc (by simp) (.cells #[.bool false, .slice none 0 0, .slice none 0 0] 58)
  have hF := Fz.new (w.alloc (.cells #[.bool a.neg, .slice a1 l1 c1, .slice a2 l2 c2] 58)) (.bool false) (.slice none 0 0) (.slice none 0 0) 58 (by simp) (by simp) (by simp)
  simp only [World.size_alloc] at hF
  have hn1 := sa.ok.n1
  have hd1 := sa.ok.d1
  have hn0 := sa.n0
  have hd0 := sa.d0
  have hcl := cp_lim
  have hpc := p60_cp
  have hpos : (1 : Int) < 10 ^ 60 := by decide
  obtain ⟨K, HK⟩ : ∃ K, Hid ((10 : Int) ^ 60 = K) := ⟨10 ^ 60, (Eq.refl ((10 : Int) ^ 60) : (10 : Int) ^ 60 = 10 ^ 60)⟩
  rw [HK.out] at hpc hpos
  clear ha
  go_enter Tryz.func147, Tryz.ntmps147
  go_wp2_with fail
  refine (f_whole_any 1 _ (by omega) (by omega)).mono ?_
  rintro e w3 ⟨v3, rfl, hr3, hb3⟩
  obtain ⟨b1, n1, k1, b2, n2, k2, rfl, hr6, hr7⟩ := RepF.open hr3
  have hB3 := hB.below (by simp; omega) hb3
  have hF3 := hF.later (by simp) hb3
  have hbw3 := Below.next (hW _ _) hb3 (by simp; omega)
  have hs3 := hF3.lt
  have hX : Below w3.heap.size w3 (w3.alloc (.cells #[.bool false, .slice b1 n1 k1, .slice b2 n2 k2] 58)) := (Below.refl _ _).alloc (Nat.le_refl _) _
  have hP0 : PwS w (w3.alloc (.cells #[.bool false, .slice b1 n1 k1, .slice b2 n2 k2] 58)) w3.heap.size a (sgP a.neg 0) (.slice b1 n1 k1) (.slice b2 n2 k2) (.slice a1 l1 c1) (.slice a2 l2 c2) (a.n ^ 0) (a.d ^ 0) :=
    ⟨Box.new _ _ _ _ _, hB3.alloc (by omega) _, hF3.later hF3.lt hX, by rw [Int.pow_zero]; exact hr6.below (Nat.le_refl _) hX, by rw [Int.pow_zero]; exact hr7.below (Nat.le_refl _) hX, (h1.below (Nat.le_refl _) hbw3).below (Nat.le_refl _) hX, (h2.below (Nat.le_refl _) hbw3).below (Nat.le_refl _) hX, Below.next hbw3 hX hbw3.size, by simp, by omega⟩
  go_wp2
  go_loopw [11] (fun i wr => ∃ (k : Nat) (y1 y2 : Option Addr) (m1 m2 j1 j2 : Nat), k ≤ n ∧ i = .int .i64 k ∧ PwS w wr w3.heap.size a (sgP a.neg k) (.slice y1 m1 j1) (.slice y2 m2 j2) (.slice a1 l1 c1) (.slice a2 l2 c2) (a.n ^ k) (a.d ^ k) ∧ a.n ^ k < K ∧ a.d ^ k < K ∧ Hid (powNB a k = false))
    (fun i _ => n - (intOf i).toNat)
  case atStart => exact ⟨0, _, _, _, _, _, _, by omega, rfl, hP0, by simpa using hpos, by simpa using hpos, rfl⟩
  case round =>
    clear hB hF hB3 hF3 hX hr6 hr7 hr3 h1 h2 hbw3 hs3 hP0 hb3
    obtain ⟨k, y1, y2, m1, m2, j1, j2, hk, rfl, hP, hx, hy, HB⟩ := hrel
    obtain ⟨p0, p1, p2⟩ := hP.ba.cells
    obtain ⟨r0, r1, r2⟩ := hP.bp.cells
    have hx0 := hP.rx.nonneg (by omega)
    have hy0 := hP.ry.nonneg (by omega)
    by_cases hlt : k < n
    · have hfz := hP.bp.fz (by simp) (by simp) (by simp)
      obtain ⟨f0, f1, f2, _, _⟩ := id hfz
      have hP1 : PwS w (wr.setCell ⟨w3.heap.size, 0, none⟩ (.bool (sgP a.neg (k + 1)))) w3.heap.size a (sgP a.neg (k + 1)) (.slice y1 m1 j1) (.slice y2 m2 j2) (.slice a1 l1 c1) (.slice a2 l2 c2) (a.n ^ k) (a.d ^ k) := hP.set hfz 0 _ (hP.bp.set0 _) hP.rx hP.ry
      obtain ⟨p0', p1', p2'⟩ := hP1.ba.cells
      obtain ⟨r0', r1', r2'⟩ := hP1.bp.cells
      rw [show sgP a.neg (k + 1) = !(sgP a.neg k == a.neg) from rfl] at hP1 p0' p1' p2' r0' r1' r2'
      have m1' := mul_cp hx0 (Int.lt_of_lt_of_le hx hpc) hn0 hn1
      have m2' := mul_cp hy0 (Int.lt_of_lt_of_le hy hpc) (Int.le_of_lt hd0) hd1
      go_wp2_with fail
      refine (n_mul_any _ _ (a.n ^ k) a.n _ ⟨_, rfl, hP1.rx⟩ ⟨_, rfl, hP1.r1⟩ (by omega) (lt_lim_of_cp hn1)).mono ?_
      rintro e w4 ⟨v4, rfl, hv4, hb4⟩
      obtain ⟨d1, t1, g1, rfl, q1⟩ := hv4.open
      rw [← Int.pow_succ] at q1
      have hP4 := hP1.later hb4
      clear hP hP1 p0 p1 p2 r0 r1 r2 p0' p1' p2' r0' r1' r2' f0 f1 f2 hb4 hv4 hfz
      have hfz := hP4.bp.fz (by simp) (by simp) (by simp)
      obtain ⟨f0, f1, f2, _, _⟩ := id hfz
      obtain ⟨p0, p1, p2⟩ := hP4.ba.cells
      obtain ⟨r0, r1, r2⟩ := hP4.bp.cells
      have hP5 := hP4.set hfz 1 (.slice d1 t1 g1) (hP4.bp.set1 _) q1 hP4.ry
      obtain ⟨p0', p1', p2'⟩ := hP5.ba.cells
      obtain ⟨r0', r1', r2'⟩ := hP5.bp.cells
      go_wp2_with fail
      refine (n_mul_any _ _ (a.d ^ k) a.d _ ⟨_, rfl, hP5.ry⟩ ⟨_, rfl, hP5.r2⟩ (by omega) (lt_lim_of_cp hd1)).mono ?_
      rintro e w6 ⟨v6, rfl, hv6, hb6⟩
      obtain ⟨d2, t2, g2, rfl, q2⟩ := hv6.open
      rw [← Int.pow_succ] at q2
      have hP6 := hP5.later hb6
      clear hP4 hP5 p0 p1 p2 r0 r1 r2 p0' p1' p2' r0' r1' r2' f0 f1 f2 hb6 hv6 hfz
      have hfz := hP6.bp.fz (by simp) (by simp) (by simp)
      obtain ⟨f0, f1, f2, _, _⟩ := id hfz
      obtain ⟨p0, p1, p2⟩ := hP6.ba.cells
      obtain ⟨r0, r1, r2⟩ := hP6.bp.cells
      have hP7 := hP6.set hfz 2 (.slice d2 t2 g2) (hP6.bp.set2 _) hP6.rx q2
      obtain ⟨r0', r1', r2'⟩ := hP7.bp.cells
      have hG7 : Gl _ := hG.later hP7.be
      rw [← Int.pow_succ] at m1' m2'
      simp only [Nat.succ_eq_add_one] at m1' m2'
      have hbig := big_digits (q := powN a (k + 1)) m1'.2 m2'.2
      obtain ⟨x, HX⟩ : ∃ x, Hid (max ((txt (powN a (k + 1)).n).length : Int) ((txt (powN a (k + 1)).d).length : Int) = x) := ⟨_, rfl⟩
      rw [HX.out] at hbig
      have HG : Hid (decide (x > 60) = bigQ (powN a (k + 1))) := hbig
      clear hbig
      go_wp2_with fail
      refine (f_digits_any _ (powN a (k + 1)) _ ⟨_, _, rfl, hP7.rx, hP7.ry⟩ (by show a.n ^ (k + 1) < lim; omega) (by show a.d ^ (k + 1) < lim; omega) hG7).mono ?_
      rw [HX.out]
      rintro e w8 ⟨rfl, hb8⟩
      have hP8 := hP7.later hb8
      clear hP6 hP7 p0 p1 p2 r0 r1 r2 r0' r1' r2' f0 f1 f2 hb8 hfz hG7
      obtain ⟨r0, r1, r2⟩ := hP8.bp.cells
      obtain ⟨f0, f1, f2, _, _⟩ := id hP8.fr
      obtain ⟨x0, x1, x2, e0, e1, e2⟩ := hP8.fr.cells
      by_cases hx60 : x > 60
      · have HB2 : Hid (powNB a n = true) := powNB_mono (k := k + 1) (by simp only [powNB]; rw [← HG.out, decide_eq_true hx60]; simp) (by omega)
        obtain ⟨q0, q1', q2'⟩ := put3_cells hP8.fr (.bool false) (.slice none 0 0) (.slice none 0 0)
        have hbe := put3_below hP8.be (show w.heap.size ≤ w.heap.size + 1 by omega) (.bool false) (.slice none 0 0) (.slice none 0 0)
        unfold put3 at q0 q1' q2' hbe
        go_wp2
        refine bodyPost_ret (v := .tuple #[.agg #[.bool false, .slice none 0 0, .slice none 0 0], .bool false]) (by simp [results, Tryz.results147, go_sem, q0, q1', q2']) rfl ⟨_, by rw [HB2.out]; rfl, fun h => by rw [HB2.out] at h; simp at h, ⟨_, _, _, _, _, _, _, rfl⟩, hbe⟩
      · have hnb : bigQ (powN a (k + 1)) = false := by rw [← HG.out]; exact decide_eq_false hx60
        have hsm : a.n ^ (k + 1) < K ∧ a.d ^ (k + 1) < K := by
          have h := hnb
          unfold bigQ powN at h
          rw [HK.out] at h
          simp only [Bool.or_eq_false_iff, decide_eq_false_iff_not] at h
          exact ⟨by omega, by omega⟩
        have HB2 : Hid (powNB a (k + 1) = false) := by simp [Hid, powNB, HB.out, hnb]
        clear hnb
        go_wp2
        go_roundw
        case rel => exact ⟨k + 1, _, _, _, _, _, _, by omega, by go_num, hP8, hsm.1, hsm.2, HB2⟩
        case measure => simp [intOf]; omega
    · have hkn : k = n := by omega
      subst hkn
      obtain ⟨f0, f1, f2, _, _⟩ := id hP.fr
      obtain ⟨x0, x1, x2, e0, e1, e2⟩ := hP.fr.cells
      obtain ⟨q0, q1, q2⟩ := put3_cells hP.fr (.bool (sgP a.neg k)) (.slice y1 m1 j1) (.slice y2 m2 j2)
      have hbe := put3_below hP.be (show w.heap.size ≤ w.heap.size + 1 by omega) (.bool (sgP a.neg k)) (.slice y1 m1 j1) (.slice y2 m2 j2)
      have hrx := put3_rep hP.fr hP.rx (.bool (sgP a.neg k)) (.slice y1 m1 j1) (.slice y2 m2 j2) (by simp) (by simp)
      have hry := put3_rep hP.fr hP.ry (.bool (sgP a.neg k)) (.slice y1 m1 j1) (.slice y2 m2 j2) (by simp) (by simp)
      unfold put3 at q0 q1 q2 hbe hrx hry
      go_wp2
      refine bodyPost_ret (v := .tuple #[.agg #[.bool (sgP a.neg k), .slice y1 m1 j1, .slice y2 m2 j2], .bool true]) (by simp [results, Tryz.results147, go_sem, q0, q1, q2]) rfl ⟨_, by rw [HB.out]; rfl, fun _ => ⟨_, _, rfl, hrx, hry⟩, ⟨_, _, _, _, _, _, _, rfl⟩, hbe⟩
end Go.Proofs.YtknnjibmacmniaaGreatDoor
