/- abacusref: less, small, truth. -/
import Derived.Test.YtknnjibmacmniaaGreatDoorC05
namespace Go.Proofs.YtknnjibmacmniaaGreatDoor
open Go.RowKit
set_option linter.unusedVariables false
attribute [local go_sem ↓] Go.wp_at_zero Go.wp_at_succ

theorem Q.Ok.negQ {q : Q} (h : q.Ok) : (negQ q).Ok := ⟨h.n0, h.n1, h.d0, h.d1⟩
theorem run_neg (b : Bool) (a1 a2 : Option Addr) (l1 c1 l2 c2 : Nat) (w : World) : (Instr.field 35 (.agg #[.bool b, .slice a1 l1 c1, .slice a2 l2 c2]) 0).run Tryz.prog w = .ok (.bool b) w := by
  simp [Instr.field, go_sem, part, asAgg]
def lessQ (a b : Q) : Bool := (sumQ a (negQ b)).neg

set_option maxRecDepth 100000 in
set_option maxHeartbeats 1600000 in
theorem r_less_any (v u : Value) (a b : Q) (w : World) (ha : RepQ w v a) (hb : RepQ w u b) (oa : a.Ok) (ob : b.Ok) :
    Calls Tryz.prog 63 #[v, u] w fun e w' => e = .returned (.bool (lessQ a b)) ∧ Below w.heap.size w w' := by
  have ha' := ha
  have hb' := hb
  obtain ⟨a1, l1, c1, a2, l2, c2, rfl, h1, h2⟩ := ha.open
  obtain ⟨a3, l3, c3, a4, l4, c4, rfl, h3, h4⟩ := hb.open
  have hW : ∀ o o', Below w.heap.size w ((w.alloc o).alloc o').drew := fun o o' => (((Below.refl _ _).alloc (Nat.le_refl _) o).alloc (by simp) o').drew
  have onb := ob.negQ
  rw [show lessQ a b = (sumQ a (negQ b)).neg from rfl]
  have hfld := run_neg
  go_enter Tryz.func63, Tryz.ntmps63
  go_wp2_with fail
  go_region_held3 (fun w' => w'.cell? ⟨w.heap.size, 0, none⟩ = some (.bool a.neg) ∧ w'.cell? ⟨w.heap.size, 1, none⟩ = some (.slice a1 l1 c1) ∧ w'.cell? ⟨w.heap.size, 2, none⟩ = some (.slice a2 l2 c2) ∧ w'.cell? ⟨w.heap.size + 1, 0, none⟩ = some (.bool b.neg) ∧ w'.cell? ⟨w.heap.size + 1, 1, none⟩ = some (.slice a3 l3 c3) ∧ w'.cell? ⟨w.heap.size + 1, 2, none⟩ = some (.slice a4 l4 c4) ∧ Below w.heap.size w w' ∧ w.heap.size < w'.heap.size)
    (first | exact ⟨(boxes2 w _ _ _ _ _ _ _ _).1.cells.1, (boxes2 w _ _ _ _ _ _ _ _).1.cells.2.1, (boxes2 w _ _ _ _ _ _ _ _).1.cells.2.2, (boxes2 w _ _ _ _ _ _ _ _).2.cells.1, (boxes2 w _ _ _ _ _ _ _ _).2.cells.2.1, (boxes2 w _ _ _ _ _ _ _ _).2.cells.2.2, hW _ _, by simp; omega⟩ | exact keep6 (by assumption) (by assumption))
    ((first | (go_at_call 57; refine (r_negated_any _ b _ (hb'.below (Nat.le_refl _) (hW _ _))).mono ?_; rintro e w1 ⟨v1, rfl, hr1, hb1⟩) | (go_at_call 56; refine (r_sum_any _ _ a (negQ b) _ (ha'.below (Nat.le_refl _) (Below.next (hW _ _) hb1 (by simp; omega))) hr1 oa onb).mono ?_; rintro e w2 ⟨v2, rfl, hr2, hb2⟩; obtain ⟨b1, n1, k1, b2, n2, k2, rfl, hr6, hr7⟩ := RepQ.open hr2)))
  rename_i hH
  obtain ⟨_, _, _, _, _, _, hH2, _⟩ := hH
  go_wp2
  go_ret
  exact ⟨rfl, hH2⟩

/-- the fraction n, where n is one digit -/
def smallQ (n : Int) : Q := ⟨false, n, 1⟩
set_option maxRecDepth 100000 in
set_option maxHeartbeats 800000 in
theorem r_small_zero (w : World) : Calls Tryz.prog 116 #[.int .i64 0] w fun e w' => ∃ v, e = .returned v ∧ RepQ w' v (smallQ 0) ∧ Below w.heap.size w w' := by
  go_enter Tryz.func116, Tryz.ntmps116
  go_wp2
  refine wp_loop_rounds 1 ?_
  rw [rounds_succ]
  go_wp2_with (go_at_call 67; refine (r_one_any _).mono ?_; rintro e w' ⟨rfl, rfl⟩)
  refine bodyPost_ret (v := .agg #[.bool false, .slice none 0 0, .slice (some ⟨w.heap.size + 1, 0, none⟩) 1 1]) (by simp [results, Tryz.results116, go_sem]) rfl ⟨_, rfl, ⟨_, _, rfl, Rep.zero _ _ _, ?_⟩, ?_⟩
  · have := rep_one (w.alloc (.cells #[.bool false, .slice none 0 0, .slice (some ⟨w.heap.size + 1, 0, none⟩) 1 1] 35))
    simp only [World.size_alloc] at this
    exact this
  · exact ((Below.refl _ _).alloc (Nat.le_refl _) _).alloc (by simp) _

set_option maxRecDepth 100000 in
set_option maxHeartbeats 800000 in
theorem r_small_one (w : World) : Calls Tryz.prog 116 #[.int .i64 1] w fun e w' => ∃ v, e = .returned v ∧ RepQ w' v (smallQ 1) ∧ Below w.heap.size w w' := by
  obtain ⟨i0, hi, hz0, hz1, hz2⟩ := info_parts Tryz.infoInt
  go_enter Tryz.func116, Tryz.ntmps116
  go_wp2
  refine wp_loop_rounds 2 ?_
  rw [rounds_succ]
  go_wp2_with (at_builtin; refine wpList_append_own _ rfl _ _ 33 rfl (w.heap.size + 1) 3 i0 (.int .i64 0) 1 8 Tryz.underlying33 hi hz0 hz1 hz2 rfl (by decide) _ 0 [] rfl (World.ownsRow_nil _ _ _ _) ⟨w.heap.size + 1, 0, none⟩ 1 1 [.int .i64 1] rfl rfl (by have := cell_one_new (w.alloc (.cells #[.bool false, .slice none 0 0, .slice none 0 0] 35)) (.int .i64 1) 3; simpa using this) (by simp [Value.oneCell']) (by unfold maxLen; omega) (by omega) (by simp) ?_)
  intro v1 w1 hown1 hgrow1 _
  have hb1 : Below (w.heap.size + 1) (w.alloc (.cells #[.bool false, .slice none 0 0, .slice none 0 0] 35)) w1 := ((Below.refl _ _).alloc (by simp) _).grown hgrow1 (by simp) (by simp [Value.ownBlock])
  have hS1 : Sl .i64 w1 v1 [1] := Sl.owned (zs := [1]) hown1
  have hr1 : Rep .i64 10 w1 v1 1 := ⟨[1], hS1, Dig.cons (by omega) (by omega) Dig.nil, fun n hn => by simp at hn; subst hn; simp [nth], by simp [val]⟩
  obtain ⟨ao, l, c, rfl⟩ := hr1.shape
  have hsz : w.heap.size + 1 ≤ w1.heap.size := by have := hb1.size; simpa using this
  have hno : NoInt w1 w.heap.size := (NoInt.new w #[.bool false, .slice none 0 0, .slice none 0 0] 35 (by simp)).below (by simp) hb1
  have hfz : Fz w.heap.size w1 := by
    obtain ⟨f0, f1, f2, hn, c, T, hc, hs⟩ := Fz.new w (.bool false) (.slice none 0 0) (.slice none 0 0) 35 (by simp) (by simp) (by simp)
    have hh := (hb1.block w.heap.size (by omega)).trans hc
    exact ⟨frozen_row hh _, frozen_row hh _, frozen_row hh _, hno, c, T, hh, hs⟩
  have hbw : Below w.heap.size w w1 := ((Below.refl _ _).alloc (Nat.le_refl _) _).trans (hb1.mono (by omega))
  clear hown1 hgrow1
  obtain ⟨f0, f1, f2, _, _⟩ := id hfz
  obtain ⟨x0, x1, x2, e0, e1, e2⟩ := hfz.cells
  go_wp2
  rw [rounds_succ]
  go_wp2_with (go_at_call 67; refine (r_one_rep _).mono ?_; rintro e w' ⟨ao', l', c', rfl, hr', hb'⟩; have hz' := hfz.later (by omega) hb'; obtain ⟨f0', f1', f2', _, _⟩ := id hz'; obtain ⟨x0', x1', x2', e0', e1', e2'⟩ := hz'.cells)
  obtain ⟨q0, q1, q2⟩ := put3_cells hz' (.bool false) (.slice ao l c) (.slice ao' l' c')
  refine bodyPost_ret (v := .agg #[.bool false, .slice ao l c, .slice ao' l' c']) (by unfold put3 at q0 q1 q2; simp [results, Tryz.results116, go_sem, q0, q1, q2]) rfl ⟨_, rfl, ?_, ?_⟩
  · exact ⟨_, _, rfl, put3_rep hz' (hr1.below (Nat.le_refl _) hb') _ _ _ (by simp) (by simp), put3_rep hz' hr' _ _ _ (by simp) (by simp)⟩
  · exact put3_below (Below.next hbw hb' (by omega)) (Nat.le_refl _) _ _ _

def truthQ (b : Bool) : Q := smallQ (if b then 1 else 0)
set_option maxRecDepth 100000 in
set_option maxHeartbeats 800000 in
theorem r_truth_any (b : Bool) (w : World) : Calls Tryz.prog 62 #[.bool b] w fun e w' => ∃ v, e = .returned v ∧ RepQ w' v (truthQ b) ∧ Below w.heap.size w w' := by
  have hf0 := Fz.new w (.bool false) (.slice none 0 0) (.slice none 0 0) 35 (by simp) (by simp) (by simp)
  have hW : ∀ o, Below w.heap.size w (w.alloc o) := fun o => (Below.refl _ _).alloc (Nat.le_refl _) o
  cases b
  · have HT : Hid (truthQ false = smallQ 0) := rfl
    go_enter Tryz.func62, Tryz.ntmps62
    go_wp2_with (go_at_call 116; refine (r_small_zero _).mono ?_; rintro e w' ⟨v', rfl, hr', hb'⟩; obtain ⟨b1, n1, k1, b2, n2, k2, rfl, hr6, hr7⟩ := RepQ.open hr'; have hz' := hf0.later (by simp) hb'; obtain ⟨f0', f1', f2', _, _⟩ := id hz'; obtain ⟨x0', x1', x2', e0', e1', e2'⟩ := hz'.cells)
    obtain ⟨q0, q1, q2⟩ := put3_cells hz' (.bool (smallQ 0).neg) (.slice b1 n1 k1) (.slice b2 n2 k2)
    refine bodyPost_ret (v := .agg #[.bool (smallQ 0).neg, .slice b1 n1 k1, .slice b2 n2 k2]) (by unfold put3 at q0 q1 q2; simp [results, Tryz.results62, go_sem, q0, q1, q2]) rfl ⟨_, rfl, ?_, ?_⟩
    · rw [HT.out]; exact ⟨_, _, rfl, put3_rep hz' hr6 _ _ _ (by simp) (by simp), put3_rep hz' hr7 _ _ _ (by simp) (by simp)⟩
    · exact put3_below (Below.next (hW _) hb' (by simp)) (Nat.le_refl _) _ _ _
  · have HT : Hid (truthQ true = smallQ 1) := rfl
    go_enter Tryz.func62, Tryz.ntmps62
    go_wp2_with (go_at_call 116; refine (r_small_one _).mono ?_; rintro e w' ⟨v', rfl, hr', hb'⟩; obtain ⟨b1, n1, k1, b2, n2, k2, rfl, hr6, hr7⟩ := RepQ.open hr'; have hz' := hf0.later (by simp) hb'; obtain ⟨f0', f1', f2', _, _⟩ := id hz'; obtain ⟨x0', x1', x2', e0', e1', e2'⟩ := hz'.cells)
    obtain ⟨q0, q1, q2⟩ := put3_cells hz' (.bool (smallQ 1).neg) (.slice b1 n1 k1) (.slice b2 n2 k2)
    refine bodyPost_ret (v := .agg #[.bool (smallQ 1).neg, .slice b1 n1 k1, .slice b2 n2 k2]) (by unfold put3 at q0 q1 q2; simp [results, Tryz.results62, go_sem, q0, q1, q2]) rfl ⟨_, rfl, ?_, ?_⟩
    · rw [HT.out]; exact ⟨_, _, rfl, put3_rep hz' hr6 _ _ _ (by simp) (by simp), put3_rep hz' hr7 _ _ _ (by simp) (by simp)⟩
    · exact put3_below (Below.next (hW _) hb' (by simp)) (Nat.le_refl _) _ _ _
end Go.Proofs.YtknnjibmacmniaaGreatDoor

/- abacusref: count. -/
namespace Go.Proofs.YtknnjibmacmniaaGreatDoor
open Go.RowKit
set_option linter.unusedVariables false
attribute [local go_sem ↓] Go.wp_at_zero Go.wp_at_succ

def countQ (q : Q) : Int := if q.d = 1 ∧ q.n ≤ 99 then q.n else -1

theorem drop_lt {zs : List Int} (h : Dig 10 zs) (hl : zs.length ≤ 3) (k : Nat) : val 10 (zs.drop k) < 1000 := by
  have h1 := val_lt (show (0 : Int) < 10 by omega) (h.drop k)
  have h2 := pow_mono (show (0 : Int) < 10 by omega) (show (zs.drop k).length ≤ 3 by rw [List.length_drop]; omega)
  have h3 : (10 : Int) ^ 3 = 1000 := by decide
  omega

set_option maxRecDepth 100000 in
set_option maxHeartbeats 1600000 in
theorem r_count_any (v : Value) (q : Q) (w : World) (h : RepQ w v q) (hneg : q.neg = false) (bd : q.d < lim) :
    Calls Tryz.prog 115 #[v, .int .i64 99] w fun e w' => e = .returned (.int .i64 (countQ q)) ∧ Below w.heap.size w w' := by
  have hq := h
  obtain ⟨a1, l1, c1, a2, l2, c2, rfl, h1, h2⟩ := h.open
  rw [hneg] at hq ⊢
  have hW : ∀ o, Below w.heap.size w (w.alloc o) := fun o => (Below.refl _ _).alloc (Nat.le_refl _) o
  have k3 := h1.len_le 3
  have hq' : ∀ o, RepQ (w.alloc o) (.agg #[.bool false, .slice a1 l1 c1, .slice a2 l2 c2]) q := fun o => hq.below (Nat.le_refl _) (hW o)
  obtain ⟨z, HZ⟩ : ∃ z, Hid (decide (q.d = 1) = z) := ⟨_, rfl⟩
  cases z
  · have hd : ¬ q.d = 1 := of_decide_eq_false HZ.out
    have HC : Hid (countQ q = -1) := by simp [Hid, countQ, hd]
    clear hd k3
    go_enter Tryz.func115, Tryz.ntmps115
    go_wp2_with (go_at_call 114; refine (r_whole_any _ q _ (hq' _) bd).mono ?_; rintro e w' ⟨rfl, hb'⟩; rw [HZ.out])
    go_ret
    exact ⟨ret_int (by rw [HC.out]), Below.next (hW _) hb' (by simp)⟩
  · have hd : q.d = 1 := of_decide_eq_true HZ.out
    by_cases hl : l1 ≤ 3
    · obtain ⟨zs, ⟨ao', cap, e, hs1, hs2, hs3⟩, g2, g3, g4⟩ := h1
      cases e
      have HD : Hid (q.d = 1) := hd
      have HV : Hid (val 10 zs = q.n) := g4
      clear k3 hd g4 h2 hq h
      go_enter Tryz.func115, Tryz.ntmps115
      go_wp2_with (go_at_call 114; refine (r_whole_any _ q _ (hq' _) bd).mono ?_; rintro e w' ⟨rfl, hb'⟩; rw [HZ.out]; obtain ⟨hc, hf⟩ := bcell hb')
      have hbw := Below.next (hW _) hb' (by simp)
      go_loopw [5, 6] (fun n i wr => ∃ (k : Nat) (m : Int), k ≤ zs.length ∧ i = .int .i64 ((k : Int) - 1) ∧ n = .int .i64 m ∧ 0 ≤ m ∧ m < 1000 ∧ Hid (m = val 10 (zs.drop k)) ∧ wr = w')
        (fun _ i _ => (intOf i + 1).toNat)
      case atStart => exact ⟨zs.length, 0, Nat.le_refl _, rfl, rfl, by omega, by omega, by simp [Hid, val], rfl⟩
      case round =>
        obtain ⟨k, m, hk, rfl, rfl, hm0, hm1, HM, rfl⟩ := hrel
        rcases k with _ | k
        · have hm : m = q.n := by have := HM.out; rw [List.drop_zero, HV.out] at this; exact this
          by_cases hgt : 99 < m
          · have HC : Hid (countQ q = -1) := by unfold Hid countQ; rw [if_neg (by omega)]
            clear hm
            go_wp2
            go_ret
            exact ⟨ret_int (by rw [HC.out]), hbw⟩
          · have HC : Hid (countQ q = m) := by unfold Hid countQ; rw [if_pos ⟨HD.out, by omega⟩, hm]
            clear hm
            go_wp2
            go_ret
            exact ⟨ret_int (by rw [HC.out]), hbw⟩
        · obtain ⟨b, off, rfl, hcz⟩ := hs3 (by omega)
          have bz := g2.nth (by omega) k
          have hck := cell_later hbw (hcz k (by omega))
          have HM2 : Hid (10 * m + nth zs k = val 10 (zs.drop k)) := by unfold Hid; rw [val_drop 10 zs k, ← HM.out]; omega
          have hlim : 10 * m + nth zs k < 1000 := by rw [HM2.out]; exact drop_lt g2 hl k
          generalize nth zs k = z at *
          rw [show (((k + 1 : Nat) : Int) - 1) = (k : Int) by omega]
          go_wp2
          go_roundw
          case rel => exact ⟨k, 10 * m + z, by omega, rfl, rfl, by omega, hlim, HM2, trivial⟩
          case measure => simp [intOf]
    · have HC : Hid (countQ q = -1) := by
        have : ¬ q.n < 10 ^ 3 := fun h => hl (k3.2 h)
        unfold Hid countQ; rw [if_neg (by omega)]
      clear k3 hd
      go_enter Tryz.func115, Tryz.ntmps115
      go_wp2_with (go_at_call 114; refine (r_whole_any _ q _ (hq' _) bd).mono ?_; rintro e w' ⟨rfl, hb'⟩; rw [HZ.out]; obtain ⟨hc, hf⟩ := bcell hb')
      go_ret
      exact ⟨ret_int (by rw [HC.out]), Below.next (hW _) hb' (by simp)⟩
end Go.Proofs.YtknnjibmacmniaaGreatDoor

/- abacusref: power. -/
namespace Go.Proofs.YtknnjibmacmniaaGreatDoor
open Go.RowKit
set_option linter.unusedVariables false

structure Q.Sm (q : Q) : Prop where
  n0 : 0 ≤ q.n
  n1 : q.n < 10 ^ 60
  d0 : 0 < q.d
  d1 : q.d < 10 ^ 60
theorem p60_cp : (10 : Int) ^ 60 ≤ cp := pow_mono (by omega) (by omega)
theorem Q.Sm.ok {q : Q} (h : q.Sm) : q.Ok := ⟨h.n0, Int.lt_of_lt_of_le h.n1 p60_cp, h.d0, Int.lt_of_lt_of_le h.d1 p60_cp⟩

def invQ (a : Q) : Q := ⟨a.neg, a.d, a.n⟩
def powQ (a : Q) : Nat → Q
  | 0 => smallQ 1
  | n + 1 => mulQ (powQ a n) a
def powB (a : Q) : Nat → Bool
  | 0 => false
  | n + 1 => powB a n || bigQ (powQ a (n + 1))

def powErr (a : Q) (n : Nat) : Int := if powB a n then 10 else 0

/-- a box that may be written -/
theorem Box.fz {w : World} {g : Nat} {v0 v1 v2 : Value} (h : Box w g v0 v1 v2) (h0 : ∀ k x, v0 ≠ .int k x) (h1 : ∀ k x, v1 ≠ .int k x) (h2 : ∀ k x, v2 ≠ .int k x) : Fz g w := by
  obtain ⟨T, hh⟩ := h
  refine ⟨frozen_row hh _, frozen_row hh _, frozen_row hh _, ?_, _, T, hh, rfl⟩
  intro o k x e
  rw [cell_of_row _ _ _ _ _ _ hh] at e
  have := Array.mem_of_getElem? e
  simp at this
  rcases this with rfl | rfl | rfl
  · exact h0 k x rfl
  · exact h1 k x rfl
  · exact h2 k x rfl
theorem put3_box {w : World} {g : Nat} (h : Fz g w) (v0 v1 v2 : Value) : Box (put3 w g v0 v1 v2) g v0 v1 v2 := put3_heap h v0 v1 v2
theorem put3_box_other {w : World} {g g' : Nat} {u0 u1 u2 : Value} (h : Box w g' u0 u1 u2) (hne : g' ≠ g) (v0 v1 v2 : Value) : Box (put3 w g v0 v1 v2) g' u0 u1 u2 := by
  obtain ⟨T, hh⟩ := h
  refine ⟨T, ?_⟩
  unfold put3
  rw [Below.heap_setCell _ _ _ _ hne, Below.heap_setCell _ _ _ _ hne, Below.heap_setCell _ _ _ _ hne]
  exact hh

theorem put3_fz_other {w : World} {g g' : Nat} (h : Fz g' w) (hne : g' ≠ g) (v0 v1 v2 : Value) : Fz g' (put3 w g v0 v1 v2) := by
  obtain ⟨_, _, _, hn, c, T, hc, hs⟩ := h
  have hh : (put3 w g v0 v1 v2).heap[g']? = some (.cells c T (0, 0)) := by
    unfold put3
    rw [Below.heap_setCell _ _ _ _ hne, Below.heap_setCell _ _ _ _ hne, Below.heap_setCell _ _ _ _ hne]
    exact hc
  refine ⟨frozen_row hh _, frozen_row hh _, frozen_row hh _, ?_, c, T, hh, hs⟩
  intro o k x e
  rw [World.cell?_of_block (w := w) (a := ⟨g', o, none⟩) (hh.trans hc.symm)] at e
  exact hn o k x e
/-- the three boxes of a function of two fractions whose result is a fraction -/
structure Three (w : World) (g : Nat) (u0 u1 u2 v0 v1 v2 : Value) : Prop where
  a : Box w g u0 u1 u2
  b : Box w (g + 1) v0 v1 v2
  r : Fz (g + 1 + 1) w
  s : g + 1 + 1 < w.heap.size
theorem Three.later {w w' : World} {g : Nat} {u0 u1 u2 v0 v1 v2 : Value} (h : Three w g u0 u1 u2 v0 v1 v2) (hb : Below w.heap.size w w') : Three w' g u0 u1 u2 v0 v1 v2 :=
  have := h.s
  ⟨h.a.below (by omega) hb, h.b.below (by omega) hb, h.r.later h.s hb, Nat.lt_of_lt_of_le h.s hb.size⟩
theorem Three.new (w : World) (u0 u1 u2 v0 v1 v2 : Value) (T T' T'' : Nat) : Three (((w.alloc (.cells #[u0, u1, u2] T)).alloc (.cells #[v0, v1, v2] T')).alloc (.cells #[.bool false, .slice none 0 0, .slice none 0 0] T'')) w.heap.size u0 u1 u2 v0 v1 v2 := by
  obtain ⟨h1, h2⟩ := boxes3 w u0 u1 u2 v0 v1 v2 T T' (.cells #[.bool false, .slice none 0 0, .slice none 0 0] T'')
  have h := Fz.new ((w.alloc (.cells #[u0, u1, u2] T)).alloc (.cells #[v0, v1, v2] T')) (.bool false) (.slice none 0 0) (.slice none 0 0) T'' (by simp) (by simp) (by simp)
  simp only [World.size_alloc] at h
  exact ⟨h1, h2, h, by simp⟩

/-- a fraction's value, whatever it is worth -/
def Shp (v : Value) : Prop := ∃ s y1 m1 j1 y2 m2 j2, v = .agg #[.bool s, .slice y1 m1 j1, .slice y2 m2 j2]
theorem RepQ.put3 {w : World} {v : Value} {q : Q} (h : RepQ w v q) {g : Nat} (hf : Fz g w) (v0 v1 v2 : Value) (h0 : ∀ k x, v0 ≠ .int k x) (h1 : ∀ k x, v1 ≠ .int k x) : RepQ (put3 w g v0 v1 v2) v q := by
  obtain ⟨N, D, e, k1, k2⟩ := h
  exact ⟨N, D, e, put3_rep hf k1 _ _ _ h0 h1, put3_rep hf k2 _ _ _ h0 h1⟩
theorem div_gcd_pos {n d : Int} (hd : 0 < d) : 0 < d / gcdI n d := by
  have h1 := gcdI_pos (x := n) hd
  have h2 := gcdI_le (x := n) hd
  have h3 := Int.le_ediv_of_mul_le (a := 1) (b := d) h1 (by omega)
  omega
theorem mk_d0 {neg : Bool} {n d : Int} (hd : 0 < d) : 0 < (mk neg n d).d := by
  unfold mk; split
  · exact (by omega : (0 : Int) < 1)
  · exact div_gcd_pos hd
theorem mulQ_d0 {a b : Q} (ha : 0 < a.d) (hb : 0 < b.d) : 0 < (mulQ a b).d := mk_d0 (Int.mul_pos ha hb)
theorem powB_mono {a : Q} {k n : Nat} (h : powB a k = true) (hk : k ≤ n) : powB a n = true := by
  induction n with
  | zero => have : k = 0 := by omega
            subst this; exact h
  | succ n ih =>
    rcases Nat.lt_or_ge k (n + 1) with h1 | h1
    · simp [powB, ih (by omega)]
    · have : k = n + 1 := by omega
      subst this; exact h

set_option maxRecDepth 100000 in
set_option maxHeartbeats 1600000 in
theorem r_power_arg (v u : Value) (a b : Q) (w : World) (ha : RepQ w v a) (hb : RepQ w u b) (sb : b.Sm) (hc : countQ b = -1) :
    Calls Tryz.prog 61 #[v, u] w fun e w' => ∃ v', e = .returned (.tuple #[v', .int .i64 8]) ∧ Shp v' ∧ Below w.heap.size w w' := by
  obtain ⟨a1, l1, c1, a2, l2, c2, rfl, h1, h2⟩ := ha.open
  obtain ⟨a3, l3, c3, a4, l4, c4, rfl, h3, h4⟩ := hb.open
  have HC : Hid (countQ ⟨false, b.n, b.d⟩ = -1) := hc
  have hT := Three.new w (.bool a.neg) (.slice a1 l1 c1) (.slice a2 l2 c2) (.bool false) (.slice a3 l3 c3) (.slice a4 l4 c4) 35 35 35
  have hW : ∀ o o' o'', Below w.heap.size w (((w.alloc o).alloc o').alloc o'') := fun o o' o'' => (((Below.refl _ _).alloc (Nat.le_refl _) o).alloc (by simp) o').alloc (by simp; omega) o''
  have hbl : b.d < lim := lt_lim_of_cp sb.ok.d1
  clear hc ha hb
  go_enter Tryz.func61, Tryz.ntmps61
  go_wp2_with fail
  refine (r_count_any _ ⟨false, b.n, b.d⟩ _ (RepN.below ⟨_, _, rfl, h3, h4⟩ (Nat.le_refl _) (hW _ _ _)) rfl hbl).mono ?_
  rintro e w1 ⟨rfl, hb1⟩
  rw [HC.out]
  have hT1 := hT.later hb1
  obtain ⟨p0, p1, p2⟩ := hT1.a.cells
  obtain ⟨f0, f1, f2, _, _⟩ := id hT1.r
  obtain ⟨x0, x1, x2, e0, e1, e2⟩ := hT1.r.cells
  obtain ⟨q0, q1, q2⟩ := put3_cells hT1.r (.bool a.neg) (.slice a1 l1 c1) (.slice a2 l2 c2)
  unfold put3 at q0 q1 q2
  have hbw := Below.next (hW _ _ _) hb1 (by simp; omega)
  go_wp2
  refine bodyPost_ret (v := .tuple #[.agg #[.bool a.neg, .slice a1 l1 c1, .slice a2 l2 c2], .int .i64 8]) (by simp [results, Tryz.results61, go_sem, q0, q1, q2]) rfl ⟨_, rfl, ⟨_, _, _, _, _, _, _, rfl⟩, ?_⟩
  exact put3_below hbw (by omega) _ _ _

set_option maxRecDepth 100000 in
set_option maxHeartbeats 1600000 in
theorem r_power_zero (v u : Value) (a b : Q) (w : World) (ha : RepQ w v a) (hb : RepQ w u b) (sb : b.Sm) (hc : 0 ≤ countQ b) (hn : b.neg = true) (hz : a.n = 0) :
    Calls Tryz.prog 61 #[v, u] w fun e w' => ∃ v', e = .returned (.tuple #[v', .int .i64 9]) ∧ Shp v' ∧ Below w.heap.size w w' := by
  have ha' := ha
  obtain ⟨a1, l1, c1, a2, l2, c2, rfl, h1, h2⟩ := ha.open
  obtain ⟨a3, l3, c3, a4, l4, c4, rfl, h3, h4⟩ := hb.open
  rw [hn]
  obtain ⟨c, HC⟩ : ∃ c, Hid (countQ ⟨false, b.n, b.d⟩ = c) := ⟨_, rfl⟩
  have hc0 : 0 ≤ c := by rw [← HC.out]; exact hc
  have HZ : Hid (decide (a.n = 0) = true) := decide_eq_true hz
  have hT := Three.new w (.bool a.neg) (.slice a1 l1 c1) (.slice a2 l2 c2) (.bool false) (.slice a3 l3 c3) (.slice a4 l4 c4) 35 35 35
  have hW : ∀ o o' o'', Below w.heap.size w (((w.alloc o).alloc o').alloc o'') := fun o o' o'' => (((Below.refl _ _).alloc (Nat.le_refl _) o).alloc (by simp) o').alloc (by simp; omega) o''
  have hbl : b.d < lim := lt_lim_of_cp sb.ok.d1
  clear hc hb hz ha
  go_enter Tryz.func61, Tryz.ntmps61
  go_wp2_with fail
  refine (r_count_any _ ⟨false, b.n, b.d⟩ _ (RepN.below ⟨_, _, rfl, h3, h4⟩ (Nat.le_refl _) (hW _ _ _)) rfl hbl).mono ?_
  rintro e w1 ⟨rfl, hb1⟩
  rw [HC.out]
  have hT1 := hT.later hb1
  obtain ⟨p0, p1, p2⟩ := hT1.a.cells
  have hbw := Below.next (hW _ _ _) hb1 (by simp; omega)
  go_wp2_with fail
  refine (r_zero_any _ a _ (ha'.below (Nat.le_refl _) hbw)).mono ?_
  rintro e w2 ⟨rfl, hb2⟩
  rw [HZ.out]
  have hT2 := hT1.later hb2
  have hbw2 := Below.next hbw hb2 hbw.size
  clear p0 p1 p2
  obtain ⟨p0, p1, p2⟩ := hT2.a.cells
  obtain ⟨f0, f1, f2, _, _⟩ := id hT2.r
  obtain ⟨x0, x1, x2, e0, e1, e2⟩ := hT2.r.cells
  obtain ⟨q0, q1, q2⟩ := put3_cells hT2.r (.bool a.neg) (.slice a1 l1 c1) (.slice a2 l2 c2)
  unfold put3 at q0 q1 q2
  go_wp2
  refine bodyPost_ret (v := .tuple #[.agg #[.bool a.neg, .slice a1 l1 c1, .slice a2 l2 c2], .int .i64 9]) (by simp [results, Tryz.results61, go_sem, q0, q1, q2]) rfl ⟨_, rfl, ⟨_, _, _, _, _, _, _, rfl⟩, ?_⟩
  exact put3_below hbw2 (by omega) _ _ _

set_option maxRecDepth 100000 in
set_option maxHeartbeats 3200000 in
theorem r_power_pos (v u : Value) (a b : Q) (w : World) (ha : RepQ w v a) (hb : RepQ w u b) (sa : a.Sm) (sb : b.Sm) (n : Nat) (hc : countQ b = n) (hn : b.neg = false)  :
    Calls Tryz.prog 61 #[v, u] w fun e w' => ∃ v' er, e = .returned (.tuple #[v', .int .i64 er]) ∧ er = powErr a n ∧ (er = 0 → RepQ w' v' (powQ a n)) ∧ Shp v' ∧ Below w.heap.size w w' := by
  have ha' := ha
  obtain ⟨a1, l1, c1, a2, l2, c2, rfl, h1, h2⟩ := ha.open
  obtain ⟨a3, l3, c3, a4, l4, c4, rfl, h3, h4⟩ := hb.open
  rw [hn]
  have HC : Hid (countQ ⟨false, b.n, b.d⟩ = n) := hc
  have hn99 : n ≤ 99 := by unfold countQ at hc; split at hc <;> omega
  have hT := Three.new w (.bool a.neg) (.slice a1 l1 c1) (.slice a2 l2 c2) (.bool false) (.slice a3 l3 c3) (.slice a4 l4 c4) 35 35 35
  have hW : ∀ o o' o'', Below w.heap.size w (((w.alloc o).alloc o').alloc o'') := fun o o' o'' => (((Below.refl _ _).alloc (Nat.le_refl _) o).alloc (by simp) o').alloc (by simp; omega) o''
  have hbl : b.d < lim := lt_lim_of_cp sb.ok.d1
  clear hc hb ha
  go_enter Tryz.func61, Tryz.ntmps61
  go_wp2_with fail
  refine (r_count_any _ ⟨false, b.n, b.d⟩ _ (RepN.below ⟨_, _, rfl, h3, h4⟩ (Nat.le_refl _) (hW _ _ _)) rfl hbl).mono ?_
  rintro e w1 ⟨rfl, hb1⟩
  rw [HC.out]
  have hT1 := hT.later hb1
  have hbw := Below.next (hW _ _ _) hb1 (by simp; omega)
  have hbS := hbw
  have hTa := hT1.a
  have hTr := hT1.r
  have hTs := hT1.s
  have hra := ha'.below (Nat.le_refl _) hbw
  rename World => wS
  clear hT1 hbw hb1 hT
  go_wp2_with fail
  refine (r_small_one _).mono ?_
  rintro e w3 ⟨v3, rfl, hr3, hb3⟩
  obtain ⟨b1, n1, k1, b2, n2, k2, rfl, hr6, hr7⟩ := RepQ.open hr3
  have hra3 := hra.below (Nat.le_refl _) hb3
  have hTa3 := hTa.below (by omega) hb3
  have hTr3 := hTr.later hTs hb3
  have hTs3 := Nat.lt_of_lt_of_le hTs hb3.size
  have hbS3 := Below.next hbS hb3 hbS.size
  clear hra hTa hTr hTs hbS hb3 hr3
  go_wp2
  have hX : ∀ x0 x1 x2 T, Below w3.heap.size w3 (w3.alloc (.cells #[x0, x1, x2] T)) := fun _ _ _ _ => (Below.refl _ _).alloc (Nat.le_refl _) _
  go_loopw [9] (fun i wr => ∃ (k : Nat) (N D : Value) (s : Bool) (y1 y2 : Option Addr) (m1 m2 j1 j2 : Nat), k ≤ n ∧ i = .int .i64 k ∧ Box wr w3.heap.size (.bool s) (.slice y1 m1 j1) (.slice y2 m2 j2) ∧ RepQ wr (.agg #[.bool s, .slice y1 m1 j1, .slice y2 m2 j2]) (powQ a k) ∧ (powQ a k).Sm ∧
      Hid (powB a k = false) ∧ Box wr w.heap.size (.bool a.neg) (.slice a1 l1 c1) (.slice a2 l2 c2) ∧ Fz (w.heap.size + 1 + 1) wr ∧ RepQ wr (.agg #[.bool a.neg, .slice a1 l1 c1, .slice a2 l2 c2]) a ∧ Below w.heap.size w wr ∧ w3.heap.size < wr.heap.size)
    (fun i _ => n - (intOf i).toNat)
  case atStart => exact ⟨0, .bool false, .bool false, _, _, _, _, _, _, _, by omega, rfl, Box.new _ _ _ _ _, RepQ.below ⟨_, _, rfl, hr6, hr7⟩ (Nat.le_refl _) (hX _ _ _ _), ⟨by simp [powQ, smallQ], by simp [powQ, smallQ], by simp [powQ, smallQ], by simp [powQ, smallQ]⟩, rfl, hTa3.alloc (by omega) _, hTr3.later hTs3 (hX _ _ _ _), hra3.below (Nat.le_refl _) (hX _ _ _ _), hbS3.alloc hbS3.size _, by simp⟩
  case round =>
    clear hra3 hTa3 hTr3 hbS3 hr6 hr7 hX
    obtain ⟨k, _, _, s, y1, y2, m1, m2, j1, j2, hk, rfl, hBx, hrx, hsx, HB, hBa, hFr, hra, hbel, hsz⟩ := hrel
    obtain ⟨p0, p1, p2⟩ := hBa.cells
    obtain ⟨r0, r1, r2⟩ := hBx.cells
    by_cases hlt : k < n
    · go_wp2_with fail
      refine (r_product_any _ _ (powQ a k) a _ hrx hra hsx.ok sa.ok).mono ?_
      rintro e w4 ⟨v4, rfl, hr4, hb4⟩
      obtain ⟨d1, t1, g1, d2, t2, g2, rfl, hr8, hr9⟩ := RepQ.open hr4
      have hBx4 := hBx.below hsz hb4
      have hBa4 := hBa.below (by omega) hb4
      have hFr4 := hFr.later (by omega) hb4
      have hra4 := hra.below (Nat.le_refl _) hb4
      have hbel4 := Below.next hbel hb4 hbel.size
      have hsz4 := Nat.lt_of_lt_of_le hsz hb4.size
      have hfx := hBx4.fz (by simp) (by simp) (by simp)
      obtain ⟨f0, f1, f2, _, _⟩ := id hfx
      obtain ⟨x0, x1, x2, e0, e1, e2⟩ := hfx.cells
      clear hBx hBa hFr hra hbel hrx p0 p1 p2 r0 r1 r2 hb4 hsz
      have HP : Hid (mulQ (powQ a k) a = powQ a (k + 1)) := rfl
      rw [HP.out] at hr4 hr8 hr9 ⊢
      obtain ⟨z, HZz⟩ : ∃ z, Hid (bigQ (powQ a (k + 1)) = z) := ⟨_, rfl⟩
      go_wp2_with fail
      have hBxP := put3_box hfx (.bool (powQ a (k + 1)).neg) (.slice d1 t1 g1) (.slice d2 t2 g2)
      have hBaP := put3_box_other hBa4 (show w.heap.size ≠ w3.heap.size by omega) (.bool (powQ a (k + 1)).neg) (.slice d1 t1 g1) (.slice d2 t2 g2)
      have hFrP := put3_fz_other hFr4 (show w.heap.size + 1 + 1 ≠ w3.heap.size by omega) (.bool (powQ a (k + 1)).neg) (.slice d1 t1 g1) (.slice d2 t2 g2)
      have hraP := RepQ.put3 hra4 hfx (.bool (powQ a (k + 1)).neg) (.slice d1 t1 g1) (.slice d2 t2 g2) (by simp) (by simp)
      have hrP := RepQ.put3 hr4 hfx (.bool (powQ a (k + 1)).neg) (.slice d1 t1 g1) (.slice d2 t2 g2) (by simp) (by simp)
      have hbelP := put3_below hbel4 (show w.heap.size ≤ w3.heap.size by omega) (.bool (powQ a (k + 1)).neg) (.slice d1 t1 g1) (.slice d2 t2 g2)
      have hszP : w3.heap.size < (put3 w4 w3.heap.size (.bool (powQ a (k + 1)).neg) (.slice d1 t1 g1) (.slice d2 t2 g2)).heap.size := by rw [put3_size]; exact hsz4
      have hd0 : 0 < (powQ a (k + 1)).d := mulQ_d0 hsx.d0 sa.d0
      have hn0 := hr8.nonneg (by omega)
      rw [show (((w4.setCell ⟨w3.heap.size, 0, none⟩ (.bool (powQ a (k + 1)).neg)).setCell ⟨w3.heap.size, 1, none⟩ (.slice d1 t1 g1)).setCell ⟨w3.heap.size, 2, none⟩ (.slice d2 t2 g2)) = put3 w4 w3.heap.size (.bool (powQ a (k + 1)).neg) (.slice d1 t1 g1) (.slice d2 t2 g2) from rfl]
      obtain ⟨wP, HWP⟩ : ∃ wP, Hid (put3 w4 w3.heap.size (.bool (powQ a (k + 1)).neg) (.slice d1 t1 g1) (.slice d2 t2 g2) = wP) := ⟨_, rfl⟩
      rw [HWP.out] at hBxP hBaP hFrP hraP hrP hbelP hszP ⊢
      clear HWP hr4 hr8 hr9 hBx4 hBa4 hFr4 hra4 hbel4 hsz4 hfx f0 f1 f2 e0 e1 e2
      refine (r_big_any _ (powQ a (k + 1)) _ hrP).mono ?_
      rintro e w5 ⟨rfl, hb5⟩
      rw [HZz.out]
      have hBx5 := hBxP.below hszP hb5
      have hBa5 := hBaP.below (by omega) hb5
      have hFr5 := hFrP.later (by omega) hb5
      have hra5 := hraP.below (Nat.le_refl _) hb5
      have hr5 := hrP.below (Nat.le_refl _) hb5
      have hbel5 := Below.next hbelP hb5 hbelP.size
      have hsz5 := Nat.lt_of_lt_of_le hszP hb5.size
      clear hBxP hBaP hFrP hraP hrP hbelP hszP hb5
      cases z
      · have hsm : (powQ a (k + 1)).Sm := by
          have := HZz.out
          simp [bigQ] at this
          exact ⟨hn0, this.1, hd0, this.2⟩
        have HB2 : Hid (powB a (k + 1) = false) := by simp [Hid, powB, HB.out, HZz.out]
        go_wp2
        go_roundw
        case rel => exact ⟨k + 1, .bool false, .bool false, _, _, _, _, _, _, _, by omega, by go_num, hBx5, hr5, hsm, HB2, hBa5, hFr5, hra5, hbel5, hsz5⟩
        case measure => simp [intOf]; omega
      · have HB2 : Hid (powB a n = true) := powB_mono (k := k + 1) (by simp [powB, HZz.out]) (by omega)
        obtain ⟨r0, r1, r2⟩ := hBx5.cells
        obtain ⟨f0, f1, f2, _, _⟩ := id hFr5
        obtain ⟨x0, x1, x2, e0, e1, e2⟩ := hFr5.cells
        obtain ⟨q0, q1, q2⟩ := put3_cells hFr5 (.bool (powQ a (k + 1)).neg) (.slice d1 t1 g1) (.slice d2 t2 g2)
        unfold put3 at q0 q1 q2
        go_wp2
        refine bodyPost_ret (v := .tuple #[.agg #[.bool (powQ a (k + 1)).neg, .slice d1 t1 g1, .slice d2 t2 g2], .int .i64 10]) (by simp [results, Tryz.results61, go_sem, q0, q1, q2]) rfl ⟨_, _, rfl, by unfold powErr; rw [HB2.out]; rfl, fun h => by simp at h, ⟨_, _, _, _, _, _, _, rfl⟩, ?_⟩
        exact put3_below hbel5 (by omega) _ _ _
    · have hkn : k = n := by omega
      subst hkn
      obtain ⟨f0, f1, f2, _, _⟩ := id hFr
      obtain ⟨x0, x1, x2, e0, e1, e2⟩ := hFr.cells
      obtain ⟨q0, q1, q2⟩ := put3_cells hFr (.bool s) (.slice y1 m1 j1) (.slice y2 m2 j2)
      unfold put3 at q0 q1 q2
      go_wp2
      refine bodyPost_ret (v := .tuple #[.agg #[.bool s, .slice y1 m1 j1, .slice y2 m2 j2], .int .i64 0]) (by simp [results, Tryz.results61, go_sem, q0, q1, q2]) rfl ⟨_, _, rfl, by unfold powErr; rw [HB.out]; rfl, fun _ => RepQ.put3 hrx hFr _ _ _ (by simp) (by simp), ⟨_, _, _, _, _, _, _, rfl⟩, ?_⟩
      exact put3_below hbel (by omega) _ _ _

set_option maxRecDepth 100000 in
set_option maxHeartbeats 3200000 in
theorem r_power_neg (v u : Value) (a b : Q) (w : World) (ha : RepQ w v a) (hb : RepQ w u b) (sa : a.Sm) (sb : b.Sm) (n : Nat) (hc : countQ b = n) (hn : b.neg = true) (hz : ¬ a.n = 0) :
    Calls Tryz.prog 61 #[v, u] w fun e w' => ∃ v' er, e = .returned (.tuple #[v', .int .i64 er]) ∧ er = powErr (invQ a) n ∧ (er = 0 → RepQ w' v' (powQ (invQ a) n)) ∧ Shp v' ∧ Below w.heap.size w w' := by
  have ha' := ha
  obtain ⟨a1, l1, c1, a2, l2, c2, rfl, h1, h2⟩ := ha.open
  obtain ⟨a3, l3, c3, a4, l4, c4, rfl, h3, h4⟩ := hb.open
  rw [hn]
  have HC : Hid (countQ ⟨false, b.n, b.d⟩ = n) := hc
  have hn99 : n ≤ 99 := by unfold countQ at hc; split at hc <;> omega
  have hT := Three.new w (.bool a.neg) (.slice a1 l1 c1) (.slice a2 l2 c2) (.bool false) (.slice a3 l3 c3) (.slice a4 l4 c4) 35 35 35
  have hW : ∀ o o' o'', Below w.heap.size w (((w.alloc o).alloc o').alloc o'') := fun o o' o'' => (((Below.refl _ _).alloc (Nat.le_refl _) o).alloc (by simp) o').alloc (by simp; omega) o''
  have hbl : b.d < lim := lt_lim_of_cp sb.ok.d1
  clear hc hb ha
  have HZ : Hid (decide (a.n = 0) = false) := decide_eq_false hz
  have sI : (invQ a).Sm := ⟨Int.le_of_lt sa.d0, sa.d1, by have := sa.n0; show 0 < a.n; omega, sa.n1⟩
  clear hz
  go_enter Tryz.func61, Tryz.ntmps61
  go_wp2_with fail
  refine (r_count_any _ ⟨false, b.n, b.d⟩ _ (RepN.below ⟨_, _, rfl, h3, h4⟩ (Nat.le_refl _) (hW _ _ _)) rfl hbl).mono ?_
  rintro e w1 ⟨rfl, hb1⟩
  rw [HC.out]
  have hT1 := hT.later hb1
  have hbw := Below.next (hW _ _ _) hb1 (by simp; omega)
  obtain ⟨p0, p1, p2⟩ := hT1.a.cells
  go_wp2_with fail
  refine (r_zero_any _ a _ (ha'.below (Nat.le_refl _) hbw)).mono ?_
  rintro e w2 ⟨rfl, hb2⟩
  rw [HZ.out]
  have hT2 := hT1.later hb2
  have hbw2 := Below.next hbw hb2 hbw.size
  clear p0 p1 p2
  obtain ⟨p0, p1, p2⟩ := hT2.a.cells
  have hfa := hT2.a.fz (by simp) (by simp) (by simp)
  obtain ⟨f0, f1, f2, _, _⟩ := id hfa
  go_wp2_with fail
  have hbS := put3_below hbw2 (Nat.le_refl _) (.bool a.neg) (.slice a2 l2 c2) (.slice a1 l1 c1)
  have hTa := put3_box hfa (.bool a.neg) (.slice a2 l2 c2) (.slice a1 l1 c1)
  have hTr := put3_fz_other hT2.r (show w.heap.size + 1 + 1 ≠ w.heap.size by omega) (.bool a.neg) (.slice a2 l2 c2) (.slice a1 l1 c1)
  have hTs : w.heap.size + 1 + 1 < (put3 w2 w.heap.size (.bool a.neg) (.slice a2 l2 c2) (.slice a1 l1 c1)).heap.size := by rw [put3_size]; exact hT2.s
  have hrN := put3_rep hfa (h1.below (Nat.le_refl _) hbw2) (.bool a.neg) (.slice a2 l2 c2) (.slice a1 l1 c1) (by simp) (by simp)
  have hrD := put3_rep hfa (h2.below (Nat.le_refl _) hbw2) (.bool a.neg) (.slice a2 l2 c2) (.slice a1 l1 c1) (by simp) (by simp)
  have hra : RepQ (put3 w2 w.heap.size (.bool a.neg) (.slice a2 l2 c2) (.slice a1 l1 c1)) (.agg #[.bool a.neg, .slice a2 l2 c2, .slice a1 l1 c1]) (invQ a) := ⟨_, _, rfl, hrD, hrN⟩
  rw [show (((w2.setCell ⟨w.heap.size, 0, none⟩ (.bool a.neg)).setCell ⟨w.heap.size, 1, none⟩ (.slice a2 l2 c2)).setCell ⟨w.heap.size, 2, none⟩ (.slice a1 l1 c1)) = put3 w2 w.heap.size (.bool a.neg) (.slice a2 l2 c2) (.slice a1 l1 c1) from rfl]
  obtain ⟨wS, HWS⟩ : ∃ wS, Hid (put3 w2 w.heap.size (.bool a.neg) (.slice a2 l2 c2) (.slice a1 l1 c1) = wS) := ⟨_, rfl⟩
  rw [HWS.out] at hbS hTa hTr hTs hra ⊢
  clear hrN hrD p0 p1 p2 f0 f1 f2 hfa hT2 hbw2 hb2 hT1 hbw hb1 hT HWS
  refine (r_small_one _).mono ?_
  rintro e w3 ⟨v3, rfl, hr3, hb3⟩
  obtain ⟨b1, n1, k1, b2, n2, k2, rfl, hr6, hr7⟩ := RepQ.open hr3
  have hra3 := hra.below (Nat.le_refl _) hb3
  have hTa3 := hTa.below (by omega) hb3
  have hTr3 := hTr.later hTs hb3
  have hTs3 := Nat.lt_of_lt_of_le hTs hb3.size
  have hbS3 := Below.next hbS hb3 hbS.size
  clear hra hTa hTr hTs hbS hb3 hr3
  go_wp2
  have hX : ∀ x0 x1 x2 T, Below w3.heap.size w3 (w3.alloc (.cells #[x0, x1, x2] T)) := fun _ _ _ _ => (Below.refl _ _).alloc (Nat.le_refl _) _
  go_loopw [9] (fun i wr => ∃ (k : Nat) (N D : Value) (s : Bool) (y1 y2 : Option Addr) (m1 m2 j1 j2 : Nat), k ≤ n ∧ i = .int .i64 k ∧ Box wr w3.heap.size (.bool s) (.slice y1 m1 j1) (.slice y2 m2 j2) ∧ RepQ wr (.agg #[.bool s, .slice y1 m1 j1, .slice y2 m2 j2]) (powQ (invQ a) k) ∧ (powQ (invQ a) k).Sm ∧
      Hid (powB (invQ a) k = false) ∧ Box wr w.heap.size (.bool a.neg) (.slice a2 l2 c2) (.slice a1 l1 c1) ∧ Fz (w.heap.size + 1 + 1) wr ∧ RepQ wr (.agg #[.bool a.neg, .slice a2 l2 c2, .slice a1 l1 c1]) (invQ a) ∧ Below w.heap.size w wr ∧ w3.heap.size < wr.heap.size)
    (fun i _ => n - (intOf i).toNat)
  case atStart => exact ⟨0, .bool false, .bool false, _, _, _, _, _, _, _, by omega, rfl, Box.new _ _ _ _ _, RepQ.below ⟨_, _, rfl, hr6, hr7⟩ (Nat.le_refl _) (hX _ _ _ _), ⟨by simp [powQ, smallQ], by simp [powQ, smallQ], by simp [powQ, smallQ], by simp [powQ, smallQ]⟩, rfl, hTa3.alloc (by omega) _, hTr3.later hTs3 (hX _ _ _ _), hra3.below (Nat.le_refl _) (hX _ _ _ _), hbS3.alloc hbS3.size _, by simp⟩
  case round =>
    clear hra3 hTa3 hTr3 hbS3 hr6 hr7 hX
    obtain ⟨k, _, _, s, y1, y2, m1, m2, j1, j2, hk, rfl, hBx, hrx, hsx, HB, hBa, hFr, hra, hbel, hsz⟩ := hrel
    obtain ⟨p0, p1, p2⟩ := hBa.cells
    obtain ⟨r0, r1, r2⟩ := hBx.cells
    by_cases hlt : k < n
    · go_wp2_with fail
      refine (r_product_any _ _ (powQ (invQ a) k) (invQ a) _ hrx hra hsx.ok sI.ok).mono ?_
      rintro e w4 ⟨v4, rfl, hr4, hb4⟩
      obtain ⟨d1, t1, g1, d2, t2, g2, rfl, hr8, hr9⟩ := RepQ.open hr4
      have hBx4 := hBx.below hsz hb4
      have hBa4 := hBa.below (by omega) hb4
      have hFr4 := hFr.later (by omega) hb4
      have hra4 := hra.below (Nat.le_refl _) hb4
      have hbel4 := Below.next hbel hb4 hbel.size
      have hsz4 := Nat.lt_of_lt_of_le hsz hb4.size
      have hfx := hBx4.fz (by simp) (by simp) (by simp)
      obtain ⟨f0, f1, f2, _, _⟩ := id hfx
      obtain ⟨x0, x1, x2, e0, e1, e2⟩ := hfx.cells
      clear hBx hBa hFr hra hbel hrx p0 p1 p2 r0 r1 r2 hb4 hsz
      have HP : Hid (mulQ (powQ (invQ a) k) (invQ a) = powQ (invQ a) (k + 1)) := rfl
      rw [HP.out] at hr4 hr8 hr9 ⊢
      obtain ⟨z, HZz⟩ : ∃ z, Hid (bigQ (powQ (invQ a) (k + 1)) = z) := ⟨_, rfl⟩
      go_wp2_with fail
      have hBxP := put3_box hfx (.bool (powQ (invQ a) (k + 1)).neg) (.slice d1 t1 g1) (.slice d2 t2 g2)
      have hBaP := put3_box_other hBa4 (show w.heap.size ≠ w3.heap.size by omega) (.bool (powQ (invQ a) (k + 1)).neg) (.slice d1 t1 g1) (.slice d2 t2 g2)
      have hFrP := put3_fz_other hFr4 (show w.heap.size + 1 + 1 ≠ w3.heap.size by omega) (.bool (powQ (invQ a) (k + 1)).neg) (.slice d1 t1 g1) (.slice d2 t2 g2)
      have hraP := RepQ.put3 hra4 hfx (.bool (powQ (invQ a) (k + 1)).neg) (.slice d1 t1 g1) (.slice d2 t2 g2) (by simp) (by simp)
      have hrP := RepQ.put3 hr4 hfx (.bool (powQ (invQ a) (k + 1)).neg) (.slice d1 t1 g1) (.slice d2 t2 g2) (by simp) (by simp)
      have hbelP := put3_below hbel4 (show w.heap.size ≤ w3.heap.size by omega) (.bool (powQ (invQ a) (k + 1)).neg) (.slice d1 t1 g1) (.slice d2 t2 g2)
      have hszP : w3.heap.size < (put3 w4 w3.heap.size (.bool (powQ (invQ a) (k + 1)).neg) (.slice d1 t1 g1) (.slice d2 t2 g2)).heap.size := by rw [put3_size]; exact hsz4
      have hd0 : 0 < (powQ (invQ a) (k + 1)).d := mulQ_d0 hsx.d0 sI.d0
      have hn0 := hr8.nonneg (by omega)
      rw [show (((w4.setCell ⟨w3.heap.size, 0, none⟩ (.bool (powQ (invQ a) (k + 1)).neg)).setCell ⟨w3.heap.size, 1, none⟩ (.slice d1 t1 g1)).setCell ⟨w3.heap.size, 2, none⟩ (.slice d2 t2 g2)) = put3 w4 w3.heap.size (.bool (powQ (invQ a) (k + 1)).neg) (.slice d1 t1 g1) (.slice d2 t2 g2) from rfl]
      obtain ⟨wP, HWP⟩ : ∃ wP, Hid (put3 w4 w3.heap.size (.bool (powQ (invQ a) (k + 1)).neg) (.slice d1 t1 g1) (.slice d2 t2 g2) = wP) := ⟨_, rfl⟩
      rw [HWP.out] at hBxP hBaP hFrP hraP hrP hbelP hszP ⊢
      clear HWP hr4 hr8 hr9 hBx4 hBa4 hFr4 hra4 hbel4 hsz4 hfx f0 f1 f2 e0 e1 e2
      refine (r_big_any _ (powQ (invQ a) (k + 1)) _ hrP).mono ?_
      rintro e w5 ⟨rfl, hb5⟩
      rw [HZz.out]
      have hBx5 := hBxP.below hszP hb5
      have hBa5 := hBaP.below (by omega) hb5
      have hFr5 := hFrP.later (by omega) hb5
      have hra5 := hraP.below (Nat.le_refl _) hb5
      have hr5 := hrP.below (Nat.le_refl _) hb5
      have hbel5 := Below.next hbelP hb5 hbelP.size
      have hsz5 := Nat.lt_of_lt_of_le hszP hb5.size
      clear hBxP hBaP hFrP hraP hrP hbelP hszP hb5
      cases z
      · have hsm : (powQ (invQ a) (k + 1)).Sm := by
          have := HZz.out
          simp [bigQ] at this
          exact ⟨hn0, this.1, hd0, this.2⟩
        have HB2 : Hid (powB (invQ a) (k + 1) = false) := by simp [Hid, powB, HB.out, HZz.out]
        go_wp2
        go_roundw
        case rel => exact ⟨k + 1, .bool false, .bool false, _, _, _, _, _, _, _, by omega, by go_num, hBx5, hr5, hsm, HB2, hBa5, hFr5, hra5, hbel5, hsz5⟩
        case measure => simp [intOf]; omega
      · have HB2 : Hid (powB (invQ a) n = true) := powB_mono (k := k + 1) (by simp [powB, HZz.out]) (by omega)
        obtain ⟨r0, r1, r2⟩ := hBx5.cells
        obtain ⟨f0, f1, f2, _, _⟩ := id hFr5
        obtain ⟨x0, x1, x2, e0, e1, e2⟩ := hFr5.cells
        obtain ⟨q0, q1, q2⟩ := put3_cells hFr5 (.bool (powQ (invQ a) (k + 1)).neg) (.slice d1 t1 g1) (.slice d2 t2 g2)
        unfold put3 at q0 q1 q2
        go_wp2
        refine bodyPost_ret (v := .tuple #[.agg #[.bool (powQ (invQ a) (k + 1)).neg, .slice d1 t1 g1, .slice d2 t2 g2], .int .i64 10]) (by simp [results, Tryz.results61, go_sem, q0, q1, q2]) rfl ⟨_, _, rfl, by unfold powErr; rw [HB2.out]; rfl, fun h => by simp at h, ⟨_, _, _, _, _, _, _, rfl⟩, ?_⟩
        exact put3_below hbel5 (by omega) _ _ _
    · have hkn : k = n := by omega
      subst hkn
      obtain ⟨f0, f1, f2, _, _⟩ := id hFr
      obtain ⟨x0, x1, x2, e0, e1, e2⟩ := hFr.cells
      obtain ⟨q0, q1, q2⟩ := put3_cells hFr (.bool s) (.slice y1 m1 j1) (.slice y2 m2 j2)
      unfold put3 at q0 q1 q2
      go_wp2
      refine bodyPost_ret (v := .tuple #[.agg #[.bool s, .slice y1 m1 j1, .slice y2 m2 j2], .int .i64 0]) (by simp [results, Tryz.results61, go_sem, q0, q1, q2]) rfl ⟨_, _, rfl, by unfold powErr; rw [HB.out]; rfl, fun _ => RepQ.put3 hrx hFr _ _ _ (by simp) (by simp), ⟨_, _, _, _, _, _, _, rfl⟩, ?_⟩
      exact put3_below hbel (by omega) _ _ _
end Go.Proofs.YtknnjibmacmniaaGreatDoor
