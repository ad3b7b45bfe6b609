/- what holds of numbers in lowest terms. -/
import Derived.Test.YtknnjibmacmniaaGreatDoorC12
import Derived.Test.YtknnjibmacmniaaGreatDoorC28
import Derived.Test.YtknnjibmacmniaaGreatDoorC31
namespace Go.Proofs.YtknnjibmacmniaaGreatDoor
open Go.RowKit
set_option linter.unusedVariables false

/-- a number in lowest terms -/
structure Q.Can (a : Q) : Prop where
  g : gcdI a.n a.d = 1
  z : a.n = 0 → a.neg = false
theorem mk_can {s : Bool} {n d : Int} (hn : 0 ≤ n) (hd : 0 < d) : (mk s n d).Can := by
  unfold mk
  split
  · exact ⟨by simp [gcdI], fun _ => rfl⟩
  · rename_i h0
    have hg := gcdI_pos (x := n) hd
    refine ⟨?_, fun h => ?_⟩
    · show gcdI (n / gcdI n d) (d / gcdI n d) = 1
      unfold gcdI
      rw [Int.gcd_ediv_gcd_ediv_gcd (by unfold gcdI at hg; omega)]
      rfl
    · exfalso
      have h2 := Int.ediv_mul_cancel (gcdI_dvd_left n d)
      have h : n / gcdI n d = 0 := h
      rw [h, Int.zero_mul] at h2
      exact h0 h2.symm
theorem parse_can {s : List UInt8} {q : Q} (h : parseQ s = some q) : q.Can := by
  have key : ∀ (neg : Bool) (r : List UInt8), (if okND neg (cutN r) (cutD r) then some (mk neg (sval (cutN r)) (sval (cutD r))) else none) = some q → q.Can := by
    intro neg r h
    by_cases hok : okND neg (cutN r) (cutD r) = true
    · rw [if_pos hok] at h
      cases h
      unfold okND at hok
      simp only [Bool.and_eq_true, Bool.not_eq_true', decide_eq_false_iff_not] at hok
      obtain ⟨⟨⟨h1, h2⟩, h3⟩, _⟩ := hok
      exact mk_can (sval_lt h1).1 (sval_pos h2 h3)
    · rw [if_neg hok] at h; cases h
  exact key _ _ h
theorem inv_can {a : Q} (h : a.Can) (hd : 0 < a.d) : (invQ a).Can := by
  refine ⟨?_, fun h0 => ?_⟩
  · show gcdI a.d a.n = 1
    have := h.g
    unfold gcdI at this ⊢
    rw [Int.gcd_comm]; exact this
  · exfalso
    have h0 : a.d = 0 := h0
    omega
theorem gcdI_pow {x y : Int} (h : gcdI x y = 1) (k : Nat) : gcdI (x ^ k) (y ^ k) = 1 := by
  unfold gcdI Int.gcd at h ⊢
  rw [Int.natAbs_pow, Int.natAbs_pow]
  have h1 : Nat.Coprime x.natAbs y.natAbs := by unfold Nat.Coprime; omega
  have h2 : Nat.Coprime (x.natAbs ^ k) (y.natAbs ^ k) := h1.pow k k
  unfold Nat.Coprime at h2
  rw [h2]; rfl
theorem pow_zero_iff {x : Int} {k : Nat} (h : x ^ k * x = 0) : x = 0 := by
  induction k with
  | zero => simpa using h
  | succ k ih =>
    rcases Int.mul_eq_zero.1 h with h1 | h1
    · rw [Int.pow_succ] at h1; exact ih h1
    · exact h1
theorem powN_eq {a : Q} (hc : a.Can) (hn : 0 ≤ a.n) (hd : 0 < a.d) (k : Nat) : powN a k = powQ a k := by
  induction k with
  | zero => simp [powN, powQ, smallQ, sgP]
  | succ k ih =>
    show _ = mulQ (powQ a k) a
    rw [← ih]
    unfold mulQ powN
    simp only
    unfold mk
    split
    · rename_i h0
      have hz := pow_zero_iff h0
      have hneg := hc.z hz
      have hd1 : a.d = 1 := by
        have := hc.g
        rw [hz] at this
        unfold gcdI at this
        rw [Int.gcd_zero_left] at this
        omega
      have hs : ∀ j, sgP false j = false := by
        intro j
        induction j with
        | zero => rfl
        | succ j ih => simp [sgP, ih]
      rw [hneg, hz, hd1, hs, Int.zero_pow (by omega), Int.one_pow]
    · rw [← Int.pow_succ, ← Int.pow_succ, gcdI_pow hc.g]
      simp [sgP]
theorem powNB_eq {a : Q} (hc : a.Can) (hn : 0 ≤ a.n) (hd : 0 < a.d) (k : Nat) : powNB a k = powB a k := by
  induction k with
  | zero => rfl
  | succ k ih => simp only [powNB, powB]; rw [ih, powN_eq hc hn hd]

theorem mk_sign {s : Bool} {n d : Int} (hd : 0 < d) : sgQ (mk s n d) = (if n = 0 then 0 else if s then -1 else 1) ∧ (mk s n d).neg = (s && !decide (n = 0)) := by
  unfold mk
  split
  · rename_i h0
    exact ⟨by simp [sgQ], by simp [h0]⟩
  · rename_i h0
    have h1 : ¬ n / gcdI n d = 0 := by
      intro e
      have h2 := Int.ediv_mul_cancel (gcdI_dvd_left n d)
      rw [e, Int.zero_mul] at h2
      exact h0 h2.symm
    refine ⟨?_, by simp [h0]⟩
    unfold sgQ
    simp only
    rw [if_neg h1]

def sv (s : Bool) (n : Int) : Int := if s then -n else n
theorem sub_sign {x y : Q} (hx : 0 ≤ x.n) (hxd : 0 < x.d) (hy : 0 ≤ y.n) (hyd : 0 < y.d) (cx : x.n = 0 → x.neg = false) (cy : y.n = 0 → y.neg = false) :
    sgQ (sumQ x (negQ y)) = sgn3 (sv x.neg (x.n * y.d)) (sv y.neg (y.n * x.d)) ∧ lessQ x y = decide (sv x.neg (x.n * y.d) < sv y.neg (y.n * x.d)) := by
  have hD : 0 < x.d * y.d := Int.mul_pos hxd hyd
  have hP : 0 ≤ x.n * y.d := Int.mul_nonneg hx (by omega)
  have hR : 0 ≤ y.n * x.d := Int.mul_nonneg hy (by omega)
  have hP0 : x.n * y.d = 0 → x.neg = false := fun h => by
    rcases Int.mul_eq_zero.1 h with h | h
    · exact cx h
    · omega
  have hR0 : y.n * x.d = 0 → y.n = 0 := fun h => by
    rcases Int.mul_eq_zero.1 h with h | h
    · exact h
    · omega
  have hR1 : y.n = 0 → y.n * x.d = 0 := fun h => by rw [h, Int.zero_mul]
  unfold lessQ
  have key : ∀ s n, sumQ x (negQ y) = mk s n (x.d * y.d) → sgQ (sumQ x (negQ y)) = (if n = 0 then 0 else if s then -1 else 1) ∧ (sumQ x (negQ y)).neg = (s && !decide (n = 0)) := by
    intro s n h
    rw [h]; exact mk_sign hD
  have hm : (negQ y).neg = (!y.neg && decide (y.n ≠ 0)) := rfl
  have hsum : sumQ x (negQ y) = if x.neg = (negQ y).neg then mk x.neg (x.n * y.d + y.n * x.d) (x.d * y.d) else if y.n * x.d ≤ x.n * y.d then mk x.neg (x.n * y.d - y.n * x.d) (x.d * y.d) else mk (negQ y).neg (y.n * x.d - x.n * y.d) (x.d * y.d) := rfl
  rw [hm] at hsum
  generalize x.n * y.d = P at *
  generalize y.n * x.d = R at *
  generalize x.d * y.d = D at *
  generalize sumQ x (negQ y) = S at *
  generalize x.neg = sx at *
  generalize y.neg = sy at *
  by_cases hz : y.n = 0
  · have hsy := cy hz
    have hR' := hR1 hz
    subst hsy
    have hms : (!false && decide (y.n ≠ 0)) = false := by simp [hz]
    rw [hms] at hsum
    cases sx
    · rw [if_pos rfl] at hsum
      obtain ⟨k1, k2⟩ := key _ _ hsum
      rw [k1, k2]
      simp only [sv, sgn3]
      constructor
      · simp; split <;> split <;> (try split) <;> omega
      · rw [Bool.eq_iff_iff]; simp; omega
    · rw [if_neg (by simp)] at hsum
      have : ¬ P = 0 := fun h => by simpa using hP0 h
      rw [if_pos (by omega)] at hsum
      obtain ⟨k1, k2⟩ := key _ _ hsum
      rw [k1, k2]
      simp only [sv, sgn3]
      constructor
      · simp; split <;> split <;> (try split) <;> omega
      · rw [Bool.eq_iff_iff]; simp; omega
  · have hms : (!sy && decide (y.n ≠ 0)) = !sy := by simp [hz]
    have hRp : ¬ R = 0 := fun h => hz (hR0 h)
    rw [hms] at hsum
    cases sx <;> cases sy
    · rw [if_neg (by simp)] at hsum
      by_cases hle : R ≤ P
      · rw [if_pos hle] at hsum
        obtain ⟨k1, k2⟩ := key _ _ hsum
        rw [k1, k2]
        simp only [sv, sgn3]
        constructor
        · simp; split <;> split <;> (try split) <;> omega
        · rw [Bool.eq_iff_iff]; simp; omega
      · rw [if_neg hle] at hsum
        obtain ⟨k1, k2⟩ := key _ _ hsum
        rw [k1, k2]
        simp only [sv, sgn3]
        constructor
        · simp; split <;> split <;> (try split) <;> omega
        · rw [Bool.eq_iff_iff]; simp; omega
    · rw [if_pos (by simp)] at hsum
      obtain ⟨k1, k2⟩ := key _ _ hsum
      rw [k1, k2]
      simp only [sv, sgn3]
      constructor
      · simp; split <;> split <;> (try split) <;> omega
      · rw [Bool.eq_iff_iff]; simp; omega
    · rw [if_pos (by simp)] at hsum
      obtain ⟨k1, k2⟩ := key _ _ hsum
      rw [k1, k2]
      simp only [sv, sgn3]
      constructor
      · simp; split <;> split <;> (try split) <;> omega
      · rw [Bool.eq_iff_iff]; simp; omega
    · have hPp : ¬ P = 0 := fun h => by simpa using hP0 h
      rw [if_neg (by simp)] at hsum
      by_cases hle : R ≤ P
      · rw [if_pos hle] at hsum
        obtain ⟨k1, k2⟩ := key _ _ hsum
        rw [k1, k2]
        simp only [sv, sgn3]
        constructor
        · simp; split <;> split <;> (try split) <;> omega
        · rw [Bool.eq_iff_iff]; simp; omega
      · rw [if_neg hle] at hsum
        obtain ⟨k1, k2⟩ := key _ _ hsum
        rw [k1, k2]
        simp only [sv, sgn3]
        constructor
        · simp; split <;> split <;> (try split) <;> omega
        · rw [Bool.eq_iff_iff]; simp; omega
end Go.Proofs.YtknnjibmacmniaaGreatDoor

/- abacus: work, dyadOf. -/
namespace Go.Proofs.YtknnjibmacmniaaGreatDoor
open Go.RowKit
set_option linter.unusedVariables false
attribute [local go_sem ↓] Go.wp_at_zero Go.wp_at_succ

/-- what workUnbounded does of two numbers -/
def UwOf (k : Int) (a b : Q) (er : Int) (q : Q) : Prop := ∀ (v u : Value) (w : World), RepF w v a → RepF w u b → Gl w →
  Calls Tryz.prog 52 #[.int .i64 k, v, u] w fun e w' => ∃ v' er', e = .returned (.tuple #[v', .int .i64 er']) ∧ er' = er ∧ (er' = 0 → RepF w' v' q) ∧ Shp v' ∧ Below w.heap.size w w'
/-- what work does of two numbers -/
def WkOf (k : Int) (a b : Q) (er : Int) (q : Q) : Prop := ∀ (v u : Value) (w : World), RepF w v a → RepF w u b → Gl w →
  Calls Tryz.prog 23 #[.int .i64 k, v, u] w fun e w' => ∃ v' er', e = .returned (.tuple #[v', .int .i64 er']) ∧ er' = er ∧ (er' = 0 → RepF w' v' q) ∧ Shp v' ∧ Below w.heap.size w w'

set_option maxRecDepth 100000 in
set_option maxHeartbeats 1600000 in
theorem a_work_err {k : Int} {a b : Q} {er : Int} {q : Q} (hU : UwOf k a b er q) (he : ¬ er = 0) : WkOf k a b (dyE er q) q := by
  intro v u w ha hb hG
  have ha' := ha
  have hb' := hb
  obtain ⟨sx, a1, l1, c1, a2, l2, c2, HSX, rfl, h1, h2⟩ := ha.opens
  obtain ⟨sy, a3, l3, c3, a4, l4, c4, HSY, rfl, h3, h4⟩ := hb.opens
  have hT := Three.new w (.bool sx) (.slice a1 l1 c1) (.slice a2 l2 c2) (.bool sy) (.slice a3 l3 c3) (.slice a4 l4 c4) 58 58 58
  have hW : ∀ o o' o'', Below w.heap.size w (((w.alloc o).alloc o').alloc o'') := fun o o' o'' => (((Below.refl _ _).alloc (Nat.le_refl _) o).alloc (by simp) o').alloc (by simp; omega) o''
  obtain ⟨p0, p1, p2⟩ := hT.a.cells
  obtain ⟨p3, p4, p5⟩ := hT.b.cells
  have hGw : ∀ o o' o'', Gl (((w.alloc o).alloc o').alloc o'') := fun o o' o'' => hG.later (hW o o' o'')
  have HU : Hid (UwOf k a b er q) := hU
  clear ha hb hU
  go_enter Tryz.func23, Tryz.ntmps23
  go_wp2_with fail
  refine (HU.out _ _ _ (ha'.below (Nat.le_refl _) (hW _ _ _)) (hb'.below (Nat.le_refl _) (hW _ _ _)) (hGw _ _ _)).mono ?_
  rintro e w5 ⟨v5, er', rfl, rfl, hv5, hsh, hb5⟩
  obtain ⟨s5, y1, i1, j1, y2, i2, j2, rfl⟩ := hsh
  have hT5 := hT.later hb5
  have hbw5 := Below.next (hW _ _ _) hb5 (by simp; omega)
  have hbA : Below w5.heap.size w5 (w5.alloc (.cells #[.bool s5, .slice y1 i1 j1, .slice y2 i2 j2] 58)) := (Below.refl _ _).alloc (Nat.le_refl _) _
  have hB6 := Box.new w5 (.bool s5) (.slice y1 i1 j1) (.slice y2 i2 j2) 58
  have hT6 := hT5.later hbA
  have hbw6 := Below.next hbw5 hbA hbw5.size
  have hR6 := hT6.r
  clear p0 p1 p2 p3 p4 p5 hb5 hT5 hbw5 hT HU
  have HE : Hid (dyE er' q = er') := by unfold Hid dyE; rw [if_neg he]
  have he1 : (er' == 0) = false := by simpa using he
  clear hv5 hbA
  obtain ⟨f0, f1, f2, _, _⟩ := id hR6
  obtain ⟨x0, x1, x2, e0, e1, e2⟩ := hR6.cells
  obtain ⟨q0, q1, q2⟩ := put3_cells hR6 (.bool false) (.slice none 0 0) (.slice none 0 0)
  have hbe := put3_below (g := w.heap.size + 1 + 1) hbw6 (by omega) (.bool false) (.slice none 0 0) (.slice none 0 0)
  unfold put3 at q0 q1 q2 hbe
  go_wp2
  refine bodyPost_ret (v := .tuple #[.agg #[.bool false, .slice none 0 0, .slice none 0 0], .int .i64 er']) (by simp [results, Tryz.results23, go_sem, q0, q1, q2]) rfl ⟨_, _, rfl, HE.out.symm, fun h => absurd h he, ⟨_, _, _, _, _, _, _, rfl⟩, hbe⟩

set_option maxRecDepth 100000 in
set_option maxHeartbeats 1600000 in
theorem a_work_ok {k : Int} {a b : Q} {q : Q} (hU : UwOf k a b 0 q) (hn : 0 ≤ q.n) (hd : 0 ≤ q.d) (bn : q.n < lim) (bd : q.d < lim) : WkOf k a b (dyE 0 q) q := by
  have hU0 := hU
  intro v u w ha hb hG
  have ha' := ha
  have hb' := hb
  obtain ⟨sx, a1, l1, c1, a2, l2, c2, HSX, rfl, h1, h2⟩ := ha.opens
  obtain ⟨sy, a3, l3, c3, a4, l4, c4, HSY, rfl, h3, h4⟩ := hb.opens
  have hT := Three.new w (.bool sx) (.slice a1 l1 c1) (.slice a2 l2 c2) (.bool sy) (.slice a3 l3 c3) (.slice a4 l4 c4) 58 58 58
  have hW : ∀ o o' o'', Below w.heap.size w (((w.alloc o).alloc o').alloc o'') := fun o o' o'' => (((Below.refl _ _).alloc (Nat.le_refl _) o).alloc (by simp) o').alloc (by simp; omega) o''
  obtain ⟨p0, p1, p2⟩ := hT.a.cells
  obtain ⟨p3, p4, p5⟩ := hT.b.cells
  have hGw : ∀ o o' o'', Gl (((w.alloc o).alloc o').alloc o'') := fun o o' o'' => hG.later (hW o o' o'')
  have HU : Hid (UwOf k a b 0 q) := hU
  clear ha hb hU hU0
  go_enter Tryz.func23, Tryz.ntmps23
  go_wp2_with fail
  refine (HU.out _ _ _ (ha'.below (Nat.le_refl _) (hW _ _ _)) (hb'.below (Nat.le_refl _) (hW _ _ _)) (hGw _ _ _)).mono ?_
  rintro e w5 ⟨v5, er', rfl, her, hv5, hsh, hb5⟩
  subst her
  obtain ⟨s5, y1, i1, j1, y2, i2, j2, rfl⟩ := hsh
  have hT5 := hT.later hb5
  have hbw5 := Below.next (hW _ _ _) hb5 (by simp; omega)
  have hbA : Below w5.heap.size w5 (w5.alloc (.cells #[.bool s5, .slice y1 i1 j1, .slice y2 i2 j2] 58)) := (Below.refl _ _).alloc (Nat.le_refl _) _
  have hB6 := Box.new w5 (.bool s5) (.slice y1 i1 j1) (.slice y2 i2 j2) 58
  have hT6 := hT5.later hbA
  have hbw6 := Below.next hbw5 hbA hbw5.size
  have hR6 := hT6.r
  clear p0 p1 p2 p3 p4 p5 hb5 hT5 hbw5 hT HU
  have hq5 := hv5 rfl
  obtain ⟨N5, D5, e5, r8, r9⟩ := hq5
  simp only [Value.agg.injEq, Array.mk.injEq, List.cons.injEq, Value.bool.injEq, and_true] at e5
  obtain ⟨e5, rfl, rfl⟩ := e5
  have HE5 : Hid (s5 = q.neg) := e5
  have r8 := r8.below (Nat.le_refl _) hbA
  have r9 := r9.below (Nat.le_refl _) hbA
  clear e5 hv5 hbA
  have hbig := big_digits hn hd
  obtain ⟨x, HX⟩ : ∃ x, Hid (max ((txt q.n).length : Int) ((txt q.d).length : Int) = x) := ⟨_, rfl⟩
  rw [HX.out] at hbig
  have HG : Hid (decide (x > 60) = bigQ q) := hbig
  clear hbig
  have hG6 := hG.later hbw6
  obtain ⟨t0, t1, t2⟩ := hB6.cells
  go_wp2_with fail
  refine (f_digits_any _ q _ ⟨_, _, by rw [← HE5.out], r8, r9⟩ bn bd hG6).mono ?_
  rw [HX.out]
  rintro e w8 ⟨rfl, hb8⟩
  have hR8 := hR6.later hR6.lt hb8
  have hB8 := hB6.below hB6.lt hb8
  have hbw8 := Below.next hbw6 hb8 hbw6.size
  have r8 := r8.below (Nat.le_refl _) hb8
  have r9 := r9.below (Nat.le_refl _) hb8
  clear t0 t1 t2 hb8
  obtain ⟨t0, t1, t2⟩ := hB8.cells
  by_cases hx60 : x > 60
  · have HE : Hid (dyE 0 q = 10) := by unfold Hid dyE; rw [if_pos rfl, ← HG.out, decide_eq_true hx60]; rfl
    obtain ⟨f0, f1, f2, _, _⟩ := id hR8
    obtain ⟨x0, x1, x2, e0, e1, e2⟩ := hR8.cells
    obtain ⟨q0, q1, q2⟩ := put3_cells hR8 (.bool false) (.slice none 0 0) (.slice none 0 0)
    have hbe := put3_below (g := w.heap.size + 1 + 1) hbw8 (by omega) (.bool false) (.slice none 0 0) (.slice none 0 0)
    unfold put3 at q0 q1 q2 hbe
    go_wp2
    refine bodyPost_ret (v := .tuple #[.agg #[.bool false, .slice none 0 0, .slice none 0 0], .int .i64 10]) (by simp [results, Tryz.results23, go_sem, q0, q1, q2]) rfl ⟨_, 10, rfl, HE.out.symm, fun h => by simp at h, ⟨_, _, _, _, _, _, _, rfl⟩, hbe⟩
  · have HE : Hid (dyE 0 q = 0) := by unfold Hid dyE; rw [if_pos rfl, ← HG.out, decide_eq_false hx60]; rfl
    obtain ⟨f0, f1, f2, _, _⟩ := id hR8
    obtain ⟨x0, x1, x2, e0, e1, e2⟩ := hR8.cells
    obtain ⟨q0, q1, q2⟩ := put3_cells hR8 (.bool s5) (.slice y1 i1 j1) (.slice y2 i2 j2)
    have hbe := put3_below (g := w.heap.size + 1 + 1) hbw8 (by omega) (.bool s5) (.slice y1 i1 j1) (.slice y2 i2 j2)
    have rN' := put3_rep hR8 r8 (.bool s5) (.slice y1 i1 j1) (.slice y2 i2 j2) (by simp) (by simp)
    have rD' := put3_rep hR8 r9 (.bool s5) (.slice y1 i1 j1) (.slice y2 i2 j2) (by simp) (by simp)
    unfold put3 at q0 q1 q2 hbe rN' rD'
    go_wp2
    refine bodyPost_ret (v := .tuple #[.agg #[.bool s5, .slice y1 i1 j1, .slice y2 i2 j2], .int .i64 0]) (by simp [results, Tryz.results23, go_sem, q0, q1, q2]) rfl ⟨_, 0, rfl, HE.out.symm, fun _ => ⟨_, _, by rw [HE5.out], rN', rD'⟩, ⟨_, _, _, _, _, _, _, rfl⟩, hbe⟩

set_option maxHeartbeats 400000 in
theorem a_of_0 (w : World) : Calls Tryz.prog 22 #[.string ⟨(([43] : List UInt8)).toArray⟩] w fun e w' => e = .returned (.tuple #[.int .i64 0, .bool true]) ∧ w' = w := by
  go_enter Tryz.func22, Tryz.ntmps22
  go_wp2
  exact bodyPost_ret (v := .tuple #[.int .i64 0, .bool true]) (by simp [results, Tryz.results22, go_sem]) rfl ⟨rfl, rfl⟩
set_option maxHeartbeats 400000 in
theorem a_of_1 (w : World) : Calls Tryz.prog 22 #[.string ⟨(([45] : List UInt8)).toArray⟩] w fun e w' => e = .returned (.tuple #[.int .i64 1, .bool true]) ∧ w' = w := by
  go_enter Tryz.func22, Tryz.ntmps22
  go_wp2
  exact bodyPost_ret (v := .tuple #[.int .i64 1, .bool true]) (by simp [results, Tryz.results22, go_sem]) rfl ⟨rfl, rfl⟩
set_option maxHeartbeats 400000 in
theorem a_of_2 (w : World) : Calls Tryz.prog 22 #[.string ⟨(([42] : List UInt8)).toArray⟩] w fun e w' => e = .returned (.tuple #[.int .i64 2, .bool true]) ∧ w' = w := by
  go_enter Tryz.func22, Tryz.ntmps22
  go_wp2
  exact bodyPost_ret (v := .tuple #[.int .i64 2, .bool true]) (by simp [results, Tryz.results22, go_sem]) rfl ⟨rfl, rfl⟩
set_option maxHeartbeats 400000 in
theorem a_of_3 (w : World) : Calls Tryz.prog 22 #[.string ⟨(([37] : List UInt8)).toArray⟩] w fun e w' => e = .returned (.tuple #[.int .i64 3, .bool true]) ∧ w' = w := by
  go_enter Tryz.func22, Tryz.ntmps22
  go_wp2
  exact bodyPost_ret (v := .tuple #[.int .i64 3, .bool true]) (by simp [results, Tryz.results22, go_sem]) rfl ⟨rfl, rfl⟩
set_option maxHeartbeats 400000 in
theorem a_of_4 (w : World) : Calls Tryz.prog 22 #[.string ⟨(([124] : List UInt8)).toArray⟩] w fun e w' => e = .returned (.tuple #[.int .i64 4, .bool true]) ∧ w' = w := by
  go_enter Tryz.func22, Tryz.ntmps22
  go_wp2
  exact bodyPost_ret (v := .tuple #[.int .i64 4, .bool true]) (by simp [results, Tryz.results22, go_sem]) rfl ⟨rfl, rfl⟩
set_option maxHeartbeats 400000 in
theorem a_of_5 (w : World) : Calls Tryz.prog 22 #[.string ⟨(([94] : List UInt8)).toArray⟩] w fun e w' => e = .returned (.tuple #[.int .i64 5, .bool true]) ∧ w' = w := by
  go_enter Tryz.func22, Tryz.ntmps22
  go_wp2
  exact bodyPost_ret (v := .tuple #[.int .i64 5, .bool true]) (by simp [results, Tryz.results22, go_sem]) rfl ⟨rfl, rfl⟩
set_option maxHeartbeats 400000 in
theorem a_of_6 (w : World) : Calls Tryz.prog 22 #[.string ⟨(([60] : List UInt8)).toArray⟩] w fun e w' => e = .returned (.tuple #[.int .i64 6, .bool true]) ∧ w' = w := by
  go_enter Tryz.func22, Tryz.ntmps22
  go_wp2
  exact bodyPost_ret (v := .tuple #[.int .i64 6, .bool true]) (by simp [results, Tryz.results22, go_sem]) rfl ⟨rfl, rfl⟩
set_option maxHeartbeats 400000 in
theorem a_of_7 (w : World) : Calls Tryz.prog 22 #[.string ⟨(([62] : List UInt8)).toArray⟩] w fun e w' => e = .returned (.tuple #[.int .i64 7, .bool true]) ∧ w' = w := by
  go_enter Tryz.func22, Tryz.ntmps22
  go_wp2
  exact bodyPost_ret (v := .tuple #[.int .i64 7, .bool true]) (by simp [results, Tryz.results22, go_sem]) rfl ⟨rfl, rfl⟩
set_option maxHeartbeats 400000 in
theorem a_of_8 (w : World) : Calls Tryz.prog 22 #[.string ⟨(([61] : List UInt8)).toArray⟩] w fun e w' => e = .returned (.tuple #[.int .i64 8, .bool true]) ∧ w' = w := by
  go_enter Tryz.func22, Tryz.ntmps22
  go_wp2
  exact bodyPost_ret (v := .tuple #[.int .i64 8, .bool true]) (by simp [results, Tryz.results22, go_sem]) rfl ⟨rfl, rfl⟩
set_option maxHeartbeats 400000 in
theorem a_of_9 (w : World) : Calls Tryz.prog 22 #[.string ⟨(([109, 105, 110] : List UInt8)).toArray⟩] w fun e w' => e = .returned (.tuple #[.int .i64 9, .bool true]) ∧ w' = w := by
  go_enter Tryz.func22, Tryz.ntmps22
  go_wp2
  exact bodyPost_ret (v := .tuple #[.int .i64 9, .bool true]) (by simp [results, Tryz.results22, go_sem]) rfl ⟨rfl, rfl⟩
set_option maxHeartbeats 400000 in
theorem a_of_10 (w : World) : Calls Tryz.prog 22 #[.string ⟨(([109, 97, 120] : List UInt8)).toArray⟩] w fun e w' => e = .returned (.tuple #[.int .i64 10, .bool true]) ∧ w' = w := by
  go_enter Tryz.func22, Tryz.ntmps22
  go_wp2
  exact bodyPost_ret (v := .tuple #[.int .i64 10, .bool true]) (by simp [results, Tryz.results22, go_sem]) rfl ⟨rfl, rfl⟩
set_option maxHeartbeats 400000 in
theorem a_of_none (op : List UInt8) (w : World) (h : op ∉ sgL) : Calls Tryz.prog 22 #[.string ⟨op.toArray⟩] w fun e w' => e = .returned (.tuple #[.int .i64 0, .bool false]) ∧ w' = w := by
  simp only [sgL, List.mem_cons, List.not_mem_nil, or_false, not_or] at h
  obtain ⟨h0, h1, h2, h3, h4, h5, h6, h7, h8, h9, h10⟩ := h
  have g0 : (op == [43]) = false := by simpa using h0
  have g1 : (op == [45]) = false := by simpa using h1
  have g2 : (op == [42]) = false := by simpa using h2
  have g3 : (op == [37]) = false := by simpa using h3
  have g4 : (op == [124]) = false := by simpa using h4
  have g5 : (op == [94]) = false := by simpa using h5
  have g6 : (op == [60]) = false := by simpa using h6
  have g7 : (op == [62]) = false := by simpa using h7
  have g8 : (op == [61]) = false := by simpa using h8
  have g9 : (op == [109, 105, 110]) = false := by simpa using h9
  have g10 : (op == [109, 97, 120]) = false := by simpa using h10
  clear h0 h1 h2 h3 h4 h5 h6 h7 h8 h9 h10
  go_enter Tryz.func22, Tryz.ntmps22
  go_wp2
  exact bodyPost_ret (v := .tuple #[.int .i64 0, .bool false]) (by simp [results, Tryz.results22, go_sem]) rfl ⟨rfl, rfl⟩
end Go.Proofs.YtknnjibmacmniaaGreatDoor

/- abacus: what a dyad makes. -/
namespace Go.Proofs.YtknnjibmacmniaaGreatDoor
open Go.RowKit
set_option linter.unusedVariables false

/-- a number that Digits can take -/
structure Q.Fit (q : Q) : Prop where
  n0 : 0 ≤ q.n
  d0 : 0 ≤ q.d
  n1 : q.n < lim
  d1 : q.d < lim
theorem mk_fit {s : Bool} {n d : Int} (hn : 0 ≤ n) (hd : 0 < d) (bn : n < lim) (bd : d < lim) : (mk s n d).Fit := by
  obtain ⟨h1, h2, h3, h4⟩ := mk_le (neg := s) hn hd
  exact ⟨h1, by omega, by omega, by omega⟩
theorem sum_fit {a b : Q} (oa : a.Ok) (ob : b.Ok) : (sumQ a b).Fit := by
  have m1 := mul_cp oa.n0 oa.n1 (Int.le_of_lt ob.d0) ob.d1
  have m2 := mul_cp ob.n0 ob.n1 (Int.le_of_lt oa.d0) oa.d1
  have m3 := mul_cp (Int.le_of_lt oa.d0) oa.d1 (Int.le_of_lt ob.d0) ob.d1
  have m4 : 0 < a.d * b.d := Int.mul_pos oa.d0 ob.d0
  unfold sumQ
  split
  · exact mk_fit (by omega) m4 (by omega) (by omega)
  · split
    · exact mk_fit (by omega) m4 (by omega) (by omega)
    · exact mk_fit (by omega) m4 (by omega) (by omega)
theorem mul_fit {a b : Q} (oa : a.Ok) (ob : b.Ok) : (mulQ a b).Fit := by
  have m1 := mul_cp oa.n0 oa.n1 ob.n0 ob.n1
  have m3 := mul_cp (Int.le_of_lt oa.d0) oa.d1 (Int.le_of_lt ob.d0) ob.d1
  exact mk_fit m1.2 (Int.mul_pos oa.d0 ob.d0) (by omega) (by omega)
theorem Q.Sm.fit {q : Q} (h : q.Sm) : q.Fit := ⟨h.n0, Int.le_of_lt h.d0, lt_lim_of_cp h.ok.n1, lt_lim_of_cp h.ok.d1⟩
theorem small_fit {q : Q} (hn : 0 ≤ q.n) (hd : 0 ≤ q.d) (h : bigQ q = false) : q.Fit := by
  unfold bigQ at h
  simp only [Bool.or_eq_false_iff, decide_eq_false_iff_not] at h
  have := p60_cp
  have := cp_lim
  have : (0 : Int) < 10 ^ 60 := by decide
  generalize (10 : Int) ^ 60 = K at *
  exact ⟨hn, hd, by omega, by omega⟩
theorem truth_fit (s : Bool) : (truthQ s).Fit := by
  have h := lt_lim_of_cp one_lt_cp
  unfold truthQ smallQ
  cases s
  · exact ⟨by simp, by simp, by simp; omega, by simpa using h⟩
  · exact ⟨by simp, by simp, by simpa using h, by simpa using h⟩
theorem wk {k : Int} {a b q : Q} (hU : UwOf k a b 0 q) (h : q.Fit) : WkOf k a b (dyE 0 q) q := a_work_ok hU h.n0 h.d0 h.n1 h.d1
theorem wk_pow {a b x : Q} {n : Nat} (hU : UwOf 5 a b (powNE x n) (powN x n)) (hc : x.Can) (sx : x.Sm) : WkOf 5 a b (dyE (powErr x n) (powQ x n)) (powQ x n) := by
  have e1 := powN_eq hc sx.n0 sx.d0 n
  have e2 := powNB_eq hc sx.n0 sx.d0 n
  have e3 : powNE x n = powErr x n := by unfold powNE powErr; rw [e2]
  rw [e1, e3] at hU
  have hn0 : 0 ≤ (powQ x n).n ∧ 0 ≤ (powQ x n).d := by
    rw [← e1]
    exact ⟨Int.pow_nonneg sx.n0, Int.pow_nonneg (Int.le_of_lt sx.d0)⟩
  by_cases h : powErr x n = 0
  · rw [h] at hU ⊢
    refine wk hU (small_fit hn0.1 hn0.2 ?_)
    have hB : powB x n = false := by
      unfold powErr at h
      cases hb : powB x n
      · rfl
      · rw [hb] at h; simp at h
    cases n with
    | zero => simp [powQ, smallQ, bigQ]
    | succ n => simp only [powB, Bool.or_eq_false_iff] at hB; exact hB.2
  · exact a_work_err hU h

theorem sgn3_neg (x y : Int) : decide (sgn3 x y < 0) = decide (x < y) := by
  unfold sgn3; rw [Bool.eq_iff_iff]; simp; split <;> (try split) <;> omega
theorem sgn3_pos (x y : Int) : decide (0 < sgn3 x y) = decide (y < x) := by
  unfold sgn3; rw [Bool.eq_iff_iff]; simp; split <;> (try split) <;> omega
theorem sgn3_zero (x y : Int) : (sgn3 x y == 0) = (!decide (x < y) && !decide (y < x)) := by
  unfold sgn3; rw [Bool.eq_iff_iff]; simp; split <;> (try split) <;> omega
theorem sgn3_le (x y : Int) : decide (sgn3 x y ≤ 0) = !decide (y < x) := by
  unfold sgn3; rw [Bool.eq_iff_iff]; simp; split <;> (try split) <;> omega
theorem sgn3_ge (x y : Int) : decide (0 ≤ sgn3 x y) = !decide (x < y) := by
  unfold sgn3; rw [Bool.eq_iff_iff]; simp; split <;> (try split) <;> omega

theorem a_dyad_any (op : List UInt8) (ho : op ∈ sgL) (a b : Q) (sa : a.Sm) (sb : b.Sm) (ca : a.Can) (cb : b.Can) :
    ∃ k : Int, (∀ w, Calls Tryz.prog 22 #[.string ⟨op.toArray⟩] w fun e w' => e = .returned (.tuple #[.int .i64 k, .bool true]) ∧ w' = w) ∧ WkOf k a b (dyS op a b).1 (dyS op a b).2 := by
  have oa := sa.ok
  have ob := sb.ok
  obtain ⟨d1, d2⟩ := sub_sign sa.n0 sa.d0 sb.n0 sb.d0 ca.z cb.z
  obtain ⟨_, d3⟩ := sub_sign sb.n0 sb.d0 sa.n0 sa.d0 cb.z ca.z
  simp only [sgL, List.mem_cons, List.not_mem_nil, or_false] at ho
  rcases ho with rfl | rfl | rfl | rfl | rfl | rfl | rfl | rfl | rfl | rfl | rfl
  · exact ⟨0, a_of_0, wk (fun v u w ha hb _ => a_uw_plus v u a b w ha hb sa sb) (sum_fit oa ob)⟩
  · exact ⟨1, a_of_1, wk (fun v u w ha hb _ => a_uw_minus v u a b w ha hb sa sb) (sum_fit oa ob.negQ)⟩
  · exact ⟨2, a_of_2, wk (fun v u w ha hb _ => a_uw_times v u a b w ha hb sa sb) (mul_fit oa ob)⟩
  · refine ⟨3, a_of_3, ?_⟩
    by_cases hz : b.n = 0
    · have e : dyS [37] a b = (9, a) := by simp [dyS, hz]
      rw [e]
      exact a_work_err (er := 9) (fun v u w ha hb _ => a_uw_over0 v u a b w ha hb sa sb hz) (by omega)
    · have e : dyS [37] a b = (dyE 0 (mulQ a (invQ b)), mulQ a (invQ b)) := by simp [dyS, hz]
      rw [e]
      have onb : (invQ b).Ok := ⟨Int.le_of_lt ob.d0, ob.d1, by have := sb.n0; show 0 < b.n; omega, ob.n1⟩
      exact wk (fun v u w ha hb _ => a_uw_over v u a b w ha hb sa sb hz) (mul_fit oa onb)
  · refine ⟨4, a_of_4, ?_⟩
    by_cases hw : a.d = 1 ∧ b.d = 1
    · have e : dyS [124] a b = (dyE 0 (restQ a b), restQ a b) := by simp [dyS, hw]
      rw [e]
      by_cases hz : a.n = 0
      · have e2 : restQ a b = b := by unfold restQ; rw [if_pos hz]
        rw [e2]
        exact wk (fun v u w ha hb _ => a_uw_rest0 v u a b w ha hb sa sb hw.1 hw.2 hz) sb.fit
      · have hp : 0 < a.n := by have := sa.n0; omega
        refine wk (fun v u w ha hb _ => a_uw_rest v u a b w ha hb sa sb hw.1 hw.2 hp) ?_
        rw [← left_rest hp hw.1]
        have h1 := Int.emod_nonneg b.n hz
        have h2 := Int.emod_lt_of_pos b.n hp
        have h3 := sa.fit.n1
        have h4 := lt_lim_of_cp one_lt_cp
        unfold leftQ
        split
        · exact mk_fit (by omega) (by omega) (by omega) h4
        · exact mk_fit (by omega) (by omega) (by omega) h4
    · have e : dyS [124] a b = (8, a) := by simp [dyS, hw]
      rw [e]
      by_cases h1 : a.d = 1
      · exact a_work_err (er := 8) (fun v u w ha hb _ => a_uw_rest2 v u a b w ha hb sa sb h1 (fun h => hw ⟨h1, h⟩)) (by omega)
      · exact a_work_err (er := 8) (fun v u w ha hb _ => a_uw_rest1 v u a b w ha hb sa sb h1) (by omega)
  · refine ⟨5, a_of_5, ?_⟩
    by_cases hc : b.d = 1 ∧ b.n ≤ 99
    · have hcq : countQ b = b.n := by unfold countQ; rw [if_pos hc]
      have hcn : ¬ countQ b < 0 := by have := sb.n0; omega
      have hnn : b.n = (b.n.toNat : Nat) := by have := sb.n0; omega
      cases hneg : b.neg
      · have e : dyS [94] a b = (dyE (powErr a b.n.toNat) (powQ a b.n.toNat), powQ a b.n.toNat) := by
          have : dyS [94] a b = (dyE (powErr a (countQ b).toNat) (powQ a (countQ b).toNat), powQ a (countQ b).toNat) := by simp [dyS, hcn, hneg]
          rw [this, hcq]
        rw [e]
        exact wk_pow (fun v u w ha hb hG => a_uw_pow v u a b w ha hb sa sb _ hc.1 hnn (by omega) hneg hG) ca sa
      · have hb0 : ¬ b.n = 0 := fun h => by have := cb.z h; rw [hneg] at this; simp at this
        have hbp : 0 < b.n := by have := sb.n0; omega
        by_cases hz : a.n = 0
        · have e : dyS [94] a b = (9, a) := by simp [dyS, hcn, hneg, hz]
          rw [e]
          exact a_work_err (er := 9) (fun v u w ha hb _ => a_uw_powz v u a b w ha hb sa sb hc.1 hc.2 hbp hneg hz) (by omega)
        · have e : dyS [94] a b = (dyE (powErr (invQ a) b.n.toNat) (powQ (invQ a) b.n.toNat), powQ (invQ a) b.n.toNat) := by
            have : dyS [94] a b = (dyE (powErr (invQ a) (countQ b).toNat) (powQ (invQ a) (countQ b).toNat), powQ (invQ a) (countQ b).toNat) := by simp [dyS, hcn, hneg, hz]
            rw [this, hcq]
          rw [e]
          have sI : (invQ a).Sm := ⟨Int.le_of_lt sa.d0, sa.d1, by have := sa.n0; show 0 < a.n; omega, sa.n1⟩
          exact wk_pow (fun v u w ha hb hG => a_uw_pown v u a b w ha hb sa sb _ hc.1 hnn (by omega) (by omega) hneg hz hG) (inv_can ca sa.d0) sI
    · have hcq : countQ b = -1 := by unfold countQ; rw [if_neg hc]
      have e : dyS [94] a b = (8, a) := by simp [dyS, hcq]
      rw [e]
      by_cases h1 : b.d = 1
      · exact a_work_err (er := 8) (fun v u w ha hb _ => a_uw_powb v u a b w ha hb sa sb h1 (by omega)) (by omega)
      · exact a_work_err (er := 8) (fun v u w ha hb _ => a_uw_powf v u a b w ha hb sa sb h1) (by omega)
  · refine ⟨6, a_of_6, ?_⟩
    have e : dyS [60] a b = (dyE 0 (truthQ (lessQ a b)), truthQ (lessQ a b)) := by simp [dyS]
    rw [e, d2, ← sgn3_neg, ← d1]
    exact wk (fun v u w ha hb _ => a_uw_lt v u a b w ha hb sa sb _ rfl) (truth_fit _)
  · refine ⟨7, a_of_7, ?_⟩
    have e : dyS [62] a b = (dyE 0 (truthQ (lessQ b a)), truthQ (lessQ b a)) := by simp [dyS]
    rw [e, d3, ← sgn3_pos, ← d1]
    exact wk (fun v u w ha hb _ => a_uw_gt v u a b w ha hb sa sb _ rfl) (truth_fit _)
  · refine ⟨8, a_of_8, ?_⟩
    have e : dyS [61] a b = (dyE 0 (truthQ (eqQ a b)), truthQ (eqQ a b)) := by simp [dyS]
    rw [e, show eqQ a b = (!lessQ a b && !lessQ b a) from rfl, d2, d3, ← sgn3_zero, ← d1]
    exact wk (fun v u w ha hb _ => a_uw_eq v u a b w ha hb sa sb _ rfl) (truth_fit _)
  · refine ⟨9, a_of_9, ?_⟩
    have e : dyS [109, 105, 110] a b = (dyE 0 (pickQ (!lessQ b a) a b), pickQ (!lessQ b a) a b) := by
      unfold pickQ; cases h : lessQ b a <;> simp [dyS, h]
    rw [e, d3, ← sgn3_le, ← d1]
    refine wk (fun v u w ha hb _ => a_uw_min v u a b w ha hb sa sb _ rfl) ?_
    unfold pickQ; split
    · exact sa.fit
    · exact sb.fit
  · refine ⟨10, a_of_10, ?_⟩
    have e : dyS [109, 97, 120] a b = (dyE 0 (pickQ (!lessQ a b) a b), pickQ (!lessQ a b) a b) := by
      unfold pickQ; cases h : lessQ a b <;> simp [dyS, h]
    rw [e, d2, ← sgn3_ge, ← d1]
    refine wk (fun v u w ha hb _ => a_uw_max v u a b w ha hb sa sb _ rfl) ?_
    unfold pickQ; split
    · exact sa.fit
    · exact sb.fit

/-- a text that is a number is no longer than 122 bytes -/
theorem parse_len {s : List UInt8} {q : Q} (h : parseQ s = some q) : s.length ≤ 122 := by
  have key : ∀ (neg : Bool) (r : List UInt8), (if okND neg (cutN r) (cutD r) then some (mk neg (sval (cutN r)) (sval (cutD r))) else none) = some q → r.length ≤ 121 := by
    intro neg r h
    by_cases hok : okND neg (cutN r) (cutD r) = true
    · unfold okND at hok
      simp only [Bool.and_eq_true] at hok
      have l1 := (wrB_dig hok.1.1.1).2.2.1
      have l2 := (wrB_dig hok.1.1.2).2.2.1
      have e := List.takeWhile_append_dropWhile (p := fun b : UInt8 => b != 47) (l := r)
      have e2 : r.length = (cutN r).length + (r.dropWhile (fun b => b != 47)).length := by
        conv => lhs; rw [← e]
        rw [List.length_append]; rfl
      have e3 : (r.dropWhile (fun b => b != 47)).length ≤ (cutD r).length + 1 := by
        unfold cutD
        split <;> (rename_i h'; rw [h']; simp)
      omega
    · rw [if_neg hok] at h; cases h
  unfold parseQ at h
  simp only at h
  have h2 := key _ _ h
  split at h2
  · rw [List.length_tail] at h2; omega
  · omega
end Go.Proofs.YtknnjibmacmniaaGreatDoor

/- abacus: Calc. -/
namespace Go.Proofs.YtknnjibmacmniaaGreatDoor
open Go.RowKit
set_option linter.unusedVariables false
attribute [local go_sem ↓] Go.wp_at_zero Go.wp_at_succ

theorem calc_none {op a b : List UInt8} (h : parseQ a = none ∨ parseQ b = none) : calcS op a b = ([], 2) := by
  unfold calcS
  rcases h with h | h
  · rw [h]
  · rw [h]; cases parseQ a <;> rfl
theorem ret_none (fn : List UInt8 × Int) (h : fn = ([], 2)) : Ending.returned (.tuple #[.string ⟨#[]⟩, .int .i64 2]) = Ending.returned (.tuple #[.string ⟨fn.1.toArray⟩, .int .i64 fn.2]) := by rw [h]

set_option maxRecDepth 100000 in
set_option maxHeartbeats 800000 in
theorem a_calc_long (op a b : List UInt8) (w : World) (ha : a.length ≤ 140737488351232) (hb : b.length ≤ 140737488351232) (h : 122 < a.length ∨ 122 < b.length) :
    Calls Tryz.prog 9 #[.string ⟨op.toArray⟩, .string ⟨a.toArray⟩, .string ⟨b.toArray⟩] w fun e w' => e = .returned (.tuple #[.string ⟨(calcS op a b).1.toArray⟩, .int .i64 (calcS op a b).2]) ∧ Below w.heap.size w w' := by
  have HN : Hid (calcS op a b = ([], 2)) := by
    refine calc_none ?_
    rcases h with h | h
    · left
      cases hp : parseQ a with
      | none => rfl
      | some q => have := parse_len hp; omega
    · right
      cases hp : parseQ b with
      | none => rfl
      | some q => have := parse_len hp; omega
  by_cases h1 : 122 < a.length
  · go_enter Tryz.func9, Tryz.ntmps9
    go_wp2
    refine bodyPost_ret (v := .tuple #[.string ⟨#[]⟩, .int .i64 2]) (by simp [results, Tryz.results9, go_sem]) rfl ⟨ret_none _ HN.out, Below.refl _ _⟩
  · have h2 : 122 < b.length := by omega
    go_enter Tryz.func9, Tryz.ntmps9
    go_wp2
    refine bodyPost_ret (v := .tuple #[.string ⟨#[]⟩, .int .i64 2]) (by simp [results, Tryz.results9, go_sem]) rfl ⟨ret_none _ HN.out, Below.refl _ _⟩

set_option maxRecDepth 100000 in
set_option maxHeartbeats 3200000 in
theorem a_calc_short (op a b : List UInt8) (w : World) (ha : a.length ≤ 122) (hb : b.length ≤ 122) (hG : Gl w) :
    Calls Tryz.prog 9 #[.string ⟨op.toArray⟩, .string ⟨a.toArray⟩, .string ⟨b.toArray⟩] w fun e w' => e = .returned (.tuple #[.string ⟨(calcS op a b).1.toArray⟩, .int .i64 (calcS op a b).2]) ∧ Below w.heap.size w w' := by
  go_enter Tryz.func9, Tryz.ntmps9
  go_wp2_with fail
  refine (f_parse_any a _ ha hG).mono ?_
  rintro e w1 ⟨v1, x, rfl, hx, hv1, hsh1, hb1⟩
  obtain ⟨s1, a1, l1, c1, a2, l2, c2, rfl⟩ := hsh1
  have HX : Hid (x = (parseQ a).isSome) := hx
  have HV1 : Hid (∀ q, parseQ a = some q → RepF w1 (.agg #[.bool s1, .slice a1 l1 c1, .slice a2 l2 c2]) q) := hv1
  clear hx hv1
  have hbA : Below w1.heap.size w1 (w1.alloc (.cells #[.bool s1, .slice a1 l1 c1, .slice a2 l2 c2] 58)) := (Below.refl _ _).alloc (Nat.le_refl _) _
  have hB2 := Box.new w1 (.bool s1) (.slice a1 l1 c1) (.slice a2 l2 c2) 58
  have hbw2 := Below.next hb1 hbA hb1.size
  have hG2 := hG.later hbw2
  go_wp2_with fail
  refine (f_parse_any b _ hb hG2).mono ?_
  rintro e w3 ⟨v3, y, rfl, hy, hv3, hsh3, hb3⟩
  obtain ⟨s3, a3, l3, c3, a4, l4, c4, rfl⟩ := hsh3
  have HY : Hid (y = (parseQ b).isSome) := hy
  have HV3 : Hid (∀ q, parseQ b = some q → RepF w3 (.agg #[.bool s3, .slice a3 l3 c3, .slice a4 l4 c4]) q) := hv3
  clear hy hv3
  have hbB : Below w3.heap.size w3 (w3.alloc (.cells #[.bool s3, .slice a3 l3 c3, .slice a4 l4 c4] 58)) := (Below.refl _ _).alloc (Nat.le_refl _) _
  have hB4 := Box.new w3 (.bool s3) (.slice a3 l3 c3) (.slice a4 l4 c4) 58
  have hA4 := (hB2.below hB2.lt hb3).below (hB2.below hB2.lt hb3).lt hbB
  have hbw3 := Below.next hbw2 hb3 hbw2.size
  have hbw4 := Below.next hbw3 hbB hbw3.size
  have hG4 := hG.later hbw4
  cases hpa : parseQ a with
  | none =>
    have HN : Hid (calcS op a b = ([], 2)) := calc_none (Or.inl hpa)
    have hx0 : x = false := by rw [HX.out, hpa]; rfl
    subst hx0
    clear hpa HX HV1 HV3 HY
    go_wp2
    refine bodyPost_ret (v := .tuple #[.string ⟨#[]⟩, .int .i64 2]) (by simp [results, Tryz.results9, go_sem]) rfl ⟨ret_none _ HN.out, hbw4⟩
  | some p =>
    have hx0 : x = true := by rw [HX.out, hpa]; rfl
    subst hx0
    cases hpb : parseQ b with
    | none =>
      have HN : Hid (calcS op a b = ([], 2)) := calc_none (Or.inr hpb)
      have hy0 : y = false := by rw [HY.out, hpb]; rfl
      subst hy0
      clear hpa hpb HX HV1 HV3 HY
      go_wp2
      refine bodyPost_ret (v := .tuple #[.string ⟨#[]⟩, .int .i64 2]) (by simp [results, Tryz.results9, go_sem]) rfl ⟨ret_none _ HN.out, hbw4⟩
    | some q =>
      have hy0 : y = true := by rw [HY.out, hpb]; rfl
      subst hy0
      have sp := parseQ_sm hpa
      have sq := parseQ_sm hpb
      have cp' := parse_can hpa
      have cq := parse_can hpb
      have hrp := ((HV1.out p hpa).below (Nat.le_refl _) hbA).below (Nat.le_refl _) (Below.next hb3 hbB hb3.size)
      have hrq := (HV3.out q hpb).below (Nat.le_refl _) hbB
      have HC : Hid (calcS op a b = if op ∈ sgL then (if (dyS op p q).1 = 0 then (txtQ (dyS op p q).2, 0) else ([], (dyS op p q).1)) else ([], 8)) := by
        unfold Hid calcS; rw [hpa, hpb]
      clear hpa hpb HX HV1 HV3 HY hbA hbB hb3 hb1 hbw2 hbw3 hG2 hB2
      by_cases ho : op ∈ sgL
      · obtain ⟨k, hof, hwk⟩ := a_dyad_any op ho p q sp sq cp' cq
        have HOF : Hid (∀ w, Calls Tryz.prog 22 #[.string ⟨op.toArray⟩] w fun e w' => e = .returned (.tuple #[.int .i64 k, .bool true]) ∧ w' = w) := hof
        have HWK : Hid (WkOf k p q (dyS op p q).1 (dyS op p q).2) := hwk
        have HC2 : Hid (calcS op a b = if (dyS op p q).1 = 0 then (txtQ (dyS op p q).2, 0) else ([], (dyS op p q).1)) := by
          unfold Hid; rw [HC.out, if_pos ho]
        have HSM : Hid ((dyS op p q).1 = 0 → bigQ (dyS op p q).2 = false) := fun h => dyS_small h
        obtain ⟨D, HD⟩ : ∃ D, Hid (dyS op p q = D) := ⟨_, rfl⟩
        rw [HD.out] at HWK HC2 HSM
        obtain ⟨er, z⟩ := D
        simp only at HWK HC2 HSM
        clear hof hwk HC ho HD
        go_wp2_with fail
        refine (HOF.out _).mono ?_
        rintro e w' ⟨rfl, rfl⟩
        obtain ⟨t0, t1, t2⟩ := hA4.cells
        obtain ⟨t3, t4, t5⟩ := hB4.cells
        go_wp2_with fail
        refine (HWK.out _ _ _ hrp hrq hG4).mono ?_
        rintro e w5 ⟨v5, er', rfl, rfl, hv5, hsh5, hb5⟩
        obtain ⟨s5, y1, i1, j1, y2, i2, j2, rfl⟩ := hsh5
        have HV5 : Hid (er' = 0 → RepF w5 (.agg #[.bool s5, .slice y1 i1 j1, .slice y2 i2 j2]) z) := hv5
        have hbw5 := Below.next hbw4 hb5 hbw4.size
        have hbC : Below w5.heap.size w5 (w5.alloc (.cells #[.bool s5, .slice y1 i1 j1, .slice y2 i2 j2] 58)) := (Below.refl _ _).alloc (Nat.le_refl _) _
        have hB6 := Box.new w5 (.bool s5) (.slice y1 i1 j1) (.slice y2 i2 j2) 58
        have hbw6 := Below.next hbw5 hbC hbw5.size
        have hG6 := hG.later hbw6
        clear hv5 t0 t1 t2 t3 t4 t5 HOF HWK
        by_cases he : er' = 0
        · have hrz := (HV5.out he).below (Nat.le_refl _) hbC
          have hbz := HSM.out he
          have HC3 : Hid (calcS op a b = (txtQ z, 0)) := by unfold Hid; rw [HC2.out, if_pos he]
          have hfz : z.Fit := by
            obtain ⟨N5, D5, e5, r8, r9⟩ := HV5.out he
            exact small_fit (r8.nonneg (by omega)) (r9.nonneg (by omega)) hbz
          subst he
          clear HV5 HC2 HSM hbz hbC
          obtain ⟨t0, t1, t2⟩ := hB6.cells
          go_wp2_with fail
          refine (f_text_any _ z _ hrz hfz.n1 hfz.d1 hG6).mono ?_
          rintro e w7 ⟨rfl, hb7⟩
          have hbw7 := Below.next hbw6 hb7 hbw6.size
          go_wp2
          refine bodyPost_ret (v := .tuple #[.string ⟨(txtQ z).toArray⟩, .int .i64 0]) (by simp [results, Tryz.results9, go_sem]) rfl ⟨by rw [HC3.out], hbw7⟩
        · have HC3 : Hid (calcS op a b = ([], er')) := by unfold Hid; rw [HC2.out, if_neg he]
          have he1 : (er' == 0) = false := by simpa using he
          clear HV5 HC2 HSM hbC
          go_wp2
          refine bodyPost_ret (v := .tuple #[.string ⟨#[]⟩, .int .i64 er']) (by simp [results, Tryz.results9, go_sem]) rfl ⟨by rw [HC3.out], hbw6⟩
      · have HC2 : Hid (calcS op a b = ([], 8)) := by unfold Hid; rw [HC.out, if_neg ho]
        clear HC
        go_wp2_with fail
        refine (a_of_none op _ ho).mono ?_
        rintro e w' ⟨rfl, rfl⟩
        go_wp2
        refine bodyPost_ret (v := .tuple #[.string ⟨#[]⟩, .int .i64 8]) (by simp [results, Tryz.results9, go_sem]) rfl ⟨by rw [HC2.out], hbw4⟩

theorem a_calc_any (op a b : List UInt8) (w : World) (ha : a.length ≤ 140737488351232) (hb : b.length ≤ 140737488351232) (hG : Gl w) :
    Calls Tryz.prog 9 #[.string ⟨op.toArray⟩, .string ⟨a.toArray⟩, .string ⟨b.toArray⟩] w fun e w' => e = .returned (.tuple #[.string ⟨(calcS op a b).1.toArray⟩, .int .i64 (calcS op a b).2]) ∧ Below w.heap.size w w' := by
  by_cases h : 122 < a.length ∨ 122 < b.length
  · exact a_calc_long op a b w ha hb h
  · exact a_calc_short op a b w (by omega) (by omega) hG
end Go.Proofs.YtknnjibmacmniaaGreatDoor
