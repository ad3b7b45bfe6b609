/- The guess of a division of many words: plain mathematics. -/
import Derived.Test.YtknnjibmacmniaaGreatDoorC01
namespace Go.Proofs.YtknnjibmacmniaaGreatDoor
set_option linter.unusedVariables false

/-- the part and the divisor by their highest words -/
structure Gs (P D T a b p0 top se hi : Int) : Prop where
  hT : 0 < T
  hP : P = a + T * (p0 + 4294967296 * top)
  ha : 0 ≤ a ∧ a < T
  hD : D = b + T * (se + 4294967296 * hi)
  hb : 0 ≤ b ∧ b < T
  b0 : 0 ≤ p0 ∧ p0 < 4294967296
  bs : 0 ≤ se ∧ se < 4294967296
  bh : 2147483648 ≤ hi ∧ hi < 4294967296
  hPD : P < 4294967296 * D

theorem Gs.dpos {P D T a b p0 top se hi : Int} (h : Gs P D T a b p0 top se hi) : 0 < D := by
  obtain ⟨hT, hP, ha, hD, hb, b0, bs, bh, hPD⟩ := h
  have := Int.mul_pos hT (show 0 < se + 4294967296 * hi by omega)
  omega
/-- the first guess is not below -/
theorem Gs.start {P D T a b p0 top se hi : Int} (h : Gs P D T a b p0 top se hi) (h0 : 0 ≤ top) : P < (top / hi + 1) * D := by
  obtain ⟨hT, hP, ha, hD, hb, b0, bs, bh, hPD⟩ := h
  have h1 := Int.emod_add_mul_ediv top hi
  have h2 := Int.emod_lt_of_pos top (show 0 < hi by omega)
  have h3 := Int.ediv_nonneg h0 (show 0 ≤ hi by omega)
  generalize top / hi = g at *
  generalize top % hi = l at *
  have e1 : (g + 1) * D = (g + 1) * b + T * ((g + 1) * se) + T * (4294967296 * (hi * g + hi)) := by rw [hD]; grind
  have n1 := Int.mul_nonneg (show 0 ≤ g + 1 by omega) hb.1
  have n2 := Int.mul_nonneg (Int.le_of_lt hT) (Int.mul_nonneg (show 0 ≤ g + 1 by omega) bs.1)
  have n3 : T * (4294967296 * (top + 1)) ≤ T * (4294967296 * (hi * g + hi)) := Int.mul_le_mul_of_nonneg_left (by omega) (by omega)
  have n4 : T * (p0 + 4294967296 * top) ≤ T * (4294967296 * (top + 1) - 1) := Int.mul_le_mul_of_nonneg_left (by omega) (by omega)
  have e2 : T * (4294967296 * (top + 1) - 1) = T * (4294967296 * (top + 1)) - T := by grind
  omega
theorem Gs.dec1 {P D T a b p0 top se hi g : Int} (h : Gs P D T a b p0 top se hi) (hg : 4294967296 ≤ g) : P < g * D := by
  have hd := h.dpos
  have := Int.mul_le_mul_of_nonneg_right hg (Int.le_of_lt hd)
  have := h.hPD
  omega
theorem Gs.dec2 {P D T a b p0 top se hi g l : Int} (h : Gs P D T a b p0 top se hi) (hg : 0 ≤ g) (ht : g * hi + l = top) (hl : l * 4294967296 + p0 < g * se) : P < g * D := by
  obtain ⟨hT, hP, ha, hD, hb, b0, bs, bh, hPD⟩ := h
  have e1 : g * D = g * b + T * (g * se + 4294967296 * (g * hi)) := by rw [hD]; grind
  have n1 := Int.mul_nonneg hg hb.1
  have n2 : T * (p0 + 4294967296 * top + 1) ≤ T * (g * se + 4294967296 * (g * hi)) := Int.mul_le_mul_of_nonneg_left (by omega) (by omega)
  have e2 : T * (p0 + 4294967296 * top + 1) = T * (p0 + 4294967296 * top) + T := by grind
  omega
theorem Gs.stop1 {P D T a b p0 top se hi g l : Int} (h : Gs P D T a b p0 top se hi) (hg : 0 ≤ g) (hgB : g < 4294967296) (ht : g * hi + l = top) (hl : g * se ≤ l * 4294967296 + p0) : g * D < P + D := by
  obtain ⟨hT, hP, ha, hD, hb, b0, bs, bh, hPD⟩ := h
  have e1 : g * D = g * b + T * (g * se + 4294967296 * (g * hi)) := by rw [hD]; grind
  have n2 : T * (g * se + 4294967296 * (g * hi)) ≤ T * (p0 + 4294967296 * top) := Int.mul_le_mul_of_nonneg_left (by omega) (by omega)
  have n1 : g * b ≤ 4294967295 * T := Int.mul_le_mul (by omega) (by omega) hb.1 (by omega)
  have n3 : T * 4294967296 ≤ T * (se + 4294967296 * hi) := Int.mul_le_mul_of_nonneg_left (by omega) (by omega)
  omega
theorem Gs.top_le {P D T a b p0 p1 p2 se hi : Int} (h : Gs P D T a b p0 (p2 * 4294967296 + p1) se hi) (b1 : 0 ≤ p1) : p2 ≤ hi := by
  obtain ⟨hT, hP, ha, hD, hb, b0, bs, bh, hPD⟩ := h
  rcases Int.lt_or_le hi p2 with h1 | h1
  · have n1 : T * (4294967296 * (4294967296 * (hi + 1))) ≤ T * (p0 + 4294967296 * (p2 * 4294967296 + p1)) := Int.mul_le_mul_of_nonneg_left (by omega) (by omega)
    have n2 : T * (se + 4294967296 * hi) ≤ T * (4294967296 * (hi + 1) - 1) := Int.mul_le_mul_of_nonneg_left (by omega) (by omega)
    have e2 : T * (4294967296 * (hi + 1) - 1) = T * (4294967296 * (hi + 1)) - T := by grind
    have e3 : T * (4294967296 * (4294967296 * (hi + 1))) = 4294967296 * (T * (4294967296 * (hi + 1))) := by grind
    omega
  · exact h1
/-- a left of more than a word -/
theorem Gs.stop2 {P D T a b p0 top se hi g l : Int} (h : Gs P D T a b p0 top se hi) (hg : 0 ≤ g) (ht : g * hi + l = top) (htop : top ≤ hi * 4294967296 + 4294967295) (hl : 4294967296 ≤ l) : g < 4294967296 ∧ g * D < P + D := by
  have bh := h.bh
  have hgB : g < 4294967296 := by
    rcases Int.lt_or_le g 4294967296 with h1 | h1
    · exact h1
    · have := Int.mul_le_mul_of_nonneg_right h1 (show 0 ≤ hi by omega)
      omega
  refine ⟨hgB, h.stop1 hg hgB ht ?_⟩
  have n1 : g * se ≤ 4294967295 * 4294967295 := Int.mul_le_mul (by omega) (by have := h.bs; omega) h.bs.1 (by omega)
  have := h.b0
  omega
theorem Gs.first {hi top : Int} (bh : 2147483648 ≤ hi) (h0 : 0 ≤ top) (htop : top ≤ hi * 4294967296 + 4294967295) : top / hi ≤ 4294967297 := by
  have : top / hi < 4294967298 := Int.ediv_lt_of_lt_mul (by omega) (by omega)
  omega
end Go.Proofs.YtknnjibmacmniaaGreatDoor

/- The long division: plain mathematics. -/
namespace Go.Proofs.YtknnjibmacmniaaGreatDoor
set_option linter.unusedVariables false

theorem val_drop_zero {b : Int} {zs : List Int} (hb : 0 < b) (h : Dig b zs) (n : Nat) (hv : val b zs < b ^ n) : val b (zs.drop n) = 0 := by
  by_cases hn : n ≤ zs.length
  · have h1 := val_split b zs n hn
    have h2 := val_nonneg (by omega) (h.take n)
    have h3 := val_nonneg (by omega) (h.drop n)
    have hp := pow_pos hb n
    rcases Int.lt_or_le 0 (val b (zs.drop n)) with h4 | h4
    · have := Int.mul_le_mul_of_nonneg_left (show 1 ≤ val b (zs.drop n) by omega) (Int.le_of_lt hp)
      omega
    · omega
  · rw [List.drop_of_length_le (by omega)]; rfl
theorem val_lt_of_drop {b : Int} {zs : List Int} (hb : 0 < b) (h : Dig b zs) (n : Nat) (hn : n ≤ zs.length) (hv : val b (zs.drop n) = 0) : val b zs < b ^ n := by
  have h1 := val_split b zs n hn
  have h2 := val_lt hb (h.take n)
  rw [List.length_take, Nat.min_eq_left hn] at h2
  rw [h1, hv]; omega
theorem drop_congr {xs ys : List Int} (n : Nat) (hl : xs.length = ys.length) (h : ∀ j, n ≤ j → nth xs j = nth ys j) : xs.drop n = ys.drop n := by
  apply List.ext_getElem
  · simp [hl]
  · intro j h1 h2
    simp only [List.length_drop] at h1 h2
    rw [List.getElem_drop, List.getElem_drop, ← nth_eq xs _ (by omega), ← nth_eq ys _ (by omega)]
    exact h _ (by omega)

/-- the divisor, shifted: its highest word -/
theorem norm_div {ys ds : List Int} {s n : Nat} (dy : Dig 4294967296 ys) (hl : ys.length = n + 1) (dd : Dig 4294967296 ds) (hs : s ≤ 31) (h1 : 2147483648 ≤ nth ys n * 2 ^ s) (h2 : nth ys n * 2 ^ s < 4294967296)
    (hv : val 4294967296 ds = val 4294967296 ys * 2 ^ s) (hdl : ds.length = n + 2) : val 4294967296 (ds.take (n + 1)) = val 4294967296 ys * 2 ^ s ∧ 2147483648 ≤ nth ds n := by
  have hp := pow_pos (show (0 : Int) < 2 by omega) s
  have hB := pow_pos (show (0 : Int) < 4294967296 by omega) n
  have y1 := val_split 4294967296 ys n (by omega)
  have y2 := val_drop 4294967296 ys n
  rw [List.drop_of_length_le (show ys.length ≤ n + 1 by omega)] at y2
  simp only [val, Int.mul_zero, Int.add_zero] at y2
  have y3 := val_lt (by omega) (dy.take n)
  rw [List.length_take, Nat.min_eq_left (by omega)] at y3
  have y4 := val_nonneg (by omega) (dy.take n)
  rw [y2] at y1
  have hW : (4294967296 : Int) = 2 ^ (32 - s) * 2 ^ s := by
    rw [← Int.pow_add, show 32 - s + s = 32 by omega]; decide
  have htop : (nth ys n + 1) * 2 ^ s ≤ 4294967296 := by
    have : nth ys n < 2 ^ (32 - s) := by
      rcases Int.lt_or_le (nth ys n) (2 ^ (32 - s)) with h | h
      · exact h
      · have := Int.mul_le_mul_of_nonneg_right h (Int.le_of_lt hp)
        omega
    have := Int.mul_le_mul_of_nonneg_right (show nth ys n + 1 ≤ 2 ^ (32 - s) by omega) (Int.le_of_lt hp)
    omega
  have hlt : val 4294967296 ds < 4294967296 ^ (n + 1) := by
    rw [hv, y1, Int.pow_succ]
    have k1 : (val 4294967296 (ys.take n) + 4294967296 ^ n * nth ys n) * 2 ^ s < (4294967296 ^ n * (nth ys n + 1)) * 2 ^ s := by
      apply Int.mul_lt_mul_of_pos_right _ hp
      rw [Int.mul_add]; omega
    have k2 : (4294967296 ^ n * (nth ys n + 1)) * 2 ^ s ≤ 4294967296 ^ n * 4294967296 := by
      rw [Int.mul_assoc]; exact Int.mul_le_mul_of_nonneg_left htop (Int.le_of_lt hB)
    omega
  have hz := val_drop_zero (by omega) dd (n + 1) hlt
  have hd := val_split 4294967296 ds (n + 1) (by omega)
  rw [hz, Int.mul_zero, Int.add_zero] at hd
  refine ⟨by rw [← hd, hv], ?_⟩
  have d1 := val_take_succ 4294967296 ds n
  rw [← hd, hv, y1] at d1
  have d2 := val_lt (by omega) (dd.take n)
  rw [List.length_take, Nat.min_eq_left (by omega)] at d2
  rcases Int.lt_or_le (nth ds n) 2147483648 with h | h
  · have k1 : 4294967296 ^ n * nth ds n ≤ 4294967296 ^ n * (2147483648 - 1) := Int.mul_le_mul_of_nonneg_left (by omega) (Int.le_of_lt hB)
    have k2 : 4294967296 ^ n * 2147483648 ≤ 4294967296 ^ n * (nth ys n * 2 ^ s) := Int.mul_le_mul_of_nonneg_left h1 (Int.le_of_lt hB)
    have k3 : 0 ≤ val 4294967296 (ys.take n) * 2 ^ s := Int.mul_nonneg y4 (Int.le_of_lt hp)
    have k4 : (val 4294967296 (ys.take n) + 4294967296 ^ n * nth ys n) * 2 ^ s = val 4294967296 (ys.take n) * 2 ^ s + 4294967296 ^ n * (nth ys n * 2 ^ s) := by grind
    have k5 : (4294967296 : Int) ^ n * (2147483648 - 1) = 4294967296 ^ n * 2147483648 - 4294967296 ^ n := by grind
    omega
  · exact h

/-- the first rest is below the divisor, moved up by all the quotient's words -/
theorem rest_first {X Y D : Int} {n m K s : Nat} (hX : X < 4294967296 ^ n) (hX0 : 0 ≤ X) (hs : s ≤ 31) (hD : 4294967296 ^ (m - 1) * 2147483648 ≤ D) (hm : 1 ≤ m) (hK : K + m = n + 1) : X * 2 ^ s < D * 4294967296 ^ K := by
  have hp := pow_pos (show (0 : Int) < 2 by omega) s
  have hp3 : (2 : Int) ^ s ≤ 2147483648 := by
    have := pow_mono (show (0 : Int) < 2 by omega) hs
    have e : (2 : Int) ^ 31 = 2147483648 := by decide
    omega
  have k1 : X * 2 ^ s < 4294967296 ^ n * 2147483648 := by
    have a1 : X * 2 ^ s ≤ X * 2147483648 := Int.mul_le_mul_of_nonneg_left hp3 hX0
    omega
  have k2 : (4294967296 : Int) ^ n * 2147483648 = (4294967296 ^ (m - 1) * 2147483648) * 4294967296 ^ K := by
    rw [show n = (m - 1) + K by omega, Int.pow_add]; grind
  have k3 := Int.mul_le_mul_of_nonneg_right hD (Int.le_of_lt (pow_pos (show (0 : Int) < 4294967296 by omega) K))
  omega

/-- the part at i, by its highest words -/
theorem part_gs {rs ds : List Int} {i n : Nat} (dr : Dig 4294967296 rs) (dd : Dig 4294967296 ds) (hdl : ds.length = n + 2) (hrl : i + (n + 2) < rs.length) (htop : 2147483648 ≤ nth ds (n + 1)) (hv : val 4294967296 rs < val 4294967296 ds * 4294967296 ^ (i + 1)) :
    Gs (val 4294967296 (rs.drop i)) (val 4294967296 ds) (4294967296 ^ n) (val 4294967296 ((rs.drop i).take n)) (val 4294967296 (ds.take n)) (nth rs (i + n)) (nth rs (i + (n + 2)) * 4294967296 + nth rs (i + (n + 1))) (nth ds n) (nth ds (n + 1)) := by
  have hB : (0 : Int) < 4294967296 := by omega
  have hDlt : val 4294967296 ds < 4294967296 ^ (n + 2) := by have := val_lt hB dd; rwa [hdl] at this
  have hz : val 4294967296 (rs.drop (i + (n + 3))) = 0 := by
    apply val_drop_zero hB dr
    have := Int.mul_lt_mul_of_pos_right hDlt (pow_pos hB (i + 1))
    rw [← Int.pow_add, show n + 2 + (i + 1) = i + (n + 3) by omega] at this
    omega
  refine ⟨pow_pos hB n, ?_, ⟨val_nonneg (by omega) ((dr.drop i).take n), ?_⟩, ?_, ⟨val_nonneg (by omega) (dd.take n), ?_⟩, dr.nth hB _, dd.nth hB _, ⟨htop, (dd.nth hB _).2⟩, ?_⟩
  · have h1 := val_split 4294967296 (rs.drop i) n (by rw [List.length_drop]; omega)
    rw [List.drop_drop] at h1
    rw [h1, val_drop _ rs (i + n), val_drop _ rs (i + n + 1), val_drop _ rs (i + n + 1 + 1), show i + n + 1 + 1 + 1 = i + (n + 3) by omega, hz, show i + n + 1 + 1 = i + (n + 2) by omega, show i + n + 1 = i + (n + 1) by omega]
    grind
  · have := val_lt hB ((dr.drop i).take n)
    rwa [List.length_take, Nat.min_eq_left (by rw [List.length_drop]; omega)] at this
  · have h1 := val_split 4294967296 ds n (by omega)
    rw [h1, val_drop _ ds n, val_drop _ ds (n + 1), List.drop_of_length_le (show ds.length ≤ n + 1 + 1 by omega)]
    simp [val]
  · have := val_lt hB (dd.take n)
    rwa [List.length_take, Nat.min_eq_left (by omega)] at this
  · have h1 := val_split 4294967296 rs i (by omega)
    have h2 := val_nonneg (by omega) (dr.take i)
    have hp := pow_pos hB i
    rw [Int.pow_succ] at hv
    apply Int.lt_of_mul_lt_mul_left (a := 4294967296 ^ i) _ (Int.le_of_lt hp)
    have e : val 4294967296 ds * (4294967296 ^ i * 4294967296) = 4294967296 ^ i * (4294967296 * val 4294967296 ds) := by grind
    omega

/-- what is left when the right guess, or one too many, has been taken away -/
theorem left_zero {rs rs' : List Int} {i : Nat} {D q : Int} (dr : Dig 4294967296 rs) (dr' : Dig 4294967296 rs') (hi : i ≤ rs.length) (hg : val 4294967296 (rs.drop i) < (q + 1) * D)
    (hv : val 4294967296 rs' = val 4294967296 rs - q * (4294967296 ^ i * D)) : val 4294967296 rs' < D * 4294967296 ^ i := by
  have hB : (0 : Int) < 4294967296 := by omega
  have h1 := val_split 4294967296 rs i hi
  have h2 := val_lt hB (dr.take i)
  rw [List.length_take, Nat.min_eq_left hi] at h2
  have hp := pow_pos hB i
  have k1 : 4294967296 ^ i * (val 4294967296 (rs.drop i) + 1) ≤ 4294967296 ^ i * ((q + 1) * D) := Int.mul_le_mul_of_nonneg_left (by omega) (Int.le_of_lt hp)
  have e1 : (4294967296 : Int) ^ i * ((q + 1) * D) = q * (4294967296 ^ i * D) + D * 4294967296 ^ i := by grind
  have e2 : 4294967296 ^ i * (val 4294967296 (rs.drop i) + 1) = 4294967296 ^ i * val 4294967296 (rs.drop i) + 4294967296 ^ i := by grind
  omega
/-- too often: the part is below so many divisors -/
theorem left_one {rs rs' : List Int} {i m : Nat} {D q : Int} (dr : Dig 4294967296 rs) (dr' : Dig 4294967296 rs') (hl : rs'.length = rs.length) (hi : i + m < rs.length) (hD : D < 4294967296 ^ m) (hlt : val 4294967296 rs < D * 4294967296 ^ (i + 1))
    (hu : ∀ j, i + m < j → nth rs' j = nth rs j) (hv : val 4294967296 rs' = val 4294967296 rs - q * (4294967296 ^ i * D) + 1 * 4294967296 ^ (i + m + 1)) : val 4294967296 (rs.drop i) < q * D ∧ val 4294967296 rs' < 4294967296 ^ (i + m + 1) := by
  have hB : (0 : Int) < 4294967296 := by omega
  have hz : val 4294967296 (rs.drop (i + m + 1)) = 0 := by
    apply val_drop_zero hB dr
    have := Int.mul_lt_mul_of_pos_right hD (pow_pos hB (i + 1))
    rw [← Int.pow_add, show m + (i + 1) = i + m + 1 by omega] at this
    omega
  have hz' : val 4294967296 (rs'.drop (i + m + 1)) = 0 := by
    rw [drop_congr (i + m + 1) hl (fun j hj => hu j (by omega))]; exact hz
  have h3 := val_lt_of_drop hB dr' (i + m + 1) (by omega) hz'
  refine ⟨?_, h3⟩
  have h1 := val_split 4294967296 rs i (by omega)
  have h2 := val_nonneg (by omega) (dr.take i)
  have hp := pow_pos hB i
  apply Int.lt_of_mul_lt_mul_left (a := 4294967296 ^ i) _ (Int.le_of_lt hp)
  have e : (4294967296 : Int) ^ i * (q * D) = q * (4294967296 ^ i * D) := by grind
  omega
/-- put back once: the rest is right -/
theorem left_back {rs rs' rs'' : List Int} {i m : Nat} {D q t : Int} (dr : Dig 4294967296 rs) (dr' : Dig 4294967296 rs') (dr'' : Dig 4294967296 rs'') (hl : rs'.length = rs.length) (hl' : rs''.length = rs.length) (hi : i + m < rs.length)
    (hv' : val 4294967296 rs' < 4294967296 ^ (i + m + 1)) (hg : q * D < val 4294967296 (rs.drop i) + D) (ht : t = 0 ∨ t = 1)
    (hu : ∀ j, i + m < j → nth rs'' j = nth rs' j) (h1 : val 4294967296 rs' = val 4294967296 rs - q * (4294967296 ^ i * D) + 1 * 4294967296 ^ (i + m + 1)) (h2 : val 4294967296 rs'' = val 4294967296 rs' + 4294967296 ^ i * D - t * 4294967296 ^ (i + m + 1)) :
    val 4294967296 rs'' = val 4294967296 rs - (q - 1) * (4294967296 ^ i * D) := by
  have hB : (0 : Int) < 4294967296 := by omega
  have hz' := val_drop_zero hB dr' _ hv'
  have hz'' : val 4294967296 (rs''.drop (i + m + 1)) = 0 := by
    rw [drop_congr (i + m + 1) (hl'.trans hl.symm) (fun j hj => hu j (by omega))]; exact hz'
  have h3 := val_lt_of_drop hB dr'' (i + m + 1) (by omega) hz''
  have e : (q - 1) * (4294967296 ^ i * D) = q * (4294967296 ^ i * D) - 4294967296 ^ i * D := by grind
  rcases ht with rfl | rfl
  · exfalso
    have k1 := val_split 4294967296 rs i (by omega)
    have k2 := val_nonneg (by omega) (dr.take i)
    have hp := pow_pos hB i
    have k3 : 4294967296 ^ i * (q * D) ≤ 4294967296 ^ i * (val 4294967296 (rs.drop i) + D) := Int.mul_le_mul_of_nonneg_left (by omega) (Int.le_of_lt hp)
    have e2 : (4294967296 : Int) ^ i * (q * D) = q * (4294967296 ^ i * D) := by grind
    have e3 : 4294967296 ^ i * (val 4294967296 (rs.drop i) + D) = 4294967296 ^ i * val 4294967296 (rs.drop i) + 4294967296 ^ i * D := by grind
    omega
  · omega
/-- one word more of the quotient -/
theorem quot_step {qs : List Int} {i : Nat} {D q R R' R0 : Int} (hk : i < qs.length) (H : R0 = R + D * (4294967296 ^ (i + 1) * val 4294967296 (qs.drop (i + 1)))) (hv : R' = R - q * (4294967296 ^ i * D)) :
    R0 = R' + D * (4294967296 ^ i * val 4294967296 ((qs.set i q).drop i)) := by
  rw [val_drop _ (qs.set i q) i, nth_set _ _ _ _ hk, if_pos rfl, List.drop_set, if_pos (by omega)]
  rw [Int.pow_succ] at H
  grind
/-- the end: what the shifted numbers say of the numbers -/
theorem div_final {X Y D Q r c v p : Int} (hp : 0 < p) (hD : D = Y * p) (h : X * p = r + D * Q) (h0 : 0 ≤ r) (h1 : r < D) (hc : v * p + c = r) (c0 : 0 ≤ c) (c1 : c < p) : X / Y = Q ∧ X % Y = v := by
  have e1 : (X - Y * Q - v) * p = c := by rw [hD] at h; grind
  have e2 : X - Y * Q - v = 0 := by
    rcases Int.lt_trichotomy (X - Y * Q - v) 0 with h2 | h2 | h2
    · have := Int.mul_le_mul_of_nonneg_right (show X - Y * Q - v ≤ -1 by omega) (Int.le_of_lt hp)
      omega
    · exact h2
    · have := Int.mul_le_mul_of_nonneg_right (show 1 ≤ X - Y * Q - v by omega) (Int.le_of_lt hp)
      omega
  rw [e2, Int.zero_mul] at e1
  have v0 : 0 ≤ v := by
    rcases Int.lt_or_le v 0 with h2 | h2
    · have := Int.mul_le_mul_of_nonneg_right (show v ≤ -1 by omega) (Int.le_of_lt hp)
      omega
    · exact h2
  have v1 : v < Y := by
    apply Int.lt_of_mul_lt_mul_right (a := p) _ (Int.le_of_lt hp)
    omega
  have hX : X = Q * Y + v := by rw [Int.mul_comm Q Y]; omega
  subst hX
  constructor
  · rw [Int.add_comm, Int.add_mul_ediv_right _ _ (by omega), Int.ediv_eq_zero_of_lt v0 v1]; omega
  · rw [Int.add_comm, Int.add_mul_emod_self_right, Int.emod_eq_of_lt v0 v1]
end Go.Proofs.YtknnjibmacmniaaGreatDoor
