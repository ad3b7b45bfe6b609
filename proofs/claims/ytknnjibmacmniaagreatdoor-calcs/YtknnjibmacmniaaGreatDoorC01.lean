/- Rows of digits: plain mathematics, nothing of a program. -/

namespace Go.Proofs.YtknnjibmacmniaaGreatDoor

def nth (zs : List Int) (k : Nat) : Int := zs.getD k 0
theorem nth_cons_zero (x : Int) (xs : List Int) : nth (x :: xs) 0 = x := rfl
theorem nth_cons_succ (x : Int) (xs : List Int) (k : Nat) : nth (x :: xs) (k + 1) = nth xs k := rfl
theorem nth_nil (k : Nat) : nth [] k = 0 := rfl
theorem nth_ge (zs : List Int) (k : Nat) (h : zs.length ≤ k) : nth zs k = 0 := by
  unfold nth; rw [List.getD_eq_getElem?_getD, List.getElem?_eq_none h]; rfl
theorem nth_eq (zs : List Int) (k : Nat) (h : k < zs.length) : nth zs k = zs[k] := by
  unfold nth; rw [List.getD_eq_getElem?_getD, List.getElem?_eq_getElem h]; rfl

/-- the number that the digits zs make, the lowest first -/
def val (b : Int) : List Int → Int
  | [] => 0
  | x :: xs => x + b * val b xs

def Dig (b : Int) (zs : List Int) : Prop := ∀ x ∈ zs, 0 ≤ x ∧ x < b

theorem Dig.nth {b : Int} {zs : List Int} (h : Dig b zs) (hb : 0 < b) (k : Nat) : 0 ≤ nth zs k ∧ nth zs k < b := by
  by_cases hk : k < zs.length
  · rw [nth_eq zs k hk]; exact h _ (List.getElem_mem hk)
  · rw [nth_ge zs k (by omega)]; omega
theorem Dig.nil {b : Int} : Dig b [] := fun x h => by simp at h
theorem Dig.cons {b x : Int} {xs : List Int} (h0 : 0 ≤ x) (h1 : x < b) (h : Dig b xs) : Dig b (x :: xs) := by
  intro y hy
  rcases List.mem_cons.1 hy with rfl | hy
  · exact ⟨h0, h1⟩
  · exact h y hy
theorem Dig.tail {b x : Int} {xs : List Int} (h : Dig b (x :: xs)) : Dig b xs := fun y hy => h y (List.mem_cons_of_mem _ hy)
theorem Dig.head {b x : Int} {xs : List Int} (h : Dig b (x :: xs)) : 0 ≤ x ∧ x < b := h x (List.mem_cons_self)
theorem Dig.take {b : Int} {zs : List Int} (h : Dig b zs) (k : Nat) : Dig b (zs.take k) := fun y hy => h y (List.mem_of_mem_take hy)
theorem Dig.drop {b : Int} {zs : List Int} (h : Dig b zs) (k : Nat) : Dig b (zs.drop k) := fun y hy => h y (List.mem_of_mem_drop hy)
theorem Dig.append {b : Int} {xs ys : List Int} (h : Dig b xs) (k : Dig b ys) : Dig b (xs ++ ys) := by
  intro y hy
  rcases List.mem_append.1 hy with hy | hy
  · exact h y hy
  · exact k y hy
theorem Dig.snoc {b x : Int} {xs : List Int} (h : Dig b xs) (h0 : 0 ≤ x) (h1 : x < b) : Dig b (xs ++ [x]) := h.append (Dig.cons h0 h1 Dig.nil)
theorem Dig.set {b x : Int} {xs : List Int} (h : Dig b xs) (h0 : 0 ≤ x) (h1 : x < b) (k : Nat) : Dig b (xs.set k x) := by
  intro y hy
  rcases List.mem_or_eq_of_mem_set hy with hy | rfl
  · exact h y hy
  · exact ⟨h0, h1⟩
theorem Dig.replicate {b : Int} (hb : 0 < b) (n : Nat) : Dig b (List.replicate n 0) := by
  intro y hy
  rw [List.mem_replicate] at hy
  omega

theorem val_nonneg {b : Int} {zs : List Int} (hb : 0 ≤ b) (h : Dig b zs) : 0 ≤ val b zs := by
  induction zs with
  | nil => simp [val]
  | cons x xs ih => have h1 := h.head; have h2 := Int.mul_nonneg hb (ih h.tail); simp only [val]; omega

theorem pow_pos {b : Int} (hb : 0 < b) (n : Nat) : 0 < b ^ n := Int.pow_pos hb
theorem pow_one_le {b : Int} (hb : 0 < b) (n : Nat) : 1 ≤ b ^ n := by have := pow_pos hb n; omega

theorem val_lt {b : Int} {zs : List Int} (hb : 0 < b) (h : Dig b zs) : val b zs < b ^ zs.length := by
  induction zs with
  | nil => simp [val]
  | cons x xs ih =>
    have h1 := h.head
    have h2 := ih h.tail
    simp only [val, List.length_cons]
    rw [Int.pow_succ, Int.mul_comm]
    have h3 : val b xs * b ≤ (b ^ xs.length - 1) * b := Int.mul_le_mul_of_nonneg_right (by omega) (by omega)
    have h4 : (b ^ xs.length - 1) * b = b ^ xs.length * b - b := by rw [Int.sub_mul, Int.one_mul]
    omega

theorem val_append (b : Int) (xs ys : List Int) : val b (xs ++ ys) = val b xs + b ^ xs.length * val b ys := by
  induction xs with
  | nil => simp [val]
  | cons x xs ih => simp only [List.cons_append, val, List.length_cons, ih, Int.pow_succ]; grind
theorem val_snoc (b : Int) (xs : List Int) (x : Int) : val b (xs ++ [x]) = val b xs + b ^ xs.length * x := by
  rw [val_append]; simp [val]
theorem take_snoc_nth (zs : List Int) (k : Nat) (h : k < zs.length) : zs.take (k + 1) = zs.take k ++ [nth zs k] := by
  rw [List.take_succ_eq_append_getElem h, nth_eq zs k h]
theorem val_take_succ (b : Int) (zs : List Int) (k : Nat) : val b (zs.take (k + 1)) = val b (zs.take k) + b ^ k * nth zs k := by
  by_cases h : k < zs.length
  · rw [take_snoc_nth zs k h, val_snoc, List.length_take, Nat.min_eq_left (by omega)]
  · rw [List.take_of_length_le (by omega), List.take_of_length_le (by omega), nth_ge zs k (by omega)]; simp
theorem val_split (b : Int) (zs : List Int) (k : Nat) (h : k ≤ zs.length) : val b zs = val b (zs.take k) + b ^ k * val b (zs.drop k) := by
  have := val_append b (zs.take k) (zs.drop k)
  rw [List.take_append_drop, List.length_take, Nat.min_eq_left h] at this
  exact this
theorem drop_cons_nth (zs : List Int) (k : Nat) (h : k < zs.length) : zs.drop k = nth zs k :: zs.drop (k + 1) := by
  rw [nth_eq zs k h]; exact List.drop_eq_getElem_cons h
theorem val_drop (b : Int) (zs : List Int) (k : Nat) : val b (zs.drop k) = nth zs k + b * val b (zs.drop (k + 1)) := by
  by_cases h : k < zs.length
  · rw [drop_cons_nth zs k h]; rfl
  · rw [List.drop_of_length_le (by omega), List.drop_of_length_le (by omega), nth_ge zs k (by omega)]; simp [val]
theorem val_replicate (b : Int) (n : Nat) : val b (List.replicate n 0) = 0 := by
  induction n with
  | zero => rfl
  | succ n ih => rw [List.replicate_succ, val, ih]; simp
theorem nth_replicate (n k : Nat) : nth (List.replicate n 0) k = 0 := by
  by_cases h : k < n
  · rw [nth_eq _ _ (by simpa using h)]; simp
  · rw [nth_ge _ _ (by simpa using h)]
theorem nth_set (zs : List Int) (k j : Nat) (x : Int) (h : k < zs.length) : nth (zs.set k x) j = if j = k then x else nth zs j := by
  unfold nth
  simp only [List.getD_eq_getElem?_getD, List.getElem?_set]
  by_cases e : k = j
  · subst e; simp [h]
  · rw [if_neg e, if_neg (fun h => e h.symm)]
theorem val_set (b : Int) (zs : List Int) (k : Nat) (x : Int) (h : k < zs.length) : val b (zs.set k x) = val b zs + b ^ k * (x - nth zs k) := by
  induction zs generalizing k with
  | nil => simp at h
  | cons z zs ih =>
    cases k with
    | zero => simp [List.set, val, nth_cons_zero]; grind
    | succ k =>
      have := ih k (by simpa using h)
      simp only [List.set_cons_succ, val, nth_cons_succ, this, Int.pow_succ]
      grind
theorem nth_take (zs : List Int) (k j : Nat) (h : j < k) : nth (zs.take k) j = nth zs j := by
  unfold nth; simp [List.getD_eq_getElem?_getD, h]
theorem nth_append_left (xs ys : List Int) (j : Nat) (h : j < xs.length) : nth (xs ++ ys) j = nth xs j := by
  unfold nth; simp [List.getD_eq_getElem?_getD, List.getElem?_append_left h]
theorem nth_snoc (xs : List Int) (x : Int) : nth (xs ++ [x]) xs.length = x := by
  unfold nth; simp [List.getD_eq_getElem?_getD]
theorem nth_drop (zs : List Int) (k j : Nat) : nth (zs.drop k) j = nth zs (k + j) := by
  unfold nth; simp [List.getD_eq_getElem?_getD, List.getElem?_drop]

/-- the highest digit is not 0 -/
def Top (zs : List Int) : Prop := ∀ n, zs.length = n + 1 → nth zs n ≠ 0

theorem val_pos_of_top {b : Int} {zs : List Int} (hb : 0 < b) (h : Dig b zs) (t : Top zs) (n : Nat) (hn : zs.length = n + 1) : b ^ n ≤ val b zs := by
  have h1 := val_split b zs n (by omega)
  have h2 := val_drop b zs n
  rw [List.drop_of_length_le (show zs.length ≤ n + 1 by omega)] at h2
  simp only [val, Int.mul_zero, Int.add_zero] at h2
  have h3 := val_nonneg (by omega) (h.take n)
  have h4 := t n hn
  have h5 := (h.nth hb n)
  have h6 : b ^ n * 1 ≤ b ^ n * nth zs n := Int.mul_le_mul_of_nonneg_left (by omega) (by have := pow_pos hb n; omega)
  rw [h2] at h1
  omega

theorem val_zero_iff {b : Int} {zs : List Int} (hb : 0 < b) (h : Dig b zs) (t : Top zs) : val b zs = 0 ↔ zs.length = 0 := by
  constructor
  · intro e
    rcases Nat.eq_zero_or_pos zs.length with h0 | h0
    · exact h0
    · have := val_pos_of_top hb h t (zs.length - 1) (by omega)
      have := pow_pos hb (zs.length - 1)
      omega
  · intro e; rw [List.length_eq_zero_iff.1 e]; rfl

theorem pow_mono {b : Int} (hb : 0 < b) {m n : Nat} (h : m ≤ n) : b ^ m ≤ b ^ n := by
  obtain ⟨d, rfl⟩ : ∃ d, n = m + d := ⟨n - m, by omega⟩
  rw [Int.pow_add]
  have := Int.mul_le_mul_of_nonneg_left (pow_one_le hb d) (show 0 ≤ b ^ m by have := pow_pos hb m; omega)
  omega
/-- a number below b ^ m has no more than m digits -/
theorem len_of_lt {b : Int} {zs : List Int} (hb : 0 < b) (h : Dig b zs) (t : Top zs) (m : Nat) (hv : val b zs < b ^ m) : zs.length ≤ m := by
  rcases Nat.lt_or_ge m zs.length with h0 | h0
  · have h1 := val_pos_of_top hb h t (zs.length - 1) (by omega)
    have h2 := pow_mono hb (show m ≤ zs.length - 1 by omega)
    omega
  · exact h0
/-- no number that is met is as great -/
def lim : Int := 10 ^ 900
theorem len_of_val {zs : List Int} (h : Dig 10 zs) (t : Top zs) (hv : val 10 zs < lim) : zs.length ≤ 1000 :=
  Nat.le_trans (len_of_lt (by omega) h t 900 hv) (by omega)

/-- longer is more -/
theorem val_lt_of_length {b : Int} {xs ys : List Int} (hb : 1 < b) (hx : Dig b xs) (hy : Dig b ys) (t : Top ys) (h : xs.length < ys.length) : val b xs < val b ys := by
  have h1 := val_lt (by omega) hx
  have h2 := val_pos_of_top (by omega) hy t (ys.length - 1) (by omega)
  have h3 : b ^ xs.length ≤ b ^ (ys.length - 1) := by
    obtain ⟨d, hd⟩ : ∃ d, ys.length - 1 = xs.length + d := ⟨ys.length - 1 - xs.length, by omega⟩
    rw [hd, Int.pow_add]
    have := Int.mul_le_mul_of_nonneg_left (pow_one_le (show 0 < b by omega) d) (show 0 ≤ b ^ xs.length by have := pow_pos (show 0 < b by omega) xs.length; omega)
    omega
  omega

/-- the first digits that part decide -/
theorem val_lt_of_nth {b : Int} {xs ys : List Int} (hb : 0 < b) (hx : Dig b xs) (hy : Dig b ys) (k : Nat) (hkx : k < xs.length) (hky : k < ys.length) (hlt : nth xs k < nth ys k)
    (hup : val b (xs.drop (k + 1)) = val b (ys.drop (k + 1))) : val b xs < val b ys := by
  have h1 := val_split b xs k (by omega)
  have h2 := val_split b ys k (by omega)
  have h3 := val_drop b xs k
  have h4 := val_drop b ys k
  have h5 := val_lt hb (hx.take k)
  rw [List.length_take, Nat.min_eq_left (by omega)] at h5
  have h6 := val_nonneg (by omega) (hy.take k)
  rw [h3, hup] at h1
  rw [h4] at h2
  have hp := pow_pos hb k
  generalize val b (ys.drop (k + 1)) = u at *
  generalize val b (xs.take k) = p at *
  generalize val b (ys.take k) = q at *
  generalize b ^ k = m at *
  have h7 : m * (nth xs k + b * u) + m * 1 ≤ m * (nth ys k + b * u) := by
    rw [← Int.mul_add]; exact Int.mul_le_mul_of_nonneg_left (by omega) (by omega)
  omega

/-- how much of zs is left when the noughts at its end are struck -/
def cutLen (zs : List Int) : Nat → Nat
  | 0 => 0
  | n + 1 => if nth zs n = 0 then cutLen zs n else n + 1
theorem cutLen_le (zs : List Int) (n : Nat) : cutLen zs n ≤ n := by
  induction n with
  | zero => simp [cutLen]
  | succ n ih => simp only [cutLen]; split <;> omega
theorem cutLen_zero (zs : List Int) (n : Nat) (h : nth zs n = 0) : cutLen zs (n + 1) = cutLen zs n := by simp [cutLen, h]
theorem cutLen_pos (zs : List Int) (n : Nat) (h : ¬ nth zs n = 0) : cutLen zs (n + 1) = n + 1 := by simp [cutLen, h]
def cut (zs : List Int) : List Int := zs.take (cutLen zs zs.length)
theorem cut_length (zs : List Int) : (cut zs).length = cutLen zs zs.length := by
  unfold cut; rw [List.length_take]; have := cutLen_le zs zs.length; omega
theorem Dig.cut {b : Int} {zs : List Int} (h : Dig b zs) : Dig b (cut zs) := h.take _
theorem cutLen_top (zs : List Int) (n m : Nat) (h : cutLen zs n = m + 1) : nth zs m ≠ 0 := by
  induction n with
  | zero => simp [cutLen] at h
  | succ n ih =>
    simp only [cutLen] at h
    split at h
    · exact ih h
    · have : n = m := by omega
      subst this; assumption
theorem cut_top (zs : List Int) : Top (cut zs) := by
  intro n hn
  rw [cut_length] at hn
  have h := cutLen_top zs zs.length n hn
  unfold cut
  rwa [nth_take _ _ _ (by omega)]
theorem val_cutLen (b : Int) (zs : List Int) (n : Nat) : val b (zs.take (cutLen zs n)) = val b (zs.take n) := by
  induction n with
  | zero => rfl
  | succ n ih =>
    simp only [cutLen]
    split
    · rename_i h; rw [ih, val_take_succ, h]; simp
    · rfl
theorem val_cut (b : Int) (zs : List Int) : val b (cut zs) = val b zs := by
  unfold cut; rw [val_cutLen, List.take_length]

end Go.Proofs.YtknnjibmacmniaaGreatDoor
