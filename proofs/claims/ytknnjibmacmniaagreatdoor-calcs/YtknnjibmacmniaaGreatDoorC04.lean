/- abacusref: times. -/
import Derived.Test.YtknnjibmacmniaaGreatDoorC03
import Derived.Deep.RegionHeld3
import Derived.Deep.DrawnRows
namespace Go.Proofs.YtknnjibmacmniaaGreatDoor
open Go.RowKit
set_option linter.unusedVariables false

theorem times_row (xs ys cs : List Int) (i k : Nat) (hk : i + k < cs.length) (H : val 10 cs = val 10 (xs.take i) * val 10 ys + 10 ^ i * nth xs i * val 10 (ys.take k)) :
    val 10 (cs.set (i + k) (nth cs (i + k) + nth xs i * nth ys k)) = val 10 (xs.take i) * val 10 ys + 10 ^ i * nth xs i * val 10 (ys.take (k + 1)) := by
  rw [val_set _ _ _ _ hk, val_take_succ, H, Int.pow_add]
  grind
theorem times_next (xs ys cs : List Int) (i k : Nat) (hk : ys.length ≤ k) (H : val 10 cs = val 10 (xs.take i) * val 10 ys + 10 ^ i * nth xs i * val 10 (ys.take k)) :
    val 10 cs = val 10 (xs.take (i + 1)) * val 10 ys + 10 ^ (i + 1) * nth xs (i + 1) * val 10 (ys.take 0) := by
  rw [List.take_of_length_le hk] at H
  rw [val_take_succ, H]
  simp only [List.take_zero, val]
  grind
/-- the bound of a cell while the row i is added, of which k are done -/
def Bnd (cs : List Int) (i k : Nat) : Prop := ∀ j, 0 ≤ nth cs j ∧ (j < i + k → nth cs j ≤ 81 * i + 81) ∧ (i + k ≤ j → nth cs j ≤ 81 * i)
theorem Bnd.step {cs : List Int} {i k : Nat} (h : Bnd cs i k) (hk : i + k < cs.length) (p : Int) (h0 : 0 ≤ p) (h1 : p ≤ 81) : Bnd (cs.set (i + k) (nth cs (i + k) + p)) i (k + 1) := by
  intro j
  rw [nth_set _ _ _ _ hk]
  have h2 := h j
  have h3 := h (i + k)
  split
  · rename_i e; subst e; omega
  · omega
theorem Bnd.next {cs : List Int} {i k : Nat} (h : Bnd cs i k) : Bnd cs (i + 1) 0 := by
  intro j
  have h2 := h j
  by_cases e : j < i + k
  · have := h2.2.1 e; omega
  · have := h2.2.2 (by omega); omega

/-- while carries are taken up -/
def Car (cs : List Int) (k : Nat) : Prop := ∀ j, 0 ≤ nth cs j ∧ (j < k → nth cs j < 10) ∧ (j = k → nth cs j ≤ 100000) ∧ (k < j → nth cs j ≤ 82000)
theorem Car.step {cs : List Int} {k : Nat} (h : Car cs k) (hk : k + 1 < cs.length) :
    Car ((cs.set (k + 1) (nth cs (k + 1) + nth cs k / 10)).set k (nth cs k % 10)) (k + 1) := by
  intro j
  rw [nth_set _ _ _ _ (by rw [List.length_set]; omega), nth_set _ _ _ _ hk]
  have h0 := h k
  have h1 := h (k + 1)
  have h2 := h j
  have h3 := h0.2.2.1 rfl
  have h4 := h1.2.2.2 (by omega)
  split
  · omega
  · split
    · omega
    · omega
theorem car_val (cs : List Int) (k : Nat) (hk : k + 1 < cs.length) : val 10 ((cs.set (k + 1) (nth cs (k + 1) + nth cs k / 10)).set k (nth cs k % 10)) = val 10 cs := by
  rw [val_set _ _ _ _ (by rw [List.length_set]; omega), val_set _ _ _ _ hk, nth_set _ _ _ _ hk, if_neg (by omega), Int.pow_succ]
  have h1 : nth cs k = 10 * (nth cs k / 10) + nth cs k % 10 := by omega
  generalize nth cs k / 10 = q at *
  generalize nth cs k % 10 = r at *
  generalize (10 : Int) ^ k = p at *
  grind
theorem car_dig {xs ys cs : List Int} {k : Nat} (h : Car cs k) (hl : cs.length = k + 1) (hk : k = xs.length + ys.length) (dx : Dig 10 xs) (dy : Dig 10 ys) (H : val 10 cs = val 10 xs * val 10 ys) : Dig 10 cs := by
  have h1 := val_lt (by omega) dx
  have h2 := val_lt (by omega) dy
  have h3 := val_nonneg (by omega) dx
  have h4 := val_nonneg (by omega) dy
  have h5 : val 10 xs * val 10 ys < 10 ^ xs.length * 10 ^ ys.length := by
    have a1 : val 10 xs * val 10 ys ≤ val 10 xs * 10 ^ ys.length := Int.mul_le_mul_of_nonneg_left (by omega) h3
    have a2 : val 10 xs * 10 ^ ys.length < 10 ^ xs.length * 10 ^ ys.length := Int.mul_lt_mul_of_pos_right h1 (by have := pow_pos (show (0 : Int) < 10 by omega) ys.length; omega)
    omega
  rw [← Int.pow_add, ← hk] at h5
  have h6 := val_split 10 cs k (by omega)
  have h7 := val_drop 10 cs k
  rw [List.drop_of_length_le (show cs.length ≤ k + 1 by omega)] at h7
  simp only [val, Int.mul_zero, Int.add_zero] at h7
  have hd : Dig 10 (cs.take k) := by
    intro x hx
    obtain ⟨j, hj, rfl⟩ := List.mem_iff_getElem.1 hx
    rw [List.length_take] at hj
    have := h j
    have e := nth_take cs k j (by omega)
    rw [nth_eq _ _ (by rw [List.length_take]; exact hj)] at e
    rw [e]
    exact ⟨this.1, this.2.1 (by omega)⟩
  have h8 := val_nonneg (show (0 : Int) ≤ 10 by omega) hd
  have hz : nth cs k = 0 := by
    have h9 := (h k).1
    rcases (show nth cs k = 0 ∨ 1 ≤ nth cs k by omega) with e | e
    · exact e
    · have a3 : 10 ^ k * 1 ≤ 10 ^ k * nth cs k := Int.mul_le_mul_of_nonneg_left e (by have := pow_pos (show (0 : Int) < 10 by omega) k; omega)
      rw [h7] at h6
      omega
  intro x hx
  obtain ⟨j, hj, rfl⟩ := List.mem_iff_getElem.1 hx
  rw [← nth_eq cs j hj]
  have := h j
  rcases (show j < k ∨ j = k by omega) with e | e
  · exact ⟨this.1, this.2.1 e⟩
  · subst e; omega

set_option maxRecDepth 100000 in
set_option maxHeartbeats 3200000 in
theorem r_times_raw (ao bo : Option Addr) (c1 c2 : Nat) (xs ys : List Int) (w : World) (hlx : xs.length ≤ 1000) (hly : ys.length ≤ 1000) (hx : Rw .i64 w ao xs) (hy : Rw .i64 w bo ys) (dx : Dig 10 xs) (dy : Dig 10 ys) :
    Calls Tryz.prog 111 #[.slice ao xs.length c1, .slice bo ys.length c2] w fun e w' => ∃ v, e = .returned v ∧ Rep .i64 10 w' v (val 10 xs * val 10 ys) ∧ Below w.heap.size w w' := by
  obtain ⟨i0, hi, hz0, hz1, hz2⟩ := info_parts Tryz.infoInt
  obtain ⟨n, hn⟩ : ∃ n, n = xs.length + ys.length + 1 := ⟨_, rfl⟩
  have HN : Hid (n = xs.length + ys.length + 1) := hn
  have hn1 : n ≤ 2001 := by omega
  have hn2 : xs.length + ys.length < n := by omega
  clear hn
  go_enter Tryz.func111, Tryz.ntmps111
  go_wp2_with (at_make; refine wpList_make_full _ rfl _ _ 33 rfl w.heap.size 3 i0 (.int .i64 0) 1 Tryz.underlying33 hi hz0 hz1 .i64 .i64 _ _ n rfl rfl (by have := HN.out; omega) (by have := HN.out; omega) (by rw [hz2]; omega) (by unfold maxLen; omega) (Nat.le_refl _) ?_)
  intro w0 hown0 hgrow0
  have hq0 := Blk.made hown0
  have hb0 : Below w.heap.size w w0 := (Below.refl _ _).grown hgrow0 (Nat.le_refl _) (by simp)
  clear hown0 hgrow0
  go_wp2
  go_loopw [6] (fun i wr => ∃ (k : Nat) (cs : List Int), k ≤ xs.length ∧ i = .int .i64 k ∧ Blk .i64 3 wr w.heap.size cs ∧ Hid (cs.length = n) ∧ Bnd cs k 0 ∧
      Hid (val 10 cs = val 10 (xs.take k) * val 10 ys + 10 ^ k * nth xs k * val 10 (ys.take 0)) ∧ Below w.heap.size w wr)
    (fun i _ => xs.length - (intOf i).toNat)
  case atStart => exact ⟨0, List.replicate n 0, by omega, rfl, hq0, by simp [Hid], fun j => by rw [nth_replicate]; omega, by simp [Hid, val_replicate, val], hb0⟩
  case round =>
    clear hq0 hb0 w0
    obtain ⟨k, cs, hk, rfl, hq, HL, hB, H, hbel⟩ := hrel
    rename World => wa
    by_cases hlt : k < xs.length
    · go_wp2
      go_loopw [7] (fun i wr => ∃ (m : Nat) (cs : List Int), m ≤ ys.length ∧ i = .int .i64 m ∧ Blk .i64 3 wr w.heap.size cs ∧ Hid (cs.length = n) ∧ Bnd cs k m ∧
          Hid (val 10 cs = val 10 (xs.take k) * val 10 ys + 10 ^ k * nth xs k * val 10 (ys.take m)) ∧ Below w.heap.size w wr)
        (fun i _ => ys.length - (intOf i).toNat)
      case atStart => exact ⟨0, cs, by omega, rfl, hq, HL, hB, H, hbel⟩
      case round =>
        clear hq HL hB H hbel cs
        obtain ⟨m, cs, hm, rfl, hq, HL, hB, H, hbel⟩ := hrel
        by_cases hlt2 : m < ys.length
        · obtain ⟨b, off, rfl, hc⟩ := hx (by omega)
          obtain ⟨b', off', rfl, hc'⟩ := hy (by omega)
          have hlen : k + m < cs.length := by rw [HL.out]; omega
          have HR := times_row xs ys cs k m hlen H.out
          have hck := cell_later hbel (hc k hlt)
          have hck' := cell_later hbel (hc' m hlt2)
          have hcc := hq.cell (k + m) hlen
          have hcf := hq.free (k + m)
          have bx := dx.nth (by omega) k
          have bY := dy.nth (by omega) m
          have bC := hB (k + m)
          have hmul0 : 0 ≤ nth xs k * nth ys m := Int.mul_nonneg bx.1 bY.1
          have hmul1 : nth xs k * nth ys m ≤ 9 * 9 := Int.mul_le_mul (by omega) (by omega) bY.1 (by omega)
          have HB := hB.step hlen (nth xs k * nth ys m) hmul0 (by omega)
          have HQ := hq.set (k + m) (nth cs (k + m) + nth xs k * nth ys m)
          have hC0 := bC.1
          have hC1 := bC.2.2 (Nat.le_refl _)
          clear bC hc hc' hx hy H hB
          generalize Hx : nth xs k = x at *
          generalize Hy : nth ys m = y at *
          generalize Hc : nth cs (k + m) = c at *
          have HX : Hid (nth xs k = x) := Hx
          clear Hx Hy Hc
          have hi1 : (0 : Int) ≤ (k : Int) + (m : Int) := by omega
          have hi2 : (k : Int) + (m : Int) < (n : Int) := by omega
          have hi3 : ((k : Int) + (m : Int)).toNat = k + m := by omega
          go_wp2
          go_region
          go_wp2
          go_roundw
          case rel => exact ⟨m + 1, _, by omega, by go_num, HQ, by unfold Hid; rw [List.length_set]; exact HL.out, HB, HR, (hbel.setCell (p := ⟨w.heap.size, k + m, none⟩) (Nat.le_refl _) _).drew⟩
          case measure => simp [intOf]; omega
        · have HR := times_next xs ys cs k m (by omega) H.out
          go_wp2
          go_roundw
          case rel => exact ⟨k + 1, cs, by omega, by go_num, hq, HL, hB.next, HR, hbel⟩
          case measure => simp [intOf]; omega
    · have hke : k = xs.length := by omega
      have HV : Hid (val 10 cs = val 10 xs * val 10 ys) := by
        have := H.out
        rw [List.take_of_length_le (by omega)] at this
        simp only [List.take_zero, val, Int.mul_zero, Int.add_zero] at this
        exact this
      have hB2 : ∀ j, 0 ≤ nth cs j ∧ nth cs j ≤ 82000 := fun j => by
        have := hB j
        by_cases e : j < k + 0
        · have := this.2.1 e; have := hB.next j; omega
        · have := this.2.2 (by omega); omega
      have hcar : Car cs 0 := fun j => by have := hB2 j; omega
      clear hB H hke hB2
      go_wp2
      go_loopw [8] (fun i wr => ∃ (m : Nat) (cs : List Int), m + 1 ≤ n ∧ i = .int .i64 m ∧ Blk .i64 3 wr w.heap.size cs ∧ Hid (cs.length = n) ∧ Car cs m ∧ Hid (val 10 cs = val 10 xs * val 10 ys) ∧ Below w.heap.size w wr)
        (fun i _ => n - (intOf i).toNat)
      case atStart => exact ⟨0, cs, by omega, rfl, hq, HL, hcar, HV, hbel⟩
      case round =>
        clear hq HL hcar HV hbel cs
        obtain ⟨m, cs, hm, rfl, hq, HL, hcar, HV, hbel⟩ := hrel
        by_cases hlt2 : m + 1 < n
        · have hlen : m + 1 < cs.length := by rw [HL.out]; omega
          have hlen0 : m < cs.length := by omega
          have HC := hcar.step hlen
          have HV2 : Hid (val 10 ((cs.set (m + 1) (nth cs (m + 1) + nth cs m / 10)).set m (nth cs m % 10)) = val 10 xs * val 10 ys) := by unfold Hid; rw [car_val cs m hlen]; exact HV.out
          have HQ := (hq.set (m + 1) (nth cs (m + 1) + nth cs m / 10)).set m (nth cs m % 10)
          have hc0 := hq.cell m hlen0
          have hc1 := hq.cell (m + 1) hlen
          have hf0 := hq.free m
          have hf1 := hq.free (m + 1)
          have b0 := hcar m
          have b1 := hcar (m + 1)
          have b2 := b0.1
          have b3 := b0.2.2.1 rfl
          have b4 := b1.1
          have b5 := b1.2.2.2 (by omega)
          clear b0 b1 hcar HV
          generalize Hx : nth cs m = x at *
          generalize Hy : nth cs (m + 1) = y at *
          clear Hx Hy
          go_wp2
          go_region
          go_wp2
          go_roundw
          case rel => exact ⟨m + 1, _, by omega, by go_num, HQ, by unfold Hid; rw [List.length_set, List.length_set]; exact HL.out, HC, HV2, ((hbel.setCell (p := ⟨w.heap.size, m + 1, none⟩) (Nat.le_refl _) _).setCell (p := ⟨w.heap.size, m, none⟩) (Nat.le_refl _) _).drew⟩
          case measure => simp [intOf]; omega
        · have hd := car_dig hcar (by rw [HL.out]; omega) (by have := HN.out; omega) dx dy HV.out
          have HSl := hq.sl n n HL.out (Nat.le_refl _) (by unfold maxLen; omega)
          have hcs := HL.out
          clear hcar
          go_wp2_with (go_at_call 70; refine (r_trim_any _ cs _ HSl (by omega)).mono ?_; rintro e w' ⟨v', rfl, rfl, hs', hob⟩)
          go_ret
          exact ⟨_, rfl, ⟨cut cs, hs', hd.cut, cut_top cs, by rw [val_cut]; exact HV.out⟩, hbel⟩

theorem r_times_any (v u : Value) (x y : Int) (w : World) (hx : Rep .i64 10 w v x) (hy : Rep .i64 10 w u y) (bx : x < lim) (bY : y < lim) :
    Calls Tryz.prog 111 #[v, u] w fun e w' => ∃ v, e = .returned v ∧ Rep .i64 10 w' v (x * y) ∧ Below w.heap.size w w' := by
  obtain ⟨xs, ⟨ao, c1, rfl, h1, h2, h3⟩, h4, h5, rfl⟩ := hx
  obtain ⟨ys, ⟨bo, c2, rfl, g1, g2, g3⟩, g4, g5, rfl⟩ := hy
  exact r_times_raw ao bo c1 c2 xs ys w (len_of_val h4 h5 bx) (len_of_val g4 g5 bY) h3 g3 h4 g4
end Go.Proofs.YtknnjibmacmniaaGreatDoor

/- abacusref: gcd, one, made. -/
namespace Go.Proofs.YtknnjibmacmniaaGreatDoor
open Go.RowKit
set_option linter.unusedVariables false

def gcdI (x y : Int) : Int := (Int.gcd x y : Nat)
theorem gcdI_zero {x : Int} (h : 0 ≤ x) : gcdI x 0 = x := by unfold gcdI; rw [Int.gcd_zero_right]; omega
theorem gcdI_step {x y : Int} : gcdI y (x % y) = gcdI x y := by
  unfold gcdI
  have h : Int.gcd (x % y) y = Int.gcd x y := by
    apply Nat.dvd_antisymm
    · apply Int.dvd_gcd
      · have e := Int.emod_add_mul_ediv x y
        have h1 : ((Int.gcd (x % y) y : Nat) : Int) ∣ x % y + y * (x / y) := Int.dvd_add (Int.gcd_dvd_left _ _) (Int.dvd_mul_of_dvd_left (Int.gcd_dvd_right _ _))
        rwa [e] at h1
      · exact Int.gcd_dvd_right _ _
    · apply Int.dvd_gcd
      · have e := Int.emod_def x y
        rw [e]
        exact Int.dvd_sub (Int.gcd_dvd_left _ _) (Int.dvd_mul_of_dvd_left (Int.gcd_dvd_right _ _))
      · exact Int.gcd_dvd_right _ _
  rw [Int.gcd_comm, h]
theorem gcdI_pos {x y : Int} (h : 0 < y) : 0 < gcdI x y := by
  unfold gcdI; have := Int.gcd_pos_of_ne_zero_right x (show y ≠ 0 by omega); omega
theorem gcdI_dvd_left (x y : Int) : gcdI x y ∣ x := Int.gcd_dvd_left x y
theorem gcdI_dvd_right (x y : Int) : gcdI x y ∣ y := Int.gcd_dvd_right x y
theorem gcdI_le {x y : Int} (h : 0 < y) : gcdI x y ≤ y := Int.le_of_dvd h (gcdI_dvd_right x y)

set_option maxRecDepth 100000 in
set_option maxHeartbeats 800000 in
theorem r_gcd_any (v u : Value) (x y : Int) (w : World) (hx : Rep .i64 10 w v x) (hy : Rep .i64 10 w u y) (bx : 10 * x < lim) (bY : 10 * y < lim) :
    Calls Tryz.prog 68 #[v, u] w fun e w' => ∃ v, e = .returned v ∧ Rep .i64 10 w' v (gcdI x y) ∧ Below w.heap.size w w' := by
  have hx0 := hx.nonneg (by omega)
  have hy0 := hy.nonneg (by omega)
  go_enter Tryz.func68, Tryz.ntmps68
  go_wp2
  go_loopw [0, 1] (fun a b wr => ∃ (p q : Int), 0 ≤ p ∧ 0 ≤ q ∧ 10 * p < lim ∧ 10 * q < lim ∧ Rep .i64 10 wr a p ∧ Rep .i64 10 wr b q ∧ Hid (gcdI p q = gcdI x y) ∧ Below w.heap.size w wr)
    (fun _ b wr => readVal 10 wr b)
  case atStart => exact ⟨x, y, hx0, hy0, bx, bY, hx, hy, rfl, Below.refl _ _⟩
  case round =>
    obtain ⟨p, q, hp0, hq0, bp, bq, hp, hq, HG, hbel⟩ := hrel
    have hq' := hq
    obtain ⟨qs, ⟨qo, qc, rfl, hq1, hq2, hq3⟩, hq4, hq5, hq6⟩ := hq'
    have hz := val_zero_iff (by omega) hq4 hq5
    rw [hq6] at hz
    rcases Nat.eq_zero_or_pos qs.length with h0 | h0
    · have hq0' : q = 0 := hz.2 h0
      have HR : Hid (p = gcdI x y) := by rw [← HG.out, hq0', gcdI_zero hp0]; exact rfl
      clear hz hq6 hq0'
      go_wp2
      go_ret
      exact ⟨_, rfl, by rw [← HR.out]; exact hp, hbel⟩
    · have hqp : 0 < q := by
        rcases (show q = 0 ∨ 0 < q by omega) with e | e
        · have := hz.1 e; omega
        · exact e
      have HL := len_of_val hq4 hq5 (by omega)
      have hm := Int.emod_lt_of_pos p hqp
      have hm0 := Int.emod_nonneg p (show q ≠ 0 by omega)
      have HG2 : Hid (gcdI q (p % q) = gcdI x y) := by rw [gcdI_step]; exact HG
      clear hz hq6
      go_wp2_with (go_at_call 69; refine (r_divide_any _ _ p q _ hp hq (by omega) hqp bq).mono ?_; rintro e w' ⟨q', r', rfl, hq', hr', hb'⟩)
      go_roundw
      case rel => exact ⟨q, p % q, hq0, hm0, bq, by omega, hq.below (Nat.le_refl _) hb', hr', HG2, hbel.trans (hb'.mono hbel.size)⟩
      case measure => rw [hr'.read, hq.read]; omega

set_option maxHeartbeats 400000 in
theorem r_one_any (w : World) : Calls Tryz.prog 67 #[] w fun e w' => e = .returned (.slice (some ⟨w.heap.size, 0, none⟩) 1 1) ∧ w' = w.alloc (.cells #[.int .i64 1] 3) := by
  go_enter Tryz.func67, Tryz.ntmps67
  go_wp2
  go_ret
  exact ⟨rfl, rfl⟩

theorem rep_one (w : World) : Rep .i64 10 (w.alloc (.cells #[.int .i64 1] 3)) (.slice (some ⟨w.heap.size, 0, none⟩) 1 1) 1 := by
  have hb : Blk .i64 3 (w.alloc (.cells #[.int .i64 1] 3)) w.heap.size [1] := heap_alloc_new w _
  exact ⟨[1], hb.sl 1 1 rfl (Nat.le_refl _) (by simp [maxLen]), Dig.cons (by omega) (by omega) Dig.nil, fun n hn => by simp at hn; subst hn; simp [nth], by simp [val]⟩

/-- the value v is the fraction: below 0 or not, n, d -/
def RepN (w : World) (v : Value) (neg : Bool) (n d : Int) : Prop := ∃ N D, v = .agg #[.bool neg, N, D] ∧ Rep .i64 10 w N n ∧ Rep .i64 10 w D d
theorem RepN.below {w w' : World} {v : Value} {neg : Bool} {n d : Int} (h : RepN w v neg n d) {B : Nat} (hB : w.heap.size ≤ B) (hb : Below B w w') : RepN w' v neg n d := by
  obtain ⟨N, D, e, h1, h2⟩ := h
  exact ⟨N, D, e, h1.below hB hb, h2.below hB hb⟩

set_option maxRecDepth 100000 in
set_option maxHeartbeats 800000 in
theorem r_made_zero (neg : Bool) (v u : Value) (w : World) (hx : Rep .i64 10 w v 0) :
    Calls Tryz.prog 28 #[.bool neg, v, u] w fun e w' => ∃ v, e = .returned v ∧ RepN w' v false 0 1 ∧ Below w.heap.size w w' := by
  obtain ⟨qs, ⟨qo, qc, rfl, hq1, hq2, hq3⟩, hq4, hq5, hq6⟩ := hx
  have hz := (val_zero_iff (by omega) hq4 hq5).1 hq6
  have HZ : Hid (qs.length = 0) := hz
  rw [hz]
  clear hz
  go_enter Tryz.func28, Tryz.ntmps28
  go_wp2_with (go_at_call 67; refine (r_one_any _).mono ?_; rintro e w' ⟨rfl, rfl⟩)
  refine bodyPost_ret (v := .agg #[.bool false, .slice none 0 0, .slice (some ⟨w.heap.size + 1, 0, none⟩) 1 1]) (by simp [results, Tryz.results28, go_sem]) rfl ⟨_, rfl, ⟨_, _, rfl, Rep.zero _ _ _, ?_⟩, ?_⟩
  · have := rep_one (w.alloc (.cells #[.bool false, .slice none 0 0, .slice (some ⟨w.heap.size + 1, 0, none⟩) 1 1] 35))
    simpa using this
  · exact ((Below.refl _ _).alloc (Nat.le_refl _) _).alloc (by simp) _

set_option maxRecDepth 100000 in
set_option maxHeartbeats 1600000 in
theorem r_made_pos (neg : Bool) (v u : Value) (n d : Int) (w : World) (hx : Rep .i64 10 w v n) (hy : Rep .i64 10 w u d) (hn : 0 < n) (hd : 0 < d) (bn : 10 * n < lim) (bd : 10 * d < lim) :
    Calls Tryz.prog 28 #[.bool neg, v, u] w fun e w' => ∃ v, e = .returned v ∧ RepN w' v neg (n / gcdI n d) (d / gcdI n d) ∧ Below w.heap.size w w' := by
  have hxx := hx
  obtain ⟨qs, ⟨qo, qc, rfl, hq1, hq2, hq3⟩, hq4, hq5, hq6⟩ := hxx
  have hz : 0 < qs.length := by
    rcases Nat.eq_zero_or_pos qs.length with h | h
    · have := (val_zero_iff (show (0 : Int) < 10 by omega) hq4 hq5).2 h; omega
    · exact h
  have hb : (((qs.length : Nat) : Int) == 0) = false := beq_eq_false_iff_ne.2 (by omega)
  have hg0 := gcdI_pos (x := n) hd
  have hg1 := gcdI_le (x := n) hd
  clear hq1 hq2 hq3 hq4 hq5 hq6
  obtain ⟨g, HG⟩ : ∃ g, Hid (gcdI n d = g) := ⟨_, rfl⟩
  rw [HG.out] at hg0 hg1 ⊢
  go_enter Tryz.func28, Tryz.ntmps28
  have hbA : ∀ o, Below w.heap.size w (w.alloc o) := fun o => (Below.refl _ _).alloc (Nat.le_refl _) o
  go_wp2_with (go_at_call 68; refine (r_gcd_any _ _ n d _ (hx.below (Nat.le_refl _) (hbA _)) (hy.below (Nat.le_refl _) (hbA _)) bn bd).mono ?_; rintro e w1 ⟨vg, rfl, hvg, hb1⟩; rw [HG.out] at hvg)
  have hb1' := hb1.size
  simp only [World.size_alloc] at hb1'
  have hx1 := (hx.below (Nat.le_refl _) (hbA _)).below (Nat.le_refl _) hb1
  have hy1 := (hy.below (Nat.le_refl _) (hbA _)).below (Nat.le_refl _) hb1
  refine (r_divide_any _ _ n g _ hx1 hvg (by omega) hg0 (by omega)).mono ?_
  rintro e w2 ⟨v2, v2', rfl, hv2, _, hb2⟩
  go_wp2_with fail
  refine (r_divide_any _ _ d g _ (hy1.below (Nat.le_refl _) hb2) (hvg.below (Nat.le_refl _) hb2) (by omega) hg0 (by omega)).mono ?_
  rintro e w3 ⟨v3, v3', rfl, hv3, _, hb3⟩
  have hbb := Below.next (Below.next hb1 hb2 hb1.size) hb3 (Nat.le_trans hb1.size hb2.size)
  obtain ⟨a2, l2, k2, rfl⟩ := hv2.shape
  obtain ⟨a3, l3, k3, rfl⟩ := hv3.shape
  obtain ⟨hc, hf⟩ := bcell hbb
  have hno := (NoInt.new w #[Value.bool false, Value.slice none 0 0, Value.slice none 0 0] 35 (by simp)).below (by simp) hbb
  have hno1 := hno.setCell ⟨w.heap.size, 0, none⟩ (.bool neg) (by simp)
  have hno2 := hno1.setCell ⟨w.heap.size, 1, none⟩ (.slice a2 l2 k2) (by simp)
  have hbw := Below.next (hbA _) hbb (by simp)
  go_wp2
  refine bodyPost_ret (v := .agg #[.bool neg, .slice a2 l2 k2, .slice a3 l3 k3]) (by simp [results, Tryz.results28, go_sem, hc]) rfl ⟨_, rfl, ⟨_, _, rfl, ?_, ?_⟩, ?_⟩
  · exact (((hv2.below (Nat.le_refl _) hb3).box _ _ hno).box _ _ hno1).box _ _ hno2
  · exact ((hv3.box _ _ hno).box _ _ hno1).box _ _ hno2
  · exact ((hbw.setCell (p := ⟨w.heap.size, 0, none⟩) (Nat.le_refl _) _).setCell (p := ⟨w.heap.size, 1, none⟩) (Nat.le_refl _) _).setCell (p := ⟨w.heap.size, 2, none⟩) (Nat.le_refl _) _
end Go.Proofs.YtknnjibmacmniaaGreatDoor

/- abacusref: zero, whole, big, negated. -/
namespace Go.Proofs.YtknnjibmacmniaaGreatDoor
open Go.RowKit
set_option linter.unusedVariables false
attribute [local go_sem ↓] Go.wp_at_zero Go.wp_at_succ

/-- a fraction: below 0 or not, the number above, the number below -/
structure Q where
  neg : Bool
  n : Int
  d : Int

def RepQ (w : World) (v : Value) (q : Q) : Prop := RepN w v q.neg q.n q.d
theorem RepQ.below {w w' : World} {v : Value} {q : Q} (h : RepQ w v q) {B : Nat} (hB : w.heap.size ≤ B) (hb : Below B w w') : RepQ w' v q := RepN.below h hB hb
/-- the value written out -/
theorem RepQ.open {w : World} {v : Value} {q : Q} (h : RepQ w v q) : ∃ a1 l1 c1 a2 l2 c2, v = .agg #[.bool q.neg, .slice a1 l1 c1, .slice a2 l2 c2] ∧ Rep .i64 10 w (.slice a1 l1 c1) q.n ∧ Rep .i64 10 w (.slice a2 l2 c2) q.d := by
  obtain ⟨N, D, rfl, h1, h2⟩ := h
  obtain ⟨a1, l1, c1, rfl⟩ := h1.shape
  obtain ⟨a2, l2, c2, rfl⟩ := h2.shape
  exact ⟨_, _, _, _, _, _, rfl, h1, h2⟩
theorem Rep.len_zero {k : IntKind} {b : Int} {w : World} {ao : Option Addr} {l c : Nat} {n : Int} (h : Rep k b w (.slice ao l c) n) (hb : 0 < b) : (((l : Nat) : Int) == 0) = decide (n = 0) := by
  obtain ⟨zs, ⟨ao', cap, e, _⟩, h2, h3, rfl⟩ := h
  cases e
  have := val_zero_iff hb h2 h3
  rw [Bool.eq_iff_iff]
  simp only [beq_iff_eq, decide_eq_true_eq, this]
  omega
theorem Rep.len_le {k : IntKind} {w : World} {ao : Option Addr} {l c : Nat} {n : Int} (h : Rep k 10 w (.slice ao l c) n) (m : Nat) : l ≤ m ↔ n < 10 ^ m := by
  obtain ⟨zs, ⟨ao', cap, e, _⟩, h2, h3, rfl⟩ := h
  cases e
  constructor
  · intro hl
    have h1 := val_lt (show (0 : Int) < 10 by omega) h2
    have h4 := pow_mono (show (0 : Int) < 10 by omega) hl
    omega
  · exact len_of_lt (by omega) h2 h3 m

theorem one_lt_lim : (1 : Int) < lim := by
  unfold lim
  have := pow_mono (show (0 : Int) < 10 by omega) (show 1 ≤ 900 by omega)
  omega
theorem r_one_rep (w : World) : Calls Tryz.prog 67 #[] w fun e w' => ∃ ao l c, e = .returned (.slice ao l c) ∧ Rep .i64 10 w' (.slice ao l c) 1 ∧ Below w.heap.size w w' := by
  refine (r_one_any w).mono ?_
  rintro e w' ⟨rfl, rfl⟩
  exact ⟨_, _, _, rfl, rep_one w, (Below.refl _ _).alloc (Nat.le_refl _) _⟩

theorem keep1 {B : Nat} {W w' w'' : World} {a0 : Addr} {x0 : Value} (hb : Below w'.heap.size w' w'') (h : w'.cell? a0 = some x0 ∧ Below B W w' ∧ B < w'.heap.size) : w''.cell? a0 = some x0 ∧ Below B W w'' ∧ B < w''.heap.size := by
  obtain ⟨h0, h1', h2'⟩ := h
  exact ⟨cell_later hb h0, Below.next h1' hb (Nat.le_of_lt h2'), Nat.lt_of_lt_of_le h2' hb.size⟩
theorem keep2 {B : Nat} {W w' w'' : World} {a0 a1 : Addr} {x0 x1 : Value} (hb : Below w'.heap.size w' w'') (h : w'.cell? a0 = some x0 ∧ w'.cell? a1 = some x1 ∧ Below B W w' ∧ B < w'.heap.size) : w''.cell? a0 = some x0 ∧ w''.cell? a1 = some x1 ∧ Below B W w'' ∧ B < w''.heap.size := by
  obtain ⟨h0, h1, h1', h2'⟩ := h
  exact ⟨cell_later hb h0, cell_later hb h1, Below.next h1' hb (Nat.le_of_lt h2'), Nat.lt_of_lt_of_le h2' hb.size⟩
theorem keep3 {B : Nat} {W w' w'' : World} {a0 a1 a2 : Addr} {x0 x1 x2 : Value} (hb : Below w'.heap.size w' w'') (h : w'.cell? a0 = some x0 ∧ w'.cell? a1 = some x1 ∧ w'.cell? a2 = some x2 ∧ Below B W w' ∧ B < w'.heap.size) : w''.cell? a0 = some x0 ∧ w''.cell? a1 = some x1 ∧ w''.cell? a2 = some x2 ∧ Below B W w'' ∧ B < w''.heap.size := by
  obtain ⟨h0, h1, h2, h1', h2'⟩ := h
  exact ⟨cell_later hb h0, cell_later hb h1, cell_later hb h2, Below.next h1' hb (Nat.le_of_lt h2'), Nat.lt_of_lt_of_le h2' hb.size⟩
theorem keep4 {B : Nat} {W w' w'' : World} {a0 a1 a2 a3 : Addr} {x0 x1 x2 x3 : Value} (hb : Below w'.heap.size w' w'') (h : w'.cell? a0 = some x0 ∧ w'.cell? a1 = some x1 ∧ w'.cell? a2 = some x2 ∧ w'.cell? a3 = some x3 ∧ Below B W w' ∧ B < w'.heap.size) : w''.cell? a0 = some x0 ∧ w''.cell? a1 = some x1 ∧ w''.cell? a2 = some x2 ∧ w''.cell? a3 = some x3 ∧ Below B W w'' ∧ B < w''.heap.size := by
  obtain ⟨h0, h1, h2, h3, h1', h2'⟩ := h
  exact ⟨cell_later hb h0, cell_later hb h1, cell_later hb h2, cell_later hb h3, Below.next h1' hb (Nat.le_of_lt h2'), Nat.lt_of_lt_of_le h2' hb.size⟩
theorem keep5 {B : Nat} {W w' w'' : World} {a0 a1 a2 a3 a4 : Addr} {x0 x1 x2 x3 x4 : Value} (hb : Below w'.heap.size w' w'') (h : w'.cell? a0 = some x0 ∧ w'.cell? a1 = some x1 ∧ w'.cell? a2 = some x2 ∧ w'.cell? a3 = some x3 ∧ w'.cell? a4 = some x4 ∧ Below B W w' ∧ B < w'.heap.size) : w''.cell? a0 = some x0 ∧ w''.cell? a1 = some x1 ∧ w''.cell? a2 = some x2 ∧ w''.cell? a3 = some x3 ∧ w''.cell? a4 = some x4 ∧ Below B W w'' ∧ B < w''.heap.size := by
  obtain ⟨h0, h1, h2, h3, h4, h1', h2'⟩ := h
  exact ⟨cell_later hb h0, cell_later hb h1, cell_later hb h2, cell_later hb h3, cell_later hb h4, Below.next h1' hb (Nat.le_of_lt h2'), Nat.lt_of_lt_of_le h2' hb.size⟩
theorem keep6 {B : Nat} {W w' w'' : World} {a0 a1 a2 a3 a4 a5 : Addr} {x0 x1 x2 x3 x4 x5 : Value} (hb : Below w'.heap.size w' w'') (h : w'.cell? a0 = some x0 ∧ w'.cell? a1 = some x1 ∧ w'.cell? a2 = some x2 ∧ w'.cell? a3 = some x3 ∧ w'.cell? a4 = some x4 ∧ w'.cell? a5 = some x5 ∧ Below B W w' ∧ B < w'.heap.size) : w''.cell? a0 = some x0 ∧ w''.cell? a1 = some x1 ∧ w''.cell? a2 = some x2 ∧ w''.cell? a3 = some x3 ∧ w''.cell? a4 = some x4 ∧ w''.cell? a5 = some x5 ∧ Below B W w'' ∧ B < w''.heap.size := by
  obtain ⟨h0, h1, h2, h3, h4, h5, h1', h2'⟩ := h
  exact ⟨cell_later hb h0, cell_later hb h1, cell_later hb h2, cell_later hb h3, cell_later hb h4, cell_later hb h5, Below.next h1' hb (Nat.le_of_lt h2'), Nat.lt_of_lt_of_le h2' hb.size⟩
theorem keep7 {B : Nat} {W w' w'' : World} {a0 a1 a2 a3 a4 a5 a6 : Addr} {x0 x1 x2 x3 x4 x5 x6 : Value} (hb : Below w'.heap.size w' w'') (h : w'.cell? a0 = some x0 ∧ w'.cell? a1 = some x1 ∧ w'.cell? a2 = some x2 ∧ w'.cell? a3 = some x3 ∧ w'.cell? a4 = some x4 ∧ w'.cell? a5 = some x5 ∧ w'.cell? a6 = some x6 ∧ Below B W w' ∧ B < w'.heap.size) : w''.cell? a0 = some x0 ∧ w''.cell? a1 = some x1 ∧ w''.cell? a2 = some x2 ∧ w''.cell? a3 = some x3 ∧ w''.cell? a4 = some x4 ∧ w''.cell? a5 = some x5 ∧ w''.cell? a6 = some x6 ∧ Below B W w'' ∧ B < w''.heap.size := by
  obtain ⟨h0, h1, h2, h3, h4, h5, h6, h1', h2'⟩ := h
  exact ⟨cell_later hb h0, cell_later hb h1, cell_later hb h2, cell_later hb h3, cell_later hb h4, cell_later hb h5, cell_later hb h6, Below.next h1' hb (Nat.le_of_lt h2'), Nat.lt_of_lt_of_le h2' hb.size⟩

set_option maxHeartbeats 400000 in
theorem r_zero_any (v : Value) (q : Q) (w : World) (h : RepQ w v q) :
    Calls Tryz.prog 59 #[v] w fun e w' => e = .returned (.bool (decide (q.n = 0))) ∧ Below w.heap.size w w' := by
  obtain ⟨a1, l1, c1, a2, l2, c2, rfl, h1, h2⟩ := h.open
  have hz := h1.len_zero (by omega)
  obtain ⟨z, HZ⟩ : ∃ z, Hid (decide (q.n = 0) = z) := ⟨_, rfl⟩
  rw [HZ.out] at hz ⊢
  go_enter Tryz.func59, Tryz.ntmps59
  go_wp2
  go_ret
  exact ⟨rfl, (Below.refl _ _).alloc (Nat.le_refl _) _⟩

set_option maxHeartbeats 400000 in
theorem r_whole_any (v : Value) (q : Q) (w : World) (h : RepQ w v q) (bd : q.d < lim) :
    Calls Tryz.prog 114 #[v] w fun e w' => e = .returned (.bool (decide (q.d = 1))) ∧ Below w.heap.size w w' := by
  obtain ⟨a1, l1, c1, a2, l2, c2, rfl, h1, h2⟩ := h.open
  have hl := one_lt_lim
  have hz : (sgn3 q.d 1 == 0) = decide (q.d = 1) := by
    unfold sgn3
    rw [Bool.eq_iff_iff]
    simp only [beq_iff_eq, decide_eq_true_eq]
    split
    · omega
    · split <;> omega
  obtain ⟨z, HZ⟩ : ∃ z, Hid (decide (q.d = 1) = z) := ⟨_, rfl⟩
  rw [HZ.out] at hz ⊢
  have hb0 : ∀ o, Below w.heap.size w (w.alloc o) := fun o => (Below.refl _ _).alloc (Nat.le_refl _) o
  go_enter Tryz.func114, Tryz.ntmps114
  go_wp2
  go_region_held3 (fun w' => w'.cell? ⟨w.heap.size, 2, none⟩ = some (.slice a2 l2 c2) ∧ Below w.heap.size w w' ∧ w.heap.size < w'.heap.size)
    (first | exact ⟨by simp, (hb0 _).drew, by simp⟩ | exact keep1 (by assumption) (by assumption))
    ((first | (go_at_call 67; refine (r_one_rep _).mono ?_; rintro e w1 ⟨ao, l, c, rfl, hr1, hb1⟩) | (go_at_call 66; refine (r_compare_any _ _ q.d 1 _ (h2.below (Nat.le_refl _) (by exact (And.left (And.right (by assumption))))) (by assumption) bd hl).mono ?_; rintro e w2 ⟨rfl, hb2⟩)))
  rename_i hH
  go_wp2
  go_ret
  exact ⟨rfl, hH.2.1⟩

def bigQ (q : Q) : Bool := decide (10 ^ 60 ≤ q.n) || decide (10 ^ 60 ≤ q.d)
set_option maxHeartbeats 400000 in
theorem r_big_any (v : Value) (q : Q) (w : World) (h : RepQ w v q) :
    Calls Tryz.prog 64 #[v] w fun e w' => e = .returned (.bool (bigQ q)) ∧ Below w.heap.size w w' := by
  obtain ⟨a1, l1, c1, a2, l2, c2, rfl, h1, h2⟩ := h.open
  have k1 := h1.len_le 60
  have k2 := h2.len_le 60
  by_cases e1 : l1 ≤ 60
  · by_cases e2 : l2 ≤ 60
    · have HB : Hid (bigQ q = false) := by
        have := k1.1 e1; have := k2.1 e2
        simp [Hid, bigQ]; omega
      clear k1 k2
      have e2' : (l2 : Int) ≤ 60 := by omega
      go_enter Tryz.func64, Tryz.ntmps64
      go_wp2
      go_ret
      exact ⟨ret_bool (by rw [HB.out]; simp; omega), (Below.refl _ _).alloc (Nat.le_refl _) _⟩
    · have HB : Hid (bigQ q = true) := by
        have : ¬ q.d < 10 ^ 60 := fun h => e2 (k2.2 h)
        simp [Hid, bigQ]; omega
      clear k1 k2
      go_enter Tryz.func64, Tryz.ntmps64
      go_wp2
      go_ret
      exact ⟨ret_bool (by rw [HB.out]; simp; omega), (Below.refl _ _).alloc (Nat.le_refl _) _⟩
  · have HB : Hid (bigQ q = true) := by
      have : ¬ q.n < 10 ^ 60 := fun h => e1 (k1.2 h)
      simp [Hid, bigQ]; omega
    clear k1 k2
    go_enter Tryz.func64, Tryz.ntmps64
    go_wp2
    go_ret
    exact ⟨ret_bool (by rw [HB.out]), (Below.refl _ _).alloc (Nat.le_refl _) _⟩

def negQ (q : Q) : Q := ⟨!q.neg && decide (q.n ≠ 0), q.n, q.d⟩
set_option maxHeartbeats 400000 in
theorem r_negated_any (v : Value) (q : Q) (w : World) (h : RepQ w v q) :
    Calls Tryz.prog 57 #[v] w fun e w' => ∃ v', e = .returned v' ∧ RepQ w' v' (negQ q) ∧ Below w.heap.size w w' := by
  obtain ⟨a1, l1, c1, a2, l2, c2, rfl, h1, h2⟩ := h.open
  have hz := h1.len_zero (by omega)
  obtain ⟨neg, n, d⟩ := q
  simp only at *
  have hb2 : ∀ o o', Below w.heap.size w ((w.alloc o).alloc o') := fun o o' => ((Below.refl _ _).alloc (Nat.le_refl _) o).alloc (by simp) o'
  cases neg
  · have HN : Hid ((negQ ⟨false, n, d⟩).neg = !decide (n = 0)) := by simp [Hid, negQ]
    obtain ⟨z, HZ⟩ : ∃ z, Hid (decide (n = 0) = z) := ⟨_, rfl⟩
    rw [HZ.out] at hz
    have HN2 := HN.out
    rw [HZ.out] at HN2
    cases z
    · have hl : 0 < l1 := by have := beq_eq_false_iff_ne.1 hz; omega
      have HM : Hid ((negQ ⟨false, n, d⟩).neg = true) := HN2
      clear HN HN2
      go_enter Tryz.func57, Tryz.ntmps57
      go_wp2
      exact bodyPost_ret (v := .agg #[.bool true, .slice a1 l1 c1, .slice a2 l2 c2]) (by simp [results, Tryz.results57, go_sem]) rfl ⟨_, rfl, ⟨_, _, by rw [HM.out], h1.below (Nat.le_refl _) (hb2 _ _), h2.below (Nat.le_refl _) (hb2 _ _)⟩, hb2 _ _⟩
    · have hl : l1 = 0 := by have := beq_iff_eq.1 hz; omega
      subst hl
      have HM : Hid ((negQ ⟨false, n, d⟩).neg = false) := HN2
      clear HN HN2 hz
      go_enter Tryz.func57, Tryz.ntmps57
      go_wp2
      exact bodyPost_ret (v := .agg #[.bool false, .slice a1 0 c1, .slice a2 l2 c2]) (by simp [results, Tryz.results57, go_sem]) rfl ⟨_, rfl, ⟨_, _, by rw [HM.out], h1.below (Nat.le_refl _) (hb2 _ _), h2.below (Nat.le_refl _) (hb2 _ _)⟩, hb2 _ _⟩
  · have HM : Hid ((negQ ⟨true, n, d⟩).neg = false) := by simp [Hid, negQ]
    clear hz
    go_enter Tryz.func57, Tryz.ntmps57
    go_wp2
    exact bodyPost_ret (v := .agg #[.bool false, .slice a1 l1 c1, .slice a2 l2 c2]) (by simp [results, Tryz.results57, go_sem]) rfl ⟨_, rfl, ⟨_, _, by rw [HM.out], h1.below (Nat.le_refl _) (hb2 _ _), h2.below (Nat.le_refl _) (hb2 _ _)⟩, hb2 _ _⟩
end Go.Proofs.YtknnjibmacmniaaGreatDoor

/- abacusref: made as one, sum, product. -/
namespace Go.Proofs.YtknnjibmacmniaaGreatDoor
open Go.RowKit
set_option linter.unusedVariables false
attribute [local go_sem ↓] Go.wp_at_zero Go.wp_at_succ

/-- a fraction, made low -/
def mk (neg : Bool) (n d : Int) : Q := if n = 0 then ⟨false, 0, 1⟩ else ⟨neg, n / gcdI n d, d / gcdI n d⟩

theorem r_made_any (neg : Bool) (v u : Value) (n d : Int) (w : World) (hx : Rep .i64 10 w v n) (hy : Rep .i64 10 w u d) (hd : 0 < d) (bn : 10 * n < lim) (bd : 10 * d < lim) :
    Calls Tryz.prog 28 #[.bool neg, v, u] w fun e w' => ∃ v, e = .returned v ∧ RepQ w' v (mk neg n d) ∧ Below w.heap.size w w' := by
  have h0 := hx.nonneg (by omega)
  by_cases hn : n = 0
  · subst hn
    exact r_made_zero neg v u w hx
  · have e : mk neg n d = ⟨neg, n / gcdI n d, d / gcdI n d⟩ := by simp [mk, hn]
    rw [e]
    exact r_made_pos neg v u n d w hx hy (by omega) hd bn bd

/-- the box of a result that is to be stored -/
def Fz (g : Nat) (w : World) : Prop := w.frozen? ⟨g, 0, none⟩ = false ∧ w.frozen? ⟨g, 1, none⟩ = false ∧ w.frozen? ⟨g, 2, none⟩ = false ∧ NoInt w g ∧ ∃ c T, w.heap[g]? = some (.cells c T (0, 0)) ∧ c.size = 3
theorem Fz.later {g : Nat} {w w' : World} (h : Fz g w) (hg : g < w.heap.size) (hb : Below w.heap.size w w') : Fz g w' := by
  obtain ⟨f0, f1, f2, hn, c, T, hc, hs⟩ := h
  refine ⟨?_, ?_, ?_, hn.below hg hb, c, T, (hb.block g hg).trans hc, hs⟩
  · rw [hb.frozen (p := ⟨g, 0, none⟩) hg]; exact f0
  · rw [hb.frozen (p := ⟨g, 1, none⟩) hg]; exact f1
  · rw [hb.frozen (p := ⟨g, 2, none⟩) hg]; exact f2
theorem frozen_row {w : World} {g : Nat} {c : Array Value} {T : Nat} (h : w.heap[g]? = some (.cells c T (0, 0))) (o : Nat) : w.frozen? ⟨g, o, none⟩ = false := by
  simp only [World.frozen?, h]; simp
theorem Fz.new (w : World) (v0 v1 v2 : Value) (T : Nat) (h0 : ∀ k x, v0 ≠ .int k x) (h1 : ∀ k x, v1 ≠ .int k x) (h2 : ∀ k x, v2 ≠ .int k x) : Fz w.heap.size (w.alloc (.cells #[v0, v1, v2] T)) := by
  refine ⟨?_, ?_, ?_, NoInt.new w _ T ?_, _, T, heap_alloc_new w _, rfl⟩
  · exact frozen_row (heap_alloc_new w _) _
  · exact frozen_row (heap_alloc_new w _) _
  · exact frozen_row (heap_alloc_new w _) _
  · intro v hv
    simp at hv
    rcases hv with rfl | rfl | rfl <;> assumption
def put3 (w : World) (g : Nat) (v0 v1 v2 : Value) : World := ((w.setCell ⟨g, 0, none⟩ v0).setCell ⟨g, 1, none⟩ v1).setCell ⟨g, 2, none⟩ v2
theorem put3_heap {w : World} {g : Nat} (h : Fz g w) (v0 v1 v2 : Value) : ∃ T, (put3 w g v0 v1 v2).heap[g]? = some (.cells #[v0, v1, v2] T (0, 0)) := by
  obtain ⟨_, _, _, _, c, T, hc, hs⟩ := h
  refine ⟨T, ?_⟩
  unfold put3
  rw [heap_setCell_same _ g 2 _ T v2 (heap_setCell_same _ g 1 _ T v1 (heap_setCell_same _ g 0 _ T v0 hc))]
  obtain ⟨l⟩ := c
  match l, hs with
  | [x, y, z], _ => simp
theorem put3_cells {w : World} {g : Nat} (h : Fz g w) (v0 v1 v2 : Value) : (put3 w g v0 v1 v2).cell? ⟨g, 0, none⟩ = some v0 ∧ (put3 w g v0 v1 v2).cell? ⟨g, 1, none⟩ = some v1 ∧ (put3 w g v0 v1 v2).cell? ⟨g, 2, none⟩ = some v2 := by
  obtain ⟨T, hh⟩ := put3_heap h v0 v1 v2
  exact ⟨by rw [cell_of_row _ _ _ _ _ _ hh]; rfl, by rw [cell_of_row _ _ _ _ _ _ hh]; rfl, by rw [cell_of_row _ _ _ _ _ _ hh]; rfl⟩
theorem put3_rep {k : IntKind} {b : Int} {w : World} {g : Nat} (h : Fz g w) {v : Value} {n : Int} (hr : Rep k b w v n) (v0 v1 v2 : Value) (h0 : ∀ k x, v0 ≠ .int k x) (h1 : ∀ k x, v1 ≠ .int k x) : Rep k b (put3 w g v0 v1 v2) v n := by
  have hn := h.2.2.2.1
  exact ((hr.box _ _ hn).box _ _ (hn.setCell _ _ h0)).box _ _ ((hn.setCell _ _ h0).setCell _ _ h1)
theorem put3_below {B : Nat} {a w : World} {g : Nat} (h : Below B a w) (hg : B ≤ g) (v0 v1 v2 : Value) : Below B a (put3 w g v0 v1 v2) :=
  ((h.setCell (p := ⟨g, 0, none⟩) hg _).setCell (p := ⟨g, 1, none⟩) hg _).setCell (p := ⟨g, 2, none⟩) hg _
theorem put3_cell_other {w : World} {g : Nat} (v0 v1 v2 : Value) {a : Addr} {x : Value} (h : w.cell? a = some x) (hne : a.block ≠ g) : (put3 w g v0 v1 v2).cell? a = some x := by
  unfold put3
  rw [World.cell?_of_block (w := _) (Below.heap_setCell _ _ _ _ hne), World.cell?_of_block (w := _) (Below.heap_setCell _ _ _ _ hne), World.cell?_of_block (w := _) (Below.heap_setCell _ _ _ _ hne)]
  exact h
theorem put3_fz {w : World} {g : Nat} (h : Fz g w) (v0 v1 v2 : Value) (h0 : ∀ k x, v0 ≠ .int k x) (h1 : ∀ k x, v1 ≠ .int k x) (h2 : ∀ k x, v2 ≠ .int k x) : Fz g (put3 w g v0 v1 v2) := by
  obtain ⟨T, hh⟩ := put3_heap h v0 v1 v2
  refine ⟨?_, ?_, ?_, ?_, _, T, hh, rfl⟩
  · exact frozen_row hh _
  · exact frozen_row hh _
  · exact frozen_row hh _
  · exact ((h.2.2.2.1.setCell _ _ h0).setCell _ _ h1).setCell _ _ h2
theorem put3_size (w : World) (g : Nat) (v0 v1 v2 : Value) : (put3 w g v0 v1 v2).heap.size = w.heap.size := by simp [put3, World.setCell]
end Go.Proofs.YtknnjibmacmniaaGreatDoor
