/- natural: emptyBits, shiftedUp, shiftedDown. -/
import Derived.Test.YtknnjibmacmniaaGreatDoorC14
namespace Go.Proofs.YtknnjibmacmniaaGreatDoor
open Go.RowKit
set_option linter.unusedVariables false

set_option maxRecDepth 100000 in
set_option maxHeartbeats 1600000 in
theorem n_empty_any (x : Int) (w : World) (h0 : 0 < x) (h1 : x < 4294967296) :
    Calls Tryz.prog 189 #[.int .u32 x] w fun e w' => ∃ s : Nat, e = .returned (.int .i64 s) ∧ s ≤ 31 ∧ 2147483648 ≤ x * 2 ^ s ∧ x * 2 ^ s < 4294967296 ∧ w' = w := by
  go_enter Tryz.func189, Tryz.ntmps189
  go_wp2
  go_loop [0, 3] (fun xv cv => ∃ (s : Nat) (y : Int), xv = .int .u32 y ∧ cv = .int .i64 s ∧ s ≤ 31 ∧ Hid (y = x * 2 ^ s) ∧ 0 < y ∧ y < 4294967296 ∧ (2:Int) ^ s ≤ y) (fun xv _ => 4294967296 - (intOf xv).toNat)
  case atStart => exact ⟨0, x, rfl, rfl, by omega, by simp [Hid], h0, h1, by simp; omega⟩
  case round =>
    obtain ⟨s, y, rfl, rfl, hs, HY, hy0, hy1, hy2⟩ := hrel
    by_cases hb : y < 2147483648
    · have hs31 : s ≤ 30 := by
        rcases (show s ≤ 30 ∨ s = 31 by omega) with h | h
        · exact h
        · rw [h] at hy2
          have : (2 : Int) ^ 31 = 2147483648 := by decide
          omega
      have HY2 : Hid (y * 2 = x * 2 ^ (s + 1)) := by unfold Hid; rw [Int.pow_succ, ← Int.mul_assoc, ← HY.out]
      have hp2 : (2 : Int) ^ (s + 1) ≤ y * 2 := by rw [Int.pow_succ]; omega
      go_wp2
      go_round
      case rel => exact ⟨s + 1, y * 2, rfl, by go_num, by omega, HY2, by omega, by omega, hp2⟩
      case measure => simp [intOf]; omega
    · go_wp2
      go_ret
      exact ⟨s, rfl, hs, by rw [← HY.out]; omega, by rw [← HY.out]; exact hy1, rfl⟩

/-- a part of a word shifted onto a carry -/
theorem or_shift (s : Nat) (c y : Int) (h0 : 0 ≤ c) (h1 : c < 2 ^ s) (h2 : 0 ≤ y) (h3 : y * 2 ^ s + c < 18446744073709551616) : bits BinOp.or IntKind.u64 c (y * 2 ^ s) = c + y * 2 ^ s := by
  have hp : (2 : Int) ^ s = ((2 ^ s : Nat) : Int) := by simp
  have hn : (2 ^ s * y.toNat : Nat) = (y * 2 ^ s : Int) := by rw [hp, Int.natCast_mul, Int.toNat_of_nonneg h2, Int.mul_comm]
  have hyp := Int.mul_nonneg h2 (show (0 : Int) ≤ 2 ^ s by have := pow_pos (show (0 : Int) < 2 by omega) s; omega)
  have e := bits_or_u64_nat c.toNat (2 ^ s * y.toNat) (by omega) (by omega)
  rw [Int.toNat_of_nonneg h0, hn, Nat.or_comm, ← Nat.two_pow_add_eq_or_of_lt (by omega)] at e
  rw [e]
  omega

theorem up_step (xs ss : List Int) (k s : Nat) (c t : Int) (hk : k < ss.length) (H : val 4294967296 (ss.take k) + c * 4294967296 ^ k = val 4294967296 (xs.take k) * 2 ^ s) (ht : t = c + nth xs k * 2 ^ s) :
    val 4294967296 ((ss.set k (t % 4294967296)).take (k + 1)) + (t / 4294967296) * 4294967296 ^ (k + 1) = val 4294967296 (xs.take (k + 1)) * 2 ^ s := by
  rw [val_take_succ, val_take_succ, nth_set _ _ _ _ hk, if_pos rfl, List.take_set_of_le (Nat.le_refl _), Int.pow_succ]
  have h1 : t = 4294967296 * (t / 4294967296) + t % 4294967296 := by omega
  generalize t / 4294967296 = q at *
  generalize t % 4294967296 = r at *
  generalize (4294967296 : Int) ^ k = p at *
  generalize (2 : Int) ^ s = p2 at *
  grind
theorem up_end (xs ss : List Int) (s n : Nat) (c : Int) (hs : ss.length = n + 1) (hx : xs.length = n) (H : val 4294967296 (ss.take n) + c * 4294967296 ^ n = val 4294967296 (xs.take n) * 2 ^ s) :
    val 4294967296 (ss.set n c) = val 4294967296 xs * 2 ^ s := by
  rw [List.take_of_length_le (show xs.length ≤ n by omega)] at H
  have h := val_take_succ 4294967296 (ss.set n c) n
  rw [List.take_of_length_le (by rw [List.length_set]; omega), nth_set _ _ _ _ (by omega), if_pos rfl, List.take_set_of_le (Nat.le_refl _)] at h
  rw [h, ← H, Int.mul_comm]

set_option maxRecDepth 100000 in
set_option maxHeartbeats 1600000 in
theorem n_up_any (ao : Option Addr) (c1 : Nat) (xs : List Int) (s : Nat) (w : World) (hl : xs.length ≤ 1000) (hs : s ≤ 31) (hx : Rw .u32 w ao xs) (dx : Dig 4294967296 xs) :
    Calls Tryz.prog 190 #[.slice ao xs.length c1, .int .i64 s] w fun e w' => ∃ g ss, e = .returned (.slice (some ⟨g, 0, none⟩) (xs.length + 1) (xs.length + 1)) ∧ w.heap.size ≤ g ∧ Blk .u32 174 w' g ss ∧ ss.length = xs.length + 1 ∧ Dig 4294967296 ss ∧ val 4294967296 ss = val 4294967296 xs * 2 ^ s ∧ Below w.heap.size w w' := by
  obtain ⟨i0, hi, hz0, hz1, hz2⟩ := info_parts Tryz.infoU32
  go_enter Tryz.func190, Tryz.ntmps190
  go_wp2_with (at_make; refine wpList_make_full _ rfl _ _ 54 rfl w.heap.size 174 i0 (.int .u32 0) 1 Tryz.underlying54 hi hz0 hz1 .i64 .i64 _ _ (xs.length + 1) rfl rfl (by omega) (by omega) (by rw [hz2]; omega) (by unfold maxLen; omega) (Nat.le_refl _) ?_)
  intro w0 hown0 hgrow0
  have hq0 := Blk.made hown0
  have hb0 : Below w.heap.size w w0 := (Below.refl _ _).grown hgrow0 (Nat.le_refl _) (by simp)
  clear hown0 hgrow0
  have hp2 := pow_pos (show (0 : Int) < 2 by omega) s
  have hp3 : (2 : Int) ^ s ≤ 2147483648 := by
    have := pow_mono (show (0 : Int) < 2 by omega) hs
    have e : (2 : Int) ^ 31 = 2147483648 := by decide
    omega
  go_wp2
  go_loopw [6, 15] (fun cv iv wr => ∃ (k : Nat) (ss : List Int) (c : Int), k ≤ xs.length ∧ iv = .int .i64 k ∧ cv = .int .u64 c ∧ 0 ≤ c ∧ c < 2 ^ s ∧ Blk .u32 174 wr w.heap.size ss ∧ Hid (ss.length = xs.length + 1) ∧ Dig 4294967296 ss ∧
      Hid (val 4294967296 (ss.take k) + c * 4294967296 ^ k = val 4294967296 (xs.take k) * 2 ^ s) ∧ Below w.heap.size w wr)
    (fun _ iv _ => xs.length - (intOf iv).toNat)
  case atStart => exact ⟨0, _, 0, by omega, rfl, rfl, by omega, hp2, hq0, by simp [Hid], Dig.replicate (by omega) _, by simp [Hid, val], hb0⟩
  case round =>
    clear hq0 hb0
    obtain ⟨k, ss, c, hk, rfl, rfl, hc0, hc1, hq, HL, hd, H, hbel⟩ := hrel
    by_cases hlt : k < xs.length
    · obtain ⟨b, off, rfl, hc⟩ := hx (by omega)
      have hlen : k < ss.length := by rw [HL.out]; omega
      have bx := dx.nth (by omega) k
      have hck := cell_later hbel (hc k hlt)
      have hcs := hq.cell k hlen
      have hcf := hq.free k
      obtain ⟨x, HX⟩ : ∃ x, Hid (nth xs k = x) := ⟨_, rfl⟩
      rw [HX.out] at hck bx
      have hm1 : x * 2 ^ s ≤ 4294967295 * 2147483648 := Int.mul_le_mul (by omega) hp3 (by omega) (by omega)
      have hm0 : 0 ≤ x * 2 ^ s := Int.mul_nonneg bx.1 (by omega)
      have hor := or_shift s c x hc0 hc1 bx.1 (by omega)
      clear hc hx
      have hcl : (c + x * 2 ^ s) / 4294967296 < 2 ^ s := by
        apply Int.ediv_lt_of_lt_mul (by omega)
        have : x * 2 ^ s ≤ 4294967295 * 2 ^ s := Int.mul_le_mul_of_nonneg_right (by omega) (by omega)
        omega
      have hcl0 : 0 ≤ (c + x * 2 ^ s) / 4294967296 := Int.ediv_nonneg (by omega) (by omega)
      have HS := up_step xs ss k s c (c + x * 2 ^ s) hlen H.out (by rw [HX.out])
      go_wp2
      go_roundw
      case rel => exact ⟨k + 1, _, _, by omega, by go_num, rfl, hcl0, hcl, hq.set k _, by unfold Hid; rw [List.length_set]; exact HL.out, hd.set (by omega) (by omega) k, HS, hbel.setCell (p := ⟨w.heap.size, k, none⟩) (Nat.le_refl _) _⟩
      case measure => simp [intOf]; omega
    · have hke : k = xs.length := by omega
      subst hke
      have hlen : xs.length < ss.length := by rw [HL.out]; omega
      have hcs := hq.cell xs.length hlen
      have hcf := hq.free xs.length
      have HE := up_end xs ss s xs.length c HL.out rfl H.out
      have hcw : c < 4294967296 := by omega
      go_wp2
      go_ret
      exact ⟨w.heap.size, _, rfl, Nat.le_refl _, hq.set xs.length c, by rw [List.length_set]; exact HL.out, hd.set hc0 hcw _, HE, hbel.setCell (p := ⟨w.heap.size, xs.length, none⟩) (Nat.le_refl _) _⟩

/-- a word shifted down, the word above it given -/
theorem down_word (s : Nat) (hs : s ≤ 31) (a x : Int) (ha : 0 ≤ a) (ha1 : a < 4294967296) (hx : 0 ≤ x) (hx1 : x < 4294967296) :
    ((a * 4294967296 + x) / 2 ^ s % 4294967296) * 2 ^ s + x % 2 ^ s = (a % 2 ^ s) * 4294967296 + x := by
  have hp := pow_pos (show (0 : Int) < 2 by omega) s
  have hW : (4294967296 : Int) = 2 ^ s * 2 ^ (32 - s) := by
    rw [← Int.pow_add, show s + (32 - s) = 32 by omega]; decide
  have h1 := Int.emod_add_mul_ediv a (2 ^ s)
  have h2 := Int.emod_nonneg a (show (2 : Int) ^ s ≠ 0 by omega)
  have h3 := Int.emod_lt_of_pos a hp
  have e1 : (a * 4294967296 + x) / 2 ^ s = (a / 2 ^ s) * 4294967296 + ((a % 2 ^ s) * 4294967296 + x) / 2 ^ s := by
    have : a * 4294967296 + x = ((a % 2 ^ s) * 4294967296 + x) + 2 ^ s * ((a / 2 ^ s) * 4294967296) := by
      conv => lhs; rw [← h1]
      rw [Int.add_mul, Int.mul_assoc]; omega
    rw [this, Int.add_mul_ediv_left _ _ (by omega)]; omega
  have hlt : (a % 2 ^ s) * 4294967296 + x < 4294967296 * 2 ^ s := by
    have : (a % 2 ^ s) * 4294967296 ≤ (2 ^ s - 1) * 4294967296 := Int.mul_le_mul_of_nonneg_right (by omega) (by omega)
    omega
  have hnn : 0 ≤ (a % 2 ^ s) * 4294967296 + x := by
    have := Int.mul_nonneg h2 (show (0 : Int) ≤ 4294967296 by omega)
    omega
  have h4 := Int.ediv_lt_of_lt_mul hp hlt
  have h5 := Int.ediv_nonneg hnn (Int.le_of_lt hp)
  have e2 : ((a / 2 ^ s) * 4294967296 + ((a % 2 ^ s) * 4294967296 + x) / 2 ^ s) % 4294967296 = ((a % 2 ^ s) * 4294967296 + x) / 2 ^ s := by
    rw [Int.add_comm, Int.add_mul_emod_self_right, Int.emod_eq_of_lt h5 h4]
  rw [e1, e2]
  have h6 := Int.emod_add_mul_ediv ((a % 2 ^ s) * 4294967296 + x) (2 ^ s)
  have h7 : ((a % 2 ^ s) * 4294967296 + x) % 2 ^ s = x % 2 ^ s := by
    rw [show (a % 2 ^ s) * 4294967296 = 2 ^ s * ((a % 2 ^ s) * 2 ^ (32 - s)) by rw [hW]; grind, Int.add_comm, Int.add_mul_emod_self_left]
  rw [h7] at h6
  rw [Int.mul_comm]
  omega
theorem down_step (xs ss : List Int) (k s : Nat) (d : Int) (hk : k < ss.length) (H : val 4294967296 (ss.drop (k + 1)) * 2 ^ s + nth xs (k + 1) % 2 ^ s = val 4294967296 (xs.drop (k + 1))) (hd : d * 2 ^ s + nth xs k % 2 ^ s = (nth xs (k + 1) % 2 ^ s) * 4294967296 + nth xs k) :
    val 4294967296 ((ss.set k d).drop k) * 2 ^ s + nth xs k % 2 ^ s = val 4294967296 (xs.drop k) := by
  rw [val_drop _ xs k, val_drop _ (ss.set k d) k, ← H, nth_set _ _ _ _ hk, if_pos rfl, List.drop_set, if_pos (by omega)]
  generalize nth xs k % 2 ^ s = p1 at *
  generalize nth xs (k + 1) % 2 ^ s = p2 at *
  grind

set_option maxRecDepth 100000 in
set_option maxHeartbeats 1600000 in
theorem n_down_any (ao : Option Addr) (c1 : Nat) (xs : List Int) (s : Nat) (w : World) (hl : xs.length ≤ 2000) (hs : s ≤ 31) (hx : Rw .u32 w ao xs) (dx : Dig 4294967296 xs) :
    Calls Tryz.prog 194 #[.slice ao xs.length c1, .int .i64 s] w fun e w' => ∃ g ss, e = .returned (.slice (some ⟨g, 0, none⟩) xs.length xs.length) ∧ w.heap.size ≤ g ∧ Blk .u32 174 w' g ss ∧ ss.length = xs.length ∧ Dig 4294967296 ss ∧ val 4294967296 ss * 2 ^ s + nth xs 0 % 2 ^ s = val 4294967296 xs ∧ Below w.heap.size w w' := by
  obtain ⟨i0, hi, hz0, hz1, hz2⟩ := info_parts Tryz.infoU32
  go_enter Tryz.func194, Tryz.ntmps194
  go_wp2_with (at_make; refine wpList_make_full _ rfl _ _ 54 rfl w.heap.size 174 i0 (.int .u32 0) 1 Tryz.underlying54 hi hz0 hz1 .i64 .i64 _ _ xs.length rfl rfl rfl rfl (by rw [hz2]; omega) (by unfold maxLen; omega) (Nat.le_refl _) ?_)
  intro w0 hown0 hgrow0
  have hq0 := Blk.made hown0
  have hb0 : Below w.heap.size w w0 := (Below.refl _ _).grown hgrow0 (Nat.le_refl _) (by simp)
  clear hown0 hgrow0
  have hp2 := pow_pos (show (0 : Int) < 2 by omega) s
  go_wp2
  go_loopw [6, 7] (fun av iv wr => ∃ (k : Nat) (ss : List Int) (a : Int), k ≤ xs.length ∧ iv = .int .i64 ((k : Int) - 1) ∧ av = .int .u64 a ∧ Hid (a = nth xs k) ∧ 0 ≤ a ∧ a < 4294967296 ∧ Blk .u32 174 wr w.heap.size ss ∧ Hid (ss.length = xs.length) ∧ Dig 4294967296 ss ∧
      Hid (val 4294967296 (ss.drop k) * 2 ^ s + nth xs k % 2 ^ s = val 4294967296 (xs.drop k)) ∧ Below w.heap.size w wr)
    (fun _ iv _ => (intOf iv + 1).toNat)
  case atStart =>
    refine ⟨xs.length, _, 0, Nat.le_refl _, rfl, rfl, (nth_ge xs _ (Nat.le_refl _)).symm, by omega, by omega, hq0, by simp [Hid], Dig.replicate (by omega) _, ?_, hb0⟩
    unfold Hid
    rw [List.drop_of_length_le (by simp), List.drop_of_length_le (Nat.le_refl _), nth_ge xs _ (Nat.le_refl _)]; simp [val]
  case round =>
    clear hq0 hb0
    obtain ⟨k, ss, a, hk, rfl, rfl, HA, ha0, ha1, hq, HL, hd, H, hbel⟩ := hrel
    rcases k with _ | k
    · go_wp2
      go_ret
      exact ⟨w.heap.size, ss, rfl, Nat.le_refl _, hq, HL.out, hd, by have := H.out; simpa using this, hbel⟩
    · obtain ⟨b, off, rfl, hc⟩ := hx (by omega)
      have hlen : k < ss.length := by rw [HL.out]; omega
      have bx := dx.nth (by omega) k
      have hck := cell_later hbel (hc k (by omega))
      have hcs := hq.cell k hlen
      have hcf := hq.free k
      obtain ⟨x, HX⟩ : ∃ x, Hid (nth xs k = x) := ⟨_, rfl⟩
      rw [HX.out] at hck bx
      have hor := or_32 a x ha0 ha1 bx.1 bx.2
      have HD := down_word s hs a x ha0 ha1 bx.1 bx.2
      have HS := down_step xs ss k s _ hlen H.out (by rw [HX.out, ← HA.out]; exact HD)
      rw [show (((k + 1 : Nat) : Int) - 1) = (k : Int) by omega]
      have hbl : b < w.heap.size := lt_of_cell (hc k (by omega))
      have hne1 : ¬ (b = w.heap.size) := by omega
      have hne2 : ¬ (w.heap.size = b) := by omega
      clear hc hx HD
      go_wp2
      go_roundw
      case rel => exact ⟨k, _, x, by omega, rfl, rfl, HX.out.symm, bx.1, bx.2, hq.set k _, by unfold Hid; rw [List.length_set]; exact HL.out, hd.set (by omega) (by omega) k, HS, hbel.setCell (p := ⟨w.heap.size, k, none⟩) (Nat.le_refl _) _⟩
      case measure => simp [intOf]
end Go.Proofs.YtknnjibmacmniaaGreatDoor

/- natural: takeAway, putBack. -/
namespace Go.Proofs.YtknnjibmacmniaaGreatDoor
open Go.RowKit
set_option linter.unusedVariables false

/-- nothing but the block g has turned -/
def Only (g : Nat) (w w' : World) : Prop := w'.os = w.os ∧ w'.tape = w.tape ∧ w'.output = w.output ∧ w'.heap.size = w.heap.size ∧ ∀ b, b ≠ g → w'.heap[b]? = w.heap[b]?
theorem Only.refl (g : Nat) (w : World) : Only g w w := ⟨rfl, rfl, rfl, rfl, fun _ _ => rfl⟩
theorem Only.set {g : Nat} {w w' : World} (h : Only g w w') (o : Nat) (v : Value) : Only g w (w'.setCell ⟨g, o, none⟩ v) :=
  ⟨h.1, h.2.1, h.2.2.1, by rw [show (w'.setCell ⟨g, o, none⟩ v).heap.size = w'.heap.size by simp [World.setCell]]; exact h.2.2.2.1, fun b hb => (Below.heap_setCell w' ⟨g, o, none⟩ v b hb).trans (h.2.2.2.2 b hb)⟩
theorem Only.below {g B : Nat} {w w' : World} (h : Only g w w') (hB : B ≤ g) : Below B w w' := ⟨h.1, h.2.1, h.2.2.1, by rw [h.2.2.2.1]; exact Nat.le_refl _, fun k hk => h.2.2.2.2 k (by omega)⟩
theorem Only.trans {g : Nat} {a b c : World} (h : Only g a b) (k : Only g b c) : Only g a c :=
  ⟨k.1.trans h.1, k.2.1.trans h.2.1, k.2.2.1.trans h.2.2.1, k.2.2.2.1.trans h.2.2.2.1, fun i hi => (k.2.2.2.2 i hi).trans (h.2.2.2.2 i hi)⟩
theorem Only.cell {g : Nat} {w w' : World} (h : Only g w w') {p : Addr} (hp : p.block ≠ g) : w'.cell? p = w.cell? p := World.cell?_of_block (w := w) (h.2.2.2.2 p.block hp)

theorem take_step (rs ds : List Int) (off k : Nat) (q c t p' c2 V : Int) (hk : off + k < rs.length) (H : val 4294967296 rs - c * 4294967296 ^ (off + k) = V - q * (4294967296 ^ off * val 4294967296 (ds.take k)))
    (ht : t = c + q * nth ds k) (hp : p' = nth rs (off + k) - t + 4294967296 * c2) :
    val 4294967296 (rs.set (off + k) p') - c2 * 4294967296 ^ (off + (k + 1)) = V - q * (4294967296 ^ off * val 4294967296 (ds.take (k + 1))) := by
  rw [val_set _ _ _ _ hk, val_take_succ, ← Nat.add_assoc, Int.pow_succ, Int.pow_add]
  rw [Int.pow_add] at H
  generalize nth rs (off + k) = p0 at *
  generalize nth ds k = d0 at *
  generalize val 4294967296 rs = A at *
  generalize val 4294967296 (ds.take k) = D at *
  generalize (4294967296 : Int) ^ off = p at *
  generalize (4294967296 : Int) ^ k = p2 at *
  grind
theorem take_end (rs ds : List Int) (off m : Nat) (q c p' t V : Int) (hk : off + m < rs.length) (hm : ds.length = m) (H : val 4294967296 rs - c * 4294967296 ^ (off + m) = V - q * (4294967296 ^ off * val 4294967296 (ds.take m)))
    (hp : p' = nth rs (off + m) - c + 4294967296 * t) :
    val 4294967296 (rs.set (off + m) p') = V - q * (4294967296 ^ off * val 4294967296 ds) + t * 4294967296 ^ (off + m + 1) := by
  rw [List.take_of_length_le (by omega)] at H
  rw [val_set _ _ _ _ hk, Int.pow_succ]
  generalize nth rs (off + m) = p0 at *
  generalize val 4294967296 rs = A at *
  generalize val 4294967296 ds = D at *
  generalize (4294967296 : Int) ^ off = p at *
  generalize (4294967296 : Int) ^ (off + m) = p2 at *
  grind

theorem put_step (rs ds : List Int) (off k : Nat) (c t V : Int) (hk : off + k < rs.length) (H : val 4294967296 rs + c * 4294967296 ^ (off + k) = V + 4294967296 ^ off * val 4294967296 (ds.take k))
    (ht : t = c + (nth rs (off + k) + nth ds k)) :
    val 4294967296 (rs.set (off + k) (t % 4294967296)) + (t / 4294967296) * 4294967296 ^ (off + (k + 1)) = V + 4294967296 ^ off * val 4294967296 (ds.take (k + 1)) := by
  rw [val_set _ _ _ _ hk, val_take_succ, ← Nat.add_assoc, Int.pow_succ, Int.pow_add]
  rw [Int.pow_add] at H
  have h1 : t = 4294967296 * (t / 4294967296) + t % 4294967296 := by omega
  generalize t / 4294967296 = q at *
  generalize t % 4294967296 = r at *
  generalize nth rs (off + k) = p0 at *
  generalize nth ds k = d0 at *
  generalize val 4294967296 rs = A at *
  generalize val 4294967296 (ds.take k) = D at *
  generalize (4294967296 : Int) ^ off = p at *
  generalize (4294967296 : Int) ^ k = p2 at *
  grind
theorem put_end (rs ds : List Int) (off m : Nat) (c p' t V : Int) (hk : off + m < rs.length) (hm : ds.length = m) (H : val 4294967296 rs + c * 4294967296 ^ (off + m) = V + 4294967296 ^ off * val 4294967296 (ds.take m))
    (hp : p' = nth rs (off + m) + c - 4294967296 * t) :
    val 4294967296 (rs.set (off + m) p') = V + 4294967296 ^ off * val 4294967296 ds - t * 4294967296 ^ (off + m + 1) := by
  rw [List.take_of_length_le (by omega)] at H
  rw [val_set _ _ _ _ hk, Int.pow_succ]
  generalize nth rs (off + m) = p0 at *
  generalize val 4294967296 rs = A at *
  generalize val 4294967296 ds = D at *
  generalize (4294967296 : Int) ^ off = p at *
  generalize (4294967296 : Int) ^ (off + m) = p2 at *
  grind

set_option maxRecDepth 100000 in
set_option maxHeartbeats 3200000 in
theorem n_take_any (g off h m cap cap' : Nat) (rs ds : List Int) (q : Int) (w : World) (hne : h ≠ g) (hm : ds.length = m) (hml : m ≤ 1000) (hr : Blk .u32 174 w g rs) (hlr : off + m < rs.length) (hlr2 : rs.length ≤ 2000)
    (hc : ∀ j, j < m → w.cell? ⟨h, j, none⟩ = some (.int .u32 (nth ds j))) (dr : Dig 4294967296 rs) (dd : Dig 4294967296 ds) (hq0 : 0 ≤ q) (hq1 : q < 4294967296) :
    Calls Tryz.prog 192 #[.slice (some ⟨g, off, none⟩) (m + 1) cap, .slice (some ⟨h, 0, none⟩) m cap', .int .u32 q] w fun e w' => ∃ (t : Int) (rs' : List Int), e = .returned (.bool (decide (t = 1))) ∧ (t = 0 ∨ t = 1) ∧ Blk .u32 174 w' g rs' ∧ rs'.length = rs.length ∧ Dig 4294967296 rs' ∧
      (∀ j, off + m < j → nth rs' j = nth rs j) ∧ val 4294967296 rs' = val 4294967296 rs - q * (4294967296 ^ off * val 4294967296 ds) + t * 4294967296 ^ (off + m + 1) ∧ Only g w w' := by
  obtain ⟨L, HL0⟩ : ∃ L, Hid (rs.length = L) := ⟨_, rfl⟩
  obtain ⟨V, HV⟩ : ∃ V, Hid (val 4294967296 rs = V) := ⟨_, rfl⟩
  rw [HL0.out] at hlr hlr2 ⊢
  rw [HV.out]
  go_enter Tryz.func192, Tryz.ntmps192
  go_wp2
  go_loopw [8, 17] (fun cv iv wr => ∃ (k : Nat) (ss : List Int) (c : Int), k ≤ m ∧ iv = .int .i64 k ∧ cv = .int .u64 c ∧ 0 ≤ c ∧ c < 4294967296 ∧ Blk .u32 174 wr g ss ∧ Hid (ss.length = L) ∧ Dig 4294967296 ss ∧ Hid (∀ j, off + m < j → nth ss j = nth rs j) ∧
      Hid (val 4294967296 ss - c * 4294967296 ^ (off + k) = V - q * (4294967296 ^ off * val 4294967296 (ds.take k))) ∧ Only g w wr)
    (fun _ iv _ => m - (intOf iv).toNat)
  case atStart => exact ⟨0, rs, 0, by omega, rfl, rfl, by omega, by omega, hr, HL0.out, dr, fun j _ => rfl, by simp [Hid, val, HV.out], Only.refl _ _⟩
  case round =>
    clear hr dr
    obtain ⟨k, ss, c, hk, rfl, rfl, hc0, hc1, hb, HL, hd, HN, H, hon⟩ := hrel
    by_cases hlt : k < m
    · have hlen : off + k < ss.length := by rw [HL.out]; omega
      have hck := (hon.cell (p := ⟨h, k, none⟩) hne).trans (hc k hlt)
      have bx := dd.nth (by omega) k
      have bp := hd.nth (by omega) (off + k)
      have hcs := hb.cell (off + k) hlen
      have hcf := hb.free (off + k)
      obtain ⟨x, HX⟩ : ∃ x, Hid (nth ds k = x) := ⟨_, rfl⟩
      obtain ⟨p, HP⟩ : ∃ p, Hid (nth ss (off + k) = p) := ⟨_, rfl⟩
      rw [HX.out] at hck bx
      rw [HP.out] at hcs bp
      have hm0 : 0 ≤ q * x := Int.mul_nonneg hq0 bx.1
      have hm2 : q * x ≤ 18446744065119617025 := by
        have hm1 : q * x ≤ 4294967295 * 4294967295 := Int.mul_le_mul (by omega) (by omega) bx.1 (by omega)
        omega
      clear hc
      by_cases hC : p < (c + q * x) % 4294967296
      · have HS := take_step ss ds off k q c (c + q * x) ((p - (c + q * x)) % 4294967296) ((c + q * x) / 4294967296 + 1) V hlen H.out (by rw [HX.out]) (by rw [HP.out]; omega)
        go_wp2
        go_roundw
        case rel => exact ⟨k + 1, _, _, by omega, by go_num, rfl, by omega, by omega, hb.set (off + k) _, by unfold Hid; rw [List.length_set]; exact HL.out, hd.set (by omega) (by omega) _, fun j hj => by rw [nth_set _ _ _ _ hlen, if_neg (by omega)]; exact HN.out j (by omega), HS, hon.set _ _⟩
        case measure => simp [intOf]; omega
      · have HS := take_step ss ds off k q c (c + q * x) (p - (c + q * x) % 4294967296) ((c + q * x) / 4294967296) V hlen H.out (by rw [HX.out]) (by rw [HP.out]; omega)
        go_wp2
        go_roundw
        case rel => exact ⟨k + 1, _, _, by omega, by go_num, rfl, by omega, by omega, hb.set (off + k) _, by unfold Hid; rw [List.length_set]; exact HL.out, hd.set (by omega) (by omega) _, fun j hj => by rw [nth_set _ _ _ _ hlen, if_neg (by omega)]; exact HN.out j (by omega), HS, hon.set _ _⟩
        case measure => simp [intOf]; omega
    · have hke : k = m := by omega
      subst hke
      have hlen : off + k < ss.length := by rw [HL.out]; omega
      have bp := hd.nth (by omega) (off + k)
      have hcs := hb.cell (off + k) hlen
      have hcf := hb.free (off + k)
      obtain ⟨p, HP⟩ : ∃ p, Hid (nth ss (off + k) = p) := ⟨_, rfl⟩
      rw [HP.out] at hcs bp
      by_cases hC : p < c
      · have HE := take_end ss ds off k q c ((p - c) % 4294967296) 1 V hlen hm H.out (by rw [HP.out]; omega)
        go_wp2
        go_ret
        exact ⟨1, _, by simp, Or.inr rfl, hb.set (off + k) _, by rw [List.length_set]; exact HL.out, hd.set (by omega) (by omega) _, fun j hj => by rw [nth_set _ _ _ _ hlen, if_neg (by omega)]; exact HN.out j hj, HE, hon.set _ _⟩
      · have HE := take_end ss ds off k q c (p - c) 0 V hlen hm H.out (by rw [HP.out]; omega)
        go_wp2
        go_ret
        exact ⟨0, by simp, Or.inl rfl, _, hb.set (off + k) _, by rw [List.length_set]; exact HL.out, hd.set (by omega) (by omega) _, fun j hj => by rw [nth_set _ _ _ _ hlen, if_neg (by omega)]; exact HN.out j hj, HE, hon.set _ _⟩

set_option maxRecDepth 100000 in
set_option maxHeartbeats 3200000 in
theorem n_put_any (g off h m cap cap' : Nat) (rs ds : List Int) (w : World) (hne : h ≠ g) (hm : ds.length = m) (hml : m ≤ 1000) (hr : Blk .u32 174 w g rs) (hlr : off + m < rs.length) (hlr2 : rs.length ≤ 2000)
    (hc : ∀ j, j < m → w.cell? ⟨h, j, none⟩ = some (.int .u32 (nth ds j))) (dr : Dig 4294967296 rs) (dd : Dig 4294967296 ds) :
    Calls Tryz.prog 193 #[.slice (some ⟨g, off, none⟩) (m + 1) cap, .slice (some ⟨h, 0, none⟩) m cap'] w fun e w' => ∃ (t : Int) (rs' : List Int), e = .returned (.tuple #[]) ∧ (t = 0 ∨ t = 1) ∧ Blk .u32 174 w' g rs' ∧ rs'.length = rs.length ∧ Dig 4294967296 rs' ∧
      (∀ j, off + m < j → nth rs' j = nth rs j) ∧ val 4294967296 rs' = val 4294967296 rs + 4294967296 ^ off * val 4294967296 ds - t * 4294967296 ^ (off + m + 1) ∧ Only g w w' := by
  obtain ⟨L, HL0⟩ : ∃ L, Hid (rs.length = L) := ⟨_, rfl⟩
  obtain ⟨V, HV⟩ : ∃ V, Hid (val 4294967296 rs = V) := ⟨_, rfl⟩
  rw [HL0.out] at hlr hlr2 ⊢
  rw [HV.out]
  go_enter Tryz.func193, Tryz.ntmps193
  go_wp2
  go_loopw [5, 12] (fun cv iv wr => ∃ (k : Nat) (ss : List Int) (c : Int), k ≤ m ∧ iv = .int .i64 k ∧ cv = .int .u64 c ∧ 0 ≤ c ∧ c ≤ 1 ∧ Blk .u32 174 wr g ss ∧ Hid (ss.length = L) ∧ Dig 4294967296 ss ∧ Hid (∀ j, off + m < j → nth ss j = nth rs j) ∧
      Hid (val 4294967296 ss + c * 4294967296 ^ (off + k) = V + 4294967296 ^ off * val 4294967296 (ds.take k)) ∧ Only g w wr)
    (fun _ iv _ => m - (intOf iv).toNat)
  case atStart => exact ⟨0, rs, 0, by omega, rfl, rfl, by omega, by omega, hr, HL0.out, dr, fun j _ => rfl, by simp [Hid, val, HV.out], Only.refl _ _⟩
  case round =>
    clear hr dr
    obtain ⟨k, ss, c, hk, rfl, rfl, hc0, hc1, hb, HL, hd, HN, H, hon⟩ := hrel
    by_cases hlt : k < m
    · have hlen : off + k < ss.length := by rw [HL.out]; omega
      have hck := (hon.cell (p := ⟨h, k, none⟩) hne).trans (hc k hlt)
      have bx := dd.nth (by omega) k
      have bp := hd.nth (by omega) (off + k)
      have hcs := hb.cell (off + k) hlen
      have hcf := hb.free (off + k)
      obtain ⟨x, HX⟩ : ∃ x, Hid (nth ds k = x) := ⟨_, rfl⟩
      obtain ⟨p, HP⟩ : ∃ p, Hid (nth ss (off + k) = p) := ⟨_, rfl⟩
      rw [HX.out] at hck bx
      rw [HP.out] at hcs bp
      clear hc
      have HS := put_step ss ds off k c (c + (p + x)) V hlen H.out (by rw [HX.out, HP.out])
      go_wp2
      go_roundw
      case rel => exact ⟨k + 1, _, _, by omega, by go_num, rfl, by omega, by omega, hb.set (off + k) _, by unfold Hid; rw [List.length_set]; exact HL.out, hd.set (by omega) (by omega) _, fun j hj => by rw [nth_set _ _ _ _ hlen, if_neg (by omega)]; exact HN.out j (by omega), HS, hon.set _ _⟩
      case measure => simp [intOf]; omega
    · have hke : k = m := by omega
      subst hke
      have hlen : off + k < ss.length := by rw [HL.out]; omega
      have bp := hd.nth (by omega) (off + k)
      have hcs := hb.cell (off + k) hlen
      have hcf := hb.free (off + k)
      obtain ⟨p, HP⟩ : ∃ p, Hid (nth ss (off + k) = p) := ⟨_, rfl⟩
      rw [HP.out] at hcs bp
      obtain ⟨t, HT⟩ : ∃ t, Hid (t = (p + c) / 4294967296) := ⟨_, rfl⟩
      have HE := put_end ss ds off k c ((p + c) % 4294967296) t V hlen hm H.out (by rw [HP.out]; have := HT.out; omega)
      go_wp2
      refine bodyPost_end (v := .tuple #[]) (by simp [results, Tryz.results193, go_sem]) rfl ⟨t, _, rfl, by have := HT.out; omega, hb.set (off + k) _, by rw [List.length_set]; exact HL.out, hd.set (by omega) (by omega) _, fun j hj => by rw [nth_set _ _ _ _ hlen, if_neg (by omega)]; exact HN.out j hj, HE, hon.set _ _⟩
end Go.Proofs.YtknnjibmacmniaaGreatDoor
