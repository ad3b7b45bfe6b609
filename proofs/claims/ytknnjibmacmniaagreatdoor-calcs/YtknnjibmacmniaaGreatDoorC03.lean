/- abacusref: trim, compare. -/
import Derived.Test.YtknnjibmacmniaaGreatDoorC02
namespace Go.Proofs.YtknnjibmacmniaaGreatDoor
open Go.RowKit
set_option linter.unusedVariables false

set_option maxHeartbeats 400000 in
theorem r_trim_raw (ao : Option Addr) (cap : Nat) (zs : List Int) (w : World) (hcap : zs.length ≤ cap) (hl : zs.length ≤ 1000000) (hs : Rw .i64 w ao zs) :
    Calls Tryz.prog 70 #[.slice ao zs.length cap] w fun e w' => e = .returned (.slice ao (cutLen zs zs.length) cap) ∧ w' = w := by
  go_enter Tryz.func70, Tryz.ntmps70
  go_wp2
  go_loop [3] (fun n => ∃ k : Nat, k ≤ zs.length ∧ n = .int .i64 k ∧ Hid (cutLen zs k = cutLen zs zs.length)) (fun n => (intOf n).toNat)
  case atStart => exact ⟨zs.length, Nat.le_refl _, rfl, rfl⟩
  case round =>
    obtain ⟨k, hk, rfl, H⟩ := hrel
    rcases k with _ | k
    · go_wp2
      go_ret
      exact ⟨by rw [← H.out]; rfl, rfl⟩
    · obtain ⟨b, off, rfl, hc⟩ := hs (by omega)
      clear hs
      obtain ⟨x, hx⟩ : ∃ x, x = nth zs k := ⟨_, rfl⟩
      have hck : w.cell? ⟨b, off + k, none⟩ = some (.int .i64 x) := by rw [hx]; exact hc k (by omega)
      have HX : Hid (x = nth zs k) := hx
      clear hc hx
      by_cases h0 : x = 0
      · have hb : (x == 0) = true := by simp [h0]
        have H' : Hid (cutLen zs k = cutLen zs zs.length) := by rw [← H.out, cutLen_zero zs k (by rw [← HX.out]; exact h0)]; exact rfl
        clear h0
        go_wp2
        go_round
        case rel => exact ⟨k, by omega, rfl, H'⟩
        case measure => simp [intOf]
      · have hb : (x == 0) = false := by simp [h0]
        have H' : Hid (k + 1 = cutLen zs zs.length) := by rw [← H.out, cutLen_pos zs k (by rw [← HX.out]; exact h0)]; exact rfl
        clear h0
        go_wp2
        go_ret
        exact ⟨by rw [← H'.out]; rfl, rfl⟩

theorem r_trim_any (v : Value) (zs : List Int) (w : World) (h : Sl .i64 w v zs) (hl : zs.length ≤ 1000000) :
    Calls Tryz.prog 70 #[v] w fun e w' => ∃ v', e = .returned v' ∧ w' = w ∧ Sl .i64 w v' (cut zs) ∧ v'.ownBlock = v.ownBlock := by
  obtain ⟨ao, cap, rfl, h1, h2, h3⟩ := h
  refine (r_trim_raw ao cap zs w h1 hl h3).mono ?_
  rintro e w' ⟨rfl, rfl⟩
  exact ⟨_, rfl, rfl, ⟨ao, cap, by rw [cut_length], by rw [cut_length]; have := cutLen_le zs zs.length; omega, h2, h3.take _⟩, by cases ao <;> rfl⟩

def sgn3 (x y : Int) : Int := if x < y then -1 else if y < x then 1 else 0
theorem sgn3_lt {x y : Int} (h : x < y) : sgn3 x y = -1 := by simp [sgn3, h]
theorem sgn3_gt {x y : Int} (h : y < x) : sgn3 x y = 1 := by unfold sgn3; rw [if_neg (by omega), if_pos h]
theorem sgn3_eq {x y : Int} (h : x = y) : sgn3 x y = 0 := by unfold sgn3; rw [if_neg (by omega), if_neg (by omega)]

set_option maxHeartbeats 800000 in
theorem r_compare_raw (ao bo : Option Addr) (c1 c2 : Nat) (xs ys : List Int) (w : World) (hlx : xs.length ≤ 1000000) (hly : ys.length ≤ 1000000) (hx : Rw .i64 w ao xs) (hy : Rw .i64 w bo ys)
    (dx : Dig 10 xs) (dy : Dig 10 ys) (tx : Top xs) (ty : Top ys) :
    Calls Tryz.prog 66 #[.slice ao xs.length c1, .slice bo ys.length c2] w fun e w' => e = .returned (.int .i64 (sgn3 (val 10 xs) (val 10 ys))) ∧ Below w.heap.size w w' := by
  by_cases h1 : xs.length < ys.length
  · have hb : (((xs.length : Nat) : Int) == ((ys.length : Nat) : Int)) = false := by simp; omega
    have H := sgn3_lt (val_lt_of_length (by omega) dx dy ty h1)
    go_enter Tryz.func66, Tryz.ntmps66
    go_wp2
    go_ret
    exact ⟨ret_int (by rw [H]), Below.refl _ _⟩
  · by_cases h2 : ys.length < xs.length
    · have hb : (((xs.length : Nat) : Int) == ((ys.length : Nat) : Int)) = false := by simp; omega
      have H := sgn3_gt (val_lt_of_length (by omega) dy dx tx h2)
      go_enter Tryz.func66, Tryz.ntmps66
      go_wp2
      go_ret
      exact ⟨ret_int (by rw [H]), Below.refl _ _⟩
    · have hb : (((xs.length : Nat) : Int) == ((ys.length : Nat) : Int)) = true := by simp; omega
      have he : Hid (xs.length = ys.length) := by unfold Hid; omega
      have h3 : xs.length ≤ ys.length := by omega
      have h4 : ys.length ≤ xs.length := by omega
      clear h1 h2
      go_enter Tryz.func66, Tryz.ntmps66
      go_wp2
      go_loopw [5] (fun i wr => ∃ k : Nat, k ≤ xs.length ∧ i = .int .i64 ((k : Int) - 1) ∧ Hid (val 10 (xs.drop k) = val 10 (ys.drop k)) ∧ Below w.heap.size w wr) (fun i _ => (intOf i + 1).toNat)
      case atStart =>
        refine ⟨xs.length, Nat.le_refl _, rfl, ?_, Below.refl _ _⟩
        rw [List.drop_of_length_le (by omega), List.drop_of_length_le (by omega)]; exact rfl
      case round =>
        obtain ⟨k, hk, rfl, H, hbel⟩ := hrel
        rcases k with _ | k
        · go_wp2
          go_ret
          exact ⟨ret_int (by have := H.out; simp only [List.drop_zero] at this; rw [sgn3_eq this]), hbel⟩
        · obtain ⟨b, off, rfl, hc⟩ := hx (by omega)
          obtain ⟨b', off', rfl, hc'⟩ := hy (by omega)
          clear hx hy
          obtain ⟨x, hx⟩ : ∃ x, x = nth xs k := ⟨_, rfl⟩
          obtain ⟨y, hy⟩ : ∃ y, y = nth ys k := ⟨_, rfl⟩
          have hck : wr.cell? ⟨b, off + k, none⟩ = some (.int .i64 x) := by rw [hx]; exact cell_later hbel (hc k (by omega))
          have hck' : wr.cell? ⟨b', off' + k, none⟩ = some (.int .i64 y) := by rw [hy]; exact cell_later hbel (hc' k (by omega))
          have HX : Hid (x = nth xs k) := hx
          have HY : Hid (y = nth ys k) := hy
          clear hc hc' hx hy
          have g1 : k < xs.length := by omega
          have g2 : k < ys.length := by omega
          rw [show (((k + 1 : Nat) : Int) - 1) = (k : Int) by omega]
          rcases Int.lt_trichotomy x y with hlt | heq | hgt
          · have HL := sgn3_lt (val_lt_of_nth (by omega) dx dy k g1 g2 (by rw [← HX.out, ← HY.out]; exact hlt) H.out)
            go_wp2
            go_quiet (fail)
            go_wp2
            go_ret
            exact ⟨ret_int (by rw [HL]), by repeat (first | exact hbel | apply Below.drew | apply Below.drewN)⟩
          · subst heq
            have H' : Hid (val 10 (xs.drop k) = val 10 (ys.drop k)) := by
              unfold Hid; rw [val_drop 10 xs k, val_drop 10 ys k, H.out, ← HX.out, ← HY.out]
            go_wp2
            go_quiet (fail)
            go_wp2
            go_quiet (fail)
            go_wp2
            go_roundw
            case rel => exact ⟨k, by omega, rfl, H', by repeat (first | exact hbel | apply Below.drew | apply Below.drewN)⟩
            case measure => simp [intOf]
          · have HL := sgn3_gt (val_lt_of_nth (by omega) dy dx k g2 g1 (by rw [← HX.out, ← HY.out]; exact hgt) H.out.symm)
            go_wp2
            go_quiet (fail)
            go_wp2
            go_quiet (fail)
            go_wp2
            go_ret
            exact ⟨ret_int (by rw [HL]), by repeat (first | exact hbel | apply Below.drew | apply Below.drewN)⟩

theorem r_compare_any (v u : Value) (x y : Int) (w : World) (hx : Rep .i64 10 w v x) (hy : Rep .i64 10 w u y) (bx : x < lim) (bY : y < lim) :
    Calls Tryz.prog 66 #[v, u] w fun e w' => e = .returned (.int .i64 (sgn3 x y)) ∧ Below w.heap.size w w' := by
  obtain ⟨xs, ⟨ao, c1, rfl, h1, h2, h3⟩, h4, h5, rfl⟩ := hx
  obtain ⟨ys, ⟨bo, c2, rfl, g1, g2, g3⟩, g4, g5, rfl⟩ := hy
  have k1 := len_of_val h4 h5 bx
  have k2 := len_of_val g4 g5 bY
  exact r_compare_raw ao bo c1 c2 xs ys w (by omega) (by omega) h3 g3 h4 g4 h5 g5
end Go.Proofs.YtknnjibmacmniaaGreatDoor

/- abacusref: plus, minus. -/
namespace Go.Proofs.YtknnjibmacmniaaGreatDoor
open Go.RowKit
set_option linter.unusedVariables false

/-- what one round of a sum does -/
theorem plus_step (xs ys cs : List Int) (i : Nat) (c n : Int) (hl : cs.length = i) (H : val 10 cs + c * 10 ^ i = val 10 (xs.take i) + val 10 (ys.take i)) (hn : n = c + nth xs i + nth ys i) :
    val 10 (cs ++ [n % 10]) + (n / 10) * 10 ^ (i + 1) = val 10 (xs.take (i + 1)) + val 10 (ys.take (i + 1)) := by
  rw [val_snoc, val_take_succ, val_take_succ, hl, Int.pow_succ]
  have h1 : n = 10 * (n / 10) + n % 10 := by omega
  generalize n / 10 = q at *
  generalize n % 10 = r at *
  generalize (10 : Int) ^ i = p at *
  grind

set_option maxRecDepth 100000 in
set_option maxHeartbeats 1600000 in
theorem r_plus_raw (ao bo : Option Addr) (c1 c2 : Nat) (xs ys : List Int) (w : World) (hlx : xs.length ≤ 1000) (hly : ys.length ≤ 1000) (hx : Rw .i64 w ao xs) (hy : Rw .i64 w bo ys)
    (dx : Dig 10 xs) (dy : Dig 10 ys) :
    Calls Tryz.prog 112 #[.slice ao xs.length c1, .slice bo ys.length c2] w fun e w' => ∃ v, e = .returned v ∧ Rep .i64 10 w' v (val 10 xs + val 10 ys) ∧ Below w.heap.size w w' ∧ Fr w.heap.size v := by
  obtain ⟨i0, hi, hz0, hz1, hz2⟩ := info_parts Tryz.infoInt
  go_enter Tryz.func112, Tryz.ntmps112
  go_wp2
  go_loopw [5, 6, 7] (fun v c i wr => ∃ (k : Nat) (cs : List Int) (cy : Int), k ≤ 1001 ∧ i = .int .i64 k ∧ c = .int .i64 cy ∧ 0 ≤ cy ∧ cy ≤ 1 ∧ Hid (cs.length = k) ∧ Dig 10 cs ∧
      Hid (val 10 cs + cy * 10 ^ k = val 10 (xs.take k) + val 10 (ys.take k)) ∧ wr.ownsRow w.heap.size 3 1 v k (cs.map (Value.int .i64)) ∧ Below w.heap.size w wr ∧ (k = 1001 → cy = 0))
    (fun _ _ i _ => 1001 - (intOf i).toNat)
  case atStart => exact ⟨0, [], 0, by omega, rfl, rfl, by omega, by omega, rfl, Dig.nil, rfl, World.ownsRow_nil _ _ _ _, Below.refl _ _, fun _ => rfl⟩
  case round =>
    obtain ⟨k, cs, cy, hk, rfl, rfl, hc0, hc1, HL, hd, H, hown, hbel, hlast⟩ := hrel
    have bx := dx.nth (by omega) k
    have bY := dy.nth (by omega) k
    have hsz := hbel.size
    have hx0 : xs.length ≤ k → nth xs k = 0 := nth_ge xs k
    have hy0 : ys.length ≤ k → nth ys k = 0 := nth_ge ys k
    generalize Hx : nth xs k = x at *
    generalize Hy : nth ys k = y at *
    have HX : Hid (nth xs k = x) := Hx
    have HY : Hid (nth ys k = y) := Hy
    clear Hx Hy
    rcases (show (k < xs.length ∧ k < ys.length) ∨ (k < xs.length ∧ ys.length ≤ k) ∨ (xs.length ≤ k ∧ k < ys.length) ∨ (xs.length ≤ k ∧ ys.length ≤ k ∧ 0 < cy) ∨ (xs.length ≤ k ∧ ys.length ≤ k ∧ cy ≤ 0) by omega) with ⟨hA, hB⟩ | ⟨hA, hB⟩ | ⟨hA, hB⟩ | ⟨hA, hB, hC⟩ | ⟨hA, hB, hC⟩
    · obtain ⟨b, off, rfl, hc⟩ := hx (by omega)
      obtain ⟨b', off', rfl, hc'⟩ := hy (by omega)
      have hck : wr.cell? ⟨b, off + k, none⟩ = some (.int .i64 x) := by rw [← HX.out]; exact cell_later hbel (hc k hA)
      have hck' : wr.cell? ⟨b', off' + k, none⟩ = some (.int .i64 y) := by rw [← HY.out]; exact cell_later hbel (hc' k hB)
      clear hx hy hc hc' hx0 hy0
      go_wp2_with (at_builtin; refine wpList_append_own _ rfl _ _ 33 rfl w.heap.size 3 i0 (.int .i64 0) 1 8 Tryz.underlying33 hi hz0 hz1 hz2 rfl (by decide) _ _ _ rfl (hown.alloc _) ⟨wr.heap.size, 0, none⟩ 1 1 [.int .i64 _] rfl rfl (cell_one_new _ _ _) (by simp [Value.oneCell']) (by unfold maxLen; omega) (by omega) (by simp; omega) ?_)
      intro v' w1 hown' hgrow _
      have R := own_step hbel hsz hown hown' hgrow
      have HS := plus_step xs ys cs k cy (cy + x + y) HL.out H.out (by rw [HX.out, HY.out])
      clear hown' hgrow hown
      go_wp2
      go_roundw
      case rel => exact ⟨k + 1, cs ++ [(cy + x + y) % 10], (cy + x + y) / 10, by omega, by go_num, rfl, by omega, by omega, by simp [Hid, HL.out], hd.snoc (by omega) (by omega), HS, R.1, R.2, by omega⟩
      case measure => simp [intOf]; omega
    · obtain ⟨b, off, rfl, hc⟩ := hx (by omega)
      have hck : wr.cell? ⟨b, off + k, none⟩ = some (.int .i64 x) := by rw [← HX.out]; exact cell_later hbel (hc k hA)
      have HY0 : Hid (y = 0) := hy0 hB
      clear hx hy hc hx0 hy0
      go_wp2_with (at_builtin; refine wpList_append_own _ rfl _ _ 33 rfl w.heap.size 3 i0 (.int .i64 0) 1 8 Tryz.underlying33 hi hz0 hz1 hz2 rfl (by decide) _ _ _ rfl (hown.alloc _) ⟨wr.heap.size, 0, none⟩ 1 1 [.int .i64 _] rfl rfl (cell_one_new _ _ _) (by simp [Value.oneCell']) (by unfold maxLen; omega) (by omega) (by simp; omega) ?_)
      intro v' w1 hown' hgrow _
      have R := own_step hbel hsz hown hown' hgrow
      have HS := plus_step xs ys cs k cy (cy + x) HL.out H.out (by rw [HX.out, HY.out, HY0.out]; omega)
      clear hown' hgrow hown
      go_wp2
      go_roundw
      case rel => exact ⟨k + 1, cs ++ [(cy + x) % 10], (cy + x) / 10, by omega, by go_num, rfl, by omega, by omega, by simp [Hid, HL.out], hd.snoc (by omega) (by omega), HS, R.1, R.2, by omega⟩
      case measure => simp [intOf]; omega
    · obtain ⟨b', off', rfl, hc'⟩ := hy (by omega)
      have hck' : wr.cell? ⟨b', off' + k, none⟩ = some (.int .i64 y) := by rw [← HY.out]; exact cell_later hbel (hc' k hB)
      have HX0 : Hid (x = 0) := hx0 hA
      clear hx hy hc' hx0 hy0
      go_wp2_with (at_builtin; refine wpList_append_own _ rfl _ _ 33 rfl w.heap.size 3 i0 (.int .i64 0) 1 8 Tryz.underlying33 hi hz0 hz1 hz2 rfl (by decide) _ _ _ rfl (hown.alloc _) ⟨wr.heap.size, 0, none⟩ 1 1 [.int .i64 _] rfl rfl (cell_one_new _ _ _) (by simp [Value.oneCell']) (by unfold maxLen; omega) (by omega) (by simp; omega) ?_)
      intro v' w1 hown' hgrow _
      have R := own_step hbel hsz hown hown' hgrow
      have HS := plus_step xs ys cs k cy (cy + y) HL.out H.out (by rw [HX.out, HY.out, HX0.out]; omega)
      clear hown' hgrow hown
      go_wp2
      go_roundw
      case rel => exact ⟨k + 1, cs ++ [(cy + y) % 10], (cy + y) / 10, by omega, by go_num, rfl, by omega, by omega, by simp [Hid, HL.out], hd.snoc (by omega) (by omega), HS, R.1, R.2, by omega⟩
      case measure => simp [intOf]; omega
    · have HX0 : Hid (x = 0) := hx0 hA
      have HY0 : Hid (y = 0) := hy0 hB
      clear hx hy hx0 hy0
      go_wp2_with (at_builtin; refine wpList_append_own _ rfl _ _ 33 rfl w.heap.size 3 i0 (.int .i64 0) 1 8 Tryz.underlying33 hi hz0 hz1 hz2 rfl (by decide) _ _ _ rfl (hown.alloc _) ⟨wr.heap.size, 0, none⟩ 1 1 [.int .i64 _] rfl rfl (cell_one_new _ _ _) (by simp [Value.oneCell']) (by unfold maxLen; omega) (by omega) (by simp; omega) ?_)
      intro v' w1 hown' hgrow _
      have R := own_step hbel hsz hown hown' hgrow
      have HS := plus_step xs ys cs k cy (cy) HL.out H.out (by rw [HX.out, HY.out, HX0.out, HY0.out]; omega)
      clear hown' hgrow hown
      go_wp2
      go_roundw
      case rel => exact ⟨k + 1, cs ++ [(cy) % 10], (cy) / 10, by omega, by go_num, rfl, by omega, by omega, by simp [Hid, HL.out], hd.snoc (by omega) (by omega), HS, R.1, R.2, by omega⟩
      case measure => simp [intOf]; omega
    · have HF : Hid (val 10 (cut cs) = val 10 xs + val 10 ys) := by
        have h := H.out
        rw [List.take_of_length_le hA, List.take_of_length_le hB, show cy = 0 by omega] at h
        unfold Hid; rw [val_cut]; omega
      have hcs := HL.out
      have HSl := Sl.owned hown
      clear hx hy hx0 hy0 H
      go_wp2_with (go_at_call 70; refine (r_trim_any _ cs _ HSl (by omega)).mono ?_; rintro e w' ⟨v', rfl, rfl, hs', hob⟩)
      go_ret
      exact ⟨_, rfl, ⟨cut cs, hs', hd.cut, cut_top cs, HF.out⟩, hbel, fun g hg => (hown.lt g (by rw [← hob]; exact hg)).1⟩

theorem r_plus_any (v u : Value) (x y : Int) (w : World) (hx : Rep .i64 10 w v x) (hy : Rep .i64 10 w u y) (bx : x < lim) (bY : y < lim) :
    Calls Tryz.prog 112 #[v, u] w fun e w' => ∃ v, e = .returned v ∧ Rep .i64 10 w' v (x + y) ∧ Below w.heap.size w w' ∧ Fr w.heap.size v := by
  obtain ⟨xs, ⟨ao, c1, rfl, h1, h2, h3⟩, h4, h5, rfl⟩ := hx
  obtain ⟨ys, ⟨bo, c2, rfl, g1, g2, g3⟩, g4, g5, rfl⟩ := hy
  exact r_plus_raw ao bo c1 c2 xs ys w (len_of_val h4 h5 bx) (len_of_val g4 g5 bY) h3 g3 h4 g4
end Go.Proofs.YtknnjibmacmniaaGreatDoor

/- abacusref: minus. -/
namespace Go.Proofs.YtknnjibmacmniaaGreatDoor
open Go.RowKit
set_option linter.unusedVariables false

theorem minus_step (xs ys cs : List Int) (i : Nat) (c d c' : Int) (hl : cs.length = i) (H : val 10 cs - c * 10 ^ i = val 10 (xs.take i) - val 10 (ys.take i)) (hn : d - 10 * c' = nth xs i - c - nth ys i) :
    val 10 (cs ++ [d]) - c' * 10 ^ (i + 1) = val 10 (xs.take (i + 1)) - val 10 (ys.take (i + 1)) := by
  rw [val_snoc, val_take_succ, val_take_succ, hl, Int.pow_succ]
  generalize (10 : Int) ^ i = p at *
  grind
theorem minus_end (xs ys cs : List Int) (k : Nat) (c : Int) (hl : cs.length = k) (hx : xs.length = k) (hy : ys.length ≤ k) (hd : Dig 10 cs) (h0 : 0 ≤ c) (h1 : c ≤ 1) (hle : val 10 ys ≤ val 10 xs)
    (H : val 10 cs - c * 10 ^ k = val 10 (xs.take k) - val 10 (ys.take k)) : val 10 (cut cs) = val 10 xs - val 10 ys := by
  rw [List.take_of_length_le (by omega), List.take_of_length_le (by omega)] at H
  have h2 := val_lt (show (0 : Int) < 10 by omega) hd
  rw [hl] at h2
  rcases (show c = 0 ∨ c = 1 by omega) with rfl | rfl
  · rw [val_cut]; omega
  · omega

set_option maxRecDepth 100000 in
set_option maxHeartbeats 1600000 in
theorem r_minus_raw (ao bo : Option Addr) (c1 c2 : Nat) (xs ys : List Int) (w : World) (hlx : xs.length ≤ 1000) (hly : ys.length ≤ xs.length) (hx : Rw .i64 w ao xs) (hy : Rw .i64 w bo ys)
    (dx : Dig 10 xs) (dy : Dig 10 ys) (hle : val 10 ys ≤ val 10 xs) :
    Calls Tryz.prog 113 #[.slice ao xs.length c1, .slice bo ys.length c2] w fun e w' => ∃ v, e = .returned v ∧ Rep .i64 10 w' v (val 10 xs - val 10 ys) ∧ Below w.heap.size w w' ∧ Fr w.heap.size v := by
  obtain ⟨i0, hi, hz0, hz1, hz2⟩ := info_parts Tryz.infoInt
  go_enter Tryz.func113, Tryz.ntmps113
  go_wp2
  go_loopw [5, 6, 7] (fun v c i wr => ∃ (k : Nat) (cs : List Int) (cy : Int), k ≤ xs.length ∧ i = .int .i64 k ∧ c = .int .i64 cy ∧ 0 ≤ cy ∧ cy ≤ 1 ∧ Hid (cs.length = k) ∧ Dig 10 cs ∧
      Hid (val 10 cs - cy * 10 ^ k = val 10 (xs.take k) - val 10 (ys.take k)) ∧ wr.ownsRow w.heap.size 3 1 v k (cs.map (Value.int .i64)) ∧ Below w.heap.size w wr)
    (fun _ _ i _ => xs.length - (intOf i).toNat)
  case atStart => exact ⟨0, [], 0, by omega, rfl, rfl, by omega, by omega, rfl, Dig.nil, rfl, World.ownsRow_nil _ _ _ _, Below.refl _ _⟩
  case round =>
    obtain ⟨k, cs, cy, hk, rfl, rfl, hc0, hc1, HL, hd, H, hown, hbel⟩ := hrel
    have bx := dx.nth (by omega) k
    have bY := dy.nth (by omega) k
    have hsz := hbel.size
    have hy0 : ys.length ≤ k → nth ys k = 0 := nth_ge ys k
    generalize Hx : nth xs k = x at *
    generalize Hy : nth ys k = y at *
    have HX : Hid (nth xs k = x) := Hx
    have HY : Hid (nth ys k = y) := Hy
    clear Hx Hy
    rcases (show (k < xs.length ∧ k < ys.length ∧ x - cy - y < 0) ∨ (k < xs.length ∧ k < ys.length ∧ ¬ x - cy - y < 0) ∨ (k < xs.length ∧ ys.length ≤ k ∧ x - cy < 0) ∨ (k < xs.length ∧ ys.length ≤ k ∧ ¬ x - cy < 0) ∨ xs.length ≤ k by omega) with ⟨hA, hB, hC⟩ | ⟨hA, hB, hC⟩ | ⟨hA, hB, hC⟩ | ⟨hA, hB, hC⟩ | hA
    · obtain ⟨b, off, rfl, hc⟩ := hx (by omega)
      obtain ⟨b', off', rfl, hc'⟩ := hy (by omega)
      have hck : wr.cell? ⟨b, off + k, none⟩ = some (.int .i64 x) := by rw [← HX.out]; exact cell_later hbel (hc k hA)
      have hck' : wr.cell? ⟨b', off' + k, none⟩ = some (.int .i64 y) := by rw [← HY.out]; exact cell_later hbel (hc' k hB)
      clear hx hy hc hc' hy0
      go_wp2_with (at_builtin; refine wpList_append_own _ rfl _ _ 33 rfl w.heap.size 3 i0 (.int .i64 0) 1 8 Tryz.underlying33 hi hz0 hz1 hz2 rfl (by decide) _ _ _ rfl (hown.alloc _) ⟨wr.heap.size, 0, none⟩ 1 1 [.int .i64 _] rfl rfl (cell_one_new _ _ _) (by simp [Value.oneCell']) (by unfold maxLen; omega) (by omega) (by simp; omega) ?_)
      intro v' w1 hown' hgrow _
      have R := own_step hbel hsz hown hown' hgrow
      have HS := minus_step xs ys cs k cy (x - cy - y + 10) 1 HL.out H.out (by rw [HX.out, HY.out]; omega)
      clear hown' hgrow hown
      go_wp2
      go_roundw
      case rel => exact ⟨k + 1, cs ++ [x - cy - y + 10], 1, by omega, by go_num, rfl, by omega, by omega, by simp [Hid, HL.out], hd.snoc (by omega) (by omega), HS, R.1, R.2⟩
      case measure => simp [intOf]; omega
    · obtain ⟨b, off, rfl, hc⟩ := hx (by omega)
      obtain ⟨b', off', rfl, hc'⟩ := hy (by omega)
      have hck : wr.cell? ⟨b, off + k, none⟩ = some (.int .i64 x) := by rw [← HX.out]; exact cell_later hbel (hc k hA)
      have hck' : wr.cell? ⟨b', off' + k, none⟩ = some (.int .i64 y) := by rw [← HY.out]; exact cell_later hbel (hc' k hB)
      clear hx hy hc hc' hy0
      go_wp2_with (at_builtin; refine wpList_append_own _ rfl _ _ 33 rfl w.heap.size 3 i0 (.int .i64 0) 1 8 Tryz.underlying33 hi hz0 hz1 hz2 rfl (by decide) _ _ _ rfl (hown.alloc _) ⟨wr.heap.size, 0, none⟩ 1 1 [.int .i64 _] rfl rfl (cell_one_new _ _ _) (by simp [Value.oneCell']) (by unfold maxLen; omega) (by omega) (by simp; omega) ?_)
      intro v' w1 hown' hgrow _
      have R := own_step hbel hsz hown hown' hgrow
      have HS := minus_step xs ys cs k cy (x - cy - y) 0 HL.out H.out (by rw [HX.out, HY.out]; omega)
      clear hown' hgrow hown
      go_wp2
      go_roundw
      case rel => exact ⟨k + 1, cs ++ [x - cy - y], 0, by omega, by go_num, rfl, by omega, by omega, by simp [Hid, HL.out], hd.snoc (by omega) (by omega), HS, R.1, R.2⟩
      case measure => simp [intOf]; omega
    · obtain ⟨b, off, rfl, hc⟩ := hx (by omega)
      have hck : wr.cell? ⟨b, off + k, none⟩ = some (.int .i64 x) := by rw [← HX.out]; exact cell_later hbel (hc k hA)
      have HY0 : Hid (y = 0) := hy0 hB
      clear hx hy hc hy0
      go_wp2_with (at_builtin; refine wpList_append_own _ rfl _ _ 33 rfl w.heap.size 3 i0 (.int .i64 0) 1 8 Tryz.underlying33 hi hz0 hz1 hz2 rfl (by decide) _ _ _ rfl (hown.alloc _) ⟨wr.heap.size, 0, none⟩ 1 1 [.int .i64 _] rfl rfl (cell_one_new _ _ _) (by simp [Value.oneCell']) (by unfold maxLen; omega) (by omega) (by simp; omega) ?_)
      intro v' w1 hown' hgrow _
      have R := own_step hbel hsz hown hown' hgrow
      have HS := minus_step xs ys cs k cy (x - cy + 10) 1 HL.out H.out (by rw [HX.out, HY.out, HY0.out]; omega)
      clear hown' hgrow hown
      go_wp2
      go_roundw
      case rel => exact ⟨k + 1, cs ++ [x - cy + 10], 1, by omega, by go_num, rfl, by omega, by omega, by simp [Hid, HL.out], hd.snoc (by omega) (by omega), HS, R.1, R.2⟩
      case measure => simp [intOf]; omega
    · obtain ⟨b, off, rfl, hc⟩ := hx (by omega)
      have hck : wr.cell? ⟨b, off + k, none⟩ = some (.int .i64 x) := by rw [← HX.out]; exact cell_later hbel (hc k hA)
      have HY0 : Hid (y = 0) := hy0 hB
      clear hx hy hc hy0
      go_wp2_with (at_builtin; refine wpList_append_own _ rfl _ _ 33 rfl w.heap.size 3 i0 (.int .i64 0) 1 8 Tryz.underlying33 hi hz0 hz1 hz2 rfl (by decide) _ _ _ rfl (hown.alloc _) ⟨wr.heap.size, 0, none⟩ 1 1 [.int .i64 _] rfl rfl (cell_one_new _ _ _) (by simp [Value.oneCell']) (by unfold maxLen; omega) (by omega) (by simp; omega) ?_)
      intro v' w1 hown' hgrow _
      have R := own_step hbel hsz hown hown' hgrow
      have HS := minus_step xs ys cs k cy (x - cy) 0 HL.out H.out (by rw [HX.out, HY.out, HY0.out]; omega)
      clear hown' hgrow hown
      go_wp2
      go_roundw
      case rel => exact ⟨k + 1, cs ++ [x - cy], 0, by omega, by go_num, rfl, by omega, by omega, by simp [Hid, HL.out], hd.snoc (by omega) (by omega), HS, R.1, R.2⟩
      case measure => simp [intOf]; omega
    · have HF : Hid (val 10 (cut cs) = val 10 xs - val 10 ys) := minus_end xs ys cs k cy HL.out (by omega) (by omega) hd hc0 hc1 hle H.out
      have hcs := HL.out
      have HSl := Sl.owned hown
      clear hx hy hy0 H
      go_wp2_with (go_at_call 70; refine (r_trim_any _ cs _ HSl (by omega)).mono ?_; rintro e w' ⟨v', rfl, rfl, hs', hob⟩)
      go_ret
      exact ⟨_, rfl, ⟨cut cs, hs', hd.cut, cut_top cs, HF.out⟩, hbel, fun g hg => (hown.lt g (by rw [← hob]; exact hg)).1⟩

theorem r_minus_any (v u : Value) (x y : Int) (w : World) (hx : Rep .i64 10 w v x) (hy : Rep .i64 10 w u y) (bx : x < lim) (hle : y ≤ x) :
    Calls Tryz.prog 113 #[v, u] w fun e w' => ∃ v, e = .returned v ∧ Rep .i64 10 w' v (x - y) ∧ Below w.heap.size w w' ∧ Fr w.heap.size v := by
  obtain ⟨xs, ⟨ao, c1, rfl, h1, h2, h3⟩, h4, h5, rfl⟩ := hx
  obtain ⟨ys, ⟨bo, c2, rfl, g1, g2, g3⟩, g4, g5, rfl⟩ := hy
  refine r_minus_raw ao bo c1 c2 xs ys w (len_of_val h4 h5 bx) ?_ h3 g3 h4 g4 hle
  rcases Nat.lt_or_ge xs.length ys.length with h | h
  · have := val_lt_of_length (by omega) h4 g4 g5 h; omega
  · exact h
end Go.Proofs.YtknnjibmacmniaaGreatDoor

/- abacusref: divide. -/
namespace Go.Proofs.YtknnjibmacmniaaGreatDoor
open Go.RowKit
set_option linter.unusedVariables false

def cellNat (w : World) (a : Addr) : Nat := match w.cell? a with | some v => (intOf v).toNat | none => 0
theorem cellNat_eq {w : World} {a : Addr} {k : IntKind} {x : Int} (h : w.cell? a = some (.int k x)) : cellNat w a = x.toNat := by simp [cellNat, h, intOf]

theorem div_end {X D q r : Int} (h : X = q * D + r) (h0 : 0 ≤ r) (h1 : r < D) : X / D = q ∧ X % D = r := by
  subst h
  constructor
  · rw [Int.add_comm, Int.add_mul_ediv_right _ _ (by omega), Int.ediv_eq_zero_of_lt h0 h1]; omega
  · rw [Int.add_comm, Int.add_mul_emod_self_right, Int.emod_eq_of_lt h0 h1]

/-- one digit of the quotient -/
theorem div_step (xs qs : List Int) (k : Nat) (D ρ ρ' c : Int) (hk : k < qs.length) (h0 : nth qs k = 0) (H : val 10 (xs.drop (k + 1)) = val 10 (qs.drop (k + 1)) * D + ρ) (hc : ρ' + c * D = 10 * ρ + nth xs k) :
    val 10 (xs.drop k) = val 10 ((qs.set k c).drop k) * D + ρ' := by
  rw [val_drop 10 xs k, val_drop 10 (qs.set k c) k, H, nth_set _ _ _ _ hk, if_pos rfl, List.drop_set, if_pos (by omega)]
  grind

set_option maxRecDepth 100000 in
set_option maxHeartbeats 3200000 in
theorem r_divide_raw (ao : Option Addr) (c1 : Nat) (u : Value) (xs : List Int) (D : Int) (w : World) (hlx : xs.length ≤ 1000) (hx : Rw .i64 w ao xs) (dx : Dig 10 xs) (hu : Rep .i64 10 w u D) (hD : 0 < D) (hD1 : 10 * D < lim) :
    Calls Tryz.prog 69 #[.slice ao xs.length c1, u] w fun e w' => ∃ q r, e = .returned (.tuple #[q, r]) ∧ Rep .i64 10 w' q (val 10 xs / D) ∧ Rep .i64 10 w' r (val 10 xs % D) ∧ Below w.heap.size w w' := by
  obtain ⟨i0, hi, hz0, hz1, hz2⟩ := info_parts Tryz.infoInt
  go_enter Tryz.func69, Tryz.ntmps69
  go_wp2_with (at_make; refine wpList_make_full _ rfl _ _ 33 rfl w.heap.size 3 i0 (.int .i64 0) 1 Tryz.underlying33 hi hz0 hz1 .i64 .i64 _ _ xs.length rfl rfl rfl rfl (by rw [hz2]; omega) (by unfold maxLen; omega) (Nat.le_refl _) ?_)
  intro w0 hown0 hgrow0
  have hq0 := Blk.made hown0
  have hb0 : Below w.heap.size w w0 := (Below.refl _ _).grown hgrow0 (Nat.le_refl _) (by simp)
  have hs0 : w.heap.size < w0.heap.size := hq0.lt
  clear hown0 hgrow0
  go_wp2
  go_loopw [7, 8] (fun rv i wr => ∃ (k : Nat) (qs : List Int) (ρ : Int), k ≤ xs.length ∧ i = .int .i64 ((k : Int) - 1) ∧ Blk .i64 3 wr w.heap.size qs ∧ Hid (qs.length = xs.length) ∧ Dig 10 qs ∧
      Hid (∀ j, j < k → nth qs j = 0) ∧ Rep .i64 10 wr rv ρ ∧ rv.ownBlock ≠ some w.heap.size ∧ 0 ≤ ρ ∧ ρ < D ∧ Hid (val 10 (xs.drop k) = val 10 (qs.drop k) * D + ρ) ∧ Below w.heap.size w wr)
    (fun _ i _ => (intOf i + 1).toNat)
  case atStart =>
    refine ⟨xs.length, List.replicate xs.length 0, 0, Nat.le_refl _, rfl, hq0, by simp [Hid], Dig.replicate (by omega) _, fun j _ => nth_replicate _ _, Rep.zero _ _ _, by simp [Value.ownBlock], by omega, hD, ?_, hb0⟩
    unfold Hid
    rw [List.drop_of_length_le (by simp), List.drop_of_length_le (by simp)]; simp [val]
  case round =>
    clear hq0 hb0 hs0 w0
    obtain ⟨k, qs, ρ, hk, rfl, hq, HL, hd, HZ, hr, hro, h0, h1, H, hbel⟩ := hrel
    rename World => wa
    rcases k with _ | k
    · have HS := hq.sl xs.length xs.length HL.out (Nat.le_refl _) (by unfold maxLen; omega)
      have hqs := HL.out
      have HE := div_end (by have := H.out; simpa using this) h0 h1
      go_wp2_with (go_at_call 70; refine (r_trim_any _ qs _ HS (by omega)).mono ?_; rintro e w' ⟨v', rfl, rfl, hs', hob⟩)
      go_ret2
      exact ⟨_, _, rfl, ⟨cut qs, hs', hd.cut, cut_top qs, by rw [val_cut, HE.1]⟩, by rw [HE.2]; exact hr, hbel⟩
    · obtain ⟨b, off, rfl, hc⟩ := hx (by omega)
      have bx := dx.nth (by omega) k
      generalize Hx : nth xs k = x at *
      have HX : Hid (nth xs k = x) := Hx
      have hck : wa.cell? ⟨b, off + k, none⟩ = some (.int .i64 x) := by rw [← HX.out]; exact cell_later hbel (hc k (by omega))
      obtain ⟨zs, ⟨ro, rc, rfl, hz1', hz2', hzr⟩, hz4, hz5, hz6⟩ := hr
      have hzl := len_of_val hz4 hz5 (by omega)
      have HV : Hid (val 10 zs = ρ) := hz6
      clear Hx hx hc hz6
      have hsz := hq.lt
      rw [show (((k + 1 : Nat) : Int) - 1) = (k : Int) by omega]
      go_wp2_with (at_builtin; refine wpList_append_own _ rfl (.tmp 21) (.tmp 26) 33 rfl wa.heap.size 3 i0 (.int .i64 0) 1 8 Tryz.underlying33 hi hz0 hz1 hz2 rfl (by decide) _ 0 [] rfl (World.ownsRow_nil _ _ _ _) ⟨wa.heap.size, 0, none⟩ 1 1 [.int .i64 x] rfl rfl (cell_one_new _ _ _) (by simp [Value.oneCell']) (by unfold maxLen; omega) (by omega) (by simp) ?_)
      intro v1 w1 hown1 hgrow1 _
      have hb1 : Below wa.heap.size wa w1 := ((Below.refl _ _).alloc (Nat.le_refl _) _).grown hgrow1 (by simp) (by simp [Value.ownBlock])
      clear hgrow1
      go_wp2
      go_loopw [9, 10] (fun sv i w2 => ∃ (m : Nat) (ss : List Int), m ≤ zs.length ∧ i = .int .i64 m ∧ Hid (ss = x :: zs.take m) ∧ w2.ownsRow wa.heap.size 3 1 sv (m + 1) (ss.map (Value.int .i64)) ∧ Below wa.heap.size wa w2)
        (fun _ i _ => zs.length - (intOf i).toNat)
      case atStart => exact ⟨0, [x], by omega, rfl, rfl, by simpa using hown1, hb1⟩
      case round =>
        clear hown1 hb1 w1
        obtain ⟨m, ss, hm, rfl, HS, hown2, hb2⟩ := hrel
        have hsz2 := hb2.size
        by_cases hm2 : m < zs.length
        · obtain ⟨b', off', rfl, hc'⟩ := hzr (by omega)
          have bz := hz4.nth (by omega) m
          generalize Hz : nth zs m = z at *
          have HZm : Hid (nth zs m = z) := Hz
          have hckz : wr.cell? ⟨b', off' + m, none⟩ = some (.int .i64 z) := by rw [← HZm.out]; exact cell_later hb2 (hc' m hm2)
          clear hc' hzr Hz
          go_wp2_with (at_builtin; refine wpList_append_own _ rfl (.tmp 34) (.tmp 39) 33 rfl wa.heap.size 3 i0 (.int .i64 0) 1 8 Tryz.underlying33 hi hz0 hz1 hz2 rfl (by decide) _ _ _ rfl (hown2.alloc _) ⟨wr.heap.size, 0, none⟩ 1 1 [.int .i64 z] rfl rfl (cell_one_new _ _ _) (by simp [Value.oneCell']) (by unfold maxLen; omega) (by omega) (by simp; omega) ?_)
          intro v2 w2 hown3 hgrow3 _
          have R := own_step hb2 hsz2 hown2 hown3 hgrow3
          have HR : Hid (ss ++ [z] = x :: zs.take (m + 1)) := by unfold Hid; rw [HS.out, take_snoc_nth zs m hm2, HZm.out]; rfl
          clear hown2 hown3 hgrow3
          go_wp2
          go_roundw
          case rel => exact ⟨m + 1, ss ++ [z], by omega, by go_num, HR, R.1, R.2⟩
          case measure => simp [intOf]; omega
        · have hme : m = zs.length := by omega
          subst hme
          have HSl := Sl.owned hown2
          rw [HS.out, List.take_length] at HSl
          have hbz : Hid (val 10 (x :: zs) = 10 * ρ + x) := by unfold Hid; rw [val, HV.out]; omega
          have hdz : Dig 10 (x :: zs) := Dig.cons bx.1 bx.2 hz4
          have HLz : (x :: zs).length ≤ 1001 := by simp; omega
          go_wp2_with (go_at_call 70; refine (r_trim_any _ (x :: zs) _ HSl (by omega)).mono ?_; rintro e w' ⟨v', rfl, rfl, hs', hob⟩)
          have hv1 : Rep .i64 10 w' v' (10 * ρ + x) := ⟨cut (x :: zs), hs', hdz.cut, cut_top _, by rw [val_cut]; exact hbz.out⟩
          have hv2 : v'.ownBlock ≠ some w.heap.size := fun e => by have := (hown2.lt _ (hob.symm.trans e)).1; omega
          have hq2 : Blk .i64 3 w' w.heap.size qs := hq.below hsz hb2
          have hbel2 : Below w.heap.size w w' := hbel.trans (hb2.mono (by omega))
          have hq3 : Hid (qs.set k 0 = qs) := by
            have h := HZ.out k (by omega)
            have hl := HL.out
            unfold Hid
            rw [nth_eq qs k (by omega)] at h
            rw [← h]; simp
          clear hown2 hob HSl hs' hdz HLz hq hbel hb2 hsz2 hsz hzr hz1' hz2' hz4 hz5 HV hzl HS hm hm2 hbz hck
          rename World => wb
          go_loopw [7] (fun rv w3 => ∃ (c ρ' : Int), 0 ≤ c ∧ c ≤ 9 ∧ 0 ≤ ρ' ∧ Hid (ρ' + c * D = 10 * ρ + x) ∧ Blk .i64 3 w3 w.heap.size (qs.set k c) ∧ Rep .i64 10 w3 rv ρ' ∧ rv.ownBlock ≠ some w.heap.size ∧ Below w.heap.size w w3)
            (fun _ w3 => 10 - cellNat w3 ⟨w.heap.size, k, none⟩)
          case atStart => exact ⟨0, 10 * ρ + x, by omega, by omega, by omega, by unfold Hid; omega, by rw [hq3.out]; exact hq2, hv1, hv2, hbel2⟩
          case round =>
            clear hq2 hv1 hv2 hbel2 hq3
            obtain ⟨c, ρ', hc0, hc9, hr0, HC, hq, hr, hro, hbel⟩ := hrel
            have hu2 : Rep .i64 10 wr u D := hu.below (Nat.le_refl _) hbel
            have hlen : k < (qs.set k c).length := by rw [List.length_set, HL.out]; omega
            have hcD : 0 ≤ c * D := Int.mul_nonneg hc0 (by omega)
            have hrl : ρ' < lim := by have := HC.out; omega
            by_cases hlt : ρ' < D
            · have HS : Hid (sgn3 ρ' D = -1) := sgn3_lt hlt
              go_wp2_with (go_at_call 66; refine (r_compare_any _ _ ρ' D _ hr hu2 hrl (by omega)).mono ?_; rintro e w4 ⟨rfl, hb4⟩; rw [HS.out])
              go_roundw
              case rel => exact ⟨k, qs.set k c, ρ', by omega, rfl, hq.below hq.lt hb4, by unfold Hid; rw [List.length_set]; exact HL.out, hd.set hc0 (by omega) k, by
                  intro j hj
                  rw [nth_set _ _ _ _ (by rw [List.length_set] at hlen; exact hlen), if_neg (by omega)]
                  exact HZ.out j (by omega), hr.below (Nat.le_refl _) hb4, hro, hr0, hlt, by
                  have hl : k < qs.length := by rw [List.length_set] at hlen; exact hlen
                  exact div_step xs qs k D ρ ρ' c hl (HZ.out k (by omega)) H.out (by rw [HX.out]; exact HC.out), hbel.trans (hb4.mono (by have := hq.lt; omega))⟩
              case measure => simp [intOf]
            · have HS : 0 ≤ sgn3 ρ' D := by unfold sgn3; rw [if_neg hlt]; split <;> omega
              have hc8 : c ≤ 8 := by
                rcases (show c ≤ 8 ∨ c = 9 by omega) with h | h
                · exact h
                · have := HC.out; rw [h] at this; omega
              go_wp2_with (go_at_call 66; refine (r_compare_any _ _ ρ' D _ hr hu2 hrl (by omega)).mono ?_; rintro e w4 ⟨rfl, hb4⟩)
              refine (r_minus_any _ _ ρ' D _ (hr.below (Nat.le_refl _) hb4) (hu2.below (Nat.le_refl _) hb4) hrl (by omega)).mono ?_
              rintro e w5 ⟨v5, rfl, hr5, hb5, hf5⟩
              have hq4 := hq.below hq.lt hb4
              have hq5 := hq4.below hq4.lt hb5
              have hcq := hq5.cell k hlen
              rw [nth_set _ _ _ _ (by rw [List.length_set] at hlen; exact hlen), if_pos rfl] at hcq
              have hfq := hq5.free k
              go_wp2
              have hq6 := hq5.set k (c + 1)
              rw [List.set_set] at hq6
              have hb6 : Below w.heap.size w w5 := hbel.trans ((hb4.mono (by have := hq.lt; omega)).trans (hb5.mono (by have := hq4.lt; omega)))
              go_roundw
              case rel => exact ⟨c + 1, ρ' - D, by omega, by omega, by omega, by have := HC.out; unfold Hid; rw [Int.add_mul]; omega, hq6, hr5.setCell _ _ (fun e => by have := hf5 w.heap.size e; have := hq4.lt; omega), fun e => by have := hf5 _ e; have := hq4.lt; omega, hb6.setCell (Nat.le_refl _) _⟩
              case measure =>
                rw [cellNat_eq (hq6.cell k (by simpa using hlen)), cellNat_eq (hq.cell k hlen), nth_set _ _ _ _ (by rw [List.length_set] at hlen; exact hlen), if_pos rfl, nth_set _ _ _ _ (by rw [List.length_set] at hlen; exact hlen), if_pos rfl]
                omega

theorem r_divide_any (v u : Value) (x y : Int) (w : World) (hx : Rep .i64 10 w v x) (hy : Rep .i64 10 w u y) (bx : x < lim) (h0 : 0 < y) (bY : 10 * y < lim) :
    Calls Tryz.prog 69 #[v, u] w fun e w' => ∃ q r, e = .returned (.tuple #[q, r]) ∧ Rep .i64 10 w' q (x / y) ∧ Rep .i64 10 w' r (x % y) ∧ Below w.heap.size w w' := by
  obtain ⟨xs, ⟨ao, c1, rfl, h1, h2, h3⟩, h4, h5, rfl⟩ := hx
  exact r_divide_raw ao c1 u xs y w (len_of_val h4 h5 bx) h3 h4 hy h0 bY
end Go.Proofs.YtknnjibmacmniaaGreatDoor
