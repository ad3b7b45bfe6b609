/- natural: trimmed, sign, IsZero, IsOne, LowWord, Small. -/
import Derived.Test.YtknnjibmacmniaaGreatDoorC02
import Derived.Test.YtknnjibmacmniaaGreatDoorC03
import Derived.Deep.RegionHeld3
import Derived.Deep.DrawnRows
import Derived.Laws.CopyOwn
namespace Go.Proofs.YtknnjibmacmniaaGreatDoor
open Go.RowKit
set_option linter.unusedVariables false

/-- a number of 32-bit words: the struct's value -/
def RepU (w : World) (v : Value) (n : Int) : Prop := ∃ s, v = .agg #[s] ∧ Rep .u32 4294967296 w s n
theorem RepU.below {w w' : World} {v : Value} {n : Int} (h : RepU w v n) {B : Nat} (hB : w.heap.size ≤ B) (hb : Below B w w') : RepU w' v n := by
  obtain ⟨s, e, h1⟩ := h
  exact ⟨s, e, h1.below hB hb⟩
theorem RepU.open {w : World} {v : Value} {n : Int} (h : RepU w v n) : ∃ a l c, v = .agg #[.slice a l c] ∧ Rep .u32 4294967296 w (.slice a l c) n := by
  obtain ⟨s, rfl, h1⟩ := h
  obtain ⟨a, l, c, rfl⟩ := h1.shape
  exact ⟨_, _, _, rfl, h1⟩
theorem lim_u : lim ≤ 4294967296 ^ 100 := by
  have h : ∀ n : Nat, (1000000000 : Int) ^ n ≤ 4294967296 ^ n := by
    intro n
    induction n with
    | zero => simp
    | succ n ih =>
      rw [Int.pow_succ, Int.pow_succ]
      exact Int.mul_le_mul ih (by omega) (by omega) (Int.le_of_lt (pow_pos (by omega) n))
  have h2 := h 100
  have e : lim = (1000000000 : Int) ^ 100 := by
    unfold lim
    rw [show (1000000000 : Int) = 10 ^ 9 by decide, ← Int.pow_mul]
  rw [e]; exact h2
theorem len_of_u {zs : List Int} (h : Dig 4294967296 zs) (t : Top zs) (hv : val 4294967296 zs < lim) : zs.length ≤ 100 :=
  len_of_lt (by omega) h t 100 (Int.lt_of_lt_of_le hv lim_u)

set_option maxHeartbeats 800000 in
theorem n_trimmed_raw (ao : Option Addr) (cap : Nat) (zs : List Int) (w : World) (hcap : zs.length ≤ cap) (hl : zs.length ≤ 1000000) (hs : Rw .u32 w ao zs) :
    Calls Tryz.prog 188 #[.slice ao zs.length cap] w fun e w' => e = .returned (.agg #[.slice ao (cutLen zs zs.length) cap]) ∧ Below w.heap.size w w' := by
  have hW : ∀ o, Below w.heap.size w (w.alloc o) := fun o => (Below.refl _ _).alloc (Nat.le_refl _) o
  go_enter Tryz.func188, Tryz.ntmps188
  go_wp2
  go_loop [0] (fun v => ∃ k : Nat, k ≤ zs.length ∧ v = .slice ao k cap ∧ Hid (cutLen zs k = cutLen zs zs.length)) (fun v => match v with | .slice _ k _ => k | _ => 0)
  case atStart => exact ⟨zs.length, Nat.le_refl _, rfl, rfl⟩
  case round =>
    obtain ⟨k, hk, rfl, H⟩ := hrel
    rcases k with _ | k
    · go_wp2
      refine bodyPost_ret (v := .agg #[.slice ao 0 cap]) (by simp [results, Tryz.results188, go_sem]) rfl ⟨by rw [← H.out]; rfl, hW _⟩
    · obtain ⟨b, off, rfl, hc⟩ := hs (by omega)
      clear hs
      obtain ⟨x, hx⟩ : ∃ x, x = nth zs k := ⟨_, rfl⟩
      have hck : w.cell? ⟨b, off + k, none⟩ = some (.int .u32 x) := by rw [hx]; exact hc k (by omega)
      have hck2 : ∀ o, (w.alloc o).cell? ⟨b, off + k, none⟩ = some (.int .u32 x) := fun o => cell_later (hW o) hck
      have HX : Hid (x = nth zs k) := hx
      clear hc hx
      by_cases h0 : x = 0
      · have hb : (x == 0) = true := by simp [h0]
        have H' : Hid (cutLen zs k = cutLen zs zs.length) := by rw [← H.out, cutLen_zero zs k (by rw [← HX.out]; exact h0)]; exact rfl
        clear h0
        go_wp2
        go_round
        case rel => exact ⟨k, by omega, rfl, H'⟩
        case measure => simp
      · have hb : (x == 0) = false := by simp [h0]
        have H' : Hid (k + 1 = cutLen zs zs.length) := by rw [← H.out, cutLen_pos zs k (by rw [← HX.out]; exact h0)]; exact rfl
        clear h0
        go_wp2
        refine bodyPost_ret (v := .agg #[.slice (some ⟨b, off, none⟩) (k + 1) cap]) (by simp [results, Tryz.results188, go_sem]) rfl ⟨by rw [← H'.out], hW _⟩

theorem n_trimmed_any (v : Value) (zs : List Int) (w : World) (h : Sl .u32 w v zs) (hl : zs.length ≤ 1000000) :
    Calls Tryz.prog 188 #[v] w fun e w' => ∃ v', e = .returned (.agg #[v']) ∧ Sl .u32 w' v' (cut zs) ∧ v'.ownBlock = v.ownBlock ∧ Below w.heap.size w w' := by
  obtain ⟨ao, cap, rfl, h1, h2, h3⟩ := h
  refine (n_trimmed_raw ao cap zs w h1 hl h3).mono ?_
  rintro e w' ⟨rfl, hb⟩
  exact ⟨_, rfl, ⟨ao, cap, by rw [cut_length], by rw [cut_length]; have := cutLen_le zs zs.length; omega, h2, (h3.take _).below (Nat.le_refl _) hb⟩, by cases ao <;> rfl, hb⟩
/-- trimmed as a number -/
theorem n_trimmed_rep (v : Value) (zs : List Int) (w : World) (h : Sl .u32 w v zs) (hl : zs.length ≤ 1000000) (hd : Dig 4294967296 zs) :
    Calls Tryz.prog 188 #[v] w fun e w' => ∃ a l c, e = .returned (.agg #[.slice a l c]) ∧ Rep .u32 4294967296 w' (.slice a l c) (val 4294967296 zs) ∧ (Value.slice a l c).ownBlock = v.ownBlock ∧ Below w.heap.size w w' := by
  refine (n_trimmed_any v zs w h hl).mono ?_
  rintro e w' ⟨v', rfl, hs, ho, hb⟩
  have hr : Rep .u32 4294967296 w' v' (val 4294967296 zs) := ⟨cut zs, hs, hd.cut, cut_top zs, val_cut _ zs⟩
  obtain ⟨a, l, c, rfl⟩ := hr.shape
  exact ⟨a, l, c, rfl, hr, ho, hb⟩

theorem Rep.len_zero' {k : IntKind} {b : Int} {w : World} {ao : Option Addr} {l c : Nat} {n : Int} (h : Rep k b w (.slice ao l c) n) (hb : 0 < b) : (((l : Nat) : Int) == 0) = decide (n = 0) := by
  obtain ⟨zs, ⟨ao', cap, e, _⟩, h2, h3, rfl⟩ := h
  cases e
  have := val_zero_iff hb h2 h3
  rw [Bool.eq_iff_iff]
  simp only [beq_iff_eq, decide_eq_true_eq, this]
  omega

set_option maxHeartbeats 400000 in
theorem n_zero_any (v : Value) (n : Int) (w : World) (h : RepU w v n) :
    Calls Tryz.prog 50 #[v] w fun e w' => e = .returned (.bool (decide (n = 0))) ∧ Below w.heap.size w w' := by
  obtain ⟨a1, l1, c1, rfl, h1⟩ := h.open
  have hz := h1.len_zero' (by omega)
  obtain ⟨z, HZ⟩ : ∃ z, Hid (decide (n = 0) = z) := ⟨_, rfl⟩
  rw [HZ.out] at hz ⊢
  go_enter Tryz.func50, Tryz.ntmps50
  go_wp2
  go_ret
  exact ⟨rfl, (Below.refl _ _).alloc (Nat.le_refl _) _⟩

set_option maxHeartbeats 400000 in
theorem n_sign_any (b : Bool) (w : World) : Calls Tryz.prog 187 #[.bool b] w fun e w' => e = .returned (.int .i64 (if b then 1 else -1)) ∧ w' = w := by
  cases b <;> (go_enter Tryz.func187, Tryz.ntmps187; go_wp2; go_ret; exact ⟨rfl, rfl⟩)

/-- a number's one word -/
theorem Rep.one_word {w : World} {ao : Option Addr} {l c : Nat} {n : Int} (h : Rep .u32 4294967296 w (.slice ao l c) n) : (l = 1 → ∃ b off, ao = some ⟨b, off, none⟩ ∧ w.cell? ⟨b, off + 0, none⟩ = some (.int .u32 n) ∧ 0 < n ∧ n < 4294967296) ∧ (l = 0 → n = 0) ∧ (2 ≤ l → 4294967296 ≤ n) := by
  obtain ⟨zs, ⟨ao', cap, e, h1, h2, h3⟩, h4, h5, rfl⟩ := h
  cases e
  refine ⟨?_, ?_, ?_⟩
  · intro hl
    obtain ⟨b, off, e, hc⟩ := h3 (by omega)
    match zs, hl with
    | [x], _ =>
      have hx := h4.head
      have ht := h5 0 rfl
      simp only [nth_cons_zero] at ht
      refine ⟨b, off, e, ?_, ?_, ?_⟩
      · rw [hc 0 (by simp)]; simp [val, nth_cons_zero]
      · simp [val]; omega
      · simp [val]; omega
  · intro hl; rw [List.length_eq_zero_iff.1 hl]; rfl
  · intro hl
    have := val_pos_of_top (show (0 : Int) < 4294967296 by omega) h4 h5 (zs.length - 1) (by omega)
    have h6 := pow_mono (show (0 : Int) < 4294967296 by omega) (show 1 ≤ zs.length - 1 by omega)
    rw [Int.pow_one] at h6
    omega

set_option maxRecDepth 100000 in
set_option maxHeartbeats 800000 in
theorem n_one_any (v : Value) (n : Int) (w : World) (h : RepU w v n) :
    Calls Tryz.prog 110 #[v] w fun e w' => e = .returned (.bool (decide (n = 1))) ∧ Below w.heap.size w w' := by
  obtain ⟨a1, l1, c1, rfl, h1⟩ := h.open
  obtain ⟨k1, k0, k2⟩ := h1.one_word
  have hW : ∀ o, Below w.heap.size w (w.alloc o) := fun o => (Below.refl _ _).alloc (Nat.le_refl _) o
  by_cases hl : l1 = 1
  · obtain ⟨b, off, rfl, hc, hn0, hn1⟩ := k1 hl
    subst hl
    have hc2 : ∀ o, (w.alloc o).cell? ⟨b, off, none⟩ = some (.int .u32 n) := fun o => cell_later (hW o) hc
    have hz : (n == 1) = decide (n = 1) := by rw [Bool.eq_iff_iff]; simp
    obtain ⟨z, HZ⟩ : ∃ z, Hid (decide (n = 1) = z) := ⟨_, rfl⟩
    rw [HZ.out] at hz ⊢
    clear k1 k0 k2 hc h1 h
    go_enter Tryz.func110, Tryz.ntmps110
    go_wp2
    go_ret
    exact ⟨rfl, hW _⟩
  · have hb : (((l1 : Nat) : Int) == 1) = false := beq_eq_false_iff_ne.2 (by omega)
    have HN : Hid (decide (n = 1) = false) := by
      rcases (show l1 = 0 ∨ 2 ≤ l1 by omega) with h0 | h0
      · have := k0 h0; simp [Hid]; omega
      · have := k2 h0; simp [Hid]; omega
    rw [HN.out]
    go_enter Tryz.func110, Tryz.ntmps110
    go_wp2
    go_ret
    exact ⟨rfl, hW _⟩

set_option maxRecDepth 100000 in
set_option maxHeartbeats 800000 in
theorem n_low_any (v : Value) (n : Int) (w : World) (h : RepU w v n) (hn : n < 4294967296) :
    Calls Tryz.prog 196 #[v] w fun e w' => e = .returned (.int .u32 n) ∧ Below w.heap.size w w' := by
  have h' := h
  obtain ⟨a1, l1, c1, rfl, h1⟩ := h.open
  obtain ⟨k1, k0, k2⟩ := h1.one_word
  have hW : ∀ o, Below w.heap.size w (w.alloc o) := fun o => (Below.refl _ _).alloc (Nat.le_refl _) o
  obtain ⟨z, HZ⟩ : ∃ z, Hid (decide (n = 0) = z) := ⟨_, rfl⟩
  cases z
  · have hn0 : ¬ n = 0 := of_decide_eq_false HZ.out
    have hl : l1 = 1 := by
      rcases (show l1 = 0 ∨ l1 = 1 ∨ 2 ≤ l1 by omega) with h0 | h0 | h0
      · exact absurd (k0 h0) hn0
      · exact h0
      · have := k2 h0; omega
    obtain ⟨b, off, rfl, hc, _, _⟩ := k1 hl
    subst hl
    clear k1 k0 k2 hn0 h
    go_enter Tryz.func196, Tryz.ntmps196
    go_wp2_with (go_at_call 50; refine (n_zero_any _ n _ (h'.below (Nat.le_refl _) (hW _))).mono ?_; rintro e w1 ⟨rfl, hb1⟩; rw [HZ.out]; obtain ⟨hc1, hf1⟩ := bcell hb1; have hc2 : w1.cell? ⟨b, off, none⟩ = some (.int .u32 n) := cell_later (Below.next (hW _) hb1 (by simp)) hc)
    go_ret
    exact ⟨rfl, Below.next (hW _) hb1 (by simp)⟩
  · have hn0 : n = 0 := of_decide_eq_true HZ.out
    have HN : Hid (n = 0) := hn0
    clear hn0 k1 k0 k2 h
    go_enter Tryz.func196, Tryz.ntmps196
    go_wp2_with (go_at_call 50; refine (n_zero_any _ n _ (h'.below (Nat.le_refl _) (hW _))).mono ?_; rintro e w1 ⟨rfl, hb1⟩; rw [HZ.out])
    go_ret
    exact ⟨ret_int (by rw [HN.out]), Below.next (hW _) hb1 (by simp)⟩

/-- a box of one cell -/
def Fz1 (g : Nat) (w : World) : Prop := NoInt w g ∧ ∃ x T, w.heap[g]? = some (.cells #[x] T (0, 0))
theorem Fz1.later {g : Nat} {w w' : World} (h : Fz1 g w) (hg : g < w.heap.size) (hb : Below w.heap.size w w') : Fz1 g w' := by
  obtain ⟨hn, x, T, hc⟩ := h
  exact ⟨hn.below hg hb, x, T, (hb.block g hg).trans hc⟩
theorem Fz1.new (w : World) (v : Value) (T : Nat) (hv : ∀ k x, v ≠ .int k x) : Fz1 w.heap.size (w.alloc (.cells #[v] T)) :=
  ⟨NoInt.new w _ T (by simpa using hv), v, T, heap_alloc_new w _⟩
theorem Fz1.parts {g : Nat} {w : World} (h : Fz1 g w) : w.frozen? ⟨g, 0, none⟩ = false ∧ ∃ x, w.cell? ⟨g, 0, none⟩ = some x := by
  obtain ⟨hn, x, T, hc⟩ := h
  refine ⟨by simp only [World.frozen?, hc]; simp, x, ?_⟩
  rw [cell_of_row _ _ _ _ _ _ hc]; rfl
theorem Fz1.cell {g : Nat} {w : World} (h : Fz1 g w) (v : Value) : (w.setCell ⟨g, 0, none⟩ v).cell? ⟨g, 0, none⟩ = some v := by
  obtain ⟨hn, x, T, hc⟩ := h
  rw [cell_of_row _ _ _ _ _ _ (heap_setCell_same w g 0 _ T v hc)]
  simp

set_option maxRecDepth 100000 in
set_option maxHeartbeats 800000 in
theorem n_small_any (x : Int) (w : World) (h0 : 0 ≤ x) (h1 : x < 4294967296) :
    Calls Tryz.prog 136 #[.int .u32 x] w fun e w' => ∃ v, e = .returned v ∧ RepU w' v x ∧ Below w.heap.size w w' := by
  have hW : ∀ o o', Below w.heap.size w ((w.alloc o).alloc o') := fun o o' => ((Below.refl _ _).alloc (Nat.le_refl _) o).alloc (by simp) o'
  have hf := Fz1.new w (.slice none 0 0) 56 (by simp)
  have hbk : Blk .u32 174 ((w.alloc (.cells #[.slice none 0 0] 56)).alloc (.cells #[.int .u32 x] 174)) (w.heap.size + 1) [x] := by
    have := heap_alloc_new (w.alloc (.cells #[.slice none 0 0] 56)) (.cells #[.int .u32 x] 174)
    simp only [World.size_alloc] at this
    exact this
  have hsl := hbk.sl 1 1 rfl (Nat.le_refl _) (by simp [maxLen])
  go_enter Tryz.func136, Tryz.ntmps136
  go_wp2_with fail
  refine (n_trimmed_rep _ [x] _ hsl (by simp) (Dig.cons h0 h1 Dig.nil)).mono ?_
  rintro e w1 ⟨a, l, c, rfl, hr, _, hb1⟩
  rw [show val 4294967296 [x] = x by simp [val]] at hr
  have hf2 := (hf.later (by simp) ((Below.refl _ _).alloc (Nat.le_refl _) (.cells #[.int .u32 x] 174))).later (by simp; omega) hb1
  obtain ⟨f0, y, e0⟩ := hf2.parts
  have q0 := hf2.cell (.slice a l c)
  have hbw := Below.next (hW _ _) hb1 (by simp; omega)
  clear hf
  go_wp2
  refine bodyPost_ret (v := .agg #[.slice a l c]) (by simp [results, Tryz.results136, go_sem, q0]) rfl ⟨_, rfl, ⟨_, rfl, hr.box _ _ hf2.1⟩, hbw.setCell (p := ⟨w.heap.size, 0, none⟩) (Nat.le_refl _) _⟩
end Go.Proofs.YtknnjibmacmniaaGreatDoor

/- natural: Compare. -/
namespace Go.Proofs.YtknnjibmacmniaaGreatDoor
open Go.RowKit
set_option linter.unusedVariables false
attribute [local go_sem ↓] Go.wp_at_zero Go.wp_at_succ

theorem n_sign_t (w : World) : Calls Tryz.prog 187 #[.bool true] w fun e w' => e = .returned (.int .i64 1) ∧ w' = w := n_sign_any true w
theorem n_sign_f (w : World) : Calls Tryz.prog 187 #[.bool false] w fun e w' => e = .returned (.int .i64 (-1)) ∧ w' = w := n_sign_any false w

set_option maxRecDepth 100000 in
set_option maxHeartbeats 1600000 in
theorem n_compare_any (v u : Value) (x y : Int) (w : World) (hx : RepU w v x) (hy : RepU w u y) (bx : x < lim) (bY : y < lim) :
    Calls Tryz.prog 134 #[v, u] w fun e w' => e = .returned (.int .i64 (sgn3 x y)) ∧ Below w.heap.size w w' := by
  obtain ⟨s, rfl, xs, ⟨ao, c1, rfl, k1, k2, hxr⟩, dx, tx, rfl⟩ := hx
  obtain ⟨s, rfl, ys, ⟨bo, c2, rfl, j1, j2, hyr⟩, dy, ty, rfl⟩ := hy
  have hlx := len_of_u dx tx bx
  have hly := len_of_u dy ty bY
  have hW : ∀ o o', Below w.heap.size w ((w.alloc o).alloc o') := fun o o' => ((Below.refl _ _).alloc (Nat.le_refl _) o).alloc (by simp) o'
  by_cases h1 : xs.length < ys.length
  · have hb : (((xs.length : Nat) : Int) == ((ys.length : Nat) : Int)) = false := by simp; omega
    have H := sgn3_lt (val_lt_of_length (by omega) dx dy ty h1)
    have hd : decide ((ys.length : Int) < (xs.length : Int)) = false := decide_eq_false (by omega)
    go_enter Tryz.func134, Tryz.ntmps134
    go_wp2
    go_ret
    exact ⟨ret_int (by rw [H]), hW _ _⟩
  · by_cases h2 : ys.length < xs.length
    · have hb : (((xs.length : Nat) : Int) == ((ys.length : Nat) : Int)) = false := by simp; omega
      have H := sgn3_gt (val_lt_of_length (by omega) dy dx tx h2)
      go_enter Tryz.func134, Tryz.ntmps134
      go_wp2
      go_ret
      exact ⟨ret_int (by rw [H]), hW _ _⟩
    · have hb : (((xs.length : Nat) : Int) == ((ys.length : Nat) : Int)) = true := by simp; omega
      have h3 : xs.length ≤ ys.length := by omega
      have h4 : ys.length ≤ xs.length := by omega
      clear h1 h2
      go_enter Tryz.func134, Tryz.ntmps134
      go_wp2
      go_loopw [5] (fun i wr => ∃ k : Nat, k ≤ xs.length ∧ i = .int .i64 ((k : Int) - 1) ∧ Hid (val 4294967296 (xs.drop k) = val 4294967296 (ys.drop k)) ∧ wr.cell? ⟨w.heap.size, 0, none⟩ = some (.slice ao xs.length c1) ∧ wr.cell? ⟨w.heap.size + 1, 0, none⟩ = some (.slice bo ys.length c2) ∧ Below w.heap.size w wr) (fun i _ => (intOf i + 1).toNat)
      case atStart =>
        refine ⟨xs.length, Nat.le_refl _, rfl, ?_, by simp, by simp, hW _ _⟩
        rw [List.drop_of_length_le (by omega), List.drop_of_length_le (by omega)]; exact rfl
      case round =>
        obtain ⟨k, hk, rfl, H, hA, hB, hbel⟩ := hrel
        rcases k with _ | k
        · go_wp2
          go_ret
          exact ⟨ret_int (by have := H.out; simp only [List.drop_zero] at this; rw [sgn3_eq this]), hbel⟩
        · obtain ⟨b, off, rfl, hc⟩ := hxr (by omega)
          obtain ⟨b', off', rfl, hc'⟩ := hyr (by omega)
          have bxk := dx.nth (by omega) k
          have bYk := dy.nth (by omega) k
          have hck := cell_later hbel (hc k (by omega))
          have hck' := cell_later hbel (hc' k (by omega))
          obtain ⟨p, HX⟩ : ∃ p, Hid (nth xs k = p) := ⟨_, rfl⟩
          obtain ⟨q, HY⟩ : ∃ q, Hid (nth ys k = q) := ⟨_, rfl⟩
          rw [HX.out] at hck bxk
          rw [HY.out] at hck' bYk
          clear hc hc' hxr hyr
          have g1 : k < xs.length := by omega
          have g2 : k < ys.length := by omega
          rw [show (((k + 1 : Nat) : Int) - 1) = (k : Int) by omega]
          rcases Int.lt_trichotomy p q with hlt | heq | hgt
          · have HL := sgn3_lt (val_lt_of_nth (by omega) dx dy k g1 g2 (by rw [HX.out, HY.out]; exact hlt) H.out)
            have hbn : (p == q) = false := beq_eq_false_iff_ne.2 (by omega)
            have hbg : decide (q < p) = false := decide_eq_false (by omega)
            go_wp2
            go_quiet (fail)
            go_wp2
            go_region_held3 (fun w' => w'.cell? ⟨w.heap.size, 0, none⟩ = some (.slice (some ⟨b, off, none⟩) xs.length c1) ∧ w'.cell? ⟨w.heap.size + 1, 0, none⟩ = some (.slice (some ⟨b', off', none⟩) ys.length c2) ∧ w'.cell? ⟨b, off + k, none⟩ = some (.int .u32 p) ∧ w'.cell? ⟨b', off' + k, none⟩ = some (.int .u32 q) ∧ Below w.heap.size w w')
              (first | exact ⟨hA, hB, hck, hck', (below_drewN hbel _).drew⟩ | assumption)
              ((first | (go_at_call 187; refine (n_sign_any _ _).mono ?_; rintro e w' ⟨rfl, rfl⟩)))
            rename_i hH
            go_wp2
            go_ret
            exact ⟨ret_int (by rw [HL]), hH.2.2.2.2⟩
          · subst heq
            have H' : Hid (val 4294967296 (xs.drop k) = val 4294967296 (ys.drop k)) := by
              unfold Hid; rw [val_drop _ xs k, val_drop _ ys k, H.out, HX.out, HY.out]
            go_wp2
            go_quiet (fail)
            go_wp2
            go_roundw
            case rel => exact ⟨k, by omega, rfl, H', hA, hB, by repeat (first | exact hbel | apply Below.drew | apply Below.drewN)⟩
            case measure => simp [intOf]
          · have HL := sgn3_gt (val_lt_of_nth (by omega) dy dx k g2 g1 (by rw [HX.out, HY.out]; exact hgt) H.out.symm)
            have hbn : (p == q) = false := beq_eq_false_iff_ne.2 (by omega)
            have hbg : decide (q < p) = true := decide_eq_true (by omega)
            go_wp2
            go_quiet (fail)
            go_wp2
            go_region_held3 (fun w' => w'.cell? ⟨w.heap.size, 0, none⟩ = some (.slice (some ⟨b, off, none⟩) xs.length c1) ∧ w'.cell? ⟨w.heap.size + 1, 0, none⟩ = some (.slice (some ⟨b', off', none⟩) ys.length c2) ∧ w'.cell? ⟨b, off + k, none⟩ = some (.int .u32 p) ∧ w'.cell? ⟨b', off' + k, none⟩ = some (.int .u32 q) ∧ Below w.heap.size w w')
              (first | exact ⟨hA, hB, hck, hck', (below_drewN hbel _).drew⟩ | assumption)
              ((first | (go_at_call 187; refine (n_sign_any _ _).mono ?_; rintro e w' ⟨rfl, rfl⟩)))
            rename_i hH
            go_wp2
            go_ret
            exact ⟨ret_int (by rw [HL]), hH.2.2.2.2⟩
end Go.Proofs.YtknnjibmacmniaaGreatDoor

/- natural: Add. -/
namespace Go.Proofs.YtknnjibmacmniaaGreatDoor
open Go.RowKit
set_option linter.unusedVariables false

theorem infoU32size : (Tryz.prog.info? 174).map (fun x => x.size) = some 1 := by
  obtain ⟨i0, hi, hz0, hz1, hz2⟩ := info_parts Tryz.infoU32
  rw [hi]; simp [hz1]
/-- the row behind the copy of ys over n noughts -/
theorem splice_copy (ys : List Int) (n : Nat) (h : ys.length ≤ n) :
    splice (List.replicate n (Value.int .u32 0)) 0 (ys.map (Value.int .u32)) = (ys ++ List.replicate (n - ys.length) 0).map (Value.int .u32) := by
  unfold splice
  simp
theorem nth_pad (ys : List Int) (m k : Nat) : nth (ys ++ List.replicate m 0) k = nth ys k := by
  by_cases h : k < ys.length
  · exact nth_append_left _ _ _ h
  · rw [nth_ge ys k (by omega)]
    unfold nth
    rw [List.getD_eq_getElem?_getD, List.getElem?_append_right (by omega), List.getElem?_replicate]
    split <;> rfl
/-- one word of a sum -/
theorem add_step (xs ys ss : List Int) (k : Nat) (c t : Int) (hk : k < ss.length) (H : val 4294967296 (ss.take k) + c * 4294967296 ^ k = val 4294967296 (xs.take k) + val 4294967296 (ys.take k)) (ht : t = c + nth xs k + nth ys k) :
    val 4294967296 ((ss.set k (t % 4294967296)).take (k + 1)) + (t / 4294967296) * 4294967296 ^ (k + 1) = val 4294967296 (xs.take (k + 1)) + val 4294967296 (ys.take (k + 1)) := by
  rw [val_take_succ, val_take_succ, val_take_succ, nth_set _ _ _ _ hk, if_pos rfl, List.take_set_of_le (Nat.le_refl _), Int.pow_succ]
  have h1 : t = 4294967296 * (t / 4294967296) + t % 4294967296 := by omega
  generalize t / 4294967296 = q at *
  generalize t % 4294967296 = r at *
  generalize (4294967296 : Int) ^ k = p at *
  grind
theorem add_end (xs ys ss : List Int) (n : Nat) (c : Int) (hs : ss.length = n + 1) (hx : xs.length = n) (hy : ys.length ≤ n) (H : val 4294967296 (ss.take n) + c * 4294967296 ^ n = val 4294967296 (xs.take n) + val 4294967296 (ys.take n)) :
    val 4294967296 (ss.set n c) = val 4294967296 xs + val 4294967296 ys := by
  rw [List.take_of_length_le (show xs.length ≤ n by omega), List.take_of_length_le hy] at H
  have h := val_take_succ 4294967296 (ss.set n c) n
  rw [List.take_of_length_le (by rw [List.length_set]; omega), nth_set _ _ _ _ (by omega), if_pos rfl, List.take_set_of_le (Nat.le_refl _)] at h
  rw [h, ← H, Int.mul_comm]

theorem copy_src {w : World} {bo : Option Addr} {ys : List Int} {k : IntKind} (h : Rw k w bo ys) (h0 : 0 < (ys.map (Value.int k)).length) :
    ∃ ad, bo = some ad ∧ ∀ j v, (ys.map (Value.int k))[j]? = some v → w.cell? (ad.add j) = some v := by
  rw [List.length_map] at h0
  obtain ⟨b, off, e, hc⟩ := h h0
  refine ⟨_, e, fun j v hj => ?_⟩
  have hl : j < ys.length := by
    have := (List.getElem?_eq_some_iff.1 hj).1
    simpa using this
  rw [List.getElem?_map, List.getElem?_eq_getElem hl] at hj
  have hv : Value.int k ys[j] = v := by simpa using hj
  rw [← hv, ← nth_eq ys j hl, ← hc j hl]
  unfold Addr.add
  split
  · rename_i e0; subst e0; rfl
  · rfl
theorem fz1_mid {g B : Nat} {w w' : World} (h : Fz1 g w) (hb : Below B w w') (hg : g < B) : Fz1 g w' := by
  obtain ⟨hn, x, T, hc⟩ := h
  exact ⟨hn.below hg hb, x, T, (hb.block g hg).trans hc⟩
theorem Fz1.other {g : Nat} {w : World} (h : Fz1 g w) (a : Addr) (v : Value) (hne : g ≠ a.block) : Fz1 g (w.setCell a v) := by
  obtain ⟨hn, x, T, hc⟩ := h
  have hh := Below.heap_setCell w a v g hne
  refine ⟨fun o k y e => ?_, x, T, hh.trans hc⟩
  rw [World.cell?_of_block (w := w) (a := ⟨g, o, none⟩) hh] at e
  exact hn o k y e
theorem cell_far {w : World} {p a : Addr} {x v : Value} (h : w.cell? p = some x) (hne : p.block ≠ a.block) : (w.setCell a v).cell? p = some x := by
  rw [World.cell?_of_block (w := w) (a := p) (Below.heap_setCell w a v p.block hne)]; exact h
theorem boxes1 (w : World) (u v : Value) (T T' T'' : Nat) (w0 : World) (hb : Below (w.heap.size + 1 + 1 + 1) (((w.alloc (.cells #[u] T)).alloc (.cells #[v] T')).alloc (.cells #[.slice none 0 0] T'')) w0) :
    w0.cell? ⟨w.heap.size, 0, none⟩ = some u ∧ w0.cell? ⟨w.heap.size + 1, 0, none⟩ = some v ∧ Fz1 (w.heap.size + 1 + 1) w0 := by
  have h1 : (w.alloc (.cells #[u] T)).cell? ⟨w.heap.size, 0, none⟩ = some u := by rw [cell_of_row _ _ _ _ _ _ (heap_alloc_new w _)]; rfl
  have h2 := cell_of_row ((w.alloc (.cells #[u] T)).alloc (.cells #[v] T')) _ 0 _ _ _ (heap_alloc_new _ _)
  simp only [World.size_alloc] at h2
  have h3 := Fz1.new ((w.alloc (.cells #[u] T)).alloc (.cells #[v] T')) (.slice none 0 0) T'' (by simp)
  simp only [World.size_alloc] at h3
  have hbs : Below (((w.alloc (.cells #[u] T)).alloc (.cells #[v] T')).alloc (.cells #[.slice none 0 0] T'')).heap.size (((w.alloc (.cells #[u] T)).alloc (.cells #[v] T')).alloc (.cells #[.slice none 0 0] T'')) w0 := by simpa using hb
  refine ⟨?_, ?_, h3.later (by simp) hbs⟩
  · exact cell_later hbs (cell_later ((Below.refl _ _).alloc (Nat.le_refl _) _) (cell_later ((Below.refl _ _).alloc (Nat.le_refl _) _) h1))
  · exact cell_later hbs (cell_later ((Below.refl _ _).alloc (Nat.le_refl _) _) h2)

set_option maxRecDepth 100000 in
set_option maxHeartbeats 3200000 in
theorem n_add_ge (ao bo : Option Addr) (c1 c2 : Nat) (xs ys : List Int) (w : World) (hl : xs.length ≤ 1000) (hle : ys.length ≤ xs.length) (hx : Rw .u32 w ao xs) (hy : Rw .u32 w bo ys) (dx : Dig 4294967296 xs) (dy : Dig 4294967296 ys) :
    Calls Tryz.prog 139 #[.agg #[.slice ao xs.length c1], .agg #[.slice bo ys.length c2]] w fun e w' => ∃ v, e = .returned v ∧ RepU w' v (val 4294967296 xs + val 4294967296 ys) ∧ Below w.heap.size w w' := by
  obtain ⟨i0, hi, hz0, hz1, hz2⟩ := info_parts Tryz.infoU32
  have hW : ∀ o o' o'', Below w.heap.size w (((w.alloc o).alloc o').alloc o'') := fun o o' o'' => (((Below.refl _ _).alloc (Nat.le_refl _) o).alloc (by simp) o').alloc (by simp; omega) o''
  go_enter Tryz.func139, Tryz.ntmps139
  go_wp2_with (at_make; refine wpList_make_full _ rfl _ _ 54 rfl w.heap.size 174 i0 (.int .u32 0) 1 Tryz.underlying54 hi hz0 hz1 .i64 .i64 _ _ (xs.length + 1) rfl rfl (by omega) (by omega) (by rw [hz2]; omega) (by unfold maxLen; omega) (by simp; omega) ?_)
  intro w0 hown0 hgrow0
  have hq0 := Blk.made hown0
  have hb3 : Below (w.heap.size + 1 + 1 + 1) (((w.alloc (.cells #[.slice ao xs.length c1] 56)).alloc (.cells #[.slice bo ys.length c2] 56)).alloc (.cells #[.slice none 0 0] 56)) w0 := (Below.refl _ _).grown hgrow0 (by simp) (by simp)
  have hb0 : Below w.heap.size w w0 := (hW _ _ _).trans (hb3.mono (by omega))
  obtain ⟨hA0, hB0, hR0⟩ := boxes1 w (.slice ao xs.length c1) (.slice bo ys.length c2) 56 56 56 w0 hb3
  have hs0 := hq0.lt
  obtain ⟨Y, HYY⟩ : ∃ Y, Hid (ys.map (Value.int .u32) = Y) := ⟨_, rfl⟩
  clear hown0 hgrow0 hb3
  have hsrc := copy_src (hy.below (Nat.le_refl _) hb0)
  rw [HYY.out] at hsrc
  go_wp2_with (refine wpList_copy_splice rfl (.tmp 23) (.tmp 25) 54 54 rfl 174 Tryz.underlying54 infoU32size _ _ _ _ _ _ rfl rfl (w.heap.size + 1 + 1 + 1) 0 ((List.replicate (xs.length + 1) (0 : Int)).map (Value.int .u32)) 174 (by exact hq0) Y (by rw [← HYY.out, List.length_map]; exact (Nat.min_eq_left (show ys.length ≤ xs.length + 1 by omega)).symm) (fun h => ⟨rfl, hsrc h⟩) (by rw [← HYY.out]; simp; omega) (by rw [← HYY.out]; exact ints_oneCell _ _) (w.heap.size + 1 + 1 + 1) w0 (Below.refl _ _) (Nat.le_refl _) ?_)
  intro w1 HQ1 hb1
  have hq1 : Blk .u32 174 w1 (w.heap.size + 1 + 1 + 1) (ys ++ List.replicate (xs.length + 1 - ys.length) 0) := by
    have h := HQ1.out
    rw [← HYY.out, splice_copy ys (xs.length + 1) (by omega)] at h
    exact h
  have hA1 : w1.cell? ⟨w.heap.size, 0, none⟩ = some (.slice ao xs.length c1) := by rw [hb1.cell (p := ⟨w.heap.size, 0, none⟩) (by simp; omega)]; exact hA0
  have hbw1 : Below w.heap.size w w1 := hb0.trans (hb1.mono (by omega))
  have hR1 : Fz1 (w.heap.size + 1 + 1) w1 := fz1_mid hR0 hb1 (by omega)
  clear HQ1 hq0 hsrc HYY hA0 hB0 hR0 hb0 hs0 hb1
  go_wp2
  go_loopw [6, 30] (fun cv iv wr => ∃ (k : Nat) (ss : List Int) (c : Int), k ≤ xs.length ∧ iv = .int .i64 k ∧ cv = .int .u64 c ∧ 0 ≤ c ∧ c ≤ 1 ∧ Blk .u32 174 wr (w.heap.size + 1 + 1 + 1) ss ∧ Hid (ss.length = xs.length + 1) ∧ Dig 4294967296 ss ∧ Hid (∀ j, k ≤ j → nth ss j = nth ys j) ∧
      Hid (val 4294967296 (ss.take k) + c * 4294967296 ^ k = val 4294967296 (xs.take k) + val 4294967296 (ys.take k)) ∧ wr.cell? ⟨w.heap.size, 0, none⟩ = some (.slice ao xs.length c1) ∧ Fz1 (w.heap.size + 1 + 1) wr ∧ Below w.heap.size w wr)
    (fun _ iv _ => xs.length - (intOf iv).toNat)
  case atStart => exact ⟨0, _, 0, by omega, rfl, rfl, by omega, by omega, hq1, by simp [Hid]; omega, dy.append (Dig.replicate (by omega) _), fun j _ => nth_pad ys _ j, by simp [Hid, val], hA1, hR1, hbw1⟩
  case round =>
    clear hq1 hA1 hR1 hbw1
    obtain ⟨k, ss, c, hk, rfl, rfl, hc0, hc1, hq, HL, hd, HN, H, hA, hR, hbel⟩ := hrel
    by_cases hlt : k < xs.length
    · obtain ⟨b, off, rfl, hc⟩ := hx (by omega)
      have hlen : k < ss.length := by rw [HL.out]; omega
      have bx := dx.nth (by omega) k
      have bY := dy.nth (by omega) k
      have hck := cell_later hbel (hc k hlt)
      have hcs := hq.cell k hlen
      rw [HN.out k (Nat.le_refl _)] at hcs
      have hcf := hq.free k
      obtain ⟨x, HX⟩ : ∃ x, Hid (nth xs k = x) := ⟨_, rfl⟩
      obtain ⟨y, HY⟩ : ∃ y, Hid (nth ys k = y) := ⟨_, rfl⟩
      rw [HX.out] at hck bx
      rw [HY.out] at hcs bY
      have HS := add_step xs ys ss k c (c + (x + y)) hlen H.out (by rw [HX.out, HY.out]; omega)
      have HQ := hq.set k ((c + (x + y)) % 4294967296)
      clear hc hx
      go_wp2
      go_roundw
      case rel => exact ⟨k + 1, _, _, by omega, by go_num, rfl, by omega, by omega, HQ, by unfold Hid; rw [List.length_set]; exact HL.out, hd.set (by omega) (by omega) k, fun j hj => by rw [nth_set _ _ _ _ hlen, if_neg (by omega)]; exact HN.out j (by omega), HS, cell_far hA (by simp; omega), hR.other _ _ (by simp), hbel.setCell (p := ⟨w.heap.size + 1 + 1 + 1, k, none⟩) (by simp; omega) _⟩
      case measure => simp [intOf]; omega
    · have hke : k = xs.length := by omega
      subst hke
      have hlen : xs.length < ss.length := by rw [HL.out]; omega
      have hcs := hq.cell xs.length hlen
      have hcf := hq.free xs.length
      have HE := add_end xs ys ss xs.length c HL.out rfl hle H.out
      have HQ := hq.set xs.length c
      have hd2 := hd.set hc0 (by omega : c < 4294967296) xs.length
      have hsl := HQ.sl (xs.length + 1) (xs.length + 1) (by rw [List.length_set, HL.out]) (Nat.le_refl _) (by unfold maxLen; omega)
      have hR2 := hR.other ⟨w.heap.size + 1 + 1 + 1, xs.length, none⟩ (.int .u32 c) (by simp)
      have hb2 := hbel.setCell (p := ⟨w.heap.size + 1 + 1 + 1, xs.length, none⟩) (by simp; omega) (.int .u32 c)
      have hls : (ss.set xs.length c).length ≤ 1001 := by rw [List.length_set, HL.out]; omega
      have hsz2 := HQ.lt
      go_wp2_with fail
      refine (n_trimmed_rep _ _ _ hsl (by omega) hd2).mono ?_
      rintro e w5 ⟨a, l, c', rfl, hr, _, hb5⟩
      rw [HE] at hr
      have hR5 := hR2.later (by omega) hb5
      obtain ⟨f0, y0, e0⟩ := hR5.parts
      have q0 := hR5.cell (.slice a l c')
      have hbw := Below.next hb2 hb5 (by have := hb2.size; omega)
      go_wp2
      refine bodyPost_ret (v := .agg #[.slice a l c']) (by simp [results, Tryz.results139, go_sem, q0]) rfl ⟨_, rfl, ⟨_, rfl, hr.box _ _ hR5.1⟩, hbw.setCell (p := ⟨w.heap.size + 1 + 1, 0, none⟩) (by simp; omega) _⟩

set_option maxRecDepth 100000 in
set_option maxHeartbeats 3200000 in
theorem n_add_lt (ao bo : Option Addr) (c1 c2 : Nat) (xs ys : List Int) (w : World) (hl : xs.length ≤ 1000) (hlt0 : ys.length < xs.length) (hx : Rw .u32 w ao xs) (hy : Rw .u32 w bo ys) (dx : Dig 4294967296 xs) (dy : Dig 4294967296 ys) :
    Calls Tryz.prog 139 #[.agg #[.slice bo ys.length c2], .agg #[.slice ao xs.length c1]] w fun e w' => ∃ v, e = .returned v ∧ RepU w' v (val 4294967296 xs + val 4294967296 ys) ∧ Below w.heap.size w w' := by
  have hle : ys.length ≤ xs.length := by omega
  obtain ⟨i0, hi, hz0, hz1, hz2⟩ := info_parts Tryz.infoU32
  have hW : ∀ o o' o'', Below w.heap.size w (((w.alloc o).alloc o').alloc o'') := fun o o' o'' => (((Below.refl _ _).alloc (Nat.le_refl _) o).alloc (by simp) o').alloc (by simp; omega) o''
  go_enter Tryz.func139, Tryz.ntmps139
  go_wp2_with (at_make; refine wpList_make_full _ rfl _ _ 54 rfl w.heap.size 174 i0 (.int .u32 0) 1 Tryz.underlying54 hi hz0 hz1 .i64 .i64 _ _ (xs.length + 1) rfl rfl (by omega) (by omega) (by rw [hz2]; omega) (by unfold maxLen; omega) (by simp; omega) ?_)
  intro w0 hown0 hgrow0
  have hq0 := Blk.made hown0
  have hb3 : Below (w.heap.size + 1 + 1 + 1) (((w.alloc (.cells #[.slice ao xs.length c1] 56)).alloc (.cells #[.slice bo ys.length c2] 56)).alloc (.cells #[.slice none 0 0] 56)) w0 := (Below.refl _ _).grown hgrow0 (by simp) (by simp)
  have hb0 : Below w.heap.size w w0 := (hW _ _ _).trans (hb3.mono (by omega))
  obtain ⟨hA0, hB0, hR0⟩ := boxes1 w (.slice ao xs.length c1) (.slice bo ys.length c2) 56 56 56 w0 hb3
  have hs0 := hq0.lt
  obtain ⟨Y, HYY⟩ : ∃ Y, Hid (ys.map (Value.int .u32) = Y) := ⟨_, rfl⟩
  clear hown0 hgrow0 hb3
  have hsrc := copy_src (hy.below (Nat.le_refl _) hb0)
  rw [HYY.out] at hsrc
  go_wp2_with (refine wpList_copy_splice rfl (.tmp 23) (.tmp 25) 54 54 rfl 174 Tryz.underlying54 infoU32size _ _ _ _ _ _ rfl rfl (w.heap.size + 1 + 1 + 1) 0 ((List.replicate (xs.length + 1) (0 : Int)).map (Value.int .u32)) 174 (by exact hq0) Y (by rw [← HYY.out, List.length_map]; exact (Nat.min_eq_left (show ys.length ≤ xs.length + 1 by omega)).symm) (fun h => ⟨rfl, hsrc h⟩) (by rw [← HYY.out]; simp; omega) (by rw [← HYY.out]; exact ints_oneCell _ _) (w.heap.size + 1 + 1 + 1) w0 (Below.refl _ _) (Nat.le_refl _) ?_)
  intro w1 HQ1 hb1
  have hq1 : Blk .u32 174 w1 (w.heap.size + 1 + 1 + 1) (ys ++ List.replicate (xs.length + 1 - ys.length) 0) := by
    have h := HQ1.out
    rw [← HYY.out, splice_copy ys (xs.length + 1) (by omega)] at h
    exact h
  have hA1 : w1.cell? ⟨w.heap.size, 0, none⟩ = some (.slice ao xs.length c1) := by rw [hb1.cell (p := ⟨w.heap.size, 0, none⟩) (by simp; omega)]; exact hA0
  have hbw1 : Below w.heap.size w w1 := hb0.trans (hb1.mono (by omega))
  have hR1 : Fz1 (w.heap.size + 1 + 1) w1 := fz1_mid hR0 hb1 (by omega)
  clear HQ1 hq0 hsrc HYY hA0 hB0 hR0 hb0 hs0 hb1
  go_wp2
  go_loopw [6, 30] (fun cv iv wr => ∃ (k : Nat) (ss : List Int) (c : Int), k ≤ xs.length ∧ iv = .int .i64 k ∧ cv = .int .u64 c ∧ 0 ≤ c ∧ c ≤ 1 ∧ Blk .u32 174 wr (w.heap.size + 1 + 1 + 1) ss ∧ Hid (ss.length = xs.length + 1) ∧ Dig 4294967296 ss ∧ Hid (∀ j, k ≤ j → nth ss j = nth ys j) ∧
      Hid (val 4294967296 (ss.take k) + c * 4294967296 ^ k = val 4294967296 (xs.take k) + val 4294967296 (ys.take k)) ∧ wr.cell? ⟨w.heap.size, 0, none⟩ = some (.slice ao xs.length c1) ∧ Fz1 (w.heap.size + 1 + 1) wr ∧ Below w.heap.size w wr)
    (fun _ iv _ => xs.length - (intOf iv).toNat)
  case atStart => exact ⟨0, _, 0, by omega, rfl, rfl, by omega, by omega, hq1, by simp [Hid]; omega, dy.append (Dig.replicate (by omega) _), fun j _ => nth_pad ys _ j, by simp [Hid, val], hA1, hR1, hbw1⟩
  case round =>
    clear hq1 hA1 hR1 hbw1
    obtain ⟨k, ss, c, hk, rfl, rfl, hc0, hc1, hq, HL, hd, HN, H, hA, hR, hbel⟩ := hrel
    by_cases hlt : k < xs.length
    · obtain ⟨b, off, rfl, hc⟩ := hx (by omega)
      have hlen : k < ss.length := by rw [HL.out]; omega
      have bx := dx.nth (by omega) k
      have bY := dy.nth (by omega) k
      have hck := cell_later hbel (hc k hlt)
      have hcs := hq.cell k hlen
      rw [HN.out k (Nat.le_refl _)] at hcs
      have hcf := hq.free k
      obtain ⟨x, HX⟩ : ∃ x, Hid (nth xs k = x) := ⟨_, rfl⟩
      obtain ⟨y, HY⟩ : ∃ y, Hid (nth ys k = y) := ⟨_, rfl⟩
      rw [HX.out] at hck bx
      rw [HY.out] at hcs bY
      have HS := add_step xs ys ss k c (c + (x + y)) hlen H.out (by rw [HX.out, HY.out]; omega)
      have HQ := hq.set k ((c + (x + y)) % 4294967296)
      clear hc hx
      go_wp2
      go_roundw
      case rel => exact ⟨k + 1, _, _, by omega, by go_num, rfl, by omega, by omega, HQ, by unfold Hid; rw [List.length_set]; exact HL.out, hd.set (by omega) (by omega) k, fun j hj => by rw [nth_set _ _ _ _ hlen, if_neg (by omega)]; exact HN.out j (by omega), HS, cell_far hA (by simp; omega), hR.other _ _ (by simp), hbel.setCell (p := ⟨w.heap.size + 1 + 1 + 1, k, none⟩) (by simp; omega) _⟩
      case measure => simp [intOf]; omega
    · have hke : k = xs.length := by omega
      subst hke
      have hlen : xs.length < ss.length := by rw [HL.out]; omega
      have hcs := hq.cell xs.length hlen
      have hcf := hq.free xs.length
      have HE := add_end xs ys ss xs.length c HL.out rfl hle H.out
      have HQ := hq.set xs.length c
      have hd2 := hd.set hc0 (by omega : c < 4294967296) xs.length
      have hsl := HQ.sl (xs.length + 1) (xs.length + 1) (by rw [List.length_set, HL.out]) (Nat.le_refl _) (by unfold maxLen; omega)
      have hR2 := hR.other ⟨w.heap.size + 1 + 1 + 1, xs.length, none⟩ (.int .u32 c) (by simp)
      have hb2 := hbel.setCell (p := ⟨w.heap.size + 1 + 1 + 1, xs.length, none⟩) (by simp; omega) (.int .u32 c)
      have hls : (ss.set xs.length c).length ≤ 1001 := by rw [List.length_set, HL.out]; omega
      have hsz2 := HQ.lt
      go_wp2_with fail
      refine (n_trimmed_rep _ _ _ hsl (by omega) hd2).mono ?_
      rintro e w5 ⟨a, l, c', rfl, hr, _, hb5⟩
      rw [HE] at hr
      have hR5 := hR2.later (by omega) hb5
      obtain ⟨f0, y0, e0⟩ := hR5.parts
      have q0 := hR5.cell (.slice a l c')
      have hbw := Below.next hb2 hb5 (by have := hb2.size; omega)
      go_wp2
      refine bodyPost_ret (v := .agg #[.slice a l c']) (by simp [results, Tryz.results139, go_sem, q0]) rfl ⟨_, rfl, ⟨_, rfl, hr.box _ _ hR5.1⟩, hbw.setCell (p := ⟨w.heap.size + 1 + 1, 0, none⟩) (by simp; omega) _⟩

theorem n_add_any (v u : Value) (x y : Int) (w : World) (hx : RepU w v x) (hy : RepU w u y) (bx : x < lim) (bY : y < lim) :
    Calls Tryz.prog 139 #[v, u] w fun e w' => ∃ v, e = .returned v ∧ RepU w' v (x + y) ∧ Below w.heap.size w w' := by
  obtain ⟨s, rfl, xs, ⟨ao, c1, rfl, k1, k2, hxr⟩, dx, tx, rfl⟩ := hx
  obtain ⟨s, rfl, ys, ⟨bo, c2, rfl, j1, j2, hyr⟩, dy, ty, rfl⟩ := hy
  have hlx := len_of_u dx tx bx
  have hly := len_of_u dy ty bY
  rcases Nat.lt_or_ge xs.length ys.length with h | h
  · rw [Int.add_comm]
    exact n_add_lt bo ao c2 c1 ys xs w (by omega) h hyr hxr dy dx
  · exact n_add_ge ao bo c1 c2 xs ys w (by omega) h hxr hyr dx dy
end Go.Proofs.YtknnjibmacmniaaGreatDoor
