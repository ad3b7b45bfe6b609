/- natural: Common. -/
import Derived.Test.YtknnjibmacmniaaGreatDoorC18
import Derived.Test.YtknnjibmacmniaaGreatDoorC04
namespace Go.Proofs.YtknnjibmacmniaaGreatDoor
open Go.RowKit
set_option linter.unusedVariables false
attribute [local go_sem ↓] Go.wp_at_zero Go.wp_at_succ

/-- a box of one cell that holds v, which is no number -/
def Bx (w : World) (g : Nat) (v : Value) : Prop := NoInt w g ∧ ∃ T, w.heap[g]? = some (.cells #[v] T (0, 0))
theorem Bx.fz {w : World} {g : Nat} {v : Value} (h : Bx w g v) : Fz1 g w := ⟨h.1, v, h.2⟩
theorem Bx.later {g : Nat} {v : Value} {w w' : World} (h : Bx w g v) (hg : g < w.heap.size) (hb : Below w.heap.size w w') : Bx w' g v := by
  obtain ⟨hn, T, hc⟩ := h
  exact ⟨hn.below hg hb, T, (hb.block g hg).trans hc⟩
theorem Bx.mid {g B : Nat} {v : Value} {w w' : World} (h : Bx w g v) (hb : Below B w w') (hg : g < B) : Bx w' g v := by
  obtain ⟨hn, T, hc⟩ := h
  exact ⟨hn.below hg hb, T, (hb.block g hg).trans hc⟩
theorem Bx.cell {g : Nat} {v : Value} {w : World} (h : Bx w g v) : w.cell? ⟨g, 0, none⟩ = some v := by
  obtain ⟨hn, T, hc⟩ := h
  rw [cell_of_row _ _ _ _ _ _ hc]; rfl
theorem Bx.free {g : Nat} {v : Value} {w : World} (h : Bx w g v) : w.frozen? ⟨g, 0, none⟩ = false := h.fz.parts.1
theorem Bx.lt {g : Nat} {v : Value} {w : World} (h : Bx w g v) : g < w.heap.size := by
  obtain ⟨hn, T, hc⟩ := h
  exact (Array.getElem?_eq_some_iff.1 hc).1
theorem Bx.other {g : Nat} {v : Value} {w : World} (h : Bx w g v) (a : Addr) (x : Value) (hne : g ≠ a.block) : Bx (w.setCell a x) g v := by
  obtain ⟨hn, T, hc⟩ := h
  have hh := Below.heap_setCell w a x g hne
  refine ⟨fun o k y e => ?_, T, hh.trans hc⟩
  rw [World.cell?_of_block (w := w) (a := ⟨g, o, none⟩) hh] at e
  exact hn o k y e
theorem Bx.new (w : World) (v : Value) (T : Nat) (hv : ∀ k x, v ≠ .int k x) : Bx (w.alloc (.cells #[v] T)) w.heap.size v := ⟨NoInt.new w _ T (by simpa using hv), T, heap_alloc_new w _⟩
theorem Fz1.put {g : Nat} {w : World} (h : Fz1 g w) (v : Value) (hv : ∀ k x, v ≠ .int k x) : Bx (w.setCell ⟨g, 0, none⟩ v) g v := by
  obtain ⟨hn, x, T, hc⟩ := h
  exact ⟨hn.setCell _ v hv, T, by rw [heap_setCell_same w g 0 _ T v hc]; simp⟩
theorem Bx.drew {w : World} {g : Nat} {v : Value} (h : Bx w g v) : Bx w.drew g v := h
/-- what the box's number is: for measures -/
def boxVal (w : World) (g : Nat) : Nat := match w.cell? ⟨g, 0, none⟩ with | some v => readVal 4294967296 w v | none => 0
theorem Bx.read {w : World} {g : Nat} {v : Value} {n : Int} (h : Bx w g v) (hr : Rep .u32 4294967296 w v n) : boxVal w g = n.toNat := by
  unfold boxVal; rw [h.cell]; exact hr.read

set_option maxRecDepth 100000 in
set_option maxHeartbeats 3200000 in
theorem n_common_any (v u : Value) (x y : Int) (w : World) (hx : RepU w v x) (hy : RepU w u y) (bx : x < lim) (bY : y < lim) :
    Calls Tryz.prog 92 #[v, u] w fun e w' => ∃ v, e = .returned v ∧ RepU w' v (gcdI x y) ∧ Below w.heap.size w w' := by
  obtain ⟨a1, l1, c1, rfl, h1⟩ := hx.open
  obtain ⟨a2, l2, c2, rfl, h2⟩ := hy.open
  have hx0 := h1.nonneg (by omega)
  have hy0 := h2.nonneg (by omega)
  have hW : ∀ o o' o'', Below w.heap.size w (((w.alloc o).alloc o').alloc o'') := fun o o' o'' => (((Below.refl _ _).alloc (Nat.le_refl _) o).alloc (by simp) o').alloc (by simp; omega) o''
  have hA := (Bx.new w (.slice a1 l1 c1) 56 (by simp))
  have hB := (Bx.new (w.alloc (.cells #[.slice a1 l1 c1] 56)) (.slice a2 l2 c2) 56 (by simp))
  have hR := (Bx.new ((w.alloc (.cells #[.slice a1 l1 c1] 56)).alloc (.cells #[.slice a2 l2 c2] 56)) (.slice none 0 0) 56 (by simp)).fz
  have hA' := (hA.later (by simp) ((Below.refl _ _).alloc (Nat.le_refl _) (.cells #[.slice a2 l2 c2] 56))).later (by simp; omega) ((Below.refl _ _).alloc (Nat.le_refl _) (.cells #[.slice none 0 0] 56))
  have hB' := hB.later (by simp) ((Below.refl _ _).alloc (Nat.le_refl _) (.cells #[.slice none 0 0] 56))
  simp only [World.size_alloc] at hB' hR
  clear hA hB
  go_enter Tryz.func92, Tryz.ntmps92
  go_wp2
  go_loopw [9] (fun _ wr => ∃ (p q : Int) (a : Option Addr) (l c : Nat) (a' : Option Addr) (l' c' : Nat), 0 ≤ p ∧ 0 ≤ q ∧ p < lim ∧ q < lim ∧ Bx wr w.heap.size (.slice a l c) ∧ Bx wr (w.heap.size + 1) (.slice a' l' c') ∧ Fz1 (w.heap.size + 1 + 1) wr ∧ Rep .u32 4294967296 wr (.slice a l c) p ∧ Rep .u32 4294967296 wr (.slice a' l' c') q ∧ Hid (gcdI p q = gcdI x y) ∧ Below w.heap.size w wr ∧ w.heap.size + 3 ≤ wr.heap.size)
    (fun _ wr => boxVal wr (w.heap.size + 1))
  case atStart => exact ⟨x, y, a1, l1, c1, a2, l2, c2, hx0, hy0, bx, bY, hA', hB', hR, h1.below (Nat.le_refl _) (hW _ _ _), h2.below (Nat.le_refl _) (hW _ _ _), rfl, hW _ _ _, by simp⟩
  case round =>
    clear hA' hB' hR
    obtain ⟨p, q, a, l, c, a', l', c', hp0, hq0, bp, bq, hA, hB, hR, hp, hq, HG, hbel, hsz⟩ := hrel
    have hcA := hA.cell
    have hcB := hB.cell
    obtain ⟨z, HZ⟩ : ∃ z, Hid (decide (q = 0) = z) := ⟨_, rfl⟩
    go_wp2_with fail
    refine (n_zero_any _ q _ ⟨_, rfl, hq⟩).mono ?_
    rintro e w1 ⟨rfl, hb1⟩
    rw [HZ.out]
    have hA1 := hA.later (by omega) hb1
    have hB1 := hB.later (by omega) hb1
    have hR1 := hR.later (by omega) hb1
    have hp1 := hp.below (Nat.le_refl _) hb1
    have hq1 := hq.below (Nat.le_refl _) hb1
    have hbw1 := Below.next hbel hb1 hbel.size
    have hsz1 := Nat.le_trans hsz hb1.size
    cases z
    · have hqp : 0 < q := by have := of_decide_eq_false HZ.out; omega
      have hm := Int.emod_lt_of_pos p hqp
      have hm0 := Int.emod_nonneg p (show q ≠ 0 by omega)
      have HG2 : Hid (gcdI q (p % q) = gcdI x y) := by rw [gcdI_step]; exact HG
      have HM := hB.read hq
      clear hcA hcB hA hB hR hp hq hbel hb1
      have hcA := hA1.cell
      have hcB := hB1.cell
      go_wp2_with fail
      refine (n_div_any _ _ p q _ ⟨_, rfl, hp1⟩ ⟨_, rfl, hq1⟩ bp bq hqp).mono ?_
      rintro e w2 ⟨v2, u2, rfl, hv2, hu2, hb2⟩
      obtain ⟨a5, l5, c5, rfl, hv3⟩ := hv2.open
      obtain ⟨a6, l6, c6, rfl, hu3⟩ := hu2.open
      have hA2 := hA1.later (by omega) hb2
      have hB2 := hB1.later (by omega) hb2
      have hR2 := hR1.later (by omega) hb2
      have hq2 := hq1.below (Nat.le_refl _) hb2
      have hbw2 := Below.next hbw1 hb2 hbw1.size
      have hsz2 := Nat.le_trans hsz1 hb2.size
      clear hcA hcB hA1 hB1 hR1 hp1 hq1 hbw1 hb2
      have hb4 : Below w2.heap.size w2 ((w2.alloc (.cells #[.slice a5 l5 c5] 56)).alloc (.cells #[.slice a6 l6 c6] 56)) := ((Below.refl _ _).alloc (Nat.le_refl _) _).alloc (by simp) _
      have hC4 := Bx.new (w2.alloc (.cells #[.slice a5 l5 c5] 56)) (.slice a6 l6 c6) 56 (by simp)
      simp only [World.size_alloc] at hC4
      have hA4 := hA2.later (by omega) hb4
      have hB4 := hB2.later (by omega) hb4
      have hR4 := hR2.later (by omega) hb4
      have hq4 := hq2.below (Nat.le_refl _) hb4
      have hu4 := hu3.below (Nat.le_refl _) hb4
      have hbw4 := Below.next hbw2 hb4 hbw2.size
      have hsz4 := Nat.le_trans hsz2 hb4.size
      clear hA2 hB2 hR2 hq2 hv2 hv3 hu2 hu3 hbw2 hb4
      go_wp2_with fail
      generalize ((w2.alloc (.cells #[.slice a5 l5 c5] 56)).alloc (.cells #[.slice a6 l6 c6] 56)) = W4 at *
      have hcB := hB4.cell
      have hcC := hC4.cell
      have hcA := hA4.cell
      have hfA := hA4.free
      have hA5 := hA4.fz.put (.slice a' l' c') (by simp)
      have hB5 := hB4.other ⟨w.heap.size, 0, none⟩ (.slice a' l' c') (by simp)
      have hfB := hB5.free
      have hcB5 := hB5.cell
      have hB6 := hB5.fz.put (.slice a6 l6 c6) (by simp)
      have hA6 := hA5.other ⟨w.heap.size + 1, 0, none⟩ (.slice a6 l6 c6) (by simp)
      have hR6 := (hR4.other ⟨w.heap.size, 0, none⟩ (.slice a' l' c') (by simp; omega)).other ⟨w.heap.size + 1, 0, none⟩ (.slice a6 l6 c6) (by simp)
      have hq6 := (hq4.box ⟨w.heap.size, 0, none⟩ (.slice a' l' c') hA4.1).box ⟨w.heap.size + 1, 0, none⟩ (.slice a6 l6 c6) hB5.1
      have hu6 := (hu4.box ⟨w.heap.size, 0, none⟩ (.slice a' l' c') hA4.1).box ⟨w.heap.size + 1, 0, none⟩ (.slice a6 l6 c6) hB5.1
      have hbw6 := (hbw4.setCell (p := ⟨w.heap.size, 0, none⟩) (by simp) (.slice a' l' c')).setCell (p := ⟨w.heap.size + 1, 0, none⟩) (by simp) (.slice a6 l6 c6)
      have hne6 : ¬ (w2.heap.size + 1 = w.heap.size) := by omega
      go_region
      go_wp2
      go_roundw
      case rel => exact ⟨q, p % q, a', l', c', a6, l6, c6, hq0, hm0, bq, by omega, hA6, hB6, hR6, hq6, hu6, HG2, hbw6.drew, by simp [World.setCell]; omega⟩
      case measure =>
        rw [HM]
        have hbv := hB6.drew.read (hu6.below (Nat.le_refl _) (Below.refl _ _).drew)
        exact Nat.lt_of_le_of_lt (Nat.le_of_eq hbv) (by omega)
    · have hq0' : q = 0 := of_decide_eq_true HZ.out
      have HR : Hid (p = gcdI x y) := by rw [← HG.out, hq0', gcdI_zero hp0]; exact rfl
      clear hcA hcB hA hB hR hp hq hbel hb1 hq0'
      have hcA := hA1.cell
      obtain ⟨f0, y0, e0⟩ := hR1.parts
      have q0 := hR1.cell (.slice a l c)
      go_wp2
      refine bodyPost_ret (v := .agg #[.slice a l c]) (by simp [results, Tryz.results92, go_sem, q0]) rfl ⟨_, rfl, ⟨_, rfl, by rw [← HR.out]; exact hp1.box _ _ hR1.1⟩, hbw1.setCell (p := ⟨w.heap.size + 1 + 1, 0, none⟩) (by simp; omega) _⟩
end Go.Proofs.YtknnjibmacmniaaGreatDoor

/- natural: timesTenPlus. -/
namespace Go.Proofs.YtknnjibmacmniaaGreatDoor
open Go.RowKit
set_option linter.unusedVariables false

theorem own_cell {k : IntKind} {T base g n cap : Nat} {w : World} {zs : List Int} (h : w.ownsRow base T 1 (.slice (some ⟨g, 0, none⟩) n cap) n (zs.map (Value.int k))) (j : Nat) (hj : j < zs.length) : w.cell? ⟨g, j, none⟩ = some (.int k (nth zs j)) ∧ w.frozen? ⟨g, j, none⟩ = false ∧ base ≤ g ∧ g < w.heap.size := by
  rcases h.2 with ⟨h1, _⟩ | ⟨g', cap', cur, e, hb, hg, hn, hm, hs, ht⟩
  · cases h1
  · cases e
    have hl := h.1
    simp only [List.length_map, Nat.mul_one] at hl
    have hp : PB k T w g zs := ⟨cur, hg, by omega, by rw [hl]; simpa using ht⟩
    exact ⟨hp.cell j hj, hp.free j, hb, hp.lt⟩
theorem own_set {k : IntKind} {T base g n cap : Nat} {w : World} {zs : List Int} (h : w.ownsRow base T 1 (.slice (some ⟨g, 0, none⟩) n cap) n (zs.map (Value.int k))) (j : Nat) (x : Int) : (w.setCell ⟨g, j, none⟩ (.int k x)).ownsRow base T 1 (.slice (some ⟨g, 0, none⟩) n cap) n ((zs.set j x).map (Value.int k)) := by
  rcases h.2 with ⟨h1, _⟩ | ⟨g', cap', cur, e, hb, hg, hn, hm, hs, ht⟩
  · cases h1
  · cases e
    refine ⟨by simpa using h.1, Or.inr ⟨g, cap, _, rfl, hb, heap_setCell_same w g j cur T _ hg, hn, hm, by simpa using hs, ?_⟩⟩
    rw [Array.toList_setIfInBounds, List.take_set, ht, List.map_set]
theorem own_shape {T base n : Nat} {w : World} {v : Value} {xs : List Value} (h : w.ownsRow base T 1 v n xs) : (∃ ao cap, v = .slice ao n cap) ∧ (0 < n → ∃ g cap, v = .slice (some ⟨g, 0, none⟩) n cap) := by
  rcases h.2 with ⟨h1, h0⟩ | ⟨g', cap', cur, e, hb, hg, hn, hm, hs, ht⟩
  · subst h0; exact ⟨⟨_, _, h1⟩, fun h => by omega⟩
  · exact ⟨⟨_, _, e⟩, fun _ => ⟨_, _, e⟩⟩

theorem ten_step (zs ss : List Int) (k : Nat) (c t d : Int) (hk : k < ss.length) (H : val 4294967296 (ss.take k) + c * 4294967296 ^ k = val 4294967296 (zs.take k) * 10 + d) (ht : t = c + nth zs k * 10) :
    val 4294967296 ((ss.set k (t % 4294967296)).take (k + 1)) + (t / 4294967296) * 4294967296 ^ (k + 1) = val 4294967296 (zs.take (k + 1)) * 10 + d := by
  rw [val_take_succ, val_take_succ, nth_set _ _ _ _ hk, if_pos rfl, List.take_set_of_le (Nat.le_refl _), Int.pow_succ]
  have h1 : t = 4294967296 * (t / 4294967296) + t % 4294967296 := by omega
  generalize t / 4294967296 = q at *
  generalize t % 4294967296 = r at *
  generalize (4294967296 : Int) ^ k = p at *
  grind
theorem ten_top {zs ss : List Int} {d : Int} (dz : Dig 4294967296 zs) (ds : Dig 4294967296 ss) (tz : Top zs) (hl : ss.length = zs.length) (hd : 0 ≤ d) (hv : val 4294967296 ss = val 4294967296 zs * 10 + d) : Top ss := by
  intro n hn h0
  have h1 := val_pos_of_top (by omega) dz tz n (by omega)
  have h2 := val_take_succ 4294967296 ss n
  rw [List.take_of_length_le (by omega), h0, Int.mul_zero, Int.add_zero] at h2
  have h3 := val_lt (by omega) (ds.take n)
  rw [List.length_take, Nat.min_eq_left (by omega)] at h3
  have := pow_pos (show (0 : Int) < 4294967296 by omega) n
  omega
theorem top_snoc {ss : List Int} {c : Int} (hc : 0 < c) : Top (ss ++ [c]) := by
  intro n hn
  simp at hn
  subst hn
  rw [nth_snoc]; omega

set_option maxRecDepth 100000 in
set_option maxHeartbeats 3200000 in
theorem n_ten_any (v : Value) (zs : List Int) (d : Int) (base : Nat) (w : World) (hB : base ≤ w.heap.size) (hown : w.ownsRow base 174 1 v zs.length (zs.map (Value.int .u32))) (hl : zs.length ≤ 1000) (dz : Dig 4294967296 zs) (tz : Top zs) (hd0 : 0 ≤ d) (hd1 : d ≤ 9) :
    Calls Tryz.prog 133 #[v, .int .u8 d] w fun e w' => ∃ v' zs', e = .returned v' ∧ w'.ownsRow base 174 1 v' zs'.length (zs'.map (Value.int .u32)) ∧ Dig 4294967296 zs' ∧ Top zs' ∧ val 4294967296 zs' = val 4294967296 zs * 10 + d ∧ Below base w w' := by
  obtain ⟨i0, hi, hz0, hz1, hz2⟩ := info_parts Tryz.infoU32
  obtain ⟨⟨ao, cap, rfl⟩, hsome⟩ := own_shape hown
  obtain ⟨n, HN⟩ : ∃ n, Hid (zs.length = n) := ⟨_, rfl⟩
  rw [HN.out] at hown hl hsome ⊢
  go_enter Tryz.func133, Tryz.ntmps133
  go_wp2
  go_loopw [5, 12] (fun cv iv wr => ∃ (k : Nat) (ss : List Int) (c : Int), k ≤ n ∧ iv = .int .i64 k ∧ cv = .int .u64 c ∧ 0 ≤ c ∧ c ≤ 9 ∧ wr.ownsRow base 174 1 (.slice ao n cap) n (ss.map (Value.int .u32)) ∧ Hid (ss.length = n) ∧ Dig 4294967296 ss ∧ Hid (∀ j, k ≤ j → nth ss j = nth zs j) ∧
      Hid (val 4294967296 (ss.take k) + c * 4294967296 ^ k = val 4294967296 (zs.take k) * 10 + d) ∧ Below base w wr)
    (fun _ iv _ => n - (intOf iv).toNat)
  case atStart => exact ⟨0, zs, d, by omega, rfl, rfl, hd0, hd1, hown, HN.out, dz, fun _ _ => rfl, by simp [Hid, val], Below.refl _ _⟩
  case round =>
    clear hown
    obtain ⟨k, ss, c, hk, rfl, rfl, hc0, hc1, hown, HL, ds, HS, H, hbel⟩ := hrel
    have hsz := hbel.size
    by_cases hlt : k < n
    · obtain ⟨g, cap', he⟩ := hsome (by omega)
      cases he
      have hlen : k < ss.length := by rw [HL.out]; omega
      obtain ⟨hck, hcf, hbg, hgl⟩ := own_cell hown k hlen
      rw [HS.out k (Nat.le_refl _)] at hck
      have bx := dz.nth (by omega) k
      obtain ⟨x, HX⟩ : ∃ x, Hid (nth zs k = x) := ⟨_, rfl⟩
      rw [HX.out] at hck bx
      have HT := ten_step zs ss k c (c + x * 10) d hlen H.out (by rw [HX.out])
      go_wp2
      go_roundw
      case rel => exact ⟨k + 1, _, _, by omega, by go_num, rfl, by omega, by omega, own_set hown k _, by unfold Hid; rw [List.length_set]; exact HL.out, ds.set (by omega) (by omega) k, fun j hj => by rw [nth_set _ _ _ _ hlen, if_neg (by omega)]; exact HS.out j (by omega), HT, hbel.setCell (p := ⟨g, k, none⟩) hbg _⟩
      case measure => simp [intOf]; omega
    · have hke : k = n := by omega
      subst hke
      have HE : Hid (val 4294967296 ss + c * 4294967296 ^ k = val 4294967296 zs * 10 + d) := by
        have := H.out
        rwa [List.take_of_length_le (by rw [HL.out]; omega), List.take_of_length_le (by rw [HN.out]; omega)] at this
      clear H hsome
      by_cases hc : 0 < c
      · go_wp2_with (at_builtin; refine wpList_append_own _ rfl _ _ 54 rfl base 174 i0 (.int .u32 0) 1 4 Tryz.underlying54 hi hz0 hz1 hz2 rfl (by decide) _ _ _ rfl (hown.alloc _) ⟨wr.heap.size, 0, none⟩ 1 1 [.int .u32 _] rfl rfl (cell_one_new _ _ _) (by simp [Value.oneCell']) (by unfold maxLen; omega) (by omega) (by simp; omega) ?_)
        intro v' w1 hown' hgrow _
        have R := own_step hbel (by omega) hown hown' hgrow
        clear hown' hgrow hown
        go_wp2
        go_ret
        refine ⟨_, ss ++ [c], rfl, ?_, ds.snoc hc0 (by omega), top_snoc hc, ?_, R.2⟩
        · have := R.1; rwa [show k + 1 = (ss ++ [c]).length by simp [HL.out]] at this
        · rw [val_snoc, HL.out, ← HE.out, Int.mul_comm]
      · have hc00 : c = 0 := by omega
        have HE2 : val 4294967296 ss = val 4294967296 zs * 10 + d := by have := HE.out; rw [hc00] at this; omega
        have ht := ten_top dz ds tz (by rw [HL.out, HN.out]) hd0 HE2
        have hown2 : wr.ownsRow base 174 1 (.slice ao k cap) ss.length (ss.map (Value.int .u32)) := by rw [HL.out]; exact hown
        have HE3 : Hid (val 4294967296 ss = val 4294967296 zs * 10 + d) := HE2
        clear hc00 HE2
        go_wp2
        go_ret
        exact ⟨_, rfl, ss, hown2, ds, ht, HE3.out, hbel⟩
end Go.Proofs.YtknnjibmacmniaaGreatDoor
