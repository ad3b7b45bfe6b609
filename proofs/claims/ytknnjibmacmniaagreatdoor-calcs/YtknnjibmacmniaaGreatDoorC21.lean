/- natural: chunks. -/
import Derived.Test.YtknnjibmacmniaaGreatDoorC19
namespace Go.Proofs.YtknnjibmacmniaaGreatDoor
open Go.RowKit
set_option linter.unusedVariables false

theorem chunk_step {cs : List Int} {n r : Int} (H : n = val 1000000000 cs + 1000000000 ^ cs.length * r) : n = val 1000000000 (cs ++ [r % 1000000000]) + 1000000000 ^ (cs ++ [r % 1000000000]).length * (r / 1000000000) := by
  rw [val_snoc, List.length_append, List.length_singleton, Int.pow_succ, H]
  have h1 : r = 1000000000 * (r / 1000000000) + r % 1000000000 := by omega
  generalize r / 1000000000 = q at *
  generalize r % 1000000000 = t at *
  subst h1
  generalize (1000000000 : Int) ^ cs.length = p at *
  grind
theorem chunk_low {cs : List Int} {n r : Int} (H : n = val 1000000000 cs + 1000000000 ^ cs.length * r) (hd : Dig 1000000000 cs) (hr : 0 < r) : 1000000000 ^ cs.length ≤ n := by
  have h1 := val_nonneg (by omega) hd
  have h2 := Int.mul_le_mul_of_nonneg_left (show 1 ≤ r by omega) (Int.le_of_lt (pow_pos (show (0 : Int) < 1000000000 by omega) cs.length))
  omega
theorem chunk_len {n : Int} {k : Nat} (hn : n < lim) (h : 1000000000 ^ k ≤ n) : k < 100 := by
  rcases Nat.lt_or_ge k 100 with h1 | h1
  · exact h1
  · have h2 := pow_mono (show (0 : Int) < 1000000000 by omega) h1
    have e : lim = (1000000000 : Int) ^ 100 := by
      unfold lim
      rw [show (1000000000 : Int) = 10 ^ 9 by decide, ← Int.pow_mul]
    omega

theorem own_later {base T n : Nat} {w w' : World} {v : Value} {xs : List Value} (h : w.ownsRow base T 1 v n xs) (hb : Below w.heap.size w w') : w'.ownsRow base T 1 v n xs := by
  refine ⟨h.1, ?_⟩
  rcases h.2 with h1 | ⟨g, cap, cur, e, hbg, hg, h3⟩
  · exact Or.inl h1
  · exact Or.inr ⟨g, cap, cur, e, hbg, (hb.block g (Array.getElem?_eq_some_iff.1 hg).1).trans hg, h3⟩
theorem own_other {base T n : Nat} {w : World} {v : Value} {xs : List Value} (h : w.ownsRow base T 1 v n xs) (a : Addr) (x : Value) (ha : a.block < base) : (w.setCell a x).ownsRow base T 1 v n xs := by
  refine ⟨h.1, ?_⟩
  rcases h.2 with h1 | ⟨g, cap, cur, e, hbg, hg, h3⟩
  · exact Or.inl h1
  · exact Or.inr ⟨g, cap, cur, e, hbg, (Below.heap_setCell w a x g (by omega)).trans hg, h3⟩
theorem own_mono {base B' T n : Nat} {w : World} {v : Value} {xs : List Value} (h : w.ownsRow base T 1 v n xs) (hB : B' ≤ base) : w.ownsRow B' T 1 v n xs := by
  refine ⟨h.1, ?_⟩
  rcases h.2 with h1 | ⟨g, cap, cur, e, hbg, hg, h3⟩
  · exact Or.inl h1
  · exact Or.inr ⟨g, cap, cur, e, Nat.le_trans hB hbg, hg, h3⟩

theorem Rep.grown {k : IntKind} {b : Int} {w w' : World} {v : Value} {n : Int} {row : Option Nat} (h : Rep k b w v n) (hg : w.grownBy w' row) (hne : ∀ g, v.ownBlock = some g → row ≠ some g) : Rep k b w' v n := by
  obtain ⟨zs, ⟨ao, cap, rfl, h1, h2, h3⟩, h4⟩ := h
  refine ⟨zs, ⟨ao, cap, rfl, h1, h2, fun h0 => ?_⟩, h4⟩
  obtain ⟨b, off, rfl, hc⟩ := h3 h0
  refine ⟨b, off, rfl, fun j hj => ?_⟩
  have hlt := lt_of_cell (hc j hj)
  rw [World.cell?_of_block (w := w) (a := ⟨b, off + j, none⟩) (hg.block b hlt (fun e => hne b rfl e.symm))]
  exact hc j hj

/-- the chunks of n, the lowest first -/
structure Chk (n : Int) (cs : List Int) : Prop where
  v : n = val 1000000000 cs
  d : Dig 1000000000 cs
  l0 : 0 < cs.length
  l1 : cs.length ≤ 100
  t : 1 < cs.length → 1000000000 ^ (cs.length - 1) ≤ n

set_option maxRecDepth 100000 in
set_option maxHeartbeats 3200000 in
theorem n_chunks_any (v : Value) (n : Int) (w : World) (hx : RepU w v n) (bx : n < lim) :
    Calls Tryz.prog 104 #[v] w fun e w' => ∃ v' cs, e = .returned v' ∧ w'.ownsRow w.heap.size 174 1 v' cs.length (cs.map (Value.int .u32)) ∧ Chk n cs ∧ Below w.heap.size w w' := by
  obtain ⟨i0, hi, hz0, hz1, hz2⟩ := info_parts Tryz.infoU32
  obtain ⟨a1, l1, c1, rfl, h1⟩ := hx.open
  have hn0 := h1.nonneg (by omega)
  have hW : ∀ o, Below w.heap.size w (w.alloc o) := fun o => (Below.refl _ _).alloc (Nat.le_refl _) o
  go_enter Tryz.func104, Tryz.ntmps104
  go_wp2_with fail
  refine (n_divw_any _ n 1000000000 _ (hx.below (Nat.le_refl _) (hW _)) bx (by omega) (by omega)).mono ?_
  rintro e w1 ⟨v1, rfl, hv1, hb1⟩
  obtain ⟨a5, l5, c5, rfl, hv2⟩ := hv1.open
  have hbw1 := Below.next (hW _) hb1 (by simp)
  have hsz1 : w.heap.size + 1 ≤ w1.heap.size := by have := hb1.size; simpa using this
  have hC := Bx.new w1 (.slice a5 l5 c5) 56 (by simp)
  have hC2 := hC.later (by simp) ((Below.refl _ _).alloc (Nat.le_refl _) (.cells #[.int .u32 (n % 1000000000)] 174))
  have hB2 : Below w1.heap.size w1 ((w1.alloc (.cells #[.slice a5 l5 c5] 56)).alloc (.cells #[.int .u32 (n % 1000000000)] 174)) := ((Below.refl _ _).alloc (Nat.le_refl _) _).alloc (by simp) _
  have hr2 := hv2.below (Nat.le_refl _) hB2
  have hbw2 := Below.next hbw1 hB2 hbw1.size
  have hown2 : ((w1.alloc (.cells #[.slice a5 l5 c5] 56)).alloc (.cells #[.int .u32 (n % 1000000000)] 174)).ownsRow (w1.heap.size + 1) 174 1 (.slice (some ⟨w1.heap.size + 1, 0, none⟩) 1 1) [n % 1000000000].length ([n % 1000000000].map (Value.int .u32)) := by
    refine ⟨by simp, Or.inr ⟨w1.heap.size + 1, 1, #[.int .u32 (n % 1000000000)], rfl, Nat.le_refl _, ?_, by simp, by simp [maxLen], by simp, by simp⟩⟩
    have := heap_alloc_new (w1.alloc (.cells #[.slice a5 l5 c5] 56)) (.cells #[.int .u32 (n % 1000000000)] 174)
    simpa using this
  have hm0 := Int.emod_nonneg n (show (1000000000 : Int) ≠ 0 by omega)
  have hm1 := Int.emod_lt_of_pos n (show (0 : Int) < 1000000000 by omega)
  have H0 : Hid (n = val 1000000000 [n % 1000000000] + 1000000000 ^ [n % 1000000000].length * (n / 1000000000)) := by
    unfold Hid; simp [val]; omega
  have hq0 := Int.ediv_nonneg hn0 (show (0 : Int) ≤ 1000000000 by omega)
  have hq1 : n / 1000000000 < lim := by omega
  obtain ⟨cs0, HC0⟩ : ∃ cs, Hid ([n % 1000000000] = cs) := ⟨_, rfl⟩
  have hcl0 : cs0.length = 1 := by rw [← HC0.out]; rfl
  have hcd0 : Dig 1000000000 cs0 := by rw [← HC0.out]; exact Dig.cons hm0 hm1 Dig.nil
  rw [HC0.out] at hown2 H0
  clear hb1 hB2 hv1 hv2 hC
  go_wp2
  go_loopw [5] (fun v5 wr => ∃ (cs : List Int) (r : Int) (a : Option Addr) (l c : Nat), wr.ownsRow (w1.heap.size + 1) 174 1 v5 cs.length (cs.map (Value.int .u32)) ∧ Bx wr w1.heap.size (.slice a l c) ∧ Rep .u32 4294967296 wr (.slice a l c) r ∧ 0 ≤ r ∧ r < lim ∧ Hid (n = val 1000000000 cs + 1000000000 ^ cs.length * r) ∧ Dig 1000000000 cs ∧ 0 < cs.length ∧ cs.length ≤ 100 ∧ Hid (1 < cs.length → 1000000000 ^ (cs.length - 1) ≤ n) ∧ Below w.heap.size w wr ∧ w1.heap.size + 2 ≤ wr.heap.size)
    (fun _ wr => boxVal wr w1.heap.size)
  case atStart => exact ⟨cs0, n / 1000000000, a5, l5, c5, hown2, hC2, hr2, hq0, hq1, H0, hcd0, by omega, by omega, fun h => by omega, hbw2, by simp⟩
  case round =>
    clear hown2 hC2 hr2 H0 hcd0 hbw2 hcl0 HC0 hq0 hq1 hm0 hm1
    obtain ⟨cs, r, a, l, c, hown, hC, hr, hr0, hr1, H, dc, hl0, hl1, HT, hbel, hsz⟩ := hrel
    obtain ⟨⟨ao, cap, rfl⟩, _⟩ := own_shape hown
    have hcC := hC.cell
    obtain ⟨z, HZ⟩ : ∃ z, Hid (decide (r = 0) = z) := ⟨_, rfl⟩
    go_wp2_with fail
    refine (n_zero_any _ r _ ⟨_, rfl, hr⟩).mono ?_
    rintro e w2 ⟨rfl, hb2⟩
    rw [HZ.out]
    have hC2 := hC.later (by omega) hb2
    have hr2 := hr.below (Nat.le_refl _) hb2
    have hown2 := own_later hown hb2
    have hbw2 := Below.next hbel hb2 hbel.size
    have hsz2 := Nat.le_trans hsz hb2.size
    have HM := hC.read hr
    clear hcC hC hr hown hbel hb2
    have hcC := hC2.cell
    cases z
    · have hrp : 0 < r := by have := of_decide_eq_false HZ.out; omega
      have hlow := chunk_low H.out dc hrp
      have hlen := chunk_len bx hlow
      have HL : Hid (1000000000 ^ cs.length ≤ n) := hlow
      clear hlow
      go_wp2_with fail
      refine (n_divw_fr _ r 1000000000 _ ⟨_, rfl, hr2⟩ hr1 (by omega) (by omega)).mono ?_
      rintro e w3 ⟨a6, l6, c6, rfl, hv4, hfr, hb3⟩
      have hC3 := hC2.later (by omega) hb3
      have hown3 := own_later hown2 hb3
      have hbw3 := Below.next hbw2 hb3 hbw2.size
      have hsz3 := Nat.le_trans hsz2 hb3.size
      have hfC := hC3.free
      have hcC3 := hC3.cell
      have hC4 := hC3.fz.put (.slice a6 l6 c6) (by simp)
      have hv5 := hv4.box ⟨w1.heap.size, 0, none⟩ (.slice a6 l6 c6) hC3.1
      have hown4 := own_other hown3 ⟨w1.heap.size, 0, none⟩ (.slice a6 l6 c6) (by simp)
      have hbw4 := hbw3.setCell (p := ⟨w1.heap.size, 0, none⟩) (by simp; omega) (.slice a6 l6 c6)
      have hsep : ∀ g, (Value.slice a6 l6 c6).ownBlock = some g → (Value.slice ao cs.length cap).ownBlock ≠ some g := fun g hg e => by
        have k1 := hfr g hg
        have k2 := (hown2.lt g e).2
        omega
      have HSEP : Hid (∀ g, (Value.slice a6 l6 c6).ownBlock = some g → (Value.slice ao cs.length cap).ownBlock ≠ some g) := hsep
      have hm0 := Int.emod_nonneg r (show (1000000000 : Int) ≠ 0 by omega)
      have hm1 := Int.emod_lt_of_pos r (show (0 : Int) < 1000000000 by omega)
      have hq0 := Int.ediv_nonneg hr0 (show (0 : Int) ≤ 1000000000 by omega)
      have hq1 : r / 1000000000 < lim := by omega
      have hq2 : r / 1000000000 < r := by omega
      have HS := chunk_step H.out
      obtain ⟨t, HTT⟩ : ∃ t, Hid (r % 1000000000 = t) := ⟨_, rfl⟩
      rw [HTT.out] at HS hm0 hm1 ⊢
      have hs4 : (w3.setCell ⟨w1.heap.size, 0, none⟩ (.slice a6 l6 c6)).heap.size = w3.heap.size := by simp [World.setCell]
      have hone := cell_one_new (w3.setCell ⟨w1.heap.size, 0, none⟩ (.slice a6 l6 c6)) (.int .u32 t) 174
      rw [hs4] at hone
      have HS2 : Hid (n = val 1000000000 (cs ++ [t]) + 1000000000 ^ (cs ++ [t]).length * (r / 1000000000)) := HS
      have HONE := hone
      have hdc : Dig 1000000000 (cs ++ [t]) := dc.snoc hm0 hm1
      have hs5 : Hid ((w3.setCell ⟨w1.heap.size, 0, none⟩ (.slice a6 l6 c6)).heap.size = w3.heap.size) := hs4
      clear hcC hC2 hown2 hbw2 hb3 hv4 hr2 hC3 hown3 hbw3 hsep HS hs4 hone
      go_wp2_with (at_builtin; refine wpList_append_own _ rfl _ _ 54 rfl (w1.heap.size + 1) 174 i0 (.int .u32 0) 1 4 Tryz.underlying54 hi hz0 hz1 hz2 rfl (by decide) _ _ _ rfl (hown4.alloc _) ⟨w3.heap.size, 0, none⟩ 1 1 [.int .u32 _] rfl rfl HONE (by simp [Value.oneCell']) (by unfold maxLen; omega) (by omega) (by simp; omega) ?_)
      intro v' w5 hown' hgrow _
      have R := own_step (Below.refl (w1.heap.size + 1) (w3.setCell ⟨w1.heap.size, 0, none⟩ (.slice a6 l6 c6))) (by rw [hs5.out]; omega) hown4 hown' hgrow
      have hC5 := hC4.mid R.2 (by omega)
      have hv6 := (hv5.below (Nat.le_refl _) ((Below.refl _ _).alloc (Nat.le_refl _) _)).grown hgrow HSEP.out
      have hbw5 := hbw4.trans (R.2.mono (by omega))
      have hsz5 : w1.heap.size + 2 ≤ w5.heap.size := by have := R.2.size; rw [hs5.out] at this; omega
      have HM5 := hC5.read hv6
      clear hown' hgrow hown4 hC4 hv5 hbw4 HONE
      go_wp2
      go_roundw
      case rel => exact ⟨cs ++ [t], r / 1000000000, a6, l6, c6, by have := R.1; rwa [show cs.length + 1 = (cs ++ [t]).length by simp] at this, hC5, hv6, hq0, hq1, HS2, hdc, by simp, by simp; omega, fun _ => by have := HL.out; simpa using this, hbw5, hsz5⟩
      case measure => rw [HM, HM5]; omega
    · have hr00 : r = 0 := of_decide_eq_true HZ.out
      have HE : Hid (n = val 1000000000 cs) := by have := H.out; rw [hr00, Int.mul_zero, Int.add_zero] at this; exact this
      have hownE := own_mono (B' := w.heap.size) hown2 (by omega)
      clear hr00
      go_wp2
      go_ret
      exact ⟨_, cs, rfl, hownE, ⟨HE.out, dc, hl0, hl1, HT.out⟩, hbw2⟩
end Go.Proofs.YtknnjibmacmniaaGreatDoor

/- slices.Reverse over words. -/
namespace Go.Proofs.YtknnjibmacmniaaGreatDoor
open Go.RowKit
set_option linter.unusedVariables false
attribute [local go_sem ↓] Go.wp_at_zero Go.wp_at_succ

theorem nth_reverse (zs : List Int) (t : Nat) (h : t < zs.length) : nth zs.reverse t = nth zs (zs.length - 1 - t) := by
  rw [nth_eq _ _ (by simpa using h), nth_eq _ _ (by omega), List.getElem_reverse]
theorem eq_reverse {zs ss : List Int} (hl : ss.length = zs.length) (h : ∀ t, t < zs.length → nth ss t = nth zs (zs.length - 1 - t)) : ss = zs.reverse := by
  apply List.ext_getElem
  · simp [hl]
  · intro t h1 h2
    rw [← nth_eq ss t h1, ← nth_eq zs.reverse t h2, nth_reverse zs t (by omega)]
    exact h t (by omega)
/-- how far the turning has come -/
def Rvd (zs ss : List Int) (n i : Nat) : Prop := ∀ t, t < n → nth ss t = if t < i ∨ n - i ≤ t then nth zs (n - 1 - t) else nth zs t
theorem Rvd.step {zs ss : List Int} {n i j : Nat} (h : Rvd zs ss n i) (hl : ss.length = n) (hj : j = n - 1 - i) (hij : i < j) (hin : i < n) : Rvd zs ((ss.set i (nth ss j)).set j (nth ss i)) n (i + 1) := by
  intro t ht
  rw [nth_set _ _ _ _ (by rw [List.length_set]; omega), nth_set _ _ _ _ (by omega)]
  have h1 := h t ht
  have h2 := h i hin
  have h3 := h j (by omega)
  rw [if_neg (by omega)] at h2 h3
  by_cases e1 : t = j
  · rw [if_pos e1, if_pos (by omega), h2]; congr 1; omega
  · rw [if_neg e1]
    by_cases e2 : t = i
    · rw [if_pos e2, if_pos (by omega), h3]; congr 1; omega
    · rw [if_neg e2, h1]
      by_cases e3 : t < i ∨ n - i ≤ t
      · rw [if_pos e3, if_pos (by omega)]
      · rw [if_neg e3, if_neg (by omega)]
theorem Rvd.end {zs ss : List Int} {n i : Nat} (h : Rvd zs ss n i) (hl : ss.length = n) (hz : zs.length = n) (hi : n ≤ 2 * i + 1) : ss = zs.reverse := by
  apply eq_reverse (by omega)
  intro t ht
  rw [h t (by omega), hz]
  split
  · rfl
  · congr 1; omega

set_option maxRecDepth 100000 in
set_option maxHeartbeats 1600000 in
theorem n_reverse_any (v : Value) (zs : List Int) (base : Nat) (w : World) (hown : w.ownsRow base 174 1 v zs.length (zs.map (Value.int .u32))) (h0 : 0 < zs.length) (hl : zs.length ≤ 1000) :
    Calls Tryz.prog 105 #[v] w fun e w' => e = .returned (.tuple #[]) ∧ w'.ownsRow base 174 1 v zs.length (zs.reverse.map (Value.int .u32)) ∧ Below base w w' := by
  obtain ⟨_, hsome⟩ := own_shape hown
  obtain ⟨g, cap, rfl⟩ := hsome h0
  obtain ⟨n, HN⟩ : ∃ n, Hid (zs.length = n) := ⟨_, rfl⟩
  rw [HN.out] at hown hl h0 ⊢
  go_enter Tryz.func105, Tryz.ntmps105
  go_wp2
  go_loopw [2, 3] (fun iv jv wr => ∃ (i : Nat) (ss : List Int), i ≤ n ∧ iv = .int .i64 i ∧ jv = .int .i64 ((n : Int) - 1 - i) ∧ wr.ownsRow base 174 1 (.slice (some ⟨g, 0, none⟩) n cap) n (ss.map (Value.int .u32)) ∧ Hid (ss.length = n) ∧ Rvd zs ss n i ∧ Below base w wr)
    (fun iv _ _ => n - (intOf iv).toNat)
  case atStart => exact ⟨0, zs, by omega, rfl, by simp, hown, HN.out, fun t ht => by rw [if_neg (by omega)], Below.refl _ _⟩
  case round =>
    clear hown
    obtain ⟨i, ss, hi, rfl, rfl, hown, HL, hR, hbel⟩ := hrel
    have HR : Hid (Rvd zs ss n i) := hR
    clear hR
    by_cases hij : 2 * i + 1 < n
    · obtain ⟨j, HJ⟩ : ∃ j, Hid (j = n - 1 - i) := ⟨_, rfl⟩
      have hj1 : (n : Int) - 1 - i = (j : Int) := by have := HJ.out; omega
      have hij2 : i < j := by have := HJ.out; omega
      have hjn : j < n := by have := HJ.out; omega
      rw [hj1]
      obtain ⟨hci, hfi, hbg, hgl⟩ := own_cell hown i (by rw [HL.out]; omega)
      obtain ⟨hcj, hfj, _, _⟩ := own_cell hown j (by rw [HL.out]; omega)
      have HR2 : Hid (Rvd zs ((ss.set i (nth ss j)).set j (nth ss i)) n (i + 1)) := HR.out.step HL.out HJ.out hij2 (by omega)
      have hown2 := own_set (own_set hown i (nth ss j)) j (nth ss i)
      have hb2 := (hbel.setCell (p := ⟨g, i, none⟩) hbg (.int .u32 (nth ss j))).setCell (p := ⟨g, j, none⟩) hbg (.int .u32 (nth ss i))
      have HL2 : Hid (((ss.set i (nth ss j)).set j (nth ss i)).length = n) := by unfold Hid; rw [List.length_set, List.length_set]; exact HL.out
      obtain ⟨zz, HZZ⟩ : ∃ zz, Hid ((ss.set i (nth ss j)).set j (nth ss i) = zz) := ⟨_, rfl⟩
      rw [HZZ.out] at HR2 hown2 HL2
      obtain ⟨x, HX⟩ : ∃ x, Hid (nth ss i = x) := ⟨_, rfl⟩
      obtain ⟨y, HY⟩ : ∃ y, Hid (nth ss j = y) := ⟨_, rfl⟩
      rw [HX.out] at hci hown2 hb2
      rw [HY.out] at hcj hown2 hb2
      have hne1 : ¬ (i = j) := by omega
      have hne2 : ¬ (j = i) := by omega
      have hij3 : (i : Int) < (j : Int) := by omega
      have hi0 : (0 : Int) ≤ (i : Int) := by omega
      have hj0 : (0 : Int) ≤ (j : Int) := by omega
      have hi1 : (i : Int) < (n : Int) := by omega
      have hj2 : (j : Int) < (n : Int) := by omega
      clear hown hj1 hi
      go_wp2
      go_region
      go_wp2
      go_roundw
      case rel => exact ⟨i + 1, zz, by omega, by go_num, by have := HJ.out; go_num, hown2, HL2, HR2.out, hb2.drew⟩
      case measure => simp [intOf]; omega
    · have HE := HR.out.end HL.out HN.out (by omega)
      have hc : ¬ ((i : Int) < (n : Int) - 1 - i) := by omega
      rw [HE] at hown
      go_wp2
      refine bodyPost_end (v := .tuple #[]) (by simp [results, Tryz.results105, go_sem]) rfl ⟨rfl, by rw [← List.map_reverse]; exact hown, hbel⟩
end Go.Proofs.YtknnjibmacmniaaGreatDoor
