/- abacusref: Number. -/
import Derived.Test.YtknnjibmacmniaaGreatDoorC08
import Derived.Test.YtknnjibmacmniaaGreatDoorC07
namespace Go.Proofs.YtknnjibmacmniaaGreatDoor
open Go.RowKit
set_option linter.unusedVariables false

/-- the text ahead of the first stroke, and what is behind it -/
def cutN (s : List UInt8) : List UInt8 := s.takeWhile (fun b => b != 47)
def cutD (s : List UInt8) : List UInt8 := match s.dropWhile (fun b => b != 47) with | [] => [49] | _ :: t => t
theorem takeWhile_all {p : UInt8 → Bool} {s : List UInt8} (h : ∀ x ∈ s, p x = true) : s.takeWhile p = s ∧ s.dropWhile p = [] := by
  induction s with
  | nil => simp
  | cons x xs ih =>
    have hx := h x (by simp)
    obtain ⟨i1, i2⟩ := ih (fun y hy => h y (by simp [hy]))
    constructor
    · rw [List.takeWhile_cons_of_pos hx, i1]
    · rw [List.dropWhile_cons_of_pos hx, i2]
theorem cut_none {s : List UInt8} (h : s.all (fun b => b != 47) = true) : cutN s = s ∧ cutD s = [49] := by
  have h1 : ∀ x ∈ s, (x != 47) = true := List.all_eq_true.1 h
  constructor
  · exact (takeWhile_all h1).1
  · unfold cutD; rw [(takeWhile_all h1).2]
theorem cut_some {s : List UInt8} {k : Nat} (hk : k < s.length) (h : (s.take k).all (fun b => b != 47) = true) (hx : s[k] = 47) : cutN s = s.take k ∧ cutD s = s.drop (k + 1) := by
  have h1 : ∀ x ∈ s.take k, (x != 47) = true := List.all_eq_true.1 h
  have e : s = s.take k ++ 47 :: s.drop (k + 1) := by
    rw [← hx, ← List.drop_eq_getElem_cons hk, List.take_append_drop]
  constructor
  · unfold cutN
    conv => lhs; rw [e]
    rw [List.takeWhile_append_of_pos h1]; simp
  · unfold cutD
    rw [show s.dropWhile (fun b => b != 47) = 47 :: s.drop (k + 1) by
      conv => lhs; rw [e]
      rw [List.dropWhile_append_of_pos h1]; simp]

theorem ext_take (s : List UInt8) (k : Nat) : (⟨s.toArray⟩ : ByteArray).extract 0 k = ⟨(s.take k).toArray⟩ := by
  apply ByteArray.ext; simp
theorem ext_drop (s : List UInt8) (k : Nat) : (⟨s.toArray⟩ : ByteArray).extract k s.length = ⟨(s.drop k).toArray⟩ := by
  apply ByteArray.ext; simp; rw [List.take_of_length_le (by simp)]

def okND (neg : Bool) (n d : List UInt8) : Bool := wrB n && wrB d && !(decide (d = [48])) && !(neg && decide (n = [48]))
theorem wrB_dig {s : List UInt8} (h : wrB s = true) : s.all isDig = true ∧ 0 < s.length ∧ s.length ≤ 60 ∧ (s.head? ≠ some 48 ∨ s.length = 1) := by
  unfold wrB at h
  simp only [Bool.and_eq_true, Bool.or_eq_true, decide_eq_true_eq] at h
  exact ⟨h.1.1.1, h.1.1.2, h.1.2, h.2⟩
theorem sval_lt {s : List UInt8} (h : wrB s = true) : 0 ≤ sval s ∧ sval s < 10 ^ 60 := by
  obtain ⟨h1, h2, h3, h4⟩ := wrB_dig h
  have hd := sdig_dig h1
  have a1 := val_nonneg (show (0 : Int) ≤ 10 by omega) hd
  have a2 := val_lt (show (0 : Int) < 10 by omega) hd
  have a3 := pow_mono (show (0 : Int) < 10 by omega) (show (sdig s).length ≤ 60 by simp [sdig]; omega)
  exact ⟨a1, by unfold sval; omega⟩
theorem sval_pos {s : List UInt8} (h : wrB s = true) (hn : s ≠ [48]) : 0 < sval s := by
  obtain ⟨h1, h2, h3, h4⟩ := wrB_dig h
  have hd := sdig_dig h1
  match s, h2 with
  | b :: t, _ =>
    have hb : b ≠ 48 := by
      intro e
      subst e
      rcases h4 with h4 | h4
      · simp at h4
      · have : t = [] := by simpa using h4
        subst this; exact hn rfl
    have hb2 := List.all_eq_true.1 h1 b (by simp)
    simp [isDig] at hb2
    have hb3 : 48 < b.toNat := by
      rcases Nat.lt_or_ge 48 b.toNat with h | h
      · exact h
      · exact absurd (UInt8.toNat_inj.1 (show b.toNat = (48 : UInt8).toNat by show b.toNat = 48; omega)) hb
    have e : sdig (b :: t) = sdig t ++ [(b.toNat : Int) - 48] := by unfold sdig; rw [List.reverse_cons, List.map_append]; rfl
    unfold sval
    rw [e, val_snoc]
    have hd' : Dig 10 (sdig t) := by
      intro x hx
      exact hd x (by rw [e]; exact List.mem_append_left _ hx)
    have a1 := val_nonneg (show (0 : Int) ≤ 10 by omega) hd'
    have a2 : 0 < (10 : Int) ^ (sdig t).length * ((b.toNat : Int) - 48) := Int.mul_pos (pow_pos (by omega) _) (by omega)
    omega



set_option maxRecDepth 100000 in
set_option maxHeartbeats 6400000 in
theorem r_number_pos (s : List UInt8) (w : World) (hl : s.length ≤ 140737488351232) (h0 : 0 < s.length) (hh : s.head? ≠ some 126) :
    Calls Tryz.prog 12 #[.string ⟨s.toArray⟩] w fun e w' => ∃ v b, e = .returned (.tuple #[v, .bool b]) ∧ b = okND false (cutN s) (cutD s) ∧ (b = true → RepQ w' v (mk false (sval (cutN s)) (sval (cutD s)))) ∧ Shp v ∧ Below w.heap.size w w' := by
  have hf0 := Fz.new w (.bool false) (.slice none 0 0) (.slice none 0 0) 35 (by simp) (by simp) (by simp)
  have hW : ∀ o, Below w.heap.size w (w.alloc o) := fun o => (Below.refl _ _).alloc (Nat.le_refl _) o
  have hn1 : (((({ data := s.toArray } : ByteArray)[0]'(by show 0 < s.length; exact h0)).toNat : Int) == 126) = false := by
    rw [beq_eq_false_iff_ne]
    intro e
    apply hh
    rw [List.head?_eq_getElem?, List.getElem?_eq_getElem h0]
    congr 1
    apply UInt8.toNat_inj.1
    have : (s[0].toNat : Int) = 126 := e
    show s[0].toNat = 126
    omega
  obtain ⟨N, HN⟩ : ∃ N, Hid (cutN s = N) := ⟨_, rfl⟩
  obtain ⟨D, HDD⟩ : ∃ D, Hid (cutD s = D) := ⟨_, rfl⟩
  obtain ⟨x, HX⟩ : ∃ x, Hid (wrB N = x) := ⟨_, rfl⟩
  obtain ⟨y, HY⟩ : ∃ y, Hid (wrB D = y) := ⟨_, rfl⟩
  rw [HN.out, HDD.out]
  clear hh
  go_enter Tryz.func12, Tryz.ntmps12
  go_wp2
  go_loopw [5, 6, 7] (fun sn sd i wr => ∃ k : Nat, k ≤ s.length ∧ sn = .string ⟨s.toArray⟩ ∧ sd = .string ⟨#[49]⟩ ∧ i = .int .i64 k ∧ Hid ((s.take k).all (fun b => b != 47) = true) ∧ wr = w.alloc (.cells #[.bool false, .slice none 0 0, .slice none 0 0] 35)) (fun _ _ i _ => s.length - (intOf i).toNat)
  case atStart => exact ⟨0, by omega, rfl, rfl, rfl, by simp [Hid], rfl⟩
  case round =>
    obtain ⟨k, hk, rfl, rfl, rfl, H, rfl⟩ := hrel
    by_cases hlt : k < s.length
    · obtain ⟨c, hc⟩ : ∃ c : UInt8, c = s[k] := ⟨_, rfl⟩
      have he : ((({ data := s.toArray } : ByteArray)[k]'(by show k < s.length; exact hlt)).toNat : Int) = (c.toNat : Int) := by rw [hc]; rfl
      by_cases h47 : c = 47
      · have hcut := cut_some hlt H.out (by rw [← hc]; exact h47)
        have hb : ((c.toNat : Int) == 47) = true := by simp [h47]
        have HA : Hid (s.take k = N) := by unfold Hid; rw [← hcut.1]; exact HN.out
        have HB : Hid (s.drop (k + 1) = D) := by unfold Hid; rw [← hcut.2]; exact HDD.out
        have hlN : N.length ≤ 140737488351232 := by rw [← HA.out, List.length_take]; omega
        have hlD : D.length ≤ 140737488351232 := by rw [← HB.out, List.length_drop]; omega
        clear h47 hc hcut
        go_wp2_with fail
        rw [ext_take, ext_drop, HA.out, HB.out]
        refine (r_written_any N _ hlN).mono ?_
        rintro e w1 ⟨rfl, rfl⟩
        rw [HX.out]
        go_wp2_with fail
        refine (r_written_any D _ hlD).mono ?_
        rintro e w1 ⟨rfl, rfl⟩
        rw [HY.out]
        cases x
        · have HO : Hid (okND false N D = false) := by simp [Hid, okND, HX.out]
          go_wp2
          refine bodyPost_ret (v := .tuple #[.agg #[.bool false, .slice none 0 0, .slice none 0 0], .bool false]) (by simp [results, Tryz.results12, go_sem]) rfl ⟨_, _, rfl, by rw [HO.out], fun h => by simp at h, ⟨_, _, _, _, _, _, _, rfl⟩, hW _⟩
        · cases y
          · have HO : Hid (okND false N D = false) := by simp [Hid, okND, HY.out]
            go_wp2
            refine bodyPost_ret (v := .tuple #[.agg #[.bool false, .slice none 0 0, .slice none 0 0], .bool false]) (by simp [results, Tryz.results12, go_sem]) rfl ⟨_, _, rfl, by rw [HO.out], fun h => by simp at h, ⟨_, _, _, _, _, _, _, rfl⟩, hW _⟩
          · by_cases hD0 : D = [48]
            · have HO : Hid (okND false N D = false) := by simp [Hid, okND, hD0]
              subst hD0
              go_wp2
              refine bodyPost_ret (v := .tuple #[.agg #[.bool false, .slice none 0 0, .slice none 0 0], .bool false]) (by simp [results, Tryz.results12, go_sem]) rfl ⟨_, _, rfl, by rw [HO.out], fun h => by simp at h, ⟨_, _, _, _, _, _, _, rfl⟩, hW _⟩
            · have hD1 : (D == [48]) = false := by simp [hD0]
              have HO : Hid (okND false N D = true) := by simp [Hid, okND, HX.out, HY.out, hD0]
              have sN := sval_lt HX.out
              have sD := sval_lt HY.out
              have sP := sval_pos HY.out hD0
              have wN := wrB_dig HX.out
              have wD := wrB_dig HY.out
              have hcl := cp_lim
              have hpc := p60_cp
              go_wp2_with fail
              refine (r_nat_any N _ wN.1 (by omega)).mono ?_
              rintro e w1 ⟨vn, rfl, hvn, hb1⟩
              go_wp2_with fail
              refine (r_nat_any D _ wD.1 (by omega)).mono ?_
              rintro e w2 ⟨vd, rfl, hvd, hb2⟩
              go_wp2_with fail
              refine (r_made_any _ _ _ (sval N) (sval D) _ (hvn.below (Nat.le_refl _) hb2) hvd sP (by omega) (by omega)).mono ?_
              rintro e w3 ⟨v3, rfl, hr3, hb3⟩
              obtain ⟨b1, n1, k1, b2, n2, k2, rfl, hr6, hr7⟩ := RepQ.open hr3
              have hz1 := hf0.later (by simp) hb1
              have hs1 : w.heap.size < w1.heap.size := by have := hb1.size; simp at this; omega
              have hz2 := hz1.later hs1 hb2
              have hs2 := Nat.lt_of_lt_of_le hs1 hb2.size
              have hz3 := hz2.later hs2 hb3
              have hbw := Below.next (Below.next (Below.next (hW _) hb1 (by simp)) hb2 (Nat.le_of_lt hs1)) hb3 (Nat.le_of_lt hs2)
              obtain ⟨f0, f1, f2, _, _⟩ := id hz3
              obtain ⟨x0, x1, x2, e0, e1, e2⟩ := hz3.cells
              obtain ⟨q0, q1, q2⟩ := put3_cells hz3 (.bool (mk false (sval N) (sval D)).neg) (.slice b1 n1 k1) (.slice b2 n2 k2)
              have hres := RepQ.put3 hr3 hz3 (.bool (mk false (sval N) (sval D)).neg) (.slice b1 n1 k1) (.slice b2 n2 k2) (by simp) (by simp)
              have hbr := put3_below hbw (Nat.le_refl _) (.bool (mk false (sval N) (sval D)).neg) (.slice b1 n1 k1) (.slice b2 n2 k2)
              unfold put3 at q0 q1 q2 hres hbr
              clear hf0 hz1 hz2 hz3 hvn hvd hb1 hb2 hb3 hbw
              go_wp2
              refine bodyPost_ret (v := .tuple #[.agg #[.bool (mk false (sval N) (sval D)).neg, .slice b1 n1 k1, .slice b2 n2 k2], .bool true]) (by simp [results, Tryz.results12, go_sem, q0, q1, q2]) rfl ⟨_, _, rfl, by rw [HO.out], fun _ => hres, ⟨_, _, _, _, _, _, _, rfl⟩, hbr⟩
      · have hb : ((c.toNat : Int) == 47) = false := beq_eq_false_iff_ne.2 (fun e => h47 (UInt8.toNat_inj.1 (by show c.toNat = 47; omega)))
        have HA : Hid ((s.take (k + 1)).all (fun b => b != 47) = true) := by
          unfold Hid; rw [List.take_succ_eq_append_getElem hlt, List.all_append, H.out, ← hc]; simp [h47]
        clear h47 hc
        go_wp2
        go_roundw
        case rel => exact ⟨k + 1, by omega, rfl, rfl, by go_num, HA, trivial⟩
        case measure => simp [intOf]; omega
    · have hcut := cut_none (s := s) (by have := H.out; rwa [List.take_of_length_le (by omega)] at this)
      have HA : Hid (s = N) := by unfold Hid; rw [← HN.out, hcut.1]
      have HB : Hid ([49] = D) := by unfold Hid; rw [← HDD.out, hcut.2]
      have hlN : N.length ≤ 140737488351232 := by rw [← HA.out]; omega
      have hlD : D.length ≤ 140737488351232 := by rw [← HB.out]; simp
      clear hcut
      have hNs := HA.out
      subst hNs
      go_wp2_with fail
      rw [show (⟨#[49]⟩ : ByteArray) = ⟨D.toArray⟩ by rw [← HB.out]]
      refine (r_written_any s _ hlN).mono ?_
      rintro e w1 ⟨rfl, rfl⟩
      rw [HX.out]
      go_wp2_with fail
      refine (r_written_any D _ hlD).mono ?_
      rintro e w1 ⟨rfl, rfl⟩
      rw [HY.out]
      cases x
      · have HO : Hid (okND false s D = false) := by simp [Hid, okND, HX.out]
        go_wp2
        refine bodyPost_ret (v := .tuple #[.agg #[.bool false, .slice none 0 0, .slice none 0 0], .bool false]) (by simp [results, Tryz.results12, go_sem]) rfl ⟨_, _, rfl, by rw [HO.out], fun h => by simp at h, ⟨_, _, _, _, _, _, _, rfl⟩, hW _⟩
      · cases y
        · have HO : Hid (okND false s D = false) := by simp [Hid, okND, HY.out]
          go_wp2
          refine bodyPost_ret (v := .tuple #[.agg #[.bool false, .slice none 0 0, .slice none 0 0], .bool false]) (by simp [results, Tryz.results12, go_sem]) rfl ⟨_, _, rfl, by rw [HO.out], fun h => by simp at h, ⟨_, _, _, _, _, _, _, rfl⟩, hW _⟩
        · by_cases hD0 : D = [48]
          · have HO : Hid (okND false s D = false) := by simp [Hid, okND, hD0]
            subst hD0
            go_wp2
            refine bodyPost_ret (v := .tuple #[.agg #[.bool false, .slice none 0 0, .slice none 0 0], .bool false]) (by simp [results, Tryz.results12, go_sem]) rfl ⟨_, _, rfl, by rw [HO.out], fun h => by simp at h, ⟨_, _, _, _, _, _, _, rfl⟩, hW _⟩
          · have hD1 : (D == [48]) = false := by simp [hD0]
            have HO : Hid (okND false s D = true) := by simp [Hid, okND, HX.out, HY.out, hD0]
            have sN := sval_lt HX.out
            have sD := sval_lt HY.out
            have sP := sval_pos HY.out hD0
            have wN := wrB_dig HX.out
            have wD := wrB_dig HY.out
            have hcl := cp_lim
            have hpc := p60_cp
            go_wp2_with fail
            refine (r_nat_any s _ wN.1 (by omega)).mono ?_
            rintro e w1 ⟨vn, rfl, hvn, hb1⟩
            go_wp2_with fail
            refine (r_nat_any D _ wD.1 (by omega)).mono ?_
            rintro e w2 ⟨vd, rfl, hvd, hb2⟩
            go_wp2_with fail
            refine (r_made_any _ _ _ (sval s) (sval D) _ (hvn.below (Nat.le_refl _) hb2) hvd sP (by omega) (by omega)).mono ?_
            rintro e w3 ⟨v3, rfl, hr3, hb3⟩
            obtain ⟨b1, n1, k1, b2, n2, k2, rfl, hr6, hr7⟩ := RepQ.open hr3
            have hz1 := hf0.later (by simp) hb1
            have hs1 : w.heap.size < w1.heap.size := by have := hb1.size; simp at this; omega
            have hz2 := hz1.later hs1 hb2
            have hs2 := Nat.lt_of_lt_of_le hs1 hb2.size
            have hz3 := hz2.later hs2 hb3
            have hbw := Below.next (Below.next (Below.next (hW _) hb1 (by simp)) hb2 (Nat.le_of_lt hs1)) hb3 (Nat.le_of_lt hs2)
            obtain ⟨f0, f1, f2, _, _⟩ := id hz3
            obtain ⟨x0, x1, x2, e0, e1, e2⟩ := hz3.cells
            obtain ⟨q0, q1, q2⟩ := put3_cells hz3 (.bool (mk false (sval s) (sval D)).neg) (.slice b1 n1 k1) (.slice b2 n2 k2)
            have hres := RepQ.put3 hr3 hz3 (.bool (mk false (sval s) (sval D)).neg) (.slice b1 n1 k1) (.slice b2 n2 k2) (by simp) (by simp)
            have hbr := put3_below hbw (Nat.le_refl _) (.bool (mk false (sval s) (sval D)).neg) (.slice b1 n1 k1) (.slice b2 n2 k2)
            unfold put3 at q0 q1 q2 hres hbr
            clear hf0 hz1 hz2 hz3 hvn hvd hb1 hb2 hb3 hbw
            go_wp2
            refine bodyPost_ret (v := .tuple #[.agg #[.bool (mk false (sval s) (sval D)).neg, .slice b1 n1 k1, .slice b2 n2 k2], .bool true]) (by simp [results, Tryz.results12, go_sem, q0, q1, q2]) rfl ⟨_, _, rfl, by rw [HO.out], fun _ => hres, ⟨_, _, _, _, _, _, _, rfl⟩, hbr⟩

set_option maxRecDepth 100000 in
set_option maxHeartbeats 6400000 in
theorem r_number_neg (s : List UInt8) (w : World) (hl : s.length + 1 ≤ 140737488351232) :
    Calls Tryz.prog 12 #[.string ⟨(126 :: s).toArray⟩] w fun e w' => ∃ v b, e = .returned (.tuple #[v, .bool b]) ∧ b = okND true (cutN s) (cutD s) ∧ (b = true → RepQ w' v (mk true (sval (cutN s)) (sval (cutD s)))) ∧ Shp v ∧ Below w.heap.size w w' := by
  have hf0 := Fz.new w (.bool false) (.slice none 0 0) (.slice none 0 0) 35 (by simp) (by simp) (by simp)
  have hW : ∀ o, Below w.heap.size w (w.alloc o) := fun o => (Below.refl _ _).alloc (Nat.le_refl _) o
  obtain ⟨N, HN⟩ : ∃ N, Hid (cutN s = N) := ⟨_, rfl⟩
  obtain ⟨D, HDD⟩ : ∃ D, Hid (cutD s = D) := ⟨_, rfl⟩
  obtain ⟨x, HX⟩ : ∃ x, Hid (wrB N = x) := ⟨_, rfl⟩
  obtain ⟨y, HY⟩ : ∃ y, Hid (wrB D = y) := ⟨_, rfl⟩
  rw [HN.out, HDD.out]
  have hn1 : (((({ data := (126 :: s).toArray } : ByteArray)[0]'(by show 0 < (126 :: s).length; simp)).toNat : Int) == 126) = true := rfl
  have hex : (({ data := (126 :: s).toArray } : ByteArray).extract 1 (s.length + 1)) = ⟨s.toArray⟩ := by
    have := ext_drop (126 :: s) 1
    simpa using this
  go_enter Tryz.func12, Tryz.ntmps12
  go_wp2
  go_loopw [5, 6, 7] (fun sn sd i wr => ∃ k : Nat, k ≤ s.length ∧ sn = .string ⟨s.toArray⟩ ∧ sd = .string ⟨#[49]⟩ ∧ i = .int .i64 k ∧ Hid ((s.take k).all (fun b => b != 47) = true) ∧ wr = w.alloc (.cells #[.bool false, .slice none 0 0, .slice none 0 0] 35)) (fun _ _ i _ => s.length - (intOf i).toNat)
  case atStart => exact ⟨0, by omega, rfl, rfl, rfl, by simp [Hid], rfl⟩
  case round =>
    obtain ⟨k, hk, rfl, rfl, rfl, H, rfl⟩ := hrel
    by_cases hlt : k < s.length
    · obtain ⟨c, hc⟩ : ∃ c : UInt8, c = s[k] := ⟨_, rfl⟩
      have he : ((({ data := s.toArray } : ByteArray)[k]'(by show k < s.length; exact hlt)).toNat : Int) = (c.toNat : Int) := by rw [hc]; rfl
      by_cases h47 : c = 47
      · have hcut := cut_some hlt H.out (by rw [← hc]; exact h47)
        have hb : ((c.toNat : Int) == 47) = true := by simp [h47]
        have HA : Hid (s.take k = N) := by unfold Hid; rw [← hcut.1]; exact HN.out
        have HB : Hid (s.drop (k + 1) = D) := by unfold Hid; rw [← hcut.2]; exact HDD.out
        have hlN : N.length ≤ 140737488351232 := by rw [← HA.out, List.length_take]; omega
        have hlD : D.length ≤ 140737488351232 := by rw [← HB.out, List.length_drop]; omega
        clear h47 hc hcut
        go_wp2_with fail
        rw [ext_take, ext_drop, HA.out, HB.out]
        refine (r_written_any N _ hlN).mono ?_
        rintro e w1 ⟨rfl, rfl⟩
        rw [HX.out]
        go_wp2_with fail
        refine (r_written_any D _ hlD).mono ?_
        rintro e w1 ⟨rfl, rfl⟩
        rw [HY.out]
        cases x
        · have HO : Hid (okND true N D = false) := by simp [Hid, okND, HX.out]
          go_wp2
          refine bodyPost_ret (v := .tuple #[.agg #[.bool false, .slice none 0 0, .slice none 0 0], .bool false]) (by simp [results, Tryz.results12, go_sem]) rfl ⟨_, _, rfl, by rw [HO.out], fun h => by simp at h, ⟨_, _, _, _, _, _, _, rfl⟩, hW _⟩
        · cases y
          · have HO : Hid (okND true N D = false) := by simp [Hid, okND, HY.out]
            go_wp2
            refine bodyPost_ret (v := .tuple #[.agg #[.bool false, .slice none 0 0, .slice none 0 0], .bool false]) (by simp [results, Tryz.results12, go_sem]) rfl ⟨_, _, rfl, by rw [HO.out], fun h => by simp at h, ⟨_, _, _, _, _, _, _, rfl⟩, hW _⟩
          · by_cases hD0 : D = [48]
            · have HO : Hid (okND true N D = false) := by simp [Hid, okND, hD0]
              subst hD0
              go_wp2
              refine bodyPost_ret (v := .tuple #[.agg #[.bool false, .slice none 0 0, .slice none 0 0], .bool false]) (by simp [results, Tryz.results12, go_sem]) rfl ⟨_, _, rfl, by rw [HO.out], fun h => by simp at h, ⟨_, _, _, _, _, _, _, rfl⟩, hW _⟩
            · have hD1 : (D == [48]) = false := by simp [hD0]
              by_cases hN0 : N = [48]
              · have HO : Hid (okND true N D = false) := by simp [Hid, okND, hN0]
                subst hN0
                go_wp2
                refine bodyPost_ret (v := .tuple #[.agg #[.bool false, .slice none 0 0, .slice none 0 0], .bool false]) (by simp [results, Tryz.results12, go_sem]) rfl ⟨_, _, rfl, by rw [HO.out], fun h => by simp at h, ⟨_, _, _, _, _, _, _, rfl⟩, hW _⟩
              · have hN1 : (N == [48]) = false := by simp [hN0]
                have HO : Hid (okND true N D = true) := by simp [Hid, okND, HX.out, HY.out, hD0, hN0]
                have sN := sval_lt HX.out
                have sD := sval_lt HY.out
                have sP := sval_pos HY.out hD0
                have wN := wrB_dig HX.out
                have wD := wrB_dig HY.out
                have hcl := cp_lim
                have hpc := p60_cp
                go_wp2_with fail
                refine (r_nat_any N _ wN.1 (by omega)).mono ?_
                rintro e w1 ⟨vn, rfl, hvn, hb1⟩
                go_wp2_with fail
                refine (r_nat_any D _ wD.1 (by omega)).mono ?_
                rintro e w2 ⟨vd, rfl, hvd, hb2⟩
                go_wp2_with fail
                refine (r_made_any _ _ _ (sval N) (sval D) _ (hvn.below (Nat.le_refl _) hb2) hvd sP (by omega) (by omega)).mono ?_
                rintro e w3 ⟨v3, rfl, hr3, hb3⟩
                obtain ⟨b1, n1, k1, b2, n2, k2, rfl, hr6, hr7⟩ := RepQ.open hr3
                have hz1 := hf0.later (by simp) hb1
                have hs1 : w.heap.size < w1.heap.size := by have := hb1.size; simp at this; omega
                have hz2 := hz1.later hs1 hb2
                have hs2 := Nat.lt_of_lt_of_le hs1 hb2.size
                have hz3 := hz2.later hs2 hb3
                have hbw := Below.next (Below.next (Below.next (hW _) hb1 (by simp)) hb2 (Nat.le_of_lt hs1)) hb3 (Nat.le_of_lt hs2)
                obtain ⟨f0, f1, f2, _, _⟩ := id hz3
                obtain ⟨x0, x1, x2, e0, e1, e2⟩ := hz3.cells
                obtain ⟨q0, q1, q2⟩ := put3_cells hz3 (.bool (mk true (sval N) (sval D)).neg) (.slice b1 n1 k1) (.slice b2 n2 k2)
                have hres := RepQ.put3 hr3 hz3 (.bool (mk true (sval N) (sval D)).neg) (.slice b1 n1 k1) (.slice b2 n2 k2) (by simp) (by simp)
                have hbr := put3_below hbw (Nat.le_refl _) (.bool (mk true (sval N) (sval D)).neg) (.slice b1 n1 k1) (.slice b2 n2 k2)
                unfold put3 at q0 q1 q2 hres hbr
                clear hf0 hz1 hz2 hz3 hvn hvd hb1 hb2 hb3 hbw
                go_wp2
                refine bodyPost_ret (v := .tuple #[.agg #[.bool (mk true (sval N) (sval D)).neg, .slice b1 n1 k1, .slice b2 n2 k2], .bool true]) (by simp [results, Tryz.results12, go_sem, q0, q1, q2]) rfl ⟨_, _, rfl, by rw [HO.out], fun _ => hres, ⟨_, _, _, _, _, _, _, rfl⟩, hbr⟩
      · have hb : ((c.toNat : Int) == 47) = false := beq_eq_false_iff_ne.2 (fun e => h47 (UInt8.toNat_inj.1 (by show c.toNat = 47; omega)))
        have HA : Hid ((s.take (k + 1)).all (fun b => b != 47) = true) := by
          unfold Hid; rw [List.take_succ_eq_append_getElem hlt, List.all_append, H.out, ← hc]; simp [h47]
        clear h47 hc
        go_wp2
        go_roundw
        case rel => exact ⟨k + 1, by omega, rfl, rfl, by go_num, HA, trivial⟩
        case measure => simp [intOf]; omega
    · have hcut := cut_none (s := s) (by have := H.out; rwa [List.take_of_length_le (by omega)] at this)
      have HA : Hid (s = N) := by unfold Hid; rw [← HN.out, hcut.1]
      have HB : Hid ([49] = D) := by unfold Hid; rw [← HDD.out, hcut.2]
      have hlN : N.length ≤ 140737488351232 := by rw [← HA.out]; omega
      have hlD : D.length ≤ 140737488351232 := by rw [← HB.out]; simp
      clear hcut
      have hNs := HA.out
      subst hNs
      go_wp2_with fail
      rw [show (⟨#[49]⟩ : ByteArray) = ⟨D.toArray⟩ by rw [← HB.out]]
      refine (r_written_any s _ hlN).mono ?_
      rintro e w1 ⟨rfl, rfl⟩
      rw [HX.out]
      go_wp2_with fail
      refine (r_written_any D _ hlD).mono ?_
      rintro e w1 ⟨rfl, rfl⟩
      rw [HY.out]
      cases x
      · have HO : Hid (okND true s D = false) := by simp [Hid, okND, HX.out]
        go_wp2
        refine bodyPost_ret (v := .tuple #[.agg #[.bool false, .slice none 0 0, .slice none 0 0], .bool false]) (by simp [results, Tryz.results12, go_sem]) rfl ⟨_, _, rfl, by rw [HO.out], fun h => by simp at h, ⟨_, _, _, _, _, _, _, rfl⟩, hW _⟩
      · cases y
        · have HO : Hid (okND true s D = false) := by simp [Hid, okND, HY.out]
          go_wp2
          refine bodyPost_ret (v := .tuple #[.agg #[.bool false, .slice none 0 0, .slice none 0 0], .bool false]) (by simp [results, Tryz.results12, go_sem]) rfl ⟨_, _, rfl, by rw [HO.out], fun h => by simp at h, ⟨_, _, _, _, _, _, _, rfl⟩, hW _⟩
        · by_cases hD0 : D = [48]
          · have HO : Hid (okND true s D = false) := by simp [Hid, okND, hD0]
            subst hD0
            go_wp2
            refine bodyPost_ret (v := .tuple #[.agg #[.bool false, .slice none 0 0, .slice none 0 0], .bool false]) (by simp [results, Tryz.results12, go_sem]) rfl ⟨_, _, rfl, by rw [HO.out], fun h => by simp at h, ⟨_, _, _, _, _, _, _, rfl⟩, hW _⟩
          · have hD1 : (D == [48]) = false := by simp [hD0]
            by_cases hN0 : s = [48]
            · have HO : Hid (okND true s D = false) := by simp [Hid, okND, hN0]
              subst hN0
              go_wp2
              refine bodyPost_ret (v := .tuple #[.agg #[.bool false, .slice none 0 0, .slice none 0 0], .bool false]) (by simp [results, Tryz.results12, go_sem]) rfl ⟨_, _, rfl, by rw [HO.out], fun h => by simp at h, ⟨_, _, _, _, _, _, _, rfl⟩, hW _⟩
            · have hN1 : (s == [48]) = false := by simp [hN0]
              have HO : Hid (okND true s D = true) := by simp [Hid, okND, HX.out, HY.out, hD0, hN0]
              have sN := sval_lt HX.out
              have sD := sval_lt HY.out
              have sP := sval_pos HY.out hD0
              have wN := wrB_dig HX.out
              have wD := wrB_dig HY.out
              have hcl := cp_lim
              have hpc := p60_cp
              go_wp2_with fail
              refine (r_nat_any s _ wN.1 (by omega)).mono ?_
              rintro e w1 ⟨vn, rfl, hvn, hb1⟩
              go_wp2_with fail
              refine (r_nat_any D _ wD.1 (by omega)).mono ?_
              rintro e w2 ⟨vd, rfl, hvd, hb2⟩
              go_wp2_with fail
              refine (r_made_any _ _ _ (sval s) (sval D) _ (hvn.below (Nat.le_refl _) hb2) hvd sP (by omega) (by omega)).mono ?_
              rintro e w3 ⟨v3, rfl, hr3, hb3⟩
              obtain ⟨b1, n1, k1, b2, n2, k2, rfl, hr6, hr7⟩ := RepQ.open hr3
              have hz1 := hf0.later (by simp) hb1
              have hs1 : w.heap.size < w1.heap.size := by have := hb1.size; simp at this; omega
              have hz2 := hz1.later hs1 hb2
              have hs2 := Nat.lt_of_lt_of_le hs1 hb2.size
              have hz3 := hz2.later hs2 hb3
              have hbw := Below.next (Below.next (Below.next (hW _) hb1 (by simp)) hb2 (Nat.le_of_lt hs1)) hb3 (Nat.le_of_lt hs2)
              obtain ⟨f0, f1, f2, _, _⟩ := id hz3
              obtain ⟨x0, x1, x2, e0, e1, e2⟩ := hz3.cells
              obtain ⟨q0, q1, q2⟩ := put3_cells hz3 (.bool (mk true (sval s) (sval D)).neg) (.slice b1 n1 k1) (.slice b2 n2 k2)
              have hres := RepQ.put3 hr3 hz3 (.bool (mk true (sval s) (sval D)).neg) (.slice b1 n1 k1) (.slice b2 n2 k2) (by simp) (by simp)
              have hbr := put3_below hbw (Nat.le_refl _) (.bool (mk true (sval s) (sval D)).neg) (.slice b1 n1 k1) (.slice b2 n2 k2)
              unfold put3 at q0 q1 q2 hres hbr
              clear hf0 hz1 hz2 hz3 hvn hvd hb1 hb2 hb3 hbw
              go_wp2
              refine bodyPost_ret (v := .tuple #[.agg #[.bool (mk true (sval s) (sval D)).neg, .slice b1 n1 k1, .slice b2 n2 k2], .bool true]) (by simp [results, Tryz.results12, go_sem, q0, q1, q2]) rfl ⟨_, _, rfl, by rw [HO.out], fun _ => hres, ⟨_, _, _, _, _, _, _, rfl⟩, hbr⟩

set_option maxRecDepth 100000 in
set_option maxHeartbeats 1600000 in
theorem r_number_nil (w : World) :
    Calls Tryz.prog 12 #[.string ⟨#[]⟩] w fun e w' => ∃ v, e = .returned (.tuple #[v, .bool false]) ∧ Shp v ∧ Below w.heap.size w w' := by
  have hW : ∀ o, Below w.heap.size w (w.alloc o) := fun o => (Below.refl _ _).alloc (Nat.le_refl _) o
  go_enter Tryz.func12, Tryz.ntmps12
  go_wp2
  refine wp_loop_rounds 1 ?_
  rw [rounds_succ]
  go_wp2_with fail
  refine (r_written_any [] _ (by simp)).mono ?_
  rintro e w1 ⟨rfl, rfl⟩
  rw [show wrB [] = false from rfl]
  go_wp2_with fail
  refine (r_written_any [49] _ (by simp)).mono ?_
  rintro e w1 ⟨rfl, rfl⟩
  rw [show wrB [49] = true from rfl]
  go_wp2
  refine bodyPost_ret (v := .tuple #[.agg #[.bool false, .slice none 0 0, .slice none 0 0], .bool false]) (by simp [results, Tryz.results12, go_sem]) rfl ⟨_, rfl, ⟨_, _, _, _, _, _, _, rfl⟩, hW _⟩

/-- what a text is as a number -/
def parseQ (s : List UInt8) : Option Q :=
  let neg := decide (s.head? = some 126)
  let r := if neg then s.tail else s
  if okND neg (cutN r) (cutD r) then some (mk neg (sval (cutN r)) (sval (cutD r))) else none

theorem r_number_any (s : List UInt8) (w : World) (hl : s.length ≤ 140737488351232) :
    Calls Tryz.prog 12 #[.string ⟨s.toArray⟩] w fun e w' => ∃ v b, e = .returned (.tuple #[v, .bool b]) ∧ b = (parseQ s).isSome ∧ (∀ q, parseQ s = some q → RepQ w' v q) ∧ Shp v ∧ Below w.heap.size w w' := by
  match s, hl with
  | [], _ =>
    refine (r_number_nil w).mono ?_
    rintro e w' ⟨v, rfl, hsh, hb⟩
    exact ⟨v, false, rfl, rfl, fun q hq => by simp [parseQ, okND, cutN, wrB] at hq, hsh, hb⟩
  | c :: t, hl =>
    by_cases hc : c = 126
    · subst hc
      refine (r_number_neg t w (by simpa using hl)).mono ?_
      rintro e w' ⟨v, b, rfl, rfl, hr, hsh, hb⟩
      refine ⟨v, _, rfl, ?_, ?_, hsh, hb⟩
      · simp [parseQ]; cases okND true (cutN t) (cutD t) <;> simp
      · intro q hq
        simp [parseQ] at hq
        obtain ⟨h1, rfl⟩ := hq
        exact hr h1
    · have hh : (c :: t).head? ≠ some 126 := by simpa using hc
      refine (r_number_pos (c :: t) w hl (by simp) hh).mono ?_
      rintro e w' ⟨v, b, rfl, rfl, hr, hsh, hb⟩
      refine ⟨v, _, rfl, ?_, ?_, hsh, hb⟩
      · simp [parseQ, hc]; cases okND false (cutN (c :: t)) (cutD (c :: t)) <;> simp
      · intro q hq
        simp [parseQ, hc] at hq
        obtain ⟨h1, rfl⟩ := hq
        exact hr h1
end Go.Proofs.YtknnjibmacmniaaGreatDoor
