/- natural: divideByWords. -/
import Derived.Test.YtknnjibmacmniaaGreatDoorC15
import Derived.Test.YtknnjibmacmniaaGreatDoorC17
import Derived.Test.YtknnjibmacmniaaGreatDoorC16
import Derived.Test.YtknnjibmacmniaaGreatDoorC05
namespace Go.Proofs.YtknnjibmacmniaaGreatDoor
open Go.RowKit
set_option linter.unusedVariables false

theorem Only.blk {k : IntKind} {T g b : Nat} {w w' : World} {zs : List Int} (h : Only g w w') (hb : Blk k T w b zs) (hne : b ≠ g) : Blk k T w' b zs := (h.2.2.2.2 b hne).trans hb
theorem Only.fz {g b : Nat} {w w' : World} (h : Only g w w') (hb : Fz1 b w) (hne : b ≠ g) : Fz1 b w' := by
  obtain ⟨hn, x, T, hc⟩ := hb
  refine ⟨fun o k y e => ?_, x, T, (h.2.2.2.2 b hne).trans hc⟩
  rw [h.cell (p := ⟨b, o, none⟩) hne] at e
  exact hn o k y e
/-- four boxes -/
theorem boxes4 (w : World) (u v : Value) (T T' T'' T3 : Nat) (w0 : World) (hb : Below (w.heap.size + 4) ((((w.alloc (.cells #[u] T)).alloc (.cells #[v] T')).alloc (.cells #[.slice none 0 0] T'')).alloc (.cells #[.slice none 0 0] T3)) w0) :
    w0.cell? ⟨w.heap.size, 0, none⟩ = some u ∧ w0.cell? ⟨w.heap.size + 1, 0, none⟩ = some v ∧ Fz1 (w.heap.size + 1 + 1) w0 ∧ Fz1 (w.heap.size + 1 + 1 + 1) w0 := by
  obtain ⟨h1, h2, h3⟩ := boxes1 w u v T T' T'' _ (Below.refl (w.heap.size + 1 + 1 + 1) _)
  have h4 := Fz1.new (((w.alloc (.cells #[u] T)).alloc (.cells #[v] T')).alloc (.cells #[.slice none 0 0] T'')) (.slice none 0 0) T3 (by simp)
  simp only [World.size_alloc] at h4
  have hb1 : Below (w.heap.size + 3) (((w.alloc (.cells #[u] T)).alloc (.cells #[v] T')).alloc (.cells #[.slice none 0 0] T'')) w0 := ((Below.refl _ _).alloc (by simp) _).trans (hb.mono (by omega))
  refine ⟨?_, ?_, fz1_mid h3 hb1 (by omega), fz1_mid h4 hb (by omega)⟩
  · rw [hb1.cell (p := ⟨w.heap.size, 0, none⟩) (by simp)]; exact h1
  · rw [hb1.cell (p := ⟨w.heap.size + 1, 0, none⟩) (by simp)]; exact h2

set_option maxRecDepth 100000 in
set_option maxHeartbeats 3200000 in
theorem n_divs_raw (ao bo : Option Addr) (c1 c2 n m1 m : Nat) (xs ys : List Int) (w : World) (hl : xs.length ≤ 1000) (hm1 : n + 1 = m1) (hm : m1 + 1 = m) (hly : ys.length = m) (hle : m ≤ xs.length) (hx : Rw .u32 w ao xs) (hy : Rw .u32 w bo ys) (dx : Dig 4294967296 xs) (dy : Dig 4294967296 ys) (ty : Top ys) :
    Calls Tryz.prog 137 #[.agg #[.slice ao xs.length c1], .agg #[.slice bo m c2]] w fun e w' => ∃ v u, e = .returned (.tuple #[v, u]) ∧ RepU w' v (val 4294967296 xs / val 4294967296 ys) ∧ RepU w' u (val 4294967296 xs % val 4294967296 ys) ∧ Below w.heap.size w w' := by
  obtain ⟨i0, hi, hz0, hz1, hz2⟩ := info_parts Tryz.infoU32
  have hW : ∀ o1 o2 o3 o4, Below w.heap.size w ((((w.alloc o1).alloc o2).alloc o3).alloc o4) := fun o1 o2 o3 o4 => ((((Below.refl _ _).alloc (Nat.le_refl _) o1).alloc (by simp) o2).alloc (by simp; omega) o3).alloc (by simp; omega) o4
  have e1 : (m : Int) - 1 = (m1 : Int) := by omega
  have b0 := dy.nth (by omega) m1
  have t0 : 0 < nth ys m1 := by have := ty m1 (by omega); omega
  have hck : ∀ b off, bo = some ⟨b, off, none⟩ → True := fun _ _ _ => trivial
  obtain ⟨b, off, rfl, hc⟩ := hy (by omega)
  have hcm : ∀ o1 o2 o3 o4, ((((w.alloc o1).alloc o2).alloc o3).alloc o4).cell? ⟨b, off + m1, none⟩ = some (.int .u32 (nth ys m1)) := fun o1 o2 o3 o4 => cell_later (hW o1 o2 o3 o4) (hc m1 (by omega))
  clear hc hck
  go_enter Tryz.func137, Tryz.ntmps137
  go_wp2_with fail
  refine (n_empty_any _ _ t0 b0.2).mono ?_
  rintro e w1 ⟨s, rfl, hs, k1, k2, rfl⟩
  go_wp2_with fail
  have hup := n_up_any (some ⟨b, off, none⟩) c2 ys s _ (by omega) hs (hy.below (Nat.le_refl _) (hW (.cells #[.slice ao xs.length c1] 56) (.cells #[.slice (some ⟨b, off, none⟩) m c2] 56) (.cells #[.slice none 0 0] 56) (.cells #[.slice none 0 0] 56))) dy
  rw [hly] at hup
  refine hup.mono ?_
  clear hup
  rintro e w1 ⟨g1, ds, rfl, hg1, hq1, hdl, dd, hdv, hb1⟩
  simp only [World.size_alloc] at hg1
  have hb1' := hb1
  simp only [World.size_alloc, Nat.add_assoc, Nat.reduceAdd] at hb1'
  obtain ⟨hA1, hB1, hR1, hS1⟩ := boxes4 w (.slice ao xs.length c1) (.slice (some ⟨b, off, none⟩) m c2) _ _ _ _ w1 hb1'
  have hbw1 : Below w.heap.size w w1 := (hW _ _ _ _).trans (hb1'.mono (by omega))
  clear hb1 hb1' hcm
  have hND := norm_div dy (by omega) dd hs k1 k2 hdv (by omega)
  have hsz1 := hq1.lt
  go_wp2_with fail
  refine (n_up_any ao c1 xs s _ (by omega) hs (hx.below (Nat.le_refl _) hbw1) dx).mono ?_
  rintro e w2 ⟨g2, rs, rfl, hg2, hq2, hrl, dr, hrv, hb2⟩
  have hq12 := hq1.below hsz1 hb2
  have hR2 := hR1.later (by omega) hb2
  have hS2 := hS1.later (by omega) hb2
  have hbw2 := Below.next hbw1 hb2 hbw1.size
  have hsz2 := hq2.lt
  clear hA1 hB1 hR1 hS1 hq1 hb2
  obtain ⟨K, HK⟩ : ∃ K, Hid (K + m = xs.length + 1) := ⟨xs.length + 1 - m, by unfold Hid; omega⟩
  have eK : ((xs.length : Int) + 1) - (m : Int) = (K : Int) := by have := HK.out; omega
  have hKl : K ≤ 1001 := by have := HK.out; omega
  go_wp2_with (at_make; refine wpList_make_full _ rfl _ _ 54 rfl w2.heap.size 174 i0 (.int .u32 0) 1 Tryz.underlying54 hi hz0 hz1 .i64 .i64 _ _ K rfl rfl (by omega) (by omega) (by rw [hz2]; omega) (by unfold maxLen; omega) (Nat.le_refl _) ?_)
  intro w3 hown3 hgrow3
  have hq3 := Blk.made hown3
  have hb3 : Below w2.heap.size w2 w3 := (Below.refl _ _).grown hgrow3 (Nat.le_refl _) (by simp)
  have hq13 := hq12.below (by omega) hb3
  have hq23 := hq2.below hsz2 hb3
  have hR3 := hR2.later (by omega) hb3
  have hS3 := hS2.later (by omega) hb3
  have hbw3 := Below.next hbw2 hb3 hbw2.size
  clear hown3 hgrow3 hq12 hq2 hR2 hS2
  obtain ⟨dm, HDM⟩ : ∃ dm, Hid (ds.take m = dm) := ⟨_, rfl⟩
  have hND1 : val 4294967296 dm = val 4294967296 ys * 2 ^ s := by rw [← HDM.out, ← hm]; exact hND.1
  have hND2 : 2147483648 ≤ nth dm m1 := by rw [← HDM.out, nth_take _ _ _ (by omega)]; exact hND.2
  have hdml : dm.length = m := by rw [← HDM.out, List.length_take]; omega
  have ddm : Dig 4294967296 dm := by rw [← HDM.out]; exact dd.take m
  have hnm : ∀ j, j < m → nth ds j = nth dm j := fun j hj => by rw [← HDM.out, nth_take _ _ _ hj]
  have hDlt : Hid (val 4294967296 dm < 4294967296 ^ m) := by have := val_lt (show (0 : Int) < 4294967296 by omega) ddm; rwa [hdml] at this
  have hDpos : 0 < val 4294967296 dm := by
    have h1 := val_split 4294967296 dm m1 (by omega)
    have h2 := val_drop 4294967296 dm m1
    have h3 := val_nonneg (show (0 : Int) ≤ 4294967296 by omega) (ddm.take m1)
    have h4 := val_nonneg (show (0 : Int) ≤ 4294967296 by omega) (ddm.drop (m1 + 1))
    have h5 := Int.mul_pos (pow_pos (show (0 : Int) < 4294967296 by omega) m1) (show 0 < val 4294967296 (dm.drop m1) by omega)
    omega
  have hDge : 4294967296 ^ (m - 1) * 2147483648 ≤ val 4294967296 dm := by
    have h1 := val_split 4294967296 dm m1 (by omega)
    have h2 := val_drop 4294967296 dm m1
    have h3 := val_nonneg (show (0 : Int) ≤ 4294967296 by omega) (ddm.take m1)
    have h4 := val_nonneg (show (0 : Int) ≤ 4294967296 by omega) (ddm.drop (m1 + 1))
    have h5 := Int.mul_le_mul_of_nonneg_left (show 2147483648 ≤ val 4294967296 (dm.drop m1) by omega) (Int.le_of_lt (pow_pos (show (0 : Int) < 4294967296 by omega) m1))
    rw [show m - 1 = m1 by omega]
    omega
  have hX0 := val_nonneg (show (0 : Int) ≤ 4294967296 by omega) dx
  have H0 : Hid (val 4294967296 rs < val 4294967296 dm * 4294967296 ^ K) := by
    unfold Hid
    rw [hrv]
    exact rest_first (Y := 0) (val_lt (by omega) dx) hX0 hs hDge (by omega) HK.out
  have HR0 : Hid (val 4294967296 rs = val 4294967296 xs * 2 ^ s) := hrv
  have HND1 : Hid (val 4294967296 dm = val 4294967296 ys * 2 ^ s) := hND1
  have hgg : g1 ≠ g2 := by omega
  have hgq : w2.heap.size ≠ g2 := by omega
  have HRL : Hid (rs.length = K + m) := by have := HK.out; unfold Hid; omega
  clear hND hND1 hDge hX0 hrv hrl dd HDM k1 k2 hdv
  go_wp2
  go_loopw [11] (fun iv wr => ∃ (k : Nat) (rs qs : List Int), k ≤ K ∧ iv = .int .i64 ((k : Int) - 1) ∧ Blk .u32 174 wr g1 ds ∧ Blk .u32 174 wr g2 rs ∧ Hid (rs.length = K + m) ∧ Dig 4294967296 rs ∧ Blk .u32 174 wr w2.heap.size qs ∧ Hid (qs.length = K) ∧ Dig 4294967296 qs ∧
      Hid (val 4294967296 rs < val 4294967296 dm * 4294967296 ^ k) ∧ Hid (val 4294967296 xs * 2 ^ s = val 4294967296 rs + val 4294967296 dm * (4294967296 ^ k * val 4294967296 (qs.drop k))) ∧ Fz1 (w.heap.size + 1 + 1) wr ∧ Fz1 (w.heap.size + 1 + 1 + 1) wr ∧ Below w.heap.size w wr)
    (fun iv _ => (intOf iv + 1).toNat)
  case atStart =>
    refine ⟨K, rs, _, Nat.le_refl _, rfl, hq13, hq23, HRL, dr, hq3, by simp [Hid], Dig.replicate (by omega) _, H0, ?_, hR3, hS3, hbw3⟩
    unfold Hid
    rw [List.drop_of_length_le (by simp), HR0.out]; simp [val]
  case round =>
    clear hq13 hq23 hq3 hR3 hS3 hbw3 H0 HR0 HRL dr hb3 hbw2 hbw1
    obtain ⟨k, rs, qs, hk, rfl, hq1, hq2, HRL, dr, hq3, HQL, dq, H, HE, hR, hS, hbel⟩ := hrel
    rcases k with _ | k
    · have hlq : qs.length ≤ 1001 := by rw [HQL.out]; omega
      have hsl := hq3.sl K K HQL.out (Nat.le_refl _) (by unfold maxLen; omega)
      have hsz2 := hq2.lt
      have hsz3 := hq3.lt
      go_wp2_with fail
      refine (n_trimmed_rep _ _ _ hsl (by omega) dq).mono ?_
      rintro e w5 ⟨a, l, c', rfl, hr, _, hb5⟩
      have hq25 := hq2.below hsz2 hb5
      have hR5 := hR.later (by omega) hb5
      have hS5 := hS.later (by omega) hb5
      have hbw5 := Below.next hbel hb5 hbel.size
      have hrl3 : rs.length = xs.length + 1 := by rw [HRL.out, HK.out]
      have hrl2 : rs.length ≤ 2000 := by omega
      have hrw := hq25.sl rs.length rs.length rfl (Nat.le_refl _) (by unfold maxLen; omega)
      obtain ⟨ao', cap', he, _, _, hrw⟩ := hrw
      cases he
      have hsz5 : w.heap.size + 1 + 1 + 1 < w5.heap.size := by have := hb5.size; omega
      clear hq1 hq2 hq3 hR hS hbel hb5 hsl
      have hdn := n_down_any (some ⟨g2, 0, none⟩) (xs.length + 1) rs s w5 hrl2 hs hrw dr
      rw [hrl3] at hdn
      go_wp2_with fail
      refine hdn.mono ?_
      rintro e w6 ⟨g6, ss, rfl, hg6, hq6, hssl, dss, hsv, hb6⟩
      have hr6 := hr.below (Nat.le_refl _) hb6
      have hR6 := hR5.later (by omega) hb6
      have hS6 := hS5.later (by omega) hb6
      have hbw6 := Below.next hbw5 hb6 hbw5.size
      have hsl6 := hq6.sl (xs.length + 1) (xs.length + 1) hssl (Nat.le_refl _) (by unfold maxLen; omega)
      have hsz6 := hq6.lt
      clear hdn
      go_wp2_with fail
      refine (n_trimmed_rep _ _ _ hsl6 (by omega) dss).mono ?_
      rintro e w7 ⟨a7, l7, c7, rfl, hr7, _, hb7⟩
      have hrq := hr6.below (Nat.le_refl _) hb7
      have hR7 := hR6.later (by omega) hb7
      have hS7 := hS6.later (by omega) hb7
      have hbw7 := Below.next hbw6 hb7 hbw6.size
      have hF := div_final (pow_pos (show (0 : Int) < 2 by omega) s) HND1.out (by have := HE.out; simpa using this) (val_nonneg (by omega) dr) (by have := H.out; simpa using this) hsv (Int.emod_nonneg _ (by have := pow_pos (show (0 : Int) < 2 by omega) s; omega)) (Int.emod_lt_of_pos _ (pow_pos (by omega) s))
      rw [← hF.1] at hrq
      rw [← hF.2] at hr7
      obtain ⟨f0, y0, e0⟩ := hR7.parts
      obtain ⟨f1, y1, e1'⟩ := hS7.parts
      have hS8 := hS7.other ⟨w.heap.size + 1 + 1, 0, none⟩ (.slice a l c') (by simp)
      obtain ⟨f2, y2, e2⟩ := hS8.parts
      have q1 := hS8.cell (.slice a7 l7 c7)
      have q0 : ((w7.setCell ⟨w.heap.size + 1 + 1, 0, none⟩ (.slice a l c')).setCell ⟨w.heap.size + 1 + 1 + 1, 0, none⟩ (.slice a7 l7 c7)).cell? ⟨w.heap.size + 1 + 1, 0, none⟩ = some (.slice a l c') := cell_far (hR7.cell (.slice a l c')) (by simp)
      have hrq2 := (hrq.box ⟨w.heap.size + 1 + 1, 0, none⟩ (.slice a l c') hR7.1).box ⟨w.heap.size + 1 + 1 + 1, 0, none⟩ (.slice a7 l7 c7) hS8.1
      have hr72 := (hr7.box ⟨w.heap.size + 1 + 1, 0, none⟩ (.slice a l c') hR7.1).box ⟨w.heap.size + 1 + 1 + 1, 0, none⟩ (.slice a7 l7 c7) hS8.1
      clear hF hsv HE H hr7 hrq hr6 hr
      go_wp2
      refine bodyPost_ret (v := .tuple #[.agg #[.slice a l c'], .agg #[.slice a7 l7 c7]]) (by simp [results, Tryz.results137, go_sem, q0, q1]) rfl ⟨_, _, rfl, ⟨_, rfl, hrq2⟩, ⟨_, rfl, hr72⟩, (hbw7.setCell (p := ⟨w.heap.size + 1 + 1, 0, none⟩) (by simp; omega) _).setCell (p := ⟨w.heap.size + 1 + 1 + 1, 0, none⟩) (by simp; omega) _⟩
    · rw [show (((k + 1 : Nat) : Int) - 1) = (k : Int) by omega]
      have hKn : Hid (K + m = xs.length + 1) := HK
      have hb1 : (k : Int) + (m : Int) + 1 ≤ (xs.length : Int) + 1 := by have := HK.out; omega
      go_wp2_with fail
      rw [show k + m + 1 - k = m + 1 by omega]
      have hrlen : k + m < rs.length := by rw [HRL.out]; omega
      have hdl2 : m < ds.length := by omega
      have HG := part_gs (i := k) (n := n) dr ddm (by omega) (by omega) (by rw [hm1]; exact hND2) H.out
      rw [show n + 2 = m by omega, hm1] at HG
      refine (n_guess_raw g2 k g1 n m1 m _ _ _ _ _ _ _ _ _ _ _ _ wr (by omega) (by omega) hm1 hm (hq2.cell _ (by omega)) (hq2.cell _ (by omega)) (hq2.cell _ (by omega)) (by rw [hq1.cell n (by omega), hnm n (by omega)]) (by rw [hq1.cell m1 (by omega), hnm m1 (by omega)]) (dr.nth (by omega) _) (dr.nth (by omega) _) HG).mono ?_
      rintro e w4 ⟨q, rfl, hqa, hqb, G1, G2, hb4⟩
      have hsz := hq1.lt
      have hsz2 := hq2.lt
      have hsz3 := hq3.lt
      have hq14 := hq1.below hsz hb4
      have hq24 := hq2.below hsz2 hb4
      have hq34 := hq3.below hsz3 hb4
      have hR4 := hR.later (by omega) hb4
      have hS4 := hS.later (by omega) hb4
      have hbw4 := Below.next hbel hb4 hbel.size
      have HG1 : Hid (val 4294967296 (rs.drop k) < (q + 1) * val 4294967296 dm) := G1
      have HG2 : Hid (q * val 4294967296 dm < val 4294967296 (rs.drop k) + val 4294967296 dm) := G2
      have HP0 := val_nonneg (show (0 : Int) ≤ 4294967296 by omega) (dr.drop k)
      have hcd : ∀ j, j < m → w4.cell? ⟨g1, j, none⟩ = some (.int .u32 (nth dm j)) := fun j hj => by rw [hq14.cell j (by omega), hnm j hj]
      clear G1 G2 HG hq1 hq2 hq3 hR hS hbel hb4
      have hlk : k < qs.length := by rw [HQL.out]; omega
      have hrl2 : rs.length ≤ 2000 := by rw [HRL.out, HK.out]; omega
      have HLT := HRL.out
      go_wp2_with fail
      refine (n_take_any g2 k g1 m _ _ rs dm q w4 hgg hdml (by omega) hq24 hrlen hrl2 hcd dr ddm hqa hqb).mono ?_
      rintro e w5 ⟨t, rs', rfl, ht, hq25, hrl', dr', hu', hv', hon⟩
      have hq15 := hon.blk hq14 hgg
      have hq35 := hon.blk hq34 hgq
      have hR5 := hon.fz hR4 (by omega)
      have hS5 := hon.fz hS4 (by omega)
      have hbw5 : Below w.heap.size w w5 := hbw4.trans (hon.below (by omega))
      have hcd5 : ∀ j, j < m → w5.cell? ⟨g1, j, none⟩ = some (.int .u32 (nth dm j)) := fun j hj => by rw [hon.cell (p := ⟨g1, j, none⟩) hgg]; exact hcd j hj
      have HU : Hid (∀ j, k + m < j → nth rs' j = nth rs j) := hu'
      have HRL' : Hid (rs'.length = rs.length) := hrl'
      clear hcd hq14 hq24 hq34 hR4 hS4 hbw4 hon hu' hrl'
      rcases ht with rfl | rfl
      · have hv2 : val 4294967296 rs' = val 4294967296 rs - q * (4294967296 ^ k * val 4294967296 dm) := by omega
        have HV := left_zero dr dr' (by omega) HG1.out hv2
        have HS := quot_step hlk HE.out hv2
        have hcs := hq35.cell k hlk
        have hcf := hq35.free k
        have hd : decide ((0 : Int) = 1) = false := by decide
        clear hv2 hv' HLT
        rw [hd]
        go_wp2
        go_roundw
        case rel => exact ⟨k, rs', _, by omega, rfl, hq15.other _ _ (by simp; omega), hq25.other _ _ (by simp; omega), by unfold Hid; rw [HRL'.out, HRL.out], dr', hq35.set k q, by unfold Hid; rw [List.length_set]; exact HQL.out, dq.set hqa hqb k, HV, HS, hR5.other _ _ (by simp; omega), hS5.other _ _ (by simp; omega), hbw5.setCell (p := ⟨w2.heap.size, k, none⟩) (by simp; omega) _⟩
        case measure => simp [intOf]
      · have HV1 := left_one dr dr' HRL'.out hrlen hDlt.out H.out HU.out hv'
        have hq1 : 1 ≤ q := by
          rcases (show q = 0 ∨ 1 ≤ q by omega) with h0 | h0
          · have := HV1.1; rw [h0, Int.zero_mul] at this; omega
          · exact h0
        have hd : decide ((1 : Int) = 1) = true := by decide
        have hv3 : Hid (val 4294967296 rs' = val 4294967296 rs - q * (4294967296 ^ k * val 4294967296 dm) + 1 * 4294967296 ^ (k + m + 1)) := hv'
        have HV2 : Hid (val 4294967296 (rs.drop k) < q * val 4294967296 dm) := HV1.1
        have HV3 : Hid (val 4294967296 rs' < 4294967296 ^ (k + m + 1)) := HV1.2
        clear hv' HV1 HLT
        rw [hd]
        go_wp2_with fail
        refine (n_put_any g2 k g1 m _ _ rs' dm w5 hgg hdml (by omega) hq25 (by rw [HRL'.out]; exact hrlen) (by rw [HRL'.out]; exact hrl2) hcd5 dr' ddm).mono ?_
        rintro e w6 ⟨t, rs'', rfl, ht, hq26, hrl'', dr'', hu'', hv'', hon⟩
        have hq16 := hon.blk hq15 hgg
        have hq36 := hon.blk hq35 hgq
        have hR6 := hon.fz hR5 (by omega)
        have hS6 := hon.fz hS5 (by omega)
        have hbw6 : Below w.heap.size w w6 := hbw5.trans (hon.below (by omega))
        have hv2 := left_back dr dr' dr'' HRL'.out (hrl''.trans HRL'.out) hrlen HV3.out HG2.out ht hu'' hv3.out hv''
        have HV := left_zero (q := q - 1) dr dr'' (by omega) (by rw [show q - 1 + 1 = q by omega]; exact HV2.out) hv2
        have HS := quot_step hlk HE.out hv2
        have HRL2 : Hid (rs''.length = K + m) := by unfold Hid; rw [hrl'', HRL'.out, HRL.out]
        have hcs := hq36.cell k hlk
        have hcf := hq36.free k
        clear hcd5 hq15 hq25 hq35 hR5 hS5 hbw5 hon hv2 hv'' hu'' hrl'' ht
        go_wp2
        go_roundw
        case rel => exact ⟨k, rs'', _, by omega, rfl, hq16.other _ _ (by simp; omega), hq26.other _ _ (by simp; omega), HRL2, dr'', hq36.set k (q - 1), by unfold Hid; rw [List.length_set]; exact HQL.out, dq.set (by omega) (by omega) k, HV, HS, hR6.other _ _ (by simp; omega), hS6.other _ _ (by simp; omega), hbw6.setCell (p := ⟨w2.heap.size, k, none⟩) (by simp; omega) _⟩
        case measure => simp [intOf]
end Go.Proofs.YtknnjibmacmniaaGreatDoor

/- natural: Divide. -/
namespace Go.Proofs.YtknnjibmacmniaaGreatDoor
open Go.RowKit
set_option linter.unusedVariables false
attribute [local go_sem ↓] Go.wp_at_zero Go.wp_at_succ

/-- two results, laid into their boxes -/
def put2 (w : World) (B : Nat) (x y : Value) : World := (w.setCell ⟨B, 0, none⟩ x).setCell ⟨B + 1, 0, none⟩ y
theorem put2_facts {w : World} {B : Nat} (hR : Fz1 B w) (hS : Fz1 (B + 1) w) (a : Option Addr) (l c : Nat) (y : Value) : (w.setCell ⟨B, 0, none⟩ (.slice a l c)).frozen? ⟨B + 1, 0, none⟩ = false ∧ (∃ z, (w.setCell ⟨B, 0, none⟩ (.slice a l c)).cell? ⟨B + 1, 0, none⟩ = some z) ∧
    ((w.setCell ⟨B, 0, none⟩ (.slice a l c)).setCell ⟨B + 1, 0, none⟩ y).cell? ⟨B, 0, none⟩ = some (.slice a l c) ∧ ((w.setCell ⟨B, 0, none⟩ (.slice a l c)).setCell ⟨B + 1, 0, none⟩ y).cell? ⟨B + 1, 0, none⟩ = some y := by
  have hS8 := hS.other ⟨B, 0, none⟩ (.slice a l c) (by simp)
  obtain ⟨f2, y2, e2⟩ := hS8.parts
  exact ⟨f2, ⟨y2, e2⟩, cell_far (hR.cell (.slice a l c)) (by simp), hS8.cell y⟩
theorem put2_rep {w : World} {B : Nat} {v : Value} {n : Int} (hR : Fz1 B w) (hS : Fz1 (B + 1) w) (h : Rep .u32 4294967296 w v n) (a : Option Addr) (l c : Nat) (y : Value) :
    Rep .u32 4294967296 ((w.setCell ⟨B, 0, none⟩ (.slice a l c)).setCell ⟨B + 1, 0, none⟩ y) v n :=
  (h.box ⟨B, 0, none⟩ _ hR.1).box ⟨B + 1, 0, none⟩ _ (hS.other ⟨B, 0, none⟩ (.slice a l c) (by simp)).1

/-- the world behind the four boxes of a function of two numbers and two results -/
theorem boxes4' (w : World) (u v : Value) (T : Nat) (w0 : World) (hb : Below ((((w.alloc (.cells #[u] T)).alloc (.cells #[v] T)).alloc (.cells #[.slice none 0 0] T)).alloc (.cells #[.slice none 0 0] T)).heap.size ((((w.alloc (.cells #[u] T)).alloc (.cells #[v] T)).alloc (.cells #[.slice none 0 0] T)).alloc (.cells #[.slice none 0 0] T)) w0) :
    w0.cell? ⟨w.heap.size, 0, none⟩ = some u ∧ w0.cell? ⟨w.heap.size + 1, 0, none⟩ = some v ∧ Fz1 (w.heap.size + 1 + 1) w0 ∧ Fz1 (w.heap.size + 1 + 1 + 1) w0 ∧ Below w.heap.size w w0 ∧ w.heap.size + 4 ≤ w0.heap.size := by
  have hs := hb.size
  simp only [World.size_alloc, Nat.add_assoc, Nat.reduceAdd] at hb hs
  have h := boxes4 w u v T T T T w0 hb
  refine ⟨h.1, h.2.1, h.2.2.1, h.2.2.2, ?_, by omega⟩
  have hW : Below w.heap.size w ((((w.alloc (.cells #[u] T)).alloc (.cells #[v] T)).alloc (.cells #[.slice none 0 0] T)).alloc (.cells #[.slice none 0 0] T)) := ((((Below.refl _ _).alloc (Nat.le_refl _) _).alloc (by simp) _).alloc (by simp; omega) _).alloc (by simp; omega) _
  exact hW.trans (hb.mono (by omega))

set_option maxRecDepth 100000 in
set_option maxHeartbeats 3200000 in
theorem n_div_many (ao bo : Option Addr) (c1 c2 n m1 m : Nat) (xs ys : List Int) (w : World) (bx : val 4294967296 xs < lim) (hm1 : n + 1 = m1) (hm : m1 + 1 = m) (hly : ys.length = m) (hcx : xs.length ≤ c1 ∧ c1 ≤ maxLen) (hcy : ys.length ≤ c2 ∧ c2 ≤ maxLen) (hle : val 4294967296 ys ≤ val 4294967296 xs) (hx : Rw .u32 w ao xs) (hy : Rw .u32 w bo ys) (dx : Dig 4294967296 xs) (dy : Dig 4294967296 ys) (tx : Top xs) (ty : Top ys) :
    Calls Tryz.prog 93 #[.agg #[.slice ao xs.length c1], .agg #[.slice bo m c2]] w fun e w' => ∃ v u, e = .returned (.tuple #[v, u]) ∧ RepU w' v (val 4294967296 xs / val 4294967296 ys) ∧ RepU w' u (val 4294967296 xs % val 4294967296 ys) ∧ Below w.heap.size w w' := by
  have hlx := len_of_u dx tx bx
  have hyx : m ≤ xs.length := by
    rcases Nat.lt_or_ge xs.length m with h | h
    · have := val_lt_of_length (by omega) dx dy ty (by omega); omega
    · exact h
  have hW : ∀ o1 o2 o3 o4, Below w.heap.size w ((((w.alloc o1).alloc o2).alloc o3).alloc o4) := fun o1 o2 o3 o4 => ((((Below.refl _ _).alloc (Nat.le_refl _) o1).alloc (by simp) o2).alloc (by simp; omega) o3).alloc (by simp; omega) o4
  obtain ⟨z, HZ⟩ : ∃ z, Hid (sgn3 (val 4294967296 xs) (val 4294967296 ys) = z) := ⟨_, rfl⟩
  have hz : 0 ≤ z := by rw [← HZ.out]; unfold sgn3; rw [if_neg (by omega)]; split <;> omega
  have hRx : RepU w (.agg #[.slice ao xs.length c1]) (val 4294967296 xs) := ⟨_, rfl, xs, ⟨ao, c1, rfl, hcx.1, hcx.2, hx⟩, dx, tx, rfl⟩
  have hRy : RepU w (.agg #[.slice bo m c2]) (val 4294967296 ys) := ⟨_, rfl, ys, ⟨bo, c2, by rw [hly], hcy.1, hcy.2, hy⟩, dy, ty, rfl⟩
  go_enter Tryz.func93, Tryz.ntmps93
  go_wp2_with fail
  refine (n_compare_any _ _ _ _ _ (hRx.below (Nat.le_refl _) (hW _ _ _ _)) (hRy.below (Nat.le_refl _) (hW _ _ _ _)) bx (by omega)).mono ?_
  rintro e w1 ⟨rfl, hb1⟩
  rw [HZ.out]
  obtain ⟨hA1, hB1, hR1, hS1, hbw1, hsz1⟩ := boxes4' w _ _ _ w1 hb1
  clear hb1
  go_wp2_with fail
  refine (n_divs_raw ao bo c1 c2 n m1 m xs ys w1 (by omega) hm1 hm hly hyx (hx.below (Nat.le_refl _) hbw1) (hy.below (Nat.le_refl _) hbw1) dx dy ty).mono ?_
  rintro e w2 ⟨v, u, rfl, hv, hu, hb2⟩
  obtain ⟨a5, l5, c5, rfl, hv2⟩ := hv.open
  obtain ⟨a6, l6, c6, rfl, hu2⟩ := hu.open
  have hR2 := hR1.later (by omega) hb2
  have hS2 := hS1.later (by omega) hb2
  have hbw2 := Below.next hbw1 hb2 hbw1.size
  obtain ⟨f0, y0, e0⟩ := hR2.parts
  obtain ⟨f2, ⟨y2, e2⟩, q0, q1⟩ := put2_facts hR2 hS2 a5 l5 c5 (.slice a6 l6 c6)
  have hv3 := put2_rep hR2 hS2 hv2 a5 l5 c5 (.slice a6 l6 c6)
  have hu3 := put2_rep hR2 hS2 hu2 a5 l5 c5 (.slice a6 l6 c6)
  clear hv hu hv2 hu2 hRx hRy hx hy
  go_wp2
  refine bodyPost_ret (v := .tuple #[.agg #[.slice a5 l5 c5], .agg #[.slice a6 l6 c6]]) (by simp [results, Tryz.results93, go_sem, q0, q1]) rfl ⟨_, _, rfl, ⟨_, rfl, hv3⟩, ⟨_, rfl, hu3⟩, (hbw2.setCell (p := ⟨w.heap.size + 1 + 1, 0, none⟩) (by simp; omega) _).setCell (p := ⟨w.heap.size + 1 + 1 + 1, 0, none⟩) (by simp; omega) _⟩

set_option maxRecDepth 100000 in
set_option maxHeartbeats 3200000 in
theorem n_div_lt (v u : Value) (x y : Int) (w : World) (hx : RepU w v x) (hy : RepU w u y) (bY : y < lim) (hlt : x < y) :
    Calls Tryz.prog 93 #[v, u] w fun e w' => ∃ v u, e = .returned (.tuple #[v, u]) ∧ RepU w' v 0 ∧ RepU w' u x ∧ Below w.heap.size w w' := by
  obtain ⟨a1, l1, c1, rfl, h1⟩ := hx.open
  obtain ⟨a2, l2, c2, rfl, h2⟩ := hy.open
  have hW : ∀ o1 o2 o3 o4, Below w.heap.size w ((((w.alloc o1).alloc o2).alloc o3).alloc o4) := fun o1 o2 o3 o4 => ((((Below.refl _ _).alloc (Nat.le_refl _) o1).alloc (by simp) o2).alloc (by simp; omega) o3).alloc (by simp; omega) o4
  have HZ := sgn3_lt hlt
  go_enter Tryz.func93, Tryz.ntmps93
  go_wp2_with fail
  refine (n_compare_any _ _ _ _ _ (hx.below (Nat.le_refl _) (hW _ _ _ _)) (hy.below (Nat.le_refl _) (hW _ _ _ _)) (by omega) bY).mono ?_
  rintro e w1 ⟨rfl, hb1⟩
  rw [HZ]
  obtain ⟨hA1, hB1, hR1, hS1, hbw1, hsz1⟩ := boxes4' w _ _ _ w1 hb1
  have h1' := h1.below (Nat.le_refl _) hbw1
  obtain ⟨f0, y0, e0⟩ := hR1.parts
  obtain ⟨f2, ⟨y2, e2⟩, q0, q1⟩ := put2_facts hR1 hS1 none 0 0 (.slice a1 l1 c1)
  have hu3 := put2_rep hR1 hS1 h1' none 0 0 (.slice a1 l1 c1)
  clear hb1 hx hy h1 h2
  go_wp2
  go_region
  go_wp2
  refine bodyPost_ret (v := .tuple #[.agg #[.slice none 0 0], .agg #[.slice a1 l1 c1]]) (by simp [results, Tryz.results93, go_sem, q0, q1]) rfl ⟨_, _, rfl, ⟨_, rfl, Rep.zero _ _ _⟩, ⟨_, rfl, hu3.below (Nat.le_refl _) (Below.refl _ _).drew⟩, ((hbw1.setCell (p := ⟨w.heap.size + 1 + 1, 0, none⟩) (by simp; omega) _).setCell (p := ⟨w.heap.size + 1 + 1 + 1, 0, none⟩) (by simp; omega) _).drew⟩

theorem keepD {B : Nat} {W w' w'' : World} {a0 a1 a2 : Addr} {x0 x1 x2 : Value} (hb : Below w'.heap.size w' w'') (h : w'.cell? a0 = some x0 ∧ w'.cell? a1 = some x1 ∧ w'.cell? a2 = some x2 ∧ Fz1 (B + 1 + 1) w' ∧ Fz1 (B + 1 + 1 + 1) w' ∧ Below B W w' ∧ B + 4 ≤ w'.heap.size) :
    w''.cell? a0 = some x0 ∧ w''.cell? a1 = some x1 ∧ w''.cell? a2 = some x2 ∧ Fz1 (B + 1 + 1) w'' ∧ Fz1 (B + 1 + 1 + 1) w'' ∧ Below B W w'' ∧ B + 4 ≤ w''.heap.size := by
  obtain ⟨h0, h1, h2, h3, h4, h5, h6⟩ := h
  exact ⟨cell_later hb h0, cell_later hb h1, cell_later hb h2, h3.later (by omega) hb, h4.later (by omega) hb, Below.next h5 hb (by omega), Nat.le_trans h6 hb.size⟩
theorem keepDa {B : Nat} {W w' : World} {o : Obj} {a0 a1 a2 : Addr} {x0 x1 x2 : Value} (h : w'.cell? a0 = some x0 ∧ w'.cell? a1 = some x1 ∧ w'.cell? a2 = some x2 ∧ Fz1 (B + 1 + 1) w' ∧ Fz1 (B + 1 + 1 + 1) w' ∧ Below B W w' ∧ B + 4 ≤ w'.heap.size) :
    (w'.alloc o).cell? a0 = some x0 ∧ (w'.alloc o).cell? a1 = some x1 ∧ (w'.alloc o).cell? a2 = some x2 ∧ Fz1 (B + 1 + 1) (w'.alloc o) ∧ Fz1 (B + 1 + 1 + 1) (w'.alloc o) ∧ Below B W (w'.alloc o) ∧ B + 4 ≤ (w'.alloc o).heap.size := keepD ((Below.refl _ _).alloc (Nat.le_refl _) o) h
theorem keepDp {B x b off : Nat} {W w' : World} {v : Value} {x0 x1 x2 : Value} (hx : B + 4 ≤ x) (hb : b < B) (h : w'.cell? ⟨B, 0, none⟩ = some x0 ∧ w'.cell? ⟨B + 1, 0, none⟩ = some x1 ∧ w'.cell? ⟨b, off, none⟩ = some x2 ∧ Fz1 (B + 1 + 1) w' ∧ Fz1 (B + 1 + 1 + 1) w' ∧ Below B W w' ∧ B + 4 ≤ w'.heap.size) :
    (w'.setCell ⟨x, 0, none⟩ v).cell? ⟨B, 0, none⟩ = some x0 ∧ (w'.setCell ⟨x, 0, none⟩ v).cell? ⟨B + 1, 0, none⟩ = some x1 ∧ (w'.setCell ⟨x, 0, none⟩ v).cell? ⟨b, off, none⟩ = some x2 ∧ Fz1 (B + 1 + 1) (w'.setCell ⟨x, 0, none⟩ v) ∧ Fz1 (B + 1 + 1 + 1) (w'.setCell ⟨x, 0, none⟩ v) ∧ Below B W (w'.setCell ⟨x, 0, none⟩ v) ∧ B + 4 ≤ (w'.setCell ⟨x, 0, none⟩ v).heap.size := by
  obtain ⟨h0, h1, h2, h3, h4, h5, h6⟩ := h
  exact ⟨cell_far h0 (by simp; omega), cell_far h1 (by simp; omega), cell_far h2 (by simp; omega), h3.other _ _ (by simp; omega), h4.other _ _ (by simp; omega), h5.setCell (p := ⟨x, 0, none⟩) (by simp; omega) v, by simp [World.setCell]; omega⟩
theorem keepD_bel {B n : Nat} {W w' : World} {p0 p1 p2 p3 p4 : Prop} (h : p0 ∧ p1 ∧ p2 ∧ p3 ∧ p4 ∧ Below B W w' ∧ n ≤ w'.heap.size) : Below B W w' := h.2.2.2.2.2.1

theorem Fz1.set {g : Nat} {w : World} (h : Fz1 g w) (v : Value) (hv : ∀ k x, v ≠ .int k x) : Fz1 g (w.setCell ⟨g, 0, none⟩ v) := by
  obtain ⟨hn, x, T, hc⟩ := h
  exact ⟨hn.setCell _ v hv, v, T, by rw [heap_setCell_same w g 0 _ T v hc]; simp⟩
theorem keepE {B : Nat} {W w' w'' : World} {a0 : Addr} {x0 : Value} (hb : Below w'.heap.size w' w'') (h : w'.cell? a0 = some x0 ∧ Fz1 (B + 1 + 1) w' ∧ Fz1 (B + 1 + 1 + 1) w' ∧ Below B W w' ∧ B + 4 ≤ w'.heap.size) :
    w''.cell? a0 = some x0 ∧ Fz1 (B + 1 + 1) w'' ∧ Fz1 (B + 1 + 1 + 1) w'' ∧ Below B W w'' ∧ B + 4 ≤ w''.heap.size := by
  obtain ⟨h0, h3, h4, h5, h6⟩ := h
  exact ⟨cell_later hb h0, h3.later (by omega) hb, h4.later (by omega) hb, Below.next h5 hb (by omega), Nat.le_trans h6 hb.size⟩
theorem keepE1 {B gx l c : Nat} {a : Option Addr} {W w' : World} {x0 : Value} (hx : B + 4 ≤ gx) (h : w'.cell? ⟨gx, 0, none⟩ = some x0 ∧ Fz1 (B + 1 + 1) w' ∧ Fz1 (B + 1 + 1 + 1) w' ∧ Below B W w' ∧ B + 4 ≤ w'.heap.size) :
    (w'.setCell ⟨B + 1 + 1, 0, none⟩ (.slice a l c)).cell? ⟨gx, 0, none⟩ = some x0 ∧ Fz1 (B + 1 + 1) (w'.setCell ⟨B + 1 + 1, 0, none⟩ (.slice a l c)) ∧ Fz1 (B + 1 + 1 + 1) (w'.setCell ⟨B + 1 + 1, 0, none⟩ (.slice a l c)) ∧ Below B W (w'.setCell ⟨B + 1 + 1, 0, none⟩ (.slice a l c)) ∧ B + 4 ≤ (w'.setCell ⟨B + 1 + 1, 0, none⟩ (.slice a l c)).heap.size := by
  obtain ⟨h0, h3, h4, h5, h6⟩ := h
  exact ⟨cell_far h0 (by simp; omega), h3.set _ (by simp), h4.other _ _ (by simp), h5.setCell (p := ⟨B + 1 + 1, 0, none⟩) (by simp; omega) _, by simp [World.setCell]; omega⟩
theorem keepE2 {B gx l c : Nat} {a : Option Addr} {W w' : World} {x0 : Value} (hx : B + 4 ≤ gx) (h : w'.cell? ⟨gx, 0, none⟩ = some x0 ∧ Fz1 (B + 1 + 1) w' ∧ Fz1 (B + 1 + 1 + 1) w' ∧ Below B W w' ∧ B + 4 ≤ w'.heap.size) :
    (w'.setCell ⟨B + 1 + 1 + 1, 0, none⟩ (.slice a l c)).cell? ⟨gx, 0, none⟩ = some x0 ∧ Fz1 (B + 1 + 1) (w'.setCell ⟨B + 1 + 1 + 1, 0, none⟩ (.slice a l c)) ∧ Fz1 (B + 1 + 1 + 1) (w'.setCell ⟨B + 1 + 1 + 1, 0, none⟩ (.slice a l c)) ∧ Below B W (w'.setCell ⟨B + 1 + 1 + 1, 0, none⟩ (.slice a l c)) ∧ B + 4 ≤ (w'.setCell ⟨B + 1 + 1 + 1, 0, none⟩ (.slice a l c)).heap.size := by
  obtain ⟨h0, h3, h4, h5, h6⟩ := h
  exact ⟨cell_far h0 (by simp; omega), h3.other _ _ (by simp), h4.set _ (by simp), h5.setCell (p := ⟨B + 1 + 1 + 1, 0, none⟩) (by simp; omega) _, by simp [World.setCell]; omega⟩

set_option maxRecDepth 100000 in
set_option maxHeartbeats 3200000 in
theorem n_div_one (v : Value) (bo : Option Addr) (c2 : Nat) (x y : Int) (w : World) (hx : RepU w v x) (hy : RepU w (.agg #[.slice bo 1 c2]) y) (bx : x < lim) (hle : y ≤ x) :
    Calls Tryz.prog 93 #[v, .agg #[.slice bo 1 c2]] w fun e w' => ∃ v u, e = .returned (.tuple #[v, u]) ∧ RepU w' v (x / y) ∧ RepU w' u (x % y) ∧ Below w.heap.size w w' := by
  obtain ⟨a1, l1, c1, rfl, h1⟩ := hx.open
  obtain ⟨s2, he2, h2⟩ := hy
  cases he2
  have hy : RepU w (.agg #[.slice bo 1 c2]) y := ⟨_, rfl, h2⟩
  obtain ⟨b, off, rfl, hc, hy0, hy1⟩ := (h2.one_word).1 rfl
  have hW : ∀ o1 o2 o3 o4, Below w.heap.size w ((((w.alloc o1).alloc o2).alloc o3).alloc o4) := fun o1 o2 o3 o4 => ((((Below.refl _ _).alloc (Nat.le_refl _) o1).alloc (by simp) o2).alloc (by simp; omega) o3).alloc (by simp; omega) o4
  obtain ⟨z, HZ⟩ : ∃ z, Hid (sgn3 x y = z) := ⟨_, rfl⟩
  have hz : 0 ≤ z := by rw [← HZ.out]; unfold sgn3; rw [if_neg (by omega)]; split <;> omega
  go_enter Tryz.func93, Tryz.ntmps93
  go_wp2_with fail
  refine (n_compare_any _ _ _ _ _ (hx.below (Nat.le_refl _) (hW _ _ _ _)) (hy.below (Nat.le_refl _) (hW _ _ _ _)) bx (by omega)).mono ?_
  rintro e w1 ⟨rfl, hb1⟩
  rw [HZ.out]
  obtain ⟨hA1, hB1, hR1, hS1, hbw1, hsz1⟩ := boxes4' w _ _ _ w1 hb1
  have hx1 := hx.below (Nat.le_refl _) hbw1
  have hc1 : w1.cell? ⟨b, off, none⟩ = some (.int .u32 y) := cell_later hbw1 hc
  clear hb1 hy h1 h2
  go_wp2_with fail
  have hbl : b < w.heap.size := lt_of_cell hc
  go_region_held3 (fun w' => w'.cell? ⟨w.heap.size, 0, none⟩ = some (.slice a1 l1 c1) ∧ w'.cell? ⟨w.heap.size + 1, 0, none⟩ = some (.slice (some ⟨b, off, none⟩) 1 c2) ∧ w'.cell? ⟨b, off, none⟩ = some (.int .u32 y) ∧ Fz1 (w.heap.size + 1 + 1) w' ∧ Fz1 (w.heap.size + 1 + 1 + 1) w' ∧ Below w.heap.size w w' ∧ w.heap.size + 4 ≤ w'.heap.size)
    (first | exact ⟨hA1, hB1, hc1, hR1, hS1, hbw1.drew, hsz1⟩ | exact keepD (by assumption) (by assumption) | exact keepDa (by assumption) | exact keepDp (by first | omega | (have := hb2.size; have : w1.heap.size ≤ w2.heap.size := this; omega)) hbl (by assumption))
    ((first | (go_at_call 135; refine (n_divw_any _ x y _ (hx.below (Nat.le_refl _) (keepD_bel (by assumption))) bx hy0 hy1).mono ?_; rintro e w2 ⟨v2, rfl, hv2, hb2⟩; obtain ⟨a5, l5, c5, rfl, hv3⟩ := hv2.open; have hSw2 := keepD hb2 (by assumption); (first | (have hzx : Fz1 w1.heap.size w2 := (Fz1.new w1 (.slice none 0 0) 56 (by simp)).later (by simp) (Below.undrew hb2); obtain ⟨fx, yx, ex⟩ := hzx.parts) | skip))))
  · rename_i hH
    have hBx : (w2.alloc (.cells #[.slice a5 l5 c5] 56)).cell? ⟨w2.heap.size, 0, none⟩ = some (.slice a5 l5 c5) := by rw [cell_of_row _ _ _ _ _ _ (heap_alloc_new w2 _)]; rfl
    have hSx := keepDa (o := .cells #[.slice a5 l5 c5] 56) hSw2
    have hvx := hv3.below (Nat.le_refl _) ((Below.refl _ _).alloc (Nat.le_refl _) (.cells #[.slice a5 l5 c5] 56))
    have hgx : w.heap.size + 4 ≤ w2.heap.size := hSw2.2.2.2.2.2.2
    obtain ⟨_, _, _, hRx, hSx2, hbx, hsx⟩ := hSx
    obtain ⟨r, HR⟩ : ∃ r, Hid (x % y = r) := ⟨_, rfl⟩
    have hr0 : 0 ≤ r := by rw [← HR.out]; exact Int.emod_nonneg _ (by omega)
    have hr1 : r < 4294967296 := by rw [← HR.out]; have := Int.emod_lt_of_pos x hy0; omega
    rw [HR.out]
    clear hH hSw2 hv3 hv2 hx1 hR1 hS1 hA1 hB1 hc1
    go_wp2_with fail
    go_region_held3 (fun w' => w'.cell? ⟨w2.heap.size, 0, none⟩ = some (.slice a5 l5 c5) ∧ Fz1 (w.heap.size + 1 + 1) w' ∧ Fz1 (w.heap.size + 1 + 1 + 1) w' ∧ Below w.heap.size w w' ∧ w.heap.size + 4 ≤ w'.heap.size)
      (first | exact ⟨hBx, hRx, hSx2, hbx.drew, hsx⟩ | exact keepE (by assumption) (by assumption) | exact keepE1 hgx (by assumption) | exact keepE2 hgx (by assumption))
      ((first | (go_at_call 136; refine (n_small_any r _ hr0 hr1).mono ?_; rintro e w5 ⟨v5, rfl, hv5, hb5⟩; obtain ⟨a6, l6, c6, rfl, hu5⟩ := hv5.open; have hSw5 := keepE hb5 (by assumption); have hR5 := hSw5.2.1; have hS5 := hSw5.2.2.1; have hvq := hvx.below (Nat.le_refl _) (Below.undrew hb5); obtain ⟨f0, y0, e0⟩ := hR5.parts; obtain ⟨f2, ⟨y2, e2⟩, q0, q1⟩ := put2_facts hR5 hS5 a5 l5 c5 (.slice a6 l6 c6); have hv6 := put2_rep hR5 hS5 hvq a5 l5 c5 (.slice a6 l6 c6); have hu6 := put2_rep hR5 hS5 hu5 a5 l5 c5 (.slice a6 l6 c6))))
    all_goals
      rename_i hH
      obtain ⟨_, _, _, hbE, _⟩ := hSw5
      clear hH
      go_wp2
      refine bodyPost_ret (v := .tuple #[.agg #[.slice a5 l5 c5], .agg #[.slice a6 l6 c6]]) (by simp [results, Tryz.results93, go_sem, q0, q1]) rfl ⟨_, _, rfl, ⟨_, rfl, hv6⟩, ⟨_, rfl, by rw [HR.out]; exact hu6⟩, (hbE.setCell (p := ⟨w.heap.size + 1 + 1, 0, none⟩) (by simp; omega) _).setCell (p := ⟨w.heap.size + 1 + 1 + 1, 0, none⟩) (by simp; omega) _⟩
  · rename_i hH
    have hBx := hzx.cell (.slice a5 l5 c5)
    have hSx := keepDp (x := w1.heap.size) (v := .slice a5 l5 c5) hsz1 hbl hSw2
    have hvx := hv3.box ⟨w1.heap.size, 0, none⟩ (.slice a5 l5 c5) hzx.1
    have hgx : w.heap.size + 4 ≤ w1.heap.size := hsz1
    obtain ⟨_, _, _, hRx, hSx2, hbx, hsx⟩ := hSx
    obtain ⟨r, HR⟩ : ∃ r, Hid (x % y = r) := ⟨_, rfl⟩
    have hr0 : 0 ≤ r := by rw [← HR.out]; exact Int.emod_nonneg _ (by omega)
    have hr1 : r < 4294967296 := by rw [← HR.out]; have := Int.emod_lt_of_pos x hy0; omega
    rw [HR.out]
    clear hH hSw2 hv3 hv2 hx1 hR1 hS1 hA1 hB1 hc1
    go_wp2_with fail
    go_region_held3 (fun w' => w'.cell? ⟨w1.heap.size, 0, none⟩ = some (.slice a5 l5 c5) ∧ Fz1 (w.heap.size + 1 + 1) w' ∧ Fz1 (w.heap.size + 1 + 1 + 1) w' ∧ Below w.heap.size w w' ∧ w.heap.size + 4 ≤ w'.heap.size)
      (first | exact ⟨hBx, hRx, hSx2, hbx.drew, hsx⟩ | exact keepE (by assumption) (by assumption) | exact keepE1 hgx (by assumption) | exact keepE2 hgx (by assumption))
      ((first | (go_at_call 136; refine (n_small_any r _ hr0 hr1).mono ?_; rintro e w5 ⟨v5, rfl, hv5, hb5⟩; obtain ⟨a6, l6, c6, rfl, hu5⟩ := hv5.open; have hSw5 := keepE hb5 (by assumption); have hR5 := hSw5.2.1; have hS5 := hSw5.2.2.1; have hvq := hvx.below (Nat.le_refl _) (Below.undrew hb5); obtain ⟨f0, y0, e0⟩ := hR5.parts; obtain ⟨f2, ⟨y2, e2⟩, q0, q1⟩ := put2_facts hR5 hS5 a5 l5 c5 (.slice a6 l6 c6); have hv6 := put2_rep hR5 hS5 hvq a5 l5 c5 (.slice a6 l6 c6); have hu6 := put2_rep hR5 hS5 hu5 a5 l5 c5 (.slice a6 l6 c6))))
    all_goals
      rename_i hH
      obtain ⟨_, _, _, hbE, _⟩ := hSw5
      clear hH
      go_wp2
      refine bodyPost_ret (v := .tuple #[.agg #[.slice a5 l5 c5], .agg #[.slice a6 l6 c6]]) (by simp [results, Tryz.results93, go_sem, q0, q1]) rfl ⟨_, _, rfl, ⟨_, rfl, hv6⟩, ⟨_, rfl, by rw [HR.out]; exact hu6⟩, (hbE.setCell (p := ⟨w.heap.size + 1 + 1, 0, none⟩) (by simp; omega) _).setCell (p := ⟨w.heap.size + 1 + 1 + 1, 0, none⟩) (by simp; omega) _⟩

theorem n_div_any (v u : Value) (x y : Int) (w : World) (hx : RepU w v x) (hy : RepU w u y) (bx : x < lim) (bY : y < lim) (hy0 : 0 < y) :
    Calls Tryz.prog 93 #[v, u] w fun e w' => ∃ v u, e = .returned (.tuple #[v, u]) ∧ RepU w' v (x / y) ∧ RepU w' u (x % y) ∧ Below w.heap.size w w' := by
  have hx0 : 0 ≤ x := by obtain ⟨s, _, h⟩ := hx; exact h.nonneg (by omega)
  rcases Int.lt_or_le x y with h | h
  · rw [Int.ediv_eq_zero_of_lt hx0 h, Int.emod_eq_of_lt hx0 h]
    exact n_div_lt v u x y w hx hy bY h
  · obtain ⟨s, rfl, ys, ⟨bo, c2, rfl, j1, j2, hyr⟩, dy, ty, rfl⟩ := hy
    rcases (show ys.length = 0 ∨ ys.length = 1 ∨ 2 ≤ ys.length by omega) with h1 | h1 | h1
    · rw [List.length_eq_zero_iff.1 h1] at hy0; simp [val] at hy0
    · have hr : RepU w (.agg #[.slice bo 1 c2]) (val 4294967296 ys) := ⟨_, rfl, ys, ⟨bo, c2, by rw [h1], j1, j2, hyr⟩, dy, ty, rfl⟩
      rw [h1]
      exact n_div_one v bo c2 x _ w hx hr bx h
    · obtain ⟨s, rfl, xs, ⟨ao, c1, rfl, k1, k2, hxr⟩, dx, tx, rfl⟩ := hx
      exact n_div_many ao bo c1 c2 (ys.length - 2) (ys.length - 1) ys.length xs ys w bx (by omega) (by omega) rfl ⟨k1, k2⟩ ⟨j1, j2⟩ h hxr hyr dx dy tx ty
end Go.Proofs.YtknnjibmacmniaaGreatDoor
