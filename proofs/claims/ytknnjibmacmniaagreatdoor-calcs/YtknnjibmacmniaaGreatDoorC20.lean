/- natural: Parse. -/
import Derived.Test.YtknnjibmacmniaaGreatDoorC19
import Derived.Test.YtknnjibmacmniaaGreatDoorC08
namespace Go.Proofs.YtknnjibmacmniaaGreatDoor
open Go.RowKit
set_option linter.unusedVariables false

theorem sval_snoc (t : List UInt8) (b : UInt8) : sval (t ++ [b]) = sval t * 10 + ((b.toNat : Int) - 48) := by
  unfold sval sdig
  simp only [List.reverse_append, List.reverse_cons, List.reverse_nil, List.nil_append, List.singleton_append, List.map_cons, val]
  omega
theorem sval_take_bound {s : List UInt8} (k : Nat) (h : (s.take k).all isDig = true) (hl : s.length ≤ 60) : 0 ≤ sval (s.take k) ∧ sval (s.take k) < 10 ^ 60 := by
  have hd := sdig_dig h
  refine ⟨val_nonneg (by omega) hd, ?_⟩
  have h1 := val_lt (by omega) hd
  have h2 : (sdig (s.take k)).length ≤ 60 := by simp [sdig]; omega
  exact Int.lt_of_lt_of_le h1 (pow_mono (by omega) h2)
theorem lim60 : (10 : Int) ^ 60 ≤ lim := pow_mono (m := 60) (n := 900) (by omega) (by omega)
/-- what Parse answers besides -/
def prV (s : List UInt8) : Int := if wrB s then sval s else 0
theorem prV_t {s : List UInt8} (h : wrB s = true) : prV s = sval s := by simp [prV, h]
theorem prV_f {s : List UInt8} (h : wrB s = false) : prV s = 0 := by simp [prV, h]

set_option maxRecDepth 100000 in
set_option maxHeartbeats 3200000 in
theorem n_parse_any (s : List UInt8) (w : World) (hl : s.length ≤ 60) :
    Calls Tryz.prog 91 #[.string ⟨s.toArray⟩] w fun e w' => ∃ v, e = .returned (.tuple #[v, .bool (wrB s)]) ∧ RepU w' v (prV s) ∧ Below w.heap.size w w' := by
  have hW : ∀ o, Below w.heap.size w (w.alloc o) := fun o => (Below.refl _ _).alloc (Nat.le_refl _) o
  have hR := Fz1.new w (.slice none 0 0) 56 (by simp)
  have hNo : ∀ (w' : World), wrB s = false → Fz1 w.heap.size w' → Below w.heap.size w w' → (∃ v, Ending.returned (.tuple #[.agg #[.slice none 0 0], .bool false]) = Ending.returned (.tuple #[v, .bool (wrB s)]) ∧ RepU w' v (prV s) ∧ Below w.heap.size w w') := by
    intro w' h hf hb
    exact ⟨_, by rw [h], ⟨_, rfl, by rw [prV_f h]; exact Rep.zero _ _ _⟩, hb⟩
  rcases Nat.eq_zero_or_pos s.length with h0 | h0
  · have hs : s = [] := List.length_eq_zero_iff.1 h0
    subst hs
    have HB : Hid (wrB [] = false) := by unfold Hid; decide
    obtain ⟨f0, y0, e0⟩ := hR.parts
    have q0 := hR.cell (.slice none 0 0)
    go_enter Tryz.func91, Tryz.ntmps91
    go_wp2
    refine bodyPost_ret (v := .tuple #[.agg #[.slice none 0 0], .bool false]) (by simp [results, Tryz.results91, go_sem]) rfl (hNo _ HB.out hR (hW _))
  · have hsn : ¬ s = [] := by intro e; rw [e] at h0; simp at h0
    have hemp : s.isEmpty = false := by cases s with | nil => exact absurd rfl hsn | cons => rfl
    obtain ⟨x, hx⟩ : ∃ x : UInt8, x = s[0] := ⟨_, rfl⟩
    have he : ((({ data := s.toArray } : ByteArray)[0]'(by show 0 < s.length; exact h0)).toNat : Int) = (x.toNat : Int) := by rw [hx]; rfl
    have hh : s.head? = some x := by rw [hx]; exact List.head?_eq_getElem? (l := s) ▸ List.getElem?_eq_getElem h0
    by_cases hbad : 1 < s.length ∧ x = 48
    · have HB : Hid (wrB s = false) := by
        have : s.length ≠ 1 := by omega
        simp [Hid, wrB, hh, hbad.2, this]
      have hb1 : decide ((1 : Int) < (s.length : Int)) = true := decide_eq_true (by omega)
      have hb2 : ((x.toNat : Int) == 48) = true := by rw [hbad.2]; rfl
      have hb3 : (1 : Int) < (s.length : Int) := by omega
      clear hx hh hbad
      go_enter Tryz.func91, Tryz.ntmps91
      go_wp2
      refine bodyPost_ret (v := .tuple #[.agg #[.slice none 0 0], .bool false]) (by simp [results, Tryz.results91, go_sem]) rfl (hNo _ HB.out hR (hW _))
    · have hgo : Hid (decide (s.head? ≠ some 48) || decide (s.length = 1)) := by
        unfold Hid
        rcases (show s.length = 1 ∨ 1 < s.length by omega) with h | h
        · simp [h]
        · have : x ≠ 48 := fun e => hbad ⟨h, e⟩
          simp [hh, this]
      have hb2 : decide ((1 : Int) < (s.length : Int)) = true → ((x.toNat : Int) == 48) = false := by
        intro h
        have h1 : (1 : Int) < (s.length : Int) := of_decide_eq_true h
        rw [beq_eq_false_iff_ne]
        intro e
        exact hbad ⟨by omega, UInt8.toNat_inj.1 (by show x.toNat = 48; omega)⟩
      clear hx hh hbad
      have hloop : True := trivial
      rcases (show s.length = 1 ∨ 1 < s.length by omega) with h1 | h1
      all_goals first | (have hb1 : decide ((1 : Int) < (s.length : Int)) = false := decide_eq_false (by omega)) | (have hb1 : decide ((1 : Int) < (s.length : Int)) = true := decide_eq_true (by omega); have hb3 : ((x.toNat : Int) == 48) = false := hb2 hb1; have hb4 : (1 : Int) < (s.length : Int) := (by omega))
      all_goals
        clear hb2
        go_enter Tryz.func91, Tryz.ntmps91
        go_wp2
        go_loopw [4, 21] (fun v iv wr => ∃ (k : Nat) (zs : List Int), k ≤ s.length ∧ iv = .int .i64 k ∧ wr.ownsRow (w.heap.size + 1) 174 1 v zs.length (zs.map (Value.int .u32)) ∧ Dig 4294967296 zs ∧ Top zs ∧ Hid (val 4294967296 zs = sval (s.take k)) ∧ Hid ((s.take k).all isDig = true) ∧ Fz1 w.heap.size wr ∧ Below w.heap.size w wr ∧ w.heap.size + 1 ≤ wr.heap.size)
          (fun _ iv _ => s.length - (intOf iv).toNat)
        case atStart => exact ⟨0, [], by omega, rfl, World.ownsRow_nil _ _ _ _, Dig.nil, fun n h => by simp at h, by simp [Hid, val, sval, sdig], by simp [Hid], hR, hW _, by simp⟩
        case round =>
          clear he hb1
          obtain ⟨k, zs, hk, rfl, hown, dz, tz, HV, HA, hRr, hbel, hsz⟩ := hrel
          obtain ⟨⟨ao, cap, rfl⟩, _⟩ := own_shape hown
          by_cases hlt : k < s.length
          · have hall : ∀ b, isDig (s[k]'hlt) = b → (s.take (k + 1)).all isDig = b := by
              intro b hb
              rw [List.take_succ_eq_append_getElem hlt, List.all_append, HA.out]
              simp [hb]
            have hbad : isDig (s[k]'hlt) = false → wrB s = false := by
              intro hb
              have h1 : s.all isDig = false := by
                rw [List.all_eq_false]
                exact ⟨s[k], List.getElem_mem hlt, by simp [hb]⟩
              simp [wrB, h1]
            have hsv : sval (s.take (k + 1)) = sval (s.take k) * 10 + (((s[k]'hlt).toNat : Int) - 48) := by rw [List.take_succ_eq_append_getElem hlt, sval_snoc]
            obtain ⟨x, hx⟩ : ∃ x : UInt8, x = s[k] := ⟨_, rfl⟩
            rw [← hx] at hall hbad hsv
            have he : ((({ data := s.toArray } : ByteArray)[k]'(by show k < s.length; exact hlt)).toNat : Int) = (x.toNat : Int) := by rw [hx]; rfl
            have Hall : Hid (isDig x = true → (s.take (k + 1)).all isDig = true) := hall true
            have Hbad : Hid (isDig x = false → wrB s = false) := hbad
            have Hsv : Hid (sval (s.take (k + 1)) = sval (s.take k) * 10 + ((x.toNat : Int) - 48)) := hsv
            have hbnd := sval_take_bound k HA.out hl
            have hzl : zs.length ≤ 100 := len_of_u dz tz (by rw [HV.out]; exact Int.lt_of_lt_of_le hbnd.2 lim60)
            clear hall hbad hx hsv hbnd
            obtain ⟨f0, y0, e0⟩ := hRr.parts
            have q0 := hRr.cell (.slice none 0 0)
            rcases (show (x.toNat : Int) < 48 ∨ 57 < (x.toNat : Int) ∨ (48 ≤ (x.toNat : Int) ∧ (x.toNat : Int) ≤ 57) by omega) with hc | hc | hc
            · have HB : Hid (wrB s = false) := Hbad.out (by simp [isDig]; omega)
              go_wp2
              refine bodyPost_ret (v := .tuple #[.agg #[.slice none 0 0], .bool false]) (by simp [results, Tryz.results91, go_sem, q0]) rfl (hNo _ HB.out (hRr.set _ (by simp)) (hbel.setCell (p := ⟨w.heap.size, 0, none⟩) (Nat.le_refl _) _))
            · have HB : Hid (wrB s = false) := Hbad.out (by simp [isDig]; omega)
              go_wp2
              refine bodyPost_ret (v := .tuple #[.agg #[.slice none 0 0], .bool false]) (by simp [results, Tryz.results91, go_sem, q0]) rfl (hNo _ HB.out (hRr.set _ (by simp)) (hbel.setCell (p := ⟨w.heap.size, 0, none⟩) (Nat.le_refl _) _))
            · have HB := Hall.out (by simp [isDig]; omega)
              go_wp2_with fail
              have hd : ((x.toNat : Int) - 48) % 256 = (x.toNat : Int) - 48 := by omega
              try rw [he]
              try rw [hd]
              refine (n_ten_any _ zs ((x.toNat : Int) - 48) (w.heap.size + 1) wr hsz hown (by omega) dz tz (by omega) (by omega)).mono ?_
              rintro e w1 ⟨v1, zs1, rfl, hown1, dz1, tz1, hv1, hb1⟩
              have HV1 : Hid (val 4294967296 zs1 = sval (s.take (k + 1))) := by unfold Hid; rw [hv1, HV.out, Hsv.out]
              have hR1 := fz1_mid hRr hb1 (by omega)
              have hbw1 := hbel.trans (hb1.mono (by omega))
              have hsz1 := Nat.le_trans hsz hb1.size
              clear hv1 hown
              go_wp2
              go_roundw
              case rel => exact ⟨k + 1, zs1, by omega, by go_num, hown1, dz1, tz1, HV1, HB, hR1, hbw1, hsz1⟩
              case measure => simp [intOf]; omega
          · have hke : k = s.length := by omega
            have Ha : s.all isDig = true := by have := HA.out; rwa [hke, List.take_length] at this
            have HB : Hid (wrB s = true) := by
              have := hgo.out
              simp only [wrB, Ha, Hid, this, Bool.true_and, Bool.and_true, Bool.and_eq_true, decide_eq_true_eq]
              omega
            have HV2 : Hid (val 4294967296 zs = prV s) := by unfold Hid; rw [prV_t HB.out, HV.out, hke, List.take_length]
            have hrep : Rep .u32 4294967296 wr (.slice ao zs.length cap) (prV s) := ⟨zs, Sl.owned hown, dz, tz, HV2.out⟩
            obtain ⟨f0, y0, e0⟩ := hRr.parts
            have q0 := hRr.cell (.slice ao zs.length cap)
            clear hke Ha hown
            go_wp2
            refine bodyPost_ret (v := .tuple #[.agg #[.slice ao zs.length cap], .bool true]) (by simp [results, Tryz.results91, go_sem, q0]) rfl ⟨_, by rw [HB.out], ⟨_, rfl, hrep.box _ _ hRr.1⟩, hbel.setCell (p := ⟨w.heap.size, 0, none⟩) (Nat.le_refl _) _⟩
end Go.Proofs.YtknnjibmacmniaaGreatDoor
