/- abacuslaw: num, Calcs: the walk. -/
import Derived.Test.YtknnjibmacmniaaGreatDoorC32
import Derived.Test.YtknnjibmacmniaaGreatDoorC12
namespace Go.Proofs.YtknnjibmacmniaaGreatDoor
open Go.RowKit
set_option linter.unusedVariables false
attribute [local go_sem ↓] Go.wp_at_zero Go.wp_at_succ

set_option maxHeartbeats 400000 in
theorem l_num_any (x : Int) (w : World) : Calls Tryz.prog 11 #[.int .i64 x] w fun e w' => e = .returned (.int .i64 x) ∧ w' = w := by
  go_enter Tryz.func11, Tryz.ntmps11
  go_wp2
  go_ret
  exact ⟨rfl, rfl⟩

/-- a script's step i lies in memory -/
structure StepAt (W : World) (b off i : Nat) (k m : Int) (s t u : List UInt8) : Prop where
  c0 : W.cell? ⟨b, off + i * 5, none⟩ = some (.int .i64 k)
  c1 : W.cell? ⟨b, off + i * 5 + 1, none⟩ = some (.int .i64 m)
  c2 : W.cell? ⟨b, off + i * 5 + 2, none⟩ = some (.string ⟨s.toArray⟩)
  c3 : W.cell? ⟨b, off + i * 5 + 3, none⟩ = some (.string ⟨t.toArray⟩)
  c4 : W.cell? ⟨b, off + i * 5 + 4, none⟩ = some (.string ⟨u.toArray⟩)
  lt : t.length ≤ 140737488351232
  lu : u.length ≤ 140737488351232

set_option maxRecDepth 100000 in
set_option maxHeartbeats 3200000 in
theorem l_calcs_walk (W : World) (b off len cap : Nat) (hl : len ≤ cap) (hm : cap ≤ 140737488351232) (hG : Gl W) (hst : ∀ i, i < len → ∃ k m s t u, StepAt W b off i k m s t u) :
    Calls Tryz.prog 3 #[.slice (some ⟨b, off, none⟩) len cap] W fun e w' => e = .returned (.bool true) ∧ Below W.heap.size W w' := by
  have HML : Hid (len < 1152921504606846976) := (by omega : len < 1152921504606846976)
  clear hm
  have HST : Hid (∀ i, i < len → ∃ k m s t u, StepAt W b off i k m s t u) := hst
  clear hst
  go_enter Tryz.func3, Tryz.ntmps3
  go_wp2
  go_loopw [3] (fun i wr => ∃ (k : Nat), k ≤ len ∧ i = .int .i64 k ∧ Below W.heap.size W wr)
    (fun i _ => len - (intOf i).toNat)
  case atStart => exact ⟨0, by omega, rfl, Below.refl _ _⟩
  case round =>
    obtain ⟨k, hk, rfl, hbel⟩ := hrel
    by_cases hlt : k < len
    · obtain ⟨kd, md, s, t, u, hS⟩ := HST.out k hlt
      have c0 := cell_later hbel hS.c0
      have c1 := cell_later hbel hS.c1
      have c2 := cell_later hbel hS.c2
      have c3 := cell_later hbel hS.c3
      have c4 := cell_later hbel hS.c4
      have hq : decide ((k : Int) < 1152921504606846976) = true := by have := HML.out; exact decide_eq_true (by omega)
      iterate 46 first | go_values | go_skip | go_guarded | go_step | go_upon | go_back
      clear hq
      have HWK : Hid (wrap64 ((k : Int) + 1) = (k : Int) + 1) := by have := HML.out; unfold Hid wrap64; omega
      have hbA : Below wr.heap.size wr (wr.alloc (.cells #[.int .i64 kd, .int .i64 md, .string ⟨s.toArray⟩, .string ⟨t.toArray⟩, .string ⟨u.toArray⟩] 24)) := (Below.refl _ _).alloc (Nat.le_refl _) _
      have hbw := Below.next hbel hbA hbel.size
      have hlt' := hS.lt
      have hlu' := hS.lu
      have HT' : Hid (t.length ≤ 140737488351232) := hlt'
      have HU' : Hid (u.length ≤ 140737488351232) := hlu'
      clear hlt' hlu' hS
      by_cases hk1 : kd = 1
      · subst hk1
        obtain ⟨C, HC⟩ : ∃ C, Hid (calcS s t u = C) := ⟨_, rfl⟩
        go_wp2_with fail
        refine (a_calc_any s t u _ HT'.out HU'.out (hG.later hbw)).mono ?_
        rw [HC.out]
        rintro e w1 ⟨rfl, hb1⟩
        obtain ⟨hc1, hf1⟩ := bcell hb1
        have hbw1 := Below.next hbw hb1 hbw.size
        go_wp2_with fail
        refine (r_calc_any s t u _ HT'.out HU'.out).mono ?_
        rw [HC.out]
        rintro e w2 ⟨rfl, hb2⟩
        have hbw2 := Below.next hbw1 hb2 hbw1.size
        clear hc1 hf1 hb1 hb2 c0 c1 c2 c3 c4 hbA hbw hbw1 hbel
        go_wp2_with (go_at_call 11; refine (l_num_any _ _).mono ?_; rintro e w' ⟨rfl, rfl⟩)
        rw [HWK.out]
        go_roundw
        case rel => exact ⟨k + 1, by omega, by go_num, hbw2⟩
        case measure => simp [intOf]; omega
      · have hk2 : (kd == 1) = false := by simpa using hk1
        go_wp2
        rw [HWK.out]
        go_roundw
        case rel => exact ⟨k + 1, by omega, by go_num, hbw⟩
        case measure => simp [intOf]; omega
    · go_wp2
      go_ret
      exact ⟨rfl, hbel⟩

set_option maxHeartbeats 800000 in
theorem l_calcs_nil (W : World) (ao : Option Addr) (cap : Nat) : Calls Tryz.prog 3 #[.slice ao 0 cap] W fun e w' => e = .returned (.bool true) ∧ Below W.heap.size W w' := by
  go_enter Tryz.func3, Tryz.ntmps3
  go_wp2
  refine wp_loop_rounds 1 ?_
  rw [rounds_succ]
  go_wp2
  go_ret
  exact ⟨rfl, Below.refl _ _⟩
end Go.Proofs.YtknnjibmacmniaaGreatDoor
