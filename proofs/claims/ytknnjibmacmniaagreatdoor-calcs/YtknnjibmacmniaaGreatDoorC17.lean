/- natural: guessWord. -/
import Derived.Test.YtknnjibmacmniaaGreatDoorC15
import Derived.Test.YtknnjibmacmniaaGreatDoorC16
import Derived.ScopeJumps
import Derived.WalkMore
namespace Go.Proofs.YtknnjibmacmniaaGreatDoor
open Go.RowKit
set_option linter.unusedVariables false

/-- at the label of guessWord -/
def AtAgain (g off h m cap cap' : Nat) (hi se top P D : Int) (w : World) (a : Act) (w' : World) : Prop := (∃ nd, w' = w.drewN nd) ∧ ∃ (q l : Int) (u11 u12 u13 u14 u15 u16 u17 u18 u19 u20 u21 u22 u23 u24 u25 u26 u27 u28 u29 u30 u31 u32 u33 u34 u35 u36 u37 u38 u39 u40 u41 u42 u43 u44 u45 u46 u47 u48 u49 u50 u51 u52 u53 u54 u55 u56 u57 u58 u59 u60 u61 u62 u63 u64 u65 u66 u67 u68 u69 : Value), a = { tmps := #[.slice (some ⟨g, off, none⟩) (m + 1) cap, .slice (some ⟨h, 0, none⟩) m cap', undef, undef, .int .u32 0, .int .i64 m, .int .u64 hi, .int .u64 se, .int .u64 top, .int .u64 q, .int .u64 l, u11, u12, u13, u14, u15, u16, u17, u18, u19, u20, u21, u22, u23, u24, u25, u26, u27, u28, u29, u30, u31, u32, u33, u34, u35, u36, u37, u38, u39, u40, u41, u42, u43, u44, u45, u46, u47, u48, u49, u50, u51, u52, u53, u54, u55, u56, u57, u58, u59, u60, u61, u62, u63, u64, u65, u66, u67, u68, u69], defers := [] } ∧ Hid (q * hi + l = top) ∧ 0 ≤ q ∧ q ≤ 4294967297 ∧ 0 ≤ l ∧ l < 4294967296 ∧ Hid (P < (q + 1) * D)

set_option maxRecDepth 100000 in
set_option maxHeartbeats 3200000 in
theorem n_guess_raw (g off h n m1 m cap cap' : Nat) (hi se p0 p1 p2 P D T a b : Int) (w : World) (hn : n ≤ 1000) (hoff : off ≤ 1000) (hm1 : n + 1 = m1) (hm : m1 + 1 = m)
    (c0 : w.cell? ⟨g, off + n, none⟩ = some (.int .u32 p0)) (c1 : w.cell? ⟨g, off + m1, none⟩ = some (.int .u32 p1)) (c2 : w.cell? ⟨g, off + m, none⟩ = some (.int .u32 p2)) (d0 : w.cell? ⟨h, n, none⟩ = some (.int .u32 se)) (d1 : w.cell? ⟨h, m1, none⟩ = some (.int .u32 hi))
    (b1 : 0 ≤ p1 ∧ p1 < 4294967296) (b2 : 0 ≤ p2 ∧ p2 < 4294967296) (HG : Gs P D T a b p0 (p2 * 4294967296 + p1) se hi) :
    Calls Tryz.prog 191 #[.slice (some ⟨g, off, none⟩) (m + 1) cap, .slice (some ⟨h, 0, none⟩) m cap'] w fun e w' => ∃ q : Int, e = .returned (.int .u32 q) ∧ 0 ≤ q ∧ q < 4294967296 ∧ P < (q + 1) * D ∧ q * D < P + D ∧ Below w.heap.size w w' := by
  have b0 := HG.b0
  have bs := HG.bs
  have bh := HG.bh
  have hle := HG.top_le b1.1
  have e1 : (m : Int) - 1 = (m1 : Int) := by omega
  have e2 : (m : Int) - 2 = (n : Int) := by omega
  have hor := or_32 p2 p1 b2.1 b2.2 b1.1 b1.2
  obtain ⟨top, HT⟩ : ∃ t, Hid (p2 * 4294967296 + p1 = t) := ⟨_, rfl⟩
  have ht0 : 0 ≤ top := by have := HT.out; omega
  have ht1 : top < 18446744073709551616 := by have := HT.out; omega
  have ht2 : Hid (top ≤ hi * 4294967296 + 4294967295) := by have := HT.out; unfold Hid; omega
  rw [HT.out] at hor HG
  clear hle
  have HG' : Hid (Gs P D T a b p0 top se hi) := HG
  clear HG
  go_enter Tryz.func191, Tryz.ntmps191
  go_wp2
  obtain ⟨q0, HQ⟩ : ∃ t, Hid (top / hi = t) := ⟨_, rfl⟩
  obtain ⟨l0, HL⟩ : ∃ t, Hid (top % hi = t) := ⟨_, rfl⟩
  have hq0 : top.tdiv hi = q0 := by rw [Int.tdiv_eq_ediv_of_nonneg ht0]; exact HQ.out
  have hl0 : top.tmod hi = l0 := by rw [Int.tmod_eq_emod_of_nonneg ht0]; exact HL.out
  have bq1 : q0 ≤ 4294967297 := by rw [← HQ.out]; exact Gs.first bh.1 ht0 ht2.out
  have bq0 : 0 ≤ q0 := by rw [← HQ.out]; exact Int.ediv_nonneg ht0 (by omega)
  have bl0 : 0 ≤ l0 := by rw [← HL.out]; exact Int.emod_nonneg _ (by omega)
  have bl1 : l0 < 4294967296 := by rw [← HL.out]; have := Int.emod_lt_of_pos top (show 0 < hi by omega); omega
  have H0 : Hid (q0 * hi + l0 = top) := by rw [← HL.out, ← HQ.out]; have := Int.emod_add_mul_ediv top hi; unfold Hid; rw [Int.mul_comm]; omega
  have H1 : Hid (P < (q0 + 1) * D) := by rw [← HQ.out]; exact HG'.out.start ht0
  have hhi0 : hi ≠ 0 := by omega
  have hhi1 : (hi == 0) = false := by simp; omega
  refine wp_scope_jumps 0 (AtAgain g off h m cap cap' hi se top P D w) (fun a' _ => (intOf (a'.tmps.getD 9 undef)).toNat) rfl ?_ ?_
  · go_wp2
    go_quiet (fail)
    go_wp2
    go_quiet (fail)
    go_wp2
    go_quiet (fail)
    go_wp2
    go_step3
    by_cases hB : 4294967296 ≤ q0
    · have HD := HG'.out.dec1 hB
      have hB2 : decide (4294967296 ≤ q0) = true := decide_eq_true hB
      by_cases hL : l0 + hi < 4294967296
      · go_wp2
        go_step3
        refine ⟨rfl, ⟨_, rfl⟩, q0 - 1, l0 + hi, _, _, _, _, _, _, _, _, _, _, _, _, _, _, _, _, _, _, _, _, _, _, _, _, _, _, _, _, _, _, _, _, _, _, _, _, _, _, _, _, _, _, _, _, _, _, _, _, _, _, _, _, _, _, _, _, _, _, _, rfl, by unfold Hid; rw [← H0.out]; grind, by omega, by omega, by omega, by omega, by unfold Hid; rw [show q0 - 1 + 1 = q0 by omega]; exact HD⟩
      · have HE := HG'.out.stop2 (g := q0 - 1) (l := l0 + hi) (by omega) (by rw [← H0.out]; grind) ht2.out (by omega)
        have HE1 := HE.1
        have hL2 : decide (l0 + hi < 4294967296) = false := decide_eq_false hL
        go_wp2
        try simp only [Exit.jump]
        go_ret
        exact ⟨q0 - 1, rfl, by omega, HE1, by rw [show q0 - 1 + 1 = q0 by omega]; exact HD, HE.2, by repeat (first | exact Below.refl _ _ | apply Below.drewN)⟩
    · have hor2 := or_32 l0 p0 bl0 bl1 b0.1 b0.2
      have hm0 : 0 ≤ q0 * se := Int.mul_nonneg bq0 bs.1
      have hm2 : q0 * se ≤ 18446744065119617025 := by
        have hm1 : q0 * se ≤ 4294967295 * 4294967295 := Int.mul_le_mul (by omega) (by omega) bs.1 (by omega)
        omega
      have hB2 : decide (4294967296 ≤ q0) = false := decide_eq_false hB
      by_cases hS : l0 * 4294967296 + p0 < q0 * se
      · have HD := HG'.out.dec2 bq0 H0.out hS
        have hq1 : 1 ≤ q0 := by
          rcases (show q0 = 0 ∨ 1 ≤ q0 by omega) with h0 | h0
          · rw [h0, Int.zero_mul] at hS; omega
          · exact h0
        by_cases hL : l0 + hi < 4294967296
        · go_wp2
          go_step3
          refine ⟨rfl, ⟨_, rfl⟩, q0 - 1, l0 + hi, _, _, _, _, _, _, _, _, _, _, _, _, _, _, _, _, _, _, _, _, _, _, _, _, _, _, _, _, _, _, _, _, _, _, _, _, _, _, _, _, _, _, _, _, _, _, _, _, _, _, _, _, _, _, _, _, _, _, _, rfl, by unfold Hid; rw [← H0.out]; grind, by omega, by omega, by omega, by omega, by unfold Hid; rw [show q0 - 1 + 1 = q0 by omega]; exact HD⟩
        · have HE := HG'.out.stop2 (g := q0 - 1) (l := l0 + hi) (by omega) (by rw [← H0.out]; grind) ht2.out (by omega)
          have HE1 := HE.1
          have hL2 : decide (l0 + hi < 4294967296) = false := decide_eq_false hL
          go_wp2
          try simp only [Exit.jump]
          go_ret
          exact ⟨q0 - 1, rfl, by omega, HE1, by rw [show q0 - 1 + 1 = q0 by omega]; exact HD, HE.2, by repeat (first | exact Below.refl _ _ | apply Below.drewN)⟩
      · have HE := HG'.out.stop1 bq0 (by omega) H0.out (by omega)
        have hS2 : decide (l0 * 4294967296 + p0 < q0 * se) = false := decide_eq_false hS
        go_wp2
        try simp only [Exit.jump]
        go_ret
        exact ⟨q0, rfl, by omega, by omega, H1.out, HE, by repeat (first | exact Below.refl _ _ | apply Below.drewN)⟩
  · clear hq0 hl0 bq1 bq0 bl0 bl1 H0 H1 HQ HL hor c1 c2 d0 d1
    rintro a' w' ⟨⟨nd, rfl⟩, q, l, u11, u12, u13, u14, u15, u16, u17, u18, u19, u20, u21, u22, u23, u24, u25, u26, u27, u28, u29, u30, u31, u32, u33, u34, u35, u36, u37, u38, u39, u40, u41, u42, u43, u44, u45, u46, u47, u48, u49, u50, u51, u52, u53, u54, u55, u56, u57, u58, u59, u60, u61, u62, u63, u64, u65, u66, u67, u68, u69, rfl, H0, bq0, bq1, bl0, bl1, H1⟩
    by_cases hB : 4294967296 ≤ q
    · have HD := HG'.out.dec1 hB
      have hB2 : decide (4294967296 ≤ q) = true := decide_eq_true hB
      by_cases hL : l + hi < 4294967296
      · go_wp2
        go_step3
        refine ⟨rfl, ⟨⟨_, rfl⟩, q - 1, l + hi, _, _, _, _, _, _, _, _, _, _, _, _, _, _, _, _, _, _, _, _, _, _, _, _, _, _, _, _, _, _, _, _, _, _, _, _, _, _, _, _, _, _, _, _, _, _, _, _, _, _, _, _, _, _, _, _, _, _, _, rfl, by unfold Hid; rw [← H0.out]; grind, by omega, by omega, by omega, by omega, by unfold Hid; rw [show q - 1 + 1 = q by omega]; exact HD⟩, by simp [intOf]; omega⟩
      · have HE := HG'.out.stop2 (g := q - 1) (l := l + hi) (by omega) (by rw [← H0.out]; grind) ht2.out (by omega)
        have HE1 := HE.1
        have hL2 : decide (l + hi < 4294967296) = false := decide_eq_false hL
        go_wp2
        try simp only [Exit.jump]
        go_ret
        exact ⟨q - 1, rfl, by omega, HE1, by rw [show q - 1 + 1 = q by omega]; exact HD, HE.2, by repeat (first | exact Below.refl _ _ | apply Below.drewN)⟩
    · have hor2 := or_32 l p0 bl0 bl1 b0.1 b0.2
      have hm0 : 0 ≤ q * se := Int.mul_nonneg bq0 bs.1
      have hm2 : q * se ≤ 18446744065119617025 := by
        have hm1 : q * se ≤ 4294967295 * 4294967295 := Int.mul_le_mul (by omega) (by omega) bs.1 (by omega)
        omega
      have hB2 : decide (4294967296 ≤ q) = false := decide_eq_false hB
      by_cases hS : l * 4294967296 + p0 < q * se
      · have HD := HG'.out.dec2 bq0 H0.out hS
        have hq1 : 1 ≤ q := by
          rcases (show q = 0 ∨ 1 ≤ q by omega) with h0 | h0
          · rw [h0, Int.zero_mul] at hS; omega
          · exact h0
        by_cases hL : l + hi < 4294967296
        · go_wp2
          go_step3
          refine ⟨rfl, ⟨⟨_, rfl⟩, q - 1, l + hi, _, _, _, _, _, _, _, _, _, _, _, _, _, _, _, _, _, _, _, _, _, _, _, _, _, _, _, _, _, _, _, _, _, _, _, _, _, _, _, _, _, _, _, _, _, _, _, _, _, _, _, _, _, _, _, _, _, _, _, rfl, by unfold Hid; rw [← H0.out]; grind, by omega, by omega, by omega, by omega, by unfold Hid; rw [show q - 1 + 1 = q by omega]; exact HD⟩, by simp [intOf]; omega⟩
        · have HE := HG'.out.stop2 (g := q - 1) (l := l + hi) (by omega) (by rw [← H0.out]; grind) ht2.out (by omega)
          have HE1 := HE.1
          have hL2 : decide (l + hi < 4294967296) = false := decide_eq_false hL
          go_wp2
          try simp only [Exit.jump]
          go_ret
          exact ⟨q - 1, rfl, by omega, HE1, by rw [show q - 1 + 1 = q by omega]; exact HD, HE.2, by repeat (first | exact Below.refl _ _ | apply Below.drewN)⟩
      · have HE := HG'.out.stop1 bq0 (by omega) H0.out (by omega)
        have hS2 : decide (l * 4294967296 + p0 < q * se) = false := decide_eq_false hS
        go_wp2
        try simp only [Exit.jump]
        go_ret
        exact ⟨q, rfl, by omega, by omega, H1.out, HE, by repeat (first | exact Below.refl _ _ | apply Below.drewN)⟩
end Go.Proofs.YtknnjibmacmniaaGreatDoor
