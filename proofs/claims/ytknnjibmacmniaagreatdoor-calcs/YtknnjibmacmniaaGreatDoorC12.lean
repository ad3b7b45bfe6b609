/- abacusref: Calc. -/
import Derived.Test.YtknnjibmacmniaaGreatDoorC11
namespace Go.Proofs.YtknnjibmacmniaaGreatDoor
open Go.RowKit
set_option linter.unusedVariables false

def sgL : List (List UInt8) := [[43], [45], [42], [37], [124], [94], [60], [62], [61], [109, 105, 110], [109, 97, 120]]
/-- what a sign makes of two numbers: the error, and the number where there is none -/
def dyS (op : List UInt8) (x y : Q) : Int × Q :=
  if op = [43] then (dyE 0 (sumQ x y), sumQ x y)
  else if op = [45] then (dyE 0 (sumQ x (negQ y)), sumQ x (negQ y))
  else if op = [42] then (dyE 0 (mulQ x y), mulQ x y)
  else if op = [37] then (if y.n = 0 then (9, x) else (dyE 0 (mulQ x (invQ y)), mulQ x (invQ y)))
  else if op = [124] then (if x.d = 1 ∧ y.d = 1 then (dyE 0 (restQ x y), restQ x y) else (8, x))
  else if op = [94] then
    (if countQ y < 0 then (8, x) else if y.neg then (if x.n = 0 then (9, x) else (dyE (powErr (invQ x) (countQ y).toNat) (powQ (invQ x) (countQ y).toNat), powQ (invQ x) (countQ y).toNat))
     else (dyE (powErr x (countQ y).toNat) (powQ x (countQ y).toNat), powQ x (countQ y).toNat))
  else if op = [60] then (dyE 0 (truthQ (lessQ x y)), truthQ (lessQ x y))
  else if op = [62] then (dyE 0 (truthQ (lessQ y x)), truthQ (lessQ y x))
  else if op = [61] then (dyE 0 (truthQ (eqQ x y)), truthQ (eqQ x y))
  else if op = [109, 105, 110] then (dyE 0 (if lessQ y x then y else x), if lessQ y x then y else x)
  else (dyE 0 (if lessQ x y then y else x), if lessQ x y then y else x)

theorem r_dyad_any (op : List UInt8) (v u : Value) (a b : Q) (w : World) (ha : RepQ w v a) (hb : RepQ w u b) (sa : a.Sm) (sb : b.Sm) (ho : op ∈ sgL) :
    Calls Tryz.prog 25 #[.string ⟨op.toArray⟩, v, u] w fun e w' => ∃ v' er, e = .returned (.tuple #[v', .int .i64 er]) ∧ er = (dyS op a b).1 ∧ (er = 0 → RepQ w' v' (dyS op a b).2) ∧ Shp v' ∧ Below w.heap.size w w' := by
  simp only [sgL, List.mem_cons, List.not_mem_nil, or_false] at ho
  rcases ho with rfl | rfl | rfl | rfl | rfl | rfl | rfl | rfl | rfl | rfl | rfl
  · exact r_dyad_plus v u a b w ha hb sa sb
  · exact r_dyad_minus v u a b w ha hb sa sb
  · exact r_dyad_times v u a b w ha hb sa sb
  · by_cases hz : b.n = 0
    · have e : dyS [37] a b = (9, a) := by simp [dyS, hz]
      rw [e]; exact r_dyad_over0 v u a b w ha hb sa sb hz
    · have e : dyS [37] a b = (dyE 0 (mulQ a (invQ b)), mulQ a (invQ b)) := by simp [dyS, hz]
      rw [e]; exact r_dyad_over v u a b w ha hb sa sb hz
  · by_cases hw : a.d = 1 ∧ b.d = 1
    · have e : dyS [124] a b = (dyE 0 (restQ a b), restQ a b) := by simp [dyS, hw]
      rw [e]
      by_cases hz : a.n = 0
      · exact r_dyad_rest_zero v u a b w ha hb sa sb hw.1 hw.2 hz
      · exact r_dyad_rest_run v u a b w ha hb sa sb hw.1 hw.2 hz
    · have e : dyS [124] a b = (8, a) := by simp [dyS, hw]
      rw [e]; exact r_dyad_rest_arg v u a b w ha hb sa sb hw
  · by_cases hc : countQ b < 0
    · have hc1 : countQ b = -1 := by
        have h0 := sb.n0
        unfold countQ at hc ⊢
        split
        · rename_i h; rw [if_pos h] at hc; omega
        · rfl
      have e : dyS [94] a b = (8, a) := by simp [dyS, hc]
      rw [e]; exact r_dyad_pow_arg v u a b w ha hb sa sb hc1
    · have hn : countQ b = ((countQ b).toNat : Nat) := by omega
      cases hneg : b.neg
      · have e : dyS [94] a b = (dyE (powErr a (countQ b).toNat) (powQ a (countQ b).toNat), powQ a (countQ b).toNat) := by simp [dyS, hc, hneg]
        rw [e]; exact r_dyad_pow_pos v u a b w ha hb sa sb _ hn hneg
      · by_cases hz : a.n = 0
        · have e : dyS [94] a b = (9, a) := by simp [dyS, hc, hneg, hz]
          rw [e]; exact r_dyad_pow_zero v u a b w ha hb sa sb (by omega) hneg hz
        · have e : dyS [94] a b = (dyE (powErr (invQ a) (countQ b).toNat) (powQ (invQ a) (countQ b).toNat), powQ (invQ a) (countQ b).toNat) := by simp [dyS, hc, hneg, hz]
          rw [e]; exact r_dyad_pow_neg v u a b w ha hb sa sb _ hn hneg hz
  · exact r_dyad_lt v u a b w ha hb sa sb
  · exact r_dyad_gt v u a b w ha hb sa sb
  · exact r_dyad_eq v u a b w ha hb sa sb
  · exact r_dyad_min v u a b w ha hb sa sb
  · exact r_dyad_max v u a b w ha hb sa sb

/-- the answer of Calc: the text, the error -/
def calcS (op a b : List UInt8) : List UInt8 × Int :=
  match parseQ a, parseQ b with
  | some x, some y => if op ∈ sgL then (if (dyS op x y).1 = 0 then (txtQ (dyS op x y).2, 0) else ([], (dyS op x y).1)) else ([], 8)
  | _, _ => ([], 2)

theorem parse_sm {neg : Bool} {r : List UInt8} {q : Q} (h : (if okND neg (cutN r) (cutD r) then some (mk neg (sval (cutN r)) (sval (cutD r))) else none) = some q) : q.Sm := by
  by_cases hok : okND neg (cutN r) (cutD r) = true
  · rw [if_pos hok] at h
    obtain rfl := Option.some.inj h
    simp only [okND, Bool.and_eq_true, Bool.not_eq_true', decide_eq_false_iff_not] at hok
    have h1 := sval_lt hok.1.1.1
    have h2 := sval_lt hok.1.1.2
    have h3 := sval_pos hok.1.1.2 hok.1.2
    have := mk_le (neg := neg) h1.1 h3
    exact ⟨this.1, by omega, this.2.2.1, by omega⟩
  · rw [if_neg hok] at h; cases h
theorem parseQ_sm {s : List UInt8} {q : Q} (h : parseQ s = some q) : q.Sm := parse_sm h
theorem dyE_zero {e : Int} {x : Q} (h : dyE e x = 0) : bigQ x = false := by
  unfold dyE at h
  split at h
  · split at h
    · omega
    · rename_i h'; simpa using h'
  · omega
theorem dyE_pair {e : Int} {x : Q} (h : (dyE e x, x).1 = 0) : bigQ (dyE e x, x).2 = false := dyE_zero h
theorem dyS_small {op : List UInt8} {x y : Q} (h : (dyS op x y).1 = 0) : bigQ (dyS op x y).2 = false := by
  unfold dyS at h ⊢
  by_cases e0 : op = [43]
  · rw [if_pos e0] at h ⊢; exact dyE_pair h
  rw [if_neg e0] at h ⊢
  by_cases e1 : op = [45]
  · rw [if_pos e1] at h ⊢; exact dyE_pair h
  rw [if_neg e1] at h ⊢
  by_cases e2 : op = [42]
  · rw [if_pos e2] at h ⊢; exact dyE_pair h
  rw [if_neg e2] at h ⊢
  by_cases e3 : op = [37]
  · rw [if_pos e3] at h ⊢
    by_cases c1 : y.n = 0
    · rw [if_pos c1] at h; exact absurd (show (9 : Int) = 0 from h) (by decide)
    · rw [if_neg c1] at h ⊢; exact dyE_pair h
  rw [if_neg e3] at h ⊢
  by_cases e4 : op = [124]
  · rw [if_pos e4] at h ⊢
    by_cases c1 : x.d = 1 ∧ y.d = 1
    · rw [if_pos c1] at h ⊢; exact dyE_pair h
    · rw [if_neg c1] at h; exact absurd (show (8 : Int) = 0 from h) (by decide)
  rw [if_neg e4] at h ⊢
  by_cases e5 : op = [94]
  · rw [if_pos e5] at h ⊢
    by_cases c1 : countQ y < 0
    · rw [if_pos c1] at h; exact absurd (show (8 : Int) = 0 from h) (by decide)
    · rw [if_neg c1] at h ⊢
      by_cases c2 : y.neg = true
      · rw [if_pos c2] at h ⊢
        by_cases c3 : x.n = 0
        · rw [if_pos c3] at h; exact absurd (show (9 : Int) = 0 from h) (by decide)
        · rw [if_neg c3] at h ⊢; exact dyE_pair h
      · rw [if_neg c2] at h ⊢; exact dyE_pair h
  rw [if_neg e5] at h ⊢
  by_cases e6 : op = [60]
  · rw [if_pos e6] at h ⊢; exact dyE_pair h
  rw [if_neg e6] at h ⊢
  by_cases e7 : op = [62]
  · rw [if_pos e7] at h ⊢; exact dyE_pair h
  rw [if_neg e7] at h ⊢
  by_cases e8 : op = [61]
  · rw [if_pos e8] at h ⊢; exact dyE_pair h
  rw [if_neg e8] at h ⊢
  by_cases e9 : op = [109, 105, 110]
  · rw [if_pos e9] at h ⊢; exact dyE_pair h
  rw [if_neg e9] at h ⊢
  exact dyE_pair h

/-- the row of the signs -/
theorem sg_cells (w : World) : Hid (∀ k, k < 11 → (w.alloc (.cells ((sgL.map fun s => Value.string ⟨s.toArray⟩)).toArray 9)).cell? ⟨w.heap.size, k, none⟩ = some (.string ⟨(sgL.getD k []).toArray⟩)) := by
  intro k hk
  rw [cell_of_row _ _ _ _ _ _ (heap_alloc_new w _)]
  have hl : k < sgL.length := by simpa [sgL] using hk
  rw [List.getElem?_toArray, List.getElem?_map, List.getElem?_eq_getElem hl, List.getD_eq_getElem?_getD, List.getElem?_eq_getElem hl]
  rfl

set_option maxRecDepth 100000 in
set_option maxHeartbeats 3200000 in
theorem r_calc_none (op a b : List UInt8) (w : World) (ha : a.length ≤ 140737488351232) (hb : b.length ≤ 140737488351232) (hn : parseQ a = none ∨ parseQ b = none) :
    Calls Tryz.prog 10 #[.string ⟨op.toArray⟩, .string ⟨a.toArray⟩, .string ⟨b.toArray⟩] w fun e w' => e = .returned (.tuple #[.string ⟨#[]⟩, .int .i64 2]) ∧ Below w.heap.size w w' := by
  obtain ⟨pa, HPA⟩ : ∃ p, Hid ((parseQ a).isSome = p) := ⟨_, rfl⟩
  obtain ⟨pb, HPB⟩ : ∃ p, Hid ((parseQ b).isSome = p) := ⟨_, rfl⟩
  have hp : pa = false ∨ (pa = true ∧ pb = false) := by
    have e1 := HPA.out
    have e2 := HPB.out
    cases pa
    · exact .inl rfl
    · right
      refine ⟨rfl, ?_⟩
      rcases hn with h | h
      · rw [h] at e1; cases e1
      · rw [← e2, h]; rfl
  clear hn
  rcases hp with rfl | ⟨rfl, rfl⟩
  all_goals
    go_enter Tryz.func10, Tryz.ntmps10
    go_wp2_with fail
    refine (r_number_any a _ ha).mono ?_
    rintro e w1 ⟨v1, b1, rfl, rfl, hr1, hsh1, hb1⟩
    rw [HPA.out]
    obtain ⟨s1, y1, m1, j1, y2, m2, j2, rfl⟩ := hsh1
    go_wp2_with fail
    refine (r_number_any b _ hb).mono ?_
    rintro e w2 ⟨v2, b2, rfl, rfl, hr2, hsh2, hb2⟩
    obtain ⟨s3, y3, m3, j3, y4, m4, j4, rfl⟩ := hsh2
    try rw [HPB.out]
    go_wp2
    go_ret2
    exact ⟨rfl, (Below.next (hb1.alloc hb1.size _) hb2 (by have := hb1.size; simp; omega)).alloc (by have := hb1.size; have := hb2.size; simp at this; omega) _⟩
end Go.Proofs.YtknnjibmacmniaaGreatDoor

/- abacusref: Calc, two numbers. -/
namespace Go.Proofs.YtknnjibmacmniaaGreatDoor
open Go.RowKit
set_option linter.unusedVariables false

def knB (op : List UInt8) (k : Nat) : Bool := (sgL.take k).any (fun s => s == op)
theorem knB_succ (op : List UInt8) (k : Nat) (hk : k < 11) : knB op (k + 1) = (knB op k || (sgL.getD k [] == op)) := by
  have hl : k < sgL.length := by simpa [sgL] using hk
  unfold knB
  rw [List.take_succ_eq_append_getElem hl, List.any_append, List.getD_eq_getElem?_getD, List.getElem?_eq_getElem hl]
  simp
theorem knB_all (op : List UInt8) : knB op 11 = decide (op ∈ sgL) := by
  unfold knB
  rw [show sgL.take 11 = sgL from rfl, Bool.eq_iff_iff]
  simp

set_option maxRecDepth 100000 in
set_option maxHeartbeats 3200000 in
theorem r_calc_some (op a b : List UInt8) (x y : Q) (w : World) (ha : a.length ≤ 140737488351232) (hb : b.length ≤ 140737488351232) (hx : parseQ a = some x) (hy : parseQ b = some y) :
    Calls Tryz.prog 10 #[.string ⟨op.toArray⟩, .string ⟨a.toArray⟩, .string ⟨b.toArray⟩] w fun e w' => e = .returned (.tuple #[.string ⟨(calcS op a b).1.toArray⟩, .int .i64 (calcS op a b).2]) ∧ Below w.heap.size w w' := by
  have sx := parseQ_sm hx
  have sy := parseQ_sm hy
  have HPA : Hid ((parseQ a).isSome = true) := by rw [hx]; exact rfl
  have HPB : Hid ((parseQ b).isSome = true) := by rw [hy]; exact rfl
  have HX : Hid (parseQ a = some x) := hx
  have HY : Hid (parseQ b = some y) := hy
  obtain ⟨txo, HTX⟩ : ∃ t, Hid ((calcS op a b).1 = t) := ⟨_, rfl⟩
  obtain ⟨ero, HER⟩ : ∃ t, Hid ((calcS op a b).2 = t) := ⟨_, rfl⟩
  rw [HTX.out, HER.out]
  clear hx hy
  go_enter Tryz.func10, Tryz.ntmps10
  go_wp2_with fail
  refine (r_number_any a _ ha).mono ?_
  rintro e w1 ⟨v1, b1, rfl, rfl, hr1, hsh1, hb1⟩
  rw [HPA.out]
  have hr1 := hr1 x HX.out
  obtain ⟨a1, l1, c1, a2, l2, c2, rfl, _, _⟩ := RepQ.open hr1
  have hBx := Box.new w1 (.bool x.neg) (.slice a1 l1 c1) (.slice a2 l2 c2) 35
  have hr1' := hr1.below (Nat.le_refl _) ((Below.refl _ _).alloc (Nat.le_refl _) (.cells #[.bool x.neg, .slice a1 l1 c1, .slice a2 l2 c2] 35))
  have hw1 := hb1.alloc hb1.size (.cells #[.bool x.neg, .slice a1 l1 c1, .slice a2 l2 c2] 35)
  clear hr1 hsh1
  go_wp2_with fail
  refine (r_number_any b _ hb).mono ?_
  rintro e w2 ⟨v2, b2, rfl, rfl, hr2, hsh2, hb2⟩
  rw [HPB.out]
  have hr2 := hr2 y HY.out
  obtain ⟨a3, l3, c3, a4, l4, c4, rfl, _, _⟩ := RepQ.open hr2
  have hBx2 := hBx.below (by simp) hb2
  have hrx2 := hr1'.below (Nat.le_refl _) hb2
  have hw2 := Below.next hw1 hb2 (by have := hb1.size; simp; omega)
  have hs2 : w1.heap.size < w2.heap.size := by have := hb2.size; simp at this; omega
  clear hBx hr1' hw1 hb2 hsh2
  have hBW : Below w2.heap.size w2 ((w2.alloc (.cells #[.bool y.neg, .slice a3 l3 c3, .slice a4 l4 c4] 35)).alloc (.cells #[.string ⟨#[43]⟩, .string ⟨#[45]⟩, .string ⟨#[42]⟩, .string ⟨#[37]⟩, .string ⟨#[124]⟩, .string ⟨#[94]⟩, .string ⟨#[60]⟩, .string ⟨#[62]⟩, .string ⟨#[61]⟩, .string ⟨#[109, 105, 110]⟩, .string ⟨#[109, 97, 120]⟩] 9)) := ((Below.refl _ _).alloc (Nat.le_refl _) _).alloc (by simp) _
  have hcl : ∀ k, k < 11 → ((w2.alloc (.cells #[.bool y.neg, .slice a3 l3 c3, .slice a4 l4 c4] 35)).alloc (.cells #[.string ⟨#[43]⟩, .string ⟨#[45]⟩, .string ⟨#[42]⟩, .string ⟨#[37]⟩, .string ⟨#[124]⟩, .string ⟨#[94]⟩, .string ⟨#[60]⟩, .string ⟨#[62]⟩, .string ⟨#[61]⟩, .string ⟨#[109, 105, 110]⟩, .string ⟨#[109, 97, 120]⟩] 9)).cell? ⟨w2.heap.size + 1, k, none⟩ = some (.string ⟨(sgL.getD k []).toArray⟩) := by
    have h := (sg_cells (w2.alloc (.cells #[.bool y.neg, .slice a3 l3 c3, .slice a4 l4 c4] 35))).out
    simp only [World.size_alloc] at h
    exact h
  have hBx3 := hBx2.below hs2 hBW
  have hBy3 : Box ((w2.alloc (.cells #[.bool y.neg, .slice a3 l3 c3, .slice a4 l4 c4] 35)).alloc (.cells #[.string ⟨#[43]⟩, .string ⟨#[45]⟩, .string ⟨#[42]⟩, .string ⟨#[37]⟩, .string ⟨#[124]⟩, .string ⟨#[94]⟩, .string ⟨#[60]⟩, .string ⟨#[62]⟩, .string ⟨#[61]⟩, .string ⟨#[109, 105, 110]⟩, .string ⟨#[109, 97, 120]⟩] 9)) w2.heap.size (.bool y.neg) (.slice a3 l3 c3) (.slice a4 l4 c4) := (Box.new w2 (.bool y.neg) (.slice a3 l3 c3) (.slice a4 l4 c4) 35).alloc (by simp) _
  have hrx3 := hrx2.below (Nat.le_refl _) hBW
  have hry3 := hr2.below (Nat.le_refl _) hBW
  have hw3 := Below.next hw2 hBW hw2.size
  clear hBx2 hrx2 hr2 hw2 hBW
  go_wp2
  generalize ((w2.alloc (.cells #[.bool y.neg, .slice a3 l3 c3, .slice a4 l4 c4] 35)).alloc (.cells #[.string ⟨#[43]⟩, .string ⟨#[45]⟩, .string ⟨#[42]⟩, .string ⟨#[37]⟩, .string ⟨#[124]⟩, .string ⟨#[94]⟩, .string ⟨#[60]⟩, .string ⟨#[62]⟩, .string ⟨#[61]⟩, .string ⟨#[109, 105, 110]⟩, .string ⟨#[109, 97, 120]⟩] 9)) = wA at hcl hBx3 hBy3 hrx3 hry3 hw3 ⊢
  go_loop [12, 14] (fun kv iv => ∃ k : Nat, k ≤ 11 ∧ iv = .int .i64 k ∧ kv = .bool (knB op k)) (fun _ iv => 11 - (intOf iv).toNat)
  case atStart => exact ⟨0, by omega, rfl, rfl⟩
  case round =>
    obtain ⟨k, hk, rfl, rfl⟩ := hrel
    by_cases hlt : k < 11
    · have hck := hcl k hlt
      have HS : Hid (knB op (k + 1) = (knB op k || (sgL.getD k [] == op))) := knB_succ op k hlt
      obtain ⟨s, Hs⟩ : ∃ s, Hid (sgL.getD k [] = s) := ⟨_, rfl⟩
      rw [Hs.out] at hck
      have HS2 := HS.out
      rw [Hs.out] at HS2
      obtain ⟨z, HZ⟩ : ∃ z, Hid (knB op k = z) := ⟨_, rfl⟩
      rw [HZ.out] at HS2 ⊢
      have HS3 : Hid (knB op (k + 1) = (z || (s == op))) := HS2
      clear HS HS2 hcl
      cases z
      · go_wp2
        go_round
        case rel => exact ⟨k + 1, by omega, by go_num, by rw [HS3.out]; rfl⟩
        case measure => simp [intOf]; omega
      · go_wp2
        go_round
        case rel => exact ⟨k + 1, by omega, by go_num, by rw [HS3.out]; rfl⟩
        case measure => simp [intOf]; omega
    · have hke : k = 11 := by omega
      subst hke
      have HK := knB_all op
      obtain ⟨z, HZ⟩ : ∃ z, Hid (knB op 11 = z) := ⟨_, rfl⟩
      rw [HZ.out] at HK ⊢
      obtain ⟨p0, p1, p2⟩ := hBx3.cells
      obtain ⟨r0, r1, r2⟩ := hBy3.cells
      clear hcl
      cases z
      · have hno : op ∉ sgL := of_decide_eq_false HK.symm
        have HC : Hid (calcS op a b = ([], 8)) := by unfold Hid calcS; rw [HX.out, HY.out]; simp [hno]
        have HT0 : Hid (txo = []) := by rw [← HTX.out, HC.out]; exact rfl
        have HE0 : Hid (ero = 8) := by rw [← HER.out, HC.out]; exact rfl
        clear HK hno
        go_wp2
        go_ret2
        exact ⟨by rw [HT0.out, HE0.out]; rfl, hw3⟩
      · have hin : op ∈ sgL := of_decide_eq_true HK.symm
        have HIN : Hid (op ∈ sgL) := hin
        clear HK hin
        go_wp2_with fail
        refine (r_dyad_any op _ _ x y _ hrx3 hry3 sx sy HIN.out).mono ?_
        rintro e w4 ⟨v4, er, rfl, her, hr4, hsh4, hb4⟩
        have hw4 := Below.next hw3 hb4 hw3.size
        obtain ⟨s1, y1, m1, j1, y2, m2, j2, rfl⟩ := hsh4
        by_cases h0 : er = 0
        · have HS := dyS_small (op := op) (x := x) (y := y) (by rw [← her]; exact h0)
          have HC : Hid (calcS op a b = (txtQ (dyS op x y).2, 0)) := by
            unfold Hid calcS; rw [HX.out, HY.out]
            simp only
            rw [if_pos HIN.out, if_pos (by rw [← her]; exact h0)]
          have HT0 : Hid (txo = txtQ (dyS op x y).2) := by rw [← HTX.out, HC.out]; exact rfl
          have HE0 : Hid (ero = 0) := by rw [← HER.out, HC.out]; exact rfl
          have hrq := hr4 h0
          have hq1 : (dyS op x y).2.n < cp ∧ (dyS op x y).2.d < cp := by
            have h60 := p60_cp
            simp only [bigQ, Bool.or_eq_false_iff, decide_eq_false_iff_not] at HS
            omega
          have hrq2 := hrq.below (Nat.le_refl _) ((Below.refl _ _).alloc (Nat.le_refl _) (.cells #[.bool s1, .slice y1 m1 j1, .slice y2 m2 j2] 35))
          subst h0
          clear hr4 her HS HC
          go_wp2_with fail
          refine (r_qtext_any _ _ _ hrq2 hq1.1 hq1.2).mono ?_
          rintro e w5 ⟨rfl, hb5⟩
          go_wp2
          go_ret2
          exact ⟨by rw [HT0.out, HE0.out]; rfl, Below.next (hw4.alloc hw4.size _) hb5 (by have := hw4.size; simp; omega)⟩
        · have HC : Hid (calcS op a b = ([], er)) := by
            unfold Hid calcS; rw [HX.out, HY.out]
            simp only
            rw [if_pos HIN.out, if_neg (by rw [← her]; exact h0), her]
          have HT0 : Hid (txo = []) := by rw [← HTX.out, HC.out]; exact rfl
          have HE0 : Hid (ero = er) := by rw [← HER.out, HC.out]; exact rfl
          have hbn : (er != 0) = true := by rw [bne_iff_ne]; exact h0
          clear hr4 her HC h0
          go_wp2
          go_ret2
          exact ⟨by rw [HT0.out, HE0.out]; rfl, hw4.alloc hw4.size _⟩

theorem r_calc_any (op a b : List UInt8) (w : World) (ha : a.length ≤ 140737488351232) (hb : b.length ≤ 140737488351232) :
    Calls Tryz.prog 10 #[.string ⟨op.toArray⟩, .string ⟨a.toArray⟩, .string ⟨b.toArray⟩] w fun e w' => e = .returned (.tuple #[.string ⟨(calcS op a b).1.toArray⟩, .int .i64 (calcS op a b).2]) ∧ Below w.heap.size w w' := by
  cases hx : parseQ a with
  | none =>
    have e : calcS op a b = ([], 2) := by unfold calcS; rw [hx]
    rw [e]; exact r_calc_none op a b w ha hb (.inl hx)
  | some x =>
    cases hy : parseQ b with
    | none =>
      have e : calcS op a b = ([], 2) := by unfold calcS; rw [hx, hy]
      rw [e]; exact r_calc_none op a b w ha hb (.inr hy)
    | some y => exact r_calc_some op a b x y w ha hb hx hy
end Go.Proofs.YtknnjibmacmniaaGreatDoor
