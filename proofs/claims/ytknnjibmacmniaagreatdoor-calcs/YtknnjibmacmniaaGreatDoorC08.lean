/- abacusref: the texts of numbers. -/
import Derived.Test.YtknnjibmacmniaaGreatDoorC06
namespace Go.Proofs.YtknnjibmacmniaaGreatDoor
open Go.RowKit
set_option linter.unusedVariables false
attribute [local go_sem ↓] Go.wp_at_zero Go.wp_at_succ

/-- the bytes of the digits zs, the highest first -/
def digB (zs : List Int) : List UInt8 := zs.reverse.map fun x => UInt8.ofNat (48 + x.toNat)

theorem bytes_append (s t : List UInt8) : ((⟨s.toArray⟩ : ByteArray) ++ (⟨t.toArray⟩ : ByteArray)) = ⟨(s ++ t).toArray⟩ := by
  apply ByteArray.ext; simp

/-- the digits of n, the lowest first -/
def dig10 (n : Nat) : List Int := if h : n = 0 then [] else (n % 10 : Nat) :: dig10 (n / 10)
  decreasing_by omega
theorem dig10_eq (n : Nat) (zs : List Int) (h : Dig 10 zs) (t : Top zs) (e : val 10 zs = n) : zs = dig10 n := by
  induction zs generalizing n with
  | nil =>
    have : n = 0 := by simp [val] at e; omega
    subst this; unfold dig10; simp
  | cons x xs ih =>
    have hx := h.head
    have ht : Top xs := by
      intro m hm
      have := t (m + 1) (by simp [hm])
      rwa [nth_cons_succ] at this
    have h0 := val_nonneg (show (0 : Int) ≤ 10 by omega) h.tail
    simp only [val] at e
    have hn : n ≠ 0 := by
      intro hn
      have h1 := (val_zero_iff (show (0 : Int) < 10 by omega) h t).1 (by simp only [val]; omega)
      simp at h1
    unfold dig10
    rw [dif_neg hn]
    have e1 : x = ((n % 10 : Nat) : Int) := by omega
    have e2 : val 10 xs = ((n / 10 : Nat) : Int) := by omega
    rw [← ih (n / 10) h.tail ht e2, e1]
/-- a number's text -/
def txt (n : Int) : List UInt8 := if n = 0 then [48] else digB (dig10 n.toNat)

theorem run_one_byte (x : Int) (w : World) (h0 : 0 ≤ x) (h1 : x < 256) :
    (convert 176 9 (.slice (some ⟨w.heap.size, 0, none⟩) 1 1)).run Tryz.prog (w.alloc (.cells #[.int .u8 x] 5)) = .ok (.string ⟨#[UInt8.ofNat x.toNat]⟩) (w.alloc (.cells #[.int .u8 x] 5)) := by
  refine run_convert_bytes_back (P := Tryz.prog) (w.alloc (.cells #[.int .u8 x] 5)) 176 9 5 ⟨w.heap.size, 0, none⟩ 1 [UInt8.ofNat x.toNat] Tryz.underlying176 Tryz.underlying5 Tryz.underlying9 ?_
  intro j hj
  have hj0 : j = 0 := by simpa using hj
  subst hj0
  have e : (((UInt8.ofNat x.toNat).toNat : Nat) : Int) = x := by
    rw [UInt8.toNat_ofNat', Nat.mod_eq_of_lt (by omega)]; omega
  simp only [Addr.add, if_true, List.getElem_cons_zero, e]
  rw [cell_of_row _ _ _ _ _ _ (heap_alloc_new w _)]
  rfl

set_option maxRecDepth 100000 in
set_option maxHeartbeats 1600000 in
theorem r_text_raw (ao : Option Addr) (c1 : Nat) (zs : List Int) (w : World) (hl : zs.length ≤ 1000) (hp : 0 < zs.length) (hx : Rw .i64 w ao zs) (dx : Dig 10 zs) :
    Calls Tryz.prog 65 #[.slice ao zs.length c1] w fun e w' => e = .returned (.string ⟨(digB zs).toArray⟩) ∧ Below w.heap.size w w' := by
  obtain ⟨b, off, rfl, hc⟩ := hx hp
  have hb0 : (((zs.length : Nat) : Int) == 0) = false := beq_eq_false_iff_ne.2 (by omega)
  go_enter Tryz.func65, Tryz.ntmps65
  go_wp2
  go_loopw [3, 4] (fun s i wr => ∃ k : Nat, k ≤ zs.length ∧ i = .int .i64 ((k : Int) - 1) ∧ s = .string ⟨(digB (zs.drop k)).toArray⟩ ∧ Below w.heap.size w wr) (fun _ i _ => (intOf i + 1).toNat)
  case atStart => exact ⟨zs.length, Nat.le_refl _, rfl, by rw [List.drop_length]; rfl, Below.refl _ _⟩
  case round =>
    obtain ⟨k, hk, rfl, rfl, hbel⟩ := hrel
    rcases k with _ | k
    · go_wp2
      go_ret
      exact ⟨by simp, hbel⟩
    · have bz := dx.nth (by omega) k
      have hck := cell_later hbel (hc k (by omega))
      have HD : Hid (digB (zs.drop k) = digB (zs.drop (k + 1)) ++ [UInt8.ofNat (48 + (nth zs k).toNat)]) := by
        unfold Hid digB; rw [drop_cons_nth zs k (by omega)]; simp
      have hlen : (digB (zs.drop (k + 1))).length ≤ 1000 := by unfold digB; simp; omega
      generalize nth zs k = z at *
      generalize digB (zs.drop (k + 1)) = s at *
      rw [show (((k + 1 : Nat) : Int) - 1) = (k : Int) by omega]
      have hcv := run_one_byte (48 + z) wr (by omega) (by omega)
      go_wp2
      go_roundw
      case rel => exact ⟨k, by omega, rfl, by rw [HD.out, show (48 + z).toNat = 48 + z.toNat by omega]; exact congrArg Value.string (bytes_append s [UInt8.ofNat (48 + z.toNat)]), hbel.alloc hbel.size _⟩
      case measure => simp [intOf]

set_option maxHeartbeats 400000 in
theorem r_text_zero (ao : Option Addr) (c1 : Nat) (w : World) :
    Calls Tryz.prog 65 #[.slice ao 0 c1] w fun e w' => e = .returned (.string ⟨#[48]⟩) ∧ Below w.heap.size w w' := by
  go_enter Tryz.func65, Tryz.ntmps65
  go_wp2
  go_ret
  exact ⟨rfl, Below.refl _ _⟩

theorem r_text_any (v : Value) (n : Int) (w : World) (hx : Rep .i64 10 w v n) (bx : n < lim) :
    Calls Tryz.prog 65 #[v] w fun e w' => e = .returned (.string ⟨(txt n).toArray⟩) ∧ Below w.heap.size w w' := by
  obtain ⟨zs, ⟨ao, c1, rfl, h1, h2, h3⟩, h4, h5, rfl⟩ := hx
  have h0 := val_nonneg (show (0 : Int) ≤ 10 by omega) h4
  rcases Nat.eq_zero_or_pos zs.length with hl | hl
  · have e : txt (val 10 zs) = [48] := by unfold txt; rw [if_pos ((val_zero_iff (by omega) h4 h5).2 hl)]
    rw [e, hl]
    exact r_text_zero ao c1 w
  · have hz : val 10 zs ≠ 0 := fun e => by have := (val_zero_iff (by omega) h4 h5).1 e; omega
    have e : txt (val 10 zs) = digB zs := by unfold txt; rw [if_neg hz, ← dig10_eq (val 10 zs).toNat zs h4 h5 (by omega)]
    rw [e]
    exact r_text_raw ao c1 zs w (len_of_val h4 h5 bx) hl h3 h4
end Go.Proofs.YtknnjibmacmniaaGreatDoor

/- abacusref: a fraction's text. -/
namespace Go.Proofs.YtknnjibmacmniaaGreatDoor
open Go.RowKit
set_option linter.unusedVariables false
attribute [local go_sem ↓] Go.wp_at_zero Go.wp_at_succ

def txtQ (q : Q) : List UInt8 := (if q.neg then [126] else []) ++ txt q.n ++ (if q.d = 1 then [] else 47 :: txt q.d)
theorem digB_length (zs : List Int) : (digB zs).length = zs.length := by simp [digB]
theorem Rep.txt_length {w : World} {v : Value} {n : Int} (h : Rep .i64 10 w v n) (hn : n < lim) : (txt n).length ≤ 1000 := by
  obtain ⟨zs, ⟨ao, c1, rfl, h1, h2, h3⟩, h4, h5, rfl⟩ := h
  have h0 := val_nonneg (show (0 : Int) ≤ 10 by omega) h4
  unfold txt
  split
  · simp
  · rw [← dig10_eq (val 10 zs).toNat zs h4 h5 (by omega), digB_length]
    exact len_of_val h4 h5 hn

theorem ret_str {a b : ByteArray} (h : a = b) : Ending.returned (.string a) = .returned (.string b) := by rw [h]

set_option maxRecDepth 100000 in
set_option maxHeartbeats 1600000 in
theorem r_qtext_any (v : Value) (q : Q) (w : World) (h : RepQ w v q) (hn1 : q.n < cp) (hd1 : q.d < cp) :
    Calls Tryz.prog 26 #[v] w fun e w' => e = .returned (.string ⟨(txtQ q).toArray⟩) ∧ Below w.heap.size w w' := by
  obtain ⟨a1, l1, c1, a2, l2, c2, rfl, h1, h2⟩ := h.open
  have hl := one_lt_lim
  have bn := lt_lim_of_cp hn1
  have bd := lt_lim_of_cp hd1
  have t1 := h1.txt_length bn
  have t2 := h2.txt_length bd
  obtain ⟨neg, n, d⟩ := q
  simp only at *
  have hW : ∀ o, Below w.heap.size w (w.alloc o) := fun o => (Below.refl _ _).alloc (Nat.le_refl _) o
  obtain ⟨z, HZ⟩ : ∃ z, Hid ((sgn3 d 1 != 0) = z) := ⟨_, rfl⟩
  have hz := HZ.out
  have HD : Hid (z = !decide (d = 1)) := by
    unfold Hid
    rw [← hz]
    unfold sgn3
    rw [Bool.eq_iff_iff]
    simp only [bne_iff_ne, ne_eq, Bool.not_eq_true', decide_eq_false_iff_not]
    split
    · omega
    · split <;> omega
  cases neg
  all_goals cases z
  all_goals
    go_enter Tryz.func26, Tryz.ntmps26
    go_wp2_with fail
    refine (r_text_any _ n _ (h1.below (Nat.le_refl _) (hW _)) bn).mono ?_
    rintro e w1 ⟨rfl, hb1⟩
    obtain ⟨hc, hf⟩ := bcell hb1
    have hbw := Below.next (hW _) hb1 (by simp)
    have hsz : w.heap.size < w1.heap.size := by have := hb1.size; simp at this; omega
    go_wp2_with fail
    have hcell : w1.cell? ⟨w.heap.size, 2, none⟩ = some (.slice a2 l2 c2) := cell_later hb1 (by rw [cell_of_row _ _ _ _ _ _ (heap_alloc_new w _)]; rfl)
    clear hc hf
    go_region_held3 (fun w' => w'.cell? ⟨w.heap.size, 2, none⟩ = some (.slice a2 l2 c2) ∧ Below w.heap.size w w' ∧ w.heap.size < w'.heap.size)
      (first | exact ⟨hcell, hbw.drew, hsz⟩ | exact keep1 (by assumption) (by assumption))
      ((first | (go_at_call 67; refine (r_one_rep _).mono ?_; rintro e w2 ⟨ao, l, c, rfl, hr2, hb2⟩) | (go_at_call 66; refine (r_compare_any _ _ d 1 _ (h2.below (Nat.le_refl _) (by exact (And.left (And.right (by assumption))))) (by assumption) bd hl).mono ?_; rintro e w3 ⟨rfl, hb3⟩)))
    rename_i hH
    obtain ⟨hH1, hH2, hH3⟩ := hH
    go_wp2_with fail
    first
      | (go_ret; exact ⟨ret_str (by have hd := HD.out; simp at hd; apply ByteArray.ext; simp [txtQ, hd]), hH2⟩)
      | (refine (r_text_any _ d _ (h2.below (Nat.le_refl _) hH2) bd).mono ?_; rintro e w4 ⟨rfl, hb4⟩; go_wp2; go_ret; exact ⟨ret_str (by have hd := HD.out; simp at hd; apply ByteArray.ext; simp [txtQ, hd]), Below.next hH2 hb4 (Nat.le_of_lt hH3)⟩)
end Go.Proofs.YtknnjibmacmniaaGreatDoor

/- abacusref: nat, written. -/
namespace Go.Proofs.YtknnjibmacmniaaGreatDoor
open Go.RowKit
set_option linter.unusedVariables false

def isDig (b : UInt8) : Bool := decide (48 ≤ b.toNat) && decide (b.toNat ≤ 57)
/-- the digits that a text has, the lowest first -/
def sdig (s : List UInt8) : List Int := s.reverse.map fun b => (b.toNat : Int) - 48
def sval (s : List UInt8) : Int := val 10 (sdig s)
def wrB (s : List UInt8) : Bool := s.all isDig && decide (0 < s.length) && decide (s.length ≤ 60) && (decide (s.head? ≠ some 48) || decide (s.length = 1))

theorem sdig_dig {s : List UInt8} (h : s.all isDig = true) : Dig 10 (sdig s) := by
  intro x hx
  unfold sdig at hx
  simp only [List.mem_map, List.mem_reverse] at hx
  obtain ⟨b, hb, rfl⟩ := hx
  have := (List.all_eq_true.1 h) b hb
  simp [isDig] at this
  omega
theorem sdig_drop (s : List UInt8) (k : Nat) (h : k < s.length) : sdig (s.drop k) = sdig (s.drop (k + 1)) ++ [((s[k]).toNat : Int) - 48] := by
  unfold sdig; rw [List.drop_eq_getElem_cons h, List.reverse_cons, List.map_append]; rfl

set_option maxRecDepth 100000 in
set_option maxHeartbeats 1600000 in
theorem r_nat_any (s : List UInt8) (w : World) (hd : s.all isDig = true) (hl : s.length ≤ 1000) :
    Calls Tryz.prog 29 #[.string ⟨s.toArray⟩] w fun e w' => ∃ v, e = .returned v ∧ Rep .i64 10 w' v (sval s) ∧ Below w.heap.size w w' := by
  obtain ⟨i0, hi, hz0, hz1, hz2⟩ := info_parts Tryz.infoInt
  go_enter Tryz.func29, Tryz.ntmps29
  go_wp2
  go_loopw [3, 4] (fun v i wr => ∃ (k : Nat) (cs : List Int), k ≤ s.length ∧ i = .int .i64 ((k : Int) - 1) ∧ Hid (cs = sdig (s.drop k)) ∧ wr.ownsRow w.heap.size 3 1 v cs.length (cs.map (Value.int .i64)) ∧ Below w.heap.size w wr)
    (fun _ i _ => (intOf i + 1).toNat)
  case atStart => exact ⟨s.length, [], Nat.le_refl _, by simp, by simp [Hid, sdig], World.ownsRow_nil _ _ _ _, Below.refl _ _⟩
  case round =>
    obtain ⟨k, cs, hk, rfl, HC, hown, hbel⟩ := hrel
    have hsz := hbel.size
    rcases k with _ | k
    · have HSl := Sl.owned hown
      have hcl : cs.length ≤ 1000 := by rw [HC.out]; simp [sdig]; omega
      have hdg := sdig_dig hd
      have HV : Hid (cs = sdig s) := by have := HC.out; rwa [List.drop_zero] at this
      go_wp2_with (go_at_call 70; refine (r_trim_any _ cs _ HSl (by omega)).mono ?_; rintro e w' ⟨v', rfl, rfl, hs', hob⟩)
      go_ret
      exact ⟨_, rfl, ⟨cut cs, hs', by rw [HV.out]; exact hdg.cut, cut_top cs, by rw [val_cut, HV.out]; rfl⟩, hbel⟩
    · have hb := (List.all_eq_true.1 hd) s[k] (List.getElem_mem (by omega))
      have HC2 := sdig_drop s k (by omega)
      have hcl : cs.length ≤ 1000 := by rw [HC.out]; simp [sdig]; omega
      simp only [isDig, Bool.and_eq_true, decide_eq_true_eq] at hb
      obtain ⟨x, hx⟩ : ∃ x : UInt8, x = s[k] := ⟨_, rfl⟩
      rw [← hx] at hb HC2
      have HX : Hid (x = s[k]) := hx
      rw [show (((k + 1 : Nat) : Int) - 1) = (k : Int) by omega]
      go_wp2_with (at_builtin; refine wpList_append_own _ rfl _ _ 33 rfl w.heap.size 3 i0 (.int .i64 0) 1 8 Tryz.underlying33 hi hz0 hz1 hz2 rfl (by decide) _ _ _ rfl (hown.alloc _) ⟨wr.heap.size, 0, none⟩ 1 1 [.int .i64 _] rfl rfl (cell_one_new _ _ _) (by simp [Value.oneCell']) (by unfold maxLen; omega) (by omega) (by simp; omega) ?_)
      intro v' w1 hown' hgrow _
      have he : ((({ data := s.toArray } : ByteArray)[k]'(by show k < s.length; omega)).toNat : Int) = (x.toNat : Int) := by rw [hx]; rfl
      have hm : (((({ data := s.toArray } : ByteArray)[k]'(by show k < s.length; omega)).toNat : Int) - 48) % 256 = (x.toNat : Int) - 48 := by rw [he]; omega
      rw [hm] at hown'
      have R := own_step hbel hsz hown hown' hgrow
      have HN : Hid (cs ++ [(x.toNat : Int) - 48] = sdig (s.drop k)) := by unfold Hid; rw [HC2, HC.out]
      clear hown' hgrow hown hx HX he hm HC2
      go_wp2
      go_roundw
      case rel => exact ⟨k, cs ++ [(x.toNat : Int) - 48], by omega, rfl, HN, by rw [List.length_append]; exact R.1, R.2⟩
      case measure => simp [intOf]

set_option maxRecDepth 100000 in
set_option maxHeartbeats 1600000 in
theorem r_written_any (s : List UInt8) (w : World) (hl : s.length ≤ 140737488351232) :
    Calls Tryz.prog 27 #[.string ⟨s.toArray⟩, .int .i64 60] w fun e w' => e = .returned (.bool (wrB s)) ∧ w' = w := by
  go_enter Tryz.func27, Tryz.ntmps27
  go_wp2
  go_loop [5] (fun i => ∃ k : Nat, k ≤ s.length ∧ i = .int .i64 k ∧ Hid ((s.take k).all isDig = true)) (fun i => s.length - (intOf i).toNat)
  case atStart => exact ⟨0, by omega, rfl, by simp [Hid]⟩
  case round =>
    obtain ⟨k, hk, rfl, H⟩ := hrel
    by_cases hlt : k < s.length
    · have hall : ∀ b, isDig (s[k]'hlt) = b → (s.take (k + 1)).all isDig = b := by
        intro b hb
        rw [List.take_succ_eq_append_getElem hlt, List.all_append, H.out]
        simp [hb]
      have hbad : isDig (s[k]'hlt) = false → wrB s = false := by
        intro hb
        have h1 : s.all isDig = false := by
          rw [List.all_eq_false]
          exact ⟨s[k], List.getElem_mem hlt, by simp [hb]⟩
        simp [wrB, h1]
      obtain ⟨x, hx⟩ : ∃ x : UInt8, x = s[k] := ⟨_, rfl⟩
      rw [← hx] at hall hbad
      have he : ((({ data := s.toArray } : ByteArray)[k]'(by show k < s.length; exact hlt)).toNat : Int) = (x.toNat : Int) := by rw [hx]; rfl
      have Hall : Hid (isDig x = true → (s.take (k + 1)).all isDig = true) := hall true
      have Hbad : Hid (isDig x = false → wrB s = false) := hbad
      clear hall hbad hx
      rcases (show (x.toNat : Int) < 48 ∨ 57 < (x.toNat : Int) ∨ (48 ≤ (x.toNat : Int) ∧ (x.toNat : Int) ≤ 57) by omega) with hc | hc | hc
      · have HB : Hid (wrB s = false) := Hbad.out (by simp [isDig]; omega)
        go_wp2
        go_ret
        exact ⟨ret_bool (by rw [HB.out]), rfl⟩
      · have HB : Hid (wrB s = false) := Hbad.out (by simp [isDig]; omega)
        go_wp2
        go_ret
        exact ⟨ret_bool (by rw [HB.out]), rfl⟩
      · have HB := Hall.out (by simp [isDig]; omega)
        go_wp2
        go_round
        case rel => exact ⟨k + 1, by omega, by go_num, HB⟩
        case measure => simp [intOf]; omega
    · have hke : k = s.length := by omega
      have Ha : Hid (s.all isDig = true) := by have := H.out; rwa [hke, List.take_length] at this
      clear hke H
      rcases Nat.eq_zero_or_pos s.length with h0 | h0
      · have HB : Hid (wrB s = false) := by simp [Hid, wrB, h0]
        have hs0 : ¬ (0 : Int) < (s.length : Int) := by omega
        go_wp2
        go_ret
        exact ⟨ret_bool (by rw [HB.out]), rfl⟩
      · by_cases h60 : s.length ≤ 60
        · obtain ⟨x, hx⟩ : ∃ x : UInt8, x = s[0] := ⟨_, rfl⟩
          have he : ((({ data := s.toArray } : ByteArray)[0]'(by show 0 < s.length; exact h0)).toNat : Int) = (x.toNat : Int) := by rw [hx]; rfl
          have hh : s.head? = some x := by rw [hx]; exact List.head?_eq_getElem? (l := s) ▸ List.getElem?_eq_getElem h0
          by_cases hz : x = 48
          · by_cases h1 : s.length = 1
            · have HB : Hid (wrB s = true) := by simp [Hid, wrB, Ha.out, h1]
              have hb1 : (((s.length : Nat) : Int) == 1) = true := by simp [h1]
              have hb2 : ((x.toNat : Int) != 48) = false := by simp [hz]
              clear h1 hz hx hh
              go_wp2
              go_ret
              exact ⟨ret_bool (by rw [HB.out] <;> simp [*]), rfl⟩
            · have HB : Hid (wrB s = false) := by simp [Hid, wrB, hh, hz, h1]
              have hb1 : (((s.length : Nat) : Int) == 1) = false := beq_eq_false_iff_ne.2 (by omega)
              have hb2 : ((x.toNat : Int) != 48) = false := by simp [hz]
              clear h1 hz hx hh
              go_wp2
              go_ret
              exact ⟨ret_bool (by rw [HB.out] <;> simp [*]), rfl⟩
          · have HB : Hid (wrB s = true) := by simp [Hid, wrB, Ha.out, hh, hz, h0, h60]
            have hb2 : ((x.toNat : Int) != 48) = true := by
              rw [bne_iff_ne]
              intro e
              exact hz (UInt8.toNat_inj.1 (by show x.toNat = 48; omega))
            clear hz hx hh
            go_wp2
            go_ret
            exact ⟨ret_bool (by rw [HB.out] <;> simp [*]), rfl⟩
        · have HB : Hid (wrB s = false) := by simp [Hid, wrB, h60]
          go_wp2
          go_ret
          exact ⟨ret_bool (by rw [HB.out] <;> simp [*]), rfl⟩
end Go.Proofs.YtknnjibmacmniaaGreatDoor
