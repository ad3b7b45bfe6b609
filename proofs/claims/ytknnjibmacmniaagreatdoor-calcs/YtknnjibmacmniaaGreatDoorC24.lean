/- Digits in chunks of nine: plain mathematics. -/
import Derived.Test.YtknnjibmacmniaaGreatDoorC08
import Derived.Test.YtknnjibmacmniaaGreatDoorC21
import Derived.Lib.ItoaNum
import Derived.Test.YtknnjibmacmniaaGreatDoorC23
namespace Go.Proofs.YtknnjibmacmniaaGreatDoor
open Go.Lib (decDigits nDigits)
set_option linter.unusedVariables false

theorem dec_small {u : Nat} (h : u < 10) : decDigits u = [UInt8.ofNat (48 + u)] := by rw [decDigits, dif_pos h]
theorem dec_big {u : Nat} (h : ¬ u < 10) : decDigits u = decDigits (u / 10) ++ [UInt8.ofNat (48 + u % 10)] := by rw [decDigits, dif_neg h]
theorem digB_dec (u : Nat) : 0 < u → digB (dig10 u) = decDigits u := by
  induction u using Nat.strongRecOn with
  | _ u ih =>
    intro h0
    rw [dig10, dif_neg (by omega)]
    have e : digB (((u % 10 : Nat) : Int) :: dig10 (u / 10)) = digB (dig10 (u / 10)) ++ [UInt8.ofNat (48 + u % 10)] := by
      simp only [digB, List.reverse_cons, List.map_append, List.map_cons, List.map_nil]
      rw [show (((u % 10 : Nat) : Int)).toNat = u % 10 by omega]
    rw [e]
    by_cases h : u < 10
    · rw [dec_small h, show u / 10 = 0 by omega, show u % 10 = u by omega, dig10, dif_pos rfl]; rfl
    · rw [dec_big h, ih (u / 10) (by omega) (by omega)]
theorem txt_dec (n : Int) (h : 0 ≤ n) : txt n = decDigits n.toNat := by
  unfold txt
  split
  · rename_i h0; subst h0; rw [show (0 : Int).toNat = 0 by rfl, dec_small (by omega)]; rfl
  · exact digB_dec _ (by omega)

/-- k digits of c, with the noughts ahead -/
def padK : Nat → Nat → List UInt8
  | 0, _ => []
  | k + 1, c => padK k (c / 10) ++ [UInt8.ofNat (48 + c % 10)]
theorem padK_zero (k : Nat) : padK k 0 = List.replicate k 48 := by
  induction k with
  | zero => rfl
  | succ k ih => rw [padK, Nat.zero_div, ih, Nat.zero_mod, List.replicate_succ']; rfl
theorem dec_join (k v c : Nat) (hc : c < 10 ^ k) (hv : 0 < v) : decDigits (v * 10 ^ k + c) = decDigits v ++ padK k c := by
  induction k generalizing c with
  | zero => rw [Nat.pow_zero] at *; rw [show c = 0 by omega, padK]; simp
  | succ k ih =>
    have hp : 0 < 10 ^ k := Nat.pow_pos (by omega)
    have hv2 : 1 * (10 ^ k * 10) ≤ v * (10 ^ k * 10) := Nat.mul_le_mul_right _ hv
    rw [Nat.pow_succ] at *
    have e1 : (v * (10 ^ k * 10) + c) / 10 = v * 10 ^ k + c / 10 := by
      rw [← Nat.mul_assoc, Nat.mul_comm _ 10, Nat.mul_add_div (by omega)]
    have e2 : (v * (10 ^ k * 10) + c) % 10 = c % 10 := by
      rw [← Nat.mul_assoc, Nat.mul_comm _ 10, Nat.mul_add_mod]
    rw [dec_big (by omega), e1, e2, ih (c / 10) (by omega), padK, List.append_assoc]
theorem dec_length (u : Nat) : (decDigits u).length = nDigits u := Lib.decDigits_length u
theorem pad_dec (k c : Nat) (hk : 0 < k) (hc : c < 10 ^ k) : padK k c = List.replicate (k - (decDigits c).length) 48 ++ decDigits c ∧ (decDigits c).length ≤ k := by
  induction k generalizing c with
  | zero => omega
  | succ k ih =>
    by_cases h : c < 10
    · rw [dec_small h, padK, show c / 10 = 0 by omega, show c % 10 = c by omega, padK_zero]
      exact ⟨by simp, by simp⟩
    · have hk0 : 0 < k := by
        rcases Nat.eq_zero_or_pos k with e | e
        · subst e; simp at hc; omega
        · exact e
      rw [Nat.pow_succ] at hc
      have := ih (c / 10) hk0 (by omega)
      rw [dec_big h, padK, this.1]
      refine ⟨?_, by simp; omega⟩
      rw [List.length_append, List.length_singleton, Nat.add_sub_add_right, List.append_assoc]

/-- nine digits of a chunk -/
def pad9 (c : Int) : List UInt8 := List.replicate (9 - (decDigits c.toNat).length) 48 ++ decDigits c.toNat
/-- the text of chunks, the highest first -/
def hT : List Int → List UInt8
  | [] => []
  | c :: cs => decDigits c.toNat ++ cs.flatMap pad9
theorem hT_snoc (xs : List Int) (c : Int) (h : xs ≠ []) : hT (xs ++ [c]) = hT xs ++ pad9 c := by
  cases xs with
  | nil => exact absurd rfl h
  | cons x xs => simp [hT, List.flatMap_append]
theorem hT_one (c : Int) : hT [c] = decDigits c.toNat := by simp [hT]

theorem hT_val (cs : List Int) (hd : Dig 1000000000 cs) (h0 : 0 < cs.length) (ht : 1 < cs.length → 1000000000 ^ (cs.length - 1) ≤ val 1000000000 cs) : hT cs.reverse = decDigits (val 1000000000 cs).toNat := by
  induction cs with
  | nil => simp at h0
  | cons c ds ih =>
    have hc := hd.head
    by_cases hds : ds = []
    · subst hds; simp [val, hT_one]
    · have hl : 0 < ds.length := by cases ds with | nil => exact absurd rfl hds | cons => simp
      have hv0 := val_nonneg (show (0 : Int) ≤ 1000000000 by omega) hd.tail
      have h1 := ht (by simp; omega)
      simp only [List.length_cons, Nat.add_sub_cancel, val] at h1
      have hpos : 1 ≤ val 1000000000 ds := by
        have h2 := pow_mono (show (0 : Int) < 1000000000 by omega) (show 1 ≤ ds.length by omega)
        rw [Int.pow_one] at h2
        omega
      have htop : 1 < ds.length → 1000000000 ^ (ds.length - 1) ≤ val 1000000000 ds := by
        intro h3
        rw [show ds.length = (ds.length - 1) + 1 by omega, Int.pow_succ] at h1
        omega
      rw [List.reverse_cons, hT_snoc _ _ (by simpa using hds), ih hd.tail hl htop]
      have hcn : c.toNat < 10 ^ 9 := by have : (10 : Nat) ^ 9 = 1000000000 := by decide
                                        omega
      have e : (val 1000000000 (c :: ds)).toNat = (val 1000000000 ds).toNat * 10 ^ 9 + c.toNat := by
        have : (10 : Nat) ^ 9 = 1000000000 := by decide
        simp only [val]; omega
      rw [e, dec_join 9 _ _ hcn (by omega), pad9, (pad_dec 9 _ (by omega) hcn).1]
theorem Chk.text {n : Int} {cs : List Int} (h : Chk n cs) (hn : 0 ≤ n) : hT cs.reverse = txt n := by
  have ht := h.t
  have hv := h.v
  rw [hv] at ht
  rw [hT_val cs h.d h.l0 ht, txt_dec n hn, hv]
/-- how many digits: by the chunks -/
theorem Chk.count {n : Int} {cs : List Int} (h : Chk n cs) (hn : 0 ≤ n) : (txt n).length = (cs.length - 1) * 9 + (decDigits (nth cs (cs.length - 1)).toNat).length := by
  rw [← h.text hn]
  have hl := h.l0
  obtain ⟨m, hm⟩ : ∃ m, cs.length = m + 1 := ⟨cs.length - 1, by omega⟩
  have e1 : cs.reverse = nth cs m :: (cs.take m).reverse := by
    have := take_snoc_nth cs m (by omega)
    rw [List.take_of_length_le (by omega)] at this
    conv => lhs; rw [this, List.reverse_append]
    rfl
  have e2 : ∀ l : List Int, Dig 1000000000 l → (l.flatMap pad9).length = l.length * 9 := by
    intro l
    induction l with
    | nil => intro _; rfl
    | cons x l ih =>
      intro hd
      have hx := hd.head
      have hp := pad_dec 9 x.toNat (by omega) (by have : (10 : Nat) ^ 9 = 1000000000 := by decide
                                                  omega)
      rw [List.flatMap_cons, List.length_append, ih hd.tail, pad9, List.length_append, List.length_replicate, List.length_cons]
      omega
  rw [e1, hT, List.length_append, e2 _ (fun y hy => (h.d.take m) y (List.mem_reverse.1 hy)), List.length_reverse, List.length_take, hm]
  simp only [Nat.add_sub_cancel]
  rw [Nat.min_eq_left (by omega)]; omega
end Go.Proofs.YtknnjibmacmniaaGreatDoor

/- natural: Digits, Text. -/
namespace Go.Proofs.YtknnjibmacmniaaGreatDoor
open Go.RowKit
open Go.Lib (decDigits byteCells strCells)
set_option linter.unusedVariables false

theorem Gl.later {w w' : World} (h : Gl w) (hb : Below w.heap.size w w') : Gl w' := by
  obtain ⟨⟨m, h1⟩, h2⟩ := h
  refine ⟨⟨m, cell_later hb h1⟩, ?_⟩
  unfold Lib.TabIs World.var? at *
  cases hg : Tryz.prog.globalNamed "internal/strconv.uint64pow10" with
  | none => simp [hg] at h2
  | some g =>
    simp only [hg, Option.bind_some] at h2 ⊢
    have hlt : g < w.heap.size := by
      rcases Nat.lt_or_ge g w.heap.size with h' | h'
      · exact h'
      · rw [Array.getElem?_eq_none h'] at h2; simp at h2
    rw [hb.block g hlt]
    exact h2
theorem Gl.tab {w : World} (h : Gl w) : Lib.TabIs Tryz.prog w "internal/strconv.uint64pow10" .u64 Lib.pow10Tab := h.2

theorem repeat_zero (c : Nat) : Lib.repeatL [48] c = List.replicate c 48 := by
  induction c with
  | zero => rfl
  | succ c ih => rw [Lib.repeatL, ih]; rfl
theorem own_cells {T base n : Nat} {w : World} {v : Value} {zs : List Int} {k : IntKind} (h : w.ownsRow base T 1 v n (zs.map (Value.int k))) (h0 : 0 < n) : ∃ g cap, v = .slice (some ⟨g, 0, none⟩) n cap ∧ base ≤ g ∧ g < w.heap.size ∧ ∀ j, j < zs.length → w.cell? ⟨g, j, none⟩ = some (.int k (nth zs j)) := by
  obtain ⟨g, cap, rfl⟩ := (own_shape h).2 h0
  have hl := h.1
  simp at hl
  have h1 := own_cell h 0 (by omega)
  exact ⟨g, cap, rfl, h1.2.2.1, h1.2.2.2, fun j hj => (own_cell h j hj).1⟩

set_option maxRecDepth 100000 in
set_option maxHeartbeats 1600000 in
theorem n_digits_any (v : Value) (n : Int) (w : World) (hx : RepU w v n) (bx : n < lim) (hG : Gl w) :
    Calls Tryz.prog 103 #[v] w fun e w' => e = .returned (.int .i64 ((txt n).length : Nat)) ∧ Below w.heap.size w w' := by
  obtain ⟨a1, l1, c1, rfl, h1⟩ := hx.open
  have hn0 := h1.nonneg (by omega)
  have hW : ∀ o, Below w.heap.size w (w.alloc o) := fun o => (Below.refl _ _).alloc (Nat.le_refl _) o
  go_enter Tryz.func103, Tryz.ntmps103
  go_wp2_with fail
  refine (n_chunks_any _ n _ (hx.below (Nat.le_refl _) (hW _)) bx).mono ?_
  rintro e w1 ⟨v1, cs, rfl, hown, hck, hb1⟩
  obtain ⟨g, cap, rfl, hg, hgl, hc⟩ := own_cells hown hck.l0
  have hbw1 := Below.next (hW _) hb1 (by simp)
  have hG1 := hG.later hbw1
  have hl0 := hck.l0
  have hl1 := hck.l1
  have HC := hck.count hn0
  obtain ⟨m, hm⟩ : ∃ m, cs.length = m + 1 := ⟨cs.length - 1, by omega⟩
  have hcm := hc m (by omega)
  have bm := hck.d.nth (by omega) m
  obtain ⟨u, hu⟩ : ∃ u : Nat, nth cs m = (u : Int) := ⟨(nth cs m).toNat, by omega⟩
  rw [hm] at HC ⊢
  rw [show m + 1 - 1 = m by omega, hu, show ((u : Int)).toNat = u by omega] at HC
  rw [hu] at hcm bm
  have HCC : Hid ((txt n).length = m * 9 + (decDigits u).length) := HC
  have e1 : ((m + 1 : Nat) : Int) - 1 = (m : Int) := by omega
  have hml : m ≤ 100 := by omega
  have hdl : (decDigits u).length ≤ 9 := (pad_dec 9 u (by omega) (by have : (10 : Nat) ^ 9 = 1000000000 := by decide
                                                                     omega)).2
  clear HC hc hown hb1 hck hu hm
  go_wp2_with fail
  refine (n_fmt_any u (by omega) _ hG1.tab).mono ?_
  rintro e w2 ⟨rfl, hb2⟩
  go_wp2
  go_ret
  exact ⟨ret_int (by rw [HCC.out]; omega), Below.next hbw1 hb2 hbw1.size⟩

theorem byteCells_append (a b : List UInt8) : byteCells (a ++ b) = byteCells a ++ byteCells b := by simp [byteCells]
theorem strCells_list (l : List UInt8) : strCells ⟨l.toArray⟩ = byteCells l := by simp [strCells, byteCells]
theorem byteCells_len (l : List UInt8) : (byteCells l).length = l.length := by simp [byteCells]
theorem hT_length (xs : List Int) (hd : Dig 1000000000 xs) : (hT xs).length ≤ xs.length * 9 := by
  cases xs with
  | nil => simp [hT]
  | cons c cs =>
    have e2 : ∀ l : List Int, Dig 1000000000 l → (l.flatMap pad9).length = l.length * 9 := by
      intro l
      induction l with
      | nil => intro _; rfl
      | cons x l ih =>
        intro hd
        have hx := hd.head
        have hp := pad_dec 9 x.toNat (by omega) (by have : (10 : Nat) ^ 9 = 1000000000 := by decide
                                                    omega)
        rw [List.flatMap_cons, List.length_append, ih hd.tail, pad9, List.length_append, List.length_replicate, List.length_cons]
        omega
    have hx := hd.head
    have hp := pad_dec 9 c.toNat (by omega) (by have : (10 : Nat) ^ 9 = 1000000000 := by decide
                                                omega)
    rw [hT, List.length_append, e2 _ hd.tail, List.length_cons]
    omega

theorem builder_later {T e B b : Nat} {bs : List Value} {w w' : World} (h : Lib.IsBuilder T e B b bs w) (hb : Below w.heap.size w w') : Lib.IsBuilder T e B b bs w' := by
  rcases h with ⟨h0, v, h1, h2, h3⟩ | ⟨h0, v, h1, h2, h3⟩
  · exact Or.inl ⟨h0, v, (hb.block b (Array.getElem?_eq_some_iff.1 h1).1).trans h1, own_later h2 hb, h3⟩
  · exact Or.inr ⟨h0, v, (hb.block b (Array.getElem?_eq_some_iff.1 h1).1).trans h1, own_later h2 hb, h3⟩

set_option maxRecDepth 100000 in
set_option maxHeartbeats 3200000 in
theorem n_text_any (v : Value) (n : Int) (w : World) (hx : RepU w v n) (bx : n < lim) (hG : Gl w) :
    Calls Tryz.prog 54 #[v] w fun e w' => e = .returned (.string ⟨(txt n).toArray⟩) ∧ Below w.heap.size w w' := by
  obtain ⟨a1, l1, c1, rfl, h1⟩ := hx.open
  have hn0 := h1.nonneg (by omega)
  have hW : ∀ o, Below w.heap.size w (w.alloc o) := fun o => (Below.refl _ _).alloc (Nat.le_refl _) o
  go_enter Tryz.func54, Tryz.ntmps54
  go_wp2_with fail
  refine (n_chunks_any _ n _ (hx.below (Nat.le_refl _) (hW _)) bx).mono ?_
  rintro e w1 ⟨v1, cs, rfl, hown, hck, hb1⟩
  have hbw1 := Below.next (hW _) hb1 (by simp)
  have hsz1 : w.heap.size + 1 ≤ w1.heap.size := by have := hb1.size; simpa using this
  have hl0 := hck.l0
  have hl1 := hck.l1
  simp only [World.size_alloc] at hown
  go_wp2_with fail
  refine (n_reverse_any v1 cs _ w1 hown hl0 (by omega)).mono ?_
  rintro e w2 ⟨rfl, hown2, hb2⟩
  obtain ⟨g, cap, rfl, hg, hgl, hc⟩ := own_cells hown2 hl0
  have hbw2 : Below w.heap.size w w2 := hbw1.trans (hb2.mono (by omega))
  have HT := hck.text hn0
  obtain ⟨rs, HRS⟩ : ∃ rs, Hid (cs.reverse = rs) := ⟨_, rfl⟩
  have hdr : Dig 1000000000 rs := by rw [← HRS.out]; exact fun y hy => hck.d y (List.mem_reverse.1 hy)
  have hrl : rs.length = cs.length := by rw [← HRS.out, List.length_reverse]
  rw [HRS.out] at hc HT
  rw [← hrl] at hl0 hl1 ⊢
  have HTT : Hid (hT rs = txt n) := HT
  clear hown hown2 hb1 hb2 hck HT hrl HRS hbw1
  obtain ⟨N, HN⟩ : ∃ N, Hid (rs.length = N) := ⟨_, rfl⟩
  rw [HN.out] at hl0 hl1 hc ⊢
  have hbd : Lib.IsBuilder 178 5 w2.heap.size w2.heap.size (byteCells (hT (rs.take 0))) (w2.alloc (.cells #[.pointer none, .slice none 0 0] 178)) := by
    refine Or.inl ⟨Nat.le_refl _, .slice none 0 0, heap_alloc_new w2 _, World.ownsRow_nil _ _ _ _, by simp [Value.ownBlock]⟩
  have hb3 : Below w2.heap.size w2 (w2.alloc (.cells #[.pointer none, .slice none 0 0] 178)) := (Below.refl _ _).alloc (Nat.le_refl _) _
  go_wp2
  go_loopw [14] (fun iv wr => ∃ k : Nat, k ≤ N ∧ iv = .int .i64 k ∧ Lib.IsBuilder 178 5 w2.heap.size w2.heap.size (byteCells (hT (rs.take k))) wr ∧ Below w2.heap.size w2 wr ∧ w2.heap.size + 1 ≤ wr.heap.size)
    (fun iv _ => N - (intOf iv).toNat)
  case atStart => exact ⟨0, by omega, rfl, hbd, hb3, by simp⟩
  case round =>
    clear hbd hb3
    obtain ⟨k, hk, rfl, hbd, hbel, hsz⟩ := hrel
    have hbw := hbw2.trans (hbel.mono hbw2.size)
    have hGr := hG.later hbw
    by_cases hlt : k < N
    · have bk := hdr.nth (by omega) k
      obtain ⟨u, hu⟩ : ∃ u : Nat, nth rs k = (u : Int) := ⟨(nth rs k).toNat, by omega⟩
      have hck : wr.cell? ⟨g, k, none⟩ = some (.int .u32 (u : Int)) := by rw [← hu, hbel.cell (p := ⟨g, k, none⟩) hgl]; exact hc k hlt
      rw [hu] at bk
      have hdl := pad_dec 9 u (by omega) (by have : (10 : Nat) ^ 9 = 1000000000 := by decide
                                             omega)
      have hdl2 := hdl.2
      have htk := take_snoc_nth rs k (by rw [HN.out]; exact hlt)
      have hlenk := hT_length (rs.take k) (hdr.take k)
      have hlk : (rs.take k).length ≤ 100 := by rw [List.length_take]; omega
      rw [hu] at htk
      clear hdl hu
      go_wp2_with fail
      refine (n_fmt_any u (by omega) _ hGr.tab).mono ?_
      rintro e w3 ⟨rfl, hb3⟩
      have hbd3 : Lib.IsBuilder 178 5 w2.heap.size w2.heap.size (byteCells (hT (rs.take k))) w3 := builder_later hbd hb3
      have hbel3 := hbel.trans (hb3.mono (by omega))
      have hsz3 := Nat.le_trans hsz hb3.size
      clear hbd hb3 hck
      rcases Nat.eq_zero_or_pos k with h0 | h0
      · subst h0
        have HB : hT (rs.take 1) = hT (rs.take 0) ++ decDigits u := by
          rw [htk, List.take_zero, List.nil_append, hT_one]; simp [hT]
        go_wp2_with fail
        refine (b_write w2.heap.size w2.heap.size _ ⟨(decDigits u).toArray⟩ w3 hbd3 (by rw [byteCells_len]; show (hT (rs.take 0)).length + (decDigits u).length ≤ _; omega) (by omega)).mono ?_
        rintro e w4 ⟨rfl, hbd4, hb4⟩
        rw [strCells_list, ← byteCells_append, ← HB] at hbd4
        have hbel4 := hbel3.trans hb4
        have hsz4 := Nat.le_trans hsz3 hb4.size
        go_wp2
        go_roundw
        case rel => exact ⟨1, by omega, by go_num, Or.inr hbd4, hbel4, hsz4⟩
        case measure => simp [intOf]; omega
      · have HB : hT (rs.take (k + 1)) = (hT (rs.take k) ++ List.replicate (9 - (decDigits u).length) 48) ++ decDigits u := by
          rw [htk, hT_snoc _ _ (by intro e; have := congrArg List.length e; rw [List.length_take, HN.out] at this; simp at this; omega), pad9, show ((u : Int)).toNat = u by omega, List.append_assoc]
        have ec : (9 : Int) - ((decDigits u).length : Int) = ((9 - (decDigits u).length : Nat) : Int) := by omega
        obtain ⟨c, HC⟩ : ∃ c, Hid (9 - (decDigits u).length = c) := ⟨_, rfl⟩
        rw [HC.out] at ec HB
        have hc9 : c ≤ 9 := by have := HC.out; omega
        have HBB : Hid (hT (rs.take (k + 1)) = (hT (rs.take k) ++ List.replicate c 48) ++ decDigits u) := HB
        clear HB
        go_wp2_with fail
        refine (Tryz.strings_Repeat ⟨#[48]⟩ c w3 (by omega) (by show 1 * c ≤ _; omega)).mono ?_
        rintro e w4 ⟨rfl, hb4⟩
        have hbd4 := builder_later hbd3 hb4
        have hbel4 := hbel3.trans (hb4.mono (by omega))
        have hsz4 := Nat.le_trans hsz3 hb4.size
        rw [show Lib.repeatL (⟨#[48]⟩ : ByteArray).data.toList c = List.replicate c 48 from repeat_zero c]
        clear hbd3 hb4 hbel3
        go_wp2_with fail
        refine (b_write w2.heap.size w2.heap.size _ ⟨(List.replicate c 48).toArray⟩ w4 hbd4 (by rw [byteCells_len]; show (hT (rs.take k)).length + (List.replicate c (48 : UInt8)).length ≤ _; rw [List.length_replicate]; omega) (by omega)).mono ?_
        rintro e w5 ⟨rfl, hbd5, hb5⟩
        rw [strCells_list, ← byteCells_append] at hbd5
        have hbel5 := hbel4.trans hb5
        have hsz5 := Nat.le_trans hsz4 hb5.size
        clear hbd4 hbel4 hb5
        go_wp2_with fail
        refine (b_write w2.heap.size w2.heap.size _ ⟨(decDigits u).toArray⟩ w5 (Or.inr hbd5) (by rw [byteCells_len, List.length_append, List.length_replicate]; show _ + _ + (decDigits u).length ≤ _; omega) (by omega)).mono ?_
        rintro e w6 ⟨rfl, hbd6, hb6⟩
        rw [strCells_list, ← byteCells_append, ← HBB.out] at hbd6
        have hbel6 := hbel5.trans hb6
        have hsz6 := Nat.le_trans hsz5 hb6.size
        clear hbd5 hbel5 hb6
        go_wp2
        go_roundw
        case rel => exact ⟨k + 1, by omega, by go_num, Or.inr hbd6, hbel6, hsz6⟩
        case measure => simp [intOf]; omega
    · have hke : k = N := by omega
      rw [hke, List.take_of_length_le (by rw [HN.out]; exact Nat.le_refl _), HTT.out] at hbd
      clear hke
      go_wp2_with fail
      refine (Tryz.Builder_String_any w2.heap.size w2.heap.size (txt n) wr hbd (by omega)).mono ?_
      rintro e w7 ⟨rfl, hb7⟩
      go_wp2
      go_ret
      exact ⟨rfl, hbw.trans (hb7.mono hbw2.size)⟩
end Go.Proofs.YtknnjibmacmniaaGreatDoor
