/- natural: Multiply. -/
import Derived.Test.YtknnjibmacmniaaGreatDoorC13
namespace Go.Proofs.YtknnjibmacmniaaGreatDoor
open Go.RowKit
set_option linter.unusedVariables false

theorem mul_step (xs ys ps : List Int) (i j : Nat) (c t : Int) (hk : i + j < ps.length) (H : val 4294967296 ps + c * 4294967296 ^ (i + j) = val 4294967296 (xs.take i) * val 4294967296 ys + 4294967296 ^ i * nth xs i * val 4294967296 (ys.take j)) (ht : t = c + (nth xs i * nth ys j + nth ps (i + j))) :
    val 4294967296 (ps.set (i + j) (t % 4294967296)) + (t / 4294967296) * 4294967296 ^ (i + (j + 1)) = val 4294967296 (xs.take i) * val 4294967296 ys + 4294967296 ^ i * nth xs i * val 4294967296 (ys.take (j + 1)) := by
  rw [val_set _ _ _ _ hk, val_take_succ, ← Nat.add_assoc, Int.pow_succ, Int.pow_add]
  rw [Int.pow_add] at H
  have h1 : t = 4294967296 * (t / 4294967296) + t % 4294967296 := by omega
  generalize nth ps (i + j) = p0 at *
  generalize nth xs i = x0 at *
  generalize nth ys j = y0 at *
  generalize val 4294967296 ps = A at *
  generalize val 4294967296 ys = B at *
  generalize val 4294967296 (xs.take i) = C at *
  generalize val 4294967296 (ys.take j) = D at *
  generalize t / 4294967296 = q at *
  generalize t % 4294967296 = r at *
  generalize (4294967296 : Int) ^ i = p at *
  generalize (4294967296 : Int) ^ j = p' at *
  grind
theorem mul_next (xs ys ps : List Int) (i j : Nat) (c : Int) (hk : i + j < ps.length) (hj : ys.length = j) (h0 : nth ps (i + j) = 0) (H : val 4294967296 ps + c * 4294967296 ^ (i + j) = val 4294967296 (xs.take i) * val 4294967296 ys + 4294967296 ^ i * nth xs i * val 4294967296 (ys.take j)) :
    val 4294967296 (ps.set (i + j) c) = val 4294967296 (xs.take (i + 1)) * val 4294967296 ys := by
  rw [List.take_of_length_le (show ys.length ≤ j by omega)] at H
  rw [val_set _ _ _ _ hk, h0, val_take_succ]
  generalize val 4294967296 ps = A at *
  generalize val 4294967296 ys = B at *
  generalize val 4294967296 (xs.take i) = C at *
  generalize (4294967296 : Int) ^ (i + j) = p at *
  generalize (4294967296 : Int) ^ i = p' at *
  grind

set_option maxRecDepth 100000 in
set_option maxHeartbeats 3200000 in
theorem n_mul_raw (ao bo : Option Addr) (c1 c2 : Nat) (xs ys : List Int) (w : World) (hlx : xs.length ≤ 1000) (hly : ys.length ≤ 1000) (hx : Rw .u32 w ao xs) (hy : Rw .u32 w bo ys) (dx : Dig 4294967296 xs) (dy : Dig 4294967296 ys) :
    Calls Tryz.prog 138 #[.agg #[.slice ao xs.length c1], .agg #[.slice bo ys.length c2]] w fun e w' => ∃ v, e = .returned v ∧ RepU w' v (val 4294967296 xs * val 4294967296 ys) ∧ Below w.heap.size w w' := by
  obtain ⟨i0, hi, hz0, hz1, hz2⟩ := info_parts Tryz.infoU32
  have hW : ∀ o o' o'', Below w.heap.size w (((w.alloc o).alloc o').alloc o'') := fun o o' o'' => (((Below.refl _ _).alloc (Nat.le_refl _) o).alloc (by simp) o').alloc (by simp; omega) o''
  obtain ⟨n, HN⟩ : ∃ n, Hid (n = xs.length + ys.length) := ⟨_, rfl⟩
  have hn1 : n ≤ 2000 := by have := HN.out; omega
  have hn2 : xs.length + ys.length ≤ n := by have := HN.out; omega
  go_enter Tryz.func138, Tryz.ntmps138
  go_wp2_with (at_make; refine wpList_make_full _ rfl _ _ 54 rfl w.heap.size 174 i0 (.int .u32 0) 1 Tryz.underlying54 hi hz0 hz1 .i64 .i64 _ _ n rfl rfl (by have := HN.out; omega) (by have := HN.out; omega) (by rw [hz2]; omega) (by unfold maxLen; omega) (by simp; omega) ?_)
  intro w0 hown0 hgrow0
  have hq0 := Blk.made hown0
  have hb3 : Below (w.heap.size + 1 + 1 + 1) (((w.alloc (.cells #[.slice ao xs.length c1] 56)).alloc (.cells #[.slice bo ys.length c2] 56)).alloc (.cells #[.slice none 0 0] 56)) w0 := (Below.refl _ _).grown hgrow0 (by simp) (by simp)
  have hb0 : Below w.heap.size w w0 := (hW _ _ _).trans (hb3.mono (by omega))
  obtain ⟨hA0, hB0, hR0⟩ := boxes1 w (.slice ao xs.length c1) (.slice bo ys.length c2) 56 56 56 w0 hb3
  clear hown0 hgrow0 hb3
  go_wp2
  go_loopw [22] (fun iv wr => ∃ (i : Nat) (ps : List Int), i ≤ xs.length ∧ iv = .int .i64 i ∧ Blk .u32 174 wr (w.heap.size + 1 + 1 + 1) ps ∧ Hid (ps.length = n) ∧ Dig 4294967296 ps ∧ Hid (∀ j, i + ys.length ≤ j → nth ps j = 0) ∧ Hid (val 4294967296 ps = val 4294967296 (xs.take i) * val 4294967296 ys) ∧
      wr.cell? ⟨w.heap.size + 1, 0, none⟩ = some (.slice bo ys.length c2) ∧ Fz1 (w.heap.size + 1 + 1) wr ∧ Below w.heap.size w wr)
    (fun iv _ => xs.length - (intOf iv).toNat)
  case atStart => exact ⟨0, _, by omega, rfl, hq0, by simp [Hid], Dig.replicate (by omega) _, fun j _ => nth_replicate _ _, by simp [Hid, val, val_replicate], hB0, hR0, hb0⟩
  case round =>
    clear hq0 hA0 hB0 hR0 hb0
    obtain ⟨i, ps, hik, rfl, hq, HL, hd, HZ, H, hB, hR, hbel⟩ := hrel
    by_cases hlt : i < xs.length
    · obtain ⟨b, off, rfl, hc⟩ := hx (by omega)
      have bx := dx.nth (by omega) i
      have hck := cell_later hbel (hc i hlt)
      obtain ⟨x, HX⟩ : ∃ x, Hid (nth xs i = x) := ⟨_, rfl⟩
      rw [HX.out] at hck bx
      rename World => wa
      go_wp2
      go_loopw [8, 30] (fun cv jv wr => ∃ (j : Nat) (ps : List Int) (c : Int), j ≤ ys.length ∧ jv = .int .i64 j ∧ cv = .int .u64 c ∧ 0 ≤ c ∧ c < 4294967296 ∧ Blk .u32 174 wr (w.heap.size + 1 + 1 + 1) ps ∧ Hid (ps.length = n) ∧ Dig 4294967296 ps ∧ Hid (∀ j, i + ys.length ≤ j → nth ps j = 0) ∧
          Hid (val 4294967296 ps + c * 4294967296 ^ (i + j) = val 4294967296 (xs.take i) * val 4294967296 ys + 4294967296 ^ i * nth xs i * val 4294967296 (ys.take j)) ∧ wr.cell? ⟨w.heap.size + 1, 0, none⟩ = some (.slice bo ys.length c2) ∧ Fz1 (w.heap.size + 1 + 1) wr ∧ Below w.heap.size w wr)
        (fun _ jv _ => ys.length - (intOf jv).toNat)
      case atStart => exact ⟨0, ps, 0, by omega, rfl, rfl, by omega, by omega, hq, HL, hd, HZ, by unfold Hid; rw [H.out]; simp [val], hB, hR, hbel⟩
      case round =>
        clear hq HL hd HZ H hB hR hbel ps hck
        obtain ⟨j, ps, c, hj, rfl, rfl, hc0, hc1, hq, HL, hd, HZ, H, hB, hR, hbel⟩ := hrel
        by_cases hlt2 : j < ys.length
        · obtain ⟨b', off', rfl, hc'⟩ := hy (by omega)
          have hlen : i + j < ps.length := by rw [HL.out]; omega
          have bY := dy.nth (by omega) j
          have bP := hd.nth (by omega) (i + j)
          have hck' := cell_later hbel (hc' j hlt2)
          have hcp := hq.cell (i + j) hlen
          have hcf := hq.free (i + j)
          obtain ⟨y, HY⟩ : ∃ y, Hid (nth ys j = y) := ⟨_, rfl⟩
          obtain ⟨p, HP⟩ : ∃ p, Hid (nth ps (i + j) = p) := ⟨_, rfl⟩
          rw [HY.out] at hck' bY
          rw [HP.out] at hcp bP
          have HS := mul_step xs ys ps i j c (c + (x * y + p)) hlen H.out (by rw [HX.out, HY.out, HP.out])
          have HQ := hq.set (i + j) ((c + (x * y + p)) % 4294967296)
          have hm0 : 0 ≤ x * y := Int.mul_nonneg bx.1 bY.1
          have hm1 : x * y ≤ 4294967295 * 4294967295 := Int.mul_le_mul (by omega) (by omega) bY.1 (by omega)
          have hi1 : (0 : Int) ≤ (i : Int) + (j : Int) := by omega
          have hi2 : (i : Int) + (j : Int) < (n : Int) := by omega
          have hi3 : ((i : Int) + (j : Int)).toNat = i + j := by omega
          have hm2 : x * y ≤ 18446744065119617025 := by omega
          clear hc' hy hm1
          go_wp2
          go_roundw
          case rel => exact ⟨j + 1, _, _, by omega, by go_num, rfl, by omega, by omega, HQ, by unfold Hid; rw [List.length_set]; exact HL.out, hd.set (by omega) (by omega) _, fun j' hj' => by rw [nth_set _ _ _ _ hlen, if_neg (by omega)]; exact HZ.out j' hj', HS, cell_far hB (by simp), hR.other _ _ (by simp), hbel.setCell (p := ⟨w.heap.size + 1 + 1 + 1, i + j, none⟩) (by simp; omega) _⟩
          case measure => simp [intOf]; omega
        · have hje : j = ys.length := by omega
          subst hje
          have hlen : i + ys.length < ps.length := by rw [HL.out]; omega
          have hcp := hq.cell (i + ys.length) hlen
          have hcf := hq.free (i + ys.length)
          have HS := mul_next xs ys ps i ys.length c hlen rfl (HZ.out _ (Nat.le_refl _)) H.out
          have HQ := hq.set (i + ys.length) c
          have hi1 : (0 : Int) ≤ (i : Int) + (ys.length : Int) := by omega
          have hi2 : (i : Int) + (ys.length : Int) < (n : Int) := by omega
          have hi3 : ((i : Int) + (ys.length : Int)).toNat = i + ys.length := by omega
          go_wp2
          go_roundw
          case rel => exact ⟨i + 1, _, by omega, by go_num, HQ, by unfold Hid; rw [List.length_set]; exact HL.out, hd.set hc0 hc1 _, fun j' hj' => by rw [nth_set _ _ _ _ hlen, if_neg (by omega)]; exact HZ.out j' (by omega), HS, cell_far hB (by simp), hR.other _ _ (by simp), hbel.setCell (p := ⟨w.heap.size + 1 + 1 + 1, i + ys.length, none⟩) (by simp; omega) _⟩
          case measure => simp [intOf]; omega
    · have HE : Hid (val 4294967296 ps = val 4294967296 xs * val 4294967296 ys) := by
        have := H.out
        rwa [List.take_of_length_le (show xs.length ≤ i by omega)] at this
      have hsl := hq.sl n n HL.out (Nat.le_refl _) (by unfold maxLen; omega)
      have hls : ps.length ≤ 2000 := by rw [HL.out]; omega
      have hsz2 := hq.lt
      go_wp2_with fail
      refine (n_trimmed_rep _ _ _ hsl (by omega) hd).mono ?_
      rintro e w5 ⟨a, l, c', rfl, hr, _, hb5⟩
      rw [HE.out] at hr
      have hR5 := hR.later (by omega) hb5
      obtain ⟨f0, y0, e0⟩ := hR5.parts
      have q0 := hR5.cell (.slice a l c')
      have hbw := Below.next hbel hb5 hbel.size
      go_wp2
      refine bodyPost_ret (v := .agg #[.slice a l c']) (by simp [results, Tryz.results138, go_sem, q0]) rfl ⟨_, rfl, ⟨_, rfl, hr.box _ _ hR5.1⟩, hbw.setCell (p := ⟨w.heap.size + 1 + 1, 0, none⟩) (by simp; omega) _⟩

theorem n_mul_any (v u : Value) (x y : Int) (w : World) (hx : RepU w v x) (hy : RepU w u y) (bx : x < lim) (bY : y < lim) :
    Calls Tryz.prog 138 #[v, u] w fun e w' => ∃ v, e = .returned v ∧ RepU w' v (x * y) ∧ Below w.heap.size w w' := by
  obtain ⟨s, rfl, xs, ⟨ao, c1, rfl, k1, k2, hxr⟩, dx, tx, rfl⟩ := hx
  obtain ⟨s, rfl, ys, ⟨bo, c2, rfl, j1, j2, hyr⟩, dy, ty, rfl⟩ := hy
  have hlx := len_of_u dx tx bx
  have hly := len_of_u dy ty bY
  exact n_mul_raw ao bo c1 c2 xs ys w (by omega) (by omega) hxr hyr dx dy
end Go.Proofs.YtknnjibmacmniaaGreatDoor

/- natural: Subtract. -/
namespace Go.Proofs.YtknnjibmacmniaaGreatDoor
open Go.RowKit
set_option linter.unusedVariables false

/-- the row at the head of the block g, of which the first are the numbers zs -/
def PB (k : IntKind) (T : Nat) (w : World) (g : Nat) (zs : List Int) : Prop := ∃ cur : Array Value, w.heap[g]? = some (.cells cur T (0, 0)) ∧ zs.length ≤ cur.size ∧ cur.toList.take zs.length = zs.map (Value.int k)
theorem PB.lt {k : IntKind} {T : Nat} {w : World} {g : Nat} {zs : List Int} (h : PB k T w g zs) : g < w.heap.size := by
  obtain ⟨cur, h, _⟩ := h
  exact (Array.getElem?_eq_some_iff.1 h).1
theorem PB.cell {k : IntKind} {T : Nat} {w : World} {g : Nat} {zs : List Int} (h : PB k T w g zs) (j : Nat) (hj : j < zs.length) : w.cell? ⟨g, j, none⟩ = some (.int k (nth zs j)) := by
  obtain ⟨cur, h1, h2, h3⟩ := h
  rw [cell_of_row _ _ _ _ _ _ h1]
  have : (cur.toList.take zs.length)[j]? = some (.int k (nth zs j)) := by
    rw [h3, List.getElem?_map, List.getElem?_eq_getElem hj, nth_eq _ _ hj]; rfl
  rw [List.getElem?_take, if_pos hj] at this
  simpa using this
theorem PB.free {k : IntKind} {T : Nat} {w : World} {g : Nat} {zs : List Int} (h : PB k T w g zs) (j : Nat) : w.frozen? ⟨g, j, none⟩ = false := by
  obtain ⟨cur, h1, _⟩ := h
  simp only [World.frozen?, h1]; simp
theorem PB.set {k : IntKind} {T : Nat} {w : World} {g : Nat} {zs : List Int} (h : PB k T w g zs) (j : Nat) (x : Int) : PB k T (w.setCell ⟨g, j, none⟩ (.int k x)) g (zs.set j x) := by
  obtain ⟨cur, h1, h2, h3⟩ := h
  refine ⟨_, heap_setCell_same w g j cur T _ h1, by simpa using h2, ?_⟩
  rw [List.length_set, Array.toList_setIfInBounds, List.take_set, h3, List.map_set]
theorem PB.below {k : IntKind} {T : Nat} {w w' : World} {g : Nat} {zs : List Int} (h : PB k T w g zs) {B : Nat} (hB : g < B) (hb : Below B w w') : PB k T w' g zs := by
  obtain ⟨cur, h1, h2⟩ := h
  exact ⟨cur, (hb.block g hB).trans h1, h2⟩
theorem PB.sl {k : IntKind} {T : Nat} {w : World} {g : Nat} {zs : List Int} (h : PB k T w g zs) (n cap : Nat) (hn : zs.length = n) (hc : n ≤ cap) (hm : cap ≤ maxLen) : Sl k w (.slice (some ⟨g, 0, none⟩) n cap) zs := by
  subst hn
  exact ⟨_, cap, rfl, hc, hm, fun _ => ⟨g, 0, rfl, fun j hj => by rw [Nat.zero_add]; exact h.cell j hj⟩⟩
theorem PB.owned {k : IntKind} {T base : Nat} {w : World} {v : Value} {zs : List Int} (h : w.ownsRow base T 1 v zs.length (zs.map (Value.int k))) (h0 : 0 < zs.length) : ∃ g cap, v = .slice (some ⟨g, 0, none⟩) zs.length cap ∧ base ≤ g ∧ zs.length ≤ cap ∧ cap ≤ maxLen ∧ PB k T w g zs := by
  rcases h.2 with ⟨_, h1⟩ | ⟨g, cap, cur, e, hb, hg, hn, hm, hs, ht⟩
  · omega
  · exact ⟨g, cap, e, hb, hn, hm, cur, hg, by omega, by simpa using ht⟩

set_option maxRecDepth 100000 in
set_option maxHeartbeats 800000 in
theorem n_clone_any (ao : Option Addr) (c : Nat) (zs : List Int) (w : World) (hl : zs.length ≤ 1000) (hx : Rw .u32 w ao zs) :
    Calls Tryz.prog 195 #[.slice ao zs.length c] w fun e w' => ∃ v, e = .returned v ∧ w'.ownsRow w.heap.size 174 1 v zs.length (zs.map (Value.int .u32)) ∧ Below w.heap.size w w' := by
  obtain ⟨i0, hi, hz0, hz1, hz2⟩ := info_parts Tryz.infoU32
  have hW : ∀ o, Below w.heap.size w (w.alloc o) := fun o => (Below.refl _ _).alloc (Nat.le_refl _) o
  rcases Nat.eq_zero_or_pos zs.length with h0 | h0
  · have hz : zs = [] := List.length_eq_zero_iff.1 h0
    subst hz
    cases ao with
    | none =>
      have hq : ∀ w : World, (binOp .eql 54 (.slice none 0 c) (.slice none 0 0)).run Tryz.prog w = .ok (.bool true) w := fun w => by
        have := Lib.run_eql_slice_nil (P := Tryz.prog) w 54 174 none 0 c 0 0 Tryz.underlying54
        simpa using this
      go_enter Tryz.func195, Tryz.ntmps195
      go_wp2
      go_ret
      exact ⟨_, rfl, World.ownsRow_nil _ _ _ _, Below.refl _ _⟩
    | some ad =>
      have hq : ∀ w : World, (binOp .eql 54 (.slice (some ad) 0 c) (.slice none 0 0)).run Tryz.prog w = .ok (.bool false) w := fun w => by
        have := Lib.run_eql_slice_nil (P := Tryz.prog) w 54 174 (some ad) 0 c 0 0 Tryz.underlying54
        simpa using this
      go_enter Tryz.func195, Tryz.ntmps195
      go_wp2
      go_ret
      exact ⟨_, rfl, World.ownsRow_made w #[] 0 (Nat.le_refl _) (by simp) (by simp), hW _⟩
  · obtain ⟨b, off, rfl, hc⟩ := hx h0
    have hq : ∀ w : World, (binOp .eql 54 (.slice (some ⟨b, off, none⟩) zs.length c) (.slice none 0 0)).run Tryz.prog w = .ok (.bool false) w := fun w => by
      have := Lib.run_eql_slice_nil (P := Tryz.prog) w 54 174 (some ⟨b, off, none⟩) zs.length c 0 0 Tryz.underlying54
      simpa using this
    have hsrc := copy_src (hx.below (Nat.le_refl _) (hW (.cells #[] 174)))
    obtain ⟨Y, HY⟩ : ∃ Y, Hid (zs.map (Value.int .u32) = Y) := ⟨_, rfl⟩
    have hnews : ∀ j v, Y[j]? = some v → (w.alloc (.cells #[] 174)).cell? ((⟨b, off, none⟩ : Addr).add j) = some v := by
      obtain ⟨ad, e, h⟩ := hsrc (by simpa using h0)
      cases e
      rw [← HY.out]; exact h
    have hmade := World.ownsRow_made (base := w.heap.size) (e := 174) (size := 1) w #[] 0 (Nat.le_refl _) (by simp) (by simp)
    rw [HY.out]
    clear hsrc hc
    go_enter Tryz.func195, Tryz.ntmps195
    go_wp2_with (at_builtin; refine wpList_append_own _ rfl _ _ 54 rfl w.heap.size 174 i0 (.int .u32 0) 1 4 Tryz.underlying54 hi hz0 hz1 hz2 rfl (by decide) _ 0 [] rfl hmade ⟨b, off, none⟩ zs.length c Y rfl (by rw [← HY.out]; simp) hnews (by rw [← HY.out]; exact ints_oneCell _ _) (by unfold maxLen; omega) (by omega) (by simp) ?_)
    intro v' w1 hown' hgrow _
    have hb1 : Below w.heap.size w w1 := (hW _).grown hgrow (by simp) (fun k hk => by simp [Value.ownBlock] at hk; omega)
    clear hgrow
    go_wp2
    go_ret
    exact ⟨_, rfl, by simpa using hown', hb1⟩

/-- one word of a difference -/
theorem sub_step (xs ys ds : List Int) (k : Nat) (c d c' : Int) (hk : k < ds.length) (H : val 4294967296 (ds.take k) - c * 4294967296 ^ k = val 4294967296 (xs.take k) - val 4294967296 (ys.take k)) (hn : d - 4294967296 * c' = nth xs k - c - nth ys k) :
    val 4294967296 ((ds.set k d).take (k + 1)) - c' * 4294967296 ^ (k + 1) = val 4294967296 (xs.take (k + 1)) - val 4294967296 (ys.take (k + 1)) := by
  rw [val_take_succ, val_take_succ, val_take_succ, nth_set _ _ _ _ hk, if_pos rfl, List.take_set_of_le (Nat.le_refl _), Int.pow_succ]
  generalize (4294967296 : Int) ^ k = p at *
  grind
theorem sub_end (xs ys ds : List Int) (c : Int) (hl : ds.length = xs.length) (hy : ys.length ≤ xs.length) (hd : Dig 4294967296 ds) (h0 : 0 ≤ c) (h1 : c ≤ 1) (hle : val 4294967296 ys ≤ val 4294967296 xs)
    (H : val 4294967296 (ds.take xs.length) - c * 4294967296 ^ xs.length = val 4294967296 (xs.take xs.length) - val 4294967296 (ys.take xs.length)) : val 4294967296 ds = val 4294967296 xs - val 4294967296 ys := by
  rw [List.take_of_length_le (by omega), List.take_of_length_le (Nat.le_refl _), List.take_of_length_le hy] at H
  have h2 := val_lt (show (0 : Int) < 4294967296 by omega) hd
  rw [hl] at h2
  rcases (show c = 0 ∨ c = 1 by omega) with rfl | rfl
  · omega
  · omega

set_option maxRecDepth 100000 in
set_option maxHeartbeats 3200000 in
theorem n_sub_raw (ao bo : Option Addr) (c1 c2 : Nat) (xs ys : List Int) (w : World) (hl : xs.length ≤ 1000) (h0 : 0 < xs.length) (hly : ys.length ≤ xs.length) (hx : Rw .u32 w ao xs) (hy : Rw .u32 w bo ys) (dx : Dig 4294967296 xs) (dy : Dig 4294967296 ys) (hle : val 4294967296 ys ≤ val 4294967296 xs) :
    Calls Tryz.prog 140 #[.agg #[.slice ao xs.length c1], .agg #[.slice bo ys.length c2]] w fun e w' => ∃ v, e = .returned v ∧ RepU w' v (val 4294967296 xs - val 4294967296 ys) ∧ Below w.heap.size w w' := by
  have hW : ∀ o o' o'', Below w.heap.size w (((w.alloc o).alloc o').alloc o'') := fun o o' o'' => (((Below.refl _ _).alloc (Nat.le_refl _) o).alloc (by simp) o').alloc (by simp; omega) o''
  go_enter Tryz.func140, Tryz.ntmps140
  go_wp2_with fail
  refine (n_clone_any ao c1 xs _ hl (hx.below (Nat.le_refl _) (hW _ _ _))).mono ?_
  rintro e w0 ⟨v0, rfl, hown, hb3⟩
  obtain ⟨g, cap, rfl, hg, hcap1, hcap2, hq0⟩ := PB.owned hown h0
  simp only [World.size_alloc] at hg
  have hb3' : Below (w.heap.size + 1 + 1 + 1) (((w.alloc (.cells #[.slice ao xs.length c1] 56)).alloc (.cells #[.slice bo ys.length c2] 56)).alloc (.cells #[.slice none 0 0] 56)) w0 := by simpa using hb3
  have hb0 : Below w.heap.size w w0 := (hW _ _ _).trans (hb3'.mono (by omega))
  obtain ⟨hA0, hB0, hR0⟩ := boxes1 w (.slice ao xs.length c1) (.slice bo ys.length c2) 56 56 56 w0 hb3'
  clear hown hb3 hb3'
  go_wp2
  go_loopw [6, 14] (fun cv iv wr => ∃ (k : Nat) (ds : List Int) (c : Int), k ≤ xs.length ∧ iv = .int .i64 k ∧ cv = .int .u64 c ∧ 0 ≤ c ∧ c ≤ 1 ∧ PB .u32 174 wr g ds ∧ Hid (ds.length = xs.length) ∧ Dig 4294967296 ds ∧ Hid (∀ j, k ≤ j → nth ds j = nth xs j) ∧
      Hid (val 4294967296 (ds.take k) - c * 4294967296 ^ k = val 4294967296 (xs.take k) - val 4294967296 (ys.take k)) ∧ wr.cell? ⟨w.heap.size + 1, 0, none⟩ = some (.slice bo ys.length c2) ∧ Fz1 (w.heap.size + 1 + 1) wr ∧ Below w.heap.size w wr)
    (fun _ iv _ => xs.length - (intOf iv).toNat)
  case atStart => exact ⟨0, xs, 0, by omega, rfl, rfl, by omega, by omega, hq0, rfl, dx, fun j _ => rfl, by simp [Hid, val], hB0, hR0, hb0⟩
  case round =>
    clear hq0 hA0 hB0 hR0 hb0
    obtain ⟨k, ds, c, hk, rfl, rfl, hc0, hc1, hq, HL, hd, HN, H, hB, hR, hbel⟩ := hrel
    by_cases hlt : k < xs.length
    · have hlen : k < ds.length := by rw [HL.out]; omega
      have bx := dx.nth (by omega) k
      have bY := dy.nth (by omega) k
      have hcs := hq.cell k hlen
      rw [HN.out k (Nat.le_refl _)] at hcs
      have hcf := hq.free k
      have hy0 : ys.length ≤ k → nth ys k = 0 := nth_ge ys k
      obtain ⟨x, HX⟩ : ∃ x, Hid (nth xs k = x) := ⟨_, rfl⟩
      obtain ⟨y, HY⟩ : ∃ y, Hid (nth ys k = y) := ⟨_, rfl⟩
      rw [HX.out] at hcs bx
      rw [HY.out] at bY hy0
      have hgb : ¬ (w.heap.size + 1 = g) := by omega
      rcases (show (k < ys.length ∧ x < c + y) ∨ (k < ys.length ∧ ¬ x < c + y) ∨ (ys.length ≤ k ∧ x < c) ∨ (ys.length ≤ k ∧ ¬ x < c) by omega) with ⟨hB1, hC⟩ | ⟨hB1, hC⟩ | ⟨hB1, hC⟩ | ⟨hB1, hC⟩
      · obtain ⟨b', off', rfl, hc'⟩ := hy (by omega)
        have hck' : wr.cell? ⟨b', off' + k, none⟩ = some (.int .u32 y) := by rw [← HY.out]; exact cell_later hbel (hc' k hB1)
        clear hc' hy hy0
        go_wp2
        go_roundw
        case rel => exact ⟨k + 1, _, 1, by omega, by go_num, rfl, by omega, by omega, hq.set k _, by unfold Hid; rw [List.length_set]; exact HL.out, hd.set (by omega) (by omega) k, fun j hj => by rw [nth_set _ _ _ _ hlen, if_neg (by omega)]; exact HN.out j (by omega), sub_step xs ys ds k c _ 1 hlen H.out (by rw [HX.out, HY.out]; omega), cell_far hB (by simp; omega), hR.other _ _ (by simp; omega), hbel.setCell (p := ⟨g, k, none⟩) (by simp; omega) _⟩
        case measure => simp [intOf]; omega
      · obtain ⟨b', off', rfl, hc'⟩ := hy (by omega)
        have hck' : wr.cell? ⟨b', off' + k, none⟩ = some (.int .u32 y) := by rw [← HY.out]; exact cell_later hbel (hc' k hB1)
        clear hc' hy hy0
        go_wp2
        go_roundw
        case rel => exact ⟨k + 1, _, 0, by omega, by go_num, rfl, by omega, by omega, hq.set k _, by unfold Hid; rw [List.length_set]; exact HL.out, hd.set (by omega) (by omega) k, fun j hj => by rw [nth_set _ _ _ _ hlen, if_neg (by omega)]; exact HN.out j (by omega), sub_step xs ys ds k c _ 0 hlen H.out (by rw [HX.out, HY.out]; omega), cell_far hB (by simp; omega), hR.other _ _ (by simp; omega), hbel.setCell (p := ⟨g, k, none⟩) (by simp; omega) _⟩
        case measure => simp [intOf]; omega
      · have HY0 : Hid (y = 0) := hy0 hB1
        clear hy0
        go_wp2
        go_roundw
        case rel => exact ⟨k + 1, _, 1, by omega, by go_num, rfl, by omega, by omega, hq.set k _, by unfold Hid; rw [List.length_set]; exact HL.out, hd.set (by omega) (by omega) k, fun j hj => by rw [nth_set _ _ _ _ hlen, if_neg (by omega)]; exact HN.out j (by omega), sub_step xs ys ds k c _ 1 hlen H.out (by rw [HX.out, HY.out, HY0.out]; omega), cell_far hB (by simp; omega), hR.other _ _ (by simp; omega), hbel.setCell (p := ⟨g, k, none⟩) (by simp; omega) _⟩
        case measure => simp [intOf]; omega
      · have HY0 : Hid (y = 0) := hy0 hB1
        clear hy0
        go_wp2
        go_roundw
        case rel => exact ⟨k + 1, _, 0, by omega, by go_num, rfl, by omega, by omega, hq.set k _, by unfold Hid; rw [List.length_set]; exact HL.out, hd.set (by omega) (by omega) k, fun j hj => by rw [nth_set _ _ _ _ hlen, if_neg (by omega)]; exact HN.out j (by omega), sub_step xs ys ds k c _ 0 hlen H.out (by rw [HX.out, HY.out, HY0.out]; omega), cell_far hB (by simp; omega), hR.other _ _ (by simp; omega), hbel.setCell (p := ⟨g, k, none⟩) (by simp; omega) _⟩
        case measure => simp [intOf]; omega
    · have hke : k = xs.length := by omega
      subst hke
      have HE := sub_end xs ys ds c HL.out hly hd hc0 hc1 hle H.out
      have hsl := hq.sl xs.length cap HL.out hcap1 hcap2
      have hls : ds.length ≤ 1000 := by rw [HL.out]; omega
      have hsz2 := hq.lt
      go_wp2_with fail
      refine (n_trimmed_rep _ _ _ hsl (by omega) hd).mono ?_
      rintro e w5 ⟨a, l, c', rfl, hr, _, hb5⟩
      rw [HE] at hr
      have hR5 := hR.later (by omega) hb5
      obtain ⟨f0, y0, e0⟩ := hR5.parts
      have q0 := hR5.cell (.slice a l c')
      have hbw := Below.next hbel hb5 hbel.size
      go_wp2
      refine bodyPost_ret (v := .agg #[.slice a l c']) (by simp [results, Tryz.results140, go_sem, q0]) rfl ⟨_, rfl, ⟨_, rfl, hr.box _ _ hR5.1⟩, hbw.setCell (p := ⟨w.heap.size + 1 + 1, 0, none⟩) (by simp; omega) _⟩

set_option maxRecDepth 100000 in
set_option maxHeartbeats 1600000 in
theorem n_sub_zero (ao bo : Option Addr) (c1 c2 : Nat) (w : World) :
    Calls Tryz.prog 140 #[.agg #[.slice ao 0 c1], .agg #[.slice bo 0 c2]] w fun e w' => ∃ v, e = .returned v ∧ RepU w' v 0 ∧ Below w.heap.size w w' := by
  have hW : ∀ o o' o'', Below w.heap.size w (((w.alloc o).alloc o').alloc o'') := fun o o' o'' => (((Below.refl _ _).alloc (Nat.le_refl _) o).alloc (by simp) o').alloc (by simp; omega) o''
  go_enter Tryz.func140, Tryz.ntmps140
  go_wp2_with fail
  refine (n_clone_any ao c1 [] _ (by simp) (Rw.nil _ _ _)).mono ?_
  rintro e w0 ⟨v0, rfl, hown, hb3⟩
  have hb3' : Below (w.heap.size + 1 + 1 + 1) (((w.alloc (.cells #[.slice ao 0 c1] 56)).alloc (.cells #[.slice bo 0 c2] 56)).alloc (.cells #[.slice none 0 0] 56)) w0 := by simpa using hb3
  have hb0 : Below w.heap.size w w0 := (hW _ _ _).trans (hb3'.mono (by omega))
  obtain ⟨hA0, hB0, hR0⟩ := boxes1 w (.slice ao 0 c1) (.slice bo 0 c2) 56 56 56 w0 hb3'
  have hsl := Sl.owned (zs := []) hown
  have hs3 : w.heap.size + 1 + 1 < w0.heap.size := by have := hb3'.size; simp at this; omega
  obtain ⟨a0, cp0, rfl, _, _, _⟩ := id hsl
  clear hown hb3 hb3'
  go_wp2
  refine wp_loop_rounds 1 ?_
  rw [rounds_succ]
  go_wp2_with fail
  refine (n_trimmed_rep _ [] _ hsl (by simp) Dig.nil).mono ?_
  rintro e w5 ⟨a, l, c', rfl, hr, _, hb5⟩
  have hR5 := hR0.later hs3 hb5
  obtain ⟨f0, y0, e0⟩ := hR5.parts
  have q0 := hR5.cell (.slice a l c')
  have hbw := Below.next hb0 hb5 hb0.size
  go_wp2
  refine bodyPost_ret (v := .agg #[.slice a l c']) (by simp [results, Tryz.results140, go_sem, q0]) rfl ⟨_, rfl, ⟨_, rfl, hr.box _ _ hR5.1⟩, hbw.setCell (p := ⟨w.heap.size + 1 + 1, 0, none⟩) (by simp; omega) _⟩

theorem n_sub_any (v u : Value) (x y : Int) (w : World) (hx : RepU w v x) (hy : RepU w u y) (bx : x < lim) (hle : y ≤ x) :
    Calls Tryz.prog 140 #[v, u] w fun e w' => ∃ v, e = .returned v ∧ RepU w' v (x - y) ∧ Below w.heap.size w w' := by
  obtain ⟨s, rfl, xs, ⟨ao, c1, rfl, k1, k2, hxr⟩, dx, tx, rfl⟩ := hx
  obtain ⟨s, rfl, ys, ⟨bo, c2, rfl, j1, j2, hyr⟩, dy, ty, rfl⟩ := hy
  have hlx := len_of_u dx tx bx
  have hly : ys.length ≤ xs.length := by
    rcases Nat.lt_or_ge xs.length ys.length with h | h
    · have := val_lt_of_length (by omega) dx dy ty h; omega
    · exact h
  rcases Nat.eq_zero_or_pos xs.length with h0 | h0
  · have e1 := List.length_eq_zero_iff.1 h0
    have e2 : ys = [] := List.length_eq_zero_iff.1 (by omega)
    subst e1; subst e2
    exact n_sub_zero ao bo c1 c2 w
  · exact n_sub_raw ao bo c1 c2 xs ys w (by omega) h0 hly hxr hyr dx dy hle
end Go.Proofs.YtknnjibmacmniaaGreatDoor

/- natural: divideByWord. -/
namespace Go.Proofs.YtknnjibmacmniaaGreatDoor
open Go.RowKit
set_option linter.unusedVariables false

/-- two halves of a word, joined -/
theorem or_join (i : Nat) (a b : Nat) (hb : b < 2 ^ i) (h1 : 2 ^ i * a + b < 18446744073709551616) : bits BinOp.or IntKind.u64 ((2 ^ i * a : Nat) : Int) (b : Int) = ((2 ^ i * a + b : Nat) : Int) := by
  rw [bits_or_u64_nat _ _ (by omega) (by omega), ← Nat.two_pow_add_eq_or_of_lt hb]
theorem or_32 (r x : Int) (h0 : 0 ≤ r) (h1 : r < 4294967296) (h2 : 0 ≤ x) (h3 : x < 4294967296) : bits BinOp.or IntKind.u64 (r * 4294967296) x = r * 4294967296 + x := by
  have h := or_join 32 r.toNat x.toNat (by omega) (by omega)
  have e1 : ((2 ^ 32 * r.toNat : Nat) : Int) = r * 4294967296 := by omega
  have e2 : ((2 ^ 32 * r.toNat + x.toNat : Nat) : Int) = r * 4294967296 + x := by omega
  have e3 : ((x.toNat : Nat) : Int) = x := by omega
  rw [e1, e2, e3] at h
  exact h
theorem wrap_u64 {n : Int} (h0 : 0 ≤ n) (h1 : n < 18446744073709551616) : IntKind.u64.wrap n = n := by
  simp [IntKind.wrap, IntKind.bits, IntKind.signed]; omega
/-- a step of the division by one word -/
theorem divw_step {t D : Int} (h0 : 0 ≤ t) (hD : 0 < D) (h1 : t < D * 4294967296) (hD1 : D < 4294967296) : IntKind.u64.wrap (t.tdiv D) % 4294967296 = t / D ∧ t.tmod D = t % D ∧ 0 ≤ t / D ∧ t / D < 4294967296 ∧ 0 ≤ t % D ∧ t % D < D := by
  have a1 := Int.ediv_nonneg h0 (Int.le_of_lt hD)
  have a2 : t / D < 4294967296 := Int.ediv_lt_of_lt_mul hD (by rw [Int.mul_comm]; exact h1)
  rw [Int.tdiv_eq_ediv_of_nonneg h0, Int.tmod_eq_emod_of_nonneg h0, wrap_u64 a1 (by omega), Int.emod_eq_of_lt a1 a2]
  exact ⟨rfl, rfl, a1, a2, Int.emod_nonneg _ (by omega), Int.emod_lt_of_pos _ hD⟩
theorem divw_val (xs qs : List Int) (k : Nat) (D r q r' : Int) (hk : k < qs.length) (H : val 4294967296 (xs.drop (k + 1)) = val 4294967296 (qs.drop (k + 1)) * D + r) (hc : r' + q * D = r * 4294967296 + nth xs k) :
    val 4294967296 (xs.drop k) = val 4294967296 ((qs.set k q).drop k) * D + r' := by
  rw [val_drop _ xs k, val_drop _ (qs.set k q) k, H, nth_set _ _ _ _ hk, if_pos rfl, List.drop_set, if_pos (by omega)]
  grind
theorem divw_end {X D q r : Int} (h : X = q * D + r) (h0 : 0 ≤ r) (h1 : r < D) : X / D = q ∧ X % D = r := by
  subst h
  constructor
  · rw [Int.add_comm, Int.add_mul_ediv_right _ _ (by omega), Int.ediv_eq_zero_of_lt h0 h1]; omega
  · rw [Int.add_comm, Int.add_mul_emod_self_right, Int.emod_eq_of_lt h0 h1]

set_option maxRecDepth 100000 in
set_option maxHeartbeats 3200000 in
theorem n_divw_fr_raw (ao : Option Addr) (c1 : Nat) (xs : List Int) (D : Int) (w : World) (hl : xs.length ≤ 1000) (hx : Rw .u32 w ao xs) (dx : Dig 4294967296 xs) (hD : 0 < D) (hD1 : D < 4294967296) :
    Calls Tryz.prog 135 #[.agg #[.slice ao xs.length c1], .int .u32 D] w fun e w' => ∃ s, e = .returned (.tuple #[.agg #[s], .int .u32 (val 4294967296 xs % D)]) ∧ Rep .u32 4294967296 w' s (val 4294967296 xs / D) ∧ Fr w.heap.size s ∧ Below w.heap.size w w' := by
  obtain ⟨i0, hi, hz0, hz1, hz2⟩ := info_parts Tryz.infoU32
  have hW : ∀ o o', Below w.heap.size w ((w.alloc o).alloc o') := fun o o' => ((Below.refl _ _).alloc (Nat.le_refl _) o).alloc (by simp) o'
  go_enter Tryz.func135, Tryz.ntmps135
  go_wp2_with (at_make; refine wpList_make_full _ rfl _ _ 54 rfl w.heap.size 174 i0 (.int .u32 0) 1 Tryz.underlying54 hi hz0 hz1 .i64 .i64 _ _ xs.length rfl rfl rfl rfl (by rw [hz2]; omega) (by unfold maxLen; omega) (by simp; omega) ?_)
  intro w0 hown0 hgrow0
  have hq0 := Blk.made hown0
  have hb2 : Below (w.heap.size + 1 + 1) ((w.alloc (.cells #[.slice ao xs.length c1] 56)).alloc (.cells #[.slice none 0 0] 56)) w0 := (Below.refl _ _).grown hgrow0 (by simp) (by simp)
  have hb0 : Below w.heap.size w w0 := (hW _ _).trans (hb2.mono (by omega))
  have hA0 : w0.cell? ⟨w.heap.size, 0, none⟩ = some (.slice ao xs.length c1) := by
    rw [hb2.cell (p := ⟨w.heap.size, 0, none⟩) (by simp; omega)]
    exact cell_later ((Below.refl _ _).alloc (Nat.le_refl _) _) (by rw [cell_of_row _ _ _ _ _ _ (heap_alloc_new w _)]; rfl)
  have hR0 : Fz1 (w.heap.size + 1) w0 := by
    have h := Fz1.new (w.alloc (.cells #[.slice ao xs.length c1] 56)) (.slice none 0 0) 56 (by simp)
    simp only [World.size_alloc] at h
    exact fz1_mid h hb2 (by omega)
  clear hown0 hgrow0 hb2
  go_wp2
  go_loopw [7, 8] (fun lv iv wr => ∃ (k : Nat) (qs : List Int) (r : Int), k ≤ xs.length ∧ iv = .int .i64 ((k : Int) - 1) ∧ lv = .int .u64 r ∧ 0 ≤ r ∧ r < D ∧ Blk .u32 174 wr (w.heap.size + 1 + 1) qs ∧ Hid (qs.length = xs.length) ∧ Dig 4294967296 qs ∧ Hid (∀ j, j < k → nth qs j = 0) ∧
      Hid (val 4294967296 (xs.drop k) = val 4294967296 (qs.drop k) * D + r) ∧ wr.cell? ⟨w.heap.size, 0, none⟩ = some (.slice ao xs.length c1) ∧ Fz1 (w.heap.size + 1) wr ∧ Below w.heap.size w wr)
    (fun _ iv _ => (intOf iv + 1).toNat)
  case atStart =>
    refine ⟨xs.length, List.replicate xs.length 0, 0, Nat.le_refl _, rfl, rfl, by omega, hD, hq0, by simp [Hid], Dig.replicate (by omega) _, fun j _ => nth_replicate _ _, ?_, hA0, hR0, hb0⟩
    unfold Hid
    rw [List.drop_of_length_le (by simp), List.drop_of_length_le (by simp)]; simp [val]
  case round =>
    clear hq0 hA0 hR0 hb0
    obtain ⟨k, qs, r, hk, rfl, rfl, hr0, hr1, hq, HL, hd, HZ, H, hA, hR, hbel⟩ := hrel
    rcases k with _ | k
    · have HE := divw_end (by have := H.out; simpa using this) hr0 hr1
      have hsl := hq.sl xs.length xs.length HL.out (Nat.le_refl _) (by unfold maxLen; omega)
      have hls : qs.length ≤ 1000 := by rw [HL.out]; omega
      have hsz2 := hq.lt
      go_wp2_with fail
      refine (n_trimmed_rep _ _ _ hsl (by omega) hd).mono ?_
      rintro e w5 ⟨a, l, c', rfl, hr, hob, hb5⟩
      have hR5 := hR.later (by omega) hb5
      obtain ⟨f0, y0, e0⟩ := hR5.parts
      have q0 := hR5.cell (.slice a l c')
      have hbw := Below.next hbel hb5 hbel.size
      have HFR : Hid (Fr w.heap.size (.slice a l c')) := fun g hg => by rw [hob] at hg; simp [Value.ownBlock] at hg; omega
      clear hob
      rw [← HE.1] at hr
      go_wp2
      refine bodyPost_ret (v := .tuple #[.agg #[.slice a l c'], .int .u32 r]) (by simp [results, Tryz.results135, go_sem, q0]) rfl ⟨_, by rw [HE.2], hr.box _ _ hR5.1, HFR.out, hbw.setCell (p := ⟨w.heap.size + 1, 0, none⟩) (by simp) _⟩
    · obtain ⟨b, off, rfl, hc⟩ := hx (by omega)
      have hlen : k < qs.length := by rw [HL.out]; omega
      have bx := dx.nth (by omega) k
      have hck := cell_later hbel (hc k (by omega))
      have hcs := hq.cell k hlen
      have hcf := hq.free k
      obtain ⟨x, HX⟩ : ∃ x, Hid (nth xs k = x) := ⟨_, rfl⟩
      rw [HX.out] at hck bx
      rw [show (((k + 1 : Nat) : Int) - 1) = (k : Int) by omega]
      clear hc hx
      have hor := or_32 r x hr0 (by omega) bx.1 bx.2
      have hst := divw_step (t := r * 4294967296 + x) (by omega) hD (by
        have : (r + 1) * 4294967296 ≤ D * 4294967296 := Int.mul_le_mul_of_nonneg_right (by omega) (by omega)
        omega) hD1
      obtain ⟨s1, s2, s3, s4, s5, s6⟩ := hst
      have HV := divw_val xs qs k D r _ _ hlen H.out (by rw [HX.out]; rw [Int.mul_comm]; exact Int.emod_add_mul_ediv (r * 4294967296 + x) D)
      have HS1 : Hid (IntKind.u64.wrap ((r * 4294967296 + x).tdiv D) % 4294967296 = (r * 4294967296 + x) / D) := s1
      have HS2 : Hid ((r * 4294967296 + x).tmod D = (r * 4294967296 + x) % D) := s2
      clear s1 s2
      go_wp2
      go_roundw
      case rel => exact ⟨k, _, _, by omega, rfl, rfl, s5, s6, hq.set k _, by unfold Hid; rw [List.length_set]; exact HL.out, hd.set s3 s4 k, fun j hj => by rw [nth_set _ _ _ _ hlen, if_neg (by omega)]; exact HZ.out j (by omega), HV, cell_far hA (by simp; omega), hR.other _ _ (by simp), hbel.setCell (p := ⟨w.heap.size + 1 + 1, k, none⟩) (by simp; omega) _⟩
      case measure => simp [intOf]

theorem n_divw_raw (ao : Option Addr) (c1 : Nat) (xs : List Int) (D : Int) (w : World) (hl : xs.length ≤ 1000) (hx : Rw .u32 w ao xs) (dx : Dig 4294967296 xs) (hD : 0 < D) (hD1 : D < 4294967296) :
    Calls Tryz.prog 135 #[.agg #[.slice ao xs.length c1], .int .u32 D] w fun e w' => ∃ v, e = .returned (.tuple #[v, .int .u32 (val 4294967296 xs % D)]) ∧ RepU w' v (val 4294967296 xs / D) ∧ Below w.heap.size w w' := by
  refine (n_divw_fr_raw ao c1 xs D w hl hx dx hD hD1).mono ?_
  rintro e w' ⟨s, rfl, hs, _, hb⟩
  exact ⟨_, rfl, ⟨s, rfl, hs⟩, hb⟩
theorem n_divw_fr (v : Value) (x D : Int) (w : World) (hx : RepU w v x) (bx : x < lim) (hD : 0 < D) (hD1 : D < 4294967296) :
    Calls Tryz.prog 135 #[v, .int .u32 D] w fun e w' => ∃ a l c, e = .returned (.tuple #[.agg #[.slice a l c], .int .u32 (x % D)]) ∧ Rep .u32 4294967296 w' (.slice a l c) (x / D) ∧ Fr w.heap.size (.slice a l c) ∧ Below w.heap.size w w' := by
  obtain ⟨s, rfl, xs, ⟨ao, c1, rfl, k1, k2, hxr⟩, dx, tx, rfl⟩ := hx
  have hlx := len_of_u dx tx bx
  refine (n_divw_fr_raw ao c1 xs D w (by omega) hxr dx hD hD1).mono ?_
  rintro e w' ⟨s, rfl, hs, hf, hb⟩
  obtain ⟨a, l, c, rfl⟩ := hs.shape
  exact ⟨a, l, c, rfl, hs, hf, hb⟩
theorem n_divw_any (v : Value) (x D : Int) (w : World) (hx : RepU w v x) (bx : x < lim) (hD : 0 < D) (hD1 : D < 4294967296) :
    Calls Tryz.prog 135 #[v, .int .u32 D] w fun e w' => ∃ v, e = .returned (.tuple #[v, .int .u32 (x % D)]) ∧ RepU w' v (x / D) ∧ Below w.heap.size w w' := by
  obtain ⟨s, rfl, xs, ⟨ao, c1, rfl, k1, k2, hxr⟩, dx, tx, rfl⟩ := hx
  have hlx := len_of_u dx tx bx
  exact n_divw_raw ao c1 xs D w (by omega) hxr dx hD hD1
end Go.Proofs.YtknnjibmacmniaaGreatDoor
