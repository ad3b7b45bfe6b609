/- What the program's slices hold, said of cells. -/
import Derived.Test.YtknnjibmacmniaaGreatDoorProg
import Derived.Test.YtknnjibmacmniaaGreatDoorC01
import Derived.WalkKit
import Derived.WalkSpells
import Derived.WalkLawsBesides
import Derived.BigQuiet
import Derived.WalkSmall
import Derived.BigRegion
import Derived.Deep.QuietTactic
namespace Go.Proofs.YtknnjibmacmniaaGreatDoor
open Go.RowKit
set_option linter.unusedVariables false

/-- from the address ao on lie the numbers zs -/
def Rw (k : IntKind) (w : World) (ao : Option Addr) (zs : List Int) : Prop :=
  0 < zs.length → ∃ b off, ao = some ⟨b, off, none⟩ ∧ ∀ j, j < zs.length → w.cell? ⟨b, off + j, none⟩ = some (.int k (nth zs j))

theorem Rw.below {k : IntKind} {w w' : World} {ao : Option Addr} {zs : List Int} (h : Rw k w ao zs) {B : Nat} (hB : w.heap.size ≤ B) (hb : Below B w w') : Rw k w' ao zs := by
  intro h0
  obtain ⟨b, off, e, hc⟩ := h h0
  exact ⟨b, off, e, fun j hj => cell_later (hb.mono hB) (hc j hj)⟩
theorem Rw.take {k : IntKind} {w : World} {ao : Option Addr} {zs : List Int} (h : Rw k w ao zs) (n : Nat) : Rw k w ao (zs.take n) := by
  intro h0
  rw [List.length_take] at h0
  obtain ⟨b, off, e, hc⟩ := h (by omega)
  refine ⟨b, off, e, fun j hj => ?_⟩
  rw [List.length_take] at hj
  rw [nth_take _ _ _ (by omega)]
  exact hc j (by omega)
theorem Rw.nil (k : IntKind) (w : World) (ao : Option Addr) : Rw k w ao [] := fun h => by simp at h

/-- the slice value v holds the numbers zs -/
def Sl (k : IntKind) (w : World) (v : Value) (zs : List Int) : Prop :=
  ∃ ao cap, v = .slice ao zs.length cap ∧ zs.length ≤ cap ∧ cap ≤ maxLen ∧ Rw k w ao zs
theorem Sl.below {k : IntKind} {w w' : World} {v : Value} {zs : List Int} (h : Sl k w v zs) {B : Nat} (hB : w.heap.size ≤ B) (hb : Below B w w') : Sl k w' v zs := by
  obtain ⟨ao, cap, e, h1, h2, h3⟩ := h
  exact ⟨ao, cap, e, h1, h2, h3.below hB hb⟩
theorem Sl.nil (k : IntKind) (w : World) : Sl k w (.slice none 0 0) [] := ⟨none, 0, rfl, by simp, by simp, Rw.nil _ _ _⟩

/-- a row of the call's own, as append and make leave it, read -/
theorem Sl.owned {k : IntKind} {w : World} {base : Nat} {e : TypeId} {v : Value} {n : Nat} {zs : List Int} (h : w.ownsRow base e 1 v n (zs.map (Value.int k))) : Sl k w v zs := by
  obtain ⟨h1, h2⟩ := h
  simp only [List.length_map, Nat.mul_one] at h1
  subst h1
  rcases h2 with ⟨rfl, h0⟩ | ⟨g, cap, cur, rfl, hb, hg, hn, hm, hs, ht⟩
  · rw [List.length_eq_zero_iff.1 h0]; exact Sl.nil _ _
  · refine ⟨some ⟨g, 0, none⟩, cap, rfl, hn, hm, fun _ => ⟨g, 0, rfl, fun j hj => ?_⟩⟩
    simp only [World.cell?, hg, Nat.zero_add, Option.isSome_none, Bool.false_eq_true, if_false]
    have : (cur.toList.take (zs.length * 1))[j]? = some (.int k (nth zs j)) := by
      rw [ht, List.getElem?_map, List.getElem?_eq_getElem hj, nth_eq _ _ hj]; rfl
    rw [List.getElem?_take, if_pos (by omega)] at this
    simpa using this

/-- the value v is the number n, its digits in base b the lowest first, none needless -/
def Rep (k : IntKind) (b : Int) (w : World) (v : Value) (n : Int) : Prop := ∃ zs, Sl k w v zs ∧ Dig b zs ∧ Top zs ∧ val b zs = n
theorem Rep.below {k : IntKind} {b : Int} {w w' : World} {v : Value} {n : Int} (h : Rep k b w v n) {B : Nat} (hB : w.heap.size ≤ B) (hb : Below B w w') : Rep k b w' v n := by
  obtain ⟨zs, h1, h2, h3, h4⟩ := h
  exact ⟨zs, h1.below hB hb, h2, h3, h4⟩
theorem Rep.nonneg {k : IntKind} {b : Int} {w : World} {v : Value} {n : Int} (h : Rep k b w v n) (hb : 0 ≤ b) : 0 ≤ n := by
  obtain ⟨zs, h1, h2, h3, rfl⟩ := h
  exact val_nonneg hb h2
theorem Rep.shape {k : IntKind} {b : Int} {w : World} {v : Value} {n : Int} (h : Rep k b w v n) : ∃ ao l c, v = .slice ao l c := by
  obtain ⟨zs, ⟨ao, cap, rfl, _⟩, _⟩ := h
  exact ⟨_, _, _, rfl⟩
theorem Rep.zero (k : IntKind) (b : Int) (w : World) : Rep k b w (.slice none 0 0) 0 := ⟨[], Sl.nil _ _, Dig.nil, fun n h => by simp at h, rfl⟩

theorem Below.drewN {B : Nat} {a w : World} (h : Below B a w) (n : Nat) : Below B a (w.drewN n) := below_drewN h n
/-- behind 'append(v, d)' on a row of the call's own -/
theorem own_step {B : Nat} {w wr w1 : World} {o : Obj} {v v' : Value} {T n : Nat} {k : IntKind} {cs : List Int} {d : Int} (hbel : Below B w wr) (hB : B ≤ wr.heap.size)
    (hown : wr.ownsRow B T 1 v n (cs.map (Value.int k))) (hown' : w1.ownsRow B T 1 v' (n + 1) (cs.map (Value.int k) ++ [.int k d])) (hgrow : (wr.alloc o).grownBy w1 v.ownBlock) :
    w1.ownsRow B T 1 v' (n + 1) ((cs ++ [d]).map (Value.int k)) ∧ Below B w w1 :=
  ⟨by simpa using hown', (hbel.alloc hB o).grown hgrow (by simp; omega) (fun k hk => (hown.lt k hk).1)⟩

theorem bcell {W w1 : World} (hb : Below W.heap.size W w1) : (∀ b o, b < W.heap.size → w1.cell? ⟨b, o, none⟩ = W.cell? ⟨b, o, none⟩) ∧ (∀ b o, b < W.heap.size → w1.frozen? ⟨b, o, none⟩ = W.frozen? ⟨b, o, none⟩) :=
  ⟨fun b o h => hb.cell (p := ⟨b, o, none⟩) h, fun b o h => hb.frozen (p := ⟨b, o, none⟩) h⟩
theorem Below.next {B : Nat} {a b c : World} (h : Below B a b) (k : Below b.heap.size b c) (hB : B ≤ b.heap.size) : Below B a c := h.trans (k.mono hB)
theorem ret_int {k : IntKind} {a b : Int} (h : a = b) : Ending.returned (.int k a) = .returned (.int k b) := by rw [h]
theorem ret_bool {a b : Bool} (h : a = b) : Ending.returned (.bool a) = .returned (.bool b) := by rw [h]

theorem lt_of_cell {w : World} {a : Addr} {v : Value} (h : w.cell? a = some v) : a.block < w.heap.size := World.block_lt_of_cell? _ _ h

/-- the value lies in no block below B -/
def Fr (B : Nat) (v : Value) : Prop := ∀ g, v.ownBlock = some g → B ≤ g
theorem Fr.mono {B B' : Nat} {v : Value} (h : Fr B v) (hB : B' ≤ B) : Fr B' v := fun g hg => Nat.le_trans hB (h g hg)
theorem Fr.nil (B : Nat) : Fr B (.slice none 0 0) := fun g hg => by simp [Value.ownBlock] at hg

theorem Rw.setCell {k : IntKind} {w : World} {ao : Option Addr} {zs : List Int} (h : Rw k w ao zs) (a : Addr) (x : Value) (hne : ∀ p, ao = some p → p.block ≠ a.block) : Rw k (w.setCell a x) ao zs := by
  intro h0
  obtain ⟨b, off, rfl, hc⟩ := h h0
  refine ⟨b, off, rfl, fun j hj => ?_⟩
  rw [World.cell?_of_block (w := w) (a := ⟨b, off + j, none⟩) (Below.heap_setCell w a x b (hne _ rfl))]
  exact hc j hj
theorem Sl.setCell {k : IntKind} {w : World} {v : Value} {zs : List Int} (h : Sl k w v zs) (a : Addr) (x : Value) (hne : v.ownBlock ≠ some a.block) : Sl k (w.setCell a x) v zs := by
  obtain ⟨ao, cap, rfl, h1, h2, h3⟩ := h
  exact ⟨ao, cap, rfl, h1, h2, h3.setCell a x (fun p hp => by subst hp; simpa [Value.ownBlock] using hne)⟩
theorem Rep.setCell {k : IntKind} {b : Int} {w : World} {v : Value} {n : Int} (h : Rep k b w v n) (a : Addr) (x : Value) (hne : v.ownBlock ≠ some a.block) : Rep k b (w.setCell a x) v n := by
  obtain ⟨zs, h1, h2⟩ := h
  exact ⟨zs, h1.setCell a x hne, h2⟩

/-- the block g holds the numbers zs and nothing else -/
def Blk (k : IntKind) (T : Nat) (w : World) (g : Nat) (zs : List Int) : Prop := w.heap[g]? = some (.cells (zs.map (Value.int k)).toArray T (0, 0))
theorem Blk.lt {k : IntKind} {T : Nat} {w : World} {g : Nat} {zs : List Int} (h : Blk k T w g zs) : g < w.heap.size := (Array.getElem?_eq_some_iff.1 h).1
theorem Blk.cell {k : IntKind} {T : Nat} {w : World} {g : Nat} {zs : List Int} (h : Blk k T w g zs) (j : Nat) (hj : j < zs.length) : w.cell? ⟨g, j, none⟩ = some (.int k (nth zs j)) := by
  unfold Blk at h
  simp only [World.cell?, h, Option.isSome_none, Bool.false_eq_true, if_false]
  simp [hj, nth_eq]
theorem Blk.free {k : IntKind} {T : Nat} {w : World} {g : Nat} {zs : List Int} (h : Blk k T w g zs) (j : Nat) : w.frozen? ⟨g, j, none⟩ = false := by
  unfold Blk at h
  simp [World.frozen?, h]
theorem Blk.set {k : IntKind} {T : Nat} {w : World} {g : Nat} {zs : List Int} (h : Blk k T w g zs) (j : Nat) (x : Int) : Blk k T (w.setCell ⟨g, j, none⟩ (.int k x)) g (zs.set j x) := by
  have hl := h.lt
  unfold Blk at h ⊢
  simp only [World.setCell, Array.getElem?_modify, h, Option.map_some, if_true, Option.isSome_none, Bool.false_eq_true, if_false]
  simp [List.map_set]
theorem Blk.other {k : IntKind} {T : Nat} {w : World} {g : Nat} {zs : List Int} (h : Blk k T w g zs) (a : Addr) (x : Value) (hne : g ≠ a.block) : Blk k T (w.setCell a x) g zs := by
  unfold Blk at h ⊢
  rw [Below.heap_setCell w a x g hne]; exact h
theorem Blk.below {k : IntKind} {T : Nat} {w w' : World} {g : Nat} {zs : List Int} (h : Blk k T w g zs) {B : Nat} (hB : g < B) (hb : Below B w w') : Blk k T w' g zs := (hb.block g hB).trans h
theorem Blk.sl {k : IntKind} {T : Nat} {w : World} {g : Nat} {zs : List Int} (h : Blk k T w g zs) (n cap : Nat) (hn : zs.length = n) (hc : n ≤ cap) (hm : cap ≤ maxLen) : Sl k w (.slice (some ⟨g, 0, none⟩) n cap) zs := by
  subst hn
  exact ⟨_, cap, rfl, hc, hm, fun _ => ⟨g, 0, rfl, fun j hj => by rw [Nat.zero_add]; exact h.cell j hj⟩⟩
theorem Blk.drewN {k : IntKind} {T : Nat} {w : World} {g : Nat} {zs : List Int} (h : Blk k T w g zs) (n : Nat) : Blk k T (w.drewN n) g zs := h
/-- behind make([]T, n) -/
theorem Blk.made {k : IntKind} {T base g n : Nat} {w : World} (h : w.ownsRow base T 1 (.slice (some ⟨g, 0, none⟩) n n) n (madeCells #[Value.int k 0] n).toList) : Blk k T w g (List.replicate n 0) := by
  obtain ⟨h1, h2⟩ := h
  rcases h2 with ⟨h2, _⟩ | ⟨g', cap, cur, he, hb, hg, hn, hm, hs, ht⟩
  · cases h2
  · cases he
    unfold Blk
    rw [hg]
    have : cur.toList = (madeCells #[Value.int k 0] n).toList := by rw [← ht, List.take_of_length_le (by simp [hs])]
    have e : cur = ((List.replicate n 0).map (Value.int k)).toArray := by
      apply Array.ext'
      rw [this]
      rw [List.map_replicate, List.eq_replicate_iff]
      refine ⟨by simp [madeCells], fun b hb => ?_⟩
      simp only [madeCells, Array.toList_map, List.mem_map] at hb
      obtain ⟨q, _, rfl⟩ := hb
      simp [Nat.mod_one]
    rw [e]

/-- the block g holds no numbers: a box of a struct of slices and bools -/
def NoInt (w : World) (g : Nat) : Prop := ∀ o k x, w.cell? ⟨g, o, none⟩ ≠ some (.int k x)
theorem NoInt.new (w : World) (cs : Array Value) (T : Nat) (h : ∀ v ∈ cs, ∀ k x, v ≠ .int k x) : NoInt (w.alloc (.cells cs T)) w.heap.size := by
  intro o k x e
  rw [cell_of_row _ _ o cs T (0, 0) (heap_alloc_new w _)] at e
  exact h _ (Array.mem_of_getElem? e) k x rfl
theorem NoInt.below {w w' : World} {g : Nat} (h : NoInt w g) {B : Nat} (hg : g < B) (hb : Below B w w') : NoInt w' g := by
  intro o k x e
  rw [hb.cell (p := ⟨g, o, none⟩) hg] at e
  exact h o k x e
theorem NoInt.alloc {w : World} {g : Nat} (h : NoInt w g) (hg : g < w.heap.size) (o : Obj) : NoInt (w.alloc o) g := h.below hg ((Below.refl _ _).alloc (Nat.le_refl _) o)
theorem NoInt.setCell {w : World} {g : Nat} (h : NoInt w g) (a : Addr) (v : Value) (hv : ∀ k x, v ≠ .int k x) : NoInt (w.setCell a v) g := by
  intro o k x e
  by_cases hg : g = a.block
  · subst hg
    unfold World.cell? at e
    simp only [World.setCell, Array.getElem?_modify, if_true] at e
    have h1 := h o
    unfold World.cell? at h1
    cases hh : w.heap[a.block]? with
    | none => rw [hh] at e; simp at e
    | some ob =>
      rw [hh] at e
      rw [hh] at h1
      cases ob with
      | cells c el fr =>
        simp only [Option.map_some, Option.isSome_none, Bool.false_eq_true, if_false] at e h1
        by_cases hs : a.spot.isSome
        · rw [if_pos hs] at e; exact h1 k x e
        · rw [if_neg hs, Array.getElem?_setIfInBounds] at e
          split at e
          · split at e
            · exact hv k x (Option.some.inj e)
            · cases e
          · exact h1 k x e
      | _ => simp at e
  · rw [World.cell?_of_block (w := w) (a := ⟨g, o, none⟩) (Below.heap_setCell w a v g hg)] at e
    exact h o k x e
/-- a store into a box turns no number -/
theorem Rw.box {k : IntKind} {w : World} {ao : Option Addr} {zs : List Int} (h : Rw k w ao zs) (a : Addr) (x : Value) (hn : NoInt w a.block) : Rw k (w.setCell a x) ao zs := by
  intro h0
  obtain ⟨b, off, rfl, hc⟩ := h h0
  refine ⟨b, off, rfl, fun j hj => ?_⟩
  have hne : b ≠ a.block := fun e => by subst e; exact hn _ _ _ (hc j hj)
  rw [World.cell?_of_block (w := w) (a := ⟨b, off + j, none⟩) (Below.heap_setCell w a x b hne)]
  exact hc j hj
theorem Rep.box {k : IntKind} {b : Int} {w : World} {v : Value} {n : Int} (h : Rep k b w v n) (a : Addr) (x : Value) (hn : NoInt w a.block) : Rep k b (w.setCell a x) v n := by
  obtain ⟨zs, ⟨ao, cap, rfl, h1, h2, h3⟩, h4⟩ := h
  exact ⟨zs, ⟨ao, cap, rfl, h1, h2, h3.box a x hn⟩, h4⟩

/-- the numbers that a slice value holds, read off the cells: for measures -/
def readRow (w : World) : Value → List Int
  | .slice (some a) n _ => (List.range n).map fun j => match w.cell? ⟨a.block, a.off + j, none⟩ with | some u => intOf u | none => 0
  | _ => []
theorem Sl.read {k : IntKind} {w : World} {v : Value} {zs : List Int} (h : Sl k w v zs) : readRow w v = zs := by
  obtain ⟨ao, cap, rfl, h1, h2, h3⟩ := h
  rcases Nat.eq_zero_or_pos zs.length with h0 | h0
  · rw [List.length_eq_zero_iff.1 h0]
    cases ao <;> rfl
  · obtain ⟨b, off, rfl, hc⟩ := h3 h0
    simp only [readRow]
    apply List.ext_getElem
    · simp
    · intro j hj1 hj2
      simp only [List.getElem_map, List.getElem_range, hc j hj2, intOf, nth_eq _ _ hj2]
def readVal (b : Int) (w : World) (v : Value) : Nat := (val b (readRow w v)).toNat
theorem Rep.read {k : IntKind} {b : Int} {w : World} {v : Value} {n : Int} (h : Rep k b w v n) : readVal b w v = n.toNat := by
  obtain ⟨zs, h1, h2, h3, rfl⟩ := h
  unfold readVal; rw [h1.read]

theorem Tryz.infoInt : (Tryz.prog.info? 3).map (fun i => (i.zero, i.size, i.bytes)) = some (some (.int .i64 0), 1, 8) := by kernel_rfl
theorem Tryz.infoU32 : (Tryz.prog.info? 174).map (fun i => (i.zero, i.size, i.bytes)) = some (some (.int .u32 0), 1, 4) := by kernel_rfl
end Go.Proofs.YtknnjibmacmniaaGreatDoor
