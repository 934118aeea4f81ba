/- Texts of this claim, in one: RankM PMapB RefRank RefPlan. -/
import Derived.BigQuiet
import Derived.Test.YtcmdoeledmkfmacGreatDoorQ1
import Derived.Test.YtcmdoeledmkfmacGreatDoorQ9
import Derived.Test.YtcmdoeledmkfmacGreatDoorQ5
import Derived.Test.YtcmdoeledmkfmacGreatDoorQB
import Derived.Test.YtcmdoeledmkfmacGreatDoorQA
set_option linter.unusedSimpArgs false
set_option linter.unusedVariables false
namespace Go.Proofs.YtcmdoeledmkfmacGreatDoor
def Cand (p : Pt) (L : List Nat) (i : Nat) : Prop := i < p.ships.length ∧ (shp p i).st = 1 ∧ i ∉ L
structure RInv (p : Pt) (L : List Nat) : Prop where
  mem : ∀ i ∈ L, i < p.ships.length ∧ (shp p i).st = 1
  srt : L.Pairwise fun i j => before (shp p i) (shp p j)
  rest : ∀ x ∈ L, ∀ y, Cand p L y → before (shp p x) (shp p y)
theorem RInv.nil (p : Pt) : RInv p [] := ⟨(fun i h => by cases h), List.Pairwise.nil, (fun x h => by cases h)⟩
def Best (p : Pt) (L : List Nat) (k : Nat) (b : Int) : Prop :=
  (b = -1 ∧ ∀ i, i < k → ¬ Cand p L i) ∨ ∃ j : Nat, b = j ∧ j < k ∧ Cand p L j ∧ ∀ i, i < k → Cand p L i → i ≠ j → before (shp p j) (shp p i)
theorem Best.zero (p : Pt) (L : List Nat) : Best p L 0 (-1) := Or.inl ⟨rfl, fun i h => absurd h (Nat.not_lt_zero _)⟩
theorem Best.skip {p : Pt} {L : List Nat} {k : Nat} {b : Int} (h : Best p L k b) (hk : ¬ Cand p L k) : Best p L (k + 1) b := by
  rcases h with ⟨e, h⟩ | ⟨j, e, h1, h2, h3⟩
  · refine Or.inl ⟨e, fun i hi => ?_⟩
    by_cases c : i = k
    · rw [c]; exact hk
    · exact h i (by omega)
  · refine Or.inr ⟨j, e, by omega, h2, fun i hi hc hne => ?_⟩
    by_cases c : i = k
    · rw [c] at hc; exact absurd hc hk
    · exact h3 i (by omega) hc hne
theorem Best.take {p : Pt} {L : List Nat} {k : Nat} {b : Int} (hp : IsPort0 p) (h : Best p L k b) (hk : Cand p L k) (hb : b = -1 ∨ ∃ j : Nat, b = j ∧ before (shp p k) (shp p j)) : Best p L (k + 1) k := by
  refine Or.inr ⟨k, rfl, by omega, hk, fun i hi hc hne => ?_⟩
  rcases h with ⟨e, h⟩ | ⟨j, e, h1, h2, h3⟩
  · exact absurd hc (h i (by omega))
  · rcases hb with hb | ⟨j', e', hb⟩
    · omega
    · have : j' = j := by omega
      subst this
      by_cases c : i = j'
      · rw [c]; exact hb
      · exact before_trans hb (h3 i (by omega) hc c)
theorem RInv.snoc {p : Pt} {L : List Nat} {j : Nat} (h : RInv p L) (hj : Cand p L j) (hb : ∀ i, i < p.ships.length → Cand p L i → i ≠ j → before (shp p j) (shp p i)) : RInv p (L ++ [j]) := by
  refine ⟨fun i hi => ?_, ?_, fun x hx y hy => ?_⟩
  · rcases List.mem_append.1 hi with hi | hi
    · exact h.mem i hi
    · have : i = j := by simpa using hi
      rw [this]; exact ⟨hj.1, hj.2.1⟩
  · rw [List.pairwise_append]
    refine ⟨h.srt, by simp, fun a ha b hb' => ?_⟩
    have : b = j := by simpa using hb'
    rw [this]; exact h.rest a ha j hj
  · have hyL : y ∉ L := fun c => hy.2.2 (List.mem_append_left _ c)
    have hyj : y ≠ j := fun c => hy.2.2 (by rw [c]; simp)
    rcases List.mem_append.1 hx with hx | hx
    · exact h.rest x hx y ⟨hy.1, hy.2.1, hyL⟩
    · have : x = j := by simpa using hx
      rw [this]; exact hb y hy.1 ⟨hy.1, hy.2.1, hyL⟩ hyj
theorem RInv.nodup {p : Pt} {L : List Nat} (h : RInv p L) : L.Nodup := by
  refine List.Pairwise.imp (fun {i j} h => ?_) h.srt
  rintro rfl
  exact before_asymm h h
theorem RInv.done {p : Pt} {L : List Nat} (h : RInv p L) (hn : L.length = p.ships.length ∨ ∀ i, ¬ Cand p L i) : RankedIs p L := by
  refine ⟨fun i => ⟨fun hi => h.mem i hi, fun ⟨h1, h2⟩ => ?_⟩, h.srt⟩
  by_cases c : i ∈ L
  · exact c
  · rcases hn with hn | hn
    · have hd : (i :: L).Nodup := List.nodup_cons.2 ⟨c, h.nodup⟩
      have := nodup_bound p.ships.length (i :: L) hd fun x hx => by
        rcases List.mem_cons.1 hx with e | e
        · rw [e]; exact h1
        · exact (h.mem x e).1
      simp at this
      omega
    · exact absurd ⟨h1, h2, c⟩ (hn i)
end Go.Proofs.YtcmdoeledmkfmacGreatDoor
set_option linter.unusedSimpArgs false
set_option linter.unusedVariables false
namespace Go.Proofs.YtcmdoeledmkfmacGreatDoor
open Go.RowKit Go.Maps Go.ChangeMaps Go.MapKept
theorem zeroBool (w : World) : (zeroValue 4).run Tryz.prog w = .ok (.bool false) w := by kernel_rfl
theorem plainElem_bool_is {e : TypeId} (he : Tryz.prog.underlying e = some .bool) {v : Value} {b : Bool} {ps : List MemPlace} (h : plainElem (H := Unit) Tryz.prog e v = some (.lit (.bool b), ps)) : v = .bool b := by
  unfold plainElem at h
  rw [he] at h
  cases v <;> simp at h
  rw [h.1]
def updB (g : Int → Bool) (k : Int) (v : Bool) : Int → Bool := fun x => if x = k then v else g x
def MapB (w : World) (b n : Nat) (g : Int → Bool) : Prop :=
  ∃ D : DataW Unit, w.ownsMap Tryz.prog 3 (plainElem Tryz.prog 4) b n D ∧ IsMap D ∧ ∀ k, Wf k → D.atKey (.int .i64 k) (.lit (.bool false)) = .lit (.bool (g k))
theorem MapB.made (w : World) : MapB (w.alloc (.map #[] 0)) w.heap.size 0 fun _ => false :=
  ⟨.map [], World.ownsMap_made _ _ _ _, isMap_empty, fun k _ => rfl⟩
theorem MapB.lt {w : World} {b n : Nat} {g : Int → Bool} (h : MapB w b n g) : b < w.heap.size := let ⟨D, hD, _⟩ := h; hD.lt
theorem MapB.later {w w' : World} {B b n : Nat} {g : Int → Bool} (h : MapB w b n g) (hb : Below B w w') (hB : b < B) : MapB w' b n g := by
  obtain ⟨D, ⟨es, clock, h1, h2⟩, h3⟩ := h
  exact ⟨D, ⟨es, clock, by rw [hb.block b hB]; exact h1, h2⟩, h3⟩
theorem MapB.same {w w' : World} {b n : Nat} {g : Int → Bool} (h : MapB w b n g) (hb : w'.heap[b]? = w.heap[b]?) : MapB w' b n g := by
  obtain ⟨D, ⟨es, clock, h1, h2⟩, h3⟩ := h
  exact ⟨D, ⟨es, clock, by rw [hb]; exact h1, h2⟩, h3⟩
theorem MapB.look {w : World} {b n : Nat} {g : Int → Bool} (h : MapB w b n g) {k : Int} (hk : Wf k) : (Instr.lookup 101 (.map (some b)) (.int .i64 k) false).run Tryz.prog w = .ok (.bool (g k)) w := by
  obtain ⟨D, hD, hm, hg⟩ := h
  obtain ⟨v, ps, hrun, hv⟩ := hD.lookup keyedInt Tryz.underlying101 (zeroBool w) (plainElem_bool Tryz.underlying4 false) (keyOf_int_mk Tryz.underlying3 hk)
  rw [hg k hk] at hv
  rw [hrun, plainElem_bool_is Tryz.underlying4 hv]
theorem MapB.put {w : World} {b n : Nat} {g : Int → Bool} (h : MapB w b n g) (hn : n < maxLen) {k : Int} {v : Bool} (hk : Wf k) :
    ∃ w', (Instr.mapUpdate 101 (.map (some b)) (.int .i64 k) (.bool v)).run Tryz.prog w = .ok () w' ∧ MapB w' b (n + 1) (updB g k v) ∧ w.grownBy w' (some b) := by
  obtain ⟨D, hD, hm, hg⟩ := h
  obtain ⟨w', hrun, hD', hgr⟩ := hD.update keyedInt Tryz.underlying101 hn (keyOf_int_mk Tryz.underlying3 hk) (plainElem_bool Tryz.underlying4 v)
  refine ⟨w', hrun, ⟨_, hD', hm.put _ _, fun x hx => ?_⟩, hgr⟩
  unfold updB
  by_cases e : x = k
  · subst e; rw [if_pos rfl, atKey_put_same hm (by simp [WideAt.IsKeyLit])]
  · rw [if_neg e, atKey_put_other (by intro h; injection h with _ h; exact e h)]; exact hg x hx
end Go.Proofs.YtcmdoeledmkfmacGreatDoor
set_option linter.unusedSimpArgs false
set_option linter.unusedVariables false
namespace Go.Proofs.YtcmdoeledmkfmacGreatDoor
open Go.RowKit
def placedF (L : List Nat) : Int → Bool := fun x => L.any fun j => x == (j : Int)
structure RMem (w : World) (p : Pt) (vs : Value) (L : List Nat) (s3 : Value) (W : World) : Prop where
  below : Below w.heap.size w W
  box : PBox W w.heap.size p vs
  map : MapB W (w.heap.size + 1) L.length (placedF L)
  row : W.ownsRow (w.heap.size + 1 + 1) 3 1 s3 (ints L).length (cellsK cInt (ints L))
  size : w.heap.size + 1 + 1 ≤ W.heap.size
theorem RMem.later {w W W' : World} {p : Pt} {vs s3 : Value} {L : List Nat} (h : RMem w p vs L s3 W) (hb : Below W.heap.size W W') : RMem w p vs L s3 W' := by
  have hs := h.size
  refine ⟨h.below.trans (hb.mono h.below.size), h.box.later hb h.box.lt, h.map.later hb h.map.lt, ⟨h.row.1, ?_⟩, Nat.le_trans hs hb.size⟩
  rcases h.row.2 with h0 | ⟨b, cap, cur, h0, h1, h2, h3⟩
  · exact Or.inl h0
  · exact Or.inr ⟨b, cap, cur, h0, h1, by rw [hb.block b (Array.getElem?_eq_some_iff.1 h2).1]; exact h2, h3⟩
end Go.Proofs.YtcmdoeledmkfmacGreatDoor
set_option linter.unusedSimpArgs false
set_option linter.unusedVariables false
namespace Go.Proofs.YtcmdoeledmkfmacGreatDoor
open Go.RowKit
structure PlMem (w : World) (p : Pt) (vs : Value) (gA : Nat) (v5 : Value) (rk : List Nat) (W : World) (s3 : Value) (pl : List Int) (f : List Int) : Prop where
  below : Below w.heap.size w W
  box : PBox W w.heap.size p vs
  row : W.ownsRow (w.heap.size + 1) 3 1 s3 pl.length (cellsK cInt pl)
  lt : ∀ k, s3.ownBlock = some k → k < gA
  arr : Arr W gA f
  base : w.heap.size < gA
  rkr : W.ownsRow (gA + 1) 3 1 v5 (ints rk).length (cellsK cInt (ints rk))
section
variable {w W W' : World} {p : Pt} {vs v5 s3 : Value} {gA : Nat} {rk : List Nat} {pl f f2 : List Int}
theorem PlMem.later (h : PlMem w p vs gA v5 rk W s3 pl f) (hb : Below W.heap.size W W') : PlMem w p vs gA v5 rk W' s3 pl f :=
  ⟨h.below.trans (hb.mono h.below.size), h.box.later hb h.box.lt, ownsRow_later h.row hb, h.lt, h.arr.later hb h.arr.lt, h.base, ownsRow_later h.rkr hb⟩
theorem PlMem.cell {b n cap : Nat} (h : PlMem w p vs gA v5 rk W (.slice (some ⟨b, 0, none⟩) n cap) pl f) {i : Nat} {x : Int} (hx : pl[i]? = some x) : W.cell? ⟨b, i, none⟩ = some (.int .i64 x) ∧ W.frozen? ⟨b, i, none⟩ = false := by
  obtain ⟨b', c, e, ho⟩ := OwnK.ofRow h.row (by intro e; cases e)
  injection e with e1 e2 e3
  injection e1 with e1
  injection e1 with e1
  subst e1
  have := ho.rd.int hx
  rw [Nat.zero_add] at this
  exact ⟨this, ho.frozen _⟩
theorem PlMem.store {b n cap : Nat} (h : PlMem w p vs gA v5 rk W (.slice (some ⟨b, 0, none⟩) n cap) pl f) {i : Nat} (hi : i < pl.length) (x : Int) : PlMem w p vs gA v5 rk (W.setCell ⟨b, i, none⟩ (.int .i64 x)) (.slice (some ⟨b, 0, none⟩) n cap) (pl.set i x) f := by
  have hb0 := (h.row.lt b rfl).1
  have hb1 := h.lt b rfl
  have hbs := h.base
  refine ⟨h.below.setCell (by show _ ≤ b; omega) _, h.box.other _ _ (by omega), ?_, h.lt, h.arr.other _ _ (by omega), h.base, ownsRow_same h.rkr fun g hg => Below.heap_setCell _ _ _ _ (by show g ≠ b; omega)⟩
  obtain ⟨b', c, e, ho⟩ := OwnK.ofRow h.row (by intro e; cases e)
  injection e with e1 e2 e3
  injection e1 with e1
  injection e1 with e1
  subst e1 e2 e3
  have := OwnK.toRow encInt (IRow.set ho hi x)
  rw [List.length_set] at this ⊢
  exact this
end
end Go.Proofs.YtcmdoeledmkfmacGreatDoor
