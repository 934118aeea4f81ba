/- Texts of this claim, in one: RankM PMapB RefRank RefPlan. -/
import Derived.BigQuiet
import Derived.Test.YtcmdoeledmkfmabGreatDoorQ1
import Derived.Test.YtcmdoeledmkfmabGreatDoorQ9
import Derived.Test.YtcmdoeledmkfmabGreatDoorQ5
import Derived.Test.YtcmdoeledmkfmabGreatDoorQB
import Derived.Test.YtcmdoeledmkfmabGreatDoorQA
set_option linter.unusedSimpArgs false
set_option linter.unusedVariables false
namespace Go.Proofs.YtcmdoeledmkfmabGreatDoor
def Cand (p : Pt) (L : List Nat) (i : Nat) : Prop := i < p.ships.length ∧ (shp p i).st = 1 ∧ i ∉ L
structure RInv (p : Pt) (L : List Nat) : Prop where
  mem : ∀ i ∈ L, i < p.ships.length ∧ (shp p i).st = 1
  srt : L.Pairwise fun i j => before (shp p i) (shp p j)
  rest : ∀ x ∈ L, ∀ y, Cand p L y → before (shp p x) (shp p y)
theorem RInv.nil (p : Pt) : RInv p [] := ⟨(fun i h => by cases h), List.Pairwise.nil, (fun x h => by cases h)⟩
def Best (p : Pt) (L : List Nat) (k : Nat) (b : Int) : Prop :=
  (b = -1 ∧ ∀ i, i < k → ¬ Cand p L i) ∨ ∃ j : Nat, b = j ∧ j < k ∧ Cand p L j ∧ ∀ i, i < k → Cand p L i → i ≠ j → before (shp p j) (shp p i)
theorem Best.zero (p : Pt) (L : List Nat) : Best p L 0 (-1) := Or.inl ⟨rfl, fun i h => absurd h (Nat.not_lt_zero _)⟩
theorem Best.skip {p : Pt} {L : List Nat} {k : Nat} {b : Int} (h : Best p L k b) (hk : ¬ Cand p L k) : Best p L (k + 1) b := by
  rcases h with ⟨e, h⟩ | ⟨j, e, h1, h2, h3⟩
  · refine Or.inl ⟨e, fun i hi => ?_⟩
    by_cases c : i = k
    · rw [c]; exact hk
    · exact h i (by omega)
  · refine Or.inr ⟨j, e, by omega, h2, fun i hi hc hne => ?_⟩
    by_cases c : i = k
    · rw [c] at hc; exact absurd hc hk
    · exact h3 i (by omega) hc hne
theorem Best.take {p : Pt} {L : List Nat} {k : Nat} {b : Int} (hp : IsPort0 p) (h : Best p L k b) (hk : Cand p L k) (hb : b = -1 ∨ ∃ j : Nat, b = j ∧ before (shp p k) (shp p j)) : Best p L (k + 1) k := by
  refine Or.inr ⟨k, rfl, by omega, hk, fun i hi hc hne => ?_⟩
  rcases h with ⟨e, h⟩ | ⟨j, e, h1, h2, h3⟩
  · exact absurd hc (h i (by omega))
  · rcases hb with hb | ⟨j', e', hb⟩
    · omega
    · have : j' = j := by omega
      subst this
      by_cases c : i = j'
      · rw [c]; exact hb
      · exact before_trans hb (h3 i (by omega) hc c)
theorem RInv.snoc {p : Pt} {L : List Nat} {j : Nat} (h : RInv p L) (hj : Cand p L j) (hb : ∀ i, i < p.ships.length → Cand p L i → i ≠ j → before (shp p j) (shp p i)) : RInv p (L ++ [j]) := by
  refine ⟨fun i hi => ?_, ?_, fun x hx y hy => ?_⟩
  · rcases List.mem_append.1 hi with hi | hi
    · exact h.mem i hi
    · have : i = j := by simpa using hi
      rw [this]; exact ⟨hj.1, hj.2.1⟩
  · rw [List.pairwise_append]
    refine ⟨h.srt, by simp, fun a ha b hb' => ?_⟩
    have : b = j := by simpa using hb'
    rw [this]; exact h.rest a ha j hj
  · have hyL : y ∉ L := fun c => hy.2.2 (List.mem_append_left _ c)
    have hyj : y ≠ j := fun c => hy.2.2 (by rw [c]; simp)
    rcases List.mem_append.1 hx with hx | hx
    · exact h.rest x hx y ⟨hy.1, hy.2.1, hyL⟩
    · have : x = j := by simpa using hx
      rw [this]; exact hb y hy.1 ⟨hy.1, hy.2.1, hyL⟩ hyj
theorem RInv.nodup {p : Pt} {L : List Nat} (h : RInv p L) : L.Nodup := by
  refine List.Pairwise.imp (fun {i j} h => ?_) h.srt
  rintro rfl
  exact before_asymm h h
theorem RInv.done {p : Pt} {L : List Nat} (h : RInv p L) (hn : L.length = p.ships.length ∨ ∀ i, ¬ Cand p L i) : RankedIs p L := by
  refine ⟨fun i => ⟨fun hi => h.mem i hi, fun ⟨h1, h2⟩ => ?_⟩, h.srt⟩
  by_cases c : i ∈ L
  · exact c
  · rcases hn with hn | hn
    · have hd : (i :: L).Nodup := List.nodup_cons.2 ⟨c, h.nodup⟩
      have := nodup_bound p.ships.length (i :: L) hd fun x hx => by
        rcases List.mem_cons.1 hx with e | e
        · rw [e]; exact h1
        · exact (h.mem x e).1
      simp at this
      omega
    · exact absurd ⟨h1, h2, c⟩ (hn i)
end Go.Proofs.YtcmdoeledmkfmabGreatDoor
set_option linter.unusedSimpArgs false
set_option linter.unusedVariables false
namespace Go.Proofs.YtcmdoeledmkfmabGreatDoor
open Go.RowKit Go.Maps Go.ChangeMaps Go.MapKept
def MapB (w : World) (b n : Nat) (g : Int → Bool) : Prop :=
  ∃ D : DataW Unit, w.ownsMap Tryz.prog 3 (plainElem Tryz.prog 4) b n D ∧ IsMap D ∧ ∀ k, Wf k → D.atKey (.int .i64 k) (.lit (.bool false)) = .lit (.bool (g k))
theorem MapB.made (w : World) : MapB (w.alloc (.map #[] 0)) w.heap.size 0 fun _ => false :=
  ⟨.map [], World.ownsMap_made _ _ _ _, isMap_empty, fun k _ => rfl⟩
theorem MapB.lt {w : World} {b n : Nat} {g : Int → Bool} (h : MapB w b n g) : b < w.heap.size := let ⟨D, hD, _⟩ := h; hD.lt
theorem MapB.later {w w' : World} {B b n : Nat} {g : Int → Bool} (h : MapB w b n g) (hb : Below B w w') (hB : b < B) : MapB w' b n g := by
  obtain ⟨D, ⟨es, clock, h1, h2⟩, h3⟩ := h
  exact ⟨D, ⟨es, clock, by rw [hb.block b hB]; exact h1, h2⟩, h3⟩
theorem MapB.same {w w' : World} {b n : Nat} {g : Int → Bool} (h : MapB w b n g) (hb : w'.heap[b]? = w.heap[b]?) : MapB w' b n g := by
  obtain ⟨D, ⟨es, clock, h1, h2⟩, h3⟩ := h
  exact ⟨D, ⟨es, clock, by rw [hb]; exact h1, h2⟩, h3⟩
end Go.Proofs.YtcmdoeledmkfmabGreatDoor
set_option linter.unusedSimpArgs false
set_option linter.unusedVariables false
namespace Go.Proofs.YtcmdoeledmkfmabGreatDoor
open Go.RowKit
def placedF (L : List Nat) : Int → Bool := fun x => L.any fun j => x == (j : Int)
structure RMem (w : World) (p : Pt) (vs : Value) (L : List Nat) (s3 : Value) (W : World) : Prop where
  below : Below w.heap.size w W
  box : PBox W w.heap.size p vs
  map : MapB W (w.heap.size + 1) L.length (placedF L)
  row : W.ownsRow (w.heap.size + 1 + 1) 3 1 s3 (ints L).length (cellsK cInt (ints L))
  size : w.heap.size + 1 + 1 ≤ W.heap.size
theorem RMem.later {w W W' : World} {p : Pt} {vs s3 : Value} {L : List Nat} (h : RMem w p vs L s3 W) (hb : Below W.heap.size W W') : RMem w p vs L s3 W' := by
  have hs := h.size
  refine ⟨h.below.trans (hb.mono h.below.size), h.box.later hb h.box.lt, h.map.later hb h.map.lt, ⟨h.row.1, ?_⟩, Nat.le_trans hs hb.size⟩
  rcases h.row.2 with h0 | ⟨b, cap, cur, h0, h1, h2, h3⟩
  · exact Or.inl h0
  · exact Or.inr ⟨b, cap, cur, h0, h1, by rw [hb.block b (Array.getElem?_eq_some_iff.1 h2).1]; exact h2, h3⟩
end Go.Proofs.YtcmdoeledmkfmabGreatDoor
set_option linter.unusedSimpArgs false
set_option linter.unusedVariables false
namespace Go.Proofs.YtcmdoeledmkfmabGreatDoor
open Go.RowKit
section
variable {w W W' : World} {p : Pt} {vs v5 s3 : Value} {gA : Nat} {rk : List Nat} {pl f f2 : List Int}
end
end Go.Proofs.YtcmdoeledmkfmabGreatDoor
