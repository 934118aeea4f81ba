import Derived.Test.YtcmdoeledmkfmacGreatDoorQN
import Derived.Test.YtcmdoeledmkfmacGreatDoorQG
import Derived.Test.YtcmdoeledmkfmacGreatDoorQL
set_option linter.unusedSimpArgs false
set_option linter.unusedVariables false
namespace Go.Proofs.YtcmdoeledmkfmacGreatDoor
open Go.RowKit
def RowT {α : Type} (t : TypeId) (c : α → List Value) (w : World) (v : Value) (l : List α) : Prop :=
  ∃ a cap, v = .slice a l.length cap ∧ l.length ≤ cap ∧ (l = [] ∨ ∃ b off cur f, a = some ⟨b, off, none⟩ ∧ RdK c w b off l ∧ w.heap[b]? = some (Obj.cells cur t f))
theorem RowT.sl {α : Type} {t : TypeId} {c : α → List Value} {w : World} {v : Value} {l : List α} (h : RowT t c w v l) : SlK c w v l := by
  obtain ⟨a, cap, h1, h2, h3⟩ := h
  refine ⟨a, cap, h1, h2, ?_⟩
  rcases h3 with h3 | ⟨b, off, cur, f, h4, h5, _⟩
  · exact Or.inl h3
  · exact Or.inr ⟨b, off, h4, h5⟩
theorem RowT.nil {α : Type} (t : TypeId) (c : α → List Value) (w : World) : RowT t c w (.slice none 0 0) [] := ⟨none, 0, rfl, Nat.le_refl _, Or.inl rfl⟩
theorem RowT.one {α : Type} {t : TypeId} {c : α → List Value} {w : World} {v : Value} {l : List α} (h : RowT t c w v l) : v.oneCell' = true := by
  obtain ⟨a, cap, rfl, _⟩ := h; rfl
theorem RowT.shape {α : Type} {t : TypeId} {c : α → List Value} {w : World} {v : Value} {l : List α} (h : RowT t c w v l) : ∃ a cap, v = .slice a l.length cap := by
  obtain ⟨a, cap, h, _⟩ := h; exact ⟨a, cap, h⟩
theorem RdK.same {α : Type} {c : α → List Value} {w w' : World} {b off : Nat} {l : List α} (h : RdK c w b off l) (hs : w'.heap[b]? = w.heap[b]?) : RdK c w' b off l := fun j u hu => by
  rw [cell_same hs]; exact h j u hu
theorem RowT.same {α : Type} {t : TypeId} {c : α → List Value} {w w' : World} {v : Value} {l : List α} (h : RowT t c w v l) (hs : ∀ (k : Nat) cur f, w.heap[k]? = some (Obj.cells cur t f) → w'.heap[k]? = w.heap[k]?) : RowT t c w' v l := by
  obtain ⟨a, cap, h1, h2, h3⟩ := h
  refine ⟨a, cap, h1, h2, ?_⟩
  rcases h3 with h3 | ⟨b, off, cur, f, h4, h5, h6⟩
  · exact Or.inl h3
  · have e := hs b cur f h6
    exact Or.inr ⟨b, off, cur, f, h4, h5.same e, e.trans h6⟩
theorem RowT.later {α : Type} {t : TypeId} {c : α → List Value} {w w' : World} {v : Value} {l : List α} (h : RowT t c w v l) (hb : Below w.heap.size w w') : RowT t c w' v l :=
  h.same fun k cur f hk => hb.block k (Array.getElem?_eq_some_iff.1 hk).1
theorem RowT.own {α : Type} {t : TypeId} {k B : Nat} {c : α → List Value} {w : World} {v : Value} {l : List α} (h : w.ownsRow B t k v l.length (cellsK c l)) : RowT t c w v l := by
  by_cases hv : v = .slice none 0 0
  · subst hv
    rcases h.2 with ⟨_, h0⟩ | ⟨g, cap, cur, h0, _⟩
    · have : l = [] := List.length_eq_zero_iff.1 h0
      subst this
      exact RowT.nil _ _ w
    · cases h0
  · obtain ⟨g, cap, rfl, ho⟩ := OwnK.ofRow h hv
    obtain ⟨cur, hg, _⟩ := ho.row
    exact ⟨_, cap, rfl, ho.le, Or.inr ⟨g, 0, cur, _, rfl, ho.rd, hg⟩⟩
theorem RowT.ownK {α : Type} {t : TypeId} {k B g cap : Nat} {c : α → List Value} {w : World} {l : List α} (ho : OwnK t k c w B g cap l) : RowT t c w (.slice (some ⟨g, 0, none⟩) l.length cap) l := by
  obtain ⟨cur, hg, _⟩ := ho.row
  exact ⟨_, cap, rfl, ho.le, Or.inr ⟨g, 0, cur, _, rfl, ho.rd, hg⟩⟩
def dkCells (p : Pt) (vs vp va : Value) (n : Int) : List Value := portCells p vs ++ [vp, va, .int .i64 n]
structure DBx (w : World) (d : Nat) (p : Pt) (vs vp va : Value) (n : Int) : Prop where
  four : p.kept.length = 4
  box : w.heap[d]? = some (.cells (dkCells p vs vp va n).toArray 59 (0, 0))
section
variable {w w' : World} {d : Nat} {p : Pt} {vs vp va : Value} {n : Int}
theorem DBx.lt (h : DBx w d p vs vp va n) : d < w.heap.size := (Array.getElem?_eq_some_iff.1 h.box).1
theorem DBx.frozen (h : DBx w d p vs vp va n) (k : Nat) : w.frozen? ⟨d, k, none⟩ = false := by simp [World.frozen?, h.box]
theorem DBx.same (h : DBx w d p vs vp va n) (hs : w'.heap[d]? = w.heap[d]?) : DBx w' d p vs vp va n := ⟨h.four, hs.trans h.box⟩
theorem DBx.later (h : DBx w d p vs vp va n) (hb : Below w.heap.size w w') : DBx w' d p vs vp va n := h.same (hb.block d h.lt)
theorem DBx.len (h : DBx w d p vs vp va n) : (portCells p vs).length = 16 := portCells_length p vs h.four
theorem DBx.cell (h : DBx w d p vs vp va n) (j : Nat) : w.cell? ⟨d, j, none⟩ = (dkCells p vs vp va n)[j]? := by rw [cell_of_row _ _ _ _ _ _ h.box, List.getElem?_toArray]
theorem DBx.cells (h : DBx w d p vs vp va n) : w.cell? ⟨d, 0, none⟩ = some (.int .i64 p.now) ∧ w.cell? ⟨d, 1, none⟩ = some vs ∧ w.cell? ⟨d, 16, none⟩ = some vp ∧ w.cell? ⟨d, 17, none⟩ = some va ∧ w.cell? ⟨d, 18, none⟩ = some (.int .i64 n) := by
  have hl := h.len
  refine ⟨by rw [h.cell]; rfl, by rw [h.cell]; rfl, ?_, ?_, ?_⟩ <;> (rw [h.cell]; unfold dkCells; rw [List.getElem?_append_right (by omega), hl]; rfl)
theorem DBx.port (h : DBx w d p vs vp va n) : w.rangeAt d 0 (portCells p vs) := fun j v hv => by
  rw [Nat.zero_add, h.cell]
  unfold dkCells
  rw [List.getElem?_append_left (List.getElem?_eq_some_iff.1 hv).1]
  exact hv
theorem DBx.write (h : DBx w d p vs vp va n) (k : Nat) (v : Value) (p' : Pt) (vs' vp' va' : Value) (n' : Int) (h4 : p'.kept.length = 4) (he : (dkCells p vs vp va n).set k v = dkCells p' vs' vp' va' n') : DBx (w.setCell ⟨d, k, none⟩ v) d p' vs' vp' va' n' := by
  refine ⟨h4, ?_⟩
  rw [setCell_eq_setRow w d k _ _ _ _ h.box, setRow_heap w d _ _ _ _ h.box, ← he]
  congr 2
  simp
theorem DBx.setPlan (h : DBx w d p vs vp va n) (v : Value) : DBx (w.setCell ⟨d, 16, none⟩ v) d p vs v va n := h.write 16 v _ _ _ _ _ h.four (by unfold dkCells; rw [List.set_append_right _ _ (by rw [h.len]; omega), h.len]; rfl)
theorem DBx.setAside (h : DBx w d p vs vp va n) (v : Value) : DBx (w.setCell ⟨d, 17, none⟩ v) d p vs vp v n := h.write 17 v _ _ _ _ _ h.four (by unfold dkCells; rw [List.set_append_right _ _ (by rw [h.len]; omega), h.len]; rfl)
theorem DBx.setLines (h : DBx w d p vs vp va n) (m : Int) : DBx (w.setCell ⟨d, 18, none⟩ (.int .i64 m)) d p vs vp va m := h.write 18 _ _ _ _ _ _ h.four (by unfold dkCells; rw [List.set_append_right _ _ (by rw [h.len]; omega), h.len]; rfl)
end
structure Fr (d : Nat) (w w' : World) : Prop where
  below : Below d w w'
  rest : ∀ k, k ≠ d → k < w.heap.size → w'.heap[k]? = w.heap[k]?
theorem Fr.refl (d : Nat) (w : World) : Fr d w w := ⟨Below.refl _ _, fun _ _ _ => rfl⟩
theorem Fr.trans {d : Nat} {a b c : World} (h : Fr d a b) (k : Fr d b c) : Fr d a c := ⟨h.below.trans k.below, fun i hi hl => (k.rest i hi (Nat.lt_of_lt_of_le hl h.below.size)).trans (h.rest i hi hl)⟩
theorem Fr.of {d : Nat} {w w' : World} (h : Below w.heap.size w w') (hd : d ≤ w.heap.size) : Fr d w w' := ⟨h.mono hd, fun k _ hk => h.block k hk⟩
theorem Fr.set {d : Nat} (w : World) (k : Nat) (v : Value) : Fr d w (w.setCell ⟨d, k, none⟩ v) := ⟨(Below.refl _ w).setCell (p := ⟨d, k, none⟩) (Nat.le_refl _) v, fun i hi _ => Below.heap_setCell _ _ _ _ hi⟩
theorem Fr.setRow {d : Nat} (w : World) (cs : Array Value) : Fr d w (w.setRow d cs) := ⟨below_setRow (Below.refl _ w) (Nat.le_refl _) cs, fun i hi _ => setRow_other w d i cs (by omega)⟩
theorem Fr.drew {d : Nat} (w : World) : Fr d w w.drew := ⟨(Below.refl _ w).drew, fun _ _ _ => rfl⟩
theorem Fr.size {d : Nat} {w w' : World} (h : Fr d w w') : w.heap.size ≤ w'.heap.size := h.below.size
def Asd (w : World) (va : Value) : Option Pt → Prop
  | none => va = .pointer none
  | some q => ∃ g vq, va = .pointer (some ⟨g, 0, none⟩) ∧ PBox w g q vq ∧ RowT 46 cShip w vq q.ships
theorem Asd.one {w : World} {va : Value} {o : Option Pt} (h : Asd w va o) : va.oneCell' = true := by
  cases o with
  | none => have h : va = .pointer none := h; rw [h]; rfl
  | some q => obtain ⟨g, vq, rfl, _⟩ := h; rfl
theorem Fr.typed {d : Nat} {w w' : World} {p : Pt} {vs vp va : Value} {n : Int} (hf : Fr d w w') (hd : DBx w d p vs vp va n) (k : Nat) (cur : Array Value) (t : TypeId) (f : Nat × Nat) (hk : w.heap[k]? = some (Obj.cells cur t f)) (ht : t ≠ 59) : w'.heap[k]? = w.heap[k]? := by
  refine hf.rest k (fun e => ?_) (Array.getElem?_eq_some_iff.1 hk).1
  subst e
  rw [hd.box] at hk
  injection hk with hk
  injection hk with _ hk
  exact ht hk.symm
theorem RowT.fr {α : Type} {t : TypeId} {c : α → List Value} {w w' : World} {v : Value} {l : List α} {d : Nat} {p : Pt} {vs vp va : Value} {n : Int} (h : RowT t c w v l) (hf : Fr d w w') (hd : DBx w d p vs vp va n) (ht : t ≠ 59) : RowT t c w' v l :=
  h.same fun k cur f hk => hf.typed hd k cur t f hk ht
theorem Asd.fr {w w' : World} {va : Value} {o : Option Pt} {d : Nat} {p : Pt} {vs vp va' : Value} {n : Int} (h : Asd w va o) (hf : Fr d w w') (hd : DBx w d p vs vp va' n) : Asd w' va o := by
  cases o with
  | none => exact h
  | some q =>
    obtain ⟨g, vq, h1, h2, h3⟩ := h
    exact ⟨g, vq, h1, ⟨h2.1, (hf.typed hd g _ _ _ h2.2 (by decide)).trans h2.2⟩, h3.fr hf hd (by decide)⟩
structure DM (w : World) (d : Nat) (D : Dk) (vs vp va : Value) (pl : List Int) : Prop where
  box : DBx w d D.p vs vp va D.n
  ships : RowT 46 cShip w vs D.p.ships
  plan : PlanIs D.p pl
  row : RowT 3 cInt w vp pl
  asd : Asd w va D.asd
  old : ∀ u ∈ usedG, u < d
def Dsk (w : World) (d : Nat) (D : Dk) : Prop := ∃ vs vp va pl, DM w d D vs vp va pl
theorem DM.lt {w : World} {d : Nat} {D : Dk} {vs vp va : Value} {pl : List Int} (h : DM w d D vs vp va pl) : d < w.heap.size := h.box.lt
theorem Dsk.lt {w : World} {d : Nat} {D : Dk} (h : Dsk w d D) : d < w.heap.size := by obtain ⟨_, _, _, _, h⟩ := h; exact h.lt
def kT (t : TypeId) : Prop := t = 46 ∨ t = 3 ∨ t = 41
theorem kT.ne {t u : TypeId} (h : kT t) (h1 : u ≠ 46) (h2 : u ≠ 3) (h3 : u ≠ 41) : t ≠ u := by
  rcases h with rfl | rfl | rfl
  · exact fun e => h1 e.symm
  · exact fun e => h2 e.symm
  · exact fun e => h3 e.symm
theorem DM.same {w w' : World} {d : Nat} {D : Dk} {vs vp va : Value} {pl : List Int} (h : DM w d D vs vp va pl) (hd : w'.heap[d]? = w.heap[d]?) (hs : ∀ (k : Nat) cur t f, w.heap[k]? = some (Obj.cells cur t f) → kT t → w'.heap[k]? = w.heap[k]?) : DM w' d D vs vp va pl := by
  refine ⟨h.box.same hd, h.ships.same fun k cur f hk => hs k cur _ f hk (Or.inl rfl), h.plan, h.row.same fun k cur f hk => hs k cur _ f hk (Or.inr (Or.inl rfl)), ?_, h.old⟩
  have ha := h.asd
  cases e : D.asd with
  | none => rw [e] at ha; exact ha
  | some q =>
    rw [e] at ha
    obtain ⟨g, vq, h1, h2, h3⟩ := ha
    exact ⟨g, vq, h1, ⟨h2.1, (hs g _ _ _ h2.2 (Or.inr (Or.inr rfl))).trans h2.2⟩, h3.same fun k cur f hk => hs k cur _ f hk (Or.inl rfl)⟩
theorem DM.later {w w' : World} {d : Nat} {D : Dk} {vs vp va : Value} {pl : List Int} (h : DM w d D vs vp va pl) (hb : Below w.heap.size w w') : DM w' d D vs vp va pl :=
  h.same (hb.block d h.lt) fun k cur t f hk _ => hb.block k (Array.getElem?_eq_some_iff.1 hk).1
theorem Dsk.later {w w' : World} {d : Nat} {D : Dk} (h : Dsk w d D) (hb : Below w.heap.size w w') : Dsk w' d D := by
  obtain ⟨vs, vp, va, pl, h⟩ := h
  exact ⟨vs, vp, va, pl, h.later hb⟩
theorem ne_typed {w : World} {k g : Nat} {cur c : Array Value} {t u : TypeId} {f f' : Nat × Nat} (hk : w.heap[k]? = some (Obj.cells cur t f)) (hg : w.heap[g]? = some (Obj.cells c u f')) (ht : t ≠ u) : k ≠ g := fun e => by
  subst e
  rw [hg] at hk
  injection hk with hk
  injection hk with _ hk
  exact ht hk.symm
theorem Dsk.written {w w' : World} {d g : Nat} {D : Dk} {c : Array Value} {u : TypeId} {f : Nat × Nat} (h : Dsk w d D) (hg : w.heap[g]? = some (Obj.cells c u f)) (h0 : u ≠ 59) (h1 : u ≠ 46) (h2 : u ≠ 3) (h3 : u ≠ 41) (hs : ∀ k, k ≠ g → w'.heap[k]? = w.heap[k]?) : Dsk w' d D := by
  obtain ⟨vs, vp, va, pl, h⟩ := h
  exact ⟨vs, vp, va, pl, h.same (hs d (ne_typed h.box.box hg (fun e => h0 e.symm))) fun k cur t f' hk ht => hs k (ne_typed hk hg (ht.ne h1 h2 h3))⟩
theorem Dsk.other {w w' : World} {d d' : Nat} {D D' : Dk} (h : Dsk w d D) (h' : Dsk w d' D') (hf : Fr d' w w') (hne : d ≠ d') : Dsk w' d D := by
  obtain ⟨vs, vp, va, pl, h⟩ := h
  obtain ⟨_, _, _, _, h'⟩ := h'
  exact ⟨vs, vp, va, pl, h.same (hf.rest d hne h.lt) fun k cur t f hk ht => hf.rest k (ne_typed hk h'.box.box (ht.ne (by decide) (by decide) (by decide))) (Array.getElem?_eq_some_iff.1 hk).1⟩
theorem LW.fr {w w' : World} {d : Nat} (h : LW w) (hf : Fr d w w') (hd : ∀ u ∈ usedG, u < d) : LW w' := h.same fun u hu => hf.rest u (by have := hd u hu; omega) (h.lt u hu)
theorem DM.pv {w : World} {d : Nat} {D : Dk} {vs vp va : Value} {pl : List Int} (h : DM w d D vs vp va pl) (hp : IsPort D.p) : PtV w (.agg (portCells D.p vs).toArray) D.p :=
  ⟨vs, rfl, h.ships.sl, h.box.four, by have := hp.port.len; omega⟩
theorem heap_setCells (d : Nat) (t : TypeId) (f : Nat × Nat) : ∀ (vs : List Value) (o : Nat) (w : World) (cur : Array Value), w.heap[d]? = some (.cells cur t f) → o + vs.length ≤ cur.size → (w.setCells d o vs).heap[d]? = some (.cells (cur.toList.take o ++ vs ++ cur.toList.drop (o + vs.length)).toArray t f)
  | [], o, w, cur, hg, hl => by
    show w.heap[d]? = _
    rw [hg]
    simp
  | v :: r, o, w, cur, hg, hl => by
    have hl' : o < cur.size := by simp at hl; omega
    have h1 : (w.setCell ⟨d, o, none⟩ v).heap[d]? = some (.cells (cur.setIfInBounds o v) t f) := by rw [setCell_eq_setRow w d o _ _ _ _ hg, setRow_heap w d _ _ _ _ hg]
    have := heap_setCells d t f r (o + 1) _ _ h1 (by simp at hl ⊢; omega)
    show ((w.setCell ⟨d, o, none⟩ v).setCells d (o + 1) r).heap[d]? = _
    rw [this]
    congr 2
    congr 1
    simp only [Array.toList_setIfInBounds, List.length_cons]
    have e1 : (cur.toList.set o v).take (o + 1) = cur.toList.take o ++ [v] := by
      rw [List.take_add_one, List.take_set_of_le (Nat.le_refl _), List.getElem?_set_self (by simpa using hl')]
      rfl
    have e2 : (cur.toList.set o v).drop (o + 1 + r.length) = cur.toList.drop (o + (r.length + 1)) := by
      rw [List.drop_set_of_lt (by omega), show o + 1 + r.length = o + (r.length + 1) by omega]
    rw [e1, e2]
    simp
theorem fr_setCells {d : Nat} : ∀ (vs : List Value) (o : Nat) (w : World), Fr d w (w.setCells d o vs)
  | [], _, w => Fr.refl d w
  | v :: r, o, w => (Fr.set w o v).trans (fr_setCells r (o + 1) _)
theorem DBx.setPort {w : World} {d : Nat} {p q : Pt} {vs vq vp va : Value} {n : Int} (h : DBx w d p vs vp va n) (h4 : q.kept.length = 4) : DBx (w.setCells d 0 (portCells q vq)) d q vq vp va n := by
  refine ⟨h4, ?_⟩
  have hl := h.len
  rw [heap_setCells d _ _ (portCells q vq) 0 w _ h.box (by simp [dkCells, portCells_length q vq h4, hl])]
  congr 2
  congr 1
  simp only [List.take_zero, List.nil_append, Nat.zero_add, portCells_length q vq h4]
  unfold dkCells
  rw [List.drop_append, List.drop_of_length_le (by omega), hl]
  rfl
theorem DBx.there {w : World} {d : Nat} {p : Pt} {vs vp va : Value} {n : Int} (h : DBx w d p vs vp va n) : w.there d 0 16 := fun j hj => by
  refine ⟨?_, by rw [Nat.zero_add]; exact h.frozen j⟩
  rw [Nat.zero_add, h.cell]
  have : j < (dkCells p vs vp va n).length := by simp [dkCells, h.len]; omega
  rw [List.getElem?_eq_getElem this]
  rfl
theorem wpList_store_desk {w : World} {ops : Array Oper} {rest : List Oper} {o : Oper} {a : Act} {Q : Exit → Act → World → Prop} (hgd : o.guard = none) (x y : Operand) (ho : o.op = .store 41 x y) (d : Nat) (p q : Pt) (vs vq vp va : Value) (n : Int)
    (hx : a.eval x = .pointer (some ⟨d, 0, none⟩)) (hy : a.eval y = .agg (portCells q vq).toArray) (hA : DBx w d p vs vp va n) (h4 : q.kept.length = 4) (hv : vq.oneCell' = true)
    (h : ∀ w', Hid (DBx w' d q vq vp va n ∧ Fr d w w') → wpList Tryz.prog ops Q rest (a.put o.dst undef) w') : wpList Tryz.prog ops Q (o :: rest) a w := by
  have hs : (portCells q vq).toArray.size = 16 := by simp [portCells_length q vq h4]
  refine wpList_store_mid hgd 41 x y ho d 0 (portCells q vq).toArray hx hy (by rw [hs]; exact hA.there) (by rw [hs]; exact sizePort) (all_oneCell_toArray (portCells_one q vq hv)) (h _ ⟨?_, fr_setCells _ _ _⟩)
  exact hA.setPort h4
theorem wpList_load_desk {w : World} {ops : Array Oper} {rest : List Oper} {o : Oper} {a : Act} {Q : Exit → Act → World → Prop} (hgd : o.guard = none) (x : Operand) (ho : o.op = .load 41 x) (d : Nat) (p : Pt) (vs vp va : Value) (n : Int)
    (hx : a.eval x = .pointer (some ⟨d, 0, none⟩)) (hA : DBx w d p vs vp va n) (h : wpList Tryz.prog ops Q rest (a.put o.dst (.agg (portCells p vs).toArray)) w) : wpList Tryz.prog ops Q (o :: rest) a w :=
  wpList_load_mid hgd 41 x ho d 0 hx (portCells p vs) _ hA.port Tryz.underlying41 rfl (portInfo p vs hA.four) h
end Go.Proofs.YtcmdoeledmkfmacGreatDoor
