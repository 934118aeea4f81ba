/- The mathematics of cutting, shifting and joining steps, with no program in it; no condition but those that each theorem bears. -/
import Derived.Test.YtghhegajbehpeaaMath
set_option linter.unusedSimpArgs false
set_option linter.unusedVariables false
namespace Go.Proofs.Ytghhegajbehpeaa

/-- steps that are a profile but for neighbours that may be alike -/
structure Loose (l : List (Int × Int)) : Prop where
  pos : 0 < l.length
  first : (sAt l 0).1 = 0
  lt : ∀ j, j < l.length → (sAt l j).1 < 300
  lo : ∀ j, j < l.length → 0 ≤ (sAt l j).2
  hi : ∀ j, j < l.length → (sAt l j).2 ≤ 16
  rise : Rise l

theorem Good.loose {l : List (Int × Int)} (g : Good l) : Loose l := ⟨g.pos, g.first, g.lt, g.lo, g.hi, g.rise⟩

theorem Loose.len {l : List (Int × Int)} (g : Loose l) : l.length ≤ 300 := by
  have h1 := g.rise.idx (by rw [g.first]; exact Int.le_refl _) (l.length - 1) (by have := g.pos; omega)
  have h2 := g.lt (l.length - 1) (by have := g.pos; omega)
  omega

theorem Loose.nonneg {l : List (Int × Int)} (g : Loose l) (j : Nat) (hj : j < l.length) : 0 ≤ (sAt l j).1 := by
  have := g.rise.idx (by rw [g.first]; exact Int.le_refl _) j hj; omega

/-- a step of l begins at u -/
def Beg (l : List (Int × Int)) (u : Int) : Prop := ∃ j, j < l.length ∧ (sAt l j).1 = u

/-- what cutting at t makes of l -/
structure CutSpec (l : List (Int × Int)) (t : Int) (l' : List (Int × Int)) : Prop where
  loose : Loose l'
  same : ∀ s, 0 ≤ s → val l' s = val l s
  beg : t < 300 → Beg l' t
  keep : ∀ u, Beg l u → Beg l' u

theorem sAt_ins (l : List (Int × Int)) (i : Nat) (hi : i ≤ l.length) (x : Int × Int) (j : Nat) : sAt (l.take i ++ x :: l.drop i) j = if j < i then sAt l j else if j = i then x else sAt l (j - 1) := by
  unfold sAt
  simp only [List.getD_eq_getElem?_getD, List.getElem?_append, List.length_take, Nat.min_eq_left hi]
  by_cases h1 : j < i
  · simp [h1, List.getElem?_take]
  · by_cases h2 : j = i
    · subst h2; simp
    · obtain ⟨k, hk⟩ : ∃ k, j - i = k + 1 := ⟨j - i - 1, by omega⟩
      rw [if_neg h1, if_neg h1, if_neg h2, hk, List.getElem?_cons_succ, List.getElem?_drop]
      congr 2
      omega

theorem len_ins (l : List (Int × Int)) (i : Nat) (hi : i ≤ l.length) (x : Int × Int) : (l.take i ++ x :: l.drop i).length = l.length + 1 := by simp; omega

theorem CutSpec.self {l : List (Int × Int)} {t : Int} (g : Loose l) (h : t < 300 → Beg l t) : CutSpec l t l := ⟨g, fun _ _ => rfl, h, fun _ h => h⟩

/-- at a place where no step begins at t, ahead of End -/
theorem CutSpec.ins {l : List (Int × Int)} {t : Int} {i : Nat} (g : Loose l) (h0 : 0 ≤ t) (h3 : t < 300) (hc : CutAt l t i) (hf : fnd l t i = false) :
    0 < i ∧ CutSpec l t (l.take i ++ (t, (sAt l (i - 1)).2) :: l.drop i) := by
  obtain ⟨c1, c2, c3⟩ := hc
  have hf := of_decide_eq_false hf
  have hi : 0 < i := by
    apply Nat.pos_of_ne_zero
    intro e
    subst e
    have := c3 0 (Nat.le_refl _) g.pos
    have := g.first
    exact hf ⟨g.pos, by omega⟩
  refine ⟨hi, ?_⟩
  have hs := sAt_ins l i c1 (t, (sAt l (i - 1)).2)
  have hl := len_ins l i c1 (t, (sAt l (i - 1)).2)
  generalize l.take i ++ (t, (sAt l (i - 1)).2) :: l.drop i = m at hs hl
  have c4 : ∀ k, i ≤ k → k < l.length → t < (sAt l k).1 := by
    intro k hk hk2
    by_cases e : k = i
    · subst e
      have := c3 k (Nat.le_refl _) hk2
      have : (sAt l k).1 ≠ t := fun e => hf ⟨hk2, e⟩
      omega
    · have := c3 i (Nat.le_refl _) (by omega)
      have := g.rise i k (by omega) hk2
      omega
  have lt : ∀ j, j < i → sAt m j = sAt l j := fun j hj => by rw [hs j, if_pos hj]
  have eq : sAt m i = (t, (sAt l (i - 1)).2) := by rw [hs i, if_neg (by omega), if_pos rfl]
  have gt : ∀ j, i ≤ j → sAt m (j + 1) = sAt l j := fun j hj => by rw [hs (j + 1), if_neg (by omega), if_neg (by omega), Nat.add_sub_cancel]
  have hr : Rise m := by
    refine rise_of fun j hj => ?_
    rw [hl] at hj
    by_cases h1 : j + 1 < i
    · rw [lt j (by omega), lt (j + 1) h1]; exact g.rise j (j + 1) (by omega) (by omega)
    · by_cases h2 : j + 1 = i
      · rw [lt j (by omega), h2, eq]; exact c2 j (by omega)
      · by_cases h4 : j = i
        · subst h4; rw [eq, gt j (Nat.le_refl _)]; exact c4 j (Nat.le_refl _) (by omega)
        · obtain ⟨k, rfl⟩ : ∃ k, j = k + 1 := ⟨j - 1, by omega⟩
          rw [gt k (by omega), gt (k + 1) (by omega)]; exact g.rise k (k + 1) (by omega) (by omega)
  have all : ∀ (p : Int × Int → Prop), (∀ j, j < l.length → p (sAt l j)) → p (t, (sAt l (i - 1)).2) → ∀ j, j < m.length → p (sAt m j) := by
    intro p h1 h2 j hj
    rw [hl] at hj
    by_cases a : j < i
    · rw [lt j a]; exact h1 j (by omega)
    · by_cases b : j = i
      · subst b; rw [eq]; exact h2
      · obtain ⟨k, rfl⟩ : ∃ k, j = k + 1 := ⟨j - 1, by omega⟩
        rw [gt k (by omega)]; exact h1 k (by omega)
  refine ⟨⟨by omega, by rw [lt 0 hi]; exact g.first, all (fun s => s.1 < 300) g.lt h3, all (fun s => 0 ≤ s.2) g.lo (g.lo (i - 1) (by omega)), all (fun s => s.2 ≤ 16) g.hi (g.hi (i - 1) (by omega)), hr⟩, fun s h => ?_, fun _ => ⟨i, by omega, by rw [eq]⟩, ?_⟩
  · obtain ⟨j, hj, a, b⟩ := holds_exists g.rise g.pos (t := s) (by rw [g.first]; exact h)
    rw [val_at g.rise hj a b]
    by_cases e1 : i ≤ j
    · rw [val_at hr (j := j + 1) (by omega) (by rw [gt j e1]; exact a) (fun hh => by rw [gt (j + 1) (by omega)]; exact b (by omega)), gt j e1]
    · by_cases e2 : j + 1 < i
      · rw [val_at hr (j := j) (by omega) (by rw [lt j (by omega)]; exact a) (fun hh => by rw [lt (j + 1) e2]; exact b (by omega)), lt j (by omega)]
      · have e3 : j = i - 1 := by omega
        by_cases e4 : s < t
        · rw [val_at hr (j := j) (by omega) (by rw [lt j (by omega)]; exact a) (fun hh => by rw [show j + 1 = i by omega, eq]; exact e4), lt j (by omega)]
        · rw [val_at hr (j := i) (by omega) (by rw [eq]; show t ≤ s; omega) (fun hh => by rw [gt i (Nat.le_refl _)]; have := b (by omega); rwa [show j + 1 = i by omega] at this), eq, e3]
  · rintro u ⟨j, hj, rfl⟩
    by_cases a : j < i
    · exact ⟨j, by omega, by rw [lt j a]⟩
    · exact ⟨j + 1, by omega, by rw [gt j (by omega)]⟩

/-- in m the steps of q from place a to ahead of i have d more -/
def ShInv (q : List (Int × Int)) (a i : Nat) (d : Int) (m : List (Int × Int)) : Prop :=
  m.length = q.length ∧ ∀ j, j < q.length → sAt m j = if a ≤ j ∧ j < i then ((sAt q j).1, (sAt q j).2 + d) else sAt q j

theorem sAt_set (m : List (Int × Int)) (k : Nat) (x : Int × Int) (j : Nat) (hk : k < m.length) : sAt (m.set k x) j = if j = k then x else sAt m j := by
  unfold sAt
  simp only [List.getD_eq_getElem?_getD, List.getElem?_set]
  by_cases e : j = k
  · subst e; simp [hk]
  · rw [if_neg (by omega), if_neg e]

theorem ShInv.start (q : List (Int × Int)) (a : Nat) (d : Int) : ShInv q a a d q := ⟨rfl, fun j _ => by rw [if_neg (by omega)]⟩

theorem ShInv.step {q m : List (Int × Int)} {a i : Nat} {d : Int} (h : ShInv q a i d m) (ha : a ≤ i) (hi : i < q.length) : ShInv q a (i + 1) d (m.set i ((sAt m i).1, (sAt m i).2 + d)) := by
  refine ⟨by rw [List.length_set]; exact h.1, fun j hj => ?_⟩
  rw [sAt_set _ _ _ _ (by rw [h.1]; exact hi)]
  have h2 := h.2 i hi
  rw [if_neg (by omega)] at h2
  by_cases e : j = i
  · subst e; rw [if_pos rfl, if_pos ⟨ha, by omega⟩, h2]
  · rw [if_neg e, h.2 j hj]
    by_cases c : a ≤ j ∧ j < i
    · rw [if_pos c, if_pos ⟨c.1, by omega⟩]
    · rw [if_neg c, if_neg (by omega)]

theorem ShInv.here {q m : List (Int × Int)} {a i : Nat} {d : Int} (h : ShInv q a i d m) (hi : i < q.length) : sAt m i = sAt q i := by
  rw [h.2 i hi, if_neg (by omega)]

/-- steps that follow a step, of which neighbours that are alike become one -/
def compAfter (v : Int) : List (Int × Int) → List (Int × Int)
  | [] => []
  | s :: r => if s.2 = v then compAfter s.2 r else s :: compAfter s.2 r

/-- steps of which neighbours that are alike become one -/
def compactL : List (Int × Int) → List (Int × Int)
  | [] => []
  | s :: r => s :: compAfter s.2 r

/-- what the last one says -/
def lastV (v : Int) : List (Int × Int) → Int
  | [] => v
  | s :: r => lastV s.2 r

theorem compAfter_snoc (v : Int) (r : List (Int × Int)) (x : Int × Int) : compAfter v (r ++ [x]) = compAfter v r ++ (if x.2 = lastV v r then [] else [x]) := by
  induction r generalizing v with
  | nil => by_cases e : x.2 = v <;> simp [compAfter, lastV, e]
  | cons s r ih =>
    simp only [List.cons_append, compAfter, lastV]
    rw [ih]
    by_cases e : s.2 = v
    · rw [if_pos e, if_pos e]; by_cases e2 : x.2 = lastV s.2 r <;> simp [e2]
    · rw [if_neg e, if_neg e, List.cons_append]; by_cases e2 : x.2 = lastV s.2 r <;> simp [e2]

theorem lastV_snoc (v : Int) (r : List (Int × Int)) (x : Int × Int) : lastV v (r ++ [x]) = x.2 := by
  induction r generalizing v with
  | nil => rfl
  | cons s r ih => simp only [List.cons_append, lastV]; exact ih s.2

theorem take_snoc {l : List (Int × Int)} {p : Nat} (h : p < l.length) : l.take (p + 1) = l.take p ++ [sAt l p] := by
  rw [List.take_succ_eq_append_getElem h, sAt_get h]

theorem compact_step {m : List (Int × Int)} {p : Nat} (h0 : 0 < p) (h : p < m.length) : compactL (m.take (p + 1)) = compactL (m.take p) ++ (if (sAt m p).2 = (sAt m (p - 1)).2 then [] else [sAt m p]) := by
  obtain ⟨k, rfl⟩ : ∃ k, p = k + 1 := ⟨p - 1, by omega⟩
  rw [take_snoc h, Nat.add_sub_cancel]
  cases m with
  | nil => simp at h
  | cons s r =>
    simp only [List.take_succ_cons, List.cons_append, compactL, compAfter_snoc]
    have e : lastV s.2 (r.take k) = (sAt (s :: r) k).2 := by
      cases k with
      | zero => rfl
      | succ k =>
        rw [take_snoc (by simp at h; omega), lastV_snoc]
        rfl
    rw [e]

/-- the first p steps have been joined into the first k of mm -/
structure CInv (m : List (Int × Int)) (p k : Nat) (mm : List (Int × Int)) : Prop where
  len : mm.length = m.length
  lt : k < p
  le : p ≤ m.length
  one : 0 < k
  done : mm.take k = compactL (m.take p)
  left : ∀ q, p ≤ q + 1 → q < m.length → sAt mm q = sAt m q

theorem compact_take_self {m : List (Int × Int)} : ∀ k, k ≤ m.length → (∀ j, 0 < j → j < k → (sAt m j).2 ≠ (sAt m (j - 1)).2) → compactL (m.take k) = m.take k := by
  intro k
  induction k with
  | zero => intro _ _; simp [compactL]
  | succ k ih =>
    intro hk h
    by_cases h0 : 0 < k
    · rw [compact_step h0 (by omega), if_neg (h k h0 (by omega)), ih (by omega) (fun j a b => h j a (by omega)), take_snoc (by omega)]
    · have : k = 0 := by omega
      subst this
      cases m with
      | nil => simp at hk
      | cons s r => simp [compactL, compAfter]

theorem CInv.start {m : List (Int × Int)} {k : Nat} (h0 : 0 < k) (hk : k < m.length) (h : ∀ j, 0 < j → j < k → (sAt m j).2 ≠ (sAt m (j - 1)).2) (he : (sAt m k).2 = (sAt m (k - 1)).2) : CInv m (k + 1) k m :=
  ⟨rfl, by omega, by omega, h0, by rw [compact_step h0 hk, if_pos he, List.append_nil, compact_take_self k (by omega) h], fun _ _ _ => rfl⟩

theorem CInv.skip {m mm : List (Int × Int)} {p k : Nat} (I : CInv m p k mm) (hp : p < m.length) (he : (sAt m p).2 = (sAt m (p - 1)).2) : CInv m (p + 1) k mm :=
  ⟨I.len, by have := I.lt; omega, by omega, I.one, by rw [compact_step (by have := I.lt; omega) hp, if_pos he, List.append_nil]; exact I.done, fun q a b => I.left q (by omega) b⟩

theorem CInv.keep {m mm : List (Int × Int)} {p k : Nat} (I : CInv m p k mm) (hp : p < m.length) (he : (sAt m p).2 ≠ (sAt m (p - 1)).2) : CInv m (p + 1) (k + 1) (mm.set k (sAt m p)) := by
  have hlt := I.lt; have hlen := I.len
  refine ⟨by rw [List.length_set]; exact I.len, by omega, by omega, by omega, ?_, fun q a b => ?_⟩
  · rw [compact_step (by omega) hp, if_neg he, ← I.done, take_snoc (by rw [List.length_set]; omega), sAt_set _ _ _ _ (by omega), if_pos rfl, List.take_set_of_le (Nat.le_refl _)]
  · rw [sAt_set _ _ _ _ (by omega), if_neg (by omega)]; exact I.left q (by omega) b

theorem CInv.final {m mm : List (Int × Int)} {k : Nat} (I : CInv m m.length k mm) : mm.take k = compactL m ∧ (compactL m).length = k := by
  have h := I.done
  rw [List.take_length] at h
  have := I.lt; have := I.len
  exact ⟨h, by rw [← h, List.length_take]; omega⟩

theorem compact_self {m : List (Int × Int)} (h : ∀ j, 0 < j → j < m.length → (sAt m j).2 ≠ (sAt m (j - 1)).2) : compactL m = m := by
  have := compact_take_self m.length (Nat.le_refl _) h
  rwa [List.take_length] at this

/-- behind a step -/
def Ch (a : Int × Int) : List (Int × Int) → Prop
  | [] => True
  | s :: r => a.1 < s.1 ∧ Ch s r

theorem ch_of {a : Int × Int} {r : List (Int × Int)} (h : ∀ j, j + 1 < (a :: r).length → (sAt (a :: r) j).1 < (sAt (a :: r) (j + 1)).1) : Ch a r := by
  induction r generalizing a with
  | nil => trivial
  | cons s r ih =>
    refine ⟨h 0 (by simp), ih fun j hj => ?_⟩
    have := h (j + 1) (by simpa using hj)
    exact this

theorem Ch.all {a : Int × Int} {r : List (Int × Int)} (h : Ch a r) : ∀ s ∈ r, a.1 < s.1 := by
  induction r generalizing a with
  | nil => intro s hs; cases hs
  | cons x r ih =>
    intro s hs
    rcases List.mem_cons.1 hs with rfl | hs
    · exact h.1
    · have := ih h.2 s hs; have := h.1; omega

theorem mem_compAfter {v : Int} {r : List (Int × Int)} {s : Int × Int} (h : s ∈ compAfter v r) : s ∈ r := by
  induction r generalizing v with
  | nil => cases h
  | cons x r ih =>
    simp only [compAfter] at h
    split at h
    · exact List.mem_cons_of_mem _ (ih h)
    · rcases List.mem_cons.1 h with rfl | h
      · exact List.mem_cons_self
      · exact List.mem_cons_of_mem _ (ih h)

theorem val_compAfter {a : Int × Int} {r : List (Int × Int)} (h : Ch a r) (v d t : Int) (hd : d = v ∨ t < a.1) : valFrom d (compAfter v r) t = valFrom d r t := by
  induction r generalizing a v d with
  | nil => rfl
  | cons s r ih =>
    obtain ⟨h1, h2⟩ := h
    by_cases ht : s.1 ≤ t
    · have e : d = v := by rcases hd with h | h; exact h; omega
      subst e
      simp only [compAfter, valFrom]
      rw [if_pos ht]
      by_cases e2 : s.2 = d
      · rw [if_pos e2, e2]
        exact ih h2 d d (Or.inl rfl)
      · rw [if_neg e2]
        simp only [valFrom]
        rw [if_pos ht]
        exact ih h2 s.2 s.2 (Or.inl rfl)
    · rw [valFrom_skip d (s :: r) t (fun x hx => by
        rcases List.mem_cons.1 hx with rfl | hx
        · omega
        · have := h2.all x hx; omega)]
      exact valFrom_skip d _ t fun x hx => by
        have hx := mem_compAfter hx
        rcases List.mem_cons.1 hx with rfl | hx
        · omega
        · have := h2.all x hx; omega

/-- behind a step, each another one than the one ahead -/
def Ch2 (a : Int × Int) : List (Int × Int) → Prop
  | [] => True
  | s :: r => a.1 < s.1 ∧ s.2 ≠ a.2 ∧ Ch2 s r

theorem ch2_comp {a b : Int × Int} {r : List (Int × Int)} (h : Ch b r) (hab : a.1 ≤ b.1) : Ch2 a (compAfter a.2 r) := by
  induction r generalizing a b with
  | nil => trivial
  | cons s r ih =>
    obtain ⟨h1, h2⟩ := h
    simp only [compAfter]
    by_cases e : s.2 = a.2
    · rw [if_pos e, e]; exact ih h2 (by omega)
    · rw [if_neg e]; exact ⟨by omega, e, ih h2 (Int.le_refl _)⟩

theorem Ch2.idx {a : Int × Int} {r : List (Int × Int)} (h : Ch2 a r) : ∀ j, j + 1 < (a :: r).length → (sAt (a :: r) j).1 < (sAt (a :: r) (j + 1)).1 ∧ (sAt (a :: r) (j + 1)).2 ≠ (sAt (a :: r) j).2 := by
  induction r generalizing a with
  | nil => intro j hj; simp at hj
  | cons s r ih =>
    intro j hj
    cases j with
    | zero => exact ⟨h.1, h.2.1⟩
    | succ j => exact ih h.2.2 j (by simpa using hj)

/-- joining makes a profile that says the same -/
theorem compact_good {m : List (Int × Int)} (g : Loose m) : Good (compactL m) ∧ ∀ t, 0 ≤ t → val (compactL m) t = val m t := by
  cases m with
  | nil => have := g.pos; simp at this
  | cons a r =>
    have hch : Ch a r := ch_of fun j hj => g.rise j (j + 1) (by omega) hj
    have h2 : Ch2 a (compAfter a.2 r) := ch2_comp hch (Int.le_refl _)
    have hix := h2.idx
    have hmem : ∀ s ∈ compactL (a :: r), s ∈ a :: r := by
      intro s hs
      rcases List.mem_cons.1 hs with rfl | hs
      · exact List.mem_cons_self
      · exact List.mem_cons_of_mem _ (mem_compAfter hs)
    have all : ∀ (p : Int × Int → Prop), (∀ j, j < (a :: r).length → p (sAt (a :: r) j)) → ∀ j, j < (compactL (a :: r)).length → p (sAt (compactL (a :: r)) j) := by
      intro p hp j hj
      obtain ⟨k, hk, e⟩ := mem_idx (hmem (sAt (compactL (a :: r)) j) (by rw [sAt_get hj]; exact List.getElem_mem hj))
      rw [← e]; exact hp k hk
    have hf := g.first
    refine ⟨⟨by simp [compactL], hf, all (fun s => s.1 < 300) g.lt, all (fun s => 0 ≤ s.2) g.lo, all (fun s => s.2 ≤ 16) g.hi, fun j hj => (hix j hj).1, fun j hj => (hix j hj).2⟩, fun t ht => ?_⟩
    have ha : a.1 ≤ t := by have : a.1 = 0 := hf; omega
    simp only [val, compactL, valFrom]
    rw [if_pos ha]
    exact val_compAfter hch a.2 a.2 t (Or.inl rfl)

/-- what Take and Give make of a profile, where they can -/
structure ShiftSpec (l : List (Int × Int)) (fr to d : Int) (r : List (Int × Int)) : Prop where
  good : Good r
  says : ∀ s, 0 ≤ s → s < 300 → val r s = val l s + if fr ≤ s ∧ s < to then d else 0
  fits : ∀ s, fr ≤ s → s < to → 0 ≤ val l s + d ∧ val l s + d ≤ 16

/-- where a step begins at u, whatever holds from u on begins no earlier -/
theorem holder_ge {q : List (Int × Int)} (hr : Rise q) {u s : Int} (hb : Beg q u) (hus : u ≤ s) {j : Nat} (hj : j < q.length) (h2 : j + 1 < q.length → s < (sAt q (j + 1)).1) : u ≤ (sAt q j).1 := by
  obtain ⟨k, hk, rfl⟩ := hb
  apply Classical.byContradiction
  intro hc
  have hkj : j < k := by
    apply Classical.byContradiction
    intro h
    by_cases e : k = j
    · subst e; omega
    · have := hr k j (by omega) hj; omega
  have := h2 (by omega)
  by_cases e : k = j + 1
  · subst e; omega
  · have := hr (j + 1) k (by omega) hk; omega

theorem shift_done {l q m : List (Int × Int)} {fr to d : Int} {a b : Nat} (h0 : 0 ≤ fr) (h1 : fr ≤ to) (h2 : to ≤ 300) (gq : Loose q) (hs : ∀ s, 0 ≤ s → val q s = val l s)
    (bf : fr < 300 → Beg q fr) (bt : to < 300 → Beg q to) (ca : CutAt q fr a) (cb : CutAt q to b) (I : ShInv q a b d m) (hin : ∀ j, a ≤ j → j < b → inB (sAt m j).2 = true) : ShiftSpec l fr to d (compactL m) := by
  obtain ⟨a1, a2, a3⟩ := ca
  obtain ⟨b1, b2, b3⟩ := cb
  have hm1 : ∀ j, j < q.length → (sAt m j).1 = (sAt q j).1 := fun j hj => by rw [I.2 j hj]; split <;> rfl
  have hlen := I.1
  have hrm : Rise m := fun x y hxy hy => by rw [hm1 x (by omega), hm1 y (by omega)]; exact gq.rise x y hxy (by omega)
  have hfree : ∀ j, j < q.length → 0 ≤ (sAt m j).2 ∧ (sAt m j).2 ≤ 16 := fun j hj => by
    by_cases c : a ≤ j ∧ j < b
    · have := of_decide_eq_true (hin j c.1 c.2); exact this
    · rw [I.2 j hj, if_neg c]; exact ⟨gq.lo j hj, gq.hi j hj⟩
  have gm : Loose m := ⟨by rw [hlen]; exact gq.pos, by rw [hm1 0 gq.pos]; exact gq.first, fun j hj => by rw [hm1 j (by omega)]; exact gq.lt j (by omega), fun j hj => (hfree j (by omega)).1, fun j hj => (hfree j (by omega)).2, hrm⟩
  have key : ∀ s, 0 ≤ s → s < 300 → val m s = val l s + if fr ≤ s ∧ s < to then d else 0 := by
    intro s s0 s3
    obtain ⟨j, hj, x, y⟩ := holds_exists gq.rise gq.pos (t := s) (by rw [gq.first]; exact s0)
    have vq := val_at gq.rise hj x y
    have vm := val_at hrm (j := j) (by omega) (by rw [hm1 j hj]; exact x) (fun hh => by rw [hm1 (j + 1) (by omega)]; exact y (by omega))
    have e1 : a ≤ j ↔ fr ≤ s := by
      constructor
      · intro h; have := a3 j h hj; omega
      · intro h
        have := holder_ge gq.rise (bf (by omega)) h hj y
        apply Classical.byContradiction
        intro hc
        have := a2 j (by omega)
        omega
    have e2 : j < b ↔ s < to := by
      constructor
      · intro h
        apply Classical.byContradiction
        intro hc
        have := holder_ge gq.rise (bt (by omega)) (by omega) hj y
        have := b2 j h
        omega
      · intro h
        apply Classical.byContradiction
        intro hc
        have := b3 j (by omega) hj
        omega
    rw [vm, I.2 j hj, ← hs s s0, vq]
    by_cases c : a ≤ j ∧ j < b
    · rw [if_pos c, if_pos ⟨e1.1 c.1, e2.1 c.2⟩]
    · rw [if_neg c, if_neg (fun h => c ⟨e1.2 h.1, e2.2 h.2⟩)]; omega
  obtain ⟨g1, g2⟩ := compact_good gm
  refine ⟨g1, fun s s0 s3 => by rw [g2 s s0]; exact key s s0 s3, fun s x y => ?_⟩
  have k := key s (by omega) (by omega)
  rw [if_pos ⟨x, y⟩] at k
  rw [← k]
  obtain ⟨j, hj, x', y'⟩ := holds_exists hrm gm.pos (t := s) (by rw [gm.first]; omega)
  rw [val_at hrm hj x' y']
  exact hfree j (by omega)

theorem shift_not {l q m : List (Int × Int)} {fr to d : Int} {a b i : Nat} (h2 : to ≤ 300) (gq : Loose q) (hs : ∀ s, 0 ≤ s → val q s = val l s)
    (ca : CutAt q fr a) (cb : CutAt q to b) (ha : a ≤ i) (hi : i < b) (hin : inB ((sAt q i).2 + d) = false) : ∃ s, fr ≤ s ∧ s < to ∧ ¬ (0 ≤ val l s + d ∧ val l s + d ≤ 16) := by
  obtain ⟨a1, a2, a3⟩ := ca
  obtain ⟨b1, b2, b3⟩ := cb
  have hil : i < q.length := by omega
  refine ⟨(sAt q i).1, a3 i ha hil, b2 i hi, ?_⟩
  rw [← hs _ (gq.nonneg i hil), val_at gq.rise hil (Int.le_refl _) (fun hh => gq.rise i (i + 1) (by omega) hh)]
  exact of_decide_eq_false hin

end Go.Proofs.Ytghhegajbehpeaa
