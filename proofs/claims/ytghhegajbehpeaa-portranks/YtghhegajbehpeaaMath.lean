/- The mathematics of profiles, with no program in it: what a profile says at each time, that two profiles that say the same are one, and that cutting, shifting and joining steps say what they should; no condition but those that each theorem bears. -/
set_option linter.unusedSimpArgs false
set_option linter.unusedVariables false
namespace Go.Proofs.Ytghhegajbehpeaa

/-- the j-th step -/
def sAt (l : List (Int × Int)) (j : Nat) : Int × Int := l.getD j (0, 0)

/-- a number of berths that can be -/
def inB (n : Int) : Bool := decide (0 ≤ n ∧ n ≤ 16)

/-- a step may stand behind another one -/
def fol (s a : Int × Int) : Bool := decide (a.1 < s.1 ∧ s.2 ≠ a.2)

/-- how two numbers stand to each other -/
def cmpI (a b : Int) : Int := if a < b then -1 else if b < a then 1 else 0

/-- place i cuts l at t: those ahead begin ahead of t, the others do not -/
def CutAt (l : List (Int × Int)) (t : Int) (i : Nat) : Prop :=
  i ≤ l.length ∧ (∀ k, k < i → (sAt l k).1 < t) ∧ (∀ k, i ≤ k → k < l.length → t ≤ (sAt l k).1)

/-- a step of l begins at t, at place i -/
def fnd (l : List (Int × Int)) (t : Int) (i : Nat) : Bool := decide (i < l.length ∧ (sAt l i).1 = t)

/-- the beginnings rise -/
def Rise (l : List (Int × Int)) : Prop := ∀ a b, a < b → b < l.length → (sAt l a).1 < (sAt l b).1

/-- the step at place j may stand there -/
def okAt (l : List (Int × Int)) (j : Nat) : Bool := decide ((sAt l j).1 < 300) && inB (sAt l j).2 && (j == 0 || fol (sAt l j) (sAt l (j - 1)))

/-- a profile -/
def goodB (l : List (Int × Int)) : Bool := decide (0 < l.length ∧ (sAt l 0).1 = 0 ∧ ∀ j, j < l.length → okAt l j = true)

theorem goodB_false_at {l : List (Int × Int)} (k : Nat) (hk : k < l.length) (h : okAt l k = false) : goodB l = false := by
  unfold goodB
  refine decide_eq_false fun ⟨_, _, h3⟩ => ?_
  have := h3 k hk
  rw [h] at this
  cases this

/-- a profile, in words -/
structure Good (l : List (Int × Int)) : Prop where
  pos : 0 < l.length
  first : (sAt l 0).1 = 0
  lt : ∀ j, j < l.length → (sAt l j).1 < 300
  lo : ∀ j, j < l.length → 0 ≤ (sAt l j).2
  hi : ∀ j, j < l.length → (sAt l j).2 ≤ 16
  up : ∀ j, j + 1 < l.length → (sAt l j).1 < (sAt l (j + 1)).1
  other : ∀ j, j + 1 < l.length → (sAt l (j + 1)).2 ≠ (sAt l j).2

theorem goodB_iff {l : List (Int × Int)} : goodB l = true ↔ Good l := by
  unfold goodB
  rw [decide_eq_true_iff]
  constructor
  · rintro ⟨h1, h2, h3⟩
    have e : ∀ j, j < l.length → (sAt l j).1 < 300 ∧ (0 ≤ (sAt l j).2 ∧ (sAt l j).2 ≤ 16) ∧ (j = 0 ∨ ((sAt l (j - 1)).1 < (sAt l j).1 ∧ (sAt l j).2 ≠ (sAt l (j - 1)).2)) := fun j hj => by
      have := h3 j hj
      simpa [okAt, inB, fol, and_assoc] using this
    refine ⟨h1, h2, fun j hj => (e j hj).1, fun j hj => (e j hj).2.1.1, fun j hj => (e j hj).2.1.2, fun j hj => ?_, fun j hj => ?_⟩
    · rcases (e (j + 1) hj).2.2 with h | h
      · omega
      · exact h.1
    · rcases (e (j + 1) hj).2.2 with h | h
      · omega
      · exact h.2
  · intro g
    refine ⟨g.pos, g.first, fun j hj => ?_⟩
    have h1 := g.lt j hj; have h2 := g.lo j hj; have h3 := g.hi j hj
    by_cases hj0 : j = 0
    · subst hj0; simp [okAt, inB, fol]; omega
    · obtain ⟨m, rfl⟩ : ∃ m, j = m + 1 := ⟨j - 1, by omega⟩
      have h4 := g.up m hj; have h5 := g.other m hj
      simp [okAt, inB, fol]
      exact ⟨⟨by omega, by omega, by omega⟩, by omega, h5⟩

theorem rise_of {l : List (Int × Int)} (h : ∀ j, j + 1 < l.length → (sAt l j).1 < (sAt l (j + 1)).1) : Rise l := by
  intro a b hab
  induction b with
  | zero => omega
  | succ b ih =>
    intro hb
    have := h b hb
    by_cases e : a = b
    · subst e; exact this
    · have := ih (by omega) (by omega); omega

theorem Good.rise {l : List (Int × Int)} (g : Good l) : Rise l := rise_of g.up

theorem Rise.idx {l : List (Int × Int)} (h : Rise l) (h0 : 0 ≤ (sAt l 0).1) : ∀ j, j < l.length → (j : Int) ≤ (sAt l j).1 := by
  intro j
  induction j with
  | zero => intro _; simpa using h0
  | succ j ih => intro hj; have := ih (by omega); have := h j (j + 1) (by omega) hj; omega

theorem Good.len {l : List (Int × Int)} (g : Good l) : l.length ≤ 300 := by
  have h1 := g.rise.idx (by rw [g.first]; exact Int.le_refl _) (l.length - 1) (by have := g.pos; omega)
  have h2 := g.lt (l.length - 1) (by have := g.pos; omega)
  omega

theorem Good.nonneg {l : List (Int × Int)} (g : Good l) (j : Nat) (hj : j < l.length) : 0 ≤ (sAt l j).1 := by
  have := g.rise.idx (by rw [g.first]; exact Int.le_refl _) j hj; omega

theorem cmpI_neg {a b : Int} : cmpI a b < 0 ↔ a < b := by
  unfold cmpI; split <;> (try split) <;> omega
theorem cmpI_zero {a b : Int} : cmpI a b = 0 ↔ a = b := by
  unfold cmpI; split <;> (try split) <;> omega

/-- the first n steps are cut somewhere -/
theorem cut_exists_to {l : List (Int × Int)} (hr : Rise l) (t : Int) : ∀ n, n ≤ l.length → ∃ i, i ≤ n ∧ (∀ k, k < i → (sAt l k).1 < t) ∧ (∀ k, i ≤ k → k < n → t ≤ (sAt l k).1) := by
  intro n
  induction n with
  | zero => intro _; exact ⟨0, Nat.le_refl _, fun k hk => absurd hk (Nat.not_lt_zero _), fun k _ hk => absurd hk (Nat.not_lt_zero _)⟩
  | succ n ih =>
    intro hn
    obtain ⟨i, h1, h2, h3⟩ := ih (by omega)
    by_cases h : (sAt l n).1 < t
    · refine ⟨n + 1, Nat.le_refl _, fun k hk => ?_, fun k hk hk2 => by omega⟩
      by_cases e : k = n
      · subst e; exact h
      · have := hr k n (by omega) (by omega); omega
    · refine ⟨i, by omega, h2, fun k hk hk2 => ?_⟩
      by_cases e : k = n
      · subst e; omega
      · exact h3 k hk (by omega)

theorem cut_exists {l : List (Int × Int)} (hr : Rise l) (t : Int) : ∃ i, CutAt l t i := by
  obtain ⟨i, h1, h2, h3⟩ := cut_exists_to hr t l.length (Nat.le_refl _)
  exact ⟨i, h1, h2, h3⟩

/-- what steps say at a time, if what was said ahead of them is d -/
def valFrom (d : Int) : List (Int × Int) → Int → Int
  | [], _ => d
  | s :: r, t => valFrom (if s.1 ≤ t then s.2 else d) r t

/-- how many are free at a time -/
def val (l : List (Int × Int)) (t : Int) : Int := valFrom 0 l t

theorem valFrom_append (d : Int) (a b : List (Int × Int)) (t : Int) : valFrom d (a ++ b) t = valFrom (valFrom d a t) b t := by
  induction a generalizing d with
  | nil => rfl
  | cons s r ih => simp only [List.cons_append, valFrom]; rw [ih]

theorem valFrom_skip (d : Int) (r : List (Int × Int)) (t : Int) (h : ∀ s ∈ r, t < s.1) : valFrom d r t = d := by
  induction r generalizing d with
  | nil => rfl
  | cons s r ih =>
    simp only [valFrom]
    have h1 := h s (by simp)
    rw [if_neg (by omega)]
    exact ih d fun x hx => h x (by simp [hx])

theorem sAt_get {l : List (Int × Int)} {j : Nat} (h : j < l.length) : sAt l j = l[j] := by simp [sAt, h]

theorem mem_idx {l : List (Int × Int)} {s : Int × Int} (h : s ∈ l) : ∃ j, j < l.length ∧ sAt l j = s := by
  obtain ⟨j, hj, e⟩ := List.mem_iff_getElem.1 h
  exact ⟨j, hj, by rw [sAt_get hj, e]⟩

theorem mem_drop_idx {l : List (Int × Int)} {n : Nat} {s : Int × Int} (h : s ∈ l.drop n) : ∃ j, n ≤ j ∧ j < l.length ∧ sAt l j = s := by
  obtain ⟨j, hj, e⟩ := List.mem_iff_getElem.1 h
  rw [List.length_drop] at hj
  rw [List.getElem_drop] at e
  exact ⟨n + j, by omega, by omega, by rw [sAt_get (by omega), e]⟩

/-- the step that holds at a time says what is said at it -/
theorem val_at {l : List (Int × Int)} (hr : Rise l) {t : Int} {j : Nat} (hj : j < l.length) (h1 : (sAt l j).1 ≤ t) (h2 : j + 1 < l.length → t < (sAt l (j + 1)).1) : val l t = (sAt l j).2 := by
  have e : l = l.take j ++ (l[j] :: l.drop (j + 1)) := by rw [← List.drop_eq_getElem_cons hj, List.take_append_drop]
  have e2 : val l t = valFrom (sAt l j).2 (l.drop (j + 1)) t := by
    unfold val
    rw [congrArg (fun x => valFrom 0 x t) e, valFrom_append]
    simp only [valFrom]
    rw [← sAt_get hj, if_pos h1]
  rw [e2]
  refine valFrom_skip _ _ _ fun s hs => ?_
  obtain ⟨k, hk, hk2, rfl⟩ := mem_drop_idx hs
  have h3 := h2 (by omega)
  by_cases ek : k = j + 1
  · subst ek; exact h3
  · have := hr (j + 1) k (by omega) hk2; omega

/-- some step holds at a time from the first one's beginning on -/
theorem holds_exists {l : List (Int × Int)} (hr : Rise l) (hp : 0 < l.length) {t : Int} (h0 : (sAt l 0).1 ≤ t) : ∃ j, j < l.length ∧ (sAt l j).1 ≤ t ∧ (j + 1 < l.length → t < (sAt l (j + 1)).1) := by
  obtain ⟨i, h1, h2, h3⟩ := cut_exists hr (t + 1)
  have hi : 0 < i := by
    apply Nat.pos_of_ne_zero
    intro e
    have := h3 0 (by omega) hp
    omega
  exact ⟨i - 1, by omega, by have := h2 (i - 1) (by omega); omega, fun h => by have := h3 (i - 1 + 1) (by omega) h; omega⟩

theorem Good.val_bounds {l : List (Int × Int)} (g : Good l) {t : Int} (h : 0 ≤ t) : 0 ≤ val l t ∧ val l t ≤ 16 := by
  obtain ⟨j, hj, h1, h2⟩ := holds_exists g.rise g.pos (t := t) (by rw [g.first]; exact h)
  rw [val_at g.rise hj h1 h2]
  exact ⟨g.lo j hj, g.hi j hj⟩

/-- of two profiles that say the same, the one goes on as the other does -/
theorem same_steps_to {l m : List (Int × Int)} (gl : Good l) (gm : Good m) (h : ∀ t, 0 ≤ t → t < 300 → val l t = val m t) : ∀ j, j ≤ l.length → j ≤ m.length ∧ ∀ k, k < j → sAt l k = sAt m k := by
  intro j
  induction j with
  | zero => intro _; exact ⟨Nat.zero_le _, fun k hk => absurd hk (Nat.not_lt_zero _)⟩
  | succ j ih =>
    intro hj
    obtain ⟨h1, h2⟩ := ih (by omega)
    have key : j < m.length ∧ sAt l j = sAt m j := by
      by_cases hj0 : j = 0
      · subst hj0
        refine ⟨gm.pos, Prod.ext (by rw [gl.first, gm.first]) ?_⟩
        have e1 := val_at gl.rise (t := 0) gl.pos (by rw [gl.first]; exact Int.le_refl _) (fun hh => by have := gl.up 0 hh; rw [gl.first] at this; exact this)
        have e2 := val_at gm.rise (t := 0) gm.pos (by rw [gm.first]; exact Int.le_refl _) (fun hh => by have := gm.up 0 hh; rw [gm.first] at this; exact this)
        rw [← e1, ← e2]; exact h 0 (by omega) (by omega)
      · obtain ⟨i, rfl⟩ : ∃ i, j = i + 1 := ⟨j - 1, by omega⟩
        have ei := h2 i (by omega)
        have u := gl.up i (by omega)
        have o := gl.other i (by omega)
        have n0 := gl.nonneg i (by omega)
        have lt := gl.lt (i + 1) (by omega)
        have va : val l (sAt l (i + 1)).1 = (sAt l (i + 1)).2 := val_at gl.rise (by omega) (Int.le_refl _) (fun hh => gl.up (i + 1) hh)
        have hm : i + 1 < m.length ∧ (sAt m (i + 1)).1 ≤ (sAt l (i + 1)).1 := by
          apply Classical.byContradiction
          intro hc
          have vm : val m (sAt l (i + 1)).1 = (sAt m i).2 := val_at gm.rise (by omega) (by rw [← ei]; omega) (fun hh => by
            apply Classical.byContradiction
            intro hc2
            exact hc ⟨hh, by omega⟩)
          have := h (sAt l (i + 1)).1 (by omega) lt
          rw [va, vm, ← ei] at this
          exact o this
        obtain ⟨hm1, hm2⟩ := hm
        have um := gm.up i hm1
        have om := gm.other i hm1
        have vmm : val m (sAt m (i + 1)).1 = (sAt m (i + 1)).2 := val_at gm.rise hm1 (Int.le_refl _) (fun hh => gm.up (i + 1) hh)
        have e1 : (sAt l (i + 1)).1 = (sAt m (i + 1)).1 := by
          apply Classical.byContradiction
          intro hc
          have vl : val l (sAt m (i + 1)).1 = (sAt l i).2 := val_at gl.rise (by omega) (by rw [ei]; omega) (fun _ => by omega)
          have := h (sAt m (i + 1)).1 (by rw [← ei] at um; omega) (by omega)
          rw [vl, vmm, ei] at this
          exact om this.symm
        refine ⟨hm1, Prod.ext e1 ?_⟩
        have := h (sAt l (i + 1)).1 (by omega) lt
        rw [va, e1, vmm] at this
        exact this
    exact ⟨by omega, fun k hk => by
      by_cases e : k = j
      · subst e; exact key.2
      · exact h2 k (by omega)⟩

/-- at the place where a time stands, or would have to be set, is what is said at it -/
theorem cut_val {l : List (Int × Int)} (g : Good l) {t : Int} (h0 : 0 ≤ t) {i : Nat} (hc : CutAt l t i) :
    (fnd l t i = true → i < l.length ∧ val l t = (sAt l i).2) ∧ (fnd l t i = false → ∃ m, i = m + 1 ∧ m < l.length ∧ val l t = (sAt l m).2) := by
  obtain ⟨h1, h2, h3⟩ := hc
  unfold fnd
  constructor
  · intro hf
    obtain ⟨hi, e⟩ := of_decide_eq_true hf
    exact ⟨hi, val_at g.rise hi (by omega) (fun hh => by have := g.up i hh; omega)⟩
  · intro hf
    have hf := of_decide_eq_false hf
    have hi : 0 < i := by
      apply Nat.pos_of_ne_zero
      intro e
      subst e
      have := h3 0 (Nat.le_refl _) g.pos
      have := g.first
      exact hf ⟨g.pos, by omega⟩
    refine ⟨i - 1, by omega, by omega, val_at g.rise (by omega) (by have := h2 (i - 1) (by omega); omega) (fun hh => ?_)⟩
    have e : i - 1 + 1 = i := by omega
    rw [e] at hh ⊢
    have := h3 i (Nat.le_refl _) hh
    have : (sAt l i).1 ≠ t := fun e => hf ⟨hh, e⟩
    omega

/-- PROFILES THAT SAY THE SAME ARE ONE. -/
theorem same_profile {l m : List (Int × Int)} (gl : Good l) (gm : Good m) (h : ∀ t, 0 ≤ t → t < 300 → val l t = val m t) : l = m := by
  obtain ⟨h1, h2⟩ := same_steps_to gl gm h l.length (Nat.le_refl _)
  obtain ⟨h3, _⟩ := same_steps_to gm gl (fun t a b => (h t a b).symm) m.length (Nat.le_refl _)
  refine List.ext_getElem (by omega) fun j ha hb => ?_
  rw [← sAt_get ha, ← sAt_get hb]
  exact h2 j ha

/-- when the step at place i ends -/
def endOf (l : List (Int × Int)) (i : Nat) : Int := if i + 1 < l.length then (sAt l (i + 1)).1 else 300

/-- n are free from t on, for so long -/
def room (l : List (Int × Int)) (n t long : Int) : Prop := ∀ s, t ≤ s → s < t + long → n ≤ val l s

/-- the first time from which n are free for so long, or -1 -/
def FitIs (l : List (Int × Int)) (fr long n r : Int) : Prop :=
  (r = -1 ∧ ∀ t, fr ≤ t → t + long ≤ 300 → ¬ room l n t long) ∨ (fr ≤ r ∧ r + long ≤ 300 ∧ room l n r long ∧ ∀ t, fr ≤ t → t < r → ¬ room l n t long)

/-- what holds of the search for the first time, ahead of step i, which begins at b (300: there is none left) -/
structure FitInv (l : List (Int × Int)) (fr long n st b : Int) : Prop where
  from_ : fr ≤ st
  no : ∀ t, fr ≤ t → t < st → ¬ room l n t long
  yes : ∀ s, st ≤ s → s < b → n ≤ val l s
  short : b < st + long

theorem FitInv.start {l : List (Int × Int)} {fr long n : Int} (h0 : 0 ≤ fr) (hl : 1 ≤ long) : FitInv l fr long n fr 0 :=
  ⟨Int.le_refl _, fun t a b => by omega, fun s a b => by omega, by omega⟩

theorem begOf {l : List (Int × Int)} (g : Good l) {i : Nat} (hi : i < l.length) : (sAt l i).1 < endOf l i ∧ endOf l i ≤ 300 ∧ ∀ s, (sAt l i).1 ≤ s → s < endOf l i → val l s = (sAt l i).2 := by
  unfold endOf
  by_cases h : i + 1 < l.length
  · rw [if_pos h]
    exact ⟨g.up i h, by have := g.lt (i + 1) h; omega, fun s a b => val_at g.rise hi a (fun _ => b)⟩
  · rw [if_neg h]
    exact ⟨g.lt i hi, Int.le_refl _, fun s a b => val_at g.rise hi a (fun hh => absurd hh h)⟩

theorem FitInv.skip {l : List (Int × Int)} {fr long n st b e : Int} (I : FitInv l fr long n st b) (hl : 1 ≤ long) (h : e ≤ st) : FitInv l fr long n st e :=
  ⟨I.from_, I.no, fun s a b => by omega, by omega⟩

theorem FitInv.few {l : List (Int × Int)} {fr long n st : Int} {i : Nat} (g : Good l) (hi : i < l.length) (I : FitInv l fr long n st (sAt l i).1) (hl : 1 ≤ long) (h : st < endOf l i) (hn : (sAt l i).2 < n) :
    FitInv l fr long n (endOf l i) (endOf l i) := by
  obtain ⟨h1, h2, h3⟩ := begOf g hi
  have := I.from_; have hs := I.short
  refine ⟨by omega, fun t a b hr => ?_, fun s a b => by omega, by omega⟩
  by_cases ht : t < st
  · exact I.no t a ht hr
  · by_cases hb : (sAt l i).1 ≤ t
    · have := hr t (Int.le_refl _) (by omega)
      rw [h3 t hb b] at this
      omega
    · have := hr (sAt l i).1 (by omega) (by omega)
      rw [h3 _ (Int.le_refl _) h1] at this
      omega

theorem FitInv.on {l : List (Int × Int)} {fr long n st : Int} {i : Nat} (g : Good l) (hi : i < l.length) (I : FitInv l fr long n st (sAt l i).1) (hn : n ≤ (sAt l i).2) (h : endOf l i - st < long) : FitInv l fr long n st (endOf l i) := by
  obtain ⟨h1, h2, h3⟩ := begOf g hi
  refine ⟨I.from_, I.no, fun s a b => ?_, by omega⟩
  by_cases hb : (sAt l i).1 ≤ s
  · rw [h3 s hb b]; exact hn
  · exact I.yes s a (by omega)

theorem FitInv.found {l : List (Int × Int)} {fr long n st : Int} {i : Nat} (g : Good l) (hi : i < l.length) (I : FitInv l fr long n st (sAt l i).1) (hn : n ≤ (sAt l i).2) (h : long ≤ endOf l i - st) : FitIs l fr long n st := by
  obtain ⟨h1, h2, h3⟩ := begOf g hi
  refine Or.inr ⟨I.from_, by omega, fun s a b => ?_, I.no⟩
  by_cases hb : (sAt l i).1 ≤ s
  · rw [h3 s hb (by omega)]; exact hn
  · exact I.yes s a (by omega)

theorem FitInv.none {l : List (Int × Int)} {fr long n st : Int} (I : FitInv l fr long n st 300) : FitIs l fr long n (-1) := by
  have := I.short
  exact Or.inl ⟨rfl, fun t a b => I.no t a (by omega)⟩

end Go.Proofs.Ytghhegajbehpeaa
