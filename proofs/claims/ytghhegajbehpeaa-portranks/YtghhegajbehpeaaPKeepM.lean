/- What follows of a plan, as plain data: that all find room together, that who is behind moves nobody, and that time alone moves nobody; no condition but those that each theorem bears. -/
import Derived.Test.YtghhegajbehpeaaPPlan
set_option linter.unusedSimpArgs false
set_option linter.unusedVariables false
namespace Go.Proofs.Ytghhegajbehpeaa

theorem PlanIs.waits {p : Pt} {pl : List Int} (h : PlanIs p pl) {k : Nat} (hk : k < p.ships.length) (h0 : 0 ≤ pl.getD k (-1)) : (shp p k).st = 1 := by
  by_cases e : (shp p k).st = 1
  · exact e
  · have := h.none k hk e; omega

/-- who is in the plan comes in from now on, and there is room for it beside all others -/
theorem PlanIs.room {p : Pt} {pl : List Int} (hp : IsPort p) (h : PlanIs p pl) {k : Nat} (hk : k < p.ships.length) (h0 : 0 ≤ pl.getD k (-1)) :
    (shp p k).st = 1 ∧ p.now ≤ pl.getD k (-1) ∧ pl.getD k (-1) + (shp p k).lg ≤ 300 ∧ ∀ t, pl.getD k (-1) ≤ t → t < pl.getD k (-1) + (shp p k).lg → (shp p k).wd ≤ baseAt p t - ctrs p pl (List.range k) t := by
  have hw := h.waits hk h0
  obtain ⟨rk, hr, hc⟩ := h.some
  have hm : k ∈ rk := (hr.mem k).2 ⟨hk, hw⟩
  obtain ⟨a, b, hab⟩ := List.append_of_mem hm
  rcases hc a b k hab with ⟨e, _⟩ | ⟨h1, h2, _, _⟩
  · omega
  · refine ⟨hw, h1, h2, fun t ta tb => ?_⟩
    have n0 := hp.port.now.1
    have hn := Chain.nonneg n0 hp.base rk.length rk rfl hc t (by omega) (by omega)
    have hle := ctrs_le (pl := pl) (shp_wd0 hp.port) t (List.range (k + 1)) rk List.nodup_range (fun i hi hne => by
      have hi' := List.mem_range.1 hi
      refine (hr.mem i).2 ⟨by omega, h.waits (by omega) ?_⟩
      unfold ctr at hne
      split at hne
      · rename_i c; exact c.1
      · exact absurd rfl hne)
    rw [List.range_succ, ctrs_append, ctrs_cons, ctrs_nil] at hle
    have hk1 : ctr p pl k t = (shp p k).wd := by unfold ctr; rw [if_pos ⟨h0, ta, tb⟩]
    omega

/-- the members of an ordered list that are ahead of something stand at its beginning -/
theorem sorted_split {α : Type} (R : α → α → Prop) (P : α → Bool) (hP : ∀ a b, R a b → P b = true → P a = true) : ∀ l : List α, l.Pairwise R → l = l.filter P ++ l.filter (fun x => !P x) := by
  intro l
  induction l with
  | nil => intro _; rfl
  | cons x r ih =>
    intro h
    have h' := List.pairwise_cons.1 h
    have hr := ih h'.2
    by_cases hx : P x = true
    · rw [List.filter_cons_of_pos hx, List.filter_cons_of_neg (by simp [hx]), List.cons_append, ← hr]
    · have hall : ∀ y ∈ r, P y = false := fun y hy => by
        cases e : P y
        · rfl
        · exact absurd (hP x y (h'.1 y hy) e) hx
      have e1 : r.filter P = [] := List.filter_eq_nil_iff.2 fun y hy => by simp [hall y hy]
      have e2 : r.filter (fun x => !P x) = r := List.filter_eq_self.2 fun y hy => by simp [hall y hy]
      rw [List.filter_cons_of_neg hx, List.filter_cons_of_pos (by simp [hx]), e1, e2]; rfl

def beforeB (r s : Ship) : Bool := decide (r.cl < s.cl ∨ r.cl = s.cl ∧ r.qu < s.qu)
theorem beforeB_iff {r s : Ship} : beforeB r s = true ↔ before r s := by unfold beforeB before; simp

/-- two ports that tell the same of all who wait ahead of one, and of what is free, plan them alike -/
theorem ranks_same {p q : Pt} {x y : List Int} (s : Ship) (hn : p.now = q.now) (h0 : 0 ≤ p.now) (hf : ∀ t, p.now ≤ t → t < 300 → baseAt p t = baseAt q t)
    (hs : ∀ i, before (shp p i) s ∧ (i < p.ships.length ∧ (shp p i).st = 1) → shp q i = shp p i ∧ i < q.ships.length)
    (hs' : ∀ i, before (shp q i) s ∧ (i < q.ships.length ∧ (shp q i).st = 1) → shp q i = shp p i ∧ i < p.ships.length)
    (hx : PlanIs p x) (hy : PlanIs q y) {i : Nat} (hi : i < p.ships.length) (hw : (shp p i).st = 1) (hb : before (shp p i) s) : x.getD i (-1) = y.getD i (-1) := by
  obtain ⟨rk, hr, hc⟩ := hx.some
  obtain ⟨rk', hr', hc'⟩ := hy.some
  have e1 := sorted_split _ (fun i => beforeB (shp p i) s) (fun a b h1 h2 => beforeB_iff.2 (before_trans h1 (beforeB_iff.1 h2))) rk hr.srt
  have e2 := sorted_split _ (fun i => beforeB (shp q i) s) (fun a b h1 h2 => beforeB_iff.2 (before_trans h1 (beforeB_iff.1 h2))) rk' hr'.srt
  have c1 : Chain p x (baseAt p) (rk.filter fun i => beforeB (shp p i) s) := by rw [e1] at hc; exact hc.take
  have c2 : Chain q y (baseAt q) (rk'.filter fun i => beforeB (shp q i) s) := by rw [e2] at hc'; exact hc'.take
  have hm : ∀ j, j ∈ rk.filter (fun i => beforeB (shp p i) s) ↔ j ∈ rk'.filter (fun i => beforeB (shp q i) s) := fun j => by
    rw [List.mem_filter, List.mem_filter, beforeB_iff, beforeB_iff, hr.mem, hr'.mem]
    constructor
    · rintro ⟨⟨h1, h2⟩, h3⟩
      obtain ⟨e, hl⟩ := hs j ⟨h3, h1, h2⟩
      rw [e]; exact ⟨⟨hl, h2⟩, h3⟩
    · rintro ⟨⟨h1, h2⟩, h3⟩
      obtain ⟨e, hl⟩ := hs' j ⟨h3, h1, h2⟩
      rw [e] at h2 h3; exact ⟨⟨hl, h2⟩, h3⟩
  have hin : ∀ j ∈ rk.filter (fun i => beforeB (shp p i) s), shp q j = shp p j := fun j hj => by
    rw [List.mem_filter, beforeB_iff, hr.mem] at hj
    exact (hs j ⟨hj.2, hj.1⟩).1
  have s1 : (rk.filter fun i => beforeB (shp p i) s).Pairwise fun i j => before (shp p i) (shp p j) := hr.srt.filter _
  have s2 : (rk'.filter fun i => beforeB (shp q i) s).Pairwise fun i j => before (shp p i) (shp p j) := by
    refine List.Pairwise.imp_of_mem (fun {a b} ha hb h => ?_) (hr'.srt.filter _)
    rw [← hin a ((hm a).2 ha), ← hin b ((hm b).2 hb)]; exact h
  have he := sorted_unique _ (fun _ _ h => before_asymm h) _ _ s1 s2 hm
  rw [← he] at c2
  refine Chain.same hn h0 hf _ _ rfl (fun j hj => by rw [hin j hj]; exact ⟨rfl, rfl⟩) c1 c2 i ?_
  rw [List.mem_filter, beforeB_iff, hr.mem]
  exact ⟨⟨hi, hw⟩, hb⟩

end Go.Proofs.Ytghhegajbehpeaa
