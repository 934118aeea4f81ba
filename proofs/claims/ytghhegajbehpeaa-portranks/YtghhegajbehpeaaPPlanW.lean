/- When ships that wait come in: Plan of package port: P2.5. -/
import Derived.Test.YtghhegajbehpeaaPBase
import Derived.Test.YtghhegajbehpeaaPRank
import Derived.Test.YtghhegajbehpeaaPRepeat
set_option linter.unusedSimpArgs false
set_option linter.unusedVariables false
namespace Go.Proofs.Ytghhegajbehpeaa
open Go.RowKit

/-- the plan, as far as the first k of those that wait -/
structure PlanInv (p : Pt) (rk : List Nat) (k : Nat) (pl : List Int) (r : List (Int × Int)) : Prop where
  len : pl.length = p.ships.length
  out : ∀ i, i ∉ rk.take k → pl.getD i (-1) = -1
  good : Good r
  says : ∀ t, 0 ≤ t → t < 300 → val r t = baseAt p t - ctrs p pl (rk.take k) t
  chain : Chain p pl (baseAt p) (rk.take k)

theorem PlanInv.start {p : Pt} {rk : List Nat} {r : List (Int × Int)} (G : Good r) (h : ∀ t, 0 ≤ t → t < 300 → val r t = baseAt p t) : PlanInv p rk 0 (List.replicate p.ships.length (-1)) r :=
  ⟨by simp, fun i _ => by rw [List.getD_eq_getElem?_getD, List.getElem?_replicate]; split <;> rfl, G, fun t a b => by rw [h t a b, List.take_zero, ctrs_nil]; omega, by rw [List.take_zero]; exact chain_nil _ _ _⟩

theorem take_succ_of {rk : List Nat} {k i : Nat} (hk : rk[k]? = some i) : rk.take (k + 1) = rk.take k ++ [i] := by rw [List.take_add_one, hk]; rfl

theorem notin_take {rk : List Nat} {k i : Nat} (hd : rk.Nodup) (hk : rk[k]? = some i) : i ∉ rk.take k := fun h => by
  obtain ⟨j, hj, he⟩ := List.mem_iff_getElem.1 h
  rw [List.length_take] at hj
  rw [List.getElem_take] at he
  obtain ⟨hk1, hk2⟩ := List.getElem?_eq_some_iff.1 hk
  have := (List.getElem_inj hd).1 (he.trans hk2.symm)
  omega

theorem PlanInv.step {p : Pt} {rk : List Nat} {k i : Nat} {pl : List Int} {r r' : List (Int × Int)} {x : Int} (h : PlanInv p rk k pl r) (hr : RankedIs p rk) (hk : rk[k]? = some i) (h0 : 0 ≤ p.now)
    (hf : FitIs r p.now (shp p i).lg (shp p i).wd x) (G : Good r') (hv : ∀ t, 0 ≤ t → t < 300 → val r' t = val r t - if 0 ≤ x ∧ x ≤ t ∧ t < x + (shp p i).lg then (shp p i).wd else 0) : PlanInv p rk (k + 1) (pl.set i x) r' := by
  have hn := notin_take hr.nodup hk
  have hi : i < pl.length := by rw [h.len]; exact ((hr.mem i).1 (List.mem_of_getElem? hk)).1
  have hg : (pl.set i x).getD i (-1) = x := by rw [List.getD_eq_getElem?_getD, List.getElem?_set_self hi]; rfl
  have hc : ∀ t, ctr p (pl.set i x) i t = if 0 ≤ x ∧ x ≤ t ∧ t < x + (shp p i).lg then (shp p i).wd else 0 := fun t => by unfold ctr; rw [hg]
  refine ⟨by rw [List.length_set]; exact h.len, fun j hj => ?_, G, fun t a b => ?_, ?_⟩
  · rw [take_succ_of hk] at hj
    have h1 : j ∉ rk.take k := fun hh => hj (List.mem_append_left _ hh)
    have h2 : j ≠ i := fun hh => hj (by rw [hh]; simp)
    rw [List.getD_eq_getElem?_getD, List.getElem?_set_ne (fun e => h2 e.symm), ← List.getD_eq_getElem?_getD]
    exact h.out j h1
  · rw [hv t a b, h.says t a b, take_succ_of hk, ctrs_append, ctrs_cons, ctrs_nil, ctrs_set_notin x hn, hc t]; omega
  · rw [take_succ_of hk]
    refine (h.chain.set x hn).snoc ?_
    rw [hg]
    have hf' : FitF (val r) p.now (shp p i).lg (shp p i).wd x := hf
    exact hf'.congr fun t a b => by show _ = _; rw [h.says t (by omega) b, ctrs_set_notin x hn]

theorem PlanInv.done {p : Pt} {rk : List Nat} {pl : List Int} {r : List (Int × Int)} (h : PlanInv p rk rk.length pl r) (hr : RankedIs p rk) : PlanIs p pl := by
  have e : rk.take rk.length = rk := List.take_length
  refine ⟨h.len, fun i hi hs => h.out i ?_, rk, hr, by have := h.chain; rwa [e] at this⟩
  rw [e]
  exact fun hm => hs ((hr.mem i).1 hm).2

theorem ownsRow_later {w w' : World} {B : Nat} {e : TypeId} {size : Nat} {v : Value} {n : Nat} {xs : List Value} (h : w.ownsRow B e size v n xs) (hb : Below w.heap.size w w') : w'.ownsRow B e size v n xs := by
  refine ⟨h.1, ?_⟩
  rcases h.2 with h0 | ⟨g, cap, cur, h0, h1, h2, h3⟩
  · exact Or.inl h0
  · exact Or.inr ⟨g, cap, cur, h0, h1, by rw [hb.block g (Array.getElem?_eq_some_iff.1 h2).1]; exact h2, h3⟩

/-- the memory while a plan is made -/
structure PlanMem (w : World) (p : Pt) (vs : Value) (g : Nat) (v5 : Value) (rk : List Nat) (wr : World) (v4 : Value) (pl : List Int) (r : List (Int × Int)) : Prop where
  base : w.heap.size < g
  below : Below w.heap.size w wr
  box : PBox wr w.heap.size p vs
  row : IRow wr g g p.ships.length pl
  far : Far (g + 1) v4
  sl : Sl wr v4 r
  rkr : wr.ownsRow (g + 1) 3 1 v5 (ints rk).length (cellsK cInt (ints rk))

section
variable {w wr w' : World} {p : Pt} {vs v4 v5 : Value} {g : Nat} {rk : List Nat} {pl : List Int} {r : List (Int × Int)}

theorem PlanMem.later (h : PlanMem w p vs g v5 rk wr v4 pl r) (hb : Below wr.heap.size wr w') : PlanMem w p vs g v5 rk w' v4 pl r :=
  ⟨h.base, h.below.trans (hb.mono h.below.size), h.box.later hb h.box.lt, OwnK.later h.row hb, h.far, h.sl.below hb, ownsRow_later h.rkr hb⟩

theorem PlanMem.store (h : PlanMem w p vs g v5 rk wr v4 pl r) {i : Nat} (hi : i < pl.length) (x : Int) : PlanMem w p vs g v5 rk (wr.setCell ⟨g, i, none⟩ (.int .i64 x)) v4 (pl.set i x) r :=
  ⟨h.base, h.below.setCell (by have := h.base; show _ ≤ g; omega) _, h.box.other _ _ (by have := h.base; omega), h.row.set hi x, h.far, h.sl.other h.far (by omega) _, ownsRow_same h.rkr fun q hq => Below.heap_setCell _ _ _ _ (by show q ≠ g; omega)⟩

theorem PlanMem.take {v8 : Value} {r8 : List (Int × Int)} (h : PlanMem w p vs g v5 rk wr v4 pl r) (hb : Below wr.heap.size wr w') (hF : Far wr.heap.size v8) (hs : Sl w' v8 r8) : PlanMem w p vs g v5 rk w' v8 pl r8 :=
  ⟨h.base, (h.later hb).below, (h.later hb).box, (h.later hb).row, hF.mono (OwnK.lt h.row), hs, (h.later hb).rkr⟩

theorem PlanMem.rkCell (h : PlanMem w p vs g v5 rk wr v4 pl r) {k i : Nat} (hk : rk[k]? = some i) {x : Option Addr} {n cap : Nat} (hv : v5 = .slice x n cap) : ∃ b, x = some ⟨b, 0, none⟩ ∧ n = rk.length ∧ wr.cell? ⟨b, k, none⟩ = some (.int .i64 i) := by
  rcases h.rkr.2 with ⟨e, e2⟩ | ⟨b, cap', cur, e, h1, h2, h3⟩
  · have : rk.length = 0 := by rw [← ints_len]; exact e2
    have := (List.getElem?_eq_some_iff.1 hk).1
    omega
  · have hS := slK_ofRow h.rkr
    rw [e] at hS hv
    obtain ⟨a, c, he, _, h4⟩ := hS
    injection he with he1 he2 he3
    injection hv with hv1 hv2 hv3
    rcases h4 with h4 | ⟨b', o, ha, hr⟩
    · have : rk.length = 0 := by rw [← ints_len, h4]; rfl
      have := (List.getElem?_eq_some_iff.1 hk).1
      omega
    · rw [ha] at he1
      injection he1 with he1
      injection he1 with hb1 ho1
      subst hb1 ho1
      refine ⟨b, hv1.symm, by rw [← hv2, ints_len], ?_⟩
      have := hr.int (ints_get hk)
      simpa using this
end

end Go.Proofs.Ytghhegajbehpeaa
