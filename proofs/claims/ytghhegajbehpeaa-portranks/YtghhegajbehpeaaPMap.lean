/- A map of numbers that a call has made, as a function; no condition but those that each theorem bears. -/
import Derived.Test.YtghhegajbehpeaaPLeaf
import Derived.Maps.OwnOps
import Derived.Maps.Views
import Derived.Deep.DeepCutAuto
set_option linter.unusedSimpArgs false
set_option linter.unusedVariables false
namespace Go.Proofs.Ytghhegajbehpeaa
open Go.RowKit Go.Maps Go.ChangeMaps Go.MapKept

theorem keyedInt : Keyed Try.prog 3 := int_keyed Try.underlying3
theorem zeroInt (w : World) : (zeroValue 3).run Try.prog w = .ok (.int .i64 0) w := by kernel_rfl

/-- a number of 64 bits -/
def Wf (n : Int) : Prop := (Lit.int .i64 n).wf = true

theorem Wf.of {n : Int} (h1 : -9223372036854775808 ≤ n) (h2 : n ≤ 9223372036854775807) : Wf n := by
  have e : wrap64 n = n := by unfold wrap64; omega
  unfold Wf
  rw [← e]
  exact wrap64_wf n

/-- g, but v at k -/
def upd (g : Int → Int) (k v : Int) : Int → Int := fun x => if x = k then v else g x

/-- Block b is a map of numbers, of at most n entries, that answers as g does. -/
def MapI (w : World) (b n : Nat) (g : Int → Int) : Prop :=
  ∃ D : DataW Unit, w.ownsMap Try.prog 3 (plainElem Try.prog 3) b n D ∧ IsMap D ∧ ∀ k, Wf k → D.atKey (.int .i64 k) (.lit (.int .i64 0)) = .lit (.int .i64 (g k))

theorem MapI.made (w : World) : MapI (w.alloc (.map #[] 0)) w.heap.size 0 fun _ => 0 :=
  ⟨.map [], World.ownsMap_made _ _ _ _, isMap_empty, fun k _ => rfl⟩

theorem MapI.lt {w : World} {b n : Nat} {g : Int → Int} (h : MapI w b n g) : b < w.heap.size := let ⟨D, hD, _⟩ := h; hD.lt

theorem MapI.later {w w' : World} {B b n : Nat} {g : Int → Int} (h : MapI w b n g) (hb : Below B w w') (hB : b < B) : MapI w' b n g := by
  obtain ⟨D, ⟨es, clock, h1, h2⟩, h3⟩ := h
  exact ⟨D, ⟨es, clock, by rw [hb.block b hB]; exact h1, h2⟩, h3⟩

theorem MapI.same {w w' : World} {b n : Nat} {g : Int → Int} (h : MapI w b n g) (hb : w'.heap[b]? = w.heap[b]?) : MapI w' b n g := by
  obtain ⟨D, ⟨es, clock, h1, h2⟩, h3⟩ := h
  exact ⟨D, ⟨es, clock, by rw [hb]; exact h1, h2⟩, h3⟩

theorem MapI.look {w : World} {b n : Nat} {g : Int → Int} (h : MapI w b n g) {k : Int} (hk : Wf k) : (Instr.lookup 129 (.map (some b)) (.int .i64 k) false).run Try.prog w = .ok (.int .i64 (g k)) w := by
  obtain ⟨D, hD, hm, hg⟩ := h
  obtain ⟨c, hrun, hat, _⟩ := hD.lookup_int keyedInt Try.underlying129 Try.underlying3 (zeroInt w) (keyOf_int_mk Try.underlying3 hk)
  rw [hg k hk] at hat
  rw [hrun, (Lit.int.inj (DataW.lit.inj hat)).2]

theorem MapI.put {w : World} {b n : Nat} {g : Int → Int} (h : MapI w b n g) (hn : n < maxLen) {k v : Int} (hk : Wf k) (hv : Wf v) :
    ∃ w', (Instr.mapUpdate 129 (.map (some b)) (.int .i64 k) (.int .i64 v)).run Try.prog w = .ok () w' ∧ MapI w' b (n + 1) (upd g k v) ∧ w.grownBy w' (some b) := by
  obtain ⟨D, hD, hm, hg⟩ := h
  obtain ⟨w', hrun, hD', hgr⟩ := hD.update keyedInt Try.underlying129 hn (keyOf_int_mk Try.underlying3 hk) (plainElem_int Try.underlying3 hv)
  refine ⟨w', hrun, ⟨_, hD', hm.put _ _, fun x hx => ?_⟩, hgr⟩
  unfold upd
  by_cases e : x = k
  · subst e; rw [if_pos rfl, atKey_put_same hm (by simp [WideAt.IsKeyLit])]
  · rw [if_neg e, atKey_put_other (by intro h; injection h with _ h; exact e h)]; exact hg x hx

theorem wpList_look_mapI {w : World} {ops : Array Oper} {rest : List Oper} {o : Oper} {a : Act} {Q : Exit → Act → World → Prop} (hgd : o.guard = none) (m x : Operand) (ho : o.op = .lookup 129 m x false) (b n : Nat) (g : Int → Int) (k : Int)
    (hm : a.eval m = .map (some b)) (hx : a.eval x = .int .i64 k) (hM : MapI w b n g) (hk : Wf k) (h : wpList Try.prog ops Q rest (a.put o.dst (.int .i64 (g k))) w) : wpList Try.prog ops Q (o :: rest) a w := by
  refine wpList_plain hgd fun K hK => ?_
  unfold Oper.wp
  simp [execOp, ho, hm, hx, hM.look hk, Result.andThen]
  exact hK _ _ h

theorem wpList_look_mapI_g {w : World} {ops : Array Oper} {rest : List Oper} {o : Oper} {a : Act} {Q : Exit → Act → World → Prop} (hw : Region.wanted o (yielded ops a.tmps) = true) (m x : Operand) (ho : o.op = .lookup 129 m x false) (b n : Nat) (g : Int → Int) (k : Int)
    (hm : a.eval m = .map (some b)) (hx : a.eval x = .int .i64 k) (hM : MapI w b n g) (hk : Wf k) (h : wpList Try.prog ops Q rest (a.put o.dst (.int .i64 (g k))) w) : wpList Try.prog ops Q (o :: rest) a w := by
  refine BigFrame.wpList_want hw fun K hK => ?_
  unfold Oper.wp
  simp [execOp, ho, hm, hx, hM.look hk, Result.andThen]
  exact hK _ _ h

theorem wpList_put_mapI {w : World} {ops : Array Oper} {rest : List Oper} {o : Oper} {a : Act} {Q : Exit → Act → World → Prop} (hgd : o.guard = none) (m x v : Operand) (ho : o.op = .mapUpdate 129 m x v) (b n : Nat) (g : Int → Int) (k y : Int)
    (hm : a.eval m = .map (some b)) (hx : a.eval x = .int .i64 k) (hv : a.eval v = .int .i64 y) (hM : MapI w b n g) (hn : n < maxLen) (hk : Wf k) (hy : Wf y)
    (h : ∀ w', Hid (MapI w' b (n + 1) (upd g k y) ∧ (∀ j, j ≠ b → w'.heap[j]? = w.heap[j]?) ∧ ∀ B, B ≤ b → Below B w w') → w'.heap.size = w.heap.size → wpList Try.prog ops Q rest (a.put o.dst undef) w') : wpList Try.prog ops Q (o :: rest) a w := by
  refine wpList_plain hgd fun K hK => ?_
  obtain ⟨D, ⟨es, clock, hb, F, hs, hDe⟩, hmp, hg⟩ := hM
  obtain ⟨es', clock', hrun, F', hput, _⟩ := Maps.fit_store (R' := plainElem Try.prog 3) keyedInt Try.underlying129 hb F (Nat.lt_of_le_of_lt hs hn) (fun _ _ _ _ hz => hz) (keyOf_int_mk Try.underlying3 hk) (plainElem_int (H := Unit) Try.underlying3 hy)
  obtain ⟨w', hrun', hM', hgr⟩ := MapI.put ⟨D, ⟨es, clock, hb, F, hs, hDe⟩, hmp, hg⟩ hn hk hy
  rw [hrun] at hrun'
  injection hrun' with _ hw'
  subst hw'
  have hoth : ∀ j, j ≠ b → (setBlock w b (.map es' clock')).heap[j]? = w.heap[j]? := fun j hj => heap_setBlock_other hb _ hj
  unfold Oper.wp
  simp [execOp, ho, hm, hx, hv, hrun, Result.andThen]
  refine hK _ _ (h _ ⟨hM', hoth, fun B hB => (Below.refl B w).grown hgr (by have := (Array.getElem?_eq_some_iff.1 hb).1; omega) (fun k hk => by cases hk; exact hB)⟩ (by simp [setBlock]))

end Go.Proofs.Ytghhegajbehpeaa
