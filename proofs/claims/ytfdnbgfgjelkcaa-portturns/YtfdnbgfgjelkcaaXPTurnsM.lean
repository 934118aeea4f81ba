/- Texts of this claim, in one: PTurnsM. -/
import Derived.Test.YtfdnbgfgjelkcaaQI
import Derived.Test.YtfdnbgfgjelkcaaXRefSameW
import Derived.Test.YtfdnbgfgjelkcaaQA
/- What PortTurns' walk needs besides: an order does one thing alone; ports in boxes; steps of a statement that leaves its order open. -/
set_option linter.unusedSimpArgs false
set_option linter.unusedVariables false
namespace Go.Proofs.Ytfdnbgfgjelkcaa
open Go.RowKit

theorem fst_unique {l : List Kp} {i j : Nat} (hi : Fst l i) (hj : Fst l j) : i = j := by
  obtain ⟨⟨k, hk, hn⟩, h1⟩ := hi
  obtain ⟨⟨k', hk', hn'⟩, h2⟩ := hj
  rcases Nat.lt_or_ge i j with c | c
  · have := h2 i k c hk; rw [hn] at this; cases this
  · rcases Nat.lt_or_ge j i with c2 | c2
    · have := h1 j k' c2 hk'; rw [hn'] at this; cases this
    · omega

theorem obeyIs_unique {p : Pt} {o : Ord} {n n' er er' : Int} {q q' : Pt} (h : ObeyIs p o n er q) (h' : ObeyIs p o n' er' q') : n = n' ∧ er = er' ∧ q = q' := by
  unfold ObeyIs at h h'
  split at h
  · rename_i k1
    rw [if_pos k1] at h'
    rcases h with ⟨a1, rfl, rfl, rfl⟩ | ⟨a1, a2, rfl, rfl, rfl⟩ | ⟨a1, a2, a3, rfl, rfl, rfl⟩ <;> rcases h' with ⟨b1, rfl, rfl, rfl⟩ | ⟨b1, b2, rfl, rfl, rfl⟩ | ⟨b1, b2, b3, rfl, rfl, rfl⟩ <;> first | exact ⟨rfl, rfl, rfl⟩ | exact absurd b1 a1 | exact absurd a1 b1 | (exfalso; omega)
  · rename_i k1
    rw [if_neg k1] at h'
    split at h
    · rename_i k2
      rw [if_pos k2] at h'
      obtain ⟨rfl, h1⟩ := h
      obtain ⟨rfl, h2⟩ := h'
      rw [h1] at h2
      have := Prod.mk.inj h2
      exact ⟨rfl, this.1, this.2⟩
    · rename_i k2
      rw [if_neg k2] at h'
      split at h
      · rename_i k6
        rw [if_pos k6] at h'
        rcases h with ⟨a1, rfl, rfl, rfl⟩ | ⟨a1, a2, rfl, rfl, rfl⟩ | ⟨a1, i, a2, rfl, rfl, rfl⟩ <;> rcases h' with ⟨b1, rfl, rfl, rfl⟩ | ⟨b1, b2, rfl, rfl, rfl⟩ | ⟨b1, j, b2, rfl, rfl, rfl⟩
        · exact ⟨rfl, rfl, rfl⟩
        · exact absurd b1 a1
        · exact absurd b1 a1
        · exact absurd a1 b1
        · exact ⟨rfl, rfl, rfl⟩
        · obtain ⟨⟨k, hk, hn⟩, _⟩ := b2; have := a2 j k hk; rw [hn] at this; cases this
        · exact absurd a1 b1
        · obtain ⟨⟨k, hk, hn⟩, _⟩ := a2; have := b2 i k hk; rw [hn] at this; cases this
        · have := fst_unique a2 b2; subst this; exact ⟨rfl, rfl, rfl⟩
      · rename_i k6
        rw [if_neg k6] at h'
        split at h
        · rename_i k7
          rw [if_pos k7] at h'
          rcases h with ⟨a1, rfl, rfl, rfl⟩ | ⟨i, k, a1, a2, a3, a4, rfl, rfl, rfl⟩ | ⟨i, k, a1, a2, a3, a4, rfl, rfl, rfl⟩ <;> rcases h' with ⟨b1, rfl, rfl, rfl⟩ | ⟨j, l, b1, b2, b3, b4, rfl, rfl, rfl⟩ | ⟨j, l, b1, b2, b3, b4, rfl, rfl, rfl⟩
          · exact ⟨rfl, rfl, rfl⟩
          · exact absurd ⟨by omega, by omega⟩ a1
          · exact absurd ⟨by omega, by omega⟩ a1
          · exact absurd ⟨by omega, by omega⟩ b1
          · exact ⟨rfl, rfl, rfl⟩
          · have e : i = j := by omega
            subst e; rw [a3] at b3; injection b3 with b3; subst b3; rw [a4] at b4; cases b4
          · exact absurd ⟨by omega, by omega⟩ b1
          · have e : i = j := by omega
            subst e; rw [a3] at b3; injection b3 with b3; subst b3; rw [a4] at b4; cases b4
          · have e : i = j := by omega
            subst e; exact ⟨rfl, rfl, rfl⟩
        · rename_i k7
          rw [if_neg k7] at h'
          split at h
          · rename_i k8
            rw [if_pos k8] at h'
            obtain ⟨rfl, ⟨a1, rfl, rfl⟩ | ⟨a1, rfl, rfl⟩⟩ := h <;> obtain ⟨rfl, ⟨b1, rfl, rfl⟩ | ⟨b1, rfl, rfl⟩⟩ := h'
            · exact ⟨rfl, rfl, rfl⟩
            · exact absurd a1 b1
            · exact absurd b1 a1
            · exact ⟨rfl, rfl, rfl⟩
          · rename_i k8
            rw [if_neg k8] at h'
            obtain ⟨rfl, rfl, rfl⟩ := h
            obtain ⟨rfl, rfl, rfl⟩ := h'
            exact ⟨rfl, rfl, rfl⟩

theorem tellIs_unique {p : Pt} {o : Ord} {n n' er er' : Int} {q q' : Pt} (h : TellIs (ObeyIs p o) p n er q) (h' : TellIs (ObeyIs p o) p n' er' q') : n = n' ∧ er = er' ∧ q = q' := by
  rcases h with ⟨a0, rfl, rfl, rfl⟩ | ⟨a0, n0, e0, q0, a1, a2⟩ <;> rcases h' with ⟨b0, rfl, rfl, rfl⟩ | ⟨b0, m0, f0, r0, b1, b2⟩
  · exact ⟨rfl, rfl, rfl⟩
  · exact absurd b0 a0
  · exact absurd a0 b0
  · obtain ⟨rfl, rfl, rfl⟩ := obeyIs_unique a1 b1
    rcases a2 with ⟨c1, rfl, rfl, rfl⟩ | ⟨c1, c2, rfl, rfl, rfl⟩ | ⟨c1, c2, rfl, rfl, rfl⟩ <;> rcases b2 with ⟨d1, rfl, rfl, rfl⟩ | ⟨d1, d2, rfl, rfl, rfl⟩ | ⟨d1, d2, rfl, rfl, rfl⟩ <;> first | exact ⟨rfl, rfl, rfl⟩ | exact absurd d1 c1 | exact absurd c1 d1 | exact absurd d2 c2 | exact absurd c2 d2

theorem laterIs_unique {p : Pt} {er er' : Int} {q q' : Pt} (h : LaterIs p er q) (h' : LaterIs p er' q') : er = er' ∧ q = q' := by
  rcases h with ⟨a0, rfl, rfl⟩ | ⟨a0, a1, rfl, rfl⟩ | ⟨a0, a1, rfl, rfl⟩ <;> rcases h' with ⟨b0, rfl, rfl⟩ | ⟨b0, b1, rfl, rfl⟩ | ⟨b0, b1, rfl, rfl⟩ <;> first | exact ⟨rfl, rfl⟩ | exact absurd b0 a0 | exact absurd a0 b0 | (exfalso; omega)

/-- Tell, of whatever port and order -/
theorem tellGen_any (v : Value) (p : Pt) (o : Ord) (w : World) (hv : PtV w v p) (hq : WfQ p) :
    Calls Try.prog 44 #[v, .agg #[.int .i64 o.kd, .int .i64 o.a, .int .i64 o.b, .int .i64 o.c]] w fun e w' => TellPost w (TellIs (ObeyIs p o) p) e w' :=
  tell_any v p o (ObeyIs p o) w hv hq (fun hp n e q h => obeyIs_wf hp h) (fun hp g B vs W hq hne => obey_any g B p vs o.kd o.a o.b o.c W hq hne hp)

/-- a port in a box, as a value -/
def BX (W : World) (g : Nat) (A : Array Value) (q : Pt) : Prop := ∃ vq, (portCells q vq).toArray = A ∧ PBox W g q vq ∧ SlK cShip W vq q.ships ∧ q.ships.length ≤ 2932031007317

theorem BX.later {W W' : World} {g : Nat} {A : Array Value} {q : Pt} (h : BX W g A q) (hb : Below W.heap.size W W') : BX W' g A q := by
  obtain ⟨vq, h1, h2, h3, h4⟩ := h
  exact ⟨vq, h1, h2.later hb h2.lt, h3.below hb, h4⟩
theorem BX.lt {W : World} {g : Nat} {A : Array Value} {q : Pt} (h : BX W g A q) : g < W.heap.size := by obtain ⟨vq, h1, h2, h3⟩ := h; exact h2.lt
theorem BX.pv {W : World} {g : Nat} {A : Array Value} {q : Pt} (h : BX W g A q) : PtV W (.agg A) q := by
  obtain ⟨vq, rfl, h2, h3, h4⟩ := h
  exact ⟨vq, rfl, h3, h2.1, h4⟩

theorem wpList_load_bx {w : World} {ops : Array Oper} {rest : List Oper} {o : Oper} {a : Act} {Q : Exit → Act → World → Prop} (hgd : o.guard = none) (x : Operand) (ho : o.op = .load 46 x) (g : Nat) (A : Array Value) (q : Pt)
    (hx : a.eval x = .pointer (some ⟨g, 0, none⟩)) (hA : BX w g A q) (h : wpList Try.prog ops Q rest (a.put o.dst (.agg A)) w) : wpList Try.prog ops Q (o :: rest) a w := by
  obtain ⟨vq, rfl, h2, h3, h4⟩ := hA
  exact wpList_load_box hgd x ho g q vq hx h2 h

theorem wpList_load_bx_g {w : World} {ops : Array Oper} {rest : List Oper} {o : Oper} {a : Act} {Q : Exit → Act → World → Prop} (hw : Region.wanted o (yielded ops a.tmps) = true) (x : Operand) (ho : o.op = .load 46 x) (g : Nat) (A : Array Value) (q : Pt)
    (hx : a.eval x = .pointer (some ⟨g, 0, none⟩)) (hA : BX w g A q) (h : wpList Try.prog ops Q rest (a.put o.dst (.agg A)) w) : wpList Try.prog ops Q (o :: rest) a w := by
  obtain ⟨vq, rfl, h2, h3, h4⟩ := hA
  exact wpList_load_box_g hw x ho g q vq hx h2 h

/-- two boxes of one port are alike -/
theorem same_bx {w : World} {g g' : Nat} {A A' : Array Value} {q : Pt} (h : BX w g A q) (h' : BX w g' A' q) : Calls Try.prog 34 #[.agg A, .agg A'] w fun e w' => e = .returned (.bool true) ∧ Below w.heap.size w w' :=
  (refSame_any (.agg A) (.agg A') q q w h.pv h'.pv).mono (by
    rintro e w' ⟨⟨b, rfl, hb⟩, hw⟩
    exact ⟨by rw [hb.2 rfl], hw⟩)

/-- a new variable, as one step of a statement that leaves its order open -/
theorem step_alloc_box {w : World} {ops : Array Oper} {o : Oper} {a : Act} {K : Act → World → Prop} {Q : Exit → Act → World → Prop} {E : Prop} (hgd : o.guard = none) (ho : o.op = .alloc 46) (d : Nat) (hd : o.dst = some d)
    (h : ∀ w', Hid (PBox w' w.heap.size zeroPt (.slice none 0 0) ∧ Below w.heap.size w w') → K (a.put (some d) (.pointer (some ⟨w.heap.size, 0, none⟩))) w') : if Region.wanted o (yielded ops a.tmps) = true then Oper.wp Try.prog o a w K Q else E := by
  have hw : Region.wanted o (yielded ops a.tmps) = true := by simp [Region.wanted, hgd]
  rw [if_pos hw]
  have hz := run_zeroPort w
  unfold Oper.wp execOp
  simp only [ho]
  simp [Instr.alloc, hz, newVar, newRow, Result.andThen, Value.cells]
  rw [← hd] at h
  exact h _ ⟨⟨rfl, heap_alloc_new w _⟩, (Below.refl _ w).alloc (Nat.le_refl _) _⟩

theorem step_store_box {w : World} {ops : Array Oper} {o : Oper} {a : Act} {K : Act → World → Prop} {Q : Exit → Act → World → Prop} {E : Prop} (hgd : o.guard = none) (x y : Operand) (ho : o.op = .store 46 x y) (g : Nat) (old p : Pt) (ov vs : Value)
    (hx : a.eval x = .pointer (some ⟨g, 0, none⟩)) (hy : a.eval y = .agg (portCells p vs).toArray) (hA : PBox w g old ov) (h4 : p.kept.length = 4) (hv : vs.oneCell' = true) (hd : o.dst = none)
    (h : ∀ w', Hid (PBox w' g p vs ∧ (∀ k, k ≠ g → w'.heap[k]? = w.heap[k]?) ∧ ∀ B, B ≤ g → Below B w w') → K a w') : if Region.wanted o (yielded ops a.tmps) = true then Oper.wp Try.prog o a w K Q else E := by
  have hw : Region.wanted o (yielded ops a.tmps) = true := by simp [Region.wanted, hgd]
  rw [if_pos hw]
  have hst := run_storeVar_row (P := Try.prog) w g _ 46 (portCells old ov).toArray (portCells p vs).toArray hA.2 (by rw [sizePort]; simp [portCells_length p vs h4]) (by simp [portCells_length p vs h4, portCells_length old ov hA.1]) (all_oneCell_toArray (portCells_one p vs hv))
  unfold Oper.wp execOp
  simp only [ho, hx, hy, Instr.storeAt, Instr.sureAddr, Sem.run_bind, Sem.run_pure, Result.andThen_ok, hst]
  have ha : ∀ x, a.put o.dst x = a := fun x => by rw [hd]; rfl
  refine (congrArg (fun b => K b _) (ha _)).mpr ?_
  exact h _ ⟨⟨h4, setRow_heap w g _ _ _ _ hA.2⟩, fun k hk => setRow_other w g k _ (by omega), fun B hB => below_setRow (Below.refl B w) hB _⟩

set_option maxRecDepth 100000 in
/-- append of all of a slice of numbers to nil, as one step -/
theorem step_copyI {w : World} {ops : Array Oper} {o : Oper} {a : Act} {K : Act → World → Prop} {Q : Exit → Act → World → Prop} {E : Prop} (hgd : o.guard = none) (y : Operand)
    (ho : o.op = .call { callee := .builtin .append, args := #[.const (.slice none 0 0), y], argTypes := #[57, 57] }) (v : Value) (l : List Int) (hy : a.eval y = v) (hs : SlK cInt w v l) (hn : l.length ≤ 17592186044416) (d : Nat) (hd : o.dst = some d)
    (h : ∀ v' w', Hid (w'.ownsRow w.heap.size 3 1 v' l.length (cellsK cInt l) ∧ Below w.heap.size w w') → K (a.put (some d) v') w') : if Region.wanted o (yielded ops a.tmps) = true then Oper.wp Try.prog o a w K Q else E := by
  have hw : Region.wanted o (yielded ops a.tmps) = true := by simp [Region.wanted, hgd]
  rw [if_pos hw]
  obtain ⟨i0, z, hi, hz, hs1, hb, hzs⟩ := tyInt.info
  obtain ⟨v', w', h0, h1, h2⟩ := run_append_copyK (P := Try.prog) encInt tyInt.und hi hz hs1 hb hzs (by omega) v l w hs (by unfold maxLen; omega) (by omega) o.type
  clear hn hs
  rw [← hd] at h
  have H := h v' w' ⟨h1, h2⟩
  clear h h1 h2
  have hc : a.eval (.const (.slice none 0 0)) = .slice none 0 0 := rfl
  unfold Oper.wp
  simp [execOp, ho, resolve, invoke, builtin, hc, hy, h0, Result.andThen]
  exact H

end Go.Proofs.Ytfdnbgfgjelkcaa
