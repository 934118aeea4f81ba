/- One more ship: come of package port: P2.6. -/
import Derived.Test.YtghhegajbehpeaaPOwn
import Derived.Test.YtghhegajbehpeaaPSort
import Derived.Deep.RegionLaw
import Derived.Deep.RegionHeldLaw
set_option linter.unusedSimpArgs false
set_option linter.unusedVariables false
namespace Go.Proofs.Ytghhegajbehpeaa
open Go.RowKit

/-- append onto a row of one's own, as one step of a statement that leaves its order open: no other block turns -/
theorem step_appR {α : Type} {tS t : TypeId} {k bytes : Nat} {c : α → List Value} (T : TyOk tS t k bytes c) {w : World} {ops : Array Oper} {o : Oper} {a : Act} {K : Act → World → Prop} {Q : Exit → Act → World → Prop} {E : Prop} (hgd : o.guard = none) (x y : Operand)
    (ho : o.op = .call { callee := .builtin .append, args := #[x, y], argTypes := #[tS, tS] }) (B : Nat) (v : Value) (m l : List α) (g off n cap : Nat)
    (hx : a.eval x = v) (hy : a.eval y = .slice (some ⟨g, off, none⟩) n cap) (hn : l.length = n) (hO : w.ownsRow B t k v m.length (cellsK c m)) (hr : RdK c w g off l) (hB : B ≤ w.heap.size) (hl : m.length + n ≤ maxLen) (hby : (m.length + n) * bytes ≤ 140737488355328)
    (h : ∀ v' w', Hid (w'.ownsRow B t k v' (m ++ l).length (cellsK c (m ++ l)) ∧ Below B w w' ∧ ∀ j, j < w.heap.size → some j ≠ v.ownBlock → w'.heap[j]? = w.heap[j]?) → K (a.put o.dst v') w') : if Region.wanted o (yielded ops a.tmps) = true then Oper.wp Try.prog o a w K Q else E := by
  have hw : Region.wanted o (yielded ops a.tmps) = true := by simp [Region.wanted, hgd]
  rw [if_pos hw]
  obtain ⟨i0, z, hi, hz, hs, hb, hzs⟩ := T.info
  subst hn
  obtain ⟨v', w', h0, h1, h2, h3⟩ := run_append_own w B tS o.type t i0 z k bytes T.und hi hz hs hb hzs T.pos v m.length (cellsK c m) hO ⟨g, off, none⟩ l.length cap (cellsK c l) (cellsK_length T.enc l) (fun j u hu => by rw [Addr.add_lit]; exact hr j u hu) (cellsK_one T.enc l) hl hby hB
  unfold Oper.wp
  simp [execOp, ho, resolve, invoke, builtin, hx, hy, h0, Result.andThen]
  refine h v' w' ⟨?_, (Below.refl _ w).grown h2 hB (fun k hk => (hO.lt k hk).1), fun j hj hne => by obtain ⟨_, _, _, _, h5⟩ := h2; exact h5 j hj hne⟩
  rw [cellsK_append, List.length_append]
  exact h1

/-- what come does -/
def ComeIs (q : Pt) (a b c n er : Int) (q' : Pt) : Prop :=
  (¬ ((1 ≤ a ∧ a ≤ 16) ∧ (1 ≤ b ∧ b ≤ 300) ∧ (0 ≤ c ∧ c ≤ 3)) ∧ er = 2 ∧ n = 0 ∧ q' = q) ∨
  (((1 ≤ a ∧ a ≤ 16) ∧ (1 ≤ b ∧ b ≤ 300) ∧ (0 ≤ c ∧ c ≤ 3)) ∧ (14 ≤ q.ships.length ∨ 1048576 ≤ q.next) ∧ er = 5 ∧ n = 0 ∧ q' = q) ∨
  (((1 ≤ a ∧ a ≤ 16) ∧ (1 ≤ b ∧ b ≤ 300) ∧ (0 ≤ c ∧ c ≤ 3)) ∧ q.ships.length < 14 ∧ q.next < 1048576 ∧ er = 0 ∧ n = q.ships.length ∧ q' = { q with ships := q.ships ++ [⟨1, a, b, c, 0, q.next⟩], next := q.next + 1 })

/-- a port in a variable, whose ships are a row of the call's own -/
def PQ (B : Nat) (w : World) (g : Nat) (q : Pt) (vs : Value) : Prop := PBox w g q vs ∧ w.ownsRow B 48 6 vs q.ships.length (cellsK cShip q.ships) ∧ B ≤ w.heap.size ∧ B ≤ g

/-- what is written into the port's own cells leaves a row of ships as it is -/
theorem rowShips_set {w : World} {g B n k : Nat} {q : Pt} {vs v x : Value} {xs : List Value} (X : PBox w g q vs) (h : w.ownsRow B 48 6 v n xs) : (w.setCell ⟨g, k, none⟩ x).ownsRow B 48 6 v n xs := by
  refine ⟨h.1, ?_⟩
  rcases h.2 with h0 | ⟨b, cap, cur, h0, h1, h2, h3⟩
  · exact Or.inl h0
  · refine Or.inr ⟨b, cap, cur, h0, h1, ?_, h3⟩
    have hne : b ≠ g := by
      rintro rfl
      have e := h2.symm.trans X.2
      injection e with e
      injection e with _ e
      exact absurd e (by decide)
    rw [Below.heap_setCell _ _ _ _ (by show b ≠ g; exact hne)]
    exact h2


set_option maxHeartbeats 4000000 in
set_option maxRecDepth 100000 in
theorem come_any (g B : Nat) (q : Pt) (vs : Value) (a b c : Int) (w : World) (H : PQ B w g q vs) (hg : vs.ownBlock ≠ some g) (hn : q.ships.length ≤ 14) (hx0 : 0 ≤ q.next) (hx1 : q.next ≤ 1048576) :
    Calls Try.prog 92 #[.pointer (some ⟨g, 0, none⟩), .int .i64 a, .int .i64 b, .int .i64 c] w fun e w' => ∃ n er, e = .returned (.tuple #[.int .i64 n, .int .i64 er]) ∧ Hid (∃ q' vs', ComeIs q a b c n er q' ∧ PQ B w' g q' vs' ∧ Below B w w') := by
  have HH : Hid (PQ B w g q vs) := H
  have B0 : Hid (Below B w w) := Below.refl _ _
  rcases pinR_or a 1 16 with b1 | b1
  case inr =>
    have D : Hid (∃ q' vs', ComeIs q a b c 0 2 q' ∧ PQ B w g q' vs' ∧ Below B w w) := ⟨q, vs, Or.inl ⟨fun h => pinR_no b1 h.1, rfl, rfl, rfl⟩, HH.out, B0.out⟩
    clear H
    go_enter Try.func92, Try.ntmps92
    go_wp2_with (first | (go_at_call 60; refine (pGoodWide _ _).mono ?_; rintro e w' ⟨rfl, rfl⟩) | (go_at_call 61; refine (pGoodLong _ _).mono ?_; rintro e w' ⟨rfl, rfl⟩) | (go_at_call 62; refine (pGoodClass _ _).mono ?_; rintro e w' ⟨rfl, rfl⟩))
    go_ret2
    exact ⟨_, _, rfl, D⟩
  rcases pinR_or b 1 300 with b2 | b2
  case inr =>
    have D : Hid (∃ q' vs', ComeIs q a b c 0 2 q' ∧ PQ B w g q' vs' ∧ Below B w w) := ⟨q, vs, Or.inl ⟨fun h => pinR_no b2 h.2.1, rfl, rfl, rfl⟩, HH.out, B0.out⟩
    clear H
    go_enter Try.func92, Try.ntmps92
    go_wp2_with (first | (go_at_call 60; refine (pGoodWide _ _).mono ?_; rintro e w' ⟨rfl, rfl⟩) | (go_at_call 61; refine (pGoodLong _ _).mono ?_; rintro e w' ⟨rfl, rfl⟩) | (go_at_call 62; refine (pGoodClass _ _).mono ?_; rintro e w' ⟨rfl, rfl⟩))
    go_ret2
    exact ⟨_, _, rfl, D⟩
  rcases pinR_or c 0 3 with b3 | b3
  case inr =>
    have D : Hid (∃ q' vs', ComeIs q a b c 0 2 q' ∧ PQ B w g q' vs' ∧ Below B w w) := ⟨q, vs, Or.inl ⟨fun h => pinR_no b3 h.2.2, rfl, rfl, rfl⟩, HH.out, B0.out⟩
    clear H
    go_enter Try.func92, Try.ntmps92
    go_wp2_with (first | (go_at_call 60; refine (pGoodWide _ _).mono ?_; rintro e w' ⟨rfl, rfl⟩) | (go_at_call 61; refine (pGoodLong _ _).mono ?_; rintro e w' ⟨rfl, rfl⟩) | (go_at_call 62; refine (pGoodClass _ _).mono ?_; rintro e w' ⟨rfl, rfl⟩))
    go_ret2
    exact ⟨_, _, rfl, D⟩
  have AR : Hid ((1 ≤ a ∧ a ≤ 16) ∧ (1 ≤ b ∧ b ≤ 300) ∧ (0 ≤ c ∧ c ≤ 3)) := ⟨pinR_yes b1, pinR_yes b2, pinR_yes b3⟩
  obtain ⟨xs, cap, rfl⟩ := ownsRow_slice H.2.1
  obtain ⟨pc0, pc1, pc14, pc15⟩ := H.1.cells
  by_cases h5 : 14 ≤ q.ships.length
  · have h5' : (14 : Int) ≤ (q.ships.length : Int) := by omega
    have D : Hid (∃ q' vs', ComeIs q a b c 0 5 q' ∧ PQ B w g q' vs' ∧ Below B w w) := ⟨q, _, Or.inr (Or.inl ⟨AR.out, Or.inl h5, rfl, rfl, rfl⟩), HH.out, B0.out⟩
    clear H
    go_enter Try.func92, Try.ntmps92
    go_wp2_with (first | (go_at_call 60; refine (pGoodWide _ _).mono ?_; rintro e w' ⟨rfl, rfl⟩) | (go_at_call 61; refine (pGoodLong _ _).mono ?_; rintro e w' ⟨rfl, rfl⟩) | (go_at_call 62; refine (pGoodClass _ _).mono ?_; rintro e w' ⟨rfl, rfl⟩))
    go_ret2
    exact ⟨_, _, rfl, D⟩
  have h5' : ¬ (14 : Int) ≤ (q.ships.length : Int) := by omega
  by_cases h6 : 1048576 ≤ q.next
  · have D : Hid (∃ q' vs', ComeIs q a b c 0 5 q' ∧ PQ B w g q' vs' ∧ Below B w w) := ⟨q, _, Or.inr (Or.inl ⟨AR.out, Or.inr h6, rfl, rfl, rfl⟩), HH.out, B0.out⟩
    clear H
    go_enter Try.func92, Try.ntmps92
    go_wp2_with (first | (go_at_call 60; refine (pGoodWide _ _).mono ?_; rintro e w' ⟨rfl, rfl⟩) | (go_at_call 61; refine (pGoodLong _ _).mono ?_; rintro e w' ⟨rfl, rfl⟩) | (go_at_call 62; refine (pGoodClass _ _).mono ?_; rintro e w' ⟨rfl, rfl⟩))
    go_ret2
    exact ⟨_, _, rfl, D⟩
  have hbw : Below w.heap.size w (w.alloc (.cells #[.int .i64 1, .int .i64 a, .int .i64 b, .int .i64 c, .int .i64 0, .int .i64 q.next] 48)) := (Below.refl _ w).alloc (Nat.le_refl _) _
  have X1 : Hid (PBox (w.alloc (.cells #[.int .i64 1, .int .i64 a, .int .i64 b, .int .i64 c, .int .i64 0, .int .i64 q.next] 48)) g q (.slice xs q.ships.length cap)) := H.1.later hbw H.1.lt
  have O1 : Hid ((w.alloc (.cells #[.int .i64 1, .int .i64 a, .int .i64 b, .int .i64 c, .int .i64 0, .int .i64 q.next] 48)).ownsRow B 48 6 (.slice xs q.ships.length cap) q.ships.length (cellsK cShip q.ships)) := H.2.1.alloc _
  have N1 : Hid (SBox (w.alloc (.cells #[.int .i64 1, .int .i64 a, .int .i64 b, .int .i64 c, .int .i64 0, .int .i64 q.next] 48)) w.heap.size ⟨1, a, b, c, 0, q.next⟩) := SBox.new w ⟨1, a, b, c, 0, q.next⟩
  have S1 : Hid (Below B w (w.alloc (.cells #[.int .i64 1, .int .i64 a, .int .i64 b, .int .i64 c, .int .i64 0, .int .i64 q.next] 48)) ∧ B ≤ (w.alloc (.cells #[.int .i64 1, .int .i64 a, .int .i64 b, .int .i64 c, .int .i64 0, .int .i64 q.next] 48)).heap.size ∧ B ≤ g ∧ g < w.heap.size) := ⟨hbw.mono H.2.2.1, by have := hbw.size; have := H.2.2.1; omega, H.2.2.2, H.1.lt⟩
  clear H hbw
  go_enter Try.func92, Try.ntmps92
  go_upto_region 6 with (first | (go_at_call 60; refine (pGoodWide _ _).mono ?_; rintro e w' ⟨rfl, rfl⟩) | (go_at_call 61; refine (pGoodLong _ _).mono ?_; rintro e w' ⟨rfl, rfl⟩) | (go_at_call 62; refine (pGoodClass _ _).mono ?_; rintro e w' ⟨rfl, rfl⟩))
  clear pc0 pc1 pc14 pc15
  generalize hWBe : w'.alloc (.cells #[.int .i64 1, .int .i64 a, .int .i64 b, .int .i64 c, .int .i64 0, .int .i64 q.next] 48) = WB at *
  have hgW : g < WB.heap.size := X1.out.lt
  have O2 : Hid ((WB.alloc (.cells #[.int .i64 1, .int .i64 a, .int .i64 b, .int .i64 c, .int .i64 0, .int .i64 q.next] 48)).drew.ownsRow B 48 6 (.slice xs q.ships.length cap) q.ships.length (cellsK cShip q.ships)) := (O1.out.alloc _).drew
  have R2 : Hid (RdK cShip (WB.alloc (.cells #[.int .i64 1, .int .i64 a, .int .i64 b, .int .i64 c, .int .i64 0, .int .i64 q.next] 48)).drew WB.heap.size 0 [⟨1, a, b, c, 0, q.next⟩]) := (rdK_new (k := 6) (c := cShip) WB 48 (⟨1, a, b, c, 0, q.next⟩ : Ship) _ rfl).below ((Below.refl _ _).drew)
  have Z2 : Hid (B ≤ (WB.alloc (.cells #[.int .i64 1, .int .i64 a, .int .i64 b, .int .i64 c, .int .i64 0, .int .i64 q.next] 48)).drew.heap.size ∧ g < (WB.alloc (.cells #[.int .i64 1, .int .i64 a, .int .i64 b, .int .i64 c, .int .i64 0, .int .i64 q.next] 48)).drew.heap.size ∧ q.ships.length + 1 ≤ maxLen ∧ (q.ships.length + 1) * 48 ≤ 140737488355328) := by
    have e : (WB.alloc (.cells #[.int .i64 1, .int .i64 a, .int .i64 b, .int .i64 c, .int .i64 0, .int .i64 q.next] 48)).drew.heap.size = WB.heap.size + 1 := by show (WB.alloc (.cells #[.int .i64 1, .int .i64 a, .int .i64 b, .int .i64 c, .int .i64 0, .int .i64 q.next] 48)).heap.size = _; simp
    exact ⟨by rw [e]; have := S1.out.2.1; omega, by rw [e]; omega, by unfold maxLen; omega, by omega⟩
  have X2 : Hid (PBox (WB.alloc (.cells #[.int .i64 1, .int .i64 a, .int .i64 b, .int .i64 c, .int .i64 0, .int .i64 q.next] 48)).drew g q (.slice xs q.ships.length cap)) := X1.out.later (((Below.refl _ WB).alloc (Nat.le_refl _) _).drew) X1.out.lt
  have S2 : Hid (Below B w' (WB.alloc (.cells #[.int .i64 1, .int .i64 a, .int .i64 b, .int .i64 c, .int .i64 0, .int .i64 q.next] 48)).drew) := (S1.out.1.alloc S1.out.2.1 _).drew
  obtain ⟨k0, k1, k2, k3, k4, k5⟩ := N1.out.cells
  simp only at k0 k1 k2 k3 k4 k5
  have pc1 := X1.out.cells.2.1
  have pc1b := X2.out.cells.2.1
  have hgB : Hid (B ≤ w'.heap.size) := by have := S1.out.2.2.1; have := S1.out.2.2.2; show _ ≤ _; omega
  have hl : (q.ships ++ [(⟨1, a, b, c, 0, q.next⟩ : Ship)]).length = q.ships.length + 1 := by simp
  go_cut [52] (fun s52 wc => Hid (∃ vs', PQ B wc g { q with ships := q.ships ++ [⟨1, a, b, c, 0, q.next⟩] } vs' ∧ Below B w' wc))
  case first =>
    go_region_law (refine step_appR tyShip rfl (.tmp 49) (.tmp 51) rfl B (.slice xs q.ships.length cap) q.ships [⟨1, a, b, c, 0, q.next⟩] WB.heap.size 0 1 1 (by simp [Act.eval, Act.put]) (by simp [Act.eval, Act.put]) rfl O2.out R2.out Z2.out.1 Z2.out.2.2.1 Z2.out.2.2.2 ?_; intro v7 w7 hw7; have X7 : Hid (PBox w7 g q (.slice xs q.ships.length cap)) := ⟨X2.out.1, (hw7.out.2.2 g Z2.out.2.1 (fun e => hg e.symm)).trans X2.out.2⟩; have c7 := X7.out.cells.2.1; have f7 := X7.out.frozen 1; obtain ⟨x7, cp7, hv7⟩ := ownsRow_slice hw7.out.1; rw [hl] at hv7; subst hv7)
    all_goals go_wp2_with fail
    all_goals go_meet
    all_goals
      have hB := S1.out.2.2.1
      have S7 : Below B w' w7 := S2.out.trans hw7.out.2.1
      refine ⟨_, ⟨X7.out.setShips _ _, rowShips_set X7.out hw7.out.1, ?_, hB⟩, S7.setCell hB _⟩
      have h1 := (S7.setCell (p := ⟨g, 1, none⟩) hB (.slice x7 (q.ships.length + 1) cp7)).size
      have h2 := S1.out.2.2.2
      have h3 := hgB.out
      exact Nat.le_trans h3 h1
  case rest =>
    obtain ⟨vs', hP, hBw⟩ := hcut.out
    obtain ⟨x7, cp7, hv7⟩ := ownsRow_slice hP.2.1
    simp only at hv7
    rw [hl] at hv7
    subst hv7
    obtain ⟨pc0, pc1, pc14, pc15⟩ := hP.1.cells
    have f15 := hP.1.frozen 15
    simp only at pc15 pc1
    have D : Hid (∃ q' vs', ComeIs q a b c q.ships.length 0 q' ∧ PQ B (wc.setCell ⟨g, 15, none⟩ (.int .i64 (q.next + 1))) g q' vs' ∧ Below B w' (wc.setCell ⟨g, 15, none⟩ (.int .i64 (q.next + 1)))) := by
      refine ⟨_, _, Or.inr (Or.inr ⟨AR.out, by omega, by omega, rfl, rfl, rfl⟩), ⟨hP.1.setNext (q.next + 1), rowShips_set hP.1 hP.2.1, ?_, hP.2.2.2⟩, hBw.setCell hP.2.2.2 _⟩
      exact Nat.le_trans hP.2.2.1 ((Below.refl B wc).setCell (p := ⟨g, 15, none⟩) hP.2.2.2 (.int .i64 (q.next + 1))).size
    have c1b := (hP.1.setNext (q.next + 1)).cells.2.1
    clear hP hBw hcut
    go_wp2_with fail
    go_ret2
    obtain ⟨q', vs', d1, d2, d3⟩ := D.out
    first | exact ⟨_, _, rfl, ⟨q', vs', d1, d2, d3⟩⟩ | exact ⟨_, _, rfl, ⟨q', d1, ⟨vs', d2⟩, d3⟩⟩

end Go.Proofs.Ytghhegajbehpeaa
