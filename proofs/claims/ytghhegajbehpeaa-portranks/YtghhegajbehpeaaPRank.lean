/- The ships that wait, by class, then by when they queued: Ranked of package port: P2.4. -/
import Derived.Test.YtghhegajbehpeaaPSort
set_option linter.unusedSimpArgs false
set_option linter.unusedVariables false
namespace Go.Proofs.Ytghhegajbehpeaa
open Go.RowKit

/-- those of the first j that wait, as they come -/
def waitL (p : Pt) (j : Nat) : List Nat := (List.range j).filter fun i => decide ((shp p i).st = 1)

theorem waitL_succ (p : Pt) (j : Nat) : waitL p (j + 1) = waitL p j ++ if (shp p j).st = 1 then [j] else [] := by
  unfold waitL
  rw [List.range_succ, List.filter_append]
  by_cases h : (shp p j).st = 1 <;> simp [h]
theorem waitL_mem {p : Pt} {j i : Nat} : i ∈ waitL p j ↔ i < j ∧ (shp p i).st = 1 := by unfold waitL; simp
theorem waitL_nodup (p : Pt) (j : Nat) : (waitL p j).Nodup := List.Pairwise.filter _ List.nodup_range
theorem waitL_len (p : Pt) (j : Nat) : (waitL p j).length ≤ j := by
  unfold waitL
  have := List.length_filter_le (fun i => decide ((shp p i).st = 1)) (List.range j)
  simpa using this

theorem ints_append (a b : List Nat) : ints (a ++ b) = ints a ++ ints b := by simp [ints]

theorem ltP_total {p : Pt} (h : IsPort0 p) (x y : Nat) (hx : x < p.ships.length) (hy : y < p.ships.length) (hne : x ≠ y) : ltP p x y ∨ ltP p y x := by
  unfold ltP
  refine before_total ?_
  rw [shp_get (List.getElem?_eq_getElem hx), shp_get (List.getElem?_eq_getElem hy)]
  rcases Nat.lt_or_gt_of_ne hne with e | e
  · exact h.once x y _ _ e (List.getElem?_eq_getElem hx) (List.getElem?_eq_getElem hy)
  · exact (h.once y x _ _ e (List.getElem?_eq_getElem hy) (List.getElem?_eq_getElem hx)).symm

theorem ranked_of {p : Pt} {m : List Nat} (h1 : m.Perm (waitL p p.ships.length)) (h2 : m.Pairwise (ltP p)) : RankedIs p m :=
  ⟨fun i => by rw [h1.mem_iff]; exact waitL_mem, h2⟩


theorem rdK_one (w : World) (t : TypeId) (n : Int) : RdK cInt (w.alloc (.cells #[.int .i64 n] t)) w.heap.size 0 [n] := rdK_new (k := 1) (c := cInt) w t n _ rfl

set_option maxHeartbeats 1000000 in
set_option maxRecDepth 100000 in
theorem sort_nil (gp : Nat) (w : World) : Calls Try.prog 68 #[.slice none 0 0, .func (.func 69) #[] #[.pointer (some ⟨gp, 0, none⟩)]] w fun e w' => e = .returned (.tuple #[]) ∧ w' = w := by
  go_enter Try.func68, Try.ntmps68
  go_wp2
  refine wp_loop_rounds 1 ?_
  rw [rounds_succ]
  go_wp2
  refine wp_loop_rounds 1 ?_
  rw [rounds_succ]
  go_wp2
  go_end0
  go_wp2
  refine wp_loop_rounds 1 ?_
  rw [rounds_succ]
  go_wp2
  go_end0
  go_wp2
  go_end0
  exact ⟨rfl, rfl⟩

set_option maxHeartbeats 2000000 in
set_option maxRecDepth 100000 in
theorem ranked_any (v : Value) (p : Pt) (w : World) (hv : PtV w v p) (hp : IsPort0 p) :
    Calls Try.prog 40 #[v] w fun e w' => (∃ v', e = .returned v' ∧ Hid (∃ rk, RankedIs p rk ∧ w'.ownsRow w.heap.size 3 1 v' (ints rk).length (cellsK cInt (ints rk)))) ∧ Below w.heap.size w w' := by
  obtain ⟨vs, rfl, ⟨a, cap, rfl, hcap, hrd⟩, h4, hmx⟩ := hv
  have HR : Hid (p.ships = [] ∨ ∃ b off, a = some ⟨b, off, none⟩ ∧ RdK cShip w b off p.ships) := hrd
  have HP : Hid (IsPort0 p) := hp
  have X0 : Hid (PBox (w.alloc (.cells (portCells p (.slice a p.ships.length cap)).toArray 46)) w.heap.size p (.slice a p.ships.length cap)) := PBox.new w p _ h4
  have B0 : Hid (Below w.heap.size w (w.alloc (.cells (portCells p (.slice a p.ships.length cap)).toArray 46))) := (Below.refl _ w).alloc (Nat.le_refl _) _
  have Z0 : Hid (w.heap.size + 1 ≤ (w.alloc (.cells (portCells p (.slice a p.ships.length cap)).toArray 46)).heap.size) := by show _ ≤ _; simp
  obtain ⟨pc0, pc1, pc14, pc15⟩ := X0.out.cells
  have hlen : p.ships.length < 15 := hp.len
  clear hrd hp
  generalize hPC : (portCells p (.slice a p.ships.length cap)).toArray = PC at *
  clear hPC
  have O0 : Hid ((w.alloc (.cells PC 46)).ownsRow (w.heap.size + 1) 3 1 (.slice none 0 0) (ints (waitL p 0)).length (cellsK cInt (ints (waitL p 0)))) := World.ownsRow_nil _ _ _ _
  go_enter Try.func40, Try.ntmps40
  go_wp2_with fail
  clear pc0 pc1 pc14 pc15
  generalize w.alloc (.cells PC 46) = WA at *
  go_loopg [3, 9] p.ships.length (fun kx s3 s9 wr => ∃ (j : Nat), s9 = .int .i64 j ∧ j ≤ p.ships.length ∧ p.ships.length - j ≤ kx ∧ Hid (Below w.heap.size w wr ∧ PBox wr w.heap.size p (.slice a p.ships.length cap) ∧ w.heap.size + 1 ≤ wr.heap.size) ∧ Hid (wr.ownsRow (w.heap.size + 1) 3 1 s3 (ints (waitL p j)).length (cellsK cInt (ints (waitL p j)))) ∧ Hid (waitL p j = [] → s3 = .slice none 0 0))
  case atStart => exact ⟨0, rfl, Nat.zero_le _, by omega, ⟨B0.out, X0.out, Z0.out⟩, O0, (fun _ => rfl : waitL p 0 = [] → _)⟩
  case round =>
    clear B0 O0 X0 Z0
    obtain ⟨j, rfl, hj, hg, S1, O1, NN⟩ := hrel
    by_cases hjl : j < p.ships.length
    · obtain ⟨s, hs⟩ : ∃ s, p.ships[j]? = some s := ⟨p.ships[j], List.getElem?_eq_getElem hjl⟩
      obtain ⟨bb, off, rfl, hrd⟩ : ∃ b off, a = some ⟨b, off, none⟩ ∧ RdK cShip w b off p.ships := by
        rcases HR.out with h | h
        · rw [h] at hjl; simp at hjl
        · exact h
      have hws := waitL_succ p j
      rw [shp_get hs] at hws
      obtain ⟨c0, c1, c2, c3, c4, c5⟩ := (hrd.below S1.out.1).ship hs
      have hbw : Below wr.heap.size wr (wr.alloc (.cells #[.int .i64 s.st, .int .i64 s.wd, .int .i64 s.lg, .int .i64 s.cl, .int .i64 s.si, .int .i64 s.qu] 48)) := (Below.refl _ wr).alloc (Nat.le_refl _) _
      have S4 : Hid (Below w.heap.size w (wr.alloc (.cells #[.int .i64 s.st, .int .i64 s.wd, .int .i64 s.lg, .int .i64 s.cl, .int .i64 s.si, .int .i64 s.qu] 48)) ∧ PBox (wr.alloc (.cells #[.int .i64 s.st, .int .i64 s.wd, .int .i64 s.lg, .int .i64 s.cl, .int .i64 s.si, .int .i64 s.qu] 48)) w.heap.size p (.slice (some ⟨bb, off, none⟩) p.ships.length cap) ∧ w.heap.size + 1 ≤ (wr.alloc (.cells #[.int .i64 s.st, .int .i64 s.wd, .int .i64 s.lg, .int .i64 s.cl, .int .i64 s.si, .int .i64 s.qu] 48)).heap.size) := ⟨S1.out.1.trans (hbw.mono S1.out.1.size), S1.out.2.1.later hbw S1.out.2.1.lt, by have := S1.out.2.2; have := hbw.size; omega⟩
      have O4 : Hid ((wr.alloc (.cells #[.int .i64 s.st, .int .i64 s.wd, .int .i64 s.lg, .int .i64 s.cl, .int .i64 s.si, .int .i64 s.qu] 48)).ownsRow (w.heap.size + 1) 3 1 u3 (ints (waitL p j)).length (cellsK cInt (ints (waitL p j)))) := O1.out.alloc _
      have N4 : Hid (SBox (wr.alloc (.cells #[.int .i64 s.st, .int .i64 s.wd, .int .i64 s.lg, .int .i64 s.cl, .int .i64 s.si, .int .i64 s.qu] 48)) wr.heap.size s) := SBox.new wr s
      have hk3 : (j : Int) < (p.ships.length : Int) := by omega
      clear hs hrd hbw S1 O1
      go_upto_region 5 with fail
      clear c0 c1 c2 c3 c4 c5
      generalize wr.alloc (.cells #[.int .i64 s.st, .int .i64 s.wd, .int .i64 s.lg, .int .i64 s.cl, .int .i64 s.si, .int .i64 s.qu] 48) = WB at *
      generalize wr.heap.size = gs at *
      obtain ⟨k0, k1, k2, k3, k4, k5⟩ := N4.out.cells
      clear k1 k2 k3 k4 k5
      by_cases h3 : s.st = 1
      · have hb3 : (s.st == 1) = true := by simp [h3]
        rw [if_pos h3] at hws
        have HS3 : Hid (ints (waitL p (j + 1)) = ints (waitL p j) ++ [(j : Int)]) := by show _ = _; rw [hws, ints_append]; rfl
        have hl := waitL_len p j
        have hl2 := ints_len (waitL p j)
        have Q1 : Hid ((ints (waitL p j)).length + 1 ≤ maxLen ∧ ((ints (waitL p j)).length + 1) * 8 ≤ 140737488355328) := ⟨by unfold maxLen; omega, by omega⟩
        have R1 : Hid (RdK cInt (WB.alloc (.cells #[.int .i64 (j : Int)] 3)) WB.heap.size 0 [(j : Int)]) := rdK_one WB _ _
        have hbw2 : Below WB.heap.size WB (WB.alloc (.cells #[.int .i64 (j : Int)] 3)) := (Below.refl _ WB).alloc (Nat.le_refl _) _
        have S5 : Hid (Below w.heap.size w (WB.alloc (.cells #[.int .i64 (j : Int)] 3)) ∧ PBox (WB.alloc (.cells #[.int .i64 (j : Int)] 3)) w.heap.size p (.slice (some ⟨bb, off, none⟩) p.ships.length cap) ∧ w.heap.size + 1 ≤ (WB.alloc (.cells #[.int .i64 (j : Int)] 3)).heap.size) := ⟨S4.out.1.trans (hbw2.mono S4.out.1.size), S4.out.2.1.later hbw2 S4.out.2.1.lt, by have := S4.out.2.2; have := hbw2.size; omega⟩
        have O5 : Hid ((WB.alloc (.cells #[.int .i64 (j : Int)] 3)).ownsRow (w.heap.size + 1) 3 1 u3 (ints (waitL p j)).length (cellsK cInt (ints (waitL p j)))) := O4.out.alloc _
        clear h3 hws hl hl2 hbw2
        go_wp2_with (at_builtin; refine wpList_appK tyInt rfl _ _ rfl (w.heap.size + 1) u3 (ints (waitL p j)) [(j : Int)] WB.heap.size 0 1 1 rfl rfl rfl O5.out R1.out S5.out.2.2 Q1.out.1 Q1.out.2 ?_; intro v' w1 hw1)
        go_roundg (p.ships.length - (j + 1))
        case measure => omega
        case rel => exact ⟨j + 1, by go_num, by omega, Nat.le_refl _, ⟨S5.out.1.trans (hw1.out.2.mono (by omega)), S5.out.2.1.later hw1.out.2 (by omega), by have := hw1.out.2.size; have := S5.out.2.2; omega⟩, (by rw [HS3.out]; exact hw1.out.1 : World.ownsRow _ _ _ _ _ _ _), (fun h => by have h2 := HS3.out; rw [h] at h2; simp [ints] at h2 : waitL p (j + 1) = [] → _)⟩
      · have hb3 : (s.st == 1) = false := by simp [h3]
        rw [if_neg h3, List.append_nil] at hws
        have HS3 : Hid (waitL p (j + 1) = waitL p j) := hws
        clear h3 hws
        go_wp2_with fail
        go_roundg (p.ships.length - (j + 1))
        case measure => omega
        case rel => exact ⟨j + 1, by go_num, by omega, Nat.le_refl _, S4, (by rw [HS3.out]; exact O4.out : World.ownsRow _ _ _ _ _ _ _), (fun h => NN.out (by rw [← HS3.out]; exact h) : waitL p (j + 1) = [] → _)⟩
    · have hje : j = p.ships.length := by omega
      subst hje
      have hj3 : ¬ ((p.ships.length : Int) < (p.ships.length : Int)) := by omega
      by_cases hnil : u3 = .slice none 0 0
      · have D : Hid (∃ rk, RankedIs p rk ∧ wr.ownsRow w.heap.size 3 1 (.slice none 0 0) (ints rk).length (cellsK cInt (ints rk))) := by
          have ho := O1.out
          rw [hnil] at ho
          have hs := slK_ofRow ho
          obtain ⟨a1, c1, he, _, h⟩ := hs
          injection he with he1 he2 he3
          have hz : waitL p p.ships.length = [] := List.eq_nil_of_length_eq_zero (by rw [← ints_len]; omega)
          exact ⟨[], ranked_of (by rw [hz]) List.Pairwise.nil, World.ownsRow_nil _ _ _ _⟩
        subst hnil
        clear O1
        go_wp2_with (first | (go_at_call 68; refine (sort_nil _ _).mono ?_; rintro e w9 ⟨rfl, rfl⟩))
        go_ret
        exact ⟨⟨_, rfl, D⟩, S1.out.1⟩
      · obtain ⟨g, cap', rfl, ho⟩ := OwnK.ofRow O1.out hnil
        have hlw := waitL_len p p.ships.length
        have hne : p.ships ≠ [] := by
          intro h0
          have hz : waitL p p.ships.length = [] := List.eq_nil_of_length_eq_zero (by rw [h0] at hlw ⊢; simpa using hlw)
          exact hnil (NN.out hz)
        obtain ⟨bb, off, rfl, hrd⟩ : ∃ b off, a = some ⟨b, off, none⟩ ∧ RdK cShip w b off p.ships := by
          rcases HR.out with h | h
          · exact absurd h hne
          · exact h
        have hbb : bb < w.heap.size := by
          obtain ⟨s, hs⟩ : ∃ s, p.ships[0]? = some s := ⟨p.ships[0]'(List.length_pos_iff.2 hne), List.getElem?_eq_getElem _⟩
          exact World.block_lt_of_cell? w _ (hrd.ship hs).1
        have HC := sort_any p w.heap.size bb off cap (w.heap.size + 1) g cap' (waitL p p.ships.length) wr ⟨S1.out.2.1, hrd.below S1.out.1⟩ (by omega) (by omega) ho (fun x hx => (waitL_mem.1 hx).1) (by omega) (waitL_nodup _ _) (ltP_total HP.out)
        have S2 : Hid (Below w.heap.size w wr) := S1.out.1
        rw [ints_len]
        clear O1 NN hnil hne hrd ho S1 hlw
        generalize hml : waitL p p.ships.length = ml at *
        have HML : Hid (waitL p p.ships.length = ml) := hml
        clear hml
        go_wp2_with fail
        refine HC.mono ?_
        rintro e w9 ⟨rfl, hw9⟩
        clear HC
        go_wp2_with fail
        go_ret
        obtain ⟨m', q1, q2, q3, q4⟩ := hw9.out
        have hS := ownsRow_mono (OwnK.toRow encInt q3) (show w.heap.size ≤ w.heap.size + 1 by omega)
        have hll : (ints m').length = ml.length := by rw [ints_len, q1.length_eq]
        have hS2 : w9.ownsRow w.heap.size 3 1 (.slice (some ⟨g, 0, none⟩) ml.length cap') (ints m').length (cellsK cInt (ints m')) := by rw [hll] at hS ⊢; exact hS
        exact ⟨⟨_, rfl, ⟨m', ranked_of (by rw [HML.out]; exact q1) q2, hS2⟩⟩, S2.out.trans (q4.mono (by omega))⟩

end Go.Proofs.Ytghhegajbehpeaa
