/- The room that the ships that lie take, in the form of what is kept: lying of package port. -/
import Derived.Test.YtghhegajbehpeaaPApp
set_option linter.unusedSimpArgs false
set_option linter.unusedVariables false
namespace Go.Proofs.Ytghhegajbehpeaa
open Go.RowKit

/-- what the ships that lie take, as if it were kept -/
def lyingL (l : List Ship) : List Kp := (l.filter fun s => decide (s.st = 3)).map fun s => ⟨s.wd, s.si, s.si + s.lg⟩

theorem lyingL_len (l : List Ship) : (lyingL l).length ≤ l.length := by unfold lyingL; simp; exact List.length_filter_le _ _
theorem lyingL_succ {l : List Ship} {j : Nat} {s : Ship} (hs : l[j]? = some s) : lyingL (l.take (j + 1)) = lyingL (l.take j) ++ if s.st = 3 then [⟨s.wd, s.si, s.si + s.lg⟩] else [] := by
  unfold lyingL
  rw [List.take_add_one, hs, Option.toList_some, List.filter_append, List.map_append]
  by_cases h : s.st = 3 <;> simp [h]


set_option maxHeartbeats 2000000 in
set_option maxRecDepth 100000 in
theorem lying_any (v : Value) (p : Pt) (w : World) (hv : PtV w v p) (hp : IsPort0 p) :
    Calls Try.prog 67 #[v] w fun e w' => ∃ v', e = .returned v' ∧ w'.ownsRow w.heap.size 43 3 v' (lyingL p.ships).length (cellsK cKp (lyingL p.ships)) ∧ Below w.heap.size w w' := by
  obtain ⟨vs, rfl, ⟨a, cap, rfl, hcap, hrd⟩, h4, hmx⟩ := hv
  have HR : Hid (p.ships = [] ∨ ∃ b off, a = some ⟨b, off, none⟩ ∧ RdK cShip w b off p.ships) := hrd
  have HP : Hid (IsPort0 p) := hp
  have X0 : Hid (PBox (w.alloc (.cells (portCells p (.slice a p.ships.length cap)).toArray 46)) w.heap.size p (.slice a p.ships.length cap)) := PBox.new w p _ h4
  have B0 : Hid (Below w.heap.size w (w.alloc (.cells (portCells p (.slice a p.ships.length cap)).toArray 46))) := (Below.refl _ w).alloc (Nat.le_refl _) _
  obtain ⟨pc0, pc1, pc14, pc15⟩ := X0.out.cells
  have hlen : p.ships.length < 15 := hp.len
  clear hrd hp
  generalize hPC : (portCells p (.slice a p.ships.length cap)).toArray = PC at *
  clear hPC
  have O0 : Hid ((w.alloc (.cells PC 46)).ownsRow w.heap.size 43 3 (.slice none 0 0) (lyingL (p.ships.take 0)).length (cellsK cKp (lyingL (p.ships.take 0)))) := World.ownsRow_nil _ _ _ _
  go_enter Try.func67, Try.ntmps67
  go_wp2_with fail
  clear pc0 pc1 pc14 pc15 X0
  generalize w.alloc (.cells PC 46) = WA at *
  go_loopg [3, 9] p.ships.length (fun kx s3 s9 wr => ∃ (j : Nat), s9 = .int .i64 j ∧ j ≤ p.ships.length ∧ p.ships.length - j ≤ kx ∧ Hid (Below w.heap.size w wr) ∧ Hid (wr.ownsRow w.heap.size 43 3 s3 (lyingL (p.ships.take j)).length (cellsK cKp (lyingL (p.ships.take j)))))
  case atStart => exact ⟨0, rfl, Nat.zero_le _, by omega, B0, O0⟩
  case round =>
    clear B0 O0
    obtain ⟨j, rfl, hj, hg, S1, O1⟩ := hrel
    by_cases hjl : j < p.ships.length
    · obtain ⟨s, hs⟩ : ∃ s, p.ships[j]? = some s := ⟨p.ships[j], List.getElem?_eq_getElem hjl⟩
      obtain ⟨bb, off, rfl, hrd⟩ : ∃ b off, a = some ⟨b, off, none⟩ ∧ RdK cShip w b off p.ships := by
        rcases HR.out with h | h
        · rw [h] at hjl; simp at hjl
        · exact h
      have HS : Hid (lyingL (p.ships.take (j + 1)) = lyingL (p.ships.take j) ++ if s.st = 3 then [⟨s.wd, s.si, s.si + s.lg⟩] else []) := lyingL_succ hs
      have HI : Hid (IsShip s p.now) := (HP.out.ship s (List.mem_of_getElem? hs)).1
      obtain ⟨c0, c1, c2, c3, c4, c5⟩ := (hrd.below S1.out).ship hs
      have hbw : Below wr.heap.size wr (wr.alloc (.cells #[.int .i64 s.st, .int .i64 s.wd, .int .i64 s.lg, .int .i64 s.cl, .int .i64 s.si, .int .i64 s.qu] 48)) := (Below.refl _ wr).alloc (Nat.le_refl _) _
      have S4 : Hid (Below w.heap.size w (wr.alloc (.cells #[.int .i64 s.st, .int .i64 s.wd, .int .i64 s.lg, .int .i64 s.cl, .int .i64 s.si, .int .i64 s.qu] 48))) := S1.out.trans (hbw.mono S1.out.size)
      have O4 : Hid ((wr.alloc (.cells #[.int .i64 s.st, .int .i64 s.wd, .int .i64 s.lg, .int .i64 s.cl, .int .i64 s.si, .int .i64 s.qu] 48)).ownsRow w.heap.size 43 3 u3 (lyingL (p.ships.take j)).length (cellsK cKp (lyingL (p.ships.take j)))) := O1.out.alloc _
      have N4 : Hid (SBox (wr.alloc (.cells #[.int .i64 s.st, .int .i64 s.wd, .int .i64 s.lg, .int .i64 s.cl, .int .i64 s.si, .int .i64 s.qu] 48)) wr.heap.size s) := SBox.new wr s
      have hk3 : (j : Int) < (p.ships.length : Int) := by omega
      clear hs hrd hbw S1 O1
      go_upto_region 5 with fail
      clear c0 c1 c2 c3 c4 c5
      generalize wr.alloc (.cells #[.int .i64 s.st, .int .i64 s.wd, .int .i64 s.lg, .int .i64 s.cl, .int .i64 s.si, .int .i64 s.qu] 48) = WB at *
      generalize wr.heap.size = gs at *
      obtain ⟨k0, k1, k2, k3, k4, k5⟩ := N4.out.cells
      by_cases h3 : s.st = 3
      · have hb3 : (s.st == 3) = true := by simp [h3]
        obtain ⟨i1, i2, i3, i4⟩ := HI.out.lies h3
        obtain ⟨l1, l2⟩ := HI.out.lg
        have HS2 := HS.out
        rw [if_pos h3] at HS2
        have HS3 : Hid (lyingL (p.ships.take (j + 1)) = lyingL (p.ships.take j) ++ [⟨s.wd, s.si, s.si + s.lg⟩]) := HS2
        have hl := lyingL_len (p.ships.take j)
        have hl2 : (p.ships.take j).length ≤ 14 := by simp; omega
        have Q1 : Hid ((lyingL (p.ships.take j)).length + 1 ≤ maxLen ∧ ((lyingL (p.ships.take j)).length + 1) * 24 ≤ 140737488355328) := ⟨by unfold maxLen; omega, by omega⟩
        have R1 : Hid (RdK cKp (WB.alloc (.cells #[.int .i64 s.wd, .int .i64 s.si, .int .i64 (s.si + s.lg)] 43)) WB.heap.size 0 [⟨s.wd, s.si, s.si + s.lg⟩]) := rdK_new (k := 3) (c := cKp) WB _ (⟨s.wd, s.si, s.si + s.lg⟩ : Kp) _ rfl
        have Z1 : Hid (w.heap.size ≤ (WB.alloc (.cells #[.int .i64 s.wd, .int .i64 s.si, .int .i64 (s.si + s.lg)] 43)).heap.size) := by have := S4.out.size; show _ ≤ _; simp; omega
        have S5 : Hid (Below w.heap.size w (WB.alloc (.cells #[.int .i64 s.wd, .int .i64 s.si, .int .i64 (s.si + s.lg)] 43))) := S4.out.alloc S4.out.size _
        have O5 : Hid ((WB.alloc (.cells #[.int .i64 s.wd, .int .i64 s.si, .int .i64 (s.si + s.lg)] 43)).ownsRow w.heap.size 43 3 u3 (lyingL (p.ships.take j)).length (cellsK cKp (lyingL (p.ships.take j)))) := O4.out.alloc _
        clear h3 HS HS2 hl hl2
        go_wp2_with (at_builtin; refine wpList_appK tyKp rfl _ _ rfl w.heap.size u3 (lyingL (p.ships.take j)) [⟨s.wd, s.si, s.si + s.lg⟩] WB.heap.size 0 1 1 rfl rfl rfl O5.out R1.out Z1.out Q1.out.1 Q1.out.2 ?_; intro v' w1 hw1)
        go_roundg (p.ships.length - (j + 1))
        case measure => omega
        case rel => exact ⟨j + 1, by go_num, by omega, Nat.le_refl _, S5.out.trans hw1.out.2, (by rw [HS3.out]; exact hw1.out.1 : World.ownsRow _ _ _ _ _ _ _)⟩
      · have hb3 : (s.st == 3) = false := by simp [h3]
        have HS2 := HS.out
        rw [if_neg h3, List.append_nil] at HS2
        have HS3 : Hid (lyingL (p.ships.take (j + 1)) = lyingL (p.ships.take j)) := HS2
        clear h3 HS HS2
        go_wp2_with fail
        go_roundg (p.ships.length - (j + 1))
        case measure => omega
        case rel => exact ⟨j + 1, by go_num, by omega, Nat.le_refl _, S4, (by rw [HS3.out]; exact O4.out : World.ownsRow _ _ _ _ _ _ _)⟩
    · have hje : j = p.ships.length := by omega
      have O4 : Hid (wr.ownsRow w.heap.size 43 3 u3 (lyingL p.ships).length (cellsK cKp (lyingL p.ships))) := by
        have h := O1.out
        rw [hje, List.take_length] at h; exact h
      clear hje
      have hj3 : ¬ ((j : Int) < (p.ships.length : Int)) := by omega
      go_wp2
      go_ret
      exact ⟨u3, rfl, O4.out, S1.out⟩

end Go.Proofs.Ytghhegajbehpeaa
