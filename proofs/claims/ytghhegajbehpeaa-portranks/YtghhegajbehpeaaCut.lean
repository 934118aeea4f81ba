/- cut of package span: of steps in a row of the call's own, steps that say the same and of which one begins at the time. -/
import Derived.Test.YtghhegajbehpeaaInsert2
import Derived.Test.YtghhegajbehpeaaMath2
set_option linter.unusedSimpArgs false
set_option linter.unusedVariables false
namespace Go.Proofs.Ytghhegajbehpeaa
open Go.RowKit

set_option maxHeartbeats 1000000 in
theorem cut_any (B g cap : Nat) (l : List (Int × Int)) (t : Int) (w : World) (ho : OwnG w B g cap l) (hL : Loose l) (h0 : 0 ≤ t) :
    Calls Try.prog 84 #[.slice (some ⟨g, 0, none⟩) l.length cap, .int .i64 t] w fun e w' =>
      ∃ l' g' cap', e = .returned (.slice (some ⟨g', 0, none⟩) l'.length cap') ∧ OwnG w' B g' cap' l' ∧ CutSpec l t l' ∧ Below B w w' := by
  have hn : l.length ≤ 300 := hL.len
  have HP := place_any g 0 cap l t w ho.rd (by omega) hL.rise
  have HO : Hid (OwnG w B g cap l) := ho
  have HL : Hid (Loose l) := hL
  have hB : B ≤ w.heap.size := by have := ho.base; have := ho.lt; omega
  clear ho hL
  go_enter Try.func84, Try.ntmps84
  go_wp2_with fail
  refine HP.mono ?_
  rintro e w1 ⟨i, rfl, hc, hb⟩
  have O1 : Hid (OwnG w1 B g cap l) := HO.out.later hb
  have B1 : Hid (Below B w w1) := hb.mono hB
  have HC : Hid (CutAt l t i) := hc
  have hil : i ≤ l.length := hc.1
  clear hb hc HP
  generalize hff : fnd l t i = f
  have FF : Hid (fnd l t i = f) := hff
  clear hff
  cases f
  case true =>
    go_wp2
    go_ret
    refine ⟨l, g, cap, rfl, O1.out, CutSpec.self HL.out fun _ => ?_, B1.out⟩
    obtain ⟨h1, h2⟩ := of_decide_eq_true FF.out
    exact ⟨i, h1, h2⟩
  case false =>
    by_cases h3 : 300 ≤ t
    · go_wp2
      go_ret
      exact ⟨l, g, cap, rfl, O1.out, CutSpec.self HL.out fun h => by omega, B1.out⟩
    · obtain ⟨hi, hS⟩ := CutSpec.ins HL.out h0 (by omega) HC.out FF.out
      obtain ⟨m, rfl⟩ : ∃ m, i = m + 1 := ⟨i - 1, by omega⟩
      rw [Nat.add_sub_cancel] at hS
      obtain ⟨c0, c1⟩ := O1.out.rd m (by omega)
      rw [Nat.zero_add] at c0 c1
      generalize hx : sAt l m = x at *
      have HS : Hid (CutSpec l t (l.take (m + 1) ++ (t, x.2) :: l.drop (m + 1))) := hS
      have O2 : Hid (OwnG (w1.alloc (.cells #[.int .i64 t, .int .i64 x.2] 31)) B g cap l) := O1.out.later ((Below.refl _ w1).alloc (Nat.le_refl _) _)
      have V2 : Hid ((w1.alloc (.cells #[.int .i64 t, .int .i64 x.2] 31)).heap[w1.heap.size]? = some (.cells #[.int .i64 t, .int .i64 x.2] 31 (0, 0))) := heap_alloc_new w1 _
      have B2 : Hid (Below B w (w1.alloc (.cells #[.int .i64 t, .int .i64 x.2] 31))) := B1.out.trans ((Below.refl _ _).alloc (by have := B1.out.size; omega) _)
      have hne : w1.heap.size ≠ g := by have := O1.out.lt; omega
      clear hS hx
      go_wp2_with fail
      refine (insert_any B g cap w1.heap.size (m + 1) l (t, x.2) _ O2.out (by omega) hil hne V2.out).mono ?_
      rintro e w2 ⟨g', cap', rfl, ho2, hb2⟩
      have O3 : Hid (OwnG w2 B g' cap' (l.take (m + 1) ++ (t, x.2) :: l.drop (m + 1))) := ho2
      have B3 : Hid (Below B w w2) := B2.out.trans hb2
      clear ho2 hb2
      go_wp2
      go_ret
      exact ⟨_, g', cap', by rw [len_ins l (m + 1) hil]; rfl, O3.out, HS.out, B3.out⟩

end Go.Proofs.Ytghhegajbehpeaa
