/- Texts of this claim, in one: DNilW. -/
import Derived.Test.YtcmdoeledmkfmabGreatDoorQL
import Derived.Test.YtcmdoeledmkfmabGreatDoorXRefSameW
/- A desk that is nil: P5.1. -/
set_option linter.unusedSimpArgs false
set_option linter.unusedVariables false
namespace Go.Proofs.YtcmdoeledmkfmabGreatDoor
open Go.RowKit

theorem nilTell (s : Value) (w : World) : Calls Tryz.prog 12 #[.pointer none, s] w fun e w' => e = .returned (.agg #[.int .i64 3, .int .i64 0]) ∧ Below w.heap.size w w' := by
  go_enter Tryz.func12, Tryz.ntmps12
  go_wp2
  exact bodyPost_ret (v := .agg #[.int .i64 3, .int .i64 0]) (by simp [results, Tryz.results12, go_sem]) rfl ⟨rfl, (Below.refl _ _).alloc (Nat.le_refl _) _⟩

theorem nilPlan (w : World) : Calls Tryz.prog 15 #[.pointer none] w fun e w' => e = .returned (.slice none 0 0) ∧ w' = w := by
  go_enter Tryz.func15, Tryz.ntmps15
  go_wp2
  go_ret
  exact ⟨rfl, rfl⟩

theorem nilPort (w : World) : Calls Tryz.prog 14 #[.pointer none] w fun e w' => e = .returned (.agg (portCells zeroPt (.slice none 0 0)).toArray) ∧ Below w.heap.size w w' := by
  go_enter Tryz.func14, Tryz.ntmps14
  go_wp2_with (first | (refine wpList_alloc_box rfl rfl 2 rfl ?_; intro w1 h1 s1) | (refine wpList_store_box rfl _ _ rfl w.heap.size zeroPt zeroPt (.slice none 0 0) (.slice none 0 0) rfl rfl h1.out.1 rfl rfl ?_; intro w2 h2 s2))
  refine bodyPost_ret (v := .agg (portCells zeroPt (.slice none 0 0)).toArray) (results_box Tryz.results14 _ _ w.heap.size zeroPt (.slice none 0 0) rfl h2.out.1) rfl ?_
  exact ⟨rfl, h1.out.2.trans (h2.out.2.2 _ (Nat.le_refl _))⟩

theorem zeroPtV (w : World) : PtV w (.agg (portCells zeroPt (.slice none 0 0)).toArray) zeroPt := ⟨_, rfl, SlK.nil w, rfl, by show (0 : Nat) ≤ _; omega⟩

set_option maxHeartbeats 2000000 in
set_option maxRecDepth 100000 in
theorem deskNil_any (s : List UInt8) (w : World) (hL : LW w) (hs : s.length ≤ 9223372036854775807) :
    Calls Tryz.prog 3 #[txt s] w fun e w' => e = .returned (.bool true) ∧ Below w.heap.size w w' := by
  clear hL hs
  have hE : ∀ x, (Op.equalIn 10000 25 (.agg #[.int .i64 3, .int .i64 0]) (.agg #[.int .i64 3, .int .i64 0])).run Tryz.prog x = .ok true x := fun _ => by kernel_rfl
  have HT := nilTell (txt s)
  have HS := fun W => refSame_any (.agg (portCells zeroPt (.slice none 0 0)).toArray) (.agg (portCells zeroPt (.slice none 0 0)).toArray) zeroPt zeroPt W (zeroPtV W) (zeroPtV W)
  have hz : (portCells zeroPt (.slice none 0 0)).toArray = #[.int .i64 0, .slice none 0 0, .int .i64 0, .int .i64 0, .int .i64 0, .int .i64 0, .int .i64 0, .int .i64 0, .int .i64 0, .int .i64 0, .int .i64 0, .int .i64 0, .int .i64 0, .int .i64 0, .int .i64 0, .int .i64 0] := rfl
  have HP := nilPort
  rw [hz] at HS HP
  clear hz
  generalize txt s = v at *
  go_enter Tryz.func3, Tryz.ntmps3
  go_wp2_with fail
  refine (HT _).mono ?_
  rintro e w1 ⟨rfl, hb1⟩
  have B1 : Hid (Below w.heap.size w w1) := hb1
  clear hb1 HT
  go_wp2_with fail
  refine (HP _).mono ?_
  rintro e w2 ⟨rfl, hb2⟩
  have B2 : Hid (Below w.heap.size w w2) := B1.out.trans (hb2.mono B1.out.size)
  clear hb2 HP B1
  go_wp2_with fail
  refine (HS _).mono ?_
  rintro e w3 ⟨hB, hb3⟩
  have B3 : Hid (Below w.heap.size w w3) := B2.out.trans (hb3.mono B2.out.size)
  clear hb3 HS B2
  obtain ⟨b, rfl, hb⟩ := hB
  obtain rfl : b = true := hb.2 trivial
  clear hb
  go_wp2_with fail
  refine (nilPlan _).mono ?_
  rintro e w4 ⟨rfl, rfl⟩
  go_wp2_with fail
  go_ret
  exact ⟨rfl, B3.out⟩

end Go.Proofs.YtcmdoeledmkfmabGreatDoor
