/- Texts of this claim, in one: TEndsW. -/
import Derived.Test.YtcmdoeledmkfmacGreatDoorXTBase
/- TopEnds: behind as many lines as may be told each further one is refused and changes nothing: P5.2. -/
set_option linter.unusedSimpArgs false
set_option linter.unusedVariables false
namespace Go.Proofs.YtcmdoeledmkfmacGreatDoor
open Go.RowKit

def sHuh : List UInt8 := [63]
theorem parse_huh : ParseIs sHuh none := by
  intro o _ h
  obtain ⟨hg, he⟩ := h
  have hp : pieces sHuh = [[63]] := by decide
  rw [hp] at he
  unfold toldL at he
  injection he with he _
  have hk := hg.kind
  have : ∀ k : Fin 15, word k.val ≠ [63] := by decide
  exact this ⟨o.kd.toNat, hk.2.1⟩ he.symm

theorem huh_told {D D' : Dk} {er n : Int} (h : LineIs D sHuh D' er n) (hn : D.n < 250) : er = 1 ∧ D' = { D with n := D.n + 1 } := by
  obtain ⟨h1, _, h3⟩ := lineIs_none h hn parse_huh
  exact ⟨h1, h3⟩

theorem full_told {D D' : Dk} {s : List UInt8} {er n : Int} (h : LineIs D s D' er n) (hn : 250 ≤ D.n) : er = 5 ∧ n = 0 ∧ D' = D := by
  rcases h with ⟨_, h⟩ | ⟨h, _⟩
  · exact h
  · omega

theorem PD.num {l : List (List UInt8)} {w w' : World} {d : Nat} {D : Dk} (h : PD l w w' d D) : D.n = (min l.length 80 : Nat) := by
  have := playIs_n _ newDk D newDk_ok (by simp only [List.length_take]; show (0 : Int) + _ ≤ 250; omega) h.play
  rw [this]
  simp only [List.length_take]
  show (0 : Int) + _ = _
  omega

set_option maxHeartbeats 4000000 in
set_option maxRecDepth 100000 in
theorem topEnds_any (v : Value) (l : List (List UInt8)) (s : List UInt8) (w : World) (hL : LW w) (hs : SlK cStr w v l) (hln : ∀ y ∈ l, y.length ≤ 9223372036854775807) (hll : l.length ≤ 8796093022208) (hsl : s.length ≤ 9223372036854775807) :
    Calls Tryz.prog 5 #[v, txt s] w fun e w' => e = .returned (.bool true) ∧ Below w.heap.size w w' := by
  have HP := fun W h1 h2 => playQuiet_any v l W h1 h2 hln hll
  have HT := fun d D W h => tell_ds d D s W h hsl
  have HTQ := fun d D W h => tell_ds d D sHuh W h (by decide)
  have HS := fun d h D H W h1 h2 => same_any d h D H W h1 h2
  have E0 : Hid (LW w ∧ SlK cStr w v l) := ⟨hL, hs⟩
  obtain ⟨a, cap, hv⟩ : ∃ a cap, v = .slice a l.length cap := by obtain ⟨a, cap, h, _⟩ := hs; exact ⟨a, cap, h⟩
  subst hv
  have eQ : txt sHuh = .string { data := #[63] } := rfl
  rw [eQ] at HTQ
  unfold txt at *
  clear hL hs hln hsl eQ
  go_enter Tryz.func5, Tryz.ntmps5
  go_wp2_with fail
  refine (HP _ E0.out.1 E0.out.2).mono ?_
  rintro e w1 ⟨d, rfl, h1⟩
  obtain ⟨D, hD⟩ := h1.out
  have E1 : Hid (PD l w w1 d D ∧ SlK cStr w1 (.slice a l.length cap) l) := ⟨hD, slK_below E0.out.2 (Nat.le_refl _) hD.below⟩
  clear h1 hD E0
  go_wp2_with fail
  refine (HP _ E1.out.1.ds.lw E1.out.2).mono ?_
  rintro e w2 ⟨h, rfl, h2⟩
  obtain ⟨H, hH⟩ := h2.out
  obtain rfl := E1.out.1.twice hH
  have hnum : Hid (H.n = (min l.length 80 : Nat)) := hH.num
  have hm : min (l.length : Int) 80 = ((min l.length 80 : Nat) : Int) := by omega
  have E2 : Hid (DS w2 d H ∧ DS w2 h H ∧ Below w.heap.size w w2 ∧ w.heap.size ≤ d ∧ w.heap.size ≤ h ∧ d ≠ h) := ⟨E1.out.1.ds.later hH.below, hH.ds, E1.out.1.below.trans (hH.below.mono E1.out.1.below.size), E1.out.1.new, Nat.le_trans E1.out.1.below.size hH.new, by have := E1.out.1.lt; have := hH.new; omega⟩
  clear h2 hH E1 HP
  go_wp2_with fail
  go_loopg [9] 250 (fun kx s9 wr => ∃ (k : Nat), s9 = .int .i64 k ∧ k ≤ 250 ∧ 250 - k ≤ kx ∧ Hid (DS wr d { H with n := (k : Int) } ∧ DS wr h { H with n := (k : Int) } ∧ Below w.heap.size w wr))
  case atStart =>
    refine ⟨min l.length 80, ?_, by omega, by omega, ?_⟩
    · first | rfl | (rw [← hm]) | (simp only [hm]) | (go_simp)
    · have e : { H with n := ((min l.length 80 : Nat) : Int) } = H := by rw [← hnum.out]
      rw [e]
      exact ⟨E2.out.1, E2.out.2.1, E2.out.2.2.1⟩
  case round =>
    obtain ⟨k, rfl, hk, hg, I⟩ := hrel
    by_cases hlt : k < 250
    · have hki : (k : Int) < 250 := by omega
      clear HT HS
      go_wp2_with fail
      refine (HTQ d _ _ I.out.1).mono ?_
      rintro e w3 ⟨er, n, rfl, h3⟩
      obtain ⟨D1, j1, j2, j3⟩ := h3.out
      obtain ⟨rfl, rfl⟩ := huh_told j1 hki
      have hf := fieldCode (.int .i64 1) (.int .i64 n)
      have E3 : Hid (DS w3 d { H with n := ((k + 1 : Nat) : Int) } ∧ DS w3 h { H with n := (k : Int) } ∧ Below w.heap.size w w3) := ⟨j2, I.out.2.1.other I.out.1 j3 (fun e => E2.out.2.2.2.2.2 e.symm), I.out.2.2.trans (j3.below.mono E2.out.2.2.2.1)⟩
      clear h3 j1 j2 j3 I
      go_wp2_with fail
      refine (HTQ h _ _ E3.out.2.1).mono ?_
      rintro e w4 ⟨er, n', rfl, h4⟩
      obtain ⟨D1, j1, j2, j3⟩ := h4.out
      obtain ⟨rfl, rfl⟩ := huh_told j1 hki
      have hf' := fieldCode (.int .i64 1) (.int .i64 n')
      have E4 : Hid (DS w4 d { H with n := ((k + 1 : Nat) : Int) } ∧ DS w4 h { H with n := ((k + 1 : Nat) : Int) } ∧ Below w.heap.size w w4) := ⟨E3.out.1.other E3.out.2.1 j3 E2.out.2.2.2.2.2, j2, E3.out.2.2.trans (j3.below.mono E2.out.2.2.2.2.1)⟩
      clear h4 j1 j2 j3 E3
      go_wp2_with fail
      go_roundg (250 - (k + 1))
      case measure => omega
      case rel => exact ⟨k + 1, by go_num, by omega, Nat.le_refl _, E4⟩
    · have hki : ¬ ((k : Int) < 250) := by omega
      clear HTQ
      go_wp2_with fail
      refine (HT d _ _ I.out.1).mono ?_
      rintro e w3 ⟨er, n, rfl, h3⟩
      obtain ⟨D1, j1, j2, j3⟩ := h3.out
      obtain ⟨rfl, rfl, rfl⟩ := full_told j1 (by show (250 : Int) ≤ (k : Int); omega)
      have hq := eqlRep_same 5 0
      have E3 : Hid (DS w3 d { H with n := (k : Int) } ∧ DS w3 h { H with n := (k : Int) } ∧ Below w.heap.size w w3) := ⟨j2, I.out.2.1.other I.out.1 j3 (fun e => E2.out.2.2.2.2.2 e.symm), I.out.2.2.trans (j3.below.mono E2.out.2.2.2.1)⟩
      clear h3 j1 j2 j3 I HT
      go_wp2_with fail
      refine (HS d h _ _ _ E3.out.1 E3.out.2.1).mono ?_
      rintro e w6 ⟨⟨b, rfl, hb6⟩, hb7⟩
      obtain rfl : b = true := hb6.2 rfl
      have E6 : Hid (Below w.heap.size w w6) := E3.out.2.2.trans (hb7.mono E3.out.2.2.size)
      clear hb6 hb7 E3 HS
      go_wp2_with fail
      go_ret
      exact ⟨rfl, E6.out⟩

end Go.Proofs.YtcmdoeledmkfmacGreatDoor
