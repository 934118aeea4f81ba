/- Texts of this claim, in one: RDec. -/
import Derived.Lib.ConvBytes
import Derived.Laws.IdiomStrings
import Derived.Test.YtcmdoeledmkfmabDoorXRLMath
import Derived.Test.YtcmdoeledmkfmabDoorQL
/- Digits: decimal of the document's own answer. -/
set_option linter.unusedSimpArgs false
set_option linter.unusedVariables false
namespace Go.Proofs.YtcmdoeledmkfmabDoor
open Go.RowKit

/-- a slice of one byte as a text -/
theorem conv1x (W : World) (n : UInt8) : (convert 43 9 (.slice (some ⟨W.heap.size, 0, none⟩) 1 1)).run Tryd.prog (W.alloc (.cells #[.int .u8 (n.toNat : Int)] 5)) = .ok (.string ⟨#[n]⟩) (W.alloc (.cells #[.int .u8 (n.toNat : Int)] 5)) :=
  run_convert_bytes_back (W.alloc (.cells #[.int .u8 (n.toNat : Int)] 5)) 43 9 5 ⟨W.heap.size, 0, none⟩ 1 [n] Tryd.underlying43 Tryd.underlying5 Tryd.underlying9 (fun j hj => by
    have : j = 0 := by simp at hj; omega
    subst this
    rw [Addr.add_lit, cell_of_row _ _ _ _ _ _ (heap_alloc_new W _)]
    rfl)

theorem cat2 (l t : List UInt8) : (⟨l.toArray⟩ : ByteArray) ++ (⟨t.toArray⟩ : ByteArray) = ⟨(l ++ t).toArray⟩ := by
  apply ByteArray.ext
  rw [ByteArray.data_append]
  simp

theorem itoa_short (n : Int) (h0 : 0 ≤ n) (h1 : n ≤ 9999999999) : (Lib.itoa n).length ≤ 10 := by
  unfold Lib.itoa
  rw [if_neg (by omega), Lib.decDigits_length]
  exact nDigits_le 10 n.toNat (by omega) (by omega)

/-- what decimal hands back -/
def DecPost (n : Int) (w : World) (e : Ending) (w' : World) : Prop := e = .returned (.string ⟨(Lib.itoa n).toArray⟩) ∧ Below w.heap.size w w'

set_option maxHeartbeats 1000000 in
theorem decimal_digit (d : Nat) (hd : d ≤ 9) (w : World) : Calls Tryd.prog 15 #[.int .i64 d] w fun e w' => DecPost d w e w' := by
  have hs := itoa_small (n := (d : Int)) (by omega) (by omega)
  rw [Int.toNat_natCast] at hs
  have hb : (UInt8.ofNat (48 + d)).toNat = 48 + d := by rw [UInt8.toNat_ofNat']; exact Nat.mod_eq_of_lt (by omega)
  have hc := conv1x w (UInt8.ofNat (48 + d))
  rw [hb] at hc
  generalize UInt8.ofNat (48 + d) = x at *
  have E : Hid (Lib.itoa d = [x]) := hs
  have h0 : ¬ ((d : Int) < 0) := by omega
  have h9 : ¬ ((9 : Int) < (d : Int)) := by omega
  have hi : ((48 + d : Nat) : Int) = 48 + (d : Int) := by omega
  rw [hi] at hc
  clear hb hi hs
  go_enter Tryd.func15, Tryd.ntmps15
  go_wp2
  go_ret
  exact ⟨by rw [E.out]; rfl, (Below.refl _ w).alloc (Nat.le_refl _) _⟩

set_option maxHeartbeats 2000000 in
theorem decimal_pos : ∀ (k : Nat) (n : Nat), n < k → (n : Int) ≤ 9999999999 → ∀ w : World, Calls Tryd.prog 15 #[.int .i64 n] w fun e w' => DecPost n w e w'
  | 0, n, h, _, w => by omega
  | k + 1, n, h, hn, w => by
    by_cases h9 : n ≤ 9
    · exact decimal_digit n h9 w
    have E : Hid (Lib.itoa (n : Int) = Lib.itoa ((n / 10 : Nat) : Int) ++ Lib.itoa ((n % 10 : Nat) : Int)) := by
      have := itoa_big (n := (n : Int)) (by omega)
      have e1 : (n : Int).tdiv 10 = ((n / 10 : Nat) : Int) := by rw [Int.tdiv_eq_ediv_of_nonneg (by omega)]; omega
      have e2 : (n : Int).tmod 10 = ((n % 10 : Nat) : Int) := by rw [Int.tmod_eq_emod_of_nonneg (by omega)]; omega
      rw [e1, e2] at this
      exact this
    have L1 := itoa_short ((n / 10 : Nat) : Int) (by omega) (by omega)
    have L2 := itoa_short ((n % 10 : Nat) : Int) (by omega) (by omega)
    have H1 := fun W => decimal_pos k (n / 10) (by omega) (by omega) W
    have H2 := fun W => decimal_digit (n % 10) (by omega) W
    have e1 : (n : Int).tdiv 10 = ((n / 10 : Nat) : Int) := by rw [Int.tdiv_eq_ediv_of_nonneg (by omega)]; omega
    have e2 : (n : Int).tmod 10 = ((n % 10 : Nat) : Int) := by rw [Int.tmod_eq_emod_of_nonneg (by omega)]; omega
    have h0 : ¬ ((n : Int) < 0) := by omega
    have h91 : ((9 : Int) < (n : Int)) := by omega
    have hw1 : wrap64 ((n / 10 : Nat) : Int) = ((n / 10 : Nat) : Int) := by unfold wrap64; omega
    have hw2 : wrap64 ((n % 10 : Nat) : Int) = ((n % 10 : Nat) : Int) := by unfold wrap64; omega
    generalize n / 10 = a at *
    generalize n % 10 = b at *
    unfold DecPost at H1 H2
    generalize ha : Lib.itoa (a : Int) = la at *
    generalize hb : Lib.itoa (b : Int) = lb at *
    clear ha hb h hn h9
    go_enter Tryd.func15, Tryd.ntmps15
    go_wp2_with fail
    refine (H1 _).mono ?_
    rintro e w1 ⟨rfl, hb1⟩
    have B1 : Hid (Below w.heap.size w w1) := hb1
    clear hb1 H1
    go_wp2_with fail
    try rw [e2]
    refine (H2 _).mono ?_
    rintro e w2 ⟨rfl, hb2⟩
    have B2 : Hid (Below w.heap.size w w2) := B1.out.trans (hb2.mono B1.out.size)
    clear hb2 H2 B1 e1 e2
    go_wp2_with fail
    go_ret
    exact ⟨by rw [E.out, ← cat2]; rfl, B2.out⟩

/-- decimal: as Itoa prints it -/
theorem decimal_any (n : Int) (h0 : -9999999999 ≤ n) (h1 : n ≤ 9999999999) (w : World) : Calls Tryd.prog 15 #[.int .i64 n] w fun e w' => DecPost n w e w' := by
  by_cases hn : n < 0
  · obtain ⟨m, rfl⟩ : ∃ m : Nat, n = -(m : Int) := ⟨n.natAbs, by omega⟩
    have E : Hid (Lib.itoa (-(m : Int)) = 45 :: Lib.itoa (m : Int)) := by
      have := itoa_neg hn
      rw [Int.neg_neg] at this
      exact this
    have H1 := fun W => decimal_pos (m + 1) m (by omega) (by omega) W
    have L1 := itoa_short (m : Int) (by omega) (by omega)
    unfold DecPost at H1
    generalize ha : Lib.itoa (m : Int) = la at *
    clear ha
    go_enter Tryd.func15, Tryd.ntmps15
    go_wp2_with fail
    refine (H1 _).mono ?_
    rintro e w1 ⟨rfl, hb1⟩
    have B1 : Hid (Below w.heap.size w w1) := hb1
    clear hb1 H1
    go_wp2_with fail
    go_ret
    exact ⟨by rw [E.out, show (45 :: la) = [45] ++ la from rfl, ← cat2]; rfl, B1.out⟩
  · obtain ⟨m, rfl⟩ : ∃ m : Nat, n = (m : Int) := ⟨n.toNat, by omega⟩
    exact decimal_pos (m + 1) m (by omega) (by omega) w

end Go.Proofs.YtcmdoeledmkfmabDoor
