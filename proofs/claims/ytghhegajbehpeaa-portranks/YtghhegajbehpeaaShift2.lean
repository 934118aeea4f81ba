/- shift of package span at good profiles and numbers, and Take and Give out of it: the profile with so many more or fewer, or it as it was and false. -/
import Derived.Test.YtghhegajbehpeaaShift
set_option linter.unusedSimpArgs false
set_option linter.unusedVariables false
namespace Go.Proofs.Ytghhegajbehpeaa
open Go.RowKit

/-- what shift answers at good arguments -/
def ShiftAns (l : List (Int × Int)) (fr to d : Int) (w' : World) (v' : Value) (ok : Bool) : Prop :=
  (ok = true ∧ ∃ r, Sl w' v' r ∧ ShiftSpec l fr to d r) ∨ (ok = false ∧ Sl w' v' l ∧ ∃ s, fr ≤ s ∧ s < to ∧ ¬ (0 ≤ val l s + d ∧ val l s + d ≤ 16))

set_option maxHeartbeats 4000000 in
theorem shift_good (b off cap : Nat) (l : List (Int × Int)) (fr to n sg d : Int) (w : World) (hr : Rd w b off l) (G : Good l) (hn : inB n = true) (h0 : 0 ≤ fr) (h1 : fr ≤ to) (h2 : to ≤ 300) (hsg : sg = 1 ∨ sg = -1) (hd : sg * n = d) :
    Calls Try.prog 59 #[.slice (some ⟨b, off, none⟩) l.length cap, .int .i64 fr, .int .i64 to, .int .i64 n, .int .i64 sg] w fun e w' =>
      ∃ v' ok, e = .returned (.tuple #[v', .bool ok]) ∧ ShiftAns l fr to d w' v' ok ∧ Below w.heap.size w w' := by
  have hlen := G.len
  have hnb : 0 ≤ n ∧ n ≤ 16 := of_decide_eq_true hn
  obtain ⟨hn0, hn1⟩ := hnb
  have hd0 : -16 ≤ d ∧ d ≤ 16 := by rcases hsg with rfl | rfl <;> omega
  obtain ⟨hd1, hd2⟩ := hd0
  have HG := good_some b off cap l w hr (by omega) G.pos
  rw [goodB_iff.2 G] at HG
  have HW := fun W => within_any n W
  rw [hn] at HW
  have HR : Hid (Rd w b off l) := hr
  have HL : Hid (Loose l) := G.loose
  have HC : Hid (∀ W, Below w.heap.size w W → Calls Try.prog 83 #[.slice (some ⟨b, off, none⟩) l.length cap] W fun e w' => ∃ g cap', e = .returned (.slice (some ⟨g, 0, none⟩) l.length cap') ∧ OwnG w' w.heap.size g cap' l ∧ Below w.heap.size w w') := fun W hb =>
    (clone_some b off cap l W (hr.below hb) (by omega)).mono (by rintro e w' ⟨g, cap', x1, x2, x3⟩; exact ⟨g, cap', x1, x2.mono hb.size, hb.trans (x3.mono hb.size)⟩)
  clear hr G hn hsg
  go_enter Try.func59, Try.ntmps59
  go_wp2_with fail
  refine HG.mono ?_
  rintro e w1 ⟨rfl, hb1⟩
  have B1 : Hid (Below w.heap.size w w1) := hb1
  clear hb1 HG
  go_wp2_with fail
  refine (HW _).mono ?_
  rintro e w1' ⟨rfl, rfl⟩
  clear HW
  go_wp2_with fail
  refine (HC.out _ B1.out).mono ?_
  rintro e w2 ⟨g0, cap0, rfl, ho0, hb2⟩
  have O2 : Hid (OwnG w2 w.heap.size g0 cap0 l) := ho0
  have B2 : Hid (Below w.heap.size w w2) := hb2
  clear ho0 hb2 B1
  go_wp2_with fail
  refine (cut_any w.heap.size g0 cap0 l fr _ O2.out HL.out h0).mono ?_
  rintro e w3 ⟨l1, g1, cap1, rfl, ho1, hs1, hb3⟩
  have O3 : Hid (OwnG w3 w.heap.size g1 cap1 l1) := ho1
  have S3 : Hid (CutSpec l fr l1) := hs1
  have B3 : Hid (Below w.heap.size w w3) := B2.out.trans hb3
  clear ho1 hs1 hb3 B2 O2
  go_wp2_with fail
  refine (cut_any w.heap.size g1 cap1 l1 to _ O3.out S3.out.loose (by omega)).mono ?_
  rintro e w4 ⟨q, g2, cap2, rfl, ho2, hs2, hb4⟩
  have O4 : Hid (OwnG w4 w.heap.size g2 cap2 q) := ho2
  have S4 : Hid (CutSpec l1 to q) := hs2
  have B4 : Hid (Below w.heap.size w w4) := B3.out.trans hb4
  have hq : q.length ≤ 300 := hs2.loose.len
  clear ho2 hs2 hb4 B3 O3
  go_wp2_with fail
  refine (place_any g2 0 cap2 q fr _ O4.out.rd (by omega) S4.out.loose.rise).mono ?_
  rintro e w5 ⟨ia, rfl, hca, hb5⟩
  have O5 : Hid (OwnG w5 w.heap.size g2 cap2 q) := O4.out.later hb5
  have B5 : Hid (Below w.heap.size w w5) := B4.out.trans (hb5.mono B4.out.size)
  have CA : Hid (CutAt q fr ia) := hca
  have hia : ia ≤ q.length := hca.1
  clear hb5 hca B4 O4
  generalize fnd q fr ia = f1
  go_wp2_with fail
  refine (place_any g2 0 cap2 q to _ O5.out.rd (by omega) S4.out.loose.rise).mono ?_
  rintro e w6 ⟨ib, rfl, hcb, hb6⟩
  have O6 : Hid (OwnG w6 w.heap.size g2 cap2 q) := O5.out.later hb6
  have B6 : Hid (Below w.heap.size w w6) := B5.out.trans (hb6.mono B5.out.size)
  have CB : Hid (CutAt q to ib) := hcb
  have hib : ib ≤ q.length := hcb.1
  clear hb6 hcb B5 O5
  generalize fnd q to ib = f2
  have hab : ia ≤ ib := by
    apply Classical.byContradiction
    intro hc
    have x := CA.out.2.1 ib (by omega)
    have y := CB.out.2.2 ib (Nat.le_refl _) (by omega)
    omega
  go_wp2_with fail
  go_loopg [17] q.length (fun kx s17 wr => ∃ (i : Nat) (mm : List (Int × Int)), s17 = .int .i64 i ∧ ia ≤ i ∧ i ≤ ib ∧ q.length - i ≤ kx ∧ Hid (Below w.heap.size w wr) ∧ Hid (OwnG wr w.heap.size g2 cap2 mm) ∧ Hid (ShInv q ia i d mm) ∧ Hid (∀ j, ia ≤ j → j < i → inB (sAt mm j).2 = true))
  case atStart => exact ⟨ia, q, rfl, Nat.le_refl _, hab, by omega, B6, O6, ShInv.start q ia d, (fun j x y => by omega : ∀ j, ia ≤ j → j < ia → inB (sAt q j).2 = true)⟩
  case round =>
    clear B6 O6
    obtain ⟨i, mm, rfl, hi1, hi2, hg, S1, O1, I, F⟩ := hrel
    have HM : Hid (mm.length = q.length) := I.out.1
    by_cases hlt : i < ib
    · obtain ⟨c0, c1⟩ := O1.out.rd i (by rw [HM.out]; omega)
      rw [Nat.zero_add] at c0 c1
      have f1 := O1.out.frozen (i * 2 + 1)
      have O7 : Hid (∀ y, OwnG (wr.setCell ⟨g2, i * 2 + 1, none⟩ (.int .i64 y)) w.heap.size g2 cap2 (mm.set i ((sAt mm i).1, y))) := fun y => O1.out.storeFree i (by rw [HM.out]; omega) y
      have hloq := S4.out.loose.lo i (by omega)
      have hhiq := S4.out.loose.hi i (by omega)
      have hx : sAt mm i = sAt q i := I.out.here (by omega)
      have X : Hid (sAt mm i = sAt q i) := hx
      rw [← hx] at hloq hhiq
      clear hx
      generalize hxx : sAt mm i = x at *
      have XX : Hid (sAt mm i = x) := hxx
      clear hxx
      have hgl : w.heap.size ≤ g2 := O1.out.base
      have hi3 : (i : Int) < (ib : Int) := by omega
      have hi4 : (i : Int) < (q.length : Int) := by omega
      have HWy := fun W => within_any (x.2 + d) W
      generalize hib2 : inB (x.2 + d) = r at HWy
      have RR : Hid (inB (x.2 + d) = r) := hib2
      clear hib2
      have B7 : Hid (Below w.heap.size w (wr.setCell ⟨g2, i * 2 + 1, none⟩ (.int .i64 (x.2 + d)))) := S1.out.setCell hgl _
      go_wp2_with fail
      refine (HWy _).mono ?_
      rintro e w7 ⟨rfl, rfl⟩
      cases r
      case false =>
        go_wp2_with fail
        refine (HC.out _ B7.out).mono ?_
        rintro e w8 ⟨g8, cap8, rfl, ho8, hb8⟩
        have A : Hid (ShiftAns l fr to d w8 (.slice (some ⟨g8, 0, none⟩) l.length cap8) false) :=
          Or.inr ⟨rfl, ho8.sl (by omega), shift_not h2 S4.out.loose (fun s hs => (S4.out.same s hs).trans (S3.out.same s hs)) CA.out CB.out hi1 hlt (by rw [← X.out]; exact RR.out) (m := mm)⟩
        clear ho8
        go_wp2
        go_ret2
        exact ⟨_, _, rfl, A.out, hb8⟩
      case true =>
        go_wp2
        go_roundg (q.length - (i + 1))
        case measure => omega
        case rel =>
          have O8 := O7.out (x.2 + d)
          have I2 : Hid (ShInv q ia (i + 1) d (mm.set i (x.1, x.2 + d))) := by
            have := I.out.step hi1 (by omega)
            rw [XX.out] at this
            exact this
          have F2 : Hid (∀ j, ia ≤ j → j < i + 1 → inB (sAt (mm.set i (x.1, x.2 + d)) j).2 = true) := fun j y1 y2 => by
            rw [sAt_set _ _ _ _ (by rw [HM.out]; omega)]
            by_cases e : j = i
            · rw [if_pos e]; exact RR.out
            · rw [if_neg e]; exact F.out j y1 (by omega)
          exact ⟨i + 1, mm.set i (x.1, x.2 + d), by go_num, by omega, by omega, Nat.le_refl _, B7, O8, I2, F2⟩
    · have hie : i = ib := by omega
      have HS : Hid (ShiftSpec l fr to d (compactL mm)) := by
        have I2 := I.out
        have F2 := F.out
        rw [hie] at I2 F2
        exact shift_done h0 h1 h2 S4.out.loose (fun s hs => (S4.out.same s hs).trans (S3.out.same s hs)) (fun h => S4.out.keep _ (S3.out.beg h)) S4.out.beg CA.out CB.out I2 F2
      clear hie
      have hi5 : ¬ ((i : Int) < (ib : Int)) := by omega
      have JJ := join_any w.heap.size g2 cap2 mm wr O1.out (by rw [HM.out]; omega)
      rw [HM.out] at JJ
      go_wp2_with fail
      refine JJ.mono ?_
      rintro e w8 ⟨rfl, ho8, hb8⟩
      have A : Hid (ShiftAns l fr to d w8 (.slice (some ⟨g2, 0, none⟩) (compactL mm).length cap2) true) := Or.inl ⟨rfl, compactL mm, ho8.sl (by have := HS.out.good.len; omega), HS.out⟩
      have B8 : Hid (Below w.heap.size w w8) := S1.out.trans hb8
      clear ho8 hb8 JJ
      go_wp2
      go_ret2
      exact ⟨_, _, rfl, A.out, B8.out⟩

/-- what Take (d = -n) and Give (d = n) answer -/
def TakeAns (l : List (Int × Int)) (fr to n d : Int) (w' : World) (v' : Value) (ok : Bool) : Prop :=
  (okArgs l fr to n ∧ ShiftAns l fr to d w' v' ok) ∨ (¬ okArgs l fr to n ∧ ok = false ∧ Sl w' v' l)

theorem shift_any (v : Value) (l : List (Int × Int)) (fr to n sg d : Int) (w : World) (hs : Sl w v l) (hsg : sg = 1 ∨ sg = -1) (hd : sg * n = d) :
    Calls Try.prog 59 #[v, .int .i64 fr, .int .i64 to, .int .i64 n, .int .i64 sg] w fun e w' => ∃ v' ok, e = .returned (.tuple #[v', .bool ok]) ∧ TakeAns l fr to n d w' v' ok ∧ Below w.heap.size w w' := by
  by_cases h : okArgs l fr to n
  · obtain ⟨k1, k2, k3, k4, k5⟩ := id h
    have G := goodB_iff.1 k1
    obtain ⟨hn, a, cap, rfl, h1⟩ := hs
    rcases h1 with rfl | ⟨b, off, rfl, hr⟩
    · have := G.pos; simp at this
    · refine (shift_good b off cap l fr to n sg d w hr G k2 k3 k4 k5 hsg hd).mono ?_
      rintro e w' ⟨v', ok, rfl, hf, hb⟩
      exact ⟨v', ok, rfl, Or.inl ⟨h, hf⟩, hb⟩
  · refine (shift_bad v l fr to n sg w hs h).mono ?_
    rintro e w' ⟨v', rfl, hf, hb⟩
    exact ⟨v', false, rfl, Or.inr ⟨h, rfl, hf⟩, hb⟩

set_option maxHeartbeats 400000 in
theorem take_any (v : Value) (l : List (Int × Int)) (fr to n : Int) (w : World) (hs : Sl w v l) :
    Calls Try.prog 23 #[v, .int .i64 fr, .int .i64 to, .int .i64 n] w fun e w' => ∃ v' ok, e = .returned (.tuple #[v', .bool ok]) ∧ TakeAns l fr to n (-n) w' v' ok ∧ Below w.heap.size w w' := by
  have HC := shift_any v l fr to n (-1) (-n) w hs (Or.inr rfl) (by omega)
  clear hs
  go_enter Try.func23, Try.ntmps23
  go_wp2_with fail
  refine HC.mono ?_
  rintro e w1 ⟨v', ok, rfl, h1, h2⟩
  have H1 : Hid (TakeAns l fr to n (-n) w1 v' ok) := h1
  clear h1 HC
  go_wp2
  go_ret2
  exact ⟨v', ok, rfl, H1.out, h2⟩

set_option maxHeartbeats 400000 in
theorem give_any (v : Value) (l : List (Int × Int)) (fr to n : Int) (w : World) (hs : Sl w v l) :
    Calls Try.prog 24 #[v, .int .i64 fr, .int .i64 to, .int .i64 n] w fun e w' => ∃ v' ok, e = .returned (.tuple #[v', .bool ok]) ∧ TakeAns l fr to n n w' v' ok ∧ Below w.heap.size w w' := by
  have HC := shift_any v l fr to n 1 n w hs (Or.inl rfl) (by omega)
  clear hs
  go_enter Try.func24, Try.ntmps24
  go_wp2_with fail
  refine HC.mono ?_
  rintro e w1 ⟨v', ok, rfl, h1, h2⟩
  have H1 : Hid (TakeAns l fr to n n w1 v' ok) := h1
  clear h1 HC
  go_wp2
  go_ret2
  exact ⟨v', ok, rfl, H1.out, h2⟩

end Go.Proofs.Ytghhegajbehpeaa
