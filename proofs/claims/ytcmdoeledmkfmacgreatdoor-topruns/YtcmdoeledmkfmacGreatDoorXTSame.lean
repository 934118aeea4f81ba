/- Texts of this claim, in one: TSame. -/
import Derived.Test.YtcmdoeledmkfmacGreatDoorQA
import Derived.Test.YtcmdoeledmkfmacGreatDoorQB
set_option linter.unusedSimpArgs false
set_option linter.unusedVariables false
namespace Go.Proofs.YtcmdoeledmkfmacGreatDoor
open Go.RowKit
set_option maxHeartbeats 1000000 in
theorem topInts_some (a1 a2 : Option Addr) (c1 c2 : Nat) (l m : List Int) (w : World) (h1 : l = [] ∨ ∃ b off, a1 = some ⟨b, off, none⟩ ∧ RdK cInt w b off l) (h2 : m = [] ∨ ∃ b off, a2 = some ⟨b, off, none⟩ ∧ RdK cInt w b off m) (n1 : l.length ≤ 17592186044416) (n2 : m.length ≤ 17592186044416) :
    Calls Tryz.prog 28 #[.slice a1 l.length c1, .slice a2 m.length c2] w fun e w' => e = .returned (.bool (decide (l = m))) ∧ Below w.heap.size w w' := by
  by_cases hl : l.length = m.length
  · have S0 : Hid (Below w.heap.size w w) := Below.refl _ _
    by_cases h0 : l = []
    · have hm : m = [] := List.eq_nil_of_length_eq_zero (by rw [← hl, h0]; rfl)
      subst h0; subst hm
      go_enter Tryz.func28, Tryz.ntmps28
      go_wp2
      go_loopg [13] 0 (fun kx s13 wr => s13 = .int .i64 0 ∧ wr = w)
      case atStart => exact ⟨rfl, rfl⟩
      case round =>
        obtain ⟨rfl, rfl⟩ := hrel
        go_wp2
        go_ret
        exact ⟨by simp, S0.out⟩
    · rcases h1 with h1 | ⟨b1, o1, rfl, r1⟩
      · exact absurd h1 h0
      rcases h2 with h2 | ⟨b2, o2, rfl, r2⟩
      · exact absurd (List.eq_nil_of_length_eq_zero (by rw [hl, h2]; rfl)) h0
      have R1 : Hid (RdK cInt w b1 o1 l) := r1
      have R2 : Hid (RdK cInt w b2 o2 m) := r2
      have HL : Hid (l.length = m.length) := hl
      have hlb : ((l.length : Int) != (m.length : Int)) = false := by simp [hl]
      have hn1 : l.length ≤ m.length := by omega
      have hn2 : m.length ≤ l.length := by omega
      clear r1 r2 hl h0
      go_enter Tryz.func28, Tryz.ntmps28
      go_wp2
      go_loopg [13] l.length (fun kx s13 wr => ∃ k : Nat, s13 = .int .i64 k ∧ k ≤ l.length ∧ l.length - k ≤ kx ∧ Hid (Below w.heap.size w wr) ∧ Hid (∀ j, j < k → l.getD j 0 = m.getD j 0))
      case atStart => exact ⟨0, rfl, Nat.zero_le _, by omega, S0, (fun j hj => absurd hj (Nat.not_lt_zero _) : ∀ j, j < 0 → l.getD j 0 = m.getD j 0)⟩
      case round =>
        clear S0
        obtain ⟨k, rfl, hk, hg, S1, I⟩ := hrel
        by_cases hlt : k < l.length
        · have p0 := (R1.out.below S1.out).int (getQ l k hlt)
          have q0 := (R2.out.below S1.out).int (getQ m k (by omega))
          generalize hx : l.getD k 0 = x at *
          generalize hy : m.getD k 0 = y at *
          have X : Hid (l.getD k 0 = x) := hx
          have Y : Hid (m.getD k 0 = y) := hy
          clear hx hy
          have hk3 : (k : Int) < (l.length : Int) := by omega
          have hk4 : (k : Int) < (m.length : Int) := by omega
          by_cases hxy : x = y
          · have E : Hid (x = y) := hxy
            have hd : (x != y) = false := by simp [hxy]
            clear hxy
            go_wp2_with fail
            go_quiet (fail)
            go_wp2
            go_roundg (l.length - (k + 1))
            case measure => omega
            case rel =>
              have I2 : Hid (∀ j, j < k + 1 → l.getD j 0 = m.getD j 0) := fun j hj => by
                by_cases e : j = k
                · rw [e, X.out, Y.out]; exact E.out
                · exact I.out j (by omega)
              exact ⟨k + 1, by go_num, by omega, Nat.le_refl _, below_drewN S1.out _, I2⟩
          · have hd : (x != y) = true := by simp [hxy]
            have D : Hid (decide (l = m) = false) := decide_eq_false fun e => hxy (by rw [← X.out, ← Y.out, e])
            clear hxy
            go_wp2_with fail
            go_quiet (fail)
            go_wp2
            go_ret
            exact ⟨by rw [D.out]; rfl, below_drewN S1.out _⟩
        · have D : Hid (decide (l = m) = true) := decide_eq_true (List.ext_getElem HL.out fun j x y => by have h := I.out j (by omega); rw [List.getD_eq_getElem?_getD, List.getD_eq_getElem?_getD, List.getElem?_eq_getElem x, List.getElem?_eq_getElem y] at h; exact h)
          go_wp2
          go_ret
          exact ⟨by rw [D.out]; rfl, S1.out⟩
  · have hlb : ((l.length : Int) != (m.length : Int)) = true := by rw [bne_iff_ne]; omega
    have D : Hid (decide (l = m) = false) := decide_eq_false fun e => hl (by rw [e])
    go_enter Tryz.func28, Tryz.ntmps28
    go_wp2
    go_ret
    exact ⟨by rw [D.out]; rfl, Below.refl _ _⟩
theorem topInts_any (v1 v2 : Value) (l m : List Int) (w : World) (h1 : SlK cInt w v1 l) (h2 : SlK cInt w v2 m) (n1 : l.length ≤ 17592186044416) (n2 : m.length ≤ 17592186044416) :
    Calls Tryz.prog 28 #[v1, v2] w fun e w' => e = .returned (.bool (decide (l = m))) ∧ Below w.heap.size w w' := by
  obtain ⟨a1, c1, rfl, _, h1⟩ := h1
  obtain ⟨a2, c2, rfl, _, h2⟩ := h2
  exact topInts_some a1 a2 c1 c2 l m w h1 h2 n1 n2
set_option maxHeartbeats 4000000 in
set_option maxRecDepth 100000 in
theorem topPort_any (v1 v2 : Value) (p q : Pt) (w : World) (hv1 : PtV w v1 p) (hv2 : PtV w v2 q) :
    Calls Tryz.prog 27 #[v1, v2] w fun e w' => IsB e (p = q) ∧ Below w.heap.size w w' := by
  obtain ⟨vs1, rfl, hvs1, h41, hmx1⟩ := hv1
  obtain ⟨vs2, rfl, hvs2, h42, hmx2⟩ := hv2
  obtain ⟨a1, cap1, rfl, hcap1, hrd1⟩ := hvs1
  obtain ⟨a2, cap2, rfl, hcap2, hrd2⟩ := hvs2
  have HR1 : Hid (p.ships = [] ∨ ∃ b off, a1 = some ⟨b, off, none⟩ ∧ RdK cShip w b off p.ships) := hrd1
  have HR2 : Hid (q.ships = [] ∨ ∃ b off, a2 = some ⟨b, off, none⟩ ∧ RdK cShip w b off q.ships) := hrd2
  clear hrd1 hrd2
  have X0 : Hid (PBox (w.alloc (.cells (portCells p (.slice a1 p.ships.length cap1)).toArray 41)) w.heap.size p (.slice a1 p.ships.length cap1)) := PBox.new w p _ h41
  have B0 : Hid (Below w.heap.size w (w.alloc (.cells (portCells p (.slice a1 p.ships.length cap1)).toArray 41))) := (Below.refl _ w).alloc (Nat.le_refl _) _
  have Y0 : Hid (∀ W : World, PBox (W.alloc (.cells (portCells q (.slice a2 q.ships.length cap2)).toArray 41)) W.heap.size q (.slice a2 q.ships.length cap2)) := fun W => PBox.new W q _ h42
  generalize (portCells p (.slice a1 p.ships.length cap1)).toArray = PC1 at *
  generalize (portCells q (.slice a2 q.ships.length cap2)).toArray = PC2 at *
  go_enter Tryz.func27, Tryz.ntmps27
  go_upto_region 1 with fail
  have X1 : Hid (PBox ((w.alloc (.cells PC1 41)).alloc (.cells PC2 41)) w.heap.size p (.slice a1 p.ships.length cap1)) := X0.out.later ((Below.refl _ _).alloc (Nat.le_refl _) _) (by simp)
  have Y1 : Hid (PBox ((w.alloc (.cells PC1 41)).alloc (.cells PC2 41)) (w.heap.size + 1) q (.slice a2 q.ships.length cap2)) := by have h := Y0.out (w.alloc (.cells PC1 41)); rw [show (w.alloc (.cells PC1 41)).heap.size = w.heap.size + 1 by simp] at h; exact h
  have B1 : Hid (Below w.heap.size w ((w.alloc (.cells PC1 41)).alloc (.cells PC2 41))) := B0.out.trans ((Below.refl _ _).alloc (by simp) _)
  generalize (w.alloc (.cells PC1 41)).alloc (.cells PC2 41) = W1 at *
  clear X0 B0 Y0
  obtain ⟨c0, c1, c14, c15⟩ := X1.out.cells
  obtain ⟨d0, d1, d14, d15⟩ := Y1.out.cells
  have hK := fun W => eqKept4 p.kept q.kept h41 h42 W
  by_cases g1 : p.now = q.now
  case neg =>
    have hb : (p.now != q.now) = true := by simp [g1]
    have NE : Hid (¬ p = q) := fun h => g1 (by rw [h])
    clear hK
    go_wp2
    go_ret
    exact ⟨⟨false, rfl, ⟨fun h => (by cases h), fun h => absurd h NE.out⟩⟩, B1.out⟩
  have hb1 : (p.now != q.now) = false := by simp [g1]
  obtain ⟨r, hr, hri⟩ := hK W1
  clear hK
  by_cases g2 : p.kept = q.kept
  case neg =>
    have hrt : r = false := by cases r; rfl; exact absurd (hri.1 rfl) g2
    subst hrt
    have NE : Hid (¬ p = q) := fun h => g2 (by rw [h])
    clear hri g2
    go_wp2_with (first | refine wpList_load_kept_g (by first | rfl | (simp [Region.wanted, yielded]; done)) _ rfl w.heap.size p _ rfl X1.out ?_ | refine wpList_load_kept_g (by first | rfl | (simp [Region.wanted, yielded]; done)) _ rfl (w.heap.size + 1) q _ rfl Y1.out ?_)
    go_ret
    exact ⟨⟨false, rfl, ⟨fun h => (by cases h), fun h => absurd h NE.out⟩⟩, B1.out⟩
  have hrf : r = true := hri.2 g2
  subst hrf
  have G2 : Hid (p.kept = q.kept) := g2
  have G1 : Hid (p.now = q.now) := g1
  clear hri g1 g2
  by_cases g3 : p.shut = q.shut
  case neg =>
    have hb : (p.shut != q.shut) = true := by simp [g3]
    have NE : Hid (¬ p = q) := fun h => g3 (by rw [h])
    go_wp2_with (first | refine wpList_load_kept_g (by first | rfl | (simp [Region.wanted, yielded]; done)) _ rfl w.heap.size p _ rfl X1.out ?_ | refine wpList_load_kept_g (by first | rfl | (simp [Region.wanted, yielded]; done)) _ rfl (w.heap.size + 1) q _ rfl Y1.out ?_)
    go_ret
    exact ⟨⟨false, rfl, ⟨fun h => (by cases h), fun h => absurd h NE.out⟩⟩, B1.out⟩
  have hb3 : (p.shut != q.shut) = false := by simp [g3]
  have G3 : Hid (p.shut = q.shut) := g3
  clear g3
  by_cases g4 : p.next = q.next
  case neg =>
    have hb : (p.next != q.next) = true := by simp [g4]
    have NE : Hid (¬ p = q) := fun h => g4 (by rw [h])
    go_wp2_with (first | refine wpList_load_kept_g (by first | rfl | (simp [Region.wanted, yielded]; done)) _ rfl w.heap.size p _ rfl X1.out ?_ | refine wpList_load_kept_g (by first | rfl | (simp [Region.wanted, yielded]; done)) _ rfl (w.heap.size + 1) q _ rfl Y1.out ?_)
    go_ret
    exact ⟨⟨false, rfl, ⟨fun h => (by cases h), fun h => absurd h NE.out⟩⟩, B1.out⟩
  have hb4 : (p.next != q.next) = false := by simp [g4]
  have G4 : Hid (p.next = q.next) := g4
  clear g4
  by_cases g5 : p.ships.length = q.ships.length
  case neg =>
    have hb : ((p.ships.length : Int) != (q.ships.length : Int)) = true := by rw [bne_iff_ne]; omega
    have NE : Hid (¬ p = q) := fun h => g5 (by rw [h])
    go_wp2_with (first | refine wpList_load_kept_g (by first | rfl | (simp [Region.wanted, yielded]; done)) _ rfl w.heap.size p _ rfl X1.out ?_ | refine wpList_load_kept_g (by first | rfl | (simp [Region.wanted, yielded]; done)) _ rfl (w.heap.size + 1) q _ rfl Y1.out ?_)
    go_ret
    exact ⟨⟨false, rfl, ⟨fun h => (by cases h), fun h => absurd h NE.out⟩⟩, B1.out⟩
  have hb5 : ((p.ships.length : Int) != (q.ships.length : Int)) = false := by simp [g5]
  have G5 : Hid (p.ships.length = q.ships.length) := g5
  have hg5 : p.ships.length ≤ q.ships.length := by omega
  clear g5
  go_wp2_with (first | refine wpList_load_kept_g (by first | rfl | (simp [Region.wanted, yielded]; done)) _ rfl w.heap.size p _ rfl X1.out ?_ | refine wpList_load_kept_g (by first | rfl | (simp [Region.wanted, yielded]; done)) _ rfl (w.heap.size + 1) q _ rfl Y1.out ?_)
  go_loopg [44] p.ships.length (fun kx s44 wr => ∃ k : Nat, s44 = .int .i64 k ∧ k ≤ p.ships.length ∧ p.ships.length - k ≤ kx ∧ Hid (Below w.heap.size w wr) ∧ Hid (PBox wr w.heap.size p (.slice a1 p.ships.length cap1)) ∧ Hid (PBox wr (w.heap.size + 1) q (.slice a2 q.ships.length cap2)) ∧ Hid (∀ j, j < k → p.ships[j]? = q.ships[j]?))
  case atStart => exact ⟨0, rfl, Nat.zero_le _, by omega, B1, X1, Y1, (fun j hj => absurd hj (Nat.not_lt_zero _) : ∀ j, j < 0 → p.ships[j]? = q.ships[j]?)⟩
  case round =>
    clear B1 X1 Y1 c0 c1 c14 c15 d0 d1 d14 d15 hr hb1 hb3 hb4 hb5
    obtain ⟨k, rfl, hk, hg, S1, X1, Y1, I⟩ := hrel
    by_cases hlt : k < p.ships.length
    · obtain ⟨s, hs⟩ : ∃ s, p.ships[k]? = some s := ⟨p.ships[k], List.getElem?_eq_getElem hlt⟩
      obtain ⟨t, ht⟩ : ∃ t, q.ships[k]? = some t := ⟨q.ships[k]'(by omega), List.getElem?_eq_getElem (by omega)⟩
      have HS : Hid (p.ships[k]? = some s) := hs
      have HT : Hid (q.ships[k]? = some t) := ht
      obtain ⟨b1, o1, rfl, r1⟩ : ∃ b off, a1 = some ⟨b, off, none⟩ ∧ RdK cShip w b off p.ships := by
        rcases HR1.out with h | h
        · rw [h] at hlt; simp at hlt
        · exact h
      obtain ⟨b2, o2, rfl, r2⟩ : ∃ b off, a2 = some ⟨b, off, none⟩ ∧ RdK cShip w b off q.ships := by
        rcases HR2.out with h | h
        · rw [h] at ht; simp at ht
        · exact h
      obtain ⟨e0, e1, e2, e3, e4, e5⟩ := (r1.below S1.out).ship hs
      obtain ⟨f0, f1, f2, f3, f4, f5⟩ := (r2.below S1.out).ship ht
      obtain ⟨c0, c1, c14, c15⟩ := X1.out.cells
      obtain ⟨d0, d1, d14, d15⟩ := Y1.out.cells
      have hneq := neqShip s t
      clear hs ht r1 r2 c0 c14 c15 d0 d14 d15 HR1 HR2
      have hk3 : (k : Int) < (p.ships.length : Int) := by omega
      have hk4 : (k : Int) < (q.ships.length : Int) := by omega
      cases hd : neShip s t
      case false =>
        have E : Hid (s = t) := neShip_iff.1 hd
        go_wp2_with fail
        go_quiet (fail)
        go_wp2
        go_roundg (p.ships.length - (k + 1))
        case measure => omega
        case rel =>
          have I2 : Hid (∀ j, j < k + 1 → p.ships[j]? = q.ships[j]?) := fun j hj => by
            by_cases e : j = k
            · rw [e, HS.out, HT.out, E.out]
            · exact I.out j (by omega)
          exact ⟨k + 1, by go_num, by omega, Nat.le_refl _, below_drewN S1.out _, X1, Y1, I2⟩
      case true =>
        have NE : Hid (¬ p = q) := fun h => by
          have e : some s = some t := by rw [← HS.out, ← HT.out, h]
          injection e with e
          have := neShip_iff.2 e
          rw [hd] at this; cases this
        go_wp2_with fail
        go_quiet (fail)
        go_wp2
        go_ret
        exact ⟨⟨false, rfl, ⟨fun h => (by cases h), fun h => absurd h NE.out⟩⟩, below_drewN S1.out _⟩
    · have EQ : Hid (p = q) := by
        have hsh : p.ships = q.ships := List.ext_getElem? fun j => by
          by_cases hj : j < k
          · exact I.out j hj
          · have h5 := G5.out
            rw [List.getElem?_eq_none (by omega), List.getElem?_eq_none (by omega)]
        have h1 := G1.out; have h2 := G2.out; have h3 := G3.out; have h4 := G4.out
        show p = q
        cases p; cases q
        simp only at h1 h2 h3 h4 hsh
        subst h1 h2 h3 h4 hsh
        rfl
      have hk3 : ¬ ((k : Int) < (p.ships.length : Int)) := by omega
      go_wp2
      go_ret
      exact ⟨⟨true, rfl, ⟨fun _ => EQ.out, fun _ => rfl⟩⟩, S1.out⟩
end Go.Proofs.YtcmdoeledmkfmacGreatDoor
