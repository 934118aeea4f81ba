/- Texts of this claim, in one: TPlanW. -/
import Derived.Test.YtcmdoeledmkfmabGreatDoorXTPlayP
import Derived.Test.YtcmdoeledmkfmabGreatDoorXTQuiet
/- TopPlan: behind each line the plan is the one that is made from the beginning, and nobody who is due waits: P5.1, P5.2. -/
set_option linter.unusedSimpArgs false
set_option linter.unusedVariables false
namespace Go.Proofs.YtcmdoeledmkfmabGreatDoor
open Go.RowKit

/-- a port is loaded, by the name that its cells have -/
theorem wpList_load_boxq {w : World} {ops : Array Oper} {rest : List Oper} {o : Oper} {a : Act} {Q : Exit → Act → World → Prop} {PC : Array Value} (hgd : o.guard = none) (x : Operand) (ho : o.op = .load 33 x) (g : Nat) (p : Pt) (vs : Value) (hq : (portCells p vs).toArray = PC)
    (hx : a.eval x = .pointer (some ⟨g, 0, none⟩)) (hA : PBox w g p vs) (h : wpList Tryz.prog ops Q rest (a.put o.dst (.agg PC)) w) : wpList Tryz.prog ops Q (o :: rest) a w := by
  subst hq
  exact wpList_load_box hgd x ho g p vs hx hA h
theorem wpList_load_boxq_g {w : World} {ops : Array Oper} {rest : List Oper} {o : Oper} {a : Act} {Q : Exit → Act → World → Prop} {PC : Array Value} (hw : Region.wanted o (yielded ops a.tmps) = true) (x : Operand) (ho : o.op = .load 33 x) (g : Nat) (p : Pt) (vs : Value) (hq : (portCells p vs).toArray = PC)
    (hx : a.eval x = .pointer (some ⟨g, 0, none⟩)) (hA : PBox w g p vs) (h : wpList Tryz.prog ops Q rest (a.put o.dst (.agg PC)) w) : wpList Tryz.prog ops Q (o :: rest) a w := by
  subst hq
  exact wpList_load_box_g hw x ho g p vs hx hA h

theorem Rests.ne {p : Pt} (h : Rests p) {pl : List Int} (hp : PlanIs p pl) (i : Nat) : pl[i]? ≠ some p.now := NoDue.ne h.1 hp (h.none hp) i

set_option maxHeartbeats 4000000 in
set_option maxRecDepth 100000 in
theorem lookPlan_any (d : Nat) (D : Dk) (s : Value) (er n : Int) (w : World) (hD : DS w d D) :
    Calls Tryz.prog 17 #[.pointer (some ⟨d, 0, none⟩), s, .agg #[.int .i64 er, .int .i64 n]] w fun e w' => e = .returned (.bool true) ∧ Below w.heap.size w w' := by
  have h4 := hD.ok.port.port.four
  have hln := hD.ok.port.port.len
  have HQ : Hid (DOk D) := hD.ok
  have HP := fun W h1 h2 => deskPort_any d D W h1 h2
  have HL := fun W h1 h2 => deskPlan_any d D W h1 h2
  have HG := fun v W h => goodPort_yes v D.p W h hD.ok.port
  have HM := fun v W h => plan_any v D.p W h hD.ok.port
  have HI := fun v1 v2 l m W h1 h2 h3 h4 => topInts_any v1 v2 l m W h1 h2 h3 h4
  have E0 : Hid (DS (w.alloc (.cells #[.int .i64 er, .int .i64 n] 25)) d D ∧ Below w.heap.size w (w.alloc (.cells #[.int .i64 er, .int .i64 n] 25))) := by
    have hb : Below w.heap.size w (w.alloc (.cells #[.int .i64 er, .int .i64 n] 25)) := (Below.refl _ w).alloc (Nat.le_refl _) _
    exact ⟨hD.later hb, hb⟩
  clear hD
  go_enter Tryz.func17, Tryz.ntmps17
  go_wp2_with fail
  refine (HP _ E0.out.1.dsk E0.out.1.ok).mono ?_
  rintro e w1 ⟨v1, rfl, h1⟩
  have E1 : Hid (DS w1 d D ∧ SlK cShip w1 v1 D.p.ships ∧ Below w.heap.size w w1) := ⟨E0.out.1.later h1.out.2, (RowT.own h1.out.1).sl, E0.out.2.trans (h1.out.2.mono E0.out.2.size)⟩
  have on1 : v1.oneCell' = true := (RowT.own h1.out.1).one
  clear h1 E0 HP
  generalize hPC : (portCells D.p v1).toArray = PC at *
  go_wp2_with fail
  refine (HL _ E1.out.1.dsk E1.out.1.ok).mono ?_
  rintro e w2 ⟨v2, rfl, h2⟩
  obtain ⟨pl, k1, k2, k3⟩ := h2.out
  have PI : Hid (PlanIs D.p pl) := k1
  have hpl : Hid (pl.length = D.p.ships.length) := k1.len
  have E2 : Hid (SlK cShip w2 v1 D.p.ships ∧ SlK cInt w2 v2 pl ∧ Below w.heap.size w w2) := ⟨slK_below E1.out.2.1 (Nat.le_refl _) k3, (RowT.own k2).sl, E1.out.2.2.trans (k3.mono E1.out.2.2.size)⟩
  obtain ⟨pa, pc, hv2⟩ := (RowT.own k2).shape
  subst hv2
  clear h2 k1 k2 k3 E1 HL
  go_upto_region 2 with (first | (refine wpList_alloc_box rfl rfl 7 rfl ?_; intro w3 h3 s3) | (refine wpList_store_box rfl _ _ rfl w2.heap.size zeroPt D.p (.slice none 0 0) v1 rfl (by rw [← hPC]; rfl) h3.out.1 h4 on1 ?_; intro w4 h4' s4))
  have E4 : Hid (PBox w4 w2.heap.size D.p v1 ∧ SlK cShip w4 v1 D.p.ships ∧ SlK cInt w4 (.slice pa pl.length pc) pl ∧ Below w.heap.size w w4) := by
    have hb : Below w2.heap.size w2 w4 := h3.out.2.trans (h4'.out.2.2 _ (Nat.le_refl _))
    exact ⟨h4'.out.1, slK_below E2.out.1 (Nat.le_refl _) hb, slK_below E2.out.2.1 (Nat.le_refl _) hb, E2.out.2.2.trans (hb.mono E2.out.2.2.size)⟩
  clear h3 h4' s3 s4 E2
  generalize w2.heap.size = g at *
  have PV : ∀ W, SlK cShip W v1 D.p.ships → PtV W (.agg PC) D.p := fun W h => ⟨v1, by rw [hPC], h, h4, by omega⟩
  go_wp2_with (refine wpList_load_boxq rfl _ rfl g D.p v1 hPC rfl E4.out.1 ?_)
  refine (HG _ _ (PV _ E4.out.2.1)).mono ?_
  rintro e w5 ⟨rfl, hb5⟩
  have E5 : Hid (PBox w5 g D.p v1 ∧ SlK cShip w5 v1 D.p.ships ∧ SlK cInt w5 (.slice pa pl.length pc) pl ∧ Below w.heap.size w w5) := ⟨E4.out.1.later hb5 E4.out.1.lt, slK_below E4.out.2.1 (Nat.le_refl _) hb5, slK_below E4.out.2.2.1 (Nat.le_refl _) hb5, E4.out.2.2.2.trans (hb5.mono E4.out.2.2.2.size)⟩
  clear hb5 E4 HG
  go_wp2_with (refine wpList_load_boxq_g (by first | rfl | (simp [Region.wanted, yielded]; done)) _ rfl g D.p v1 hPC rfl E5.out.1 ?_)
  refine (HM _ _ (PV _ E5.out.2.1)).mono ?_
  rintro e w6 ⟨⟨v6, rfl, h6⟩, hb6⟩
  obtain ⟨pm, k1, _, k2⟩ := h6.out
  obtain rfl : pm = pl := k1.unique HQ.out.port.port.now.1 PI.out
  have E6 : Hid (PBox w6 g D.p v1 ∧ SlK cInt w6 (.slice pa pm.length pc) pm ∧ SlK cInt w6 v6 pm ∧ Below w.heap.size w w6) := ⟨E5.out.1.later hb6 E5.out.1.lt, slK_below E5.out.2.2.1 (Nat.le_refl _) hb6, k2, E5.out.2.2.2.trans (hb6.mono E5.out.2.2.2.size)⟩
  clear hb6 h6 k1 k2 E5 HM PV hPC
  go_wp2_with fail
  refine (HI _ v6 pm pm _ E6.out.2.1 E6.out.2.2.1 (by have := hpl.out; omega) (by have := hpl.out; omega)).mono ?_
  rintro e w7 ⟨rfl, hb7⟩
  have E7 : Hid (PBox w7 g D.p v1 ∧ SlK cInt w7 (.slice pa pm.length pc) pm ∧ Below w.heap.size w w7) := ⟨E6.out.1.later hb7 E6.out.1.lt, slK_below E6.out.2.1 (Nat.le_refl _) hb7, E6.out.2.2.2.trans (hb7.mono E6.out.2.2.2.size)⟩
  clear hb7 E6 HI
  simp only [decide_true]
  have c0 := E7.out.1.cells.1
  have h14 : pm.length ≤ 14 := by have := hpl.out; omega
  go_wp2_with fail
  go_loopg [10, 27] pm.length (fun kx s10 s27 wr => ∃ (k : Nat), s27 = .int .i64 k ∧ k ≤ pm.length ∧ pm.length - k ≤ kx ∧ wr = w7)
  case atStart => exact ⟨0, rfl, Nat.zero_le _, by omega, rfl⟩
  case round =>
    obtain ⟨k, rfl, hk, hg, rfl⟩ := hrel
    by_cases hlt : k < pm.length
    · have hki : (k : Int) < (pm.length : Int) := by omega
      obtain ⟨t, ht⟩ : ∃ t, pm[k]? = some t := ⟨pm[k]'hlt, List.getElem?_eq_getElem hlt⟩
      have hne : (t == D.p.now) = false := by
        have := HQ.out.rests.ne PI.out k
        rw [ht] at this
        simp at this ⊢
        exact this
      obtain ⟨b, off, rfl, hc⟩ : ∃ b off, pa = some ⟨b, off, none⟩ ∧ wr.cell? ⟨b, off + k, none⟩ = some (.int .i64 t) := by
        obtain ⟨a', c', e, _, hr⟩ := E7.out.2.1
        injection e with e1
        rcases hr with hr | ⟨b, off, hr, h⟩
        · rw [hr] at hlt; simp at hlt
        · exact ⟨b, off, by rw [e1, hr], h.int ht⟩
      clear ht
      go_wp2_with fail
      go_roundg (pm.length - (k + 1))
      case measure => omega
      case rel => exact ⟨k + 1, by go_num, by omega, Nat.le_refl _, rfl⟩
    · have hki : ¬ ((k : Int) < (pm.length : Int)) := by omega
      go_wp2_with fail
      go_ret
      exact ⟨rfl, E7.out.2.2⟩

theorem topPlan_any (v : Value) (l : List (List UInt8)) (w : World) (hL : LW w) (hs : SlK cStr w v l) (hln : ∀ y ∈ l, y.length ≤ 9223372036854775807) (hll : l.length ≤ 8796093022208) :
    Calls Tryz.prog 4 #[v] w fun e w' => e = .returned (.bool true) ∧ Below w.heap.size w w' := by
  have HP := playP_any v l w w.heap.size hL (Nat.le_refl _) (fun W h => slK_below hs (Nat.le_refl _) h) hln hll
    (fun W d D k => DS W d D ∧ w.heap.size ≤ d ∧ Below w.heap.size w W) (fun W d D k er n => DS W d D ∧ w.heap.size ≤ d ∧ Below w.heap.size w W)
    (fun W d h1 h2 h3 => ⟨h3, h2, h1⟩) (fun W d D k h => h)
    (fun W W' d D D' k s er n h hk _ hl hd hf => ⟨hd, h.2.1, h.2.2.trans (hf.below.mono h.2.1)⟩)
    (fun W d D k er n h => h) (fun W W' d D k er n h hb => ⟨h.1.later hb, h.2.1, h.2.2.trans (hb.mono h.2.2.size)⟩)
    (fun W d D k s er n h _ _ => (lookPlan_any d D _ er n W h.1).mono fun e W' ⟨he, hb⟩ => ⟨he, ⟨h.1.later hb, h.2.1, h.2.2.trans (hb.mono h.2.2.size)⟩, fun g x y hg => hg.later hb⟩)
  obtain ⟨a, cap, hv⟩ : ∃ a cap, v = .slice a l.length cap := by obtain ⟨a, cap, h, _⟩ := hs; exact ⟨a, cap, h⟩
  subst hv
  clear hL hs hln
  go_enter Tryz.func4, Tryz.ntmps4
  go_wp2_with fail
  refine HP.mono ?_
  rintro e w1 ⟨d, rfl, h1⟩
  have B1 : Hid (Below w.heap.size w w1) := by obtain ⟨D, h⟩ := h1.out; exact h.2.2
  clear h1 HP
  go_wp2_with fail
  go_ret
  exact ⟨rfl, B1.out⟩

end Go.Proofs.YtcmdoeledmkfmabGreatDoor
