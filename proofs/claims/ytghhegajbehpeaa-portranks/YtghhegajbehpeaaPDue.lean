/- A port in which all ships that are to come in now lie: Due of package port: P2.9. -/
import Derived.Test.YtghhegajbehpeaaPTell
import Derived.Test.YtghhegajbehpeaaPRank
import Derived.Test.YtghhegajbehpeaaPDueM
set_option linter.unusedSimpArgs false
set_option linter.unusedVariables false
namespace Go.Proofs.Ytghhegajbehpeaa
open Go.RowKit

/-- one cell of one ship of a row is written anew, and the port's variable is as it was -/
theorem rowShips_one {w : World} {B b cap n : Nat} {l : List Ship} {j i : Nat} {s s' : Ship} {x : Value} (h : w.ownsRow B 48 6 (.slice (some ⟨b, 0, none⟩) n cap) l.length (cellsK cShip l)) (hs : l[j]? = some s) (hi : i < 6) (hc : cShip s' = (cShip s).set i x) :
    (w.setCell ⟨b, j * 6 + i, none⟩ x).ownsRow B 48 6 (.slice (some ⟨b, 0, none⟩) n cap) (l.set j s').length (cellsK cShip (l.set j s')) := by
  obtain ⟨g, c, e, ho⟩ := OwnK.ofRow h (by intro e; cases e)
  injection e with e1 e2 e3
  injection e1 with e1
  injection e1 with e1
  subst e1 e2 e3
  have := OwnK.toRow encShip (ho.setCell encShip hs hi hc)
  rw [List.length_set] at this ⊢
  exact this

theorem ownsRow_belowB {w w' : World} {B C : Nat} {e : TypeId} {size : Nat} {v : Value} {n : Nat} {xs : List Value} (h : w.ownsRow B e size v n xs) (hb : Below C w w') (hC : ∀ k, v.ownBlock = some k → k < C) : w'.ownsRow B e size v n xs := by
  refine ⟨h.1, ?_⟩
  rcases h.2 with h0 | ⟨b, cap, cur, h0, h1, h2, h3⟩
  · exact Or.inl h0
  · exact Or.inr ⟨b, cap, cur, h0, h1, by rw [hb.block b (hC b (by rw [h0]; rfl))]; exact h2, h3⟩

/-- the memory while Due runs -/
structure DueMem (w : World) (p : Pt) (pl : List Int) (vn : Value) (g : Nat) (vp : Value) (j : Nat) (W : World) (s7 : Value) : Prop where
  below : Below w.heap.size w W
  out : PBox W (w.heap.size + 1) zeroPt (.slice none 0 0)
  q : PBox W g p vn
  row : W.ownsRow (w.heap.size + 1 + 1) 48 6 vn (dueTo p pl j).length (cellsK cShip (dueTo p pl j))
  lt : ∀ k, vn.ownBlock = some k → k < g
  who : W.ownsRow (g + 1) 3 1 s7 (ints (whoTo p pl j)).length (cellsK cInt (ints (whoTo p pl j)))
  base : w.heap.size + 1 < g
  plan : SlK cInt w vp pl

theorem DueMem.later {w W W' : World} {p : Pt} {pl : List Int} {vn vp s7 : Value} {g j : Nat} (h : DueMem w p pl vn g vp j W s7) (hb : Below W.heap.size W W') : DueMem w p pl vn g vp j W' s7 :=
  ⟨h.below.trans (hb.mono h.below.size), h.out.later hb h.out.lt, h.q.later hb h.q.lt, ownsRow_later h.row hb, h.lt, ownsRow_later h.who hb, h.base, h.plan⟩

theorem DueMem.no {w W : World} {p : Pt} {pl : List Int} {vn vp s7 : Value} {g j : Nat} (h : DueMem w p pl vn g vp j W s7) (hd : dueB p pl j = false) : DueMem w p pl vn g vp (j + 1) W s7 :=
  ⟨h.below, h.out, h.q, by rw [dueTo_no hd]; exact h.row, h.lt, by rw [whoTo_no hd]; exact h.who, h.base, h.plan⟩

theorem DueMem.frozen {w W : World} {p : Pt} {pl : List Int} {vp s7 : Value} {g j b n cn : Nat} (h : DueMem w p pl (.slice (some ⟨b, 0, none⟩) n cn) g vp j W s7) (k : Nat) : W.frozen? ⟨b, k, none⟩ = false := by
  obtain ⟨b', c, e, ho⟩ := OwnK.ofRow h.row (by intro e; cases e)
  injection e with e1 e2 e3
  injection e1 with e1
  injection e1 with e1
  subst e1
  exact ho.frozen k

/-- the same, the ship having come in and not told yet -/
structure DueMid (w : World) (p : Pt) (pl : List Int) (vn : Value) (g : Nat) (vp : Value) (j : Nat) (W : World) (s7 : Value) : Prop where
  below : Below w.heap.size w W
  out : PBox W (w.heap.size + 1) zeroPt (.slice none 0 0)
  q : PBox W g p vn
  row : W.ownsRow (w.heap.size + 1 + 1) 48 6 vn (dueTo p pl (j + 1)).length (cellsK cShip (dueTo p pl (j + 1)))
  lt : ∀ k, vn.ownBlock = some k → k < g
  who : W.ownsRow (g + 1) 3 1 s7 (ints (whoTo p pl j)).length (cellsK cInt (ints (whoTo p pl j)))
  base : w.heap.size + 1 < g
  plan : SlK cInt w vp pl

theorem DueMid.later {w W W' : World} {p : Pt} {pl : List Int} {vn vp s7 : Value} {g j : Nat} (h : DueMid w p pl vn g vp j W s7) (hb : Below W.heap.size W W') : DueMid w p pl vn g vp j W' s7 :=
  ⟨h.below.trans (hb.mono h.below.size), h.out.later hb h.out.lt, h.q.later hb h.q.lt, ownsRow_later h.row hb, h.lt, ownsRow_later h.who hb, h.base, h.plan⟩

theorem DueMem.yes {w W : World} {p : Pt} {pl : List Int} {vp s7 : Value} {g j b n cn : Nat} (h : DueMem w p pl (.slice (some ⟨b, 0, none⟩) n cn) g vp j W s7) (hj : j < p.ships.length) (hd : dueB p pl j = true) :
    DueMid w p pl (.slice (some ⟨b, 0, none⟩) n cn) g vp j ((W.setCell ⟨b, j * 6, none⟩ (.int .i64 3)).setCell ⟨b, j * 6 + 4, none⟩ (.int .i64 p.now)).drew s7 := by
  have hb0 := (h.row.lt b rfl).1
  have hb1 := h.lt b rfl
  have hbs := h.base
  have r1 := rowShips_one (i := 0) h.row (dueTo_get hj) (by decide) (s' := { shp p j with st := 3 }) (x := .int .i64 3) rfl
  have r2 := rowShips_one (i := 4) r1 (List.getElem?_set_self (by rw [dueTo_len]; exact hj)) (by decide) (s' := inS p.now (shp p j)) (x := .int .i64 p.now) rfl
  have el : ((dueTo p pl j).set j { shp p j with st := 3 }).set j (inS p.now (shp p j)) = dueTo p pl (j + 1) := by rw [List.set_set, dueTo_yes hj hd]
  rw [el] at r2
  refine ⟨?_, ?_, ?_, ?_, h.lt, ?_, h.base, h.plan⟩
  · exact ((h.below.setCell (p := ⟨b, j * 6, none⟩) (by show _ ≤ b; omega) _).setCell (p := ⟨b, j * 6 + 4, none⟩) (by show _ ≤ b; omega) _).drew
  · have o1 := (h.out.other (g' := b) (j * 6) (.int .i64 3) (by omega)).other (g' := b) (j * 6 + 4) (.int .i64 p.now) (by omega)
    exact o1.later ((Below.refl _ _).drew) o1.lt
  · have o1 := (h.q.other (g' := b) (j * 6) (.int .i64 3) (by omega)).other (g' := b) (j * 6 + 4) (.int .i64 p.now) (by omega)
    exact o1.later ((Below.refl _ _).drew) o1.lt
  · exact ownsRow_later r2 ((Below.refl _ _).drew)
  · refine ownsRow_later (ownsRow_same h.who fun k hk => ?_) ((Below.refl _ _).drew)
    rw [Below.heap_setCell _ _ _ _ (by show k ≠ b; omega), Below.heap_setCell _ _ _ _ (by show k ≠ b; omega)]

theorem DueMid.app {w W W' : World} {p : Pt} {pl : List Int} {vn vp s7 v' : Value} {g j : Nat} (h : DueMid w p pl vn g vp j W s7) (hd : dueB p pl j = true) (ho : W'.ownsRow (g + 1) 3 1 v' (ints (whoTo p pl j) ++ [(j : Int)]).length (cellsK cInt (ints (whoTo p pl j) ++ [(j : Int)]))) (hb : Below (g + 1) W W') : DueMem w p pl vn g vp (j + 1) W' v' := by
  have hbs := h.base
  refine ⟨h.below.trans (hb.mono (by omega)), h.out.later hb (by omega), h.q.later hb (by omega), ownsRow_belowB h.row hb (fun k hk => by have := h.lt k hk; omega), h.lt, ?_, h.base, h.plan⟩
  rw [whoTo_yes hd, ints_append]
  exact ho

theorem DueMem.size {w W : World} {p : Pt} {pl : List Int} {vn vp s7 : Value} {g j : Nat} (h : DueMem w p pl vn g vp j W s7) : g + 1 ≤ W.heap.size := h.q.lt

theorem SlK.ints {w : World} {a : Option Addr} {n cap : Nat} {l : List Int} (h : SlK cInt w (.slice a n cap) l) {k : Nat} {x : Int} (hk : l[k]? = some x) : ∃ b off, a = some ⟨b, off, none⟩ ∧ RdK cInt w b off l := by
  obtain ⟨a', c', e, _, h⟩ := h
  injection e with e1 e2 e3
  subst e1
  rcases h with h | h
  · rw [h] at hk; cases hk
  · exact h

theorem SlK.belowB {α : Type} {c : α → List Value} {w w' : World} {v : Value} {l : List α} (h : SlK c w v l) (hb : Below w.heap.size w w') : SlK c w' v l := h.below hb

set_option maxHeartbeats 4000000 in
set_option maxRecDepth 100000 in
theorem due_any (v vp : Value) (p : Pt) (pl : List Int) (w : World) (hv : PtV w v p) (hpl : SlK cInt w vp pl) (hmp : pl.length ≤ 17592186044416) :
    Calls Try.prog 48 #[v, vp] w fun e w' => ∃ vs v2, e = .returned (.tuple #[.agg (portCells (dueP p pl) vs).toArray, v2]) ∧ Hid (w'.ownsRow w.heap.size 48 6 vs p.ships.length (cellsK cShip (dueP p pl).ships) ∧ w'.ownsRow w.heap.size 3 1 v2 (ints (dues p pl)).length (cellsK cInt (ints (dues p pl))) ∧ Below w.heap.size w w') := by
  obtain ⟨vs, rfl, hsl, h4, hmx⟩ := hv
  obtain ⟨ap, cp, rfl, hcp, hrp⟩ := hpl
  have HPL : Hid (SlK cInt w (.slice ap pl.length cp) pl) := ⟨ap, cp, rfl, hcp, hrp⟩
  have HV : Hid (PtV w (.agg (portCells p vs).toArray) p) := ⟨vs, rfl, hsl, h4, hmx⟩
  have X0 : Hid (PBox (w.alloc (.cells (portCells p vs).toArray 46)) w.heap.size p vs) := PBox.new w p _ h4
  have B0 : Hid (Below w.heap.size w (w.alloc (.cells (portCells p vs).toArray 46))) := (Below.refl _ w).alloc (Nat.le_refl _) _
  have Z0 : Hid ((w.alloc (.cells (portCells p vs).toArray 46)).heap.size = w.heap.size + 1) := by show _ = _; simp
  have HW := fun W h => own_any (.agg (portCells p vs).toArray) p W h
  clear hsl hrp
  generalize hPC : (portCells p vs).toArray = PC at *
  have HPC : Hid ((portCells p vs).toArray = PC) := hPC
  clear hPC
  go_enter Try.func48, Try.ntmps48
  go_upto_region 1 with (first | (refine wpList_alloc_box rfl rfl 4 rfl ?_; intro w1 hw1 hs1))
  rw [Z0.out] at hw1 hs1
  have T1 : Hid (Below w.heap.size w w1 ∧ PBox w1 w.heap.size p vs ∧ PBox w1 (w.heap.size + 1) zeroPt (.slice none 0 0)) := ⟨B0.out.trans (hw1.out.2.mono (by omega)), X0.out.later hw1.out.2 (by omega), hw1.out.1⟩
  clear hw1 X0 B0 Z0
  go_wp2_with (refine wpList_load_box rfl _ rfl w.heap.size p vs rfl T1.out.2.1 ?_; rw [HPC.out])
  refine (HW _ (HV.out.below T1.out.1)).mono ?_
  rintro e w3 ⟨vn, rfl, hw3⟩
  rw [hs1] at hw3
  have T3 : Hid (Below w.heap.size w w3 ∧ PBox w3 (w.heap.size + 1) zeroPt (.slice none 0 0) ∧ w3.ownsRow (w.heap.size + 1 + 1) 48 6 vn p.ships.length (cellsK cShip p.ships) ∧ w.heap.size + 1 + 1 ≤ w3.heap.size) := ⟨T1.out.1.trans (hw3.out.2.mono (by omega)), T1.out.2.2.later hw3.out.2 (by omega), hw3.out.1, by have := hw3.out.2.size; omega⟩
  obtain ⟨xn, cn, rfl⟩ := ownsRow_slice T3.out.2.2.1
  have on := ownsRow_one T3.out.2.2.1
  clear T1 hw3 hs1 HW HV
  go_upto_region 2 with (first | (refine wpList_alloc_box rfl rfl 6 rfl ?_; intro w4 hw4 hs4) | (refine wpList_store_box rfl _ _ rfl w3.heap.size zeroPt p (.slice none 0 0) (.slice xn p.ships.length cn) rfl rfl hw4.out.1 h4 on ?_; intro w5 hw5 hs5))
  have M5 : Hid (DueMem w p pl (.slice xn p.ships.length cn) w3.heap.size (.slice ap pl.length cp) 0 w5 (.slice none 0 0)) := by
    have hb : Below w3.heap.size w3 w5 := hw4.out.2.trans (hw5.out.2.2 _ (Nat.le_refl _))
    have hz := T3.out.2.2.2
    have hbw : Below w.heap.size w w5 := T3.out.1.trans (hb.mono (by omega))
    refine ⟨hbw, T3.out.2.1.later hb (by omega), hw5.out.1, ?_, fun k hk => (T3.out.2.2.1.lt k hk).2, World.ownsRow_nil _ _ _ _, by omega, HPL.out⟩
    rw [dueTo_zero]
    exact ownsRow_later T3.out.2.2.1 hb
  generalize w3.heap.size = g at *
  clear hw4 hw5 hs4 hs5 T3 on HPL
  obtain ⟨pc0, pc1, pc14, pc15⟩ := M5.out.q.cells
  clear pc0 pc14 pc15
  obtain ⟨mn, hmn⟩ : ∃ mn : Nat, (p.ships.length ≤ pl.length ∧ mn = p.ships.length) ∨ (pl.length < p.ships.length ∧ mn = pl.length) := by
    by_cases h : p.ships.length ≤ pl.length
    · exact ⟨_, Or.inl ⟨h, rfl⟩⟩
    · exact ⟨_, Or.inr ⟨by omega, rfl⟩⟩
  go_upto_region 3 with fail
  go_cut [17, 18] (fun s17 s18 wc => s17 = .int .i64 mn ∧ s18 = .int .i64 0 ∧ wc = w5)
  case first =>
    go_wp2_with fail
    all_goals go_meet
    all_goals
      refine ⟨?_, rfl, rfl⟩
      congr 1
      omega
  case rest =>
    obtain ⟨rfl, rfl, rfl⟩ := hcut
    clear pc1
    go_wp2_with fail
    go_loopg [7, 18] mn (fun kx s7 s18 wr => ∃ (j : Nat), s18 = .int .i64 j ∧ j ≤ mn ∧ mn - j ≤ kx ∧ Hid (DueMem w p pl (.slice xn p.ships.length cn) g (.slice ap pl.length cp) j wr s7))
    case atStart => exact ⟨0, rfl, Nat.zero_le _, by omega, M5⟩
    case round =>
      clear M5
      obtain ⟨j, rfl, hj, hg, M⟩ := hrel
      by_cases hjl : j < mn
      · have hjn : j < p.ships.length := by omega
        have hjp : j < pl.length := by omega
        obtain ⟨x, hx⟩ : ∃ x, pl[j]? = some x := ⟨pl[j], List.getElem?_eq_getElem hjp⟩
        obtain ⟨bp, op, rfl, hrp⟩ := SlK.ints (M.out.plan.below M.out.below) hx
        have rc := hrp.int hx
        obtain ⟨b, rfl, hbg⟩ : ∃ b, xn = some ⟨b, 0, none⟩ ∧ b < g := by
          obtain ⟨b, c, e, _⟩ := OwnK.ofRow M.out.row (by intro e; injection e with _ e _; omega)
          injection e with e1 e2 e3
          exact ⟨b, e1, M.out.lt b (by rw [e1]; rfl)⟩
        have hsl : SlK cShip wr (.slice (some ⟨b, 0, none⟩) p.ships.length cn) (dueTo p pl j) := slK_ofRow M.out.row
        obtain ⟨b', o', e', hrs⟩ : ∃ b' o', (some (⟨b, 0, none⟩ : Addr)) = some ⟨b', o', none⟩ ∧ RdK cShip wr b' o' (dueTo p pl j) := by
          obtain ⟨x1, x2, e, _, h⟩ := hsl
          injection e with e1 _ _
          rcases h with h | ⟨b', o', h1, h2⟩
          · have := dueTo_len p pl j; rw [h] at this; simp at this; omega
          · exact ⟨b', o', by rw [e1, h1], h2⟩
        injection e' with e'
        injection e' with e1 e2
        subst e1 e2
        obtain ⟨c0, c1, c2, c3, c4, c5⟩ := hrs.ship (dueTo_get hjn)
        obtain ⟨pc0, pc1, pc14, pc15⟩ := M.out.q.cells
        have hj3 : (j : Int) < (mn : Int) := by omega
        have hj4 : (j : Int) < (p.ships.length : Int) := by omega
        have hj5 : (j : Int) < (pl.length : Int) := by omega
        simp only [Nat.zero_add] at c0 c1 c2 c3 c4 c5
        clear c1 c2 c3 c5 pc14 pc15 hrs hrp hsl
        by_cases h1 : (shp p j).st = 1
        · by_cases h2 : x = p.now
          · have hd : dueB p pl j = true := dueB_iff.2 ⟨by rw [hx, h2], h1⟩
            rw [h1] at c0
            subst h2
            clear hx
            go_wp2_with fail
            go_region
            go_wp2_with fail
            have MD : Hid (DueMem w p pl (.slice (some ⟨b, 0, none⟩) p.ships.length cn) g (.slice (some ⟨bp, op, none⟩) pl.length cp) j wr.drew u7) := M.out.later ((Below.refl _ wr).drew)
            have c0' : wr.drew.cell? ⟨b, j * 6, none⟩ = some (.int .i64 1) := c0
            have c4' : wr.drew.cell? ⟨b, j * 6 + 4, none⟩ = some (.int .i64 (shp p j).si) := c4
            have pc0' : wr.drew.cell? ⟨g, 0, none⟩ = some (.int .i64 p.now) := pc0
            clear c0 c4 pc0 pc1 rc M
            generalize wr.drew = W1 at *
            have hne : b ≠ g := by omega
            have hne2 : g ≠ b := by omega
            have fz : ∀ k, W1.frozen? ⟨b, k, none⟩ = false := fun k => MD.out.frozen k
            have f0 := fz (j * 6)
            have f4 := fz (j * 6 + 4)
            clear fz
            go_region
            all_goals go_upto_region 9 with fail
            have E2 : Hid (DueMid w p pl (.slice (some ⟨b, 0, none⟩) p.ships.length cn) g (.slice (some ⟨bp, op, none⟩) pl.length cp) j ((W1.setCell ⟨b, j * 6, none⟩ (.int .i64 3)).setCell ⟨b, j * 6 + 4, none⟩ (.int .i64 p.now)).drew u7) := MD.out.yes hjn hd
            clear MD c0' c4' pc0' f0 f4
            generalize ((W1.setCell ⟨b, j * 6, none⟩ (.int .i64 3)).setCell ⟨b, j * 6 + 4, none⟩ (.int .i64 p.now)).drew = WB at *
            have hwl := whoTo_len p pl j
            have hl2 := ints_len (whoTo p pl j)
            have Q1 : Hid ((ints (whoTo p pl j)).length + 1 ≤ maxLen ∧ ((ints (whoTo p pl j)).length + 1) * 8 ≤ 140737488355328) := ⟨by unfold maxLen; omega, by omega⟩
            have R1 : Hid (RdK cInt (WB.alloc (.cells #[.int .i64 (j : Int)] 3)) WB.heap.size 0 [(j : Int)]) := rdK_one WB _ _
            have E3 : Hid (DueMid w p pl (.slice (some ⟨b, 0, none⟩) p.ships.length cn) g (.slice (some ⟨bp, op, none⟩) pl.length cp) j (WB.alloc (.cells #[.int .i64 (j : Int)] 3)) u7) := E2.out.later ((Below.refl _ WB).alloc (Nat.le_refl _) _)
            have O5 : Hid ((WB.alloc (.cells #[.int .i64 (j : Int)] 3)).ownsRow (g + 1) 3 1 u7 (ints (whoTo p pl j)).length (cellsK cInt (ints (whoTo p pl j)))) := E3.out.who
            have Z5 : Hid (g + 1 ≤ (WB.alloc (.cells #[.int .i64 (j : Int)] 3)).heap.size) := E3.out.q.lt
            clear hwl hl2 E2
            go_wp2_with (at_builtin; refine wpList_appK tyInt rfl _ _ rfl (g + 1) u7 (ints (whoTo p pl j)) [(j : Int)] WB.heap.size 0 1 1 rfl rfl rfl O5.out R1.out Z5.out Q1.out.1 Q1.out.2 ?_; intro v' w1 hw1)
            go_roundg (mn - (j + 1))
            case measure => omega
            case rel => exact ⟨j + 1, by go_num, by omega, Nat.le_refl _, E3.out.app hd hw1.out.1 hw1.out.2⟩
          · have hd : dueB p pl j = false := by
              cases e : dueB p pl j
              · rfl
              · have h3 := (dueB_iff.1 e).1
                rw [hx] at h3
                exact absurd (Option.some.inj h3) h2
            have hb2 : (x == p.now) = false := by simp [h2]
            have MD : Hid (DueMem w p pl (.slice (some ⟨b, 0, none⟩) p.ships.length cn) g (.slice (some ⟨bp, op, none⟩) pl.length cp) (j + 1) wr.drew u7) := (M.out.later ((Below.refl _ wr).drew)).no hd
            rw [h1] at c0
            clear h2 hx M
            go_wp2_with fail
            go_region
            all_goals go_wp2_with fail
            go_roundg (mn - (j + 1))
            case measure => omega
            case rel => exact ⟨j + 1, by go_num, by omega, Nat.le_refl _, MD⟩
        · have hd : dueB p pl j = false := by
            cases e : dueB p pl j
            · rfl
            · exact absurd (dueB_iff.1 e).2 h1
          have hb2 : ((shp p j).st == 1) = false := by simp [h1]
          have MD : Hid (DueMem w p pl (.slice (some ⟨b, 0, none⟩) p.ships.length cn) g (.slice (some ⟨bp, op, none⟩) pl.length cp) (j + 1) wr.drew u7) := (M.out.later ((Below.refl _ wr).drew)).no hd
          clear hx M h1
          go_wp2_with fail
          go_region
          all_goals go_wp2_with fail
          go_roundg (mn - (j + 1))
          case measure => omega
          case rel => exact ⟨j + 1, by go_num, by omega, Nat.le_refl _, MD⟩
      · have hje : j = mn := by omega
        subst hje
        have hj3 : ¬ (j : Int) < (j : Int) := by omega
        have DL := dueTo_end (p := p) (pl := pl) (j := j) (by omega)
        have WL := whoTo_end (p := p) (pl := pl) (j := j) (by omega) (by omega)
        have on := ownsRow_one M.out.row
        have QB : Hid (PBox wr g (dueP p pl) (.slice xn p.ships.length cn)) := M.out.q
        go_wp2_with (first | (refine wpList_load_box rfl _ rfl g (dueP p pl) (.slice xn p.ships.length cn) rfl QB.out ?_) | (refine wpList_store_box rfl _ _ rfl (w.heap.size + 1) zeroPt (dueP p pl) (.slice none 0 0) (.slice xn p.ships.length cn) rfl rfl M.out.out h4 on ?_; intro w9 hw9 hs9))
        refine bodyPost_ret (v := .tuple #[.agg (portCells (dueP p pl) (.slice xn p.ships.length cn)).toArray, u7]) (results_box_tmp Try.results48 _ _ (w.heap.size + 1) (dueP p pl) (.slice xn p.ships.length cn) rfl hw9.out.1) rfl ?_
        have hbs := M.out.base
        refine ⟨_, _, rfl, ?_, ?_, M.out.below.trans (hw9.out.2.2 _ (by omega))⟩
        · have h := M.out.row
          rw [dueTo_len, DL] at h
          exact ownsRow_mono (ownsRow_same h (fun k hk => hw9.out.2.1 k (by omega))) (by omega)
        · have h := M.out.who
          rw [WL] at h
          exact ownsRow_mono (ownsRow_same h (fun k hk => hw9.out.2.1 k (by omega))) (by omega)

end Go.Proofs.Ytghhegajbehpeaa
