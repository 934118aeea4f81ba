/- Texts of this claim, in one: PTellM RefDue RefLate RefTell0 RefTellT RefTellM. -/
import Derived.Lib.Bytealg
import Derived.Maps.StringElems
import Derived.Laws.IdiomStrings
import Derived.Test.YtcmdoeledmkfmabGreatDoorQH
import Derived.Test.YtcmdoeledmkfmabGreatDoorQB
import Derived.Test.YtcmdoeledmkfmabGreatDoorQ8
import Derived.Test.YtcmdoeledmkfmabGreatDoorQ9
import Derived.Test.YtcmdoeledmkfmabGreatDoorXPFar
import Derived.Test.YtcmdoeledmkfmabGreatDoorQ6
import Derived.Test.YtcmdoeledmkfmabGreatDoorQC
set_option linter.unusedSimpArgs false
set_option linter.unusedVariables false
namespace Go.Proofs.YtcmdoeledmkfmabGreatDoor
open Go.RowKit
theorem port0_setS {p : Pt} {i : Nat} {s : Ship} (hp : IsPort0 p) (hi : i < p.ships.length) (hs : IsShip s p.now) (hq : s.qu = (shp p i).qu) : IsPort0 (setS p i s) := by
  have hq2 := (shp_wd hp i hi).2
  refine ⟨hp.now, hp.shut, by rw [setS_len]; exact hp.len, hp.next, fun r hr => ?_, fun a b r t hab hr ht => ?_, hp.four, hp.kept⟩
  · rcases List.mem_or_eq_of_mem_set (show r ∈ p.ships.set i s from hr) with h | h
    · exact hp.ship r h
    · subst h
      exact ⟨hs, by rw [hq]; exact hq2⟩
  · have old : ∀ (c : Nat) (x : Ship), (p.ships.set i s)[c]? = some x → ∃ y, p.ships[c]? = some y ∧ y.qu = x.qu := fun c x hx => by
      by_cases e : c = i
      · subst e
        rw [List.getElem?_set_self hi] at hx
        injection hx with hx
        subst hx
        exact ⟨p.ships[c], List.getElem?_eq_getElem hi, by rw [hq, shp_get (List.getElem?_eq_getElem hi)]⟩
      · rw [List.getElem?_set_ne (fun h => e h.symm)] at hx
        exact ⟨x, hx, rfl⟩
    obtain ⟨r', hr', e1⟩ := old a r hr
    obtain ⟨t', ht', e2⟩ := old b t ht
    rw [← e1, ← e2]
    exact hp.once a b r' t' hab hr' ht'
theorem moveS_ship {s : Ship} {kd b now : Int} (h : IsShip s now) (h0 : (moveS s kd b now).1 = 0) : IsShip (moveS s kd b now).2 now ∧ (moveS s kd b now).2.qu = s.qu := by
  unfold moveS at h0 ⊢
  split at h0
  · cases h0
  · rename_i h4
    rw [if_neg h4]
    split at h0
    · rename_i k2
      rw [if_pos k2]
      exact ⟨⟨⟨by show (1 : Int) ≤ 4; decide, by show (4 : Int) ≤ 4; decide⟩, h.wd, h.lg, h.cl, h.qu, fun h => absurd h (by show ¬ ((4 : Int) = 3); decide), fun _ => rfl⟩, rfl⟩
    · rename_i k2
      rw [if_neg k2]
      split at h0
      · rename_i k3
        rw [if_pos k3]
        unfold turnF at h0 ⊢
        split at h0
        · rename_i hs
          rw [if_pos hs]
          exact ⟨⟨⟨by show (1 : Int) ≤ 2; decide, by show (2 : Int) ≤ 4; decide⟩, h.wd, h.lg, h.cl, h.qu, fun h => absurd h (by show ¬ ((2 : Int) = 3); decide), fun _ => h.else_ (by rw [hs]; decide)⟩, rfl⟩
        · cases h0
      · rename_i k3
        rw [if_neg k3]
        split at h0
        · rename_i k4
          rw [if_pos k4]
          unfold turnF at h0 ⊢
          split at h0
          · rename_i hs
            rw [if_pos hs]
            exact ⟨⟨⟨by show (1 : Int) ≤ 1; decide, by show (1 : Int) ≤ 4; decide⟩, h.wd, h.lg, h.cl, h.qu, fun h => absurd h (by show ¬ ((1 : Int) = 3); decide), fun _ => h.else_ (by rw [hs]; decide)⟩, rfl⟩
          · cases h0
        · rename_i k4
          rw [if_neg k4]
          unfold changeF at h0 ⊢
          split at h0
          · rename_i hc
            rw [if_pos hc]
            refine ⟨⟨h.st, h.wd, hc.1, h.cl, h.qu, fun h3 => ?_, h.else_⟩, rfl⟩
            have a := h.lies h3
            have b := hc.2 h3
            exact ⟨a.1, a.2.1, b.2, b.1⟩
          · cases h0
theorem port0_setK {p : Pt} {j : Nat} {k : Kp} (hp : IsPort0 p) (hk : IsKept k) : IsPort0 { p with kept := p.kept.set j k } :=
  ⟨hp.now, hp.shut, hp.len, hp.next, hp.ship, hp.once, by show (p.kept.set j k).length = 4; rw [List.length_set]; exact hp.four, fun x hx => by
    rcases List.mem_or_eq_of_mem_set (show x ∈ p.kept.set j k from hx) with h | h
    · exact hp.kept x h
    · subst h; exact hk⟩
theorem obey_port0 {p : Pt} {o : Ord} {n : Int} {q : Pt} (hp : IsPort p) (h : ObeyIs p o n 0 q) : IsPort0 q := by
  have h0 := hp.port
  unfold ObeyIs at h
  split at h
  · rcases h with ⟨_, h, _⟩ | ⟨_, _, h, _⟩ | ⟨⟨ha, hb, hc⟩, hl, hn, _, _, rfl⟩
    · cases h
    · cases h
    · refine ⟨h0.now, h0.shut, by simp; omega, ⟨by have := h0.next.1; show 0 ≤ p.next + 1; omega, by show p.next + 1 ≤ _; omega⟩, fun s hs => ?_, fun i j r s hij hr hs => ?_, h0.four, h0.kept⟩
      · rcases List.mem_append.1 hs with hs | hs
        · have := h0.ship s hs
          exact ⟨this.1, by have := this.2; show s.qu < p.next + 1; omega⟩
        · have : s = ⟨1, o.a, o.b, o.c, 0, p.next⟩ := by simpa using hs
          subst this
          exact ⟨⟨⟨by show (1 : Int) ≤ 1; decide, by show (1 : Int) ≤ 4; decide⟩, ha, hb, hc, h0.next.1, fun h => absurd h (by show ¬ ((1 : Int) = 3); decide), fun _ => rfl⟩, by show p.next < p.next + 1; omega⟩
      · have hj := (List.getElem?_eq_some_iff.1 hs).1
        have hr2 : p.ships[i]? = some r := by
          have : i < p.ships.length := by simp at hj; omega
          rwa [List.getElem?_append_left this] at hr
        by_cases c : j < p.ships.length
        · rw [List.getElem?_append_left c] at hs
          exact h0.once i j r s hij hr2 hs
        · have hj2 : j = p.ships.length := by simp at hj; omega
          subst hj2
          rw [List.getElem?_append_right (Nat.le_refl _)] at hs
          simp at hs
          subst hs
          have := (h0.ship r (List.mem_of_getElem? hr2)).2
          show r.qu ≠ p.next
          omega
  · split at h
    · obtain ⟨_, h⟩ := h
      unfold moveF at h
      split at h
      · rename_i ha
        have hq : q = setS p o.a.toNat (moveS (shp p o.a.toNat) o.kd o.b p.now).2 := (Prod.mk.inj h).2.symm
        have he : (moveS (shp p o.a.toNat) o.kd o.b p.now).1 = 0 := (Prod.mk.inj h).1
        subst hq
        have hi : o.a.toNat < p.ships.length := by omega
        have := moveS_ship (shp_wd h0 _ hi).1 he
        exact port0_setS h0 hi this.1 this.2
      · have := (Prod.mk.inj h).1
        cases this
    · split at h
      · rcases h with ⟨_, h, _⟩ | ⟨_, _, h, _⟩ | ⟨hk, j, _, _, _, rfl⟩
        · cases h
        · cases h
        · exact port0_setK h0 (Or.inr ⟨hk.1, ⟨hk.2.2.1, by have := hk.2.2.2; show o.b ≤ 300; omega⟩, hk.2.2.2.1, hk.2.2.2.2⟩)
      · split at h
        · rcases h with ⟨_, h, _⟩ | ⟨_, _, _, _, _, _, h, _⟩ | ⟨j, k, _, _, _, _, _, _, rfl⟩
          · cases h
          · cases h
          · exact port0_setK h0 (Or.inl ⟨rfl, rfl, rfl⟩)
        · split at h
          · obtain ⟨_, ⟨ha, _, rfl⟩ | ⟨_, h, _⟩⟩ := h
            · exact ⟨h0.now, ha, h0.len, h0.next, h0.ship, h0.once, h0.four, h0.kept⟩
            · cases h
          · obtain ⟨_, h, _⟩ := h
            cases h
end Go.Proofs.YtcmdoeledmkfmabGreatDoor
set_option linter.unusedSimpArgs false
set_option linter.unusedVariables false
namespace Go.Proofs.YtcmdoeledmkfmabGreatDoor
open Go.RowKit
theorem rown_ne {w : World} {B : Nat} {e : TypeId} {size : Nat} {v : Value} {n : Nat} {xs : List Value} (h : w.ownsRow B e size v n xs) {j : Nat} {c : Array Value} {t : TypeId} {f : Nat × Nat} (hj : w.heap[j]? = some (.cells c t f)) (hne : t ≠ e) : some j ≠ v.ownBlock := by
  rcases h.2 with ⟨rfl, _⟩ | ⟨b, cap, cur, rfl, h1, h2, _⟩
  · intro e; cases e
  · intro e
    have e2 : j = b := by simpa [Value.ownBlock] using e
    subst e2
    have e3 := hj.symm.trans h2
    injection e3 with e3
    injection e3 with _ e3
    exact hne e3
theorem rown_set {w : World} {B : Nat} {e : TypeId} {size : Nat} {v : Value} {n : Nat} {xs : List Value} (h : w.ownsRow B e size v n xs) {g : Nat} {c : Array Value} {t : TypeId} {f : Nat × Nat} (hg : w.heap[g]? = some (.cells c t f)) (hne : t ≠ e) (k : Nat) (x : Value) : (w.setCell ⟨g, k, none⟩ x).ownsRow B e size v n xs := by
  refine ⟨h.1, ?_⟩
  rcases h.2 with h0 | ⟨b, cap, cur, h0, h1, h2, h3⟩
  · exact Or.inl h0
  · refine Or.inr ⟨b, cap, cur, h0, h1, ?_, h3⟩
    have hb : b ≠ g := by
      rintro rfl
      have e3 := hg.symm.trans h2
      injection e3 with e3
      injection e3 with _ e3
      exact hne e3
    rw [Below.heap_setCell _ _ _ _ (by show b ≠ g; exact hb)]
    exact h2
theorem rown_other {w w' : World} {B B' : Nat} {e e' : TypeId} {size : Nat} {v v' : Value} {n : Nat} {xs : List Value} (h : w.ownsRow B e size v n xs) {size' n' : Nat} {xs' : List Value} (h' : w.ownsRow B' e' size' v' n' xs') (hne : e ≠ e') (hs : ∀ j, j < w.heap.size → some j ≠ v'.ownBlock → w'.heap[j]? = w.heap[j]?) : w'.ownsRow B e size v n xs := by
  refine ⟨h.1, ?_⟩
  rcases h.2 with h0 | ⟨b, cap, cur, h0, h1, h2, h3⟩
  · exact Or.inl h0
  · exact Or.inr ⟨b, cap, cur, h0, h1, by rw [hs b (Array.getElem?_eq_some_iff.1 h2).1 (rown_ne h' h2 hne)]; exact h2, h3⟩
structure RDue (w : World) (p : Pt) (pl : List Int) (vn : Value) (j k : Nat) (W : World) (s6 : Value) : Prop where
  below : Below w.heap.size w W
  out : PBox W (w.heap.size + 1) zeroPt (.slice none 0 0)
  q : PBox W w.heap.size p vn
  row : W.ownsRow (w.heap.size + 1 + 1) 51 6 vn (dueTo p pl j).length (cellsK cShip (dueTo p pl j))
  who : W.ownsRow (w.heap.size + 1 + 1) 3 1 s6 (ints (whoTo p pl k)).length (cellsK cInt (ints (whoTo p pl k)))
section
variable {w W W' : World} {p : Pt} {pl : List Int} {vn s6 : Value} {j k : Nat}
theorem RDue.later (h : RDue w p pl vn j k W s6) (hb : Below W.heap.size W W') : RDue w p pl vn j k W' s6 :=
  ⟨h.below.trans (hb.mono h.below.size), h.out.later hb h.out.lt, h.q.later hb h.q.lt, ownsRow_later h.row hb, ownsRow_later h.who hb⟩
theorem RDue.no (h : RDue w p pl vn j j W s6) (hd : dueB p pl j = false) : RDue w p pl vn (j + 1) (j + 1) W s6 :=
  ⟨h.below, h.out, h.q, by rw [dueTo_no hd]; exact h.row, by rw [whoTo_no hd]; exact h.who⟩
theorem RDue.frozen {b n cn : Nat} (h : RDue w p pl (.slice (some ⟨b, 0, none⟩) n cn) j k W s6) (i : Nat) : W.frozen? ⟨b, i, none⟩ = false := by
  obtain ⟨b', c, e, ho⟩ := OwnK.ofRow h.row (by intro e; cases e)
  injection e with e1 e2 e3
  injection e1 with e1
  injection e1 with e1
  subst e1
  exact ho.frozen i
theorem RDue.yes {b n cn : Nat} (h : RDue w p pl (.slice (some ⟨b, 0, none⟩) n cn) j j W s6) (hj : j < p.ships.length) (hd : dueB p pl j = true) :
    RDue w p pl (.slice (some ⟨b, 0, none⟩) n cn) (j + 1) j ((W.setCell ⟨b, j * 6, none⟩ (.int .i64 3)).setCell ⟨b, j * 6 + 4, none⟩ (.int .i64 p.now)) s6 := by
  have hb0 := (h.row.lt b rfl).1
  have r1 := rowShips_one (i := 0) h.row (dueTo_get hj) (by decide) (s' := { shp p j with st := 3 }) (x := .int .i64 3) rfl
  have r2 := rowShips_one (i := 4) r1 (List.getElem?_set_self (by rw [dueTo_len]; exact hj)) (by decide) (s' := inS p.now (shp p j)) (x := .int .i64 p.now) rfl
  have el : ((dueTo p pl j).set j { shp p j with st := 3 }).set j (inS p.now (shp p j)) = dueTo p pl (j + 1) := by rw [List.set_set, dueTo_yes hj hd]
  rw [el] at r2
  obtain ⟨b', c', e', ho⟩ := OwnK.ofRow h.row (by intro e; cases e)
  injection e' with e1 e2 e3
  injection e1 with e1
  injection e1 with e1
  subst e1
  obtain ⟨cur, hcur, _⟩ := ho.row
  refine ⟨?_, ?_, ?_, r2, ?_⟩
  · exact (h.below.setCell (p := ⟨b, j * 6, none⟩) (by show _ ≤ b; omega) _).setCell (p := ⟨b, j * 6 + 4, none⟩) (by show _ ≤ b; omega) _
  · exact (h.out.other (g' := b) (j * 6) (.int .i64 3) (by omega)).other (g' := b) (j * 6 + 4) (.int .i64 p.now) (by omega)
  · exact (h.q.other (g' := b) (j * 6) (.int .i64 3) (by omega)).other (g' := b) (j * 6 + 4) (.int .i64 p.now) (by omega)
  · have h1 := rown_set h.who hcur (by decide) (j * 6) (.int .i64 3)
    have hcur2 : (W.setCell ⟨b, j * 6, none⟩ (.int .i64 3)).heap[b]? = some (.cells (cur.setIfInBounds (j * 6) (.int .i64 3)) 51 (0, 0)) := by rw [setCell_eq_setRow W b (j * 6) cur _ _ _ hcur]; exact setRow_heap W b cur _ _ _ hcur
    exact rown_set h1 hcur2 (by decide) (j * 6 + 4) (.int .i64 p.now)
theorem RDue.app {v' : Value} (h : RDue w p pl vn (j + 1) j W s6) (hd : dueB p pl j = true) (ho : W'.ownsRow (w.heap.size + 1 + 1) 3 1 v' (ints (whoTo p pl j) ++ [(j : Int)]).length (cellsK cInt (ints (whoTo p pl j) ++ [(j : Int)]))) (hb : Below (w.heap.size + 1 + 1) W W') (hs : ∀ i, i < W.heap.size → some i ≠ s6.ownBlock → W'.heap[i]? = W.heap[i]?) : RDue w p pl vn (j + 1) (j + 1) W' v' := by
  refine ⟨h.below.trans (hb.mono (by omega)), h.out.later hb (by omega), h.q.later hb (by omega), rown_other h.row h.who (by decide) hs, ?_⟩
  rw [whoTo_yes hd, ints_append]
  exact ho
end
end Go.Proofs.YtcmdoeledmkfmabGreatDoor
set_option linter.unusedSimpArgs false
set_option linter.unusedVariables false
namespace Go.Proofs.YtcmdoeledmkfmabGreatDoor
open Go.RowKit
end Go.Proofs.YtcmdoeledmkfmabGreatDoor
set_option linter.unusedSimpArgs false
set_option linter.unusedVariables false
namespace Go.Proofs.YtcmdoeledmkfmabGreatDoor
open Go.RowKit
structure TB (w : World) (p : Pt) (vs : Value) (o : Ord) (g : Nat) (q : Pt) (vq : Value) (W : World) : Prop where
  below : Below w.heap.size w W
  box : PBox W w.heap.size p vs
  ord : OBox W (w.heap.size + 1) o
  out : PBox W (w.heap.size + 1 + 1) zeroPt (.slice none 0 0)
  q : PQ (w.heap.size + 1 + 1 + 1) W g q vq
section
variable {w W W' : World} {p q : Pt} {vs vq : Value} {o : Ord} {g : Nat}
theorem TB.later (h : TB w p vs o g q vq W) (hb : Below W.heap.size W W') : TB w p vs o g q vq W' :=
  ⟨h.below.trans (hb.mono h.below.size), h.box.later hb h.box.lt, h.ord.later hb h.ord.lt, h.out.later hb h.out.lt, h.q.later hb⟩
theorem TB.turn {q' : Pt} {vq' : Value} (h : TB w p vs o g q vq W) (hb : Below (w.heap.size + 1 + 1 + 1) W W') (hq : PQ (w.heap.size + 1 + 1 + 1) W' g q' vq') : TB w p vs o g q' vq' W' :=
  ⟨h.below.trans (hb.mono (by omega)), h.box.later hb (by omega), h.ord.later hb (by omega), h.out.later hb (by omega), hq⟩
end
end Go.Proofs.YtcmdoeledmkfmabGreatDoor
set_option linter.unusedSimpArgs false
set_option linter.unusedVariables false
namespace Go.Proofs.YtcmdoeledmkfmabGreatDoor
open Go.RowKit Go.Maps Go.ChangeMaps Go.MapKept
def MapT (w : World) (b n : Nat) (g : Int → List UInt8) : Prop :=
  ∃ D : DataW Unit, w.ownsMap Tryz.prog 3 (plainElem Tryz.prog 9) b n D ∧ IsMap D ∧ ∀ k, Wf k → D.atKey (.int .i64 k) (.lit (.string [])) = .lit (.string (g k))
theorem MapT.made (w : World) : MapT (w.alloc (.map #[] 0)) w.heap.size 0 fun _ => [] :=
  ⟨.map [], World.ownsMap_made _ _ _ _, isMap_empty, fun k _ => rfl⟩
end Go.Proofs.YtcmdoeledmkfmabGreatDoor
set_option linter.unusedSimpArgs false
set_option linter.unusedVariables false
namespace Go.Proofs.YtcmdoeledmkfmabGreatDoor
open Go.RowKit
end Go.Proofs.YtcmdoeledmkfmabGreatDoor
