/- What is free of what lies, is kept, and is shut, from now on; whether a port is one: Base and Good of package port: P2.2, P2.3. -/
import Derived.Test.YtghhegajbehpeaaPLying
import Derived.Test.YtghhegajbehpeaaPLess
import Derived.Deep.RegionWith
import Derived.Deep.RegionLaw
import Derived.BigRegion
set_option linter.unusedSimpArgs false
set_option linter.unusedVariables false
namespace Go.Proofs.Ytghhegajbehpeaa
open Go.RowKit

theorem tks_lying {p : Pt} (h : ∀ s ∈ p.ships, IsShip s p.now) (t : Int) : tksAt p.now (lyingL p.ships) t = if p.now ≤ t then shipsAt p.ships t else 0 := by
  unfold lyingL tksAt shipsAt
  generalize p.ships = l at h
  induction l with
  | nil => simp
  | cons s r ih =>
    have h1 := ih fun s hs => h s (List.mem_cons_of_mem _ hs)
    have h2 := h s List.mem_cons_self
    by_cases h3 : s.st = 3
    · obtain ⟨a, b, c, d⟩ := h2.lies h3
      simp only [List.filter_cons, h3, decide_true, if_true, List.map_cons, List.foldr_cons]
      rw [h1]
      by_cases hn : p.now ≤ t
      · by_cases ht : t < s.si + s.lg
        · simp [tkAt, shipAt, hn, ht, h3, show s.si ≤ t by omega]
        · simp [tkAt, shipAt, hn, ht, h3]
      · simp [tkAt, hn]
    · simp only [List.filter_cons, h3, decide_false, List.map_cons, List.foldr_cons]
      rw [if_neg (by simp), h1]
      simp [shipAt, h3]

theorem tks_kept (now : Int) (l : List Kp) (t : Int) : tksAt now l t = if now ≤ t then keepsAt l t else 0 := by
  unfold tksAt keepsAt
  induction l with
  | nil => simp
  | cons k r ih =>
    simp only [List.map_cons, List.foldr_cons, ih]
    by_cases hn : now ≤ t
    · by_cases hk : k.fr ≤ t ∧ t < k.to
      · simp [tkAt, keptAt, hn, hk]
      · have e1 : tkAt now k t = 0 := by unfold tkAt; rw [if_neg (by omega)]
        have e2 : keptAt k t = 0 := by unfold keptAt; rw [if_neg hk]
        rw [e1, e2, if_pos hn, if_pos hn]
    · simp [tkAt, hn]

theorem base_tks {p : Pt} (h : IsPort0 p) (t : Int) : 16 - p.shut - tksAt p.now (lyingL p.ships ++ p.kept) t = baseAt p t := by
  rw [tksAt_append, tks_lying (fun s hs => (h.ship s hs).1), tks_kept]
  unfold baseAt
  split <;> omega

theorem tkOk_all {p : Pt} (h : IsPort0 p) : ∀ k ∈ lyingL p.ships ++ p.kept, TkOk k := by
  intro k hk
  rcases List.mem_append.1 hk with hk | hk
  · unfold lyingL at hk
    obtain ⟨s, hs, rfl⟩ := List.mem_map.1 hk
    obtain ⟨hs1, hs2⟩ := List.mem_filter.1 hs
    have h1 := (h.ship s hs1).1
    have h2 := h1.lies (of_decide_eq_true hs2)
    have h3 := h1.wd
    have h4 := h1.lg
    exact ⟨⟨by simp only; omega, h3.2⟩, by simp only; omega, h2.2.2.2⟩
  · rcases h.kept k hk with ⟨a, b, c⟩ | ⟨a, b, c, d⟩
    · exact ⟨by omega, by omega, by omega⟩
    · exact ⟨by omega, by omega, d⟩

/-- all sixteen cells of a port, written out -/
theorem PBox.all {w : World} {g : Nat} {p : Pt} {vs : Value} (h : PBox w g p vs) : ∃ a0 a1 a2 b0 b1 b2 c0 c1 c2 d0 d1 d2 : Int,
    (portCells p vs).toArray = #[.int .i64 p.now, vs, .int .i64 a0, .int .i64 a1, .int .i64 a2, .int .i64 b0, .int .i64 b1, .int .i64 b2, .int .i64 c0, .int .i64 c1, .int .i64 c2, .int .i64 d0, .int .i64 d1, .int .i64 d2, .int .i64 p.shut, .int .i64 p.next] ∧
    w.cell? ⟨g, 0, none⟩ = some (.int .i64 p.now) ∧ w.cell? ⟨g, 1, none⟩ = some vs ∧ w.cell? ⟨g, 2, none⟩ = some (.int .i64 a0) ∧ w.cell? ⟨g, 3, none⟩ = some (.int .i64 a1) ∧ w.cell? ⟨g, 4, none⟩ = some (.int .i64 a2) ∧ w.cell? ⟨g, 5, none⟩ = some (.int .i64 b0) ∧ w.cell? ⟨g, 6, none⟩ = some (.int .i64 b1) ∧ w.cell? ⟨g, 7, none⟩ = some (.int .i64 b2) ∧ w.cell? ⟨g, 8, none⟩ = some (.int .i64 c0) ∧ w.cell? ⟨g, 9, none⟩ = some (.int .i64 c1) ∧ w.cell? ⟨g, 10, none⟩ = some (.int .i64 c2) ∧ w.cell? ⟨g, 11, none⟩ = some (.int .i64 d0) ∧ w.cell? ⟨g, 12, none⟩ = some (.int .i64 d1) ∧ w.cell? ⟨g, 13, none⟩ = some (.int .i64 d2) ∧ w.cell? ⟨g, 14, none⟩ = some (.int .i64 p.shut) ∧ w.cell? ⟨g, 15, none⟩ = some (.int .i64 p.next) := by
  have e : ∀ j u, (portCells p vs)[j]? = some u → w.cell? ⟨g, j, none⟩ = some u := fun j u hu => by have := h.whole j u hu; rwa [Nat.zero_add] at this
  obtain ⟨now, ships, kept, shut, next⟩ := p
  have h4 := h.1
  simp only at h4
  match kept, h4 with
  | [⟨a0, a1, a2⟩, ⟨b0, b1, b2⟩, ⟨c0, c1, c2⟩, ⟨d0, d1, d2⟩], _ =>
    exact ⟨a0, a1, a2, b0, b1, b2, c0, c1, c2, d0, d1, d2, rfl, e 0 _ rfl, e 1 _ rfl, e 2 _ rfl, e 3 _ rfl, e 4 _ rfl, e 5 _ rfl, e 6 _ rfl, e 7 _ rfl, e 8 _ rfl, e 9 _ rfl, e 10 _ rfl, e 11 _ rfl, e 12 _ rfl, e 13 _ rfl, e 14 _ rfl, e 15 _ rfl⟩

/-- P2.3 -/
def BaseIs (p : Pt) (w' : World) (v' : Value) (ok : Bool) : Prop :=
  (ok = true ∧ IsPort p ∧ ∃ r, Sl w' v' r ∧ Good r ∧ ∀ t, 0 ≤ t → t < 300 → val r t = baseAt p t) ∨ (ok = false ∧ ¬ IsPort p ∧ v' = .slice none 0 0)

theorem base_of_less {p : Pt} (h : IsPort0 p) {l : List (Int × Int)} (hl : ∀ t, 0 ≤ t → t < 300 → val l t = 16 - p.shut) {w' : World} {v' : Value} {ok : Bool} (hL : LessIs l p.now (lyingL p.ships ++ p.kept) w' v' ok) : BaseIs p w' v' ok := by
  rcases hL with ⟨e, r, hr, G, hv⟩ | ⟨e, hv, t, t0, t3, ht⟩
  · have hb : ∀ t, 0 ≤ t → t < 300 → val r t = baseAt p t := fun t a b => by rw [hv t a b, hl t a b, base_tks h]
    exact Or.inl ⟨e, ⟨h, fun t a b => by rw [← hb t a b]; exact (G.val_bounds a).1⟩, r, hr, G, hb⟩
  · refine Or.inr ⟨e, fun hp => ?_, hv⟩
    rw [hl t t0 t3, base_tks h] at ht
    have := hp.base t t0 t3
    omega

theorem good16 : Good [((0 : Int), (16 : Int))] := goodB_iff.1 (by decide)
theorem val16 (t : Int) (h : 0 ≤ t) : val [((0 : Int), (16 : Int))] t = 16 := by simp [val, valFrom, h]

set_option maxHeartbeats 4000000 in
set_option maxRecDepth 100000 in
theorem base_any (v : Value) (p : Pt) (w : World) (hv : PtV w v p) (hq : WfQ p) :
    Calls Try.prog 37 #[v] w fun e w' => RetVB e (fun v' ok => BaseIs p w' v' ok ∧ (ok = true → Far w.heap.size v')) ∧ Below w.heap.size w w' := by
  obtain ⟨vs, rfl, hsl, h4, hmx⟩ := hv
  have HV : Hid (PtV w (.agg (portCells p vs).toArray) p) := ⟨vs, rfl, hsl, h4, hmx⟩
  have X0 : Hid (PBox (w.alloc (.cells (portCells p vs).toArray 46)) w.heap.size p vs) := PBox.new w p _ h4
  have B0 : Hid (Below w.heap.size w (w.alloc (.cells (portCells p vs).toArray 46))) := (Below.refl _ w).alloc (Nat.le_refl _) _
  have HS := fun W h => sound_any (.agg (portCells p vs).toArray) p W h hq
  have HL := fun W h hp => lying_any (.agg (portCells p vs).toArray) p W h hp
  clear hsl hq
  generalize hPC : (portCells p vs).toArray = PC at *
  have HPC : Hid ((portCells p vs).toArray = PC) := hPC
  clear hPC
  go_enter Try.func37, Try.ntmps37
  go_wp2_with (refine wpList_load_box rfl _ rfl w.heap.size p vs rfl X0.out ?_; rw [HPC.out])
  refine (HS _ (HV.out.below B0.out)).mono ?_
  rintro e w1 ⟨⟨b, rfl, hb⟩, hw1⟩
  have S1 : Hid (Below w.heap.size w w1) := B0.out.trans (hw1.mono B0.out.size)
  have X1 : Hid (PBox w1 w.heap.size p vs) := X0.out.later hw1 X0.out.lt
  have HB : Hid (Iffb b (IsPort0 p)) := hb
  clear hw1 hb HS X0 B0
  cases b
  case false =>
    have NO : Hid (¬ IsPort p) := fun h => by have := HB.out.2 h.port; cases this
    go_wp2_with fail
    go_ret2
    exact ⟨⟨_, _, rfl, Or.inr ⟨rfl, NO.out, rfl⟩, fun h => (by cases h)⟩, S1.out⟩
  have HP : Hid (IsPort0 p) := HB.out.1 rfl
  have pc14 := X1.out.cells.2.2.1
  have OKA : Hid (okArgs [(0, 16)] 0 300 p.shut) := ⟨by decide, by unfold inB; exact decide_eq_true HP.out.shut, by omega, by omega, by omega⟩
  go_wp2_with fail
  go_cut [4] (fun s4 wc => Hid (Below w.heap.size w wc ∧ PBox wc w.heap.size p vs ∧ Far w.heap.size s4 ∧ ∃ r, Sl wc s4 r ∧ Good r ∧ ∀ t, 0 ≤ t → t < 300 → val r t = 16 - p.shut))
  case first =>
    go_region_with (first | (go_at_call 18; go_loud ( refine (new_any _).mono ?_; rintro e w2 ⟨v2, rfl, hv2, hb2⟩; have F2 : Hid (Below w.heap.size w w2 ∧ PBox w2 w.heap.size p vs ∧ Sl w2 v2 [(0, 16)]) := ⟨S1.out.trans ((below_from_drew hb2).mono S1.out.size), X1.out.later (below_from_drew hb2) X1.out.lt, hv2⟩; have pc14b := F2.out.2.1.cells.2.2.1; clear hb2 hv2)) | (go_at_call 23; refine (take_far _ [(0, 16)] _ _ _ _ F2.out.2.2 OKA.out).mono ?_; rintro e w3 ⟨v3, ok3, rfl, hT3, hF3, hb3⟩; have F3 : Hid ((TakeAns [(0, 16)] 0 300 p.shut (-p.shut) w3 v3 ok3 ∧ Far w.heap.size v3) ∧ Below w.heap.size w w3 ∧ PBox w3 w.heap.size p vs) := ⟨⟨hT3, hF3.mono F2.out.1.size⟩, F2.out.1.trans (hb3.mono F2.out.1.size), F2.out.2.1.later hb3 F2.out.2.1.lt⟩; clear hT3 hb3 hF3))
    all_goals
      go_wp2_with fail
      go_meet
      case rel =>
        obtain ⟨⟨hT, hF⟩, hb, hx⟩ := F3.out
        have hsh := HP.out.shut
        refine ⟨hb, hx, hF, ?_⟩
        rcases take_good good16 hsh (by omega) (by omega) (by omega) hT with ⟨_, r, h1, h2, h3, _⟩ | ⟨_, _, h2⟩
        · refine ⟨r, h1, h2, fun t ta tb => ?_⟩
          rw [h3 t ta tb, val16 t ta, if_pos ⟨ta, tb⟩]
        · exact absurd (fun s a b => by rw [val16 s a]; omega) h2
  case rest =>
    have S2 : Hid (Below w.heap.size w wc) := hcut.out.1
    have X2 : Hid (PBox wc w.heap.size p vs) := hcut.out.2.1
    have FA : Hid (Far w.heap.size u4) := hcut.out.2.2.1
    obtain ⟨r, hr⟩ := hcut.out.2.2.2
    have R2 : Hid (Sl wc u4 r ∧ Good r ∧ ∀ t, 0 ≤ t → t < 300 → val r t = 16 - p.shut) := hr
    have V2 : Hid (PtV wc (.agg PC) p) := HV.out.below S2.out
    obtain ⟨hn0, hn1⟩ := HP.out.now
    have hlen := HP.out.len
    clear hr hcut S1 X1 pc14
    have pc0 := X2.out.cells.1
    have hll := lyingL_len p.ships
    have QL : Hid ((lyingL p.ships).length + 4 ≤ maxLen ∧ ((lyingL p.ships).length + 4) * 24 ≤ 140737488355328 ∧ (lyingL p.ships ++ p.kept).length ≤ 1000) := ⟨by unfold maxLen; omega, by omega, by rw [List.length_append]; omega⟩
    clear hll
    obtain ⟨a0, a1, a2, b0, b1, b2, c0, c1, c2, d0, d1, d2, hpa, q0, q1, q2, q3, q4, q5, q6, q7, q8, q9, q10, q11, q12, q13, q14, q15⟩ := X2.out.all
    rw [HPC.out] at hpa
    have HLx := fun W h => HL W h HP.out
    have V2x := V2.out
    rw [hpa] at HLx V2x
    have V3 : Hid (PtV wc.drew (.agg #[.int .i64 p.now, vs, .int .i64 a0, .int .i64 a1, .int .i64 a2, .int .i64 b0, .int .i64 b1, .int .i64 b2, .int .i64 c0, .int .i64 c1, .int .i64 c2, .int .i64 d0, .int .i64 d1, .int .i64 d2, .int .i64 p.shut, .int .i64 p.next]) p) := V2x.below ((Below.refl _ wc).drew)
    clear hpa V2x pc0 HL
    go_wp2_with fail
    go_region_law (first | (refine step_appK tyKp rfl _ _ rfl wc.heap.size v5 (lyingL p.ships) p.kept w.heap.size 2 4 4 rfl rfl h4 F5.out.1 F5.out.2.2.2 F5.out.2.1.size QL.out.1 QL.out.2.1 ?_; intro v6 w6 hw6; have F6 : Hid (SlK cKp w6 v6 (lyingL p.ships ++ p.kept) ∧ Below wc.heap.size wc w6) := ⟨slK_ofRow hw6.out.1, F5.out.2.1.trans hw6.out.2⟩; have pc0c := (X2.out.later F6.out.2 X2.out.lt).cells.1; clear hw6) | (go_simp; go_at_call 67; refine (HLx _ V3.out).mono ?_; rintro e w5 ⟨v5, rfl, hv5, hb5⟩; have F5 : Hid (w5.ownsRow wc.heap.size 43 3 v5 (lyingL p.ships).length (cellsK cKp (lyingL p.ships)) ∧ Below wc.heap.size wc w5 ∧ PBox w5 w.heap.size p vs ∧ RdK cKp w5 w.heap.size 2 p.kept) := ⟨hv5, below_from_drew hb5, X2.out.later (below_from_drew hb5) X2.out.lt, fun j u hu => (X2.out.later (below_from_drew hb5) X2.out.lt).keeps j u hu⟩; have pc0b := F5.out.2.2.1.cells.1; clear hv5 hb5) | (go_simp; go_at_call 66; refine (less_any _ r _ _ (lyingL p.ships ++ p.kept) _ (R2.out.1.below F6.out.2) R2.out.2.1 (by omega) (by omega) F6.out.1 (tkOk_all HP.out) QL.out.2.2 w.heap.size FA.out (S2.out.trans (F6.out.2.mono S2.out.size)).size).mono ?_; rintro e w7 ⟨⟨v7, ok7, rfl, hL7, hF7⟩, hb7⟩; have F7 : Hid ((BaseIs p w7 v7 ok7 ∧ (ok7 = true → Far w.heap.size v7)) ∧ Below w.heap.size w w7) := ⟨⟨base_of_less HP.out R2.out.2.2 hL7, hF7⟩, (S2.out.trans (F6.out.2.mono S2.out.size)).trans (hb7.mono (S2.out.trans (F6.out.2.mono S2.out.size)).size)⟩; clear hL7 hb7 hF7))
    all_goals
      go_wp2_with fail
      go_ret2
      exact ⟨⟨_, _, rfl, F7.out.1⟩, F7.out.2⟩

set_option maxHeartbeats 1000000 in
theorem goodPort_any (v : Value) (p : Pt) (w : World) (hv : PtV w v p) (hq : WfQ p) :
    Calls Try.prog 30 #[v] w fun e w' => IsB e (IsPort p) ∧ Below w.heap.size w w' := by
  obtain ⟨vs, rfl, hsl, h4, hmx⟩ := hv
  have HV : Hid (PtV w (.agg (portCells p vs).toArray) p) := ⟨vs, rfl, hsl, h4, hmx⟩
  have X0 : Hid (PBox (w.alloc (.cells (portCells p vs).toArray 46)) w.heap.size p vs) := PBox.new w p _ h4
  have B0 : Hid (Below w.heap.size w (w.alloc (.cells (portCells p vs).toArray 46))) := (Below.refl _ w).alloc (Nat.le_refl _) _
  have HS := fun W h => base_any (.agg (portCells p vs).toArray) p W h hq
  clear hsl hq
  generalize hPC : (portCells p vs).toArray = PC at *
  have HPC : Hid ((portCells p vs).toArray = PC) := hPC
  clear hPC
  go_enter Try.func30, Try.ntmps30
  go_wp2_with (refine wpList_load_box rfl _ rfl w.heap.size p vs rfl X0.out ?_; rw [HPC.out])
  refine (HS _ (HV.out.below B0.out)).mono ?_
  rintro e w1 ⟨⟨v1, b1, rfl, hb, _⟩, hw1⟩
  have S1 : Hid (Below w.heap.size w w1) := B0.out.trans (hw1.mono B0.out.size)
  have HB : Hid (BaseIs p w1 v1 b1) := hb
  clear hw1 hb HS X0 B0
  go_wp2_with fail
  go_ret
  refine ⟨⟨b1, rfl, ?_⟩, S1.out⟩
  rcases HB.out with ⟨e, h, _⟩ | ⟨e, h, _⟩
  · rw [e]; exact ⟨fun _ => h, fun _ => rfl⟩
  · rw [e]; exact ⟨fun x => (by cases x), fun x => absurd x h⟩

end Go.Proofs.Ytghhegajbehpeaa
