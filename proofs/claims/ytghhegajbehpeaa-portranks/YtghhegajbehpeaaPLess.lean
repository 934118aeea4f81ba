/- A profile without what is taken from now on: less of package port. -/
import Derived.Test.YtghhegajbehpeaaPApp
import Derived.Test.YtghhegajbehpeaaShift3
set_option linter.unusedSimpArgs false
set_option linter.unusedVariables false
namespace Go.Proofs.Ytghhegajbehpeaa
open Go.RowKit

/-- what is taken at a time, from now on -/
def tkAt (now : Int) (k : Kp) (t : Int) : Int := if (k.fr ≤ t ∧ now ≤ t) ∧ t < k.to then k.wd else 0
def tksAt (now : Int) (l : List Kp) (t : Int) : Int := (l.map fun k => tkAt now k t).foldr (· + ·) 0

theorem tksAt_append (now : Int) (a b : List Kp) (t : Int) : tksAt now (a ++ b) t = tksAt now a t + tksAt now b t := by
  unfold tksAt
  induction a with
  | nil => simp
  | cons x r ih => simp only [List.cons_append, List.map_cons, List.foldr_cons, ih]; omega
theorem tksAt_one (now : Int) (k : Kp) (t : Int) : tksAt now [k] t = tkAt now k t := by simp [tksAt]
theorem tksAt_nonneg (now : Int) (l : List Kp) (t : Int) (h : ∀ k ∈ l, 0 ≤ k.wd) : 0 ≤ tksAt now l t := by
  unfold tksAt
  induction l with
  | nil => simp
  | cons x r ih =>
    have h1 := ih fun k hk => h k (List.mem_cons_of_mem _ hk)
    have h2 : 0 ≤ tkAt now x t := by unfold tkAt; have := h x List.mem_cons_self; split <;> omega
    simp only [List.map_cons, List.foldr_cons]; omega

/-- the ending hands back a value and a yes or no -/
def RetVB (e : Ending) (P : Value → Bool → Prop) : Prop := ∃ v ok, e = .returned (.tuple #[v, .bool ok]) ∧ P v ok

/-- what may be taken -/
def TkOk (k : Kp) : Prop := (0 ≤ k.wd ∧ k.wd ≤ 16) ∧ k.fr ≤ k.to ∧ k.to ≤ 300

/-- what is left, or that it is not enough -/
def LessIs (l : List (Int × Int)) (now : Int) (tk : List Kp) (w' : World) (v' : Value) (ok : Bool) : Prop :=
  (ok = true ∧ ∃ r, Sl w' v' r ∧ Good r ∧ ∀ t, 0 ≤ t → t < 300 → val r t = val l t - tksAt now tk t) ∨ (ok = false ∧ v' = .slice none 0 0 ∧ ∃ t, 0 ≤ t ∧ t < 300 ∧ val l t - tksAt now tk t < 0)

/-- one more is taken, or cannot be -/
theorem less_step {l r : List (Int × Int)} {now : Int} {tk : List Kp} {j : Nat} {k : Kp} {a b : Int} {w' : World} {v' : Value} {ok : Bool} (hk : tk[j]? = some k) (hT : ∀ k ∈ tk, TkOk k) (h0 : 0 ≤ now) (hn : now ≤ 300) (G : Good r) (hr : ∀ t, 0 ≤ t → t < 300 → val r t = val l t - tksAt now (tk.take j) t)
    (ha : (k.fr ≤ now ∧ a = now) ∨ (now < k.fr ∧ a = k.fr)) (hb : (k.to ≤ now ∧ b = now) ∨ (now < k.to ∧ b = k.to)) (h : TakeAns r a b k.wd (-k.wd) w' v' ok) :
    (ok = true ∧ ∃ r', Sl w' v' r' ∧ Good r' ∧ ∀ t, 0 ≤ t → t < 300 → val r' t = val l t - tksAt now (tk.take (j + 1)) t) ∨ (ok = false ∧ ∃ t, 0 ≤ t ∧ t < 300 ∧ val l t - tksAt now tk t < 0) := by
  obtain ⟨⟨k1, k2⟩, k3, k4⟩ := hT k (List.mem_of_getElem? hk)
  have hj : (tk.take (j + 1)) = tk.take j ++ [k] := by rw [List.take_add_one, hk]; rfl
  have e : ∀ t, (if a ≤ t ∧ t < b then k.wd else 0) = tkAt now k t := fun t => by
    unfold tkAt
    by_cases c : a ≤ t ∧ t < b
    · rw [if_pos c, if_pos (by omega)]
    · rw [if_neg c, if_neg (by omega)]
  rcases take_good G ⟨k1, k2⟩ (by omega) (by omega) (by omega) h with ⟨e1, r', h1, h2, h3, _⟩ | ⟨e1, h1, h2⟩
  · refine Or.inl ⟨e1, r', h1, h2, fun t ta tb => ?_⟩
    rw [h3 t ta tb, hr t ta tb, e t, hj, tksAt_append, tksAt_one]; omega
  · refine Or.inr ⟨e1, ?_⟩
    obtain ⟨s, hs⟩ := Classical.not_forall.1 h2
    have hs1 : a ≤ s := Classical.byContradiction fun x => hs fun y => absurd y x
    have hs2 : s < b := Classical.byContradiction fun x => hs fun _ y => absurd y x
    have hs3 : val r s < k.wd := Classical.byContradiction fun x => hs fun _ _ => by omega
    have s0 : 0 ≤ s := by omega
    have s3 : s < 300 := by omega
    refine ⟨s, s0, s3, ?_⟩
    rw [hr s s0 s3] at hs3
    have hd : tk = tk.take (j + 1) ++ tk.drop (j + 1) := (List.take_append_drop _ _).symm
    rw [hd, tksAt_append, hj, tksAt_append, tksAt_one, ← e s, if_pos ⟨hs1, hs2⟩]
    have := tksAt_nonneg now (tk.drop (j + 1)) s fun k hk => (hT k (List.mem_of_mem_drop hk)).1.1
    omega


set_option maxHeartbeats 4000000 in
set_option maxRecDepth 100000 in
theorem less_any (v : Value) (l : List (Int × Int)) (now : Int) (vt : Value) (tk : List Kp) (w : World) (hs : Sl w v l) (G : Good l) (h0 : 0 ≤ now) (hn : now ≤ 300) (hv : SlK cKp w vt tk) (hT : ∀ k ∈ tk, TkOk k) (hl : tk.length ≤ 1000) (B : Nat) (hF : Far B v) (hB : B ≤ w.heap.size) :
    Calls Try.prog 66 #[v, .int .i64 now, vt] w fun e w' => RetVB e (fun v' ok => LessIs l now tk w' v' ok ∧ (ok = true → Far B v')) ∧ Below w.heap.size w w' := by
  obtain ⟨a, cap, rfl, hcap, hrd⟩ := hv
  have HR : Hid (tk = [] ∨ ∃ b off, a = some ⟨b, off, none⟩ ∧ RdK cKp w b off tk) := hrd
  have HT : Hid (∀ k ∈ tk, TkOk k) := hT
  have HI : Hid ((Below w.heap.size w w ∧ Far B v) ∧ ∃ r, Sl w v r ∧ Good r ∧ ∀ t, 0 ≤ t → t < 300 → val r t = val l t - tksAt now (tk.take 0) t) := ⟨⟨Below.refl _ _, hF⟩, l, hs, G, fun t _ _ => by simp [tksAt]⟩
  clear hrd hT hs G hF
  go_enter Try.func66, Try.ntmps66
  go_wp2_with fail
  go_loopg [0, 14] tk.length (fun kx s0 s14 wr => ∃ (j : Nat), s14 = .int .i64 j ∧ j ≤ tk.length ∧ tk.length - j ≤ kx ∧ Hid ((Below w.heap.size w wr ∧ Far B s0) ∧ ∃ r, Sl wr s0 r ∧ Good r ∧ ∀ t, 0 ≤ t → t < 300 → val r t = val l t - tksAt now (tk.take j) t))
  case atStart => exact ⟨0, rfl, Nat.zero_le _, by omega, HI⟩
  case round =>
    clear HI
    obtain ⟨j, rfl, hj, hg, I⟩ := hrel
    by_cases hjl : j < tk.length
    · obtain ⟨kk, hkk⟩ : ∃ k, tk[j]? = some k := ⟨tk[j], List.getElem?_eq_getElem hjl⟩
      obtain ⟨bb, off, rfl, hrd⟩ : ∃ b off, a = some ⟨b, off, none⟩ ∧ RdK cKp w b off tk := by
        rcases HR.out with h | h
        · rw [h] at hjl; simp at hjl
        · exact h
      obtain ⟨⟨S1, _⟩, r, hr1, hr2, hr3⟩ := I.out
      obtain ⟨c0, c1, c2⟩ := (hrd.below S1).kp hkk
      obtain ⟨kw, kf, kt⟩ := kk
      simp only at c0 c1 c2
      have HK : Hid (tk[j]? = some ⟨kw, kf, kt⟩) := hkk
      have hj3 : (j : Int) < (tk.length : Int) := by omega
      have hbw : Below wr.heap.size wr (wr.alloc (.cells #[.int .i64 kw, .int .i64 kf, .int .i64 kt] 43)) := (Below.refl _ wr).alloc (Nat.le_refl _) _
      have S4 : Hid (Below w.heap.size w (wr.alloc (.cells #[.int .i64 kw, .int .i64 kf, .int .i64 kt] 43))) := S1.trans (hbw.mono S1.size)
      have N4 : Hid ((wr.alloc (.cells #[.int .i64 kw, .int .i64 kf, .int .i64 kt] 43)).heap[wr.heap.size]? = some (.cells #[.int .i64 kw, .int .i64 kf, .int .i64 kt] 43)) := heap_alloc_new wr _
      have R4 : Hid (Sl (wr.alloc (.cells #[.int .i64 kw, .int .i64 kf, .int .i64 kt] 43)) u0 r) := hr1.below hbw
      have R2 : Hid (Good r ∧ ∀ t, 0 ≤ t → t < 300 → val r t = val l t - tksAt now (tk.take j) t) := ⟨hr2, hr3⟩
      clear hkk hrd hbw S1 hr1 hr2 hr3 I
      go_upto_region 4 with fail
      clear c0 c1 c2
      generalize wr.alloc (.cells #[.int .i64 kw, .int .i64 kf, .int .i64 kt] 43) = WB at *
      generalize wr.heap.size = gs at *
      have n0 : ∀ i u, (cKp ⟨kw, kf, kt⟩)[i]? = some u → WB.cell? ⟨gs, i, none⟩ = some u := fun i u hu => by rw [cell_of_row _ _ _ _ _ _ N4.out]; simpa [cKp] using hu
      have k0 := n0 0 _ rfl; have k1 := n0 1 _ rfl; have k2 := n0 2 _ rfl
      clear n0 N4
      have OKA : Hid (∀ (x y : Int), (kf ≤ now ∧ x = now) ∨ (now < kf ∧ x = kf) → (kt ≤ now ∧ y = now) ∨ (now < kt ∧ y = kt) → okArgs r x y kw) := fun x y hx hy => by
        obtain ⟨⟨o1, o2⟩, o3, o4⟩ := HT.out _ (List.mem_of_getElem? HK.out)
        simp only at o1 o2 o3 o4
        exact ⟨goodB_iff.2 R2.out.1, by unfold inB; exact decide_eq_true ⟨o1, o2⟩, by omega, by omega, by omega⟩
      have STEP : Hid (∀ (x y : Int) (w5 : World) (v5 : Value) (ok5 : Bool), (kf ≤ now ∧ x = now) ∨ (now < kf ∧ x = kf) → (kt ≤ now ∧ y = now) ∨ (now < kt ∧ y = kt) → TakeAns r x y kw (-kw) w5 v5 ok5 → Far WB.heap.size v5 → Below WB.heap.size WB w5 →
          (Below w.heap.size w w5 ∧ Far B v5) ∧ ((ok5 = true ∧ ∃ r', Sl w5 v5 r' ∧ Good r' ∧ ∀ t, 0 ≤ t → t < 300 → val r' t = val l t - tksAt now (tk.take (j + 1)) t) ∨ (ok5 = false ∧ ∃ t, 0 ≤ t ∧ t < 300 ∧ val l t - tksAt now tk t < 0))) := fun x y w5 v5 ok5 hx hy hT hF hb =>
        ⟨⟨S4.out.trans (hb.mono S4.out.size), hF.mono (by have := S4.out.size; omega)⟩, less_step HK.out HT.out h0 hn R2.out.1 R2.out.2 hx hy hT⟩
      go_wp2_with fail
      all_goals
        refine (take_far _ r _ _ _ _ R4.out (OKA.out _ _ (by omega) (by omega))).mono ?_
        rintro e w5 ⟨v5, ok5, rfl, hT5, hF5, hb5⟩
        have F5 : Hid (_ ∧ _) := STEP.out _ _ w5 v5 ok5 (by omega) (by omega) hT5 hF5 hb5
        clear hT5 hb5 hF5
        cases ok5
        · have F6 : Hid ((Below w.heap.size w w5 ∧ Far B v5) ∧ ∃ t, 0 ≤ t ∧ t < 300 ∧ val l t - tksAt now tk t < 0) := by
            obtain ⟨x1, x2⟩ := F5.out
            rcases x2 with ⟨x2, _⟩ | ⟨_, x2⟩
            · cases x2
            · exact ⟨x1, x2⟩
          clear F5
          go_wp2_with fail
          go_ret2
          exact ⟨⟨_, _, rfl, Or.inr ⟨rfl, rfl, F6.out.2⟩, fun h => (by cases h)⟩, F6.out.1.1⟩
        · have F6 : Hid ((Below w.heap.size w w5 ∧ Far B v5) ∧ ∃ r', Sl w5 v5 r' ∧ Good r' ∧ ∀ t, 0 ≤ t → t < 300 → val r' t = val l t - tksAt now (tk.take (j + 1)) t) := by
            obtain ⟨x1, x2⟩ := F5.out
            rcases x2 with ⟨_, x2⟩ | ⟨x2, _⟩
            · exact ⟨x1, x2⟩
            · cases x2
          clear F5
          go_wp2_with fail
          go_roundg (tk.length - (j + 1))
          case measure => omega
          case rel => exact ⟨j + 1, by go_num, by omega, Nat.le_refl _, F6⟩
    · have hje : j = tk.length := by omega
      have I4 : Hid ((Below w.heap.size w wr ∧ Far B u0) ∧ ∃ r, Sl wr u0 r ∧ Good r ∧ ∀ t, 0 ≤ t → t < 300 → val r t = val l t - tksAt now tk t) := by have h := I.out; rw [hje, List.take_length] at h; exact h
      clear hje I
      have hj3 : ¬ ((j : Int) < (tk.length : Int)) := by omega
      go_wp2
      go_ret2
      exact ⟨⟨_, _, rfl, Or.inl ⟨rfl, I4.out.2⟩, fun _ => I4.out.1.2⟩, I4.out.1.1⟩

end Go.Proofs.Ytghhegajbehpeaa
