/- Texts of this claim, in one: TMemoryW. -/
import Derived.Test.YtcmdoeledmkfmacGreatDoorXTPlayM
import Derived.Test.YtcmdoeledmkfmacGreatDoorXTBase
set_option linter.unusedSimpArgs false
set_option linter.unusedVariables false
namespace Go.Proofs.YtcmdoeledmkfmacGreatDoor
open Go.RowKit
theorem neqRep_same (x y : Int) (w : World) : (binOp .neq 29 (.agg #[.int .i64 x, .int .i64 y]) (.agg #[.int .i64 x, .int .i64 y])).run Tryz.prog w = .ok (.bool false) w := by
  have u3 := Tryz.underlying3
  have a3 := Tryz.isAgg3
  have z3 := Tryz.sizeOf3
  have u4 := Tryz.underlying25
  have a4 := Tryz.isAgg25
  have z4 := Tryz.sizeOf25
  have hS : Tryz.prog.underlying 29 = some (.struct (Tryz.prog.fieldsOf 29)) := by kernel_rfl
  have hp : Tryz.prog.stoodInHeld 29 = false := by kernel_rfl
  rw [run_neq_struct, show (10000 : Nat) = 9999 + 1 from rfl, run_equalIn_agg w 9999 29 _ _ hS hp]
  simp only [Program.fieldsOf, Tryz.underlying29]
  go_simp
theorem wpList_store_shipz {w : World} {ops : Array Oper} {rest : List Oper} {o : Oper} {a : Act} {Q : Exit → Act → World → Prop} (hgd : o.guard = none) (x y : Operand) (ho : o.op = .store 46 x y) (b off : Nat)
    (hx : a.eval x = .pointer (some ⟨b, off, none⟩)) (hy : a.eval y = .agg #[.int .i64 0, .int .i64 0, .int .i64 0, .int .i64 0, .int .i64 0, .int .i64 0]) (ht : w.there b off 6)
    (h : wpList Tryz.prog ops Q rest (a.put o.dst undef) (w.setCells b off [.int .i64 0, .int .i64 0, .int .i64 0, .int .i64 0, .int .i64 0, .int .i64 0])) : wpList Tryz.prog ops Q (o :: rest) a w :=
  wpList_store_mid hgd 46 x y ho b off #[.int .i64 0, .int .i64 0, .int .i64 0, .int .i64 0, .int .i64 0, .int .i64 0] hx hy ht (show (Tryz.prog.info? 46).map (·.size) = some 6 by kernel_rfl) (by simp [Value.oneCell']) h
def VarP (W : World) (gm o : Nat) : Prop := W.heap[gm]? = some (.cells #[.pointer (some ⟨o, 0, none⟩)] 31 (0, 0))
theorem VarP.lt {W : World} {gm o : Nat} (h : VarP W gm o) : gm < W.heap.size := (Array.getElem?_eq_some_iff.1 h).1
theorem VarP.later {W W' : World} {gm o : Nat} (h : VarP W gm o) (hb : Below W.heap.size W W') : VarP W' gm o := by unfold VarP; rw [hb.block gm h.lt]; exact h
theorem VarP.fr {W W' : World} {gm o d : Nat} (h : VarP W gm o) (hf : Fr d W W') (hne : gm ≠ d) : VarP W' gm o := by unfold VarP; rw [hf.rest gm hne h.lt]; exact h
theorem VarP.cell {W : World} {gm o : Nat} (h : VarP W gm o) : W.cell? ⟨gm, 0, none⟩ = some (.pointer (some ⟨o, 0, none⟩)) := cell_of_row _ _ _ _ _ _ h
def OwnA (B sz : Nat) (a : Option Addr) (n : Nat) (W : World) : Prop := n = 0 ∨ ∃ b, a = some ⟨b, 0, none⟩ ∧ B ≤ b ∧ b < W.heap.size ∧ W.there b 0 (n * sz)
theorem ownA_of {α : Type} {t : TypeId} {k B : Nat} {c : α → List Value} {w : World} {v : Value} {l : List α} (h : w.ownsRow B t k v l.length (cellsK c l)) : ∃ a cap, v = .slice a l.length cap ∧ OwnA B k a l.length w := by
  by_cases hv : v = .slice none 0 0
  · subst hv
    rcases h.2 with ⟨_, h0⟩ | ⟨g, cap, cur, h0, _⟩
    · exact ⟨none, 0, by rw [h0], Or.inl h0⟩
    · cases h0
  · obtain ⟨g, cap, rfl, ho⟩ := OwnK.ofRow h hv
    refine ⟨_, cap, rfl, Or.inr ⟨g, rfl, ho.base, ho.lt, fun j hj => ⟨?_, ?_⟩⟩⟩
    · obtain ⟨cur, hg, hs, _⟩ := ho.row
      rw [cell_of_row _ _ _ _ _ _ hg, Nat.zero_add]
      have hle := Nat.mul_le_mul_right k ho.le
      rw [Array.getElem?_eq_getElem (by omega)]
      rfl
    · exact ho.frozen _
theorem OwnA.later {B sz : Nat} {a : Option Addr} {n : Nat} {W W' : World} (h : OwnA B sz a n W) (hb : Below W.heap.size W W') : OwnA B sz a n W' := by
  rcases h with h | ⟨b, h1, h2, h3, h4⟩
  · exact Or.inl h
  · refine Or.inr ⟨b, h1, h2, Nat.lt_of_lt_of_le h3 hb.size, fun j hj => ?_⟩
    have := h4 j hj
    rw [cell_same (hb.block b h3)]
    refine ⟨this.1, ?_⟩
    have e : W'.frozen? ⟨b, 0 + j, none⟩ = W.frozen? ⟨b, 0 + j, none⟩ := by simp only [World.frozen?, hb.block b h3]
    rw [e]; exact this.2
theorem OwnA.written {B sz : Nat} {a : Option Addr} {n : Nat} {W : World} (h : OwnA B sz a n W) (g o : Nat) (vs : List Value) : OwnA B sz a n (W.setCells g o vs) := by
  rcases h with h | ⟨b, h1, h2, h3, h4⟩
  · exact Or.inl h
  · exact Or.inr ⟨b, h1, h2, Nat.lt_of_lt_of_le h3 (fr_setCells (d := g) vs o W).size, World.there_setCells h4 g o vs⟩
set_option maxHeartbeats 4000000 in
set_option maxRecDepth 100000 in
theorem lookMem_any (d o gm : Nat) (D0 D : Dk) (s : List UInt8) (er n : Int) (w : World) (hd : DS w d D) (ho : DS w o D0) (hne : d ≠ o) (hl : LineIs D0 s D er n) (hv : VarP w gm o) (hs : s.length ≤ 9223372036854775807) :
    Calls Tryz.prog 12 #[.pointer (some ⟨d, 0, none⟩), txt s, .agg #[.int .i64 er, .int .i64 n], .pointer (some ⟨gm, 0, none⟩)] w fun e w' => e = .returned (.bool true) ∧ DS w' d D ∧ DS w' o D ∧ Fr o w w' := by
  have h4 := hd.ok.port.port.four
  have hln := hd.ok.port.port.len
  have hgo : gm ≠ o := by
    obtain ⟨_, _, _, _, hM⟩ := ho.dsk
    exact ne_typed hv hM.box.box (by decide)
  have HT := fun D W h => tell_ds o D s W h hs
  have HP := fun W h1 h2 => deskPort_any d D W h1 h2
  have HL := fun W h1 h2 => deskPlan_any d D W h1 h2
  have HS := fun W h1 h2 => same_any d o D D W h1 h2
  have E0 : Hid (DS (w.alloc (.cells #[.int .i64 er, .int .i64 n] 29)) d D ∧ DS (w.alloc (.cells #[.int .i64 er, .int .i64 n] 29)) o D0 ∧ VarP (w.alloc (.cells #[.int .i64 er, .int .i64 n] 29)) gm o ∧ RB (w.alloc (.cells #[.int .i64 er, .int .i64 n] 29)) w.heap.size er n ∧ Fr o w (w.alloc (.cells #[.int .i64 er, .int .i64 n] 29))) := by
    have hb : Below w.heap.size w (w.alloc (.cells #[.int .i64 er, .int .i64 n] 29)) := (Below.refl _ w).alloc (Nat.le_refl _) _
    exact ⟨hd.later hb, ho.later hb, hv.later hb, heap_alloc_new w _, Fr.of hb (Nat.le_of_lt ho.lt)⟩
  have HLI : Hid (LineIs D0 s D er n ∧ DOk D0) := ⟨hl, ho.ok⟩
  unfold txt at *
  clear hd ho hv hl
  go_enter Tryz.func12, Tryz.ntmps12
  go_upto_region 1 with fail
  generalize hWA : w.alloc (.cells #[.int .i64 er, .int .i64 n] 29) = WA at *
  clear hWA
  have ED : Hid (DS WA.drew d D ∧ DS WA.drew o D0 ∧ Fr o w WA.drew) := ⟨E0.out.1.later (Below.refl _ _).drew, E0.out.2.1.later (Below.refl _ _).drew, E0.out.2.2.2.2.trans (Fr.drew _)⟩
  generalize hg6 : w.heap.size = g6 at *
  refine wp_region_held_drew (S := fun W => Hid (VarP W gm o ∧ RB W g6 er n)) (by kernel_rfl) ⟨E0.out.2.2.1.later (Below.refl _ _).drew, E0.out.2.2.2.1.later (Below.refl _ _).drew⟩ (fun hHeld => ?_)
  refine wpAnyH_take (i := 0) (oi := { dst := some 12, op := Go.Op.load 31 (Go.Operand.tmp 3), type := 31, pos := "top.go:254", after := #[], guard := none }) (v := .pointer (some ⟨o, 0, none⟩)) rfl (by kernel_rfl) (by kernel_rfl) (by kernel_rfl) (fun _ _ _ h => h) (Or.inl ⟨by rfl, by intro w hSw; have hc := hSw.out.1.cell; go_simp⟩) hHeld ?_
  simp only [Act.put, List.setIfInBounds_toArray, List.set_cons_zero, List.set_cons_succ]
  refine wpAnyH_take (i := 1) (oi := { dst := some 13, op := Go.Op.move (Go.Operand.tmp 1), type := 9, pos := "top.go:254", after := #[], guard := none }) (v := ?_) rfl (by kernel_rfl) (by kernel_rfl) (by kernel_rfl) (fun _ _ _ h => h) (Or.inl ⟨by rfl, ?_⟩) hHeld ?_
  rotate_left
  · (intro w hSw; first | (go_simp; done) | (go_simp; with_reducible rfl))
  simp only [Act.put, List.setIfInBounds_toArray, List.set_cons_zero, List.set_cons_succ]
  refine wpAnyH_take (i := 3) (oi := { dst := some 15, op := Go.Op.load 29 (Go.Operand.tmp 6), type := 29, pos := "top.go:254", after := #[], guard := none }) (v := .agg #[.int .i64 er, .int .i64 n]) rfl (by kernel_rfl) (by kernel_rfl) (by kernel_rfl) (fun _ _ _ h => h) (yieldsIf_load_mid (by rfl) 29 (.tmp 6) rfl g6 0 rfl [.int .i64 er, .int .i64 n] _ (fun W hW => hW.out.2.whole) Tryz.underlying29 rfl (by rw [sizeRep]; rfl)) hHeld ?_
  simp only [Act.put, List.setIfInBounds_toArray, List.set_cons_zero, List.set_cons_succ]
  refine wpAnyH_ready (rs := [2]) (by kernel_rfl) (by simp) ?_
  refine AllReadyH.cons rfl (fun K hK => ?_) AllReadyH.nil
  go_simp
  refine (HT D0 _ ED.out.2.1).mono ?_
  rintro e w1 ⟨er', n', rfl, h1⟩
  obtain ⟨D1, j1, j2, j3⟩ := h1.out
  obtain ⟨rfl, rfl, rfl⟩ := lineIs_unique HLI.out.2 j1 HLI.out.1
  have hog : g6 ≠ o := by
    obtain ⟨_, _, _, _, hM⟩ := ED.out.2.1.dsk
    exact ne_typed hHeld.out.2 hM.box.box (by decide)
  have E1 : Hid (DS w1 d D1 ∧ DS w1 o D1 ∧ Fr o w w1 ∧ VarP w1 gm o) := ⟨ED.out.1.other ED.out.2.1 j3 hne, j2, ED.out.2.2.trans j3, hHeld.out.1.fr j3 hgo⟩
  have H1 : Hid (VarP w1 gm o ∧ RB w1 g6 er' n') := ⟨hHeld.out.1.fr j3 hgo, hHeld.out.2.fr j3 hog⟩
  clear h1 j1 j2 j3 ED HT hHeld HLI E0
  go_wp2_with fail
  refine hK.out _ _ H1 (fun hHeld => ?_)
  clear hK K
  have hq := neqRep_same er' n'
  refine wpAnyH_take (i := 4) (oi := { dst := some 16, op := Go.Op.binOp Go.BinOp.neq 29 (Go.Operand.tmp 14) (Go.Operand.tmp 15) 29, type := 4, pos := "top.go:254", after := #[{ on := 2, ground := Go.Ground.data }, { on := 3, ground := Go.Ground.data }], guard := none }) (v := ?_) rfl (by kernel_rfl) (by kernel_rfl) (by kernel_rfl) (fun _ _ _ h => h) (Or.inl ⟨by rfl, ?_⟩) hHeld ?_
  rotate_left
  · (intro w hSw; first | (go_simp; done) | (go_simp; with_reducible rfl))
  simp only [Act.put, List.setIfInBounds_toArray, List.set_cons_zero, List.set_cons_succ]
  refine wpAnyH_done (by kernel_rfl) ?_ _
  clear hHeld H1 hq
  go_wp2_with fail
  refine (HP _ E1.out.1.dsk E1.out.1.ok).mono ?_
  rintro e w2 ⟨v2, rfl, h2⟩
  obtain ⟨va, vc, hv2, OA⟩ := ownA_of h2.out.1
  subst hv2
  have E2 : Hid (Below w1.heap.size w1 w2 ∧ OwnA w1.heap.size 6 va D1.p.ships.length w2) := ⟨h2.out.2, OA⟩
  clear h2 HP OA
  generalize hPC : (portCells D1.p (.slice va D1.p.ships.length vc)).toArray = PC at *
  have HPC : Hid ((portCells D1.p (.slice va D1.p.ships.length vc)).toArray = PC) := hPC
  clear hPC
  go_wp2_with fail
  refine (HL _ (E1.out.1.later E2.out.1).dsk E1.out.1.ok).mono ?_
  rintro e w3 ⟨v3, rfl, h3⟩
  obtain ⟨pl, k1, k2, k3⟩ := h3.out
  obtain ⟨pa, pc, hv3, OB⟩ := ownA_of k2
  subst hv3
  have hpl : Hid (pl.length = D1.p.ships.length) := k1.len
  have E3 : Hid (Below w1.heap.size w1 w3 ∧ OwnA w1.heap.size 6 va D1.p.ships.length w3 ∧ OwnA w1.heap.size 1 pa pl.length w3) := ⟨E2.out.1.trans (k3.mono E2.out.1.size), E2.out.2.later k3, by
    rcases OB with h | ⟨b, h1, h2, h3⟩
    · exact Or.inl h
    · exact Or.inr ⟨b, h1, Nat.le_trans E2.out.1.size h2, h3⟩⟩
  clear h3 k1 k2 k3 HL OB E2
  go_upto_region 4 with (first | (refine wpList_alloc_box rfl rfl 8 rfl ?_; intro w4 h4' s4) | (refine wpList_store_box rfl _ _ rfl w3.heap.size zeroPt D1.p (.slice none 0 0) (.slice va D1.p.ships.length vc) rfl (by rw [← HPC.out]; rfl) h4'.out.1 h4 rfl ?_; intro w5 h5 s5))
  have E5 : Hid (Below w1.heap.size w1 w5 ∧ OwnA w1.heap.size 6 va D1.p.ships.length w5 ∧ OwnA w1.heap.size 1 pa pl.length w5 ∧ PBox w5 w3.heap.size D1.p (.slice va D1.p.ships.length vc)) := by
    have hb : Below w3.heap.size w3 w5 := h4'.out.2.trans (h5.out.2.2 _ (Nat.le_refl _))
    exact ⟨E3.out.1.trans (hb.mono E3.out.1.size), E3.out.2.1.later hb, E3.out.2.2.later hb, h5.out.1⟩
  have HB8 : Hid (∀ b, va = some ⟨b, 0, none⟩ → 0 < D1.p.ships.length → b ≠ w3.heap.size) := fun b hb h0 => by
    rcases E3.out.2.1 with h | ⟨b', h1, h2, h3, _⟩
    · omega
    · rw [h1] at hb
      injection hb with hb
      injection hb with hb
      omega
  clear h4' h5 s4 s5 E3 HPC
  generalize w3.heap.size = g8 at *
  have pc1 := E5.out.2.2.2.cells.2.1
  have h14 : pl.length ≤ 14 := by have := hpl.out; omega
  go_wp2_with fail
  clear pc1
  go_loopg [10, 24] D1.p.ships.length (fun kx s10 s24 wr => ∃ (k : Nat), s24 = .int .i64 k ∧ k ≤ D1.p.ships.length ∧ D1.p.ships.length - k ≤ kx ∧ Hid (Below w1.heap.size w1 wr ∧ OwnA w1.heap.size 6 va D1.p.ships.length wr ∧ OwnA w1.heap.size 1 pa pl.length wr ∧ PBox wr g8 D1.p (.slice va D1.p.ships.length vc)))
  case atStart => exact ⟨0, rfl, Nat.zero_le _, by omega, E5⟩
  case round =>
    clear E5
    obtain ⟨k, rfl, hk, hg, I⟩ := hrel
    by_cases hlt : k < D1.p.ships.length
    · have hki : (k : Int) < (D1.p.ships.length : Int) := by omega
      obtain ⟨b, rfl, hb1, hb2, hb3⟩ : ∃ b, va = some ⟨b, 0, none⟩ ∧ w1.heap.size ≤ b ∧ b < wr.heap.size ∧ wr.there b 0 (D1.p.ships.length * 6) := by
        rcases I.out.2.1 with h | h
        · omega
        · exact h
      have hb8 := HB8.out b rfl (by omega)
      have HTH : Hid (wr.there b (k * 6) 6) := fun j hj => by
        have := hb3 (k * 6 + j) (by omega)
        rw [Nat.zero_add] at this
        exact this
      have pc1 := I.out.2.2.2.cells.2.1
      have I2 : Hid (Below w1.heap.size w1 (wr.setCells b (k * 6) [.int .i64 0, .int .i64 0, .int .i64 0, .int .i64 0, .int .i64 0, .int .i64 0]) ∧ OwnA w1.heap.size 6 (some ⟨b, 0, none⟩) D1.p.ships.length (wr.setCells b (k * 6) [.int .i64 0, .int .i64 0, .int .i64 0, .int .i64 0, .int .i64 0, .int .i64 0]) ∧ OwnA w1.heap.size 1 pa pl.length (wr.setCells b (k * 6) [.int .i64 0, .int .i64 0, .int .i64 0, .int .i64 0, .int .i64 0, .int .i64 0]) ∧ PBox (wr.setCells b (k * 6) [.int .i64 0, .int .i64 0, .int .i64 0, .int .i64 0, .int .i64 0, .int .i64 0]) g8 D1.p (.slice (some ⟨b, 0, none⟩) D1.p.ships.length vc)) := by
        have F := fr_setCells (d := b) [.int .i64 0, .int .i64 0, .int .i64 0, .int .i64 0, .int .i64 0, .int .i64 0] (k * 6) wr
        exact ⟨I.out.1.trans (F.below.mono hb1), I.out.2.1.written _ _ _, I.out.2.2.1.written _ _ _, I.out.2.2.2.told F (fun e => hb8 e.symm)⟩
      clear hb3 I
      go_wp2_with (refine wpList_store_shipz rfl (.tmp 31) (.tmp 30) rfl b (k * 6) ?hx ?hy ?ht ?h; (case ht => exact HTH.out); (case hx => rfl); (case hy => rfl))
      go_roundg (D1.p.ships.length - (k + 1))
      case measure => omega
      case rel => exact ⟨k + 1, by go_num, by omega, Nat.le_refl _, I2⟩
    · have hki : ¬ ((k : Int) < (D1.p.ships.length : Int)) := by omega
      have E6 : Hid (Below w1.heap.size w1 wr ∧ OwnA w1.heap.size 1 pa pl.length wr) := ⟨I.out.1, I.out.2.2.1⟩
      clear I
      go_wp2_with fail
      go_loopg [11, 35] pl.length (fun kx s11 s35 wr => ∃ (k : Nat), s35 = .int .i64 k ∧ k ≤ pl.length ∧ pl.length - k ≤ kx ∧ Hid (Below w1.heap.size w1 wr ∧ OwnA w1.heap.size 1 pa pl.length wr))
      case atStart => exact ⟨0, rfl, Nat.zero_le _, by omega, E6⟩
      case round =>
        clear E6 hki hk hg
        obtain ⟨k, rfl, hk, hg, I⟩ := hrel
        by_cases hlt : k < pl.length
        · have hki : (k : Int) < (pl.length : Int) := by omega
          obtain ⟨b, rfl, hb1, hb2, hb3⟩ : ∃ b, pa = some ⟨b, 0, none⟩ ∧ w1.heap.size ≤ b ∧ b < wr.heap.size ∧ wr.there b 0 (pl.length * 1) := by
            rcases I.out.2 with h | h
            · omega
            · exact h
          have hth := hb3 k (by omega)
          rw [Nat.zero_add] at hth
          obtain ⟨old, q1⟩ := Option.isSome_iff_exists.1 hth.1
          have q2 := hth.2
          have I2 : Hid (Below w1.heap.size w1 (wr.setCell ⟨b, k, none⟩ (.int .i64 (-9))) ∧ OwnA w1.heap.size 1 (some ⟨b, 0, none⟩) pl.length (wr.setCell ⟨b, k, none⟩ (.int .i64 (-9)))) := ⟨I.out.1.setCell hb1 _, I.out.2.written b k [.int .i64 (-9)]⟩
          clear hb3 I hth
          go_wp2_with fail
          go_roundg (pl.length - (k + 1))
          case measure => omega
          case rel => exact ⟨k + 1, by go_num, by omega, Nat.le_refl _, I2⟩
        · have hki : ¬ ((k : Int) < (pl.length : Int)) := by omega
          have q1 := (E1.out.2.2.2.later I.out.1).cell
          go_wp2_with fail
          refine (HS _ (E1.out.1.later I.out.1) (E1.out.2.1.later I.out.1)).mono ?_
          rintro e wz ⟨⟨bb, rfl, hbb⟩, hbz⟩
          obtain rfl : bb = true := hbb.2 (by first | trivial | rfl)
          have EZ : Hid (DS wz d D1 ∧ DS wz o D1 ∧ Fr o w wz) := ⟨(E1.out.1.later I.out.1).later hbz, (E1.out.2.1.later I.out.1).later hbz, E1.out.2.2.1.trans (Fr.of (I.out.1.trans (hbz.mono I.out.1.size)) (Nat.le_of_lt E1.out.2.1.lt))⟩
          clear hbb hbz I E1 HS q1
          go_wp2_with fail
          go_ret
          exact ⟨rfl, EZ.out⟩
theorem DS.box {w : World} {d : Nat} {D : Dk} (h : DS w d D) : ∃ c f, w.heap[d]? = some (Obj.cells c 59 f) := by
  obtain ⟨_, _, _, _, hM⟩ := h.dsk
  exact ⟨_, _, hM.box.box⟩
structure MmS (B : Nat) (w0 : World) (o gm d : Nat) (D0 D : Dk) (W : World) : Prop where
  ds : DS W d D
  other : DS W o D0
  new : w0.heap.size ≤ d
  below : Below B w0 W
  var : VarP W gm o
theorem playMem_any (v : Value) (l : List (List UInt8)) (w : World) (B o gm : Nat) (hL : LW w) (hB : B ≤ o) (ho : o < w.heap.size) (hg : gm < w.heap.size) (hsl : ∀ W, Below B w W → SlK cStr W v l) (hln : ∀ y ∈ l, y.length ≤ 9223372036854775807) (hll : l.length ≤ 8796093022208) (hd : DS w o newDk) (hv : VarP w gm o) :
    Calls Tryz.prog 11 #[v, .func (.func 12) #[] #[.pointer (some ⟨gm, 0, none⟩)]] w fun e w' => ∃ d, e = .returned (.tuple #[.pointer (some ⟨d, 0, none⟩), .bool true]) ∧ Hid (Below B w w') := by
  refine (playM_any (.pointer (some ⟨gm, 0, none⟩)) v l w B hL (by omega) hsl hln hll
    (fun W d D k => MmS B w o gm d D D W) (fun W d D k er n => ∃ D0 s, l[k]? = some s ∧ LineIs D0 s D er n ∧ MmS B w o gm d D0 D W)
    (fun W d h1 h2 h3 => ⟨h3, hd.later h1, h2, h1.mono (by omega), hv.later h1⟩)
    (fun W d D k h => ⟨h.ds, by have := h.new; omega, h.below⟩)
    (fun W W' d D D' k s er n h hk _ hl hds hf => ⟨D, s, hk, hl, ⟨hds, h.other.other h.ds hf (by have := h.new; omega), h.new, h.below.trans (hf.below.mono (by have := h.new; omega)), h.var.fr hf (by have := h.new; omega)⟩⟩)
    (fun W d D k er n h => by obtain ⟨_, _, _, _, h⟩ := h; exact ⟨h.ds, by have := h.new; omega, h.below⟩)
    (fun W W' d D k er n h hb => by
      obtain ⟨D0, s, h1, h2, h⟩ := h
      exact ⟨D0, s, h1, h2, ⟨h.ds.later hb, h.other.later hb, h.new, h.below.trans (hb.mono h.below.size |>.mono (Nat.le_refl _) |> fun x => x.mono (by have := h.below.size; omega)), h.var.later hb⟩⟩)
    (fun W d D k s er n h hk _ => by
      obtain ⟨D0, s', h1, h2, h⟩ := h
      rw [hk] at h1
      injection h1 with h1
      subst h1
      refine (lookMem_any d o gm D0 D s er n W h.ds h.other (by have := h.new; omega) h2 h.var (hln s (List.mem_of_getElem? hk))).mono ?_
      rintro e W' ⟨rfl, k1, k2, k3⟩
      obtain ⟨cs, f, hbx⟩ := h.other.box
      refine ⟨rfl, ⟨k1, k2, h.new, h.below.trans (k3.below.mono hB), h.var.fr k3 (ne_typed h.var hbx (by decide))⟩, fun g x y hg => hg.fr k3 (ne_typed hg hbx (by decide))⟩)).mono ?_
  rintro e w' ⟨d, rfl, h⟩
  obtain ⟨D, h⟩ := h.out
  exact ⟨d, rfl, h.below⟩
set_option maxHeartbeats 1000000 in
set_option maxRecDepth 100000 in
theorem topMemory_any (v : Value) (l : List (List UInt8)) (w : World) (hL : LW w) (hs : SlK cStr w v l) (hln : ∀ y ∈ l, y.length ≤ 9223372036854775807) (hll : l.length ≤ 8796093022208) :
    Calls Tryz.prog 4 #[v] w fun e w' => e = .returned (.bool true) ∧ Below w.heap.size w w' := by
  have HN := new_ds w hL
  have HP := fun (W : World) (o gm : Nat) h1 h2 h3 h4 h5 h6 h7 => playMem_any v l W w.heap.size o gm h1 h2 h3 h4 h5 hln hll h6 h7
  have SL : Hid (SlK cStr w v l) := hs
  have hmf : ∀ (fn : Fn) (first cap : Array Value) (w : World), (Instr.makeFunc fn first cap).run Tryz.prog w = .ok (.func fn first cap) w := fun _ _ _ _ => rfl
  obtain ⟨a, cap, hv⟩ : ∃ a cap, v = .slice a l.length cap := by obtain ⟨a, cap, h, _⟩ := hs; exact ⟨a, cap, h⟩
  subst hv
  clear hL hs hln
  go_enter Tryz.func4, Tryz.ntmps4
  go_wp2_with fail
  refine HN.mono ?_
  rintro e w1 ⟨o, rfl, h1⟩
  clear HN
  go_wp2_with fail
  have hb : Below w1.heap.size w1 (w1.alloc (.cells #[.pointer (some ⟨o, 0, none⟩)] 31)) := (Below.refl _ w1).alloc (Nat.le_refl _) _
  have hB : Below w.heap.size w (w1.alloc (.cells #[.pointer (some ⟨o, 0, none⟩)] 31)) := h1.out.2.2.trans (hb.mono h1.out.2.2.size)
  have hlt : w1.heap.size < (w1.alloc (.cells #[.pointer (some ⟨o, 0, none⟩)] 31)).heap.size := by simp
  refine (HP _ o w1.heap.size (h1.out.2.1.lw.later hb) h1.out.1 (Nat.lt_trans h1.out.2.1.lt hlt) hlt (fun W hW => slK_below SL.out (Nat.le_refl _) (hB.trans hW)) (h1.out.2.1.later hb) (heap_alloc_new w1 _)).mono ?_
  rintro e w2 ⟨d, rfl, h2⟩
  have B2 : Hid (Below w.heap.size w w2) := hB.trans h2.out
  clear h2 h1 hb hB hlt HP
  go_wp2_with fail
  go_ret
  exact ⟨rfl, B2.out⟩
end Go.Proofs.YtcmdoeledmkfmacGreatDoor
