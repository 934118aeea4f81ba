/- Texts of this claim, in one: TMath TAlive. -/
import Derived.Test.YtcmdoeledmkfmacGreatDoorSN
import Derived.Test.YtcmdoeledmkfmacGreatDoorSY
set_option linter.unusedSimpArgs false
set_option linter.unusedVariables false
namespace Go.Proofs.YtcmdoeledmkfmacGreatDoor
open Go.RowKit
structure DS (w:World) (d:Nat) (D:Dk):Prop where
 lw:LW w
 dsk:Dsk w d D
 ok:DOk D
theorem Dsk.old {w:World} {d:Nat} {D:Dk} (h:Dsk w d D):∀ u∈usedG,u < d:=by obtain⟨_,_,_,_,h⟩:=h;exact h.old
theorem DS.lt {w:World} {d:Nat} {D:Dk} (h:DS w d D):d < w.heap.size:=h.dsk.lt
theorem DS.later {w w':World} {d:Nat} {D:Dk} (h:DS w d D) (hb:Below w.heap.size w w'):DS w' d D:=⟨h.lw.later hb,h.dsk.later hb,h.ok⟩
theorem DS.other {w w':World} {d d':Nat} {D D':Dk} (h:DS w d D) (h':DS w d' D') (hf:Fr d' w w') (hne:d≠d'):DS w' d D:=⟨h.lw.fr hf h'.dsk.old,h.dsk.other h'.dsk hf hne,h.ok⟩
theorem DS.written {w w':World} {d g:Nat} {D:Dk} {c:Array Value} {u:TypeId} {f:Nat×Nat} (h:DS w d D) (hg:w.heap[g]?=some (Obj.cells c u f)) (h0:u≠59) (h1:u≠46) (h2:u≠3) (h3:u≠41) (hu:∀ k∈usedG,k≠g) (hs:∀ k,k≠g→w'.heap[k]?=w.heap[k]?):DS w' d D :=
 ⟨h.lw.same fun k hk=>hs k (hu k hk),h.dsk.written hg h0 h1 h2 h3 hs,h.ok⟩
theorem jrf {D D':Dk} {s:List UInt8} {er n:Int} (h:DOk D) (hs:jdv D s D' er n):DOk D':=(jg3 h hs).1
theorem jrh (d:Nat) (D:Dk) (s:List UInt8) (w:World) (h:DS w d D) (hs:s.length≤9223372036854775807) :
  Calls Tryz.prog 13 #[.pointer (some ⟨d,0,none⟩),txt s] w fun e w'=>∃ er n,e=.returned (.agg #[.int .i64 er,.int .i64 n])∧Hid (∃ D',jdv D s D' er n∧DS w' d D'∧Fr d w w'):=by
 refine(jnh d D s w h.lw h.dsk h.ok hs).mono ?_
 rintro e w' ⟨er,n,rfl,h1⟩
 obtain⟨D',j1,j2,j3⟩:=h1.out
 exact⟨er,n,rfl,D',j1,⟨h.lw.fr j3 h.dsk.old,j2,jrf h.ok j1⟩,j3⟩
theorem juk (w:World) (hL:LW w):Calls Tryz.prog 10 #[] w fun e w'=>∃ d,e=.returned (.pointer (some ⟨d,0,none⟩))∧Hid (w.heap.size≤d∧DS w' d newDk∧Below w.heap.size w w'):=by
 refine(jov w hL).mono ?_
 rintro e w' ⟨d,rfl,h1,h2,h3⟩
 exact⟨d,rfl,h1,⟨hL.later h3,h2,jg0⟩,h3⟩
theorem RB.cells {w:World} {g:Nat} {x y:Int} (h:RB w g x y):w.cell? ⟨g,0,none⟩=some (.int .i64 x)∧w.cell? ⟨g,1,none⟩=some (.int .i64 y):=⟨cell_of_row _ _ _ _ _ _ h,cell_of_row _ _ _ _ _ _ h⟩
theorem RB.kept {w w':World} {g z:Nat} {x y:Int} (h:RB w g x y) (hs:∀ k,k≠z→w'.heap[k]?=w.heap[k]?) (hne:g≠z):RB w' g x y:=by unfold RB;rw [hs g hne];exact h
end Go.Proofs.YtcmdoeledmkfmacGreatDoor
