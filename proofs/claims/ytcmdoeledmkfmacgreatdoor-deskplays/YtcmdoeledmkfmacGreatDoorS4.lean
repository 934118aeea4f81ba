/- Texts of this claim, in one: PCmp PSort. -/
import Derived.Deep.RegionHeld
import Derived.BigRegion
import Derived.Deep.QuietTactic
import Derived.BigQuiet
import Derived.Test.YtcmdoeledmkfmacGreatDoorS9
import Derived.Test.YtcmdoeledmkfmacGreatDoorS1
set_option linter.unusedSimpArgs false
set_option linter.unusedVariables false
set_option maxHeartbeats 40000000
set_option maxRecDepth 100000
namespace Go.Proofs.YtcmdoeledmkfmacGreatDoor
open Go.RowKit
def orI (x y:Int):Int:=if x=0 then y else x
theorem juj (b:Nat) (x y:Int) (w:World) (h0:w.cell? ⟨b,0,none⟩=some (.int .i64 x)) (h1:w.cell? ⟨b,1,none⟩=some (.int .i64 y)) :
  Calls Tryz.prog 119 #[.slice (some ⟨b,0,none⟩) 2 2] w fun e w'=>e=.returned (.int .i64 (orI x y))∧w'=w:=by
 unfold orI
 by_cases hx:x=0
 ·by_cases hy:y=0
  ·have bx:(x != 0)=false:=by simp [hx]
   have yx:(y != 0)=false:=by simp [hy]
   go_enter Tryz.func119,Tryz.ntmps119
   go_wp2_with fail
   refine wp_loop_rounds 3 ?_
   rw [rounds_succ]
   go_wp2_with fail
   rw [rounds_succ]
   go_wp2_with fail
   rw [rounds_succ]
   go_wp2_with fail
   go_ret
   exact⟨by first|rfl|simp [hx,hy],rfl⟩
  ·have bx:(x != 0)=false:=by simp [hx]
   have yx:(y != 0)=true:=by simp [hy]
   go_enter Tryz.func119,Tryz.ntmps119
   go_wp2_with fail
   refine wp_loop_rounds 3 ?_
   rw [rounds_succ]
   go_wp2_with fail
   rw [rounds_succ]
   go_wp2_with fail
   go_ret
   exact⟨by first|rfl|simp [hx],rfl⟩
 ·have bx:(x != 0)=true:=by simp [hx]
  go_enter Tryz.func119,Tryz.ntmps119
  go_wp2_with fail
  refine wp_loop_rounds 3 ?_
  rw [rounds_succ]
  go_wp2_with fail
  go_ret
  exact⟨by first|rfl|simp [hx],rfl⟩
def cmpS (a b:Ship):Int:=orI (cmpI a.cl b.cl) (cmpI a.qu b.qu)
theorem jpv {a b:Ship}:cmpS a b < 0↔before a b:=by
 unfold cmpS orI cmpI before
 split <;> (try split) <;> (try split) <;> (try split) <;> omega
theorem jdx (w:World) (x y:Value) (t:TypeId):(w.alloc (.cells #[x,y] t)).drew.cell? ⟨w.heap.size,0,none⟩=some x∧(w.alloc (.cells #[x,y] t)).drew.cell? ⟨w.heap.size,1,none⟩=some y:=jgz w x y t
theorem twoS (w:World) (s r:Ship):SBox ((w.alloc (.cells #[.int .i64 s.st,.int .i64 s.wd,.int .i64 s.lg,.int .i64 s.cl,.int .i64 s.si,.int .i64 s.qu] 46)).alloc (.cells #[.int .i64 r.st,.int .i64 r.wd,.int .i64 r.lg,.int .i64 r.cl,.int .i64 r.si,.int .i64 r.qu] 46)).drew w.heap.size s∧SBox ((w.alloc (.cells #[.int .i64 s.st,.int .i64 s.wd,.int .i64 s.lg,.int .i64 s.cl,.int .i64 s.si,.int .i64 s.qu] 46)).alloc (.cells #[.int .i64 r.st,.int .i64 r.wd,.int .i64 r.lg,.int .i64 r.cl,.int .i64 r.si,.int .i64 r.qu] 46)).drew (w.heap.size+1) r∧Below w.heap.size w ((w.alloc (.cells #[.int .i64 s.st,.int .i64 s.wd,.int .i64 s.lg,.int .i64 s.cl,.int .i64 s.si,.int .i64 s.qu] 46)).alloc (.cells #[.int .i64 r.st,.int .i64 r.wd,.int .i64 r.lg,.int .i64 r.cl,.int .i64 r.si,.int .i64 r.qu] 46)).drew:=by
 have h1:SBox (w.alloc (.cells #[.int .i64 s.st,.int .i64 s.wd,.int .i64 s.lg,.int .i64 s.cl,.int .i64 s.si,.int .i64 s.qu] 46)) w.heap.size s:=SBox.new w s
 have h2:=(Below.refl (w.alloc (.cells #[.int .i64 s.st,.int .i64 s.wd,.int .i64 s.lg,.int .i64 s.cl,.int .i64 s.si,.int .i64 s.qu] 46)).heap.size (w.alloc (.cells #[.int .i64 s.st,.int .i64 s.wd,.int .i64 s.lg,.int .i64 s.cl,.int .i64 s.si,.int .i64 s.qu] 46))).alloc (Nat.le_refl _) (.cells #[.int .i64 r.st,.int .i64 r.wd,.int .i64 r.lg,.int .i64 r.cl,.int .i64 r.si,.int .i64 r.qu] 46)
 have h3:=SBox.new (w.alloc (.cells #[.int .i64 s.st,.int .i64 s.wd,.int .i64 s.lg,.int .i64 s.cl,.int .i64 s.si,.int .i64 s.qu] 46)) r
 have hz:(w.alloc (.cells #[.int .i64 s.st,.int .i64 s.wd,.int .i64 s.lg,.int .i64 s.cl,.int .i64 s.si,.int .i64 s.qu] 46)).heap.size=w.heap.size+1:=by simp
 refine⟨h1.later h2.drew h1.lt,?_,((Below.refl _ w).alloc (Nat.le_refl _) _).trans (h2.mono (by omega)) |>.drew⟩
 rw [hz] at h3
 exact h3
theorem ji1 (g:Nat) (p:Pt) (bb off cap:Nat) (w:World) (X:PBox w g p (.slice (some ⟨bb,off,none⟩) p.ships.length cap)) (hr:RdK cShip w bb off p.ships) (i j:Nat) (hi:i < p.ships.length) (hj:j < p.ships.length) :
  Calls Tryz.prog 118 #[.int .i64 i,.int .i64 j,.pointer (some ⟨g,0,none⟩)] w fun e w'=>e=.returned (.int .i64 (cmpS (shp p i) (shp p j)))∧Below w.heap.size w w':=by
 obtain⟨s,hs⟩:∃ s,p.ships[i]?=some s:=⟨p.ships[i],List.getElem?_eq_getElem hi⟩
 obtain⟨r,hr2⟩:∃ s,p.ships[j]?=some s:=⟨p.ships[j],List.getElem?_eq_getElem hj⟩
 rw [jbj hs,jbj hr2]
 obtain⟨c0,c1,c2,c3,c4,c5⟩:=hr.ship hs
 obtain⟨d0,d1,d2,d3,d4,d5⟩:=hr.ship hr2
 have pc1:=X.cells.2.1
 have hi3:(i:Int) < (p.ships.length:Int):=by omega
 have hj3:(j:Int) < (p.ships.length:Int):=by omega
 have HSS:Hid (cmpS s r=orI (cmpI s.cl r.cl) (cmpI s.qu r.qu)):=rfl
 clear hs hr2 hr X
 go_enter Tryz.func118,Tryz.ntmps118
 go_wp2_with fail
 go_cut [6,7] (fun s6 s7 wc=>∃ x y,s6=.pointer (some ⟨x,0,none⟩)∧s7=.pointer (some ⟨y,0,none⟩)∧Hid (SBox wc x s∧SBox wc y r∧Below w.heap.size w wc))
 case first =>
  go_region_held (fun w'=>w'.cell? ⟨g,1,none⟩=some (.slice (some ⟨bb,off,none⟩) p.ships.length cap)∧w'.cell? ⟨bb,off+i*6,none⟩=some (.int .i64 s.st)∧w'.cell? ⟨bb,off+i*6+1,none⟩=some (.int .i64 s.wd)∧w'.cell? ⟨bb,off+i*6+2,none⟩=some (.int .i64 s.lg)∧w'.cell? ⟨bb,off+i*6+3,none⟩=some (.int .i64 s.cl)∧w'.cell? ⟨bb,off+i*6+4,none⟩=some (.int .i64 s.si)∧w'.cell? ⟨bb,off+i*6+5,none⟩=some (.int .i64 s.qu)∧w'.cell? ⟨bb,off+j*6,none⟩=some (.int .i64 r.st)∧w'.cell? ⟨bb,off+j*6+1,none⟩=some (.int .i64 r.wd)∧w'.cell? ⟨bb,off+j*6+2,none⟩=some (.int .i64 r.lg)∧w'.cell? ⟨bb,off+j*6+3,none⟩=some (.int .i64 r.cl)∧w'.cell? ⟨bb,off+j*6+4,none⟩=some (.int .i64 r.si)∧w'.cell? ⟨bb,off+j*6+5,none⟩=some (.int .i64 r.qu)) (go_keep) (fail)
  all_goals go_wp2_with fail
  all_goals go_meet
  all_goals first|exact⟨_,_,rfl,rfl,twoS w s r⟩|exact⟨_,_,rfl,rfl,⟨(twoS w r s).2.1,(twoS w r s).1,(twoS w r s).2.2⟩⟩
 case rest =>
  obtain⟨x,y,rfl,rfl,F⟩:=hcut
  obtain⟨k0,k1,k2,k3,k4,k5⟩:=F.out.1.cells
  obtain⟨e0,e1,e2,e3,e4,e5⟩:=F.out.2.1.cells
  clear k0 k1 k2 k4 e0 e1 e2 e4 c0 c1 c2 c3 c4 c5 d0 d1 d2 d3 d4 d5 pc1
  go_wp2_with fail
  go_region_held (fun w'=>w'.cell? ⟨x,3,none⟩=some (.int .i64 s.cl)∧w'.cell? ⟨x,5,none⟩=some (.int .i64 s.qu)∧w'.cell? ⟨y,3,none⟩=some (.int .i64 r.cl)∧w'.cell? ⟨y,5,none⟩=some (.int .i64 r.qu)) (go_keep) (first|(go_at_call 120;refine(jfl _ _ _).mono ?_;rintro e w' ⟨rfl,rfl⟩)|(go_at_call 119;refine(juj _ _ _ _ (jdx _ _ _ _).1 (jdx _ _ _ _).2).mono ?_;rintro e w' ⟨rfl,rfl⟩))
  all_goals go_wp2_with fail
  all_goals go_ret
  all_goals exact⟨by rw [HSS.out];rfl,F.out.2.2.trans (((Below.refl _ wc).alloc (Nat.le_refl _) _).drew.mono F.out.2.2.size)⟩
def ints (m:List Nat):List Int:=m.map fun i:Nat=>(i:Int)
def IRow (w:World) (B g cap:Nat) (r:List Int):Prop:=OwnK 3 1 cInt w B g cap r
theorem IRow.cell {w:World} {B g cap:Nat} {r:List Int} (h:IRow w B g cap r) {j:Nat} {n:Int} (hj:r[j]?=some n):w.cell? ⟨g,j,none⟩=some (.int .i64 n):=by
 have:=h.rd.int hj
 simpa using this
theorem IRow.set {w:World} {B g cap:Nat} {r:List Int} (h:IRow w B g cap r) {j:Nat} (hj:j < r.length) (v:Int):IRow (w.setCell ⟨g,j,none⟩ (.int .i64 v)) B g cap (r.set j v):=by
 have:=OwnK.setCell h jh0 (j:=j) (i:=0) (x:=r[j]) (x':=v) (List.getElem?_eq_getElem hj) (by decide) (v:=.int .i64 v) rfl
 show OwnK _ _ _ _ _ _ _ _
 simpa using this
theorem IRow.frozen {w:World} {B g cap:Nat} {r:List Int} (h:IRow w B g cap r) (j:Nat):w.frozen? ⟨g,j,none⟩=false:=OwnK.frozen h j
def ltP (p:Pt) (i j:Nat):Prop:=before (shp p i) (shp p j)
def InsOk (p:Pt) (r:List Nat) (i j:Nat):Prop :=
 ∃ A x B C,r=A++x::(B++C)∧A.length=j∧(A++B).length=i∧(A++B).Pairwise (ltP p)∧∀ b∈B,ltP p x b
theorem InsOk.start {p:Pt} {r:List Nat} {i:Nat} (hi:i < r.length) (h:(r.take i).Pairwise (ltP p)):InsOk p r i i:=by
 refine⟨r.take i,r[i],[],r.drop (i+1),?_,?_,?_,by simpa using h,fun b hb=>by cases hb⟩
 ·rw [List.nil_append,List.getElem_cons_drop,List.take_append_drop]
 ·simp;omega
 ·simp;omega
theorem InsOk.at {p:Pt} {r:List Nat} {i j:Nat} (h:InsOk p r i (j+1)):∃ x y,r[j+1]?=some x∧r[j]?=some y∧(ltP p x y→InsOk p ((r.set (j+1) y).set j x) i j):=by
 obtain⟨A,x,B,C,rfl,hA,hi,hs,hx⟩:=h
 have hne:A≠[]:=by rintro rfl;simp at hA
 obtain⟨A',y,rfl⟩:∃ A' y,A=A'++[y]:=⟨A.dropLast,A.getLast hne,(List.dropLast_concat_getLast hne).symm⟩
 have hl:A'.length=j:=by simpa using hA
 subst hl
 refine⟨x,y,by simp,by simp [List.append_assoc],fun hlt=>⟨A',x,y::B,C,?_,rfl,by simpa using hi,by simpa using hs,fun b hb=>?_⟩⟩
 ·simp [List.append_assoc,List.set_append]
 ·rcases List.mem_cons.1 hb with rfl|hb
  ·exact hlt
  ·exact hx b hb
theorem InsOk.done {p:Pt} {r:List Nat} {i j:Nat} (h:InsOk p r i j) (hd:r.Nodup) (ht:∀ x∈r,∀ y∈r,x≠y→ltP p x y∨ltP p y x) (hj:j=0∨∃ k x y,j=k+1∧r[k+1]?=some x∧r[k]?=some y∧¬ ltP p x y):(r.take (i+1)).Pairwise (ltP p):=by
 obtain⟨A,x,B,C,rfl,hA,hi,hs,hx⟩:=h
 have e:(A++x::(B++C)).take (i+1)=A++x::B:=by
  have h1:A++x::(B++C)=(A++x::B)++C:=by simp
  rw [h1,List.take_append_of_le_length (by simp at hi ⊢;omega),List.take_of_length_le (by simp at hi ⊢;omega)]
 rw [e,List.pairwise_append]
 obtain⟨h1,h2,h3⟩:=List.pairwise_append.1 hs
 refine⟨h1,List.pairwise_cons.2 ⟨hx,h2⟩,fun a ha b hb=>?_⟩
 rcases List.mem_cons.1 hb with rfl|hb
 ·rcases hj with rfl|⟨k,x',y,rfl,hx',hy,hn⟩
  ·have:A=[]:=List.eq_nil_of_length_eq_zero hA
   subst this;cases ha
  ·have hne:A≠[]:=by rintro rfl;simp at hA
   obtain⟨A',z,rfl⟩:∃ A' z,A=A'++[z]:=⟨A.dropLast,A.getLast hne,(List.dropLast_concat_getLast hne).symm⟩
   have hl:A'.length=k:=by simpa using hA
   subst hl
   simp [List.append_assoc] at hx' hy
   subst hx' hy
   have hne2:b≠z:=by
    intro e
    subst e
    exact(List.nodup_append.1 hd).2.2 b (by simp) b (by simp) rfl
   have hzb:ltP p z b:=(ht z (by simp) b (by simp) (fun e=>hne2 e.symm)).resolve_right hn
   rcases List.mem_append.1 ha with ha|ha
   ·have h4:=(List.pairwise_append.1 h1).2.2 a ha z (by simp)
    exact jep h4 hzb
   ·have:a=z:=by simpa using ha
    subst this;exact hzb
 ·exact h3 a ha b hb
theorem InsOk.perm {r:List Nat} {j:Nat} {x y:Nat} (hx:r[j+1]?=some x) (hy:r[j]?=some y):((r.set (j+1) y).set j x).Perm r:=by
 have h1:=(List.getElem?_eq_some_iff.1 hx).1
 obtain⟨A,B,rfl,hA⟩:∃ A B,r=A++y::x::B∧A.length=j:=by
  refine⟨r.take j,r.drop (j+2),?_,by simp;omega⟩
  have e1:r.drop j=y::r.drop (j+1):=by rw [← List.getElem_cons_drop (h:=by omega)];congr 1;have:=(List.getElem?_eq_some_iff.1 hy).2;exact this
  have e2:r.drop (j+1)=x::r.drop (j+2):=by rw [← List.getElem_cons_drop (h:=by omega)];congr 1;have:=(List.getElem?_eq_some_iff.1 hx).2;exact this
  rw [← e2,← e1,List.take_append_drop]
 subst hA
 simp [List.set_append]
 exact List.Perm.append_left A (List.Perm.swap _ _ _)
theorem jdy {r:List Nat} {j x:Nat} (h:r[j]?=some x):(ints r)[j]?=some (x:Int):=by unfold ints;rw [List.getElem?_map,h];rfl
theorem jcb (r:List Nat):(ints r).length=r.length:=by simp [ints]
theorem jpl (r:List Nat) (j x:Nat):ints (r.set j x)=(ints r).set j (x:Int):=by unfold ints;rw [List.map_set]
theorem below_drewN {B:Nat} {a w:World} (h:Below B a w) (n:Nat):Below B a (w.drewN n):=⟨h.os,h.tape,h.output,h.size,h.block⟩
theorem jbk {x:Int} (h1:-9223372036854775808≤x) (h2:x≤9223372036854775807):IntKind.i64.wrap x=x:=by rw [IntKind.wrap_i64];omega
def jfy (p:Pt) (gp bb off capS:Nat) (w:World):Prop:=PBox w gp p (.slice (some ⟨bb,off,none⟩) p.ships.length capS)∧RdK cShip w bb off p.ships
theorem jfy.later {p:Pt} {gp bb off capS B:Nat} {w w':World} (h:jfy p gp bb off capS w) (hb:Below B w w') (h1:gp < B) (h2:bb < B):jfy p gp bb off capS w':=⟨h.1.later hb h1,h.2.belowB h2 hb⟩
theorem jon (p:Pt) (gp bb off capS B g cap:Nat) (m:List Nat) (w:World) (E:jfy p gp bb off capS w) (h1:gp < B) (h2:bb < B) (O:IRow w B g cap (ints m)) (hm:∀ x∈m,x < p.ships.length) (hn:m.length≤14) (hd:m.Nodup)
  (ht:∀ x y,x < p.ships.length→y < p.ships.length→x≠y→ltP p x y∨ltP p y x) :
  Calls Tryz.prog 186 #[.slice (some ⟨g,0,none⟩) m.length cap,.int .i64 0,.int .i64 m.length,.func (.func 118) #[] #[.pointer (some ⟨gp,0,none⟩)]] w fun e w' =>
   e=.returned (.tuple #[])∧Hid (∃ m',m'.Perm m∧m'.Pairwise (ltP p)∧IRow w' B g cap (ints m')∧Below B w w'):=by
 have HE:Hid (jfy p gp bb off capS w):=E
 have HM:Hid ((∀ x∈m,x < p.ships.length)∧m.Nodup∧∀ x y,x < p.ships.length→y < p.ships.length→x≠y→ltP p x y∨ltP p y x):=⟨hm,hd,ht⟩
 have I0:Hid (∃ r:List Nat,r.Perm m∧IRow w B g cap (ints r)∧Below B w w∧(r.take 1).Pairwise (ltP p)):=⟨m,List.Perm.refl _,O,Below.refl _ _,by cases m <;> simp⟩
 clear E O hm hd ht
 go_enter Tryz.func186,Tryz.ntmps186
 go_wp2_with fail
 go_loopg [8,9] 20 (fun kx s8 s9 wr=>∃ (i:Nat),s8=.int .i64 i∧1≤i∧(i≤m.length∨i=1)∧20 - i≤kx∧Hid (∃ r:List Nat,r.Perm m∧IRow wr B g cap (ints r)∧Below B w wr∧(r.take i).Pairwise (ltP p)))
 case atStart=>exact⟨1,rfl,Nat.le_refl _,Or.inr rfl,by omega,I0⟩
 case round =>
  clear I0
  obtain⟨i,rfl,hi1,hi2,hg,I⟩:=hrel
  by_cases hil:i < m.length
  ·have hi3:(i:Int) < (m.length:Int):=by omega
   obtain⟨r0,hr1,hr2,hr3,hr4⟩:=I.out
   have J0:Hid (∃ r:List Nat,r.Perm m∧IRow wr B g cap (ints r)∧Below B w wr∧InsOk p r i i):=⟨r0,hr1,hr2,hr3,InsOk.start (by rw [hr1.length_eq];exact hil) hr4⟩
   clear I hr1 hr2 hr3 hr4
   go_wp2_with fail
   go_loopg [9] 20 (fun kx s9 wr=>∃ (j:Nat),s9=.int .i64 j∧j≤i∧j≤kx∧Hid (∃ r:List Nat,r.Perm m∧IRow wr B g cap (ints r)∧Below B w wr∧InsOk p r i j))
   case atStart=>exact⟨i,rfl,Nat.le_refl _,by omega,J0⟩
   case round =>
    clear J0
    obtain⟨j,rfl,hj1,hj2,J⟩:=hrel
    obtain⟨r,q1,q2,q3,q4⟩:=J.out
    have q5:r.Nodup:=(q1.nodup_iff).2 HM.out.2.1
    have q6:∀ x∈r,x < p.ships.length:=fun x hx=>HM.out.1 x (q1.mem_iff.1 hx)
    have q7:∀ x∈r,∀ y∈r,x≠y→ltP p x y∨ltP p y x:=fun x hx y hy hne=>HM.out.2.2 x y (q6 x hx) (q6 y hy) hne
    clear J
    cases j with
    | zero =>
     have D:Hid (∀ n,∃ r:List Nat,r.Perm m∧IRow (wr.drewN n) B g cap (ints r)∧Below B w (wr.drewN n)∧(r.take (i+1)).Pairwise (ltP p)):=fun n=>⟨r,q1,OwnK.later q2 (below_drewN (Below.refl _ _) n),below_drewN q3 n,q4.done q5 q7 (Or.inl rfl)⟩
     clear q1 q2 q3 q4 q5 q6 q7
     go_wp2_with fail
     go_quiet (fail)
     go_wp2_with fail
     go_roundg (20 - (i+1))
     case measure=>omega
     case rel=>exact⟨i+1,by go_num,by omega,Or.inl (by omega),Nat.le_refl _,D.out _⟩
    | succ k =>
     obtain⟨x,y,hx,hy,hin⟩:=q4.at
     have cx:=q2.cell (jdy hx)
     have cy:=q2.cell (jdy hy)
     have hxl:=q6 x (List.mem_of_getElem? hx)
     have hyl:=q6 y (List.mem_of_getElem? hy)
     have E4:Hid (jfy p gp bb off capS wr.drew):=(HE.out.later q3 h1 h2).later ((Below.refl _ _).drew) h1 h2
     have hl1:k+1 < m.length:=by omega
     have hl2:(k:Int)+1 < (m.length:Int):=by omega
     have hl3:(k:Int) < (m.length:Int):=by omega
     have hgt:(0:Int) < (k:Int)+1:=by omega
     have hwr1:IntKind.i64.wrap ((k:Int)+1 - 1)=(k:Int):=by rw [jbk (by omega) (by omega)];omega
     have hwr2:IntKind.i64.wrap (k:Int)=(k:Int):=jbk (by omega) (by omega)
     have HG:Hid (g < wr.heap.size):=OwnK.lt q2
     have HF:Hid (∀ w5,Below wr.drew.heap.size wr.drew w5→IRow w5 B g cap (ints r)∧Below B w w5):=fun w5 hb=>⟨OwnK.later q2 (jau hb),q3.trans ((jau hb).mono (by have:=q2.base;have:=OwnK.lt q2;omega))⟩
     by_cases hlt:ltP p x y
     ·have hneg:cmpS (shp p x) (shp p y) < 0:=jpv.2 hlt
      have HP2:Hid (((r.set (k+1) y).set k x).Perm m∧InsOk p ((r.set (k+1) y).set k x) i k∧k+1 < r.length):=⟨(InsOk.perm hx hy).trans q1,hin hlt,(List.getElem?_eq_some_iff.1 hx).1⟩
      have HXY:Hid (r[k+1]?=some x∧r[k]?=some y):=⟨hx,hy⟩
      generalize hcv:cmpS (shp p x) (shp p y)=cv at hneg
      have HCV:Hid (cmpS (shp p x) (shp p y)=cv):=hcv
      clear hcv q1 q2 q3 q4 q5 q6 q7 hin hlt hx hy
      go_wp2_with fail
      go_region_held (fun w'=>w'.cell? ⟨g,k+1,none⟩=some (.int .i64 x)∧w'.cell? ⟨g,k,none⟩=some (.int .i64 y)) (go_keep) (first|(go_at_call 118;refine(ji1 gp p bb off capS _ E4.out.1 E4.out.2 x y hxl hyl).mono ?_;rintro e w5 ⟨rfl,hb5⟩;have F5:Hid (IRow w5 B g cap (ints r)∧Below B w w5):=HF.out w5 hb5;rw [HCV.out];have dx:=F5.out.1.cell (jdy HXY.out.1);have dy:=F5.out.1.cell (jdy HXY.out.2);clear hb5))
      have fx:=F5.out.1.frozen (k+1)
      have fy:=F5.out.1.frozen k
      go_wp2_with fail
      go_region
      all_goals go_wp2_with fail
      go_roundg k
      case measure=>omega
      case rel =>
       refine⟨k,by go_num,by omega,Nat.le_refl _,⟨_,HP2.out.1,?_,?_,HP2.out.2.1⟩⟩
       ·rw [jpl,jpl]
        exact OwnK.later ((F5.out.1.set (by rw [jcb];exact HP2.out.2.2) _).set (by rw [List.length_set,jcb];have:=HP2.out.2.2;omega) _) ((Below.refl _ _).drew)
       ·have hgB:=OwnK.base F5.out.1
        exact(F5.out.2.trans (((Below.refl B w5).setCell (p:=⟨g,k+1,none⟩) hgB _).setCell (p:=⟨g,k,none⟩) hgB _)).drew
     ·have hneg:¬ cmpS (shp p x) (shp p y) < 0:=fun h=>hlt (jpv.1 h)
      have D:Hid (∀ w5,Below wr.drew.heap.size wr.drew w5→∃ r:List Nat,r.Perm m∧IRow w5 B g cap (ints r)∧Below B w w5∧(r.take (i+1)).Pairwise (ltP p)):=fun w5 hb=>⟨r,q1,(HF.out w5 hb).1,(HF.out w5 hb).2,q4.done q5 q7 (Or.inr ⟨k,x,y,rfl,hx,hy,hlt⟩)⟩
      have HXY:Hid (r[k+1]?=some x∧r[k]?=some y):=⟨hx,hy⟩
      generalize hcv:cmpS (shp p x) (shp p y)=cv at hneg
      have HCV:Hid (cmpS (shp p x) (shp p y)=cv):=hcv
      have hneg2:0≤cv:=by omega
      clear hcv q1 q2 q3 q4 q5 q6 q7 hin hlt hx hy
      go_wp2_with fail
      go_region_held (fun w'=>w'.cell? ⟨g,k+1,none⟩=some (.int .i64 x)∧w'.cell? ⟨g,k,none⟩=some (.int .i64 y)) (go_keep) (first|(go_at_call 118;refine(ji1 gp p bb off capS _ E4.out.1 E4.out.2 x y hxl hyl).mono ?_;rintro e w5 ⟨rfl,hb5⟩;have F5:Hid (IRow w5 B g cap (ints r)∧Below B w w5):=HF.out w5 hb5;have D5:Hid _:=D.out w5 hb5;rw [HCV.out];have dx:=F5.out.1.cell (jdy HXY.out.1);have dy:=F5.out.1.cell (jdy HXY.out.2);clear hb5))
      go_wp2_with fail
      go_roundg (20 - (i+1))
      case measure=>omega
      case rel=>exact⟨i+1,by go_num,by omega,Or.inl (by omega),Nat.le_refl _,D5⟩
  ·have hi3:¬ (i:Int) < (m.length:Int):=by omega
   have I2:Hid (∃ m',m'.Perm m∧m'.Pairwise (ltP p)∧IRow wr B g cap (ints m')∧Below B w wr):=by
    obtain⟨r,q1,q2,q3,q4⟩:=I.out
    have hl:=q1.length_eq
    have e:r.take i=r:=List.take_of_length_le (by omega)
    rw [e] at q4
    exact⟨r,q1,q4,q2,q3⟩
   clear I
   go_wp2_with fail
   go_end0
   exact⟨rfl,I2⟩
theorem jp7 (p:Pt) (gp bb off capS B g cap:Nat) (m:List Nat) (w:World) (E:jfy p gp bb off capS w) (h1:gp < B) (h2:bb < B) (O:IRow w B g cap (ints m)) (hm:∀ x∈m,x < p.ships.length) (hn:m.length≤14) (hd:m.Nodup) (ht:∀ x y,x < p.ships.length→y < p.ships.length→x≠y→ltP p x y∨ltP p y x) :
  Calls Tryz.prog 158 #[.slice (some ⟨g,0,none⟩) m.length cap,.int .i64 m.length,.func (.func 118) #[] #[.pointer (some ⟨gp,0,none⟩)]] w fun e w'=>e=.returned (.tuple #[])∧Hid (∃ m',m'.Perm m∧m'.Pairwise (ltP p)∧IRow w' B g cap (ints m')∧Below B w w'):=by
 have HI:=jon p gp bb off capS B g cap m w E h1 h2 O hm hn hd ht
 have hn1:¬ (20:Int)≤(m.length:Int):=by omega
 have hn2:¬ (20:Int) < (m.length:Int):=by omega
 clear E O hm hd ht
 go_enter Tryz.func158,Tryz.ntmps158
 go_wp2_with fail
 refine wp_loop_rounds 1 ?_
 rw [rounds_succ]
 go_wp2_with fail
 refine HI.mono ?_
 rintro e w1 ⟨rfl,hw1⟩
 go_wp2_with fail
 refine wp_loop_rounds 1 ?_
 rw [rounds_succ]
 go_wp2_with fail
 go_end0
 exact⟨rfl,hw1⟩
theorem js5 (p:Pt) (gp bb off capS B g cap:Nat) (m:List Nat) (w:World) (E:jfy p gp bb off capS w) (h1:gp < B) (h2:bb < B) (O:IRow w B g cap (ints m)) (hm:∀ x∈m,x < p.ships.length) (hn:m.length≤14) (hd:m.Nodup) (ht:∀ x y,x < p.ships.length→y < p.ships.length→x≠y→ltP p x y∨ltP p y x) :
  Calls Tryz.prog 117 #[.slice (some ⟨g,0,none⟩) m.length cap,.func (.func 118) #[] #[.pointer (some ⟨gp,0,none⟩)]] w fun e w'=>e=.returned (.tuple #[])∧Hid (∃ m',m'.Perm m∧m'.Pairwise (ltP p)∧IRow w' B g cap (ints m')∧Below B w w'):=by
 have HI:=jp7 p gp bb off capS B g cap m w E h1 h2 O hm hn hd ht
 clear E O hm hd ht
 go_enter Tryz.func117,Tryz.ntmps117
 go_wp2_with fail
 refine HI.mono ?_
 rintro e w1 ⟨rfl,hw1⟩
 go_wp2_with fail
 go_end0
 exact⟨rfl,hw1⟩
end Go.Proofs.YtcmdoeledmkfmacGreatDoor
