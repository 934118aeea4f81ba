/- Texts of this claim, in one: MBegin MPlan. -/
import Derived.Test.YtcmdoeledmkfmacGreatDoorSF
import Derived.Test.YtcmdoeledmkfmacGreatDoorS5
import Derived.Test.YtcmdoeledmkfmacGreatDoorS6
import Derived.Test.YtcmdoeledmkfmacGreatDoorYPRoomW
set_option linter.unusedSimpArgs false
set_option linter.unusedVariables false
set_option maxHeartbeats 40000000
set_option maxRecDepth 100000
namespace Go.Proofs.YtcmdoeledmkfmacGreatDoor
open Go.RowKit
def jsq (p q:Pt) (pl:List Int) (w:World) (e:Ending) (w':World):Prop :=
 ∃ gm,e=.returned (.pointer (some ⟨gm,0,none⟩))∧Hid ((∃ gd rk rw_ r l vo vf v,NI w' w.heap.size gm gd q.now p.now (oldOf p pl rk) r 0 l 600 (wasF p.now rw_) vo vf v∧jbo p rk∧(∀ t,0≤t→t < 300→val rw_ t=ja3 p t)∧∀ t,0≤t→t < 300→val r t=ja3 q t)∧Below w.heap.size w w')
def BLoop (p q:Pt) (pl:List Int) (vs us:Value) (rk:List Nat) (v5:Value) (z:Nat) (w:World) (k:Nat) (wr:World):Prop :=
 ∃ vo,MB wr z (z+3) (z+2) vo q.now (.slice none 0 0) 0 (.slice none 0 0) []∧wr.ownsRow z 158 7 vo (oldOf p pl (rk.take k)).length (jae cSt (oldOf p pl (rk.take k)))∧PBox wr z p vs∧PBox wr (z+1) q us∧Below z w wr∧wr.ownsRow z 3 1 v5 (ints rk).length (jae cInt (ints rk))
theorem jui {w:World} {B:Nat} {e:TypeId} {size:Nat} {v:Value} {n:Nat} {xs:List Value} (h:w.ownsRow B e size v n xs) {j:Nat} {c:Array Value} {t:TypeId} {f:Nat×Nat} (hj:w.heap[j]?=some (.cells c t f)) (hne:t≠e):some j≠v.ownBlock:=by
 rcases h.2 with ⟨rfl,_⟩|⟨b,cap,cur,rfl,h1,h2,_⟩
 ·intro e;cases e
 ·intro e
  have e2:j=b:=by simpa [Value.ownBlock] using e
  subst e2
  have e3:=hj.symm.trans h2
  injection e3 with e3
  injection e3 with _ e3
  exact hne e3
theorem job {w:World} {B:Nat} {e:TypeId} {size:Nat} {v:Value} {n:Nat} {xs:List Value} (h:w.ownsRow B e size v n xs) {g:Nat} {c:Array Value} {t:TypeId} {f:Nat×Nat} (hg:w.heap[g]?=some (.cells c t f)) (hne:t≠e) (k:Nat) (x:Value):(w.setCell ⟨g,k,none⟩ x).ownsRow B e size v n xs:=by
 refine⟨h.1,?_⟩
 rcases h.2 with h0|⟨b,cap,cur,h0,h1,h2,h3⟩
 ·exact Or.inl h0
 ·refine Or.inr ⟨b,cap,cur,h0,h1,?_,h3⟩
  have hb:b≠g:=by
   rintro rfl
   have e3:=hg.symm.trans h2
   injection e3 with e3
   injection e3 with _ e3
   exact hne e3
  rw [Below.heap_setCell _ _ _ _ (by show b≠g;exact hb)]
  exact h2
theorem jrr {w w':World} {B B':Nat} {e e':TypeId} {size:Nat} {v v':Value} {n:Nat} {xs:List Value} (h:w.ownsRow B e size v n xs) {size' n':Nat} {xs':List Value} (h':w.ownsRow B' e' size' v' n' xs') (hne:e≠e') (hs:∀ j,j < w.heap.size→some j≠v'.ownBlock→w'.heap[j]?=w.heap[j]?):w'.ownsRow B e size v n xs:=by
 refine⟨h.1,?_⟩
 rcases h.2 with h0|⟨b,cap,cur,h0,h1,h2,h3⟩
 ·exact Or.inl h0
 ·exact Or.inr ⟨b,cap,cur,h0,h1,by rw [hs b (Array.getElem?_eq_some_iff.1 h2).1 (jui h' h2 hne)];exact h2,h3⟩
theorem rkCell {w:World} {B:Nat} {rk:List Nat} {x:Option Addr} {n cap:Nat} (h:w.ownsRow B 3 1 (.slice x n cap) (ints rk).length (jae cInt (ints rk))) {k i:Nat} (hk:rk[k]?=some i):∃ b,x=some ⟨b,0,none⟩∧w.cell? ⟨b,k,none⟩=some (.int .i64 i):=by
 obtain⟨a,c,he,_,h4⟩:=jaz h
 injection he with he1 he2 he3
 rcases h4 with h4|⟨b',o,ha,hr⟩
 ·have:rk.length=0:=by rw [← jcb,h4];rfl
  have:=(List.getElem?_eq_some_iff.1 hk).1
  omega
 ·rcases h.2 with ⟨e,e2⟩|⟨b,cap',cur,e,_⟩
  ·have:rk.length=0:=by rw [← jcb];exact e2
   have:=(List.getElem?_eq_some_iff.1 hk).1
   omega
  ·injection e with e1
   subst e1
   rw [ha] at he1
   injection he1 with he1
   injection he1 with hb1 ho1
   subst hb1 ho1
   exact⟨b,rfl,by simpa using hr.int (jdy hk)⟩
theorem jnz {w:World} {B:Nat} {vr:Value} {r:List (Int×Int)} (hs:Sl w vr r) (hF:Ty.FarT B w vr) {gm:Nat} {c:Array Value} {t:TypeId} {f:Nat×Nat} (hm:w.heap[gm]?=some (.cells c t f)) (hne:t≠194) (i:Nat) (x:Value):Sl (w.setCell ⟨gm,i,none⟩ x) vr r∧Ty.FarT B (w.setCell ⟨gm,i,none⟩ x) vr:=by
 obtain⟨g,off,n,cap,cur,rfl,h1,h2⟩:=hF
 have hgm:g≠gm:=by
  rintro rfl
  have e3:=hm.symm.trans h2
  injection e3 with e3
  injection e3 with _ e3
  exact hne e3
 have e:(w.setCell ⟨gm,i,none⟩ x).heap[g]?=w.heap[g]?:=Below.heap_setCell _ _ _ _ (by show g≠gm;exact hgm)
 refine⟨?_,⟨g,off,n,cap,cur,rfl,h1,by rw [e];exact h2⟩⟩
 obtain⟨hn,a,cap',e',h3⟩:=hs
 refine⟨hn,a,cap',e',?_⟩
 rcases h3 with h3|⟨b,o,rfl,hr⟩
 ·exact Or.inl h3
 ·injection e' with e1
  injection e1 with e1
  injection e1 with e1 e2
  subst e1 e2
  refine Or.inr ⟨g,off,rfl,fun j hj=>?_⟩
  have:=hr j hj
  have hc:∀ q,(w.setCell ⟨gm,i,none⟩ x).cell? ⟨g,q,none⟩=w.cell? ⟨g,q,none⟩:=fun q=>by simp only [World.cell?,e]
  rw [hc,hc]
  exact this
theorem OldS.set {w:World} {vo:Value} {os:List (Ship×Int)} (h:OldS w vo os) {gm:Nat} {c:Array Value} {t:TypeId} {f:Nat×Nat} (hm:w.heap[gm]?=some (.cells c t f)) (hne:t≠158) (i:Nat) (x:Value):OldS (w.setCell ⟨gm,i,none⟩ x) vo os :=
 h.same fun b cur hk=>Below.heap_setCell _ _ _ _ (by
  show b≠gm
  rintro rfl
  have e3:=hm.symm.trans hk
  injection e3 with e3
  injection e3 with _ e3
  exact hne e3)
theorem jsj (vw vn vp:Value) (p q:Pt) (pl:List Int) (w:World) (hv:PtV w vw p) (hu:PtV w vn q) (hp:jaj p) (hq:jaj q) (hpl:SlK cInt w vp pl) (hP:jbd p pl) :
  Calls Tryz.prog 89 #[vw,vn,vp] w fun e w'=>jsq p q pl w e w':=by
 obtain⟨vs,rfl,hsl,h4,hmx⟩:=hv
 obtain⟨us,rfl,hul,u4,umx⟩:=hu
 have HV:Hid (PtV w (.agg (jaa p vs).toArray) p):=⟨vs,rfl,hsl,h4,hmx⟩
 have HU:Hid (PtV w (.agg (jaa q us).toArray) q):=⟨us,rfl,hul,u4,umx⟩
 have X1:=PBox.new w p vs h4
 have X2:=PBox.new (w.alloc (.cells (jaa p vs).toArray 41)) q us u4
 generalize hPC:(jaa p vs).toArray=PC at *
 generalize hQC:(jaa q us).toArray=QC at *
 have hz1:(w.alloc (.cells PC 41)).heap.size=w.heap.size+1:=by simp
 rw [hz1] at X2
 have Y1:PBox ((w.alloc (.cells PC 41)).alloc (.cells QC 41)) w.heap.size p vs:=X1.later ((Below.refl _ _).alloc (Nat.le_refl _) _) X1.lt
 obtain⟨qc0,qc1,qc14,qc15⟩:=X2.cells
 have B2:Below w.heap.size w ((w.alloc (.cells PC 41)).alloc (.cells QC 41)):=((Below.refl _ w).alloc (Nat.le_refl _) _).alloc (by omega) _
 have hz2:((w.alloc (.cells PC 41)).alloc (.cells QC 41)).heap.size=w.heap.size+2:=by simp
 have ST:Hid (PBox ((w.alloc (.cells PC 41)).alloc (.cells QC 41)) w.heap.size p vs∧PBox ((w.alloc (.cells PC 41)).alloc (.cells QC 41)) (w.heap.size+1) q us∧Below w.heap.size w ((w.alloc (.cells PC 41)).alloc (.cells QC 41))):=⟨Y1,X2,B2⟩
 clear X1 X2 Y1 B2 qc1 qc14 qc15
 go_enter Tryz.func89,Tryz.ntmps89
 go_upto_region 1 with fail
 generalize ((w.alloc (.cells PC 41)).alloc (.cells QC 41))=W2 at *
 generalize hz0:w.heap.size=z at *
 go_upto_region 2 with fail
 have hbA:Below W2.heap.size W2 ((W2.alloc (.cells #[.slice none 0 0] 156)).alloc (.cells #[.slice none 0 0,.int .i64 q.now,.slice none 0 0,.pointer (some ⟨z+2,0,none⟩),.int .i64 0] 136)):=((Below.refl _ W2).alloc (Nat.le_refl _) _).alloc (by simp) _
 have S4:Hid (MB ((W2.alloc (.cells #[.slice none 0 0] 156)).alloc (.cells #[.slice none 0 0,.int .i64 q.now,.slice none 0 0,.pointer (some ⟨z+2,0,none⟩),.int .i64 0] 136)) z (z+3) (z+2) (.slice none 0 0) q.now (.slice none 0 0) 0 (.slice none 0 0) []∧PBox ((W2.alloc (.cells #[.slice none 0 0] 156)).alloc (.cells #[.slice none 0 0,.int .i64 q.now,.slice none 0 0,.pointer (some ⟨z+2,0,none⟩),.int .i64 0] 136)) z p vs∧PBox ((W2.alloc (.cells #[.slice none 0 0] 156)).alloc (.cells #[.slice none 0 0,.int .i64 q.now,.slice none 0 0,.pointer (some ⟨z+2,0,none⟩),.int .i64 0] 136)) (z+1) q us∧Below z w ((W2.alloc (.cells #[.slice none 0 0] 156)).alloc (.cells #[.slice none 0 0,.int .i64 q.now,.slice none 0 0,.pointer (some ⟨z+2,0,none⟩),.int .i64 0] 136))∧((W2.alloc (.cells #[.slice none 0 0] 156)).alloc (.cells #[.slice none 0 0,.int .i64 q.now,.slice none 0 0,.pointer (some ⟨z+2,0,none⟩),.int .i64 0] 136)).heap.size=z+4):=by
  have e1:(W2.alloc (.cells #[.slice none 0 0] 156)).heap.size=z+3:=by simp [hz2]
  refine⟨⟨?_,by omega,?_,World.ownsRow_nil _ _ _ _,by omega,by simp;omega⟩,ST.out.1.later hbA (by omega),ST.out.2.1.later hbA (by omega),ST.out.2.2.trans (hbA.mono (by omega)),by simp;omega⟩
  ·have:=heap_alloc_new (W2.alloc (.cells #[.slice none 0 0] 156)) (.cells #[.slice none 0 0,.int .i64 q.now,.slice none 0 0,.pointer (some ⟨z+2,0,none⟩),.int .i64 0] 136)
   rw [e1] at this
   exact this
  ·have h1:=heap_alloc_new W2 (.cells #[.slice none 0 0] 156)
   rw [hz2] at h1
   have h2:=((Below.refl (W2.alloc (.cells #[.slice none 0 0] 156)).heap.size (W2.alloc (.cells #[.slice none 0 0] 156))).alloc (Nat.le_refl _) (.cells #[.slice none 0 0,.int .i64 q.now,.slice none 0 0,.pointer (some ⟨z+2,0,none⟩),.int .i64 0] 136)).block (z+2) (by omega)
   exact h2.trans h1
 have HRA:=fun W h=>jj6 (.agg PC) p W h hp.port
 clear ST hbA qc0
 generalize ((W2.alloc (.cells #[.slice none 0 0] 156)).alloc (.cells #[.slice none 0 0,.int .i64 q.now,.slice none 0 0,.pointer (some ⟨z+2,0,none⟩),.int .i64 0] 136))=W4 at *
 go_upto_region 3 with (refine jac rfl _ rfl z p vs rfl S4.out.2.1 ?_;rw [hPC])
 refine(HRA _ (HV.out.below (by rw [hz0];exact S4.out.2.2.2.1))).mono ?_
 rintro e w5 ⟨⟨v5,rfl,hv5⟩,hb5⟩
 obtain⟨rk,hrk,hrow⟩:=hv5.out
 obtain⟨x5,cap5,hv5e⟩:=jan hrow
 have e5:v5=.slice x5 rk.length cap5:=by rw [hv5e,jcb]
 subst e5
 have RK:Hid (jbo p rk):=hrk
 have hz4:W4.heap.size=z+4:=S4.out.2.2.2.2
 have HRD:Hid (p.ships=[]∨∃ b off,∃ a cap,vs=.slice (some ⟨b,off,none⟩) a cap∧a=p.ships.length∧RdK cShip w b off p.ships):=by
  obtain⟨a,cap,e,hc,h⟩:=hsl
  rcases h with h|⟨b,off,rfl,h⟩
  ·exact Or.inl h
  ·exact Or.inr ⟨b,off,_,cap,e,rfl,h⟩
 have HPL:Hid (pl=[]∨∃ b off,∃ a cap,vp=.slice (some ⟨b,off,none⟩) a cap∧a=pl.length∧RdK cInt w b off pl):=by
  obtain⟨a,cap,e,hc,h⟩:=hpl
  rcases h with h|⟨b,off,rfl,h⟩
  ·exact Or.inl h
  ·exact Or.inr ⟨b,off,_,cap,e,rfl,h⟩
 have HPI:Hid (jbd p pl∧jaj p∧jaj q):=⟨hP,hp,hq⟩
 have hrl:rk.length≤14:=by have:=hrk.len;have:=hp.port.len;omega
 have I0:Hid (BLoop p q pl vs us rk (.slice x5 rk.length cap5) z w 0 w5):=⟨.slice none 0 0,S4.out.1.later hb5,by rw [List.take_zero];exact World.ownsRow_nil _ _ _ _,S4.out.2.1.later hb5 (by omega),S4.out.2.2.1.later hb5 (by omega),S4.out.2.2.2.1.trans (hb5.mono (by omega)),jar hrow (by omega)⟩
 clear hv5e hrow hrk hb5 hv5 S4 HRA
 go_wp2_with fail
 go_loopg [9,21] rk.length (fun kx s9 s21 wr=>∃ (k:Nat),s21=.int .i64 k∧k≤rk.length∧rk.length - k≤kx∧Hid (BLoop p q pl vs us rk (.slice x5 rk.length cap5) z w k wr))
 case atStart=>exact⟨0,rfl,Nat.zero_le _,by omega,I0⟩
 case round =>
  clear I0
  obtain⟨k,rfl,hk,hg,I⟩:=hrel
  obtain⟨vo,M,O,X,Y,BL,RR⟩:=I.out
  clear I
  by_cases hkl:k < rk.length
  ·obtain⟨i,hki⟩:∃ i,rk[k]?=some i:=⟨rk[k],List.getElem?_eq_getElem hkl⟩
   obtain⟨hil,hst⟩:=(RK.out.mem i).1 (List.mem_of_getElem? hki)
   obtain⟨s,hs⟩:∃ s,p.ships[i]?=some s:=⟨p.ships[i],List.getElem?_eq_getElem hil⟩
   have hpll:Hid (pl.length=p.ships.length):=HPI.out.1.len
   obtain⟨x,hx⟩:∃ x,pl[i]?=some x:=⟨pl[i]'(by have:=hpll.out;omega),List.getElem?_eq_getElem _⟩
   obtain⟨bb,off,_,cap,rfl,rfl,hrd⟩:∃ b off,∃ a cap,vs=.slice (some ⟨b,off,none⟩) a cap∧a=p.ships.length∧RdK cShip w b off p.ships:=by
    rcases HRD.out with h|h
    ·rw [h] at hil;simp at hil
    ·exact h
   obtain⟨pb,poff,_,pcap,rfl,rfl,prd⟩:∃ b off,∃ a cap,vp=.slice (some ⟨b,off,none⟩) a cap∧a=pl.length∧RdK cInt w b off pl:=by
    rcases HPL.out with h|h
    ·rw [h] at hx;simp at hx
    ·exact h
   obtain⟨b5,rfl,rc⟩:=rkCell RR hki
   have hBw:Below w.heap.size w wr:=by rw [hz0];exact BL
   obtain⟨c0,c1,c2,c3,c4,c5⟩:=(hrd.below hBw).ship hs
   have pc:=(prd.below hBw).int hx
   have pc1:=X.cells.2.1
   have mc:=M.cells.1
   have EX:Hid (oldOf p pl (rk.take (k+1))=oldOf p pl (rk.take k)++[(s,x)]):=by
    have:=jql (p:=p) (pl:=pl) hki
    rw [jbj hs,List.getD_eq_getElem?_getD,hx] at this
    exact this
   have hk3:(k:Int) < (rk.length:Int):=by omega
   have hi3:(i:Int) < (p.ships.length:Int):=by omega
   have hi4:(i:Int) < (pl.length:Int):=by have:=hpll.out;omega
   have OL:(oldOf p pl (rk.take k)).length=k:=by rw [jms,List.length_take];omega
   obtain⟨xo,co,hvo⟩:=jan O
   rw [OL] at hvo
   subst hvo
   have hbw:Below wr.heap.size wr (wr.alloc (.cells #[.int .i64 s.st,.int .i64 s.wd,.int .i64 s.lg,.int .i64 s.cl,.int .i64 s.si,.int .i64 s.qu,.int .i64 x] 158)).drew:=((Below.refl _ wr).alloc (Nat.le_refl _) _).drew
   have O2:Hid ((wr.alloc (.cells #[.int .i64 s.st,.int .i64 s.wd,.int .i64 s.lg,.int .i64 s.cl,.int .i64 s.si,.int .i64 s.qu,.int .i64 x] 158)).drew.ownsRow z 158 7 (.slice xo k co) (oldOf p pl (rk.take k)).length (jae cSt (oldOf p pl (rk.take k)))):=(O.alloc _).drew
   have R2:Hid (RdK cSt (wr.alloc (.cells #[.int .i64 s.st,.int .i64 s.wd,.int .i64 s.lg,.int .i64 s.cl,.int .i64 s.si,.int .i64 s.qu,.int .i64 x] 158)).drew wr.heap.size 0 [(s,x)]):=(jfe (k:=7) (c:=cSt) wr 158 ((s,x):Ship×Int) _ rfl).below ((Below.refl _ _).drew)
   have Z2:Hid (z≤(wr.alloc (.cells #[.int .i64 s.st,.int .i64 s.wd,.int .i64 s.lg,.int .i64 s.cl,.int .i64 s.si,.int .i64 s.qu,.int .i64 x] 158)).drew.heap.size∧(oldOf p pl (rk.take k)).length+1≤maxLen∧((oldOf p pl (rk.take k)).length+1)*56≤140737488355328) :=
    ⟨Nat.le_trans (Nat.le_trans (by have:=X.lt;omega) (Nat.le_refl _)) hbw.size,by rw [OL];unfold maxLen;omega,by rw [OL];omega⟩
   have M2:Hid (MB (wr.alloc (.cells #[.int .i64 s.st,.int .i64 s.wd,.int .i64 s.lg,.int .i64 s.cl,.int .i64 s.si,.int .i64 s.qu,.int .i64 x] 158)).drew z (z+3) (z+2) (.slice xo k co) q.now (.slice none 0 0) 0 (.slice none 0 0) []):=M.later hbw
   have X2:Hid (PBox (wr.alloc (.cells #[.int .i64 s.st,.int .i64 s.wd,.int .i64 s.lg,.int .i64 s.cl,.int .i64 s.si,.int .i64 s.qu,.int .i64 x] 158)).drew z p (.slice (some ⟨bb,off,none⟩) p.ships.length cap)∧PBox (wr.alloc (.cells #[.int .i64 s.st,.int .i64 s.wd,.int .i64 s.lg,.int .i64 s.cl,.int .i64 s.si,.int .i64 s.qu,.int .i64 x] 158)).drew (z+1) q us):=⟨X.later hbw X.lt,Y.later hbw Y.lt⟩
   have B2:Hid (Below z w (wr.alloc (.cells #[.int .i64 s.st,.int .i64 s.wd,.int .i64 s.lg,.int .i64 s.cl,.int .i64 s.si,.int .i64 s.qu,.int .i64 x] 158)).drew∧(wr.alloc (.cells #[.int .i64 s.st,.int .i64 s.wd,.int .i64 s.lg,.int .i64 s.cl,.int .i64 s.si,.int .i64 s.qu,.int .i64 x] 158)).drew.ownsRow z 3 1 (.slice (some ⟨b5,0,none⟩) rk.length cap5) (ints rk).length (jae cInt (ints rk))):=⟨BL.trans (hbw.mono (by have:=X.lt;omega)),ownsRow_later RR hbw⟩
   have mc2:=M2.out.cells.1
   have hm4:z+3 < wr.heap.size:=M.lt
   have NX:Hid (∀ v7 w7,(w7.ownsRow z 158 7 v7 (oldOf p pl (rk.take k)++[(s,x)]).length (jae cSt (oldOf p pl (rk.take k)++[(s,x)]))∧Below z (wr.alloc (.cells #[.int .i64 s.st,.int .i64 s.wd,.int .i64 s.lg,.int .i64 s.cl,.int .i64 s.si,.int .i64 s.qu,.int .i64 x] 158)).drew w7∧∀ j,j < (wr.alloc (.cells #[.int .i64 s.st,.int .i64 s.wd,.int .i64 s.lg,.int .i64 s.cl,.int .i64 s.si,.int .i64 s.qu,.int .i64 x] 158)).drew.heap.size→some j≠(Value.slice xo k co).ownBlock→w7.heap[j]?=(wr.alloc (.cells #[.int .i64 s.st,.int .i64 s.wd,.int .i64 s.lg,.int .i64 s.cl,.int .i64 s.si,.int .i64 s.qu,.int .i64 x] 158)).drew.heap[j]?)→MB w7 z (z+3) (z+2) (.slice xo k co) q.now (.slice none 0 0) 0 (.slice none 0 0) []∧BLoop p q pl (.slice (some ⟨bb,off,none⟩) p.ships.length cap) us rk (.slice (some ⟨b5,0,none⟩) rk.length cap5) z w (k+1) (w7.setCell ⟨z+3,0,none⟩ v7)):=by
    rintro v7 w7 ⟨h1,h2,h3⟩
    have sm:∀ {j:Nat} {c:Array Value} {t:TypeId} {f:Nat×Nat},(wr.alloc (.cells #[.int .i64 s.st,.int .i64 s.wd,.int .i64 s.lg,.int .i64 s.cl,.int .i64 s.si,.int .i64 s.qu,.int .i64 x] 158)).drew.heap[j]?=some (.cells c t f)→t≠158→w7.heap[j]?=(wr.alloc (.cells #[.int .i64 s.st,.int .i64 s.wd,.int .i64 s.lg,.int .i64 s.cl,.int .i64 s.si,.int .i64 s.qu,.int .i64 x] 158)).drew.heap[j]?:=fun hj ht=>h3 _ (Array.getElem?_eq_some_iff.1 hj).1 (jui O2.out hj ht)
    have M7:MB w7 z (z+3) (z+2) (.slice xo k co) q.now (.slice none 0 0) 0 (.slice none 0 0) []:=⟨by rw [sm M2.out.box (by decide)];exact M2.out.box,M2.out.base,by rw [sm M2.out.dr.1 (by decide)];exact M2.out.dr.1,World.ownsRow_nil _ _ _ _,by omega,Nat.le_trans M2.out.dr.2.2.2 h2.size⟩
    have X7:PBox w7 z p (.slice (some ⟨bb,off,none⟩) p.ships.length cap):=⟨X2.out.1.1,by rw [sm X2.out.1.2 (by decide)];exact X2.out.1.2⟩
    have Y7:PBox w7 (z+1) q us:=⟨X2.out.2.1,by rw [sm X2.out.2.2 (by decide)];exact X2.out.2.2⟩
    have ot:=M7.other 0 v7
    refine⟨M7,v7,M7.setOld,by rw [EX.out];exact job h1 M7.box (by decide) 0 v7,X7.other _ _ (by omega),Y7.other _ _ (by omega),(B2.out.1.trans h2).trans ot.2.2,?_⟩
    exact job (jrr B2.out.2 O2.out (by decide) h3) M7.box (by decide) 0 v7
   have hl:(oldOf p pl (rk.take k)++[(s,x)]).length=k+1:=by rw [List.length_append,OL];rfl
   clear M O X Y BL RR hrd prd hs hx hbw hBw M2 X2 B2
   go_upto_region 5 with fail
   go_region_law (refine jl5 tySt rfl (.tmp 29) (.tmp 40) rfl z (.slice xo k co) (oldOf p pl (rk.take k)) [(s,x)] wr.heap.size 0 1 1 (by simp [Act.eval,Act.put]) (by simp [Act.eval,Act.put]) rfl O2.out R2.out Z2.out.1 Z2.out.2.1 Z2.out.2.2 ?_;intro v7 w7 hw7;have N7:Hid (_∧_):=NX.out v7 w7 hw7.out;have c7:=N7.out.1.cells.1;have f7:=N7.out.1.frozen 0;obtain⟨x7,cp7,hv7⟩:=jan hw7.out.1;rw [hl] at hv7;subst hv7)
   all_goals go_wp2_with fail
   all_goals (go_roundg (rk.length - (k+1));(case measure=>omega);(case rel=>exact⟨k+1,by go_num,by omega,Nat.le_refl _,N7.out.2⟩))
  ·have hke:k=rk.length:=by omega
   subst hke
   have hk3:¬ (rk.length:Int) < (rk.length:Int):=by omega
   rw [List.take_length] at O
   have A0:Hid (MB wr z (z+3) (z+2) vo q.now (.slice none 0 0) 0 (.slice none 0 0) []∧OldS wr vo (oldOf p pl rk)∧PBox wr z p vs∧PBox wr (z+1) q us∧Below z w wr):=⟨M,joe O,X,Y,BL⟩
   have HBP:=fun W h=>Ty.base_any (.agg PC) p W h (WfQ.of HPI.out.2.1)
   have HBQ:=fun W h=>Ty.base_any (.agg QC) q W h (WfQ.of HPI.out.2.2)
   have LV:Hid (∀ W,Below z w W→PtV W (.agg PC) p∧PtV W (.agg QC) q):=fun W h=>⟨HV.out.below (by rw [hz0];exact h),HU.out.below (by rw [hz0];exact h)⟩
   clear M O X Y BL RR
   go_wp2_with (refine jac rfl _ rfl z p vs rfl A0.out.2.2.1 ?_;rw [hPC])
   refine(HBP _ (LV.out _ A0.out.2.2.2.2).1).mono ?_
   rintro e w6 ⟨⟨v6,ok6,rfl,hB6,hF6⟩,hb6⟩
   obtain⟨rfl,_,r6,hr6⟩:ok6=true∧jaj p∧∃ r,Sl w6 v6 r∧Good r∧∀ t,0≤t→t < 300→val r t=ja3 p t:=by
    rcases hB6 with h|⟨_,h,_⟩
    ·exact h
    ·exact absurd HPI.out.2.1 h
   have zr:z+3 < wr.heap.size:=A0.out.1.lt
   have A6:Hid (MB w6 z (z+3) (z+2) vo q.now (.slice none 0 0) 0 (.slice none 0 0) []∧OldS w6 vo (oldOf p pl rk)∧PBox w6 z p vs∧PBox w6 (z+1) q us∧Below z w w6∧(Sl w6 v6 r6∧Good r6∧∀ t,0≤t→t < 300→val r6 t=ja3 p t)∧Ty.FarT z w6 v6) :=
    ⟨A0.out.1.later hb6,A0.out.2.1.later hb6,A0.out.2.2.1.later hb6 (by omega),A0.out.2.2.2.1.later hb6 (by omega),A0.out.2.2.2.2.trans (hb6.mono (by omega)),hr6,(hF6 rfl).mono (by omega)⟩
   have zr6:z+3 < w6.heap.size:=A6.out.1.lt
   clear hB6 hF6 hb6 hr6 A0 HBP
   go_wp2_with (refine jac rfl _ rfl (z+1) q us rfl A6.out.2.2.2.1 ?_;rw [hQC])
   refine(HBQ _ (LV.out _ A6.out.2.2.2.2.1).2).mono ?_
   rintro e w7 ⟨⟨v7,ok7,rfl,hB7,hF7⟩,hb7⟩
   obtain⟨rfl,_,r7,hr7⟩:ok7=true∧jaj q∧∃ r,Sl w7 v7 r∧Good r∧∀ t,0≤t→t < 300→val r t=ja3 q t:=by
    rcases hB7 with h|⟨_,h,_⟩
    ·exact h
    ·exact absurd HPI.out.2.2 h
   have F7:=hF7 rfl
   have M7:=A6.out.1.later hb7
   have W8:Hid (MS (w7.setCell ⟨z+3,2,none⟩ v7) z (z+3) (z+2) vo q.now v7 r7 0 (.slice none 0 0) []∧OldS (w7.setCell ⟨z+3,2,none⟩ v7) vo (oldOf p pl rk)∧PBox (w7.setCell ⟨z+3,2,none⟩ v7) z p vs∧PBox (w7.setCell ⟨z+3,2,none⟩ v7) (z+1) q us∧Below z w (w7.setCell ⟨z+3,2,none⟩ v7)∧Sl (w7.setCell ⟨z+3,2,none⟩ v7) v6 r6∧Ty.FarT z (w7.setCell ⟨z+3,2,none⟩ v7) v6):=by
    have a:=jnz hr7.1 F7 M7.box (by decide) 2 v7
    have b:=jnz (A6.out.2.2.2.2.2.1.1.below hb7) (A6.out.2.2.2.2.2.2.later hb7) M7.box (by decide) 2 v7
    exact⟨M7.setFree.ms a.1 (a.2.mono (by omega)),(A6.out.2.1.later hb7).set M7.box (by decide) 2 v7,(A6.out.2.2.1.later hb7 (by omega)).other _ _ (by omega),(A6.out.2.2.2.1.later hb7 (by omega)).other _ _ (by omega),(A6.out.2.2.2.2.1.trans (hb7.mono (by omega))).trans (M7.other 2 v7).2.2,b.1,b.2⟩
   have PR:Hid ((Good r6∧∀ t,0≤t→t < 300→val r6 t=ja3 p t)∧(Good r7∧∀ t,0≤t→t < 300→val r7 t=ja3 q t)):=⟨A6.out.2.2.2.2.2.1.2,hr7.2⟩
   have mc:=M7.cells.2.2.1
   have mf:=M7.frozen 2
   obtain⟨g7,o7,n7,cp7,cu7,rfl,_⟩:=F7
   clear hB7 hF7 hb7 hr7 A6 HBQ M7
   go_upto_region 9 with fail
   clear mc mf
   generalize w7.setCell ⟨z+3,2,none⟩ (.slice (some ⟨g7,o7,none⟩) n7 cp7)=wA at *
   generalize hv7:(Value.slice (some ⟨g7,o7,none⟩) n7 cp7)=v7 at *
   have PA:=ji3 z (z+2) [] (.slice none 0 0) r6 v6 z p.now (-1) 0 wA.drew (W8.out.1.dr.later ((Below.refl _ _).drew)) List.Pairwise.nil (by have:=PR.out.1.1.lenL;simp;omega) (by omega) (by omega) (fun x hx=>by cases hx) (W8.out.2.2.2.2.2.1.below ((Below.refl _ _).drew)) (W8.out.2.2.2.2.2.2.later ((Below.refl _ _).drew)) PR.out.1.1.upL PR.out.1.1.bds (Or.inr rfl)
   have SA:Hid (∀ e w',je5 z (z+2) [] r6.length 16 (profF r6 p.now (-1)) wA.drew e w'→e=.returned (.tuple #[])∧w'.cell? ⟨z,0,none⟩=some (.int .i64 p.now)∧w'.cell? ⟨z+3,3,none⟩=some (.pointer (some ⟨z+2,0,none⟩))∧∃ l1 v1,MS w' z (z+3) (z+2) vo q.now v7 r7 0 v1 l1∧OldS w' vo (oldOf p pl rk)∧PBox w' (z+1) q us∧Below z w w'∧Puts [] r6.length 16 (profF r6 p.now (-1)) l1):=by
    rintro e w' ⟨rfl,l',v',hp,hdd,hb,hr⟩
    have M8:=W8.out.1.later ((Below.refl _ wA).drew)
    have M9:=M8.turn hr hdd
    have X8:PBox wA.drew z p vs:=W8.out.2.2.1
    have Y8:PBox wA.drew (z+1) q us:=W8.out.2.2.2.1
    have X9:PBox w' z p vs:=⟨X8.1,(hr.block M8.dr X8.2 (by decide) (by decide)).trans X8.2⟩
    exact⟨rfl,X9.cells.1,M9.cells.2.2.2.1,l',v',M9,(W8.out.2.1.later ((Below.refl _ wA).drew)).mf M8 (Mf.ofDr hr),⟨Y8.1,(hr.block M8.dr Y8.2 (by decide) (by decide)).trans Y8.2⟩,W8.out.2.2.2.2.1.drew.trans hb,hp⟩
   have x0:=W8.out.2.2.1.cells.1
   have m3:=W8.out.1.cells.2.2.2.1
   have hv6:∃ a b c,v6=.slice a b c:=by obtain⟨g,o,n,c,_,h,_⟩:=W8.out.2.2.2.2.2.2;exact⟨_,_,_,h⟩
   obtain⟨a6,b6,c6,rfl⟩:=hv6
   clear W8
   go_region_held (fun w'=>w'.cell? ⟨z+3,3,none⟩=some (.pointer (some ⟨z+2,0,none⟩))∧w'.cell? ⟨z,0,none⟩=some (.int .i64 p.now)) (go_keep) (first|(go_at_call 115;refine PA.mono ?_;intro e w9 h9;obtain⟨rfl,q0,q3,h9⟩:=SA.out e w9 h9;have F9:Hid _:=h9;clear h9))
   go_upto_region 10 with fail
   obtain⟨l1,v1,h9⟩:=F9.out
   have N9:Hid (MS w9 z (z+3) (z+2) vo q.now v7 r7 0 v1 l1∧OldS w9 vo (oldOf p pl rk)∧PBox w9 (z+1) q us∧Below z w w9∧Puts [] r6.length 16 (profF r6 p.now (-1)) l1):=h9
   have LB1:Hid (LB l1 (0+r6.length)):=LB.nil.puts h9.2.2.2.2
   clear h9 F9 PA SA x0 m3 q0 q3
   have PB:=ji3 z (z+2) l1 v1 r7 v7 z q.now 1 ((0+r6.length:Nat)*16) w9.drew (N9.out.1.dr.later ((Below.refl _ _).drew)) LB1.out.up (by have:=PR.out.1.1.lenL;have:=PR.out.2.1.lenL;have:=LB1.out.len;omega) (by omega) (by have:=PR.out.1.1.lenL;omega) LB1.out.bd (N9.out.1.sl.below ((Below.refl _ _).drew)) (N9.out.1.far.later ((Below.refl _ _).drew)) PR.out.2.1.upL PR.out.2.1.bds (Or.inl rfl)
   have SB:Hid (∀ e w',je5 z (z+2) l1 r7.length 16 (profF r7 q.now 1) w9.drew e w'→e=.returned (.tuple #[])∧w'.cell? ⟨z+1,0,none⟩=some (.int .i64 q.now)∧w'.cell? ⟨z+3,3,none⟩=some (.pointer (some ⟨z+2,0,none⟩))∧w'.cell? ⟨z+3,2,none⟩=some v7∧jsq p q pl w (.returned (.pointer (some ⟨z+3,0,none⟩))) w'):=by
    rintro e w' ⟨rfl,l',v',hp,hdd,hb,hr⟩
    have M8:=N9.out.1.later ((Below.refl _ w9).drew)
    have M9:=M8.turn hr hdd
    have Y8:PBox w9.drew (z+1) q us:=N9.out.2.2.1
    have Y9:PBox w' (z+1) q us:=⟨Y8.1,(hr.block M8.dr Y8.2 (by decide) (by decide)).trans Y8.2⟩
    refine⟨rfl,Y9.cells.1,M9.cells.2.2.2.1,M9.cells.2.2.1,z+3,rfl,⟨z+2,rk,r6,r7,l',vo,v7,v',⟨by rw [hz0];exact M9,(N9.out.2.1.later ((Below.refl _ w9).drew)).mf M8 (Mf.ofDr hr),PR.out.2.1,(LB1.out.puts hp).mono (by have:=PR.out.1.1.lenL;have:=PR.out.2.1.lenL;omega),jou N9.out.2.2.2.2 hp,jru HPI.out.2.1 HPI.out.1 RK.out PR.out.1.2⟩,RK.out,PR.out.1.2,PR.out.2.2⟩,by rw [hz0];exact N9.out.2.2.2.1.drew.trans hb⟩
   have y0:=N9.out.2.2.1.cells.1
   have m3:=N9.out.1.cells.2.2.2.1
   have m2:=N9.out.1.cells.2.2.1
   rw [← hv7] at m2 PB SB
   clear N9 hv7
   go_region_held (fun w'=>w'.cell? ⟨z+3,3,none⟩=some (.pointer (some ⟨z+2,0,none⟩))∧w'.cell? ⟨z+3,2,none⟩=some (.slice (some ⟨g7,o7,none⟩) n7 cp7)∧w'.cell? ⟨z+1,0,none⟩=some (.int .i64 q.now)) (go_keep) (first|(go_at_call 115;refine PB.mono ?_;intro e wB h9;obtain⟨rfl,t0,t3,t2,h9⟩:=SB.out e wB h9;have FB:Hid _:=h9;clear h9))
   go_wp2_with fail
   go_ret
   exact FB.out
theorem NI.setInt {w:World} {B gm gd:Nat} {now wn:Int} {os:List (Ship×Int)} {r l:List (Int×Int)} {lk:Int} {n:Nat} {F:Int→Int} {vo vf v:Value} (h:NI w B gm gd now wn os r lk l n F vo vf v) {g:Nat} {c:Array Value} {f:Nat×Nat} (hg:w.heap[g]?=some (.cells c 3 f)) (i:Nat) (x:Value):NI (w.setCell ⟨g,i,none⟩ x) B gm gd now wn os r lk l n F vo vf v:=by
 have ne:∀ {k:Nat} {c':Array Value} {t:TypeId} {f':Nat×Nat},w.heap[k]?=some (.cells c' t f')→t≠3→k≠g:=by
  rintro k c' t f' hk ht rfl
  have e:=hk.symm.trans hg
  injection e with e
  injection e with _ e
  exact ht e
 have hs:∀ k,k≠g→(w.setCell ⟨g,i,none⟩ x).heap[k]?=w.heap[k]?:=fun k hk=>Below.heap_setCell _ _ _ _ (by show k≠g;exact hk)
 have sz:w.heap.size≤(w.setCell ⟨g,i,none⟩ x).heap.size:=((Below.refl 0 w).setCell (p:=⟨g,i,none⟩) (Nat.zero_le _) x).size
 have a:=jnz h.ms.sl h.ms.far hg (by decide) i x
 exact⟨⟨by rw [hs gm (ne h.ms.box (by decide))];exact h.ms.box,h.ms.base,⟨by rw [hs gd (ne h.ms.dr.1 (by decide))];exact h.ms.dr.1,job h.ms.dr.2.1 hg (by decide) i x,h.ms.dr.2.2.1,Nat.le_trans h.ms.dr.2.2.2 sz⟩,a.1,a.2⟩,h.old.set hg (by decide) i x,h.good,h.lb,h.dr,h.is⟩
def juc (p q:Pt) (w:World) (e:Ending) (w':World):Prop :=
 ∃ g n,e=.returned (.tuple #[.slice (some ⟨g,0,none⟩) q.ships.length q.ships.length,.int .i64 n])∧Hid ((∃ pl',jbd q pl'∧IRow w' w.heap.size g q.ships.length pl')∧(0≤n∧∃ rk,jbo q rk∧n≤rk.length)∧(p=q→n=0)∧Below w.heap.size w w')
def MLoop (p q:Pt) (pl0:List Int) (us:Value) (rk:List Nat) (v5:Value) (z B gm gd g:Nat) (w:World) (k:Nat) (wr:World):Prop :=
 ∃ pl os r lk l n F vo vf v,NI wr B gm gd q.now p.now os r lk l n F vo vf v∧jcy q rk k pl r∧PBox wr (z+1) q us∧IRow wr g g q.ships.length pl∧wr.ownsRow (g+1) 3 1 v5 (ints rk).length (jae cInt (ints rk))∧Below z w wr∧(0≤lk∧lk≤k)∧n+2*os.length≤640+2*k∧(z+1 < B∧B≤g)∧(p=q→lk=0∧os=oldOf p pl0 (rk.drop k)∧∀ t,t < 300→sumTo l t=0)
theorem jhw (vw vn vp:Value) (p q:Pt) (pl:List Int) (w:World) (hv:PtV w vw p) (hu:PtV w vn q) (hp:jaj p) (hq:jaj q) (hpl:SlK cInt w vp pl) (hP:jbd p pl) :
  Calls Tryz.prog 67 #[vw,vn,vp] w fun e w'=>juc p q w e w':=by
 obtain⟨vs,rfl,hsl,h4,hmx⟩:=hv
 obtain⟨us,rfl,hul,u4,umx⟩:=hu
 have HV:Hid (PtV w (.agg (jaa p vs).toArray) p):=⟨vs,rfl,hsl,h4,hmx⟩
 have HU:Hid (PtV w (.agg (jaa q us).toArray) q):=⟨us,rfl,hul,u4,umx⟩
 have X1:=PBox.new w p vs h4
 have X2:=PBox.new (w.alloc (.cells (jaa p vs).toArray 41)) q us u4
 have HGP:=fun W h=>jhy (.agg (jaa p vs).toArray) p W h hp
 have HGQ:=fun W h=>jhy (.agg (jaa q us).toArray) q W h hq
 have HBE:=fun W h1 h2 h3=>jsj (.agg (jaa p vs).toArray) (.agg (jaa q us).toArray) vp p q pl W h1 h2 hp hq h3 hP
 have HRA:=fun W h=>jj6 (.agg (jaa q us).toArray) q W h hq.port
 have HUS:Hid (q.ships=[]∨∃ b off,∃ a cap,us=.slice (some ⟨b,off,none⟩) a cap∧a=q.ships.length∧RdK cShip w b off q.ships):=by
  obtain⟨a,cap,e,hc,h⟩:=hul
  rcases h with h|⟨b,off,rfl,h⟩
  ·exact Or.inl h
  ·exact Or.inr ⟨b,off,_,cap,e,rfl,h⟩
 obtain⟨ua,ucap,hue⟩:∃ a cap,us=.slice a q.ships.length cap:=by obtain⟨a,cap,e,_⟩:=hul;exact⟨a,cap,e⟩
 obtain⟨va,vcap,hve⟩:∃ a cap,vs=.slice a p.ships.length cap:=by obtain⟨a,cap,e,_⟩:=hsl;exact⟨a,cap,e⟩
 obtain⟨pa,pcap,hpe⟩:∃ a cap,vp=.slice a p.ships.length cap:=by obtain⟨a,cap,e,_⟩:=hpl;rw [hP.len] at e;exact⟨a,cap,e⟩
 subst hue hve hpe
 have HPI:Hid (jbd p pl∧jaj p∧jaj q∧SlK cInt w (.slice pa p.ships.length pcap) pl):=⟨hP,hp,hq,hpl⟩
 have hql:q.ships.length < 15:=hq.port.len
 generalize hPC:(jaa p (.slice va p.ships.length vcap)).toArray=PC at *
 generalize hQC:(jaa q (.slice ua q.ships.length ucap)).toArray=QC at *
 have hz1:(w.alloc (.cells PC 41)).heap.size=w.heap.size+1:=by simp
 rw [hz1] at X2
 have Y1:PBox ((w.alloc (.cells PC 41)).alloc (.cells QC 41)) w.heap.size p (.slice va p.ships.length vcap):=X1.later ((Below.refl _ _).alloc (Nat.le_refl _) _) X1.lt
 have B2:Below w.heap.size w ((w.alloc (.cells PC 41)).alloc (.cells QC 41)):=((Below.refl _ w).alloc (Nat.le_refl _) _).alloc (by omega) _
 have ST:Hid (PBox ((w.alloc (.cells PC 41)).alloc (.cells QC 41)) w.heap.size p (.slice va p.ships.length vcap)∧PBox ((w.alloc (.cells PC 41)).alloc (.cells QC 41)) (w.heap.size+1) q (.slice ua q.ships.length ucap)∧Below w.heap.size w ((w.alloc (.cells PC 41)).alloc (.cells QC 41))):=⟨Y1,X2,B2⟩
 clear X1 X2 Y1 B2 hp hq hpl hP hsl hul
 go_enter Tryz.func67,Tryz.ntmps67
 go_upto_region 1 with fail
 generalize ((w.alloc (.cells PC 41)).alloc (.cells QC 41))=W2 at *
 generalize hz0:w.heap.size=z at *
 have LV:Hid (∀ W,Below z w W→PtV W (.agg PC) p∧PtV W (.agg QC) q∧SlK cInt W (.slice pa p.ships.length pcap) pl):=fun W h=>⟨HV.out.below (by rw [hz0];exact h),HU.out.below (by rw [hz0];exact h),HPI.out.2.2.2.below (by rw [hz0];exact h)⟩
 have zs:Hid (z+1 < W2.heap.size):=ST.out.2.1.lt
 go_wp2_with (refine jac rfl _ rfl (z+1) q (.slice ua q.ships.length ucap) rfl ST.out.2.1 ?_;rw [hQC])
 refine(HGQ _ (LV.out _ ST.out.2.2).2.1).mono ?_
 rintro e w3 ⟨rfl,hb3⟩
 have S3:Hid (PBox w3 z p (.slice va p.ships.length vcap)∧PBox w3 (z+1) q (.slice ua q.ships.length ucap)∧Below z w w3∧z+1 < w3.heap.size):=⟨ST.out.1.later hb3 ST.out.1.lt,ST.out.2.1.later hb3 ST.out.2.1.lt,ST.out.2.2.trans (hb3.mono (by have:=zs.out;omega)),(ST.out.2.1.later hb3 ST.out.2.1.lt).lt⟩
 clear ST hb3 HGQ zs
 go_wp2_with (refine jac rfl _ rfl z p (.slice va p.ships.length vcap) rfl S3.out.1 ?_;rw [hPC])
 refine(HGP _ (LV.out _ S3.out.2.2.1).1).mono ?_
 rintro e w4 ⟨rfl,hb4⟩
 have S4:Hid (PBox w4 z p (.slice va p.ships.length vcap)∧PBox w4 (z+1) q (.slice ua q.ships.length ucap)∧Below z w w4∧z+1 < w4.heap.size):=⟨S3.out.1.later hb4 S3.out.1.lt,S3.out.2.1.later hb4 S3.out.2.1.lt,S3.out.2.2.1.trans (hb4.mono (by have:=S3.out.2.2.2;omega)),(S3.out.2.1.later hb4 S3.out.2.1.lt).lt⟩
 clear S3 hb4 HGP
 have pc1:=S4.out.1.cells.2.1
 go_upto_region 5 with fail
 clear pc1
 go_wp2_with (first|(refine jac rfl _ rfl z p (.slice va p.ships.length vcap) rfl S4.out.1 ?_;rw [hPC])|(refine jac rfl _ rfl (z+1) q (.slice ua q.ships.length ucap) rfl S4.out.2.1 ?_;rw [hQC]))
 refine(HBE _ (LV.out _ S4.out.2.2.1).1 (LV.out _ S4.out.2.2.1).2.1 (LV.out _ S4.out.2.2.1).2.2).mono ?_
 rintro e w5 ⟨gm,rfl,h5⟩
 obtain⟨⟨gd,rk0,rw_,r,l,vo,vf,v,n5,rk5,vw5,vr5⟩,hb5⟩:=h5.out
 have S5:Hid (NI w5 w4.heap.size gm gd q.now p.now (oldOf p pl rk0) r 0 l 600 (wasF p.now rw_) vo vf v∧PBox w5 (z+1) q (.slice ua q.ships.length ucap)∧Below z w w5∧z+1 < w4.heap.size∧w4.heap.size≤w5.heap.size):=⟨n5,S4.out.2.1.later hb5 S4.out.2.1.lt,S4.out.2.2.1.trans (hb5.mono (by have:=S4.out.2.2.2;omega)),S4.out.2.2.2,hb5.size⟩
 have MT:Hid (jbo p rk0∧(∀ t,0≤t→t < 300→val rw_ t=ja3 p t)∧∀ t,0≤t→t < 300→val r t=ja3 q t):=⟨rk5,vw5,vr5⟩
 clear h5 n5 rk5 vw5 vr5 hb5 S4 HBE
 generalize w4.heap.size=B at *
 have qc1:=S5.out.2.1.cells.2.1
 have C1:Hid ((w5.alloc (.cells #[.int .i64 (-1)] 3)).cell? ⟨w5.heap.size,0,none⟩=some (.int .i64 (-1))):=(jhj w5 3 (-1)).int (j:=0) rfl
 have hb6:Below w5.heap.size w5 (w5.alloc (.cells #[.int .i64 (-1)] 3)):=(Below.refl _ w5).alloc (Nat.le_refl _) _
 have S6:Hid (NI (w5.alloc (.cells #[.int .i64 (-1)] 3)) B gm gd q.now p.now (oldOf p pl rk0) r 0 l 600 (wasF p.now rw_) vo vf v∧PBox (w5.alloc (.cells #[.int .i64 (-1)] 3)) (z+1) q (.slice ua q.ships.length ucap)∧Below z w (w5.alloc (.cells #[.int .i64 (-1)] 3))∧z+1 < B∧B≤(w5.alloc (.cells #[.int .i64 (-1)] 3)).heap.size):=⟨S5.out.1.later hb6,S5.out.2.1.later hb6 S5.out.2.1.lt,S5.out.2.2.1.trans (hb6.mono (by have:=S5.out.2.2.2;omega)),S5.out.2.2.2.1,Nat.le_trans S5.out.2.2.2.2 hb6.size⟩
 have qc1b:=S6.out.2.1.cells.2.1
 have RP:Calls Tryz.prog 90 #[.slice (some ⟨w5.heap.size,0,none⟩) 1 1,.int .i64 q.ships.length] (w5.alloc (.cells #[.int .i64 (-1)] 3)) fun e w'=>e=.returned (.slice (some ⟨(w5.alloc (.cells #[.int .i64 (-1)] 3)).heap.size,0,none⟩) q.ships.length q.ships.length)∧Hid (IRow w' (w5.alloc (.cells #[.int .i64 (-1)] 3)).heap.size (w5.alloc (.cells #[.int .i64 (-1)] 3)).heap.size q.ships.length (List.replicate q.ships.length (-1))∧Below (w5.alloc (.cells #[.int .i64 (-1)] 3)).heap.size (w5.alloc (.cells #[.int .i64 (-1)] 3)) w'):=jqd w5.heap.size q.ships.length (by omega) (w5.alloc (.cells #[.int .i64 (-1)] 3)) C1.out
 clear hb6 C1
 go_upto_region 6 with fail
 go_wp2_with fail
 refine RP.mono ?_
 rintro e w7 ⟨rfl,h7⟩
 clear qc1 qc1b RP S5
 generalize hWB:w5.alloc (.cells #[.int .i64 (-1)] 3)=WB at *
 have S7:Hid (NI w7 B gm gd q.now p.now (oldOf p pl rk0) r 0 l 600 (wasF p.now rw_) vo vf v∧PBox w7 (z+1) q (.slice ua q.ships.length ucap)∧Below z w w7∧(z+1 < B∧B≤WB.heap.size)∧IRow w7 WB.heap.size WB.heap.size q.ships.length (List.replicate q.ships.length (-1))):=⟨S6.out.1.later h7.out.2,S6.out.2.1.later h7.out.2 S6.out.2.1.lt,S6.out.2.2.1.trans (h7.out.2.mono (by have:=S6.out.2.2.2;omega)),⟨S6.out.2.2.2.1,S6.out.2.2.2.2⟩,h7.out.1⟩
 clear h7 S6 hWB
 generalize WB.heap.size=g at *
 go_wp2_with (refine jac rfl _ rfl (z+1) q (.slice ua q.ships.length ucap) rfl S7.out.2.1 ?_;rw [hQC])
 refine(HRA _ (LV.out _ S7.out.2.2.1).2.1).mono ?_
 rintro e w8 ⟨⟨v5,rfl,hv5⟩,hb8⟩
 obtain⟨rk,hrk,hrow⟩:=hv5.out
 obtain⟨x5,cap5,hv5e⟩:=jan hrow
 have e5:v5=.slice x5 rk.length cap5:=by rw [hv5e,jcb]
 subst e5
 have RK:Hid (jbo q rk):=hrk
 have hrl:rk.length≤14:=by have:=hrk.len;omega
 have hrl0:(oldOf p pl rk0).length≤14:=by rw [jms];have:=MT.out.1.len;have:=HPI.out.2.1.port.len;omega
 have I0:Hid (MLoop p q pl (.slice ua q.ships.length ucap) rk (.slice x5 rk.length cap5) z B gm gd g w 0 w8):=by
  refine⟨_,_,r,0,l,600,_,vo,vf,v,S7.out.1.later hb8,jcy.start S7.out.1.good MT.out.2.2,S7.out.2.1.later hb8 S7.out.2.1.lt,OwnK.later S7.out.2.2.2.2 hb8,jar hrow (OwnK.lt S7.out.2.2.2.2),S7.out.2.2.1.trans (hb8.mono (by have:=S7.out.2.1.lt;omega)),⟨Int.le_refl _,by omega⟩,by omega,S7.out.2.2.2.1,?_⟩
  rintro rfl
  refine⟨rfl,by rw [List.drop_zero,MT.out.1.unique RK.out],fun t ht=>?_⟩
  rw [S7.out.1.dr.says t ht]
  unfold wasF
  by_cases c:p.now≤t
  ·have h0:=HPI.out.2.1.port.now.1
   rw [if_pos c,if_pos c,MT.out.2.1 t (by omega) ht,MT.out.2.2 t (by omega) ht]
   omega
  ·rw [if_neg c,if_neg c]
   omega
 clear hv5e hrow hrk hb8 hv5 S7 HRA MT
 go_wp2_with fail
 go_loopg [11,41] rk.length (fun kx s11 s41 wr=>∃ (k:Nat),s41=.int .i64 k∧k≤rk.length∧rk.length - k≤kx∧Hid (MLoop p q pl (.slice ua q.ships.length ucap) rk (.slice x5 rk.length cap5) z B gm gd g w k wr))
 case atStart=>exact⟨0,rfl,Nat.zero_le _,by omega,I0⟩
 case round =>
  clear I0
  obtain⟨k,rfl,hk,hg,I⟩:=hrel
  obtain⟨plk,os,rk_,lk,lk_,n,F,vok,vfk,vk,N,J,X,R,RR,BL,hlk,hn,hB,ID⟩:=I.out
  clear I
  by_cases hkl:k < rk.length
  ·obtain⟨i,hki⟩:∃ i,rk[k]?=some i:=⟨rk[k],List.getElem?_eq_getElem hkl⟩
   obtain⟨hil,hst⟩:=(RK.out.mem i).1 (List.mem_of_getElem? hki)
   obtain⟨s,hs⟩:∃ s,q.ships[i]?=some s:=⟨q.ships[i],List.getElem?_eq_getElem hil⟩
   obtain⟨bb,off,_,cap,hue,rfl,hrd⟩:∃ b off,∃ a cap,(Value.slice ua q.ships.length ucap)=.slice (some ⟨b,off,none⟩) a cap∧a=q.ships.length∧RdK cShip w b off q.ships:=by
    rcases HUS.out with h|h
    ·rw [h] at hil;simp at hil
    ·exact h
   injection hue with hu1 hu2 hu3
   subst hu1 hu3
   obtain⟨b5,rfl,rc⟩:=rkCell RR hki
   have hBw:Below w.heap.size w wr:=by rw [hz0];exact BL
   obtain⟨c0,c1,c2,c3,c4,c5⟩:=(hrd.below hBw).ship hs
   have qc1:=X.cells.2.1
   have hk3:(k:Int) < (rk.length:Int):=by omega
   have hi3:(i:Int) < (q.ships.length:Int):=by omega
   have HSH:=jhs HPI.out.2.2.1.port i hil
   rw [jbj hs] at HSH
   have hq0:=HPI.out.2.2.1.port.now.1
   have hp0:=HPI.out.2.1.port.now.1
   have NA:=jti B gm gd q.now p.now os rk_ lk lk_ n F vok vfk vk s wr N (by omega) ⟨HSH.1.wd,HSH.1.lg⟩ hq0 hp0 ⟨hlk.1,by omega⟩
   have NX:Hid (∀ e w',jik B gm gd q.now p.now os rk_ lk lk_ n s wr e w'→∃ x y,e=.returned (.int .i64 x)∧w'.cell? ⟨g,i,none⟩=some (.int .i64 y)∧w'.frozen? ⟨g,i,none⟩=false∧MLoop p q pl (.slice (some ⟨bb,off,none⟩) q.ships.length ucap) rk (.slice (some ⟨b5,0,none⟩) rk.length cap5) z B gm gd g w (k+1) (w'.setCell ⟨g,i,none⟩ (.int .i64 x))):=by
    rintro e w' ⟨x,rfl,h⟩
    obtain⟨os',r',lk',l',n',F',vo',vf',v',N',hf,hv,hlk',hn',hM,hb,hid⟩:=h.out
    obtain⟨cur,hcur,hcs,hct⟩:=R.row
    have eg:=hM.block N.ms hcur (by decide) (by decide) (by decide)
    have R':IRow w' g g q.ships.length plk:=⟨R.base,R.le,R.max,cur,eg.trans hcur,hcs,hct⟩
    have hil':i < plk.length:=by rw [J.len];exact hil
    have X':PBox w' (z+1) q (.slice (some ⟨bb,off,none⟩) q.ships.length ucap):=⟨X.1,(hM.block N.ms X.2 (by decide) (by decide) (by decide)).trans X.2⟩
    have RR':w'.ownsRow (g+1) 3 1 (.slice (some ⟨b5,0,none⟩) rk.length cap5) (ints rk).length (jae cInt (ints rk)):=by
     refine⟨RR.1,?_⟩
     rcases RR.2 with h0|⟨b,cap',cur',h0,h1,h2,h3⟩
     ·exact Or.inl h0
     ·exact Or.inr ⟨b,cap',cur',h0,h1,(hM.block N.ms h2 (by decide) (by decide) (by decide)).trans h2,h3⟩
    have BL':Below z w w':=BL.trans (hb.mono (by omega))
    refine⟨x,plk[i],rfl,R'.cell (List.getElem?_eq_getElem hil'),R'.frozen i,plk.set i x,os',r',lk',l',n',F',vo',vf',v',N'.setInt (eg.trans hcur) i _,J.step RK.out hki hq0 (by rw [jbj hs];exact hf) N'.good (fun t ta tb=>by rw [jbj hs];exact hv t ta tb),X'.other _ _ (by omega),R'.set hil' x,jal RR' (fun j hj=>Below.heap_setCell _ _ _ _ (by show j≠g;omega)),BL'.setCell (by show z≤g;omega) _,⟨by omega,by omega⟩,by omega,hB,?_⟩
    intro hpq
    obtain⟨i1,i2,i3⟩:=ID hpq
    have hdk:rk.drop k=i::rk.drop (k+1):=by
     have:=List.drop_eq_getElem_cons hkl
     rw [this]
     have e:rk[k]=i:=by
      have:=List.getElem?_eq_getElem hkl
      rw [hki] at this
      exact(Option.some.inj this).symm
     rw [e]
    have hos:os=(s,pl.getD i (-1))::oldOf p pl (rk.drop (k+1)):=by
     rw [i2,hdk]
     show(shp p i,pl.getD i (-1))::_=_
     rw [hpq,jbj hs]
     rfl
    have hfit:FitIs rk_ q.now s.lg s.wd (pl.getD i (-1)):=by
     have hO:=N.is
     rw [hos] at hO
     have hF:=hO.1.1
     have hF2:FitF F q.now s.lg s.wd (pl.getD i (-1)):=by rw [← hpq];exact hF
     refine hF2.congr fun t ta tb=>?_
     have e1:=N.dr.says t tb
     rw [i3 t tb,if_pos ta] at e1
     omega
    obtain⟨j1,j2,j3⟩:=hid ⟨_,_,hos,fun t ht=>by rw [i3 t ht];exact Int.le_refl _,hfit⟩
    refine⟨by rw [j1];exact i1,by rw [j2,hos];rfl,by rw [j3];exact i3⟩
   clear N J X R RR BL hrd ID hs hBw HSH
   go_upto_region 10 with fail
   go_wp2_with (first|(go_at_call 92;refine NA.mono ?_;intro e w9 h9;obtain⟨x,y,rfl,y9,f9,h9⟩:=NX.out e w9 h9;have F9:Hid _:=h9;clear h9))
   go_roundg (rk.length - (k+1))
   case measure=>omega
   case rel=>exact⟨k+1,by go_num,by omega,Nat.le_refl _,F9⟩
  ·have hke:k=rk.length:=by omega
   subst hke
   have hk3:¬ (rk.length:Int) < (rk.length:Int):=by omega
   have m4:=N.ms.cells.2.2.2.2
   have D:Hid (∀ m,(∃ pl',jbd q pl'∧IRow (wr.drewN m) w.heap.size g q.ships.length pl')∧(0≤lk∧∃ rk,jbo q rk∧lk≤rk.length)∧(p=q→lk=0)∧Below w.heap.size w (wr.drewN m)):=fun m=>by
    exact⟨⟨_,J.done RK.out,OwnK.mono (OwnK.later R (below_drewN (Below.refl _ _) m)) (by rw [hz0];omega)⟩,⟨hlk.1,rk,RK.out,hlk.2⟩,fun h=>(ID h).1,by rw [hz0];exact below_drewN BL m⟩
   clear N J X R RR BL ID
   go_upto_region 12 with fail
   go_quiet (fail)
   go_wp2_with fail
   go_ret2
   exact⟨_,_,rfl,D.out _⟩
end Go.Proofs.YtcmdoeledmkfmacGreatDoor
