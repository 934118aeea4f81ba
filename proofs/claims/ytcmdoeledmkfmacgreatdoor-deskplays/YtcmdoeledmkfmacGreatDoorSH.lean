/- Texts of this claim, in one: PKeepW PKeepV PTellAll. -/
import Derived.Test.YtcmdoeledmkfmacGreatDoorS6
import Derived.Test.YtcmdoeledmkfmacGreatDoorS9
import Derived.Test.YtcmdoeledmkfmacGreatDoorS8
set_option linter.unusedSimpArgs false
set_option linter.unusedVariables false
set_option maxHeartbeats 40000000
set_option maxRecDepth 100000
namespace Go.Proofs.YtcmdoeledmkfmacGreatDoor
open Go.RowKit
def Fst (l:List Kp) (j:Nat):Prop:=(∃ k,l[j]?=some k∧isNo k=true)∧∀ j' k,j' < j→l[j']?=some k→isNo k=false
def IdxIs (l:List Kp) (i:Int):Prop:=(i=-1∧∀ (j:Nat) k,l[j]?=some k→isNo k=false)∨∃ j:Nat,i=j∧Fst l j
theorem jsb (k:Kp) (w:World):(Op.equalIn 10000 38 (.agg #[.int .i64 0,.int .i64 0,.int .i64 0]) (.agg #[.int .i64 k.wd,.int .i64 k.fr,.int .i64 k.to])).run Tryz.prog w=.ok (isNo k) w:=by
 have u3:=Tryz.underlying3
 have a3:=Tryz.isAgg3
 have z3:=Tryz.sizeOf3
 have hS:Tryz.prog.underlying 38=some (.struct (Tryz.prog.fieldsOf 38)):=by kernel_rfl
 have hp:Tryz.prog.stoodInHeld 38=false:=by kernel_rfl
 unfold isNo
 rw [show(10000:Nat)=9999+1 from rfl,run_equalIn_agg w 9999 38 _ _ hS hp]
 simp only [Program.fieldsOf,Tryz.underlying38]
 go_simp
 have sy:∀ n:Int,(0=n)=(n=0):=fun n=>propext ⟨Eq.symm,Eq.symm⟩
 by_cases h1:k.wd=0 <;> by_cases h2:k.fr=0 <;> by_cases h3:k.to=0 <;> simp [sy,h1,h2,h3]
theorem jsa (k:Kp) (w:World):(Op.equalIn 10000 38 (.agg #[.int .i64 k.wd,.int .i64 k.fr,.int .i64 k.to]) (.agg #[.int .i64 0,.int .i64 0,.int .i64 0])).run Tryz.prog w=.ok (isNo k) w:=by
 have u3:=Tryz.underlying3
 have a3:=Tryz.isAgg3
 have z3:=Tryz.sizeOf3
 have hS:Tryz.prog.underlying 38=some (.struct (Tryz.prog.fieldsOf 38)):=by kernel_rfl
 have hp:Tryz.prog.stoodInHeld 38=false:=by kernel_rfl
 unfold isNo
 rw [show(10000:Nat)=9999+1 from rfl,run_equalIn_agg w 9999 38 _ _ hS hp]
 simp only [Program.fieldsOf,Tryz.underlying38]
 go_simp
 by_cases h1:k.wd=0 <;> by_cases h2:k.fr=0 <;> by_cases h3:k.to=0 <;> simp [h1,h2,h3]
theorem jlb (b off:Nat) (l:List Kp) (hl:l.length=4) (w:World) (hr:RdK cKp w b off l) :
  Calls Tryz.prog 151 #[.slice (some ⟨b,off,none⟩) 4 4,.agg #[.int .i64 0,.int .i64 0,.int .i64 0]] w fun e w'=>∃ i,e=.returned (.int .i64 i)∧Hid (IdxIs l i∧Below w.heap.size w w'):=by
 have I0:Hid (Below w.heap.size w (w.alloc (.cells #[.int .i64 0,.int .i64 0,.int .i64 0] 38))∧(w.alloc (.cells #[.int .i64 0,.int .i64 0,.int .i64 0] 38)).heap[w.heap.size]?=some (.cells #[.int .i64 0,.int .i64 0,.int .i64 0] 38 (0,0))∧RdK cKp (w.alloc (.cells #[.int .i64 0,.int .i64 0,.int .i64 0] 38)) b off l∧∀ (j:Nat) k,j < 0→l[j]?=some k→isNo k=false):=by
  have hb:Below w.heap.size w (w.alloc (.cells #[.int .i64 0,.int .i64 0,.int .i64 0] 38)):=(Below.refl _ w).alloc (Nat.le_refl _) _
  exact⟨hb,heap_alloc_new w _,hr.below hb,fun j k hj=>absurd hj (Nat.not_lt_zero _)⟩
 clear hr
 go_enter Tryz.func151,Tryz.ntmps151
 go_wp2_with fail
 generalize w.alloc (.cells #[.int .i64 0,.int .i64 0,.int .i64 0] 38)=W at *
 generalize hz:w.heap.size=z at *
 go_loopg [5,8] 4 (fun kx s5 s8 wr=>∃ (j:Nat),s8=.int .i64 j∧j≤4∧4 - j≤kx∧Hid (Below z w wr∧wr.heap[z]?=some (.cells #[.int .i64 0,.int .i64 0,.int .i64 0] 38 (0,0))∧RdK cKp wr b off l∧∀ (j':Nat) k,j' < j→l[j']?=some k→isNo k=false))
 case atStart=>exact⟨0,rfl,Nat.zero_le _,by omega,I0⟩
 case round =>
  clear I0
  obtain⟨j,rfl,hj,hg,I⟩:=hrel
  by_cases hjl:j < 4
  ·obtain⟨kk,hkk⟩:∃ k,l[j]?=some k:=⟨l[j]'(by omega),List.getElem?_eq_getElem _⟩
   have EQ:=fun W=>jsb kk W
   obtain⟨c0,c1,c2⟩:=I.out.2.2.1.kp hkk
   obtain⟨kw,kf,kt⟩:=kk
   simp only at *
   have z0:wr.cell? ⟨z,0,none⟩=some (.int .i64 0):=by rw [cell_of_row _ _ _ _ _ _ I.out.2.1];rfl
   have z1:wr.cell? ⟨z,1,none⟩=some (.int .i64 0):=by rw [cell_of_row _ _ _ _ _ _ I.out.2.1];rfl
   have z2:wr.cell? ⟨z,2,none⟩=some (.int .i64 0):=by rw [cell_of_row _ _ _ _ _ _ I.out.2.1];rfl
   have HK:Hid (l[j]?=some ⟨kw,kf,kt⟩):=hkk
   have hj3:(j:Int) < 4:=by omega
   have NX:Hid (∀ m,Below z w (wr.drewN m)∧(wr.drewN m).heap[z]?=some (.cells #[.int .i64 0,.int .i64 0,.int .i64 0] 38 (0,0))∧RdK cKp (wr.drewN m) b off l):=fun m=>by
    have hb:Below wr.heap.size wr (wr.drewN m):=below_drewN (Below.refl _ _) m
    exact⟨below_drewN I.out.1 m,by rw [hb.block z (Array.getElem?_eq_some_iff.1 I.out.2.1).1];exact I.out.2.1,I.out.2.2.1.below hb⟩
   have IN:Hid (∀ (j':Nat) k,j' < j→l[j']?=some k→isNo k=false):=I.out.2.2.2
   clear hkk I
   cases hz2:isNo ⟨kw,kf,kt⟩
   case false =>
    have I2:Hid (∀ (j':Nat) k,j' < j+1→l[j']?=some k→isNo k=false):=fun j' k h1 h2=>by
     by_cases e:j'=j
     ·subst e;rw [HK.out] at h2;injection h2 with h2;subst h2;exact hz2
     ·exact IN.out j' k (by omega) h2
    rw [hz2] at EQ
    clear hz2
    go_upto_region 4 with fail
    go_quiet (fail)
    go_wp2_with fail
    go_roundg (4 - (j+1))
    case measure=>omega
    case rel=>exact⟨j+1,by go_num,by omega,Nat.le_refl _,(NX.out _).1,(NX.out _).2.1,(NX.out _).2.2,I2.out⟩
   case true =>
    have D:Hid (IdxIs l j):=Or.inr ⟨j,rfl,⟨_,HK.out,hz2⟩,IN.out⟩
    rw [hz2] at EQ
    clear hz2
    go_upto_region 4 with fail
    go_quiet (fail)
    go_wp2_with fail
    go_ret
    exact⟨_,rfl,D.out,by rw [hz];exact(NX.out _).1⟩
  ·have hje:j=4:=by omega
   subst hje
   have D:Hid (IdxIs l (-1)∧Below w.heap.size w wr):=⟨Or.inl ⟨rfl,fun j k hk=>I.out.2.2.2 j k (by have:=(List.getElem?_eq_some_iff.1 hk).1;omega) hk⟩,by rw [hz];exact I.out.1⟩
   clear I
   go_wp2_with fail
   go_ret
   exact⟨_,rfl,D⟩
theorem PBox.setKept {w:World} {g:Nat} {p:Pt} {vs:Value} (h:PBox w g p vs) {i:Nat} (hi:i < 4) (a b c:Int):PBox (((w.setCell ⟨g,2+i*3,none⟩ (.int .i64 a)).setCell ⟨g,2+i*3+1,none⟩ (.int .i64 b)).setCell ⟨g,2+i*3+2,none⟩ (.int .i64 c)) g { p with kept:=p.kept.set i ⟨a,b,c⟩ } vs:=by
 obtain⟨now,ships,kept,shut,next⟩:=p
 have h4:kept.length=4:=h.1
 match kept,h4 with
 | [k0,k1,k2,k3],_ =>
  match i,hi with
  | 0,_=>exact((h.write 2 (.int .i64 a) ⟨now,ships,[⟨a,k0.fr,k0.to⟩,k1,k2,k3],shut,next⟩ vs rfl rfl).write 3 (.int .i64 b) ⟨now,ships,[⟨a,b,k0.to⟩,k1,k2,k3],shut,next⟩ vs rfl rfl).write 4 (.int .i64 c) ⟨now,ships,[⟨a,b,c⟩,k1,k2,k3],shut,next⟩ vs rfl rfl
  | 1,_=>exact((h.write 5 (.int .i64 a) ⟨now,ships,[k0,⟨a,k1.fr,k1.to⟩,k2,k3],shut,next⟩ vs rfl rfl).write 6 (.int .i64 b) ⟨now,ships,[k0,⟨a,b,k1.to⟩,k2,k3],shut,next⟩ vs rfl rfl).write 7 (.int .i64 c) ⟨now,ships,[k0,⟨a,b,c⟩,k2,k3],shut,next⟩ vs rfl rfl
  | 2,_=>exact((h.write 8 (.int .i64 a) ⟨now,ships,[k0,k1,⟨a,k2.fr,k2.to⟩,k3],shut,next⟩ vs rfl rfl).write 9 (.int .i64 b) ⟨now,ships,[k0,k1,⟨a,b,k2.to⟩,k3],shut,next⟩ vs rfl rfl).write 10 (.int .i64 c) ⟨now,ships,[k0,k1,⟨a,b,c⟩,k3],shut,next⟩ vs rfl rfl
  | 3,_=>exact((h.write 11 (.int .i64 a) ⟨now,ships,[k0,k1,k2,⟨a,k3.fr,k3.to⟩],shut,next⟩ vs rfl rfl).write 12 (.int .i64 b) ⟨now,ships,[k0,k1,k2,⟨a,b,k3.to⟩],shut,next⟩ vs rfl rfl).write 13 (.int .i64 c) ⟨now,ships,[k0,k1,k2,⟨a,b,c⟩],shut,next⟩ vs rfl rfl
theorem PQ.setKept {B g:Nat} {w:World} {q:Pt} {vs:Value} (H:PQ B w g q vs) {i:Nat} (hi:i < 4) (a b c:Int):PQ B (((w.setCell ⟨g,2+i*3,none⟩ (.int .i64 a)).setCell ⟨g,2+i*3+1,none⟩ (.int .i64 b)).setCell ⟨g,2+i*3+2,none⟩ (.int .i64 c)) g { q with kept:=q.kept.set i ⟨a,b,c⟩ } vs∧Below B w (((w.setCell ⟨g,2+i*3,none⟩ (.int .i64 a)).setCell ⟨g,2+i*3+1,none⟩ (.int .i64 b)).setCell ⟨g,2+i*3+2,none⟩ (.int .i64 c)):=by
 have hb:Below B w (((w.setCell ⟨g,2+i*3,none⟩ (.int .i64 a)).setCell ⟨g,2+i*3+1,none⟩ (.int .i64 b)).setCell ⟨g,2+i*3+2,none⟩ (.int .i64 c)):=(((Below.refl B w).setCell (p:=⟨g,_,none⟩) H.2.2.2 _).setCell (p:=⟨g,_,none⟩) H.2.2.2 _).setCell (p:=⟨g,_,none⟩) H.2.2.2 _
 have hX:=H.1.setKept hi a b c
 refine⟨⟨hX,?_,Nat.le_trans H.2.2.1 hb.size,H.2.2.2⟩,hb⟩
 refine⟨H.2.1.1,?_⟩
 rcases H.2.1.2 with h0|⟨b',cap,cur,h0,h1,h2,h3⟩
 ·exact Or.inl h0
 ·refine Or.inr ⟨b',cap,cur,h0,h1,?_,h3⟩
  have hne:b'≠g:=by
   rintro rfl
   have e:=h2.symm.trans H.1.2
   injection e with e
   injection e with _ e
   exact absurd e (by decide)
  rw [Below.heap_setCell _ _ _ _ (by show b'≠g;exact hne),Below.heap_setCell _ _ _ _ (by show b'≠g;exact hne),Below.heap_setCell _ _ _ _ (by show b'≠g;exact hne)]
  exact h2
def jeg (q:Pt) (a b c:Int):Prop:=(1≤a∧a≤16)∧q.now≤b∧(0≤b∧b < c∧c≤300)
def jnt (q:Pt) (a b c n er:Int) (q':Pt):Prop :=
 (¬ jeg q a b c∧er=2∧n=0∧q'=q) ∨
 (jeg q a b c∧(∀ (j:Nat) k,q.kept[j]?=some k→isNo k=false)∧er=5∧n=0∧q'=q) ∨
 (jeg q a b c∧∃ j:Nat,Fst q.kept j∧er=0∧n=j∧q'={ q with kept:=q.kept.set j ⟨a,b,c⟩ })
def jnu (q:Pt) (i:Int) (n er:Int) (q':Pt):Prop :=
 (¬ (0≤i∧i≤3)∧er=3∧n=0∧q'=q) ∨
 (∃ j k,i=((j:Nat):Int)∧j < 4∧q.kept[j]?=some k∧isNo k=true∧er=3∧n=0∧q'=q) ∨
 (∃ j k,i=((j:Nat):Int)∧j < 4∧q.kept[j]?=some k∧isNo k=false∧er=0∧n=0∧q'={ q with kept:=q.kept.set j ⟨0,0,0⟩ })
theorem jtw (g B:Nat) (q:Pt) (vs:Value) (i:Int) (w:World) (H:PQ B w g q vs) :
  Calls Tryz.prog 111 #[.pointer (some ⟨g,0,none⟩),.int .i64 i] w fun e w'=>∃ er,e=.returned (.int .i64 er)∧Hid (∃ q',jnu q i 0 er q'∧PQ B w' g q' vs∧Below B w w'):=by
 have B0:Hid (Below B w w):=Below.refl _ _
 have HH:Hid (PQ B w g q vs):=H
 rcases jbz i 0 3 with b1|b1
 case inr =>
  have D:Hid (∃ q',jnu q i 0 3 q'∧PQ B w g q' vs∧Below B w w):=⟨q,Or.inl ⟨jb0 b1,rfl,rfl,rfl⟩,H,B0.out⟩
  clear H
  go_enter Tryz.func111,Tryz.ntmps111
  go_wp2_with (first|(go_at_call 107;refine(jb5 _ _ _ _).mono ?_;rintro e w' ⟨rfl,rfl⟩))
  go_ret
  exact⟨_,rfl,D⟩
 have Y:=jba b1
 obtain⟨j,rfl,hj⟩:∃ j:Nat,i=j∧j < 4:=⟨i.toNat,by omega,by omega⟩
 have h4:q.kept.length=4:=H.1.1
 obtain⟨k,hk⟩:∃ k,q.kept[j]?=some k:=⟨q.kept[j]'(by omega),List.getElem?_eq_getElem _⟩
 obtain⟨c0,c1,c2⟩:w.cell? ⟨g,2+j*3,none⟩=some (.int .i64 k.wd)∧w.cell? ⟨g,2+j*3+1,none⟩=some (.int .i64 k.fr)∧w.cell? ⟨g,2+j*3+2,none⟩=some (.int .i64 k.to):=by
  obtain⟨a,cap,e,_,hr⟩:=H.1.slKept
  injection e with e1 e2 e3
  rcases hr with hr|⟨b,off,hb,hr⟩
  ·rw [hr] at h4;cases h4
  ·rw [← e1] at hb
   injection hb with hb
   injection hb with h1 h2
   subst h1 h2
   exact hr.kp hk
 have EQ:=fun W=>jsa k W
 have f0:=H.1.frozen (2+j*3)
 have f1:=H.1.frozen (2+j*3+1)
 have f2:=H.1.frozen (2+j*3+2)
 have hj3:(j:Int) < 4:=by omega
 have hj0:(0:Int)≤(j:Int):=by omega
 cases hn:isNo k
 case true =>
  have D:Hid (∃ q',jnu q j 0 3 q'∧PQ B w g q' vs∧Below B w w):=⟨q,Or.inr (Or.inl ⟨j,k,rfl,hj,hk,hn,rfl,rfl,rfl⟩),H,B0.out⟩
  rw [hn] at EQ
  clear H hk hn
  go_enter Tryz.func111,Tryz.ntmps111
  go_wp2_with (first|(go_at_call 107;refine(jb5 _ _ _ _).mono ?_;rintro e w' ⟨rfl,rfl⟩))
  go_ret
  exact⟨_,rfl,D⟩
 case false =>
  have K:=H.setKept hj 0 0 0
  have D:Hid (∃ q',jnu q j 0 0 q'∧PQ B (((w.setCell ⟨g,2+j*3,none⟩ (.int .i64 0)).setCell ⟨g,2+j*3+1,none⟩ (.int .i64 0)).setCell ⟨g,2+j*3+2,none⟩ (.int .i64 0)) g q' vs∧Below B w (((w.setCell ⟨g,2+j*3,none⟩ (.int .i64 0)).setCell ⟨g,2+j*3+1,none⟩ (.int .i64 0)).setCell ⟨g,2+j*3+2,none⟩ (.int .i64 0))):=⟨_,Or.inr (Or.inr ⟨j,k,rfl,hj,hk,hn,rfl,rfl,rfl⟩),K.1,K.2⟩
  rw [hn] at EQ
  clear H hk hn K
  go_enter Tryz.func111,Tryz.ntmps111
  go_wp2_with (first|(go_at_call 107;refine(jb5 _ _ _ _).mono ?_;rintro e w' ⟨rfl,rfl⟩))
  go_ret
  exact⟨_,rfl,D⟩
theorem jtn (g B:Nat) (q:Pt) (vs:Value) (a b c:Int) (w:World) (H:PQ B w g q vs) :
  Calls Tryz.prog 110 #[.pointer (some ⟨g,0,none⟩),.agg #[.int .i64 a,.int .i64 b,.int .i64 c]] w fun e w'=>∃ n er,e=.returned (.tuple #[.int .i64 n,.int .i64 er])∧Hid (∃ q',jnt q a b c n er q'∧PQ B w' g q' vs∧Below B w w'):=by
 have hbw:Below w.heap.size w (w.alloc (.cells #[.int .i64 a,.int .i64 b,.int .i64 c] 38)):=(Below.refl _ w).alloc (Nat.le_refl _) _
 have E0:Hid (PQ B (w.alloc (.cells #[.int .i64 a,.int .i64 b,.int .i64 c] 38)) g q vs∧Below B w (w.alloc (.cells #[.int .i64 a,.int .i64 b,.int .i64 c] 38))∧(w.alloc (.cells #[.int .i64 a,.int .i64 b,.int .i64 c] 38)).heap[w.heap.size]?=some (.cells #[.int .i64 a,.int .i64 b,.int .i64 c] 38 (0,0))∧g≠w.heap.size):=⟨H.later hbw,hbw.mono H.2.2.1,heap_alloc_new w _,by have:=H.1.lt;omega⟩
 clear hbw H
 generalize hW:w.alloc (.cells #[.int .i64 a,.int .i64 b,.int .i64 c] 38)=W at *
 generalize hz:w.heap.size=z at *
 have ci:∀ i u,(#[Value.int .i64 a,.int .i64 b,.int .i64 c]:Array Value)[i]?=some u→W.cell? ⟨z,i,none⟩=some u:=fun i u hu=>by rw [cell_of_row _ _ _ _ _ _ E0.out.2.2.1];exact hu
 have c0:=ci 0 _ rfl
 have c1:=ci 1 _ rfl
 have c2:=ci 2 _ rfl
 clear ci
 have p0:=E0.out.1.1.cells.1
 have GW:=fun W=>jbm a W
 have GS:=fun W=>jft b c W
 have NO:Hid (¬ jeg q a b c→∀ m,Hid (∃ q',jnt q a b c 0 2 q'∧PQ B (W.drewN m) g q' vs∧Below B w (W.drewN m))):=fun h m=>⟨q,Or.inl ⟨h,rfl,rfl,rfl⟩,E0.out.1.later (below_drewN (Below.refl _ _) m),below_drewN E0.out.2.1 m⟩
 rcases jbz a 1 16 with b1|b1
 case inr =>
  have D:Hid (¬ jeg q a b c):=fun h=>jb0 b1 h.1
  rw [b1] at GW
  go_enter Tryz.func110,Tryz.ntmps110
  go_upto_region 1 with fail
  go_quiet (first|(go_at_call 145;exact Calls.quiet_of_same (GW _))|(go_at_call 150;exact Calls.quiet_of_same (GS _)))
  go_wp2_with fail
  go_ret2
  exact⟨_,_,rfl,NO.out D.out _⟩
 rw [b1] at GW
 by_cases h2:b < q.now
 ·have D:Hid (¬ jeg q a b c):=fun h=>absurd h.2.1 (by omega)
  have d2:decide (b < q.now)=true:=decide_eq_true h2
  go_enter Tryz.func110,Tryz.ntmps110
  go_upto_region 1 with fail
  go_quiet (first|(go_at_call 145;exact Calls.quiet_of_same (GW _))|(go_at_call 150;exact Calls.quiet_of_same (GS _)))
  go_wp2_with fail
  go_ret2
  exact⟨_,_,rfl,NO.out D.out _⟩
 have d2:decide (b < q.now)=false:=decide_eq_false h2
 cases h3:stayB b c
 ·have D:Hid (¬ jeg q a b c):=fun h=>by
   have:=jgs.2 h.2.2
   rw [h3] at this
   cases this
  rw [h3] at GS
  go_enter Tryz.func110,Tryz.ntmps110
  go_upto_region 1 with fail
  go_quiet (first|(go_at_call 145;exact Calls.quiet_of_same (GW _))|(go_at_call 150;exact Calls.quiet_of_same (GS _)))
  go_wp2_with fail
  go_ret2
  exact⟨_,_,rfl,NO.out D.out _⟩
 have OK:Hid (jeg q a b c):=⟨jba b1,by omega,jgs.1 h3⟩
 rw [h3] at GS
 clear h3
 have h4:q.kept.length=4:=E0.out.1.1.1
 have RD:Hid (∀ m,RdK cKp (W.drewN m) g 2 q.kept):=fun m=>by
  obtain⟨a',cap,e,_,hr⟩:=((E0.out.1.later (below_drewN (Below.refl _ _) m)).1).slKept
  injection e with e1 e2 e3
  rcases hr with hr|⟨b',off,hb,hr⟩
  ·rw [hr] at h4;cases h4
  ·rw [← e1] at hb
   injection hb with hb
   injection hb with h1 h2
   subst h1 h2
   exact hr
 have EV:Hid (∀ m w',Below (W.drewN m).heap.size (W.drewN m) w'→PQ B w' g q vs∧Below B w w'∧w'.heap[z]?=some (.cells #[.int .i64 a,.int .i64 b,.int .i64 c] 38 (0,0))):=fun m w' hb=>by
  have hb2:Below W.heap.size W w':=(below_drewN (Below.refl _ _) m).trans (hb.mono (below_drewN (Below.refl W.heap.size W) m).size)
  exact⟨E0.out.1.later hb2,E0.out.2.1.trans (hb2.mono E0.out.1.2.2.1),by rw [hb2.block z (Array.getElem?_eq_some_iff.1 E0.out.2.2.1).1];exact E0.out.2.2.1⟩
 have HI:=fun m=>jlb g 2 q.kept h4 (W.drewN m) (RD.out m)
 have gz:g≠z:=E0.out.2.2.2
 go_enter Tryz.func110,Tryz.ntmps110
 go_upto_region 1 with fail
 go_quiet (first|(go_at_call 145;exact Calls.quiet_of_same (GW _))|(go_at_call 150;exact Calls.quiet_of_same (GS _)))
 go_upto_region 3 with fail
 go_wp2_with fail
 refine(HI _).mono ?_
 rintro e w5 ⟨i,rfl,h5⟩
 have E5:Hid (PQ B w5 g q vs∧Below B w w5∧w5.heap[z]?=some (.cells #[.int .i64 a,.int .i64 b,.int .i64 c] 38 (0,0))):=EV.out _ _ h5.out.2
 have IX:Hid (IdxIs q.kept i):=h5.out.1
 clear h5 HI EV RD NO c0 c1 c2 p0 E0 hW
 rcases IX.out with ⟨rfl,hno⟩|⟨j,rfl,hfst⟩
 ·have D:Hid (∃ q',jnt q a b c 0 5 q'∧PQ B w5 g q' vs∧Below B w w5):=⟨q,Or.inr (Or.inl ⟨OK.out,hno,rfl,rfl,rfl⟩),E5.out.1,E5.out.2.1⟩
  clear hno IX
  go_wp2_with fail
  go_ret2
  exact⟨_,_,rfl,D⟩
 ·have hj:j < 4:=by
   obtain⟨⟨k,hk,_⟩,_⟩:=hfst
   have:=(List.getElem?_eq_some_iff.1 hk).1
   omega
  have K:=fun m=>(E5.out.1.later (below_drewN (Below.refl _ _) m)).setKept hj a b c
  have ci:∀ i u,(#[Value.int .i64 a,.int .i64 b,.int .i64 c]:Array Value)[i]?=some u→w5.cell? ⟨z,i,none⟩=some u:=fun i u hu=>by rw [cell_of_row _ _ _ _ _ _ E5.out.2.2];exact hu
  have c0:=ci 0 _ rfl
  have c1:=ci 1 _ rfl
  have c2:=ci 2 _ rfl
  obtain⟨k,hk⟩:∃ k,q.kept[j]?=some k:=by obtain⟨⟨k,hk,_⟩,_⟩:=hfst;exact⟨k,hk⟩
  obtain⟨o0,o1,o2⟩:w5.cell? ⟨g,2+j*3,none⟩=some (.int .i64 k.wd)∧w5.cell? ⟨g,2+j*3+1,none⟩=some (.int .i64 k.fr)∧w5.cell? ⟨g,2+j*3+2,none⟩=some (.int .i64 k.to):=by
   obtain⟨a',cap,e,_,hr⟩:=E5.out.1.1.slKept
   injection e with e1 e2 e3
   rcases hr with hr|⟨b',off,hb,hr⟩
   ·rw [hr] at h4;cases h4
   ·rw [← e1] at hb
    injection hb with hb
    injection hb with h1 h2
    subst h1 h2
    exact hr.kp hk
  have f0:=E5.out.1.1.frozen (2+j*3)
  have f1:=E5.out.1.1.frozen (2+j*3+1)
  have f2:=E5.out.1.1.frozen (2+j*3+2)
  have D:Hid (Hid (∃ q',jnt q a b c j 0 q'∧PQ B (((w5.drew.setCell ⟨g,2+j*3,none⟩ (.int .i64 a)).setCell ⟨g,2+j*3+1,none⟩ (.int .i64 b)).setCell ⟨g,2+j*3+2,none⟩ (.int .i64 c)) g q' vs∧Below B w (((w5.drew.setCell ⟨g,2+j*3,none⟩ (.int .i64 a)).setCell ⟨g,2+j*3+1,none⟩ (.int .i64 b)).setCell ⟨g,2+j*3+2,none⟩ (.int .i64 c)))):=by
   have K:=(E5.out.1.later ((Below.refl _ w5).drew)).setKept hj a b c
   exact⟨_,Or.inr (Or.inr ⟨OK.out,j,hfst,rfl,rfl,rfl⟩),K.1,(E5.out.2.1.drew).trans K.2⟩
  have hj3:(j:Int) < 4:=by omega
  have hj0:¬ (j:Int) < 0:=by omega
  have zg:z≠g:=fun e=>gz e.symm
  clear hfst IX K ci hk E5
  go_upto_region 6 with fail
  go_region_held (fun w'=>w'.cell? ⟨z,0,none⟩=some (.int .i64 a)∧w'.cell? ⟨z,1,none⟩=some (.int .i64 b)∧w'.cell? ⟨z,2,none⟩=some (.int .i64 c)) (go_keep) (fail)
  go_wp2_with fail
  go_ret2
  exact⟨_,_,rfl,D.out⟩
def jai (q:Pt) (o:Ord) (n er:Int) (q':Pt):Prop :=
 if o.kd=1 then jf1 q o.a o.b o.c n er q' else if o.kd=2∨o.kd=3∨o.kd=4∨o.kd=5 then jns q o n er q'
 else if o.kd=6 then jnt q o.a o.b o.c n er q' else if o.kd=7 then jnu q o.a n er q'
 else if o.kd=8 then (n=0∧((0≤o.a∧o.a≤16)∧er=0∧q'={ q with shut:=o.a }∨¬ (0≤o.a∧o.a≤16)∧er=2∧q'=q))
 else n=0∧er=1∧q'=q
theorem jtg (g B:Nat) (q:Pt) (vs:Value) (kd a b c:Int) (w:World) (H:PQ B w g q vs) (hg:vs.ownBlock≠some g) (hp:jaj q) :
  Calls Tryz.prog 87 #[.pointer (some ⟨g,0,none⟩),.agg #[.int .i64 kd,.int .i64 a,.int .i64 b,.int .i64 c]] w fun e w'=>∃ n er,e=.returned (.tuple #[.int .i64 n,.int .i64 er])∧Hid (∃ q' vs',jai q ⟨kd,a,b,c⟩ n er q'∧PQ B w' g q' vs'∧Below B w w'):=by
 by_cases k1:kd=1
 ·subst k1
  refine(jmv g B q vs a b c w H hg (by have:=hp.port.len;omega) hp.port.next.1 hp.port.next.2).mono ?_
  rintro e w' ⟨n,er,rfl,h⟩
  obtain⟨q',vs',h1,h2,h3⟩:=h.out
  exact⟨n,er,rfl,q',vs',by unfold jai;rw [if_pos rfl];exact h1,h2,h3⟩
 by_cases k2:kd=2∨kd=3∨kd=4∨kd=5
 ·refine(jmu g B q vs kd a b c w H hp k2).mono ?_
  rintro e w' ⟨n,er,rfl,h⟩
  obtain⟨q',vs',h1,h2,h3⟩:=h.out
  exact⟨n,er,rfl,q',vs',by unfold jai;rw [if_neg k1,if_pos k2];exact h1,h2,h3⟩
 have hbw:Below w.heap.size w (w.alloc (.cells #[.int .i64 kd,.int .i64 a,.int .i64 b,.int .i64 c] 61)):=(Below.refl _ w).alloc (Nat.le_refl _) _
 have E0:Hid (PQ B (w.alloc (.cells #[.int .i64 kd,.int .i64 a,.int .i64 b,.int .i64 c] 61)) g q vs∧Below B w (w.alloc (.cells #[.int .i64 kd,.int .i64 a,.int .i64 b,.int .i64 c] 61))):=⟨H.later hbw,hbw.mono H.2.2.1⟩
 have O1:Hid (OBox (w.alloc (.cells #[.int .i64 kd,.int .i64 a,.int .i64 b,.int .i64 c] 61)) w.heap.size ⟨kd,a,b,c⟩):=OBox.new w ⟨kd,a,b,c⟩
 have HK:=jtn g B q vs a b c (w.alloc (.cells #[.int .i64 kd,.int .i64 a,.int .i64 b,.int .i64 c] 61)) (H.later hbw)
 have HD:=jtw g B q vs a (w.alloc (.cells #[.int .i64 kd,.int .i64 a,.int .i64 b,.int .i64 c] 61)) (H.later hbw)
 have HS:=js6 g B q vs a (w.alloc (.cells #[.int .i64 kd,.int .i64 a,.int .i64 b,.int .i64 c] 61)) (H.later hbw)
 clear hbw H hp
 generalize hWA:w.alloc (.cells #[.int .i64 kd,.int .i64 a,.int .i64 b,.int .i64 c] 61)=WA at *
 generalize hgo:w.heap.size=go at *
 obtain⟨oc0,oc1,oc2,oc3⟩:=O1.out.cells
 simp only at oc0 oc1 oc2 oc3
 by_cases k6:kd=6
 ·subst k6
  clear HD HS
  go_enter Tryz.func87,Tryz.ntmps87
  go_wp2_with fail
  refine HK.mono ?_
  rintro e w1 ⟨n,er,rfl,hw1⟩
  have D:Hid (∃ q' vs',jai q ⟨6,a,b,c⟩ n er q'∧PQ B w1 g q' vs'∧Below B w w1):=by
   obtain⟨q',d1,d2,d3⟩:=hw1.out
   exact⟨q',vs,by unfold jai;rw [if_neg (by simp),if_neg (by simp),if_pos rfl];exact d1,d2,E0.out.2.trans d3⟩
  clear HK hw1
  go_wp2_with fail
  go_ret2
  exact⟨_,_,rfl,D⟩
 by_cases k7:kd=7
 ·subst k7
  clear HK HS
  go_enter Tryz.func87,Tryz.ntmps87
  go_wp2_with fail
  refine HD.mono ?_
  rintro e w1 ⟨er,rfl,hw1⟩
  have D:Hid (∃ q' vs',jai q ⟨7,a,b,c⟩ 0 er q'∧PQ B w1 g q' vs'∧Below B w w1):=by
   obtain⟨q',d1,d2,d3⟩:=hw1.out
   exact⟨q',vs,by unfold jai;rw [if_neg (by simp),if_neg (by simp),if_neg (by simp),if_pos rfl];exact d1,d2,E0.out.2.trans d3⟩
  clear HD hw1
  go_wp2_with fail
  go_ret2
  exact⟨_,_,rfl,D⟩
 by_cases k8:kd=8
 ·subst k8
  clear HK HD
  go_enter Tryz.func87,Tryz.ntmps87
  go_wp2_with fail
  refine HS.mono ?_
  rintro e w1 ⟨er,rfl,hw1⟩
  have D:Hid (∃ q' vs',jai q ⟨8,a,b,c⟩ 0 er q'∧PQ B w1 g q' vs'∧Below B w w1):=by
   obtain⟨d1,d3⟩:=hw1.out
   have u:∀ q',((0≤a∧a≤16)∧er=0∧q'={ q with shut:=a }∨¬ (0≤a∧a≤16)∧er=2∧q'=q)→jai q ⟨8,a,b,c⟩ 0 er q':=fun q' h=>by unfold jai;rw [if_neg (by simp),if_neg (by simp),if_neg (by simp),if_neg (by simp),if_pos rfl];exact⟨rfl,h⟩
   rcases d1 with ⟨h1,h2,h3⟩|⟨h1,h2,h3⟩
   ·exact⟨_,vs,u _ (Or.inl ⟨h1,h2,rfl⟩),h3,E0.out.2.trans d3⟩
   ·exact⟨_,vs,u _ (Or.inr ⟨h1,h2,rfl⟩),h3,E0.out.2.trans d3⟩
  clear HS hw1
  go_wp2_with fail
  go_ret2
  exact⟨_,_,rfl,D⟩
 have D:Hid (∃ q' vs',jai q ⟨kd,a,b,c⟩ 0 1 q'∧PQ B WA g q' vs'∧Below B w WA):=⟨q,vs,by unfold jai;rw [if_neg k1,if_neg k2,if_neg k6,if_neg k7,if_neg k8];exact⟨rfl,rfl,rfl⟩,E0.out.1,E0.out.2⟩
 have j1:(kd == 1)=false:=by simp [k1]
 have j2:(kd == 2)=false:=by simp;exact fun e=>k2 (Or.inl e)
 have j3:(kd == 3)=false:=by simp;exact fun e=>k2 (Or.inr (Or.inl e))
 have j4:(kd == 4)=false:=by simp;exact fun e=>k2 (Or.inr (Or.inr (Or.inl e)))
 have j5:(kd == 5)=false:=by simp;exact fun e=>k2 (Or.inr (Or.inr (Or.inr e)))
 have j6:(kd == 6)=false:=by simp [k6]
 have j7:(kd == 7)=false:=by simp [k7]
 have j8:(kd == 8)=false:=by simp [k8]
 clear HK HD HS k1 k2 k6 k7 k8
 go_enter Tryz.func87,Tryz.ntmps87
 go_wp2_with fail
 go_ret2
 exact⟨_,_,rfl,D⟩
theorem jr0 {p:Pt} {o:Ord} {n er:Int} {q:Pt} (hp:jaj p) (h:jns p o n er q):WfQ q∧q.ships.length≤100:=by
 have hl:=hp.port.len
 obtain⟨_,h⟩:=h
 unfold moveF at h
 split at h
 ·rename_i ha
  have hq:q=setS p o.a.toNat (moveS (shp p o.a.toNat) o.kd o.b p.now).2:=(Prod.mk.inj h).2.symm
  subst hq
  refine⟨fun s hs=>?_,by rw [jkz];omega⟩
  have hm:∀ s:Ship,(moveS s o.kd o.b p.now).2.qu=s.qu:=fun s=>by
   unfold moveS turnF jdb outS
   repeat' split
   all_goals rfl
  rcases List.mem_or_eq_of_mem_set hs with h1|h1
  ·exact WfQ.of hp s h1
  ·rw [h1,hm]
   have ha':o.a.toNat < p.ships.length:=by omega
   rw [jbj (List.getElem?_eq_getElem ha')]
   exact WfQ.of hp _ (List.getElem_mem ha')
 ·have hq:q=p:=(Prod.mk.inj h).2.symm
  subst hq
  exact⟨WfQ.of hp,by omega⟩
theorem jrv {p:Pt} {o:Ord} {n er:Int} {q:Pt} (hp:jaj p) (h:jai p o n er q):WfQ q∧q.ships.length≤100:=by
 have hl:=hp.port.len
 have w0:WfQ p∧p.ships.length≤100:=⟨WfQ.of hp,by omega⟩
 have wk:∀ k,WfQ { p with kept:=k }∧({ p with kept:=k }:Pt).ships.length≤100:=fun k=>⟨fun s hs=>WfQ.of hp s hs,by show p.ships.length≤100;omega⟩
 unfold jai at h
 split at h
 ·rename_i h1
  exact jtb (kd:=1) (a:=o.a) (b:=o.b) (c:=o.c) hp (Or.inl ⟨rfl,h⟩)
 ·split at h
  ·exact jr0 hp h
  ·split at h
   ·rcases h with ⟨_,_,_,rfl⟩|⟨_,_,_,_,rfl⟩|⟨_,j,_,_,_,rfl⟩
    ·exact w0
    ·exact w0
    ·exact wk _
   ·split at h
    ·rcases h with ⟨_,_,_,rfl⟩|⟨j,k,_,_,_,_,_,_,rfl⟩|⟨j,k,_,_,_,_,_,_,rfl⟩
     ·exact w0
     ·exact w0
     ·exact wk _
    ·split at h
     ·obtain⟨_,⟨_,_,rfl⟩|⟨_,_,rfl⟩⟩:=h
      ·exact⟨fun s hs=>WfQ.of hp s hs,by show p.ships.length≤100;omega⟩
      ·exact w0
     ·obtain⟨_,_,rfl⟩:=h
      exact w0
theorem jir (v:Value) (p:Pt) (o:Ord) (w:World) (hv:PtV w v p) (hp:jaj p) :
  Calls Tryz.prog 66 #[v,.agg #[.int .i64 o.kd,.int .i64 o.a,.int .i64 o.b,.int .i64 o.c]] w fun e w'=>jp0 w (ja0 (jai p o) p) e w' :=
 js0 v p o (jai p o) w hv (WfQ.of hp) (fun hp n e q h=>jrv hp h) (fun hp g B vs W hq hne=>jtg g B p vs o.kd o.a o.b o.c W hq hne hp)
end Go.Proofs.YtcmdoeledmkfmacGreatDoor
