/- Texts of this claim, in one: DKinds DObey DTell DPort. -/
import Derived.Test.YtcmdoeledmkfmacGreatDoorSW
import Derived.Test.YtcmdoeledmkfmacGreatDoorS8
import Derived.Test.YtcmdoeledmkfmacGreatDoorSX
import Derived.Test.YtcmdoeledmkfmacGreatDoorS9
set_option linter.unusedSimpArgs false
set_option linter.unusedVariables false
set_option maxHeartbeats 40000000
set_option maxRecDepth 100000
namespace Go.Proofs.YtcmdoeledmkfmacGreatDoor
open Go.RowKit
theorem jlk (d:Nat) (D:Dk) (w:World) (hD:Dsk w d D) :
  Calls Tryz.prog 43 #[(.pointer (some ⟨d,0,none⟩))] w fun e w'=>∃ er,e=.returned (.int .i64 er)∧Hid (∃ D',jlr D D' er∧Dsk w' d D'∧Fr d w w'):=by
 obtain⟨vs,vp,va,pl,hM⟩:=hD
 have c17:=hM.box.cells.2.2.2.1
 cases hA:D.asd with
 | some q =>
  have ha:=hM.asd
  rw [hA] at ha
  obtain⟨g,vq,rfl,_⟩:=ha
  have R:Hid (∃ D',jlr D D' 7∧Dsk w d D'∧Fr d w w):=⟨D,Or.inr ⟨(by rw [hA];simp),rfl,rfl⟩,⟨_,_,_,_,hM⟩,Fr.refl _ _⟩
  clear hM
  go_enter Tryz.func43,Tryz.ntmps43
  go_wp2_with fail
  go_ret
  exact⟨7,rfl,R⟩
 | none =>
  have ha:=hM.asd
  rw [hA] at ha
  obtain rfl:va=.pointer none:=ha
  have E0:Hid (DM w d D vs vp (.pointer none) pl):=hM
  have HA:Hid (D.asd=none):=hA
  have on:=hM.ships.one
  have h4:=hM.box.four
  clear hM hA
  go_enter Tryz.func43,Tryz.ntmps43
  go_upto_region 4 with (first|(refine jdq rfl _ rfl d D.p vs vp (.pointer none) D.n rfl E0.out.box ?_)|(refine jah rfl rfl 3 rfl ?_;intro w1 h1 s1)|(refine jab rfl _ _ rfl w.heap.size jaf D.p (.slice none 0 0) vs rfl rfl h1.out.1 h4 on ?_;intro w2 h2 s2))
  have E2:Hid (DM w2 d D vs vp (.pointer none) pl∧PBox w2 w.heap.size D.p vs∧Fr d w w2):=by
   have hb:Below w.heap.size w w2:=h1.out.2.trans (h2.out.2.2 _ (Nat.le_refl _))
   exact⟨E0.out.later hb,h2.out.1,Fr.of hb (by have:=E0.out.lt;omega)⟩
  have hlt:=E0.out.lt
  have d17:=E2.out.1.box.cells.2.2.2.1
  have f17:=E2.out.1.box.frozen 17
  have R:Hid (∃ D',jlr D D' 0∧Dsk (w2.setCell ⟨d,17,none⟩ (.pointer (some ⟨w.heap.size,0,none⟩))) d D'∧Fr d w (w2.setCell ⟨d,17,none⟩ (.pointer (some ⟨w.heap.size,0,none⟩)))):=by
   have F:=Fr.set (d:=d) w2 17 (.pointer (some ⟨w.heap.size,0,none⟩))
   have hb:=E2.out.1.box
   refine⟨{ D with asd:=some D.p },Or.inl ⟨HA.out,rfl,rfl⟩,⟨vs,vp,_,pl,hb.setAside _,E2.out.1.ships.fr F hb (by decide),E2.out.1.plan,E2.out.1.row.fr F hb (by decide),⟨_,vs,rfl,⟨E2.out.2.1.1,(F.typed hb _ _ _ _ E2.out.2.1.2 (by decide)).trans E2.out.2.1.2⟩,E2.out.1.ships.fr F hb (by decide)⟩,E2.out.1.old,fun g o f h=>(by injection h with h;injection h with h;injection h with h;omega)⟩,E2.out.2.2.trans F⟩
  clear h1 h2 s1 s2 E0 E2 c17
  go_wp2_with fail
  go_ret
  exact⟨0,rfl,R⟩
theorem jjv (d:Nat) (D:Dk) (w:World) (hD:Dsk w d D) :
  Calls Tryz.prog 44 #[(.pointer (some ⟨d,0,none⟩))] w fun e w'=>∃ er,e=.returned (.int .i64 er)∧Hid (∃ D',jil D D' er∧Dsk w' d D'∧Fr d w w'):=by
 obtain⟨vs,vp,va,pl,hM⟩:=hD
 have c17:=hM.box.cells.2.2.2.1
 cases hA:D.asd with
 | none =>
  have ha:=hM.asd
  rw [hA] at ha
  obtain rfl:va=.pointer none:=ha
  have R:Hid (∃ D',jil D D' 7∧Dsk w d D'∧Fr d w w):=⟨D,Or.inr ⟨hA,rfl,rfl⟩,⟨_,_,_,_,hM⟩,Fr.refl _ _⟩
  clear hM
  go_enter Tryz.func44,Tryz.ntmps44
  go_wp2_with fail
  go_ret
  exact⟨7,rfl,R⟩
 | some q =>
  have ha:=hM.asd
  rw [hA] at ha
  obtain⟨g,vq,rfl,_⟩:=ha
  have f17:=hM.box.frozen 17
  have R:Hid (∃ D',jil D D' 0∧Dsk (w.setCell ⟨d,17,none⟩ (.pointer none)) d D'∧Fr d w (w.setCell ⟨d,17,none⟩ (.pointer none))):=by
   have F:=Fr.set (d:=d) w 17 (.pointer none)
   have hb:=hM.box
   refine⟨{ D with asd:=none },Or.inl ⟨(by rw [hA];simp),rfl,rfl⟩,⟨vs,vp,_,pl,hb.setAside _,hM.ships.fr F hb (by decide),hM.plan,hM.row.fr F hb (by decide),rfl,hM.old,fun g o f h=>(by cases h)⟩,F⟩
  clear hM hA
  go_enter Tryz.func44,Tryz.ntmps44
  go_wp2_with fail
  go_ret
  exact⟨0,rfl,R⟩
theorem jng (d:Nat) (D:Dk) (w:World) (hD:Dsk w d D) (hO:DOk D) :
  Calls Tryz.prog 45 #[(.pointer (some ⟨d,0,none⟩))] w fun e w'=>∃ er,e=.returned (.int .i64 er)∧Hid (∃ D',jpz D D' er∧Dsk w' d D'∧Fr d w w'):=by
 have hD0:=hD
 obtain⟨vs,vp,va,pl,hM⟩:=hD
 have c17:=hM.box.cells.2.2.2.1
 cases hA:D.asd with
 | none =>
  have ha:=hM.asd
  rw [hA] at ha
  obtain rfl:va=.pointer none:=ha
  have R:Hid (∃ D',jpz D D' 7∧Dsk w d D'∧Fr d w w):=⟨D,Or.inr ⟨hA,rfl,rfl⟩,⟨_,_,_,_,hM⟩,Fr.refl _ _⟩
  clear hM hD0
  go_enter Tryz.func45,Tryz.ntmps45
  go_wp2_with fail
  go_ret
  exact⟨7,rfl,R⟩
 | some q =>
  have ha:=hM.asd
  rw [hA] at ha
  obtain⟨g,vq,rfl,hx,hr⟩:=ha
  have hq:=(hO.aside q hA).1
  have HBE:=jf5 d D q vq w hD0 hO.port hq hr
  have HX:Hid (PBox w g q vq):=hx
  have HA:Hid (D.asd=some q):=hA
  clear hM hA hx hr hD0
  go_enter Tryz.func45,Tryz.ntmps45
  go_wp2_with (refine jac rfl _ rfl g q vq rfl HX.out ?_)
  refine HBE.mono ?_
  rintro e w1 ⟨rfl,⟨vs1,vp1,va1,pl1,hM1⟩,hF⟩
  have f17:=hM1.box.frozen 17
  have d17:=hM1.box.cells.2.2.2.1
  have R:Hid (∃ D',jpz D D' 0∧Dsk (w1.setCell ⟨d,17,none⟩ (.pointer none)) d D'∧Fr d w (w1.setCell ⟨d,17,none⟩ (.pointer none))):=by
   have F:=Fr.set (d:=d) w1 17 (.pointer none)
   have hb:=hM1.box
   refine⟨{ D with p:=q,asd:=none },Or.inl ⟨q,HA.out,rfl,rfl⟩,⟨vs1,vp1,_,pl1,hb.setAside _,hM1.ships.fr F hb (by decide),hM1.plan,hM1.row.fr F hb (by decide),rfl,hM1.old,fun g o f h=>(by cases h)⟩,hF.trans F⟩
  clear HBE hM1 hF c17
  go_wp2_with fail
  go_ret
  exact⟨0,rfl,R⟩
theorem jnf (d:Nat) (D:Dk) (a:Int) (w:World) (hD:Dsk w d D) (hO:DOk D) (ha0:-1073741824≤a) (ha1:a≤1073741824) :
  Calls Tryz.prog 42 #[(.pointer (some ⟨d,0,none⟩)),.int .i64 a] w fun e w'=>∃ er,e=.returned (.int .i64 er)∧Hid (∃ D',jhq D a D' er∧Dsk w' d D'∧Fr d w w'):=by
 have hD0:=hD
 obtain⟨vs,vp,va,pl,hM⟩:=hD
 have c0:=hM.box.cells.1
 have hnow:=hO.port.port.now
 clear hM
 by_cases h1:a < 1
 ·have R:Hid (∃ D',jhq D a D' 2∧Dsk w d D'∧Fr d w w):=⟨D,Or.inl ⟨(by omega),rfl,rfl⟩,hD0,Fr.refl _ _⟩
  clear hD0
  go_enter Tryz.func42,Tryz.ntmps42
  go_wp2_with fail
  go_ret
  exact⟨2,rfl,R⟩
 by_cases h2:300≤D.p.now+a
 ·have R:Hid (∃ D',jhq D a D' 2∧Dsk w d D'∧Fr d w w):=⟨D,Or.inl ⟨(by omega),rfl,rfl⟩,hD0,Fr.refl _ _⟩
  clear hD0
  go_enter Tryz.func42,Tryz.ntmps42
  go_wp2_with fail
  go_ret
  exact⟨2,rfl,R⟩
 obtain⟨m,rfl⟩:∃ m:Nat,a=m:=⟨a.toNat,by omega⟩
 have I0:Hid (∃ q,jd6 0 D.p q∧Dsk w d { D with p:=q }∧Fr d w w):=⟨D.p,rfl,hD0,Fr.refl _ _⟩
 have HO:Hid (DOk D∧D.p.now+m < 300):=⟨hO,by omega⟩
 clear hD0
 go_enter Tryz.func42,Tryz.ntmps42
 go_wp2_with fail
 go_loopg [5,6,20] m (fun kx s5 s6 s20 wr=>∃ k:Nat,s20=.int .i64 k∧k≤m∧m - k≤kx∧Hid (∃ q,jd6 k D.p q∧Dsk wr d { D with p:=q }∧Fr d w wr))
 case atStart=>exact⟨0,rfl,Nat.zero_le _,by omega,I0⟩
 case round =>
  clear I0 c0
  obtain⟨k,rfl,hk,hg,I⟩:=hrel
  obtain⟨q,i1,i2,i3⟩:=I.out
  clear I
  by_cases hkl:k < m
  ·have hk3:(k:Int) < (m:Int):=by omega
   have hR:=jeb k D.p q HO.out.1.rests (by have:=HO.out.2;omega) i1
   have hnq:q.now < 299:=by have:=HO.out.2;omega
   have hq:=hR.1.1
   have hq2:=jel hq hnq
   obtain⟨vs1,vp1,va1,pl1,hM1⟩:=i2
   have HLA:=fun W h=>jr4 (.agg (jaa q vs1).toArray) q W h (WfQ.of hq)
   have HBE:=fun v W h1 h2=>jf5 d { D with p:=q } (jbn q) v W h1 hq hq2 h2
   have HAD:=fun W h1=>jnp d { D with p:=jbn q } W h1 hq2
   have E1:Hid (DM wr d { D with p:=q } vs1 vp1 va1 pl1∧Fr d w wr):=⟨hM1,i3⟩
   have WI:Hid (jd6 k D.p q∧jaj q):=⟨i1,hq⟩
   clear i1 i3 hM1 hR hq hq2
   go_wp2_with (refine jdq rfl _ rfl d q vs1 vp1 va1 D.n rfl E1.out.1.box ?_)
   refine(HLA _ (E1.out.1.pv WI.out.2)).mono ?_
   rintro e w2 ⟨q2,vq2,er,rfl,hT,hq4,_,hqo,hb2⟩
   obtain⟨rfl,rfl⟩:er=0∧q2=jbn q:=by
    rcases hT with ⟨h,_⟩|⟨_,h,_⟩|⟨_,_,h1,h2⟩
    ·exact absurd WI.out.2 h
    ·omega
    ·exact⟨h1,h2⟩
   have on:=jam hqo
   have E2:Hid (Dsk w2 d { D with p:=q }∧Fr d w w2∧RowT 46 cShip w2 vq2 (jbn q).ships):=⟨⟨_,_,_,_,E1.out.1.later hb2⟩,E1.out.2.trans (Fr.of hb2 (by have:=E1.out.1.lt;omega)),RowT.own hqo⟩
   clear hT hqo hb2 HLA E1
   go_upto_region 6 with (first|(refine jah rfl rfl 5 rfl ?_;intro w3 h3 s3)|(refine jab rfl _ _ rfl w2.heap.size jaf (jbn q) (.slice none 0 0) vq2 rfl rfl h3.out.1 hq4 on ?_;intro w4 h4 s4))
   have E4:Hid (Dsk w4 d { D with p:=q }∧Fr d w w4∧RowT 46 cShip w4 vq2 (jbn q).ships∧PBox w4 w2.heap.size (jbn q) vq2):=by
    have hb:Below w2.heap.size w2 w4:=h3.out.2.trans (h4.out.2.2 _ (Nat.le_refl _))
    exact⟨E2.out.1.later hb,E2.out.2.1.trans (Fr.of hb (by have:=E2.out.1.lt;omega)),E2.out.2.2.later hb,h4.out.1⟩
   clear h3 h4 s3 s4 E2
   generalize w2.heap.size=g at *
   go_wp2_with (refine jac rfl _ rfl g (jbn q) vq2 rfl E4.out.2.2.2 ?_)
   refine(HBE vq2 _ E4.out.1 E4.out.2.2.1).mono ?_
   rintro e w5 ⟨rfl,h5,h6⟩
   have E5:Hid (Dsk w5 d { D with p:=jbn q }∧Fr d w w5):=⟨h5,E4.out.2.1.trans h6⟩
   clear h5 h6 E4 HBE
   go_wp2_with fail
   refine(HAD _ E5.out.1).mono ?_
   rintro e w6 ⟨rfl,h6⟩
   have I6:Hid (∃ q,jd6 (k+1) D.p q∧Dsk w6 d { D with p:=q }∧Fr d w w6):=by
    obtain⟨r,j1,j2,j3⟩:=h6.out
    exact⟨r,jgf k D.p q r WI.out.1 j1,j2,E5.out.2.trans j3⟩
   clear h6 E5 HAD WI
   go_wp2_with fail
   go_roundg (m - (k+1))
   case measure=>omega
   case rel=>exact⟨k+1,by go_num,by omega,Nat.le_refl _,I6⟩
  ·have hke:k=m:=by omega
   subst hke
   have hk3:¬ (k:Int) < (k:Int):=by omega
   have R:Hid (∃ D',jhq D (k:Int) D' 0∧Dsk wr d D'∧Fr d w wr):=⟨{ D with p:=q },Or.inr ⟨⟨by omega,HO.out.2⟩,rfl,q,by rw [Int.toNat_natCast];exact i1,rfl⟩,i2,i3⟩
   clear i1 i2 i3
   go_wp2_with fail
   go_ret
   exact⟨0,rfl,R⟩
theorem jow (d:Nat) (D:Dk) (a:Int) (w:World) (hD:Dsk w d D) (hO:DOk D) :
  Calls Tryz.prog 47 #[(.pointer (some ⟨d,0,none⟩)),.int .i64 a] w fun e w'=>∃ n er,e=.returned (.tuple #[.int .i64 n,.int .i64 er])∧Hid (jh9 D.p a n er∧Dsk w' d D∧Fr d w w'):=by
 have hD0:=hD
 obtain⟨vs,vp,va,pl,hM⟩:=hD
 obtain⟨c0,c1,c16,_,_⟩:=hM.box.cells
 obtain⟨sa,sc,hvs⟩:=hM.ships.shape
 obtain⟨pa,pc,hvp⟩:=hM.row.shape
 subst hvs hvp
 have hl:=hO.port.port.len
 by_cases h1:a < 0
 ·have R:Hid (jh9 D.p a 0 3∧Dsk w d D∧Fr d w w):=⟨Or.inl ⟨(by omega),rfl,rfl⟩,hD0,Fr.refl _ _⟩
  clear hD0 hM
  go_enter Tryz.func47,Tryz.ntmps47
  go_wp2_with fail
  go_ret2
  exact⟨0,3,rfl,R⟩
 by_cases h2:(D.p.ships.length:Int)≤a
 ·have R:Hid (jh9 D.p a 0 3∧Dsk w d D∧Fr d w w):=⟨Or.inl ⟨(by omega),rfl,rfl⟩,hD0,Fr.refl _ _⟩
  clear hD0 hM
  go_enter Tryz.func47,Tryz.ntmps47
  go_wp2_with fail
  go_ret2
  exact⟨0,3,rfl,R⟩
 obtain⟨i,rfl⟩:∃ i:Nat,a=i:=⟨a.toNat,by omega⟩
 have hi:i < D.p.ships.length:=by omega
 have hi3:(i:Int) < (D.p.ships.length:Int):=by omega
 have hpl:=hM.plan
 have hi4:(i:Int) < (pl.length:Int):=by rw [hpl.len];exact hi3
 obtain⟨b,off,rfl,hrd⟩:∃ b off,sa=some ⟨b,off,none⟩∧RdK cShip w b off D.p.ships:=by
  obtain⟨a',c',e,_,h⟩:=hM.ships
  injection e with e1 e2 e3
  rcases h with h|⟨b,off,_,_,h1,h2,_⟩
  ·rw [h] at hi;simp at hi
  ·exact⟨b,off,e1.trans h1,h2⟩
 obtain⟨pb,poff,rfl,hpd⟩:∃ b off,pa=some ⟨b,off,none⟩∧RdK cInt w b off pl:=by
  obtain⟨a',c',e,_,h⟩:=hM.row
  injection e with e1 e2 e3
  rcases h with h|⟨b,off,_,_,h1,h2,_⟩
  ·rw [h] at hi4;simp at hi4;omega
  ·exact⟨b,off,e1.trans h1,h2⟩
 obtain⟨k0,k1,k2,k3,k4,k5⟩:=hrd.ship (jj4 hi)
 have kp:=hpd.int (jor (i:=i) (by omega))
 generalize hs:shp D.p i=s at *
 have HS:Hid (shp D.p i=s):=hs
 have HM:Hid (jbd D.p pl∧Dsk w d D∧d < w.heap.size):=⟨hpl,hD0,hM.lt⟩
 have fin:Hid (∀ n (o:Obj),AskIs D.p i n→jh9 D.p (i:Int) n 0∧Dsk (w.alloc o) d D∧Fr d w (w.alloc o)):=fun n o h=>by
  have hb:Below w.heap.size w (w.alloc o):=(Below.refl _ w).alloc (Nat.le_refl _) _
  exact⟨Or.inr ⟨⟨by omega,hi3⟩,rfl,by rw [Int.toNat_natCast];exact h⟩,HM.out.2.1.later hb,Fr.of hb (by have:=HM.out.2.2;omega)⟩
 clear hM hD0 hpl hrd hpd hs
 by_cases s1:s.st=1
 ·have hb1:(s.st == 1)=true:=by simp [s1]
  have kp2:=fun o=>jd0 kp o
  have c162:=fun o=>jd0 c16 o
  have A:Hid (AskIs D.p i (pl.getD i (-1))):=Or.inl ⟨by rw [HS.out];exact s1,pl,HM.out.1,rfl⟩
  clear s1
  go_enter Tryz.func47,Tryz.ntmps47
  go_wp2_with fail
  go_ret2
  exact⟨_,0,rfl,fin.out _ _ A.out⟩
 have hb1:(s.st == 1)=false:=by simp [s1]
 by_cases s3:s.st=3
 ·have hb3:(s.st == 3)=true:=by simp [s3]
  have A:Hid (AskIs D.p i s.si):=Or.inr (Or.inl ⟨by rw [HS.out];exact s3,by rw [HS.out]⟩)
  clear s1 s3
  go_enter Tryz.func47,Tryz.ntmps47
  go_wp2_with fail
  go_ret2
  exact⟨_,0,rfl,fin.out _ _ A.out⟩
 ·have hb3:(s.st == 3)=false:=by simp [s3]
  have A:Hid (AskIs D.p i (-1)):=Or.inr (Or.inr ⟨by rw [HS.out];exact s1,by rw [HS.out];exact s3,rfl⟩)
  clear s1 s3
  go_enter Tryz.func47,Tryz.ntmps47
  go_wp2_with fail
  go_ret2
  exact⟨_,0,rfl,fin.out _ _ A.out⟩
theorem jnm (d:Nat) (D:Dk) (o:Ord) (w:World) (hD:Dsk w d D) (hO:DOk D) (hG:-1073741824≤o.a∧o.a≤1073741824) :
  Calls Tryz.prog 24 #[.pointer (some ⟨d,0,none⟩),.agg #[.int .i64 o.kd,.int .i64 o.a,.int .i64 o.b,.int .i64 o.c]] w fun e w'=>∃ n er,e=.returned (.tuple #[.int .i64 n,.int .i64 er])∧Hid (∃ D',ObsIs D o D' n er∧Dsk w' d D'∧Fr d w w'):=by
 obtain⟨kd,a,b,c⟩:=o
 simp only at hG
 have hba:Below w.heap.size w (w.alloc (.cells #[.int .i64 kd,.int .i64 a,.int .i64 b,.int .i64 c] 61)):=(Below.refl _ w).alloc (Nat.le_refl _) _
 have E0:Hid (Dsk (w.alloc (.cells #[.int .i64 kd,.int .i64 a,.int .i64 b,.int .i64 c] 61)) d D∧Fr d w (w.alloc (.cells #[.int .i64 kd,.int .i64 a,.int .i64 b,.int .i64 c] 61))):=⟨hD.later hba,Fr.of hba (by have:=hD.lt;omega)⟩
 have HO:Hid (DOk D):=hO
 clear hba hD hO
 by_cases k9:kd=9
 ·subst k9
  go_enter Tryz.func24,Tryz.ntmps24
  go_wp2_with fail
  refine(jnf d D a _ E0.out.1 HO.out hG.1 hG.2).mono ?_
  rintro e w1 ⟨er,rfl,h1⟩
  have R:Hid (∃ D',ObsIs D ⟨9,a,b,c⟩ D' 0 er∧Dsk w1 d D'∧Fr d w w1):=by
   obtain⟨D',j1,j2,j3⟩:=h1.out
   refine⟨D',?_,j2,E0.out.2.trans j3⟩
   unfold ObsIs
   simp only [if_true,if_false]
   exact⟨trivial,j1⟩
  clear h1 E0
  go_wp2_with fail
  go_ret2
  exact⟨0,er,rfl,R⟩
 have b9:(kd == 9)=false:=beq_eq_false_iff_ne.2 k9
 by_cases k10:kd=10
 ·subst k10
  go_enter Tryz.func24,Tryz.ntmps24
  go_wp2_with fail
  refine(jlk d D _ E0.out.1).mono ?_
  rintro e w1 ⟨er,rfl,h1⟩
  have R:Hid (∃ D',ObsIs D ⟨10,a,b,c⟩ D' 0 er∧Dsk w1 d D'∧Fr d w w1):=by
   obtain⟨D',j1,j2,j3⟩:=h1.out
   refine⟨D',?_,j2,E0.out.2.trans j3⟩
   unfold ObsIs
   simp only [show ¬ ((10:Int)=9) by decide,if_true,if_false]
   exact⟨trivial,j1⟩
  clear h1 E0
  go_wp2_with fail
  go_ret2
  exact⟨0,er,rfl,R⟩
 have b10:(kd == 10)=false:=beq_eq_false_iff_ne.2 k10
 by_cases k11:kd=11
 ·subst k11
  go_enter Tryz.func24,Tryz.ntmps24
  go_wp2_with fail
  refine(jjv d D _ E0.out.1).mono ?_
  rintro e w1 ⟨er,rfl,h1⟩
  have R:Hid (∃ D',ObsIs D ⟨11,a,b,c⟩ D' 0 er∧Dsk w1 d D'∧Fr d w w1):=by
   obtain⟨D',j1,j2,j3⟩:=h1.out
   refine⟨D',?_,j2,E0.out.2.trans j3⟩
   unfold ObsIs
   simp only [show ¬ ((11:Int)=9) by decide,show ¬ ((11:Int)=10) by decide,if_true,if_false]
   exact⟨trivial,j1⟩
  clear h1 E0
  go_wp2_with fail
  go_ret2
  exact⟨0,er,rfl,R⟩
 have b11:(kd == 11)=false:=beq_eq_false_iff_ne.2 k11
 by_cases k12:kd=12
 ·subst k12
  go_enter Tryz.func24,Tryz.ntmps24
  go_wp2_with fail
  refine(jng d D _ E0.out.1 HO.out).mono ?_
  rintro e w1 ⟨er,rfl,h1⟩
  have R:Hid (∃ D',ObsIs D ⟨12,a,b,c⟩ D' 0 er∧Dsk w1 d D'∧Fr d w w1):=by
   obtain⟨D',j1,j2,j3⟩:=h1.out
   refine⟨D',?_,j2,E0.out.2.trans j3⟩
   unfold ObsIs
   simp only [show ¬ ((12:Int)=9) by decide,show ¬ ((12:Int)=10) by decide,show ¬ ((12:Int)=11) by decide,if_true,if_false]
   exact⟨trivial,j1⟩
  clear h1 E0
  go_wp2_with fail
  go_ret2
  exact⟨0,er,rfl,R⟩
 have b12:(kd == 12)=false:=beq_eq_false_iff_ne.2 k12
 by_cases k13:kd=13
 ·subst k13
  go_enter Tryz.func24,Tryz.ntmps24
  go_wp2_with fail
  refine(jr5 d D ⟨13,a,b,c⟩ _ E0.out.1 HO.out).mono ?_
  rintro e w1 ⟨n,er,rfl,h1⟩
  have R:Hid (∃ D',ObsIs D ⟨13,a,b,c⟩ D' n er∧Dsk w1 d D'∧Fr d w w1):=by
   obtain⟨j1,j2,j3⟩:=h1.out
   refine⟨D,?_,j2,E0.out.2.trans j3⟩
   unfold ObsIs
   simp only [show ¬ ((13:Int)=9) by decide,show ¬ ((13:Int)=10) by decide,show ¬ ((13:Int)=11) by decide,show ¬ ((13:Int)=12) by decide,if_true,if_false]
   exact⟨trivial,j1⟩
  clear h1 E0
  go_wp2_with fail
  go_ret2
  exact⟨n,er,rfl,R⟩
 have b13:(kd == 13)=false:=beq_eq_false_iff_ne.2 k13
 by_cases k14:kd=14
 ·subst k14
  go_enter Tryz.func24,Tryz.ntmps24
  go_wp2_with fail
  refine(jow d D a _ E0.out.1 HO.out).mono ?_
  rintro e w1 ⟨n,er,rfl,h1⟩
  have R:Hid (∃ D',ObsIs D ⟨14,a,b,c⟩ D' n er∧Dsk w1 d D'∧Fr d w w1):=by
   obtain⟨j1,j2,j3⟩:=h1.out
   refine⟨D,?_,j2,E0.out.2.trans j3⟩
   unfold ObsIs
   simp only [show ¬ ((14:Int)=9) by decide,show ¬ ((14:Int)=10) by decide,show ¬ ((14:Int)=11) by decide,show ¬ ((14:Int)=12) by decide,show ¬ ((14:Int)=13) by decide,if_true,if_false]
   exact⟨trivial,j1⟩
  clear h1 E0
  go_wp2_with fail
  go_ret2
  exact⟨n,er,rfl,R⟩
 have b14:(kd == 14)=false:=beq_eq_false_iff_ne.2 k14
 go_enter Tryz.func24,Tryz.ntmps24
 go_wp2_with fail
 refine(jrt d D ⟨kd,a,b,c⟩ _ E0.out.1 HO.out).mono ?_
 rintro e w1 ⟨n,er,rfl,h1⟩
 have R:Hid (∃ D',ObsIs D ⟨kd,a,b,c⟩ D' n er∧Dsk w1 d D'∧Fr d w w1):=by
  obtain⟨D',j1,j2,j3⟩:=h1.out
  refine⟨D',?_,j2,E0.out.2.trans j3⟩
  unfold ObsIs
  simp only [k9,k10,k11,k12,k13,k14,if_false]
  exact j1
 clear h1 E0
 go_wp2_with fail
 go_ret2
 exact⟨n,er,rfl,R⟩
def RB (w:World) (g:Nat) (x y:Int):Prop:=w.heap[g]?=some (.cells #[.int .i64 x,.int .i64 y] 29 (0,0))
theorem RB.lt {w:World} {g:Nat} {x y:Int} (h:RB w g x y):g < w.heap.size:=(Array.getElem?_eq_some_iff.1 h).1
theorem RB.later {w w':World} {g:Nat} {x y:Int} (h:RB w g x y) (hb:Below w.heap.size w w'):RB w' g x y:=by unfold RB;rw [hb.block g h.lt];exact h
theorem RB.fr {w w':World} {d g:Nat} {x y:Int} (h:RB w g x y) (hf:Fr d w w') (hne:g≠d):RB w' g x y:=by unfold RB;rw [hf.rest g hne h.lt];exact h
theorem RB.whole {w:World} {g:Nat} {x y:Int} (h:RB w g x y):w.rangeAt g 0 [.int .i64 x,.int .i64 y]:=fun j v hv=>by
 rw [cell_of_row _ _ _ _ _ _ h,Nat.zero_add]
 simpa using hv
theorem jkx:(Tryz.prog.info? 29).map (·.size)=some 2:=by kernel_rfl
theorem juo:(Tryz.prog.info? 29).map (fun i=>(i.zero,i.size))=some (some (.agg #[.int .i64 0,.int .i64 0]),2):=by kernel_rfl
theorem jn1 (w:World):(zeroValue 29).run Tryz.prog w=.ok (.agg #[.int .i64 0,.int .i64 0]) w:=by
 have h:=juo
 cases hq:Tryz.prog.info? 29 with
 | none=>rw [hq] at h;cases h
 | some i =>
  rw [hq] at h
  simp at h
  simp [zeroValue,typeInfo,hq,h.1]
theorem jbb {w:World} {ops:Array Oper} {rest:List Oper} {o:Oper} {a:Act} {Q:Exit→Act→World→Prop} (hgd:o.guard=none) (ho:o.op=.alloc 29) (d:Nat) (hd:o.dst=some d)
  (h:∀ w',Hid (RB w' w.heap.size 0 0∧Below w.heap.size w w')→w'.heap.size=w.heap.size+1→wpList Tryz.prog ops Q rest (a.put o.dst (.pointer (some ⟨w.heap.size,0,none⟩))) w'):wpList Tryz.prog ops Q (o::rest) a w:=by
 refine wpList_plain hgd fun K hK=>?_
 have hz:=jn1 w
 unfold Oper.wp execOp
 simp only [ho]
 simp [Instr.alloc,hz,newVar,newRow,Result.andThen,Value.cells]
 exact hK _ _ (h _ ⟨heap_alloc_new w _,(Below.refl _ w).alloc (Nat.le_refl _) _⟩ (by simp))
theorem jaq {w:World} {ops:Array Oper} {rest:List Oper} {o:Oper} {a:Act} {Q:Exit→Act→World→Prop} (hgd:o.guard=none) (x y:Operand) (ho:o.op=.store 29 x y) (g:Nat) (p q p' q':Int)
  (hx:a.eval x=.pointer (some ⟨g,0,none⟩)) (hy:a.eval y=.agg #[.int .i64 p',.int .i64 q']) (hA:RB w g p q)
  (h:∀ w',Hid (RB w' g p' q'∧(∀ k,k≠g→w'.heap[k]?=w.heap[k]?)∧∀ B,B≤g→Below B w w')→w'.heap.size=w.heap.size→wpList Tryz.prog ops Q rest (a.put o.dst undef) w'):wpList Tryz.prog ops Q (o::rest) a w:=by
 refine wpList_plain hgd fun K hK=>?_
 have hst:=run_storeVar_row (P:=Tryz.prog) w g _ 29 #[.int .i64 p,.int .i64 q] #[.int .i64 p',.int .i64 q'] hA (by rw [jkx];rfl) rfl (by simp [Value.oneCell'])
 unfold Oper.wp execOp
 simp only [ho,hx,hy,Instr.storeAt,Instr.sureAddr,Sem.run_bind,Sem.run_pure,Result.andThen_ok,hst]
 refine hK _ _ (h _ ⟨setRow_heap w g _ _ _ _ hA,fun k hk=>setRow_other w g k _ (by omega),fun B hB=>below_setRow (Below.refl B w) hB _⟩ (by simp [World.setRow]))
theorem ja5 {fn:Func} {q:Tmp} (h:fn.results=#[.cell q 29]) (tmps:Array Value) (w:World) (g:Nat) (x y:Int) (hp:tmps.getD q undef=.pointer (some ⟨g,0,none⟩)) (hA:RB w g x y) :
  (results fn tmps).run Tryz.prog w=.ok (.agg #[.int .i64 x,.int .i64 y]) w:=by
 have hl:=run_loadVar_mid (P:=Tryz.prog) w g 0 29 [.int .i64 x,.int .i64 y] _ hA.whole Tryz.underlying29 rfl (by rw [jkx];rfl)
 have hp':tmps[q]?.getD undef=.pointer (some ⟨g,0,none⟩):=by simpa using hp
 simp only [results,h]
 simp [Sem.run_bind,Result.andThen,hp',asAddr,hl]
def jsl (d:Nat) (D:Dk) (s:List UInt8) (w:World) (e:Ending) (w':World):Prop:=∃ er n,e=.returned (.agg #[.int .i64 er,.int .i64 n])∧Hid (∃ D',jdv D s D' er n∧Dsk w' d D'∧Fr d w w')
theorem jkt {d z:Nat} {D':Dk} {w W W':World} {x y:Int} (hD:Dsk W d D') (hR:RB W z x y) (hF:Fr d w W) (hz:w.heap.size≤z) (hd:d < w.heap.size) (hs:∀ k,k≠z→W'.heap[k]?=W.heap[k]?) (hb:∀ B,B≤z→Below B W W'):Dsk W' d D'∧Fr d w W' :=
 ⟨hD.written hR (by decide) (by decide) (by decide) (by decide) hs,⟨hF.below.trans (hb d (by omega)),fun k hk hl=>(hs k (by omega)).trans (hF.rest k hk hl)⟩⟩
theorem jnh (d:Nat) (D:Dk) (s:List UInt8) (w:World) (hL:LW w) (hD:Dsk w d D) (hO:DOk D) (hs:s.length≤9223372036854775807) :
  Calls Tryz.prog 13 #[.pointer (some ⟨d,0,none⟩),txt s] w fun e w'=>jsl d D s w e w':=by
 obtain⟨vs,vp,va,pl,hM⟩:=hD
 have hn:=hO.n
 have HM:Hid (DM w d D vs vp va pl∧LW w):=⟨hM,hL⟩
 have HO:Hid (DOk D):=hO
 have hlt:=hM.lt
 have HPA:=fun W h=>jrq s hs W h
 have HOB:=fun o W h1 h2 h3=>jnm d { D with n:=D.n+1 } o W h1 h2 h3
 unfold txt at *
 clear hM hO hL
 go_enter Tryz.func13,Tryz.ntmps13
 go_upto_region 1 with (refine jbb rfl rfl 4 rfl ?_;intro w1 h1 s1)
 have E1:Hid (DM w1 d D vs vp va pl∧LW w1∧RB w1 w.heap.size 0 0∧Fr d w w1):=⟨HM.out.1.later h1.out.2,HM.out.2.later h1.out.2,h1.out.1,Fr.of h1.out.2 (by omega)⟩
 clear h1 s1 HM
 generalize hz:w.heap.size=z at *
 have c18:=E1.out.1.box.cells.2.2.2.2
 by_cases h250:250≤D.n
 ·have LI:Hid (jdv D s D 5 0):=Or.inl ⟨h250,rfl,rfl,rfl⟩
  clear HOB HPA
  go_wp2_with (refine jaq rfl _ _ rfl z 0 0 5 0 rfl rfl E1.out.2.2.1 ?_;intro w2 h2 s2)
  refine bodyPost_ret (v:=.agg #[.int .i64 5,.int .i64 0]) (ja5 Tryz.results13 _ _ z 5 0 rfl h2.out.1) rfl ?_
  exact⟨5,0,rfl,D,LI.out,jkt ⟨_,_,_,_,E1.out.1⟩ E1.out.2.2.1 E1.out.2.2.2 (by omega) (by omega) h2.out.2.1 h2.out.2.2⟩
 have f18:=E1.out.1.box.frozen 18
 have E2:Hid (Dsk (w1.setCell ⟨d,18,none⟩ (.int .i64 (D.n+1))) d { D with n:=D.n+1 }∧LW (w1.setCell ⟨d,18,none⟩ (.int .i64 (D.n+1)))∧RB (w1.setCell ⟨d,18,none⟩ (.int .i64 (D.n+1))) z 0 0∧Fr d w (w1.setCell ⟨d,18,none⟩ (.int .i64 (D.n+1)))∧DOk { D with n:=D.n+1 }∧∀ u∈usedG,u < d):=by
  have F:=Fr.set (d:=d) w1 18 (.int .i64 (D.n+1))
  have hb:=E1.out.1.box
  refine⟨⟨vs,vp,va,pl,hb.setLines _,E1.out.1.ships.fr F hb (by decide),E1.out.1.plan,E1.out.1.row.fr F hb (by decide),E1.out.1.asd.fr F hb,E1.out.1.old,E1.out.1.far⟩,E1.out.2.1.fr F E1.out.1.old,E1.out.2.2.1.fr F (by omega),E1.out.2.2.2.trans F,⟨HO.out.rests,HO.out.aside,?_⟩,E1.out.1.old⟩
  show 0≤D.n+1∧D.n+1≤250
  omega
 clear E1
 go_upto_region 6 with fail
 clear c18 f18
 generalize w1.setCell ⟨d,18,none⟩ (.int .i64 (D.n+1))=W2 at *
 go_wp2_with fail
 refine(HPA _ E2.out.2.1).mono ?_
 rintro e w3 ⟨o,er,rfl,hP,hb3⟩
 have PI:Hid ((er=0∧jay s (some o))∨(er=1∧o=noOrd∧jay s none)):=hP
 have E3:Hid (Dsk w3 d { D with n:=D.n+1 }∧RB w3 z 0 0∧Fr d w w3∧DOk { D with n:=D.n+1 }):=⟨E2.out.1.later hb3,E2.out.2.2.1.later hb3,E2.out.2.2.2.1.trans (Fr.of hb3 (by have:=E2.out.1.lt;omega)),E2.out.2.2.2.2.1⟩
 clear hP hb3 E2 HPA
 go_upto_region 7 with (first|(refine jat rfl rfl 5 rfl ?_;intro w4 h4 s4)|(refine jak rfl _ _ rfl w3.heap.size noOrd o rfl rfl h4.out.1 ?_;intro w5 h5 s5))
 have E5:Hid (Dsk w5 d { D with n:=D.n+1 }∧RB w5 z 0 0∧Fr d w w5∧DOk { D with n:=D.n+1 }∧LOB w5 w3.heap.size o):=by
  have hb:Below w3.heap.size w3 w5:=h4.out.2.trans (h5.out.2.2 _ (Nat.le_refl _))
  exact⟨E3.out.1.later hb,E3.out.2.1.later hb,E3.out.2.2.1.trans (Fr.of hb (by have:=E3.out.1.lt;omega)),E3.out.2.2.2,h5.out.1⟩
 clear h4 h5 s4 s5 E3
 generalize w3.heap.size=g at *
 by_cases he:er=0
 case neg =>
  obtain⟨rfl,_,hp⟩:er=1∧o=noOrd∧jay s none:=by
   rcases PI.out with ⟨h,_⟩|h
   ·exact absurd h he
   ·exact h
  have LI:Hid (jdv D s { D with n:=D.n+1 } 1 0):=Or.inr ⟨by omega,Or.inl ⟨hp,rfl,rfl,rfl⟩⟩
  clear PI hp HOB he
  go_wp2_with (refine jaq rfl _ _ rfl z 0 0 1 0 rfl rfl E5.out.2.1 ?_;intro w6 h6 s6)
  refine bodyPost_ret (v:=.agg #[.int .i64 1,.int .i64 0]) (ja5 Tryz.results13 _ _ z 1 0 rfl h6.out.1) rfl ?_
  exact⟨1,0,rfl,_,LI.out,jkt E5.out.1 E5.out.2.1 E5.out.2.2.1 (by omega) (by omega) h6.out.2.1 h6.out.2.2⟩
 subst he
 have hp:jay s (some o):=by
  rcases PI.out with ⟨_,h⟩|⟨h,_⟩
  ·exact h
  ·cases h
 have PJ:Hid (jay s (some o)):=hp
 have hsm:=hp.2.1.small o.a (by simp [numsO])
 clear PI hp
 go_wp2_with (refine jc6 rfl _ rfl g o rfl E5.out.2.2.2.2 ?_)
 refine(HOB o _ E5.out.1 E5.out.2.2.2.1 hsm).mono ?_
 rintro e w6 ⟨n,er,rfl,h6⟩
 obtain⟨D',j1,j2,j3⟩:=h6.out
 have E6:Hid (Dsk w6 d D'∧RB w6 z 0 0∧Fr d w w6):=⟨j2,E5.out.2.1.fr j3 (by omega),E5.out.2.2.1.trans j3⟩
 have LI:Hid (jdv D s D' er n):=Or.inr ⟨by omega,Or.inr ⟨o,PJ.out,j1⟩⟩
 clear h6 j1 j2 j3 E5 HOB
 go_wp2_with (refine jaq rfl _ _ rfl z 0 0 er n rfl rfl E6.out.2.1 ?_;intro w7 h7 s7)
 refine bodyPost_ret (v:=.agg #[.int .i64 er,.int .i64 n]) (ja5 Tryz.results13 _ _ z er n rfl h7.out.1) rfl ?_
 exact⟨er,n,rfl,D',LI.out,jkt E6.out.1 E6.out.2.1 E6.out.2.2 (by omega) (by omega) h7.out.2.1 h7.out.2.2⟩
theorem jov (w:World) (hL:LW w):Calls Tryz.prog 10 #[] w fun e w'=>∃ d,e=.returned (.pointer (some ⟨d,0,none⟩))∧w.heap.size≤d∧Dsk w' d newDk∧Below w.heap.size w w':=by
 have HN:=fun W=>jog W
 have hz:(jaa jaf (.slice none 0 0)).toArray=#[.int .i64 0,.slice none 0 0,.int .i64 0,.int .i64 0,.int .i64 0,.int .i64 0,.int .i64 0,.int .i64 0,.int .i64 0,.int .i64 0,.int .i64 0,.int .i64 0,.int .i64 0,.int .i64 0,.int .i64 0,.int .i64 0]:=rfl
 rw [hz] at HN
 have HL:Hid (LW w):=hL
 clear hz hL
 go_enter Tryz.func10,Tryz.ntmps10
 go_wp2_with fail
 refine(HN _).mono ?_
 rintro e w1 ⟨rfl,hb⟩
 have B:Hid (LW w1∧Below w.heap.size w w1):=⟨HL.out.later hb,hb⟩
 clear hb HN
 go_wp2_with fail
 go_ret
 refine⟨w1.heap.size,rfl,B.out.2.size,⟨.slice none 0 0,.slice none 0 0,.pointer none,[],⟨rfl,heap_alloc_new w1 _⟩,RowT.nil _ _ _,jph,RowT.nil _ _ _,rfl,B.out.1.lt,fun g o f h=>(by cases h)⟩,B.out.2.trans (((Below.refl _ w1).alloc (Nat.le_refl _) _).mono B.out.2.size)⟩
theorem jlo (v:Value) (l:List Int) (w:World) (h:SlK cInt w v l) (hn:l.length≤17592186044416) :
  Calls Tryz.prog 26 #[v] w fun e w'=>∃ v',e=.returned v'∧Hid (w'.ownsRow w.heap.size 3 1 v' l.length (jae cInt l)∧Below w.heap.size w w'):=by
 obtain⟨a,cap,rfl,hcap,h1⟩:=h
 have q22:∀ (w:World) (a:Option Addr) (n c n' c':Nat),(binOp .eql 43 (.slice a n c) (.slice none n' c')).run Tryz.prog w=.ok (.bool a.isNone) w:=fun w a n c n' c'=>Lib.run_eql_slice_nil w _ _ a n c n' c' Tryz.underlying43
 cases a with
 | none =>
  have hl:l=[]:=by
   rcases h1 with h|⟨b,off,h,_⟩
   ·exact h
   ·cases h
  subst hl
  go_enter Tryz.func26,Tryz.ntmps26
  go_wp2
  go_ret
  exact⟨_,rfl,World.ownsRow_nil _ _ _ _,Below.refl _ _⟩
 | some ad =>
  have hbw:Below w.heap.size w (w.alloc (.cells #[] 3)):=(Below.refl _ w).alloc (Nat.le_refl _) _
  obtain⟨b,off,had,hr⟩:∃ b off,(l=[]∨ad=⟨b,off,none⟩)∧RdK cInt w b off l:=by
   rcases h1 with rfl|⟨b,off,h,hr⟩
   ·exact⟨0,0,Or.inl rfl,fun j u hu=>by simp [jae] at hu⟩
   ·injection h with h;exact⟨b,off,Or.inr h,hr⟩
  have HO:Hid ((w.alloc (.cells #[] 3)).ownsRow w.heap.size 3 1 (.slice (some ⟨w.heap.size,0,none⟩) 0 0) ([]:List Int).length (jae cInt [])):=World.ownsRow_made w #[] 0 (Nat.le_refl _) (Nat.zero_le _) (by simp)
  have HR:Hid (∀ j u,(jae cInt l)[j]?=some u→(w.alloc (.cells #[] 3)).cell? (ad.add j)=some u):=fun j u hu=>by
   rcases had with rfl|rfl
   ·simp [jae] at hu
   ·rw [Addr.add_lit];exact(hr.below hbw) j u hu
  have HB:Hid (Below w.heap.size w (w.alloc (.cells #[] 3))):=hbw
  obtain⟨i0,z,hi,hz,hs,hby,hzs⟩:=tyInt.info
  have HI:Hid (Tryz.prog.info? 3=some i0∧i0.zero=some z∧i0.size=1∧i0.bytes=8∧z.cells.size=1):=⟨hi,hz,hs,hby,hzs⟩
  have HQ:Hid (0+l.length≤maxLen∧(0+l.length)*8≤140737488355328∧w.heap.size≤(w.alloc (.cells #[] 3)).heap.size):=⟨by unfold maxLen;omega,by omega,by simp⟩
  clear h1 had hr hbw hi hz hs hby hzs
  go_enter Tryz.func26,Tryz.ntmps26
  go_wp2_with (at_builtin;(refine wpList_append_own _ rfl _ _ 43 rfl w.heap.size 3 i0 z 1 8 Tryz.underlying43 HI.out.1 HI.out.2.1 HI.out.2.2.1 HI.out.2.2.2.1 HI.out.2.2.2.2 (by omega) _ 0 (jae cInt ([]:List Int)) rfl HO.out ad l.length cap (jae cInt l) rfl (ja6 jh0 l) HR.out (jcx jh0 l) HQ.out.1 HQ.out.2.1 HQ.out.2.2 ?_;intro v' w1 hown hgrow hnil;have F:Hid (w1.ownsRow w.heap.size 3 1 v' l.length (jae cInt l)∧Below w.heap.size w w1):=⟨by rw [Nat.zero_add] at hown;exact hown,HB.out.grown hgrow HQ.out.2.2 (fun k hk=>(HO.out.lt k hk).1)⟩;clear hown hgrow hnil))
  go_ret
  exact⟨_,rfl,F⟩
theorem jnl (d:Nat) (D:Dk) (w:World) (hD:Dsk w d D) (hO:DOk D) :
  Calls Tryz.prog 15 #[.pointer (some ⟨d,0,none⟩)] w fun e w'=>∃ v,e=.returned v∧Hid (∃ pl,jbd D.p pl∧w'.ownsRow w.heap.size 3 1 v pl.length (jae cInt pl)∧Below w.heap.size w w'):=by
 obtain⟨vs,vp,va,pl,hM⟩:=hD
 have c16:=hM.box.cells.2.2.1
 have hl:pl.length≤17592186044416:=by have:=hM.plan.len;have:=hO.port.port.len;omega
 have HC:=jlo vp pl w hM.row.sl hl
 have PL:Hid (jbd D.p pl):=hM.plan
 obtain⟨pa,pc,hvp⟩:=hM.row.shape
 subst hvp
 clear hM hl
 go_enter Tryz.func15,Tryz.ntmps15
 go_wp2_with fail
 refine HC.mono ?_
 rintro e w1 ⟨v,rfl,h1⟩
 have R:Hid (∃ pl,jbd D.p pl∧w1.ownsRow w.heap.size 3 1 v pl.length (jae cInt pl)∧Below w.heap.size w w1):=⟨pl,PL.out,h1.out⟩
 clear HC h1
 go_wp2_with fail
 go_ret
 exact⟨v,rfl,R⟩
theorem jnk (d:Nat) (D:Dk) (w:World) (hD:Dsk w d D) (hO:DOk D) :
  Calls Tryz.prog 14 #[.pointer (some ⟨d,0,none⟩)] w fun e w'=>∃ v,e=.returned (.agg (jaa D.p v).toArray)∧Hid (w'.ownsRow w.heap.size 46 6 v D.p.ships.length (jae cShip D.p.ships)∧Below w.heap.size w w'):=by
 obtain⟨vs,vp,va,pl,hM⟩:=hD
 have h4:=hM.box.four
 have on:=hM.ships.one
 have HCL:=fun W h=>jgd vs D.p.ships W h (by have:=hO.port.port.len;omega)
 have HM:Hid (DM w d D vs vp va pl):=hM
 clear hM
 go_enter Tryz.func14,Tryz.ntmps14
 go_upto_region 1 with (refine jah rfl rfl 2 rfl ?_;intro w1 h1 s1)
 have E1:Hid (DM w1 d D vs vp va pl∧PBox w1 w.heap.size jaf (.slice none 0 0)∧Below w.heap.size w w1):=⟨HM.out.later h1.out.2,h1.out.1,h1.out.2⟩
 clear h1 HM
 go_upto_region 4 with (first|(refine jdq rfl _ rfl d D.p vs vp va D.n rfl E1.out.1.box ?_)|(refine jah rfl rfl 3 rfl ?_;intro w2 h2 s2)|(refine jab rfl _ _ rfl w1.heap.size jaf D.p (.slice none 0 0) vs rfl rfl h2.out.1 h4 on ?_;intro w3 h3 s3))
 have E3:Hid (SlK cShip w3 vs D.p.ships∧PBox w3 w.heap.size jaf (.slice none 0 0)∧PBox w3 w1.heap.size D.p vs∧Below w.heap.size w w3∧w.heap.size < w1.heap.size∧w1.heap.size < w3.heap.size):=by
  have hb:Below w1.heap.size w1 w3:=h2.out.2.trans (h3.out.2.2 _ (Nat.le_refl _))
  exact⟨(E1.out.1.later hb).ships.sl,E1.out.2.1.later hb E1.out.2.1.lt,h3.out.1,E1.out.2.2.trans (hb.mono E1.out.2.2.size),by omega,h3.out.1.lt⟩
 clear h2 h3 s1 s2 s3 E1
 generalize w1.heap.size=g at *
 generalize hz:w.heap.size=z at *
 have c1:=E3.out.2.2.1.cells.2.1
 obtain⟨sa,sc,hvs⟩:∃ a c,vs=.slice a D.p.ships.length c:=by obtain⟨a,c,e,_⟩:=E3.out.1;exact⟨a,c,e⟩
 subst hvs
 go_wp2_with fail
 refine(HCL _ E3.out.1).mono ?_
 rintro e w4 ⟨v4,rfl,h4o⟩
 obtain⟨xa,xc,hv4⟩:=jan h4o.out.1
 subst hv4
 have hlt:=E3.out.2.2.2.2
 have E4:Hid (PBox w4 z jaf (.slice none 0 0)∧PBox w4 g D.p (.slice sa D.p.ships.length sc)∧Below z w w4∧w4.ownsRow w3.heap.size 46 6 (.slice xa D.p.ships.length xc) D.p.ships.length (jae cShip D.p.ships)):=⟨E3.out.2.1.later h4o.out.2 E3.out.2.1.lt,E3.out.2.2.1.later h4o.out.2 hlt.2,E3.out.2.2.2.1.trans (h4o.out.2.mono (by omega)),h4o.out.1⟩
 have d1:=E4.out.2.1.cells.2.1
 have f1:=E4.out.2.1.frozen 1
 have E5:Hid (PBox (w4.setCell ⟨g,1,none⟩ (.slice xa D.p.ships.length xc)) z jaf (.slice none 0 0)∧PBox (w4.setCell ⟨g,1,none⟩ (.slice xa D.p.ships.length xc)) g D.p (.slice xa D.p.ships.length xc)∧Below z w (w4.setCell ⟨g,1,none⟩ (.slice xa D.p.ships.length xc))∧(w4.setCell ⟨g,1,none⟩ (.slice xa D.p.ships.length xc)).ownsRow w3.heap.size 46 6 (.slice xa D.p.ships.length xc) D.p.ships.length (jae cShip D.p.ships)):=by
  refine⟨E4.out.1.other 1 _ (by omega),E4.out.2.1.setShips D.p.ships _,E4.out.2.2.1.setCell (by show z≤g;omega) _,jal E4.out.2.2.2 fun k hk=>Below.heap_setCell _ _ _ _ (by show k≠g;omega)⟩
 clear h4o HCL c1 E3
 go_upto_region 5 with fail
 clear d1 f1 E4
 generalize w4.setCell ⟨g,1,none⟩ (.slice xa D.p.ships.length xc)=W5 at *
 go_wp2_with (first|(refine jac rfl _ rfl g D.p (.slice xa D.p.ships.length xc) rfl E5.out.2.1 ?_)|(refine jab rfl _ _ rfl z jaf D.p (.slice none 0 0) (.slice xa D.p.ships.length xc) rfl rfl E5.out.1 h4 rfl ?_;intro w6 h6 s6))
 refine bodyPost_ret (v:=.agg (jaa D.p (.slice xa D.p.ships.length xc)).toArray) (jfb Tryz.results14 _ _ z D.p (.slice xa D.p.ships.length xc) rfl h6.out.1) rfl ?_
 refine⟨_,rfl,⟨?_,?_⟩⟩
 ·rw [hz]
  exact jar (jal E5.out.2.2.2 fun k hk=>h6.out.2.1 k (by omega)) (by omega)
 ·rw [hz]
  exact E5.out.2.2.1.trans (h6.out.2.2 _ (Nat.le_refl _))
end Go.Proofs.YtcmdoeledmkfmacGreatDoor
