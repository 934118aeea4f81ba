/- Texts of this claim, in one: RDTA RDTB RDTC RDTD. -/
import Derived.Test.YtcmdoeledmkfmacGreatDoorYS0
import Derived.BigQuiet
import Derived.Test.YtcmdoeledmkfmacGreatDoorSK
set_option linter.unusedSimpArgs false
set_option linter.unusedVariables false
set_option maxHeartbeats 40000000
set_option maxRecDepth 100000
namespace Go.Proofs.YtcmdoeledmkfmacGreatDoor
open Go.RowKit
theorem jk5 (B d:Nat) (D:Dk) (s:List UInt8) (w:World) (h:RS w B d D) (hn:D.n=250) :
  Calls Tryz.prog 18 #[.pointer (some ⟨d,0,none⟩),txt s] w fun e w'=>jge B d D s w e w':=by
 obtain⟨vs,va,hM⟩:=h.dsk
 have HRP:=fun er W=>jcw er W
 have HN:Hid (D.n=250):=hn
 have E0:Hid (RM w B d D vs va∧AS w):=⟨hM,h.asp⟩
 have hzB:=hM.hB
 clear h hM
 unfold txt at *
 go_enter Tryz.func18,Tryz.ntmps18
 go_upto_region 2 with (refine jbb rfl rfl 4 rfl ?_;intro w1 h1 s1)
 have E1:Hid (RT w w.heap.size B d D vs va w1):=⟨E0.out.1.later h1.out.2,E0.out.2.later h1.out.2,h1.out.1,Fr.of h1.out.2 (Nat.le_of_lt E0.out.1.lt),hzB,Nat.le_refl _⟩
 clear h1 s1 E0
 generalize hz:w.heap.size=z at *
 have c17:=E1.out.rm.box.cells.2.2.2
 rw [hn] at c17
 clear hn
 go_wp2_with fail
 refine(HRP _ _).mono ?_
 rintro e wX ⟨rfl,hbX⟩
 have EX:Hid (RT w z B d D vs va wX):=E1.out.later hbX
 clear hbX HRP
 go_wp2_with (refine jaq rfl _ _ rfl z 0 0 (5) 0 rfl rfl EX.out.rep ?_;intro wZ hZ sZ)
 refine bodyPost_ret (v:=.agg #[.int .i64 (5),.int .i64 (0)]) (ja5 Tryz.results18 _ _ z (5) (0) rfl hZ.out.1) rfl ?_
 have hE:=EX.out.end hZ.out
 exact⟨5,0,rfl,D,Or.inl ⟨by have:=HN.out;omega,rfl,rfl,rfl⟩,hE.1,hE.2⟩
theorem jk4 (B d:Nat) (D:Dk) (s:List UInt8) (w:World) (hs:s.length≤9223372036854775807) (h:RS w B d D) (hn:D.n < 250) (hP:jay s none) :
  Calls Tryz.prog 18 #[.pointer (some ⟨d,0,none⟩),txt s] w fun e w'=>jge B d D s w e w':=by
 obtain⟨vs,va,hM⟩:=h.dsk
 have hnn:=h.ok.n
 have HO:Hid (DOk (D1 D)):=D1_ok h.ok hn
 have HN:Hid (D.n < 250):=hn
 have HPA:=fun W hA=>jcl s hs W hA
 have HRP:=fun er W=>jcw er W
 have HP:Hid (jay s none):=hP
 have LOW:Hid (2 < d):=h.low
 have hne:(D.n == 250)=false:=beq_eq_false_iff_ne.2 (by omega)
 have E0:Hid (RM w B d D vs va∧AS w):=⟨hM,h.asp⟩
 have hzB:=hM.hB
 clear h hM hP
 unfold txt at *
 go_enter Tryz.func18,Tryz.ntmps18
 go_upto_region 2 with (refine jbb rfl rfl 4 rfl ?_;intro w1 h1 s1)
 have E1:Hid (RT w w.heap.size B d D vs va w1):=⟨E0.out.1.later h1.out.2,E0.out.2.later h1.out.2,h1.out.1,Fr.of h1.out.2 (Nat.le_of_lt E0.out.1.lt),hzB,Nat.le_refl _⟩
 clear h1 s1 E0
 generalize hz:w.heap.size=z at *
 have c17:=E1.out.rm.box.cells.2.2.2
 have f17:=E1.out.rm.box.frozen 17
 have E2:Hid (RT w z B d (D1 D) vs va (w1.setCell ⟨d,17,none⟩ (.int .i64 (D.n+1)))):=E1.out.turn (E1.out.rm.acts _) (Fr.set _ _ _) LOW.out
 clear E1
 go_upto_region 5 with fail
 clear c17 f17
 generalize w1.setCell ⟨d,17,none⟩ (.int .i64 (D.n+1))=W2 at *
 go_wp2_with fail
 refine(HPA _ E2.out.asp).mono ?_
 rintro e w3 ⟨o3,er3,rfl,hP3,hb3⟩
 obtain rfl:er3=1:=by
  rcases hP3 with ⟨_,h⟩|⟨h,_⟩
  ·cases jcn h HP.out
  ·exact h
 have E3:Hid (RT w z B d (D1 D) vs va w3):=E2.out.later hb3
 clear hP3 hb3 HPA E2
 go_upto_region 6 with (first|(refine jat rfl rfl 6 rfl ?_;intro w4 h4 s4)|(refine jak rfl _ _ rfl w3.heap.size noOrd o3 rfl rfl h4.out.1 ?_;intro w5 h5 s5))
 have E5:Hid (RT w z B d (D1 D) vs va w5∧LOB w5 w3.heap.size o3∧z < w3.heap.size):=by
  have hb:Below w3.heap.size w3 w5:=h4.out.2.trans (h5.out.2.2 _ (Nat.le_refl _))
  exact⟨E3.out.later hb,h5.out.1,E3.out.rep.lt⟩
 clear h4 h5 s4 s5 E3
 generalize w3.heap.size=g6 at *
 have E6:Hid (RT w z B d (D1 D) vs va w5):=E5.out.1
 clear E5
 go_wp2_with fail
 refine(HRP _ _).mono ?_
 rintro e wX ⟨rfl,hbX⟩
 have EX:Hid (RT w z B d (D1 D) vs va wX):=E6.out.later hbX
 clear hbX HRP
 go_wp2_with (refine jaq rfl _ _ rfl z 0 0 (1) 0 rfl rfl EX.out.rep ?_;intro wZ hZ sZ)
 refine bodyPost_ret (v:=.agg #[.int .i64 (1),.int .i64 (0)]) (ja5 Tryz.results18 _ _ z (1) (0) rfl hZ.out.1) rfl ?_
 have hE:=EX.out.end hZ.out
 exact⟨1,0,rfl,(D1 D),Or.inr ⟨HN.out,Or.inl ⟨HP.out,rfl,rfl,rfl⟩⟩,hE.1,hE.2⟩
theorem jk2 (B d:Nat) (D:Dk) (s:List UInt8) (w:World) (hs:s.length≤9223372036854775807) (h:RS w B d D) (hn:D.n < 250) (o:Ord) (hP:jay s (some o)) (hk:o.kd=9) :
  Calls Tryz.prog 18 #[.pointer (some ⟨d,0,none⟩),txt s] w fun e w'=>jge B d D s w e w':=by
 obtain⟨vs,va,hM⟩:=h.dsk
 have hnn:=h.ok.n
 have HO:Hid (DOk (D1 D)):=D1_ok h.ok hn
 have HN:Hid (D.n < 250):=hn
 have HPA:=fun W hA=>jcl s hs W hA
 have HRP:=fun er W=>jcw er W
 have HP:Hid (jay s (some o)):=hP
 have LOW:Hid (2 < d):=h.low
 have hne:(D.n == 250)=false:=beq_eq_false_iff_ne.2 (by omega)
 have E0:Hid (RM w B d D vs va∧AS w):=⟨hM,h.asp⟩
 have hzB:=hM.hB
 clear h hM hP
 unfold txt at *
 go_enter Tryz.func18,Tryz.ntmps18
 go_upto_region 2 with (refine jbb rfl rfl 4 rfl ?_;intro w1 h1 s1)
 have E1:Hid (RT w w.heap.size B d D vs va w1):=⟨E0.out.1.later h1.out.2,E0.out.2.later h1.out.2,h1.out.1,Fr.of h1.out.2 (Nat.le_of_lt E0.out.1.lt),hzB,Nat.le_refl _⟩
 clear h1 s1 E0
 generalize hz:w.heap.size=z at *
 have c17:=E1.out.rm.box.cells.2.2.2
 have f17:=E1.out.rm.box.frozen 17
 have E2:Hid (RT w z B d (D1 D) vs va (w1.setCell ⟨d,17,none⟩ (.int .i64 (D.n+1)))):=E1.out.turn (E1.out.rm.acts _) (Fr.set _ _ _) LOW.out
 clear E1
 go_upto_region 5 with fail
 clear c17 f17
 generalize w1.setCell ⟨d,17,none⟩ (.int .i64 (D.n+1))=W2 at *
 go_wp2_with fail
 refine(HPA _ E2.out.asp).mono ?_
 rintro e w3 ⟨o3,er3,rfl,hP3,hb3⟩
 obtain⟨rfl,rfl⟩:=jdh hP3 HP.out
 have E3:Hid (RT w z B d (D1 D) vs va w3):=E2.out.later hb3
 clear hP3 hb3 HPA E2
 go_upto_region 6 with (first|(refine jat rfl rfl 6 rfl ?_;intro w4 h4 s4)|(refine jak rfl _ _ rfl w3.heap.size noOrd o3 rfl rfl h4.out.1 ?_;intro w5 h5 s5))
 have E5:Hid (RT w z B d (D1 D) vs va w5∧LOB w5 w3.heap.size o3∧z < w3.heap.size):=by
  have hb:Below w3.heap.size w3 w5:=h4.out.2.trans (h5.out.2.2 _ (Nat.le_refl _))
  exact⟨E3.out.later hb,h5.out.1,E3.out.rep.lt⟩
 clear h4 h5 s4 s5 E3
 generalize w3.heap.size=g6 at *
 obtain⟨kd,a,b,c⟩:=o3
 simp only at hk
 subst hk
 obtain⟨o0,o1,o2,o4⟩:=E5.out.2.1.cells
 simp only at o0 o1 o2 o4
 have HWI:=fun n lo hi W=>jag n lo hi W
 have hnow:=HO.out.port.port.now
 have hnow2:0≤D.p.now∧D.p.now≤299:=hnow
 have ha30:-1073741824≤a∧a≤1073741824:=HP.out.2.1.small a (by simp [numsO])
 clear hnow
 go_upto_region 10 with fail
 clear o0 o1 o2 o4
 have E6:Hid (RT w z B d (D1 D) vs va w5.drew∧LOB w5.drew g6 ⟨9,a,b,c⟩∧z < g6):=⟨E5.out.1.later (Below.refl _ _).drew,E5.out.2.1.later (Below.refl _ _).drew E5.out.2.1.lt,E5.out.2.2⟩
 have hwn:IntKind.i64.wrap (299 - D.p.now)=299 - D.p.now:=jbk (by omega) (by omega)
 clear E5
 refine wp_region_held_drew (S:=fun W=>Hid (RT w z B d (D1 D) vs va W∧LOB W g6 ⟨9,a,b,c⟩∧z < g6)) (by kernel_rfl) E6 (fun hHeld=>?_)
 refine jjT 0 ⟨some 43,.fieldAddr 61 (.tmp 6) 1,0,"ref.go:414",#[],none⟩ (?_) rfl (by kernel_rfl) (fun _ _ _ h=>h) (Or.inl ⟨by rfl,?_⟩) hHeld ?_
 rotate_left
 ·(intro w hSw;first|(go_simp;done)|(go_simp;with_reducible rfl))
 simp only [Act.put,jjA,jjB,jjC]
 refine jjT 1 ⟨some 44,.load 3 (.tmp 43),3,"ref.go:414",#[⟨0,.data⟩],none⟩ (.int .i64 a) rfl (by kernel_rfl) (fun _ _ _ h=>h) (Or.inl ⟨by rfl,by intro w hSw;have q:=hSw.out.2.1.cells.2.1;go_simp⟩) hHeld ?_
 simp only [Act.put,jjA,jjB,jjC]
 refine jjT 2 ⟨some 45,.move (.tmp 0),51,"ref.go:414",#[],none⟩ (?_) rfl (by kernel_rfl) (fun _ _ _ h=>h) (Or.inl ⟨by rfl,?_⟩) hHeld ?_
 rotate_left
 ·(intro w hSw;first|(go_simp;done)|(go_simp;with_reducible rfl))
 simp only [Act.put,jjA,jjB,jjC]
 refine jjT 3 ⟨some 46,.nilCheck (.tmp 45),0,"ref.go:414",#[⟨2,.data⟩],none⟩ (?_) rfl (by kernel_rfl) (fun _ _ _ h=>h) (Or.inl ⟨by rfl,?_⟩) hHeld ?_
 rotate_left
 ·(intro w hSw;first|(go_simp;done)|(go_simp;with_reducible rfl))
 simp only [Act.put,jjA,jjB,jjC]
 refine jjT 4 ⟨some 47,.fieldAddr 54 (.tmp 46) 0,0,"ref.go:414",#[⟨3,.data⟩],none⟩ (?_) rfl (by kernel_rfl) (fun _ _ _ h=>h) (Or.inl ⟨by rfl,?_⟩) hHeld ?_
 rotate_left
 ·(intro w hSw;first|(go_simp;done)|(go_simp;with_reducible rfl))
 simp only [Act.put,jjA,jjB,jjC]
 refine jjT 5 ⟨some 48,.fieldAddr 41 (.tmp 47) 0,0,"ref.go:414",#[⟨4,.data⟩],none⟩ (?_) rfl (by kernel_rfl) (fun _ _ _ h=>h) (Or.inl ⟨by rfl,?_⟩) hHeld ?_
 rotate_left
 ·(intro w hSw;first|(go_simp;done)|(go_simp;with_reducible rfl))
 simp only [Act.put,jjA,jjB,jjC]
 refine jjT 6 ⟨some 49,.load 3 (.tmp 48),3,"ref.go:414",#[⟨5,.data⟩],none⟩ (.int .i64 D.p.now) rfl (by kernel_rfl) (fun _ _ _ h=>h) (Or.inl ⟨by rfl,by intro w hSw;have q:w.cell? ⟨d,0,none⟩=some (.int .i64 D.p.now):=hSw.out.1.rm.box.cells.1;go_simp⟩) hHeld ?_
 simp only [Act.put,jjA,jjB,jjC]
 refine jjT 7 ⟨some 50,.binOp .sub 3 (.const (.int .i64 299)) (.tmp 49) 3,3,"ref.go:414",#[⟨6,.data⟩],none⟩ (.int .i64 (299 - D.p.now)) rfl (by kernel_rfl) (fun _ _ _ h=>h) (Or.inl ⟨by rfl,by intro w hSw;go_simp⟩) hHeld ?_
 simp only [Act.put,jjA,jjB,jjC]
 refine jjR 8 (by kernel_rfl) rfl fun K hK=>?_
 go_simp
 refine(HWI _ _ _ _).mono ?_
 rintro e w' ⟨rfl,hw⟩
 subst hw
 go_wp2_with fail
 refine hK.out _ _ E6 (fun hHeld=>?_)
 clear hK K hwn
 refine jjT 9 ⟨some 52,.unOp .not 4 (.tmp 51),4,"ref.go:414",#[⟨8,.data⟩],none⟩ (?_) rfl (by kernel_rfl) (fun _ _ _ h=>h) (Or.inl ⟨by rfl,?_⟩) hHeld ?_
 rotate_left
 ·(intro w hSw;first|(go_simp;done)|(go_simp;with_reducible rfl))
 simp only [Act.put,jjA,jjB,jjC]
 refine wpAnyH_done (by kernel_rfl) ?_ _
 clear hHeld HWI
 by_cases hin:1≤a∧a≤299 - D.p.now
 case neg =>
  have hi:inR a 1 (299 - D.p.now)=false:=decide_eq_false hin
  have OB:Hid (ObsIs (D1 D) ⟨9,a,b,c⟩ (D1 D) 0 2):=by
   unfold ObsIs
   rw [if_pos rfl]
   exact⟨rfl,Or.inl ⟨fun h=>hin ⟨h.1,by have h2:D.p.now+a < 300:=h.2;omega⟩,rfl,rfl⟩⟩
  rw [hi]
  have E7:Hid (RT w z B d (D1 D) vs va w5.drew):=E6.out.1
  clear E6 hin hi
  go_wp2_with fail
  refine(HRP _ _).mono ?_
  rintro e wX ⟨rfl,hbX⟩
  have EX:Hid (RT w z B d (D1 D) vs va wX):=E7.out.later hbX
  clear hbX HRP
  go_wp2_with (refine jaq rfl _ _ rfl z 0 0 (2) 0 rfl rfl EX.out.rep ?_;intro wZ hZ sZ)
  refine bodyPost_ret (v:=.agg #[.int .i64 (2),.int .i64 (0)]) (ja5 Tryz.results18 _ _ z (2) (0) rfl hZ.out.1) rfl ?_
  have hE:=EX.out.end hZ.out
  exact⟨2,0,rfl,(D1 D),jb4 HN.out HP.out OB.out,hE.1,hE.2⟩
 have hi:inR a 1 (299 - D.p.now)=true:=decide_eq_true hin
 rw [hi]
 obtain⟨m,rfl⟩:∃ m:Nat,a=m:=⟨a.toNat,by omega⟩
 have HM:Hid (1≤m∧D.p.now+m < 300):=⟨by omega,by omega⟩
 have HLA:=fun v q W h=>jmg v q W h
 have HDU:=fun D W h1 h2=>jf8 B d D W h1 h2
 have E7:Hid (∃ q v u,jd6 0 D.p q∧RT w z B d { D1 D with p:=q } v u w5.drew):=⟨D.p,vs,va,rfl,E6.out.1⟩
 have o1:=E6.out.2.1.cells.2.1
 simp only at o1
 clear hin hi E6
 generalize w5.drew=W6 at *
 go_wp2_with fail
 clear o1
 go_loopg [57] m (fun kx s57 wr=>∃ k:Nat,s57=.int .i64 k∧k≤m∧m - k≤kx∧Hid (∃ q v u,jd6 k D.p q∧RT w z B d { D1 D with p:=q } v u wr))
 case atStart=>exact⟨0,rfl,Nat.zero_le _,by omega,E7⟩
 case round =>
  clear E7
  obtain⟨k,rfl,hkm,hg,I⟩:=hrel
  obtain⟨q,v,u,i1,i2⟩:=I.out
  clear I
  by_cases hkl:k < m
  ·have hk3:(k:Int) < (m:Int):=by omega
   have hR:=jeb k D.p q HO.out.rests (by have:=HM.out.2;omega) i1
   have hnq:q.now < 299:=by have:=HM.out.2;omega
   have hq:=hR.1.1
   have hq2:=jel hq hnq
   have E8:Hid (RT w z B d { D1 D with p:=q } v u wr):=i2
   have WI:Hid (jd6 k D.p q∧jaj q∧jaj (jbn q)):=⟨i1,hq,hq2⟩
   clear i1 i2 hR hq hq2
   go_wp2_with (refine jex rfl _ rfl d q v u (D.n+1) rfl E8.out.rm.box ?_)
   refine(HLA _ q _ (E8.out.rm.pv (by have:=WI.out.2.1.port.len;show q.ships.length≤14;omega))).mono ?_
   rintro e w7 ⟨q7,v7,er7,rfl,hT,hq4,_,hsl7,hb7,hfar⟩
   obtain⟨rfl,rfl⟩:er7=0∧q7=jbn q:=by
    rcases hT with ⟨h,_⟩|⟨_,h,_⟩|⟨_,_,h1,h2⟩
    ·exact absurd WI.out.2.1 h
    ·omega
    ·exact⟨h1,h2⟩
   have on:=jf6 hsl7
   have E9:Hid (RT w z B d { D1 D with p:=q } v u w7∧SlK cShip w7 v7 (jbn q).ships∧FarB B v7):=⟨E8.out.later hb7,hsl7,(hfar rfl).mono E8.out.rm.hB⟩
   clear hT hsl7 hb7 hfar E8
   go_upto_region 15 with (refine jc5 rfl _ _ rfl d q (jbn q) v v7 u (D.n+1) rfl rfl E9.out.1.rm.box hq4 on ?_;intro w8 h8)
   have EA:Hid (RT w z B d { D1 D with p:=jbn q } v7 u w8):=E9.out.1.turn (E9.out.1.rm.port h8.out.1 h8.out.2 E9.out.2.1 E9.out.2.2) h8.out.2 LOW.out
   clear E9 h8
   go_wp2_with fail
   refine(HDU { D1 D with p:=jbn q } _ ⟨v7,u,EA.out.rm⟩ WI.out.2.2).mono ?_
   rintro e w9 ⟨rfl,r,hr,hrs,hf9⟩
   have EB:Hid (∃ q v u,jd6 (k+1) D.p q∧RT w z B d { D1 D with p:=q } v u w9):=by
    obtain⟨v9,va9,hM9⟩:=hrs
    exact⟨r,v9,va9,jgf k D.p q r WI.out.1 hr,EA.out.turn hM9 hf9 LOW.out⟩
   clear hr hrs hf9 EA WI
   go_wp2_with fail
   go_roundg (m - (k+1))
   case measure=>omega
   case rel=>exact⟨k+1,by go_num,by omega,Nat.le_refl _,EB⟩
  ·have hke:k=m:=by omega
   subst hke
   have hk3:¬ (k:Int) < (k:Int):=by omega
   have OB:Hid (ObsIs (D1 D) ⟨9,(k:Int),b,c⟩ { D1 D with p:=q } 0 0):=by
    unfold ObsIs
    rw [if_pos rfl]
    exact⟨rfl,Or.inr ⟨⟨by have:=HM.out.1;show(1:Int)≤(k:Int);omega,HM.out.2⟩,rfl,q,by rw [Int.toNat_natCast];exact i1,rfl⟩⟩
   have E8:Hid (RT w z B d { D1 D with p:=q } v u wr):=i2
   clear i1 i2
   go_wp2_with fail
   refine(HRP _ _).mono ?_
   rintro e wX ⟨rfl,hbX⟩
   have EX:Hid (RT w z B d { D1 D with p:=q } v u wX):=E8.out.later hbX
   clear hbX HRP
   go_wp2_with (refine jaq rfl _ _ rfl z 0 0 (0) 0 rfl rfl EX.out.rep ?_;intro wZ hZ sZ)
   refine bodyPost_ret (v:=.agg #[.int .i64 (0),.int .i64 (0)]) (ja5 Tryz.results18 _ _ z (0) (0) rfl hZ.out.1) rfl ?_
   have hE:=EX.out.end hZ.out
   exact⟨0,0,rfl,{ D1 D with p:=q },jb4 HN.out HP.out OB.out,hE.1,hE.2⟩
theorem jjp (B d:Nat) (D:Dk) (s:List UInt8) (w:World) (hs:s.length≤9223372036854775807) (h:RS w B d D) (hn:D.n < 250) (o:Ord) (hP:jay s (some o)) (hk:o.kd=10) :
  Calls Tryz.prog 18 #[.pointer (some ⟨d,0,none⟩),txt s] w fun e w'=>jge B d D s w e w':=by
 obtain⟨vs,va,hM⟩:=h.dsk
 have hnn:=h.ok.n
 have HO:Hid (DOk (D1 D)):=D1_ok h.ok hn
 have HN:Hid (D.n < 250):=hn
 have HPA:=fun W hA=>jcl s hs W hA
 have HRP:=fun er W=>jcw er W
 have HP:Hid (jay s (some o)):=hP
 have LOW:Hid (2 < d):=h.low
 have hne:(D.n == 250)=false:=beq_eq_false_iff_ne.2 (by omega)
 have E0:Hid (RM w B d D vs va∧AS w):=⟨hM,h.asp⟩
 have hzB:=hM.hB
 clear h hM hP
 unfold txt at *
 go_enter Tryz.func18,Tryz.ntmps18
 go_upto_region 2 with (refine jbb rfl rfl 4 rfl ?_;intro w1 h1 s1)
 have E1:Hid (RT w w.heap.size B d D vs va w1):=⟨E0.out.1.later h1.out.2,E0.out.2.later h1.out.2,h1.out.1,Fr.of h1.out.2 (Nat.le_of_lt E0.out.1.lt),hzB,Nat.le_refl _⟩
 clear h1 s1 E0
 generalize hz:w.heap.size=z at *
 have c17:=E1.out.rm.box.cells.2.2.2
 have f17:=E1.out.rm.box.frozen 17
 have E2:Hid (RT w z B d (D1 D) vs va (w1.setCell ⟨d,17,none⟩ (.int .i64 (D.n+1)))):=E1.out.turn (E1.out.rm.acts _) (Fr.set _ _ _) LOW.out
 clear E1
 go_upto_region 5 with fail
 clear c17 f17
 generalize w1.setCell ⟨d,17,none⟩ (.int .i64 (D.n+1))=W2 at *
 go_wp2_with fail
 refine(HPA _ E2.out.asp).mono ?_
 rintro e w3 ⟨o3,er3,rfl,hP3,hb3⟩
 obtain⟨rfl,rfl⟩:=jdh hP3 HP.out
 have E3:Hid (RT w z B d (D1 D) vs va w3):=E2.out.later hb3
 clear hP3 hb3 HPA E2
 go_upto_region 6 with (first|(refine jat rfl rfl 6 rfl ?_;intro w4 h4 s4)|(refine jak rfl _ _ rfl w3.heap.size noOrd o3 rfl rfl h4.out.1 ?_;intro w5 h5 s5))
 have E5:Hid (RT w z B d (D1 D) vs va w5∧LOB w5 w3.heap.size o3∧z < w3.heap.size):=by
  have hb:Below w3.heap.size w3 w5:=h4.out.2.trans (h5.out.2.2 _ (Nat.le_refl _))
  exact⟨E3.out.later hb,h5.out.1,E3.out.rep.lt⟩
 clear h4 h5 s4 s5 E3
 generalize w3.heap.size=g6 at *
 obtain⟨kd,a,b,c⟩:=o3
 simp only at hk
 subst hk
 obtain⟨o0,o1,o2,o4⟩:=E5.out.2.1.cells
 simp only at o0 o1 o2 o4
 have HCP:=fun v q W h=>jb3 v q W h
 have h14:D.p.ships.length≤14:=by have:D.p.ships.length < 15:=HO.out.port.port.len;omega
 have h4:D.p.kept.length=4:=E5.out.1.rm.box.four
 have c16:=E5.out.1.rm.box.cells.2.2.1
 have ha:=E5.out.1.rm.asd
 have E6:Hid (RT w z B d (D1 D) vs va w5):=E5.out.1
 clear E5
 generalize hasd:D.asd=asd at *
 cases asd with
 | some q =>
  obtain⟨g,vq,hva,_⟩:RAsd w5 B va (some q):=by rw [← hasd];exact ha
  have OB:Hid (ObsIs (D1 D) ⟨10,a,b,c⟩ (D1 D) 0 7):=by
   unfold ObsIs
   rw [if_neg (by simp only;omega),if_pos rfl]
   exact⟨rfl,Or.inr ⟨by show D.asd≠none;rw [hasd];simp,rfl,rfl⟩⟩
  subst hva
  clear ha HCP
  go_wp2_with fail
  refine(HRP _ _).mono ?_
  rintro e wX ⟨rfl,hbX⟩
  have EX:Hid (RT w z B d (D1 D) vs (.pointer (some ⟨g,0,none⟩)) wX):=E6.out.later hbX
  clear hbX HRP
  go_wp2_with (refine jaq rfl _ _ rfl z 0 0 (7) 0 rfl rfl EX.out.rep ?_;intro wZ hZ sZ)
  refine bodyPost_ret (v:=.agg #[.int .i64 (7),.int .i64 (0)]) (ja5 Tryz.results18 _ _ z (7) (0) rfl hZ.out.1) rfl ?_
  have hE:=EX.out.end hZ.out
  exact⟨7,0,rfl,(D1 D),jb4 HN.out HP.out OB.out,hE.1,hE.2⟩
 | none =>
  have hva:va=.pointer none:=by
   have:RAsd w5 B va none:=by rw [← hasd];exact ha
   exact this
  have OB:Hid (ObsIs (D1 D) ⟨10,a,b,c⟩ { D1 D with asd:=some D.p } 0 0):=by
   unfold ObsIs
   rw [if_neg (by simp only;omega),if_pos rfl]
   exact⟨rfl,Or.inl ⟨hasd,rfl,rfl⟩⟩
  subst hva
  clear ha
  go_wp2_with (refine jex rfl _ rfl d D.p vs (.pointer none) (D.n+1) rfl E6.out.rm.box ?_)
  refine(HCP _ D.p _ (E6.out.rm.pv h14)).mono ?_
  rintro e w7 ⟨vn,rfl,hro,hb7⟩
  have on:=jam hro
  have E7:Hid (RT w z B d (D1 D) vs (.pointer none) w7∧SlK cShip w7 vn D.p.ships∧FarB B vn):=⟨E6.out.later hb7,je6 hro,jc0 hro E6.out.rm.hB⟩
  clear hro hb7 HCP E6 c16
  go_upto_region 22 with (first|(refine jah rfl rfl 8 rfl ?_;intro w8 h8 s8)|(refine jab rfl _ _ rfl w7.heap.size jaf D.p (.slice none 0 0) vn rfl rfl h8.out.1 h4 on ?_;intro w9 h9 s9))
  have E9:Hid (RT w z B d (D1 D) vs (.pointer none) w9∧RAsd w9 B (.pointer (some ⟨w7.heap.size,0,none⟩)) (some D.p)):=by
   have hb:Below w7.heap.size w7 w9:=h8.out.2.trans (h9.out.2.2 _ (Nat.le_refl _))
   exact⟨E7.out.1.later hb,w7.heap.size,vn,rfl,h9.out.1,jch E7.out.2.1 hb,E7.out.2.2,E7.out.1.rm.hB⟩
  clear h8 h9 s8 s9 E7
  generalize w7.heap.size=g8 at *
  have c16:=E9.out.1.rm.box.cells.2.2.1
  have f16:=E9.out.1.rm.box.frozen 16
  have EA:Hid (RT w z B d { D1 D with asd:=some D.p } vs (.pointer (some ⟨g8,0,none⟩)) (w9.setCell ⟨d,16,none⟩ (.pointer (some ⟨g8,0,none⟩)))):=E9.out.1.turn (E9.out.1.rm.aside E9.out.2) (Fr.set _ _ _) LOW.out
  clear E9
  go_wp2_with fail
  refine(HRP _ _).mono ?_
  rintro e wX ⟨rfl,hbX⟩
  have EX:Hid (RT w z B d { D1 D with asd:=some D.p } vs (.pointer (some ⟨g8,0,none⟩)) wX):=EA.out.later hbX
  clear hbX HRP
  go_wp2_with (refine jaq rfl _ _ rfl z 0 0 (0) 0 rfl rfl EX.out.rep ?_;intro wZ hZ sZ)
  refine bodyPost_ret (v:=.agg #[.int .i64 (0),.int .i64 (0)]) (ja5 Tryz.results18 _ _ z (0) (0) rfl hZ.out.1) rfl ?_
  have hE:=EX.out.end hZ.out
  exact⟨0,0,rfl,{ D1 D with asd:=some D.p },jb4 HN.out HP.out OB.out,hE.1,hE.2⟩
theorem ji0 (B d:Nat) (D:Dk) (s:List UInt8) (w:World) (hs:s.length≤9223372036854775807) (h:RS w B d D) (hn:D.n < 250) (o:Ord) (hP:jay s (some o)) (hk:o.kd=11) :
  Calls Tryz.prog 18 #[.pointer (some ⟨d,0,none⟩),txt s] w fun e w'=>jge B d D s w e w':=by
 obtain⟨vs,va,hM⟩:=h.dsk
 have hnn:=h.ok.n
 have HO:Hid (DOk (D1 D)):=D1_ok h.ok hn
 have HN:Hid (D.n < 250):=hn
 have HPA:=fun W hA=>jcl s hs W hA
 have HRP:=fun er W=>jcw er W
 have HP:Hid (jay s (some o)):=hP
 have LOW:Hid (2 < d):=h.low
 have hne:(D.n == 250)=false:=beq_eq_false_iff_ne.2 (by omega)
 have E0:Hid (RM w B d D vs va∧AS w):=⟨hM,h.asp⟩
 have hzB:=hM.hB
 clear h hM hP
 unfold txt at *
 go_enter Tryz.func18,Tryz.ntmps18
 go_upto_region 2 with (refine jbb rfl rfl 4 rfl ?_;intro w1 h1 s1)
 have E1:Hid (RT w w.heap.size B d D vs va w1):=⟨E0.out.1.later h1.out.2,E0.out.2.later h1.out.2,h1.out.1,Fr.of h1.out.2 (Nat.le_of_lt E0.out.1.lt),hzB,Nat.le_refl _⟩
 clear h1 s1 E0
 generalize hz:w.heap.size=z at *
 have c17:=E1.out.rm.box.cells.2.2.2
 have f17:=E1.out.rm.box.frozen 17
 have E2:Hid (RT w z B d (D1 D) vs va (w1.setCell ⟨d,17,none⟩ (.int .i64 (D.n+1)))):=E1.out.turn (E1.out.rm.acts _) (Fr.set _ _ _) LOW.out
 clear E1
 go_upto_region 5 with fail
 clear c17 f17
 generalize w1.setCell ⟨d,17,none⟩ (.int .i64 (D.n+1))=W2 at *
 go_wp2_with fail
 refine(HPA _ E2.out.asp).mono ?_
 rintro e w3 ⟨o3,er3,rfl,hP3,hb3⟩
 obtain⟨rfl,rfl⟩:=jdh hP3 HP.out
 have E3:Hid (RT w z B d (D1 D) vs va w3):=E2.out.later hb3
 clear hP3 hb3 HPA E2
 go_upto_region 6 with (first|(refine jat rfl rfl 6 rfl ?_;intro w4 h4 s4)|(refine jak rfl _ _ rfl w3.heap.size noOrd o3 rfl rfl h4.out.1 ?_;intro w5 h5 s5))
 have E5:Hid (RT w z B d (D1 D) vs va w5∧LOB w5 w3.heap.size o3∧z < w3.heap.size):=by
  have hb:Below w3.heap.size w3 w5:=h4.out.2.trans (h5.out.2.2 _ (Nat.le_refl _))
  exact⟨E3.out.later hb,h5.out.1,E3.out.rep.lt⟩
 clear h4 h5 s4 s5 E3
 generalize w3.heap.size=g6 at *
 obtain⟨kd,a,b,c⟩:=o3
 simp only at hk
 subst hk
 obtain⟨o0,o1,o2,o4⟩:=E5.out.2.1.cells
 simp only at o0 o1 o2 o4
 have c16:=E5.out.1.rm.box.cells.2.2.1
 have f16:=E5.out.1.rm.box.frozen 16
 have ha:=E5.out.1.rm.asd
 have E6:Hid (RT w z B d (D1 D) vs va w5):=E5.out.1
 clear E5
 generalize hasd:D.asd=asd at *
 cases asd with
 | none =>
  have hva:va=.pointer none:=by
   have:RAsd w5 B va none:=by rw [← hasd];exact ha
   exact this
  have OB:Hid (ObsIs (D1 D) ⟨11,a,b,c⟩ (D1 D) 0 7):=by
   unfold ObsIs
   rw [if_neg (by simp only;omega),if_neg (by simp only;omega),if_pos rfl]
   exact⟨rfl,Or.inr ⟨hasd,rfl,rfl⟩⟩
  subst hva
  clear ha
  go_wp2_with fail
  refine(HRP _ _).mono ?_
  rintro e wX ⟨rfl,hbX⟩
  have EX:Hid (RT w z B d (D1 D) vs (.pointer none) wX):=E6.out.later hbX
  clear hbX HRP
  go_wp2_with (refine jaq rfl _ _ rfl z 0 0 (7) 0 rfl rfl EX.out.rep ?_;intro wZ hZ sZ)
  refine bodyPost_ret (v:=.agg #[.int .i64 (7),.int .i64 (0)]) (ja5 Tryz.results18 _ _ z (7) (0) rfl hZ.out.1) rfl ?_
  have hE:=EX.out.end hZ.out
  exact⟨7,0,rfl,(D1 D),jb4 HN.out HP.out OB.out,hE.1,hE.2⟩
 | some q =>
  obtain⟨g,vq,hva,_⟩:RAsd w5 B va (some q):=by rw [← hasd];exact ha
  have OB:Hid (ObsIs (D1 D) ⟨11,a,b,c⟩ { D1 D with asd:=none } 0 0):=by
   unfold ObsIs
   rw [if_neg (by simp only;omega),if_neg (by simp only;omega),if_pos rfl]
   exact⟨rfl,Or.inl ⟨by show D.asd≠none;rw [hasd];simp,rfl,rfl⟩⟩
  subst hva
  clear ha
  have EA:Hid (RT w z B d { D1 D with asd:=none } vs (.pointer none) (w5.setCell ⟨d,16,none⟩ (.pointer none))):=E6.out.turn (E6.out.rm.aside (o:=none) rfl) (Fr.set _ _ _) LOW.out
  clear E6
  go_wp2_with fail
  refine(HRP _ _).mono ?_
  rintro e wX ⟨rfl,hbX⟩
  have EX:Hid (RT w z B d { D1 D with asd:=none } vs (.pointer none) wX):=EA.out.later hbX
  clear hbX HRP
  go_wp2_with (refine jaq rfl _ _ rfl z 0 0 (0) 0 rfl rfl EX.out.rep ?_;intro wZ hZ sZ)
  refine bodyPost_ret (v:=.agg #[.int .i64 (0),.int .i64 (0)]) (ja5 Tryz.results18 _ _ z (0) (0) rfl hZ.out.1) rfl ?_
  have hE:=EX.out.end hZ.out
  exact⟨0,0,rfl,{ D1 D with asd:=none },jb4 HN.out HP.out OB.out,hE.1,hE.2⟩
theorem jk3 (B d:Nat) (D:Dk) (s:List UInt8) (w:World) (hs:s.length≤9223372036854775807) (h:RS w B d D) (hn:D.n < 250) (o:Ord) (hP:jay s (some o)) (hk:o.kd=12) :
  Calls Tryz.prog 18 #[.pointer (some ⟨d,0,none⟩),txt s] w fun e w'=>jge B d D s w e w':=by
 obtain⟨vs,va,hM⟩:=h.dsk
 have hnn:=h.ok.n
 have HO:Hid (DOk (D1 D)):=D1_ok h.ok hn
 have HN:Hid (D.n < 250):=hn
 have HPA:=fun W hA=>jcl s hs W hA
 have HRP:=fun er W=>jcw er W
 have HP:Hid (jay s (some o)):=hP
 have LOW:Hid (2 < d):=h.low
 have hne:(D.n == 250)=false:=beq_eq_false_iff_ne.2 (by omega)
 have E0:Hid (RM w B d D vs va∧AS w):=⟨hM,h.asp⟩
 have hzB:=hM.hB
 clear h hM hP
 unfold txt at *
 go_enter Tryz.func18,Tryz.ntmps18
 go_upto_region 2 with (refine jbb rfl rfl 4 rfl ?_;intro w1 h1 s1)
 have E1:Hid (RT w w.heap.size B d D vs va w1):=⟨E0.out.1.later h1.out.2,E0.out.2.later h1.out.2,h1.out.1,Fr.of h1.out.2 (Nat.le_of_lt E0.out.1.lt),hzB,Nat.le_refl _⟩
 clear h1 s1 E0
 generalize hz:w.heap.size=z at *
 have c17:=E1.out.rm.box.cells.2.2.2
 have f17:=E1.out.rm.box.frozen 17
 have E2:Hid (RT w z B d (D1 D) vs va (w1.setCell ⟨d,17,none⟩ (.int .i64 (D.n+1)))):=E1.out.turn (E1.out.rm.acts _) (Fr.set _ _ _) LOW.out
 clear E1
 go_upto_region 5 with fail
 clear c17 f17
 generalize w1.setCell ⟨d,17,none⟩ (.int .i64 (D.n+1))=W2 at *
 go_wp2_with fail
 refine(HPA _ E2.out.asp).mono ?_
 rintro e w3 ⟨o3,er3,rfl,hP3,hb3⟩
 obtain⟨rfl,rfl⟩:=jdh hP3 HP.out
 have E3:Hid (RT w z B d (D1 D) vs va w3):=E2.out.later hb3
 clear hP3 hb3 HPA E2
 go_upto_region 6 with (first|(refine jat rfl rfl 6 rfl ?_;intro w4 h4 s4)|(refine jak rfl _ _ rfl w3.heap.size noOrd o3 rfl rfl h4.out.1 ?_;intro w5 h5 s5))
 have E5:Hid (RT w z B d (D1 D) vs va w5∧LOB w5 w3.heap.size o3∧z < w3.heap.size):=by
  have hb:Below w3.heap.size w3 w5:=h4.out.2.trans (h5.out.2.2 _ (Nat.le_refl _))
  exact⟨E3.out.later hb,h5.out.1,E3.out.rep.lt⟩
 clear h4 h5 s4 s5 E3
 generalize w3.heap.size=g6 at *
 obtain⟨kd,a,b,c⟩:=o3
 simp only at hk
 subst hk
 obtain⟨o0,o1,o2,o4⟩:=E5.out.2.1.cells
 simp only at o0 o1 o2 o4
 have c16:=E5.out.1.rm.box.cells.2.2.1
 have f16:=E5.out.1.rm.box.frozen 16
 have ha:=E5.out.1.rm.asd
 have E6:Hid (RT w z B d (D1 D) vs va w5):=E5.out.1
 clear E5
 generalize hasd:D.asd=asd at *
 cases asd with
 | none =>
  have hva:va=.pointer none:=by
   have:RAsd w5 B va none:=by rw [← hasd];exact ha
   exact this
  have OB:Hid (ObsIs (D1 D) ⟨12,a,b,c⟩ (D1 D) 0 7):=by
   unfold ObsIs
   rw [if_neg (by simp only;omega),if_neg (by simp only;omega),if_neg (by simp only;omega),if_pos rfl]
   exact⟨rfl,Or.inr ⟨hasd,rfl,rfl⟩⟩
  subst hva
  clear ha
  go_wp2_with fail
  refine(HRP _ _).mono ?_
  rintro e wX ⟨rfl,hbX⟩
  have EX:Hid (RT w z B d (D1 D) vs (.pointer none) wX):=E6.out.later hbX
  clear hbX HRP
  go_wp2_with (refine jaq rfl _ _ rfl z 0 0 (7) 0 rfl rfl EX.out.rep ?_;intro wZ hZ sZ)
  refine bodyPost_ret (v:=.agg #[.int .i64 (7),.int .i64 (0)]) (ja5 Tryz.results18 _ _ z (7) (0) rfl hZ.out.1) rfl ?_
  have hE:=EX.out.end hZ.out
  exact⟨7,0,rfl,(D1 D),jb4 HN.out HP.out OB.out,hE.1,hE.2⟩
 | some q =>
  obtain⟨g,vq,hva,hPB,hsq,hfq,hBg⟩:RAsd w5 B va (some q):=by rw [← hasd];exact ha
  have OB:Hid (ObsIs (D1 D) ⟨12,a,b,c⟩ { D1 D with p:=q,asd:=none } 0 0):=by
   unfold ObsIs
   rw [if_neg (by simp only;omega),if_neg (by simp only;omega),if_neg (by simp only;omega),if_pos rfl]
   exact⟨rfl,Or.inl ⟨q,hasd,rfl,rfl⟩⟩
  subst hva
  have Q6:Hid (PBox w5 g q vq∧SlK cShip w5 vq q.ships∧FarB B vq):=⟨hPB,hsq,hfq⟩
  have h4:=hPB.1
  have on:=jf6 hsq
  clear ha hPB hsq hfq hBg
  go_upto_region 30 with (first|(refine jac rfl _ rfl g q vq rfl Q6.out.1 ?_)|(refine jc5 rfl _ _ rfl d D.p q vs vq (.pointer (some ⟨g,0,none⟩)) (D.n+1) rfl rfl E6.out.rm.box h4 on ?_;intro w8 h8))
  have E8:Hid (RT w z B d { D1 D with p:=q } vq (.pointer (some ⟨g,0,none⟩)) w8):=E6.out.turn (E6.out.rm.port h8.out.1 h8.out.2 Q6.out.2.1 Q6.out.2.2) h8.out.2 LOW.out
  clear E6 h8 c16 f16 Q6
  have c16:=E8.out.rm.box.cells.2.2.1
  have f16:=E8.out.rm.box.frozen 16
  have EA:Hid (RT w z B d { D1 D with p:=q,asd:=none } vq (.pointer none) (w8.setCell ⟨d,16,none⟩ (.pointer none))):=E8.out.turn (E8.out.rm.aside (o:=none) rfl) (Fr.set _ _ _) LOW.out
  clear E8
  go_wp2_with fail
  refine(HRP _ _).mono ?_
  rintro e wX ⟨rfl,hbX⟩
  have EX:Hid (RT w z B d { D1 D with p:=q,asd:=none } vq (.pointer none) wX):=EA.out.later hbX
  clear hbX HRP
  go_wp2_with (refine jaq rfl _ _ rfl z 0 0 (0) 0 rfl rfl EX.out.rep ?_;intro wZ hZ sZ)
  refine bodyPost_ret (v:=.agg #[.int .i64 (0),.int .i64 (0)]) (ja5 Tryz.results18 _ _ z (0) (0) rfl hZ.out.1) rfl ?_
  have hE:=EX.out.end hZ.out
  exact⟨0,0,rfl,{ D1 D with p:=q,asd:=none },jb4 HN.out HP.out OB.out,hE.1,hE.2⟩
end Go.Proofs.YtcmdoeledmkfmacGreatDoor
