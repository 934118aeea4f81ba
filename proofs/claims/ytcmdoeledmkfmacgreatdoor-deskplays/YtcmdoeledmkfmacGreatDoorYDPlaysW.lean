/- Texts of this claim, in one: DPlaysW. -/
import Derived.Test.YtcmdoeledmkfmacGreatDoorYS0
import Derived.BigQuiet
import Derived.Test.YtcmdoeledmkfmacGreatDoorYRDNew
import Derived.Test.YtcmdoeledmkfmacGreatDoorYRefSameW
import Derived.Test.YtcmdoeledmkfmacGreatDoorSA
set_option linter.unusedSimpArgs false
set_option linter.unusedVariables false
set_option maxHeartbeats 40000000
set_option maxRecDepth 100000
namespace Go.Proofs.YtcmdoeledmkfmacGreatDoor
open Go.RowKit
structure DP (w:World) (z B d r:Nat) (D:Dk) (W:World):Prop where
 ds:DS W d D
 rs:RS W B r D
 below:Below z w W
 zd:z≤d
 zr:z≤r
 dB:d < B
 low:2 < d
 use:∀ u∈usedG,u < r
section
variable {w W W':World} {z B d r:Nat} {D:Dk}
theorem DP.later (h:DP w z B d r D W) (hb:Below W.heap.size W W'):DP w z B d r D W':=⟨h.ds.later hb,h.rs.later hb,h.below.trans (hb.mono (by have:=h.zd;have:=h.ds.lt;omega)),h.zd,h.zr,h.dB,h.low,h.use⟩
theorem DP.ne (h:DP w z B d r D W):r≠d:=by
 obtain⟨_,_,_,_,hM⟩:=h.ds.dsk
 obtain⟨_,_,hR⟩:=h.rs.dsk
 exact jeh hR.box.box hM.box.box (by decide)
end
theorem jlj (v:Value) (l:List (List UInt8)) (w:World) (hL:LW w∧AS w) (hs:SlK cStr w v l) (hln:∀ y∈l,y.length≤9223372036854775807) (hll:l.length≤8796093022208) :
  Calls Tryz.prog 6 #[v] w fun e w'=>e=.returned (.bool true)∧Below w.heap.size w w':=by
 have SL:Hid (∀ W,Below w.heap.size w W→SlK cStr W v l):=fun W h=>jch hs h
 have LN:Hid (∀ y∈l,y.length≤9223372036854775807):=hln
 have HU:Hid (∀ u∈usedG,u < w.heap.size):=fun u hu=>hL.1.lt u hu
 have HA:Hid (AS w):=hL.2
 have HN:=juk w hL.1
 have HTD:=fun d D s W h hs=>jrh d D s W h hs
 have HTR:=fun B r D s W h1 h2=>jpd B r D s W h1 h2
 have HPO:=fun d D W h1 h2=>jnk d D W h1 h2
 have HPL:=fun d D W h1 h2=>jnl d D W h1 h2
 have HSP:=fun v1 v2 p q W h1 h2=>jn8 v1 v2 p q W h1 h2
 have HRP:=fun v p W h1 h2=>jfd v p W h1 h2
 have HSI:=fun v1 v2 l m W h1 h2 h3 h4=>jrn v1 v2 l m W h1 h2 h3 h4
 obtain⟨a,cap,hv⟩:∃ a cap,v=.slice a l.length cap:=by obtain⟨a,cap,h,_⟩:=hs;exact⟨a,cap,h⟩
 subst hv
 clear hL hs hln
 generalize hz:w.heap.size=z at *
 go_enter Tryz.func6,Tryz.ntmps6
 go_wp2_with fail
 refine HN.mono ?_
 rintro e w1 ⟨d,rfl,h1⟩
 have hbx:(jcj jaf (.slice none 0 0) (.pointer none) 0).toArray=#[.int .i64 0,.slice none 0 0,.int .i64 0,.int .i64 0,.int .i64 0,.int .i64 0,.int .i64 0,.int .i64 0,.int .i64 0,.int .i64 0,.int .i64 0,.int .i64 0,.int .i64 0,.int .i64 0,.int .i64 0,.int .i64 0,.pointer none,.int .i64 0]:=rfl
 have E2:Hid (DP w z (w1.heap.size+1) d w1.heap.size newDk (w1.alloc (.cells (jcj jaf (.slice none 0 0) (.pointer none) 0).toArray 54))):=by
  have hb:Below w1.heap.size w1 (w1.alloc (.cells (jcj jaf (.slice none 0 0) (.pointer none) 0).toArray 54)):=(Below.refl _ w1).alloc (Nat.le_refl _) _
  have hA1:AS w1:=HA.out.later (by rw [hz];exact h1.out.2.2)
  have hl:=h1.out.2.1.lt
  have hsz:z≤w1.heap.size:=by have:=h1.out.2.2.size;omega
  have hal:2 < z:=by rw [← hz];exact HA.out.lt
  exact⟨h1.out.2.1.later hb,rnew w1 hA1,h1.out.2.2.trans (hb.mono hsz),h1.out.1,hsz,by omega,by have:=h1.out.1;omega,fun u hu=>by have:=HU.out u hu;omega⟩
 rw [hbx] at E2
 clear h1 HN HA hbx
 go_upto_region 2 with fail
 generalize hW2:w1.alloc (.cells #[.int .i64 0,.slice none 0 0,.int .i64 0,.int .i64 0,.int .i64 0,.int .i64 0,.int .i64 0,.int .i64 0,.int .i64 0,.int .i64 0,.int .i64 0,.int .i64 0,.int .i64 0,.int .i64 0,.int .i64 0,.int .i64 0,.pointer none,.int .i64 0] 54)=W2 at *
 clear hW2
 generalize w1.heap.size+1=B at *
 generalize w1.heap.size=r at *
 unfold txt at *
 go_wp2_with fail
 go_loopg [5] l.length (fun kx s5 wr=>∃ k:Nat,s5=.int .i64 k∧k≤l.length∧l.length - k≤kx∧Hid (∃ D,DP w z B d r D wr))
 case atStart=>exact⟨0,rfl,Nat.zero_le _,by omega,newDk,E2.out⟩
 case round =>
  clear E2
  obtain⟨k,rfl,hk,hg,I0⟩:=hrel
  obtain⟨D,hI⟩:=I0.out
  have I:Hid (DP w z B d r D wr):=hI
  clear I0 hI
  by_cases hgo:k < l.length∧k < 80
  ·have hkl:=hgo.1
   have hki:(k:Int) < (l.length:Int):=by omega
   have hk80:(k:Int) < 80:=by omega
   have hkn:¬ ((l.length:Int)≤(k:Int)):=by omega
   obtain⟨s,hs⟩:∃ s,l[k]?=some s:=⟨l[k]'hkl,List.getElem?_eq_getElem hkl⟩
   have hsm:=LN.out s (List.mem_of_getElem? hs)
   obtain⟨b2,o2,rfl⟩:∃ b off,a=some ⟨b,off,none⟩:=by
    obtain⟨a',c',e,_,hr⟩:=SL.out wr I.out.below
    injection e with e1
    rcases hr with hr|⟨b,off,hr,h⟩
    ·rw [hr] at hs;simp at hs
    ·exact⟨b,off,by rw [e1,hr]⟩
   have ROW:Hid (∀ W,Below z w W→W.cell? ⟨b2,o2+k,none⟩=some (.string ⟨s.toArray⟩)):=fun W hW=>by
    obtain⟨a',c',e,_,hr⟩:=SL.out W hW
    injection e with e1
    rcases hr with hr|⟨b,off,hr,h⟩
    ·rw [hr] at hs;simp at hs
    ·rw [hr] at e1
     injection e1 with e1
     injection e1 with e1 e2
     subst e1 e2
     exact h.str hs
   have E3:Hid (DP w z B d r D wr.drew):=I.out.later (Below.refl _ _).drew
   clear I hs hgo
   go_upto_region 7 with fail
   refine wp_region_held_drew (S:=fun W=>Hid (Below z w W)) (by kernel_rfl) E3.out.below (fun hHeld=>?_)
   refine jjT 0 ⟨some 21,.move (.tmp 3),31,"law.go:150",#[],none⟩ (?_) rfl (by kernel_rfl) (fun _ _ _ h=>h) (Or.inl ⟨by rfl,?_⟩) hHeld ?_
   rotate_left
   ·(intro w hSw;first|(go_simp;done)|(go_simp;with_reducible rfl))
   simp only [Act.put,jjA,jjB,jjC]
   refine jjT 1 ⟨some 22,.move (.tmp 0),22,"law.go:150",#[],none⟩ (?_) rfl (by kernel_rfl) (fun _ _ _ h=>h) (Or.inl ⟨by rfl,?_⟩) hHeld ?_
   rotate_left
   ·(intro w hSw;first|(go_simp;done)|(go_simp;with_reducible rfl))
   simp only [Act.put,jjA,jjB,jjC]
   refine jjT 2 ⟨some 23,.move (.tmp 5),3,"law.go:150",#[],none⟩ (?_) rfl (by kernel_rfl) (fun _ _ _ h=>h) (Or.inl ⟨by rfl,?_⟩) hHeld ?_
   rotate_left
   ·(intro w hSw;first|(go_simp;done)|(go_simp;with_reducible rfl))
   simp only [Act.put,jjA,jjB,jjC]
   refine jjT 3 ⟨some 24,.indexAddr 22 (.tmp 22) (.tmp 23),0,"law.go:150",#[⟨1,.data⟩,⟨2,.data⟩],none⟩ (.pointer (some ⟨b2,o2+k,none⟩)) rfl (by kernel_rfl) (fun _ _ _ h=>h) (Or.inl ⟨by rfl,by intro w hSw;go_simp⟩) hHeld ?_
   simp only [Act.put,jjA,jjB,jjC]
   refine jjT 4 ⟨some 25,.load 9 (.tmp 24),9,"law.go:150",#[⟨3,.data⟩],none⟩ (.string ⟨s.toArray⟩) rfl (by kernel_rfl) (fun _ _ _ h=>h) (Or.inl ⟨by rfl,by intro w hSw;have q:=ROW.out w hSw.out;go_simp⟩) hHeld ?_
   simp only [Act.put,jjA,jjB,jjC]
   refine jjT 6 ⟨some 27,.move (.tmp 4),51,"law.go:150",#[],none⟩ (?_) rfl (by kernel_rfl) (fun _ _ _ h=>h) (Or.inl ⟨by rfl,?_⟩) hHeld ?_
   rotate_left
   ·(intro w hSw;first|(go_simp;done)|(go_simp;with_reducible rfl))
   simp only [Act.put,jjA,jjB,jjC]
   refine jjT 7 ⟨some 28,.move (.tmp 0),22,"law.go:150",#[],none⟩ (?_) rfl (by kernel_rfl) (fun _ _ _ h=>h) (Or.inl ⟨by rfl,?_⟩) hHeld ?_
   rotate_left
   ·(intro w hSw;first|(go_simp;done)|(go_simp;with_reducible rfl))
   simp only [Act.put,jjA,jjB,jjC]
   refine jjT 8 ⟨some 29,.move (.tmp 5),3,"law.go:150",#[],none⟩ (?_) rfl (by kernel_rfl) (fun _ _ _ h=>h) (Or.inl ⟨by rfl,?_⟩) hHeld ?_
   rotate_left
   ·(intro w hSw;first|(go_simp;done)|(go_simp;with_reducible rfl))
   simp only [Act.put,jjA,jjB,jjC]
   refine jjT 9 ⟨some 30,.indexAddr 22 (.tmp 28) (.tmp 29),0,"law.go:150",#[⟨7,.data⟩,⟨8,.data⟩],none⟩ (.pointer (some ⟨b2,o2+k,none⟩)) rfl (by kernel_rfl) (fun _ _ _ h=>h) (Or.inl ⟨by rfl,by intro w hSw;go_simp⟩) hHeld ?_
   simp only [Act.put,jjA,jjB,jjC]
   refine jjT 10 ⟨some 31,.load 9 (.tmp 30),9,"law.go:150",#[⟨9,.data⟩],none⟩ (.string ⟨s.toArray⟩) rfl (by kernel_rfl) (fun _ _ _ h=>h) (Or.inl ⟨by rfl,by intro w hSw;have q:=ROW.out w hSw.out;go_simp⟩) hHeld ?_
   simp only [Act.put,jjA,jjB,jjC]
   refine jjR 5 (by kernel_rfl) rfl fun K hK=>?_
   go_simp
   refine(HTD d D s _ E3.out.ds hsm).mono ?_
   rintro e w4 ⟨er,n,rfl,h4⟩
   obtain⟨D1',j1,j2,j3⟩:=h4.out
   have E4:Hid (DS w4 d D1'∧RS w4 B r D∧jdv D s D1' er n∧Below z w w4):=⟨j2,E3.out.rs.fr j3 E3.out.dB E3.out.ne E3.out.low,j1,E3.out.below.trans (j3.below.mono E3.out.zd)⟩
   have E3':Hid (z≤d∧z≤r∧d < B∧2 < d∧(∀ u∈usedG,u < r)∧DOk D):=⟨E3.out.zd,E3.out.zr,E3.out.dB,E3.out.low,E3.out.use,E3.out.ds.ok⟩
   clear h4 j1 j2 j3 E3 hHeld
   go_wp2_with fail
   refine hK.out _ _ E4.out.2.2.2 (fun hHeld=>?_)
   clear hK K
   refine jjR 11 (by kernel_rfl) rfl fun K hK=>?_
   go_simp
   refine(HTR B r D s _ hsm E4.out.2.1).mono ?_
   rintro e w5 ⟨er2,n2,rfl,h5⟩
   obtain⟨D2',j1,j2,j3⟩:=h5.out
   obtain⟨hDD,hee,hnn⟩:=jff E3'.out.2.2.2.2.2 E4.out.2.2.1 j1
   subst hDD hee hnn
   have E5:Hid (DP w z B d r D1' w5):=⟨E4.out.1.fromRef E4.out.2.1 j3 E3'.out.2.2.2.2.1,j2,E4.out.2.2.2.trans (j3.below.mono E3'.out.2.1),E3'.out.1,E3'.out.2.1,E3'.out.2.2.1,E3'.out.2.2.2.1,E3'.out.2.2.2.2.1⟩
   have hq:=jrz er n
   clear h5 j1 j2 j3 E4 E3' hHeld
   go_wp2_with fail
   refine hK.out _ _ E5.out.below (fun hHeld=>?_)
   clear hK K
   refine jjT 12 ⟨some 33,.binOp .neq 29 (.tmp 26) (.tmp 32) 29,4,"law.go:150",#[⟨5,.data⟩,⟨11,.data⟩],none⟩ (.bool false) rfl (by kernel_rfl) (fun _ _ _ h=>h) (Or.inl ⟨by rfl,by intro w hSw;have q:=hq w;go_simp⟩) hHeld ?_
   simp only [Act.put,jjA,jjB,jjC]
   refine jjT 13 ⟨some 34,.move (.tmp 33),4,"law.go:150",#[⟨12,.data⟩,⟨11,.chain⟩],none⟩ (?_) rfl (by kernel_rfl) (fun _ _ _ h=>h) (Or.inl ⟨by rfl,?_⟩) hHeld ?_
   rotate_left
   ·(intro w hSw;first|(go_simp;done)|(go_simp;with_reducible rfl))
   simp only [Act.put,jjA,jjB,jjC]
   refine jjT 14 ⟨some 35,.move (.tmp 3),31,"law.go:150",#[⟨13,.guard⟩],some (13,false)⟩ (?_) rfl (by kernel_rfl) (fun _ _ _ h=>h) (Or.inl ⟨by rfl,?_⟩) hHeld ?_
   rotate_left
   ·(intro w hSw;first|(go_simp;done)|(go_simp;with_reducible rfl))
   simp only [Act.put,jjA,jjB,jjC]
   refine jjT 16 ⟨some 37,.move (.tmp 4),51,"law.go:150",#[⟨13,.guard⟩],some (13,false)⟩ (?_) rfl (by kernel_rfl) (fun _ _ _ h=>h) (Or.inl ⟨by rfl,?_⟩) hHeld ?_
   rotate_left
   ·(intro w hSw;first|(go_simp;done)|(go_simp;with_reducible rfl))
   simp only [Act.put,jjA,jjB,jjC]
   refine jjT 17 ⟨some 38,.nilCheck (.tmp 37),0,"law.go:150",#[⟨16,.data⟩,⟨13,.guard⟩],some (13,false)⟩ (?_) rfl (by kernel_rfl) (fun _ _ _ h=>h) (Or.inl ⟨by rfl,?_⟩) hHeld ?_
   rotate_left
   ·(intro w hSw;first|(go_simp;done)|(go_simp;with_reducible rfl))
   simp only [Act.put,jjA,jjB,jjC]
   refine jjT 18 ⟨some 39,.fieldAddr 54 (.tmp 38) 0,0,"law.go:150",#[⟨17,.data⟩,⟨13,.guard⟩],some (13,false)⟩ (?_) rfl (by kernel_rfl) (fun _ _ _ h=>h) (Or.inl ⟨by rfl,?_⟩) hHeld ?_
   rotate_left
   ·(intro w hSw;first|(go_simp;done)|(go_simp;with_reducible rfl))
   simp only [Act.put,jjA,jjB,jjC]
   have h14:D1'.p.ships.length≤14:=by have:D1'.p.ships.length < 15:=E5.out.ds.ok.port.port.len;omega
   have h4:D1'.p.kept.length=4:=E5.out.ds.ok.port.port.four
   obtain⟨rvs,rva,hRM⟩:=E5.out.rs.dsk
   have RM5:Hid (∀ W,Below w5.heap.size w5 W→RM W B r D1' rvs rva):=fun W hW=>hRM.later hW
   clear hRM hq
   have END:Hid (∀ W,DP w z B d r D1' W→∃ D,DP w z B d r D W):=fun W h=>⟨D1',h⟩
   generalize hPC:(jaa D1'.p rvs).toArray=PC at *
   have HPC:Hid ((jaa D1'.p rvs).toArray=PC):=hPC
   clear hPC
   refine wpAnyH_ready (rs:=[15,19]) (by kernel_rfl) (by simp) ?_
   refine AllReadyH.cons rfl (fun K hK=>?_) (AllReadyH.cons rfl (fun K hK=>?_) AllReadyH.nil)
   ·skip
    go_simp
    refine(HPO d D1' _ E5.out.ds.dsk E5.out.ds.ok).mono ?_
    rintro e w6 ⟨pv,rfl,h6⟩
    have E6:Hid (DP w z B d r D1' w6∧RM w6 B r D1' rvs rva∧SlK cShip w6 pv D1'.p.ships):=⟨E5.out.later h6.out.2,RM5.out _ h6.out.2,je6 h6.out.1⟩
    clear h6 E5 RM5
    generalize hQC:(jaa D1'.p pv).toArray=QC at *
    have HQC:Hid ((jaa D1'.p pv).toArray=QC):=hQC
    clear hQC
    go_wp2_with fail
    refine hK.out _ _ E6.out.1.below (fun hHeld=>?_)
    clear hK K
    refine jjR 19 (by kernel_rfl) rfl fun K hK=>?_
    rw [if_pos (by rfl)]
    refine wp_load_mid 41 (.tmp 39) rfl r 0 rfl (jaa D1'.p rvs) _ E6.out.2.1.box.port Tryz.underlying41 rfl (jbg D1'.p rvs h4) ?_
    rw [HPC.out]
    refine hK.out _ _ E6.out.1.below (fun hHeld=>?_)
    clear hK K
    simp only [Act.put,jjA,jjB,jjC]
    refine jjR 20 (by kernel_rfl) rfl fun K hK=>?_
    go_simp
    refine(HSP _ _ D1'.p D1'.p _ (by rw [← HQC.out];exact⟨pv,rfl,E6.out.2.2,h4,by omega⟩) (by have:=E6.out.2.1.pv h14;rw [← HPC.out];exact this)).mono ?_
    rintro e w7 ⟨⟨bb,rfl,hbb⟩,hb7⟩
    obtain rfl:bb=true:=hbb.2 rfl
    have E7:Hid (DP w z B d r D1' w7):=E6.out.1.later hb7
    clear hbb hb7 E6 hHeld
    go_wp2_with fail
    refine hK.out _ _ E7.out.below (fun hHeld=>?_)
    clear hK K
    refine jjT 21 ⟨some 42,.unOp .not 4 (.tmp 41),4,"law.go:150",#[⟨20,.data⟩,⟨13,.guard⟩],some (13,false)⟩ (?_) rfl (by kernel_rfl) (fun _ _ _ h=>h) (Or.inl ⟨by rfl,?_⟩) hHeld ?_
    rotate_left
    ·(intro w hSw;first|(go_simp;done)|(go_simp;with_reducible rfl))
    simp only [Act.put,jjA,jjB,jjC]
    refine jjT 22 ⟨some 43,.pick (.tmp 34) (.const (.bool true)) (.tmp 42),4,"law.go:150",#[⟨13,.data⟩,⟨21,.data⟩],none⟩ (?_) rfl (by kernel_rfl) (fun _ _ _ h=>h) (Or.inl ⟨by rfl,?_⟩) hHeld ?_
    rotate_left
    ·(intro w hSw;first|(go_simp;done)|(go_simp;with_reducible rfl))
    simp only [Act.put,jjA,jjB,jjC]
    refine wpAnyH_done (by kernel_rfl) ?_ _
    clear hHeld
    go_wp2_with fail
    go_roundg (l.length - (k+1))
    case measure=>omega
    case rel=>exact⟨k+1,by go_num,by omega,Nat.le_refl _,END.out _ E7.out⟩
   ·skip
    rw [if_pos (by rfl)]
    refine wp_load_mid 41 (.tmp 39) rfl r 0 rfl (jaa D1'.p rvs) _ (RM5.out _ (Below.refl _ _)).box.port Tryz.underlying41 rfl (jbg D1'.p rvs h4) ?_
    rw [HPC.out]
    refine hK.out _ _ E5.out.below (fun hHeld=>?_)
    clear hK K
    simp only [Act.put,jjA,jjB,jjC]
    refine jjR 15 (by kernel_rfl) rfl fun K hK=>?_
    go_simp
    refine(HPO d D1' _ E5.out.ds.dsk E5.out.ds.ok).mono ?_
    rintro e w6 ⟨pv,rfl,h6⟩
    have E6:Hid (DP w z B d r D1' w6∧RM w6 B r D1' rvs rva∧SlK cShip w6 pv D1'.p.ships):=⟨E5.out.later h6.out.2,RM5.out _ h6.out.2,je6 h6.out.1⟩
    clear h6 E5 RM5
    generalize hQC:(jaa D1'.p pv).toArray=QC at *
    have HQC:Hid ((jaa D1'.p pv).toArray=QC):=hQC
    clear hQC
    go_wp2_with fail
    refine hK.out _ _ E6.out.1.below (fun hHeld=>?_)
    clear hK K
    refine jjR 20 (by kernel_rfl) rfl fun K hK=>?_
    go_simp
    refine(HSP _ _ D1'.p D1'.p _ (by rw [← HQC.out];exact⟨pv,rfl,E6.out.2.2,h4,by omega⟩) (by have:=E6.out.2.1.pv h14;rw [← HPC.out];exact this)).mono ?_
    rintro e w7 ⟨⟨bb,rfl,hbb⟩,hb7⟩
    obtain rfl:bb=true:=hbb.2 rfl
    have E7:Hid (DP w z B d r D1' w7):=E6.out.1.later hb7
    clear hbb hb7 E6 hHeld
    go_wp2_with fail
    refine hK.out _ _ E7.out.below (fun hHeld=>?_)
    clear hK K
    refine jjT 21 ⟨some 42,.unOp .not 4 (.tmp 41),4,"law.go:150",#[⟨20,.data⟩,⟨13,.guard⟩],some (13,false)⟩ (?_) rfl (by kernel_rfl) (fun _ _ _ h=>h) (Or.inl ⟨by rfl,?_⟩) hHeld ?_
    rotate_left
    ·(intro w hSw;first|(go_simp;done)|(go_simp;with_reducible rfl))
    simp only [Act.put,jjA,jjB,jjC]
    refine jjT 22 ⟨some 43,.pick (.tmp 34) (.const (.bool true)) (.tmp 42),4,"law.go:150",#[⟨13,.data⟩,⟨21,.data⟩],none⟩ (?_) rfl (by kernel_rfl) (fun _ _ _ h=>h) (Or.inl ⟨by rfl,?_⟩) hHeld ?_
    rotate_left
    ·(intro w hSw;first|(go_simp;done)|(go_simp;with_reducible rfl))
    simp only [Act.put,jjA,jjB,jjC]
    refine wpAnyH_done (by kernel_rfl) ?_ _
    clear hHeld
    go_wp2_with fail
    go_roundg (l.length - (k+1))
    case measure=>omega
    case rel=>exact⟨k+1,by go_num,by omega,Nat.le_refl _,END.out _ E7.out⟩
  ·by_cases hkl:k < l.length
   ·have hki:(k:Int) < (l.length:Int):=by omega
    have hk80:¬ ((k:Int) < 80):=by omega
    clear hgo
    have h14:D.p.ships.length≤14:=by have:D.p.ships.length < 15:=I.out.ds.ok.port.port.len;omega
    have h4:D.p.kept.length=4:=I.out.ds.ok.port.port.four
    obtain⟨rvs,rva,hRM⟩:=I.out.rs.dsk
    have E3:Hid (DP w z B d r D wr.drew∧RM wr.drew B r D rvs rva):=⟨I.out.later (Below.refl _ _).drew,hRM.later (Below.refl _ _).drew⟩
    have HPT:Hid (jaj D.p):=I.out.ds.ok.port
    clear hRM I
    generalize hPC:(jaa D.p rvs).toArray=PC at *
    have HPC:Hid ((jaa D.p rvs).toArray=PC):=hPC
    clear hPC
    go_upto_region 9 with fail
    refine wp_region_held_drew (S:=fun W=>Hid (DP w z B d r D W∧RM W B r D rvs rva)) (by kernel_rfl) E3 (fun hHeld=>?_)
    refine jjT 0 ⟨some 44,.move (.tmp 3),31,"law.go:154",#[],none⟩ (?_) rfl (by kernel_rfl) (fun _ _ _ h=>h) (Or.inl ⟨by rfl,?_⟩) hHeld ?_
    rotate_left
    ·(intro w hSw;first|(go_simp;done)|(go_simp;with_reducible rfl))
    simp only [Act.put,jjA,jjB,jjC]
    refine jjT 2 ⟨some 46,.move (.tmp 4),51,"law.go:154",#[],none⟩ (?_) rfl (by kernel_rfl) (fun _ _ _ h=>h) (Or.inl ⟨by rfl,?_⟩) hHeld ?_
    rotate_left
    ·(intro w hSw;first|(go_simp;done)|(go_simp;with_reducible rfl))
    simp only [Act.put,jjA,jjB,jjC]
    refine jjT 3 ⟨some 47,.nilCheck (.tmp 46),0,"law.go:154",#[⟨2,.data⟩],none⟩ (?_) rfl (by kernel_rfl) (fun _ _ _ h=>h) (Or.inl ⟨by rfl,?_⟩) hHeld ?_
    rotate_left
    ·(intro w hSw;first|(go_simp;done)|(go_simp;with_reducible rfl))
    simp only [Act.put,jjA,jjB,jjC]
    refine jjT 4 ⟨some 48,.fieldAddr 54 (.tmp 47) 0,0,"law.go:154",#[⟨3,.data⟩],none⟩ (?_) rfl (by kernel_rfl) (fun _ _ _ h=>h) (Or.inl ⟨by rfl,?_⟩) hHeld ?_
    rotate_left
    ·(intro w hSw;first|(go_simp;done)|(go_simp;with_reducible rfl))
    simp only [Act.put,jjA,jjB,jjC]
    refine jjT 5 ⟨some 49,.load 41 (.tmp 48),41,"law.go:154",#[⟨4,.data⟩],none⟩ (.agg PC) rfl (by kernel_rfl) (fun _ _ _ h=>h) (by rw [← HPC.out];exact yieldsIf_load_mid (by rfl) 41 (.tmp 48) rfl r 0 rfl (jaa D.p rvs) _ (fun W hW=>hW.out.2.box.port) Tryz.underlying41 rfl (jbg D.p rvs h4)) hHeld ?_
    simp only [Act.put,jjA,jjB,jjC]
    refine jjR 1 (by kernel_rfl) rfl fun K hK=>?_
    go_simp
    refine(HPL d D _ hHeld.out.1.ds.dsk hHeld.out.1.ds.ok).mono ?_
    rintro e w4 ⟨v1,rfl,h5⟩
    obtain⟨pl,hpl,hro,hb5⟩:=h5.out
    have PL1:Hid (jbd D.p pl∧SlK cInt w4 v1 pl∧pl.length≤14):=⟨hpl,je6 hro,by rw [hpl.len];exact h14⟩
    have E4:Hid (DP w z B d r D w4∧RM w4 B r D rvs rva):=⟨hHeld.out.1.later hb5,hHeld.out.2.later hb5⟩
    clear h5 hpl hro hb5 hHeld E3 HPL
    go_wp2_with fail
    refine hK.out _ _ E4 (fun hHeld=>?_)
    clear hK K
    refine jjR 6 (by kernel_rfl) rfl fun K hK=>?_
    go_simp
    refine(HRP _ D.p _ (by have:=hHeld.out.2.pv h14;rw [← HPC.out];exact this) HPT.out).mono ?_
    rintro e w5 ⟨⟨v2,rfl,h6⟩,hb6⟩
    obtain⟨pl2,hpl2,hs2⟩:=h6.out
    obtain rfl:pl=pl2:=PL1.out.1.unique HPT.out.port.now.1 hpl2
    have PL2:Hid (SlK cInt w5 v1 pl∧SlK cInt w5 v2 pl∧pl.length≤14):=⟨jch PL1.out.2.1 hb6,hs2,PL1.out.2.2⟩
    have E5:Hid (DP w z B d r D w5∧RM w5 B r D rvs rva):=⟨E4.out.1.later hb6,E4.out.2.later hb6⟩
    clear h6 hpl2 hs2 hb6 hHeld E4 PL1 HRP
    go_wp2_with fail
    refine hK.out _ _ E5 (fun hHeld=>?_)
    clear hK K
    refine jjR 7 (by kernel_rfl) rfl fun K hK=>?_
    go_simp
    refine(HSI v1 v2 pl pl _ PL2.out.1 PL2.out.2.1 (by have:=PL2.out.2.2;omega) (by have:=PL2.out.2.2;omega)).mono ?_
    rintro e w6 ⟨rfl,hb7⟩
    have E6:Hid (DP w z B d r D w6∧RM w6 B r D rvs rva):=⟨E5.out.1.later hb7,E5.out.2.later hb7⟩
    have hdt:decide (pl=pl)=true:=decide_eq_true rfl
    rw [hdt]
    clear hb7 hHeld E5 PL2 HSI hdt
    go_wp2_with fail
    refine hK.out _ _ E6 (fun hHeld=>?_)
    clear hK K
    refine jjT 8 ⟨some 2,.assign (.tmp 51),4,"law.go:154",#[⟨7,.data⟩,⟨7,.chain⟩,⟨0,.phase⟩,⟨1,.phase⟩,⟨2,.phase⟩,⟨3,.phase⟩,⟨4,.phase⟩,⟨5,.phase⟩,⟨6,.phase⟩,⟨7,.phase⟩],none⟩ (?_) rfl (by kernel_rfl) (fun _ _ _ h=>h) (Or.inl ⟨by rfl,?_⟩) hHeld ?_
    rotate_left
    ·(intro w hSw;first|(go_simp;done)|(go_simp;with_reducible rfl))
    simp only [Act.put,jjA,jjB,jjC]
    refine wpAnyH_done (by kernel_rfl) ?_ _
    clear hHeld
    go_wp2_with fail
    go_ret
    exact⟨rfl,E6.out.1.below⟩
   ·have hki:¬ ((k:Int) < (l.length:Int)):=by omega
    clear hgo
    have h14:D.p.ships.length≤14:=by have:D.p.ships.length < 15:=I.out.ds.ok.port.port.len;omega
    have h4:D.p.kept.length=4:=I.out.ds.ok.port.port.four
    obtain⟨rvs,rva,hRM⟩:=I.out.rs.dsk
    have E3:Hid (DP w z B d r D wr.drew∧RM wr.drew B r D rvs rva):=⟨I.out.later (Below.refl _ _).drew,hRM.later (Below.refl _ _).drew⟩
    have HPT:Hid (jaj D.p):=I.out.ds.ok.port
    clear hRM I
    generalize hPC:(jaa D.p rvs).toArray=PC at *
    have HPC:Hid ((jaa D.p rvs).toArray=PC):=hPC
    clear hPC
    go_upto_region 9 with fail
    refine wp_region_held_drew (S:=fun W=>Hid (DP w z B d r D W∧RM W B r D rvs rva)) (by kernel_rfl) E3 (fun hHeld=>?_)
    refine jjT 0 ⟨some 44,.move (.tmp 3),31,"law.go:154",#[],none⟩ (?_) rfl (by kernel_rfl) (fun _ _ _ h=>h) (Or.inl ⟨by rfl,?_⟩) hHeld ?_
    rotate_left
    ·(intro w hSw;first|(go_simp;done)|(go_simp;with_reducible rfl))
    simp only [Act.put,jjA,jjB,jjC]
    refine jjT 2 ⟨some 46,.move (.tmp 4),51,"law.go:154",#[],none⟩ (?_) rfl (by kernel_rfl) (fun _ _ _ h=>h) (Or.inl ⟨by rfl,?_⟩) hHeld ?_
    rotate_left
    ·(intro w hSw;first|(go_simp;done)|(go_simp;with_reducible rfl))
    simp only [Act.put,jjA,jjB,jjC]
    refine jjT 3 ⟨some 47,.nilCheck (.tmp 46),0,"law.go:154",#[⟨2,.data⟩],none⟩ (?_) rfl (by kernel_rfl) (fun _ _ _ h=>h) (Or.inl ⟨by rfl,?_⟩) hHeld ?_
    rotate_left
    ·(intro w hSw;first|(go_simp;done)|(go_simp;with_reducible rfl))
    simp only [Act.put,jjA,jjB,jjC]
    refine jjT 4 ⟨some 48,.fieldAddr 54 (.tmp 47) 0,0,"law.go:154",#[⟨3,.data⟩],none⟩ (?_) rfl (by kernel_rfl) (fun _ _ _ h=>h) (Or.inl ⟨by rfl,?_⟩) hHeld ?_
    rotate_left
    ·(intro w hSw;first|(go_simp;done)|(go_simp;with_reducible rfl))
    simp only [Act.put,jjA,jjB,jjC]
    refine jjT 5 ⟨some 49,.load 41 (.tmp 48),41,"law.go:154",#[⟨4,.data⟩],none⟩ (.agg PC) rfl (by kernel_rfl) (fun _ _ _ h=>h) (by rw [← HPC.out];exact yieldsIf_load_mid (by rfl) 41 (.tmp 48) rfl r 0 rfl (jaa D.p rvs) _ (fun W hW=>hW.out.2.box.port) Tryz.underlying41 rfl (jbg D.p rvs h4)) hHeld ?_
    simp only [Act.put,jjA,jjB,jjC]
    refine jjR 1 (by kernel_rfl) rfl fun K hK=>?_
    go_simp
    refine(HPL d D _ hHeld.out.1.ds.dsk hHeld.out.1.ds.ok).mono ?_
    rintro e w4 ⟨v1,rfl,h5⟩
    obtain⟨pl,hpl,hro,hb5⟩:=h5.out
    have PL1:Hid (jbd D.p pl∧SlK cInt w4 v1 pl∧pl.length≤14):=⟨hpl,je6 hro,by rw [hpl.len];exact h14⟩
    have E4:Hid (DP w z B d r D w4∧RM w4 B r D rvs rva):=⟨hHeld.out.1.later hb5,hHeld.out.2.later hb5⟩
    clear h5 hpl hro hb5 hHeld E3 HPL
    go_wp2_with fail
    refine hK.out _ _ E4 (fun hHeld=>?_)
    clear hK K
    refine jjR 6 (by kernel_rfl) rfl fun K hK=>?_
    go_simp
    refine(HRP _ D.p _ (by have:=hHeld.out.2.pv h14;rw [← HPC.out];exact this) HPT.out).mono ?_
    rintro e w5 ⟨⟨v2,rfl,h6⟩,hb6⟩
    obtain⟨pl2,hpl2,hs2⟩:=h6.out
    obtain rfl:pl=pl2:=PL1.out.1.unique HPT.out.port.now.1 hpl2
    have PL2:Hid (SlK cInt w5 v1 pl∧SlK cInt w5 v2 pl∧pl.length≤14):=⟨jch PL1.out.2.1 hb6,hs2,PL1.out.2.2⟩
    have E5:Hid (DP w z B d r D w5∧RM w5 B r D rvs rva):=⟨E4.out.1.later hb6,E4.out.2.later hb6⟩
    clear h6 hpl2 hs2 hb6 hHeld E4 PL1 HRP
    go_wp2_with fail
    refine hK.out _ _ E5 (fun hHeld=>?_)
    clear hK K
    refine jjR 7 (by kernel_rfl) rfl fun K hK=>?_
    go_simp
    refine(HSI v1 v2 pl pl _ PL2.out.1 PL2.out.2.1 (by have:=PL2.out.2.2;omega) (by have:=PL2.out.2.2;omega)).mono ?_
    rintro e w6 ⟨rfl,hb7⟩
    have E6:Hid (DP w z B d r D w6∧RM w6 B r D rvs rva):=⟨E5.out.1.later hb7,E5.out.2.later hb7⟩
    have hdt:decide (pl=pl)=true:=decide_eq_true rfl
    rw [hdt]
    clear hb7 hHeld E5 PL2 HSI hdt
    go_wp2_with fail
    refine hK.out _ _ E6 (fun hHeld=>?_)
    clear hK K
    refine jjT 8 ⟨some 2,.assign (.tmp 51),4,"law.go:154",#[⟨7,.data⟩,⟨7,.chain⟩,⟨0,.phase⟩,⟨1,.phase⟩,⟨2,.phase⟩,⟨3,.phase⟩,⟨4,.phase⟩,⟨5,.phase⟩,⟨6,.phase⟩,⟨7,.phase⟩],none⟩ (?_) rfl (by kernel_rfl) (fun _ _ _ h=>h) (Or.inl ⟨by rfl,?_⟩) hHeld ?_
    rotate_left
    ·(intro w hSw;first|(go_simp;done)|(go_simp;with_reducible rfl))
    simp only [Act.put,jjA,jjB,jjC]
    refine wpAnyH_done (by kernel_rfl) ?_ _
    clear hHeld
    go_wp2_with fail
    go_ret
    exact⟨rfl,E6.out.1.below⟩
end Go.Proofs.YtcmdoeledmkfmacGreatDoor
