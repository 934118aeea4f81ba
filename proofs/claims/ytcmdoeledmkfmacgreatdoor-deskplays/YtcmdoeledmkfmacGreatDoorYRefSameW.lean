/- Texts of this claim, in one: RefSameW. -/
import Derived.Test.YtcmdoeledmkfmacGreatDoorSB
set_option linter.unusedSimpArgs false
set_option linter.unusedVariables false
set_option maxHeartbeats 40000000
set_option maxRecDepth 100000
namespace Go.Proofs.YtcmdoeledmkfmacGreatDoor
open Go.RowKit
theorem jn8 (v1 v2:Value) (p q:Pt) (w:World) (hv1:PtV w v1 p) (hv2:PtV w v2 q) :
  Calls Tryz.prog 19 #[v1,v2] w fun e w'=>IsB e (p=q)∧Below w.heap.size w w':=by
 obtain⟨vs1,rfl,hvs1,h41,hmx1⟩:=hv1
 obtain⟨vs2,rfl,hvs2,h42,hmx2⟩:=hv2
 obtain⟨a1,cap1,rfl,hcap1,hrd1⟩:=hvs1
 obtain⟨a2,cap2,rfl,hcap2,hrd2⟩:=hvs2
 have HR1:Hid (p.ships=[]∨∃ b off,a1=some ⟨b,off,none⟩∧RdK cShip w b off p.ships):=hrd1
 have HR2:Hid (q.ships=[]∨∃ b off,a2=some ⟨b,off,none⟩∧RdK cShip w b off q.ships):=hrd2
 clear hrd1 hrd2
 have X0:Hid (PBox (w.alloc (.cells (jaa p (.slice a1 p.ships.length cap1)).toArray 41)) w.heap.size p (.slice a1 p.ships.length cap1)):=PBox.new w p _ h41
 have B0:Hid (Below w.heap.size w (w.alloc (.cells (jaa p (.slice a1 p.ships.length cap1)).toArray 41))):=(Below.refl _ w).alloc (Nat.le_refl _) _
 have Y0:Hid (∀ W:World,PBox (W.alloc (.cells (jaa q (.slice a2 q.ships.length cap2)).toArray 41)) W.heap.size q (.slice a2 q.ships.length cap2)):=fun W=>PBox.new W q _ h42
 generalize (jaa p (.slice a1 p.ships.length cap1)).toArray=PC1 at *
 generalize (jaa q (.slice a2 q.ships.length cap2)).toArray=PC2 at *
 go_enter Tryz.func19,Tryz.ntmps19
 go_upto_region 1 with fail
 have X1:Hid (PBox ((w.alloc (.cells PC1 41)).alloc (.cells PC2 41)) w.heap.size p (.slice a1 p.ships.length cap1)):=X0.out.later ((Below.refl _ _).alloc (Nat.le_refl _) _) (by simp)
 have Y1:Hid (PBox ((w.alloc (.cells PC1 41)).alloc (.cells PC2 41)) (w.heap.size+1) q (.slice a2 q.ships.length cap2)):=by have h:=Y0.out (w.alloc (.cells PC1 41));rw [show(w.alloc (.cells PC1 41)).heap.size=w.heap.size+1 by simp] at h;exact h
 have B1:Hid (Below w.heap.size w ((w.alloc (.cells PC1 41)).alloc (.cells PC2 41))):=B0.out.trans ((Below.refl _ _).alloc (by simp) _)
 generalize (w.alloc (.cells PC1 41)).alloc (.cells PC2 41)=W1 at *
 clear X0 B0 Y0
 obtain⟨c0,c1,c14,c15⟩:=X1.out.cells
 obtain⟨d0,d1,d14,d15⟩:=Y1.out.cells
 have hK:=fun W=>ju7 p.kept q.kept h41 h42 W
 by_cases g1:p.now=q.now
 case neg =>
  have hb:(p.now != q.now)=true:=by simp [g1]
  have NE:Hid (¬ p=q):=fun h=>g1 (by rw [h])
  clear hK
  go_wp2
  go_ret
  exact⟨⟨false,rfl,⟨fun h=>(by cases h),fun h=>absurd h NE.out⟩⟩,B1.out⟩
 have hb1:(p.now != q.now)=false:=by simp [g1]
 obtain⟨r,hr,hri⟩:=hK W1
 clear hK
 by_cases g2:p.kept=q.kept
 case neg =>
  have hrt:r=false:=by cases r;rfl;exact absurd (hri.1 rfl) g2
  subst hrt
  have NE:Hid (¬ p=q):=fun h=>g2 (by rw [h])
  clear hri g2
  go_wp2_with (first|refine ja9 (by first|rfl|(simp [Region.wanted,yielded];done)) _ rfl w.heap.size p _ rfl X1.out ?_|refine ja9 (by first|rfl|(simp [Region.wanted,yielded];done)) _ rfl (w.heap.size+1) q _ rfl Y1.out ?_)
  go_ret
  exact⟨⟨false,rfl,⟨fun h=>(by cases h),fun h=>absurd h NE.out⟩⟩,B1.out⟩
 have hrf:r=true:=hri.2 g2
 subst hrf
 have G2:Hid (p.kept=q.kept):=g2
 have G1:Hid (p.now=q.now):=g1
 clear hri g1 g2
 by_cases g3:p.shut=q.shut
 case neg =>
  have hb:(p.shut != q.shut)=true:=by simp [g3]
  have NE:Hid (¬ p=q):=fun h=>g3 (by rw [h])
  go_wp2_with (first|refine ja9 (by first|rfl|(simp [Region.wanted,yielded];done)) _ rfl w.heap.size p _ rfl X1.out ?_|refine ja9 (by first|rfl|(simp [Region.wanted,yielded];done)) _ rfl (w.heap.size+1) q _ rfl Y1.out ?_)
  go_ret
  exact⟨⟨false,rfl,⟨fun h=>(by cases h),fun h=>absurd h NE.out⟩⟩,B1.out⟩
 have hb3:(p.shut != q.shut)=false:=by simp [g3]
 have G3:Hid (p.shut=q.shut):=g3
 clear g3
 by_cases g4:p.next=q.next
 case neg =>
  have hb:(p.next != q.next)=true:=by simp [g4]
  have NE:Hid (¬ p=q):=fun h=>g4 (by rw [h])
  go_wp2_with (first|refine ja9 (by first|rfl|(simp [Region.wanted,yielded];done)) _ rfl w.heap.size p _ rfl X1.out ?_|refine ja9 (by first|rfl|(simp [Region.wanted,yielded];done)) _ rfl (w.heap.size+1) q _ rfl Y1.out ?_)
  go_ret
  exact⟨⟨false,rfl,⟨fun h=>(by cases h),fun h=>absurd h NE.out⟩⟩,B1.out⟩
 have hb4:(p.next != q.next)=false:=by simp [g4]
 have G4:Hid (p.next=q.next):=g4
 clear g4
 by_cases g5:p.ships.length=q.ships.length
 case neg =>
  have hb:((p.ships.length:Int) != (q.ships.length:Int))=true:=by rw [bne_iff_ne];omega
  have NE:Hid (¬ p=q):=fun h=>g5 (by rw [h])
  go_wp2_with (first|refine ja9 (by first|rfl|(simp [Region.wanted,yielded];done)) _ rfl w.heap.size p _ rfl X1.out ?_|refine ja9 (by first|rfl|(simp [Region.wanted,yielded];done)) _ rfl (w.heap.size+1) q _ rfl Y1.out ?_)
  go_ret
  exact⟨⟨false,rfl,⟨fun h=>(by cases h),fun h=>absurd h NE.out⟩⟩,B1.out⟩
 have hb5:((p.ships.length:Int) != (q.ships.length:Int))=false:=by simp [g5]
 have G5:Hid (p.ships.length=q.ships.length):=g5
 have hg5:p.ships.length≤q.ships.length:=by omega
 clear g5
 go_wp2_with (first|refine ja9 (by first|rfl|(simp [Region.wanted,yielded];done)) _ rfl w.heap.size p _ rfl X1.out ?_|refine ja9 (by first|rfl|(simp [Region.wanted,yielded];done)) _ rfl (w.heap.size+1) q _ rfl Y1.out ?_)
 go_loopg [44] p.ships.length (fun kx s44 wr=>∃ k:Nat,s44=.int .i64 k∧k≤p.ships.length∧p.ships.length - k≤kx∧Hid (Below w.heap.size w wr)∧Hid (PBox wr w.heap.size p (.slice a1 p.ships.length cap1))∧Hid (PBox wr (w.heap.size+1) q (.slice a2 q.ships.length cap2))∧Hid (∀ j,j < k→p.ships[j]?=q.ships[j]?))
 case atStart=>exact⟨0,rfl,Nat.zero_le _,by omega,B1,X1,Y1,(fun j hj=>absurd hj (Nat.not_lt_zero _):∀ j,j < 0→p.ships[j]?=q.ships[j]?)⟩
 case round =>
  clear B1 X1 Y1 c0 c1 c14 c15 d0 d1 d14 d15 hr hb1 hb3 hb4 hb5
  obtain⟨k,rfl,hk,hg,S1,X1,Y1,I⟩:=hrel
  by_cases hlt:k < p.ships.length
  ·obtain⟨s,hs⟩:∃ s,p.ships[k]?=some s:=⟨p.ships[k],List.getElem?_eq_getElem hlt⟩
   obtain⟨t,ht⟩:∃ t,q.ships[k]?=some t:=⟨q.ships[k]'(by omega),List.getElem?_eq_getElem (by omega)⟩
   have HS:Hid (p.ships[k]?=some s):=hs
   have HT:Hid (q.ships[k]?=some t):=ht
   obtain⟨b1,o1,rfl,r1⟩:∃ b off,a1=some ⟨b,off,none⟩∧RdK cShip w b off p.ships:=by
    rcases HR1.out with h|h
    ·rw [h] at hlt;simp at hlt
    ·exact h
   obtain⟨b2,o2,rfl,r2⟩:∃ b off,a2=some ⟨b,off,none⟩∧RdK cShip w b off q.ships:=by
    rcases HR2.out with h|h
    ·rw [h] at ht;simp at ht
    ·exact h
   obtain⟨e0,e1,e2,e3,e4,e5⟩:=(r1.below S1.out).ship hs
   obtain⟨f0,f1,f2,f3,f4,f5⟩:=(r2.below S1.out).ship ht
   obtain⟨c0,c1,c14,c15⟩:=X1.out.cells
   obtain⟨d0,d1,d14,d15⟩:=Y1.out.cells
   have hneq:=ju2 s t
   clear hs ht r1 r2 c0 c14 c15 d0 d14 d15 HR1 HR2
   have hk3:(k:Int) < (p.ships.length:Int):=by omega
   have hk4:(k:Int) < (q.ships.length:Int):=by omega
   cases hd:jmx s t
   case false =>
    have E:Hid (s=t):=jj8.1 hd
    go_wp2_with fail
    go_quiet (fail)
    go_wp2
    go_roundg (p.ships.length - (k+1))
    case measure=>omega
    case rel =>
     have I2:Hid (∀ j,j < k+1→p.ships[j]?=q.ships[j]?):=fun j hj=>by
      by_cases e:j=k
      ·rw [e,HS.out,HT.out,E.out]
      ·exact I.out j (by omega)
     exact⟨k+1,by go_num,by omega,Nat.le_refl _,below_drewN S1.out _,X1,Y1,I2⟩
   case true =>
    have NE:Hid (¬ p=q):=fun h=>by
     have e:some s=some t:=by rw [← HS.out,← HT.out,h]
     injection e with e
     have:=jj8.2 e
     rw [hd] at this;cases this
    go_wp2_with fail
    go_quiet (fail)
    go_wp2
    go_ret
    exact⟨⟨false,rfl,⟨fun h=>(by cases h),fun h=>absurd h NE.out⟩⟩,below_drewN S1.out _⟩
  ·have EQ:Hid (p=q):=by
    have hsh:p.ships=q.ships:=List.ext_getElem? fun j=>by
     by_cases hj:j < k
     ·exact I.out j hj
     ·have h5:=G5.out
      rw [List.getElem?_eq_none (by omega),List.getElem?_eq_none (by omega)]
    have h1:=G1.out;have h2:=G2.out;have h3:=G3.out;have h4:=G4.out
    show p=q
    cases p;cases q
    simp only at h1 h2 h3 h4 hsh
    subst h1 h2 h3 h4 hsh
    rfl
   have hk3:¬ ((k:Int) < (p.ships.length:Int)):=by omega
   go_wp2
   go_ret
   exact⟨⟨true,rfl,⟨fun _=>EQ.out,fun _=>rfl⟩⟩,S1.out⟩
end Go.Proofs.YtcmdoeledmkfmacGreatDoor
