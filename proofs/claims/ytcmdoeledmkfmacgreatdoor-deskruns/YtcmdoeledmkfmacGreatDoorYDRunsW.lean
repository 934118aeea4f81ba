/- Texts of this claim, in one: DRunsW. -/
import Derived.Test.YtcmdoeledmkfmacGreatDoorYS0
import Derived.Lib.AppendZeros
import Derived.BigQuiet
import Derived.Test.YtcmdoeledmkfmacGreatDoorYRDNew
import Derived.Test.YtcmdoeledmkfmacGreatDoorYTRun
set_option linter.unusedSimpArgs false
set_option linter.unusedVariables false
set_option maxHeartbeats 40000000
set_option maxRecDepth 100000
namespace Go.Proofs.YtcmdoeledmkfmacGreatDoor
open Go.RowKit
theorem RdK.repWhole {w:World} {b off:Nat} {l:List (Int×Int)} (h:RdK cRep w b off l) {j:Nat} {s:Int×Int} (hs:l[j]?=some s):w.rangeAt b (off+j*2) [.int .i64 s.1,.int .i64 s.2]:=fun i v hv=>by
 have:=h.at jum hs (i:=i) (show(cRep s)[i]?=some v from hv)
 rw [Nat.add_assoc]
 exact this
theorem jlt {w:World} {ops:Array Oper} {rest:List Oper} {o:Oper} {a:Act} {Q:Exit→Act→World→Prop} (hgd:o.guard=none) (y:Operand)
  (ho:o.op=.call { callee:=.builtin .append,args:=#[.const (.slice none 0 0),y],argTypes:=#[22,22] }) (v:Value) (l:List (List UInt8)) (hy:a.eval y=v) (hs:SlK cStr w v l) (hn:l.length≤8796093022208)
  (h:∀ v' w',Hid (w'.ownsRow w.heap.size 9 1 v' l.length (jae cStr l)∧Below w.heap.size w w')→wpList Tryz.prog ops Q rest (a.put o.dst v') w'):wpList Tryz.prog ops Q (o::rest) a w:=by
 refine wpList_plain hgd fun K hK=>?_
 obtain⟨i0,z,hi,hz,hs1,hb,hzs⟩:=tyStr.info
 obtain⟨v',w',h0,h1,h2⟩:=jfn (P:=Tryz.prog) jpq tyStr.und hi hz hs1 hb hzs (by omega) v l w hs (by unfold maxLen;omega) (by omega) o.type
 clear hn hs
 have H:=hK _ _ (h v' w' ⟨h1,h2⟩)
 clear h h1 h2 hK
 have hc:a.eval (.const (.slice none 0 0))=.slice none 0 0:=rfl
 unfold Oper.wp
 simp [execOp,ho,resolve,invoke,builtin,hc,hy,h0,Result.andThen]
 exact H
theorem js8 (v:Value) (l:List (List UInt8)) (w:World) (hs:SlK cStr w v l) (h:250 < l.length) :
  Calls Tryz.prog 9 #[v] w fun e w'=>e=.returned (.tuple #[.slice none 0 0,.int .i64 5])∧w'=w:=by
 obtain⟨a,cap,rfl,_⟩:=hs
 have hi:(250:Int) < (l.length:Int):=by omega
 go_enter Tryz.func9,Tryz.ntmps9
 go_wp2_with fail
 go_ret2
 exact⟨rfl,rfl⟩
theorem jnj (v:Value) (l:List (List UInt8)) (w:World) (hL:LW w∧AS w) (hs:SlK cStr w v l) (hln:∀ y∈l,y.length≤9223372036854775807) (hll:l.length≤8796093022208) :
  Calls Tryz.prog 7 #[v] w fun e w'=>e=.returned (.bool true)∧Below w.heap.size w w':=by
 have SL:Hid (SlK cStr w v l):=hs
 have LN:Hid (∀ y∈l,y.length≤9223372036854775807):=hln
 have HL:Hid (LW w∧AS w):=hL
 have HR:=fun v l W h1 h2 h3 h4=>juu v l W h1 h2 h3 h4
 have HF:=fun v W h1 h2=>js8 v l W h1 h2
 obtain⟨a,cap,hv⟩:∃ a cap,v=.slice a l.length cap:=by obtain⟨a,cap,h,_⟩:=hs;exact⟨a,cap,h⟩
 subst hv
 clear hL hs hln
 go_enter Tryz.func7,Tryz.ntmps7
 go_wp2_with (refine jlt rfl _ rfl (.slice a l.length cap) l rfl SL.out hll ?_;intro v2 w2 h2)
 have E2:Hid (Below w.heap.size w w2∧LW w2∧AS w2∧SlK cStr w2 v2 l):=⟨h2.out.2,HL.out.1.later h2.out.2,HL.out.2.later h2.out.2,je6 h2.out.1⟩
 clear h2 HL
 have hone:∀ W:World,SlK cStr (W.alloc (.cells #[.string ⟨#[63]⟩] 9)) (.slice (some ⟨W.heap.size,0,none⟩) 1 1) [[63]]:=fun W=>⟨_,_,rfl,Nat.le_refl _,Or.inr ⟨_,_,rfl,jfe (k:=1) W _ [63] _ rfl⟩⟩
 have HO:Hid (∀ W:World,SlK cStr (W.alloc (.cells #[.string ⟨#[63]⟩] 9)) (.slice (some ⟨W.heap.size,0,none⟩) 1 1) [[63]]):=hone
 clear hone
 by_cases h250:250 < l.length
 case pos =>
  have hi:(250:Int) < (l.length:Int):=by omega
  refine(HF v2 _ E2.out.2.2.2 h250).mono ?_
  rintro e w3 ⟨rfl,hw⟩
  subst hw
  have hba:Below w3.heap.size w3 (w3.alloc (.cells #[.string ⟨#[63]⟩] 9)):=(Below.refl _ w3).alloc (Nat.le_refl _) _
  have E3:Hid (Below w.heap.size w (w3.alloc (.cells #[.string ⟨#[63]⟩] 9))∧LW (w3.alloc (.cells #[.string ⟨#[63]⟩] 9))∧SlK cStr (w3.alloc (.cells #[.string ⟨#[63]⟩] 9)) (.slice (some ⟨w3.heap.size,0,none⟩) 1 1) [[63]]):=⟨E2.out.1.trans (hba.mono E2.out.1.size),E2.out.2.1.later hba,HO.out w3⟩
  clear hba E2 HF
  go_wp2_with fail
  refine(HR _ [[63]] _ E3.out.2.1 E3.out.2.2 (by simp) (by simp)).mono ?_
  rintro e w4 ⟨vr,rfl,h4⟩
  obtain⟨rs,r1,_,r3,r4⟩:=h4.out
  obtain⟨ra,rc,hvr⟩:∃ x c,vr=.slice x 1 c:=by obtain⟨x,c,h⟩:=jan r3;exact⟨x,c,by rw [h,r1];rfl⟩
  subst hvr
  have E4:Hid (Below w.heap.size w w4):=E3.out.1.trans (r4.mono E3.out.1.size)
  clear h4 r1 r3 r4 E3 HR
  go_wp2_with fail
  go_ret
  exact⟨rfl,E4.out⟩
 have hi:¬ ((250:Int) < (l.length:Int)):=by omega
 refine(HR v2 l _ E2.out.2.1 E2.out.2.2.2 LN.out (by omega)).mono ?_
 rintro e w3 ⟨vr,rfl,h3⟩
 obtain⟨rs,r1,r2,r3,r4⟩:=h3.out
 obtain⟨ra,rc,hvr⟩:∃ x c,vr=.slice x l.length c:=by obtain⟨x,c,h⟩:=jan r3;exact⟨x,c,by rw [h,r1]⟩
 subst hvr
 have RS1:Hid (rs.length=l.length∧Reps l rs):=⟨r1,r2⟩
 have hba:Below w3.heap.size w3 (w3.alloc (.cells #[.string ⟨#[63]⟩] 9)):=(Below.refl _ w3).alloc (Nat.le_refl _) _
 have E3:Hid (Below w.heap.size w (w3.alloc (.cells #[.string ⟨#[63]⟩] 9))∧LW (w3.alloc (.cells #[.string ⟨#[63]⟩] 9))∧AS (w3.alloc (.cells #[.string ⟨#[63]⟩] 9))∧SlK cRep (w3.alloc (.cells #[.string ⟨#[63]⟩] 9)) (.slice ra l.length rc) rs∧SlK cStr (w3.alloc (.cells #[.string ⟨#[63]⟩] 9)) (.slice (some ⟨w3.heap.size,0,none⟩) 1 1) [[63]]):=by
  have hb:Below w.heap.size w w3:=E2.out.1.trans (r4.mono E2.out.1.size)
  exact⟨hb.trans (hba.mono hb.size),(E2.out.2.1.later r4).later hba,(E2.out.2.2.1.later r4).later hba,jch (je6 r3) hba,HO.out w3⟩
 clear hba h3 r1 r2 r3 r4 E2 HF HO
 go_wp2_with fail
 refine(HR _ [[63]] _ E3.out.2.1 E3.out.2.2.2.2 (by simp) (by simp)).mono ?_
 rintro e w4 ⟨vx,rfl,h4⟩
 obtain⟨xs,r1,_,r3,r4⟩:=h4.out
 obtain⟨xa,xc,hvx⟩:∃ x c,vx=.slice x 1 c:=by obtain⟨x,c,h⟩:=jan r3;exact⟨x,c,by rw [h,r1];rfl⟩
 subst hvx
 have E4:Hid (Below w.heap.size w w4∧AS w4∧SlK cRep w4 (.slice ra l.length rc) rs∧SlK cStr w4 (.slice a l.length cap) l):=by
  have hb:Below w.heap.size w w4:=E3.out.1.trans (r4.mono E3.out.1.size)
  exact⟨hb,E3.out.2.2.1.later r4,jch E3.out.2.2.2.1 r4,jch SL.out hb⟩
 clear h4 r1 r3 r4 E3 HR SL
 have HT:=fun D s W h1 h2=>jpd (w4.heap.size+1) w4.heap.size D s W h1 h2
 have E5:Hid (RS (w4.alloc (.cells (jcj jaf (.slice none 0 0) (.pointer none) 0).toArray 54)) (w4.heap.size+1) w4.heap.size newDk∧Below w4.heap.size w4 (w4.alloc (.cells (jcj jaf (.slice none 0 0) (.pointer none) 0).toArray 54))):=⟨rnew w4 E4.out.2.1,(Below.refl _ w4).alloc (Nat.le_refl _) _⟩
 have hbx:(jcj jaf (.slice none 0 0) (.pointer none) 0).toArray=#[.int .i64 0,.slice none 0 0,.int .i64 0,.int .i64 0,.int .i64 0,.int .i64 0,.int .i64 0,.int .i64 0,.int .i64 0,.int .i64 0,.int .i64 0,.int .i64 0,.int .i64 0,.int .i64 0,.int .i64 0,.int .i64 0,.pointer none,.int .i64 0]:=rfl
 rw [hbx] at E5
 clear hbx
 unfold txt at *
 go_upto_region 6 with fail
 generalize hW5:w4.alloc (.cells #[.int .i64 0,.slice none 0 0,.int .i64 0,.int .i64 0,.int .i64 0,.int .i64 0,.int .i64 0,.int .i64 0,.int .i64 0,.int .i64 0,.int .i64 0,.int .i64 0,.int .i64 0,.int .i64 0,.int .i64 0,.int .i64 0,.pointer none,.int .i64 0] 54)=W5 at *
 clear hW5
 generalize hd:w4.heap.size=d at *
 go_wp2_with fail
 go_loopg [8] l.length (fun kx s8 wr=>∃ k:Nat,s8=.int .i64 k∧k≤l.length∧l.length - k≤kx∧Hid (∃ D,jd7 newDk (l.take k) D∧RS wr (d+1) d D∧Below d w4 wr))
 case atStart=>exact⟨0,rfl,Nat.zero_le _,by omega,newDk,by simp [jd7],E5.out.1,E5.out.2⟩
 case round =>
  clear E5
  obtain⟨k,rfl,hk,hg,I0⟩:=hrel
  obtain⟨D,i1,i2,i3⟩:=I0.out
  clear I0
  by_cases hkl:k < l.length
  ·have hki:(k:Int) < (l.length:Int):=by omega
   have hkn:¬ ((l.length:Int)≤(k:Int)):=by omega
   obtain⟨s,hs⟩:∃ s,l[k]?=some s:=⟨l[k]'hkl,List.getElem?_eq_getElem hkl⟩
   obtain⟨x,hx⟩:∃ x,rs[k]?=some x:=⟨rs[k]'(by rw [RS1.out.1];exact hkl),List.getElem?_eq_getElem _⟩
   have hsm:=LN.out s (List.mem_of_getElem? hs)
   have PL:Hid (jd7 newDk (l.take k) D∧l[k]?=some s∧RepAt l k x):=⟨i1,hs,RS1.out.2 k x hx⟩
   obtain⟨b1,o1,rfl⟩:∃ b off,ra=some ⟨b,off,none⟩:=by
    obtain⟨a',c',e,_,hr⟩:=E4.out.2.2.1
    injection e with e1
    rcases hr with hr|⟨b,off,hr,h⟩
    ·rw [hr] at hx;simp at hx
    ·exact⟨b,off,by rw [e1,hr]⟩
   obtain⟨b2,o2,rfl⟩:∃ b off,a=some ⟨b,off,none⟩:=by
    obtain⟨a',c',e,_,hr⟩:=E4.out.2.2.2
    injection e with e1
    rcases hr with hr|⟨b,off,hr,h⟩
    ·rw [hr] at hs;simp at hs
    ·exact⟨b,off,by rw [e1,hr]⟩
   have ROW:Hid (∀ W,Below d w4 W→W.rangeAt b1 (o1+k*2) [.int .i64 x.1,.int .i64 x.2]∧W.cell? ⟨b2,o2+k,none⟩=some (.string ⟨s.toArray⟩)):=fun W hW=>by
    have q1:=jch E4.out.2.2.1 (by rw [hd];exact hW)
    have q2:=jch E4.out.2.2.2 (by rw [hd];exact hW)
    constructor
    ·obtain⟨a',c',e,_,hr⟩:=q1
     injection e with e1
     rcases hr with hr|⟨b,off,hr,h⟩
     ·rw [hr] at hx;simp at hx
     ·rw [hr] at e1
      injection e1 with e1
      injection e1 with e1 e2
      subst e1 e2
      exact h.repWhole hx
    ·obtain⟨a',c',e,_,hr⟩:=q2
     injection e with e1
     rcases hr with hr|⟨b,off,hr,h⟩
     ·rw [hr] at hs;simp at hs
     ·rw [hr] at e1
      injection e1 with e1
      injection e1 with e1 e2
      subst e1 e2
      exact h.str hs
   have E6:Hid (RS wr.drew (d+1) d D∧Below d w4 wr.drew):=⟨i2.later (Below.refl _ _).drew,i3.trans ((Below.refl _ _).drew)⟩
   clear i1 i2 i3 hs hx
   go_upto_region 11 with fail
   refine wp_region_held_drew (S:=fun W=>Hid (Below d w4 W)) (by kernel_rfl) E6.out.2 (fun hHeld=>?_)
   refine jjT 0 ⟨some 57,.move (.tmp 3),24,"law.go:169",#[],none⟩ (?_) rfl (by kernel_rfl) (fun _ _ _ h=>h) (Or.inl ⟨by rfl,?_⟩) hHeld ?_
   rotate_left
   ·(intro w hSw;first|(go_simp;done)|(go_simp;with_reducible rfl))
   simp only [Act.put,jjA,jjB,jjC]
   refine jjT 1 ⟨some 58,.move (.tmp 8),3,"law.go:169",#[],none⟩ (?_) rfl (by kernel_rfl) (fun _ _ _ h=>h) (Or.inl ⟨by rfl,?_⟩) hHeld ?_
   rotate_left
   ·(intro w hSw;first|(go_simp;done)|(go_simp;with_reducible rfl))
   simp only [Act.put,jjA,jjB,jjC]
   refine jjT 2 ⟨some 59,.indexAddr 24 (.tmp 57) (.tmp 58),0,"law.go:169",#[⟨0,.data⟩,⟨1,.data⟩],none⟩ (.pointer (some ⟨b1,o1+k*2,none⟩)) rfl (by kernel_rfl) (fun _ _ _ h=>h) (Or.inl ⟨by rfl,by intro w hSw;go_simp⟩) hHeld ?_
   simp only [Act.put,jjA,jjB,jjC]
   refine jjT 3 ⟨some 60,.load 29 (.tmp 59),29,"law.go:169",#[⟨2,.data⟩],none⟩ (.agg #[.int .i64 x.1,.int .i64 x.2]) rfl (by kernel_rfl) (fun _ _ _ h=>h) (yieldsIf_load_mid (by rfl) 29 (.tmp 59) rfl b1 (o1+k*2) rfl [.int .i64 x.1,.int .i64 x.2] _ (fun W hW=>(ROW.out W hW.out).1) Tryz.underlying29 rfl (by rw [jkx];rfl)) hHeld ?_
   simp only [Act.put,jjA,jjB,jjC]
   refine jjT 4 ⟨some 61,.move (.tmp 7),51,"law.go:169",#[],none⟩ (?_) rfl (by kernel_rfl) (fun _ _ _ h=>h) (Or.inl ⟨by rfl,?_⟩) hHeld ?_
   rotate_left
   ·(intro w hSw;first|(go_simp;done)|(go_simp;with_reducible rfl))
   simp only [Act.put,jjA,jjB,jjC]
   refine jjT 5 ⟨some 62,.move (.tmp 0),22,"law.go:169",#[],none⟩ (?_) rfl (by kernel_rfl) (fun _ _ _ h=>h) (Or.inl ⟨by rfl,?_⟩) hHeld ?_
   rotate_left
   ·(intro w hSw;first|(go_simp;done)|(go_simp;with_reducible rfl))
   simp only [Act.put,jjA,jjB,jjC]
   refine jjT 6 ⟨some 63,.move (.tmp 8),3,"law.go:169",#[],none⟩ (?_) rfl (by kernel_rfl) (fun _ _ _ h=>h) (Or.inl ⟨by rfl,?_⟩) hHeld ?_
   rotate_left
   ·(intro w hSw;first|(go_simp;done)|(go_simp;with_reducible rfl))
   simp only [Act.put,jjA,jjB,jjC]
   refine jjT 7 ⟨some 64,.indexAddr 22 (.tmp 62) (.tmp 63),0,"law.go:169",#[⟨5,.data⟩,⟨6,.data⟩],none⟩ (.pointer (some ⟨b2,o2+k,none⟩)) rfl (by kernel_rfl) (fun _ _ _ h=>h) (Or.inl ⟨by rfl,by intro w hSw;go_simp⟩) hHeld ?_
   simp only [Act.put,jjA,jjB,jjC]
   refine jjT 8 ⟨some 65,.load 9 (.tmp 64),9,"law.go:169",#[⟨7,.data⟩],none⟩ (.string ⟨s.toArray⟩) rfl (by kernel_rfl) (fun _ _ _ h=>h) (Or.inl ⟨by rfl,by intro w hSw;have q:=(ROW.out w hSw.out).2;go_simp⟩) hHeld ?_
   simp only [Act.put,jjA,jjB,jjC]
   refine jjR 9 (by kernel_rfl) rfl fun K hK=>?_
   go_simp
   refine(HT D s _ hsm E6.out.1).mono ?_
   rintro e w7 ⟨er,n,rfl,h7⟩
   obtain⟨D',j1,j2,j3⟩:=h7.out
   have hxe:x=(er,n):=PL.out.2.2.unique ⟨s,D,D',PL.out.2.1,PL.out.1,j1⟩
   have E7:Hid (∃ D,jd7 newDk (l.take (k+1)) D∧RS w7 (d+1) d D∧Below d w4 w7):=⟨D',by rw [jj3 PL.out.2.1];exact jgl _ _ _ _ _ _ _ PL.out.1 j1,j2,E6.out.2.trans j3.below⟩
   have B7:Hid (Below d w4 w7):=E6.out.2.trans j3.below
   have hq:=jrz er n
   subst hxe
   clear h7 j1 j2 j3 E6 PL hHeld
   go_wp2_with fail
   refine hK.out _ _ B7 (fun hHeld=>?_)
   clear hK K
   refine jjT 10 ⟨some 67,.binOp .neq 29 (.tmp 60) (.tmp 66) 29,4,"law.go:169",#[⟨3,.data⟩,⟨9,.data⟩],none⟩ (.bool false) rfl (by kernel_rfl) (fun _ _ _ h=>h) (Or.inl ⟨by rfl,by intro w hSw;have q:=hq w;go_simp⟩) hHeld ?_
   simp only [Act.put,jjA,jjB,jjC]
   refine wpAnyH_done (by kernel_rfl) ?_ _
   clear hHeld hq B7
   go_wp2_with fail
   go_roundg (l.length - (k+1))
   case measure=>omega
   case rel=>exact⟨k+1,by go_num,by omega,Nat.le_refl _,E7⟩
  ·have hki:¬ ((k:Int) < (l.length:Int)):=by omega
   have B6:Hid (Below w.heap.size w wr):=E4.out.1.trans (i3.mono (by rw [← hd];exact E4.out.1.size))
   clear i1 i2 i3
   go_wp2_with fail
   go_ret
   exact⟨rfl,B6.out⟩
end Go.Proofs.YtcmdoeledmkfmacGreatDoor
