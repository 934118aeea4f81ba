/- Texts of this claim, in one: PDue PLate PMove PObey2 PRanksM. -/
import Derived.Test.YtcmdoeledmkfmacGreatDoorS6
import Derived.Test.YtcmdoeledmkfmacGreatDoorS5
import Derived.Test.YtcmdoeledmkfmacGreatDoorS1
import Derived.Test.YtcmdoeledmkfmacGreatDoorS9
set_option linter.unusedSimpArgs false
set_option linter.unusedVariables false
set_option maxHeartbeats 40000000
set_option maxRecDepth 100000
namespace Go.Proofs.YtcmdoeledmkfmacGreatDoor
open Go.RowKit
theorem jcr {w:World} {B b cap n:Nat} {l:List Ship} {j i:Nat} {s s':Ship} {x:Value} (h:w.ownsRow B 46 6 (.slice (some ⟨b,0,none⟩) n cap) l.length (jae cShip l)) (hs:l[j]?=some s) (hi:i < 6) (hc:cShip s'=(cShip s).set i x) :
  (w.setCell ⟨b,j*6+i,none⟩ x).ownsRow B 46 6 (.slice (some ⟨b,0,none⟩) n cap) (l.set j s').length (jae cShip (l.set j s')):=by
 obtain⟨g,c,e,ho⟩:=OwnK.ofRow h (by intro e;cases e)
 injection e with e1 e2 e3
 injection e1 with e1
 injection e1 with e1
 subst e1 e2 e3
 have:=OwnK.toRow jcg (ho.setCell jcg hs hi hc)
 rw [List.length_set] at this ⊢
 exact this
theorem jjr {w w':World} {B C:Nat} {e:TypeId} {size:Nat} {v:Value} {n:Nat} {xs:List Value} (h:w.ownsRow B e size v n xs) (hb:Below C w w') (hC:∀ k,v.ownBlock=some k→k < C):w'.ownsRow B e size v n xs:=by
 refine⟨h.1,?_⟩
 rcases h.2 with h0|⟨b,cap,cur,h0,h1,h2,h3⟩
 ·exact Or.inl h0
 ·exact Or.inr ⟨b,cap,cur,h0,h1,by rw [hb.block b (hC b (by rw [h0];rfl))];exact h2,h3⟩
structure jdd (w:World) (p:Pt) (pl:List Int) (vn:Value) (g:Nat) (vp:Value) (j:Nat) (W:World) (s7:Value):Prop where
 below:Below w.heap.size w W
 out:PBox W (w.heap.size+1) jaf (.slice none 0 0)
 q:PBox W g p vn
 row:W.ownsRow (w.heap.size+1+1) 46 6 vn (dueTo p pl j).length (jae cShip (dueTo p pl j))
 lt:∀ k,vn.ownBlock=some k→k < g
 who:W.ownsRow (g+1) 3 1 s7 (ints (whoTo p pl j)).length (jae cInt (ints (whoTo p pl j)))
 base:w.heap.size+1 < g
 plan:SlK cInt w vp pl
theorem jdd.later {w W W':World} {p:Pt} {pl:List Int} {vn vp s7:Value} {g j:Nat} (h:jdd w p pl vn g vp j W s7) (hb:Below W.heap.size W W'):jdd w p pl vn g vp j W' s7 :=
 ⟨h.below.trans (hb.mono h.below.size),h.out.later hb h.out.lt,h.q.later hb h.q.lt,ownsRow_later h.row hb,h.lt,ownsRow_later h.who hb,h.base,h.plan⟩
theorem jdd.no {w W:World} {p:Pt} {pl:List Int} {vn vp s7:Value} {g j:Nat} (h:jdd w p pl vn g vp j W s7) (hd:dueB p pl j=false):jdd w p pl vn g vp (j+1) W s7 :=
 ⟨h.below,h.out,h.q,by rw [jpr hd];exact h.row,h.lt,by rw [jkr hd];exact h.who,h.base,h.plan⟩
theorem jdd.frozen {w W:World} {p:Pt} {pl:List Int} {vp s7:Value} {g j b n cn:Nat} (h:jdd w p pl (.slice (some ⟨b,0,none⟩) n cn) g vp j W s7) (k:Nat):W.frozen? ⟨b,k,none⟩=false:=by
 obtain⟨b',c,e,ho⟩:=OwnK.ofRow h.row (by intro e;cases e)
 injection e with e1 e2 e3
 injection e1 with e1
 injection e1 with e1
 subst e1
 exact ho.frozen k
structure jh8 (w:World) (p:Pt) (pl:List Int) (vn:Value) (g:Nat) (vp:Value) (j:Nat) (W:World) (s7:Value):Prop where
 below:Below w.heap.size w W
 out:PBox W (w.heap.size+1) jaf (.slice none 0 0)
 q:PBox W g p vn
 row:W.ownsRow (w.heap.size+1+1) 46 6 vn (dueTo p pl (j+1)).length (jae cShip (dueTo p pl (j+1)))
 lt:∀ k,vn.ownBlock=some k→k < g
 who:W.ownsRow (g+1) 3 1 s7 (ints (whoTo p pl j)).length (jae cInt (ints (whoTo p pl j)))
 base:w.heap.size+1 < g
 plan:SlK cInt w vp pl
theorem jh8.later {w W W':World} {p:Pt} {pl:List Int} {vn vp s7:Value} {g j:Nat} (h:jh8 w p pl vn g vp j W s7) (hb:Below W.heap.size W W'):jh8 w p pl vn g vp j W' s7 :=
 ⟨h.below.trans (hb.mono h.below.size),h.out.later hb h.out.lt,h.q.later hb h.q.lt,ownsRow_later h.row hb,h.lt,ownsRow_later h.who hb,h.base,h.plan⟩
theorem jdd.yes {w W:World} {p:Pt} {pl:List Int} {vp s7:Value} {g j b n cn:Nat} (h:jdd w p pl (.slice (some ⟨b,0,none⟩) n cn) g vp j W s7) (hj:j < p.ships.length) (hd:dueB p pl j=true) :
  jh8 w p pl (.slice (some ⟨b,0,none⟩) n cn) g vp j ((W.setCell ⟨b,j*6,none⟩ (.int .i64 3)).setCell ⟨b,j*6+4,none⟩ (.int .i64 p.now)).drew s7:=by
 have hb0:=(h.row.lt b rfl).1
 have hb1:=h.lt b rfl
 have hbs:=h.base
 have r1:=jcr (i:=0) h.row (jg7 hj) (by decide) (s':={ shp p j with st:=3 }) (x:=.int .i64 3) rfl
 have r2:=jcr (i:=4) r1 (List.getElem?_set_self (by rw [jd4];exact hj)) (by decide) (s':=inS p.now (shp p j)) (x:=.int .i64 p.now) rfl
 have el:((dueTo p pl j).set j { shp p j with st:=3 }).set j (inS p.now (shp p j))=dueTo p pl (j+1):=by rw [List.set_set,jnd hj hd]
 rw [el] at r2
 refine⟨?_,?_,?_,?_,h.lt,?_,h.base,h.plan⟩
 ·exact((h.below.setCell (p:=⟨b,j*6,none⟩) (by show _≤b;omega) _).setCell (p:=⟨b,j*6+4,none⟩) (by show _≤b;omega) _).drew
 ·have o1:=(h.out.other (g':=b) (j*6) (.int .i64 3) (by omega)).other (g':=b) (j*6+4) (.int .i64 p.now) (by omega)
  exact o1.later ((Below.refl _ _).drew) o1.lt
 ·have o1:=(h.q.other (g':=b) (j*6) (.int .i64 3) (by omega)).other (g':=b) (j*6+4) (.int .i64 p.now) (by omega)
  exact o1.later ((Below.refl _ _).drew) o1.lt
 ·exact ownsRow_later r2 ((Below.refl _ _).drew)
 ·refine ownsRow_later (jal h.who fun k hk=>?_) ((Below.refl _ _).drew)
  rw [Below.heap_setCell _ _ _ _ (by show k≠b;omega),Below.heap_setCell _ _ _ _ (by show k≠b;omega)]
theorem jh8.app {w W W':World} {p:Pt} {pl:List Int} {vn vp s7 v':Value} {g j:Nat} (h:jh8 w p pl vn g vp j W s7) (hd:dueB p pl j=true) (ho:W'.ownsRow (g+1) 3 1 v' (ints (whoTo p pl j)++[(j:Int)]).length (jae cInt (ints (whoTo p pl j)++[(j:Int)]))) (hb:Below (g+1) W W'):jdd w p pl vn g vp (j+1) W' v':=by
 have hbs:=h.base
 refine⟨h.below.trans (hb.mono (by omega)),h.out.later hb (by omega),h.q.later hb (by omega),jjr h.row hb (fun k hk=>by have:=h.lt k hk;omega),h.lt,?_,h.base,h.plan⟩
 rw [jlw hd,jfi]
 exact ho
theorem jdd.size {w W:World} {p:Pt} {pl:List Int} {vn vp s7:Value} {g j:Nat} (h:jdd w p pl vn g vp j W s7):g+1≤W.heap.size:=h.q.lt
theorem SlK.ints {w:World} {a:Option Addr} {n cap:Nat} {l:List Int} (h:SlK cInt w (.slice a n cap) l) {k:Nat} {x:Int} (hk:l[k]?=some x):∃ b off,a=some ⟨b,off,none⟩∧RdK cInt w b off l:=by
 obtain⟨a',c',e,_,h⟩:=h
 injection e with e1 e2 e3
 subst e1
 rcases h with h|h
 ·rw [h] at hk;cases hk
 ·exact h
theorem SlK.belowB {α:Type} {c:α→List Value} {w w':World} {v:Value} {l:List α} (h:SlK c w v l) (hb:Below w.heap.size w w'):SlK c w' v l:=h.below hb
theorem ju9 (v vp:Value) (p:Pt) (pl:List Int) (w:World) (hv:PtV w v p) (hpl:SlK cInt w vp pl) (hmp:pl.length≤17592186044416) :
  Calls Tryz.prog 86 #[v,vp] w fun e w'=>∃ vs v2,e=.returned (.tuple #[.agg (jaa (dueP p pl) vs).toArray,v2])∧Hid (w'.ownsRow w.heap.size 46 6 vs p.ships.length (jae cShip (dueP p pl).ships)∧w'.ownsRow w.heap.size 3 1 v2 (ints (dues p pl)).length (jae cInt (ints (dues p pl)))∧Below w.heap.size w w'):=by
 obtain⟨vs,rfl,hsl,h4,hmx⟩:=hv
 obtain⟨ap,cp,rfl,hcp,hrp⟩:=hpl
 have HPL:Hid (SlK cInt w (.slice ap pl.length cp) pl):=⟨ap,cp,rfl,hcp,hrp⟩
 have HV:Hid (PtV w (.agg (jaa p vs).toArray) p):=⟨vs,rfl,hsl,h4,hmx⟩
 have X0:Hid (PBox (w.alloc (.cells (jaa p vs).toArray 41)) w.heap.size p vs):=PBox.new w p _ h4
 have B0:Hid (Below w.heap.size w (w.alloc (.cells (jaa p vs).toArray 41))):=(Below.refl _ w).alloc (Nat.le_refl _) _
 have Z0:Hid ((w.alloc (.cells (jaa p vs).toArray 41)).heap.size=w.heap.size+1):=by show _=_;simp
 have HW:=fun W h=>joc (.agg (jaa p vs).toArray) p W h
 clear hsl hrp
 generalize hPC:(jaa p vs).toArray=PC at *
 have HPC:Hid ((jaa p vs).toArray=PC):=hPC
 clear hPC
 go_enter Tryz.func86,Tryz.ntmps86
 go_upto_region 1 with (first|(refine jah rfl rfl 4 rfl ?_;intro w1 hw1 hs1))
 rw [Z0.out] at hw1 hs1
 have T1:Hid (Below w.heap.size w w1∧PBox w1 w.heap.size p vs∧PBox w1 (w.heap.size+1) jaf (.slice none 0 0)):=⟨B0.out.trans (hw1.out.2.mono (by omega)),X0.out.later hw1.out.2 (by omega),hw1.out.1⟩
 clear hw1 X0 B0 Z0
 go_wp2_with (refine jac rfl _ rfl w.heap.size p vs rfl T1.out.2.1 ?_;rw [HPC.out])
 refine(HW _ (HV.out.below T1.out.1)).mono ?_
 rintro e w3 ⟨vn,rfl,hw3⟩
 rw [hs1] at hw3
 have T3:Hid (Below w.heap.size w w3∧PBox w3 (w.heap.size+1) jaf (.slice none 0 0)∧w3.ownsRow (w.heap.size+1+1) 46 6 vn p.ships.length (jae cShip p.ships)∧w.heap.size+1+1≤w3.heap.size):=⟨T1.out.1.trans (hw3.out.2.mono (by omega)),T1.out.2.2.later hw3.out.2 (by omega),hw3.out.1,by have:=hw3.out.2.size;omega⟩
 obtain⟨xn,cn,rfl⟩:=jan T3.out.2.2.1
 have on:=jam T3.out.2.2.1
 clear T1 hw3 hs1 HW HV
 go_upto_region 2 with (first|(refine jah rfl rfl 6 rfl ?_;intro w4 hw4 hs4)|(refine jab rfl _ _ rfl w3.heap.size jaf p (.slice none 0 0) (.slice xn p.ships.length cn) rfl rfl hw4.out.1 h4 on ?_;intro w5 hw5 hs5))
 have M5:Hid (jdd w p pl (.slice xn p.ships.length cn) w3.heap.size (.slice ap pl.length cp) 0 w5 (.slice none 0 0)):=by
  have hb:Below w3.heap.size w3 w5:=hw4.out.2.trans (hw5.out.2.2 _ (Nat.le_refl _))
  have hz:=T3.out.2.2.2
  have hbw:Below w.heap.size w w5:=T3.out.1.trans (hb.mono (by omega))
  refine⟨hbw,T3.out.2.1.later hb (by omega),hw5.out.1,?_,fun k hk=>(T3.out.2.2.1.lt k hk).2,World.ownsRow_nil _ _ _ _,by omega,HPL.out⟩
  rw [jkh]
  exact ownsRow_later T3.out.2.2.1 hb
 generalize w3.heap.size=g at *
 clear hw4 hw5 hs4 hs5 T3 on HPL
 obtain⟨pc0,pc1,pc14,pc15⟩:=M5.out.q.cells
 clear pc0 pc14 pc15
 obtain⟨mn,hmn⟩:∃ mn:Nat,(p.ships.length≤pl.length∧mn=p.ships.length)∨(pl.length < p.ships.length∧mn=pl.length):=by
  by_cases h:p.ships.length≤pl.length
  ·exact⟨_,Or.inl ⟨h,rfl⟩⟩
  ·exact⟨_,Or.inr ⟨by omega,rfl⟩⟩
 go_upto_region 3 with fail
 go_cut [17,18] (fun s17 s18 wc=>s17=.int .i64 mn∧s18=.int .i64 0∧wc=w5)
 case first =>
  go_wp2_with fail
  all_goals go_meet
  all_goals
   refine⟨?_,rfl,rfl⟩
   congr 1
   omega
 case rest =>
  obtain⟨rfl,rfl,rfl⟩:=hcut
  clear pc1
  go_wp2_with fail
  go_loopg [7,18] mn (fun kx s7 s18 wr=>∃ (j:Nat),s18=.int .i64 j∧j≤mn∧mn - j≤kx∧Hid (jdd w p pl (.slice xn p.ships.length cn) g (.slice ap pl.length cp) j wr s7))
  case atStart=>exact⟨0,rfl,Nat.zero_le _,by omega,M5⟩
  case round =>
   clear M5
   obtain⟨j,rfl,hj,hg,M⟩:=hrel
   by_cases hjl:j < mn
   ·have hjn:j < p.ships.length:=by omega
    have hjp:j < pl.length:=by omega
    obtain⟨x,hx⟩:∃ x,pl[j]?=some x:=⟨pl[j],List.getElem?_eq_getElem hjp⟩
    obtain⟨bp,op,rfl,hrp⟩:=SlK.ints (M.out.plan.below M.out.below) hx
    have rc:=hrp.int hx
    obtain⟨b,rfl,hbg⟩:∃ b,xn=some ⟨b,0,none⟩∧b < g:=by
     obtain⟨b,c,e,_⟩:=OwnK.ofRow M.out.row (by intro e;injection e with _ e _;omega)
     injection e with e1 e2 e3
     exact⟨b,e1,M.out.lt b (by rw [e1];rfl)⟩
    have hsl:SlK cShip wr (.slice (some ⟨b,0,none⟩) p.ships.length cn) (dueTo p pl j):=jaz M.out.row
    obtain⟨b',o',e',hrs⟩:∃ b' o',(some (⟨b,0,none⟩:Addr))=some ⟨b',o',none⟩∧RdK cShip wr b' o' (dueTo p pl j):=by
     obtain⟨x1,x2,e,_,h⟩:=hsl
     injection e with e1 _ _
     rcases h with h|⟨b',o',h1,h2⟩
     ·have:=jd4 p pl j;rw [h] at this;simp at this;omega
     ·exact⟨b',o',by rw [e1,h1],h2⟩
    injection e' with e'
    injection e' with e1 e2
    subst e1 e2
    obtain⟨c0,c1,c2,c3,c4,c5⟩:=hrs.ship (jg7 hjn)
    obtain⟨pc0,pc1,pc14,pc15⟩:=M.out.q.cells
    have hj3:(j:Int) < (mn:Int):=by omega
    have hj4:(j:Int) < (p.ships.length:Int):=by omega
    have hj5:(j:Int) < (pl.length:Int):=by omega
    simp only [Nat.zero_add] at c0 c1 c2 c3 c4 c5
    clear c1 c2 c3 c5 pc14 pc15 hrs hrp hsl
    by_cases h1:(shp p j).st=1
    ·by_cases h2:x=p.now
     ·have hd:dueB p pl j=true:=jcd.2 ⟨by rw [hx,h2],h1⟩
      rw [h1] at c0
      subst h2
      clear hx
      go_wp2_with fail
      go_region
      go_wp2_with fail
      have MD:Hid (jdd w p pl (.slice (some ⟨b,0,none⟩) p.ships.length cn) g (.slice (some ⟨bp,op,none⟩) pl.length cp) j wr.drew u7):=M.out.later ((Below.refl _ wr).drew)
      have c0':wr.drew.cell? ⟨b,j*6,none⟩=some (.int .i64 1):=c0
      have c4':wr.drew.cell? ⟨b,j*6+4,none⟩=some (.int .i64 (shp p j).si):=c4
      have pc0':wr.drew.cell? ⟨g,0,none⟩=some (.int .i64 p.now):=pc0
      clear c0 c4 pc0 pc1 rc M
      generalize wr.drew=W1 at *
      have hne:b≠g:=by omega
      have hne2:g≠b:=by omega
      have fz:∀ k,W1.frozen? ⟨b,k,none⟩=false:=fun k=>MD.out.frozen k
      have f0:=fz (j*6)
      have f4:=fz (j*6+4)
      clear fz
      go_region
      all_goals go_upto_region 9 with fail
      have E2:Hid (jh8 w p pl (.slice (some ⟨b,0,none⟩) p.ships.length cn) g (.slice (some ⟨bp,op,none⟩) pl.length cp) j ((W1.setCell ⟨b,j*6,none⟩ (.int .i64 3)).setCell ⟨b,j*6+4,none⟩ (.int .i64 p.now)).drew u7):=MD.out.yes hjn hd
      clear MD c0' c4' pc0' f0 f4
      generalize ((W1.setCell ⟨b,j*6,none⟩ (.int .i64 3)).setCell ⟨b,j*6+4,none⟩ (.int .i64 p.now)).drew=WB at *
      have hwl:=jlx p pl j
      have hl2:=jcb (whoTo p pl j)
      have Q1:Hid ((ints (whoTo p pl j)).length+1≤maxLen∧((ints (whoTo p pl j)).length+1)*8≤140737488355328):=⟨by unfold maxLen;omega,by omega⟩
      have R1:Hid (RdK cInt (WB.alloc (.cells #[.int .i64 (j:Int)] 3)) WB.heap.size 0 [(j:Int)]):=jhj WB _ _
      have E3:Hid (jh8 w p pl (.slice (some ⟨b,0,none⟩) p.ships.length cn) g (.slice (some ⟨bp,op,none⟩) pl.length cp) j (WB.alloc (.cells #[.int .i64 (j:Int)] 3)) u7):=E2.out.later ((Below.refl _ WB).alloc (Nat.le_refl _) _)
      have O5:Hid ((WB.alloc (.cells #[.int .i64 (j:Int)] 3)).ownsRow (g+1) 3 1 u7 (ints (whoTo p pl j)).length (jae cInt (ints (whoTo p pl j)))):=E3.out.who
      have Z5:Hid (g+1≤(WB.alloc (.cells #[.int .i64 (j:Int)] 3)).heap.size):=E3.out.q.lt
      clear hwl hl2 E2
      go_wp2_with (at_builtin;refine jcp tyInt rfl _ _ rfl (g+1) u7 (ints (whoTo p pl j)) [(j:Int)] WB.heap.size 0 1 1 rfl rfl rfl O5.out R1.out Z5.out Q1.out.1 Q1.out.2 ?_;intro v' w1 hw1)
      go_roundg (mn - (j+1))
      case measure=>omega
      case rel=>exact⟨j+1,by go_num,by omega,Nat.le_refl _,E3.out.app hd hw1.out.1 hw1.out.2⟩
     ·have hd:dueB p pl j=false:=by
       cases e:dueB p pl j
       ·rfl
       ·have h3:=(jcd.1 e).1
        rw [hx] at h3
        exact absurd (Option.some.inj h3) h2
      have hb2:(x == p.now)=false:=by simp [h2]
      have MD:Hid (jdd w p pl (.slice (some ⟨b,0,none⟩) p.ships.length cn) g (.slice (some ⟨bp,op,none⟩) pl.length cp) (j+1) wr.drew u7):=(M.out.later ((Below.refl _ wr).drew)).no hd
      rw [h1] at c0
      clear h2 hx M
      go_wp2_with fail
      go_region
      all_goals go_wp2_with fail
      go_roundg (mn - (j+1))
      case measure=>omega
      case rel=>exact⟨j+1,by go_num,by omega,Nat.le_refl _,MD⟩
    ·have hd:dueB p pl j=false:=by
      cases e:dueB p pl j
      ·rfl
      ·exact absurd (jcd.1 e).2 h1
     have hb2:((shp p j).st == 1)=false:=by simp [h1]
     have MD:Hid (jdd w p pl (.slice (some ⟨b,0,none⟩) p.ships.length cn) g (.slice (some ⟨bp,op,none⟩) pl.length cp) (j+1) wr.drew u7):=(M.out.later ((Below.refl _ wr).drew)).no hd
     clear hx M h1
     go_wp2_with fail
     go_region
     all_goals go_wp2_with fail
     go_roundg (mn - (j+1))
     case measure=>omega
     case rel=>exact⟨j+1,by go_num,by omega,Nat.le_refl _,MD⟩
   ·have hje:j=mn:=by omega
    subst hje
    have hj3:¬ (j:Int) < (j:Int):=by omega
    have DL:=jne (p:=p) (pl:=pl) (j:=j) (by omega)
    have WL:=jq8 (p:=p) (pl:=pl) (j:=j) (by omega) (by omega)
    have on:=jam M.out.row
    have QB:Hid (PBox wr g (dueP p pl) (.slice xn p.ships.length cn)):=M.out.q
    go_wp2_with (first|(refine jac rfl _ rfl g (dueP p pl) (.slice xn p.ships.length cn) rfl QB.out ?_)|(refine jab rfl _ _ rfl (w.heap.size+1) jaf (dueP p pl) (.slice none 0 0) (.slice xn p.ships.length cn) rfl rfl M.out.out h4 on ?_;intro w9 hw9 hs9))
    refine bodyPost_ret (v:=.tuple #[.agg (jaa (dueP p pl) (.slice xn p.ships.length cn)).toArray,u7]) (jby Tryz.results86 _ _ (w.heap.size+1) (dueP p pl) (.slice xn p.ships.length cn) rfl hw9.out.1) rfl ?_
    have hbs:=M.out.base
    refine⟨_,_,rfl,?_,?_,M.out.below.trans (hw9.out.2.2 _ (by omega))⟩
    ·have h:=M.out.row
     rw [jd4,DL] at h
     exact jar (jal h (fun k hk=>hw9.out.2.1 k (by omega))) (by omega)
    ·have h:=M.out.who
     rw [WL] at h
     exact jar (jal h (fun k hk=>hw9.out.2.1 k (by omega))) (by omega)
theorem jki (b o:Nat) (x0 x4:Int) (w:World) (c0:w.cell? ⟨b,o,none⟩=some (.int .i64 x0)) (c4:w.cell? ⟨b,o+4,none⟩=some (.int .i64 x4)) (f0:w.frozen? ⟨b,o,none⟩=false) (f4:w.frozen? ⟨b,o+4,none⟩=false) :
  Calls Tryz.prog 85 #[.pointer (some ⟨b,o,none⟩)] w fun e w'=>e=.returned (.tuple #[])∧w'=(w.setCell ⟨b,o,none⟩ (.int .i64 4)).setCell ⟨b,o+4,none⟩ (.int .i64 0):=by
 go_enter Tryz.func85,Tryz.ntmps85
 go_wp2_with fail
 go_end0
 exact⟨rfl,rfl⟩
def jsp (p:Pt) (er:Int) (q:Pt):Prop:=(¬ jaj p∧er=1∧q=p)∨(jaj p∧p.now=299∧er=2∧q=p)∨(jaj p∧p.now < 299∧er=0∧q=jbn p)
def jso (w:World) (T:Int→Pt→Prop) (e:Ending) (w':World):Prop :=
 ∃ (q:Pt) (vs:Value) (er:Int),e=.returned (.tuple #[.agg (jaa q vs).toArray,.int .i64 er])∧T er q∧q.kept.length=4∧q.ships.length≤2932031007317∧w'.ownsRow w.heap.size 46 6 vs q.ships.length (jae cShip q.ships)∧Below w.heap.size w w'
structure jbu (w:World) (p:Pt) (now:Int) (vn:Value) (g:Nat) (l:List Ship) (W:World):Prop where
 below:Below w.heap.size w W
 out:PBox W (w.heap.size+1) jaf (.slice none 0 0)
 q:PBox W g { p with now:=now } vn
 row:W.ownsRow (w.heap.size+1+1) 46 6 vn l.length (jae cShip l)
 lt:∀ k,vn.ownBlock=some k→k < g
 base:w.heap.size+1 < g
section
variable {w W W':World} {p:Pt} {now:Int} {vn:Value} {g:Nat} {l:List Ship}
theorem jbu.later (h:jbu w p now vn g l W) (hb:Below W.heap.size W W'):jbu w p now vn g l W' :=
 ⟨h.below.trans (hb.mono h.below.size),h.out.later hb h.out.lt,h.q.later hb h.q.lt,ownsRow_later h.row hb,h.lt,h.base⟩
theorem jbu.tick (h:jbu w p now vn g l W) (n:Int):jbu w p n vn g l (W.setCell ⟨g,0,none⟩ (.int .i64 n)):=by
 have hbs:=h.base
 exact⟨h.below.setCell (by show _≤g;omega) _,h.out.other _ _ (by omega),h.q.setNow n,jcq h.q h.row,h.lt,h.base⟩
theorem jbu.cell {b n cn:Nat} (h:jbu w p now (.slice (some ⟨b,0,none⟩) n cn) g l W) {j:Nat} {s:Ship} (hs:l[j]?=some s) :
  W.cell? ⟨b,j*6,none⟩=some (.int .i64 s.st)∧W.cell? ⟨b,j*6+2,none⟩=some (.int .i64 s.lg)∧W.cell? ⟨b,j*6+4,none⟩=some (.int .i64 s.si)∧W.frozen? ⟨b,j*6,none⟩=false∧W.frozen? ⟨b,j*6+4,none⟩=false:=by
 obtain⟨b',c,e,ho⟩:=OwnK.ofRow h.row (by intro e;cases e)
 injection e with e1 e2 e3
 injection e1 with e1
 injection e1 with e1
 subst e1
 have hr:=(ho.rd.ship hs)
 simp only [Nat.zero_add] at hr
 exact⟨hr.1,hr.2.2.1,hr.2.2.2.2.1,ho.frozen _,ho.frozen _⟩
theorem jbu.out1 {b n cn:Nat} (h:jbu w p now (.slice (some ⟨b,0,none⟩) n cn) g l W) {j:Nat} {s:Ship} (hs:l[j]?=some s) :
  jbu w p now (.slice (some ⟨b,0,none⟩) n cn) g (l.set j (outS s)) ((W.setCell ⟨b,j*6,none⟩ (.int .i64 4)).setCell ⟨b,j*6+4,none⟩ (.int .i64 0)):=by
 have hb0:=(h.row.lt b rfl).1
 have hb1:=h.lt b rfl
 have hbs:=h.base
 have hj:=(List.getElem?_eq_some_iff.1 hs).1
 have r1:=jcr (i:=0) h.row hs (by decide) (s':={ s with st:=4 }) (x:=.int .i64 4) rfl
 have r2:=jcr (i:=4) r1 (List.getElem?_set_self hj) (by decide) (s':=outS s) (x:=.int .i64 0) rfl
 rw [List.set_set] at r2
 refine⟨?_,?_,?_,r2,h.lt,h.base⟩
 ·exact((h.below.setCell (p:=⟨b,j*6,none⟩) (by show _≤b;omega) _).setCell (p:=⟨b,j*6+4,none⟩) (by show _≤b;omega) _)
 ·exact(h.out.other (g':=b) (j*6) (.int .i64 4) (by omega)).other (g':=b) (j*6+4) (.int .i64 0) (by omega)
 ·exact(h.q.other (g':=b) (j*6) (.int .i64 4) (by omega)).other (g':=b) (j*6+4) (.int .i64 0) (by omega)
end
theorem jr4 (v:Value) (p:Pt) (w:World) (hv:PtV w v p) (hq:WfQ p) :
  Calls Tryz.prog 63 #[v] w fun e w'=>jso w (jsp p) e w':=by
 obtain⟨vs,rfl,hsl,h4,hmx⟩:=hv
 have HV:Hid (PtV w (.agg (jaa p vs).toArray) p):=⟨vs,rfl,hsl,h4,hmx⟩
 have X0:Hid (PBox (w.alloc (.cells (jaa p vs).toArray 41)) w.heap.size p vs):=PBox.new w p _ h4
 have B0:Hid (Below w.heap.size w (w.alloc (.cells (jaa p vs).toArray 41))):=(Below.refl _ w).alloc (Nat.le_refl _) _
 have Z0:Hid ((w.alloc (.cells (jaa p vs).toArray 41)).heap.size=w.heap.size+1):=by show _=_;simp
 have HW:=fun W h=>joc (.agg (jaa p vs).toArray) p W h
 have HG:=fun W h=>jdo (.agg (jaa p vs).toArray) p W h hq
 clear hsl hq
 generalize hPC:(jaa p vs).toArray=PC at *
 have HPC:Hid ((jaa p vs).toArray=PC):=hPC
 clear hPC
 go_enter Tryz.func63,Tryz.ntmps63
 go_upto_region 1 with (first|(refine jah rfl rfl 2 rfl ?_;intro w1 hw1 hs1))
 rw [Z0.out] at hw1 hs1
 have T1:Hid (Below w.heap.size w w1∧PBox w1 w.heap.size p vs∧PBox w1 (w.heap.size+1) jaf (.slice none 0 0)):=⟨B0.out.trans (hw1.out.2.mono (by omega)),X0.out.later hw1.out.2 (by omega),hw1.out.1⟩
 clear hw1 X0 B0 Z0
 go_wp2_with (refine jac rfl _ rfl w.heap.size p vs rfl T1.out.2.1 ?_;rw [HPC.out])
 refine(HW _ (HV.out.below T1.out.1)).mono ?_
 rintro e w3 ⟨vn,rfl,hw3⟩
 rw [hs1] at hw3
 have T3:Hid (Below w.heap.size w w3∧PBox w3 (w.heap.size+1) jaf (.slice none 0 0)∧w3.ownsRow (w.heap.size+1+1) 46 6 vn p.ships.length (jae cShip p.ships)∧w.heap.size+1+1≤w3.heap.size∧PBox w3 w.heap.size p vs):=⟨T1.out.1.trans (hw3.out.2.mono (by omega)),T1.out.2.2.later hw3.out.2 (by omega),hw3.out.1,by have:=hw3.out.2.size;omega,T1.out.2.1.later hw3.out.2 (by omega)⟩
 obtain⟨xn,cn,rfl⟩:=jan T3.out.2.2.1
 have on:=jam T3.out.2.2.1
 clear T1 hw3 hs1 HW
 go_upto_region 2 with (first|(refine jah rfl rfl 4 rfl ?_;intro w4 hw4 hs4)|(refine jab rfl _ _ rfl w3.heap.size jaf p (.slice none 0 0) (.slice xn p.ships.length cn) rfl rfl hw4.out.1 h4 on ?_;intro w5 hw5 hs5))
 have M5:Hid (jbu w p p.now (.slice xn p.ships.length cn) w3.heap.size p.ships w5∧PBox w5 w.heap.size p vs):=by
  have hb:Below w3.heap.size w3 w5:=hw4.out.2.trans (hw5.out.2.2 _ (Nat.le_refl _))
  have hz:=T3.out.2.2.2.1
  have hbw:Below w.heap.size w w5:=T3.out.1.trans (hb.mono (by omega))
  exact⟨⟨hbw,T3.out.2.1.later hb (by omega),hw5.out.1,ownsRow_later T3.out.2.2.1 hb,fun k hk=>(T3.out.2.2.1.lt k hk).2,by omega⟩,T3.out.2.2.2.2.later hb (by omega)⟩
 generalize w3.heap.size=g at *
 clear hw4 hw5 hs4 hs5 T3 on
 go_wp2_with (refine jac rfl _ rfl w.heap.size p vs rfl M5.out.2 ?_;rw [HPC.out])
 refine(HG _ (HV.out.below M5.out.1.below)).mono ?_
 rintro e w6 ⟨⟨b6,rfl,hb6⟩,hw6⟩
 have M6:Hid (jbu w p p.now (.slice xn p.ships.length cn) g p.ships w6∧PBox w6 w.heap.size p vs):=⟨M5.out.1.later hw6,M5.out.2.later hw6 M5.out.2.lt⟩
 have HB:Hid (b6=true↔jaj p):=hb6
 have on:=jam M6.out.1.row
 clear M5 hw6 hb6 HG HV
 cases b6
 ·have NO:Hid (¬ jaj p):=fun h=>by have:=HB.out.2 h;cases this
  go_wp2_with (first|(refine jac rfl _ rfl g p (.slice xn p.ships.length cn) rfl M6.out.1.q ?_)|(refine jab rfl _ _ rfl (w.heap.size+1) jaf p (.slice none 0 0) (.slice xn p.ships.length cn) rfl rfl M6.out.1.out h4 on ?_;intro w9 hw9 hs9))
  refine bodyPost_ret (v:=.tuple #[.agg (jaa p (.slice xn p.ships.length cn)).toArray,.int .i64 1]) (jby Tryz.results63 _ _ (w.heap.size+1) p (.slice xn p.ships.length cn) rfl hw9.out.1) rfl ?_
  have hbs:=M6.out.1.base
  exact⟨p,_,1,rfl,Or.inl ⟨NO.out,rfl,rfl⟩,h4,hmx,jar (jal M6.out.1.row (fun k hk=>hw9.out.2.1 k (by omega))) (by omega),M6.out.1.below.trans (hw9.out.2.2 _ (by omega))⟩
 ·have YES:Hid (jaj p):=HB.out.1 rfl
  obtain⟨n0,n1⟩:=YES.out.port.now
  have pc0:=M6.out.2.cells.1
  by_cases h9:p.now=299
  ·have hT:inR (p.now+1) 0 299=false:=by unfold inR;exact decide_eq_false (by omega)
   go_wp2_with (first|(go_at_call 84;refine(jhl _ _).mono ?_;rintro e w' ⟨rfl,rfl⟩)|(refine jac rfl _ rfl g p (.slice xn p.ships.length cn) rfl M6.out.1.q ?_)|(refine jab rfl _ _ rfl (w.heap.size+1) jaf p (.slice none 0 0) (.slice xn p.ships.length cn) rfl rfl M6.out.1.out h4 on ?_;intro w9 hw9 hs9))
   refine bodyPost_ret (v:=.tuple #[.agg (jaa p (.slice xn p.ships.length cn)).toArray,.int .i64 2]) (jby Tryz.results63 _ _ (w.heap.size+1) p (.slice xn p.ships.length cn) rfl hw9.out.1) rfl ?_
   have hbs:=M6.out.1.base
   exact⟨p,_,2,rfl,Or.inr (Or.inl ⟨YES.out,h9,rfl,rfl⟩),h4,hmx,jar (jal M6.out.1.row (fun k hk=>hw9.out.2.1 k (by omega))) (by omega),M6.out.1.below.trans (hw9.out.2.2 _ (by omega))⟩
  ·have hT:inR (p.now+1) 0 299=true:=by unfold inR;exact decide_eq_true (by omega)
   have pg:=M6.out.1.q.cells
   have pg0:=pg.1
   have fg:=M6.out.1.q.frozen 0
   have M7:Hid (jbu w p (p.now+1) (.slice xn p.ships.length cn) g p.ships (w6.setCell ⟨g,0,none⟩ (.int .i64 (p.now+1)))):=M6.out.1.tick (p.now+1)
   have pgb:=M7.out.q.cells.2.1
   clear pg
   simp only at pg0 pgb
   go_wp2_with (first|(go_at_call 84;refine(jhl _ _).mono ?_;rintro e w' ⟨rfl,rfl⟩))
   clear M6 pc0 pg0 fg pgb HB
   generalize w'.setCell ⟨g,0,none⟩ (.int .i64 (p.now+1))=W7 at *
   go_loopg [26] p.ships.length (fun kx s26 wr=>∃ (j:Nat),s26=.int .i64 j∧j≤p.ships.length∧p.ships.length - j≤kx∧Hid (jbu w p (p.now+1) (.slice xn p.ships.length cn) g (jbw p j) wr))
   case atStart=>exact⟨0,rfl,Nat.zero_le _,by omega,by rw [jja];exact M7⟩
   case round =>
    clear M7
    obtain⟨j,rfl,hj,hg,M⟩:=hrel
    by_cases hjl:j < p.ships.length
    ·obtain⟨s,hs⟩:∃ s,p.ships[j]?=some s:=⟨p.ships[j],List.getElem?_eq_getElem hjl⟩
     obtain⟨b,rfl⟩:∃ b,xn=some ⟨b,0,none⟩:=by
      obtain⟨b,c,e,_⟩:=OwnK.ofRow M.out.row (by intro e;injection e with _ e _;omega)
      injection e with e1 e2 e3
      exact⟨b,e1⟩
     obtain⟨c0,c2,c4,f0,f4⟩:=M.out.cell (jdj hs)
     obtain⟨pc0,pc1,pc14,pc15⟩:=M.out.q.cells
     simp only at pc0
     have HS:Hid (p.ships[j]?=some s):=hs
     have HSH:=(YES.out.port.ship s (List.mem_of_getElem? hs)).1
     obtain⟨l1,l2⟩:=HSH.lg
     have hk3:(j:Int) < (p.ships.length:Int):=by omega
     clear pc14 pc15 hs
     by_cases h3:s.st=3
     ·obtain⟨s1,s2,s3,s4⟩:=HSH.lies h3
      rw [h3] at c0
      have hwr:IntKind.i64.wrap (s.si+s.lg)=s.si+s.lg:=jbk (by omega) (by omega)
      by_cases h5:s.si+s.lg=p.now+1
      ·have hb5:(s.si+s.lg == p.now+1)=true:=by simp [h5]
       have LS:Hid (jbw p (j+1)=(jbw p j).set j (outS s)):=by
        show _=_
        rw [jgm HS.out]
        unfold jdt
        rw [if_pos ⟨h3,h5⟩]
       have MD:Hid (jbu w p (p.now+1) (.slice (some ⟨b,0,none⟩) p.ships.length cn) g (jbw p j) wr.drew):=M.out.later ((Below.refl _ wr).drew)
       clear h3 HSH
       go_wp2_with fail
       go_region
       all_goals go_wp2_with fail
       obtain⟨d0,d2,d4,e0,e4⟩:=MD.out.cell (jdj HS.out)
       refine(jki b (j*6) _ _ _ d0 d4 e0 e4).mono ?_
       rintro e w8 ⟨rfl,rfl⟩
       have M8:Hid (jbu w p (p.now+1) (.slice (some ⟨b,0,none⟩) p.ships.length cn) g (jbw p (j+1)) ((wr.drew.setCell ⟨b,j*6,none⟩ (.int .i64 4)).setCell ⟨b,j*6+4,none⟩ (.int .i64 0))):=by rw [LS.out];exact MD.out.out1 (jdj HS.out)
       clear M MD
       go_wp2_with fail
       go_roundg (p.ships.length - (j+1))
       case measure=>omega
       case rel=>exact⟨j+1,by go_num,by omega,Nat.le_refl _,M8⟩
      ·have hb5:(s.si+s.lg == p.now+1)=false:=by simp [h5]
       have LS:Hid (jbw p (j+1)=jbw p j):=jg4 HS.out (by unfold jdt;rw [if_neg (fun h=>h5 h.2)])
       have MD:Hid (jbu w p (p.now+1) (.slice (some ⟨b,0,none⟩) p.ships.length cn) g (jbw p (j+1)) wr.drew):=by rw [LS.out];exact M.out.later ((Below.refl _ wr).drew)
       clear M h3 HSH
       go_wp2_with fail
       go_region
       all_goals go_wp2_with fail
       go_roundg (p.ships.length - (j+1))
       case measure=>omega
       case rel=>exact⟨j+1,by go_num,by omega,Nat.le_refl _,MD⟩
     ·have hb3:(s.st == 3)=false:=by simp [h3]
      have LS:Hid (jbw p (j+1)=jbw p j):=jg4 HS.out (by unfold jdt;rw [if_neg (fun h=>h3 h.1)])
      have MD:Hid (jbu w p (p.now+1) (.slice (some ⟨b,0,none⟩) p.ships.length cn) g (jbw p (j+1)) wr.drew):=by rw [LS.out];exact M.out.later ((Below.refl _ wr).drew)
      clear M h3 HSH
      go_wp2_with fail
      go_region
      all_goals go_wp2_with fail
      go_roundg (p.ships.length - (j+1))
      case measure=>omega
      case rel=>exact⟨j+1,by go_num,by omega,Nat.le_refl _,MD⟩
    ·have hje:j=p.ships.length:=by omega
     subst hje
     have hj3:¬ (p.ships.length:Int) < (p.ships.length:Int):=by omega
     have on:=jam M.out.row
     have QB:Hid (PBox wr g (jbn p) (.slice xn p.ships.length cn)):=M.out.q
     go_wp2_with (first|(refine jac rfl _ rfl g (jbn p) (.slice xn p.ships.length cn) rfl QB.out ?_)|(refine jab rfl _ _ rfl (w.heap.size+1) jaf (jbn p) (.slice none 0 0) (.slice xn p.ships.length cn) rfl rfl M.out.out h4 on ?_;intro w9 hw9 hs9))
     refine bodyPost_ret (v:=.tuple #[.agg (jaa (jbn p) (.slice xn p.ships.length cn)).toArray,.int .i64 0]) (jby Tryz.results63 _ _ (w.heap.size+1) (jbn p) (.slice xn p.ships.length cn) rfl hw9.out.1) rfl ?_
     have hbs:=M.out.base
     have hr:=M.out.row
     rw [jka] at hr
     exact⟨jbn p,_,0,rfl,Or.inr (Or.inr ⟨YES.out,by omega,rfl,rfl⟩),h4,by rw [je2];exact hmx,jar (jal hr (fun k hk=>hw9.out.2.1 k (by omega))) (by omega),M.out.below.trans (hw9.out.2.2 _ (by omega))⟩
def setS (p:Pt) (i:Nat) (s:Ship):Pt:={ p with ships:=p.ships.set i s }
def turnF (s:Ship) (x y:Int):Int×Ship:=if s.st=x then (0,{ s with st:=y }) else (4,s)
def jdb (s:Ship) (long now:Int):Int×Ship:=if (1≤long∧long≤300)∧(s.st=3→s.si+long≤300∧now < s.si+long) then (0,{ s with lg:=long }) else (2,s)
def moveS (s:Ship) (kd b now:Int):Int×Ship :=
 if s.st=4 then (4,s) else if kd=2 then (0,outS s) else if kd=3 then turnF s 1 2 else if kd=4 then turnF s 2 1 else jdb s b now
def moveF (p:Pt) (o:Ord):Int×Pt :=
 if 0≤o.a∧o.a≤(p.ships.length:Int) - 1 then ((moveS (shp p o.a.toNat) o.kd o.b p.now).1,setS p o.a.toNat (moveS (shp p o.a.toNat) o.kd o.b p.now).2) else (3,p)
theorem jfr {p:Pt} {i:Nat}:setS p i (shp p i)=p:=by
 unfold setS
 have:p.ships.set i (shp p i)=p.ships:=by
  refine List.ext_getElem? fun k=>?_
  by_cases e:k=i
  ·subst e
   by_cases hi:k < p.ships.length
   ·rw [List.getElem?_set_self hi,jj4 hi]
   ·rw [List.getElem?_eq_none (by rw [List.length_set];omega),List.getElem?_eq_none (by omega)]
  ·rw [List.getElem?_set_ne (fun h=>e h.symm)]
 rw [this]
theorem PQ.cell {B g:Nat} {w:World} {q:Pt} {b n cap:Nat} (h:PQ B w g q (.slice (some ⟨b,0,none⟩) n cap)) {j:Nat} {s:Ship} (hs:q.ships[j]?=some s) :
  (w.cell? ⟨b,j*6,none⟩=some (.int .i64 s.st)∧w.cell? ⟨b,j*6+2,none⟩=some (.int .i64 s.lg)∧w.cell? ⟨b,j*6+4,none⟩=some (.int .i64 s.si))∧(∀ k,w.frozen? ⟨b,k,none⟩=false)∧B≤b∧b≠g:=by
 obtain⟨b',c,e,ho⟩:=OwnK.ofRow h.2.1 (by intro e;cases e)
 injection e with e1 e2 e3
 injection e1 with e1
 injection e1 with e1
 subst e1
 have hr:=(ho.rd.ship hs)
 simp only [Nat.zero_add] at hr
 refine⟨⟨hr.1,hr.2.2.1,hr.2.2.2.2.1⟩,fun k=>ho.frozen k,(h.2.1.lt b rfl).1,?_⟩
 rintro rfl
 obtain⟨cur,h2,_⟩:=ho.row
 have e:=h2.symm.trans h.1.2
 injection e with e
 injection e with _ e
 exact absurd e (by decide)
theorem PQ.one {B g:Nat} {w:World} {q:Pt} {b n cap j i:Nat} {s s':Ship} {x:Value} (h:PQ B w g q (.slice (some ⟨b,0,none⟩) n cap)) (hs:q.ships[j]?=some s) (hi:i < 6) (hc:cShip s'=(cShip s).set i x) :
  PQ B (w.setCell ⟨b,j*6+i,none⟩ x) g (setS q j s') (.slice (some ⟨b,0,none⟩) n cap)∧Below B w (w.setCell ⟨b,j*6+i,none⟩ x):=by
 obtain⟨_,_,hB,hne⟩:=h.cell hs
 have hb:Below B w (w.setCell ⟨b,j*6+i,none⟩ x):=(Below.refl B w).setCell (by show _≤b;exact hB) _
 refine⟨⟨h.1.other _ _ (fun e=>hne e.symm),jcr h.2.1 hs hi hc,Nat.le_trans h.2.2.1 hb.size,h.2.2.2⟩,hb⟩
theorem jo7 (b o:Nat) (st x y:Int) (w:World) (c0:w.cell? ⟨b,o,none⟩=some (.int .i64 st)) (f0:w.frozen? ⟨b,o,none⟩=false) :
  Calls Tryz.prog 148 #[.pointer (some ⟨b,o,none⟩),.int .i64 x,.int .i64 y] w fun e w'=>(st=x∧e=.returned (.int .i64 0)∧w'=w.setCell ⟨b,o,none⟩ (.int .i64 y))∨(st≠x∧e=.returned (.int .i64 4)∧w'=w):=by
 by_cases h:st=x
 ·have h1:(st != x)=false:=by simp [h]
  have H:Hid (st=x):=h
  clear h
  go_enter Tryz.func148,Tryz.ntmps148
  go_wp2_with fail
  go_ret
  exact Or.inl ⟨H.out,rfl,rfl⟩
 ·have h1:(st != x)=true:=by simp [h]
  have H:Hid (st≠x):=h
  clear h
  go_enter Tryz.func148,Tryz.ntmps148
  go_wp2_with fail
  go_ret
  exact Or.inr ⟨H.out,rfl,rfl⟩
def ji6 (st si long now:Int):Prop:=(1≤long∧long≤300)∧(st=3→si+long≤300∧now < si+long)
theorem jkm (b o:Nat) (st lg si long now:Int) (w:World) (c0:w.cell? ⟨b,o,none⟩=some (.int .i64 st)) (c2:w.cell? ⟨b,o+2,none⟩=some (.int .i64 lg)) (c4:w.cell? ⟨b,o+4,none⟩=some (.int .i64 si)) (f2:w.frozen? ⟨b,o+2,none⟩=false) (hsi:st=3→0≤si) :
  Calls Tryz.prog 149 #[.pointer (some ⟨b,o,none⟩),.int .i64 long,.int .i64 now] w fun e w'=>(ji6 st si long now∧e=.returned (.int .i64 0)∧w'=w.setCell ⟨b,o+2,none⟩ (.int .i64 long))∨(¬ ji6 st si long now∧e=.returned (.int .i64 2)∧w'=w):=by
 rcases jbz long 1 300 with b1|b1
 case inr =>
  have NO:Hid (¬ ji6 st si long now):=fun h=>jb0 b1 h.1
  have S0:Hid (0≤(0:Int)∧1≤(1:Int)∧(1:Int)≤300):=⟨by omega,by omega,by omega⟩
  go_enter Tryz.func149,Tryz.ntmps149
  go_wp2_with (first|(go_at_call 146;refine(jbr _ _).mono ?_;rintro e w' ⟨rfl,rfl⟩)|(go_at_call 176;refine(je1 _ _ _ _ S0.out.1 S0.out.2.1 S0.out.2.2).mono ?_;rintro e w' ⟨rfl,rfl⟩))
  go_ret
  exact Or.inr ⟨NO.out,rfl,rfl⟩
 have hl:=jba b1
 by_cases h3:st=3
 ·have S0:Hid (0≤si∧1≤long∧long≤300):=⟨hsi h3,hl.1,hl.2⟩
  subst h3
  by_cases hL:si+long≤300∧now < si+long
  ·have b2:jg5 si long now=true:=by unfold jg5;simp [hL.1,hL.2]
   have Y:Hid (ji6 3 si long now):=⟨hl,fun _=>hL⟩
   clear hL hl
   go_enter Tryz.func149,Tryz.ntmps149
   go_wp2_with (first|(go_at_call 146;refine(jbr _ _).mono ?_;rintro e w' ⟨rfl,rfl⟩)|(go_at_call 176;refine(je1 _ _ _ _ S0.out.1 S0.out.2.1 S0.out.2.2).mono ?_;rintro e w' ⟨rfl,rfl⟩))
   go_ret
   exact Or.inl ⟨Y.out,rfl,rfl⟩
  ·have b2:jg5 si long now=false:=by
    cases e:jg5 si long now
    ·rfl
    ·unfold jg5 at e
     simp at e
     exact absurd e hL
   have NO:Hid (¬ ji6 3 si long now):=fun h=>hL (h.2 rfl)
   clear hL hl
   go_enter Tryz.func149,Tryz.ntmps149
   go_wp2_with (first|(go_at_call 146;refine(jbr _ _).mono ?_;rintro e w' ⟨rfl,rfl⟩)|(go_at_call 176;refine(je1 _ _ _ _ S0.out.1 S0.out.2.1 S0.out.2.2).mono ?_;rintro e w' ⟨rfl,rfl⟩))
   go_ret
   exact Or.inr ⟨NO.out,rfl,rfl⟩
 ·have b3:(st == 3)=false:=by simp [h3]
  have S0:Hid (0≤(0:Int)∧1≤(1:Int)∧(1:Int)≤300):=⟨by omega,by omega,by omega⟩
  have Y:Hid (ji6 st si long now):=⟨hl,fun h=>absurd h h3⟩
  clear h3 hl
  go_enter Tryz.func149,Tryz.ntmps149
  go_wp2_with (first|(go_at_call 146;refine(jbr _ _).mono ?_;rintro e w' ⟨rfl,rfl⟩)|(go_at_call 176;refine(je1 _ _ _ _ S0.out.1 S0.out.2.1 S0.out.2.2).mono ?_;rintro e w' ⟨rfl,rfl⟩))
  go_ret
  exact Or.inl ⟨Y.out,rfl,rfl⟩
theorem jtl (g B:Nat) (q:Pt) (vs:Value) (kd a b c:Int) (w:World) (H:PQ B w g q vs) (hp:jaj q) (hk:kd=2∨kd=3∨kd=4∨kd=5) :
  Calls Tryz.prog 109 #[.pointer (some ⟨g,0,none⟩),.agg #[.int .i64 kd,.int .i64 a,.int .i64 b,.int .i64 c]] w fun e w'=>∃ er,e=.returned (.int .i64 er)∧Hid (∃ q',moveF q ⟨kd,a,b,c⟩=(er,q')∧PQ B w' g q' vs∧Below B w w'):=by
 have hbw:Below w.heap.size w (w.alloc (.cells #[.int .i64 kd,.int .i64 a,.int .i64 b,.int .i64 c] 61)):=(Below.refl _ w).alloc (Nat.le_refl _) _
 have H1:Hid (PQ B (w.alloc (.cells #[.int .i64 kd,.int .i64 a,.int .i64 b,.int .i64 c] 61)) g q vs):=H.later hbw
 have O1:Hid (OBox (w.alloc (.cells #[.int .i64 kd,.int .i64 a,.int .i64 b,.int .i64 c] 61)) w.heap.size ⟨kd,a,b,c⟩):=OBox.new w ⟨kd,a,b,c⟩
 have B1:Hid (Below B w (w.alloc (.cells #[.int .i64 kd,.int .i64 a,.int .i64 b,.int .i64 c] 61))):=hbw.mono H.2.2.1
 have HP:Hid (jaj q):=hp
 obtain⟨xs,cap,rfl⟩:=jan H.2.1
 have hlen:=hp.port.len
 have gap:g≠w.heap.size:=by have:=H.1.lt;omega
 clear H hbw hp
 generalize hGO:w.heap.size=go at *
 generalize hWA:w.alloc (.cells #[.int .i64 kd,.int .i64 a,.int .i64 b,.int .i64 c] 61)=WA at *
 rcases jbz a 0 ((q.ships.length:Int) - 1) with b1|b1
 case inr =>
  have M:Hid (moveF q ⟨kd,a,b,c⟩=(3,q)):=by show _=_;unfold moveF;rw [if_neg (jb0 b1)]
  have hwr:IntKind.i64.wrap ((q.ships.length:Int) - 1)=(q.ships.length:Int) - 1:=jbk (by omega) (by omega)
  obtain⟨pc0,pc1,pc14,pc15⟩:=H1.out.1.cells
  obtain⟨oc0,oc1,oc2,oc3⟩:=O1.out.cells
  simp only at oc0 oc1 oc2 oc3
  have D:Hid (PQ B WA.drew g q (.slice xs q.ships.length cap)∧Below B w WA.drew):=⟨H1.out.later ((Below.refl _ _).drew),B1.out.drew⟩
  go_enter Tryz.func109,Tryz.ntmps109
  go_wp2_with fail
  go_region_held (fun w'=>w'.cell? ⟨g,1,none⟩=some (.slice xs q.ships.length cap)∧w'.cell? ⟨go,1,none⟩=some (.int .i64 a)) (go_keep) (first|(go_at_call 107;refine(jb5 _ _ _ _).mono ?_;rintro e w' ⟨rfl,rfl⟩))
  all_goals go_wp2_with fail
  go_ret
  exact⟨_,rfl,⟨q,M.out,D.out⟩⟩
 have ha:=jba b1
 obtain⟨j,rfl⟩:∃ j:Nat,a=j:=⟨a.toNat,by omega⟩
 have hj:j < q.ships.length:=by omega
 obtain⟨s,hs⟩:∃ s,q.ships[j]?=some s:=⟨q.ships[j],List.getElem?_eq_getElem hj⟩
 have HS:Hid (q.ships[j]?=some s∧shp q j=s):=⟨hs,jbj hs⟩
 have HM:Hid (moveF q ⟨kd,j,b,c⟩=((moveS s kd b q.now).1,setS q j (moveS s kd b q.now).2)):=by
  show _=_
  unfold moveF
  rw [if_pos ha]
  show((moveS (shp q (j:Int).toNat) kd b q.now).1,setS q (j:Int).toNat (moveS (shp q (j:Int).toNat) kd b q.now).2)=_
  rw [Int.toNat_natCast,jbj hs]
 have HSH:=(HP.out.port.ship s (List.mem_of_getElem? hs)).1
 obtain⟨bb,rfl⟩:∃ bb,xs=some ⟨bb,0,none⟩:=by
  obtain⟨bb,c',e,_⟩:=OwnK.ofRow H1.out.2.1 (by intro e;injection e with _ e _;omega)
  injection e with e1 e2 e3
  exact⟨bb,e1⟩
 have hwr:IntKind.i64.wrap ((q.ships.length:Int) - 1)=(q.ships.length:Int) - 1:=jbk (by omega) (by omega)
 obtain⟨pc0,pc1,pc14,pc15⟩:=H1.out.1.cells
 obtain⟨oc0,oc1,oc2,oc3⟩:=O1.out.cells
 simp only at oc0 oc1 oc2 oc3
 have hj3:(j:Int) < (q.ships.length:Int):=by omega
 have hj4:(0:Int)≤(j:Int):=by omega
 go_enter Tryz.func109,Tryz.ntmps109
 go_wp2_with fail
 go_region_held (fun w'=>w'.cell? ⟨g,1,none⟩=some (.slice (some ⟨bb,0,none⟩) q.ships.length cap)∧w'.cell? ⟨go,1,none⟩=some (.int .i64 (j:Int))) (go_keep) (first|(go_at_call 107;refine(jb5 _ _ _ _).mono ?_;rintro e w' ⟨rfl,rfl⟩))
 all_goals go_wp2_with fail
 have E1:Hid (PQ B WA.drew g q (.slice (some ⟨bb,0,none⟩) q.ships.length cap)∧OBox WA.drew go ⟨kd,j,b,c⟩∧Below B w WA.drew):=⟨H1.out.later ((Below.refl _ _).drew),O1.out.later ((Below.refl _ _).drew) O1.out.lt,B1.out.drew⟩
 clear pc0 pc1 pc14 pc15 oc0 oc1 oc2 oc3 H1 O1 B1 b1
 generalize WA.drew=W1 at *
 obtain⟨pc0,pc1,pc14,pc15⟩:=E1.out.1.1.cells
 obtain⟨oc0,oc1,oc2,oc3⟩:=E1.out.2.1.cells
 simp only at oc0 oc1 oc2 oc3
 go_region
 all_goals go_upto_region 4 with fail
 have E2:Hid (PQ B W1.drew g q (.slice (some ⟨bb,0,none⟩) q.ships.length cap)∧OBox W1.drew go ⟨kd,j,b,c⟩∧Below B w W1.drew):=⟨E1.out.1.later ((Below.refl _ _).drew),E1.out.2.1.later ((Below.refl _ _).drew) E1.out.2.1.lt,E1.out.2.2.drew⟩
 clear pc0 pc1 pc14 pc15 oc0 oc1 oc2 oc3 E1
 generalize W1.drew=W2 at *
 obtain⟨⟨c0,c2,c4⟩,fz,hBb,hne⟩:=E2.out.1.cell HS.out.1
 have f0:=fz (j*6)
 have f2:=fz (j*6+2)
 have f4:=fz (j*6+4)
 obtain⟨oc0,oc1,oc2,oc3⟩:=E2.out.2.1.cells
 simp only at oc0 oc1 oc2 oc3
 clear fz
 by_cases h4:s.st=4
 ·have M:Hid (moveF q ⟨kd,j,b,c⟩=(4,q)):=by
   show _=_
   rw [HM.out]
   unfold moveS
   rw [if_pos h4,← HS.out.2,jfr]
  rw [h4] at c0
  go_wp2_with fail
  go_ret
  exact⟨_,rfl,⟨q,M.out,E2.out.1,E2.out.2.2⟩⟩
 have hb4:(s.st == 4)=false:=by simp [h4]
 rcases hk with rfl|rfl|rfl|rfl
 ·have M:Hid (moveF q ⟨2,j,b,c⟩=(0,setS q j (outS s))):=by
   show _=_
   rw [HM.out]
   unfold moveS
   rw [if_neg h4,if_pos rfl]
  have D:Hid (PQ B ((W2.setCell ⟨bb,j*6,none⟩ (.int .i64 4)).setCell ⟨bb,j*6+4,none⟩ (.int .i64 0)) g (setS q j (outS s)) (.slice (some ⟨bb,0,none⟩) q.ships.length cap)∧Below B w ((W2.setCell ⟨bb,j*6,none⟩ (.int .i64 4)).setCell ⟨bb,j*6+4,none⟩ (.int .i64 0))):=by
   have h1:=E2.out.1.one (i:=0) HS.out.1 (by decide) (s':={ s with st:=4 }) (x:=.int .i64 4) rfl
   have h2:=h1.1.one (i:=4) (j:=j) (s:={ s with st:=4 }) (by unfold setS;exact List.getElem?_set_self hj) (by decide) (s':=outS s) (x:=.int .i64 0) rfl
   have e:setS (setS q j { s with st:=4 }) j (outS s)=setS q j (outS s):=by unfold setS;simp only [List.set_set]
   rw [e] at h2
   exact⟨h2.1,(E2.out.2.2.trans h1.2).trans h2.2⟩
  clear h4
  go_wp2_with (first|(go_at_call 85;refine(jki bb (j*6) _ _ _ c0 c4 f0 f4).mono ?_;rintro e w8 ⟨rfl,rfl⟩))
  go_ret
  exact⟨_,rfl,⟨_,M.out,D.out⟩⟩
 ·have M:Hid (moveF q ⟨3,j,b,c⟩=((turnF s 1 2).1,setS q j (turnF s 1 2).2)):=by
   show _=_
   rw [HM.out]
   unfold moveS
   rw [if_neg h4,if_neg (by decide),if_pos rfl]
  clear h4
  go_wp2_with (first|(go_at_call 148;refine(jo7 bb (j*6) _ _ _ _ c0 f0).mono ?_;rintro e w8 (⟨ht,rfl,rfl⟩|⟨ht,rfl,rfl⟩)))
  ·go_ret
   have hF:turnF s 1 2=(0,{ s with st:=2 }):=by unfold turnF;rw [if_pos ht]
   have h1:=E2.out.1.one (i:=0) HS.out.1 (by decide) (s':={ s with st:=2 }) (x:=.int .i64 2) rfl
   have m:=M.out
   rw [hF] at m
   exact⟨_,rfl,⟨_,m,h1.1,E2.out.2.2.trans h1.2⟩⟩
  ·go_wp2_with fail
   go_ret
   have hF:turnF s 1 2=(4,s):=by unfold turnF;rw [if_neg ht]
   have m:=M.out
   rw [hF,← HS.out.2,jfr] at m
   exact⟨_,rfl,⟨_,m,E2.out.1,E2.out.2.2⟩⟩
 ·have M:Hid (moveF q ⟨4,j,b,c⟩=((turnF s 2 1).1,setS q j (turnF s 2 1).2)):=by
   show _=_
   rw [HM.out]
   unfold moveS
   rw [if_neg h4,if_neg (by decide),if_neg (by decide),if_pos rfl]
  clear h4
  go_wp2_with (first|(go_at_call 148;refine(jo7 bb (j*6) _ _ _ _ c0 f0).mono ?_;rintro e w8 (⟨ht,rfl,rfl⟩|⟨ht,rfl,rfl⟩)))
  ·go_ret
   have hF:turnF s 2 1=(0,{ s with st:=1 }):=by unfold turnF;rw [if_pos ht]
   have h1:=E2.out.1.one (i:=0) HS.out.1 (by decide) (s':={ s with st:=1 }) (x:=.int .i64 1) rfl
   have m:=M.out
   rw [hF] at m
   exact⟨_,rfl,⟨_,m,h1.1,E2.out.2.2.trans h1.2⟩⟩
  ·go_wp2_with fail
   go_ret
   have hF:turnF s 2 1=(4,s):=by unfold turnF;rw [if_neg ht]
   have m:=M.out
   rw [hF,← HS.out.2,jfr] at m
   exact⟨_,rfl,⟨_,m,E2.out.1,E2.out.2.2⟩⟩
 ·have M:Hid (moveF q ⟨5,j,b,c⟩=((jdb s b q.now).1,setS q j (jdb s b q.now).2)):=by
   show _=_
   rw [HM.out]
   unfold moveS
   rw [if_neg h4,if_neg (by decide),if_neg (by decide),if_neg (by decide)]
  obtain⟨pc0,pc1,pc14,pc15⟩:=E2.out.1.1.cells
  have hgo:go≠bb:=by
   rintro rfl
   have h1:OBox W2 go ⟨5,j,b,c⟩:=E2.out.2.1
   obtain⟨b',c',e,ho⟩:=OwnK.ofRow E2.out.1.2.1 (by intro e;cases e)
   injection e with e1 e2 e3
   injection e1 with e1
   injection e1 with e1
   subst e1
   obtain⟨cur,h2,_⟩:=ho.row
   have e:=h2.symm.trans h1
   injection e with e
   injection e with _ e
   exact absurd e (by decide)
  have hne2:g≠bb:=fun e=>hne e.symm
  by_cases hok:ji6 s.st s.si b q.now
  ·have hF:jdb s b q.now=(0,{ s with lg:=b }):=by unfold jdb;exact if_pos hok
   have HC:∀ W,W.cell? ⟨bb,j*6,none⟩=some (.int .i64 s.st)→W.cell? ⟨bb,j*6+2,none⟩=some (.int .i64 s.lg)→W.cell? ⟨bb,j*6+4,none⟩=some (.int .i64 s.si)→W.frozen? ⟨bb,j*6+2,none⟩=false→Calls Tryz.prog 149 #[.pointer (some ⟨bb,j*6,none⟩),.int .i64 b,.int .i64 q.now] W fun e w'=>e=.returned (.int .i64 0)∧w'=W.setCell ⟨bb,j*6+2,none⟩ (.int .i64 b):=fun W k0 k2 k4 kf=>(jkm bb (j*6) s.st s.lg s.si b q.now W k0 k2 k4 kf (fun h=>(HSH.lies h).1)).mono (by
    rintro e w' (⟨_,h1,h2⟩|⟨h,_⟩)
    ·exact⟨h1,h2⟩
    ·exact absurd hok h)
   have h1:=E2.out.1.one (i:=2) HS.out.1 (by decide) (s':={ s with lg:=b }) (x:=.int .i64 b) rfl
   have m:=M.out
   rw [hF] at m
   have D:Hid (moveF q ⟨5,j,b,c⟩=(0,setS q j { s with lg:=b })∧PQ B (W2.setCell ⟨bb,j*6+2,none⟩ (.int .i64 b)) g (setS q j { s with lg:=b }) (.slice (some ⟨bb,0,none⟩) q.ships.length cap)∧Below B w (W2.setCell ⟨bb,j*6+2,none⟩ (.int .i64 b))):=⟨m,h1.1,E2.out.2.2.trans h1.2⟩
   have HCd:=HC W2.drew c0 c2 c4 f2
   have ob:OBox (W2.setCell ⟨bb,j*6+2,none⟩ (.int .i64 b)) go ⟨5,j,b,c⟩:=by unfold OBox;rw [Below.heap_setCell _ _ _ _ (by show go≠bb;exact hgo)];exact E2.out.2.1
   have sb2:(W2.setCell ⟨bb,j*6+2,none⟩ (.int .i64 b)).drew.cell? ⟨go,2,none⟩=some (.int .i64 b):=ob.cells.2.2.1
   have sb0:(W2.setCell ⟨bb,j*6+2,none⟩ (.int .i64 b)).drew.cell? ⟨g,0,none⟩=some (.int .i64 q.now):=h1.1.1.cells.1
   clear h4 hok hF m h1 M HC ob
   go_wp2_with fail
   go_region_held (fun w'=>w'.cell? ⟨go,2,none⟩=some (.int .i64 b)∧w'.cell? ⟨g,0,none⟩=some (.int .i64 q.now)) (go_keep) (first|(go_at_call 149;refine HCd.mono ?_;rintro e w8 ⟨rfl,rfl⟩))
   all_goals go_wp2_with fail
   go_ret
   exact⟨_,rfl,⟨_,D.out.1,D.out.2.1.later ((Below.refl _ _).drew),D.out.2.2.drew⟩⟩
  ·have hF:jdb s b q.now=(2,s):=by unfold jdb;exact if_neg hok
   have HC:∀ W,W.cell? ⟨bb,j*6,none⟩=some (.int .i64 s.st)→W.cell? ⟨bb,j*6+2,none⟩=some (.int .i64 s.lg)→W.cell? ⟨bb,j*6+4,none⟩=some (.int .i64 s.si)→W.frozen? ⟨bb,j*6+2,none⟩=false→Calls Tryz.prog 149 #[.pointer (some ⟨bb,j*6,none⟩),.int .i64 b,.int .i64 q.now] W fun e w'=>e=.returned (.int .i64 2)∧w'=W:=fun W k0 k2 k4 kf=>(jkm bb (j*6) s.st s.lg s.si b q.now W k0 k2 k4 kf (fun h=>(HSH.lies h).1)).mono (by
    rintro e w' (⟨h,_⟩|⟨_,h1,h2⟩)
    ·exact absurd h hok
    ·exact⟨h1,h2⟩)
   have m:=M.out
   rw [hF,← HS.out.2,jfr] at m
   have D:Hid (moveF q ⟨5,j,b,c⟩=(2,q)):=m
   have HCd:=HC W2.drew c0 c2 c4 f2
   clear h4 hok hF m M HC
   go_wp2_with fail
   go_region_held (fun w'=>w'.cell? ⟨go,2,none⟩=some (.int .i64 b)∧w'.cell? ⟨g,0,none⟩=some (.int .i64 q.now)) (go_keep) (first|(go_at_call 149;refine HCd.mono ?_;rintro e w8 ⟨rfl,rfl⟩))
   all_goals go_wp2_with fail
   go_ret
   exact⟨_,rfl,⟨_,D.out,E2.out.1.later ((Below.refl _ _).drew),E2.out.2.2.drew⟩⟩
def jns (q:Pt) (o:Ord) (n er:Int) (q':Pt):Prop:=n=0∧moveF q o=(er,q')
theorem jmu (g B:Nat) (q:Pt) (vs:Value) (kd a b c:Int) (w:World) (H:PQ B w g q vs) (hp:jaj q) (hk:kd=2∨kd=3∨kd=4∨kd=5) :
  Calls Tryz.prog 87 #[.pointer (some ⟨g,0,none⟩),.agg #[.int .i64 kd,.int .i64 a,.int .i64 b,.int .i64 c]] w fun e w'=>∃ n er,e=.returned (.tuple #[.int .i64 n,.int .i64 er])∧Hid (∃ q' vs',jns q ⟨kd,a,b,c⟩ n er q'∧PQ B w' g q' vs'∧Below B w w'):=by
 have hbw:Below w.heap.size w (w.alloc (.cells #[.int .i64 kd,.int .i64 a,.int .i64 b,.int .i64 c] 61)):=(Below.refl _ w).alloc (Nat.le_refl _) _
 have HC:=jtl g B q vs kd a b c (w.alloc (.cells #[.int .i64 kd,.int .i64 a,.int .i64 b,.int .i64 c] 61)) (H.later hbw) hp hk
 have HB:Hid (Below B w (w.alloc (.cells #[.int .i64 kd,.int .i64 a,.int .i64 b,.int .i64 c] 61))):=hbw.mono H.2.2.1
 have O1:Hid (OBox (w.alloc (.cells #[.int .i64 kd,.int .i64 a,.int .i64 b,.int .i64 c] 61)) w.heap.size ⟨kd,a,b,c⟩):=OBox.new w ⟨kd,a,b,c⟩
 have DO:Hid (∀ w1 er,Hid (∃ q',moveF q ⟨kd,a,b,c⟩=(er,q')∧PQ B w1 g q' vs∧Below B (w.alloc (.cells #[.int .i64 kd,.int .i64 a,.int .i64 b,.int .i64 c] 61)) w1)→Hid (∃ q' vs',jns q ⟨kd,a,b,c⟩ 0 er q'∧PQ B w1 g q' vs'∧Below B w w1)):=fun w1 er h=>by
  obtain⟨q',d1,d2,d3⟩:=h.out
  exact⟨q',vs,⟨rfl,d1⟩,d2,HB.out.trans d3⟩
 clear H hbw hp HB
 generalize hWA:w.alloc (.cells #[.int .i64 kd,.int .i64 a,.int .i64 b,.int .i64 c] 61)=WA at *
 generalize hgo:w.heap.size=go at *
 obtain⟨oc0,oc1,oc2,oc3⟩:=O1.out.cells
 simp only at oc0 oc1 oc2 oc3
 rcases hk with rfl|rfl|rfl|rfl
 all_goals
  go_enter Tryz.func87,Tryz.ntmps87
  go_wp2_with fail
  refine HC.mono ?_
  rintro e w1 ⟨er,rfl,hw1⟩
  have D:=DO.out w1 er hw1
  clear HC DO hw1
  go_wp2_with fail
  go_ret2
  exact⟨_,_,rfl,D⟩
end Go.Proofs.YtcmdoeledmkfmacGreatDoor
namespace Go.Proofs.YtcmdoeledmkfmacGreatDoor
structure Ahead (p q:Pt) (n:Nat):Prop where
 now:p.now=q.now
 base:∀ t,ja3 p t=ja3 q t
 lt:n < q.ships.length
 le:p.ships.length≤q.ships.length
 same:∀ i,i≠n→shp q i=shp p i∧(i < q.ships.length→i < p.ships.length)
 old:n < p.ships.length→(shp p n).cl=(shp q n).cl∧(shp p n).qu=(shp q n).qu
theorem Ahead.plan {p q:Pt} {n:Nat} {x y:List Int} (h:Ahead p q n) (h0:0≤p.now) (hx:jbd p x) (hy:jbd q y) {i:Nat} (hi:i < p.ships.length) (hw:(shp p i).st=1) (hb:before (shp p i) (shp q n)):x.getD i (-1)=y.getD i (-1):=by
 have ne:∀ j,j < p.ships.length→before (shp p j) (shp q n)→j≠n:=fun j hj hb e=>by
  subst e
  have:=h.old hj
  unfold before at hb
  omega
 refine jqf (shp q n) h.now h0 (fun t _ _=>h.base t) (fun j hj=>?_) (fun j hj=>?_) hx hy hi hw hb
 ·have hn:=ne j hj.2.1 hj.1
  have:=h.le
  exact⟨(h.same j hn).1,by have:=hj.2.1;omega⟩
 ·have hn:j≠n:=fun e=>by
   have h1:=hj.1
   rw [e] at h1
   exact jdp h1 h1
  exact⟨(h.same j hn).1,(h.same j hn).2 hj.2.1⟩
theorem jkz (p:Pt) (j:Nat) (s:Ship):(setS p j s).ships.length=p.ships.length:=by unfold setS;simp
theorem jq2 (p:Pt) (s:Ship) (nx:Int) (h2:s.st≠3):Ahead p { p with ships:=p.ships++[s],next:=nx } p.ships.length:=by
 refine⟨rfl,fun t=>?_,by simp,by simp,fun i hi=>⟨?_,fun h=>?_⟩,fun h=>absurd h (Nat.lt_irrefl _)⟩
 ·unfold ja3
  show _=16 - p.shut - (if p.now≤t then ja8 (p.ships++[s]) t+jbh p.kept t else 0)
  have:jdn s t=0:=by unfold jdn;rw [if_neg (fun h=>h2 h.1)]
  rw [jht,this]
  simp
 ·unfold shp
  simp only
  rw [List.getD_eq_getElem?_getD,List.getD_eq_getElem?_getD]
  rcases Nat.lt_or_ge i p.ships.length with h|h
  ·rw [List.getElem?_append_left h]
  ·rw [List.getElem?_eq_none (by simp;omega),List.getElem?_eq_none h]
 ·simp at h
  omega
def RankR (p:Pt) (kd a b c n er:Int) (q:Pt):Prop:=(kd=1∧jf1 p a b c n er q)∨((kd=2∨kd=3∨kd=5)∧jns p ⟨kd,a,b,c⟩ n er q)
theorem jtb {p:Pt} {kd a b c n er:Int} {q:Pt} (hp:jaj p) (h:RankR p kd a b c n er q):WfQ q∧q.ships.length≤100:=by
 have hl:=hp.port.len
 have hnx:=hp.port.next
 rcases h with ⟨_,h⟩|⟨_,_,h⟩
 ·rcases h with ⟨_,_,_,rfl⟩|⟨_,_,_,_,rfl⟩|⟨_,_,_,_,_,rfl⟩
  ·exact⟨WfQ.of hp,by omega⟩
  ·exact⟨WfQ.of hp,by omega⟩
  ·refine⟨fun s hs=>?_,by simp;omega⟩
   rcases List.mem_append.1 hs with hs|hs
   ·exact WfQ.of hp s hs
   ·have:s=⟨1,a,b,c,0,p.next⟩:=by simpa using hs
    subst this
    show(Lit.int .i64 p.next).wf=true
    simp [Lit.wf,IntKind.min,IntKind.max,IntKind.signed,IntKind.bits]
    omega
 ·unfold moveF at h
  split at h
  ·rename_i ha
   have hq:q=setS p a.toNat (moveS (shp p a.toNat) kd b p.now).2:=(Prod.mk.inj h).2.symm
   subst hq
   refine⟨fun s hs=>?_,by rw [jkz];omega⟩
   have hm:∀ s:Ship,(moveS s kd b p.now).2.qu=s.qu:=fun s=>by
    unfold moveS turnF jdb outS
    repeat' split
    all_goals rfl
   rcases List.mem_or_eq_of_mem_set hs with h1|h1
   ·exact WfQ.of hp s h1
   ·rw [h1,hm]
    have ha':a.toNat < p.ships.length:=by simp only at ha;omega
    rw [jbj (List.getElem?_eq_getElem ha')]
    exact WfQ.of hp _ (List.getElem_mem ha')
  ·have hq:q=p:=(Prod.mk.inj h).2.symm
   subst hq
   exact⟨WfQ.of hp,by omega⟩
end Go.Proofs.YtcmdoeledmkfmacGreatDoor
