/- Texts of this claim, in one: PTellM RefDue RefLate RefTell0 RefTellT RefTellM. -/
import Derived.Lib.Bytealg
import Derived.Maps.StringElems
import Derived.Laws.IdiomStrings
import Derived.Test.YtcmdoeledmkfmacGreatDoorSH
import Derived.Test.YtcmdoeledmkfmacGreatDoorSB
import Derived.Test.YtcmdoeledmkfmacGreatDoorS8
import Derived.Test.YtcmdoeledmkfmacGreatDoorS9
import Derived.Test.YtcmdoeledmkfmacGreatDoorYPFar
import Derived.Test.YtcmdoeledmkfmacGreatDoorS6
import Derived.Test.YtcmdoeledmkfmacGreatDoorSC
set_option linter.unusedSimpArgs false
set_option linter.unusedVariables false
set_option maxHeartbeats 40000000
set_option maxRecDepth 100000
namespace Go.Proofs.YtcmdoeledmkfmacGreatDoor
open Go.RowKit
theorem jii {k:Kp}:isNo k=true↔k.wd=0∧k.fr=0∧k.to=0:=by unfold isNo;exact decide_eq_true_iff
theorem jqh {p:Pt} {i:Nat} {s:Ship} (hp:ja4 p) (hi:i < p.ships.length) (hs:jce s p.now) (hq:s.qu=(shp p i).qu):ja4 (setS p i s):=by
 have hq2:=(jhs hp i hi).2
 refine⟨hp.now,hp.shut,by rw [jkz];exact hp.len,hp.next,fun r hr=>?_,fun a b r t hab hr ht=>?_,hp.four,hp.kept⟩
 ·rcases List.mem_or_eq_of_mem_set (show r∈p.ships.set i s from hr) with h|h
  ·exact hp.ship r h
  ·subst h
   exact⟨hs,by rw [hq];exact hq2⟩
 ·have old:∀ (c:Nat) (x:Ship),(p.ships.set i s)[c]?=some x→∃ y,p.ships[c]?=some y∧y.qu=x.qu:=fun c x hx=>by
   by_cases e:c=i
   ·subst e
    rw [List.getElem?_set_self hi] at hx
    injection hx with hx
    subst hx
    exact⟨p.ships[c],List.getElem?_eq_getElem hi,by rw [hq,jbj (List.getElem?_eq_getElem hi)]⟩
   ·rw [List.getElem?_set_ne (fun h=>e h.symm)] at hx
    exact⟨x,hx,rfl⟩
  obtain⟨r',hr',e1⟩:=old a r hr
  obtain⟨t',ht',e2⟩:=old b t ht
  rw [← e1,← e2]
  exact hp.once a b r' t' hab hr' ht'
theorem jqo {s:Ship} {kd b now:Int} (h:jce s now) (h0:(moveS s kd b now).1=0):jce (moveS s kd b now).2 now∧(moveS s kd b now).2.qu=s.qu:=by
 unfold moveS at h0 ⊢
 split at h0
 ·cases h0
 ·rename_i h4
  rw [if_neg h4]
  split at h0
  ·rename_i k2
   rw [if_pos k2]
   exact⟨⟨⟨by show(1:Int)≤4;decide,by show(4:Int)≤4;decide⟩,h.wd,h.lg,h.cl,h.qu,fun h=>absurd h (by show ¬ ((4:Int)=3);decide),fun _=>rfl⟩,rfl⟩
  ·rename_i k2
   rw [if_neg k2]
   split at h0
   ·rename_i k3
    rw [if_pos k3]
    unfold turnF at h0 ⊢
    split at h0
    ·rename_i hs
     rw [if_pos hs]
     exact⟨⟨⟨by show(1:Int)≤2;decide,by show(2:Int)≤4;decide⟩,h.wd,h.lg,h.cl,h.qu,fun h=>absurd h (by show ¬ ((2:Int)=3);decide),fun _=>h.else_ (by rw [hs];decide)⟩,rfl⟩
    ·cases h0
   ·rename_i k3
    rw [if_neg k3]
    split at h0
    ·rename_i k4
     rw [if_pos k4]
     unfold turnF at h0 ⊢
     split at h0
     ·rename_i hs
      rw [if_pos hs]
      exact⟨⟨⟨by show(1:Int)≤1;decide,by show(1:Int)≤4;decide⟩,h.wd,h.lg,h.cl,h.qu,fun h=>absurd h (by show ¬ ((1:Int)=3);decide),fun _=>h.else_ (by rw [hs];decide)⟩,rfl⟩
     ·cases h0
    ·rename_i k4
     rw [if_neg k4]
     unfold jdb at h0 ⊢
     split at h0
     ·rename_i hc
      rw [if_pos hc]
      refine⟨⟨h.st,h.wd,hc.1,h.cl,h.qu,fun h3=>?_,h.else_⟩,rfl⟩
      have a:=h.lies h3
      have b:=hc.2 h3
      exact⟨a.1,a.2.1,b.2,b.1⟩
     ·cases h0
theorem jj7 {p:Pt} {j:Nat} {k:Kp} (hp:ja4 p) (hk:jb2 k):ja4 { p with kept:=p.kept.set j k } :=
 ⟨hp.now,hp.shut,hp.len,hp.next,hp.ship,hp.once,by show(p.kept.set j k).length=4;rw [List.length_set];exact hp.four,fun x hx=>by
  rcases List.mem_or_eq_of_mem_set (show x∈p.kept.set j k from hx) with h|h
  ·exact hp.kept x h
  ·subst h;exact hk⟩
theorem jbl {p:Pt} {o:Ord} {n:Int} {q:Pt} (hp:jaj p) (h:jai p o n 0 q):ja4 q:=by
 have h0:=hp.port
 unfold jai at h
 split at h
 ·rcases h with ⟨_,h,_⟩|⟨_,_,h,_⟩|⟨⟨ha,hb,hc⟩,hl,hn,_,_,rfl⟩
  ·cases h
  ·cases h
  ·refine⟨h0.now,h0.shut,by simp;omega,⟨by have:=h0.next.1;show 0≤p.next+1;omega,by show p.next+1≤_;omega⟩,fun s hs=>?_,fun i j r s hij hr hs=>?_,h0.four,h0.kept⟩
   ·rcases List.mem_append.1 hs with hs|hs
    ·have:=h0.ship s hs
     exact⟨this.1,by have:=this.2;show s.qu < p.next+1;omega⟩
    ·have:s=⟨1,o.a,o.b,o.c,0,p.next⟩:=by simpa using hs
     subst this
     exact⟨⟨⟨by show(1:Int)≤1;decide,by show(1:Int)≤4;decide⟩,ha,hb,hc,h0.next.1,fun h=>absurd h (by show ¬ ((1:Int)=3);decide),fun _=>rfl⟩,by show p.next < p.next+1;omega⟩
   ·have hj:=(List.getElem?_eq_some_iff.1 hs).1
    have hr2:p.ships[i]?=some r:=by
     have:i < p.ships.length:=by simp at hj;omega
     rwa [List.getElem?_append_left this] at hr
    by_cases c:j < p.ships.length
    ·rw [List.getElem?_append_left c] at hs
     exact h0.once i j r s hij hr2 hs
    ·have hj2:j=p.ships.length:=by simp at hj;omega
     subst hj2
     rw [List.getElem?_append_right (Nat.le_refl _)] at hs
     simp at hs
     subst hs
     have:=(h0.ship r (List.mem_of_getElem? hr2)).2
     show r.qu≠p.next
     omega
 ·split at h
  ·obtain⟨_,h⟩:=h
   unfold moveF at h
   split at h
   ·rename_i ha
    have hq:q=setS p o.a.toNat (moveS (shp p o.a.toNat) o.kd o.b p.now).2:=(Prod.mk.inj h).2.symm
    have he:(moveS (shp p o.a.toNat) o.kd o.b p.now).1=0:=(Prod.mk.inj h).1
    subst hq
    have hi:o.a.toNat < p.ships.length:=by omega
    have:=jqo (jhs h0 _ hi).1 he
    exact jqh h0 hi this.1 this.2
   ·have:=(Prod.mk.inj h).1
    cases this
  ·split at h
   ·rcases h with ⟨_,h,_⟩|⟨_,_,h,_⟩|⟨hk,j,_,_,_,rfl⟩
    ·cases h
    ·cases h
    ·exact jj7 h0 (Or.inr ⟨hk.1,⟨hk.2.2.1,by have:=hk.2.2.2;show o.b≤300;omega⟩,hk.2.2.2.1,hk.2.2.2.2⟩)
   ·split at h
    ·rcases h with ⟨_,h,_⟩|⟨_,_,_,_,_,_,h,_⟩|⟨j,k,_,_,_,_,_,_,rfl⟩
     ·cases h
     ·cases h
     ·exact jj7 h0 (Or.inl ⟨rfl,rfl,rfl⟩)
    ·split at h
     ·obtain⟨_,⟨ha,_,rfl⟩|⟨_,h,_⟩⟩:=h
      ·exact⟨h0.now,ha,h0.len,h0.next,h0.ship,h0.once,h0.four,h0.kept⟩
      ·cases h
     ·obtain⟨_,h,_⟩:=h
      cases h
theorem jdw {q:Pt} (h:ja4 q):okTo q 300=true↔jaj q:=by
 unfold okTo
 rw [decide_eq_true_iff]
 constructor
 ·intro hb
  refine⟨h,fun t h0 h3=>?_⟩
  have:=hb t.toNat (by omega)
  rwa [show((t.toNat:Nat):Int)=t by omega] at this
 ·intro hq j hj
  exact hq.base j (by omega) (by omega)
theorem juv {w:World} {B:Nat} {e:TypeId} {size:Nat} {v:Value} {n:Nat} {xs:List Value} (h:w.ownsRow B e size v n xs) {j:Nat} {c:Array Value} {t:TypeId} {f:Nat×Nat} (hj:w.heap[j]?=some (.cells c t f)) (hne:t≠e):some j≠v.ownBlock:=by
 rcases h.2 with ⟨rfl,_⟩|⟨b,cap,cur,rfl,h1,h2,_⟩
 ·intro e;cases e
 ·intro e
  have e2:j=b:=by simpa [Value.ownBlock] using e
  subst e2
  have e3:=hj.symm.trans h2
  injection e3 with e3
  injection e3 with _ e3
  exact hne e3
theorem jpe {w:World} {B:Nat} {e:TypeId} {size:Nat} {v:Value} {n:Nat} {xs:List Value} (h:w.ownsRow B e size v n xs) {g:Nat} {c:Array Value} {t:TypeId} {f:Nat×Nat} (hg:w.heap[g]?=some (.cells c t f)) (hne:t≠e) (k:Nat) (x:Value):(w.setCell ⟨g,k,none⟩ x).ownsRow B e size v n xs:=by
 refine⟨h.1,?_⟩
 rcases h.2 with h0|⟨b,cap,cur,h0,h1,h2,h3⟩
 ·exact Or.inl h0
 ·refine Or.inr ⟨b,cap,cur,h0,h1,?_,h3⟩
  have hb:b≠g:=by
   rintro rfl
   have e3:=hg.symm.trans h2
   injection e3 with e3
   injection e3 with _ e3
   exact hne e3
  rw [Below.heap_setCell _ _ _ _ (by show b≠g;exact hb)]
  exact h2
theorem jqb {w w':World} {B B':Nat} {e e':TypeId} {size:Nat} {v v':Value} {n:Nat} {xs:List Value} (h:w.ownsRow B e size v n xs) {size' n':Nat} {xs':List Value} (h':w.ownsRow B' e' size' v' n' xs') (hne:e≠e') (hs:∀ j,j < w.heap.size→some j≠v'.ownBlock→w'.heap[j]?=w.heap[j]?):w'.ownsRow B e size v n xs:=by
 refine⟨h.1,?_⟩
 rcases h.2 with h0|⟨b,cap,cur,h0,h1,h2,h3⟩
 ·exact Or.inl h0
 ·exact Or.inr ⟨b,cap,cur,h0,h1,by rw [hs b (Array.getElem?_eq_some_iff.1 h2).1 (juv h' h2 hne)];exact h2,h3⟩
theorem jio {α:Type} {tS t:TypeId} {k bytes:Nat} {c:α→List Value} (T:TyOk tS t k bytes c) {w:World} {ops:Array Oper} {rest:List Oper} {o:Oper} {a:Act} {Q:Exit→Act→World→Prop} (hgd:o.guard=none) (x y:Operand)
  (ho:o.op=.call { callee:=.builtin .append,args:=#[x,y],argTypes:=#[tS,tS] }) (B:Nat) (v:Value) (m l:List α) (g off n cap:Nat)
  (hx:a.eval x=v) (hy:a.eval y=.slice (some ⟨g,off,none⟩) n cap) (hn:l.length=n) (hO:w.ownsRow B t k v m.length (jae c m)) (hr:RdK c w g off l) (hB:B≤w.heap.size) (hl:m.length+n≤maxLen) (hby:(m.length+n)*bytes≤140737488355328)
  (h:∀ v' w',Hid (w'.ownsRow B t k v' (m++l).length (jae c (m++l))∧Below B w w'∧∀ j,j < w.heap.size→some j≠v.ownBlock→w'.heap[j]?=w.heap[j]?)→wpList Tryz.prog ops Q rest (a.put o.dst v') w'):wpList Tryz.prog ops Q (o::rest) a w:=by
 obtain⟨i0,z,hi,hz,hs,hb,hzs⟩:=T.info
 subst hn
 refine wpList_append_own w hgd x y tS ho B t i0 z k bytes T.und hi hz hs hb hzs T.pos v m.length (jae c m) hx hO ⟨g,off,none⟩ l.length cap (jae c l) hy (ja6 T.enc l) (fun j u hu=>by rw [Addr.add_lit];exact hr j u hu) (jcx T.enc l) hl hby hB fun v' w' h1 h2 h3=>h v' w' ⟨?_,(Below.refl _ w).grown h2 hB (fun k hk=>(hO.lt k hk).1),fun j hj hne=>by obtain⟨_,_,_,_,h5⟩:=h2;exact h5 j hj hne⟩
 rw [jdc,List.length_append]
 exact h1
structure RDue (w:World) (p:Pt) (pl:List Int) (vn:Value) (j k:Nat) (W:World) (s6:Value):Prop where
 below:Below w.heap.size w W
 out:PBox W (w.heap.size+1) jaf (.slice none 0 0)
 q:PBox W w.heap.size p vn
 row:W.ownsRow (w.heap.size+1+1) 46 6 vn (dueTo p pl j).length (jae cShip (dueTo p pl j))
 who:W.ownsRow (w.heap.size+1+1) 3 1 s6 (ints (whoTo p pl k)).length (jae cInt (ints (whoTo p pl k)))
section
variable {w W W':World} {p:Pt} {pl:List Int} {vn s6:Value} {j k:Nat}
theorem RDue.later (h:RDue w p pl vn j k W s6) (hb:Below W.heap.size W W'):RDue w p pl vn j k W' s6 :=
 ⟨h.below.trans (hb.mono h.below.size),h.out.later hb h.out.lt,h.q.later hb h.q.lt,ownsRow_later h.row hb,ownsRow_later h.who hb⟩
theorem RDue.no (h:RDue w p pl vn j j W s6) (hd:dueB p pl j=false):RDue w p pl vn (j+1) (j+1) W s6 :=
 ⟨h.below,h.out,h.q,by rw [jpr hd];exact h.row,by rw [jkr hd];exact h.who⟩
theorem RDue.frozen {b n cn:Nat} (h:RDue w p pl (.slice (some ⟨b,0,none⟩) n cn) j k W s6) (i:Nat):W.frozen? ⟨b,i,none⟩=false:=by
 obtain⟨b',c,e,ho⟩:=OwnK.ofRow h.row (by intro e;cases e)
 injection e with e1 e2 e3
 injection e1 with e1
 injection e1 with e1
 subst e1
 exact ho.frozen i
theorem RDue.yes {b n cn:Nat} (h:RDue w p pl (.slice (some ⟨b,0,none⟩) n cn) j j W s6) (hj:j < p.ships.length) (hd:dueB p pl j=true) :
  RDue w p pl (.slice (some ⟨b,0,none⟩) n cn) (j+1) j ((W.setCell ⟨b,j*6,none⟩ (.int .i64 3)).setCell ⟨b,j*6+4,none⟩ (.int .i64 p.now)) s6:=by
 have hb0:=(h.row.lt b rfl).1
 have r1:=jcr (i:=0) h.row (jg7 hj) (by decide) (s':={ shp p j with st:=3 }) (x:=.int .i64 3) rfl
 have r2:=jcr (i:=4) r1 (List.getElem?_set_self (by rw [jd4];exact hj)) (by decide) (s':=inS p.now (shp p j)) (x:=.int .i64 p.now) rfl
 have el:((dueTo p pl j).set j { shp p j with st:=3 }).set j (inS p.now (shp p j))=dueTo p pl (j+1):=by rw [List.set_set,jnd hj hd]
 rw [el] at r2
 obtain⟨b',c',e',ho⟩:=OwnK.ofRow h.row (by intro e;cases e)
 injection e' with e1 e2 e3
 injection e1 with e1
 injection e1 with e1
 subst e1
 obtain⟨cur,hcur,_⟩:=ho.row
 refine⟨?_,?_,?_,r2,?_⟩
 ·exact(h.below.setCell (p:=⟨b,j*6,none⟩) (by show _≤b;omega) _).setCell (p:=⟨b,j*6+4,none⟩) (by show _≤b;omega) _
 ·exact(h.out.other (g':=b) (j*6) (.int .i64 3) (by omega)).other (g':=b) (j*6+4) (.int .i64 p.now) (by omega)
 ·exact(h.q.other (g':=b) (j*6) (.int .i64 3) (by omega)).other (g':=b) (j*6+4) (.int .i64 p.now) (by omega)
 ·have h1:=jpe h.who hcur (by decide) (j*6) (.int .i64 3)
  have hcur2:(W.setCell ⟨b,j*6,none⟩ (.int .i64 3)).heap[b]?=some (.cells (cur.setIfInBounds (j*6) (.int .i64 3)) 46 (0,0)):=by rw [setCell_eq_setRow W b (j*6) cur _ _ _ hcur];exact setRow_heap W b cur _ _ _ hcur
  exact jpe h1 hcur2 (by decide) (j*6+4) (.int .i64 p.now)
theorem RDue.app {v':Value} (h:RDue w p pl vn (j+1) j W s6) (hd:dueB p pl j=true) (ho:W'.ownsRow (w.heap.size+1+1) 3 1 v' (ints (whoTo p pl j)++[(j:Int)]).length (jae cInt (ints (whoTo p pl j)++[(j:Int)]))) (hb:Below (w.heap.size+1+1) W W') (hs:∀ i,i < W.heap.size→some i≠s6.ownBlock→W'.heap[i]?=W.heap[i]?):RDue w p pl vn (j+1) (j+1) W' v':=by
 refine⟨h.below.trans (hb.mono (by omega)),h.out.later hb (by omega),h.q.later hb (by omega),jqb h.row h.who (by decide) hs,?_⟩
 rw [jlw hd,jfi]
 exact ho
end
theorem jqe (v vp:Value) (p:Pt) (pl:List Int) (w:World) (hv:PtV w v p) (hpl:SlK cInt w vp pl) (hmp:pl.length≤17592186044416) :
  Calls Tryz.prog 56 #[v,vp] w fun e w'=>∃ vs v2,e=.returned (.tuple #[.agg (jaa (dueP p pl) vs).toArray,v2])∧Hid (SlK cShip w' vs (dueP p pl).ships∧SlK cInt w' v2 (ints (dues p pl))∧Below w.heap.size w w'∧FarB w.heap.size vs):=by
 obtain⟨vs,rfl,hsl,h4,hmx⟩:=hv
 obtain⟨ap,cp,rfl,hcp,hrp⟩:=hpl
 have HPL:Hid (SlK cInt w (.slice ap pl.length cp) pl):=⟨ap,cp,rfl,hcp,hrp⟩
 have HV:Hid (PtV w (.agg (jaa p vs).toArray) p):=⟨vs,rfl,hsl,h4,hmx⟩
 have X0:Hid (PBox (w.alloc (.cells (jaa p vs).toArray 41)) w.heap.size p vs):=PBox.new w p _ h4
 have B0:Hid (Below w.heap.size w (w.alloc (.cells (jaa p vs).toArray 41))):=(Below.refl _ w).alloc (Nat.le_refl _) _
 have Z0:Hid ((w.alloc (.cells (jaa p vs).toArray 41)).heap.size=w.heap.size+1):=by show _=_;simp
 have HW:=fun W h=>jb3 (.agg (jaa p vs).toArray) p W h
 clear hsl hrp
 generalize hPC:(jaa p vs).toArray=PC at *
 have HPC:Hid ((jaa p vs).toArray=PC):=hPC
 clear hPC
 go_enter Tryz.func56,Tryz.ntmps56
 go_upto_region 1 with (first|(refine jah rfl rfl 4 rfl ?_;intro w1 hw1 hs1))
 rw [Z0.out] at hw1 hs1
 have T1:Hid (Below w.heap.size w w1∧PBox w1 w.heap.size p vs∧PBox w1 (w.heap.size+1) jaf (.slice none 0 0)):=⟨B0.out.trans (hw1.out.2.mono (by omega)),X0.out.later hw1.out.2 (by omega),hw1.out.1⟩
 clear hw1 X0 B0 Z0
 go_wp2_with (refine jac rfl _ rfl w.heap.size p vs rfl T1.out.2.1 ?_;rw [HPC.out])
 refine(HW _ (HV.out.below T1.out.1)).mono ?_
 rintro e w3 ⟨vn,rfl,hro,hb3⟩
 rw [hs1] at hro hb3
 have T3:Hid (Below w.heap.size w w3∧PBox w3 (w.heap.size+1) jaf (.slice none 0 0)∧w3.ownsRow (w.heap.size+1+1) 46 6 vn p.ships.length (jae cShip p.ships)∧PBox w3 w.heap.size p vs):=⟨T1.out.1.trans (hb3.mono (by omega)),T1.out.2.2.later hb3 (by omega),hro,T1.out.2.1.later hb3 (by omega)⟩
 obtain⟨xn,cn,rfl⟩:=jan T3.out.2.2.1
 have on:=jam T3.out.2.2.1
 clear T1 hro hb3 hs1 HW HV
 go_upto_region 2 with (first|(refine jab rfl _ _ rfl w.heap.size p p vs (.slice xn p.ships.length cn) rfl rfl T3.out.2.2.2 h4 on ?_;intro w5 hw5 hs5))
 have M5:Hid (RDue w p pl (.slice xn p.ships.length cn) 0 0 w5 (.slice none 0 0)):=by
  have hb:=hw5.out.2.2 w.heap.size (Nat.le_refl _)
  refine⟨T3.out.1.trans hb,⟨T3.out.2.1.1,(hw5.out.2.1 _ (by omega)).trans T3.out.2.1.2⟩,hw5.out.1,?_,World.ownsRow_nil _ _ _ _⟩
  rw [jkh]
  exact jal T3.out.2.2.1 fun k hk=>hw5.out.2.1 k (by omega)
 clear hw5 hs5 T3 on
 have pc1:=M5.out.q.cells.2.1
 go_upto_region 4 with fail
 clear pc1
 go_loopg [6,7,13] p.ships.length (fun kx s6 s7 s13 wr=>∃ (j:Nat),s13=.int .i64 j∧j≤p.ships.length∧p.ships.length - j≤kx∧Hid (RDue w p pl (.slice xn p.ships.length cn) j j wr s6))
 case atStart=>exact⟨0,rfl,Nat.zero_le _,by omega,M5⟩
 case round =>
  clear M5
  obtain⟨j,rfl,hj,hg,M⟩:=hrel
  by_cases hjn:j < p.ships.length
  ·obtain⟨b,rfl⟩:∃ b,xn=some ⟨b,0,none⟩:=by
    obtain⟨b,c,e,_⟩:=OwnK.ofRow M.out.row (by intro e;injection e with _ e _;omega)
    injection e with e1 e2 e3
    exact⟨b,e1⟩
   obtain⟨c0,c1,c2,c3,c4,c5⟩:wr.cell? ⟨b,j*6,none⟩=some (.int .i64 (shp p j).st)∧wr.cell? ⟨b,j*6+1,none⟩=some (.int .i64 (shp p j).wd)∧wr.cell? ⟨b,j*6+2,none⟩=some (.int .i64 (shp p j).lg)∧wr.cell? ⟨b,j*6+3,none⟩=some (.int .i64 (shp p j).cl)∧wr.cell? ⟨b,j*6+4,none⟩=some (.int .i64 (shp p j).si)∧wr.cell? ⟨b,j*6+5,none⟩=some (.int .i64 (shp p j).qu):=by
    obtain⟨b',c,e,ho⟩:=OwnK.ofRow M.out.row (by intro e;cases e)
    injection e with e1 e2 e3
    injection e1 with e1
    injection e1 with e1
    subst e1
    have hr:=ho.rd.ship (jg7 hjn)
    simp only [Nat.zero_add] at hr
    exact hr
   obtain⟨pc0,pc1,pc14,pc15⟩:=M.out.q.cells
   have hj3:(j:Int) < (p.ships.length:Int):=by omega
   have hbz:b≠w.heap.size∧w.heap.size≠b:=by have:=(M.out.row.lt b rfl).1;constructor <;> omega
   clear c1 c2 c3 c5 pc14 pc15
   have NO:Hid (dueB p pl j=false→∀ m,RDue w p pl (.slice (some ⟨b,0,none⟩) p.ships.length cn) (j+1) (j+1) (wr.drewN m) u6):=fun hd m=>(M.out.later (below_drewN (Below.refl _ wr) m)).no hd
   by_cases hjp:j < pl.length
   case neg =>
    have hd:dueB p pl j=false:=by
     cases e:dueB p pl j
     ·rfl
     ·exact absurd (jsd e).2 hjp
    have hj5:decide ((j:Int) < (pl.length:Int))=false:=decide_eq_false (by omega)
    clear M
    go_upto_region 6 with fail
    go_quiet (fail)
    go_wp2_with fail
    go_roundg (p.ships.length - (j+1))
    case measure=>omega
    case rel=>exact⟨j+1,by go_num,by omega,Nat.le_refl _,NO.out hd _⟩
   obtain⟨x,hx⟩:∃ x,pl[j]?=some x:=⟨pl[j],List.getElem?_eq_getElem hjp⟩
   obtain⟨bp,op,rfl,hrp⟩:=SlK.ints (HPL.out.below M.out.below) hx
   have rc:=hrp.int hx
   have hj5:decide ((j:Int) < (pl.length:Int))=true:=decide_eq_true (by omega)
   have hj6:(j:Int) < (pl.length:Int):=by omega
   clear hrp
   by_cases h2:x=p.now
   case neg =>
    have hd:dueB p pl j=false:=by
     cases e:dueB p pl j
     ·rfl
     ·have h3:=(jcd.1 e).1
      rw [hx] at h3
      exact absurd (Option.some.inj h3) h2
    have hb2:(x == p.now)=false:=by simp [h2]
    clear M hx h2
    go_upto_region 6 with fail
    go_quiet (fail)
    go_wp2_with fail
    go_roundg (p.ships.length - (j+1))
    case measure=>omega
    case rel=>exact⟨j+1,by go_num,by omega,Nat.le_refl _,NO.out hd _⟩
   by_cases h1:(shp p j).st=1
   case neg =>
    have hd:dueB p pl j=false:=by
     cases e:dueB p pl j
     ·rfl
     ·exact absurd (jcd.1 e).2 h1
    have hb2:(x == p.now)=true:=by simp [h2]
    have hb3:((shp p j).st == 1)=false:=by simp [h1]
    clear M hx h2 h1
    go_upto_region 6 with fail
    go_quiet (fail)
    go_wp2_with fail
    go_roundg (p.ships.length - (j+1))
    case measure=>omega
    case rel=>exact⟨j+1,by go_num,by omega,Nat.le_refl _,NO.out hd _⟩
   have hd:dueB p pl j=true:=jcd.2 ⟨by rw [hx,h2],h1⟩
   have hb2:(x == p.now)=true:=by simp [h2]
   have hb3:((shp p j).st == 1)=true:=by simp [h1]
   have MY:Hid (∀ m,RDue w p pl (.slice (some ⟨b,0,none⟩) p.ships.length cn) j j (wr.drewN m) u6):=fun m=>M.out.later (below_drewN (Below.refl _ wr) m)
   clear M hx h2 NO
   go_upto_region 6 with fail
   go_quiet (fail)
   go_upto_region 7 with fail
   have MD:Hid (RDue w p pl (.slice (some ⟨b,0,none⟩) p.ships.length cn) j j (wr.drewN nq) u6):=MY.out nq
   have d0:(wr.drewN nq).cell? ⟨b,j*6,none⟩=some (.int .i64 (shp p j).st):=c0
   have d4:(wr.drewN nq).cell? ⟨b,j*6+4,none⟩=some (.int .i64 (shp p j).si):=c4
   have e0:(wr.drewN nq).cell? ⟨w.heap.size,0,none⟩=some (.int .i64 p.now):=pc0
   have e1:(wr.drewN nq).cell? ⟨w.heap.size,1,none⟩=some (.slice (some ⟨b,0,none⟩) p.ships.length cn):=pc1
   clear c0 c4 pc0 pc1 rc MY
   generalize wr.drewN nq=W1 at *
   have f0:=MD.out.frozen (j*6)
   have f4:=MD.out.frozen (j*6+4)
   have hz1:=hbz.1
   have hz2:=hbz.2
   have E2:Hid (RDue w p pl (.slice (some ⟨b,0,none⟩) p.ships.length cn) (j+1) j ((W1.setCell ⟨b,j*6,none⟩ (.int .i64 3)).setCell ⟨b,j*6+4,none⟩ (.int .i64 p.now)).drew u6):=(MD.out.yes hjn hd).later ((Below.refl _ _).drew)
   clear MD
   go_region_held (fun w'=>w'.cell? ⟨w.heap.size,0,none⟩=some (.int .i64 p.now)∧w'.cell? ⟨w.heap.size,1,none⟩=some (.slice (some ⟨b,0,none⟩) p.ships.length cn)) (go_keep) (fail)
   go_upto_region 8 with fail
   clear d0 d4 e0 e1 f0 f4
   generalize ((W1.setCell ⟨b,j*6,none⟩ (.int .i64 3)).setCell ⟨b,j*6+4,none⟩ (.int .i64 p.now)).drew=WB at *
   have hwl:=jlx p pl j
   have hl2:=jcb (whoTo p pl j)
   have Q1:Hid ((ints (whoTo p pl j)).length+1≤maxLen∧((ints (whoTo p pl j)).length+1)*8≤140737488355328):=⟨by unfold maxLen;omega,by omega⟩
   have R1:Hid (RdK cInt (WB.alloc (.cells #[.int .i64 (j:Int)] 3)) WB.heap.size 0 [(j:Int)]):=jhj WB _ _
   have E3:Hid (RDue w p pl (.slice (some ⟨b,0,none⟩) p.ships.length cn) (j+1) j (WB.alloc (.cells #[.int .i64 (j:Int)] 3)) u6):=E2.out.later ((Below.refl _ WB).alloc (Nat.le_refl _) _)
   have Z5:Hid (w.heap.size+1+1≤(WB.alloc (.cells #[.int .i64 (j:Int)] 3)).heap.size):=E3.out.out.lt
   clear hwl hl2 E2
   go_wp2_with (at_builtin;refine jio tyInt rfl _ _ rfl (w.heap.size+1+1) u6 (ints (whoTo p pl j)) [(j:Int)] WB.heap.size 0 1 1 rfl rfl rfl E3.out.who R1.out Z5.out Q1.out.1 Q1.out.2 ?_;intro v' w1 hw1)
   go_roundg (p.ships.length - (j+1))
   case measure=>omega
   case rel=>exact⟨j+1,by go_num,by omega,Nat.le_refl _,E3.out.app hd hw1.out.1 hw1.out.2.1 hw1.out.2.2⟩
  ·have hje:j=p.ships.length:=by omega
   subst hje
   have hj3:¬ (p.ships.length:Int) < (p.ships.length:Int):=by omega
   have DL:=jne (p:=p) (pl:=pl) (j:=p.ships.length) (by omega)
   have on:=jam M.out.row
   have QB:Hid (PBox wr w.heap.size (dueP p pl) (.slice xn p.ships.length cn)):=M.out.q
   go_wp2_with (first|(refine jac rfl _ rfl w.heap.size (dueP p pl) (.slice xn p.ships.length cn) rfl QB.out ?_)|(refine jab rfl _ _ rfl (w.heap.size+1) jaf (dueP p pl) (.slice none 0 0) (.slice xn p.ships.length cn) rfl rfl M.out.out h4 on ?_;intro w9 hw9 hs9))
   refine bodyPost_ret (v:=.tuple #[.agg (jaa (dueP p pl) (.slice xn p.ships.length cn)).toArray,u6]) (jby Tryz.results56 _ _ (w.heap.size+1) (dueP p pl) (.slice xn p.ships.length cn) rfl hw9.out.1) rfl ?_
   have hwe:whoTo p pl p.ships.length=dues p pl:=rfl
   refine⟨_,_,rfl,?_,?_,M.out.below.trans (hw9.out.2.2 _ (by omega)),jc0 M.out.row (by omega)⟩
   ·have h:=M.out.row
    rw [DL] at h
    exact jaz (jal h (fun k hk=>hw9.out.2.1 k (by omega)))
   ·have h:=M.out.who
    rw [hwe] at h
    exact jaz (jal h (fun k hk=>hw9.out.2.1 k (by omega)))
def jnq (w:World) (T:Int→Pt→Prop) (e:Ending) (w':World):Prop :=
 ∃ (q:Pt) (vs:Value) (er:Int),e=.returned (.tuple #[.agg (jaa q vs).toArray,.int .i64 er])∧T er q∧q.kept.length=4∧q.ships.length≤2932031007317∧SlK cShip w' vs q.ships∧Below w.heap.size w w'∧(er=0→FarB w.heap.size vs)
theorem jmg (v:Value) (p:Pt) (w:World) (hv:PtV w v p) :
  Calls Tryz.prog 32 #[v] w fun e w'=>jnq w (jsp p) e w':=by
 obtain⟨vs,rfl,hsl,h4,hmx⟩:=hv
 have HV:Hid (PtV w (.agg (jaa p vs).toArray) p):=⟨vs,rfl,hsl,h4,hmx⟩
 have HS0:Hid (SlK cShip w vs p.ships):=hsl
 have X0:Hid (PBox (w.alloc (.cells (jaa p vs).toArray 41)) w.heap.size p vs):=PBox.new w p _ h4
 have B0:Hid (Below w.heap.size w (w.alloc (.cells (jaa p vs).toArray 41))):=(Below.refl _ w).alloc (Nat.le_refl _) _
 have Z0:Hid ((w.alloc (.cells (jaa p vs).toArray 41)).heap.size=w.heap.size+1):=by show _=_;simp
 have HW:=fun W h=>jb3 (.agg (jaa p vs).toArray) p W h
 have HG:=fun W h=>jbx (.agg (jaa p vs).toArray) p W h
 have on0:vs.oneCell'=true:=by obtain⟨a,cap,rfl,_⟩:=hsl;rfl
 clear hsl
 generalize hPC:(jaa p vs).toArray=PC at *
 have HPC:Hid ((jaa p vs).toArray=PC):=hPC
 clear hPC
 go_enter Tryz.func32,Tryz.ntmps32
 go_upto_region 1 with (first|(refine jah rfl rfl 2 rfl ?_;intro w1 hw1 hs1))
 rw [Z0.out] at hw1 hs1
 have T1:Hid (Below w.heap.size w w1∧PBox w1 w.heap.size p vs∧PBox w1 (w.heap.size+1) jaf (.slice none 0 0)∧w1.heap.size=w.heap.size+1+1):=⟨B0.out.trans (hw1.out.2.mono (by omega)),X0.out.later hw1.out.2 (by omega),hw1.out.1,hs1⟩
 clear hw1 X0 B0 Z0 hs1
 go_wp2_with (refine jac rfl _ rfl w.heap.size p vs rfl T1.out.2.1 ?_;rw [HPC.out])
 refine(HG _ (HV.out.below T1.out.1)).mono ?_
 rintro e w6 ⟨⟨b6,rfl,hb6⟩,hw6⟩
 have M6:Hid (Below w.heap.size w w6∧PBox w6 w.heap.size p vs∧PBox w6 (w.heap.size+1) jaf (.slice none 0 0)∧w.heap.size+1+1≤w6.heap.size):=⟨T1.out.1.trans (hw6.mono (by have:=T1.out.2.2.2;omega)),T1.out.2.1.later hw6 T1.out.2.1.lt,T1.out.2.2.1.later hw6 T1.out.2.2.1.lt,by have:=T1.out.2.2.2;have:=hw6.size;omega⟩
 have HB:Hid (b6=true↔jaj p):=hb6
 clear T1 hw6 hb6 HG
 cases b6
 ·have NO:Hid (¬ jaj p):=fun h=>by have:=HB.out.2 h;cases this
  go_wp2_with (first|(refine jac rfl _ rfl w.heap.size p vs rfl M6.out.2.1 ?_)|(refine jab rfl _ _ rfl (w.heap.size+1) jaf p (.slice none 0 0) vs rfl rfl M6.out.2.2.1 h4 on0 ?_;intro w9 hw9 hs9))
  refine bodyPost_ret (v:=.tuple #[.agg (jaa p vs).toArray,.int .i64 1]) (jby Tryz.results32 _ _ (w.heap.size+1) p vs rfl hw9.out.1) rfl ?_
  have hb9:=M6.out.1.trans (hw9.out.2.2 w.heap.size (by omega))
  exact⟨p,_,1,rfl,Or.inl ⟨NO.out,rfl,rfl⟩,h4,hmx,HS0.out.below hb9,hb9,fun h=>by cases h⟩
 ·have YES:Hid (jaj p):=HB.out.1 rfl
  obtain⟨n0,n1⟩:=YES.out.port.now
  have pc0:=M6.out.2.1.cells.1
  by_cases h9:p.now=299
  ·have hT:(p.now == 299)=true:=by simp [h9]
   go_wp2_with (first|(refine jac rfl _ rfl w.heap.size p vs rfl M6.out.2.1 ?_)|(refine jab rfl _ _ rfl (w.heap.size+1) jaf p (.slice none 0 0) vs rfl rfl M6.out.2.2.1 h4 on0 ?_;intro w9 hw9 hs9))
   refine bodyPost_ret (v:=.tuple #[.agg (jaa p vs).toArray,.int .i64 2]) (jby Tryz.results32 _ _ (w.heap.size+1) p vs rfl hw9.out.1) rfl ?_
   have hb9:=M6.out.1.trans (hw9.out.2.2 w.heap.size (by omega))
   exact⟨p,_,2,rfl,Or.inr (Or.inl ⟨YES.out,h9,rfl,rfl⟩),h4,hmx,HS0.out.below hb9,hb9,fun h=>by cases h⟩
  ·have hT:(p.now == 299)=false:=by simp [h9]
   go_upto_region 5 with fail
   clear pc0
   go_wp2_with (refine jac rfl _ rfl w.heap.size p vs rfl M6.out.2.1 ?_;rw [HPC.out])
   refine(HW _ (HV.out.below M6.out.1)).mono ?_
   rintro e w3 ⟨vn,rfl,hro,hb3⟩
   have T3:Hid (Below w.heap.size w w3∧PBox w3 (w.heap.size+1) jaf (.slice none 0 0)∧w3.ownsRow (w.heap.size+1+1) 46 6 vn p.ships.length (jae cShip p.ships)∧w.heap.size+1+1≤w3.heap.size):=⟨M6.out.1.trans (hb3.mono (by have:=M6.out.2.2.2;omega)),M6.out.2.2.1.later hb3 M6.out.2.2.1.lt,jar hro M6.out.2.2.2,by have:=M6.out.2.2.2;have:=hb3.size;omega⟩
   obtain⟨xn,cn,rfl⟩:=jan T3.out.2.2.1
   have on:=jam T3.out.2.2.1
   clear M6 hro hb3 HW HV HS0
   go_upto_region 6 with (first|(refine jah rfl rfl 4 rfl ?_;intro w4 hw4 hs4)|(refine jab rfl _ _ rfl w3.heap.size jaf p (.slice none 0 0) (.slice xn p.ships.length cn) rfl rfl hw4.out.1 h4 on ?_;intro w5 hw5 hs5))
   have M5:Hid (jbu w p p.now (.slice xn p.ships.length cn) w3.heap.size p.ships w5):=by
    have hb:Below w3.heap.size w3 w5:=hw4.out.2.trans (hw5.out.2.2 _ (Nat.le_refl _))
    have hz:=T3.out.2.2.2
    have hbw:Below w.heap.size w w5:=T3.out.1.trans (hb.mono (by omega))
    exact⟨hbw,T3.out.2.1.later hb (by omega),hw5.out.1,ownsRow_later T3.out.2.2.1 hb,fun k hk=>(T3.out.2.2.1.lt k hk).2,by omega⟩
   generalize w3.heap.size=g at *
   clear hw4 hw5 hs4 hs5 T3 on
   have pg0:=M5.out.q.cells.1
   have fg:=M5.out.q.frozen 0
   have M7:Hid (jbu w p (p.now+1) (.slice xn p.ships.length cn) g p.ships (w5.setCell ⟨g,0,none⟩ (.int .i64 (p.now+1)))):=M5.out.tick (p.now+1)
   have pgb:=M7.out.q.cells.2.1
   simp only at pg0 pgb
   go_upto_region 8 with fail
   clear M5 pg0 fg pgb HB
   generalize w5.setCell ⟨g,0,none⟩ (.int .i64 (p.now+1))=W7 at *
   go_loopg [5,6,24] p.ships.length (fun kx s5 s6 s24 wr=>∃ (j:Nat),s24=.int .i64 j∧j≤p.ships.length∧p.ships.length - j≤kx∧Hid (jbu w p (p.now+1) (.slice xn p.ships.length cn) g (jbw p j) wr))
   case atStart=>exact⟨0,rfl,Nat.zero_le _,by omega,by rw [jja];exact M7⟩
   case round =>
    clear M7
    obtain⟨j,rfl,hj,hg,M⟩:=hrel
    by_cases hjl:j < p.ships.length
    ·obtain⟨s,hs⟩:∃ s,p.ships[j]?=some s:=⟨p.ships[j],List.getElem?_eq_getElem hjl⟩
     obtain⟨b,rfl⟩:∃ b,xn=some ⟨b,0,none⟩:=by
      obtain⟨b,c,e,_⟩:=OwnK.ofRow M.out.row (by intro e;injection e with _ e _;omega)
      injection e with e1 e2 e3
      exact⟨b,e1⟩
     obtain⟨c0,c1,c2,c3,c4,c5⟩:wr.cell? ⟨b,j*6,none⟩=some (.int .i64 s.st)∧wr.cell? ⟨b,j*6+1,none⟩=some (.int .i64 s.wd)∧wr.cell? ⟨b,j*6+2,none⟩=some (.int .i64 s.lg)∧wr.cell? ⟨b,j*6+3,none⟩=some (.int .i64 s.cl)∧wr.cell? ⟨b,j*6+4,none⟩=some (.int .i64 s.si)∧wr.cell? ⟨b,j*6+5,none⟩=some (.int .i64 s.qu):=by
      obtain⟨b',c,e,ho⟩:=OwnK.ofRow M.out.row (by intro e;cases e)
      injection e with e1 e2 e3
      injection e1 with e1
      injection e1 with e1
      subst e1
      have hr:=ho.rd.ship (jdj hs)
      simp only [Nat.zero_add] at hr
      exact hr
     have hk3:(j:Int) < (p.ships.length:Int):=by omega
     have HS:Hid (p.ships[j]?=some s):=hs
     have HSH:=(YES.out.port.ship s (List.mem_of_getElem? hs)).1
     obtain⟨l1,l2⟩:=HSH.lg
     have MA:Hid (jbu w p (p.now+1) (.slice (some ⟨b,0,none⟩) p.ships.length cn) g (jbw p j) (wr.alloc (.cells #[.int .i64 s.st,.int .i64 s.wd,.int .i64 s.lg,.int .i64 s.cl,.int .i64 s.si,.int .i64 s.qu] 46))∧SBox (wr.alloc (.cells #[.int .i64 s.st,.int .i64 s.wd,.int .i64 s.lg,.int .i64 s.cl,.int .i64 s.si,.int .i64 s.qu] 46)) wr.heap.size s∧wr.heap.size≠b∧g≠b∧g≠wr.heap.size):=by
      have hb:=M.out.lt b rfl
      have hg:=M.out.q.lt
      exact⟨M.out.later ((Below.refl _ wr).alloc (Nat.le_refl _) _),SBox.new wr s,by omega,by omega,by omega⟩
     clear hs M
     go_upto_region 10 with fail
     clear c0 c1 c2 c3 c4 c5
     generalize wr.alloc (.cells #[.int .i64 s.st,.int .i64 s.wd,.int .i64 s.lg,.int .i64 s.cl,.int .i64 s.si,.int .i64 s.qu] 46)=WA at *
     generalize wr.heap.size=gs at *
     obtain⟨k0,k1,k2,k3,k4,k5⟩:=MA.out.2.1.cells
     have pc0:=MA.out.1.q.cells.1
     have pc1:=MA.out.1.q.cells.2.1
     simp only at pc0 pc1
     clear k1 k3 k5
     by_cases h3:s.st=3
     ·obtain⟨s1,s2,s3,s4⟩:=HSH.lies h3
      rw [h3] at k0
      have hwr:IntKind.i64.wrap (s.si+s.lg)=s.si+s.lg:=jbk (by omega) (by omega)
      by_cases h5:s.si+s.lg=p.now+1
      ·have hb5:(s.si+s.lg == p.now+1)=true:=by simp [h5]
       have LS:Hid (jbw p (j+1)=(jbw p j).set j (outS s)):=by
        show _=_
        rw [jgm HS.out]
        unfold jdt
        rw [if_pos ⟨h3,h5⟩]
       clear h3 HSH
       go_upto_region 11 with fail
       have MD:Hid (jbu w p (p.now+1) (.slice (some ⟨b,0,none⟩) p.ships.length cn) g (jbw p j) WA.drew):=MA.out.1.later ((Below.refl _ WA).drew)
       obtain⟨d0,d2,d4,e0,e4⟩:=MA.out.1.cell (jdj HS.out)
       have nb:=MA.out.2.2.2.1
       have nb2:b≠g:=fun e=>nb e.symm
       have M8:Hid (jbu w p (p.now+1) (.slice (some ⟨b,0,none⟩) p.ships.length cn) g (jbw p (j+1)) ((WA.drew.setCell ⟨b,j*6,none⟩ (.int .i64 4)).setCell ⟨b,j*6+4,none⟩ (.int .i64 0))):=by rw [LS.out];exact MD.out.out1 (jdj HS.out)
       clear MA MD k0 k2 k4 pc0 d2
       go_region_held (fun w'=>w'.cell? ⟨g,1,none⟩=some (.slice (some ⟨b,0,none⟩) p.ships.length cn)) (go_keep) (fail)
       all_goals go_wp2_with fail
       all_goals (go_roundg (p.ships.length - (j+1));(case measure=>omega);(case rel=>exact⟨j+1,by go_num,by omega,Nat.le_refl _,M8⟩))
      ·have hb5:(s.si+s.lg == p.now+1)=false:=by simp [h5]
       have LS:Hid (jbw p (j+1)=jbw p j):=jg4 HS.out (by unfold jdt;rw [if_neg (fun h=>h5 h.2)])
       have MD:Hid (jbu w p (p.now+1) (.slice (some ⟨b,0,none⟩) p.ships.length cn) g (jbw p (j+1)) WA):=by rw [LS.out];exact MA.out.1
       clear MA h3 HSH
       go_wp2_with fail
       go_roundg (p.ships.length - (j+1))
       case measure=>omega
       case rel=>exact⟨j+1,by go_num,by omega,Nat.le_refl _,MD⟩
     ·have hb3:(s.st == 3)=false:=by simp [h3]
      have LS:Hid (jbw p (j+1)=jbw p j):=jg4 HS.out (by unfold jdt;rw [if_neg (fun h=>h3 h.1)])
      have MD:Hid (jbu w p (p.now+1) (.slice (some ⟨b,0,none⟩) p.ships.length cn) g (jbw p (j+1)) WA):=by rw [LS.out];exact MA.out.1
      clear MA h3 HSH
      go_wp2_with fail
      go_roundg (p.ships.length - (j+1))
      case measure=>omega
      case rel=>exact⟨j+1,by go_num,by omega,Nat.le_refl _,MD⟩
    ·have hje:j=p.ships.length:=by omega
     subst hje
     have hj3:¬ (p.ships.length:Int) < (p.ships.length:Int):=by omega
     have on:=jam M.out.row
     have QB:Hid (PBox wr g (jbn p) (.slice xn p.ships.length cn)):=M.out.q
     go_wp2_with (first|(refine jac rfl _ rfl g (jbn p) (.slice xn p.ships.length cn) rfl QB.out ?_)|(refine jab rfl _ _ rfl (w.heap.size+1) jaf (jbn p) (.slice none 0 0) (.slice xn p.ships.length cn) rfl rfl M.out.out h4 on ?_;intro w9 hw9 hs9))
     refine bodyPost_ret (v:=.tuple #[.agg (jaa (jbn p) (.slice xn p.ships.length cn)).toArray,.int .i64 0]) (jby Tryz.results32 _ _ (w.heap.size+1) (jbn p) (.slice xn p.ships.length cn) rfl hw9.out.1) rfl ?_
     have hbs:=M.out.base
     have hr:=M.out.row
     have hend:=jka p
     refine⟨jbn p,_,0,rfl,Or.inr (Or.inr ⟨YES.out,by omega,rfl,rfl⟩),h4,?_,?_,M.out.below.trans (hw9.out.2.2 _ (by omega)),fun _=>jc0 M.out.row (by omega)⟩
     ·rw [← hend,jj9];exact hmx
     ·rw [hend] at hr
      exact jaz (jal hr (fun k hk=>hw9.out.2.1 k (by omega)))
def jbe (w:World) (T:Int→Int→Pt→Prop) (e:Ending) (w':World):Prop :=
 ∃ (q:Pt) (vs:Value) (n er:Int),e=.returned (.tuple #[.agg (jaa q vs).toArray,.int .i64 n,.int .i64 er])∧T n er q∧q.kept.length=4∧q.ships.length≤2932031007317∧SlK cShip w' vs q.ships∧Below w.heap.size w w'∧(er=0→FarB w.heap.size vs)
theorem jax (z:Nat) (p:Pt) (vs:Value) (er:Int) (w:World) (h:PBox w z p vs) (on:vs.oneCell'=true) :
  Calls Tryz.prog 57 #[.int .i64 er,.pointer (some ⟨z,0,none⟩)] w fun e w'=>e=.returned (.tuple #[.agg (jaa p vs).toArray,.int .i64 0,.int .i64 er])∧Below w.heap.size w w':=by
 have H:Hid (PBox w z p vs):=h
 have h4:=h.1
 clear h
 go_enter Tryz.func57,Tryz.ntmps57
 go_upto_region 1 with (first|(refine jah rfl rfl 3 rfl ?_;intro w1 hw1 hs1))
 have X1:Hid (PBox w1 z p vs):=H.out.later hw1.out.2 H.out.lt
 go_wp2_with (first|(refine jac rfl _ rfl z p vs rfl X1.out ?_)|(refine jab rfl _ _ rfl w.heap.size jaf p (.slice none 0 0) vs rfl rfl hw1.out.1 h4 on ?_;intro w9 hw9 hs9))
 refine bodyPost_ret (v:=.tuple #[.agg (jaa p vs).toArray,.int .i64 0,.int .i64 er]) (jad Tryz.results57 _ _ w.heap.size p vs rfl hw9.out.1) rfl ?_
 exact⟨rfl,hw1.out.2.trans (hw9.out.2.2 _ (Nat.le_refl _))⟩
structure TB (w:World) (p:Pt) (vs:Value) (o:Ord) (g:Nat) (q:Pt) (vq:Value) (W:World):Prop where
 below:Below w.heap.size w W
 box:PBox W w.heap.size p vs
 ord:OBox W (w.heap.size+1) o
 out:PBox W (w.heap.size+1+1) jaf (.slice none 0 0)
 q:PQ (w.heap.size+1+1+1) W g q vq
section
variable {w W W':World} {p q:Pt} {vs vq:Value} {o:Ord} {g:Nat}
theorem TB.later (h:TB w p vs o g q vq W) (hb:Below W.heap.size W W'):TB w p vs o g q vq W' :=
 ⟨h.below.trans (hb.mono h.below.size),h.box.later hb h.box.lt,h.ord.later hb h.ord.lt,h.out.later hb h.out.lt,h.q.later hb⟩
theorem TB.turn {q':Pt} {vq':Value} (h:TB w p vs o g q vq W) (hb:Below (w.heap.size+1+1+1) W W') (hq:PQ (w.heap.size+1+1+1) W' g q' vq'):TB w p vs o g q' vq' W' :=
 ⟨h.below.trans (hb.mono (by omega)),h.box.later hb (by omega),h.ord.later hb (by omega),h.out.later hb (by omega),hq⟩
end
end Go.Proofs.YtcmdoeledmkfmacGreatDoor
namespace Go.Proofs.YtcmdoeledmkfmacGreatDoor
open Go.RowKit Go.Maps Go.ChangeMaps Go.MapKept
theorem jun (w:World):(zeroValue 9).run Tryz.prog w=.ok (.string .empty) w:=by kernel_rfl
def updT (g:Int→List UInt8) (k:Int) (v:List UInt8):Int→List UInt8:=fun x=>if x=k then v else g x
def MapT (w:World) (b n:Nat) (g:Int→List UInt8):Prop :=
 ∃ D:DataW Unit,w.ownsMap Tryz.prog 3 (plainElem Tryz.prog 9) b n D∧IsMap D∧∀ k,Wf k→D.atKey (.int .i64 k) (.lit (.string []))=.lit (.string (g k))
theorem MapT.made (w:World):MapT (w.alloc (.map #[] 0)) w.heap.size 0 fun _=>[] :=
 ⟨.map [],World.ownsMap_made _ _ _ _,isMap_empty,fun k _=>rfl⟩
theorem MapT.look {w:World} {b n:Nat} {g:Int→List UInt8} (h:MapT w b n g) {k:Int} (hk:Wf k):(Instr.lookup 99 (.map (some b)) (.int .i64 k) false).run Tryz.prog w=.ok (.string ⟨(g k).toArray⟩) w:=by
 obtain⟨D,hD,hm,hg⟩:=h
 obtain⟨v,ps,hrun,hv⟩:=hD.lookup jej Tryz.underlying99 (jun w) (plainElem_string Tryz.underlying9 (s:=.empty) (Nat.zero_le _)) (keyOf_int_mk Tryz.underlying3 hk)
 have hg':=hg k hk
 have e0:(ByteArray.empty.data.toList:List UInt8)=[]:=rfl
 rw [e0,hg'] at hv
 obtain⟨s,e1,e2,_⟩:=plainElem_string_inv Tryz.underlying9 hv
 have e3:g k=s.data.toList:=by
  have h:=congrArg Prod.fst e2
  have h2:(DataW.lit (Lit.string (g k)):DataW Unit)=.lit (.string s.data.toList):=h
  exact Lit.string.inj (DataW.lit.inj h2)
 rw [hrun,e1,e3]
theorem jcc {w:World} {ops:Array Oper} {rest:List Oper} {o:Oper} {a:Act} {Q:Exit→Act→World→Prop} (hgd:o.guard=none) (m x:Operand) (ho:o.op=.lookup 99 m x false) (b n:Nat) (g:Int→List UInt8) (k:Int)
  (hm:a.eval m=.map (some b)) (hx:a.eval x=.int .i64 k) (hM:MapT w b n g) (hk:Wf k) (h:wpList Tryz.prog ops Q rest (a.put o.dst (.string ⟨(g k).toArray⟩)) w):wpList Tryz.prog ops Q (o::rest) a w:=by
 refine wpList_plain hgd fun K hK=>?_
 unfold Oper.wp
 simp [execOp,ho,hm,hx,hM.look hk,Result.andThen]
 exact hK _ _ h
theorem jap {w:World} {ops:Array Oper} {rest:List Oper} {o:Oper} {a:Act} {Q:Exit→Act→World→Prop} (hgd:o.guard=none) (m x v:Operand) (ho:o.op=.insert 99 m x v) (b n:Nat) (g:Int→List UInt8) (k:Int) (y:ByteArray)
  (hm:a.eval m=.map (some b)) (hx:a.eval x=.int .i64 k) (hv:a.eval v=.string y) (hM:MapT w b n g) (hn:n < maxLen) (hk:Wf k) (hy:y.size≤maxLen)
  (h:∀ w',Hid (MapT w' b (n+1) (updT g k y.data.toList)∧∀ B,B≤b→Below B w w')→wpList Tryz.prog ops Q rest (a.put o.dst undef) w'):wpList Tryz.prog ops Q (o::rest) a w:=by
 refine wpList_plain hgd fun K hK=>?_
 obtain⟨D,hD,hmp,hg⟩:=hM
 obtain⟨w',hrun,hD',hgr⟩:=hD.update jej Tryz.underlying99 hn (keyOf_int_mk Tryz.underlying3 hk) (plainElem_string Tryz.underlying9 hy)
 unfold Oper.wp
 simp [execOp,ho,hm,hx,hv,hrun,Result.andThen]
 refine hK _ _ (h _ ⟨⟨_,hD',hmp.put _ _,fun x hx=>?_⟩,fun B hB=>(Below.refl B w).grown hgr (by have:=hD.lt;omega) (fun k hk=>by cases hk;exact hB)⟩)
 unfold updT
 by_cases e:x=k
 ·subst e;rw [if_pos rfl,atKey_put_same hmp (by simp [WideAt.IsKeyLit])]
 ·rw [if_neg e,atKey_put_other (by intro h;injection h with _ h;exact e h)];exact hg x hx
theorem joq (s:ByteArray) (c:Int) (w:World) :
  Calls Tryz.prog 129 #[.string s,.int .u8 c] w fun e w'=>e=.returned (.int .i64 (Lib.indexByte s.data.toList c.toNat.toUInt8))∧w'=w:=by
 go_enter Tryz.func129,Tryz.ntmps129
 go_wp2_with fail
 rw [run_callFunc_extern Tryz.func165 (by kernel_rfl) (by kernel_rfl) (by kernel_rfl) (e:=Extern.BytealgIndexByte.indexByte) (by kernel_rfl),Lib.run_indexByteString]
 simp only [Result.andThen]
 rw [Oper.upon_value]
 go_wp2_with fail
 go_ret
 exact⟨rfl,rfl⟩
theorem jqt (s:ByteArray) (x:UInt8) (hne:([x] == s.toList)=false) (w:World) :
  Calls Tryz.prog 100 #[.string s,.string ⟨#[x]⟩] w fun e w'=>e=.returned (.int .i64 (Lib.indexByte s.data.toList x))∧w'=w:=by
 go_enter Tryz.func100,Tryz.ntmps100
 go_wp2_with (first|(go_at_call 129;refine(joq _ _ _).mono ?_;rintro e w' ⟨rfl,rfl⟩))
 go_ret
 refine⟨?_,rfl⟩
 have e:((⟨#[x]⟩:ByteArray)[0]'(by show 0 < 1;omega))=x:=rfl
 first|(show Ending.returned (.int .i64 (Lib.indexByte s.data.toList _))=_;rw [← e];rfl)|(simp [e];done)|(simp;rfl)
theorem jop (s:ByteArray) (x:UInt8) (he:([x] == s.toList)=true) (w:World) :
  Calls Tryz.prog 100 #[.string s,.string ⟨#[x]⟩] w fun e w'=>e=.returned (.int .i64 0)∧w'=w:=by
 go_enter Tryz.func100,Tryz.ntmps100
 go_wp2_with fail
 go_ret
 exact⟨rfl,rfl⟩
def has1 (s:ByteArray) (x:UInt8):Bool:=([x] == s.toList) || decide (0≤Lib.indexByte s.data.toList x)
theorem jas (s:ByteArray) (x:UInt8) (w:World) :
  Calls Tryz.prog 58 #[.string s,.string ⟨#[x]⟩] w fun e w'=>e=.returned (.bool (has1 s x))∧w'=w:=by
 have HI:∀ W,Calls Tryz.prog 78 #[.string s,.string ⟨#[x]⟩] W fun e w'=>(∃ n:Int,e=.returned (.int .i64 n)∧Hid (decide (0≤n)=has1 s x))∧w'=W:=fun W=>by
  cases h:([x] == s.toList)
  case true =>
   have HS:=jop s x h
   have HX:Hid (has1 s x=true):=by unfold has1;rw [h];rfl
   clear h
   go_enter Tryz.func78,Tryz.ntmps78
   go_wp2_with (first|(go_at_call 100;refine(HS _).mono ?_;rintro e w' ⟨rfl,rfl⟩))
   go_ret
   exact⟨⟨0,rfl,by rw [HX.out];rfl⟩,rfl⟩
  case false =>
   have HS:=jqt s x h
   have HX:Hid (has1 s x=decide (0≤Lib.indexByte s.data.toList x)):=by unfold has1;rw [h];rfl
   clear h
   generalize Lib.indexByte s.data.toList x=n at *
   go_enter Tryz.func78,Tryz.ntmps78
   go_wp2_with (first|(go_at_call 100;refine(HS _).mono ?_;rintro e w' ⟨rfl,rfl⟩))
   go_ret
   exact⟨⟨n,rfl,HX.out.symm⟩,rfl⟩
 go_enter Tryz.func58,Tryz.ntmps58
 go_wp2_with fail
 refine(HI _).mono ?_
 rintro e w' ⟨⟨n,rfl,hn⟩,rfl⟩
 go_wp2_with fail
 go_ret
 refine⟨?_,rfl⟩
 rw [← hn.out]
 rfl
end Go.Proofs.YtcmdoeledmkfmacGreatDoor
namespace Go.Proofs.YtcmdoeledmkfmacGreatDoor
open Go.RowKit
theorem wfK:Wf 2∧Wf 3∧Wf 4∧Wf 5:=⟨by unfold Wf;rfl,by unfold Wf;rfl,by unfold Wf;rfl,by unfold Wf;rfl⟩
theorem mxK:(0 < maxLen∧1 < maxLen∧2 < maxLen∧3 < maxLen)∧((⟨#[49,50,51]⟩:ByteArray).size≤maxLen∧(⟨#[49]⟩:ByteArray).size≤maxLen∧(⟨#[50]⟩:ByteArray).size≤maxLen):=by
 have a:(⟨#[49,50,51]⟩:ByteArray).size=3:=rfl
 have b:(⟨#[49]⟩:ByteArray).size=1:=rfl
 have c:(⟨#[50]⟩:ByteArray).size=1:=rfl
 rw [a,b,c]
 unfold maxLen
 omega
def mayF:Int→List UInt8:=updT (updT (updT (updT (fun _=>[]) 2 [49,50,51]) 3 [49]) 4 [50]) 5 [49,50,51]
theorem jdu {l:List UInt8} {x:UInt8} {b:Bool} (h:(([x] == l) || decide (0≤Lib.indexByte l x))=b):has1 ⟨l.toArray⟩ x=b:=by
 unfold has1
 rw [ByteArray.toList_eq]
 exact h
theorem may2:has1 ⟨(mayF 2).toArray⟩ 49=true∧has1 ⟨(mayF 2).toArray⟩ 50=true∧has1 ⟨(mayF 2).toArray⟩ 51=true∧has1 ⟨(mayF 2).toArray⟩ 52=false:=⟨jdu (by decide),jdu (by decide),jdu (by decide),jdu (by decide)⟩
theorem may3:has1 ⟨(mayF 3).toArray⟩ 49=true∧has1 ⟨(mayF 3).toArray⟩ 50=false∧has1 ⟨(mayF 3).toArray⟩ 51=false∧has1 ⟨(mayF 3).toArray⟩ 52=false:=⟨jdu (by decide),jdu (by decide),jdu (by decide),jdu (by decide)⟩
theorem may4:has1 ⟨(mayF 4).toArray⟩ 49=false∧has1 ⟨(mayF 4).toArray⟩ 50=true∧has1 ⟨(mayF 4).toArray⟩ 51=false∧has1 ⟨(mayF 4).toArray⟩ 52=false:=⟨jdu (by decide),jdu (by decide),jdu (by decide),jdu (by decide)⟩
theorem may5:has1 ⟨(mayF 5).toArray⟩ 49=true∧has1 ⟨(mayF 5).toArray⟩ 50=true∧has1 ⟨(mayF 5).toArray⟩ 51=true∧has1 ⟨(mayF 5).toArray⟩ 52=false:=⟨jdu (by decide),jdu (by decide),jdu (by decide),jdu (by decide)⟩
theorem conv1 (W:World) (n:UInt8):(convert 88 9 (.slice (some ⟨W.heap.size,0,none⟩) 1 1)).run Tryz.prog (W.alloc (.cells #[.int .u8 (n.toNat:Int)] 5))=.ok (.string ⟨#[n]⟩) (W.alloc (.cells #[.int .u8 (n.toNat:Int)] 5)) :=
 run_convert_bytes_back (W.alloc (.cells #[.int .u8 (n.toNat:Int)] 5)) 88 9 5 ⟨W.heap.size,0,none⟩ 1 [n] Tryz.underlying88 Tryz.underlying5 Tryz.underlying9 (fun j hj=>by
  have:j=0:=by simp at hj;omega
  subst this
  rw [Addr.add_lit,cell_of_row _ _ _ _ _ _ (heap_alloc_new W _)]
  rfl)
theorem jei {p:Pt} {kd b c er:Int} {j:Nat} {s:Ship} (hj:j < p.ships.length) (hs:p.ships[j]?=some s) (hm:moveS s kd b p.now=(er,s)):moveF p ⟨kd,(j:Int),b,c⟩=(er,p):=by
 unfold moveF
 rw [if_pos ⟨by simp only;omega,by simp only;omega⟩]
 have e:((j:Int)).toNat=j:=by omega
 simp only [e]
 rw [jbj hs,hm]
 have:=jfr (p:=p) (i:=j)
 rw [jbj hs] at this
 rw [this]
theorem ji9 {p:Pt} {kd b c:Int} {j:Nat} {s s':Ship} (hj:j < p.ships.length) (hs:p.ships[j]?=some s) (hm:moveS s kd b p.now=(0,s')):moveF p ⟨kd,(j:Int),b,c⟩=(0,setS p j s'):=by
 unfold moveF
 rw [if_pos ⟨by simp only;omega,by simp only;omega⟩]
 have e:((j:Int)).toNat=j:=by omega
 simp only [e]
 rw [jbj hs,hm]
theorem jig {p:Pt} {kd a b c:Int} (h:¬ (0≤a∧a≤(p.ships.length:Int) - 1)):moveF p ⟨kd,a,b,c⟩=(3,p):=by
 unfold moveF
 rw [if_neg h]
end Go.Proofs.YtcmdoeledmkfmacGreatDoor
