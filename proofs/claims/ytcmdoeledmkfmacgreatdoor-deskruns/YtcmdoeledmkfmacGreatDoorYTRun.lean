/- Texts of this claim, in one: TRun. -/
import Derived.Test.YtcmdoeledmkfmacGreatDoorYTBase
set_option linter.unusedSimpArgs false
set_option linter.unusedVariables false
set_option maxHeartbeats 40000000
set_option maxRecDepth 100000
namespace Go.Proofs.YtcmdoeledmkfmacGreatDoor
open Go.RowKit
theorem jnw {α:Type} {tS t:TypeId} {k bytes:Nat} {c:α→List Value} (T:TyOk tS t k bytes c) {w:World} {ops:Array Oper} {rest:List Oper} {o:Oper} {a:Act} {Q:Exit→Act→World→Prop} (hgd:o.guard=none) (x y:Operand)
  (ho:o.op=.call { callee:=.builtin .append,args:=#[x,y],argTypes:=#[tS,tS] }) (B:Nat) (v:Value) (m l:List α) (g off n cap:Nat)
  (hx:a.eval x=v) (hy:a.eval y=.slice (some ⟨g,off,none⟩) n cap) (hn:l.length=n) (hO:w.ownsRow B t k v m.length (jae c m)) (hr:RdK c w g off l) (hB:B≤w.heap.size) (hl:m.length+n≤maxLen) (hby:(m.length+n)*bytes≤140737488355328)
  (h:∀ v' w',Hid (w'.ownsRow B t k v' (m++l).length (jae c (m++l))∧Below B w w'∧∀ j,j < w.heap.size→some j≠v.ownBlock→w'.heap[j]?=w.heap[j]?)→wpList Tryz.prog ops Q rest (a.put o.dst v') w'):wpList Tryz.prog ops Q (o::rest) a w:=by
 obtain⟨i0,z,hi,hz,hs,hb,hzs⟩:=T.info
 subst hn
 refine wpList_append_own w hgd x y tS ho B t i0 z k bytes T.und hi hz hs hb hzs T.pos v m.length (jae c m) hx hO ⟨g,off,none⟩ l.length cap (jae c l) hy (ja6 T.enc l) (fun j u hu=>by rw [Addr.add_lit];exact hr j u hu) (jcx T.enc l) hl hby hB fun v' w' h1 h2 h3=>h v' w' ⟨?_,(Below.refl _ w).grown h2 hB (fun k hk=>(hO.lt k hk).1),fun j hj hne=>by obtain⟨_,_,_,_,h5⟩:=h2;exact h5 j hj hne⟩
 rw [jdc,List.length_append]
 exact h1
def cRep (p:Int×Int):List Value:=[.int .i64 p.1,.int .i64 p.2]
theorem jum:EncOk 2 cRep:=⟨fun _=>rfl,fun x v hv=>by simp [cRep] at hv;rcases hv with rfl|rfl <;> rfl⟩
theorem tyRep:TyOk 24 29 2 16 cRep:=⟨jum,by decide,Tryz.underlying24,infoK (z:=.agg #[.int .i64 0,.int .i64 0]) (by kernel_rfl) rfl⟩
def RepAt (l:List (List UInt8)) (i:Nat) (p:Int×Int):Prop:=∃ s D D',l[i]?=some s∧jd7 newDk (l.take i) D∧jdv D s D' p.1 p.2
def Reps (l:List (List UInt8)) (rs:List (Int×Int)):Prop:=∀ (i:Nat) p,rs[i]?=some p→RepAt l i p
theorem RepAt.unique {l:List (List UInt8)} {i:Nat} {p q:Int×Int} (h:RepAt l i p) (h':RepAt l i q):p=q:=by
 obtain⟨s,D,D',h1,h2,h3⟩:=h
 obtain⟨s',E,E',k1,k2,k3⟩:=h'
 rw [h1] at k1
 injection k1 with k1
 subst k1
 obtain rfl:=jgx _ _ _ _ jg0 h2 k2
 obtain⟨_,e1,e2⟩:=jff (jmk _ _ _ jg0 h2) h3 k3
 exact Prod.ext e1 e2
theorem RepAt.part {l:List (List UInt8)} {k i:Nat} {p:Int×Int} (h:RepAt (l.take k) i p) (hi:i < k):RepAt l i p:=by
 obtain⟨s,D,D',h1,h2,h3⟩:=h
 refine⟨s,D,D',?_,?_,h3⟩
 ·rwa [List.getElem?_take_of_lt hi] at h1
 ·rwa [List.take_take,Nat.min_eq_left (by omega)] at h2
theorem Reps.snoc {l:List (List UInt8)} {rs:List (Int×Int)} {p:Int×Int} (h:Reps l rs) (hp:RepAt l rs.length p):Reps l (rs++[p]):=fun i q hq=>by
 by_cases hi:i < rs.length
 ·rw [List.getElem?_append_left hi] at hq
  exact h i q hq
 ·have hl:=(List.getElem?_eq_some_iff.1 hq).1
  have e:i=rs.length:=by simp at hl;omega
  subst e
  rw [List.getElem?_append_right (Nat.le_refl _)] at hq
  simp at hq
  rw [← hq];exact hp
theorem DS.appended {w w':World} {d:Nat} {D:Dk} {B n:Nat} {v:Value} {cs:List Value} (h:DS w d D) (hO:w.ownsRow B 29 2 v n cs) (hu:∀ u∈usedG,u < B) (hs:∀ j,j < w.heap.size→some j≠v.ownBlock→w'.heap[j]?=w.heap[j]?):DS w' d D:=by
 have key:∀ (j:Nat) cur t f,w.heap[j]?=some (Obj.cells cur t f)→t≠29→w'.heap[j]?=w.heap[j]?:=fun j cur t f hj ht=>by
  refine hs j (Array.getElem?_eq_some_iff.1 hj).1 fun e=>?_
  rcases hO.2 with ⟨rfl,_⟩|⟨g,cap,cur',rfl,_,hg,_⟩
  ·cases e
  ·have e:j=g:=by simpa [Value.ownBlock] using e
   subst e
   exact jeh hj hg ht rfl
 refine⟨h.lw.same fun u hu'=>hs u (h.lw.lt u hu') fun e=>?_,?_,h.ok⟩
 ·rcases hO.2 with ⟨rfl,_⟩|⟨g,cap,cur',rfl,hBg,_⟩
  ·cases e
  ·have e:u=g:=by simpa [Value.ownBlock] using e
   have:=hu u hu'
   omega
 ·obtain⟨vs,vp,va,pl,hM⟩:=h.dsk
  exact⟨vs,vp,va,pl,hM.same (key d _ _ _ hM.box.box (by decide)) fun k cur t f hk ht=>key k cur t f hk (ht.ne (by decide) (by decide) (by decide))⟩
theorem jmo {w w':World} {d B n k:Nat} {D:Dk} {t:TypeId} {v:Value} {cs:List Value} (hO:w.ownsRow B t k v n cs) (hD:DS w d D) (hf:Fr d w w') (ht:t≠59):w'.ownsRow B t k v n cs:=by
 obtain⟨_,_,_,_,hM⟩:=hD.dsk
 refine⟨hO.1,?_⟩
 rcases hO.2 with h0|⟨g,cap,cur,h0,h1,h2,h3⟩
 ·exact Or.inl h0
 ·exact Or.inr ⟨g,cap,cur,h0,h1,(hf.rest g (jeh h2 hM.box.box ht) (Array.getElem?_eq_some_iff.1 h2).1).trans h2,h3⟩
structure RnS (z:Nat) (w:World) (l:List (List UInt8)) (d k:Nat) (v5:Value) (rs:List (Int×Int)) (D:Dk) (W:World):Prop where
 ds:DS W d D
 play:jd7 newDk (l.take k) D
 row:W.ownsRow z 29 2 v5 rs.length (jae cRep rs)
 len:rs.length=k
 reps:Reps l rs
 below:Below z w W
 new:z≤d
theorem juu (v:Value) (l:List (List UInt8)) (w:World) (hL:LW w) (hs:SlK cStr w v l) (hln:∀ y∈l,y.length≤9223372036854775807) (h250:l.length≤250) :
  Calls Tryz.prog 9 #[v] w fun e w'=>∃ vr,e=.returned (.tuple #[vr,.int .i64 0])∧Hid (∃ rs,rs.length=l.length∧Reps l rs∧w'.ownsRow w.heap.size 29 2 vr rs.length (jae cRep rs)∧Below w.heap.size w w'):=by
 have HN:=juk w hL
 have HT:=fun d D s W h hs=>jrh d D s W h hs
 have SL:Hid (∀ W,Below w.heap.size w W→SlK cStr W v l):=fun W h=>jrm hs (Nat.le_refl _) h
 have LN:Hid (∀ y∈l,y.length≤9223372036854775807):=hln
 have HU:Hid (∀ u∈usedG,u < w.heap.size):=fun u hu=>hL.lt u hu
 obtain⟨a,cap,hv⟩:∃ a cap,v=.slice a l.length cap:=by obtain⟨a,cap,h,_⟩:=hs;exact⟨a,cap,h⟩
 subst hv
 have hg250:¬ ((250:Int) < (l.length:Int)):=by omega
 clear hL hs hln
 unfold txt at *
 generalize hz:w.heap.size=z at *
 go_enter Tryz.func9,Tryz.ntmps9
 go_wp2_with fail
 refine HN.mono ?_
 rintro e w1 ⟨d,rfl,h1⟩
 have E1:Hid (RnS z w l d 0 (.slice none 0 0) [] newDk w1):=⟨h1.out.2.1,rfl,World.ownsRow_nil _ _ _ _,rfl,fun i p h=>by simp at h,h1.out.2.2,h1.out.1⟩
 clear h1 HN
 go_wp2_with fail
 go_loopg [5,7,14] l.length (fun kx s5 s7 s14 wr=>∃ k:Nat,s14=.int .i64 k∧k≤l.length∧l.length - k≤kx∧Hid (∃ rs D,RnS z w l d k s5 rs D wr))
 case atStart=>exact⟨0,rfl,Nat.zero_le _,by omega,⟨[],newDk,E1.out⟩⟩
 case round =>
  clear E1
  obtain⟨k,rfl,hk,hg,HD⟩:=hrel
  obtain⟨rs,D,hI⟩:=HD.out
  have I:Hid (RnS z w l d k u5 rs D wr):=hI
  clear hI HD
  by_cases hlt:k < l.length
  ·have hki:(k:Int) < (l.length:Int):=by omega
   obtain⟨s,hs⟩:∃ s,l[k]?=some s:=⟨l[k]'hlt,List.getElem?_eq_getElem hlt⟩
   have HS:Hid (l[k]?=some s):=hs
   have hsm:=LN.out s (List.mem_of_getElem? hs)
   obtain⟨b,off,rfl,q1⟩:∃ b off,a=some ⟨b,off,none⟩∧wr.cell? ⟨b,off+k,none⟩=some (.string ⟨s.toArray⟩):=by
    obtain⟨a',c',e,_,hr⟩:=SL.out wr I.out.below
    injection e with e1
    rcases hr with hr|⟨b,off,hr,h⟩
    ·rw [hr] at hlt;simp at hlt
    ·exact⟨b,off,by rw [e1,hr],h.str hs⟩
   clear hs
   go_wp2_with fail
   clear q1
   refine(HT d D s _ I.out.ds hsm).mono ?_
   rintro e w3 ⟨er,n,rfl,h3⟩
   obtain⟨D',j1,j2,j3⟩:=h3.out
   have hrl:rs.length≤250:=by have:=I.out.len;omega
   have E3:Hid (DS w3 d D'∧jd7 newDk (l.take (k+1)) D'∧w3.ownsRow z 29 2 u5 rs.length (jae cRep rs)∧rs.length=k∧Reps l (rs++[(er,n)])∧Below z w w3∧z≤d):=by
    refine⟨j2,?_,jmo I.out.row I.out.ds j3 (by decide),I.out.len,I.out.reps.snoc ?_,I.out.below.trans (j3.below.mono I.out.new),I.out.new⟩
    ·rw [jj3 HS.out];exact jgl _ _ _ _ _ _ _ I.out.play j1
    ·rw [I.out.len];exact⟨s,D,D',HS.out,I.out.play,j1⟩
   have hza:Below w3.heap.size w3 (w3.alloc (.cells #[.int .i64 er,.int .i64 n] 29)):=(Below.refl _ w3).alloc (Nat.le_refl _) _
   have O5:Hid ((w3.alloc (.cells #[.int .i64 er,.int .i64 n] 29)).ownsRow z 29 2 u5 rs.length (jae cRep rs)):=E3.out.2.2.1.alloc _
   have R5:Hid (RdK cRep (w3.alloc (.cells #[.int .i64 er,.int .i64 n] 29)) w3.heap.size 0 [(er,n)]):=jfe (k:=2) w3 _ (er,n) _ rfl
   have B5:Hid (DS (w3.alloc (.cells #[.int .i64 er,.int .i64 n] 29)) d D'∧Below z w (w3.alloc (.cells #[.int .i64 er,.int .i64 n] 29))∧z≤(w3.alloc (.cells #[.int .i64 er,.int .i64 n] 29)).heap.size):=by
    have hs:z≤w3.heap.size:=by have:=E3.out.2.2.2.2.2.2;have:=E3.out.1.lt;omega
    exact⟨E3.out.1.later hza,E3.out.2.2.2.2.2.1.trans (hza.mono hs),by simp;omega⟩
   have Q5:Hid (rs.length+1≤maxLen∧(rs.length+1)*16≤140737488355328):=by
    have:maxLen=9223372036854775807:=rfl
    exact⟨by omega,by omega⟩
   clear h3 j1 j2 j3 I hza
   go_wp2_with (at_builtin;refine jnw tyRep rfl _ _ rfl z u5 rs [(er,n)] w3.heap.size 0 1 1 rfl rfl rfl O5.out R5.out B5.out.2.2 Q5.out.1 Q5.out.2 ?_;intro v' w4 hw4)
   have I2:Hid (RnS z w l d (k+1) v' (rs++[(er,n)]) D' w4):=⟨B5.out.1.appended O5.out HU.out hw4.out.2.2,E3.out.2.1,hw4.out.1,by simp [E3.out.2.2.2.1],E3.out.2.2.2.2.1,B5.out.2.1.trans hw4.out.2.1,E3.out.2.2.2.2.2.2⟩
   clear hw4 O5 R5 B5 Q5 E3
   go_roundg (l.length - (k+1))
   case measure=>omega
   case rel=>exact⟨k+1,by go_num,by omega,Nat.le_refl _,_,_,I2.out⟩
  ·have hki:¬ ((k:Int) < (l.length:Int)):=by omega
   have F:Hid (∃ rs,rs.length=l.length∧Reps l rs∧wr.ownsRow z 29 2 u5 rs.length (jae cRep rs)∧Below z w wr):=⟨rs,by rw [I.out.len];omega,I.out.reps,I.out.row,I.out.below⟩
   clear I
   go_wp2_with fail
   go_ret2
   exact⟨u5,rfl,F⟩
end Go.Proofs.YtcmdoeledmkfmacGreatDoor
