/- Texts of this claim, in one: DMem DBecome PStep DAdmit. -/
import Derived.Test.YtcmdoeledmkfmacGreatDoorYS0
import Derived.Deep.RegionHeld
import Derived.Deep.DeepCutAuto
import Derived.Test.YtcmdoeledmkfmacGreatDoorSN
import Derived.Test.YtcmdoeledmkfmacGreatDoorSG
import Derived.Test.YtcmdoeledmkfmacGreatDoorSL
import Derived.Test.YtcmdoeledmkfmacGreatDoorS3
import Derived.Test.YtcmdoeledmkfmacGreatDoorS8
set_option linter.unusedSimpArgs false
set_option linter.unusedVariables false
set_option maxHeartbeats 40000000
set_option maxRecDepth 100000
namespace Go.Proofs.YtcmdoeledmkfmacGreatDoor
open Go.RowKit
def RowT {α:Type} (t:TypeId) (c:α→List Value) (w:World) (v:Value) (l:List α):Prop :=
 ∃ a cap,v=.slice a l.length cap∧l.length≤cap∧(l=[]∨∃ b off cur f,a=some ⟨b,off,none⟩∧RdK c w b off l∧w.heap[b]?=some (Obj.cells cur t f))
theorem RowT.sl {α:Type} {t:TypeId} {c:α→List Value} {w:World} {v:Value} {l:List α} (h:RowT t c w v l):SlK c w v l:=by
 obtain⟨a,cap,h1,h2,h3⟩:=h
 refine⟨a,cap,h1,h2,?_⟩
 rcases h3 with h3|⟨b,off,cur,f,h4,h5,_⟩
 ·exact Or.inl h3
 ·exact Or.inr ⟨b,off,h4,h5⟩
theorem RowT.nil {α:Type} (t:TypeId) (c:α→List Value) (w:World):RowT t c w (.slice none 0 0) []:=⟨none,0,rfl,Nat.le_refl _,Or.inl rfl⟩
theorem RowT.one {α:Type} {t:TypeId} {c:α→List Value} {w:World} {v:Value} {l:List α} (h:RowT t c w v l):v.oneCell'=true:=by
 obtain⟨a,cap,rfl,_⟩:=h;rfl
theorem RowT.shape {α:Type} {t:TypeId} {c:α→List Value} {w:World} {v:Value} {l:List α} (h:RowT t c w v l):∃ a cap,v=.slice a l.length cap:=by
 obtain⟨a,cap,h,_⟩:=h;exact⟨a,cap,h⟩
theorem RdK.same {α:Type} {c:α→List Value} {w w':World} {b off:Nat} {l:List α} (h:RdK c w b off l) (hs:w'.heap[b]?=w.heap[b]?):RdK c w' b off l:=fun j u hu=>by
 rw [jfw hs];exact h j u hu
theorem RowT.same {α:Type} {t:TypeId} {c:α→List Value} {w w':World} {v:Value} {l:List α} (h:RowT t c w v l) (hs:∀ (k:Nat) cur f,w.heap[k]?=some (Obj.cells cur t f)→w'.heap[k]?=w.heap[k]?):RowT t c w' v l:=by
 obtain⟨a,cap,h1,h2,h3⟩:=h
 refine⟨a,cap,h1,h2,?_⟩
 rcases h3 with h3|⟨b,off,cur,f,h4,h5,h6⟩
 ·exact Or.inl h3
 ·have e:=hs b cur f h6
  exact Or.inr ⟨b,off,cur,f,h4,h5.same e,e.trans h6⟩
theorem RowT.later {α:Type} {t:TypeId} {c:α→List Value} {w w':World} {v:Value} {l:List α} (h:RowT t c w v l) (hb:Below w.heap.size w w'):RowT t c w' v l :=
 h.same fun k cur f hk=>hb.block k (Array.getElem?_eq_some_iff.1 hk).1
theorem RowT.own {α:Type} {t:TypeId} {k B:Nat} {c:α→List Value} {w:World} {v:Value} {l:List α} (h:w.ownsRow B t k v l.length (jae c l)):RowT t c w v l:=by
 by_cases hv:v=.slice none 0 0
 ·subst hv
  rcases h.2 with ⟨_,h0⟩|⟨g,cap,cur,h0,_⟩
  ·have:l=[]:=List.length_eq_zero_iff.1 h0
   subst this
   exact RowT.nil _ _ w
  ·cases h0
 ·obtain⟨g,cap,rfl,ho⟩:=OwnK.ofRow h hv
  obtain⟨cur,hg,_⟩:=ho.row
  exact⟨_,cap,rfl,ho.le,Or.inr ⟨g,0,cur,_,rfl,ho.rd,hg⟩⟩
theorem RowT.ownK {α:Type} {t:TypeId} {k B g cap:Nat} {c:α→List Value} {w:World} {l:List α} (ho:OwnK t k c w B g cap l):RowT t c w (.slice (some ⟨g,0,none⟩) l.length cap) l:=by
 obtain⟨cur,hg,_⟩:=ho.row
 exact⟨_,cap,rfl,ho.le,Or.inr ⟨g,0,cur,_,rfl,ho.rd,hg⟩⟩
def jdk (p:Pt) (vs vp va:Value) (n:Int):List Value:=jaa p vs++[vp,va,.int .i64 n]
structure DBx (w:World) (d:Nat) (p:Pt) (vs vp va:Value) (n:Int):Prop where
 four:p.kept.length=4
 box:w.heap[d]?=some (.cells (jdk p vs vp va n).toArray 59 (0,0))
section
variable {w w':World} {d:Nat} {p:Pt} {vs vp va:Value} {n:Int}
theorem DBx.lt (h:DBx w d p vs vp va n):d < w.heap.size:=(Array.getElem?_eq_some_iff.1 h.box).1
theorem DBx.frozen (h:DBx w d p vs vp va n) (k:Nat):w.frozen? ⟨d,k,none⟩=false:=by simp [World.frozen?,h.box]
theorem DBx.same (h:DBx w d p vs vp va n) (hs:w'.heap[d]?=w.heap[d]?):DBx w' d p vs vp va n:=⟨h.four,hs.trans h.box⟩
theorem DBx.later (h:DBx w d p vs vp va n) (hb:Below w.heap.size w w'):DBx w' d p vs vp va n:=h.same (hb.block d h.lt)
theorem DBx.len (h:DBx w d p vs vp va n):(jaa p vs).length=16:=jav p vs h.four
theorem DBx.cell (h:DBx w d p vs vp va n) (j:Nat):w.cell? ⟨d,j,none⟩=(jdk p vs vp va n)[j]?:=by rw [cell_of_row _ _ _ _ _ _ h.box,List.getElem?_toArray]
theorem DBx.cells (h:DBx w d p vs vp va n):w.cell? ⟨d,0,none⟩=some (.int .i64 p.now)∧w.cell? ⟨d,1,none⟩=some vs∧w.cell? ⟨d,16,none⟩=some vp∧w.cell? ⟨d,17,none⟩=some va∧w.cell? ⟨d,18,none⟩=some (.int .i64 n):=by
 have hl:=h.len
 refine⟨by rw [h.cell];rfl,by rw [h.cell];rfl,?_,?_,?_⟩ <;> (rw [h.cell];unfold jdk;rw [List.getElem?_append_right (by omega),hl];rfl)
theorem DBx.port (h:DBx w d p vs vp va n):w.rangeAt d 0 (jaa p vs):=fun j v hv=>by
 rw [Nat.zero_add,h.cell]
 unfold jdk
 rw [List.getElem?_append_left (List.getElem?_eq_some_iff.1 hv).1]
 exact hv
theorem DBx.write (h:DBx w d p vs vp va n) (k:Nat) (v:Value) (p':Pt) (vs' vp' va':Value) (n':Int) (h4:p'.kept.length=4) (he:(jdk p vs vp va n).set k v=jdk p' vs' vp' va' n'):DBx (w.setCell ⟨d,k,none⟩ v) d p' vs' vp' va' n':=by
 refine⟨h4,?_⟩
 rw [setCell_eq_setRow w d k _ _ _ _ h.box,setRow_heap w d _ _ _ _ h.box,← he]
 congr 2
 simp
theorem DBx.setPlan (h:DBx w d p vs vp va n) (v:Value):DBx (w.setCell ⟨d,16,none⟩ v) d p vs v va n:=h.write 16 v _ _ _ _ _ h.four (by unfold jdk;rw [List.set_append_right _ _ (by rw [h.len];omega),h.len];rfl)
theorem DBx.setAside (h:DBx w d p vs vp va n) (v:Value):DBx (w.setCell ⟨d,17,none⟩ v) d p vs vp v n:=h.write 17 v _ _ _ _ _ h.four (by unfold jdk;rw [List.set_append_right _ _ (by rw [h.len];omega),h.len];rfl)
theorem DBx.setLines (h:DBx w d p vs vp va n) (m:Int):DBx (w.setCell ⟨d,18,none⟩ (.int .i64 m)) d p vs vp va m:=h.write 18 _ _ _ _ _ _ h.four (by unfold jdk;rw [List.set_append_right _ _ (by rw [h.len];omega),h.len];rfl)
end
structure Fr (d:Nat) (w w':World):Prop where
 below:Below d w w'
 rest:∀ k,k≠d→k < w.heap.size→w'.heap[k]?=w.heap[k]?
theorem Fr.refl (d:Nat) (w:World):Fr d w w:=⟨Below.refl _ _,fun _ _ _=>rfl⟩
theorem Fr.trans {d:Nat} {a b c:World} (h:Fr d a b) (k:Fr d b c):Fr d a c:=⟨h.below.trans k.below,fun i hi hl=>(k.rest i hi (Nat.lt_of_lt_of_le hl h.below.size)).trans (h.rest i hi hl)⟩
theorem Fr.of {d:Nat} {w w':World} (h:Below w.heap.size w w') (hd:d≤w.heap.size):Fr d w w':=⟨h.mono hd,fun k _ hk=>h.block k hk⟩
theorem Fr.set {d:Nat} (w:World) (k:Nat) (v:Value):Fr d w (w.setCell ⟨d,k,none⟩ v):=⟨(Below.refl _ w).setCell (p:=⟨d,k,none⟩) (Nat.le_refl _) v,fun i hi _=>Below.heap_setCell _ _ _ _ hi⟩
theorem Fr.setRow {d:Nat} (w:World) (cs:Array Value):Fr d w (w.setRow d cs):=⟨below_setRow (Below.refl _ w) (Nat.le_refl _) cs,fun i hi _=>setRow_other w d i cs (by omega)⟩
theorem Fr.drew {d:Nat} (w:World):Fr d w w.drew:=⟨(Below.refl _ w).drew,fun _ _ _=>rfl⟩
theorem Fr.size {d:Nat} {w w':World} (h:Fr d w w'):w.heap.size≤w'.heap.size:=h.below.size
def Asd (w:World) (va:Value):Option Pt→Prop
 | none=>va=.pointer none
 | some q=>∃ g vq,va=.pointer (some ⟨g,0,none⟩)∧PBox w g q vq∧RowT 46 cShip w vq q.ships
theorem Asd.one {w:World} {va:Value} {o:Option Pt} (h:Asd w va o):va.oneCell'=true:=by
 cases o with
 | none=>have h:va=.pointer none:=h;rw [h];rfl
 | some q=>obtain⟨g,vq,rfl,_⟩:=h;rfl
theorem Fr.typed {d:Nat} {w w':World} {p:Pt} {vs vp va:Value} {n:Int} (hf:Fr d w w') (hd:DBx w d p vs vp va n) (k:Nat) (cur:Array Value) (t:TypeId) (f:Nat×Nat) (hk:w.heap[k]?=some (Obj.cells cur t f)) (ht:t≠59):w'.heap[k]?=w.heap[k]?:=by
 refine hf.rest k (fun e=>?_) (Array.getElem?_eq_some_iff.1 hk).1
 subst e
 rw [hd.box] at hk
 injection hk with hk
 injection hk with _ hk
 exact ht hk.symm
theorem RowT.fr {α:Type} {t:TypeId} {c:α→List Value} {w w':World} {v:Value} {l:List α} {d:Nat} {p:Pt} {vs vp va:Value} {n:Int} (h:RowT t c w v l) (hf:Fr d w w') (hd:DBx w d p vs vp va n) (ht:t≠59):RowT t c w' v l :=
 h.same fun k cur f hk=>hf.typed hd k cur t f hk ht
theorem Asd.fr {w w':World} {va:Value} {o:Option Pt} {d:Nat} {p:Pt} {vs vp va':Value} {n:Int} (h:Asd w va o) (hf:Fr d w w') (hd:DBx w d p vs vp va' n):Asd w' va o:=by
 cases o with
 | none=>exact h
 | some q =>
  obtain⟨g,vq,h1,h2,h3⟩:=h
  exact⟨g,vq,h1,⟨h2.1,(hf.typed hd g _ _ _ h2.2 (by decide)).trans h2.2⟩,h3.fr hf hd (by decide)⟩
structure DM (w:World) (d:Nat) (D:Dk) (vs vp va:Value) (pl:List Int):Prop where
 box:DBx w d D.p vs vp va D.n
 ships:RowT 46 cShip w vs D.p.ships
 plan:jbd D.p pl
 row:RowT 3 cInt w vp pl
 asd:Asd w va D.asd
 old:∀ u∈usedG,u < d
 far:∀ g o f,va=.pointer (some ⟨g,o,f⟩)→d < g
def Dsk (w:World) (d:Nat) (D:Dk):Prop:=∃ vs vp va pl,DM w d D vs vp va pl
theorem DM.lt {w:World} {d:Nat} {D:Dk} {vs vp va:Value} {pl:List Int} (h:DM w d D vs vp va pl):d < w.heap.size:=h.box.lt
theorem Dsk.lt {w:World} {d:Nat} {D:Dk} (h:Dsk w d D):d < w.heap.size:=by obtain⟨_,_,_,_,h⟩:=h;exact h.lt
def kT (t:TypeId):Prop:=t=46∨t=3∨t=41
theorem kT.ne {t u:TypeId} (h:kT t) (h1:u≠46) (h2:u≠3) (h3:u≠41):t≠u:=by
 rcases h with rfl|rfl|rfl
 ·exact fun e=>h1 e.symm
 ·exact fun e=>h2 e.symm
 ·exact fun e=>h3 e.symm
theorem DM.same {w w':World} {d:Nat} {D:Dk} {vs vp va:Value} {pl:List Int} (h:DM w d D vs vp va pl) (hd:w'.heap[d]?=w.heap[d]?) (hs:∀ (k:Nat) cur t f,w.heap[k]?=some (Obj.cells cur t f)→kT t→w'.heap[k]?=w.heap[k]?):DM w' d D vs vp va pl:=by
 refine⟨h.box.same hd,h.ships.same fun k cur f hk=>hs k cur _ f hk (Or.inl rfl),h.plan,h.row.same fun k cur f hk=>hs k cur _ f hk (Or.inr (Or.inl rfl)),?_,h.old,h.far⟩
 have ha:=h.asd
 cases e:D.asd with
 | none=>rw [e] at ha;exact ha
 | some q =>
  rw [e] at ha
  obtain⟨g,vq,h1,h2,h3⟩:=ha
  exact⟨g,vq,h1,⟨h2.1,(hs g _ _ _ h2.2 (Or.inr (Or.inr rfl))).trans h2.2⟩,h3.same fun k cur f hk=>hs k cur _ f hk (Or.inl rfl)⟩
theorem DM.later {w w':World} {d:Nat} {D:Dk} {vs vp va:Value} {pl:List Int} (h:DM w d D vs vp va pl) (hb:Below w.heap.size w w'):DM w' d D vs vp va pl :=
 h.same (hb.block d h.lt) fun k cur t f hk _=>hb.block k (Array.getElem?_eq_some_iff.1 hk).1
theorem Dsk.later {w w':World} {d:Nat} {D:Dk} (h:Dsk w d D) (hb:Below w.heap.size w w'):Dsk w' d D:=by
 obtain⟨vs,vp,va,pl,h⟩:=h
 exact⟨vs,vp,va,pl,h.later hb⟩
theorem jeh {w:World} {k g:Nat} {cur c:Array Value} {t u:TypeId} {f f':Nat×Nat} (hk:w.heap[k]?=some (Obj.cells cur t f)) (hg:w.heap[g]?=some (Obj.cells c u f')) (ht:t≠u):k≠g:=fun e=>by
 subst e
 rw [hg] at hk
 injection hk with hk
 injection hk with _ hk
 exact ht hk.symm
theorem Dsk.written {w w':World} {d g:Nat} {D:Dk} {c:Array Value} {u:TypeId} {f:Nat×Nat} (h:Dsk w d D) (hg:w.heap[g]?=some (Obj.cells c u f)) (h0:u≠59) (h1:u≠46) (h2:u≠3) (h3:u≠41) (hs:∀ k,k≠g→w'.heap[k]?=w.heap[k]?):Dsk w' d D:=by
 obtain⟨vs,vp,va,pl,h⟩:=h
 exact⟨vs,vp,va,pl,h.same (hs d (jeh h.box.box hg (fun e=>h0 e.symm))) fun k cur t f' hk ht=>hs k (jeh hk hg (ht.ne h1 h2 h3))⟩
theorem Dsk.other {w w':World} {d d':Nat} {D D':Dk} (h:Dsk w d D) (h':Dsk w d' D') (hf:Fr d' w w') (hne:d≠d'):Dsk w' d D:=by
 obtain⟨vs,vp,va,pl,h⟩:=h
 obtain⟨_,_,_,_,h'⟩:=h'
 exact⟨vs,vp,va,pl,h.same (hf.rest d hne h.lt) fun k cur t f hk ht=>hf.rest k (jeh hk h'.box.box (ht.ne (by decide) (by decide) (by decide))) (Array.getElem?_eq_some_iff.1 hk).1⟩
theorem LW.fr {w w':World} {d:Nat} (h:LW w) (hf:Fr d w w') (hd:∀ u∈usedG,u < d):LW w':=h.same fun u hu=>hf.rest u (by have:=hd u hu;omega) (h.lt u hu)
theorem DM.pv {w:World} {d:Nat} {D:Dk} {vs vp va:Value} {pl:List Int} (h:DM w d D vs vp va pl) (hp:jaj D.p):PtV w (.agg (jaa D.p vs).toArray) D.p :=
 ⟨vs,rfl,h.ships.sl,h.box.four,by have:=hp.port.len;omega⟩
theorem jfj (d:Nat) (t:TypeId) (f:Nat×Nat):∀ (vs:List Value) (o:Nat) (w:World) (cur:Array Value),w.heap[d]?=some (.cells cur t f)→o+vs.length≤cur.size→(w.setCells d o vs).heap[d]?=some (.cells (cur.toList.take o++vs++cur.toList.drop (o+vs.length)).toArray t f)
 | [],o,w,cur,hg,hl=>by
  show w.heap[d]?=_
  rw [hg]
  simp
 | v::r,o,w,cur,hg,hl=>by
  have hl':o < cur.size:=by simp at hl;omega
  have h1:(w.setCell ⟨d,o,none⟩ v).heap[d]?=some (.cells (cur.setIfInBounds o v) t f):=by rw [setCell_eq_setRow w d o _ _ _ _ hg,setRow_heap w d _ _ _ _ hg]
  have:=jfj d t f r (o+1) _ _ h1 (by simp at hl ⊢;omega)
  show((w.setCell ⟨d,o,none⟩ v).setCells d (o+1) r).heap[d]?=_
  rw [this]
  congr 2
  congr 1
  simp only [Array.toList_setIfInBounds,List.length_cons]
  have e1:(cur.toList.set o v).take (o+1)=cur.toList.take o++[v]:=by
   rw [List.take_add_one,List.take_set_of_le (Nat.le_refl _),List.getElem?_set_self (by simpa using hl')]
   rfl
  have e2:(cur.toList.set o v).drop (o+1+r.length)=cur.toList.drop (o+(r.length+1)):=by
   rw [List.drop_set_of_lt (by omega),show o+1+r.length=o+(r.length+1) by omega]
  rw [e1,e2]
  simp
theorem jfk {d:Nat}:∀ (vs:List Value) (o:Nat) (w:World),Fr d w (w.setCells d o vs)
 | [],_,w=>Fr.refl d w
 | v::r,o,w=>(Fr.set w o v).trans (jfk r (o+1) _)
theorem DBx.setPort {w:World} {d:Nat} {p q:Pt} {vs vq vp va:Value} {n:Int} (h:DBx w d p vs vp va n) (h4:q.kept.length=4):DBx (w.setCells d 0 (jaa q vq)) d q vq vp va n:=by
 refine⟨h4,?_⟩
 have hl:=h.len
 rw [jfj d _ _ (jaa q vq) 0 w _ h.box (by simp [jdk,jav q vq h4,hl])]
 congr 2
 congr 1
 simp only [List.take_zero,List.nil_append,Nat.zero_add,jav q vq h4]
 unfold jdk
 rw [List.drop_append,List.drop_of_length_le (by omega),hl]
 rfl
theorem DBx.there {w:World} {d:Nat} {p:Pt} {vs vp va:Value} {n:Int} (h:DBx w d p vs vp va n):w.there d 0 16:=fun j hj=>by
 refine⟨?_,by rw [Nat.zero_add];exact h.frozen j⟩
 rw [Nat.zero_add,h.cell]
 have:j < (jdk p vs vp va n).length:=by simp [jdk,h.len];omega
 rw [List.getElem?_eq_getElem this]
 rfl
theorem jhd {w:World} {ops:Array Oper} {rest:List Oper} {o:Oper} {a:Act} {Q:Exit→Act→World→Prop} (hgd:o.guard=none) (x y:Operand) (ho:o.op=.store 41 x y) (d:Nat) (p q:Pt) (vs vq vp va:Value) (n:Int)
  (hx:a.eval x=.pointer (some ⟨d,0,none⟩)) (hy:a.eval y=.agg (jaa q vq).toArray) (hA:DBx w d p vs vp va n) (h4:q.kept.length=4) (hv:vq.oneCell'=true)
  (h:∀ w',Hid (DBx w' d q vq vp va n∧Fr d w w')→wpList Tryz.prog ops Q rest (a.put o.dst undef) w'):wpList Tryz.prog ops Q (o::rest) a w:=by
 have hs:(jaa q vq).toArray.size=16:=by simp [jav q vq h4]
 refine wpList_store_mid hgd 41 x y ho d 0 (jaa q vq).toArray hx hy (by rw [hs];exact hA.there) (by rw [hs];exact jgu) (all_oneCell_toArray (jc7 q vq hv)) (h _ ⟨?_,jfk _ _ _⟩)
 exact hA.setPort h4
theorem jdq {w:World} {ops:Array Oper} {rest:List Oper} {o:Oper} {a:Act} {Q:Exit→Act→World→Prop} (hgd:o.guard=none) (x:Operand) (ho:o.op=.load 41 x) (d:Nat) (p:Pt) (vs vp va:Value) (n:Int)
  (hx:a.eval x=.pointer (some ⟨d,0,none⟩)) (hA:DBx w d p vs vp va n) (h:wpList Tryz.prog ops Q rest (a.put o.dst (.agg (jaa p vs).toArray)) w):wpList Tryz.prog ops Q (o::rest) a w :=
 wpList_load_mid hgd 41 x ho d 0 hx (jaa p vs) _ hA.port Tryz.underlying41 rfl (jbg p vs hA.four) h
theorem jf5 (d:Nat) (D:Dk) (q:Pt) (vq:Value) (w:World) (hD:Dsk w d D) (hp:jaj D.p) (hq:jaj q) (hv:RowT 46 cShip w vq q.ships) :
  Calls Tryz.prog 64 #[.pointer (some ⟨d,0,none⟩),.agg (jaa q vq).toArray] w fun e w'=>e=.returned (.tuple #[])∧Dsk w' d { D with p:=q }∧Fr d w w':=by
 obtain⟨vs,vp,va,pl,hM⟩:=hD
 have h4:=hq.port.four
 have hpl:=hM.plan
 obtain⟨pa,pc,hvp⟩:=hM.row.shape
 subst hvp
 have hMP:=fun W h1 h2 h3=>jhw (.agg (jaa D.p vs).toArray) (.agg (jaa q vq).toArray) (.slice pa pl.length pc) D.p q pl W h1 h2 hp hq h3 hpl
 have hba:Below w.heap.size w (w.alloc (.cells (jaa q vq).toArray 41)):=(Below.refl _ w).alloc (Nat.le_refl _) _
 have E0:Hid (DM (w.alloc (.cells (jaa q vq).toArray 41)).drew d D vs (.slice pa pl.length pc) va pl∧PBox (w.alloc (.cells (jaa q vq).toArray 41)).drew w.heap.size q vq∧RowT 46 cShip (w.alloc (.cells (jaa q vq).toArray 41)).drew vq q.ships∧Fr d w (w.alloc (.cells (jaa q vq).toArray 41)).drew):=by
  have hd:Below (w.alloc (.cells (jaa q vq).toArray 41)).heap.size (w.alloc (.cells (jaa q vq).toArray 41)) (w.alloc (.cells (jaa q vq).toArray 41)).drew:=(Below.refl _ _).drew
  have hX:=PBox.new w q vq h4
  have hlt:=hM.lt
  exact⟨(hM.later hba).later hd,hX.later hd hX.lt,(hv.later hba).later hd,(Fr.of hba (by omega)).trans (Fr.drew _)⟩
 have HD:Hid (d < w.heap.size∧jaj D.p∧jaj q):=⟨hM.lt,hp,hq⟩
 have HV1:=hv.one
 clear hba hM hpl hv hp hq
 generalize hPC:(jaa D.p vs).toArray=PC at *
 generalize hQC:(jaa q vq).toArray=QC at *
 have HPC:Hid ((jaa D.p vs).toArray=PC):=hPC
 have HQC:Hid ((jaa q vq).toArray=QC):=hQC
 clear hPC hQC
 go_enter Tryz.func64,Tryz.ntmps64
 go_upto_region 1 with fail
 generalize hW0:w.alloc (.cells QC 41)=W0 at *
 generalize hz:w.heap.size=z at *
 refine wp_region_held_drew (S:=fun W=>Hid (PBox W z q vq∧∃ x,DBx W d D.p vs x va D.n)) (by kernel_rfl) ⟨E0.out.2.1,_,E0.out.1.box⟩ (fun hHeld=>?_)
 refine jjT 0 ⟨some 5,.move (.tmp 0),31,"obey.go:114",#[],none⟩ (?_) rfl (by kernel_rfl) (fun _ _ _ h=>h) (Or.inl ⟨by rfl,?_⟩) hHeld ?_
 rotate_left
 ·(intro w hSw;first|(go_simp;done)|(go_simp;with_reducible rfl))
 simp only [Act.put,jjA,jjB,jjC]
 refine jjT 1 ⟨some 6,.move (.tmp 0),31,"obey.go:114",#[],none⟩ (?_) rfl (by kernel_rfl) (fun _ _ _ h=>h) (Or.inl ⟨by rfl,?_⟩) hHeld ?_
 rotate_left
 ·(intro w hSw;first|(go_simp;done)|(go_simp;with_reducible rfl))
 simp only [Act.put,jjA,jjB,jjC]
 refine jjT 2 ⟨some 7,.nilCheck (.tmp 6),0,"obey.go:114",#[⟨1,.data⟩],none⟩ (?_) rfl (by kernel_rfl) (fun _ _ _ h=>h) (Or.inl ⟨by rfl,?_⟩) hHeld ?_
 rotate_left
 ·(intro w hSw;first|(go_simp;done)|(go_simp;with_reducible rfl))
 simp only [Act.put,jjA,jjB,jjC]
 refine jjT 3 ⟨some 8,.fieldAddr 59 (.tmp 7) 0,0,"obey.go:114",#[⟨2,.data⟩],none⟩ (?_) rfl (by kernel_rfl) (fun _ _ _ h=>h) (Or.inl ⟨by rfl,?_⟩) hHeld ?_
 rotate_left
 ·(intro w hSw;first|(go_simp;done)|(go_simp;with_reducible rfl))
 simp only [Act.put,jjA,jjB,jjC]
 refine jjT 4 ⟨some 9,.load 41 (.tmp 8),41,"obey.go:114",#[⟨3,.data⟩],none⟩ (.agg PC) rfl (by kernel_rfl) (fun _ _ _ h=>h) (by rw [← HPC.out];exact yieldsIf_load_mid (by rfl) 41 (.tmp 8) rfl d 0 rfl (jaa D.p vs) _ (fun W hW=>by obtain⟨_,h⟩:=hW.out.2;exact h.port) Tryz.underlying41 rfl (jbg D.p vs E0.out.1.box.four)) hHeld ?_
 simp only [Act.put,jjA,jjB,jjC]
 refine jjT 5 ⟨some 10,.load 41 (.tmp 3),41,"obey.go:114",#[],none⟩ (.agg QC) rfl (by kernel_rfl) (fun _ _ _ h=>h) (by rw [← HQC.out];exact yieldsIf_load_mid (by rfl) 41 (.tmp 3) rfl z 0 rfl (jaa q vq) _ (fun W hW=>hW.out.1.whole) Tryz.underlying41 rfl (jbg q vq h4)) hHeld ?_
 simp only [Act.put,jjA,jjB,jjC]
 refine jjT 6 ⟨some 11,.move (.tmp 0),31,"obey.go:114",#[],none⟩ (?_) rfl (by kernel_rfl) (fun _ _ _ h=>h) (Or.inl ⟨by rfl,?_⟩) hHeld ?_
 rotate_left
 ·(intro w hSw;first|(go_simp;done)|(go_simp;with_reducible rfl))
 simp only [Act.put,jjA,jjB,jjC]
 refine jjT 7 ⟨some 12,.nilCheck (.tmp 11),0,"obey.go:114",#[⟨6,.data⟩],none⟩ (?_) rfl (by kernel_rfl) (fun _ _ _ h=>h) (Or.inl ⟨by rfl,?_⟩) hHeld ?_
 rotate_left
 ·(intro w hSw;first|(go_simp;done)|(go_simp;with_reducible rfl))
 simp only [Act.put,jjA,jjB,jjC]
 refine jjT 8 ⟨some 13,.fieldAddr 59 (.tmp 12) 1,0,"obey.go:114",#[⟨7,.data⟩],none⟩ (?_) rfl (by kernel_rfl) (fun _ _ _ h=>h) (Or.inl ⟨by rfl,?_⟩) hHeld ?_
 rotate_left
 ·(intro w hSw;first|(go_simp;done)|(go_simp;with_reducible rfl))
 simp only [Act.put,jjA,jjB,jjC]
 have c16:=E0.out.1.box.cells.2.2.1
 refine jjR 9 (by kernel_rfl) rfl fun K hK=>?_
 go_simp
 refine hK.out _ _ hHeld (fun hHeld=>?_)
 clear hK K
 refine jjR 10 (by kernel_rfl) rfl fun K hK=>?_
 go_simp
 refine(hMP _ (by have:=E0.out.1.pv HD.out.2.1;rw [HPC.out] at this;exact this) (by rw [← HQC.out];exact⟨vq,rfl,E0.out.2.2.1.sl,h4,by have:=HD.out.2.2.port.len;omega⟩) E0.out.1.row.sl).mono ?_
 rintro e w1 ⟨g1,n1,rfl,h1⟩
 have E1:Hid (DM w1 d D vs (.slice pa pl.length pc) va pl∧PBox w1 z q vq∧RowT 46 cShip w1 vq q.ships∧Fr d w w1∧∃ pl',jbd q pl'∧RowT 3 cInt w1 (.slice (some ⟨g1,0,none⟩) q.ships.length q.ships.length) pl'):=by
  obtain⟨⟨pl',k1,k2⟩,_,_,hb⟩:=h1.out
  have k3:=RowT.ownK k2
  rw [k1.len] at k3
  exact⟨E0.out.1.later hb,E0.out.2.1.later hb E0.out.2.1.lt,E0.out.2.2.1.later hb,E0.out.2.2.2.trans (Fr.of hb (by have:=E0.out.1.lt;omega)),pl',k1,k3⟩
 clear h1 hMP c16 E0
 go_wp2_with fail
 refine hK.out _ _ ⟨E1.out.2.1,_,E1.out.1.box⟩ (fun hHeld=>?_)
 clear hK K
 refine jjT 11 ⟨some 4,.move (.tmp 15),108,"obey.go:114",#[⟨10,.data⟩],none⟩ (?_) rfl (by kernel_rfl) (fun _ _ _ h=>h) (Or.inl ⟨by rfl,?_⟩) hHeld ?_
 rotate_left
 ·(intro w hSw;first|(go_simp;done)|(go_simp;with_reducible rfl))
 simp only [Act.put,jjA,jjB,jjC]
 refine jjT 12 ⟨some 16,.extract (.tmp 4) 0,43,"obey.go:114",#[⟨11,.data⟩],none⟩ (?_) rfl (by kernel_rfl) (fun _ _ _ h=>h) (Or.inl ⟨by rfl,?_⟩) hHeld ?_
 rotate_left
 ·(intro w hSw;first|(go_simp;done)|(go_simp;with_reducible rfl))
 simp only [Act.put,jjA,jjB,jjC]
 refine jjT 13 ⟨some 17,.extract (.tmp 4) 1,3,"obey.go:114",#[⟨11,.data⟩,⟨16,.gcOnly .lateStores⟩],none⟩ (?_) rfl (by kernel_rfl) (fun _ _ _ h=>h) (Or.inl ⟨by rfl,?_⟩) hHeld ?_
 rotate_left
 ·(intro w hSw;first|(go_simp;done)|(go_simp;with_reducible rfl))
 simp only [Act.put,jjA,jjB,jjC]
 refine jjT 14 ⟨some 18,.nilCheck (.tmp 5),0,"obey.go:114",#[⟨0,.data⟩,⟨0,.phase⟩,⟨1,.phase⟩,⟨2,.phase⟩,⟨3,.phase⟩,⟨4,.phase⟩,⟨5,.phase⟩,⟨6,.phase⟩,⟨7,.phase⟩,⟨8,.phase⟩,⟨9,.phase⟩,⟨10,.phase⟩,⟨11,.phase⟩,⟨12,.phase⟩,⟨13,.textOnly .lateStores⟩],none⟩ (?_) rfl (by kernel_rfl) (fun _ _ _ h=>h) (Or.inl ⟨by rfl,?_⟩) hHeld ?_
 rotate_left
 ·(intro w hSw;first|(go_simp;done)|(go_simp;with_reducible rfl))
 simp only [Act.put,jjA,jjB,jjC]
 refine jjT 15 ⟨some 19,.fieldAddr 59 (.tmp 18) 1,0,"obey.go:114",#[⟨14,.data⟩,⟨0,.phase⟩,⟨1,.phase⟩,⟨2,.phase⟩,⟨3,.phase⟩,⟨4,.phase⟩,⟨5,.phase⟩,⟨6,.phase⟩,⟨7,.phase⟩,⟨8,.phase⟩,⟨9,.phase⟩,⟨10,.phase⟩,⟨11,.phase⟩,⟨12,.phase⟩,⟨13,.textOnly .lateStores⟩],none⟩ (?_) rfl (by kernel_rfl) (fun _ _ _ h=>h) (Or.inl ⟨by rfl,?_⟩) hHeld ?_
 rotate_left
 ·(intro w hSw;first|(go_simp;done)|(go_simp;with_reducible rfl))
 simp only [Act.put,jjA,jjB,jjC]
 have c16:=E1.out.1.box.cells.2.2.1
 have f16:=E1.out.1.box.frozen 16
 have B2:Hid (DBx (w1.setCell ⟨d,16,none⟩ (.slice (some ⟨g1,0,none⟩) q.ships.length q.ships.length)) d D.p vs (.slice (some ⟨g1,0,none⟩) q.ships.length q.ships.length) va D.n∧PBox (w1.setCell ⟨d,16,none⟩ (.slice (some ⟨g1,0,none⟩) q.ships.length q.ships.length)) z q vq):=⟨E1.out.1.box.setPlan _,E1.out.2.1.other 16 _ (by have:=HD.out.1;omega)⟩
 refine jjR 16 (by kernel_rfl) rfl fun K hK=>?_
 go_simp
 refine hK.out _ _ ⟨B2.out.2,_,B2.out.1⟩ (fun hHeld=>?_)
 clear hK K hHeld
 refine wpAnyH_done (by kernel_rfl) ?_ _
 clear c16 f16
 generalize hW2:w1.setCell ⟨d,16,none⟩ (.slice (some ⟨g1,0,none⟩) q.ships.length q.ships.length)=W2 at *
 have F2:Hid (Fr d w1 W2):=by rw [← hW2];exact Fr.set _ _ _
 clear hW2
 go_wp2_with (first|(refine jac rfl _ rfl z q vq rfl B2.out.2 ?_)|(refine jhd rfl _ _ rfl d D.p q vs vq (.slice (some ⟨g1,0,none⟩) q.ships.length q.ships.length) va D.n rfl rfl B2.out.1 h4 HV1 ?_;intro w3 h3))
 go_end0
 obtain⟨_,_,h5,h6,pl',k1,k2⟩:=E1.out
 have F3:=F2.out.trans h3.out.2
 have hb:=E1.out.1.box
 exact⟨rfl,⟨vq,_,va,pl',h3.out.1,h5.fr F3 hb (by decide),k1,k2.fr F3 hb (by decide),E1.out.1.asd.fr F3 hb,E1.out.1.old,E1.out.1.far⟩,h6.trans F3⟩
theorem jbq {w:World} {ops:Array Oper} {o:Oper} {a:Act} {K:Act→World→Prop} {Q:Exit→Act→World→Prop} {E:Prop} (hgd:o.guard=none) (ho:o.op=.alloc 41) (d:Nat) (hd:o.dst=some d)
  (h:∀ w',Hid (PBox w' w.heap.size jaf (.slice none 0 0)∧Below w.heap.size w w')→K (a.put (some d) (.pointer (some ⟨w.heap.size,0,none⟩))) w'):if Region.wanted o (yielded ops a.tmps)=true then Oper.wp Tryz.prog o a w K Q else E:=by
 have hw:Region.wanted o (yielded ops a.tmps)=true:=by simp [Region.wanted,hgd]
 rw [if_pos hw]
 have hz:=jhu w
 unfold Oper.wp execOp
 simp only [ho]
 simp [Instr.alloc,hz,newVar,newRow,Result.andThen,Value.cells]
 rw [← hd] at h
 exact h _ ⟨⟨rfl,heap_alloc_new w _⟩,(Below.refl _ w).alloc (Nat.le_refl _) _⟩
theorem jbp {w:World} {ops:Array Oper} {o:Oper} {a:Act} {K:Act→World→Prop} {Q:Exit→Act→World→Prop} {E:Prop} (hgd:o.guard=none) (x y:Operand) (ho:o.op=.store 41 x y) (g:Nat) (old p:Pt) (ov vs:Value)
  (hx:a.eval x=.pointer (some ⟨g,0,none⟩)) (hy:a.eval y=.agg (jaa p vs).toArray) (hA:PBox w g old ov) (h4:p.kept.length=4) (hv:vs.oneCell'=true) (hd:o.dst=none)
  (h:∀ w',Hid (PBox w' g p vs∧(∀ k,k≠g→w'.heap[k]?=w.heap[k]?)∧∀ B,B≤g→Below B w w')→K a w'):if Region.wanted o (yielded ops a.tmps)=true then Oper.wp Tryz.prog o a w K Q else E:=by
 have hw:Region.wanted o (yielded ops a.tmps)=true:=by simp [Region.wanted,hgd]
 rw [if_pos hw]
 have hst:=run_storeVar_row (P:=Tryz.prog) w g _ 41 (jaa old ov).toArray (jaa p vs).toArray hA.2 (by rw [jgu];simp [jav p vs h4]) (by simp [jav p vs h4,jav old ov hA.1]) (all_oneCell_toArray (jc7 p vs hv))
 unfold Oper.wp execOp
 simp only [ho,hx,hy,Instr.storeAt,Instr.sureAddr,Sem.run_bind,Sem.run_pure,Result.andThen_ok,hst]
 have ha:∀ x,a.put o.dst x=a:=fun x=>by rw [hd];rfl
 refine(congrArg (fun b=>K b _) (ha _)).mpr ?_
 exact h _ ⟨⟨h4,setRow_heap w g _ _ _ _ hA.2⟩,fun k hk=>setRow_other w g k _ (by omega),fun B hB=>below_setRow (Below.refl B w) hB _⟩
theorem jnp (d:Nat) (D:Dk) (w:World) (hD:Dsk w d D) (hp:jaj D.p) :
  Calls Tryz.prog 65 #[.pointer (some ⟨d,0,none⟩)] w fun e w'=>e=.returned (.tuple #[])∧Hid (∃ r,jc3 D.p r∧Dsk w' d { D with p:=r }∧Fr d w w'):=by
 obtain⟨vs,vp,va,pl,hM⟩:=hD
 have hpl:=hM.plan
 obtain⟨pa,pc,hvp⟩:=hM.row.shape
 subst hvp
 have hl15:=hp.port.len
 have HDU:=fun W h1 h2=>ju9 (.agg (jaa D.p vs).toArray) (.slice pa pl.length pc) D.p pl W h1 h2 (by have:=hpl.len;omega)
 have hq:=jkd hp hpl
 have HBE:=fun v W h1 h2=>jf5 d D (dueP D.p pl) v W h1 hp hq h2
 have h4:(dueP D.p pl).kept.length=4:=hq.port.four
 have AD:Hid (jc3 D.p (dueP D.p pl)):=⟨pl,hpl,rfl⟩
 have E0:Hid (DM w.drew d D vs (.slice pa pl.length pc) va pl∧Fr d w w.drew):=⟨hM.later ((Below.refl _ w).drew),Fr.drew w⟩
 have HP:Hid (jaj D.p∧d < w.heap.size):=⟨hp,hM.lt⟩
 clear hM hpl hp hq
 generalize hPC:(jaa D.p vs).toArray=PC at *
 have HPC:Hid ((jaa D.p vs).toArray=PC):=hPC
 clear hPC
 go_enter Tryz.func65,Tryz.ntmps65
 go_upto_region 0 with fail
 go_cut [2] (fun s2 wc=>∃ g,s2=.pointer (some ⟨g,0,none⟩)∧Hid (∃ v5,PBox wc g (dueP D.p pl) v5∧RowT 46 cShip wc v5 (dueP D.p pl).ships∧DM wc d D vs (.slice pa pl.length pc) va pl∧Fr d w wc))
 case first =>
  clear HBE
  refine wp_region_held_drew (S:=fun W=>Hid (DM W d D vs (.slice pa pl.length pc) va pl∧Fr d w W)) (by kernel_rfl) E0 (fun hHeld=>?_)
  refine jjT 0 ⟨some 5,.move (.tmp 0),31,"obey.go:120",#[],none⟩ (?_) rfl (by kernel_rfl) (fun _ _ _ h=>h) (Or.inl ⟨by rfl,?_⟩) hHeld ?_
  rotate_left
  ·(intro w hSw;first|(go_simp;done)|(go_simp;with_reducible rfl))
  simp only [Act.put,jjA,jjB,jjC]
  refine jjT 1 ⟨some 6,.nilCheck (.tmp 5),0,"obey.go:120",#[⟨0,.data⟩],none⟩ (?_) rfl (by kernel_rfl) (fun _ _ _ h=>h) (Or.inl ⟨by rfl,?_⟩) hHeld ?_
  rotate_left
  ·(intro w hSw;first|(go_simp;done)|(go_simp;with_reducible rfl))
  simp only [Act.put,jjA,jjB,jjC]
  refine jjT 2 ⟨some 7,.fieldAddr 59 (.tmp 6) 0,0,"obey.go:120",#[⟨1,.data⟩],none⟩ (?_) rfl (by kernel_rfl) (fun _ _ _ h=>h) (Or.inl ⟨by rfl,?_⟩) hHeld ?_
  rotate_left
  ·(intro w hSw;first|(go_simp;done)|(go_simp;with_reducible rfl))
  simp only [Act.put,jjA,jjB,jjC]
  refine jjT 3 ⟨some 8,.load 41 (.tmp 7),41,"obey.go:120",#[⟨2,.data⟩],none⟩ (.agg PC) rfl (by kernel_rfl) (fun _ _ _ h=>h) (by rw [← HPC.out];exact yieldsIf_load_mid (by rfl) 41 (.tmp 7) rfl d 0 rfl (jaa D.p vs) _ (fun W hW=>hW.out.1.box.port) Tryz.underlying41 rfl (jbg D.p vs E0.out.1.box.four)) hHeld ?_
  simp only [Act.put,jjA,jjB,jjC]
  refine jjT 4 ⟨some 9,.move (.tmp 0),31,"obey.go:120",#[],none⟩ (?_) rfl (by kernel_rfl) (fun _ _ _ h=>h) (Or.inl ⟨by rfl,?_⟩) hHeld ?_
  rotate_left
  ·(intro w hSw;first|(go_simp;done)|(go_simp;with_reducible rfl))
  simp only [Act.put,jjA,jjB,jjC]
  refine jjT 5 ⟨some 10,.nilCheck (.tmp 9),0,"obey.go:120",#[⟨4,.data⟩],none⟩ (?_) rfl (by kernel_rfl) (fun _ _ _ h=>h) (Or.inl ⟨by rfl,?_⟩) hHeld ?_
  rotate_left
  ·(intro w hSw;first|(go_simp;done)|(go_simp;with_reducible rfl))
  simp only [Act.put,jjA,jjB,jjC]
  refine jjT 6 ⟨some 11,.fieldAddr 59 (.tmp 10) 1,0,"obey.go:120",#[⟨5,.data⟩],none⟩ (?_) rfl (by kernel_rfl) (fun _ _ _ h=>h) (Or.inl ⟨by rfl,?_⟩) hHeld ?_
  rotate_left
  ·(intro w hSw;first|(go_simp;done)|(go_simp;with_reducible rfl))
  simp only [Act.put,jjA,jjB,jjC]
  refine jjT 7 ⟨some 12,.load 43 (.tmp 11),43,"obey.go:120",#[⟨6,.data⟩],none⟩ (.slice pa pl.length pc) rfl (by kernel_rfl) (fun _ _ _ h=>h) (Or.inl ⟨by rfl,by intro w hSw;have hc:=hSw.out.1.box.cells.2.2.1;go_simp⟩) hHeld ?_
  simp only [Act.put,jjA,jjB,jjC]
  refine wpAnyH_ready (rs:=[8,12]) (by kernel_rfl) (by simp) ?_
  refine AllReadyH.cons rfl (fun K hK=>?_) (AllReadyH.cons rfl (fun K hK=>?_) AllReadyH.nil)
  ·go_simp
   refine(HDU _ (by have:=hHeld.out.1.pv HP.out.1;rw [HPC.out] at this;exact this) hHeld.out.1.row.sl).mono ?_
   rintro e w1 ⟨v5,v2,rfl,h1⟩
   have on5:v5.oneCell'=true:=jam h1.out.1
   have E1:Hid (DM w1 d D vs (.slice pa pl.length pc) va pl∧Fr d w w1∧RowT 46 cShip w1 v5 (dueP D.p pl).ships):=⟨hHeld.out.1.later h1.out.2.2,hHeld.out.2.trans (Fr.of h1.out.2.2 (by have:=hHeld.out.1.lt;omega)),RowT.own (by rw [jfv];exact h1.out.1)⟩
   obtain⟨aw,nw,cw,hv2⟩:∃ a n c,v2=.slice a n c:=by obtain⟨x,c,e⟩:=jan h1.out.2.1;exact⟨x,_,c,e⟩
   subst hv2
   clear h1 HDU hHeld
   go_wp2_with fail
   refine hK.out _ _ ⟨E1.out.1,E1.out.2.1⟩ (fun hHeld=>?_)
   clear hK K
   try ((try dsimp only);simp only [Act.put,jjA,jjB,jjC])
   refine jjT 9 ⟨some 4,.move (.tmp 13),95,"obey.go:120",#[⟨8,.data⟩],none⟩ (.tuple #[.agg (jaa (dueP D.p pl) v5).toArray,.slice aw nw cw]) rfl (by kernel_rfl) (fun _ _ _ h=>h) (Or.inl ⟨by rfl,by intro w hSw;go_simp⟩) hHeld ?_
   simp only [Act.put,jjA,jjB,jjC]
   refine jjT 10 ⟨some 14,.extract (.tmp 4) 0,41,"obey.go:120",#[⟨9,.data⟩],none⟩ (.agg (jaa (dueP D.p pl) v5).toArray) rfl (by kernel_rfl) (fun _ _ _ h=>h) (Or.inl ⟨by rfl,by intro w hSw;go_simp⟩) hHeld ?_
   simp only [Act.put,jjA,jjB,jjC]
   refine jjT 11 ⟨some 15,.extract (.tmp 4) 1,43,"obey.go:120",#[⟨9,.data⟩,⟨13,.gcOnly .lateStores⟩],none⟩ (.slice aw nw cw) rfl (by kernel_rfl) (fun _ _ _ h=>h) (Or.inl ⟨by rfl,by intro w hSw;go_simp⟩) hHeld ?_
   simp only [Act.put,jjA,jjB,jjC]
   refine jjR 12 (by kernel_rfl) rfl fun K hK=>?_
   refine jbq rfl rfl 2 rfl ?_
   intro w2 h2
   refine hK.out _ _ ⟨E1.out.1.later h2.out.2,E1.out.2.1.trans (Fr.of h2.out.2 (by have:=E1.out.1.lt;omega))⟩ (fun hHeld=>?_)
   clear hK K hHeld
   try ((try dsimp only);simp only [Act.put,jjA,jjB,jjC])
   refine jjR 13 (by kernel_rfl) rfl fun K hK=>?_
   refine jbp rfl (.tmp 2) (.tmp 14) rfl _ jaf (dueP D.p pl) (.slice none 0 0) v5 (by simp [Act.eval,Act.put]) (by simp [Act.eval,Act.put]) h2.out.1 h4 on5 rfl ?_
   intro w3 h3
   have E3:Hid (PBox w3 w1.heap.size (dueP D.p pl) v5∧RowT 46 cShip w3 v5 (dueP D.p pl).ships∧DM w3 d D vs (.slice pa pl.length pc) va pl∧Fr d w w3):=by
    have hb:Below w1.heap.size w1 w3:=h2.out.2.trans (h3.out.2.2 _ (Nat.le_refl _))
    exact⟨h3.out.1,E1.out.2.2.later hb,E1.out.1.later hb,E1.out.2.1.trans (Fr.of hb (by have:=E1.out.1.lt;omega))⟩
   clear h2 h3 E1
   refine hK.out _ _ ⟨E3.out.2.2.1,E3.out.2.2.2⟩ (fun hHeld=>?_)
   clear hK K
   refine jjT 14 ⟨some 3,.assign (.tmp 15),43,"obey.go:120",#[⟨11,.data⟩,⟨13,.chain⟩,⟨0,.phase⟩,⟨1,.phase⟩,⟨2,.phase⟩,⟨3,.phase⟩,⟨4,.phase⟩,⟨5,.phase⟩,⟨6,.phase⟩,⟨7,.phase⟩,⟨8,.phase⟩,⟨9,.phase⟩,⟨10,.phase⟩,⟨11,.phase⟩,⟨12,.phase⟩,⟨13,.phase⟩],none⟩ (.slice aw nw cw) rfl (by kernel_rfl) (fun _ _ _ h=>h) (Or.inl ⟨by rfl,by intro w hSw;go_simp⟩) hHeld ?_
   simp only [Act.put,jjA,jjB,jjC]
   refine wpAnyH_done (by kernel_rfl) ?_ _
   clear hHeld
   go_wp2_with fail
   go_meet
   exact⟨_,rfl,v5,E3.out⟩
  ·refine jbq rfl rfl 2 rfl ?_
   intro w1 h1
   have E1:Hid (DM w1 d D vs (.slice pa pl.length pc) va pl∧Fr d w w1∧PBox w1 w.heap.size jaf (.slice none 0 0)):=⟨hHeld.out.1.later h1.out.2,hHeld.out.2.trans (Fr.of h1.out.2 (by have:=hHeld.out.1.lt;omega)),h1.out.1⟩
   have h1b:Hid (Below w.heap.size w.drew w1):=h1.out.2
   clear h1 hHeld
   refine hK.out _ _ ⟨E1.out.1,E1.out.2.1⟩ (fun hHeld=>?_)
   clear hK K
   try ((try dsimp only);simp only [Act.put,jjA,jjB,jjC])
   refine jjR 8 (by kernel_rfl) rfl fun K hK=>?_
   go_simp
   refine(HDU _ (by have:=hHeld.out.1.pv HP.out.1;rw [HPC.out] at this;exact this) hHeld.out.1.row.sl).mono ?_
   rintro e w2 ⟨v5,v2,rfl,h2⟩
   have on5:v5.oneCell'=true:=jam h2.out.1
   obtain⟨aw,nw,cw,hv2⟩:∃ a n c,v2=.slice a n c:=by obtain⟨x,c,e⟩:=jan h2.out.2.1;exact⟨x,_,c,e⟩
   subst hv2
   have E2:Hid (DM w2 d D vs (.slice pa pl.length pc) va pl∧Fr d w w2∧PBox w2 w.heap.size jaf (.slice none 0 0)):=⟨E1.out.1.later h2.out.2.2,E1.out.2.1.trans (Fr.of h2.out.2.2 (by have:=E1.out.1.lt;omega)),E1.out.2.2.later h2.out.2.2 E1.out.2.2.lt⟩
   have O2:Hid (w2.ownsRow w1.heap.size 46 6 v5 D.p.ships.length (jae cShip (dueP D.p pl).ships)∧Below w1.heap.size w1 w2):=⟨h2.out.1,h2.out.2.2⟩
   clear h2 HDU hHeld
   go_wp2_with fail
   refine hK.out _ _ ⟨E2.out.1,E2.out.2.1⟩ (fun hHeld=>?_)
   clear hK K
   try ((try dsimp only);simp only [Act.put,jjA,jjB,jjC])
   refine jjT 9 ⟨some 4,.move (.tmp 13),95,"obey.go:120",#[⟨8,.data⟩],none⟩ (.tuple #[.agg (jaa (dueP D.p pl) v5).toArray,.slice aw nw cw]) rfl (by kernel_rfl) (fun _ _ _ h=>h) (Or.inl ⟨by rfl,by intro w hSw;go_simp⟩) hHeld ?_
   simp only [Act.put,jjA,jjB,jjC]
   refine jjT 10 ⟨some 14,.extract (.tmp 4) 0,41,"obey.go:120",#[⟨9,.data⟩],none⟩ (.agg (jaa (dueP D.p pl) v5).toArray) rfl (by kernel_rfl) (fun _ _ _ h=>h) (Or.inl ⟨by rfl,by intro w hSw;go_simp⟩) hHeld ?_
   simp only [Act.put,jjA,jjB,jjC]
   refine jjT 11 ⟨some 15,.extract (.tmp 4) 1,43,"obey.go:120",#[⟨9,.data⟩,⟨13,.gcOnly .lateStores⟩],none⟩ (.slice aw nw cw) rfl (by kernel_rfl) (fun _ _ _ h=>h) (Or.inl ⟨by rfl,by intro w hSw;go_simp⟩) hHeld ?_
   simp only [Act.put,jjA,jjB,jjC]
   refine jjR 13 (by kernel_rfl) rfl fun K hK=>?_
   refine jbp rfl (.tmp 2) (.tmp 14) rfl _ jaf (dueP D.p pl) (.slice none 0 0) v5 (by simp [Act.eval,Act.put]) (by simp [Act.eval,Act.put]) E2.out.2.2 h4 on5 rfl ?_
   intro w3 h3
   have E3:Hid (PBox w3 w.heap.size (dueP D.p pl) v5∧RowT 46 cShip w3 v5 (dueP D.p pl).ships∧DM w3 d D vs (.slice pa pl.length pc) va pl∧Fr d w w3):=by
    have hb:Below w.heap.size w.drew w3:=((h1b.out).trans (O2.out.2.mono (by have:=E1.out.2.2.lt;omega))).trans (h3.out.2.2 _ (Nat.le_refl _))
    refine⟨h3.out.1,RowT.own (B:=w1.heap.size) (by rw [jfv];exact jal O2.out.1 fun k hk=>h3.out.2.1 k (by have:=E1.out.2.2.lt;omega)),E0.out.1.later hb,E0.out.2.trans (Fr.of hb (by have:=E0.out.1.lt;omega))⟩
   clear h3 E1 E2 O2
   refine hK.out _ _ ⟨E3.out.2.2.1,E3.out.2.2.2⟩ (fun hHeld=>?_)
   clear hK K
   refine jjT 14 ⟨some 3,.assign (.tmp 15),43,"obey.go:120",#[⟨11,.data⟩,⟨13,.chain⟩,⟨0,.phase⟩,⟨1,.phase⟩,⟨2,.phase⟩,⟨3,.phase⟩,⟨4,.phase⟩,⟨5,.phase⟩,⟨6,.phase⟩,⟨7,.phase⟩,⟨8,.phase⟩,⟨9,.phase⟩,⟨10,.phase⟩,⟨11,.phase⟩,⟨12,.phase⟩,⟨13,.phase⟩],none⟩ (.slice aw nw cw) rfl (by kernel_rfl) (fun _ _ _ h=>h) (Or.inl ⟨by rfl,by intro w hSw;go_simp⟩) hHeld ?_
   simp only [Act.put,jjA,jjB,jjC]
   refine wpAnyH_done (by kernel_rfl) ?_ _
   clear hHeld
   go_wp2_with fail
   go_meet
   exact⟨_,rfl,v5,E3.out⟩
 case rest =>
  obtain⟨g,rfl,C⟩:=hcut
  obtain⟨v5,c1,c2,c3,c4⟩:=C.out
  have C2:Hid (PBox wc g (dueP D.p pl) v5∧RowT 46 cShip wc v5 (dueP D.p pl).ships∧Dsk wc d D∧Fr d w wc):=⟨c1,c2,⟨_,_,_,_,c3⟩,c4⟩
  clear C c1 c2 c3 c4 HDU E0
  go_wp2_with (refine jac rfl _ rfl g (dueP D.p pl) v5 rfl C2.out.1 ?_)
  refine(HBE v5 _ C2.out.2.2.1 C2.out.2.1).mono ?_
  rintro e w5 ⟨rfl,h5,h6⟩
  have R:Hid (∃ r,jc3 D.p r∧Dsk w5 d { D with p:=r }∧Fr d w w5):=⟨_,AD.out,h5,C2.out.2.2.2.trans h6⟩
  clear h5 h6
  go_wp2_with fail
  go_end0
  exact⟨rfl,R⟩
end Go.Proofs.YtcmdoeledmkfmacGreatDoor
