/- Texts of this claim, in one: RDMem RDue2 RDT0. -/
import Derived.Test.YtcmdoeledmkfmacGreatDoorYS0
import Derived.Deep.RegionHeld
import Derived.Test.YtcmdoeledmkfmacGreatDoorYRefTellAny
import Derived.Test.YtcmdoeledmkfmacGreatDoorSI
import Derived.Test.YtcmdoeledmkfmacGreatDoorSC
import Derived.Test.YtcmdoeledmkfmacGreatDoorSZ
import Derived.Test.YtcmdoeledmkfmacGreatDoorSJ
import Derived.Test.YtcmdoeledmkfmacGreatDoorYRParse
set_option linter.unusedSimpArgs false
set_option linter.unusedVariables false
set_option maxHeartbeats 40000000
set_option maxRecDepth 100000
namespace Go.Proofs.YtcmdoeledmkfmacGreatDoor
open Go.RowKit
def jcj (p:Pt) (vs va:Value) (n:Int):List Value:=jaa p vs++[va,.int .i64 n]
structure RBx (w:World) (d:Nat) (p:Pt) (vs va:Value) (n:Int):Prop where
 four:p.kept.length=4
 box:w.heap[d]?=some (.cells (jcj p vs va n).toArray 54 (0,0))
section
variable {w w':World} {d:Nat} {p:Pt} {vs va:Value} {n:Int}
theorem RBx.lt (h:RBx w d p vs va n):d < w.heap.size:=(Array.getElem?_eq_some_iff.1 h.box).1
theorem RBx.frozen (h:RBx w d p vs va n) (k:Nat):w.frozen? ⟨d,k,none⟩=false:=by simp [World.frozen?,h.box]
theorem RBx.same (h:RBx w d p vs va n) (hs:w'.heap[d]?=w.heap[d]?):RBx w' d p vs va n:=⟨h.four,hs.trans h.box⟩
theorem RBx.later (h:RBx w d p vs va n) (hb:Below w.heap.size w w'):RBx w' d p vs va n:=h.same (hb.block d h.lt)
theorem RBx.len (h:RBx w d p vs va n):(jaa p vs).length=16:=jav p vs h.four
theorem RBx.cell (h:RBx w d p vs va n) (j:Nat):w.cell? ⟨d,j,none⟩=(jcj p vs va n)[j]?:=by rw [cell_of_row _ _ _ _ _ _ h.box,List.getElem?_toArray]
theorem RBx.cells (h:RBx w d p vs va n):w.cell? ⟨d,0,none⟩=some (.int .i64 p.now)∧w.cell? ⟨d,1,none⟩=some vs∧w.cell? ⟨d,16,none⟩=some va∧w.cell? ⟨d,17,none⟩=some (.int .i64 n):=by
 have hl:=h.len
 refine⟨by rw [h.cell];rfl,by rw [h.cell];rfl,?_,?_⟩ <;> (rw [h.cell];unfold jcj;rw [List.getElem?_append_right (by omega),hl];rfl)
theorem RBx.port (h:RBx w d p vs va n):w.rangeAt d 0 (jaa p vs):=fun j v hv=>by
 rw [Nat.zero_add,h.cell]
 unfold jcj
 rw [List.getElem?_append_left (List.getElem?_eq_some_iff.1 hv).1]
 exact hv
theorem RBx.write (h:RBx w d p vs va n) (k:Nat) (v:Value) (p':Pt) (vs' va':Value) (n':Int) (h4:p'.kept.length=4) (he:(jcj p vs va n).set k v=jcj p' vs' va' n'):RBx (w.setCell ⟨d,k,none⟩ v) d p' vs' va' n':=by
 refine⟨h4,?_⟩
 rw [setCell_eq_setRow w d k _ _ _ _ h.box,setRow_heap w d _ _ _ _ h.box,← he]
 congr 2
 simp
theorem RBx.setAside (h:RBx w d p vs va n) (v:Value):RBx (w.setCell ⟨d,16,none⟩ v) d p vs v n:=h.write 16 v _ _ _ _ h.four (by unfold jcj;rw [List.set_append_right _ _ (by rw [h.len];omega),h.len];rfl)
theorem RBx.setActs (h:RBx w d p vs va n) (m:Int):RBx (w.setCell ⟨d,17,none⟩ (.int .i64 m)) d p vs va m:=h.write 17 _ _ _ _ _ h.four (by unfold jcj;rw [List.set_append_right _ _ (by rw [h.len];omega),h.len];rfl)
theorem RBx.there (h:RBx w d p vs va n):w.there d 0 16:=fun j hj=>by
 refine⟨?_,by rw [Nat.zero_add];exact h.frozen j⟩
 rw [Nat.zero_add,h.cell]
 have:j < (jcj p vs va n).length:=by simp [jcj,h.len];omega
 rw [List.getElem?_eq_getElem this]
 rfl
theorem RBx.setPort {q:Pt} {vq:Value} (h:RBx w d p vs va n) (h4:q.kept.length=4):RBx (w.setCells d 0 (jaa q vq)) d q vq va n:=by
 refine⟨h4,?_⟩
 have hl:=h.len
 rw [jfj d _ _ (jaa q vq) 0 w _ h.box (by simp [jcj,jav q vq h4,hl])]
 congr 2
 congr 1
 simp only [List.take_zero,List.nil_append,Nat.zero_add,jav q vq h4]
 unfold jcj
 rw [List.drop_append,List.drop_of_length_le (by omega),hl]
 rfl
end
theorem jex {w:World} {ops:Array Oper} {rest:List Oper} {o:Oper} {a:Act} {Q:Exit→Act→World→Prop} (hgd:o.guard=none) (x:Operand) (ho:o.op=.load 41 x) (d:Nat) (p:Pt) (vs va:Value) (n:Int)
  (hx:a.eval x=.pointer (some ⟨d,0,none⟩)) (hA:RBx w d p vs va n) (h:wpList Tryz.prog ops Q rest (a.put o.dst (.agg (jaa p vs).toArray)) w):wpList Tryz.prog ops Q (o::rest) a w :=
 wpList_load_mid hgd 41 x ho d 0 hx (jaa p vs) _ hA.port Tryz.underlying41 rfl (jbg p vs hA.four) h
theorem jc5 {w:World} {ops:Array Oper} {rest:List Oper} {o:Oper} {a:Act} {Q:Exit→Act→World→Prop} (hgd:o.guard=none) (x y:Operand) (ho:o.op=.store 41 x y) (d:Nat) (p q:Pt) (vs vq va:Value) (n:Int)
  (hx:a.eval x=.pointer (some ⟨d,0,none⟩)) (hy:a.eval y=.agg (jaa q vq).toArray) (hA:RBx w d p vs va n) (h4:q.kept.length=4) (hv:vq.oneCell'=true)
  (h:∀ w',Hid (RBx w' d q vq va n∧Fr d w w')→wpList Tryz.prog ops Q rest (a.put o.dst undef) w'):wpList Tryz.prog ops Q (o::rest) a w:=by
 have hs:(jaa q vq).toArray.size=16:=by simp [jav q vq h4]
 refine wpList_store_mid hgd 41 x y ho d 0 (jaa q vq).toArray hx hy (by rw [hs];exact hA.there) (by rw [hs];exact jgu) (all_oneCell_toArray (jc7 q vq hv)) (h _ ⟨?_,jfk _ _ _⟩)
 exact hA.setPort h4
theorem jdr {w:World} {ops:Array Oper} {o:Oper} {a:Act} {K:Act→World→Prop} {Q:Exit→Act→World→Prop} {E:Prop} (hgd:o.guard=none) (x y:Operand) (ho:o.op=.store 41 x y) (d:Nat) (p q:Pt) (vs vq va:Value) (n:Int)
  (hx:a.eval x=.pointer (some ⟨d,0,none⟩)) (hy:a.eval y=.agg (jaa q vq).toArray) (hA:RBx w d p vs va n) (h4:q.kept.length=4) (hv:vq.oneCell'=true)
  (h:∀ w',Hid (RBx w' d q vq va n∧Fr d w w')→K (a.put o.dst undef) w'):if Region.wanted o (yielded ops a.tmps)=true then Oper.wp Tryz.prog o a w K Q else E:=by
 have hw:Region.wanted o (yielded ops a.tmps)=true:=by simp [Region.wanted,hgd]
 rw [if_pos hw]
 have hs:(jaa q vq).toArray.size=16:=by simp [jav q vq h4]
 exact wp_store_mid 41 x y ho d 0 (jaa q vq).toArray hx hy (by rw [hs];exact hA.there) (by rw [hs];exact jgu) (all_oneCell_toArray (jc7 q vq hv)) (h _ ⟨hA.setPort h4,jfk _ _ _⟩)
theorem jgh {α:Type} {k:Nat} {c:α→List Value} (enc:EncOk k c) (hk:0 < k) {w w':World} {v:Value} {l:List α} {B:Nat} (h:SlK c w v l) (hf:FarB B v) (hs:∀ b,B≤b→b < w.heap.size→w'.heap[b]?=w.heap[b]?):SlK c w' v l:=by
 obtain⟨a,cap,h1,h2,h3⟩:=h
 refine⟨a,cap,h1,h2,?_⟩
 rcases h3 with h3|⟨b,off,h4,h5⟩
 ·exact Or.inl h3
 ·cases l with
  | nil=>exact Or.inl rfl
  | cons x r =>
   refine Or.inr ⟨b,off,h4,h5.same (hs b (hf ⟨b,off,none⟩ _ cap (by rw [h1,h4])) ?_)⟩
   obtain⟨u,hu⟩:∃ u,(c x)[0]?=some u:=⟨(c x)[0]'(by rw [enc.1 x];exact hk),List.getElem?_eq_getElem _⟩
   exact World.block_lt_of_cell? w _ (h5.at enc (j:=0) rfl hu)
theorem jf6 {w:World} {v:Value} {l:List Ship} (h:SlK cShip w v l):v.oneCell'=true:=by obtain⟨a,cap,rfl,_⟩:=h;rfl
def RAsd (w:World) (B:Nat) (va:Value):Option Pt→Prop
 | none=>va=.pointer none
 | some q=>∃ g vq,va=.pointer (some ⟨g,0,none⟩)∧PBox w g q vq∧SlK cShip w vq q.ships∧FarB B vq∧B≤g
theorem RAsd.one {w:World} {B:Nat} {va:Value} {o:Option Pt} (h:RAsd w B va o):va.oneCell'=true:=by
 cases o with
 | none=>have h:va=.pointer none:=h;rw [h];rfl
 | some q=>obtain⟨g,vq,rfl,_⟩:=h;rfl
theorem RAsd.kept {w w':World} {B:Nat} {va:Value} {o:Option Pt} (h:RAsd w B va o) (hs:∀ b,B≤b→b < w.heap.size→w'.heap[b]?=w.heap[b]?):RAsd w' B va o:=by
 cases o with
 | none=>exact h
 | some q =>
  obtain⟨g,vq,h1,h2,h3,h4,h5⟩:=h
  exact⟨g,vq,h1,⟨h2.1,(hs g h5 h2.lt).trans h2.2⟩,jgh jcg (by omega) h3 h4 hs,h4,h5⟩
structure RM (w:World) (B d:Nat) (D:Dk) (vs va:Value):Prop where
 box:RBx w d D.p vs va D.n
 ships:SlK cShip w vs D.p.ships
 far:FarB B vs
 asd:RAsd w B va D.asd
 dB:d < B
 hB:B≤w.heap.size
section
variable {w w':World} {B d:Nat} {D:Dk} {vs va:Value}
theorem RM.lt (h:RM w B d D vs va):d < w.heap.size:=h.box.lt
theorem RM.kept (h:RM w B d D vs va) (hd:w'.heap[d]?=w.heap[d]?) (hs:∀ b,B≤b→b < w.heap.size→w'.heap[b]?=w.heap[b]?) (hz:w.heap.size≤w'.heap.size):RM w' B d D vs va :=
 ⟨h.box.same hd,jgh jcg (by omega) h.ships h.far hs,h.far,h.asd.kept hs,h.dB,Nat.le_trans h.hB hz⟩
theorem RM.later (h:RM w B d D vs va) (hb:Below w.heap.size w w'):RM w' B d D vs va:=h.kept (hb.block d h.lt) (fun b _ hl=>hb.block b hl) hb.size
theorem RM.fr {e:Nat} (h:RM w B d D vs va) (hf:Fr e w w') (he:e < B) (hne:d≠e):RM w' B d D vs va:=h.kept (hf.rest d hne h.lt) (fun b hb hl=>hf.rest b (by omega) hl) hf.size
theorem RM.pv (h:RM w B d D vs va) (hp:D.p.ships.length≤14):PtV w (.agg (jaa D.p vs).toArray) D.p:=⟨vs,rfl,h.ships,h.box.four,by omega⟩
theorem RM.one (h:RM w B d D vs va):vs.oneCell'=true:=by obtain⟨a,cap,rfl,_⟩:=h.ships;rfl
theorem RM.port {q:Pt} {vq:Value} (h:RM w B d D vs va) (hx:RBx w' d q vq va D.n) (hf:Fr d w w') (hq:SlK cShip w vq q.ships) (hfar:FarB B vq):RM w' B d { D with p:=q } vq va :=
 ⟨hx,jgh jcg (by omega) hq hfar (fun b hb hl=>hf.rest b (by have:=h.dB;omega) hl),hfar,h.asd.kept (fun b hb hl=>hf.rest b (by have:=h.dB;omega) hl),h.dB,Nat.le_trans h.hB hf.size⟩
theorem RM.aside {o:Option Pt} {vb:Value} (h:RM w B d D vs va) (ha:RAsd w B vb o):RM (w.setCell ⟨d,16,none⟩ vb) B d { D with asd:=o } vs vb :=
 have hs:∀ b,B≤b→b < w.heap.size→(w.setCell ⟨d,16,none⟩ vb).heap[b]?=w.heap[b]?:=fun b hb _=>Below.heap_setCell _ _ _ _ (by have:=h.dB;show b≠d;omega)
 ⟨h.box.setAside vb,jgh jcg (by omega) h.ships h.far hs,h.far,ha.kept hs,h.dB,Nat.le_trans h.hB (Fr.set (d:=d) w 16 vb).size⟩
theorem RM.acts (h:RM w B d D vs va) (m:Int):RM (w.setCell ⟨d,17,none⟩ (.int .i64 m)) B d { D with n:=m } vs va :=
 have hs:∀ b,B≤b→b < w.heap.size→(w.setCell ⟨d,17,none⟩ (.int .i64 m)).heap[b]?=w.heap[b]?:=fun b hb _=>Below.heap_setCell _ _ _ _ (by have:=h.dB;show b≠d;omega)
 ⟨h.box.setActs m,jgh jcg (by omega) h.ships h.far hs,h.far,h.asd.kept hs,h.dB,Nat.le_trans h.hB (Fr.set (d:=d) w 17 (.int .i64 m)).size⟩
end
def Rsk (w:World) (B d:Nat) (D:Dk):Prop:=∃ vs va,RM w B d D vs va
structure RS (w:World) (B d:Nat) (D:Dk):Prop where
 asp:AS w
 low:2 < d
 dsk:Rsk w B d D
 ok:DOk D
theorem Rsk.lt {w:World} {B d:Nat} {D:Dk} (h:Rsk w B d D):d < w.heap.size:=by obtain⟨_,_,h⟩:=h;exact h.lt
theorem Rsk.later {w w':World} {B d:Nat} {D:Dk} (h:Rsk w B d D) (hb:Below w.heap.size w w'):Rsk w' B d D:=by obtain⟨vs,va,h⟩:=h;exact⟨vs,va,h.later hb⟩
theorem Rsk.fr {w w':World} {B d e:Nat} {D:Dk} (h:Rsk w B d D) (hf:Fr e w w') (he:e < B) (hne:d≠e):Rsk w' B d D:=by obtain⟨vs,va,h⟩:=h;exact⟨vs,va,h.fr hf he hne⟩
theorem AS.fr {w w':World} {d:Nat} (h:AS w) (hf:Fr d w w') (hd:2 < d):AS w':=h.same (hf.rest _ (by omega) h.lt)
theorem RS.later {w w':World} {B d:Nat} {D:Dk} (h:RS w B d D) (hb:Below w.heap.size w w'):RS w' B d D:=⟨h.asp.later hb,h.low,h.dsk.later hb,h.ok⟩
theorem RS.fr {w w':World} {B d e:Nat} {D:Dk} (h:RS w B d D) (hf:Fr e w w') (he:e < B) (hne:d≠e) (hl:2 < e):RS w' B d D:=⟨h.asp.fr hf hl,h.low,h.dsk.fr hf he hne,h.ok⟩
theorem DS.fromRef {w w':World} {d e B:Nat} {D E:Dk} (h:DS w d D) (hr:RS w B e E) (hf:Fr e w w') (hu:∀ u∈usedG,u < e):DS w' d D:=by
 obtain⟨vs,vp,va,pl,hM⟩:=h.dsk
 obtain⟨_,_,hR⟩:=hr.dsk
 have hne:d≠e:=jeh hM.box.box hR.box.box (by decide)
 exact⟨h.lw.fr hf hu,⟨vs,vp,va,pl,hM.same (hf.rest d hne hM.lt) fun k cur t f hk ht=>hf.rest k (jeh hk hR.box.box (ht.ne (by decide) (by decide) (by decide))) (Array.getElem?_eq_some_iff.1 hk).1⟩,h.ok⟩
theorem jl8 {w w':World} {v:Value} {l:List Ship} {g:Nat} {cur:Array Value} {t:TypeId} {f:Nat×Nat} (h:SlK cShip w v l) (hg:w.heap[g]?=some (.cells cur t f)) (hs:cur.size < 6) (hw:∀ k,k≠g→w'.heap[k]?=w.heap[k]?):SlK cShip w' v l:=by
 obtain⟨a,cap,h1,h2,h3⟩:=h
 refine⟨a,cap,h1,h2,?_⟩
 rcases h3 with h3|⟨b,off,h4,h5⟩
 ·exact Or.inl h3
 ·cases l with
  | nil=>exact Or.inl rfl
  | cons x r =>
   refine Or.inr ⟨b,off,h4,h5.same (hw b fun e=>?_)⟩
   subst e
   have:=h5.at jcg (j:=0) rfl (i:=5) (show(cShip x)[5]?=some _ from rfl)
   rw [cell_of_row _ _ _ _ _ _ hg,Array.getElem?_eq_none (by omega)] at this
   cases this
theorem RM.small {w w':World} {B d g:Nat} {D:Dk} {vs va:Value} {cur:Array Value} {t:TypeId} {f:Nat×Nat} (h:RM w B d D vs va) (hg:w.heap[g]?=some (.cells cur t f)) (hs:cur.size < 6) (hw:∀ k,k≠g→w'.heap[k]?=w.heap[k]?) (hz:w.heap.size≤w'.heap.size):RM w' B d D vs va:=by
 have big:∀ (k:Nat) (c:Array Value) t' f',w.heap[k]?=some (.cells c t' f')→6≤c.size→k≠g:=fun k c t' f' hk hc e=>by
  subst e
  rw [hg] at hk
  injection hk with hk
  injection hk with hk
  subst hk
  omega
 refine⟨h.box.same (hw d (big d _ _ _ h.box.box (by simp [jcj,h.box.len]))),jl8 h.ships hg hs hw,h.far,?_,h.dB,Nat.le_trans h.hB hz⟩
 have ha:=h.asd
 cases e:D.asd with
 | none=>rw [e] at ha;exact ha
 | some q =>
  rw [e] at ha
  obtain⟨g1,vq,k1,k2,k3,k4,k5⟩:=ha
  exact⟨g1,vq,k1,⟨k2.1,(hw g1 (big g1 _ _ _ k2.2 (by simp [jav q vq k2.1]))).trans k2.2⟩,jl8 k3 hg hs hw,k4,k5⟩
theorem jjd (p:Pt) (pl:List Int):(dueP p pl).kept=p.kept:=rfl
theorem jf8 (B d:Nat) (D:Dk) (w:World) (hD:Rsk w B d D) (hp:jaj D.p) :
  Calls Tryz.prog 33 #[.pointer (some ⟨d,0,none⟩)] w fun e w'=>e=.returned (.tuple #[])∧∃ q,jc3 D.p q∧Rsk w' B d { D with p:=q }∧Fr d w w':=by
 obtain⟨vs,va,hM⟩:=hD
 have HPL:=fun v W h=>jfd v D.p W h hp
 have HDU:=fun v vp pl W h1 h2 h3=>jqe v vp D.p pl W h1 h2 h3
 have hp14:D.p.ships.length≤14:=by have:=hp.port.len;omega
 have h4:=hM.box.four
 have E0:Hid (RM w.drew B d D vs va∧Fr d w w.drew):=⟨hM.later (Below.refl _ _).drew,Fr.drew w⟩
 clear hM hp
 generalize hPC:(jaa D.p vs).toArray=PC at *
 have HPC:Hid ((jaa D.p vs).toArray=PC):=hPC
 clear hPC
 go_enter Tryz.func33,Tryz.ntmps33
 go_upto_region 0 with fail
 refine wp_region_held_drew (S:=fun _=>True) (by kernel_rfl) trivial (fun hHeld=>?_)
 refine jjT 0 ⟨some 3,.move (.tmp 0),51,"ref.go:399",#[],none⟩ (?_) rfl (by kernel_rfl) (fun _ _ _ h=>h) (Or.inl ⟨by rfl,?_⟩) hHeld ?_
 rotate_left
 ·(intro w hSw;first|(go_simp;done)|(go_simp;with_reducible rfl))
 simp only [Act.put,jjA,jjB,jjC]
 refine jjT 1 ⟨some 4,.move (.tmp 0),51,"ref.go:399",#[],none⟩ (?_) rfl (by kernel_rfl) (fun _ _ _ h=>h) (Or.inl ⟨by rfl,?_⟩) hHeld ?_
 rotate_left
 ·(intro w hSw;first|(go_simp;done)|(go_simp;with_reducible rfl))
 simp only [Act.put,jjA,jjB,jjC]
 refine jjT 2 ⟨some 5,.nilCheck (.tmp 4),0,"ref.go:399",#[⟨1,.data⟩],none⟩ (?_) rfl (by kernel_rfl) (fun _ _ _ h=>h) (Or.inl ⟨by rfl,?_⟩) hHeld ?_
 rotate_left
 ·(intro w hSw;first|(go_simp;done)|(go_simp;with_reducible rfl))
 simp only [Act.put,jjA,jjB,jjC]
 refine jjT 3 ⟨some 6,.fieldAddr 54 (.tmp 5) 0,0,"ref.go:399",#[⟨2,.data⟩],none⟩ (?_) rfl (by kernel_rfl) (fun _ _ _ h=>h) (Or.inl ⟨by rfl,?_⟩) hHeld ?_
 rotate_left
 ·(intro w hSw;first|(go_simp;done)|(go_simp;with_reducible rfl))
 simp only [Act.put,jjA,jjB,jjC]
 refine jjT 5 ⟨some 8,.move (.tmp 0),51,"ref.go:399",#[],none⟩ (?_) rfl (by kernel_rfl) (fun _ _ _ h=>h) (Or.inl ⟨by rfl,?_⟩) hHeld ?_
 rotate_left
 ·(intro w hSw;first|(go_simp;done)|(go_simp;with_reducible rfl))
 simp only [Act.put,jjA,jjB,jjC]
 refine jjT 6 ⟨some 9,.nilCheck (.tmp 8),0,"ref.go:399",#[⟨5,.data⟩],none⟩ (?_) rfl (by kernel_rfl) (fun _ _ _ h=>h) (Or.inl ⟨by rfl,?_⟩) hHeld ?_
 rotate_left
 ·(intro w hSw;first|(go_simp;done)|(go_simp;with_reducible rfl))
 simp only [Act.put,jjA,jjB,jjC]
 refine jjT 7 ⟨some 10,.fieldAddr 54 (.tmp 9) 0,0,"ref.go:399",#[⟨6,.data⟩],none⟩ (?_) rfl (by kernel_rfl) (fun _ _ _ h=>h) (Or.inl ⟨by rfl,?_⟩) hHeld ?_
 rotate_left
 ·(intro w hSw;first|(go_simp;done)|(go_simp;with_reducible rfl))
 simp only [Act.put,jjA,jjB,jjC]
 refine wpAnyH_ready (rs:=[4,8]) (by kernel_rfl) (by simp) ?_
 refine AllReadyH.cons rfl (fun K hK=>?_) (AllReadyH.cons rfl (fun K hK=>?_) AllReadyH.nil)
 ·skip
  rw [if_pos (by rfl)]
  refine wp_load_mid 41 (.tmp 6) rfl d 0 rfl (jaa D.p vs) _ E0.out.1.box.port Tryz.underlying41 rfl (jbg D.p vs h4) ?_
  rw [HPC.out]
  refine hK.out _ _ trivial (fun hHeld=>?_)
  clear hK K
  simp only [Act.put,jjA,jjB,jjC]
  refine jjR 8 (by kernel_rfl) rfl fun K hK=>?_
  rw [if_pos (by rfl)]
  refine wp_load_mid 41 (.tmp 10) rfl d 0 rfl (jaa D.p vs) _ E0.out.1.box.port Tryz.underlying41 rfl (jbg D.p vs h4) ?_
  rw [HPC.out]
  refine hK.out _ _ trivial (fun hHeld=>?_)
  clear hK K
  simp only [Act.put,jjA,jjB,jjC]
  refine jjR 9 (by kernel_rfl) rfl fun K hK=>?_
  go_simp
  refine(HPL _ _ (by have:=E0.out.1.pv hp14;rw [HPC.out] at this;exact this)).mono ?_
  rintro e w1 ⟨⟨v1,rfl,h1⟩,hb1⟩
  obtain⟨pl,hpl,hsl⟩:=h1.out
  have PL:Hid (jbd D.p pl∧SlK cInt w1 v1 pl):=⟨hpl,hsl⟩
  have E1:Hid (RM w1 B d D vs va∧Fr d w w1):=⟨E0.out.1.later hb1,E0.out.2.trans (Fr.of hb1 (Nat.le_of_lt E0.out.1.lt))⟩
  have hll:pl.length≤17592186044416:=by have:=hpl.len;omega
  clear h1 hpl hsl hb1 HPL
  go_wp2_with fail
  refine hK.out _ _ trivial (fun hHeld=>?_)
  clear hK K
  refine jjR 10 (by kernel_rfl) rfl fun K hK=>?_
  go_simp
  refine(HDU _ v1 pl _ (by have:=E1.out.1.pv hp14;rw [HPC.out] at this;exact this) PL.out.2 hll).mono ?_
  rintro e w2 ⟨vq,v2,rfl,h2⟩
  have E2:Hid (RM w2 B d D vs va∧Fr d w w2):=⟨E1.out.1.later h2.out.2.2.1,E1.out.2.trans (Fr.of h2.out.2.2.1 (Nat.le_of_lt E1.out.1.lt))⟩
  have Q2:Hid (SlK cShip w2 vq (dueP D.p pl).ships∧FarB B vq∧jc3 D.p (dueP D.p pl)):=⟨h2.out.1,h2.out.2.2.2.mono E1.out.1.hB,pl,PL.out.1,rfl⟩
  have on:vq.oneCell'=true:=jf6 h2.out.1
  clear h2 PL E1 HDU hHeld
  generalize hQC:(jaa (dueP D.p pl) vq).toArray=QC at *
  have HQC:Hid ((jaa (dueP D.p pl) vq).toArray=QC):=hQC
  clear hQC
  go_wp2_with fail
  refine hK.out _ _ trivial (fun hHeld=>?_)
  clear hK K
  refine jjT 11 ⟨some 2,.move (.tmp 13),95,"ref.go:399",#[⟨10,.data⟩],none⟩ (?_) rfl (by kernel_rfl) (fun _ _ _ h=>h) (Or.inl ⟨by rfl,?_⟩) hHeld ?_
  rotate_left
  ·(intro w hSw;first|(go_simp;done)|(go_simp;with_reducible rfl))
  simp only [Act.put,jjA,jjB,jjC]
  refine jjT 12 ⟨some 14,.extract (.tmp 2) 0,41,"ref.go:399",#[⟨11,.data⟩],none⟩ (?_) rfl (by kernel_rfl) (fun _ _ _ h=>h) (Or.inl ⟨by rfl,?_⟩) hHeld ?_
  rotate_left
  ·(intro w hSw;first|(go_simp;done)|(go_simp;with_reducible rfl))
  simp only [Act.put,jjA,jjB,jjC]
  refine jjT 13 ⟨some 15,.extract (.tmp 2) 1,43,"ref.go:399",#[⟨11,.data⟩,⟨16,.gcOnly .lateStores⟩],none⟩ (?_) rfl (by kernel_rfl) (fun _ _ _ h=>h) (Or.inl ⟨by rfl,?_⟩) hHeld ?_
  rotate_left
  ·(intro w hSw;first|(go_simp;done)|(go_simp;with_reducible rfl))
  simp only [Act.put,jjA,jjB,jjC]
  refine jjT 14 ⟨some 16,.nilCheck (.tmp 3),0,"ref.go:399",#[⟨0,.data⟩,⟨0,.phase⟩,⟨1,.phase⟩,⟨2,.phase⟩,⟨3,.phase⟩,⟨4,.phase⟩,⟨5,.phase⟩,⟨6,.phase⟩,⟨7,.phase⟩,⟨8,.phase⟩,⟨9,.phase⟩,⟨10,.phase⟩,⟨11,.phase⟩,⟨12,.phase⟩,⟨13,.textOnly .lateStores⟩],none⟩ (?_) rfl (by kernel_rfl) (fun _ _ _ h=>h) (Or.inl ⟨by rfl,?_⟩) hHeld ?_
  rotate_left
  ·(intro w hSw;first|(go_simp;done)|(go_simp;with_reducible rfl))
  simp only [Act.put,jjA,jjB,jjC]
  refine jjT 15 ⟨some 17,.fieldAddr 54 (.tmp 16) 0,0,"ref.go:399",#[⟨14,.data⟩,⟨0,.phase⟩,⟨1,.phase⟩,⟨2,.phase⟩,⟨3,.phase⟩,⟨4,.phase⟩,⟨5,.phase⟩,⟨6,.phase⟩,⟨7,.phase⟩,⟨8,.phase⟩,⟨9,.phase⟩,⟨10,.phase⟩,⟨11,.phase⟩,⟨12,.phase⟩,⟨13,.textOnly .lateStores⟩],none⟩ (?_) rfl (by kernel_rfl) (fun _ _ _ h=>h) (Or.inl ⟨by rfl,?_⟩) hHeld ?_
  rotate_left
  ·(intro w hSw;first|(go_simp;done)|(go_simp;with_reducible rfl))
  simp only [Act.put,jjA,jjB,jjC]
  refine jjR 16 (by kernel_rfl) rfl fun K hK=>?_
  refine jdr rfl (.tmp 17) (.tmp 14) rfl d D.p (dueP D.p pl) vs vq va D.n rfl (by rw [HQC.out];rfl) E2.out.1.box (by rw [jjd];exact h4) on ?_
  intro w3 h3
  refine hK.out _ _ trivial (fun hHeld=>?_)
  clear hK K hHeld
  refine wpAnyH_done (by kernel_rfl) ?_ _
  go_wp2_with fail
  go_end0
  exact⟨rfl,dueP D.p pl,Q2.out.2.2,⟨vq,va,E2.out.1.port h3.out.1 h3.out.2 Q2.out.1 Q2.out.2.1⟩,E2.out.2.trans h3.out.2⟩
 ·skip
  rw [if_pos (by rfl)]
  refine wp_load_mid 41 (.tmp 10) rfl d 0 rfl (jaa D.p vs) _ E0.out.1.box.port Tryz.underlying41 rfl (jbg D.p vs h4) ?_
  rw [HPC.out]
  refine hK.out _ _ trivial (fun hHeld=>?_)
  clear hK K
  simp only [Act.put,jjA,jjB,jjC]
  refine wpAnyH_ready (rs:=[4,9]) (by kernel_rfl) (by simp) ?_
  refine AllReadyH.cons rfl (fun K hK=>?_) (AllReadyH.cons rfl (fun K hK=>?_) AllReadyH.nil)
  ·skip
   rw [if_pos (by rfl)]
   refine wp_load_mid 41 (.tmp 6) rfl d 0 rfl (jaa D.p vs) _ E0.out.1.box.port Tryz.underlying41 rfl (jbg D.p vs h4) ?_
   rw [HPC.out]
   refine hK.out _ _ trivial (fun hHeld=>?_)
   clear hK K
   simp only [Act.put,jjA,jjB,jjC]
   refine jjR 9 (by kernel_rfl) rfl fun K hK=>?_
   go_simp
   refine(HPL _ _ (by have:=E0.out.1.pv hp14;rw [HPC.out] at this;exact this)).mono ?_
   rintro e w1 ⟨⟨v1,rfl,h1⟩,hb1⟩
   obtain⟨pl,hpl,hsl⟩:=h1.out
   have PL:Hid (jbd D.p pl∧SlK cInt w1 v1 pl):=⟨hpl,hsl⟩
   have E1:Hid (RM w1 B d D vs va∧Fr d w w1):=⟨E0.out.1.later hb1,E0.out.2.trans (Fr.of hb1 (Nat.le_of_lt E0.out.1.lt))⟩
   have hll:pl.length≤17592186044416:=by have:=hpl.len;omega
   clear h1 hpl hsl hb1 HPL
   go_wp2_with fail
   refine hK.out _ _ trivial (fun hHeld=>?_)
   clear hK K
   refine jjR 10 (by kernel_rfl) rfl fun K hK=>?_
   go_simp
   refine(HDU _ v1 pl _ (by have:=E1.out.1.pv hp14;rw [HPC.out] at this;exact this) PL.out.2 hll).mono ?_
   rintro e w2 ⟨vq,v2,rfl,h2⟩
   have E2:Hid (RM w2 B d D vs va∧Fr d w w2):=⟨E1.out.1.later h2.out.2.2.1,E1.out.2.trans (Fr.of h2.out.2.2.1 (Nat.le_of_lt E1.out.1.lt))⟩
   have Q2:Hid (SlK cShip w2 vq (dueP D.p pl).ships∧FarB B vq∧jc3 D.p (dueP D.p pl)):=⟨h2.out.1,h2.out.2.2.2.mono E1.out.1.hB,pl,PL.out.1,rfl⟩
   have on:vq.oneCell'=true:=jf6 h2.out.1
   clear h2 PL E1 HDU hHeld
   generalize hQC:(jaa (dueP D.p pl) vq).toArray=QC at *
   have HQC:Hid ((jaa (dueP D.p pl) vq).toArray=QC):=hQC
   clear hQC
   go_wp2_with fail
   refine hK.out _ _ trivial (fun hHeld=>?_)
   clear hK K
   refine jjT 11 ⟨some 2,.move (.tmp 13),95,"ref.go:399",#[⟨10,.data⟩],none⟩ (?_) rfl (by kernel_rfl) (fun _ _ _ h=>h) (Or.inl ⟨by rfl,?_⟩) hHeld ?_
   rotate_left
   ·(intro w hSw;first|(go_simp;done)|(go_simp;with_reducible rfl))
   simp only [Act.put,jjA,jjB,jjC]
   refine jjT 12 ⟨some 14,.extract (.tmp 2) 0,41,"ref.go:399",#[⟨11,.data⟩],none⟩ (?_) rfl (by kernel_rfl) (fun _ _ _ h=>h) (Or.inl ⟨by rfl,?_⟩) hHeld ?_
   rotate_left
   ·(intro w hSw;first|(go_simp;done)|(go_simp;with_reducible rfl))
   simp only [Act.put,jjA,jjB,jjC]
   refine jjT 13 ⟨some 15,.extract (.tmp 2) 1,43,"ref.go:399",#[⟨11,.data⟩,⟨16,.gcOnly .lateStores⟩],none⟩ (?_) rfl (by kernel_rfl) (fun _ _ _ h=>h) (Or.inl ⟨by rfl,?_⟩) hHeld ?_
   rotate_left
   ·(intro w hSw;first|(go_simp;done)|(go_simp;with_reducible rfl))
   simp only [Act.put,jjA,jjB,jjC]
   refine jjT 14 ⟨some 16,.nilCheck (.tmp 3),0,"ref.go:399",#[⟨0,.data⟩,⟨0,.phase⟩,⟨1,.phase⟩,⟨2,.phase⟩,⟨3,.phase⟩,⟨4,.phase⟩,⟨5,.phase⟩,⟨6,.phase⟩,⟨7,.phase⟩,⟨8,.phase⟩,⟨9,.phase⟩,⟨10,.phase⟩,⟨11,.phase⟩,⟨12,.phase⟩,⟨13,.textOnly .lateStores⟩],none⟩ (?_) rfl (by kernel_rfl) (fun _ _ _ h=>h) (Or.inl ⟨by rfl,?_⟩) hHeld ?_
   rotate_left
   ·(intro w hSw;first|(go_simp;done)|(go_simp;with_reducible rfl))
   simp only [Act.put,jjA,jjB,jjC]
   refine jjT 15 ⟨some 17,.fieldAddr 54 (.tmp 16) 0,0,"ref.go:399",#[⟨14,.data⟩,⟨0,.phase⟩,⟨1,.phase⟩,⟨2,.phase⟩,⟨3,.phase⟩,⟨4,.phase⟩,⟨5,.phase⟩,⟨6,.phase⟩,⟨7,.phase⟩,⟨8,.phase⟩,⟨9,.phase⟩,⟨10,.phase⟩,⟨11,.phase⟩,⟨12,.phase⟩,⟨13,.textOnly .lateStores⟩],none⟩ (?_) rfl (by kernel_rfl) (fun _ _ _ h=>h) (Or.inl ⟨by rfl,?_⟩) hHeld ?_
   rotate_left
   ·(intro w hSw;first|(go_simp;done)|(go_simp;with_reducible rfl))
   simp only [Act.put,jjA,jjB,jjC]
   refine jjR 16 (by kernel_rfl) rfl fun K hK=>?_
   refine jdr rfl (.tmp 17) (.tmp 14) rfl d D.p (dueP D.p pl) vs vq va D.n rfl (by rw [HQC.out];rfl) E2.out.1.box (by rw [jjd];exact h4) on ?_
   intro w3 h3
   refine hK.out _ _ trivial (fun hHeld=>?_)
   clear hK K hHeld
   refine wpAnyH_done (by kernel_rfl) ?_ _
   go_wp2_with fail
   go_end0
   exact⟨rfl,dueP D.p pl,Q2.out.2.2,⟨vq,va,E2.out.1.port h3.out.1 h3.out.2 Q2.out.1 Q2.out.2.1⟩,E2.out.2.trans h3.out.2⟩
  ·skip
   go_simp
   refine(HPL _ _ (by have:=E0.out.1.pv hp14;rw [HPC.out] at this;exact this)).mono ?_
   rintro e w1 ⟨⟨v1,rfl,h1⟩,hb1⟩
   obtain⟨pl,hpl,hsl⟩:=h1.out
   have PL:Hid (jbd D.p pl∧SlK cInt w1 v1 pl):=⟨hpl,hsl⟩
   have E1:Hid (RM w1 B d D vs va∧Fr d w w1):=⟨E0.out.1.later hb1,E0.out.2.trans (Fr.of hb1 (Nat.le_of_lt E0.out.1.lt))⟩
   have hll:pl.length≤17592186044416:=by have:=hpl.len;omega
   clear h1 hpl hsl hb1 HPL
   go_wp2_with fail
   refine hK.out _ _ trivial (fun hHeld=>?_)
   clear hK K
   refine jjR 4 (by kernel_rfl) rfl fun K hK=>?_
   rw [if_pos (by rfl)]
   refine wp_load_mid 41 (.tmp 6) rfl d 0 rfl (jaa D.p vs) _ E1.out.1.box.port Tryz.underlying41 rfl (jbg D.p vs h4) ?_
   rw [HPC.out]
   refine hK.out _ _ trivial (fun hHeld=>?_)
   clear hK K
   simp only [Act.put,jjA,jjB,jjC]
   refine jjR 10 (by kernel_rfl) rfl fun K hK=>?_
   go_simp
   refine(HDU _ v1 pl _ (by have:=E1.out.1.pv hp14;rw [HPC.out] at this;exact this) PL.out.2 hll).mono ?_
   rintro e w2 ⟨vq,v2,rfl,h2⟩
   have E2:Hid (RM w2 B d D vs va∧Fr d w w2):=⟨E1.out.1.later h2.out.2.2.1,E1.out.2.trans (Fr.of h2.out.2.2.1 (Nat.le_of_lt E1.out.1.lt))⟩
   have Q2:Hid (SlK cShip w2 vq (dueP D.p pl).ships∧FarB B vq∧jc3 D.p (dueP D.p pl)):=⟨h2.out.1,h2.out.2.2.2.mono E1.out.1.hB,pl,PL.out.1,rfl⟩
   have on:vq.oneCell'=true:=jf6 h2.out.1
   clear h2 PL E1 HDU hHeld
   generalize hQC:(jaa (dueP D.p pl) vq).toArray=QC at *
   have HQC:Hid ((jaa (dueP D.p pl) vq).toArray=QC):=hQC
   clear hQC
   go_wp2_with fail
   refine hK.out _ _ trivial (fun hHeld=>?_)
   clear hK K
   refine jjT 11 ⟨some 2,.move (.tmp 13),95,"ref.go:399",#[⟨10,.data⟩],none⟩ (?_) rfl (by kernel_rfl) (fun _ _ _ h=>h) (Or.inl ⟨by rfl,?_⟩) hHeld ?_
   rotate_left
   ·(intro w hSw;first|(go_simp;done)|(go_simp;with_reducible rfl))
   simp only [Act.put,jjA,jjB,jjC]
   refine jjT 12 ⟨some 14,.extract (.tmp 2) 0,41,"ref.go:399",#[⟨11,.data⟩],none⟩ (?_) rfl (by kernel_rfl) (fun _ _ _ h=>h) (Or.inl ⟨by rfl,?_⟩) hHeld ?_
   rotate_left
   ·(intro w hSw;first|(go_simp;done)|(go_simp;with_reducible rfl))
   simp only [Act.put,jjA,jjB,jjC]
   refine jjT 13 ⟨some 15,.extract (.tmp 2) 1,43,"ref.go:399",#[⟨11,.data⟩,⟨16,.gcOnly .lateStores⟩],none⟩ (?_) rfl (by kernel_rfl) (fun _ _ _ h=>h) (Or.inl ⟨by rfl,?_⟩) hHeld ?_
   rotate_left
   ·(intro w hSw;first|(go_simp;done)|(go_simp;with_reducible rfl))
   simp only [Act.put,jjA,jjB,jjC]
   refine jjT 14 ⟨some 16,.nilCheck (.tmp 3),0,"ref.go:399",#[⟨0,.data⟩,⟨0,.phase⟩,⟨1,.phase⟩,⟨2,.phase⟩,⟨3,.phase⟩,⟨4,.phase⟩,⟨5,.phase⟩,⟨6,.phase⟩,⟨7,.phase⟩,⟨8,.phase⟩,⟨9,.phase⟩,⟨10,.phase⟩,⟨11,.phase⟩,⟨12,.phase⟩,⟨13,.textOnly .lateStores⟩],none⟩ (?_) rfl (by kernel_rfl) (fun _ _ _ h=>h) (Or.inl ⟨by rfl,?_⟩) hHeld ?_
   rotate_left
   ·(intro w hSw;first|(go_simp;done)|(go_simp;with_reducible rfl))
   simp only [Act.put,jjA,jjB,jjC]
   refine jjT 15 ⟨some 17,.fieldAddr 54 (.tmp 16) 0,0,"ref.go:399",#[⟨14,.data⟩,⟨0,.phase⟩,⟨1,.phase⟩,⟨2,.phase⟩,⟨3,.phase⟩,⟨4,.phase⟩,⟨5,.phase⟩,⟨6,.phase⟩,⟨7,.phase⟩,⟨8,.phase⟩,⟨9,.phase⟩,⟨10,.phase⟩,⟨11,.phase⟩,⟨12,.phase⟩,⟨13,.textOnly .lateStores⟩],none⟩ (?_) rfl (by kernel_rfl) (fun _ _ _ h=>h) (Or.inl ⟨by rfl,?_⟩) hHeld ?_
   rotate_left
   ·(intro w hSw;first|(go_simp;done)|(go_simp;with_reducible rfl))
   simp only [Act.put,jjA,jjB,jjC]
   refine jjR 16 (by kernel_rfl) rfl fun K hK=>?_
   refine jdr rfl (.tmp 17) (.tmp 14) rfl d D.p (dueP D.p pl) vs vq va D.n rfl (by rw [HQC.out];rfl) E2.out.1.box (by rw [jjd];exact h4) on ?_
   intro w3 h3
   refine hK.out _ _ trivial (fun hHeld=>?_)
   clear hK K hHeld
   refine wpAnyH_done (by kernel_rfl) ?_ _
   go_wp2_with fail
   go_end0
   exact⟨rfl,dueP D.p pl,Q2.out.2.2,⟨vq,va,E2.out.1.port h3.out.1 h3.out.2 Q2.out.1 Q2.out.2.1⟩,E2.out.2.trans h3.out.2⟩
theorem jdh {s:List UInt8} {o p:Ord} {er:Int} (h:(er=0∧jay s (some o))∨(er=1∧o=noOrd∧jay s none)) (hp:jay s (some p)):er=0∧o=p:=by
 rcases h with ⟨h1,h2⟩|⟨_,_,h2⟩
 ·have:=jcn h2 hp
  injection this with this
  exact⟨h1,this⟩
 ·cases jcn h2 hp
theorem jcw (er:Int) (w:World):Calls Tryz.prog 29 #[.int .i64 er] w fun e w'=>e=.returned (.agg #[.int .i64 er,.int .i64 0])∧Below w.heap.size w w':=by
 go_enter Tryz.func29,Tryz.ntmps29
 go_wp2_with (first|(refine jbb rfl rfl 2 rfl ?_;intro w1 h1 s1)|(refine jaq rfl _ _ rfl w.heap.size 0 0 er 0 rfl rfl h1.out.1 ?_;intro w2 h2 s2))
 refine bodyPost_ret (v:=.agg #[.int .i64 er,.int .i64 0]) (ja5 Tryz.results29 _ _ w.heap.size er 0 rfl h2.out.1) rfl ?_
 exact⟨rfl,h1.out.2.trans (h2.out.2.2 _ (Nat.le_refl _))⟩
structure RT (w:World) (z B d:Nat) (D:Dk) (vs va:Value) (W:World):Prop where
 rm:RM W B d D vs va
 asp:AS W
 rep:RB W z 0 0
 fr:Fr d w W
 zB:B≤z
 wz:w.heap.size≤z
section
variable {w W W':World} {z B d:Nat} {D:Dk} {vs va:Value}
theorem RT.later (h:RT w z B d D vs va W) (hb:Below W.heap.size W W'):RT w z B d D vs va W':=⟨h.rm.later hb,h.asp.later hb,h.rep.later hb,h.fr.trans (Fr.of hb (Nat.le_of_lt h.rm.lt)),h.zB,h.wz⟩
theorem RT.dz (h:RT w z B d D vs va W):d < z:=by have:=h.rm.dB;have:=h.zB;omega
theorem RT.turn {D':Dk} {vs' va':Value} (h:RT w z B d D vs va W) (hr:RM W' B d D' vs' va') (hf:Fr d W W') (hl:2 < d):RT w z B d D' vs' va' W':=⟨hr,h.asp.fr hf hl,h.rep.fr hf (by have:=h.dz;omega),h.fr.trans hf,h.zB,h.wz⟩
theorem RT.end {x y:Int} (h:RT w z B d D vs va W) (hs:RB W' z x y∧(∀ k,k≠z→W'.heap[k]?=W.heap[k]?)∧∀ B,B≤z→Below B W W'):Rsk W' B d D∧Fr d w W' :=
 ⟨⟨vs,va,h.rm.small h.rep (by decide) hs.2.1 (hs.2.2 z (Nat.le_refl _)).size⟩,⟨h.fr.below.trans (hs.2.2 d (by have:=h.dz;omega)),fun k hk hl=>(hs.2.1 k (by have:=h.wz;omega)).trans (h.fr.rest k hk hl)⟩⟩
theorem RT.small {g:Nat} {cur:Array Value} {t:TypeId} {f:Nat×Nat} (h:RT w z B d D vs va W) (hg:W.heap[g]?=some (.cells cur t f)) (hs:cur.size < 6) (hw:∀ k,k≠g→W'.heap[k]?=W.heap[k]?) (hb:∀ B,B≤g→Below B W W') (hz:z < g) (hl:2 < d):RT w z B d D vs va W' :=
 have:=h.dz
 ⟨h.rm.small hg hs hw (hb g (Nat.le_refl _)).size,h.asp.same (hw _ (by omega)),h.rep.kept hw (by omega),⟨h.fr.below.trans (hb d (by omega)),fun k hk hl=>(hw k (by have:=h.wz;omega)).trans (h.fr.rest k hk hl)⟩,h.zB,h.wz⟩
end
def jge (B d:Nat) (D:Dk) (s:List UInt8) (w:World) (e:Ending) (w':World):Prop:=∃ er n,e=.returned (.agg #[.int .i64 er,.int .i64 n])∧Hid (∃ D',jdv D s D' er n∧Rsk w' B d D'∧Fr d w w')
def D1 (D:Dk):Dk:={ D with n:=D.n+1 }
theorem jb4 {D D':Dk} {s:List UInt8} {o:Ord} {n er:Int} (hn:D.n < 250) (hP:jay s (some o)) (h:ObsIs (D1 D) o D' n er):jdv D s D' er n:=Or.inr ⟨hn,Or.inr ⟨o,hP,h⟩⟩
theorem D1_ok {D:Dk} (h:DOk D) (hn:D.n < 250):DOk (D1 D):=⟨h.rests,h.aside,by have:=h.n;show 0≤D.n+1∧D.n+1≤250;omega⟩
end Go.Proofs.YtcmdoeledmkfmacGreatDoor
