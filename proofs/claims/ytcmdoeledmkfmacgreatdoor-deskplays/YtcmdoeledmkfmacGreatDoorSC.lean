/- Texts of this claim, in one: RankM PMapB RefRank RefPlan. -/
import Derived.Test.YtcmdoeledmkfmacGreatDoorYS0
import Derived.BigQuiet
import Derived.Test.YtcmdoeledmkfmacGreatDoorS1
import Derived.Test.YtcmdoeledmkfmacGreatDoorS9
import Derived.Test.YtcmdoeledmkfmacGreatDoorS5
import Derived.Test.YtcmdoeledmkfmacGreatDoorSB
import Derived.Test.YtcmdoeledmkfmacGreatDoorSA
set_option linter.unusedSimpArgs false
set_option linter.unusedVariables false
set_option maxHeartbeats 40000000
set_option maxRecDepth 100000
namespace Go.Proofs.YtcmdoeledmkfmacGreatDoor
def Cand (p:Pt) (L:List Nat) (i:Nat):Prop:=i < p.ships.length∧(shp p i).st=1∧i ∉ L
structure RInv (p:Pt) (L:List Nat):Prop where
 mem:∀ i∈L,i < p.ships.length∧(shp p i).st=1
 srt:L.Pairwise fun i j=>before (shp p i) (shp p j)
 rest:∀ x∈L,∀ y,Cand p L y→before (shp p x) (shp p y)
theorem RInv.nil (p:Pt):RInv p []:=⟨(fun i h=>by cases h),List.Pairwise.nil,(fun x h=>by cases h)⟩
def Best (p:Pt) (L:List Nat) (k:Nat) (b:Int):Prop :=
 (b=-1∧∀ i,i < k→¬ Cand p L i)∨∃ j:Nat,b=j∧j < k∧Cand p L j∧∀ i,i < k→Cand p L i→i≠j→before (shp p j) (shp p i)
theorem Best.zero (p:Pt) (L:List Nat):Best p L 0 (-1):=Or.inl ⟨rfl,fun i h=>absurd h (Nat.not_lt_zero _)⟩
theorem Best.skip {p:Pt} {L:List Nat} {k:Nat} {b:Int} (h:Best p L k b) (hk:¬ Cand p L k):Best p L (k+1) b:=by
 rcases h with ⟨e,h⟩|⟨j,e,h1,h2,h3⟩
 ·refine Or.inl ⟨e,fun i hi=>?_⟩
  by_cases c:i=k
  ·rw [c];exact hk
  ·exact h i (by omega)
 ·refine Or.inr ⟨j,e,by omega,h2,fun i hi hc hne=>?_⟩
  by_cases c:i=k
  ·rw [c] at hc;exact absurd hc hk
  ·exact h3 i (by omega) hc hne
theorem Best.take {p:Pt} {L:List Nat} {k:Nat} {b:Int} (hp:ja4 p) (h:Best p L k b) (hk:Cand p L k) (hb:b=-1∨∃ j:Nat,b=j∧before (shp p k) (shp p j)):Best p L (k+1) k:=by
 refine Or.inr ⟨k,rfl,by omega,hk,fun i hi hc hne=>?_⟩
 rcases h with ⟨e,h⟩|⟨j,e,h1,h2,h3⟩
 ·exact absurd hc (h i (by omega))
 ·rcases hb with hb|⟨j',e',hb⟩
  ·omega
  ·have:j'=j:=by omega
   subst this
   by_cases c:i=j'
   ·rw [c];exact hb
   ·exact jep hb (h3 i (by omega) hc c)
theorem Best.stay {p:Pt} {L:List Nat} {k j:Nat} (hp:ja4 p) (h:Best p L k j) (hk:Cand p L k) (hb:¬ before (shp p k) (shp p j)):Best p L (k+1) j:=by
 rcases h with ⟨e,h⟩|⟨j',e,h1,h2,h3⟩
 ·omega
 ·have:j'=j:=by omega
  subst this
  refine Or.inr ⟨j',rfl,by omega,h2,fun i hi hc hne=>?_⟩
  by_cases c:i=k
  ·subst c
   have hq:(shp p j').qu≠(shp p i).qu:=jk8 hp h1 hk.1
   rcases jh3 hq with h|h
   ·exact h
   ·exact absurd h hb
  ·exact h3 i (by omega) hc hne
theorem RInv.snoc {p:Pt} {L:List Nat} {j:Nat} (h:RInv p L) (hj:Cand p L j) (hb:∀ i,i < p.ships.length→Cand p L i→i≠j→before (shp p j) (shp p i)):RInv p (L++[j]):=by
 refine⟨fun i hi=>?_,?_,fun x hx y hy=>?_⟩
 ·rcases List.mem_append.1 hi with hi|hi
  ·exact h.mem i hi
  ·have:i=j:=by simpa using hi
   rw [this];exact⟨hj.1,hj.2.1⟩
 ·rw [List.pairwise_append]
  refine⟨h.srt,by simp,fun a ha b hb'=>?_⟩
  have:b=j:=by simpa using hb'
  rw [this];exact h.rest a ha j hj
 ·have hyL:y ∉ L:=fun c=>hy.2.2 (List.mem_append_left _ c)
  have hyj:y≠j:=fun c=>hy.2.2 (by rw [c];simp)
  rcases List.mem_append.1 hx with hx|hx
  ·exact h.rest x hx y ⟨hy.1,hy.2.1,hyL⟩
  ·have:x=j:=by simpa using hx
   rw [this];exact hb y hy.1 ⟨hy.1,hy.2.1,hyL⟩ hyj
theorem RInv.nodup {p:Pt} {L:List Nat} (h:RInv p L):L.Nodup:=by
 refine List.Pairwise.imp (fun {i j} h=>?_) h.srt
 rintro rfl
 exact jdp h h
theorem RInv.done {p:Pt} {L:List Nat} (h:RInv p L) (hn:L.length=p.ships.length∨∀ i,¬ Cand p L i):jbo p L:=by
 refine⟨fun i=>⟨fun hi=>h.mem i hi,fun ⟨h1,h2⟩=>?_⟩,h.srt⟩
 by_cases c:i∈L
 ·exact c
 ·rcases hn with hn|hn
  ·have hd:(i::L).Nodup:=List.nodup_cons.2 ⟨c,h.nodup⟩
   have:=ji8 p.ships.length (i::L) hd fun x hx=>by
    rcases List.mem_cons.1 hx with e|e
    ·rw [e];exact h1
    ·exact(h.mem x e).1
   simp at this
   omega
  ·exact absurd ⟨h1,h2,c⟩ (hn i)
end Go.Proofs.YtcmdoeledmkfmacGreatDoor
namespace Go.Proofs.YtcmdoeledmkfmacGreatDoor
open Go.RowKit Go.Maps Go.ChangeMaps Go.MapKept
theorem jst (w:World):(zeroValue 4).run Tryz.prog w=.ok (.bool false) w:=by kernel_rfl
theorem jhk {e:TypeId} (he:Tryz.prog.underlying e=some .bool) {v:Value} {b:Bool} {ps:List MemPlace} (h:plainElem (H:=Unit) Tryz.prog e v=some (.lit (.bool b),ps)):v=.bool b:=by
 unfold plainElem at h
 rw [he] at h
 cases v <;> simp at h
 rw [h.1]
def updB (g:Int→Bool) (k:Int) (v:Bool):Int→Bool:=fun x=>if x=k then v else g x
def MapB (w:World) (b n:Nat) (g:Int→Bool):Prop :=
 ∃ D:DataW Unit,w.ownsMap Tryz.prog 3 (plainElem Tryz.prog 4) b n D∧IsMap D∧∀ k,Wf k→D.atKey (.int .i64 k) (.lit (.bool false))=.lit (.bool (g k))
theorem MapB.made (w:World):MapB (w.alloc (.map #[] 0)) w.heap.size 0 fun _=>false :=
 ⟨.map [],World.ownsMap_made _ _ _ _,isMap_empty,fun k _=>rfl⟩
theorem MapB.lt {w:World} {b n:Nat} {g:Int→Bool} (h:MapB w b n g):b < w.heap.size:=let ⟨D,hD,_⟩:=h;hD.lt
theorem MapB.later {w w':World} {B b n:Nat} {g:Int→Bool} (h:MapB w b n g) (hb:Below B w w') (hB:b < B):MapB w' b n g:=by
 obtain⟨D,⟨es,clock,h1,h2⟩,h3⟩:=h
 exact⟨D,⟨es,clock,by rw [hb.block b hB];exact h1,h2⟩,h3⟩
theorem MapB.same {w w':World} {b n:Nat} {g:Int→Bool} (h:MapB w b n g) (hb:w'.heap[b]?=w.heap[b]?):MapB w' b n g:=by
 obtain⟨D,⟨es,clock,h1,h2⟩,h3⟩:=h
 exact⟨D,⟨es,clock,by rw [hb];exact h1,h2⟩,h3⟩
theorem MapB.look {w:World} {b n:Nat} {g:Int→Bool} (h:MapB w b n g) {k:Int} (hk:Wf k):(Instr.lookup 101 (.map (some b)) (.int .i64 k) false).run Tryz.prog w=.ok (.bool (g k)) w:=by
 obtain⟨D,hD,hm,hg⟩:=h
 obtain⟨v,ps,hrun,hv⟩:=hD.lookup jej Tryz.underlying101 (jst w) (plainElem_bool Tryz.underlying4 false) (keyOf_int_mk Tryz.underlying3 hk)
 rw [hg k hk] at hv
 rw [hrun,jhk Tryz.underlying4 hv]
theorem MapB.put {w:World} {b n:Nat} {g:Int→Bool} (h:MapB w b n g) (hn:n < maxLen) {k:Int} {v:Bool} (hk:Wf k) :
  ∃ w',(Instr.mapUpdate 101 (.map (some b)) (.int .i64 k) (.bool v)).run Tryz.prog w=.ok () w'∧MapB w' b (n+1) (updB g k v)∧w.grownBy w' (some b):=by
 obtain⟨D,hD,hm,hg⟩:=h
 obtain⟨w',hrun,hD',hgr⟩:=hD.update jej Tryz.underlying101 hn (keyOf_int_mk Tryz.underlying3 hk) (plainElem_bool Tryz.underlying4 v)
 refine⟨w',hrun,⟨_,hD',hm.put _ _,fun x hx=>?_⟩,hgr⟩
 unfold updB
 by_cases e:x=k
 ·subst e;rw [if_pos rfl,atKey_put_same hm (by simp [WideAt.IsKeyLit])]
 ·rw [if_neg e,atKey_put_other (by intro h;injection h with _ h;exact e h)];exact hg x hx
theorem jea {w:World} {ops:Array Oper} {rest:List Oper} {o:Oper} {a:Act} {Q:Exit→Act→World→Prop} (hw:Region.wanted o (yielded ops a.tmps)=true) (m x:Operand) (ho:o.op=.lookup 101 m x false) (b n:Nat) (g:Int→Bool) (k:Int)
  (hm:a.eval m=.map (some b)) (hx:a.eval x=.int .i64 k) (hM:MapB w b n g) (hk:Wf k) (h:wpList Tryz.prog ops Q rest (a.put o.dst (.bool (g k))) w):wpList Tryz.prog ops Q (o::rest) a w:=by
 refine BigFrame.wpList_want hw fun K hK=>?_
 unfold Oper.wp
 simp [execOp,ho,hm,hx,hM.look hk,Result.andThen]
 exact hK _ _ h
theorem jin {w:World} {ops:Array Oper} {rest:List Oper} {o:Oper} {a:Act} {Q:Exit→Act→World→Prop} (hgd:o.guard=none) (m x v:Operand) (ho:o.op=.mapUpdate 101 m x v) (b n:Nat) (g:Int→Bool) (k:Int) (y:Bool)
  (hm:a.eval m=.map (some b)) (hx:a.eval x=.int .i64 k) (hv:a.eval v=.bool y) (hM:MapB w b n g) (hn:n < maxLen) (hk:Wf k)
  (h:∀ w',Hid (MapB w' b (n+1) (updB g k y)∧(∀ j,j≠b→w'.heap[j]?=w.heap[j]?)∧∀ B,B≤b→Below B w w')→w'.heap.size=w.heap.size→wpList Tryz.prog ops Q rest (a.put o.dst undef) w'):wpList Tryz.prog ops Q (o::rest) a w:=by
 refine wpList_plain hgd fun K hK=>?_
 obtain⟨D,⟨es,clock,hb,F,hs,hDe⟩,hmp,hg⟩:=hM
 obtain⟨es',clock',hrun,F',hput,_⟩:=Maps.fit_store (R':=plainElem Tryz.prog 4) jej Tryz.underlying101 hb F (Nat.lt_of_le_of_lt hs hn) (fun _ _ _ _ hz=>hz) (keyOf_int_mk Tryz.underlying3 hk) (plainElem_bool (H:=Unit) Tryz.underlying4 y)
 obtain⟨w',hrun',hM',hgr⟩:=MapB.put ⟨D,⟨es,clock,hb,F,hs,hDe⟩,hmp,hg⟩ hn (v:=y) hk
 rw [hrun] at hrun'
 injection hrun' with _ hw'
 subst hw'
 have hoth:∀ j,j≠b→(setBlock w b (.map es' clock')).heap[j]?=w.heap[j]?:=fun j hj=>heap_setBlock_other hb _ hj
 unfold Oper.wp
 simp [execOp,ho,hm,hx,hv,hrun,Result.andThen]
 refine hK _ _ (h _ ⟨hM',hoth,fun B hB=>(Below.refl B w).grown hgr (by have:=(Array.getElem?_eq_some_iff.1 hb).1;omega) (fun k hk=>by cases hk;exact hB)⟩ (by simp [setBlock]))
end Go.Proofs.YtcmdoeledmkfmacGreatDoor
namespace Go.Proofs.YtcmdoeledmkfmacGreatDoor
open Go.RowKit
def jc8 (L:List Nat):Int→Bool:=fun x=>L.any fun j=>x == (j:Int)
theorem ji5 {L:List Nat} {i:Nat}:jc8 L i=true↔i∈L:=by
 unfold jc8
 rw [List.any_eq_true]
 constructor
 ·rintro ⟨j,hj,e⟩
  have h1:(i:Int)=(j:Int):=by simpa using e
  have:i=j:=by omega
  rw [this];exact hj
 ·intro h;exact⟨i,h,by simp⟩
theorem jml (L:List Nat) (j:Nat):updB (jc8 L) j true=jc8 (L++[j]):=by
 funext x
 unfold updB jc8
 rw [List.any_append]
 by_cases h:x=(j:Int)
 ·simp [h]
 ·simp [h]
structure RMem (w:World) (p:Pt) (vs:Value) (L:List Nat) (s3:Value) (W:World):Prop where
 below:Below w.heap.size w W
 box:PBox W w.heap.size p vs
 map:MapB W (w.heap.size+1) L.length (jc8 L)
 row:W.ownsRow (w.heap.size+1+1) 3 1 s3 (ints L).length (jae cInt (ints L))
 size:w.heap.size+1+1≤W.heap.size
theorem RMem.later {w W W':World} {p:Pt} {vs s3:Value} {L:List Nat} (h:RMem w p vs L s3 W) (hb:Below W.heap.size W W'):RMem w p vs L s3 W':=by
 have hs:=h.size
 refine⟨h.below.trans (hb.mono h.below.size),h.box.later hb h.box.lt,h.map.later hb h.map.lt,⟨h.row.1,?_⟩,Nat.le_trans hs hb.size⟩
 rcases h.row.2 with h0|⟨b,cap,cur,h0,h1,h2,h3⟩
 ·exact Or.inl h0
 ·exact Or.inr ⟨b,cap,cur,h0,h1,by rw [hb.block b (Array.getElem?_eq_some_iff.1 h2).1];exact h2,h3⟩
theorem jk6 (v:Value) (p:Pt) (w:World) (hv:PtV w v p) (hp:ja4 p) :
  Calls Tryz.prog 37 #[v] w fun e w'=>(∃ v',e=.returned v'∧Hid (∃ rk,jbo p rk∧w'.ownsRow w.heap.size 3 1 v' (ints rk).length (jae cInt (ints rk))))∧Below w.heap.size w w':=by
 obtain⟨vs,rfl,⟨a,cap,rfl,hcap,hrd⟩,h4,hmx⟩:=hv
 have HR:Hid (p.ships=[]∨∃ b off,a=some ⟨b,off,none⟩∧RdK cShip w b off p.ships):=hrd
 have HP:Hid (ja4 p):=hp
 have hlen:=hp.len
 have M0:Hid (RMem w p (.slice a p.ships.length cap) [] (.slice none 0 0) ((w.alloc (.cells (jaa p (.slice a p.ships.length cap)).toArray 41)).alloc (.map #[] 0))):=by
  have X0:PBox (w.alloc (.cells (jaa p (.slice a p.ships.length cap)).toArray 41)) w.heap.size p (.slice a p.ships.length cap):=PBox.new w p _ h4
  have B0:Below w.heap.size w (w.alloc (.cells (jaa p (.slice a p.ships.length cap)).toArray 41)):=(Below.refl _ w).alloc (Nat.le_refl _) _
  have e:(w.alloc (.cells (jaa p (.slice a p.ships.length cap)).toArray 41)).heap.size=w.heap.size+1:=by simp
  have hm:=MapB.made (w.alloc (.cells (jaa p (.slice a p.ships.length cap)).toArray 41))
  rw [e] at hm
  refine⟨B0.alloc B0.size _,X0.later ((Below.refl _ _).alloc (Nat.le_refl _) _) X0.lt,hm,World.ownsRow_nil _ _ _ _,by simp⟩
 clear hrd hp
 generalize hPC:(jaa p (.slice a p.ships.length cap)).toArray=PC at *
 clear hPC
 have hmm:=@run_makeMap Tryz.prog
 have pc1:=M0.out.box.cells.2.1
 go_enter Tryz.func37,Tryz.ntmps37
 go_wp2_with fail
 clear pc1
 generalize (w.alloc (.cells PC 41)).alloc (.map #[] 0)=WA at *
 go_loopg [3,12] p.ships.length (fun kx s3 s12 wr=>∃ (k:Nat),s12=.int .i64 k∧k≤p.ships.length∧p.ships.length - k≤kx∧Hid (∃ L,RInv p L∧L.length≤k∧(L.length=k∨∀ i,¬ Cand p L i)∧RMem w p (.slice a p.ships.length cap) L s3 wr))
 case atStart=>exact⟨0,rfl,Nat.zero_le _,by omega,⟨[],RInv.nil p,Nat.le_refl _,Or.inl rfl,M0.out⟩⟩
 case round =>
  clear M0
  obtain⟨k,rfl,hk,hg,I⟩:=hrel
  obtain⟨L,hI,hLk,hLd,hM⟩:=I.out
  clear I
  by_cases hkl:k < p.ships.length
  ·have RI:Hid (RInv p L∧(L.length=k∨∀ i,¬ Cand p L i)):=⟨hI,hLd⟩
   have M:Hid (RMem w p (.slice a p.ships.length cap) L u3 wr):=hM
   have hk3:(k:Int) < (p.ships.length:Int):=by omega
   have pc1:=hM.box.cells.2.1
   obtain⟨bb,off,rfl,hrd⟩:∃ b off,a=some ⟨b,off,none⟩∧RdK cShip w b off p.ships:=by
    rcases HR.out with h|h
    ·rw [h] at hkl;simp at hkl
    ·exact h
   have RD:Hid (RdK cShip w bb off p.ships):=hrd
   clear hI hLd hM hrd
   go_wp2_with fail
   clear pc1
   go_loopg [5,17] p.ships.length (fun ky s5 s17 wi=>∃ (i:Nat) (b:Int),s17=.int .i64 i∧s5=.int .i64 b∧i≤p.ships.length∧p.ships.length - i≤ky∧Hid (Best p L i b∧RMem w p (.slice (some ⟨bb,off,none⟩) p.ships.length cap) L u3 wi))
   case atStart=>exact⟨0,-1,rfl,rfl,Nat.zero_le _,by omega,⟨Best.zero p L,M.out⟩⟩
   case round =>
    clear M
    obtain⟨i,b,rfl,rfl,hi,hgi,J⟩:=hrel
    by_cases hil:i < p.ships.length
    ·obtain⟨s,hs⟩:∃ s,p.ships[i]?=some s:=⟨p.ships[i],List.getElem?_eq_getElem hil⟩
     have ESH:Hid (shp p i=s):=jbj hs
     have HRW:Hid (RdK cShip wr bb off p.ships):=RD.out.below J.out.2.below
     obtain⟨c0,c1,c2,c3,c4,c5⟩:=HRW.out.ship hs
     have hbw:Below wr.heap.size wr (wr.alloc (.cells #[.int .i64 s.st,.int .i64 s.wd,.int .i64 s.lg,.int .i64 s.cl,.int .i64 s.si,.int .i64 s.qu] 46)):=(Below.refl _ wr).alloc (Nat.le_refl _) _
     have J2:Hid (Best p L i b∧RMem w p (.slice (some ⟨bb,off,none⟩) p.ships.length cap) L u3 (wr.alloc (.cells #[.int .i64 s.st,.int .i64 s.wd,.int .i64 s.lg,.int .i64 s.cl,.int .i64 s.si,.int .i64 s.qu] 46))):=⟨J.out.1,J.out.2.later hbw⟩
     have HRB:Hid (RdK cShip (wr.alloc (.cells #[.int .i64 s.st,.int .i64 s.wd,.int .i64 s.lg,.int .i64 s.cl,.int .i64 s.si,.int .i64 s.qu] 46)) bb off p.ships):=HRW.out.below hbw
     have N2:Hid (SBox (wr.alloc (.cells #[.int .i64 s.st,.int .i64 s.wd,.int .i64 s.lg,.int .i64 s.cl,.int .i64 s.si,.int .i64 s.qu] 46)) wr.heap.size s):=SBox.new wr s
     have hi3:(i:Int) < (p.ships.length:Int):=by omega
     have hWf:Hid (Wf (i:Int)):=Wf.of (by omega) (by omega)
     clear hs hbw J HRW
     go_upto_region 9 with fail
     clear c0 c1 c2 c3 c4 c5
     generalize wr.alloc (.cells #[.int .i64 s.st,.int .i64 s.wd,.int .i64 s.lg,.int .i64 s.cl,.int .i64 s.si,.int .i64 s.qu] 46)=WB at *
     generalize wr.heap.size=gs at *
     obtain⟨m0,m1,m2,m3,m4,m5⟩:=N2.out.cells
     clear m1 m2 m4
     by_cases hst:s.st=1
     ·by_cases hmem:i∈L
      ·have hb:jc8 L (i:Int)=true:=ji5.2 hmem
       have K2:Hid (Best p L (i+1) b∧RMem w p (.slice (some ⟨bb,off,none⟩) p.ships.length cap) L u3 WB):=⟨J2.out.1.skip (fun h=>h.2.2 hmem),J2.out.2⟩
       rw [hst] at m0
       clear hst hmem
       go_wp2_with (refine jea (by first|rfl|(simp [Region.wanted,yielded];done)) _ _ rfl (w.heap.size+1) L.length (jc8 L) (i:Int) rfl rfl J2.out.2.map hWf.out ?_;rw [hb])
       go_roundg (p.ships.length - (i+1))
       case measure=>omega
       case rel=>exact⟨i+1,b,by go_num,rfl,by omega,Nat.le_refl _,K2⟩
      ·have hb:jc8 L (i:Int)=false:=by
        cases e:jc8 L (i:Int)
        ·rfl
        ·exact absurd (ji5.1 e) hmem
       have CD:Hid (Cand p L i):=⟨hil,by rw [ESH.out];exact hst,hmem⟩
       rw [hst] at m0
       clear hst hmem
       go_upto_region 10 with (refine jea (by first|rfl|(simp [Region.wanted,yielded];done)) _ _ rfl (w.heap.size+1) L.length (jc8 L) (i:Int) rfl rfl J2.out.2.map hWf.out ?_;rw [hb])
       rcases J2.out.1 with ⟨hbn,_⟩|⟨j,hbj,hji,hcj,_⟩
       ·subst hbn
        have K2:Hid (∀ n,Best p L (i+1) (i:Int)∧RMem w p (.slice (some ⟨bb,off,none⟩) p.ships.length cap) L u3 (WB.drewN n)):=fun n=>⟨J2.out.1.take HP.out CD.out (Or.inl rfl),J2.out.2.later (below_drewN (Below.refl _ _) n)⟩
        go_quiet (fail)
        all_goals go_wp2_with fail
        go_roundg (p.ships.length - (i+1))
        case measure=>omega
        case rel=>exact⟨i+1,(i:Int),by go_num,rfl,by omega,Nat.le_refl _,K2.out _⟩
       ·subst hbj
        obtain⟨r,hr⟩:∃ r,p.ships[j]?=some r:=⟨p.ships[j]'hcj.1,List.getElem?_eq_getElem hcj.1⟩
        have ERH:Hid (shp p j=r):=jbj hr
        obtain⟨r0,r1,r2,r3,r4,r5⟩:=HRB.out.ship hr
        have pc1:=J2.out.2.box.cells.2.1
        have hj3:(j:Int) < (p.ships.length:Int):=by have:=hcj.1;omega
        have hj4:¬ (j:Int) < 0:=by omega
        clear r0 r1 r2 r4 hr hcj m0
        by_cases hbf:before s r
        ·have K2:Hid (∀ n,Best p L (i+1) (i:Int)∧RMem w p (.slice (some ⟨bb,off,none⟩) p.ships.length cap) L u3 (WB.drewN n)):=fun n=>⟨J2.out.1.take HP.out CD.out (Or.inr ⟨j,rfl,by rw [ESH.out,ERH.out];exact hbf⟩),J2.out.2.later (below_drewN (Below.refl _ _) n)⟩
         by_cases h1:s.cl < r.cl
         ·clear hbf
          go_quiet (fail)
          all_goals go_wp2_with fail
          go_roundg (p.ships.length - (i+1))
          case measure=>omega
          case rel=>exact⟨i+1,(i:Int),by go_num,rfl,by omega,Nat.le_refl _,K2.out _⟩
         ·obtain⟨h2,h3⟩:s.cl=r.cl∧s.qu < r.qu:=by unfold before at hbf;omega
          have hb2:(s.cl == r.cl)=true:=by simp [h2]
          clear hbf h2
          go_quiet (fail)
          all_goals go_wp2_with fail
          go_roundg (p.ships.length - (i+1))
          case measure=>omega
          case rel=>exact⟨i+1,(i:Int),by go_num,rfl,by omega,Nat.le_refl _,K2.out _⟩
        ·have K2:Hid (∀ n,Best p L (i+1) (j:Int)∧RMem w p (.slice (some ⟨bb,off,none⟩) p.ships.length cap) L u3 (WB.drewN n)):=fun n=>⟨J2.out.1.stay HP.out CD.out (by rw [ESH.out,ERH.out];exact hbf),J2.out.2.later (below_drewN (Below.refl _ _) n)⟩
         have h1:¬ s.cl < r.cl:=fun h=>hbf (Or.inl h)
         by_cases h2:s.cl=r.cl
         ·have hb2:(s.cl == r.cl)=true:=by simp [h2]
          have h3:¬ s.qu < r.qu:=fun h=>hbf (Or.inr ⟨h2,h⟩)
          clear hbf h2
          go_quiet (fail)
          all_goals go_wp2_with fail
          go_roundg (p.ships.length - (i+1))
          case measure=>omega
          case rel=>exact⟨i+1,(j:Int),by go_num,rfl,by omega,Nat.le_refl _,K2.out _⟩
         ·have hb2:(s.cl == r.cl)=false:=by simp [h2]
          clear hbf h2
          go_quiet (fail)
          all_goals go_wp2_with fail
          go_roundg (p.ships.length - (i+1))
          case measure=>omega
          case rel=>exact⟨i+1,(j:Int),by go_num,rfl,by omega,Nat.le_refl _,K2.out _⟩
     ·have hb:(s.st != 1)=true:=by simp [hst]
      have K2:Hid (Best p L (i+1) b∧RMem w p (.slice (some ⟨bb,off,none⟩) p.ships.length cap) L u3 WB):=⟨J2.out.1.skip (fun h=>hst (by rw [← ESH.out];exact h.2.1)),J2.out.2⟩
      clear hst
      go_wp2_with fail
      go_roundg (p.ships.length - (i+1))
      case measure=>omega
      case rel=>exact⟨i+1,b,by go_num,rfl,by omega,Nat.le_refl _,K2⟩
    ·have hie:i=p.ships.length:=by omega
     subst hie
     have hi3:¬ (p.ships.length:Int) < (p.ships.length:Int):=by omega
     rcases J.out.1 with ⟨hbn,hno⟩|⟨j,hbj,hji,hcj,hfj⟩
     ·subst hbn
      have K2:Hid (∃ L,RInv p L∧L.length≤k+1∧(L.length=k+1∨∀ i,¬ Cand p L i)∧RMem w p (.slice (some ⟨bb,off,none⟩) p.ships.length cap) L u3 wr):=⟨L,RI.out.1,by omega,Or.inr (fun i h=>hno i h.1 h),J.out.2⟩
      clear hno J
      go_wp2_with fail
      go_roundg (p.ships.length - (k+1))
      case measure=>omega
      case rel=>exact⟨k+1,by go_num,by omega,Nat.le_refl _,K2⟩
     ·subst hbj
      have hLk2:L.length=k:=by
       rcases RI.out.2 with h|h
       ·exact h
       ·exact absurd hcj (h j)
      have RS:Hid (RInv p (L++[j])):=RI.out.1.snoc hcj hfj
      have hWf:Hid (Wf (j:Int)):=Wf.of (by omega) (by omega)
      have hj4:(0:Int)≤(j:Int):=by omega
      have hLn:L.length < maxLen:=by unfold maxLen;omega
      clear hcj hfj
      go_upto_region 15 with (refine jin rfl _ _ _ rfl (w.heap.size+1) L.length (jc8 L) (j:Int) true rfl rfl rfl J.out.2.map hLn hWf.out ?_;intro w1 hw1 hs1)
      have M1:Hid (Below w.heap.size w w1∧PBox w1 w.heap.size p (.slice (some ⟨bb,off,none⟩) p.ships.length cap)∧MapB w1 (w.heap.size+1) (L.length+1) (jc8 (L++[j]))∧w1.ownsRow (w.heap.size+1+1) 3 1 u3 (ints L).length (jae cInt (ints L))∧w.heap.size+1+1≤w1.heap.size):=by
       have hsz:=J.out.2.size
       refine⟨J.out.2.below.trans (hw1.out.2.2 _ (by omega)),⟨J.out.2.box.1,by rw [hw1.out.2.1 _ (by omega)];exact J.out.2.box.2⟩,?_,jal J.out.2.row (fun g hg=>hw1.out.2.1 g (by omega)),by rw [hs1];exact hsz⟩
       have h:=hw1.out.1
       rw [jml] at h
       exact h
      clear J hw1 hs1
      have hl2:=jcb L
      have Q1:Hid ((ints L).length+1≤maxLen∧((ints L).length+1)*8≤140737488355328):=⟨by unfold maxLen;omega,by omega⟩
      have R1:Hid (RdK cInt (w1.alloc (.cells #[.int .i64 (j:Int)] 3)) w1.heap.size 0 [(j:Int)]):=jhj w1 _ _
      have hbw2:Below w1.heap.size w1 (w1.alloc (.cells #[.int .i64 (j:Int)] 3)):=(Below.refl _ w1).alloc (Nat.le_refl _) _
      have M2:Hid (Below w.heap.size w (w1.alloc (.cells #[.int .i64 (j:Int)] 3))∧PBox (w1.alloc (.cells #[.int .i64 (j:Int)] 3)) w.heap.size p (.slice (some ⟨bb,off,none⟩) p.ships.length cap)∧MapB (w1.alloc (.cells #[.int .i64 (j:Int)] 3)) (w.heap.size+1) (L.length+1) (jc8 (L++[j]))∧w.heap.size+1+1≤(w1.alloc (.cells #[.int .i64 (j:Int)] 3)).heap.size):=⟨M1.out.1.trans (hbw2.mono M1.out.1.size),M1.out.2.1.later hbw2 M1.out.2.1.lt,M1.out.2.2.1.later hbw2 M1.out.2.2.1.lt,by have:=M1.out.2.2.2.2;have:=hbw2.size;omega⟩
      have O5:Hid ((w1.alloc (.cells #[.int .i64 (j:Int)] 3)).ownsRow (w.heap.size+1+1) 3 1 u3 (ints L).length (jae cInt (ints L))):=M1.out.2.2.2.1.alloc _
      clear hbw2 M1 hl2
      go_wp2_with (at_builtin;refine jcp tyInt rfl _ _ rfl (w.heap.size+1+1) u3 (ints L) [(j:Int)] w1.heap.size 0 1 1 rfl rfl rfl O5.out R1.out M2.out.2.2.2 Q1.out.1 Q1.out.2 ?_;intro v' w2 hw2)
      go_roundg (p.ships.length - (k+1))
      case measure=>omega
      case rel =>
       have hl:(L++[j]).length=L.length+1:=by simp
       refine⟨k+1,by go_num,by omega,Nat.le_refl _,⟨L++[j],RS.out,by omega,Or.inl (by omega),M2.out.1.trans (hw2.out.2.mono (by omega)),M2.out.2.1.later hw2.out.2 (by omega),?_,?_,Nat.le_trans M2.out.2.2.2 hw2.out.2.size⟩⟩
       ·rw [hl];exact M2.out.2.2.1.later hw2.out.2 (by omega)
       ·rw [jfi];exact hw2.out.1
  ·have hke:k=p.ships.length:=by omega
   subst hke
   have hk3:¬ (p.ships.length:Int) < (p.ships.length:Int):=by omega
   have D:Hid ((∃ rk,jbo p rk∧wr.ownsRow w.heap.size 3 1 u3 (ints rk).length (jae cInt (ints rk)))∧Below w.heap.size w wr):=⟨⟨L,hI.done hLd,jar hM.row (by omega)⟩,hM.below⟩
   clear hI hLd hM
   go_wp2_with fail
   go_ret
   exact⟨⟨_,rfl,D.out.1⟩,D.out.2⟩
theorem jkf {f:List Int} (hf:InF f):∃ r,Good r∧Says f r:=by
 have h:∀ t,t≤300→∃ r,SInv f t r:=by
  intro t
  induction t with
  | zero=>intro _;exact⟨[],SInv.start f⟩
  | succ t ih =>
   intro ht
   obtain⟨r,hr⟩:=ih (by omega)
   by_cases c:t=0∨f.getD t 0≠f.getD (t - 1) 0
   ·exact⟨_,hr.snoc hf (by omega) c⟩
   ·exact⟨r,hr.skip (by omega) (by
     rcases Int.lt_trichotomy (f.getD t 0) (f.getD (t - 1) 0) with h|h|h
     ·exact absurd (Or.inr (by omega)) c
     ·exact h
     ·exact absurd (Or.inr (by omega)) c)⟩
 obtain⟨r,hr⟩:=h 300 (Nat.le_refl _)
 exact⟨r,hr.done hf⟩
theorem jsk {p:Pt} (h:ja4 p) (t:Int):ja3 p t≤16:=by
 have h1:=(je8 p.ships t fun s hs=>by have:=(h.ship s hs).1.wd;omega).1
 have h2:=(jfh p.kept t fun k hk=>(h.kept k hk).wide).1
 have h3:=h.shut
 unfold ja3
 split <;> omega
structure PlMem (w:World) (p:Pt) (vs:Value) (gA:Nat) (v5:Value) (rk:List Nat) (W:World) (s3:Value) (pl:List Int) (f:List Int):Prop where
 below:Below w.heap.size w W
 box:PBox W w.heap.size p vs
 row:W.ownsRow (w.heap.size+1) 3 1 s3 pl.length (jae cInt pl)
 lt:∀ k,s3.ownBlock=some k→k < gA
 arr:Arr W gA f
 base:w.heap.size < gA
 rkr:W.ownsRow (gA+1) 3 1 v5 (ints rk).length (jae cInt (ints rk))
section
variable {w W W':World} {p:Pt} {vs v5 s3:Value} {gA:Nat} {rk:List Nat} {pl f f2:List Int}
theorem PlMem.later (h:PlMem w p vs gA v5 rk W s3 pl f) (hb:Below W.heap.size W W'):PlMem w p vs gA v5 rk W' s3 pl f :=
 ⟨h.below.trans (hb.mono h.below.size),h.box.later hb h.box.lt,ownsRow_later h.row hb,h.lt,h.arr.later hb h.arr.lt,h.base,ownsRow_later h.rkr hb⟩
theorem PlMem.cell {b n cap:Nat} (h:PlMem w p vs gA v5 rk W (.slice (some ⟨b,0,none⟩) n cap) pl f) {i:Nat} {x:Int} (hx:pl[i]?=some x):W.cell? ⟨b,i,none⟩=some (.int .i64 x)∧W.frozen? ⟨b,i,none⟩=false:=by
 obtain⟨b',c,e,ho⟩:=OwnK.ofRow h.row (by intro e;cases e)
 injection e with e1 e2 e3
 injection e1 with e1
 injection e1 with e1
 subst e1
 have:=ho.rd.int hx
 rw [Nat.zero_add] at this
 exact⟨this,ho.frozen _⟩
theorem PlMem.store {b n cap:Nat} (h:PlMem w p vs gA v5 rk W (.slice (some ⟨b,0,none⟩) n cap) pl f) {i:Nat} (hi:i < pl.length) (x:Int):PlMem w p vs gA v5 rk (W.setCell ⟨b,i,none⟩ (.int .i64 x)) (.slice (some ⟨b,0,none⟩) n cap) (pl.set i x) f:=by
 have hb0:=(h.row.lt b rfl).1
 have hb1:=h.lt b rfl
 have hbs:=h.base
 refine⟨h.below.setCell (by show _≤b;omega) _,h.box.other _ _ (by omega),?_,h.lt,h.arr.other _ _ (by omega),h.base,jal h.rkr fun g hg=>Below.heap_setCell _ _ _ _ (by show g≠b;omega)⟩
 obtain⟨b',c,e,ho⟩:=OwnK.ofRow h.row (by intro e;cases e)
 injection e with e1 e2 e3
 injection e1 with e1
 injection e1 with e1
 subst e1 e2 e3
 have:=OwnK.toRow jh0 (IRow.set ho hi x)
 rw [List.length_set] at this ⊢
 exact this
theorem PlMem.less (h:PlMem w p vs gA v5 rk W s3 pl f) (hA:Arr W' gA f2) (ho:∀ k,k≠gA→W'.heap[k]?=W.heap[k]?) (hb:∀ B,B≤gA→Below B W W'):PlMem w p vs gA v5 rk W' s3 pl f2:=by
 have hbs:=h.base
 refine⟨h.below.trans (hb _ (by omega)),h.box.later (hb gA (Nat.le_refl _)) hbs,?_,h.lt,hA,h.base,jal h.rkr fun g hg=>ho g (by omega)⟩
 refine⟨h.row.1,?_⟩
 rcases h.row.2 with h0|⟨b,cap,cur,h0,h1,h2,h3⟩
 ·exact Or.inl h0
 ·exact Or.inr ⟨b,cap,cur,h0,h1,by rw [ho b (by have:=h.lt b (by rw [h0];rfl);omega)];exact h2,h3⟩
end
theorem jux {W:World} {B n cap:Nat} {x:Option Addr} {rk:List Nat} (h:W.ownsRow B 3 1 (.slice x n cap) (ints rk).length (jae cInt (ints rk))) {k i:Nat} (hk:rk[k]?=some i):∃ b,x=some ⟨b,0,none⟩∧W.cell? ⟨b,k,none⟩=some (.int .i64 i):=by
 have hl:=(List.getElem?_eq_some_iff.1 hk).1
 obtain⟨b,c,e,ho⟩:=OwnK.ofRow h (by
  intro e
  injection e with e1 e2 e3
  obtain⟨a',c',e',_⟩:=jaz h
  injection e' with _ e4 _
  rw [jcb] at e4
  omega)
 injection e with e1 e2 e3
 have:=ho.rd.int (jdy hk)
 rw [Nat.zero_add] at this
 exact⟨b,e1,this⟩
theorem jjm {w:World} {ops:Array Oper} {o:Oper} {a:Act} {K:Act→World→Prop} {Q:Exit→Act→World→Prop} {E:Prop} (hgd:o.guard=none) (x y:Operand) (ho:o.op=.store 76 x y) (g:Nat) (old f:List Int)
  (hx:a.eval x=.pointer (some ⟨g,0,none⟩)) (hy:a.eval y=.agg (ic f).toArray) (hA:Arr w g old) (hf:f.length=300)
  (h:∀ w',Hid (Arr w' g f∧(∀ k,k≠g→w'.heap[k]?=w.heap[k]?)∧∀ B,B≤g→Below B w w')→K (a.put o.dst undef) w'):if Region.wanted o (yielded ops a.tmps)=true then Oper.wp Tryz.prog o a w K Q else E:=by
 have hw:Region.wanted o (yielded ops a.tmps)=true:=by simp [Region.wanted,hgd]
 rw [if_pos hw]
 have hst:=run_storeVar_row (P:=Tryz.prog) w g _ 76 (ic old).toArray (ic f).toArray hA.2 (by rw [jgv];simp [jd3,hf]) (by simp [jd3,hf,hA.1]) (all_oneCell_toArray (jul f))
 unfold Oper.wp execOp
 simp only [ho,hx,hy,Instr.storeAt,Instr.sureAddr,Sem.run_bind,Sem.run_pure,Result.andThen_ok,hst]
 exact h _ ⟨⟨hf,setRow_heap w g _ _ _ _ hA.2⟩,fun k hk=>setRow_other w g k _ (by omega),fun B hB=>below_setRow (Below.refl B w) hB _⟩
theorem jfd (v:Value) (p:Pt) (w:World) (hv:PtV w v p) (hp:jaj p) :
  Calls Tryz.prog 21 #[v] w fun e w'=>(∃ v',e=.returned v'∧Hid (∃ pl,jbd p pl∧SlK cInt w' v' pl))∧Below w.heap.size w w':=by
 obtain⟨vs,rfl,⟨a,cap,rfl,hcap,hrd⟩,h4,hmx⟩:=hv
 have HV:Hid (PtV w (.agg (jaa p (.slice a p.ships.length cap)).toArray) p):=⟨_,rfl,⟨a,cap,rfl,hcap,hrd⟩,h4,hmx⟩
 have HR:Hid (p.ships=[]∨∃ b off,a=some ⟨b,off,none⟩∧RdK cShip w b off p.ships):=hrd
 have HP:Hid (jaj p):=hp
 have X0:Hid (PBox (w.alloc (.cells (jaa p (.slice a p.ships.length cap)).toArray 41)) w.heap.size p (.slice a p.ships.length cap)):=PBox.new w p _ h4
 have B0:Hid (Below w.heap.size w (w.alloc (.cells (jaa p (.slice a p.ships.length cap)).toArray 41))):=(Below.refl _ w).alloc (Nat.le_refl _) _
 have HBA:=fun W h=>jb9 (.agg (jaa p (.slice a p.ships.length cap)).toArray) p W h hp.port.baseIn
 have HRA:=fun W h=>jk6 (.agg (jaa p (.slice a p.ships.length cap)).toArray) p W h hp.port
 have hlen:p.ships.length < 15:=hp.port.len
 obtain⟨hnow0,hnow1⟩:=hp.port.now
 clear hrd hp
 generalize hPC:(jaa p (.slice a p.ships.length cap)).toArray=PC at *
 have HPC:Hid ((jaa p (.slice a p.ships.length cap)).toArray=PC):=hPC
 clear hPC
 have Z0:Hid (w.heap.size+1≤(w.alloc (.cells PC 41)).heap.size):=by show _≤_;simp
 have pc1:=X0.out.cells.2.1
 go_enter Tryz.func21,Tryz.ntmps21
 go_wp2_with fail
 clear pc1
 generalize w.alloc (.cells PC 41)=WA at *
 go_loopg [3,12] p.ships.length (fun kx s3 s12 wr=>∃ (k:Nat),s12=.int .i64 k∧k≤p.ships.length∧p.ships.length - k≤kx∧Hid (Below w.heap.size w wr∧PBox wr w.heap.size p (.slice a p.ships.length cap)∧w.heap.size+1≤wr.heap.size∧wr.ownsRow (w.heap.size+1) 3 1 s3 (List.replicate k (-1:Int)).length (jae cInt (List.replicate k (-1)))))
 case atStart=>exact⟨0,rfl,Nat.zero_le _,by omega,⟨B0.out,X0.out,Z0.out,World.ownsRow_nil _ _ _ _⟩⟩
 case round =>
  clear X0 B0 Z0
  obtain⟨k,rfl,hk,hg,I⟩:=hrel
  by_cases hkl:k < p.ships.length
  ·have hk3:(k:Int) < (p.ships.length:Int):=by omega
   have Q1:Hid ((List.replicate k (-1:Int)).length+1≤maxLen∧((List.replicate k (-1:Int)).length+1)*8≤140737488355328):=by rw [List.length_replicate];exact⟨by unfold maxLen;omega,by omega⟩
   have R1:Hid (RdK cInt (wr.alloc (.cells #[.int .i64 (-1)] 3)) wr.heap.size 0 [(-1:Int)]):=jhj wr _ _
   have hbw:Below wr.heap.size wr (wr.alloc (.cells #[.int .i64 (-1)] 3)):=(Below.refl _ wr).alloc (Nat.le_refl _) _
   have M2:Hid (Below w.heap.size w (wr.alloc (.cells #[.int .i64 (-1)] 3))∧PBox (wr.alloc (.cells #[.int .i64 (-1)] 3)) w.heap.size p (.slice a p.ships.length cap)∧w.heap.size+1≤(wr.alloc (.cells #[.int .i64 (-1)] 3)).heap.size):=⟨I.out.1.trans (hbw.mono I.out.1.size),I.out.2.1.later hbw I.out.2.1.lt,Nat.le_trans I.out.2.2.1 hbw.size⟩
   have O2:Hid ((wr.alloc (.cells #[.int .i64 (-1)] 3)).ownsRow (w.heap.size+1) 3 1 u3 (List.replicate k (-1:Int)).length (jae cInt (List.replicate k (-1)))):=I.out.2.2.2.alloc _
   clear hbw I
   go_wp2_with (at_builtin;refine jcp tyInt rfl _ _ rfl (w.heap.size+1) u3 (List.replicate k (-1:Int)) [(-1:Int)] wr.heap.size 0 1 1 rfl rfl rfl O2.out R1.out M2.out.2.2 Q1.out.1 Q1.out.2 ?_;intro v' w2 hw2)
   go_roundg (p.ships.length - (k+1))
   case measure=>omega
   case rel=>exact⟨k+1,by go_num,by omega,Nat.le_refl _,⟨M2.out.1.trans (hw2.out.2.mono (by omega)),M2.out.2.1.later hw2.out.2 (by omega),Nat.le_trans M2.out.2.2 hw2.out.2.size,by rw [List.replicate_succ'];exact hw2.out.1⟩⟩
  ·have hke:k=p.ships.length:=by omega
   subst hke
   have hk3:¬ (p.ships.length:Int) < (p.ships.length:Int):=by omega
   go_wp2_with (refine jac rfl _ rfl w.heap.size p (.slice a p.ships.length cap) rfl I.out.2.1 ?_;rw [HPC.out])
   refine(HBA _ (HV.out.below I.out.1)).mono ?_
   rintro e w3 ⟨f0,rfl,hf1,hf2,hb3⟩
   have I3:Hid (Below w.heap.size w w3∧PBox w3 w.heap.size p (.slice a p.ships.length cap)∧w.heap.size+1≤w3.heap.size∧w3.ownsRow (w.heap.size+1) 3 1 u3 (List.replicate p.ships.length (-1:Int)).length (jae cInt (List.replicate p.ships.length (-1)))):=⟨I.out.1.trans (hb3.mono I.out.1.size),I.out.2.1.later hb3 I.out.2.1.lt,Nat.le_trans I.out.2.2.1 hb3.size,ownsRow_later I.out.2.2.2 hb3⟩
   have HF0:Hid (InF f0):=⟨hf1,fun j hj=>by rw [hf2 j hj];exact⟨HP.out.base j (by omega) (by omega),jsk HP.out.port _⟩⟩
   have HF2:Hid (∀ j:Nat,j < 300→f0.getD j 0=ja3 p j):=hf2
   clear I hb3 hf2 HBA
   generalize hFA:(ic f0).toArray=FA
   have HFA:Hid ((ic f0).toArray=FA):=hFA
   clear hFA
   go_upto_region 7 with (first|(refine ja2 rfl rfl 4 rfl ?_;intro w4 hw4 hs4)|(refine ja1 rfl _ _ rfl w3.heap.size zero300 f0 rfl (by show Value.agg FA=_;rw [HFA.out]) hw4.out.1 hf1 ?_;intro w5 hw5 hs5))
   have M5:Hid (Below w.heap.size w w5∧PBox w5 w.heap.size p (.slice a p.ships.length cap)∧w5.ownsRow (w.heap.size+1) 3 1 u3 (List.replicate p.ships.length (-1:Int)).length (jae cInt (List.replicate p.ships.length (-1)))∧(∀ k,u3.ownBlock=some k→k < w3.heap.size)∧Arr w5 w3.heap.size f0∧w.heap.size < w3.heap.size):=by
    have hb:Below w3.heap.size w3 w5:=hw4.out.2.trans (hw5.out.2.2 _ (Nat.le_refl _))
    have hz:=I3.out.2.2.1
    exact⟨I3.out.1.trans (hb.mono (by omega)),I3.out.2.1.later hb (by omega),ownsRow_later I3.out.2.2.2 hb,fun k hk=>(I3.out.2.2.2.lt k hk).2,hw5.out.1,by omega⟩
   generalize w3.heap.size=gA at *
   clear I3 hw4 hw5 hs4 hs5
   go_wp2_with (refine jac rfl _ rfl w.heap.size p (.slice a p.ships.length cap) rfl M5.out.2.1 ?_;rw [HPC.out])
   refine(HRA _ (HV.out.below M5.out.1)).mono ?_
   rintro e w6 ⟨⟨v6,rfl,h6⟩,hb6⟩
   obtain⟨rk,hrk,hrow⟩:=h6.out
   have RK:Hid (jbo p rk):=hrk
   have hrl:rk.length≤14:=by have:=hrk.len;omega
   obtain⟨x6,cap6,hv6⟩:=jan hrow
   rw [jcb] at hv6
   subst hv6
   have I0:Hid (∃ pl r f,jcy p rk 0 pl r∧Says f r∧InF f∧PlMem w p (.slice a p.ships.length cap) gA (.slice x6 rk.length cap6) rk w6 u3 pl f):=by
    obtain⟨r,G,hS⟩:=jkf HF0.out
    refine⟨_,r,f0,jcy.start G (fun t t0 t1=>?_),hS,HF0.out,?_⟩
    ·have h1:=hS.2 t.toNat (by omega)
     have h2:=HF2.out t.toNat (by omega)
     rw [Int.toNat_of_nonneg t0] at h1 h2
     omega
    ·exact⟨M5.out.1.trans (hb6.mono M5.out.1.size),M5.out.2.1.later hb6 M5.out.2.1.lt,ownsRow_later M5.out.2.2.1 hb6,M5.out.2.2.2.1,M5.out.2.2.2.2.1.later hb6 M5.out.2.2.2.2.1.lt,M5.out.2.2.2.2.2,jar hrow M5.out.2.2.2.2.1.lt⟩
   clear hrk hrow hb6 h6 M5 HRA HF0 HF2
   go_wp2_with fail
   go_loopg [26] rk.length (fun kx s26 wr=>∃ (k:Nat),s26=.int .i64 k∧k≤rk.length∧rk.length - k≤kx∧Hid (∃ pl r f,jcy p rk k pl r∧Says f r∧InF f∧PlMem w p (.slice a p.ships.length cap) gA (.slice x6 rk.length cap6) rk wr u3 pl f))
   case atStart=>exact⟨0,rfl,Nat.zero_le _,by omega,I0⟩
   case round =>
    clear I0
    obtain⟨k,rfl,hk,hg,I⟩:=hrel
    obtain⟨pl,r,f,J,hSr,hIf,M⟩:=I.out
    clear I
    by_cases hkl:k < rk.length
    ·obtain⟨i,hki⟩:∃ i,rk[k]?=some i:=⟨rk[k],List.getElem?_eq_getElem hkl⟩
     obtain⟨hil,hst⟩:=(RK.out.mem i).1 (List.mem_of_getElem? hki)
     obtain⟨s,hs⟩:∃ s,p.ships[i]?=some s:=⟨p.ships[i],List.getElem?_eq_getElem hil⟩
     obtain⟨bb,off,rfl,hrd⟩:∃ b off,a=some ⟨b,off,none⟩∧RdK cShip w b off p.ships:=by
      rcases HR.out with h|h
      ·rw [h] at hil;simp at hil
      ·exact h
     obtain⟨b6,rfl,rc⟩:=jux M.rkr hki
     have hpn:=J.len
     obtain⟨go,cap3,hu3,_⟩:=OwnK.ofRow M.row (by
      intro e
      obtain⟨a',c',e',_⟩:=jaz M.row
      rw [e] at e'
      injection e' with _ e4 _
      omega)
     rw [hpn] at hu3
     subst hu3
     have HSH:=jhs HP.out.port i hil
     rw [jbj hs] at HSH
     have ESH:Hid (shp p i=s):=jbj hs
     have HKI:Hid (rk[k]?=some i):=hki
     obtain⟨c0,c1,c2,c3,c4,c5⟩:=(hrd.below M.below).ship hs
     have pc1:=M.box.cells.2.1
     have hbw:Below wr.heap.size wr (wr.alloc (.cells #[.int .i64 s.st,.int .i64 s.wd,.int .i64 s.lg,.int .i64 s.cl,.int .i64 s.si,.int .i64 s.qu] 46)):=(Below.refl _ wr).alloc (Nat.le_refl _) _
     have MM:Hid (jcy p rk k pl r∧Says f r∧InF f∧PlMem w p (.slice (some ⟨bb,off,none⟩) p.ships.length cap) gA (.slice (some ⟨b6,0,none⟩) rk.length cap6) rk (wr.alloc (.cells #[.int .i64 s.st,.int .i64 s.wd,.int .i64 s.lg,.int .i64 s.cl,.int .i64 s.si,.int .i64 s.qu] 46)) (.slice (some ⟨go,0,none⟩) p.ships.length cap3) pl f):=⟨J,hSr,hIf,M.later hbw⟩
     have N4:Hid (SBox (wr.alloc (.cells #[.int .i64 s.st,.int .i64 s.wd,.int .i64 s.lg,.int .i64 s.cl,.int .i64 s.si,.int .i64 s.qu] 46)) wr.heap.size s):=SBox.new wr s
     have hgA:gA < wr.heap.size:=M.arr.lt
     have hgo:go < gA:=M.lt go rfl
     have hk5:(k:Int) < (rk.length:Int):=by omega
     have hi3:(i:Int) < (p.ships.length:Int):=by omega
     obtain⟨w1,w2⟩:=HSH.1.wd
     obtain⟨l1,l2⟩:=HSH.1.lg
     clear hs hrd hbw J M hki HSH hst hSr hIf
     go_upto_region 11 with fail
     clear c0 c1 c2 c3 c4 c5 pc1 rc
     generalize wr.alloc (.cells #[.int .i64 s.st,.int .i64 s.wd,.int .i64 s.lg,.int .i64 s.cl,.int .i64 s.si,.int .i64 s.qu] 46)=WC at *
     generalize wr.heap.size=gs at *
     obtain⟨k0,k1,k2,k3,k4,k5⟩:=N4.out.cells
     clear k0 k3 k4 k5
     have pc0:=MM.out.2.2.2.box.cells.1
     have HFI:=jmh f r MM.out.2.1 p.now.toNat s.lg s.wd WC (by omega) l1 l2
     rw [Int.toNat_of_nonneg hnow0] at HFI
     have HIL:Hid (i < pl.length):=by show _ < _;omega
     generalize hFA:(ic f).toArray=FA at HFI
     have HFA:Hid ((ic f).toArray=FA):=hFA
     clear hFA
     go_upto_region 12 with (first|(refine jco rfl _ rfl gA f rfl MM.out.2.2.2.arr ?_;rw [HFA.out])|(go_at_call 38;refine HFI.mono ?_;rintro e w6 ⟨x,rfl,hx,hb6⟩;have F6:Hid (FitIs r p.now s.lg s.wd x∧PlMem w p (.slice (some ⟨bb,off,none⟩) p.ships.length cap) gA (.slice (some ⟨b6,0,none⟩) rk.length cap6) rk w6 (.slice (some ⟨go,0,none⟩) p.ships.length cap3) pl f∧SBox w6 gs s):=⟨hx,MM.out.2.2.2.later hb6,N4.out.later hb6 N4.out.lt⟩;obtain⟨oc,fz⟩:=F6.out.2.1.cell (List.getElem?_eq_getElem HIL.out);clear hx hb6))
     have M7:Hid (PlMem w p (.slice (some ⟨bb,off,none⟩) p.ships.length cap) gA (.slice (some ⟨b6,0,none⟩) rk.length cap6) rk (w6.setCell ⟨go,i,none⟩ (.int .i64 x)) (.slice (some ⟨go,0,none⟩) p.ships.length cap3) (pl.set i x) f):=F6.out.2.1.store HIL.out x
     have N7:Hid (SBox (w6.setCell ⟨go,i,none⟩ (.int .i64 x)) gs s):=(Below.heap_setCell _ _ _ _ (by show gs≠go;omega)).trans F6.out.2.2
     have FX:Hid (FitIs r p.now s.lg s.wd x):=F6.out.1
     have IV:Hid (jcy p rk k pl r∧Says f r∧InF f):=⟨MM.out.1,MM.out.2.1,MM.out.2.2.1⟩
     clear F6 MM N4 fz oc pc0 k1 k2 HFI
     generalize w6.setCell ⟨go,i,none⟩ (.int .i64 x)=W7 at *
     have cx:=(M7.out.cell (List.getElem?_set_self HIL.out)).1
     by_cases hx0:0≤x
     ·obtain⟨x1,x2,x3⟩:p.now≤x∧x+s.lg≤300∧room r s.wd x s.lg:=by
       rcases FX.out with ⟨h,_⟩|⟨h1,h2,h3,_⟩
       ·omega
       ·exact⟨h1,h2,h3⟩
      have X3:Hid (room r s.wd x s.lg):=x3
      obtain⟨k0,k1,k2,k3,k4,k5⟩:=N7.out.cells
      clear k0 k3 k4 k5 x3
      go_upto_region 13 with fail
      have HLS:=fun W=>joa f IV.out.2.2 x.toNat (x+s.lg).toNat s.wd W (by omega) (by omega) (by omega) w2
      rw [Int.toNat_of_nonneg (by omega:0≤x),Int.toNat_of_nonneg (by omega:0≤x+s.lg),HFA.out] at HLS
      have hdr:Below W7.heap.size W7 W7.drew:=(Below.refl _ _).drew
      have M8:Hid (PlMem w p (.slice (some ⟨bb,off,none⟩) p.ships.length cap) gA (.slice (some ⟨b6,0,none⟩) rk.length cap6) rk W7.drew (.slice (some ⟨go,0,none⟩) p.ships.length cap3) (pl.set i x) f):=M7.out.later hdr
      have N8:Hid (SBox W7.drew gs s):=N7.out.later hdr N7.out.lt
      have hwr:IntKind.i64.wrap (x+s.lg)=x+s.lg:=jbk (by omega) (by omega)
      have hf3:f.length=300:=IV.out.2.2.1
      refine wp_region_held_drew (S:=fun w'=>w'.cell? ⟨go,i,none⟩=some (.int .i64 x)∧w'.cell? ⟨gs,2,none⟩=some (.int .i64 s.lg)∧w'.cell? ⟨gs,1,none⟩=some (.int .i64 s.wd)) (by kernel_rfl) ⟨cx,k2,k1⟩ (fun hHeld=>?_)
      refine jjT 1 ⟨some 53,.move (.tmp 3),43,"ref.go:166",#[],none⟩ (.slice (some ⟨go,0,none⟩) p.ships.length cap3) rfl (by kernel_rfl) (fun _ _ _ h=>h) (Or.inl ⟨by rfl,by intro w hSw;obtain⟨z1,z2,z3⟩:=hSw;go_simp⟩) hHeld ?_
      simp only [Act.put,jjA,jjB,jjC]
      refine jjT 2 ⟨some 54,.move (.tmp 7),3,"ref.go:166",#[],none⟩ (.int .i64 (i:Int)) rfl (by kernel_rfl) (fun _ _ _ h=>h) (Or.inl ⟨by rfl,by intro w hSw;obtain⟨z1,z2,z3⟩:=hSw;go_simp⟩) hHeld ?_
      simp only [Act.put,jjA,jjB,jjC]
      refine jjT 3 ⟨some 55,.indexAddr 43 (.tmp 53) (.tmp 54),0,"ref.go:166",#[⟨1,.data⟩,⟨2,.data⟩],none⟩ (.pointer (some ⟨go,i,none⟩)) rfl (by kernel_rfl) (fun _ _ _ h=>h) (Or.inl ⟨by rfl,by intro w hSw;obtain⟨z1,z2,z3⟩:=hSw;go_simp⟩) hHeld ?_
      simp only [Act.put,jjA,jjB,jjC]
      refine jjT 4 ⟨some 56,.load 3 (.tmp 55),3,"ref.go:166",#[⟨3,.data⟩],none⟩ (.int .i64 x) rfl (by kernel_rfl) (fun _ _ _ h=>h) (Or.inl ⟨by rfl,by intro w hSw;obtain⟨z1,z2,z3⟩:=hSw;go_simp⟩) hHeld ?_
      simp only [Act.put,jjA,jjB,jjC]
      refine jjT 5 ⟨some 57,.move (.tmp 3),43,"ref.go:166",#[],none⟩ (.slice (some ⟨go,0,none⟩) p.ships.length cap3) rfl (by kernel_rfl) (fun _ _ _ h=>h) (Or.inl ⟨by rfl,by intro w hSw;obtain⟨z1,z2,z3⟩:=hSw;go_simp⟩) hHeld ?_
      simp only [Act.put,jjA,jjB,jjC]
      refine jjT 6 ⟨some 58,.move (.tmp 7),3,"ref.go:166",#[],none⟩ (.int .i64 (i:Int)) rfl (by kernel_rfl) (fun _ _ _ h=>h) (Or.inl ⟨by rfl,by intro w hSw;obtain⟨z1,z2,z3⟩:=hSw;go_simp⟩) hHeld ?_
      simp only [Act.put,jjA,jjB,jjC]
      refine jjT 7 ⟨some 59,.indexAddr 43 (.tmp 57) (.tmp 58),0,"ref.go:166",#[⟨5,.data⟩,⟨6,.data⟩],none⟩ (.pointer (some ⟨go,i,none⟩)) rfl (by kernel_rfl) (fun _ _ _ h=>h) (Or.inl ⟨by rfl,by intro w hSw;obtain⟨z1,z2,z3⟩:=hSw;go_simp⟩) hHeld ?_
      simp only [Act.put,jjA,jjB,jjC]
      refine jjT 8 ⟨some 60,.load 3 (.tmp 59),3,"ref.go:166",#[⟨7,.data⟩],none⟩ (.int .i64 x) rfl (by kernel_rfl) (fun _ _ _ h=>h) (Or.inl ⟨by rfl,by intro w hSw;obtain⟨z1,z2,z3⟩:=hSw;go_simp⟩) hHeld ?_
      simp only [Act.put,jjA,jjB,jjC]
      refine jjT 9 ⟨some 61,.fieldAddr 46 (.tmp 8) 2,0,"ref.go:166",#[],none⟩ (.pointer (some ⟨gs,2,none⟩)) rfl (by kernel_rfl) (fun _ _ _ h=>h) (Or.inl ⟨by rfl,by intro w hSw;obtain⟨z1,z2,z3⟩:=hSw;go_simp⟩) hHeld ?_
      simp only [Act.put,jjA,jjB,jjC]
      refine jjT 10 ⟨some 62,.load 3 (.tmp 61),3,"ref.go:166",#[⟨9,.data⟩],none⟩ (.int .i64 s.lg) rfl (by kernel_rfl) (fun _ _ _ h=>h) (Or.inl ⟨by rfl,by intro w hSw;obtain⟨z1,z2,z3⟩:=hSw;go_simp⟩) hHeld ?_
      simp only [Act.put,jjA,jjB,jjC]
      refine jjT 11 ⟨some 63,.binOp .add 3 (.tmp 60) (.tmp 62) 3,3,"ref.go:166",#[⟨8,.data⟩,⟨10,.data⟩],none⟩ (.int .i64 (x+s.lg)) rfl (by kernel_rfl) (fun _ _ _ h=>h) (Or.inl ⟨by rfl,by intro w hSw;obtain⟨z1,z2,z3⟩:=hSw;go_simp⟩) hHeld ?_
      simp only [Act.put,jjA,jjB,jjC]
      refine jjT 12 ⟨some 64,.fieldAddr 46 (.tmp 8) 1,0,"ref.go:166",#[],none⟩ (.pointer (some ⟨gs,1,none⟩)) rfl (by kernel_rfl) (fun _ _ _ h=>h) (Or.inl ⟨by rfl,by intro w hSw;obtain⟨z1,z2,z3⟩:=hSw;go_simp⟩) hHeld ?_
      simp only [Act.put,jjA,jjB,jjC]
      refine jjT 13 ⟨some 65,.load 3 (.tmp 64),3,"ref.go:166",#[⟨12,.data⟩],none⟩ (.int .i64 s.wd) rfl (by kernel_rfl) (fun _ _ _ h=>h) (Or.inl ⟨by rfl,by intro w hSw;obtain⟨z1,z2,z3⟩:=hSw;go_simp⟩) hHeld ?_
      simp only [Act.put,jjA,jjB,jjC]
      refine jjR 0 (by kernel_rfl) rfl fun K hK=>?_
      rw [if_pos (by rfl)]
      refine wp_load_mid 76 (.tmp 4) rfl gA 0 rfl (ic f) _ M8.out.arr.range Tryz.underlying76 rfl (by rw [jgv,jd3,hf3]) ?_
      rw [HFA.out]
      refine hK.out _ _ hHeld (fun hHeld=>?_)
      clear hK K
      simp only [Act.put,jjA,jjB,jjC]
      refine jjR 14 (by kernel_rfl) rfl fun K hK=>?_
      go_simp
      refine(HLS _).mono ?_
      rintro e w9 ⟨f2,ok9,rfl,hL9,hb9⟩
      have M9:Hid (PlMem w p (.slice (some ⟨bb,off,none⟩) p.ships.length cap) gA (.slice (some ⟨b6,0,none⟩) rk.length cap6) rk w9 (.slice (some ⟨go,0,none⟩) p.ships.length cap3) (pl.set i x) f):=M8.out.later hb9
      have N9:Hid (SBox w9 gs s):=N8.out.later hb9 N8.out.lt
      have cx9:=(M9.out.cell (List.getElem?_set_self HIL.out)).1
      have LA:Hid (jo4 f x.toNat (x+s.lg).toNat s.wd f2 ok9):=hL9
      obtain⟨k0,j1,j2,k3,k4,k5⟩:=N9.out.cells
      generalize hFB:(ic f2).toArray=FB
      have HFB:Hid ((ic f2).toArray=FB):=hFB
      clear k0 k3 k4 k5 hL9 hb9 HLS hFB
      go_wp2_with fail
      refine hK.out _ _ ⟨cx9,j2,j1⟩ (fun hHeld=>?_)
      clear hK K
      refine jjT 15 ⟨some 51,.move (.tmp 66),77,"ref.go:166",#[⟨14,.data⟩],none⟩ (.tuple #[.agg FB,.bool ok9]) rfl (by kernel_rfl) (fun _ _ _ h=>h) (Or.inl ⟨by rfl,by intro w hSw;go_simp⟩) hHeld ?_
      simp only [Act.put,jjA,jjB,jjC]
      refine jjT 16 ⟨some 67,.extract (.tmp 51) 0,76,"ref.go:166",#[⟨15,.data⟩],none⟩ (.agg FB) rfl (by kernel_rfl) (fun _ _ _ h=>h) (Or.inl ⟨by rfl,by intro w hSw;go_simp⟩) hHeld ?_
      simp only [Act.put,jjA,jjB,jjC]
      refine jjT 17 ⟨some 68,.extract (.tmp 51) 1,4,"ref.go:166",#[⟨15,.data⟩,⟨18,.gcOnly .lateStores⟩],none⟩ (.bool ok9) rfl (by kernel_rfl) (fun _ _ _ h=>h) (Or.inl ⟨by rfl,by intro w hSw;go_simp⟩) hHeld ?_
      simp only [Act.put,jjA,jjB,jjC]
      refine jjR 18 (by kernel_rfl) rfl fun K hK=>?_
      refine jjm rfl (.tmp 4) (.tmp 67) rfl gA f f2 rfl (by show Value.agg FB=_;rw [HFB.out]) M9.out.arr LA.out.1 ?_
      intro w10 hw10
      have M10:Hid (PlMem w p (.slice (some ⟨bb,off,none⟩) p.ships.length cap) gA (.slice (some ⟨b6,0,none⟩) rk.length cap6) rk w10 (.slice (some ⟨go,0,none⟩) p.ships.length cap3) (pl.set i x) f2):=M9.out.less hw10.out.1 hw10.out.2.1 hw10.out.2.2
      have N10:Hid (SBox w10 gs s):=(hw10.out.2.1 gs (by omega)).trans N9.out
      obtain⟨k0,i1,i2,k3,k4,k5⟩:=N10.out.cells
      have cx10:=(M10.out.cell (List.getElem?_set_self HIL.out)).1
      clear k0 k3 k4 k5
      refine hK.out _ _ ⟨cx10,i2,i1⟩ (fun hHeld=>?_)
      clear hK K
      have K2:Hid (∃ pl r f,jcy p rk (k+1) pl r∧Says f r∧InF f∧PlMem w p (.slice (some ⟨bb,off,none⟩) p.ships.length cap) gA (.slice (some ⟨b6,0,none⟩) rk.length cap6) rk w10 (.slice (some ⟨go,0,none⟩) p.ships.length cap3) pl f):=by
       have hS:=IV.out.2.1
       have e1:((x.toNat:Nat):Int)=x:=Int.toNat_of_nonneg (by omega)
       have e2:(((x+s.lg).toNat:Nat):Int)=x+s.lg:=Int.toNat_of_nonneg (by omega)
       rcases LA.out.2 with ⟨_,g1,g2⟩|⟨_,_,j,q1,q2,q3⟩
       ·have hI2:InF f2:=⟨LA.out.1,fun j hj=>by
         rw [g1 j hj]
         split
         ·rename_i c;exact g2 j c.1 c.2
         ·exact IV.out.2.2.2 j hj⟩
        obtain⟨r2,G2,hS2⟩:=jkf hI2
        refine⟨_,r2,f2,IV.out.1.step RK.out HKI.out hnow0 (by rw [ESH.out];exact FX.out) G2 (fun t t0 t1=>?_),hS2,hI2,M10.out⟩
        have h1:=hS2.2 t.toNat (by omega)
        have h2:=hS.2 t.toNat (by omega)
        have h3:=g1 t.toNat (by omega)
        have e3:((t.toNat:Nat):Int)=t:=Int.toNat_of_nonneg t0
        rw [e3] at h1 h2
        rw [← h1,h3,ESH.out]
        by_cases c:x≤t∧t < x+s.lg
        ·rw [if_pos (by omega),if_pos ⟨by omega,c⟩,h2]
        ·rw [if_neg (by omega),if_neg (fun c2=>c c2.2),h2];omega
       ·exfalso
        have h1:=X3.out (j:Int) (by omega) (by omega)
        have h2:=hS.2 j (by omega)
        have h3:=(IV.out.2.2.2 j (by omega)).2
        omega
      refine wpAnyH_done (by kernel_rfl) ?_ _
      clear hHeld M8 N8 M9 N9 M10 N10 LA
      go_wp2_with fail
      go_roundg (rk.length - (k+1))
      case measure=>omega
      case rel=>exact⟨k+1,by go_num,by omega,Nat.le_refl _,K2⟩
     ·have hx1:x=-1:=by
       rcases FX.out with ⟨h,_⟩|⟨h1,_⟩
       ·exact h
       ·omega
      have K2:Hid (∃ pl r f,jcy p rk (k+1) pl r∧Says f r∧InF f∧PlMem w p (.slice (some ⟨bb,off,none⟩) p.ships.length cap) gA (.slice (some ⟨b6,0,none⟩) rk.length cap6) rk W7 (.slice (some ⟨go,0,none⟩) p.ships.length cap3) pl f):=⟨_,_,_,IV.out.1.step RK.out HKI.out hnow0 (by rw [ESH.out];exact FX.out) IV.out.1.good (fun t _ _=>by rw [if_neg (by omega)];omega),IV.out.2.1,IV.out.2.2,M7.out⟩
      clear hx1
      go_wp2_with fail
      go_roundg (rk.length - (k+1))
      case measure=>omega
      case rel=>exact⟨k+1,by go_num,by omega,Nat.le_refl _,K2⟩
    ·have hke:k=rk.length:=by omega
     subst hke
     have hk4:¬ (rk.length:Int) < (rk.length:Int):=by omega
     have D:Hid ((∃ pl,jbd p pl∧SlK cInt wr u3 pl)∧Below w.heap.size w wr):=⟨⟨pl,J.done RK.out,jaz M.row⟩,M.below⟩
     clear J M hSr hIf
     go_wp2_with fail
     go_ret
     exact⟨⟨_,rfl,D.out.1⟩,D.out.2⟩
end Go.Proofs.YtcmdoeledmkfmacGreatDoor
