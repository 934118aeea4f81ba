/- Texts of this claim, in one: PMap PShips PSound RefCopy PApp POwn PLying PLess PBase. -/
import Derived.Maps.OwnOps
import Derived.Maps.Views
import Derived.Deep.DeepCutAuto
import Derived.Lib.AppendZeros
import Derived.Deep.RegionWith
import Derived.Deep.RegionLaw
import Derived.BigRegion
import Derived.Test.YtcmdoeledmkfmacGreatDoorS3
import Derived.Test.YtcmdoeledmkfmacGreatDoorS2
import Derived.Test.YtcmdoeledmkfmacGreatDoorYApp
set_option linter.unusedSimpArgs false
set_option linter.unusedVariables false
set_option maxHeartbeats 40000000
set_option maxRecDepth 100000
namespace Go.Proofs.YtcmdoeledmkfmacGreatDoor
open Go.RowKit Go.Maps Go.ChangeMaps Go.MapKept
theorem jej:Keyed Tryz.prog 3:=int_keyed Tryz.underlying3
theorem juq (w:World):(zeroValue 3).run Tryz.prog w=.ok (.int .i64 0) w:=by kernel_rfl
def Wf (n:Int):Prop:=(Lit.int .i64 n).wf=true
theorem Wf.of {n:Int} (h1:-9223372036854775808≤n) (h2:n≤9223372036854775807):Wf n:=by
  have e:wrap64 n=n:=by unfold wrap64;omega
  unfold Wf
  rw [← e]
  exact wrap64_wf n
def upd (g:Int→Int) (k v:Int):Int→Int:=fun x=>if x=k then v else g x
def MapI (w:World) (b n:Nat) (g:Int→Int):Prop :=
  ∃ D:DataW Unit,w.ownsMap Tryz.prog 3 (plainElem Tryz.prog 3) b n D∧IsMap D∧∀ k,Wf k→D.atKey (.int .i64 k) (.lit (.int .i64 0))=.lit (.int .i64 (g k))
theorem MapI.made (w:World):MapI (w.alloc (.map #[] 0)) w.heap.size 0 fun _=>0 :=
  ⟨.map [],World.ownsMap_made _ _ _ _,isMap_empty,fun k _=>rfl⟩
theorem MapI.lt {w:World} {b n:Nat} {g:Int→Int} (h:MapI w b n g):b < w.heap.size:=let ⟨D,hD,_⟩:=h;hD.lt
theorem MapI.later {w w':World} {B b n:Nat} {g:Int→Int} (h:MapI w b n g) (hb:Below B w w') (hB:b < B):MapI w' b n g:=by
  obtain⟨D,⟨es,clock,h1,h2⟩,h3⟩:=h
  exact⟨D,⟨es,clock,by rw [hb.block b hB];exact h1,h2⟩,h3⟩
theorem MapI.same {w w':World} {b n:Nat} {g:Int→Int} (h:MapI w b n g) (hb:w'.heap[b]?=w.heap[b]?):MapI w' b n g:=by
  obtain⟨D,⟨es,clock,h1,h2⟩,h3⟩:=h
  exact⟨D,⟨es,clock,by rw [hb];exact h1,h2⟩,h3⟩
theorem MapI.look {w:World} {b n:Nat} {g:Int→Int} (h:MapI w b n g) {k:Int} (hk:Wf k):(Instr.lookup 254 (.map (some b)) (.int .i64 k) false).run Tryz.prog w=.ok (.int .i64 (g k)) w:=by
  obtain⟨D,hD,hm,hg⟩:=h
  obtain⟨c,hrun,hat,_⟩:=hD.lookup_int jej Tryz.underlying254 Tryz.underlying3 (juq w) (keyOf_int_mk Tryz.underlying3 hk)
  rw [hg k hk] at hat
  rw [hrun,(Lit.int.inj (DataW.lit.inj hat)).2]
theorem MapI.put {w:World} {b n:Nat} {g:Int→Int} (h:MapI w b n g) (hn:n < maxLen) {k v:Int} (hk:Wf k) (hv:Wf v) :
    ∃ w',(Instr.mapUpdate 254 (.map (some b)) (.int .i64 k) (.int .i64 v)).run Tryz.prog w=.ok () w'∧MapI w' b (n+1) (upd g k v)∧w.grownBy w' (some b):=by
  obtain⟨D,hD,hm,hg⟩:=h
  obtain⟨w',hrun,hD',hgr⟩:=hD.update jej Tryz.underlying254 hn (keyOf_int_mk Tryz.underlying3 hk) (plainElem_int Tryz.underlying3 hv)
  refine⟨w',hrun,⟨_,hD',hm.put _ _,fun x hx=>?_⟩,hgr⟩
  unfold upd
  by_cases e:x=k
  · subst e;rw [if_pos rfl,atKey_put_same hm (by simp [WideAt.IsKeyLit])]
  · rw [if_neg e,atKey_put_other (by intro h;injection h with _ h;exact e h)];exact hg x hx
theorem jia {w:World} {ops:Array Oper} {rest:List Oper} {o:Oper} {a:Act} {Q:Exit→Act→World→Prop} (hgd:o.guard=none) (m x:Operand) (ho:o.op=.lookup 254 m x false) (b n:Nat) (g:Int→Int) (k:Int)
    (hm:a.eval m=.map (some b)) (hx:a.eval x=.int .i64 k) (hM:MapI w b n g) (hk:Wf k) (h:wpList Tryz.prog ops Q rest (a.put o.dst (.int .i64 (g k))) w):wpList Tryz.prog ops Q (o::rest) a w:=by
  refine wpList_plain hgd fun K hK=>?_
  unfold Oper.wp
  simp [execOp,ho,hm,hx,hM.look hk,Result.andThen]
  exact hK _ _ h
theorem jd9 {w:World} {ops:Array Oper} {rest:List Oper} {o:Oper} {a:Act} {Q:Exit→Act→World→Prop} (hw:Region.wanted o (yielded ops a.tmps)=true) (m x:Operand) (ho:o.op=.lookup 254 m x false) (b n:Nat) (g:Int→Int) (k:Int)
    (hm:a.eval m=.map (some b)) (hx:a.eval x=.int .i64 k) (hM:MapI w b n g) (hk:Wf k) (h:wpList Tryz.prog ops Q rest (a.put o.dst (.int .i64 (g k))) w):wpList Tryz.prog ops Q (o::rest) a w:=by
  refine BigFrame.wpList_want hw fun K hK=>?_
  unfold Oper.wp
  simp [execOp,ho,hm,hx,hM.look hk,Result.andThen]
  exact hK _ _ h
theorem jim {w:World} {ops:Array Oper} {rest:List Oper} {o:Oper} {a:Act} {Q:Exit→Act→World→Prop} (hgd:o.guard=none) (m x v:Operand) (ho:o.op=.mapUpdate 254 m x v) (b n:Nat) (g:Int→Int) (k y:Int)
    (hm:a.eval m=.map (some b)) (hx:a.eval x=.int .i64 k) (hv:a.eval v=.int .i64 y) (hM:MapI w b n g) (hn:n < maxLen) (hk:Wf k) (hy:Wf y)
    (h:∀ w',Hid (MapI w' b (n+1) (upd g k y)∧(∀ j,j≠b→w'.heap[j]?=w.heap[j]?)∧∀ B,B≤b→Below B w w')→w'.heap.size=w.heap.size→wpList Tryz.prog ops Q rest (a.put o.dst undef) w'):wpList Tryz.prog ops Q (o::rest) a w:=by
  refine wpList_plain hgd fun K hK=>?_
  obtain⟨D,⟨es,clock,hb,F,hs,hDe⟩,hmp,hg⟩:=hM
  obtain⟨es',clock',hrun,F',hput,_⟩:=Maps.fit_store (R':=plainElem Tryz.prog 3) jej Tryz.underlying254 hb F (Nat.lt_of_le_of_lt hs hn) (fun _ _ _ _ hz=>hz) (keyOf_int_mk Tryz.underlying3 hk) (plainElem_int (H:=Unit) Tryz.underlying3 hy)
  obtain⟨w',hrun',hM',hgr⟩:=MapI.put ⟨D,⟨es,clock,hb,F,hs,hDe⟩,hmp,hg⟩ hn hk hy
  rw [hrun] at hrun'
  injection hrun' with _ hw'
  subst hw'
  have hoth:∀ j,j≠b→(setBlock w b (.map es' clock')).heap[j]?=w.heap[j]?:=fun j hj=>heap_setBlock_other hb _ hj
  unfold Oper.wp
  simp [execOp,ho,hm,hx,hv,hrun,Result.andThen]
  refine hK _ _ (h _ ⟨hM',hoth,fun B hB=>(Below.refl B w).grown hgr (by have:=(Array.getElem?_eq_some_iff.1 hb).1;omega) (fun k hk=>by cases hk;exact hB)⟩ (by simp [setBlock]))
end Go.Proofs.YtcmdoeledmkfmacGreatDoor
namespace Go.Proofs.YtcmdoeledmkfmacGreatDoor
open Go.RowKit
def jb7 (p:Pt) (k:Nat):Prop :=
  (∀ i s,i < k→p.ships[i]?=some s→jce s p.now∧s.qu < p.next)∧∀ (i j:Nat) (r s:Ship),i < j→j < k→p.ships[i]?=some r→p.ships[j]?=some s→r.qu≠s.qu
theorem jb7.succ {p:Pt} {k:Nat} {s:Ship} (hs:p.ships[k]?=some s):jb7 p (k+1)↔jb7 p k∧(jce s p.now∧s.qu < p.next)∧∀ (i:Nat) (r:Ship),i < k→p.ships[i]?=some r→r.qu≠s.qu:=by
  unfold jb7
  constructor
  · rintro ⟨e,f⟩
    exact⟨⟨fun i s hi=>e i s (by omega),fun i j r s hij hj=>f i j r s hij (by omega)⟩,e k s (by omega) hs,fun i r hi hr=>f i k r s hi (by omega) hr hs⟩
  · rintro ⟨⟨e,f⟩,g,h⟩
    refine⟨fun i s' hi hs'=>?_,fun i j r s' hij hj hr hs'=>?_⟩
    · by_cases x:i=k
      · subst x;rw [hs] at hs';injection hs' with hs';subst hs';exact g
      · exact e i s' (by omega) hs'
    · by_cases x:j=k
      · subst x;rw [hs] at hs';injection hs' with hs';subst hs';exact h i r hij hr
      · exact f i j r s' hij (by omega) hr hs'
theorem jb7.mono {p:Pt} {k m:Nat} (h:jb7 p m) (hk:k≤m):jb7 p k:=⟨fun i s hi=>h.1 i s (by omega),fun i j r s hij hj=>h.2 i j r s hij (by omega)⟩
def cnt (p:Pt) (j:Nat):Int→Int:=fun x=>((p.ships.take j).countP fun s=>decide (s.qu=x):Nat)
theorem jt4 (p:Pt):cnt p 0=fun _=>0:=by funext x;simp [cnt]
theorem jpu {p:Pt} {j:Nat} {s:Ship} (hs:p.ships[j]?=some s):upd (cnt p j) s.qu (cnt p j s.qu+1)=cnt p (j+1):=by
  funext x
  unfold upd cnt
  rw [List.take_add_one,hs,Option.toList_some,List.countP_append]
  by_cases e:x=s.qu
  · subst e;simp
  · rw [if_neg e];simp [show ¬ s.qu=x from fun h=>e h.symm]
theorem jsi (p:Pt) (j:Nat) (x:Int):0≤cnt p j x∧cnt p j x≤p.ships.length:=by
  unfold cnt
  have:=List.countP_le_length (p:=fun s:Ship=>decide (s.qu=x)) (l:=p.ships.take j)
  have h2:(p.ships.take j).length≤p.ships.length:=by simp;omega
  omega
theorem jsh {p:Pt} {j:Nat} {x:Int}:0 < cnt p j x↔∃ i r,i < j∧p.ships[i]?=some r∧r.qu=x:=by
  unfold cnt
  rw [show(0 < (((p.ships.take j).countP fun s=>decide (s.qu=x):Nat):Int))↔0 < ((p.ships.take j).countP fun s=>decide (s.qu=x)) from by omega,List.countP_pos_iff]
  constructor
  · rintro ⟨r,hr,h⟩
    obtain⟨i,hi,rfl⟩:=List.mem_iff_getElem.1 hr
    rw [List.length_take] at hi
    exact⟨i,_,by omega,by rw [List.getElem_take];exact List.getElem?_eq_getElem (by omega),of_decide_eq_true h⟩
  · rintro ⟨i,r,hi,hr,h⟩
    refine⟨r,List.mem_iff_getElem?.2 ⟨i,by rw [List.getElem?_take,if_pos hi];exact hr⟩,decide_eq_true h⟩
def WfQ (p:Pt):Prop:=∀ s∈p.ships,Wf s.qu
theorem WfQ.of {p:Pt} (h:jaj p):WfQ p:=fun s hs=>by
  have h1:=h.port.ship s hs
  have h2:=h1.1.qu
  have h3:=h.port.next
  exact Wf.of (by omega) (by omega)
def SBox (w:World) (g:Nat) (s:Ship):Prop:=w.heap[g]?=some (.cells #[.int .i64 s.st,.int .i64 s.wd,.int .i64 s.lg,.int .i64 s.cl,.int .i64 s.si,.int .i64 s.qu] 46)
theorem SBox.cells {w:World} {g:Nat} {s:Ship} (h:SBox w g s) :
    w.cell? ⟨g,0,none⟩=some (.int .i64 s.st)∧w.cell? ⟨g,1,none⟩=some (.int .i64 s.wd)∧w.cell? ⟨g,2,none⟩=some (.int .i64 s.lg)∧w.cell? ⟨g,3,none⟩=some (.int .i64 s.cl)∧w.cell? ⟨g,4,none⟩=some (.int .i64 s.si)∧w.cell? ⟨g,5,none⟩=some (.int .i64 s.qu):=by
  have e:∀ i u,(cShip s)[i]?=some u→w.cell? ⟨g,i,none⟩=some u:=fun i u hu=>by rw [cell_of_row _ _ _ _ _ _ h];simpa [cShip] using hu
  exact⟨e 0 _ rfl,e 1 _ rfl,e 2 _ rfl,e 3 _ rfl,e 4 _ rfl,e 5 _ rfl⟩
theorem SBox.new (w:World) (s:Ship):SBox (w.alloc (.cells #[.int .i64 s.st,.int .i64 s.wd,.int .i64 s.lg,.int .i64 s.cl,.int .i64 s.si,.int .i64 s.qu] 46)) w.heap.size s:=heap_alloc_new w _
theorem SBox.lt {w:World} {g:Nat} {s:Ship} (h:SBox w g s):g < w.heap.size:=(Array.getElem?_eq_some_iff.1 h).1
theorem SBox.later {w w':World} {B g:Nat} {s:Ship} (h:SBox w g s) (hb:Below B w w') (hB:g < B):SBox w' g s:=by unfold SBox;rw [hb.block g hB];exact h
theorem jlc (v:Value) (p:Pt) (w:World) (hv:PtV w v p) (hq:WfQ p) :
    Calls Tryz.prog 174 #[v] w fun e w'=>IsB e (p.ships.length < 15∧jb7 p p.ships.length)∧Below w.heap.size w w':=by
  obtain⟨vs,rfl,⟨a,cap,rfl,hcap,hrd⟩,h4,hmx⟩:=hv
  have HR:Hid (p.ships=[]∨∃ b off,a=some ⟨b,off,none⟩∧RdK cShip w b off p.ships):=hrd
  have HQ:Hid (WfQ p):=hq
  have X0:Hid (PBox (w.alloc (.cells (jaa p (.slice a p.ships.length cap)).toArray 41)) w.heap.size p (.slice a p.ships.length cap)):=PBox.new w p _ h4
  have B0:Hid (Below w.heap.size w (w.alloc (.cells (jaa p (.slice a p.ships.length cap)).toArray 41))):=(Below.refl _ w).alloc (Nat.le_refl _) _
  have Z0:Hid ((w.alloc (.cells (jaa p (.slice a p.ships.length cap)).toArray 41)).heap.size=w.heap.size+1):=by show _=_;simp
  obtain⟨pc0,pc1,pc14,pc15⟩:=X0.out.cells
  clear hrd hq
  generalize hPC:(jaa p (.slice a p.ships.length cap)).toArray=PC at *
  clear hPC
  have hmm:=@run_makeMap Tryz.prog
  by_cases h5:(14:Int) < (p.ships.length:Int)
  · have NO:Hid (¬ (p.ships.length < 15∧jb7 p p.ships.length)):=fun h=>by have:=h.1;omega
    go_enter Tryz.func174,Tryz.ntmps174
    go_wp2
    go_ret
    exact⟨⟨false,rfl,⟨fun h=>(by cases h),fun h=>absurd h NO.out⟩⟩,B0.out⟩
  have h6:p.ships.length < 15:=by omega
  have X1:Hid (PBox ((w.alloc (.cells PC 41)).alloc (.map #[] 0)) w.heap.size p (.slice a p.ships.length cap)):=X0.out.later ((Below.refl _ _).alloc (Nat.le_refl _) _) X0.out.lt
  have B1:Hid (Below w.heap.size w ((w.alloc (.cells PC 41)).alloc (.map #[] 0))):=B0.out.alloc (by rw [Z0.out];omega) _
  have M1:Hid (MapI ((w.alloc (.cells PC 41)).alloc (.map #[] 0)) (w.heap.size+1) 0 (cnt p 0)):=by
    rw [jt4,← Z0.out];exact MapI.made _
  have qc1:=X1.out.cells.2.1
  go_enter Tryz.func174,Tryz.ntmps174
  go_wp2_with fail
  clear pc0 pc1 pc14 pc15 qc1 X0 B0 Z0
  generalize (w.alloc (.cells PC 41)).alloc (.map #[] 0)=WA at *
  go_loopg [14] p.ships.length (fun kx s14 wr=>∃ (j:Nat),s14=.int .i64 j∧j≤p.ships.length∧p.ships.length - j≤kx∧Hid (Below w.heap.size w wr)∧Hid (PBox wr w.heap.size p (.slice a p.ships.length cap))∧Hid (MapI wr (w.heap.size+1) j (cnt p j))∧Hid (jb7 p j))
  case atStart=>exact⟨0,rfl,Nat.zero_le _,by omega,B1,X1,M1,(⟨fun i s hi=>absurd hi (Nat.not_lt_zero _),fun i j r s _ hj=>absurd hj (Nat.not_lt_zero _)⟩:jb7 p 0)⟩
  case round =>
    clear B1 X1 M1
    obtain⟨j,rfl,hj,hg,S1,X1,M1,I⟩:=hrel
    by_cases hjl:j < p.ships.length
    · obtain⟨s,hs⟩:∃ s,p.ships[j]?=some s:=⟨p.ships[j],List.getElem?_eq_getElem hjl⟩
      obtain⟨bb,off,rfl,hrd⟩:∃ b off,a=some ⟨b,off,none⟩∧RdK cShip w b off p.ships:=by
        rcases HR.out with h|h
        · rw [h] at hjl;simp at hjl
        · exact h
      have HS:Hid (p.ships[j]?=some s):=hs
      have HWQ:Hid (Wf s.qu):=HQ.out s (List.mem_of_getElem? hs)
      obtain⟨c0,c1,c2,c3,c4,c5⟩:=(hrd.below S1.out).ship hs
      have hbw:Below wr.heap.size wr (wr.alloc (.cells #[.int .i64 s.st,.int .i64 s.wd,.int .i64 s.lg,.int .i64 s.cl,.int .i64 s.si,.int .i64 s.qu] 46)):=(Below.refl _ wr).alloc (Nat.le_refl _) _
      have S4:Hid (Below w.heap.size w (wr.alloc (.cells #[.int .i64 s.st,.int .i64 s.wd,.int .i64 s.lg,.int .i64 s.cl,.int .i64 s.si,.int .i64 s.qu] 46))):=S1.out.trans (hbw.mono S1.out.size)
      have X4:Hid (PBox (wr.alloc (.cells #[.int .i64 s.st,.int .i64 s.wd,.int .i64 s.lg,.int .i64 s.cl,.int .i64 s.si,.int .i64 s.qu] 46)) w.heap.size p (.slice (some ⟨bb,off,none⟩) p.ships.length cap)):=X1.out.later hbw X1.out.lt
      have M4:Hid (MapI (wr.alloc (.cells #[.int .i64 s.st,.int .i64 s.wd,.int .i64 s.lg,.int .i64 s.cl,.int .i64 s.si,.int .i64 s.qu] 46)) (w.heap.size+1) j (cnt p j)):=M1.out.later hbw M1.out.lt
      have N4:Hid (SBox (wr.alloc (.cells #[.int .i64 s.st,.int .i64 s.wd,.int .i64 s.lg,.int .i64 s.cl,.int .i64 s.si,.int .i64 s.qu] 46)) wr.heap.size s):=SBox.new wr s
      have hml:w.heap.size+1 < wr.heap.size:=M1.out.lt
      have hk3:(j:Int) < (p.ships.length:Int):=by omega
      clear hs hrd hbw S1 X1 M1
      go_upto_region 7 with fail
      clear c0 c1 c2 c3 c4 c5
      generalize wr.alloc (.cells #[.int .i64 s.st,.int .i64 s.wd,.int .i64 s.lg,.int .i64 s.cl,.int .i64 s.si,.int .i64 s.qu] 46)=WB at *
      generalize wr.heap.size=gs at *
      obtain⟨k0,k1,k2,k3,k4,k5⟩:=N4.out.cells
      have hcb:=jsi p j s.qu
      obtain⟨hcb0,hcb1⟩:=hcb
      have hcb2:cnt p j s.qu≤14:=by omega
      have HW1:Hid (Wf (cnt p j s.qu+1)):=Wf.of (by omega) (by omega)
      go_upto_region 8 with (first|(refine jia rfl _ _ rfl (w.heap.size+1) j (cnt p j) s.qu rfl rfl M4.out HWQ.out ?_)|(refine jim rfl _ _ _ rfl (w.heap.size+1) j (cnt p j) s.qu (cnt p j s.qu+1) rfl rfl (by first|rfl|go_num) M4.out (by unfold maxLen;omega) HWQ.out HW1.out ?_;intro w7 hw7 hs7))
      have S7:Hid (Below w.heap.size w w7):=S4.out.trans (hw7.out.2.2 _ (by omega))
      have X7:Hid (PBox w7 w.heap.size p (.slice (some ⟨bb,off,none⟩) p.ships.length cap)):=⟨X4.out.1,(hw7.out.2.1 _ (by omega)).trans X4.out.2⟩
      have N7:Hid (SBox w7 gs s):=(hw7.out.2.1 gs (by omega)).trans N4.out
      have M7:Hid (MapI w7 (w.heap.size+1) (j+1) (cnt p (j+1))):=by have h:=hw7.out.1;rw [jpu HS.out] at h;exact h
      have HC1:Hid (cnt p (j+1) s.qu=cnt p j s.qu+1):=by show _=_;rw [← jpu HS.out];simp [upd]
      clear hw7 hs7 S4 X4 N4 M4 k0 k1 k2 k3 k4 k5 HW1
      obtain⟨k0,k1,k2,k3,k4,k5⟩:=N7.out.cells
      obtain⟨pc0,pc1,pc14,pc15⟩:=X7.out.cells
      have HI:=fun W=>jm6 s p.now W
      simp only [cShip] at HI
      have e1:Hid (0≤cnt p j s.qu∧cnt p j s.qu≤14):=⟨hcb0,hcb2⟩
      clear hcb0 hcb1 hcb2
      have FW:Hid (∀ w8,Below w7.heap.size w7 w8→Below w.heap.size w w8∧PBox w8 w.heap.size p (.slice (some ⟨bb,off,none⟩) p.ships.length cap)∧MapI w8 (w.heap.size+1) (j+1) (cnt p (j+1))∧SBox w8 gs s):=fun w8 hb8 =>
        ⟨S7.out.trans (hb8.mono S7.out.size),X7.out.later hb8 X7.out.lt,M7.out.later hb8 M7.out.lt,N7.out.later hb8 N7.out.lt⟩
      generalize hib:jbc s p.now=ib at HI
      cases ib
      case false =>
        have NO:Hid (¬ (p.ships.length < 15∧jb7 p p.ships.length)):=fun h=>by
          have h1:=((jb7.succ HS.out).1 (h.2.mono (k:=j+1) (by omega))).2.1.1
          have:=jcs.2 h1
          rw [hib] at this;cases this
        clear hib
        go_wp2_with (go_at_call 195;refine(HI _).mono ?_;rintro e w8 ⟨rfl,hb8⟩;have F8:Hid (_∧_∧_∧_):=FW.out w8 hb8;clear hb8)
        go_ret
        exact⟨⟨false,rfl,⟨fun h=>(by cases h),fun h=>absurd h NO.out⟩⟩,F8.out.1⟩
      case true =>
        have YI:Hid (jce s p.now):=jcs.1 hib
        clear hib
        by_cases hqn:s.qu < p.next
        case neg =>
          have hqn':p.next≤s.qu:=by omega
          have NO:Hid (¬ (p.ships.length < 15∧jb7 p p.ships.length)):=fun h=>by
            have h1:=((jb7.succ HS.out).1 (h.2.mono (k:=j+1) (by omega))).2.1.2
            omega
          clear hqn
          go_wp2_with (go_at_call 195;refine(HI _).mono ?_;rintro e w8 ⟨rfl,hb8⟩;have F8:Hid (_∧_∧_∧_):=FW.out w8 hb8;have q5:=F8.out.2.2.2.cells.2.2.2.2.2;have r15:=F8.out.2.1.cells.2.2.2;clear hb8)
          go_ret
          exact⟨⟨false,rfl,⟨fun h=>(by cases h),fun h=>absurd h NO.out⟩⟩,F8.out.1⟩
        have hqn':¬ p.next≤s.qu:=by omega
        by_cases hc:0 < cnt p j s.qu
        · have NO:Hid (¬ (p.ships.length < 15∧jb7 p p.ships.length)):=fun h=>by
            have h1:=((jb7.succ HS.out).1 (h.2.mono (k:=j+1) (by omega))).2.2
            obtain⟨i,r,hi,hr,he⟩:=jsh.1 hc
            exact h1 i r hi hr he
          have hc2:1 < cnt p (j+1) s.qu:=by rw [HC1.out];omega
          clear hqn hc
          go_wp2_with (first|(go_at_call 195;refine(HI _).mono ?_;rintro e w8 ⟨rfl,hb8⟩;have F8:Hid (_∧_∧_∧_):=FW.out w8 hb8;have q5:=F8.out.2.2.2.cells.2.2.2.2.2;have r15:=F8.out.2.1.cells.2.2.2;clear hb8)|(refine jd9 (by first|rfl|(simp [Region.wanted,yielded,hqn'];done)) _ _ rfl (w.heap.size+1) (j+1) (cnt p (j+1)) s.qu rfl rfl F8.out.2.2.1 HWQ.out ?_))
          go_ret
          exact⟨⟨false,rfl,⟨fun h=>(by cases h),fun h=>absurd h NO.out⟩⟩,F8.out.1⟩
        · have I2:Hid (jb7 p (j+1)):=(jb7.succ HS.out).2 ⟨I.out,⟨YI.out,hqn⟩,fun i r hi hr he=>hc (jsh.2 ⟨i,r,hi,hr,he⟩)⟩
          have hc2:¬ 1 < cnt p (j+1) s.qu:=by rw [HC1.out];omega
          clear hqn hc
          go_wp2_with (first|(go_at_call 195;refine(HI _).mono ?_;rintro e w8 ⟨rfl,hb8⟩;have F8:Hid (_∧_∧_∧_):=FW.out w8 hb8;have q5:=F8.out.2.2.2.cells.2.2.2.2.2;have r15:=F8.out.2.1.cells.2.2.2;clear hb8)|(refine jd9 (by first|rfl|(simp [Region.wanted,yielded,hqn'];done)) _ _ rfl (w.heap.size+1) (j+1) (cnt p (j+1)) s.qu rfl rfl F8.out.2.2.1 HWQ.out ?_))
          go_roundg (p.ships.length - (j+1))
          case measure=>omega
          case rel=>exact⟨j+1,by go_num,by omega,Nat.le_refl _,F8.out.1,F8.out.2.1,F8.out.2.2.1,I2⟩
    · have hje:j=p.ships.length:=by omega
      have I4:Hid (jb7 p p.ships.length):=by have h:=I.out;rw [hje] at h;exact h
      clear hje I
      have hj3:¬ ((j:Int) < (p.ships.length:Int)):=by omega
      go_wp2
      go_ret
      exact⟨⟨true,rfl,⟨fun _=>by first|exact⟨h6,I4.out⟩|exact I4.out,fun _=>rfl⟩⟩,S1.out⟩
theorem jol {p:Pt} (h4:p.kept.length=4):ja4 p↔(0≤p.now∧p.now≤299)∧(0≤p.shut∧p.shut≤16)∧(0≤p.next∧p.next≤1048576)∧(p.ships.length < 15∧jb7 p p.ships.length)∧∀ k∈p.kept,jb2 k:=by
  constructor
  · intro h
    exact⟨h.now,h.shut,h.next,⟨h.len,fun i s _ hs=>h.ship s (List.mem_of_getElem? hs),fun i j r s hij _ hr hs=>h.once i j r s hij hr hs⟩,h.kept⟩
  · rintro ⟨a,b,d,⟨c,e,f⟩,g⟩
    refine⟨a,b,c,d,fun s hs=>?_,fun i j r s hij hr hs=>f i j r s hij (List.getElem?_eq_some_iff.1 hs).1 hr hs,h4,g⟩
    obtain⟨i,hi,rfl⟩:=List.mem_iff_getElem.1 hs
    exact e i _ hi (List.getElem?_eq_getElem hi)
theorem PBox.slKept {w:World} {g:Nat} {p:Pt} {vs:Value} (h:PBox w g p vs):SlK cKp w (.slice (some ⟨g,2,none⟩) 4 4) p.kept:=by
  refine⟨_,_,by rw [h.1],by rw [h.1];exact Nat.le_refl _,Or.inr ⟨g,2,rfl,fun j u hu=>h.keeps j u hu⟩⟩
theorem jl7 (v:Value) (p:Pt) (w:World) (hv:PtV w v p) (hq:WfQ p) :
    Calls Tryz.prog 141 #[v] w fun e w'=>IsB e (ja4 p)∧Below w.heap.size w w':=by
  obtain⟨vs,rfl,hsl,h4,hmx⟩:=hv
  have HV:Hid (PtV w (.agg (jaa p vs).toArray) p):=⟨vs,rfl,hsl,h4,hmx⟩
  have X0:Hid (PBox (w.alloc (.cells (jaa p vs).toArray 41)) w.heap.size p vs):=PBox.new w p _ h4
  have B0:Hid (Below w.heap.size w (w.alloc (.cells (jaa p vs).toArray 41))):=(Below.refl _ w).alloc (Nat.le_refl _) _
  obtain⟨pc0,pc1,pc14,pc15⟩:=X0.out.cells
  have HI:=jol h4
  have HV0:Hid (PtV (w.alloc (.cells (jaa p vs).toArray 41)) (.agg (jaa p vs).toArray) p):=HV.out.below B0.out
  clear hsl
  have HG:=fun W h=>jlc (.agg (jaa p vs).toArray) p W h hq
  have HK:=fun W (h:SlK cKp W (.slice (some ⟨w.heap.size,2,none⟩) 4 4) p.kept)=>jm7 _ p.kept W h (by omega)
  generalize hPC:(jaa p vs).toArray=PC at *
  have HPC:Hid ((jaa p vs).toArray=PC):=hPC
  clear hPC
  rcases jbz p.now 0 299 with b1|b1
  case inr =>
    have NO:Hid (¬ ja4 p):=fun h=>jb0 b1 (HI.1 h).1
    clear HI HG HK
    go_enter Tryz.func141,Tryz.ntmps141
    go_wp2_with (first|(go_at_call 84;refine(jhl _ _).mono ?_;rintro e w' ⟨rfl,rfl⟩)|(go_at_call 107;refine(jb5 _ _ _ _).mono ?_;rintro e w' ⟨rfl,rfl⟩))
    go_ret
    exact⟨⟨false,rfl,⟨fun h=>(by cases h),fun h=>absurd h NO.out⟩⟩,B0.out⟩
  rcases jbz p.shut 0 16 with b2|b2
  case inr =>
    have NO:Hid (¬ ja4 p):=fun h=>jb0 b2 (HI.1 h).2.1
    clear HI HG HK
    go_enter Tryz.func141,Tryz.ntmps141
    go_wp2_with (first|(go_at_call 84;refine(jhl _ _).mono ?_;rintro e w' ⟨rfl,rfl⟩)|(go_at_call 107;refine(jb5 _ _ _ _).mono ?_;rintro e w' ⟨rfl,rfl⟩))
    go_ret
    exact⟨⟨false,rfl,⟨fun h=>(by cases h),fun h=>absurd h NO.out⟩⟩,B0.out⟩
  rcases jbz p.next 0 1048576 with b3|b3
  case inr =>
    have NO:Hid (¬ ja4 p):=fun h=>jb0 b3 (HI.1 h).2.2.1
    clear HI HG HK
    go_enter Tryz.func141,Tryz.ntmps141
    go_wp2_with (first|(go_at_call 84;refine(jhl _ _).mono ?_;rintro e w' ⟨rfl,rfl⟩)|(go_at_call 107;refine(jb5 _ _ _ _).mono ?_;rintro e w' ⟨rfl,rfl⟩))
    go_ret
    exact⟨⟨false,rfl,⟨fun h=>(by cases h),fun h=>absurd h NO.out⟩⟩,B0.out⟩
  have HI2:Hid (ja4 p↔(p.ships.length < 15∧jb7 p p.ships.length)∧∀ k∈p.kept,jb2 k):=⟨fun h=>(HI.1 h).2.2.2,fun h=>HI.2 ⟨jba b1,jba b2,jba b3,h⟩⟩
  clear HI
  go_enter Tryz.func141,Tryz.ntmps141
  go_wp2_with (first|(go_at_call 84;refine(jhl _ _).mono ?_;rintro e w' ⟨rfl,rfl⟩)|(go_at_call 107;refine(jb5 _ _ _ _).mono ?_;rintro e w' ⟨rfl,rfl⟩)|(refine jde (by first|rfl|(simp [Region.wanted,yielded];done)) _ rfl w.heap.size p vs rfl X0.out ?_;rw [HPC.out]))
  refine(HG _ HV0.out).mono ?_
  rintro e w5 ⟨⟨g1,rfl,hg1⟩,hb5⟩
  have S5:Hid (Below w.heap.size w w5):=B0.out.trans (hb5.mono B0.out.size)
  have X5:Hid (PBox w5 w.heap.size p vs):=X0.out.later hb5 X0.out.lt
  have G1:Hid (Iffb g1 (p.ships.length < 15∧jb7 p p.ships.length)):=hg1
  clear hb5 hg1 pc0 pc1 pc14 pc15 HG
  have KS:Hid (SlK cKp w5 (.slice (some ⟨w.heap.size,2,none⟩) 4 4) p.kept):=X5.out.slKept
  cases g1
  case false =>
    have NO:Hid (¬ ja4 p):=fun h=>by have:=G1.out.2 (HI2.out.1 h).1;cases this
    go_wp2_with fail
    go_ret
    exact⟨⟨false,rfl,⟨fun h=>(by cases h),fun h=>absurd h NO.out⟩⟩,S5.out⟩
  case true =>
    have G2:Hid (p.ships.length < 15∧jb7 p p.ships.length):=G1.out.1 rfl
    go_wp2_with fail
    refine(HK _ KS.out).mono ?_
    rintro e w6 ⟨⟨g2,rfl,hg2⟩,hb6⟩
    have S6:Hid (Below w.heap.size w w6):=S5.out.trans (hb6.mono S5.out.size)
    have G3:Hid (Iffb g2 (∀ k∈p.kept,jb2 k)):=hg2
    clear hb6 hg2 HK
    go_wp2_with fail
    go_ret
    exact⟨⟨g2,rfl,⟨fun h=>HI2.out.2 ⟨G2.out,G3.out.1 h⟩,fun h=>G3.out.2 (HI2.out.1 h).2⟩⟩,S6.out⟩
theorem jtt:∃ i0,Tryz.prog.info? 46=some i0∧i0.zero=some (.agg #[.int .i64 0,.int .i64 0,.int .i64 0,.int .i64 0,.int .i64 0,.int .i64 0])∧i0.size=6∧i0.bytes=48:=by
  have h:(Tryz.prog.info? 46).map (fun i=>(i.zero,i.size,i.bytes))=some (some (.agg #[.int .i64 0,.int .i64 0,.int .i64 0,.int .i64 0,.int .i64 0,.int .i64 0]),6,48):=by kernel_rfl
  cases hq:Tryz.prog.info? 46 with
  | none=>rw [hq] at h;cases h
  | some i =>
    rw [hq] at h
    simp at h
    exact⟨i,rfl,h.1,h.2.1,h.2.2⟩
theorem jb3 (v:Value) (p:Pt) (w:World) (hv:PtV w v p) :
    Calls Tryz.prog 34 #[v] w fun e w'=>∃ vs,e=.returned (.agg (jaa p vs).toArray)∧w'.ownsRow w.heap.size 46 6 vs p.ships.length (jae cShip p.ships)∧Below w.heap.size w w':=by
  obtain⟨vs,rfl,hvs,h4,hmx⟩:=hv
  have HV:Hid (SlK cShip w vs p.ships):=hvs
  obtain⟨a,cap,rfl,hcap,hrd⟩:=hvs
  clear hrd
  have X0:Hid (PBox (w.alloc (.cells (jaa p (.slice a p.ships.length cap)).toArray 41)) w.heap.size p (.slice a p.ships.length cap)):=PBox.new w p _ h4
  have B0:Hid (Below w.heap.size w (w.alloc (.cells (jaa p (.slice a p.ships.length cap)).toArray 41))):=(Below.refl _ w).alloc (Nat.le_refl _) _
  have Z0:Hid ((w.alloc (.cells (jaa p (.slice a p.ships.length cap)).toArray 41)).heap.size=w.heap.size+1):=by show _=_;simp
  generalize hPC:(jaa p (.slice a p.ships.length cap)).toArray=PC at *
  have HPC:Hid ((jaa p (.slice a p.ships.length cap)).toArray=PC):=hPC
  clear hPC
  go_enter Tryz.func34,Tryz.ntmps34
  go_wp2_with (first
    | (refine jah rfl rfl 2 rfl ?_;intro w1 hw1 hs1;rw [Z0.out] at hw1 hs1;rw [Z0.out]
       have X1:Hid (PBox w1 w.heap.size p (.slice a p.ships.length cap)):=X0.out.later hw1.out.2 (by omega)
       have B1:Hid (Below w.heap.size w w1):=B0.out.trans (hw1.out.2.mono (by omega))
       obtain⟨i0,hi0,hz0,hz1,hz2⟩:=jtt
       have AC:=jfn (P:=Tryz.prog) jcg Tryz.underlying36 hi0 hz0 hz1 hz2 rfl (by omega) (.slice a p.ships.length cap) p.ships w1 (HV.out.below B1.out) (by unfold maxLen;omega) (by omega) 36
       clear hi0 hz0 hz1 hz2
       obtain⟨vn,w2,hr,ho,hb2⟩:=AC
       obtain⟨xn,cn,rfl⟩:=jan ho
       rw [hs1] at ho hb2
       have HRN:Hid ((Builtin.append_ #[36,36] 36 #[.slice none 0 0,.slice a p.ships.length cap]).run Tryz.prog w1=.ok (.slice xn p.ships.length cn) w2):=hr
       clear hr
       have O2:Hid (w2.ownsRow (w.heap.size+1+1) 46 6 (.slice xn p.ships.length cn) p.ships.length (jae cShip p.ships)):=ho
       have X2:Hid (PBox w2 w.heap.size p (.slice a p.ships.length cap)):=X1.out.later hb2 (by omega)
       have Y2:Hid (PBox w2 (w.heap.size+1) jaf (.slice none 0 0)):=hw1.out.1.later hb2 (by omega)
       have B2:Hid (Below w.heap.size w w2):=B1.out.trans (hb2.mono (by omega))
       have c1:=X1.out.cells.2.1
       have c2:=X2.out.cells.2.1
       have f2:=X2.out.frozen 1
       have o2:=jam ho
       have X3:Hid (PBox (w2.setCell ⟨w.heap.size,1,none⟩ (.slice xn p.ships.length cn)) w.heap.size p (.slice xn p.ships.length cn)):=X2.out.setShips p.ships (.slice xn p.ships.length cn)
       have Y3:Hid (PBox (w2.setCell ⟨w.heap.size,1,none⟩ (.slice xn p.ships.length cn)) (w.heap.size+1) jaf (.slice none 0 0)):=Y2.out.other _ _ (by omega)
       have O3:Hid ((w2.setCell ⟨w.heap.size,1,none⟩ (.slice xn p.ships.length cn)).ownsRow (w.heap.size+1+1) 46 6 (.slice xn p.ships.length cn) p.ships.length (jae cShip p.ships)):=jal ho (fun g hg=>Below.heap_setCell _ _ _ _ (by show g≠w.heap.size;omega))
       have B3:Hid (Below w.heap.size w (w2.setCell ⟨w.heap.size,1,none⟩ (.slice xn p.ships.length cn))):=B2.out.setCell (Nat.le_refl _) _
       clear hw1 hb2 ho B0 X0 Z0)
    | (at_builtin;refine Lib.wpList_append_run _ rfl _ _ 36 36 rfl _ _ rfl rfl _ _ HRN.out ?_)
    | (refine jac rfl _ rfl w.heap.size p (.slice xn p.ships.length cn) rfl X3.out ?_)
    | (refine jab rfl _ _ rfl (w.heap.size+1) jaf p (.slice none 0 0) (.slice xn p.ships.length cn) rfl rfl Y3.out h4 o2 ?_;intro w9 hw9 hs9))
  refine bodyPost_ret (v:=.agg (jaa p (.slice xn p.ships.length cn)).toArray) (jfb Tryz.results34 _ _ (w.heap.size+1) p (.slice xn p.ships.length cn) rfl hw9.out.1) rfl ?_
  exact⟨(.slice xn p.ships.length cn),rfl,jar (jal O3.out (fun g hg=>hw9.out.2.1 g (by omega))) (by omega),B3.out.trans (hw9.out.2.2 _ (by omega))⟩
theorem jrb:TyOk 36 46 6 48 cShip:=⟨jcg,by decide,Tryz.underlying36,infoK (z:=.agg #[.int .i64 0,.int .i64 0,.int .i64 0,.int .i64 0,.int .i64 0,.int .i64 0]) (by kernel_rfl) rfl⟩
theorem tyKp:TyOk 187 38 3 24 cKp:=⟨encKp,by decide,Tryz.underlying187,infoK (z:=.agg #[.int .i64 0,.int .i64 0,.int .i64 0]) (by kernel_rfl) rfl⟩
theorem tyInt:TyOk 43 3 1 8 cInt:=⟨jh0,by decide,Tryz.underlying43,infoK (z:=.int .i64 0) (by kernel_rfl) rfl⟩
def roomT (l:List (Int×Int)) (n fr tu:Int):Prop:=∀ s,fr≤s→s < tu→n≤val l s
def TakeF (l:List (Int×Int)) (fr tu n:Int) (w':World) (v':Value) (ok:Bool):Prop :=
  (ok=true∧∃ r,Sl w' v' r∧Good r∧(∀ t,0≤t→t < 300→val r t=val l t - if fr≤t∧t < tu then n else 0)∧roomT l n fr tu)∨(ok=false∧Sl w' v' l∧¬ roomT l n fr tu)
theorem jfp {l:List (Int×Int)} {fr tu n:Int} {w':World} {v':Value} {ok:Bool} (G:Good l) (hn:0≤n∧n≤16) (h0:0≤fr) (h1:fr≤tu) (h2:tu≤300) (h:jew l fr tu n (-n) w' v' ok):TakeF l fr tu n w' v' ok:=by
  rcases h with ⟨ha,h⟩|⟨ha,_⟩
  · rcases h with ⟨e,r,hs,hr⟩|⟨e,hs,s,a,b,hx⟩
    · refine Or.inl ⟨e,r,hs,hr.good,fun t ta tb=>?_,fun s a b=>?_⟩
      · rw [hr.says t ta tb];split <;> omega
      · have:=hr.fits s a b;omega
    · refine Or.inr ⟨e,hs,fun hroom=>?_⟩
      have h3:=hroom s a b
      have h4:=G.val_bounds (t:=s) (by omega)
      exact hx (by omega)
  · exact absurd ⟨jck.2 G,by unfold inB;exact decide_eq_true hn,h0,h1,h2⟩ ha
theorem jgd (v:Value) (l:List Ship) (w:World) (h:SlK cShip w v l) (hn:l.length≤2932031007317) :
    Calls Tryz.prog 25 #[v] w fun e w'=>∃ v',e=.returned v'∧Hid (w'.ownsRow w.heap.size 46 6 v' l.length (jae cShip l)∧Below w.heap.size w w'):=by
  obtain⟨a,cap,rfl,hcap,h1⟩:=h
  have q22:∀ (w:World) (a:Option Addr) (n c n' c':Nat),(binOp .eql 36 (.slice a n c) (.slice none n' c')).run Tryz.prog w=.ok (.bool a.isNone) w:=fun w a n c n' c'=>Lib.run_eql_slice_nil w _ _ a n c n' c' Tryz.underlying36
  cases a with
  | none =>
    have hl:l=[]:=by
      rcases h1 with h|⟨b,off,h,_⟩
      · exact h
      · cases h
    subst hl
    go_enter Tryz.func25,Tryz.ntmps25
    go_wp2
    go_ret
    exact⟨_,rfl,World.ownsRow_nil _ _ _ _,Below.refl _ _⟩
  | some ad =>
    have hbw:Below w.heap.size w (w.alloc (.cells #[] 46)):=(Below.refl _ w).alloc (Nat.le_refl _) _
    obtain⟨b,off,had,hr⟩:∃ b off,(l=[]∨ad=⟨b,off,none⟩)∧RdK cShip w b off l:=by
      rcases h1 with rfl|⟨b,off,h,hr⟩
      · exact⟨0,0,Or.inl rfl,fun j u hu=>by simp [jae] at hu⟩
      · injection h with h;exact⟨b,off,Or.inr h,hr⟩
    have HO:Hid ((w.alloc (.cells #[] 46)).ownsRow w.heap.size 46 6 (.slice (some ⟨w.heap.size,0,none⟩) 0 0) ([]:List Ship).length (jae cShip [])):=World.ownsRow_made w #[] 0 (Nat.le_refl _) (Nat.zero_le _) (by simp)
    have HR:Hid (∀ j u,(jae cShip l)[j]?=some u→(w.alloc (.cells #[] 46)).cell? (ad.add j)=some u):=fun j u hu=>by
      rcases had with rfl|rfl
      · simp [jae] at hu
      · rw [Addr.add_lit];exact(hr.below hbw) j u hu
    have HB:Hid (Below w.heap.size w (w.alloc (.cells #[] 46))):=hbw
    obtain⟨i0,z,hi,hz,hs,hby,hzs⟩:=jrb.info
    have HI:Hid (Tryz.prog.info? 46=some i0∧i0.zero=some z∧i0.size=6∧i0.bytes=48∧z.cells.size=6):=⟨hi,hz,hs,hby,hzs⟩
    have HQ:Hid (0+l.length≤maxLen∧(0+l.length)*48≤140737488355328∧w.heap.size≤(w.alloc (.cells #[] 46)).heap.size):=⟨by unfold maxLen;omega,by omega,by simp⟩
    clear h1 had hr hbw hi hz hs hby hzs
    go_enter Tryz.func25,Tryz.ntmps25
    go_wp2_with (at_builtin;(refine wpList_append_own _ rfl _ _ 36 rfl w.heap.size 46 i0 z 6 48 Tryz.underlying36 HI.out.1 HI.out.2.1 HI.out.2.2.1 HI.out.2.2.2.1 HI.out.2.2.2.2 (by omega) _ 0 (jae cShip ([]:List Ship)) rfl HO.out ad l.length cap (jae cShip l) rfl (ja6 jcg l) HR.out (jcx jcg l) HQ.out.1 HQ.out.2.1 HQ.out.2.2 ?_;intro v' w1 hown hgrow hnil;have F:Hid (w1.ownsRow w.heap.size 46 6 v' l.length (jae cShip l)∧Below w.heap.size w w1):=⟨by rw [Nat.zero_add] at hown;exact hown,HB.out.grown hgrow HQ.out.2.2 (fun k hk=>(HO.out.lt k hk).1)⟩;clear hown hgrow hnil))
    go_ret
    exact⟨_,rfl,F⟩
theorem joc (v:Value) (p:Pt) (w:World) (hv:PtV w v p) :
    Calls Tryz.prog 82 #[v] w fun e w'=>∃ vs,e=.returned (.agg (jaa p vs).toArray)∧Hid (w'.ownsRow w.heap.size 46 6 vs p.ships.length (jae cShip p.ships)∧Below w.heap.size w w'):=by
  obtain⟨vs,rfl,hvs,h4,hmx⟩:=hv
  have HV:Hid (SlK cShip w vs p.ships):=hvs
  have X0:Hid (PBox (w.alloc (.cells (jaa p vs).toArray 41)) w.heap.size p vs):=PBox.new w p _ h4
  have B0:Hid (Below w.heap.size w (w.alloc (.cells (jaa p vs).toArray 41))):=(Below.refl _ w).alloc (Nat.le_refl _) _
  have Z0:Hid ((w.alloc (.cells (jaa p vs).toArray 41)).heap.size=w.heap.size+1):=by show _=_;simp
  clear hvs
  generalize hPC:(jaa p vs).toArray=PC at *
  clear hPC
  go_enter Tryz.func82,Tryz.ntmps82
  go_upto_region 1 with (first|(refine jah rfl rfl 2 rfl ?_;intro w1 hw1 hs1))
  rw [Z0.out] at hw1 hs1
  rw [Z0.out]
  have X1:Hid (PBox w1 w.heap.size p vs):=X0.out.later hw1.out.2 (by omega)
  have B1:Hid (Below w.heap.size w w1):=B0.out.trans (hw1.out.2.mono (by omega))
  have Y1:Hid (PBox w1 (w.heap.size+1) jaf (.slice none 0 0)):=hw1.out.1
  have HC:=jgd vs p.ships w1 (HV.out.below B1.out) hmx
  have c1:=X1.out.cells.2.1
  clear hw1 X0 B0 Z0
  go_wp2_with fail
  refine HC.mono ?_
  rintro e w2 ⟨vn,rfl,hw2⟩
  clear HC
  obtain⟨xn,cn,rfl⟩:=jan hw2.out.1
  have O2:Hid (w2.ownsRow (w.heap.size+1+1) 46 6 (.slice xn p.ships.length cn) p.ships.length (jae cShip p.ships)):=by have h:=hw2.out.1;rw [hs1] at h;exact h
  have hb2:Below (w.heap.size+1+1) w1 w2:=by have h:=hw2.out.2;rw [hs1] at h;exact h
  have X2:Hid (PBox w2 w.heap.size p vs):=X1.out.later hb2 (by omega)
  have Y2:Hid (PBox w2 (w.heap.size+1) jaf (.slice none 0 0)):=Y1.out.later hb2 (by omega)
  have B2:Hid (Below w.heap.size w w2):=B1.out.trans (hb2.mono (by omega))
  have c2:=X2.out.cells.2.1
  have f2:=X2.out.frozen 1
  have o2:=jam O2.out
  have X3:Hid (PBox (w2.setCell ⟨w.heap.size,1,none⟩ (.slice xn p.ships.length cn)) w.heap.size p (.slice xn p.ships.length cn)):=X2.out.setShips p.ships (.slice xn p.ships.length cn)
  have Y3:Hid (PBox (w2.setCell ⟨w.heap.size,1,none⟩ (.slice xn p.ships.length cn)) (w.heap.size+1) jaf (.slice none 0 0)):=Y2.out.other _ _ (by omega)
  have O3:Hid ((w2.setCell ⟨w.heap.size,1,none⟩ (.slice xn p.ships.length cn)).ownsRow (w.heap.size+1+1) 46 6 (.slice xn p.ships.length cn) p.ships.length (jae cShip p.ships)):=jal O2.out (fun g hg=>Below.heap_setCell _ _ _ _ (by show g≠w.heap.size;omega))
  have B3:Hid (Below w.heap.size w (w2.setCell ⟨w.heap.size,1,none⟩ (.slice xn p.ships.length cn))):=B2.out.setCell (Nat.le_refl _) _
  clear hw2 hb2 c1
  go_wp2_with (first
    | (refine jac rfl _ rfl w.heap.size p (.slice xn p.ships.length cn) rfl X3.out ?_)
    | (refine jab rfl _ _ rfl (w.heap.size+1) jaf p (.slice none 0 0) (.slice xn p.ships.length cn) rfl rfl Y3.out h4 o2 ?_;intro w9 hw9 hs9))
  refine bodyPost_ret (v:=.agg (jaa p (.slice xn p.ships.length cn)).toArray) (jfb Tryz.results82 _ _ (w.heap.size+1) p (.slice xn p.ships.length cn) rfl hw9.out.1) rfl ?_
  exact⟨(.slice xn p.ships.length cn),rfl,jar (jal O3.out (fun g hg=>hw9.out.2.1 g (by omega))) (by omega),B3.out.trans (hw9.out.2.2 _ (by omega))⟩
def jbf (l:List Ship):List Kp:=(l.filter fun s=>decide (s.st=3)).map fun s=>⟨s.wd,s.si,s.si+s.lg⟩
theorem jhm (l:List Ship):(jbf l).length≤l.length:=by unfold jbf;simp;exact List.length_filter_le _ _
theorem joh {l:List Ship} {j:Nat} {s:Ship} (hs:l[j]?=some s):jbf (l.take (j+1))=jbf (l.take j)++if s.st=3 then [⟨s.wd,s.si,s.si+s.lg⟩] else []:=by
  unfold jbf
  rw [List.take_add_one,hs,Option.toList_some,List.filter_append,List.map_append]
  by_cases h:s.st=3 <;> simp [h]
theorem jmz (v:Value) (p:Pt) (w:World) (hv:PtV w v p) (hp:ja4 p) :
    Calls Tryz.prog 144 #[v] w fun e w'=>∃ v',e=.returned v'∧w'.ownsRow w.heap.size 38 3 v' (jbf p.ships).length (jae cKp (jbf p.ships))∧Below w.heap.size w w':=by
  obtain⟨vs,rfl,⟨a,cap,rfl,hcap,hrd⟩,h4,hmx⟩:=hv
  have HR:Hid (p.ships=[]∨∃ b off,a=some ⟨b,off,none⟩∧RdK cShip w b off p.ships):=hrd
  have HP:Hid (ja4 p):=hp
  have X0:Hid (PBox (w.alloc (.cells (jaa p (.slice a p.ships.length cap)).toArray 41)) w.heap.size p (.slice a p.ships.length cap)):=PBox.new w p _ h4
  have B0:Hid (Below w.heap.size w (w.alloc (.cells (jaa p (.slice a p.ships.length cap)).toArray 41))):=(Below.refl _ w).alloc (Nat.le_refl _) _
  obtain⟨pc0,pc1,pc14,pc15⟩:=X0.out.cells
  have hlen:p.ships.length < 15:=hp.len
  clear hrd hp
  generalize hPC:(jaa p (.slice a p.ships.length cap)).toArray=PC at *
  clear hPC
  have O0:Hid ((w.alloc (.cells PC 41)).ownsRow w.heap.size 38 3 (.slice none 0 0) (jbf (p.ships.take 0)).length (jae cKp (jbf (p.ships.take 0)))):=World.ownsRow_nil _ _ _ _
  go_enter Tryz.func144,Tryz.ntmps144
  go_wp2_with fail
  clear pc0 pc1 pc14 pc15 X0
  generalize w.alloc (.cells PC 41)=WA at *
  go_loopg [3,9] p.ships.length (fun kx s3 s9 wr=>∃ (j:Nat),s9=.int .i64 j∧j≤p.ships.length∧p.ships.length - j≤kx∧Hid (Below w.heap.size w wr)∧Hid (wr.ownsRow w.heap.size 38 3 s3 (jbf (p.ships.take j)).length (jae cKp (jbf (p.ships.take j)))))
  case atStart=>exact⟨0,rfl,Nat.zero_le _,by omega,B0,O0⟩
  case round =>
    clear B0 O0
    obtain⟨j,rfl,hj,hg,S1,O1⟩:=hrel
    by_cases hjl:j < p.ships.length
    · obtain⟨s,hs⟩:∃ s,p.ships[j]?=some s:=⟨p.ships[j],List.getElem?_eq_getElem hjl⟩
      obtain⟨bb,off,rfl,hrd⟩:∃ b off,a=some ⟨b,off,none⟩∧RdK cShip w b off p.ships:=by
        rcases HR.out with h|h
        · rw [h] at hjl;simp at hjl
        · exact h
      have HS:Hid (jbf (p.ships.take (j+1))=jbf (p.ships.take j)++if s.st=3 then [⟨s.wd,s.si,s.si+s.lg⟩] else []):=joh hs
      have HI:Hid (jce s p.now):=(HP.out.ship s (List.mem_of_getElem? hs)).1
      obtain⟨c0,c1,c2,c3,c4,c5⟩:=(hrd.below S1.out).ship hs
      have hbw:Below wr.heap.size wr (wr.alloc (.cells #[.int .i64 s.st,.int .i64 s.wd,.int .i64 s.lg,.int .i64 s.cl,.int .i64 s.si,.int .i64 s.qu] 46)):=(Below.refl _ wr).alloc (Nat.le_refl _) _
      have S4:Hid (Below w.heap.size w (wr.alloc (.cells #[.int .i64 s.st,.int .i64 s.wd,.int .i64 s.lg,.int .i64 s.cl,.int .i64 s.si,.int .i64 s.qu] 46))):=S1.out.trans (hbw.mono S1.out.size)
      have O4:Hid ((wr.alloc (.cells #[.int .i64 s.st,.int .i64 s.wd,.int .i64 s.lg,.int .i64 s.cl,.int .i64 s.si,.int .i64 s.qu] 46)).ownsRow w.heap.size 38 3 u3 (jbf (p.ships.take j)).length (jae cKp (jbf (p.ships.take j)))):=O1.out.alloc _
      have N4:Hid (SBox (wr.alloc (.cells #[.int .i64 s.st,.int .i64 s.wd,.int .i64 s.lg,.int .i64 s.cl,.int .i64 s.si,.int .i64 s.qu] 46)) wr.heap.size s):=SBox.new wr s
      have hk3:(j:Int) < (p.ships.length:Int):=by omega
      clear hs hrd hbw S1 O1
      go_upto_region 5 with fail
      clear c0 c1 c2 c3 c4 c5
      generalize wr.alloc (.cells #[.int .i64 s.st,.int .i64 s.wd,.int .i64 s.lg,.int .i64 s.cl,.int .i64 s.si,.int .i64 s.qu] 46)=WB at *
      generalize wr.heap.size=gs at *
      obtain⟨k0,k1,k2,k3,k4,k5⟩:=N4.out.cells
      by_cases h3:s.st=3
      · have hb3:(s.st == 3)=true:=by simp [h3]
        obtain⟨i1,i2,i3,i4⟩:=HI.out.lies h3
        obtain⟨l1,l2⟩:=HI.out.lg
        have HS2:=HS.out
        rw [if_pos h3] at HS2
        have HS3:Hid (jbf (p.ships.take (j+1))=jbf (p.ships.take j)++[⟨s.wd,s.si,s.si+s.lg⟩]):=HS2
        have hl:=jhm (p.ships.take j)
        have hl2:(p.ships.take j).length≤14:=by simp;omega
        have Q1:Hid ((jbf (p.ships.take j)).length+1≤maxLen∧((jbf (p.ships.take j)).length+1)*24≤140737488355328):=⟨by unfold maxLen;omega,by omega⟩
        have R1:Hid (RdK cKp (WB.alloc (.cells #[.int .i64 s.wd,.int .i64 s.si,.int .i64 (s.si+s.lg)] 38)) WB.heap.size 0 [⟨s.wd,s.si,s.si+s.lg⟩]):=jfe (k:=3) (c:=cKp) WB _ (⟨s.wd,s.si,s.si+s.lg⟩:Kp) _ rfl
        have Z1:Hid (w.heap.size≤(WB.alloc (.cells #[.int .i64 s.wd,.int .i64 s.si,.int .i64 (s.si+s.lg)] 38)).heap.size):=by have:=S4.out.size;show _≤_;simp;omega
        have S5:Hid (Below w.heap.size w (WB.alloc (.cells #[.int .i64 s.wd,.int .i64 s.si,.int .i64 (s.si+s.lg)] 38))):=S4.out.alloc S4.out.size _
        have O5:Hid ((WB.alloc (.cells #[.int .i64 s.wd,.int .i64 s.si,.int .i64 (s.si+s.lg)] 38)).ownsRow w.heap.size 38 3 u3 (jbf (p.ships.take j)).length (jae cKp (jbf (p.ships.take j)))):=O4.out.alloc _
        clear h3 HS HS2 hl hl2
        go_wp2_with (at_builtin;refine jcp tyKp rfl _ _ rfl w.heap.size u3 (jbf (p.ships.take j)) [⟨s.wd,s.si,s.si+s.lg⟩] WB.heap.size 0 1 1 rfl rfl rfl O5.out R1.out Z1.out Q1.out.1 Q1.out.2 ?_;intro v' w1 hw1)
        go_roundg (p.ships.length - (j+1))
        case measure=>omega
        case rel=>exact⟨j+1,by go_num,by omega,Nat.le_refl _,S5.out.trans hw1.out.2,(by rw [HS3.out];exact hw1.out.1:World.ownsRow _ _ _ _ _ _ _)⟩
      · have hb3:(s.st == 3)=false:=by simp [h3]
        have HS2:=HS.out
        rw [if_neg h3,List.append_nil] at HS2
        have HS3:Hid (jbf (p.ships.take (j+1))=jbf (p.ships.take j)):=HS2
        clear h3 HS HS2
        go_wp2_with fail
        go_roundg (p.ships.length - (j+1))
        case measure=>omega
        case rel=>exact⟨j+1,by go_num,by omega,Nat.le_refl _,S4,(by rw [HS3.out];exact O4.out:World.ownsRow _ _ _ _ _ _ _)⟩
    · have hje:j=p.ships.length:=by omega
      have O4:Hid (wr.ownsRow w.heap.size 38 3 u3 (jbf p.ships).length (jae cKp (jbf p.ships))):=by
        have h:=O1.out
        rw [hje,List.take_length] at h;exact h
      clear hje
      have hj3:¬ ((j:Int) < (p.ships.length:Int)):=by omega
      go_wp2
      go_ret
      exact⟨u3,rfl,O4.out,S1.out⟩
def tkAt (now:Int) (k:Kp) (t:Int):Int:=if (k.fr≤t∧now≤t)∧t < k.to then k.wd else 0
def tksAt (now:Int) (l:List Kp) (t:Int):Int:=(l.map fun k=>tkAt now k t).foldr (·+·) 0
theorem jec (now:Int) (a b:List Kp) (t:Int):tksAt now (a++b) t=tksAt now a t+tksAt now b t:=by
  unfold tksAt
  induction a with
  | nil=>simp
  | cons x r ih=>simp only [List.cons_append,List.map_cons,List.foldr_cons,ih];omega
theorem jl2 (now:Int) (k:Kp) (t:Int):tksAt now [k] t=tkAt now k t:=by simp [tksAt]
theorem jl3 (now:Int) (l:List Kp) (t:Int) (h:∀ k∈l,0≤k.wd):0≤tksAt now l t:=by
  unfold tksAt
  induction l with
  | nil=>simp
  | cons x r ih =>
    have h1:=ih fun k hk=>h k (List.mem_cons_of_mem _ hk)
    have h2:0≤tkAt now x t:=by unfold tkAt;have:=h x List.mem_cons_self;split <;> omega
    simp only [List.map_cons,List.foldr_cons];omega
def RetVB (e:Ending) (P:Value→Bool→Prop):Prop:=∃ v ok,e=.returned (.tuple #[v,.bool ok])∧P v ok
def TkOk (k:Kp):Prop:=(0≤k.wd∧k.wd≤16)∧k.fr≤k.to∧k.to≤300
def jsn (l:List (Int×Int)) (now:Int) (tk:List Kp) (w':World) (v':Value) (ok:Bool):Prop :=
  (ok=true∧∃ r,Sl w' v' r∧Good r∧∀ t,0≤t→t < 300→val r t=val l t - tksAt now tk t)∨(ok=false∧v'=.slice none 0 0∧∃ t,0≤t∧t < 300∧val l t - tksAt now tk t < 0)
theorem jm1 {l r:List (Int×Int)} {now:Int} {tk:List Kp} {j:Nat} {k:Kp} {a b:Int} {w':World} {v':Value} {ok:Bool} (hk:tk[j]?=some k) (hT:∀ k∈tk,TkOk k) (h0:0≤now) (hn:now≤300) (G:Good r) (hr:∀ t,0≤t→t < 300→val r t=val l t - tksAt now (tk.take j) t)
    (ha:(k.fr≤now∧a=now)∨(now < k.fr∧a=k.fr)) (hb:(k.to≤now∧b=now)∨(now < k.to∧b=k.to)) (h:jew r a b k.wd (-k.wd) w' v' ok) :
    (ok=true∧∃ r',Sl w' v' r'∧Good r'∧∀ t,0≤t→t < 300→val r' t=val l t - tksAt now (tk.take (j+1)) t)∨(ok=false∧∃ t,0≤t∧t < 300∧val l t - tksAt now tk t < 0):=by
  obtain⟨⟨k1,k2⟩,k3,k4⟩:=hT k (List.mem_of_getElem? hk)
  have hj:(tk.take (j+1))=tk.take j++[k]:=by rw [List.take_add_one,hk];rfl
  have e:∀ t,(if a≤t∧t < b then k.wd else 0)=tkAt now k t:=fun t=>by
    unfold tkAt
    by_cases c:a≤t∧t < b
    · rw [if_pos c,if_pos (by omega)]
    · rw [if_neg c,if_neg (by omega)]
  rcases jfp G ⟨k1,k2⟩ (by omega) (by omega) (by omega) h with ⟨e1,r',h1,h2,h3,_⟩|⟨e1,h1,h2⟩
  · refine Or.inl ⟨e1,r',h1,h2,fun t ta tb=>?_⟩
    rw [h3 t ta tb,hr t ta tb,e t,hj,jec,jl2];omega
  · refine Or.inr ⟨e1,?_⟩
    obtain⟨s,hs⟩:=Classical.not_forall.1 h2
    have hs1:a≤s:=Classical.byContradiction fun x=>hs fun y=>absurd y x
    have hs2:s < b:=Classical.byContradiction fun x=>hs fun _ y=>absurd y x
    have hs3:val r s < k.wd:=Classical.byContradiction fun x=>hs fun _ _=>by omega
    have s0:0≤s:=by omega
    have s3:s < 300:=by omega
    refine⟨s,s0,s3,?_⟩
    rw [hr s s0 s3] at hs3
    have hd:tk=tk.take (j+1)++tk.drop (j+1):=(List.take_append_drop _ _).symm
    rw [hd,jec,hj,jec,jl2,← e s,if_pos ⟨hs1,hs2⟩]
    have:=jl3 now (tk.drop (j+1)) s fun k hk=>(hT k (List.mem_of_mem_drop hk)).1.1
    omega
theorem less_any (v:Value) (l:List (Int×Int)) (now:Int) (vt:Value) (tk:List Kp) (w:World) (hs:Sl w v l) (G:Good l) (h0:0≤now) (hn:now≤300) (hv:SlK cKp w vt tk) (hT:∀ k∈tk,TkOk k) (hl:tk.length≤1000) (B:Nat) (hF:Far B v) (hB:B≤w.heap.size) :
    Calls Tryz.prog 143 #[v,.int .i64 now,vt] w fun e w'=>RetVB e (fun v' ok=>jsn l now tk w' v' ok∧(ok=true→Far B v'))∧Below w.heap.size w w':=by
  obtain⟨a,cap,rfl,hcap,hrd⟩:=hv
  have HR:Hid (tk=[]∨∃ b off,a=some ⟨b,off,none⟩∧RdK cKp w b off tk):=hrd
  have HT:Hid (∀ k∈tk,TkOk k):=hT
  have HI:Hid ((Below w.heap.size w w∧Far B v)∧∃ r,Sl w v r∧Good r∧∀ t,0≤t→t < 300→val r t=val l t - tksAt now (tk.take 0) t):=⟨⟨Below.refl _ _,hF⟩,l,hs,G,fun t _ _=>by simp [tksAt]⟩
  clear hrd hT hs G hF
  go_enter Tryz.func143,Tryz.ntmps143
  go_wp2_with fail
  go_loopg [0,14] tk.length (fun kx s0 s14 wr=>∃ (j:Nat),s14=.int .i64 j∧j≤tk.length∧tk.length - j≤kx∧Hid ((Below w.heap.size w wr∧Far B s0)∧∃ r,Sl wr s0 r∧Good r∧∀ t,0≤t→t < 300→val r t=val l t - tksAt now (tk.take j) t))
  case atStart=>exact⟨0,rfl,Nat.zero_le _,by omega,HI⟩
  case round =>
    clear HI
    obtain⟨j,rfl,hj,hg,I⟩:=hrel
    by_cases hjl:j < tk.length
    · obtain⟨kk,hkk⟩:∃ k,tk[j]?=some k:=⟨tk[j],List.getElem?_eq_getElem hjl⟩
      obtain⟨bb,off,rfl,hrd⟩:∃ b off,a=some ⟨b,off,none⟩∧RdK cKp w b off tk:=by
        rcases HR.out with h|h
        · rw [h] at hjl;simp at hjl
        · exact h
      obtain⟨⟨S1,_⟩,r,hr1,hr2,hr3⟩:=I.out
      obtain⟨c0,c1,c2⟩:=(hrd.below S1).kp hkk
      obtain⟨kw,kf,kt⟩:=kk
      simp only at c0 c1 c2
      have HK:Hid (tk[j]?=some ⟨kw,kf,kt⟩):=hkk
      have hj3:(j:Int) < (tk.length:Int):=by omega
      have hbw:Below wr.heap.size wr (wr.alloc (.cells #[.int .i64 kw,.int .i64 kf,.int .i64 kt] 38)):=(Below.refl _ wr).alloc (Nat.le_refl _) _
      have S4:Hid (Below w.heap.size w (wr.alloc (.cells #[.int .i64 kw,.int .i64 kf,.int .i64 kt] 38))):=S1.trans (hbw.mono S1.size)
      have N4:Hid ((wr.alloc (.cells #[.int .i64 kw,.int .i64 kf,.int .i64 kt] 38)).heap[wr.heap.size]?=some (.cells #[.int .i64 kw,.int .i64 kf,.int .i64 kt] 38)):=heap_alloc_new wr _
      have R4:Hid (Sl (wr.alloc (.cells #[.int .i64 kw,.int .i64 kf,.int .i64 kt] 38)) u0 r):=hr1.below hbw
      have R2:Hid (Good r∧∀ t,0≤t→t < 300→val r t=val l t - tksAt now (tk.take j) t):=⟨hr2,hr3⟩
      clear hkk hrd hbw S1 hr1 hr2 hr3 I
      go_upto_region 4 with fail
      clear c0 c1 c2
      generalize wr.alloc (.cells #[.int .i64 kw,.int .i64 kf,.int .i64 kt] 38)=WB at *
      generalize wr.heap.size=gs at *
      have n0:∀ i u,(cKp ⟨kw,kf,kt⟩)[i]?=some u→WB.cell? ⟨gs,i,none⟩=some u:=fun i u hu=>by rw [cell_of_row _ _ _ _ _ _ N4.out];simpa [cKp] using hu
      have k0:=n0 0 _ rfl;have k1:=n0 1 _ rfl;have k2:=n0 2 _ rfl
      clear n0 N4
      have OKA:Hid (∀ (x y:Int),(kf≤now∧x=now)∨(now < kf∧x=kf)→(kt≤now∧y=now)∨(now < kt∧y=kt)→jga r x y kw):=fun x y hx hy=>by
        obtain⟨⟨o1,o2⟩,o3,o4⟩:=HT.out _ (List.mem_of_getElem? HK.out)
        simp only at o1 o2 o3 o4
        exact⟨jck.2 R2.out.1,by unfold inB;exact decide_eq_true ⟨o1,o2⟩,by omega,by omega,by omega⟩
      have STEP:Hid (∀ (x y:Int) (w5:World) (v5:Value) (ok5:Bool),(kf≤now∧x=now)∨(now < kf∧x=kf)→(kt≤now∧y=now)∨(now < kt∧y=kt)→jew r x y kw (-kw) w5 v5 ok5→Far WB.heap.size v5→Below WB.heap.size WB w5 →
          (Below w.heap.size w w5∧Far B v5)∧((ok5=true∧∃ r',Sl w5 v5 r'∧Good r'∧∀ t,0≤t→t < 300→val r' t=val l t - tksAt now (tk.take (j+1)) t)∨(ok5=false∧∃ t,0≤t∧t < 300∧val l t - tksAt now tk t < 0))):=fun x y w5 v5 ok5 hx hy hT hF hb =>
        ⟨⟨S4.out.trans (hb.mono S4.out.size),hF.mono (by have:=S4.out.size;omega)⟩,jm1 HK.out HT.out h0 hn R2.out.1 R2.out.2 hx hy hT⟩
      go_wp2_with fail
      all_goals
        refine(take_far _ r _ _ _ _ R4.out (OKA.out _ _ (by omega) (by omega))).mono ?_
        rintro e w5 ⟨v5,ok5,rfl,hT5,hF5,hb5⟩
        have F5:Hid (_∧_):=STEP.out _ _ w5 v5 ok5 (by omega) (by omega) hT5 hF5 hb5
        clear hT5 hb5 hF5
        cases ok5
        · have F6:Hid ((Below w.heap.size w w5∧Far B v5)∧∃ t,0≤t∧t < 300∧val l t - tksAt now tk t < 0):=by
            obtain⟨x1,x2⟩:=F5.out
            rcases x2 with ⟨x2,_⟩|⟨_,x2⟩
            · cases x2
            · exact⟨x1,x2⟩
          clear F5
          go_wp2_with fail
          go_ret2
          exact⟨⟨_,_,rfl,Or.inr ⟨rfl,rfl,F6.out.2⟩,fun h=>(by cases h)⟩,F6.out.1.1⟩
        · have F6:Hid ((Below w.heap.size w w5∧Far B v5)∧∃ r',Sl w5 v5 r'∧Good r'∧∀ t,0≤t→t < 300→val r' t=val l t - tksAt now (tk.take (j+1)) t):=by
            obtain⟨x1,x2⟩:=F5.out
            rcases x2 with ⟨_,x2⟩|⟨x2,_⟩
            · exact⟨x1,x2⟩
            · cases x2
          clear F5
          go_wp2_with fail
          go_roundg (tk.length - (j+1))
          case measure=>omega
          case rel=>exact⟨j+1,by go_num,by omega,Nat.le_refl _,F6⟩
    · have hje:j=tk.length:=by omega
      have I4:Hid ((Below w.heap.size w wr∧Far B u0)∧∃ r,Sl wr u0 r∧Good r∧∀ t,0≤t→t < 300→val r t=val l t - tksAt now tk t):=by have h:=I.out;rw [hje,List.take_length] at h;exact h
      clear hje I
      have hj3:¬ ((j:Int) < (tk.length:Int)):=by omega
      go_wp2
      go_ret2
      exact⟨⟨_,_,rfl,Or.inl ⟨rfl,I4.out.2⟩,fun _=>I4.out.1.2⟩,I4.out.1.1⟩
theorem jrg {p:Pt} (h:∀ s∈p.ships,jce s p.now) (t:Int):tksAt p.now (jbf p.ships) t=if p.now≤t then ja8 p.ships t else 0:=by
  unfold jbf tksAt ja8
  generalize p.ships=l at h
  induction l with
  | nil=>simp
  | cons s r ih =>
    have h1:=ih fun s hs=>h s (List.mem_cons_of_mem _ hs)
    have h2:=h s List.mem_cons_self
    by_cases h3:s.st=3
    · obtain⟨a,b,c,d⟩:=h2.lies h3
      simp only [List.filter_cons,h3,decide_true,if_true,List.map_cons,List.foldr_cons]
      rw [h1]
      by_cases hn:p.now≤t
      · by_cases ht:t < s.si+s.lg
        · simp [tkAt,jdn,hn,ht,h3,show s.si≤t by omega]
        · simp [tkAt,jdn,hn,ht,h3]
      · simp [tkAt,hn]
    · simp only [List.filter_cons,h3,decide_false,List.map_cons,List.foldr_cons]
      rw [if_neg (by simp),h1]
      simp [jdn,h3]
theorem jsz (now:Int) (l:List Kp) (t:Int):tksAt now l t=if now≤t then jbh l t else 0:=by
  unfold tksAt jbh
  induction l with
  | nil=>simp
  | cons k r ih =>
    simp only [List.map_cons,List.foldr_cons,ih]
    by_cases hn:now≤t
    · by_cases hk:k.fr≤t∧t < k.to
      · simp [tkAt,jek,hn,hk]
      · have e1:tkAt now k t=0:=by unfold tkAt;rw [if_neg (by omega)]
        have e2:jek k t=0:=by unfold jek;rw [if_neg hk]
        rw [e1,e2,if_pos hn,if_pos hn]
    · simp [tkAt,hn]
theorem jpx {p:Pt} (h:ja4 p) (t:Int):16 - p.shut - tksAt p.now (jbf p.ships++p.kept) t=ja3 p t:=by
  rw [jec,jrg (fun s hs=>(h.ship s hs).1),jsz]
  unfold ja3
  split <;> omega
theorem jo8 {p:Pt} (h:ja4 p):∀ k∈jbf p.ships++p.kept,TkOk k:=by
  intro k hk
  rcases List.mem_append.1 hk with hk|hk
  · unfold jbf at hk
    obtain⟨s,hs,rfl⟩:=List.mem_map.1 hk
    obtain⟨hs1,hs2⟩:=List.mem_filter.1 hs
    have h1:=(h.ship s hs1).1
    have h2:=h1.lies (of_decide_eq_true hs2)
    have h3:=h1.wd
    have h4:=h1.lg
    exact⟨⟨by simp only;omega,h3.2⟩,by simp only;omega,h2.2.2.2⟩
  · rcases h.kept k hk with ⟨a,b,c⟩|⟨a,b,c,d⟩
    · exact⟨by omega,by omega,by omega⟩
    · exact⟨by omega,by omega,d⟩
theorem PBox.all {w:World} {g:Nat} {p:Pt} {vs:Value} (h:PBox w g p vs):∃ a0 a1 a2 b0 b1 b2 c0 c1 c2 d0 d1 d2:Int,
    (jaa p vs).toArray=#[.int .i64 p.now,vs,.int .i64 a0,.int .i64 a1,.int .i64 a2,.int .i64 b0,.int .i64 b1,.int .i64 b2,.int .i64 c0,.int .i64 c1,.int .i64 c2,.int .i64 d0,.int .i64 d1,.int .i64 d2,.int .i64 p.shut,.int .i64 p.next] ∧
    w.cell? ⟨g,0,none⟩=some (.int .i64 p.now)∧w.cell? ⟨g,1,none⟩=some vs∧w.cell? ⟨g,2,none⟩=some (.int .i64 a0)∧w.cell? ⟨g,3,none⟩=some (.int .i64 a1)∧w.cell? ⟨g,4,none⟩=some (.int .i64 a2)∧w.cell? ⟨g,5,none⟩=some (.int .i64 b0)∧w.cell? ⟨g,6,none⟩=some (.int .i64 b1)∧w.cell? ⟨g,7,none⟩=some (.int .i64 b2)∧w.cell? ⟨g,8,none⟩=some (.int .i64 c0)∧w.cell? ⟨g,9,none⟩=some (.int .i64 c1)∧w.cell? ⟨g,10,none⟩=some (.int .i64 c2)∧w.cell? ⟨g,11,none⟩=some (.int .i64 d0)∧w.cell? ⟨g,12,none⟩=some (.int .i64 d1)∧w.cell? ⟨g,13,none⟩=some (.int .i64 d2)∧w.cell? ⟨g,14,none⟩=some (.int .i64 p.shut)∧w.cell? ⟨g,15,none⟩=some (.int .i64 p.next):=by
  have e:∀ j u,(jaa p vs)[j]?=some u→w.cell? ⟨g,j,none⟩=some u:=fun j u hu=>by have:=h.whole j u hu;rwa [Nat.zero_add] at this
  obtain⟨now,ships,kept,shut,next⟩:=p
  have h4:=h.1
  simp only at h4
  match kept,h4 with
  | [⟨a0,a1,a2⟩,⟨b0,b1,b2⟩,⟨c0,c1,c2⟩,⟨d0,d1,d2⟩],_ =>
    exact⟨a0,a1,a2,b0,b1,b2,c0,c1,c2,d0,d1,d2,rfl,e 0 _ rfl,e 1 _ rfl,e 2 _ rfl,e 3 _ rfl,e 4 _ rfl,e 5 _ rfl,e 6 _ rfl,e 7 _ rfl,e 8 _ rfl,e 9 _ rfl,e 10 _ rfl,e 11 _ rfl,e 12 _ rfl,e 13 _ rfl,e 14 _ rfl,e 15 _ rfl⟩
def jkq (p:Pt) (w':World) (v':Value) (ok:Bool):Prop :=
  (ok=true∧jaj p∧∃ r,Sl w' v' r∧Good r∧∀ t,0≤t→t < 300→val r t=ja3 p t)∨(ok=false∧¬ jaj p∧v'=.slice none 0 0)
theorem jh4 {p:Pt} (h:ja4 p) {l:List (Int×Int)} (hl:∀ t,0≤t→t < 300→val l t=16 - p.shut) {w':World} {v':Value} {ok:Bool} (hL:jsn l p.now (jbf p.ships++p.kept) w' v' ok):jkq p w' v' ok:=by
  rcases hL with ⟨e,r,hr,G,hv⟩|⟨e,hv,t,t0,t3,ht⟩
  · have hb:∀ t,0≤t→t < 300→val r t=ja3 p t:=fun t a b=>by rw [hv t a b,hl t a b,jpx h]
    exact Or.inl ⟨e,⟨h,fun t a b=>by rw [← hb t a b];exact(G.val_bounds a).1⟩,r,hr,G,hb⟩
  · refine Or.inr ⟨e,fun hp=>?_,hv⟩
    rw [hl t t0 t3,jpx h] at ht
    have:=hp.base t t0 t3
    omega
theorem good16:Good [((0:Int),(16:Int))]:=jck.1 (by decide)
theorem val16 (t:Int) (h:0≤t):val [((0:Int),(16:Int))] t=16:=by simp [val,jb8,h]
theorem base_any (v:Value) (p:Pt) (w:World) (hv:PtV w v p) (hq:WfQ p) :
    Calls Tryz.prog 106 #[v] w fun e w'=>RetVB e (fun v' ok=>jkq p w' v' ok∧(ok=true→Far w.heap.size v'))∧Below w.heap.size w w':=by
  obtain⟨vs,rfl,hsl,h4,hmx⟩:=hv
  have HV:Hid (PtV w (.agg (jaa p vs).toArray) p):=⟨vs,rfl,hsl,h4,hmx⟩
  have X0:Hid (PBox (w.alloc (.cells (jaa p vs).toArray 41)) w.heap.size p vs):=PBox.new w p _ h4
  have B0:Hid (Below w.heap.size w (w.alloc (.cells (jaa p vs).toArray 41))):=(Below.refl _ w).alloc (Nat.le_refl _) _
  have HS:=fun W h=>jl7 (.agg (jaa p vs).toArray) p W h hq
  have HL:=fun W h hp=>jmz (.agg (jaa p vs).toArray) p W h hp
  clear hsl hq
  generalize hPC:(jaa p vs).toArray=PC at *
  have HPC:Hid ((jaa p vs).toArray=PC):=hPC
  clear hPC
  go_enter Tryz.func106,Tryz.ntmps106
  go_wp2_with (refine jac rfl _ rfl w.heap.size p vs rfl X0.out ?_;rw [HPC.out])
  refine(HS _ (HV.out.below B0.out)).mono ?_
  rintro e w1 ⟨⟨b,rfl,hb⟩,hw1⟩
  have S1:Hid (Below w.heap.size w w1):=B0.out.trans (hw1.mono B0.out.size)
  have X1:Hid (PBox w1 w.heap.size p vs):=X0.out.later hw1 X0.out.lt
  have HB:Hid (Iffb b (ja4 p)):=hb
  clear hw1 hb HS X0 B0
  cases b
  case false =>
    have NO:Hid (¬ jaj p):=fun h=>by have:=HB.out.2 h.port;cases this
    go_wp2_with fail
    go_ret2
    exact⟨⟨_,_,rfl,Or.inr ⟨rfl,NO.out,rfl⟩,fun h=>(by cases h)⟩,S1.out⟩
  have HP:Hid (ja4 p):=HB.out.1 rfl
  have pc14:=X1.out.cells.2.2.1
  have OKA:Hid (jga [(0,16)] 0 300 p.shut):=⟨by decide,by unfold inB;exact decide_eq_true HP.out.shut,by omega,by omega,by omega⟩
  go_wp2_with fail
  go_cut [4] (fun s4 wc=>Hid (Below w.heap.size w wc∧PBox wc w.heap.size p vs∧Far w.heap.size s4∧∃ r,Sl wc s4 r∧Good r∧∀ t,0≤t→t < 300→val r t=16 - p.shut))
  case first =>
    go_region_with (first|(go_at_call 142;go_loud ( refine(jry _).mono ?_;rintro e w2 ⟨v2,rfl,hv2,hb2⟩;have F2:Hid (Below w.heap.size w w2∧PBox w2 w.heap.size p vs∧Sl w2 v2 [(0,16)]):=⟨S1.out.trans ((jau hb2).mono S1.out.size),X1.out.later (jau hb2) X1.out.lt,hv2⟩;have pc14b:=F2.out.2.1.cells.2.2.1;clear hb2 hv2))|(go_at_call 114;refine(take_far _ [(0,16)] _ _ _ _ F2.out.2.2 OKA.out).mono ?_;rintro e w3 ⟨v3,ok3,rfl,hT3,hF3,hb3⟩;have F3:Hid ((jew [(0,16)] 0 300 p.shut (-p.shut) w3 v3 ok3∧Far w.heap.size v3)∧Below w.heap.size w w3∧PBox w3 w.heap.size p vs):=⟨⟨hT3,hF3.mono F2.out.1.size⟩,F2.out.1.trans (hb3.mono F2.out.1.size),F2.out.2.1.later hb3 F2.out.2.1.lt⟩;clear hT3 hb3 hF3))
    all_goals
      go_wp2_with fail
      go_meet
      case rel =>
        obtain⟨⟨hT,hF⟩,hb,hx⟩:=F3.out
        have hsh:=HP.out.shut
        refine⟨hb,hx,hF,?_⟩
        rcases jfp good16 hsh (by omega) (by omega) (by omega) hT with ⟨_,r,h1,h2,h3,_⟩|⟨_,_,h2⟩
        · refine⟨r,h1,h2,fun t ta tb=>?_⟩
          rw [h3 t ta tb,val16 t ta,if_pos ⟨ta,tb⟩]
        · exact absurd (fun s a b=>by rw [val16 s a];omega) h2
  case rest =>
    have S2:Hid (Below w.heap.size w wc):=hcut.out.1
    have X2:Hid (PBox wc w.heap.size p vs):=hcut.out.2.1
    have FA:Hid (Far w.heap.size u4):=hcut.out.2.2.1
    obtain⟨r,hr⟩:=hcut.out.2.2.2
    have R2:Hid (Sl wc u4 r∧Good r∧∀ t,0≤t→t < 300→val r t=16 - p.shut):=hr
    have V2:Hid (PtV wc (.agg PC) p):=HV.out.below S2.out
    obtain⟨hn0,hn1⟩:=HP.out.now
    have hlen:=HP.out.len
    clear hr hcut S1 X1 pc14
    have pc0:=X2.out.cells.1
    have hll:=jhm p.ships
    have QL:Hid ((jbf p.ships).length+4≤maxLen∧((jbf p.ships).length+4)*24≤140737488355328∧(jbf p.ships++p.kept).length≤1000):=⟨by unfold maxLen;omega,by omega,by rw [List.length_append];omega⟩
    clear hll
    obtain⟨a0,a1,a2,b0,b1,b2,c0,c1,c2,d0,d1,d2,hpa,q0,q1,q2,q3,q4,q5,q6,q7,q8,q9,q10,q11,q12,q13,q14,q15⟩:=X2.out.all
    rw [HPC.out] at hpa
    have HLx:=fun W h=>HL W h HP.out
    have V2x:=V2.out
    rw [hpa] at HLx V2x
    have V3:Hid (PtV wc.drew (.agg #[.int .i64 p.now,vs,.int .i64 a0,.int .i64 a1,.int .i64 a2,.int .i64 b0,.int .i64 b1,.int .i64 b2,.int .i64 c0,.int .i64 c1,.int .i64 c2,.int .i64 d0,.int .i64 d1,.int .i64 d2,.int .i64 p.shut,.int .i64 p.next]) p):=V2x.below ((Below.refl _ wc).drew)
    clear hpa V2x pc0 HL
    go_wp2_with fail
    go_region_law (first|(refine jl6 tyKp rfl _ _ rfl wc.heap.size v5 (jbf p.ships) p.kept w.heap.size 2 4 4 rfl rfl h4 F5.out.1 F5.out.2.2.2 F5.out.2.1.size QL.out.1 QL.out.2.1 ?_;intro v6 w6 hw6;have F6:Hid (SlK cKp w6 v6 (jbf p.ships++p.kept)∧Below wc.heap.size wc w6):=⟨jaz hw6.out.1,F5.out.2.1.trans hw6.out.2⟩;have pc0c:=(X2.out.later F6.out.2 X2.out.lt).cells.1;clear hw6)|(go_simp;go_at_call 144;refine(HLx _ V3.out).mono ?_;rintro e w5 ⟨v5,rfl,hv5,hb5⟩;have F5:Hid (w5.ownsRow wc.heap.size 38 3 v5 (jbf p.ships).length (jae cKp (jbf p.ships))∧Below wc.heap.size wc w5∧PBox w5 w.heap.size p vs∧RdK cKp w5 w.heap.size 2 p.kept):=⟨hv5,jau hb5,X2.out.later (jau hb5) X2.out.lt,fun j u hu=>(X2.out.later (jau hb5) X2.out.lt).keeps j u hu⟩;have pc0b:=F5.out.2.2.1.cells.1;clear hv5 hb5)|(go_simp;go_at_call 143;refine(less_any _ r _ _ (jbf p.ships++p.kept) _ (R2.out.1.below F6.out.2) R2.out.2.1 (by omega) (by omega) F6.out.1 (jo8 HP.out) QL.out.2.2 w.heap.size FA.out (S2.out.trans (F6.out.2.mono S2.out.size)).size).mono ?_;rintro e w7 ⟨⟨v7,ok7,rfl,hL7,hF7⟩,hb7⟩;have F7:Hid ((jkq p w7 v7 ok7∧(ok7=true→Far w.heap.size v7))∧Below w.heap.size w w7):=⟨⟨jh4 HP.out R2.out.2.2 hL7,hF7⟩,(S2.out.trans (F6.out.2.mono S2.out.size)).trans (hb7.mono (S2.out.trans (F6.out.2.mono S2.out.size)).size)⟩;clear hL7 hb7 hF7))
    all_goals
      go_wp2_with fail
      go_ret2
      exact⟨⟨_,_,rfl,F7.out.1⟩,F7.out.2⟩
theorem jdo (v:Value) (p:Pt) (w:World) (hv:PtV w v p) (hq:WfQ p) :
    Calls Tryz.prog 83 #[v] w fun e w'=>IsB e (jaj p)∧Below w.heap.size w w':=by
  obtain⟨vs,rfl,hsl,h4,hmx⟩:=hv
  have HV:Hid (PtV w (.agg (jaa p vs).toArray) p):=⟨vs,rfl,hsl,h4,hmx⟩
  have X0:Hid (PBox (w.alloc (.cells (jaa p vs).toArray 41)) w.heap.size p vs):=PBox.new w p _ h4
  have B0:Hid (Below w.heap.size w (w.alloc (.cells (jaa p vs).toArray 41))):=(Below.refl _ w).alloc (Nat.le_refl _) _
  have HS:=fun W h=>base_any (.agg (jaa p vs).toArray) p W h hq
  clear hsl hq
  generalize hPC:(jaa p vs).toArray=PC at *
  have HPC:Hid ((jaa p vs).toArray=PC):=hPC
  clear hPC
  go_enter Tryz.func83,Tryz.ntmps83
  go_wp2_with (refine jac rfl _ rfl w.heap.size p vs rfl X0.out ?_;rw [HPC.out])
  refine(HS _ (HV.out.below B0.out)).mono ?_
  rintro e w1 ⟨⟨v1,b1,rfl,hb,_⟩,hw1⟩
  have S1:Hid (Below w.heap.size w w1):=B0.out.trans (hw1.mono B0.out.size)
  have HB:Hid (jkq p w1 v1 b1):=hb
  clear hw1 hb HS X0 B0
  go_wp2_with fail
  go_ret
  refine⟨⟨b1,rfl,?_⟩,S1.out⟩
  rcases HB.out with ⟨e,h,_⟩|⟨e,h,_⟩
  · rw [e];exact⟨fun _=>h,fun _=>rfl⟩
  · rw [e];exact⟨fun x=>(by cases x),fun x=>absurd x h⟩
end Go.Proofs.YtcmdoeledmkfmacGreatDoor
