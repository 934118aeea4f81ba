/- Texts of this claim, in one: PRank PRepeat PPlanW PPlanV. -/
import Derived.OwnWalk
import Derived.Deep.RegionLaw
import Derived.Test.YtcmdoeledmkfmacGreatDoorS4
import Derived.Test.YtcmdoeledmkfmacGreatDoorS9
set_option linter.unusedSimpArgs false
set_option linter.unusedVariables false
set_option maxHeartbeats 40000000
set_option maxRecDepth 100000
namespace Go.Proofs.YtcmdoeledmkfmacGreatDoor
open Go.RowKit
def waitL (p:Pt) (j:Nat):List Nat:=(List.range j).filter fun i=>decide ((shp p i).st=1)
theorem jp5 (p:Pt) (j:Nat):waitL p (j+1)=waitL p j++if (shp p j).st=1 then [j] else []:=by
 unfold waitL
 rw [List.range_succ,List.filter_append]
 by_cases h:(shp p j).st=1 <;> simp [h]
theorem jly {p:Pt} {j i:Nat}:i∈waitL p j↔i < j∧(shp p i).st=1:=by unfold waitL;simp
theorem jnx (p:Pt) (j:Nat):(waitL p j).Nodup:=List.Pairwise.filter _ List.nodup_range
theorem jlz (p:Pt) (j:Nat):(waitL p j).length≤j:=by
 unfold waitL
 have:=List.length_filter_le (fun i=>decide ((shp p i).st=1)) (List.range j)
 simpa using this
theorem jfi (a b:List Nat):ints (a++b)=ints a++ints b:=by simp [ints]
theorem jr2 {p:Pt} (h:ja4 p) (x y:Nat) (hx:x < p.ships.length) (hy:y < p.ships.length) (hne:x≠y):ltP p x y∨ltP p y x:=by
 unfold ltP
 refine jh3 ?_
 rw [jbj (List.getElem?_eq_getElem hx),jbj (List.getElem?_eq_getElem hy)]
 rcases Nat.lt_or_gt_of_ne hne with e|e
 ·exact h.once x y _ _ e (List.getElem?_eq_getElem hx) (List.getElem?_eq_getElem hy)
 ·exact(h.once y x _ _ e (List.getElem?_eq_getElem hy) (List.getElem?_eq_getElem hx)).symm
theorem jmi {p:Pt} {m:List Nat} (h1:m.Perm (waitL p p.ships.length)) (h2:m.Pairwise (ltP p)):jbo p m :=
 ⟨fun i=>by rw [h1.mem_iff];exact jly,h2⟩
theorem jhj (w:World) (t:TypeId) (n:Int):RdK cInt (w.alloc (.cells #[.int .i64 n] t)) w.heap.size 0 [n]:=jfe (k:=1) (c:=cInt) w t n _ rfl
theorem js4 (gp:Nat) (w:World):Calls Tryz.prog 117 #[.slice none 0 0,.func (.func 118) #[] #[.pointer (some ⟨gp,0,none⟩)]] w fun e w'=>e=.returned (.tuple #[])∧w'=w:=by
 go_enter Tryz.func117,Tryz.ntmps117
 go_wp2
 refine wp_loop_rounds 1 ?_
 rw [rounds_succ]
 go_wp2
 refine wp_loop_rounds 1 ?_
 rw [rounds_succ]
 go_wp2
 go_end0
 go_wp2
 refine wp_loop_rounds 1 ?_
 rw [rounds_succ]
 go_wp2
 go_end0
 go_wp2
 go_end0
 exact⟨rfl,rfl⟩
theorem jj6 (v:Value) (p:Pt) (w:World) (hv:PtV w v p) (hp:ja4 p) :
  Calls Tryz.prog 91 #[v] w fun e w'=>(∃ v',e=.returned v'∧Hid (∃ rk,jbo p rk∧w'.ownsRow w.heap.size 3 1 v' (ints rk).length (jae cInt (ints rk))))∧Below w.heap.size w w':=by
 obtain⟨vs,rfl,⟨a,cap,rfl,hcap,hrd⟩,h4,hmx⟩:=hv
 have HR:Hid (p.ships=[]∨∃ b off,a=some ⟨b,off,none⟩∧RdK cShip w b off p.ships):=hrd
 have HP:Hid (ja4 p):=hp
 have X0:Hid (PBox (w.alloc (.cells (jaa p (.slice a p.ships.length cap)).toArray 41)) w.heap.size p (.slice a p.ships.length cap)):=PBox.new w p _ h4
 have B0:Hid (Below w.heap.size w (w.alloc (.cells (jaa p (.slice a p.ships.length cap)).toArray 41))):=(Below.refl _ w).alloc (Nat.le_refl _) _
 have Z0:Hid (w.heap.size+1≤(w.alloc (.cells (jaa p (.slice a p.ships.length cap)).toArray 41)).heap.size):=by show _≤_;simp
 obtain⟨pc0,pc1,pc14,pc15⟩:=X0.out.cells
 have hlen:p.ships.length < 15:=hp.len
 clear hrd hp
 generalize hPC:(jaa p (.slice a p.ships.length cap)).toArray=PC at *
 clear hPC
 have O0:Hid ((w.alloc (.cells PC 41)).ownsRow (w.heap.size+1) 3 1 (.slice none 0 0) (ints (waitL p 0)).length (jae cInt (ints (waitL p 0)))):=World.ownsRow_nil _ _ _ _
 go_enter Tryz.func91,Tryz.ntmps91
 go_wp2_with fail
 clear pc0 pc1 pc14 pc15
 generalize w.alloc (.cells PC 41)=WA at *
 go_loopg [3,9] p.ships.length (fun kx s3 s9 wr=>∃ (j:Nat),s9=.int .i64 j∧j≤p.ships.length∧p.ships.length - j≤kx∧Hid (Below w.heap.size w wr∧PBox wr w.heap.size p (.slice a p.ships.length cap)∧w.heap.size+1≤wr.heap.size)∧Hid (wr.ownsRow (w.heap.size+1) 3 1 s3 (ints (waitL p j)).length (jae cInt (ints (waitL p j))))∧Hid (waitL p j=[]→s3=.slice none 0 0))
 case atStart=>exact⟨0,rfl,Nat.zero_le _,by omega,⟨B0.out,X0.out,Z0.out⟩,O0,(fun _=>rfl:waitL p 0=[]→_)⟩
 case round =>
  clear B0 O0 X0 Z0
  obtain⟨j,rfl,hj,hg,S1,O1,NN⟩:=hrel
  by_cases hjl:j < p.ships.length
  ·obtain⟨s,hs⟩:∃ s,p.ships[j]?=some s:=⟨p.ships[j],List.getElem?_eq_getElem hjl⟩
   obtain⟨bb,off,rfl,hrd⟩:∃ b off,a=some ⟨b,off,none⟩∧RdK cShip w b off p.ships:=by
    rcases HR.out with h|h
    ·rw [h] at hjl;simp at hjl
    ·exact h
   have hws:=jp5 p j
   rw [jbj hs] at hws
   obtain⟨c0,c1,c2,c3,c4,c5⟩:=(hrd.below S1.out.1).ship hs
   have hbw:Below wr.heap.size wr (wr.alloc (.cells #[.int .i64 s.st,.int .i64 s.wd,.int .i64 s.lg,.int .i64 s.cl,.int .i64 s.si,.int .i64 s.qu] 46)):=(Below.refl _ wr).alloc (Nat.le_refl _) _
   have S4:Hid (Below w.heap.size w (wr.alloc (.cells #[.int .i64 s.st,.int .i64 s.wd,.int .i64 s.lg,.int .i64 s.cl,.int .i64 s.si,.int .i64 s.qu] 46))∧PBox (wr.alloc (.cells #[.int .i64 s.st,.int .i64 s.wd,.int .i64 s.lg,.int .i64 s.cl,.int .i64 s.si,.int .i64 s.qu] 46)) w.heap.size p (.slice (some ⟨bb,off,none⟩) p.ships.length cap)∧w.heap.size+1≤(wr.alloc (.cells #[.int .i64 s.st,.int .i64 s.wd,.int .i64 s.lg,.int .i64 s.cl,.int .i64 s.si,.int .i64 s.qu] 46)).heap.size):=⟨S1.out.1.trans (hbw.mono S1.out.1.size),S1.out.2.1.later hbw S1.out.2.1.lt,by have:=S1.out.2.2;have:=hbw.size;omega⟩
   have O4:Hid ((wr.alloc (.cells #[.int .i64 s.st,.int .i64 s.wd,.int .i64 s.lg,.int .i64 s.cl,.int .i64 s.si,.int .i64 s.qu] 46)).ownsRow (w.heap.size+1) 3 1 u3 (ints (waitL p j)).length (jae cInt (ints (waitL p j)))):=O1.out.alloc _
   have N4:Hid (SBox (wr.alloc (.cells #[.int .i64 s.st,.int .i64 s.wd,.int .i64 s.lg,.int .i64 s.cl,.int .i64 s.si,.int .i64 s.qu] 46)) wr.heap.size s):=SBox.new wr s
   have hk3:(j:Int) < (p.ships.length:Int):=by omega
   clear hs hrd hbw S1 O1
   go_upto_region 5 with fail
   clear c0 c1 c2 c3 c4 c5
   generalize wr.alloc (.cells #[.int .i64 s.st,.int .i64 s.wd,.int .i64 s.lg,.int .i64 s.cl,.int .i64 s.si,.int .i64 s.qu] 46)=WB at *
   generalize wr.heap.size=gs at *
   obtain⟨k0,k1,k2,k3,k4,k5⟩:=N4.out.cells
   clear k1 k2 k3 k4 k5
   by_cases h3:s.st=1
   ·have hb3:(s.st == 1)=true:=by simp [h3]
    rw [if_pos h3] at hws
    have HS3:Hid (ints (waitL p (j+1))=ints (waitL p j)++[(j:Int)]):=by show _=_;rw [hws,jfi];rfl
    have hl:=jlz p j
    have hl2:=jcb (waitL p j)
    have Q1:Hid ((ints (waitL p j)).length+1≤maxLen∧((ints (waitL p j)).length+1)*8≤140737488355328):=⟨by unfold maxLen;omega,by omega⟩
    have R1:Hid (RdK cInt (WB.alloc (.cells #[.int .i64 (j:Int)] 3)) WB.heap.size 0 [(j:Int)]):=jhj WB _ _
    have hbw2:Below WB.heap.size WB (WB.alloc (.cells #[.int .i64 (j:Int)] 3)):=(Below.refl _ WB).alloc (Nat.le_refl _) _
    have S5:Hid (Below w.heap.size w (WB.alloc (.cells #[.int .i64 (j:Int)] 3))∧PBox (WB.alloc (.cells #[.int .i64 (j:Int)] 3)) w.heap.size p (.slice (some ⟨bb,off,none⟩) p.ships.length cap)∧w.heap.size+1≤(WB.alloc (.cells #[.int .i64 (j:Int)] 3)).heap.size):=⟨S4.out.1.trans (hbw2.mono S4.out.1.size),S4.out.2.1.later hbw2 S4.out.2.1.lt,by have:=S4.out.2.2;have:=hbw2.size;omega⟩
    have O5:Hid ((WB.alloc (.cells #[.int .i64 (j:Int)] 3)).ownsRow (w.heap.size+1) 3 1 u3 (ints (waitL p j)).length (jae cInt (ints (waitL p j)))):=O4.out.alloc _
    clear h3 hws hl hl2 hbw2
    go_wp2_with (at_builtin;refine jcp tyInt rfl _ _ rfl (w.heap.size+1) u3 (ints (waitL p j)) [(j:Int)] WB.heap.size 0 1 1 rfl rfl rfl O5.out R1.out S5.out.2.2 Q1.out.1 Q1.out.2 ?_;intro v' w1 hw1)
    go_roundg (p.ships.length - (j+1))
    case measure=>omega
    case rel=>exact⟨j+1,by go_num,by omega,Nat.le_refl _,⟨S5.out.1.trans (hw1.out.2.mono (by omega)),S5.out.2.1.later hw1.out.2 (by omega),by have:=hw1.out.2.size;have:=S5.out.2.2;omega⟩,(by rw [HS3.out];exact hw1.out.1:World.ownsRow _ _ _ _ _ _ _),(fun h=>by have h2:=HS3.out;rw [h] at h2;simp [ints] at h2:waitL p (j+1)=[]→_)⟩
   ·have hb3:(s.st == 1)=false:=by simp [h3]
    rw [if_neg h3,List.append_nil] at hws
    have HS3:Hid (waitL p (j+1)=waitL p j):=hws
    clear h3 hws
    go_wp2_with fail
    go_roundg (p.ships.length - (j+1))
    case measure=>omega
    case rel=>exact⟨j+1,by go_num,by omega,Nat.le_refl _,S4,(by rw [HS3.out];exact O4.out:World.ownsRow _ _ _ _ _ _ _),(fun h=>NN.out (by rw [← HS3.out];exact h):waitL p (j+1)=[]→_)⟩
  ·have hje:j=p.ships.length:=by omega
   subst hje
   have hj3:¬ ((p.ships.length:Int) < (p.ships.length:Int)):=by omega
   by_cases hnil:u3=.slice none 0 0
   ·have D:Hid (∃ rk,jbo p rk∧wr.ownsRow w.heap.size 3 1 (.slice none 0 0) (ints rk).length (jae cInt (ints rk))):=by
     have ho:=O1.out
     rw [hnil] at ho
     have hs:=jaz ho
     obtain⟨a1,c1,he,_,h⟩:=hs
     injection he with he1 he2 he3
     have hz:waitL p p.ships.length=[]:=List.eq_nil_of_length_eq_zero (by rw [← jcb];omega)
     exact⟨[],jmi (by rw [hz]) List.Pairwise.nil,World.ownsRow_nil _ _ _ _⟩
    subst hnil
    clear O1
    go_wp2_with (first|(go_at_call 117;refine(js4 _ _).mono ?_;rintro e w9 ⟨rfl,rfl⟩))
    go_ret
    exact⟨⟨_,rfl,D⟩,S1.out.1⟩
   ·obtain⟨g,cap',rfl,ho⟩:=OwnK.ofRow O1.out hnil
    have hlw:=jlz p p.ships.length
    have hne:p.ships≠[]:=by
     intro h0
     have hz:waitL p p.ships.length=[]:=List.eq_nil_of_length_eq_zero (by rw [h0] at hlw ⊢;simpa using hlw)
     exact hnil (NN.out hz)
    obtain⟨bb,off,rfl,hrd⟩:∃ b off,a=some ⟨b,off,none⟩∧RdK cShip w b off p.ships:=by
     rcases HR.out with h|h
     ·exact absurd h hne
     ·exact h
    have hbb:bb < w.heap.size:=by
     obtain⟨s,hs⟩:∃ s,p.ships[0]?=some s:=⟨p.ships[0]'(List.length_pos_iff.2 hne),List.getElem?_eq_getElem _⟩
     exact World.block_lt_of_cell? w _ (hrd.ship hs).1
    have HC:=js5 p w.heap.size bb off cap (w.heap.size+1) g cap' (waitL p p.ships.length) wr ⟨S1.out.2.1,hrd.below S1.out.1⟩ (by omega) (by omega) ho (fun x hx=>(jly.1 hx).1) (by omega) (jnx _ _) (jr2 HP.out)
    have S2:Hid (Below w.heap.size w wr):=S1.out.1
    rw [jcb]
    clear O1 NN hnil hne hrd ho S1 hlw
    generalize hml:waitL p p.ships.length=ml at *
    have HML:Hid (waitL p p.ships.length=ml):=hml
    clear hml
    go_wp2_with fail
    refine HC.mono ?_
    rintro e w9 ⟨rfl,hw9⟩
    clear HC
    go_wp2_with fail
    go_ret
    obtain⟨m',q1,q2,q3,q4⟩:=hw9.out
    have hS:=jar (OwnK.toRow jh0 q3) (show w.heap.size≤w.heap.size+1 by omega)
    have hll:(ints m').length=ml.length:=by rw [jcb,q1.length_eq]
    have hS2:w9.ownsRow w.heap.size 3 1 (.slice (some ⟨g,0,none⟩) ml.length cap') (ints m').length (jae cInt (ints m')):=by rw [hll] at hS ⊢;exact hS
    exact⟨⟨_,rfl,⟨m',jmi (by rw [HML.out];exact q1) q2,hS2⟩⟩,S2.out.trans (q4.mono (by omega))⟩
theorem ju3 (n:Nat) (hn:n≤14) (w:World):Calls Tryz.prog 116 #[.int .u64 1,.int .u64 n] w fun e w'=>e=.returned (.tuple #[.int .u64 0,.int .u64 n])∧w'=w:=by
 rcases(by omega:n=0∨n=1∨n=2∨n=3∨n=4∨n=5∨n=6∨n=7∨n=8∨n=9∨n=10∨n=11∨n=12∨n=13∨n=14) with rfl|rfl|rfl|rfl|rfl|rfl|rfl|rfl|rfl|rfl|rfl|rfl|rfl|rfl|rfl
 all_goals
  go_enter Tryz.func116,Tryz.ntmps116
  go_wp2
  go_ret2
  exact⟨rfl,rfl⟩
def repL (n m:Nat):List Value:=List.replicate m (.int .i64 (-1))++List.replicate (n - m) (.int .i64 0)
theorem jn4 (n m:Nat) (hm:m≤n):splice (repL n m) m (List.replicate (min (n - m) m) (.int .i64 (-1)))=repL n (m+min (n - m) m):=by
 unfold splice repL
 rw [List.take_left' (by simp),List.length_replicate,List.drop_append,List.length_replicate,List.drop_of_length_le (by simp),List.nil_append,List.drop_replicate,← List.append_assoc,List.replicate_append_replicate]
 congr 2
 omega
theorem jqd (b n:Nat) (hn:n≤14) (w:World) (hc:w.cell? ⟨b,0,none⟩=some (.int .i64 (-1))) :
  Calls Tryz.prog 90 #[.slice (some ⟨b,0,none⟩) 1 1,.int .i64 n] w fun e w'=>e=.returned (.slice (some ⟨w.heap.size,0,none⟩) n n)∧Hid (IRow w' w.heap.size w.heap.size n (List.replicate n (-1))∧Below w.heap.size w w'):=by
 have hn0:¬ (n:Int) < 0:=by omega
 have hn2:¬ (9223372036854775807:Int) < (n:Int):=by omega
 have HC:Hid (w.cell? ⟨b,0,none⟩=some (.int .i64 (-1))):=hc
 have HB:Hid (b < w.heap.size):=World.block_lt_of_cell? w _ hc
 obtain⟨i0,hi,hz0,hz1,hz2⟩:∃ i0,Tryz.prog.info? 3=some i0∧i0.zero=some (.int .i64 0)∧i0.size=1∧i0.bytes=8:=by
  have h:(Tryz.prog.info? 3).map (fun i=>(i.zero,i.size,i.bytes))=some (some (.int .i64 0),1,8):=by kernel_rfl
  cases hq:Tryz.prog.info? 3 with
  | none=>rw [hq] at h;cases h
  | some i=>rw [hq] at h;simp at h;exact⟨i,rfl,h.1,h.2.1,h.2.2⟩
 have HI:Hid (Tryz.prog.info? 3=some i0∧i0.zero=some (.int .i64 0)∧i0.size=1∧i0.bytes=8):=⟨hi,hz0,hz1,hz2⟩
 have HSZ:Hid ((Tryz.prog.info? 3).map (·.size)=some 1):=by show _=_;rw [hi];simp [hz1]
 have HBY:Hid (i0.bytes*n≤281474976710656∧n≤maxLen):=⟨by rw [hz2];omega,by unfold maxLen;omega⟩
 clear hc hi hz0 hz1 hz2
 go_enter Tryz.func90,Tryz.ntmps90
 go_wp2_with fail
 refine(ju3 n hn w).mono ?_
 rintro e w' ⟨rfl,rfl⟩
 go_upto_region 7 with (refine wpList_make_full _ rfl _ _ 43 rfl w'.heap.size 3 i0 (.int .i64 0) 1 Tryz.underlying43 HI.out.1 HI.out.2.1 HI.out.2.2.1 .i64 .i64 _ _ n rfl rfl (by first|rfl|go_num) (by first|rfl|go_num) HBY.out.1 HBY.out.2 (Nat.le_refl _) ?_;intro w1 hw1 hg1)
 have G1:Hid (w1.heap[w'.heap.size]?=some (.cells (repL n 0).toArray 3 (0,0))):=by
  rcases hw1.2 with ⟨h,_⟩|⟨g,cap,cur,h,h1,h2,h3,h4,h5,h6⟩
  ·cases h
  ·injection h with ha hb hc
   injection ha with ha
   injection ha with ha
   subst ha
   have e1:cur.toList=(repL n 0):=by
    have e2:(madeCells (Value.int IntKind.i64 0).cells (n*1)).toList=List.replicate n (.int .i64 0):=by rw [Nat.mul_one];exact toList_madeCells_one _ _
    rw [e2] at h6
    have e3:cur.toList.take (n*1)=cur.toList:=List.take_of_length_le (by simp;omega)
    rw [e3] at h6
    rw [h6];simp [repL]
   show _=_
   rw [← e1];simpa using h2
 have B1:Hid (Below w'.heap.size w' w1):=(Below.refl _ w').grown hg1 (Nat.le_refl _) (fun k hk=>by cases hk)
 have C1:Hid (w1.cell? ⟨b,0,none⟩=some (.int .i64 (-1))):=(B1.out.cell (p:=⟨b,0,none⟩) HB.out).trans HC.out
 clear hw1 hg1
 have KK:Hid ((List.replicate (Nat.min 1 n) (Value.int IntKind.i64 (-1))).length=Nat.min 1 n∧(∀ j v,(List.replicate (Nat.min 1 n) (Value.int IntKind.i64 (-1)))[j]?=some v→w1.cell? ((⟨b,0,none⟩:Addr).add j)=some v)∧0+(List.replicate (Nat.min 1 n) (Value.int IntKind.i64 (-1))).length≤(repL n 0).length∧∀ v∈List.replicate (Nat.min 1 n) (Value.int IntKind.i64 (-1)),v.oneCell'=true):=by
  refine⟨by simp,fun j v hj=>?_,?_,fun v hv=>by rw [(List.mem_replicate.1 hv).2];rfl⟩
  ·have h:=List.getElem?_eq_some_iff.1 hj
   have hl:=h.1
   simp only [List.length_replicate] at hl
   have:j=0:=by have:=Nat.min_le_left 1 n;have h3:Nat.min 1 n≤1:=this;omega
   subst this
   rw [← h.2,List.getElem_replicate]
   exact C1.out
  ·have h3:Nat.min 1 n≤n:=Nat.min_le_right 1 n
   simp [repL];exact h3
 go_wp2_with (refine wpList_copy_splice rfl _ _ 43 43 rfl 3 Tryz.underlying43 HSZ.out (some ⟨w'.heap.size,0,none⟩) (some ⟨b,0,none⟩) n n 1 1 rfl rfl w'.heap.size 0 (repL n 0) 3 G1.out (List.replicate (Nat.min 1 n) (.int .i64 (-1))) KK.out.1 (fun _=>⟨rfl,_,rfl,KK.out.2.1⟩) KK.out.2.2.1 KK.out.2.2.2 w'.heap.size w' B1.out (Nat.le_refl _) ?_;intro w2 hw2 hb2)
 have W2:Hid (w2.heap[w'.heap.size]?=some (.cells (repL n (Nat.min 1 n)).toArray 3 (0,0))∧Below w'.heap.size w' w2):=by
  refine⟨?_,hb2⟩
  have h:=hw2.out
  have e:splice (repL n 0) 0 (List.replicate (Nat.min 1 n) (.int .i64 (-1)))=repL n (Nat.min 1 n):=by
   have h3:Nat.min 1 n≤n:=Nat.min_le_right 1 n
   unfold splice repL
   simp
  rw [e] at h;exact h
 have hm1:Nat.min 1 n≤n∧(1≤Nat.min 1 n∨n=0):=⟨Nat.min_le_right 1 n,by by_cases h:n=0;exact Or.inr h;exact Or.inl (Nat.le_min.2 ⟨Nat.le_refl 1,by omega⟩)⟩
 clear hw2 hb2 G1 B1 C1 KK
 generalize Nat.min 1 n=n1 at *
 have HM1:Hid (n1≤n∧(1≤n1∨n=0)):=hm1
 clear hm1
 go_loopg [8] 20 (fun kx s8 wr=>∃ (m:Nat),s8=.int .i64 m∧m≤n∧(1≤m∨n=0)∧n - m≤kx∧Hid (wr.heap[w'.heap.size]?=some (.cells (repL n m).toArray 3 (0,0))∧Below w'.heap.size w' wr))
 case atStart=>exact⟨n1,rfl,HM1.out.1,HM1.out.2,by omega,W2⟩
 case round =>
  clear W2
  obtain⟨m,rfl,hm,hm2,hg,I⟩:=hrel
  by_cases hlt:m < n
  ·have hlt2:(m:Int) < (n:Int):=by omega
   have hm3:1≤m:=by omega
   have hm4:(m:Int)≤(n:Int):=by omega
   have hmn:Nat.min m (n - m)=min (n - m) m:=Nat.min_comm _ _
   have hle1:min (n - m) m≤m:=Nat.min_le_right _ _
   have hle2:min (n - m) m≤n - m:=Nat.min_le_left _ _
   have hpos:0 < min (n - m) m:=by omega
   generalize hq:min (n - m) m=q at *
   have HQ:Hid (min (n - m) m=q):=hq
   have KK:Hid ((List.replicate q (Value.int IntKind.i64 (-1))).length=Nat.min m (n - m)∧(∀ j v,(List.replicate q (Value.int IntKind.i64 (-1)))[j]?=some v→wr.drew.cell? ((⟨w'.heap.size,0,none⟩:Addr).add j)=some v)∧m+(List.replicate q (Value.int IntKind.i64 (-1))).length≤(repL n m).length∧∀ v∈List.replicate q (Value.int IntKind.i64 (-1)),v.oneCell'=true):=by
    refine⟨by rw [hmn];simp,fun j v hj=>?_,by simp [repL];omega,fun v hv=>by rw [(List.mem_replicate.1 hv).2];rfl⟩
    have h:=List.getElem?_eq_some_iff.1 hj
    have hl:=h.1
    simp only [List.length_replicate] at hl
    rw [← h.2,List.getElem_replicate,Addr.add_lit]
    show wr.cell? _=_
    rw [cell_of_row _ _ _ _ _ _ I.out.1,Nat.zero_add]
    simp [repL,List.getElem?_append,show j < m by omega]
   have G4:Hid (wr.drew.heap[w'.heap.size]?=some (.cells (repL n m).toArray 3 (0,0))):=I.out.1
   have B4:Hid (Below w'.heap.size w' wr.drew):=I.out.2.drew
   have HNE:Hid ((if n=m then some (⟨w'.heap.size,0,none⟩:Addr) else some ⟨w'.heap.size,m,none⟩)=some ⟨w'.heap.size,m,none⟩):=if_neg (by omega)
   have hwr:IntKind.i64.wrap ((m:Int)+(q:Int))=(m:Int)+(q:Int):=jbk (by omega) (by omega)
   clear hq hmn
   go_wp2_with fail
   go_region_law (refine step_copy_splice rfl (.tmp 41) (.tmp 44) 43 43 rfl 3 Tryz.underlying43 HSZ.out (if n=m then some ⟨w'.heap.size,0,none⟩ else some ⟨w'.heap.size,m,none⟩) (some ⟨w'.heap.size,0,none⟩) (n - m) (n - m) m n (by simp [Act.eval,Act.put]) (by simp [Act.eval,Act.put]) w'.heap.size m (repL n m) 3 G4.out (List.replicate q (.int .i64 (-1))) KK.out.1 (fun _=>⟨HNE.out,_,rfl,KK.out.2.1⟩) KK.out.2.2.1 KK.out.2.2.2 w'.heap.size w' B4.out (Nat.le_refl _) ?_;intro w4 hw4 hb4)
   have W4:Hid (w4.heap[w'.heap.size]?=some (.cells (repL n (m+q)).toArray 3 (0,0))∧Below w'.heap.size w' w4):=by
    refine⟨?_,hb4⟩
    have h:=hw4.out
    have e:=jn4 n m hm
    rw [HQ.out] at e
    rw [e] at h;exact h
   clear hw4 hb4
   go_wp2_with fail
   go_roundg (n - (m+q))
   case measure=>omega
   case rel=>exact⟨m+q,by first|go_num|(simp;done),by omega,by omega,Nat.le_refl _,W4⟩
  ·have hme:m=n:=by omega
   subst hme
   have D:Hid (IRow wr w'.heap.size w'.heap.size m (List.replicate m (-1))∧Below w'.heap.size w' wr):=by
    refine⟨⟨Nat.le_refl _,by simp,HBY.out.2,_,I.out.1,by simp [repL],?_⟩,I.out.2⟩
    have e:∀ k:Nat,jae cInt (List.replicate k (-1))=List.replicate k (.int .i64 (-1)):=by
     intro k
     induction k with
     | zero=>rfl
     | succ k ih=>rw [List.replicate_succ,List.replicate_succ];simp only [jae,cInt];rw [ih];rfl
    rw [e]
    simp [repL]
   clear I
   have hlt2:¬ (m:Int) < (m:Int):=by omega
   go_wp2_with fail
   go_ret
   exact⟨rfl,D⟩
structure jcy (p:Pt) (rk:List Nat) (k:Nat) (pl:List Int) (r:List (Int×Int)):Prop where
 len:pl.length=p.ships.length
 out:∀ i,i ∉ rk.take k→pl.getD i (-1)=-1
 good:Good r
 says:∀ t,0≤t→t < 300→val r t=ja3 p t - ctrs p pl (rk.take k) t
 chain:Chain p pl (ja3 p) (rk.take k)
theorem jcy.start {p:Pt} {rk:List Nat} {r:List (Int×Int)} (G:Good r) (h:∀ t,0≤t→t < 300→val r t=ja3 p t):jcy p rk 0 (List.replicate p.ships.length (-1)) r :=
 ⟨by simp,fun i _=>by rw [List.getD_eq_getElem?_getD,List.getElem?_replicate];split <;> rfl,G,fun t a b=>by rw [h t a b,List.take_zero,jen];omega,by rw [List.take_zero];exact jno _ _ _⟩
theorem jed {rk:List Nat} {k i:Nat} (hk:rk[k]?=some i):rk.take (k+1)=rk.take k++[i]:=by rw [List.take_add_one,hk];rfl
theorem jqn {rk:List Nat} {k i:Nat} (hd:rk.Nodup) (hk:rk[k]?=some i):i ∉ rk.take k:=fun h=>by
 obtain⟨j,hj,he⟩:=List.mem_iff_getElem.1 h
 rw [List.length_take] at hj
 rw [List.getElem_take] at he
 obtain⟨hk1,hk2⟩:=List.getElem?_eq_some_iff.1 hk
 have:=(List.getElem_inj hd).1 (he.trans hk2.symm)
 omega
theorem jcy.step {p:Pt} {rk:List Nat} {k i:Nat} {pl:List Int} {r r':List (Int×Int)} {x:Int} (h:jcy p rk k pl r) (hr:jbo p rk) (hk:rk[k]?=some i) (h0:0≤p.now)
  (hf:FitIs r p.now (shp p i).lg (shp p i).wd x) (G:Good r') (hv:∀ t,0≤t→t < 300→val r' t=val r t - if 0≤x∧x≤t∧t < x+(shp p i).lg then (shp p i).wd else 0):jcy p rk (k+1) (pl.set i x) r':=by
 have hn:=jqn hr.nodup hk
 have hi:i < pl.length:=by rw [h.len];exact((hr.mem i).1 (List.mem_of_getElem? hk)).1
 have hg:(pl.set i x).getD i (-1)=x:=by rw [List.getD_eq_getElem?_getD,List.getElem?_set_self hi];rfl
 have hc:∀ t,ctr p (pl.set i x) i t=if 0≤x∧x≤t∧t < x+(shp p i).lg then (shp p i).wd else 0:=fun t=>by unfold ctr;rw [hg]
 refine⟨by rw [List.length_set];exact h.len,fun j hj=>?_,G,fun t a b=>?_,?_⟩
 ·rw [jed hk] at hj
  have h1:j ∉ rk.take k:=fun hh=>hj (List.mem_append_left _ hh)
  have h2:j≠i:=fun hh=>hj (by rw [hh];simp)
  rw [List.getD_eq_getElem?_getD,List.getElem?_set_ne (fun e=>h2 e.symm),← List.getD_eq_getElem?_getD]
  exact h.out j h1
 ·rw [hv t a b,h.says t a b,jed hk,jdl,jb1,jen,jev x hn,hc t];omega
 ·rw [jed hk]
  refine(h.chain.set x hn).snoc ?_
  rw [hg]
  have hf':FitF (val r) p.now (shp p i).lg (shp p i).wd x:=hf
  exact hf'.congr fun t a b=>by show _=_;rw [h.says t (by omega) b,jev x hn]
theorem jcy.done {p:Pt} {rk:List Nat} {pl:List Int} {r:List (Int×Int)} (h:jcy p rk rk.length pl r) (hr:jbo p rk):jbd p pl:=by
 have e:rk.take rk.length=rk:=List.take_length
 refine⟨h.len,fun i hi hs=>h.out i ?_,rk,hr,by have:=h.chain;rwa [e] at this⟩
 rw [e]
 exact fun hm=>hs ((hr.mem i).1 hm).2
theorem ownsRow_later {w w':World} {B:Nat} {e:TypeId} {size:Nat} {v:Value} {n:Nat} {xs:List Value} (h:w.ownsRow B e size v n xs) (hb:Below w.heap.size w w'):w'.ownsRow B e size v n xs:=by
 refine⟨h.1,?_⟩
 rcases h.2 with h0|⟨g,cap,cur,h0,h1,h2,h3⟩
 ·exact Or.inl h0
 ·exact Or.inr ⟨g,cap,cur,h0,h1,by rw [hb.block g (Array.getElem?_eq_some_iff.1 h2).1];exact h2,h3⟩
structure jd8 (w:World) (p:Pt) (vs:Value) (g:Nat) (v5:Value) (rk:List Nat) (wr:World) (v4:Value) (pl:List Int) (r:List (Int×Int)):Prop where
 base:w.heap.size < g
 below:Below w.heap.size w wr
 box:PBox wr w.heap.size p vs
 row:IRow wr g g p.ships.length pl
 far:Far (g+1) v4
 sl:Sl wr v4 r
 rkr:wr.ownsRow (g+1) 3 1 v5 (ints rk).length (jae cInt (ints rk))
section
variable {w wr w':World} {p:Pt} {vs v4 v5:Value} {g:Nat} {rk:List Nat} {pl:List Int} {r:List (Int×Int)}
theorem jd8.later (h:jd8 w p vs g v5 rk wr v4 pl r) (hb:Below wr.heap.size wr w'):jd8 w p vs g v5 rk w' v4 pl r :=
 ⟨h.base,h.below.trans (hb.mono h.below.size),h.box.later hb h.box.lt,OwnK.later h.row hb,h.far,h.sl.below hb,ownsRow_later h.rkr hb⟩
theorem jd8.store (h:jd8 w p vs g v5 rk wr v4 pl r) {i:Nat} (hi:i < pl.length) (x:Int):jd8 w p vs g v5 rk (wr.setCell ⟨g,i,none⟩ (.int .i64 x)) v4 (pl.set i x) r :=
 ⟨h.base,h.below.setCell (by have:=h.base;show _≤g;omega) _,h.box.other _ _ (by have:=h.base;omega),h.row.set hi x,h.far,h.sl.other h.far (by omega) _,jal h.rkr fun q hq=>Below.heap_setCell _ _ _ _ (by show q≠g;omega)⟩
theorem jd8.take {v8:Value} {r8:List (Int×Int)} (h:jd8 w p vs g v5 rk wr v4 pl r) (hb:Below wr.heap.size wr w') (hF:Far wr.heap.size v8) (hs:Sl w' v8 r8):jd8 w p vs g v5 rk w' v8 pl r8 :=
 ⟨h.base,(h.later hb).below,(h.later hb).box,(h.later hb).row,hF.mono (OwnK.lt h.row),hs,(h.later hb).rkr⟩
theorem jd8.rkCell (h:jd8 w p vs g v5 rk wr v4 pl r) {k i:Nat} (hk:rk[k]?=some i) {x:Option Addr} {n cap:Nat} (hv:v5=.slice x n cap):∃ b,x=some ⟨b,0,none⟩∧n=rk.length∧wr.cell? ⟨b,k,none⟩=some (.int .i64 i):=by
 rcases h.rkr.2 with ⟨e,e2⟩|⟨b,cap',cur,e,h1,h2,h3⟩
 ·have:rk.length=0:=by rw [← jcb];exact e2
  have:=(List.getElem?_eq_some_iff.1 hk).1
  omega
 ·have hS:=jaz h.rkr
  rw [e] at hS hv
  obtain⟨a,c,he,_,h4⟩:=hS
  injection he with he1 he2 he3
  injection hv with hv1 hv2 hv3
  rcases h4 with h4|⟨b',o,ha,hr⟩
  ·have:rk.length=0:=by rw [← jcb,h4];rfl
   have:=(List.getElem?_eq_some_iff.1 hk).1
   omega
  ·rw [ha] at he1
   injection he1 with he1
   injection he1 with hb1 ho1
   subst hb1 ho1
   refine⟨b,hv1.symm,by rw [← hv2,jcb],?_⟩
   have:=hr.int (jdy hk)
   simpa using this
end
end Go.Proofs.YtcmdoeledmkfmacGreatDoor
