/- Texts of this claim, in one: PCome PObey PTell. -/
import Derived.Deep.RegionLaw
import Derived.Deep.RegionHeldLaw
import Derived.Test.YtcmdoeledmkfmacGreatDoorS9
import Derived.Test.YtcmdoeledmkfmacGreatDoorS4
set_option linter.unusedSimpArgs false
set_option linter.unusedVariables false
set_option maxHeartbeats 40000000
set_option maxRecDepth 100000
namespace Go.Proofs.YtcmdoeledmkfmacGreatDoor
open Go.RowKit
theorem jl5 {α:Type} {tS t:TypeId} {k bytes:Nat} {c:α→List Value} (T:TyOk tS t k bytes c) {w:World} {ops:Array Oper} {o:Oper} {a:Act} {K:Act→World→Prop} {Q:Exit→Act→World→Prop} {E:Prop} (hgd:o.guard=none) (x y:Operand)
  (ho:o.op=.call { callee:=.builtin .append,args:=#[x,y],argTypes:=#[tS,tS] }) (B:Nat) (v:Value) (m l:List α) (g off n cap:Nat)
  (hx:a.eval x=v) (hy:a.eval y=.slice (some ⟨g,off,none⟩) n cap) (hn:l.length=n) (hO:w.ownsRow B t k v m.length (jae c m)) (hr:RdK c w g off l) (hB:B≤w.heap.size) (hl:m.length+n≤maxLen) (hby:(m.length+n)*bytes≤140737488355328)
  (h:∀ v' w',Hid (w'.ownsRow B t k v' (m++l).length (jae c (m++l))∧Below B w w'∧∀ j,j < w.heap.size→some j≠v.ownBlock→w'.heap[j]?=w.heap[j]?)→K (a.put o.dst v') w'):if Region.wanted o (yielded ops a.tmps)=true then Oper.wp Tryz.prog o a w K Q else E:=by
 have hw:Region.wanted o (yielded ops a.tmps)=true:=by simp [Region.wanted,hgd]
 rw [if_pos hw]
 obtain⟨i0,z,hi,hz,hs,hb,hzs⟩:=T.info
 subst hn
 obtain⟨v',w',h0,h1,h2,h3⟩:=run_append_own w B tS o.type t i0 z k bytes T.und hi hz hs hb hzs T.pos v m.length (jae c m) hO ⟨g,off,none⟩ l.length cap (jae c l) (ja6 T.enc l) (fun j u hu=>by rw [Addr.add_lit];exact hr j u hu) (jcx T.enc l) hl hby hB
 unfold Oper.wp
 simp [execOp,ho,resolve,invoke,builtin,hx,hy,h0,Result.andThen]
 refine h v' w' ⟨?_,(Below.refl _ w).grown h2 hB (fun k hk=>(hO.lt k hk).1),fun j hj hne=>by obtain⟨_,_,_,_,h5⟩:=h2;exact h5 j hj hne⟩
 rw [jdc,List.length_append]
 exact h1
def jf1 (q:Pt) (a b c n er:Int) (q':Pt):Prop :=
 (¬ ((1≤a∧a≤16)∧(1≤b∧b≤300)∧(0≤c∧c≤3))∧er=2∧n=0∧q'=q) ∨
 (((1≤a∧a≤16)∧(1≤b∧b≤300)∧(0≤c∧c≤3))∧(14≤q.ships.length∨1048576≤q.next)∧er=5∧n=0∧q'=q) ∨
 (((1≤a∧a≤16)∧(1≤b∧b≤300)∧(0≤c∧c≤3))∧q.ships.length < 14∧q.next < 1048576∧er=0∧n=q.ships.length∧q'={ q with ships:=q.ships++[⟨1,a,b,c,0,q.next⟩],next:=q.next+1 })
def PQ (B:Nat) (w:World) (g:Nat) (q:Pt) (vs:Value):Prop:=PBox w g q vs∧w.ownsRow B 46 6 vs q.ships.length (jae cShip q.ships)∧B≤w.heap.size∧B≤g
theorem jcq {w:World} {g B n k:Nat} {q:Pt} {vs v x:Value} {xs:List Value} (X:PBox w g q vs) (h:w.ownsRow B 46 6 v n xs):(w.setCell ⟨g,k,none⟩ x).ownsRow B 46 6 v n xs:=by
 refine⟨h.1,?_⟩
 rcases h.2 with h0|⟨b,cap,cur,h0,h1,h2,h3⟩
 ·exact Or.inl h0
 ·refine Or.inr ⟨b,cap,cur,h0,h1,?_,h3⟩
  have hne:b≠g:=by
   rintro rfl
   have e:=h2.symm.trans X.2
   injection e with e
   injection e with _ e
   exact absurd e (by decide)
  rw [Below.heap_setCell _ _ _ _ (by show b≠g;exact hne)]
  exact h2
theorem jt3 (g B:Nat) (q:Pt) (vs:Value) (a b c:Int) (w:World) (H:PQ B w g q vs) (hg:vs.ownBlock≠some g) (hn:q.ships.length≤14) (hx0:0≤q.next) (hx1:q.next≤1048576) :
  Calls Tryz.prog 108 #[.pointer (some ⟨g,0,none⟩),.int .i64 a,.int .i64 b,.int .i64 c] w fun e w'=>∃ n er,e=.returned (.tuple #[.int .i64 n,.int .i64 er])∧Hid (∃ q' vs',jf1 q a b c n er q'∧PQ B w' g q' vs'∧Below B w w'):=by
 have HH:Hid (PQ B w g q vs):=H
 have B0:Hid (Below B w w):=Below.refl _ _
 rcases jbz a 1 16 with b1|b1
 case inr =>
  have D:Hid (∃ q' vs',jf1 q a b c 0 2 q'∧PQ B w g q' vs'∧Below B w w):=⟨q,vs,Or.inl ⟨fun h=>jb0 b1 h.1,rfl,rfl,rfl⟩,HH.out,B0.out⟩
  clear H
  go_enter Tryz.func108,Tryz.ntmps108
  go_wp2_with (first|(go_at_call 145;refine(jbm _ _).mono ?_;rintro e w' ⟨rfl,rfl⟩)|(go_at_call 146;refine(jbr _ _).mono ?_;rintro e w' ⟨rfl,rfl⟩)|(go_at_call 147;refine(jbs _ _).mono ?_;rintro e w' ⟨rfl,rfl⟩))
  go_ret2
  exact⟨_,_,rfl,D⟩
 rcases jbz b 1 300 with b2|b2
 case inr =>
  have D:Hid (∃ q' vs',jf1 q a b c 0 2 q'∧PQ B w g q' vs'∧Below B w w):=⟨q,vs,Or.inl ⟨fun h=>jb0 b2 h.2.1,rfl,rfl,rfl⟩,HH.out,B0.out⟩
  clear H
  go_enter Tryz.func108,Tryz.ntmps108
  go_wp2_with (first|(go_at_call 145;refine(jbm _ _).mono ?_;rintro e w' ⟨rfl,rfl⟩)|(go_at_call 146;refine(jbr _ _).mono ?_;rintro e w' ⟨rfl,rfl⟩)|(go_at_call 147;refine(jbs _ _).mono ?_;rintro e w' ⟨rfl,rfl⟩))
  go_ret2
  exact⟨_,_,rfl,D⟩
 rcases jbz c 0 3 with b3|b3
 case inr =>
  have D:Hid (∃ q' vs',jf1 q a b c 0 2 q'∧PQ B w g q' vs'∧Below B w w):=⟨q,vs,Or.inl ⟨fun h=>jb0 b3 h.2.2,rfl,rfl,rfl⟩,HH.out,B0.out⟩
  clear H
  go_enter Tryz.func108,Tryz.ntmps108
  go_wp2_with (first|(go_at_call 145;refine(jbm _ _).mono ?_;rintro e w' ⟨rfl,rfl⟩)|(go_at_call 146;refine(jbr _ _).mono ?_;rintro e w' ⟨rfl,rfl⟩)|(go_at_call 147;refine(jbs _ _).mono ?_;rintro e w' ⟨rfl,rfl⟩))
  go_ret2
  exact⟨_,_,rfl,D⟩
 have AR:Hid ((1≤a∧a≤16)∧(1≤b∧b≤300)∧(0≤c∧c≤3)):=⟨jba b1,jba b2,jba b3⟩
 obtain⟨xs,cap,rfl⟩:=jan H.2.1
 obtain⟨pc0,pc1,pc14,pc15⟩:=H.1.cells
 by_cases h5:14≤q.ships.length
 ·have h5':(14:Int)≤(q.ships.length:Int):=by omega
  have D:Hid (∃ q' vs',jf1 q a b c 0 5 q'∧PQ B w g q' vs'∧Below B w w):=⟨q,_,Or.inr (Or.inl ⟨AR.out,Or.inl h5,rfl,rfl,rfl⟩),HH.out,B0.out⟩
  clear H
  go_enter Tryz.func108,Tryz.ntmps108
  go_wp2_with (first|(go_at_call 145;refine(jbm _ _).mono ?_;rintro e w' ⟨rfl,rfl⟩)|(go_at_call 146;refine(jbr _ _).mono ?_;rintro e w' ⟨rfl,rfl⟩)|(go_at_call 147;refine(jbs _ _).mono ?_;rintro e w' ⟨rfl,rfl⟩))
  go_ret2
  exact⟨_,_,rfl,D⟩
 have h5':¬ (14:Int)≤(q.ships.length:Int):=by omega
 by_cases h6:1048576≤q.next
 ·have D:Hid (∃ q' vs',jf1 q a b c 0 5 q'∧PQ B w g q' vs'∧Below B w w):=⟨q,_,Or.inr (Or.inl ⟨AR.out,Or.inr h6,rfl,rfl,rfl⟩),HH.out,B0.out⟩
  clear H
  go_enter Tryz.func108,Tryz.ntmps108
  go_wp2_with (first|(go_at_call 145;refine(jbm _ _).mono ?_;rintro e w' ⟨rfl,rfl⟩)|(go_at_call 146;refine(jbr _ _).mono ?_;rintro e w' ⟨rfl,rfl⟩)|(go_at_call 147;refine(jbs _ _).mono ?_;rintro e w' ⟨rfl,rfl⟩))
  go_ret2
  exact⟨_,_,rfl,D⟩
 have hbw:Below w.heap.size w (w.alloc (.cells #[.int .i64 1,.int .i64 a,.int .i64 b,.int .i64 c,.int .i64 0,.int .i64 q.next] 46)):=(Below.refl _ w).alloc (Nat.le_refl _) _
 have X1:Hid (PBox (w.alloc (.cells #[.int .i64 1,.int .i64 a,.int .i64 b,.int .i64 c,.int .i64 0,.int .i64 q.next] 46)) g q (.slice xs q.ships.length cap)):=H.1.later hbw H.1.lt
 have O1:Hid ((w.alloc (.cells #[.int .i64 1,.int .i64 a,.int .i64 b,.int .i64 c,.int .i64 0,.int .i64 q.next] 46)).ownsRow B 46 6 (.slice xs q.ships.length cap) q.ships.length (jae cShip q.ships)):=H.2.1.alloc _
 have N1:Hid (SBox (w.alloc (.cells #[.int .i64 1,.int .i64 a,.int .i64 b,.int .i64 c,.int .i64 0,.int .i64 q.next] 46)) w.heap.size ⟨1,a,b,c,0,q.next⟩):=SBox.new w ⟨1,a,b,c,0,q.next⟩
 have S1:Hid (Below B w (w.alloc (.cells #[.int .i64 1,.int .i64 a,.int .i64 b,.int .i64 c,.int .i64 0,.int .i64 q.next] 46))∧B≤(w.alloc (.cells #[.int .i64 1,.int .i64 a,.int .i64 b,.int .i64 c,.int .i64 0,.int .i64 q.next] 46)).heap.size∧B≤g∧g < w.heap.size):=⟨hbw.mono H.2.2.1,by have:=hbw.size;have:=H.2.2.1;omega,H.2.2.2,H.1.lt⟩
 clear H hbw
 go_enter Tryz.func108,Tryz.ntmps108
 go_upto_region 6 with (first|(go_at_call 145;refine(jbm _ _).mono ?_;rintro e w' ⟨rfl,rfl⟩)|(go_at_call 146;refine(jbr _ _).mono ?_;rintro e w' ⟨rfl,rfl⟩)|(go_at_call 147;refine(jbs _ _).mono ?_;rintro e w' ⟨rfl,rfl⟩))
 clear pc0 pc1 pc14 pc15
 generalize hWBe:w'.alloc (.cells #[.int .i64 1,.int .i64 a,.int .i64 b,.int .i64 c,.int .i64 0,.int .i64 q.next] 46)=WB at *
 have hgW:g < WB.heap.size:=X1.out.lt
 have O2:Hid ((WB.alloc (.cells #[.int .i64 1,.int .i64 a,.int .i64 b,.int .i64 c,.int .i64 0,.int .i64 q.next] 46)).drew.ownsRow B 46 6 (.slice xs q.ships.length cap) q.ships.length (jae cShip q.ships)):=(O1.out.alloc _).drew
 have R2:Hid (RdK cShip (WB.alloc (.cells #[.int .i64 1,.int .i64 a,.int .i64 b,.int .i64 c,.int .i64 0,.int .i64 q.next] 46)).drew WB.heap.size 0 [⟨1,a,b,c,0,q.next⟩]):=(jfe (k:=6) (c:=cShip) WB 46 (⟨1,a,b,c,0,q.next⟩:Ship) _ rfl).below ((Below.refl _ _).drew)
 have Z2:Hid (B≤(WB.alloc (.cells #[.int .i64 1,.int .i64 a,.int .i64 b,.int .i64 c,.int .i64 0,.int .i64 q.next] 46)).drew.heap.size∧g < (WB.alloc (.cells #[.int .i64 1,.int .i64 a,.int .i64 b,.int .i64 c,.int .i64 0,.int .i64 q.next] 46)).drew.heap.size∧q.ships.length+1≤maxLen∧(q.ships.length+1)*48≤140737488355328):=by
  have e:(WB.alloc (.cells #[.int .i64 1,.int .i64 a,.int .i64 b,.int .i64 c,.int .i64 0,.int .i64 q.next] 46)).drew.heap.size=WB.heap.size+1:=by show(WB.alloc (.cells #[.int .i64 1,.int .i64 a,.int .i64 b,.int .i64 c,.int .i64 0,.int .i64 q.next] 46)).heap.size=_;simp
  exact⟨by rw [e];have:=S1.out.2.1;omega,by rw [e];omega,by unfold maxLen;omega,by omega⟩
 have X2:Hid (PBox (WB.alloc (.cells #[.int .i64 1,.int .i64 a,.int .i64 b,.int .i64 c,.int .i64 0,.int .i64 q.next] 46)).drew g q (.slice xs q.ships.length cap)):=X1.out.later (((Below.refl _ WB).alloc (Nat.le_refl _) _).drew) X1.out.lt
 have S2:Hid (Below B w' (WB.alloc (.cells #[.int .i64 1,.int .i64 a,.int .i64 b,.int .i64 c,.int .i64 0,.int .i64 q.next] 46)).drew):=(S1.out.1.alloc S1.out.2.1 _).drew
 obtain⟨k0,k1,k2,k3,k4,k5⟩:=N1.out.cells
 simp only at k0 k1 k2 k3 k4 k5
 have pc1:=X1.out.cells.2.1
 have pc1b:=X2.out.cells.2.1
 have hgB:Hid (B≤w'.heap.size):=by have:=S1.out.2.2.1;have:=S1.out.2.2.2;show _≤_;omega
 have hl:(q.ships++[(⟨1,a,b,c,0,q.next⟩:Ship)]).length=q.ships.length+1:=by simp
 go_cut [52] (fun s52 wc=>Hid (∃ vs',PQ B wc g { q with ships:=q.ships++[⟨1,a,b,c,0,q.next⟩] } vs'∧Below B w' wc))
 case first =>
  go_region_law (refine jl5 jrb rfl (.tmp 49) (.tmp 51) rfl B (.slice xs q.ships.length cap) q.ships [⟨1,a,b,c,0,q.next⟩] WB.heap.size 0 1 1 (by simp [Act.eval,Act.put]) (by simp [Act.eval,Act.put]) rfl O2.out R2.out Z2.out.1 Z2.out.2.2.1 Z2.out.2.2.2 ?_;intro v7 w7 hw7;have X7:Hid (PBox w7 g q (.slice xs q.ships.length cap)):=⟨X2.out.1,(hw7.out.2.2 g Z2.out.2.1 (fun e=>hg e.symm)).trans X2.out.2⟩;have c7:=X7.out.cells.2.1;have f7:=X7.out.frozen 1;obtain⟨x7,cp7,hv7⟩:=jan hw7.out.1;rw [hl] at hv7;subst hv7)
  all_goals go_wp2_with fail
  all_goals go_meet
  all_goals
   have hB:=S1.out.2.2.1
   have S7:Below B w' w7:=S2.out.trans hw7.out.2.1
   refine⟨_,⟨X7.out.setShips _ _,jcq X7.out hw7.out.1,?_,hB⟩,S7.setCell hB _⟩
   have h1:=(S7.setCell (p:=⟨g,1,none⟩) hB (.slice x7 (q.ships.length+1) cp7)).size
   have h2:=S1.out.2.2.2
   have h3:=hgB.out
   exact Nat.le_trans h3 h1
 case rest =>
  obtain⟨vs',hP,hBw⟩:=hcut.out
  obtain⟨x7,cp7,hv7⟩:=jan hP.2.1
  simp only at hv7
  rw [hl] at hv7
  subst hv7
  obtain⟨pc0,pc1,pc14,pc15⟩:=hP.1.cells
  have f15:=hP.1.frozen 15
  simp only at pc15 pc1
  have D:Hid (∃ q' vs',jf1 q a b c q.ships.length 0 q'∧PQ B (wc.setCell ⟨g,15,none⟩ (.int .i64 (q.next+1))) g q' vs'∧Below B w' (wc.setCell ⟨g,15,none⟩ (.int .i64 (q.next+1)))):=by
   refine⟨_,_,Or.inr (Or.inr ⟨AR.out,by omega,by omega,rfl,rfl,rfl⟩),⟨hP.1.setNext (q.next+1),jcq hP.1 hP.2.1,?_,hP.2.2.2⟩,hBw.setCell hP.2.2.2 _⟩
   exact Nat.le_trans hP.2.2.1 ((Below.refl B wc).setCell (p:=⟨g,15,none⟩) hP.2.2.2 (.int .i64 (q.next+1))).size
  have c1b:=(hP.1.setNext (q.next+1)).cells.2.1
  clear hP hBw hcut
  go_wp2_with fail
  go_ret2
  obtain⟨q',vs',d1,d2,d3⟩:=D.out
  first|exact⟨_,_,rfl,⟨q',vs',d1,d2,d3⟩⟩|exact⟨_,_,rfl,⟨q',d1,⟨vs',d2⟩,d3⟩⟩
def cOrd (o:Ord):List Value:=[.int .i64 o.kd,.int .i64 o.a,.int .i64 o.b,.int .i64 o.c]
theorem PQ.later {B g:Nat} {w w':World} {q:Pt} {vs:Value} (h:PQ B w g q vs) (hb:Below w.heap.size w w'):PQ B w' g q vs:=by
 refine⟨h.1.later hb h.1.lt,⟨h.2.1.1,?_⟩,Nat.le_trans h.2.2.1 hb.size,h.2.2.2⟩
 rcases h.2.1.2 with h0|⟨b,cap,cur,h0,h1,h2,h3⟩
 ·exact Or.inl h0
 ·exact Or.inr ⟨b,cap,cur,h0,h1,by rw [hb.block b (Array.getElem?_eq_some_iff.1 h2).1];exact h2,h3⟩
theorem jmv (g B:Nat) (q:Pt) (vs:Value) (a b c:Int) (w:World) (H:PQ B w g q vs) (hg:vs.ownBlock≠some g) (hn:q.ships.length≤14) (hx0:0≤q.next) (hx1:q.next≤1048576) :
  Calls Tryz.prog 87 #[.pointer (some ⟨g,0,none⟩),.agg #[.int .i64 1,.int .i64 a,.int .i64 b,.int .i64 c]] w fun e w'=>∃ n er,e=.returned (.tuple #[.int .i64 n,.int .i64 er])∧Hid (∃ q' vs',jf1 q a b c n er q'∧PQ B w' g q' vs'∧Below B w w'):=by
 have hbw:Below w.heap.size w (w.alloc (.cells #[.int .i64 1,.int .i64 a,.int .i64 b,.int .i64 c] 61)):=(Below.refl _ w).alloc (Nat.le_refl _) _
 have HC:=jt3 g B q vs a b c (w.alloc (.cells #[.int .i64 1,.int .i64 a,.int .i64 b,.int .i64 c] 61)) (H.later hbw) hg hn hx0 hx1
 have HB:Hid (Below B w (w.alloc (.cells #[.int .i64 1,.int .i64 a,.int .i64 b,.int .i64 c] 61))):=hbw.mono H.2.2.1
 clear H hbw
 go_enter Tryz.func87,Tryz.ntmps87
 go_wp2_with fail
 refine HC.mono ?_
 rintro e w1 ⟨n,er,rfl,hw1⟩
 obtain⟨q',vs',d1,d2,d3⟩:=hw1.out
 have D:Hid (jf1 q a b c n er q'∧PQ B w1 g q' vs'∧Below B w w1):=⟨d1,d2,HB.out.trans d3⟩
 clear HC d1 d2 d3 hw1
 go_wp2_with fail
 go_ret2
 first|exact⟨_,_,rfl,⟨q',vs',D.out.1,D.out.2.1,D.out.2.2⟩⟩|exact⟨_,_,rfl,⟨q',D.out.1,⟨vs',D.out.2.1⟩,D.out.2.2⟩⟩
theorem js6 (g B:Nat) (q:Pt) (vs:Value) (n:Int) (w:World) (H:PQ B w g q vs) :
  Calls Tryz.prog 112 #[.pointer (some ⟨g,0,none⟩),.int .i64 n] w fun e w'=>∃ er,e=.returned (.int .i64 er)∧Hid (((0≤n∧n≤16)∧er=0∧PQ B w' g { q with shut:=n } vs∨¬ (0≤n∧n≤16)∧er=2∧PQ B w' g q vs)∧Below B w w'):=by
 have B0:Hid (Below B w w):=Below.refl _ _
 have HH:Hid (PQ B w g q vs):=H
 rcases jbz n 0 16 with b1|b1
 ·have c14:=H.1.cells.2.2.1
  have f14:=H.1.frozen 14
  have D:Hid (PQ B (w.setCell ⟨g,14,none⟩ (.int .i64 n)) g { q with shut:=n } vs∧Below B w (w.setCell ⟨g,14,none⟩ (.int .i64 n))):=⟨⟨H.1.setShut n,jcq H.1 H.2.1,Nat.le_trans H.2.2.1 ((Below.refl B w).setCell (p:=⟨g,14,none⟩) H.2.2.2 (.int .i64 n)).size,H.2.2.2⟩,(Below.refl B w).setCell H.2.2.2 _⟩
  have Y:Hid (0≤n∧n≤16):=jba b1
  clear H
  go_enter Tryz.func112,Tryz.ntmps112
  go_wp2_with (first|(go_at_call 107;refine(jb5 _ _ _ _).mono ?_;rintro e w' ⟨rfl,rfl⟩))
  go_ret
  exact⟨_,rfl,⟨Or.inl ⟨Y.out,rfl,D.out.1⟩,D.out.2⟩⟩
 ·have NO:Hid (¬ (0≤n∧n≤16)):=jb0 b1
  clear H
  go_enter Tryz.func112,Tryz.ntmps112
  go_wp2_with (first|(go_at_call 107;refine(jb5 _ _ _ _).mono ?_;rintro e w' ⟨rfl,rfl⟩))
  go_ret
  exact⟨_,rfl,⟨Or.inr ⟨NO.out,rfl,HH.out⟩,B0.out⟩⟩
def ja0 (R:Int→Int→Pt→Prop) (p:Pt) (n er:Int) (q:Pt):Prop :=
 (¬ jaj p∧n=0∧er=1∧q=p)∨(jaj p∧∃ n0 e0 q0,R n0 e0 q0∧((e0≠0∧n=0∧er=e0∧q=p)∨(e0=0∧¬ jaj q0∧n=0∧er=6∧q=p)∨(e0=0∧jaj q0∧n=n0∧er=0∧q=q0)))
def jp0 (w:World) (T:Int→Int→Pt→Prop) (e:Ending) (w':World):Prop :=
 ∃ (q:Pt) (vs:Value) (n er:Int),e=.returned (.tuple #[.agg (jaa q vs).toArray,.int .i64 n,.int .i64 er])∧T n er q∧q.kept.length=4∧q.ships.length≤2932031007317∧w'.ownsRow w.heap.size 46 6 vs q.ships.length (jae cShip q.ships)∧Below w.heap.size w w'
theorem jad {fn:Func} {q u x:Tmp} (h:fn.results=#[.cell q 41,.tmp u,.tmp x]) (tmps:Array Value) (w:World) (g:Nat) (p:Pt) (vs:Value) (hp:tmps.getD q undef=.pointer (some ⟨g,0,none⟩)) (hA:PBox w g p vs) :
  (results fn tmps).run Tryz.prog w=.ok (.tuple #[.agg (jaa p vs).toArray,tmps.getD u undef,tmps.getD x undef]) w:=by
 have hl:=run_loadVar_mid (P:=Tryz.prog) w g 0 41 (jaa p vs) _ hA.whole Tryz.underlying41 rfl (jbg p vs hA.1)
 have hp':tmps[q]?.getD undef=.pointer (some ⟨g,0,none⟩):=by simpa using hp
 simp only [results,h]
 simp [Sem.run_bind,Result.andThen,hp',asAddr,hl,List.mapM_cons,List.mapM_nil]
def OBox (w:World) (g:Nat) (o:Ord):Prop:=w.heap[g]?=some (.cells #[.int .i64 o.kd,.int .i64 o.a,.int .i64 o.b,.int .i64 o.c] 61)
theorem OBox.cells {w:World} {g:Nat} {o:Ord} (h:OBox w g o) :
  w.cell? ⟨g,0,none⟩=some (.int .i64 o.kd)∧w.cell? ⟨g,1,none⟩=some (.int .i64 o.a)∧w.cell? ⟨g,2,none⟩=some (.int .i64 o.b)∧w.cell? ⟨g,3,none⟩=some (.int .i64 o.c):=by
 have e:∀ i u,(cOrd o)[i]?=some u→w.cell? ⟨g,i,none⟩=some u:=fun i u hu=>by rw [cell_of_row _ _ _ _ _ _ h];simpa [cOrd] using hu
 exact⟨e 0 _ rfl,e 1 _ rfl,e 2 _ rfl,e 3 _ rfl⟩
theorem OBox.new (w:World) (o:Ord):OBox (w.alloc (.cells #[.int .i64 o.kd,.int .i64 o.a,.int .i64 o.b,.int .i64 o.c] 61)) w.heap.size o:=heap_alloc_new w _
theorem OBox.lt {w:World} {g:Nat} {o:Ord} (h:OBox w g o):g < w.heap.size:=(Array.getElem?_eq_some_iff.1 h).1
theorem OBox.later {w w':World} {B g:Nat} {o:Ord} (h:OBox w g o) (hb:Below B w w') (hB:g < B):OBox w' g o:=by unfold OBox;rw [hb.block g hB];exact h
structure TEnv (w:World) (p:Pt) (vs:Value) (o:Ord) (W:World):Prop where
 below:Below w.heap.size w W
 box:PBox W w.heap.size p vs
 ord:OBox W (w.heap.size+1) o
 out:PBox W (w.heap.size+1+1) jaf (.slice none 0 0)
theorem TEnv.lt {w W:World} {p:Pt} {vs:Value} {o:Ord} (h:TEnv w p vs o W):w.heap.size+1+1 < W.heap.size:=h.out.lt
theorem TEnv.later {w W W':World} {p:Pt} {vs:Value} {o:Ord} {B:Nat} (h:TEnv w p vs o W) (hb:Below B W W') (hB:w.heap.size+1+1 < B):TEnv w p vs o W' :=
 ⟨h.below.trans (hb.mono (by omega)),h.box.later hb (by omega),h.ord.later hb (by omega),h.out.later hb hB⟩
theorem ownsRow_later {w w':World} {B:Nat} {e:TypeId} {size:Nat} {v:Value} {n:Nat} {xs:List Value} (h:w.ownsRow B e size v n xs) (hb:Below w.heap.size w w'):w'.ownsRow B e size v n xs:=by
 refine⟨h.1,?_⟩
 rcases h.2 with h0|⟨b,cap,cur,h0,h1,h2,h3⟩
 ·exact Or.inl h0
 ·exact Or.inr ⟨b,cap,cur,h0,h1,by rw [hb.block b (Array.getElem?_eq_some_iff.1 h2).1];exact h2,h3⟩
structure TEnv2 (w:World) (p:Pt) (vs:Value) (o:Ord) (B g:Nat) (q:Pt) (vq:Value) (W:World):Prop where
 env:TEnv w p vs o W
 q:PQ B W g q vq
 lt:w.heap.size+1+1 < B
theorem TEnv2.later {w W W':World} {p q:Pt} {vs vq:Value} {o:Ord} {B g:Nat} (h:TEnv2 w p vs o B g q vq W) (hb:Below W.heap.size W W'):TEnv2 w p vs o B g q vq W' :=
 ⟨h.env.later hb h.env.lt,h.q.later hb,h.lt⟩
theorem js0 (v:Value) (p:Pt) (o:Ord) (R:Int→Int→Pt→Prop) (w:World) (hv:PtV w v p) (hq:WfQ p)
  (hR:jaj p→∀ n e q,R n e q→WfQ q∧q.ships.length≤100)
  (hO:jaj p→∀ g B vs W,PQ B W g p vs→vs.ownBlock≠some g→Calls Tryz.prog 87 #[.pointer (some ⟨g,0,none⟩),.agg #[.int .i64 o.kd,.int .i64 o.a,.int .i64 o.b,.int .i64 o.c]] W fun e w'=>∃ n er,e=.returned (.tuple #[.int .i64 n,.int .i64 er])∧Hid (∃ q' vs',R n er q'∧PQ B w' g q' vs'∧Below B W w')) :
  Calls Tryz.prog 66 #[v,.agg #[.int .i64 o.kd,.int .i64 o.a,.int .i64 o.b,.int .i64 o.c]] w fun e w'=>jp0 w (ja0 R p) e w':=by
 obtain⟨vs,rfl,hsl,h4,hmx⟩:=hv
 have HV:Hid (PtV w (.agg (jaa p vs).toArray) p):=⟨vs,rfl,hsl,h4,hmx⟩
 have X0:Hid (PBox (w.alloc (.cells (jaa p vs).toArray 41)) w.heap.size p vs):=PBox.new w p _ h4
 have B0:Hid (Below w.heap.size w (w.alloc (.cells (jaa p vs).toArray 41))):=(Below.refl _ w).alloc (Nat.le_refl _) _
 have X1:Hid (PBox ((w.alloc (.cells (jaa p vs).toArray 41)).alloc (.cells #[.int .i64 o.kd,.int .i64 o.a,.int .i64 o.b,.int .i64 o.c] 61)) w.heap.size p vs):=X0.out.later ((Below.refl _ _).alloc (Nat.le_refl _) _) X0.out.lt
 have B1:Hid (Below w.heap.size w ((w.alloc (.cells (jaa p vs).toArray 41)).alloc (.cells #[.int .i64 o.kd,.int .i64 o.a,.int .i64 o.b,.int .i64 o.c] 61))):=B0.out.alloc B0.out.size _
 have Z1:Hid (((w.alloc (.cells (jaa p vs).toArray 41)).alloc (.cells #[.int .i64 o.kd,.int .i64 o.a,.int .i64 o.b,.int .i64 o.c] 61)).heap.size=w.heap.size+1+1):=by show _=_;simp
 have O1:Hid (OBox ((w.alloc (.cells (jaa p vs).toArray 41)).alloc (.cells #[.int .i64 o.kd,.int .i64 o.a,.int .i64 o.b,.int .i64 o.c] 61)) (w.heap.size+1) o):=by
  have h:=OBox.new (w.alloc (.cells (jaa p vs).toArray 41)) o
  have e:(w.alloc (.cells (jaa p vs).toArray 41)).heap.size=w.heap.size+1:=by simp
  rw [e] at h;exact h
 have HG:=fun W h=>jdo (.agg (jaa p vs).toArray) p W h hq
 have HW:=fun W h=>joc (.agg (jaa p vs).toArray) p W h
 have HR:Hid (jaj p→∀ n e q,R n e q→WfQ q∧q.ships.length≤100):=hR
 clear hsl hq X0 B0 hR
 generalize hPC:(jaa p vs).toArray=PC at *
 have HPC:Hid ((jaa p vs).toArray=PC):=hPC
 clear hPC
 go_enter Tryz.func66,Tryz.ntmps66
 go_upto_region 1 with (first|(refine jah rfl rfl 4 rfl ?_;intro w1 hw1 hs1))
 rw [Z1.out] at hw1 hs1
 have T1:Hid (TEnv w p vs o w1):=⟨B1.out.trans (hw1.out.2.mono (by omega)),X1.out.later hw1.out.2 (by omega),O1.out.later hw1.out.2 (by omega),hw1.out.1⟩
 clear hw1 X1 B1 Z1 O1 hs1
 go_wp2_with (refine jac rfl _ rfl w.heap.size p vs rfl T1.out.box ?_;rw [HPC.out])
 refine(HG _ (HV.out.below T1.out.below)).mono ?_
 rintro e w2 ⟨⟨b,rfl,hb⟩,hw2⟩
 have T2:Hid (TEnv w p vs o w2):=T1.out.later hw2 T1.out.lt
 have HB:Hid (b=true↔jaj p):=hb
 clear hw2 T1 hb
 cases b
 ·have NO:Hid (¬ jaj p):=fun h=>by have:=HB.out.2 h;cases this
  clear HB hO HR
  go_wp2_with (refine jac rfl _ rfl w.heap.size p vs rfl T2.out.box ?_;rw [HPC.out])
  refine(HW _ (HV.out.below T2.out.below)).mono ?_
  rintro e w3 ⟨vn,rfl,hw3⟩
  have T3:Hid (TEnv w p vs o w3∧w3.ownsRow w2.heap.size 46 6 vn p.ships.length (jae cShip p.ships)∧w.heap.size+1+1 < w2.heap.size):=⟨T2.out.later hw3.out.2 T2.out.lt,hw3.out.1,T2.out.lt⟩
  have on:=jam T3.out.2.1
  clear T2 hw3 HG HW
  go_wp2_with (refine jab rfl _ _ rfl (w.heap.size+1+1) jaf p (.slice none 0 0) vn rfl rfl T3.out.1.out h4 on ?_;intro w9 hw9 hs9)
  refine bodyPost_ret (v:=.tuple #[.agg (jaa p vn).toArray,.int .i64 0,.int .i64 1]) (jad Tryz.results66 _ _ (w.heap.size+1+1) p vn rfl hw9.out.1) rfl ?_
  exact⟨p,vn,0,1,rfl,Or.inl ⟨NO.out,rfl,rfl,rfl⟩,h4,hmx,jar (jal T3.out.2.1 (fun g hg=>hw9.out.2.1 g (by have:=T3.out.2.2;omega))) (by have:=T3.out.2.2;omega),T3.out.1.below.trans (hw9.out.2.2 _ (by omega))⟩
 ·have YES:Hid (jaj p):=HB.out.1 rfl
  have HO:=hO YES.out
  clear hO HB
  go_wp2_with (refine jac rfl _ rfl w.heap.size p vs rfl T2.out.box ?_;rw [HPC.out])
  refine(HW _ (HV.out.below T2.out.below)).mono ?_
  rintro e w3 ⟨vn,rfl,hw3⟩
  have T3:Hid (TEnv w p vs o w3∧w3.ownsRow w2.heap.size 46 6 vn p.ships.length (jae cShip p.ships)∧w.heap.size+1+1 < w2.heap.size∧w2.heap.size≤w3.heap.size):=⟨T2.out.later hw3.out.2 T2.out.lt,hw3.out.1,T2.out.lt,hw3.out.2.size⟩
  have on:=jam T3.out.2.1
  clear T2 hw3
  go_upto_region 4 with (first|(refine jah rfl rfl 7 rfl ?_;intro w4 hw4 hs4)|(refine jab rfl _ _ rfl w3.heap.size jaf p (.slice none 0 0) vn rfl rfl hw4.out.1 h4 on ?_;intro w5 hw5 hs5))
  have T5:Hid (TEnv2 w p vs o w2.heap.size w3.heap.size p vn w5):=by
   have hb5:Below w3.heap.size w3 w5:=hw4.out.2.trans (hw5.out.2.2 _ (Nat.le_refl _))
   refine⟨T3.out.1.later hb5 T3.out.1.lt,⟨hw5.out.1,ownsRow_later T3.out.2.1 hb5,?_,T3.out.2.2.2⟩,T3.out.2.2.1⟩
   have:=T3.out.2.2.2
   omega
  have hne:vn.ownBlock≠some w3.heap.size:=fun h=>by have:=(T3.out.2.1.lt _ h).2;omega
  obtain⟨oc0,oc1,oc2,oc3⟩:=T5.out.env.ord.cells
  generalize w3.heap.size=g7 at *
  have HOB:=HO g7 w2.heap.size vn w5 T5.out.q hne
  clear HO T3 hw4 hw5 hs4 hs5 hne on
  generalize w2.heap.size=B at *
  go_wp2_with fail
  refine HOB.mono ?_
  rintro e w6 ⟨n,er,rfl,hw6⟩
  obtain⟨q,vq,hRq,hPQ,hb6⟩:=hw6.out
  have T6:Hid (TEnv2 w p vs o B g7 q vq w6):=⟨T5.out.env.later hb6 T5.out.lt,hPQ,T5.out.lt⟩
  have RQ:Hid (R n er q):=hRq
  clear T5 hw6 hRq hPQ hb6 HOB oc0 oc1 oc2 oc3
  by_cases he:er=0
  ·subst he
   have HQ:=HR.out YES.out n 0 q RQ.out
   have VQ:Hid (PtV w6 (.agg (jaa q vq).toArray) q):=⟨vq,rfl,jaz T6.out.q.2.1,T6.out.q.1.1,by have:=HQ.2;omega⟩
   have HL:Hid (q.ships.length≤100∧q.kept.length=4):=⟨HQ.2,T6.out.q.1.1⟩
   by_cases hI:jaj q
   ·have HG2:∀ W,PtV W (.agg (jaa q vq).toArray) q→Calls Tryz.prog 83 #[.agg (jaa q vq).toArray] W fun e w'=>e=.returned (.bool true)∧Below W.heap.size W w':=fun W h=>(jdo (.agg (jaa q vq).toArray) q W h HQ.1).mono (by
     rintro e w' ⟨⟨b,rfl,hb⟩,hw⟩
     exact⟨by rw [hb.2 hI],hw⟩)
    have HI:Hid (jaj q):=hI
    clear HQ HG hI
    generalize hQC:(jaa q vq).toArray=QC at *
    have HQC:Hid ((jaa q vq).toArray=QC):=hQC
    clear hQC
    go_wp2_with (first|(refine jde (by first|rfl|(simp [Region.wanted,yielded];done)) _ rfl g7 q vq rfl T6.out.q.1 ?_;rw [HQC.out])|(go_at_call 83;refine(HG2 _ VQ.out).mono ?_;rintro e w7 ⟨rfl,hw7⟩;have T7:Hid (TEnv2 w p vs o B g7 q vq w7):=T6.out.later hw7;have on7:=jam T7.out.q.2.1;clear hw7)|(refine jac rfl _ rfl g7 q vq rfl T7.out.q.1 ?_)|(refine jab rfl _ _ rfl (w.heap.size+1+1) jaf q (.slice none 0 0) vq rfl rfl T7.out.env.out HL.out.2 on7 ?_;intro w9 hw9 hs9))
    refine bodyPost_ret (v:=.tuple #[.agg (jaa q vq).toArray,.int .i64 n,.int .i64 0]) (jad Tryz.results66 _ _ (w.heap.size+1+1) q vq rfl hw9.out.1) rfl ?_
    exact⟨q,vq,n,0,rfl,Or.inr ⟨YES.out,n,0,q,RQ.out,Or.inr (Or.inr ⟨rfl,HI.out,rfl,rfl,rfl⟩)⟩,HL.out.2,(by have:=HL.out.1;omega),jar (jal T7.out.q.2.1 (fun g hg=>hw9.out.2.1 g (by have:=T7.out.lt;omega))) (by have:=T7.out.lt;omega),T7.out.env.below.trans (hw9.out.2.2 _ (by omega))⟩
   ·have HG2:∀ W,PtV W (.agg (jaa q vq).toArray) q→Calls Tryz.prog 83 #[.agg (jaa q vq).toArray] W fun e w'=>e=.returned (.bool false)∧Below W.heap.size W w':=fun W h=>(jdo (.agg (jaa q vq).toArray) q W h HQ.1).mono (by
     rintro e w' ⟨⟨b,rfl,hb⟩,hw⟩
     cases b
     ·exact⟨rfl,hw⟩
     ·exact absurd (hb.1 rfl) hI)
    have HI:Hid (¬ jaj q):=hI
    clear HQ HG hI
    generalize hQC:(jaa q vq).toArray=QC at *
    have HQC:Hid ((jaa q vq).toArray=QC):=hQC
    clear hQC
    go_wp2_with (first|(refine jde (by first|rfl|(simp [Region.wanted,yielded];done)) _ rfl g7 q vq rfl T6.out.q.1 ?_;rw [HQC.out])|(go_at_call 83;refine(HG2 _ VQ.out).mono ?_;rintro e w7 ⟨rfl,hw7⟩;have T7:Hid (TEnv2 w p vs o B g7 q vq w7):=T6.out.later hw7;clear hw7)|(refine jac rfl _ rfl w.heap.size p vs rfl T7.out.env.box ?_;rw [HPC.out]))
    refine(HW _ (HV.out.below T7.out.env.below)).mono ?_
    rintro e w8 ⟨vn,rfl,hw8⟩
    have T8:Hid (TEnv w p vs o w8∧w8.ownsRow w7.heap.size 46 6 vn p.ships.length (jae cShip p.ships)∧w.heap.size+1+1 < w7.heap.size):=⟨T7.out.env.later hw8.out.2 T7.out.env.lt,hw8.out.1,T7.out.env.lt⟩
    have on:=jam T8.out.2.1
    clear T7 hw8 HW T6
    go_wp2_with (refine jab rfl _ _ rfl (w.heap.size+1+1) jaf p (.slice none 0 0) vn rfl rfl T8.out.1.out h4 on ?_;intro w9 hw9 hs9)
    refine bodyPost_ret (v:=.tuple #[.agg (jaa p vn).toArray,.int .i64 0,.int .i64 6]) (jad Tryz.results66 _ _ (w.heap.size+1+1) p vn rfl hw9.out.1) rfl ?_
    exact⟨p,vn,0,6,rfl,Or.inr ⟨YES.out,n,0,q,RQ.out,Or.inr (Or.inl ⟨rfl,HI.out,rfl,rfl,rfl⟩)⟩,h4,hmx,jar (jal T8.out.2.1 (fun g hg=>hw9.out.2.1 g (by have:=T8.out.2.2;omega))) (by have:=T8.out.2.2;omega),T8.out.1.below.trans (hw9.out.2.2 _ (by omega))⟩
  ·have hen:(er != 0)=true:=by simp [he]
   have hef:(er == 0)=false:=by simp [he]
   have HE:Hid (er≠0):=he
   clear he HR HG
   go_wp2_with (refine jac rfl _ rfl w.heap.size p vs rfl T6.out.env.box ?_;rw [HPC.out])
   refine(HW _ (HV.out.below T6.out.env.below)).mono ?_
   rintro e w8 ⟨vn,rfl,hw8⟩
   have T8:Hid (TEnv w p vs o w8∧w8.ownsRow w6.heap.size 46 6 vn p.ships.length (jae cShip p.ships)∧w.heap.size+1+1 < w6.heap.size):=⟨T6.out.env.later hw8.out.2 T6.out.env.lt,hw8.out.1,T6.out.env.lt⟩
   have on:=jam T8.out.2.1
   clear T6 hw8 HW
   go_wp2_with (refine jab rfl _ _ rfl (w.heap.size+1+1) jaf p (.slice none 0 0) vn rfl rfl T8.out.1.out h4 on ?_;intro w9 hw9 hs9)
   refine bodyPost_ret (v:=.tuple #[.agg (jaa p vn).toArray,.int .i64 0,.int .i64 er]) (jad Tryz.results66 _ _ (w.heap.size+1+1) p vn rfl hw9.out.1) rfl ?_
   exact⟨p,vn,0,er,rfl,Or.inr ⟨YES.out,n,er,q,RQ.out,Or.inl ⟨HE.out,rfl,rfl,rfl⟩⟩,h4,hmx,jar (jal T8.out.2.1 (fun g hg=>hw9.out.2.1 g (by have:=T8.out.2.2;omega))) (by have:=T8.out.2.2;omega),T8.out.1.below.trans (hw9.out.2.2 _ (by omega))⟩
end Go.Proofs.YtcmdoeledmkfmacGreatDoor
