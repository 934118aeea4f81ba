/- Texts of this claim, in one: RefShip RefBase RefPort RefSame. -/
import Derived.Deep.DeepCutAuto
import Derived.ChangeKeysEq
import Derived.Test.YtcmdoeledmkfmacGreatDoorS3
import Derived.Test.YtcmdoeledmkfmacGreatDoorSA
set_option linter.unusedSimpArgs false
set_option linter.unusedVariables false
set_option maxHeartbeats 40000000
set_option maxRecDepth 100000
namespace Go.Proofs.YtcmdoeledmkfmacGreatDoor
open Go.RowKit
theorem jjc {n lo hi:Int} (h:inR n lo hi=true):lo≤n∧n≤hi:=of_decide_eq_true h
theorem jgc {n lo hi:Int} (h:inR n lo hi=false):¬ (lo≤n∧n≤hi):=of_decide_eq_false h
theorem jgb (n lo hi:Int):inR n lo hi=true∨inR n lo hi=false:=by cases inR n lo hi <;> simp
theorem jk7 (s:Ship) (now:Int) (w:World) :
  Calls Tryz.prog 77 #[.agg (cShip s).toArray,.int .i64 now] w fun e w'=>e=.returned (.bool (jbc s now))∧Below w.heap.size w w':=by
 obtain⟨st,wd,lg,cl,si,qu⟩:=s
 simp only [cShip]
 rcases jgb st 1 4 with b1|b1
 case inr =>
  by_cases h3:st=3
  ·have hb:(st != 3)=false:=by simp [h3]
   clear h3
   have hB:Hid (jbc ⟨st,wd,lg,cl,si,qu⟩ now=false):=jbt (by exact fun h=>jgc b1 h.st)
   go_enter Tryz.func77,Tryz.ntmps77
   go_wp2_with (go_at_call 31;refine(jag _ _ _ _).mono ?_;rintro e w' ⟨rfl,rfl⟩)
   all_goals go_ret
   all_goals exact⟨by rw [hB.out];rfl,(Below.refl _ _).alloc (Nat.le_refl _) _⟩
  ·have hb:(st != 3)=true:=by simp [h3]
   have hB:Hid (jbc ⟨st,wd,lg,cl,si,qu⟩ now=false):=jbt (by exact fun h=>jgc b1 h.st)
   go_enter Tryz.func77,Tryz.ntmps77
   go_wp2_with (go_at_call 31;refine(jag _ _ _ _).mono ?_;rintro e w' ⟨rfl,rfl⟩)
   all_goals go_ret
   all_goals exact⟨by rw [hB.out];rfl,(Below.refl _ _).alloc (Nat.le_refl _) _⟩
 rcases jgb wd 1 16 with b2|b2
 case inr =>
  by_cases h3:st=3
  ·have hb:(st != 3)=false:=by simp [h3]
   clear h3
   have hB:Hid (jbc ⟨st,wd,lg,cl,si,qu⟩ now=false):=jbt (by exact fun h=>jgc b2 h.wd)
   go_enter Tryz.func77,Tryz.ntmps77
   go_wp2_with (go_at_call 31;refine(jag _ _ _ _).mono ?_;rintro e w' ⟨rfl,rfl⟩)
   all_goals go_ret
   all_goals exact⟨by rw [hB.out];rfl,(Below.refl _ _).alloc (Nat.le_refl _) _⟩
  ·have hb:(st != 3)=true:=by simp [h3]
   have hB:Hid (jbc ⟨st,wd,lg,cl,si,qu⟩ now=false):=jbt (by exact fun h=>jgc b2 h.wd)
   go_enter Tryz.func77,Tryz.ntmps77
   go_wp2_with (go_at_call 31;refine(jag _ _ _ _).mono ?_;rintro e w' ⟨rfl,rfl⟩)
   all_goals go_ret
   all_goals exact⟨by rw [hB.out];rfl,(Below.refl _ _).alloc (Nat.le_refl _) _⟩
 rcases jgb lg 1 300 with b3|b3
 case inr =>
  by_cases h3:st=3
  ·have hb:(st != 3)=false:=by simp [h3]
   clear h3
   have hB:Hid (jbc ⟨st,wd,lg,cl,si,qu⟩ now=false):=jbt (by exact fun h=>jgc b3 h.lg)
   go_enter Tryz.func77,Tryz.ntmps77
   go_wp2_with (go_at_call 31;refine(jag _ _ _ _).mono ?_;rintro e w' ⟨rfl,rfl⟩)
   all_goals go_ret
   all_goals exact⟨by rw [hB.out];rfl,(Below.refl _ _).alloc (Nat.le_refl _) _⟩
  ·have hb:(st != 3)=true:=by simp [h3]
   have hB:Hid (jbc ⟨st,wd,lg,cl,si,qu⟩ now=false):=jbt (by exact fun h=>jgc b3 h.lg)
   go_enter Tryz.func77,Tryz.ntmps77
   go_wp2_with (go_at_call 31;refine(jag _ _ _ _).mono ?_;rintro e w' ⟨rfl,rfl⟩)
   all_goals go_ret
   all_goals exact⟨by rw [hB.out];rfl,(Below.refl _ _).alloc (Nat.le_refl _) _⟩
 rcases jgb cl 0 3 with b4|b4
 case inr =>
  by_cases h3:st=3
  ·have hb:(st != 3)=false:=by simp [h3]
   clear h3
   have hB:Hid (jbc ⟨st,wd,lg,cl,si,qu⟩ now=false):=jbt (by exact fun h=>jgc b4 h.cl)
   go_enter Tryz.func77,Tryz.ntmps77
   go_wp2_with (go_at_call 31;refine(jag _ _ _ _).mono ?_;rintro e w' ⟨rfl,rfl⟩)
   all_goals go_ret
   all_goals exact⟨by rw [hB.out];rfl,(Below.refl _ _).alloc (Nat.le_refl _) _⟩
  ·have hb:(st != 3)=true:=by simp [h3]
   have hB:Hid (jbc ⟨st,wd,lg,cl,si,qu⟩ now=false):=jbt (by exact fun h=>jgc b4 h.cl)
   go_enter Tryz.func77,Tryz.ntmps77
   go_wp2_with (go_at_call 31;refine(jag _ _ _ _).mono ?_;rintro e w' ⟨rfl,rfl⟩)
   all_goals go_ret
   all_goals exact⟨by rw [hB.out];rfl,(Below.refl _ _).alloc (Nat.le_refl _) _⟩
 by_cases b5:0≤qu
 case neg =>
  have hd5:decide (0≤qu)=false:=decide_eq_false b5
  by_cases h3:st=3
  ·have hb:(st != 3)=false:=by simp [h3]
   clear h3
   have hB:Hid (jbc ⟨st,wd,lg,cl,si,qu⟩ now=false):=jbt (by exact fun h=>(fun hq:0≤qu=>by omega) h.qu)
   go_enter Tryz.func77,Tryz.ntmps77
   go_wp2_with (go_at_call 31;refine(jag _ _ _ _).mono ?_;rintro e w' ⟨rfl,rfl⟩)
   all_goals go_ret
   all_goals exact⟨by rw [hB.out];rfl,(Below.refl _ _).alloc (Nat.le_refl _) _⟩
  ·have hb:(st != 3)=true:=by simp [h3]
   have hB:Hid (jbc ⟨st,wd,lg,cl,si,qu⟩ now=false):=jbt (by exact fun h=>(fun hq:0≤qu=>by omega) h.qu)
   go_enter Tryz.func77,Tryz.ntmps77
   go_wp2_with (go_at_call 31;refine(jag _ _ _ _).mono ?_;rintro e w' ⟨rfl,rfl⟩)
   all_goals go_ret
   all_goals exact⟨by rw [hB.out];rfl,(Below.refl _ _).alloc (Nat.le_refl _) _⟩
 have q1:=jjc b1
 have q2:=jjc b2
 have q3:=jjc b3
 have q4:=jjc b4
 have Q:Hid ((1≤st∧st≤4)∧(1≤wd∧wd≤16)∧(1≤lg∧lg≤300)∧(0≤cl∧cl≤3)∧0≤qu):=⟨q1,q2,q3,q4,b5⟩
 clear q1 q2 q4
 obtain⟨l1,l2⟩:=q3
 by_cases h3:st=3
 ·have hb:(st != 3)=false:=by simp [h3]
  have H3:Hid (st=3):=h3
  clear h3
  rcases jgb si 0 (min now 300) with b6|b6
  ·have q6:=jjc b6
   have q7:si≤now∧si≤300:=⟨by omega,by omega⟩
   obtain⟨q8,q9⟩:=q7
   have q5:=q6.1
   have c1:inR si 0 now=true:=decide_eq_true ⟨q5,q8⟩
   have c2:inR si 0 300=true:=decide_eq_true ⟨q5,q9⟩
   clear q6 b6
   by_cases g1:now < si+lg
   ·by_cases g2:si+lg≤300
    ·have hB:Hid (jbc ⟨st,wd,lg,cl,si,qu⟩ now=true):=jcs.2 ⟨Q.out.1,Q.out.2.1,Q.out.2.2.1,Q.out.2.2.2.1,Q.out.2.2.2.2,fun _=>⟨q5,q8,g1,g2⟩,fun h=>absurd H3.out h⟩
     go_enter Tryz.func77,Tryz.ntmps77
     go_wp2_with (go_at_call 31;refine(jag _ _ _ _).mono ?_;rintro e w' ⟨rfl,rfl⟩)
     all_goals go_ret
     all_goals exact⟨by rw [hB.out];rfl,(Below.refl _ _).alloc (Nat.le_refl _) _⟩
    ·have hd2:decide (si+lg≤300)=false:=decide_eq_false g2
     have hB:Hid (jbc ⟨st,wd,lg,cl,si,qu⟩ now=false):=jbt (by exact fun h=>by have:=(h.lies H3.out).2.2.2;simp at this;omega)
     go_enter Tryz.func77,Tryz.ntmps77
     go_wp2_with (go_at_call 31;refine(jag _ _ _ _).mono ?_;rintro e w' ⟨rfl,rfl⟩)
     all_goals go_ret
     all_goals exact⟨by rw [hB.out];rfl,(Below.refl _ _).alloc (Nat.le_refl _) _⟩
   ·have hd2:decide (now < si+lg)=false:=decide_eq_false g1
    have hB:Hid (jbc ⟨st,wd,lg,cl,si,qu⟩ now=false):=jbt (by exact fun h=>by have:=(h.lies H3.out).2.2.1;simp at this;omega)
    go_enter Tryz.func77,Tryz.ntmps77
    go_wp2_with (go_at_call 31;refine(jag _ _ _ _).mono ?_;rintro e w' ⟨rfl,rfl⟩)
    all_goals go_ret
    all_goals exact⟨by rw [hB.out];rfl,(Below.refl _ _).alloc (Nat.le_refl _) _⟩
  ·have q6:=jgc b6
   have NB:Hid (¬ jce ⟨st,wd,lg,cl,si,qu⟩ now):=fun h=>jgc b6 (by have:=h.lies H3.out;simp at this;omega)
   by_cases hm:now≤300
   ·have c1:inR si 0 now=false:=decide_eq_false (by omega)
    clear q6 b6
    have hB:Hid (jbc ⟨st,wd,lg,cl,si,qu⟩ now=false):=jbt (by exact NB.out)
    go_enter Tryz.func77,Tryz.ntmps77
    go_wp2_with (go_at_call 31;refine(jag _ _ _ _).mono ?_;rintro e w' ⟨rfl,rfl⟩)
    all_goals go_ret
    all_goals exact⟨by rw [hB.out];rfl,(Below.refl _ _).alloc (Nat.le_refl _) _⟩
   ·have c1:inR si 0 300=false:=decide_eq_false (by omega)
    clear q6 b6
    have hB:Hid (jbc ⟨st,wd,lg,cl,si,qu⟩ now=false):=jbt (by exact NB.out)
    go_enter Tryz.func77,Tryz.ntmps77
    go_wp2_with (go_at_call 31;refine(jag _ _ _ _).mono ?_;rintro e w' ⟨rfl,rfl⟩)
    all_goals go_ret
    all_goals exact⟨by rw [hB.out];rfl,(Below.refl _ _).alloc (Nat.le_refl _) _⟩
 ·have hb:(st != 3)=true:=by simp [h3]
  by_cases g1:si=0
  ·have gb:(si == 0)=true:=beq_iff_eq.2 g1
   have G1:Hid (si=0):=g1
   clear g1
   have hB:Hid (jbc ⟨st,wd,lg,cl,si,qu⟩ now=true):=jcs.2 ⟨Q.out.1,Q.out.2.1,Q.out.2.2.1,Q.out.2.2.2.1,Q.out.2.2.2.2,fun h=>absurd h h3,fun _=>G1.out⟩
   go_enter Tryz.func77,Tryz.ntmps77
   go_wp2_with (go_at_call 31;refine(jag _ _ _ _).mono ?_;rintro e w' ⟨rfl,rfl⟩)
   all_goals go_ret
   all_goals exact⟨by rw [hB.out];rfl,(Below.refl _ _).alloc (Nat.le_refl _) _⟩
  ·have gb:(si == 0)=false:=beq_eq_false_iff_ne.2 g1
   have hB:Hid (jbc ⟨st,wd,lg,cl,si,qu⟩ now=false):=jbt (by exact fun h=>g1 (h.else_ h3))
   go_enter Tryz.func77,Tryz.ntmps77
   go_wp2_with (go_at_call 31;refine(jag _ _ _ _).mono ?_;rintro e w' ⟨rfl,rfl⟩)
   all_goals go_ret
   all_goals exact⟨by rw [hB.out];rfl,(Below.refl _ _).alloc (Nat.le_refl _) _⟩
structure jnv (p:Pt):Prop where
 shut:0≤p.shut∧p.shut≤16
 len:p.ships.length≤15
 ship:∀ s∈p.ships,(0≤s.wd∧s.wd≤16)∧(0≤s.si∧s.si≤1000)∧(0≤s.lg∧s.lg≤1000)
 four:p.kept.length=4
 kept:∀ k∈p.kept,0≤k.wd∧k.wd≤16
theorem ja4.baseIn {p:Pt} (h:ja4 p):jnv p :=
 ⟨h.shut,by have:=h.len;omega,fun s hs=>by
  have a:=(h.ship s hs).1
  have b:=a.wd;have c:=a.lg
  refine⟨by omega,?_,by omega⟩
  by_cases e:s.st=3
  ·have:=a.lies e;omega
  ·have:=a.else_ e;omega,h.four,fun k hk=>(h.kept k hk).wide⟩
theorem jhx (l:List Kp) (j:Nat) (k:Kp) (hj:l[j]?=some k):(jae cKp l).toArray.extract (j*3) (j*3+3)=#[.int .i64 k.wd,.int .i64 k.fr,.int .i64 k.to]:=by
 have hl:=(List.getElem?_eq_some_iff.1 hj).1
 have hk:l[j]=k:=(List.getElem?_eq_some_iff.1 hj).2
 have e:((jae cKp l).drop (j*3)).take 3=cKp k:=by
  rw [jo0 encKp,List.drop_eq_getElem_cons hl,hk]
  simp [jae,cKp]
 apply Array.ext'
 rw [List.extract_toArray]
 simp only [List.extract_eq_take_drop]
 rw [show j*3+3 - j*3=3 by omega,e]
 rfl
theorem jf7 (l:List Kp) (hl:l.length=4) (j:Nat) (k:Kp) (hj:l[j]?=some k) (w:World):(Instr.index 39 (.agg (jae cKp l).toArray) (.int .i64 j)).run Tryz.prog w=.ok (.agg #[.int .i64 k.wd,.int .i64 k.fr,.int .i64 k.to]) w:=by
 have hj4:j < 4:=by have:=(List.getElem?_eq_some_iff.1 hj).1;omega
 have h1:(j:Int) < 4:=by omega
 have u3:=Tryz.isAgg38
 have z3:=Tryz.sizeOf38
 have e:=jhx l j k hj
 simp only [Instr.index,asIntOf,Sem.run_bind,Sem.run_pure,Result.andThen_ok,run_underlying Tryz.underlying39]
 rw [if_pos ⟨by omega,by omega⟩]
 simp only [Sem.run_bind,z3,Result.andThen_ok,part,u3,Int.toNat_natCast,if_pos,Sem.run_pure,e]
def okTo (p:Pt) (t:Nat):Bool:=decide (∀ j:Nat,j < t→0≤ja3 p j)
theorem jgy (p:Pt) (t:Nat):okTo p (t+1)=(okTo p t && decide (0≤ja3 p t)):=by
 unfold okTo
 rw [Bool.eq_iff_iff]
 simp only [Bool.and_eq_true,decide_eq_true_iff]
 constructor
 ·intro h;exact⟨fun j hj=>h j (by omega),h t (by omega)⟩
 ·rintro ⟨h1,h2⟩ j hj
  by_cases e:j=t
  ·rw [e];exact h2
  ·exact h1 j (by omega)
theorem jj2 {α:Type} {l:List α} {j:Nat} {x:α} (h:l[j]?=some x):l.take (j+1)=l.take j++[x]:=by
 have hl:=(List.getElem?_eq_some_iff.1 h).1
 rw [List.take_succ_eq_append_getElem hl,(List.getElem?_eq_some_iff.1 h).2]
theorem jb9 (v:Value) (p:Pt) (w:World) (hv:PtV w v p) (hp:jnv p) :
  Calls Tryz.prog 36 #[v] w fun e w'=>∃ f,e=.returned (.tuple #[.agg (ic f).toArray,.bool (okTo p 300)])∧f.length=300∧(∀ j:Nat,j < 300→f.getD j 0=ja3 p j)∧Below w.heap.size w w':=by
 obtain⟨vs,rfl,hvs,h4,hmx⟩:=hv
 obtain⟨a,cap,rfl,hcap,hrd⟩:=hvs
 have HP:Hid (jnv p):=hp
 have X0:Hid (PBox (w.alloc (.cells (jaa p (.slice a p.ships.length cap)).toArray 41)) w.heap.size p (.slice a p.ships.length cap)):=PBox.new w p _ h4
 have B0:Hid (Below w.heap.size w (w.alloc (.cells (jaa p (.slice a p.ships.length cap)).toArray 41))):=(Below.refl _ w).alloc (Nat.le_refl _) _
 have Z0:Hid ((w.alloc (.cells (jaa p (.slice a p.ships.length cap)).toArray 41)).heap.size=w.heap.size+1):=by show _=_;simp
 have HR:Hid (p.ships=[]∨∃ b off,a=some ⟨b,off,none⟩∧RdK cShip w b off p.ships):=hrd
 clear hrd hp
 generalize hPC:(jaa p (.slice a p.ships.length cap)).toArray=PC at *
 clear hPC
 go_enter Tryz.func36,Tryz.ntmps36
 go_wp2_with (first|(refine ja2 rfl rfl 2 rfl ?_;intro w1 hw1 hs1;rw [Z0.out] at hw1 hs1;rw [Z0.out])|(refine ja2 rfl rfl 4 rfl ?_;intro w2 hw2 hs2;rw [hs1] at hw2 hs2;rw [hs1]))
 have B2:Hid (Below w.heap.size w w2):=B0.out.trans ((hw1.out.2.mono (by omega)).trans (hw2.out.2.mono (by omega)))
 have X2:Hid (PBox w2 w.heap.size p (.slice a p.ships.length cap)):=(X0.out.later hw1.out.2 (by omega)).later hw2.out.2 (by omega)
 have A2:Hid (Arr w2 (w.heap.size+1) zero300):=hw1.out.1.later hw2.out.2 (by omega)
 have A4:Hid (Arr w2 (w.heap.size+2) zero300):=hw2.out.1
 clear hw1 hs1 hw2 hs2 B0 X0 Z0
 rw [show w.heap.size+1+1=w.heap.size+2 from rfl]
 go_loopg [5,11] 300 (fun kx s5 s11 wr=>∃ (t:Nat) (f:List Int),s11=.int .i64 t∧s5=.bool (okTo p t)∧t≤300∧300 - t≤kx∧Hid (Below w.heap.size w wr)∧Hid (PBox wr w.heap.size p (.slice a p.ships.length cap))∧Hid (Arr wr (w.heap.size+1) zero300)∧Hid (Arr wr (w.heap.size+2) f)∧Hid (∀ j:Nat,j < t→f.getD j 0=ja3 p j))
 case atStart=>exact⟨0,zero300,rfl,by simp [okTo],by omega,by omega,B2,X2,A2,A4,(fun j hj=>absurd hj (Nat.not_lt_zero _):∀ j:Nat,j < 0→zero300.getD j 0=ja3 p j)⟩
 case round =>
  clear B2 X2 A2 A4
  obtain⟨t,f,rfl,rfl,ht,hg,S1,X1,R1,F1,E1⟩:=hrel
  by_cases hlt:t < 300
  ·obtain⟨pc0,pc1,pc14,pc15⟩:=X1.out.cells
   have q0:=F1.out.cell t hlt
   have q1:=F1.out.frozen t
   generalize f.getD t 0=oldv at q0
   obtain⟨sh0,sh1⟩:=HP.out.shut
   have ht3:(t:Int) < 300:=by omega
   have S2:Hid (∀ y,Below w.heap.size w (wr.setCell ⟨w.heap.size+2,t,none⟩ y)):=fun y=>S1.out.setCell (by show w.heap.size≤w.heap.size+2;omega) _
   have X2:Hid (∀ y,PBox (wr.setCell ⟨w.heap.size+2,t,none⟩ y) w.heap.size p (.slice a p.ships.length cap)):=fun y=>⟨X1.out.1,by rw [Below.heap_setCell _ _ _ _ (by show w.heap.size≠w.heap.size+2;omega)];exact X1.out.2⟩
   have R2:Hid (∀ y,Arr (wr.setCell ⟨w.heap.size+2,t,none⟩ y) (w.heap.size+1) zero300):=fun y=>R1.out.other _ _ (by omega)
   have F2:Hid (∀ y:Int,Arr (wr.setCell ⟨w.heap.size+2,t,none⟩ (.int .i64 y)) (w.heap.size+2) (f.set t y)):=fun y=>F1.out.set _ _
   by_cases hn:p.now≤t
   ·go_wp2_with fail
    have S3:Hid (Below w.heap.size w (wr.setCell ⟨w.heap.size+2,t,none⟩ (.int .i64 (16 - p.shut)))):=S2.out _
    have X3:Hid (PBox (wr.setCell ⟨w.heap.size+2,t,none⟩ (.int .i64 (16 - p.shut))) w.heap.size p (.slice a p.ships.length cap)):=X2.out _
    have R3:Hid (Arr (wr.setCell ⟨w.heap.size+2,t,none⟩ (.int .i64 (16 - p.shut))) (w.heap.size+1) zero300):=R2.out _
    have F3:Hid (Arr (wr.setCell ⟨w.heap.size+2,t,none⟩ (.int .i64 (16 - p.shut))) (w.heap.size+2) (f.set t (16 - p.shut - ja8 (p.ships.take 0) t))):=by
     have:=F2.out (16 - p.shut)
     rw [show 16 - p.shut - ja8 (p.ships.take 0) t=16 - p.shut by simp [ja8]]
     exact this
    have FL:Hid (f.length=300):=F1.out.1
    have E2:Hid (∀ j:Nat,j < t→f.getD j 0=ja3 p j):=E1.out
    clear S1 X1 R1 F1 E1 S2 X2 R2 F2 pc0 pc1 pc14 pc15 q0 q1
    generalize wr.setCell ⟨w.heap.size+2,t,none⟩ (.int .i64 (16 - p.shut))=WA at *
    have hlen:=HP.out.len
    go_loopg [26] p.ships.length (fun kx s26 ws=>∃ j:Nat,s26=.int .i64 j∧j≤p.ships.length∧p.ships.length - j≤kx∧Hid (Below w.heap.size w ws)∧Hid (PBox ws w.heap.size p (.slice a p.ships.length cap))∧Hid (Arr ws (w.heap.size+1) zero300)∧Hid (Arr ws (w.heap.size+2) (f.set t (16 - p.shut - ja8 (p.ships.take j) t))))
    case atStart=>exact⟨0,rfl,Nat.zero_le _,by omega,S3,X3,R3,F3⟩
    case round =>
     clear S3 X3 R3 F3
     obtain⟨j,rfl,hj,hg2,S1,X1,R1,F1⟩:=hrel
     by_cases hjl:j < p.ships.length
     ·obtain⟨s,hs⟩:∃ s,p.ships[j]?=some s:=⟨p.ships[j],List.getElem?_eq_getElem hjl⟩
      obtain⟨b,off,rfl,hrd⟩:∃ b off,a=some ⟨b,off,none⟩∧RdK cShip w b off p.ships:=by
       rcases HR.out with h|h
       ·rw [h] at hjl;simp at hjl
       ·exact h
      obtain⟨c0,c1,c2,c3,c4,c5⟩:=(hrd.below S1.out).ship hs
      obtain⟨⟨d1,d2⟩,⟨d3,d4⟩,⟨d5,d6⟩⟩:=HP.out.ship s (List.mem_of_getElem? hs)
      have hsb:=je8 (p.ships.take j) t (fun s hs=>(HP.out.ship s (List.mem_of_mem_take hs)).1)
      have hlt2:(p.ships.take j).length≤15:=by rw [List.length_take];omega
      have q0:=F1.out.cell t hlt
      have q1:=F1.out.frozen t
      rw [jf4 _ _ _ _ (by rw [FL.out];exact hlt),if_pos rfl] at q0
      have TS:Hid (ja8 (p.ships.take (j+1)) t=ja8 (p.ships.take j) t+jdn s t):=by show _=_;rw [jj2 hs,jht]
      generalize ja8 (p.ships.take j) t=sa at *
      obtain⟨st,wd,lg,cl,si,qu⟩:=s
      simp only at *
      clear hrd hs
      have hj3:(j:Int) < (p.ships.length:Int):=by omega
      have hlt3:(t:Int) < 300:=by omega
      have hlt4:(0:Int)≤(t:Int):=by omega
      by_cases g1:st=3
      ·have gb:(st == 3)=true:=beq_iff_eq.2 g1
       have G1:Hid (st=3):=g1
       clear g1
       by_cases g2:(t:Int) < si+lg
       ·have TS2:Hid (ja8 (p.ships.take (j+1)) t=sa+wd):=by show _=_;rw [TS.out];unfold jdn;rw [if_pos ⟨G1.out,g2⟩]
        clear TS
        have hbw:Below wr.heap.size wr (wr.alloc (.cells #[.int .i64 st,.int .i64 wd,.int .i64 lg,.int .i64 cl,.int .i64 si,.int .i64 qu] 46)):=(Below.refl _ wr).alloc (Nat.le_refl _) _
        have S4:Hid (Below w.heap.size w (wr.alloc (.cells #[.int .i64 st,.int .i64 wd,.int .i64 lg,.int .i64 cl,.int .i64 si,.int .i64 qu] 46))):=S1.out.trans (hbw.mono S1.out.size)
        have X4:Hid (PBox (wr.alloc (.cells #[.int .i64 st,.int .i64 wd,.int .i64 lg,.int .i64 cl,.int .i64 si,.int .i64 qu] 46)) w.heap.size p (.slice (some ⟨b,off,none⟩) p.ships.length cap)):=X1.out.later hbw X1.out.lt
        have R4:Hid (Arr (wr.alloc (.cells #[.int .i64 st,.int .i64 wd,.int .i64 lg,.int .i64 cl,.int .i64 si,.int .i64 qu] 46)) (w.heap.size+1) zero300):=R1.out.later hbw R1.out.lt
        have F4:Hid (Arr (wr.alloc (.cells #[.int .i64 st,.int .i64 wd,.int .i64 lg,.int .i64 cl,.int .i64 si,.int .i64 qu] 46)) (w.heap.size+2) (f.set t (16 - p.shut - sa))):=F1.out.later hbw F1.out.lt
        have n1:(wr.alloc (.cells #[.int .i64 st,.int .i64 wd,.int .i64 lg,.int .i64 cl,.int .i64 si,.int .i64 qu] 46)).cell? ⟨wr.heap.size,1,none⟩=some (.int .i64 wd):=by rw [cell_of_row _ _ _ _ _ _ (heap_alloc_new wr _)];rfl
        have m0:=jd0 q0 (.cells #[.int .i64 st,.int .i64 wd,.int .i64 lg,.int .i64 cl,.int .i64 si,.int .i64 qu] 46)
        have m1:(wr.alloc (.cells #[.int .i64 st,.int .i64 wd,.int .i64 lg,.int .i64 cl,.int .i64 si,.int .i64 qu] 46)).frozen? ⟨w.heap.size+2,t,none⟩=false:=(hbw.frozen (p:=⟨w.heap.size+2,t,none⟩) F1.out.lt).trans q1
        go_wp2
        clear hbw q0 q1 c0 c1 c2 c3 c4 c5 S1 X1 R1 F1
        generalize wr.alloc (.cells #[.int .i64 st,.int .i64 wd,.int .i64 lg,.int .i64 cl,.int .i64 si,.int .i64 qu] 46)=WB at *
        go_region
        have S5:Hid (Below w.heap.size w (WB.setCell ⟨w.heap.size+2,t,none⟩ (.int .i64 (16 - p.shut - sa - wd))).drew):=(S4.out.setCell (by show w.heap.size≤w.heap.size+2;omega) _).drew
        have X5:Hid (PBox (WB.setCell ⟨w.heap.size+2,t,none⟩ (.int .i64 (16 - p.shut - sa - wd))).drew w.heap.size p (.slice (some ⟨b,off,none⟩) p.ships.length cap)):=⟨X4.out.1,(Below.heap_setCell WB _ _ _ (by show w.heap.size≠w.heap.size+2;omega)).trans X4.out.2⟩
        have R5:Hid (Arr (WB.setCell ⟨w.heap.size+2,t,none⟩ (.int .i64 (16 - p.shut - sa - wd))).drew (w.heap.size+1) zero300):=R4.out.other _ _ (by omega)
        have F5:Hid (Arr (WB.setCell ⟨w.heap.size+2,t,none⟩ (.int .i64 (16 - p.shut - sa - wd))).drew (w.heap.size+2) (f.set t (16 - p.shut - ja8 (p.ships.take (j+1)) t))):=by
         have:=F4.out.set t (16 - p.shut - sa - wd)
         rw [List.set_set] at this
         rw [show 16 - p.shut - ja8 (p.ships.take (j+1)) t=16 - p.shut - sa - wd by have:=TS2.out;omega]
         exact this
        go_wp2
        go_roundg (p.ships.length - (j+1))
        case measure=>omega
        case rel=>exact⟨j+1,by go_num,by omega,Nat.le_refl _,S5,X5,R5,F5⟩
       ·have hd:decide ((t:Int) < si+lg)=false:=decide_eq_false g2
        have TS2:Hid (ja8 (p.ships.take (j+1)) t=sa):=by show _=_;rw [TS.out];unfold jdn;rw [if_neg (fun h=>g2 h.2)];omega
        clear TS
        have hbw:Below wr.heap.size wr (wr.alloc (.cells #[.int .i64 st,.int .i64 wd,.int .i64 lg,.int .i64 cl,.int .i64 si,.int .i64 qu] 46)):=(Below.refl _ wr).alloc (Nat.le_refl _) _
        have S4:Hid (Below w.heap.size w (wr.alloc (.cells #[.int .i64 st,.int .i64 wd,.int .i64 lg,.int .i64 cl,.int .i64 si,.int .i64 qu] 46))):=S1.out.trans (hbw.mono S1.out.size)
        have X4:Hid (PBox (wr.alloc (.cells #[.int .i64 st,.int .i64 wd,.int .i64 lg,.int .i64 cl,.int .i64 si,.int .i64 qu] 46)) w.heap.size p (.slice (some ⟨b,off,none⟩) p.ships.length cap)):=X1.out.later hbw X1.out.lt
        have R4:Hid (Arr (wr.alloc (.cells #[.int .i64 st,.int .i64 wd,.int .i64 lg,.int .i64 cl,.int .i64 si,.int .i64 qu] 46)) (w.heap.size+1) zero300):=R1.out.later hbw R1.out.lt
        have F4:Hid (Arr (wr.alloc (.cells #[.int .i64 st,.int .i64 wd,.int .i64 lg,.int .i64 cl,.int .i64 si,.int .i64 qu] 46)) (w.heap.size+2) (f.set t (16 - p.shut - sa))):=F1.out.later hbw F1.out.lt
        have F5:Hid (Arr (wr.alloc (.cells #[.int .i64 st,.int .i64 wd,.int .i64 lg,.int .i64 cl,.int .i64 si,.int .i64 qu] 46)) (w.heap.size+2) (f.set t (16 - p.shut - ja8 (p.ships.take (j+1)) t))):=by
         have:=F4.out
         rw [show 16 - p.shut - ja8 (p.ships.take (j+1)) t=16 - p.shut - sa by have:=TS2.out;omega]
         exact this
        go_wp2
        go_roundg (p.ships.length - (j+1))
        case measure=>omega
        case rel=>exact⟨j+1,by go_num,by omega,Nat.le_refl _,S4,X4,R4,F5⟩
      ·have gb:(st == 3)=false:=beq_eq_false_iff_ne.2 g1
       have TS2:Hid (ja8 (p.ships.take (j+1)) t=sa):=by show _=_;rw [TS.out];unfold jdn;rw [if_neg (fun h=>g1 h.1)];omega
       clear TS
       have hbw:Below wr.heap.size wr (wr.alloc (.cells #[.int .i64 st,.int .i64 wd,.int .i64 lg,.int .i64 cl,.int .i64 si,.int .i64 qu] 46)):=(Below.refl _ wr).alloc (Nat.le_refl _) _
       have S4:Hid (Below w.heap.size w (wr.alloc (.cells #[.int .i64 st,.int .i64 wd,.int .i64 lg,.int .i64 cl,.int .i64 si,.int .i64 qu] 46))):=S1.out.trans (hbw.mono S1.out.size)
       have X4:Hid (PBox (wr.alloc (.cells #[.int .i64 st,.int .i64 wd,.int .i64 lg,.int .i64 cl,.int .i64 si,.int .i64 qu] 46)) w.heap.size p (.slice (some ⟨b,off,none⟩) p.ships.length cap)):=X1.out.later hbw X1.out.lt
       have R4:Hid (Arr (wr.alloc (.cells #[.int .i64 st,.int .i64 wd,.int .i64 lg,.int .i64 cl,.int .i64 si,.int .i64 qu] 46)) (w.heap.size+1) zero300):=R1.out.later hbw R1.out.lt
       have F4:Hid (Arr (wr.alloc (.cells #[.int .i64 st,.int .i64 wd,.int .i64 lg,.int .i64 cl,.int .i64 si,.int .i64 qu] 46)) (w.heap.size+2) (f.set t (16 - p.shut - sa))):=F1.out.later hbw F1.out.lt
       have F5:Hid (Arr (wr.alloc (.cells #[.int .i64 st,.int .i64 wd,.int .i64 lg,.int .i64 cl,.int .i64 si,.int .i64 qu] 46)) (w.heap.size+2) (f.set t (16 - p.shut - ja8 (p.ships.take (j+1)) t))):=by
        have:=F4.out
        rw [show 16 - p.shut - ja8 (p.ships.take (j+1)) t=16 - p.shut - sa by have:=TS2.out;omega]
        exact this
       go_wp2
       go_roundg (p.ships.length - (j+1))
       case measure=>omega
       case rel=>exact⟨j+1,by go_num,by omega,Nat.le_refl _,S4,X4,R4,F5⟩
     ·have hje:j=p.ships.length:=by omega
      have F2:Hid (Arr wr (w.heap.size+2) (f.set t (16 - p.shut - ja8 p.ships t - jbh (p.kept.take 0) t))):=by
       have:=F1.out
       rw [hje,List.take_length] at this
       rw [show 16 - p.shut - ja8 p.ships t - jbh (p.kept.take 0) t=16 - p.shut - ja8 p.ships t by simp [jbh]]
       exact this
      have hsb:=je8 p.ships t (fun s hs=>(HP.out.ship s hs).1)
      have HSH:Hid (ja8 p.ships t=ja8 p.ships t):=rfl
      clear hje
      have hj3:¬ ((j:Int) < (p.ships.length:Int)):=by omega
      obtain⟨pc0,pc1,pc14,pc15⟩:=X1.out.cells
      have KR:Hid (wr.rangeAt w.heap.size 2 (jae cKp p.kept)):=X1.out.keeps
      have KL:Hid ((Tryz.prog.info? 39).map (·.size)=some (jae cKp p.kept).length):=by show _=_;rw [ja6 encKp,h4];kernel_rfl
      clear pc0 pc1 pc14 pc15 F1
      generalize hsh:ja8 p.ships t=sh at *
      have SH:Hid (ja8 p.ships t=sh):=hsh
      clear hsh HSH
      go_wp2_with (refine wpList_load_mid rfl 39 _ rfl w.heap.size 2 rfl (jae cKp p.kept) _ KR.out Tryz.underlying39 rfl KL.out ?_)
      go_loopg [52] 4 (fun kx s52 ws=>∃ j:Nat,s52=.int .i64 j∧j≤4∧4 - j≤kx∧Hid (Below w.heap.size w ws)∧Hid (PBox ws w.heap.size p (.slice a p.ships.length cap))∧Hid (Arr ws (w.heap.size+1) zero300)∧Hid (Arr ws (w.heap.size+2) (f.set t (16 - p.shut - sh - jbh (p.kept.take j) t))))
      case atStart=>exact⟨0,rfl,by omega,by omega,S1,X1,R1,F2⟩
      case round =>
       clear S1 X1 R1 F2 KR
       obtain⟨j,rfl,hj,hg3,S1,X1,R1,F1⟩:=hrel
       by_cases hjl:j < 4
       ·obtain⟨k,hk⟩:∃ k,p.kept[j]?=some k:=⟨p.kept[j],List.getElem?_eq_getElem (by omega)⟩
        have hix:=fun W=>jf7 p.kept h4 j k hk W
        obtain⟨d1,d2⟩:=HP.out.kept k (List.mem_of_getElem? hk)
        have hkb:=jfh (p.kept.take j) t (fun k hk=>HP.out.kept k (List.mem_of_mem_take hk))
        have hlt2:(p.kept.take j).length≤4:=by rw [List.length_take];omega
        have q0:=F1.out.cell t hlt
        have q1:=F1.out.frozen t
        rw [jf4 _ _ _ _ (by rw [FL.out];exact hlt),if_pos rfl] at q0
        have TS:Hid (jbh (p.kept.take (j+1)) t=jbh (p.kept.take j) t+jek k t):=by show _=_;rw [jj2 hk,jm2]
        generalize jbh (p.kept.take j) t=ka at *
        obtain⟨kw,kf,kt⟩:=k
        simp only at *
        clear hk
        have hj3:(j:Int) < 4:=by omega
        have hlt3:(t:Int) < 300:=by omega
        have hlt4:(0:Int)≤(t:Int):=by omega
        by_cases g1:kf≤t
        ·by_cases g2:(t:Int) < kt
         ·have TS2:Hid (jbh (p.kept.take (j+1)) t=ka+kw):=by show _=_;rw [TS.out];unfold jek;rw [if_pos ⟨g1,g2⟩]
          clear TS
          have hbw:Below wr.heap.size wr (wr.alloc (.cells #[.int .i64 kw,.int .i64 kf,.int .i64 kt] 38)):=(Below.refl _ wr).alloc (Nat.le_refl _) _
          have S4:Hid (Below w.heap.size w (wr.alloc (.cells #[.int .i64 kw,.int .i64 kf,.int .i64 kt] 38))):=S1.out.trans (hbw.mono S1.out.size)
          have X4:Hid (PBox (wr.alloc (.cells #[.int .i64 kw,.int .i64 kf,.int .i64 kt] 38)) w.heap.size p (.slice a p.ships.length cap)):=X1.out.later hbw X1.out.lt
          have R4:Hid (Arr (wr.alloc (.cells #[.int .i64 kw,.int .i64 kf,.int .i64 kt] 38)) (w.heap.size+1) zero300):=R1.out.later hbw R1.out.lt
          have F4:Hid (Arr (wr.alloc (.cells #[.int .i64 kw,.int .i64 kf,.int .i64 kt] 38)) (w.heap.size+2) (f.set t (16 - p.shut - sh - ka))):=F1.out.later hbw F1.out.lt
          have n1:(wr.alloc (.cells #[.int .i64 kw,.int .i64 kf,.int .i64 kt] 38)).cell? ⟨wr.heap.size,0,none⟩=some (.int .i64 kw):=by rw [cell_of_row _ _ _ _ _ _ (heap_alloc_new wr _)];rfl
          have m0:=jd0 q0 (.cells #[.int .i64 kw,.int .i64 kf,.int .i64 kt] 38)
          have m1:(wr.alloc (.cells #[.int .i64 kw,.int .i64 kf,.int .i64 kt] 38)).frozen? ⟨w.heap.size+2,t,none⟩=false:=(hbw.frozen (p:=⟨w.heap.size+2,t,none⟩) F1.out.lt).trans q1
          go_wp2
          clear hbw q0 q1 hix S1 X1 R1 F1
          generalize wr.alloc (.cells #[.int .i64 kw,.int .i64 kf,.int .i64 kt] 38)=WB at *
          go_region
          have S5:Hid (Below w.heap.size w (WB.setCell ⟨w.heap.size+2,t,none⟩ (.int .i64 (16 - p.shut - sh - ka - kw))).drew):=(S4.out.setCell (by show w.heap.size≤w.heap.size+2;omega) _).drew
          have X5:Hid (PBox (WB.setCell ⟨w.heap.size+2,t,none⟩ (.int .i64 (16 - p.shut - sh - ka - kw))).drew w.heap.size p (.slice a p.ships.length cap)):=⟨X4.out.1,(Below.heap_setCell WB _ _ _ (by show w.heap.size≠w.heap.size+2;omega)).trans X4.out.2⟩
          have R5:Hid (Arr (WB.setCell ⟨w.heap.size+2,t,none⟩ (.int .i64 (16 - p.shut - sh - ka - kw))).drew (w.heap.size+1) zero300):=R4.out.other _ _ (by omega)
          have F5:Hid (Arr (WB.setCell ⟨w.heap.size+2,t,none⟩ (.int .i64 (16 - p.shut - sh - ka - kw))).drew (w.heap.size+2) (f.set t (16 - p.shut - sh - jbh (p.kept.take (j+1)) t))):=by
           have:=F4.out.set t (16 - p.shut - sh - ka - kw)
           rw [List.set_set] at this
           rw [show 16 - p.shut - sh - jbh (p.kept.take (j+1)) t=16 - p.shut - sh - ka - kw by have:=TS2.out;omega]
           exact this
          go_wp2
          go_roundg (4 - (j+1))
          case measure=>omega
          case rel=>exact⟨j+1,by go_num,by omega,Nat.le_refl _,S5,X5,R5,F5⟩
         ·have hd:decide ((t:Int) < kt)=false:=decide_eq_false g2
          have TS2:Hid (jbh (p.kept.take (j+1)) t=ka):=by show _=_;rw [TS.out];unfold jek;rw [if_neg (fun h=>g2 h.2)];omega
          clear TS
          have hbw:Below wr.heap.size wr (wr.alloc (.cells #[.int .i64 kw,.int .i64 kf,.int .i64 kt] 38)):=(Below.refl _ wr).alloc (Nat.le_refl _) _
          have S4:Hid (Below w.heap.size w (wr.alloc (.cells #[.int .i64 kw,.int .i64 kf,.int .i64 kt] 38))):=S1.out.trans (hbw.mono S1.out.size)
          have X4:Hid (PBox (wr.alloc (.cells #[.int .i64 kw,.int .i64 kf,.int .i64 kt] 38)) w.heap.size p (.slice a p.ships.length cap)):=X1.out.later hbw X1.out.lt
          have R4:Hid (Arr (wr.alloc (.cells #[.int .i64 kw,.int .i64 kf,.int .i64 kt] 38)) (w.heap.size+1) zero300):=R1.out.later hbw R1.out.lt
          have F4:Hid (Arr (wr.alloc (.cells #[.int .i64 kw,.int .i64 kf,.int .i64 kt] 38)) (w.heap.size+2) (f.set t (16 - p.shut - sh - ka))):=F1.out.later hbw F1.out.lt
          have F5:Hid (Arr (wr.alloc (.cells #[.int .i64 kw,.int .i64 kf,.int .i64 kt] 38)) (w.heap.size+2) (f.set t (16 - p.shut - sh - jbh (p.kept.take (j+1)) t))):=by
           have:=F4.out
           rw [show 16 - p.shut - sh - jbh (p.kept.take (j+1)) t=16 - p.shut - sh - ka by have:=TS2.out;omega]
           exact this
          go_wp2
          go_roundg (4 - (j+1))
          case measure=>omega
          case rel=>exact⟨j+1,by go_num,by omega,Nat.le_refl _,S4,X4,R4,F5⟩
        ·have hd:decide (kf≤(t:Int))=false:=decide_eq_false g1
         have TS2:Hid (jbh (p.kept.take (j+1)) t=ka):=by show _=_;rw [TS.out];unfold jek;rw [if_neg (fun h=>g1 h.1)];omega
         clear TS
         have hbw:Below wr.heap.size wr (wr.alloc (.cells #[.int .i64 kw,.int .i64 kf,.int .i64 kt] 38)):=(Below.refl _ wr).alloc (Nat.le_refl _) _
         have S4:Hid (Below w.heap.size w (wr.alloc (.cells #[.int .i64 kw,.int .i64 kf,.int .i64 kt] 38))):=S1.out.trans (hbw.mono S1.out.size)
         have X4:Hid (PBox (wr.alloc (.cells #[.int .i64 kw,.int .i64 kf,.int .i64 kt] 38)) w.heap.size p (.slice a p.ships.length cap)):=X1.out.later hbw X1.out.lt
         have R4:Hid (Arr (wr.alloc (.cells #[.int .i64 kw,.int .i64 kf,.int .i64 kt] 38)) (w.heap.size+1) zero300):=R1.out.later hbw R1.out.lt
         have F4:Hid (Arr (wr.alloc (.cells #[.int .i64 kw,.int .i64 kf,.int .i64 kt] 38)) (w.heap.size+2) (f.set t (16 - p.shut - sh - ka))):=F1.out.later hbw F1.out.lt
         have F5:Hid (Arr (wr.alloc (.cells #[.int .i64 kw,.int .i64 kf,.int .i64 kt] 38)) (w.heap.size+2) (f.set t (16 - p.shut - sh - jbh (p.kept.take (j+1)) t))):=by
          have:=F4.out
          rw [show 16 - p.shut - sh - jbh (p.kept.take (j+1)) t=16 - p.shut - sh - ka by have:=TS2.out;omega]
          exact this
         go_wp2
         go_roundg (4 - (j+1))
         case measure=>omega
         case rel=>exact⟨j+1,by go_num,by omega,Nat.le_refl _,S4,X4,R4,F5⟩
       ·have hje:j=4:=by omega
        have HB:Hid (ja3 p t=16 - p.shut - sh - jbh p.kept t):=by show _=_;unfold ja3;rw [if_pos hn,SH.out] <;> omega
        have F2:Hid (Arr wr (w.heap.size+2) (f.set t (16 - p.shut - sh - jbh p.kept t))):=by
         have:=F1.out
         rw [hje,List.take_of_length_le (by omega)] at this
         exact this
        have hkb:=jfh p.kept t (fun k hk=>HP.out.kept k hk)
        have q0:=F2.out.cell t hlt
        rw [jf4 _ _ _ _ (by rw [FL.out];exact hlt),if_pos rfl] at q0
        have F1L:Hid (f.length=300):=FL.out
        clear hje F1
        generalize jbh p.kept t=ka at *
        have hj3:¬ ((j:Int) < 4):=by omega
        clear hjl hj hg3
        have EE:Hid (∀ j:Nat,j < t+1→(f.set t (16 - p.shut - sh - ka)).getD j 0=ja3 p j):=fun j hj=>by
         rw [jf4 _ _ _ _ (by rw [F1L.out];exact hlt)]
         by_cases e:j=t
         ·rw [if_pos e,e,HB.out]
         ·rw [if_neg e];exact E2.out j (by omega)
        generalize hok:okTo p t=ok at *
        have OK:Hid (okTo p t=ok):=hok
        clear hok
        cases ok
        case false =>
         have OK2:Hid (okTo p (t+1)=false):=by show okTo p (t+1)=false;rw [jgy,OK.out];rfl
         go_wp2
         go_roundg (300 - (t+1))
         case measure=>omega
         case rel=>exact⟨t+1,f.set t (16 - p.shut - sh - ka),by go_num,by rw [OK2.out],by omega,Nat.le_refl _,S1,X1,R1,F2,EE⟩
        case true =>
         have OK2:Hid (okTo p (t+1)=decide (0≤16 - p.shut - sh - ka)):=by show okTo p (t+1)=decide (0≤16 - p.shut - sh - ka);rw [jgy,OK.out,HB.out];rfl
         go_wp2
         all_goals
          go_roundg (300 - (t+1))
          case measure=>omega
          case rel=>exact⟨t+1,f.set t (16 - p.shut - sh - ka),by go_num,by rw [OK2.out] <;> first|rfl|(simp;done)|(simp;omega),by omega,Nat.le_refl _,S1,X1,R1,F2,EE⟩
   ·have HB:Hid (ja3 p t=16 - p.shut):=by show ja3 p t=16 - p.shut;unfold ja3;rw [if_neg hn];omega
    have EE:Hid (∀ j:Nat,j < t+1→(f.set t (16 - p.shut)).getD j 0=ja3 p j):=fun j hj=>by
     rw [jf4 _ _ _ _ (by rw [F1.out.1];exact hlt)]
     by_cases e:j=t
     ·rw [if_pos e,e,HB.out]
     ·rw [if_neg e];exact E1.out j (by omega)
    generalize hok:okTo p t=ok at *
    have OK:Hid (okTo p t=ok):=hok
    clear hok
    cases ok
    case false =>
     have OK2:Hid (okTo p (t+1)=false):=by show okTo p (t+1)=false;rw [jgy,OK.out];rfl
     go_wp2
     go_roundg (300 - (t+1))
     case measure=>omega
     case rel=>exact⟨t+1,f.set t (16 - p.shut),by go_num,by rw [OK2.out],by omega,Nat.le_refl _,S2.out _,X2.out _,R2.out _,F2.out _,EE⟩
    case true =>
     have OK2:Hid (okTo p (t+1)=decide (0≤16 - p.shut)):=by show okTo p (t+1)=decide (0≤16 - p.shut);rw [jgy,OK.out,HB.out];rfl
     go_wp2
     all_goals
      go_roundg (300 - (t+1))
      case measure=>omega
      case rel=>exact⟨t+1,f.set t (16 - p.shut),by go_num,by rw [OK2.out] <;> first|rfl|(simp;done)|(simp;omega),by omega,Nat.le_refl _,S2.out _,X2.out _,R2.out _,F2.out _,EE⟩
  ·have hte:t=300:=by omega
   have FL:Hid (f.length=300):=F1.out.1
   have EF:Hid (∀ j:Nat,j < 300→f.getD j 0=ja3 p j):=by have:=E1.out;rw [hte] at this;exact this
   have OF:Hid (okTo p t=okTo p 300):=by show _=_;rw [hte]
   clear hte
   rw [OF.out]
   have ht3:¬ ((t:Int) < 300):=by omega
   clear hlt ht hg
   go_wp2_with (first|(refine jco rfl _ rfl (w.heap.size+2) f rfl F1.out ?_)|(refine ja1 rfl _ _ rfl (w.heap.size+1) zero300 f rfl rfl R1.out FL.out ?_;intro w9 hw9 hs9))
   refine bodyPost_ret (v:=.tuple #[.agg (ic f).toArray,.bool (okTo p 300)]) (jgk Tryz.results36 _ _ (w.heap.size+1) f rfl hw9.out.1) rfl ?_
   exact⟨f,rfl,FL.out,EF.out,S1.out.trans (hw9.out.2.2 _ (by omega))⟩
def jb6 (p:Pt) (k:Nat):Prop :=
 (0≤p.now∧p.now≤299)∧(0≤p.shut∧p.shut≤16)∧p.ships.length < 15∧(0≤p.next∧p.next≤1048576) ∧
 (∀ i s,i < k→p.ships[i]?=some s→jce s p.now∧s.qu < p.next)∧∀ (i j:Nat) (r s:Ship),i < j→j < k→p.ships[i]?=some r→p.ships[j]?=some s→r.qu≠s.qu
theorem jb6.succ {p:Pt} {k:Nat} {s:Ship} (hs:p.ships[k]?=some s):jb6 p (k+1)↔jb6 p k∧(jce s p.now∧s.qu < p.next)∧∀ (i:Nat) (r:Ship),i < k→p.ships[i]?=some r→r.qu≠s.qu:=by
 unfold jb6
 constructor
 ·rintro ⟨a,b,c,d,e,f⟩
  exact⟨⟨a,b,c,d,fun i s hi=>e i s (by omega),fun i j r s hij hj=>f i j r s hij (by omega)⟩,e k s (by omega) hs,fun i r hi hr=>f i k r s hi (by omega) hr hs⟩
 ·rintro ⟨⟨a,b,c,d,e,f⟩,g,h⟩
  refine⟨a,b,c,d,fun i s' hi hs'=>?_,fun i j r s' hij hj hr hs'=>?_⟩
  ·by_cases x:i=k
   ·subst x;rw [hs] at hs';injection hs' with hs';subst hs';exact g
   ·exact e i s' (by omega) hs'
  ·by_cases x:j=k
   ·subst x;rw [hs] at hs';injection hs' with hs';subst hs';exact h i r hij hr
   ·exact f i j r s' hij (by omega) hr hs'
theorem jkc {p:Pt} (h4:p.kept.length=4):jaj p↔(jb6 p p.ships.length∧∀ k∈p.kept,jb2 k)∧okTo p 300=true:=by
 unfold okTo
 rw [decide_eq_true_iff]
 constructor
 ·rintro ⟨h,hb⟩
  exact⟨⟨⟨h.now,h.shut,h.len,h.next,fun i s _ hs=>h.ship s (List.mem_of_getElem? hs),fun i j r s hij _ hr hs=>h.once i j r s hij hr hs⟩,h.kept⟩,fun j hj=>hb j (by omega) (by omega)⟩
 ·rintro ⟨⟨⟨a,b,c,d,e,f⟩,g⟩,hb⟩
  refine⟨⟨a,b,c,d,fun s hs=>?_,fun i j r s hij hr hs=>f i j r s hij (List.getElem?_eq_some_iff.1 hs).1 hr hs,h4,g⟩,fun t h0 h3=>?_⟩
  ·obtain⟨i,hi,rfl⟩:=List.mem_iff_getElem.1 hs
   exact e i _ hi (List.getElem?_eq_getElem hi)
  ·have:=hb t.toNat (by omega)
   rwa [show((t.toNat:Nat):Int)=t by omega] at this
theorem jtc {p:Pt} (h4:p.kept.length=4) (h:jb6 p p.ships.length∧∀ k∈p.kept,jb2 k):jnv p:=by
 obtain⟨⟨a,b,c,d,e,f⟩,g⟩:=h
 refine ja4.baseIn ⟨a,b,c,d,fun s hs=>?_,fun i j r s hij hr hs=>f i j r s hij (List.getElem?_eq_some_iff.1 hs).1 hr hs,h4,g⟩
 obtain⟨i,hi,rfl⟩:=List.mem_iff_getElem.1 hs
 exact e i _ hi (List.getElem?_eq_getElem hi)
theorem ju6 (k:Kp) (w:World):(binOp .eql 38 (.agg #[.int .i64 k.wd,.int .i64 k.fr,.int .i64 k.to]) (.agg #[.int .i64 0,.int .i64 0,.int .i64 0])).run Tryz.prog w=.ok (.bool (decide (k.wd=0∧k.fr=0∧k.to=0))) w:=by
 have u3:=Tryz.underlying3
 have a3:=Tryz.isAgg3
 have z3:=Tryz.sizeOf3
 have hS:Tryz.prog.underlying 38=some (.struct (Tryz.prog.fieldsOf 38)):=by kernel_rfl
 have hp:Tryz.prog.stoodInHeld 38=false:=by kernel_rfl
 rw [run_eql_struct,show(10000:Nat)=9999+1 from rfl,run_equalIn_agg w 9999 38 _ _ hS hp]
 simp only [Program.fieldsOf,Tryz.underlying38]
 go_simp
 by_cases h1:k.wd=0 <;> by_cases h2:k.fr=0 <;> by_cases h3:k.to=0 <;> simp [h1,h2,h3]
theorem jbx (v:Value) (p:Pt) (w:World) (hv:PtV w v p) :
  Calls Tryz.prog 55 #[v] w fun e w'=>IsB e (jaj p)∧Below w.heap.size w w':=by
 obtain⟨vs,rfl,hvs,h4,hmx⟩:=hv
 have HPV:Hid (PtV w (.agg (jaa p vs).toArray) p):=⟨vs,rfl,hvs,h4,hmx⟩
 obtain⟨a,cap,rfl,hcap,hrd⟩:=hvs
 have X0:Hid (PBox (w.alloc (.cells (jaa p (.slice a p.ships.length cap)).toArray 41)) w.heap.size p (.slice a p.ships.length cap)):=PBox.new w p _ h4
 have B0:Hid (Below w.heap.size w (w.alloc (.cells (jaa p (.slice a p.ships.length cap)).toArray 41))):=(Below.refl _ w).alloc (Nat.le_refl _) _
 have HR:Hid (p.ships=[]∨∃ b off,a=some ⟨b,off,none⟩∧RdK cShip w b off p.ships):=hrd
 obtain⟨pc0,pc1,pc14,pc15⟩:=X0.out.cells
 clear hrd
 generalize hPC:(jaa p (.slice a p.ships.length cap)).toArray=PC at *
 have HPC:Hid ((jaa p (.slice a p.ships.length cap)).toArray=PC):=hPC
 clear hPC
 have HW:=fun n lo hi W=>jag n lo hi W
 have HN:Hid (∀ b:Bool,(b=true↔jb6 p 0)↔(b=true↔((inR p.now 0 299 && inR p.shut 0 16 && decide (p.ships.length < 15) && inR p.next 0 1048576)=true))):=fun b=>by
  have:jb6 p 0↔((inR p.now 0 299 && inR p.shut 0 16 && decide (p.ships.length < 15) && inR p.next 0 1048576)=true):=by
   unfold jb6 inR
   simp [and_assoc]
  rw [this]
 have hz2:((p.ships.length:Nat):Int) < 15↔p.ships.length < 15:=by omega
 go_enter Tryz.func55,Tryz.ntmps55
 go_upto_region 1 with fail
 go_cut [3] (fun s3 wc=>∃ b:Bool,s3=.bool b∧wc=w.alloc (.cells PC 41)∧Hid (b=true↔jb6 p 0))
 case first =>
  rcases jgb p.now 0 299 with b1|b1
  case inr =>
   go_wp2_with (go_at_call 31;refine(jag _ _ _ _).mono ?_;rintro e w' ⟨rfl,rfl⟩)
   go_meet
   case rel=>exact⟨false,rfl,rfl,(HN.out false).2 (by simp [b1])⟩
  rcases jgb p.shut 0 16 with b2|b2
  case inr =>
   go_wp2_with (go_at_call 31;refine(jag _ _ _ _).mono ?_;rintro e w' ⟨rfl,rfl⟩)
   go_meet
   case rel=>exact⟨false,rfl,rfl,(HN.out false).2 (by simp [b1,b2])⟩
  by_cases b3:(p.ships.length:Int) < 15
  case neg =>
   have hd3:decide ((p.ships.length:Int) < 15)=false:=decide_eq_false b3
   have hd4:¬ p.ships.length < 15:=by omega
   go_wp2_with (go_at_call 31;refine(jag _ _ _ _).mono ?_;rintro e w' ⟨rfl,rfl⟩)
   go_meet
   case rel=>exact⟨false,rfl,rfl,(HN.out false).2 (by simp [b1,b2,hd4])⟩
  have hd4:p.ships.length < 15:=by omega
  rcases jgb p.next 0 1048576 with b4|b4
  case inr =>
   go_wp2_with (go_at_call 31;refine(jag _ _ _ _).mono ?_;rintro e w' ⟨rfl,rfl⟩)
   go_meet
   case rel=>exact⟨false,rfl,rfl,(HN.out false).2 (by simp [b1,b2,hd4,b4])⟩
  go_wp2_with (go_at_call 31;refine(jag _ _ _ _).mono ?_;rintro e w' ⟨rfl,rfl⟩)
  go_meet
  case rel=>exact⟨true,rfl,rfl,(HN.out true).2 (by simp [b1,b2,hd4,b4])⟩
 case rest =>
  obtain⟨b,rfl,rfl,HB⟩:=hcut
  generalize w.alloc (.cells PC 41)=WA at *
  go_wp2_with fail
  clear pc0 pc1 pc14 pc15
  go_loopg [3,32] p.ships.length (fun kx s3 s32 wr=>∃ (k:Nat) (b:Bool),s32=.int .i64 k∧s3=.bool b∧k≤p.ships.length∧p.ships.length - k≤kx∧Hid (Below w.heap.size w wr)∧Hid (PBox wr w.heap.size p (.slice a p.ships.length cap))∧Hid (b=true↔jb6 p k))
  case atStart=>exact⟨0,b,rfl,rfl,Nat.zero_le _,by omega,B0,X0,HB⟩
  case round =>
   clear B0 X0 HB
   obtain⟨k,b,rfl,rfl,hk,hg,S1,X1,I⟩:=hrel
   by_cases hkl:k < p.ships.length
   ·obtain⟨s,hs⟩:∃ s,p.ships[k]?=some s:=⟨p.ships[k],List.getElem?_eq_getElem hkl⟩
    obtain⟨bb,off,rfl,hrd⟩:∃ b off,a=some ⟨b,off,none⟩∧RdK cShip w b off p.ships:=by
     rcases HR.out with h|h
     ·rw [h] at hkl;simp at hkl
     ·exact h
    have HS:Hid (p.ships[k]?=some s):=hs
    have HRD:Hid (RdK cShip w bb off p.ships):=hrd
    obtain⟨c0,c1,c2,c3,c4,c5⟩:=(hrd.below S1.out).ship hs
    obtain⟨pc0,pc1,pc14,pc15⟩:=X1.out.cells
    have hbw:Below wr.heap.size wr (wr.alloc (.cells #[.int .i64 s.st,.int .i64 s.wd,.int .i64 s.lg,.int .i64 s.cl,.int .i64 s.si,.int .i64 s.qu] 46)):=(Below.refl _ wr).alloc (Nat.le_refl _) _
    have S4:Hid (Below w.heap.size w (wr.alloc (.cells #[.int .i64 s.st,.int .i64 s.wd,.int .i64 s.lg,.int .i64 s.cl,.int .i64 s.si,.int .i64 s.qu] 46))):=S1.out.trans (hbw.mono S1.out.size)
    have X4:Hid (PBox (wr.alloc (.cells #[.int .i64 s.st,.int .i64 s.wd,.int .i64 s.lg,.int .i64 s.cl,.int .i64 s.si,.int .i64 s.qu] 46)) w.heap.size p (.slice (some ⟨bb,off,none⟩) p.ships.length cap)):=X1.out.later hbw X1.out.lt
    have N4:Hid ((wr.alloc (.cells #[.int .i64 s.st,.int .i64 s.wd,.int .i64 s.lg,.int .i64 s.cl,.int .i64 s.si,.int .i64 s.qu] 46)).heap[wr.heap.size]?=some (.cells #[.int .i64 s.st,.int .i64 s.wd,.int .i64 s.lg,.int .i64 s.cl,.int .i64 s.si,.int .i64 s.qu] 46)):=heap_alloc_new wr _
    have hk3:(k:Int) < (p.ships.length:Int):=by omega
    clear hs hrd hbw
    go_upto_region 5 with fail
    clear c0 c1 c2 c3 c4 c5 pc0 pc1 pc14 pc15 S1 X1
    generalize wr.alloc (.cells #[.int .i64 s.st,.int .i64 s.wd,.int .i64 s.lg,.int .i64 s.cl,.int .i64 s.si,.int .i64 s.qu] 46)=WB at *
    generalize wr.heap.size=gs at *
    have n0:∀ i u,(cShip s)[i]?=some u→WB.cell? ⟨gs,i,none⟩=some u:=fun i u hu=>by rw [cell_of_row _ _ _ _ _ _ N4.out];simpa [cShip] using hu
    have k0:=n0 0 _ rfl;have k1:=n0 1 _ rfl;have k2:=n0 2 _ rfl;have k3:=n0 3 _ rfl;have k4:=n0 4 _ rfl;have k5:=n0 5 _ rfl
    obtain⟨pc0,pc1,pc14,pc15⟩:=X4.out.cells
    clear n0
    go_cut [3] (fun s3 wc=>∃ b2:Bool,s3=.bool b2∧Hid (Below w.heap.size w wc∧PBox wc w.heap.size p (.slice (some ⟨bb,off,none⟩) p.ships.length cap)∧wc.cell? ⟨gs,5,none⟩=some (.int .i64 s.qu))∧Hid (b2=true↔(b=true∧jce s p.now∧s.qu < p.next)))
    case first =>
     have HI:=fun W=>jk7 s p.now W
     simp only [cShip] at HI
     cases b
     case false =>
      go_wp2
      go_meet
      case rel=>exact⟨false,rfl,⟨S4.out,X4.out,k5⟩,(by simp:false=true↔(false=true∧jce s p.now∧s.qu < p.next))⟩
     case true =>
      generalize hib:jbc s p.now=ib at HI
      have IB:Hid (jbc s p.now=ib):=hib
      clear hib
      go_wp2_with fail
      refine(HI _).mono ?_
      rintro e w5 ⟨rfl,hb5⟩
      have F5:Hid (Below w.heap.size w w5∧PBox w5 w.heap.size p (.slice (some ⟨bb,off,none⟩) p.ships.length cap)∧w5.cell? ⟨gs,5,none⟩=some (.int .i64 s.qu)):=⟨S4.out.trans (hb5.mono S4.out.size),X4.out.later hb5 X4.out.lt,(hb5.cell (World.block_lt_of_cell? WB _ k5)).trans k5⟩
      have k5':=F5.out.2.2
      have pc15':=F5.out.2.1.cells.2.2.2
      clear hb5
      cases ib
      case false =>
       have NI:¬ jce s p.now:=fun h=>by have:=jcs.2 h;rw [IB.out] at this;cases this
       have NN:Hid (false=true↔(true=true∧jce s p.now∧s.qu < p.next)):=⟨fun h=>(by cases h),fun h=>absurd h.2.1 NI⟩
       clear NI
       go_wp2
       go_meet
       case rel=>exact⟨false,rfl,F5,NN⟩
      case true =>
       have YI:jce s p.now:=jcs.1 IB.out
       by_cases hq:s.qu < p.next
       ·have YH:Hid (jce s p.now∧s.qu < p.next):=⟨YI,hq⟩
        clear YI
        go_wp2
        go_meet
        case rel=>exact⟨true,by first|rfl|simp [hq],F5,(by show _↔_;exact⟨fun _=>⟨by first|trivial|rfl,YH.out.1,YH.out.2⟩,fun _=>by first|trivial|rfl⟩)⟩
       ·have NN:Hid (false=true↔(true=true∧jce s p.now∧s.qu < p.next)):=⟨fun h=>(by cases h),fun h=>absurd h.2.2 hq⟩
        clear YI
        go_wp2
        go_meet
        case rel=>exact⟨false,by first|rfl|(simp;omega)|simp [hq],F5,NN⟩
    case rest =>
     obtain⟨b2,rfl,FW,J⟩:=hcut
     clear S4 X4 N4 k0 k1 k2 k3 k4 k5 pc0 pc1 pc14 pc15
     obtain⟨pc0,pc1,pc14,pc15⟩:=FW.out.2.1.cells
     have S5:Hid (Below w.heap.size w wc):=FW.out.1
     have X5:Hid (PBox wc w.heap.size p (.slice (some ⟨bb,off,none⟩) p.ships.length cap)):=FW.out.2.1
     have M5:Hid (wc.cell? ⟨gs,5,none⟩=some (.int .i64 s.qu)):=FW.out.2.2
     clear FW
     have hk4:(k:Int)≤(p.ships.length:Int):=by omega
     have hk5:(k:Int)≤(cap:Int):=by omega
     have hk6:k≤cap:=by omega
     go_wp2_with fail
     clear pc0 pc1 pc14 pc15
     have I0:Hid (Iffb b2 (b2=true∧∀ (i:Nat) (r:Ship),i < 0→p.ships[i]?=some r→r.qu≠s.qu)):=⟨fun h=>⟨h,fun i r hi=>absurd hi (Nat.not_lt_zero _)⟩,fun h=>h.1⟩
     go_loopg [3,56] p.ships.length (fun kx s3 s56 wr=>∃ (j:Nat) (b3:Bool),s56=.int .i64 j∧s3=.bool b3∧j≤k∧k - j≤kx∧Hid (Below w.heap.size w wr)∧Hid (PBox wr w.heap.size p (.slice (some ⟨bb,off,none⟩) p.ships.length cap))∧Hid (wr.cell? ⟨gs,5,none⟩=some (.int .i64 s.qu))∧Hid (Iffb b3 (b2=true∧∀ (i:Nat) (r:Ship),i < j→p.ships[i]?=some r→r.qu≠s.qu)))
     case atStart=>exact⟨0,b2,rfl,rfl,Nat.zero_le _,by omega,S5,X5,M5,I0⟩
     case round =>
      clear S5 X5 M5 I0
      obtain⟨j,b3,rfl,rfl,hj,hg2,S5,X5,M5,I3⟩:=hrel
      by_cases hjl:j < k
      ·obtain⟨r,hr⟩:∃ r,p.ships[j]?=some r:=⟨p.ships[j]'(by omega),List.getElem?_eq_getElem (by omega)⟩
       obtain⟨c0,c1,c2,c3,c4,c5⟩:=(HRD.out.below S5.out).ship hr
       have HRR:Hid (p.ships[j]?=some r):=hr
       clear hr
       have m5:=M5.out
       have hbw:Below wr.heap.size wr (wr.alloc (.cells #[.int .i64 r.st,.int .i64 r.wd,.int .i64 r.lg,.int .i64 r.cl,.int .i64 r.si,.int .i64 r.qu] 46)):=(Below.refl _ wr).alloc (Nat.le_refl _) _
       have S6:Hid (Below w.heap.size w (wr.alloc (.cells #[.int .i64 r.st,.int .i64 r.wd,.int .i64 r.lg,.int .i64 r.cl,.int .i64 r.si,.int .i64 r.qu] 46))):=S5.out.trans (hbw.mono S5.out.size)
       have X6:Hid (PBox (wr.alloc (.cells #[.int .i64 r.st,.int .i64 r.wd,.int .i64 r.lg,.int .i64 r.cl,.int .i64 r.si,.int .i64 r.qu] 46)) w.heap.size p (.slice (some ⟨bb,off,none⟩) p.ships.length cap)):=X5.out.later hbw X5.out.lt
       have M6:Hid ((wr.alloc (.cells #[.int .i64 r.st,.int .i64 r.wd,.int .i64 r.lg,.int .i64 r.cl,.int .i64 r.si,.int .i64 r.qu] 46)).cell? ⟨gs,5,none⟩=some (.int .i64 s.qu)):=jd0 M5.out _
       have hgl:gs < wr.heap.size:=World.block_lt_of_cell? wr _ M5.out
       clear hbw
       have hj3:(j:Int) < (k:Int):=by omega
       have hm6:(wr.alloc (.cells #[.int .i64 r.st,.int .i64 r.wd,.int .i64 r.lg,.int .i64 r.cl,.int .i64 r.si,.int .i64 r.qu] 46)).cell? ⟨gs,5,none⟩=some (.int .i64 s.qu):=M6.out
       cases b3
       case false =>
        have I2:Hid (Iffb false (b2=true∧∀ (i:Nat) (r:Ship),i < j+1→p.ships[i]?=some r→r.qu≠s.qu)):=⟨fun h=>(by cases h),fun h=>I3.out.2 ⟨h.1,fun i r hi=>h.2 i r (by omega)⟩⟩
        go_wp2
        go_roundg (k - (j+1))
        case measure=>omega
        case rel=>exact⟨j+1,false,by go_num,rfl,by omega,Nat.le_refl _,S6,X6,M6,I2⟩
       case true =>
        by_cases hq:r.qu=s.qu
        ·have hb:(r.qu != s.qu)=false:=by simp [hq]
         have I2:Hid (Iffb false (b2=true∧∀ (i:Nat) (r:Ship),i < j+1→p.ships[i]?=some r→r.qu≠s.qu)):=⟨fun h=>(by cases h),fun h=>absurd hq (h.2 j r (by omega) HRR.out)⟩
         clear hq
         go_wp2
         go_roundg (k - (j+1))
         case measure=>omega
         case rel=>exact⟨j+1,false,by go_num,by first|rfl|simp [hb],by omega,Nat.le_refl _,S6,X6,M6,I2⟩
        ·have hb:(r.qu != s.qu)=true:=by simp [hq]
         have I2:Hid (Iffb true (b2=true∧∀ (i:Nat) (r:Ship),i < j+1→p.ships[i]?=some r→r.qu≠s.qu)):=⟨fun _=>⟨(I3.out.1 rfl).1,fun i r' hi hr'=>by
          by_cases e:i=j
          ·subst e;rw [HRR.out] at hr';injection hr' with hr';subst hr';exact hq
          ·exact(I3.out.1 rfl).2 i r' (by omega) hr'⟩,fun _=>rfl⟩
         clear hq
         go_wp2
         go_roundg (k - (j+1))
         case measure=>omega
         case rel=>exact⟨j+1,true,by go_num,by first|rfl|simp [hb],by omega,Nat.le_refl _,S6,X6,M6,I2⟩
      ·have hje:j=k:=by omega
       have I2:Hid (b3=true↔jb6 p (k+1)):=by
        have h3:=I3.out
        rw [hje] at h3
        show b3=true↔jb6 p (k+1)
        rw [jb6.succ HS.out]
        exact h3.trans ⟨fun ⟨x,y⟩=>⟨I.out.1 (J.out.1 x).1,(J.out.1 x).2,y⟩,fun ⟨x,y,z⟩=>⟨J.out.2 ⟨I.out.2 x,y⟩,z⟩⟩
       clear hje
       have hj3:¬ ((j:Int) < (k:Int)):=by omega
       go_wp2
       go_roundg (p.ships.length - (k+1))
       case measure=>omega
       case rel=>exact⟨k+1,b3,by go_num,rfl,by omega,Nat.le_refl _,S5,X5,I2⟩
   ·have hke:k=p.ships.length:=by omega
    have I0:Hid (Iffb b (jb6 p p.ships.length∧∀ (i:Nat) (k:Kp),i < 0→p.kept[i]?=some k→jb2 k)):=by
     have h:=I.out
     rw [hke] at h
     exact⟨fun x=>⟨h.1 x,fun i k hi=>absurd hi (Nat.not_lt_zero _)⟩,fun x=>h.2 x.1⟩
    clear hke
    have hk3:¬ ((k:Int) < (p.ships.length:Int)):=by omega
    obtain⟨pc0,pc1,pc14,pc15⟩:=X1.out.cells
    have KR:Hid (wr.rangeAt w.heap.size 2 (jae cKp p.kept)):=X1.out.keeps
    have KL:Hid ((Tryz.prog.info? 39).map (·.size)=some (jae cKp p.kept).length):=by show _=_;rw [ja6 encKp,h4];kernel_rfl
    clear pc0 pc1 pc14 pc15
    go_wp2_with (refine wpList_load_mid rfl 39 _ rfl w.heap.size 2 rfl (jae cKp p.kept) _ KR.out Tryz.underlying39 rfl KL.out ?_)
    go_loopg [3,72] 4 (fun kx s3 s72 wr=>∃ (j:Nat) (b3:Bool),s72=.int .i64 j∧s3=.bool b3∧j≤4∧4 - j≤kx∧Hid (Below w.heap.size w wr)∧Hid (PBox wr w.heap.size p (.slice a p.ships.length cap))∧Hid (Iffb b3 (jb6 p p.ships.length∧∀ (i:Nat) (k:Kp),i < j→p.kept[i]?=some k→jb2 k)))
    case atStart=>exact⟨0,b,rfl,rfl,Nat.zero_le _,by omega,S1,X1,I0⟩
    case round =>
     clear S1 X1 I0 KR I
     obtain⟨j,b3,rfl,rfl,hj,hg2,S1,X1,I3⟩:=hrel
     by_cases hjl:j < 4
     ·obtain⟨kk,hkk⟩:∃ k,p.kept[j]?=some k:=⟨p.kept[j],List.getElem?_eq_getElem (by omega)⟩
      have hix:=fun W=>jf7 p.kept h4 j kk hkk W
      have heq:=fun W=>ju6 kk W
      obtain⟨kw,kf,kt⟩:=kk
      simp only at *
      have HK:Hid (p.kept[j]?=some ⟨kw,kf,kt⟩):=hkk
      clear hkk
      have hj3:(j:Int) < 4:=by omega
      have hbw:Below wr.heap.size wr (wr.alloc (.cells #[.int .i64 kw,.int .i64 kf,.int .i64 kt] 38)):=(Below.refl _ wr).alloc (Nat.le_refl _) _
      have S4:Hid (Below w.heap.size w (wr.alloc (.cells #[.int .i64 kw,.int .i64 kf,.int .i64 kt] 38))):=S1.out.trans (hbw.mono S1.out.size)
      have X4:Hid (PBox (wr.alloc (.cells #[.int .i64 kw,.int .i64 kf,.int .i64 kt] 38)) w.heap.size p (.slice a p.ships.length cap)):=X1.out.later hbw X1.out.lt
      have N4:Hid ((wr.alloc (.cells #[.int .i64 kw,.int .i64 kf,.int .i64 kt] 38)).heap[wr.heap.size]?=some (.cells #[.int .i64 kw,.int .i64 kf,.int .i64 kt] 38)):=heap_alloc_new wr _
      clear hbw S1 X1
      go_upto_region 15 with fail
      generalize wr.alloc (.cells #[.int .i64 kw,.int .i64 kf,.int .i64 kt] 38)=WB at *
      generalize wr.heap.size=gs at *
      have n0:∀ i u,(cKp ⟨kw,kf,kt⟩)[i]?=some u→WB.cell? ⟨gs,i,none⟩=some u:=fun i u hu=>by rw [cell_of_row _ _ _ _ _ _ N4.out];simpa [cKp] using hu
      have k0:=n0 0 _ rfl;have k1:=n0 1 _ rfl;have k2:=n0 2 _ rfl
      clear n0 hix N4
      cases b3
      case false =>
       have I2:Hid (Iffb false (jb6 p p.ships.length∧∀ (i:Nat) (k:Kp),i < j+1→p.kept[i]?=some k→jb2 k)):=⟨fun h=>(by cases h),fun h=>I3.out.2 ⟨h.1,fun i r hi=>h.2 i r (by omega)⟩⟩
       go_wp2_with (go_at_call 31;refine(jag _ _ _ _).mono ?_;rintro e w' ⟨rfl,rfl⟩)
       go_roundg (4 - (j+1))
       case measure=>omega
       case rel=>exact⟨j+1,false,by go_num,by first|rfl|(simp;done)|(simp;omega),by omega,Nat.le_refl _,S4,X4,I2⟩
      case true =>
       by_cases z:kw=0∧kf=0∧kt=0
       ·have hdz:decide (kw=0∧kf=0∧kt=0)=true:=decide_eq_true z
        rw [hdz] at heq
        have YK:jb2 ⟨kw,kf,kt⟩:=Or.inl z
        have I2:Hid (Iffb true (jb6 p p.ships.length∧∀ (i:Nat) (k:Kp),i < j+1→p.kept[i]?=some k→jb2 k)):=⟨fun _=>⟨(I3.out.1 rfl).1,fun i k' hi hk'=>by
         by_cases e:i=j
         ·subst e;rw [HK.out] at hk';injection hk' with hk';subst hk';exact YK
         ·exact(I3.out.1 rfl).2 i k' (by omega) hk'⟩,fun _=>rfl⟩
        clear YK z hdz
        go_wp2_with (go_at_call 31;refine(jag _ _ _ _).mono ?_;rintro e w' ⟨rfl,rfl⟩)
        go_roundg (4 - (j+1))
        case measure=>omega
        case rel=>exact⟨j+1,true,by go_num,by first|rfl|(simp;done)|(simp;omega),by omega,Nat.le_refl _,S4,X4,I2⟩
       ·have hdz:decide (kw=0∧kf=0∧kt=0)=false:=decide_eq_false z
        rw [hdz] at heq
        have HZ:Hid (¬ (kw=0∧kf=0∧kt=0)):=z
        clear z hdz
        rcases jgb kw 1 16 with b1|b1
        case inr =>
         have NK:¬ jb2 ⟨kw,kf,kt⟩:=fun h=>by
          rcases h with h|h
          ·exact HZ.out h
          ·simp only at h;simp [inR] at b1;omega
         have I2:Hid (Iffb false (jb6 p p.ships.length∧∀ (i:Nat) (k:Kp),i < j+1→p.kept[i]?=some k→jb2 k)):=⟨fun h=>(by cases h),fun h=>absurd (h.2 j _ (by omega) HK.out) NK⟩
         clear NK
         go_wp2_with (go_at_call 31;refine(jag _ _ _ _).mono ?_;rintro e w' ⟨rfl,rfl⟩)
         go_roundg (4 - (j+1))
         case measure=>omega
         case rel=>exact⟨j+1,false,by go_num,by first|rfl|(simp;done)|(simp;omega),by omega,Nat.le_refl _,S4,X4,I2⟩
        rcases jgb kf 0 300 with b2|b2
        case inr =>
         have NK:¬ jb2 ⟨kw,kf,kt⟩:=fun h=>by
          rcases h with h|h
          ·exact HZ.out h
          ·simp only at h;simp [inR] at b2;omega
         have I2:Hid (Iffb false (jb6 p p.ships.length∧∀ (i:Nat) (k:Kp),i < j+1→p.kept[i]?=some k→jb2 k)):=⟨fun h=>(by cases h),fun h=>absurd (h.2 j _ (by omega) HK.out) NK⟩
         clear NK
         go_wp2_with (go_at_call 31;refine(jag _ _ _ _).mono ?_;rintro e w' ⟨rfl,rfl⟩)
         go_roundg (4 - (j+1))
         case measure=>omega
         case rel=>exact⟨j+1,false,by go_num,by first|rfl|(simp;done)|(simp;omega),by omega,Nat.le_refl _,S4,X4,I2⟩
        by_cases b3:kf < kt
        case neg =>
         have hd3:decide (kf < kt)=false:=decide_eq_false b3
         have NK:¬ jb2 ⟨kw,kf,kt⟩:=fun h=>by
          rcases h with h|h
          ·exact HZ.out h
          ·simp only at h;omega
         have I2:Hid (Iffb false (jb6 p p.ships.length∧∀ (i:Nat) (k:Kp),i < j+1→p.kept[i]?=some k→jb2 k)):=⟨fun h=>(by cases h),fun h=>absurd (h.2 j _ (by omega) HK.out) NK⟩
         clear NK
         go_wp2_with (go_at_call 31;refine(jag _ _ _ _).mono ?_;rintro e w' ⟨rfl,rfl⟩)
         go_roundg (4 - (j+1))
         case measure=>omega
         case rel=>exact⟨j+1,false,by go_num,by first|rfl|(simp;done)|(simp;omega),by omega,Nat.le_refl _,S4,X4,I2⟩
        by_cases b4:kt≤300
        case neg =>
         have hd4:decide (kt≤300)=false:=decide_eq_false b4
         have NK:¬ jb2 ⟨kw,kf,kt⟩:=fun h=>by
          rcases h with h|h
          ·exact HZ.out h
          ·simp only at h;omega
         have I2:Hid (Iffb false (jb6 p p.ships.length∧∀ (i:Nat) (k:Kp),i < j+1→p.kept[i]?=some k→jb2 k)):=⟨fun h=>(by cases h),fun h=>absurd (h.2 j _ (by omega) HK.out) NK⟩
         clear NK
         go_wp2_with (go_at_call 31;refine(jag _ _ _ _).mono ?_;rintro e w' ⟨rfl,rfl⟩)
         go_roundg (4 - (j+1))
         case measure=>omega
         case rel=>exact⟨j+1,false,by go_num,by first|rfl|(simp;done)|(simp;omega),by omega,Nat.le_refl _,S4,X4,I2⟩
        have YK:jb2 ⟨kw,kf,kt⟩:=Or.inr (by simp [inR] at b1 b2;exact⟨b1,b2,b3,b4⟩)
        have I2:Hid (Iffb true (jb6 p p.ships.length∧∀ (i:Nat) (k:Kp),i < j+1→p.kept[i]?=some k→jb2 k)):=⟨fun _=>⟨(I3.out.1 rfl).1,fun i k' hi hk'=>by
         by_cases e:i=j
         ·subst e;rw [HK.out] at hk';injection hk' with hk';subst hk';exact YK
         ·exact(I3.out.1 rfl).2 i k' (by omega) hk'⟩,fun _=>rfl⟩
        clear YK
        go_wp2_with (go_at_call 31;refine(jag _ _ _ _).mono ?_;rintro e w' ⟨rfl,rfl⟩)
        go_roundg (4 - (j+1))
        case measure=>omega
        case rel=>exact⟨j+1,true,by go_num,by first|rfl|(simp;done)|(simp;omega),by omega,Nat.le_refl _,S4,X4,I2⟩
     ·have hje:j=4:=by omega
      have I4:Hid (Iffb b3 (jb6 p p.ships.length∧∀ k∈p.kept,jb2 k)):=by
       have h:=I3.out
       rw [hje] at h
       refine⟨fun x=>⟨(h.1 x).1,fun k hk=>?_⟩,fun x=>h.2 ⟨x.1,fun i k _ hk=>x.2 k (List.mem_of_getElem? hk)⟩⟩
       obtain⟨i,hi,rfl⟩:=List.mem_iff_getElem.1 hk
       exact(h.1 x).2 i _ (by omega) (List.getElem?_eq_getElem hi)
      clear hje I3
      have hj3:¬ ((j:Int) < 4):=by omega
      cases b3
      case false =>
       have NP:Hid (¬ jaj p):=fun h=>by
        have:=I4.out.2 ((jkc h4).1 h).1
        cases this
       go_wp2
       go_ret
       exact⟨⟨false,rfl,(⟨fun h=>(by cases h),fun h=>absurd h NP.out⟩:false=true↔jaj p)⟩,S1.out⟩
      case true =>
       have BI:Hid (jnv p):=jtc h4 (I4.out.1 rfl)
       have PW:Hid (wr.rangeAt w.heap.size 0 (jaa p (.slice a p.ships.length cap))):=X1.out.whole
       have PV:Hid (PtV wr (.agg (jaa p (.slice a p.ships.length cap)).toArray) p):=by have h:=HPV.out.below S1.out;rw [← HPC.out] at h;exact h
       have PI:=jbg p (.slice a p.ships.length cap) h4
       go_wp2_with (first|refine wpList_load_mid rfl 41 _ rfl w.heap.size 0 rfl (jaa p (.slice a p.ships.length cap)) _ PW.out Tryz.underlying41 rfl PI ?_|(go_at_call 36;refine(jb9 _ p _ PV.out BI.out).mono ?_;rintro e w9 ⟨f,rfl,hf,hfe,hb9⟩;have S9:Hid (Below w.heap.size w w9):=S1.out.trans (hb9.mono S1.out.size);clear hb9 hf hfe))
       go_ret
       exact⟨⟨okTo p 300,rfl,((jkc h4).trans ⟨fun h=>h.2,fun h=>⟨I4.out.1 rfl,h⟩⟩).symm⟩,S9.out⟩
def jmx (x y:Ship):Bool:=!(x.st == y.st && x.wd == y.wd && x.lg == y.lg && x.cl == y.cl && x.si == y.si && x.qu == y.qu)
theorem jj8 {x y:Ship}:jmx x y=false↔x=y:=by
 unfold jmx
 obtain⟨a,b,c,d,e,f⟩:=x
 obtain⟨a',b',c',d',e',f'⟩:=y
 simp [and_assoc]
theorem ju2 (x y:Ship) (w:World):(binOp .neq 46 (.agg #[.int .i64 x.st,.int .i64 x.wd,.int .i64 x.lg,.int .i64 x.cl,.int .i64 x.si,.int .i64 x.qu]) (.agg #[.int .i64 y.st,.int .i64 y.wd,.int .i64 y.lg,.int .i64 y.cl,.int .i64 y.si,.int .i64 y.qu])).run Tryz.prog w=.ok (.bool (jmx x y)) w:=by
 have u3:=Tryz.underlying3
 have a3:=Tryz.isAgg3
 have z3:=Tryz.sizeOf3
 have hS:Tryz.prog.underlying 46=some (.struct (Tryz.prog.fieldsOf 46)):=by kernel_rfl
 have hp:Tryz.prog.stoodInHeld 46=false:=by kernel_rfl
 unfold jmx
 rw [run_neq_struct,show(10000:Nat)=9999+1 from rfl,run_equalIn_agg w 9999 46 _ _ hS hp]
 simp only [Program.fieldsOf,Tryz.underlying46]
 go_simp
 by_cases h1:x.st=y.st
 ·by_cases h2:x.wd=y.wd
  ·by_cases h3:x.lg=y.lg
   ·by_cases h4:x.cl=y.cl
    ·by_cases h5:x.si=y.si
     ·by_cases h6:x.qu=y.qu <;> simp [h1,h2,h3,h4,h5,h6]
     ·simp [h1,h2,h3,h4,h5]
    ·simp [h1,h2,h3,h4]
   ·simp [h1,h2,h3]
  ·simp [h1,h2]
 ·simp [h1]
def eqKp (x y:Kp):Bool:=x.wd == y.wd && x.fr == y.fr && x.to == y.to
theorem jpp {x y:Kp}:eqKp x y=true↔x=y:=by
 unfold eqKp
 obtain⟨a,b,c⟩:=x
 obtain⟨a',b',c'⟩:=y
 simp [and_assoc]
theorem jvj (d:Nat) (x y:Kp) (w:World):(Op.equalIn (d+2) 38 (.agg #[.int .i64 x.wd,.int .i64 x.fr,.int .i64 x.to]) (.agg #[.int .i64 y.wd,.int .i64 y.fr,.int .i64 y.to])).run Tryz.prog w=.ok (eqKp x y) w:=by
 have u3:=Tryz.underlying3
 have a3:=Tryz.isAgg3
 have z3:=Tryz.sizeOf3
 have hS:Tryz.prog.underlying 38=some (.struct (Tryz.prog.fieldsOf 38)):=by kernel_rfl
 have hp:Tryz.prog.stoodInHeld 38=false:=by kernel_rfl
 unfold eqKp
 rw [run_equalIn_agg w (d+1) 38 _ _ hS hp]
 simp only [Program.fieldsOf,Tryz.underlying38]
 go_simp
 by_cases h1:x.wd=y.wd
 ·by_cases h2:x.fr=y.fr
  ·by_cases h3:x.to=y.to <;> simp [h1,h2,h3]
  ·simp [h1,h2]
 ·simp [h1]
theorem jmm (l:List Kp) (j:Nat) (k:Kp) (hj:l[j]?=some k) (w:World):(part 38 (jae cKp l).toArray (j*3)).run Tryz.prog w=.ok (.agg #[.int .i64 k.wd,.int .i64 k.fr,.int .i64 k.to]) w:=by
 have u3:=Tryz.isAgg38
 have z3:=Tryz.sizeOf38
 have e:=jhx l j k hj
 simp only [Sem.run_bind,z3,Result.andThen_ok,part,u3,if_pos,Sem.run_pure,e]
theorem jnc (l m:List Kp) (w:World):∀ is:List Nat,(∀ i∈is,i < l.length∧i < m.length)→∃ r,(Op.eqItems 9999 38 3 (jae cKp l).toArray (jae cKp m).toArray is).run Tryz.prog w=.ok r w∧(r=true↔∀ i∈is,l[i]?=m[i]?)
 | [],_=>⟨true,by simp [Op.eqItems],by simp⟩
 | i::is,h=>by
  obtain⟨r,hr,hi⟩:=jnc l m w is (fun j hj=>h j (List.mem_cons_of_mem _ hj))
  obtain⟨h1,h2⟩:=h i List.mem_cons_self
  have e1:=List.getElem?_eq_getElem h1
  have e2:=List.getElem?_eq_getElem h2
  have p1:=jmm l i _ e1 w
  have p2:=jmm m i _ e2 w
  have p3:=jvj 9997 l[i] m[i] w
  simp only [Op.eqItems,Sem.run_bind,p1,p2,p3,Result.andThen_ok]
  by_cases e:l[i]=m[i]
  ·refine⟨r,by simpa [jpp.2 e] using hr,?_⟩
   rw [hi]
   simp [e1,e2,e]
  ·have:eqKp l[i] m[i]=false:=by cases hq:eqKp l[i] m[i];rfl;exact absurd (jpp.1 hq) e
   refine⟨false,by simp [this],?_⟩
   simp [e1,e2,e]
theorem ju7 (l m:List Kp) (h1:l.length=4) (h2:m.length=4) (w:World):∃ r,(Op.equalIn 10000 39 (.agg (jae cKp l).toArray) (.agg (jae cKp m).toArray)).run Tryz.prog w=.ok r w∧(r=true↔l=m):=by
 have hc:Tryz.prog.cellsOf 38=3:=by kernel_rfl
 obtain⟨i,hi⟩:∃ i,Tryz.prog.info? 38=some i:=by
  have h:(Tryz.prog.info? 38).map (·.size)=some 3:=by kernel_rfl
  cases hq:Tryz.prog.info? 38 with
  | none=>rw [hq] at h;cases h
  | some i=>exact⟨i,rfl⟩
 obtain⟨r,hr,hri⟩:=jnc l m w (List.range 4) (fun i hi=>by rw [List.mem_range] at hi;omega)
 refine⟨r,?_,?_⟩
 ·rw [show(10000:Nat)=9999+1 from rfl,run_equalIn_array w 9999 _ _ Tryz.underlying39 hi,hc,hr]
 ·rw [hri]
  constructor
  ·intro h
   refine List.ext_getElem? fun i=>?_
   by_cases hi:i < 4
   ·exact h i (List.mem_range.2 hi)
   ·rw [List.getElem?_eq_none (by omega),List.getElem?_eq_none (by omega)]
  ·rintro rfl i _
   rfl
end Go.Proofs.YtcmdoeledmkfmacGreatDoor
