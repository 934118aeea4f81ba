/- Texts of this claim, in one: MMath MPair MPut MPut2 MGain. -/
import Derived.Deep.LoopGhost
import Derived.Deep.RegionLaw
import Derived.Laws.CopyOwn
import Derived.Lib.AppendZerosOnto
import Derived.Lib.Overlaps
import Derived.Lib.SliceRun
import Derived.Test.YtcmdoeledmkfmacGreatDoorS1
import Derived.Test.YtcmdoeledmkfmacGreatDoorS2
import Derived.Test.YtcmdoeledmkfmacGreatDoorS9
set_option linter.unusedSimpArgs false
set_option linter.unusedVariables false
set_option maxHeartbeats 40000000
set_option maxRecDepth 100000
namespace Go.Proofs.YtcmdoeledmkfmacGreatDoor
def Up (l:List (Int×Int)):Prop:=l.Pairwise fun a b=>a.1 < b.1
def sumTo:List (Int×Int)→Int→Int
 | [],_=>0
 | x::r,t=>(if x.1≤t then x.2 else 0)+sumTo r t
theorem jee (a b:List (Int×Int)) (t:Int):sumTo (a++b) t=sumTo a t+sumTo b t:=by
 induction a with
 | nil=>simp [sumTo]
 | cons x r ih=>rw [List.cons_append,sumTo,sumTo,ih];omega
theorem Up.rise {l:List (Int×Int)} (h:Up l):Rise l:=fun a b hab hb=>by
 rw [jci (by omega),jci hb]
 exact List.pairwise_iff_getElem.1 h a b (by omega) hb hab
theorem Up.of {l:List (Int×Int)} (h:Rise l):Up l:=List.pairwise_iff_getElem.2 fun i j hi hj hij=>by
 have:=h i j hij hj
 rwa [jci hi,jci hj] at this
theorem jhe {l:List (Int×Int)} {t:Int} (h:∀ x∈l,t < x.1):sumTo l t=0:=by
 induction l with
 | nil=>rfl
 | cons x r ih =>
  rw [sumTo,ih fun y hy=>h y (List.mem_cons_of_mem _ hy),if_neg (by have:=h x List.mem_cons_self;omega)];omega
def Bd (K:Int) (l:List (Int×Int)):Prop:=∀ x∈l,-K≤x.2∧x.2≤K
structure PutIs (l:List (Int×Int)) (a b:Int) (l':List (Int×Int)):Prop where
 up:Up l'
 len:l'.length≤l.length+1
 says:∀ t,sumTo l' t=sumTo l t+if a≤t then b else 0
 bd:∀ K M,0≤K→Bd K l→-M≤b→b≤M→Bd (K+M) l'
theorem jt0 {l:List (Int×Int)} {a:Int} {i:Nat} (h:CutAt l a i):∀ x∈l.take i,x.1 < a:=fun x hx=>by
 obtain⟨k,hk,e⟩:=List.mem_iff_getElem.1 hx
 rw [List.length_take] at hk
 rw [List.getElem_take] at e
 have:=h.2.1 k (by omega)
 rw [jci (by omega),e] at this
 exact this
theorem jt1 {l:List (Int×Int)} {a:Int} {i:Nat} (h:CutAt l a i):∀ x∈l.drop i,a≤x.1:=fun x hx=>by
 obtain⟨k,hk,e⟩:=List.mem_iff_getElem.1 hx
 rw [List.length_drop] at hk
 rw [List.getElem_drop] at e
 have:=h.2.2 (i+k) (by omega) (by omega)
 rw [jci (by omega),e] at this
 exact this
theorem jrp {l:List (Int×Int)} {a b:Int} {i:Nat} (hu:Up l) (h:CutAt l a i) (hf:fnd l a i=false):PutIs l a b (l.take i++(a,b)::l.drop i):=by
 have hi:=h.1
 have hlt:∀ x∈l.drop i,a < x.1:=fun x hx=>by
  have h1:=jt1 h x hx
  obtain⟨k,hk,e⟩:=List.mem_iff_getElem.1 hx
  rw [List.length_drop] at hk
  rw [List.getElem_drop] at e
  have h2:¬ (sAt l i).1=a:=fun c=>by
   have:fnd l a i=true:=by unfold fnd;exact decide_eq_true ⟨by omega,c⟩
   rw [hf] at this;cases this
  have h0:=h.2.2 i (Nat.le_refl _) (by omega)
  by_cases c:k=0
  ·subst c
   rw [jci (by omega)] at h2
   have e':l[i]'(by omega)=x:=by simpa using e
   rw [e'] at h2
   omega
  ·have h3:=hu.rise i (i+k) (by omega) (by omega)
   rw [jci (by omega:i+k < l.length),e] at h3
   omega
 refine⟨?_,by simp;omega,fun t=>?_,fun K M hK hB h1 h2=>?_⟩
 ·refine List.pairwise_append.2 ⟨hu.sublist (List.take_sublist _ _),List.pairwise_cons.2 ⟨fun x hx=>hlt x hx,hu.sublist (List.drop_sublist _ _)⟩,fun x hx y hy=>?_⟩
  have hx':=jt0 h x hx
  rcases List.mem_cons.1 hy with e|e
  ·rw [e];exact hx'
  ·have:=hlt y e;show x.1 < y.1;omega
 ·rw [jee,sumTo]
  have:sumTo l t=sumTo (l.take i) t+sumTo (l.drop i) t:=by rw [← jee,List.take_append_drop]
  rw [this]
  show _+((if a≤t then b else 0)+_)=_
  omega
 ·intro x hx
  rcases List.mem_append.1 hx with hx|hx
  ·have:=hB x (List.mem_of_mem_take hx);omega
  ·rcases List.mem_cons.1 hx with e|e
   ·rw [e];show -(K+M)≤b∧b≤K+M;omega
   ·have:=hB x (List.mem_of_mem_drop e);omega
theorem juz {l:List (Int×Int)} {a b y:Int} {i:Nat} (hu:Up l) (hi:i < l.length) (he:l[i]=(a,y)):PutIs l a b (l.set i (a,y+b)):=by
 have hs:l=l.take i++(a,y)::l.drop (i+1):=by
  rw [← he,← List.drop_eq_getElem_cons hi,List.take_append_drop]
 have hs':l.set i (a,y+b)=l.take i++(a,y+b)::l.drop (i+1):=List.set_eq_take_append_cons_drop .. |>.trans (if_pos hi)
 refine⟨?_,by simp,fun t=>?_,fun K M hK hB h1 h2=>?_⟩
 ·rw [hs']
  rw [hs] at hu
  obtain⟨h1,h2,h3⟩:=List.pairwise_append.1 hu
  obtain⟨h4,h5⟩:=List.pairwise_cons.1 h2
  refine List.pairwise_append.2 ⟨h1,List.pairwise_cons.2 ⟨fun x hx=>h4 x hx,h5⟩,fun x hx z hz=>?_⟩
  rcases List.mem_cons.1 hz with e|e
  ·rw [e];exact h3 x hx (a,y) List.mem_cons_self
  ·exact h3 x hx z (List.mem_cons_of_mem _ e)
 ·rw [hs',jee,sumTo]
  have:sumTo l t=sumTo (l.take i) t+((if a≤t then y else 0)+sumTo (l.drop (i+1)) t):=by
   conv=>lhs;rw [hs,jee,sumTo]
  rw [this]
  show _+((if a≤t then y+b else 0)+_)=_
  split <;> omega
 ·intro x hx
  rcases List.mem_or_eq_of_mem_set hx with h|h
  ·have:=hB x h;omega
  ·have:=hB (a,y) (by rw [← he];exact List.getElem_mem hi)
   rw [h]
   show -(K+M)≤y+b∧y+b≤K+M
   have h3:-K≤y∧y≤K:=this
   omega
def jbi:Int→List (Int×Int)→Int→Bool
 | _,[],_=>false
 | m,x::r,A=>if A≤x.1 then false else if 0 < m+x.2 then true else jbi (m+x.2) r A
theorem jld (A:Int):∀ (r:List (Int×Int)) (m:Int),Up r→(jbi m r A=true↔∃ t,t < A∧(∃ x∈r,x.1≤t)∧0 < m+sumTo r t):=by
 intro r
 induction r with
 | nil =>
  intro m _
  constructor
  ·intro h;cases h
  ·rintro ⟨_,_,⟨x,hx,_⟩,_⟩;cases hx
 | cons x r ih =>
  intro m hu
  obtain⟨h1,h2⟩:=List.pairwise_cons.1 hu
  have hge:∀ y∈x::r,x.1≤y.1:=fun y hy=>by
   rcases List.mem_cons.1 hy with e|e
   ·rw [e];exact Int.le_refl _
   ·have:=h1 y e;omega
  unfold jbi
  by_cases c1:A≤x.1
  ·rw [if_pos c1]
   constructor
   ·intro h;cases h
   ·rintro ⟨t,ht,⟨y,hy,hyt⟩,_⟩
    have:=hge y hy
    omega
  ·rw [if_neg c1]
   by_cases c2:0 < m+x.2
   ·rw [if_pos c2]
    refine⟨fun _=>⟨x.1,by omega,⟨x,List.mem_cons_self,Int.le_refl _⟩,?_⟩,fun _=>rfl⟩
    rw [sumTo,if_pos (Int.le_refl _),jhe fun y hy=>h1 y hy]
    omega
   ·rw [if_neg c2,ih _ h2]
    constructor
    ·rintro ⟨t,ht,⟨y,hy,hyt⟩,hs⟩
     refine⟨t,ht,⟨y,List.mem_cons_of_mem _ hy,hyt⟩,?_⟩
     have:=h1 y hy
     rw [sumTo,if_pos (by omega)]
     omega
    ·rintro ⟨t,ht,⟨y,hy,hyt⟩,hs⟩
     have hx:=hge y hy
     rw [sumTo,if_pos (by omega)] at hs
     by_cases c3:∃ z∈r,z.1≤t
     ·exact⟨t,ht,c3,by omega⟩
     ·exfalso
      rw [jhe fun z hz=>by
       rcases Int.lt_or_le t z.1 with h|h
       ·exact h
       ·exact absurd ⟨z,hz,h⟩ c3] at hs
      omega
theorem jnb {l:List (Int×Int)} (hu:Up l) (A:Int):jbi 0 l A=true↔∃ t,t < A∧0 < sumTo l t:=by
 rw [jld A l 0 hu]
 constructor
 ·rintro ⟨t,h1,_,h2⟩;exact⟨t,h1,by omega⟩
 ·rintro ⟨t,h1,h2⟩
  refine⟨t,h1,?_,by omega⟩
  by_cases c:∃ x∈l,x.1≤t
  ·exact c
  ·rw [jhe fun z hz=>by
    rcases Int.lt_or_le t z.1 with h|h
    ·exact h
    ·exact absurd ⟨z,hz,h⟩ c] at h2
   omega
end Go.Proofs.YtcmdoeledmkfmacGreatDoor
set_option linter.unusedSimpArgs false
set_option linter.unusedVariables false
set_option maxRecDepth 100000
namespace Go.Proofs.YtcmdoeledmkfmacGreatDoor.Pr
open Go.RowKit
theorem infoStep':(Tryz.prog.info? 237).map (fun i=>(i.zero,i.size,i.bytes))=some (some (.agg #[.int .i64 0,.int .i64 0]),2,16):=by kernel_rfl
theorem infoStep:∃ i,Tryz.prog.info? 237=some i∧i.zero=some (.agg #[.int .i64 0,.int .i64 0])∧i.size=2∧i.bytes=16:=by
 have h:=infoStep'
 cases hq:Tryz.prog.info? 237 with
 | none=>rw [hq] at h;cases h
 | some i =>
  rw [hq] at h
  simp at h
  exact⟨i,rfl,h.1,h.2.1,h.2.2⟩
theorem sizeStep:(Tryz.prog.info? 237).map (·.size)=some 2:=by
 obtain⟨i,h1,_,h2,_⟩:=infoStep
 rw [h1];simp [h2]
theorem place1_any (s:Int×Int) (t:Int) (w:World) :
  Calls Tryz.prog 184 #[.agg #[.int .i64 s.1,.int .i64 s.2],.int .i64 t] w fun e w'=>e=.returned (.int .i64 (cmpI s.1 t))∧Below w.heap.size w w':=by
 obtain⟨s1,s2⟩:=s
 simp only
 go_enter Tryz.func184,Tryz.ntmps184
 go_wp2_with (go_at_call 120;refine(jfl _ _ _).mono ?_;rintro e w' ⟨rfl,rfl⟩)
 go_ret
 exact⟨rfl,(Below.refl _ _).alloc (Nat.le_refl _) _⟩
theorem search_any (b off cap:Nat) (l:List (Int×Int)) (t:Int) (w:World) (hr:Rd w b off l) (hn:l.length≤8796093022208) (hs:Rise l) :
  Calls Tryz.prog 183 #[.slice (some ⟨b,off,none⟩) l.length cap,.int .i64 t,.func (.func 184) #[] #[]] w fun e w' =>
   ∃ i:Nat,e=.returned (.tuple #[.int .i64 i,.bool (fnd l t i)])∧CutAt l t i∧Below w.heap.size w w':=by
 have HS:Hid (Rise l):=hs
 have HR:Hid (Rd w b off l):=hr
 have S0:Hid (Below w.heap.size w w):=Below.refl _ _
 clear hs hr
 go_enter Tryz.func183,Tryz.ntmps183
 go_wp2
 go_loopg [9,10] l.length (fun kx s9 s10 wr=>∃ lo hi:Nat,s9=.int .i64 lo∧s10=.int .i64 hi∧lo≤hi∧hi≤l.length∧hi - lo≤kx∧Hid (Below w.heap.size w wr) ∧
  Hid ((∀ k,k < lo→(sAt l k).1 < t)∧(∀ k,hi≤k→k < l.length→t≤(sAt l k).1)))
 case atStart=>exact⟨0,l.length,rfl,rfl,Nat.zero_le _,Nat.le_refl _,by omega,S0,(⟨fun k hk=>absurd hk (Nat.not_lt_zero _),fun k h1 h2=>by omega⟩:(∀ k,k < 0→(sAt l k).1 < t)∧(∀ k,l.length≤k→k < l.length→t≤(sAt l k).1))⟩
 case round =>
  clear S0
  obtain⟨lo,hi,rfl,rfl,hlh,hin,hg,S1,I⟩:=hrel
  by_cases hlt:lo < hi
  ·obtain⟨c0,c1⟩:=(HR.out.below S1.out) ((lo+hi) / 2) (by omega)
   generalize hy:sAt l ((lo+hi) / 2)=y at c0 c1
   have Y:Hid (sAt l ((lo+hi) / 2)=y):=hy
   clear hy
   by_cases hyx:y.1 < t
   ·have hneg:cmpI y.1 t < 0:=jij.2 hyx
    go_wp2_with (go_at_call 184;refine(place1_any y t _).mono ?_;rintro e w' ⟨rfl,hb⟩)
    go_roundg (hi - ((lo+hi) / 2+1))
    case measure=>omega
    case rel =>
     have I2:Hid ((∀ k,k < (lo+hi) / 2+1→(sAt l k).1 < t)∧(∀ k,hi≤k→k < l.length→t≤(sAt l k).1)):=⟨fun k hk=>by
      by_cases hk2:k=(lo+hi) / 2
      ·rw [hk2,Y.out];exact hyx
      ·have:=HS.out k ((lo+hi) / 2) (by omega) (by omega)
       rw [Y.out] at this
       omega,I.out.2⟩
     exact⟨(lo+hi) / 2+1,hi,by rw [show((lo:Int)+(hi:Int)) / 2+1=(((lo+hi) / 2+1:Nat):Int) by omega],rfl,by omega,hin,Nat.le_refl _,S1.out.trans (hb.mono S1.out.size),I2⟩
   ·have hneg:¬ cmpI y.1 t < 0:=fun h=>hyx (jij.1 h)
    go_wp2_with (go_at_call 184;refine(place1_any y t _).mono ?_;rintro e w' ⟨rfl,hb⟩)
    go_roundg ((lo+hi) / 2 - lo)
    case measure=>omega
    case rel =>
     have I2:Hid ((∀ k,k < lo→(sAt l k).1 < t)∧(∀ k,(lo+hi) / 2≤k→k < l.length→t≤(sAt l k).1)):=⟨I.out.1,fun k hk hkl=>by
      by_cases hk2:k=(lo+hi) / 2
      ·rw [hk2,Y.out];omega
      ·have:=HS.out ((lo+hi) / 2) k (by omega) hkl
       rw [Y.out] at this
       omega⟩
     exact⟨lo,(lo+hi) / 2,rfl,by rw [show((lo:Int)+(hi:Int)) / 2=(((lo+hi) / 2:Nat):Int) by omega],by omega,by omega,Nat.le_refl _,S1.out.trans (hb.mono S1.out.size),I2⟩
  ·obtain rfl:hi=lo:=by omega
   have C:Hid (CutAt l t hi):=⟨hin,I.out.1,I.out.2⟩
   by_cases hn2:hi < l.length
   ·obtain⟨c0,c1⟩:=(HR.out.below S1.out) hi hn2
    generalize hy:sAt l hi=y at c0 c1
    have Y:Hid (sAt l hi=y):=hy
    clear hy
    by_cases hyx:y.1=t
    ·have HY:Hid (y.1=t):=hyx
     have hz:(cmpI y.1 t == 0)=true:=beq_iff_eq.2 (jhb.2 hyx)
     clear hyx
     go_wp2_with (go_at_call 184;refine(place1_any y t _).mono ?_;rintro e w' ⟨rfl,hb⟩)
     go_ret2
     exact⟨hi,by unfold fnd;rw [Y.out];simp [hn2,HY.out],C.out,S1.out.trans (hb.mono S1.out.size)⟩
    ·have hz:(cmpI y.1 t == 0)=false:=beq_eq_false_iff_ne.2 fun h=>hyx (jhb.1 h)
     go_wp2_with (go_at_call 184;refine(place1_any y t _).mono ?_;rintro e w' ⟨rfl,hb⟩)
     go_ret2
     exact⟨hi,by unfold fnd;rw [Y.out];simp [hn2,hyx],C.out,S1.out.trans (hb.mono S1.out.size)⟩
   ·go_wp2
    go_ret2
    exact⟨hi,by unfold fnd;simp [hn2],C.out,S1.out⟩
def cells:List (Int×Int)→List Value
 | []=>[]
 | s::r=>.int .i64 s.1::.int .i64 s.2::cells r
theorem cells_append (a b:List (Int×Int)):cells (a++b)=cells a++cells b:=by
 induction a with
 | nil=>rfl
 | cons s r ih=>simp [cells,ih]
theorem cells_length (l:List (Int×Int)):(cells l).length=l.length*2:=by
 induction l with
 | nil=>rfl
 | cons s r ih=>simp [cells,ih];omega
theorem cells_one (l:List (Int×Int)):∀ u∈cells l,u.oneCell'=true:=by
 induction l with
 | nil=>intro u hu;cases hu
 | cons s r ih =>
  intro u hu
  simp [cells] at hu
  rcases hu with rfl|rfl|hu
  ·rfl
  ·rfl
  ·exact ih u hu
theorem cells_get (l:List (Int×Int)):∀ j,j < l.length→(cells l)[j*2]?=some (.int .i64 (sAt l j).1)∧(cells l)[j*2+1]?=some (.int .i64 (sAt l j).2):=by
 induction l with
 | nil=>intro j hj;simp at hj
 | cons s r ih =>
  intro j hj
  cases j with
  | zero=>exact⟨rfl,rfl⟩
  | succ j =>
   have:=ih j (by simpa using hj)
   rw [show(j+1)*2=j*2+1+1 by omega]
   exact this
theorem cells_of_get (l:List (Int×Int)) (j:Nat) (u:Value) (h:(cells l)[j]?=some u):j / 2 < l.length∧(j % 2=0→u=.int .i64 (sAt l (j / 2)).1)∧(j % 2=1→u=.int .i64 (sAt l (j / 2)).2):=by
 have hj:j < (cells l).length:=(List.getElem?_eq_some_iff.1 h).1
 rw [cells_length] at hj
 have hl:j / 2 < l.length:=by omega
 obtain⟨h1,h2⟩:=cells_get l (j / 2) hl
 refine⟨hl,fun e=>?_,fun e=>?_⟩
 ·rw [show j / 2*2=j by omega] at h1;rw [h1] at h;injection h with h;exact h.symm
 ·rw [show j / 2*2+1=j by omega] at h2;rw [h2] at h;injection h with h;exact h.symm
theorem cells_take (l:List (Int×Int)) (i:Nat):(cells l).take (i*2)=cells (l.take i):=by
 induction l generalizing i with
 | nil=>simp [cells]
 | cons s r ih =>
  cases i with
  | zero=>simp [cells]
  | succ i=>rw [show(i+1)*2=i*2+1+1 by omega];simp [cells,ih]
theorem cells_drop (l:List (Int×Int)) (i:Nat):(cells l).drop (i*2)=cells (l.drop i):=by
 induction l generalizing i with
 | nil=>simp [cells]
 | cons s r ih =>
  cases i with
  | zero=>simp [cells]
  | succ i=>rw [show(i+1)*2=i*2+1+1 by omega];simp [cells,ih]
structure OwnG (w:World) (B g cap:Nat) (m:List (Int×Int)):Prop where
 base:B≤g
 le:m.length≤cap
 max:cap≤maxLen
 row:∃ cur:Array Value,w.heap[g]?=some (.cells cur 237 (0,0))∧cur.size=cap*2∧cur.toList.take (m.length*2)=cells m
theorem OwnG.lt {w:World} {B g cap:Nat} {m:List (Int×Int)} (h:OwnG w B g cap m):g < w.heap.size:=by
 obtain⟨cur,hg,_⟩:=h.row
 exact(Array.getElem?_eq_some_iff.1 hg).1
theorem OwnG.mono {w:World} {B B' g cap:Nat} {m:List (Int×Int)} (h:OwnG w B g cap m) (hB:B'≤B):OwnG w B' g cap m:=⟨by have:=h.base;omega,h.le,h.max,h.row⟩
theorem OwnG.at {w:World} {B g cap:Nat} {m:List (Int×Int)} (h:OwnG w B g cap m) {j:Nat} {u:Value} (hu:(cells m)[j]?=some u):w.cell? ⟨g,j,none⟩=some u:=by
 obtain⟨cur,hg,hs,ht⟩:=h.row
 rw [cell_of_row _ _ _ _ _ _ hg]
 rw [← ht,List.getElem?_take] at hu
 split at hu
 ·simpa using hu
 ·cases hu
theorem OwnG.rd {w:World} {B g cap:Nat} {m:List (Int×Int)} (h:OwnG w B g cap m):Rd w g 0 m:=fun j hj=>by
 obtain⟨h1,h2⟩:=cells_get m j hj
 rw [Nat.zero_add]
 exact⟨h.at h1,h.at h2⟩
theorem OwnG.frozen {w:World} {B g cap:Nat} {m:List (Int×Int)} (h:OwnG w B g cap m) (o:Nat):w.frozen? ⟨g,o,none⟩=false:=by
 obtain⟨cur,hg,_⟩:=h.row
 simp [World.frozen?,hg]
theorem OwnG.there {w:World} {B g cap:Nat} {m:List (Int×Int)} (h:OwnG w B g cap m) (o:Nat) (ho:o < cap*2):(w.cell? ⟨g,o,none⟩).isSome=true:=by
 obtain⟨cur,hg,hs,_⟩:=h.row
 rw [cell_of_row _ _ _ _ _ _ hg]
 simp [hs,ho]
theorem OwnG.below {w w':World} {B B' g cap:Nat} {m:List (Int×Int)} (h:OwnG w B g cap m) (hb:Below B' w w') (hB:g < B'):OwnG w' B g cap m:=by
 obtain⟨cur,hg,hr⟩:=h.row
 exact⟨h.base,h.le,h.max,cur,by rw [hb.block g hB];exact hg,hr⟩
theorem OwnG.later {w w':World} {B g cap:Nat} {m:List (Int×Int)} (h:OwnG w B g cap m) (hb:Below w.heap.size w w'):OwnG w' B g cap m:=h.below hb h.lt
theorem OwnG.sl {w:World} {B g cap:Nat} {m:List (Int×Int)} (h:OwnG w B g cap m) (hm:m.length≤8796093022208):Sl w (.slice (some ⟨g,0,none⟩) m.length cap) m :=
 ⟨hm,_,_,rfl,Or.inr ⟨g,0,rfl,h.rd⟩⟩
theorem OwnG.ofRow {w:World} {B:Nat} {v:Value} {m:List (Int×Int)} (h:w.ownsRow B 237 2 v m.length (cells m)) (hv:v≠.slice none 0 0):∃ g cap,v=.slice (some ⟨g,0,none⟩) m.length cap∧OwnG w B g cap m:=by
 rcases h.2 with ⟨rfl,_⟩|⟨g,cap,cur,rfl,h1,h2,h3,h4,h5,h6⟩
 ·exact absurd rfl hv
 ·exact⟨g,cap,rfl,h1,h3,h4,cur,h2,h5,h6⟩
theorem OwnG.toRow {w:World} {B g cap:Nat} {m:List (Int×Int)} (h:OwnG w B g cap m):w.ownsRow B 237 2 (.slice (some ⟨g,0,none⟩) m.length cap) m.length (cells m):=by
 obtain⟨cur,h2,h5,h6⟩:=h.row
 exact⟨cells_length m,Or.inr ⟨g,cap,cur,rfl,h.base,h2,h.le,h.max,h5,h6⟩⟩
theorem OwnG.store {w:World} {B g cap:Nat} {m:List (Int×Int)} (h:OwnG w B g cap m) (k:Nat) (hk:k < m.length) (s:Int×Int) :
  OwnG ((w.setCell ⟨g,k*2,none⟩ (.int .i64 s.1)).setCell ⟨g,k*2+1,none⟩ (.int .i64 s.2)) B g cap (m.set k s):=by
 obtain⟨cur,hg,hs,ht⟩:=h.row
 have h1:(w.setCell ⟨g,k*2,none⟩ (.int .i64 s.1)).heap[g]?=some (.cells (cur.setIfInBounds (k*2) (.int .i64 s.1)) 237 (0,0)):=by
  rw [setCell_eq_setRow w g (k*2) cur _ _ _ hg];exact setRow_heap w g cur _ _ _ hg
 have h2:((w.setCell ⟨g,k*2,none⟩ (.int .i64 s.1)).setCell ⟨g,k*2+1,none⟩ (.int .i64 s.2)).heap[g]?=some (.cells ((cur.setIfInBounds (k*2) (.int .i64 s.1)).setIfInBounds (k*2+1) (.int .i64 s.2)) 237 (0,0)):=by
  rw [setCell_eq_setRow _ g (k*2+1) _ _ _ _ h1];exact setRow_heap _ g _ _ _ _ h1
 refine⟨h.base,by simpa using h.le,h.max,_,h2,by simpa using hs,?_⟩
 have e:∀ (l:List (Int×Int)) (k:Nat),k < l.length→((cells l).set (k*2) (.int .i64 s.1)).set (k*2+1) (.int .i64 s.2)=cells (l.set k s):=by
  intro l
  induction l with
  | nil=>intro k hk;simp at hk
  | cons a r ih =>
   intro k hk
   cases k with
   | zero=>simp [cells]
   | succ k=>rw [show(k+1)*2=k*2+1+1 by omega];simp [cells];exact ih k (by simpa using hk)
 rw [← e m k hk,← ht]
 simp only [Array.toList_setIfInBounds,List.length_set]
 rw [List.take_set,List.take_set]
section
variable (P:Program)
theorem run_copy_rowK (w:World) (dT sT ty elem:TypeId) (k g o dLen dCap:Nat) (a:Addr) (sLen sCap:Nat) (cur:Array Value) (t:TypeId) (cs:List Value)
  (hu:P.underlying dT=some (.slice elem)) (hs:(P.info? elem).map (·.size)=some k)
  (hg:w.heap[g]?=some (.cells cur t (0,0))) (hn:cs.length=Nat.min sLen dLen*k)
  (hsrc:∀ j v,cs[j]?=some v→w.cell? (a.add j)=some v) (hfit:o+cs.length≤cur.size) (h1:∀ v∈cs,v.oneCell'=true) :
  (Builtin.copy_ #[dT,sT] ty #[.slice (some ⟨g,o,none⟩) dLen dCap,.slice (some a) sLen sCap]).run P w =
   .ok (goInt (Nat.min sLen dLen)) (w.setRow g (cur.toList.take o++cs++cur.toList.drop (o+cs.length)).toArray):=by
 have hl:=run_loadCells_list (P:=P) w a cs hsrc
 have hst:=run_storeCells_at P g o t cs 0 cur w hg (by simpa using hfit) h1
 cases hq:P.info? elem with
 | none=>simp [hq] at hs
 | some i =>
  have hi:i.size=k:=by simpa [hq] using hs
  simp [Builtin.copy_,run_underlying hu,Builtin.lenOf,Builtin.firstCells,sizeOf,typeInfo,hq,hi,← hn,hl,hst]
end
theorem wpList_copy_splice2 {P:Program} {w:World} {ops:Array Oper} {rest:List Oper} {o:Oper} {a:Act} {Q:Exit→Act→World→Prop} (hgd:o.guard=none) (d s:Operand) (dT sT:TypeId)
  (ho:o.op=.call { callee:=.builtin .copy,args:=#[d,s],argTypes:=#[dT,sT] }) (elem:TypeId) (hu:P.underlying dT=some (.slice elem)) (hsz:(P.info? elem).map (·.size)=some 2)
  (g off dLen dCap:Nat) (ad:Addr) (sLen sCap:Nat) (hd:a.eval d=.slice (some ⟨g,off,none⟩) dLen dCap) (hs:a.eval s=.slice (some ad) sLen sCap)
  (cur:List Value) (t:TypeId) (hg:w.heap[g]?=some (.cells cur.toArray t (0,0))) (cs:List Value) (hn:cs.length=Nat.min sLen dLen*2)
  (hsrc:∀ j v,cs[j]?=some v→w.cell? (ad.add j)=some v)
  (hfit:off+cs.length≤cur.length) (h1:∀ v∈cs,v.oneCell'=true) (B:Nat) (w0:World) (hb:Below B w0 w) (hBg:B≤g)
  (h:∀ w',Hid (w'.heap[g]?=some (.cells (splice cur off cs).toArray t (0,0))∧(∀ k,k≠g→w'.heap[k]?=w.heap[k]?)∧w'.heap.size=w.heap.size)→Below B w0 w'→wpList P ops Q rest (a.put o.dst (goInt (Nat.min sLen dLen))) w') :
  wpList P ops Q (o::rest) a w:=by
 refine wpList_plain hgd fun K hK=>?_
 have hrun:=run_copy_rowK P w dT sT o.type elem 2 g off dLen dCap ad sLen sCap cur.toArray t cs hu hsz hg hn hsrc (by simpa using hfit) h1
 unfold Oper.wp
 simp [execOp,ho,resolve,invoke,builtin,hd,hs,hrun,Result.andThen]
 refine hK _ _ (h _ ?_ (below_setRow hb hBg _))
 exact⟨by simpa [splice] using setRow_heap w g _ _ t _ hg,fun k hk=>setRow_other w g k _ (by omega),by simp [World.setRow]⟩
theorem step_copy_splice2 {P:Program} {ops:Array Oper} {o:Oper} {a:Act} {w:World} {K:Act→World→Prop} {Q:Exit→Act→World→Prop} {E:Prop} (hgd:o.guard=none) (d s:Operand) (dT sT:TypeId)
  (ho:o.op=.call { callee:=.builtin .copy,args:=#[d,s],argTypes:=#[dT,sT] }) (elem:TypeId) (hu:P.underlying dT=some (.slice elem)) (hsz:(P.info? elem).map (·.size)=some 2)
  (g off dLen dCap:Nat) (ad:Addr) (sLen sCap:Nat) (hd:a.eval d=.slice (some ⟨g,off,none⟩) dLen dCap) (hs:a.eval s=.slice (some ad) sLen sCap)
  (cur:List Value) (t:TypeId) (hg:w.heap[g]?=some (.cells cur.toArray t (0,0))) (cs:List Value) (hn:cs.length=Nat.min sLen dLen*2)
  (hsrc:∀ j v,cs[j]?=some v→w.cell? (ad.add j)=some v)
  (hfit:off+cs.length≤cur.length) (h1:∀ v∈cs,v.oneCell'=true) (B:Nat) (w0:World) (hb:Below B w0 w) (hBg:B≤g)
  (h:∀ w',Hid (w'.heap[g]?=some (.cells (splice cur off cs).toArray t (0,0))∧(∀ k,k≠g→w'.heap[k]?=w.heap[k]?)∧w'.heap.size=w.heap.size)→Below B w0 w'→K (a.put o.dst (goInt (Nat.min sLen dLen))) w') :
  if Region.wanted o (yielded ops a.tmps)=true then Oper.wp P o a w K Q else E:=by
 have hw:Region.wanted o (yielded ops a.tmps)=true:=by simp [Region.wanted,hgd]
 rw [if_pos hw]
 have hrun:=run_copy_rowK P w dT sT o.type elem 2 g off dLen dCap ad sLen sCap cur.toArray t cs hu hsz hg hn hsrc (by simpa using hfit) h1
 unfold Oper.wp
 simp [execOp,ho,resolve,invoke,builtin,hd,hs,hrun,Result.andThen]
 refine h _ ?_ (below_setRow hb hBg _)
 exact⟨by simpa [splice] using setRow_heap w g _ _ t _ hg,fun k hk=>setRow_other w g k _ (by omega),by simp [World.setRow]⟩
theorem insert_end (B g cap vb:Nat) (l:List (Int×Int)) (s:Int×Int) (w:World) (ho:OwnG w B g cap l) (hlen:l.length≤1000)
  (hv:w.heap[vb]?=some (.cells #[.int .i64 s.1,.int .i64 s.2] 237 (0,0))) :
  Calls Tryz.prog 185 #[.slice (some ⟨g,0,none⟩) l.length cap,.int .i64 l.length,.slice (some ⟨vb,0,none⟩) 1 1] w fun e w' =>
   ∃ g' cap',e=.returned (.slice (some ⟨g',0,none⟩) (l.length+1) cap')∧OwnG w' B g' cap' (l++[s])∧Below B w w'∧(∀ k,k < w.heap.size→k≠g→w'.heap[k]?=w.heap[k]?):=by
 obtain⟨i0,hi,hz0,hz1,hz2⟩:=infoStep
 have HI:Hid (Tryz.prog.info? 237=some i0):=hi
 have HZ:Hid (i0.zero=some (.agg #[.int .i64 0,.int .i64 0])∧i0.size=2∧i0.bytes=16):=⟨hz0,hz1,hz2⟩
 have HO:Hid (OwnG w B g cap l):=ho
 have HV:Hid (w.heap[vb]?=some (.cells #[.int .i64 s.1,.int .i64 s.2] 237 (0,0))):=hv
 have hmax:cap≤9223372036854775807:=by have:=ho.max;unfold maxLen at this;exact this
 have hle:=ho.le
 clear ho hv hi hz0 hz1 hz2
 have q1:(cells [s]).length=1*2:=rfl
 have q2:∀ (j:Nat) (u:Value),(cells [s])[j]?=some u→w.cell? ((⟨vb,0,none⟩:Addr).add j)=some u:=fun j u hu=>by
  rw [Addr.add_lit,Nat.zero_add,cell_of_row _ _ _ _ _ _ HV.out]
  simpa [cells] using hu
 have q3:=cells_one [s]
 have q4:l.length+1≤maxLen:=by unfold maxLen;omega
 have q6:B≤w.heap.size:=by have:=HO.out.base;have:=HO.out.lt;omega
 have Q1:Hid ((cells [s]).length=1*2∧(∀ (j:Nat) (u:Value),(cells [s])[j]?=some u→w.cell? ((⟨vb,0,none⟩:Addr).add j)=some u)∧(∀ u∈cells [s],u.oneCell'=true)∧l.length+1≤maxLen∧(l.length+1)*16≤140737488355328∧B≤w.heap.size):=⟨q1,q2,q3,q4,by omega,q6⟩
 clear q1 q2 q3 q4 q6
 go_enter Tryz.func185,Tryz.ntmps185
 go_wp2_with (at_builtin;refine wpList_append_own _ rfl _ _ 154 rfl B 237 i0 (.agg #[.int .i64 0,.int .i64 0]) 2 16 Tryz.underlying154 HI.out HZ.out.1 HZ.out.2.1 HZ.out.2.2 rfl (by omega) _ _ _ rfl HO.out.toRow ⟨vb,0,none⟩ 1 1 (cells [s]) rfl Q1.out.1 Q1.out.2.1 Q1.out.2.2.1 Q1.out.2.2.2.1 Q1.out.2.2.2.2.1 Q1.out.2.2.2.2.2 ?_)
 all_goals
  intro v' w1 hown hgrow hnil
  have hb:Below B w w1:=(Below.refl B w).grown hgrow Q1.out.2.2.2.2.2 (fun k hk=>by simp [Value.ownBlock] at hk;have:=HO.out.base;omega)
  rw [← cells_append,show l.length+1=(l++[s]).length by simp] at hown
  obtain⟨g',cap',rfl,ho⟩:=OwnG.ofRow hown hnil
  have H1:Hid (OwnG w1 B g' cap' (l++[s])):=ho
  have H2:Hid (Below B w w1):=hb
  have H3:Hid (∀ k,k < w.heap.size→k≠g→w1.heap[k]?=w.heap[k]?):=fun k hk hne=>by
   obtain⟨_,_,_,_,h5⟩:=hgrow
   exact h5 k hk (by simp [Value.ownBlock];exact hne)
  clear hown hgrow hnil ho hb
  go_wp2
  go_ret
  exact⟨g',cap',by simp,H1.out,H2.out,H3.out⟩
theorem ins_row (L:List Value) (l:List (Int×Int)) (i:Nat) (s:Int×Int) (hi:i≤l.length) (hL:(l.length+1)*2≤L.length) (h:L.take (l.length*2)=cells l) :
  (splice (splice L ((i+1)*2) (cells (l.drop i))) (i*2) (cells [s])).take ((l.take i++s::l.drop i).length*2)=cells (l.take i++s::l.drop i):=by
 have hl:(l.take i++s::l.drop i).length=l.length+1:=by simp;omega
 have hx:L.take (i*2)=cells (l.take i):=by
  rw [← cells_take,← h,List.take_take]
  congr 1
  omega
 have hX:(cells (l.take i)).length=i*2:=by rw [cells_length,List.length_take];omega
 have hY:(cells (l.drop i)).length=(l.length - i)*2:=by rw [cells_length,List.length_drop]
 have hS:(cells [s]).length=2:=rfl
 have e1:L.take ((i+1)*2)=cells (l.take i)++(L.drop (i*2)).take 2:=by
  rw [← hx,show(i+1)*2=i*2+2 by omega,List.take_add]
 have hZ:((L.drop (i*2)).take 2).length=2:=by rw [List.length_take,List.length_drop];omega
 rw [hl]
 unfold splice
 rw [hS,hY,e1]
 generalize hZd:(L.drop (i*2)).take 2=Z at hZ
 generalize L.drop ((i+1)*2+(l.length - i)*2)=R
 rw [show cells (l.take i++s::l.drop i)=cells (l.take i)++(cells [s]++cells (l.drop i)) by rw [cells_append];rfl]
 generalize cells (l.take i)=X at *
 generalize cells (l.drop i)=Y at *
 generalize cells [s]=S at *
 have a1:(X++Z++(Y++R)).take (i*2)=X:=by rw [List.append_assoc,List.take_append_of_le_length (by omega)];exact List.take_of_length_le (by omega)
 have a2:(X++Z++(Y++R)).drop (i*2+2)=Y++R:=by
  rw [List.drop_append,List.drop_of_length_le (by simp;omega)]
  simp [hX,hZ]
 rw [a1,a2,show X++(S++(Y++R))=(X++(S++Y))++R by simp]
 rw [List.take_append_of_le_length (by simp;omega)]
 exact List.take_of_length_le (by simp;omega)
theorem overlaps_no (w:World) (g vb:Nat) (hne:vb≠g) {cur vcur:Array Value} {t t':TypeId} (hg:w.heap[g]?=some (.cells cur t (0,0))) (h0:cur.size≠0) (hv:w.heap[vb]?=some (.cells vcur t' (0,0))) (off lb cb:Nat) :
  (callFunc 201 #[.slice (some ⟨vb,0,none⟩) 1 1,.slice (some ⟨g,off,none⟩) lb cb]).run Tryz.prog w=.ok (.value (.bool false)) w:=by
 rw [run_callFunc_extern Tryz.func201 (by kernel_rfl) (by kernel_rfl) (by kernel_rfl) (e:=Extern.SlicesOverlaps.overlaps #[154,154] #[4]) (by kernel_rfl),
  Lib.run_overlaps_apart w 154 4 237 Tryz.underlying154 2 Tryz.sizeOf237 ⟨vb,0,none⟩ ⟨g,off,none⟩ 1 1 lb cb hne t' t vcur.size cur.size (by simp [World.shape?,hv]) (by simp [World.shape?,hg]) h0 (by simp [World.frozen?,hv]) (by simp [World.frozen?,hv])]
 rfl
theorem insert_room (B g cap vb i:Nat) (l:List (Int×Int)) (s:Int×Int) (w:World) (ho:OwnG w B g cap l) (hlen:l.length≤1000) (hi:i < l.length) (hroom:l.length+1≤cap) (hne:vb≠g)
  (hv:w.heap[vb]?=some (.cells #[.int .i64 s.1,.int .i64 s.2] 237 (0,0))) :
  Calls Tryz.prog 185 #[.slice (some ⟨g,0,none⟩) l.length cap,.int .i64 i,.slice (some ⟨vb,0,none⟩) 1 1] w fun e w' =>
   ∃ g' cap',e=.returned (.slice (some ⟨g',0,none⟩) (l.length+1) cap')∧OwnG w' B g' cap' (l.take i++s::l.drop i)∧Below B w w'∧(∀ k,k < w.heap.size→k≠g→w'.heap[k]?=w.heap[k]?):=by
 obtain⟨cur,hg,hcs,hct⟩:=ho.row
 have hov:=overlaps_no w g vb hne hg (by omega) hv
 have HO:Hid (OwnG w B g cap l):=ho
 have HV:Hid (w.heap[vb]?=some (.cells #[.int .i64 s.1,.int .i64 s.2] 237 (0,0))):=hv
 have HG:Hid (w.heap[g]?=some (.cells cur 237 (0,0))∧cur.size=cap*2∧cur.toList.take (l.length*2)=cells l):=⟨hg,hcs,hct⟩
 have hmax:cap≤9223372036854775807:=by have:=ho.max;unfold maxLen at this;exact this
 have hz2:¬ ((i:Int)=(l.length:Int)):=by omega
 have hb1:(0:Int)≤(i:Int)+1:=by omega
 have hb3:(i:Int)≤(l.length:Int)+1:=by omega
 have hb4:¬ (cap=i):=by omega
 have hb5:¬ (cap=i+1):=by omega
 have D:Hid (w.drew.heap[g]?=some (.cells cur.toList.toArray 237 (0,0))∧(cells (l.drop i)).length=Nat.min (l.length+1 - i) (l.length - i)*2 ∧
   (∀ j v,(cells (l.drop i))[j]?=some v→w.drew.cell? ((⟨g,i*2,none⟩:Addr).add j)=some v)∧(i+1)*2+(cells (l.drop i)).length≤cur.toList.length∧(∀ v∈cells (l.drop i),v.oneCell'=true)∧Below B w w.drew∧B≤g):=by
  refine⟨by show w.heap[g]?=_;simpa using hg,?_,fun j v hj=>?_,?_,cells_one _,(Below.refl B w).drew,ho.base⟩
  ·rw [cells_length,List.length_drop,show Nat.min (l.length+1 - i) (l.length - i)=l.length - i by simp only [Nat.min_def];split <;> omega]
  ·rw [Addr.add_lit]
   have:(cells l)[i*2+j]?=some v:=by rw [← cells_drop,List.getElem?_drop] at hj;exact hj
   exact ho.at this
  ·have:cur.toList.length=cap*2:=by simpa using hcs
   rw [cells_length,List.length_drop];omega
 have hwr:IntKind.i64.wrap ((i:Int)+1)=(i:Int)+1:=by rw [IntKind.wrap_i64];omega
 have htn:((i:Int)+1).toNat=i+1:=by omega
 have hb6:(i:Int)+1≤(l.length:Int)+1:=by omega
 clear ho hv hg hcs hct
 go_enter Tryz.func185,Tryz.ntmps185
 go_wp2_with (simp only [hov])
 go_region_law ((refine step_copy_splice2 (by rfl) _ _ 154 154 (by rfl) 237 Tryz.underlying154 sizeStep g ((i+1)*2) (l.length - i) (cap - (i+1)) ⟨g,i*2,none⟩ (l.length+1 - i) (cap - i) (by simp [Act.eval,Act.put]) (by simp [Act.eval,Act.put]) cur.toList 237 D.out.1 (cells (l.drop i)) D.out.2.1 D.out.2.2.1 D.out.2.2.2.1 D.out.2.2.2.2.1 B w D.out.2.2.2.2.2.1 D.out.2.2.2.2.2.2 ?_;intro w1 hw1 hb1))
 have E:Hid (w1.heap[g]?=some (.cells (splice cur.toList ((i+1)*2) (cells (l.drop i))).toArray 237 (0,0))∧(cells [s]).length=Nat.min 1 (l.length+1 - i)*2 ∧
   (∀ j v,(cells [s])[j]?=some v→w1.cell? ((⟨vb,0,none⟩:Addr).add j)=some v)∧i*2+(cells [s]).length≤(splice cur.toList ((i+1)*2) (cells (l.drop i))).length∧(∀ v∈cells [s],v.oneCell'=true)∧Below B w w1∧B≤g):=by
  obtain⟨x1,x2,x3⟩:=hw1.out
  refine⟨x1,?_,fun j v hj=>?_,?_,cells_one _,hb1,D.out.2.2.2.2.2.2⟩
  ·rw [show Nat.min 1 (l.length+1 - i)=1 by simp only [Nat.min_def];split <;> omega];rfl
  ·have hv':w1.heap[vb]?=some (.cells #[.int .i64 s.1,.int .i64 s.2] 237 (0,0)):=(x2 vb hne).trans HV.out
   rw [Addr.add_lit,Nat.zero_add,cell_of_row _ _ _ _ _ _ hv']
   simpa [cells] using hj
  ·rw [length_splice _ _ _ D.out.2.2.2.1]
   have:=D.out.2.2.2.1
   simp [cells] at this ⊢
   omega
 clear hov
 go_wp2_with (refine wpList_copy_splice2 rfl _ _ 154 154 rfl 237 Tryz.underlying154 sizeStep g (i*2) (l.length+1 - i) (cap - i) ⟨vb,0,none⟩ 1 1 rfl rfl (splice cur.toList ((i+1)*2) (cells (l.drop i))) 237 E.out.1 (cells [s]) E.out.2.1 E.out.2.2.1 E.out.2.2.2.1 E.out.2.2.2.2.1 B w E.out.2.2.2.2.2.1 E.out.2.2.2.2.2.2 ?_;intro w2 hw2 hb2)
 have F:Hid (OwnG w2 B g cap (l.take i++s::l.drop i)):=by
  obtain⟨y1,y2⟩:=HG.out.2
  refine⟨HO.out.base,by simp;omega,HO.out.max,_,hw2.out.1,?_,?_⟩
  ·rw [List.size_toArray,length_splice _ _ _ E.out.2.2.2.1,length_splice _ _ _ D.out.2.2.2.1];simpa using y1
  ·have:=ins_row cur.toList l i s (by omega) (by simp;omega) y2
   simpa using this
 have F2:Hid (Below B w w2):=hb2
 have F3:Hid (∀ k,k < w.heap.size→k≠g→w2.heap[k]?=w.heap[k]?):=fun k _ hk=>(hw2.out.2.1 k hk).trans (hw1.out.2.1 k hk)
 clear hw2 hb2
 go_wp2
 go_ret
 exact⟨g,cap,rfl,F.out,F2.out,F3.out⟩
theorem ins_row2 (L:List Value) (l:List (Int×Int)) (i:Nat) (s:Int×Int) (hi:i≤l.length) (hL:(l.length+1)*2≤L.length) (h:L.take (i*2)=cells (l.take i)) :
  (splice (splice L (i*2) (cells [s])) ((i+1)*2) (cells (l.drop i))).take ((l.take i++s::l.drop i).length*2)=cells (l.take i++s::l.drop i):=by
 have hl:(l.take i++s::l.drop i).length=l.length+1:=by simp;omega
 have hX:(cells (l.take i)).length=i*2:=by rw [cells_length,List.length_take];omega
 have hY:(cells (l.drop i)).length=(l.length - i)*2:=by rw [cells_length,List.length_drop]
 have hS:(cells [s]).length=2:=rfl
 rw [hl]
 unfold splice
 rw [hS,hY,h]
 generalize L.drop (i*2+2)=R0
 rw [show cells (l.take i++s::l.drop i)=cells (l.take i)++(cells [s]++cells (l.drop i)) by rw [cells_append];rfl]
 generalize cells (l.take i)=X at *
 generalize cells (l.drop i)=Y at *
 generalize cells [s]=S at *
 have a1:(X++(S++R0)).take ((i+1)*2)=X++S:=by rw [← List.append_assoc,List.take_append_of_le_length (by simp;omega)];exact List.take_of_length_le (by simp;omega)
 rw [a1]
 generalize (X++(S++R0)).drop ((i+1)*2+(l.length - i)*2)=R
 rw [show X++S++(Y++R)=(X++(S++Y))++R by simp]
 rw [List.take_append_of_le_length (by simp;omega)]
 exact List.take_of_length_le (by simp;omega)
theorem grow_mid (B g cap i:Nat) (l:List (Int×Int)) (w:World) (ho:OwnG w B g cap l) (hlen:l.length≤1000) (hi:i < l.length) (hroom:cap < l.length+1) (ty:TypeId) :
  ∃ cap' W1,(Builtin.append_ #[154,3] ty #[.slice (some ⟨g,0,none⟩) i cap,.int .i64 ((l.length:Int)+1 - (i:Int))]).run Tryz.prog w=.ok (.slice (some ⟨w.heap.size,0,none⟩) (l.length+1) cap') W1 ∧
   l.length+1≤cap'∧cap'≤maxLen∧(∃ cur:Array Value,W1.heap[w.heap.size]?=some (.cells cur 237 (0,0))∧cur.size=cap'*2∧cur.toList.take (i*2)=cells (l.take i))∧(∀ k,k < w.heap.size→W1.heap[k]?=w.heap[k]?)∧Below B w W1:=by
 obtain⟨i0,hi0,hz0,hz1,hz2⟩:=infoStep
 have hle:=ho.le
 have hX:(cells (l.take i)).length=i*2:=by rw [cells_length,List.length_take];omega
 have hold:(Builtin.firstCells i0.size i (.slice (some ⟨g,0,none⟩) i cap)).run Tryz.prog w.drew=.ok (cells (l.take i)).toArray w.drew:=by
  rw [hz1]
  refine run_firstCells_some w.drew 2 i ⟨g,0,none⟩ i cap _ hX fun j v hj=>?_
  rw [Addr.add_lit,Nat.zero_add]
  rw [← cells_take,List.getElem?_take] at hj
  split at hj
  ·exact ho.at hj
  ·cases hj
 have hr:=Lib.run_append_grow_zeros (P:=Tryz.prog) w 154 3 ty 237 i0 (.agg #[.int .i64 0,.int .i64 0]) .i64 .i64 Tryz.underlying154 Tryz.underlying3 hi0 hz0 (some ⟨g,0,none⟩) i cap (cells (l.take i)) hold (l.length+1 - i) (by omega) (by omega) (by omega) (by omega) (by rw [hz2];omega)
  (by rw [hz2];exact growslice_fits (by omega) (by omega))
 rw [show i+(l.length+1 - i)=l.length+1 by omega] at hr
 have hge:=grownCap_ge w (l.length+1) cap 237
 have hcm:grownCap w (l.length+1) cap 237≤maxLen:=grownCap_le_maxLen w (l.length+1) cap 237 (by unfold maxLen;omega)
 refine⟨_,_,by rw [show(l.length:Int)+1 - (i:Int)=((l.length+1 - i:Nat):Int) by omega];exact hr,hge,hcm,⟨_,heap_alloc_new w.drew _,?_,?_⟩,fun k hk=>Below.heap_alloc w.drew _ k hk,?_⟩
 ·have:(Value.agg #[.int .i64 0,.int .i64 0]).cells.size=2:=rfl
  simp only [Array.size_append,List.size_toArray,size_zeroCells,hX,this]
  omega
 ·simp only [Array.toList_append,List.append_assoc]
  rw [List.take_append_of_le_length (by omega)]
  exact List.take_of_length_le (by omega)
 ·exact(Below.refl B w).drew.alloc (by have:=ho.base;have:=ho.lt;show B≤w.heap.size;omega) _
theorem insert_mid (B g cap vb i:Nat) (l:List (Int×Int)) (s:Int×Int) (w:World) (ho:OwnG w B g cap l) (hlen:l.length≤1000) (hi:i < l.length) (hroom:cap < l.length+1) (hne:vb≠g)
  (hv:w.heap[vb]?=some (.cells #[.int .i64 s.1,.int .i64 s.2] 237 (0,0))) :
  Calls Tryz.prog 185 #[.slice (some ⟨g,0,none⟩) l.length cap,.int .i64 i,.slice (some ⟨vb,0,none⟩) 1 1] w fun e w' =>
   ∃ g' cap',e=.returned (.slice (some ⟨g',0,none⟩) (l.length+1) cap')∧OwnG w' B g' cap' (l.take i++s::l.drop i)∧Below B w w'∧(∀ k,k < w.heap.size→k≠g→w'.heap[k]?=w.heap[k]?):=by
 have hvl:vb < w.heap.size:=(Array.getElem?_eq_some_iff.1 hv).1
 have hgl:=ho.lt
 have hle:=ho.le
 obtain⟨cap',W1,hrun,h1,h2,⟨cur,h3,h4,h5⟩,h6,h7⟩:=grow_mid B g cap i l w ho hlen hi hroom 154
 obtain⟨L,rfl⟩:∃ L:List Value,cur=L.toArray:=⟨cur.toList,by simp⟩
 rw [List.size_toArray] at h4
 have HR:Hid ((Builtin.append_ #[154,3] 154 #[.slice (some ⟨g,0,none⟩) i cap,.int .i64 ((l.length:Int)+1 - (i:Int))]).run Tryz.prog w=.ok (.slice (some ⟨w.heap.size,0,none⟩) (l.length+1) cap') W1):=hrun
 have hmax:cap'≤9223372036854775807:=by unfold maxLen at h2;exact h2
 have hBg:B≤w.heap.size:=by have:=ho.base;omega
 generalize w.heap.size=G at *
 have D:Hid (W1.heap[G]?=some (.cells L.toArray 237 (0,0))∧(cells [s]).length=Nat.min 1 (l.length+1 - i)*2 ∧
   (∀ j v,(cells [s])[j]?=some v→W1.cell? ((⟨vb,0,none⟩:Addr).add j)=some v)∧i*2+(cells [s]).length≤L.length∧(∀ v∈cells [s],v.oneCell'=true)∧Below B w W1∧B≤G):=by
  refine⟨h3,?_,fun j v hj=>?_,?_,cells_one _,h7,hBg⟩
  ·rw [show Nat.min 1 (l.length+1 - i)=1 by simp only [Nat.min_def];split <;> omega];rfl
  ·rw [Addr.add_lit,Nat.zero_add,cell_of_row _ _ _ _ _ _ ((h6 vb hvl).trans hv)]
   simpa [cells] using hj
  ·rw [h4];simp [cells];omega
 have HO1:Hid (OwnG W1 B g cap l):=by
  obtain⟨cur,q1,q2⟩:=ho.row
  exact⟨ho.base,ho.le,ho.max,cur,(h6 g hgl).trans q1,q2⟩
 have HL:Hid (L.length=cap'*2∧L.take (i*2)=cells (l.take i)):=⟨h4,h5⟩
 have hz2:¬ ((i:Int)=(l.length:Int)):=by omega
 have hb3:(i:Int)≤(l.length:Int)+1:=by omega
 have hb4:¬ (cap=i):=by omega
 have hb5:¬ (cap'=i+1):=by omega
 have hb7:¬ (cap'=i):=by omega
 have hwr:IntKind.i64.wrap ((i:Int)+1)=(i:Int)+1:=by rw [IntKind.wrap_i64];omega
 have htn:((i:Int)+1).toNat=i+1:=by omega
 have hb6:(i:Int)+1≤(l.length:Int)+1:=by omega
 have hb1:(0:Int)≤(i:Int)+1:=by omega
 have hgG:g≠G:=by omega
 have hin:i≤l.length:=by omega
 have hin2:(i:Int)≤(l.length:Int):=by omega
 have H6:Hid (∀ k,k < G→W1.heap[k]?=w.heap[k]?):=h6
 clear ho hv hrun h2 h3 h4 h5 h6 h7
 go_enter Tryz.func185,Tryz.ntmps185
 go_wp2_with (first|(at_builtin;refine Lib.wpList_append_run _ rfl _ _ 154 3 rfl _ _ rfl rfl _ _ HR.out ?_)|(refine wpList_copy_splice2 rfl _ _ 154 154 rfl 237 Tryz.underlying154 sizeStep G (i*2) (l.length+1 - i) (cap' - i) ⟨vb,0,none⟩ 1 1 rfl rfl L 237 D.out.1 (cells [s]) D.out.2.1 D.out.2.2.1 D.out.2.2.2.1 D.out.2.2.2.2.1 B w D.out.2.2.2.2.2.1 D.out.2.2.2.2.2.2 ?_;intro w1 hw1 hb1'))
 go_simp
 have E:Hid (w1.drew.heap[G]?=some (.cells (splice L (i*2) (cells [s])).toArray 237 (0,0))∧(cells (l.drop i)).length=Nat.min (l.length - i) (l.length - i)*2 ∧
   (∀ j v,(cells (l.drop i))[j]?=some v→w1.drew.cell? ((⟨g,i*2,none⟩:Addr).add j)=some v)∧(i+1)*2+(cells (l.drop i)).length≤(splice L (i*2) (cells [s])).length∧(∀ v∈cells (l.drop i),v.oneCell'=true)∧Below B w w1.drew∧B≤G):=by
  obtain⟨x1,x2,x3⟩:=hw1.out
  have ho1:OwnG w1 B g cap l:=by
   obtain⟨cur,q1,q2⟩:=HO1.out.row
   exact⟨HO1.out.base,HO1.out.le,HO1.out.max,cur,(x2 g hgG).trans q1,q2⟩
  refine⟨x1,?_,fun j v hj=>?_,?_,cells_one _,hb1'.drew,hBg⟩
  ·rw [cells_length,List.length_drop,show Nat.min (l.length - i) (l.length - i)=l.length - i by simp only [Nat.min_def];split <;> omega]
  ·rw [Addr.add_lit]
   have:(cells l)[i*2+j]?=some v:=by rw [← cells_drop,List.getElem?_drop] at hj;exact hj
   exact ho1.at this
  ·rw [length_splice _ _ _ D.out.2.2.2.1,cells_length,List.length_drop,HL.out.1];omega
 clear hb1'
 go_region_law ((refine step_copy_splice2 (by rfl) _ _ 154 154 (by rfl) 237 Tryz.underlying154 sizeStep G ((i+1)*2) (l.length - i) (cap' - (i+1)) ⟨g,i*2,none⟩ (l.length - i) (cap - i) (by simp [Act.eval,Act.put]) (by simp [Act.eval,Act.put]) (splice L (i*2) (cells [s])) 237 E.out.1 (cells (l.drop i)) E.out.2.1 E.out.2.2.1 E.out.2.2.2.1 E.out.2.2.2.2.1 B w E.out.2.2.2.2.2.1 E.out.2.2.2.2.2.2 ?_;intro w2 hw2 hb2))
 have F:Hid (OwnG w2 B G cap' (l.take i++s::l.drop i)):=by
  refine⟨hBg,by simp;omega,by unfold maxLen;omega,_,hw2.out.1,?_,?_⟩
  ·rw [List.size_toArray,length_splice _ _ _ E.out.2.2.2.1,length_splice _ _ _ D.out.2.2.2.1];exact HL.out.1
  ·have:=ins_row2 L l i s (by omega) (by rw [HL.out.1];omega) HL.out.2
   simpa using this
 have F2:Hid (Below B w w2):=hb2
 have F3:Hid (∀ k,k < G→k≠g→w2.heap[k]?=w.heap[k]?):=fun k hk _=>((hw2.out.2.1 k (by omega)).trans (hw1.out.2.1 k (by omega))).trans (H6.out k hk)
 clear hw2 hb2
 go_wp2
 go_ret
 exact⟨G,cap',rfl,F.out,F2.out,F3.out⟩
theorem insert_any (B g cap vb i:Nat) (l:List (Int×Int)) (s:Int×Int) (w:World) (ho:OwnG w B g cap l) (hlen:l.length≤1000) (hi:i≤l.length) (hne:vb≠g)
  (hv:w.heap[vb]?=some (.cells #[.int .i64 s.1,.int .i64 s.2] 237 (0,0))) :
  Calls Tryz.prog 185 #[.slice (some ⟨g,0,none⟩) l.length cap,.int .i64 i,.slice (some ⟨vb,0,none⟩) 1 1] w fun e w' =>
   ∃ g' cap',e=.returned (.slice (some ⟨g',0,none⟩) (l.length+1) cap')∧OwnG w' B g' cap' (l.take i++s::l.drop i)∧Below B w w'∧(∀ k,k < w.heap.size→k≠g→w'.heap[k]?=w.heap[k]?):=by
 by_cases h:i < l.length
 ·by_cases hr:l.length+1≤cap
  ·exact insert_room B g cap vb i l s w ho hlen h hr hne hv
  ·exact insert_mid B g cap vb i l s w ho hlen h (by omega) hne hv
 ·have e:i=l.length:=by omega
  subst e
  simpa using insert_end B g cap vb l s w ho hlen hv
end Go.Proofs.YtcmdoeledmkfmacGreatDoor.Pr
set_option linter.unusedSimpArgs false
set_option linter.unusedVariables false
namespace Go.Proofs.YtcmdoeledmkfmacGreatDoor
open Go.RowKit
def cPair (x:Int×Int):List Value:=[.int .i64 x.1,.int .i64 x.2]
theorem jho:EncOk 2 cPair:=⟨fun _=>rfl,fun x v hv=>by simp [cPair] at hv;rcases hv with rfl|rfl <;> rfl⟩
theorem jvb:TyOk 154 237 2 16 cPair:=⟨jho,by decide,Tryz.underlying154,infoK (z:=.agg #[.int .i64 0,.int .i64 0]) (by kernel_rfl) rfl⟩
theorem jkn (l:List (Int×Int)):Pr.cells l=jae cPair l:=by
 induction l with
 | nil=>rfl
 | cons x r ih=>show [_,_]++Pr.cells r=cPair x++jae cPair r;rw [ih];rfl
theorem jrs {w:World} {B g cap:Nat} {l:List (Int×Int)} (h:OwnK 237 2 cPair w B g cap l):Pr.OwnG w B g cap l:=⟨h.base,h.le,h.max,by rw [jkn];exact h.row⟩
theorem ju1 {w:World} {B g cap:Nat} {l:List (Int×Int)} (h:Pr.OwnG w B g cap l):OwnK 237 2 cPair w B g cap l:=⟨h.base,h.le,h.max,by rw [← jkn];exact h.row⟩
theorem RdK.pair {w:World} {b off:Nat} {l:List (Int×Int)} (h:RdK cPair w b off l) {j:Nat} {x:Int×Int} (hs:l[j]?=some x) :
  w.cell? ⟨b,off+j*2,none⟩=some (.int .i64 x.1)∧w.cell? ⟨b,off+j*2+1,none⟩=some (.int .i64 x.2) :=
 ⟨h.at jho hs (i:=0) rfl,h.at jho hs (i:=1) rfl⟩
def DB (w:World) (B gd:Nat) (l:List (Int×Int)) (v:Value):Prop :=
 w.heap[gd]?=some (.cells #[v] 156 (0,0))∧w.ownsRow B 237 2 v l.length (jae cPair l)∧B≤gd∧B≤w.heap.size
theorem DB.lt {w:World} {B gd:Nat} {l:List (Int×Int)} {v:Value} (h:DB w B gd l v):gd < w.heap.size:=(Array.getElem?_eq_some_iff.1 h.1).1
theorem DB.cell {w:World} {B gd:Nat} {l:List (Int×Int)} {v:Value} (h:DB w B gd l v):w.cell? ⟨gd,0,none⟩=some v:=by rw [cell_of_row _ _ _ _ _ _ h.1];rfl
theorem DB.frozen {w:World} {B gd:Nat} {l:List (Int×Int)} {v:Value} (h:DB w B gd l v) (k:Nat):w.frozen? ⟨gd,k,none⟩=false:=by simp [World.frozen?,h.1]
theorem DB.later {w w':World} {B gd:Nat} {l:List (Int×Int)} {v:Value} (h:DB w B gd l v) (hb:Below w.heap.size w w'):DB w' B gd l v:=by
 refine⟨by rw [hb.block gd h.lt];exact h.1,⟨h.2.1.1,?_⟩,h.2.2.1,Nat.le_trans h.2.2.2 hb.size⟩
 rcases h.2.1.2 with h0|⟨b,cap,cur,h0,h1,h2,h3⟩
 ·exact Or.inl h0
 ·exact Or.inr ⟨b,cap,cur,h0,h1,by rw [hb.block b (Array.getElem?_eq_some_iff.1 h2).1];exact h2,h3⟩
structure Dr (w w':World) (gd:Nat):Prop where
 size:w.heap.size≤w'.heap.size
 same:∀ k,k < w.heap.size→k≠gd→(∀ c f,w.heap[k]?≠some (.cells c 237 f))→w'.heap[k]?=w.heap[k]?
theorem Dr.trans {w w' w'':World} {gd:Nat} (h:Dr w w' gd) (h':Dr w' w'' gd):Dr w w'' gd:=by
 have hs:=h.size
 refine⟨Nat.le_trans hs h'.size,fun k hk h1 h2=>?_⟩
 have e:=h.same k hk h1 h2
 exact(h'.same k (by omega) h1 (fun c f=>by rw [e];exact h2 c f)).trans e
theorem Dr.of {w w':World} {gd:Nat} (hb:Below w.heap.size w w'):Dr w w' gd:=⟨hb.size,fun k hk _ _=>hb.block k hk⟩
theorem Dr.block {w w':World} {B gd k:Nat} {v:Value} {l:List (Int×Int)} (h:Dr w w' gd) (hd:DB w B gd l v) {c:Array Value} {t:TypeId} {f:Nat×Nat} (hk:w.heap[k]?=some (.cells c t f)) (h1:t≠156) (h2:t≠237):w'.heap[k]?=w.heap[k]?:=by
 refine h.same k (Array.getElem?_eq_some_iff.1 hk).1 (fun e=>?_) (fun c' f' e=>?_)
 ·subst e
  have e:=hk.symm.trans hd.1
  injection e with e
  injection e with _ e
  exact h1 e
 ·have e:=hk.symm.trans e
  injection e with e
  injection e with _ e
  exact h2 e
theorem DB.set {w:World} {B gd:Nat} {l l':List (Int×Int)} {v v':Value} (h:DB w B gd l v) (ho:w.ownsRow B 237 2 v' l'.length (jae cPair l')):DB (w.setCell ⟨gd,0,none⟩ v') B gd l' v':=by
 have hg:(w.setCell ⟨gd,0,none⟩ v').heap[gd]?=some (.cells #[v'] 156 (0,0)):=by
  rw [setCell_eq_setRow w gd 0 _ _ _ _ h.1,setRow_heap w gd _ _ _ _ h.1];rfl
 refine⟨hg,⟨ho.1,?_⟩,h.2.2.1,Nat.le_trans h.2.2.2 ((Below.refl B w).setCell (p:=⟨gd,0,none⟩) h.2.2.1 v').size⟩
 rcases ho.2 with h0|⟨b,cap,cur,h0,h1,h2,h3⟩
 ·exact Or.inl h0
 ·refine Or.inr ⟨b,cap,cur,h0,h1,?_,h3⟩
  have hne:b≠gd:=by
   rintro rfl
   have e:=h2.symm.trans h.1
   injection e with e
   injection e with _ e
   exact absurd e (by decide)
  rw [Below.heap_setCell _ _ _ _ (by show b≠gd;exact hne)]
  exact h2
theorem DB.set2 {w:World} {B gd:Nat} {l':List (Int×Int)} {v v':Value} (h:w.heap[gd]?=some (.cells #[v] 156 (0,0))) (hB:B≤gd) (hs:B≤w.heap.size) (ho:w.ownsRow B 237 2 v' l'.length (jae cPair l')):DB (w.setCell ⟨gd,0,none⟩ v') B gd l' v':=by
 have hg:(w.setCell ⟨gd,0,none⟩ v').heap[gd]?=some (.cells #[v'] 156 (0,0)):=by
  rw [setCell_eq_setRow w gd 0 _ _ _ _ h,setRow_heap w gd _ _ _ _ h];rfl
 refine⟨hg,⟨ho.1,?_⟩,hB,Nat.le_trans hs ((Below.refl B w).setCell (p:=⟨gd,0,none⟩) hB v').size⟩
 rcases ho.2 with h0|⟨b,cap,cur,h0,h1,h2,h3⟩
 ·exact Or.inl h0
 ·refine Or.inr ⟨b,cap,cur,h0,h1,?_,h3⟩
  have hne:b≠gd:=by
   rintro rfl
   have e:=h2.symm.trans h
   injection e with e
   injection e with _ e
   exact absurd e (by decide)
  rw [Below.heap_setCell _ _ _ _ (by show b≠gd;exact hne)]
  exact h2
theorem DB.one {w:World} {B gd b n cap i:Nat} {l:List (Int×Int)} {x:Int×Int} (h:DB w B gd l (.slice (some ⟨b,0,none⟩) n cap)) (hx:l[i]?=some x) (y:Int):DB (w.setCell ⟨b,i*2+1,none⟩ (.int .i64 y)) B gd (l.set i (x.1,y)) (.slice (some ⟨b,0,none⟩) n cap)∧Below B w (w.setCell ⟨b,i*2+1,none⟩ (.int .i64 y)):=by
 obtain⟨b',c,e,ho⟩:=OwnK.ofRow h.2.1 (by intro e;cases e)
 injection e with e1 e2 e3
 injection e1 with e1
 injection e1 with e1
 subst e1 e2 e3
 have hne:gd≠b:=by
  rintro rfl
  obtain⟨cur,h2,_⟩:=ho.row
  have e:=h2.symm.trans h.1
  injection e with e
  injection e with _ e
  exact absurd e (by decide)
 have hB:=ho.base
 have hb:Below B w (w.setCell ⟨b,i*2+1,none⟩ (.int .i64 y)):=(Below.refl B w).setCell (by show _≤b;exact hB) _
 have:=OwnK.toRow jho (ho.setCell jho hx (by decide) (i:=1) (x':=(x.1,y)) (v:=.int .i64 y) rfl)
 rw [List.length_set] at this
 exact⟨⟨by rw [Below.heap_setCell _ _ _ _ (by show gd≠b;exact hne)];exact h.1,by rw [List.length_set];exact this,h.2.2.1,Nat.le_trans h.2.2.2 hb.size⟩,hb⟩
theorem jn0 (t:Int) (w:World) :
  Calls Tryz.prog 183 #[.slice none 0 0,.int .i64 t,.func (.func 184) #[] #[]] w fun e w'=>e=.returned (.tuple #[.int .i64 0,.bool false])∧w'=w:=by
 go_enter Tryz.func183,Tryz.ntmps183
 go_wp2_with fail
 refine wp_loop_rounds 1 ?_
 rw [rounds_succ]
 go_wp2_with fail
 go_ret2
 exact⟨rfl,rfl⟩
theorem jom (B vb:Nat) (s:Int×Int) (w:World) (hB:B≤w.heap.size) (hv:w.heap[vb]?=some (.cells #[.int .i64 s.1,.int .i64 s.2] 237 (0,0))) :
  Calls Tryz.prog 185 #[.slice none 0 0,.int .i64 0,.slice (some ⟨vb,0,none⟩) 1 1] w fun e w'=>∃ v',e=.returned v'∧Hid (w'.ownsRow B 237 2 v' [s].length (jae cPair [s])∧Below B w w'):=by
 have O0:Hid (w.ownsRow B 237 2 (.slice none 0 0) ([]:List (Int×Int)).length (jae cPair ([]:List (Int×Int)))):=World.ownsRow_nil _ _ _ _
 have R0:Hid (RdK cPair w vb 0 [s]):=fun j u hu=>by
  rw [Nat.zero_add,cell_of_row _ _ _ _ _ _ hv]
  simpa [jae,cPair] using hu
 have Q0:Hid (([]:List (Int×Int)).length+1≤maxLen∧(([]:List (Int×Int)).length+1)*16≤140737488355328):=⟨by unfold maxLen;decide,by decide⟩
 clear hv
 go_enter Tryz.func185,Tryz.ntmps185
 go_wp2_with (at_builtin;refine jcp jvb rfl _ _ rfl B (.slice none 0 0) [] [s] vb 0 1 1 rfl rfl rfl O0.out R0.out hB Q0.out.1 Q0.out.2 ?_;intro v' w1 hw1)
 go_ret
 exact⟨_,rfl,hw1⟩
end Go.Proofs.YtcmdoeledmkfmacGreatDoor
set_option linter.unusedSimpArgs false
set_option linter.unusedVariables false
namespace Go.Proofs.YtcmdoeledmkfmacGreatDoor
open Go.RowKit
theorem ju0 {a b:Int}:PutIs [] a b [(a,b)]:=jrp (i:=0) List.Pairwise.nil ⟨Nat.le_refl _,fun k hk=>absurd hk (Nat.not_lt_zero _),fun k _ hk=>absurd hk (Nat.not_lt_zero _)⟩ (by unfold fnd;simp)
def jsm (B gd:Nat) (l:List (Int×Int)) (v:Value) (a b:Int) (w:World) (e:Ending) (w':World):Prop:=e=.returned (.tuple #[])∧∃ l' v',PutIs l a b l'∧DB w' B gd l' v'∧Below B w w'∧Dr w w' gd
theorem DB.pair {w:World} {B gd b n cap i:Nat} {l:List (Int×Int)} {x:Int×Int} (h:DB w B gd l (.slice (some ⟨b,0,none⟩) n cap)) (hx:l[i]?=some x) :
  (w.cell? ⟨b,i*2,none⟩=some (.int .i64 x.1)∧w.cell? ⟨b,i*2+1,none⟩=some (.int .i64 x.2))∧∀ k,w.frozen? ⟨b,k,none⟩=false:=by
 obtain⟨b',c',e',h'⟩:=OwnK.ofRow h.2.1 (by intro e;cases e)
 injection e' with e1 e2 e3
 injection e1 with e1
 injection e1 with e1
 subst e1
 have:=h'.rd.pair hx
 simp only [Nat.zero_add] at this
 exact⟨this,fun k=>h'.frozen k⟩
theorem ji2 (B gd:Nat) (l:List (Int×Int)) (v:Value) (a b K M:Int) (w:World) (H:DB w B gd l v) (hu:Up l) (hl:l.length≤900) (hK0:0≤K) (hK1:K≤1000000) (hK:Bd K l) (hM0:-M≤b) (hM1:b≤M) (hM:M≤1000) :
  Calls Tryz.prog 155 #[.pointer (some ⟨gd,0,none⟩),.int .i64 a,.int .i64 b] w fun e w'=>jsm B gd l v a b w e w':=by
 by_cases hv:v=.slice none 0 0
 ·subst hv
  have hl0:l=[]:=by
   obtain⟨a',c',e,_⟩:=jaz H.2.1
   injection e with _ e _
   exact List.eq_nil_of_length_eq_zero e.symm
  subst hl0
  have c0:=H.cell
  have hbw:Below w.heap.size w (w.alloc (.cells #[.int .i64 a,.int .i64 0] 237)):=(Below.refl _ w).alloc (Nat.le_refl _) _
  have D1:Hid (DB (w.alloc (.cells #[.int .i64 a,.int .i64 0] 237)) B gd [] (.slice none 0 0)):=H.later hbw
  have c1:=D1.out.cell
  have HI:=jom (w.alloc (.cells #[.int .i64 a,.int .i64 0] 237)).heap.size w.heap.size (a,0) (w.alloc (.cells #[.int .i64 a,.int .i64 0] 237)) (Nat.le_refl _) (heap_alloc_new w _)
  have F1:Hid (DB w B gd [] (.slice none 0 0)∧Below w.heap.size w (w.alloc (.cells #[.int .i64 a,.int .i64 0] 237))):=⟨H,hbw⟩
  clear H hbw
  go_enter Tryz.func155,Tryz.ntmps155
  go_wp2_with (first|(go_at_call 183;refine(jn0 _ _).mono ?_;rintro e w' ⟨rfl,rfl⟩))
  refine HI.mono ?_
  rintro e w2 ⟨v2,rfl,hw2⟩
  have D2:Hid (DB w2 B gd [] (.slice none 0 0)):=D1.out.later hw2.out.2
  obtain⟨g2,cap2,rfl,O2⟩:=OwnK.ofRow hw2.out.1 (by
   intro e
   obtain⟨a',c',e',_⟩:=jaz hw2.out.1
   rw [e] at e'
   injection e' with _ e4 _
   simp at e4)
  have R2:Hid (w2.ownsRow B 237 2 (.slice (some ⟨g2,0,none⟩) [(a,(0:Int))].length cap2) [(a,(0:Int))].length (jae cPair [(a,(0:Int))])):=jar hw2.out.1 D1.out.2.2.2
  have D3:Hid (DB (w2.setCell ⟨gd,0,none⟩ (.slice (some ⟨g2,0,none⟩) 1 cap2)) B gd [(a,0)] (.slice (some ⟨g2,0,none⟩) 1 cap2)):=D2.out.set R2.out
  have c2:=D2.out.cell
  have f2:=D2.out.frozen 0
  have c3:=D3.out.cell
  obtain⟨⟨p0,p1⟩,f3⟩:=D3.out.pair (i:=0) rfl
  simp only [Nat.zero_mul,Nat.zero_add] at p0 p1
  have f3':=f3 1
  have D4:=D3.out.one (i:=0) (x:=(a,0)) rfl b
  simp only [Nat.zero_mul,Nat.zero_add] at D4
  have FIN:Hid (∃ l' v',PutIs [] a b l'∧DB ((w2.setCell ⟨gd,0,none⟩ (.slice (some ⟨g2,0,none⟩) 1 cap2)).setCell ⟨g2,1,none⟩ (.int .i64 b)) B gd l' v'∧Below B w' ((w2.setCell ⟨gd,0,none⟩ (.slice (some ⟨g2,0,none⟩) 1 cap2)).setCell ⟨g2,1,none⟩ (.int .i64 b))∧Dr w' ((w2.setCell ⟨gd,0,none⟩ (.slice (some ⟨g2,0,none⟩) 1 cap2)).setCell ⟨g2,1,none⟩ (.int .i64 b)) gd):=by
   have hbB:Below B w' w2:=(F1.out.2.mono F1.out.1.2.2.2).trans (hw2.out.2.mono D1.out.2.2.2)
   have hg2:w'.heap.size+1≤g2:=by have:=O2.base;simpa using this
   refine⟨_,_,ju0,D4.1,(hbB.setCell D2.out.2.2.1 _).trans D4.2,?_,fun k hk h1 _=>?_⟩
   ·have h1:=hw2.out.2.size
    have h2:=F1.out.2.size
    have h3:=((Below.refl B w2).setCell (p:=⟨gd,0,none⟩) D2.out.2.2.1 (.slice (some ⟨g2,0,none⟩) 1 cap2)).size
    have h4:=D4.2.size
    omega
   ·rw [Below.heap_setCell _ _ _ _ (by show k≠g2;omega),Below.heap_setCell _ _ _ _ (by show k≠gd;exact h1),hw2.out.2.block k (by have:=F1.out.2.size;omega),F1.out.2.block k hk]
  clear D1 D2 D3 D4 hw2 O2 R2 HI c0 c1 F1
  go_wp2_with fail
  go_end0
  exact⟨rfl,FIN.out⟩
 ·obtain⟨g,cap,rfl,O⟩:=OwnK.ofRow H.2.1 hv
  have c0:=H.cell
  have HD:Hid (DB w B gd l (.slice (some ⟨g,0,none⟩) l.length cap)):=H
  have HU:Hid (Up l∧Bd K l):=⟨hu,hK⟩
  have OG:Hid (∃ cur,w.heap[g]?=some (.cells cur 237 (0,0))):=by
   obtain⟨cur,hc,_⟩:=O.row
   exact⟨cur,hc⟩
  have HS:=Pr.search_any g 0 cap l a w (jrs O).rd (by omega) hu.rise
  clear hv hu hK O H
  go_enter Tryz.func155,Tryz.ntmps155
  go_wp2_with fail
  refine HS.mono ?_
  rintro e w1 ⟨i,rfl,hC,hb1⟩
  have CT:Hid (CutAt l a i):=hC
  have hil:=hC.1
  have D1:Hid (DB w1 B gd l (.slice (some ⟨g,0,none⟩) l.length cap)∧Below w.heap.size w w1):=⟨HD.out.later hb1,hb1⟩
  have c1:=D1.out.1.cell
  clear hC hb1 c0 HS
  cases hfd:fnd l a i
  ·have hbw:Below w1.heap.size w1 (w1.alloc (.cells #[.int .i64 a,.int .i64 0] 237)):=(Below.refl _ w1).alloc (Nat.le_refl _) _
   have D2:Hid (DB (w1.alloc (.cells #[.int .i64 a,.int .i64 0] 237)) B gd l (.slice (some ⟨g,0,none⟩) l.length cap)∧Below w1.heap.size w1 (w1.alloc (.cells #[.int .i64 a,.int .i64 0] 237))):=⟨D1.out.1.later hbw,hbw⟩
   have c2:=D2.out.1.cell
   obtain⟨b',c',e',O2⟩:=OwnK.ofRow D2.out.1.2.1 (by intro e;cases e)
   injection e' with e1 e2 e3
   injection e1 with e1
   injection e1 with e1
   subst e1 e3
   have hgl:g < w1.heap.size:=by
    obtain⟨b',c',e',O1⟩:=OwnK.ofRow D1.out.1.2.1 (by intro e;cases e)
    injection e' with e1 e2 e3
    injection e1 with e1
    injection e1 with e1
    subst e1
    exact O1.lt
   have hgg:gd≠g:=by
    rintro rfl
    obtain⟨cur,h2,_⟩:=O2.row
    have e:=h2.symm.trans D2.out.1.1
    injection e with e
    injection e with _ e
    exact absurd e (by decide)
   have HI:=Pr.insert_any B g cap w1.heap.size i l (a,0) (w1.alloc (.cells #[.int .i64 a,.int .i64 0] 237)) (jrs O2) (by omega) hil (by omega) (heap_alloc_new w1 _)
   have hgd:gd < w1.heap.size:=D1.out.1.lt
   clear hbw O2
   go_wp2_with fail
   refine HI.mono ?_
   rintro e w3 ⟨g3,cap3,rfl,hO3,hb3,hfr3⟩
   have hl2:(l.take i++(a,(0:Int))::l.drop i).length=l.length+1:=by simp;omega
   have R3:Hid (w3.ownsRow B 237 2 (.slice (some ⟨g3,0,none⟩) (l.length+1) cap3) (l.take i++(a,(0:Int))::l.drop i).length (jae cPair (l.take i++(a,(0:Int))::l.drop i))):=by
    have h:=OwnK.toRow jho (ju1 hO3)
    rw [hl2] at h ⊢
    exact h
   have hsz:w1.heap.size+1=(w1.alloc (.cells #[.int .i64 a,.int .i64 0] 237)).heap.size:=by simp
   have G3:Hid (w3.heap[gd]?=some (.cells #[.slice (some ⟨g,0,none⟩) l.length cap] 156 (0,0))):=(hfr3 gd (by omega) hgg).trans D2.out.1.1
   have c3:w3.cell? ⟨gd,0,none⟩=some (.slice (some ⟨g,0,none⟩) l.length cap):=by rw [cell_of_row _ _ _ _ _ _ G3.out];rfl
   have f3:w3.frozen? ⟨gd,0,none⟩=false:=by simp [World.frozen?,G3.out]
   have B3:Hid (B≤w3.heap.size):=Nat.le_trans D2.out.1.2.2.2 hb3.size
   have D4:Hid (DB (w3.setCell ⟨gd,0,none⟩ (.slice (some ⟨g3,0,none⟩) (l.length+1) cap3)) B gd (l.take i++(a,(0:Int))::l.drop i) (.slice (some ⟨g3,0,none⟩) (l.length+1) cap3)):=DB.set2 G3.out D2.out.1.2.2.1 B3.out R3.out
   have c4:=D4.out.cell
   have hx:(l.take i++(a,(0:Int))::l.drop i)[i]?=some (a,0):=by
    rw [List.getElem?_append_right (by simp;omega)]
    simp [show i - min i l.length=0 by omega]
   obtain⟨⟨p0,p1⟩,f4⟩:=D4.out.pair hx
   have f4':=f4 (i*2+1)
   simp only at p0 p1
   have D5:=D4.out.one hx b
   have hset:(l.take i++(a,(0:Int))::l.drop i).set i (a,b)=l.take i++(a,b)::l.drop i:=by
    rw [List.set_append_right _ _ (by simp;omega)]
    simp [show i - min i l.length=0 by omega]
   simp only at D5
   rw [hset] at D5
   have FIN:Hid (∃ l' v',PutIs l a b l'∧DB ((w3.setCell ⟨gd,0,none⟩ (.slice (some ⟨g3,0,none⟩) (l.length+1) cap3)).setCell ⟨g3,i*2+1,none⟩ (.int .i64 b)) B gd l' v'∧Below B w ((w3.setCell ⟨gd,0,none⟩ (.slice (some ⟨g3,0,none⟩) (l.length+1) cap3)).setCell ⟨g3,i*2+1,none⟩ (.int .i64 b))∧Dr w ((w3.setCell ⟨gd,0,none⟩ (.slice (some ⟨g3,0,none⟩) (l.length+1) cap3)).setCell ⟨g3,i*2+1,none⟩ (.int .i64 b)) gd):=by
    have s1:=D1.out.2.size
    have s2:=hb3.size
    have b1:Below B w w3:=((D1.out.2.mono HD.out.2.2.2).trans (D2.out.2.mono D1.out.1.2.2.2)).trans hb3
    have b2:Below B w (w3.setCell ⟨gd,0,none⟩ (.slice (some ⟨g3,0,none⟩) (l.length+1) cap3)):=b1.setCell HD.out.2.2.1 _
    have s3:=(b2.trans D5.2).size
    refine⟨_,_,jrp HU.out.1 CT.out hfd,D5.1,b2.trans D5.2,s3,fun k hk h1 h2=>?_⟩
    have hkg:k≠g:=fun e=>by
     obtain⟨cur,hc⟩:=OG.out
     exact h2 _ _ (by rw [e];exact hc)
    have e3:=((hfr3 k (by omega) hkg).trans (D2.out.2.block k (by omega))).trans (D1.out.2.block k hk)
    have hk3:k≠g3:=fun e=>by
     obtain⟨cur,hc,_⟩:=hO3.row
     rw [← e,e3] at hc
     exact h2 _ _ hc
    rw [Below.heap_setCell _ _ _ _ (by show k≠g3;exact hk3),Below.heap_setCell _ _ _ _ (by show k≠gd;exact h1),e3]
   have hi3:(i:Int) < (l.length:Int)+1:=by omega
   clear D5 D4 D2 D1 HD HU CT R3 G3 B3 hO3 hb3 hfr3 HI hx hset
   go_wp2_with fail
   go_end0
   exact⟨rfl,FIN.out⟩
  ·obtain⟨hi,he⟩:i < l.length∧(sAt l i).1=a:=of_decide_eq_true hfd
   obtain⟨y,hy⟩:∃ y,l[i]=(a,y):=⟨(l[i]).2,by rw [jci hi] at he;rw [← he]⟩
   have hy':l[i]?=some (a,y):=by rw [List.getElem?_eq_getElem hi,hy]
   obtain⟨⟨p0,p1⟩,f1⟩:=D1.out.1.pair hy'
   have fi:=f1 (i*2+1)
   have hyb:=HU.out.2 (a,y) (by rw [← hy];exact List.getElem_mem hi)
   simp only at hyb p1
   have D2:=D1.out.1.one hy' (y+b)
   have FIN:Hid (∃ l' v',PutIs l a b l'∧DB (w1.setCell ⟨g,i*2+1,none⟩ (.int .i64 (y+b))) B gd l' v'∧Below B w (w1.setCell ⟨g,i*2+1,none⟩ (.int .i64 (y+b)))∧Dr w (w1.setCell ⟨g,i*2+1,none⟩ (.int .i64 (y+b))) gd):=by
    refine⟨_,_,juz HU.out.1 hi hy,D2.1,(D1.out.2.mono HD.out.2.2.2).trans D2.2,Nat.le_trans D1.out.2.size D2.2.size,fun k hk h1 h2=>?_⟩
    rw [Below.heap_setCell _ _ _ _ (by show k≠g;intro e;obtain⟨cur,hc⟩:=OG.out;exact h2 _ _ (by rw [e];exact hc)),D1.out.2.block k hk]
   have hi3:(i:Int) < (l.length:Int):=by omega
   clear D2 D1 HD HU CT hy hy' he
   go_wp2_with fail
   go_end0
   exact⟨rfl,FIN.out⟩
end Go.Proofs.YtcmdoeledmkfmacGreatDoor
set_option linter.unusedSimpArgs false
set_option linter.unusedVariables false
namespace Go.Proofs.YtcmdoeledmkfmacGreatDoor
open Go.RowKit
theorem jr7 (B gd:Nat) (l:List (Int×Int)) (v:Value) (A K:Int) (w:World) (H:DB w B gd l v) (hl:l.length≤900) (hK0:0≤K) (hK1:K≤1000000) (hK:Bd K l) :
  Calls Tryz.prog 160 #[.pointer (some ⟨gd,0,none⟩),.int .i64 A] w fun e w'=>e=.returned (.bool (jbi 0 l A))∧Below w.heap.size w w':=by
 obtain⟨xv,cv,rfl⟩:=jan H.2.1
 have HD:Hid (DB w B gd l (.slice xv l.length cv)):=H
 have HK:Hid (Bd K l):=hK
 have S0:Hid (Below w.heap.size w w):=Below.refl _ _
 have c0:=H.cell
 clear H hK
 generalize hG:jbi 0 l A=G
 have HG:Hid (jbi 0 l A=G):=hG
 clear hG
 go_enter Tryz.func160,Tryz.ntmps160
 go_wp2_with fail
 clear c0
 go_loopg [5,13] l.length (fun kx s5 s13 wr=>∃ (k:Nat) (m:Int),s13=.int .i64 k∧s5=.int .i64 m∧k≤l.length∧l.length - k≤kx∧-(k*1000000)≤m∧m≤k*1000000∧Hid (Below w.heap.size w wr)∧Hid (jbi m (l.drop k) A=G))
 case atStart=>exact⟨0,0,rfl,rfl,Nat.zero_le _,by omega,by omega,by omega,S0,by rw [List.drop_zero];exact HG⟩
 case round =>
  clear S0 HG
  obtain⟨k,m,rfl,rfl,hk,hg,hm0,hm1,S1,I⟩:=hrel
  by_cases hkl:k < l.length
  ·obtain⟨x,hx⟩:∃ x,l[k]?=some x:=⟨l[k],List.getElem?_eq_getElem hkl⟩
   have hxb:=HK.out x (List.mem_of_getElem? hx)
   have hd:l.drop k=x::l.drop (k+1):=by
    rw [List.drop_eq_getElem_cons hkl]
    congr 1
    have h:=List.getElem?_eq_getElem hkl
    rw [h] at hx
    exact Option.some.inj hx
   have I2:=I.out
   rw [hd] at I2
   unfold jbi at I2
   have D1:=HD.out.later S1.out
   obtain⟨bb,rfl⟩:∃ bb,xv=some ⟨bb,0,none⟩:=by
    obtain⟨b',c',e',_⟩:=OwnK.ofRow D1.2.1 (by
     intro e
     injection e with _ e _
     omega)
    injection e' with e1 _ _
    exact⟨b',e1⟩
   obtain⟨p0,p1⟩:=(D1.pair hx).1
   have hbw:Below wr.heap.size wr (wr.alloc (.cells #[.int .i64 x.1,.int .i64 x.2] 237)):=(Below.refl _ wr).alloc (Nat.le_refl _) _
   have S2:Hid (Below w.heap.size w (wr.alloc (.cells #[.int .i64 x.1,.int .i64 x.2] 237))):=S1.out.trans (hbw.mono S1.out.size)
   obtain⟨n0,n1⟩:=jgz wr (.int .i64 x.1) (.int .i64 x.2) 237
   have hk3:(k:Int) < (l.length:Int):=by omega
   clear D1 hbw hd I hx
   by_cases h1:A≤x.1
   ·rw [if_pos h1] at I2
    have E:Hid (false=G):=I2
    clear I2
    go_wp2_with fail
    go_ret
    exact⟨by rw [← E.out];rfl,S2.out⟩
   ·rw [if_neg h1] at I2
    have h1':¬ x.1 ≥ A:=by omega
    by_cases h2:0 < m+x.2
    ·rw [if_pos h2] at I2
     have E:Hid (true=G):=I2
     have h2':m+x.2 > 0:=h2
     clear I2
     go_wp2_with fail
     go_ret
     exact⟨by rw [← E.out];rfl,S2.out⟩
    ·rw [if_neg h2] at I2
     have E:Hid (jbi (m+x.2) (l.drop (k+1)) A=G):=I2
     have h2':¬ m+x.2 > 0:=by omega
     clear I2
     go_wp2_with fail
     go_roundg (l.length - (k+1))
     case measure=>omega
     case rel=>exact⟨k+1,m+x.2,by go_num,by go_num,by omega,Nat.le_refl _,by omega,by omega,S2,E⟩
  ·have hke:k=l.length:=by omega
   subst hke
   have hk3:¬ (l.length:Int) < (l.length:Int):=by omega
   have E:Hid (false=G):=by have h:=I.out;rw [List.drop_length] at h;exact h
   clear I
   go_wp2_with fail
   go_ret
   exact⟨by rw [← E.out];rfl,S1.out⟩
def cStay (s:Ship) (at_:Int):Array Value:=#[.int .i64 s.st,.int .i64 s.wd,.int .i64 s.lg,.int .i64 s.cl,.int .i64 s.si,.int .i64 s.qu,.int .i64 at_]
def StB (w:World) (g:Nat) (s:Ship) (at_:Int):Prop:=w.heap[g]?=some (.cells #[.int .i64 s.st,.int .i64 s.wd,.int .i64 s.lg,.int .i64 s.cl,.int .i64 s.si,.int .i64 s.qu,.int .i64 at_] 158)
theorem StB.cells {w:World} {g:Nat} {s:Ship} {at_:Int} (h:StB w g s at_) :
  w.cell? ⟨g,0,none⟩=some (.int .i64 s.st)∧w.cell? ⟨g,1,none⟩=some (.int .i64 s.wd)∧w.cell? ⟨g,2,none⟩=some (.int .i64 s.lg)∧w.cell? ⟨g,3,none⟩=some (.int .i64 s.cl)∧w.cell? ⟨g,4,none⟩=some (.int .i64 s.si)∧w.cell? ⟨g,5,none⟩=some (.int .i64 s.qu)∧w.cell? ⟨g,6,none⟩=some (.int .i64 at_):=by
 have e:∀ i u,(cStay s at_).toList[i]?=some u→w.cell? ⟨g,i,none⟩=some u:=fun i u hu=>by rw [cell_of_row _ _ _ _ _ _ h];simpa [cStay] using hu
 exact⟨e 0 _ rfl,e 1 _ rfl,e 2 _ rfl,e 3 _ rfl,e 4 _ rfl,e 5 _ rfl,e 6 _ rfl⟩
def stayF (s:Ship) (at_ sign t:Int):Int:=if at_=-1 then 0 else if at_≤t∧t < at_+s.lg then sign*s.wd else 0
structure Puts (l:List (Int×Int)) (n:Nat) (M:Int) (f:Int→Int) (l':List (Int×Int)):Prop where
 up:Up l'
 len:l'.length≤l.length+n
 says:∀ t,sumTo l' t=sumTo l t+f t
 bd:∀ K,0≤K→Bd K l→Bd (K+n*M) l'
theorem Puts.zero {l:List (Int×Int)} {M:Int} (hu:Up l):Puts l 0 M (fun _=>0) l:=⟨hu,Nat.le_refl _,fun t=>by omega,fun K _ h=>by simpa using h⟩
theorem Puts.snoc {l l' l'':List (Int×Int)} {n:Nat} {M a b:Int} {f:Int→Int} (hM:0≤M) (h:Puts l n M f l') (h':PutIs l' a b l'') (h0:-M≤b) (h1:b≤M):Puts l (n+1) M (fun t=>f t+if a≤t then b else 0) l'':=by
 refine⟨h'.up,by have:=h.len;have:=h'.len;omega,fun t=>by rw [h'.says t,h.says t];omega,fun K hK hB=>?_⟩
 have h2:0≤(n:Int)*M:=Int.mul_nonneg (by omega) hM
 have:=h'.bd (K+n*M) M (by omega) (h.bd K hK hB) h0 h1
 have e:K+n*M+M=K+((n+1:Nat):Int)*M:=by rw [Int.natCast_add,Int.add_mul];omega
 rw [e] at this
 exact this
theorem Puts.congr {l l':List (Int×Int)} {n:Nat} {M:Int} {f g:Int→Int} (h:Puts l n M f l') (hfg:∀ t,f t=g t):Puts l n M g l':=⟨h.up,h.len,fun t=>by rw [h.says t,hfg t],h.bd⟩
def je5 (B gd:Nat) (l:List (Int×Int)) (n:Nat) (M:Int) (f:Int→Int) (w:World) (e:Ending) (w':World):Prop:=e=.returned (.tuple #[])∧∃ l' v',Puts l n M f l'∧DB w' B gd l' v'∧Below B w w'∧Dr w w' gd
theorem jie (B gd:Nat) (l:List (Int×Int)) (v:Value) (s:Ship) (at_ sign K:Int) (w:World) (H:DB w B gd l v) (hu:Up l) (hl:l.length≤800) (hK0:0≤K) (hK1:K≤900000) (hK:Bd K l) (hw0:0≤s.wd) (hw1:s.wd≤16) (hl0:1≤s.lg) (hl1:s.lg≤300) (ha0:-1≤at_) (ha1:at_≤300) (hsg:sign=1∨sign=-1) :
  Calls Tryz.prog 123 #[.pointer (some ⟨gd,0,none⟩),.agg (cStay s at_),.int .i64 sign] w fun e w'=>je5 B gd l 2 16 (stayF s at_ sign) w e w':=by
 show Calls Tryz.prog 123 #[.pointer (some ⟨gd,0,none⟩),.agg #[.int .i64 s.st,.int .i64 s.wd,.int .i64 s.lg,.int .i64 s.cl,.int .i64 s.si,.int .i64 s.qu,.int .i64 at_],.int .i64 sign] w fun e w'=>je5 B gd l 2 16 (stayF s at_ sign) w e w'
 have hbw:Below w.heap.size w (w.alloc (.cells #[.int .i64 s.st,.int .i64 s.wd,.int .i64 s.lg,.int .i64 s.cl,.int .i64 s.si,.int .i64 s.qu,.int .i64 at_] 158)):=(Below.refl _ w).alloc (Nat.le_refl _) _
 have D0:Hid (DB (w.alloc (.cells #[.int .i64 s.st,.int .i64 s.wd,.int .i64 s.lg,.int .i64 s.cl,.int .i64 s.si,.int .i64 s.qu,.int .i64 at_] 158)) B gd l v∧Below B w (w.alloc (.cells #[.int .i64 s.st,.int .i64 s.wd,.int .i64 s.lg,.int .i64 s.cl,.int .i64 s.si,.int .i64 s.qu,.int .i64 at_] 158))∧Dr w (w.alloc (.cells #[.int .i64 s.st,.int .i64 s.wd,.int .i64 s.lg,.int .i64 s.cl,.int .i64 s.si,.int .i64 s.qu,.int .i64 at_] 158)) gd∧StB (w.alloc (.cells #[.int .i64 s.st,.int .i64 s.wd,.int .i64 s.lg,.int .i64 s.cl,.int .i64 s.si,.int .i64 s.qu,.int .i64 at_] 158)) w.heap.size s at_):=⟨H.later hbw,hbw.mono H.2.2.2,Dr.of hbw,heap_alloc_new w _⟩
 have HK:Hid (Bd K l):=hK
 have HU0:Hid (Up l):=hu
 obtain⟨c0,c1,c2,c3,c4,c5,c6⟩:=D0.out.2.2.2.cells
 by_cases hat:at_=-1
 ·subst hat
  have FIN:Hid (∃ l' v',Puts l 2 16 (stayF s (-1) sign) l'∧DB (w.alloc (.cells #[.int .i64 s.st,.int .i64 s.wd,.int .i64 s.lg,.int .i64 s.cl,.int .i64 s.si,.int .i64 s.qu,.int .i64 (-1)] 158)) B gd l' v'∧Below B w (w.alloc (.cells #[.int .i64 s.st,.int .i64 s.wd,.int .i64 s.lg,.int .i64 s.cl,.int .i64 s.si,.int .i64 s.qu,.int .i64 (-1)] 158))∧Dr w (w.alloc (.cells #[.int .i64 s.st,.int .i64 s.wd,.int .i64 s.lg,.int .i64 s.cl,.int .i64 s.si,.int .i64 s.qu,.int .i64 (-1)] 158)) gd):=by
   refine⟨l,v,⟨hu,by omega,fun t=>by unfold stayF;rw [if_pos rfl];omega,fun K' h0 h=>fun x hx=>by have:=h x hx;omega⟩,D0.out.1,D0.out.2.1,D0.out.2.2.1⟩
  clear hu hK H hbw
  go_enter Tryz.func123,Tryz.ntmps123
  go_wp2_with fail
  go_end0
  exact⟨rfl,FIN.out⟩
 ·have hb:(at_ == -1)=false:=by simp [hat]
  clear hbw
  rcases hsg with rfl|rfl
  ·have P1:=ji2 B gd l v at_ (s.wd) K 16 (w.alloc (.cells #[.int .i64 s.st,.int .i64 s.wd,.int .i64 s.lg,.int .i64 s.cl,.int .i64 s.si,.int .i64 s.qu,.int .i64 at_] 158)) D0.out.1 hu (by omega) hK0 (by omega) hK (by omega) (by omega) (by omega)
   have PZ:Hid (Puts l 0 16 (fun _=>0) l):=Puts.zero hu
   clear hu hK H
   go_enter Tryz.func123,Tryz.ntmps123
   go_wp2_with fail
   first|refine P1.mono ?_|(simp only [Int.one_mul,Int.neg_one_mul,Int.neg_mul] at *;refine P1.mono ?_)
   rintro e w1 ⟨rfl,l1,v1,hp1,hd1,hb1,hr1⟩
   have D1:Hid (DB w1 B gd l1 v1∧Below B w w1∧Dr w w1 gd∧StB w1 w.heap.size s at_):=⟨hd1,D0.out.2.1.trans hb1,D0.out.2.2.1.trans hr1,(hr1.block D0.out.1 D0.out.2.2.2 (by decide) (by decide)).trans D0.out.2.2.2⟩
   have PU:Hid (Puts l 1 16 (fun t=>0+if at_≤t then s.wd else 0) l1):=PZ.out.snoc (by omega) hp1 (by omega) (by omega)
   obtain⟨q0,q1,q2,q3,q4,q5,q6⟩:=D1.out.2.2.2.cells
   have P2:=ji2 B gd l1 v1 (at_+s.lg) (-s.wd) (K+16) 16 w1 D1.out.1 PU.out.up (by have:=PU.out.len;omega) (by omega) (by omega) (by have:=PU.out.bd K hK0 HK.out;simpa using this) (by omega) (by omega) (by omega)
   clear P1 hp1 hd1 hb1 hr1 c0 c1 c2 c3 c4 c5 c6
   go_wp2_with fail
   first|refine P2.mono ?_|(simp only [Int.one_mul,Int.neg_one_mul,Int.neg_mul] at *;refine P2.mono ?_)
   rintro e w2 ⟨rfl,l2,v2,hp2,hd2,hb2,hr2⟩
   have FIN:Hid (∃ l' v',Puts l 2 16 (stayF s at_ (1)) l'∧DB w2 B gd l' v'∧Below B w w2∧Dr w w2 gd):=by
    refine⟨l2,v2,(PU.out.snoc (by omega) hp2 (by omega) (by omega)).congr (fun t=>?_),hd2,D1.out.2.1.trans hb2,D1.out.2.2.1.trans hr2⟩
    unfold stayF
    rw [if_neg hat]
    by_cases c1:at_≤t <;> by_cases c2:at_+s.lg≤t
    ·rw [if_pos c1,if_pos c2,if_neg (by omega)];omega
    ·rw [if_pos c1,if_neg c2,if_pos (by omega)];omega
    ·omega
    ·rw [if_neg c1,if_neg c2,if_neg (by omega)];omega
   clear P2 hp2 hd2 hb2 hr2 D1 PU
   go_wp2_with fail
   go_end0
   exact⟨rfl,FIN.out⟩
  ·have P1:=ji2 B gd l v at_ (-s.wd) K 16 (w.alloc (.cells #[.int .i64 s.st,.int .i64 s.wd,.int .i64 s.lg,.int .i64 s.cl,.int .i64 s.si,.int .i64 s.qu,.int .i64 at_] 158)) D0.out.1 hu (by omega) hK0 (by omega) hK (by omega) (by omega) (by omega)
   have PZ:Hid (Puts l 0 16 (fun _=>0) l):=Puts.zero hu
   clear hu hK H
   go_enter Tryz.func123,Tryz.ntmps123
   go_wp2_with fail
   first|refine P1.mono ?_|(simp only [Int.one_mul,Int.neg_one_mul,Int.neg_mul] at *;refine P1.mono ?_)
   rintro e w1 ⟨rfl,l1,v1,hp1,hd1,hb1,hr1⟩
   have D1:Hid (DB w1 B gd l1 v1∧Below B w w1∧Dr w w1 gd∧StB w1 w.heap.size s at_):=⟨hd1,D0.out.2.1.trans hb1,D0.out.2.2.1.trans hr1,(hr1.block D0.out.1 D0.out.2.2.2 (by decide) (by decide)).trans D0.out.2.2.2⟩
   have PU:Hid (Puts l 1 16 (fun t=>0+if at_≤t then -s.wd else 0) l1):=PZ.out.snoc (by omega) hp1 (by omega) (by omega)
   obtain⟨q0,q1,q2,q3,q4,q5,q6⟩:=D1.out.2.2.2.cells
   have P2:=ji2 B gd l1 v1 (at_+s.lg) (s.wd) (K+16) 16 w1 D1.out.1 PU.out.up (by have:=PU.out.len;omega) (by omega) (by omega) (by have:=PU.out.bd K hK0 HK.out;simpa using this) (by omega) (by omega) (by omega)
   clear P1 hp1 hd1 hb1 hr1 c0 c1 c2 c3 c4 c5 c6
   go_wp2_with fail
   first|refine P2.mono ?_|(simp only [Int.one_mul,Int.neg_one_mul,Int.neg_mul] at *;refine P2.mono ?_)
   rintro e w2 ⟨rfl,l2,v2,hp2,hd2,hb2,hr2⟩
   have FIN:Hid (∃ l' v',Puts l 2 16 (stayF s at_ (-1)) l'∧DB w2 B gd l' v'∧Below B w w2∧Dr w w2 gd):=by
    refine⟨l2,v2,(PU.out.snoc (by omega) hp2 (by omega) (by omega)).congr (fun t=>?_),hd2,D1.out.2.1.trans hb2,D1.out.2.2.1.trans hr2⟩
    unfold stayF
    rw [if_neg hat]
    by_cases c1:at_≤t <;> by_cases c2:at_+s.lg≤t
    ·rw [if_pos c1,if_pos c2,if_neg (by omega)];omega
    ·rw [if_pos c1,if_neg c2,if_pos (by omega)];omega
    ·omega
    ·rw [if_neg c1,if_neg c2,if_neg (by omega)];omega
   clear P2 hp2 hd2 hb2 hr2 D1 PU
   go_wp2_with fail
   go_end0
   exact⟨rfl,FIN.out⟩
end Go.Proofs.YtcmdoeledmkfmacGreatDoor
