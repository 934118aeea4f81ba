/- Texts of this claim, in one: Math Math2 PMath PPlan PKeepM PLaterM PDueM. -/
set_option linter.unusedSimpArgs false
set_option linter.unusedVariables false
namespace Go.Proofs.YtcmdoeledmkfmacGreatDoor
def sAt (l:List (Int×Int)) (j:Nat):Int×Int:=l.getD j (0,0)
def inB (n:Int):Bool:=decide (0≤n∧n≤16)
def fol (s a:Int×Int):Bool:=decide (a.1 < s.1∧s.2≠a.2)
def cmpI (a b:Int):Int:=if a < b then -1 else if b < a then 1 else 0
def CutAt (l:List (Int×Int)) (t:Int) (i:Nat):Prop :=
 i≤l.length∧(∀ k,k < i→(sAt l k).1 < t)∧(∀ k,i≤k→k < l.length→t≤(sAt l k).1)
def fnd (l:List (Int×Int)) (t:Int) (i:Nat):Bool:=decide (i < l.length∧(sAt l i).1=t)
def Rise (l:List (Int×Int)):Prop:=∀ a b,a < b→b < l.length→(sAt l a).1 < (sAt l b).1
def okAt (l:List (Int×Int)) (j:Nat):Bool:=decide ((sAt l j).1 < 300) && inB (sAt l j).2 && (j == 0 || fol (sAt l j) (sAt l (j - 1)))
def goodB (l:List (Int×Int)):Bool:=decide (0 < l.length∧(sAt l 0).1=0∧∀ j,j < l.length→okAt l j=true)
theorem jet {l:List (Int×Int)} (k:Nat) (hk:k < l.length) (h:okAt l k=false):goodB l=false:=by
 unfold goodB
 refine decide_eq_false fun ⟨_,_,h3⟩=>?_
 have:=h3 k hk
 rw [h] at this
 cases this
structure Good (l:List (Int×Int)):Prop where
 pos:0 < l.length
 first:(sAt l 0).1=0
 lt:∀ j,j < l.length→(sAt l j).1 < 300
 lo:∀ j,j < l.length→0≤(sAt l j).2
 hi:∀ j,j < l.length→(sAt l j).2≤16
 up:∀ j,j+1 < l.length→(sAt l j).1 < (sAt l (j+1)).1
 other:∀ j,j+1 < l.length→(sAt l (j+1)).2≠(sAt l j).2
theorem jck {l:List (Int×Int)}:goodB l=true↔Good l:=by
 unfold goodB
 rw [decide_eq_true_iff]
 constructor
 ·rintro ⟨h1,h2,h3⟩
  have e:∀ j,j < l.length→(sAt l j).1 < 300∧(0≤(sAt l j).2∧(sAt l j).2≤16)∧(j=0∨((sAt l (j - 1)).1 < (sAt l j).1∧(sAt l j).2≠(sAt l (j - 1)).2)):=fun j hj=>by
   have:=h3 j hj
   simpa [okAt,inB,fol,and_assoc] using this
  refine⟨h1,h2,fun j hj=>(e j hj).1,fun j hj=>(e j hj).2.1.1,fun j hj=>(e j hj).2.1.2,fun j hj=>?_,fun j hj=>?_⟩
  ·rcases(e (j+1) hj).2.2 with h|h
   ·omega
   ·exact h.1
  ·rcases(e (j+1) hj).2.2 with h|h
   ·omega
   ·exact h.2
 ·intro g
  refine⟨g.pos,g.first,fun j hj=>?_⟩
  have h1:=g.lt j hj;have h2:=g.lo j hj;have h3:=g.hi j hj
  by_cases hj0:j=0
  ·subst hj0;simp [okAt,inB,fol];omega
  ·obtain⟨m,rfl⟩:∃ m,j=m+1:=⟨j - 1,by omega⟩
   have h4:=g.up m hj;have h5:=g.other m hj
   simp [okAt,inB,fol]
   exact⟨⟨by omega,by omega,by omega⟩,by omega,h5⟩
theorem jn3 {l:List (Int×Int)} (h:∀ j,j+1 < l.length→(sAt l j).1 < (sAt l (j+1)).1):Rise l:=by
 intro a b hab
 induction b with
 | zero=>omega
 | succ b ih =>
  intro hb
  have:=h b hb
  by_cases e:a=b
  ·subst e;exact this
  ·have:=ih (by omega) (by omega);omega
theorem Good.rise {l:List (Int×Int)} (g:Good l):Rise l:=jn3 g.up
theorem Rise.idx {l:List (Int×Int)} (h:Rise l) (h0:0≤(sAt l 0).1):∀ j,j < l.length→(j:Int)≤(sAt l j).1:=by
 intro j
 induction j with
 | zero=>intro _;simpa using h0
 | succ j ih=>intro hj;have:=ih (by omega);have:=h j (j+1) (by omega) hj;omega
theorem Good.len {l:List (Int×Int)} (g:Good l):l.length≤300:=by
 have h1:=g.rise.idx (by rw [g.first];exact Int.le_refl _) (l.length - 1) (by have:=g.pos;omega)
 have h2:=g.lt (l.length - 1) (by have:=g.pos;omega)
 omega
theorem Good.nonneg {l:List (Int×Int)} (g:Good l) (j:Nat) (hj:j < l.length):0≤(sAt l j).1:=by
 have:=g.rise.idx (by rw [g.first];exact Int.le_refl _) j hj;omega
theorem jij {a b:Int}:cmpI a b < 0↔a < b:=by
 unfold cmpI;split <;> (try split) <;> omega
theorem jhb {a b:Int}:cmpI a b=0↔a=b:=by
 unfold cmpI;split <;> (try split) <;> omega
theorem jll {l:List (Int×Int)} (hr:Rise l) (t:Int):∀ n,n≤l.length→∃ i,i≤n∧(∀ k,k < i→(sAt l k).1 < t)∧(∀ k,i≤k→k < n→t≤(sAt l k).1):=by
 intro n
 induction n with
 | zero=>intro _;exact⟨0,Nat.le_refl _,fun k hk=>absurd hk (Nat.not_lt_zero _),fun k _ hk=>absurd hk (Nat.not_lt_zero _)⟩
 | succ n ih =>
  intro hn
  obtain⟨i,h1,h2,h3⟩:=ih (by omega)
  by_cases h:(sAt l n).1 < t
  ·refine⟨n+1,Nat.le_refl _,fun k hk=>?_,fun k hk hk2=>by omega⟩
   by_cases e:k=n
   ·subst e;exact h
   ·have:=hr k n (by omega) (by omega);omega
  ·refine⟨i,by omega,h2,fun k hk hk2=>?_⟩
   by_cases e:k=n
   ·subst e;omega
   ·exact h3 k hk (by omega)
theorem jqx {l:List (Int×Int)} (hr:Rise l) (t:Int):∃ i,CutAt l t i:=by
 obtain⟨i,h1,h2,h3⟩:=jll hr t l.length (Nat.le_refl _)
 exact⟨i,h1,h2,h3⟩
def jb8 (d:Int):List (Int×Int)→Int→Int
 | [],_=>d
 | s::r,t=>jb8 (if s.1≤t then s.2 else d) r t
def val (l:List (Int×Int)) (t:Int):Int:=jb8 0 l t
theorem jeq (d:Int) (a b:List (Int×Int)) (t:Int):jb8 d (a++b) t=jb8 (jb8 d a t) b t:=by
 induction a generalizing d with
 | nil=>rfl
 | cons s r ih=>simp only [List.cons_append,jb8];rw [ih]
theorem jfo (d:Int) (r:List (Int×Int)) (t:Int) (h:∀ s∈r,t < s.1):jb8 d r t=d:=by
 induction r generalizing d with
 | nil=>rfl
 | cons s r ih =>
  simp only [jb8]
  have h1:=h s (by simp)
  rw [if_neg (by omega)]
  exact ih d fun x hx=>h x (by simp [hx])
theorem jci {l:List (Int×Int)} {j:Nat} (h:j < l.length):sAt l j=l[j]:=by simp [sAt,h]
theorem ju4 {l:List (Int×Int)} {s:Int×Int} (h:s∈l):∃ j,j < l.length∧sAt l j=s:=by
 obtain⟨j,hj,e⟩:=List.mem_iff_getElem.1 h
 exact⟨j,hj,by rw [jci hj,e]⟩
theorem jmy {l:List (Int×Int)} {n:Nat} {s:Int×Int} (h:s∈l.drop n):∃ j,n≤j∧j < l.length∧sAt l j=s:=by
 obtain⟨j,hj,e⟩:=List.mem_iff_getElem.1 h
 rw [List.length_drop] at hj
 rw [List.getElem_drop] at e
 exact⟨n+j,by omega,by omega,by rw [jci (by omega),e]⟩
theorem jey {l:List (Int×Int)} (hr:Rise l) {t:Int} {j:Nat} (hj:j < l.length) (h1:(sAt l j).1≤t) (h2:j+1 < l.length→t < (sAt l (j+1)).1):val l t=(sAt l j).2:=by
 have e:l=l.take j++(l[j]::l.drop (j+1)):=by rw [← List.drop_eq_getElem_cons hj,List.take_append_drop]
 have e2:val l t=jb8 (sAt l j).2 (l.drop (j+1)) t:=by
  unfold val
  rw [congrArg (fun x=>jb8 0 x t) e,jeq]
  simp only [jb8]
  rw [← jci hj,if_pos h1]
 rw [e2]
 refine jfo _ _ _ fun s hs=>?_
 obtain⟨k,hk,hk2,rfl⟩:=jmy hs
 have h3:=h2 (by omega)
 by_cases ek:k=j+1
 ·subst ek;exact h3
 ·have:=hr (j+1) k (by omega) hk2;omega
theorem jem {l:List (Int×Int)} (hr:Rise l) (hp:0 < l.length) {t:Int} (h0:(sAt l 0).1≤t):∃ j,j < l.length∧(sAt l j).1≤t∧(j+1 < l.length→t < (sAt l (j+1)).1):=by
 obtain⟨i,h1,h2,h3⟩:=jqx hr (t+1)
 have hi:0 < i:=by
  apply Nat.pos_of_ne_zero
  intro e
  have:=h3 0 (by omega) hp
  omega
 exact⟨i - 1,by omega,by have:=h2 (i - 1) (by omega);omega,fun h=>by have:=h3 (i - 1+1) (by omega) h;omega⟩
theorem Good.val_bounds {l:List (Int×Int)} (g:Good l) {t:Int} (h:0≤t):0≤val l t∧val l t≤16:=by
 obtain⟨j,hj,h1,h2⟩:=jem g.rise g.pos (t:=t) (by rw [g.first];exact h)
 rw [jey g.rise hj h1 h2]
 exact⟨g.lo j hj,g.hi j hj⟩
def endOf (l:List (Int×Int)) (i:Nat):Int:=if i+1 < l.length then (sAt l (i+1)).1 else 300
def room (l:List (Int×Int)) (n t long:Int):Prop:=∀ s,t≤s→s < t+long→n≤val l s
def FitIs (l:List (Int×Int)) (fr long n r:Int):Prop :=
 (r=-1∧∀ t,fr≤t→t+long≤300→¬ room l n t long)∨(fr≤r∧r+long≤300∧room l n r long∧∀ t,fr≤t→t < r→¬ room l n t long)
structure jcf (l:List (Int×Int)) (fr long n st b:Int):Prop where
 from_:fr≤st
 no:∀ t,fr≤t→t < st→¬ room l n t long
 yes:∀ s,st≤s→s < b→n≤val l s
 short:b < st+long
theorem jcf.start {l:List (Int×Int)} {fr long n:Int} (h0:0≤fr) (hl:1≤long):jcf l fr long n fr 0 :=
 ⟨Int.le_refl _,fun t a b=>by omega,fun s a b=>by omega,by omega⟩
theorem begOf {l:List (Int×Int)} (g:Good l) {i:Nat} (hi:i < l.length):(sAt l i).1 < endOf l i∧endOf l i≤300∧∀ s,(sAt l i).1≤s→s < endOf l i→val l s=(sAt l i).2:=by
 unfold endOf
 by_cases h:i+1 < l.length
 ·rw [if_pos h]
  exact⟨g.up i h,by have:=g.lt (i+1) h;omega,fun s a b=>jey g.rise hi a (fun _=>b)⟩
 ·rw [if_neg h]
  exact⟨g.lt i hi,Int.le_refl _,fun s a b=>jey g.rise hi a (fun hh=>absurd hh h)⟩
theorem jcf.skip {l:List (Int×Int)} {fr long n st b e:Int} (I:jcf l fr long n st b) (hl:1≤long) (h:e≤st):jcf l fr long n st e :=
 ⟨I.from_,I.no,fun s a b=>by omega,by omega⟩
theorem jcf.few {l:List (Int×Int)} {fr long n st:Int} {i:Nat} (g:Good l) (hi:i < l.length) (I:jcf l fr long n st (sAt l i).1) (hl:1≤long) (h:st < endOf l i) (hn:(sAt l i).2 < n) :
  jcf l fr long n (endOf l i) (endOf l i):=by
 obtain⟨h1,h2,h3⟩:=begOf g hi
 have:=I.from_;have hs:=I.short
 refine⟨by omega,fun t a b hr=>?_,fun s a b=>by omega,by omega⟩
 by_cases ht:t < st
 ·exact I.no t a ht hr
 ·by_cases hb:(sAt l i).1≤t
  ·have:=hr t (Int.le_refl _) (by omega)
   rw [h3 t hb b] at this
   omega
  ·have:=hr (sAt l i).1 (by omega) (by omega)
   rw [h3 _ (Int.le_refl _) h1] at this
   omega
theorem jcf.on {l:List (Int×Int)} {fr long n st:Int} {i:Nat} (g:Good l) (hi:i < l.length) (I:jcf l fr long n st (sAt l i).1) (hn:n≤(sAt l i).2) (h:endOf l i - st < long):jcf l fr long n st (endOf l i):=by
 obtain⟨h1,h2,h3⟩:=begOf g hi
 refine⟨I.from_,I.no,fun s a b=>?_,by omega⟩
 by_cases hb:(sAt l i).1≤s
 ·rw [h3 s hb b];exact hn
 ·exact I.yes s a (by omega)
theorem jcf.found {l:List (Int×Int)} {fr long n st:Int} {i:Nat} (g:Good l) (hi:i < l.length) (I:jcf l fr long n st (sAt l i).1) (hn:n≤(sAt l i).2) (h:long≤endOf l i - st):FitIs l fr long n st:=by
 obtain⟨h1,h2,h3⟩:=begOf g hi
 refine Or.inr ⟨I.from_,by omega,fun s a b=>?_,I.no⟩
 by_cases hb:(sAt l i).1≤s
 ·rw [h3 s hb (by omega)];exact hn
 ·exact I.yes s a (by omega)
theorem jcf.none {l:List (Int×Int)} {fr long n st:Int} (I:jcf l fr long n st 300):FitIs l fr long n (-1):=by
 have:=I.short
 exact Or.inl ⟨rfl,fun t a b=>I.no t a (by omega)⟩
structure Loose (l:List (Int×Int)):Prop where
 pos:0 < l.length
 first:(sAt l 0).1=0
 lt:∀ j,j < l.length→(sAt l j).1 < 300
 lo:∀ j,j < l.length→0≤(sAt l j).2
 hi:∀ j,j < l.length→(sAt l j).2≤16
 rise:Rise l
theorem Good.loose {l:List (Int×Int)} (g:Good l):Loose l:=⟨g.pos,g.first,g.lt,g.lo,g.hi,g.rise⟩
theorem Loose.len {l:List (Int×Int)} (g:Loose l):l.length≤300:=by
 have h1:=g.rise.idx (by rw [g.first];exact Int.le_refl _) (l.length - 1) (by have:=g.pos;omega)
 have h2:=g.lt (l.length - 1) (by have:=g.pos;omega)
 omega
theorem Loose.nonneg {l:List (Int×Int)} (g:Loose l) (j:Nat) (hj:j < l.length):0≤(sAt l j).1:=by
 have:=g.rise.idx (by rw [g.first];exact Int.le_refl _) j hj;omega
def Beg (l:List (Int×Int)) (u:Int):Prop:=∃ j,j < l.length∧(sAt l j).1=u
structure jdm (l:List (Int×Int)) (t:Int) (l':List (Int×Int)):Prop where
 loose:Loose l'
 same:∀ s,0≤s→val l' s=val l s
 beg:t < 300→Beg l' t
 keep:∀ u,Beg l u→Beg l' u
theorem jut (l:List (Int×Int)) (i:Nat) (hi:i≤l.length) (x:Int×Int) (j:Nat):sAt (l.take i++x::l.drop i) j=if j < i then sAt l j else if j=i then x else sAt l (j - 1):=by
 unfold sAt
 simp only [List.getD_eq_getElem?_getD,List.getElem?_append,List.length_take,Nat.min_eq_left hi]
 by_cases h1:j < i
 ·simp [h1,List.getElem?_take]
 ·by_cases h2:j=i
  ·subst h2;simp
  ·obtain⟨k,hk⟩:∃ k,j - i=k+1:=⟨j - i - 1,by omega⟩
   rw [if_neg h1,if_neg h1,if_neg h2,hk,List.getElem?_cons_succ,List.getElem?_drop]
   congr 2
   omega
theorem jr3 (l:List (Int×Int)) (i:Nat) (hi:i≤l.length) (x:Int×Int):(l.take i++x::l.drop i).length=l.length+1:=by simp;omega
theorem jdm.self {l:List (Int×Int)} {t:Int} (g:Loose l) (h:t < 300→Beg l t):jdm l t l:=⟨g,fun _ _=>rfl,h,fun _ h=>h⟩
theorem jdm.ins {l:List (Int×Int)} {t:Int} {i:Nat} (g:Loose l) (h0:0≤t) (h3:t < 300) (hc:CutAt l t i) (hf:fnd l t i=false) :
  0 < i∧jdm l t (l.take i++(t,(sAt l (i - 1)).2)::l.drop i):=by
 obtain⟨c1,c2,c3⟩:=hc
 have hf:=of_decide_eq_false hf
 have hi:0 < i:=by
  apply Nat.pos_of_ne_zero
  intro e
  subst e
  have:=c3 0 (Nat.le_refl _) g.pos
  have:=g.first
  exact hf ⟨g.pos,by omega⟩
 refine⟨hi,?_⟩
 have hs:=jut l i c1 (t,(sAt l (i - 1)).2)
 have hl:=jr3 l i c1 (t,(sAt l (i - 1)).2)
 generalize l.take i++(t,(sAt l (i - 1)).2)::l.drop i=m at hs hl
 have c4:∀ k,i≤k→k < l.length→t < (sAt l k).1:=by
  intro k hk hk2
  by_cases e:k=i
  ·subst e
   have:=c3 k (Nat.le_refl _) hk2
   have:(sAt l k).1≠t:=fun e=>hf ⟨hk2,e⟩
   omega
  ·have:=c3 i (Nat.le_refl _) (by omega)
   have:=g.rise i k (by omega) hk2
   omega
 have lt:∀ j,j < i→sAt m j=sAt l j:=fun j hj=>by rw [hs j,if_pos hj]
 have eq:sAt m i=(t,(sAt l (i - 1)).2):=by rw [hs i,if_neg (by omega),if_pos rfl]
 have gt:∀ j,i≤j→sAt m (j+1)=sAt l j:=fun j hj=>by rw [hs (j+1),if_neg (by omega),if_neg (by omega),Nat.add_sub_cancel]
 have hr:Rise m:=by
  refine jn3 fun j hj=>?_
  rw [hl] at hj
  by_cases h1:j+1 < i
  ·rw [lt j (by omega),lt (j+1) h1];exact g.rise j (j+1) (by omega) (by omega)
  ·by_cases h2:j+1=i
   ·rw [lt j (by omega),h2,eq];exact c2 j (by omega)
   ·by_cases h4:j=i
    ·subst h4;rw [eq,gt j (Nat.le_refl _)];exact c4 j (Nat.le_refl _) (by omega)
    ·obtain⟨k,rfl⟩:∃ k,j=k+1:=⟨j - 1,by omega⟩
     rw [gt k (by omega),gt (k+1) (by omega)];exact g.rise k (k+1) (by omega) (by omega)
 have all:∀ (p:Int×Int→Prop),(∀ j,j < l.length→p (sAt l j))→p (t,(sAt l (i - 1)).2)→∀ j,j < m.length→p (sAt m j):=by
  intro p h1 h2 j hj
  rw [hl] at hj
  by_cases a:j < i
  ·rw [lt j a];exact h1 j (by omega)
  ·by_cases b:j=i
   ·subst b;rw [eq];exact h2
   ·obtain⟨k,rfl⟩:∃ k,j=k+1:=⟨j - 1,by omega⟩
    rw [gt k (by omega)];exact h1 k (by omega)
 refine⟨⟨by omega,by rw [lt 0 hi];exact g.first,all (fun s=>s.1 < 300) g.lt h3,all (fun s=>0≤s.2) g.lo (g.lo (i - 1) (by omega)),all (fun s=>s.2≤16) g.hi (g.hi (i - 1) (by omega)),hr⟩,fun s h=>?_,fun _=>⟨i,by omega,by rw [eq]⟩,?_⟩
 ·obtain⟨j,hj,a,b⟩:=jem g.rise g.pos (t:=s) (by rw [g.first];exact h)
  rw [jey g.rise hj a b]
  by_cases e1:i≤j
  ·rw [jey hr (j:=j+1) (by omega) (by rw [gt j e1];exact a) (fun hh=>by rw [gt (j+1) (by omega)];exact b (by omega)),gt j e1]
  ·by_cases e2:j+1 < i
   ·rw [jey hr (j:=j) (by omega) (by rw [lt j (by omega)];exact a) (fun hh=>by rw [lt (j+1) e2];exact b (by omega)),lt j (by omega)]
   ·have e3:j=i - 1:=by omega
    by_cases e4:s < t
    ·rw [jey hr (j:=j) (by omega) (by rw [lt j (by omega)];exact a) (fun hh=>by rw [show j+1=i by omega,eq];exact e4),lt j (by omega)]
    ·rw [jey hr (j:=i) (by omega) (by rw [eq];show t≤s;omega) (fun hh=>by rw [gt i (Nat.le_refl _)];have:=b (by omega);rwa [show j+1=i by omega] at this),eq,e3]
 ·rintro u ⟨j,hj,rfl⟩
  by_cases a:j < i
  ·exact⟨j,by omega,by rw [lt j a]⟩
  ·exact⟨j+1,by omega,by rw [gt j (by omega)]⟩
def ShInv (q:List (Int×Int)) (a i:Nat) (d:Int) (m:List (Int×Int)):Prop :=
 m.length=q.length∧∀ j,j < q.length→sAt m j=if a≤j∧j < i then ((sAt q j).1,(sAt q j).2+d) else sAt q j
theorem jiy (m:List (Int×Int)) (k:Nat) (x:Int×Int) (j:Nat) (hk:k < m.length):sAt (m.set k x) j=if j=k then x else sAt m j:=by
 unfold sAt
 simp only [List.getD_eq_getElem?_getD,List.getElem?_set]
 by_cases e:j=k
 ·subst e;simp [hk]
 ·rw [if_neg (by omega),if_neg e]
theorem ShInv.start (q:List (Int×Int)) (a:Nat) (d:Int):ShInv q a a d q:=⟨rfl,fun j _=>by rw [if_neg (by omega)]⟩
theorem ShInv.step {q m:List (Int×Int)} {a i:Nat} {d:Int} (h:ShInv q a i d m) (ha:a≤i) (hi:i < q.length):ShInv q a (i+1) d (m.set i ((sAt m i).1,(sAt m i).2+d)):=by
 refine⟨by rw [List.length_set];exact h.1,fun j hj=>?_⟩
 rw [jiy _ _ _ _ (by rw [h.1];exact hi)]
 have h2:=h.2 i hi
 rw [if_neg (by omega)] at h2
 by_cases e:j=i
 ·subst e;rw [if_pos rfl,if_pos ⟨ha,by omega⟩,h2]
 ·rw [if_neg e,h.2 j hj]
  by_cases c:a≤j∧j < i
  ·rw [if_pos c,if_pos ⟨c.1,by omega⟩]
  ·rw [if_neg c,if_neg (by omega)]
theorem ShInv.here {q m:List (Int×Int)} {a i:Nat} {d:Int} (h:ShInv q a i d m) (hi:i < q.length):sAt m i=sAt q i:=by
 rw [h.2 i hi,if_neg (by omega)]
def jca (v:Int):List (Int×Int)→List (Int×Int)
 | []=>[]
 | s::r=>if s.2=v then jca s.2 r else s::jca s.2 r
def ja7:List (Int×Int)→List (Int×Int)
 | []=>[]
 | s::r=>s::jca s.2 r
def lastV (v:Int):List (Int×Int)→Int
 | []=>v
 | s::r=>lastV s.2 r
theorem jjw (v:Int) (r:List (Int×Int)) (x:Int×Int):jca v (r++[x])=jca v r++(if x.2=lastV v r then [] else [x]):=by
 induction r generalizing v with
 | nil=>by_cases e:x.2=v <;> simp [jca,lastV,e]
 | cons s r ih =>
  simp only [List.cons_append,jca,lastV]
  rw [ih]
  by_cases e:s.2=v
  ·rw [if_pos e,if_pos e];by_cases e2:x.2=lastV s.2 r <;> simp [e2]
  ·rw [if_neg e,if_neg e,List.cons_append];by_cases e2:x.2=lastV s.2 r <;> simp [e2]
theorem jqq (v:Int) (r:List (Int×Int)) (x:Int×Int):lastV v (r++[x])=x.2:=by
 induction r generalizing v with
 | nil=>rfl
 | cons s r ih=>simp only [List.cons_append,lastV];exact ih s.2
theorem jgr {l:List (Int×Int)} {p:Nat} (h:p < l.length):l.take (p+1)=l.take p++[sAt l p]:=by
 rw [List.take_succ_eq_append_getElem h,jci h]
theorem jeo {m:List (Int×Int)} {p:Nat} (h0:0 < p) (h:p < m.length):ja7 (m.take (p+1))=ja7 (m.take p)++(if (sAt m p).2=(sAt m (p - 1)).2 then [] else [sAt m p]):=by
 obtain⟨k,rfl⟩:∃ k,p=k+1:=⟨p - 1,by omega⟩
 rw [jgr h,Nat.add_sub_cancel]
 cases m with
 | nil=>simp at h
 | cons s r =>
  simp only [List.take_succ_cons,List.cons_append,ja7,jjw]
  have e:lastV s.2 (r.take k)=(sAt (s::r) k).2:=by
   cases k with
   | zero=>rfl
   | succ k =>
    rw [jgr (by simp at h;omega),jqq]
    rfl
  rw [e]
structure CInv (m:List (Int×Int)) (p k:Nat) (mm:List (Int×Int)):Prop where
 len:mm.length=m.length
 lt:k < p
 le:p≤m.length
 one:0 < k
 done:mm.take k=ja7 (m.take p)
 left:∀ q,p≤q+1→q < m.length→sAt mm q=sAt m q
theorem je4 {m:List (Int×Int)}:∀ k,k≤m.length→(∀ j,0 < j→j < k→(sAt m j).2≠(sAt m (j - 1)).2)→ja7 (m.take k)=m.take k:=by
 intro k
 induction k with
 | zero=>intro _ _;simp [ja7]
 | succ k ih =>
  intro hk h
  by_cases h0:0 < k
  ·rw [jeo h0 (by omega),if_neg (h k h0 (by omega)),ih (by omega) (fun j a b=>h j a (by omega)),jgr (by omega)]
  ·have:k=0:=by omega
   subst this
   cases m with
   | nil=>simp at hk
   | cons s r=>simp [ja7,jca]
theorem CInv.start {m:List (Int×Int)} {k:Nat} (h0:0 < k) (hk:k < m.length) (h:∀ j,0 < j→j < k→(sAt m j).2≠(sAt m (j - 1)).2) (he:(sAt m k).2=(sAt m (k - 1)).2):CInv m (k+1) k m :=
 ⟨rfl,by omega,by omega,h0,by rw [jeo h0 hk,if_pos he,List.append_nil,je4 k (by omega) h],fun _ _ _=>rfl⟩
theorem CInv.skip {m mm:List (Int×Int)} {p k:Nat} (I:CInv m p k mm) (hp:p < m.length) (he:(sAt m p).2=(sAt m (p - 1)).2):CInv m (p+1) k mm :=
 ⟨I.len,by have:=I.lt;omega,by omega,I.one,by rw [jeo (by have:=I.lt;omega) hp,if_pos he,List.append_nil];exact I.done,fun q a b=>I.left q (by omega) b⟩
theorem CInv.keep {m mm:List (Int×Int)} {p k:Nat} (I:CInv m p k mm) (hp:p < m.length) (he:(sAt m p).2≠(sAt m (p - 1)).2):CInv m (p+1) (k+1) (mm.set k (sAt m p)):=by
 have hlt:=I.lt;have hlen:=I.len
 refine⟨by rw [List.length_set];exact I.len,by omega,by omega,by omega,?_,fun q a b=>?_⟩
 ·rw [jeo (by omega) hp,if_neg he,← I.done,jgr (by rw [List.length_set];omega),jiy _ _ _ _ (by omega),if_pos rfl,List.take_set_of_le (Nat.le_refl _)]
 ·rw [jiy _ _ _ _ (by omega),if_neg (by omega)];exact I.left q (by omega) b
theorem CInv.final {m mm:List (Int×Int)} {k:Nat} (I:CInv m m.length k mm):mm.take k=ja7 m∧(ja7 m).length=k:=by
 have h:=I.done
 rw [List.take_length] at h
 have:=I.lt;have:=I.len
 exact⟨h,by rw [← h,List.length_take];omega⟩
theorem jh2 {m:List (Int×Int)} (h:∀ j,0 < j→j < m.length→(sAt m j).2≠(sAt m (j - 1)).2):ja7 m=m:=by
 have:=je4 m.length (Nat.le_refl _) h
 rwa [List.take_length] at this
def Ch (a:Int×Int):List (Int×Int)→Prop
 | []=>True
 | s::r=>a.1 < s.1∧Ch s r
theorem ch_of {a:Int×Int} {r:List (Int×Int)} (h:∀ j,j+1 < (a::r).length→(sAt (a::r) j).1 < (sAt (a::r) (j+1)).1):Ch a r:=by
 induction r generalizing a with
 | nil=>trivial
 | cons s r ih =>
  refine⟨h 0 (by simp),ih fun j hj=>?_⟩
  have:=h (j+1) (by simpa using hj)
  exact this
theorem Ch.all {a:Int×Int} {r:List (Int×Int)} (h:Ch a r):∀ s∈r,a.1 < s.1:=by
 induction r generalizing a with
 | nil=>intro s hs;cases hs
 | cons x r ih =>
  intro s hs
  rcases List.mem_cons.1 hs with rfl|hs
  ·exact h.1
  ·have:=ih h.2 s hs;have:=h.1;omega
theorem jg2 {v:Int} {r:List (Int×Int)} {s:Int×Int} (h:s∈jca v r):s∈r:=by
 induction r generalizing v with
 | nil=>cases h
 | cons x r ih =>
  simp only [jca] at h
  split at h
  ·exact List.mem_cons_of_mem _ (ih h)
  ·rcases List.mem_cons.1 h with rfl|h
   ·exact List.mem_cons_self
   ·exact List.mem_cons_of_mem _ (ih h)
theorem jks {a:Int×Int} {r:List (Int×Int)} (h:Ch a r) (v d t:Int) (hd:d=v∨t < a.1):jb8 d (jca v r) t=jb8 d r t:=by
 induction r generalizing a v d with
 | nil=>rfl
 | cons s r ih =>
  obtain⟨h1,h2⟩:=h
  by_cases ht:s.1≤t
  ·have e:d=v:=by rcases hd with h|h;exact h;omega
   subst e
   simp only [jca,jb8]
   rw [if_pos ht]
   by_cases e2:s.2=d
   ·rw [if_pos e2,e2]
    exact ih h2 d d (Or.inl rfl)
   ·rw [if_neg e2]
    simp only [jb8]
    rw [if_pos ht]
    exact ih h2 s.2 s.2 (Or.inl rfl)
  ·rw [jfo d (s::r) t (fun x hx=>by
    rcases List.mem_cons.1 hx with rfl|hx
    ·omega
    ·have:=h2.all x hx;omega)]
   exact jfo d _ t fun x hx=>by
    have hx:=jg2 hx
    rcases List.mem_cons.1 hx with rfl|hx
    ·omega
    ·have:=h2.all x hx;omega
def Ch2 (a:Int×Int):List (Int×Int)→Prop
 | []=>True
 | s::r=>a.1 < s.1∧s.2≠a.2∧Ch2 s r
theorem jt6 {a b:Int×Int} {r:List (Int×Int)} (h:Ch b r) (hab:a.1≤b.1):Ch2 a (jca a.2 r):=by
 induction r generalizing a b with
 | nil=>trivial
 | cons s r ih =>
  obtain⟨h1,h2⟩:=h
  simp only [jca]
  by_cases e:s.2=a.2
  ·rw [if_pos e,e];exact ih h2 (by omega)
  ·rw [if_neg e];exact⟨by omega,e,ih h2 (Int.le_refl _)⟩
theorem Ch2.idx {a:Int×Int} {r:List (Int×Int)} (h:Ch2 a r):∀ j,j+1 < (a::r).length→(sAt (a::r) j).1 < (sAt (a::r) (j+1)).1∧(sAt (a::r) (j+1)).2≠(sAt (a::r) j).2:=by
 induction r generalizing a with
 | nil=>intro j hj;simp at hj
 | cons s r ih =>
  intro j hj
  cases j with
  | zero=>exact⟨h.1,h.2.1⟩
  | succ j=>exact ih h.2.2 j (by simpa using hj)
theorem jnn {m:List (Int×Int)} (g:Loose m):Good (ja7 m)∧∀ t,0≤t→val (ja7 m) t=val m t:=by
 cases m with
 | nil=>have:=g.pos;simp at this
 | cons a r =>
  have hch:Ch a r:=ch_of fun j hj=>g.rise j (j+1) (by omega) hj
  have h2:Ch2 a (jca a.2 r):=jt6 hch (Int.le_refl _)
  have hix:=h2.idx
  have hmem:∀ s∈ja7 (a::r),s∈a::r:=by
   intro s hs
   rcases List.mem_cons.1 hs with rfl|hs
   ·exact List.mem_cons_self
   ·exact List.mem_cons_of_mem _ (jg2 hs)
  have all:∀ (p:Int×Int→Prop),(∀ j,j < (a::r).length→p (sAt (a::r) j))→∀ j,j < (ja7 (a::r)).length→p (sAt (ja7 (a::r)) j):=by
   intro p hp j hj
   obtain⟨k,hk,e⟩:=ju4 (hmem (sAt (ja7 (a::r)) j) (by rw [jci hj];exact List.getElem_mem hj))
   rw [← e];exact hp k hk
  have hf:=g.first
  refine⟨⟨by simp [ja7],hf,all (fun s=>s.1 < 300) g.lt,all (fun s=>0≤s.2) g.lo,all (fun s=>s.2≤16) g.hi,fun j hj=>(hix j hj).1,fun j hj=>(hix j hj).2⟩,fun t ht=>?_⟩
  have ha:a.1≤t:=by have:a.1=0:=hf;omega
  simp only [val,ja7,jb8]
  rw [if_pos ha]
  exact jks hch a.2 a.2 t (Or.inl rfl)
structure jhc (l:List (Int×Int)) (fr to d:Int) (r:List (Int×Int)):Prop where
 good:Good r
 says:∀ s,0≤s→s < 300→val r s=val l s+if fr≤s∧s < to then d else 0
 fits:∀ s,fr≤s→s < to→0≤val l s+d∧val l s+d≤16
theorem jm5 {q:List (Int×Int)} (hr:Rise q) {u s:Int} (hb:Beg q u) (hus:u≤s) {j:Nat} (hj:j < q.length) (h2:j+1 < q.length→s < (sAt q (j+1)).1):u≤(sAt q j).1:=by
 obtain⟨k,hk,rfl⟩:=hb
 apply Classical.byContradiction
 intro hc
 have hkj:j < k:=by
  apply Classical.byContradiction
  intro h
  by_cases e:k=j
  ·subst e;omega
  ·have:=hr k j (by omega) hj;omega
 have:=h2 (by omega)
 by_cases e:k=j+1
 ·subst e;omega
 ·have:=hr (j+1) k (by omega) hk;omega
theorem jj5 {l q m:List (Int×Int)} {fr to d:Int} {a b:Nat} (h0:0≤fr) (h1:fr≤to) (h2:to≤300) (gq:Loose q) (hs:∀ s,0≤s→val q s=val l s)
  (bf:fr < 300→Beg q fr) (bt:to < 300→Beg q to) (ca:CutAt q fr a) (cb:CutAt q to b) (I:ShInv q a b d m) (hin:∀ j,a≤j→j < b→inB (sAt m j).2=true):jhc l fr to d (ja7 m):=by
 obtain⟨a1,a2,a3⟩:=ca
 obtain⟨b1,b2,b3⟩:=cb
 have hm1:∀ j,j < q.length→(sAt m j).1=(sAt q j).1:=fun j hj=>by rw [I.2 j hj];split <;> rfl
 have hlen:=I.1
 have hrm:Rise m:=fun x y hxy hy=>by rw [hm1 x (by omega),hm1 y (by omega)];exact gq.rise x y hxy (by omega)
 have hfree:∀ j,j < q.length→0≤(sAt m j).2∧(sAt m j).2≤16:=fun j hj=>by
  by_cases c:a≤j∧j < b
  ·have:=of_decide_eq_true (hin j c.1 c.2);exact this
  ·rw [I.2 j hj,if_neg c];exact⟨gq.lo j hj,gq.hi j hj⟩
 have gm:Loose m:=⟨by rw [hlen];exact gq.pos,by rw [hm1 0 gq.pos];exact gq.first,fun j hj=>by rw [hm1 j (by omega)];exact gq.lt j (by omega),fun j hj=>(hfree j (by omega)).1,fun j hj=>(hfree j (by omega)).2,hrm⟩
 have key:∀ s,0≤s→s < 300→val m s=val l s+if fr≤s∧s < to then d else 0:=by
  intro s s0 s3
  obtain⟨j,hj,x,y⟩:=jem gq.rise gq.pos (t:=s) (by rw [gq.first];exact s0)
  have vq:=jey gq.rise hj x y
  have vm:=jey hrm (j:=j) (by omega) (by rw [hm1 j hj];exact x) (fun hh=>by rw [hm1 (j+1) (by omega)];exact y (by omega))
  have e1:a≤j↔fr≤s:=by
   constructor
   ·intro h;have:=a3 j h hj;omega
   ·intro h
    have:=jm5 gq.rise (bf (by omega)) h hj y
    apply Classical.byContradiction
    intro hc
    have:=a2 j (by omega)
    omega
  have e2:j < b↔s < to:=by
   constructor
   ·intro h
    apply Classical.byContradiction
    intro hc
    have:=jm5 gq.rise (bt (by omega)) (by omega) hj y
    have:=b2 j h
    omega
   ·intro h
    apply Classical.byContradiction
    intro hc
    have:=b3 j (by omega) hj
    omega
  rw [vm,I.2 j hj,← hs s s0,vq]
  by_cases c:a≤j∧j < b
  ·rw [if_pos c,if_pos ⟨e1.1 c.1,e2.1 c.2⟩]
  ·rw [if_neg c,if_neg (fun h=>c ⟨e1.2 h.1,e2.2 h.2⟩)];omega
 obtain⟨g1,g2⟩:=jnn gm
 refine⟨g1,fun s s0 s3=>by rw [g2 s s0];exact key s s0 s3,fun s x y=>?_⟩
 have k:=key s (by omega) (by omega)
 rw [if_pos ⟨x,y⟩] at k
 rw [← k]
 obtain⟨j,hj,x',y'⟩:=jem hrm gm.pos (t:=s) (by rw [gm.first];omega)
 rw [jey hrm hj x' y']
 exact hfree j (by omega)
theorem jma {l q m:List (Int×Int)} {fr to d:Int} {a b i:Nat} (h2:to≤300) (gq:Loose q) (hs:∀ s,0≤s→val q s=val l s)
  (ca:CutAt q fr a) (cb:CutAt q to b) (ha:a≤i) (hi:i < b) (hin:inB ((sAt q i).2+d)=false):∃ s,fr≤s∧s < to∧¬ (0≤val l s+d∧val l s+d≤16):=by
 obtain⟨a1,a2,a3⟩:=ca
 obtain⟨b1,b2,b3⟩:=cb
 have hil:i < q.length:=by omega
 refine⟨(sAt q i).1,a3 i ha hil,b2 i hi,?_⟩
 rw [← hs _ (gq.nonneg i hil),jey gq.rise hil (Int.le_refl _) (fun hh=>gq.rise i (i+1) (by omega) hh)]
 exact of_decide_eq_false hin
structure Ship where
 st:Int
 wd:Int
 lg:Int
 cl:Int
 si:Int
 qu:Int
structure Kp where
 wd:Int
 fr:Int
 to:Int
structure Pt where
 now:Int
 ships:List Ship
 kept:List Kp
 shut:Int
 next:Int
structure Ord where
 kd:Int
 a:Int
 b:Int
 c:Int
structure jce (s:Ship) (now:Int):Prop where
 st:1≤s.st∧s.st≤4
 wd:1≤s.wd∧s.wd≤16
 lg:1≤s.lg∧s.lg≤300
 cl:0≤s.cl∧s.cl≤3
 qu:0≤s.qu
 lies:s.st=3→0≤s.si∧s.si≤now∧now < s.si+s.lg∧s.si+s.lg≤300
 else_:s.st≠3→s.si=0
def jbc (s:Ship) (now:Int):Bool :=
 decide ((1≤s.st∧s.st≤4)∧(1≤s.wd∧s.wd≤16)∧(1≤s.lg∧s.lg≤300)∧(0≤s.cl∧s.cl≤3)∧0≤s.qu∧(s.st=3→0≤s.si∧s.si≤now∧now < s.si+s.lg∧s.si+s.lg≤300)∧(s.st≠3→s.si=0))
theorem jcs {s:Ship} {now:Int}:jbc s now=true↔jce s now:=by
 unfold jbc
 rw [decide_eq_true_iff]
 exact⟨fun ⟨a,b,c,d,e,f,g⟩=>⟨a,b,c,d,e,f,g⟩,fun h=>⟨h.st,h.wd,h.lg,h.cl,h.qu,h.lies,h.else_⟩⟩
theorem jbt {s:Ship} {now:Int} (h:¬ jce s now):jbc s now=false:=by
 cases e:jbc s now
 ·rfl
 ·exact absurd (jcs.1 e) h
def jb2 (k:Kp):Prop:=(k.wd=0∧k.fr=0∧k.to=0)∨((1≤k.wd∧k.wd≤16)∧(0≤k.fr∧k.fr≤300)∧k.fr < k.to∧k.to≤300)
def jdn (s:Ship) (t:Int):Int:=if s.st=3∧t < s.si+s.lg then s.wd else 0
def jek (k:Kp) (t:Int):Int:=if k.fr≤t∧t < k.to then k.wd else 0
def ja8 (l:List Ship) (t:Int):Int:=(l.map fun s=>jdn s t).foldr (·+·) 0
def jbh (l:List Kp) (t:Int):Int:=(l.map fun k=>jek k t).foldr (·+·) 0
def ja3 (p:Pt) (t:Int):Int:=16 - p.shut - if p.now≤t then ja8 p.ships t+jbh p.kept t else 0
structure ja4 (p:Pt):Prop where
 now:0≤p.now∧p.now≤299
 shut:0≤p.shut∧p.shut≤16
 len:p.ships.length < 15
 next:0≤p.next∧p.next≤1048576
 ship:∀ s∈p.ships,jce s p.now∧s.qu < p.next
 once:∀ (i j:Nat) (r s:Ship),i < j→p.ships[i]?=some r→p.ships[j]?=some s→r.qu≠s.qu
 four:p.kept.length=4
 kept:∀ k∈p.kept,jb2 k
structure jaj (p:Pt):Prop where
 port:ja4 p
 base:∀ t:Int,0≤t→t < 300→0≤ja3 p t
theorem jht (l:List Ship) (s:Ship) (t:Int):ja8 (l++[s]) t=ja8 l t+jdn s t:=by
 unfold ja8
 induction l with
 | nil=>simp
 | cons a r ih=>simp only [List.cons_append,List.map_cons,List.foldr_cons,ih];omega
theorem jm2 (l:List Kp) (s:Kp) (t:Int):jbh (l++[s]) t=jbh l t+jek s t:=by
 unfold jbh
 induction l with
 | nil=>simp
 | cons a r ih=>simp only [List.cons_append,List.map_cons,List.foldr_cons,ih];omega
theorem je8 (l:List Ship) (t:Int) (h:∀ s∈l,0≤s.wd∧s.wd≤16):0≤ja8 l t∧ja8 l t≤16*l.length:=by
 unfold ja8
 induction l with
 | nil=>simp
 | cons a r ih =>
  have h1:=ih fun s hs=>h s (List.mem_cons_of_mem _ hs)
  have h2:=h a List.mem_cons_self
  have h3:0≤jdn a t∧jdn a t≤16:=by unfold jdn;split <;> omega
  simp only [List.map_cons,List.foldr_cons,List.length_cons]
  omega
theorem jfh (l:List Kp) (t:Int) (h:∀ k∈l,0≤k.wd∧k.wd≤16):0≤jbh l t∧jbh l t≤16*l.length:=by
 unfold jbh
 induction l with
 | nil=>simp
 | cons a r ih =>
  have h1:=ih fun s hs=>h s (List.mem_cons_of_mem _ hs)
  have h2:=h a List.mem_cons_self
  have h3:0≤jek a t∧jek a t≤16:=by unfold jek;split <;> omega
  simp only [List.map_cons,List.foldr_cons,List.length_cons]
  omega
theorem jb2.wide {k:Kp} (h:jb2 k):0≤k.wd∧k.wd≤16:=by
 rcases h with h|h
 ·omega
 ·exact⟨by omega,h.1.2⟩
def jrw:Ship:=⟨0,0,0,0,0,0⟩
def shp (p:Pt) (i:Nat):Ship:=p.ships.getD i jrw
theorem jbj {p:Pt} {i:Nat} {s:Ship} (h:p.ships[i]?=some s):shp p i=s:=by unfold shp;rw [List.getD_eq_getElem?_getD,h];rfl
def before (r s:Ship):Prop:=r.cl < s.cl∨r.cl=s.cl∧r.qu < s.qu
theorem jdp {r s:Ship} (h:before r s):¬ before s r:=by unfold before at *;omega
theorem jep {r s u:Ship} (h:before r s) (h2:before s u):before r u:=by unfold before at *;omega
theorem jh3 {r s:Ship} (h:r.qu≠s.qu):before r s∨before s r:=by unfold before;omega
structure jbo (p:Pt) (rk:List Nat):Prop where
 mem:∀ i,i∈rk↔i < p.ships.length∧(shp p i).st=1
 srt:rk.Pairwise fun i j=>before (shp p i) (shp p j)
theorem jgt {α:Type} (R:α→α→Prop) (hR:∀ a b,R a b→¬ R b a):∀ (a b:List α),a.Pairwise R→b.Pairwise R→(∀ x,x∈a↔x∈b)→a=b:=by
 have irr:∀ x,¬ R x x:=fun x h=>hR x x h h
 intro a
 induction a with
 | nil =>
  intro b _ _ h
  cases b with
  | nil=>rfl
  | cons y r=>exact absurd ((h y).2 List.mem_cons_self) (by simp)
 | cons x a ih =>
  intro b ha hb h
  cases b with
  | nil=>exact absurd ((h x).1 List.mem_cons_self) (by simp)
  | cons y b =>
   have ha':=List.pairwise_cons.1 ha
   have hb':=List.pairwise_cons.1 hb
   have hxy:x=y:=by
    rcases List.mem_cons.1 ((h x).1 List.mem_cons_self) with h1|h1
    ·exact h1
    ·rcases List.mem_cons.1 ((h y).2 List.mem_cons_self) with h2|h2
     ·exact h2.symm
     ·exact absurd (ha'.1 y h2) (hR _ _ (hb'.1 x h1))
   subst hxy
   have:a=b:=ih b ha'.2 hb'.2 fun z=>by
    constructor
    ·intro hz
     rcases List.mem_cons.1 ((h z).1 (List.mem_cons_of_mem _ hz)) with h1|h1
     ·subst h1;exact absurd (ha'.1 _ hz) (irr _)
     ·exact h1
    ·intro hz
     rcases List.mem_cons.1 ((h z).2 (List.mem_cons_of_mem _ hz)) with h1|h1
     ·subst h1;exact absurd (hb'.1 _ hz) (irr _)
     ·exact h1
   rw [this]
theorem jbo.unique {p:Pt} {a b:List Nat} (ha:jbo p a) (hb:jbo p b):a=b :=
 jgt _ (fun _ _ h=>jdp h) a b ha.srt hb.srt fun x=>(ha.mem x).trans (hb.mem x).symm
theorem jbo.nodup {p:Pt} {a:List Nat} (ha:jbo p a):a.Nodup:=by
 refine List.Pairwise.imp (fun {i j} h=>?_) ha.srt
 rintro rfl
 exact jdp h h
theorem ji8 (n:Nat):∀ (a:List Nat),a.Nodup→(∀ x∈a,x < n)→a.length≤n:=by
 induction n with
 | zero =>
  intro a _ h
  cases a with
  | nil=>simp
  | cons x r=>exact absurd (h x List.mem_cons_self) (Nat.not_lt_zero _)
 | succ n ih =>
  intro a hn h
  have h1:=ih (a.erase n) (hn.erase n) fun x hx=>by
   have h2:=(hn.mem_erase_iff).1 hx
   have h3:=h x h2.2
   have:=h2.1
   omega
  by_cases hm:n∈a
  ·rw [List.length_erase_of_mem hm] at h1;omega
  ·rw [List.erase_of_not_mem hm] at h1;omega
theorem jbo.len {p:Pt} {a:List Nat} (ha:jbo p a):a.length≤p.ships.length :=
 ji8 _ a ha.nodup fun x hx=>((ha.mem x).1 hx).1
def roomF (f:Int→Int) (n t long:Int):Prop:=∀ s,t≤s→s < t+long→n≤f s
def FitF (f:Int→Int) (fr long n r:Int):Prop :=
 (r=-1∧∀ t,fr≤t→t+long≤300→¬ roomF f n t long)∨(fr≤r∧r+long≤300∧roomF f n r long∧∀ t,fr≤t→t < r→¬ roomF f n t long)
theorem FitF.unique {f:Int→Int} {fr long n r r':Int} (h0:0≤fr) (h:FitF f fr long n r) (h':FitF f fr long n r'):r=r':=by
 rcases h with ⟨h1,h2⟩|⟨h1,h2,h3,h4⟩ <;> rcases h' with ⟨g1,g2⟩|⟨g1,g2,g3,g4⟩
 ·omega
 ·exact absurd g3 (h2 r' g1 g2)
 ·exact absurd h3 (g2 r h1 h2)
 ·rcases Int.lt_trichotomy r r' with e|e|e
  ·exact absurd h3 (g4 r h1 e)
  ·exact e
  ·exact absurd g3 (h4 r' g1 e)
theorem jgj {f g:Int→Int} {n t long:Int} (h:∀ s,t≤s→s < t+long→f s=g s):roomF f n t long↔roomF g n t long :=
 ⟨fun H s a b=>by rw [← h s a b];exact H s a b,fun H s a b=>by rw [h s a b];exact H s a b⟩
theorem FitF.congr {f g:Int→Int} {fr long n r:Int} (h:∀ s,fr≤s→s < 300→f s=g s) (hf:FitF f fr long n r):FitF g fr long n r:=by
 rcases hf with ⟨h1,h2⟩|⟨h1,h2,h3,h4⟩
 ·exact Or.inl ⟨h1,fun t a b=>fun R=>h2 t a b ((jgj fun s c d=>h s (by omega) (by omega)).2 R)⟩
 ·exact Or.inr ⟨h1,h2,(jgj fun s c d=>h s (by omega) (by omega)).1 h3,fun t a b=>fun R=>h4 t a b ((jgj fun s c d=>h s (by omega) (by omega)).2 R)⟩
def ctr (p:Pt) (pl:List Int) (i:Nat) (t:Int):Int :=
 if 0≤pl.getD i (-1)∧pl.getD i (-1)≤t∧t < pl.getD i (-1)+(shp p i).lg then (shp p i).wd else 0
def ctrs (p:Pt) (pl:List Int) (rk:List Nat) (t:Int):Int:=(rk.map fun i=>ctr p pl i t).foldr (·+·) 0
theorem jen (p:Pt) (pl:List Int) (t:Int):ctrs p pl [] t=0:=rfl
theorem jb1 (p:Pt) (pl:List Int) (i:Nat) (r:List Nat) (t:Int):ctrs p pl (i::r) t=ctr p pl i t+ctrs p pl r t:=rfl
theorem jdl (p:Pt) (pl:List Int) (a b:List Nat) (t:Int):ctrs p pl (a++b) t=ctrs p pl a t+ctrs p pl b t:=by
 induction a with
 | nil=>simp [jen]
 | cons i r ih=>rw [List.cons_append,jb1,jb1,ih];omega
def Chain (p:Pt) (pl:List Int) (f:Int→Int) (rk:List Nat):Prop :=
 ∀ (a b:List Nat) (i:Nat),rk=a++i::b→FitF (fun t=>f t - ctrs p pl a t) p.now (shp p i).lg (shp p i).wd (pl.getD i (-1))
structure jbd (p:Pt) (pl:List Int):Prop where
 len:pl.length=p.ships.length
 none:∀ i,i < p.ships.length→(shp p i).st≠1→pl.getD i (-1)=-1
 some:∃ rk,jbo p rk∧Chain p pl (ja3 p) rk
theorem jno (p:Pt) (pl:List Int) (f:Int→Int):Chain p pl f []:=fun a b i h=>by simp at h
theorem Chain.take {p:Pt} {pl:List Int} {f:Int→Int} {a b:List Nat} (h:Chain p pl f (a++b)):Chain p pl f a:=fun c d i e=>h c (d++b) i (by rw [e];simp)
theorem Chain.snoc {p:Pt} {pl:List Int} {f:Int→Int} {a:List Nat} {i:Nat} (h:Chain p pl f a) (hf:FitF (fun t=>f t - ctrs p pl a t) p.now (shp p i).lg (shp p i).wd (pl.getD i (-1))):Chain p pl f (a++[i]):=by
 intro c d j e
 by_cases hd:d=[]
 ·subst hd
  have h1:=List.append_inj' e (by simp)
  have h2:i=j:=by simpa using h1.2
  rw [← h1.1,← h2]
  exact hf
 ·obtain⟨d',x,rfl⟩:∃ d' x,d=d'++[x]:=⟨d.dropLast,d.getLast hd,(List.dropLast_concat_getLast hd).symm⟩
  have e':a++[i]=(c++j::d')++[x]:=by rw [e];simp
  have h1:=List.append_inj' e' (by simp)
  exact h c d' j h1.1
theorem jqy {p:Pt} {pl:List Int} {i j:Nat} (v:Int) (h:j≠i) (t:Int):ctr p (pl.set i v) j t=ctr p pl j t:=by
 have:(pl.set i v).getD j (-1)=pl.getD j (-1):=by
  rw [List.getD_eq_getElem?_getD,List.getD_eq_getElem?_getD,List.getElem?_set_ne (fun e=>h e.symm)]
 unfold ctr;rw [this]
theorem jev {p:Pt} {pl:List Int} {i:Nat} (v:Int):∀ {rk:List Nat},i ∉ rk→∀ t,ctrs p (pl.set i v) rk t=ctrs p pl rk t:=by
 intro rk
 induction rk with
 | nil=>intro _ t;rfl
 | cons j r ih =>
  intro h t
  rw [jb1,jb1,ih (fun hh=>h (List.mem_cons_of_mem _ hh)) t,jqy v (fun e=>h (by rw [e];exact List.mem_cons_self))]
theorem Chain.set {p:Pt} {pl:List Int} {f:Int→Int} {rk:List Nat} {i:Nat} (h:Chain p pl f rk) (v:Int) (hi:i ∉ rk):Chain p (pl.set i v) f rk:=by
 intro a b j e
 have hj:j≠i:=fun hh=>hi (by rw [e,hh];simp)
 have ha:i ∉ a:=fun hh=>hi (by rw [e];exact List.mem_append_left _ hh)
 have h1:=h a b j e
 have h2:(pl.set i v).getD j (-1)=pl.getD j (-1):=by
  rw [List.getD_eq_getElem?_getD,List.getD_eq_getElem?_getD,List.getElem?_set_ne (fun e=>hj e.symm)]
 rw [h2]
 exact h1.congr fun s _ _=>by show _=_;rw [jev v ha]
theorem Chain.same {p q:Pt} {x y:List Int} {f g:Int→Int} (hn:p.now=q.now) (h0:0≤p.now) (hf:∀ t,p.now≤t→t < 300→f t=g t):∀ (n:Nat) (rk:List Nat),rk.length=n→(∀ i∈rk,(shp p i).lg=(shp q i).lg∧(shp p i).wd=(shp q i).wd) →
  Chain p x f rk→Chain q y g rk→∀ i∈rk,x.getD i (-1)=y.getD i (-1):=by
 intro n
 induction n with
 | zero=>intro rk hl _ _ _ i hi;rw [List.eq_nil_of_length_eq_zero hl] at hi;cases hi
 | succ n ih =>
  intro rk hl hs hx hy
  have hne:rk≠[]:=by rintro rfl;simp at hl
  obtain⟨a,z,rfl⟩:∃ a z,rk=a++[z]:=⟨rk.dropLast,rk.getLast hne,(List.dropLast_concat_getLast hne).symm⟩
  have h1:=ih a (by simp at hl;exact hl) (fun i hi=>hs i (List.mem_append_left _ hi)) hx.take hy.take
  have hc:∀ (b:List Nat),(∀ i∈b,i∈a)→∀ t,ctrs p x b t=ctrs q y b t:=by
   intro b
   induction b with
   | nil=>intro _ t;rfl
   | cons j r ih2 =>
    intro hb t
    rw [jb1,jb1,ih2 (fun i hi=>hb i (List.mem_cons_of_mem _ hi))]
    have hj:=hb j List.mem_cons_self
    have e1:=h1 j hj
    have e2:=hs j (List.mem_append_left _ hj)
    unfold ctr
    rw [e1,e2.1,e2.2]
  intro i hi
  rcases List.mem_append.1 hi with hi|hi
  ·exact h1 i hi
  ·have:i=z:=by simpa using hi
   subst this
   have f1:=hx a [] i rfl
   have f2:=hy a [] i rfl
   have e2:=hs i (by simp)
   rw [← hn,← e2.1,← e2.2] at f2
   refine f1.unique h0 (f2.congr fun s ha hb=>?_)
   show g s - ctrs q y a s=f s - ctrs p x a s
   rw [hf s ha hb,hc a (fun i hi=>hi) s]
theorem jbd.unique {p:Pt} {x y:List Int} (h0:0≤p.now) (hx:jbd p x) (hy:jbd p y):x=y:=by
 obtain⟨rk,hr,c1⟩:=hx.some
 obtain⟨rk',hr',c2⟩:=hy.some
 have:rk=rk':=hr.unique hr'
 subst this
 have h1:=Chain.same rfl h0 (fun _ _ _=>rfl) rk.length rk rfl (fun _ _=>⟨rfl,rfl⟩) c1 c2
 refine List.ext_getElem (by rw [hx.len,hy.len]) fun i ha hb=>?_
 have e1:x.getD i (-1)=x[i]:=by simp [List.getD_eq_getElem?_getD,ha]
 have e2:y.getD i (-1)=y[i]:=by simp [List.getD_eq_getElem?_getD,hb]
 rw [← e1,← e2]
 have hl:i < p.ships.length:=by rw [← hx.len];exact ha
 by_cases hw:(shp p i).st=1
 ·exact h1 i ((hr.mem i).2 ⟨hl,hw⟩)
 ·rw [hx.none i hl hw,hy.none i hl hw]
theorem jkj {p:Pt} {pl:List Int} {i:Nat} (h:0≤(shp p i).wd) (t:Int):0≤ctr p pl i t:=by unfold ctr;split <;> omega
theorem jhs {p:Pt} (h:ja4 p) (i:Nat) (hi:i < p.ships.length):jce (shp p i) p.now∧(shp p i).qu < p.next:=by
 have:p.ships[i]?=some p.ships[i]:=List.getElem?_eq_getElem hi
 rw [jbj this]
 exact h.ship _ (List.getElem_mem hi)
theorem jiu {p:Pt} (h:ja4 p) (i:Nat):0≤(shp p i).wd:=by
 by_cases hi:i < p.ships.length
 ·have:=(jhs h i hi).1.wd;omega
 ·have:shp p i=jrw:=by unfold shp;rw [List.getD_eq_getElem?_getD,List.getElem?_eq_none (by omega)];rfl
  rw [this];decide
theorem Chain.nonneg {p:Pt} {pl:List Int} {f:Int→Int} (h0:0≤p.now) (hf:∀ t,0≤t→t < 300→0≤f t):∀ (n:Nat) (rk:List Nat),rk.length=n→Chain p pl f rk→∀ t,0≤t→t < 300→0≤f t - ctrs p pl rk t:=by
 intro n
 induction n with
 | zero=>intro rk hl _ t a b;rw [List.eq_nil_of_length_eq_zero hl,jen];have:=hf t a b;omega
 | succ n ih =>
  intro rk hl hx t ha hb
  have hne:rk≠[]:=by rintro rfl;simp at hl
  obtain⟨a,z,rfl⟩:∃ a z,rk=a++[z]:=⟨rk.dropLast,rk.getLast hne,(List.dropLast_concat_getLast hne).symm⟩
  have h1:=ih a (by simp at hl;exact hl) hx.take t ha hb
  have h2:=hx a [] z rfl
  rw [jdl,jb1,jen]
  unfold ctr
  split
  ·rename_i hc
   rcases h2 with ⟨e,_⟩|⟨_,_,hr,_⟩
   ·omega
   ·have h3:(shp p z).wd≤f t - ctrs p pl a t:=hr t hc.2.1 hc.2.2
    omega
  ·omega
theorem jln {p:Pt} {pl:List Int} (h:∀ i,0≤(shp p i).wd) (t:Int):∀ (a b:List Nat),a.Nodup→(∀ i∈a,ctr p pl i t≠0→i∈b)→ctrs p pl a t≤ctrs p pl b t:=by
 have hpos:∀ b,0≤ctrs p pl b t:=by
  intro b
  induction b with
  | nil=>exact Int.le_refl _
  | cons j r ih=>rw [jb1];have:=jkj (pl:=pl) (h j) t;omega
 have her:∀ (b:List Nat) (i:Nat),i∈b→ctrs p pl b t=ctr p pl i t+ctrs p pl (b.erase i) t:=by
  intro b i
  induction b with
  | nil=>intro h;cases h
  | cons j r ih =>
   intro hi
   by_cases e:j=i
   ·subst e;rw [List.erase_cons_head,jb1]
   ·rw [List.erase_cons_tail (by simpa using e),jb1,jb1]
    rcases List.mem_cons.1 hi with h1|h1
    ·exact absurd h1.symm e
    ·rw [ih h1];omega
 intro a
 induction a with
 | nil=>intro b _ _;exact hpos b
 | cons i r ih =>
  intro b hn hm
  have hn':=List.nodup_cons.1 hn
  rw [jb1]
  by_cases hz:ctr p pl i t=0
  ·rw [hz];have:=ih b hn'.2 fun j hj=>hm j (List.mem_cons_of_mem _ hj);omega
  ·have hb:=hm i List.mem_cons_self hz
   have:=ih (b.erase i) hn'.2 fun j hj hc=>(List.mem_erase_of_ne (fun e=>hn'.1 (by rw [← e];exact hj))).2 (hm j (List.mem_cons_of_mem _ hj) hc)
   rw [her b i hb];omega
theorem jbd.waits {p:Pt} {pl:List Int} (h:jbd p pl) {k:Nat} (hk:k < p.ships.length) (h0:0≤pl.getD k (-1)):(shp p k).st=1:=by
 by_cases e:(shp p k).st=1
 ·exact e
 ·have:=h.none k hk e;omega
theorem jbd.room {p:Pt} {pl:List Int} (hp:jaj p) (h:jbd p pl) {k:Nat} (hk:k < p.ships.length) (h0:0≤pl.getD k (-1)) :
  (shp p k).st=1∧p.now≤pl.getD k (-1)∧pl.getD k (-1)+(shp p k).lg≤300∧∀ t,pl.getD k (-1)≤t→t < pl.getD k (-1)+(shp p k).lg→(shp p k).wd≤ja3 p t - ctrs p pl (List.range k) t:=by
 have hw:=h.waits hk h0
 obtain⟨rk,hr,hc⟩:=h.some
 have hm:k∈rk:=(hr.mem k).2 ⟨hk,hw⟩
 obtain⟨a,b,hab⟩:=List.append_of_mem hm
 rcases hc a b k hab with ⟨e,_⟩|⟨h1,h2,_,_⟩
 ·omega
 ·refine⟨hw,h1,h2,fun t ta tb=>?_⟩
  have n0:=hp.port.now.1
  have hn:=Chain.nonneg n0 hp.base rk.length rk rfl hc t (by omega) (by omega)
  have hle:=jln (pl:=pl) (jiu hp.port) t (List.range (k+1)) rk List.nodup_range (fun i hi hne=>by
   have hi':=List.mem_range.1 hi
   refine(hr.mem i).2 ⟨by omega,h.waits (by omega) ?_⟩
   unfold ctr at hne
   split at hne
   ·rename_i c;exact c.1
   ·exact absurd rfl hne)
  rw [List.range_succ,jdl,jb1,jen] at hle
  have hk1:ctr p pl k t=(shp p k).wd:=by unfold ctr;rw [if_pos ⟨h0,ta,tb⟩]
  omega
theorem jhr {α:Type} (R:α→α→Prop) (P:α→Bool) (hP:∀ a b,R a b→P b=true→P a=true):∀ l:List α,l.Pairwise R→l=l.filter P++l.filter (fun x=>!P x):=by
 intro l
 induction l with
 | nil=>intro _;rfl
 | cons x r ih =>
  intro h
  have h':=List.pairwise_cons.1 h
  have hr:=ih h'.2
  by_cases hx:P x=true
  ·rw [List.filter_cons_of_pos hx,List.filter_cons_of_neg (by simp [hx]),List.cons_append,← hr]
  ·have hall:∀ y∈r,P y=false:=fun y hy=>by
    cases e:P y
    ·rfl
    ·exact absurd (hP x y (h'.1 y hy) e) hx
   have e1:r.filter P=[]:=List.filter_eq_nil_iff.2 fun y hy=>by simp [hall y hy]
   have e2:r.filter (fun x=>!P x)=r:=List.filter_eq_self.2 fun y hy=>by simp [hall y hy]
   rw [List.filter_cons_of_neg hx,List.filter_cons_of_pos (by simp [hx]),e1,e2];rfl
def jd5 (r s:Ship):Bool:=decide (r.cl < s.cl∨r.cl=s.cl∧r.qu < s.qu)
theorem jcu {r s:Ship}:jd5 r s=true↔before r s:=by unfold jd5 before;simp
theorem jqf {p q:Pt} {x y:List Int} (s:Ship) (hn:p.now=q.now) (h0:0≤p.now) (hf:∀ t,p.now≤t→t < 300→ja3 p t=ja3 q t)
  (hs:∀ i,before (shp p i) s∧(i < p.ships.length∧(shp p i).st=1)→shp q i=shp p i∧i < q.ships.length)
  (hs':∀ i,before (shp q i) s∧(i < q.ships.length∧(shp q i).st=1)→shp q i=shp p i∧i < p.ships.length)
  (hx:jbd p x) (hy:jbd q y) {i:Nat} (hi:i < p.ships.length) (hw:(shp p i).st=1) (hb:before (shp p i) s):x.getD i (-1)=y.getD i (-1):=by
 obtain⟨rk,hr,hc⟩:=hx.some
 obtain⟨rk',hr',hc'⟩:=hy.some
 have e1:=jhr _ (fun i=>jd5 (shp p i) s) (fun a b h1 h2=>jcu.2 (jep h1 (jcu.1 h2))) rk hr.srt
 have e2:=jhr _ (fun i=>jd5 (shp q i) s) (fun a b h1 h2=>jcu.2 (jep h1 (jcu.1 h2))) rk' hr'.srt
 have c1:Chain p x (ja3 p) (rk.filter fun i=>jd5 (shp p i) s):=by rw [e1] at hc;exact hc.take
 have c2:Chain q y (ja3 q) (rk'.filter fun i=>jd5 (shp q i) s):=by rw [e2] at hc';exact hc'.take
 have hm:∀ j,j∈rk.filter (fun i=>jd5 (shp p i) s)↔j∈rk'.filter (fun i=>jd5 (shp q i) s):=fun j=>by
  rw [List.mem_filter,List.mem_filter,jcu,jcu,hr.mem,hr'.mem]
  constructor
  ·rintro ⟨⟨h1,h2⟩,h3⟩
   obtain⟨e,hl⟩:=hs j ⟨h3,h1,h2⟩
   rw [e];exact⟨⟨hl,h2⟩,h3⟩
  ·rintro ⟨⟨h1,h2⟩,h3⟩
   obtain⟨e,hl⟩:=hs' j ⟨h3,h1,h2⟩
   rw [e] at h2 h3;exact⟨⟨hl,h2⟩,h3⟩
 have hin:∀ j∈rk.filter (fun i=>jd5 (shp p i) s),shp q j=shp p j:=fun j hj=>by
  rw [List.mem_filter,jcu,hr.mem] at hj
  exact(hs j ⟨hj.2,hj.1⟩).1
 have s1:(rk.filter fun i=>jd5 (shp p i) s).Pairwise fun i j=>before (shp p i) (shp p j):=hr.srt.filter _
 have s2:(rk'.filter fun i=>jd5 (shp q i) s).Pairwise fun i j=>before (shp p i) (shp p j):=by
  refine List.Pairwise.imp_of_mem (fun {a b} ha hb h=>?_) (hr'.srt.filter _)
  rw [← hin a ((hm a).2 ha),← hin b ((hm b).2 hb)];exact h
 have he:=jgt _ (fun _ _ h=>jdp h) _ _ s1 s2 hm
 rw [← he] at c2
 refine Chain.same hn h0 hf _ _ rfl (fun j hj=>by rw [hin j hj];exact⟨rfl,rfl⟩) c1 c2 i ?_
 rw [List.mem_filter,jcu,hr.mem]
 exact⟨⟨hi,hw⟩,hb⟩
def dueB (p:Pt) (pl:List Int) (i:Nat):Bool:=decide (pl[i]?=some p.now∧(shp p i).st=1)
theorem jcd {p:Pt} {pl:List Int} {i:Nat}:dueB p pl i=true↔pl[i]?=some p.now∧(shp p i).st=1:=by unfold dueB;exact decide_eq_true_iff
def inS (now:Int) (s:Ship):Ship:={ s with st:=3,si:=now }
def outS (s:Ship):Ship:={ s with st:=4,si:=0 }
def dueP (p:Pt) (pl:List Int):Pt:={ p with ships:=(List.range p.ships.length).map fun i=>if dueB p pl i then inS p.now (shp p i) else shp p i }
def jdt (now:Int) (s:Ship):Ship:=if s.st=3∧s.si+s.lg=now+1 then outS s else s
def jbn (p:Pt):Pt:={ p with now:=p.now+1,ships:=p.ships.map (jdt p.now) }
theorem jhf {p:Pt} {i:Nat} (h:p.ships.length≤i):shp p i=jrw:=by unfold shp;rw [List.getD_eq_getElem?_getD,List.getElem?_eq_none h];rfl
theorem jj4 {p:Pt} {i:Nat} (h:i < p.ships.length):p.ships[i]?=some (shp p i):=by rw [jbj (List.getElem?_eq_getElem h)];exact List.getElem?_eq_getElem h
theorem jiv (p:Pt):p.ships=(List.range p.ships.length).map (shp p):=by
 refine List.ext_getElem (by simp) fun i h1 h2=>?_
 rw [List.getElem_map,List.getElem_range]
 have:=jj4 h1
 rw [List.getElem?_eq_getElem h1] at this
 exact Option.some.inj this
theorem jfv (p:Pt) (pl:List Int):(dueP p pl).ships.length=p.ships.length:=by unfold dueP;simp
theorem je2 (p:Pt):(jbn p).ships.length=p.ships.length:=by unfold jbn;simp
theorem jhg (p:Pt) (pl:List Int) (i:Nat):shp (dueP p pl) i=if dueB p pl i then inS p.now (shp p i) else shp p i:=by
 by_cases h:i < p.ships.length
 ·refine jbj ?_
  unfold dueP
  simp only [List.getElem?_map,List.getElem?_range h,Option.map_some]
 ·have h1:=jhf (p:=p) (i:=i) (by omega)
  rw [jhf (p:=dueP p pl) (by rw [jfv];omega)]
  have:dueB p pl i=false:=by
   cases e:dueB p pl i
   ·rfl
   ·have:=(jcd.1 e).2;rw [h1] at this;exact absurd this (by decide)
  rw [this,h1];rfl
theorem jgw (p:Pt) (i:Nat):shp (jbn p) i=jdt p.now (shp p i):=by
 by_cases h:i < p.ships.length
 ·refine jbj ?_
  unfold jbn
  simp only [List.getElem?_map,jj4 h,Option.map_some]
 ·rw [jhf (p:=jbn p) (by rw [je2];omega),jhf (by omega)]
  unfold jdt
  rw [if_neg (by intro h;exact absurd h.1 (by decide))]
def sumL (l:List Nat) (f:Nat→Int):Int:=(l.map f).foldr (·+·) 0
theorem je0 (i:Nat) (l:List Nat) (f:Nat→Int):sumL (i::l) f=f i+sumL l f:=rfl
theorem jpb {f g h:Nat→Int}:∀ (l:List Nat),(∀ i∈l,f i=g i+h i)→sumL l f=sumL l g+sumL l h:=by
 intro l
 induction l with
 | nil=>intro _;rfl
 | cons i r ih=>intro H;rw [je0,je0,je0,ih fun j hj=>H j (List.mem_cons_of_mem _ hj),H i List.mem_cons_self];omega
theorem jgg {f:Nat→Int} {P:Nat→Bool} (l:List Nat):sumL (l.filter P) f=sumL l fun i=>if P i then f i else 0:=by
 induction l with
 | nil=>rfl
 | cons i r ih =>
  by_cases h:P i=true
  ·rw [List.filter_cons_of_pos h,je0,je0,ih,if_pos h]
  ·rw [List.filter_cons_of_neg h,je0,ih,if_neg h];omega
theorem je7 (p:Pt) (t:Int):ja8 p.ships t=sumL (List.range p.ships.length) fun i=>jdn (shp p i) t:=by
 unfold ja8 sumL
 conv=>lhs;rw [jiv p,List.map_map]
 rfl
def dues (p:Pt) (pl:List Int):List Nat:=(List.range p.ships.length).filter (dueB p pl)
theorem jse {p:Pt} {pl:List Int} {i:Nat} (h:dueB p pl i=true):pl.getD i (-1)=p.now:=by
 rw [List.getD_eq_getElem?_getD,(jcd.1 h).1];rfl
theorem jpy {p:Pt} (pl:List Int) (h0:0≤p.now) {t:Int} (ht:p.now≤t):ja3 (dueP p pl) t=ja3 p t - ctrs p pl (dues p pl) t:=by
 have e:ja8 (dueP p pl).ships t=ja8 p.ships t+ctrs p pl (dues p pl) t:=by
  rw [je7,je7,jfv]
  show _=_+sumL (dues p pl) (fun i=>ctr p pl i t)
  unfold dues
  rw [jgg]
  refine jpb _ fun i _=>?_
  rw [jhg]
  by_cases h:dueB p pl i=true
  ·rw [if_pos h,if_pos h]
   have h1:=(jcd.1 h).2
   unfold jdn ctr inS
   rw [jse h]
   simp only
   rw [if_neg (by omega:¬ ((shp p i).st=3∧t < (shp p i).si+(shp p i).lg))]
   by_cases c:t < p.now+(shp p i).lg
   ·rw [if_pos ⟨trivial,c⟩,if_pos ⟨h0,ht,c⟩];omega
   ·rw [if_neg (fun h=>c h.2),if_neg (fun h=>c h.2.2)];omega
  ·rw [if_neg h,if_neg h];omega
 unfold ja3
 show 16 - p.shut - (if p.now≤t then ja8 (dueP p pl).ships t+jbh p.kept t else 0)=_
 rw [if_pos ht,if_pos ht,e];omega
theorem jq0 {q:Pt} {t:Int} (ht:q.now+1≤t):ja3 (jbn q) t=ja3 q t:=by
 have e:ja8 (jbn q).ships t=ja8 q.ships t:=by
  rw [je7,je7,je2]
  unfold sumL
  congr 2
  funext i
  rw [jgw]
  unfold jdt
  split
  ·rename_i h;unfold jdn outS;simp only;rw [if_neg (by omega),if_neg (by omega)]
  ·rfl
 unfold ja3
 show 16 - q.shut - (if q.now+1≤t then ja8 (jbn q).ships t+jbh q.kept t else 0)=_
 rw [if_pos ht,if_pos (by omega),e]
theorem jr1 {p:Pt} {s:Ship} (h:s∈p.ships):∃ i,i < p.ships.length∧s=shp p i:=by
 obtain⟨i,hi,e⟩:=List.mem_iff_getElem.1 h
 exact⟨i,hi,by rw [← e];exact(jbj (List.getElem?_eq_getElem hi)).symm⟩
theorem jk8 {p:Pt} (h:ja4 p) {i j:Nat} (hij:i < j) (hj:j < p.ships.length):(shp p i).qu≠(shp p j).qu:=h.once i j _ _ hij (jj4 (by omega)) (jj4 hj)
theorem jsc {p:Pt} {pl:List Int} (hp:jaj p) (h:jbd p pl) {i:Nat} (hd:dueB p pl i=true):i < p.ships.length∧p.now+(shp p i).lg≤300:=by
 have hi:i < p.ships.length:=by
  rcases Nat.lt_or_ge i p.ships.length with h1|h1
  ·exact h1
  ·have:=(jcd.1 hd).2;rw [jhf h1] at this;exact absurd this (by decide)
 have e:=jse hd
 have:=(h.room hp hi (by rw [e];exact hp.port.now.1)).2.2.1
 rw [e] at this
 exact⟨hi,this⟩
theorem ju8 {p:Pt} {pl:List Int} (hp:jaj p) (h:jbd p pl) {t:Int} (t0:0≤t) (t1:t < 300):ctrs p pl (dues p pl) t≤ja3 p t:=by
 obtain⟨rk,hr,hc⟩:=h.some
 have hn:=Chain.nonneg hp.port.now.1 hp.base rk.length rk rfl hc t t0 t1
 have:=jln (pl:=pl) (jiu hp.port) t (dues p pl) rk (List.nodup_range.filter _) (fun i hi _=>(hr.mem i).2 ⟨List.mem_range.1 (List.mem_filter.1 hi).1,(jcd.1 (List.mem_filter.1 hi).2).2⟩)
 omega
theorem jkd {p:Pt} {pl:List Int} (hp:jaj p) (h:jbd p pl):jaj (dueP p pl):=by
 have hp0:=hp.port
 refine⟨⟨hp0.now,hp0.shut,by rw [jfv];exact hp0.len,hp0.next,?_,?_,hp0.four,hp0.kept⟩,fun t t0 t1=>?_⟩
 ·intro s hs
  obtain⟨i,hi,rfl⟩:=jr1 hs
  rw [jfv] at hi
  have hw:=jhs hp0 i hi
  rw [jhg]
  split
  ·rename_i hd
   have h2:=(jsc hp h hd).2
   refine⟨⟨⟨show(1:Int)≤3 by decide,show(3:Int)≤4 by decide⟩,hw.1.wd,hw.1.lg,hw.1.cl,hw.1.qu,fun _=>?_,fun c=>absurd rfl c⟩,hw.2⟩
   have:=hw.1.lg
   have:=hp0.now
   show 0≤p.now∧p.now≤p.now∧p.now < p.now+(shp p i).lg∧p.now+(shp p i).lg≤300
   omega
  ·exact hw
 ·intro i j r s hij hr hs
  have hj:=(List.getElem?_eq_some_iff.1 hs).1
  rw [jfv] at hj
  rw [← jbj hr,← jbj hs,jhg,jhg]
  have:=jk8 hp0 hij hj
  have e:∀ k,(if dueB p pl k then inS p.now (shp p k) else shp p k).qu=(shp p k).qu:=fun k=>by split <;> rfl
  rw [e,e];exact this
 ·by_cases ht:p.now≤t
  ·rw [jpy pl hp0.now.1 ht]
   have:=ju8 hp h t0 t1
   omega
  ·unfold ja3
   show 0≤16 - p.shut - (if p.now≤t then _ else 0)
   rw [if_neg ht]
   have:=hp0.shut
   omega
theorem jel {q:Pt} (hq:jaj q) (hn:q.now < 299):jaj (jbn q):=by
 have hp0:=hq.port
 refine⟨⟨⟨by have:=hp0.now;show 0≤q.now+1;omega,by show q.now+1≤299;omega⟩,hp0.shut,by rw [je2];exact hp0.len,hp0.next,?_,?_,hp0.four,hp0.kept⟩,fun t t0 t1=>?_⟩
 ·intro s hs
  obtain⟨i,hi,rfl⟩:=jr1 hs
  rw [je2] at hi
  have hw:=jhs hp0 i hi
  rw [jgw]
  unfold jdt
  split
  ·exact⟨⟨⟨show(1:Int)≤4 by decide,show(4:Int)≤4 by decide⟩,hw.1.wd,hw.1.lg,hw.1.cl,hw.1.qu,fun c=>absurd c (by unfold outS;simp),fun _=>rfl⟩,hw.2⟩
  ·rename_i hc
   refine⟨⟨hw.1.st,hw.1.wd,hw.1.lg,hw.1.cl,hw.1.qu,fun c=>?_,hw.1.else_⟩,hw.2⟩
   have:=hw.1.lies c
   have:¬ (shp q i).si+(shp q i).lg=q.now+1:=fun e=>hc ⟨c,e⟩
   show 0≤(shp q i).si∧(shp q i).si≤q.now+1∧q.now+1 < _∧_
   omega
 ·intro i j r s hij hr hs
  have hj:=(List.getElem?_eq_some_iff.1 hs).1
  rw [je2] at hj
  rw [← jbj hr,← jbj hs,jgw,jgw]
  have:=jk8 hp0 hij hj
  have e:∀ s:Ship,(jdt q.now s).qu=s.qu:=fun s=>by unfold jdt;split <;> rfl
  rw [e,e];exact this
 ·by_cases ht:q.now+1≤t
  ·rw [jq0 ht];exact hq.base t t0 t1
  ·unfold ja3
   show 0≤16 - q.shut - (if q.now+1≤t then _ else 0)
   rw [if_neg ht]
   have:=hp0.shut
   omega
def jes (p:Pt) (pl:List Int):List Int:=(List.range p.ships.length).map fun i=>if dueB p pl i then -1 else pl.getD i (-1)
theorem jfg {p:Pt} {pl:List Int} {i:Nat} (h:i < p.ships.length):(jes p pl).getD i (-1)=if dueB p pl i then -1 else pl.getD i (-1):=by
 unfold jes
 rw [List.getD_eq_getElem?_getD,List.getElem?_map,List.getElem?_range h]
 rfl
def dueTo (p:Pt) (pl:List Int) (j:Nat):List Ship:=(List.range p.ships.length).map fun i=>if (decide (i < j) && dueB p pl i)=true then inS p.now (shp p i) else shp p i
def whoTo (p:Pt) (pl:List Int) (j:Nat):List Nat:=(List.range j).filter (dueB p pl)
theorem jd4 (p:Pt) (pl:List Int) (j:Nat):(dueTo p pl j).length=p.ships.length:=by unfold dueTo;simp
theorem jkh (p:Pt) (pl:List Int):dueTo p pl 0=p.ships:=by
 unfold dueTo
 conv=>rhs;rw [jiv p]
 refine List.map_congr_left fun i _=>?_
 simp
theorem jlg (p:Pt) (pl:List Int) (j:Nat) {i:Nat} (h:i < p.ships.length):(dueTo p pl j)[i]?=some (if (decide (i < j) && dueB p pl i)=true then inS p.now (shp p i) else shp p i):=by
 unfold dueTo
 rw [List.getElem?_map,List.getElem?_range h]
 rfl
theorem jg7 {p:Pt} {pl:List Int} {j:Nat} (h:j < p.ships.length):(dueTo p pl j)[j]?=some (shp p j):=by
 rw [jlg p pl j h]
 simp
theorem jnd {p:Pt} {pl:List Int} {j:Nat} (h:j < p.ships.length) (hd:dueB p pl j=true):dueTo p pl (j+1)=(dueTo p pl j).set j (inS p.now (shp p j)):=by
 refine List.ext_getElem? fun i=>?_
 by_cases hi:i < p.ships.length
 ·rw [jlg p pl (j+1) hi]
  by_cases e:i=j
  ·subst e
   rw [List.getElem?_set_self (by rw [jd4];exact hi)]
   simp [hd]
  ·rw [List.getElem?_set_ne (fun h=>e h.symm),jlg p pl j hi]
   have:decide (i < j+1)=decide (i < j):=decide_eq_decide.2 (by omega)
   rw [this]
 ·rw [List.getElem?_eq_none (by rw [jd4];omega),List.getElem?_eq_none (by rw [List.length_set,jd4];omega)]
theorem jpr {p:Pt} {pl:List Int} {j:Nat} (hd:dueB p pl j=false):dueTo p pl (j+1)=dueTo p pl j:=by
 unfold dueTo
 refine List.map_congr_left fun i _=>?_
 by_cases e:i=j
 ·subst e;simp [hd]
 ·have:decide (i < j+1)=decide (i < j):=decide_eq_decide.2 (by omega)
  rw [this]
theorem jsd {p:Pt} {pl:List Int} {i:Nat} (h:dueB p pl i=true):i < p.ships.length∧i < pl.length:=by
 have h1:=jcd.1 h
 refine⟨?_,(List.getElem?_eq_some_iff.1 h1.1).1⟩
 rcases Nat.lt_or_ge i p.ships.length with h2|h2
 ·exact h2
 ·have:=h1.2;rw [jhf h2] at this;exact absurd this (by decide)
theorem jne {p:Pt} {pl:List Int} {j:Nat} (hj:p.ships.length≤j∨pl.length≤j):dueTo p pl j=(dueP p pl).ships:=by
 unfold dueTo dueP
 refine List.map_congr_left fun i _=>?_
 cases hd:dueB p pl i
 ·simp
 ·have:=jsd hd
  have:decide (i < j)=true:=decide_eq_true (by omega)
  simp [this]
theorem jlw {p:Pt} {pl:List Int} {j:Nat} (hd:dueB p pl j=true):whoTo p pl (j+1)=whoTo p pl j++[j]:=by
 unfold whoTo
 rw [List.range_succ,List.filter_append,List.filter_cons_of_pos hd]
 rfl
theorem jkr {p:Pt} {pl:List Int} {j:Nat} (hd:dueB p pl j=false):whoTo p pl (j+1)=whoTo p pl j:=by
 unfold whoTo
 rw [List.range_succ,List.filter_append,List.filter_cons_of_neg (by simp [hd])]
 simp
theorem jp3 {p:Pt} {pl:List Int} {j:Nat} (hj:p.ships.length≤j∨pl.length≤j):∀ d,whoTo p pl (j+d)=whoTo p pl j:=by
 intro d
 induction d with
 | zero=>rfl
 | succ d ih =>
  rw [← ih,← Nat.add_assoc]
  refine jkr ?_
  cases hd:dueB p pl (j+d)
  ·rfl
  ·have:=jsd hd;omega
theorem jq8 {p:Pt} {pl:List Int} {j:Nat} (hj:p.ships.length≤j∨pl.length≤j) (hle:j≤p.ships.length):whoTo p pl j=dues p pl:=by
 have:=jp3 hj (p.ships.length - j)
 rw [show j+(p.ships.length - j)=p.ships.length by omega] at this
 rw [← this]
 rfl
theorem jlx (p:Pt) (pl:List Int) (j:Nat):(whoTo p pl j).length≤j:=by
 unfold whoTo
 exact Nat.le_trans (List.length_filter_le _ _) (by simp)
def jbw (p:Pt) (j:Nat):List Ship:=(p.ships.take j).map (jdt p.now)++p.ships.drop j
theorem jj9 (p:Pt) (j:Nat):(jbw p j).length=p.ships.length:=by unfold jbw;simp;omega
theorem jja (p:Pt):jbw p 0=p.ships:=by unfold jbw;simp
theorem jka (p:Pt):jbw p p.ships.length=(jbn p).ships:=by unfold jbw jbn;simp
theorem jdj {p:Pt} {j:Nat} {s:Ship} (h:p.ships[j]?=some s):(jbw p j)[j]?=some s:=by
 have hj:=(List.getElem?_eq_some_iff.1 h).1
 unfold jbw
 rw [List.getElem?_append_right (by simp;omega)]
 simp only [List.length_map,List.length_take,List.getElem?_drop]
 rw [show j+(j - min j p.ships.length)=j by omega]
 exact h
theorem jgm {p:Pt} {j:Nat} {s:Ship} (h:p.ships[j]?=some s):jbw p (j+1)=(jbw p j).set j (jdt p.now s):=by
 have hj:=(List.getElem?_eq_some_iff.1 h).1
 unfold jbw
 rw [List.set_append_right _ _ (by simp;omega),List.take_add_one,h]
 simp only [Option.toList_some,List.map_append,List.map_cons,List.map_nil,List.append_assoc,List.cons_append,List.nil_append,List.length_map,List.length_take]
 congr 1
 rw [show j - min j p.ships.length=0 by omega,List.drop_eq_getElem_cons hj]
 rfl
theorem jg4 {p:Pt} {j:Nat} {s:Ship} (h:p.ships[j]?=some s) (hs:jdt p.now s=s):jbw p (j+1)=jbw p j:=by
 rw [jgm h,hs]
 exact List.ext_getElem? fun i=>by
  by_cases e:i=j
  ·subst e
   rw [List.getElem?_set_self (by rw [jj9];exact(List.getElem?_eq_some_iff.1 h).1),jdj h]
  ·rw [List.getElem?_set_ne (fun h=>e h.symm)]
end Go.Proofs.YtcmdoeledmkfmacGreatDoor
