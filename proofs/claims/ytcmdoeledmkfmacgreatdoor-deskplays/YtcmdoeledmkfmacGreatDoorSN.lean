/- Texts of this claim, in one: DPlanM PUniq DMath DTopM. -/
import Derived.Test.YtcmdoeledmkfmacGreatDoorS1
import Derived.Test.YtcmdoeledmkfmacGreatDoorSH
import Derived.Test.YtcmdoeledmkfmacGreatDoorS8
import Derived.Test.YtcmdoeledmkfmacGreatDoorSL
import Derived.Test.YtcmdoeledmkfmacGreatDoorSI
import Derived.Test.YtcmdoeledmkfmacGreatDoorS7
set_option linter.unusedSimpArgs false
set_option linter.unusedVariables false
namespace Go.Proofs.YtcmdoeledmkfmacGreatDoor
theorem jrj (p:Pt) (pl:List Int) (i:Nat):(shp (dueP p pl) i).st=1↔(shp p i).st=1∧dueB p pl i=false:=by
 rw [jhg]
 cases h:dueB p pl i
 ·simp
 ·simp [inS]
theorem jif {p:Pt} {pl:List Int} {i:Nat} (h:(shp p i).st=1) (hd:dueB p pl i=false):shp (dueP p pl) i=shp p i:=by
 rw [jhg,hd];rfl
theorem jtd {p:Pt} {pl:List Int} (hp:jaj p) (h:jbd p pl):jbd (dueP p pl) (jes p pl):=by
 have hp0:=hp.port
 have hl:(dueP p pl).ships.length=p.ships.length:=by rw [jfv]
 refine⟨by rw [hl];unfold jes;simp,?_,?_⟩
 ·intro i hi hs
  rw [hl] at hi
  rw [jfg hi]
  cases hd:dueB p pl i
  ·refine h.none i hi fun c=>hs ((jrj p pl i).2 ⟨c,hd⟩)
  ·rfl
 ·obtain⟨rk,hr,hc⟩:=h.some
  have hin:∀ j∈rk.filter (fun i=>!dueB p pl i),(shp p j).st=1∧dueB p pl j=false∧j < p.ships.length:=fun j hj=>by
   rw [List.mem_filter,hr.mem] at hj
   exact⟨hj.1.2,by simpa using hj.2,hj.1.1⟩
  refine⟨rk.filter fun i=>!dueB p pl i,⟨fun i=>?_,?_⟩,?_⟩
  ·rw [List.mem_filter,hr.mem,hl,jrj]
   constructor
   ·rintro ⟨⟨h1,h2⟩,h3⟩;exact⟨h1,h2,by simpa using h3⟩
   ·rintro ⟨h1,h2,h3⟩;exact⟨⟨h1,h2⟩,by simp [h3]⟩
  ·refine List.Pairwise.imp_of_mem (fun {a b} ha hb hab=>?_) (hr.srt.filter _)
   have h1:=hin a ha
   have h2:=hin b hb
   rw [jif h1.1 h1.2.1,jif h2.1 h2.2.1];exact hab
  ·intro a b i e
   obtain⟨a',c',he,rfl,e2⟩:=List.filter_eq_append_iff.1 e
   obtain⟨m,b',rfl,hm,hpi,rfl⟩:=List.filter_eq_cons_iff.1 e2
   have hi:=hin i (by rw [e];simp)
   have hS:rk=(a'++m)++i::b':=by rw [he];simp
   have F:=hc (a'++m) b' i hS
   have hmf:m.filter (fun i=>!dueB p pl i)=[]:=List.filter_eq_nil_iff.2 hm
   rw [jif hi.1 hi.2.1,jfg hi.2.2,hi.2.1]
   show FitF (fun t=>ja3 (dueP p pl) t - ctrs (dueP p pl) (jes p pl) (a'.filter fun i=>!dueB p pl i) t) p.now _ _ (pl.getD i (-1))
   have hne:pl.getD i (-1)≠p.now:=fun c=>by
    have:dueB p pl i=true:=jcd.2 ⟨by
     have hil:i < pl.length:=by rw [h.len];exact hi.2.2
     rw [List.getD_eq_getElem?_getD,List.getElem?_eq_getElem hil] at c
     rw [List.getElem?_eq_getElem hil]
     exact congrArg some c,hi.1⟩
    rw [hi.2.1] at this;cases this
   have hcA:∀ t,ctrs (dueP p pl) (jes p pl) (a'.filter fun i=>!dueB p pl i) t=ctrs p pl ((a'++m).filter fun i=>!dueB p pl i) t:=fun t=>by
    rw [List.filter_append,hmf,List.append_nil]
    show sumL _ _=sumL _ _
    unfold sumL
    congr 1
    refine List.map_congr_left fun j hj=>?_
    have h1:=hin j (by rw [he,List.filter_append];exact List.mem_append_left _ hj)
    show ctr _ _ _ _=ctr _ _ _ _
    unfold ctr
    rw [jif h1.1 h1.2.1,jfg h1.2.2,h1.2.1]
    simp
   have hnd:rk.Nodup:=hr.nodup
   rw [hS] at hnd
   have hnd1:=List.nodup_append.1 hnd
   have hnd2:=List.nodup_cons.1 hnd1.2.1
   have hsub:∀ (P:Nat→Bool) (l:List Nat) t,ctrs p pl l t=ctrs p pl (l.filter P) t+ctrs p pl (l.filter fun i=>!P i) t:=fun P l t=>by
    show sumL l _=sumL _ _+sumL _ _
    rw [jgg,jgg]
    refine jpb _ fun j _=>?_
    by_cases c:P j=true
    ·rw [if_pos c,if_neg (by simp [c])];omega
    ·rw [if_neg c,if_pos (by simp [c])];omega
   have hdu:∀ t,ctrs p pl (dues p pl) t=ctrs p pl ((a'++m).filter (dueB p pl)) t+ctrs p pl (b'.filter (dueB p pl)) t:=fun t=>by
    have e1:rk.filter (dueB p pl)=(a'++m).filter (dueB p pl)++b'.filter (dueB p pl):=by rw [hS,List.filter_append,List.filter_cons_of_neg (by simp [hi.2.1])]
    rw [← jdl,← e1]
    refine Int.le_antisymm (jln (jiu hp0) t _ _ (List.nodup_range.filter _) fun j hj _=>?_) (jln (jiu hp0) t _ _ (hr.nodup.filter _) fun j hj _=>?_)
    ·unfold dues at hj
     rw [List.mem_filter] at hj
     rw [List.mem_filter,hr.mem]
     exact⟨⟨List.mem_range.1 hj.1,(jcd.1 hj.2).2⟩,hj.2⟩
    ·rw [List.mem_filter,hr.mem] at hj
     unfold dues
     rw [List.mem_filter]
     exact⟨List.mem_range.2 hj.1.1,hj.2⟩
   have hpos:∀ (l:List Nat) t,0≤ctrs p pl l t:=fun l t=>by
    induction l with
    | nil=>exact Int.le_refl _
    | cons j r ih=>rw [jb1];have:=jkj (pl:=pl) (jiu hp0 j) t;omega
   have hval:∀ t,p.now≤t→ja3 (dueP p pl) t - ctrs (dueP p pl) (jes p pl) (a'.filter fun i=>!dueB p pl i) t=ja3 p t - ctrs p pl (a'++m) t - ctrs p pl (b'.filter (dueB p pl)) t:=fun t ht=>by
    rw [jpy pl hp0.now.1 (by omega),hcA t,hdu t,hsub (dueB p pl) (a'++m) t]
    omega
   have now0:=hp0.now
   rcases F with ⟨f1,f2⟩|⟨f1,f2,f3,f4⟩
   ·refine Or.inl ⟨f1,fun t ta tb R=>f2 t (by omega) tb fun s sa sb=>?_⟩
    have h1:=R s sa sb
    simp only at h1
    rw [hval s (by omega)] at h1
    have:=hpos (b'.filter (dueB p pl)) s
    show _≤ja3 p s - ctrs p pl (a'++m) s
    omega
   ·refine Or.inr ⟨by omega,f2,fun s sa sb=>?_,fun t ta tb R=>f4 t (by omega) tb fun s sa sb=>?_⟩
    ·simp only
     rw [hval s (by omega)]
     have hN:=Chain.nonneg hp0.now.1 hp.base rk.length rk rfl hc s (by omega) (by omega)
     rw [hS,jdl,jb1] at hN
     have h1:ctr p pl i s=(shp p i).wd:=by unfold ctr;rw [if_pos ⟨by omega,sa,sb⟩]
     have h2:=hsub (dueB p pl) b' s
     have h3:=hpos (b'.filter fun i=>!dueB p pl i) s
     omega
    ·have h1:=R s sa sb
     simp only at h1
     rw [hval s (by omega)] at h1
     have:=hpos (b'.filter (dueB p pl)) s
     show _≤ja3 p s - ctrs p pl (a'++m) s
     omega
def NoDue (p:Pt) (pl:List Int):Prop:=∀ i,dueB p pl i=false
theorem jm8 {pl:List Int} {i:Nat} {x:Int} (h:pl[i]?=some x):pl.getD i (-1)=x:=by rw [List.getD_eq_getElem?_getD,h];rfl
theorem jor {pl:List Int} {i:Nat} (h:i < pl.length):pl[i]?=some (pl.getD i (-1)):=by rw [List.getD_eq_getElem?_getD,List.getElem?_eq_getElem h];rfl
theorem ji4 {p:Pt} {pl:List Int} (hp:jaj p) (h:jbd p pl) {i:Nat} (hi:pl[i]?=some p.now):dueB p pl i=true:=by
 refine jcd.2 ⟨hi,?_⟩
 have hl:i < p.ships.length:=by rw [← h.len];exact(List.getElem?_eq_some_iff.1 hi).1
 rcases Decidable.em ((shp p i).st=1) with c|c
 ·exact c
 ·have:=h.none i hl c
  rw [jm8 hi] at this
  have:=hp.port.now.1
  omega
theorem NoDue.ne {p:Pt} {pl:List Int} (hp:jaj p) (h:jbd p pl) (hn:NoDue p pl) (i:Nat):pl[i]?≠some p.now:=fun c=>by
 have:=ji4 hp h c
 rw [hn i] at this
 cases this
theorem jrx {p:Pt} {pl:List Int} (hp:jaj p) (h:jbd p pl):NoDue (dueP p pl) (jes p pl):=fun i=>by
 cases e:dueB (dueP p pl) (jes p pl) i
 ·rfl
 ·obtain⟨h1,h2⟩:=jcd.1 e
  obtain⟨h3,h4⟩:=(jrj p pl i).1 h2
  have hl:i < p.ships.length:=by
   have:=(List.getElem?_eq_some_iff.1 h1).1
   unfold jes at this
   simpa using this
  have h5:=jm8 h1
  rw [jfg hl,h4] at h5
  have h6:pl[i]?=some p.now:=by rw [jor (by rw [h.len];exact hl)];exact congrArg some h5
  rw [ji4 hp h h6] at h4
  cases h4
def jc3 (q r:Pt):Prop:=∃ pl,jbd q pl∧r=dueP q pl
def Rests (p:Pt):Prop:=jaj p∧∃ pl,jbd p pl∧NoDue p pl
theorem jc3.rests {q r:Pt} (hq:jaj q) (h:jc3 q r):Rests r:=by
 obtain⟨pl,h1,rfl⟩:=h
 exact⟨jkd hq h1,_,jtd hq h1,jrx hq h1⟩
theorem jc3.unique {q r r':Pt} (hq:jaj q) (h:jc3 q r) (h':jc3 q r'):r=r':=by
 obtain⟨pl,h1,rfl⟩:=h
 obtain⟨pl',h2,rfl⟩:=h'
 rw [h1.unique hq.port.now.1 h2]
theorem Rests.none {p:Pt} {pl:List Int} (h:Rests p) (hp:jbd p pl):NoDue p pl:=by
 obtain⟨h1,pl',h2,h3⟩:=h
 rw [hp.unique h1.port.now.1 h2]
 exact h3
def jd6:Nat→Pt→Pt→Prop
 | 0,p,q=>q=p
 | k+1,p,q=>∃ r,jc3 (jbn p) r∧jd6 k r q
theorem jgf:∀ (k:Nat) (p q r:Pt),jd6 k p q→jc3 (jbn q) r→jd6 (k+1) p r
 | 0,p,q,r,h,h'=>by
  have h:q=p:=h
  subst h
  exact⟨r,h',rfl⟩
 | k+1,p,q,r,h,h'=>by
  obtain⟨s,h1,h2⟩:=h
  exact⟨s,h1,jgf k s q r h2 h'⟩
theorem jeb:∀ (k:Nat) (p q:Pt),Rests p→p.now+k≤299→jd6 k p q→Rests q∧q.now=p.now+k
 | 0,p,q,hp,_,h=>by
  have h:q=p:=h
  subst h
  exact⟨hp,by omega⟩
 | k+1,p,q,hp,hn,h=>by
  obtain⟨r,h1,h2⟩:=h
  have h3:=h1.rests (jel hp.1 (by omega))
  have hr:r.now=p.now+1:=by obtain⟨pl,_,rfl⟩:=h1;rfl
  have h4:=jeb k r q h3 (by omega) h2
  exact⟨h4.1,by omega⟩
theorem jgp:∀ (k:Nat) (p q q':Pt),Rests p→p.now+k≤299→jd6 k p q→jd6 k p q'→q=q'
 | 0,p,q,q',_,_,h,h'=>by
  have h:q=p:=h
  have h':q'=p:=h'
  rw [h,h']
 | k+1,p,q,q',hp,hn,h,h'=>by
  obtain⟨r,h1,h2⟩:=h
  obtain⟨r',h1',h2'⟩:=h'
  have hL:=jel hp.1 (by omega)
  have e:=h1.unique hL h1'
  subst e
  have hr:r.now=p.now+1:=by obtain⟨pl,_,rfl⟩:=h1;rfl
  exact jgp k r q q' (h1.rests hL) (by omega) h2 h2'
end Go.Proofs.YtcmdoeledmkfmacGreatDoor
namespace Go.Proofs.YtcmdoeledmkfmacGreatDoor
open Go.RowKit
theorem jqu {l:List Kp} {i j:Nat} (hi:Fst l i) (hj:Fst l j):i=j:=by
 obtain⟨⟨k,hk,hn⟩,h1⟩:=hi
 obtain⟨⟨k',hk',hn'⟩,h2⟩:=hj
 rcases Nat.lt_or_ge i j with c|c
 ·have:=h2 i k c hk;rw [hn] at this;cases this
 ·rcases Nat.lt_or_ge j i with c2|c2
  ·have:=h1 j k' c2 hk';rw [hn'] at this;cases this
  ·omega
theorem jk9 {p:Pt} {o:Ord} {n n' er er':Int} {q q':Pt} (h:jai p o n er q) (h':jai p o n' er' q'):n=n'∧er=er'∧q=q':=by
 unfold jai at h h'
 split at h
 ·rename_i k1
  rw [if_pos k1] at h'
  rcases h with ⟨a1,rfl,rfl,rfl⟩|⟨a1,a2,rfl,rfl,rfl⟩|⟨a1,a2,a3,rfl,rfl,rfl⟩ <;> rcases h' with ⟨b1,rfl,rfl,rfl⟩|⟨b1,b2,rfl,rfl,rfl⟩|⟨b1,b2,b3,rfl,rfl,rfl⟩ <;> first|exact⟨rfl,rfl,rfl⟩|exact absurd b1 a1|exact absurd a1 b1|(exfalso;omega)
 ·rename_i k1
  rw [if_neg k1] at h'
  split at h
  ·rename_i k2
   rw [if_pos k2] at h'
   obtain⟨rfl,h1⟩:=h
   obtain⟨rfl,h2⟩:=h'
   rw [h1] at h2
   have:=Prod.mk.inj h2
   exact⟨rfl,this.1,this.2⟩
  ·rename_i k2
   rw [if_neg k2] at h'
   split at h
   ·rename_i k6
    rw [if_pos k6] at h'
    rcases h with ⟨a1,rfl,rfl,rfl⟩|⟨a1,a2,rfl,rfl,rfl⟩|⟨a1,i,a2,rfl,rfl,rfl⟩ <;> rcases h' with ⟨b1,rfl,rfl,rfl⟩|⟨b1,b2,rfl,rfl,rfl⟩|⟨b1,j,b2,rfl,rfl,rfl⟩
    ·exact⟨rfl,rfl,rfl⟩
    ·exact absurd b1 a1
    ·exact absurd b1 a1
    ·exact absurd a1 b1
    ·exact⟨rfl,rfl,rfl⟩
    ·obtain⟨⟨k,hk,hn⟩,_⟩:=b2;have:=a2 j k hk;rw [hn] at this;cases this
    ·exact absurd a1 b1
    ·obtain⟨⟨k,hk,hn⟩,_⟩:=a2;have:=b2 i k hk;rw [hn] at this;cases this
    ·have:=jqu a2 b2;subst this;exact⟨rfl,rfl,rfl⟩
   ·rename_i k6
    rw [if_neg k6] at h'
    split at h
    ·rename_i k7
     rw [if_pos k7] at h'
     rcases h with ⟨a1,rfl,rfl,rfl⟩|⟨i,k,a1,a2,a3,a4,rfl,rfl,rfl⟩|⟨i,k,a1,a2,a3,a4,rfl,rfl,rfl⟩ <;> rcases h' with ⟨b1,rfl,rfl,rfl⟩|⟨j,l,b1,b2,b3,b4,rfl,rfl,rfl⟩|⟨j,l,b1,b2,b3,b4,rfl,rfl,rfl⟩
     ·exact⟨rfl,rfl,rfl⟩
     ·exact absurd ⟨by omega,by omega⟩ a1
     ·exact absurd ⟨by omega,by omega⟩ a1
     ·exact absurd ⟨by omega,by omega⟩ b1
     ·exact⟨rfl,rfl,rfl⟩
     ·have e:i=j:=by omega
      subst e;rw [a3] at b3;injection b3 with b3;subst b3;rw [a4] at b4;cases b4
     ·exact absurd ⟨by omega,by omega⟩ b1
     ·have e:i=j:=by omega
      subst e;rw [a3] at b3;injection b3 with b3;subst b3;rw [a4] at b4;cases b4
     ·have e:i=j:=by omega
      subst e;exact⟨rfl,rfl,rfl⟩
    ·rename_i k7
     rw [if_neg k7] at h'
     split at h
     ·rename_i k8
      rw [if_pos k8] at h'
      obtain⟨rfl,⟨a1,rfl,rfl⟩|⟨a1,rfl,rfl⟩⟩:=h <;> obtain⟨rfl,⟨b1,rfl,rfl⟩|⟨b1,rfl,rfl⟩⟩:=h'
      ·exact⟨rfl,rfl,rfl⟩
      ·exact absurd a1 b1
      ·exact absurd b1 a1
      ·exact⟨rfl,rfl,rfl⟩
     ·rename_i k8
      rw [if_neg k8] at h'
      obtain⟨rfl,rfl,rfl⟩:=h
      obtain⟨rfl,rfl,rfl⟩:=h'
      exact⟨rfl,rfl,rfl⟩
theorem jgq {p:Pt} {o:Ord} {n n' er er':Int} {q q':Pt} (h:ja0 (jai p o) p n er q) (h':ja0 (jai p o) p n' er' q'):n=n'∧er=er'∧q=q':=by
 rcases h with ⟨a0,rfl,rfl,rfl⟩|⟨a0,n0,e0,q0,a1,a2⟩ <;> rcases h' with ⟨b0,rfl,rfl,rfl⟩|⟨b0,m0,f0,r0,b1,b2⟩
 ·exact⟨rfl,rfl,rfl⟩
 ·exact absurd b0 a0
 ·exact absurd a0 b0
 ·obtain⟨rfl,rfl,rfl⟩:=jk9 a1 b1
  rcases a2 with ⟨c1,rfl,rfl,rfl⟩|⟨c1,c2,rfl,rfl,rfl⟩|⟨c1,c2,rfl,rfl,rfl⟩ <;> rcases b2 with ⟨d1,rfl,rfl,rfl⟩|⟨d1,d2,rfl,rfl,rfl⟩|⟨d1,d2,rfl,rfl,rfl⟩ <;> first|exact⟨rfl,rfl,rfl⟩|exact absurd d1 c1|exact absurd c1 d1|exact absurd d2 c2|exact absurd c2 d2
structure Dk where
 p:Pt
 asd:Option Pt
 n:Int
def AskIs (p:Pt) (i:Nat) (n:Int):Prop :=
 ((shp p i).st=1∧∃ pl,jbd p pl∧n=pl.getD i (-1))∨((shp p i).st=3∧n=(shp p i).si)∨((shp p i).st≠1∧(shp p i).st≠3∧n=-1)
def jfz (d:Dk) (o:Ord) (d':Dk) (n er:Int):Prop :=
 ∃ m q,ja0 (jai d.p o) d.p m er q∧((er≠0∧n=0∧d'=d)∨(er=0∧n=m∧∃ r,jc3 q r∧d'={ d with p:=r }))
def jhq (d:Dk) (a:Int) (d':Dk) (er:Int):Prop :=
 (¬ (1≤a∧d.p.now+a < 300)∧er=2∧d'=d)∨((1≤a∧d.p.now+a < 300)∧er=0∧∃ q,jd6 a.toNat d.p q∧d'={ d with p:=q })
def jlr (d d':Dk) (er:Int):Prop:=(d.asd=none∧er=0∧d'={ d with asd:=some d.p })∨(d.asd≠none∧er=7∧d'=d)
def jil (d d':Dk) (er:Int):Prop:=(d.asd≠none∧er=0∧d'={ d with asd:=none })∨(d.asd=none∧er=7∧d'=d)
def jpz (d d':Dk) (er:Int):Prop:=(∃ q,d.asd=some q∧er=0∧d'={ d with p:=q,asd:=none })∨(d.asd=none∧er=7∧d'=d)
def jgo (p:Pt) (a b c n er:Int):Prop :=
 ∃ m q,ja0 (jai p ⟨1,a,b,c⟩) p m er q∧((er≠0∧n=0)∨(er=0∧∃ pl,jbd q pl∧n=pl.getD m.toNat (-1)))
def jh9 (p:Pt) (a n er:Int):Prop:=(¬ (0≤a∧a < p.ships.length)∧er=3∧n=0)∨((0≤a∧a < p.ships.length)∧er=0∧AskIs p a.toNat n)
def ObsIs (d:Dk) (o:Ord) (d':Dk) (n er:Int):Prop :=
 if o.kd=9 then n=0∧jhq d o.a d' er else if o.kd=10 then n=0∧jlr d d' er else if o.kd=11 then n=0∧jil d d' er
 else if o.kd=12 then n=0∧jpz d d' er else if o.kd=13 then d'=d∧jgo d.p o.a o.b o.c n er else if o.kd=14 then d'=d∧jh9 d.p o.a n er
 else jfz d o d' n er
def jdv (d:Dk) (s:List UInt8) (d':Dk) (er n:Int):Prop :=
 (250≤d.n∧er=5∧n=0∧d'=d)∨(d.n < 250∧((jay s none∧er=1∧n=0∧d'={ d with n:=d.n+1 })∨∃ o,jay s (some o)∧ObsIs { d with n:=d.n+1 } o d' n er))
structure DOk (d:Dk):Prop where
 rests:Rests d.p
 aside:∀ q,d.asd=some q→Rests q
 n:0≤d.n∧d.n≤250
theorem DOk.port {d:Dk} (h:DOk d):jaj d.p:=h.rests.1
theorem jdg {p:Pt} {o:Ord} {n:Int} {q:Pt} (h:ja0 (jai p o) p n 0 q):jaj q:=by
 rcases h with ⟨_,_,h,_⟩|⟨_,n0,e0,q0,_,⟨h1,_,h2,_⟩|⟨_,_,_,h,_⟩|⟨_,h,_,_,rfl⟩⟩
 ·cases h
 ·exact absurd h2.symm h1
 ·cases h
 ·exact h
theorem jqj {d d':Dk} {o:Ord} {n er:Int} (h:DOk d) (hs:jfz d o d' n er):DOk d'∧d'.n=d.n:=by
 obtain⟨m,q,hT,⟨_,_,rfl⟩|⟨rfl,_,r,hr,rfl⟩⟩:=hs
 ·exact⟨h,rfl⟩
 ·exact⟨⟨hr.rests (jdg hT),h.aside,h.n⟩,rfl⟩
theorem jp4 {d d':Dk} {a er:Int} (h:DOk d) (hs:jhq d a d' er):DOk d'∧d'.n=d.n:=by
 rcases hs with ⟨_,_,rfl⟩|⟨h1,_,q,hq,rfl⟩
 ·exact⟨h,rfl⟩
 ·exact⟨⟨(jeb _ _ _ h.rests (by omega) hq).1,h.aside,h.n⟩,rfl⟩
theorem jtf {d d':Dk} {o:Ord} {n er:Int} (h:DOk d) (hs:ObsIs d o d' n er):DOk d'∧d'.n=d.n:=by
 unfold ObsIs at hs
 split at hs
 ·exact jp4 h hs.2
 split at hs
 ·rcases hs.2 with ⟨_,_,rfl⟩|⟨_,_,rfl⟩
  ·exact⟨⟨h.rests,fun q e=>by injection e with e;rw [← e];exact h.rests,h.n⟩,rfl⟩
  ·exact⟨h,rfl⟩
 split at hs
 ·rcases hs.2 with ⟨_,_,rfl⟩|⟨_,_,rfl⟩
  ·exact⟨⟨h.rests,fun q e=>(by cases e),h.n⟩,rfl⟩
  ·exact⟨h,rfl⟩
 split at hs
 ·rcases hs.2 with ⟨q,hq,_,rfl⟩|⟨_,_,rfl⟩
  ·exact⟨⟨h.aside q hq,fun q e=>(by cases e),h.n⟩,rfl⟩
  ·exact⟨h,rfl⟩
 split at hs
 ·obtain⟨rfl,_⟩:=hs
  exact⟨h,rfl⟩
 split at hs
 ·obtain⟨rfl,_⟩:=hs
  exact⟨h,rfl⟩
 ·exact jqj h hs
theorem jg3 {d d':Dk} {s:List UInt8} {er n:Int} (h:DOk d) (hs:jdv d s d' er n):DOk d'∧(d.n < 250→d'.n=d.n+1):=by
 rcases hs with ⟨h1,_,_,rfl⟩|⟨h1,h2⟩
 ·exact⟨h,fun c=>by omega⟩
 ·have h0:DOk { d with n:=d.n+1 }:=⟨h.rests,h.aside,by have:=h.n;show 0≤d.n+1∧d.n+1≤250;omega⟩
  rcases h2 with ⟨_,_,_,rfl⟩|⟨o,_,h3⟩
  ·exact⟨h0,fun _=>rfl⟩
  ·have:=jtf h0 h3
   exact⟨this.1,fun _=>this.2⟩
theorem jjs {d d1 d2:Dk} {o:Ord} {n m er er':Int} (h:jfz d o d1 n er) (h':jfz d o d2 m er'):d1=d2∧n=m∧er=er':=by
 obtain⟨m1,q1,t1,c1⟩:=h
 obtain⟨m2,q2,t2,c2⟩:=h'
 obtain⟨rfl,rfl,rfl⟩:=jgq t1 t2
 rcases c1 with ⟨a1,rfl,rfl⟩|⟨a1,rfl,r,hr,rfl⟩ <;> rcases c2 with ⟨b1,rfl,rfl⟩|⟨b1,rfl,s,hs,rfl⟩
 ·exact⟨rfl,rfl,rfl⟩
 ·exact absurd b1 a1
 ·exact absurd a1 b1
 ·subst a1
  rw [hr.unique (jdg t1) hs]
  exact⟨rfl,rfl,rfl⟩
theorem jf9 {p:Pt} {i:Nat} {n m:Int} (hp:jaj p) (h:∃ pl,jbd p pl∧n=pl.getD i (-1)) (h':∃ pl,jbd p pl∧m=pl.getD i (-1)):n=m:=by
 obtain⟨x,hx,rfl⟩:=h
 obtain⟨y,hy,rfl⟩:=h'
 rw [hx.unique hp.port.now.1 hy]
theorem jjt {p:Pt} {a b c n m er er':Int} (h:jgo p a b c n er) (h':jgo p a b c m er'):n=m∧er=er':=by
 obtain⟨m1,q1,t1,c1⟩:=h
 obtain⟨m2,q2,t2,c2⟩:=h'
 obtain⟨rfl,rfl,rfl⟩:=jgq t1 t2
 rcases c1 with ⟨a1,rfl⟩|⟨a1,r⟩ <;> rcases c2 with ⟨b1,rfl⟩|⟨b1,s⟩
 ·exact⟨rfl,rfl⟩
 ·exact absurd b1 a1
 ·exact absurd a1 b1
 ·subst a1
  exact⟨jf9 (jdg t1) r s,rfl⟩
theorem jlq {p:Pt} {a n m er er':Int} (hp:jaj p) (h:jh9 p a n er) (h':jh9 p a m er'):n=m∧er=er':=by
 rcases h with ⟨a1,rfl,rfl⟩|⟨a1,rfl,r⟩ <;> rcases h' with ⟨b1,rfl,rfl⟩|⟨b1,rfl,s⟩
 ·exact⟨rfl,rfl⟩
 ·exact absurd b1 a1
 ·exact absurd a1 b1
 ·refine⟨?_,rfl⟩
  rcases r with ⟨r1,r⟩|⟨r1,rfl⟩|⟨r1,r2,rfl⟩ <;> rcases s with ⟨s1,s⟩|⟨s1,rfl⟩|⟨s1,s2,rfl⟩
  ·exact jf9 hp r s
  ·omega
  ·exact absurd r1 s1
  ·omega
  ·rfl
  ·exact absurd r1 s2
  ·exact absurd s1 r1
  ·exact absurd s1 r2
  ·rfl
theorem jmt {d d1 d2:Dk} {o:Ord} {n m er er':Int} (hd:DOk d) (h:ObsIs d o d1 n er) (h':ObsIs d o d2 m er'):d1=d2∧n=m∧er=er':=by
 unfold ObsIs at h h'
 split at h
 ·rename_i k;rw [if_pos k] at h'
  obtain⟨rfl,h⟩:=h
  obtain⟨rfl,h'⟩:=h'
  rcases h with ⟨a1,rfl,rfl⟩|⟨a1,rfl,q,hq,rfl⟩ <;> rcases h' with ⟨b1,rfl,rfl⟩|⟨b1,rfl,r,hr,rfl⟩
  ·exact⟨rfl,rfl,rfl⟩
  ·exact absurd b1 a1
  ·exact absurd a1 b1
  ·rw [jgp _ _ _ _ hd.rests (by omega) hq hr];exact⟨rfl,rfl,rfl⟩
 rename_i k;rw [if_neg k] at h'
 split at h
 ·rename_i k;rw [if_pos k] at h'
  obtain⟨rfl,h⟩:=h
  obtain⟨rfl,h'⟩:=h'
  rcases h with ⟨a1,rfl,rfl⟩|⟨a1,rfl,rfl⟩ <;> rcases h' with ⟨b1,rfl,rfl⟩|⟨b1,rfl,rfl⟩ <;> first|exact⟨rfl,rfl,rfl⟩|exact absurd b1 a1|exact absurd a1 b1
 rename_i k;rw [if_neg k] at h'
 split at h
 ·rename_i k;rw [if_pos k] at h'
  obtain⟨rfl,h⟩:=h
  obtain⟨rfl,h'⟩:=h'
  rcases h with ⟨a1,rfl,rfl⟩|⟨a1,rfl,rfl⟩ <;> rcases h' with ⟨b1,rfl,rfl⟩|⟨b1,rfl,rfl⟩ <;> first|exact⟨rfl,rfl,rfl⟩|exact absurd b1 a1|exact absurd a1 b1
 rename_i k;rw [if_neg k] at h'
 split at h
 ·rename_i k;rw [if_pos k] at h'
  obtain⟨rfl,h⟩:=h
  obtain⟨rfl,h'⟩:=h'
  rcases h with ⟨q,a1,rfl,rfl⟩|⟨a1,rfl,rfl⟩ <;> rcases h' with ⟨r,b1,rfl,rfl⟩|⟨b1,rfl,rfl⟩
  ·rw [a1] at b1;injection b1 with b1;rw [b1];exact⟨rfl,rfl,rfl⟩
  ·rw [a1] at b1;cases b1
  ·rw [a1] at b1;cases b1
  ·exact⟨rfl,rfl,rfl⟩
 rename_i k;rw [if_neg k] at h'
 split at h
 ·rename_i k;rw [if_pos k] at h'
  obtain⟨rfl,h⟩:=h
  obtain⟨rfl,h'⟩:=h'
  exact⟨rfl,jjt h h'⟩
 rename_i k;rw [if_neg k] at h'
 split at h
 ·rename_i k;rw [if_pos k] at h'
  obtain⟨rfl,h⟩:=h
  obtain⟨rfl,h'⟩:=h'
  exact⟨rfl,jlq hd.port h h'⟩
 ·rename_i k;rw [if_neg k] at h'
  exact jjs h h'
theorem jff {d d1 d2:Dk} {s:List UInt8} {er n er' m:Int} (hd:DOk d) (h:jdv d s d1 er n) (h':jdv d s d2 er' m):d1=d2∧er=er'∧n=m:=by
 rcases h with ⟨a1,rfl,rfl,rfl⟩|⟨a1,a2⟩ <;> rcases h' with ⟨b1,rfl,rfl,rfl⟩|⟨b1,b2⟩
 ·exact⟨rfl,rfl,rfl⟩
 ·omega
 ·omega
 ·have h0:DOk { d with n:=d.n+1 }:=⟨hd.rests,hd.aside,by have:=hd.n;show 0≤d.n+1∧d.n+1≤250;omega⟩
  rcases a2 with ⟨p1,rfl,rfl,rfl⟩|⟨o,p1,x⟩ <;> rcases b2 with ⟨p2,rfl,rfl,rfl⟩|⟨o',p2,y⟩
  ·exact⟨rfl,rfl,rfl⟩
  ·cases jcn p1 p2
  ·cases jcn p1 p2
  ·have e:=jcn p1 p2
   injection e with e
   subst e
   have:=jmt h0 x y
   exact⟨this.1,this.2.2,this.2.1⟩
def jd7:Dk→List (List UInt8)→Dk→Prop
 | d,[],d'=>d'=d
 | d,s::l,d'=>∃ e er n,jdv d s e er n∧jd7 e l d'
theorem jmk:∀ (l:List (List UInt8)) (d d':Dk),DOk d→jd7 d l d'→DOk d'
 | [],d,d',h,hp=>by
  have hp:d'=d:=hp
  rw [hp];exact h
 | s::l,d,d',h,hp=>by
  obtain⟨e,er,n,h1,h2⟩:=hp
  exact jmk l e d' (jg3 h h1).1 h2
theorem jgx:∀ (l:List (List UInt8)) (d d1 d2:Dk),DOk d→jd7 d l d1→jd7 d l d2→d1=d2
 | [],d,d1,d2,_,h,h'=>by
  have h:d1=d:=h
  have h':d2=d:=h'
  rw [h,h']
 | s::l,d,d1,d2,hd,h,h'=>by
  obtain⟨e,er,n,h1,h2⟩:=h
  obtain⟨e',er',n',h1',h2'⟩:=h'
  obtain⟨rfl,rfl,rfl⟩:=jff hd h1 h1'
  exact jgx l e d1 d2 (jg3 hd h1).1 h2 h2'
theorem jgl:∀ (l:List (List UInt8)) (d d1 d2:Dk) (s:List UInt8) (er n:Int),jd7 d l d1→jdv d1 s d2 er n→jd7 d (l++[s]) d2
 | [],d,d1,d2,s,er,n,h,h'=>by
  have h:d1=d:=h
  subst h
  exact⟨d2,er,n,h',rfl⟩
 | t::l,d,d1,d2,s,er,n,h,h'=>by
  obtain⟨e,er',n',h1,h2⟩:=h
  exact⟨e,er',n',h1,jgl l e d1 d2 s er n h2 h'⟩
theorem jpg:∀ (l:List (List UInt8)) (d d':Dk),DOk d→d.n+l.length≤250→jd7 d l d'→d'.n=d.n+l.length
 | [],d,d',_,_,h=>by
  have h:d'=d:=h
  rw [h];simp
 | s::l,d,d',hd,hn,h=>by
  obtain⟨e,er,n,h1,h2⟩:=h
  simp only [List.length_cons] at hn ⊢
  have h3:=jg3 hd h1
  have h4:=h3.2 (by omega)
  have:=jpg l e d' h3.1 (by omega) h2
  omega
theorem jph:jbd jaf []:=⟨rfl,fun i hi=>absurd hi (by show ¬ i < 0;omega),[],⟨fun i=>⟨fun h=>(by cases h),fun h=>absurd h.1 (by show ¬ i < 0;omega)⟩,List.Pairwise.nil⟩,jno _ _ _⟩
theorem jqc:Rests jaf:=⟨jok,[],jph,fun i=>by
 cases e:dueB jaf [] i
 ·rfl
 ·have:=(jcd.1 e).1;simp at this⟩
def newDk:Dk:=⟨jaf,none,0⟩
theorem jg0:DOk newDk:=⟨jqc,fun q h=>(by cases h),by show(0:Int)≤0∧(0:Int)≤250;omega⟩
theorem jsg {p:Pt} {a b c n:Int} {q:Pt} (h:ja0 (jai p ⟨1,a,b,c⟩) p n 0 q):jaj q∧Ahead p q p.ships.length∧n=p.ships.length∧shp q p.ships.length=⟨1,a,b,c,0,p.next⟩∧jaj p:=by
 have hq:=jdg h
 rcases h with ⟨_,_,h,_⟩|⟨hp,n0,e0,q0,hO,⟨h1,_,h2,_⟩|⟨_,_,_,h,_⟩|⟨h1,_,rfl,_,rfl⟩⟩
 ·cases h
 ·exact absurd h2.symm h1
 ·cases h
 ·subst h1
  unfold jai at hO
  rw [if_pos rfl] at hO
  rcases hO with ⟨_,h,_⟩|⟨_,_,h,_⟩|⟨_,_,_,_,rfl,rfl⟩
  ·cases h
  ·cases h
  ·refine⟨hq,jq2 p _ _ (by show ¬ ((1:Int)=3);decide),rfl,?_,hp⟩
   exact jbj (by simp)
end Go.Proofs.YtcmdoeledmkfmacGreatDoor
