/- Texts of this claim, in one: Same FreeOf RefFirst RefLess RefSteps RefInts. -/
import Derived.BigQuiet
import Derived.Laws.StructEq
import Derived.Test.YtcmdoeledmkfmacGreatDoorS2
import Derived.Test.YtcmdoeledmkfmacGreatDoorS3
import Derived.Test.YtcmdoeledmkfmacGreatDoorS1
set_option linter.unusedSimpArgs false
set_option linter.unusedVariables false
set_option maxHeartbeats 40000000
set_option maxRecDepth 100000
namespace Go.Proofs.YtcmdoeledmkfmacGreatDoor
open Go.RowKit
theorem jk1 (n:Int) (w:World) :
  Calls Tryz.prog 31 #[.int .i64 n,.int .i64 0,.int .i64 16] w fun e w'=>e=.returned (.bool (inB n))∧w'=w:=by
 unfold inB
 by_cases h1:0≤n <;> by_cases h2:n≤16
 all_goals
  go_enter Tryz.func31,Tryz.ntmps31
  go_wp2
  go_ret
  exact⟨by simp [h1,h2],rfl⟩
def Says (f:List Int) (l:List (Int×Int)):Prop:=f.length=300∧∀ t:Nat,t < 300→f.getD t 0=val l t
theorem jmh (f:List Int) (l:List (Int×Int)) (hS:Says f l) (fr:Nat) (long n:Int) (w:World) (h1:fr≤300) (h2:1≤long) (h3:long≤300) :
  Calls Tryz.prog 38 #[.agg (ic f).toArray,.int .i64 fr,.int .i64 long,.int .i64 n] w fun e w'=>∃ r,e=.returned (.int .i64 r)∧FitIs l fr long n r∧Below w.heap.size w w':=by
 have HS:Hid (Says f l):=hS
 have B0:Hid (Below w.heap.size w (w.alloc (.cells (ic f).toArray 76))):=(Below.refl _ w).alloc (Nat.le_refl _) _
 have A0:Hid (Arr (w.alloc (.cells (ic f).toArray 76)) w.heap.size f):=⟨hS.1,heap_alloc_new w _⟩
 clear hS
 go_enter Tryz.func38,Tryz.ntmps38
 go_wp2
 generalize w.alloc (.cells (ic f).toArray 76)=W at *
 go_loopg [9,10,11] 301 (fun kx s9 s10 s11 wr=>∃ (t:Nat),s9=.int .i64 t∧fr≤t∧t≤300∧301 - t≤kx∧Hid (Below w.heap.size w wr)∧Hid (Arr wr w.heap.size f)∧Hid (∀ u:Int,(fr:Int)≤u→u < t→¬ room l n u long))
 case atStart=>exact⟨fr,rfl,Nat.le_refl _,h1,by omega,B0,A0,(fun u a b=>by omega:∀ u:Int,(fr:Int)≤u→u < fr→¬ room l n u long)⟩
 case round =>
  clear B0 A0
  obtain⟨t,rfl,ht1,ht2,hg,S1,A1,N1⟩:=hrel
  by_cases hlt:(t:Int)+long≤300
  ·go_wp2_with fail
   go_loopg [10,11] 300 (fun kx s10 s11 wr=>∃ (k:Nat) (ok:Bool),s10=.bool ok∧s11=.int .i64 k∧t≤k∧(k:Int)≤t+long∧300 - k≤kx∧Hid (Below w.heap.size w wr)∧Hid (Arr wr w.heap.size f)∧Hid ((ok=true∧∀ s:Nat,t≤s→s < k→n≤val l s)∨(ok=false∧∃ s:Nat,t≤s∧s < k∧val l s < n)))
   case atStart=>exact⟨t,true,rfl,rfl,Nat.le_refl _,by omega,by omega,S1,A1,(Or.inl ⟨rfl,fun s a b=>by omega⟩:(true=true∧∀ s:Nat,t≤s→s < t→n≤val l s)∨(true=false∧∃ s:Nat,t≤s∧s < t∧val l s < n))⟩
   case round =>
    clear S1 A1
    obtain⟨k,ok,rfl,rfl,hk1,hk2,hg2,S1,A1,R⟩:=hrel
    cases ok
    case false =>
     have NR:Hid (¬ room l n t long):=by
      rcases R.out with ⟨h,_⟩|⟨_,s,s1,s2,s3⟩
      ·cases h
      ·exact fun hr=>by have:=hr s (by omega) (by omega);omega
     have N2:Hid (∀ u:Int,(fr:Int)≤u→u < ((t+1:Nat):Int)→¬ room l n u long):=fun u a b=>by
      by_cases e:u=t
      ·rw [e];exact NR.out
      ·exact N1.out u a (by omega)
     by_cases hkl:(k:Int) < t+long
     ·go_wp2
      go_roundg (301 - (t+1))
      case measure=>omega
      case rel=>exact⟨t+1,by go_num,by omega,by omega,Nat.le_refl _,S1,A1,N2⟩
     ·have hd:decide ((k:Int) < t+long)=false:=decide_eq_false hkl
      go_wp2
      go_roundg (301 - (t+1))
      case measure=>omega
      case rel=>exact⟨t+1,by go_num,by omega,by omega,Nat.le_refl _,S1,A1,N2⟩
    case true =>
     by_cases hkl:(k:Int) < t+long
     ·have hk3:k < 300:=by omega
      have q0:=A1.out.cell k hk3
      have hv:f.getD k 0=val l k:=HS.out.2 k hk3
      rw [hv] at q0
      have RR:Hid (∀ s:Nat,t≤s→s < k→n≤val l s):=by
       rcases R.out with ⟨_,h⟩|⟨h,_⟩
       ·exact h
       ·cases h
      clear hv
      generalize hvv:val l k=x at *
      have V:Hid (val l k=x):=hvv
      clear hvv
      have hk4:(k:Int) < 300:=by omega
      by_cases hx:n≤x
      ·go_wp2
       go_roundg (300 - (k+1))
       case measure=>omega
       case rel =>
        have R2:Hid ((true=true∧∀ s:Nat,t≤s→s < k+1→n≤val l s)∨(true=false∧∃ s:Nat,t≤s∧s < k+1∧val l s < n)):=Or.inl ⟨rfl,fun s a b=>by
         by_cases e:s=k
         ·rw [e,V.out];exact hx
         ·exact RR.out s a (by omega)⟩
        exact⟨k+1,true,by first|rfl|(simp;omega)|simp [hx],by go_num,by omega,by omega,Nat.le_refl _,S1,A1,R2⟩
      ·go_wp2
       go_roundg (300 - (k+1))
       case measure=>omega
       case rel =>
        have R2:Hid ((false=true∧∀ s:Nat,t≤s→s < k+1→n≤val l s)∨(false=false∧∃ s:Nat,t≤s∧s < k+1∧val l s < n)):=Or.inr ⟨rfl,k,hk1,by omega,by rw [V.out];omega⟩
        exact⟨k+1,false,by first|rfl|(simp;omega)|simp [hx],by go_num,by omega,by omega,Nat.le_refl _,S1,A1,R2⟩
     ·have hd:decide ((k:Int) < t+long)=false:=decide_eq_false hkl
      have F:Hid (FitIs l fr long n t):=by
       rcases R.out with ⟨_,h⟩|⟨h,_⟩
       ·exact Or.inr ⟨by omega,hlt,fun s a b=>by
         have:=h s.toNat (by omega) (by omega)
         rw [show((s.toNat:Nat):Int)=s by omega] at this
         exact this,N1.out⟩
       ·cases h
      go_wp2
      go_ret
      exact⟨t,rfl,F.out,S1.out⟩
  ·have F:Hid (FitIs l fr long n (-1)):=Or.inl ⟨rfl,fun u a b=>N1.out u a (by omega)⟩
   go_wp2
   go_ret
   exact⟨-1,rfl,F.out,S1.out⟩
def InF (f:List Int):Prop:=f.length=300∧∀ j:Nat,j < 300→0≤f.getD j 0∧f.getD j 0≤16
def jo4 (f:List Int) (fr tu:Nat) (n:Int) (f2:List Int) (ok:Bool):Prop :=
 f2.length=300∧((ok=true∧(∀ j:Nat,j < 300→f2.getD j 0=if fr≤j∧j < tu then f.getD j 0 - n else f.getD j 0)∧∀ j:Nat,fr≤j→j < tu→0≤f.getD j 0 - n∧f.getD j 0 - n≤16) ∨
  (ok=false∧f2=f∧∃ j:Nat,fr≤j∧j < tu∧¬ (0≤f.getD j 0 - n∧f.getD j 0 - n≤16)))
theorem jf4 (f:List Int) (k:Nat) (y:Int) (j:Nat) (hk:k < f.length):(f.set k y).getD j 0=if j=k then y else f.getD j 0:=by
 rw [List.getD_eq_getElem?_getD,List.getElem?_set]
 by_cases e:k=j
 ·subst e;rw [if_pos rfl,if_pos hk,if_pos rfl];rfl
 ·rw [if_neg e,if_neg (by omega),← List.getD_eq_getElem?_getD]
theorem joa (f:List Int) (hf:InF f) (fr tu:Nat) (n:Int) (w:World) (h1:fr≤tu) (h2:tu≤300) (h3:-16≤n) (h4:n≤16) :
  Calls Tryz.prog 39 #[.agg (ic f).toArray,.int .i64 fr,.int .i64 tu,.int .i64 n] w fun e w'=>∃ f2 ok,e=.returned (.tuple #[.agg (ic f2).toArray,.bool ok])∧jo4 f fr tu n f2 ok∧Below w.heap.size w w':=by
 have HF:Hid (InF f):=hf
 have B0:Hid (Below w.heap.size w (w.alloc (.cells (ic f).toArray 76))):=(Below.refl _ w).alloc (Nat.le_refl _) _
 have A0:Hid (Arr (w.alloc (.cells (ic f).toArray 76)) w.heap.size f):=⟨hf.1,heap_alloc_new w _⟩
 have Z0:Hid ((w.alloc (.cells (ic f).toArray 76)).heap.size=w.heap.size+1):=by show _=_;simp
 clear hf
 go_enter Tryz.func39,Tryz.ntmps39
 go_wp2_with (first|(refine ja2 rfl rfl 8 rfl ?_;intro w1 hw1 hs1;rw [Z0.out] at hw1 hs1;rw [Z0.out];have B1:Hid (Below w.heap.size w w1):=B0.out.trans (hw1.out.2.mono (by omega));have A1:Hid (Arr w1 w.heap.size f):=A0.out.later hw1.out.2 (by omega))|(refine jco rfl _ rfl w.heap.size f rfl A1.out ?_)|(refine ja2 rfl rfl 10 rfl ?_;intro w2 hw2 hs2;rw [hs1] at hw2 hs2;rw [hs1];have B2:Hid (Below w.heap.size w w2):=B1.out.trans (hw2.out.2.mono (by omega));have A2:Hid (Arr w2 w.heap.size f):=A1.out.later hw2.out.2 (by omega);have R2:Hid (Arr w2 (w.heap.size+1) zero300):=hw1.out.1.later hw2.out.2 (by omega))|(refine ja1 rfl _ _ rfl (w.heap.size+1+1) zero300 f rfl rfl hw2.out.1 HF.out.1 ?_;intro w3 hw3 hs3))
 have B3:Hid (Below w.heap.size w w3):=B2.out.trans (hw3.out.2.2 _ (by omega))
 have A3:Hid (Arr w3 w.heap.size f):=⟨A2.out.1,(hw3.out.2.1 _ (by omega)).trans A2.out.2⟩
 have R3:Hid (Arr w3 (w.heap.size+1) zero300):=⟨R2.out.1,(hw3.out.2.1 _ (by omega)).trans R2.out.2⟩
 have G3:Hid (Arr w3 (w.heap.size+2) f):=hw3.out.1
 clear hw1 hw2 hw3 hs1 hs2 hs3 B0 B1 B2 A0 A1 A2 R2 Z0
 rw [show w.heap.size+1+1=w.heap.size+2 from rfl]
 go_loopg [11] 300 (fun kx s11 wr=>∃ (t:Nat) (gg:List Int),s11=.int .i64 t∧fr≤t∧t≤tu∧300 - t≤kx∧Hid (Below w.heap.size w wr)∧Hid (Arr wr w.heap.size f)∧Hid (Arr wr (w.heap.size+1) zero300)∧Hid (Arr wr (w.heap.size+2) gg)∧Hid (∀ j:Nat,j < 300→gg.getD j 0=if fr≤j∧j < t then f.getD j 0 - n else f.getD j 0)∧Hid (∀ j:Nat,fr≤j→j < t→0≤f.getD j 0 - n∧f.getD j 0 - n≤16))
 case atStart=>exact⟨fr,f,rfl,Nat.le_refl _,h1,by omega,B3,A3,R3,G3,(fun j hj=>by rw [if_neg (by omega)]:∀ j:Nat,j < 300→f.getD j 0=if fr≤j∧j < fr then f.getD j 0 - n else f.getD j 0),(fun j a b=>by omega:∀ j:Nat,fr≤j→j < fr→0≤f.getD j 0 - n∧f.getD j 0 - n≤16)⟩
 case round =>
  clear B3 A3 R3 G3
  obtain⟨t,gg,rfl,ht1,ht2,hg,S1,A1,R1,G1,E1,N1⟩:=hrel
  by_cases hlt:t < tu
  ·have q0:=G1.out.cell t (by omega)
   have q1:=G1.out.frozen t
   have hx:gg.getD t 0=f.getD t 0:=by rw [E1.out t (by omega),if_neg (by omega)]
   rw [hx] at q0
   clear hx
   obtain⟨x0,x1⟩:=HF.out.2 t (by omega)
   generalize hxx:f.getD t 0=x at *
   have XX:Hid (f.getD t 0=x):=hxx
   clear hxx
   have HW:=fun W=>jk1 (x - n) W
   generalize hr:inB (x - n)=r at HW
   have RR:Hid (inB (x - n)=r):=hr
   clear hr
   have ht3:(t:Int) < (tu:Int):=by omega
   have ht4:(t:Int) < 300:=by omega
   have ht5:(0:Int)≤(t:Int):=by omega
   have S2:Hid (Below w.heap.size w (wr.setCell ⟨w.heap.size+2,t,none⟩ (.int .i64 (x - n)))):=S1.out.setCell (by show w.heap.size≤w.heap.size+2;omega) _
   have A2:Hid (Arr (wr.setCell ⟨w.heap.size+2,t,none⟩ (.int .i64 (x - n))) w.heap.size f):=A1.out.other _ _ (by omega)
   have R2:Hid (Arr (wr.setCell ⟨w.heap.size+2,t,none⟩ (.int .i64 (x - n))) (w.heap.size+1) zero300):=R1.out.other _ _ (by omega)
   have G2:Hid (Arr (wr.setCell ⟨w.heap.size+2,t,none⟩ (.int .i64 (x - n))) (w.heap.size+2) (gg.set t (x - n))):=G1.out.set _ _
   go_wp2_with fail
   refine(HW _).mono ?_
   rintro e w5 ⟨rfl,rfl⟩
   cases r
   case false =>
    go_wp2_with (first|(refine jco rfl _ rfl w.heap.size f rfl A2.out ?_)|(refine ja1 rfl _ _ rfl (w.heap.size+1) zero300 f rfl rfl R2.out HF.out.1 ?_;intro w9 hw9 hs9))
    refine bodyPost_ret (v:=.tuple #[.agg (ic f).toArray,.bool false]) (jgk Tryz.results39 _ _ (w.heap.size+1) f rfl hw9.out.1) rfl ?_
    exact⟨f,false,rfl,⟨HF.out.1,Or.inr ⟨rfl,rfl,t,ht1,hlt,by rw [XX.out];exact of_decide_eq_false RR.out⟩⟩,S2.out.trans (hw9.out.2.2 _ (by omega))⟩
   case true =>
    go_wp2
    go_roundg (300 - (t+1))
    case measure=>omega
    case rel =>
     have E2:Hid (∀ j:Nat,j < 300→(gg.set t (x - n)).getD j 0=if fr≤j∧j < t+1 then f.getD j 0 - n else f.getD j 0):=fun j hj=>by
      rw [jf4 _ _ _ _ (by rw [G1.out.1];omega)]
      by_cases e:j=t
      ·subst e;rw [if_pos rfl,if_pos ⟨ht1,by omega⟩,XX.out]
      ·rw [if_neg e,E1.out j hj]
       by_cases c:fr≤j∧j < t
       ·rw [if_pos c,if_pos ⟨c.1,by omega⟩]
       ·rw [if_neg c,if_neg (by omega)]
     have N2:Hid (∀ j:Nat,fr≤j→j < t+1→0≤f.getD j 0 - n∧f.getD j 0 - n≤16):=fun j a b=>by
      by_cases e:j=t
      ·rw [e,XX.out];exact of_decide_eq_true RR.out
      ·exact N1.out j a (by omega)
     exact⟨t+1,gg.set t (x - n),by go_num,by omega,by omega,Nat.le_refl _,S2,A2,R2,G2,E2,N2⟩
  ·have hte:t=tu:=by omega
   have LA:Hid (jo4 f fr tu n gg true):=by
    have a:=E1.out
    have b:=N1.out
    rw [hte] at a b
    exact⟨G1.out.1,Or.inl ⟨rfl,a,b⟩⟩
   clear hte
   have ht3:¬ ((t:Int) < (tu:Int)):=by omega
   have GL:Hid (gg.length=300):=G1.out.1
   go_wp2_with (first|(refine jco rfl _ rfl (w.heap.size+2) gg rfl G1.out ?_)|(refine ja1 rfl _ _ rfl (w.heap.size+1) zero300 gg rfl rfl R1.out GL.out ?_;intro w9 hw9 hs9))
   refine bodyPost_ret (v:=.tuple #[.agg (ic gg).toArray,.bool true]) (jgk Tryz.results39 _ _ (w.heap.size+1) gg rfl hw9.out.1) rfl ?_
   have BL:Below w.heap.size w w9:=S1.out.trans (hw9.out.2.2 _ (by omega))
   first|exact⟨gg,true,rfl,LA.out,BL⟩|exact⟨gg,Or.inr ⟨rfl,LA.out,BL⟩⟩
structure SInv (f:List Int) (t:Nat) (r:List (Int×Int)):Prop where
 nil:t=0→r=[]
 pos:0 < t→0 < r.length
 first:0 < t→(sAt r 0).1=0
 lt:∀ j,j < r.length→(sAt r j).1 < t
 rng:∀ j,j < r.length→0≤(sAt r j).2∧(sAt r j).2≤16
 up:∀ j,j+1 < r.length→(sAt r j).1 < (sAt r (j+1)).1
 other:∀ j,j+1 < r.length→(sAt r (j+1)).2≠(sAt r j).2
 last:0 < t→(sAt r (r.length - 1)).2=f.getD (t - 1) 0
 says:∀ s:Nat,s < t→val r s=f.getD s 0
theorem SInv.start (f:List Int):SInv f 0 [] :=
 ⟨fun _=>rfl,fun h=>by omega,fun h=>by omega,fun j h=>by simp at h,fun j h=>by simp at h,fun j h=>by simp at h,fun j h=>by simp at h,fun h=>by omega,fun s h=>by omega⟩
theorem jpc (r:List (Int×Int)) (x:Int×Int) (j:Nat):sAt (r++[x]) j=if j < r.length then sAt r j else if j=r.length then x else (0,0):=by
 unfold sAt
 simp only [List.getD_eq_getElem?_getD,List.getElem?_append]
 by_cases h1:j < r.length
 ·rw [if_pos h1,if_pos h1]
 ·rw [if_neg h1,if_neg h1]
  by_cases h2:j=r.length
  ·subst h2;simp
  ·rw [if_neg h2]
   obtain⟨k,hk⟩:∃ k,j - r.length=k+1:=⟨j - r.length - 1,by omega⟩
   rw [hk];rfl
theorem SInv.snoc {f:List Int} {t:Nat} {r:List (Int×Int)} (I:SInv f t r) (hf:InF f) (ht:t < 300) (h:t=0∨f.getD t 0≠f.getD (t - 1) 0):SInv f (t+1) (r++[((t:Int),f.getD t 0)]):=by
 have hl:(r++[((t:Int),f.getD t 0)]).length=r.length+1:=by simp
 have lt:∀ j,j < r.length→sAt (r++[((t:Int),f.getD t 0)]) j=sAt r j:=fun j hj=>by rw [jpc,if_pos hj]
 have eq:sAt (r++[((t:Int),f.getD t 0)]) r.length=((t:Int),f.getD t 0):=by rw [jpc,if_neg (by omega),if_pos rfl]
 refine⟨fun h=>by omega,fun _=>by omega,fun _=>?_,fun j hj=>?_,fun j hj=>?_,fun j hj=>?_,fun j hj=>?_,fun _=>?_,fun s hs=>?_⟩
 ·by_cases h0:0 < t
  ·rw [lt 0 (I.pos h0)];exact I.first h0
  ·have e:t=0:=by omega
   have hr:=I.nil e
   subst hr
   subst e
   rfl
 ·rw [hl] at hj
  by_cases e:j < r.length
  ·rw [lt j e];have:=I.lt j e;omega
  ·rw [show j=r.length by omega,eq];show(t:Int) < ((t+1:Nat):Int);omega
 ·rw [hl] at hj
  by_cases e:j < r.length
  ·rw [lt j e];exact I.rng j e
  ·rw [show j=r.length by omega,eq];exact hf.2 t ht
 ·rw [hl] at hj
  by_cases e:j+1 < r.length
  ·rw [lt j (by omega),lt (j+1) e];exact I.up j e
  ·rw [show j+1=r.length by omega,eq,lt j (by omega)];exact I.lt j (by omega)
 ·rw [hl] at hj
  by_cases e:j+1 < r.length
  ·rw [lt j (by omega),lt (j+1) e];exact I.other j e
  ·have ej:j+1=r.length:=by omega
   have t0:0 < t:=by
    apply Nat.pos_of_ne_zero
    intro h0
    have:=I.nil h0
    subst this
    simp at ej
   rw [ej,eq,lt j (by omega)]
   have:=I.last t0
   rw [show r.length - 1=j by omega] at this
   rw [this]
   rcases h with h|h
   ·omega
   ·exact h
 ·rw [hl,Nat.add_sub_cancel,eq];rfl
 ·unfold val
  rw [jeq]
  show(if (t:Int)≤(s:Int) then f.getD t 0 else val r s)=f.getD s 0
  by_cases e:t≤s
  ·have:s=t:=by omega
   subst this
   rw [if_pos (Int.le_refl _)]
  ·rw [if_neg (by omega)];exact I.says s (by omega)
theorem SInv.rise {f:List Int} {t:Nat} {r:List (Int×Int)} (I:SInv f t r):Rise r:=jn3 I.up
theorem SInv.skip {f:List Int} {t:Nat} {r:List (Int×Int)} (I:SInv f t r) (h0:0 < t) (h:f.getD t 0=f.getD (t - 1) 0):SInv f (t+1) r:=by
 have hp:=I.pos h0
 refine⟨fun h=>by omega,fun _=>hp,fun _=>I.first h0,fun j hj=>by have:=I.lt j hj;omega,I.rng,I.up,I.other,fun _=>by rw [Nat.add_sub_cancel,h];exact I.last h0,fun s hs=>?_⟩
 by_cases e:s < t
 ·exact I.says s e
 ·have es:s=t:=by omega
  subst es
  rw [jey I.rise (j:=r.length - 1) (by omega) (by have:=I.lt (r.length - 1) (by omega);omega) (fun hh=>by omega),I.last h0,h]
theorem SInv.done {f:List Int} {r:List (Int×Int)} (I:SInv f 300 r) (hf:InF f):Good r∧Says f r :=
 ⟨⟨I.pos (by omega),I.first (by omega),fun j hj=>I.lt j hj,fun j hj=>(I.rng j hj).1,fun j hj=>(I.rng j hj).2,I.up,I.other⟩,hf.1,fun t ht=>(I.says t ht).symm⟩
theorem getQ (l:List Int) (k:Nat) (h:k < l.length):l[k]?=some (l.getD k 0):=by
 rw [List.getElem?_eq_getElem h,List.getD_eq_getElem?_getD,List.getElem?_eq_getElem h];rfl
theorem jp9 (a1 a2:Option Addr) (c1 c2:Nat) (l m:List Int) (w:World) (h1:l=[]∨∃ b off,a1=some ⟨b,off,none⟩∧RdK cInt w b off l) (h2:m=[]∨∃ b off,a2=some ⟨b,off,none⟩∧RdK cInt w b off m) (n1:l.length≤17592186044416) (n2:m.length≤17592186044416) :
  Calls Tryz.prog 20 #[.slice a1 l.length c1,.slice a2 m.length c2] w fun e w'=>e=.returned (.bool (decide (l=m)))∧Below w.heap.size w w':=by
 by_cases hl:l.length=m.length
 ·have S0:Hid (Below w.heap.size w w):=Below.refl _ _
  by_cases h0:l=[]
  ·have hm:m=[]:=List.eq_nil_of_length_eq_zero (by rw [← hl,h0];rfl)
   subst h0;subst hm
   go_enter Tryz.func20,Tryz.ntmps20
   go_wp2
   go_loopg [13] 0 (fun kx s13 wr=>s13=.int .i64 0∧wr=w)
   case atStart=>exact⟨rfl,rfl⟩
   case round =>
    obtain⟨rfl,rfl⟩:=hrel
    go_wp2
    go_ret
    exact⟨by simp,S0.out⟩
  ·rcases h1 with h1|⟨b1,o1,rfl,r1⟩
   ·exact absurd h1 h0
   rcases h2 with h2|⟨b2,o2,rfl,r2⟩
   ·exact absurd (List.eq_nil_of_length_eq_zero (by rw [hl,h2];rfl)) h0
   have R1:Hid (RdK cInt w b1 o1 l):=r1
   have R2:Hid (RdK cInt w b2 o2 m):=r2
   have HL:Hid (l.length=m.length):=hl
   have hlb:((l.length:Int) != (m.length:Int))=false:=by simp [hl]
   have hn1:l.length≤m.length:=by omega
   have hn2:m.length≤l.length:=by omega
   clear r1 r2 hl h0
   go_enter Tryz.func20,Tryz.ntmps20
   go_wp2
   go_loopg [13] l.length (fun kx s13 wr=>∃ k:Nat,s13=.int .i64 k∧k≤l.length∧l.length - k≤kx∧Hid (Below w.heap.size w wr)∧Hid (∀ j,j < k→l.getD j 0=m.getD j 0))
   case atStart=>exact⟨0,rfl,Nat.zero_le _,by omega,S0,(fun j hj=>absurd hj (Nat.not_lt_zero _):∀ j,j < 0→l.getD j 0=m.getD j 0)⟩
   case round =>
    clear S0
    obtain⟨k,rfl,hk,hg,S1,I⟩:=hrel
    by_cases hlt:k < l.length
    ·have p0:=(R1.out.below S1.out).int (getQ l k hlt)
     have q0:=(R2.out.below S1.out).int (getQ m k (by omega))
     generalize hx:l.getD k 0=x at *
     generalize hy:m.getD k 0=y at *
     have X:Hid (l.getD k 0=x):=hx
     have Y:Hid (m.getD k 0=y):=hy
     clear hx hy
     have hk3:(k:Int) < (l.length:Int):=by omega
     have hk4:(k:Int) < (m.length:Int):=by omega
     by_cases hxy:x=y
     ·have E:Hid (x=y):=hxy
      have hd:(x != y)=false:=by simp [hxy]
      clear hxy
      go_wp2_with fail
      go_quiet (fail)
      go_wp2
      go_roundg (l.length - (k+1))
      case measure=>omega
      case rel =>
       have I2:Hid (∀ j,j < k+1→l.getD j 0=m.getD j 0):=fun j hj=>by
        by_cases e:j=k
        ·rw [e,X.out,Y.out];exact E.out
        ·exact I.out j (by omega)
       exact⟨k+1,by go_num,by omega,Nat.le_refl _,below_drewN S1.out _,I2⟩
     ·have hd:(x != y)=true:=by simp [hxy]
      have D:Hid (decide (l=m)=false):=decide_eq_false fun e=>hxy (by rw [← X.out,← Y.out,e])
      clear hxy
      go_wp2_with fail
      go_quiet (fail)
      go_wp2
      go_ret
      exact⟨by rw [D.out];rfl,below_drewN S1.out _⟩
    ·have D:Hid (decide (l=m)=true):=decide_eq_true (List.ext_getElem HL.out fun j x y=>by have h:=I.out j (by omega);rw [List.getD_eq_getElem?_getD,List.getD_eq_getElem?_getD,List.getElem?_eq_getElem x,List.getElem?_eq_getElem y] at h;exact h)
     go_wp2
     go_ret
     exact⟨by rw [D.out];rfl,S1.out⟩
 ·have hlb:((l.length:Int) != (m.length:Int))=true:=by rw [bne_iff_ne];omega
  have D:Hid (decide (l=m)=false):=decide_eq_false fun e=>hl (by rw [e])
  go_enter Tryz.func20,Tryz.ntmps20
  go_wp2
  go_ret
  exact⟨by rw [D.out];rfl,Below.refl _ _⟩
theorem jrn (v1 v2:Value) (l m:List Int) (w:World) (h1:SlK cInt w v1 l) (h2:SlK cInt w v2 m) (n1:l.length≤17592186044416) (n2:m.length≤17592186044416) :
  Calls Tryz.prog 20 #[v1,v2] w fun e w'=>e=.returned (.bool (decide (l=m)))∧Below w.heap.size w w':=by
 obtain⟨a1,c1,rfl,_,h1⟩:=h1
 obtain⟨a2,c2,rfl,_,h2⟩:=h2
 exact jp9 a1 a2 c1 c2 l m w h1 h2 n1 n2
end Go.Proofs.YtcmdoeledmkfmacGreatDoor
