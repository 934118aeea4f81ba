/- Texts of this claim, in one: RParse. -/
import Derived.BigQuiet
import Derived.Handy
import Derived.Test.YtcmdoeledmkfmacGreatDoorSJ
import Derived.Test.YtcmdoeledmkfmacGreatDoorSL
set_option linter.unusedSimpArgs false
set_option linter.unusedVariables false
set_option maxHeartbeats 40000000
set_option maxRecDepth 100000
namespace Go.Proofs.YtcmdoeledmkfmacGreatDoor
open Go.RowKit
theorem jn9 (w:World):Calls Tryz.prog 49 #[] w fun e w'=>e=.returned (.tuple #[.agg (jao noOrd).toArray,.int .i64 1])∧Below w.heap.size w w':=by
 go_enter Tryz.func49,Tryz.ntmps49
 go_wp2_with (first|(refine jat rfl rfl 0 rfl ?_;intro w1 h1 s1)|(refine jak rfl _ _ rfl w.heap.size noOrd noOrd rfl rfl h1.out.1 ?_;intro w2 h2 s2))
 refine bodyPost_ret (v:=.tuple #[.agg (jao noOrd).toArray,.int .i64 1]) (jaw Tryz.results49 _ _ w.heap.size noOrd rfl h2.out.1) rfl ?_
 exact⟨rfl,h1.out.2.trans (h2.out.2.2 _ (Nat.le_refl _))⟩
theorem jkk (W:World) (t:List UInt8):∃ cap W',(convert 9 88 (.string ⟨t.toArray⟩)).run Tryz.prog W=.ok (.slice (some ⟨W.heap.size,0,none⟩) t.length cap) W'∧(∀ (j:Nat) c,t[j]?=some c→W'.cell? ⟨W.heap.size,j,none⟩=some (.int .u8 (c.toNat:Int)))∧Below W.heap.size W W'∧W.heap.size < W'.heap.size:=by
 have hz:(⟨t.toArray⟩:ByteArray).size=t.length:=by show t.toArray.size=_;simp
 have h:=Lib.run_convert_string_bytes (P:=Tryz.prog) W 9 88 5 ⟨t.toArray⟩ Tryz.underlying9 Tryz.underlying88 Tryz.underlying5
 rw [hz] at h
 refine⟨_,_,h,fun j c hc=>?_,Lib.bytesWorld_below _ _ _,by rw [Lib.bytesWorld_size];omega⟩
 have hj:=(List.getElem?_eq_some_iff.1 hc).1
 rw [Lib.bytesWorld_cell _ _ _ _ (by rw [hz];exact hj)]
 simp [List.getD,hc]
def updF (f:Nat→Int) (j:Nat) (v:Int):Nat→Int:=fun i=>if i=j then v else f i
def NF (W:World) (g:Nat) (f:Nat→Int):Prop:=N3 W g (f 0) (f 1) (f 2)
theorem NF.cell {W:World} {g:Nat} {f:Nat→Int} (h:NF W g f) {j:Nat} (hj:j < 3):W.cell? ⟨g,j,none⟩=some (.int .i64 (f j))∧W.frozen? ⟨g,j,none⟩=false:=by
 refine⟨?_,N3.frozen h j⟩
 obtain rfl|rfl|rfl:j=0∨j=1∨j=2:=by omega
 ·exact(N3.cells h).1
 ·exact(N3.cells h).2.1
 ·exact(N3.cells h).2.2
theorem NF.set {W:World} {g:Nat} {f:Nat→Int} (h:NF W g f) {j:Nat} (hj:j < 3) (v:Int):NF (W.setCell ⟨g,j,none⟩ (.int .i64 v)) g (updF f j v):=by
 have s:=N3.set h v
 obtain rfl|rfl|rfl:j=0∨j=1∨j=2:=by omega
 ·exact s.1
 ·exact s.2.1
 ·exact s.2.2
theorem jo6 (f:Nat→Int) (j:Nat) (v v':Int):updF (updF f j v) j v'=updF f j v':=by
 funext i;unfold updF;split <;> rfl
theorem jq9 (f:Nat→Int) (j:Nat) (v:Int):updF f j v j=v:=by unfold updF;rw [if_pos rfl]
theorem jsu (f:Nat→Int) (j:Nat):updF f j (f j)=f:=by
 funext i;unfold updF;split
 ·rename_i h;rw [h]
 ·rfl
theorem jp8 (k:Nat) (hk:k < 15) (x:World):(Instr.slice 9 (.string ⟨(jc2 k).toArray⟩) none (some (.int .i64 ((jc2 k).length - 2:Int))) none).run Tryz.prog x=.ok (.string ⟨(word k).toArray⟩) x:=by
 obtain rfl|rfl|rfl|rfl|rfl|rfl|rfl|rfl|rfl|rfl|rfl|rfl|rfl|rfl|rfl:k=0∨k=1∨k=2∨k=3∨k=4∨k=5∨k=6∨k=7∨k=8∨k=9∨k=10∨k=11∨k=12∨k=13∨k=14:=by omega
 all_goals kernel_rfl
theorem jrl (b off n cap:Nat) (hn:n+1≤cap):∃ ga,(n≠0→ga=some (⟨b,off+1,none⟩:Addr))∧∀ x:World,(Instr.slice 22 (.slice (some ⟨b,off,none⟩) (n+1) cap) (some (.int .i64 1)) none none).run Tryz.prog x=.ok (.slice ga n (cap - 1)) x:=by
 refine⟨if cap=1 then some ⟨b,off,none⟩ else some ⟨b,off+1,none⟩,fun h=>if_neg (by omega),fun x=>?_⟩
 have hc:(1:Int)≤(cap:Int):=by omega
 go_simp
 intro h
 omega
def jjh (l:List (List UInt8)) (k:Nat):Prop:=∀ j,j < k→¬ (l[0]?=some (word (j+1))∧l.length=cntO (j+1)+1)
theorem jth {l:List (List UInt8)} (h:jjh l 14):∀ o,¬ Tells l o:=by
 intro o ho
 have k1:=ho.1.kind
 have e:=ho.2
 refine h (o.kd.toNat - 1) (by omega) ?_
 rw [show o.kd.toNat - 1+1=o.kd.toNat by omega]
 cases l with
 | nil=>unfold toldL at e;cases e
 | cons x ds =>
  obtain⟨_,e1,_,e3⟩:=jez ho
  exact⟨by rw [e1];rfl,by simp [e3]⟩
theorem ji7 {l:List (List UInt8)} {k:Nat} (h:jjh l k) (hk:¬ (l[0]?=some (word (k+1))∧l.length=cntO (k+1)+1)):jjh l (k+1):=fun j hj=>by
 by_cases e:j=k
 ·subst e;exact hk
 ·exact h j (by omega)
def PM (w:World) (z:Nat) (W:World):Prop:=LOB W z noOrd∧AS W∧Below z w W
theorem PM.later {w W W':World} {z:Nat} (h:PM w z W) (hb:Below W.heap.size W W'):PM w z W':=⟨h.1.later hb h.1.lt,h.2.1.later hb,h.2.2.trans (hb.mono (by have:=h.1.lt;omega))⟩
theorem jch {α:Type} {c:α→List Value} {w w':World} {v:Value} {l:List α} (h:SlK c w v l) (hb:Below w.heap.size w w'):SlK c w' v l:=by
 obtain⟨a,cap,h1,h2,h3⟩:=h
 refine⟨a,cap,h1,h2,?_⟩
 rcases h3 with h3|⟨b,off,h4,h5⟩
 ·exact Or.inl h3
 ·exact Or.inr ⟨b,off,h4,h5.below hb⟩
def P2 (w:World) (z:Nat) (ps:List (List UInt8)) (v:Value) (g:Nat) (W:World):Prop:=PM w z W∧SlK cStr W v ps∧RdK cStr W g 0 refL
theorem P2.later {w W W':World} {z g:Nat} {ps:List (List UInt8)} {v:Value} (h:P2 w z ps v g W) (hb:Below W.heap.size W W'):P2 w z ps v g W':=⟨h.1.later hb,jch h.2.1 hb,h.2.2.below hb⟩
theorem PM.set {w W:World} {z g:Nat} (h:PM w z W) (hz:z < g) (hg:2 < z) (j:Nat) (v:Value):PM w z (W.setCell ⟨g,j,none⟩ v) :=
 ⟨h.1.other v (by omega),h.2.1.same (Below.heap_setCell _ _ _ _ (by show 2≠g;omega)),h.2.2.setCell (p:=⟨g,j,none⟩) (by show z≤g;omega) v⟩
theorem juh {α:Type} {c:α→List Value} {W:World} {b off g j:Nat} {l:List α} (h:RdK c W b off l) (hb:b≠g) (v:Value):RdK c (W.setCell ⟨g,j,none⟩ v) b off l:=fun i u hu=>by
 rw [jfw (Below.heap_setCell _ _ _ _ hb)]
 exact h i u hu
theorem PM.lt {w W:World} {z:Nat} (h:PM w z W):z < W.heap.size:=h.1.lt
theorem jrd (x:List UInt8) (W:World):Calls Tryz.prog 51 #[.string ⟨x.toArray⟩,.string ⟨#[45]⟩] W fun e w'=>e=.returned (.string ⟨(bare x).toArray⟩)∧w'=W:=by
 have h:=Tryz.strings_TrimPrefix ⟨x.toArray⟩ ⟨#[45]⟩ W
 exact h
theorem jrc (d:List UInt8) (hd:d.length≤60) (W:World):Calls Tryz.prog 52 #[.string ⟨d.toArray⟩,.string ⟨#[48,49,50,51,52,53,54,55,56,57]⟩] W fun e w'=>e=.returned (.string ⟨(Lib.trimS d digs).toArray⟩)∧Below W.heap.size W w':=by
 have hz:(⟨d.toArray⟩:ByteArray).size=d.length:=by show d.toArray.size=_;simp
 exact Tryz.strings_Trim_laid ⟨d.toArray⟩ ⟨#[48,49,50,51,52,53,54,55,56,57]⟩ W (by omega) (by decide) (ascii_of_all (by decide))
theorem jpi {x:List UInt8} {n:Int} (h:∀ m:Int,-1073741824≤m→m≤1073741824→Lib.itoa m=x→False):NumIs x n false:=⟨fun e=>(by cases e),fun _ m m0 m1 e=>h m m0 m1 e⟩
theorem jva {ds:List (List UInt8)} {j:Nat} {f:Nat→Int} {n:Int} {d:List UInt8} (h:DigIs ds j (f 0) (f 1) (f 2)) (hj:j < 3) (hd:ds[j]?=some d) (hn:Lib.itoa n=d):DigIs ds (j+1) (updF f j n 0) (updF f j n 1) (updF f j n 2):=by
 have s:=jpt h hj hd hn
 obtain rfl|rfl|rfl:j=0∨j=1∨j=2:=by omega
 ·exact s.1 rfl
 ·exact s.2.1 rfl
 ·exact s.2.2 rfl
theorem jty {ds:List (List UInt8)} {j:Nat} {f:Nat→Int} (h:DigIs ds j (f 0) (f 1) (f 2)) (hj:j < 3):f j=0:=by
 obtain⟨_,_,h0,h1,h2⟩:=h
 obtain rfl|rfl|rfl:j=0∨j=1∨j=2:=by omega
 ·exact h0 (by omega)
 ·exact h1 (by omega)
 ·exact h2 (by omega)
theorem jcl (s:List UInt8) (hs:s.length≤9223372036854775807) (w:World) (hA:AS w) :
  Calls Tryz.prog 30 #[txt s] w fun e w'=>jnr s w e w':=by
 have HA:Hid (AS w):=hA
 have HN:=fun W=>jn9 W
 clear hA
 by_cases hlen:60 < s.length
 ·have P:Hid (jay s none):=fun o h=>by omega
  have h3:(60:Int) < (s.length:Int):=by omega
  unfold txt
  go_enter Tryz.func30,Tryz.ntmps30
  go_wp2_with (refine jat rfl rfl 2 rfl ?_;intro w1 h1 s1)
  refine(HN _).mono ?_
  rintro e w2 ⟨rfl,hb2⟩
  have O2:Hid (LOB w2 w.heap.size noOrd∧Below w.heap.size w w2):=⟨h1.out.1.later hb2 h1.out.1.lt,h1.out.2.trans (hb2.mono (by omega))⟩
  clear hb2 h1 s1 HN
  go_wp2_with (refine jak rfl _ _ rfl w.heap.size noOrd noOrd rfl rfl O2.out.1 ?_;intro w3 h3 s3)
  refine bodyPost_ret (v:=.tuple #[.agg (jao noOrd).toArray,.int .i64 1]) (jaw Tryz.results30 _ _ w.heap.size noOrd rfl h3.out.1) rfl ?_
  exact⟨noOrd,1,rfl,Or.inr ⟨rfl,rfl,P.out⟩,O2.out.2.trans (h3.out.2.2 _ (Nat.le_refl _))⟩
 have h3:¬ (60:Int) < (s.length:Int):=by omega
 have HW:=fun W h=>jlu W h
 have HT:=fun x W=>jrd x W
 have HTR:=fun d h W=>jrc d h W
 have HGA:Hid (2 < w.heap.size):=HA.out.lt
 have HD:=fun n h0 h1 W=>jox n h0 h1 W
 have HO:=fun o W h=>jjq o W h
 unfold txt at *
 go_enter Tryz.func30,Tryz.ntmps30
 go_upto_region 6 with (refine jat rfl rfl 2 rfl ?_;intro w1 h1 s1)
 have M1:Hid (PM w w.heap.size w1):=⟨h1.out.1,HA.out.later h1.out.2,h1.out.2⟩
 clear h1 s1 HA
 obtain⟨cap,W2,hcv,hrd,hb2,hlt2⟩:=jkk w1 (s++[32])
 rw [← cat2,List.length_append] at hcv
 have M2:Hid (PM w w.heap.size W2∧(∀ (j:Nat) c,(s++[32])[j]?=some c→W2.cell? ⟨w1.heap.size,j,none⟩=some (.int .u8 (c.toNat:Int)))∧w1.heap.size < W2.heap.size):=⟨M1.out.later hb2,hrd,hlt2⟩
 clear hrd hb2 hlt2 M1
 generalize hz:w.heap.size=z at *
 go_wp2_with fail
 clear hcv
 have E2:Hid (W2.ownsRow W2.heap.size 9 1 (.slice none 0 0) (jbv (s++[32]) 0).1.length (jae cStr (jbv (s++[32]) 0).1)∧Below W2.heap.size W2 W2):=by
  rw [jgi]
  exact⟨World.ownsRow_nil _ _ _ _,Below.refl _ _⟩
 generalize hz2:W2.heap.size=z2 at *
 generalize hg1:w1.heap.size=g1 at *
 have hlz:(s++[32]).length=s.length+1:=by simp
 have HLZ:Hid ((s++[32]).length=s.length+1):=hlz
 have HSE:Hid (jbv (s++[32]) (s.length+1)=(pieces s,[])):=js7 s
 generalize ht:s++[32]=t at *
 clear ht hlz hg1
 go_loopg [5,6,8,29] (s.length+1) (fun kx s5 s6 s8 s29 wr=>∃ (k:Nat) (wd:List UInt8),s29=.int .i64 k∧k≤s.length+1∧s.length+1 - k≤kx∧s6=.string ⟨wd.toArray⟩∧wd.length≤k∧Hid (wd=(jbv t k).2∧wr.ownsRow z2 9 1 s5 (jbv t k).1.length (jae cStr (jbv t k).1)∧Below z2 W2 wr))
 case atStart=>exact⟨0,[],rfl,Nat.zero_le _,by omega,rfl,by simp,by rw [jgi],E2.out⟩
 case round =>
  clear E2
  obtain⟨k,wd,rfl,hk,hg,rfl,hwk,I⟩:=hrel
  by_cases hkl:k < s.length+1
  ·obtain⟨c,hc⟩:∃ c,t[k]?=some c:=⟨t[k]'(by rw [HLZ.out];exact hkl),List.getElem?_eq_getElem _⟩
   have hcell:wr.cell? ⟨g1,k,none⟩=some (.int .u8 (c.toNat:Int)):=by
    have h1:=M2.out.2.1 k c hc
    rw [← h1]
    exact jfw (I.out.2.2.block g1 (by have:=M2.out.2.2;omega))
   have hki:(k:Int) < (s.length:Int)+1:=by omega
   have SC:Hid (jbv t (k+1)=scan1 ((jbv t k).1,wd) c):=by
    show jbv t (k+1)=_
    rw [jix hc,I.out.1]
   have hgl:=(jk0 t k).1
   have LL:Hid ((jbv t k).1.length≤k):=hgl
   have I1:Hid (wr.ownsRow z2 9 1 u5 (jbv t k).1.length (jae cStr (jbv t k).1)∧Below z2 W2 wr∧z2≤wr.heap.size):=⟨I.out.2.1,I.out.2.2,by rw [← hz2];exact I.out.2.2.size⟩
   clear hc hgl I
   generalize (jbv t k).1=lk at *
   by_cases h32:c=32
   ·subst h32
    by_cases hw0:wd=[]
    ·subst hw0
     rw [jef] at SC
     have I2:Hid ([]=(jbv t (k+1)).2∧wr.ownsRow z2 9 1 u5 (jbv t (k+1)).1.length (jae cStr (jbv t (k+1)).1)∧Below z2 W2 wr):=by
      rw [SC.out];exact⟨rfl,I1.out.1,I1.out.2.1⟩
     clear I1 SC
     go_wp2_with fail
     go_roundg (s.length+1 - (k+1))
     case measure=>omega
     case rel=>exact⟨k+1,[],by go_num,by omega,Nat.le_refl _,rfl,by simp,I2⟩
    ·have hne:wd.isEmpty=false:=by cases wd with|nil=>exact absurd rfl hw0|cons a r=>rfl
     rw [jfa lk hw0] at SC
     have O5:Hid ((wr.alloc (.cells #[.string ⟨wd.toArray⟩] 9)).ownsRow z2 9 1 u5 lk.length (jae cStr lk)):=I1.out.1.alloc _
     have R5:Hid (RdK cStr (wr.alloc (.cells #[.string ⟨wd.toArray⟩] 9)) wr.heap.size 0 [wd]):=jfe (k:=1) wr _ wd _ rfl
     have B5:Hid (Below z2 W2 (wr.alloc (.cells #[.string ⟨wd.toArray⟩] 9))∧z2≤(wr.alloc (.cells #[.string ⟨wd.toArray⟩] 9)).heap.size) :=
      ⟨I1.out.2.1.alloc I1.out.2.2 _,by have:=I1.out.2.2;simp;omega⟩
     have Q5:Hid (lk.length+1≤maxLen∧(lk.length+1)*16≤140737488355328):=by
      have h1:=LL.out
      have:maxLen=9223372036854775807:=rfl
      exact⟨by omega,by omega⟩
     clear I1 hw0
     go_wp2_with (at_builtin;refine jcp tyStr rfl _ _ rfl z2 u5 lk [wd] wr.heap.size 0 1 1 rfl rfl rfl O5.out R5.out B5.out.2 Q5.out.1 Q5.out.2 ?_;intro v' w2 hw2)
     have I2:Hid ([]=(jbv t (k+1)).2∧w2.ownsRow z2 9 1 v' (jbv t (k+1)).1.length (jae cStr (jbv t (k+1)).1)∧Below z2 W2 w2):=by
      rw [SC.out];exact⟨rfl,hw2.out.1,B5.out.1.trans hw2.out.2⟩
     clear hw2 O5 R5 B5 Q5 SC
     go_roundg (s.length+1 - (k+1))
     case measure=>omega
     case rel=>exact⟨k+1,[],by go_num,by omega,Nat.le_refl _,rfl,by simp,I2⟩
   ·have hcn:((c.toNat:Int) == 32)=false:=by
     refine beq_eq_false_iff_ne.2 fun h=>h32 ?_
     have:c.toNat=(32:UInt8).toNat:=by show c.toNat=32;omega
     exact UInt8.toNat_inj.1 this
    have hcb:c.toNat < 256:=UInt8.toNat_lt c
    rw [jhh lk wd h32] at SC
    have hcv:=conv1x wr c
    have I2:Hid (wd++[c]=(jbv t (k+1)).2∧(wr.alloc (.cells #[.int .u8 (c.toNat:Int)] 5)).ownsRow z2 9 1 u5 (jbv t (k+1)).1.length (jae cStr (jbv t (k+1)).1)∧Below z2 W2 (wr.alloc (.cells #[.int .u8 (c.toNat:Int)] 5))):=by
     rw [SC.out];exact⟨rfl,I1.out.1.alloc _,I1.out.2.1.alloc I1.out.2.2 _⟩
    clear I1 SC h32
    go_wp2_with fail
    go_roundg (s.length+1 - (k+1))
    case measure=>omega
    case rel=>exact⟨k+1,wd++[c],by go_num,by omega,Nat.le_refl _,by rw [← cat2],by simp;omega,I2⟩
  ·have hke:k=s.length+1:=by omega
   subst hke
   have F:Hid (PM w z wr∧SlK cStr wr u5 (pieces s)∧(pieces s).length≤61):=by
    have h1:=I.out.2.1
    have h2:=(jk0 t (s.length+1)).1
    rw [HSE.out] at h1 h2
    exact⟨M2.out.1.later (by rw [hz2];exact I.out.2.2),je6 h1,by simp only at h2;omega⟩
   have HS60:Hid (s.length≤60):=by show s.length≤60;omega
   have HX:Hid (∀ x∈pieces s,x.length≤60):=fun x hx=>by have:=jd2 s [] x hx;simp at this;omega
   clear I hwk HSE M2 HLZ hk hg
   generalize hps:pieces s=ps at *
   have PS:Hid (∀ r,(∀ o,r=some o→Tells ps o)→(r=none→∀ o,¬ Tells ps o)→jay s r):=fun r h1 h2=>by
    cases r with
    | none=>exact fun o _ ho=>h2 rfl o (by rw [hps] at ho;exact ho)
    | some o=>exact⟨HS60.out,by rw [hps];exact h1 o rfl⟩
   have hps61:=F.out.2.2
   clear hps
   go_wp2_with fail
   refine(HW _ F.out.1.2.1).mono ?_
   rintro e w3 ⟨gw,rfl,hrw,hb3⟩
   obtain⟨a,cap5,hv5⟩:∃ a cap,u5=.slice a ps.length cap:=by obtain⟨a,cap,h,_⟩:=F.out.2.1;exact⟨a,cap,h⟩
   subst hv5
   have E3:Hid (P2 w z ps (.slice a ps.length cap5) gw w3):=⟨F.out.1.later hb3,jch F.out.2.1 hb3,hrw⟩
   clear F hrw hb3 HW
   go_wp2_with fail
   go_loopg [49] 14 (fun kx s49 wr=>∃ k:Nat,s49=.int .i64 k∧k≤14∧14 - k≤kx∧Hid (jjh ps k∧P2 w z ps (.slice a ps.length cap5) gw wr))
   case atStart=>exact⟨0,rfl,Nat.zero_le _,by omega,fun j hj=>absurd hj (Nat.not_lt_zero _),E3.out⟩
   case round =>
    clear E3
    obtain⟨k,rfl,hk,hg,I⟩:=hrel
    by_cases hk14:k < 14
    case neg =>
     have hke:k=14:=by omega
     subst hke
     have P:Hid (jay s none):=PS.out none (fun o h=>by cases h) fun _=>jth I.out.1
     have O2:Hid (PM w z wr):=I.out.2.1
     clear I PS
     go_wp2_with fail
     refine(HN _).mono ?_
     rintro e w4 ⟨rfl,hb4⟩
     have O4:Hid (PM w z w4):=O2.out.later hb4
     clear hb4 O2 HN
     go_wp2_with (refine jak rfl _ _ rfl z noOrd noOrd rfl rfl O4.out.1 ?_;intro w5 h5 s5)
     refine bodyPost_ret (v:=.tuple #[.agg (jao noOrd).toArray,.int .i64 1]) (jaw Tryz.results30 _ _ z noOrd rfl h5.out.1) rfl ?_
     exact⟨noOrd,1,rfl,Or.inr ⟨rfl,rfl,P.out⟩,by rw [hz];exact O4.out.2.2.trans (h5.out.2.2 _ (Nat.le_refl _))⟩
    have hki:(k:Int) < 14:=by omega
    have hq:=I.out.2.2.2.refAt hk14
    have hil:=jke (k+1) (by omega)
    have hsl:=jp8 (k+1) (by omega)
    have hl2:2≤((jc2 (k+1)).length:Int):=by rw [jfc];omega
    have hl8:((jc2 (k+1)).length:Int)≤8:=by have:=jo5 (k+1) (by omega);rw [jfc];omega
    have hcl:=jhp (k+1)
    generalize jc2 (k+1)=rw at *
    cases ps with
    | nil =>
     have J:Hid (jjh [] (k+1)∧∀ n,P2 w z [] (.slice a 0 cap5) gw (wr.drewN n)):=⟨ji7 I.out.1 fun h=>by simp at h,fun n=>I.out.2.later (jc4 _ _ _)⟩
     clear I hil hsl hl2 hl8 hcl
     simp only [List.length_nil]
     go_wp2_with fail
     go_quiet (fail)
     go_wp2_with fail
     go_roundg (14 - (k+1))
     case measure=>omega
     case rel=>exact⟨k+1,by go_num,by omega,Nat.le_refl _,J.out.1,J.out.2 _⟩
    | cons x ds =>
     obtain⟨b,off,ha,hrd⟩:∃ b off,a=some ⟨b,off,none⟩∧RdK cStr wr b off (x::ds):=by
      obtain⟨a',c',e,_,hr⟩:=I.out.2.2.1
      injection e with e1
      rcases hr with hr|⟨b,off,hr,h⟩
      ·cases hr
      ·exact⟨b,off,by rw [e1,hr],h⟩
     subst ha
     have hx0:wr.cell? ⟨b,off,none⟩=some (.string ⟨x.toArray⟩):=hrd.str (j:=0) rfl
     simp only [List.length_cons] at *
     have hd0:¬ ((ds.length:Int)+1=0):=by omega
     have hd1:(0:Int) < (ds.length:Int)+1:=by omega
     have hdz:((ds.length:Int)+1 == 0)=false:=beq_eq_false_iff_ne.2 (by omega)
     by_cases hxw:x=word (k+1)
     case neg =>
      have J:Hid (jjh (x::ds) (k+1)∧∀ n,P2 w z (x::ds) (.slice (some ⟨b,off,none⟩) (ds.length+1) cap5) gw (wr.drewN n)):=⟨ji7 I.out.1 fun h=>hxw (by simpa using h.1),fun n=>I.out.2.later (jc4 _ _ _)⟩
      have hxn:(x == word (k+1))=false:=beq_eq_false_iff_ne.2 hxw
      have hxd:decide (x=word (k+1))=false:=decide_eq_false hxw
      generalize word (k+1)=wk at *
      clear I hrd hil hcl hxw
      go_wp2_with fail
      go_quiet (fail)
      go_wp2_with fail
      go_roundg (14 - (k+1))
      case measure=>omega
      case rel=>exact⟨k+1,by go_num,by omega,Nat.le_refl _,J.out.1,J.out.2 _⟩
     subst hxw
     by_cases hdl:ds.length=cntO (k+1)
     case neg =>
      have J:Hid (jjh (word (k+1)::ds) (k+1)∧∀ n,P2 w z (word (k+1)::ds) (.slice (some ⟨b,off,none⟩) (ds.length+1) cap5) gw (wr.drewN n)):=⟨ji7 I.out.1 fun h=>hdl (by simpa using h.2),fun n=>I.out.2.later (jc4 _ _ _)⟩
      have hb:((ds.length:Int) != (cntO (k+1):Nat))=true:=by simp;omega
      have hbd:decide ((ds.length:Int)=((cntO (k+1):Nat):Int))=false:=decide_eq_false (by omega)
      have hbb:((ds.length:Int) == ((cntO (k+1):Nat):Int))=false:=beq_eq_false_iff_ne.2 (by omega)
      generalize word (k+1)=wk at *
      clear I hrd hdl
      go_wp2_with fail
      go_quiet (fail)
      go_wp2_with fail
      go_roundg (14 - (k+1))
      case measure=>omega
      case rel=>exact⟨k+1,by go_num,by omega,Nat.le_refl _,J.out.1,J.out.2 _⟩
     have HDL:Hid (ds.length=cntO (k+1)):=hdl
     have hb:((ds.length:Int) != (cntO (k+1):Nat))=false:=by simp;omega
     have hbd:decide ((ds.length:Int)=((cntO (k+1):Nat):Int))=true:=decide_eq_true (by omega)
     have hbb:((ds.length:Int) == ((cntO (k+1):Nat):Int))=true:=by simp;omega
     clear hdl
     go_wp2_with fail
     go_quiet (fail)
     go_upto_region 18 with fail
     have hbx:((ds.length:Int) != 48+((cntO (k+1):Nat):Int) - 48)=false:=by have:=HDL.out;simp;omega
     simp only [hbx]
     clear hbx
     have KI:Hid (jh6 (word (k+1)) (k+1)):=Or.inl ⟨by omega,by omega,rfl⟩
     have R0:Hid (RdK cStr (wr.drewN nq) b off (word (k+1)::ds)):=hrd.below (jc4 _ _ _)
     have hcap5:ds.length+1≤cap5:=by
      obtain⟨a',c',e,h,_⟩:=I.out.2.2.1
      injection e with e1 e2 e3
      simp only [List.length_cons] at h
      omega
     have M4:Hid (PM w z (wr.drewN nq)):=I.out.2.1.later (jc4 _ _ _)
     generalize hW4:wr.drewN nq=W4 at *
     have hz4:z < W4.heap.size:=M4.out.lt
     have HZ4:Hid (z < W4.heap.size):=hz4
     clear hW4 I hrd hx0 hq hil hsl hl2 hl8 hb hbd hbb hd0 hd1 hdz hz4
     have hdc:ds.length≤3:=by have:=HDL.out;omega
     have hbn:Below W4.heap.size W4 (W4.alloc (.cells #[.int .i64 0,.int .i64 0,.int .i64 0] 90)):=(Below.refl _ W4).alloc (Nat.le_refl _) _
     have M5:Hid (NF (W4.alloc (.cells #[.int .i64 0,.int .i64 0,.int .i64 0] 90)) W4.heap.size (fun _=>0)∧PM w z (W4.alloc (.cells #[.int .i64 0,.int .i64 0,.int .i64 0] 90))∧RdK cStr (W4.alloc (.cells #[.int .i64 0,.int .i64 0,.int .i64 0] 90)) b off (word (k+1)::ds)∧b < W4.heap.size):=by
      refine⟨heap_alloc_new W4 _,M4.out.later hbn,R0.out.below hbn,?_⟩
      have:=R0.out.str (j:=0) rfl
      exact World.block_lt_of_cell? W4 _ this
     clear hbn M4 R0
     obtain⟨ga,hga,hsv⟩:=jrl b off ds.length cap5 hcap5
     have GA:Hid (ds.length≠0→ga=some (⟨b,off+1,none⟩:Addr)):=hga
     clear hga
     go_upto_region 19 with fail
     generalize (W4.alloc (.cells #[.int .i64 0,.int .i64 0,.int .i64 0] 90))=W5 at *
     generalize W4.heap.size=g3 at *
     go_wp2_with fail
     clear hsv
     have E5:Hid (NF W5 g3 (fun _=>0)∧PM w z W5∧RdK cStr W5 b off (word (k+1)::ds)∧b < g3∧z < g3):=⟨M5.out.1,M5.out.2.1,M5.out.2.2.1,M5.out.2.2.2,HZ4.out⟩
     clear M5 HZ4
     have HX2:Hid (∀ x∈ds,x.length≤60):=fun x hx=>HX.out x (List.mem_cons_of_mem _ hx)
     have PNO:Hid (∀ (j:Nat) d n,ds[j]?=some d→NumIs d n false→jay s none):=fun j d n hd hn=>PS.out none (fun o h=>by cases h) fun _=>by
      rcases jj1 (x:=word (k+1)) hd hn with ⟨h,_⟩|⟨_,h⟩
      ·cases h
      ·exact h
     clear HX
     go_loopg [84] ds.length (fun kx s84 wr=>∃ (j:Nat) (f:Nat→Int),s84=.int .i64 j∧j≤ds.length∧ds.length - j≤kx∧Hid (DigIs ds j (f 0) (f 1) (f 2))∧Hid (NF wr g3 f∧PM w z wr∧RdK cStr wr b off (word (k+1)::ds)∧b < g3∧z < g3))
     case atStart=>exact⟨0,fun _=>0,rfl,Nat.zero_le _,by omega,jps ds,E5.out⟩
     case round =>
      clear E5
      obtain⟨j,f,rfl,hj,hg3,DG,I⟩:=hrel
      by_cases hjl:j < ds.length
      ·obtain⟨x,hx⟩:∃ x,ds[j]?=some x:=⟨ds[j],List.getElem?_eq_getElem hjl⟩
       have hga:=GA.out (by omega)
       have hc:wr.cell? ⟨b,off+1+j,none⟩=some (.string ⟨x.toArray⟩):=by
        have:=I.out.2.2.1.str (j:=j+1) hx
        rw [show off+1+j=off+(j+1) by omega];exact this
       have hji:(j:Int) < (ds.length:Int):=by omega
       have hj3:(j:Int) < 3:=by omega
       have HXJ:Hid (ds[j]?=some x):=hx
       have hx60:x.length≤60:=HX2.out x (List.mem_of_getElem? hx)
       have hbl:=jt8 x
       have F0:Hid (f j=0):=jty DG.out (by omega)
       have NUM:Hid (∀ m:Int,-1073741824≤m→m≤1073741824→Lib.itoa m=x→bare x≠[]∧(bare x).length≤10∧(∀ c∈bare x,48≤c.toNat∧c.toNat≤57)∧numOf x=m):=fun m m0 m1 e=>by rw [← e];exact jof m0 m1
       have HTx:=fun W=>HT x W
       have NV:Hid (numOf x=if bare x=x then valTo (bare x) (bare x).length else -(valTo (bare x) (bare x).length)):=rfl
       clear hx HT
       subst hga
       generalize bare x=d at *
       go_wp2_with fail
       refine(HTx _).mono ?_
       rintro e w' ⟨rfl,hw⟩
       subst hw
       clear HTx hc
       by_cases d0:d=[]
       case pos =>
        have P:Hid (jay s none):=PNO.out j x 0 HXJ.out (jpi fun m m0 m1 e=>(NUM.out m m0 m1 e).1 d0)
        have O2:Hid (PM w z w'):=I.out.2.1
        clear NUM PNO I DG PS
        subst d0
        go_wp2_with fail
        refine(HN _).mono ?_
        rintro e w8 ⟨rfl,hb8⟩
        have O8:Hid (PM w z w8):=(O2.out).later hb8
        clear hb8 HN
        go_wp2_with (refine jak rfl _ _ rfl z noOrd noOrd rfl rfl O8.out.1 ?_;intro w9 h9 s9)
        refine bodyPost_ret (v:=.tuple #[.agg (jao noOrd).toArray,.int .i64 1]) (jaw Tryz.results30 _ _ z noOrd rfl h9.out.1) rfl ?_
        exact⟨noOrd,1,rfl,Or.inr ⟨rfl,rfl,P.out⟩,by rw [hz];exact O8.out.2.2.trans (h9.out.2.2 _ (Nat.le_refl _))⟩
       have hd0:d.isEmpty=false:=by cases d with|nil=>exact absurd rfl d0|cons a r=>rfl
       by_cases d10:10 < d.length
       case pos =>
        have P:Hid (jay s none):=PNO.out j x 0 HXJ.out (jpi fun m m0 m1 e=>by have:=(NUM.out m m0 m1 e).2.1;omega)
        have O2:Hid (PM w z w'):=I.out.2.1
        have hdi:(10:Int) < (d.length:Int):=by omega
        clear NUM PNO I DG PS d0
        go_wp2_with fail
        refine(HN _).mono ?_
        rintro e w8 ⟨rfl,hb8⟩
        have O8:Hid (PM w z w8):=(O2.out).later hb8
        clear hb8 HN
        go_wp2_with (refine jak rfl _ _ rfl z noOrd noOrd rfl rfl O8.out.1 ?_;intro w9 h9 s9)
        refine bodyPost_ret (v:=.tuple #[.agg (jao noOrd).toArray,.int .i64 1]) (jaw Tryz.results30 _ _ z noOrd rfl h9.out.1) rfl ?_
        exact⟨noOrd,1,rfl,Or.inr ⟨rfl,rfl,P.out⟩,by rw [hz];exact O8.out.2.2.trans (h9.out.2.2 _ (Nat.le_refl _))⟩
       have hdi:¬ ((10:Int) < (d.length:Int)):=by omega
       have HTy:=fun W=>HTR d (by omega) W
       have TN:Hid (Lib.trimS d digs=[]↔∀ c∈d,48≤c.toNat∧c.toNat≤57):=jsw d
       generalize Lib.trimS d digs=td at *
       clear HTR
       go_wp2_with fail
       refine(HTy _).mono ?_
       rintro e w6 ⟨rfl,hb6⟩
       have I6:Hid (NF w6 g3 f∧PM w z w6∧RdK cStr w6 b off (word (k+1)::ds)∧b < g3∧z < g3):=⟨N3.later I.out.1 hb6 (N3.lt I.out.1),I.out.2.1.later hb6,I.out.2.2.1.below hb6,I.out.2.2.2⟩
       clear hb6 I HTy
       by_cases t0:td=[]
       case neg =>
        have ht0:td.isEmpty=false:=by cases td with|nil=>exact absurd rfl t0|cons a r=>rfl
        have P:Hid (jay s none):=PNO.out j x 0 HXJ.out (jpi fun m m0 m1 e=>t0 (TN.out.2 (NUM.out m m0 m1 e).2.2.1))
        have O2:Hid (PM w z w6):=I6.out.2.1
        clear NUM PNO I6 DG PS d0 t0 TN
        go_wp2_with fail
        refine(HN _).mono ?_
        rintro e w8 ⟨rfl,hb8⟩
        have O8:Hid (PM w z w8):=(O2.out).later hb8
        clear hb8 HN
        go_wp2_with (refine jak rfl _ _ rfl z noOrd noOrd rfl rfl O8.out.1 ?_;intro w9 h9 s9)
        refine bodyPost_ret (v:=.tuple #[.agg (jao noOrd).toArray,.int .i64 1]) (jaw Tryz.results30 _ _ z noOrd rfl h9.out.1) rfl ?_
        exact⟨noOrd,1,rfl,Or.inr ⟨rfl,rfl,P.out⟩,by rw [hz];exact O8.out.2.2.trans (h9.out.2.2 _ (Nat.le_refl _))⟩
       have DD:Hid (∀ c∈d,48≤c.toNat∧c.toNat≤57):=TN.out.1 t0
       subst t0
       clear TN
       go_upto_region 25 with fail
       obtain⟨cap6,W7,hcv,hrd7,hb7,hlt7⟩:=jkk w6 d
       have NJ0:Hid (updF f j (valTo d 0)=f):=by
        show updF f j (valTo d 0)=f
        rw [jjz,← F0.out,jsu]
       have E7:Hid (NF W7 g3 (updF f j (valTo d 0))∧PM w z W7∧RdK cStr W7 b off (word (k+1)::ds)∧(∀ (i:Nat) c,d[i]?=some c→W7.cell? ⟨w6.heap.size,i,none⟩=some (.int .u8 (c.toNat:Int)))):=⟨by rw [NJ0.out];exact N3.later I6.out.1 hb7 (N3.lt I6.out.1),I6.out.2.1.later hb7,I6.out.2.2.1.below hb7,hrd7⟩
       have ORD:Hid (b < g3∧z < g3∧g3 < w6.heap.size∧2 < z):=⟨I6.out.2.2.2.1,I6.out.2.2.2.2,N3.lt I6.out.1,HGA.out⟩
       clear I6 hrd7 hb7 hlt7 NJ0 F0
       generalize w6.heap.size=gb at *
       go_wp2_with fail
       clear hcv
       go_loopg [110] d.length (fun ky s110 wq=>∃ i:Nat,s110=.int .i64 i∧i≤d.length∧d.length - i≤ky∧Hid (NF wq g3 (updF f j (valTo d i))∧PM w z wq∧RdK cStr wq b off (word (k+1)::ds)∧(∀ (i:Nat) c,d[i]?=some c→wq.cell? ⟨gb,i,none⟩=some (.int .u8 (c.toNat:Int)))))
       case atStart=>exact⟨0,rfl,Nat.zero_le _,by omega,E7⟩
       case round =>
        clear E7
        obtain⟨i,rfl,hi,hgi,Q⟩:=hrel
        by_cases hil:i < d.length
        ·obtain⟨c,hc⟩:∃ c,d[i]?=some c:=⟨d[i],List.getElem?_eq_getElem hil⟩
         have hcc:=Q.out.2.2.2 i c hc
         have hii:(i:Int) < (d.length:Int):=by omega
         have hdg:=DD.out c (List.mem_of_getElem? hc)
         have hcb:48≤(c.toNat:Int)∧(c.toNat:Int)≤57:=by omega
         have hv:=jip DD.out (by omega) (k:=i) (by omega)
         obtain⟨hn,hfz⟩:=Q.out.1.cell (j:=j) (by omega)
         rw [jq9] at hn
         have Q2:Hid (NF (wr.setCell ⟨g3,j,none⟩ (.int .i64 (10*valTo d i+(c.toNat:Int) - 48))) g3 (updF f j (valTo d (i+1)))∧PM w z (wr.setCell ⟨g3,j,none⟩ (.int .i64 (10*valTo d i+(c.toNat:Int) - 48)))∧RdK cStr (wr.setCell ⟨g3,j,none⟩ (.int .i64 (10*valTo d i+(c.toNat:Int) - 48))) b off (word (k+1)::ds)∧(∀ (i':Nat) c',d[i']?=some c'→(wr.setCell ⟨g3,j,none⟩ (.int .i64 (10*valTo d i+(c.toNat:Int) - 48))).cell? ⟨gb,i',none⟩=some (.int .u8 (c'.toNat:Int)))):=by
          obtain⟨o1,o2,o3,o4⟩:=ORD.out
          refine⟨?_,Q.out.2.1.set o2 o4 j _,juh Q.out.2.2.1 (by omega) _,fun i' c' h'=>?_⟩
          ·rw [jj0 hc]
           have:=Q.out.1.set (j:=j) (by omega) (10*valTo d i+(c.toNat:Int) - 48)
           rwa [jo6] at this
          ·rw [jfw (Below.heap_setCell _ _ _ _ (by show gb≠g3;omega))]
           exact Q.out.2.2.2 i' c' h'
         generalize valTo d i=v at *
         generalize (c.toNat:Int)=ci at *
         clear hc hdg Q
         go_wp2_with fail
         go_roundg (d.length - (i+1))
         case measure=>omega
         case rel=>exact⟨i+1,by go_num,by omega,Nat.le_refl _,Q2⟩
        ·have hie:i=d.length:=by omega
         subst hie
         have hv:=jip DD.out (by omega) (k:=d.length) (Nat.le_refl _)
         obtain⟨hn,hfz⟩:=Q.out.1.cell (j:=j) (by omega)
         rw [jq9] at hn
         have Q1:Hid (NF wr g3 (updF f j (valTo d d.length))∧PM w z wr∧RdK cStr wr b off (word (k+1)::ds)):=⟨Q.out.1,Q.out.2.1,Q.out.2.2.1⟩
         clear Q DD
         generalize valTo d d.length=v at *
         have CONT:Hid (∀ (n:Int) W,n=numOf x→Lib.itoa n=x→NF W g3 (updF f j n)→PM w z W→RdK cStr W b off (word (k+1)::ds)→DigIs ds (j+1) (updF f j n 0) (updF f j n 1) (updF f j n 2)):=fun n W e hi _ _ _=>jva DG.out (by omega) HXJ.out hi
         have STOP:Hid (∀ n:Int,n=numOf x→Lib.itoa n≠x→jay s none):=fun n e hi=>PNO.out j x n HXJ.out (jpi fun m m0 m1 em=>hi (by rw [e,(NUM.out m m0 m1 em).2.2.2];exact em))
         clear NUM DG PNO PS
         by_cases hdx:d=x
         ·subst hdx
          have hnv:v=numOf d:=by have:=NV.out;rw [if_pos rfl] at this;exact this.symm
          have HNV:Hid (v=numOf d):=hnv
          clear hnv NV
          go_wp2_with fail
          refine(HD v (by omega) (by omega) _).mono ?_
          rintro e w8 ⟨rfl,hb8⟩
          have Q8:Hid (NF w8 g3 (updF f j v)∧PM w z w8∧RdK cStr w8 b off (word (k+1)::ds)):=⟨N3.later Q1.out.1 hb8 (N3.lt Q1.out.1),Q1.out.2.1.later hb8,Q1.out.2.2.below hb8⟩
          clear hb8 Q1 hn hfz HD
          by_cases heq:Lib.itoa v=d
          ·have D2:Hid (DigIs ds (j+1) (updF f j v 0) (updF f j v 1) (updF f j v 2)):=CONT.out v w8 HNV.out heq Q8.out.1 Q8.out.2.1 Q8.out.2.2
           have R2:Hid (b < g3∧z < g3):=⟨ORD.out.1,ORD.out.2.1⟩
           rw [heq]
           clear heq CONT STOP HNV
           go_wp2_with fail
           go_roundg (ds.length - (j+1))
           case measure=>omega
           case rel=>exact⟨j+1,updF f j v,by go_num,by omega,Nat.le_refl _,D2,Q8.out.1,Q8.out.2.1,Q8.out.2.2,R2.out⟩
          ·have P:Hid (jay s none):=STOP.out v HNV.out heq
           have hneq:(Lib.itoa v == d)=false:=beq_eq_false_iff_ne.2 heq
           generalize Lib.itoa v=y at *
           clear heq CONT STOP HNV
           go_wp2_with fail
           refine(HN _).mono ?_
           rintro e w8 ⟨rfl,hb8⟩
           have O8:Hid (PM w z w8):=(Q8.out.2.1).later hb8
           clear hb8 HN
           go_wp2_with (refine jak rfl _ _ rfl z noOrd noOrd rfl rfl O8.out.1 ?_;intro w9 h9 s9)
           refine bodyPost_ret (v:=.tuple #[.agg (jao noOrd).toArray,.int .i64 1]) (jaw Tryz.results30 _ _ z noOrd rfl h9.out.1) rfl ?_
           exact⟨noOrd,1,rfl,Or.inr ⟨rfl,rfl,P.out⟩,by rw [hz];exact O8.out.2.2.trans (h9.out.2.2 _ (Nat.le_refl _))⟩
         ·have hnv:-v=numOf x:=by have:=NV.out;rw [if_neg hdx] at this;exact this.symm
          have HNV:Hid (-v=numOf x):=hnv
          have hdn:(d == x)=false:=beq_eq_false_iff_ne.2 hdx
          have Q7:Hid (NF (wr.setCell ⟨g3,j,none⟩ (.int .i64 (-v))) g3 (updF f j (-v))∧PM w z (wr.setCell ⟨g3,j,none⟩ (.int .i64 (-v)))∧RdK cStr (wr.setCell ⟨g3,j,none⟩ (.int .i64 (-v))) b off (word (k+1)::ds)):=by
           obtain⟨o1,o2,o3,o4⟩:=ORD.out
           refine⟨?_,Q1.out.2.1.set o2 o4 j _,juh Q1.out.2.2 (by omega) _⟩
           have:=Q1.out.1.set (j:=j) (by omega) (-v)
           rwa [jo6] at this
          clear hnv NV hdx Q1
          go_wp2_with fail
          refine(HD (-v) (by omega) (by omega) _).mono ?_
          rintro e w8 ⟨rfl,hb8⟩
          have Q8:Hid (NF w8 g3 (updF f j (-v))∧PM w z w8∧RdK cStr w8 b off (word (k+1)::ds)):=⟨N3.later Q7.out.1 hb8 (N3.lt Q7.out.1),Q7.out.2.1.later hb8,Q7.out.2.2.below hb8⟩
          clear hb8 Q7 hn hfz HD
          by_cases heq:Lib.itoa (-v)=x
          ·have D2:Hid (DigIs ds (j+1) (updF f j (-v) 0) (updF f j (-v) 1) (updF f j (-v) 2)):=CONT.out (-v) w8 HNV.out heq Q8.out.1 Q8.out.2.1 Q8.out.2.2
           have R2:Hid (b < g3∧z < g3):=⟨ORD.out.1,ORD.out.2.1⟩
           rw [heq]
           clear heq CONT STOP HNV
           go_wp2_with fail
           go_roundg (ds.length - (j+1))
           case measure=>omega
           case rel=>exact⟨j+1,updF f j (-v),by go_num,by omega,Nat.le_refl _,D2,Q8.out.1,Q8.out.2.1,Q8.out.2.2,R2.out⟩
          ·have P:Hid (jay s none):=STOP.out (-v) HNV.out heq
           have hneq:(Lib.itoa (-v) == x)=false:=beq_eq_false_iff_ne.2 heq
           generalize Lib.itoa (-v)=y at *
           clear heq CONT STOP HNV
           go_wp2_with fail
           refine(HN _).mono ?_
           rintro e w8 ⟨rfl,hb8⟩
           have O8:Hid (PM w z w8):=(Q8.out.2.1).later hb8
           clear hb8 HN
           go_wp2_with (refine jak rfl _ _ rfl z noOrd noOrd rfl rfl O8.out.1 ?_;intro w9 h9 s9)
           refine bodyPost_ret (v:=.tuple #[.agg (jao noOrd).toArray,.int .i64 1]) (jaw Tryz.results30 _ _ z noOrd rfl h9.out.1) rfl ?_
           exact⟨noOrd,1,rfl,Or.inr ⟨rfl,rfl,P.out⟩,by rw [hz];exact O8.out.2.2.trans (h9.out.2.2 _ (Nat.le_refl _))⟩
      ·have hje:j=ds.length:=by omega
       subst hje
       have T:Hid (jfx (word (k+1)::ds) ⟨(k:Int)+1,f 0,f 1,f 2⟩ (jcm ⟨(k:Int)+1,f 0,f 1,f 2⟩)):=by
        have h:=jl1 (x:=word (k+1)) KI.out (by omega) HDL.out DG.out
        rw [show((k+1:Nat):Int)=(k:Int)+1 by omega] at h
        exact h
       have n0:=(I.out.1.cell (j:=0) (by omega)).1
       have n1:=(I.out.1.cell (j:=1) (by omega)).1
       have n2:=(I.out.1.cell (j:=2) (by omega)).1
       have M6:Hid (PM w z wr):=I.out.2.1
       generalize f 0=na at *
       generalize f 1=nb at *
       generalize f 2=nc at *
       clear I DG KI HDL
       go_upto_region 36 with (first|(refine jat rfl rfl 17 rfl ?_;intro w7 h7 s7)|(refine jak rfl _ _ rfl wr.heap.size noOrd ⟨(k:Int)+1,na,nb,nc⟩ rfl rfl h7.out.1 ?_;intro w8 h8 s8))
       have M8:Hid (PM w z w8∧LOB w8 wr.heap.size ⟨(k:Int)+1,na,nb,nc⟩):=by
        have l6:=M6.out.lt
        have m7:=M6.out.later h7.out.2
        exact⟨⟨(h8.out.2.1 z (by omega)).trans m7.1,m7.2.1.same (h8.out.2.1 _ (by have:=HGA.out;omega)),m7.2.2.trans (h8.out.2.2 z (by omega))⟩,h8.out.1⟩
       clear h7 s7 h8 s8 M6 n0 n1 n2
       generalize wr.heap.size=go at *
       have HOX:=fun W h=>HO ⟨(k:Int)+1,na,nb,nc⟩ W h
       clear HO
       generalize hgb:jcm ⟨(k:Int)+1,na,nb,nc⟩=gb at *
       go_wp2_with (refine jc6 rfl _ rfl go ⟨(k:Int)+1,na,nb,nc⟩ rfl M8.out.2 ?_)
       refine(HOX _ M8.out.1.2.1).mono ?_
       rintro e w9 ⟨rfl,hb9⟩
       have M9:Hid (PM w z w9∧LOB w9 go ⟨(k:Int)+1,na,nb,nc⟩):=⟨M8.out.1.later hb9,M8.out.2.later hb9 M8.out.2.lt⟩
       clear hb9 M8 HOX
       cases gb with
       | false =>
        have P:Hid (jay s none):=PS.out none (fun o h=>by cases h) fun _=>by
         rcases T.out with ⟨h,_⟩|⟨_,h⟩
         ·cases h
         ·exact h
        clear T PS
        go_wp2_with fail
        refine(HN _).mono ?_
        rintro e wA ⟨rfl,hbA⟩
        have O8:Hid (PM w z wA):=M9.out.1.later hbA
        clear hbA HN
        go_wp2_with (refine jak rfl _ _ rfl z noOrd noOrd rfl rfl O8.out.1 ?_;intro wB hB sB)
        refine bodyPost_ret (v:=.tuple #[.agg (jao noOrd).toArray,.int .i64 1]) (jaw Tryz.results30 _ _ z noOrd rfl hB.out.1) rfl ?_
        exact⟨noOrd,1,rfl,Or.inr ⟨rfl,rfl,P.out⟩,by rw [hz];exact O8.out.2.2.trans (hB.out.2.2 _ (Nat.le_refl _))⟩
       | true =>
        have P:Hid (jay s (some ⟨(k:Int)+1,na,nb,nc⟩)):=PS.out (some _) (fun o h=>by
         injection h with h
         subst h
         rcases T.out with ⟨_,h⟩|⟨h,_⟩
         ·exact h
         ·cases h) fun h=>by cases h
        clear T PS
        go_wp2_with (first|(refine jc6 rfl _ rfl go ⟨(k:Int)+1,na,nb,nc⟩ rfl M9.out.2 ?_)|(refine jak rfl _ _ rfl z noOrd ⟨(k:Int)+1,na,nb,nc⟩ rfl rfl M9.out.1.1 ?_;intro wB hB sB))
        refine bodyPost_ret (v:=.tuple #[.agg (jao ⟨(k:Int)+1,na,nb,nc⟩).toArray,.int .i64 0]) (jaw Tryz.results30 _ _ z ⟨(k:Int)+1,na,nb,nc⟩ rfl hB.out.1) rfl ?_
        exact⟨_,0,rfl,Or.inl ⟨rfl,P.out⟩,by rw [hz];exact M9.out.1.2.2.trans (hB.out.2.2 _ (Nat.le_refl _))⟩
end Go.Proofs.YtcmdoeledmkfmacGreatDoor
