/- Texts of this claim, in one: RefTMa RefTMb. -/
import Derived.Test.YtcmdoeledmkfmacGreatDoorSI
set_option linter.unusedSimpArgs false
set_option linter.unusedVariables false
set_option maxHeartbeats 40000000
set_option maxRecDepth 100000
namespace Go.Proofs.YtcmdoeledmkfmacGreatDoor
open Go.RowKit
theorem jpf (v:Value) (p:Pt) (kd a b c:Int) (w:World) (hv:PtV w v p) (hp:jaj p) (hc:(¬ (1≤kd∧kd≤8))∨(kd=8)∨(kd=7∧¬ (0≤a∧a≤3))∨(kd=7∧0≤a∧a≤3)) :
  Calls Tryz.prog 35 #[v,.agg #[.int .i64 kd,.int .i64 a,.int .i64 b,.int .i64 c]] w fun e w'=>jbe w (ja0 (jai p ⟨kd,a,b,c⟩) p) e w':=by
 have HC:Hid ((¬ (1≤kd∧kd≤8))∨(kd=8)∨(kd=7∧¬ (0≤a∧a≤3))∨(kd=7∧0≤a∧a≤3)):=hc
 clear hc
 obtain⟨vs,rfl,hsl,h4,hmx⟩:=hv
 have HV:Hid (PtV w (.agg (jaa p vs).toArray) p):=⟨vs,rfl,hsl,h4,hmx⟩
 have HS0:Hid (SlK cShip w vs p.ships):=hsl
 have on0:vs.oneCell'=true:=by obtain⟨a,cap,rfl,_⟩:=hsl;rfl
 have X1:=PBox.new w p vs h4
 have HG:=fun W h=>jbx (.agg (jaa p vs).toArray) p W h
 have HW:=fun W h=>jb3 (.agg (jaa p vs).toArray) p W h
 obtain⟨va,vcap,hve⟩:∃ a cap,vs=.slice a p.ships.length cap:=by obtain⟨a,cap,e,_⟩:=hsl;exact⟨a,cap,e⟩
 subst hve
 clear hsl
 generalize hPC:(jaa p (.slice va p.ships.length vcap)).toArray=PC at *
 have HPC:Hid ((jaa p (.slice va p.ships.length vcap)).toArray=PC):=hPC
 clear hPC
 have hz1:(w.alloc (.cells PC 41)).heap.size=w.heap.size+1:=by simp
 have O1:=OBox.new (w.alloc (.cells PC 41)) ⟨kd,a,b,c⟩
 rw [hz1] at O1
 have hz2:((w.alloc (.cells PC 41)).alloc (.cells #[.int .i64 kd,.int .i64 a,.int .i64 b,.int .i64 c] 61)).heap.size=w.heap.size+1+1:=by simp
 have X0:Hid (PBox ((w.alloc (.cells PC 41)).alloc (.cells #[.int .i64 kd,.int .i64 a,.int .i64 b,.int .i64 c] 61)) w.heap.size p (.slice va p.ships.length vcap)∧OBox ((w.alloc (.cells PC 41)).alloc (.cells #[.int .i64 kd,.int .i64 a,.int .i64 b,.int .i64 c] 61)) (w.heap.size+1) ⟨kd,a,b,c⟩):=⟨X1.later ((Below.refl _ _).alloc (Nat.le_refl _) _) X1.lt,O1⟩
 have B0:Hid (Below w.heap.size w ((w.alloc (.cells PC 41)).alloc (.cells #[.int .i64 kd,.int .i64 a,.int .i64 b,.int .i64 c] 61))):=((Below.refl _ w).alloc (Nat.le_refl _) _).alloc (by omega) _
 have HZ2:Hid (((w.alloc (.cells PC 41)).alloc (.cells #[.int .i64 kd,.int .i64 a,.int .i64 b,.int .i64 c] 61)).heap.size=w.heap.size+1+1):=hz2
 clear X1 O1 hz1 hz2
 generalize hW0:(w.alloc (.cells PC 41)).alloc (.cells #[.int .i64 kd,.int .i64 a,.int .i64 b,.int .i64 c] 61)=W0 at *
 go_enter Tryz.func35,Tryz.ntmps35
 go_upto_region 1 with (first|(rw [hW0])|(refine jah rfl rfl 4 rfl ?_;intro w1 hw1 hs1))
 rw [HZ2.out] at hw1 hs1 ⊢
 have T1:Hid (Below w.heap.size w w1∧PBox w1 w.heap.size p (.slice va p.ships.length vcap)∧OBox w1 (w.heap.size+1) ⟨kd,a,b,c⟩∧PBox w1 (w.heap.size+1+1) jaf (.slice none 0 0)∧w1.heap.size=w.heap.size+1+1+1):=⟨B0.out.trans (hw1.out.2.mono (by omega)),X0.out.1.later hw1.out.2 (by omega),X0.out.2.later hw1.out.2 (by omega),hw1.out.1,hs1⟩
 clear hw1 hs1 X0 B0 HZ2 hW0
 go_wp2_with (refine jac rfl _ rfl w.heap.size p (.slice va p.ships.length vcap) rfl T1.out.2.1 ?_;rw [HPC.out])
 refine(HG _ (HV.out.below T1.out.1)).mono ?_
 rintro e w2 ⟨⟨b2,rfl,hb2⟩,hw2⟩
 have T2:Hid (Below w.heap.size w w2∧PBox w2 w.heap.size p (.slice va p.ships.length vcap)∧OBox w2 (w.heap.size+1) ⟨kd,a,b,c⟩∧PBox w2 (w.heap.size+1+1) jaf (.slice none 0 0)∧w.heap.size+1+1+1≤w2.heap.size):=⟨T1.out.1.trans (hw2.mono (by have:=T1.out.2.2.2.2;omega)),T1.out.2.1.later hw2 T1.out.2.1.lt,T1.out.2.2.1.later hw2 T1.out.2.2.1.lt,T1.out.2.2.2.1.later hw2 T1.out.2.2.2.1.lt,by have:=T1.out.2.2.2.2;have:=hw2.size;omega⟩
 have HB:Hid (b2=true↔jaj p):=hb2
 clear T1 hw2 hb2 HG
 obtain rfl:b2=true:=HB.out.2 hp
 have HP:Hid (jaj p):=hp
 have hlen:p.ships.length < 15:=hp.port.len
 obtain⟨hnow0,hnow1⟩:=hp.port.now
 clear hp HB
 go_upto_region 4 with fail
 go_wp2_with (refine jac rfl _ rfl w.heap.size p (.slice va p.ships.length vcap) rfl T2.out.2.1 ?_;rw [HPC.out])
 refine(HW _ (HV.out.below T2.out.1)).mono ?_
 rintro e w3 ⟨vq,rfl,hro,hb3⟩
 have T3:Hid (Below w.heap.size w w3∧PBox w3 w.heap.size p (.slice va p.ships.length vcap)∧OBox w3 (w.heap.size+1) ⟨kd,a,b,c⟩∧PBox w3 (w.heap.size+1+1) jaf (.slice none 0 0)∧w3.ownsRow (w.heap.size+1+1+1) 46 6 vq p.ships.length (jae cShip p.ships)∧w.heap.size+1+1+1≤w3.heap.size):=⟨T2.out.1.trans (hb3.mono (by have:=T2.out.2.2.2.2;omega)),T2.out.2.1.later hb3 T2.out.2.1.lt,T2.out.2.2.1.later hb3 T2.out.2.2.1.lt,T2.out.2.2.2.1.later hb3 T2.out.2.2.2.1.lt,jar hro T2.out.2.2.2.2,by have:=T2.out.2.2.2.2;have:=hb3.size;omega⟩
 have on:=jam hro
 obtain⟨xq,cq,hvq⟩:=jan hro
 subst hvq
 clear T2 hro hb3 HW
 go_upto_region 5 with (first|(refine jah rfl rfl 8 rfl ?_;intro w4 hw4 hs4)|(refine jab rfl _ _ rfl w3.heap.size jaf p (.slice none 0 0) (.slice xq p.ships.length cq) rfl rfl hw4.out.1 h4 on ?_;intro w5 hw5 hs5))
 have EX:Hid (TB w p (.slice va p.ships.length vcap) ⟨kd,a,b,c⟩ w3.heap.size p (.slice xq p.ships.length cq) w5):=by
  have hb:Below w3.heap.size w3 w5:=hw4.out.2.trans (hw5.out.2.2 _ (Nat.le_refl _))
  have hz:=T3.out.2.2.2.2.2
  have hzz:=hb.size
  exact⟨T3.out.1.trans (hb.mono (by omega)),T3.out.2.1.later hb (by omega),T3.out.2.2.1.later hb (by omega),T3.out.2.2.2.1.later hb (by omega),hw5.out.1,ownsRow_later T3.out.2.2.2.2.1 hb,by omega,by omega⟩
 have GR:Hid ((Value.slice xq p.ships.length cq).ownBlock≠some w3.heap.size):=fun e=>by
  have:=(T3.out.2.2.2.2.1.lt _ e).2
  omega
 generalize w3.heap.size=g at *
 clear hw4 hw5 hs4 hs5 T3 on
 obtain⟨oc0,oc1,oc2,oc3⟩:=EX.out.ord.cells
 obtain⟨pc0,pc1,pc14,pc15⟩:=EX.out.box.cells
 simp only at oc0 oc1 oc2 oc3
 have FIN:Hid (∀ er,er≠0→∀ w',ja0 (jai p ⟨kd,a,b,c⟩) p 0 er p→Below w.heap.size w w'→jbe w (ja0 (jai p ⟨kd,a,b,c⟩) p) (.returned (.tuple #[.agg (jaa p (.slice va p.ships.length vcap)).toArray,.int .i64 0,.int .i64 er])) w'):=fun er hne w' hT hb=>⟨p,(.slice va p.ships.length vcap),0,er,rfl,hT,h4,hmx,HS0.out.below hb,hb,fun h=>absurd h hne⟩
 have REF:Hid (∀ er,er≠0→(∃ n q',jai p ⟨kd,a,b,c⟩ n er q')→ja0 (jai p ⟨kd,a,b,c⟩) p 0 er p):=fun er h0 ⟨n,q',h⟩=>Or.inr ⟨HP.out,n,er,q',h,Or.inl ⟨h0,rfl,rfl,rfl⟩⟩
 clear HS0 HV
 have hc:=HC.out
 clear HC
 rcases hc with hc|hc|hc|hc
 ·have hk:=hc
  clear hc
  have j1:(kd == 1)=false:=by simp;omega
  have j2:(kd == 2)=false:=by simp;omega
  have j3:(kd == 3)=false:=by simp;omega
  have j4:(kd == 4)=false:=by simp;omega
  have j5:(kd == 5)=false:=by simp;omega
  have j6:(kd == 6)=false:=by simp;omega
  have j7:(kd == 7)=false:=by simp;omega
  have j8:(kd == 8)=false:=by simp;omega
  go_wp2_with (go_at_call 31;refine(jag _ _ _ _).mono ?_;rintro e w' ⟨rfl,rfl⟩)
  go_wp2_with (first|(go_at_call 57;refine(jax w.heap.size p (.slice va p.ships.length vcap) _ _ EX.out.box on0).mono ?_;rintro e we ⟨rfl,hbe⟩;have EY:Hid (TB w p (.slice va p.ships.length vcap) ⟨kd,a,b,c⟩ g p (.slice xq p.ships.length cq) we):=EX.out.later hbe;clear hbe)|(refine jab rfl _ _ rfl (w.heap.size+1+1) jaf p (.slice none 0 0) (.slice va p.ships.length vcap) rfl rfl EY.out.out h4 on0 ?_;intro w9 hw9 hs9))
  refine bodyPost_ret (v:=.tuple #[.agg (jaa p (.slice va p.ships.length vcap)).toArray,.int .i64 0,.int .i64 1]) (jad Tryz.results35 _ _ (w.heap.size+1+1) p (.slice va p.ships.length vcap) rfl hw9.out.1) rfl ?_
  exact FIN.out 1 (by decide) _ (REF.out 1 (by decide) ⟨0,p,by unfold jai;rw [if_neg (by simp only;omega),if_neg (by simp only;omega),if_neg (by simp only;omega),if_neg (by simp only;omega),if_neg (by simp only;omega)];exact⟨rfl,rfl,rfl⟩⟩) (EY.out.below.trans (hw9.out.2.2 _ (by omega)))
 ·have HK:Hid (kd=8):=hc
  clear hc
  have j1:(kd == 1)=false:=by have hk:=HK.out;simp;omega
  have j2:(kd == 2)=false:=by have hk:=HK.out;simp;omega
  have j3:(kd == 3)=false:=by have hk:=HK.out;simp;omega
  have j4:(kd == 4)=false:=by have hk:=HK.out;simp;omega
  have j5:(kd == 5)=false:=by have hk:=HK.out;simp;omega
  have j6:(kd == 6)=false:=by have hk:=HK.out;simp;omega
  have j7:(kd == 7)=false:=by have hk:=HK.out;simp;omega
  have j8:(kd == 8)=true:=by have hk:=HK.out;simp;exact hk
  rcases jbz a 0 16 with b1|b1
  case inr =>
   have UN:Hid (jai p ⟨kd,a,b,c⟩ 0 2 p):=by have hk:=HK.out;unfold jai;rw [if_neg (by simp only;omega),if_neg (by simp only;omega),if_neg (by simp only;omega),if_neg (by simp only;omega),if_pos hk];exact⟨rfl,Or.inr ⟨jb0 b1,rfl,rfl⟩⟩
   go_wp2_with (go_at_call 31;refine(jag _ _ _ _).mono ?_;rintro e w' ⟨rfl,rfl⟩)
   go_wp2_with (first|(go_at_call 57;refine(jax w.heap.size p (.slice va p.ships.length vcap) _ _ EX.out.box on0).mono ?_;rintro e we ⟨rfl,hbe⟩;have EY:Hid (TB w p (.slice va p.ships.length vcap) ⟨kd,a,b,c⟩ g p (.slice xq p.ships.length cq) we):=EX.out.later hbe;clear hbe)|(refine jab rfl _ _ rfl (w.heap.size+1+1) jaf p (.slice none 0 0) (.slice va p.ships.length vcap) rfl rfl EY.out.out h4 on0 ?_;intro w9 hw9 hs9))
   refine bodyPost_ret (v:=.tuple #[.agg (jaa p (.slice va p.ships.length vcap)).toArray,.int .i64 0,.int .i64 2]) (jad Tryz.results35 _ _ (w.heap.size+1+1) p (.slice va p.ships.length vcap) rfl hw9.out.1) rfl ?_
   exact FIN.out 2 (by decide) _ (REF.out 2 (by decide) ⟨0,p,UN.out⟩) (EY.out.below.trans (hw9.out.2.2 _ (by omega)))
  have OI0:Hid (jai p ⟨kd,a,b,c⟩ 0 0 { p with shut:=a }):=by have hk:=HK.out;unfold jai;rw [if_neg (by simp only;omega),if_neg (by simp only;omega),if_neg (by simp only;omega),if_neg (by simp only;omega),if_pos hk];exact⟨rfl,Or.inl ⟨jba b1,rfl,rfl⟩⟩
  have c14:=EX.out.q.1.cells.2.2.1
  have f14:=EX.out.q.1.frozen 14
  have EQ0:Hid (TB w p (.slice va p.ships.length vcap) ⟨kd,a,b,c⟩ g { p with shut:=a } (.slice xq p.ships.length cq) (w5.setCell ⟨g,14,none⟩ (.int .i64 a))):=by
   have H:=EX.out.q
   have hb:Below (w.heap.size+1+1+1) w5 (w5.setCell ⟨g,14,none⟩ (.int .i64 a)):=(Below.refl _ w5).setCell (p:=⟨g,14,none⟩) H.2.2.2 _
   exact EX.out.turn hb ⟨H.1.setShut a,jcq H.1 H.2.1,Nat.le_trans H.2.2.1 hb.size,H.2.2.2⟩
  go_upto_region 52 with (go_at_call 31;refine(jag _ _ _ _).mono ?_;rintro e w' ⟨rfl,rfl⟩)
  clear c14 f14 EX oc0 oc1 oc2 oc3 pc0 pc1 pc14 pc15
  generalize ({ p with shut:=a }:Pt)=q' at OI0 EQ0
  generalize (.slice xq p.ships.length cq:Value)=vq' at EQ0
  generalize w'.setCell ⟨g,14,none⟩ (.int .i64 a)=W' at *
  have OI:=OI0
  have EQ:=EQ0
  clear OI0 EQ0 GR
  have Q0:Hid (ja4 q'∧(okTo q' 300=true↔jaj q')):=⟨jbl HP.out OI.out,jdw (jbl HP.out OI.out)⟩
  have onq:vq'.oneCell'=true:=jam EQ.out.q.2.1
  have hq4:q'.kept.length=4:=EQ.out.q.1.1
  have hql:q'.ships.length≤2932031007317:=by have:=Q0.out.1.len;omega
  have HB:=fun W h=>jb9 (.agg (jaa q' vq').toArray) q' W h Q0.out.1.baseIn
  have PV:Hid (PtV W' (.agg (jaa q' vq').toArray) q'):=⟨vq',rfl,jaz EQ.out.q.2.1,hq4,hql⟩
  generalize hQC:(jaa q' vq').toArray=QC at HB PV
  have HQC:Hid ((jaa q' vq').toArray=QC):=hQC
  clear hQC
  go_wp2_with (refine jac rfl _ rfl g q' vq' rfl EQ.out.q.1 ?_;rw [HQC.out])
  refine(HB _ PV.out).mono ?_
  rintro e wf ⟨f,rfl,hf3,_,hbf⟩
  have EF:Hid (TB w p (.slice va p.ships.length vcap) ⟨kd,a,b,c⟩ g q' vq' wf):=EQ.out.later hbf
  clear hbf EQ HB PV
  generalize hFA:(ic f).toArray=FA at *
  have HFA:Hid ((ic f).toArray=FA):=hFA
  clear hFA
  generalize okTo q' 300=ok at *
  go_upto_region 53 with (first|(refine ja2 rfl rfl 12 rfl ?_;intro wg hwg hsg)|(refine ja1 rfl _ _ rfl wf.heap.size zero300 f rfl (by show Value.agg FA=_;rw [HFA.out]) hwg.out.1 hf3 ?_;intro wh hwh hsh))
  have EX:Hid (TB w p (.slice va p.ships.length vcap) ⟨kd,a,b,c⟩ g q' vq' wh):=EF.out.later (hwg.out.2.trans (hwh.out.2.2 _ (Nat.le_refl _)))
  clear hwg hwh hsg hsh EF
  cases ok
  ·have NP:Hid (¬ jaj q'):=fun h=>by have:=Q0.out.2.2 h;cases this
   go_wp2_with (first|(go_at_call 57;refine(jax w.heap.size p (.slice va p.ships.length vcap) _ _ EX.out.box on0).mono ?_;rintro e we ⟨rfl,hbe⟩;have EY:Hid (TB w p (.slice va p.ships.length vcap) ⟨kd,a,b,c⟩ g q' vq' we):=EX.out.later hbe;clear hbe)|(refine jab rfl _ _ rfl (w.heap.size+1+1) jaf p (.slice none 0 0) (.slice va p.ships.length vcap) rfl rfl EY.out.out h4 on0 ?_;intro w9 hw9 hs9))
   refine bodyPost_ret (v:=.tuple #[.agg (jaa p (.slice va p.ships.length vcap)).toArray,.int .i64 0,.int .i64 6]) (jad Tryz.results35 _ _ (w.heap.size+1+1) p (.slice va p.ships.length vcap) rfl hw9.out.1) rfl ?_
   exact FIN.out 6 (by decide) _ (Or.inr ⟨HP.out,0,0,q',OI.out,Or.inr (Or.inl ⟨rfl,NP.out,rfl,rfl,rfl⟩)⟩) (EY.out.below.trans (hw9.out.2.2 _ (by omega)))
  ·have YP:Hid (jaj q'):=Q0.out.2.1 rfl
   go_wp2_with (first|(refine jac rfl _ rfl g q' vq' rfl EX.out.q.1 ?_)|(refine jab rfl _ _ rfl (w.heap.size+1+1) jaf q' (.slice none 0 0) vq' rfl rfl EX.out.out hq4 onq ?_;intro w9 hw9 hs9))
   refine bodyPost_ret (v:=.tuple #[.agg (jaa q' vq').toArray,.int .i64 0,.int .i64 0]) (jad Tryz.results35 _ _ (w.heap.size+1+1) q' vq' rfl hw9.out.1) rfl ?_
   exact⟨q',vq',0,0,rfl,Or.inr ⟨HP.out,0,0,q',OI.out,Or.inr (Or.inr ⟨rfl,YP.out,rfl,rfl,rfl⟩)⟩,hq4,hql,jaz (jal EX.out.q.2.1 (fun k hk=>hw9.out.2.1 k (by omega))),EX.out.below.trans (hw9.out.2.2 _ (by omega)),fun _=>jc0 EX.out.q.2.1 (by omega)⟩
 ·obtain⟨hkd,ha⟩:=hc
  have HK:Hid (kd=7):=hkd
  clear hkd
  have j1:(kd == 1)=false:=by have hk:=HK.out;simp;omega
  have j2:(kd == 2)=false:=by have hk:=HK.out;simp;omega
  have j3:(kd == 3)=false:=by have hk:=HK.out;simp;omega
  have j4:(kd == 4)=false:=by have hk:=HK.out;simp;omega
  have j5:(kd == 5)=false:=by have hk:=HK.out;simp;omega
  have j6:(kd == 6)=false:=by have hk:=HK.out;simp;omega
  have j7:(kd == 7)=true:=by have hk:=HK.out;simp;exact hk
  have j8:(kd == 8)=false:=by have hk:=HK.out;simp;omega
  have b1:inR a 0 3=false:=decide_eq_false ha
  have UN:Hid (jai p ⟨kd,a,b,c⟩ 0 3 p):=by have hk:=HK.out;unfold jai;rw [if_neg (by simp only;omega),if_neg (by simp only;omega),if_neg (by simp only;omega),if_pos hk];exact Or.inl ⟨ha,rfl,rfl,rfl⟩
  clear ha
  go_wp2_with (go_at_call 31;refine(jag _ _ _ _).mono ?_;rintro e w' ⟨rfl,rfl⟩)
  go_wp2_with (first|(go_at_call 57;refine(jax w.heap.size p (.slice va p.ships.length vcap) _ _ EX.out.box on0).mono ?_;rintro e we ⟨rfl,hbe⟩;have EY:Hid (TB w p (.slice va p.ships.length vcap) ⟨kd,a,b,c⟩ g p (.slice xq p.ships.length cq) we):=EX.out.later hbe;clear hbe)|(refine jab rfl _ _ rfl (w.heap.size+1+1) jaf p (.slice none 0 0) (.slice va p.ships.length vcap) rfl rfl EY.out.out h4 on0 ?_;intro w9 hw9 hs9))
  refine bodyPost_ret (v:=.tuple #[.agg (jaa p (.slice va p.ships.length vcap)).toArray,.int .i64 0,.int .i64 3]) (jad Tryz.results35 _ _ (w.heap.size+1+1) p (.slice va p.ships.length vcap) rfl hw9.out.1) rfl ?_
  exact FIN.out 3 (by decide) _ (REF.out 3 (by decide) ⟨0,p,UN.out⟩) (EY.out.below.trans (hw9.out.2.2 _ (by omega)))
 ·obtain⟨hkd,hc⟩:=hc
  obtain⟨j,rfl⟩:∃ j:Nat,a=j:=⟨a.toNat,by omega⟩
  have hj:j < 4:=by omega
  have HK:Hid (kd=7):=hkd
  clear hkd hc
  have j1:(kd == 1)=false:=by have hk:=HK.out;simp;omega
  have j2:(kd == 2)=false:=by have hk:=HK.out;simp;omega
  have j3:(kd == 3)=false:=by have hk:=HK.out;simp;omega
  have j4:(kd == 4)=false:=by have hk:=HK.out;simp;omega
  have j5:(kd == 5)=false:=by have hk:=HK.out;simp;omega
  have j6:(kd == 6)=false:=by have hk:=HK.out;simp;omega
  have j7:(kd == 7)=true:=by have hk:=HK.out;simp;exact hk
  have j8:(kd == 8)=false:=by have hk:=HK.out;simp;omega
  have h4k:p.kept.length=4:=h4
  obtain⟨k,hk0⟩:∃ k,p.kept[j]?=some k:=⟨p.kept[j]'(by omega),List.getElem?_eq_getElem _⟩
  have HKK:Hid (p.kept[j]?=some k):=hk0
  have IK:Hid (jb2 k):=HP.out.port.kept k (List.mem_of_getElem? hk0)
  clear hk0
  have CP:∀ g',PBox w5 g' p (.slice va p.ships.length vcap)→w5.cell? ⟨g',2+j*3,none⟩=some (.int .i64 k.wd)∧w5.cell? ⟨g',2+j*3+1,none⟩=some (.int .i64 k.fr)∧w5.cell? ⟨g',2+j*3+2,none⟩=some (.int .i64 k.to):=fun g' H=>by
   obtain⟨a',cap,e,_,hr⟩:=H.slKept
   injection e with e1 e2 e3
   rcases hr with hr|⟨b',off,hb,hr⟩
   ·rw [hr] at h4k;cases h4k
   ·rw [← e1] at hb
    injection hb with hb
    injection hb with h1 h2
    subst h1 h2
    exact hr.kp HKK.out
  have CQ:∀ g',PBox w5 g' p (.slice xq p.ships.length cq)→w5.cell? ⟨g',2+j*3,none⟩=some (.int .i64 k.wd)∧w5.cell? ⟨g',2+j*3+1,none⟩=some (.int .i64 k.fr)∧w5.cell? ⟨g',2+j*3+2,none⟩=some (.int .i64 k.to):=fun g' H=>by
   obtain⟨a',cap,e,_,hr⟩:=H.slKept
   injection e with e1 e2 e3
   rcases hr with hr|⟨b',off,hb,hr⟩
   ·rw [hr] at h4k;cases h4k
   ·rw [← e1] at hb
    injection hb with hb
    injection hb with h1 h2
    subst h1 h2
    exact hr.kp HKK.out
  obtain⟨c0,c1,c2⟩:=CP _ EX.out.box
  obtain⟨d0,d1,d2⟩:=CQ _ EX.out.q.1
  clear CP CQ
  have hj3:(j:Int) < 4:=by omega
  have hj0:(0:Int)≤(j:Int):=by omega
  have b1:inR (j:Int) 0 3=true:=decide_eq_true ⟨by omega,by omega⟩
  by_cases hw:k.wd=0
  ·have b2:(k.wd == 0)=true:=by simp [hw]
   have UN:Hid (jai p ⟨kd,(j:Int),b,c⟩ 0 3 p):=by
    have hk:=HK.out;unfold jai;rw [if_neg (by simp only;omega),if_neg (by simp only;omega),if_neg (by simp only;omega),if_pos hk]
    refine Or.inr (Or.inl ⟨j,k,rfl,hj,HKK.out,jii.2 ?_,rfl,rfl,rfl⟩)
    rcases IK.out with h|h
    ·exact h
    ·have:=h.1.1;omega
   clear hw
   go_wp2_with (go_at_call 31;refine(jag _ _ _ _).mono ?_;rintro e w' ⟨rfl,rfl⟩)
   go_wp2_with (first|(go_at_call 57;refine(jax w.heap.size p (.slice va p.ships.length vcap) _ _ EX.out.box on0).mono ?_;rintro e we ⟨rfl,hbe⟩;have EY:Hid (TB w p (.slice va p.ships.length vcap) ⟨kd,(j:Int),b,c⟩ g p (.slice xq p.ships.length cq) we):=EX.out.later hbe;clear hbe)|(refine jab rfl _ _ rfl (w.heap.size+1+1) jaf p (.slice none 0 0) (.slice va p.ships.length vcap) rfl rfl EY.out.out h4 on0 ?_;intro w9 hw9 hs9))
   refine bodyPost_ret (v:=.tuple #[.agg (jaa p (.slice va p.ships.length vcap)).toArray,.int .i64 0,.int .i64 3]) (jad Tryz.results35 _ _ (w.heap.size+1+1) p (.slice va p.ships.length vcap) rfl hw9.out.1) rfl ?_
   exact FIN.out 3 (by decide) _ (REF.out 3 (by decide) ⟨0,p,UN.out⟩) (EY.out.below.trans (hw9.out.2.2 _ (by omega)))
  have b2:(k.wd == 0)=false:=by simp [hw]
  have OI0:Hid (jai p ⟨kd,(j:Int),b,c⟩ 0 0 { p with kept:=p.kept.set j ⟨0,0,0⟩ }):=by
   have hk:=HK.out;unfold jai;rw [if_neg (by simp only;omega),if_neg (by simp only;omega),if_neg (by simp only;omega),if_pos hk]
   refine Or.inr (Or.inr ⟨j,k,rfl,hj,HKK.out,?_,rfl,rfl,rfl⟩)
   cases e:isNo k
   ·rfl
   ·exact absurd (jii.1 e).1 hw
  have f0:=EX.out.q.1.frozen (2+j*3)
  have f1:=EX.out.q.1.frozen (2+j*3+1)
  have f2:=EX.out.q.1.frozen (2+j*3+2)
  have EQ0:Hid (TB w p (.slice va p.ships.length vcap) ⟨kd,(j:Int),b,c⟩ g { p with kept:=p.kept.set j ⟨0,0,0⟩ } (.slice xq p.ships.length cq) (((w5.setCell ⟨g,2+j*3,none⟩ (.int .i64 0)).setCell ⟨g,2+j*3+1,none⟩ (.int .i64 0)).setCell ⟨g,2+j*3+2,none⟩ (.int .i64 0))):=by
   have K:=EX.out.q.setKept hj 0 0 0
   exact EX.out.turn K.2 K.1
  clear hw
  go_upto_region 52 with (go_at_call 31;refine(jag _ _ _ _).mono ?_;rintro e w' ⟨rfl,rfl⟩)
  clear c0 c1 c2 d0 d1 d2 f0 f1 f2 EX oc0 oc1 oc2 oc3 pc0 pc1 pc14 pc15
  generalize ({ p with kept:=p.kept.set j ⟨0,0,0⟩ }:Pt)=q' at OI0 EQ0
  generalize (.slice xq p.ships.length cq:Value)=vq' at EQ0
  generalize ((w'.setCell ⟨g,2+j*3,none⟩ (.int .i64 0)).setCell ⟨g,2+j*3+1,none⟩ (.int .i64 0)).setCell ⟨g,2+j*3+2,none⟩ (.int .i64 0)=W' at *
  have OI:=OI0
  have EQ:=EQ0
  clear OI0 EQ0 GR
  have Q0:Hid (ja4 q'∧(okTo q' 300=true↔jaj q')):=⟨jbl HP.out OI.out,jdw (jbl HP.out OI.out)⟩
  have onq:vq'.oneCell'=true:=jam EQ.out.q.2.1
  have hq4:q'.kept.length=4:=EQ.out.q.1.1
  have hql:q'.ships.length≤2932031007317:=by have:=Q0.out.1.len;omega
  have HB:=fun W h=>jb9 (.agg (jaa q' vq').toArray) q' W h Q0.out.1.baseIn
  have PV:Hid (PtV W' (.agg (jaa q' vq').toArray) q'):=⟨vq',rfl,jaz EQ.out.q.2.1,hq4,hql⟩
  generalize hQC:(jaa q' vq').toArray=QC at HB PV
  have HQC:Hid ((jaa q' vq').toArray=QC):=hQC
  clear hQC
  go_wp2_with (refine jac rfl _ rfl g q' vq' rfl EQ.out.q.1 ?_;rw [HQC.out])
  refine(HB _ PV.out).mono ?_
  rintro e wf ⟨f,rfl,hf3,_,hbf⟩
  have EF:Hid (TB w p (.slice va p.ships.length vcap) ⟨kd,(j:Int),b,c⟩ g q' vq' wf):=EQ.out.later hbf
  clear hbf EQ HB PV
  generalize hFA:(ic f).toArray=FA at *
  have HFA:Hid ((ic f).toArray=FA):=hFA
  clear hFA
  generalize okTo q' 300=ok at *
  go_upto_region 53 with (first|(refine ja2 rfl rfl 12 rfl ?_;intro wg hwg hsg)|(refine ja1 rfl _ _ rfl wf.heap.size zero300 f rfl (by show Value.agg FA=_;rw [HFA.out]) hwg.out.1 hf3 ?_;intro wh hwh hsh))
  have EX:Hid (TB w p (.slice va p.ships.length vcap) ⟨kd,(j:Int),b,c⟩ g q' vq' wh):=EF.out.later (hwg.out.2.trans (hwh.out.2.2 _ (Nat.le_refl _)))
  clear hwg hwh hsg hsh EF
  cases ok
  ·have NP:Hid (¬ jaj q'):=fun h=>by have:=Q0.out.2.2 h;cases this
   go_wp2_with (first|(go_at_call 57;refine(jax w.heap.size p (.slice va p.ships.length vcap) _ _ EX.out.box on0).mono ?_;rintro e we ⟨rfl,hbe⟩;have EY:Hid (TB w p (.slice va p.ships.length vcap) ⟨kd,(j:Int),b,c⟩ g q' vq' we):=EX.out.later hbe;clear hbe)|(refine jab rfl _ _ rfl (w.heap.size+1+1) jaf p (.slice none 0 0) (.slice va p.ships.length vcap) rfl rfl EY.out.out h4 on0 ?_;intro w9 hw9 hs9))
   refine bodyPost_ret (v:=.tuple #[.agg (jaa p (.slice va p.ships.length vcap)).toArray,.int .i64 0,.int .i64 6]) (jad Tryz.results35 _ _ (w.heap.size+1+1) p (.slice va p.ships.length vcap) rfl hw9.out.1) rfl ?_
   exact FIN.out 6 (by decide) _ (Or.inr ⟨HP.out,0,0,q',OI.out,Or.inr (Or.inl ⟨rfl,NP.out,rfl,rfl,rfl⟩)⟩) (EY.out.below.trans (hw9.out.2.2 _ (by omega)))
  ·have YP:Hid (jaj q'):=Q0.out.2.1 rfl
   go_wp2_with (first|(refine jac rfl _ rfl g q' vq' rfl EX.out.q.1 ?_)|(refine jab rfl _ _ rfl (w.heap.size+1+1) jaf q' (.slice none 0 0) vq' rfl rfl EX.out.out hq4 onq ?_;intro w9 hw9 hs9))
   refine bodyPost_ret (v:=.tuple #[.agg (jaa q' vq').toArray,.int .i64 0,.int .i64 0]) (jad Tryz.results35 _ _ (w.heap.size+1+1) q' vq' rfl hw9.out.1) rfl ?_
   exact⟨q',vq',0,0,rfl,Or.inr ⟨HP.out,0,0,q',OI.out,Or.inr (Or.inr ⟨rfl,YP.out,rfl,rfl,rfl⟩)⟩,hq4,hql,jaz (jal EX.out.q.2.1 (fun k hk=>hw9.out.2.1 k (by omega))),EX.out.below.trans (hw9.out.2.2 _ (by omega)),fun _=>jc0 EX.out.q.2.1 (by omega)⟩
theorem jug (v:Value) (p:Pt) (kd a b c:Int) (w:World) (hv:PtV w v p) (hp:jaj p) (hc:(kd=6)∨(kd=1)) :
  Calls Tryz.prog 35 #[v,.agg #[.int .i64 kd,.int .i64 a,.int .i64 b,.int .i64 c]] w fun e w'=>jbe w (ja0 (jai p ⟨kd,a,b,c⟩) p) e w':=by
 have HC:Hid ((kd=6)∨(kd=1)):=hc
 clear hc
 obtain⟨vs,rfl,hsl,h4,hmx⟩:=hv
 have HV:Hid (PtV w (.agg (jaa p vs).toArray) p):=⟨vs,rfl,hsl,h4,hmx⟩
 have HS0:Hid (SlK cShip w vs p.ships):=hsl
 have on0:vs.oneCell'=true:=by obtain⟨a,cap,rfl,_⟩:=hsl;rfl
 have X1:=PBox.new w p vs h4
 have HG:=fun W h=>jbx (.agg (jaa p vs).toArray) p W h
 have HW:=fun W h=>jb3 (.agg (jaa p vs).toArray) p W h
 obtain⟨va,vcap,hve⟩:∃ a cap,vs=.slice a p.ships.length cap:=by obtain⟨a,cap,e,_⟩:=hsl;exact⟨a,cap,e⟩
 subst hve
 clear hsl
 generalize hPC:(jaa p (.slice va p.ships.length vcap)).toArray=PC at *
 have HPC:Hid ((jaa p (.slice va p.ships.length vcap)).toArray=PC):=hPC
 clear hPC
 have hz1:(w.alloc (.cells PC 41)).heap.size=w.heap.size+1:=by simp
 have O1:=OBox.new (w.alloc (.cells PC 41)) ⟨kd,a,b,c⟩
 rw [hz1] at O1
 have hz2:((w.alloc (.cells PC 41)).alloc (.cells #[.int .i64 kd,.int .i64 a,.int .i64 b,.int .i64 c] 61)).heap.size=w.heap.size+1+1:=by simp
 have X0:Hid (PBox ((w.alloc (.cells PC 41)).alloc (.cells #[.int .i64 kd,.int .i64 a,.int .i64 b,.int .i64 c] 61)) w.heap.size p (.slice va p.ships.length vcap)∧OBox ((w.alloc (.cells PC 41)).alloc (.cells #[.int .i64 kd,.int .i64 a,.int .i64 b,.int .i64 c] 61)) (w.heap.size+1) ⟨kd,a,b,c⟩):=⟨X1.later ((Below.refl _ _).alloc (Nat.le_refl _) _) X1.lt,O1⟩
 have B0:Hid (Below w.heap.size w ((w.alloc (.cells PC 41)).alloc (.cells #[.int .i64 kd,.int .i64 a,.int .i64 b,.int .i64 c] 61))):=((Below.refl _ w).alloc (Nat.le_refl _) _).alloc (by omega) _
 have HZ2:Hid (((w.alloc (.cells PC 41)).alloc (.cells #[.int .i64 kd,.int .i64 a,.int .i64 b,.int .i64 c] 61)).heap.size=w.heap.size+1+1):=hz2
 clear X1 O1 hz1 hz2
 generalize hW0:(w.alloc (.cells PC 41)).alloc (.cells #[.int .i64 kd,.int .i64 a,.int .i64 b,.int .i64 c] 61)=W0 at *
 go_enter Tryz.func35,Tryz.ntmps35
 go_upto_region 1 with (first|(rw [hW0])|(refine jah rfl rfl 4 rfl ?_;intro w1 hw1 hs1))
 rw [HZ2.out] at hw1 hs1 ⊢
 have T1:Hid (Below w.heap.size w w1∧PBox w1 w.heap.size p (.slice va p.ships.length vcap)∧OBox w1 (w.heap.size+1) ⟨kd,a,b,c⟩∧PBox w1 (w.heap.size+1+1) jaf (.slice none 0 0)∧w1.heap.size=w.heap.size+1+1+1):=⟨B0.out.trans (hw1.out.2.mono (by omega)),X0.out.1.later hw1.out.2 (by omega),X0.out.2.later hw1.out.2 (by omega),hw1.out.1,hs1⟩
 clear hw1 hs1 X0 B0 HZ2 hW0
 go_wp2_with (refine jac rfl _ rfl w.heap.size p (.slice va p.ships.length vcap) rfl T1.out.2.1 ?_;rw [HPC.out])
 refine(HG _ (HV.out.below T1.out.1)).mono ?_
 rintro e w2 ⟨⟨b2,rfl,hb2⟩,hw2⟩
 have T2:Hid (Below w.heap.size w w2∧PBox w2 w.heap.size p (.slice va p.ships.length vcap)∧OBox w2 (w.heap.size+1) ⟨kd,a,b,c⟩∧PBox w2 (w.heap.size+1+1) jaf (.slice none 0 0)∧w.heap.size+1+1+1≤w2.heap.size):=⟨T1.out.1.trans (hw2.mono (by have:=T1.out.2.2.2.2;omega)),T1.out.2.1.later hw2 T1.out.2.1.lt,T1.out.2.2.1.later hw2 T1.out.2.2.1.lt,T1.out.2.2.2.1.later hw2 T1.out.2.2.2.1.lt,by have:=T1.out.2.2.2.2;have:=hw2.size;omega⟩
 have HB:Hid (b2=true↔jaj p):=hb2
 clear T1 hw2 hb2 HG
 obtain rfl:b2=true:=HB.out.2 hp
 have HP:Hid (jaj p):=hp
 have hlen:p.ships.length < 15:=hp.port.len
 obtain⟨hnow0,hnow1⟩:=hp.port.now
 clear hp HB
 go_upto_region 4 with fail
 go_wp2_with (refine jac rfl _ rfl w.heap.size p (.slice va p.ships.length vcap) rfl T2.out.2.1 ?_;rw [HPC.out])
 refine(HW _ (HV.out.below T2.out.1)).mono ?_
 rintro e w3 ⟨vq,rfl,hro,hb3⟩
 have T3:Hid (Below w.heap.size w w3∧PBox w3 w.heap.size p (.slice va p.ships.length vcap)∧OBox w3 (w.heap.size+1) ⟨kd,a,b,c⟩∧PBox w3 (w.heap.size+1+1) jaf (.slice none 0 0)∧w3.ownsRow (w.heap.size+1+1+1) 46 6 vq p.ships.length (jae cShip p.ships)∧w.heap.size+1+1+1≤w3.heap.size):=⟨T2.out.1.trans (hb3.mono (by have:=T2.out.2.2.2.2;omega)),T2.out.2.1.later hb3 T2.out.2.1.lt,T2.out.2.2.1.later hb3 T2.out.2.2.1.lt,T2.out.2.2.2.1.later hb3 T2.out.2.2.2.1.lt,jar hro T2.out.2.2.2.2,by have:=T2.out.2.2.2.2;have:=hb3.size;omega⟩
 have on:=jam hro
 obtain⟨xq,cq,hvq⟩:=jan hro
 subst hvq
 clear T2 hro hb3 HW
 go_upto_region 5 with (first|(refine jah rfl rfl 8 rfl ?_;intro w4 hw4 hs4)|(refine jab rfl _ _ rfl w3.heap.size jaf p (.slice none 0 0) (.slice xq p.ships.length cq) rfl rfl hw4.out.1 h4 on ?_;intro w5 hw5 hs5))
 have EX:Hid (TB w p (.slice va p.ships.length vcap) ⟨kd,a,b,c⟩ w3.heap.size p (.slice xq p.ships.length cq) w5):=by
  have hb:Below w3.heap.size w3 w5:=hw4.out.2.trans (hw5.out.2.2 _ (Nat.le_refl _))
  have hz:=T3.out.2.2.2.2.2
  have hzz:=hb.size
  exact⟨T3.out.1.trans (hb.mono (by omega)),T3.out.2.1.later hb (by omega),T3.out.2.2.1.later hb (by omega),T3.out.2.2.2.1.later hb (by omega),hw5.out.1,ownsRow_later T3.out.2.2.2.2.1 hb,by omega,by omega⟩
 have GR:Hid ((Value.slice xq p.ships.length cq).ownBlock≠some w3.heap.size):=fun e=>by
  have:=(T3.out.2.2.2.2.1.lt _ e).2
  omega
 generalize w3.heap.size=g at *
 clear hw4 hw5 hs4 hs5 T3 on
 obtain⟨oc0,oc1,oc2,oc3⟩:=EX.out.ord.cells
 obtain⟨pc0,pc1,pc14,pc15⟩:=EX.out.box.cells
 simp only at oc0 oc1 oc2 oc3
 have FIN:Hid (∀ er,er≠0→∀ w',ja0 (jai p ⟨kd,a,b,c⟩) p 0 er p→Below w.heap.size w w'→jbe w (ja0 (jai p ⟨kd,a,b,c⟩) p) (.returned (.tuple #[.agg (jaa p (.slice va p.ships.length vcap)).toArray,.int .i64 0,.int .i64 er])) w'):=fun er hne w' hT hb=>⟨p,(.slice va p.ships.length vcap),0,er,rfl,hT,h4,hmx,HS0.out.below hb,hb,fun h=>absurd h hne⟩
 have REF:Hid (∀ er,er≠0→(∃ n q',jai p ⟨kd,a,b,c⟩ n er q')→ja0 (jai p ⟨kd,a,b,c⟩) p 0 er p):=fun er h0 ⟨n,q',h⟩=>Or.inr ⟨HP.out,n,er,q',h,Or.inl ⟨h0,rfl,rfl,rfl⟩⟩
 clear HS0 HV
 have hc:=HC.out
 clear HC
 rcases hc with hc|hc
 ·have HK:Hid (kd=6):=hc
  clear hc
  have j1:(kd == 1)=false:=by have hk:=HK.out;simp;omega
  have j2:(kd == 2)=false:=by have hk:=HK.out;simp;omega
  have j3:(kd == 3)=false:=by have hk:=HK.out;simp;omega
  have j4:(kd == 4)=false:=by have hk:=HK.out;simp;omega
  have j5:(kd == 5)=false:=by have hk:=HK.out;simp;omega
  have j6:(kd == 6)=true:=by have hk:=HK.out;simp;exact hk
  have j7:(kd == 7)=false:=by have hk:=HK.out;simp;omega
  have j8:(kd == 8)=false:=by have hk:=HK.out;simp;omega
  have UN:Hid (¬ jeg p a b c→jai p ⟨kd,a,b,c⟩ 0 2 p):=fun h=>by have hk:=HK.out;unfold jai;rw [if_neg (by simp only;omega),if_neg (by simp only;omega),if_pos hk];exact Or.inl ⟨h,rfl,rfl,rfl⟩
  rcases jbz a 1 16 with b1|b1
  case inr =>
   have NK:Hid (¬ jeg p a b c):=fun h=>jb0 b1 h.1
   go_wp2_with (go_at_call 31;refine(jag _ _ _ _).mono ?_;rintro e w' ⟨rfl,rfl⟩)
   go_wp2_with (first|(go_at_call 57;refine(jax w.heap.size p (.slice va p.ships.length vcap) _ _ EX.out.box on0).mono ?_;rintro e we ⟨rfl,hbe⟩;have EY:Hid (TB w p (.slice va p.ships.length vcap) ⟨kd,a,b,c⟩ g p (.slice xq p.ships.length cq) we):=EX.out.later hbe;clear hbe)|(refine jab rfl _ _ rfl (w.heap.size+1+1) jaf p (.slice none 0 0) (.slice va p.ships.length vcap) rfl rfl EY.out.out h4 on0 ?_;intro w9 hw9 hs9))
   refine bodyPost_ret (v:=.tuple #[.agg (jaa p (.slice va p.ships.length vcap)).toArray,.int .i64 0,.int .i64 2]) (jad Tryz.results35 _ _ (w.heap.size+1+1) p (.slice va p.ships.length vcap) rfl hw9.out.1) rfl ?_
   exact FIN.out 2 (by decide) _ (REF.out 2 (by decide) ⟨0,p,UN.out NK.out⟩) (EY.out.below.trans (hw9.out.2.2 _ (by omega)))
  rcases jbz b p.now 300 with b2|b2
  case inr =>
   have NK:Hid (¬ jeg p a b c):=fun h=>jb0 b2 ⟨h.2.1,by have:=h.2.2;omega⟩
   go_wp2_with (go_at_call 31;refine(jag _ _ _ _).mono ?_;rintro e w' ⟨rfl,rfl⟩)
   go_wp2_with (first|(go_at_call 57;refine(jax w.heap.size p (.slice va p.ships.length vcap) _ _ EX.out.box on0).mono ?_;rintro e we ⟨rfl,hbe⟩;have EY:Hid (TB w p (.slice va p.ships.length vcap) ⟨kd,a,b,c⟩ g p (.slice xq p.ships.length cq) we):=EX.out.later hbe;clear hbe)|(refine jab rfl _ _ rfl (w.heap.size+1+1) jaf p (.slice none 0 0) (.slice va p.ships.length vcap) rfl rfl EY.out.out h4 on0 ?_;intro w9 hw9 hs9))
   refine bodyPost_ret (v:=.tuple #[.agg (jaa p (.slice va p.ships.length vcap)).toArray,.int .i64 0,.int .i64 2]) (jad Tryz.results35 _ _ (w.heap.size+1+1) p (.slice va p.ships.length vcap) rfl hw9.out.1) rfl ?_
   exact FIN.out 2 (by decide) _ (REF.out 2 (by decide) ⟨0,p,UN.out NK.out⟩) (EY.out.below.trans (hw9.out.2.2 _ (by omega)))
  have hb2:=jba b2
  by_cases h3:c≤b
  ·have NK:Hid (¬ jeg p a b c):=fun h=>by have:=h.2.2;omega
   have b3:decide (c≤b)=true:=decide_eq_true h3
   go_wp2_with (go_at_call 31;refine(jag _ _ _ _).mono ?_;rintro e w' ⟨rfl,rfl⟩)
   go_wp2_with (first|(go_at_call 57;refine(jax w.heap.size p (.slice va p.ships.length vcap) _ _ EX.out.box on0).mono ?_;rintro e we ⟨rfl,hbe⟩;have EY:Hid (TB w p (.slice va p.ships.length vcap) ⟨kd,a,b,c⟩ g p (.slice xq p.ships.length cq) we):=EX.out.later hbe;clear hbe)|(refine jab rfl _ _ rfl (w.heap.size+1+1) jaf p (.slice none 0 0) (.slice va p.ships.length vcap) rfl rfl EY.out.out h4 on0 ?_;intro w9 hw9 hs9))
   refine bodyPost_ret (v:=.tuple #[.agg (jaa p (.slice va p.ships.length vcap)).toArray,.int .i64 0,.int .i64 2]) (jad Tryz.results35 _ _ (w.heap.size+1+1) p (.slice va p.ships.length vcap) rfl hw9.out.1) rfl ?_
   exact FIN.out 2 (by decide) _ (REF.out 2 (by decide) ⟨0,p,UN.out NK.out⟩) (EY.out.below.trans (hw9.out.2.2 _ (by omega)))
  have b3:decide (c≤b)=false:=decide_eq_false h3
  by_cases h4c:300 < c
  ·have NK:Hid (¬ jeg p a b c):=fun h=>by have:=h.2.2;omega
   have b4:decide (300 < c)=true:=decide_eq_true h4c
   go_wp2_with (go_at_call 31;refine(jag _ _ _ _).mono ?_;rintro e w' ⟨rfl,rfl⟩)
   go_wp2_with (first|(go_at_call 57;refine(jax w.heap.size p (.slice va p.ships.length vcap) _ _ EX.out.box on0).mono ?_;rintro e we ⟨rfl,hbe⟩;have EY:Hid (TB w p (.slice va p.ships.length vcap) ⟨kd,a,b,c⟩ g p (.slice xq p.ships.length cq) we):=EX.out.later hbe;clear hbe)|(refine jab rfl _ _ rfl (w.heap.size+1+1) jaf p (.slice none 0 0) (.slice va p.ships.length vcap) rfl rfl EY.out.out h4 on0 ?_;intro w9 hw9 hs9))
   refine bodyPost_ret (v:=.tuple #[.agg (jaa p (.slice va p.ships.length vcap)).toArray,.int .i64 0,.int .i64 2]) (jad Tryz.results35 _ _ (w.heap.size+1+1) p (.slice va p.ships.length vcap) rfl hw9.out.1) rfl ?_
   exact FIN.out 2 (by decide) _ (REF.out 2 (by decide) ⟨0,p,UN.out NK.out⟩) (EY.out.below.trans (hw9.out.2.2 _ (by omega)))
  have b4:decide (300 < c)=false:=decide_eq_false h4c
  have OK:Hid (jeg p a b c):=⟨jba b1,hb2.1,by omega,by omega,by omega⟩
  have h4k:p.kept.length=4:=h4
  go_wp2_with (go_at_call 31;refine(jag _ _ _ _).mono ?_;rintro e w' ⟨rfl,rfl⟩)
  clear oc0 pc0 pc1 pc14 pc15
  have CP:Hid (∀ (j:Nat) k,p.kept[j]?=some k→w'.cell? ⟨w.heap.size,2+j*3,none⟩=some (.int .i64 k.wd)):=fun j k hk0=>by
   obtain⟨a',cap,e,_,hr⟩:=EX.out.box.slKept
   injection e with e1 e2 e3
   rcases hr with hr|⟨b',off,hb,hr⟩
   ·rw [hr] at h4k;cases h4k
   ·rw [← e1] at hb
    injection hb with hb
    injection hb with h1 h2
    subst h1 h2
    exact(hr.kp hk0).1
  go_loopg [9] 4 (fun kx s9 wr=>∃ (j:Nat),s9=.int .i64 j∧j≤4∧4 - j≤kx∧wr=w'∧Hid (∀ (j':Nat) k,j' < j→p.kept[j']?=some k→isNo k=false))
  case atStart=>exact⟨0,rfl,Nat.zero_le _,by omega,rfl,fun j' k h=>absurd h (Nat.not_lt_zero _)⟩
  case round =>
   obtain⟨j,rfl,hj,hg,rfl,I⟩:=hrel
   by_cases hjl:j < 4
   case neg =>
    have hj4:j=4:=by omega
    subst hj4
    have d4:decide (((4:Nat):Int) < 4)=false:=by decide
    have UN2:Hid (jai p ⟨kd,a,b,c⟩ 0 5 p):=by have hk:=HK.out;unfold jai;rw [if_neg (by simp only;omega),if_neg (by simp only;omega),if_pos hk];exact Or.inr (Or.inl ⟨OK.out,fun j k hk0=>I.out j k (by have:=(List.getElem?_eq_some_iff.1 hk0).1;omega) hk0,rfl,rfl,rfl⟩)
    clear I
    go_wp2_with (go_at_call 31;refine(jag _ _ _ _).mono ?_;rintro e w' ⟨rfl,rfl⟩)
    go_wp2_with (first|(go_at_call 57;refine(jax w.heap.size p (.slice va p.ships.length vcap) _ _ EX.out.box on0).mono ?_;rintro e we ⟨rfl,hbe⟩;have EY:Hid (TB w p (.slice va p.ships.length vcap) ⟨kd,a,b,c⟩ g p (.slice xq p.ships.length cq) we):=EX.out.later hbe;clear hbe)|(refine jab rfl _ _ rfl (w.heap.size+1+1) jaf p (.slice none 0 0) (.slice va p.ships.length vcap) rfl rfl EY.out.out h4 on0 ?_;intro w9 hw9 hs9))
    refine bodyPost_ret (v:=.tuple #[.agg (jaa p (.slice va p.ships.length vcap)).toArray,.int .i64 0,.int .i64 5]) (jad Tryz.results35 _ _ (w.heap.size+1+1) p (.slice va p.ships.length vcap) rfl hw9.out.1) rfl ?_
    exact FIN.out 5 (by decide) _ (REF.out 5 (by decide) ⟨0,p,UN2.out⟩) (EY.out.below.trans (hw9.out.2.2 _ (by omega)))
   obtain⟨k,hk0⟩:∃ k,p.kept[j]?=some k:=⟨p.kept[j]'(by omega),List.getElem?_eq_getElem _⟩
   have ck:=CP.out j k hk0
   have HKK:Hid (p.kept[j]?=some k):=hk0
   have IK:Hid (jb2 k):=HP.out.port.kept k (List.mem_of_getElem? hk0)
   clear hk0
   have hj3:(j:Int) < 4:=by omega
   have d4:decide ((j:Int) < 4)=true:=decide_eq_true hj3
   by_cases hw:0 < k.wd
   ·have b5:decide (0 < k.wd)=true:=decide_eq_true hw
    have I2:Hid (∀ (j':Nat) k,j' < j+1→p.kept[j']?=some k→isNo k=false):=fun j' k' h1 h2=>by
     by_cases e:j'=j
     ·subst e
      rw [HKK.out] at h2
      injection h2 with h2
      subst h2
      cases e:isNo k
      ·rfl
      ·have:=(jii.1 e).1;omega
     ·exact I.out j' k' (by omega) h2
    clear I
    go_wp2_with fail
    go_roundg (4 - (j+1))
    case measure=>omega
    case rel=>exact⟨j+1,by go_num,by omega,Nat.le_refl _,rfl,I2⟩
   ·have b5:decide (0 < k.wd)=false:=decide_eq_false hw
    have hb4:((j:Int) == 4)=false:=by simp;omega
    have OI0:Hid (jai p ⟨kd,a,b,c⟩ j 0 { p with kept:=p.kept.set j ⟨a,b,c⟩ }):=by
     have hk:=HK.out;unfold jai;rw [if_neg (by simp only;omega),if_neg (by simp only;omega),if_pos hk]
     refine Or.inr (Or.inr ⟨OK.out,j,⟨⟨k,HKK.out,jii.2 ?_⟩,I.out⟩,rfl,rfl,rfl⟩)
     rcases IK.out with h|h
     ·exact h
     ·have:=h.1.1;omega
    obtain⟨d0,d1,d2⟩:wr.cell? ⟨g,2+j*3,none⟩=some (.int .i64 k.wd)∧wr.cell? ⟨g,2+j*3+1,none⟩=some (.int .i64 k.fr)∧wr.cell? ⟨g,2+j*3+2,none⟩=some (.int .i64 k.to):=by
     obtain⟨a',cap,e,_,hr⟩:=EX.out.q.1.slKept
     injection e with e1 e2 e3
     rcases hr with hr|⟨b',off,hb,hr⟩
     ·rw [hr] at h4k;cases h4k
     ·rw [← e1] at hb
      injection hb with hb
      injection hb with h1 h2
      subst h1 h2
      exact hr.kp HKK.out
    have f0:=EX.out.q.1.frozen (2+j*3)
    have f1:=EX.out.q.1.frozen (2+j*3+1)
    have f2:=EX.out.q.1.frozen (2+j*3+2)
    have EQ0:Hid (TB w p (.slice va p.ships.length vcap) ⟨kd,a,b,c⟩ g { p with kept:=p.kept.set j ⟨a,b,c⟩ } (.slice xq p.ships.length cq) (((wr.setCell ⟨g,2+j*3,none⟩ (.int .i64 a)).setCell ⟨g,2+j*3+1,none⟩ (.int .i64 b)).setCell ⟨g,2+j*3+2,none⟩ (.int .i64 c))):=by
     have K:=EX.out.q.setKept hjl a b c
     exact EX.out.turn K.2 K.1
    clear I
    go_upto_region 52 with fail
    clear ck d0 d1 d2 f0 f1 f2 EX oc1 oc2 oc3 CP
    generalize ({ p with kept:=p.kept.set j ⟨a,b,c⟩ }:Pt)=q' at OI0 EQ0
    generalize (.slice xq p.ships.length cq:Value)=vq' at EQ0
    generalize ((wr.setCell ⟨g,2+j*3,none⟩ (.int .i64 a)).setCell ⟨g,2+j*3+1,none⟩ (.int .i64 b)).setCell ⟨g,2+j*3+2,none⟩ (.int .i64 c)=W' at *
    have OI:=OI0
    have EQ:=EQ0
    clear OI0 EQ0 GR
    have Q0:Hid (ja4 q'∧(okTo q' 300=true↔jaj q')):=⟨jbl HP.out OI.out,jdw (jbl HP.out OI.out)⟩
    have onq:vq'.oneCell'=true:=jam EQ.out.q.2.1
    have hq4:q'.kept.length=4:=EQ.out.q.1.1
    have hql:q'.ships.length≤2932031007317:=by have:=Q0.out.1.len;omega
    have HB:=fun W h=>jb9 (.agg (jaa q' vq').toArray) q' W h Q0.out.1.baseIn
    have PV:Hid (PtV W' (.agg (jaa q' vq').toArray) q'):=⟨vq',rfl,jaz EQ.out.q.2.1,hq4,hql⟩
    generalize hQC:(jaa q' vq').toArray=QC at HB PV
    have HQC:Hid ((jaa q' vq').toArray=QC):=hQC
    clear hQC
    go_wp2_with (refine jac rfl _ rfl g q' vq' rfl EQ.out.q.1 ?_;rw [HQC.out])
    refine(HB _ PV.out).mono ?_
    rintro e wf ⟨f,rfl,hf3,_,hbf⟩
    have EF:Hid (TB w p (.slice va p.ships.length vcap) ⟨kd,a,b,c⟩ g q' vq' wf):=EQ.out.later hbf
    clear hbf EQ HB PV
    generalize hFA:(ic f).toArray=FA at *
    have HFA:Hid ((ic f).toArray=FA):=hFA
    clear hFA
    generalize okTo q' 300=ok at *
    go_upto_region 53 with (first|(refine ja2 rfl rfl 12 rfl ?_;intro wg hwg hsg)|(refine ja1 rfl _ _ rfl wf.heap.size zero300 f rfl (by show Value.agg FA=_;rw [HFA.out]) hwg.out.1 hf3 ?_;intro wh hwh hsh))
    have EX:Hid (TB w p (.slice va p.ships.length vcap) ⟨kd,a,b,c⟩ g q' vq' wh):=EF.out.later (hwg.out.2.trans (hwh.out.2.2 _ (Nat.le_refl _)))
    clear hwg hwh hsg hsh EF
    cases ok
    ·have NP:Hid (¬ jaj q'):=fun h=>by have:=Q0.out.2.2 h;cases this
     go_wp2_with (first|(go_at_call 57;refine(jax w.heap.size p (.slice va p.ships.length vcap) _ _ EX.out.box on0).mono ?_;rintro e we ⟨rfl,hbe⟩;have EY:Hid (TB w p (.slice va p.ships.length vcap) ⟨kd,a,b,c⟩ g q' vq' we):=EX.out.later hbe;clear hbe)|(refine jab rfl _ _ rfl (w.heap.size+1+1) jaf p (.slice none 0 0) (.slice va p.ships.length vcap) rfl rfl EY.out.out h4 on0 ?_;intro w9 hw9 hs9))
     refine bodyPost_ret (v:=.tuple #[.agg (jaa p (.slice va p.ships.length vcap)).toArray,.int .i64 0,.int .i64 6]) (jad Tryz.results35 _ _ (w.heap.size+1+1) p (.slice va p.ships.length vcap) rfl hw9.out.1) rfl ?_
     exact FIN.out 6 (by decide) _ (Or.inr ⟨HP.out,j,0,q',OI.out,Or.inr (Or.inl ⟨rfl,NP.out,rfl,rfl,rfl⟩)⟩) (EY.out.below.trans (hw9.out.2.2 _ (by omega)))
    ·have YP:Hid (jaj q'):=Q0.out.2.1 rfl
     go_wp2_with (first|(refine jac rfl _ rfl g q' vq' rfl EX.out.q.1 ?_)|(refine jab rfl _ _ rfl (w.heap.size+1+1) jaf q' (.slice none 0 0) vq' rfl rfl EX.out.out hq4 onq ?_;intro w9 hw9 hs9))
     refine bodyPost_ret (v:=.tuple #[.agg (jaa q' vq').toArray,.int .i64 j,.int .i64 0]) (jad Tryz.results35 _ _ (w.heap.size+1+1) q' vq' rfl hw9.out.1) rfl ?_
     exact⟨q',vq',j,0,rfl,Or.inr ⟨HP.out,j,0,q',OI.out,Or.inr (Or.inr ⟨rfl,YP.out,rfl,rfl,rfl⟩)⟩,hq4,hql,jaz (jal EX.out.q.2.1 (fun k hk=>hw9.out.2.1 k (by omega))),EX.out.below.trans (hw9.out.2.2 _ (by omega)),fun _=>jc0 EX.out.q.2.1 (by omega)⟩
 ·have HK:Hid (kd=1):=hc
  clear hc
  have j1:(kd == 1)=true:=by have hk:=HK.out;simp;exact hk
  have j2:(kd == 2)=false:=by have hk:=HK.out;simp;omega
  have j3:(kd == 3)=false:=by have hk:=HK.out;simp;omega
  have j4:(kd == 4)=false:=by have hk:=HK.out;simp;omega
  have j5:(kd == 5)=false:=by have hk:=HK.out;simp;omega
  have j6:(kd == 6)=false:=by have hk:=HK.out;simp;omega
  have j7:(kd == 7)=false:=by have hk:=HK.out;simp;omega
  have j8:(kd == 8)=false:=by have hk:=HK.out;simp;omega
  have UN:Hid (¬ ((1≤a∧a≤16)∧(1≤b∧b≤300)∧(0≤c∧c≤3))→jai p ⟨kd,a,b,c⟩ 0 2 p):=fun h=>by have hk:=HK.out;unfold jai;rw [if_pos hk];exact Or.inl ⟨h,rfl,rfl,rfl⟩
  rcases jbz a 1 16 with b1|b1
  case inr =>
   have NK:Hid (¬ ((1≤a∧a≤16)∧(1≤b∧b≤300)∧(0≤c∧c≤3))):=fun h=>jb0 b1 h.1
   go_wp2_with (go_at_call 31;refine(jag _ _ _ _).mono ?_;rintro e w' ⟨rfl,rfl⟩)
   go_wp2_with (first|(go_at_call 57;refine(jax w.heap.size p (.slice va p.ships.length vcap) _ _ EX.out.box on0).mono ?_;rintro e we ⟨rfl,hbe⟩;have EY:Hid (TB w p (.slice va p.ships.length vcap) ⟨kd,a,b,c⟩ g p (.slice xq p.ships.length cq) we):=EX.out.later hbe;clear hbe)|(refine jab rfl _ _ rfl (w.heap.size+1+1) jaf p (.slice none 0 0) (.slice va p.ships.length vcap) rfl rfl EY.out.out h4 on0 ?_;intro w9 hw9 hs9))
   refine bodyPost_ret (v:=.tuple #[.agg (jaa p (.slice va p.ships.length vcap)).toArray,.int .i64 0,.int .i64 2]) (jad Tryz.results35 _ _ (w.heap.size+1+1) p (.slice va p.ships.length vcap) rfl hw9.out.1) rfl ?_
   exact FIN.out 2 (by decide) _ (REF.out 2 (by decide) ⟨0,p,UN.out NK.out⟩) (EY.out.below.trans (hw9.out.2.2 _ (by omega)))
  rcases jbz b 1 300 with b2|b2
  case inr =>
   have NK:Hid (¬ ((1≤a∧a≤16)∧(1≤b∧b≤300)∧(0≤c∧c≤3))):=fun h=>jb0 b2 h.2.1
   go_wp2_with (go_at_call 31;refine(jag _ _ _ _).mono ?_;rintro e w' ⟨rfl,rfl⟩)
   go_wp2_with (first|(go_at_call 57;refine(jax w.heap.size p (.slice va p.ships.length vcap) _ _ EX.out.box on0).mono ?_;rintro e we ⟨rfl,hbe⟩;have EY:Hid (TB w p (.slice va p.ships.length vcap) ⟨kd,a,b,c⟩ g p (.slice xq p.ships.length cq) we):=EX.out.later hbe;clear hbe)|(refine jab rfl _ _ rfl (w.heap.size+1+1) jaf p (.slice none 0 0) (.slice va p.ships.length vcap) rfl rfl EY.out.out h4 on0 ?_;intro w9 hw9 hs9))
   refine bodyPost_ret (v:=.tuple #[.agg (jaa p (.slice va p.ships.length vcap)).toArray,.int .i64 0,.int .i64 2]) (jad Tryz.results35 _ _ (w.heap.size+1+1) p (.slice va p.ships.length vcap) rfl hw9.out.1) rfl ?_
   exact FIN.out 2 (by decide) _ (REF.out 2 (by decide) ⟨0,p,UN.out NK.out⟩) (EY.out.below.trans (hw9.out.2.2 _ (by omega)))
  rcases jbz c 0 3 with b3|b3
  case inr =>
   have NK:Hid (¬ ((1≤a∧a≤16)∧(1≤b∧b≤300)∧(0≤c∧c≤3))):=fun h=>jb0 b3 h.2.2
   go_wp2_with (go_at_call 31;refine(jag _ _ _ _).mono ?_;rintro e w' ⟨rfl,rfl⟩)
   go_wp2_with (first|(go_at_call 57;refine(jax w.heap.size p (.slice va p.ships.length vcap) _ _ EX.out.box on0).mono ?_;rintro e we ⟨rfl,hbe⟩;have EY:Hid (TB w p (.slice va p.ships.length vcap) ⟨kd,a,b,c⟩ g p (.slice xq p.ships.length cq) we):=EX.out.later hbe;clear hbe)|(refine jab rfl _ _ rfl (w.heap.size+1+1) jaf p (.slice none 0 0) (.slice va p.ships.length vcap) rfl rfl EY.out.out h4 on0 ?_;intro w9 hw9 hs9))
   refine bodyPost_ret (v:=.tuple #[.agg (jaa p (.slice va p.ships.length vcap)).toArray,.int .i64 0,.int .i64 2]) (jad Tryz.results35 _ _ (w.heap.size+1+1) p (.slice va p.ships.length vcap) rfl hw9.out.1) rfl ?_
   exact FIN.out 2 (by decide) _ (REF.out 2 (by decide) ⟨0,p,UN.out NK.out⟩) (EY.out.below.trans (hw9.out.2.2 _ (by omega)))
  have OK:Hid ((1≤a∧a≤16)∧(1≤b∧b≤300)∧(0≤c∧c≤3)):=⟨jba b1,jba b2,jba b3⟩
  have hnx:=HP.out.port.next
  by_cases h5:p.ships.length=14
  ·have h5':((p.ships.length:Int) == 14)=true:=by simp;omega
   have UN2:Hid (jai p ⟨kd,a,b,c⟩ 0 5 p):=by have hk:=HK.out;unfold jai;rw [if_pos hk];exact Or.inr (Or.inl ⟨OK.out,Or.inl (by omega),rfl,rfl,rfl⟩)
   clear h5
   go_wp2_with (go_at_call 31;refine(jag _ _ _ _).mono ?_;rintro e w' ⟨rfl,rfl⟩)
   go_wp2_with (first|(go_at_call 57;refine(jax w.heap.size p (.slice va p.ships.length vcap) _ _ EX.out.box on0).mono ?_;rintro e we ⟨rfl,hbe⟩;have EY:Hid (TB w p (.slice va p.ships.length vcap) ⟨kd,a,b,c⟩ g p (.slice xq p.ships.length cq) we):=EX.out.later hbe;clear hbe)|(refine jab rfl _ _ rfl (w.heap.size+1+1) jaf p (.slice none 0 0) (.slice va p.ships.length vcap) rfl rfl EY.out.out h4 on0 ?_;intro w9 hw9 hs9))
   refine bodyPost_ret (v:=.tuple #[.agg (jaa p (.slice va p.ships.length vcap)).toArray,.int .i64 0,.int .i64 5]) (jad Tryz.results35 _ _ (w.heap.size+1+1) p (.slice va p.ships.length vcap) rfl hw9.out.1) rfl ?_
   exact FIN.out 5 (by decide) _ (REF.out 5 (by decide) ⟨0,p,UN2.out⟩) (EY.out.below.trans (hw9.out.2.2 _ (by omega)))
  have h5':((p.ships.length:Int) == 14)=false:=by simp;omega
  by_cases h6:p.next=1048576
  ·have h6':(p.next == 1048576)=true:=by simp [h6]
   have UN2:Hid (jai p ⟨kd,a,b,c⟩ 0 5 p):=by have hk:=HK.out;unfold jai;rw [if_pos hk];exact Or.inr (Or.inl ⟨OK.out,Or.inr (by omega),rfl,rfl,rfl⟩)
   clear h6
   go_wp2_with (go_at_call 31;refine(jag _ _ _ _).mono ?_;rintro e w' ⟨rfl,rfl⟩)
   go_wp2_with (first|(go_at_call 57;refine(jax w.heap.size p (.slice va p.ships.length vcap) _ _ EX.out.box on0).mono ?_;rintro e we ⟨rfl,hbe⟩;have EY:Hid (TB w p (.slice va p.ships.length vcap) ⟨kd,a,b,c⟩ g p (.slice xq p.ships.length cq) we):=EX.out.later hbe;clear hbe)|(refine jab rfl _ _ rfl (w.heap.size+1+1) jaf p (.slice none 0 0) (.slice va p.ships.length vcap) rfl rfl EY.out.out h4 on0 ?_;intro w9 hw9 hs9))
   refine bodyPost_ret (v:=.tuple #[.agg (jaa p (.slice va p.ships.length vcap)).toArray,.int .i64 0,.int .i64 5]) (jad Tryz.results35 _ _ (w.heap.size+1+1) p (.slice va p.ships.length vcap) rfl hw9.out.1) rfl ?_
   exact FIN.out 5 (by decide) _ (REF.out 5 (by decide) ⟨0,p,UN2.out⟩) (EY.out.below.trans (hw9.out.2.2 _ (by omega)))
  have h6':(p.next == 1048576)=false:=by simp [h6]
  have OI0:Hid (jai p ⟨kd,a,b,c⟩ p.ships.length 0 { p with ships:=p.ships++[⟨1,a,b,c,0,p.next⟩],next:=p.next+1 }):=by have hk:=HK.out;unfold jai;rw [if_pos hk];exact Or.inr (Or.inr ⟨OK.out,by omega,by omega,rfl,rfl,rfl⟩)
  clear h5 h6
  go_upto_region 14 with (go_at_call 31;refine(jag _ _ _ _).mono ?_;rintro e w' ⟨rfl,rfl⟩)
  have pg1:=EX.out.q.1.cells.2.1
  have hbA:Below w'.heap.size w' (w'.alloc (.cells #[.int .i64 1,.int .i64 a,.int .i64 b,.int .i64 c,.int .i64 0,.int .i64 p.next] 46)):=(Below.refl _ w').alloc (Nat.le_refl _) _
  have EA:Hid (TB w p (.slice va p.ships.length vcap) ⟨kd,a,b,c⟩ g p (.slice xq p.ships.length cq) (w'.alloc (.cells #[.int .i64 1,.int .i64 a,.int .i64 b,.int .i64 c,.int .i64 0,.int .i64 p.next] 46))):=EX.out.later hbA
  have RA:Hid (RdK cShip (w'.alloc (.cells #[.int .i64 1,.int .i64 a,.int .i64 b,.int .i64 c,.int .i64 0,.int .i64 p.next] 46)) w'.heap.size 0 [⟨1,a,b,c,0,p.next⟩]):=jfe (k:=6) (c:=cShip) w' 46 (⟨1,a,b,c,0,p.next⟩:Ship) _ rfl
  have ZA:Hid (p.ships.length+1≤maxLen∧(p.ships.length+1)*48≤140737488355328):=⟨by unfold maxLen;omega,by omega⟩
  have hl:(p.ships++[(⟨1,a,b,c,0,p.next⟩:Ship)]).length=p.ships.length+1:=by simp
  have NX:Hid (∀ v7 w7,(w7.ownsRow (w.heap.size+1+1+1) 46 6 v7 (p.ships++[(⟨1,a,b,c,0,p.next⟩:Ship)]).length (jae cShip (p.ships++[(⟨1,a,b,c,0,p.next⟩:Ship)]))∧Below (w.heap.size+1+1+1) (w'.alloc (.cells #[.int .i64 1,.int .i64 a,.int .i64 b,.int .i64 c,.int .i64 0,.int .i64 p.next] 46)) w7∧∀ j,j < (w'.alloc (.cells #[.int .i64 1,.int .i64 a,.int .i64 b,.int .i64 c,.int .i64 0,.int .i64 p.next] 46)).heap.size→some j≠(Value.slice xq p.ships.length cq).ownBlock→w7.heap[j]?=(w'.alloc (.cells #[.int .i64 1,.int .i64 a,.int .i64 b,.int .i64 c,.int .i64 0,.int .i64 p.next] 46)).heap[j]?)→PBox w7 g p (.slice xq p.ships.length cq)∧TB w p (.slice va p.ships.length vcap) ⟨kd,a,b,c⟩ g { p with ships:=p.ships++[⟨1,a,b,c,0,p.next⟩] } v7 (w7.setCell ⟨g,1,none⟩ v7)):=fun v7 w7 h=>by
   have H:=EA.out.q
   have X7:PBox w7 g p (.slice xq p.ships.length cq):=⟨H.1.1,(h.2.2 g H.1.lt (fun e=>GR.out e.symm)).trans H.1.2⟩
   have hb:Below (w.heap.size+1+1+1) (w'.alloc (.cells #[.int .i64 1,.int .i64 a,.int .i64 b,.int .i64 c,.int .i64 0,.int .i64 p.next] 46)) (w7.setCell ⟨g,1,none⟩ v7):=h.2.1.setCell (p:=⟨g,1,none⟩) H.2.2.2 _
   exact⟨X7,EA.out.turn hb ⟨X7.setShips _ _,jcq X7 h.1,Nat.le_trans H.2.2.1 hb.size,H.2.2.2⟩⟩
  clear hbA
  go_upto_region 15 with (at_builtin;refine jio jrb rfl _ _ rfl (w.heap.size+1+1+1) (.slice xq p.ships.length cq) p.ships [⟨1,a,b,c,0,p.next⟩] w'.heap.size 0 1 1 rfl rfl rfl EA.out.q.2.1 RA.out EA.out.q.2.2.1 ZA.out.1 ZA.out.2 ?_;intro v7 w7 hw7;have N7:Hid (_∧_):=NX.out v7 w7 hw7.out;have c7:=N7.out.1.cells.2.1;have f7:=N7.out.1.frozen 1;obtain⟨x7,cp7,hv7⟩:=jan hw7.out.1;rw [hl] at hv7;subst hv7)
  have N8:Hid (TB w p (.slice va p.ships.length vcap) ⟨kd,a,b,c⟩ g { p with ships:=p.ships++[⟨1,a,b,c,0,p.next⟩] } (.slice x7 (p.ships.length+1) cp7) (w7.setCell ⟨g,1,none⟩ (.slice x7 (p.ships.length+1) cp7))):=N7.out.2
  clear N7 NX c7 f7 hw7 EA RA ZA EX pg1 oc0 oc1 oc2 oc3 pc0 pc1 pc14 pc15 GR
  generalize w7.setCell ⟨g,1,none⟩ (.slice x7 (p.ships.length+1) cp7)=W8 at *
  have pg15:=N8.out.q.1.cells.2.2.2
  have fg15:=N8.out.q.1.frozen 15
  simp only at pg15
  have EQ0:Hid (TB w p (.slice va p.ships.length vcap) ⟨kd,a,b,c⟩ g { p with ships:=p.ships++[⟨1,a,b,c,0,p.next⟩],next:=p.next+1 } (.slice x7 (p.ships.length+1) cp7) (W8.setCell ⟨g,15,none⟩ (.int .i64 (p.next+1)))):=by
   have H:=N8.out.q
   have hb:Below (w.heap.size+1+1+1) W8 (W8.setCell ⟨g,15,none⟩ (.int .i64 (p.next+1))):=(Below.refl _ W8).setCell (p:=⟨g,15,none⟩) H.2.2.2 _
   exact N8.out.turn hb ⟨H.1.setNext _,jcq H.1 H.2.1,Nat.le_trans H.2.2.1 hb.size,H.2.2.2⟩
  go_upto_region 52 with fail
  clear N8 pg15 fg15
  generalize ({ p with ships:=p.ships++[⟨1,a,b,c,0,p.next⟩],next:=p.next+1 }:Pt)=q' at OI0 EQ0
  generalize (.slice x7 (p.ships.length+1) cp7:Value)=vq' at EQ0
  generalize W8.setCell ⟨g,15,none⟩ (.int .i64 (p.next+1))=W' at *
  have OI:=OI0
  have EQ:=EQ0
  clear OI0 EQ0
  have Q0:Hid (ja4 q'∧(okTo q' 300=true↔jaj q')):=⟨jbl HP.out OI.out,jdw (jbl HP.out OI.out)⟩
  have onq:vq'.oneCell'=true:=jam EQ.out.q.2.1
  have hq4:q'.kept.length=4:=EQ.out.q.1.1
  have hql:q'.ships.length≤2932031007317:=by have:=Q0.out.1.len;omega
  have HB:=fun W h=>jb9 (.agg (jaa q' vq').toArray) q' W h Q0.out.1.baseIn
  have PV:Hid (PtV W' (.agg (jaa q' vq').toArray) q'):=⟨vq',rfl,jaz EQ.out.q.2.1,hq4,hql⟩
  generalize hQC:(jaa q' vq').toArray=QC at HB PV
  have HQC:Hid ((jaa q' vq').toArray=QC):=hQC
  clear hQC
  go_wp2_with (refine jac rfl _ rfl g q' vq' rfl EQ.out.q.1 ?_;rw [HQC.out])
  refine(HB _ PV.out).mono ?_
  rintro e wf ⟨f,rfl,hf3,_,hbf⟩
  have EF:Hid (TB w p (.slice va p.ships.length vcap) ⟨kd,a,b,c⟩ g q' vq' wf):=EQ.out.later hbf
  clear hbf EQ HB PV
  generalize hFA:(ic f).toArray=FA at *
  have HFA:Hid ((ic f).toArray=FA):=hFA
  clear hFA
  generalize okTo q' 300=ok at *
  go_upto_region 53 with (first|(refine ja2 rfl rfl 12 rfl ?_;intro wg hwg hsg)|(refine ja1 rfl _ _ rfl wf.heap.size zero300 f rfl (by show Value.agg FA=_;rw [HFA.out]) hwg.out.1 hf3 ?_;intro wh hwh hsh))
  have EX:Hid (TB w p (.slice va p.ships.length vcap) ⟨kd,a,b,c⟩ g q' vq' wh):=EF.out.later (hwg.out.2.trans (hwh.out.2.2 _ (Nat.le_refl _)))
  clear hwg hwh hsg hsh EF
  cases ok
  ·have NP:Hid (¬ jaj q'):=fun h=>by have:=Q0.out.2.2 h;cases this
   go_wp2_with (first|(go_at_call 57;refine(jax w.heap.size p (.slice va p.ships.length vcap) _ _ EX.out.box on0).mono ?_;rintro e we ⟨rfl,hbe⟩;have EY:Hid (TB w p (.slice va p.ships.length vcap) ⟨kd,a,b,c⟩ g q' vq' we):=EX.out.later hbe;clear hbe)|(refine jab rfl _ _ rfl (w.heap.size+1+1) jaf p (.slice none 0 0) (.slice va p.ships.length vcap) rfl rfl EY.out.out h4 on0 ?_;intro w9 hw9 hs9))
   refine bodyPost_ret (v:=.tuple #[.agg (jaa p (.slice va p.ships.length vcap)).toArray,.int .i64 0,.int .i64 6]) (jad Tryz.results35 _ _ (w.heap.size+1+1) p (.slice va p.ships.length vcap) rfl hw9.out.1) rfl ?_
   exact FIN.out 6 (by decide) _ (Or.inr ⟨HP.out,p.ships.length,0,q',OI.out,Or.inr (Or.inl ⟨rfl,NP.out,rfl,rfl,rfl⟩)⟩) (EY.out.below.trans (hw9.out.2.2 _ (by omega)))
  ·have YP:Hid (jaj q'):=Q0.out.2.1 rfl
   go_wp2_with (first|(refine jac rfl _ rfl g q' vq' rfl EX.out.q.1 ?_)|(refine jab rfl _ _ rfl (w.heap.size+1+1) jaf q' (.slice none 0 0) vq' rfl rfl EX.out.out hq4 onq ?_;intro w9 hw9 hs9))
   refine bodyPost_ret (v:=.tuple #[.agg (jaa q' vq').toArray,.int .i64 p.ships.length,.int .i64 0]) (jad Tryz.results35 _ _ (w.heap.size+1+1) q' vq' rfl hw9.out.1) rfl ?_
   exact⟨q',vq',p.ships.length,0,rfl,Or.inr ⟨HP.out,p.ships.length,0,q',OI.out,Or.inr (Or.inr ⟨rfl,YP.out,rfl,rfl,rfl⟩)⟩,hq4,hql,jaz (jal EX.out.q.2.1 (fun k hk=>hw9.out.2.1 k (by omega))),EX.out.below.trans (hw9.out.2.2 _ (by omega)),fun _=>jc0 EX.out.q.2.1 (by omega)⟩
end Go.Proofs.YtcmdoeledmkfmacGreatDoor
