/- Texts of this claim, in one: RefTMf RefTMg RefTMh. -/
import Derived.Test.YtcmdoeledmkfmacGreatDoorSI
set_option linter.unusedSimpArgs false
set_option linter.unusedVariables false
set_option maxHeartbeats 40000000
set_option maxRecDepth 100000
namespace Go.Proofs.YtcmdoeledmkfmacGreatDoor
open Go.RowKit
theorem jve (v:Value) (p:Pt) (kd a b c:Int) (w:World) (hv:PtV w v p) (hp:jaj p) (hc:(kd=5∧(0≤a∧a≤(p.ships.length:Int) - 1)∧¬ (1≤b∧b≤300))) :
  Calls Tryz.prog 35 #[v,.agg #[.int .i64 kd,.int .i64 a,.int .i64 b,.int .i64 c]] w fun e w'=>jbe w (ja0 (jai p ⟨kd,a,b,c⟩) p) e w':=by
 have HC:Hid ((kd=5∧(0≤a∧a≤(p.ships.length:Int) - 1)∧¬ (1≤b∧b≤300))):=hc
 clear hc
 obtain⟨vs,rfl,hsl,h4,hmx⟩:=hv
 have HV:Hid (PtV w (.agg (jaa p vs).toArray) p):=⟨vs,rfl,hsl,h4,hmx⟩
 have HS0:Hid (SlK cShip w vs p.ships):=hsl
 have on0:vs.oneCell'=true:=by obtain⟨a,cap,rfl,_⟩:=hsl;rfl
 have X1:=PBox.new w p vs h4
 have HG:=fun W h=>jbx (.agg (jaa p vs).toArray) p W h
 have HW:=fun W h=>jb3 (.agg (jaa p vs).toArray) p W h
 obtain⟨va,vcap,hve⟩:∃ a cap,vs=.slice a p.ships.length cap:=by obtain⟨a,cap,e,_⟩:=hsl;exact⟨a,cap,e⟩
 subst hve
 clear hsl
 generalize hPC:(jaa p (.slice va p.ships.length vcap)).toArray=PC at *
 have HPC:Hid ((jaa p (.slice va p.ships.length vcap)).toArray=PC):=hPC
 clear hPC
 have hz1:(w.alloc (.cells PC 41)).heap.size=w.heap.size+1:=by simp
 have O1:=OBox.new (w.alloc (.cells PC 41)) ⟨kd,a,b,c⟩
 rw [hz1] at O1
 have hz2:((w.alloc (.cells PC 41)).alloc (.cells #[.int .i64 kd,.int .i64 a,.int .i64 b,.int .i64 c] 61)).heap.size=w.heap.size+1+1:=by simp
 have X0:Hid (PBox ((w.alloc (.cells PC 41)).alloc (.cells #[.int .i64 kd,.int .i64 a,.int .i64 b,.int .i64 c] 61)) w.heap.size p (.slice va p.ships.length vcap)∧OBox ((w.alloc (.cells PC 41)).alloc (.cells #[.int .i64 kd,.int .i64 a,.int .i64 b,.int .i64 c] 61)) (w.heap.size+1) ⟨kd,a,b,c⟩):=⟨X1.later ((Below.refl _ _).alloc (Nat.le_refl _) _) X1.lt,O1⟩
 have B0:Hid (Below w.heap.size w ((w.alloc (.cells PC 41)).alloc (.cells #[.int .i64 kd,.int .i64 a,.int .i64 b,.int .i64 c] 61))):=((Below.refl _ w).alloc (Nat.le_refl _) _).alloc (by omega) _
 have HZ2:Hid (((w.alloc (.cells PC 41)).alloc (.cells #[.int .i64 kd,.int .i64 a,.int .i64 b,.int .i64 c] 61)).heap.size=w.heap.size+1+1):=hz2
 clear X1 O1 hz1 hz2
 generalize hW0:(w.alloc (.cells PC 41)).alloc (.cells #[.int .i64 kd,.int .i64 a,.int .i64 b,.int .i64 c] 61)=W0 at *
 go_enter Tryz.func35,Tryz.ntmps35
 go_upto_region 1 with (first|(rw [hW0])|(refine jah rfl rfl 4 rfl ?_;intro w1 hw1 hs1))
 rw [HZ2.out] at hw1 hs1 ⊢
 have T1:Hid (Below w.heap.size w w1∧PBox w1 w.heap.size p (.slice va p.ships.length vcap)∧OBox w1 (w.heap.size+1) ⟨kd,a,b,c⟩∧PBox w1 (w.heap.size+1+1) jaf (.slice none 0 0)∧w1.heap.size=w.heap.size+1+1+1):=⟨B0.out.trans (hw1.out.2.mono (by omega)),X0.out.1.later hw1.out.2 (by omega),X0.out.2.later hw1.out.2 (by omega),hw1.out.1,hs1⟩
 clear hw1 hs1 X0 B0 HZ2 hW0
 go_wp2_with (refine jac rfl _ rfl w.heap.size p (.slice va p.ships.length vcap) rfl T1.out.2.1 ?_;rw [HPC.out])
 refine(HG _ (HV.out.below T1.out.1)).mono ?_
 rintro e w2 ⟨⟨b2,rfl,hb2⟩,hw2⟩
 have T2:Hid (Below w.heap.size w w2∧PBox w2 w.heap.size p (.slice va p.ships.length vcap)∧OBox w2 (w.heap.size+1) ⟨kd,a,b,c⟩∧PBox w2 (w.heap.size+1+1) jaf (.slice none 0 0)∧w.heap.size+1+1+1≤w2.heap.size):=⟨T1.out.1.trans (hw2.mono (by have:=T1.out.2.2.2.2;omega)),T1.out.2.1.later hw2 T1.out.2.1.lt,T1.out.2.2.1.later hw2 T1.out.2.2.1.lt,T1.out.2.2.2.1.later hw2 T1.out.2.2.2.1.lt,by have:=T1.out.2.2.2.2;have:=hw2.size;omega⟩
 have HB:Hid (b2=true↔jaj p):=hb2
 clear T1 hw2 hb2 HG
 obtain rfl:b2=true:=HB.out.2 hp
 have HP:Hid (jaj p):=hp
 have hlen:p.ships.length < 15:=hp.port.len
 obtain⟨hnow0,hnow1⟩:=hp.port.now
 clear hp HB
 go_upto_region 4 with fail
 go_wp2_with (refine jac rfl _ rfl w.heap.size p (.slice va p.ships.length vcap) rfl T2.out.2.1 ?_;rw [HPC.out])
 refine(HW _ (HV.out.below T2.out.1)).mono ?_
 rintro e w3 ⟨vq,rfl,hro,hb3⟩
 have T3:Hid (Below w.heap.size w w3∧PBox w3 w.heap.size p (.slice va p.ships.length vcap)∧OBox w3 (w.heap.size+1) ⟨kd,a,b,c⟩∧PBox w3 (w.heap.size+1+1) jaf (.slice none 0 0)∧w3.ownsRow (w.heap.size+1+1+1) 46 6 vq p.ships.length (jae cShip p.ships)∧w.heap.size+1+1+1≤w3.heap.size):=⟨T2.out.1.trans (hb3.mono (by have:=T2.out.2.2.2.2;omega)),T2.out.2.1.later hb3 T2.out.2.1.lt,T2.out.2.2.1.later hb3 T2.out.2.2.1.lt,T2.out.2.2.2.1.later hb3 T2.out.2.2.2.1.lt,jar hro T2.out.2.2.2.2,by have:=T2.out.2.2.2.2;have:=hb3.size;omega⟩
 have on:=jam hro
 obtain⟨xq,cq,hvq⟩:=jan hro
 subst hvq
 clear T2 hro hb3 HW
 go_upto_region 5 with (first|(refine jah rfl rfl 8 rfl ?_;intro w4 hw4 hs4)|(refine jab rfl _ _ rfl w3.heap.size jaf p (.slice none 0 0) (.slice xq p.ships.length cq) rfl rfl hw4.out.1 h4 on ?_;intro w5 hw5 hs5))
 have EX:Hid (TB w p (.slice va p.ships.length vcap) ⟨kd,a,b,c⟩ w3.heap.size p (.slice xq p.ships.length cq) w5):=by
  have hb:Below w3.heap.size w3 w5:=hw4.out.2.trans (hw5.out.2.2 _ (Nat.le_refl _))
  have hz:=T3.out.2.2.2.2.2
  have hzz:=hb.size
  exact⟨T3.out.1.trans (hb.mono (by omega)),T3.out.2.1.later hb (by omega),T3.out.2.2.1.later hb (by omega),T3.out.2.2.2.1.later hb (by omega),hw5.out.1,ownsRow_later T3.out.2.2.2.2.1 hb,by omega,by omega⟩
 have GR:Hid ((Value.slice xq p.ships.length cq).ownBlock≠some w3.heap.size):=fun e=>by
  have:=(T3.out.2.2.2.2.1.lt _ e).2
  omega
 generalize w3.heap.size=g at *
 clear hw4 hw5 hs4 hs5 T3 on
 obtain⟨oc0,oc1,oc2,oc3⟩:=EX.out.ord.cells
 obtain⟨pc0,pc1,pc14,pc15⟩:=EX.out.box.cells
 simp only at oc0 oc1 oc2 oc3
 have FIN:Hid (∀ er,er≠0→∀ w',ja0 (jai p ⟨kd,a,b,c⟩) p 0 er p→Below w.heap.size w w'→jbe w (ja0 (jai p ⟨kd,a,b,c⟩) p) (.returned (.tuple #[.agg (jaa p (.slice va p.ships.length vcap)).toArray,.int .i64 0,.int .i64 er])) w'):=fun er hne w' hT hb=>⟨p,(.slice va p.ships.length vcap),0,er,rfl,hT,h4,hmx,HS0.out.below hb,hb,fun h=>absurd h hne⟩
 have REF:Hid (∀ er,er≠0→(∃ n q',jai p ⟨kd,a,b,c⟩ n er q')→ja0 (jai p ⟨kd,a,b,c⟩) p 0 er p):=fun er h0 ⟨n,q',h⟩=>Or.inr ⟨HP.out,n,er,q',h,Or.inl ⟨h0,rfl,rfl,rfl⟩⟩
 clear HS0 HV
 have hc:=HC.out
 clear HC
 ·obtain⟨hkd,hc,hx⟩:=hc
  obtain⟨j,rfl⟩:∃ j:Nat,a=j:=⟨a.toNat,by omega⟩
  have hj:j < p.ships.length:=by omega
  have HK:Hid (¬ (1≤b∧b≤300)):=hx
  subst hkd
  clear hx
  clear hc
  have hj3:(j:Int) < (p.ships.length:Int):=by omega
  have hj0:(0:Int)≤(j:Int):=by omega
  have b1:inR (j:Int) 0 ((p.ships.length:Int) - 1)=true:=decide_eq_true ⟨by omega,by omega⟩
  have pg1:=EX.out.q.1.cells.2.1
  obtain⟨s,hs0⟩:∃ s,p.ships[j]?=some s:=⟨p.ships[j],List.getElem?_eq_getElem hj⟩
  have HS:Hid (p.ships[j]?=some s):=hs0
  have SH:Hid (jce s p.now):=(HP.out.port.ship s (List.mem_of_getElem? hs0)).1
  obtain⟨bq,rfl⟩:∃ b,xq=some ⟨b,0,none⟩:=by
   obtain⟨b,c',e,_⟩:=OwnK.ofRow EX.out.q.2.1 (by intro e;injection e with _ e _;omega)
   injection e with e1 e2 e3
   exact⟨b,e1⟩
  clear hs0
  go_upto_region 23 with (go_at_call 31;refine(jag _ _ _ _).mono ?_;rintro e w' ⟨rfl,rfl⟩)
  clear pg1 pc0 pc1 pc14 pc15 oc1 oc2 oc3
  have M0:Hid (MapT (w'.alloc (.map #[] 0)) w'.heap.size 0 (fun _=>[])∧Below w'.heap.size w' (w'.alloc (.map #[] 0))):=⟨MapT.made w',(Below.refl _ w').alloc (Nat.le_refl _) _⟩
  have ocM:(w'.alloc (.map #[] 0)).cell? ⟨w.heap.size+1,0,none⟩=some (.int .i64 5):=(EX.out.later M0.out.2).ord.cells.1
  have hmm:=@run_makeMap Tryz.prog
  go_upto_region 24 with (first|(refine jap rfl _ _ _ rfl w'.heap.size 0 (fun _=>[]) 2 ⟨#[49,50,51]⟩ rfl rfl rfl M0.out.1 mxK.1.1 wfK.1 mxK.2.1 ?_;intro wm1 hm1)|(refine jap rfl _ _ _ rfl w'.heap.size 1 _ 3 ⟨#[49]⟩ rfl rfl rfl hm1.out.1 mxK.1.2.1 wfK.2.1 mxK.2.2.1 ?_;intro wm2 hm2)|(refine jap rfl _ _ _ rfl w'.heap.size 2 _ 4 ⟨#[50]⟩ rfl rfl rfl hm2.out.1 mxK.1.2.2.1 wfK.2.2.1 mxK.2.2.2 ?_;intro wm3 hm3)|(refine jap rfl _ _ _ rfl w'.heap.size 3 _ 5 ⟨#[49,50,51]⟩ rfl rfl rfl hm3.out.1 mxK.1.2.2.2 wfK.2.2.2 mxK.2.1 ?_;intro wm4 hm4;have HM4:Hid (MapT wm4 w'.heap.size 4 mayF):=hm4.out.1;have BM4:Hid (Below w'.heap.size w' wm4):=(M0.out.2.trans (hm1.out.2 _ (Nat.le_refl _))).trans (((hm2.out.2 _ (Nat.le_refl _)).trans (hm3.out.2 _ (Nat.le_refl _))).trans (hm4.out.2 _ (Nat.le_refl _)));have oc4:wm4.cell? ⟨w.heap.size+1,0,none⟩=some (.int .i64 5):=(EX.out.later BM4.out).ord.cells.1;clear hm1 hm2 hm3 hm4 M0 ocM)|(refine jcc rfl _ _ rfl w'.heap.size 4 mayF 5 rfl rfl HM4.out wfK.2.2.2 ?_))
  have EM0:=EX.out.later BM4.out
  have EM:Hid (TB w p (.slice va p.ships.length vcap) ⟨5,(j:Int),b,c⟩ g p (.slice (some ⟨bq,0,none⟩) p.ships.length cq) wm4):=EM0
  clear EX HM4 BM4 EM0 oc0 hmm
  obtain⟨⟨c0,c2,c4⟩,cf,cB,cne⟩:=EM.out.q.cell HS.out
  have hst:=SH.out.st
  have CV:=fun n=>conv1 wm4 n
  have EZ:Hid (∀ n,TB w p (.slice va p.ships.length vcap) ⟨5,(j:Int),b,c⟩ g p (.slice (some ⟨bq,0,none⟩) p.ships.length cq) (wm4.alloc (.cells #[.int .u8 n] 5))):=fun n=>EM.out.later ((Below.refl _ wm4).alloc (Nat.le_refl _) _)
  go_cut [118,128] (fun s118 s128 wc=>∃ bad:Bool,s128=.bool bad∧Hid (TB w p (.slice va p.ships.length vcap) ⟨5,(j:Int),b,c⟩ g p (.slice (some ⟨bq,0,none⟩) p.ships.length cq) wc∧(bad=false↔(s.st≠4))))
  case first =>
   obtain h|h|h|h:s.st=1∨s.st=2∨s.st=3∨s.st=4:=by omega
   ·rw [h] at c0
    have cv:(convert 88 9 (.slice (some ⟨wm4.heap.size,0,none⟩) 1 1)).run Tryz.prog (wm4.alloc (.cells #[.int .u8 49] 5))=.ok (.string ⟨#[49]⟩) (wm4.alloc (.cells #[.int .u8 49] 5)):=CV 49
    have EX:Hid (TB w p (.slice va p.ships.length vcap) ⟨5,(j:Int),b,c⟩ g p (.slice (some ⟨bq,0,none⟩) p.ships.length cq) (wm4.alloc (.cells #[.int .u8 49] 5))):=EZ.out 49
    have CT:∀ W,Calls Tryz.prog 58 #[.string ⟨(mayF 5).toArray⟩,.string ⟨#[49]⟩] W fun e w'=>e=.returned (.bool true)∧w'=W:=fun W=>by have h:=jas ⟨(mayF 5).toArray⟩ 49 W;rw [may5.1] at h;exact h
    have HST:Hid (s.st=1):=h
    clear CV EZ EM h
    go_wp2_with (go_at_call 58;refine(CT _).mono ?_;rintro e w' ⟨rfl,rfl⟩)
    go_meet
    exact⟨false,rfl,EX.out,by have h:=HST.out;simp [h]⟩
   ·rw [h] at c0
    have cv:(convert 88 9 (.slice (some ⟨wm4.heap.size,0,none⟩) 1 1)).run Tryz.prog (wm4.alloc (.cells #[.int .u8 50] 5))=.ok (.string ⟨#[50]⟩) (wm4.alloc (.cells #[.int .u8 50] 5)):=CV 50
    have EX:Hid (TB w p (.slice va p.ships.length vcap) ⟨5,(j:Int),b,c⟩ g p (.slice (some ⟨bq,0,none⟩) p.ships.length cq) (wm4.alloc (.cells #[.int .u8 50] 5))):=EZ.out 50
    have CT:∀ W,Calls Tryz.prog 58 #[.string ⟨(mayF 5).toArray⟩,.string ⟨#[50]⟩] W fun e w'=>e=.returned (.bool true)∧w'=W:=fun W=>by have h:=jas ⟨(mayF 5).toArray⟩ 50 W;rw [may5.2.1] at h;exact h
    have HST:Hid (s.st=2):=h
    clear CV EZ EM h
    go_wp2_with (go_at_call 58;refine(CT _).mono ?_;rintro e w' ⟨rfl,rfl⟩)
    go_meet
    exact⟨false,rfl,EX.out,by have h:=HST.out;simp [h]⟩
   ·rw [h] at c0
    have cv:(convert 88 9 (.slice (some ⟨wm4.heap.size,0,none⟩) 1 1)).run Tryz.prog (wm4.alloc (.cells #[.int .u8 51] 5))=.ok (.string ⟨#[51]⟩) (wm4.alloc (.cells #[.int .u8 51] 5)):=CV 51
    have EX:Hid (TB w p (.slice va p.ships.length vcap) ⟨5,(j:Int),b,c⟩ g p (.slice (some ⟨bq,0,none⟩) p.ships.length cq) (wm4.alloc (.cells #[.int .u8 51] 5))):=EZ.out 51
    have CT:∀ W,Calls Tryz.prog 58 #[.string ⟨(mayF 5).toArray⟩,.string ⟨#[51]⟩] W fun e w'=>e=.returned (.bool true)∧w'=W:=fun W=>by have h:=jas ⟨(mayF 5).toArray⟩ 51 W;rw [may5.2.2.1] at h;exact h
    have HST:Hid (s.st=3):=h
    clear CV EZ EM h
    go_wp2_with (go_at_call 58;refine(CT _).mono ?_;rintro e w' ⟨rfl,rfl⟩)
    go_meet
    exact⟨false,rfl,EX.out,by have h:=HST.out;simp [h]⟩
   ·rw [h] at c0
    have cv:(convert 88 9 (.slice (some ⟨wm4.heap.size,0,none⟩) 1 1)).run Tryz.prog (wm4.alloc (.cells #[.int .u8 52] 5))=.ok (.string ⟨#[52]⟩) (wm4.alloc (.cells #[.int .u8 52] 5)):=CV 52
    have EX:Hid (TB w p (.slice va p.ships.length vcap) ⟨5,(j:Int),b,c⟩ g p (.slice (some ⟨bq,0,none⟩) p.ships.length cq) (wm4.alloc (.cells #[.int .u8 52] 5))):=EZ.out 52
    have CT:∀ W,Calls Tryz.prog 58 #[.string ⟨(mayF 5).toArray⟩,.string ⟨#[52]⟩] W fun e w'=>e=.returned (.bool false)∧w'=W:=fun W=>by have h:=jas ⟨(mayF 5).toArray⟩ 52 W;rw [may5.2.2.2] at h;exact h
    have HST:Hid (s.st=4):=h
    clear CV EZ EM h
    go_wp2_with (go_at_call 58;refine(CT _).mono ?_;rintro e w' ⟨rfl,rfl⟩)
    go_meet
    exact⟨true,rfl,EX.out,by have h:=HST.out;simp [h]⟩
  case rest =>
   clear EM EZ CV c0 c2 c4 cf cB cne
   obtain⟨bad,rfl,HC⟩:=hcut
   have EX:Hid (TB w p (.slice va p.ships.length vcap) ⟨5,(j:Int),b,c⟩ g p (.slice (some ⟨bq,0,none⟩) p.ships.length cq) wc):=HC.out.1
   cases bad
   case true =>
    have ST:Hid (¬ (s.st≠4)):=fun h=>by have:=HC.out.2.2 h;cases this
    have UN:Hid (jai p ⟨5,(j:Int),b,c⟩ 0 4 p):=by
     unfold jai
     rw [if_neg (by simp),if_pos (by simp)]
     refine⟨rfl,jei hj HS.out ?_⟩
     have h:=ST.out
     try simp at h
     simp [moveS,turnF,h]
    clear HC ST
    go_wp2_with (go_at_call 31;refine(jag _ _ _ _).mono ?_;rintro e w' ⟨rfl,rfl⟩)
    go_wp2_with (first|(go_at_call 57;refine(jax w.heap.size p (.slice va p.ships.length vcap) _ _ EX.out.box on0).mono ?_;rintro e we ⟨rfl,hbe⟩;have EY:Hid (TB w p (.slice va p.ships.length vcap) ⟨5,(j:Int),b,c⟩ g p (.slice (some ⟨bq,0,none⟩) p.ships.length cq) we):=EX.out.later hbe;clear hbe)|(refine jab rfl _ _ rfl (w.heap.size+1+1) jaf p (.slice none 0 0) (.slice va p.ships.length vcap) rfl rfl EY.out.out h4 on0 ?_;intro w9 hw9 hs9))
    refine bodyPost_ret (v:=.tuple #[.agg (jaa p (.slice va p.ships.length vcap)).toArray,.int .i64 0,.int .i64 4]) (jad Tryz.results35 _ _ (w.heap.size+1+1) p (.slice va p.ships.length vcap) rfl hw9.out.1) rfl ?_
    exact FIN.out 4 (by decide) _ (REF.out 4 (by decide) ⟨0,p,UN.out⟩) (EY.out.below.trans (hw9.out.2.2 _ (by omega)))
   have ST:Hid (s.st≠4):=HC.out.2.1 rfl
   clear HC
   obtain⟨oc0,oc1,oc2,oc3⟩:=EX.out.ord.cells
   obtain⟨⟨c0,c2,c4⟩,cf,cB,cne⟩:=EX.out.q.cell HS.out
   simp only at oc0 oc1 oc2 oc3
   have f0:=cf (j*6)
   have f2:=cf (j*6+2)
   have f4:=cf (j*6+4)
   have pc0:=EX.out.box.cells.1
   have hsl:=SH.out.lg
   rcases jbz b 1 300 with b2|b2
   case inr =>
    have NC:Hid (¬ ((1≤b∧b≤300)∧(s.st=3→s.si+b≤300∧p.now < s.si+b))):=fun h=>jb0 b2 h.1
    have WI1:∀ W,Calls Tryz.prog 31 #[.int .i64 b,.int .i64 1,.int .i64 300] W fun e w'=>e=.returned (.bool false)∧w'=W:=fun W=>by have h:=jag b 1 300 W;rw [b2] at h;exact h
    have WI2:=WI1
    have UN:Hid (jai p ⟨5,(j:Int),b,c⟩ 0 2 p):=by
     unfold jai
     rw [if_neg (by simp),if_pos (by simp)]
     refine⟨rfl,jei hj HS.out ?_⟩
     have h:=ST.out
     simp only [moveS,jdb]
     rw [if_neg h,if_neg (by decide),if_neg (by decide),if_neg (by decide),if_neg NC.out]
    go_upto_region 27 with fail
    go_quiet (first|(go_at_call 31;exact Calls.quiet_of_same (WI1 _))|(go_at_call 31;exact Calls.quiet_of_same (WI2 _)))
    have EX2:Hid (TB w p (.slice va p.ships.length vcap) ⟨5,(j:Int),b,c⟩ g p (.slice (some ⟨bq,0,none⟩) p.ships.length cq) (wc.drewN nq)):=EX.out.later (below_drewN (Below.refl _ _) nq)
    clear EX
    have EX:=EX2
    clear EX2 c0 c2 c4 oc0 oc1 oc2 oc3 pc0 f0 f2 f4
    generalize wc.drewN nq=wq at *
    go_wp2_with (first|(go_at_call 57;refine(jax w.heap.size p (.slice va p.ships.length vcap) _ _ EX.out.box on0).mono ?_;rintro e we ⟨rfl,hbe⟩;have EY:Hid (TB w p (.slice va p.ships.length vcap) ⟨5,(j:Int),b,c⟩ g p (.slice (some ⟨bq,0,none⟩) p.ships.length cq) we):=EX.out.later hbe;clear hbe)|(refine jab rfl _ _ rfl (w.heap.size+1+1) jaf p (.slice none 0 0) (.slice va p.ships.length vcap) rfl rfl EY.out.out h4 on0 ?_;intro w9 hw9 hs9))
    refine bodyPost_ret (v:=.tuple #[.agg (jaa p (.slice va p.ships.length vcap)).toArray,.int .i64 0,.int .i64 2]) (jad Tryz.results35 _ _ (w.heap.size+1+1) p (.slice va p.ships.length vcap) rfl hw9.out.1) rfl ?_
    exact FIN.out 2 (by decide) _ (REF.out 2 (by decide) ⟨0,p,UN.out⟩) (EY.out.below.trans (hw9.out.2.2 _ (by omega)))
   exact absurd (jba b2) HK.out
theorem jvd (v:Value) (p:Pt) (kd a b c:Int) (w:World) (hv:PtV w v p) (hp:jaj p) (hc:(kd=5∧(0≤a∧a≤(p.ships.length:Int) - 1)∧(1≤b∧b≤300)∧∀ s,p.ships[a.toNat]?=some s→s.st≠3)) :
  Calls Tryz.prog 35 #[v,.agg #[.int .i64 kd,.int .i64 a,.int .i64 b,.int .i64 c]] w fun e w'=>jbe w (ja0 (jai p ⟨kd,a,b,c⟩) p) e w':=by
 have HC:Hid ((kd=5∧(0≤a∧a≤(p.ships.length:Int) - 1)∧(1≤b∧b≤300)∧∀ s,p.ships[a.toNat]?=some s→s.st≠3)):=hc
 clear hc
 obtain⟨vs,rfl,hsl,h4,hmx⟩:=hv
 have HV:Hid (PtV w (.agg (jaa p vs).toArray) p):=⟨vs,rfl,hsl,h4,hmx⟩
 have HS0:Hid (SlK cShip w vs p.ships):=hsl
 have on0:vs.oneCell'=true:=by obtain⟨a,cap,rfl,_⟩:=hsl;rfl
 have X1:=PBox.new w p vs h4
 have HG:=fun W h=>jbx (.agg (jaa p vs).toArray) p W h
 have HW:=fun W h=>jb3 (.agg (jaa p vs).toArray) p W h
 obtain⟨va,vcap,hve⟩:∃ a cap,vs=.slice a p.ships.length cap:=by obtain⟨a,cap,e,_⟩:=hsl;exact⟨a,cap,e⟩
 subst hve
 clear hsl
 generalize hPC:(jaa p (.slice va p.ships.length vcap)).toArray=PC at *
 have HPC:Hid ((jaa p (.slice va p.ships.length vcap)).toArray=PC):=hPC
 clear hPC
 have hz1:(w.alloc (.cells PC 41)).heap.size=w.heap.size+1:=by simp
 have O1:=OBox.new (w.alloc (.cells PC 41)) ⟨kd,a,b,c⟩
 rw [hz1] at O1
 have hz2:((w.alloc (.cells PC 41)).alloc (.cells #[.int .i64 kd,.int .i64 a,.int .i64 b,.int .i64 c] 61)).heap.size=w.heap.size+1+1:=by simp
 have X0:Hid (PBox ((w.alloc (.cells PC 41)).alloc (.cells #[.int .i64 kd,.int .i64 a,.int .i64 b,.int .i64 c] 61)) w.heap.size p (.slice va p.ships.length vcap)∧OBox ((w.alloc (.cells PC 41)).alloc (.cells #[.int .i64 kd,.int .i64 a,.int .i64 b,.int .i64 c] 61)) (w.heap.size+1) ⟨kd,a,b,c⟩):=⟨X1.later ((Below.refl _ _).alloc (Nat.le_refl _) _) X1.lt,O1⟩
 have B0:Hid (Below w.heap.size w ((w.alloc (.cells PC 41)).alloc (.cells #[.int .i64 kd,.int .i64 a,.int .i64 b,.int .i64 c] 61))):=((Below.refl _ w).alloc (Nat.le_refl _) _).alloc (by omega) _
 have HZ2:Hid (((w.alloc (.cells PC 41)).alloc (.cells #[.int .i64 kd,.int .i64 a,.int .i64 b,.int .i64 c] 61)).heap.size=w.heap.size+1+1):=hz2
 clear X1 O1 hz1 hz2
 generalize hW0:(w.alloc (.cells PC 41)).alloc (.cells #[.int .i64 kd,.int .i64 a,.int .i64 b,.int .i64 c] 61)=W0 at *
 go_enter Tryz.func35,Tryz.ntmps35
 go_upto_region 1 with (first|(rw [hW0])|(refine jah rfl rfl 4 rfl ?_;intro w1 hw1 hs1))
 rw [HZ2.out] at hw1 hs1 ⊢
 have T1:Hid (Below w.heap.size w w1∧PBox w1 w.heap.size p (.slice va p.ships.length vcap)∧OBox w1 (w.heap.size+1) ⟨kd,a,b,c⟩∧PBox w1 (w.heap.size+1+1) jaf (.slice none 0 0)∧w1.heap.size=w.heap.size+1+1+1):=⟨B0.out.trans (hw1.out.2.mono (by omega)),X0.out.1.later hw1.out.2 (by omega),X0.out.2.later hw1.out.2 (by omega),hw1.out.1,hs1⟩
 clear hw1 hs1 X0 B0 HZ2 hW0
 go_wp2_with (refine jac rfl _ rfl w.heap.size p (.slice va p.ships.length vcap) rfl T1.out.2.1 ?_;rw [HPC.out])
 refine(HG _ (HV.out.below T1.out.1)).mono ?_
 rintro e w2 ⟨⟨b2,rfl,hb2⟩,hw2⟩
 have T2:Hid (Below w.heap.size w w2∧PBox w2 w.heap.size p (.slice va p.ships.length vcap)∧OBox w2 (w.heap.size+1) ⟨kd,a,b,c⟩∧PBox w2 (w.heap.size+1+1) jaf (.slice none 0 0)∧w.heap.size+1+1+1≤w2.heap.size):=⟨T1.out.1.trans (hw2.mono (by have:=T1.out.2.2.2.2;omega)),T1.out.2.1.later hw2 T1.out.2.1.lt,T1.out.2.2.1.later hw2 T1.out.2.2.1.lt,T1.out.2.2.2.1.later hw2 T1.out.2.2.2.1.lt,by have:=T1.out.2.2.2.2;have:=hw2.size;omega⟩
 have HB:Hid (b2=true↔jaj p):=hb2
 clear T1 hw2 hb2 HG
 obtain rfl:b2=true:=HB.out.2 hp
 have HP:Hid (jaj p):=hp
 have hlen:p.ships.length < 15:=hp.port.len
 obtain⟨hnow0,hnow1⟩:=hp.port.now
 clear hp HB
 go_upto_region 4 with fail
 go_wp2_with (refine jac rfl _ rfl w.heap.size p (.slice va p.ships.length vcap) rfl T2.out.2.1 ?_;rw [HPC.out])
 refine(HW _ (HV.out.below T2.out.1)).mono ?_
 rintro e w3 ⟨vq,rfl,hro,hb3⟩
 have T3:Hid (Below w.heap.size w w3∧PBox w3 w.heap.size p (.slice va p.ships.length vcap)∧OBox w3 (w.heap.size+1) ⟨kd,a,b,c⟩∧PBox w3 (w.heap.size+1+1) jaf (.slice none 0 0)∧w3.ownsRow (w.heap.size+1+1+1) 46 6 vq p.ships.length (jae cShip p.ships)∧w.heap.size+1+1+1≤w3.heap.size):=⟨T2.out.1.trans (hb3.mono (by have:=T2.out.2.2.2.2;omega)),T2.out.2.1.later hb3 T2.out.2.1.lt,T2.out.2.2.1.later hb3 T2.out.2.2.1.lt,T2.out.2.2.2.1.later hb3 T2.out.2.2.2.1.lt,jar hro T2.out.2.2.2.2,by have:=T2.out.2.2.2.2;have:=hb3.size;omega⟩
 have on:=jam hro
 obtain⟨xq,cq,hvq⟩:=jan hro
 subst hvq
 clear T2 hro hb3 HW
 go_upto_region 5 with (first|(refine jah rfl rfl 8 rfl ?_;intro w4 hw4 hs4)|(refine jab rfl _ _ rfl w3.heap.size jaf p (.slice none 0 0) (.slice xq p.ships.length cq) rfl rfl hw4.out.1 h4 on ?_;intro w5 hw5 hs5))
 have EX:Hid (TB w p (.slice va p.ships.length vcap) ⟨kd,a,b,c⟩ w3.heap.size p (.slice xq p.ships.length cq) w5):=by
  have hb:Below w3.heap.size w3 w5:=hw4.out.2.trans (hw5.out.2.2 _ (Nat.le_refl _))
  have hz:=T3.out.2.2.2.2.2
  have hzz:=hb.size
  exact⟨T3.out.1.trans (hb.mono (by omega)),T3.out.2.1.later hb (by omega),T3.out.2.2.1.later hb (by omega),T3.out.2.2.2.1.later hb (by omega),hw5.out.1,ownsRow_later T3.out.2.2.2.2.1 hb,by omega,by omega⟩
 have GR:Hid ((Value.slice xq p.ships.length cq).ownBlock≠some w3.heap.size):=fun e=>by
  have:=(T3.out.2.2.2.2.1.lt _ e).2
  omega
 generalize w3.heap.size=g at *
 clear hw4 hw5 hs4 hs5 T3 on
 obtain⟨oc0,oc1,oc2,oc3⟩:=EX.out.ord.cells
 obtain⟨pc0,pc1,pc14,pc15⟩:=EX.out.box.cells
 simp only at oc0 oc1 oc2 oc3
 have FIN:Hid (∀ er,er≠0→∀ w',ja0 (jai p ⟨kd,a,b,c⟩) p 0 er p→Below w.heap.size w w'→jbe w (ja0 (jai p ⟨kd,a,b,c⟩) p) (.returned (.tuple #[.agg (jaa p (.slice va p.ships.length vcap)).toArray,.int .i64 0,.int .i64 er])) w'):=fun er hne w' hT hb=>⟨p,(.slice va p.ships.length vcap),0,er,rfl,hT,h4,hmx,HS0.out.below hb,hb,fun h=>absurd h hne⟩
 have REF:Hid (∀ er,er≠0→(∃ n q',jai p ⟨kd,a,b,c⟩ n er q')→ja0 (jai p ⟨kd,a,b,c⟩) p 0 er p):=fun er h0 ⟨n,q',h⟩=>Or.inr ⟨HP.out,n,er,q',h,Or.inl ⟨h0,rfl,rfl,rfl⟩⟩
 clear HS0 HV
 have hc:=HC.out
 clear HC
 ·obtain⟨hkd,hc,hx⟩:=hc
  obtain⟨j,rfl⟩:∃ j:Nat,a=j:=⟨a.toNat,by omega⟩
  have hj:j < p.ships.length:=by omega
  simp only [Int.toNat_natCast] at hx
  have HK:Hid ((1≤b∧b≤300)∧∀ s,p.ships[j]?=some s→s.st≠3):=hx
  subst hkd
  clear hx
  clear hc
  have hj3:(j:Int) < (p.ships.length:Int):=by omega
  have hj0:(0:Int)≤(j:Int):=by omega
  have b1:inR (j:Int) 0 ((p.ships.length:Int) - 1)=true:=decide_eq_true ⟨by omega,by omega⟩
  have pg1:=EX.out.q.1.cells.2.1
  obtain⟨s,hs0⟩:∃ s,p.ships[j]?=some s:=⟨p.ships[j],List.getElem?_eq_getElem hj⟩
  have HS:Hid (p.ships[j]?=some s):=hs0
  have SH:Hid (jce s p.now):=(HP.out.port.ship s (List.mem_of_getElem? hs0)).1
  obtain⟨bq,rfl⟩:∃ b,xq=some ⟨b,0,none⟩:=by
   obtain⟨b,c',e,_⟩:=OwnK.ofRow EX.out.q.2.1 (by intro e;injection e with _ e _;omega)
   injection e with e1 e2 e3
   exact⟨b,e1⟩
  clear hs0
  go_upto_region 23 with (go_at_call 31;refine(jag _ _ _ _).mono ?_;rintro e w' ⟨rfl,rfl⟩)
  clear pg1 pc0 pc1 pc14 pc15 oc1 oc2 oc3
  have M0:Hid (MapT (w'.alloc (.map #[] 0)) w'.heap.size 0 (fun _=>[])∧Below w'.heap.size w' (w'.alloc (.map #[] 0))):=⟨MapT.made w',(Below.refl _ w').alloc (Nat.le_refl _) _⟩
  have ocM:(w'.alloc (.map #[] 0)).cell? ⟨w.heap.size+1,0,none⟩=some (.int .i64 5):=(EX.out.later M0.out.2).ord.cells.1
  have hmm:=@run_makeMap Tryz.prog
  go_upto_region 24 with (first|(refine jap rfl _ _ _ rfl w'.heap.size 0 (fun _=>[]) 2 ⟨#[49,50,51]⟩ rfl rfl rfl M0.out.1 mxK.1.1 wfK.1 mxK.2.1 ?_;intro wm1 hm1)|(refine jap rfl _ _ _ rfl w'.heap.size 1 _ 3 ⟨#[49]⟩ rfl rfl rfl hm1.out.1 mxK.1.2.1 wfK.2.1 mxK.2.2.1 ?_;intro wm2 hm2)|(refine jap rfl _ _ _ rfl w'.heap.size 2 _ 4 ⟨#[50]⟩ rfl rfl rfl hm2.out.1 mxK.1.2.2.1 wfK.2.2.1 mxK.2.2.2 ?_;intro wm3 hm3)|(refine jap rfl _ _ _ rfl w'.heap.size 3 _ 5 ⟨#[49,50,51]⟩ rfl rfl rfl hm3.out.1 mxK.1.2.2.2 wfK.2.2.2 mxK.2.1 ?_;intro wm4 hm4;have HM4:Hid (MapT wm4 w'.heap.size 4 mayF):=hm4.out.1;have BM4:Hid (Below w'.heap.size w' wm4):=(M0.out.2.trans (hm1.out.2 _ (Nat.le_refl _))).trans (((hm2.out.2 _ (Nat.le_refl _)).trans (hm3.out.2 _ (Nat.le_refl _))).trans (hm4.out.2 _ (Nat.le_refl _)));have oc4:wm4.cell? ⟨w.heap.size+1,0,none⟩=some (.int .i64 5):=(EX.out.later BM4.out).ord.cells.1;clear hm1 hm2 hm3 hm4 M0 ocM)|(refine jcc rfl _ _ rfl w'.heap.size 4 mayF 5 rfl rfl HM4.out wfK.2.2.2 ?_))
  have EM0:=EX.out.later BM4.out
  have EM:Hid (TB w p (.slice va p.ships.length vcap) ⟨5,(j:Int),b,c⟩ g p (.slice (some ⟨bq,0,none⟩) p.ships.length cq) wm4):=EM0
  clear EX HM4 BM4 EM0 oc0 hmm
  obtain⟨⟨c0,c2,c4⟩,cf,cB,cne⟩:=EM.out.q.cell HS.out
  have hst:=SH.out.st
  have CV:=fun n=>conv1 wm4 n
  have EZ:Hid (∀ n,TB w p (.slice va p.ships.length vcap) ⟨5,(j:Int),b,c⟩ g p (.slice (some ⟨bq,0,none⟩) p.ships.length cq) (wm4.alloc (.cells #[.int .u8 n] 5))):=fun n=>EM.out.later ((Below.refl _ wm4).alloc (Nat.le_refl _) _)
  go_cut [118,128] (fun s118 s128 wc=>∃ bad:Bool,s128=.bool bad∧Hid (TB w p (.slice va p.ships.length vcap) ⟨5,(j:Int),b,c⟩ g p (.slice (some ⟨bq,0,none⟩) p.ships.length cq) wc∧(bad=false↔(s.st≠4))))
  case first =>
   obtain h|h|h|h:s.st=1∨s.st=2∨s.st=3∨s.st=4:=by omega
   ·rw [h] at c0
    have cv:(convert 88 9 (.slice (some ⟨wm4.heap.size,0,none⟩) 1 1)).run Tryz.prog (wm4.alloc (.cells #[.int .u8 49] 5))=.ok (.string ⟨#[49]⟩) (wm4.alloc (.cells #[.int .u8 49] 5)):=CV 49
    have EX:Hid (TB w p (.slice va p.ships.length vcap) ⟨5,(j:Int),b,c⟩ g p (.slice (some ⟨bq,0,none⟩) p.ships.length cq) (wm4.alloc (.cells #[.int .u8 49] 5))):=EZ.out 49
    have CT:∀ W,Calls Tryz.prog 58 #[.string ⟨(mayF 5).toArray⟩,.string ⟨#[49]⟩] W fun e w'=>e=.returned (.bool true)∧w'=W:=fun W=>by have h:=jas ⟨(mayF 5).toArray⟩ 49 W;rw [may5.1] at h;exact h
    have HST:Hid (s.st=1):=h
    clear CV EZ EM h
    go_wp2_with (go_at_call 58;refine(CT _).mono ?_;rintro e w' ⟨rfl,rfl⟩)
    go_meet
    exact⟨false,rfl,EX.out,by have h:=HST.out;simp [h]⟩
   ·rw [h] at c0
    have cv:(convert 88 9 (.slice (some ⟨wm4.heap.size,0,none⟩) 1 1)).run Tryz.prog (wm4.alloc (.cells #[.int .u8 50] 5))=.ok (.string ⟨#[50]⟩) (wm4.alloc (.cells #[.int .u8 50] 5)):=CV 50
    have EX:Hid (TB w p (.slice va p.ships.length vcap) ⟨5,(j:Int),b,c⟩ g p (.slice (some ⟨bq,0,none⟩) p.ships.length cq) (wm4.alloc (.cells #[.int .u8 50] 5))):=EZ.out 50
    have CT:∀ W,Calls Tryz.prog 58 #[.string ⟨(mayF 5).toArray⟩,.string ⟨#[50]⟩] W fun e w'=>e=.returned (.bool true)∧w'=W:=fun W=>by have h:=jas ⟨(mayF 5).toArray⟩ 50 W;rw [may5.2.1] at h;exact h
    have HST:Hid (s.st=2):=h
    clear CV EZ EM h
    go_wp2_with (go_at_call 58;refine(CT _).mono ?_;rintro e w' ⟨rfl,rfl⟩)
    go_meet
    exact⟨false,rfl,EX.out,by have h:=HST.out;simp [h]⟩
   ·rw [h] at c0
    have cv:(convert 88 9 (.slice (some ⟨wm4.heap.size,0,none⟩) 1 1)).run Tryz.prog (wm4.alloc (.cells #[.int .u8 51] 5))=.ok (.string ⟨#[51]⟩) (wm4.alloc (.cells #[.int .u8 51] 5)):=CV 51
    have EX:Hid (TB w p (.slice va p.ships.length vcap) ⟨5,(j:Int),b,c⟩ g p (.slice (some ⟨bq,0,none⟩) p.ships.length cq) (wm4.alloc (.cells #[.int .u8 51] 5))):=EZ.out 51
    have CT:∀ W,Calls Tryz.prog 58 #[.string ⟨(mayF 5).toArray⟩,.string ⟨#[51]⟩] W fun e w'=>e=.returned (.bool true)∧w'=W:=fun W=>by have h:=jas ⟨(mayF 5).toArray⟩ 51 W;rw [may5.2.2.1] at h;exact h
    have HST:Hid (s.st=3):=h
    clear CV EZ EM h
    go_wp2_with (go_at_call 58;refine(CT _).mono ?_;rintro e w' ⟨rfl,rfl⟩)
    go_meet
    exact⟨false,rfl,EX.out,by have h:=HST.out;simp [h]⟩
   ·rw [h] at c0
    have cv:(convert 88 9 (.slice (some ⟨wm4.heap.size,0,none⟩) 1 1)).run Tryz.prog (wm4.alloc (.cells #[.int .u8 52] 5))=.ok (.string ⟨#[52]⟩) (wm4.alloc (.cells #[.int .u8 52] 5)):=CV 52
    have EX:Hid (TB w p (.slice va p.ships.length vcap) ⟨5,(j:Int),b,c⟩ g p (.slice (some ⟨bq,0,none⟩) p.ships.length cq) (wm4.alloc (.cells #[.int .u8 52] 5))):=EZ.out 52
    have CT:∀ W,Calls Tryz.prog 58 #[.string ⟨(mayF 5).toArray⟩,.string ⟨#[52]⟩] W fun e w'=>e=.returned (.bool false)∧w'=W:=fun W=>by have h:=jas ⟨(mayF 5).toArray⟩ 52 W;rw [may5.2.2.2] at h;exact h
    have HST:Hid (s.st=4):=h
    clear CV EZ EM h
    go_wp2_with (go_at_call 58;refine(CT _).mono ?_;rintro e w' ⟨rfl,rfl⟩)
    go_meet
    exact⟨true,rfl,EX.out,by have h:=HST.out;simp [h]⟩
  case rest =>
   clear EM EZ CV c0 c2 c4 cf cB cne
   obtain⟨bad,rfl,HC⟩:=hcut
   have EX:Hid (TB w p (.slice va p.ships.length vcap) ⟨5,(j:Int),b,c⟩ g p (.slice (some ⟨bq,0,none⟩) p.ships.length cq) wc):=HC.out.1
   cases bad
   case true =>
    have ST:Hid (¬ (s.st≠4)):=fun h=>by have:=HC.out.2.2 h;cases this
    have UN:Hid (jai p ⟨5,(j:Int),b,c⟩ 0 4 p):=by
     unfold jai
     rw [if_neg (by simp),if_pos (by simp)]
     refine⟨rfl,jei hj HS.out ?_⟩
     have h:=ST.out
     try simp at h
     simp [moveS,turnF,h]
    clear HC ST
    go_wp2_with (go_at_call 31;refine(jag _ _ _ _).mono ?_;rintro e w' ⟨rfl,rfl⟩)
    go_wp2_with (first|(go_at_call 57;refine(jax w.heap.size p (.slice va p.ships.length vcap) _ _ EX.out.box on0).mono ?_;rintro e we ⟨rfl,hbe⟩;have EY:Hid (TB w p (.slice va p.ships.length vcap) ⟨5,(j:Int),b,c⟩ g p (.slice (some ⟨bq,0,none⟩) p.ships.length cq) we):=EX.out.later hbe;clear hbe)|(refine jab rfl _ _ rfl (w.heap.size+1+1) jaf p (.slice none 0 0) (.slice va p.ships.length vcap) rfl rfl EY.out.out h4 on0 ?_;intro w9 hw9 hs9))
    refine bodyPost_ret (v:=.tuple #[.agg (jaa p (.slice va p.ships.length vcap)).toArray,.int .i64 0,.int .i64 4]) (jad Tryz.results35 _ _ (w.heap.size+1+1) p (.slice va p.ships.length vcap) rfl hw9.out.1) rfl ?_
    exact FIN.out 4 (by decide) _ (REF.out 4 (by decide) ⟨0,p,UN.out⟩) (EY.out.below.trans (hw9.out.2.2 _ (by omega)))
   have ST:Hid (s.st≠4):=HC.out.2.1 rfl
   clear HC
   obtain⟨oc0,oc1,oc2,oc3⟩:=EX.out.ord.cells
   obtain⟨⟨c0,c2,c4⟩,cf,cB,cne⟩:=EX.out.q.cell HS.out
   simp only at oc0 oc1 oc2 oc3
   have f0:=cf (j*6)
   have f2:=cf (j*6+2)
   have f4:=cf (j*6+4)
   have pc0:=EX.out.box.cells.1
   have hsl:=SH.out.lg
   rcases jbz b 1 300 with b2|b2
   case inr =>
    exact absurd HK.out.1 (jb0 b2)
   have hb2:=jba b2
   have WI1:∀ W,Calls Tryz.prog 31 #[.int .i64 b,.int .i64 1,.int .i64 300] W fun e w'=>e=.returned (.bool true)∧w'=W:=fun W=>by have h:=jag b 1 300 W;rw [b2] at h;exact h
   by_cases h3:s.st=3
   case neg =>
    have b3:(s.st == 3)=false:=by simp [h3]
    have YC:Hid ((1≤b∧b≤300)∧(s.st=3→s.si+b≤300∧p.now < s.si+b)):=⟨hb2,fun h=>absurd h h3⟩
    have WI2:=WI1
    clear h3
    go_upto_region 27 with fail
    go_quiet (first|(go_at_call 31;exact Calls.quiet_of_same (WI1 _))|(go_at_call 31;exact Calls.quiet_of_same (WI2 _)))
    have OI0:Hid (jai p ⟨5,(j:Int),b,c⟩ 0 0 (setS p j ({ s with lg:=b }))):=by
     unfold jai
     rw [if_neg (by simp),if_pos (by simp)]
     refine⟨rfl,ji9 hj HS.out ?_⟩
     have h:=ST.out
     simp only [moveS,jdb]
     rw [if_neg h,if_neg (by decide),if_neg (by decide),if_neg (by decide),if_pos YC.out]
    have EQ0:Hid (TB w p (.slice va p.ships.length vcap) ⟨5,(j:Int),b,c⟩ g (setS p j ({ s with lg:=b })) (.slice (some ⟨bq,0,none⟩) p.ships.length cq) ((wc.drewN nq).setCell ⟨bq,j*6+2,none⟩ (.int .i64 b))):=by
     have EX2:=EX.out.later (below_drewN (Below.refl _ wc) nq)
     have K1:=EX2.q.one (i:=2) HS.out (by decide) (s':={ s with lg:=b }) (x:=.int .i64 b) rfl
     exact EX2.turn K1.2 K1.1
    go_upto_region 52 with fail
    clear EX oc0 oc1 oc2 oc3 pc0 c0 c2 c4 cf cB cne f0 f2 f4 ST SH
    generalize (setS p j ({ s with lg:=b }))=q' at OI0 EQ0
    generalize (.slice (some ⟨bq,0,none⟩) p.ships.length cq:Value)=vq' at EQ0
    generalize (wc.drewN nq).setCell ⟨bq,j*6+2,none⟩ (.int .i64 b)=W' at *
    have OI:=OI0
    have EQ:=EQ0
    clear OI0 EQ0 GR
    have Q0:Hid (ja4 q'∧(okTo q' 300=true↔jaj q')):=⟨jbl HP.out OI.out,jdw (jbl HP.out OI.out)⟩
    have onq:vq'.oneCell'=true:=jam EQ.out.q.2.1
    have hq4:q'.kept.length=4:=EQ.out.q.1.1
    have hql:q'.ships.length≤2932031007317:=by have:=Q0.out.1.len;omega
    have HB:=fun W h=>jb9 (.agg (jaa q' vq').toArray) q' W h Q0.out.1.baseIn
    have PV:Hid (PtV W' (.agg (jaa q' vq').toArray) q'):=⟨vq',rfl,jaz EQ.out.q.2.1,hq4,hql⟩
    generalize hQC:(jaa q' vq').toArray=QC at HB PV
    have HQC:Hid ((jaa q' vq').toArray=QC):=hQC
    clear hQC
    go_wp2_with (refine jac rfl _ rfl g q' vq' rfl EQ.out.q.1 ?_;rw [HQC.out])
    refine(HB _ PV.out).mono ?_
    rintro e wf ⟨f,rfl,hf3,_,hbf⟩
    have EF:Hid (TB w p (.slice va p.ships.length vcap) ⟨5,(j:Int),b,c⟩ g q' vq' wf):=EQ.out.later hbf
    clear hbf EQ HB PV
    generalize hFA:(ic f).toArray=FA at *
    have HFA:Hid ((ic f).toArray=FA):=hFA
    clear hFA
    generalize okTo q' 300=ok at *
    go_upto_region 53 with (first|(refine ja2 rfl rfl 12 rfl ?_;intro wg hwg hsg)|(refine ja1 rfl _ _ rfl wf.heap.size zero300 f rfl (by show Value.agg FA=_;rw [HFA.out]) hwg.out.1 hf3 ?_;intro wh hwh hsh))
    have EX:Hid (TB w p (.slice va p.ships.length vcap) ⟨5,(j:Int),b,c⟩ g q' vq' wh):=EF.out.later (hwg.out.2.trans (hwh.out.2.2 _ (Nat.le_refl _)))
    clear hwg hwh hsg hsh EF
    cases ok
    ·have NP:Hid (¬ jaj q'):=fun h=>by have:=Q0.out.2.2 h;cases this
     go_wp2_with (first|(go_at_call 57;refine(jax w.heap.size p (.slice va p.ships.length vcap) _ _ EX.out.box on0).mono ?_;rintro e we ⟨rfl,hbe⟩;have EY:Hid (TB w p (.slice va p.ships.length vcap) ⟨5,(j:Int),b,c⟩ g q' vq' we):=EX.out.later hbe;clear hbe)|(refine jab rfl _ _ rfl (w.heap.size+1+1) jaf p (.slice none 0 0) (.slice va p.ships.length vcap) rfl rfl EY.out.out h4 on0 ?_;intro w9 hw9 hs9))
     refine bodyPost_ret (v:=.tuple #[.agg (jaa p (.slice va p.ships.length vcap)).toArray,.int .i64 0,.int .i64 6]) (jad Tryz.results35 _ _ (w.heap.size+1+1) p (.slice va p.ships.length vcap) rfl hw9.out.1) rfl ?_
     exact FIN.out 6 (by decide) _ (Or.inr ⟨HP.out,0,0,q',OI.out,Or.inr (Or.inl ⟨rfl,NP.out,rfl,rfl,rfl⟩)⟩) (EY.out.below.trans (hw9.out.2.2 _ (by omega)))
    ·have YP:Hid (jaj q'):=Q0.out.2.1 rfl
     go_wp2_with (first|(refine jac rfl _ rfl g q' vq' rfl EX.out.q.1 ?_)|(refine jab rfl _ _ rfl (w.heap.size+1+1) jaf q' (.slice none 0 0) vq' rfl rfl EX.out.out hq4 onq ?_;intro w9 hw9 hs9))
     refine bodyPost_ret (v:=.tuple #[.agg (jaa q' vq').toArray,.int .i64 0,.int .i64 0]) (jad Tryz.results35 _ _ (w.heap.size+1+1) q' vq' rfl hw9.out.1) rfl ?_
     exact⟨q',vq',0,0,rfl,Or.inr ⟨HP.out,0,0,q',OI.out,Or.inr (Or.inr ⟨rfl,YP.out,rfl,rfl,rfl⟩)⟩,hq4,hql,jaz (jal EX.out.q.2.1 (fun k hk=>hw9.out.2.1 k (by omega))),EX.out.below.trans (hw9.out.2.2 _ (by omega)),fun _=>jc0 EX.out.q.2.1 (by omega)⟩
   exact absurd h3 (HK.out.2 s HS.out)
theorem jvc (v:Value) (p:Pt) (kd a b c:Int) (w:World) (hv:PtV w v p) (hp:jaj p) (hc:(kd=5∧(0≤a∧a≤(p.ships.length:Int) - 1)∧(1≤b∧b≤300)∧∀ s,p.ships[a.toNat]?=some s→s.st=3)) :
  Calls Tryz.prog 35 #[v,.agg #[.int .i64 kd,.int .i64 a,.int .i64 b,.int .i64 c]] w fun e w'=>jbe w (ja0 (jai p ⟨kd,a,b,c⟩) p) e w':=by
 have HC:Hid ((kd=5∧(0≤a∧a≤(p.ships.length:Int) - 1)∧(1≤b∧b≤300)∧∀ s,p.ships[a.toNat]?=some s→s.st=3)):=hc
 clear hc
 obtain⟨vs,rfl,hsl,h4,hmx⟩:=hv
 have HV:Hid (PtV w (.agg (jaa p vs).toArray) p):=⟨vs,rfl,hsl,h4,hmx⟩
 have HS0:Hid (SlK cShip w vs p.ships):=hsl
 have on0:vs.oneCell'=true:=by obtain⟨a,cap,rfl,_⟩:=hsl;rfl
 have X1:=PBox.new w p vs h4
 have HG:=fun W h=>jbx (.agg (jaa p vs).toArray) p W h
 have HW:=fun W h=>jb3 (.agg (jaa p vs).toArray) p W h
 obtain⟨va,vcap,hve⟩:∃ a cap,vs=.slice a p.ships.length cap:=by obtain⟨a,cap,e,_⟩:=hsl;exact⟨a,cap,e⟩
 subst hve
 clear hsl
 generalize hPC:(jaa p (.slice va p.ships.length vcap)).toArray=PC at *
 have HPC:Hid ((jaa p (.slice va p.ships.length vcap)).toArray=PC):=hPC
 clear hPC
 have hz1:(w.alloc (.cells PC 41)).heap.size=w.heap.size+1:=by simp
 have O1:=OBox.new (w.alloc (.cells PC 41)) ⟨kd,a,b,c⟩
 rw [hz1] at O1
 have hz2:((w.alloc (.cells PC 41)).alloc (.cells #[.int .i64 kd,.int .i64 a,.int .i64 b,.int .i64 c] 61)).heap.size=w.heap.size+1+1:=by simp
 have X0:Hid (PBox ((w.alloc (.cells PC 41)).alloc (.cells #[.int .i64 kd,.int .i64 a,.int .i64 b,.int .i64 c] 61)) w.heap.size p (.slice va p.ships.length vcap)∧OBox ((w.alloc (.cells PC 41)).alloc (.cells #[.int .i64 kd,.int .i64 a,.int .i64 b,.int .i64 c] 61)) (w.heap.size+1) ⟨kd,a,b,c⟩):=⟨X1.later ((Below.refl _ _).alloc (Nat.le_refl _) _) X1.lt,O1⟩
 have B0:Hid (Below w.heap.size w ((w.alloc (.cells PC 41)).alloc (.cells #[.int .i64 kd,.int .i64 a,.int .i64 b,.int .i64 c] 61))):=((Below.refl _ w).alloc (Nat.le_refl _) _).alloc (by omega) _
 have HZ2:Hid (((w.alloc (.cells PC 41)).alloc (.cells #[.int .i64 kd,.int .i64 a,.int .i64 b,.int .i64 c] 61)).heap.size=w.heap.size+1+1):=hz2
 clear X1 O1 hz1 hz2
 generalize hW0:(w.alloc (.cells PC 41)).alloc (.cells #[.int .i64 kd,.int .i64 a,.int .i64 b,.int .i64 c] 61)=W0 at *
 go_enter Tryz.func35,Tryz.ntmps35
 go_upto_region 1 with (first|(rw [hW0])|(refine jah rfl rfl 4 rfl ?_;intro w1 hw1 hs1))
 rw [HZ2.out] at hw1 hs1 ⊢
 have T1:Hid (Below w.heap.size w w1∧PBox w1 w.heap.size p (.slice va p.ships.length vcap)∧OBox w1 (w.heap.size+1) ⟨kd,a,b,c⟩∧PBox w1 (w.heap.size+1+1) jaf (.slice none 0 0)∧w1.heap.size=w.heap.size+1+1+1):=⟨B0.out.trans (hw1.out.2.mono (by omega)),X0.out.1.later hw1.out.2 (by omega),X0.out.2.later hw1.out.2 (by omega),hw1.out.1,hs1⟩
 clear hw1 hs1 X0 B0 HZ2 hW0
 go_wp2_with (refine jac rfl _ rfl w.heap.size p (.slice va p.ships.length vcap) rfl T1.out.2.1 ?_;rw [HPC.out])
 refine(HG _ (HV.out.below T1.out.1)).mono ?_
 rintro e w2 ⟨⟨b2,rfl,hb2⟩,hw2⟩
 have T2:Hid (Below w.heap.size w w2∧PBox w2 w.heap.size p (.slice va p.ships.length vcap)∧OBox w2 (w.heap.size+1) ⟨kd,a,b,c⟩∧PBox w2 (w.heap.size+1+1) jaf (.slice none 0 0)∧w.heap.size+1+1+1≤w2.heap.size):=⟨T1.out.1.trans (hw2.mono (by have:=T1.out.2.2.2.2;omega)),T1.out.2.1.later hw2 T1.out.2.1.lt,T1.out.2.2.1.later hw2 T1.out.2.2.1.lt,T1.out.2.2.2.1.later hw2 T1.out.2.2.2.1.lt,by have:=T1.out.2.2.2.2;have:=hw2.size;omega⟩
 have HB:Hid (b2=true↔jaj p):=hb2
 clear T1 hw2 hb2 HG
 obtain rfl:b2=true:=HB.out.2 hp
 have HP:Hid (jaj p):=hp
 have hlen:p.ships.length < 15:=hp.port.len
 obtain⟨hnow0,hnow1⟩:=hp.port.now
 clear hp HB
 go_upto_region 4 with fail
 go_wp2_with (refine jac rfl _ rfl w.heap.size p (.slice va p.ships.length vcap) rfl T2.out.2.1 ?_;rw [HPC.out])
 refine(HW _ (HV.out.below T2.out.1)).mono ?_
 rintro e w3 ⟨vq,rfl,hro,hb3⟩
 have T3:Hid (Below w.heap.size w w3∧PBox w3 w.heap.size p (.slice va p.ships.length vcap)∧OBox w3 (w.heap.size+1) ⟨kd,a,b,c⟩∧PBox w3 (w.heap.size+1+1) jaf (.slice none 0 0)∧w3.ownsRow (w.heap.size+1+1+1) 46 6 vq p.ships.length (jae cShip p.ships)∧w.heap.size+1+1+1≤w3.heap.size):=⟨T2.out.1.trans (hb3.mono (by have:=T2.out.2.2.2.2;omega)),T2.out.2.1.later hb3 T2.out.2.1.lt,T2.out.2.2.1.later hb3 T2.out.2.2.1.lt,T2.out.2.2.2.1.later hb3 T2.out.2.2.2.1.lt,jar hro T2.out.2.2.2.2,by have:=T2.out.2.2.2.2;have:=hb3.size;omega⟩
 have on:=jam hro
 obtain⟨xq,cq,hvq⟩:=jan hro
 subst hvq
 clear T2 hro hb3 HW
 go_upto_region 5 with (first|(refine jah rfl rfl 8 rfl ?_;intro w4 hw4 hs4)|(refine jab rfl _ _ rfl w3.heap.size jaf p (.slice none 0 0) (.slice xq p.ships.length cq) rfl rfl hw4.out.1 h4 on ?_;intro w5 hw5 hs5))
 have EX:Hid (TB w p (.slice va p.ships.length vcap) ⟨kd,a,b,c⟩ w3.heap.size p (.slice xq p.ships.length cq) w5):=by
  have hb:Below w3.heap.size w3 w5:=hw4.out.2.trans (hw5.out.2.2 _ (Nat.le_refl _))
  have hz:=T3.out.2.2.2.2.2
  have hzz:=hb.size
  exact⟨T3.out.1.trans (hb.mono (by omega)),T3.out.2.1.later hb (by omega),T3.out.2.2.1.later hb (by omega),T3.out.2.2.2.1.later hb (by omega),hw5.out.1,ownsRow_later T3.out.2.2.2.2.1 hb,by omega,by omega⟩
 have GR:Hid ((Value.slice xq p.ships.length cq).ownBlock≠some w3.heap.size):=fun e=>by
  have:=(T3.out.2.2.2.2.1.lt _ e).2
  omega
 generalize w3.heap.size=g at *
 clear hw4 hw5 hs4 hs5 T3 on
 obtain⟨oc0,oc1,oc2,oc3⟩:=EX.out.ord.cells
 obtain⟨pc0,pc1,pc14,pc15⟩:=EX.out.box.cells
 simp only at oc0 oc1 oc2 oc3
 have FIN:Hid (∀ er,er≠0→∀ w',ja0 (jai p ⟨kd,a,b,c⟩) p 0 er p→Below w.heap.size w w'→jbe w (ja0 (jai p ⟨kd,a,b,c⟩) p) (.returned (.tuple #[.agg (jaa p (.slice va p.ships.length vcap)).toArray,.int .i64 0,.int .i64 er])) w'):=fun er hne w' hT hb=>⟨p,(.slice va p.ships.length vcap),0,er,rfl,hT,h4,hmx,HS0.out.below hb,hb,fun h=>absurd h hne⟩
 have REF:Hid (∀ er,er≠0→(∃ n q',jai p ⟨kd,a,b,c⟩ n er q')→ja0 (jai p ⟨kd,a,b,c⟩) p 0 er p):=fun er h0 ⟨n,q',h⟩=>Or.inr ⟨HP.out,n,er,q',h,Or.inl ⟨h0,rfl,rfl,rfl⟩⟩
 clear HS0 HV
 have hc:=HC.out
 clear HC
 ·obtain⟨hkd,hc,hx⟩:=hc
  obtain⟨j,rfl⟩:∃ j:Nat,a=j:=⟨a.toNat,by omega⟩
  have hj:j < p.ships.length:=by omega
  simp only [Int.toNat_natCast] at hx
  have HK:Hid ((1≤b∧b≤300)∧∀ s,p.ships[j]?=some s→s.st=3):=hx
  subst hkd
  clear hx
  clear hc
  have hj3:(j:Int) < (p.ships.length:Int):=by omega
  have hj0:(0:Int)≤(j:Int):=by omega
  have b1:inR (j:Int) 0 ((p.ships.length:Int) - 1)=true:=decide_eq_true ⟨by omega,by omega⟩
  have pg1:=EX.out.q.1.cells.2.1
  obtain⟨s,hs0⟩:∃ s,p.ships[j]?=some s:=⟨p.ships[j],List.getElem?_eq_getElem hj⟩
  have HS:Hid (p.ships[j]?=some s):=hs0
  have SH:Hid (jce s p.now):=(HP.out.port.ship s (List.mem_of_getElem? hs0)).1
  obtain⟨bq,rfl⟩:∃ b,xq=some ⟨b,0,none⟩:=by
   obtain⟨b,c',e,_⟩:=OwnK.ofRow EX.out.q.2.1 (by intro e;injection e with _ e _;omega)
   injection e with e1 e2 e3
   exact⟨b,e1⟩
  clear hs0
  go_upto_region 23 with (go_at_call 31;refine(jag _ _ _ _).mono ?_;rintro e w' ⟨rfl,rfl⟩)
  clear pg1 pc0 pc1 pc14 pc15 oc1 oc2 oc3
  have M0:Hid (MapT (w'.alloc (.map #[] 0)) w'.heap.size 0 (fun _=>[])∧Below w'.heap.size w' (w'.alloc (.map #[] 0))):=⟨MapT.made w',(Below.refl _ w').alloc (Nat.le_refl _) _⟩
  have ocM:(w'.alloc (.map #[] 0)).cell? ⟨w.heap.size+1,0,none⟩=some (.int .i64 5):=(EX.out.later M0.out.2).ord.cells.1
  have hmm:=@run_makeMap Tryz.prog
  go_upto_region 24 with (first|(refine jap rfl _ _ _ rfl w'.heap.size 0 (fun _=>[]) 2 ⟨#[49,50,51]⟩ rfl rfl rfl M0.out.1 mxK.1.1 wfK.1 mxK.2.1 ?_;intro wm1 hm1)|(refine jap rfl _ _ _ rfl w'.heap.size 1 _ 3 ⟨#[49]⟩ rfl rfl rfl hm1.out.1 mxK.1.2.1 wfK.2.1 mxK.2.2.1 ?_;intro wm2 hm2)|(refine jap rfl _ _ _ rfl w'.heap.size 2 _ 4 ⟨#[50]⟩ rfl rfl rfl hm2.out.1 mxK.1.2.2.1 wfK.2.2.1 mxK.2.2.2 ?_;intro wm3 hm3)|(refine jap rfl _ _ _ rfl w'.heap.size 3 _ 5 ⟨#[49,50,51]⟩ rfl rfl rfl hm3.out.1 mxK.1.2.2.2 wfK.2.2.2 mxK.2.1 ?_;intro wm4 hm4;have HM4:Hid (MapT wm4 w'.heap.size 4 mayF):=hm4.out.1;have BM4:Hid (Below w'.heap.size w' wm4):=(M0.out.2.trans (hm1.out.2 _ (Nat.le_refl _))).trans (((hm2.out.2 _ (Nat.le_refl _)).trans (hm3.out.2 _ (Nat.le_refl _))).trans (hm4.out.2 _ (Nat.le_refl _)));have oc4:wm4.cell? ⟨w.heap.size+1,0,none⟩=some (.int .i64 5):=(EX.out.later BM4.out).ord.cells.1;clear hm1 hm2 hm3 hm4 M0 ocM)|(refine jcc rfl _ _ rfl w'.heap.size 4 mayF 5 rfl rfl HM4.out wfK.2.2.2 ?_))
  have EM0:=EX.out.later BM4.out
  have EM:Hid (TB w p (.slice va p.ships.length vcap) ⟨5,(j:Int),b,c⟩ g p (.slice (some ⟨bq,0,none⟩) p.ships.length cq) wm4):=EM0
  clear EX HM4 BM4 EM0 oc0 hmm
  obtain⟨⟨c0,c2,c4⟩,cf,cB,cne⟩:=EM.out.q.cell HS.out
  have hst:=SH.out.st
  have CV:=fun n=>conv1 wm4 n
  have EZ:Hid (∀ n,TB w p (.slice va p.ships.length vcap) ⟨5,(j:Int),b,c⟩ g p (.slice (some ⟨bq,0,none⟩) p.ships.length cq) (wm4.alloc (.cells #[.int .u8 n] 5))):=fun n=>EM.out.later ((Below.refl _ wm4).alloc (Nat.le_refl _) _)
  go_cut [118,128] (fun s118 s128 wc=>∃ bad:Bool,s128=.bool bad∧Hid (TB w p (.slice va p.ships.length vcap) ⟨5,(j:Int),b,c⟩ g p (.slice (some ⟨bq,0,none⟩) p.ships.length cq) wc∧(bad=false↔(s.st≠4))))
  case first =>
   obtain h|h|h|h:s.st=1∨s.st=2∨s.st=3∨s.st=4:=by omega
   ·rw [h] at c0
    have cv:(convert 88 9 (.slice (some ⟨wm4.heap.size,0,none⟩) 1 1)).run Tryz.prog (wm4.alloc (.cells #[.int .u8 49] 5))=.ok (.string ⟨#[49]⟩) (wm4.alloc (.cells #[.int .u8 49] 5)):=CV 49
    have EX:Hid (TB w p (.slice va p.ships.length vcap) ⟨5,(j:Int),b,c⟩ g p (.slice (some ⟨bq,0,none⟩) p.ships.length cq) (wm4.alloc (.cells #[.int .u8 49] 5))):=EZ.out 49
    have CT:∀ W,Calls Tryz.prog 58 #[.string ⟨(mayF 5).toArray⟩,.string ⟨#[49]⟩] W fun e w'=>e=.returned (.bool true)∧w'=W:=fun W=>by have h:=jas ⟨(mayF 5).toArray⟩ 49 W;rw [may5.1] at h;exact h
    have HST:Hid (s.st=1):=h
    clear CV EZ EM h
    go_wp2_with (go_at_call 58;refine(CT _).mono ?_;rintro e w' ⟨rfl,rfl⟩)
    go_meet
    exact⟨false,rfl,EX.out,by have h:=HST.out;simp [h]⟩
   ·rw [h] at c0
    have cv:(convert 88 9 (.slice (some ⟨wm4.heap.size,0,none⟩) 1 1)).run Tryz.prog (wm4.alloc (.cells #[.int .u8 50] 5))=.ok (.string ⟨#[50]⟩) (wm4.alloc (.cells #[.int .u8 50] 5)):=CV 50
    have EX:Hid (TB w p (.slice va p.ships.length vcap) ⟨5,(j:Int),b,c⟩ g p (.slice (some ⟨bq,0,none⟩) p.ships.length cq) (wm4.alloc (.cells #[.int .u8 50] 5))):=EZ.out 50
    have CT:∀ W,Calls Tryz.prog 58 #[.string ⟨(mayF 5).toArray⟩,.string ⟨#[50]⟩] W fun e w'=>e=.returned (.bool true)∧w'=W:=fun W=>by have h:=jas ⟨(mayF 5).toArray⟩ 50 W;rw [may5.2.1] at h;exact h
    have HST:Hid (s.st=2):=h
    clear CV EZ EM h
    go_wp2_with (go_at_call 58;refine(CT _).mono ?_;rintro e w' ⟨rfl,rfl⟩)
    go_meet
    exact⟨false,rfl,EX.out,by have h:=HST.out;simp [h]⟩
   ·rw [h] at c0
    have cv:(convert 88 9 (.slice (some ⟨wm4.heap.size,0,none⟩) 1 1)).run Tryz.prog (wm4.alloc (.cells #[.int .u8 51] 5))=.ok (.string ⟨#[51]⟩) (wm4.alloc (.cells #[.int .u8 51] 5)):=CV 51
    have EX:Hid (TB w p (.slice va p.ships.length vcap) ⟨5,(j:Int),b,c⟩ g p (.slice (some ⟨bq,0,none⟩) p.ships.length cq) (wm4.alloc (.cells #[.int .u8 51] 5))):=EZ.out 51
    have CT:∀ W,Calls Tryz.prog 58 #[.string ⟨(mayF 5).toArray⟩,.string ⟨#[51]⟩] W fun e w'=>e=.returned (.bool true)∧w'=W:=fun W=>by have h:=jas ⟨(mayF 5).toArray⟩ 51 W;rw [may5.2.2.1] at h;exact h
    have HST:Hid (s.st=3):=h
    clear CV EZ EM h
    go_wp2_with (go_at_call 58;refine(CT _).mono ?_;rintro e w' ⟨rfl,rfl⟩)
    go_meet
    exact⟨false,rfl,EX.out,by have h:=HST.out;simp [h]⟩
   ·rw [h] at c0
    have cv:(convert 88 9 (.slice (some ⟨wm4.heap.size,0,none⟩) 1 1)).run Tryz.prog (wm4.alloc (.cells #[.int .u8 52] 5))=.ok (.string ⟨#[52]⟩) (wm4.alloc (.cells #[.int .u8 52] 5)):=CV 52
    have EX:Hid (TB w p (.slice va p.ships.length vcap) ⟨5,(j:Int),b,c⟩ g p (.slice (some ⟨bq,0,none⟩) p.ships.length cq) (wm4.alloc (.cells #[.int .u8 52] 5))):=EZ.out 52
    have CT:∀ W,Calls Tryz.prog 58 #[.string ⟨(mayF 5).toArray⟩,.string ⟨#[52]⟩] W fun e w'=>e=.returned (.bool false)∧w'=W:=fun W=>by have h:=jas ⟨(mayF 5).toArray⟩ 52 W;rw [may5.2.2.2] at h;exact h
    have HST:Hid (s.st=4):=h
    clear CV EZ EM h
    go_wp2_with (go_at_call 58;refine(CT _).mono ?_;rintro e w' ⟨rfl,rfl⟩)
    go_meet
    exact⟨true,rfl,EX.out,by have h:=HST.out;simp [h]⟩
  case rest =>
   clear EM EZ CV c0 c2 c4 cf cB cne
   obtain⟨bad,rfl,HC⟩:=hcut
   have EX:Hid (TB w p (.slice va p.ships.length vcap) ⟨5,(j:Int),b,c⟩ g p (.slice (some ⟨bq,0,none⟩) p.ships.length cq) wc):=HC.out.1
   cases bad
   case true =>
    have ST:Hid (¬ (s.st≠4)):=fun h=>by have:=HC.out.2.2 h;cases this
    have UN:Hid (jai p ⟨5,(j:Int),b,c⟩ 0 4 p):=by
     unfold jai
     rw [if_neg (by simp),if_pos (by simp)]
     refine⟨rfl,jei hj HS.out ?_⟩
     have h:=ST.out
     try simp at h
     simp [moveS,turnF,h]
    clear HC ST
    go_wp2_with (go_at_call 31;refine(jag _ _ _ _).mono ?_;rintro e w' ⟨rfl,rfl⟩)
    go_wp2_with (first|(go_at_call 57;refine(jax w.heap.size p (.slice va p.ships.length vcap) _ _ EX.out.box on0).mono ?_;rintro e we ⟨rfl,hbe⟩;have EY:Hid (TB w p (.slice va p.ships.length vcap) ⟨5,(j:Int),b,c⟩ g p (.slice (some ⟨bq,0,none⟩) p.ships.length cq) we):=EX.out.later hbe;clear hbe)|(refine jab rfl _ _ rfl (w.heap.size+1+1) jaf p (.slice none 0 0) (.slice va p.ships.length vcap) rfl rfl EY.out.out h4 on0 ?_;intro w9 hw9 hs9))
    refine bodyPost_ret (v:=.tuple #[.agg (jaa p (.slice va p.ships.length vcap)).toArray,.int .i64 0,.int .i64 4]) (jad Tryz.results35 _ _ (w.heap.size+1+1) p (.slice va p.ships.length vcap) rfl hw9.out.1) rfl ?_
    exact FIN.out 4 (by decide) _ (REF.out 4 (by decide) ⟨0,p,UN.out⟩) (EY.out.below.trans (hw9.out.2.2 _ (by omega)))
   have ST:Hid (s.st≠4):=HC.out.2.1 rfl
   clear HC
   obtain⟨oc0,oc1,oc2,oc3⟩:=EX.out.ord.cells
   obtain⟨⟨c0,c2,c4⟩,cf,cB,cne⟩:=EX.out.q.cell HS.out
   simp only at oc0 oc1 oc2 oc3
   have f0:=cf (j*6)
   have f2:=cf (j*6+2)
   have f4:=cf (j*6+4)
   have pc0:=EX.out.box.cells.1
   have hsl:=SH.out.lg
   rcases jbz b 1 300 with b2|b2
   case inr =>
    exact absurd HK.out.1 (jb0 b2)
   have hb2:=jba b2
   have WI1:∀ W,Calls Tryz.prog 31 #[.int .i64 b,.int .i64 1,.int .i64 300] W fun e w'=>e=.returned (.bool true)∧w'=W:=fun W=>by have h:=jag b 1 300 W;rw [b2] at h;exact h
   by_cases h3:s.st=3
   case neg =>
    exact absurd (HK.out.2 s HS.out) h3
   have b3:(s.st == 3)=true:=by simp [h3]
   have HL:=SH.out.lies h3
   have hw1:IntKind.i64.wrap (s.si+b)=s.si+b:=jbk (by omega) (by omega)
   have hw2:IntKind.i64.wrap (p.now+1)=p.now+1:=jbk (by omega) (by omega)
   rcases jbz (s.si+b) (p.now+1) 300 with b4|b4
   case inr =>
    have NC:Hid (¬ ((1≤b∧b≤300)∧(s.st=3→s.si+b≤300∧p.now < s.si+b))):=fun h=>jb0 b4 (by have:=h.2 h3;omega)
    have WI2:∀ W,Calls Tryz.prog 31 #[.int .i64 (s.si+b),.int .i64 (p.now+1),.int .i64 300] W fun e w'=>e=.returned (.bool false)∧w'=W:=fun W=>by have h:=jag (s.si+b) (p.now+1) 300 W;rw [b4] at h;exact h
    have UN:Hid (jai p ⟨5,(j:Int),b,c⟩ 0 2 p):=by
     unfold jai
     rw [if_neg (by simp),if_pos (by simp)]
     refine⟨rfl,jei hj HS.out ?_⟩
     have h:=ST.out
     simp only [moveS,jdb]
     rw [if_neg h,if_neg (by decide),if_neg (by decide),if_neg (by decide),if_neg NC.out]
    rw [h3] at c0
    clear h3
    go_upto_region 27 with fail
    go_quiet (first|(go_at_call 31;with_reducible exact Calls.quiet_of_same (WI1 _))|(go_at_call 31;with_reducible exact Calls.quiet_of_same (WI2 _)))
    have EX2:Hid (TB w p (.slice va p.ships.length vcap) ⟨5,(j:Int),b,c⟩ g p (.slice (some ⟨bq,0,none⟩) p.ships.length cq) (wc.drewN nq)):=EX.out.later (below_drewN (Below.refl _ _) nq)
    clear EX
    have EX:=EX2
    clear EX2 c0 c2 c4 oc0 oc1 oc2 oc3 pc0 f0 f2 f4
    generalize wc.drewN nq=wq at *
    go_wp2_with (first|(go_at_call 57;refine(jax w.heap.size p (.slice va p.ships.length vcap) _ _ EX.out.box on0).mono ?_;rintro e we ⟨rfl,hbe⟩;have EY:Hid (TB w p (.slice va p.ships.length vcap) ⟨5,(j:Int),b,c⟩ g p (.slice (some ⟨bq,0,none⟩) p.ships.length cq) we):=EX.out.later hbe;clear hbe)|(refine jab rfl _ _ rfl (w.heap.size+1+1) jaf p (.slice none 0 0) (.slice va p.ships.length vcap) rfl rfl EY.out.out h4 on0 ?_;intro w9 hw9 hs9))
    refine bodyPost_ret (v:=.tuple #[.agg (jaa p (.slice va p.ships.length vcap)).toArray,.int .i64 0,.int .i64 2]) (jad Tryz.results35 _ _ (w.heap.size+1+1) p (.slice va p.ships.length vcap) rfl hw9.out.1) rfl ?_
    exact FIN.out 2 (by decide) _ (REF.out 2 (by decide) ⟨0,p,UN.out⟩) (EY.out.below.trans (hw9.out.2.2 _ (by omega)))
   have YC:Hid ((1≤b∧b≤300)∧(s.st=3→s.si+b≤300∧p.now < s.si+b)):=⟨hb2,fun h=>by have:=jba b4;omega⟩
   have WI2:∀ W,Calls Tryz.prog 31 #[.int .i64 (s.si+b),.int .i64 (p.now+1),.int .i64 300] W fun e w'=>e=.returned (.bool true)∧w'=W:=fun W=>by have h:=jag (s.si+b) (p.now+1) 300 W;rw [b4] at h;exact h
   rw [h3] at c0
   clear h3
   go_upto_region 27 with fail
   go_quiet (first|(go_at_call 31;with_reducible exact Calls.quiet_of_same (WI1 _))|(go_at_call 31;with_reducible exact Calls.quiet_of_same (WI2 _)))
   have OI0:Hid (jai p ⟨5,(j:Int),b,c⟩ 0 0 (setS p j ({ s with lg:=b }))):=by
    unfold jai
    rw [if_neg (by simp),if_pos (by simp)]
    refine⟨rfl,ji9 hj HS.out ?_⟩
    have h:=ST.out
    simp only [moveS,jdb]
    rw [if_neg h,if_neg (by decide),if_neg (by decide),if_neg (by decide),if_pos YC.out]
   have EQ0:Hid (TB w p (.slice va p.ships.length vcap) ⟨5,(j:Int),b,c⟩ g (setS p j ({ s with lg:=b })) (.slice (some ⟨bq,0,none⟩) p.ships.length cq) ((wc.drewN nq).setCell ⟨bq,j*6+2,none⟩ (.int .i64 b))):=by
    have EX2:=EX.out.later (below_drewN (Below.refl _ wc) nq)
    have K1:=EX2.q.one (i:=2) HS.out (by decide) (s':={ s with lg:=b }) (x:=.int .i64 b) rfl
    exact EX2.turn K1.2 K1.1
   go_upto_region 52 with fail
   clear EX oc0 oc1 oc2 oc3 pc0 c0 c2 c4 cf cB cne f0 f2 f4 ST SH
   generalize (setS p j ({ s with lg:=b }))=q' at OI0 EQ0
   generalize (.slice (some ⟨bq,0,none⟩) p.ships.length cq:Value)=vq' at EQ0
   generalize (wc.drewN nq).setCell ⟨bq,j*6+2,none⟩ (.int .i64 b)=W' at *
   have OI:=OI0
   have EQ:=EQ0
   clear OI0 EQ0 GR
   have Q0:Hid (ja4 q'∧(okTo q' 300=true↔jaj q')):=⟨jbl HP.out OI.out,jdw (jbl HP.out OI.out)⟩
   have onq:vq'.oneCell'=true:=jam EQ.out.q.2.1
   have hq4:q'.kept.length=4:=EQ.out.q.1.1
   have hql:q'.ships.length≤2932031007317:=by have:=Q0.out.1.len;omega
   have HB:=fun W h=>jb9 (.agg (jaa q' vq').toArray) q' W h Q0.out.1.baseIn
   have PV:Hid (PtV W' (.agg (jaa q' vq').toArray) q'):=⟨vq',rfl,jaz EQ.out.q.2.1,hq4,hql⟩
   generalize hQC:(jaa q' vq').toArray=QC at HB PV
   have HQC:Hid ((jaa q' vq').toArray=QC):=hQC
   clear hQC
   go_wp2_with (refine jac rfl _ rfl g q' vq' rfl EQ.out.q.1 ?_;rw [HQC.out])
   refine(HB _ PV.out).mono ?_
   rintro e wf ⟨f,rfl,hf3,_,hbf⟩
   have EF:Hid (TB w p (.slice va p.ships.length vcap) ⟨5,(j:Int),b,c⟩ g q' vq' wf):=EQ.out.later hbf
   clear hbf EQ HB PV
   generalize hFA:(ic f).toArray=FA at *
   have HFA:Hid ((ic f).toArray=FA):=hFA
   clear hFA
   generalize okTo q' 300=ok at *
   go_upto_region 53 with (first|(refine ja2 rfl rfl 12 rfl ?_;intro wg hwg hsg)|(refine ja1 rfl _ _ rfl wf.heap.size zero300 f rfl (by show Value.agg FA=_;rw [HFA.out]) hwg.out.1 hf3 ?_;intro wh hwh hsh))
   have EX:Hid (TB w p (.slice va p.ships.length vcap) ⟨5,(j:Int),b,c⟩ g q' vq' wh):=EF.out.later (hwg.out.2.trans (hwh.out.2.2 _ (Nat.le_refl _)))
   clear hwg hwh hsg hsh EF
   cases ok
   ·have NP:Hid (¬ jaj q'):=fun h=>by have:=Q0.out.2.2 h;cases this
    go_wp2_with (first|(go_at_call 57;refine(jax w.heap.size p (.slice va p.ships.length vcap) _ _ EX.out.box on0).mono ?_;rintro e we ⟨rfl,hbe⟩;have EY:Hid (TB w p (.slice va p.ships.length vcap) ⟨5,(j:Int),b,c⟩ g q' vq' we):=EX.out.later hbe;clear hbe)|(refine jab rfl _ _ rfl (w.heap.size+1+1) jaf p (.slice none 0 0) (.slice va p.ships.length vcap) rfl rfl EY.out.out h4 on0 ?_;intro w9 hw9 hs9))
    refine bodyPost_ret (v:=.tuple #[.agg (jaa p (.slice va p.ships.length vcap)).toArray,.int .i64 0,.int .i64 6]) (jad Tryz.results35 _ _ (w.heap.size+1+1) p (.slice va p.ships.length vcap) rfl hw9.out.1) rfl ?_
    exact FIN.out 6 (by decide) _ (Or.inr ⟨HP.out,0,0,q',OI.out,Or.inr (Or.inl ⟨rfl,NP.out,rfl,rfl,rfl⟩)⟩) (EY.out.below.trans (hw9.out.2.2 _ (by omega)))
   ·have YP:Hid (jaj q'):=Q0.out.2.1 rfl
    go_wp2_with (first|(refine jac rfl _ rfl g q' vq' rfl EX.out.q.1 ?_)|(refine jab rfl _ _ rfl (w.heap.size+1+1) jaf q' (.slice none 0 0) vq' rfl rfl EX.out.out hq4 onq ?_;intro w9 hw9 hs9))
    refine bodyPost_ret (v:=.tuple #[.agg (jaa q' vq').toArray,.int .i64 0,.int .i64 0]) (jad Tryz.results35 _ _ (w.heap.size+1+1) q' vq' rfl hw9.out.1) rfl ?_
    exact⟨q',vq',0,0,rfl,Or.inr ⟨HP.out,0,0,q',OI.out,Or.inr (Or.inr ⟨rfl,YP.out,rfl,rfl,rfl⟩)⟩,hq4,hql,jaz (jal EX.out.q.2.1 (fun k hk=>hw9.out.2.1 k (by omega))),EX.out.below.trans (hw9.out.2.2 _ (by omega)),fun _=>jc0 EX.out.q.2.1 (by omega)⟩
end Go.Proofs.YtcmdoeledmkfmacGreatDoor
