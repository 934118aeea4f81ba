/- Texts of this claim, in one: RDTG. -/
import Derived.Test.YtcmdoeledmkfmacGreatDoorYS0
import Derived.BigQuiet
import Derived.Deep.DeepCutAuto
import Derived.Test.YtcmdoeledmkfmacGreatDoorSK
import Derived.Test.YtcmdoeledmkfmacGreatDoorSW
set_option linter.unusedSimpArgs false
set_option linter.unusedVariables false
set_option maxHeartbeats 40000000
set_option maxRecDepth 100000
namespace Go.Proofs.YtcmdoeledmkfmacGreatDoor
open Go.RowKit
theorem jjn (B d:Nat) (D:Dk) (s:List UInt8) (w:World) (hs:s.length≤9223372036854775807) (h:RS w B d D) (hn:D.n < 250) (o:Ord) (hP:jay s (some o)) (hk:1≤o.kd∧o.kd≤8) :
  Calls Tryz.prog 18 #[.pointer (some ⟨d,0,none⟩),txt s] w fun e w'=>jge B d D s w e w':=by
 obtain⟨vs,va,hM⟩:=h.dsk
 have hnn:=h.ok.n
 have HO:Hid (DOk (D1 D)):=D1_ok h.ok hn
 have HN:Hid (D.n < 250):=hn
 have HPA:=fun W hA=>jcl s hs W hA
 have HRP:=fun er W=>jcw er W
 have HP:Hid (jay s (some o)):=hP
 have LOW:Hid (2 < d):=h.low
 have hne:(D.n == 250)=false:=beq_eq_false_iff_ne.2 (by omega)
 have E0:Hid (RM w B d D vs va∧AS w):=⟨hM,h.asp⟩
 have hzB:=hM.hB
 clear h hM hP
 unfold txt at *
 go_enter Tryz.func18,Tryz.ntmps18
 go_upto_region 2 with (refine jbb rfl rfl 4 rfl ?_;intro w1 h1 s1)
 have E1:Hid (RT w w.heap.size B d D vs va w1):=⟨E0.out.1.later h1.out.2,E0.out.2.later h1.out.2,h1.out.1,Fr.of h1.out.2 (Nat.le_of_lt E0.out.1.lt),hzB,Nat.le_refl _⟩
 clear h1 s1 E0
 generalize hz:w.heap.size=z at *
 have c17:=E1.out.rm.box.cells.2.2.2
 have f17:=E1.out.rm.box.frozen 17
 have E2:Hid (RT w z B d (D1 D) vs va (w1.setCell ⟨d,17,none⟩ (.int .i64 (D.n+1)))):=E1.out.turn (E1.out.rm.acts _) (Fr.set _ _ _) LOW.out
 clear E1
 go_upto_region 5 with fail
 clear c17 f17
 generalize w1.setCell ⟨d,17,none⟩ (.int .i64 (D.n+1))=W2 at *
 go_wp2_with fail
 refine(HPA _ E2.out.asp).mono ?_
 rintro e w3 ⟨o3,er3,rfl,hP3,hb3⟩
 obtain⟨rfl,rfl⟩:=jdh hP3 HP.out
 have E3:Hid (RT w z B d (D1 D) vs va w3):=E2.out.later hb3
 clear hP3 hb3 HPA E2
 go_upto_region 6 with (first|(refine jat rfl rfl 6 rfl ?_;intro w4 h4 s4)|(refine jak rfl _ _ rfl w3.heap.size noOrd o3 rfl rfl h4.out.1 ?_;intro w5 h5 s5))
 have E5:Hid (RT w z B d (D1 D) vs va w5∧LOB w5 w3.heap.size o3∧z < w3.heap.size):=by
  have hb:Below w3.heap.size w3 w5:=h4.out.2.trans (h5.out.2.2 _ (Nat.le_refl _))
  exact⟨E3.out.later hb,h5.out.1,E3.out.rep.lt⟩
 clear h4 h5 s4 s5 E3
 generalize w3.heap.size=g6 at *
 obtain⟨kd,a,b,c⟩:=o3
 simp only at hk
 obtain⟨o0,o1,o2,o4⟩:=E5.out.2.1.cells
 simp only at o0 o1 o2 o4
 have h14:D.p.ships.length≤14:=by have:D.p.ships.length < 15:=HO.out.port.port.len;omega
 have h4:D.p.kept.length=4:=E5.out.1.rm.box.four
 have HTA:=fun v W h=>jiz v D.p kd a b c W h
 have HDU:=fun D W h1 h2=>jf8 B d D W h1 h2
 have k9:(kd == 9)=false:=beq_eq_false_iff_ne.2 (by omega)
 have k10:(kd == 10)=false:=beq_eq_false_iff_ne.2 (by omega)
 have k11:(kd == 11)=false:=beq_eq_false_iff_ne.2 (by omega)
 have k12:(kd == 12)=false:=beq_eq_false_iff_ne.2 (by omega)
 have k13:(kd == 13)=false:=beq_eq_false_iff_ne.2 (by omega)
 have k14:(kd == 14)=false:=beq_eq_false_iff_ne.2 (by omega)
 have E6:Hid (RT w z B d (D1 D) vs va w5∧LOB w5 g6 ⟨kd,a,b,c⟩∧z < g6):=E5
 have OBS:Hid (∀ D' n er,jfz (D1 D) ⟨kd,a,b,c⟩ D' n er→ObsIs (D1 D) ⟨kd,a,b,c⟩ D' n er):=fun D' n er hO=>by
  unfold ObsIs
  rw [if_neg (by simp only;omega),if_neg (by simp only;omega),if_neg (by simp only;omega),if_neg (by simp only;omega),if_neg (by simp only;omega),if_neg (by simp only;omega)]
  exact hO
 clear E5
 go_upto_region 48 with fail
 clear o0 o1 o2 o4 k9 k10 k11 k12 k13 k14 hk
 have hE0:Below w5.heap.size w5 w5.drew:=(Below.refl _ _).drew
 have E0:Hid (RT w z B d (D1 D) vs va w5.drew∧LOB w5.drew g6 ⟨kd,a,b,c⟩∧z < g6):=⟨E6.out.1.later hE0,E6.out.2.1.later hE0 E6.out.2.1.lt,E6.out.2.2⟩
 clear hE0 E6
 generalize hPC:(jaa D.p vs).toArray=PC at *
 have HPC:Hid ((jaa D.p vs).toArray=PC):=hPC
 clear hPC
 go_cut [13,14,7] (fun s6 s7 s8 wc=>∃ g n er,s6=.pointer (some ⟨g,0,none⟩)∧s7=.int .i64 n∧s8=.int .i64 er∧Hid (∃ q vq,ja0 (jai D.p ⟨kd,a,b,c⟩) D.p n er q∧PBox wc g q vq∧(er=0→SlK cShip wc vq q.ships∧FarB B vq)∧RT w z B d (D1 D) vs va wc))
 case first =>
  refine wp_region_held_drew (S:=fun W=>Hid (RT w z B d (D1 D) vs va W∧LOB W g6 ⟨kd,a,b,c⟩∧z < g6)) (by kernel_rfl) E0 (fun hHeld=>?_)
  refine jjT 0 ⟨some 190,.move (.tmp 0),51,"ref.go:457",#[],none⟩ (?_) rfl (by kernel_rfl) (fun _ _ _ h=>h) (Or.inl ⟨by rfl,?_⟩) hHeld ?_
  rotate_left
  ·(intro w hSw;first|(go_simp;done)|(go_simp;with_reducible rfl))
  simp only [Act.put,jjA,jjB,jjC]
  refine jjT 1 ⟨some 191,.nilCheck (.tmp 190),0,"ref.go:457",#[⟨0,.data⟩],none⟩ (?_) rfl (by kernel_rfl) (fun _ _ _ h=>h) (Or.inl ⟨by rfl,?_⟩) hHeld ?_
  rotate_left
  ·(intro w hSw;first|(go_simp;done)|(go_simp;with_reducible rfl))
  simp only [Act.put,jjA,jjB,jjC]
  refine jjT 2 ⟨some 192,.fieldAddr 54 (.tmp 191) 0,0,"ref.go:457",#[⟨1,.data⟩],none⟩ (?_) rfl (by kernel_rfl) (fun _ _ _ h=>h) (Or.inl ⟨by rfl,?_⟩) hHeld ?_
  rotate_left
  ·(intro w hSw;first|(go_simp;done)|(go_simp;with_reducible rfl))
  simp only [Act.put,jjA,jjB,jjC]
  refine jjT 3 ⟨some 193,.load 41 (.tmp 192),41,"ref.go:457",#[⟨2,.data⟩],none⟩ (.agg PC) rfl (by kernel_rfl) (fun _ _ _ h=>h) (by rw [← HPC.out];exact yieldsIf_load_mid (by rfl) 41 (.tmp 192) rfl d 0 rfl (jaa D.p vs) _ (fun W hW=>hW.out.1.rm.box.port) Tryz.underlying41 rfl (jbg D.p vs h4)) hHeld ?_
  simp only [Act.put,jjA,jjB,jjC]
  refine jjT 4 ⟨some 194,.load 61 (.tmp 6),61,"ref.go:457",#[],none⟩ (.agg (jao ⟨kd,a,b,c⟩).toArray) rfl (by kernel_rfl) (fun _ _ _ h=>h) (yieldsIf_load_mid (by rfl) 61 (.tmp 6) rfl g6 0 rfl (jao ⟨kd,a,b,c⟩) _ (fun W hW=>hW.out.2.1.whole) Tryz.underlying61 rfl (jer _)) hHeld ?_
  simp only [Act.put,jjA,jjB,jjC]
  refine wpAnyH_ready (rs:=[5,10]) (by kernel_rfl) (by simp) ?_
  refine AllReadyH.cons rfl (fun K hK=>?_) (AllReadyH.cons rfl (fun K hK=>?_) AllReadyH.nil)
  ·go_simp
   refine(HTA _ _ (by have:=hHeld.out.1.rm.pv h14;rw [← HPC.out];exact this)).mono ?_
   rintro e w1 ⟨q,vq,n,er,rfl,hT,hq4,hqm,hqs,hb1,hqf⟩
   have onq:vq.oneCell'=true:=jf6 hqs
   have E1:Hid (RT w z B d (D1 D) vs va w1∧LOB w1 g6 ⟨kd,a,b,c⟩∧z < g6∧SlK cShip w1 vq q.ships∧ja0 (jai D.p ⟨kd,a,b,c⟩) D.p n er q∧(er=0→FarB B vq)):=⟨hHeld.out.1.later hb1,hHeld.out.2.1.later hb1 hHeld.out.2.1.lt,hHeld.out.2.2,hqs,hT,fun h=>(hqf h).mono hHeld.out.1.rm.hB⟩
   clear hT hqs hb1 HTA hHeld hqm hqf
   go_wp2_with fail
   refine hK.out _ _ ⟨E1.out.1,E1.out.2.1,E1.out.2.2.1⟩ (fun hHeld=>?_)
   clear hK K
   try simp only [Act.put,jjA,jjB,jjC]
   refine jjT 6 ⟨some 189,.move (.tmp 195),73,"ref.go:457",#[⟨5,.data⟩],none⟩ (.tuple #[.agg (jaa q vq).toArray,.int .i64 n,.int .i64 er]) rfl (by kernel_rfl) (fun _ _ _ h=>h) (Or.inl ⟨by rfl,by intro w hSw;go_simp⟩) hHeld ?_
   simp only [Act.put,jjA,jjB,jjC]
   refine jjT 7 ⟨some 196,.extract (.tmp 189) 0,41,"ref.go:457",#[⟨6,.data⟩],none⟩ (.agg (jaa q vq).toArray) rfl (by kernel_rfl) (fun _ _ _ h=>h) (Or.inl ⟨by rfl,by intro w hSw;go_simp⟩) hHeld ?_
   simp only [Act.put,jjA,jjB,jjC]
   refine jjT 8 ⟨some 197,.extract (.tmp 189) 1,3,"ref.go:457",#[⟨6,.data⟩,⟨11,.gcOnly .lateStores⟩],none⟩ (.int .i64 n) rfl (by kernel_rfl) (fun _ _ _ h=>h) (Or.inl ⟨by rfl,by intro w hSw;go_simp⟩) hHeld ?_
   simp only [Act.put,jjA,jjB,jjC]
   refine jjT 9 ⟨some 198,.extract (.tmp 189) 2,25,"ref.go:457",#[⟨6,.data⟩,⟨12,.gcOnly .lateStores⟩],none⟩ (.int .i64 er) rfl (by kernel_rfl) (fun _ _ _ h=>h) (Or.inl ⟨by rfl,by intro w hSw;go_simp⟩) hHeld ?_
   simp only [Act.put,jjA,jjB,jjC]
   refine jjR 10 (by kernel_rfl) rfl fun K hK=>?_
   refine jbq rfl rfl 13 rfl ?_
   intro w2 h2
   refine hK.out _ _ ⟨E1.out.1.later h2.out.2,E1.out.2.1.later h2.out.2 E1.out.2.1.lt,E1.out.2.2.1⟩ (fun hHeld=>?_)
   clear hK K hHeld
   try simp only [Act.put,jjA,jjB,jjC]
   refine jjR 11 (by kernel_rfl) rfl fun K hK=>?_
   refine jbp rfl (.tmp 13) (.tmp 196) rfl _ jaf q (.slice none 0 0) vq (by simp [Act.eval,Act.put]) (by simp [Act.eval,Act.put]) h2.out.1 hq4 onq rfl ?_
   intro w3 h3
   have E3:Hid ((ja0 (jai D.p ⟨kd,a,b,c⟩) D.p n er q∧PBox w3 w1.heap.size q vq∧(er=0→SlK cShip w3 vq q.ships∧FarB B vq)∧RT w z B d (D1 D) vs va w3)∧LOB w3 g6 ⟨kd,a,b,c⟩∧z < g6):=by
    have hb:Below w1.heap.size w1 w3:=h2.out.2.trans (h3.out.2.2 _ (Nat.le_refl _))
    exact⟨⟨E1.out.2.2.2.2.1,h3.out.1,fun h=>⟨jch E1.out.2.2.2.1 hb,E1.out.2.2.2.2.2 h⟩,E1.out.1.later hb⟩,E1.out.2.1.later hb E1.out.2.1.lt,E1.out.2.2.1⟩
   clear h2 h3 E1
   refine hK.out _ _ ⟨E3.out.1.2.2.2,E3.out.2⟩ (fun hHeld=>?_)
   clear hK K
   refine jjT 12 ⟨some 14,.assign (.tmp 197),3,"ref.go:457",#[⟨8,.data⟩,⟨11,.chain⟩,⟨0,.phase⟩,⟨1,.phase⟩,⟨2,.phase⟩,⟨3,.phase⟩,⟨4,.phase⟩,⟨5,.phase⟩,⟨6,.phase⟩,⟨7,.phase⟩,⟨8,.phase⟩,⟨9,.textOnly .lateStores⟩,⟨10,.phase⟩,⟨11,.phase⟩],none⟩ (.int .i64 n) rfl (by kernel_rfl) (fun _ _ _ h=>h) (Or.inl ⟨by rfl,by intro w hSw;go_simp⟩) hHeld ?_
   simp only [Act.put,jjA,jjB,jjC]
   refine jjT 13 ⟨some 7,.assign (.tmp 198),25,"ref.go:457",#[⟨9,.data⟩,⟨12,.chain⟩,⟨0,.phase⟩,⟨1,.phase⟩,⟨2,.phase⟩,⟨3,.phase⟩,⟨4,.phase⟩,⟨5,.phase⟩,⟨6,.phase⟩,⟨7,.phase⟩,⟨8,.phase⟩,⟨9,.phase⟩,⟨10,.phase⟩,⟨11,.phase⟩,⟨12,.phase⟩],none⟩ (.int .i64 er) rfl (by kernel_rfl) (fun _ _ _ h=>h) (Or.inl ⟨by rfl,by intro w hSw;go_simp⟩) hHeld ?_
   simp only [Act.put,jjA,jjB,jjC]
   refine wpAnyH_done (by kernel_rfl) ?_ _
   clear hHeld
   go_wp2_with fail
   go_meet
   exact⟨_,_,_,rfl,rfl,rfl,q,vq,E3.out.1⟩
  ·refine jbq rfl rfl 13 rfl ?_
   intro w1 h1
   have E1:Hid (RT w z B d (D1 D) vs va w1∧LOB w1 g6 ⟨kd,a,b,c⟩∧z < g6∧PBox w1 w5.drew.heap.size jaf (.slice none 0 0)∧Below w5.drew.heap.size w5.drew w1):=⟨hHeld.out.1.later h1.out.2,hHeld.out.2.1.later h1.out.2 hHeld.out.2.1.lt,hHeld.out.2.2,h1.out.1,h1.out.2⟩
   clear h1 hHeld
   refine hK.out _ _ ⟨E1.out.1,E1.out.2.1,E1.out.2.2.1⟩ (fun hHeld=>?_)
   clear hK K
   try simp only [Act.put,jjA,jjB,jjC]
   refine jjR 5 (by kernel_rfl) rfl fun K hK=>?_
   go_simp
   refine(HTA _ _ (by have:=hHeld.out.1.rm.pv h14;rw [← HPC.out];exact this)).mono ?_
   rintro e w2 ⟨q,vq,n,er,rfl,hT,hq4,hqm,hqs,hb1,hqf⟩
   have onq:vq.oneCell'=true:=jf6 hqs
   have E2:Hid (RT w z B d (D1 D) vs va w2∧LOB w2 g6 ⟨kd,a,b,c⟩∧z < g6∧PBox w2 w5.drew.heap.size jaf (.slice none 0 0)∧ja0 (jai D.p ⟨kd,a,b,c⟩) D.p n er q∧SlK cShip w2 vq q.ships∧(er=0→FarB w1.heap.size vq)∧Below w1.heap.size w1 w2):=⟨E1.out.1.later hb1,E1.out.2.1.later hb1 E1.out.2.1.lt,E1.out.2.2.1,E1.out.2.2.2.1.later hb1 E1.out.2.2.2.1.lt,hT,hqs,hqf,hb1⟩
   clear hT hqs hb1 HTA hHeld hqm hqf
   go_wp2_with fail
   refine hK.out _ _ ⟨E2.out.1,E2.out.2.1,E2.out.2.2.1⟩ (fun hHeld=>?_)
   clear hK K
   try simp only [Act.put,jjA,jjB,jjC]
   refine jjT 6 ⟨some 189,.move (.tmp 195),73,"ref.go:457",#[⟨5,.data⟩],none⟩ (.tuple #[.agg (jaa q vq).toArray,.int .i64 n,.int .i64 er]) rfl (by kernel_rfl) (fun _ _ _ h=>h) (Or.inl ⟨by rfl,by intro w hSw;go_simp⟩) hHeld ?_
   simp only [Act.put,jjA,jjB,jjC]
   refine jjT 7 ⟨some 196,.extract (.tmp 189) 0,41,"ref.go:457",#[⟨6,.data⟩],none⟩ (.agg (jaa q vq).toArray) rfl (by kernel_rfl) (fun _ _ _ h=>h) (Or.inl ⟨by rfl,by intro w hSw;go_simp⟩) hHeld ?_
   simp only [Act.put,jjA,jjB,jjC]
   refine jjT 8 ⟨some 197,.extract (.tmp 189) 1,3,"ref.go:457",#[⟨6,.data⟩,⟨11,.gcOnly .lateStores⟩],none⟩ (.int .i64 n) rfl (by kernel_rfl) (fun _ _ _ h=>h) (Or.inl ⟨by rfl,by intro w hSw;go_simp⟩) hHeld ?_
   simp only [Act.put,jjA,jjB,jjC]
   refine jjT 9 ⟨some 198,.extract (.tmp 189) 2,25,"ref.go:457",#[⟨6,.data⟩,⟨12,.gcOnly .lateStores⟩],none⟩ (.int .i64 er) rfl (by kernel_rfl) (fun _ _ _ h=>h) (Or.inl ⟨by rfl,by intro w hSw;go_simp⟩) hHeld ?_
   simp only [Act.put,jjA,jjB,jjC]
   refine jjR 11 (by kernel_rfl) rfl fun K hK=>?_
   refine jbp rfl (.tmp 13) (.tmp 196) rfl _ jaf q (.slice none 0 0) vq (by simp [Act.eval,Act.put]) (by simp [Act.eval,Act.put]) E2.out.2.2.2.1 hq4 onq rfl ?_
   intro w3 h3
   have E3:Hid ((ja0 (jai D.p ⟨kd,a,b,c⟩) D.p n er q∧PBox w3 w5.drew.heap.size q vq∧(er=0→SlK cShip w3 vq q.ships∧FarB B vq)∧RT w z B d (D1 D) vs va w3)∧LOB w3 g6 ⟨kd,a,b,c⟩∧z < g6):=by
    have hlt:=E1.out.2.2.2.1.lt
    have hb:Below w5.drew.heap.size w5.drew w3:=(E1.out.2.2.2.2.trans (E2.out.2.2.2.2.2.2.2.mono (by omega))).trans (h3.out.2.2 _ (Nat.le_refl _))
    have hB1:=E1.out.1.rm.hB
    exact⟨⟨E2.out.2.2.2.2.1,h3.out.1,fun h=>⟨jgh jcg (by omega) E2.out.2.2.2.2.2.1 (E2.out.2.2.2.2.2.2.1 h) (fun k hk _=>h3.out.2.1 k (by omega)),(E2.out.2.2.2.2.2.2.1 h).mono hB1⟩,E0.out.1.later hb⟩,E0.out.2.1.later hb E0.out.2.1.lt,E0.out.2.2⟩
   clear h3 E1 E2
   refine hK.out _ _ ⟨E3.out.1.2.2.2,E3.out.2⟩ (fun hHeld=>?_)
   clear hK K
   refine jjT 12 ⟨some 14,.assign (.tmp 197),3,"ref.go:457",#[⟨8,.data⟩,⟨11,.chain⟩,⟨0,.phase⟩,⟨1,.phase⟩,⟨2,.phase⟩,⟨3,.phase⟩,⟨4,.phase⟩,⟨5,.phase⟩,⟨6,.phase⟩,⟨7,.phase⟩,⟨8,.phase⟩,⟨9,.textOnly .lateStores⟩,⟨10,.phase⟩,⟨11,.phase⟩],none⟩ (.int .i64 n) rfl (by kernel_rfl) (fun _ _ _ h=>h) (Or.inl ⟨by rfl,by intro w hSw;go_simp⟩) hHeld ?_
   simp only [Act.put,jjA,jjB,jjC]
   refine jjT 13 ⟨some 7,.assign (.tmp 198),25,"ref.go:457",#[⟨9,.data⟩,⟨12,.chain⟩,⟨0,.phase⟩,⟨1,.phase⟩,⟨2,.phase⟩,⟨3,.phase⟩,⟨4,.phase⟩,⟨5,.phase⟩,⟨6,.phase⟩,⟨7,.phase⟩,⟨8,.phase⟩,⟨9,.phase⟩,⟨10,.phase⟩,⟨11,.phase⟩,⟨12,.phase⟩],none⟩ (.int .i64 er) rfl (by kernel_rfl) (fun _ _ _ h=>h) (Or.inl ⟨by rfl,by intro w hSw;go_simp⟩) hHeld ?_
   simp only [Act.put,jjA,jjB,jjC]
   refine wpAnyH_done (by kernel_rfl) ?_ _
   clear hHeld
   go_wp2_with fail
   go_meet
   exact⟨_,_,_,rfl,rfl,rfl,q,vq,E3.out.1⟩
 case rest =>
  obtain⟨g,n,er,rfl,rfl,rfl,C⟩:=hcut
  obtain⟨q,vq,c1,c2,c3,c4⟩:=C.out
  have TI:Hid (ja0 (jai D.p ⟨kd,a,b,c⟩) D.p n er q):=c1
  have C2:Hid (PBox wc g q vq∧(er=0→SlK cShip wc vq q.ships∧FarB B vq)∧RT w z B d (D1 D) vs va wc):=⟨c2,c3,c4⟩
  clear C c1 c2 c3 c4 HTA E0
  by_cases he:er=0
  case neg =>
   have hb:(er != 0)=true:=by simp [he]
   have OB:Hid (ObsIs (D1 D) ⟨kd,a,b,c⟩ (D1 D) 0 er):=OBS.out _ _ _ ⟨n,q,TI.out,Or.inl ⟨he,rfl,rfl⟩⟩
   have E7:Hid (RT w z B d (D1 D) vs va wc):=C2.out.2.2
   clear C2 TI he OBS
   go_wp2_with fail
   refine(HRP _ _).mono ?_
   rintro e wX ⟨rfl,hbX⟩
   have EX:Hid (RT w z B d (D1 D) vs va wX):=E7.out.later hbX
   clear hbX HRP
   go_wp2_with (refine jaq rfl _ _ rfl z 0 0 (er) 0 rfl rfl EX.out.rep ?_;intro wZ hZ sZ)
   refine bodyPost_ret (v:=.agg #[.int .i64 (er),.int .i64 (0)]) (ja5 Tryz.results18 _ _ z (er) (0) rfl hZ.out.1) rfl ?_
   have hE:=EX.out.end hZ.out
   exact⟨er,0,rfl,(D1 D),jb4 HN.out HP.out OB.out,hE.1,hE.2⟩
  subst he
  have HQ:Hid (jaj q):=jdg TI.out
  have hq4:=C2.out.1.1
  obtain⟨hsq,hfq⟩:=C2.out.2.1 rfl
  have on:=jf6 hsq
  have Q2:Hid (SlK cShip wc vq q.ships∧FarB B vq):=⟨hsq,hfq⟩
  clear hsq hfq
  go_upto_region 52 with (first|(refine jac rfl _ rfl g q vq rfl C2.out.1 ?_)|(refine jc5 rfl _ _ rfl d D.p q vs vq va (D.n+1) rfl rfl C2.out.2.2.rm.box hq4 on ?_;intro w8 h8))
  have E8:Hid (RT w z B d { D1 D with p:=q } vq va w8):=C2.out.2.2.turn (C2.out.2.2.rm.port h8.out.1 h8.out.2 Q2.out.1 Q2.out.2) h8.out.2 LOW.out
  clear C2 Q2 h8
  go_wp2_with fail
  refine(HDU { D1 D with p:=q } _ ⟨vq,va,E8.out.rm⟩ HQ.out).mono ?_
  rintro e w9 ⟨rfl,r,hr,⟨v9,va9,hM9⟩,hf9⟩
  have E9:Hid (RT w z B d { D1 D with p:=r } v9 va9 w9):=E8.out.turn hM9 hf9 LOW.out
  have OB:Hid (ObsIs (D1 D) ⟨kd,a,b,c⟩ { D1 D with p:=r } n 0):=OBS.out _ _ _ ⟨n,q,TI.out,Or.inr ⟨rfl,rfl,r,hr,rfl⟩⟩
  clear E8 hr hM9 hf9 HDU HQ TI OBS
  go_wp2_with (refine jaq rfl _ _ rfl z 0 0 0 n rfl rfl E9.out.rep ?_;intro wZ hZ sZ)
  refine bodyPost_ret (v:=.agg #[.int .i64 (0),.int .i64 (n)]) (ja5 Tryz.results18 _ _ z (0) (n) rfl hZ.out.1) rfl ?_
  have hE:=E9.out.end hZ.out
  exact⟨0,n,rfl,{ D1 D with p:=r },jb4 HN.out HP.out OB.out,hE.1,hE.2⟩
end Go.Proofs.YtcmdoeledmkfmacGreatDoor
