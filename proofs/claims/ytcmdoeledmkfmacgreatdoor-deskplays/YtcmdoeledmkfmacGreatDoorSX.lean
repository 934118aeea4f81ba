/- Texts of this claim, in one: DOrder DGuess. -/
import Derived.Test.YtcmdoeledmkfmacGreatDoorYS0
import Derived.Test.YtcmdoeledmkfmacGreatDoorSW
set_option linter.unusedSimpArgs false
set_option linter.unusedVariables false
set_option maxHeartbeats 40000000
set_option maxRecDepth 100000
namespace Go.Proofs.YtcmdoeledmkfmacGreatDoor
open Go.RowKit
theorem jrt (d:Nat) (D:Dk) (o:Ord) (w:World) (hD:Dsk w d D) (hO:DOk D) :
  Calls Tryz.prog 48 #[.pointer (some ⟨d,0,none⟩),.agg #[.int .i64 o.kd,.int .i64 o.a,.int .i64 o.b,.int .i64 o.c]] w fun e w'=>∃ n er,e=.returned (.tuple #[.int .i64 n,.int .i64 er])∧Hid (∃ D',jfz D o D' n er∧Dsk w' d D'∧Fr d w w'):=by
 obtain⟨vs,vp,va,pl,hM⟩:=hD
 have hp:=hO.port
 have HTA:=fun W h=>jir (.agg (jaa D.p vs).toArray) D.p o W h hp
 have HP:Hid (jaj D.p∧d < w.heap.size):=⟨hp,hM.lt⟩
 have H4:Hid (D.p.kept.length=4):=hM.box.four
 have hba:Below w.heap.size w (w.alloc (.cells #[.int .i64 o.kd,.int .i64 o.a,.int .i64 o.b,.int .i64 o.c] 61)):=(Below.refl _ w).alloc (Nat.le_refl _) _
 have E0:Hid (DM (w.alloc (.cells #[.int .i64 o.kd,.int .i64 o.a,.int .i64 o.b,.int .i64 o.c] 61)).drew d D vs vp va pl∧Fr d w (w.alloc (.cells #[.int .i64 o.kd,.int .i64 o.a,.int .i64 o.b,.int .i64 o.c] 61)).drew∧LOB (w.alloc (.cells #[.int .i64 o.kd,.int .i64 o.a,.int .i64 o.b,.int .i64 o.c] 61)).drew w.heap.size o):=by
  have hd:Below (w.alloc (.cells #[.int .i64 o.kd,.int .i64 o.a,.int .i64 o.b,.int .i64 o.c] 61)).heap.size (w.alloc (.cells #[.int .i64 o.kd,.int .i64 o.a,.int .i64 o.b,.int .i64 o.c] 61)) (w.alloc (.cells #[.int .i64 o.kd,.int .i64 o.a,.int .i64 o.b,.int .i64 o.c] 61)).drew:=(Below.refl _ _).drew
  have hN:LOB (w.alloc (.cells #[.int .i64 o.kd,.int .i64 o.a,.int .i64 o.b,.int .i64 o.c] 61)) w.heap.size o:=LOB.new w o
  exact⟨(hM.later hba).later hd,(Fr.of hba (by have:=hM.lt;omega)).trans (Fr.drew _),hN.later hd hN.lt⟩
 have HBE:=fun q v W h1 h2 h3=>jf5 d D q v W h1 hp h2 h3
 have HAD:=fun q W h1 h2=>jnp d { D with p:=q } W h1 h2
 clear hba hM hp
 generalize hPC:(jaa D.p vs).toArray=PC at *
 have HPC:Hid ((jaa D.p vs).toArray=PC):=hPC
 clear hPC
 go_enter Tryz.func48,Tryz.ntmps48
 go_upto_region 1 with fail
 generalize (w.alloc (.cells #[.int .i64 o.kd,.int .i64 o.a,.int .i64 o.b,.int .i64 o.c] 61))=W1 at *
 generalize hz:w.heap.size=z at *
 go_cut [6,7,8] (fun s6 s7 s8 wc=>∃ g n er,s6=.pointer (some ⟨g,0,none⟩)∧s7=.int .i64 n∧s8=.int .i64 er∧Hid (∃ q vq,ja0 (jai D.p o) D.p n er q∧PBox wc g q vq∧RowT 46 cShip wc vq q.ships∧DM wc d D vs vp va pl∧Fr d w wc))
 case first =>
  refine wp_region_held_drew (S:=fun W=>Hid (DM W d D vs vp va pl∧Fr d w W∧LOB W z o)) (by kernel_rfl) E0 (fun hHeld=>?_)
  refine jjT 0 ⟨some 10,.move (.tmp 0),31,"obey.go:33",#[],none⟩ (?_) rfl (by kernel_rfl) (fun _ _ _ h=>h) (Or.inl ⟨by rfl,?_⟩) hHeld ?_
  rotate_left
  ·(intro w hSw;first|(go_simp;done)|(go_simp;with_reducible rfl))
  simp only [Act.put,jjA,jjB,jjC]
  refine jjT 1 ⟨some 11,.nilCheck (.tmp 10),0,"obey.go:33",#[⟨0,.data⟩],none⟩ (?_) rfl (by kernel_rfl) (fun _ _ _ h=>h) (Or.inl ⟨by rfl,?_⟩) hHeld ?_
  rotate_left
  ·(intro w hSw;first|(go_simp;done)|(go_simp;with_reducible rfl))
  simp only [Act.put,jjA,jjB,jjC]
  refine jjT 2 ⟨some 12,.fieldAddr 59 (.tmp 11) 0,0,"obey.go:33",#[⟨1,.data⟩],none⟩ (?_) rfl (by kernel_rfl) (fun _ _ _ h=>h) (Or.inl ⟨by rfl,?_⟩) hHeld ?_
  rotate_left
  ·(intro w hSw;first|(go_simp;done)|(go_simp;with_reducible rfl))
  simp only [Act.put,jjA,jjB,jjC]
  refine jjT 3 ⟨some 13,.load 41 (.tmp 12),41,"obey.go:33",#[⟨2,.data⟩],none⟩ (.agg PC) rfl (by kernel_rfl) (fun _ _ _ h=>h) (by rw [← HPC.out];exact yieldsIf_load_mid (by rfl) 41 (.tmp 12) rfl d 0 rfl (jaa D.p vs) _ (fun W hW=>hW.out.1.box.port) Tryz.underlying41 rfl (jbg D.p vs H4.out)) hHeld ?_
  simp only [Act.put,jjA,jjB,jjC]
  refine jjT 4 ⟨some 14,.load 61 (.tmp 3),61,"obey.go:33",#[],none⟩ (.agg #[.int .i64 o.kd,.int .i64 o.a,.int .i64 o.b,.int .i64 o.c]) rfl (by kernel_rfl) (fun _ _ _ h=>h) (yieldsIf_load_mid (by rfl) 61 (.tmp 3) rfl z 0 rfl (jao o) _ (fun W hW=>hW.out.2.2.whole) Tryz.underlying61 rfl (jer o)) hHeld ?_
  simp only [Act.put,jjA,jjB,jjC]
  refine wpAnyH_ready (rs:=[5,10]) (by kernel_rfl) (by simp) ?_
  refine AllReadyH.cons rfl (fun K hK=>?_) (AllReadyH.cons rfl (fun K hK=>?_) AllReadyH.nil)
  ·go_simp
   refine(HTA _ (by have:=hHeld.out.1.pv HP.out.1;rw [HPC.out] at this;exact this)).mono ?_
   rintro e w1 ⟨q,vq,n,er,rfl,hT,hq4,hqm,hqo,hb1⟩
   have onq:vq.oneCell'=true:=jam hqo
   have E1:Hid (DM w1 d D vs vp va pl∧Fr d w w1∧LOB w1 z o∧RowT 46 cShip w1 vq q.ships∧ja0 (jai D.p o) D.p n er q):=⟨hHeld.out.1.later hb1,hHeld.out.2.1.trans (Fr.of hb1 (by have:=hHeld.out.1.lt;omega)),hHeld.out.2.2.later hb1 hHeld.out.2.2.lt,RowT.own hqo,hT⟩
   clear hT hqo hb1 HTA hHeld hqm
   go_wp2_with fail
   refine hK.out _ _ ⟨E1.out.1,E1.out.2.1,E1.out.2.2.1⟩ (fun hHeld=>?_)
   clear hK K
   try ((try dsimp only);simp only [Act.put,jjA,jjB,jjC])
   refine jjT 6 ⟨some 9,.move (.tmp 15),73,"obey.go:33",#[⟨5,.data⟩],none⟩ (.tuple #[.agg (jaa q vq).toArray,.int .i64 n,.int .i64 er]) rfl (by kernel_rfl) (fun _ _ _ h=>h) (Or.inl ⟨by rfl,by intro w hSw;go_simp⟩) hHeld ?_
   simp only [Act.put,jjA,jjB,jjC]
   refine jjT 7 ⟨some 16,.extract (.tmp 9) 0,41,"obey.go:33",#[⟨6,.data⟩],none⟩ (.agg (jaa q vq).toArray) rfl (by kernel_rfl) (fun _ _ _ h=>h) (Or.inl ⟨by rfl,by intro w hSw;go_simp⟩) hHeld ?_
   simp only [Act.put,jjA,jjB,jjC]
   refine jjT 8 ⟨some 17,.extract (.tmp 9) 1,3,"obey.go:33",#[⟨6,.data⟩,⟨11,.gcOnly .lateStores⟩],none⟩ (.int .i64 n) rfl (by kernel_rfl) (fun _ _ _ h=>h) (Or.inl ⟨by rfl,by intro w hSw;go_simp⟩) hHeld ?_
   simp only [Act.put,jjA,jjB,jjC]
   refine jjT 9 ⟨some 18,.extract (.tmp 9) 2,25,"obey.go:33",#[⟨6,.data⟩,⟨12,.gcOnly .lateStores⟩],none⟩ (.int .i64 er) rfl (by kernel_rfl) (fun _ _ _ h=>h) (Or.inl ⟨by rfl,by intro w hSw;go_simp⟩) hHeld ?_
   simp only [Act.put,jjA,jjB,jjC]
   refine jjR 10 (by kernel_rfl) rfl fun K hK=>?_
   refine jbq rfl rfl 6 rfl ?_
   intro w2 h2
   refine hK.out _ _ ⟨E1.out.1.later h2.out.2,E1.out.2.1.trans (Fr.of h2.out.2 (by have:=E1.out.1.lt;omega)),E1.out.2.2.1.later h2.out.2 E1.out.2.2.1.lt⟩ (fun hHeld=>?_)
   clear hK K hHeld
   try ((try dsimp only);simp only [Act.put,jjA,jjB,jjC])
   refine jjR 11 (by kernel_rfl) rfl fun K hK=>?_
   refine jbp rfl (.tmp 6) (.tmp 16) rfl _ jaf q (.slice none 0 0) vq (by simp [Act.eval,Act.put]) (by simp [Act.eval,Act.put]) h2.out.1 hq4 onq rfl ?_
   intro w3 h3
   have E3:Hid ((ja0 (jai D.p o) D.p n er q∧PBox w3 w1.heap.size q vq∧RowT 46 cShip w3 vq q.ships∧DM w3 d D vs vp va pl∧Fr d w w3)∧LOB w3 z o):=by
    have hb:Below w1.heap.size w1 w3:=h2.out.2.trans (h3.out.2.2 _ (Nat.le_refl _))
    exact⟨⟨E1.out.2.2.2.2,h3.out.1,E1.out.2.2.2.1.later hb,E1.out.1.later hb,E1.out.2.1.trans (Fr.of hb (by have:=E1.out.1.lt;omega))⟩,E1.out.2.2.1.later hb E1.out.2.2.1.lt⟩
   clear h2 h3 E1
   refine hK.out _ _ ⟨E3.out.1.2.2.2.1,E3.out.1.2.2.2.2,E3.out.2⟩ (fun hHeld=>?_)
   clear hK K
   refine jjT 12 ⟨some 7,.assign (.tmp 17),3,"obey.go:33",#[⟨8,.data⟩,⟨11,.chain⟩,⟨0,.phase⟩,⟨1,.phase⟩,⟨2,.phase⟩,⟨3,.phase⟩,⟨4,.phase⟩,⟨5,.phase⟩,⟨6,.phase⟩,⟨7,.phase⟩,⟨8,.phase⟩,⟨9,.textOnly .lateStores⟩,⟨10,.phase⟩,⟨11,.phase⟩],none⟩ (.int .i64 n) rfl (by kernel_rfl) (fun _ _ _ h=>h) (Or.inl ⟨by rfl,by intro w hSw;go_simp⟩) hHeld ?_
   simp only [Act.put,jjA,jjB,jjC]
   refine jjT 13 ⟨some 8,.assign (.tmp 18),25,"obey.go:33",#[⟨9,.data⟩,⟨12,.chain⟩,⟨0,.phase⟩,⟨1,.phase⟩,⟨2,.phase⟩,⟨3,.phase⟩,⟨4,.phase⟩,⟨5,.phase⟩,⟨6,.phase⟩,⟨7,.phase⟩,⟨8,.phase⟩,⟨9,.phase⟩,⟨10,.phase⟩,⟨11,.phase⟩,⟨12,.phase⟩],none⟩ (.int .i64 er) rfl (by kernel_rfl) (fun _ _ _ h=>h) (Or.inl ⟨by rfl,by intro w hSw;go_simp⟩) hHeld ?_
   simp only [Act.put,jjA,jjB,jjC]
   refine wpAnyH_done (by kernel_rfl) ?_ _
   clear hHeld
   go_wp2_with fail
   go_meet
   exact⟨_,_,_,rfl,rfl,rfl,q,vq,E3.out.1⟩
  ·refine jbq rfl rfl 6 rfl ?_
   intro w1 h1
   have E1:Hid (DM w1 d D vs vp va pl∧Fr d w w1∧LOB w1 z o∧PBox w1 W1.drew.heap.size jaf (.slice none 0 0)∧Below W1.drew.heap.size W1.drew w1):=⟨hHeld.out.1.later h1.out.2,hHeld.out.2.1.trans (Fr.of h1.out.2 (by have:=hHeld.out.1.lt;omega)),hHeld.out.2.2.later h1.out.2 hHeld.out.2.2.lt,h1.out.1,h1.out.2⟩
   clear h1 hHeld
   refine hK.out _ _ ⟨E1.out.1,E1.out.2.1,E1.out.2.2.1⟩ (fun hHeld=>?_)
   clear hK K
   try ((try dsimp only);simp only [Act.put,jjA,jjB,jjC])
   refine jjR 5 (by kernel_rfl) rfl fun K hK=>?_
   go_simp
   refine(HTA _ (by have:=hHeld.out.1.pv HP.out.1;rw [HPC.out] at this;exact this)).mono ?_
   rintro e w2 ⟨q,vq,n,er,rfl,hT,hq4,hqm,hqo,hb1⟩
   have onq:vq.oneCell'=true:=jam hqo
   have E2:Hid (DM w2 d D vs vp va pl∧Fr d w w2∧LOB w2 z o∧PBox w2 W1.drew.heap.size jaf (.slice none 0 0)∧ja0 (jai D.p o) D.p n er q∧w2.ownsRow w1.heap.size 46 6 vq q.ships.length (jae cShip q.ships)∧Below w1.heap.size w1 w2):=⟨E1.out.1.later hb1,E1.out.2.1.trans (Fr.of hb1 (by have:=E1.out.1.lt;omega)),E1.out.2.2.1.later hb1 E1.out.2.2.1.lt,E1.out.2.2.2.1.later hb1 E1.out.2.2.2.1.lt,hT,hqo,hb1⟩
   clear hT hqo hb1 HTA hHeld hqm
   go_wp2_with fail
   refine hK.out _ _ ⟨E2.out.1,E2.out.2.1,E2.out.2.2.1⟩ (fun hHeld=>?_)
   clear hK K
   try ((try dsimp only);simp only [Act.put,jjA,jjB,jjC])
   refine jjT 6 ⟨some 9,.move (.tmp 15),73,"obey.go:33",#[⟨5,.data⟩],none⟩ (.tuple #[.agg (jaa q vq).toArray,.int .i64 n,.int .i64 er]) rfl (by kernel_rfl) (fun _ _ _ h=>h) (Or.inl ⟨by rfl,by intro w hSw;go_simp⟩) hHeld ?_
   simp only [Act.put,jjA,jjB,jjC]
   refine jjT 7 ⟨some 16,.extract (.tmp 9) 0,41,"obey.go:33",#[⟨6,.data⟩],none⟩ (.agg (jaa q vq).toArray) rfl (by kernel_rfl) (fun _ _ _ h=>h) (Or.inl ⟨by rfl,by intro w hSw;go_simp⟩) hHeld ?_
   simp only [Act.put,jjA,jjB,jjC]
   refine jjT 8 ⟨some 17,.extract (.tmp 9) 1,3,"obey.go:33",#[⟨6,.data⟩,⟨11,.gcOnly .lateStores⟩],none⟩ (.int .i64 n) rfl (by kernel_rfl) (fun _ _ _ h=>h) (Or.inl ⟨by rfl,by intro w hSw;go_simp⟩) hHeld ?_
   simp only [Act.put,jjA,jjB,jjC]
   refine jjT 9 ⟨some 18,.extract (.tmp 9) 2,25,"obey.go:33",#[⟨6,.data⟩,⟨12,.gcOnly .lateStores⟩],none⟩ (.int .i64 er) rfl (by kernel_rfl) (fun _ _ _ h=>h) (Or.inl ⟨by rfl,by intro w hSw;go_simp⟩) hHeld ?_
   simp only [Act.put,jjA,jjB,jjC]
   refine jjR 11 (by kernel_rfl) rfl fun K hK=>?_
   refine jbp rfl (.tmp 6) (.tmp 16) rfl _ jaf q (.slice none 0 0) vq (by simp [Act.eval,Act.put]) (by simp [Act.eval,Act.put]) E2.out.2.2.2.1 hq4 onq rfl ?_
   intro w3 h3
   have E3:Hid ((ja0 (jai D.p o) D.p n er q∧PBox w3 W1.drew.heap.size q vq∧RowT 46 cShip w3 vq q.ships∧DM w3 d D vs vp va pl∧Fr d w w3)∧LOB w3 z o):=by
    have hlt:=E1.out.2.2.2.1.lt
    have hb:Below W1.drew.heap.size W1.drew w3:=(E1.out.2.2.2.2.trans (E2.out.2.2.2.2.2.2.mono (by omega))).trans (h3.out.2.2 _ (Nat.le_refl _))
    have S:=E0
    exact⟨⟨E2.out.2.2.2.2.1,h3.out.1,RowT.own (B:=w1.heap.size) (jal E2.out.2.2.2.2.2.1 fun k hk=>h3.out.2.1 k (by omega)),S.out.1.later hb,S.out.2.1.trans (Fr.of hb (by have:=S.out.1.lt;omega))⟩,S.out.2.2.later hb S.out.2.2.lt⟩
   clear h3 E1 E2
   refine hK.out _ _ ⟨E3.out.1.2.2.2.1,E3.out.1.2.2.2.2,E3.out.2⟩ (fun hHeld=>?_)
   clear hK K
   refine jjT 12 ⟨some 7,.assign (.tmp 17),3,"obey.go:33",#[⟨8,.data⟩,⟨11,.chain⟩,⟨0,.phase⟩,⟨1,.phase⟩,⟨2,.phase⟩,⟨3,.phase⟩,⟨4,.phase⟩,⟨5,.phase⟩,⟨6,.phase⟩,⟨7,.phase⟩,⟨8,.phase⟩,⟨9,.textOnly .lateStores⟩,⟨10,.phase⟩,⟨11,.phase⟩],none⟩ (.int .i64 n) rfl (by kernel_rfl) (fun _ _ _ h=>h) (Or.inl ⟨by rfl,by intro w hSw;go_simp⟩) hHeld ?_
   simp only [Act.put,jjA,jjB,jjC]
   refine jjT 13 ⟨some 8,.assign (.tmp 18),25,"obey.go:33",#[⟨9,.data⟩,⟨12,.chain⟩,⟨0,.phase⟩,⟨1,.phase⟩,⟨2,.phase⟩,⟨3,.phase⟩,⟨4,.phase⟩,⟨5,.phase⟩,⟨6,.phase⟩,⟨7,.phase⟩,⟨8,.phase⟩,⟨9,.phase⟩,⟨10,.phase⟩,⟨11,.phase⟩,⟨12,.phase⟩],none⟩ (.int .i64 er) rfl (by kernel_rfl) (fun _ _ _ h=>h) (Or.inl ⟨by rfl,by intro w hSw;go_simp⟩) hHeld ?_
   simp only [Act.put,jjA,jjB,jjC]
   refine wpAnyH_done (by kernel_rfl) ?_ _
   clear hHeld
   go_wp2_with fail
   go_meet
   exact⟨_,_,_,rfl,rfl,rfl,q,vq,E3.out.1⟩
 case rest =>
  obtain⟨g,n,er,rfl,rfl,rfl,C⟩:=hcut
  obtain⟨q,vq,c1,c2,c3,c4,c5⟩:=C.out
  have TI:Hid (ja0 (jai D.p o) D.p n er q):=c1
  have C2:Hid (PBox wc g q vq∧RowT 46 cShip wc vq q.ships∧Dsk wc d D∧Fr d w wc):=⟨c2,c3,⟨_,_,_,_,c4⟩,c5⟩
  clear C c1 c2 c3 c4 c5 HTA E0
  by_cases he:er=0
  case neg =>
   have hb:(er != 0)=true:=by simp [he]
   have R:Hid (∃ D',jfz D o D' 0 er∧Dsk wc d D'∧Fr d w wc):=⟨D,⟨n,q,TI.out,Or.inl ⟨he,rfl,rfl⟩⟩,C2.out.2.2.1,C2.out.2.2.2⟩
   clear C2 TI he
   go_wp2_with fail
   go_ret2
   exact⟨0,er,rfl,R⟩
  subst he
  have HQ:Hid (jaj q):=jdg TI.out
  go_wp2_with (refine jac rfl _ rfl g q vq rfl C2.out.1 ?_)
  refine(HBE q vq _ C2.out.2.2.1 HQ.out C2.out.2.1).mono ?_
  rintro e w5 ⟨rfl,h5,h6⟩
  have E5:Hid (Dsk w5 d { D with p:=q }∧Fr d w w5):=⟨h5,C2.out.2.2.2.trans h6⟩
  clear h5 h6 C2 HBE
  go_wp2_with fail
  refine(HAD q _ E5.out.1 HQ.out).mono ?_
  rintro e w6 ⟨rfl,h6⟩
  have R:Hid (∃ D',jfz D o D' n 0∧Dsk w6 d D'∧Fr d w w6):=by
   obtain⟨r,k1,k2,k3⟩:=h6.out
   exact⟨{ D with p:=r },⟨n,q,TI.out,Or.inr ⟨rfl,rfl,r,k1,rfl⟩⟩,k2,E5.out.2.trans k3⟩
  clear h6 E5 TI HAD
  go_wp2_with fail
  go_ret2
  exact⟨n,0,rfl,R⟩
theorem jr5 (d:Nat) (D:Dk) (o:Ord) (w:World) (hD:Dsk w d D) (hO:DOk D) :
  Calls Tryz.prog 46 #[.pointer (some ⟨d,0,none⟩),.agg #[.int .i64 o.kd,.int .i64 o.a,.int .i64 o.b,.int .i64 o.c]] w fun e w'=>∃ n er,e=.returned (.tuple #[.int .i64 n,.int .i64 er])∧Hid (jgo D.p o.a o.b o.c n er∧Dsk w' d D∧Fr d w w'):=by
 obtain⟨vs,vp,va,pl,hM⟩:=hD
 have hp:=hO.port
 have hpl:=hM.plan
 obtain⟨pa,pc,hvp⟩:=hM.row.shape
 subst hvp
 have HTA:=fun W h=>jir (.agg (jaa D.p vs).toArray) D.p ⟨1,o.a,o.b,o.c⟩ W h hp
 have HMP:=fun q vq W h1 h2 h3 hq=>jhw (.agg (jaa D.p vs).toArray) (.agg (jaa q vq).toArray) (.slice pa pl.length pc) D.p q pl W h1 h2 hp hq h3 hpl
 have HP:Hid (jaj D.p∧d < w.heap.size):=⟨hp,hM.lt⟩
 have H4:Hid (D.p.kept.length=4):=hM.box.four
 have hba:Below w.heap.size w (w.alloc (.cells #[.int .i64 1,.int .i64 o.a,.int .i64 o.b,.int .i64 o.c] 61)):=(Below.refl _ w).alloc (Nat.le_refl _) _
 have E0:Hid (DM (w.alloc (.cells #[.int .i64 1,.int .i64 o.a,.int .i64 o.b,.int .i64 o.c] 61)).drew d D vs (.slice pa pl.length pc) va pl∧Fr d w (w.alloc (.cells #[.int .i64 1,.int .i64 o.a,.int .i64 o.b,.int .i64 o.c] 61)).drew∧LOB (w.alloc (.cells #[.int .i64 1,.int .i64 o.a,.int .i64 o.b,.int .i64 o.c] 61)).drew w.heap.size (⟨1,o.a,o.b,o.c⟩:Ord)):=by
  have hd:Below (w.alloc (.cells #[.int .i64 1,.int .i64 o.a,.int .i64 o.b,.int .i64 o.c] 61)).heap.size (w.alloc (.cells #[.int .i64 1,.int .i64 o.a,.int .i64 o.b,.int .i64 o.c] 61)) (w.alloc (.cells #[.int .i64 1,.int .i64 o.a,.int .i64 o.b,.int .i64 o.c] 61)).drew:=(Below.refl _ _).drew
  have hN:LOB (w.alloc (.cells #[.int .i64 1,.int .i64 o.a,.int .i64 o.b,.int .i64 o.c] 61)) w.heap.size (⟨1,o.a,o.b,o.c⟩:Ord):=LOB.new w (⟨1,o.a,o.b,o.c⟩:Ord)
  exact⟨(hM.later hba).later hd,(Fr.of hba (by have:=hM.lt;omega)).trans (Fr.drew _),hN.later hd hN.lt⟩
 clear hba hM hp hpl
 generalize hPC:(jaa D.p vs).toArray=PC at *
 have HPC:Hid ((jaa D.p vs).toArray=PC):=hPC
 clear hPC
 go_enter Tryz.func46,Tryz.ntmps46
 go_upto_region 2 with fail
 generalize (w.alloc (.cells #[.int .i64 1,.int .i64 o.a,.int .i64 o.b,.int .i64 o.c] 61))=W1 at *
 generalize hz:w.heap.size=z at *
 go_cut [6,7,8] (fun s6 s7 s8 wc=>∃ g n er,s6=.pointer (some ⟨g,0,none⟩)∧s7=.int .i64 n∧s8=.int .i64 er∧Hid (∃ q vq,ja0 (jai D.p (⟨1,o.a,o.b,o.c⟩:Ord)) D.p n er q∧PBox wc g q vq∧RowT 46 cShip wc vq q.ships∧DM wc d D vs (.slice pa pl.length pc) va pl∧Fr d w wc))
 case first =>
  refine wp_region_held_drew (S:=fun W=>Hid (DM W d D vs (.slice pa pl.length pc) va pl∧Fr d w W∧LOB W z (⟨1,o.a,o.b,o.c⟩:Ord))) (by kernel_rfl) E0 (fun hHeld=>?_)
  refine jjT 0 ⟨some 13,.move (.tmp 0),31,"obey.go:90",#[],none⟩ (?_) rfl (by kernel_rfl) (fun _ _ _ h=>h) (Or.inl ⟨by rfl,?_⟩) hHeld ?_
  rotate_left
  ·(intro w hSw;first|(go_simp;done)|(go_simp;with_reducible rfl))
  simp only [Act.put,jjA,jjB,jjC]
  refine jjT 1 ⟨some 14,.nilCheck (.tmp 13),0,"obey.go:90",#[⟨0,.data⟩],none⟩ (?_) rfl (by kernel_rfl) (fun _ _ _ h=>h) (Or.inl ⟨by rfl,?_⟩) hHeld ?_
  rotate_left
  ·(intro w hSw;first|(go_simp;done)|(go_simp;with_reducible rfl))
  simp only [Act.put,jjA,jjB,jjC]
  refine jjT 2 ⟨some 15,.fieldAddr 59 (.tmp 14) 0,0,"obey.go:90",#[⟨1,.data⟩],none⟩ (?_) rfl (by kernel_rfl) (fun _ _ _ h=>h) (Or.inl ⟨by rfl,?_⟩) hHeld ?_
  rotate_left
  ·(intro w hSw;first|(go_simp;done)|(go_simp;with_reducible rfl))
  simp only [Act.put,jjA,jjB,jjC]
  refine jjT 3 ⟨some 16,.load 41 (.tmp 15),41,"obey.go:90",#[⟨2,.data⟩],none⟩ (.agg PC) rfl (by kernel_rfl) (fun _ _ _ h=>h) (by rw [← HPC.out];exact yieldsIf_load_mid (by rfl) 41 (.tmp 15) rfl d 0 rfl (jaa D.p vs) _ (fun W hW=>hW.out.1.box.port) Tryz.underlying41 rfl (jbg D.p vs H4.out)) hHeld ?_
  simp only [Act.put,jjA,jjB,jjC]
  refine jjT 4 ⟨some 17,.load 61 (.tmp 3),61,"obey.go:90",#[],none⟩ (.agg #[.int .i64 1,.int .i64 o.a,.int .i64 o.b,.int .i64 o.c]) rfl (by kernel_rfl) (fun _ _ _ h=>h) (yieldsIf_load_mid (by rfl) 61 (.tmp 3) rfl z 0 rfl (jao (⟨1,o.a,o.b,o.c⟩:Ord)) _ (fun W hW=>hW.out.2.2.whole) Tryz.underlying61 rfl (jer (⟨1,o.a,o.b,o.c⟩:Ord))) hHeld ?_
  simp only [Act.put,jjA,jjB,jjC]
  refine wpAnyH_ready (rs:=[5,10]) (by kernel_rfl) (by simp) ?_
  refine AllReadyH.cons rfl (fun K hK=>?_) (AllReadyH.cons rfl (fun K hK=>?_) AllReadyH.nil)
  ·go_simp
   refine(HTA _ (by have:=hHeld.out.1.pv HP.out.1;rw [HPC.out] at this;exact this)).mono ?_
   rintro e w1 ⟨q,vq,n,er,rfl,hT,hq4,hqm,hqo,hb1⟩
   have onq:vq.oneCell'=true:=jam hqo
   have E1:Hid (DM w1 d D vs (.slice pa pl.length pc) va pl∧Fr d w w1∧LOB w1 z (⟨1,o.a,o.b,o.c⟩:Ord)∧RowT 46 cShip w1 vq q.ships∧ja0 (jai D.p (⟨1,o.a,o.b,o.c⟩:Ord)) D.p n er q):=⟨hHeld.out.1.later hb1,hHeld.out.2.1.trans (Fr.of hb1 (by have:=hHeld.out.1.lt;omega)),hHeld.out.2.2.later hb1 hHeld.out.2.2.lt,RowT.own hqo,hT⟩
   clear hT hqo hb1 HTA hHeld hqm
   go_wp2_with fail
   refine hK.out _ _ ⟨E1.out.1,E1.out.2.1,E1.out.2.2.1⟩ (fun hHeld=>?_)
   clear hK K
   try ((try dsimp only);simp only [Act.put,jjA,jjB,jjC])
   refine jjT 6 ⟨some 12,.move (.tmp 18),73,"obey.go:90",#[⟨5,.data⟩],none⟩ (.tuple #[.agg (jaa q vq).toArray,.int .i64 n,.int .i64 er]) rfl (by kernel_rfl) (fun _ _ _ h=>h) (Or.inl ⟨by rfl,by intro w hSw;go_simp⟩) hHeld ?_
   simp only [Act.put,jjA,jjB,jjC]
   refine jjT 7 ⟨some 19,.extract (.tmp 12) 0,41,"obey.go:90",#[⟨6,.data⟩],none⟩ (.agg (jaa q vq).toArray) rfl (by kernel_rfl) (fun _ _ _ h=>h) (Or.inl ⟨by rfl,by intro w hSw;go_simp⟩) hHeld ?_
   simp only [Act.put,jjA,jjB,jjC]
   refine jjT 8 ⟨some 20,.extract (.tmp 12) 1,3,"obey.go:90",#[⟨6,.data⟩,⟨11,.gcOnly .lateStores⟩],none⟩ (.int .i64 n) rfl (by kernel_rfl) (fun _ _ _ h=>h) (Or.inl ⟨by rfl,by intro w hSw;go_simp⟩) hHeld ?_
   simp only [Act.put,jjA,jjB,jjC]
   refine jjT 9 ⟨some 21,.extract (.tmp 12) 2,25,"obey.go:90",#[⟨6,.data⟩,⟨12,.gcOnly .lateStores⟩],none⟩ (.int .i64 er) rfl (by kernel_rfl) (fun _ _ _ h=>h) (Or.inl ⟨by rfl,by intro w hSw;go_simp⟩) hHeld ?_
   simp only [Act.put,jjA,jjB,jjC]
   refine jjR 10 (by kernel_rfl) rfl fun K hK=>?_
   refine jbq rfl rfl 6 rfl ?_
   intro w2 h2
   refine hK.out _ _ ⟨E1.out.1.later h2.out.2,E1.out.2.1.trans (Fr.of h2.out.2 (by have:=E1.out.1.lt;omega)),E1.out.2.2.1.later h2.out.2 E1.out.2.2.1.lt⟩ (fun hHeld=>?_)
   clear hK K hHeld
   try ((try dsimp only);simp only [Act.put,jjA,jjB,jjC])
   refine jjR 11 (by kernel_rfl) rfl fun K hK=>?_
   refine jbp rfl (.tmp 6) (.tmp 19) rfl _ jaf q (.slice none 0 0) vq (by simp [Act.eval,Act.put]) (by simp [Act.eval,Act.put]) h2.out.1 hq4 onq rfl ?_
   intro w3 h3
   have E3:Hid ((ja0 (jai D.p (⟨1,o.a,o.b,o.c⟩:Ord)) D.p n er q∧PBox w3 w1.heap.size q vq∧RowT 46 cShip w3 vq q.ships∧DM w3 d D vs (.slice pa pl.length pc) va pl∧Fr d w w3)∧LOB w3 z (⟨1,o.a,o.b,o.c⟩:Ord)):=by
    have hb:Below w1.heap.size w1 w3:=h2.out.2.trans (h3.out.2.2 _ (Nat.le_refl _))
    exact⟨⟨E1.out.2.2.2.2,h3.out.1,E1.out.2.2.2.1.later hb,E1.out.1.later hb,E1.out.2.1.trans (Fr.of hb (by have:=E1.out.1.lt;omega))⟩,E1.out.2.2.1.later hb E1.out.2.2.1.lt⟩
   clear h2 h3 E1
   refine hK.out _ _ ⟨E3.out.1.2.2.2.1,E3.out.1.2.2.2.2,E3.out.2⟩ (fun hHeld=>?_)
   clear hK K
   refine jjT 12 ⟨some 7,.assign (.tmp 20),3,"obey.go:90",#[⟨8,.data⟩,⟨11,.chain⟩,⟨0,.phase⟩,⟨1,.phase⟩,⟨2,.phase⟩,⟨3,.phase⟩,⟨4,.phase⟩,⟨5,.phase⟩,⟨6,.phase⟩,⟨7,.phase⟩,⟨8,.phase⟩,⟨9,.textOnly .lateStores⟩,⟨10,.phase⟩,⟨11,.phase⟩],none⟩ (.int .i64 n) rfl (by kernel_rfl) (fun _ _ _ h=>h) (Or.inl ⟨by rfl,by intro w hSw;go_simp⟩) hHeld ?_
   simp only [Act.put,jjA,jjB,jjC]
   refine jjT 13 ⟨some 8,.assign (.tmp 21),25,"obey.go:90",#[⟨9,.data⟩,⟨12,.chain⟩,⟨0,.phase⟩,⟨1,.phase⟩,⟨2,.phase⟩,⟨3,.phase⟩,⟨4,.phase⟩,⟨5,.phase⟩,⟨6,.phase⟩,⟨7,.phase⟩,⟨8,.phase⟩,⟨9,.phase⟩,⟨10,.phase⟩,⟨11,.phase⟩,⟨12,.phase⟩],none⟩ (.int .i64 er) rfl (by kernel_rfl) (fun _ _ _ h=>h) (Or.inl ⟨by rfl,by intro w hSw;go_simp⟩) hHeld ?_
   simp only [Act.put,jjA,jjB,jjC]
   refine wpAnyH_done (by kernel_rfl) ?_ _
   clear hHeld
   go_wp2_with fail
   go_meet
   exact⟨_,_,_,rfl,rfl,rfl,q,vq,E3.out.1⟩
  ·refine jbq rfl rfl 6 rfl ?_
   intro w1 h1
   have E1:Hid (DM w1 d D vs (.slice pa pl.length pc) va pl∧Fr d w w1∧LOB w1 z (⟨1,o.a,o.b,o.c⟩:Ord)∧PBox w1 W1.drew.heap.size jaf (.slice none 0 0)∧Below W1.drew.heap.size W1.drew w1):=⟨hHeld.out.1.later h1.out.2,hHeld.out.2.1.trans (Fr.of h1.out.2 (by have:=hHeld.out.1.lt;omega)),hHeld.out.2.2.later h1.out.2 hHeld.out.2.2.lt,h1.out.1,h1.out.2⟩
   clear h1 hHeld
   refine hK.out _ _ ⟨E1.out.1,E1.out.2.1,E1.out.2.2.1⟩ (fun hHeld=>?_)
   clear hK K
   try ((try dsimp only);simp only [Act.put,jjA,jjB,jjC])
   refine jjR 5 (by kernel_rfl) rfl fun K hK=>?_
   go_simp
   refine(HTA _ (by have:=hHeld.out.1.pv HP.out.1;rw [HPC.out] at this;exact this)).mono ?_
   rintro e w2 ⟨q,vq,n,er,rfl,hT,hq4,hqm,hqo,hb1⟩
   have onq:vq.oneCell'=true:=jam hqo
   have E2:Hid (DM w2 d D vs (.slice pa pl.length pc) va pl∧Fr d w w2∧LOB w2 z (⟨1,o.a,o.b,o.c⟩:Ord)∧PBox w2 W1.drew.heap.size jaf (.slice none 0 0)∧ja0 (jai D.p (⟨1,o.a,o.b,o.c⟩:Ord)) D.p n er q∧w2.ownsRow w1.heap.size 46 6 vq q.ships.length (jae cShip q.ships)∧Below w1.heap.size w1 w2):=⟨E1.out.1.later hb1,E1.out.2.1.trans (Fr.of hb1 (by have:=E1.out.1.lt;omega)),E1.out.2.2.1.later hb1 E1.out.2.2.1.lt,E1.out.2.2.2.1.later hb1 E1.out.2.2.2.1.lt,hT,hqo,hb1⟩
   clear hT hqo hb1 HTA hHeld hqm
   go_wp2_with fail
   refine hK.out _ _ ⟨E2.out.1,E2.out.2.1,E2.out.2.2.1⟩ (fun hHeld=>?_)
   clear hK K
   try ((try dsimp only);simp only [Act.put,jjA,jjB,jjC])
   refine jjT 6 ⟨some 12,.move (.tmp 18),73,"obey.go:90",#[⟨5,.data⟩],none⟩ (.tuple #[.agg (jaa q vq).toArray,.int .i64 n,.int .i64 er]) rfl (by kernel_rfl) (fun _ _ _ h=>h) (Or.inl ⟨by rfl,by intro w hSw;go_simp⟩) hHeld ?_
   simp only [Act.put,jjA,jjB,jjC]
   refine jjT 7 ⟨some 19,.extract (.tmp 12) 0,41,"obey.go:90",#[⟨6,.data⟩],none⟩ (.agg (jaa q vq).toArray) rfl (by kernel_rfl) (fun _ _ _ h=>h) (Or.inl ⟨by rfl,by intro w hSw;go_simp⟩) hHeld ?_
   simp only [Act.put,jjA,jjB,jjC]
   refine jjT 8 ⟨some 20,.extract (.tmp 12) 1,3,"obey.go:90",#[⟨6,.data⟩,⟨11,.gcOnly .lateStores⟩],none⟩ (.int .i64 n) rfl (by kernel_rfl) (fun _ _ _ h=>h) (Or.inl ⟨by rfl,by intro w hSw;go_simp⟩) hHeld ?_
   simp only [Act.put,jjA,jjB,jjC]
   refine jjT 9 ⟨some 21,.extract (.tmp 12) 2,25,"obey.go:90",#[⟨6,.data⟩,⟨12,.gcOnly .lateStores⟩],none⟩ (.int .i64 er) rfl (by kernel_rfl) (fun _ _ _ h=>h) (Or.inl ⟨by rfl,by intro w hSw;go_simp⟩) hHeld ?_
   simp only [Act.put,jjA,jjB,jjC]
   refine jjR 11 (by kernel_rfl) rfl fun K hK=>?_
   refine jbp rfl (.tmp 6) (.tmp 19) rfl _ jaf q (.slice none 0 0) vq (by simp [Act.eval,Act.put]) (by simp [Act.eval,Act.put]) E2.out.2.2.2.1 hq4 onq rfl ?_
   intro w3 h3
   have E3:Hid ((ja0 (jai D.p (⟨1,o.a,o.b,o.c⟩:Ord)) D.p n er q∧PBox w3 W1.drew.heap.size q vq∧RowT 46 cShip w3 vq q.ships∧DM w3 d D vs (.slice pa pl.length pc) va pl∧Fr d w w3)∧LOB w3 z (⟨1,o.a,o.b,o.c⟩:Ord)):=by
    have hlt:=E1.out.2.2.2.1.lt
    have hb:Below W1.drew.heap.size W1.drew w3:=(E1.out.2.2.2.2.trans (E2.out.2.2.2.2.2.2.mono (by omega))).trans (h3.out.2.2 _ (Nat.le_refl _))
    have S:=E0
    exact⟨⟨E2.out.2.2.2.2.1,h3.out.1,RowT.own (B:=w1.heap.size) (jal E2.out.2.2.2.2.2.1 fun k hk=>h3.out.2.1 k (by omega)),S.out.1.later hb,S.out.2.1.trans (Fr.of hb (by have:=S.out.1.lt;omega))⟩,S.out.2.2.later hb S.out.2.2.lt⟩
   clear h3 E1 E2
   refine hK.out _ _ ⟨E3.out.1.2.2.2.1,E3.out.1.2.2.2.2,E3.out.2⟩ (fun hHeld=>?_)
   clear hK K
   refine jjT 12 ⟨some 7,.assign (.tmp 20),3,"obey.go:90",#[⟨8,.data⟩,⟨11,.chain⟩,⟨0,.phase⟩,⟨1,.phase⟩,⟨2,.phase⟩,⟨3,.phase⟩,⟨4,.phase⟩,⟨5,.phase⟩,⟨6,.phase⟩,⟨7,.phase⟩,⟨8,.phase⟩,⟨9,.textOnly .lateStores⟩,⟨10,.phase⟩,⟨11,.phase⟩],none⟩ (.int .i64 n) rfl (by kernel_rfl) (fun _ _ _ h=>h) (Or.inl ⟨by rfl,by intro w hSw;go_simp⟩) hHeld ?_
   simp only [Act.put,jjA,jjB,jjC]
   refine jjT 13 ⟨some 8,.assign (.tmp 21),25,"obey.go:90",#[⟨9,.data⟩,⟨12,.chain⟩,⟨0,.phase⟩,⟨1,.phase⟩,⟨2,.phase⟩,⟨3,.phase⟩,⟨4,.phase⟩,⟨5,.phase⟩,⟨6,.phase⟩,⟨7,.phase⟩,⟨8,.phase⟩,⟨9,.phase⟩,⟨10,.phase⟩,⟨11,.phase⟩,⟨12,.phase⟩],none⟩ (.int .i64 er) rfl (by kernel_rfl) (fun _ _ _ h=>h) (Or.inl ⟨by rfl,by intro w hSw;go_simp⟩) hHeld ?_
   simp only [Act.put,jjA,jjB,jjC]
   refine wpAnyH_done (by kernel_rfl) ?_ _
   clear hHeld
   go_wp2_with fail
   go_meet
   exact⟨_,_,_,rfl,rfl,rfl,q,vq,E3.out.1⟩
 case rest =>
  obtain⟨g,n,er,rfl,rfl,rfl,C⟩:=hcut
  obtain⟨q,vq,c1,c2,c3,c4,c5⟩:=C.out
  have TI:Hid (ja0 (jai D.p ⟨1,o.a,o.b,o.c⟩) D.p n er q):=c1
  have C2:Hid (DM wc.drew d D vs (.slice pa pl.length pc) va pl∧PBox wc.drew g q vq∧RowT 46 cShip wc.drew vq q.ships∧Fr d w wc.drew):=by
   have hd:Below wc.heap.size wc wc.drew:=(Below.refl _ wc).drew
   exact⟨c4.later hd,c2.later hd c2.lt,c3.later hd,c5.trans (Fr.drew _)⟩
  have C0:Hid (Dsk wc d D∧Fr d w wc):=⟨⟨_,_,_,_,c4⟩,c5⟩
  clear C c1 c2 c3 c4 c5 HTA E0
  by_cases he:er=0
  case neg =>
   have hb:(er != 0)=true:=by simp [he]
   have R:Hid (jgo D.p o.a o.b o.c 0 er∧Dsk wc d D∧Fr d w wc):=⟨⟨n,q,TI.out,Or.inl ⟨he,rfl⟩⟩,C0.out⟩
   clear C2 TI he HMP C0
   go_wp2_with fail
   go_ret2
   exact⟨0,er,rfl,R⟩
  subst he
  obtain⟨hq,hA,hn,_,_⟩:=jsg TI.out
  have HQ:Hid (jaj q∧n=D.p.ships.length∧D.p.ships.length < q.ships.length):=⟨hq,hn,hA.lt⟩
  have hn0:0≤n:=by omega
  have hn1:n < (q.ships.length:Int):=by have:=hA.lt;omega
  have hq4:=hq.port.four
  clear hq hA hn C0
  generalize hQC:(jaa q vq).toArray=QC at *
  have HQC:Hid ((jaa q vq).toArray=QC):=hQC
  clear hQC
  go_upto_region 5 with fail
  refine wp_region_held_drew (S:=fun W=>Hid (DM W d D vs (.slice pa pl.length pc) va pl∧PBox W g q vq∧RowT 46 cShip W vq q.ships∧Fr d w W)) (by kernel_rfl) C2 (fun hHeld=>?_)
  refine jjT 0 ⟨some 26,.move (.tmp 0),31,"obey.go:94",#[],none⟩ (?_) rfl (by kernel_rfl) (fun _ _ _ h=>h) (Or.inl ⟨by rfl,?_⟩) hHeld ?_
  rotate_left
  ·(intro w hSw;first|(go_simp;done)|(go_simp;with_reducible rfl))
  simp only [Act.put,jjA,jjB,jjC]
  refine jjT 1 ⟨some 27,.nilCheck (.tmp 26),0,"obey.go:94",#[⟨0,.data⟩],none⟩ (?_) rfl (by kernel_rfl) (fun _ _ _ h=>h) (Or.inl ⟨by rfl,?_⟩) hHeld ?_
  rotate_left
  ·(intro w hSw;first|(go_simp;done)|(go_simp;with_reducible rfl))
  simp only [Act.put,jjA,jjB,jjC]
  refine jjT 2 ⟨some 28,.fieldAddr 59 (.tmp 27) 0,0,"obey.go:94",#[⟨1,.data⟩],none⟩ (?_) rfl (by kernel_rfl) (fun _ _ _ h=>h) (Or.inl ⟨by rfl,?_⟩) hHeld ?_
  rotate_left
  ·(intro w hSw;first|(go_simp;done)|(go_simp;with_reducible rfl))
  simp only [Act.put,jjA,jjB,jjC]
  refine jjT 3 ⟨some 29,.load 41 (.tmp 28),41,"obey.go:94",#[⟨2,.data⟩],none⟩ (.agg PC) rfl (by kernel_rfl) (fun _ _ _ h=>h) (by rw [← HPC.out];exact yieldsIf_load_mid (by rfl) 41 (.tmp 28) rfl d 0 rfl (jaa D.p vs) _ (fun W hW=>hW.out.1.box.port) Tryz.underlying41 rfl (jbg D.p vs H4.out)) hHeld ?_
  simp only [Act.put,jjA,jjB,jjC]
  refine jjT 4 ⟨some 30,.load 41 (.tmp 6),41,"obey.go:94",#[],none⟩ (.agg QC) rfl (by kernel_rfl) (fun _ _ _ h=>h) (by rw [← HQC.out];exact yieldsIf_load_mid (by rfl) 41 (.tmp 6) rfl g 0 rfl (jaa q vq) _ (fun W hW=>hW.out.2.1.whole) Tryz.underlying41 rfl (jbg q vq hq4)) hHeld ?_
  simp only [Act.put,jjA,jjB,jjC]
  refine jjT 5 ⟨some 31,.move (.tmp 0),31,"obey.go:94",#[],none⟩ (?_) rfl (by kernel_rfl) (fun _ _ _ h=>h) (Or.inl ⟨by rfl,?_⟩) hHeld ?_
  rotate_left
  ·(intro w hSw;first|(go_simp;done)|(go_simp;with_reducible rfl))
  simp only [Act.put,jjA,jjB,jjC]
  refine jjT 6 ⟨some 32,.nilCheck (.tmp 31),0,"obey.go:94",#[⟨5,.data⟩],none⟩ (?_) rfl (by kernel_rfl) (fun _ _ _ h=>h) (Or.inl ⟨by rfl,?_⟩) hHeld ?_
  rotate_left
  ·(intro w hSw;first|(go_simp;done)|(go_simp;with_reducible rfl))
  simp only [Act.put,jjA,jjB,jjC]
  refine jjT 7 ⟨some 33,.fieldAddr 59 (.tmp 32) 1,0,"obey.go:94",#[⟨6,.data⟩],none⟩ (?_) rfl (by kernel_rfl) (fun _ _ _ h=>h) (Or.inl ⟨by rfl,?_⟩) hHeld ?_
  rotate_left
  ·(intro w hSw;first|(go_simp;done)|(go_simp;with_reducible rfl))
  simp only [Act.put,jjA,jjB,jjC]
  refine jjT 8 ⟨some 34,.load 43 (.tmp 33),43,"obey.go:94",#[⟨7,.data⟩],none⟩ (.slice pa pl.length pc) rfl (by kernel_rfl) (fun _ _ _ h=>h) (Or.inl ⟨by rfl,by intro w hSw;have hc:=hSw.out.1.box.cells.2.2.1;go_simp⟩) hHeld ?_
  simp only [Act.put,jjA,jjB,jjC]
  refine jjR 9 (by kernel_rfl) rfl fun K hK=>?_
  go_simp
  have HM1:=HMP q vq
  rw [HQC.out] at HM1
  refine(HM1 _ (by have:=hHeld.out.1.pv HP.out.1;rw [HPC.out] at this;exact this) (by rw [← HQC.out];exact⟨vq,rfl,hHeld.out.2.2.1.sl,hq4,by have:=HQ.out.1.port.len;omega⟩) hHeld.out.1.row.sl HQ.out.1).mono ?_
  rintro e w1 ⟨g1,n1,rfl,h1⟩
  have E1:Hid (DM w1 d D vs (.slice pa pl.length pc) va pl∧PBox w1 g q vq∧RowT 46 cShip w1 vq q.ships∧Fr d w w1):=by
   have hb:=h1.out.2.2.2
   exact⟨hHeld.out.1.later hb,hHeld.out.2.1.later hb hHeld.out.2.1.lt,hHeld.out.2.2.1.later hb,hHeld.out.2.2.2.trans (Fr.of hb (by have:=hHeld.out.1.lt;omega))⟩
  obtain⟨x,hx,R⟩:∃ x,w1.cell? ⟨g1,D.p.ships.length,none⟩=some (.int .i64 x)∧Hid (jgo D.p o.a o.b o.c x 0∧Dsk w1 d D∧Fr d w w1):=by
   obtain⟨⟨pl',k1,k2⟩,_⟩:=h1.out
   have hlt:D.p.ships.length < pl'.length:=by rw [k1.len];exact HQ.out.2.2
   refine⟨pl'.getD D.p.ships.length (-1),IRow.cell k2 (jor hlt),⟨n,q,TI.out,Or.inr ⟨rfl,pl',k1,?_⟩⟩,⟨_,_,_,_,E1.out.1⟩,E1.out.2.2.2⟩
   rw [HQ.out.2.1,Int.toNat_natCast]
  clear h1 hHeld HMP HM1 C2
  go_wp2_with fail
  refine hK.out _ _ E1 (fun hHeld=>?_)
  clear hK K
  refine jjT 10 ⟨some 25,.move (.tmp 35),108,"obey.go:94",#[⟨9,.data⟩],none⟩ (?_) rfl (by kernel_rfl) (fun _ _ _ h=>h) (Or.inl ⟨by rfl,?_⟩) hHeld ?_
  rotate_left
  ·(intro w hSw;first|(go_simp;done)|(go_simp;with_reducible rfl))
  simp only [Act.put,jjA,jjB,jjC]
  refine jjT 11 ⟨some 36,.extract (.tmp 25) 0,43,"obey.go:94",#[⟨10,.data⟩],none⟩ (?_) rfl (by kernel_rfl) (fun _ _ _ h=>h) (Or.inl ⟨by rfl,?_⟩) hHeld ?_
  rotate_left
  ·(intro w hSw;first|(go_simp;done)|(go_simp;with_reducible rfl))
  simp only [Act.put,jjA,jjB,jjC]
  refine jjT 12 ⟨some 37,.extract (.tmp 25) 1,3,"obey.go:94",#[⟨10,.data⟩,⟨13,.gcOnly .lateStores⟩],none⟩ (?_) rfl (by kernel_rfl) (fun _ _ _ h=>h) (Or.inl ⟨by rfl,?_⟩) hHeld ?_
  rotate_left
  ·(intro w hSw;first|(go_simp;done)|(go_simp;with_reducible rfl))
  simp only [Act.put,jjA,jjB,jjC]
  refine jjT 13 ⟨some 9,.assign (.tmp 36),43,"obey.go:94",#[⟨11,.data⟩,⟨9,.chain⟩,⟨0,.phase⟩,⟨1,.phase⟩,⟨2,.phase⟩,⟨3,.phase⟩,⟨4,.phase⟩,⟨5,.phase⟩,⟨6,.phase⟩,⟨7,.phase⟩,⟨8,.phase⟩,⟨9,.phase⟩,⟨10,.phase⟩,⟨11,.phase⟩,⟨12,.textOnly .lateStores⟩],none⟩ (?_) rfl (by kernel_rfl) (fun _ _ _ h=>h) (Or.inl ⟨by rfl,?_⟩) hHeld ?_
  rotate_left
  ·(intro w hSw;first|(go_simp;done)|(go_simp;with_reducible rfl))
  simp only [Act.put,jjA,jjB,jjC]
  refine jjT 14 ⟨some 10,.assign (.tmp 37),3,"obey.go:94",#[⟨12,.data⟩,⟨13,.chain⟩,⟨0,.phase⟩,⟨1,.phase⟩,⟨2,.phase⟩,⟨3,.phase⟩,⟨4,.phase⟩,⟨5,.phase⟩,⟨6,.phase⟩,⟨7,.phase⟩,⟨8,.phase⟩,⟨9,.phase⟩,⟨10,.phase⟩,⟨11,.phase⟩,⟨12,.phase⟩,⟨13,.phase⟩],none⟩ (?_) rfl (by kernel_rfl) (fun _ _ _ h=>h) (Or.inl ⟨by rfl,?_⟩) hHeld ?_
  rotate_left
  ·(intro w hSw;first|(go_simp;done)|(go_simp;with_reducible rfl))
  simp only [Act.put,jjA,jjB,jjC]
  refine wpAnyH_done (by kernel_rfl) ?_ _
  clear hHeld E1
  have hnn:n=(D.p.ships.length:Int):=HQ.out.2.1
  subst hnn
  go_wp2_with fail
  go_ret2
  exact⟨x,0,rfl,R⟩
end Go.Proofs.YtcmdoeledmkfmacGreatDoor
