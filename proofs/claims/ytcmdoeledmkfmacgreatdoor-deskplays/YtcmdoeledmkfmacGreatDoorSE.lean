/- Texts of this claim, in one: MTyped MProf MRank MMend MRem. -/
import Derived.BigRegion
import Derived.Deep.RegionLaw
import Derived.Deep.RegionWith
import Derived.Deep.QuietTactic
import Derived.BigQuiet
import Derived.Test.YtcmdoeledmkfmacGreatDoorS9
import Derived.Test.YtcmdoeledmkfmacGreatDoorS2
import Derived.Test.YtcmdoeledmkfmacGreatDoorSD
import Derived.Test.YtcmdoeledmkfmacGreatDoorS4
set_option linter.unusedSimpArgs false
set_option linter.unusedVariables false
set_option maxHeartbeats 40000000
set_option maxRecDepth 100000
namespace Go.Proofs.YtcmdoeledmkfmacGreatDoor.Ty
open Go.RowKit
def FarT (B:Nat) (w:World) (v:Value):Prop:=∃ g off n cap cur,v=.slice (some ⟨g,off,none⟩) n cap∧B≤g∧w.heap[g]?=some (.cells cur 194 (0,0))
theorem FarT.mono {B B':Nat} {w:World} {v:Value} (h:FarT B w v) (hb:B'≤B):FarT B' w v:=by
 obtain⟨g,off,n,cap,cur,e,h1,h2⟩:=h
 exact⟨g,off,n,cap,cur,e,by omega,h2⟩
theorem FarT.later {B:Nat} {w w':World} {v:Value} (h:FarT B w v) (hb:Below w.heap.size w w'):FarT B w' v:=by
 obtain⟨g,off,n,cap,cur,e,h1,h2⟩:=h
 exact⟨g,off,n,cap,cur,e,h1,by rw [hb.block g (Array.getElem?_eq_some_iff.1 h2).1];exact h2⟩
theorem jr9 {w:World} {B g cap:Nat} {m:List (Int×Int)} (h:OwnG w B g cap m) (n:Nat):FarT B w (.slice (some ⟨g,0,none⟩) n cap):=by
 obtain⟨cur,h1,_⟩:=h.row
 exact⟨_,_,_,_,cur,rfl,h.base,h1⟩
theorem shift_far (b off cap:Nat) (l:List (Int×Int)) (fr tu n sg d:Int) (w:World) (hr:Rd w b off l) (G:Good l) (hn:inB n=true) (h0:0≤fr) (h1:fr≤tu) (h2:tu≤300) (hsg:sg=1∨sg=-1) (hd:sg*n=d) :
  Calls Tryz.prog 154 #[.slice (some ⟨b,off,none⟩) l.length cap,.int .i64 fr,.int .i64 tu,.int .i64 n,.int .i64 sg] w fun e w' =>
   ∃ v' ok,e=.returned (.tuple #[v',.bool ok])∧jfm l fr tu d w' v' ok∧FarT w.heap.size w' v'∧Below w.heap.size w w':=by
 have hlen:=G.len
 have hnb:0≤n∧n≤16:=of_decide_eq_true hn
 obtain⟨hn0,hn1⟩:=hnb
 have hd0:-16≤d∧d≤16:=by rcases hsg with rfl|rfl <;> omega
 obtain⟨hd1,hd2⟩:=hd0
 have HG:=jg6 b off cap l w hr (by omega) G.pos
 rw [jck.2 G] at HG
 have HW:=fun W=>jdf n W
 rw [hn] at HW
 have HR:Hid (Rd w b off l):=hr
 have HL:Hid (Loose l):=G.loose
 have HC:Hid (∀ W,Below w.heap.size w W→Calls Tryz.prog 179 #[.slice (some ⟨b,off,none⟩) l.length cap] W fun e w'=>∃ g cap',e=.returned (.slice (some ⟨g,0,none⟩) l.length cap')∧OwnG w' w.heap.size g cap' l∧Below w.heap.size w w'):=fun W hb =>
  (jkl b off cap l W (hr.below hb) (by omega)).mono (by rintro e w' ⟨g,cap',x1,x2,x3⟩;exact⟨g,cap',x1,x2.mono hb.size,hb.trans (x3.mono hb.size)⟩)
 clear hr G hn hsg
 go_enter Tryz.func154,Tryz.ntmps154
 go_wp2_with fail
 refine HG.mono ?_
 rintro e w1 ⟨rfl,hb1⟩
 have B1:Hid (Below w.heap.size w w1):=hb1
 clear hb1 HG
 go_wp2_with fail
 refine(HW _).mono ?_
 rintro e w1' ⟨rfl,rfl⟩
 clear HW
 go_wp2_with fail
 refine(HC.out _ B1.out).mono ?_
 rintro e w2 ⟨g0,cap0,rfl,ho0,hb2⟩
 have O2:Hid (OwnG w2 w.heap.size g0 cap0 l):=ho0
 have B2:Hid (Below w.heap.size w w2):=hb2
 clear ho0 hb2 B1
 go_wp2_with fail
 refine(jlm w.heap.size g0 cap0 l fr _ O2.out HL.out h0).mono ?_
 rintro e w3 ⟨l1,g1,cap1,rfl,ho1,hs1,hb3⟩
 have O3:Hid (OwnG w3 w.heap.size g1 cap1 l1):=ho1
 have S3:Hid (jdm l fr l1):=hs1
 have B3:Hid (Below w.heap.size w w3):=B2.out.trans hb3
 clear ho1 hs1 hb3 B2 O2
 go_wp2_with fail
 refine(jlm w.heap.size g1 cap1 l1 tu _ O3.out S3.out.loose (by omega)).mono ?_
 rintro e w4 ⟨q,g2,cap2,rfl,ho2,hs2,hb4⟩
 have O4:Hid (OwnG w4 w.heap.size g2 cap2 q):=ho2
 have S4:Hid (jdm l1 tu q):=hs2
 have B4:Hid (Below w.heap.size w w4):=B3.out.trans hb4
 have hq:q.length≤300:=hs2.loose.len
 clear ho2 hs2 hb4 B3 O3
 go_wp2_with fail
 refine(jfs g2 0 cap2 q fr _ O4.out.rd (by omega) S4.out.loose.rise).mono ?_
 rintro e w5 ⟨ia,rfl,hca,hb5⟩
 have O5:Hid (OwnG w5 w.heap.size g2 cap2 q):=O4.out.later hb5
 have B5:Hid (Below w.heap.size w w5):=B4.out.trans (hb5.mono B4.out.size)
 have CA:Hid (CutAt q fr ia):=hca
 have hia:ia≤q.length:=hca.1
 clear hb5 hca B4 O4
 generalize fnd q fr ia=f1
 go_wp2_with fail
 refine(jfs g2 0 cap2 q tu _ O5.out.rd (by omega) S4.out.loose.rise).mono ?_
 rintro e w6 ⟨ib,rfl,hcb,hb6⟩
 have O6:Hid (OwnG w6 w.heap.size g2 cap2 q):=O5.out.later hb6
 have B6:Hid (Below w.heap.size w w6):=B5.out.trans (hb6.mono B5.out.size)
 have CB:Hid (CutAt q tu ib):=hcb
 have hib:ib≤q.length:=hcb.1
 clear hb6 hcb B5 O5
 generalize fnd q tu ib=f2
 have hab:ia≤ib:=by
  apply Classical.byContradiction
  intro hc
  have x:=CA.out.2.1 ib (by omega)
  have y:=CB.out.2.2 ib (Nat.le_refl _) (by omega)
  omega
 go_wp2_with fail
 go_loopg [17] q.length (fun kx s17 wr=>∃ (i:Nat) (mm:List (Int×Int)),s17=.int .i64 i∧ia≤i∧i≤ib∧q.length - i≤kx∧Hid (Below w.heap.size w wr)∧Hid (OwnG wr w.heap.size g2 cap2 mm)∧Hid (ShInv q ia i d mm)∧Hid (∀ j,ia≤j→j < i→inB (sAt mm j).2=true))
 case atStart=>exact⟨ia,q,rfl,Nat.le_refl _,hab,by omega,B6,O6,ShInv.start q ia d,(fun j x y=>by omega:∀ j,ia≤j→j < ia→inB (sAt q j).2=true)⟩
 case round =>
  clear B6 O6
  obtain⟨i,mm,rfl,hi1,hi2,hg,S1,O1,I,F⟩:=hrel
  have HM:Hid (mm.length=q.length):=I.out.1
  by_cases hlt:i < ib
  ·obtain⟨c0,c1⟩:=O1.out.rd i (by rw [HM.out];omega)
   rw [Nat.zero_add] at c0 c1
   have f1:=O1.out.frozen (i*2+1)
   have O7:Hid (∀ y,OwnG (wr.setCell ⟨g2,i*2+1,none⟩ (.int .i64 y)) w.heap.size g2 cap2 (mm.set i ((sAt mm i).1,y))):=fun y=>O1.out.storeFree i (by rw [HM.out];omega) y
   have hloq:=S4.out.loose.lo i (by omega)
   have hhiq:=S4.out.loose.hi i (by omega)
   have hx:sAt mm i=sAt q i:=I.out.here (by omega)
   have X:Hid (sAt mm i=sAt q i):=hx
   rw [← hx] at hloq hhiq
   clear hx
   generalize hxx:sAt mm i=x at *
   have XX:Hid (sAt mm i=x):=hxx
   clear hxx
   have hgl:w.heap.size≤g2:=O1.out.base
   have hi3:(i:Int) < (ib:Int):=by omega
   have hi4:(i:Int) < (q.length:Int):=by omega
   have HWy:=fun W=>jdf (x.2+d) W
   generalize hib2:inB (x.2+d)=r at HWy
   have RR:Hid (inB (x.2+d)=r):=hib2
   clear hib2
   have B7:Hid (Below w.heap.size w (wr.setCell ⟨g2,i*2+1,none⟩ (.int .i64 (x.2+d)))):=S1.out.setCell hgl _
   go_wp2_with fail
   refine(HWy _).mono ?_
   rintro e w7 ⟨rfl,rfl⟩
   cases r
   case false =>
    go_wp2_with fail
    refine(HC.out _ B7.out).mono ?_
    rintro e w8 ⟨g8,cap8,rfl,ho8,hb8⟩
    have A:Hid (jfm l fr tu d w8 (.slice (some ⟨g8,0,none⟩) l.length cap8) false) :=
     Or.inr ⟨rfl,ho8.sl (by omega),jma h2 S4.out.loose (fun s hs=>(S4.out.same s hs).trans (S3.out.same s hs)) CA.out CB.out hi1 hlt (by rw [← X.out];exact RR.out) (m:=mm)⟩
    have FA:Hid (FarT w.heap.size w8 (.slice (some ⟨g8,0,none⟩) l.length cap8)):=jr9 ho8 _
    clear ho8
    go_wp2
    go_ret2
    exact⟨_,_,rfl,A.out,FA.out,hb8⟩
   case true =>
    go_wp2
    go_roundg (q.length - (i+1))
    case measure=>omega
    case rel =>
     have O8:=O7.out (x.2+d)
     have I2:Hid (ShInv q ia (i+1) d (mm.set i (x.1,x.2+d))):=by
      have:=I.out.step hi1 (by omega)
      rw [XX.out] at this
      exact this
     have F2:Hid (∀ j,ia≤j→j < i+1→inB (sAt (mm.set i (x.1,x.2+d)) j).2=true):=fun j y1 y2=>by
      rw [jiy _ _ _ _ (by rw [HM.out];omega)]
      by_cases e:j=i
      ·rw [if_pos e];exact RR.out
      ·rw [if_neg e];exact F.out j y1 (by omega)
     exact⟨i+1,mm.set i (x.1,x.2+d),by go_num,by omega,by omega,Nat.le_refl _,B7,O8,I2,F2⟩
  ·have hie:i=ib:=by omega
   have HS:Hid (jhc l fr tu d (ja7 mm)):=by
    have I2:=I.out
    have F2:=F.out
    rw [hie] at I2 F2
    exact jj5 h0 h1 h2 S4.out.loose (fun s hs=>(S4.out.same s hs).trans (S3.out.same s hs)) (fun h=>S4.out.keep _ (S3.out.beg h)) S4.out.beg CA.out CB.out I2 F2
   clear hie
   have hi5:¬ ((i:Int) < (ib:Int)):=by omega
   have JJ:=jpk w.heap.size g2 cap2 mm wr O1.out (by rw [HM.out];omega)
   rw [HM.out] at JJ
   go_wp2_with fail
   refine JJ.mono ?_
   rintro e w8 ⟨rfl,ho8,hb8⟩
   have A:Hid (jfm l fr tu d w8 (.slice (some ⟨g2,0,none⟩) (ja7 mm).length cap2) true):=Or.inl ⟨rfl,ja7 mm,ho8.sl (by have:=HS.out.good.len;omega),HS.out⟩
   have B8:Hid (Below w.heap.size w w8):=S1.out.trans hb8
   have FA:Hid (FarT w.heap.size w8 (.slice (some ⟨g2,0,none⟩) (ja7 mm).length cap2)):=jr9 ho8 _
   clear ho8 hb8 JJ
   go_wp2
   go_ret2
   exact⟨_,_,rfl,A.out,FA.out,B8.out⟩
theorem take_far (v:Value) (l:List (Int×Int)) (fr tu n:Int) (w:World) (hs:Sl w v l) (h:jga l fr tu n) :
  Calls Tryz.prog 114 #[v,.int .i64 fr,.int .i64 tu,.int .i64 n] w fun e w'=>∃ v' ok,e=.returned (.tuple #[v',.bool ok])∧jew l fr tu n (-n) w' v' ok∧FarT w.heap.size w' v'∧Below w.heap.size w w':=by
 obtain⟨k1,k2,k3,k4,k5⟩:=id h
 have G:=jck.1 k1
 obtain⟨hn,a,cap,rfl,h1⟩:=hs
 rcases h1 with rfl|⟨b,off,rfl,hr⟩
 ·have:=G.pos;simp at this
 have HC:=shift_far b off cap l fr tu n (-1) (-n) w hr G k2 k3 k4 k5 (Or.inr rfl) (by omega)
 have HO:Hid (jga l fr tu n):=h
 clear hr h G k1 k2 k3 k4 k5
 go_enter Tryz.func114,Tryz.ntmps114
 go_wp2_with fail
 refine HC.mono ?_
 rintro e w1 ⟨v',ok,rfl,h1,h3,h2⟩
 have H1:Hid (jew l fr tu n (-n) w1 v' ok∧FarT w.heap.size w1 v'):=⟨Or.inl ⟨HO.out,h1⟩,h3⟩
 clear h1 h3 HC
 go_wp2
 go_ret2
 exact⟨v',ok,rfl,H1.out.1,H1.out.2,h2⟩
theorem less_any (v:Value) (l:List (Int×Int)) (now:Int) (vt:Value) (tk:List Kp) (w:World) (hs:Sl w v l) (G:Good l) (h0:0≤now) (hn:now≤300) (hv:SlK cKp w vt tk) (hT:∀ k∈tk,TkOk k) (hl:tk.length≤1000) (B:Nat) (hF:FarT B w v) (hB:B≤w.heap.size) :
  Calls Tryz.prog 143 #[v,.int .i64 now,vt] w fun e w'=>RetVB e (fun v' ok=>jsn l now tk w' v' ok∧(ok=true→FarT B w' v'))∧Below w.heap.size w w':=by
 obtain⟨a,cap,rfl,hcap,hrd⟩:=hv
 have HR:Hid (tk=[]∨∃ b off,a=some ⟨b,off,none⟩∧RdK cKp w b off tk):=hrd
 have HT:Hid (∀ k∈tk,TkOk k):=hT
 have HI:Hid ((Below w.heap.size w w∧FarT B w v)∧∃ r,Sl w v r∧Good r∧∀ t,0≤t→t < 300→val r t=val l t - tksAt now (tk.take 0) t):=⟨⟨Below.refl _ _,hF⟩,l,hs,G,fun t _ _=>by simp [tksAt]⟩
 clear hrd hT hs G hF
 go_enter Tryz.func143,Tryz.ntmps143
 go_wp2_with fail
 go_loopg [0,14] tk.length (fun kx s0 s14 wr=>∃ (j:Nat),s14=.int .i64 j∧j≤tk.length∧tk.length - j≤kx∧Hid ((Below w.heap.size w wr∧FarT B wr s0)∧∃ r,Sl wr s0 r∧Good r∧∀ t,0≤t→t < 300→val r t=val l t - tksAt now (tk.take j) t))
 case atStart=>exact⟨0,rfl,Nat.zero_le _,by omega,HI⟩
 case round =>
  clear HI
  obtain⟨j,rfl,hj,hg,I⟩:=hrel
  by_cases hjl:j < tk.length
  ·obtain⟨kk,hkk⟩:∃ k,tk[j]?=some k:=⟨tk[j],List.getElem?_eq_getElem hjl⟩
   obtain⟨bb,off,rfl,hrd⟩:∃ b off,a=some ⟨b,off,none⟩∧RdK cKp w b off tk:=by
    rcases HR.out with h|h
    ·rw [h] at hjl;simp at hjl
    ·exact h
   obtain⟨⟨S1,_⟩,r,hr1,hr2,hr3⟩:=I.out
   obtain⟨c0,c1,c2⟩:=(hrd.below S1).kp hkk
   obtain⟨kw,kf,kt⟩:=kk
   simp only at c0 c1 c2
   have HK:Hid (tk[j]?=some ⟨kw,kf,kt⟩):=hkk
   have hj3:(j:Int) < (tk.length:Int):=by omega
   have hbw:Below wr.heap.size wr (wr.alloc (.cells #[.int .i64 kw,.int .i64 kf,.int .i64 kt] 38)):=(Below.refl _ wr).alloc (Nat.le_refl _) _
   have S4:Hid (Below w.heap.size w (wr.alloc (.cells #[.int .i64 kw,.int .i64 kf,.int .i64 kt] 38))):=S1.trans (hbw.mono S1.size)
   have N4:Hid ((wr.alloc (.cells #[.int .i64 kw,.int .i64 kf,.int .i64 kt] 38)).heap[wr.heap.size]?=some (.cells #[.int .i64 kw,.int .i64 kf,.int .i64 kt] 38)):=heap_alloc_new wr _
   have R4:Hid (Sl (wr.alloc (.cells #[.int .i64 kw,.int .i64 kf,.int .i64 kt] 38)) u0 r):=hr1.below hbw
   have R2:Hid (Good r∧∀ t,0≤t→t < 300→val r t=val l t - tksAt now (tk.take j) t):=⟨hr2,hr3⟩
   clear hkk hrd hbw S1 hr1 hr2 hr3 I
   go_upto_region 4 with fail
   clear c0 c1 c2
   generalize wr.alloc (.cells #[.int .i64 kw,.int .i64 kf,.int .i64 kt] 38)=WB at *
   generalize wr.heap.size=gs at *
   have n0:∀ i u,(cKp ⟨kw,kf,kt⟩)[i]?=some u→WB.cell? ⟨gs,i,none⟩=some u:=fun i u hu=>by rw [cell_of_row _ _ _ _ _ _ N4.out];simpa [cKp] using hu
   have k0:=n0 0 _ rfl;have k1:=n0 1 _ rfl;have k2:=n0 2 _ rfl
   clear n0 N4
   have OKA:Hid (∀ (x y:Int),(kf≤now∧x=now)∨(now < kf∧x=kf)→(kt≤now∧y=now)∨(now < kt∧y=kt)→jga r x y kw):=fun x y hx hy=>by
    obtain⟨⟨o1,o2⟩,o3,o4⟩:=HT.out _ (List.mem_of_getElem? HK.out)
    simp only at o1 o2 o3 o4
    exact⟨jck.2 R2.out.1,by unfold inB;exact decide_eq_true ⟨o1,o2⟩,by omega,by omega,by omega⟩
   have STEP:Hid (∀ (x y:Int) (w5:World) (v5:Value) (ok5:Bool),(kf≤now∧x=now)∨(now < kf∧x=kf)→(kt≤now∧y=now)∨(now < kt∧y=kt)→jew r x y kw (-kw) w5 v5 ok5→FarT WB.heap.size w5 v5→Below WB.heap.size WB w5 →
     (Below w.heap.size w w5∧FarT B w5 v5)∧((ok5=true∧∃ r',Sl w5 v5 r'∧Good r'∧∀ t,0≤t→t < 300→val r' t=val l t - tksAt now (tk.take (j+1)) t)∨(ok5=false∧∃ t,0≤t∧t < 300∧val l t - tksAt now tk t < 0))):=fun x y w5 v5 ok5 hx hy hT hF hb =>
    ⟨⟨S4.out.trans (hb.mono S4.out.size),hF.mono (by have:=S4.out.size;omega)⟩,jm1 HK.out HT.out h0 hn R2.out.1 R2.out.2 hx hy hT⟩
   go_wp2_with fail
   all_goals
    refine(take_far _ r _ _ _ _ R4.out (OKA.out _ _ (by omega) (by omega))).mono ?_
    rintro e w5 ⟨v5,ok5,rfl,hT5,hF5,hb5⟩
    have F5:Hid (_∧_):=STEP.out _ _ w5 v5 ok5 (by omega) (by omega) hT5 hF5 hb5
    clear hT5 hb5 hF5
    cases ok5
    ·have F6:Hid ((Below w.heap.size w w5∧FarT B w5 v5)∧∃ t,0≤t∧t < 300∧val l t - tksAt now tk t < 0):=by
      obtain⟨x1,x2⟩:=F5.out
      rcases x2 with ⟨x2,_⟩|⟨_,x2⟩
      ·cases x2
      ·exact⟨x1,x2⟩
     clear F5
     go_wp2_with fail
     go_ret2
     exact⟨⟨_,_,rfl,Or.inr ⟨rfl,rfl,F6.out.2⟩,fun h=>(by cases h)⟩,F6.out.1.1⟩
    ·have F6:Hid ((Below w.heap.size w w5∧FarT B w5 v5)∧∃ r',Sl w5 v5 r'∧Good r'∧∀ t,0≤t→t < 300→val r' t=val l t - tksAt now (tk.take (j+1)) t):=by
      obtain⟨x1,x2⟩:=F5.out
      rcases x2 with ⟨_,x2⟩|⟨x2,_⟩
      ·exact⟨x1,x2⟩
      ·cases x2
     clear F5
     go_wp2_with fail
     go_roundg (tk.length - (j+1))
     case measure=>omega
     case rel=>exact⟨j+1,by go_num,by omega,Nat.le_refl _,F6⟩
  ·have hje:j=tk.length:=by omega
   have I4:Hid ((Below w.heap.size w wr∧FarT B wr u0)∧∃ r,Sl wr u0 r∧Good r∧∀ t,0≤t→t < 300→val r t=val l t - tksAt now tk t):=by have h:=I.out;rw [hje,List.take_length] at h;exact h
   clear hje I
   have hj3:¬ ((j:Int) < (tk.length:Int)):=by omega
   go_wp2
   go_ret2
   exact⟨⟨_,_,rfl,Or.inl ⟨rfl,I4.out.2⟩,fun _=>I4.out.1.2⟩,I4.out.1.1⟩
theorem base_any (v:Value) (p:Pt) (w:World) (hv:PtV w v p) (hq:WfQ p) :
  Calls Tryz.prog 106 #[v] w fun e w'=>RetVB e (fun v' ok=>jkq p w' v' ok∧(ok=true→FarT w.heap.size w' v'))∧Below w.heap.size w w':=by
 obtain⟨vs,rfl,hsl,h4,hmx⟩:=hv
 have HV:Hid (PtV w (.agg (jaa p vs).toArray) p):=⟨vs,rfl,hsl,h4,hmx⟩
 have X0:Hid (PBox (w.alloc (.cells (jaa p vs).toArray 41)) w.heap.size p vs):=PBox.new w p _ h4
 have B0:Hid (Below w.heap.size w (w.alloc (.cells (jaa p vs).toArray 41))):=(Below.refl _ w).alloc (Nat.le_refl _) _
 have HS:=fun W h=>jl7 (.agg (jaa p vs).toArray) p W h hq
 have HL:=fun W h hp=>jmz (.agg (jaa p vs).toArray) p W h hp
 clear hsl hq
 generalize hPC:(jaa p vs).toArray=PC at *
 have HPC:Hid ((jaa p vs).toArray=PC):=hPC
 clear hPC
 go_enter Tryz.func106,Tryz.ntmps106
 go_wp2_with (refine jac rfl _ rfl w.heap.size p vs rfl X0.out ?_;rw [HPC.out])
 refine(HS _ (HV.out.below B0.out)).mono ?_
 rintro e w1 ⟨⟨b,rfl,hb⟩,hw1⟩
 have S1:Hid (Below w.heap.size w w1):=B0.out.trans (hw1.mono B0.out.size)
 have X1:Hid (PBox w1 w.heap.size p vs):=X0.out.later hw1 X0.out.lt
 have HB:Hid (Iffb b (ja4 p)):=hb
 clear hw1 hb HS X0 B0
 cases b
 case false =>
  have NO:Hid (¬ jaj p):=fun h=>by have:=HB.out.2 h.port;cases this
  go_wp2_with fail
  go_ret2
  exact⟨⟨_,_,rfl,Or.inr ⟨rfl,NO.out,rfl⟩,fun h=>(by cases h)⟩,S1.out⟩
 have HP:Hid (ja4 p):=HB.out.1 rfl
 have pc14:=X1.out.cells.2.2.1
 have OKA:Hid (jga [(0,16)] 0 300 p.shut):=⟨by decide,by unfold inB;exact decide_eq_true HP.out.shut,by omega,by omega,by omega⟩
 go_wp2_with fail
 go_cut [4] (fun s4 wc=>Hid (Below w.heap.size w wc∧PBox wc w.heap.size p vs∧FarT w.heap.size wc s4∧∃ r,Sl wc s4 r∧Good r∧∀ t,0≤t→t < 300→val r t=16 - p.shut))
 case first =>
  go_region_with (first|(go_at_call 142;go_loud ( refine(jry _).mono ?_;rintro e w2 ⟨v2,rfl,hv2,hb2⟩;have F2:Hid (Below w.heap.size w w2∧PBox w2 w.heap.size p vs∧Sl w2 v2 [(0,16)]):=⟨S1.out.trans ((jau hb2).mono S1.out.size),X1.out.later (jau hb2) X1.out.lt,hv2⟩;have pc14b:=F2.out.2.1.cells.2.2.1;clear hb2 hv2))|(go_at_call 114;refine(take_far _ [(0,16)] _ _ _ _ F2.out.2.2 OKA.out).mono ?_;rintro e w3 ⟨v3,ok3,rfl,hT3,hF3,hb3⟩;have F3:Hid ((jew [(0,16)] 0 300 p.shut (-p.shut) w3 v3 ok3∧FarT w.heap.size w3 v3)∧Below w.heap.size w w3∧PBox w3 w.heap.size p vs):=⟨⟨hT3,hF3.mono F2.out.1.size⟩,F2.out.1.trans (hb3.mono F2.out.1.size),F2.out.2.1.later hb3 F2.out.2.1.lt⟩;clear hT3 hb3 hF3))
  all_goals
   go_wp2_with fail
   go_meet
   case rel =>
    obtain⟨⟨hT,hF⟩,hb,hx⟩:=F3.out
    have hsh:=HP.out.shut
    refine⟨hb,hx,hF,?_⟩
    rcases jfp good16 hsh (by omega) (by omega) (by omega) hT with ⟨_,r,h1,h2,h3,_⟩|⟨_,_,h2⟩
    ·refine⟨r,h1,h2,fun t ta tb=>?_⟩
     rw [h3 t ta tb,val16 t ta,if_pos ⟨ta,tb⟩]
    ·exact absurd (fun s a b=>by rw [val16 s a];omega) h2
 case rest =>
  have S2:Hid (Below w.heap.size w wc):=hcut.out.1
  have X2:Hid (PBox wc w.heap.size p vs):=hcut.out.2.1
  have FA:Hid (FarT w.heap.size wc u4):=hcut.out.2.2.1
  obtain⟨r,hr⟩:=hcut.out.2.2.2
  have R2:Hid (Sl wc u4 r∧Good r∧∀ t,0≤t→t < 300→val r t=16 - p.shut):=hr
  have V2:Hid (PtV wc (.agg PC) p):=HV.out.below S2.out
  obtain⟨hn0,hn1⟩:=HP.out.now
  have hlen:=HP.out.len
  clear hr hcut S1 X1 pc14
  have pc0:=X2.out.cells.1
  have hll:=jhm p.ships
  have QL:Hid ((jbf p.ships).length+4≤maxLen∧((jbf p.ships).length+4)*24≤140737488355328∧(jbf p.ships++p.kept).length≤1000):=⟨by unfold maxLen;omega,by omega,by rw [List.length_append];omega⟩
  clear hll
  obtain⟨a0,a1,a2,b0,b1,b2,c0,c1,c2,d0,d1,d2,hpa,q0,q1,q2,q3,q4,q5,q6,q7,q8,q9,q10,q11,q12,q13,q14,q15⟩:=X2.out.all
  rw [HPC.out] at hpa
  have HLx:=fun W h=>HL W h HP.out
  have V2x:=V2.out
  rw [hpa] at HLx V2x
  have V3:Hid (PtV wc.drew (.agg #[.int .i64 p.now,vs,.int .i64 a0,.int .i64 a1,.int .i64 a2,.int .i64 b0,.int .i64 b1,.int .i64 b2,.int .i64 c0,.int .i64 c1,.int .i64 c2,.int .i64 d0,.int .i64 d1,.int .i64 d2,.int .i64 p.shut,.int .i64 p.next]) p):=V2x.below ((Below.refl _ wc).drew)
  clear hpa V2x pc0 HL
  go_wp2_with fail
  go_region_law (first|(refine jl6 tyKp rfl _ _ rfl wc.heap.size v5 (jbf p.ships) p.kept w.heap.size 2 4 4 rfl rfl h4 F5.out.1 F5.out.2.2.2 F5.out.2.1.size QL.out.1 QL.out.2.1 ?_;intro v6 w6 hw6;have F6:Hid (SlK cKp w6 v6 (jbf p.ships++p.kept)∧Below wc.heap.size wc w6):=⟨jaz hw6.out.1,F5.out.2.1.trans hw6.out.2⟩;have pc0c:=(X2.out.later F6.out.2 X2.out.lt).cells.1;clear hw6)|(go_simp;go_at_call 144;refine(HLx _ V3.out).mono ?_;rintro e w5 ⟨v5,rfl,hv5,hb5⟩;have F5:Hid (w5.ownsRow wc.heap.size 38 3 v5 (jbf p.ships).length (jae cKp (jbf p.ships))∧Below wc.heap.size wc w5∧PBox w5 w.heap.size p vs∧RdK cKp w5 w.heap.size 2 p.kept):=⟨hv5,jau hb5,X2.out.later (jau hb5) X2.out.lt,fun j u hu=>(X2.out.later (jau hb5) X2.out.lt).keeps j u hu⟩;have pc0b:=F5.out.2.2.1.cells.1;clear hv5 hb5)|(go_simp;go_at_call 143;refine(less_any _ r _ _ (jbf p.ships++p.kept) _ (R2.out.1.below F6.out.2) R2.out.2.1 (by omega) (by omega) F6.out.1 (jo8 HP.out) QL.out.2.2 w.heap.size (FA.out.later F6.out.2) (S2.out.trans (F6.out.2.mono S2.out.size)).size).mono ?_;rintro e w7 ⟨⟨v7,ok7,rfl,hL7,hF7⟩,hb7⟩;have F7:Hid ((jkq p w7 v7 ok7∧(ok7=true→FarT w.heap.size w7 v7))∧Below w.heap.size w w7):=⟨⟨jh4 HP.out R2.out.2.2 hL7,hF7⟩,(S2.out.trans (F6.out.2.mono S2.out.size)).trans (hb7.mono (S2.out.trans (F6.out.2.mono S2.out.size)).size)⟩;clear hL7 hb7 hF7))
  all_goals
   go_wp2_with fail
   go_ret2
   exact⟨⟨_,_,rfl,F7.out.1⟩,F7.out.2⟩
end Go.Proofs.YtcmdoeledmkfmacGreatDoor.Ty
set_option linter.unusedSimpArgs false
set_option linter.unusedVariables false
namespace Go.Proofs.YtcmdoeledmkfmacGreatDoor
open Go.RowKit
def lastD:Int→List (Int×Int)→Int
 | d,[]=>d
 | _,x::r=>lastD x.2 r
theorem jkb (d:Int) (l:List (Int×Int)) (x:Int×Int):lastD d (l++[x])=x.2:=by
 induction l generalizing d with
 | nil=>rfl
 | cons y r ih=>exact ih y.2
theorem jl0 {t:Int}:∀ (l:List (Int×Int)) (d:Int),(∀ x∈l,x.1≤t)→jb8 d l t=lastD d l:=by
 intro l
 induction l with
 | nil=>intro d _;rfl
 | cons x r ih =>
  intro d h
  rw [jb8,if_pos (h x List.mem_cons_self),lastD]
  exact ih x.2 fun y hy=>h y (List.mem_cons_of_mem _ hy)
theorem joi {l:List (Int×Int)} (h:∀ x∈l,0≤x.2∧x.2≤16):∀ d,0≤d→d≤16→0≤lastD d l∧lastD d l≤16:=by
 induction l with
 | nil=>intro d h0 h1;exact⟨h0,h1⟩
 | cons x r ih =>
  intro d _ _
  have:=h x List.mem_cons_self
  exact ih (fun y hy=>h y (List.mem_cons_of_mem _ hy)) x.2 this.1 this.2
def profF (r:List (Int×Int)) (now sign:Int) (t:Int):Int:=if now≤t then sign*jb8 0 r t else 0
theorem jqg {r:List (Int×Int)} {k:Nat} {x:Int×Int} {now sign t m:Int} (hu:Up r) (hx:r[k]?=some x) (hm:(x.1≤now∧m=now)∨(now < x.1∧m=x.1)) :
  profF (r.take (k+1)) now sign t=profF (r.take k) now sign t+if m≤t then sign*(x.2 - lastD 0 (r.take k)) else 0:=by
 have hk:=(List.getElem?_eq_some_iff.1 hx).1
 have e1:r.take (k+1)=r.take k++[x]:=by rw [List.take_add_one,hx];rfl
 have hup:∀ y∈r.take k,y.1 < x.1:=fun y hy=>by
  have h:=hu.sublist (List.take_sublist (k+1) r)
  rw [e1] at h
  exact(List.pairwise_append.1 h).2.2 y hy x (by simp)
 unfold profF
 rw [e1,jeq,jb8,jb8]
 by_cases c1:now≤t
 ·rw [if_pos c1,if_pos c1]
  by_cases c2:x.1≤t
  ·rw [if_pos c2,if_pos (by omega),jl0 (r.take k) 0 (fun y hy=>by have:=hup y hy;omega),← Int.mul_add]
   congr 1
   omega
  ·rw [if_neg c2,if_neg (by omega)];omega
 ·rw [if_neg c1,if_neg c1,if_neg (by omega)];omega
theorem sl_dr {w w':World} {B B' gd:Nat} {v vr:Value} {l r:List (Int×Int)} (hs:Sl w vr r) (hF:Ty.FarT B' w vr) (hd:DB w B gd l v) (h:Dr w w' gd):Sl w' vr r∧Ty.FarT B' w' vr:=by
 obtain⟨g,off,n,cap,cur,rfl,h1,h2⟩:=hF
 have e:=h.block hd h2 (by decide) (by decide)
 refine⟨?_,⟨g,off,n,cap,cur,rfl,h1,by rw [e];exact h2⟩⟩
 obtain⟨hn,a,cap',e',h3⟩:=hs
 refine⟨hn,a,cap',e',?_⟩
 rcases h3 with h3|⟨b,o,rfl,hr⟩
 ·exact Or.inl h3
 ·injection e' with e1
  injection e1 with e1
  injection e1 with e1 e2
  subst e1 e2
  refine Or.inr ⟨g,off,rfl,fun j hj=>?_⟩
  have:=hr j hj
  have hc:∀ q,w'.cell? ⟨g,q,none⟩=w.cell? ⟨g,q,none⟩:=fun q=>by simp [World.cell?,e]
  rw [hc,hc]
  exact this
theorem jmj {l l1 l2 r:List (Int×Int)} {k:Nat} {now sign m b:Int} {x:Int×Int} (hu:Up r) (hx:r[k]?=some x) (PU:Puts l k 16 (profF (r.take k) now sign) l1) (hp:PutIs l1 m b l2) (h0:-16≤b) (h1:b≤16) (hm:(x.1≤now∧m=now)∨(now < x.1∧m=x.1)) (hb:b=sign*(x.2 - lastD 0 (r.take k))):Puts l (k+1) 16 (profF (r.take (k+1)) now sign) l2 :=
 (PU.snoc (by omega) hp h0 h1).congr (fun t=>by rw [jqg hu hx hm,hb])
theorem ji3 (B gd:Nat) (l:List (Int×Int)) (v:Value) (r:List (Int×Int)) (vr:Value) (B':Nat) (now sign K:Int) (w:World) (H:DB w B gd l v) (hu:Up l) (hl:l.length+r.length≤700) (hK0:0≤K) (hK1:K≤500000) (hK:Bd K l)
  (hs:Sl w vr r) (hF:Ty.FarT B' w vr) (hur:Up r) (hrb:∀ x∈r,0≤x.2∧x.2≤16) (hsg:sign=1∨sign=-1) :
  Calls Tryz.prog 115 #[.pointer (some ⟨gd,0,none⟩),vr,.int .i64 now,.int .i64 sign] w fun e w'=>je5 B gd l r.length 16 (profF r now sign) w e w':=by
 obtain⟨a,cap,rfl⟩:∃ a cap,vr=.slice a r.length cap:=by obtain⟨_,a,cap,e,_⟩:=hs;exact⟨a,cap,e⟩
 have I0:Hid (∃ l' v',Puts l 0 16 (profF (r.take 0) now sign) l'∧DB w B gd l' v'∧Below B w w∧Dr w w gd):=⟨l,v,(Puts.zero hu).congr (fun t=>by unfold profF;rw [List.take_zero,jb8];simp),H,Below.refl _ _,Dr.of (Below.refl _ _)⟩
 have HH:Hid ((DB w B gd l v∧Up l∧Bd K l)∧Sl w (.slice a r.length cap) r∧Ty.FarT B' w (.slice a r.length cap)∧Up r∧∀ x∈r,0≤x.2∧x.2≤16):=⟨⟨H,hu,hK⟩,hs,hF,hur,hrb⟩
 clear H hu hK hs hF hur hrb
 go_enter Tryz.func115,Tryz.ntmps115
 go_wp2_with fail
 go_loopg [8,13] r.length (fun kx s8 s13 wr=>∃ (k:Nat),s13=.int .i64 k∧s8=.int .i64 (lastD 0 (r.take k))∧k≤r.length∧r.length - k≤kx∧Hid (∃ l' v',Puts l k 16 (profF (r.take k) now sign) l'∧DB wr B gd l' v'∧Below B w wr∧Dr w wr gd))
 case atStart=>exact⟨0,rfl,rfl,Nat.zero_le _,by omega,I0⟩
 case round =>
  clear I0
  obtain⟨k,rfl,rfl,hk,hg,I⟩:=hrel
  by_cases hkl:k < r.length
  ·obtain⟨x,hx⟩:∃ x,r[k]?=some x:=⟨r[k],List.getElem?_eq_getElem hkl⟩
   obtain⟨l1,v1,hp1,hd1,hb1,hr1⟩:=I.out
   have hsl:=(sl_dr HH.out.2.1 HH.out.2.2.1 HH.out.1.1 hr1).1
   obtain⟨bb,off,rfl,hrd⟩:∃ b off,a=some ⟨b,off,none⟩∧Rd wr b off r:=by
    obtain⟨_,a',c',e,h⟩:=hsl
    injection e with e1 _ _
    subst e1
    rcases h with h|h
    ·rw [h] at hx;cases hx
    ·exact h
   have hxe:sAt r k=x:=by rw [jci hkl];have h:=List.getElem?_eq_getElem hkl;rw [h] at hx;exact Option.some.inj hx
   obtain⟨c0,c1⟩:=hrd k hkl
   rw [hxe] at c0 c1
   have hbw:Below wr.heap.size wr (wr.alloc (.cells #[.int .i64 x.1,.int .i64 x.2] 194)):=(Below.refl _ wr).alloc (Nat.le_refl _) _
   have D2:Hid (DB (wr.alloc (.cells #[.int .i64 x.1,.int .i64 x.2] 194)) B gd l1 v1∧Below B w (wr.alloc (.cells #[.int .i64 x.1,.int .i64 x.2] 194))∧Dr w (wr.alloc (.cells #[.int .i64 x.1,.int .i64 x.2] 194)) gd∧(wr.alloc (.cells #[.int .i64 x.1,.int .i64 x.2] 194)).heap[wr.heap.size]?=some (.cells #[.int .i64 x.1,.int .i64 x.2] 194)):=⟨hd1.later hbw,hb1.trans (hbw.mono hd1.2.2.2),hr1.trans (Dr.of hbw),heap_alloc_new wr _⟩
   have PU:Hid (Puts l k 16 (profF (r.take k) now sign) l1):=hp1
   have HX:Hid (r[k]?=some x):=hx
   have hb:=HH.out.2.2.2.2 x (List.mem_of_getElem? hx)
   have hlb:=joi (l:=r.take k) (fun y hy=>HH.out.2.2.2.2 y (List.mem_of_mem_take hy)) 0 (by omega) (by omega)
   have hlen1:=hp1.len
   have hbd1:Bd (K+k*16) l1:=hp1.bd K hK0 HH.out.1.2.2
   have hk3:(k:Int) < (r.length:Int):=by omega
   obtain⟨n0,n1⟩:=jgz wr (.int .i64 x.1) (.int .i64 x.2) 194
   generalize hfr:lastD 0 (r.take k)=fr at *
   have HFR:Hid (lastD 0 (r.take k)=fr):=hfr
   clear hfr hp1 hd1 hb1 hr1 hsl hrd hbw hx hxe I
   have PP:Hid (∀ m b,-16≤b→b≤16→Calls Tryz.prog 155 #[.pointer (some ⟨gd,0,none⟩),.int .i64 m,.int .i64 b] (wr.alloc (.cells #[.int .i64 x.1,.int .i64 x.2] 194)) fun e w'=>jsm B gd l1 v1 m b (wr.alloc (.cells #[.int .i64 x.1,.int .i64 x.2] 194)) e w'):=fun m b h0 h1=>ji2 B gd l1 v1 m b (K+k*16) 16 (wr.alloc (.cells #[.int .i64 x.1,.int .i64 x.2] 194)) D2.out.1 PU.out.up (by omega) (by omega) (by omega) hbd1 h0 h1 (by omega)
   rcases hsg with rfl|rfl
   ·go_wp2_with fail
    all_goals
     refine(PP.out _ _ (by omega) (by omega)).mono ?_
     rintro e w1 ⟨rfl,l2,v2,hp2,hd2,hb2,hr2⟩
     have K2:Hid (∃ l' v',Puts l (k+1) 16 (profF (r.take (k+1)) now 1) l'∧DB w1 B gd l' v'∧Below B w w1∧Dr w w1 gd):=⟨l2,v2,jmj HH.out.2.2.2.1 HX.out PU.out hp2 (by omega) (by omega) (by omega) (by rw [HFR.out];omega),hd2,D2.out.2.1.trans hb2,D2.out.2.2.1.trans hr2⟩
     have hst:w1.heap[wr.heap.size]?=some (.cells #[.int .i64 x.1,.int .i64 x.2] 194):=(hr2.block D2.out.1 D2.out.2.2.2 (by decide) (by decide)).trans D2.out.2.2.2
     have q1:w1.cell? ⟨wr.heap.size,1,none⟩=some (.int .i64 x.2):=by rw [cell_of_row _ _ _ _ _ _ hst];rfl
     have hlx:lastD 0 (r.take (k+1))=x.2:=by rw [List.take_add_one,HX.out];exact jkb _ _ _
     clear hp2 hd2 hb2 hr2 PP D2 PU c0 c1 n0 n1 hst
     go_wp2_with fail
     go_roundg (r.length - (k+1))
     case measure=>omega
     case rel=>exact⟨k+1,by go_num,by rw [hlx],by omega,Nat.le_refl _,K2⟩
   ·go_wp2_with fail
    all_goals
     refine(PP.out _ _ (by omega) (by omega)).mono ?_
     rintro e w1 ⟨rfl,l2,v2,hp2,hd2,hb2,hr2⟩
     have K2:Hid (∃ l' v',Puts l (k+1) 16 (profF (r.take (k+1)) now (-1)) l'∧DB w1 B gd l' v'∧Below B w w1∧Dr w w1 gd):=⟨l2,v2,jmj HH.out.2.2.2.1 HX.out PU.out hp2 (by omega) (by omega) (by omega) (by rw [HFR.out];omega),hd2,D2.out.2.1.trans hb2,D2.out.2.2.1.trans hr2⟩
     have hst:w1.heap[wr.heap.size]?=some (.cells #[.int .i64 x.1,.int .i64 x.2] 194):=(hr2.block D2.out.1 D2.out.2.2.2 (by decide) (by decide)).trans D2.out.2.2.2
     have q1:w1.cell? ⟨wr.heap.size,1,none⟩=some (.int .i64 x.2):=by rw [cell_of_row _ _ _ _ _ _ hst];rfl
     have hlx:lastD 0 (r.take (k+1))=x.2:=by rw [List.take_add_one,HX.out];exact jkb _ _ _
     clear hp2 hd2 hb2 hr2 PP D2 PU c0 c1 n0 n1 hst
     go_wp2_with fail
     go_roundg (r.length - (k+1))
     case measure=>omega
     case rel=>exact⟨k+1,by go_num,by rw [hlx],by omega,Nat.le_refl _,K2⟩
  ·have hke:k=r.length:=by omega
   subst hke
   have hk3:¬ (r.length:Int) < (r.length:Int):=by omega
   have FIN:Hid (∃ l' v',Puts l r.length 16 (profF r now sign) l'∧DB wr B gd l' v'∧Below B w wr∧Dr w wr gd):=by have h:=I.out;rw [List.take_length] at h;exact h
   clear I
   go_wp2_with fail
   go_end0
   exact⟨rfl,FIN.out⟩
end Go.Proofs.YtcmdoeledmkfmacGreatDoor
set_option linter.unusedSimpArgs false
set_option linter.unusedVariables false
namespace Go.Proofs.YtcmdoeledmkfmacGreatDoor
open Go.RowKit
theorem twoS2 (w:World) (s r:Ship):SBox ((w.alloc (.cells #[.int .i64 s.st,.int .i64 s.wd,.int .i64 s.lg,.int .i64 s.cl,.int .i64 s.si,.int .i64 s.qu] 46)).alloc (.cells #[.int .i64 r.st,.int .i64 r.wd,.int .i64 r.lg,.int .i64 r.cl,.int .i64 r.si,.int .i64 r.qu] 46)) w.heap.size s∧SBox ((w.alloc (.cells #[.int .i64 s.st,.int .i64 s.wd,.int .i64 s.lg,.int .i64 s.cl,.int .i64 s.si,.int .i64 s.qu] 46)).alloc (.cells #[.int .i64 r.st,.int .i64 r.wd,.int .i64 r.lg,.int .i64 r.cl,.int .i64 r.si,.int .i64 r.qu] 46)) (w.heap.size+1) r∧Below w.heap.size w ((w.alloc (.cells #[.int .i64 s.st,.int .i64 s.wd,.int .i64 s.lg,.int .i64 s.cl,.int .i64 s.si,.int .i64 s.qu] 46)).alloc (.cells #[.int .i64 r.st,.int .i64 r.wd,.int .i64 r.lg,.int .i64 r.cl,.int .i64 r.si,.int .i64 r.qu] 46)):=by
 obtain⟨h1,h2,h3⟩:=twoS w s r
 refine⟨h1,h2,?_⟩
 exact((Below.refl _ w).alloc (Nat.le_refl _) _).alloc (by simp) _
theorem jta (s r:Ship) (w:World) :
  Calls Tryz.prog 121 #[.agg #[.int .i64 s.st,.int .i64 s.wd,.int .i64 s.lg,.int .i64 s.cl,.int .i64 s.si,.int .i64 s.qu],.agg #[.int .i64 r.st,.int .i64 r.wd,.int .i64 r.lg,.int .i64 r.cl,.int .i64 r.si,.int .i64 r.qu]] w fun e w'=>e=.returned (.int .i64 (cmpS s r))∧Below w.heap.size w w':=by
 have HSS:Hid (cmpS s r=orI (cmpI s.cl r.cl) (cmpI s.qu r.qu)):=rfl
 have F:Hid (SBox _ _ s∧SBox _ _ r∧Below w.heap.size w _):=twoS2 w s r
 go_enter Tryz.func121,Tryz.ntmps121
 go_upto_region 1 with fail
 have hz:(w.alloc (.cells #[.int .i64 s.st,.int .i64 s.wd,.int .i64 s.lg,.int .i64 s.cl,.int .i64 s.si,.int .i64 s.qu] 46)).heap.size=w.heap.size+1:=by simp
 generalize hWC:((w.alloc (.cells #[.int .i64 s.st,.int .i64 s.wd,.int .i64 s.lg,.int .i64 s.cl,.int .i64 s.si,.int .i64 s.qu] 46)).alloc (.cells #[.int .i64 r.st,.int .i64 r.wd,.int .i64 r.lg,.int .i64 r.cl,.int .i64 r.si,.int .i64 r.qu] 46))=WC at *
 rw [hz] at *
 generalize hx:w.heap.size=x at *
 obtain⟨k0,k1,k2,k3,k4,k5⟩:=F.out.1.cells
 obtain⟨e0,e1,e2,e3,e4,e5⟩:=F.out.2.1.cells
 clear k0 k1 k2 k4 e0 e1 e2 e4
 go_region_held (fun w'=>w'.cell? ⟨x,3,none⟩=some (.int .i64 s.cl)∧w'.cell? ⟨x,5,none⟩=some (.int .i64 s.qu)∧w'.cell? ⟨x+1,3,none⟩=some (.int .i64 r.cl)∧w'.cell? ⟨x+1,5,none⟩=some (.int .i64 r.qu)) (go_keep) (first|(go_at_call 120;refine(jfl _ _ _).mono ?_;rintro e w' ⟨rfl,rfl⟩)|(go_at_call 119;refine(juj _ _ _ _ (jdx _ _ _ _).1 (jdx _ _ _ _).2).mono ?_;rintro e w' ⟨rfl,rfl⟩))
 all_goals go_wp2_with fail
 all_goals go_ret
 all_goals exact⟨by rw [HSS.out];rfl,by rw [hx];exact F.out.2.2.trans (((Below.refl _ WC).alloc (Nat.le_refl _) _).drew.mono (by have:=F.out.2.2.size;omega))⟩
end Go.Proofs.YtcmdoeledmkfmacGreatDoor
set_option linter.unusedSimpArgs false
set_option linter.unusedVariables false
namespace Go.Proofs.YtcmdoeledmkfmacGreatDoor
open Go.RowKit
structure LB (l:List (Int×Int)) (n:Nat):Prop where
 up:Up l
 len:l.length≤n
 bd:Bd (n*16) l
theorem LB.nil:LB [] 0:=⟨List.Pairwise.nil,Nat.le_refl _,fun x hx=>by cases hx⟩
theorem LB.puts {l l':List (Int×Int)} {n m:Nat} {f:Int→Int} (h:LB l n) (hp:Puts l m 16 f l'):LB l' (n+m) :=
 ⟨hp.up,by have:=h.len;have:=hp.len;omega,by
  have:=hp.bd (n*16) (by omega) h.bd
  rw [Int.natCast_add,Int.add_mul]
  exact this⟩
theorem LB.mono {l:List (Int×Int)} {n m:Nat} (h:LB l n) (hn:n≤m):LB l m:=⟨h.up,by have:=h.len;omega,fun x hx=>by have:=h.bd x hx;omega⟩
structure Mf (w w':World) (gm gd:Nat):Prop where
 size:w.heap.size≤w'.heap.size
 same:∀ k,k < w.heap.size→k≠gm→k≠gd→(∀ c f,w.heap[k]?≠some (.cells c 237 f))→w'.heap[k]?=w.heap[k]?
theorem Mf.of {w w':World} {gm gd:Nat} (hb:Below w.heap.size w w'):Mf w w' gm gd:=⟨hb.size,fun k hk _ _ _=>hb.block k hk⟩
theorem Mf.ofDr {w w':World} {gm gd:Nat} (h:Dr w w' gd):Mf w w' gm gd:=⟨h.size,fun k hk _ h1 h2=>h.same k hk h1 h2⟩
theorem Mf.trans {w w' w'':World} {gm gd:Nat} (h:Mf w w' gm gd) (h':Mf w' w'' gm gd):Mf w w'' gm gd:=by
 have hs:=h.size
 refine⟨Nat.le_trans hs h'.size,fun k hk h0 h1 h2=>?_⟩
 have e:=h.same k hk h0 h1 h2
 exact(h'.same k (by omega) h0 h1 (fun c f=>by rw [e];exact h2 c f)).trans e
structure MS (w:World) (B gm gd:Nat) (vo:Value) (now:Int) (vf:Value) (r:List (Int×Int)) (lk:Int) (v:Value) (l:List (Int×Int)):Prop where
 box:w.heap[gm]?=some (.cells #[vo,.int .i64 now,vf,.pointer (some ⟨gd,0,none⟩),.int .i64 lk] 136 (0,0))
 base:B≤gm
 dr:DB w B gd l v
 sl:Sl w vf r
 far:Ty.FarT B w vf
section
variable {w w':World} {B gm gd:Nat} {vo vf v:Value} {now lk:Int} {r l:List (Int×Int)}
theorem MS.lt (h:MS w B gm gd vo now vf r lk v l):gm < w.heap.size:=(Array.getElem?_eq_some_iff.1 h.box).1
theorem MS.cells (h:MS w B gm gd vo now vf r lk v l):w.cell? ⟨gm,0,none⟩=some vo∧w.cell? ⟨gm,1,none⟩=some (.int .i64 now)∧w.cell? ⟨gm,2,none⟩=some vf∧w.cell? ⟨gm,3,none⟩=some (.pointer (some ⟨gd,0,none⟩))∧w.cell? ⟨gm,4,none⟩=some (.int .i64 lk):=by
 refine⟨?_,?_,?_,?_,?_⟩ <;> (rw [cell_of_row _ _ _ _ _ _ h.box];rfl)
theorem MS.frozen (h:MS w B gm gd vo now vf r lk v l) (k:Nat):w.frozen? ⟨gm,k,none⟩=false:=by simp [World.frozen?,h.box]
theorem Mf.block (h:Mf w w' gm gd) (hm:MS w B gm gd vo now vf r lk v l) {k:Nat} {c:Array Value} {t:TypeId} {f:Nat×Nat} (hk:w.heap[k]?=some (.cells c t f)) (h0:t≠136) (h1:t≠156) (h2:t≠237):w'.heap[k]?=w.heap[k]?:=by
 refine h.same k (Array.getElem?_eq_some_iff.1 hk).1 (fun e=>?_) (fun e=>?_) (fun c' f' e=>?_)
 ·subst e
  have e:=hk.symm.trans hm.box
  injection e with e
  injection e with _ e
  exact h0 e
 ·subst e
  have e:=hk.symm.trans hm.dr.1
  injection e with e
  injection e with _ e
  exact h1 e
 ·have e:=hk.symm.trans e
  injection e with e
  injection e with _ e
  exact h2 e
theorem MS.later (h:MS w B gm gd vo now vf r lk v l) (hb:Below w.heap.size w w'):MS w' B gm gd vo now vf r lk v l :=
 ⟨by rw [hb.block gm h.lt];exact h.box,h.base,h.dr.later hb,h.sl.below hb,h.far.later hb⟩
theorem MS.turn {v':Value} {l':List (Int×Int)} (h:MS w B gm gd vo now vf r lk v l) (hr:Dr w w' gd) (hd:DB w' B gd l' v'):MS w' B gm gd vo now vf r lk v' l':=by
 have e:=sl_dr h.sl h.far h.dr hr
 exact⟨by rw [hr.block h.dr h.box (by decide) (by decide)];exact h.box,h.base,hd,e.1,e.2⟩
theorem MS.other (h:MS w B gm gd vo now vf r lk v l) (i:Nat) (x:Value) :
  DB (w.setCell ⟨gm,i,none⟩ x) B gd l v∧(∀ vf r,Sl w vf r→Ty.FarT B w vf→Sl (w.setCell ⟨gm,i,none⟩ x) vf r∧Ty.FarT B (w.setCell ⟨gm,i,none⟩ x) vf)∧Mf w (w.setCell ⟨gm,i,none⟩ x) gm gd∧Below B w (w.setCell ⟨gm,i,none⟩ x):=by
 have hb:Below B w (w.setCell ⟨gm,i,none⟩ x):=(Below.refl B w).setCell (by show B≤gm;exact h.base) x
 have hne:∀ k,k≠gm→(w.setCell ⟨gm,i,none⟩ x).heap[k]?=w.heap[k]?:=fun k hk=>Below.heap_setCell _ _ _ _ (by show k≠gm;exact hk)
 have hty:∀ {k c t f},w.heap[k]?=some (.cells c t f)→t≠136→k≠gm:=by
  rintro k c t f hk ht rfl
  have e:=hk.symm.trans h.box
  injection e with e
  injection e with _ e
  exact ht e
 refine⟨⟨by rw [hne gd (hty h.dr.1 (by decide))];exact h.dr.1,⟨h.dr.2.1.1,?_⟩,h.dr.2.2.1,Nat.le_trans h.dr.2.2.2 hb.size⟩,?_,⟨hb.size,fun k _ h0 _ _=>hne k h0⟩,hb⟩
 ·rcases h.dr.2.1.2 with h0|⟨b,cap,cur,h0,h1,h2,h3⟩
  ·exact Or.inl h0
  ·exact Or.inr ⟨b,cap,cur,h0,h1,by rw [hne b (hty h2 (by decide))];exact h2,h3⟩
 ·rintro vr r hs ⟨g,off,n,cap,cur,rfl,h1,h2⟩
  have e:=hne g (hty h2 (by decide))
  refine⟨?_,⟨g,off,n,cap,cur,rfl,h1,by rw [e];exact h2⟩⟩
  obtain⟨hn,a,cap',e',h3⟩:=hs
  refine⟨hn,a,cap',e',?_⟩
  rcases h3 with h3|⟨b,o,rfl,hr⟩
  ·exact Or.inl h3
  ·injection e' with e1
   injection e1 with e1
   injection e1 with e1 e2
   subst e1 e2
   refine Or.inr ⟨g,off,rfl,fun j hj=>?_⟩
   have:=hr j hj
   have hc:∀ q,(w.setCell ⟨gm,i,none⟩ x).cell? ⟨g,q,none⟩=w.cell? ⟨g,q,none⟩:=fun q=>by simp only [World.cell?,e]
   rw [hc,hc]
   exact this
theorem MS.setFree {vf':Value} {r':List (Int×Int)} (h:MS w B gm gd vo now vf r lk v l) (hs:Sl w vf' r') (hF:Ty.FarT B w vf'):MS (w.setCell ⟨gm,2,none⟩ vf') B gm gd vo now vf' r' lk v l:=by
 obtain⟨h1,h2,_,_⟩:=h.other 2 vf'
 obtain⟨h3,h4⟩:=h2 _ _ hs hF
 exact⟨by rw [setCell_eq_setRow w gm 2 _ _ _ _ h.box,setRow_heap w gm _ _ _ _ h.box];rfl,h.base,h1,h3,h4⟩
theorem MS.setOld {vo':Value} (h:MS w B gm gd vo now vf r lk v l):MS (w.setCell ⟨gm,0,none⟩ vo') B gm gd vo' now vf r lk v l:=by
 obtain⟨h1,h2,_,_⟩:=h.other 0 vo'
 obtain⟨h3,h4⟩:=h2 _ _ h.sl h.far
 exact⟨by rw [setCell_eq_setRow w gm 0 _ _ _ _ h.box,setRow_heap w gm _ _ _ _ h.box];rfl,h.base,h1,h3,h4⟩
theorem MS.setLooked {lk':Int} (h:MS w B gm gd vo now vf r lk v l):MS (w.setCell ⟨gm,4,none⟩ (.int .i64 lk')) B gm gd vo now vf r lk' v l:=by
 obtain⟨h1,h2,_,_⟩:=h.other 4 (.int .i64 lk')
 obtain⟨h3,h4⟩:=h2 _ _ h.sl h.far
 exact⟨by rw [setCell_eq_setRow w gm 4 _ _ _ _ h.box,setRow_heap w gm _ _ _ _ h.box];rfl,h.base,h1,h3,h4⟩
end
theorem jo9 {r:List (Int×Int)} {vf:Value} {fr tu n:Int} (w:World) (hs:Sl w vf r) (G:Good r) (hn:0≤n∧n≤16) (h0:0≤fr) (h1:fr≤tu) (h2:tu≤300) (hR:roomT r n fr tu) :
  Calls Tryz.prog 114 #[vf,.int .i64 fr,.int .i64 tu,.int .i64 n] w fun e w'=>∃ v',e=.returned (.tuple #[v',.bool true])∧Hid ((∃ r',Sl w' v' r'∧Good r'∧∀ t,0≤t→t < 300→val r' t=val r t - if fr≤t∧t < tu then n else 0)∧Ty.FarT w.heap.size w' v'∧Below w.heap.size w w'):=by
 refine(Ty.take_far vf r fr tu n w hs ⟨jck.2 G,by unfold inB;exact decide_eq_true hn,h0,h1,h2⟩).mono ?_
 rintro e w' ⟨v',ok,rfl,hT,hF,hb⟩
 rcases jfp G hn h0 h1 h2 hT with ⟨rfl,r',a,b,c,_⟩|⟨_,_,h⟩
 ·exact⟨v',rfl,⟨r',a,b,c⟩,hF,hb⟩
 ·exact absurd hR h
theorem js1 {r:List (Int×Int)} {vf:Value} {fr tu n:Int} (w:World) (hs:Sl w vf r) (G:Good r) (hn:0≤n∧n≤16) (h0:0≤fr) (h1:fr≤tu) (h2:tu≤300) (hR:¬ roomT r n fr tu) :
  Calls Tryz.prog 114 #[vf,.int .i64 fr,.int .i64 tu,.int .i64 n] w fun e w'=>∃ v',e=.returned (.tuple #[v',.bool false])∧Below w.heap.size w w':=by
 refine(Ty.take_far vf r fr tu n w hs ⟨jck.2 G,by unfold inB;exact decide_eq_true hn,h0,h1,h2⟩).mono ?_
 rintro e w' ⟨v',ok,rfl,hT,hF,hb⟩
 rcases jfp G hn h0 h1 h2 hT with ⟨_,r',a,b,c,h⟩|⟨rfl,_,h⟩
 ·exact absurd h hR
 ·exact⟨v',rfl,hb⟩
end Go.Proofs.YtcmdoeledmkfmacGreatDoor
set_option linter.unusedSimpArgs false
set_option linter.unusedVariables false
namespace Go.Proofs.YtcmdoeledmkfmacGreatDoor
open Go.RowKit
theorem Ty.FarT.shape {B:Nat} {w:World} {v:Value} (h:Ty.FarT B w v):∃ g o n c,v=.slice (some ⟨g,o,none⟩) n c:=by
 obtain⟨g,o,n,c,_,e,_⟩:=h
 exact⟨g,o,n,c,e⟩
def RemIs (r:List (Int×Int)) (now:Int) (l:List (Int×Int)) (s:Ship) (at_:Int) (ok:Bool) (r':List (Int×Int)):Prop :=
 (ok=false∧r'=r∧(at_=-1→jbi 0 l 300=true)∧(at_≠-1→at_ < now∨jbi 0 l at_=true∨¬ roomT r s.wd at_ (at_+s.lg))) ∨
 (ok=true∧at_=-1∧jbi 0 l 300=false∧r'=r) ∨
 (ok=true∧at_≠-1∧now≤at_∧jbi 0 l at_=false∧roomT r s.wd at_ (at_+s.lg)∧∀ t,0≤t→t < 300→val r' t=val r t - if at_≤t∧t < at_+s.lg then s.wd else 0)
def jo3 (B gm gd:Nat) (vo:Value) (now:Int) (r:List (Int×Int)) (lk:Int) (l:List (Int×Int)) (s:Ship) (at_:Int) (w:World) (e:Ending) (w':World):Prop :=
 ∃ ok,e=.returned (.bool ok)∧Hid (∃ vf' v' r',MS w' B gm gd vo now vf' r' lk v' l∧Good r'∧RemIs r now l s at_ ok r'∧Mf w w' gm gd∧Below B w w')
theorem jn6 (B gm gd:Nat) (vo:Value) (now:Int) (vf:Value) (r:List (Int×Int)) (lk:Int) (v:Value) (l:List (Int×Int)) (s:Ship) (at_:Int) (n:Nat) (w:World)
  (H:MS w B gm gd vo now vf r lk v l) (L:LB l n) (hn:n≤800) (G:Good r) (hw:0≤s.wd∧s.wd≤16) (hl:1≤s.lg∧s.lg≤300) (ha:at_=-1∨0≤at_∧at_+s.lg≤300) :
  Calls Tryz.prog 122 #[.pointer (some ⟨gm,0,none⟩),.agg (cStay s at_)] w fun e w'=>jo3 B gm gd vo now r lk l s at_ w e w':=by
 show Calls Tryz.prog 122 #[.pointer (some ⟨gm,0,none⟩),.agg #[.int .i64 s.st,.int .i64 s.wd,.int .i64 s.lg,.int .i64 s.cl,.int .i64 s.si,.int .i64 s.qu,.int .i64 at_]] w fun e w'=>jo3 B gm gd vo now r lk l s at_ w e w'
 have hbw:Below w.heap.size w (w.alloc (.cells #[.int .i64 s.st,.int .i64 s.wd,.int .i64 s.lg,.int .i64 s.cl,.int .i64 s.si,.int .i64 s.qu,.int .i64 at_] 158)):=(Below.refl _ w).alloc (Nat.le_refl _) _
 have hBs:B≤w.heap.size:=H.dr.2.2.2
 have M1:Hid (MS (w.alloc (.cells #[.int .i64 s.st,.int .i64 s.wd,.int .i64 s.lg,.int .i64 s.cl,.int .i64 s.si,.int .i64 s.qu,.int .i64 at_] 158)) B gm gd vo now vf r lk v l∧StB (w.alloc (.cells #[.int .i64 s.st,.int .i64 s.wd,.int .i64 s.lg,.int .i64 s.cl,.int .i64 s.si,.int .i64 s.qu,.int .i64 at_] 158)) w.heap.size s at_∧Mf w (w.alloc (.cells #[.int .i64 s.st,.int .i64 s.wd,.int .i64 s.lg,.int .i64 s.cl,.int .i64 s.si,.int .i64 s.qu,.int .i64 at_] 158)) gm gd∧Below B w (w.alloc (.cells #[.int .i64 s.st,.int .i64 s.wd,.int .i64 s.lg,.int .i64 s.cl,.int .i64 s.si,.int .i64 s.qu,.int .i64 at_] 158))∧w.heap.size < (w.alloc (.cells #[.int .i64 s.st,.int .i64 s.wd,.int .i64 s.lg,.int .i64 s.cl,.int .i64 s.si,.int .i64 s.qu,.int .i64 at_] 158)).heap.size):=⟨H.later hbw,heap_alloc_new w _,Mf.of hbw,hbw.mono hBs,by simp⟩
 have HG:Hid (Good r):=G
 have GA:Hid (∀ A W,DB W B gd l v→Calls Tryz.prog 160 #[.pointer (some ⟨gd,0,none⟩),.int .i64 A] W fun e w'=>e=.returned (.bool (jbi 0 l A))∧Below W.heap.size W w'):=fun A W hD=>jr7 B gd l v A (n*16) W hD (by have:=L.len;omega) (by omega) (by omega) L.bd
 clear hbw H G L
 generalize hW:w.alloc (.cells #[.int .i64 s.st,.int .i64 s.wd,.int .i64 s.lg,.int .i64 s.cl,.int .i64 s.si,.int .i64 s.qu,.int .i64 at_] 158)=W at *
 generalize hz:w.heap.size=z at *
 obtain⟨c0,c1,c2,c3,c4,c5,c6⟩:=M1.out.2.1.cells
 obtain⟨m0,m1,m2,m3,m4⟩:=M1.out.1.cells
 rcases ha with rfl|⟨ha0,ha1⟩
 ·have HB:Hid (∃ b,jbi 0 l 300=b):=⟨_,rfl⟩
  obtain⟨b,hb⟩:=HB.out
  have GA1:=GA.out 300 W M1.out.1.dr
  rw [hb] at GA1
  have FIN:Hid (∀ w',Below W.heap.size W w'→∃ vf' v' r',MS w' B gm gd vo now vf' r' lk v' l∧Good r'∧RemIs r now l s (-1) (!b) r'∧Mf w w' gm gd∧Below B w w'):=fun w' h=>by
   refine⟨vf,v,r,M1.out.1.later h,HG.out,?_,M1.out.2.2.1.trans (Mf.of h),M1.out.2.2.2.1.trans (h.mono (by have:=M1.out.2.2.2.1.size;omega))⟩
   cases b
   ·exact Or.inr (Or.inl ⟨rfl,rfl,hb,rfl⟩)
   ·exact Or.inl ⟨rfl,rfl,fun _=>hb,fun h=>absurd rfl h⟩
  clear hb HB GA
  go_enter Tryz.func122,Tryz.ntmps122
  go_wp2_with fail
  rw [hW,hz] at *
  go_wp2_with fail
  refine GA1.mono ?_
  rintro e w2 ⟨rfl,hb2⟩
  have F2:Hid _:=FIN.out w2 hb2
  clear hb2
  go_wp2_with fail
  go_ret
  exact⟨_,rfl,F2⟩
 ·have hne:(at_ == -1)=false:=by simp;omega
  have hnm:at_≠-1:=by omega
  have FIN:Hid (∀ w',Below W.heap.size W w'→(at_ < now∨jbi 0 l at_=true∨¬ roomT r s.wd at_ (at_+s.lg))→∃ vf' v' r',MS w' B gm gd vo now vf' r' lk v' l∧Good r'∧RemIs r now l s at_ false r'∧Mf w w' gm gd∧Below B w w'):=fun w' h h2 =>
   ⟨vf,v,r,M1.out.1.later h,HG.out,Or.inl ⟨rfl,rfl,fun h=>absurd h hnm,fun _=>h2⟩,M1.out.2.2.1.trans (Mf.of h),M1.out.2.2.2.1.trans (h.mono (by have:=M1.out.2.2.2.1.size;omega))⟩
  clear c0 c1 c2 c3 c4 c5 m0 m2 m4
  by_cases hlt:at_ < now
  ·have F2:Hid (∀ k,∃ vf' v' r',MS (W.drewN k) B gm gd vo now vf' r' lk v' l∧Good r'∧RemIs r now l s at_ false r'∧Mf w (W.drewN k) gm gd∧Below B w (W.drewN k)):=fun k=>FIN.out (W.drewN k) (below_drewN (Below.refl _ _) k) (Or.inl hlt)
   clear FIN GA
   have hd:decide (at_ < now)=true:=decide_eq_true hlt
   go_enter Tryz.func122,Tryz.ntmps122
   go_wp2_with fail
   rw [hW,hz] at *
   go_wp2_with fail
   go_quiet (fail)
   go_wp2_with fail
   go_ret
   exact⟨_,rfl,F2.out _⟩
  ·have hlt':now≤at_:=by omega
   have hd:decide (at_ < now)=false:=decide_eq_false hlt
   obtain⟨b,hb⟩:∃ b,jbi 0 l at_=b:=⟨_,rfl⟩
   have GA1:=GA.out at_ W.drew (M1.out.1.later ((Below.refl _ _).drew)).dr
   rw [hb] at GA1
   have LAT:Hid (∀ w',Below W.drew.heap.size W.drew w'→Below W.heap.size W w'∧MS w' B gm gd vo now vf r lk v l∧StB w' z s at_∧Mf w w' gm gd∧Below B w w'):=fun w' h=>by
    have h:=jau h
    exact⟨h,M1.out.1.later h,by unfold StB;rw [h.block z M1.out.2.2.2.2];exact M1.out.2.1,M1.out.2.2.1.trans (Mf.of h),M1.out.2.2.2.1.trans (h.mono (by have:=M1.out.2.2.2.1.size;omega))⟩
   have HB:Hid (jbi 0 l at_=b):=hb
   clear hb GA
   cases b
   ·by_cases hR:roomT r s.wd at_ (at_+s.lg)
    ·have HR:Hid (roomT r s.wd at_ (at_+s.lg)):=hR
     clear hR
     go_enter Tryz.func122,Tryz.ntmps122
     go_wp2_with fail
     rw [hW,hz] at *
     go_wp2_with fail
     go_region_held (fun w'=>w'.cell? ⟨z,6,none⟩=some (.int .i64 at_)∧w'.cell? ⟨gm,1,none⟩=some (.int .i64 now)∧w'.cell? ⟨gm,3,none⟩=some (.pointer (some ⟨gd,0,none⟩))) (go_keep) (first|(go_at_call 160;refine GA1.mono ?_;rintro e w5 ⟨rfl,hb5⟩;have F5:Hid _:=LAT.out w5 hb5;have q1:=F5.out.2.2.1.cells.2.2.2.2.2.2;have q2:=F5.out.2.1.cells.2.1;have q3:=F5.out.2.1.cells.2.2.2.1;clear hb5))
     go_wp2_with fail
     clear q1 q2 q3 c6 m1 m3
     have ST:Hid (∀ w6,Below w5.drew.heap.size w5.drew w6→Below w5.heap.size w5 w6∧MS w6 B gm gd vo now vf r lk v l∧StB w6 z s at_∧Mf w w6 gm gd∧Below B w w6):=fun w6 h=>by
      have h:=jau h
      have hzl:z < w5.heap.size:=(Array.getElem?_eq_some_iff.1 F5.out.2.2.1).1
      exact⟨h,F5.out.2.1.later h,by unfold StB;rw [h.block z hzl];exact F5.out.2.2.1,F5.out.2.2.2.1.trans (Mf.of h),F5.out.2.2.2.2.trans (h.mono F5.out.2.1.dr.2.2.2)⟩
     have SL6:Hid (Sl w5.drew vf r):=(F5.out.2.1.later ((Below.refl _ _).drew)).sl
     have LAT5:Hid (∀ w6,Below w5.heap.size w5 w6→Below W.heap.size W w6):=fun w6 h=>F5.out.1.trans (h.mono F5.out.1.size)
     have BS5:Hid (B≤w5.drew.heap.size):=F5.out.2.1.dr.2.2.2
     obtain⟨k0,k1,k2,k3,k4,k5,k6⟩:=F5.out.2.2.1.cells
     have k7:=F5.out.2.1.cells.2.2.1
     clear k0 k3 k4 k5 F5 LAT GA1
     have hwr:IntKind.i64.wrap (at_+s.lg)=at_+s.lg:=by first|exact jbk (by omega) (by omega)|exact jbk _ (by omega) (by omega)
     have TK:=jo9 (tu:=at_+s.lg) w5.drew SL6.out HG.out hw ha0 (by omega) ha1 HR.out
     go_region_held (fun w'=>w'.cell? ⟨gm,2,none⟩=some vf∧w'.cell? ⟨z,6,none⟩=some (.int .i64 at_)∧w'.cell? ⟨z,2,none⟩=some (.int .i64 s.lg)∧w'.cell? ⟨z,1,none⟩=some (.int .i64 s.wd)) (go_keep) (first|(go_at_call 114;refine TK.mono ?_;rintro e w6 ⟨v6,rfl,T6⟩;obtain⟨g6,o6,n6,cp6,rfl⟩:∃ g o n c,v6=.slice (some ⟨g,o,none⟩) n c:=T6.out.2.1.shape;have F6:Hid _:=ST.out w6 T6.out.2.2;have q1:=F6.out.2.2.1.cells.2.1;have q2:=F6.out.2.2.1.cells.2.2.1;have q3:=F6.out.2.2.1.cells.2.2.2.2.2.2;have q4:=F6.out.2.1.cells.2.2.1;have q5:=F6.out.2.1.frozen 2))
     all_goals go_wp2_with fail
     all_goals go_ret
     all_goals
      refine⟨_,rfl,?_⟩
      obtain⟨⟨r',t1,t2,t3⟩,t4,t5⟩:=T6.out
      have hot:=F6.out.2.1.other 2 (.slice (some ⟨g6,o6,none⟩) n6 cp6)
      exact⟨_,v,r',F6.out.2.1.setFree t1 (t4.mono BS5.out),t2,Or.inr (Or.inr ⟨rfl,hnm,hlt',HB.out,HR.out,t3⟩),F6.out.2.2.2.1.trans hot.2.2.1,F6.out.2.2.2.2.trans hot.2.2.2⟩
    ·have HR:Hid (¬ roomT r s.wd at_ (at_+s.lg)):=hR
     clear hR
     go_enter Tryz.func122,Tryz.ntmps122
     go_wp2_with fail
     rw [hW,hz] at *
     go_wp2_with fail
     go_region_held (fun w'=>w'.cell? ⟨z,6,none⟩=some (.int .i64 at_)∧w'.cell? ⟨gm,1,none⟩=some (.int .i64 now)∧w'.cell? ⟨gm,3,none⟩=some (.pointer (some ⟨gd,0,none⟩))) (go_keep) (first|(go_at_call 160;refine GA1.mono ?_;rintro e w5 ⟨rfl,hb5⟩;have F5:Hid _:=LAT.out w5 hb5;have q1:=F5.out.2.2.1.cells.2.2.2.2.2.2;have q2:=F5.out.2.1.cells.2.1;have q3:=F5.out.2.1.cells.2.2.2.1;clear hb5))
     go_wp2_with fail
     clear q1 q2 q3 c6 m1 m3
     have ST:Hid (∀ w6,Below w5.drew.heap.size w5.drew w6→Below w5.heap.size w5 w6∧MS w6 B gm gd vo now vf r lk v l∧StB w6 z s at_∧Mf w w6 gm gd∧Below B w w6):=fun w6 h=>by
      have h:=jau h
      have hzl:z < w5.heap.size:=(Array.getElem?_eq_some_iff.1 F5.out.2.2.1).1
      exact⟨h,F5.out.2.1.later h,by unfold StB;rw [h.block z hzl];exact F5.out.2.2.1,F5.out.2.2.2.1.trans (Mf.of h),F5.out.2.2.2.2.trans (h.mono F5.out.2.1.dr.2.2.2)⟩
     have SL6:Hid (Sl w5.drew vf r):=(F5.out.2.1.later ((Below.refl _ _).drew)).sl
     have LAT5:Hid (∀ w6,Below w5.heap.size w5 w6→Below W.heap.size W w6):=fun w6 h=>F5.out.1.trans (h.mono F5.out.1.size)
     have BS5:Hid (B≤w5.drew.heap.size):=F5.out.2.1.dr.2.2.2
     obtain⟨k0,k1,k2,k3,k4,k5,k6⟩:=F5.out.2.2.1.cells
     have k7:=F5.out.2.1.cells.2.2.1
     clear k0 k3 k4 k5 F5 LAT GA1
     have hwr:IntKind.i64.wrap (at_+s.lg)=at_+s.lg:=by first|exact jbk (by omega) (by omega)|exact jbk _ (by omega) (by omega)
     have TK:=js1 (tu:=at_+s.lg) w5.drew SL6.out HG.out hw ha0 (by omega) ha1 HR.out
     go_region_held (fun w'=>w'.cell? ⟨gm,2,none⟩=some vf∧w'.cell? ⟨z,6,none⟩=some (.int .i64 at_)∧w'.cell? ⟨z,2,none⟩=some (.int .i64 s.lg)∧w'.cell? ⟨z,1,none⟩=some (.int .i64 s.wd)) (go_keep) (first|(go_at_call 114;refine TK.mono ?_;rintro e w6 ⟨v6,rfl,T6⟩;have F6:Hid _:=ST.out w6 T6;have q1:=F6.out.2.2.1.cells.2.1;have q2:=F6.out.2.2.1.cells.2.2.1;have q3:=F6.out.2.2.1.cells.2.2.2.2.2.2;have q4:=F6.out.2.1.cells.2.2.1;clear T6))
     all_goals go_wp2_with fail
     all_goals go_ret
     all_goals exact⟨_,rfl,FIN.out _ (LAT5.out _ F6.out.1) (Or.inr (Or.inr HR.out))⟩
   ·go_enter Tryz.func122,Tryz.ntmps122
    go_wp2_with fail
    rw [hW,hz] at *
    go_wp2_with fail
    go_region_held (fun w'=>w'.cell? ⟨z,6,none⟩=some (.int .i64 at_)∧w'.cell? ⟨gm,1,none⟩=some (.int .i64 now)∧w'.cell? ⟨gm,3,none⟩=some (.pointer (some ⟨gd,0,none⟩))) (go_keep) (first|(go_at_call 160;refine GA1.mono ?_;rintro e w5 ⟨rfl,hb5⟩;have F5:Hid _:=LAT.out w5 hb5;have q1:=F5.out.2.2.1.cells.2.2.2.2.2.2;have q2:=F5.out.2.1.cells.2.1;have q3:=F5.out.2.1.cells.2.2.2.1;clear hb5))
    all_goals go_wp2_with fail
    all_goals go_ret
    all_goals exact⟨_,rfl,FIN.out _ F5.out.1 (Or.inr (Or.inl HB.out))⟩
end Go.Proofs.YtcmdoeledmkfmacGreatDoor
