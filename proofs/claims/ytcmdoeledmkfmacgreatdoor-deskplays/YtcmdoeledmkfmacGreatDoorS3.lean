/- Texts of this claim, in one: PMem PLeaf PKept Arr PBoxW. -/
import Derived.Deep.MidRow
import Derived.Deep.DeepCutAuto
import Derived.Deep.WholeRow
import Derived.Laws.CopyOwn
import Derived.Laws.ResultCell
import Derived.Test.YtcmdoeledmkfmacGreatDoorS2
import Derived.Test.YtcmdoeledmkfmacGreatDoorS1
set_option linter.unusedSimpArgs false
set_option linter.unusedVariables false
set_option maxHeartbeats 40000000
set_option maxRecDepth 100000
namespace Go.Proofs.YtcmdoeledmkfmacGreatDoor
open Go.RowKit
def IsB (e:Ending) (P:Prop):Prop:=∃ b:Bool,e=.returned (.bool b)∧(b=true↔P)
def Iffb (b:Bool) (P:Prop):Prop:=b=true↔P
def cShip (s:Ship):List Value:=[.int .i64 s.st,.int .i64 s.wd,.int .i64 s.lg,.int .i64 s.cl,.int .i64 s.si,.int .i64 s.qu]
def cKp (k:Kp):List Value:=[.int .i64 k.wd,.int .i64 k.fr,.int .i64 k.to]
def cInt (n:Int):List Value:=[.int .i64 n]
theorem jcg:EncOk 6 cShip:=⟨fun _=>rfl,fun x v hv=>by simp [cShip] at hv;rcases hv with rfl|rfl|rfl|rfl|rfl|rfl <;> rfl⟩
theorem encKp:EncOk 3 cKp:=⟨fun _=>rfl,fun x v hv=>by simp [cKp] at hv;rcases hv with rfl|rfl|rfl <;> rfl⟩
theorem jh0:EncOk 1 cInt:=⟨fun _=>rfl,fun x v hv=>by simp [cInt] at hv;rcases hv with rfl;rfl⟩
theorem RdK.ship {w:World} {b off:Nat} {l:List Ship} (h:RdK cShip w b off l) {j:Nat} {s:Ship} (hs:l[j]?=some s) :
  w.cell? ⟨b,off+j*6,none⟩=some (.int .i64 s.st)∧w.cell? ⟨b,off+j*6+1,none⟩=some (.int .i64 s.wd)∧w.cell? ⟨b,off+j*6+2,none⟩=some (.int .i64 s.lg) ∧
  w.cell? ⟨b,off+j*6+3,none⟩=some (.int .i64 s.cl)∧w.cell? ⟨b,off+j*6+4,none⟩=some (.int .i64 s.si)∧w.cell? ⟨b,off+j*6+5,none⟩=some (.int .i64 s.qu) :=
 ⟨h.at jcg hs (i:=0) rfl,h.at jcg hs (i:=1) rfl,h.at jcg hs (i:=2) rfl,h.at jcg hs (i:=3) rfl,h.at jcg hs (i:=4) rfl,h.at jcg hs (i:=5) rfl⟩
theorem RdK.int {w:World} {b off:Nat} {l:List Int} (h:RdK cInt w b off l) {j:Nat} {n:Int} (hs:l[j]?=some n):w.cell? ⟨b,off+j,none⟩=some (.int .i64 n):=by
 have:=h.at jh0 hs (i:=0) rfl
 simpa using this
def jaa (p:Pt) (vs:Value):List Value:=.int .i64 p.now::vs::(jae cKp p.kept++[.int .i64 p.shut,.int .i64 p.next])
def PtV (w:World) (v:Value) (p:Pt):Prop:=∃ vs,v=.agg (jaa p vs).toArray∧SlK cShip w vs p.ships∧p.kept.length=4∧p.ships.length≤2932031007317
theorem PtV.below {w w':World} {v:Value} {p:Pt} (h:PtV w v p) (hb:Below w.heap.size w w'):PtV w' v p:=by
 obtain⟨vs,h1,h2,h3⟩:=h
 exact⟨vs,h1,h2.below hb,h3⟩
theorem jav (p:Pt) (vs:Value) (h:p.kept.length=4):(jaa p vs).length=16:=by
 unfold jaa
 simp [ja6 encKp,h]
def PBox (w:World) (g:Nat) (p:Pt) (vs:Value):Prop:=p.kept.length=4∧w.heap[g]?=some (.cells (jaa p vs).toArray 41 (0,0))
theorem PBox.new (w:World) (p:Pt) (vs:Value) (h:p.kept.length=4):PBox (w.alloc (.cells (jaa p vs).toArray 41)) w.heap.size p vs:=⟨h,heap_alloc_new w _⟩
theorem PBox.lt {w:World} {g:Nat} {p:Pt} {vs:Value} (h:PBox w g p vs):g < w.heap.size:=(Array.getElem?_eq_some_iff.1 h.2).1
theorem PBox.later {w w':World} {B g:Nat} {p:Pt} {vs:Value} (h:PBox w g p vs) (hb:Below B w w') (hB:g < B):PBox w' g p vs:=⟨h.1,by rw [hb.block g hB];exact h.2⟩
theorem PBox.cells {w:World} {g:Nat} {p:Pt} {vs:Value} (h:PBox w g p vs) :
  w.cell? ⟨g,0,none⟩=some (.int .i64 p.now)∧w.cell? ⟨g,1,none⟩=some vs∧w.cell? ⟨g,14,none⟩=some (.int .i64 p.shut)∧w.cell? ⟨g,15,none⟩=some (.int .i64 p.next):=by
 have e:∀ j,w.cell? ⟨g,j,none⟩=(jaa p vs)[j]?:=fun j=>by rw [cell_of_row _ _ _ _ _ _ h.2,List.getElem?_toArray]
 have hl:(jae cKp p.kept).length=12:=by rw [ja6 encKp,h.1]
 refine⟨by rw [e];rfl,by rw [e];rfl,?_,?_⟩
 ·rw [e]
  show(jae cKp p.kept++[.int .i64 p.shut,.int .i64 p.next])[12]?=_
  rw [List.getElem?_append_right (by omega),hl];rfl
 ·rw [e]
  show(jae cKp p.kept++[.int .i64 p.shut,.int .i64 p.next])[13]?=_
  rw [List.getElem?_append_right (by omega),hl];rfl
theorem PBox.keeps {w:World} {g:Nat} {p:Pt} {vs:Value} (h:PBox w g p vs):w.rangeAt g 2 (jae cKp p.kept):=fun j v hv=>by
 rw [cell_of_row _ _ _ _ _ _ h.2,List.getElem?_toArray]
 have hj:=(List.getElem?_eq_some_iff.1 hv).1
 show(.int .i64 p.now::vs::(jae cKp p.kept++[.int .i64 p.shut,.int .i64 p.next]))[2+j]?=some v
 rw [show 2+j=j+1+1 by omega,List.getElem?_cons_succ,List.getElem?_cons_succ,List.getElem?_append_left hj]
 exact hv
theorem PBox.whole {w:World} {g:Nat} {p:Pt} {vs:Value} (h:PBox w g p vs):w.rangeAt g 0 (jaa p vs):=fun j v hv=>by
 rw [cell_of_row _ _ _ _ _ _ h.2,List.getElem?_toArray,Nat.zero_add]
 exact hv
theorem jbg (p:Pt) (vs:Value) (h:p.kept.length=4):(Tryz.prog.info? 41).map (·.size)=some (jaa p vs).length:=by rw [jav p vs h];kernel_rfl
def inR (n lo hi:Int):Bool:=decide (lo≤n∧n≤hi)
theorem jag (n lo hi:Int) (w:World) :
  Calls Tryz.prog 31 #[.int .i64 n,.int .i64 lo,.int .i64 hi] w fun e w'=>e=.returned (.bool (inR n lo hi))∧w'=w:=by
 unfold inR
 by_cases h1:lo≤n <;> by_cases h2:n≤hi
 all_goals
  go_enter Tryz.func31,Tryz.ntmps31
  go_wp2
  go_ret
  exact⟨by simp [h1,h2],rfl⟩
theorem jba {n lo hi:Int} (h:inR n lo hi=true):lo≤n∧n≤hi:=of_decide_eq_true h
theorem jb0 {n lo hi:Int} (h:inR n lo hi=false):¬ (lo≤n∧n≤hi):=of_decide_eq_false h
theorem jbz (n lo hi:Int):inR n lo hi=true∨inR n lo hi=false:=by cases inR n lo hi <;> simp
theorem jb5 (lo hi n:Int) (w:World) :
  Calls Tryz.prog 107 #[.int .i64 lo,.int .i64 hi,.int .i64 n] w fun e w'=>e=.returned (.bool (inR n lo hi))∧w'=w:=by
 unfold inR
 by_cases h1:lo≤n <;> by_cases h2:n≤hi
 all_goals
  go_enter Tryz.func107,Tryz.ntmps107
  go_wp2
  go_ret
  exact⟨by simp [h1,h2],rfl⟩
theorem jhl (n:Int) (w:World):Calls Tryz.prog 84 #[.int .i64 n] w fun e w'=>e=.returned (.bool (inR n 0 299))∧w'=w:=by
 go_enter Tryz.func84,Tryz.ntmps84
 go_wp2_with (go_at_call 107;refine(jb5 _ _ _ _).mono ?_;rintro e w' ⟨rfl,rfl⟩)
 go_ret
 exact⟨rfl,rfl⟩
theorem jbm (n:Int) (w:World):Calls Tryz.prog 145 #[.int .i64 n] w fun e w'=>e=.returned (.bool (inR n 1 16))∧w'=w:=by
 go_enter Tryz.func145,Tryz.ntmps145
 go_wp2_with (go_at_call 107;refine(jb5 _ _ _ _).mono ?_;rintro e w' ⟨rfl,rfl⟩)
 go_ret
 exact⟨rfl,rfl⟩
theorem jbr (n:Int) (w:World):Calls Tryz.prog 146 #[.int .i64 n] w fun e w'=>e=.returned (.bool (inR n 1 300))∧w'=w:=by
 go_enter Tryz.func146,Tryz.ntmps146
 go_wp2_with (go_at_call 107;refine(jb5 _ _ _ _).mono ?_;rintro e w' ⟨rfl,rfl⟩)
 go_ret
 exact⟨rfl,rfl⟩
theorem jbs (n:Int) (w:World):Calls Tryz.prog 147 #[.int .i64 n] w fun e w'=>e=.returned (.bool (inR n 0 3))∧w'=w:=by
 go_enter Tryz.func147,Tryz.ntmps147
 go_wp2_with (go_at_call 107;refine(jb5 _ _ _ _).mono ?_;rintro e w' ⟨rfl,rfl⟩)
 go_ret
 exact⟨rfl,rfl⟩
def stayB (fr tu:Int):Bool:=decide (0≤fr∧fr < tu∧tu≤300)
theorem jgs {fr tu:Int}:stayB fr tu=true↔0≤fr∧fr < tu∧tu≤300:=by simp [stayB]
theorem jft (fr tu:Int) (w:World):Calls Tryz.prog 150 #[.int .i64 fr,.int .i64 tu] w fun e w'=>e=.returned (.bool (stayB fr tu))∧w'=w:=by
 unfold stayB
 by_cases h1:0≤fr <;> by_cases h2:fr < tu <;> by_cases h3:tu≤300
 all_goals
  go_enter Tryz.func150,Tryz.ntmps150
  go_wp2
  go_ret
  exact⟨by simp [h1,h2,h3],rfl⟩
def jg5 (si lg now:Int):Bool:=decide (si+lg≤300∧now < si+lg)
theorem je1 (si lg now:Int) (w:World) (h0:0≤si) (h1:1≤lg) (h2:lg≤300):Calls Tryz.prog 176 #[.int .i64 si,.int .i64 lg,.int .i64 now] w fun e w'=>e=.returned (.bool (jg5 si lg now))∧w'=w:=by
 unfold jg5
 by_cases a:si≤300 - lg
 ·by_cases b:now < si+lg
  all_goals
   go_enter Tryz.func176,Tryz.ntmps176
   go_wp2
   go_ret
   exact⟨by simp [b,show si+lg≤300 by omega],rfl⟩
 ·go_enter Tryz.func176,Tryz.ntmps176
  go_wp2
  go_ret
  exact⟨by simp [show ¬ si+lg≤300 by omega],rfl⟩
theorem jdi {s:Ship} {now:Int} (h:¬ jce s now):jbc s now=false:=by
 cases e:jbc s now
 ·rfl
 ·exact absurd (jcs.1 e) h
theorem jm6 (s:Ship) (now:Int) (w:World) :
  Calls Tryz.prog 195 #[.agg (cShip s).toArray,.int .i64 now] w fun e w'=>e=.returned (.bool (jbc s now))∧Below w.heap.size w w':=by
 obtain⟨st,wd,lg,cl,si,qu⟩:=s
 simp only [cShip]
 have BA:Hid (Below w.heap.size w (w.alloc (.cells #[.int .i64 st,.int .i64 wd,.int .i64 lg,.int .i64 cl,.int .i64 si,.int .i64 qu] 46))):=(Below.refl _ _).alloc (Nat.le_refl _) _
 rcases jbz wd 1 16 with b1|b1
 case inr =>
  have hB:Hid (jbc ⟨st,wd,lg,cl,si,qu⟩ now=false):=jdi (by exact fun h=>jb0 b1 h.wd)
  go_enter Tryz.func195,Tryz.ntmps195
  go_wp2_with (first|(go_at_call 145;refine(jbm _ _).mono ?_;rintro e w' ⟨rfl,rfl⟩)|(go_at_call 146;refine(jbr _ _).mono ?_;rintro e w' ⟨rfl,rfl⟩)|(go_at_call 147;refine(jbs _ _).mono ?_;rintro e w' ⟨rfl,rfl⟩)|(go_at_call 107;refine(jb5 _ _ _ _).mono ?_;rintro e w' ⟨rfl,rfl⟩)|(go_at_call 176;refine(je1 _ _ _ _ (by omega) (by omega) (by omega)).mono ?_;rintro e w' ⟨rfl,rfl⟩))
  go_ret
  exact⟨by rw [hB.out];rfl,BA.out⟩
 rcases jbz lg 1 300 with b2|b2
 case inr =>
  have hB:Hid (jbc ⟨st,wd,lg,cl,si,qu⟩ now=false):=jdi (by exact fun h=>jb0 b2 h.lg)
  go_enter Tryz.func195,Tryz.ntmps195
  go_wp2_with (first|(go_at_call 145;refine(jbm _ _).mono ?_;rintro e w' ⟨rfl,rfl⟩)|(go_at_call 146;refine(jbr _ _).mono ?_;rintro e w' ⟨rfl,rfl⟩)|(go_at_call 147;refine(jbs _ _).mono ?_;rintro e w' ⟨rfl,rfl⟩)|(go_at_call 107;refine(jb5 _ _ _ _).mono ?_;rintro e w' ⟨rfl,rfl⟩)|(go_at_call 176;refine(je1 _ _ _ _ (by omega) (by omega) (by omega)).mono ?_;rintro e w' ⟨rfl,rfl⟩))
  go_ret
  exact⟨by rw [hB.out];rfl,BA.out⟩
 rcases jbz cl 0 3 with b3|b3
 case inr =>
  have hB:Hid (jbc ⟨st,wd,lg,cl,si,qu⟩ now=false):=jdi (by exact fun h=>jb0 b3 h.cl)
  go_enter Tryz.func195,Tryz.ntmps195
  go_wp2_with (first|(go_at_call 145;refine(jbm _ _).mono ?_;rintro e w' ⟨rfl,rfl⟩)|(go_at_call 146;refine(jbr _ _).mono ?_;rintro e w' ⟨rfl,rfl⟩)|(go_at_call 147;refine(jbs _ _).mono ?_;rintro e w' ⟨rfl,rfl⟩)|(go_at_call 107;refine(jb5 _ _ _ _).mono ?_;rintro e w' ⟨rfl,rfl⟩)|(go_at_call 176;refine(je1 _ _ _ _ (by omega) (by omega) (by omega)).mono ?_;rintro e w' ⟨rfl,rfl⟩))
  go_ret
  exact⟨by rw [hB.out];rfl,BA.out⟩
 by_cases b4:0≤qu
 case neg =>
  have hB:Hid (jbc ⟨st,wd,lg,cl,si,qu⟩ now=false):=jdi (by exact fun h=>b4 h.qu)
  have b4':qu < 0:=by omega
  go_enter Tryz.func195,Tryz.ntmps195
  go_wp2_with (first|(go_at_call 145;refine(jbm _ _).mono ?_;rintro e w' ⟨rfl,rfl⟩)|(go_at_call 146;refine(jbr _ _).mono ?_;rintro e w' ⟨rfl,rfl⟩)|(go_at_call 147;refine(jbs _ _).mono ?_;rintro e w' ⟨rfl,rfl⟩)|(go_at_call 107;refine(jb5 _ _ _ _).mono ?_;rintro e w' ⟨rfl,rfl⟩)|(go_at_call 176;refine(je1 _ _ _ _ (by omega) (by omega) (by omega)).mono ?_;rintro e w' ⟨rfl,rfl⟩))
  go_ret
  exact⟨by rw [hB.out];rfl,BA.out⟩
 have b4':¬ qu < 0:=by omega
 have l1:1≤lg:=(jba b2).1
 have l2:lg≤300:=(jba b2).2
 by_cases s3:st=3
 ·subst s3
  rcases jbz si 0 now with b5|b5
  case inr =>
   have hB:Hid (jbc ⟨3,wd,lg,cl,si,qu⟩ now=false):=jdi (by exact fun h=>jb0 b5 ⟨(h.lies rfl).1,(h.lies rfl).2.1⟩)
   clear l1 l2
   go_enter Tryz.func195,Tryz.ntmps195
   go_wp2_with (first|(go_at_call 145;refine(jbm _ _).mono ?_;rintro e w' ⟨rfl,rfl⟩)|(go_at_call 146;refine(jbr _ _).mono ?_;rintro e w' ⟨rfl,rfl⟩)|(go_at_call 147;refine(jbs _ _).mono ?_;rintro e w' ⟨rfl,rfl⟩)|(go_at_call 107;refine(jb5 _ _ _ _).mono ?_;rintro e w' ⟨rfl,rfl⟩)|(go_at_call 176;refine(je1 _ _ _ _ (by omega) (by omega) (by omega)).mono ?_;rintro e w' ⟨rfl,rfl⟩))
   go_ret
   exact⟨by rw [hB.out];rfl,BA.out⟩
  have l3:0≤si:=(jba b5).1
  have hB:Hid (jbc ⟨3,wd,lg,cl,si,qu⟩ now=jg5 si lg now):=by
   have c1:=jba b1;have c2:=jba b2;have c3:=jba b3;have c5:=jba b5
   show _=_
   unfold jbc jg5
   rw [decide_eq_decide]
   dsimp only
   omega
  go_enter Tryz.func195,Tryz.ntmps195
  go_wp2_with (first|(go_at_call 145;refine(jbm _ _).mono ?_;rintro e w' ⟨rfl,rfl⟩)|(go_at_call 146;refine(jbr _ _).mono ?_;rintro e w' ⟨rfl,rfl⟩)|(go_at_call 147;refine(jbs _ _).mono ?_;rintro e w' ⟨rfl,rfl⟩)|(go_at_call 107;refine(jb5 _ _ _ _).mono ?_;rintro e w' ⟨rfl,rfl⟩)|(go_at_call 176;refine(je1 _ _ _ _ (by omega) (by omega) (by omega)).mono ?_;rintro e w' ⟨rfl,rfl⟩))
  go_ret
  exact⟨by rw [hB.out];rfl,BA.out⟩
 ·by_cases s0:st=1∨st=2∨st=4
  ·have hB:Hid (jbc ⟨st,wd,lg,cl,si,qu⟩ now=decide (si=0)):=by
    have c1:=jba b1;have c2:=jba b2;have c3:=jba b3
    show _=_
    unfold jbc
    rw [decide_eq_decide]
    dsimp only
    omega
   clear l1 l2
   rcases s0 with rfl|rfl|rfl
   all_goals
    by_cases z:si=0
    ·subst z
     have hB2:Hid (_=true):=hB.out.trans (decide_eq_true rfl)
     clear hB
     go_enter Tryz.func195,Tryz.ntmps195
     go_wp2_with (first|(go_at_call 145;refine(jbm _ _).mono ?_;rintro e w' ⟨rfl,rfl⟩)|(go_at_call 146;refine(jbr _ _).mono ?_;rintro e w' ⟨rfl,rfl⟩)|(go_at_call 147;refine(jbs _ _).mono ?_;rintro e w' ⟨rfl,rfl⟩)|(go_at_call 107;refine(jb5 _ _ _ _).mono ?_;rintro e w' ⟨rfl,rfl⟩)|(go_at_call 176;refine(je1 _ _ _ _ (by omega) (by omega) (by omega)).mono ?_;rintro e w' ⟨rfl,rfl⟩))
     go_ret
     exact⟨by rw [hB2.out];first|rfl|simp,BA.out⟩
    ·have hB2:Hid (_=false):=hB.out.trans (decide_eq_false z)
     clear hB
     go_enter Tryz.func195,Tryz.ntmps195
     go_wp2_with (first|(go_at_call 145;refine(jbm _ _).mono ?_;rintro e w' ⟨rfl,rfl⟩)|(go_at_call 146;refine(jbr _ _).mono ?_;rintro e w' ⟨rfl,rfl⟩)|(go_at_call 147;refine(jbs _ _).mono ?_;rintro e w' ⟨rfl,rfl⟩)|(go_at_call 107;refine(jb5 _ _ _ _).mono ?_;rintro e w' ⟨rfl,rfl⟩)|(go_at_call 176;refine(je1 _ _ _ _ (by omega) (by omega) (by omega)).mono ?_;rintro e w' ⟨rfl,rfl⟩))
     go_ret
     exact⟨by rw [hB2.out];simp [z],BA.out⟩
  ·have hB:Hid (jbc ⟨st,wd,lg,cl,si,qu⟩ now=false):=jdi (by intro h;have:=h.st;simp only at this;omega)
   have z1:¬ st=1:=by omega
   have z2:¬ st=2:=by omega
   have z4:¬ st=4:=by omega
   clear s0 l1 l2
   go_enter Tryz.func195,Tryz.ntmps195
   go_wp2_with (first|(go_at_call 145;refine(jbm _ _).mono ?_;rintro e w' ⟨rfl,rfl⟩)|(go_at_call 146;refine(jbr _ _).mono ?_;rintro e w' ⟨rfl,rfl⟩)|(go_at_call 147;refine(jbs _ _).mono ?_;rintro e w' ⟨rfl,rfl⟩)|(go_at_call 107;refine(jb5 _ _ _ _).mono ?_;rintro e w' ⟨rfl,rfl⟩)|(go_at_call 176;refine(je1 _ _ _ _ (by omega) (by omega) (by omega)).mono ?_;rintro e w' ⟨rfl,rfl⟩))
   go_ret
   exact⟨by rw [hB.out];rfl,BA.out⟩
theorem RdK.kp {w:World} {b off:Nat} {l:List Kp} (h:RdK cKp w b off l) {j:Nat} {k:Kp} (hs:l[j]?=some k) :
  w.cell? ⟨b,off+j*3,none⟩=some (.int .i64 k.wd)∧w.cell? ⟨b,off+j*3+1,none⟩=some (.int .i64 k.fr)∧w.cell? ⟨b,off+j*3+2,none⟩=some (.int .i64 k.to) :=
 ⟨h.at encKp hs (i:=0) rfl,h.at encKp hs (i:=1) rfl,h.at encKp hs (i:=2) rfl⟩
def isNo (k:Kp):Bool:=decide (k.wd=0∧k.fr=0∧k.to=0)
theorem jtj (k:Kp) (w:World):(binOp .neq 38 (.agg #[.int .i64 k.wd,.int .i64 k.fr,.int .i64 k.to]) (.agg #[.int .i64 0,.int .i64 0,.int .i64 0])).run Tryz.prog w=.ok (.bool (!isNo k)) w:=by
 have u3:=Tryz.underlying3
 have a3:=Tryz.isAgg3
 have z3:=Tryz.sizeOf3
 have hS:Tryz.prog.underlying 38=some (.struct (Tryz.prog.fieldsOf 38)):=by kernel_rfl
 have hp:Tryz.prog.stoodInHeld 38=false:=by kernel_rfl
 unfold isNo
 rw [run_neq_struct,show(10000:Nat)=9999+1 from rfl,run_equalIn_agg w 9999 38 _ _ hS hp]
 simp only [Program.fieldsOf,Tryz.underlying38]
 go_simp
 by_cases h1:k.wd=0 <;> by_cases h2:k.fr=0 <;> by_cases h3:k.to=0 <;> simp [h1,h2,h3]
def jh7 (l:List Kp) (j:Nat):Prop:=∀ (i:Nat) (k:Kp),i < j→l[i]?=some k→jb2 k
theorem jh7.succ {l:List Kp} {j:Nat} {k:Kp} (h:jh7 l j) (hk:l[j]?=some k) (hi:jb2 k):jh7 l (j+1):=fun i k' hi' hk'=>by
 by_cases e:i=j
 ·subst e;rw [hk] at hk';injection hk' with hk';subst hk';exact hi
 ·exact h i k' (by omega) hk'
theorem jh7.all {l:List Kp} (h:jh7 l l.length):∀ k∈l,jb2 k:=fun k hk=>by
 obtain⟨i,hi,rfl⟩:=List.mem_iff_getElem.1 hk
 exact h i _ hi (List.getElem?_eq_getElem hi)
theorem jm7 (v:Value) (l:List Kp) (w:World) (hv:SlK cKp w v l) (hn:l.length≤1000) :
  Calls Tryz.prog 175 #[v] w fun e w'=>IsB e (∀ k∈l,jb2 k)∧Below w.heap.size w w':=by
 obtain⟨a,cap,rfl,hcap,hrd⟩:=hv
 have HR:Hid (l=[]∨∃ b off,a=some ⟨b,off,none⟩∧RdK cKp w b off l):=hrd
 have B0:Hid (Below w.heap.size w w):=Below.refl _ _
 clear hrd
 go_enter Tryz.func175,Tryz.ntmps175
 go_wp2_with fail
 go_loopg [7] l.length (fun kx s7 wr=>∃ (j:Nat),s7=.int .i64 j∧j≤l.length∧l.length - j≤kx∧Hid (Below w.heap.size w wr)∧Hid (jh7 l j))
 case atStart=>exact⟨0,rfl,Nat.zero_le _,by omega,B0,fun i k hi=>absurd hi (Nat.not_lt_zero _)⟩
 case round =>
  clear B0
  obtain⟨j,rfl,hj,hg,S1,I⟩:=hrel
  by_cases hjl:j < l.length
  ·obtain⟨kk,hkk⟩:∃ k,l[j]?=some k:=⟨l[j],List.getElem?_eq_getElem hjl⟩
   obtain⟨bb,off,rfl,hrd⟩:∃ b off,a=some ⟨b,off,none⟩∧RdK cKp w b off l:=by
    rcases HR.out with h|h
    ·rw [h] at hjl;simp at hjl
    ·exact h
   have heq:=fun W=>jtj kk W
   obtain⟨c0,c1,c2⟩:=(hrd.below S1.out).kp hkk
   obtain⟨kw,kf,kt⟩:=kk
   simp only at *
   have HK:Hid (l[j]?=some ⟨kw,kf,kt⟩):=hkk
   clear hkk hrd
   have hj3:(j:Int) < (l.length:Int):=by omega
   have hbw:Below wr.heap.size wr (wr.alloc (.cells #[.int .i64 kw,.int .i64 kf,.int .i64 kt] 38)):=(Below.refl _ wr).alloc (Nat.le_refl _) _
   have S4:Hid (Below w.heap.size w (wr.alloc (.cells #[.int .i64 kw,.int .i64 kf,.int .i64 kt] 38))):=S1.out.trans (hbw.mono S1.out.size)
   have N4:Hid ((wr.alloc (.cells #[.int .i64 kw,.int .i64 kf,.int .i64 kt] 38)).heap[wr.heap.size]?=some (.cells #[.int .i64 kw,.int .i64 kf,.int .i64 kt] 38)):=heap_alloc_new wr _
   clear hbw S1
   go_upto_region 4 with fail
   clear c0 c1 c2
   generalize wr.alloc (.cells #[.int .i64 kw,.int .i64 kf,.int .i64 kt] 38)=WB at *
   generalize wr.heap.size=gs at *
   have n0:∀ i u,(cKp ⟨kw,kf,kt⟩)[i]?=some u→WB.cell? ⟨gs,i,none⟩=some u:=fun i u hu=>by rw [cell_of_row _ _ _ _ _ _ N4.out];simpa [cKp] using hu
   have k0:=n0 0 _ rfl;have k1:=n0 1 _ rfl;have k2:=n0 2 _ rfl
   clear n0 N4
   cases z:isNo ⟨kw,kf,kt⟩
   case true =>
    have I2:Hid (jh7 l (j+1)):=I.out.succ HK.out (Or.inl (of_decide_eq_true z))
    rw [z] at heq
    clear z
    go_wp2_with (first|(go_at_call 145;refine(jbm _ _).mono ?_;rintro e w' ⟨rfl,rfl⟩)|(go_at_call 150;refine(jft _ _ _).mono ?_;rintro e w' ⟨rfl,rfl⟩))
    go_roundg (l.length - (j+1))
    case measure=>omega
    case rel=>exact⟨j+1,by go_num,by omega,Nat.le_refl _,S4,I2⟩
   case false =>
    have HZ:Hid (¬ (kw=0∧kf=0∧kt=0)):=of_decide_eq_false z
    rw [z] at heq
    clear z
    rcases jbz kw 1 16 with b1|b1
    case inr =>
     have NK:Hid (¬ ∀ k∈l,jb2 k):=fun h=>by
      rcases h _ (List.mem_of_getElem? HK.out) with h|h
      ·exact HZ.out h
      ·exact jb0 b1 h.1
     go_wp2_with (first|(go_at_call 145;refine(jbm _ _).mono ?_;rintro e w' ⟨rfl,rfl⟩)|(go_at_call 150;refine(jft _ _ _).mono ?_;rintro e w' ⟨rfl,rfl⟩))
     go_ret
     exact⟨⟨false,rfl,⟨fun h=>(by cases h),fun h=>absurd h NK.out⟩⟩,S4.out⟩
    cases b2:stayB kf kt
    case false =>
     have NK:Hid (¬ ∀ k∈l,jb2 k):=fun h=>by
      rcases h _ (List.mem_of_getElem? HK.out) with h|h
      ·exact HZ.out h
      ·have:=jgs.2 (⟨h.2.1.1,h.2.2.1,h.2.2.2⟩:0≤kf∧kf < kt∧kt≤300);rw [b2] at this;cases this
     go_wp2_with (first|(go_at_call 145;refine(jbm _ _).mono ?_;rintro e w' ⟨rfl,rfl⟩)|(go_at_call 150;refine(jft _ _ _).mono ?_;rintro e w' ⟨rfl,rfl⟩))
     go_ret
     exact⟨⟨false,rfl,⟨fun h=>(by cases h),fun h=>absurd h NK.out⟩⟩,S4.out⟩
    case true =>
     have I2:Hid (jh7 l (j+1)):=I.out.succ HK.out (Or.inr (by have:=jgs.1 b2;exact⟨jba b1,⟨this.1,by simp only;omega⟩,this.2.1,this.2.2⟩))
     go_wp2_with (first|(go_at_call 145;refine(jbm _ _).mono ?_;rintro e w' ⟨rfl,rfl⟩)|(go_at_call 150;refine(jft _ _ _).mono ?_;rintro e w' ⟨rfl,rfl⟩))
     go_roundg (l.length - (j+1))
     case measure=>omega
     case rel=>exact⟨j+1,by go_num,by omega,Nat.le_refl _,S4,I2⟩
  ·have hje:j=l.length:=by omega
   have I4:Hid (∀ k∈l,jb2 k):=by have h:=I.out;rw [hje] at h;exact h.all
   clear hje I
   have hj3:¬ ((j:Int) < (l.length:Int)):=by omega
   go_wp2
   go_ret
   exact⟨⟨true,rfl,⟨fun _=>I4.out,fun _=>rfl⟩⟩,S1.out⟩
def ic (f:List Int):List Value:=f.map fun n=>.int .i64 n
theorem jd3 (f:List Int):(ic f).length=f.length:=by simp [ic]
theorem jul (f:List Int):∀ v∈ic f,v.oneCell'=true:=by
 intro v hv
 simp only [ic,List.mem_map] at hv
 obtain⟨n,_,rfl⟩:=hv
 rfl
theorem jvi (f:List Int) (k:Nat) (hk:k < f.length):(ic f)[k]?=some (.int .i64 (f.getD k 0)):=by simp [ic,hk]
def zero300:List Int:=List.replicate 300 0
def Arr (w:World) (g:Nat) (f:List Int):Prop:=f.length=300∧w.heap[g]?=some (.cells (ic f).toArray 76 (0,0))
theorem Arr.lt {w:World} {g:Nat} {f:List Int} (h:Arr w g f):g < w.heap.size:=(Array.getElem?_eq_some_iff.1 h.2).1
theorem Arr.cell {w:World} {g:Nat} {f:List Int} (h:Arr w g f) (k:Nat) (hk:k < 300):w.cell? ⟨g,k,none⟩=some (.int .i64 (f.getD k 0)):=by
 rw [cell_of_row _ _ _ _ _ _ h.2,List.getElem?_toArray]
 exact jvi f k (by rw [h.1];exact hk)
theorem Arr.frozen {w:World} {g:Nat} {f:List Int} (h:Arr w g f) (k:Nat):w.frozen? ⟨g,k,none⟩=false:=by simp [World.frozen?,h.2]
theorem Arr.later {w w':World} {B g:Nat} {f:List Int} (h:Arr w g f) (hb:Below B w w') (hB:g < B):Arr w' g f:=⟨h.1,by rw [hb.block g hB];exact h.2⟩
theorem Arr.set {w:World} {g:Nat} {f:List Int} (h:Arr w g f) (k:Nat) (y:Int):Arr (w.setCell ⟨g,k,none⟩ (.int .i64 y)) g (f.set k y):=by
 refine⟨by rw [List.length_set];exact h.1,?_⟩
 rw [setCell_eq_setRow w g k _ _ _ _ h.2,setRow_heap w g _ _ _ _ h.2]
 congr 2
 simp [ic,List.map_set]
theorem Arr.other {w:World} {g g':Nat} {f:List Int} (h:Arr w g f) (k:Nat) (v:Value) (hne:g≠g'):Arr (w.setCell ⟨g',k,none⟩ v) g f :=
 ⟨h.1,by rw [Below.heap_setCell _ _ _ _ hne];exact h.2⟩
theorem Arr.range {w:World} {g:Nat} {f:List Int} (h:Arr w g f):w.rangeAt g 0 (ic f):=fun j v hj=>by
 rw [Nat.zero_add,cell_of_row _ _ _ _ _ _ h.2,List.getElem?_toArray];exact hj
theorem jgv:(Tryz.prog.info? 76).map (·.size)=some 300:=by kernel_rfl
theorem jss:(Tryz.prog.info? 76).map (fun i=>(i.zero,i.size))=some (some (.agg (ic zero300).toArray),300):=by kernel_rfl
theorem jmc (w:World):(zeroValue 76).run Tryz.prog w=.ok (.agg (ic zero300).toArray) w:=by
 have h:=jss
 cases hq:Tryz.prog.info? 76 with
 | none=>rw [hq] at h;cases h
 | some i =>
  rw [hq] at h
  simp at h
  simp [zeroValue,typeInfo,hq,h.1]
theorem ja2 {w:World} {ops:Array Oper} {rest:List Oper} {o:Oper} {a:Act} {Q:Exit→Act→World→Prop} (hgd:o.guard=none) (ho:o.op=.alloc 76) (d:Nat) (hd:o.dst=some d)
  (h:∀ w',Hid (Arr w' w.heap.size zero300∧Below w.heap.size w w')→w'.heap.size=w.heap.size+1→wpList Tryz.prog ops Q rest (a.put o.dst (.pointer (some ⟨w.heap.size,0,none⟩))) w'):wpList Tryz.prog ops Q (o::rest) a w:=by
 refine wpList_plain hgd fun K hK=>?_
 have hz:=jmc w
 unfold Oper.wp execOp
 simp only [ho]
 simp [Instr.alloc,hz,newVar,newRow,Result.andThen,Value.cells]
 refine hK _ _ (h _ ⟨⟨List.length_replicate,?_⟩,(Below.refl _ w).alloc (Nat.le_refl _) _⟩ (by simp))
 exact heap_alloc_new w _
theorem jco {w:World} {ops:Array Oper} {rest:List Oper} {o:Oper} {a:Act} {Q:Exit→Act→World→Prop} (hgd:o.guard=none) (x:Operand) (ho:o.op=.load 76 x) (g:Nat) (f:List Int)
  (hx:a.eval x=.pointer (some ⟨g,0,none⟩)) (hA:Arr w g f) (h:wpList Tryz.prog ops Q rest (a.put o.dst (.agg (ic f).toArray)) w):wpList Tryz.prog ops Q (o::rest) a w :=
 wpList_load_mid hgd 76 x ho g 0 hx (ic f) _ hA.range Tryz.underlying76 rfl (by rw [jgv,jd3,hA.1]) h
theorem ja1 {w:World} {ops:Array Oper} {rest:List Oper} {o:Oper} {a:Act} {Q:Exit→Act→World→Prop} (hgd:o.guard=none) (x y:Operand) (ho:o.op=.store 76 x y) (g:Nat) (old f:List Int)
  (hx:a.eval x=.pointer (some ⟨g,0,none⟩)) (hy:a.eval y=.agg (ic f).toArray) (hA:Arr w g old) (hf:f.length=300)
  (h:∀ w',Hid (Arr w' g f∧(∀ k,k≠g→w'.heap[k]?=w.heap[k]?)∧∀ B,B≤g→Below B w w')→w'.heap.size=w.heap.size→wpList Tryz.prog ops Q rest (a.put o.dst undef) w'):wpList Tryz.prog ops Q (o::rest) a w:=by
 refine wpList_plain hgd fun K hK=>?_
 have hst:=run_storeVar_row (P:=Tryz.prog) w g _ 76 (ic old).toArray (ic f).toArray hA.2 (by rw [jgv];simp [jd3,hf]) (by simp [jd3,hf,hA.1]) (all_oneCell_toArray (jul f))
 unfold Oper.wp execOp
 simp only [ho,hx,hy,Instr.storeAt,Instr.sureAddr,Sem.run_bind,Sem.run_pure,Result.andThen_ok,hst]
 refine hK _ _ (h _ ⟨⟨hf,setRow_heap w g _ _ _ _ hA.2⟩,fun k hk=>setRow_other w g k _ (by omega),fun B hB=>below_setRow (Below.refl B w) hB _⟩ (by simp [World.setRow]))
theorem jgk {fn:Func} {p u:Tmp} (h:fn.results=#[.cell p 76,.tmp u]) (tmps:Array Value) (w:World) (g:Nat) (f:List Int) (hp:tmps.getD p undef=.pointer (some ⟨g,0,none⟩)) (hA:Arr w g f) :
  (results fn tmps).run Tryz.prog w=.ok (.tuple #[.agg (ic f).toArray,tmps.getD u undef]) w:=by
 rw [results_cell_tmp h,hp]
 have hl:=run_loadVar_mid (P:=Tryz.prog) w g 0 76 (ic f) _ hA.range Tryz.underlying76 rfl (by rw [jgv,jd3,hA.1])
 simp [asAddr,hl]
def noKp:Kp:=⟨0,0,0⟩
def jaf:Pt:=⟨0,[],[noKp,noKp,noKp,noKp],0,0⟩
theorem jc7 (p:Pt) (vs:Value) (hv:vs.oneCell'=true):∀ u∈jaa p vs,u.oneCell'=true:=by
 intro u hu
 unfold jaa at hu
 rcases List.mem_cons.1 hu with rfl|hu
 ·rfl
 rcases List.mem_cons.1 hu with rfl|hu
 ·exact hv
 rcases List.mem_append.1 hu with hu|hu
 ·exact jcx encKp _ u hu
 ·simp at hu;rcases hu with rfl|rfl <;> rfl
theorem PBox.frozen {w:World} {g:Nat} {p:Pt} {vs:Value} (h:PBox w g p vs) (k:Nat):w.frozen? ⟨g,k,none⟩=false:=by simp [World.frozen?,h.2]
theorem PBox.other {w:World} {g g':Nat} {p:Pt} {vs:Value} (h:PBox w g p vs) (k:Nat) (v:Value) (hne:g≠g'):PBox (w.setCell ⟨g',k,none⟩ v) g p vs :=
 ⟨h.1,by rw [Below.heap_setCell _ _ _ _ hne];exact h.2⟩
theorem PBox.write {w:World} {g:Nat} {p:Pt} {vs:Value} (h:PBox w g p vs) (k:Nat) (v:Value) (p':Pt) (vs':Value) (h4:p'.kept.length=4) (he:(jaa p vs).set k v=jaa p' vs'):PBox (w.setCell ⟨g,k,none⟩ v) g p' vs':=by
 refine⟨h4,?_⟩
 rw [setCell_eq_setRow w g k _ _ _ _ h.2,setRow_heap w g _ _ _ _ h.2,← he]
 congr 2
 simp
theorem PBox.setNow {w:World} {g:Nat} {p:Pt} {vs:Value} (h:PBox w g p vs) (n:Int):PBox (w.setCell ⟨g,0,none⟩ (.int .i64 n)) g { p with now:=n } vs:=h.write 0 _ _ _ h.1 rfl
theorem PBox.setShips {w:World} {g:Nat} {p:Pt} {vs:Value} (h:PBox w g p vs) (l:List Ship) (vs':Value):PBox (w.setCell ⟨g,1,none⟩ vs') g { p with ships:=l } vs':=h.write 1 _ _ _ h.1 rfl
theorem PBox.setShut {w:World} {g:Nat} {p:Pt} {vs:Value} (h:PBox w g p vs) (n:Int):PBox (w.setCell ⟨g,14,none⟩ (.int .i64 n)) g { p with shut:=n } vs:=by
 have hl:(jae cKp p.kept).length=12:=by rw [ja6 encKp,h.1]
 refine h.write 14 _ _ _ h.1 ?_
 unfold jaa
 rw [show(14:Nat)=12+1+1 from rfl,List.set_cons_succ,List.set_cons_succ,List.set_append_right _ _ (by omega),hl]
 rfl
theorem PBox.setNext {w:World} {g:Nat} {p:Pt} {vs:Value} (h:PBox w g p vs) (n:Int):PBox (w.setCell ⟨g,15,none⟩ (.int .i64 n)) g { p with next:=n } vs:=by
 have hl:(jae cKp p.kept).length=12:=by rw [ja6 encKp,h.1]
 refine h.write 15 _ _ _ h.1 ?_
 unfold jaa
 rw [show(15:Nat)=13+1+1 from rfl,List.set_cons_succ,List.set_cons_succ,List.set_append_right _ _ (by omega),hl]
 rfl
theorem jgu:(Tryz.prog.info? 41).map (·.size)=some 16:=by kernel_rfl
theorem jsr:(Tryz.prog.info? 41).map (fun i=>(i.zero,i.size))=some (some (.agg (jaa jaf (.slice none 0 0)).toArray),16):=by kernel_rfl
theorem jhu (w:World):(zeroValue 41).run Tryz.prog w=.ok (.agg (jaa jaf (.slice none 0 0)).toArray) w:=by
 have h:=jsr
 cases hq:Tryz.prog.info? 41 with
 | none=>rw [hq] at h;cases h
 | some i =>
  rw [hq] at h
  simp at h
  simp [zeroValue,typeInfo,hq,h.1]
theorem jah {w:World} {ops:Array Oper} {rest:List Oper} {o:Oper} {a:Act} {Q:Exit→Act→World→Prop} (hgd:o.guard=none) (ho:o.op=.alloc 41) (d:Nat) (hd:o.dst=some d)
  (h:∀ w',Hid (PBox w' w.heap.size jaf (.slice none 0 0)∧Below w.heap.size w w')→w'.heap.size=w.heap.size+1→wpList Tryz.prog ops Q rest (a.put o.dst (.pointer (some ⟨w.heap.size,0,none⟩))) w'):wpList Tryz.prog ops Q (o::rest) a w:=by
 refine wpList_plain hgd fun K hK=>?_
 have hz:=jhu w
 unfold Oper.wp execOp
 simp only [ho]
 simp [Instr.alloc,hz,newVar,newRow,Result.andThen,Value.cells]
 refine hK _ _ (h _ ⟨⟨rfl,?_⟩,(Below.refl _ w).alloc (Nat.le_refl _) _⟩ (by simp))
 exact heap_alloc_new w _
theorem jac {w:World} {ops:Array Oper} {rest:List Oper} {o:Oper} {a:Act} {Q:Exit→Act→World→Prop} (hgd:o.guard=none) (x:Operand) (ho:o.op=.load 41 x) (g:Nat) (p:Pt) (vs:Value)
  (hx:a.eval x=.pointer (some ⟨g,0,none⟩)) (hA:PBox w g p vs) (h:wpList Tryz.prog ops Q rest (a.put o.dst (.agg (jaa p vs).toArray)) w):wpList Tryz.prog ops Q (o::rest) a w :=
 wpList_load_mid hgd 41 x ho g 0 hx (jaa p vs) _ hA.whole Tryz.underlying41 rfl (jbg p vs hA.1) h
theorem jde {w:World} {ops:Array Oper} {rest:List Oper} {o:Oper} {a:Act} {Q:Exit→Act→World→Prop} (hw:Region.wanted o (yielded ops a.tmps)=true) (x:Operand) (ho:o.op=.load 41 x) (g:Nat) (p:Pt) (vs:Value)
  (hx:a.eval x=.pointer (some ⟨g,0,none⟩)) (hA:PBox w g p vs) (h:wpList Tryz.prog ops Q rest (a.put o.dst (.agg (jaa p vs).toArray)) w):wpList Tryz.prog ops Q (o::rest) a w :=
 BigFrame.wpList_want hw fun K hK=>wp_load_mid 41 x ho g 0 hx (jaa p vs) _ hA.whole Tryz.underlying41 rfl (jbg p vs hA.1) (hK _ _ h)
theorem ja9 {w:World} {ops:Array Oper} {rest:List Oper} {o:Oper} {a:Act} {Q:Exit→Act→World→Prop} (hw:Region.wanted o (yielded ops a.tmps)=true) (x:Operand) (ho:o.op=.load 39 x) (g:Nat) (p:Pt) (vs:Value)
  (hx:a.eval x=.pointer (some ⟨g,2,none⟩)) (hA:PBox w g p vs) (h:wpList Tryz.prog ops Q rest (a.put o.dst (.agg (jae cKp p.kept).toArray)) w):wpList Tryz.prog ops Q (o::rest) a w :=
 BigFrame.wpList_want hw fun K hK=>wp_load_mid 39 x ho g 2 hx (jae cKp p.kept) _ hA.keeps Tryz.underlying39 rfl (by rw [ja6 encKp,hA.1];kernel_rfl) (hK _ _ h)
theorem jab {w:World} {ops:Array Oper} {rest:List Oper} {o:Oper} {a:Act} {Q:Exit→Act→World→Prop} (hgd:o.guard=none) (x y:Operand) (ho:o.op=.store 41 x y) (g:Nat) (old p:Pt) (ov vs:Value)
  (hx:a.eval x=.pointer (some ⟨g,0,none⟩)) (hy:a.eval y=.agg (jaa p vs).toArray) (hA:PBox w g old ov) (h4:p.kept.length=4) (hv:vs.oneCell'=true)
  (h:∀ w',Hid (PBox w' g p vs∧(∀ k,k≠g→w'.heap[k]?=w.heap[k]?)∧∀ B,B≤g→Below B w w')→w'.heap.size=w.heap.size→wpList Tryz.prog ops Q rest (a.put o.dst undef) w'):wpList Tryz.prog ops Q (o::rest) a w:=by
 refine wpList_plain hgd fun K hK=>?_
 have hst:=run_storeVar_row (P:=Tryz.prog) w g _ 41 (jaa old ov).toArray (jaa p vs).toArray hA.2 (by rw [jgu];simp [jav p vs h4]) (by simp [jav p vs h4,jav old ov hA.1]) (all_oneCell_toArray (jc7 p vs hv))
 unfold Oper.wp execOp
 simp only [ho,hx,hy,Instr.storeAt,Instr.sureAddr,Sem.run_bind,Sem.run_pure,Result.andThen_ok,hst]
 refine hK _ _ (h _ ⟨⟨h4,setRow_heap w g _ _ _ _ hA.2⟩,fun k hk=>setRow_other w g k _ (by omega),fun B hB=>below_setRow (Below.refl B w) hB _⟩ (by simp [World.setRow]))
theorem jfb {fn:Func} {q:Tmp} (h:fn.results=#[.cell q 41]) (tmps:Array Value) (w:World) (g:Nat) (p:Pt) (vs:Value) (hp:tmps.getD q undef=.pointer (some ⟨g,0,none⟩)) (hA:PBox w g p vs) :
  (results fn tmps).run Tryz.prog w=.ok (.agg (jaa p vs).toArray) w:=by
 have hl:=run_loadVar_mid (P:=Tryz.prog) w g 0 41 (jaa p vs) _ hA.whole Tryz.underlying41 rfl (jbg p vs hA.1)
 have hp':tmps[q]?.getD undef=.pointer (some ⟨g,0,none⟩):=by simpa using hp
 simp only [results,h]
 simp [Sem.run_bind,Result.andThen,hp',asAddr,hl]
theorem jby {fn:Func} {q u:Tmp} (h:fn.results=#[.cell q 41,.tmp u]) (tmps:Array Value) (w:World) (g:Nat) (p:Pt) (vs:Value) (hp:tmps.getD q undef=.pointer (some ⟨g,0,none⟩)) (hA:PBox w g p vs) :
  (results fn tmps).run Tryz.prog w=.ok (.tuple #[.agg (jaa p vs).toArray,tmps.getD u undef]) w:=by
 rw [results_cell_tmp h,hp]
 have hl:=run_loadVar_mid (P:=Tryz.prog) w g 0 41 (jaa p vs) _ hA.whole Tryz.underlying41 rfl (jbg p vs hA.1)
 simp [asAddr,hl]
theorem jal {w w':World} {B:Nat} {e:TypeId} {size:Nat} {v:Value} {n:Nat} {xs:List Value} (h:w.ownsRow B e size v n xs) (hs:∀ g,B≤g→w'.heap[g]?=w.heap[g]?):w'.ownsRow B e size v n xs:=by
 refine⟨h.1,?_⟩
 rcases h.2 with h0|⟨g,cap,cur,h0,h1,h2,h3⟩
 ·exact Or.inl h0
 ·exact Or.inr ⟨g,cap,cur,h0,h1,by rw [hs g h1];exact h2,h3⟩
theorem jan {w:World} {B:Nat} {e:TypeId} {size:Nat} {v:Value} {n:Nat} {xs:List Value} (h:w.ownsRow B e size v n xs):∃ x cap,v=.slice x n cap:=by
 rcases h.2 with ⟨rfl,rfl⟩|⟨g,cap,cur,rfl,_⟩
 ·exact⟨_,_,rfl⟩
 ·exact⟨_,_,rfl⟩
theorem jar {w:World} {B B':Nat} {e:TypeId} {size:Nat} {v:Value} {n:Nat} {xs:List Value} (h:w.ownsRow B e size v n xs) (hb:B'≤B):w.ownsRow B' e size v n xs:=by
 refine⟨h.1,?_⟩
 rcases h.2 with h0|⟨g,cap,cur,h0,h1,h2⟩
 ·exact Or.inl h0
 ·exact Or.inr ⟨g,cap,cur,h0,Nat.le_trans hb h1,h2⟩
theorem jam {w:World} {B:Nat} {e:TypeId} {size:Nat} {v:Value} {n:Nat} {xs:List Value} (h:w.ownsRow B e size v n xs):v.oneCell'=true:=by
 rcases h.2 with ⟨rfl,_⟩|⟨g,cap,cur,rfl,_⟩ <;> rfl
end Go.Proofs.YtcmdoeledmkfmacGreatDoor
