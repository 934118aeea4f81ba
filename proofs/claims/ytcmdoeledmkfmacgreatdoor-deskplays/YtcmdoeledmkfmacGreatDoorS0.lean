/- Texts of this claim, in one: RDTS RDTF. -/
import Derived.Test.YtcmdoeledmkfmacGreatDoorYS0
import Derived.BigQuiet
import Derived.Deep.RegionHeld
import Derived.Test.YtcmdoeledmkfmacGreatDoorSK
set_option linter.unusedSimpArgs false
set_option linter.unusedVariables false
set_option maxHeartbeats 40000000
set_option maxRecDepth 100000
namespace Go.Proofs.YtcmdoeledmkfmacGreatDoor
open Go.RowKit
def jcz (s:Ship):List Value:=[.int .i64 s.st,.int .i64 s.wd,.int .i64 s.lg,.int .i64 s.cl,.int .i64 s.si,.int .i64 s.qu]
def jic:Ship:=⟨0,0,0,0,0,0⟩
theorem jl9:(Tryz.prog.info? 46).map (·.size)=some 6:=by kernel_rfl
theorem jq7:(Tryz.prog.info? 46).map (fun i=>(i.zero,i.size))=some (some (.agg (jcz jic).toArray),6):=by kernel_rfl
theorem jmb (w:World):(zeroValue 46).run Tryz.prog w=.ok (.agg (jcz jic).toArray) w:=by
 have h:=jq7
 cases hq:Tryz.prog.info? 46 with
 | none=>rw [hq] at h;cases h
 | some i =>
  rw [hq] at h
  simp at h
  simp [zeroValue,typeInfo,hq,h.1]
theorem jky (s:Ship):∀ u∈jcz s,u.oneCell'=true:=by
 intro u hu
 simp [jcz] at hu
 rcases hu with rfl|rfl|rfl|rfl|rfl|rfl <;> rfl
theorem jit {w:World} {ops:Array Oper} {o:Oper} {a:Act} {K:Act→World→Prop} {Q:Exit→Act→World→Prop} {E:Prop} (hgd:o.guard=none) (ho:o.op=.alloc 46) (d:Nat) (hd:o.dst=some d)
  (h:∀ w',Hid (SBox w' w.heap.size jic∧Below w.heap.size w w')→K (a.put (some d) (.pointer (some ⟨w.heap.size,0,none⟩))) w'):if Region.wanted o (yielded ops a.tmps)=true then Oper.wp Tryz.prog o a w K Q else E:=by
 have hw:Region.wanted o (yielded ops a.tmps)=true:=by simp [Region.wanted,hgd]
 rw [if_pos hw]
 have hz:=jmb w
 unfold Oper.wp execOp
 simp only [ho]
 simp [Instr.alloc,hz,newVar,newRow,Result.andThen,Value.cells]
 rw [← hd] at h
 exact h _ ⟨heap_alloc_new w _,(Below.refl _ w).alloc (Nat.le_refl _) _⟩
theorem jis {w:World} {ops:Array Oper} {o:Oper} {a:Act} {K:Act→World→Prop} {Q:Exit→Act→World→Prop} {E:Prop} (hgd:o.guard=none) (x y:Operand) (ho:o.op=.store 46 x y) (g:Nat) (old s:Ship)
  (hx:a.eval x=.pointer (some ⟨g,0,none⟩)) (hy:a.eval y=.agg (jcz s).toArray) (hA:SBox w g old)
  (h:∀ w',Hid (SBox w' g s∧(∀ k,k≠g→w'.heap[k]?=w.heap[k]?)∧∀ B,B≤g→Below B w w')→K (a.put o.dst undef) w'):if Region.wanted o (yielded ops a.tmps)=true then Oper.wp Tryz.prog o a w K Q else E:=by
 have hw:Region.wanted o (yielded ops a.tmps)=true:=by simp [Region.wanted,hgd]
 rw [if_pos hw]
 have hst:=run_storeVar_row (P:=Tryz.prog) w g _ 46 (jcz old).toArray (jcz s).toArray hA (by rw [jl9];rfl) rfl (all_oneCell_toArray (jky s))
 unfold Oper.wp execOp
 simp only [ho,hx,hy,Instr.storeAt,Instr.sureAddr,Sem.run_bind,Sem.run_pure,Result.andThen_ok,hst]
 exact h _ ⟨setRow_heap w g _ _ _ _ hA,fun k hk=>setRow_other w g k _ (by omega),fun B hB=>below_setRow (Below.refl B w) hB _⟩
theorem jjk {w:World} {ops:Array Oper} {o:Oper} {a:Act} {K:Act→World→Prop} {Q:Exit→Act→World→Prop} {E:Prop} (hgd:o.guard=none) (x y:Operand) (ho:o.op=.store 29 x y) (g:Nat) (p q p' q':Int)
  (hx:a.eval x=.pointer (some ⟨g,0,none⟩)) (hy:a.eval y=.agg #[.int .i64 p',.int .i64 q']) (hA:RB w g p q)
  (h:∀ w',Hid (RB w' g p' q'∧(∀ k,k≠g→w'.heap[k]?=w.heap[k]?)∧∀ B,B≤g→Below B w w')→K (a.put o.dst undef) w'):if Region.wanted o (yielded ops a.tmps)=true then Oper.wp Tryz.prog o a w K Q else E:=by
 have hw:Region.wanted o (yielded ops a.tmps)=true:=by simp [Region.wanted,hgd]
 rw [if_pos hw]
 have hst:=run_storeVar_row (P:=Tryz.prog) w g _ 29 #[.int .i64 p,.int .i64 q] #[.int .i64 p',.int .i64 q'] hA (by rw [jkx];rfl) rfl (by simp [Value.oneCell'])
 unfold Oper.wp execOp
 simp only [ho,hx,hy,Instr.storeAt,Instr.sureAddr,Sem.run_bind,Sem.run_pure,Result.andThen_ok,hst]
 exact h _ ⟨setRow_heap w g _ _ _ _ hA,fun k hk=>setRow_other w g k _ (by omega),fun B hB=>below_setRow (Below.refl B w) hB _⟩
theorem RdK.shipWhole {w:World} {b off:Nat} {l:List Ship} (h:RdK cShip w b off l) {i:Nat} {s:Ship} (hs:l[i]?=some s):w.rangeAt b (off+i*6) (jcz s):=fun j v hv=>by
 have:=h.at jcg hs (i:=j) (show(cShip s)[j]?=some v from hv)
 rw [Nat.add_assoc]
 exact this
theorem jmd (B d:Nat) (D:Dk) (s:List UInt8) (w:World) (hs:s.length≤9223372036854775807) (h:RS w B d D) (hn:D.n < 250) (o:Ord) (hP:jay s (some o)) (hk:o.kd=14) :
  Calls Tryz.prog 18 #[.pointer (some ⟨d,0,none⟩),txt s] w fun e w'=>jge B d D s w e w':=by
 obtain⟨vs,va,hM⟩:=h.dsk
 have hnn:=h.ok.n
 have HO:Hid (DOk (D1 D)):=D1_ok h.ok hn
 have HN:Hid (D.n < 250):=hn
 have HPA:=fun W hA=>jcl s hs W hA
 have HRP:=fun er W=>jcw er W
 have HP:Hid (jay s (some o)):=hP
 have LOW:Hid (2 < d):=h.low
 have hne:(D.n == 250)=false:=beq_eq_false_iff_ne.2 (by omega)
 have E0:Hid (RM w B d D vs va∧AS w):=⟨hM,h.asp⟩
 have hzB:=hM.hB
 clear h hM hP
 unfold txt at *
 go_enter Tryz.func18,Tryz.ntmps18
 go_upto_region 2 with (refine jbb rfl rfl 4 rfl ?_;intro w1 h1 s1)
 have E1:Hid (RT w w.heap.size B d D vs va w1):=⟨E0.out.1.later h1.out.2,E0.out.2.later h1.out.2,h1.out.1,Fr.of h1.out.2 (Nat.le_of_lt E0.out.1.lt),hzB,Nat.le_refl _⟩
 clear h1 s1 E0
 generalize hz:w.heap.size=z at *
 have c17:=E1.out.rm.box.cells.2.2.2
 have f17:=E1.out.rm.box.frozen 17
 have E2:Hid (RT w z B d (D1 D) vs va (w1.setCell ⟨d,17,none⟩ (.int .i64 (D.n+1)))):=E1.out.turn (E1.out.rm.acts _) (Fr.set _ _ _) LOW.out
 clear E1
 go_upto_region 5 with fail
 clear c17 f17
 generalize w1.setCell ⟨d,17,none⟩ (.int .i64 (D.n+1))=W2 at *
 go_wp2_with fail
 refine(HPA _ E2.out.asp).mono ?_
 rintro e w3 ⟨o3,er3,rfl,hP3,hb3⟩
 obtain⟨rfl,rfl⟩:=jdh hP3 HP.out
 have E3:Hid (RT w z B d (D1 D) vs va w3):=E2.out.later hb3
 clear hP3 hb3 HPA E2
 go_upto_region 6 with (first|(refine jat rfl rfl 6 rfl ?_;intro w4 h4 s4)|(refine jak rfl _ _ rfl w3.heap.size noOrd o3 rfl rfl h4.out.1 ?_;intro w5 h5 s5))
 have E5:Hid (RT w z B d (D1 D) vs va w5∧LOB w5 w3.heap.size o3∧z < w3.heap.size):=by
  have hb:Below w3.heap.size w3 w5:=h4.out.2.trans (h5.out.2.2 _ (Nat.le_refl _))
  exact⟨E3.out.later hb,h5.out.1,E3.out.rep.lt⟩
 clear h4 h5 s4 s5 E3
 generalize w3.heap.size=g6 at *
 obtain⟨kd,a,b,c⟩:=o3
 simp only at hk
 subst hk
 obtain⟨o0,o1,o2,o4⟩:=E5.out.2.1.cells
 simp only at o0 o1 o2 o4
 have HWI:=fun n lo hi W=>jag n lo hi W
 have HPL:=fun v q W h1 h2=>jfd v q W h1 h2
 have hp:Hid (jaj D.p):=HO.out.port
 have h14:D.p.ships.length≤14:=by have:D.p.ships.length < 15:=HO.out.port.port.len;omega
 have h4:D.p.kept.length=4:=E5.out.1.rm.box.four
 obtain⟨sa,sc,hvs⟩:∃ sa sc,vs=.slice sa D.p.ships.length sc:=by obtain⟨sa,sc,h,_⟩:=E5.out.1.rm.ships;exact⟨sa,sc,h⟩
 subst hvs
 have E6:Hid (RT w z B d (D1 D) (.slice sa D.p.ships.length sc) va w5.drew∧LOB w5.drew g6 ⟨14,a,b,c⟩∧z < g6):=⟨E5.out.1.later (Below.refl _ _).drew,E5.out.2.1.later (Below.refl _ _).drew E5.out.2.1.lt,E5.out.2.2⟩
 have hwn:IntKind.i64.wrap ((D.p.ships.length:Int) - 1)=(D.p.ships.length:Int) - 1:=jbk (by omega) (by omega)
 have OBS:Hid (∀ n er,jh9 D.p a n er→ObsIs (D1 D) ⟨14,a,b,c⟩ (D1 D) n er):=fun n er hG=>by
  unfold ObsIs
  rw [if_neg (by simp only;omega),if_neg (by simp only;omega),if_neg (by simp only;omega),if_neg (by simp only;omega),if_neg (by simp only;omega),if_pos rfl]
  exact⟨rfl,hG⟩
 clear E5
 go_upto_region 39 with fail
 clear o0 o1 o2 o4
 refine wp_region_held_drew (S:=fun W=>Hid (RT w z B d (D1 D) (.slice sa D.p.ships.length sc) va W∧LOB W g6 ⟨14,a,b,c⟩∧z < g6)) (by kernel_rfl) E6 (fun hHeld=>?_)
 refine jjT 0 ⟨some 147,.fieldAddr 61 (.tmp 6) 1,0,"ref.go:446",#[],none⟩ (?_) rfl (by kernel_rfl) (fun _ _ _ h=>h) (Or.inl ⟨by rfl,?_⟩) hHeld ?_
 rotate_left
 ·(intro w hSw;first|(go_simp;done)|(go_simp;with_reducible rfl))
 simp only [Act.put,jjA,jjB,jjC]
 refine jjT 1 ⟨some 148,.load 3 (.tmp 147),3,"ref.go:446",#[⟨0,.data⟩],none⟩ (.int .i64 a) rfl (by kernel_rfl) (fun _ _ _ h=>h) (Or.inl ⟨by rfl,by intro w hSw;have q:=hSw.out.2.1.cells.2.1;go_simp⟩) hHeld ?_
 simp only [Act.put,jjA,jjB,jjC]
 refine jjT 2 ⟨some 149,.move (.tmp 0),51,"ref.go:446",#[],none⟩ (?_) rfl (by kernel_rfl) (fun _ _ _ h=>h) (Or.inl ⟨by rfl,?_⟩) hHeld ?_
 rotate_left
 ·(intro w hSw;first|(go_simp;done)|(go_simp;with_reducible rfl))
 simp only [Act.put,jjA,jjB,jjC]
 refine jjT 3 ⟨some 150,.nilCheck (.tmp 149),0,"ref.go:446",#[⟨2,.data⟩],none⟩ (?_) rfl (by kernel_rfl) (fun _ _ _ h=>h) (Or.inl ⟨by rfl,?_⟩) hHeld ?_
 rotate_left
 ·(intro w hSw;first|(go_simp;done)|(go_simp;with_reducible rfl))
 simp only [Act.put,jjA,jjB,jjC]
 refine jjT 4 ⟨some 151,.fieldAddr 54 (.tmp 150) 0,0,"ref.go:446",#[⟨3,.data⟩],none⟩ (?_) rfl (by kernel_rfl) (fun _ _ _ h=>h) (Or.inl ⟨by rfl,?_⟩) hHeld ?_
 rotate_left
 ·(intro w hSw;first|(go_simp;done)|(go_simp;with_reducible rfl))
 simp only [Act.put,jjA,jjB,jjC]
 refine jjT 5 ⟨some 152,.fieldAddr 41 (.tmp 151) 1,0,"ref.go:446",#[⟨4,.data⟩],none⟩ (?_) rfl (by kernel_rfl) (fun _ _ _ h=>h) (Or.inl ⟨by rfl,?_⟩) hHeld ?_
 rotate_left
 ·(intro w hSw;first|(go_simp;done)|(go_simp;with_reducible rfl))
 simp only [Act.put,jjA,jjB,jjC]
 refine jjT 6 ⟨some 153,.load 36 (.tmp 152),36,"ref.go:446",#[⟨5,.data⟩],none⟩ (.slice sa D.p.ships.length sc) rfl (by kernel_rfl) (fun _ _ _ h=>h) (Or.inl ⟨by rfl,by intro w hSw;have q:=hSw.out.1.rm.box.cells.2.1;go_simp⟩) hHeld ?_
 simp only [Act.put,jjA,jjB,jjC]
 refine jjT 7 ⟨some 154,.call { callee:=.builtin .len,args:=#[.tmp 153],argTypes:=#[36] },3,"ref.go:446",#[⟨6,.data⟩],none⟩ (?_) rfl (by kernel_rfl) (fun _ _ _ h=>h) (Or.inl ⟨by rfl,?_⟩) hHeld ?_
 rotate_left
 ·(intro w hSw;first|(go_simp;done)|(go_simp;with_reducible rfl))
 simp only [Act.put,jjA,jjB,jjC]
 refine jjT 8 ⟨some 155,.binOp .sub 3 (.tmp 154) (.const (.int .i64 1)) 3,3,"ref.go:446",#[⟨7,.data⟩],none⟩ (.int .i64 ((D.p.ships.length:Int) - 1)) rfl (by kernel_rfl) (fun _ _ _ h=>h) (Or.inl ⟨by rfl,by intro w hSw;go_simp⟩) hHeld ?_
 simp only [Act.put,jjA,jjB,jjC]
 refine jjR 9 (by kernel_rfl) rfl fun K hK=>?_
 go_simp
 refine(HWI _ _ _ _).mono ?_
 rintro e w' ⟨rfl,hw⟩
 subst hw
 go_wp2_with fail
 refine hK.out _ _ E6 (fun hHeld=>?_)
 clear hK K hwn
 refine jjT 10 ⟨some 157,.unOp .not 4 (.tmp 156),4,"ref.go:446",#[⟨9,.data⟩],none⟩ (?_) rfl (by kernel_rfl) (fun _ _ _ h=>h) (Or.inl ⟨by rfl,?_⟩) hHeld ?_
 rotate_left
 ·(intro w hSw;first|(go_simp;done)|(go_simp;with_reducible rfl))
 simp only [Act.put,jjA,jjB,jjC]
 refine wpAnyH_done (by kernel_rfl) ?_ _
 clear hHeld HWI
 by_cases hin:0≤a∧a≤(D.p.ships.length:Int) - 1
 case neg =>
  have hi:inR a 0 ((D.p.ships.length:Int) - 1)=false:=decide_eq_false hin
  have OB:Hid (ObsIs (D1 D) ⟨14,a,b,c⟩ (D1 D) 0 3):=OBS.out _ _ (Or.inl ⟨fun h=>hin ⟨h.1,by have:=h.2;omega⟩,rfl,rfl⟩)
  rw [hi]
  have E7:Hid (RT w z B d (D1 D) (.slice sa D.p.ships.length sc) va w5.drew):=E6.out.1
  clear E6 hin hi HPL OBS
  go_wp2_with fail
  refine(HRP _ _).mono ?_
  rintro e wX ⟨rfl,hbX⟩
  have EX:Hid (RT w z B d (D1 D) (.slice sa D.p.ships.length sc) va wX):=E7.out.later hbX
  clear hbX HRP
  go_wp2_with (refine jaq rfl _ _ rfl z 0 0 (3) 0 rfl rfl EX.out.rep ?_;intro wZ hZ sZ)
  refine bodyPost_ret (v:=.agg #[.int .i64 (3),.int .i64 (0)]) (ja5 Tryz.results18 _ _ z (3) (0) rfl hZ.out.1) rfl ?_
  have hE:=EX.out.end hZ.out
  exact⟨3,0,rfl,(D1 D),jb4 HN.out HP.out OB.out,hE.1,hE.2⟩
 have hi:inR a 0 ((D.p.ships.length:Int) - 1)=true:=decide_eq_true hin
 rw [hi]
 obtain⟨i,rfl⟩:∃ i:Nat,a=i:=⟨a.toNat,by omega⟩
 have hil:i < D.p.ships.length:=by omega
 obtain⟨s1,hs1⟩:∃ s1,D.p.ships[i]?=some s1:=⟨D.p.ships[i],List.getElem?_eq_getElem hil⟩
 have HSH:Hid (shp D.p i=s1∧D.p.ships[i]?=some s1):=⟨jbj hs1,hs1⟩
 obtain⟨sb,so,rfl⟩:∃ sb so,sa=some ⟨sb,so,none⟩:=by
  obtain⟨a',c',e,_,hr⟩:=E6.out.1.rm.ships
  injection e with e1
  rcases hr with hr|⟨b',o',hr,_⟩
  ·have:(D1 D).p.ships=D.p.ships:=rfl
   rw [this] at hr
   rw [hr] at hil
   simp at hil
  ·exact⟨b',o',by rw [e1,hr]⟩
 have ROW:Hid (∀ W,RM W B d (D1 D) (.slice (some ⟨sb,so,none⟩) D.p.ships.length sc) va→RdK cShip W sb so D.p.ships):=fun W hW=>by
  obtain⟨a',c',e,_,hr⟩:=hW.ships
  injection e with e1
  rcases hr with hr|⟨b',o',hr,h⟩
  ·have:(D1 D).p.ships=D.p.ships:=rfl
   rw [this] at hr
   rw [hr] at hil
   simp at hil
  ·rw [← e1] at hr
   injection hr with hr
   injection hr with h1 h2
   subst h1 h2
   exact h
 have hii:(i:Int) < (D.p.ships.length:Int):=by omega
 have hin2:¬ ((D.p.ships.length:Int)≤(i:Int)):=by omega
 have E7:Hid (RT w z B d (D1 D) (.slice (some ⟨sb,so,none⟩) D.p.ships.length sc) va w5.drew.drew∧LOB w5.drew.drew g6 ⟨14,(i:Int),b,c⟩∧z < g6):=⟨E6.out.1.later (Below.refl _ _).drew,E6.out.2.1.later (Below.refl _ _).drew E6.out.2.1.lt,E6.out.2.2⟩
 clear hs1 hin hi E6
 generalize w5.drew=W6 at *
 go_upto_region 41 with fail
 refine wp_region_held_drew (S:=fun W=>Hid (RT w z B d (D1 D) (.slice (some ⟨sb,so,none⟩) D.p.ships.length sc) va W∧LOB W g6 ⟨14,(i:Int),b,c⟩∧z < g6)) (by kernel_rfl) E7 (fun hHeld=>?_)
 refine jjT 0 ⟨some 160,.move (.tmp 0),51,"ref.go:449",#[],none⟩ (?_) rfl (by kernel_rfl) (fun _ _ _ h=>h) (Or.inl ⟨by rfl,?_⟩) hHeld ?_
 rotate_left
 ·(intro w hSw;first|(go_simp;done)|(go_simp;with_reducible rfl))
 simp only [Act.put,jjA,jjB,jjC]
 refine jjT 1 ⟨some 161,.nilCheck (.tmp 160),0,"ref.go:449",#[⟨0,.data⟩],none⟩ (?_) rfl (by kernel_rfl) (fun _ _ _ h=>h) (Or.inl ⟨by rfl,?_⟩) hHeld ?_
 rotate_left
 ·(intro w hSw;first|(go_simp;done)|(go_simp;with_reducible rfl))
 simp only [Act.put,jjA,jjB,jjC]
 refine jjT 2 ⟨some 162,.fieldAddr 54 (.tmp 161) 0,0,"ref.go:449",#[⟨1,.data⟩],none⟩ (?_) rfl (by kernel_rfl) (fun _ _ _ h=>h) (Or.inl ⟨by rfl,?_⟩) hHeld ?_
 rotate_left
 ·(intro w hSw;first|(go_simp;done)|(go_simp;with_reducible rfl))
 simp only [Act.put,jjA,jjB,jjC]
 refine jjT 3 ⟨some 163,.fieldAddr 41 (.tmp 162) 1,0,"ref.go:449",#[⟨2,.data⟩],none⟩ (?_) rfl (by kernel_rfl) (fun _ _ _ h=>h) (Or.inl ⟨by rfl,?_⟩) hHeld ?_
 rotate_left
 ·(intro w hSw;first|(go_simp;done)|(go_simp;with_reducible rfl))
 simp only [Act.put,jjA,jjB,jjC]
 refine jjT 4 ⟨some 164,.load 36 (.tmp 163),36,"ref.go:449",#[⟨3,.data⟩],none⟩ (.slice (some ⟨sb,so,none⟩) D.p.ships.length sc) rfl (by kernel_rfl) (fun _ _ _ h=>h) (Or.inl ⟨by rfl,by intro w hSw;have q:=hSw.out.1.rm.box.cells.2.1;go_simp⟩) hHeld ?_
 simp only [Act.put,jjA,jjB,jjC]
 refine jjT 5 ⟨some 165,.fieldAddr 61 (.tmp 6) 1,0,"ref.go:449",#[],none⟩ (?_) rfl (by kernel_rfl) (fun _ _ _ h=>h) (Or.inl ⟨by rfl,?_⟩) hHeld ?_
 rotate_left
 ·(intro w hSw;first|(go_simp;done)|(go_simp;with_reducible rfl))
 simp only [Act.put,jjA,jjB,jjC]
 refine jjT 6 ⟨some 166,.load 3 (.tmp 165),3,"ref.go:449",#[⟨5,.data⟩],none⟩ (.int .i64 (i:Int)) rfl (by kernel_rfl) (fun _ _ _ h=>h) (Or.inl ⟨by rfl,by intro w hSw;have q:=hSw.out.2.1.cells.2.1;go_simp⟩) hHeld ?_
 simp only [Act.put,jjA,jjB,jjC]
 refine jjT 7 ⟨some 167,.indexAddr 36 (.tmp 164) (.tmp 166),0,"ref.go:449",#[⟨4,.data⟩,⟨6,.data⟩],none⟩ (.pointer (some ⟨sb,so+i*6,none⟩)) rfl (by kernel_rfl) (fun _ _ _ h=>h) (Or.inl ⟨by rfl,by intro w hSw;go_simp⟩) hHeld ?_
 simp only [Act.put,jjA,jjB,jjC]
 refine jjT 8 ⟨some 168,.load 46 (.tmp 167),46,"ref.go:449",#[⟨7,.data⟩],none⟩ (.agg (jcz s1).toArray) rfl (by kernel_rfl) (fun _ _ _ h=>h) (yieldsIf_load_mid (by rfl) 46 (.tmp 167) rfl sb (so+i*6) rfl (jcz s1) _ (fun W hW=>(ROW.out W hW.out.1.rm).shipWhole HSH.out.2) Tryz.underlying46 rfl jl9) hHeld ?_
 simp only [Act.put,jjA,jjB,jjC]
 refine jjR 9 (by kernel_rfl) rfl fun K hK=>?_
 refine jit rfl rfl 12 rfl ?_
 intro w8 h8
 have E8:Hid (RT w z B d (D1 D) (.slice (some ⟨sb,so,none⟩) D.p.ships.length sc) va w8∧LOB w8 g6 ⟨14,(i:Int),b,c⟩∧z < g6):=⟨hHeld.out.1.later h8.out.2,hHeld.out.2.1.later h8.out.2 hHeld.out.2.1.lt,hHeld.out.2.2⟩
 refine hK.out _ _ E8 (fun hHeld=>?_)
 clear hK K
 try simp only [Act.put,jjA,jjB,jjC]
 refine jjR 10 (by kernel_rfl) rfl fun K hK=>?_
 refine jis rfl (.tmp 12) (.tmp 168) rfl _ jic s1 (by simp [Act.eval,Act.put]) (by simp [Act.eval,Act.put]) h8.out.1 ?_
 intro w9 h9
 have E9:Hid (RT w z B d (D1 D) (.slice (some ⟨sb,so,none⟩) D.p.ships.length sc) va w9∧LOB w9 g6 ⟨14,(i:Int),b,c⟩∧z < g6):=by
  have hb:Below W6.drew.heap.size W6.drew w9:=h8.out.2.trans (h9.out.2.2 _ (Nat.le_refl _))
  exact⟨E7.out.1.later hb,E7.out.2.1.later hb E7.out.2.1.lt,E7.out.2.2⟩
 have S9:Hid (SBox w9 W6.drew.heap.size s1):=h9.out.1
 refine hK.out _ _ E9 (fun hHeld=>?_)
 clear hK K hHeld h8 h9 E8 E7
 refine wpAnyH_done (by kernel_rfl) ?_ _
 generalize W6.drew.heap.size=g12 at *
 obtain⟨k0,k1,k2,k3,k4,k5⟩:=S9.out.cells
 by_cases s3:s1.st=3
 ·have OB:Hid (ObsIs (D1 D) ⟨14,(i:Int),b,c⟩ (D1 D) s1.si 0):=OBS.out _ _ (Or.inr ⟨⟨by omega,hii⟩,rfl,Or.inr (Or.inl ⟨by rw [Int.toNat_natCast,HSH.out.1];exact s3,by rw [Int.toNat_natCast,HSH.out.1]⟩)⟩)
  have EA:Hid (RT w z B d (D1 D) (.slice (some ⟨sb,so,none⟩) D.p.ships.length sc) va w9):=E9.out.1
  rw [s3] at k0
  clear E9 OBS HPL HSH ROW
  go_wp2_with (refine jaq rfl _ _ rfl z 0 0 0 s1.si rfl rfl EA.out.rep ?_;intro wZ hZ sZ)
  refine bodyPost_ret (v:=.agg #[.int .i64 (0),.int .i64 (s1.si)]) (ja5 Tryz.results18 _ _ z (0) (s1.si) rfl hZ.out.1) rfl ?_
  have hE:=EA.out.end hZ.out
  exact⟨0,s1.si,rfl,(D1 D),jb4 HN.out HP.out OB.out,hE.1,hE.2⟩
 by_cases s1':s1.st=1
 case neg =>
  have OB:Hid (ObsIs (D1 D) ⟨14,(i:Int),b,c⟩ (D1 D) (-1) 0):=OBS.out _ _ (Or.inr ⟨⟨by omega,hii⟩,rfl,Or.inr (Or.inr ⟨by rw [Int.toNat_natCast,HSH.out.1];exact s1',by rw [Int.toNat_natCast,HSH.out.1];exact s3,rfl⟩)⟩)
  have EA:Hid (RT w z B d (D1 D) (.slice (some ⟨sb,so,none⟩) D.p.ships.length sc) va w9):=E9.out.1
  have b1:(s1.st == 1)=false:=beq_eq_false_iff_ne.2 s1'
  have b3:(s1.st == 3)=false:=beq_eq_false_iff_ne.2 s3
  clear E9 OBS HPL HSH ROW s1' s3
  go_wp2_with (refine jaq rfl _ _ rfl z 0 0 0 (-1) rfl rfl EA.out.rep ?_;intro wZ hZ sZ)
  refine bodyPost_ret (v:=.agg #[.int .i64 (0),.int .i64 (-1)]) (ja5 Tryz.results18 _ _ z (0) (-1) rfl hZ.out.1) rfl ?_
  have hE:=EA.out.end hZ.out
  exact⟨0,-1,rfl,(D1 D),jb4 HN.out HP.out OB.out,hE.1,hE.2⟩
 rw [s1'] at k0
 have ASK:Hid (∀ x pl,jbd D.p pl→pl[i]?=some x→ObsIs (D1 D) ⟨14,(i:Int),b,c⟩ (D1 D) x 0):=fun x pl hpl hx=>OBS.out _ _ (Or.inr ⟨⟨by omega,hii⟩,rfl,Or.inl ⟨by rw [Int.toNat_natCast,HSH.out.1];exact s1',pl,hpl,by rw [Int.toNat_natCast,List.getD_eq_getElem?_getD,hx];rfl⟩⟩)
 have EA:Hid (RT w z B d (D1 D) (.slice (some ⟨sb,so,none⟩) D.p.ships.length sc) va w9.drew∧LOB w9.drew g6 ⟨14,(i:Int),b,c⟩):=⟨E9.out.1.later (Below.refl _ _).drew,E9.out.2.1.later (Below.refl _ _).drew E9.out.2.1.lt⟩
 clear E9 OBS HSH ROW s1' s3
 go_upto_region 44 with fail
 clear k0 k1 k2 k3 k4 k5
 generalize hPC:(jaa D.p (.slice (some ⟨sb,so,none⟩) D.p.ships.length sc)).toArray=PC at *
 have HPC:Hid ((jaa D.p (.slice (some ⟨sb,so,none⟩) D.p.ships.length sc)).toArray=PC):=hPC
 clear hPC
 refine wp_region_held_drew (S:=fun W=>Hid (RM W B d (D1 D) (.slice (some ⟨sb,so,none⟩) D.p.ships.length sc) va∧LOB W g6 ⟨14,(i:Int),b,c⟩)) (by kernel_rfl) ⟨EA.out.1.rm,EA.out.2⟩ (fun hHeld=>?_)
 refine jjT 0 ⟨some 173,.move (.tmp 0),51,"ref.go:451",#[],none⟩ (?_) rfl (by kernel_rfl) (fun _ _ _ h=>h) (Or.inl ⟨by rfl,?_⟩) hHeld ?_
 rotate_left
 ·(intro w hSw;first|(go_simp;done)|(go_simp;with_reducible rfl))
 simp only [Act.put,jjA,jjB,jjC]
 refine jjT 1 ⟨some 174,.nilCheck (.tmp 173),0,"ref.go:451",#[⟨0,.data⟩],none⟩ (?_) rfl (by kernel_rfl) (fun _ _ _ h=>h) (Or.inl ⟨by rfl,?_⟩) hHeld ?_
 rotate_left
 ·(intro w hSw;first|(go_simp;done)|(go_simp;with_reducible rfl))
 simp only [Act.put,jjA,jjB,jjC]
 refine jjT 2 ⟨some 175,.fieldAddr 54 (.tmp 174) 0,0,"ref.go:451",#[⟨1,.data⟩],none⟩ (?_) rfl (by kernel_rfl) (fun _ _ _ h=>h) (Or.inl ⟨by rfl,?_⟩) hHeld ?_
 rotate_left
 ·(intro w hSw;first|(go_simp;done)|(go_simp;with_reducible rfl))
 simp only [Act.put,jjA,jjB,jjC]
 refine jjT 3 ⟨some 176,.load 41 (.tmp 175),41,"ref.go:451",#[⟨2,.data⟩],none⟩ (.agg PC) rfl (by kernel_rfl) (fun _ _ _ h=>h) (by rw [← HPC.out];exact yieldsIf_load_mid (by rfl) 41 (.tmp 175) rfl d 0 rfl (jaa D.p (.slice (some ⟨sb,so,none⟩) D.p.ships.length sc)) _ (fun W hW=>hW.out.1.box.port) Tryz.underlying41 rfl (jbg D.p _ h4)) hHeld ?_
 simp only [Act.put,jjA,jjB,jjC]
 refine jjT 5 ⟨some 178,.fieldAddr 61 (.tmp 6) 1,0,"ref.go:451",#[],none⟩ (?_) rfl (by kernel_rfl) (fun _ _ _ h=>h) (Or.inl ⟨by rfl,?_⟩) hHeld ?_
 rotate_left
 ·(intro w hSw;first|(go_simp;done)|(go_simp;with_reducible rfl))
 simp only [Act.put,jjA,jjB,jjC]
 refine jjT 6 ⟨some 179,.load 3 (.tmp 178),3,"ref.go:451",#[⟨5,.data⟩],none⟩ (.int .i64 (i:Int)) rfl (by kernel_rfl) (fun _ _ _ h=>h) (Or.inl ⟨by rfl,by intro w hSw;have q:=hSw.out.2.cells.2.1;go_simp⟩) hHeld ?_
 simp only [Act.put,jjA,jjB,jjC]
 refine jjR 4 (by kernel_rfl) rfl fun K hK=>?_
 go_simp
 refine(HPL _ D.p _ (by have:=hHeld.out.1.pv h14;rw [← HPC.out];exact this) hp.out).mono ?_
 rintro e wA ⟨⟨v8,rfl,h8⟩,hbA⟩
 obtain⟨pl,hpl,hsl⟩:=h8.out
 have hlt:i < pl.length:=by rw [hpl.len];exact hil
 obtain⟨x,hx⟩:∃ x,pl[i]?=some x:=⟨pl[i],List.getElem?_eq_getElem hlt⟩
 have OB:Hid (ObsIs (D1 D) ⟨14,(i:Int),b,c⟩ (D1 D) x 0):=ASK.out x pl hpl hx
 obtain⟨bp,op,cap8,hv8,hrp⟩:∃ bp op cap,v8=.slice (some ⟨bp,op,none⟩) pl.length cap∧RdK cInt wA bp op pl:=by
  obtain⟨a8,c8,e8,_,hr8⟩:=hsl
  rcases hr8 with hr8|⟨b8,o8,e9,hr8⟩
  ·rw [hr8] at hlt;simp at hlt
  ·exact⟨b8,o8,c8,by rw [e8,e9],hr8⟩
 have hc:=hrp.int hx
 have hli:(i:Int) < (pl.length:Int):=by omega
 have hln:¬ ((pl.length:Int)≤(i:Int)):=by omega
 have EB:Hid (RT w z B d (D1 D) (.slice (some ⟨sb,so,none⟩) D.p.ships.length sc) va wA∧LOB wA g6 ⟨14,(i:Int),b,c⟩):=⟨EA.out.1.later hbA,EA.out.2.later hbA EA.out.2.lt⟩
 subst hv8
 clear h8 hpl hsl hbA hrp hx HPL ASK hHeld EA hlt
 go_wp2_with fail
 refine hK.out _ _ ⟨EB.out.1.rm,EB.out.2⟩ (fun hHeld=>?_)
 clear hK K
 refine jjT 7 ⟨some 180,.indexAddr 43 (.tmp 177) (.tmp 179),0,"ref.go:451",#[⟨4,.data⟩,⟨6,.data⟩],none⟩ (.pointer (some ⟨bp,op+i,none⟩)) rfl (by kernel_rfl) (fun _ _ _ h=>h) (Or.inl ⟨by rfl,by intro w hSw;go_simp⟩) hHeld ?_
 simp only [Act.put,jjA,jjB,jjC]
 refine jjR 8 (by kernel_rfl) rfl fun K hK=>?_
 go_simp
 refine hK.out _ _ ⟨EB.out.1.rm,EB.out.2⟩ (fun hHeld=>?_)
 clear hK K
 refine jjT 9 ⟨some 182,.build 29 #[(1,.tmp 181)],29,"ref.go:451",#[⟨8,.data⟩],none⟩ (.agg #[.int .i64 0,.int .i64 x]) rfl (by kernel_rfl) (fun _ _ _ h=>h) (Or.inl ⟨by rfl,by intro w hSw;go_simp⟩) hHeld ?_
 simp only [Act.put,jjA,jjB,jjC]
 refine jjR 10 (by kernel_rfl) rfl fun K hK=>?_
 refine jjk rfl (.tmp 4) (.tmp 182) rfl z 0 0 0 x rfl rfl EB.out.1.rep ?_
 intro wZ hZ
 refine hK.out _ _ ⟨EB.out.1.rm.small EB.out.1.rep (by decide) hZ.out.2.1 (hZ.out.2.2 z (Nat.le_refl _)).size,?_⟩ (fun hHeld=>?_)
 ·have hg:=EB.out.2
  unfold LOB
  rw [hZ.out.2.1 g6 ?_]
  ·exact hg
  ·intro e
   subst e
   have h1:=EB.out.1.rep
   unfold RB at h1
   unfold LOB at hg
   rw [h1] at hg
   cases hg
 clear hK K hHeld
 refine wpAnyH_done (by kernel_rfl) ?_ _
 go_wp2_with fail
 refine bodyPost_ret (v:=.agg #[.int .i64 (0),.int .i64 (x)]) (ja5 Tryz.results18 _ _ z (0) (x) rfl hZ.out.1) rfl ?_
 have hE:=EB.out.1.end hZ.out
 exact⟨0,x,rfl,(D1 D),jb4 HN.out HP.out OB.out,hE.1,hE.2⟩
end Go.Proofs.YtcmdoeledmkfmacGreatDoor
