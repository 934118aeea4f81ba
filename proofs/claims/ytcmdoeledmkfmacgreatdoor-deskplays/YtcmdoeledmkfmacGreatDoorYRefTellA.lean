/- Texts of this claim, in one: RefTellA. -/
import Derived.Test.YtcmdoeledmkfmacGreatDoorSI
set_option linter.unusedSimpArgs false
set_option linter.unusedVariables false
set_option maxHeartbeats 40000000
set_option maxRecDepth 100000
namespace Go.Proofs.YtcmdoeledmkfmacGreatDoor
open Go.RowKit
theorem jn7 (v:Value) (p:Pt) (kd a b c:Int) (w:World) (hv:PtV w v p) (hp:¬ jaj p) :
  Calls Tryz.prog 35 #[v,.agg #[.int .i64 kd,.int .i64 a,.int .i64 b,.int .i64 c]] w fun e w'=>jbe w (ja0 (jai p ⟨kd,a,b,c⟩) p) e w':=by
 obtain⟨vs,rfl,hsl,h4,hmx⟩:=hv
 have HV:Hid (PtV w (.agg (jaa p vs).toArray) p):=⟨vs,rfl,hsl,h4,hmx⟩
 have HS0:Hid (SlK cShip w vs p.ships):=hsl
 have on0:vs.oneCell'=true:=by obtain⟨a,cap,rfl,_⟩:=hsl;rfl
 have X1:=PBox.new w p vs h4
 have HG:=fun W h=>jbx (.agg (jaa p vs).toArray) p W h
 have HW:=fun W h=>jb3 (.agg (jaa p vs).toArray) p W h
 obtain⟨va,vcap,hve⟩:∃ a cap,vs=.slice a p.ships.length cap:=by obtain⟨a,cap,e,_⟩:=hsl;exact⟨a,cap,e⟩
 subst hve
 clear hsl
 generalize hPC:(jaa p (.slice va p.ships.length vcap)).toArray=PC at *
 have HPC:Hid ((jaa p (.slice va p.ships.length vcap)).toArray=PC):=hPC
 clear hPC
 have hz1:(w.alloc (.cells PC 41)).heap.size=w.heap.size+1:=by simp
 have O1:=OBox.new (w.alloc (.cells PC 41)) ⟨kd,a,b,c⟩
 rw [hz1] at O1
 have hz2:((w.alloc (.cells PC 41)).alloc (.cells #[.int .i64 kd,.int .i64 a,.int .i64 b,.int .i64 c] 61)).heap.size=w.heap.size+1+1:=by simp
 have X0:Hid (PBox ((w.alloc (.cells PC 41)).alloc (.cells #[.int .i64 kd,.int .i64 a,.int .i64 b,.int .i64 c] 61)) w.heap.size p (.slice va p.ships.length vcap)∧OBox ((w.alloc (.cells PC 41)).alloc (.cells #[.int .i64 kd,.int .i64 a,.int .i64 b,.int .i64 c] 61)) (w.heap.size+1) ⟨kd,a,b,c⟩):=⟨X1.later ((Below.refl _ _).alloc (Nat.le_refl _) _) X1.lt,O1⟩
 have B0:Hid (Below w.heap.size w ((w.alloc (.cells PC 41)).alloc (.cells #[.int .i64 kd,.int .i64 a,.int .i64 b,.int .i64 c] 61))):=((Below.refl _ w).alloc (Nat.le_refl _) _).alloc (by omega) _
 have HZ2:Hid (((w.alloc (.cells PC 41)).alloc (.cells #[.int .i64 kd,.int .i64 a,.int .i64 b,.int .i64 c] 61)).heap.size=w.heap.size+1+1):=hz2
 clear X1 O1 hz1 hz2
 generalize hW0:(w.alloc (.cells PC 41)).alloc (.cells #[.int .i64 kd,.int .i64 a,.int .i64 b,.int .i64 c] 61)=W0 at *
 go_enter Tryz.func35,Tryz.ntmps35
 go_upto_region 1 with (first|(rw [hW0])|(refine jah rfl rfl 4 rfl ?_;intro w1 hw1 hs1))
 rw [HZ2.out] at hw1 hs1 ⊢
 have T1:Hid (Below w.heap.size w w1∧PBox w1 w.heap.size p (.slice va p.ships.length vcap)∧OBox w1 (w.heap.size+1) ⟨kd,a,b,c⟩∧PBox w1 (w.heap.size+1+1) jaf (.slice none 0 0)∧w1.heap.size=w.heap.size+1+1+1):=⟨B0.out.trans (hw1.out.2.mono (by omega)),X0.out.1.later hw1.out.2 (by omega),X0.out.2.later hw1.out.2 (by omega),hw1.out.1,hs1⟩
 clear hw1 hs1 X0 B0 HZ2 hW0
 go_wp2_with (refine jac rfl _ rfl w.heap.size p (.slice va p.ships.length vcap) rfl T1.out.2.1 ?_;rw [HPC.out])
 refine(HG _ (HV.out.below T1.out.1)).mono ?_
 rintro e w2 ⟨⟨b2,rfl,hb2⟩,hw2⟩
 have T2:Hid (Below w.heap.size w w2∧PBox w2 w.heap.size p (.slice va p.ships.length vcap)∧OBox w2 (w.heap.size+1) ⟨kd,a,b,c⟩∧PBox w2 (w.heap.size+1+1) jaf (.slice none 0 0)∧w.heap.size+1+1+1≤w2.heap.size):=⟨T1.out.1.trans (hw2.mono (by have:=T1.out.2.2.2.2;omega)),T1.out.2.1.later hw2 T1.out.2.1.lt,T1.out.2.2.1.later hw2 T1.out.2.2.1.lt,T1.out.2.2.2.1.later hw2 T1.out.2.2.2.1.lt,by have:=T1.out.2.2.2.2;have:=hw2.size;omega⟩
 have HB:Hid (b2=true↔jaj p):=hb2
 clear T1 hw2 hb2 HG
 obtain rfl:b2=false:=by
  cases b2
  ·rfl
  ·exact absurd (HB.out.1 rfl) hp
 have NO:Hid (¬ jaj p):=hp
 clear hp HW
 generalize hz:w.heap.size=z at *
 go_wp2_with (first|(go_at_call 57;refine(jax z p (.slice va p.ships.length vcap) _ _ T2.out.2.1 on0).mono ?_;rintro e we ⟨rfl,hbe⟩;have EY:Hid (PBox we (z+1+1) jaf (.slice none 0 0)∧Below z w we):=⟨T2.out.2.2.2.1.later hbe T2.out.2.2.2.1.lt,T2.out.1.trans (hbe.mono (by have:=T2.out.2.2.2.2;omega))⟩;clear hbe)|(refine jab rfl _ _ rfl (z+1+1) jaf p (.slice none 0 0) (.slice va p.ships.length vcap) rfl rfl EY.out.1 h4 on0 ?_;intro w9 hw9 hs9))
 refine bodyPost_ret (v:=.tuple #[.agg (jaa p (.slice va p.ships.length vcap)).toArray,.int .i64 0,.int .i64 1]) (jad Tryz.results35 _ _ (z+1+1) p (.slice va p.ships.length vcap) rfl hw9.out.1) rfl ?_
 have hb9:Below w.heap.size w w9:=by rw [hz];exact EY.out.2.trans (hw9.out.2.2 _ (by omega))
 exact⟨p,(.slice va p.ships.length vcap),0,1,rfl,Or.inl ⟨NO.out,rfl,rfl,rfl⟩,h4,hmx,HS0.out.below hb9,hb9,fun h=>by cases h⟩
end Go.Proofs.YtcmdoeledmkfmacGreatDoor
