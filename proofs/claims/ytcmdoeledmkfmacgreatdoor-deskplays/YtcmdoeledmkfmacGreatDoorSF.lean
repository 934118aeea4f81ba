/- Texts of this claim, in one: MLook MNextM MOld MPlanM MNext MBeg. -/
import Derived.Test.YtcmdoeledmkfmacGreatDoorYS0
import Derived.ChangeKeysEq
import Derived.Test.YtcmdoeledmkfmacGreatDoorSE
import Derived.Test.YtcmdoeledmkfmacGreatDoorS5
set_option linter.unusedSimpArgs false
set_option linter.unusedVariables false
set_option maxHeartbeats 40000000
set_option maxRecDepth 100000
namespace Go.Proofs.YtcmdoeledmkfmacGreatDoor
open Go.RowKit
theorem jq4 {w:World} {g:Nat} (h:w.heap[g]?=some (.cells #[.int .i64 0,.int .i64 0,.int .i64 0,.int .i64 0,.int .i64 0,.int .i64 0,.int .i64 0] 158)):w.cell? ⟨g,0,none⟩=some (.int .i64 0)∧w.cell? ⟨g,1,none⟩=some (.int .i64 0)∧w.cell? ⟨g,2,none⟩=some (.int .i64 0)∧w.cell? ⟨g,3,none⟩=some (.int .i64 0)∧w.cell? ⟨g,4,none⟩=some (.int .i64 0)∧w.cell? ⟨g,5,none⟩=some (.int .i64 0)∧w.cell? ⟨g,6,none⟩=some (.int .i64 0):=by
 refine⟨?_,?_,?_,?_,?_,?_,?_⟩ <;> (rw [cell_of_row _ _ _ _ _ _ h];rfl)
theorem jp2 {w:World} {g:Nat} (h:w.heap[g]?=some (.cells #[.int .i64 0,.int .i64 0,.int .i64 0,.int .i64 0,.int .i64 0,.int .i64 0,.int .i64 0] 158)):w.frozen? ⟨g,0,none⟩=false∧w.frozen? ⟨g,1,none⟩=false∧w.frozen? ⟨g,2,none⟩=false∧w.frozen? ⟨g,3,none⟩=false∧w.frozen? ⟨g,4,none⟩=false∧w.frozen? ⟨g,5,none⟩=false∧w.frozen? ⟨g,6,none⟩=false:=by
 refine⟨?_,?_,?_,?_,?_,?_,?_⟩ <;> simp [World.frozen?,h]
theorem jq5 (w:World) (g:Nat) (s:Ship) (x:Int):Below g w (((((((w.setCell ⟨g,0,none⟩ (.int .i64 s.st)).setCell ⟨g,1,none⟩ (.int .i64 s.wd)).setCell ⟨g,2,none⟩ (.int .i64 s.lg)).setCell ⟨g,3,none⟩ (.int .i64 s.cl)).setCell ⟨g,4,none⟩ (.int .i64 s.si)).setCell ⟨g,5,none⟩ (.int .i64 s.qu)).setCell ⟨g,6,none⟩ (.int .i64 x)) :=
 (((((((Below.refl g w).setCell (Nat.le_refl g) _).setCell (Nat.le_refl g) _).setCell (Nat.le_refl g) _).setCell (Nat.le_refl g) _).setCell (Nat.le_refl g) _).setCell (Nat.le_refl g) _).setCell (Nat.le_refl g) _
theorem jc1 {w:World} {g i:Nat} {c:Array Value} {t:TypeId} {f:Nat×Nat} (h:w.heap[g]?=some (.cells c t f)) (x:Value):(w.setCell ⟨g,i,none⟩ x).heap[g]?=some (.cells (c.setIfInBounds i x) t f):=by
 rw [setCell_eq_setRow w g i _ _ _ _ h,setRow_heap w g _ _ _ _ h]
theorem jq3 {w:World} {g:Nat} {s:Ship} {x:Int} (h:w.heap[g]?=some (.cells #[.int .i64 0,.int .i64 0,.int .i64 0,.int .i64 0,.int .i64 0,.int .i64 0,.int .i64 0] 158)):StB (((((((w.setCell ⟨g,0,none⟩ (.int .i64 s.st)).setCell ⟨g,1,none⟩ (.int .i64 s.wd)).setCell ⟨g,2,none⟩ (.int .i64 s.lg)).setCell ⟨g,3,none⟩ (.int .i64 s.cl)).setCell ⟨g,4,none⟩ (.int .i64 s.si)).setCell ⟨g,5,none⟩ (.int .i64 s.qu)).setCell ⟨g,6,none⟩ (.int .i64 x)) g s x:=by
 have h0:=jc1 (i:=0) h (.int .i64 s.st)
 have h1:=jc1 (i:=1) h0 (.int .i64 s.wd)
 have h2:=jc1 (i:=2) h1 (.int .i64 s.lg)
 have h3:=jc1 (i:=3) h2 (.int .i64 s.cl)
 have h4:=jc1 (i:=4) h3 (.int .i64 s.si)
 have h5:=jc1 (i:=5) h4 (.int .i64 s.qu)
 exact jc1 (i:=6) h5 (.int .i64 x)
theorem jue {w:World} {B gm gd:Nat} {vo vf v:Value} {now lk:Int} {r l:List (Int×Int)} {s:Ship} {y:Nat} {x:Int} (h:MS w B gm gd vo now vf r lk v l) (h2:StB w y s x):gm≠y∧y≠gm:=by
 have:gm≠y:=by
  rintro rfl
  have e:=h2.symm.trans h.box
  injection e with e
  injection e with _ e
  exact absurd e (by decide)
 exact⟨this,this.symm⟩
theorem juf {w:World} {B gm gd:Nat} {vo vf v:Value} {now lk:Int} {r l:List (Int×Int)} {s:Ship} {y:Nat} (h:MS w B gm gd vo now vf r lk v l) (h2:SBox w y s):gm≠y∧y≠gm:=by
 have:gm≠y:=by
  rintro rfl
  have e:=h2.symm.trans h.box
  injection e with e
  injection e with _ e
  exact absurd e (by decide)
 exact⟨this,this.symm⟩
def jud (B gm gd:Nat) (vo:Value) (now:Int) (r:List (Int×Int)) (lk:Int) (l:List (Int×Int)) (s:Ship) (w:World) (e:Ending) (w':World):Prop :=
 ∃ x,e=.returned (.int .i64 x)∧Hid (∃ vf' v' r' l',MS w' B gm gd vo now vf' r' (lk+1) v' l'∧Good r'∧FitIs r now s.lg s.wd x∧(∀ t,0≤t→t < 300→val r' t=val r t - if 0≤x∧x≤t∧t < x+s.lg then s.wd else 0)∧Puts l 2 16 (stayF s x (-1)) l'∧Mf w w' gm gd∧Below B w w')
theorem jtm (B gm gd:Nat) (vo:Value) (now:Int) (vf:Value) (r:List (Int×Int)) (lk:Int) (v:Value) (l:List (Int×Int)) (s:Ship) (n:Nat) (w:World)
  (H:MS w B gm gd vo now vf r lk v l) (L:LB l n) (hn:n≤800) (G:Good r) (hw:0≤s.wd∧s.wd≤16) (hl:1≤s.lg∧s.lg≤300) (h0:0≤now) (hk:0≤lk∧lk≤1000) :
  Calls Tryz.prog 124 #[.pointer (some ⟨gm,0,none⟩),.agg #[.int .i64 s.st,.int .i64 s.wd,.int .i64 s.lg,.int .i64 s.cl,.int .i64 s.si,.int .i64 s.qu]] w fun e w'=>jud B gm gd vo now r lk l s w e w':=by
 have hbw:Below w.heap.size w (w.alloc (.cells #[.int .i64 s.st,.int .i64 s.wd,.int .i64 s.lg,.int .i64 s.cl,.int .i64 s.si,.int .i64 s.qu] 46)):=(Below.refl _ w).alloc (Nat.le_refl _) _
 have hBs:B≤w.heap.size:=H.dr.2.2.2
 have HG:Hid (Good r):=G
 have HL:Hid (LB l n):=L
 have M1:Hid (MS (w.alloc (.cells #[.int .i64 s.st,.int .i64 s.wd,.int .i64 s.lg,.int .i64 s.cl,.int .i64 s.si,.int .i64 s.qu] 46)) B gm gd vo now vf r lk v l∧SBox (w.alloc (.cells #[.int .i64 s.st,.int .i64 s.wd,.int .i64 s.lg,.int .i64 s.cl,.int .i64 s.si,.int .i64 s.qu] 46)) w.heap.size s∧Mf w (w.alloc (.cells #[.int .i64 s.st,.int .i64 s.wd,.int .i64 s.lg,.int .i64 s.cl,.int .i64 s.si,.int .i64 s.qu] 46)) gm gd∧Below B w (w.alloc (.cells #[.int .i64 s.st,.int .i64 s.wd,.int .i64 s.lg,.int .i64 s.cl,.int .i64 s.si,.int .i64 s.qu] 46))∧w.heap.size < (w.alloc (.cells #[.int .i64 s.st,.int .i64 s.wd,.int .i64 s.lg,.int .i64 s.cl,.int .i64 s.si,.int .i64 s.qu] 46)).heap.size∧gm≠w.heap.size):=⟨H.later hbw,SBox.new w s,Mf.of hbw,hbw.mono hBs,by simp,by have:=H.lt;omega⟩
 clear hbw H G L
 have GF:Hid (goodB r=true∧0≤now∧1≤s.lg∧s.lg≤300∧0≤s.wd):=⟨jck.2 HG.out,h0,hl.1,hl.2,hw.1⟩
 generalize hW:w.alloc (.cells #[.int .i64 s.st,.int .i64 s.wd,.int .i64 s.lg,.int .i64 s.cl,.int .i64 s.si,.int .i64 s.qu] 46)=W at *
 generalize hz:w.heap.size=z at *
 have m4:=M1.out.1.cells.2.2.2.2
 have fz:=M1.out.1.frozen 4
 have M2:Hid (MS (W.setCell ⟨gm,4,none⟩ (.int .i64 (lk+1))) B gm gd vo now vf r (lk+1) v l∧SBox (W.setCell ⟨gm,4,none⟩ (.int .i64 (lk+1))) z s∧Mf w (W.setCell ⟨gm,4,none⟩ (.int .i64 (lk+1))) gm gd∧Below B w (W.setCell ⟨gm,4,none⟩ (.int .i64 (lk+1)))):=by
  have hot:=M1.out.1.other 4 (.int .i64 (lk+1))
  exact⟨M1.out.1.setLooked,(Below.heap_setCell _ _ _ _ (by show z≠gm;exact fun e=>M1.out.2.2.2.2.2 e.symm)).trans M1.out.2.1,M1.out.2.2.1.trans hot.2.2.1,M1.out.2.2.2.1.trans hot.2.2.2⟩
 go_enter Tryz.func124,Tryz.ntmps124
 go_upto_region 2 with fail
 rw [hW,hz] at *
 go_upto_region 2 with fail
 clear m4 fz M1
 generalize hW2:W.setCell ⟨gm,4,none⟩ (.int .i64 (lk+1))=W2 at *
 have FA:=jr8 vf r now s.lg s.wd W2.drew (M2.out.1.later ((Below.refl _ _).drew)).sl
 obtain⟨m0,m1,m2,m3,m4⟩:=M2.out.1.cells
 obtain⟨c0,c1,c2,c3,c4,c5⟩:=M2.out.2.1.cells
 clear m0 m3 m4
 have ST:Hid (∀ w5 x,jji r now s.lg s.wd x→Below W2.drew.heap.size W2.drew w5→FitIs r now s.lg s.wd x∧MS w5 B gm gd vo now vf r (lk+1) v l∧SBox w5 z s∧Below W2.heap.size W2 w5):=fun w5 x hx hb=>by
  have h:=jau hb
  exact⟨by unfold jji at hx;rw [if_pos GF.out] at hx;exact hx,M2.out.1.later h,M2.out.2.1.later h M2.out.2.1.lt,h⟩
 have Z2:Hid (Below W2.heap.size W2 (W2.alloc (.cells #[.int .i64 0,.int .i64 0,.int .i64 0,.int .i64 0,.int .i64 0,.int .i64 0,.int .i64 0] 158))∧(W2.alloc (.cells #[.int .i64 0,.int .i64 0,.int .i64 0,.int .i64 0,.int .i64 0,.int .i64 0,.int .i64 0] 158)).heap[W2.heap.size]?=some (.cells #[.int .i64 0,.int .i64 0,.int .i64 0,.int .i64 0,.int .i64 0,.int .i64 0,.int .i64 0] 158)):=⟨(Below.refl _ _).alloc (Nat.le_refl _) _,heap_alloc_new W2 _⟩
 have FZ:=jr8 vf r now s.lg s.wd (W2.alloc (.cells #[.int .i64 0,.int .i64 0,.int .i64 0,.int .i64 0,.int .i64 0,.int .i64 0,.int .i64 0] 158)).drew (M2.out.1.later Z2.out.1.drew).sl
 have SZ:Hid (∀ w5 x,jji r now s.lg s.wd x→Below (W2.alloc (.cells #[.int .i64 0,.int .i64 0,.int .i64 0,.int .i64 0,.int .i64 0,.int .i64 0,.int .i64 0] 158)).drew.heap.size (W2.alloc (.cells #[.int .i64 0,.int .i64 0,.int .i64 0,.int .i64 0,.int .i64 0,.int .i64 0,.int .i64 0] 158)).drew w5→(FitIs r now s.lg s.wd x∧MS w5 B gm gd vo now vf r (lk+1) v l∧SBox w5 z s∧Mf w w5 gm gd∧Below B w w5)∧w5.heap[W2.heap.size]?=some (.cells #[.int .i64 0,.int .i64 0,.int .i64 0,.int .i64 0,.int .i64 0,.int .i64 0,.int .i64 0] 158)∧Below W2.heap.size W2 w5):=fun w5 x hx hb=>by
  have h0:=jau hb
  have h:Below W2.heap.size W2 w5:=Z2.out.1.trans (h0.mono Z2.out.1.size)
  exact⟨⟨by unfold jji at hx;rw [if_pos GF.out] at hx;exact hx,M2.out.1.later h,M2.out.2.1.later h M2.out.2.1.lt,M2.out.2.2.1.trans (Mf.of h),M2.out.2.2.2.trans (h.mono M2.out.1.dr.2.2.2)⟩,by rw [h0.block _ (Array.getElem?_eq_some_iff.1 Z2.out.2).1];exact Z2.out.2,h⟩
 have hze:(W2.alloc (.cells #[.int .i64 0,.int .i64 0,.int .i64 0,.int .i64 0,.int .i64 0,.int .i64 0,.int .i64 0] 158)).heap.size=W2.heap.size+1:=by simp
 have LOK:Hid (∀ w' y x,FitIs r now s.lg s.wd x→Below W2.heap.size W2 w'→StB w' y s x→FitIs r now s.lg s.wd x∧MS w' B gm gd vo now vf r (lk+1) v l∧SBox w' z s∧StB w' y s x∧Mf w w' gm gd∧Below B w w'):=fun w' y x h1 h h3 =>
  ⟨h1,M2.out.1.later h,M2.out.2.1.later h M2.out.2.1.lt,h3,M2.out.2.2.1.trans (Mf.of h),M2.out.2.2.2.trans (h.mono M2.out.1.dr.2.2.2)⟩
 have n1:gm≠W2.heap.size:=by have:=M2.out.1.lt;omega
 have n2:z≠W2.heap.size:=by have:=M2.out.2.1.lt;omega
 have n3:W2.heap.size≠gm:=fun e=>n1 e.symm
 have n4:W2.heap.size≠z:=fun e=>n2 e.symm
 go_cut [5] (fun s5 wc=>∃ y x,s5=.pointer (some ⟨y,0,none⟩)∧Hid (FitIs r now s.lg s.wd x∧MS wc B gm gd vo now vf r (lk+1) v l∧SBox wc z s∧StB wc y s x∧Mf w wc gm gd∧Below B w wc))
 case first =>
  go_region_held (fun w'=>w'.cell? ⟨gm,1,none⟩=some (.int .i64 now)∧w'.cell? ⟨gm,2,none⟩=some vf∧w'.cell? ⟨z,0,none⟩=some (.int .i64 s.st)∧w'.cell? ⟨z,1,none⟩=some (.int .i64 s.wd)∧w'.cell? ⟨z,2,none⟩=some (.int .i64 s.lg)∧w'.cell? ⟨z,3,none⟩=some (.int .i64 s.cl)∧w'.cell? ⟨z,4,none⟩=some (.int .i64 s.si)∧w'.cell? ⟨z,5,none⟩=some (.int .i64 s.qu)) (go_keep) (first|(go_at_call 113;refine FA.mono ?_;rintro e w5 ⟨x,rfl,hx,hb5⟩;have F5:Hid _:=ST.out w5 x hx hb5;have q1:=F5.out.2.1.cells.2.1;have q2:=F5.out.2.1.cells.2.2.1;have q3:=F5.out.2.2.1.cells.1;have q4:=F5.out.2.2.1.cells.2.1;have q5:=F5.out.2.2.1.cells.2.2.1;have q6:=F5.out.2.2.1.cells.2.2.2.1;have q7:=F5.out.2.2.1.cells.2.2.2.2.1;have q8:=F5.out.2.2.1.cells.2.2.2.2.2;clear hx hb5)|(go_at_call 113;refine FZ.mono ?_;rintro e w5 ⟨x,rfl,hx,hb5⟩;have F5:Hid _:=(SZ.out w5 x hx hb5).1;have E5:Hid _:=(SZ.out w5 x hx hb5).2;obtain⟨y0,y1,y2,y3,y4,y5,y6⟩:=jq4 E5.out.1;obtain⟨f0,f1,f2,f3,f4,f5,f6⟩:=jp2 E5.out.1;have q1:=F5.out.2.1.cells.2.1;have q2:=F5.out.2.1.cells.2.2.1;have q3:=F5.out.2.2.1.cells.1;have q4:=F5.out.2.2.1.cells.2.1;have q5:=F5.out.2.2.1.cells.2.2.1;have q6:=F5.out.2.2.1.cells.2.2.2.1;have q7:=F5.out.2.2.1.cells.2.2.2.2.1;have q8:=F5.out.2.2.1.cells.2.2.2.2.2;clear hx hb5))
  all_goals go_wp2_with fail
  ·go_meet
   exact⟨_,x,rfl,LOK.out _ _ x F5.out.1 (F5.out.2.2.2.trans (((Below.refl _ w5).alloc (Nat.le_refl _) _).mono F5.out.2.2.2.size)) (heap_alloc_new w5 _)⟩
  ·go_meet
   exact⟨_,x,rfl,LOK.out _ _ x F5.out.1 (E5.out.2.trans (jq5 w5 _ s x)) (jq3 E5.out.1)⟩
 case rest =>
  obtain⟨y,x,rfl,C⟩:=hcut
  have HX:Hid (FitIs r now s.lg s.wd x):=C.out.1
  have hxa:-1≤x:=by rcases C.out.1 with ⟨h,_⟩|⟨h,_⟩ <;> omega
  have hxb:x≤300:=by rcases C.out.1 with ⟨h,_⟩|⟨h,h2,_⟩ <;> omega
  clear n1 n2 n3 n4 hze m1 m2 c0 c1 c2 c3 c4 c5 FA FZ ST SZ Z2 LOK M2 GF
  obtain⟨d0,d1,d2,d3,d4,d5,d6⟩:=C.out.2.2.2.1.cells
  clear d0 d1 d2 d3 d4 d5
  by_cases hx1:x=-1
  ·have hb:(x != -1)=false:=by simp [hx1]
   have D:Hid (MS wc B gm gd vo now vf r (lk+1) v l∧StB wc y s x∧Mf w wc gm gd∧Below B w wc):=⟨C.out.2.1,C.out.2.2.2.1,C.out.2.2.2.2.1,C.out.2.2.2.2.2⟩
   have RR:Hid (Good r∧∀ t,0≤t→t < 300→val r t=val r t - if 0≤x∧x≤t∧t < x+s.lg then s.wd else 0):=⟨HG.out,fun t _ _=>by rw [if_neg (by omega)];omega⟩
   clear hx1 C
   go_wp2_with fail
   clear d6
   generalize wc=wd at *
   have SA:Calls Tryz.prog 123 #[.pointer (some ⟨gd,0,none⟩),.agg #[.int .i64 s.st,.int .i64 s.wd,.int .i64 s.lg,.int .i64 s.cl,.int .i64 s.si,.int .i64 s.qu,.int .i64 x],.int .i64 (-1)] wd.drew fun e w'=>je5 B gd l 2 16 (stayF s x (-1)) wd.drew e w':=jie B gd l v s x (-1) (n*16) wd.drew (D.out.1.later ((Below.refl _ _).drew)).dr HL.out.up (by have:=HL.out.len;omega) (by omega) (by omega) HL.out.bd hw.1 hw.2 hl.1 hl.2 hxa hxb (Or.inr rfl)
   have SD:Hid (∀ e w',je5 B gd l 2 16 (stayF s x (-1)) wd.drew e w'→e=.returned (.tuple #[])∧StB w' y s x∧∃ vf' v' r' l',MS w' B gm gd vo now vf' r' (lk+1) v' l'∧Good r'∧FitIs r now s.lg s.wd x∧(∀ t,0≤t→t < 300→val r' t=val r t - if 0≤x∧x≤t∧t < x+s.lg then s.wd else 0)∧Puts l 2 16 (stayF s x (-1)) l'∧Mf w w' gm gd∧Below B w w'):=by
    rintro e w' ⟨rfl,l',v',hp,hd,hb,hr⟩
    have M8:=D.out.1.later ((Below.refl _ wd).drew)
    have M9:=M8.turn hr hd
    have S8:StB wd.drew y s x:=D.out.2.1
    exact⟨rfl,(hr.block M8.dr S8 (by decide) (by decide)).trans S8,_,v',_,l',M9,RR.out.1,HX.out,RR.out.2,hp,(D.out.2.2.1.trans (Mf.of ((Below.refl _ wd).drew))).trans (Mf.ofDr hr),D.out.2.2.2.drew.trans hb⟩
   have dm3:=D.out.1.cells.2.2.2.1
   obtain⟨d0,d1,d2,d3,d4,d5,d6⟩:=D.out.2.1.cells
   clear D RR
   go_region_held (fun w'=>w'.cell? ⟨gm,3,none⟩=some (.pointer (some ⟨gd,0,none⟩))∧w'.cell? ⟨y,0,none⟩=some (.int .i64 s.st)∧w'.cell? ⟨y,1,none⟩=some (.int .i64 s.wd)∧w'.cell? ⟨y,2,none⟩=some (.int .i64 s.lg)∧w'.cell? ⟨y,3,none⟩=some (.int .i64 s.cl)∧w'.cell? ⟨y,4,none⟩=some (.int .i64 s.si)∧w'.cell? ⟨y,5,none⟩=some (.int .i64 s.qu)∧w'.cell? ⟨y,6,none⟩=some (.int .i64 x)) (go_keep) (first|(go_at_call 123;refine SA.mono ?_;intro e w7 h7;obtain⟨rfl,s7,h7⟩:=SD.out e w7 h7;have F7:Hid _:=h7;clear h7;have q3:w7.cell? ⟨gm,3,none⟩=some (.pointer (some ⟨gd,0,none⟩)):=by { obtain⟨_,_,_,_,h,_⟩:=F7.out;exact h.cells.2.2.2.1 };obtain⟨t0,t1,t2,t3,t4,t5,t6⟩:=s7.cells;clear s7))
   all_goals go_wp2_with fail
   all_goals go_ret
   all_goals exact⟨x,rfl,F7⟩
  ·have hb:(x != -1)=true:=by simp [hx1]
   obtain⟨x1,x2,x3⟩:now≤x∧x+s.lg≤300∧room r s.wd x s.lg:=by
    rcases HX.out with ⟨h,_⟩|⟨h1,h2,h3,_⟩
    ·exact absurd h hx1
    ·exact⟨h1,h2,h3⟩
   have TK:=jo9 (tu:=x+s.lg) wc.drew (C.out.2.1.later ((Below.refl _ _).drew)).sl HG.out hw (by omega:0≤x) (by omega) x2 x3
   have ST:Hid (∀ w6,Below wc.drew.heap.size wc.drew w6→MS w6 B gm gd vo now vf r (lk+1) v l∧SBox w6 z s∧StB w6 y s x∧Mf w w6 gm gd∧Below B w w6):=fun w6 h=>by
    have h:=jau h
    have hyl:y < wc.heap.size:=(Array.getElem?_eq_some_iff.1 C.out.2.2.2.1).1
    exact⟨C.out.2.1.later h,C.out.2.2.1.later h C.out.2.2.1.lt,by unfold StB;rw [h.block y hyl];exact C.out.2.2.2.1,C.out.2.2.2.2.1.trans (Mf.of h),C.out.2.2.2.2.2.trans (h.mono C.out.2.1.dr.2.2.2)⟩
   have BS:Hid (B≤wc.drew.heap.size):=C.out.2.1.dr.2.2.2
   have hwr:IntKind.i64.wrap (x+s.lg)=x+s.lg:=by first|exact jbk (by omega) (by omega)|exact jbk _ (by omega) (by omega)
   have k2:=C.out.2.1.cells.2.2.1
   obtain⟨e0,e1,e2,e3,e4,e5⟩:=C.out.2.2.1.cells
   clear hx1 x3 C e0 e3 e4 e5
   go_wp2_with fail
   refine wp_region_held_drew (S:=(fun w'=>w'.cell? ⟨y,6,none⟩=some (.int .i64 x)∧w'.cell? ⟨z,1,none⟩=some (.int .i64 s.wd)∧w'.cell? ⟨z,2,none⟩=some (.int .i64 s.lg))) (by kernel_rfl) (by (try dsimp only);go_keep) (fun hHeld=>?_)
   refine wpAnyH_take (i:=0) (v:=?_) rfl (by kernel_rfl) (by kernel_rfl) (by kernel_rfl) (fun _ _ _ h=>h) (Or.inl ⟨by rfl,?_⟩) (by assumption) ?_
   rotate_left
   ·(intro w hSw;(try dsimp only at hSw);first|(go_simp;done)|(go_simp;with_reducible rfl))
   try simp only [Act.put,jjA,jjB,jjC]
   refine wpAnyH_take (i:=1) (v:=?_) rfl (by kernel_rfl) (by kernel_rfl) (by kernel_rfl) (fun _ _ _ h=>h) (Or.inl ⟨by rfl,?_⟩) (by assumption) ?_
   rotate_left
   ·(intro w hSw;(try dsimp only at hSw);first|(go_simp;done)|(go_simp;with_reducible rfl))
   try simp only [Act.put,jjA,jjB,jjC]
   refine wpAnyH_take (i:=2) (v:=?_) rfl (by kernel_rfl) (by kernel_rfl) (by kernel_rfl) (fun _ _ _ h=>h) (Or.inl ⟨by rfl,?_⟩) (by assumption) ?_
   rotate_left
   ·(intro w hSw;(try dsimp only at hSw);first|(go_simp;done)|(go_simp;with_reducible rfl))
   try simp only [Act.put,jjA,jjB,jjC]
   refine wpAnyH_take (i:=3) (v:=?_) rfl (by kernel_rfl) (by kernel_rfl) (by kernel_rfl) (fun _ _ _ h=>h) (Or.inl ⟨by rfl,?_⟩) (by assumption) ?_
   rotate_left
   ·(intro w hSw;(try dsimp only at hSw);first|(go_simp;done)|(go_simp;with_reducible rfl))
   try simp only [Act.put,jjA,jjB,jjC]
   refine wpAnyH_take (i:=5) (v:=?_) rfl (by kernel_rfl) (by kernel_rfl) (by kernel_rfl) (fun _ _ _ h=>h) (Or.inl ⟨by rfl,?_⟩) (by assumption) ?_
   rotate_left
   ·(intro w hSw;(try dsimp only at hSw);first|(go_simp;done)|(go_simp;with_reducible rfl))
   try simp only [Act.put,jjA,jjB,jjC]
   refine wpAnyH_take (i:=6) (v:=?_) rfl (by kernel_rfl) (by kernel_rfl) (by kernel_rfl) (fun _ _ _ h=>h) (Or.inl ⟨by rfl,?_⟩) (by assumption) ?_
   rotate_left
   ·(intro w hSw;(try dsimp only at hSw);first|(go_simp;done)|(go_simp;with_reducible rfl))
   try simp only [Act.put,jjA,jjB,jjC]
   refine wpAnyH_take (i:=7) (v:=?_) rfl (by kernel_rfl) (by kernel_rfl) (by kernel_rfl) (fun _ _ _ h=>h) (Or.inl ⟨by rfl,?_⟩) (by assumption) ?_
   rotate_left
   ·(intro w hSw;(try dsimp only at hSw);first|(go_simp;done)|(go_simp;with_reducible rfl))
   try simp only [Act.put,jjA,jjB,jjC]
   refine wpAnyH_take (i:=8) (v:=?_) rfl (by kernel_rfl) (by kernel_rfl) (by kernel_rfl) (fun _ _ _ h=>h) (Or.inl ⟨by rfl,?_⟩) (by assumption) ?_
   rotate_left
   ·(intro w hSw;(try dsimp only at hSw);first|(go_simp;done)|(go_simp;with_reducible rfl))
   try simp only [Act.put,jjA,jjB,jjC]
   refine wpAnyH_take (i:=9) (v:=?_) rfl (by kernel_rfl) (by kernel_rfl) (by kernel_rfl) (fun _ _ _ h=>h) (Or.inl ⟨by rfl,?_⟩) (by assumption) ?_
   rotate_left
   ·(intro w hSw;(try dsimp only at hSw);first|(go_simp;done)|(go_simp;with_reducible rfl))
   try simp only [Act.put,jjA,jjB,jjC]
   refine wpAnyH_take (i:=10) (v:=?_) rfl (by kernel_rfl) (by kernel_rfl) (by kernel_rfl) (fun _ _ _ h=>h) (Or.inl ⟨by rfl,?_⟩) (by assumption) ?_
   rotate_left
   ·(intro w hSw;(try dsimp only at hSw);first|(go_simp;done)|(go_simp;with_reducible rfl))
   try simp only [Act.put,jjA,jjB,jjC]
   refine wpAnyH_take (i:=11) (v:=?_) rfl (by kernel_rfl) (by kernel_rfl) (by kernel_rfl) (fun _ _ _ h=>h) (Or.inl ⟨by rfl,?_⟩) (by assumption) ?_
   rotate_left
   ·(intro w hSw;(try dsimp only at hSw);first|(go_simp;done)|(go_simp;with_reducible rfl))
   try simp only [Act.put,jjA,jjB,jjC]
   refine wpAnyH_take (i:=12) (v:=?_) rfl (by kernel_rfl) (by kernel_rfl) (by kernel_rfl) (fun _ _ _ h=>h) (Or.inl ⟨by rfl,?_⟩) (by assumption) ?_
   rotate_left
   ·(intro w hSw;(try dsimp only at hSw);first|(go_simp;done)|(go_simp;with_reducible rfl))
   try simp only [Act.put,jjA,jjB,jjC]
   refine wpAnyH_take (i:=13) (v:=?_) rfl (by kernel_rfl) (by kernel_rfl) (by kernel_rfl) (fun _ _ _ h=>h) (Or.inl ⟨by rfl,?_⟩) (by assumption) ?_
   rotate_left
   ·(intro w hSw;(try dsimp only at hSw);first|(go_simp;done)|(go_simp;with_reducible rfl))
   try simp only [Act.put,jjA,jjB,jjC]
   refine jjR 4 (by kernel_rfl) rfl fun K hK=>?_
   go_simp
   refine hK.out _ _ (by (try dsimp only);go_keep) (fun hHeld=>?_)
   clear hK K
   refine jjR 14 (by kernel_rfl) rfl fun K hK=>?_
   go_simp
   go_wp2_with (first|(go_at_call 114;refine TK.mono ?_;rintro e w6 ⟨v6,rfl,T6⟩;obtain⟨g6,o6,n6,cp6,rfl⟩:∃ g o n c,v6=.slice (some ⟨g,o,none⟩) n c:=T6.out.2.1.shape;have F6:Hid _:=ST.out w6 T6.out.2.2;have q1:=F6.out.2.2.1.cells.2.2.2.2.2.2;have q2:=F6.out.2.1.cells.2.1;have q3:=F6.out.2.1.cells.2.2.1;have q4:=F6.out.1.cells.2.2.1;have q5:=F6.out.1.frozen 2;have q6:=jue F6.out.1 F6.out.2.2.1;have q7:=juf F6.out.1 F6.out.2.1))
   refine hK.out _ _ (by (try dsimp only);go_keep) (fun hHeld=>?_)
   clear hK K
   refine wpAnyH_take (i:=15) (v:=?_) rfl (by kernel_rfl) (by kernel_rfl) (by kernel_rfl) (fun _ _ _ h=>h) (Or.inl ⟨by rfl,?_⟩) (by assumption) ?_
   rotate_left
   ·(intro w hSw;(try dsimp only at hSw);first|(go_simp;done)|(go_simp;with_reducible rfl))
   try simp only [Act.put,jjA,jjB,jjC]
   refine wpAnyH_take (i:=16) (v:=?_) rfl (by kernel_rfl) (by kernel_rfl) (by kernel_rfl) (fun _ _ _ h=>h) (Or.inl ⟨by rfl,?_⟩) (by assumption) ?_
   rotate_left
   ·(intro w hSw;(try dsimp only at hSw);first|(go_simp;done)|(go_simp;with_reducible rfl))
   try simp only [Act.put,jjA,jjB,jjC]
   refine wpAnyH_take (i:=17) (v:=?_) rfl (by kernel_rfl) (by kernel_rfl) (by kernel_rfl) (fun _ _ _ h=>h) (Or.inl ⟨by rfl,?_⟩) (by assumption) ?_
   rotate_left
   ·(intro w hSw;(try dsimp only at hSw);first|(go_simp;done)|(go_simp;with_reducible rfl))
   try simp only [Act.put,jjA,jjB,jjC]
   refine wpAnyH_take (i:=18) (v:=?_) rfl (by kernel_rfl) (by kernel_rfl) (by kernel_rfl) (fun _ _ _ h=>h) (Or.inl ⟨by rfl,?_⟩) (by assumption) ?_
   rotate_left
   ·(intro w hSw;(try dsimp only at hSw);first|(go_simp;done)|(go_simp;with_reducible rfl))
   try simp only [Act.put,jjA,jjB,jjC]
   refine wpAnyH_take (i:=19) (v:=?_) rfl (by kernel_rfl) (by kernel_rfl) (by kernel_rfl) (fun _ _ _ h=>h) (Or.inl ⟨by rfl,?_⟩) (by assumption) ?_
   rotate_left
   ·(intro w hSw;(try dsimp only at hSw);first|(go_simp;done)|(go_simp;with_reducible rfl))
   try simp only [Act.put,jjA,jjB,jjC]
   refine jjR 20 (by kernel_rfl) rfl fun K hK=>?_
   go_simp
   refine hK.out _ _ (by (try dsimp only);go_keep) (fun hHeld=>?_)
   clear hK K
   refine wpAnyH_done (by kernel_rfl) ?_ _
   go_wp2_with fail
   obtain⟨⟨r',t1,t2,t3⟩,t4,t5⟩:=T6.out
   have hot:=F6.out.1.other 2 (.slice (some ⟨g6,o6,none⟩) n6 cp6)
   have D:Hid (MS (w6.setCell ⟨gm,2,none⟩ (.slice (some ⟨g6,o6,none⟩) n6 cp6)) B gm gd vo now (.slice (some ⟨g6,o6,none⟩) n6 cp6) r' (lk+1) v l∧StB (w6.setCell ⟨gm,2,none⟩ (.slice (some ⟨g6,o6,none⟩) n6 cp6)) y s x∧Mf w (w6.setCell ⟨gm,2,none⟩ (.slice (some ⟨g6,o6,none⟩) n6 cp6)) gm gd∧Below B w (w6.setCell ⟨gm,2,none⟩ (.slice (some ⟨g6,o6,none⟩) n6 cp6))):=⟨F6.out.1.setFree t1 (t4.mono BS.out),(Below.heap_setCell _ _ _ _ (by show y≠gm;exact q6.2)).trans F6.out.2.2.1,F6.out.2.2.2.1.trans hot.2.2.1,F6.out.2.2.2.2.trans hot.2.2.2⟩
   have RR:Hid (Good r'∧∀ t,0≤t→t < 300→val r' t=val r t - if 0≤x∧x≤t∧t < x+s.lg then s.wd else 0):=⟨t2,fun t ta tb=>by
    rw [t3 t ta tb]
    by_cases c:x≤t∧t < x+s.lg
    ·rw [if_pos c,if_pos ⟨by omega,c⟩]
    ·rw [if_neg c,if_neg (fun c2=>c c2.2)]⟩
   clear t1 t2 t3 t4 t5 hot F6 T6 q1 q2 q3 q4 q5 q6 q7 k2 e1 e2 d6 TK ST BS
   generalize w6.setCell ⟨gm,2,none⟩ (.slice (some ⟨g6,o6,none⟩) n6 cp6)=wd at *
   have SA:Calls Tryz.prog 123 #[.pointer (some ⟨gd,0,none⟩),.agg #[.int .i64 s.st,.int .i64 s.wd,.int .i64 s.lg,.int .i64 s.cl,.int .i64 s.si,.int .i64 s.qu,.int .i64 x],.int .i64 (-1)] wd.drew fun e w'=>je5 B gd l 2 16 (stayF s x (-1)) wd.drew e w':=jie B gd l v s x (-1) (n*16) wd.drew (D.out.1.later ((Below.refl _ _).drew)).dr HL.out.up (by have:=HL.out.len;omega) (by omega) (by omega) HL.out.bd hw.1 hw.2 hl.1 hl.2 hxa hxb (Or.inr rfl)
   have SD:Hid (∀ e w',je5 B gd l 2 16 (stayF s x (-1)) wd.drew e w'→e=.returned (.tuple #[])∧StB w' y s x∧∃ vf' v' r' l',MS w' B gm gd vo now vf' r' (lk+1) v' l'∧Good r'∧FitIs r now s.lg s.wd x∧(∀ t,0≤t→t < 300→val r' t=val r t - if 0≤x∧x≤t∧t < x+s.lg then s.wd else 0)∧Puts l 2 16 (stayF s x (-1)) l'∧Mf w w' gm gd∧Below B w w'):=by
    rintro e w' ⟨rfl,l',v',hp,hd,hb,hr⟩
    have M8:=D.out.1.later ((Below.refl _ wd).drew)
    have M9:=M8.turn hr hd
    have S8:StB wd.drew y s x:=D.out.2.1
    exact⟨rfl,(hr.block M8.dr S8 (by decide) (by decide)).trans S8,_,v',_,l',M9,RR.out.1,HX.out,RR.out.2,hp,(D.out.2.2.1.trans (Mf.of ((Below.refl _ wd).drew))).trans (Mf.ofDr hr),D.out.2.2.2.drew.trans hb⟩
   have dm3:=D.out.1.cells.2.2.2.1
   obtain⟨d0,d1,d2,d3,d4,d5,d6⟩:=D.out.2.1.cells
   clear D RR
   go_region_held (fun w'=>w'.cell? ⟨gm,3,none⟩=some (.pointer (some ⟨gd,0,none⟩))∧w'.cell? ⟨y,0,none⟩=some (.int .i64 s.st)∧w'.cell? ⟨y,1,none⟩=some (.int .i64 s.wd)∧w'.cell? ⟨y,2,none⟩=some (.int .i64 s.lg)∧w'.cell? ⟨y,3,none⟩=some (.int .i64 s.cl)∧w'.cell? ⟨y,4,none⟩=some (.int .i64 s.si)∧w'.cell? ⟨y,5,none⟩=some (.int .i64 s.qu)∧w'.cell? ⟨y,6,none⟩=some (.int .i64 x)) (go_keep) (first|(go_at_call 123;refine SA.mono ?_;intro e w7 h7;obtain⟨rfl,s7,h7⟩:=SD.out e w7 h7;have F7:Hid _:=h7;clear h7;have q3:w7.cell? ⟨gm,3,none⟩=some (.pointer (some ⟨gd,0,none⟩)):=by { obtain⟨_,_,_,_,h,_⟩:=F7.out;exact h.cells.2.2.2.1 };obtain⟨t0,t1,t2,t3,t4,t5,t6⟩:=s7.cells;clear s7))
   all_goals go_wp2_with fail
   all_goals go_ret
   all_goals exact⟨x,rfl,F7⟩
structure ShOk (s:Ship):Prop where
 wd:1≤s.wd∧s.wd≤16
 lg:1≤s.lg∧s.lg≤300
structure Drift (l r:List (Int×Int)) (now wn:Int) (F:Int→Int):Prop where
 says:∀ t,t < 300→sumTo l t=(if now≤t then val r t else 0) - F t
 zero:∀ t,t < wn→F t=0
def OldIs (wn:Int):(Int→Int)→List (Ship×Int)→Prop
 | _,[]=>True
 | F,x::os=>(FitF F wn x.1.lg x.1.wd x.2∧ShOk x.1)∧OldIs wn (fun t=>F t - stayF x.1 x.2 1 t) os
theorem FitF.at_ok {F:Int→Int} {wn lg wd a:Int} (h:FitF F wn lg wd a) (h0:0≤wn):a=-1∨0≤a∧a+lg≤300:=by
 rcases h with ⟨h,_⟩|⟨h1,h2,_⟩
 ·exact Or.inl h
 ·exact Or.inr ⟨by omega,h2⟩
theorem jls {F:Int→Int} {wn:Int} {s:Ship} {a:Int} (hz:∀ t,t < wn→F t=0) (h:FitF F wn s.lg s.wd a):∀ t,t < wn→F t - stayF s a 1 t=0:=fun t ht=>by
 rw [hz t ht]
 unfold stayF
 rcases h with ⟨h,_⟩|⟨h1,h2,_⟩
 ·rw [if_pos h];omega
 ·by_cases c:a=-1
  ·rw [if_pos c];omega
  ·rw [if_neg c,if_neg (by omega)];omega
theorem Drift.pass {l l' r:List (Int×Int)} {now wn:Int} {F:Int→Int} {s:Ship} {a:Int} (h:Drift l r now wn F) (hf:FitF F wn s.lg s.wd a) (hp:Puts l 2 16 (stayF s a 1) l'):Drift l' r now wn (fun t=>F t - stayF s a 1 t) :=
 ⟨fun t ht=>by rw [hp.says t,h.says t ht];omega,jls h.zero hf⟩
theorem Drift.stays {l r r':List (Int×Int)} {now wn:Int} {F:Int→Int} {s:Ship} {a:Int} (h:Drift l r now wn F) (h0:0≤now) (hf:FitF F wn s.lg s.wd a) (hr:(a=-1∧r'=r)∨(a≠-1∧now≤a∧∀ t,0≤t→t < 300→val r' t=val r t - if a≤t∧t < a+s.lg then s.wd else 0)):Drift l r' now wn (fun t=>F t - stayF s a 1 t):=by
 refine⟨fun t ht=>?_,jls h.zero hf⟩
 have e:=h.says t ht
 rcases hr with ⟨ha,rfl⟩|⟨ha,hb,hr⟩
 ·unfold stayF;rw [if_pos ha];omega
 ·unfold stayF
  rw [if_neg ha,e]
  by_cases c:now≤t
  ·rw [if_pos c,if_pos c,hr t (by omega) ht]
   by_cases c2:a≤t∧t < a+s.lg
   ·rw [if_pos c2,if_pos c2];omega
   ·rw [if_neg c2,if_neg c2];omega
  ·rw [if_neg c,if_neg c,if_neg (by omega)];omega
theorem Drift.looks {l l' r r':List (Int×Int)} {now wn:Int} {F:Int→Int} {s:Ship} {x:Int} (h:Drift l r now wn F) (h0:0≤now) (hx:FitIs r now s.lg s.wd x) (hr:∀ t,0≤t→t < 300→val r' t=val r t - if 0≤x∧x≤t∧t < x+s.lg then s.wd else 0) (hp:Puts l 2 16 (stayF s x (-1)) l'):Drift l' r' now wn F:=by
 refine⟨fun t ht=>?_,h.zero⟩
 rw [hp.says t,h.says t ht]
 unfold stayF
 by_cases c:now≤t
 ·rw [if_pos c,if_pos c,hr t (by omega) ht]
  by_cases cx:x=-1
  ·rw [if_pos cx,if_neg (by omega)];omega
  ·have hxn:now≤x:=by rcases hx with ⟨h,_⟩|⟨h,_⟩ <;> omega
   rw [if_neg cx]
   by_cases c2:x≤t∧t < x+s.lg
   ·rw [if_pos c2,if_pos ⟨by omega,c2⟩];omega
   ·rw [if_neg c2,if_neg (fun c3=>c2 c3.2)];omega
 ·rw [if_neg c,if_neg c]
  by_cases cx:x=-1
  ·rw [if_pos cx];omega
  ·have hxn:now≤x:=by rcases hx with ⟨h,_⟩|⟨h,_⟩ <;> omega
   rw [if_neg cx,if_neg (by omega)];omega
theorem jn5 {l r r':List (Int×Int)} {now wn:Int} {F:Int→Int} {s:Ship} {a:Int} (h0w:0≤wn) (hu:Up l) (h:Drift l r now wn F) (hs:ShOk s) (hf:FitF F wn s.lg s.wd a) (hr:RemIs r now l s a true r'):FitIs r now s.lg s.wd a:=by
 have le:∀ A,jbi 0 l A=false→∀ t,t < A→sumTo l t≤0:=fun A hA t ht=>by
  apply Classical.byContradiction
  intro hc
  have:=(jnb hu A).2 ⟨t,ht,by omega⟩
  rw [hA] at this
  cases this
 have hw:=hs.wd.1
 have hl:=hs.lg.1
 rcases hr with ⟨h1,_⟩|⟨_,h2,h3,_⟩|⟨_,h2,h3,h4,h5,_⟩
 ·cases h1
 ·refine Or.inl ⟨h2,fun t ht htl hroom=>?_⟩
  have hle:=le 300 h3
  have hF:∀ u,t≤u→u < t+s.lg→s.wd≤F u:=fun u hu1 hu2=>by
   have e:=h.says u (by omega)
   have e2:=hle u (by omega)
   rw [if_pos (by omega)] at e
   have:=hroom u hu1 hu2
   omega
  by_cases c:wn≤t
  ·rcases hf with ⟨_,hf⟩|⟨g1,g2,_⟩
   ·exact hf t c htl hF
   ·omega
  ·have:=hF t (by omega) (by omega)
   rw [h.zero t (by omega)] at this
   omega
 ·rcases hf with ⟨g1,_⟩|⟨g1,g2,g3,g4⟩
  ·exact absurd g1 h2
  ·refine Or.inr ⟨h3,g2,h5,fun t ht hta hroom=>?_⟩
   have hle:=le a h4
   have hF:∀ u,t≤u→u < t+s.lg→s.wd≤F u:=fun u hu1 hu2=>by
    by_cases c:u < a
    ·have e:=h.says u (by omega)
     have e2:=hle u c
     rw [if_pos (by omega)] at e
     have:=hroom u hu1 hu2
     omega
    ·exact g3 u (by omega) (by omega)
   by_cases c:wn≤t
   ·exact g4 t c hta hF
   ·have:=hF t (by omega) (by omega)
    rw [h.zero t (by omega)] at this
    omega
theorem jm4 {l r r':List (Int×Int)} {now:Int} {s:Ship} {a:Int} {ok:Bool} (hu:Up l) (hz:∀ t,t < 300→sumTo l t≤0) (hs:ShOk s) (hx:FitIs r now s.lg s.wd a) (hr:RemIs r now l s a ok r') (h0:0≤now):ok=true:=by
 have no:∀ A,A≤300→jbi 0 l A=false:=fun A hA=>by
  cases e:jbi 0 l A
  ·rfl
  ·obtain⟨t,ht,hp⟩:=(jnb hu A).1 e
   have:=hz t (by omega)
   omega
 have hl:=hs.lg.1
 rcases hr with ⟨_,_,h1,h2⟩|⟨h,_⟩|⟨h,_⟩
 ·rcases hx with ⟨g1,_⟩|⟨g1,g2,g3,_⟩
  ·have:=h1 g1
   rw [no 300 (Int.le_refl _)] at this
   cases this
  ·rcases h2 (by omega) with h|h|h
   ·omega
   ·rw [no a (by omega)] at h
    cases h
   ·exact absurd g3 h
 ·exact h
 ·exact h
def cSt (x:Ship×Int):List Value:=[.int .i64 x.1.st,.int .i64 x.1.wd,.int .i64 x.1.lg,.int .i64 x.1.cl,.int .i64 x.1.si,.int .i64 x.1.qu,.int .i64 x.2]
theorem encSt:EncOk 7 cSt:=⟨fun _=>rfl,fun x v hv=>by simp [cSt] at hv;rcases hv with rfl|rfl|rfl|rfl|rfl|rfl|rfl <;> rfl⟩
theorem tySt:TyOk 132 158 7 56 cSt:=⟨encSt,by decide,Tryz.underlying132,infoK (z:=.agg #[.int .i64 0,.int .i64 0,.int .i64 0,.int .i64 0,.int .i64 0,.int .i64 0,.int .i64 0]) (by kernel_rfl) rfl⟩
def OldS (w:World) (vo:Value) (os:List (Ship×Int)):Prop :=
 ∃ a cap,vo=.slice a os.length cap∧os.length≤cap∧(os=[]∨∃ b off cur,a=some ⟨b,off,none⟩∧w.heap[b]?=some (.cells cur 158 (0,0))∧RdK cSt w b off os)
theorem js9 {α:Type} {c:α→List Value} {w w':World} {b off:Nat} {l:List α} (h:RdK c w b off l) (e:w'.heap[b]?=w.heap[b]?):RdK c w' b off l:=fun j u hu=>by
 have:=h j u hu
 simp only [World.cell?] at this ⊢
 rw [e]
 exact this
theorem OldS.same {w w':World} {vo:Value} {os:List (Ship×Int)} (h:OldS w vo os) (e:∀ (b:Nat) (cur:Array Value),w.heap[b]?=some (.cells cur 158 (0,0))→w'.heap[b]?=w.heap[b]?):OldS w' vo os:=by
 obtain⟨a,cap,hv,hc,h1⟩:=h
 refine⟨a,cap,hv,hc,?_⟩
 rcases h1 with h1|⟨b,off,cur,ha,hb,hr⟩
 ·exact Or.inl h1
 ·exact Or.inr ⟨b,off,cur,ha,by rw [e b cur hb];exact hb,js9 hr (e b cur hb)⟩
theorem OldS.later {w w':World} {vo:Value} {os:List (Ship×Int)} (h:OldS w vo os) (hb:Below w.heap.size w w'):OldS w' vo os :=
 h.same fun b cur hk=>hb.block b (Array.getElem?_eq_some_iff.1 hk).1
theorem OldS.mf {w w':World} {B gm gd:Nat} {vo vo' vf v:Value} {now lk:Int} {r l:List (Int×Int)} {os:List (Ship×Int)} (h:OldS w vo' os) (hm:MS w B gm gd vo now vf r lk v l) (hf:Mf w w' gm gd):OldS w' vo' os :=
 h.same fun b cur hk=>hf.block hm hk (by decide) (by decide) (by decide)
theorem OldS.head {w:World} {vo:Value} {x:Ship×Int} {os:List (Ship×Int)} (h:OldS w vo (x::os)):∃ b off cap,vo=.slice (some ⟨b,off,none⟩) (os.length+1) (cap+1)∧os.length≤cap ∧
  (w.cell? ⟨b,off,none⟩=some (.int .i64 x.1.st)∧w.cell? ⟨b,off+1,none⟩=some (.int .i64 x.1.wd)∧w.cell? ⟨b,off+2,none⟩=some (.int .i64 x.1.lg)∧w.cell? ⟨b,off+3,none⟩=some (.int .i64 x.1.cl)∧w.cell? ⟨b,off+4,none⟩=some (.int .i64 x.1.si)∧w.cell? ⟨b,off+5,none⟩=some (.int .i64 x.1.qu)∧w.cell? ⟨b,off+6,none⟩=some (.int .i64 x.2)) ∧
  ∀ a',(os≠[]→a'=some ⟨b,off+7,none⟩)→OldS w (.slice a' os.length cap) os:=by
 obtain⟨a,cap,hv,hc,h1⟩:=h
 rcases h1 with h1|⟨b,off,cur,rfl,hb,hr⟩
 ·cases h1
 ·simp only [List.length_cons] at hv hc
  refine⟨b,off,cap - 1,?_,by omega,?_,fun a' ha=>?_⟩
  ·rw [hv];congr 1;omega
  ·have hx:(x::os)[0]?=some x:=rfl
   refine⟨?_,?_,?_,?_,?_,?_,?_⟩
   ·simpa using hr.at encSt hx (i:=0) rfl
   ·simpa using hr.at encSt hx (i:=1) rfl
   ·simpa using hr.at encSt hx (i:=2) rfl
   ·simpa using hr.at encSt hx (i:=3) rfl
   ·simpa using hr.at encSt hx (i:=4) rfl
   ·simpa using hr.at encSt hx (i:=5) rfl
   ·simpa using hr.at encSt hx (i:=6) rfl
  ·refine⟨a',cap - 1,rfl,by omega,?_⟩
   by_cases c:os=[]
   ·exact Or.inl c
   ·refine Or.inr ⟨b,off+7,cur,ha c,hb,fun j u hu=>?_⟩
    have:=hr (7+j) u (by rw [jae,List.getElem?_append_right (by rw [encSt.len];omega),encSt.len];simpa using hu)
    rw [show off+7+j=off+(7+j) by omega]
    exact this
theorem OldS.nil {w:World} {vo:Value} (h:OldS w vo []):∃ a cap,vo=.slice a 0 cap:=by
 obtain⟨a,cap,hv,_⟩:=h
 exact⟨a,cap,hv⟩
def eqSh (x y:Ship):Bool:=x.st == y.st && x.wd == y.wd && x.lg == y.lg && x.cl == y.cl && x.si == y.si && x.qu == y.qu
theorem jpo {x y:Ship}:eqSh x y=true↔x=y:=by
 unfold eqSh
 obtain⟨a,b,c,d,e,f⟩:=x
 obtain⟨a',b',c',d',e',f'⟩:=y
 simp [and_assoc]
theorem jkg (d:Nat) (x y:Ship) (w:World):(Op.equalIn (d+2) 46 (.agg #[.int .i64 x.st,.int .i64 x.wd,.int .i64 x.lg,.int .i64 x.cl,.int .i64 x.si,.int .i64 x.qu]) (.agg #[.int .i64 y.st,.int .i64 y.wd,.int .i64 y.lg,.int .i64 y.cl,.int .i64 y.si,.int .i64 y.qu])).run Tryz.prog w=.ok (eqSh x y) w:=by
 have u3:=Tryz.underlying3
 have a3:=Tryz.isAgg3
 have z3:=Tryz.sizeOf3
 have hS:Tryz.prog.underlying 46=some (.struct (Tryz.prog.fieldsOf 46)):=by kernel_rfl
 have hp:Tryz.prog.stoodInHeld 46=false:=by kernel_rfl
 unfold eqSh
 rw [run_equalIn_agg w (d+1) 46 _ _ hS hp]
 simp only [Program.fieldsOf,Tryz.underlying46]
 go_simp
 by_cases h1:x.st=y.st
 ·by_cases h2:x.wd=y.wd
  ·by_cases h3:x.lg=y.lg
   ·by_cases h4:x.cl=y.cl
    ·by_cases h5:x.si=y.si
     ·by_cases h6:x.qu=y.qu <;> simp [h1,h2,h3,h4,h5,h6]
     ·simp [h1,h2,h3,h4,h5]
    ·simp [h1,h2,h3,h4]
   ·simp [h1,h2,h3]
  ·simp [h1,h2]
 ·simp [h1]
theorem Good.upL {l:List (Int×Int)} (G:Good l):Up l:=by
 have step:∀ d i,i+d+1 < l.length→(sAt l i).1 < (sAt l (i+d+1)).1:=by
  intro d
  induction d with
  | zero=>intro i hi;exact G.up i (by omega)
  | succ d ih =>
   intro i hi
   have h1:=ih i (by omega)
   have h2:=G.up (i+d+1) (by omega)
   rw [show i+(d+1)+1=i+d+1+1 by omega]
   omega
 refine List.pairwise_iff_getElem.2 fun i j hi hj hij=>?_
 have:=step (j - i - 1) i (by omega)
 rw [show i+(j - i - 1)+1=j by omega,jci hi,jci hj] at this
 exact this
theorem Good.bds {l:List (Int×Int)} (G:Good l):∀ x∈l,0≤x.2∧x.2≤16:=fun x hx=>by
 obtain⟨j,hj,rfl⟩:=List.mem_iff_getElem.1 hx
 have a:=G.lo j hj
 have b:=G.hi j hj
 rw [jci hj] at a b
 exact⟨a,b⟩
theorem jsv:∀ (l:List (Int×Int)) (a:Int),Up l→(∀ x∈l,a≤x.1∧x.1 < 300)→(l.length:Int)≤300 - a∨l=[]:=by
 intro l
 induction l with
 | nil=>intro a _ _;exact Or.inr rfl
 | cons x r ih =>
  intro a hu hb
  have hx:=hb x List.mem_cons_self
  have hu':=List.pairwise_cons.1 hu
  rcases ih (x.1+1) hu'.2 (fun y hy=>⟨by have:=hu'.1 y hy;omega,(hb y (List.mem_cons_of_mem _ hy)).2⟩) with h|h
  ·left;simp only [List.length_cons];omega
  ·subst h;left;simp;omega
theorem Good.lenL {l:List (Int×Int)} (G:Good l):l.length≤300:=by
 have h0:∀ x∈l,0≤x.1∧x.1 < 300:=fun x hx=>by
  obtain⟨j,hj,rfl⟩:=List.mem_iff_getElem.1 hx
  have b:=G.lt j hj
  rw [jci hj] at b
  refine⟨?_,b⟩
  have f:=G.first
  rw [jci G.pos] at f
  by_cases c:j=0
  ·subst c;omega
  ·have:=List.pairwise_iff_getElem.1 G.upL 0 j G.pos hj (by omega)
   omega
 rcases jsv l 0 G.upL h0 with h|h
 ·omega
 ·subst h;simp
def wasF (wn:Int) (rw_:List (Int×Int)) (t:Int):Int:=if wn≤t then val rw_ t else 0
theorem jou {l1 l2 rw_ rn:List (Int×Int)} {n m:Nat} {now wn:Int} (h1:Puts [] n 16 (profF rw_ wn (-1)) l1) (h2:Puts l1 m 16 (profF rn now 1) l2):Drift l2 rn now wn (wasF wn rw_):=by
 refine⟨fun t ht=>?_,fun t ht=>by unfold wasF;rw [if_neg (by omega)]⟩
 rw [h2.says t,h1.says t]
 unfold profF wasF val
 have:sumTo [] t=0:=rfl
 rw [this]
 by_cases c1:now≤t <;> by_cases c2:wn≤t <;> simp only [c1,c2,if_true,if_false] <;> omega
def oldOf (p:Pt) (pl:List Int) (rk:List Nat):List (Ship×Int):=rk.map fun i=>(shp p i,pl.getD i (-1))
theorem jt2 {p:Pt} {pl:List Int} {i:Nat} (h:pl.getD i (-1)=-1∨0≤pl.getD i (-1)) (t:Int):stayF (shp p i) (pl.getD i (-1)) 1 t=ctr p pl i t:=by
 unfold stayF ctr
 by_cases c:pl.getD i (-1)=-1
 ·rw [if_pos c,if_neg (by omega)]
 ·rw [if_neg c]
  by_cases c2:pl.getD i (-1)≤t∧t < pl.getD i (-1)+(shp p i).lg
  ·rw [if_pos c2,if_pos ⟨by omega,c2⟩];omega
  ·rw [if_neg c2,if_neg (fun c3=>c2 c3.2)]
theorem jqk {p:Pt} {pl:List Int} {rk:List Nat} (h0:0≤p.now) (hc:Chain p pl (ja3 p) rk) (hs:∀ i∈rk,ShOk (shp p i)):∀ (b a:List Nat) (F:Int→Int),rk=a++b→(∀ t,p.now≤t→t < 300→F t=ja3 p t - ctrs p pl a t)→OldIs p.now F (oldOf p pl b):=by
 intro b
 induction b with
 | nil=>intro a F _ _;trivial
 | cons i b ih =>
  intro a F e hF
  have hf:FitF F p.now (shp p i).lg (shp p i).wd (pl.getD i (-1)):=(hc a b i e).congr fun s h1 h2=>(hF s h1 h2).symm
  have ha:pl.getD i (-1)=-1∨0≤pl.getD i (-1):=by
   rcases hf.at_ok h0 with h|h
   ·exact Or.inl h
   ·exact Or.inr h.1
  refine⟨⟨hf,hs i (by rw [e];simp)⟩,?_⟩
  refine ih (a++[i]) _ (by rw [e];simp) fun t h1 h2=>?_
  show F t - stayF (shp p i) (pl.getD i (-1)) 1 t=_
  rw [jt2 ha,hF t h1 h2,jdl,jb1,jen]
  omega
theorem jru {p:Pt} {pl:List Int} {rk:List Nat} {rw_:List (Int×Int)} (hp:jaj p) (hpl:jbd p pl) (hr:jbo p rk) (hv:∀ t,0≤t→t < 300→val rw_ t=ja3 p t):OldIs p.now (wasF p.now rw_) (oldOf p pl rk):=by
 obtain⟨rk',hr',hc⟩:=hpl.some
 have e:=hr.unique hr'
 subst e
 have h0:=hp.port.now.1
 refine jqk h0 hc (fun i hi=>?_) rk [] _ rfl (fun t h1 h2=>?_)
 ·have:=(jhs hp.port i ((hr.mem i).1 hi).1).1
  exact⟨this.wd,this.lg⟩
 ·unfold wasF
  rw [if_pos h1,hv t (by omega) h2,jen]
  omega
structure NI (w:World) (B gm gd:Nat) (now wn:Int) (os:List (Ship×Int)) (r:List (Int×Int)) (lk:Int) (l:List (Int×Int)) (n:Nat) (F:Int→Int) (vo vf v:Value):Prop where
 ms:MS w B gm gd vo now vf r lk v l
 old:OldS w vo os
 good:Good r
 lb:LB l n
 dr:Drift l r now wn F
 is:OldIs wn F os
theorem NI.later {w w':World} {B gm gd:Nat} {now wn:Int} {os:List (Ship×Int)} {r l:List (Int×Int)} {lk:Int} {n:Nat} {F:Int→Int} {vo vf v:Value} (h:NI w B gm gd now wn os r lk l n F vo vf v) (hb:Below w.heap.size w w'):NI w' B gm gd now wn os r lk l n F vo vf v :=
 ⟨h.ms.later hb,h.old.later hb,h.good,h.lb,h.dr,h.is⟩
theorem jmr {w:World} {b off n cap:Nat} {x:Ship×Int} {os:List (Ship×Int)} (h:OldS w (.slice (some ⟨b,off,none⟩) n cap) (x::os)):w.cell? ⟨b,off,none⟩=some (.int .i64 x.1.st)∧w.cell? ⟨b,off+1,none⟩=some (.int .i64 x.1.wd)∧w.cell? ⟨b,off+2,none⟩=some (.int .i64 x.1.lg)∧w.cell? ⟨b,off+3,none⟩=some (.int .i64 x.1.cl)∧w.cell? ⟨b,off+4,none⟩=some (.int .i64 x.1.si)∧w.cell? ⟨b,off+5,none⟩=some (.int .i64 x.1.qu)∧w.cell? ⟨b,off+6,none⟩=some (.int .i64 x.2):=by
 obtain⟨b',off',cap',e,_,h,_⟩:=h.head
 injection e with e1 e2 e3
 injection e1 with e1
 injection e1 with e1 e2
 subst e1 e2
 exact h
theorem jte {w:World} {b off cap:Nat} {x:Ship×Int} {os:List (Ship×Int)} (h:OldS w (.slice (some ⟨b,off,none⟩) (os.length+1) (cap+1)) (x::os)):OldS w (.slice (if cap=0 then some ⟨b,off,none⟩ else some ⟨b,off+7,none⟩) os.length cap) os:=by
 obtain⟨b',off',cap',e,hc,_,h⟩:=h.head
 injection e with e1 e2 e3
 injection e1 with e1
 injection e1 with e1 e2
 have e3:cap=cap':=by omega
 subst e1 e2 e3
 refine h _ fun hne=>?_
 have:os.length≠0:=fun e=>hne (List.length_eq_zero_iff.1 e)
 rw [if_neg (by omega)]
def IdleP (os:List (Ship×Int)) (r:List (Int×Int)) (now:Int) (l:List (Int×Int)) (s:Ship):Prop:=∃ a rest,os=(s,a)::rest∧(∀ t,t < 300→sumTo l t≤0)∧FitIs r now s.lg s.wd a
def jik (B gm gd:Nat) (now wn:Int) (os:List (Ship×Int)) (r:List (Int×Int)) (lk:Int) (l:List (Int×Int)) (n:Nat) (s:Ship) (w:World) (e:Ending) (w':World):Prop :=
 ∃ x,e=.returned (.int .i64 x)∧Hid (∃ os' r' lk' l' n' F' vo' vf' v',NI w' B gm gd now wn os' r' lk' l' n' F' vo' vf' v'∧FitIs r now s.lg s.wd x∧(∀ t,0≤t→t < 300→val r' t=val r t - if 0≤x∧x≤t∧t < x+s.lg then s.wd else 0)∧(lk≤lk'∧lk'≤lk+1)∧n'+2*os'.length≤n+2*os.length+2∧Mf w w' gm gd∧Below B w w'∧(IdleP os r now l s→lk'=lk∧os'=os.tail∧l'=l))
def jp1 (B gm gd:Nat) (now wn:Int) (os:List (Ship×Int)) (r:List (Int×Int)) (lk:Int) (l:List (Int×Int)) (n:Nat) (s:Ship) (z:Nat) (w:World) (k:Nat) (wr:World):Prop :=
 ∃ l' F' vo vf v,NI wr B gm gd now wn (os.drop k) r lk l' (n+2*k) F' vo vf v∧SBox wr z s∧Mf w wr gm gd∧Below B w wr∧(k=0∧l'=l∨¬ IdleP os r now l s)
theorem jti (B gm gd:Nat) (now wn:Int) (os:List (Ship×Int)) (r:List (Int×Int)) (lk:Int) (l:List (Int×Int)) (n:Nat) (F:Int→Int) (vo vf v:Value) (s:Ship) (w:World)
  (H:NI w B gm gd now wn os r lk l n F vo vf v) (hn:n+2*os.length≤790) (hs:ShOk s) (h0:0≤now) (hwn:0≤wn) (hk:0≤lk∧lk≤1000) :
  Calls Tryz.prog 92 #[.pointer (some ⟨gm,0,none⟩),.agg #[.int .i64 s.st,.int .i64 s.wd,.int .i64 s.lg,.int .i64 s.cl,.int .i64 s.si,.int .i64 s.qu]] w fun e w'=>jik B gm gd now wn os r lk l n s w e w':=by
 have hol:os.length≤400:=by omega
 have hbw:Below w.heap.size w (w.alloc (.cells #[.int .i64 s.st,.int .i64 s.wd,.int .i64 s.lg,.int .i64 s.cl,.int .i64 s.si,.int .i64 s.qu] 46)):=(Below.refl _ w).alloc (Nat.le_refl _) _
 have I0:Hid (jp1 B gm gd now wn os r lk l n s w.heap.size w 0 (w.alloc (.cells #[.int .i64 s.st,.int .i64 s.wd,.int .i64 s.lg,.int .i64 s.cl,.int .i64 s.si,.int .i64 s.qu] 46))):=⟨l,F,vo,vf,v,by rw [List.drop_zero];exact H.later hbw,SBox.new w s,Mf.of hbw,hbw.mono H.ms.dr.2.2.2,Or.inl ⟨rfl,rfl⟩⟩
 have HS:Hid (ShOk s):=hs
 clear hbw H hs
 generalize hz:w.heap.size=z at *
 go_enter Tryz.func92,Tryz.ntmps92
 go_wp2_with fail
 rw [hz] at *
 generalize w.alloc (.cells #[.int .i64 s.st,.int .i64 s.wd,.int .i64 s.lg,.int .i64 s.cl,.int .i64 s.si,.int .i64 s.qu] 46)=W at *
 go_loopg [5] os.length (fun kx s5 wr=>∃ (k:Nat),k≤os.length∧os.length - k≤kx∧Hid (jp1 B gm gd now wn os r lk l n s z w k wr))
 case atStart=>exact⟨0,Nat.zero_le _,by omega,I0⟩
 case round =>
  clear I0
  obtain⟨k,hkl,hg,I⟩:=hrel
  obtain⟨l1,F1,vo1,vf1,v1,N1,S1,M1,B1,D1⟩:=I.out
  clear I
  have FIN:Hid (∀ W',Below wr.heap.size wr W'→Calls Tryz.prog 124 #[.pointer (some ⟨gm,0,none⟩),.agg #[.int .i64 s.st,.int .i64 s.wd,.int .i64 s.lg,.int .i64 s.cl,.int .i64 s.si,.int .i64 s.qu]] W' fun e w'=>(IdleP os r now l s→False)→jik B gm gd now wn os r lk l n s w e w'):=fun W' hb=>by
   have N2:=N1.later hb
   refine(jtm B gm gd vo1 now vf1 r lk v1 l1 s (n+2*k) W' N2.ms N2.lb (by omega) N2.good ⟨by have:=HS.out.wd;omega,HS.out.wd.2⟩ HS.out.lg h0 hk).mono ?_
   rintro e w' ⟨x,rfl,h⟩ hid
   obtain⟨vf',v',r',l',m1,m2,m3,m4,m5,m6,m7⟩:=h.out
   refine⟨x,rfl,os.drop k,r',lk+1,l',n+2*k+2,F1,vo1,vf',v',⟨m1,N2.old.mf N2.ms m6,m2,N2.lb.puts m5,N2.dr.looks h0 m3 m4 m5,N2.is⟩,m3,m4,⟨by omega,by omega⟩,by rw [List.length_drop];omega,(M1.trans (Mf.of hb)).trans m6,(B1.trans (hb.mono N1.ms.dr.2.2.2)).trans m7,fun h=>absurd h hid⟩
  obtain⟨c0,c1,c2,c3,c4,c5⟩:=S1.cells
  have mc:=N1.ms.cells.1
  cases hd:os.drop k with
  | nil =>
   have NO:Hid (IdleP os r now l s→False):=by
    rintro ⟨a,rest,e,h1,h2⟩
    rcases D1 with ⟨rfl,_⟩|h
    ·rw [e] at hd;simp at hd
    ·exact h ⟨a,rest,e,h1,h2⟩
   have hO:=N1.old
   rw [hd] at hO
   obtain⟨a,cap,rfl⟩:=hO.nil
   have FB:Hid (∀ m,Below wr.heap.size wr (wr.drewN m)):=fun m=>below_drewN (Below.refl _ _) m
   clear N1 S1 M1 B1 D1 hd hO
   go_wp2_with fail
   go_quiet (fail)
   go_wp2_with fail
   refine(FIN.out _ (FB.out _)).mono ?_
   intro e w' h
   obtain⟨y,rfl,hh⟩:=h NO.out
   go_wp2_with fail
   go_ret
   exact⟨y,rfl,hh⟩
  | cons x rest =>
   have hO:=N1.old
   rw [hd] at hO
   obtain⟨b,off,cap,rfl,hcap,⟨o0,o1,o2,o3,o4,o5,o6⟩,hT⟩:=hO.head
   have hgt:(0:Int) < (rest.length:Int)+1:=by omega
   have hix:(0:Int) < ((rest.length+1:Nat):Int):=by omega
   have LAT:Hid (∀ w5,Below wr.drew.heap.size wr.drew w5→Below wr.heap.size wr w5∧NI w5 B gm gd now wn (os.drop k) r lk l1 (n+2*k) F1 (.slice (some ⟨b,off,none⟩) (rest.length+1) (cap+1)) vf1 v1∧SBox w5 z s∧OldS w5 (.slice (some ⟨b,off,none⟩) (rest.length+1) (cap+1)) (x::rest)):=fun w5 h=>by
    have h:=jau h
    exact⟨h,N1.later h,S1.later h S1.lt,hO.later h⟩
   have RK:=jta x.1 s wr.drew
   by_cases hc:cmpS x.1 s≤0
   ·generalize hcv:cmpS x.1 s=cv at *
    have HC:Hid (cmpS x.1 s=cv):=hcv
    have hcd:decide (cv≤0)=true:=decide_eq_true hc
    clear hcv
    have BW:Hid (B≤wr.heap.size):=N1.ms.dr.2.2.2
    have KEEP:Hid (Mf w wr gm gd∧Below B w wr∧(k=0∧l1=l∨¬ IdleP os r now l s)):=⟨M1,B1,D1⟩
    have HD:Hid (os.drop k=x::rest):=hd
    have hkl2:k < os.length:=by
     apply Classical.byContradiction
     intro hcc
     rw [List.drop_of_length_le (by omega)] at hd
     cases hd
    clear N1 S1 M1 B1 D1 hd hO hT FIN
    go_wp2_with fail
    go_region_held (fun w'=>w'.cell? ⟨gm,0,none⟩=some (.slice (some ⟨b,off,none⟩) (rest.length+1) (cap+1))∧w'.cell? ⟨b,off,none⟩=some (.int .i64 x.1.st)∧w'.cell? ⟨b,off+1,none⟩=some (.int .i64 x.1.wd)∧w'.cell? ⟨b,off+2,none⟩=some (.int .i64 x.1.lg)∧w'.cell? ⟨b,off+3,none⟩=some (.int .i64 x.1.cl)∧w'.cell? ⟨b,off+4,none⟩=some (.int .i64 x.1.si)∧w'.cell? ⟨b,off+5,none⟩=some (.int .i64 x.1.qu)∧w'.cell? ⟨z,0,none⟩=some (.int .i64 s.st)∧w'.cell? ⟨z,1,none⟩=some (.int .i64 s.wd)∧w'.cell? ⟨z,2,none⟩=some (.int .i64 s.lg)∧w'.cell? ⟨z,3,none⟩=some (.int .i64 s.cl)∧w'.cell? ⟨z,4,none⟩=some (.int .i64 s.si)∧w'.cell? ⟨z,5,none⟩=some (.int .i64 s.qu)) (go_keep) (first|(go_at_call 121;refine RK.mono ?_;rintro e w5 ⟨rfl,hb5⟩;have F5:Hid _:=LAT.out w5 hb5;obtain⟨p0,p1,p2,p3,p4,p5⟩:=F5.out.2.2.1.cells;have p6:=F5.out.2.1.ms.cells.1;obtain⟨g0,g1,g2,g3,g4,g5,g6⟩:=jmr F5.out.2.2.2;clear hb5))
    go_upto_region 3 with fail
    have hb6:Below w5.heap.size w5 (w5.alloc (.cells #[.int .i64 x.1.st,.int .i64 x.1.wd,.int .i64 x.1.lg,.int .i64 x.1.cl,.int .i64 x.1.si,.int .i64 x.1.qu,.int .i64 x.2] 158)):=(Below.refl _ w5).alloc (Nat.le_refl _) _
    have F6:Hid (Below wr.heap.size wr (w5.alloc (.cells #[.int .i64 x.1.st,.int .i64 x.1.wd,.int .i64 x.1.lg,.int .i64 x.1.cl,.int .i64 x.1.si,.int .i64 x.1.qu,.int .i64 x.2] 158))∧NI (w5.alloc (.cells #[.int .i64 x.1.st,.int .i64 x.1.wd,.int .i64 x.1.lg,.int .i64 x.1.cl,.int .i64 x.1.si,.int .i64 x.1.qu,.int .i64 x.2] 158)) B gm gd now wn (os.drop k) r lk l1 (n+2*k) F1 (.slice (some ⟨b,off,none⟩) (rest.length+1) (cap+1)) vf1 v1∧SBox (w5.alloc (.cells #[.int .i64 x.1.st,.int .i64 x.1.wd,.int .i64 x.1.lg,.int .i64 x.1.cl,.int .i64 x.1.si,.int .i64 x.1.qu,.int .i64 x.2] 158)) z s∧OldS (w5.alloc (.cells #[.int .i64 x.1.st,.int .i64 x.1.wd,.int .i64 x.1.lg,.int .i64 x.1.cl,.int .i64 x.1.si,.int .i64 x.1.qu,.int .i64 x.2] 158)) (.slice (some ⟨b,off,none⟩) (rest.length+1) (cap+1)) (x::rest)∧StB (w5.alloc (.cells #[.int .i64 x.1.st,.int .i64 x.1.wd,.int .i64 x.1.lg,.int .i64 x.1.cl,.int .i64 x.1.si,.int .i64 x.1.qu,.int .i64 x.2] 158)) w5.heap.size x.1 x.2):=⟨F5.out.1.trans (hb6.mono F5.out.1.size),F5.out.2.1.later hb6,F5.out.2.2.1.later hb6 F5.out.2.2.1.lt,F5.out.2.2.2.later hb6,heap_alloc_new w5 _⟩
    clear F5 hb6 p0 p1 p2 p3 p4 p5 p6 g0 g1 g2 g3 g4 g5 g6 c0 c1 c2 c3 c4 c5 mc o0 o1 o2 o3 o4 o5 o6 RK LAT
    generalize w5.alloc (.cells #[.int .i64 x.1.st,.int .i64 x.1.wd,.int .i64 x.1.lg,.int .i64 x.1.cl,.int .i64 x.1.si,.int .i64 x.1.qu,.int .i64 x.2] 158)=W6 at *
    generalize w5.heap.size=y at *
    have p6:=F6.out.2.1.ms.cells.1
    have fz:=F6.out.2.1.ms.frozen 0
    have hcap1:(1:Int)≤(rest.length:Int)+1:=by omega
    go_upto_region 4 with fail
    have hot:=F6.out.2.1.ms.other 0 (.slice (if cap=0 then some ⟨b,off,none⟩ else some ⟨b,off+7,none⟩) rest.length cap)
    have F7:Hid (MS (W6.setCell ⟨gm,0,none⟩ (.slice (if cap=0 then some ⟨b,off,none⟩ else some ⟨b,off+7,none⟩) rest.length cap)) B gm gd (.slice (if cap=0 then some ⟨b,off,none⟩ else some ⟨b,off+7,none⟩) rest.length cap) now vf1 r lk v1 l1∧OldS (W6.setCell ⟨gm,0,none⟩ (.slice (if cap=0 then some ⟨b,off,none⟩ else some ⟨b,off+7,none⟩) rest.length cap)) (.slice (if cap=0 then some ⟨b,off,none⟩ else some ⟨b,off+7,none⟩) rest.length cap) rest∧SBox (W6.setCell ⟨gm,0,none⟩ (.slice (if cap=0 then some ⟨b,off,none⟩ else some ⟨b,off+7,none⟩) rest.length cap)) z s∧StB (W6.setCell ⟨gm,0,none⟩ (.slice (if cap=0 then some ⟨b,off,none⟩ else some ⟨b,off+7,none⟩) rest.length cap)) y x.1 x.2∧Mf w (W6.setCell ⟨gm,0,none⟩ (.slice (if cap=0 then some ⟨b,off,none⟩ else some ⟨b,off+7,none⟩) rest.length cap)) gm gd∧Below B w (W6.setCell ⟨gm,0,none⟩ (.slice (if cap=0 then some ⟨b,off,none⟩ else some ⟨b,off+7,none⟩) rest.length cap))) :=
     ⟨F6.out.2.1.ms.setOld,(jte F6.out.2.2.2.1).mf F6.out.2.1.ms hot.2.2.1,(Below.heap_setCell _ _ _ _ (by show z≠gm;exact(juf F6.out.2.1.ms F6.out.2.2.1).2)).trans F6.out.2.2.1,(Below.heap_setCell _ _ _ _ (by show y≠gm;exact(jue F6.out.2.1.ms F6.out.2.2.2.2).2)).trans F6.out.2.2.2.2,(KEEP.out.1.trans (Mf.of F6.out.1)).trans hot.2.2.1,(KEEP.out.2.1.trans (F6.out.1.mono BW.out)).trans hot.2.2.2⟩
    have PM:Hid (LB l1 (n+2*k)∧(FitF F1 wn x.1.lg x.1.wd x.2∧ShOk x.1)∧OldIs wn (fun t=>F1 t - stayF x.1 x.2 1 t) rest∧Drift l1 r now wn F1∧Good r):=by
     have h:=F6.out.2.1.is
     rw [HD.out] at h
     exact⟨F6.out.2.1.lb,h.1,h.2,F6.out.2.1.dr,F6.out.2.1.good⟩
    clear F6 p6 fz hot
    generalize W6.setCell ⟨gm,0,none⟩ (.slice (if cap=0 then some ⟨b,off,none⟩ else some ⟨b,off+7,none⟩) rest.length cap)=W7 at *
    generalize (Value.slice (if cap=0 then some ⟨b,off,none⟩ else some ⟨b,off+7,none⟩) rest.length cap)=vo8 at *
    obtain⟨d0,d1,d2,d3,d4,d5,d6⟩:=F7.out.2.2.2.1.cells
    obtain⟨k0,k1,k2,k3,k4,k5⟩:=F7.out.2.2.1.cells
    by_cases he:x.1=s
    ·subst he
     have EQ:∀ W,(Op.equalIn 10000 46 (.agg #[.int .i64 x.1.st,.int .i64 x.1.wd,.int .i64 x.1.lg,.int .i64 x.1.cl,.int .i64 x.1.si,.int .i64 x.1.qu]) (.agg #[.int .i64 x.1.st,.int .i64 x.1.wd,.int .i64 x.1.lg,.int .i64 x.1.cl,.int .i64 x.1.si,.int .i64 x.1.qu])).run Tryz.prog W=.ok true W:=fun W=>by
      rw [show(10000:Nat)=9998+2 from rfl,jkg,jpo.2 rfl]
     have RA:Calls Tryz.prog 122 #[.pointer (some ⟨gm,0,none⟩),.agg #[.int .i64 x.1.st,.int .i64 x.1.wd,.int .i64 x.1.lg,.int .i64 x.1.cl,.int .i64 x.1.si,.int .i64 x.1.qu,.int .i64 x.2]] W7 fun e w'=>jo3 B gm gd vo8 now r lk l1 x.1 x.2 W7 e w':=jn6 B gm gd vo8 now vf1 r lk v1 l1 x.1 x.2 (n+2*k) W7 F7.out.1 PM.out.1 (by omega) PM.out.2.2.2.2 ⟨by have:=PM.out.2.1.2.wd;omega,PM.out.2.1.2.wd.2⟩ PM.out.2.1.2.lg (PM.out.2.1.1.at_ok hwn)
     go_wp2_with fail
     refine RA.mono ?_
     rintro e w8 ⟨ok,rfl,h8⟩
     clear d0 d1 d2 d3 d4 d5 d6 k0 k1 k2 k3 k4 k5 EQ RA
     have G8:Hid (∀ vf8 v8 r8,MS w8 B gm gd vo8 now vf8 r8 lk v8 l1→Mf W7 w8 gm gd→Below B W7 w8→MS w8 B gm gd vo8 now vf8 r8 lk v8 l1∧OldS w8 vo8 rest∧SBox w8 z x.1∧StB w8 y x.1 x.2∧Mf w w8 gm gd∧Below B w w8):=fun vf8 v8 r8 a1 a2 a3 =>
      ⟨a1,F7.out.2.1.mf F7.out.1 a2,(a2.block F7.out.1 F7.out.2.2.1 (by decide) (by decide) (by decide)).trans F7.out.2.2.1,(a2.block F7.out.1 F7.out.2.2.2.1 (by decide) (by decide) (by decide)).trans F7.out.2.2.2.1,F7.out.2.2.2.2.1.trans a2,F7.out.2.2.2.2.2.trans a3⟩
     cases ok
     ·obtain⟨vf8,v8,r8,m1,m2,m3,m4,m5⟩:=h8.out
      have hr8:r8=r:=by
       rcases m3 with ⟨_,h,_⟩|⟨h,_⟩|⟨h,_⟩
       ·exact h
       ·cases h
       ·cases h
      subst hr8
      have NOI:Hid (¬ IdleP os r8 now l x.1):=by
       rintro ⟨a,rest',e,h1,h2⟩
       rcases KEEP.out.2.2 with ⟨hk0,hl1⟩|h
       ·have h3:=HD.out
        rw [hk0,List.drop_zero,e] at h3
        injection h3 with h3 _
        have h4:a=x.2:=by rw [← h3]
        subst h4
        subst hl1
        have:=jm4 PM.out.1.up h1 PM.out.2.1.2 h2 m3 h0
        cases this
       ·exact h ⟨a,rest',e,h1,h2⟩
      have D:Hid (MS w8 B gm gd vo8 now vf8 r8 lk v8 l1∧OldS w8 vo8 rest∧SBox w8 z x.1∧StB w8 y x.1 x.2∧Mf w w8 gm gd∧Below B w w8):=G8.out vf8 v8 r8 m1 m4 m5
      clear G8 h8 F7 m1 m2 m3 m4 m5
      go_wp2_with fail
      generalize w8=W8 at *
      have SA:Calls Tryz.prog 123 #[.pointer (some ⟨gd,0,none⟩),.agg #[.int .i64 x.1.st,.int .i64 x.1.wd,.int .i64 x.1.lg,.int .i64 x.1.cl,.int .i64 x.1.si,.int .i64 x.1.qu,.int .i64 x.2],.int .i64 1] W8.drew fun e w'=>je5 B gd l1 2 16 (stayF x.1 x.2 1) W8.drew e w':=jie B gd l1 v8 x.1 x.2 1 ((n+2*k:Nat)*16) W8.drew (D.out.1.later ((Below.refl _ _).drew)).dr PM.out.1.up (by have:=PM.out.1.len;omega) (by omega) (by omega) PM.out.1.bd (by have:=PM.out.2.1.2.wd;omega) PM.out.2.1.2.wd.2 PM.out.2.1.2.lg.1 PM.out.2.1.2.lg.2 (by rcases PM.out.2.1.1.at_ok hwn with h|h <;> omega) (by have:=PM.out.2.1.2.lg;rcases PM.out.2.1.1.at_ok hwn with h|h <;> omega) (Or.inl rfl)
      have SD:Hid (∀ e w',je5 B gd l1 2 16 (stayF x.1 x.2 1) W8.drew e w'→e=.returned (.tuple #[])∧StB w' y x.1 x.2∧w'.cell? ⟨gm,3,none⟩=some (.pointer (some ⟨gd,0,none⟩))∧jp1 B gm gd now wn os r8 lk l n x.1 z w (k+1) w'):=by
       rintro e w' ⟨rfl,l',v',hp,hdd,hb,hr⟩
       have M8:=D.out.1.later ((Below.refl _ W8).drew)
       have M9:=M8.turn hr hdd
       have S8:StB W8.drew y x.1 x.2:=D.out.2.2.2.1
       have Z8:SBox W8.drew z x.1:=D.out.2.2.1
       have O8:OldS W8.drew vo8 rest:=D.out.2.1.later ((Below.refl _ W8).drew)
       have mf8:Mf W8.drew w' gm gd:=Mf.ofDr hr
       have e1:os.drop (k+1)=rest:=by rw [← List.drop_drop,HD.out];rfl
       refine⟨rfl,(hr.block M8.dr S8 (by decide) (by decide)).trans S8,M9.cells.2.2.2.1,l',_,vo8,vf8,v',⟨M9,by rw [e1];exact O8.mf M8 mf8,PM.out.2.2.2.2,by have:=PM.out.1.puts hp;rw [show n+2*(k+1)=n+2*k+2 by omega];exact this,PM.out.2.2.2.1.pass PM.out.2.1.1 hp,by rw [e1];exact PM.out.2.2.1⟩,(hr.block M8.dr Z8 (by decide) (by decide)).trans Z8,(D.out.2.2.2.2.1.trans (Mf.of ((Below.refl _ W8).drew))).trans mf8,D.out.2.2.2.2.2.drew.trans hb,Or.inr NOI.out⟩
      have dm3:=D.out.1.cells.2.2.2.1
      obtain⟨d0,d1,d2,d3,d4,d5,d6⟩:=D.out.2.2.2.1.cells
      clear D
      go_region_held (fun w'=>w'.cell? ⟨gm,3,none⟩=some (.pointer (some ⟨gd,0,none⟩))∧w'.cell? ⟨y,0,none⟩=some (.int .i64 x.1.st)∧w'.cell? ⟨y,1,none⟩=some (.int .i64 x.1.wd)∧w'.cell? ⟨y,2,none⟩=some (.int .i64 x.1.lg)∧w'.cell? ⟨y,3,none⟩=some (.int .i64 x.1.cl)∧w'.cell? ⟨y,4,none⟩=some (.int .i64 x.1.si)∧w'.cell? ⟨y,5,none⟩=some (.int .i64 x.1.qu)∧w'.cell? ⟨y,6,none⟩=some (.int .i64 x.2)) (go_keep) (first|(go_at_call 123;refine SA.mono ?_;intro e w7 h7;obtain⟨rfl,s7,q3,h7⟩:=SD.out e w7 h7;have F7:Hid _:=h7;clear h7;obtain⟨t0,t1,t2,t3,t4,t5,t6⟩:=s7.cells;clear s7))
      go_wp2_with fail
      go_roundg (os.length - (k+1))
      case measure=>omega
      case rel=>exact⟨k+1,by omega,Nat.le_refl _,F7⟩
     ·have FN:Hid (jik B gm gd now wn os r lk l n x.1 w (.returned (.int .i64 x.2)) w8∧StB w8 y x.1 x.2):=by
       obtain⟨vf8,v8,r8,m1,m2,m3,m4,m5⟩:=h8.out
       obtain⟨a1,a2,a3,a4,a5,a6⟩:=G8.out vf8 v8 r8 m1 m4 m5
       have hlen:os.length - k=rest.length+1:=by
        have:=congrArg List.length HD.out
        rw [List.length_drop] at this
        exact this
       have hval:(x.2=-1∧r8=r)∨(x.2≠-1∧now≤x.2∧∀ t,0≤t→t < 300→val r8 t=val r t - if x.2≤t∧t < x.2+x.1.lg then x.1.wd else 0):=by
        rcases m3 with ⟨h,_⟩|⟨_,h2,_,h4⟩|⟨_,h2,h3,_,_,h6⟩
        ·cases h
        ·exact Or.inl ⟨h2,h4⟩
        ·exact Or.inr ⟨h2,h3,h6⟩
       refine⟨⟨x.2,rfl,rest,r8,lk,l1,n+2*k,_,vo8,vf8,v8,⟨a1,a2,m2,PM.out.1,PM.out.2.2.2.1.stays h0 PM.out.2.1.1 hval,PM.out.2.2.1⟩,jn5 hwn PM.out.1.up PM.out.2.2.2.1 PM.out.2.1.2 PM.out.2.1.1 m3,fun t ta tb=>?_,⟨by omega,by omega⟩,by omega,a5,a6,?_⟩,a4⟩
       ·rcases hval with ⟨h1,h2⟩|⟨h1,h2,h3⟩
        ·rw [h2,if_neg (by omega)];omega
        ·rw [h3 t ta tb]
         by_cases c:x.2≤t∧t < x.2+x.1.lg
         ·rw [if_pos c,if_pos ⟨by omega,c⟩]
         ·rw [if_neg c,if_neg (fun c2=>c c2.2)]
       ·intro hid
        rcases KEEP.out.2.2 with ⟨hk0,hl1⟩|h
        ·have h3:=HD.out
         rw [hk0,List.drop_zero] at h3
         exact⟨rfl,by rw [h3];rfl,hl1⟩
        ·exact absurd hid h
      have d6:=FN.out.2.cells.2.2.2.2.2.2
      clear G8 h8 F7
      go_wp2_with fail
      go_ret
      exact FN.out.1
    ·have EQ:∀ W,(Op.equalIn 10000 46 (.agg #[.int .i64 x.1.st,.int .i64 x.1.wd,.int .i64 x.1.lg,.int .i64 x.1.cl,.int .i64 x.1.si,.int .i64 x.1.qu]) (.agg #[.int .i64 s.st,.int .i64 s.wd,.int .i64 s.lg,.int .i64 s.cl,.int .i64 s.si,.int .i64 s.qu])).run Tryz.prog W=.ok false W:=fun W=>by
      rw [show(10000:Nat)=9998+2 from rfl,jkg]
      cases e:eqSh x.1 s
      ·rfl
      ·exact absurd (jpo.1 e) he
     have NOI:Hid (¬ IdleP os r now l s):=by
      rintro ⟨a,rest',e,h1,h2⟩
      rcases KEEP.out.2.2 with ⟨hk0,_⟩|h
      ·have h3:=HD.out
       rw [hk0,List.drop_zero,e] at h3
       injection h3 with h3
       exact he (by rw [← h3])
      ·exact h ⟨a,rest',e,h1,h2⟩
     have D:Hid (MS W7 B gm gd vo8 now vf1 r lk v1 l1∧OldS W7 vo8 rest∧SBox W7 z s∧StB W7 y x.1 x.2∧Mf w W7 gm gd∧Below B w W7):=F7
     clear F7 he
     go_wp2_with fail
     clear d0 d1 d2 d3 d4 d5 d6 k0 k1 k2 k3 k4 k5 EQ
     generalize W7=W8 at *
     generalize v1=v8 at *
     generalize vf1=vf8 at *
     have SA:Calls Tryz.prog 123 #[.pointer (some ⟨gd,0,none⟩),.agg #[.int .i64 x.1.st,.int .i64 x.1.wd,.int .i64 x.1.lg,.int .i64 x.1.cl,.int .i64 x.1.si,.int .i64 x.1.qu,.int .i64 x.2],.int .i64 1] W8.drew fun e w'=>je5 B gd l1 2 16 (stayF x.1 x.2 1) W8.drew e w':=jie B gd l1 v8 x.1 x.2 1 ((n+2*k:Nat)*16) W8.drew (D.out.1.later ((Below.refl _ _).drew)).dr PM.out.1.up (by have:=PM.out.1.len;omega) (by omega) (by omega) PM.out.1.bd (by have:=PM.out.2.1.2.wd;omega) PM.out.2.1.2.wd.2 PM.out.2.1.2.lg.1 PM.out.2.1.2.lg.2 (by rcases PM.out.2.1.1.at_ok hwn with h|h <;> omega) (by have:=PM.out.2.1.2.lg;rcases PM.out.2.1.1.at_ok hwn with h|h <;> omega) (Or.inl rfl)
     have SD:Hid (∀ e w',je5 B gd l1 2 16 (stayF x.1 x.2 1) W8.drew e w'→e=.returned (.tuple #[])∧StB w' y x.1 x.2∧w'.cell? ⟨gm,3,none⟩=some (.pointer (some ⟨gd,0,none⟩))∧jp1 B gm gd now wn os r lk l n s z w (k+1) w'):=by
      rintro e w' ⟨rfl,l',v',hp,hdd,hb,hr⟩
      have M8:=D.out.1.later ((Below.refl _ W8).drew)
      have M9:=M8.turn hr hdd
      have S8:StB W8.drew y x.1 x.2:=D.out.2.2.2.1
      have Z8:SBox W8.drew z s:=D.out.2.2.1
      have O8:OldS W8.drew vo8 rest:=D.out.2.1.later ((Below.refl _ W8).drew)
      have mf8:Mf W8.drew w' gm gd:=Mf.ofDr hr
      have e1:os.drop (k+1)=rest:=by rw [← List.drop_drop,HD.out];rfl
      refine⟨rfl,(hr.block M8.dr S8 (by decide) (by decide)).trans S8,M9.cells.2.2.2.1,l',_,vo8,vf8,v',⟨M9,by rw [e1];exact O8.mf M8 mf8,PM.out.2.2.2.2,by have:=PM.out.1.puts hp;rw [show n+2*(k+1)=n+2*k+2 by omega];exact this,PM.out.2.2.2.1.pass PM.out.2.1.1 hp,by rw [e1];exact PM.out.2.2.1⟩,(hr.block M8.dr Z8 (by decide) (by decide)).trans Z8,(D.out.2.2.2.2.1.trans (Mf.of ((Below.refl _ W8).drew))).trans mf8,D.out.2.2.2.2.2.drew.trans hb,Or.inr NOI.out⟩
     have dm3:=D.out.1.cells.2.2.2.1
     obtain⟨d0,d1,d2,d3,d4,d5,d6⟩:=D.out.2.2.2.1.cells
     clear D
     go_region_held (fun w'=>w'.cell? ⟨gm,3,none⟩=some (.pointer (some ⟨gd,0,none⟩))∧w'.cell? ⟨y,0,none⟩=some (.int .i64 x.1.st)∧w'.cell? ⟨y,1,none⟩=some (.int .i64 x.1.wd)∧w'.cell? ⟨y,2,none⟩=some (.int .i64 x.1.lg)∧w'.cell? ⟨y,3,none⟩=some (.int .i64 x.1.cl)∧w'.cell? ⟨y,4,none⟩=some (.int .i64 x.1.si)∧w'.cell? ⟨y,5,none⟩=some (.int .i64 x.1.qu)∧w'.cell? ⟨y,6,none⟩=some (.int .i64 x.2)) (go_keep) (first|(go_at_call 123;refine SA.mono ?_;intro e w7 h7;obtain⟨rfl,s7,q3,h7⟩:=SD.out e w7 h7;have F7:Hid _:=h7;clear h7;obtain⟨t0,t1,t2,t3,t4,t5,t6⟩:=s7.cells;clear s7))
     go_wp2_with fail
     go_roundg (os.length - (k+1))
     case measure=>omega
     case rel=>exact⟨k+1,by omega,Nat.le_refl _,F7⟩
   ·have NO:Hid (IdleP os r now l s→False):=by
     rintro ⟨a,rest',e,h1,h2⟩
     rcases D1 with ⟨rfl,_⟩|h
     ·rw [e] at hd
      simp at hd
      rw [← hd.1] at hc
      exact hc (by show cmpS s s≤0;unfold cmpS orI cmpI;simp)
     ·exact h ⟨a,rest',e,h1,h2⟩
    generalize hcv:cmpS x.1 s=cv at *
    have hcd:decide (cv≤0)=false:=decide_eq_false hc
    clear N1 S1 M1 B1 D1 hd hO hT hcv
    go_wp2_with fail
    go_region_held (fun w'=>w'.cell? ⟨gm,0,none⟩=some (.slice (some ⟨b,off,none⟩) (rest.length+1) (cap+1))∧w'.cell? ⟨b,off,none⟩=some (.int .i64 x.1.st)∧w'.cell? ⟨b,off+1,none⟩=some (.int .i64 x.1.wd)∧w'.cell? ⟨b,off+2,none⟩=some (.int .i64 x.1.lg)∧w'.cell? ⟨b,off+3,none⟩=some (.int .i64 x.1.cl)∧w'.cell? ⟨b,off+4,none⟩=some (.int .i64 x.1.si)∧w'.cell? ⟨b,off+5,none⟩=some (.int .i64 x.1.qu)∧w'.cell? ⟨z,0,none⟩=some (.int .i64 s.st)∧w'.cell? ⟨z,1,none⟩=some (.int .i64 s.wd)∧w'.cell? ⟨z,2,none⟩=some (.int .i64 s.lg)∧w'.cell? ⟨z,3,none⟩=some (.int .i64 s.cl)∧w'.cell? ⟨z,4,none⟩=some (.int .i64 s.si)∧w'.cell? ⟨z,5,none⟩=some (.int .i64 s.qu)) (go_keep) (first|(go_at_call 121;refine RK.mono ?_;rintro e w5 ⟨rfl,hb5⟩;have F5:Hid _:=LAT.out w5 hb5;obtain⟨p0,p1,p2,p3,p4,p5⟩:=F5.out.2.2.1.cells;have p6:=F5.out.2.1.ms.cells.1;obtain⟨g0,g1,g2,g3,g4,g5,g6⟩:=jmr F5.out.2.2.2;clear hb5))
    all_goals go_wp2_with fail
    refine(FIN.out _ F5.out.1).mono ?_
    intro e w' h
    obtain⟨y,rfl,hh⟩:=h NO.out
    go_wp2_with fail
    go_ret
    exact⟨y,rfl,hh⟩
structure MB (w:World) (B gm gd:Nat) (vo:Value) (now:Int) (vf:Value) (lk:Int) (v:Value) (l:List (Int×Int)):Prop where
 box:w.heap[gm]?=some (.cells #[vo,.int .i64 now,vf,.pointer (some ⟨gd,0,none⟩),.int .i64 lk] 136 (0,0))
 base:B≤gm
 dr:DB w B gd l v
section
variable {w w':World} {B gm gd:Nat} {vo vf v:Value} {now lk:Int} {l:List (Int×Int)}
theorem MB.lt (h:MB w B gm gd vo now vf lk v l):gm < w.heap.size:=(Array.getElem?_eq_some_iff.1 h.box).1
theorem MB.cells (h:MB w B gm gd vo now vf lk v l):w.cell? ⟨gm,0,none⟩=some vo∧w.cell? ⟨gm,1,none⟩=some (.int .i64 now)∧w.cell? ⟨gm,2,none⟩=some vf∧w.cell? ⟨gm,3,none⟩=some (.pointer (some ⟨gd,0,none⟩))∧w.cell? ⟨gm,4,none⟩=some (.int .i64 lk):=by
 refine⟨?_,?_,?_,?_,?_⟩ <;> (rw [cell_of_row _ _ _ _ _ _ h.box];rfl)
theorem MB.frozen (h:MB w B gm gd vo now vf lk v l) (k:Nat):w.frozen? ⟨gm,k,none⟩=false:=by simp [World.frozen?,h.box]
theorem MB.later (h:MB w B gm gd vo now vf lk v l) (hb:Below w.heap.size w w'):MB w' B gm gd vo now vf lk v l :=
 ⟨by rw [hb.block gm h.lt];exact h.box,h.base,h.dr.later hb⟩
theorem MB.turn {v':Value} {l':List (Int×Int)} (h:MB w B gm gd vo now vf lk v l) (hr:Dr w w' gd) (hd:DB w' B gd l' v'):MB w' B gm gd vo now vf lk v' l' :=
 ⟨by rw [hr.block h.dr h.box (by decide) (by decide)];exact h.box,h.base,hd⟩
theorem MB.ms {r:List (Int×Int)} (h:MB w B gm gd vo now vf lk v l) (hs:Sl w vf r) (hF:Ty.FarT B w vf):MS w B gm gd vo now vf r lk v l:=⟨h.box,h.base,h.dr,hs,hF⟩
theorem MB.other (h:MB w B gm gd vo now vf lk v l) (i:Nat) (x:Value):DB (w.setCell ⟨gm,i,none⟩ x) B gd l v∧(∀ {k:Nat} {c:Array Value} {t:TypeId} {f:Nat×Nat},w.heap[k]?=some (.cells c t f)→t≠136→(w.setCell ⟨gm,i,none⟩ x).heap[k]?=w.heap[k]?)∧Below B w (w.setCell ⟨gm,i,none⟩ x):=by
 have hb:Below B w (w.setCell ⟨gm,i,none⟩ x):=(Below.refl B w).setCell (by show B≤gm;exact h.base) x
 have hne:∀ k,k≠gm→(w.setCell ⟨gm,i,none⟩ x).heap[k]?=w.heap[k]?:=fun k hk=>Below.heap_setCell _ _ _ _ (by show k≠gm;exact hk)
 have hty:∀ {k:Nat} {c:Array Value} {t:TypeId} {f:Nat×Nat},w.heap[k]?=some (.cells c t f)→t≠136→k≠gm:=by
  rintro k c t f hk ht rfl
  have e:=hk.symm.trans h.box
  injection e with e
  injection e with _ e
  exact ht e
 refine⟨⟨by rw [hne gd (hty h.dr.1 (by decide))];exact h.dr.1,⟨h.dr.2.1.1,?_⟩,h.dr.2.2.1,Nat.le_trans h.dr.2.2.2 hb.size⟩,fun hk ht=>hne _ (hty hk ht),hb⟩
 rcases h.dr.2.1.2 with h0|⟨b,cap,cur,h0,h1,h2,h3⟩
 ·exact Or.inl h0
 ·exact Or.inr ⟨b,cap,cur,h0,h1,by rw [hne b (hty h2 (by decide))];exact h2,h3⟩
theorem MB.setOld {vo':Value} (h:MB w B gm gd vo now vf lk v l):MB (w.setCell ⟨gm,0,none⟩ vo') B gm gd vo' now vf lk v l :=
 ⟨by rw [setCell_eq_setRow w gm 0 _ _ _ _ h.box,setRow_heap w gm _ _ _ _ h.box];rfl,h.base,(h.other 0 vo').1⟩
theorem MB.setFree {vf':Value} (h:MB w B gm gd vo now vf lk v l):MB (w.setCell ⟨gm,2,none⟩ vf') B gm gd vo now vf' lk v l :=
 ⟨by rw [setCell_eq_setRow w gm 2 _ _ _ _ h.box,setRow_heap w gm _ _ _ _ h.box];rfl,h.base,(h.other 2 vf').1⟩
end
theorem jql {p:Pt} {pl:List Int} {rk:List Nat} {k i:Nat} (hk:rk[k]?=some i):oldOf p pl (rk.take (k+1))=oldOf p pl (rk.take k)++[(shp p i,pl.getD i (-1))]:=by
 unfold oldOf
 rw [jed hk,List.map_append]
 rfl
theorem jms (p:Pt) (pl:List Int) (rk:List Nat):(oldOf p pl rk).length=rk.length:=by unfold oldOf;rw [List.length_map]
theorem joe {w:World} {B:Nat} {vo:Value} {os:List (Ship×Int)} (h:w.ownsRow B 158 7 vo os.length (jae cSt os)):OldS w vo os:=by
 by_cases c:vo=.slice none 0 0
 ·subst c
  obtain⟨x,cap,e⟩:=jan h
  injection e with e1 e2 e3
  exact⟨none,0,by rw [← e2],by omega,Or.inl (List.length_eq_zero_iff.1 e2.symm)⟩
 ·obtain⟨b,cap,e,ho⟩:=OwnK.ofRow h c
  subst e
  obtain⟨cur,hg,_⟩:=ho.row
  exact⟨some ⟨b,0,none⟩,cap,rfl,ho.le,Or.inr ⟨b,0,cur,rfl,hg,ho.rd⟩⟩
end Go.Proofs.YtcmdoeledmkfmacGreatDoor
