/- Texts of this claim, in one: Gen Leaf Mem Row Clone Insert Insert2 Cut Join Good Fit Fit2 Shift Shift2 Shift3 Spans. -/
import Derived.Test.YtcmdoeledmkfmacGreatDoorProg
import Derived.KernelRfl
import Derived.WalkKit
import Derived.WalkSpells
import Derived.WalkLawsBesides
import Derived.Laws.CopyOwn
import Derived.Lib.SliceRun
import Derived.Lib.AppendZeros
import Derived.Deep.LoopGhost
import Derived.Lib.Overlaps
import Derived.Lib.AppendZerosOnto
import Derived.Deep.RegionLaw
import Derived.Lib.QuietBelow
import Derived.BigQuiet
import Derived.Deep.QuietTactic
import Derived.Test.YtcmdoeledmkfmacGreatDoorS1
set_option linter.unusedSimpArgs false
set_option linter.unusedVariables false
set_option maxHeartbeats 40000000
set_option maxRecDepth 100000
namespace Go.Proofs.YtcmdoeledmkfmacGreatDoor
open Go.RowKit
structure EncOk {α:Type} (k:Nat) (c:α→List Value):Prop where
 len:∀ x,(c x).length=k
 one:∀ x,∀ v∈c x,v.oneCell'=true
section
variable {α:Type} {k:Nat} {c:α→List Value}
def jae (c:α→List Value):List α→List Value
 | []=>[]
 | s::r=>c s++jae c r
theorem jdc (a b:List α):jae c (a++b)=jae c a++jae c b:=by
 induction a with
 | nil=>rfl
 | cons s r ih=>simp [jae,ih]
theorem ja6 (E:EncOk k c) (l:List α):(jae c l).length=l.length*k:=by
 induction l with
 | nil=>simp [jae]
 | cons s r ih=>simp only [jae,List.length_append,E.len,ih,List.length_cons];rw [Nat.add_mul];omega
theorem jcx (E:EncOk k c) (l:List α):∀ u∈jae c l,u.oneCell'=true:=by
 induction l with
 | nil=>intro u hu;cases hu
 | cons s r ih =>
  intro u hu
  rcases List.mem_append.1 hu with h|h
  ·exact E.one s u h
  ·exact ih u h
theorem jko (E:EncOk k c) (l:List α):∀ (j:Nat) (x:α),l[j]?=some x→∀ i,i < k→(jae c l)[j*k+i]?=(c x)[i]?:=by
 induction l with
 | nil=>intro j x hx;simp at hx
 | cons s r ih =>
  intro j x hx i hi
  cases j with
  | zero =>
   simp at hx
   subst hx
   simp only [Nat.zero_mul,Nat.zero_add,jae]
   rw [List.getElem?_append_left (by rw [E.len];exact hi)]
  | succ j =>
   simp only [List.getElem?_cons_succ] at hx
   simp only [jae]
   rw [List.getElem?_append_right (by rw [E.len,Nat.add_mul];omega),E.len,show(j+1)*k+i - k=j*k+i by rw [Nat.add_mul];omega]
   exact ih j x hx i hi
theorem jo0 (E:EncOk k c) (l:List α) (i:Nat):(jae c l).drop (i*k)=jae c (l.drop i):=by
 induction l generalizing i with
 | nil=>simp [jae]
 | cons s r ih =>
  cases i with
  | zero=>simp [jae]
  | succ i =>
   simp only [jae,List.drop_succ_cons]
   rw [List.drop_append,E.len,List.drop_of_length_le (by rw [E.len,Nat.add_mul];omega),show(i+1)*k - k=i*k by rw [Nat.add_mul];omega,ih,List.nil_append]
def RdK (c:α→List Value) (w:World) (b off:Nat) (l:List α):Prop:=∀ j u,(jae c l)[j]?=some u→w.cell? ⟨b,off+j,none⟩=some u
theorem RdK.below {w w':World} {b off:Nat} {l:List α} (h:RdK c w b off l) (hb:Below w.heap.size w w'):RdK c w' b off l:=fun j u hu =>
 (hb.cell (World.block_lt_of_cell? w _ (h j u hu))).trans (h j u hu)
theorem RdK.belowB {B:Nat} {w w':World} {b off:Nat} {l:List α} (h:RdK c w b off l) (hB:b < B) (hb:Below B w w'):RdK c w' b off l:=fun j u hu =>
 (hb.cell (p:=⟨b,_,none⟩) hB).trans (h j u hu)
theorem RdK.at {w:World} {b off:Nat} {l:List α} (h:RdK c w b off l) (E:EncOk k c) {j:Nat} {x:α} (hx:l[j]?=some x) {i:Nat} {u:Value} (hu:(c x)[i]?=some u):w.cell? ⟨b,off+(j*k+i),none⟩=some u:=by
 have hi:i < k:=by have:=(List.getElem?_eq_some_iff.1 hu).1;rw [E.len] at this;exact this
 exact h (j*k+i) u (by rw [jko E l j x hx i hi];exact hu)
def SlK (c:α→List Value) (w:World) (v:Value) (l:List α):Prop :=
 ∃ (a:Option Addr) (cap:Nat),v=.slice a l.length cap∧l.length≤cap∧(l=[]∨∃ b off,a=some ⟨b,off,none⟩∧RdK c w b off l)
theorem SlK.below {w w':World} {v:Value} {l:List α} (h:SlK c w v l) (hb:Below w.heap.size w w'):SlK c w' v l:=by
 obtain⟨a,cap,hv,h0,h1⟩:=h
 refine⟨a,cap,hv,h0,?_⟩
 rcases h1 with h1|⟨b,off,ha,hr⟩
 ·exact Or.inl h1
 ·exact Or.inr ⟨b,off,ha,hr.below hb⟩
theorem SlK.nil (w:World):SlK c w (.slice none 0 0) []:=⟨none,0,rfl,Nat.le_refl _,Or.inl rfl⟩
structure OwnK (t:TypeId) (k:Nat) (c:α→List Value) (w:World) (B g cap:Nat) (m:List α):Prop where
 base:B≤g
 le:m.length≤cap
 max:cap≤maxLen
 row:∃ cur:Array Value,w.heap[g]?=some (.cells cur t (0,0))∧cur.size=cap*k∧cur.toList.take (m.length*k)=jae c m
variable {t:TypeId}
theorem OwnK.lt {w:World} {B g cap:Nat} {m:List α} (h:OwnK t k c w B g cap m):g < w.heap.size:=by
 obtain⟨cur,hg,_⟩:=h.row
 exact(Array.getElem?_eq_some_iff.1 hg).1
theorem OwnK.mono {w:World} {B B' g cap:Nat} {m:List α} (h:OwnK t k c w B g cap m) (hB:B'≤B):OwnK t k c w B' g cap m:=⟨by have:=h.base;omega,h.le,h.max,h.row⟩
theorem OwnK.rd {w:World} {B g cap:Nat} {m:List α} (h:OwnK t k c w B g cap m):RdK c w g 0 m:=fun j u hu=>by
 obtain⟨cur,hg,hs,ht⟩:=h.row
 rw [Nat.zero_add,cell_of_row _ _ _ _ _ _ hg]
 rw [← ht,List.getElem?_take] at hu
 split at hu
 ·simpa using hu
 ·cases hu
theorem OwnK.frozen {w:World} {B g cap:Nat} {m:List α} (h:OwnK t k c w B g cap m) (o:Nat):w.frozen? ⟨g,o,none⟩=false:=by
 obtain⟨cur,hg,_⟩:=h.row
 simp [World.frozen?,hg]
theorem OwnK.below {w w':World} {B B' g cap:Nat} {m:List α} (h:OwnK t k c w B g cap m) (hb:Below B' w w') (hB:g < B'):OwnK t k c w' B g cap m:=by
 obtain⟨cur,hg,hr⟩:=h.row
 exact⟨h.base,h.le,h.max,cur,by rw [hb.block g hB];exact hg,hr⟩
theorem OwnK.later {w w':World} {B g cap:Nat} {m:List α} (h:OwnK t k c w B g cap m) (hb:Below w.heap.size w w'):OwnK t k c w' B g cap m:=h.below hb h.lt
theorem OwnK.other {w:World} {B g cap:Nat} {m:List α} (h:OwnK t k c w B g cap m) (a:Addr) (v:Value) (hne:g≠a.block):OwnK t k c (w.setCell a v) B g cap m:=by
 obtain⟨cur,hg,hr⟩:=h.row
 exact⟨h.base,h.le,h.max,cur,by rw [Below.heap_setCell _ _ _ _ hne];exact hg,hr⟩
theorem OwnK.sl {w:World} {B g cap:Nat} {m:List α} (h:OwnK t k c w B g cap m):SlK c w (.slice (some ⟨g,0,none⟩) m.length cap) m :=
 ⟨_,_,rfl,h.le,Or.inr ⟨g,0,rfl,h.rd⟩⟩
theorem OwnK.ofRow {w:World} {B:Nat} {v:Value} {m:List α} (h:w.ownsRow B t k v m.length (jae c m)) (hv:v≠.slice none 0 0):∃ g cap,v=.slice (some ⟨g,0,none⟩) m.length cap∧OwnK t k c w B g cap m:=by
 rcases h.2 with ⟨rfl,_⟩|⟨g,cap,cur,rfl,h1,h2,h3,h4,h5,h6⟩
 ·exact absurd rfl hv
 ·exact⟨g,cap,rfl,h1,h3,h4,cur,h2,h5,h6⟩
theorem OwnK.toRow {w:World} {B g cap:Nat} {m:List α} (E:EncOk k c) (h:OwnK t k c w B g cap m):w.ownsRow B t k (.slice (some ⟨g,0,none⟩) m.length cap) m.length (jae c m):=by
 obtain⟨cur,h2,h5,h6⟩:=h.row
 exact⟨ja6 E m,Or.inr ⟨g,cap,cur,rfl,h.base,h2,h.le,h.max,h5,h6⟩⟩
theorem jaz {w:World} {B:Nat} {v:Value} {m:List α} (h:w.ownsRow B t k v m.length (jae c m)):SlK c w v m:=by
 rcases h.2 with ⟨rfl,h0⟩|⟨g,cap,cur,rfl,h1,h2,h3,h4,h5,h6⟩
 ·have:m=[]:=List.eq_nil_of_length_eq_zero h0
  subst this
  exact SlK.nil w
 ·exact(OwnK.mk h1 h3 h4 ⟨cur,h2,h5,h6⟩:OwnK t k c w B g cap m).sl
theorem OwnK.setCell {w:World} {B g cap:Nat} {m:List α} (h:OwnK t k c w B g cap m) (E:EncOk k c) {j i:Nat} {x x':α} (hx:m[j]?=some x) (hi:i < k) {v:Value} (hc:c x'=(c x).set i v) :
  OwnK t k c (w.setCell ⟨g,j*k+i,none⟩ v) B g cap (m.set j x'):=by
 obtain⟨cur,hg,hs,ht⟩:=h.row
 have h1:(w.setCell ⟨g,j*k+i,none⟩ v).heap[g]?=some (.cells (cur.setIfInBounds (j*k+i) v) t (0,0)):=by
  rw [setCell_eq_setRow w g (j*k+i) cur _ _ _ hg];exact setRow_heap w g cur _ _ _ hg
 refine⟨h.base,by simpa using h.le,h.max,_,h1,by simpa using hs,?_⟩
 have e:∀ (l:List α) (j:Nat),l[j]?=some x→(jae c l).set (j*k+i) v=jae c (l.set j x'):=by
  intro l
  induction l with
  | nil=>intro j hj;simp at hj
  | cons a r ih =>
   intro j hj
   cases j with
   | zero =>
    simp at hj
    subst hj
    simp only [Nat.zero_mul,Nat.zero_add,jae,List.set_cons_zero,hc]
    rw [List.set_append_left _ _ (by rw [E.len];exact hi)]
   | succ j =>
    simp only [List.getElem?_cons_succ] at hj
    simp only [jae,List.set_cons_succ]
    rw [List.set_append_right _ _ (by rw [E.len,Nat.add_mul];omega),E.len,show(j+1)*k+i - k=j*k+i by rw [Nat.add_mul];omega,ih j hj]
 rw [← e m j hx,← ht]
 simp only [Array.toList_setIfInBounds,List.length_set]
 rw [List.take_set]
theorem jfn {P:Program} {tS:TypeId} {i0:TypeInfo} {z:Value} {bytes:Nat} (E:EncOk k c) (hu:P.underlying tS=some (.slice t)) (hi:P.info? t=some i0) (hz0:i0.zero=some z) (hz1:i0.size=k) (hz2:i0.bytes=bytes) (hzs:z.cells.size=k) (hk:0 < k)
  (v:Value) (l:List α) (w:World) (hs:SlK c w v l) (hn:l.length≤maxLen) (hby:l.length*bytes≤140737488355328) (ty:TypeId) :
  ∃ v' w',(Builtin.append_ #[tS,tS] ty #[.slice none 0 0,v]).run P w=.ok v' w'∧w'.ownsRow w.heap.size t k v' l.length (jae c l)∧Below w.heap.size w w':=by
 obtain⟨a,cap,rfl,_,h1⟩:=hs
 cases a with
 | none =>
  have hl:l=[]:=by
   rcases h1 with h|⟨b,off,h,_⟩
   ·exact h
   ·cases h
  subst hl
  refine⟨.slice none 0 0,w,?_,World.ownsRow_nil w _ _ _,Below.refl _ _⟩
  simp [Builtin.append_,run_underlying hu,sizeOf,typeInfo,hi,Builtin.lenOf,Builtin.firstCells,loadCells,loadCellsFrom]
 | some ad =>
  have hnews:∀ j u,(jae c l)[j]?=some u→w.cell? (ad.add j)=some u:=by
   rcases h1 with rfl|⟨b,off,h,hr⟩
   ·intro j u hu;simp [jae] at hu
   ·injection h with h
    subst h
    intro j u hu
    rw [Addr.add_lit]
    exact hr j u hu
  obtain⟨v',w',hr,ho,hg,hv⟩:=run_append_own (P:=P) w w.heap.size tS ty t i0 z k bytes hu hi hz0 hz1 hz2 hzs hk (.slice none 0 0) 0 [] (World.ownsRow_nil w _ _ _) ad l.length cap (jae c l) (ja6 E l) hnews (jcx E l) (by rw [Nat.zero_add];exact hn) (by rw [Nat.zero_add];exact hby) (Nat.le_refl _)
  rw [Nat.zero_add,List.nil_append] at ho
  exact⟨v',w',hr,ho,(Below.refl _ w).grown hg (Nat.le_refl _) (fun k hk=>by simp [Value.ownBlock] at hk)⟩
end
theorem jdf (n:Int) (w:World) :
  Calls Tryz.prog 177 #[.int .i64 n] w fun e w'=>e=.returned (.bool (inB n))∧w'=w:=by
 unfold inB
 by_cases h1:0≤n <;> by_cases h2:n≤16
 all_goals
  go_enter Tryz.func177,Tryz.ntmps177
  go_wp2
  go_ret
  exact⟨by simp [h1,h2],rfl⟩
theorem jot (s a:Int×Int) (w:World) :
  Calls Tryz.prog 178 #[.agg #[.int .i64 s.1,.int .i64 s.2],.agg #[.int .i64 a.1,.int .i64 a.2]] w fun e w'=>e=.returned (.bool (fol s a))∧Below w.heap.size w w':=by
 obtain⟨s1,s2⟩:=s
 obtain⟨a1,a2⟩:=a
 unfold fol
 simp only
 by_cases h1:a1 < s1 <;> by_cases h2:s2=a2
 all_goals
  go_enter Tryz.func178,Tryz.ntmps178
  go_wp2
  go_ret
  exact⟨by simp [h1,h2],((Below.refl _ _).alloc (Nat.le_refl _) _).alloc (by simp) _⟩
theorem jjb (n:Int) (w:World) :
  Calls Tryz.prog 159 #[.int .i64 n] w fun e w'=>e=.returned (.bool false)∧w'=w:=by
 go_enter Tryz.func159,Tryz.ntmps159
 go_wp2
 go_ret
 exact⟨by simp,rfl⟩
theorem jfl (a b:Int) (w:World) :
  Calls Tryz.prog 120 #[.int .i64 a,.int .i64 b] w fun e w'=>e=.returned (.int .i64 (cmpI a b))∧w'=w:=by
 unfold cmpI
 by_cases h1:a < b
 ·go_enter Tryz.func120,Tryz.ntmps120
  go_wp2_with (go_at_call 159;refine(jjb _ _).mono ?_;rintro e w' ⟨rfl,rfl⟩)
  go_ret
  exact⟨by simp [h1],rfl⟩
 ·by_cases h2:b < a
  ·go_enter Tryz.func120,Tryz.ntmps120
   go_wp2_with (go_at_call 159;refine(jjb _ _).mono ?_;rintro e w' ⟨rfl,rfl⟩)
   go_ret
   exact⟨by simp [h1,h2],rfl⟩
  ·go_enter Tryz.func120,Tryz.ntmps120
   go_wp2_with (go_at_call 159;refine(jjb _ _).mono ?_;rintro e w' ⟨rfl,rfl⟩)
   go_ret
   exact⟨by simp [h1,h2],rfl⟩
theorem place1_any (s:Int×Int) (t:Int) (w:World) :
  Calls Tryz.prog 198 #[.agg #[.int .i64 s.1,.int .i64 s.2],.int .i64 t] w fun e w'=>e=.returned (.int .i64 (cmpI s.1 t))∧Below w.heap.size w w':=by
 obtain⟨s1,s2⟩:=s
 simp only
 go_enter Tryz.func198,Tryz.ntmps198
 go_wp2_with (go_at_call 120;refine(jfl _ _ _).mono ?_;rintro e w' ⟨rfl,rfl⟩)
 go_ret
 exact⟨rfl,(Below.refl _ _).alloc (Nat.le_refl _) _⟩
theorem jm3 (s a:Int×Int) (w:World) :
  Calls Tryz.prog 200 #[.agg #[.int .i64 s.1,.int .i64 s.2],.agg #[.int .i64 a.1,.int .i64 a.2]] w fun e w'=>e=.returned (.bool (s.2 == a.2))∧Below w.heap.size w w':=by
 obtain⟨s1,s2⟩:=s
 obtain⟨a1,a2⟩:=a
 simp only
 go_enter Tryz.func200,Tryz.ntmps200
 go_wp2
 go_ret
 exact⟨rfl,((Below.refl _ _).alloc (Nat.le_refl _) _).alloc (by simp) _⟩
def Rd (w:World) (b off:Nat) (l:List (Int×Int)):Prop :=
 ∀ j,j < l.length→w.cell? ⟨b,off+j*2,none⟩=some (.int .i64 (sAt l j).1)∧w.cell? ⟨b,off+j*2+1,none⟩=some (.int .i64 (sAt l j).2)
theorem Rd.below {w w':World} {b off:Nat} {l:List (Int×Int)} (h:Rd w b off l) (hb:Below w.heap.size w w'):Rd w' b off l:=fun j hj =>
 ⟨(hb.cell (World.block_lt_of_cell? w _ (h j hj).1)).trans (h j hj).1,(hb.cell (World.block_lt_of_cell? w _ (h j hj).2)).trans (h j hj).2⟩
theorem Rd.belowB {B:Nat} {w w':World} {b off:Nat} {l:List (Int×Int)} (h:Rd w b off l) (hB:b < B) (hb:Below B w w'):Rd w' b off l:=fun j hj =>
 ⟨(hb.cell (p:=⟨b,_,none⟩) hB).trans (h j hj).1,(hb.cell (p:=⟨b,_,none⟩) hB).trans (h j hj).2⟩
def Sl (w:World) (v:Value) (l:List (Int×Int)):Prop :=
 l.length≤8796093022208∧∃ (a:Option Addr) (cap:Nat),v=.slice a l.length cap∧(l=[]∨∃ b off,a=some ⟨b,off,none⟩∧Rd w b off l)
theorem Sl.below {w w':World} {v:Value} {l:List (Int×Int)} (h:Sl w v l) (hb:Below w.heap.size w w'):Sl w' v l:=by
 obtain⟨h0,a,cap,hv,h1⟩:=h
 refine⟨h0,a,cap,hv,?_⟩
 rcases h1 with h1|⟨b,off,ha,hr⟩
 ·exact Or.inl h1
 ·exact Or.inr ⟨b,off,ha,hr.below hb⟩
theorem jd0 {w:World} {a:Addr} {v:Value} (h:w.cell? a=some v) (o:Obj):(w.alloc o).cell? a=some v :=
 (((Below.refl w.heap.size w).alloc (Nat.le_refl _) o).cell (World.block_lt_of_cell? w _ h)).trans h
theorem jgz (w:World) (x y:Value) (t:TypeId):(w.alloc (.cells #[x,y] t)).cell? ⟨w.heap.size,0,none⟩=some x∧(w.alloc (.cells #[x,y] t)).cell? ⟨w.heap.size,1,none⟩=some y:=by
 have h:(w.alloc (.cells #[x,y] t)).heap[w.heap.size]?=some (.cells #[x,y] t):=heap_alloc_new w _
 exact⟨by rw [cell_of_row _ _ _ _ _ _ h];rfl,by rw [cell_of_row _ _ _ _ _ _ h];rfl⟩
theorem search_any (b off cap:Nat) (l:List (Int×Int)) (t:Int) (w:World) (hr:Rd w b off l) (hn:l.length≤8796093022208) (hs:Rise l) :
  Calls Tryz.prog 197 #[.slice (some ⟨b,off,none⟩) l.length cap,.int .i64 t,.func (.func 198) #[] #[]] w fun e w' =>
   ∃ i:Nat,e=.returned (.tuple #[.int .i64 i,.bool (fnd l t i)])∧CutAt l t i∧Below w.heap.size w w':=by
 have HS:Hid (Rise l):=hs
 have HR:Hid (Rd w b off l):=hr
 have S0:Hid (Below w.heap.size w w):=Below.refl _ _
 clear hs hr
 go_enter Tryz.func197,Tryz.ntmps197
 go_wp2
 go_loopg [9,10] l.length (fun kx s9 s10 wr=>∃ lo hi:Nat,s9=.int .i64 lo∧s10=.int .i64 hi∧lo≤hi∧hi≤l.length∧hi - lo≤kx∧Hid (Below w.heap.size w wr) ∧
  Hid ((∀ k,k < lo→(sAt l k).1 < t)∧(∀ k,hi≤k→k < l.length→t≤(sAt l k).1)))
 case atStart=>exact⟨0,l.length,rfl,rfl,Nat.zero_le _,Nat.le_refl _,by omega,S0,(⟨fun k hk=>absurd hk (Nat.not_lt_zero _),fun k h1 h2=>by omega⟩:(∀ k,k < 0→(sAt l k).1 < t)∧(∀ k,l.length≤k→k < l.length→t≤(sAt l k).1))⟩
 case round =>
  clear S0
  obtain⟨lo,hi,rfl,rfl,hlh,hin,hg,S1,I⟩:=hrel
  by_cases hlt:lo < hi
  ·obtain⟨c0,c1⟩:=(HR.out.below S1.out) ((lo+hi) / 2) (by omega)
   generalize hy:sAt l ((lo+hi) / 2)=y at c0 c1
   have Y:Hid (sAt l ((lo+hi) / 2)=y):=hy
   clear hy
   by_cases hyx:y.1 < t
   ·have hneg:cmpI y.1 t < 0:=jij.2 hyx
    go_wp2_with (go_at_call 198;refine(place1_any y t _).mono ?_;rintro e w' ⟨rfl,hb⟩)
    go_roundg (hi - ((lo+hi) / 2+1))
    case measure=>omega
    case rel =>
     have I2:Hid ((∀ k,k < (lo+hi) / 2+1→(sAt l k).1 < t)∧(∀ k,hi≤k→k < l.length→t≤(sAt l k).1)):=⟨fun k hk=>by
      by_cases hk2:k=(lo+hi) / 2
      ·rw [hk2,Y.out];exact hyx
      ·have:=HS.out k ((lo+hi) / 2) (by omega) (by omega)
       rw [Y.out] at this
       omega,I.out.2⟩
     exact⟨(lo+hi) / 2+1,hi,by rw [show((lo:Int)+(hi:Int)) / 2+1=(((lo+hi) / 2+1:Nat):Int) by omega],rfl,by omega,hin,Nat.le_refl _,S1.out.trans (hb.mono S1.out.size),I2⟩
   ·have hneg:¬ cmpI y.1 t < 0:=fun h=>hyx (jij.1 h)
    go_wp2_with (go_at_call 198;refine(place1_any y t _).mono ?_;rintro e w' ⟨rfl,hb⟩)
    go_roundg ((lo+hi) / 2 - lo)
    case measure=>omega
    case rel =>
     have I2:Hid ((∀ k,k < lo→(sAt l k).1 < t)∧(∀ k,(lo+hi) / 2≤k→k < l.length→t≤(sAt l k).1)):=⟨I.out.1,fun k hk hkl=>by
      by_cases hk2:k=(lo+hi) / 2
      ·rw [hk2,Y.out];omega
      ·have:=HS.out ((lo+hi) / 2) k (by omega) hkl
       rw [Y.out] at this
       omega⟩
     exact⟨lo,(lo+hi) / 2,rfl,by rw [show((lo:Int)+(hi:Int)) / 2=(((lo+hi) / 2:Nat):Int) by omega],by omega,by omega,Nat.le_refl _,S1.out.trans (hb.mono S1.out.size),I2⟩
  ·obtain rfl:hi=lo:=by omega
   have C:Hid (CutAt l t hi):=⟨hin,I.out.1,I.out.2⟩
   by_cases hn2:hi < l.length
   ·obtain⟨c0,c1⟩:=(HR.out.below S1.out) hi hn2
    generalize hy:sAt l hi=y at c0 c1
    have Y:Hid (sAt l hi=y):=hy
    clear hy
    by_cases hyx:y.1=t
    ·have HY:Hid (y.1=t):=hyx
     have hz:(cmpI y.1 t == 0)=true:=beq_iff_eq.2 (jhb.2 hyx)
     clear hyx
     go_wp2_with (go_at_call 198;refine(place1_any y t _).mono ?_;rintro e w' ⟨rfl,hb⟩)
     go_ret2
     exact⟨hi,by unfold fnd;rw [Y.out];simp [hn2,HY.out],C.out,S1.out.trans (hb.mono S1.out.size)⟩
    ·have hz:(cmpI y.1 t == 0)=false:=beq_eq_false_iff_ne.2 fun h=>hyx (jhb.1 h)
     go_wp2_with (go_at_call 198;refine(place1_any y t _).mono ?_;rintro e w' ⟨rfl,hb⟩)
     go_ret2
     exact⟨hi,by unfold fnd;rw [Y.out];simp [hn2,hyx],C.out,S1.out.trans (hb.mono S1.out.size)⟩
   ·go_wp2
    go_ret2
    exact⟨hi,by unfold fnd;simp [hn2],C.out,S1.out⟩
theorem jfs (b off cap:Nat) (l:List (Int×Int)) (t:Int) (w:World) (hr:Rd w b off l) (hn:l.length≤8796093022208) (hs:Rise l) :
  Calls Tryz.prog 181 #[.slice (some ⟨b,off,none⟩) l.length cap,.int .i64 t] w fun e w' =>
   ∃ i:Nat,e=.returned (.tuple #[.int .i64 i,.bool (fnd l t i)])∧CutAt l t i∧Below w.heap.size w w':=by
 have HC:=fun W (h:Rd W b off l)=>search_any b off cap l t W h hn hs
 have HR:Hid (Rd w b off l):=hr
 clear hr hs
 go_enter Tryz.func181,Tryz.ntmps181
 go_wp2_with (go_at_call 197;refine(HC _ HR.out).mono ?_;rintro e w' ⟨i,rfl,hc,hb⟩)
 go_ret2
 exact⟨i,rfl,hc,hb⟩
def cells:List (Int×Int)→List Value
 | []=>[]
 | s::r=>.int .i64 s.1::.int .i64 s.2::cells r
theorem cells_append (a b:List (Int×Int)):cells (a++b)=cells a++cells b:=by
 induction a with
 | nil=>rfl
 | cons s r ih=>simp [cells,ih]
theorem cells_length (l:List (Int×Int)):(cells l).length=l.length*2:=by
 induction l with
 | nil=>rfl
 | cons s r ih=>simp [cells,ih];omega
theorem cells_one (l:List (Int×Int)):∀ u∈cells l,u.oneCell'=true:=by
 induction l with
 | nil=>intro u hu;cases hu
 | cons s r ih =>
  intro u hu
  simp [cells] at hu
  rcases hu with rfl|rfl|hu
  ·rfl
  ·rfl
  ·exact ih u hu
theorem cells_get (l:List (Int×Int)):∀ j,j < l.length→(cells l)[j*2]?=some (.int .i64 (sAt l j).1)∧(cells l)[j*2+1]?=some (.int .i64 (sAt l j).2):=by
 induction l with
 | nil=>intro j hj;simp at hj
 | cons s r ih =>
  intro j hj
  cases j with
  | zero=>exact⟨rfl,rfl⟩
  | succ j =>
   have:=ih j (by simpa using hj)
   rw [show(j+1)*2=j*2+1+1 by omega]
   exact this
theorem cells_of_get (l:List (Int×Int)) (j:Nat) (u:Value) (h:(cells l)[j]?=some u):j / 2 < l.length∧(j % 2=0→u=.int .i64 (sAt l (j / 2)).1)∧(j % 2=1→u=.int .i64 (sAt l (j / 2)).2):=by
 have hj:j < (cells l).length:=(List.getElem?_eq_some_iff.1 h).1
 rw [cells_length] at hj
 have hl:j / 2 < l.length:=by omega
 obtain⟨h1,h2⟩:=cells_get l (j / 2) hl
 refine⟨hl,fun e=>?_,fun e=>?_⟩
 ·rw [show j / 2*2=j by omega] at h1;rw [h1] at h;injection h with h;exact h.symm
 ·rw [show j / 2*2+1=j by omega] at h2;rw [h2] at h;injection h with h;exact h.symm
theorem cells_take (l:List (Int×Int)) (i:Nat):(cells l).take (i*2)=cells (l.take i):=by
 induction l generalizing i with
 | nil=>simp [cells]
 | cons s r ih =>
  cases i with
  | zero=>simp [cells]
  | succ i=>rw [show(i+1)*2=i*2+1+1 by omega];simp [cells,ih]
theorem cells_drop (l:List (Int×Int)) (i:Nat):(cells l).drop (i*2)=cells (l.drop i):=by
 induction l generalizing i with
 | nil=>simp [cells]
 | cons s r ih =>
  cases i with
  | zero=>simp [cells]
  | succ i=>rw [show(i+1)*2=i*2+1+1 by omega];simp [cells,ih]
structure OwnG (w:World) (B g cap:Nat) (m:List (Int×Int)):Prop where
 base:B≤g
 le:m.length≤cap
 max:cap≤maxLen
 row:∃ cur:Array Value,w.heap[g]?=some (.cells cur 194 (0,0))∧cur.size=cap*2∧cur.toList.take (m.length*2)=cells m
theorem OwnG.lt {w:World} {B g cap:Nat} {m:List (Int×Int)} (h:OwnG w B g cap m):g < w.heap.size:=by
 obtain⟨cur,hg,_⟩:=h.row
 exact(Array.getElem?_eq_some_iff.1 hg).1
theorem OwnG.mono {w:World} {B B' g cap:Nat} {m:List (Int×Int)} (h:OwnG w B g cap m) (hB:B'≤B):OwnG w B' g cap m:=⟨by have:=h.base;omega,h.le,h.max,h.row⟩
theorem OwnG.at {w:World} {B g cap:Nat} {m:List (Int×Int)} (h:OwnG w B g cap m) {j:Nat} {u:Value} (hu:(cells m)[j]?=some u):w.cell? ⟨g,j,none⟩=some u:=by
 obtain⟨cur,hg,hs,ht⟩:=h.row
 rw [cell_of_row _ _ _ _ _ _ hg]
 rw [← ht,List.getElem?_take] at hu
 split at hu
 ·simpa using hu
 ·cases hu
theorem OwnG.rd {w:World} {B g cap:Nat} {m:List (Int×Int)} (h:OwnG w B g cap m):Rd w g 0 m:=fun j hj=>by
 obtain⟨h1,h2⟩:=cells_get m j hj
 rw [Nat.zero_add]
 exact⟨h.at h1,h.at h2⟩
theorem OwnG.frozen {w:World} {B g cap:Nat} {m:List (Int×Int)} (h:OwnG w B g cap m) (o:Nat):w.frozen? ⟨g,o,none⟩=false:=by
 obtain⟨cur,hg,_⟩:=h.row
 simp [World.frozen?,hg]
theorem OwnG.there {w:World} {B g cap:Nat} {m:List (Int×Int)} (h:OwnG w B g cap m) (o:Nat) (ho:o < cap*2):(w.cell? ⟨g,o,none⟩).isSome=true:=by
 obtain⟨cur,hg,hs,_⟩:=h.row
 rw [cell_of_row _ _ _ _ _ _ hg]
 simp [hs,ho]
theorem OwnG.below {w w':World} {B B' g cap:Nat} {m:List (Int×Int)} (h:OwnG w B g cap m) (hb:Below B' w w') (hB:g < B'):OwnG w' B g cap m:=by
 obtain⟨cur,hg,hr⟩:=h.row
 exact⟨h.base,h.le,h.max,cur,by rw [hb.block g hB];exact hg,hr⟩
theorem OwnG.later {w w':World} {B g cap:Nat} {m:List (Int×Int)} (h:OwnG w B g cap m) (hb:Below w.heap.size w w'):OwnG w' B g cap m:=h.below hb h.lt
theorem OwnG.sl {w:World} {B g cap:Nat} {m:List (Int×Int)} (h:OwnG w B g cap m) (hm:m.length≤8796093022208):Sl w (.slice (some ⟨g,0,none⟩) m.length cap) m :=
 ⟨hm,_,_,rfl,Or.inr ⟨g,0,rfl,h.rd⟩⟩
theorem OwnG.ofRow {w:World} {B:Nat} {v:Value} {m:List (Int×Int)} (h:w.ownsRow B 194 2 v m.length (cells m)) (hv:v≠.slice none 0 0):∃ g cap,v=.slice (some ⟨g,0,none⟩) m.length cap∧OwnG w B g cap m:=by
 rcases h.2 with ⟨rfl,_⟩|⟨g,cap,cur,rfl,h1,h2,h3,h4,h5,h6⟩
 ·exact absurd rfl hv
 ·exact⟨g,cap,rfl,h1,h3,h4,cur,h2,h5,h6⟩
theorem OwnG.toRow {w:World} {B g cap:Nat} {m:List (Int×Int)} (h:OwnG w B g cap m):w.ownsRow B 194 2 (.slice (some ⟨g,0,none⟩) m.length cap) m.length (cells m):=by
 obtain⟨cur,h2,h5,h6⟩:=h.row
 exact⟨cells_length m,Or.inr ⟨g,cap,cur,rfl,h.base,h2,h.le,h.max,h5,h6⟩⟩
theorem OwnG.store {w:World} {B g cap:Nat} {m:List (Int×Int)} (h:OwnG w B g cap m) (k:Nat) (hk:k < m.length) (s:Int×Int) :
  OwnG ((w.setCell ⟨g,k*2,none⟩ (.int .i64 s.1)).setCell ⟨g,k*2+1,none⟩ (.int .i64 s.2)) B g cap (m.set k s):=by
 obtain⟨cur,hg,hs,ht⟩:=h.row
 have h1:(w.setCell ⟨g,k*2,none⟩ (.int .i64 s.1)).heap[g]?=some (.cells (cur.setIfInBounds (k*2) (.int .i64 s.1)) 194 (0,0)):=by
  rw [setCell_eq_setRow w g (k*2) cur _ _ _ hg];exact setRow_heap w g cur _ _ _ hg
 have h2:((w.setCell ⟨g,k*2,none⟩ (.int .i64 s.1)).setCell ⟨g,k*2+1,none⟩ (.int .i64 s.2)).heap[g]?=some (.cells ((cur.setIfInBounds (k*2) (.int .i64 s.1)).setIfInBounds (k*2+1) (.int .i64 s.2)) 194 (0,0)):=by
  rw [setCell_eq_setRow _ g (k*2+1) _ _ _ _ h1];exact setRow_heap _ g _ _ _ _ h1
 refine⟨h.base,by simpa using h.le,h.max,_,h2,by simpa using hs,?_⟩
 have e:∀ (l:List (Int×Int)) (k:Nat),k < l.length→((cells l).set (k*2) (.int .i64 s.1)).set (k*2+1) (.int .i64 s.2)=cells (l.set k s):=by
  intro l
  induction l with
  | nil=>intro k hk;simp at hk
  | cons a r ih =>
   intro k hk
   cases k with
   | zero=>simp [cells]
   | succ k=>rw [show(k+1)*2=k*2+1+1 by omega];simp [cells];exact ih k (by simpa using hk)
 rw [← e m k hk,← ht]
 simp only [Array.toList_setIfInBounds,List.length_set]
 rw [List.take_set,List.take_set]
section
variable (P:Program)
theorem run_copy_rowK (w:World) (dT sT ty elem:TypeId) (k g o dLen dCap:Nat) (a:Addr) (sLen sCap:Nat) (cur:Array Value) (t:TypeId) (cs:List Value)
  (hu:P.underlying dT=some (.slice elem)) (hs:(P.info? elem).map (·.size)=some k)
  (hg:w.heap[g]?=some (.cells cur t (0,0))) (hn:cs.length=Nat.min sLen dLen*k)
  (hsrc:∀ j v,cs[j]?=some v→w.cell? (a.add j)=some v) (hfit:o+cs.length≤cur.size) (h1:∀ v∈cs,v.oneCell'=true) :
  (Builtin.copy_ #[dT,sT] ty #[.slice (some ⟨g,o,none⟩) dLen dCap,.slice (some a) sLen sCap]).run P w =
   .ok (goInt (Nat.min sLen dLen)) (w.setRow g (cur.toList.take o++cs++cur.toList.drop (o+cs.length)).toArray):=by
 have hl:=run_loadCells_list (P:=P) w a cs hsrc
 have hst:=run_storeCells_at P g o t cs 0 cur w hg (by simpa using hfit) h1
 cases hq:P.info? elem with
 | none=>simp [hq] at hs
 | some i =>
  have hi:i.size=k:=by simpa [hq] using hs
  simp [Builtin.copy_,run_underlying hu,Builtin.lenOf,Builtin.firstCells,sizeOf,typeInfo,hq,hi,← hn,hl,hst]
end
theorem wpList_copy_splice2 {P:Program} {w:World} {ops:Array Oper} {rest:List Oper} {o:Oper} {a:Act} {Q:Exit→Act→World→Prop} (hgd:o.guard=none) (d s:Operand) (dT sT:TypeId)
  (ho:o.op=.call { callee:=.builtin .copy,args:=#[d,s],argTypes:=#[dT,sT] }) (elem:TypeId) (hu:P.underlying dT=some (.slice elem)) (hsz:(P.info? elem).map (·.size)=some 2)
  (g off dLen dCap:Nat) (ad:Addr) (sLen sCap:Nat) (hd:a.eval d=.slice (some ⟨g,off,none⟩) dLen dCap) (hs:a.eval s=.slice (some ad) sLen sCap)
  (cur:List Value) (t:TypeId) (hg:w.heap[g]?=some (.cells cur.toArray t (0,0))) (cs:List Value) (hn:cs.length=Nat.min sLen dLen*2)
  (hsrc:∀ j v,cs[j]?=some v→w.cell? (ad.add j)=some v)
  (hfit:off+cs.length≤cur.length) (h1:∀ v∈cs,v.oneCell'=true) (B:Nat) (w0:World) (hb:Below B w0 w) (hBg:B≤g)
  (h:∀ w',Hid (w'.heap[g]?=some (.cells (splice cur off cs).toArray t (0,0))∧(∀ k,k≠g→w'.heap[k]?=w.heap[k]?)∧w'.heap.size=w.heap.size)→Below B w0 w'→wpList P ops Q rest (a.put o.dst (goInt (Nat.min sLen dLen))) w') :
  wpList P ops Q (o::rest) a w:=by
 refine wpList_plain hgd fun K hK=>?_
 have hrun:=run_copy_rowK P w dT sT o.type elem 2 g off dLen dCap ad sLen sCap cur.toArray t cs hu hsz hg hn hsrc (by simpa using hfit) h1
 unfold Oper.wp
 simp [execOp,ho,resolve,invoke,builtin,hd,hs,hrun,Result.andThen]
 refine hK _ _ (h _ ?_ (below_setRow hb hBg _))
 exact⟨by simpa [splice] using setRow_heap w g _ _ t _ hg,fun k hk=>setRow_other w g k _ (by omega),by simp [World.setRow]⟩
theorem step_copy_splice2 {P:Program} {ops:Array Oper} {o:Oper} {a:Act} {w:World} {K:Act→World→Prop} {Q:Exit→Act→World→Prop} {E:Prop} (hgd:o.guard=none) (d s:Operand) (dT sT:TypeId)
  (ho:o.op=.call { callee:=.builtin .copy,args:=#[d,s],argTypes:=#[dT,sT] }) (elem:TypeId) (hu:P.underlying dT=some (.slice elem)) (hsz:(P.info? elem).map (·.size)=some 2)
  (g off dLen dCap:Nat) (ad:Addr) (sLen sCap:Nat) (hd:a.eval d=.slice (some ⟨g,off,none⟩) dLen dCap) (hs:a.eval s=.slice (some ad) sLen sCap)
  (cur:List Value) (t:TypeId) (hg:w.heap[g]?=some (.cells cur.toArray t (0,0))) (cs:List Value) (hn:cs.length=Nat.min sLen dLen*2)
  (hsrc:∀ j v,cs[j]?=some v→w.cell? (ad.add j)=some v)
  (hfit:off+cs.length≤cur.length) (h1:∀ v∈cs,v.oneCell'=true) (B:Nat) (w0:World) (hb:Below B w0 w) (hBg:B≤g)
  (h:∀ w',Hid (w'.heap[g]?=some (.cells (splice cur off cs).toArray t (0,0))∧(∀ k,k≠g→w'.heap[k]?=w.heap[k]?)∧w'.heap.size=w.heap.size)→Below B w0 w'→K (a.put o.dst (goInt (Nat.min sLen dLen))) w') :
  if Region.wanted o (yielded ops a.tmps)=true then Oper.wp P o a w K Q else E:=by
 have hw:Region.wanted o (yielded ops a.tmps)=true:=by simp [Region.wanted,hgd]
 rw [if_pos hw]
 have hrun:=run_copy_rowK P w dT sT o.type elem 2 g off dLen dCap ad sLen sCap cur.toArray t cs hu hsz hg hn hsrc (by simpa using hfit) h1
 unfold Oper.wp
 simp [execOp,ho,resolve,invoke,builtin,hd,hs,hrun,Result.andThen]
 refine h _ ?_ (below_setRow hb hBg _)
 exact⟨by simpa [splice] using setRow_heap w g _ _ t _ hg,fun k hk=>setRow_other w g k _ (by omega),by simp [World.setRow]⟩
theorem infoStep':(Tryz.prog.info? 194).map (fun i=>(i.zero,i.size,i.bytes))=some (some (.agg #[.int .i64 0,.int .i64 0]),2,16):=by kernel_rfl
theorem infoStep:∃ i,Tryz.prog.info? 194=some i∧i.zero=some (.agg #[.int .i64 0,.int .i64 0])∧i.size=2∧i.bytes=16:=by
 have h:=infoStep'
 cases hq:Tryz.prog.info? 194 with
 | none=>rw [hq] at h;cases h
 | some i =>
  rw [hq] at h
  simp at h
  exact⟨i,rfl,h.1,h.2.1,h.2.2⟩
theorem sizeStep:(Tryz.prog.info? 194).map (·.size)=some 2:=by
 obtain⟨i,h1,_,h2,_⟩:=infoStep
 rw [h1];simp [h2]
theorem Rd.news {w:World} {b off:Nat} {l:List (Int×Int)} (h:Rd w b off l):∀ j u,(cells l)[j]?=some u→w.cell? ((⟨b,off,none⟩:Addr).add j)=some u:=by
 intro j u hu
 obtain⟨h1,h2,h3⟩:=cells_of_get l j u hu
 rw [Addr.add_lit]
 obtain⟨c0,c1⟩:=h (j / 2) h1
 rcases Nat.mod_two_eq_zero_or_one j with e|e
 ·rw [h2 e,show off+j=off+j / 2*2 by omega];exact c0
 ·rw [h3 e,show off+j=off+j / 2*2+1 by omega];exact c1
theorem jt5 (ad:Addr) (cap:Nat) (l:List (Int×Int)) (w:World) (hr:∀ j u,(cells l)[j]?=some u→w.cell? (ad.add j)=some u) (hn:l.length≤8796093022208) :
  Calls Tryz.prog 179 #[.slice (some ad) l.length cap] w fun e w'=>∃ g cap',e=.returned (.slice (some ⟨g,0,none⟩) l.length cap')∧OwnG w' w.heap.size g cap' l∧Below w.heap.size w w':=by
 obtain⟨i0,hi,hz0,hz1,hz2⟩:=infoStep
 have HI:Hid (Tryz.prog.info? 194=some i0):=hi
 have HZ:Hid (i0.zero=some (.agg #[.int .i64 0,.int .i64 0])∧i0.size=2∧i0.bytes=16):=⟨hz0,hz1,hz2⟩
 have q22:∀ (w:World) (a:Option Addr) (n c n' c':Nat),(binOp .eql 133 (.slice a n c) (.slice none n' c')).run Tryz.prog w=.ok (.bool a.isNone) w:=fun w a n c n' c'=>Lib.run_eql_slice_nil w _ _ a n c n' c' Tryz.underlying133
 have A:Hid (∀ j u,(cells l)[j]?=some u→w.cell? (ad.add j)=some u):=hr
 clear hr hi hz0 hz1 hz2
 go_enter Tryz.func179,Tryz.ntmps179
 go_wp2_with (at_builtin;refine wpList_append_own _ rfl _ _ 133 rfl w.heap.size 194 i0 (.agg #[.int .i64 0,.int .i64 0]) 2 16 Tryz.underlying133 HI.out HZ.out.1 HZ.out.2.1 HZ.out.2.2 rfl (by omega) _ _ _ rfl (World.ownsRow_made w #[] 0 (Nat.le_refl _) (Nat.zero_le _) (by simp)) ad l.length cap (cells l) rfl ?qc1 ?qc2 ?qc3 ?qc4 ?qc5 ?qc6 ?_)
 case qc1=>exact cells_length l
 case qc2 =>
  intro j u hj
  exact jd0 (A.out j u hj) _
 case qc3=>exact cells_one l
 case qc4=>unfold maxLen;omega
 case qc5=>omega
 case qc6=>simp
 intro v' w1 hown hgrow hnil
 have hb:Below w.heap.size w w1:=((Below.refl _ w).alloc (Nat.le_refl _) _).grown hgrow (by simp) (by intro k hk;simp [Value.ownBlock] at hk;omega)
 obtain⟨g,cap',rfl,ho⟩:=OwnG.ofRow hown hnil
 have HO:Hid (OwnG w1 w.heap.size g cap' l):=ho
 have HB:Hid (Below w.heap.size w w1):=hb
 clear hown hgrow hnil ho hb
 go_wp2
 go_ret
 exact⟨g,cap',rfl,HO.out,HB.out⟩
theorem jkl (b off cap:Nat) (l:List (Int×Int)) (w:World) (hr:Rd w b off l) (hn:l.length≤8796093022208) :
  Calls Tryz.prog 179 #[.slice (some ⟨b,off,none⟩) l.length cap] w fun e w'=>∃ g cap',e=.returned (.slice (some ⟨g,0,none⟩) l.length cap')∧OwnG w' w.heap.size g cap' l∧Below w.heap.size w w' :=
 jt5 ⟨b,off,none⟩ cap l w hr.news hn
theorem jry (w:World) :
  Calls Tryz.prog 142 #[] w fun e w'=>∃ v,e=.returned v∧Sl w' v [(0,16)]∧Below w.heap.size w w':=by
 have hb:Below w.heap.size w (w.alloc (.cells #[.int .i64 0,.int .i64 16] 194)):=(Below.refl _ w).alloc (Nat.le_refl _) _
 obtain⟨n0,n1⟩:=jgz w (.int .i64 0) (.int .i64 16) 194
 have hr:Rd (w.alloc (.cells #[.int .i64 0,.int .i64 16] 194)) w.heap.size 0 [(0,16)]:=fun j hj=>by
  have:j=0:=by simpa using hj
  subst this
  exact⟨n0,n1⟩
 have HB:Hid _:=hb
 have HR:Hid _:=hr
 clear n0 n1 hb hr
 go_enter Tryz.func142,Tryz.ntmps142
 go_wp2
 go_ret
 exact⟨_,rfl,⟨by simp,_,_,rfl,Or.inr ⟨_,_,rfl,HR.out⟩⟩,HB.out⟩
theorem insert_end (B g cap vb:Nat) (l:List (Int×Int)) (s:Int×Int) (w:World) (ho:OwnG w B g cap l) (hlen:l.length≤1000)
  (hv:w.heap[vb]?=some (.cells #[.int .i64 s.1,.int .i64 s.2] 194 (0,0))) :
  Calls Tryz.prog 196 #[.slice (some ⟨g,0,none⟩) l.length cap,.int .i64 l.length,.slice (some ⟨vb,0,none⟩) 1 1] w fun e w' =>
   ∃ g' cap',e=.returned (.slice (some ⟨g',0,none⟩) (l.length+1) cap')∧OwnG w' B g' cap' (l++[s])∧Below B w w':=by
 obtain⟨i0,hi,hz0,hz1,hz2⟩:=infoStep
 have HI:Hid (Tryz.prog.info? 194=some i0):=hi
 have HZ:Hid (i0.zero=some (.agg #[.int .i64 0,.int .i64 0])∧i0.size=2∧i0.bytes=16):=⟨hz0,hz1,hz2⟩
 have HO:Hid (OwnG w B g cap l):=ho
 have HV:Hid (w.heap[vb]?=some (.cells #[.int .i64 s.1,.int .i64 s.2] 194 (0,0))):=hv
 have hmax:cap≤9223372036854775807:=by have:=ho.max;unfold maxLen at this;exact this
 have hle:=ho.le
 clear ho hv hi hz0 hz1 hz2
 have q1:(cells [s]).length=1*2:=rfl
 have q2:∀ (j:Nat) (u:Value),(cells [s])[j]?=some u→w.cell? ((⟨vb,0,none⟩:Addr).add j)=some u:=fun j u hu=>by
  rw [Addr.add_lit,Nat.zero_add,cell_of_row _ _ _ _ _ _ HV.out]
  simpa [cells] using hu
 have q3:=cells_one [s]
 have q4:l.length+1≤maxLen:=by unfold maxLen;omega
 have q6:B≤w.heap.size:=by have:=HO.out.base;have:=HO.out.lt;omega
 have Q1:Hid ((cells [s]).length=1*2∧(∀ (j:Nat) (u:Value),(cells [s])[j]?=some u→w.cell? ((⟨vb,0,none⟩:Addr).add j)=some u)∧(∀ u∈cells [s],u.oneCell'=true)∧l.length+1≤maxLen∧(l.length+1)*16≤140737488355328∧B≤w.heap.size):=⟨q1,q2,q3,q4,by omega,q6⟩
 clear q1 q2 q3 q4 q6
 go_enter Tryz.func196,Tryz.ntmps196
 go_wp2_with (at_builtin;refine wpList_append_own _ rfl _ _ 133 rfl B 194 i0 (.agg #[.int .i64 0,.int .i64 0]) 2 16 Tryz.underlying133 HI.out HZ.out.1 HZ.out.2.1 HZ.out.2.2 rfl (by omega) _ _ _ rfl HO.out.toRow ⟨vb,0,none⟩ 1 1 (cells [s]) rfl Q1.out.1 Q1.out.2.1 Q1.out.2.2.1 Q1.out.2.2.2.1 Q1.out.2.2.2.2.1 Q1.out.2.2.2.2.2 ?_)
 all_goals
  intro v' w1 hown hgrow hnil
  have hb:Below B w w1:=(Below.refl B w).grown hgrow Q1.out.2.2.2.2.2 (fun k hk=>by simp [Value.ownBlock] at hk;have:=HO.out.base;omega)
  rw [← cells_append,show l.length+1=(l++[s]).length by simp] at hown
  obtain⟨g',cap',rfl,ho⟩:=OwnG.ofRow hown hnil
  have H1:Hid (OwnG w1 B g' cap' (l++[s])):=ho
  have H2:Hid (Below B w w1):=hb
  clear hown hgrow hnil ho hb
  go_wp2
  go_ret
  exact⟨g',cap',by simp,H1.out,H2.out⟩
theorem ins_row (L:List Value) (l:List (Int×Int)) (i:Nat) (s:Int×Int) (hi:i≤l.length) (hL:(l.length+1)*2≤L.length) (h:L.take (l.length*2)=cells l) :
  (splice (splice L ((i+1)*2) (cells (l.drop i))) (i*2) (cells [s])).take ((l.take i++s::l.drop i).length*2)=cells (l.take i++s::l.drop i):=by
 have hl:(l.take i++s::l.drop i).length=l.length+1:=by simp;omega
 have hx:L.take (i*2)=cells (l.take i):=by
  rw [← cells_take,← h,List.take_take]
  congr 1
  omega
 have hX:(cells (l.take i)).length=i*2:=by rw [cells_length,List.length_take];omega
 have hY:(cells (l.drop i)).length=(l.length - i)*2:=by rw [cells_length,List.length_drop]
 have hS:(cells [s]).length=2:=rfl
 have e1:L.take ((i+1)*2)=cells (l.take i)++(L.drop (i*2)).take 2:=by
  rw [← hx,show(i+1)*2=i*2+2 by omega,List.take_add]
 have hZ:((L.drop (i*2)).take 2).length=2:=by rw [List.length_take,List.length_drop];omega
 rw [hl]
 unfold splice
 rw [hS,hY,e1]
 generalize hZd:(L.drop (i*2)).take 2=Z at hZ
 generalize L.drop ((i+1)*2+(l.length - i)*2)=R
 rw [show cells (l.take i++s::l.drop i)=cells (l.take i)++(cells [s]++cells (l.drop i)) by rw [cells_append];rfl]
 generalize cells (l.take i)=X at *
 generalize cells (l.drop i)=Y at *
 generalize cells [s]=S at *
 have a1:(X++Z++(Y++R)).take (i*2)=X:=by rw [List.append_assoc,List.take_append_of_le_length (by omega)];exact List.take_of_length_le (by omega)
 have a2:(X++Z++(Y++R)).drop (i*2+2)=Y++R:=by
  rw [List.drop_append,List.drop_of_length_le (by simp;omega)]
  simp [hX,hZ]
 rw [a1,a2,show X++(S++(Y++R))=(X++(S++Y))++R by simp]
 rw [List.take_append_of_le_length (by simp;omega)]
 exact List.take_of_length_le (by simp;omega)
theorem overlaps_no (w:World) (g vb:Nat) (hne:vb≠g) {cur vcur:Array Value} {t t':TypeId} (hg:w.heap[g]?=some (.cells cur t (0,0))) (h0:cur.size≠0) (hv:w.heap[vb]?=some (.cells vcur t' (0,0))) (off lb cb:Nat) :
  (callFunc 206 #[.slice (some ⟨vb,0,none⟩) 1 1,.slice (some ⟨g,off,none⟩) lb cb]).run Tryz.prog w=.ok (.value (.bool false)) w:=by
 rw [run_callFunc_extern Tryz.func206 (by kernel_rfl) (by kernel_rfl) (by kernel_rfl) (e:=Extern.SlicesOverlaps.overlaps #[133,133] #[4]) (by kernel_rfl),
  Lib.run_overlaps_apart w 133 4 194 Tryz.underlying133 2 Tryz.sizeOf194 ⟨vb,0,none⟩ ⟨g,off,none⟩ 1 1 lb cb hne t' t vcur.size cur.size (by simp [World.shape?,hv]) (by simp [World.shape?,hg]) h0 (by simp [World.frozen?,hv]) (by simp [World.frozen?,hv])]
 rfl
theorem insert_room (B g cap vb i:Nat) (l:List (Int×Int)) (s:Int×Int) (w:World) (ho:OwnG w B g cap l) (hlen:l.length≤1000) (hi:i < l.length) (hroom:l.length+1≤cap) (hne:vb≠g)
  (hv:w.heap[vb]?=some (.cells #[.int .i64 s.1,.int .i64 s.2] 194 (0,0))) :
  Calls Tryz.prog 196 #[.slice (some ⟨g,0,none⟩) l.length cap,.int .i64 i,.slice (some ⟨vb,0,none⟩) 1 1] w fun e w' =>
   ∃ g' cap',e=.returned (.slice (some ⟨g',0,none⟩) (l.length+1) cap')∧OwnG w' B g' cap' (l.take i++s::l.drop i)∧Below B w w':=by
 obtain⟨cur,hg,hcs,hct⟩:=ho.row
 have hov:=overlaps_no w g vb hne hg (by omega) hv
 have HO:Hid (OwnG w B g cap l):=ho
 have HV:Hid (w.heap[vb]?=some (.cells #[.int .i64 s.1,.int .i64 s.2] 194 (0,0))):=hv
 have HG:Hid (w.heap[g]?=some (.cells cur 194 (0,0))∧cur.size=cap*2∧cur.toList.take (l.length*2)=cells l):=⟨hg,hcs,hct⟩
 have hmax:cap≤9223372036854775807:=by have:=ho.max;unfold maxLen at this;exact this
 have hz2:¬ ((i:Int)=(l.length:Int)):=by omega
 have hb1:(0:Int)≤(i:Int)+1:=by omega
 have hb3:(i:Int)≤(l.length:Int)+1:=by omega
 have hb4:¬ (cap=i):=by omega
 have hb5:¬ (cap=i+1):=by omega
 have D:Hid (w.drew.heap[g]?=some (.cells cur.toList.toArray 194 (0,0))∧(cells (l.drop i)).length=Nat.min (l.length+1 - i) (l.length - i)*2 ∧
   (∀ j v,(cells (l.drop i))[j]?=some v→w.drew.cell? ((⟨g,i*2,none⟩:Addr).add j)=some v)∧(i+1)*2+(cells (l.drop i)).length≤cur.toList.length∧(∀ v∈cells (l.drop i),v.oneCell'=true)∧Below B w w.drew∧B≤g):=by
  refine⟨by show w.heap[g]?=_;simpa using hg,?_,fun j v hj=>?_,?_,cells_one _,(Below.refl B w).drew,ho.base⟩
  ·rw [cells_length,List.length_drop,show Nat.min (l.length+1 - i) (l.length - i)=l.length - i by simp only [Nat.min_def];split <;> omega]
  ·rw [Addr.add_lit]
   have:(cells l)[i*2+j]?=some v:=by rw [← cells_drop,List.getElem?_drop] at hj;exact hj
   exact ho.at this
  ·have:cur.toList.length=cap*2:=by simpa using hcs
   rw [cells_length,List.length_drop];omega
 have hwr:IntKind.i64.wrap ((i:Int)+1)=(i:Int)+1:=by rw [IntKind.wrap_i64];omega
 have htn:((i:Int)+1).toNat=i+1:=by omega
 have hb6:(i:Int)+1≤(l.length:Int)+1:=by omega
 clear ho hv hg hcs hct
 go_enter Tryz.func196,Tryz.ntmps196
 go_wp2_with (simp only [hov])
 go_region_law ((refine step_copy_splice2 (by rfl) _ _ 133 133 (by rfl) 194 Tryz.underlying133 sizeStep g ((i+1)*2) (l.length - i) (cap - (i+1)) ⟨g,i*2,none⟩ (l.length+1 - i) (cap - i) (by simp [Act.eval,Act.put]) (by simp [Act.eval,Act.put]) cur.toList 194 D.out.1 (cells (l.drop i)) D.out.2.1 D.out.2.2.1 D.out.2.2.2.1 D.out.2.2.2.2.1 B w D.out.2.2.2.2.2.1 D.out.2.2.2.2.2.2 ?_;intro w1 hw1 hb1))
 have E:Hid (w1.heap[g]?=some (.cells (splice cur.toList ((i+1)*2) (cells (l.drop i))).toArray 194 (0,0))∧(cells [s]).length=Nat.min 1 (l.length+1 - i)*2 ∧
   (∀ j v,(cells [s])[j]?=some v→w1.cell? ((⟨vb,0,none⟩:Addr).add j)=some v)∧i*2+(cells [s]).length≤(splice cur.toList ((i+1)*2) (cells (l.drop i))).length∧(∀ v∈cells [s],v.oneCell'=true)∧Below B w w1∧B≤g):=by
  obtain⟨x1,x2,x3⟩:=hw1.out
  refine⟨x1,?_,fun j v hj=>?_,?_,cells_one _,hb1,D.out.2.2.2.2.2.2⟩
  ·rw [show Nat.min 1 (l.length+1 - i)=1 by simp only [Nat.min_def];split <;> omega];rfl
  ·have hv':w1.heap[vb]?=some (.cells #[.int .i64 s.1,.int .i64 s.2] 194 (0,0)):=(x2 vb hne).trans HV.out
   rw [Addr.add_lit,Nat.zero_add,cell_of_row _ _ _ _ _ _ hv']
   simpa [cells] using hj
  ·rw [length_splice _ _ _ D.out.2.2.2.1]
   have:=D.out.2.2.2.1
   simp [cells] at this ⊢
   omega
 clear hov
 go_wp2_with (refine wpList_copy_splice2 rfl _ _ 133 133 rfl 194 Tryz.underlying133 sizeStep g (i*2) (l.length+1 - i) (cap - i) ⟨vb,0,none⟩ 1 1 rfl rfl (splice cur.toList ((i+1)*2) (cells (l.drop i))) 194 E.out.1 (cells [s]) E.out.2.1 E.out.2.2.1 E.out.2.2.2.1 E.out.2.2.2.2.1 B w E.out.2.2.2.2.2.1 E.out.2.2.2.2.2.2 ?_;intro w2 hw2 hb2)
 have F:Hid (OwnG w2 B g cap (l.take i++s::l.drop i)):=by
  obtain⟨y1,y2⟩:=HG.out.2
  refine⟨HO.out.base,by simp;omega,HO.out.max,_,hw2.out.1,?_,?_⟩
  ·rw [List.size_toArray,length_splice _ _ _ E.out.2.2.2.1,length_splice _ _ _ D.out.2.2.2.1];simpa using y1
  ·have:=ins_row cur.toList l i s (by omega) (by simp;omega) y2
   simpa using this
 have F2:Hid (Below B w w2):=hb2
 clear hw2 hb2
 go_wp2
 go_ret
 exact⟨g,cap,rfl,F.out,F2.out⟩
theorem ins_row2 (L:List Value) (l:List (Int×Int)) (i:Nat) (s:Int×Int) (hi:i≤l.length) (hL:(l.length+1)*2≤L.length) (h:L.take (i*2)=cells (l.take i)) :
  (splice (splice L (i*2) (cells [s])) ((i+1)*2) (cells (l.drop i))).take ((l.take i++s::l.drop i).length*2)=cells (l.take i++s::l.drop i):=by
 have hl:(l.take i++s::l.drop i).length=l.length+1:=by simp;omega
 have hX:(cells (l.take i)).length=i*2:=by rw [cells_length,List.length_take];omega
 have hY:(cells (l.drop i)).length=(l.length - i)*2:=by rw [cells_length,List.length_drop]
 have hS:(cells [s]).length=2:=rfl
 rw [hl]
 unfold splice
 rw [hS,hY,h]
 generalize L.drop (i*2+2)=R0
 rw [show cells (l.take i++s::l.drop i)=cells (l.take i)++(cells [s]++cells (l.drop i)) by rw [cells_append];rfl]
 generalize cells (l.take i)=X at *
 generalize cells (l.drop i)=Y at *
 generalize cells [s]=S at *
 have a1:(X++(S++R0)).take ((i+1)*2)=X++S:=by rw [← List.append_assoc,List.take_append_of_le_length (by simp;omega)];exact List.take_of_length_le (by simp;omega)
 rw [a1]
 generalize (X++(S++R0)).drop ((i+1)*2+(l.length - i)*2)=R
 rw [show X++S++(Y++R)=(X++(S++Y))++R by simp]
 rw [List.take_append_of_le_length (by simp;omega)]
 exact List.take_of_length_le (by simp;omega)
theorem grow_mid (B g cap i:Nat) (l:List (Int×Int)) (w:World) (ho:OwnG w B g cap l) (hlen:l.length≤1000) (hi:i < l.length) (hroom:cap < l.length+1) (ty:TypeId) :
  ∃ cap' W1,(Builtin.append_ #[133,3] ty #[.slice (some ⟨g,0,none⟩) i cap,.int .i64 ((l.length:Int)+1 - (i:Int))]).run Tryz.prog w=.ok (.slice (some ⟨w.heap.size,0,none⟩) (l.length+1) cap') W1 ∧
   l.length+1≤cap'∧cap'≤maxLen∧(∃ cur:Array Value,W1.heap[w.heap.size]?=some (.cells cur 194 (0,0))∧cur.size=cap'*2∧cur.toList.take (i*2)=cells (l.take i))∧(∀ k,k < w.heap.size→W1.heap[k]?=w.heap[k]?)∧Below B w W1:=by
 obtain⟨i0,hi0,hz0,hz1,hz2⟩:=infoStep
 have hle:=ho.le
 have hX:(cells (l.take i)).length=i*2:=by rw [cells_length,List.length_take];omega
 have hold:(Builtin.firstCells i0.size i (.slice (some ⟨g,0,none⟩) i cap)).run Tryz.prog w.drew=.ok (cells (l.take i)).toArray w.drew:=by
  rw [hz1]
  refine run_firstCells_some w.drew 2 i ⟨g,0,none⟩ i cap _ hX fun j v hj=>?_
  rw [Addr.add_lit,Nat.zero_add]
  rw [← cells_take,List.getElem?_take] at hj
  split at hj
  ·exact ho.at hj
  ·cases hj
 have hr:=Lib.run_append_grow_zeros (P:=Tryz.prog) w 133 3 ty 194 i0 (.agg #[.int .i64 0,.int .i64 0]) .i64 .i64 Tryz.underlying133 Tryz.underlying3 hi0 hz0 (some ⟨g,0,none⟩) i cap (cells (l.take i)) hold (l.length+1 - i) (by omega) (by omega) (by omega) (by omega) (by rw [hz2];omega)
  (by rw [hz2];exact growslice_fits (by omega) (by omega))
 rw [show i+(l.length+1 - i)=l.length+1 by omega] at hr
 have hge:=grownCap_ge w (l.length+1) cap 194
 have hcm:grownCap w (l.length+1) cap 194≤maxLen:=grownCap_le_maxLen w (l.length+1) cap 194 (by unfold maxLen;omega)
 refine⟨_,_,by rw [show(l.length:Int)+1 - (i:Int)=((l.length+1 - i:Nat):Int) by omega];exact hr,hge,hcm,⟨_,heap_alloc_new w.drew _,?_,?_⟩,fun k hk=>Below.heap_alloc w.drew _ k hk,?_⟩
 ·have:(Value.agg #[.int .i64 0,.int .i64 0]).cells.size=2:=rfl
  simp only [Array.size_append,List.size_toArray,size_zeroCells,hX,this]
  omega
 ·simp only [Array.toList_append,List.append_assoc]
  rw [List.take_append_of_le_length (by omega)]
  exact List.take_of_length_le (by omega)
 ·exact(Below.refl B w).drew.alloc (by have:=ho.base;have:=ho.lt;show B≤w.heap.size;omega) _
theorem insert_mid (B g cap vb i:Nat) (l:List (Int×Int)) (s:Int×Int) (w:World) (ho:OwnG w B g cap l) (hlen:l.length≤1000) (hi:i < l.length) (hroom:cap < l.length+1) (hne:vb≠g)
  (hv:w.heap[vb]?=some (.cells #[.int .i64 s.1,.int .i64 s.2] 194 (0,0))) :
  Calls Tryz.prog 196 #[.slice (some ⟨g,0,none⟩) l.length cap,.int .i64 i,.slice (some ⟨vb,0,none⟩) 1 1] w fun e w' =>
   ∃ g' cap',e=.returned (.slice (some ⟨g',0,none⟩) (l.length+1) cap')∧OwnG w' B g' cap' (l.take i++s::l.drop i)∧Below B w w':=by
 have hvl:vb < w.heap.size:=(Array.getElem?_eq_some_iff.1 hv).1
 have hgl:=ho.lt
 have hle:=ho.le
 obtain⟨cap',W1,hrun,h1,h2,⟨cur,h3,h4,h5⟩,h6,h7⟩:=grow_mid B g cap i l w ho hlen hi hroom 133
 obtain⟨L,rfl⟩:∃ L:List Value,cur=L.toArray:=⟨cur.toList,by simp⟩
 rw [List.size_toArray] at h4
 have HR:Hid ((Builtin.append_ #[133,3] 133 #[.slice (some ⟨g,0,none⟩) i cap,.int .i64 ((l.length:Int)+1 - (i:Int))]).run Tryz.prog w=.ok (.slice (some ⟨w.heap.size,0,none⟩) (l.length+1) cap') W1):=hrun
 have hmax:cap'≤9223372036854775807:=by unfold maxLen at h2;exact h2
 have hBg:B≤w.heap.size:=by have:=ho.base;omega
 generalize w.heap.size=G at *
 have D:Hid (W1.heap[G]?=some (.cells L.toArray 194 (0,0))∧(cells [s]).length=Nat.min 1 (l.length+1 - i)*2 ∧
   (∀ j v,(cells [s])[j]?=some v→W1.cell? ((⟨vb,0,none⟩:Addr).add j)=some v)∧i*2+(cells [s]).length≤L.length∧(∀ v∈cells [s],v.oneCell'=true)∧Below B w W1∧B≤G):=by
  refine⟨h3,?_,fun j v hj=>?_,?_,cells_one _,h7,hBg⟩
  ·rw [show Nat.min 1 (l.length+1 - i)=1 by simp only [Nat.min_def];split <;> omega];rfl
  ·rw [Addr.add_lit,Nat.zero_add,cell_of_row _ _ _ _ _ _ ((h6 vb hvl).trans hv)]
   simpa [cells] using hj
  ·rw [h4];simp [cells];omega
 have HO1:Hid (OwnG W1 B g cap l):=by
  obtain⟨cur,q1,q2⟩:=ho.row
  exact⟨ho.base,ho.le,ho.max,cur,(h6 g hgl).trans q1,q2⟩
 have HL:Hid (L.length=cap'*2∧L.take (i*2)=cells (l.take i)):=⟨h4,h5⟩
 have hz2:¬ ((i:Int)=(l.length:Int)):=by omega
 have hb3:(i:Int)≤(l.length:Int)+1:=by omega
 have hb4:¬ (cap=i):=by omega
 have hb5:¬ (cap'=i+1):=by omega
 have hb7:¬ (cap'=i):=by omega
 have hwr:IntKind.i64.wrap ((i:Int)+1)=(i:Int)+1:=by rw [IntKind.wrap_i64];omega
 have htn:((i:Int)+1).toNat=i+1:=by omega
 have hb6:(i:Int)+1≤(l.length:Int)+1:=by omega
 have hb1:(0:Int)≤(i:Int)+1:=by omega
 have hgG:g≠G:=by omega
 have hin:i≤l.length:=by omega
 have hin2:(i:Int)≤(l.length:Int):=by omega
 clear ho hv hrun h2 h3 h4 h5 h6 h7
 go_enter Tryz.func196,Tryz.ntmps196
 go_wp2_with (first|(at_builtin;refine Lib.wpList_append_run _ rfl _ _ 133 3 rfl _ _ rfl rfl _ _ HR.out ?_)|(refine wpList_copy_splice2 rfl _ _ 133 133 rfl 194 Tryz.underlying133 sizeStep G (i*2) (l.length+1 - i) (cap' - i) ⟨vb,0,none⟩ 1 1 rfl rfl L 194 D.out.1 (cells [s]) D.out.2.1 D.out.2.2.1 D.out.2.2.2.1 D.out.2.2.2.2.1 B w D.out.2.2.2.2.2.1 D.out.2.2.2.2.2.2 ?_;intro w1 hw1 hb1'))
 go_simp
 have E:Hid (w1.drew.heap[G]?=some (.cells (splice L (i*2) (cells [s])).toArray 194 (0,0))∧(cells (l.drop i)).length=Nat.min (l.length - i) (l.length - i)*2 ∧
   (∀ j v,(cells (l.drop i))[j]?=some v→w1.drew.cell? ((⟨g,i*2,none⟩:Addr).add j)=some v)∧(i+1)*2+(cells (l.drop i)).length≤(splice L (i*2) (cells [s])).length∧(∀ v∈cells (l.drop i),v.oneCell'=true)∧Below B w w1.drew∧B≤G):=by
  obtain⟨x1,x2,x3⟩:=hw1.out
  have ho1:OwnG w1 B g cap l:=by
   obtain⟨cur,q1,q2⟩:=HO1.out.row
   exact⟨HO1.out.base,HO1.out.le,HO1.out.max,cur,(x2 g hgG).trans q1,q2⟩
  refine⟨x1,?_,fun j v hj=>?_,?_,cells_one _,hb1'.drew,hBg⟩
  ·rw [cells_length,List.length_drop,show Nat.min (l.length - i) (l.length - i)=l.length - i by simp only [Nat.min_def];split <;> omega]
  ·rw [Addr.add_lit]
   have:(cells l)[i*2+j]?=some v:=by rw [← cells_drop,List.getElem?_drop] at hj;exact hj
   exact ho1.at this
  ·rw [length_splice _ _ _ D.out.2.2.2.1,cells_length,List.length_drop,HL.out.1];omega
 clear hb1'
 go_region_law ((refine step_copy_splice2 (by rfl) _ _ 133 133 (by rfl) 194 Tryz.underlying133 sizeStep G ((i+1)*2) (l.length - i) (cap' - (i+1)) ⟨g,i*2,none⟩ (l.length - i) (cap - i) (by simp [Act.eval,Act.put]) (by simp [Act.eval,Act.put]) (splice L (i*2) (cells [s])) 194 E.out.1 (cells (l.drop i)) E.out.2.1 E.out.2.2.1 E.out.2.2.2.1 E.out.2.2.2.2.1 B w E.out.2.2.2.2.2.1 E.out.2.2.2.2.2.2 ?_;intro w2 hw2 hb2))
 have F:Hid (OwnG w2 B G cap' (l.take i++s::l.drop i)):=by
  refine⟨hBg,by simp;omega,by unfold maxLen;omega,_,hw2.out.1,?_,?_⟩
  ·rw [List.size_toArray,length_splice _ _ _ E.out.2.2.2.1,length_splice _ _ _ D.out.2.2.2.1];exact HL.out.1
  ·have:=ins_row2 L l i s (by omega) (by rw [HL.out.1];omega) HL.out.2
   simpa using this
 have F2:Hid (Below B w w2):=hb2
 clear hw2 hb2
 go_wp2
 go_ret
 exact⟨G,cap',rfl,F.out,F2.out⟩
theorem insert_any (B g cap vb i:Nat) (l:List (Int×Int)) (s:Int×Int) (w:World) (ho:OwnG w B g cap l) (hlen:l.length≤1000) (hi:i≤l.length) (hne:vb≠g)
  (hv:w.heap[vb]?=some (.cells #[.int .i64 s.1,.int .i64 s.2] 194 (0,0))) :
  Calls Tryz.prog 196 #[.slice (some ⟨g,0,none⟩) l.length cap,.int .i64 i,.slice (some ⟨vb,0,none⟩) 1 1] w fun e w' =>
   ∃ g' cap',e=.returned (.slice (some ⟨g',0,none⟩) (l.length+1) cap')∧OwnG w' B g' cap' (l.take i++s::l.drop i)∧Below B w w':=by
 by_cases h:i < l.length
 ·by_cases hr:l.length+1≤cap
  ·exact insert_room B g cap vb i l s w ho hlen h hr hne hv
  ·exact insert_mid B g cap vb i l s w ho hlen h (by omega) hne hv
 ·have e:i=l.length:=by omega
  subst e
  simpa using insert_end B g cap vb l s w ho hlen hv
theorem jlm (B g cap:Nat) (l:List (Int×Int)) (t:Int) (w:World) (ho:OwnG w B g cap l) (hL:Loose l) (h0:0≤t) :
  Calls Tryz.prog 180 #[.slice (some ⟨g,0,none⟩) l.length cap,.int .i64 t] w fun e w' =>
   ∃ l' g' cap',e=.returned (.slice (some ⟨g',0,none⟩) l'.length cap')∧OwnG w' B g' cap' l'∧jdm l t l'∧Below B w w':=by
 have hn:l.length≤300:=hL.len
 have HP:=jfs g 0 cap l t w ho.rd (by omega) hL.rise
 have HO:Hid (OwnG w B g cap l):=ho
 have HL:Hid (Loose l):=hL
 have hB:B≤w.heap.size:=by have:=ho.base;have:=ho.lt;omega
 clear ho hL
 go_enter Tryz.func180,Tryz.ntmps180
 go_wp2_with fail
 refine HP.mono ?_
 rintro e w1 ⟨i,rfl,hc,hb⟩
 have O1:Hid (OwnG w1 B g cap l):=HO.out.later hb
 have B1:Hid (Below B w w1):=hb.mono hB
 have HC:Hid (CutAt l t i):=hc
 have hil:i≤l.length:=hc.1
 clear hb hc HP
 generalize hff:fnd l t i=f
 have FF:Hid (fnd l t i=f):=hff
 clear hff
 cases f
 case true =>
  go_wp2
  go_ret
  refine⟨l,g,cap,rfl,O1.out,jdm.self HL.out fun _=>?_,B1.out⟩
  obtain⟨h1,h2⟩:=of_decide_eq_true FF.out
  exact⟨i,h1,h2⟩
 case false =>
  by_cases h3:300≤t
  ·go_wp2
   go_ret
   exact⟨l,g,cap,rfl,O1.out,jdm.self HL.out fun h=>by omega,B1.out⟩
  ·obtain⟨hi,hS⟩:=jdm.ins HL.out h0 (by omega) HC.out FF.out
   obtain⟨m,rfl⟩:∃ m,i=m+1:=⟨i - 1,by omega⟩
   rw [Nat.add_sub_cancel] at hS
   obtain⟨c0,c1⟩:=O1.out.rd m (by omega)
   rw [Nat.zero_add] at c0 c1
   generalize hx:sAt l m=x at *
   have HS:Hid (jdm l t (l.take (m+1)++(t,x.2)::l.drop (m+1))):=hS
   have O2:Hid (OwnG (w1.alloc (.cells #[.int .i64 t,.int .i64 x.2] 194)) B g cap l):=O1.out.later ((Below.refl _ w1).alloc (Nat.le_refl _) _)
   have V2:Hid ((w1.alloc (.cells #[.int .i64 t,.int .i64 x.2] 194)).heap[w1.heap.size]?=some (.cells #[.int .i64 t,.int .i64 x.2] 194 (0,0))):=heap_alloc_new w1 _
   have B2:Hid (Below B w (w1.alloc (.cells #[.int .i64 t,.int .i64 x.2] 194))):=B1.out.trans ((Below.refl _ _).alloc (by have:=B1.out.size;omega) _)
   have hne:w1.heap.size≠g:=by have:=O1.out.lt;omega
   clear hS hx
   go_wp2_with fail
   refine(insert_any B g cap w1.heap.size (m+1) l (t,x.2) _ O2.out (by omega) hil hne V2.out).mono ?_
   rintro e w2 ⟨g',cap',rfl,ho2,hb2⟩
   have O3:Hid (OwnG w2 B g' cap' (l.take (m+1)++(t,x.2)::l.drop (m+1))):=ho2
   have B3:Hid (Below B w w2):=B2.out.trans hb2
   clear ho2 hb2
   go_wp2
   go_ret
   exact⟨_,g',cap',by rw [jr3 l (m+1) hil];rfl,O3.out,HS.out,B3.out⟩
end Go.Proofs.YtcmdoeledmkfmacGreatDoor
namespace Go.Proofs.YtcmdoeledmkfmacGreatDoor
open Go.RowKit
open Go.Sort (grow)
theorem jq6 (n:Nat):∀ u∈(Builtin.zeroCells (Value.agg #[.int .i64 0,.int .i64 0]).cells n).toList,u.oneCell'=true:=by
 intro u hu
 simp only [Builtin.zeroCells,Array.toList_map,List.mem_map] at hu
 obtain⟨i,_,rfl⟩:=hu
 have h2:i % (Value.agg #[.int .i64 0,.int .i64 0]).cells.size=i % 2:=rfl
 rw [h2]
 rcases Nat.mod_two_eq_zero_or_one i with e|e <;> rw [e] <;> rfl
theorem jqa {B g cap k:Nat} {mm:List (Int×Int)} {w:World} (ho:OwnG w B g cap mm) (hk:k < mm.length) (ty:TypeId) :
  ∃ w',(Builtin.clear_ #[133] ty #[.slice (some ⟨g,k*2,none⟩) (mm.length - k) (cap - k)]).run Tryz.prog w=.ok (.tuple #[]) w'∧OwnG w' B g cap (mm.take k)∧Below B w w':=by
 obtain⟨i0,hi0,hz0,hz1,hz2⟩:=infoStep
 obtain⟨cur,hg,hs,ht⟩:=ho.row
 have hle:=ho.le
 have hv:∀ w,(zeroValue 194).run Tryz.prog w=.ok (.agg #[.int .i64 0,.int .i64 0]) w:=fun w=>by simp [zeroValue,typeInfo,hi0,hz0]
 obtain⟨r,hr⟩:∃ r,mm.length - k=r+1:=⟨mm.length - k - 1,by omega⟩
 have hzl:(Builtin.zeroCells (Value.agg #[.int .i64 0,.int .i64 0]).cells (r+1)).toList.length=(r+1)*2:=by
  rw [Array.length_toList,size_zeroCells];rfl
 have hst:=run_storeCells_at Tryz.prog g (k*2) 194 (Builtin.zeroCells (Value.agg #[.int .i64 0,.int .i64 0]).cells (r+1)).toList 0 cur w hg (by rw [hzl];omega) (jq6 _)
 refine⟨_,by rw [hr];simp only [Builtin.clear_];simp [run_underlying Tryz.underlying133,hv,hst];rfl,⟨ho.base,by rw [List.length_take];omega,ho.max,_,setRow_heap w g cur _ _ _ hg,?_,?_⟩,below_setRow (Below.refl B w) ho.base _⟩
 ·have hcl:cur.toList.length=cap*2:=by rw [Array.length_toList];exact hs
  have hzs:(Builtin.zeroCells (Value.agg #[.int .i64 0,.int .i64 0]).cells (r+1)).size=(r+1)*2:=by rw [size_zeroCells];rfl
  simp only [List.size_toArray,List.length_append,List.length_take,List.length_drop,hzl,hcl]
  omega
 ·have e:(mm.take k).length=k:=by rw [List.length_take];omega
  have e2:(cur.toList.take (k*2)).length=k*2:=by rw [List.length_take,Array.length_toList];omega
  rw [e,← cells_take,← ht,List.take_take,Nat.min_eq_left (by omega)]
  simp only [Nat.add_zero,List.append_assoc]
  rw [List.take_append_of_le_length (by omega)]
  exact List.take_of_length_le (by omega)
theorem joy (B g cap:Nat) (m:List (Int×Int)) (w:World) (ho:OwnG w B g cap m) (hn:m.length≤1000) :
  Calls Tryz.prog 199 #[.slice (some ⟨g,0,none⟩) m.length cap,.func (.func 200) #[] #[]] w fun e w' =>
   e=.returned (.slice (some ⟨g,0,none⟩) (ja7 m).length cap)∧OwnG w' B g cap (ja7 m)∧Below B w w':=by
 have HO:Hid (OwnG w B g cap m):=ho
 have hmax:cap≤9223372036854775807:=by have:=ho.max;unfold maxLen at this;exact this
 have hle:=ho.le
 have hgB:=ho.base
 have S0:Hid (Below B w w):=Below.refl _ _
 clear ho
 by_cases h2:m.length < 2
 ·have hc:Hid (ja7 m=m):=jh2 fun j a b=>by omega
  go_enter Tryz.func199,Tryz.ntmps199
  go_wp2
  go_ret
  rw [hc.out]
  exact⟨rfl,HO.out,S0.out⟩
 ·go_enter Tryz.func199,Tryz.ntmps199
  go_wp2
  go_loopg [5] m.length (fun kx s5 wr=>∃ k:Nat,s5=.int .i64 (k+1:Nat)∧k+1≤m.length∧m.length - (k+1)≤kx∧Hid (Below B w wr)∧Hid (OwnG wr B g cap m)∧Hid (∀ j,0 < j→j < k+1→(sAt m j).2≠(sAt m (j - 1)).2))
  case atStart=>exact⟨0,rfl,by omega,by omega,S0,HO,(fun j a b=>by omega:∀ j,0 < j→j < 0+1→(sAt m j).2≠(sAt m (j - 1)).2)⟩
  case round =>
   clear S0 HO
   obtain⟨k,rfl,hk,hg,S1,O1,I⟩:=hrel
   by_cases hlt:k+1 < m.length
   ·obtain⟨c0,c1⟩:=O1.out.rd (k+1) hlt
    obtain⟨d0,d1⟩:=O1.out.rd k (by omega)
    rw [Nat.zero_add] at c0 c1 d0 d1
    have e0:=cell_regrown c0
    have e1:=cell_regrown c1
    have e2:=cell_regrown d0
    have e3:=cell_regrown d1
    clear c0 c1 d0 d1
    generalize hx:sAt m (k+1)=x at *
    generalize hz:sAt m k=z at *
    have X:Hid (sAt m (k+1)=x):=hx
    have Z:Hid (sAt m k=z):=hz
    clear hx hz
    have cF:∀ d os,Calls Tryz.prog 200 #[.agg #[.int .i64 x.1,.int .i64 x.2],.agg #[.int .i64 z.1,.int .i64 z.2]] (grow (redrawn wr d) os) fun e w''=>e=.returned (.bool (x.2 == z.2))∧∃ p:Regrown,w''=grow (redrawn wr p.d) p.os:=fun d os=>Calls.regrown_of (jm3 x z _)
    have hk1:(0:Int)≤(k:Int):=by omega
    have hk2:(k:Int) < (m.length:Int):=by omega
    have hk3:(k:Int)+1 < (m.length:Int):=by omega
    have hk4:(0:Int)≤(k:Int)+1:=by omega
    generalize hee:(x.2 == z.2)=r at *
    have EE:Hid ((x.2 == z.2)=r):=hee
    clear hee
    go_wp2_with fail
    cases r
    case false =>
     refine wp_region_quiet_below (by kernel_rfl) (by kernel_rfl) ?_
     repeat (go_big_quiet_step ((go_at_call 200;exact cF _ _)))
     refine wpQuiet_nil ?_
     intro _ hw'
     obtain⟨⟨dq,osq⟩,hw''⟩:=hw'
     subst hw''
     have S2:Hid (Below B w (grow (redrawn wr dq) osq)):=S1.out.trans ((below_regrown wr dq osq).mono (by have:=O1.out.lt;omega))
     have O2:Hid (OwnG (grow (redrawn wr dq) osq) B g cap m):=O1.out.later (below_regrown wr dq osq)
     go_wp2
     go_roundg (m.length - (k+1+1))
     case measure=>omega
     case rel =>
      have I2:Hid (∀ j,0 < j→j < k+1+1→(sAt m j).2≠(sAt m (j - 1)).2):=fun j a b=>by
       by_cases e:j=k+1
       ·rw [e,Nat.add_sub_cancel,X.out,Z.out];exact beq_eq_false_iff_ne.1 EE.out
       ·exact I.out j a (by omega)
      exact⟨k+1,by go_num,by omega,Nat.le_refl _,S2,O2,I2⟩
    case true =>
     refine wp_region_quiet_below (by kernel_rfl) (by kernel_rfl) ?_
     repeat (go_big_quiet_step ((go_at_call 200;exact cF _ _)))
     refine wpQuiet_nil ?_
     intro _ hw'
     obtain⟨⟨dq,osq⟩,hw''⟩:=hw'
     subst hw''
     have S2:Hid (Below B w (grow (redrawn wr dq) osq)):=S1.out.trans ((below_regrown wr dq osq).mono (by have:=O1.out.lt;omega))
     have O2:Hid (OwnG (grow (redrawn wr dq) osq) B g cap m):=O1.out.later (below_regrown wr dq osq)
     have C0:Hid (CInv m (k+1+1) (k+1) m):=CInv.start (by omega) hlt I.out (by rw [Nat.add_sub_cancel,X.out,Z.out];exact beq_iff_eq.1 EE.out)
     clear e0 e1 e2 e3 cF
     generalize grow (redrawn wr dq) osq=W0 at *
     have hc1:¬ (cap=k+1):=by omega
     clear S1 O1 I X Z EE hk1 hk2 hk3 hk4
     go_wp2_with fail
     generalize k+1=K at *
     go_loopg [5,7] m.length (fun kx s5 s7 ws=>∃ (kk j:Nat) (mm:List (Int×Int)),s5=.int .i64 kk∧s7=.int .i64 (j+1:Nat)∧K+(j+1)≤m.length∧m.length - (K+(j+1))≤kx∧kk < m.length∧mm.length=m.length∧Hid (Below B w ws)∧Hid (OwnG ws B g cap mm)∧Hid (CInv m (K+(j+1)) kk mm))
     case atStart=>exact⟨K,0,m,rfl,rfl,by omega,by omega,by omega,rfl,S2,O2,C0⟩
     case round =>
      clear S2 O2 C0
      obtain⟨kk,j,mm,rfl,rfl,hj,hg2,hkk,hml,S3,O3,C⟩:=hrel
      have HM:Hid (mm.length=m.length):=hml
      clear hml
      by_cases hl2:K+(j+1) < m.length
      ·obtain⟨c0,c1⟩:=O3.out.rd (K+(j+1)) (by rw [HM.out];exact hl2)
       obtain⟨d0,d1⟩:=O3.out.rd (K+j) (by rw [HM.out];omega)
       rw [C.out.left (K+(j+1)) (by omega) hl2,Nat.zero_add,show(K+(j+1))*2=K*2+(j+1)*2 by omega] at c0 c1
       rw [C.out.left (K+j) (by omega) (by omega),Nat.zero_add,show(K+j)*2=K*2+j*2 by omega] at d0 d1
       have e0:=cell_regrown c0
       have e1:=cell_regrown c1
       have e2:=cell_regrown d0
       have e3:=cell_regrown d1
       clear c0 c1 d0 d1
       generalize hx:sAt m (K+(j+1))=x at *
       generalize hz:sAt m (K+j)=z at *
       have X:Hid (sAt m (K+(j+1))=x):=hx
       have Z:Hid (sAt m (K+(j+1) - 1)=z):=hz
       clear hx hz
       have cF:∀ d os,Calls Tryz.prog 200 #[.agg #[.int .i64 x.1,.int .i64 x.2],.agg #[.int .i64 z.1,.int .i64 z.2]] (grow (redrawn wr d) os) fun e w''=>e=.returned (.bool (x.2 == z.2))∧∃ p:Regrown,w''=grow (redrawn wr p.d) p.os:=fun d os=>Calls.regrown_of (jm3 x z _)
       have hk1:(0:Int)≤(j:Int):=by omega
       have hk2:(j:Int) < ((m.length - K:Nat):Int):=by omega
       have hk3:(j:Int)+1 < ((m.length - K:Nat):Int):=by omega
       have hk4:(0:Int)≤(j:Int)+1:=by omega
       have hk5:j+1 < m.length - K:=by omega
       have hk6:(kk:Int) < (m.length:Int):=by omega
       generalize hee:(x.2 == z.2)=r at *
       have EE:Hid ((x.2 == z.2)=r):=hee
       clear hee
       go_wp2_with fail
       cases r
       case true =>
        refine wp_region_quiet_below (by kernel_rfl) (by kernel_rfl) ?_
        repeat (go_big_quiet_step ((go_at_call 200;exact cF _ _)))
        refine wpQuiet_nil ?_
        intro _ hw'
        obtain⟨⟨dq,osq⟩,hw''⟩:=hw'
        subst hw''
        have S4:Hid (Below B w (grow (redrawn wr dq) osq)):=S3.out.trans ((below_regrown wr dq osq).mono (by have:=O3.out.lt;omega))
        have O4:Hid (OwnG (grow (redrawn wr dq) osq) B g cap mm):=O3.out.later (below_regrown wr dq osq)
        clear e0 e1 e2 e3 cF
        generalize grow (redrawn wr dq) osq=W2 at *
        go_wp2
        go_roundg (m.length - (K+(j+1+1)))
        case measure=>omega
        case rel =>
         have C2:Hid (CInv m (K+(j+1+1)) kk mm):=C.out.skip hl2 (by rw [X.out,Z.out];exact beq_iff_eq.1 EE.out)
         exact⟨kk,j+1,mm,rfl,by go_num,by omega,Nat.le_refl _,hkk,HM.out,S4,O4,C2⟩
       case false =>
        refine wp_region_quiet_below (by kernel_rfl) (by kernel_rfl) ?_
        repeat (go_big_quiet_step ((go_at_call 200;exact cF _ _)))
        refine wpQuiet_nil ?_
        intro _ hw'
        obtain⟨⟨dq,osq⟩,hw''⟩:=hw'
        subst hw''
        have S4:Hid (Below B w (grow (redrawn wr dq) osq)):=S3.out.trans ((below_regrown wr dq osq).mono (by have:=O3.out.lt;omega))
        have O4:Hid (OwnG (grow (redrawn wr dq) osq) B g cap mm):=O3.out.later (below_regrown wr dq osq)
        clear e0 e1 e2 e3 cF
        generalize grow (redrawn wr dq) osq=W2 at *
        obtain⟨p0,p1⟩:=O4.out.rd (K+(j+1)) (by rw [HM.out];exact hl2)
        rw [C.out.left (K+(j+1)) (by omega) hl2,X.out,Nat.zero_add,show(K+(j+1))*2=K*2+(j+1)*2 by omega] at p0 p1
        obtain⟨q0,q1⟩:=O4.out.rd kk (by rw [HM.out];exact hkk)
        rw [Nat.zero_add] at q0 q1
        have f0:=O4.out.frozen (kk*2)
        have f1:=O4.out.frozen (kk*2+1)
        generalize sAt mm kk=old at q0 q1
        have hk7:=C.out.lt
        go_wp2
        go_roundg (m.length - (K+(j+1+1)))
        case measure=>omega
        case rel =>
         have C2:Hid (CInv m (K+(j+1+1)) (kk+1) (mm.set kk x)):=by
          have:=C.out.keep hl2 (by rw [X.out,Z.out];exact beq_eq_false_iff_ne.1 EE.out)
          rw [X.out] at this
          exact this
         have O5:=O4.out.store kk (by rw [HM.out];exact hkk) x
         exact⟨kk+1,j+1,mm.set kk x,by go_num,by go_num,by omega,Nat.le_refl _,by omega,by rw [List.length_set];exact HM.out,(S4.out.setCell hgB _).setCell hgB _,O5,C2⟩
      ·have he:K+(j+1)=m.length:=by omega
       have CE:Hid (CInv m m.length kk mm):=by have:=C.out;rw [he] at this;exact this
       obtain⟨w9,r1,r2,r3⟩:=jqa O3.out (k:=kk) (by rw [HM.out];exact hkk) 0
       rw [HM.out] at r1
       have hrun:∀ ty,(Builtin.clear_ #[133] ty #[.slice (some ⟨g,kk*2,none⟩) (m.length - kk) (cap - kk)]).run Tryz.prog wr=.ok (.tuple #[]) w9:=fun _=>r1
       have S9:Hid (Below B w w9):=S3.out.trans r3
       have O9:Hid (OwnG w9 B g cap (mm.take kk)):=r2
       have hk8:¬ (cap=kk):=by omega
       have hk9:(kk:Int)≤(m.length:Int):=by omega
       have hk10:kk≤m.length:=by omega
       have hk11:¬ (j+1 < m.length - K):=by omega
       have hk12:¬ ((j:Int)+1 < ((m.length - K:Nat):Int)):=by omega
       clear r1 r2 r3 he
       go_wp2
       go_ret
       obtain⟨z1,z2⟩:=CE.out.final
       have o9:=O9.out
       rw [z1] at o9
       exact⟨by rw [z2];rfl,o9,S9.out⟩
   ·have hc:Hid (ja7 m=m):=jh2 fun j a b=>I.out j a (by omega)
    go_wp2
    go_ret
    rw [hc.out]
    exact⟨rfl,O1.out,S1.out⟩
theorem jpk (B g cap:Nat) (m:List (Int×Int)) (w:World) (ho:OwnG w B g cap m) (hn:m.length≤1000) :
  Calls Tryz.prog 182 #[.slice (some ⟨g,0,none⟩) m.length cap] w fun e w' =>
   e=.returned (.slice (some ⟨g,0,none⟩) (ja7 m).length cap)∧OwnG w' B g cap (ja7 m)∧Below B w w':=by
 have HC:=joy B g cap m w ho hn
 clear ho
 generalize (ja7 m).length=k at *
 go_enter Tryz.func182,Tryz.ntmps182
 go_wp2_with fail
 refine HC.mono ?_
 rintro e w1 ⟨rfl,ho1,hb1⟩
 go_wp2
 go_ret
 exact⟨rfl,ho1,hb1⟩
theorem jr6 (a:Option Addr) (cap:Nat) (w:World) :
  Calls Tryz.prog 152 #[.slice a 0 cap] w fun e w'=>e=.returned (.bool false)∧Below w.heap.size w w':=by
 go_enter Tryz.func152,Tryz.ntmps152
 go_wp2
 go_ret
 exact⟨rfl,Below.refl _ _⟩
theorem jg6 (b off cap:Nat) (l:List (Int×Int)) (w:World) (hr:Rd w b off l) (hn:l.length≤8796093022208) (h0:0 < l.length) :
  Calls Tryz.prog 152 #[.slice (some ⟨b,off,none⟩) l.length cap] w fun e w'=>e=.returned (.bool (goodB l))∧Below w.heap.size w w':=by
 have HR:Hid (Rd w b off l):=hr
 have S0:Hid (Below w.heap.size w w):=Below.refl _ _
 obtain⟨c0,c1⟩:=hr 0 h0
 clear hr
 simp only [Nat.zero_mul,Nat.add_zero] at c0 c1
 generalize hy:sAt l 0=y at c0 c1
 have Y:Hid (sAt l 0=y):=hy
 clear hy
 have hz:((l.length:Int) == 0)=false:=beq_eq_false_iff_ne.2 (by omega)
 by_cases hy0:y.1=0
 ·have hne:(y.1 != 0)=false:=by simp [hy0]
  have HY:Hid (y.1=0):=hy0
  clear hy0
  go_enter Tryz.func152,Tryz.ntmps152
  go_wp2
  clear c0 c1
  go_loopg [17] l.length (fun kx s17 wr=>∃ k:Nat,s17=.int .i64 k∧k≤l.length∧l.length - k≤kx∧Hid (Below w.heap.size w wr)∧Hid (∀ j,j < k→okAt l j=true))
  case atStart=>exact⟨0,rfl,Nat.zero_le _,by omega,S0,(fun j hj=>absurd hj (Nat.not_lt_zero _):∀ j,j < 0→okAt l j=true)⟩
  case round =>
   clear S0
   obtain⟨k,rfl,hk,hg,S1,I⟩:=hrel
   by_cases hlt:k < l.length
   ·obtain⟨c0,c1⟩:=(HR.out.below S1.out) k hlt
    generalize hx:sAt l k=x at c0 c1
    have X:Hid (sAt l k=x):=hx
    clear hx
    by_cases h1:300≤x.1
    ·go_wp2
     go_ret
     refine⟨?_,S1.out.trans ((Below.refl _ _).alloc S1.out.size _)⟩
     rw [jet k hlt (by unfold okAt;rw [X.out];simp;omega)];rfl
    ·by_cases h2:inB x.2=true
     ·by_cases hk0:k≤0
      ·have hd:decide ((0:Int) < (k:Int))=false:=decide_eq_false (by omega)
       have hd2:decide (0 < k)=false:=decide_eq_false (by omega)
       go_wp2_with (go_at_call 177;refine(jdf _ _).mono ?_;rintro e w' ⟨rfl,rfl⟩)
       go_quiet (fail)
       go_wp2
       go_roundg (l.length - (k+1))
       case measure=>omega
       case rel =>
        have I2:Hid (∀ j,j < k+1→okAt l j=true):=fun j hj=>by
         by_cases hj2:j=k
         ·rw [hj2];unfold okAt;rw [X.out,h2]
          have:k=0:=by omega
          simp [this];omega
         ·exact I.out j (by omega)
        exact⟨k+1,by go_num,by omega,Nat.le_refl _,S1.out.trans (below_drewN ((Below.refl _ _).alloc S1.out.size _) _),I2⟩
      ·obtain⟨m,rfl⟩:∃ m,k=m+1:=⟨k - 1,by omega⟩
       obtain⟨d0,d1⟩:=(HR.out.below S1.out) m (by omega)
       generalize hz:sAt l m=z at d0 d1
       have Z:Hid (sAt l m=z):=hz
       clear hz
       have hm1:(0:Int)≤(m:Int):=by omega
       have hm2:(m:Int) < (l.length:Int):=by omega
       have hm3:(0:Int) < (m:Int)+1:=by omega
       go_wp2_with (go_at_call 177;refine(jdf _ _).mono ?_;rintro e w' ⟨rfl,rfl⟩)
       obtain⟨n0,n1⟩:=jgz wr (.int .i64 x.1) (.int .i64 x.2) 194
       have e0:=cell_regrown n0
       have e1:=cell_regrown n1
       have e2:=cell_regrown (jd0 d0 (.cells #[.int .i64 x.1,.int .i64 x.2] 194))
       have e3:=cell_regrown (jd0 d1 (.cells #[.int .i64 x.1,.int .i64 x.2] 194))
       have SW:Hid (Below w.heap.size w (wr.alloc (.cells #[.int .i64 x.1,.int .i64 x.2] 194))):=S1.out.trans ((Below.refl _ _).alloc S1.out.size _)
       clear n0 n1 c0 c1 d0 d1
       generalize wr.alloc (.cells #[.int .i64 x.1,.int .i64 x.2] 194)=W1 at *
       have cF:∀ d os,Calls Tryz.prog 178 #[.agg #[.int .i64 x.1,.int .i64 x.2],.agg #[.int .i64 z.1,.int .i64 z.2]] (grow (redrawn W1 d) os) fun e w''=>e=.returned (.bool (fol x z))∧∃ p:Regrown,w''=grow (redrawn W1 p.d) p.os:=fun d os=>Calls.regrown_of (jot x z _)
       generalize hf:fol x z=r at cF
       have HF:Hid (fol x z=r):=hf
       clear hf
       cases r
       case true =>
        refine wp_region_quiet_below (by kernel_rfl) (by kernel_rfl) ?_
        repeat (go_big_quiet_step ((go_at_call 178;exact cF _ _)))
        refine wpQuiet_nil ?_
        intro _ hw'
        obtain⟨⟨dq,osq⟩,hw''⟩:=hw'
        subst hw''
        have SQ:Hid (Below w.heap.size w (grow (redrawn W1 dq) osq)):=SW.out.trans ((below_regrown W1 dq osq).mono SW.out.size)
        go_wp2
        go_roundg (l.length - (m+1+1))
        case measure=>omega
        case rel =>
         have I2:Hid (∀ j,j < m+1+1→okAt l j=true):=fun j hj=>by
          by_cases hj2:j=m+1
          ·rw [hj2];unfold okAt;rw [X.out,h2,Nat.add_sub_cancel,Z.out,HF.out]
           simp;omega
          ·exact I.out j (by omega)
         exact⟨m+1+1,by go_num,by omega,Nat.le_refl _,SQ,I2⟩
       case false =>
        refine wp_region_quiet_below (by kernel_rfl) (by kernel_rfl) ?_
        repeat (go_big_quiet_step ((go_at_call 178;exact cF _ _)))
        refine wpQuiet_nil ?_
        intro _ hw'
        obtain⟨⟨dq,osq⟩,hw''⟩:=hw'
        subst hw''
        have SQ:Hid (Below w.heap.size w (grow (redrawn W1 dq) osq)):=SW.out.trans ((below_regrown W1 dq osq).mono SW.out.size)
        go_wp2
        go_ret
        refine⟨?_,SQ.out⟩
        rw [jet (m+1) hlt (by unfold okAt;rw [X.out,Nat.add_sub_cancel,Z.out,HF.out];simp)];rfl
     ·have h2':inB x.2=false:=by simpa using h2
      go_wp2_with (go_at_call 177;refine(jdf _ _).mono ?_;rintro e w' ⟨rfl,rfl⟩)
      go_ret
      refine⟨?_,S1.out.trans ((Below.refl _ _).alloc S1.out.size _)⟩
      rw [jet k hlt (by unfold okAt;rw [X.out];simp [h2'])];rfl
   ·go_wp2
    go_ret
    refine⟨?_,S1.out⟩
    have:goodB l=true:=by unfold goodB;exact decide_eq_true ⟨h0,by rw [Y.out];exact HY.out,fun j hj=>I.out j (by omega)⟩
    rw [this];rfl
 ·have hne:(y.1 != 0)=true:=by simp [hy0]
  have hG:Hid (goodB l=false):=by
   show goodB l=false
   unfold goodB;exact decide_eq_false fun ⟨_,h,_⟩=>hy0 (by rw [Y.out] at h;exact h)
  go_enter Tryz.func152,Tryz.ntmps152
  go_wp2
  go_ret
  exact⟨by rw [hG.out];rfl,S0.out⟩
theorem jtu (v:Value) (l:List (Int×Int)) (w:World) (h:Sl w v l) :
  Calls Tryz.prog 152 #[v] w fun e w'=>e=.returned (.bool (goodB l))∧Below w.heap.size w w':=by
 obtain⟨hn,a,cap,rfl,h1⟩:=h
 by_cases h0:0 < l.length
 ·rcases h1 with rfl|⟨b,off,rfl,hr⟩
  ·simp at h0
  ·exact jg6 b off cap l w hr hn h0
 ·have hl:l.length=0:=by omega
  have hg:goodB l=false:=by unfold goodB;exact decide_eq_false fun h=>h0 h.1
  rw [hl,hg]
  exact jr6 a cap w
end Go.Proofs.YtcmdoeledmkfmacGreatDoor
namespace Go.Proofs.YtcmdoeledmkfmacGreatDoor
open Go.RowKit
theorem jra (b off cap:Nat) (l:List (Int×Int)) (i:Nat) (w:World) (hr:Rd w b off l) (hn:l.length≤8796093022208) (hi:i < l.length) :
  Calls Tryz.prog 153 #[.slice (some ⟨b,off,none⟩) l.length cap,.int .i64 i] w fun e w'=>e=.returned (.int .i64 (endOf l i))∧w'=w:=by
 unfold endOf
 by_cases h:i+1 < l.length
 ·obtain⟨c0,c1⟩:=hr (i+1) h
  rw [if_pos h]
  generalize sAt l (i+1)=x at c0 c1
  have h1:(i:Int)+1 < (l.length:Int):=by omega
  clear hr
  go_enter Tryz.func153,Tryz.ntmps153
  go_wp2
  go_ret
  exact⟨rfl,rfl⟩
 ·rw [if_neg h]
  clear hr
  go_enter Tryz.func153,Tryz.ntmps153
  go_wp2
  go_ret
  exact⟨rfl,rfl⟩
def jji (l:List (Int×Int)) (fr long n r:Int):Prop :=
 if goodB l=true∧0≤fr∧1≤long∧long≤300∧0≤n then FitIs l fr long n r else r=-1
theorem ju5 (v:Value) (l:List (Int×Int)) (fr long n:Int) (w:World) (hs:Sl w v l) (hb:¬ (goodB l=true∧0≤fr∧1≤long∧long≤300∧0≤n)) :
  Calls Tryz.prog 113 #[v,.int .i64 fr,.int .i64 long,.int .i64 n] w fun e w'=>e=.returned (.int .i64 (-1))∧Below w.heap.size w w':=by
 have HG:=jtu v l w hs
 generalize goodB l=gb at *
 cases gb
 case false =>
  go_enter Tryz.func113,Tryz.ntmps113
  go_wp2_with fail
  refine HG.mono ?_
  rintro e w1 ⟨rfl,hb1⟩
  go_wp2
  go_ret
  exact⟨rfl,hb1⟩
 case true =>
  by_cases h1:fr < 0
  ·go_enter Tryz.func113,Tryz.ntmps113
   go_wp2_with fail
   refine HG.mono ?_
   rintro e w1 ⟨rfl,hb1⟩
   go_wp2
   go_ret
   exact⟨rfl,hb1⟩
  ·by_cases h2:long < 1
   ·go_enter Tryz.func113,Tryz.ntmps113
    go_wp2_with fail
    refine HG.mono ?_
    rintro e w1 ⟨rfl,hb1⟩
    go_wp2
    go_ret
    exact⟨rfl,hb1⟩
   ·by_cases h3:300 < long
    ·go_enter Tryz.func113,Tryz.ntmps113
     go_wp2_with fail
     refine HG.mono ?_
     rintro e w1 ⟨rfl,hb1⟩
     go_wp2
     go_ret
     exact⟨rfl,hb1⟩
    ·have h4:n < 0:=by
      apply Classical.byContradiction
      intro h4
      exact hb ⟨rfl,by omega,by omega,by omega,by omega⟩
     go_enter Tryz.func113,Tryz.ntmps113
     go_wp2_with fail
     refine HG.mono ?_
     rintro e w1 ⟨rfl,hb1⟩
     go_wp2
     go_ret
     exact⟨rfl,hb1⟩
def begn (l:List (Int×Int)) (k:Nat):Int:=if k < l.length then (sAt l k).1 else 300
theorem jtv (b off cap:Nat) (l:List (Int×Int)) (fr long n:Int) (w:World) (hr:Rd w b off l) (G:Good l) (h1:0≤fr) (h2:1≤long) (h3:long≤300) (h4:0≤n) :
  Calls Tryz.prog 113 #[.slice (some ⟨b,off,none⟩) l.length cap,.int .i64 fr,.int .i64 long,.int .i64 n] w fun e w'=>∃ r,e=.returned (.int .i64 r)∧FitIs l fr long n r∧Below w.heap.size w w':=by
 have hn:l.length≤8796093022208:=by have:=G.len;omega
 have hg:goodB l=true:=jck.2 G
 have HG:=jg6 b off cap l w hr hn G.pos
 rw [hg] at HG
 have HU:=fun W i (h:Rd W b off l) hi=>jra b off cap l i W h hn hi
 have HR:Hid (Rd w b off l):=hr
 have GG:Hid (Good l):=G
 clear hr G hg
 go_enter Tryz.func113,Tryz.ntmps113
 go_wp2_with fail
 refine HG.mono ?_
 rintro e w1 ⟨rfl,hb1⟩
 have B1:Hid (Below w.heap.size w w1):=hb1
 clear hb1 HG
 have I0:Hid (jcf l fr long n fr (begn l 0)):=by
  have e:begn l 0=0:=by unfold begn;rw [if_pos GG.out.pos,GG.out.first]
  show jcf l fr long n fr (begn l 0)
  rw [e];exact jcf.start h1 h2
 go_wp2_with fail
 go_loopg [9,35] l.length (fun kx s9 s35 wr=>∃ (st:Int) (k:Nat),s9=.int .i64 st∧s35=.int .i64 k∧0≤st∧k≤l.length∧l.length - k≤kx∧Hid (Below w.heap.size w wr)∧Hid (jcf l fr long n st (begn l k)))
 case atStart=>exact⟨fr,0,rfl,rfl,h1,Nat.zero_le _,by omega,B1,I0⟩
 case round =>
  clear I0 B1
  obtain⟨st,k,rfl,rfl,hst,hk,hg,S1,I⟩:=hrel
  by_cases hlt:k < l.length
  ·obtain⟨c0,c1⟩:=(HR.out.below S1.out) k hlt
   obtain⟨e1,e2,_⟩:=begOf GG.out hlt
   have I2:Hid (jcf l fr long n st (sAt l k).1):=by
    have:=I.out;unfold begn at this;rw [if_pos hlt] at this;exact this
   have hen:begn l (k+1)=endOf l k:=rfl
   have EN:Hid (begn l (k+1)=endOf l k):=hen
   have en0:0≤endOf l k:=by have:=GG.out.nonneg k hlt;omega
   clear hen e1
   have S2:Hid (∀ o,Below w.heap.size w (wr.alloc o)):=fun o=>S1.out.trans ((Below.refl _ _).alloc S1.out.size _)
   have R2:Hid (∀ o,Rd (wr.alloc o) b off l):=fun o=>HR.out.below (S2.out o)
   generalize hx:sAt l k=x at c0 c1
   have X:Hid (sAt l k=x):=hx
   clear hx
   go_wp2_with fail
   refine(HU _ k (R2.out _) hlt).mono ?_
   rintro e w2 ⟨rfl,rfl⟩
   generalize hee:endOf l k=en at *
   have EE:Hid (endOf l k=en):=hee
   clear hee
   by_cases g1:en≤st
   ·go_wp2
    go_roundg (l.length - (k+1))
    case measure=>omega
    case rel =>
     have I3:Hid (jcf l fr long n st (begn l (k+1))):=by
      show jcf l fr long n st (begn l (k+1));rw [EN.out];exact I2.out.skip h2 g1
     exact⟨st,k+1,rfl,by go_num,hst,by omega,Nat.le_refl _,S2.out _,I3⟩
   ·by_cases g2:x.2 < n
    ·go_wp2
     go_roundg (l.length - (k+1))
     case measure=>omega
     case rel =>
      have I3:Hid (jcf l fr long n en (begn l (k+1))):=by
       show jcf l fr long n en (begn l (k+1))
       rw [EN.out,← EE.out]
       exact jcf.few GG.out hlt I2.out h2 (by rw [EE.out];omega) (by rw [X.out];exact g2)
      exact⟨en,k+1,rfl,by go_num,en0,by omega,Nat.le_refl _,S2.out _,I3⟩
    ·by_cases g3:long≤en - st
     ·go_wp2
      go_ret
      exact⟨st,rfl,jcf.found GG.out hlt I2.out (by rw [X.out];omega) (by rw [EE.out];exact g3),S2.out _⟩
     ·go_wp2
      go_roundg (l.length - (k+1))
      case measure=>omega
      case rel =>
       have I3:Hid (jcf l fr long n st (begn l (k+1))):=by
        show jcf l fr long n st (begn l (k+1))
        rw [EN.out,← EE.out]
        exact jcf.on GG.out hlt I2.out (by rw [X.out];omega) (by rw [EE.out];omega)
       exact⟨st,k+1,rfl,by go_num,hst,by omega,Nat.le_refl _,S2.out _,I3⟩
  ·have IE:FitIs l fr long n (-1):=by
    have:=I.out;unfold begn at this;rw [if_neg hlt] at this;exact this.none
   have IH:Hid (FitIs l fr long n (-1)):=IE
   clear IE
   go_wp2
   go_ret
   exact⟨-1,rfl,IH.out,S1.out⟩
theorem jr8 (v:Value) (l:List (Int×Int)) (fr long n:Int) (w:World) (hs:Sl w v l) :
  Calls Tryz.prog 113 #[v,.int .i64 fr,.int .i64 long,.int .i64 n] w fun e w'=>∃ r,e=.returned (.int .i64 r)∧jji l fr long n r∧Below w.heap.size w w':=by
 by_cases h:goodB l=true∧0≤fr∧1≤long∧long≤300∧0≤n
 ·have G:=jck.1 h.1
  obtain⟨hn,a,cap,rfl,h1⟩:=hs
  rcases h1 with rfl|⟨b,off,rfl,hr⟩
  ·have:=G.pos;simp at this
  ·refine(jtv b off cap l fr long n w hr G h.2.1 h.2.2.1 h.2.2.2.1 h.2.2.2.2).mono ?_
   rintro e w' ⟨r,rfl,hf,hb⟩
   exact⟨r,rfl,by unfold jji;rw [if_pos h];exact hf,hb⟩
 ·refine(ju5 v l fr long n w hs h).mono ?_
  rintro e w' ⟨rfl,hb⟩
  exact⟨-1,rfl,by unfold jji;rw [if_neg h],hb⟩
theorem OwnG.storeFree {w:World} {B g cap:Nat} {m:List (Int×Int)} (h:OwnG w B g cap m) (k:Nat) (hk:k < m.length) (y:Int) :
  OwnG (w.setCell ⟨g,k*2+1,none⟩ (.int .i64 y)) B g cap (m.set k ((sAt m k).1,y)):=by
 obtain⟨cur,hg,hs,ht⟩:=h.row
 have h1:(w.setCell ⟨g,k*2+1,none⟩ (.int .i64 y)).heap[g]?=some (.cells (cur.setIfInBounds (k*2+1) (.int .i64 y)) 194 (0,0)):=by
  rw [setCell_eq_setRow w g (k*2+1) cur _ _ _ hg];exact setRow_heap w g cur _ _ _ hg
 refine⟨h.base,by simpa using h.le,h.max,_,h1,by simpa using hs,?_⟩
 have e:∀ (l:List (Int×Int)) (k:Nat),k < l.length→(cells l).set (k*2+1) (.int .i64 y)=cells (l.set k ((sAt l k).1,y)):=by
  intro l
  induction l with
  | nil=>intro k hk;simp at hk
  | cons a r ih =>
   intro k hk
   cases k with
   | zero=>rfl
   | succ k =>
    rw [show(k+1)*2=k*2+1+1 by omega]
    simp only [cells,List.set_cons_succ]
    rw [ih k (by simpa using hk)]
    rfl
 rw [← e m k hk,← ht]
 simp only [Array.toList_setIfInBounds,List.length_set]
 rw [List.take_set]
def jga (l:List (Int×Int)) (fr to n:Int):Prop:=goodB l=true∧inB n=true∧0≤fr∧fr≤to∧to≤300
def jfm (l:List (Int×Int)) (fr to d:Int) (w':World) (v':Value) (ok:Bool):Prop :=
 (ok=true∧∃ r,Sl w' v' r∧jhc l fr to d r)∨(ok=false∧Sl w' v' l∧∃ s,fr≤s∧s < to∧¬ (0≤val l s+d∧val l s+d≤16))
def jew (l:List (Int×Int)) (fr to n d:Int) (w':World) (v':Value) (ok:Bool):Prop :=
 (jga l fr to n∧jfm l fr to d w' v' ok)∨(¬ jga l fr to n∧ok=false∧Sl w' v' l)
def Far (B:Nat) (v:Value):Prop:=∃ g off n cap,v=.slice (some ⟨g,off,none⟩) n cap∧B≤g
theorem Far.mono {B B':Nat} {v:Value} (h:Far B v) (hb:B'≤B):Far B' v:=by
 obtain⟨g,off,n,cap,e,h1⟩:=h
 exact⟨g,off,n,cap,e,by omega⟩
theorem Sl.other {w:World} {v:Value} {l:List (Int×Int)} {B g k:Nat} (h:Sl w v l) (F:Far B v) (hg:g < B) (x:Value):Sl (w.setCell ⟨g,k,none⟩ x) v l:=by
 obtain⟨g',off,n,cap,rfl,hB⟩:=F
 obtain⟨hn,a,cap',e,h1⟩:=h
 refine⟨hn,a,cap',e,?_⟩
 rcases h1 with h1|⟨b,o,rfl,hr⟩
 ·exact Or.inl h1
 ·refine Or.inr ⟨b,o,rfl,?_⟩
  injection e with e1
  injection e1 with e1
  injection e1 with e1
  have hne:b≠g:=by omega
  intro j hj
  have:=hr j hj
  have hc:∀ q,(w.setCell ⟨g,k,none⟩ x).cell? ⟨b,q,none⟩=w.cell? ⟨b,q,none⟩:=fun q=>by
   have hh:=Below.heap_setCell w ⟨g,k,none⟩ x b hne
   simp [World.cell?,hh]
  rw [hc,hc]
  exact this
theorem shift_far (b off cap:Nat) (l:List (Int×Int)) (fr to n sg d:Int) (w:World) (hr:Rd w b off l) (G:Good l) (hn:inB n=true) (h0:0≤fr) (h1:fr≤to) (h2:to≤300) (hsg:sg=1∨sg=-1) (hd:sg*n=d) :
  Calls Tryz.prog 154 #[.slice (some ⟨b,off,none⟩) l.length cap,.int .i64 fr,.int .i64 to,.int .i64 n,.int .i64 sg] w fun e w' =>
   ∃ v' ok,e=.returned (.tuple #[v',.bool ok])∧jfm l fr to d w' v' ok∧Far w.heap.size v'∧Below w.heap.size w w':=by
 have hlen:=G.len
 have hnb:0≤n∧n≤16:=of_decide_eq_true hn
 obtain⟨hn0,hn1⟩:=hnb
 have hd0:-16≤d∧d≤16:=by rcases hsg with rfl|rfl <;> omega
 obtain⟨hd1,hd2⟩:=hd0
 have HG:=jg6 b off cap l w hr (by omega) G.pos
 rw [jck.2 G] at HG
 have HW:=fun W=>jdf n W
 rw [hn] at HW
 have HR:Hid (Rd w b off l):=hr
 have HL:Hid (Loose l):=G.loose
 have HC:Hid (∀ W,Below w.heap.size w W→Calls Tryz.prog 179 #[.slice (some ⟨b,off,none⟩) l.length cap] W fun e w'=>∃ g cap',e=.returned (.slice (some ⟨g,0,none⟩) l.length cap')∧OwnG w' w.heap.size g cap' l∧Below w.heap.size w w'):=fun W hb =>
  (jkl b off cap l W (hr.below hb) (by omega)).mono (by rintro e w' ⟨g,cap',x1,x2,x3⟩;exact⟨g,cap',x1,x2.mono hb.size,hb.trans (x3.mono hb.size)⟩)
 clear hr G hn hsg
 go_enter Tryz.func154,Tryz.ntmps154
 go_wp2_with fail
 refine HG.mono ?_
 rintro e w1 ⟨rfl,hb1⟩
 have B1:Hid (Below w.heap.size w w1):=hb1
 clear hb1 HG
 go_wp2_with fail
 refine(HW _).mono ?_
 rintro e w1' ⟨rfl,rfl⟩
 clear HW
 go_wp2_with fail
 refine(HC.out _ B1.out).mono ?_
 rintro e w2 ⟨g0,cap0,rfl,ho0,hb2⟩
 have O2:Hid (OwnG w2 w.heap.size g0 cap0 l):=ho0
 have B2:Hid (Below w.heap.size w w2):=hb2
 clear ho0 hb2 B1
 go_wp2_with fail
 refine(jlm w.heap.size g0 cap0 l fr _ O2.out HL.out h0).mono ?_
 rintro e w3 ⟨l1,g1,cap1,rfl,ho1,hs1,hb3⟩
 have O3:Hid (OwnG w3 w.heap.size g1 cap1 l1):=ho1
 have S3:Hid (jdm l fr l1):=hs1
 have B3:Hid (Below w.heap.size w w3):=B2.out.trans hb3
 clear ho1 hs1 hb3 B2 O2
 go_wp2_with fail
 refine(jlm w.heap.size g1 cap1 l1 to _ O3.out S3.out.loose (by omega)).mono ?_
 rintro e w4 ⟨q,g2,cap2,rfl,ho2,hs2,hb4⟩
 have O4:Hid (OwnG w4 w.heap.size g2 cap2 q):=ho2
 have S4:Hid (jdm l1 to q):=hs2
 have B4:Hid (Below w.heap.size w w4):=B3.out.trans hb4
 have hq:q.length≤300:=hs2.loose.len
 clear ho2 hs2 hb4 B3 O3
 go_wp2_with fail
 refine(jfs g2 0 cap2 q fr _ O4.out.rd (by omega) S4.out.loose.rise).mono ?_
 rintro e w5 ⟨ia,rfl,hca,hb5⟩
 have O5:Hid (OwnG w5 w.heap.size g2 cap2 q):=O4.out.later hb5
 have B5:Hid (Below w.heap.size w w5):=B4.out.trans (hb5.mono B4.out.size)
 have CA:Hid (CutAt q fr ia):=hca
 have hia:ia≤q.length:=hca.1
 clear hb5 hca B4 O4
 generalize fnd q fr ia=f1
 go_wp2_with fail
 refine(jfs g2 0 cap2 q to _ O5.out.rd (by omega) S4.out.loose.rise).mono ?_
 rintro e w6 ⟨ib,rfl,hcb,hb6⟩
 have O6:Hid (OwnG w6 w.heap.size g2 cap2 q):=O5.out.later hb6
 have B6:Hid (Below w.heap.size w w6):=B5.out.trans (hb6.mono B5.out.size)
 have CB:Hid (CutAt q to ib):=hcb
 have hib:ib≤q.length:=hcb.1
 clear hb6 hcb B5 O5
 generalize fnd q to ib=f2
 have hab:ia≤ib:=by
  apply Classical.byContradiction
  intro hc
  have x:=CA.out.2.1 ib (by omega)
  have y:=CB.out.2.2 ib (Nat.le_refl _) (by omega)
  omega
 go_wp2_with fail
 go_loopg [17] q.length (fun kx s17 wr=>∃ (i:Nat) (mm:List (Int×Int)),s17=.int .i64 i∧ia≤i∧i≤ib∧q.length - i≤kx∧Hid (Below w.heap.size w wr)∧Hid (OwnG wr w.heap.size g2 cap2 mm)∧Hid (ShInv q ia i d mm)∧Hid (∀ j,ia≤j→j < i→inB (sAt mm j).2=true))
 case atStart=>exact⟨ia,q,rfl,Nat.le_refl _,hab,by omega,B6,O6,ShInv.start q ia d,(fun j x y=>by omega:∀ j,ia≤j→j < ia→inB (sAt q j).2=true)⟩
 case round =>
  clear B6 O6
  obtain⟨i,mm,rfl,hi1,hi2,hg,S1,O1,I,F⟩:=hrel
  have HM:Hid (mm.length=q.length):=I.out.1
  by_cases hlt:i < ib
  ·obtain⟨c0,c1⟩:=O1.out.rd i (by rw [HM.out];omega)
   rw [Nat.zero_add] at c0 c1
   have f1:=O1.out.frozen (i*2+1)
   have O7:Hid (∀ y,OwnG (wr.setCell ⟨g2,i*2+1,none⟩ (.int .i64 y)) w.heap.size g2 cap2 (mm.set i ((sAt mm i).1,y))):=fun y=>O1.out.storeFree i (by rw [HM.out];omega) y
   have hloq:=S4.out.loose.lo i (by omega)
   have hhiq:=S4.out.loose.hi i (by omega)
   have hx:sAt mm i=sAt q i:=I.out.here (by omega)
   have X:Hid (sAt mm i=sAt q i):=hx
   rw [← hx] at hloq hhiq
   clear hx
   generalize hxx:sAt mm i=x at *
   have XX:Hid (sAt mm i=x):=hxx
   clear hxx
   have hgl:w.heap.size≤g2:=O1.out.base
   have hi3:(i:Int) < (ib:Int):=by omega
   have hi4:(i:Int) < (q.length:Int):=by omega
   have HWy:=fun W=>jdf (x.2+d) W
   generalize hib2:inB (x.2+d)=r at HWy
   have RR:Hid (inB (x.2+d)=r):=hib2
   clear hib2
   have B7:Hid (Below w.heap.size w (wr.setCell ⟨g2,i*2+1,none⟩ (.int .i64 (x.2+d)))):=S1.out.setCell hgl _
   go_wp2_with fail
   refine(HWy _).mono ?_
   rintro e w7 ⟨rfl,rfl⟩
   cases r
   case false =>
    go_wp2_with fail
    refine(HC.out _ B7.out).mono ?_
    rintro e w8 ⟨g8,cap8,rfl,ho8,hb8⟩
    have A:Hid (jfm l fr to d w8 (.slice (some ⟨g8,0,none⟩) l.length cap8) false) :=
     Or.inr ⟨rfl,ho8.sl (by omega),jma h2 S4.out.loose (fun s hs=>(S4.out.same s hs).trans (S3.out.same s hs)) CA.out CB.out hi1 hlt (by rw [← X.out];exact RR.out) (m:=mm)⟩
    have FA:Hid (Far w.heap.size (.slice (some ⟨g8,0,none⟩) l.length cap8)):=⟨_,_,_,_,rfl,ho8.base⟩
    clear ho8
    go_wp2
    go_ret2
    exact⟨_,_,rfl,A.out,FA.out,hb8⟩
   case true =>
    go_wp2
    go_roundg (q.length - (i+1))
    case measure=>omega
    case rel =>
     have O8:=O7.out (x.2+d)
     have I2:Hid (ShInv q ia (i+1) d (mm.set i (x.1,x.2+d))):=by
      have:=I.out.step hi1 (by omega)
      rw [XX.out] at this
      exact this
     have F2:Hid (∀ j,ia≤j→j < i+1→inB (sAt (mm.set i (x.1,x.2+d)) j).2=true):=fun j y1 y2=>by
      rw [jiy _ _ _ _ (by rw [HM.out];omega)]
      by_cases e:j=i
      ·rw [if_pos e];exact RR.out
      ·rw [if_neg e];exact F.out j y1 (by omega)
     exact⟨i+1,mm.set i (x.1,x.2+d),by go_num,by omega,by omega,Nat.le_refl _,B7,O8,I2,F2⟩
  ·have hie:i=ib:=by omega
   have HS:Hid (jhc l fr to d (ja7 mm)):=by
    have I2:=I.out
    have F2:=F.out
    rw [hie] at I2 F2
    exact jj5 h0 h1 h2 S4.out.loose (fun s hs=>(S4.out.same s hs).trans (S3.out.same s hs)) (fun h=>S4.out.keep _ (S3.out.beg h)) S4.out.beg CA.out CB.out I2 F2
   clear hie
   have hi5:¬ ((i:Int) < (ib:Int)):=by omega
   have JJ:=jpk w.heap.size g2 cap2 mm wr O1.out (by rw [HM.out];omega)
   rw [HM.out] at JJ
   go_wp2_with fail
   refine JJ.mono ?_
   rintro e w8 ⟨rfl,ho8,hb8⟩
   have A:Hid (jfm l fr to d w8 (.slice (some ⟨g2,0,none⟩) (ja7 mm).length cap2) true):=Or.inl ⟨rfl,ja7 mm,ho8.sl (by have:=HS.out.good.len;omega),HS.out⟩
   have B8:Hid (Below w.heap.size w w8):=S1.out.trans hb8
   have FA:Hid (Far w.heap.size (.slice (some ⟨g2,0,none⟩) (ja7 mm).length cap2)):=⟨_,_,_,_,rfl,ho8.base⟩
   clear ho8 hb8 JJ
   go_wp2
   go_ret2
   exact⟨_,_,rfl,A.out,FA.out,B8.out⟩
theorem take_far (v:Value) (l:List (Int×Int)) (fr tu n:Int) (w:World) (hs:Sl w v l) (h:jga l fr tu n) :
  Calls Tryz.prog 114 #[v,.int .i64 fr,.int .i64 tu,.int .i64 n] w fun e w'=>∃ v' ok,e=.returned (.tuple #[v',.bool ok])∧jew l fr tu n (-n) w' v' ok∧Far w.heap.size v'∧Below w.heap.size w w':=by
 obtain⟨k1,k2,k3,k4,k5⟩:=id h
 have G:=jck.1 k1
 obtain⟨hn,a,cap,rfl,h1⟩:=hs
 rcases h1 with rfl|⟨b,off,rfl,hr⟩
 ·have:=G.pos;simp at this
 have HC:=shift_far b off cap l fr tu n (-1) (-n) w hr G k2 k3 k4 k5 (Or.inr rfl) (by omega)
 have HO:Hid (jga l fr tu n):=h
 clear hr h G k1 k2 k3 k4 k5
 go_enter Tryz.func114,Tryz.ntmps114
 go_wp2_with fail
 refine HC.mono ?_
 rintro e w1 ⟨v',ok,rfl,h1,h3,h2⟩
 have H1:Hid (jew l fr tu n (-n) w1 v' ok∧Far w.heap.size v'):=⟨Or.inl ⟨HO.out,h1⟩,h3⟩
 clear h1 h3 HC
 go_wp2
 go_ret2
 exact⟨v',ok,rfl,H1.out.1,H1.out.2,h2⟩
def R3:List (Int×Int):=[(0,16),(5,12),(9,16)]
end Go.Proofs.YtcmdoeledmkfmacGreatDoor
