/- Texts of this claim, in one: LMath LMem LGood LNum LPiece LOrd LTold LToldW LParse LPrint. -/
import Derived.Test.YtcmdoeledmkfmacGreatDoorYS0
import Derived.Lib.ItoaNum
import Derived.Lib.AtoiTie
import Derived.Lib.SplitLaws
import Derived.Lib.LaidTab
import Derived.FnData
import Derived.Deep.MidRow
import Derived.Deep.LoopGhost
import Derived.Deep.DeepCutAuto
import Derived.Test.YtcmdoeledmkfmacGreatDoorShelf
import Derived.Lib.AtoiErrMem
import Derived.Deep.RegionHeld
import Derived.Test.YtcmdoeledmkfmacGreatDoorS1
import Derived.Test.YtcmdoeledmkfmacGreatDoorS2
import Derived.Test.YtcmdoeledmkfmacGreatDoorYApp
set_option linter.unusedSimpArgs false
set_option linter.unusedVariables false
set_option maxHeartbeats 40000000
set_option maxRecDepth 100000
namespace Go.Proofs.YtcmdoeledmkfmacGreatDoor
open Go
def wordL:List (List UInt8):=[[],[99,111,109,101],[108,101,97,118,101],[104,111,108,100],[102,114,101,101],[99,104,97,110,103,101],[107,101,101,112],[100,114,111,112],[115,104,117,116],[119,97,105,116],[98,101,103,105,110],[99,111,109,109,105,116],[117,110,100,111],[103,117,101,115,115],[97,115,107]]
def cntL:List Nat:=[0,3,1,1,1,2,3,1,1,1,0,0,0,3,1]
def word (k:Nat):List UInt8:=wordL.getD k []
def cntO (k:Nat):Nat:=cntL.getD k 0
def numsO (o:Ord):List Int:=[o.a,o.b,o.c]
def farOf (c i:Nat):Int:=if i < c then 1073741824 else 0
def GoodO (o:Ord):Prop:=(1≤o.kd∧o.kd≤14)∧(-(farOf (cntO o.kd.toNat) 0)≤o.a∧o.a≤farOf (cntO o.kd.toNat) 0)∧(-(farOf (cntO o.kd.toNat) 1)≤o.b∧o.b≤farOf (cntO o.kd.toNat) 1)∧(-(farOf (cntO o.kd.toNat) 2)≤o.c∧o.c≤farOf (cntO o.kd.toNat) 2)
def toldL (o:Ord):List (List UInt8):=word o.kd.toNat::((numsO o).take (cntO o.kd.toNat)).map Lib.itoa
def jc9 (acc:List UInt8):List UInt8→List (List UInt8)
 | []=>if acc=[] then [] else [acc]
 | c::r=>if c=32 then (if acc=[] then jc9 [] r else acc::jc9 [] r) else jc9 (acc++[c]) r
def pieces (s:List UInt8):List (List UInt8):=jc9 [] s
def Tells (l:List (List UInt8)) (o:Ord):Prop:=GoodO o∧l=toldL o
def jay (s:List UInt8):Option Ord→Prop
 | some o=>s.length≤60∧Tells (pieces s) o
 | none=>∀ o,s.length≤60→¬ Tells (pieces s) o
theorem jh1 (l:List UInt8) (b:UInt8):∀ acc:Nat,Lib.decFrom acc (l++[b])=(Lib.decFrom acc l).bind fun n=>(Lib.digitVal b).map fun d=>n*10+d:=by
 induction l with
 | nil =>
  intro acc
  simp only [List.nil_append,Lib.decFrom]
  cases Lib.digitVal b <;> rfl
 | cons a r ih =>
  intro acc
  simp only [List.cons_append,Lib.decFrom]
  cases Lib.digitVal a with
  | none=>rfl
  | some d=>exact ih _
theorem jje (d:Nat) (h:d < 10):Lib.digitVal (UInt8.ofNat (48+d))=some d:=by
 have e:(UInt8.ofNat (48+d)).toNat=48+d:=by rw [UInt8.toNat_ofNat'];exact Nat.mod_eq_of_lt (by omega)
 unfold Lib.digitVal
 rw [e,if_pos ⟨by omega,by omega⟩]
 congr 1
 omega
theorem jeu:∀ (k u:Nat),u < k→Lib.decFrom 0 (Lib.decDigits u)=some u
 | 0,u,h=>by omega
 | k+1,u,h=>by
  rw [Lib.decDigits]
  by_cases h1:u < 10
  ·rw [dif_pos h1]
   show Lib.decFrom 0 ([]++[_])=_
   rw [jh1,jje u h1]
   simp [Lib.decFrom]
  ·rw [dif_neg h1,jh1,jeu k (u / 10) (by omega),jje (u % 10) (by omega)]
   simp
   omega
theorem je3:∀ (k u:Nat),u < k→∀ b∈Lib.decDigits u,48≤b.toNat∧b.toNat≤57
 | 0,u,h=>by omega
 | k+1,u,h=>by
  intro b hb
  have e:∀ d,d < 10→(UInt8.ofNat (48+d)).toNat=48+d:=fun d hd=>by rw [UInt8.toNat_ofNat'];exact Nat.mod_eq_of_lt (by omega)
  rw [Lib.decDigits] at hb
  by_cases h1:u < 10
  ·rw [dif_pos h1] at hb
   rw [List.mem_singleton.1 hb,e u h1]
   omega
  ·rw [dif_neg h1] at hb
   rcases List.mem_append.1 hb with hb|hb
   ·exact je3 k (u / 10) (by omega) b hb
   ·rw [List.mem_singleton.1 hb,e (u % 10) (by omega)]
    omega
theorem jg8 (u:Nat):Lib.decDigits u≠[]:=by
 rw [Lib.decDigits]
 split
 ·simp
 ·simp
theorem jd1:∀ (k u:Nat),1≤k→u < 10 ^ k→Lib.nDigits u≤k
 | 0,u,h,_=>by omega
 | k+1,u,_,h=>by
  by_cases h1:u < 10
  ·rw [Lib.nDigits_small h1];omega
  ·rw [Lib.nDigits_big h1]
   by_cases hk:k=0
   ·subst hk;simp at h;omega
   ·have:=jd1 k (u / 10) (by omega) (by rw [Nat.pow_succ] at h;omega)
    omega
theorem jtp {n:Int} (h0:-1073741824≤n) (h1:n≤1073741824):(Lib.itoa n).length≤11:=by
 unfold Lib.itoa
 split
 ·rw [List.length_cons,Lib.decDigits_length]
  have:=jd1 10 n.natAbs (by omega) (by omega)
  omega
 ·rw [Lib.decDigits_length]
  have:=jd1 10 n.toNat (by omega) (by omega)
  omega
theorem jha (u:Nat):Lib.decNat (Lib.decDigits u)=some u:=by
 unfold Lib.decNat
 rw [if_neg (by simp [jg8]),jeu _ _ (Nat.lt_succ_self _)]
theorem jjg (n:Int):Lib.atoi (Lib.itoa n)=some n:=by
 unfold Lib.itoa
 split
 ·simp only [Lib.atoi,jha]
  simp
  omega
 ·rename_i hn
  have hd:=jha n.toNat
  have hm:=je3 _ _ (Nat.lt_succ_self n.toNat)
  cases e:Lib.decDigits n.toNat with
  | nil=>exact absurd e (jg8 _)
  | cons b r =>
   rw [e] at hd hm
   have hb:=hm b List.mem_cons_self
   have h45:(b == 45)=false:=beq_eq_false_iff_ne.2 fun h=>by subst h;simp at hb
   have h43:(b == 43)=false:=beq_eq_false_iff_ne.2 fun h=>by subst h;simp at hb
   simp only [Lib.atoi,h45,h43,hd]
   simp
   omega
theorem jtq {n m:Int} (h:Lib.itoa n=Lib.itoa m):n=m:=by
 have a:=jjg n
 rw [h,jjg m] at a
 exact(Option.some.inj a).symm
theorem jh5 {n:Int} (h0:-1073741824≤n) (h1:n≤1073741824):Lib.atoiAll (Lib.itoa n)=.ok n:=by
 rw [Lib.atoiAll_short _ (by have:=jtp h0 h1;omega),jjg]
 rfl
theorem jo5:∀ k,k < 15→(word k).length≤6:=by decide
theorem jid {j k:Nat} (hj:j < 15) (hk:k < 15) (h:word j=word k):j=k:=by
 have:∀ j k:Fin 15,word j.val=word k.val→j=k:=by decide
 exact congrArg Fin.val (this ⟨j,hj⟩ ⟨k,hk⟩ h)
theorem jhp:∀ k,cntO k≤3:=by
 intro k
 by_cases h:k < 15
 ·have:∀ k:Fin 15,cntO k.val≤3:=by decide
  exact this ⟨k,h⟩
 ·unfold cntO
  have hl:cntL.length≤k:=by show 15≤k;omega
  simp [List.getD,List.getElem?_eq_none hl]
theorem jlf (c i:Nat):0≤farOf c i∧farOf c i≤1073741824:=by unfold farOf;split <;> omega
theorem GoodO.small {o:Ord} (h:GoodO o):∀ n∈numsO o,-1073741824≤n∧n≤1073741824:=by
 obtain⟨_,h1,h2,h3⟩:=h
 have f0:=jlf (cntO o.kd.toNat) 0
 have f1:=jlf (cntO o.kd.toNat) 1
 have f2:=jlf (cntO o.kd.toNat) 2
 intro n hn
 simp only [numsO,List.mem_cons,List.not_mem_nil,or_false] at hn
 rcases hn with rfl|rfl|rfl <;> omega
theorem GoodO.kind {o:Ord} (h:GoodO o):1≤o.kd.toNat∧o.kd.toNat < 15∧(o.kd.toNat:Int)=o.kd:=by
 have:=h.1;omega
theorem GoodO.rest {o:Ord} (h:GoodO o):(cntO o.kd.toNat≤0→o.a=0)∧(cntO o.kd.toNat≤1→o.b=0)∧(cntO o.kd.toNat≤2→o.c=0):=by
 obtain⟨_,h1,h2,h3⟩:=h
 unfold farOf at h1 h2 h3
 refine⟨fun h=>?_,fun h=>?_,fun h=>?_⟩
 ·rw [if_neg (by omega)] at h1;omega
 ·rw [if_neg (by omega)] at h2;omega
 ·rw [if_neg (by omega)] at h3;omega
theorem jfu:∀ (l m:List Int),l.map Lib.itoa=m.map Lib.itoa→l=m
 | [],[],_=>rfl
 | [],b::m,h=>by simp at h
 | a::l,[],h=>by simp at h
 | a::l,b::m,h=>by
  simp only [List.map_cons,List.cons.injEq] at h
  rw [jtq h.1,jfu l m h.2]
theorem jl4 {l:List (List UInt8)} {o o':Ord} (h:Tells l o) (h':Tells l o'):o=o':=by
 obtain⟨g,e⟩:=h
 obtain⟨g',e'⟩:=h'
 rw [e] at e'
 unfold toldL at e'
 injection e' with e1 e2
 have k1:=g.kind
 have k2:=g'.kind
 have hk:=jid k1.2.1 k2.2.1 e1
 have e3:=jfu _ _ e2
 rw [← hk] at e3
 have r1:=g.rest
 have r2:=g'.rest
 rw [← hk] at r2
 have hkd:o.kd=o'.kd:=by omega
 have hc:=jhp o.kd.toNat
 generalize cntO o.kd.toNat=c at *
 have:o.a=o'.a∧o.b=o'.b∧o.c=o'.c:=by
  unfold numsO at e3
  match c,hc with
  | 0,_=>exact⟨by rw [r1.1 (by omega),r2.1 (by omega)],by rw [r1.2.1 (by omega),r2.2.1 (by omega)],by rw [r1.2.2 (by omega),r2.2.2 (by omega)]⟩
  | 1,_=>simp at e3;exact⟨e3,by rw [r1.2.1 (by omega),r2.2.1 (by omega)],by rw [r1.2.2 (by omega),r2.2.2 (by omega)]⟩
  | 2,_=>simp at e3;exact⟨e3.1,e3.2,by rw [r1.2.2 (by omega),r2.2.2 (by omega)]⟩
  | 3,_=>simp at e3;exact e3
 obtain⟨x1,x2,x3⟩:=this
 cases o;cases o';simp_all
theorem jcn {s:List UInt8} {r r':Option Ord} (h:jay s r) (h':jay s r'):r=r':=by
 cases r with
 | none =>
  cases r' with
  | none=>rfl
  | some o=>exact absurd h'.2 (h o h'.1)
 | some o =>
  cases r' with
  | none=>exact absurd h.2 (h' o h.1)
  | some o'=>rw [jl4 h.2 h'.2]
theorem jku (k:Nat) (s:List UInt8):∃ h t,Lib.splitK [32] 0 k s=h::t:=by
 cases k with
 | zero=>exact⟨_,_,rfl⟩
 | succ k=>unfold Lib.splitK;split <;> exact⟨_,_,rfl⟩
theorem jla (b:UInt8) (l:List UInt8) (hb:b≠32):Lib.index (b::l) [32]=if Lib.index l [32] == -1 then -1 else Lib.index l [32]+1:=by
 have h1:(([32]:List UInt8).isPrefixOf (b::l))=false:=by
  simp [List.isPrefixOf,Ne.symm hb]
 simp [Lib.index,h1]
theorem jkv (b:UInt8) (l:List UInt8) (hb:b≠32) (k:Nat) (h:List UInt8) (t:List (List UInt8)) (e:Lib.splitK [32] 0 k l=h::t):Lib.splitK [32] 0 k (b::l)=(b::h)::t:=by
 cases k with
 | zero=>simp only [Lib.splitK,List.cons.injEq] at e ⊢;exact⟨⟨trivial,e.1⟩,e.2⟩
 | succ k =>
  have hi:=jla b l hb
  have hg:=Lib.index_ge l [32]
  unfold Lib.splitK at e ⊢
  by_cases c:Lib.index l [32]=-1
  ·rw [if_pos (by simp [c])] at e
   rw [if_pos (by rw [hi];simp [c])]
   simp only [List.cons.injEq] at e ⊢
   exact⟨⟨trivial,e.1⟩,e.2⟩
  ·rw [if_neg (by simp [c])] at hi e
   rw [if_neg (by rw [hi];simp;omega),hi]
   have e2:(Lib.index l [32]+1).toNat=(Lib.index l [32]).toNat+1:=by omega
   rw [e2]
   simp only [List.length_singleton,Nat.add_zero,List.cons.injEq] at e ⊢
   exact⟨by rw [List.take_succ_cons,e.1],by rw [show(Lib.index l [32]).toNat+1+1=((Lib.index l [32]).toNat+1)+1 from rfl,List.drop_succ_cons];exact e.2⟩
theorem jkw (l:List UInt8) (k:Nat):Lib.splitK [32] 0 (k+1) (32::l)=[]::Lib.splitK [32] 0 k l:=by
 have hi:Lib.index (32::l) [32]=0:=by simp [Lib.index]
 conv=>lhs;unfold Lib.splitK
 rw [hi]
 simp
theorem jfq:∀ (s acc h:List UInt8) (t:List (List UInt8)),Lib.splitK [32] 0 (Lib.count s [32]) s=h::t→((acc++h)::t).filter (fun x=>!x.isEmpty)=jc9 acc s
 | [],acc,h,t,e=>by
  have hc:Lib.count [] [32]=0:=by decide
  rw [hc] at e
  simp only [Lib.splitK,List.cons.injEq] at e
  obtain⟨rfl,rfl⟩:=e
  by_cases ha:acc=[] <;> simp [jc9,ha,List.filter_cons]
 | b::l,acc,h,t,e=>by
  by_cases hb:b=32
  ·subst hb
   rw [Lib.count_cons_eq,Nat.add_comm,jkw] at e
   injection e with e1 e2
   subst e1
   obtain⟨h',t',e'⟩:=jku (Lib.count l [32]) l
   have ih:=jfq l [] h' t' e'
   rw [e'] at e2
   subst e2
   rw [List.nil_append] at ih
   rw [List.append_nil,List.filter_cons,jc9,if_pos rfl,← ih]
   by_cases ha:acc=[] <;> simp [ha]
  ·rw [Lib.count_cons_ne _ _ _ hb] at e
   obtain⟨h',t',e'⟩:=jku (Lib.count l [32]) l
   rw [jkv b l hb _ h' t' e'] at e
   injection e with e1 e2
   subst e1 e2
   have ih:=jfq l (acc++[b]) h' t' e'
   rw [jc9,if_neg hb,← ih]
   simp
theorem js3 (s:List UInt8):(Lib.split s [32]).filter (fun x=>!x.isEmpty)=pieces s:=by
 obtain⟨h,t,e⟩:=jku (Lib.count s [32]) s
 unfold Lib.split pieces
 rw [← jfq s [] h t e,e]
 rfl
end Go.Proofs.YtcmdoeledmkfmacGreatDoor
namespace Go.Proofs.YtcmdoeledmkfmacGreatDoor
open Go.RowKit
def txt (l:List UInt8):Value:=.string ⟨l.toArray⟩
def jlv:List Value:=wordL.map txt
def jsf:List Value:=cntL.map fun n=>.int .i64 (n:Nat)
theorem jpm:Tryz.prog.globalNamed "berthing/line.words"=some 1:=by kernel_rfl
theorem jle:Tryz.prog.globalNamed "berthing/line.counts"=some 0:=by kernel_rfl
theorem gPow:Tryz.prog.globalNamed "internal/strconv.uint64pow10"=some 9:=by kernel_rfl
theorem gSyn:Tryz.prog.globalNamed "strconv.ErrSyntax"=some 7:=by kernel_rfl
theorem gRng:Tryz.prog.globalNamed "strconv.ErrRange"=some 8:=by kernel_rfl
def usedG:List Nat:=[1,0,9,7,8,4]
structure LW (w:World):Prop where
 words:w.var? Tryz.prog "berthing/line.words"=some jlv.toArray
 counts:w.var? Tryz.prog "berthing/line.counts"=some jsf.toArray
 pow:Lib.TabIs Tryz.prog w "internal/strconv.uint64pow10" .u64 Lib.pow10Tab
 syn:∃ tp p,w.var? Tryz.prog "strconv.ErrSyntax"=some #[.iface tp p]
 rng:∃ tp p,w.var? Tryz.prog "strconv.ErrRange"=some #[.iface tp p]
 max:∃ m,w.cell? ⟨4,0,none⟩=some (.int .i64 m)
theorem jf2 {w w':World} {name:String} {g:Nat} {cs:Array Value} (hg:Tryz.prog.globalNamed name=some g) (h:w.var? Tryz.prog name=some cs) (hs:w'.heap[g]?=w.heap[g]?):w'.var? Tryz.prog name=some cs:=by
 simp only [World.var?,hg,Option.bind_some] at h ⊢
 rw [hs]
 exact h
theorem jur {w:World} {name:String} {g:Nat} {cs:Array Value} (hg:Tryz.prog.globalNamed name=some g) (h:w.var? Tryz.prog name=some cs):∃ t f,w.heap[g]?=some (.cells cs t f):=by
 simp only [World.var?,hg,Option.bind_some] at h
 split at h
 ·rename_i c t f hb
  injection h with h
  subst h
  exact⟨t,f,hb⟩
 ·cases h
theorem jfw {w w':World} {g k:Nat} (hs:w'.heap[g]?=w.heap[g]?):w'.cell? ⟨g,k,none⟩=w.cell? ⟨g,k,none⟩:=by
 simp only [World.cell?]
 rw [hs]
theorem LW.same {w w':World} (h:LW w) (hs:∀ g∈usedG,w'.heap[g]?=w.heap[g]?):LW w':=by
 have m:∀ g,g∈usedG→w'.heap[g]?=w.heap[g]?:=hs
 obtain⟨tp,p,h4⟩:=h.syn
 obtain⟨tq,q,h5⟩:=h.rng
 obtain⟨x,h6⟩:=h.max
 refine⟨jf2 jpm h.words (m _ (by simp [usedG])),jf2 jle h.counts (m _ (by simp [usedG])),jf2 gPow h.pow (m _ (by simp [usedG])),⟨tp,p,jf2 gSyn h4 (m _ (by simp [usedG]))⟩,⟨tq,q,jf2 gRng h5 (m _ (by simp [usedG]))⟩,x,?_⟩
 rw [jfw (m _ (by simp [usedG]))]
 exact h6
theorem jjx {w:World} {name:String} {g:Nat} {cs:Array Value} (hg:Tryz.prog.globalNamed name=some g) (h:w.var? Tryz.prog name=some cs):g < w.heap.size:=by
 obtain⟨t,f,hb⟩:=jur hg h
 exact(Array.getElem?_eq_some_iff.1 hb).1
theorem LW.lt {w:World} (h:LW w):∀ g∈usedG,g < w.heap.size:=by
 intro g hg
 obtain⟨tp,p,h4⟩:=h.syn
 obtain⟨tq,q,h5⟩:=h.rng
 obtain⟨x,h6⟩:=h.max
 simp only [usedG,List.mem_cons,List.not_mem_nil,or_false] at hg
 rcases hg with rfl|rfl|rfl|rfl|rfl|rfl
 ·exact jjx jpm h.words
 ·exact jjx jle h.counts
 ·exact jjx gPow h.pow
 ·exact jjx gSyn h4
 ·exact jjx gRng h5
 ·exact World.block_lt_of_cell? w _ h6
theorem LW.later {w w':World} (h:LW w) (hb:Below w.heap.size w w'):LW w':=h.same fun g hg=>hb.block g (h.lt g hg)
theorem LW.countC {w:World} (h:LW w) (k:Nat) (hk:k < 15):w.cell? ⟨0,k,none⟩=some (.int .i64 (cntO k:Nat)):=by
 rw [World.var?_cell jle h.counts k,List.getElem?_toArray]
 unfold jsf cntO
 rw [List.getElem?_map,List.getD_eq_getElem?_getD,List.getElem?_eq_getElem (show k < cntL.length from hk)]
 rfl
theorem LW.wordRow {w:World} (h:LW w):w.rangeAt 1 0 jlv:=fun j v hv=>by
 rw [Nat.zero_add,World.var?_cell jpm h.words j,List.getElem?_toArray]
 exact hv
def jf0 (o:Ord) (j:Nat):Prop:=∀ i n,i < j→(numsO o)[i]?=some n→-(farOf (cntO o.kd.toNat) i)≤n∧n≤farOf (cntO o.kd.toNat) i
theorem jda {o:Ord} (hk:1≤o.kd∧o.kd≤14):GoodO o↔jf0 o 3:=by
 constructor
 ·rintro ⟨_,h0,h1,h2⟩ i n hi hn
  match i,hi,hn with
  | 0,_,hn=>simp [numsO] at hn;subst hn;exact h0
  | 1,_,hn=>simp [numsO] at hn;subst hn;exact h1
  | 2,_,hn=>simp [numsO] at hn;subst hn;exact h2
 ·intro h
  exact⟨hk,h 0 _ (by omega) rfl,h 1 _ (by omega) rfl,h 2 _ (by omega) rfl⟩
def jcm (o:Ord):Bool:=decide (1≤o.kd∧o.kd≤14) && decide (-(farOf (cntO o.kd.toNat) 0)≤o.a∧o.a≤farOf (cntO o.kd.toNat) 0) && decide (-(farOf (cntO o.kd.toNat) 1)≤o.b∧o.b≤farOf (cntO o.kd.toNat) 1) && decide (-(farOf (cntO o.kd.toNat) 2)≤o.c∧o.c≤farOf (cntO o.kd.toNat) 2)
theorem jf3 {o:Ord}:jcm o=true↔GoodO o:=by
 unfold jcm GoodO
 simp only [Bool.and_eq_true,decide_eq_true_iff]
 constructor
 ·rintro ⟨⟨⟨a,b⟩,c⟩,d⟩;exact⟨a,b,c,d⟩
 ·rintro ⟨a,b,c,d⟩;exact⟨⟨⟨a,b⟩,c⟩,d⟩
theorem jct {o:Ord} (h:¬ GoodO o):jcm o=false:=by
 cases e:jcm o
 ·rfl
 ·exact absurd (jf3.1 e) h
theorem jg1 {o:Ord} {j:Nat} {n:Int} (h:jf0 o j) (hn:(numsO o)[j]?=some n) (hr:-(farOf (cntO o.kd.toNat) j)≤n∧n≤farOf (cntO o.kd.toNat) j):jf0 o (j+1):=fun i m hi hm=>by
 by_cases e:i=j
 ·subst e
  rw [hn] at hm
  injection hm with hm
  rw [← hm];exact hr
 ·exact h i m (by omega) hm
theorem jcv {a b:Bool} (h:a=b):Ending.returned (.bool a)=.returned (.bool b):=by rw [h]
theorem jm0 (o:Ord) (w:World) (hL:LW w) :
  Calls Tryz.prog 61 #[.agg #[.int .i64 o.kd,.int .i64 o.a,.int .i64 o.b,.int .i64 o.c]] w fun e w'=>e=.returned (.bool (jcm o))∧Below w.heap.size w w':=by
 have B0:Hid (Below w.heap.size w (w.alloc (.cells #[.int .i64 o.kd,.int .i64 o.a,.int .i64 o.b,.int .i64 o.c] 61))):=(Below.refl _ w).alloc (Nat.le_refl _) _
 by_cases k0:o.kd < 1
 ·have N:Hid (jcm o=false):=jct fun h=>by have:=h.1;omega
  go_enter Tryz.func61,Tryz.ntmps61
  go_wp2
  go_ret
  exact⟨jcv N.out.symm,B0.out⟩
 by_cases k1:14 < o.kd
 ·have N:Hid (jcm o=false):=jct fun h=>by have:=h.1;omega
  go_enter Tryz.func61,Tryz.ntmps61
  go_wp2
  go_ret
  exact⟨jcv N.out.symm,B0.out⟩
 obtain⟨kd,a,b,c⟩:=o
 simp only at k0 k1
 obtain⟨k,rfl⟩:∃ k:Nat,kd=k:=⟨kd.toNat,by omega⟩
 have HK:Hid (1≤(k:Int)∧(k:Int)≤14):=⟨by omega,by omega⟩
 have hk15:(k:Int) < 15:=by omega
 have cc:=jd0 (hL.countC k (by omega)) (.cells #[.int .i64 k,.int .i64 a,.int .i64 b,.int .i64 c] 61)
 have i0:∀ x,(Instr.index 90 (.agg #[.int .i64 a,.int .i64 b,.int .i64 c]) (.int .i64 0)).run Tryz.prog x=.ok (.int .i64 a) x:=fun _=>by kernel_rfl
 have i1:∀ x,(Instr.index 90 (.agg #[.int .i64 a,.int .i64 b,.int .i64 c]) (.int .i64 1)).run Tryz.prog x=.ok (.int .i64 b) x:=fun _=>by kernel_rfl
 have i2:∀ x,(Instr.index 90 (.agg #[.int .i64 a,.int .i64 b,.int .i64 c]) (.int .i64 2)).run Tryz.prog x=.ok (.int .i64 c) x:=fun _=>by kernel_rfl
 go_enter Tryz.func61,Tryz.ntmps61
 go_wp2
 go_loop [3,4,5,21] (fun s3 s4 s5 s21=>∃ j:Nat,j≤3∧s21=.int .i64 j∧Hid (jf0 ⟨k,a,b,c⟩ j)) (fun _ _ _ s21=>3 - (intOf s21).toNat)
 case atStart=>exact⟨0,by omega,rfl,fun i n h=>absurd h (Nat.not_lt_zero _)⟩
 case round =>
  obtain⟨j,hj,rfl,J⟩:=hrel
  obtain rfl|rfl|rfl|rfl:j=0∨j=1∨j=2∨j=3:=by omega
  ·by_cases hf:((0:Nat):Int) < (cntO k:Nat)
   all_goals
    by_cases h1:a < -(farOf (cntO k) 0)
    ·have N:Hid (jcm ⟨k,a,b,c⟩=false):=jct fun h=>by have:=((jda HK.out).1 h) 0 a (by omega) rfl;simp only [Int.toNat_natCast] at this;omega
     have hfar:farOf (cntO k) 0=if 0 < cntO k then 1073741824 else 0:=rfl
     first|rw [if_pos (by omega)] at hfar|rw [if_neg (by omega)] at hfar
     rw [hfar] at h1
     clear hfar
     go_wp2
     go_ret
     exact⟨jcv N.out.symm,B0.out⟩
    ·by_cases h2:farOf (cntO k) 0 < a
     ·have N:Hid (jcm ⟨k,a,b,c⟩=false):=jct fun h=>by have:=((jda HK.out).1 h) 0 a (by omega) rfl;simp only [Int.toNat_natCast] at this;omega
      have hfar:farOf (cntO k) 0=if 0 < cntO k then 1073741824 else 0:=rfl
      first|rw [if_pos (by omega)] at hfar|rw [if_neg (by omega)] at hfar
      rw [hfar] at h1 h2
      clear hfar
      go_wp2
      go_ret
      exact⟨jcv N.out.symm,B0.out⟩
     ·have J2:Hid (jf0 ⟨k,a,b,c⟩ (0+1)):=jg1 J.out (n:=a) rfl (by simp only [Int.toNat_natCast];omega)
      have hfar:farOf (cntO k) 0=if 0 < cntO k then 1073741824 else 0:=rfl
      first|rw [if_pos (by omega)] at hfar|rw [if_neg (by omega)] at hfar
      rw [hfar] at h1 h2
      clear hfar
      go_wp2
      go_round
      case rel=>exact⟨0+1,by omega,by go_num,J2⟩
      case measure=>simp [intOf]
  ·by_cases hf:((1:Nat):Int) < (cntO k:Nat)
   all_goals
    by_cases h1:b < -(farOf (cntO k) 1)
    ·have N:Hid (jcm ⟨k,a,b,c⟩=false):=jct fun h=>by have:=((jda HK.out).1 h) 1 b (by omega) rfl;simp only [Int.toNat_natCast] at this;omega
     have hfar:farOf (cntO k) 1=if 1 < cntO k then 1073741824 else 0:=rfl
     first|rw [if_pos (by omega)] at hfar|rw [if_neg (by omega)] at hfar
     rw [hfar] at h1
     clear hfar
     go_wp2
     go_ret
     exact⟨jcv N.out.symm,B0.out⟩
    ·by_cases h2:farOf (cntO k) 1 < b
     ·have N:Hid (jcm ⟨k,a,b,c⟩=false):=jct fun h=>by have:=((jda HK.out).1 h) 1 b (by omega) rfl;simp only [Int.toNat_natCast] at this;omega
      have hfar:farOf (cntO k) 1=if 1 < cntO k then 1073741824 else 0:=rfl
      first|rw [if_pos (by omega)] at hfar|rw [if_neg (by omega)] at hfar
      rw [hfar] at h1 h2
      clear hfar
      go_wp2
      go_ret
      exact⟨jcv N.out.symm,B0.out⟩
     ·have J2:Hid (jf0 ⟨k,a,b,c⟩ (1+1)):=jg1 J.out (n:=b) rfl (by simp only [Int.toNat_natCast];omega)
      have hfar:farOf (cntO k) 1=if 1 < cntO k then 1073741824 else 0:=rfl
      first|rw [if_pos (by omega)] at hfar|rw [if_neg (by omega)] at hfar
      rw [hfar] at h1 h2
      clear hfar
      go_wp2
      go_round
      case rel=>exact⟨1+1,by omega,by go_num,J2⟩
      case measure=>simp [intOf]
  ·by_cases hf:((2:Nat):Int) < (cntO k:Nat)
   all_goals
    by_cases h1:c < -(farOf (cntO k) 2)
    ·have N:Hid (jcm ⟨k,a,b,c⟩=false):=jct fun h=>by have:=((jda HK.out).1 h) 2 c (by omega) rfl;simp only [Int.toNat_natCast] at this;omega
     have hfar:farOf (cntO k) 2=if 2 < cntO k then 1073741824 else 0:=rfl
     first|rw [if_pos (by omega)] at hfar|rw [if_neg (by omega)] at hfar
     rw [hfar] at h1
     clear hfar
     go_wp2
     go_ret
     exact⟨jcv N.out.symm,B0.out⟩
    ·by_cases h2:farOf (cntO k) 2 < c
     ·have N:Hid (jcm ⟨k,a,b,c⟩=false):=jct fun h=>by have:=((jda HK.out).1 h) 2 c (by omega) rfl;simp only [Int.toNat_natCast] at this;omega
      have hfar:farOf (cntO k) 2=if 2 < cntO k then 1073741824 else 0:=rfl
      first|rw [if_pos (by omega)] at hfar|rw [if_neg (by omega)] at hfar
      rw [hfar] at h1 h2
      clear hfar
      go_wp2
      go_ret
      exact⟨jcv N.out.symm,B0.out⟩
     ·have J2:Hid (jf0 ⟨k,a,b,c⟩ (2+1)):=jg1 J.out (n:=c) rfl (by simp only [Int.toNat_natCast];omega)
      have hfar:farOf (cntO k) 2=if 2 < cntO k then 1073741824 else 0:=rfl
      first|rw [if_pos (by omega)] at hfar|rw [if_neg (by omega)] at hfar
      rw [hfar] at h1 h2
      clear hfar
      go_wp2
      go_round
      case rel=>exact⟨2+1,by omega,by go_num,J2⟩
      case measure=>simp [intOf]
  ·have N:Hid (jcm ⟨k,a,b,c⟩=true):=jf3.2 ((jda HK.out).2 J.out)
   go_wp2
   go_ret
   exact⟨jcv N.out.symm,B0.out⟩
theorem jmw (e:Lib.NumEnd Int):(∃ v,e=.ok v)∨e=Lib.atoiAll []∨e=.range:=by
 cases e
 ·exact Or.inl ⟨_,rfl⟩
 ·exact Or.inr (Or.inl rfl)
 ·exact Or.inr (Or.inr rfl)
theorem jc4 (B:Nat) (w:World) (k:Nat):Below B w (w.drewN k):=⟨rfl,rfl,rfl,Nat.le_refl _,fun _ _=>rfl⟩
theorem jqz (w:World) (os:Array Obj):Below w.heap.size w (Sort.grow w os):=by
 refine⟨rfl,rfl,rfl,by simp [Sort.grow],fun k hk=>?_⟩
 show(w.heap++os)[k]?=w.heap[k]?
 rw [Array.getElem?_append_left hk]
theorem jts (n:Int) (h0:-9223372036854775808≤n) (h1:n≤9223372036854775807) (w:World) (hL:LW w) :
  Calls Tryz.prog 80 #[.int .i64 n] w fun e w'=>e=.returned (txt (Lib.itoa n))∧Below w.heap.size w w':=by
 refine(Tryz.strconv_Itoa n h0 h1 w hL.pow).mono ?_
 rintro e w' ⟨rfl,k,os,rfl⟩
 exact⟨rfl,(jc4 _ w k).trans (jqz (w.drewN k) os)⟩
theorem jt9 (l:List UInt8) (hl:l.length≤60) (w:World) (hL:LW w) :
  Calls Tryz.prog 79 #[txt l] w fun e w'=>(∃ v,Lib.atoiAll l=.ok v∧e=.returned (.tuple #[.int .i64 v,.nilIface])∧Below w.heap.size w w')∨(∃ v t p,(∀ x,Lib.atoiAll l≠.ok x)∧e=.returned (.tuple #[.int .i64 v,.iface t p])∧Below w.heap.size w w'):=by
 have hd:(⟨l.toArray⟩:ByteArray).data.toList=l:=by simp
 have hs:(⟨l.toArray⟩:ByteArray).size=l.length:=by show l.toArray.size=_;simp
 rcases jmw (Lib.atoiAll l) with ⟨v,h⟩|h|h
 ·refine(Tryz.strconv_Atoi_ok ⟨l.toArray⟩ (by omega) v (by rw [hd];exact h) w).mono ?_
  rintro e w' ⟨rfl,hw⟩
  refine Or.inl ⟨v,h,rfl,?_⟩
  rcases hw with rfl|⟨t,rfl⟩
  ·exact Below.refl _ _
  ·exact Lib.bytesWorld_below _ _ _
 ·obtain⟨tp,p,hv⟩:=hL.syn
  refine(Tryz.strconv_Atoi_syntax_var ⟨l.toArray⟩ (by omega) (by rw [hd];exact h) tp p w hv).mono ?_
  rintro e w' ⟨N,rfl,_,_,hw⟩
  exact Or.inr ⟨_,_,_,fun x hx=>(by rw [h] at hx;cases hx),rfl,hw⟩
 ·obtain⟨tp,p,hv⟩:=hL.rng
  refine(Tryz.strconv_Atoi_range_var ⟨l.toArray⟩ (by omega) (by rw [hd];exact h) tp p w hv).mono ?_
  rintro e w' ⟨N,rfl,_,_,hw⟩
  exact Or.inr ⟨_,_,_,fun x hx=>(by rw [h] at hx;cases hx),rfl,hw⟩
def NumIs (l:List UInt8) (n:Int) (ok:Bool):Prop:=(ok=true→Lib.itoa n=l∧-9223372036854775808≤n∧n≤9223372036854775807)∧(ok=false→∀ m:Int,-1073741824≤m→m≤1073741824→Lib.itoa m≠l)
theorem jqm (l:List UInt8) (hl:l.length≤60) (w:World) (hL:LW w) :
  Calls Tryz.prog 60 #[txt l] w fun e w'=>∃ n ok,e=.returned (.tuple #[.int .i64 n,.bool ok])∧NumIs l n ok∧Below w.heap.size w w':=by
 have HA:=jt9 l hl w hL
 have HL:Hid (LW w):=hL
 clear hL
 have HI:=fun n h0 h1 W h=>jts n h0 h1 W h
 unfold txt at *
 go_enter Tryz.func60,Tryz.ntmps60
 go_wp2_with fail
 refine HA.mono ?_
 rintro e w1 (⟨v,hv,rfl,hb⟩|⟨v,t,p,hv,rfl,hb⟩)
 ·have B1:Hid (Below w.heap.size w w1):=hb
  have L1:Hid (LW w1):=HL.out.later hb
  have hbd:=Lib.atoiAll_bounds hv
  have HV:Hid (Lib.atoiAll l=.ok v):=hv
  clear hb HA HL hv
  go_wp2_with fail
  refine(HI v hbd.1 hbd.2 _ L1.out).mono ?_
  rintro e w2 ⟨rfl,hb2⟩
  have B2:Hid (Below w.heap.size w w2):=B1.out.trans (hb2.mono B1.out.size)
  clear hb2 L1 B1
  by_cases c:Lib.itoa v=l
  ·have N:Hid (NumIs l v true):=⟨fun _=>⟨c,hbd⟩,fun h=>by cases h⟩
   go_wp2
   go_ret2
   exact⟨v,true,rfl,N.out,B2.out⟩
  ·have N:Hid (NumIs l v false):=⟨fun h=>(by cases h),fun _ m m0 m1 hm=>by
    rw [← hm,jh5 m0 m1] at HV
    have:=HV.out
    injection this with this
    exact c (by rw [← this];exact hm)⟩
   have hc:(Lib.itoa v == l)=false:=beq_eq_false_iff_ne.2 c
   go_wp2
   go_ret2
   exact⟨v,false,rfl,N.out,B2.out⟩
 ·have N:Hid (NumIs l v false):=⟨fun h=>(by cases h),fun _ m m0 m1 hm=>by
   rw [← hm] at hv
   exact hv m (jh5 m0 m1)⟩
  have B1:Hid (Below w.heap.size w w1):=hb
  clear hb HA HL hv HI
  go_wp2
  go_ret2
  exact⟨v,false,rfl,N.out,B1.out⟩
theorem joo (k:Nat) (hk:k < 15) (x:World):(Instr.index 119 (.agg jlv.toArray) (.int .i64 k)).run Tryz.prog x=.ok (.string ⟨(word k).toArray⟩) x:=by
 obtain rfl|rfl|rfl|rfl|rfl|rfl|rfl|rfl|rfl|rfl|rfl|rfl|rfl|rfl|rfl:k=0∨k=1∨k=2∨k=3∨k=4∨k=5∨k=6∨k=7∨k=8∨k=9∨k=10∨k=11∨k=12∨k=13∨k=14:=by omega
 all_goals kernel_rfl
def jh6 (l:List UInt8) (k:Nat):Prop:=(1≤k∧k < 15∧word k=l)∨(k=0∧∀ j,1≤j→j < 15→word j≠l)
theorem jqr (l:List UInt8) (w:World) (hL:LW w) :
  Calls Tryz.prog 59 #[txt l] w fun e w'=>∃ k:Nat,e=.returned (.int .i64 k)∧jh6 l k∧w'=w:=by
 have HW:=hL.wordRow
 have HC:=joo
 clear hL
 have hwl:jlv.length=15:=rfl
 unfold txt
 generalize hWV:jlv=V at *
 go_enter Tryz.func59,Tryz.ntmps59
 go_wp2_with (refine wpList_load_mid rfl 119 _ rfl 1 0 rfl V _ HW Tryz.underlying119 rfl (by rw [hwl];kernel_rfl) ?_)
 go_loop [3,4,6] (fun s3 s4 s6=>∃ j:Nat,j≤15∧s6=.int .i64 j∧Hid (∀ i,i < j→word i≠l)) (fun _ _ s6=>15 - (intOf s6).toNat)
 case atStart=>exact⟨0,by omega,rfl,fun i h=>absurd h (Nat.not_lt_zero _)⟩
 case round =>
  obtain⟨j,hj,rfl,J⟩:=hrel
  by_cases hlt:j < 15
  ·have hi:=HC j hlt
   have hj3:(j:Int) < 15:=by omega
   clear HC
   by_cases c:word j=l
   ·have K:Hid (jh6 l j):=by
     by_cases j0:j=0
     ·subst j0
      exact Or.inr ⟨rfl,fun i h1 h2 h=>by
       have:=jid (j:=i) (k:=0) h2 (by omega) (by rw [h,c])
       omega⟩
     ·exact Or.inl ⟨by omega,hlt,c⟩
    have hc:(word j == l)=true:=beq_iff_eq.2 c
    clear c
    go_wp2
    go_ret
    exact⟨j,rfl,K.out,rfl⟩
   ·have hc:(word j == l)=false:=beq_eq_false_iff_ne.2 c
    have J2:Hid (∀ i,i < j+1→word i≠l):=fun i hi=>by
     by_cases e:i=j
     ·rw [e];exact c
     ·exact J.out i (by omega)
    go_wp2
    go_round
    case rel=>exact⟨j+1,by omega,by go_num,J2⟩
    case measure=>simp [intOf];omega
  ·have K:Hid (jh6 l 0):=Or.inr ⟨rfl,fun i h1 h2=>J.out i (by omega)⟩
   clear HC
   have hj3:¬ (j:Int) < 15:=by omega
   go_wp2
   go_ret
   exact⟨0,rfl,K.out,rfl⟩
def cStr (l:List UInt8):List Value:=[txt l]
theorem jpq:EncOk 1 cStr:=⟨fun _=>rfl,fun x v hv=>by simp [cStr] at hv;rcases hv with rfl;rfl⟩
theorem tyStr:TyOk 22 9 1 16 cStr:=⟨jpq,by decide,Tryz.underlying22,infoK (z:=.string ByteArray.empty) (by kernel_rfl) rfl⟩
theorem jpw (l:List (List UInt8)):jae cStr l=l.map txt:=by
 induction l with
 | nil=>rfl
 | cons a r ih=>show txt a::jae cStr r=_;rw [ih];rfl
theorem RdK.str {w:World} {b off:Nat} {l:List (List UInt8)} (h:RdK cStr w b off l) {j:Nat} {x:List UInt8} (hs:l[j]?=some x):w.cell? ⟨b,off+j,none⟩=some (.string ⟨x.toArray⟩):=by
 have:=h.at jpq hs (i:=0) rfl
 unfold txt at this
 simpa using this
theorem jqp (l:List ByteArray):l.map Value.string=(l.map (·.data.toList)).map txt:=by
 rw [List.map_map]
 refine List.map_congr_left fun s _=>?_
 show Value.string s=Value.string ⟨s.data.toList.toArray⟩
 rw [Array.toArray_toList]
theorem jrk (s:List UInt8) (hs:s.length≤60) (w:World) (hL:LW w) :
  Calls Tryz.prog 62 #[txt s,.string ⟨#[32]⟩] w fun e w'=>∃ g n,e=.returned (.slice (some ⟨g,0,none⟩) n n)∧n=(Lib.split s [32]).length∧n≤61∧RdK cStr w' g 0 (Lib.split s [32])∧Below w.heap.size w w':=by
 have hd:(⟨s.toArray⟩:ByteArray).data.toList=s:=by simp
 have hz:(⟨s.toArray⟩:ByteArray).size=s.length:=by show s.toArray.size=_;simp
 obtain⟨m,hm⟩:=hL.max
 refine(Tryz.strings_Split ⟨s.toArray⟩ ⟨#[32]⟩ m w (by omega) hm (by decide)).mono ?_
 rintro e w' ⟨rfl,rfl⟩
 have hc:Lib.countB ⟨s.toArray⟩ ⟨#[32]⟩=Lib.count s [32]:=by unfold Lib.countB;rw [hd]
 have e1:(Lib.splitB ⟨#[32]⟩ 0 (Lib.countB ⟨s.toArray⟩ ⟨#[32]⟩) ⟨s.toArray⟩).map (·.data.toList)=Lib.split s [32]:=by
  rw [Lib.splitB_data,hc,hd]
  rfl
 have hlen:(Lib.split s [32]).length=Lib.countB ⟨s.toArray⟩ ⟨#[32]⟩+1:=by
  rw [← e1,List.length_map]
  exact Lib.splitB_all ⟨#[32]⟩ (by decide) 0 _ _ rfl
 have hle:=Lib.countB_le ⟨#[32]⟩ (by decide) _ ⟨s.toArray⟩ (Nat.le_refl _)
 refine⟨_,_,rfl,hlen.symm,by omega,fun j u hu=>?_,(Below.refl _ w).alloc (Nat.le_refl _) _⟩
 rw [Nat.zero_add,cell_of_row _ _ _ _ _ _ (heap_alloc_new w _),jqp,e1,← jpw,List.getElem?_toArray]
 exact hu
theorem jmp {w:World} {B B':Nat} {e:TypeId} {size:Nat} {v:Value} {n:Nat} {xs:List Value} (h:w.ownsRow B e size v n xs) (hb:B'≤B):w.ownsRow B' e size v n xs:=by
 refine⟨h.1,?_⟩
 rcases h.2 with h0|⟨g,cap,cur,h0,h1,h2⟩
 ·exact Or.inl h0
 ·exact Or.inr ⟨g,cap,cur,h0,Nat.le_trans hb h1,h2⟩
def gathered (l:List (List UInt8)) (k:Nat):List (List UInt8):=(l.take k).filter fun x=>!x.isEmpty
theorem jm9 {l:List (List UInt8)} {k:Nat} {x:List UInt8} (h:l[k]?=some x) (hx:x≠[]):gathered l (k+1)=gathered l k++[x]:=by
 unfold gathered
 rw [List.take_add_one,h]
 simp [hx]
theorem jos {l:List (List UInt8)} {k:Nat} (h:l[k]?=some []):gathered l (k+1)=gathered l k:=by
 unfold gathered
 rw [List.take_add_one,h]
 simp
theorem jhz (l:List (List UInt8)) (k:Nat):(gathered l k).length≤k:=Nat.le_trans (List.length_filter_le _ _) (List.length_take_le _ _)
theorem jna (l:List (List UInt8)):gathered l l.length=l.filter fun x=>!x.isEmpty:=by unfold gathered;rw [List.take_length]
theorem jqi (s:List UInt8) (hs:s.length≤60) (w:World) (hL:LW w) :
  Calls Tryz.prog 41 #[txt s] w fun e w'=>∃ v,e=.returned v∧w'.ownsRow w.heap.size 9 1 v (pieces s).length (jae cStr (pieces s))∧(pieces s).length≤61∧Below w.heap.size w w':=by
 have HS:=jrk s hs w hL
 have HP:Hid ((Lib.split s [32]).filter (fun x=>!x.isEmpty)=pieces s):=js3 s
 clear hL
 unfold txt at *
 generalize hl:Lib.split s [32]=l at *
 generalize hz:w.heap.size=z at *
 go_enter Tryz.func41,Tryz.ntmps41
 go_wp2_with fail
 refine HS.mono ?_
 rintro e w1 ⟨g,n,rfl,hn,hn61,hrd,hb⟩
 subst hn
 have O1:Hid (w1.ownsRow w1.heap.size 9 1 (.slice none 0 0) (gathered l 0).length (jae cStr (gathered l 0))∧Below w1.heap.size w1 w1):=⟨World.ownsRow_nil _ _ _ _,Below.refl _ _⟩
 have R1:Hid (RdK cStr w1 g 0 l∧Below z w w1∧z≤w1.heap.size):=⟨hrd,hb,by rw [← hz];exact hb.size⟩
 clear HS hrd hb
 generalize hz1:w1.heap.size=z1 at *
 go_wp2_with fail
 go_loopg [3,5,9] l.length (fun kx s3 s5 s9 wr=>∃ k:Nat,s9=.int .i64 k∧k≤l.length∧l.length - k≤kx∧Hid (wr.ownsRow z1 9 1 s3 (gathered l k).length (jae cStr (gathered l k))∧Below z1 w1 wr))
 case atStart=>exact⟨0,rfl,Nat.zero_le _,by omega,O1⟩
 case round =>
  clear O1
  obtain⟨k,rfl,hk,hg,I⟩:=hrel
  by_cases hkl:k < l.length
  ·obtain⟨x,hx⟩:∃ x,l[k]?=some x:=⟨l[k],List.getElem?_eq_getElem hkl⟩
   have hc:=(R1.out.1.below (by rw [hz1];exact I.out.2)).str hx
   rw [Nat.zero_add] at hc
   have hk3:(k:Int) < (l.length:Int):=by omega
   by_cases hx0:x=[]
   ·subst hx0
    have I2:Hid (wr.ownsRow z1 9 1 u3 (gathered l (k+1)).length (jae cStr (gathered l (k+1)))∧Below z1 w1 wr):=by
     rw [jos hx];exact I
    clear I
    go_wp2_with fail
    go_roundg (l.length - (k+1))
    case measure=>omega
    case rel=>exact⟨k+1,by go_num,by omega,Nat.le_refl _,I2⟩
   ·have hne:x.isEmpty=false:=by cases x with|nil=>exact absurd rfl hx0|cons a r=>rfl
    have hgl:=jhz l k
    have O5:Hid ((wr.alloc (.cells #[.string ⟨x.toArray⟩] 9)).ownsRow z1 9 1 u3 (gathered l k).length (jae cStr (gathered l k))):=I.out.1.alloc _
    have R5:Hid (RdK cStr (wr.alloc (.cells #[.string ⟨x.toArray⟩] 9)) wr.heap.size 0 [x]):=jfe (k:=1) wr _ x _ rfl
    have B5:Hid (Below z1 w1 (wr.alloc (.cells #[.string ⟨x.toArray⟩] 9))∧z1≤(wr.alloc (.cells #[.string ⟨x.toArray⟩] 9)).heap.size):=by
     have hs:z1≤wr.heap.size:=by rw [← hz1];exact I.out.2.size
     exact⟨I.out.2.alloc hs _,by simp;omega⟩
    have Q5:Hid ((gathered l k).length+1≤maxLen∧((gathered l k).length+1)*16≤140737488355328):=by
     have:maxLen=9223372036854775807:=rfl
     exact⟨by omega,by omega⟩
    have G5:Hid (gathered l (k+1)=gathered l k++[x]):=jm9 hx hx0
    clear I hx hx0
    go_wp2_with (at_builtin;refine jcp tyStr rfl _ _ rfl z1 u3 (gathered l k) [x] wr.heap.size 0 1 1 rfl rfl rfl O5.out R5.out B5.out.2 Q5.out.1 Q5.out.2 ?_;intro v' w2 hw2)
    have I2:Hid (w2.ownsRow z1 9 1 v' (gathered l (k+1)).length (jae cStr (gathered l (k+1)))∧Below z1 w1 w2):=by
     rw [G5.out];exact⟨hw2.out.1,B5.out.1.trans hw2.out.2⟩
    go_roundg (l.length - (k+1))
    case measure=>omega
    case rel=>exact⟨k+1,by go_num,by omega,Nat.le_refl _,I2⟩
  ·have hke:k=l.length:=by omega
   subst hke
   have hk3:¬ (l.length:Int) < (l.length:Int):=by omega
   have F:Hid (wr.ownsRow z 9 1 u3 (pieces s).length (jae cStr (pieces s))∧(pieces s).length≤61∧Below z w wr):=by
    have h1:=I.out.1
    have h2:=jhz l l.length
    rw [jna,HP.out] at h1 h2
    exact⟨jmp h1 R1.out.2.2,by omega,R1.out.2.1.trans (I.out.2.mono R1.out.2.2)⟩
   clear I
   go_wp2_with fail
   go_ret
   exact⟨_,rfl,F.out⟩
def jao (o:Ord):List Value:=[.int .i64 o.kd,.int .i64 o.a,.int .i64 o.b,.int .i64 o.c]
def noOrd:Ord:=⟨0,0,0,0⟩
def LOB (w:World) (g:Nat) (o:Ord):Prop:=w.heap[g]?=some (.cells (jao o).toArray 61 (0,0))
theorem LOB.new (w:World) (o:Ord):LOB (w.alloc (.cells (jao o).toArray 61)) w.heap.size o:=heap_alloc_new w _
theorem LOB.lt {w:World} {g:Nat} {o:Ord} (h:LOB w g o):g < w.heap.size:=(Array.getElem?_eq_some_iff.1 h).1
theorem LOB.later {w w':World} {B g:Nat} {o:Ord} (h:LOB w g o) (hb:Below B w w') (hB:g < B):LOB w' g o:=by unfold LOB;rw [hb.block g hB];exact h
theorem LOB.other {w:World} {g g' k:Nat} {o:Ord} (h:LOB w g o) (v:Value) (hne:g≠g'):LOB (w.setCell ⟨g',k,none⟩ v) g o:=by unfold LOB;rw [Below.heap_setCell _ _ _ _ hne];exact h
theorem LOB.frozen {w:World} {g:Nat} {o:Ord} (h:LOB w g o) (k:Nat):w.frozen? ⟨g,k,none⟩=false:=by simp [World.frozen?,show w.heap[g]?=_ from h]
theorem LOB.whole {w:World} {g:Nat} {o:Ord} (h:LOB w g o):w.rangeAt g 0 (jao o):=fun j v hv=>by
 rw [cell_of_row _ _ _ _ _ _ h,List.getElem?_toArray,Nat.zero_add]
 exact hv
theorem LOB.cells {w:World} {g:Nat} {o:Ord} (h:LOB w g o):w.cell? ⟨g,0,none⟩=some (.int .i64 o.kd)∧w.cell? ⟨g,1,none⟩=some (.int .i64 o.a)∧w.cell? ⟨g,2,none⟩=some (.int .i64 o.b)∧w.cell? ⟨g,3,none⟩=some (.int .i64 o.c):=by
 have e:∀ i u,(jao o)[i]?=some u→w.cell? ⟨g,i,none⟩=some u:=fun i u hu=>by rw [cell_of_row _ _ _ _ _ _ h,List.getElem?_toArray];exact hu
 exact⟨e 0 _ rfl,e 1 _ rfl,e 2 _ rfl,e 3 _ rfl⟩
theorem jhv (o:Ord):∀ u∈jao o,u.oneCell'=true:=by
 intro u hu
 simp [jao] at hu
 rcases hu with rfl|rfl|rfl|rfl <;> rfl
theorem jus:(Tryz.prog.info? 61).map (·.size)=some 4:=by kernel_rfl
theorem jer (o:Ord):(Tryz.prog.info? 61).map (·.size)=some (jao o).length:=jus
theorem jup:(Tryz.prog.info? 61).map (fun i=>(i.zero,i.size))=some (some (.agg (jao noOrd).toArray),4):=by kernel_rfl
theorem jn2 (w:World):(zeroValue 61).run Tryz.prog w=.ok (.agg (jao noOrd).toArray) w:=by
 have h:=jup
 cases hq:Tryz.prog.info? 61 with
 | none=>rw [hq] at h;cases h
 | some i =>
  rw [hq] at h
  simp at h
  simp [zeroValue,typeInfo,hq,h.1]
theorem jat {w:World} {ops:Array Oper} {rest:List Oper} {o:Oper} {a:Act} {Q:Exit→Act→World→Prop} (hgd:o.guard=none) (ho:o.op=.alloc 61) (d:Nat) (hd:o.dst=some d)
  (h:∀ w',Hid (LOB w' w.heap.size noOrd∧Below w.heap.size w w')→w'.heap.size=w.heap.size+1→wpList Tryz.prog ops Q rest (a.put o.dst (.pointer (some ⟨w.heap.size,0,none⟩))) w'):wpList Tryz.prog ops Q (o::rest) a w:=by
 refine wpList_plain hgd fun K hK=>?_
 have hz:=jn2 w
 unfold Oper.wp execOp
 simp only [ho]
 simp [Instr.alloc,hz,newVar,newRow,Result.andThen,Value.cells]
 exact hK _ _ (h _ ⟨LOB.new w noOrd,(Below.refl _ w).alloc (Nat.le_refl _) _⟩ (by simp))
theorem jc6 {w:World} {ops:Array Oper} {rest:List Oper} {o:Oper} {a:Act} {Q:Exit→Act→World→Prop} (hgd:o.guard=none) (x:Operand) (ho:o.op=.load 61 x) (g:Nat) (p:Ord)
  (hx:a.eval x=.pointer (some ⟨g,0,none⟩)) (hA:LOB w g p) (h:wpList Tryz.prog ops Q rest (a.put o.dst (.agg (jao p).toArray)) w):wpList Tryz.prog ops Q (o::rest) a w :=
 wpList_load_mid hgd 61 x ho g 0 hx (jao p) _ hA.whole Tryz.underlying61 rfl (jer p) h
theorem jak {w:World} {ops:Array Oper} {rest:List Oper} {o:Oper} {a:Act} {Q:Exit→Act→World→Prop} (hgd:o.guard=none) (x y:Operand) (ho:o.op=.store 61 x y) (g:Nat) (old p:Ord)
  (hx:a.eval x=.pointer (some ⟨g,0,none⟩)) (hy:a.eval y=.agg (jao p).toArray) (hA:LOB w g old)
  (h:∀ w',Hid (LOB w' g p∧(∀ k,k≠g→w'.heap[k]?=w.heap[k]?)∧∀ B,B≤g→Below B w w')→w'.heap.size=w.heap.size→wpList Tryz.prog ops Q rest (a.put o.dst undef) w'):wpList Tryz.prog ops Q (o::rest) a w:=by
 refine wpList_plain hgd fun K hK=>?_
 have hst:=run_storeVar_row (P:=Tryz.prog) w g _ 61 (jao old).toArray (jao p).toArray hA (by rw [jer p];simp) (by simp [jao]) (all_oneCell_toArray (jhv p))
 unfold Oper.wp execOp
 simp only [ho,hx,hy,Instr.storeAt,Instr.sureAddr,Sem.run_bind,Sem.run_pure,Result.andThen_ok,hst]
 refine hK _ _ (h _ ⟨setRow_heap w g _ _ _ _ hA,fun k hk=>setRow_other w g k _ (by omega),fun B hB=>below_setRow (Below.refl B w) hB _⟩ (by simp [World.setRow]))
theorem jjl {w:World} {ops:Array Oper} {o:Oper} {a:Act} {K:Act→World→Prop} {Q:Exit→Act→World→Prop} {E:Prop} (hgd:o.guard=none) (x y:Operand) (ho:o.op=.store 61 x y) (g:Nat) (old p:Ord)
  (hx:a.eval x=.pointer (some ⟨g,0,none⟩)) (hy:a.eval y=.agg (jao p).toArray) (hA:LOB w g old)
  (h:∀ w',Hid (LOB w' g p∧(∀ k,k≠g→w'.heap[k]?=w.heap[k]?)∧∀ B,B≤g→Below B w w')→w'.heap.size=w.heap.size→K (a.put o.dst undef) w'):if Region.wanted o (yielded ops a.tmps)=true then Oper.wp Tryz.prog o a w K Q else E:=by
 have hw:Region.wanted o (yielded ops a.tmps)=true:=by simp [Region.wanted,hgd]
 rw [if_pos hw]
 have hst:=run_storeVar_row (P:=Tryz.prog) w g _ 61 (jao old).toArray (jao p).toArray hA (by rw [jer p];simp) (by simp [jao]) (all_oneCell_toArray (jhv p))
 unfold Oper.wp execOp
 simp only [ho,hx,hy,Instr.storeAt,Instr.sureAddr,Sem.run_bind,Sem.run_pure,Result.andThen_ok,hst]
 exact h _ ⟨setRow_heap w g _ _ _ _ hA,fun k hk=>setRow_other w g k _ (by omega),fun B hB=>below_setRow (Below.refl B w) hB _⟩ (by simp [World.setRow])
theorem jaw {fn:Func} {q u:Tmp} (h:fn.results=#[.cell q 61,.tmp u]) (tmps:Array Value) (w:World) (g:Nat) (p:Ord) (hp:tmps.getD q undef=.pointer (some ⟨g,0,none⟩)) (hA:LOB w g p) :
  (results fn tmps).run Tryz.prog w=.ok (.tuple #[.agg (jao p).toArray,tmps.getD u undef]) w:=by
 rw [results_cell_tmp h,hp]
 have hl:=run_loadVar_mid (P:=Tryz.prog) w g 0 61 (jao p) _ hA.whole Tryz.underlying61 rfl (jer p)
 simp [asAddr,hl]
def N3 (w:World) (g:Nat) (x y z:Int):Prop:=w.heap[g]?=some (.cells #[.int .i64 x,.int .i64 y,.int .i64 z] 90 (0,0))
theorem N3.lt {w:World} {g:Nat} {x y z:Int} (h:N3 w g x y z):g < w.heap.size:=(Array.getElem?_eq_some_iff.1 h).1
theorem N3.later {w w':World} {B g:Nat} {x y z:Int} (h:N3 w g x y z) (hb:Below B w w') (hB:g < B):N3 w' g x y z:=by unfold N3;rw [hb.block g hB];exact h
theorem N3.frozen {w:World} {g:Nat} {x y z:Int} (h:N3 w g x y z) (k:Nat):w.frozen? ⟨g,k,none⟩=false:=by simp [World.frozen?,show w.heap[g]?=_ from h]
theorem N3.cells {w:World} {g:Nat} {x y z:Int} (h:N3 w g x y z):w.cell? ⟨g,0,none⟩=some (.int .i64 x)∧w.cell? ⟨g,1,none⟩=some (.int .i64 y)∧w.cell? ⟨g,2,none⟩=some (.int .i64 z):=by
 refine⟨?_,?_,?_⟩ <;> rw [cell_of_row _ _ _ _ _ _ h] <;> rfl
theorem N3.set {w:World} {g:Nat} {x y z:Int} (h:N3 w g x y z) (v:Int) :
  N3 (w.setCell ⟨g,0,none⟩ (.int .i64 v)) g v y z∧N3 (w.setCell ⟨g,1,none⟩ (.int .i64 v)) g x v z∧N3 (w.setCell ⟨g,2,none⟩ (.int .i64 v)) g x y v:=by
 refine⟨?_,?_,?_⟩ <;> (unfold N3;rw [setCell_eq_setRow w g _ _ _ _ _ h,setRow_heap w g _ _ _ _ h];rfl)
def DigIs (ds:List (List UInt8)) (j:Nat) (x y z:Int):Prop:=j≤3∧ds.take j=(([x,y,z]:List Int).take j).map Lib.itoa∧(j≤0→x=0)∧(j≤1→y=0)∧(j≤2→z=0)
theorem jps (ds:List (List UInt8)):DigIs ds 0 0 0 0:=⟨by omega,rfl,fun _=>rfl,fun _=>rfl,fun _=>rfl⟩
theorem js2 {ds:List (List UInt8)} {j:Nat} {d:List UInt8} (h:ds[j]?=some d):ds.take (j+1)=ds.take j++[d]:=by
 rw [List.take_add_one,h];rfl
theorem jpt {ds:List (List UInt8)} {j:Nat} {x y z n:Int} {d:List UInt8} (h:DigIs ds j x y z) (hj:j < 3) (hd:ds[j]?=some d) (hn:Lib.itoa n=d) :
  (j=0→DigIs ds 1 n y z)∧(j=1→DigIs ds 2 x n z)∧(j=2→DigIs ds 3 x y n):=by
 obtain⟨_,h1,h2,h3,h4⟩:=h
 have ht:=js2 hd
 refine⟨?_,?_,?_⟩ <;> rintro rfl
 ·refine⟨by omega,?_,fun h=>by omega,fun _=>h3 (by omega),fun _=>h4 (by omega)⟩
  rw [ht,h1,← hn];rfl
 ·refine⟨by omega,?_,fun h=>by omega,fun h=>by omega,fun _=>h4 (by omega)⟩
  rw [ht,h1,← hn];rfl
 ·refine⟨by omega,?_,fun h=>by omega,fun h=>by omega,fun h=>by omega⟩
  rw [ht,h1,← hn];rfl
theorem jez {x:List UInt8} {ds:List (List UInt8)} {o:Ord} (h:Tells (x::ds) o):GoodO o∧x=word o.kd.toNat∧ds=((numsO o).take (cntO o.kd.toNat)).map Lib.itoa∧ds.length=cntO o.kd.toNat:=by
 obtain⟨g,e⟩:=h
 unfold toldL at e
 injection e with e1 e2
 refine⟨g,e1,e2,?_⟩
 rw [e2,List.length_map,List.length_take]
 have:=jhp o.kd.toNat
 show min _ 3=_
 omega
theorem jny {x:List UInt8} {ds:List (List UInt8)} {o:Ord} (h:Tells (x::ds) o) {j:Nat} {d:List UInt8} (hd:ds[j]?=some d):∃ m:Int,-1073741824≤m∧m≤1073741824∧Lib.itoa m=d:=by
 obtain⟨g,_,e,_⟩:=jez h
 rw [e] at hd
 obtain⟨m,hm,rfl⟩:=List.mem_map.1 (List.mem_of_getElem? hd)
 have:=g.small m (List.mem_of_mem_take hm)
 exact⟨m,this.1,this.2,rfl⟩
theorem jtz {ds:List (List UInt8)} {k:Nat} {x y z:Int} (hk1:1≤k) (hk:k < 15) (hl:ds.length=cntO k) (h:DigIs ds ds.length x y z) :
  (GoodO ⟨k,x,y,z⟩→Tells (word k::ds) ⟨k,x,y,z⟩)∧(∀ o,Tells (word k::ds) o→GoodO ⟨k,x,y,z⟩):=by
 obtain⟨h0,h1,h2,h3,h4⟩:=h
 rw [List.take_length,hl] at h1
 constructor
 ·intro g
  refine⟨g,?_⟩
  show word k::ds=word ((k:Int)).toNat::_
  rw [Int.toNat_natCast,h1]
  rfl
 ·intro o ho
  obtain⟨g,e1,e2,_⟩:=jez ho
  have hkd:=jid hk g.kind.2.1 e1
  rw [h1,← hkd] at e2
  have e3:=jfu _ _ e2
  have r:=g.rest
  rw [← hkd] at r
  have:o=⟨k,x,y,z⟩:=by
   have hc:=jhp k
   rw [hl] at h2 h3 h4
   generalize cntO k=c at *
   have:o.a=x∧o.b=y∧o.c=z:=by
    unfold numsO at e3
    match c,hc with
    | 0,_=>exact⟨by rw [r.1 (by omega),h2 (by omega)],by rw [r.2.1 (by omega),h3 (by omega)],by rw [r.2.2 (by omega),h4 (by omega)]⟩
    | 1,_=>simp at e3;exact⟨e3.symm,by rw [r.2.1 (by omega),h3 (by omega)],by rw [r.2.2 (by omega),h4 (by omega)]⟩
    | 2,_=>simp at e3;exact⟨e3.1.symm,e3.2.symm,by rw [r.2.2 (by omega),h4 (by omega)]⟩
    | 3,_=>simp at e3;exact⟨e3.1.symm,e3.2.1.symm,e3.2.2.symm⟩
   have hkk:=g.kind.2.2
   cases o
   simp only at this hkk hkd ⊢
   obtain⟨rfl,rfl,rfl⟩:=this
   rw [← hkk,← hkd]
  rw [← this];exact g
def jfx (l:List (List UInt8)) (o:Ord) (ok:Bool):Prop:=(ok=true∧Tells l o)∨(ok=false∧∀ o',¬ Tells l o')
theorem jsx:jfx [] noOrd false:=Or.inr ⟨rfl,fun o h=>by have:=h.2;unfold toldL at this;cases this⟩
theorem jre {x:List UInt8} {ds:List (List UInt8)} (h:jh6 x 0):jfx (x::ds) noOrd false:=Or.inr ⟨rfl,fun o ho=>by
 obtain⟨g,e,_⟩:=jez ho
 rcases h with ⟨h,_⟩|⟨_,h⟩
 ·omega
 ·exact h _ g.kind.1 g.kind.2.1 e.symm⟩
theorem jp6 {x:List UInt8} {ds:List (List UInt8)} {k:Nat} (h:jh6 x k) (hk:k≠0) (hl:ds.length≠cntO k):jfx (x::ds) noOrd false:=Or.inr ⟨rfl,fun o ho=>by
 obtain⟨g,e,_,h2⟩:=jez ho
 rcases h with ⟨_,h1,h⟩|⟨h,_⟩
 ·have:=jid h1 g.kind.2.1 (h.trans e)
  rw [this] at hl
  exact hl h2
 ·exact hk h⟩
theorem jj1 {x:List UInt8} {ds:List (List UInt8)} {j:Nat} {d:List UInt8} {n:Int} (hd:ds[j]?=some d) (hn:NumIs d n false):jfx (x::ds) noOrd false:=Or.inr ⟨rfl,fun o ho=>by
 obtain⟨m,m0,m1,e⟩:=jny ho hd
 exact hn.2 rfl m m0 m1 e⟩
theorem jl1 {x:List UInt8} {ds:List (List UInt8)} {k:Nat} {a b c:Int} (h:jh6 x k) (hk:k≠0) (hl:ds.length=cntO k) (hd:DigIs ds ds.length a b c):jfx (x::ds) ⟨k,a,b,c⟩ (jcm ⟨k,a,b,c⟩):=by
 rcases h with ⟨h0,h1,rfl⟩|⟨h,_⟩
 ·have:=jtz h0 h1 hl hd
  by_cases g:GoodO ⟨k,a,b,c⟩
  ·exact Or.inl ⟨jf3.2 g,this.1 g⟩
  ·exact Or.inr ⟨jct g,fun o ho=>g (this.2 o ho)⟩
 ·exact absurd h hk
def TMem (w:World) (z:Nat) (ds:List (List UInt8)) (j:Nat) (W:World):Prop:=∃ a b c,DigIs ds j a b c∧N3 W (z+1) a b c∧LOB W z noOrd∧LW W∧Below z w W
theorem TMem.later {w W W':World} {z:Nat} {ds:List (List UInt8)} {j:Nat} (h:TMem w z ds j W) (hb:Below W.heap.size W W'):TMem w z ds j W':=by
 obtain⟨a,b,c,h1,h2,h3,h4,h5⟩:=h
 exact⟨a,b,c,h1,h2.later hb h2.lt,h3.later hb h3.lt,h4.later hb,h5.trans (hb.mono (by have:=h3.lt;omega))⟩
theorem TMem.cell {w W:World} {z:Nat} {ds:List (List UInt8)} {j:Nat} (h:TMem w z ds j W) (hj:j < 3):(∃ v,W.cell? ⟨z+1,j,none⟩=some (.int .i64 v))∧W.frozen? ⟨z+1,j,none⟩=false:=by
 obtain⟨a,b,c,_,h2,_⟩:=h
 refine⟨?_,h2.frozen j⟩
 obtain rfl|rfl|rfl:j=0∨j=1∨j=2:=by omega
 ·exact⟨_,h2.cells.1⟩
 ·exact⟨_,h2.cells.2.1⟩
 ·exact⟨_,h2.cells.2.2⟩
theorem LW.set {w:World} (h:LW w) {g k:Nat} (v:Value) (hg:∀ u∈usedG,u < g):LW (w.setCell ⟨g,k,none⟩ v):=h.same fun u hu=>Below.heap_setCell _ _ _ _ (by have:=hg u hu;show u≠g;omega)
theorem TMem.set {w W:World} {z:Nat} {ds:List (List UInt8)} {j:Nat} {n:Int} {d:List UInt8} (h:TMem w z ds j W) (hj:j < 3) (hd:ds[j]?=some d) (hn:Lib.itoa n=d) (hz:∀ u∈usedG,u < z):TMem w z ds (j+1) (W.setCell ⟨z+1,j,none⟩ (.int .i64 n)):=by
 obtain⟨a,b,c,h1,h2,h3,h4,h5⟩:=h
 have s:=jpt h1 hj hd hn
 have hL:=h4.set (g:=z+1) (k:=j) (.int .i64 n) fun u hu=>by have:=hz u hu;omega
 have hO:=h3.other (g':=z+1) (k:=j) (.int .i64 n) (by omega)
 have hB:=h5.setCell (p:=⟨z+1,j,none⟩) (by show z≤z+1;omega) (.int .i64 n)
 obtain rfl|rfl|rfl:j=0∨j=1∨j=2:=by omega
 ·exact⟨n,b,c,s.1 rfl,(h2.set n).1,hO,hL,hB⟩
 ·exact⟨a,n,c,s.2.1 rfl,(h2.set n).2.1,hO,hL,hB⟩
 ·exact⟨a,b,n,s.2.2 rfl,(h2.set n).2.2,hO,hL,hB⟩
def jub (l:List (List UInt8)) (w:World) (e:Ending) (w':World):Prop:=∃ o ok,e=.returned (.tuple #[.agg (jao o).toArray,.bool ok])∧jfx l o ok∧Below w.heap.size w w'
theorem jsy (v:Value) (l:List (List UInt8)) (w:World) (hL:LW w) (hv:SlK cStr w v l) (hlen:l.length≤61) (hp:∀ x∈l,x.length≤60) :
  Calls Tryz.prog 40 #[v] w fun e w'=>jub l w e w':=by
 cases l with
 | nil =>
  obtain⟨a,cap,rfl,hcap,_⟩:=hv
  clear hL hp
  go_enter Tryz.func40,Tryz.ntmps40
  go_wp2_with (first|(refine jat rfl rfl 2 rfl ?_;intro w1 h1 s1)|(refine jak rfl _ _ rfl w.heap.size noOrd noOrd rfl rfl h1.out.1 ?_;intro w2 h2 s2))
  refine bodyPost_ret (v:=.tuple #[.agg (jao noOrd).toArray,.bool false]) (jaw Tryz.results40 _ _ w.heap.size noOrd rfl h2.out.1) rfl ?_
  exact⟨noOrd,false,rfl,jsx,h1.out.2.trans (h2.out.2.2 _ (Nat.le_refl _))⟩
 | cons x ds =>
  obtain⟨a,cap,rfl,hcap,hr⟩:=hv
  obtain⟨b,off,rfl,hrd⟩:∃ b off,a=some ⟨b,off,none⟩∧RdK cStr w b off (x::ds):=by
   rcases hr with h|h
   ·cases h
   ·exact h
  have HL:Hid (LW w):=hL
  have HR:Hid (RdK cStr w b off (x::ds)):=hrd
  have HX:Hid (∀ y∈ds,y.length≤60):=fun y hy=>hp y (List.mem_cons_of_mem _ hy)
  have HK:=fun W h=>jqr x W h
  unfold txt at HK
  simp only [List.length_cons] at hcap hlen
  have hc1:(0:Int) < (ds.length:Int)+1:=by omega
  clear hr hL hp hrd
  have hz0:((ds.length:Int)+1 == 0)=false:=beq_eq_false_iff_ne.2 (by omega)
  go_enter Tryz.func40,Tryz.ntmps40
  go_upto_region 1 with (refine jat rfl rfl 2 rfl ?_;intro w1 h1 s1)
  have L1:Hid (LW w1):=HL.out.later h1.out.2
  have hc0:w1.cell? ⟨b,off,none⟩=some (.string ⟨x.toArray⟩):=(HR.out.below h1.out.2).str (j:=0) rfl
  go_wp2_with fail
  refine(HK _ L1.out).mono ?_
  rintro e w' ⟨k,rfl,hk,hw⟩
  subst hw
  have KI:Hid (jh6 x k):=hk
  clear HK hk hc0
  go_upto_region 5 with fail
  generalize hga:(if cap=1 then some (⟨b,off,none⟩:Addr) else some ⟨b,off+1,none⟩)=ga at *
  have GA:Hid (ds≠[]→ga=some ⟨b,off+1,none⟩):=fun h=>by
   rw [← hga,if_neg]
   intro e
   have:0 < ds.length:=List.length_pos_iff.2 h
   omega
  clear hga
  by_cases k0:k=0
  ·subst k0
   have T:Hid (jfx (x::ds) noOrd false):=jre KI.out
   clear KI
   go_wp2_with (refine jak rfl _ _ rfl w.heap.size noOrd noOrd rfl rfl h1.out.1 ?_;intro w2 h2 s2)
   refine bodyPost_ret (v:=.tuple #[.agg (jao noOrd).toArray,.bool false]) (jaw Tryz.results40 _ _ w.heap.size noOrd rfl h2.out.1) rfl ?_
   exact⟨noOrd,false,rfl,T.out,h1.out.2.trans (h2.out.2.2 _ (Nat.le_refl _))⟩
  have hk15:k < 15:=by rcases KI.out with h|h <;> omega
  have hk3:(k:Int) < 15:=by omega
  have hk4:((k:Int) == 0)=false:=beq_eq_false_iff_ne.2 (by omega)
  have cc:=L1.out.countC k hk15
  have hcn:=jhp k
  by_cases hl:ds.length=cntO k
  case neg =>
   have T:Hid (jfx (x::ds) noOrd false):=jp6 KI.out k0 hl
   have hb:((ds.length:Int) != (cntO k:Nat))=true:=by simp;omega
   clear KI
   go_wp2_with (refine jak rfl _ _ rfl w.heap.size noOrd noOrd rfl rfl h1.out.1 ?_;intro w2 h2 s2)
   refine bodyPost_ret (v:=.tuple #[.agg (jao noOrd).toArray,.bool false]) (jaw Tryz.results40 _ _ w.heap.size noOrd rfl h2.out.1) rfl ?_
   exact⟨noOrd,false,rfl,T.out,h1.out.2.trans (h2.out.2.2 _ (Nat.le_refl _))⟩
  have HLN:Hid (ds.length=cntO k):=hl
  have hb:((ds.length:Int) != (cntO k:Nat))=false:=by simp;omega
  have hd3:ds.length≤3:=by omega
  clear hl
  have hbn:Below w'.heap.size w' (w'.alloc (.cells #[.int .i64 0,.int .i64 0,.int .i64 0] 90)):=(Below.refl _ w').alloc (Nat.le_refl _) _
  have M0:Hid (TMem w w.heap.size ds 0 (w'.alloc (.cells #[.int .i64 0,.int .i64 0,.int .i64 0] 90))):=by
   refine⟨0,0,0,jps ds,?_,h1.out.1.later hbn h1.out.1.lt,L1.out.later hbn,h1.out.2.trans (hbn.mono (by omega))⟩
   rw [← s1]
   exact heap_alloc_new w' _
  have HZ:Hid (∀ u∈usedG,u < w.heap.size):=HL.out.lt
  have HN:=fun d hd W h=>jqm d hd W h
  unfold txt at HN
  clear hbn HL L1
  go_wp2_with fail
  clear cc hb
  generalize (w'.alloc (.cells #[.int .i64 0,.int .i64 0,.int .i64 0] 90))=W0 at *
  generalize hz:w.heap.size=z at *
  go_loopg [7,8,9,10,35] ds.length (fun kx s7 s8 s9 s10 s35 wr=>∃ j:Nat,s35=.int .i64 j∧j≤ds.length∧ds.length - j≤kx∧Hid (TMem w z ds j wr))
  case atStart=>exact⟨0,rfl,Nat.zero_le _,by omega,M0⟩
  case round =>
   clear M0
   obtain⟨j,rfl,hj,hg,I⟩:=hrel
   by_cases hjl:j < ds.length
   ·obtain⟨d,hd⟩:∃ d,ds[j]?=some d:=⟨ds[j],List.getElem?_eq_getElem hjl⟩
    have hga:=GA.out (by intro e;rw [e] at hjl;simp at hjl)
    have hc:wr.cell? ⟨b,off+1+j,none⟩=some (.string ⟨d.toArray⟩):=by
     obtain⟨_,_,_,_,_,_,_,h5⟩:=I.out
     have:=(HR.out.below (by rw [hz];exact h5)).str (j:=j+1) hd
     rw [show off+1+j=off+(j+1) by omega];exact this
    have hj3:(j:Int) < (ds.length:Int):=by omega
    have hj4:(j:Int) < 3:=by omega
    have HD:Hid (ds[j]?=some d):=hd
    have hd60:d.length≤60:=HX.out d (List.mem_of_getElem? hd)
    have LW1:Hid (LW wr):=by obtain⟨_,_,_,_,_,_,h4,_⟩:=I.out;exact h4
    clear hd
    subst hga
    go_wp2_with fail
    refine(HN d hd60 _ LW1.out).mono ?_
    rintro e w2 ⟨n,ok,rfl,hn,hb2⟩
    have I2:Hid (TMem w z ds j w2):=I.out.later hb2
    have NI:Hid (NumIs d n ok):=hn
    clear hn hb2 LW1 I hc
    cases ok with
    | false =>
     have T:Hid (jfx (x::ds) noOrd false):=jj1 HD.out NI.out
     obtain⟨_,_,_,_,_,hO,_,hB⟩:=I2.out
     have O2:Hid (LOB w2 z noOrd∧Below z w w2):=⟨hO,hB⟩
     clear NI HD hO hB I2
     go_wp2_with (refine jak rfl _ _ rfl z noOrd noOrd rfl rfl O2.out.1 ?_;intro w3 h3 s3)
     refine bodyPost_ret (v:=.tuple #[.agg (jao noOrd).toArray,.bool false]) (jaw Tryz.results40 _ _ z noOrd rfl h3.out.1) rfl ?_
     exact⟨noOrd,false,rfl,T.out,by rw [hz];exact O2.out.2.trans (h3.out.2.2 _ (Nat.le_refl _))⟩
    | true =>
     obtain⟨⟨v,hv⟩,hfz⟩:=I2.out.cell (by omega)
     have I3:Hid (TMem w z ds (j+1) (w2.setCell ⟨z+1,j,none⟩ (.int .i64 n))):=I2.out.set (by omega) HD.out (NI.out.1 rfl).1 HZ.out
     clear NI HD I2
     go_wp2_with fail
     go_roundg (ds.length - (j+1))
     case measure=>omega
     case rel=>exact⟨j+1,by go_num,by omega,Nat.le_refl _,I3⟩
   ·have hje:j=ds.length:=by omega
    subst hje
    have hj3:¬ (ds.length:Int) < (ds.length:Int):=by omega
    obtain⟨na,nb,nc,DG,hN,hO,hW,hB⟩:=I.out
    obtain⟨n0,n1,n2⟩:=hN.cells
    have T:Hid (jfx (x::ds) ⟨k,na,nb,nc⟩ (jcm ⟨k,na,nb,nc⟩)):=jl1 KI.out k0 HLN.out DG
    clear I HN DG KI
    have hba:Below wr.heap.size wr (wr.alloc (.cells (jao ⟨k,na,nb,nc⟩).toArray 61)):=(Below.refl _ wr).alloc (Nat.le_refl _) _
    have E1:Hid (LOB (wr.alloc (.cells (jao ⟨k,na,nb,nc⟩).toArray 61)).drew wr.heap.size ⟨k,na,nb,nc⟩∧LOB (wr.alloc (.cells (jao ⟨k,na,nb,nc⟩).toArray 61)).drew z noOrd∧LW (wr.alloc (.cells (jao ⟨k,na,nb,nc⟩).toArray 61)).drew∧Below z w (wr.alloc (.cells (jao ⟨k,na,nb,nc⟩).toArray 61)).drew∧z < wr.heap.size):=by
     have hd:Below (wr.alloc (.cells (jao ⟨k,na,nb,nc⟩).toArray 61)).heap.size (wr.alloc (.cells (jao ⟨k,na,nb,nc⟩).toArray 61)) (wr.alloc (.cells (jao ⟨k,na,nb,nc⟩).toArray 61)).drew:=(Below.refl _ _).drew
     have h1:=LOB.new wr ⟨k,na,nb,nc⟩
     have h2:=hO.later hba hO.lt
     exact⟨h1.later hd h1.lt,h2.later hd h2.lt,(hW.later hba).later hd,((hB.trans (hba.mono (by have:=hO.lt;omega)))).drew,hO.lt⟩
    have HG:=fun W h=>jm0 ⟨k,na,nb,nc⟩ W h
    clear hba hN hO hW hB
    go_upto_region 17 with fail
    clear n0 n1 n2
    generalize hW1:(wr.alloc (.cells (jao ⟨k,na,nb,nc⟩).toArray 61))=W1 at *
    have hW2:wr.alloc (.cells #[.int .i64 k,.int .i64 na,.int .i64 nb,.int .i64 nc] 61)=W1:=hW1
    rw [hW2]
    generalize hgo:wr.heap.size=go at *
    clear hW1 hW2
    refine wp_region_held_drew (S:=fun W=>Hid (LOB W go ⟨k,na,nb,nc⟩∧LW W∧Below z w W∧z < go)) (by kernel_rfl) ⟨E1.out.1,E1.out.2.2.1,E1.out.2.2.2⟩ (fun hHeld=>?_)
    refine jjT 0 ⟨some 60,.load 61 (.tmp 11),61,"line.go:122",#[],none⟩ (.agg (jao ⟨k,na,nb,nc⟩).toArray) rfl (by kernel_rfl) (fun _ _ _ h=>h) (yieldsIf_load_mid (by rfl) 61 (.tmp 11) rfl go 0 rfl (jao ⟨k,na,nb,nc⟩) _ (fun W hW=>hW.out.1.whole) Tryz.underlying61 rfl (jer _)) hHeld ?_
    simp only [Act.put,jjA,jjB,jjC]
    refine jjT 1 ⟨some 61,.load 61 (.tmp 11),61,"line.go:122",#[],none⟩ (.agg (jao ⟨k,na,nb,nc⟩).toArray) rfl (by kernel_rfl) (fun _ _ _ h=>h) (yieldsIf_load_mid (by rfl) 61 (.tmp 11) rfl go 0 rfl (jao ⟨k,na,nb,nc⟩) _ (fun W hW=>hW.out.1.whole) Tryz.underlying61 rfl (jer _)) hHeld ?_
    simp only [Act.put,jjA,jjB,jjC]
    refine jjR 2 (by kernel_rfl) rfl fun K hK=>?_
    go_simp
    refine(HG _ hHeld.out.2.1).mono ?_
    rintro e w2 ⟨rfl,hb2⟩
    have E2:Hid (LOB w2 go ⟨k,na,nb,nc⟩∧LW w2∧Below z w w2∧z < go):=⟨hHeld.out.1.later hb2 hHeld.out.1.lt,hHeld.out.2.1.later hb2,hHeld.out.2.2.1.trans (hb2.mono (by have:=hHeld.out.1.lt;have:=hHeld.out.2.2.2;omega)),hHeld.out.2.2.2⟩
    have Z2:Hid (LOB w2 z noOrd):=E1.out.2.1.later hb2 E1.out.2.1.lt
    clear hb2 HG
    go_wp2_with fail
    refine hK.out _ _ E2 (fun hHeld=>?_)
    clear hK K
    refine jjR 3 (by kernel_rfl) rfl fun K hK=>?_
    refine jjl rfl (.tmp 2) (.tmp 60) rfl z noOrd ⟨k,na,nb,nc⟩ rfl rfl Z2.out ?_
    intro w3 h3 s3
    have E3:Hid (LOB w3 go ⟨k,na,nb,nc⟩∧LW w3∧Below z w w3∧z < go):=⟨(h3.out.2.1 go (by have:=E2.out.2.2.2;omega)).trans E2.out.1,E2.out.2.1.same fun u hu=>h3.out.2.1 u (by have:=HZ.out u hu;omega),E2.out.2.2.1.trans (h3.out.2.2 _ (Nat.le_refl _)),E2.out.2.2.2⟩
    refine hK.out _ _ E3 (fun hHeld=>?_)
    clear hK K
    refine jjT 4 ⟨some 3,.assign (.tmp 62),4,"line.go:122",#[⟨2,.data⟩,⟨3,.chain⟩,⟨0,.phase⟩,⟨1,.phase⟩,⟨2,.phase⟩,⟨3,.phase⟩],none⟩ (.bool (jcm ⟨k,na,nb,nc⟩)) rfl (by kernel_rfl) (fun _ _ _ h=>h) (Or.inl ⟨by rfl,by intro w hSw;go_simp⟩) hHeld ?_
    simp only [Act.put,jjA,jjB,jjC]
    refine wpAnyH_done (by kernel_rfl) ?_ _
    clear hHeld
    go_wp2_with fail
    refine bodyPost_ret (v:=.tuple #[.agg (jao ⟨k,na,nb,nc⟩).toArray,.bool (jcm ⟨k,na,nb,nc⟩)]) (jaw Tryz.results40 _ _ z ⟨k,na,nb,nc⟩ rfl h3.out.1) rfl ?_
    exact⟨_,_,rfl,T.out,by rw [hz];exact E3.out.2.2.1⟩
theorem je6 {α:Type} {t:TypeId} {k B:Nat} {c:α→List Value} {w:World} {v:Value} {l:List α} (h:w.ownsRow B t k v l.length (jae c l)):SlK c w v l:=by
 by_cases hv:v=.slice none 0 0
 ·subst hv
  rcases h.2 with ⟨_,h0⟩|⟨g,cap,cur,h0,_⟩
  ·have:l=[]:=List.length_eq_zero_iff.1 h0
   subst this
   exact SlK.nil w
  ·cases h0
 ·obtain⟨g,cap,rfl,ho⟩:=OwnK.ofRow h hv
  exact ho.sl
theorem jd2:∀ (s acc:List UInt8),∀ x∈jc9 acc s,x.length≤acc.length+s.length
 | [],acc,x,hx=>by
  rw [jc9] at hx
  split at hx
  ·cases hx
  ·rw [List.mem_singleton.1 hx];simp
 | c::r,acc,x,hx=>by
  rw [jc9] at hx
  simp only [List.length_cons]
  split at hx
  ·split at hx
   ·have:=jd2 r [] x hx;simp at this;omega
   ·rcases List.mem_cons.1 hx with rfl|hx
    ·omega
    ·have:=jd2 r [] x hx;simp at this;omega
  ·have:=jd2 r _ x hx;simp at this;omega
def jnr (s:List UInt8) (w:World) (e:Ending) (w':World):Prop:=∃ o er,e=.returned (.tuple #[.agg (jao o).toArray,.int .i64 er])∧((er=0∧jay s (some o))∨(er=1∧o=noOrd∧jay s none))∧Below w.heap.size w w'
theorem jrq (s:List UInt8) (hs:s.length≤9223372036854775807) (w:World) (hL:LW w) :
  Calls Tryz.prog 23 #[txt s] w fun e w'=>jnr s w e w':=by
 have HL:Hid (LW w):=hL
 clear hL
 by_cases hlen:60 < s.length
 ·have P:Hid (jay s none):=fun o h=>by omega
  have h3:(60:Int) < (s.length:Int):=by omega
  unfold txt
  go_enter Tryz.func23,Tryz.ntmps23
  go_wp2_with (first|(refine jat rfl rfl 2 rfl ?_;intro w1 h1 s1)|(refine jak rfl _ _ rfl w.heap.size noOrd noOrd rfl rfl h1.out.1 ?_;intro w2 h2 s2))
  refine bodyPost_ret (v:=.tuple #[.agg (jao noOrd).toArray,.int .i64 1]) (jaw Tryz.results23 _ _ w.heap.size noOrd rfl h2.out.1) rfl ?_
  exact⟨noOrd,1,rfl,Or.inr ⟨rfl,rfl,P.out⟩,h1.out.2.trans (h2.out.2.2 _ (Nat.le_refl _))⟩
 have h3:¬ (60:Int) < (s.length:Int):=by omega
 have HP:=fun W h=>jqi s (by omega) W h
 have HT:=fun v W h1 h2 h3=>jsy v (pieces s) W h1 h2 h3 (fun x hx=>by have:=jd2 s [] x hx;simp at this;omega)
 have HS60:Hid (s.length≤60):=by show s.length≤60;omega
 unfold txt at *
 generalize hps:pieces s=ps at *
 go_enter Tryz.func23,Tryz.ntmps23
 go_upto_region 1 with (refine jat rfl rfl 2 rfl ?_;intro w1 h1 s1)
 go_wp2_with fail
 refine(HP _ (HL.out.later h1.out.2)).mono ?_
 rintro e w2 ⟨v,rfl,ho,hl61,hb2⟩
 have B2:Hid (LOB w2 w.heap.size noOrd∧Below w.heap.size w w2∧LW w2∧SlK cStr w2 v ps∧w.heap.size < w2.heap.size):=⟨h1.out.1.later hb2 h1.out.1.lt,h1.out.2.trans (hb2.mono (by omega)),(HL.out.later h1.out.2).later hb2,je6 ho,by have:=hb2.size;omega⟩
 clear ho hb2 HP h1 s1 HL
 go_wp2_with fail
 refine(HT v _ B2.out.2.2.1 B2.out.2.2.2.1 hl61).mono ?_
 rintro e w3 ⟨o,ok,rfl,ht,hb3⟩
 have B3:Hid (LOB w3 w.heap.size noOrd∧Below w.heap.size w w3):=⟨B2.out.1.later hb3 B2.out.1.lt,B2.out.2.1.trans (hb3.mono (by have:=B2.out.2.2.2.2;omega))⟩
 have P3:Hid ((ok=true→jay s (some o))∧(ok=false→jay s none)):=by
  rcases ht with ⟨rfl,h⟩|⟨rfl,h⟩
  ·exact⟨fun _=>⟨HS60.out,by rw [hps];exact h⟩,fun h=>by cases h⟩
  ·exact⟨fun h=>(by cases h),fun _ o' _ ho=>h o' (by rw [hps] at ho;exact ho)⟩
 clear ht hb3 HT B2 hl61 hps
 generalize hz:w.heap.size=z at *
 go_upto_region 4 with (first|(refine jat rfl rfl 4 rfl ?_;intro w4 h4 s4)|(refine jak rfl _ _ rfl w3.heap.size noOrd o rfl rfl h4.out.1 ?_;intro w5 h5 s5))
 have B5:Hid (LOB w5 z noOrd∧LOB w5 w3.heap.size o∧Below z w w5∧z < w3.heap.size):=by
  have hz3:=B3.out.1.lt
  have l4:=B3.out.1.later h4.out.2 hz3
  exact⟨(h5.out.2.1 z (by omega)).trans l4,h5.out.1,(B3.out.2.trans (h4.out.2.mono (by omega))).trans (h5.out.2.2 _ (by omega)),hz3⟩
 clear h4 h5 s4 s5 B3
 generalize w3.heap.size=g at *
 cases ok with
 | false =>
  have P4:Hid (jay s none):=P3.out.2 rfl
  clear P3
  go_wp2_with (refine jak rfl _ _ rfl z noOrd noOrd rfl rfl B5.out.1 ?_;intro w6 h6 s6)
  refine bodyPost_ret (v:=.tuple #[.agg (jao noOrd).toArray,.int .i64 1]) (jaw Tryz.results23 _ _ z noOrd rfl h6.out.1) rfl ?_
  exact⟨noOrd,1,rfl,Or.inr ⟨rfl,rfl,P4.out⟩,by rw [hz];exact B5.out.2.2.1.trans (h6.out.2.2 _ (Nat.le_refl _))⟩
 | true =>
  have P4:Hid (jay s (some o)):=P3.out.1 rfl
  clear P3
  go_wp2_with (first|(refine jc6 rfl _ rfl g o rfl B5.out.2.1 ?_)|(refine jak rfl _ _ rfl z noOrd o rfl rfl B5.out.1 ?_;intro w6 h6 s6))
  refine bodyPost_ret (v:=.tuple #[.agg (jao o).toArray,.int .i64 0]) (jaw Tryz.results23 _ _ z o rfl h6.out.1) rfl ?_
  exact⟨o,0,rfl,Or.inl ⟨rfl,P4.out⟩,by rw [hz];exact B5.out.2.2.1.trans (h6.out.2.2 _ (Nat.le_refl _))⟩
def PrMem (w:World) (z g:Nat) (o:Ord) (W:World):Prop:=N3 W g o.a o.b o.c∧LW W∧Below z w W∧z≤g
theorem PrMem.later {w W W':World} {z g:Nat} {o:Ord} (h:PrMem w z g o W) (hb:Below W.heap.size W W'):PrMem w z g o W':=⟨h.1.later hb h.1.lt,h.2.1.later hb,h.2.2.1.trans (hb.mono (by have:=h.1.lt;have:=h.2.2.2;omega)),h.2.2.2⟩
theorem PrMem.cell {w W:World} {z g:Nat} {o:Ord} (h:PrMem w z g o W) {j:Nat} {n:Int} (hn:(numsO o)[j]?=some n):W.cell? ⟨g,j,none⟩=some (.int .i64 n):=by
 have hj:=(List.getElem?_eq_some_iff.1 hn).1
 have hj3:j < 3:=hj
 obtain rfl|rfl|rfl:j=0∨j=1∨j=2:=by omega
 ·have:n=o.a:=by simpa [numsO] using hn.symm
  rw [this];exact h.1.cells.1
 ·have:n=o.b:=by simpa [numsO] using hn.symm
  rw [this];exact h.1.cells.2.1
 ·have:n=o.c:=by simpa [numsO] using hn.symm
  rw [this];exact h.1.cells.2.2
end Go.Proofs.YtcmdoeledmkfmacGreatDoor
