/- Texts of this claim, in one: RLMath RDec RWords RIsOrd. -/
import Derived.Test.YtcmdoeledmkfmacGreatDoorYS0
import Derived.Lib.Fields
import Derived.Lib.SlTrimSet
import Derived.Lib.Strings
import Derived.Lib.ConvBytes
import Derived.Laws.IdiomStrings
import Derived.Deep.RegionHeld
import Derived.Test.YtcmdoeledmkfmacGreatDoorSL
import Derived.Test.YtcmdoeledmkfmacGreatDoorS3
set_option linter.unusedSimpArgs false
set_option linter.unusedVariables false
set_option maxHeartbeats 40000000
set_option maxRecDepth 100000
namespace Go.Proofs.YtcmdoeledmkfmacGreatDoor
open Go
def scan1 (x:List (List UInt8)×List UInt8) (c:UInt8):List (List UInt8)×List UInt8:=if c=32 then (if x.2=[] then x else (x.1++[x.2],[])) else (x.1,x.2++[c])
def jbv (t:List UInt8) (k:Nat):List (List UInt8)×List UInt8:=(t.take k).foldl scan1 ([],[])
def tailP (w:List UInt8):List (List UInt8):=if w=[] then [] else [w]
theorem jgi (t:List UInt8):jbv t 0=([],[]):=by unfold jbv;simp
theorem jix {t:List UInt8} {k:Nat} {c:UInt8} (h:t[k]?=some c):jbv t (k+1)=scan1 (jbv t k) c:=by
 unfold jbv
 rw [List.take_add_one,h]
 simp [List.foldl_append]
theorem jef (l:List (List UInt8)):scan1 (l,[]) 32=(l,[]):=by simp [scan1]
theorem jfa (l:List (List UInt8)) {acc:List UInt8} (h:acc≠[]):scan1 (l,acc) 32=(l++[acc],[]):=by simp [scan1,h]
theorem jhh (l:List (List UInt8)) (acc:List UInt8) {c:UInt8} (h:c≠32):scan1 (l,acc) c=(l,acc++[c]):=by simp [scan1,h]
theorem je9:∀ (t:List UInt8) (l:List (List UInt8)) (acc:List UInt8),(t.foldl scan1 (l,acc)).1++tailP (t.foldl scan1 (l,acc)).2=l++jc9 acc t
 | [],l,acc=>by by_cases ha:acc=[] <;> simp [jc9,tailP,ha]
 | c::r,l,acc=>by
  rw [List.foldl_cons,jc9]
  by_cases hc:c=32
  ·subst hc
   by_cases ha:acc=[]
   ·subst ha
    rw [jef,je9 r l [],if_pos rfl,if_pos rfl]
   ·rw [jfa l ha,je9 r _ _,if_pos rfl,if_neg ha]
    simp
  ·rw [jhh l acc hc,je9 r _ _,if_neg hc]
theorem js7 (s:List UInt8):jbv (s++[32]) (s.length+1)=(pieces s,[]):=by
 have h:=je9 s [] []
 have e:jbv (s++[32]) (s.length+1)=scan1 (s.foldl scan1 ([],[])) 32:=by
  unfold jbv
  rw [List.take_of_length_le (by simp),List.foldl_append]
  rfl
 rw [e]
 generalize s.foldl scan1 ([],[])=x at *
 obtain⟨a,b⟩:=x
 unfold tailP at h
 unfold pieces
 simp only [List.nil_append] at h
 by_cases hb:b=[]
 ·subst hb
  rw [jef,← h]
  simp
 ·rw [jfa a hb,← h,if_neg hb]
theorem jk0 (t:List UInt8):∀ k:Nat,(jbv t k).1.length≤k∧(jbv t k).2.length≤k
 | 0=>by rw [jgi];simp
 | k+1=>by
  have ih:=jk0 t k
  by_cases hk:k < t.length
  ·rw [jix (List.getElem?_eq_getElem hk)]
   generalize jbv t k=x at *
   generalize t[k]=c
   obtain⟨a,b⟩:=x
   simp only at ih
   by_cases hc:c=32
   ·subst hc
    by_cases hb:b=[]
    ·subst hb;rw [jef];simp;omega
    ·rw [jfa a hb];simp;omega
   ·rw [jhh a b hc];simp;omega
  ·have e:jbv t (k+1)=jbv t k:=by unfold jbv;rw [List.take_of_length_le (by omega),List.take_of_length_le (by omega)]
   rw [e];omega
def jc2 (k:Nat):List UInt8:=word k++[47,UInt8.ofNat (48+cntO k)]
def refL:List (List UInt8):=(List.range 14).map fun i=>jc2 (i+1)
theorem juy {k:Nat} (h:k < 14):refL[k]?=some (jc2 (k+1)):=by
 unfold refL
 rw [List.getElem?_map,List.getElem?_range h]
 rfl
theorem jfc (k:Nat):(jc2 k).length=(word k).length+2:=by unfold jc2;simp
def digs:List UInt8:=[48,49,50,51,52,53,54,55,56,57]
theorem jtx (c:UInt8):c∈digs↔48≤c.toNat∧c.toNat≤57:=by
 constructor
 ·intro h
  simp only [digs,List.mem_cons,List.not_mem_nil,or_false] at h
  rcases h with rfl|rfl|rfl|rfl|rfl|rfl|rfl|rfl|rfl|rfl <;> decide
 ·rintro ⟨h0,h1⟩
  have e:c=UInt8.ofNat c.toNat:=by simp
  rw [e]
  generalize c.toNat=n at *
  obtain rfl|rfl|rfl|rfl|rfl|rfl|rfl|rfl|rfl|rfl:n=48∨n=49∨n=50∨n=51∨n=52∨n=53∨n=54∨n=55∨n=56∨n=57:=by omega
  all_goals decide
theorem jdz {p:UInt8→Bool}:∀ (l:List UInt8),l.dropWhile p=[]↔∀ c∈l,p c=true
 | []=>by simp
 | a::r=>by
  by_cases ha:p a=true
  ·rw [List.dropWhile_cons_of_pos ha,jdz r]
   simp [ha]
  ·rw [List.dropWhile_cons_of_neg ha]
   simp [ha]
theorem jsw (d:List UInt8):Lib.trimS d digs=[]↔∀ c∈d,48≤c.toNat∧c.toNat≤57:=by
 have hp:∀ c:UInt8,digs.contains c=true↔48≤c.toNat∧c.toNat≤57:=fun c=>by rw [List.contains_iff_mem,jtx]
 unfold Lib.trimS Lib.trimLeftS Lib.trimRightS
 constructor
 ·intro h c hc
  rw [jdz] at h
  by_cases hd:∀ x∈d.reverse,digs.contains x=true
  ·exact(hp c).1 (hd c (List.mem_reverse.2 hc))
  ·exfalso
   have h1:d.reverse.dropWhile (digs.contains ·)≠[]:=fun e=>hd ((jdz _).1 e)
   obtain⟨a,r,e⟩:∃ a r,d.reverse.dropWhile (digs.contains ·)=a::r:=by
    cases e:d.reverse.dropWhile (digs.contains ·) with
    | nil=>exact absurd e h1
    | cons a r=>exact⟨a,r,rfl⟩
   have h2:=List.head_dropWhile_not (digs.contains ·) h1
   have h3:=h a (by rw [e];simp)
   simp only [e,List.head_cons] at h2
   rw [h3] at h2
   cases h2
 ·intro h
  rw [(jdz d.reverse).2 fun c hc=>(hp c).2 (h c (List.mem_reverse.1 hc))]
  simp
def valTo (d:List UInt8) (k:Nat):Int:=(d.take k).foldl (fun n c=>10*n+(c.toNat:Int) - 48) 0
theorem jjz (d:List UInt8):valTo d 0=0:=by unfold valTo;simp
theorem jj0 {d:List UInt8} {k:Nat} {c:UInt8} (h:d[k]?=some c):valTo d (k+1)=10*valTo d k+(c.toNat:Int) - 48:=by
 unfold valTo
 rw [List.take_add_one,h]
 simp [List.foldl_append]
theorem jiq {d:List UInt8} (hd:∀ c∈d,48≤c.toNat∧c.toNat≤57):∀ k:Nat,k≤d.length→0≤valTo d k∧valTo d k < (10:Int) ^ k
 | 0,_=>by rw [jjz];decide
 | k+1,h=>by
  have ih:=jiq hd k (by omega)
  have hk:k < d.length:=by omega
  have hc:=hd d[k] (List.getElem_mem hk)
  rw [jj0 (List.getElem?_eq_getElem hk),Int.pow_succ]
  generalize (10:Int) ^ k=p at *
  omega
theorem jip {d:List UInt8} (hd:∀ c∈d,48≤c.toNat∧c.toNat≤57) (hl:d.length≤10) {k:Nat} (hk:k≤d.length):0≤valTo d k∧valTo d k≤9999999999:=by
 have h:=jiq hd k hk
 have:(10:Int) ^ k≤10 ^ 10:=by
  have:=Nat.pow_le_pow_right (show 0 < 10 by omega) (show k≤10 by omega)
  exact_mod_cast this
 omega
theorem jpn:∀ (d:List UInt8) (acc:Nat),(∀ c∈d,48≤c.toNat∧c.toNat≤57)→Lib.decFrom acc d=some (d.foldl (fun n c=>10*n+(c.toNat:Int) - 48) (acc:Int)).toNat∧0≤d.foldl (fun n c=>10*n+(c.toNat:Int) - 48) (acc:Int)
 | [],acc,_=>by simp [Lib.decFrom]
 | a::r,acc,h=>by
  have ha:=h a List.mem_cons_self
  have hv:Lib.digitVal a=some (a.toNat - 48):=by
   unfold Lib.digitVal
   rw [if_pos ⟨by omega,by omega⟩]
  have ih:=jpn r (acc*10+(a.toNat - 48)) fun c hc=>h c (List.mem_cons_of_mem _ hc)
  have e:((acc*10+(a.toNat - 48):Nat):Int)=10*(acc:Int)+(a.toNat:Int) - 48:=by omega
  rw [e] at ih
  simp only [Lib.decFrom,hv,List.foldl_cons]
  exact ih
theorem jjy (u:Nat):valTo (Lib.decDigits u) (Lib.decDigits u).length=u:=by
 have h:=jpn (Lib.decDigits u) 0 (je3 _ _ (Nat.lt_succ_self u))
 rw [jeu _ _ (Nat.lt_succ_self u)] at h
 unfold valTo
 rw [List.take_length]
 have h1:=Option.some.inj h.1
 have h2:=h.2
 simp only [Int.ofNat_zero,Int.cast_ofNat_Int] at h1 h2 ⊢
 omega
def bare (x:List UInt8):List UInt8:=Lib.trimPrefix x [45]
def numOf (x:List UInt8):Int:=if bare x=x then valTo (bare x) (bare x).length else -(valTo (bare x) (bare x).length)
theorem jkp (l:List UInt8):bare (45::l)=l:=by
 unfold bare Lib.trimPrefix Lib.hasPrefix
 simp [List.isPrefixOf]
theorem jq1 {b:UInt8} (l:List UInt8) (h:b≠45):bare (b::l)=b::l:=by
 unfold bare Lib.trimPrefix Lib.hasPrefix
 simp [List.isPrefixOf,Ne.symm h]
theorem jt7:bare []=[]:=by decide
theorem jt8 (x:List UInt8):(bare x).length≤x.length:=by
 unfold bare Lib.trimPrefix
 split
 ·simp
 ·exact Nat.le_refl _
theorem jof {m:Int} (h0:-1073741824≤m) (h1:m≤1073741824):bare (Lib.itoa m)≠[]∧(bare (Lib.itoa m)).length≤10∧(∀ c∈bare (Lib.itoa m),48≤c.toNat∧c.toNat≤57)∧numOf (Lib.itoa m)=m:=by
 by_cases hm:m < 0
 ·have e:Lib.itoa m=45::Lib.decDigits m.natAbs:=by unfold Lib.itoa;rw [if_pos hm]
  have hne:bare (45::Lib.decDigits m.natAbs)≠45::Lib.decDigits m.natAbs:=by
   rw [jkp]
   intro h
   have:=congrArg List.length h
   simp at this
  rw [e]
  unfold numOf
  rw [if_neg hne,jkp,jjy]
  refine⟨jg8 _,?_,je3 _ _ (Nat.lt_succ_self _),by omega⟩
  rw [Lib.decDigits_length]
  exact jd1 10 m.natAbs (by omega) (by omega)
 ·have e:Lib.itoa m=Lib.decDigits m.toNat:=by unfold Lib.itoa;rw [if_neg hm]
  have hd:=je3 _ _ (Nat.lt_succ_self m.toNat)
  have hb:bare (Lib.decDigits m.toNat)=Lib.decDigits m.toNat:=by
   cases hc:Lib.decDigits m.toNat with
   | nil=>exact jt7
   | cons b r =>
    rw [hc] at hd
    have:=hd b List.mem_cons_self
    exact jq1 r fun h=>by subst h;simp at this
  rw [e]
  unfold numOf
  rw [if_pos hb,hb,jjy]
  refine⟨jg8 _,?_,hd,by omega⟩
  rw [Lib.decDigits_length]
  exact jd1 10 m.toNat (by omega) (by omega)
theorem jto {n:Int} (h:n < 0):Lib.itoa n=45::Lib.itoa (-n):=by
 have e:(-n).toNat=n.natAbs:=by omega
 unfold Lib.itoa
 rw [if_pos h,if_neg (by omega),e]
theorem jtr {n:Int} (h:9 < n):Lib.itoa n=Lib.itoa (n.tdiv 10)++Lib.itoa (n.tmod 10):=by
 have h1:n.tdiv 10=((n.toNat / 10:Nat):Int):=by rw [Int.tdiv_eq_ediv_of_nonneg (by omega)];omega
 have h2:n.tmod 10=((n.toNat % 10:Nat):Int):=by rw [Int.tmod_eq_emod_of_nonneg (by omega)];omega
 rw [h1,h2]
 unfold Lib.itoa
 rw [if_neg (by omega),if_neg (by omega),if_neg (by omega),Int.toNat_natCast,Int.toNat_natCast]
 conv=>lhs;rw [Lib.decDigits]
 conv=>rhs;rw [Lib.decDigits.eq_def (n.toNat % 10)]
 rw [dif_neg (by omega),dif_pos (by omega)]
theorem joj {n:Int} (h0:0≤n) (h:n≤9):Lib.itoa n=[UInt8.ofNat (48+n.toNat)]:=by
 unfold Lib.itoa
 rw [if_neg (by omega),Lib.decDigits,dif_pos (by omega)]
end Go.Proofs.YtcmdoeledmkfmacGreatDoor
namespace Go.Proofs.YtcmdoeledmkfmacGreatDoor
open Go.RowKit
theorem conv1x (W:World) (n:UInt8):(convert 88 9 (.slice (some ⟨W.heap.size,0,none⟩) 1 1)).run Tryz.prog (W.alloc (.cells #[.int .u8 (n.toNat:Int)] 5))=.ok (.string ⟨#[n]⟩) (W.alloc (.cells #[.int .u8 (n.toNat:Int)] 5)) :=
 run_convert_bytes_back (W.alloc (.cells #[.int .u8 (n.toNat:Int)] 5)) 88 9 5 ⟨W.heap.size,0,none⟩ 1 [n] Tryz.underlying88 Tryz.underlying5 Tryz.underlying9 (fun j hj=>by
  have:j=0:=by simp at hj;omega
  subst this
  rw [Addr.add_lit,cell_of_row _ _ _ _ _ _ (heap_alloc_new W _)]
  rfl)
theorem cat2 (l t:List UInt8):(⟨l.toArray⟩:ByteArray)++(⟨t.toArray⟩:ByteArray)=⟨(l++t).toArray⟩:=by
 apply ByteArray.ext
 rw [ByteArray.data_append]
 simp
theorem jhn (n:Int) (h0:0≤n) (h1:n≤9999999999):(Lib.itoa n).length≤10:=by
 unfold Lib.itoa
 rw [if_neg (by omega),Lib.decDigits_length]
 exact jd1 10 n.toNat (by omega) (by omega)
def jjj (n:Int) (w:World) (e:Ending) (w':World):Prop:=e=.returned (.string ⟨(Lib.itoa n).toArray⟩)∧Below w.heap.size w w'
theorem jg9 (d:Nat) (hd:d≤9) (w:World):Calls Tryz.prog 53 #[.int .i64 d] w fun e w'=>jjj d w e w':=by
 have hs:=joj (n:=(d:Int)) (by omega) (by omega)
 rw [Int.toNat_natCast] at hs
 have hb:(UInt8.ofNat (48+d)).toNat=48+d:=by rw [UInt8.toNat_ofNat'];exact Nat.mod_eq_of_lt (by omega)
 have hc:=conv1x w (UInt8.ofNat (48+d))
 rw [hb] at hc
 generalize UInt8.ofNat (48+d)=x at *
 have E:Hid (Lib.itoa d=[x]):=hs
 have h0:¬ ((d:Int) < 0):=by omega
 have h9:¬ ((9:Int) < (d:Int)):=by omega
 have hi:((48+d:Nat):Int)=48+(d:Int):=by omega
 rw [hi] at hc
 clear hb hi hs
 go_enter Tryz.func53,Tryz.ntmps53
 go_wp2
 go_ret
 exact⟨by rw [E.out];rfl,(Below.refl _ w).alloc (Nat.le_refl _) _⟩
theorem jgn:∀ (k:Nat) (n:Nat),n < k→(n:Int)≤9999999999→∀ w:World,Calls Tryz.prog 53 #[.int .i64 n] w fun e w'=>jjj n w e w'
 | 0,n,h,_,w=>by omega
 | k+1,n,h,hn,w=>by
  by_cases h9:n≤9
  ·exact jg9 n h9 w
  have E:Hid (Lib.itoa (n:Int)=Lib.itoa ((n / 10:Nat):Int)++Lib.itoa ((n % 10:Nat):Int)):=by
   have:=jtr (n:=(n:Int)) (by omega)
   have e1:(n:Int).tdiv 10=((n / 10:Nat):Int):=by rw [Int.tdiv_eq_ediv_of_nonneg (by omega)];omega
   have e2:(n:Int).tmod 10=((n % 10:Nat):Int):=by rw [Int.tmod_eq_emod_of_nonneg (by omega)];omega
   rw [e1,e2] at this
   exact this
  have L1:=jhn ((n / 10:Nat):Int) (by omega) (by omega)
  have L2:=jhn ((n % 10:Nat):Int) (by omega) (by omega)
  have H1:=fun W=>jgn k (n / 10) (by omega) (by omega) W
  have H2:=fun W=>jg9 (n % 10) (by omega) W
  have e1:(n:Int).tdiv 10=((n / 10:Nat):Int):=by rw [Int.tdiv_eq_ediv_of_nonneg (by omega)];omega
  have e2:(n:Int).tmod 10=((n % 10:Nat):Int):=by rw [Int.tmod_eq_emod_of_nonneg (by omega)];omega
  have h0:¬ ((n:Int) < 0):=by omega
  have h91:((9:Int) < (n:Int)):=by omega
  have hw1:wrap64 ((n / 10:Nat):Int)=((n / 10:Nat):Int):=by unfold wrap64;omega
  have hw2:wrap64 ((n % 10:Nat):Int)=((n % 10:Nat):Int):=by unfold wrap64;omega
  generalize n / 10=a at *
  generalize n % 10=b at *
  unfold jjj at H1 H2
  generalize ha:Lib.itoa (a:Int)=la at *
  generalize hb:Lib.itoa (b:Int)=lb at *
  clear ha hb h hn h9
  go_enter Tryz.func53,Tryz.ntmps53
  go_wp2_with fail
  refine(H1 _).mono ?_
  rintro e w1 ⟨rfl,hb1⟩
  have B1:Hid (Below w.heap.size w w1):=hb1
  clear hb1 H1
  go_wp2_with fail
  try rw [e2]
  refine(H2 _).mono ?_
  rintro e w2 ⟨rfl,hb2⟩
  have B2:Hid (Below w.heap.size w w2):=B1.out.trans (hb2.mono B1.out.size)
  clear hb2 H2 B1 e1 e2
  go_wp2_with fail
  go_ret
  exact⟨by rw [E.out,← cat2];rfl,B2.out⟩
theorem jox (n:Int) (h0:-9999999999≤n) (h1:n≤9999999999) (w:World):Calls Tryz.prog 53 #[.int .i64 n] w fun e w'=>jjj n w e w':=by
 by_cases hn:n < 0
 ·obtain⟨m,rfl⟩:∃ m:Nat,n=-(m:Int):=⟨n.natAbs,by omega⟩
  have E:Hid (Lib.itoa (-(m:Int))=45::Lib.itoa (m:Int)):=by
   have:=jto hn
   rw [Int.neg_neg] at this
   exact this
  have H1:=fun W=>jgn (m+1) m (by omega) (by omega) W
  have L1:=jhn (m:Int) (by omega) (by omega)
  unfold jjj at H1
  generalize ha:Lib.itoa (m:Int)=la at *
  clear ha
  go_enter Tryz.func53,Tryz.ntmps53
  go_wp2_with fail
  refine(H1 _).mono ?_
  rintro e w1 ⟨rfl,hb1⟩
  have B1:Hid (Below w.heap.size w w1):=hb1
  clear hb1 H1
  go_wp2_with fail
  go_ret
  exact⟨by rw [E.out,show(45::la)=[45]++la from rfl,← cat2];rfl,B1.out⟩
 ·obtain⟨m,rfl⟩:∃ m:Nat,n=(m:Int):=⟨n.toNat,by omega⟩
  exact jgn (m+1) m (by omega) (by omega) w
theorem gAS:Tryz.prog.globalNamed "strings.asciiSpace"=some 2:=by kernel_rfl
def AS (w:World):Prop:=Lib.TabIs Tryz.prog w "strings.asciiSpace" .u8 Lib.asciiSpaceTab
theorem AS.lt {w:World} (h:AS w):2 < w.heap.size:=jjx gAS h
theorem AS.same {w w':World} (h:AS w) (hs:w'.heap[2]?=w.heap[2]?):AS w':=jf2 gAS h hs
theorem AS.later {w w':World} (h:AS w) (hb:Below w.heap.size w w'):AS w':=h.same (hb.block _ h.lt)
def jhi:List UInt8:=[99,111,109,101,47,51,32,108,101,97,118,101,47,49,32,104,111,108,100,47,49,32,102,114,101,101,47,49,32,99,104,97,110,103,101,47,50,32,107,101,101,112,47,51,32,100,114,111,112,47,49,32,115,104,117,116,47,49,32,119,97,105,116,47,49,32,98,101,103,105,110,47,48,32,99,111,109,109,105,116,47,48,32,117,110,100,111,47,48,32,103,117,101,115,115,47,51,32,97,115,107,47,49]
theorem jqv:Lib.fields jhi=refL:=by decide +kernel
theorem jro:∀ b∈jhi,b.toNat < 128:=by decide +kernel
theorem jqw (w:World) (h:AS w) :
  Calls Tryz.prog 68 #[.string ⟨jhi.toArray⟩] w fun e w'=>∃ g,e=.returned (.slice (some ⟨g,0,none⟩) 14 14)∧RdK cStr w' g 0 refL∧Below w.heap.size w w':=by
 have hd:(⟨jhi.toArray⟩:ByteArray).data.toList=jhi:=by simp
 refine(Tryz.strings_Fields_laid ⟨jhi.toArray⟩ w (by decide +kernel) (fun j b hb=>jro b (List.mem_of_getElem? (by rw [hd] at hb;exact hb))) h).mono ?_
 rintro e w' ⟨rfl,rfl⟩
 rw [hd,jqv]
 refine⟨_,rfl,fun j u hu=>?_,(Below.refl _ w).alloc (Nat.le_refl _) _⟩
 rw [Nat.zero_add,cell_of_row _ _ _ _ _ _ (heap_alloc_new w _),List.getElem?_toArray]
 rw [jpw] at hu
 exact hu
theorem jlu (w:World) (h:AS w) :
  Calls Tryz.prog 50 #[] w fun e w'=>∃ g,e=.returned (.slice (some ⟨g,0,none⟩) 14 14)∧RdK cStr w' g 0 refL∧Below w.heap.size w w':=by
 have HF:=jqw w h
 clear h
 go_enter Tryz.func50,Tryz.ntmps50
 go_wp2_with fail
 refine Calls.mono HF ?_
 rintro e w1 ⟨g,rfl,h1,h2⟩
 have E1:Hid (RdK cStr w1 g 0 refL∧Below w.heap.size w w1):=⟨h1,h2⟩
 clear HF h1 h2
 go_wp2_with fail
 go_ret
 exact⟨g,rfl,E1.out⟩
theorem RdK.refAt {w:World} {g:Nat} (h:RdK cStr w g 0 refL) {k:Nat} (hk:k < 14):w.cell? ⟨g,k,none⟩=some (.string ⟨(jc2 (k+1)).toArray⟩):=by
 have:=h.str (juy hk)
 rwa [Nat.zero_add] at this
theorem jke (k:Nat) (hk:k < 15) (x:World):(Instr.index 9 (.string ⟨(jc2 k).toArray⟩) (.int .i64 ((jc2 k).length - 1:Int))).run Tryz.prog x=.ok (.int .u8 (48+(cntO k:Nat):Int)) x:=by
 obtain rfl|rfl|rfl|rfl|rfl|rfl|rfl|rfl|rfl|rfl|rfl|rfl|rfl|rfl|rfl:k=0∨k=1∨k=2∨k=3∨k=4∨k=5∨k=6∨k=7∨k=8∨k=9∨k=10∨k=11∨k=12∨k=13∨k=14:=by omega
 all_goals kernel_rfl
theorem jtk {c i:Nat} {n:Int}:(-(farOf c i)≤n∧n≤farOf c i)↔((-1073741824≤n∧n≤1073741824)∧(c≤i→n=0)):=by
 unfold farOf
 split <;> constructor <;> intro h <;> omega
def IOM (w:World) (z:Nat) (o:Ord) (W:World):Prop:=LOB W z o∧AS W∧Below z w W
theorem IOM.later {w W W':World} {z:Nat} {o:Ord} (h:IOM w z o W) (hb:Below W.heap.size W W'):IOM w z o W':=⟨h.1.later hb h.1.lt,h.2.1.later hb,h.2.2.trans (hb.mono (by have:=h.1.lt;omega))⟩
theorem jjq (o:Ord) (w:World) (hA:AS w) :
  Calls Tryz.prog 54 #[.agg #[.int .i64 o.kd,.int .i64 o.a,.int .i64 o.b,.int .i64 o.c]] w fun e w'=>e=.returned (.bool (jcm o))∧Below w.heap.size w w':=by
 have hb0:Below w.heap.size w (w.alloc (.cells #[.int .i64 o.kd,.int .i64 o.a,.int .i64 o.b,.int .i64 o.c] 61)):=(Below.refl _ w).alloc (Nat.le_refl _) _
 have M0:Hid (IOM w w.heap.size o (w.alloc (.cells #[.int .i64 o.kd,.int .i64 o.a,.int .i64 o.b,.int .i64 o.c] 61))):=⟨LOB.new w o,hA.later hb0,hb0⟩
 have HI:=fun n lo hi W=>jag n lo hi W
 have HW:=fun W h=>jlu W h
 clear hb0 hA
 by_cases k0:1≤o.kd∧o.kd≤14
 case neg =>
  have N:Hid (jcm o=false):=jct fun h=>k0 h.1
  have hin:inR o.kd 1 14=false:=by unfold inR;exact decide_eq_false k0
  obtain⟨kd,a,b,c⟩:=o
  simp only at hin
  clear k0
  go_enter Tryz.func54,Tryz.ntmps54
  go_wp2_with fail
  refine(HI _ _ _ _).mono ?_
  rintro e w' ⟨rfl,hw⟩
  subst hw
  rw [hin]
  go_wp2_with fail
  go_ret
  exact⟨jcv N.out.symm,M0.out.2.2⟩
 have hin:inR o.kd 1 14=true:=by unfold inR;exact decide_eq_true k0
 obtain⟨kd,a,b,c⟩:=o
 simp only at hin k0
 obtain⟨k,rfl⟩:∃ k:Nat,kd=(k:Int)+1:=⟨(kd - 1).toNat,by omega⟩
 have hk:k < 14:=by omega
 have hkd:((k:Int)+1).toNat=k+1:=by omega
 generalize hz:w.heap.size=z at *
 go_enter Tryz.func54,Tryz.ntmps54
 go_wp2_with fail
 refine(HI _ _ _ _).mono ?_
 rintro e w' ⟨rfl,hw⟩
 subst hw
 rw [hin]
 go_upto_region 3 with fail
 generalize (w.alloc (.cells #[.int .i64 ((k:Int)+1),.int .i64 a,.int .i64 b,.int .i64 c] 61))=W1 at *
 have M1:Hid (IOM w z ⟨(k:Int)+1,a,b,c⟩ W1.drew):=M0.out.later (Below.refl _ _).drew
 have hwk:IntKind.i64.wrap (k:Int)=(k:Int):=by rw [IntKind.wrap_i64];omega
 have hkn:¬ ((14:Int)≤(k:Int)):=by omega
 clear M0 hin
 refine wp_region_held_drew (S:=fun W=>Hid (IOM w z ⟨(k:Int)+1,a,b,c⟩ W)) (by kernel_rfl) M1 (fun hHeld=>?_)
 refine jjT 1 ⟨some 13,.fieldAddr 61 (.tmp 1) 0,0,"ref.go:314",#[],none⟩ (?_) rfl (by kernel_rfl) (fun _ _ _ h=>h) (Or.inl ⟨by rfl,?_⟩) hHeld ?_
 rotate_left
 ·(intro w hSw;first|(go_simp;done)|(go_simp;with_reducible rfl))
 simp only [Act.put,jjA,jjB,jjC]
 refine jjT 2 ⟨some 14,.load 3 (.tmp 13),3,"ref.go:314",#[⟨1,.data⟩],none⟩ (.int .i64 ((k:Int)+1)) rfl (by kernel_rfl) (fun _ _ _ h=>h) (Or.inl ⟨by rfl,by intro w hSw;have q:=hSw.out.1.cells.1;go_simp⟩) hHeld ?_
 simp only [Act.put,jjA,jjB,jjC]
 refine jjT 3 ⟨some 15,.binOp .sub 3 (.tmp 14) (.const (.int .i64 1)) 3,3,"ref.go:314",#[⟨2,.data⟩],none⟩ (.int .i64 (k:Int)) rfl (by kernel_rfl) (fun _ _ _ h=>h) (Or.inl ⟨by rfl,by intro w hSw;go_simp⟩) hHeld ?_
 simp only [Act.put,jjA,jjB,jjC]
 refine jjR 0 (by kernel_rfl) rfl fun K hK=>?_
 go_simp
 refine(HW _ hHeld.out.2.1).mono ?_
 rintro e w2 ⟨g,rfl,hr,hb2⟩
 have M2:Hid (IOM w z ⟨(k:Int)+1,a,b,c⟩ w2):=hHeld.out.later hb2
 have hq:=hr.refAt hk
 clear hr hb2 HW hHeld M1
 go_wp2_with fail
 refine hK.out _ _ M2 (fun hHeld=>?_)
 clear hK K
 refine jjT 4 ⟨some 16,.indexAddr 22 (.tmp 12) (.tmp 15),0,"ref.go:314",#[⟨0,.data⟩,⟨3,.data⟩],none⟩ (.pointer (some ⟨g,k,none⟩)) rfl (by kernel_rfl) (fun _ _ _ h=>h) (Or.inl ⟨by rfl,by intro w hSw;go_simp⟩) hHeld ?_
 simp only [Act.put,jjA,jjB,jjC]
 refine jjR 5 (by kernel_rfl) rfl fun K hK=>?_
 go_simp
 refine hK.out _ _ M2 (fun hHeld=>?_)
 clear hK K
 refine jjT 6 ⟨some 3,.assign (.tmp 17),9,"ref.go:314",#[⟨5,.data⟩,⟨0,.chain⟩,⟨0,.phase⟩,⟨1,.phase⟩,⟨2,.phase⟩,⟨3,.phase⟩,⟨4,.phase⟩,⟨5,.phase⟩],none⟩ (?_) rfl (by kernel_rfl) (fun _ _ _ h=>h) (Or.inl ⟨by rfl,?_⟩) hHeld ?_
 rotate_left
 ·(intro w hSw;first|(go_simp;done)|(go_simp;with_reducible rfl))
 simp only [Act.put,jjA,jjB,jjC]
 refine wpAnyH_done (by kernel_rfl) ?_ _
 clear hHeld hq hwk hkn
 obtain⟨c0,c1,c2,c3⟩:=M2.out.1.cells
 simp only at c0 c1 c2 c3
 have hil:=jke (k+1) (by omega)
 have hl2:2≤((jc2 (k+1)).length:Int):=by rw [jfc];omega
 have hl8:((jc2 (k+1)).length:Int)≤8:=by have:=jo5 (k+1) (by omega);rw [jfc];omega
 have hcl:=jhp (k+1)
 have HC:Hid (∀ (i:Nat) (n:Int),(numsO ⟨(k:Int)+1,a,b,c⟩)[i]?=some n→((-(farOf (cntO (k+1)) i)≤n∧n≤farOf (cntO (k+1)) i)↔((-1073741824≤n∧n≤1073741824)∧(cntO (k+1)≤i→n=0)))):=fun i n _=>jtk
 generalize jc2 (k+1)=rw at *
 generalize hcn:cntO (k+1)=cn at *
 have B3:Hid (RdK cInt (w2.alloc (.cells #[.int .i64 a,.int .i64 b,.int .i64 c] 3)) w2.heap.size 0 [a,b,c]∧Below z w (w2.alloc (.cells #[.int .i64 a,.int .i64 b,.int .i64 c] 3))):=by
  refine⟨fun j u hu=>?_,M2.out.2.2.alloc (by have:=M2.out.1.lt;omega) _⟩
  rw [Nat.zero_add,cell_of_row _ _ _ _ _ _ (heap_alloc_new w2 _),List.getElem?_toArray]
  exact hu
 go_upto_region 6 with fail
 clear c0 c1 c2 c3 hil hl2 hl8
 generalize (w2.alloc (.cells #[.int .i64 a,.int .i64 b,.int .i64 c] 3))=W3 at *
 generalize w2.heap.size=g3 at *
 have HK:Hid (1≤(k:Int)+1∧(k:Int)+1≤14):=⟨by omega,by omega⟩
 have hkc:cntO ((k:Int)+1).toNat=cn:=by rw [hkd];exact hcn
 have HKC:Hid (cntO ((k:Int)+1).toNat=cn):=hkc
 clear hkc hcn hkd M2
 go_wp2_with fail
 go_loop [6,7,34] (fun s6 s7 s34=>∃ j:Nat,j≤3∧s34=.int .i64 j∧Hid (jf0 ⟨(k:Int)+1,a,b,c⟩ j)) (fun _ _ s34=>3 - (intOf s34).toNat)
 case atStart=>exact⟨0,by omega,rfl,fun i n h=>absurd h (Nat.not_lt_zero _)⟩
 case round =>
  obtain⟨j,hj,rfl,J⟩:=hrel
  by_cases hj3:j < 3
  ·obtain⟨n,hn⟩:∃ n,([a,b,c]:List Int)[j]?=some n:=⟨([a,b,c]:List Int)[j]'hj3,List.getElem?_eq_getElem hj3⟩
   have hc:W3.cell? ⟨g3,j,none⟩=some (.int .i64 n):=by
    have:=B3.out.1.at jh0 hn (i:=0) rfl
    simpa using this
   have NN:Hid ((numsO ⟨(k:Int)+1,a,b,c⟩)[j]?=some n):=hn
   have hji:(j:Int) < 3:=by omega
   have NJ:Hid ((-(farOf cn j)≤n∧n≤farOf cn j)→jf0 ⟨(k:Int)+1,a,b,c⟩ (j+1)):=fun h=>jg1 J.out NN.out (by simp only [HKC.out];exact h)
   have NO:Hid (¬ (-(farOf cn j)≤n∧n≤farOf cn j)→jcm ⟨(k:Int)+1,a,b,c⟩=false):=fun h=>jct fun hg=>h (by
    have:=(jda HK.out).1 hg j n hj3 NN.out
    simp only [HKC.out] at this
    exact this)
   have NC:=HC.out j n NN.out
   clear hn J NN
   by_cases hin:-1073741824≤n∧n≤1073741824
   case neg =>
    have N:Hid (jcm ⟨(k:Int)+1,a,b,c⟩=false):=NO.out fun h=>hin (NC.1 h).1
    have hi:inR n (-1073741824) 1073741824=false:=decide_eq_false hin
    clear NC NO NJ hin
    go_wp2_with fail
    refine(HI _ _ _ _).mono ?_
    rintro e w' ⟨rfl,hw⟩
    subst hw
    rw [hi]
    go_wp2_with fail
    go_ret
    exact⟨jcv N.out.symm,B3.out.2⟩
   have hi:inR n (-1073741824) 1073741824=true:=decide_eq_true hin
   by_cases hcj:cn≤j
   ·have hci:((cn:Nat):Int)≤(j:Int):=by omega
    by_cases hn0:n=0
    ·have J2:Hid (jf0 ⟨(k:Int)+1,a,b,c⟩ (j+1)):=NJ.out (NC.2 ⟨hin,fun _=>hn0⟩)
     subst hn0
     clear NC NO NJ hin
     go_wp2_with fail
     refine(HI _ _ _ _).mono ?_
     rintro e w' ⟨rfl,hw⟩
     subst hw
     rw [hi]
     go_wp2_with fail
     go_round
     case rel=>exact⟨j+1,by omega,by go_num,J2⟩
     case measure=>simp [intOf];omega
    ·have N:Hid (jcm ⟨(k:Int)+1,a,b,c⟩=false):=NO.out fun h=>hn0 ((NC.1 h).2 hcj)
     have hnb:(n != 0)=true:=by simp [hn0]
     clear NC NO NJ hin
     go_wp2_with fail
     refine(HI _ _ _ _).mono ?_
     rintro e w' ⟨rfl,hw⟩
     subst hw
     rw [hi]
     go_wp2_with fail
     go_ret
     exact⟨jcv N.out.symm,B3.out.2⟩
   ·have hci:¬ (((cn:Nat):Int)≤(j:Int)):=by omega
    have J2:Hid (jf0 ⟨(k:Int)+1,a,b,c⟩ (j+1)):=NJ.out (NC.2 ⟨hin,fun h=>absurd h hcj⟩)
    clear NC NO NJ hin
    go_wp2_with fail
    refine(HI _ _ _ _).mono ?_
    rintro e w' ⟨rfl,hw⟩
    subst hw
    rw [hi]
    go_wp2_with fail
    go_round
    case rel=>exact⟨j+1,by omega,by go_num,J2⟩
    case measure=>simp [intOf];omega
  ·obtain rfl:j=3:=by omega
   have N:Hid (jcm ⟨(k:Int)+1,a,b,c⟩=true):=jf3.2 ((jda HK.out).2 J.out)
   go_wp2_with fail
   go_ret
   exact⟨jcv N.out.symm,B3.out.2⟩
end Go.Proofs.YtcmdoeledmkfmacGreatDoor
