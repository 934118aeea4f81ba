/- Texts of this claim, in one: OpenK LLift. -/
import Derived.ProofKit
import Derived.Deep.SlicePairs
import Derived.SizedLaws
import Derived.OpenShut
import Derived.Test.YtcmdoeledmkfmacGreatDoorRows
import Derived.Test.YtcmdoeledmkfmacGreatDoorChecked
import Derived.Stop.LaidErr
import Derived.LaidMore
import Derived.LaidHandle
import Derived.MakeChecks
import Derived.HandedShaped
import Derived.Shelf.Vars
import Derived.ChangeOld
import Derived.SevenTiedAt
import Derived.Test.YtcmdoeledmkfmacGreatDoorS2
import Derived.Test.YtcmdoeledmkfmacGreatDoorSL
set_option linter.unusedSimpArgs false
set_option linter.unusedVariables false
set_option maxRecDepth 100000
namespace Go.Proofs.YtcmdoeledmkfmacGreatDoor
open Go.ChangeShapes Go.WideShapes Go.ChangeAt Go.RowKit Go.Deep
theorem jvh {α:Type} {k:Nat} {c:α→List Value} (E:EncOk k c) (hk:0 < k) {w:World} {b off:Nat} {l:List α}
  (h:∀ i x,l[i]?=some x→∀ j u,(c x)[j]?=some u→w.cell? ⟨b,off+(i*k+j),none⟩=some u):RdK c w b off l:=by
 intro j u hu
 have hj:=(List.getElem?_eq_some_iff.1 hu).1
 rw [ja6 E] at hj
 have hd:j / k < l.length:=Nat.div_lt_of_lt_mul (by rw [Nat.mul_comm];exact hj)
 have he:j / k*k+j % k=j:=by rw [Nat.mul_comm];exact Nat.div_add_mod j k
 have hx:=List.getElem?_eq_getElem hd
 have hg:=jko E l (j / k) _ hx (j % k) (Nat.mod_lt _ hk)
 rw [he] at hg
 have:=h (j / k) _ hx (j % k) u (hg.symm.trans hu)
 rw [he] at this
 exact this
theorem jod {H:Type} {enc:TypeId×Value→H} {W:World} {α:Type} [Inhabited α] {k:Nat} {c:α→List Value} (E:EncOk k c) (hk:0 < k) {t e:TypeId} (ht:Tryz.prog.underlying t=some (.slice e)) (hc:Tryz.prog.cellsOf e=k) (G:α→Prop)
  (helem:∀ (n:Nat) (cs:List Value) (y:DataW H×List MemPlace),DataW.trod enc Tryz.prog W 0 (fun _=>true) true n e cs=some y→∃ x,cs=c x∧G x) {fuel:Nat} {cs:List Value} {x:DataW H×List MemPlace} (h:DataW.trod enc Tryz.prog W 0 (fun _=>true) true fuel t cs=some x) :
  ∃ l vs,cs=[vs]∧SlK c W vs l∧(∀ y∈l,G y)∧(l=[]∨∃ el sp,x.1=.slice el sp∧l.length=el.length):=by
 rcases open_slice ht h with ⟨rfl,_⟩|⟨a,len,cap,m,n,D,Pl,rfl,_,hl,_,hmm,rfl,hx⟩
 ·exact⟨[],_,rfl,SlK.nil W,(fun y hy=>by cases hy),Or.inl rfl⟩
 ·simp at hmm
  subst hmm
  have each:∀ i,i < len→∃ y:α,(∀ j u,(c y)[j]?=some u→W.cell? (a.add (i*k+j))=some u)∧G y:=fun i hi=>by
   obtain⟨cs',h1,h2⟩:=hx i (by omega)
   obtain⟨y,rfl,hG⟩:=helem n cs' _ h2
   rw [hc] at h1
   obtain⟨_,hlen,hcell⟩:=World.cells?_some h1
   refine⟨y,fun j u hu=>?_,hG⟩
   have hj:=(List.getElem?_eq_some_iff.1 hu).1
   have:=hcell j (by omega)
   rw [add_add] at this
   rw [this,hu]
  obtain⟨q,hq⟩:=choose_lt each
  refine⟨(List.range len).map q,_,rfl,⟨some a,m,by simp,by simpa using hl,?_⟩,?_,Or.inr ⟨_,_,rfl,by simp⟩⟩
  ·by_cases h0:len=0
   ·subst h0;exact Or.inl rfl
   ·right
    obtain⟨b,off,spot⟩:=a
    have hspot:spot=none:=by
     have h1:=E.len (q 0)
     have h2:=(hq 0 (by omega)).1 0 ((c (q 0))[0]'(by omega)) (List.getElem?_eq_getElem (by omega))
     simpa [Addr.add] using World.cell?_spot h2
    subst hspot
    refine⟨b,off,rfl,jvh E hk fun i y hy j u hu=>?_⟩
    have hi:i < len:=by have:=(List.getElem?_eq_some_iff.1 hy).1;simpa using this
    rw [List.getElem?_map,List.getElem?_range hi] at hy
    have hy':q i=y:=by simpa using hy
    subst hy'
    have:=(hq i hi).1 j u hu
    rwa [Addr.add_lit] at this
  ·intro y hy
   obtain⟨i,hi,rfl⟩:=List.mem_map.1 hy
   exact(hq i (List.mem_range.1 hi)).2
end Go.Proofs.YtcmdoeledmkfmacGreatDoor
namespace Go.Proofs.YtcmdoeledmkfmacGreatDoor
open Go.ChangeShapes Go.WideShapes Go.ChangeAt Go.RowKit Go.Deep
open Go.ChangeMaps (open_string)
theorem ownD:ownKnob Tryz.prog.godebug=none:=by kernel_rfl
theorem jpj:laidOutB Tryz.prog=true:=by kernel_rfl
theorem jds {H:Type} {enc:TypeId×Value→H} {a:Assume} {C:Checked} {os:Os} {f:FuncId} {fn:Func} {s:ChangeSpec} {conds:List PathCond} {apart fresh handsOn again:Bool} {X:World→Array Value→Prop}
  (hX:∀ (w w':World) (args:Array Value),w.heap=w'.heap→X w args→X w' args)
  (own:ownKnob C.prog.godebug=none) (started:os.Started) (noInit:C.prog.inits.idxOf? f=none) (hfn:C.prog.funcs[f]?=some fn)
  (witness:∃ (w:World) (tape:Tape) (i:Input),w.os=os∧(w.forCall tape i).Shaped C.prog∧i.vars=[]∧Input.okWide C.prog (w.forCall tape i) .any w.heap.size f i ∧
   ((s.pre enc C.prog fn conds apart (w.forCall tape i).memory i.args∧X (w.forCall tape i).memory i.args)∧sizedMet enc C.prog fn (OpenSpec.ofChange s) apart (w.forCall tape i).memory i.args)∧a.holds C.prog (lone (Frame.enter C.prog f i.args .normal) [] (w.forCall tape i)))
  (contract:∀ (W:World) (base:Nat) (args:Array Value) (ds gs:List (DataW H)) (before:List MemPlace),
   (∀ (j:Nat) t v,fn.params[j]?=some t→args[j]?=some v→Value.okWide C.prog W .any base t v) →
   DataW.Whole enc C.prog fn.params.toList s.vars apart W args.toList ds gs before →
   (DataW.weightsEach C.prog (fn.params.toList++s.plain.varTypes C.prog) (ds++gs)).all (·≤reachBytes)=true→X W args→W.ShapedOpen C.prog →
   Calls C.prog f args W fun e W'=>∃ v,e=.returned v∧s.post enc C.prog fn apart fresh handsOn again W args v W') :
  ReturnsInHanded a C os f .any (fun w args=>(s.pre enc C.prog fn conds apart w args∧X w args)∧sizedMet enc C.prog fn (OpenSpec.ofChange s) apart w args) (s.post enc C.prog fn apart fresh handsOn again):=by
 refine returnsInHanded_of_calls own started noInit witness ?_
 intro w tape i _ hsh _ hok hpre hholds
 obtain⟨_,_,_,fn',hfn',_,_,_,_,hval⟩:=hok
 have e:fn'=fn:=Option.some.inj (hfn'.symm.trans hfn)
 subst e
 obtain⟨⟨⟨ds,gs,before,hw,hc⟩,hx⟩,hz⟩:=hpre
 have hw':=DataW.Whole.of_heap (w':=w.forCall tape i) (by rfl) hw
 refine(contract (w.forCall tape i) w.heap.size i.args ds gs before hval hw' (hz.weights hw) (hX _ _ _ (by rfl) hx) hsh).mono fun e W' ⟨v,he,hp⟩=>?_
 subst he
 exact ChangeSpec.post_blind hp
theorem jih {P:Program} {w:World} {x:String×DataW Unit}:∀ {l:List (String×DataW Unit)},laidMet P l w→x∈l→∃ r,laidMet P (x::r) w
 | [],_,hm=>by cases hm
 | y::l,h,hm=>by
  rcases List.mem_cons.1 hm with rfl|hm
  ·exact⟨l,h⟩
  ·exact jih h.tail hm
theorem jlp {P:Program} {w:World} {fuel:Nat} {t e:TypeId} {n:Nat} {cs:List Value} {zs:List (List UInt8)} {p:List MemPlace} (ht:P.underlying t=some (.array n e)) (he:P.underlying e=some .string) (hce:P.cellsOf e=1) (hct:P.cellsOf t=n)
  (h:DataW.trod (fun _=>()) P w 0 (fun _=>true) false fuel t cs=some (.agg (zs.map fun z=>.lit (.string z)),p)):cs=zs.map txt:=by
 obtain⟨xs,m,_,hx,hl,hxl,hf⟩:=DataW.trod_array ht h
 rw [hct] at hl
 rw [hce] at hf
 have hxs:xs.map (·.1)=zs.map fun z=>(DataW.lit (.string z):DataW Unit):=by
  have:=congrArg Prod.fst hx
  simpa using this.symm
 have hzl:zs.length=n:=by have:=congrArg List.length hxs;simp at this;omega
 apply List.ext_getElem?
 intro i
 by_cases hi:i < n
 ·have h1:=hf i hi
  have hxi:xs[i]?=some (xs[i]'(by omega)):=List.getElem?_eq_getElem (by omega)
  rw [hxi] at h1
  obtain⟨s,hc,e2,_⟩:=DataW.trod_string he h1
  have h2:cs[i]?=some (.string s):=by
   have:=congrArg (·[0]?) hc
   simpa [List.getElem?_take,List.getElem?_drop] using this
  have h3:(xs.map (·.1))[i]?=some (DataW.lit (.string s.data.toList):DataW Unit):=by rw [List.getElem?_map,hxi,e2];rfl
  rw [hxs,List.getElem?_map] at h3
  obtain⟨z,hz,e3⟩:=Option.map_eq_some_iff.1 h3
  simp only [DataW.lit.injEq,Lit.string.injEq] at e3
  rw [h2,List.getElem?_map,hz]
  show _=some (txt z)
  rw [e3]
  show some (Value.string s)=some (Value.string ⟨s.data.toList.toArray⟩)
  rw [Array.toArray_toList]
 ·rw [List.getElem?_eq_none (by omega),List.getElem?_eq_none (by simp;omega)]
theorem jri:"*"++"errors.errorString"="*errors.errorString":=by decide
theorem juw (u:TypeId) (h:Tryz.prog.typeName? 3 u=some "*errors.errorString"):u=247 :=
 typeName_ptr_named (nm:="errors.errorString") (by rw [jri];kernel_rfl) (by kernel_rfl) (by decide) u (by rw [jri];exact h)
theorem jiw {W:World} {n:String} {text:List UInt8} {g:Nat} {l:List (String×DataW Unit)} (h:laidMet Tryz.prog l W) (hm:(n,(.iface "*errors.errorString" (.ptr (.agg [.lit (.string text)])):DataW Unit))∈l)
  (hg:Tryz.prog.globalNamed n=some g) (ht:(Tryz.prog.globals[g]?).map (·.type)=some 121):∃ tp p,W.var? Tryz.prog n=some #[.iface tp p]:=by
 obtain⟨r,hr⟩:=jih h hm
 obtain⟨a,s,hv,_⟩:=laid_sentinel hr hg ht Tryz.underlying121 juw Tryz.underlying247 Tryz.underlying249 rfl rfl Tryz.underlying9 (by kernel_rfl) (by kernel_rfl)
 exact⟨_,_,hv⟩
theorem jpa {W:World} {n:String} {k:IntKind} {zs:List Int} {g m:Nat} {t e:TypeId} {l:List (String×DataW Unit)} (h:laidMet Tryz.prog l W) (hm:(n,(Lib.tabData k zs:DataW Unit))∈l)
  (hg:Tryz.prog.globalNamed n=some g) (hty:(Tryz.prog.globals[g]?).map (·.type)=some t) (ht:Tryz.prog.underlying t=some (.array m e)) (he:Tryz.prog.underlying e=some (.int k)) (hce:Tryz.prog.cellsOf e=1) (hct:Tryz.prog.cellsOf t=m):Lib.TabIs Tryz.prog W n k zs:=by
 obtain⟨r,hr⟩:=jih h hm
 exact Lib.tabIs_of_head hg hty ht he hce hct hr
theorem lw_of {W:World} {l:List (String×DataW Unit)} (h:laidMet Tryz.prog l W) (hsh:W.ShapedOpen Tryz.prog)
  (m1:("berthing/line.words",(Rows.laid_berthing_line_words:DataW Unit))∈l) (m2:("berthing/line.counts",(Rows.laid_berthing_line_counts:DataW Unit))∈l) (m3:("internal/strconv.uint64pow10",(Rows.laid_internal_strconv_uint64pow10:DataW Unit))∈l)
  (m4:("strconv.ErrSyntax",(Rows.laid_strconv_ErrSyntax:DataW Unit))∈l) (m5:("strconv.ErrRange",(Rows.laid_strconv_ErrRange:DataW Unit))∈l):LW W:=by
 refine⟨?_,?_,?_,jiw h m4 gSyn (by kernel_rfl),jiw h m5 gRng (by kernel_rfl),?_⟩
 ·obtain⟨r,hr⟩:=jih h m1
  obtain⟨ps,⟨g',t',cs,fuel,p,q,hg',ht',hvar,hd,_,_⟩,_⟩:=hr
  obtain rfl:=Option.some.inj (jpm.symm.trans hg')
  obtain rfl:=Option.some.inj ((show(Tryz.prog.globals[1]?).map (·.type)=some 119 by kernel_rfl).symm.trans ht')
  rw [hvar]
  have:=jlp (zs:=wordL) Tryz.underlying119 Tryz.underlying9 (by kernel_rfl) (by kernel_rfl) hd
  show some cs=some (wordL.map txt).toArray
  rw [← this]
 ·have:=jpa (zs:=cntL.map fun n=>((n:Nat):Int)) (k:=.i64) h m2 jle (by kernel_rfl) Tryz.underlying103 Tryz.underlying3 (by kernel_rfl) (by kernel_rfl)
  unfold Lib.TabIs at this
  rw [this,List.map_map]
  rfl
 ·exact jpa (zs:=Lib.pow10Tab) (k:=.u64) h m3 gPow (by kernel_rfl) Tryz.underlying251 Tryz.underlying200 (by kernel_rfl) (by kernel_rfl)
 ·exact cell_of_shapedOpen_int (t:=3) (zero:=#[.int .i64 0]) hsh (of_decide_eq_true (by kernel_rfl)) (by kernel_rfl) rfl (by kernel_rfl) (by kernel_rfl) Tryz.underlying3
section
variable {H:Type} {enc:TypeId×Value→H} {W:World}
theorem joz:Tryz.prog.cellsOf 9=1:=by kernel_rfl
theorem jo1:Tryz.prog.bytesOf 9=16:=by kernel_rfl
theorem jmq {base:Nat} {v:Value} {d:DataW H} {ps:List MemPlace} (hok:Value.okWide Tryz.prog W .any base 22 v) (h:DataW.Trod enc Tryz.prog W 0 (fun _=>true) true 22 v d ps)
  (hsz:(d.weights Tryz.prog 22).all (·≤reachBytes)=true):∃ l,SlK cStr W v l∧(∀ x∈l,x.length≤9223372036854775807)∧l.length≤8796093022208:=by
 obtain⟨a0,len0,cap0,rfl⟩:=okWide_slice Tryz.underlying22 hok
 obtain⟨fuel,hf0⟩:=h
 have hf1:DataW.trod enc Tryz.prog W 0 (fun _=>true) true fuel 22 [.slice a0 len0 cap0]=some (d,ps):=hf0
 obtain⟨l,vs,e,hs,hw,hz⟩:=jod jpq (by omega) Tryz.underlying22 joz (fun x=>x.length≤9223372036854775807) (fun _ cs _ h=>by
  obtain⟨s,e,_,ws⟩:=DataW.trod_string Tryz.underlying9 h
  refine⟨s.data.toList,?_,?_⟩
  ·rw [e]
   show [Value.string s]=[Value.string ⟨s.data.toList.toArray⟩]
   rw [Array.toArray_toList]
  ·have:s.size=s.data.toList.length:=by rw [Array.length_toList];rfl
   have hm:maxLen=9223372036854775807:=rfl
   omega) hf1
 obtain rfl:Value.slice a0 len0 cap0=vs:=by simpa using e
 refine⟨l,hs,hw,?_⟩
 rcases hz with rfl|⟨el,sp,hy,hle⟩
 ·simp
 ·simp only at hy
  have h1:=List.all_eq_true.1 hsz ((el.length+sp.length)*Tryz.prog.bytesOf 9) (by
   rw [hy]
   simp [DataW.weights,Tryz.underlying22])
  rw [jo1] at h1
  have hr:reachBytes=140737488351232:=rfl
  rw [hr] at h1
  simp at h1
  omega
end
end Go.Proofs.YtcmdoeledmkfmacGreatDoor
