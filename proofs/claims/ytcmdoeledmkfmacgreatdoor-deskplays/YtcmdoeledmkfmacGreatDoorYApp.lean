/- Texts of this claim, in one: App. -/
import Derived.Test.YtcmdoeledmkfmacGreatDoorS2
set_option linter.unusedSimpArgs false
set_option linter.unusedVariables false
namespace Go.Proofs.YtcmdoeledmkfmacGreatDoor
open Go.RowKit
structure TyOk {α:Type} (tS t:TypeId) (k bytes:Nat) (c:α→List Value):Prop where
 enc:EncOk k c
 pos:0 < k
 und:Tryz.prog.underlying tS=some (.slice t)
 info:∃ i0 z,Tryz.prog.info? t=some i0∧i0.zero=some z∧i0.size=k∧i0.bytes=bytes∧z.cells.size=k
theorem infoK {t:TypeId} {z:Value} {k bytes:Nat} (h:(Tryz.prog.info? t).map (fun i=>(i.zero,i.size,i.bytes))=some (some z,k,bytes)) (hz:z.cells.size=k):∃ i0 z,Tryz.prog.info? t=some i0∧i0.zero=some z∧i0.size=k∧i0.bytes=bytes∧z.cells.size=k:=by
 cases hq:Tryz.prog.info? t with
 | none=>rw [hq] at h;cases h
 | some i =>
  rw [hq] at h
  simp at h
  exact⟨i,z,rfl,h.1,h.2.1,h.2.2,hz⟩
theorem jcp {α:Type} {tS t:TypeId} {k bytes:Nat} {c:α→List Value} (T:TyOk tS t k bytes c) {w:World} {ops:Array Oper} {rest:List Oper} {o:Oper} {a:Act} {Q:Exit→Act→World→Prop} (hgd:o.guard=none) (x y:Operand)
  (ho:o.op=.call { callee:=.builtin .append,args:=#[x,y],argTypes:=#[tS,tS] }) (B:Nat) (v:Value) (m l:List α) (g off n cap:Nat)
  (hx:a.eval x=v) (hy:a.eval y=.slice (some ⟨g,off,none⟩) n cap) (hn:l.length=n) (hO:w.ownsRow B t k v m.length (jae c m)) (hr:RdK c w g off l) (hB:B≤w.heap.size) (hl:m.length+n≤maxLen) (hby:(m.length+n)*bytes≤140737488355328)
  (h:∀ v' w',Hid (w'.ownsRow B t k v' (m++l).length (jae c (m++l))∧Below B w w')→wpList Tryz.prog ops Q rest (a.put o.dst v') w'):wpList Tryz.prog ops Q (o::rest) a w:=by
 obtain⟨i0,z,hi,hz,hs,hb,hzs⟩:=T.info
 subst hn
 refine wpList_append_own w hgd x y tS ho B t i0 z k bytes T.und hi hz hs hb hzs T.pos v m.length (jae c m) hx hO ⟨g,off,none⟩ l.length cap (jae c l) hy (ja6 T.enc l) (fun j u hu=>by rw [Addr.add_lit];exact hr j u hu) (jcx T.enc l) hl hby hB fun v' w' h1 h2 h3=>h v' w' ⟨?_,(Below.refl _ w).grown h2 hB (fun k hk=>(hO.lt k hk).1)⟩
 rw [jdc,List.length_append]
 exact h1
theorem jua {α:Type} {tS t:TypeId} {k bytes:Nat} {c:α→List Value} (T:TyOk tS t k bytes c) {w:World} (ty:TypeId) (B:Nat) (v:Value) (m l:List α) (g off n cap:Nat) (hn:l.length=n)
  (hO:w.ownsRow B t k v m.length (jae c m)) (hr:RdK c w g off l) (hB:B≤w.heap.size) (hl:m.length+n≤maxLen) (hby:(m.length+n)*bytes≤140737488355328) :
  ∃ v' w',(Builtin.append_ #[tS,tS] ty #[v,.slice (some ⟨g,off,none⟩) n cap]).run Tryz.prog w=.ok v' w'∧w'.ownsRow B t k v' (m++l).length (jae c (m++l))∧Below B w w':=by
 obtain⟨i0,z,hi,hz,hs,hb,hzs⟩:=T.info
 subst hn
 obtain⟨v',w',h0,h1,h2,h3⟩:=run_append_own w B tS ty t i0 z k bytes T.und hi hz hs hb hzs T.pos v m.length (jae c m) hO ⟨g,off,none⟩ l.length cap (jae c l) (ja6 T.enc l) (fun j u hu=>by rw [Addr.add_lit];exact hr j u hu) (jcx T.enc l) hl hby hB
 refine⟨v',w',h0,?_,(Below.refl _ w).grown h2 hB (fun k hk=>(hO.lt k hk).1)⟩
 rw [jdc,List.length_append]
 exact h1
theorem jl6 {α:Type} {tS t:TypeId} {k bytes:Nat} {c:α→List Value} (T:TyOk tS t k bytes c) {w:World} {ops:Array Oper} {o:Oper} {a:Act} {K:Act→World→Prop} {Q:Exit→Act→World→Prop} {E:Prop} (hgd:o.guard=none) (x y:Operand)
  (ho:o.op=.call { callee:=.builtin .append,args:=#[x,y],argTypes:=#[tS,tS] }) (B:Nat) (v:Value) (m l:List α) (g off n cap:Nat)
  (hx:a.eval x=v) (hy:a.eval y=.slice (some ⟨g,off,none⟩) n cap) (hn:l.length=n) (hO:w.ownsRow B t k v m.length (jae c m)) (hr:RdK c w g off l) (hB:B≤w.heap.size) (hl:m.length+n≤maxLen) (hby:(m.length+n)*bytes≤140737488355328)
  (h:∀ v' w',Hid (w'.ownsRow B t k v' (m++l).length (jae c (m++l))∧Below B w w')→K (a.put o.dst v') w'):if Region.wanted o (yielded ops a.tmps)=true then Oper.wp Tryz.prog o a w K Q else E:=by
 have hw:Region.wanted o (yielded ops a.tmps)=true:=by simp [Region.wanted,hgd]
 rw [if_pos hw]
 obtain⟨v',w',h0,h1,h2⟩:=jua T o.type B v m l g off n cap hn hO hr hB hl hby
 unfold Oper.wp
 simp [execOp,ho,resolve,invoke,builtin,hx,hy,h0,Result.andThen]
 exact h v' w' ⟨h1,h2⟩
theorem jau {w w':World} (h:Below w.drew.heap.size w.drew w'):Below w.heap.size w w':=((Below.refl _ w).drew).trans h
theorem jfe {α:Type} {k:Nat} {c:α→List Value} (w:World) (t:TypeId) (x:α) (A:Array Value) (hA:A.toList=c x):RdK c (w.alloc (.cells A t)) w.heap.size 0 [x]:=fun j u hu=>by
 rw [cell_of_row _ _ _ _ _ _ (heap_alloc_new w _),Nat.zero_add]
 simp [jae] at hu
 rw [← hA] at hu
 simpa using hu
end Go.Proofs.YtcmdoeledmkfmacGreatDoor
