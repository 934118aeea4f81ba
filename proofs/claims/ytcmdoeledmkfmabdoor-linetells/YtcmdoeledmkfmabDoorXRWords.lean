/- Texts of this claim, in one: RWords. -/
import Derived.Test.YtcmdoeledmkfmabDoorXRDec
import Derived.Test.YtcmdoeledmkfmabDoorQL
/- The document's own words: wordsOf. -/
set_option linter.unusedSimpArgs false
set_option linter.unusedVariables false
namespace Go.Proofs.YtcmdoeledmkfmabDoor
open Go.RowKit

theorem gAS : Tryd.prog.globalNamed "strings.asciiSpace" = some 2 := by kernel_rfl
/-- the library's table of white space holds what its initialiser laid -/
def AS (w : World) : Prop := Lib.TabIs Tryd.prog w "strings.asciiSpace" .u8 Lib.asciiSpaceTab
theorem AS.lt {w : World} (h : AS w) : 2 < w.heap.size := var_lt gAS h
theorem AS.same {w w' : World} (h : AS w) (hs : w'.heap[2]? = w.heap[2]?) : AS w' := var_same gAS h hs
theorem AS.later {w w' : World} (h : AS w) (hb : Below w.heap.size w w') : AS w' := h.same (hb.block _ h.lt)

def refText : List UInt8 := [99, 111, 109, 101, 47, 51, 32, 108, 101, 97, 118, 101, 47, 49, 32, 104, 111, 108, 100, 47, 49, 32, 102, 114, 101, 101, 47, 49, 32, 99, 104, 97, 110, 103, 101, 47, 50, 32, 107, 101, 101, 112, 47, 51, 32, 100, 114, 111, 112, 47, 49, 32, 115, 104, 117, 116, 47, 49, 32, 119, 97, 105, 116, 47, 49, 32, 98, 101, 103, 105, 110, 47, 48, 32, 99, 111, 109, 109, 105, 116, 47, 48, 32, 117, 110, 100, 111, 47, 48, 32, 103, 117, 101, 115, 115, 47, 51, 32, 97, 115, 107, 47, 49]
theorem fields_ref : Lib.fields refText = refL := by decide +kernel
theorem ref_ascii : ∀ b ∈ refText, b.toNat < 128 := by decide +kernel

theorem fields_any (w : World) (h : AS w) :
    Calls Tryd.prog 23 #[.string ⟨refText.toArray⟩] w fun e w' => ∃ g, e = .returned (.slice (some ⟨g, 0, none⟩) 14 14) ∧ RdK cStr w' g 0 refL ∧ Below w.heap.size w w' := by
  have hd : (⟨refText.toArray⟩ : ByteArray).data.toList = refText := by simp
  refine (Tryd.strings_Fields_laid ⟨refText.toArray⟩ w (by decide +kernel) (fun j b hb => ref_ascii b (List.mem_of_getElem? (by rw [hd] at hb; exact hb))) h).mono ?_
  rintro e w' ⟨rfl, rfl⟩
  rw [hd, fields_ref]
  refine ⟨_, rfl, fun j u hu => ?_, (Below.refl _ w).alloc (Nat.le_refl _) _⟩
  rw [Nat.zero_add, cell_of_row _ _ _ _ _ _ (heap_alloc_new w _), List.getElem?_toArray]
  rw [cellsStr] at hu
  exact hu

set_option maxHeartbeats 1000000 in
theorem words_any (w : World) (h : AS w) :
    Calls Tryd.prog 14 #[] w fun e w' => ∃ g, e = .returned (.slice (some ⟨g, 0, none⟩) 14 14) ∧ RdK cStr w' g 0 refL ∧ Below w.heap.size w w' := by
  have HF := fields_any w h
  clear h
  go_enter Tryd.func14, Tryd.ntmps14
  go_wp2_with fail
  refine Calls.mono HF ?_
  rintro e w1 ⟨g, rfl, h1, h2⟩
  have E1 : Hid (RdK cStr w1 g 0 refL ∧ Below w.heap.size w w1) := ⟨h1, h2⟩
  clear HF h1 h2
  go_wp2_with fail
  go_ret
  exact ⟨g, rfl, E1.out⟩

theorem RdK.refAt {w : World} {g : Nat} (h : RdK cStr w g 0 refL) {k : Nat} (hk : k < 14) : w.cell? ⟨g, k, none⟩ = some (.string ⟨(refWord (k + 1)).toArray⟩) := by
  have := h.str (refL_at hk)
  rwa [Nat.zero_add] at this

end Go.Proofs.YtcmdoeledmkfmabDoor
