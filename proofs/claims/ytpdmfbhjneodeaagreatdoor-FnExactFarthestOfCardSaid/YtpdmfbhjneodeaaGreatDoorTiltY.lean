/-
  A tray tilted along a word: in the program and in the model; still trays; the law on two words that do the same.
-/
import Derived.Test.YtpdmfbhjneodeaaGreatDoorTiltV
import Derived.Test.YtpdmfbhjneodeaaGreatDoorKeep
import Derived.Test.YtpdmfbhjneodeaaGreatDoorTiltYF
namespace Go.Proofs.YtpdmfbhjneodeaaGreatDoor
open Go.RowKit
/-- The directions of a word. -/
def wds (s : ByteArray) : List Nat := s.data.toList.map fun b => (dI b).toNat
theorem wds_length (s : ByteArray) : (wds s).length = s.size := by unfold wds; rw [List.length_map]; exact Array.length_toList
theorem wds_lt {s : ByteArray} (_h : wordB s = true) : ∀ d ∈ wds s, d < 4 := by
  intro d hd
  unfold wds at hd
  obtain ⟨b, hb, rfl⟩ := List.mem_map.1 hd
  have := dI_lt b
  omega
theorem wds_at {s : ByteArray} (h : wordB s = true) {j : Nat} (hj : j < s.size) : ∃ d, d < 4 ∧ at0 s.data.toList j = dB d ∧ dI (dB d) = d ∧ (wds s).getD j 0 = d ∧ (wds s).take (j + 1) = (wds s).take j ++ [d] := by
  have hl : s.data.toList.length = s.size := Array.length_toList
  obtain ⟨d, h4, h1, h2⟩ := dB_dI (word_at h j (by omega))
  have e : (wds s)[j]? = some d := by
    unfold wds
    rw [List.getElem?_map, List.getElem?_eq_getElem (by omega)]
    have : s.data.toList[j]'(by omega) = at0 s.data.toList j := by unfold at0; rw [List.getD_eq_getElem?_getD, List.getElem?_eq_getElem (by omega)]; rfl
    rw [this]
    show some (dI (at0 s.data.toList j)).toNat = some d
    rw [h1]
    rfl
  refine ⟨d, h4, h2, by rw [← h2]; exact h1, by rw [List.getD_eq_getElem?_getD, e]; rfl, ?_⟩
  rw [List.take_add_one, e]
  rfl
theorem word_of_bb {w : World} {B : Nat} {s : ByteArray} {e : TypeId} {cap : Nat} (hb : BB w B s.data.toList e) (h : wordB s = true) : WordAt w (.slice (some ⟨B, 0, none⟩) s.size cap) (wds s) := by
  refine ⟨some ⟨B, 0, none⟩, cap, by rw [wds_length], fun j hj => ?_⟩
  rw [wds_length] at hj
  obtain ⟨d, h4, h1, -, h2, -⟩ := wds_at h hj
  refine ⟨B, 0, rfl, ?_⟩
  have := hb.cell j (by rw [show s.data.toList.length = s.size from Array.length_toList]; exact hj)
  rw [Nat.zero_add, this, h2, h1]
theorem runG_take {s : ByteArray} (g : Grid) {j d : Nat} (h : (wds s).take (j + 1) = (wds s).take j ++ [d]) : runG ((wds s).take (j + 1)) g = tiltG d (runG ((wds s).take j) g) := by rw [h, runG_snoc]
theorem same_txt {g m : Grid} (hg : Cel g) (hm : Cel m) (g1 : 1 ≤ g.w) (gh : 1 ≤ g.h) (_m1 : 1 ≤ m.w) (mh : 1 ≤ m.h) : sameB g m = decide (txtB g.w g.h g.c = txtB m.w m.h m.c) := by
  rw [Bool.eq_iff_iff, decide_eq_true_eq]
  constructor
  · intro h
    unfold sameB at h
    rw [Bool.and_eq_true, Bool.and_eq_true, beq_iff_eq, beq_iff_eq, List.all_eq_true] at h
    obtain ⟨⟨h1, h2⟩, h3⟩ := h
    have hc : m.c = g.c := by
      apply list_ext (by rw [hm.len, hg.len, h1, h2])
      intro i hi
      have hi36 : i < 36 := by have := hm.len; have := hm.n36; omega
      have := h3 i (List.mem_range.2 hi36)
      rw [beq_iff_eq] at this
      exact UInt8.toNat_inj.1 (by omega)
    rw [← h1, ← h2, hc]
  · intro h
    have e : txtL g.w g.c g.h = txtL m.w m.c m.h := by rw [← txtB_data, ← txtB_data, h]
    obtain ⟨e1, e2, e3⟩ := txt_inj g1 gh mh hg.len hm.len (cell_plain hg.cells) (cell_plain hm.cells) e
    unfold sameB
    rw [e1, e2, e3]
    simp
theorem txt_of {s : ByteArray} {g : Grid} (hp : parse s.data.toList = some g) : s = txtB g.w g.h g.c := by
  apply ByteArray.ext
  apply Array.toList_inj.1
  rw [txtB_data, parse_text hp]
theorem e_eqlS {P : Program} {w : World} {a : Act} {dst : Option Tmp} {ty T yt : TypeId} {pos : String} {aft : Array Edge} {gd : Option (Nat × Bool)} (x y : Operand) (s t : ByteArray) (hx : a.eval x = .string s) (hy : a.eval y = .string t) :
    (execOp a.eval ⟨dst, .binOp .eql T x y yt, ty, pos, aft, gd⟩).run P w = .ok (.value (.bool (decide (s = t)))) w := by
  unfold execOp
  simp [hx, hy, eqGuard, binOp_string_eql, ← eql_bool]
def swOk (l : List UInt8) (v u : ByteArray) : Bool := rdOk l && wordB v && wordB u
def swB (l : List UInt8) (v u : ByteArray) : Bool := if swOk l v u then sameB (runG (wds v) (rdG l)) (runG (wds u) (rdG l)) else false
theorem fin_bb {a b c d : Bool} (h1 : a = c) (h2 : b = d) : Ending.returned (.tuple #[.bool a, .bool b]) = .returned (.tuple #[.bool c, .bool d]) := by rw [h1, h2]
end Go.Proofs.YtpdmfbhjneodeaaGreatDoor
