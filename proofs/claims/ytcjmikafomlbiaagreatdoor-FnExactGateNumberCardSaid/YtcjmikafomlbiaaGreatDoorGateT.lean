/-
  A machine in memory: its count, eight trays one behind the other, and the list of its outputs.
-/
import Derived.Test.YtcjmikafomlbiaaGreatDoorGateF
import Derived.Test.YtcjmikafomlbiaaGreatDoorGateW
import Derived.Test.YtcjmikafomlbiaaGreatDoorPeriI
import Derived.Deep.MidRow
namespace Go.Proofs.YtcjmikafomlbiaaGreatDoor
open Go.RowKit
def mcC (count : Int) (F : Nat → Grid) (sl : Value) : List Value := .int .i64 count :: ((rowsG F 8).flatten ++ [sl])
theorem rowsG_flat (F : Nat → Grid) : (rowsG F 8).flatten.length = 304 := by rw [flat_len (rowsG_wide F 8), rowsG_length]
theorem mcC_length (count : Int) (F : Nat → Grid) (sl : Value) : (mcC count F sl).length = 306 := by
  unfold mcC
  rw [List.length_cons, List.length_append, rowsG_flat]
  rfl
theorem mcC_count (count : Int) (F : Nat → Grid) (sl : Value) : (mcC count F sl)[0]? = some (.int .i64 count) := rfl
theorem mcC_tray (count : Int) (F : Nat → Grid) (sl : Value) {k i : Nat} (hk : k < 8) (hi : i < 38) : (mcC count F sl)[1 + (k * 38 + i)]? = (gvG (F k)).toList[i]? := by
  unfold mcC
  rw [Nat.add_comm, List.getElem?_cons_succ, List.getElem?_append_left (by rw [rowsG_flat]; omega), flat_get hi k (rowsG_wide F 8) (by rw [rowsG_length]; exact hk), rowsG_get F hk]
theorem mcC_outs (count : Int) (F : Nat → Grid) (sl : Value) : (mcC count F sl)[305]? = some sl := by
  unfold mcC
  rw [List.getElem?_cons_succ, List.getElem?_append_right (by rw [rowsG_flat]; omega), rowsG_flat]
  rfl
def updF (F : Nat → Grid) (k : Nat) (g : Grid) : Nat → Grid := fun j => if j = k then g else F j
theorem mcC_congr (count : Int) {F G : Nat → Grid} (sl : Value) (h : ∀ k, k < 8 → F k = G k) : mcC count F sl = mcC count G sl := by
  unfold mcC rowsG
  congr 3
  apply List.map_congr_left
  intro k hk
  rw [h k (List.mem_range.1 hk)]
theorem setCells_all {B : Nat} {T : TypeId} : ∀ (vs : List Value) (o : Nat) (w : World) (cs : Array Value), Blk w B cs T → o + vs.length ≤ cs.size →
    Upd B w (w.setCells B o vs) ∧ ∃ cs' : Array Value, Blk (w.setCells B o vs) B cs' T ∧ cs'.size = cs.size ∧ ∀ k, cs'[k]? = if o ≤ k ∧ k < o + vs.length then vs[k - o]? else cs[k]?
  | [], o, w, cs, hb, _ => ⟨⟨rfl, rfl, rfl, rfl, fun _ _ => rfl⟩, cs, hb, rfl, fun k => by rw [if_neg (by simp)]⟩
  | v :: r, o, w, cs, hb, hl => by
    have hl' : o + (r.length + 1) ≤ cs.size := hl
    have hu : Upd B w (w.setCell ⟨B, o, none⟩ v) := Upd.setCell w ⟨B, o, none⟩ v
    have hb1 : Blk (w.setCell ⟨B, o, none⟩ v) B (cs.setIfInBounds o v) T := heap_setCell_same w B o cs T v hb
    obtain ⟨u2, cs', b2, hs, hk⟩ := setCells_all r (o + 1) (w.setCell ⟨B, o, none⟩ v) (cs.setIfInBounds o v) hb1 (by rw [Array.size_setIfInBounds]; omega)
    refine ⟨?_, cs', b2, by rw [hs, Array.size_setIfInBounds], fun k => ?_⟩
    · exact ⟨u2.os.trans hu.os, u2.tape.trans hu.tape, u2.output.trans hu.output, hu.size.trans u2.size, fun k h => (u2.block k h).trans (hu.block k h)⟩
    · rw [hk k, List.length_cons]
      by_cases h1 : k = o
      · subst h1
        rw [if_neg (by omega), if_pos (by omega), Array.getElem?_setIfInBounds, if_pos rfl, if_pos (by omega), Nat.sub_self]
        rfl
      · by_cases h2 : o + 1 ≤ k ∧ k < o + 1 + r.length
        · rw [if_pos h2, if_pos (by omega), show k - o = (k - (o + 1)) + 1 by omega, List.getElem?_cons_succ]
        · rw [if_neg h2, if_neg (by omega), Array.getElem?_setIfInBounds, if_neg (fun h => h1 h.symm)]
/-- A tray written into the machine's block. -/
theorem mc_store {w : World} {B : Nat} {T : TypeId} {count : Int} {F : Nat → Grid} {sl : Value} (hb : Blk w B (mcC count F sl).toArray T) {k : Nat} (hk : k < 8) (g : Grid) :
    Upd B w (w.setCells B (1 + k * 38) (gvG g).toList) ∧ Blk (w.setCells B (1 + k * 38) (gvG g).toList) B (mcC count (updF F k g) sl).toArray T := by
  have h38 : (gvG g).toList.length = 38 := gvl38 g
  obtain ⟨u, cs', b, hs, hc⟩ := setCells_all (T := T) (gvG g).toList (1 + k * 38) w _ hb (by rw [h38, List.size_toArray, mcC_length]; omega)
  refine ⟨u, ?_⟩
  have e : cs' = (mcC count (updF F k g) sl).toArray := by
    apply Array.ext_getElem?
    intro j
    rw [hc j, h38, List.getElem?_toArray, List.getElem?_toArray]
    rcases Nat.lt_trichotomy j 0 with h | rfl | h
    · omega
    · rw [if_neg (by omega)]; rfl
    · by_cases hj : j < 305
      · obtain ⟨a, i, hi, rfl⟩ : ∃ a i, i < 38 ∧ j = 1 + (a * 38 + i) := ⟨(j - 1) / 38, (j - 1) % 38, Nat.mod_lt _ (by omega), by have := Nat.div_add_mod (j - 1) 38; omega⟩
        have ha : a < 8 := by omega
        rw [mcC_tray count (updF F k g) sl ha hi, mcC_tray count F sl ha hi]
        unfold updF
        by_cases hak : a = k
        · subst hak
          rw [if_pos (by omega), if_pos rfl]
          rw [show 1 + (a * 38 + i) - (1 + a * 38) = i by omega]
        · rw [if_neg hak, if_neg (by omega)]
      · rw [if_neg (by omega)]
        by_cases h5 : j = 305
        · rw [h5, mcC_outs, mcC_outs]
        · rw [List.getElem?_eq_none (by rw [mcC_length]; omega), List.getElem?_eq_none (by rw [mcC_length]; omega)]
  rw [← e]
  exact b
theorem mc_range {w : World} {B : Nat} {T : TypeId} {count : Int} {F : Nat → Grid} {sl : Value} (hb : Blk w B (mcC count F sl).toArray T) {k : Nat} (hk : k < 8) : w.rangeAt B (1 + k * 38) (gvG (F k)).toList := by
  intro j v hj
  have hj38 : j < 38 := by
    rcases Nat.lt_or_ge j 38 with h | h
    · exact h
    · rw [List.getElem?_eq_none (by rw [gvl38]; exact h)] at hj; cases hj
  have := hb.cell (1 + k * 38 + j)
  rw [this, List.getElem?_toArray, Nat.add_assoc, mcC_tray count F sl hk hj38]
  exact hj
theorem mc_cells {P : Program} {w : World} {B : Nat} {T : TypeId} {count : Int} {F : Nat → Grid} {sl : Value} (hb : Blk w B (mcC count F sl).toArray T) {k : Nat} (hk : k < 8) (g : Grid) :
    (storeCells ⟨B, 1 + k * 38, none⟩ (gvG g).toList : Sem Unit).run P w = .ok () (w.setCells B (1 + k * 38) (gvG g).toList) := by
  have := run_storeCells_cells (P := P) B (1 + k * 38) (gvG g).toList 0 w (fun j hj => by
    rw [gvl38] at hj
    rw [hb.cell, List.getElem?_toArray, Nat.add_zero, Nat.add_assoc, mcC_tray count F sl hk hj, List.getElem?_eq_getElem (by rw [gvl38]; exact hj)]
    rfl) (fun j hj => hb.free _) (gv_one _ _ _)
  simpa only [Nat.add_zero] using this
section
variable {P : Program} {w : World} {ops : Array Oper} {rest : List Oper} {a : Act} {Q : Exit → Act → World → Prop} {dst : Option Tmp} {ty : TypeId} {pos : String} {aft : Array Edge}
theorem r_store_tray (T TM : TypeId) (x y : Operand) (B k : Nat) (g : Grid) (count : Int) (F : Nat → Grid) (sl : Value) (hx : a.eval x = .pointer (some ⟨B, 1 + k * 38, none⟩)) (hy : a.eval y = .agg (gvG g)) (hb : Blk w B (mcC count F sl).toArray TM) (hk : k < 8)
    (hi : (P.info? T).map (·.size) = some (gvG g).size)
    (h : ∀ w1, Upd B w w1 → Blk w1 B (mcC count (updF F k g) sl).toArray TM → wpList P ops Q rest (a.put dst undef) w1) : wpList P ops Q (⟨dst, .store T x y, ty, pos, aft, none⟩ :: rest) a w := by
  have hm := mc_store (T := TM) hb hk g
  refine wpList_store_mid rfl T x y rfl B (1 + k * 38) (gvG g) hx hy ?_ hi (by have := all_oneCell_toArray (gv_one g.w g.h g.c); rwa [Array.toArray_toList] at this) ?_
  · intro j hj
    rw [show (gvG g).size = 38 from gv_size _ _ _] at hj
    rw [hb.cell (1 + k * 38 + j), List.getElem?_toArray, Nat.add_assoc, mcC_tray count F sl hk hj, List.getElem?_eq_getElem (by rw [gvl38]; exact hj)]
    exact ⟨rfl, hb.free _⟩
  · exact h _ hm.1 hm.2
end
end Go.Proofs.YtcjmikafomlbiaaGreatDoor
