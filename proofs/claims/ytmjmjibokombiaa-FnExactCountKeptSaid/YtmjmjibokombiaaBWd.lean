/-
  Plain mathematics: words of directions.
  Words and directions: in the program and in the model, and the law on words.
  Words turned: in the program and in the model, and the laws.
  Words turned, in the model, and the laws on them.
-/
import Derived.Test.YtmjmjibokombiaaBIm
import Derived.Test.YtmjmjibokombiaaBTxt
import Derived.Lib.SlTrimSet
import Derived.Test.YtmjmjibokombiaaShelf
import Derived.Shelf.Strings.SlTrimAscii
import Derived.Test.YtmjmjibokombiaaBLs
import Derived.Lib.ConvBytes
import Derived.Test.YtmjmjibokombiaaBSp
namespace Go.Proofs.Ytmjmjibokombiaa
open Go.RowKit
def dirsL : List UInt8 := [117, 114, 100, 108]
def dirB (b : UInt8) : Bool := dirsL.contains b
/-- The text is a word. -/
def wordB (s : ByteArray) : Bool := decide (s.size ≤ 40) && s.data.toList.all dirB
theorem trimS_nil (l cs : List UInt8) : Lib.trimS l cs = [] ↔ l.all (cs.contains ·) = true := by
  unfold Lib.trimS Lib.trimLeftS
  have key : (Lib.trimRightS l cs).all (cs.contains ·) = true ↔ l.all (cs.contains ·) = true := by
    unfold Lib.trimRightS
    have e := List.takeWhile_append_dropWhile (p := (cs.contains ·)) (l := l.reverse)
    have ht : (l.reverse.takeWhile (cs.contains ·)).all (cs.contains ·) = true := List.all_takeWhile
    have h2 : l.reverse.all (cs.contains ·) = ((l.reverse.takeWhile (cs.contains ·)).all (cs.contains ·) && (l.reverse.dropWhile (cs.contains ·)).all (cs.contains ·)) := by
      rw [← List.all_append, e]
    rw [List.all_reverse] at h2 ⊢
    rw [h2, ht, Bool.true_and]
  rw [← key]
  generalize Lib.trimRightS l cs = m
  induction m with
  | nil => simp
  | cons b m ih =>
    rw [List.dropWhile_cons, List.all_cons]
    by_cases h : cs.contains b = true
    · rw [if_pos h, h, Bool.true_and]; exact ih
    · rw [if_neg h]
      simp at h
      simp [h]
theorem str_nil {l : List UInt8} : ((⟨l.toArray⟩ : ByteArray) = ⟨#[]⟩) ↔ l = [] := by
  constructor
  · intro h
    have := congrArg (fun s : ByteArray => s.data.toList) h
    simpa using this
  · rintro rfl; rfl
/-- The number of a direction, -1 for all else. -/
def dI (b : UInt8) : Int := if b = 117 then 0 else if b = 114 then 1 else if b = 100 then 2 else if b = 108 then 3 else -1
theorem dI_neg (b : UInt8) : dI b < 0 ↔ dirB b = false := by
  have h : ∀ n : Fin 256, dI (UInt8.ofNat n.val) < 0 ↔ dirB (UInt8.ofNat n.val) = false := of_decide_eq_true (by kernel_rfl)
  have := h ⟨b.toNat, b.toNat_lt⟩
  simpa using this
theorem dI_index (b : UInt8) : Lib.indexByte [117, 114, 100, 108] b = dI b := by
  have h : ∀ n : Fin 256, Lib.indexByte [117, 114, 100, 108] (UInt8.ofNat n.val) = dI (UInt8.ofNat n.val) := of_decide_eq_true (by kernel_rfl)
  have := h ⟨b.toNat, b.toNat_lt⟩
  simpa using this
theorem dI_lt (b : UInt8) : dI b < 4 := by
  unfold dI; split <;> (try split) <;> (try split) <;> (try split) <;> omega
/-- The number of a text as a direction. -/
def dS (s : ByteArray) : Int := if s.size = 1 then dI (hd s) else -1
/-- A direction turned by k quarters. -/
def rotB (b : UInt8) (k : Nat) : UInt8 := dirsL.getD (((dI b).toNat + k) % 4) 0
theorem byte_sub (s : ByteArray) (i : Nat) (h : i < s.size) : s.extract i (i + 1) = ⟨#[s[i]]⟩ := by
  apply ByteArray.ext
  apply Array.toList_inj.1
  rw [Lib.extract_data, ByteArray.getElem_eq_getElem_data]
  have hl : i < s.data.toList.length := h
  rw [show i + 1 - i = 1 by omega]
  rw [List.drop_eq_getElem_cons hl]
  simp
end Go.Proofs.Ytmjmjibokombiaa
namespace Go.Proofs.Ytmjmjibokombiaa
open Go.RowKit
theorem eql_bool (a b : ByteArray) : (a.toList == b.toList) = decide (a = b) := by
  rw [Lib.toList_data, Lib.toList_data, Bool.eq_iff_iff, beq_iff_eq, decide_eq_true_eq]
  constructor
  · intro h; exact ByteArray.ext (Array.toList_inj.1 h)
  · rintro rfl; rfl
theorem dS_hit (s : ByteArray) : (s = ⟨#[117]⟩ → dS s = 0) ∧ (s = ⟨#[114]⟩ → dS s = 1) ∧ (s = ⟨#[100]⟩ → dS s = 2) ∧ (s = ⟨#[108]⟩ → dS s = 3) := by
  refine ⟨?_, ?_, ?_, ?_⟩ <;> (rintro rfl; rfl)
theorem dS_miss (s : ByteArray) (h0 : s ≠ ⟨#[117]⟩) (h1 : s ≠ ⟨#[114]⟩) (h2 : s ≠ ⟨#[100]⟩) (h3 : s ≠ ⟨#[108]⟩) : dS s = -1 := by
  unfold dS
  by_cases h : s.size = 1
  · rw [if_pos h]
    have e := one_of s h
    unfold dI
    rw [if_neg, if_neg, if_neg, if_neg]
    all_goals intro e2; rw [e2] at e
    · exact h3 e
    · exact h2 e
    · exact h1 e
    · exact h0 e
  · rw [if_neg h]
theorem wordB_iff {s : ByteArray} : wordB s = true ↔ s.size ≤ 40 ∧ ∀ i (h : i < s.size), dirB s[i] = true := by
  unfold wordB
  rw [Bool.and_eq_true, decide_eq_true_eq, List.all_eq_true]
  refine and_congr Iff.rfl ⟨fun h i hi => h _ ?_, fun h b hb => ?_⟩
  · rw [ByteArray.getElem_eq_getElem_data]; exact Array.getElem_mem_toList hi
  · obtain ⟨i, hi, rfl⟩ := List.getElem_of_mem hb
    exact h i hi
end Go.Proofs.Ytmjmjibokombiaa
namespace Go.Proofs.Ytmjmjibokombiaa
open Go.RowKit
theorem bytesWorld_gr (w : World) (e : TypeId) (s : ByteArray) : Gr w (Lib.bytesWorld w e s) :=
  ⟨rfl, rfl, rfl, by rw [Lib.bytesWorld_size]; omega, fun j hj => Lib.bytesWorld_at_old w e s j hj⟩
/-- The block of a text's bytes: those of c, with spare cells behind, and one frozen cell behind its end. -/
def BB (w : World) (B : Nat) (c : List UInt8) (e : TypeId) : Prop := ∃ (cs : Array Value) (fr : Nat × Nat), w.heap[B]? = some (.cells cs e fr) ∧ c.length ≤ cs.size ∧ cs.size ≤ fr.1 ∧ ∀ j, j < c.length → cs[j]? = some (byteV (at0 c j))
theorem Gr.bb {w w' : World} (h : Gr w w') {B : Nat} {c : List UInt8} {e : TypeId} (hb : BB w B c e) : BB w' B c e := by
  obtain ⟨cs, fr, h1, h2, h3, h4⟩ := hb
  exact ⟨cs, fr, h.keep h1, h2, h3, h4⟩
theorem BB.lt {w : World} {B : Nat} {c : List UInt8} {e : TypeId} (h : BB w B c e) : B < w.heap.size := by
  obtain ⟨cs, fr, h1, _⟩ := h; exact Gr.lt h1
theorem BB.cell {w : World} {B : Nat} {c : List UInt8} {e : TypeId} (h : BB w B c e) (j : Nat) (hj : j < c.length) : w.cell? ⟨B, j, none⟩ = some (.int .u8 (at0 c j).toNat) := by
  obtain ⟨cs, fr, h1, h2, h3, h4⟩ := h
  rw [cell_of_row w B j cs e fr h1]
  exact h4 j hj
theorem bytesWorld_bb (w : World) (e : TypeId) (s : ByteArray) : BB (Lib.bytesWorld w e s) w.heap.size s.data.toList e := by
  refine ⟨_, _, Lib.bytesWorld_at_new w e s, ?_, Nat.le_refl _, fun j hj => ?_⟩
  · unfold Lib.bytesCells; simp
  · have h1 := Lib.bytesWorld_cell w e s j (by simpa using hj)
    rw [cell_of_row _ _ j _ e _ (Lib.bytesWorld_at_new w e s)] at h1
    exact h1
/-- A text of a list of bytes. -/
def mkS (l : List UInt8) : ByteArray := ⟨l.toArray⟩
theorem mkS_at (c : List UInt8) (i : Nat) (h : i < (mkS c).size) : (mkS c)[i] = at0 c i := by
  have hl : i < c.length := by
    have : (mkS c).size = c.length := by show c.toArray.size = _; simp
    omega
  rw [ByteArray.getElem_eq_getElem_data]
  show c.toArray[i]'(by simpa using hl) = _
  unfold at0
  simp [List.getD, hl]
theorem BB.bytes {w : World} {B : Nat} {c : List UInt8} {e : TypeId} (h : BB w B c e) : Lib.Bytes w B 0 (mkS c) := by
  intro i hi
  have hl : i < c.length := by
    have : (mkS c).size = c.length := by show c.toArray.size = _; simp
    omega
  rw [Nat.zero_add, h.cell i hl, mkS_at c i hi]
section
variable {P : Program} {w : World} {ops : Array Oper} {rest : List Oper} {a : Act} {Q : Exit → Act → World → Prop} {dst : Option Tmp} {ty : TypeId} {pos : String} {aft : Array Edge} {gd : Option (Nat × Bool)}
/-- A text's bytes in new memory. -/
theorem r_bytes (src dt e : TypeId) {u : TypeDesc} (x : Operand) (s : ByteArray) (hx : a.eval x = .string s) (hs : P.underlying src = some u) (hd : P.underlying dt = some (.slice e)) (he : P.underlying e = some (.int .u8))
    (hgd : Region.wanted ⟨dst, .convert src dt x, ty, pos, aft, gd⟩ (yielded ops a.tmps) = true)
    (h : ∀ w1 B cap, Gr w w1 → w.heap.size ≤ B → BB w1 B s.data.toList e → s.size ≤ cap → wpList P ops Q rest (a.put dst (.slice (some ⟨B, 0, none⟩) s.size cap)) w1) : wpList P ops Q (⟨dst, .convert src dt x, ty, pos, aft, gd⟩ :: rest) a w :=
  wpList_want hgd fun _ hK => by
    unfold Oper.wp execOp
    simp only [hx, Sem.run_bind, Lib.run_convert_string_bytes w src dt e s hs hd he, Result.andThen_ok, Sem.run_pure, Oper.upon]
    exact hK _ _ (h _ _ _ (bytesWorld_gr w e s) (Nat.le_refl _) (bytesWorld_bb w e s) (grownCap_ge w s.size 0 e))
/-- One byte of it is written. -/
theorem r_store_bb (T e : TypeId) (p x : Operand) (B j : Nat) (c : List UInt8) (hp : a.eval p = .pointer (some ⟨B, j, none⟩)) (b : UInt8) (hx : a.eval x = .int .u8 b.toNat) (hb : BB w B c e) (hj : j < c.length) (hs : ∀ w, (sizeOf T).run P w = .ok 1 w)
    (hgd : Region.wanted ⟨dst, .store T p x, ty, pos, aft, gd⟩ (yielded ops a.tmps) = true)
    (h : ∀ w1, Upd B w w1 → BB w1 B (c.set j b) e → wpList P ops Q rest (a.put dst undef) w1) : wpList P ops Q (⟨dst, .store T p x, ty, pos, aft, gd⟩ :: rest) a w :=
  wpList_want hgd fun _ hK => by
    obtain ⟨cs, fr, h1, h2, h3, h4⟩ := hb
    have hrun : (Instr.storeAt T (.pointer (some ⟨B, j, none⟩)) (.int .u8 b.toNat)).run P w = .ok () (w.setCell ⟨B, j, none⟩ (.int .u8 b.toNat)) := by
      have hfz : w.frozen? ⟨B, j, none⟩ = false := by
        unfold World.frozen?
        simp only [h1]
        simp
        omega
      have hst := run_storeCells_cells (P := P) B j [.int .u8 b.toNat] 0 w (fun i hi => by
        have : i = 0 := by simpa using hi
        subst this
        rw [show j + 0 + 0 = j from rfl, cell_of_row w B j cs e fr h1]
        simp [show j < cs.size by omega]) (fun i hi => by
        have : i = 0 := by simpa using hi
        subst this
        exact hfz) (by intro v hv; simp at hv; subst hv; rfl)
      unfold Instr.storeAt storeVar
      simp only [Instr.sureAddr, Sem.run_bind, Sem.run_pure, Result.andThen_ok, hs w, Value.cells]
      simpa [World.setCells] using hst
    unfold Oper.wp execOp
    simp only [hp, hx, Sem.run_bind, hrun, Result.andThen_ok, Sem.run_pure, Oper.upon]
    refine hK _ _ (h _ (Upd.setCell w ⟨B, j, none⟩ _) ⟨cs.setIfInBounds j (.int .u8 b.toNat), fr, by (rw [setCell_eq_setRow w B j cs e fr _ h1]; exact setRow_heap w B cs _ e fr h1), by simpa using h2, by simpa using h3, fun i hi => ?_⟩)
    rw [List.length_set] at hi
    rw [Array.getElem?_setIfInBounds, at0_set c j b i hj]
    by_cases e1 : j = i
    · rw [if_pos e1, if_pos e1, if_pos (by omega)]; rfl
    · rw [if_neg e1, if_neg e1]; exact h4 i hi
end
/-- The first j directions turned. -/
def rotTo (c : List UInt8) (k : Nat) : Nat → List UInt8
  | 0 => c
  | j + 1 => (rotTo c k j).set j (rotB (at0 c j) k)
theorem rotTo_length (c : List UInt8) (k j : Nat) : (rotTo c k j).length = c.length := by
  induction j with
  | zero => rfl
  | succ j ih => unfold rotTo; simp [ih]
theorem rotTo_at (c : List UInt8) (k j i : Nat) (h : j ≤ i) (hj : j ≤ c.length) : at0 (rotTo c k j) i = at0 c i := by
  induction j with
  | zero => rfl
  | succ j ih =>
    show at0 ((rotTo c k j).set j _) i = _
    rw [at0_set _ _ _ _ (by rw [rotTo_length]; omega), if_neg (by omega)]
    exact ih (by omega) (by omega)
theorem rotTo_done (c : List UInt8) (k j i : Nat) (h : i < j) (hj : j ≤ c.length) : at0 (rotTo c k j) i = rotB (at0 c i) k := by
  induction j with
  | zero => omega
  | succ j ih =>
    show at0 ((rotTo c k j).set j _) i = _
    rw [at0_set _ _ _ _ (by rw [rotTo_length]; omega)]
    by_cases e : j = i
    · subst e; rw [if_pos rfl]
    · rw [if_neg e]; exact ih (by omega) (by omega)
theorem rotTo_end (c : List UInt8) (k : Nat) : rotTo c k c.length = c.map fun b => rotB b k := by
  apply list_ext (by rw [rotTo_length]; simp)
  intro i hi
  rw [rotTo_length] at hi
  rw [rotTo_done c k c.length i hi (Nat.le_refl _)]
  unfold at0
  simp [List.getD, hi]
def btw' (k : Int) : Bool := decide (0 ≤ k) && decide (k ≤ 3)
def twOk (s : ByteArray) (k : Int) : Bool := wordB s && btw' k
def twS (s : ByteArray) (k : Int) : ByteArray := if twOk s k then mkS (s.data.toList.map fun b => rotB b k.toNat) else ⟨#[]⟩
theorem word_at {s : ByteArray} (h : wordB s = true) (i : Nat) (hi : i < s.data.toList.length) : dirB (at0 s.data.toList i) = true := by
  have h2 := (wordB_iff.1 h).2 i (by rw [Array.length_toList] at hi; exact hi)
  rw [ByteArray.getElem_eq_getElem_data] at h2
  show dirB (s.data.toList.getD i 0) = true
  rw [List.getD_eq_getElem?_getD, List.getElem?_eq_getElem hi]
  simpa using h2
theorem rot_index {b : UInt8} (h : dirB b = true) : ∃ d : Nat, dI b = d ∧ d < 4 := by
  have h1 : ¬ dI b < 0 := by rw [dI_neg, h]; simp
  have h2 := dI_lt b
  exact ⟨(dI b).toNat, by omega, by omega⟩
end Go.Proofs.Ytmjmjibokombiaa
namespace Go.Proofs.Ytmjmjibokombiaa
open Go.RowKit
theorem mkS_append (l : List UInt8) (b : UInt8) : mkS l ++ ⟨#[b]⟩ = mkS (l ++ [b]) := by
  unfold mkS
  rw [show (⟨#[b]⟩ : ByteArray) = ⟨[b].toArray⟩ from rfl, mkB_append]
theorem mkS_size (l : List UInt8) : (mkS l).size = l.length := by show l.toArray.size = _; simp
def rotL (c : List UInt8) (k j : Nat) : List UInt8 := (c.take j).map fun b => rotB b k
theorem rotL_succ (c : List UInt8) (k j : Nat) (h : j < c.length) : rotL c k (j + 1) = rotL c k j ++ [rotB (at0 c j) k] := by
  unfold rotL
  rw [List.take_add_one, List.map_append, List.getElem?_eq_getElem h]
  unfold at0
  simp [List.getD, h]
theorem rotL_length (c : List UInt8) (k j : Nat) : (rotL c k j).length ≤ c.length := by unfold rotL; simp; omega
theorem urdl_at (m : Nat) (h : m < 4) : (⟨#[117, 114, 100, 108]⟩ : ByteArray).extract m (m + 1) = ⟨#[dirsL.getD m 0]⟩ := by
  have hc : m = 0 ∨ m = 1 ∨ m = 2 ∨ m = 3 := by omega
  rcases hc with rfl | rfl | rfl | rfl <;> rfl
end Go.Proofs.Ytmjmjibokombiaa
