/-
  Words turned: in the program and in the model, and the laws.
-/
import Derived.Test.YthjkeohnjggmiaaDoorSpec2a
import Derived.Test.YthjkeohnjggmiaaDoorLists
import Derived.Lib.ConvBytes
namespace Go.Proofs.YthjkeohnjggmiaaDoor
open Go.RowKit
theorem bytesWorld_gr (w : World) (e : TypeId) (s : ByteArray) : Gr w (Lib.bytesWorld w e s) :=
  ⟨rfl, rfl, rfl, by rw [Lib.bytesWorld_size]; omega, fun j hj => Lib.bytesWorld_at_old w e s j hj⟩
/-- The block of a text's bytes: those of c, with spare cells behind, and one frozen cell behind its end. -/
def BB (w : World) (B : Nat) (c : List UInt8) (e : TypeId) : Prop := ∃ (cs : Array Value) (fr : Nat × Nat), w.heap[B]? = some (.cells cs e fr) ∧ c.length ≤ cs.size ∧ cs.size ≤ fr.1 ∧ ∀ j, j < c.length → cs[j]? = some (byteV (at0 c j))
theorem Gr.bb {w w' : World} (h : Gr w w') {B : Nat} {c : List UInt8} {e : TypeId} (hb : BB w B c e) : BB w' B c e := by
  obtain ⟨cs, fr, h1, h2, h3, h4⟩ := hb
  exact ⟨cs, fr, h.keep h1, h2, h3, h4⟩
theorem BB.lt {w : World} {B : Nat} {c : List UInt8} {e : TypeId} (h : BB w B c e) : B < w.heap.size := by
  obtain ⟨cs, fr, h1, _⟩ := h; exact Gr.lt h1
theorem BB.cell {w : World} {B : Nat} {c : List UInt8} {e : TypeId} (h : BB w B c e) (j : Nat) (hj : j < c.length) : w.cell? ⟨B, j, none⟩ = some (.int .u8 (at0 c j).toNat) := by
  obtain ⟨cs, fr, h1, h2, h3, h4⟩ := h
  rw [cell_of_row w B j cs e fr h1]
  exact h4 j hj
theorem bytesWorld_bb (w : World) (e : TypeId) (s : ByteArray) : BB (Lib.bytesWorld w e s) w.heap.size s.data.toList e := by
  refine ⟨_, _, Lib.bytesWorld_at_new w e s, ?_, Nat.le_refl _, fun j hj => ?_⟩
  · unfold Lib.bytesCells; simp
  · have h1 := Lib.bytesWorld_cell w e s j (by simpa using hj)
    rw [cell_of_row _ _ j _ e _ (Lib.bytesWorld_at_new w e s)] at h1
    exact h1
/-- A text of a list of bytes. -/
def mkS (l : List UInt8) : ByteArray := ⟨l.toArray⟩
theorem mkS_at (c : List UInt8) (i : Nat) (h : i < (mkS c).size) : (mkS c)[i] = at0 c i := by
  have hl : i < c.length := by
    have : (mkS c).size = c.length := by show c.toArray.size = _; simp
    omega
  rw [ByteArray.getElem_eq_getElem_data]
  show c.toArray[i]'(by simpa using hl) = _
  unfold at0
  simp [List.getD, hl]
theorem BB.bytes {w : World} {B : Nat} {c : List UInt8} {e : TypeId} (h : BB w B c e) : Lib.Bytes w B 0 (mkS c) := by
  intro i hi
  have hl : i < c.length := by
    have : (mkS c).size = c.length := by show c.toArray.size = _; simp
    omega
  rw [Nat.zero_add, h.cell i hl, mkS_at c i hi]
section
variable {P : Program} {w : World} {ops : Array Oper} {rest : List Oper} {a : Act} {Q : Exit → Act → World → Prop} {dst : Option Tmp} {ty : TypeId} {pos : String} {aft : Array Edge} {gd : Option (Nat × Bool)}
/-- A text's bytes in new memory. -/
theorem r_bytes (src dt e : TypeId) {u : TypeDesc} (x : Operand) (s : ByteArray) (hx : a.eval x = .string s) (hs : P.underlying src = some u) (hd : P.underlying dt = some (.slice e)) (he : P.underlying e = some (.int .u8))
    (hgd : Region.wanted ⟨dst, .convert src dt x, ty, pos, aft, gd⟩ (yielded ops a.tmps) = true)
    (h : ∀ w1 B cap, Gr w w1 → w.heap.size ≤ B → BB w1 B s.data.toList e → s.size ≤ cap → wpList P ops Q rest (a.put dst (.slice (some ⟨B, 0, none⟩) s.size cap)) w1) : wpList P ops Q (⟨dst, .convert src dt x, ty, pos, aft, gd⟩ :: rest) a w :=
  wpList_want hgd fun _ hK => by
    unfold Oper.wp execOp
    simp only [hx, Sem.run_bind, Lib.run_convert_string_bytes w src dt e s hs hd he, Result.andThen_ok, Sem.run_pure, Oper.upon]
    exact hK _ _ (h _ _ _ (bytesWorld_gr w e s) (Nat.le_refl _) (bytesWorld_bb w e s) (grownCap_ge w s.size 0 e))
/-- One byte of it is written. -/
theorem r_store_bb (T e : TypeId) (p x : Operand) (B j : Nat) (c : List UInt8) (hp : a.eval p = .pointer (some ⟨B, j, none⟩)) (b : UInt8) (hx : a.eval x = .int .u8 b.toNat) (hb : BB w B c e) (hj : j < c.length) (hs : ∀ w, (sizeOf T).run P w = .ok 1 w)
    (hgd : Region.wanted ⟨dst, .store T p x, ty, pos, aft, gd⟩ (yielded ops a.tmps) = true)
    (h : ∀ w1, Upd B w w1 → BB w1 B (c.set j b) e → wpList P ops Q rest (a.put dst undef) w1) : wpList P ops Q (⟨dst, .store T p x, ty, pos, aft, gd⟩ :: rest) a w :=
  wpList_want hgd fun _ hK => by
    obtain ⟨cs, fr, h1, h2, h3, h4⟩ := hb
    have hrun : (Instr.storeAt T (.pointer (some ⟨B, j, none⟩)) (.int .u8 b.toNat)).run P w = .ok () (w.setCell ⟨B, j, none⟩ (.int .u8 b.toNat)) := by
      have hfz : w.frozen? ⟨B, j, none⟩ = false := by
        unfold World.frozen?
        simp only [h1]
        simp
        omega
      have hst := run_storeCells_cells (P := P) B j [.int .u8 b.toNat] 0 w (fun i hi => by
        have : i = 0 := by simpa using hi
        subst this
        rw [show j + 0 + 0 = j from rfl, cell_of_row w B j cs e fr h1]
        simp [show j < cs.size by omega]) (fun i hi => by
        have : i = 0 := by simpa using hi
        subst this
        exact hfz) (by intro v hv; simp at hv; subst hv; rfl)
      unfold Instr.storeAt storeVar
      simp only [Instr.sureAddr, Sem.run_bind, Sem.run_pure, Result.andThen_ok, hs w, Value.cells]
      simpa [World.setCells] using hst
    unfold Oper.wp execOp
    simp only [hp, hx, Sem.run_bind, hrun, Result.andThen_ok, Sem.run_pure, Oper.upon]
    refine hK _ _ (h _ (Upd.setCell w ⟨B, j, none⟩ _) ⟨cs.setIfInBounds j (.int .u8 b.toNat), fr, by (rw [setCell_eq_setRow w B j cs e fr _ h1]; exact setRow_heap w B cs _ e fr h1), by simpa using h2, by simpa using h3, fun i hi => ?_⟩)
    rw [List.length_set] at hi
    rw [Array.getElem?_setIfInBounds, at0_set c j b i hj]
    by_cases e1 : j = i
    · rw [if_pos e1, if_pos e1, if_pos (by omega)]; rfl
    · rw [if_neg e1, if_neg e1]; exact h4 i hi
end
/-- The first j directions turned. -/
def rotTo (c : List UInt8) (k : Nat) : Nat → List UInt8
  | 0 => c
  | j + 1 => (rotTo c k j).set j (rotB (at0 c j) k)
theorem rotTo_length (c : List UInt8) (k j : Nat) : (rotTo c k j).length = c.length := by
  induction j with
  | zero => rfl
  | succ j ih => unfold rotTo; simp [ih]
theorem rotTo_at (c : List UInt8) (k j i : Nat) (h : j ≤ i) (hj : j ≤ c.length) : at0 (rotTo c k j) i = at0 c i := by
  induction j with
  | zero => rfl
  | succ j ih =>
    show at0 ((rotTo c k j).set j _) i = _
    rw [at0_set _ _ _ _ (by rw [rotTo_length]; omega), if_neg (by omega)]
    exact ih (by omega) (by omega)
theorem rotTo_done (c : List UInt8) (k j i : Nat) (h : i < j) (hj : j ≤ c.length) : at0 (rotTo c k j) i = rotB (at0 c i) k := by
  induction j with
  | zero => omega
  | succ j ih =>
    show at0 ((rotTo c k j).set j _) i = _
    rw [at0_set _ _ _ _ (by rw [rotTo_length]; omega)]
    by_cases e : j = i
    · subst e; rw [if_pos rfl]
    · rw [if_neg e]; exact ih (by omega) (by omega)
theorem rotTo_end (c : List UInt8) (k : Nat) : rotTo c k c.length = c.map fun b => rotB b k := by
  apply list_ext (by rw [rotTo_length]; simp)
  intro i hi
  rw [rotTo_length] at hi
  rw [rotTo_done c k c.length i hi (Nat.le_refl _)]
  unfold at0
  simp [List.getD, hi]
def btw' (k : Int) : Bool := decide (0 ≤ k) && decide (k ≤ 3)
def twOk (s : ByteArray) (k : Int) : Bool := wordB s && btw' k
def twS (s : ByteArray) (k : Int) : ByteArray := if twOk s k then mkS (s.data.toList.map fun b => rotB b k.toNat) else ⟨#[]⟩
theorem word_at {s : ByteArray} (h : wordB s = true) (i : Nat) (hi : i < s.data.toList.length) : dirB (at0 s.data.toList i) = true := by
  have h2 := (wordB_iff.1 h).2 i (by rw [Array.length_toList] at hi; exact hi)
  rw [ByteArray.getElem_eq_getElem_data] at h2
  show dirB (s.data.toList.getD i 0) = true
  rw [List.getD_eq_getElem?_getD, List.getElem?_eq_getElem hi]
  simpa using h2
theorem rot_index {b : UInt8} (h : dirB b = true) : ∃ d : Nat, dI b = d ∧ d < 4 := by
  have h1 : ¬ dI b < 0 := by rw [dI_neg, h]; simp
  have h2 := dI_lt b
  exact ⟨(dI b).toNat, by omega, by omega⟩
set_option maxHeartbeats 1000000 in
theorem turnedDir_any (b : UInt8) (k : Nat) (w : World) (hb : dirB b = true) (hk : k ≤ 3) : Calls Tryd.prog 73 #[.int .u8 b.toNat, .int .i64 k] w fun e w' => e = .returned (.int .u8 (rotB b k).toNat) ∧ w = w' := by
  obtain ⟨d, hd, hd4⟩ := rot_index hb
  have HI := hidI (show Lib.indexByte (⟨#[117, 114, 100, 108]⟩ : ByteArray).data.toList ((b.toNat : Int).toNat.toUInt8) = (d : Int) from by
    have := (dI_index b).trans hd
    simpa using this)
  have hm : (d + k) % 4 < 4 := Nat.mod_lt _ (by decide)
  have hr : rotB b k = dirsL.getD ((d + k) % 4) 0 := by unfold rotB; rw [hd]; rfl
  have HR := hidI hr
  have hix : ∀ m : Nat, m < 4 → ∀ w, (Instr.index 9 (.string ⟨#[117, 114, 100, 108]⟩) (.int .i64 m)).run Tryd.prog w = .ok (.int .u8 (dirsL.getD m 0).toNat) w := by
    intro m hm w
    have h := run_index_string (P := Tryd.prog) w 9 ⟨#[117, 114, 100, 108]⟩ .i64 m Tryd.underlying9
    rw [h]
    have hc : m = 0 ∨ m = 1 ∨ m = 2 ∨ m = 3 := by omega
    rcases hc with rfl | rfl | rfl | rfl <;> rfl
  have hi2 := hix _ hm
  have e1 : (((d + k) % 4 : Nat) : Int) = ((d : Int) + (k : Int)) % 4 := by omega
  rw [e1] at hi2
  clear hb hd hix e1 hr
  go_enter Tryd.func73, Tryd.ntmps73
  go_wp2_with (go_at_call 103; refine (Tryd.strings_IndexByte _ _ _).mono ?_; rintro e wSame ⟨rfl, rfl⟩; rw [HI.out])
  go_ret
  exact ⟨by rw [HR.out]; rfl, rfl⟩
set_option maxHeartbeats 2000000 in
set_option maxRecDepth 100000 in
theorem iTurnWord (s : ByteArray) (k : Int) (w : World) : Calls Tryd.prog 39 #[.string s, .int .i64 k] w (Ret (.tuple #[.string (twS s k), .bool (twOk s k)]) w) := by
  have gg := Gr.refl w
  have bad : twOk s k = false → twS s k = ⟨#[]⟩ := fun h => by unfold twS; rw [h]; rfl
  have BAD := hidI bad
  clear bad
  by_cases h1 : wordB s = true
  · have H1 := hidI h1
    by_cases hk : 0 ≤ k ∧ k ≤ 3
    · obtain ⟨k0, k3⟩ := hk
      obtain ⟨k, rfl⟩ : ∃ n : Nat, k = n := ⟨k.toNat, by omega⟩
      have hk3 : k ≤ 3 := by omega
      have HOK := hidI (show twOk s k = true from by unfold twOk btw'; rw [h1, decide_eq_true k0, decide_eq_true k3]; rfl)
      have HV := hidI (show twS s k = mkS (rotTo s.data.toList k s.data.toList.length) from by unfold twS; rw [HOK.out, rotTo_end]; rfl)
      have h40 := (wordB_iff.1 h1).1
      have HAT := hidI (word_at h1)
      have hsl : s.data.toList.length = s.size := Array.length_toList
      clear h1 k0 k3
      go_enter Tryd.func39, Tryd.ntmps39
      go_wp2_with (first | (go_at_call 33; refine (iIsWord s _).mono ?_; rintro e w1 ⟨rfl, g1⟩; rw [H1.out]; have z1 := g1.size; have gg := gg.trans g1) | (refine r_bytes 9 38 5 _ s rfl Tryd.underlying9 Tryd.underlying38 Tryd.underlying5 rfl ?_; intro w2 B2 cap2 g2 l2 b2 hcap; have z2 := g2.size; have gg := gg.trans g2))
      go_loopw [7, 8, 24] (fun _ _ i wr => ∃ j : Nat, j ≤ s.size ∧ i = .int .i64 j ∧ BB wr B2 (rotTo s.data.toList k j) 5 ∧ Gr w wr) (fun _ _ i _ => s.size - (intOf i).toNat)
      case atStart => exact ⟨0, Nat.zero_le _, rfl, b2, gg⟩
      case round =>
        obtain ⟨j, hj, rfl, b2, gg⟩ := hrel
        have lo2 : w.heap.size ≤ B2 := by omega
        have hlen := rotTo_length s.data.toList k j
        by_cases hlt : j < s.size
        · have hc := b2.cell j (by omega)
          rw [rotTo_at s.data.toList k j j (Nat.le_refl _) (by omega)] at hc
          have hd := HAT.out j (by omega)
          have HS := hidI (show (rotTo s.data.toList k j).set j (rotB (at0 s.data.toList j) k) = rotTo s.data.toList k (j + 1) from rfl)
          have hjl : j < (rotTo s.data.toList k j).length := by omega
          have HD := hidI hd
          clear hd
          go_wp2_with (first | (go_at_call 73; refine (turnedDir_any _ k _ HD.out hk3).mono ?_; rintro e wSame ⟨rfl, rfl⟩) | (refine r_store_bb 5 5 _ _ B2 j (rotTo s.data.toList k j) rfl (rotB (at0 s.data.toList j) k) rfl b2 hjl Tryd.sizeOf5 rfl ?_; intro w5 u5 b5; rw [HS.out] at b5; have gg := u5.gr gg lo2))
          go_roundw
          case rel => exact ⟨j + 1, by omega, by go_num, b5, gg⟩
          case measure => simp [intOf]; omega
        · obtain rfl : j = s.size := by omega
          have hby := b2.bytes
          rw [← hsl] at hby
          have HBY := hidI hby
          have hms : (mkS (rotTo s.data.toList k s.data.toList.length)).size = s.size := by
            show (rotTo s.data.toList k s.data.toList.length).toArray.size = _
            rw [List.size_toArray, rotTo_length, hsl]
          clear hlt hby
          go_wp2_with (refine r_conv 38 9 _ _ (.string (mkS (rotTo s.data.toList k s.data.toList.length))) rfl (Tryd.conv B2 0 _ _ _ HBY.out s.size hms) rfl ?_)
          go_ret2
          exact ⟨fin_sb HV.out.symm HOK.out.symm, gg⟩
    · have HOK := hidI (show twOk s k = false from by
        unfold twOk btw'; rw [h1, Bool.true_and, Bool.and_eq_false_iff, decide_eq_false_iff_not, decide_eq_false_iff_not]; omega)
      have HV := hidI (BAD.out HOK.out)
      have hcs : k < 0 ∨ (0 ≤ k ∧ 3 < k) := by omega
      clear h1 hk
      rcases hcs with n1 | ⟨n1, n2⟩
      all_goals
        go_enter Tryd.func39, Tryd.ntmps39
        go_wp2_with (go_at_call 33; refine (iIsWord s _).mono ?_; rintro e w1 ⟨rfl, g1⟩; rw [H1.out]; have z1 := g1.size; have gg := gg.trans g1)
        go_ret2
        exact ⟨fin_sb HV.out.symm HOK.out.symm, gg⟩
  · have H1 := hidI (show wordB s = false from by simpa using h1)
    have HOK := hidI (show twOk s k = false from by unfold twOk; rw [H1.out]; rfl)
    have HV := hidI (BAD.out HOK.out)
    clear h1
    go_enter Tryd.func39, Tryd.ntmps39
    go_wp2_with (go_at_call 33; refine (iIsWord s _).mono ?_; rintro e w1 ⟨rfl, g1⟩; rw [H1.out]; have z1 := g1.size; have gg := gg.trans g1)
    go_ret2
    exact ⟨fin_sb HV.out.symm HOK.out.symm, gg⟩
set_option maxHeartbeats 1000000 in
theorem iOppositeWord (s : ByteArray) (w : World) : Calls Tryd.prog 37 #[.string s] w (Ret (.tuple #[.string (twS s 2), .bool (twOk s 2)]) w) := by
  have gg := Gr.refl w
  go_enter Tryd.func37, Tryd.ntmps37
  go_wp2_with (go_at_call 39; refine (iTurnWord s 2 _).mono ?_; rintro e w1 ⟨rfl, g1⟩; have z1 := g1.size; have gg := gg.trans g1)
  go_ret2
  exact ⟨rfl, gg⟩
end Go.Proofs.YthjkeohnjggmiaaDoor
