/-
  Plain mathematics: words of directions.
  Words and directions: in the program and in the model, and the law on words.
  Words turned: in the program and in the model, and the laws.
  Words turned, in the model, and the laws on them.
-/
import Derived.Test.YtdebiobhmpoiiaaDoorBIm
import Derived.Test.YtdebiobhmpoiiaaDoorBTxt
import Derived.Lib.SlTrimSet
import Derived.Test.YtdebiobhmpoiiaaDoorShelf
import Derived.Shelf.Strings.SlTrimAscii
import Derived.Test.YtdebiobhmpoiiaaDoorBLs
import Derived.Lib.ConvBytes
import Derived.Test.YtdebiobhmpoiiaaDoorBSp
namespace Go.Proofs.YtdebiobhmpoiiaaDoor
open Go.RowKit
def dirsL : List UInt8 := [117, 114, 100, 108]
def dirB (b : UInt8) : Bool := dirsL.contains b
/-- The text is a word. -/
def wordB (s : ByteArray) : Bool := decide (s.size ≤ 40) && s.data.toList.all dirB
theorem trimS_nil (l cs : List UInt8) : Lib.trimS l cs = [] ↔ l.all (cs.contains ·) = true := by
  unfold Lib.trimS Lib.trimLeftS
  have key : (Lib.trimRightS l cs).all (cs.contains ·) = true ↔ l.all (cs.contains ·) = true := by
    unfold Lib.trimRightS
    have e := List.takeWhile_append_dropWhile (p := (cs.contains ·)) (l := l.reverse)
    have ht : (l.reverse.takeWhile (cs.contains ·)).all (cs.contains ·) = true := List.all_takeWhile
    have h2 : l.reverse.all (cs.contains ·) = ((l.reverse.takeWhile (cs.contains ·)).all (cs.contains ·) && (l.reverse.dropWhile (cs.contains ·)).all (cs.contains ·)) := by
      rw [← List.all_append, e]
    rw [List.all_reverse] at h2 ⊢
    rw [h2, ht, Bool.true_and]
  rw [← key]
  generalize Lib.trimRightS l cs = m
  induction m with
  | nil => simp
  | cons b m ih =>
    rw [List.dropWhile_cons, List.all_cons]
    by_cases h : cs.contains b = true
    · rw [if_pos h, h, Bool.true_and]; exact ih
    · rw [if_neg h]
      simp at h
      simp [h]
theorem str_nil {l : List UInt8} : ((⟨l.toArray⟩ : ByteArray) = ⟨#[]⟩) ↔ l = [] := by
  constructor
  · intro h
    have := congrArg (fun s : ByteArray => s.data.toList) h
    simpa using this
  · rintro rfl; rfl
/-- The number of a direction, -1 for all else. -/
def dI (b : UInt8) : Int := if b = 117 then 0 else if b = 114 then 1 else if b = 100 then 2 else if b = 108 then 3 else -1
theorem dI_neg (b : UInt8) : dI b < 0 ↔ dirB b = false := by
  have h : ∀ n : Fin 256, dI (UInt8.ofNat n.val) < 0 ↔ dirB (UInt8.ofNat n.val) = false := of_decide_eq_true (by kernel_rfl)
  have := h ⟨b.toNat, b.toNat_lt⟩
  simpa using this
theorem dI_index (b : UInt8) : Lib.indexByte [117, 114, 100, 108] b = dI b := by
  have h : ∀ n : Fin 256, Lib.indexByte [117, 114, 100, 108] (UInt8.ofNat n.val) = dI (UInt8.ofNat n.val) := of_decide_eq_true (by kernel_rfl)
  have := h ⟨b.toNat, b.toNat_lt⟩
  simpa using this
theorem dI_lt (b : UInt8) : dI b < 4 := by
  unfold dI; split <;> (try split) <;> (try split) <;> (try split) <;> omega
/-- The number of a text as a direction. -/
def dS (s : ByteArray) : Int := if s.size = 1 then dI (hd s) else -1
/-- A direction turned by k quarters. -/
def rotB (b : UInt8) (k : Nat) : UInt8 := dirsL.getD (((dI b).toNat + k) % 4) 0
theorem byte_sub (s : ByteArray) (i : Nat) (h : i < s.size) : s.extract i (i + 1) = ⟨#[s[i]]⟩ := by
  apply ByteArray.ext
  apply Array.toList_inj.1
  rw [Lib.extract_data, ByteArray.getElem_eq_getElem_data]
  have hl : i < s.data.toList.length := h
  rw [show i + 1 - i = 1 by omega]
  rw [List.drop_eq_getElem_cons hl]
  simp
end Go.Proofs.YtdebiobhmpoiiaaDoor
namespace Go.Proofs.YtdebiobhmpoiiaaDoor
open Go.RowKit
theorem eql_bool (a b : ByteArray) : (a.toList == b.toList) = decide (a = b) := by
  rw [Lib.toList_data, Lib.toList_data, Bool.eq_iff_iff, beq_iff_eq, decide_eq_true_eq]
  constructor
  · intro h; exact ByteArray.ext (Array.toList_inj.1 h)
  · rintro rfl; rfl
theorem dS_hit (s : ByteArray) : (s = ⟨#[117]⟩ → dS s = 0) ∧ (s = ⟨#[114]⟩ → dS s = 1) ∧ (s = ⟨#[100]⟩ → dS s = 2) ∧ (s = ⟨#[108]⟩ → dS s = 3) := by
  refine ⟨?_, ?_, ?_, ?_⟩ <;> (rintro rfl; rfl)
theorem dS_miss (s : ByteArray) (h0 : s ≠ ⟨#[117]⟩) (h1 : s ≠ ⟨#[114]⟩) (h2 : s ≠ ⟨#[100]⟩) (h3 : s ≠ ⟨#[108]⟩) : dS s = -1 := by
  unfold dS
  by_cases h : s.size = 1
  · rw [if_pos h]
    have e := one_of s h
    unfold dI
    rw [if_neg, if_neg, if_neg, if_neg]
    all_goals intro e2; rw [e2] at e
    · exact h3 e
    · exact h2 e
    · exact h1 e
    · exact h0 e
  · rw [if_neg h]
theorem wordB_iff {s : ByteArray} : wordB s = true ↔ s.size ≤ 40 ∧ ∀ i (h : i < s.size), dirB s[i] = true := by
  unfold wordB
  rw [Bool.and_eq_true, decide_eq_true_eq, List.all_eq_true]
  refine and_congr Iff.rfl ⟨fun h i hi => h _ ?_, fun h b hb => ?_⟩
  · rw [ByteArray.getElem_eq_getElem_data]; exact Array.getElem_mem_toList hi
  · obtain ⟨i, hi, rfl⟩ := List.getElem_of_mem hb
    exact h i hi
set_option maxHeartbeats 1000000 in
theorem iIsWord (s : ByteArray) (w : World) : Calls Tryd.prog 30 #[.string s] w (Ret (.bool (wordB s)) w) := by
  have gg := Gr.refl w
  by_cases h : s.size ≤ 40
  · have hc : ∀ w, Calls Tryd.prog 58 #[.string s, .string ⟨#[117, 114, 100, 108]⟩] w fun e w' => e = .returned (.string ⟨(Lib.trimS s.data.toList [117, 114, 100, 108]).toArray⟩) ∧ Below w.heap.size w w' := fun w =>
      Any.strings_Trim_laid Tryd.lays160 (by kernel_rfl) s ⟨#[117, 114, 100, 108]⟩ w (by omega) (by decide) (ascii_of_all (by decide))
    have HC := hidI hc
    have hv : (Lib.trimS s.data.toList [117, 114, 100, 108]).isEmpty = wordB s := by
      unfold wordB
      rw [decide_eq_true h, Bool.true_and, Bool.eq_iff_iff, List.isEmpty_iff, trimS_nil]
      rfl
    have HV := hidI hv
    clear hc hv
    go_enter Tryd.func30, Tryd.ntmps30
    go_wp2_with (go_at_call 58; refine (HC.out _).mono ?_; rintro e w1 ⟨rfl, g1⟩; have gg : Gr w w1 := g1)
    go_ret
    exact ⟨ret_bool HV.out, gg⟩
  · have HV := hidI (show wordB s = false from by unfold wordB; rw [decide_eq_false h]; rfl)
    have h' : 40 < s.size := by omega
    clear h
    go_enter Tryd.func30, Tryd.ntmps30
    go_wp2
    go_ret
    exact ⟨ret_bool HV.out.symm, gg⟩
theorem Tryd.ssub (s : ByteArray) (i : Nat) (h : i < s.size) (w : World) : (Instr.sliceAt 9 (.string s) (some (.int .i64 i)) (some (.int .i64 ((i : Int) + 1))) none).run Tryd.prog w = .ok (.string ⟨#[s[i]'h]⟩) w := by
  rw [run_sliceAt_string (P := Tryd.prog) w 9 _ _ _ _ Tryd.underlying9, run_slice_string_if (P := Tryd.prog) w 9 s .i64 .i64 i ((i : Int) + 1) Tryd.underlying9, if_pos (by omega), if_pos (by omega)]
  have e1 : ((i : Int)).toNat = i := by omega
  have e2 : ((i : Int) + 1).toNat = i + 1 := by omega
  rw [e1, e2, byte_sub s i h]
set_option maxHeartbeats 1000000 in
theorem tiDirs_any (w : World) : Calls Tryd.prog 61 #[] w fun e w' => e = .returned (.string ⟨#[117, 114, 100, 108]⟩) ∧ w = w' := by
  go_enter Tryd.func61, Tryd.ntmps61
  go_wp2
  go_ret
  exact ⟨rfl, rfl⟩
set_option maxHeartbeats 2000000 in
theorem tiDir_any (s : ByteArray) (w : World) : Calls Tryd.prog 92 #[.string s] w (Ret (.int .i64 (dS s)) w) := by
  have gg := Gr.refl w
  have HH := hidI (dS_hit s)
  go_enter Tryd.func92, Tryd.ntmps92
  go_wp2
  go_loop [3] (fun i => ∃ k : Nat, k ≤ 4 ∧ i = .int .i64 k ∧ Hid ((0 < k → s ≠ ⟨#[117]⟩) ∧ (1 < k → s ≠ ⟨#[114]⟩) ∧ (2 < k → s ≠ ⟨#[100]⟩) ∧ (3 < k → s ≠ ⟨#[108]⟩))) (fun i => 4 - (intOf i).toNat)
  case atStart => exact ⟨0, by omega, rfl, fun h => absurd h (by omega), fun h => absurd h (by omega), fun h => absurd h (by omega), fun h => absurd h (by omega)⟩
  case round =>
    obtain ⟨k, hk, rfl, HA⟩ := hrel
    have hcs : k = 0 ∨ k = 1 ∨ k = 2 ∨ k = 3 ∨ k = 4 := by omega
    clear hk
    rcases hcs with rfl | rfl | rfl | rfl | rfl
    · have hq : (s.toList == ((⟨#[117, 114, 100, 108]⟩ : ByteArray).extract 0 1).toList) = decide (s = ⟨#[117]⟩) := eql_bool _ _
      by_cases hb : s = ⟨#[117]⟩
      · rw [decide_eq_true hb] at hq
        have HV := hidI (HH.out.1 hb)
        clear hb
        go_wp2_with (go_at_call 61; refine (tiDirs_any _).mono ?_; rintro e wSame ⟨rfl, rfl⟩)
        go_ret
        exact ⟨ret_int HV.out.symm, gg⟩
      · rw [decide_eq_false hb] at hq
        have HB := hidI hb
        clear hb
        go_wp2_with (go_at_call 61; refine (tiDirs_any _).mono ?_; rintro e wSame ⟨rfl, rfl⟩)
        go_round
        case rel => exact ⟨1, by omega, by go_num, fun _ => HB.out, fun h => absurd h (by omega), fun h => absurd h (by omega), fun h => absurd h (by omega)⟩
        case measure => simp [intOf]
    · have hq : (s.toList == ((⟨#[117, 114, 100, 108]⟩ : ByteArray).extract 1 2).toList) = decide (s = ⟨#[114]⟩) := eql_bool _ _
      by_cases hb : s = ⟨#[114]⟩
      · rw [decide_eq_true hb] at hq
        have HV := hidI (HH.out.2.1 hb)
        clear hb
        go_wp2_with (go_at_call 61; refine (tiDirs_any _).mono ?_; rintro e wSame ⟨rfl, rfl⟩)
        go_ret
        exact ⟨ret_int HV.out.symm, gg⟩
      · rw [decide_eq_false hb] at hq
        have HB := hidI hb
        clear hb
        go_wp2_with (go_at_call 61; refine (tiDirs_any _).mono ?_; rintro e wSame ⟨rfl, rfl⟩)
        go_round
        case rel => exact ⟨2, by omega, by go_num, fun _ => HA.out.1 (by omega), fun _ => HB.out, fun h => absurd h (by omega), fun h => absurd h (by omega)⟩
        case measure => simp [intOf]
    · have hq : (s.toList == ((⟨#[117, 114, 100, 108]⟩ : ByteArray).extract 2 3).toList) = decide (s = ⟨#[100]⟩) := eql_bool _ _
      by_cases hb : s = ⟨#[100]⟩
      · rw [decide_eq_true hb] at hq
        have HV := hidI (HH.out.2.2.1 hb)
        clear hb
        go_wp2_with (go_at_call 61; refine (tiDirs_any _).mono ?_; rintro e wSame ⟨rfl, rfl⟩)
        go_ret
        exact ⟨ret_int HV.out.symm, gg⟩
      · rw [decide_eq_false hb] at hq
        have HB := hidI hb
        clear hb
        go_wp2_with (go_at_call 61; refine (tiDirs_any _).mono ?_; rintro e wSame ⟨rfl, rfl⟩)
        go_round
        case rel => exact ⟨3, by omega, by go_num, fun _ => HA.out.1 (by omega), fun _ => HA.out.2.1 (by omega), fun _ => HB.out, fun h => absurd h (by omega)⟩
        case measure => simp [intOf]
    · have hq : (s.toList == ((⟨#[117, 114, 100, 108]⟩ : ByteArray).extract 3 4).toList) = decide (s = ⟨#[108]⟩) := eql_bool _ _
      by_cases hb : s = ⟨#[108]⟩
      · rw [decide_eq_true hb] at hq
        have HV := hidI (HH.out.2.2.2 hb)
        clear hb
        go_wp2_with (go_at_call 61; refine (tiDirs_any _).mono ?_; rintro e wSame ⟨rfl, rfl⟩)
        go_ret
        exact ⟨ret_int HV.out.symm, gg⟩
      · rw [decide_eq_false hb] at hq
        have HB := hidI hb
        clear hb
        go_wp2_with (go_at_call 61; refine (tiDirs_any _).mono ?_; rintro e wSame ⟨rfl, rfl⟩)
        go_round
        case rel => exact ⟨4, by omega, by go_num, fun _ => HA.out.1 (by omega), fun _ => HA.out.2.1 (by omega), fun _ => HA.out.2.2.1 (by omega), fun _ => HB.out⟩
        case measure => simp [intOf]
    · have HV := hidI (dS_miss s (HA.out.1 (by omega)) (HA.out.2.1 (by omega)) (HA.out.2.2.1 (by omega)) (HA.out.2.2.2 (by omega)))
      go_wp2
      go_ret
      exact ⟨ret_int HV.out.symm, gg⟩
set_option maxHeartbeats 2000000 in
theorem tiWord_any (s : ByteArray) (w : World) : Calls Tryd.prog 56 #[.string s] w (Ret (.bool (wordB s)) w) := by
  have gg := Gr.refl w
  by_cases h : s.size ≤ 40
  · go_enter Tryd.func56, Tryd.ntmps56
    go_wp2
    go_loopw [3] (fun i wr => ∃ k : Nat, k ≤ s.size ∧ i = .int .i64 k ∧ Gr w wr ∧ Hid (∀ j (hj : j < s.size), j < k → dirB s[j] = true)) (fun i _ => s.size - (intOf i).toNat)
    case atStart => exact ⟨0, Nat.zero_le _, rfl, gg, fun j _ hj => absurd hj (by omega)⟩
    case round =>
      obtain ⟨k, hk, rfl, gg, HA⟩ := hrel
      by_cases hlt : k < s.size
      · have hsl := Tryd.ssub s k hlt
        obtain ⟨b, hb⟩ : ∃ b, b = s[k] := ⟨_, rfl⟩
        rw [← hb] at hsl
        have hd1 : dS ⟨#[b]⟩ = dI b := rfl
        by_cases hd : dirB b = true
        · have hneg : ¬ dI b < 0 := by rw [dI_neg, hd]; simp
          have HD := hidI hd
          have HB := hidI hb
          clear hd hb
          go_wp2_with (go_at_call 92; refine (tiDir_any ⟨#[b]⟩ _).mono ?_; rintro e w1 ⟨rfl, g1⟩; rw [hd1]; have gg := gg.trans g1)
          go_roundw
          case rel => exact ⟨k + 1, by omega, by go_num, gg, fun j hj hjk => if h : j < k then HA.out j hj h else (by have e : j = k := (by omega); subst e; rw [← HB.out]; exact HD.out)⟩
          case measure => simp [intOf]; omega
        · have hneg : dI b < 0 := by rw [dI_neg]; simpa using hd
          have HV := hidI (show wordB s = false from by
            rw [← Bool.not_eq_true, wordB_iff]
            rintro ⟨_, h2⟩
            exact hd (by rw [hb]; exact h2 k hlt))
          clear hd hb
          go_wp2_with (go_at_call 92; refine (tiDir_any ⟨#[b]⟩ _).mono ?_; rintro e w1 ⟨rfl, g1⟩; rw [hd1]; have gg := gg.trans g1)
          go_ret
          exact ⟨ret_bool HV.out.symm, gg⟩
      · obtain rfl : k = s.size := by omega
        have HV := hidI (show wordB s = true from wordB_iff.2 ⟨h, fun i hi => HA.out i hi hi⟩)
        clear hlt
        go_wp2
        go_ret
        exact ⟨ret_bool HV.out.symm, gg⟩
  · have HV := hidI (show wordB s = false from by unfold wordB; rw [decide_eq_false h]; rfl)
    have h' : 40 < s.size := by omega
    clear h
    go_enter Tryd.func56, Tryd.ntmps56
    go_wp2
    go_ret
    exact ⟨ret_bool HV.out.symm, gg⟩
end Go.Proofs.YtdebiobhmpoiiaaDoor
namespace Go.Proofs.YtdebiobhmpoiiaaDoor
open Go.RowKit
theorem bytesWorld_gr (w : World) (e : TypeId) (s : ByteArray) : Gr w (Lib.bytesWorld w e s) :=
  ⟨rfl, rfl, rfl, by rw [Lib.bytesWorld_size]; omega, fun j hj => Lib.bytesWorld_at_old w e s j hj⟩
/-- The block of a text's bytes: those of c, with spare cells behind, and one frozen cell behind its end. -/
def BB (w : World) (B : Nat) (c : List UInt8) (e : TypeId) : Prop := ∃ (cs : Array Value) (fr : Nat × Nat), w.heap[B]? = some (.cells cs e fr) ∧ c.length ≤ cs.size ∧ cs.size ≤ fr.1 ∧ ∀ j, j < c.length → cs[j]? = some (byteV (at0 c j))
theorem Gr.bb {w w' : World} (h : Gr w w') {B : Nat} {c : List UInt8} {e : TypeId} (hb : BB w B c e) : BB w' B c e := by
  obtain ⟨cs, fr, h1, h2, h3, h4⟩ := hb
  exact ⟨cs, fr, h.keep h1, h2, h3, h4⟩
theorem BB.lt {w : World} {B : Nat} {c : List UInt8} {e : TypeId} (h : BB w B c e) : B < w.heap.size := by
  obtain ⟨cs, fr, h1, _⟩ := h; exact Gr.lt h1
theorem BB.cell {w : World} {B : Nat} {c : List UInt8} {e : TypeId} (h : BB w B c e) (j : Nat) (hj : j < c.length) : w.cell? ⟨B, j, none⟩ = some (.int .u8 (at0 c j).toNat) := by
  obtain ⟨cs, fr, h1, h2, h3, h4⟩ := h
  rw [cell_of_row w B j cs e fr h1]
  exact h4 j hj
theorem bytesWorld_bb (w : World) (e : TypeId) (s : ByteArray) : BB (Lib.bytesWorld w e s) w.heap.size s.data.toList e := by
  refine ⟨_, _, Lib.bytesWorld_at_new w e s, ?_, Nat.le_refl _, fun j hj => ?_⟩
  · unfold Lib.bytesCells; simp
  · have h1 := Lib.bytesWorld_cell w e s j (by simpa using hj)
    rw [cell_of_row _ _ j _ e _ (Lib.bytesWorld_at_new w e s)] at h1
    exact h1
/-- A text of a list of bytes. -/
def mkS (l : List UInt8) : ByteArray := ⟨l.toArray⟩
theorem mkS_at (c : List UInt8) (i : Nat) (h : i < (mkS c).size) : (mkS c)[i] = at0 c i := by
  have hl : i < c.length := by
    have : (mkS c).size = c.length := by show c.toArray.size = _; simp
    omega
  rw [ByteArray.getElem_eq_getElem_data]
  show c.toArray[i]'(by simpa using hl) = _
  unfold at0
  simp [List.getD, hl]
theorem BB.bytes {w : World} {B : Nat} {c : List UInt8} {e : TypeId} (h : BB w B c e) : Lib.Bytes w B 0 (mkS c) := by
  intro i hi
  have hl : i < c.length := by
    have : (mkS c).size = c.length := by show c.toArray.size = _; simp
    omega
  rw [Nat.zero_add, h.cell i hl, mkS_at c i hi]
section
variable {P : Program} {w : World} {ops : Array Oper} {rest : List Oper} {a : Act} {Q : Exit → Act → World → Prop} {dst : Option Tmp} {ty : TypeId} {pos : String} {aft : Array Edge} {gd : Option (Nat × Bool)}
/-- A text's bytes in new memory. -/
theorem r_bytes (src dt e : TypeId) {u : TypeDesc} (x : Operand) (s : ByteArray) (hx : a.eval x = .string s) (hs : P.underlying src = some u) (hd : P.underlying dt = some (.slice e)) (he : P.underlying e = some (.int .u8))
    (hgd : Region.wanted ⟨dst, .convert src dt x, ty, pos, aft, gd⟩ (yielded ops a.tmps) = true)
    (h : ∀ w1 B cap, Gr w w1 → w.heap.size ≤ B → BB w1 B s.data.toList e → s.size ≤ cap → wpList P ops Q rest (a.put dst (.slice (some ⟨B, 0, none⟩) s.size cap)) w1) : wpList P ops Q (⟨dst, .convert src dt x, ty, pos, aft, gd⟩ :: rest) a w :=
  wpList_want hgd fun _ hK => by
    unfold Oper.wp execOp
    simp only [hx, Sem.run_bind, Lib.run_convert_string_bytes w src dt e s hs hd he, Result.andThen_ok, Sem.run_pure, Oper.upon]
    exact hK _ _ (h _ _ _ (bytesWorld_gr w e s) (Nat.le_refl _) (bytesWorld_bb w e s) (grownCap_ge w s.size 0 e))
/-- One byte of it is written. -/
theorem r_store_bb (T e : TypeId) (p x : Operand) (B j : Nat) (c : List UInt8) (hp : a.eval p = .pointer (some ⟨B, j, none⟩)) (b : UInt8) (hx : a.eval x = .int .u8 b.toNat) (hb : BB w B c e) (hj : j < c.length) (hs : ∀ w, (sizeOf T).run P w = .ok 1 w)
    (hgd : Region.wanted ⟨dst, .store T p x, ty, pos, aft, gd⟩ (yielded ops a.tmps) = true)
    (h : ∀ w1, Upd B w w1 → BB w1 B (c.set j b) e → wpList P ops Q rest (a.put dst undef) w1) : wpList P ops Q (⟨dst, .store T p x, ty, pos, aft, gd⟩ :: rest) a w :=
  wpList_want hgd fun _ hK => by
    obtain ⟨cs, fr, h1, h2, h3, h4⟩ := hb
    have hrun : (Instr.storeAt T (.pointer (some ⟨B, j, none⟩)) (.int .u8 b.toNat)).run P w = .ok () (w.setCell ⟨B, j, none⟩ (.int .u8 b.toNat)) := by
      have hfz : w.frozen? ⟨B, j, none⟩ = false := by
        unfold World.frozen?
        simp only [h1]
        simp
        omega
      have hst := run_storeCells_cells (P := P) B j [.int .u8 b.toNat] 0 w (fun i hi => by
        have : i = 0 := by simpa using hi
        subst this
        rw [show j + 0 + 0 = j from rfl, cell_of_row w B j cs e fr h1]
        simp [show j < cs.size by omega]) (fun i hi => by
        have : i = 0 := by simpa using hi
        subst this
        exact hfz) (by intro v hv; simp at hv; subst hv; rfl)
      unfold Instr.storeAt storeVar
      simp only [Instr.sureAddr, Sem.run_bind, Sem.run_pure, Result.andThen_ok, hs w, Value.cells]
      simpa [World.setCells] using hst
    unfold Oper.wp execOp
    simp only [hp, hx, Sem.run_bind, hrun, Result.andThen_ok, Sem.run_pure, Oper.upon]
    refine hK _ _ (h _ (Upd.setCell w ⟨B, j, none⟩ _) ⟨cs.setIfInBounds j (.int .u8 b.toNat), fr, by (rw [setCell_eq_setRow w B j cs e fr _ h1]; exact setRow_heap w B cs _ e fr h1), by simpa using h2, by simpa using h3, fun i hi => ?_⟩)
    rw [List.length_set] at hi
    rw [Array.getElem?_setIfInBounds, at0_set c j b i hj]
    by_cases e1 : j = i
    · rw [if_pos e1, if_pos e1, if_pos (by omega)]; rfl
    · rw [if_neg e1, if_neg e1]; exact h4 i hi
end
/-- The first j directions turned. -/
def rotTo (c : List UInt8) (k : Nat) : Nat → List UInt8
  | 0 => c
  | j + 1 => (rotTo c k j).set j (rotB (at0 c j) k)
theorem rotTo_length (c : List UInt8) (k j : Nat) : (rotTo c k j).length = c.length := by
  induction j with
  | zero => rfl
  | succ j ih => unfold rotTo; simp [ih]
theorem rotTo_at (c : List UInt8) (k j i : Nat) (h : j ≤ i) (hj : j ≤ c.length) : at0 (rotTo c k j) i = at0 c i := by
  induction j with
  | zero => rfl
  | succ j ih =>
    show at0 ((rotTo c k j).set j _) i = _
    rw [at0_set _ _ _ _ (by rw [rotTo_length]; omega), if_neg (by omega)]
    exact ih (by omega) (by omega)
theorem rotTo_done (c : List UInt8) (k j i : Nat) (h : i < j) (hj : j ≤ c.length) : at0 (rotTo c k j) i = rotB (at0 c i) k := by
  induction j with
  | zero => omega
  | succ j ih =>
    show at0 ((rotTo c k j).set j _) i = _
    rw [at0_set _ _ _ _ (by rw [rotTo_length]; omega)]
    by_cases e : j = i
    · subst e; rw [if_pos rfl]
    · rw [if_neg e]; exact ih (by omega) (by omega)
theorem rotTo_end (c : List UInt8) (k : Nat) : rotTo c k c.length = c.map fun b => rotB b k := by
  apply list_ext (by rw [rotTo_length]; simp)
  intro i hi
  rw [rotTo_length] at hi
  rw [rotTo_done c k c.length i hi (Nat.le_refl _)]
  unfold at0
  simp [List.getD, hi]
def btw' (k : Int) : Bool := decide (0 ≤ k) && decide (k ≤ 3)
def twOk (s : ByteArray) (k : Int) : Bool := wordB s && btw' k
def twS (s : ByteArray) (k : Int) : ByteArray := if twOk s k then mkS (s.data.toList.map fun b => rotB b k.toNat) else ⟨#[]⟩
theorem word_at {s : ByteArray} (h : wordB s = true) (i : Nat) (hi : i < s.data.toList.length) : dirB (at0 s.data.toList i) = true := by
  have h2 := (wordB_iff.1 h).2 i (by rw [Array.length_toList] at hi; exact hi)
  rw [ByteArray.getElem_eq_getElem_data] at h2
  show dirB (s.data.toList.getD i 0) = true
  rw [List.getD_eq_getElem?_getD, List.getElem?_eq_getElem hi]
  simpa using h2
theorem rot_index {b : UInt8} (h : dirB b = true) : ∃ d : Nat, dI b = d ∧ d < 4 := by
  have h1 : ¬ dI b < 0 := by rw [dI_neg, h]; simp
  have h2 := dI_lt b
  exact ⟨(dI b).toNat, by omega, by omega⟩
set_option maxHeartbeats 1000000 in
theorem turnedDir_any (b : UInt8) (k : Nat) (w : World) (hb : dirB b = true) (hk : k ≤ 3) : Calls Tryd.prog 143 #[.int .u8 b.toNat, .int .i64 k] w fun e w' => e = .returned (.int .u8 (rotB b k).toNat) ∧ w = w' := by
  obtain ⟨d, hd, hd4⟩ := rot_index hb
  have HI := hidI (show Lib.indexByte (⟨#[117, 114, 100, 108]⟩ : ByteArray).data.toList ((b.toNat : Int).toNat.toUInt8) = (d : Int) from by
    have := (dI_index b).trans hd
    simpa using this)
  have hm : (d + k) % 4 < 4 := Nat.mod_lt _ (by decide)
  have hr : rotB b k = dirsL.getD ((d + k) % 4) 0 := by unfold rotB; rw [hd]; rfl
  have HR := hidI hr
  have hix : ∀ m : Nat, m < 4 → ∀ w, (Instr.index 9 (.string ⟨#[117, 114, 100, 108]⟩) (.int .i64 m)).run Tryd.prog w = .ok (.int .u8 (dirsL.getD m 0).toNat) w := by
    intro m hm w
    have h := run_index_string (P := Tryd.prog) w 9 ⟨#[117, 114, 100, 108]⟩ .i64 m Tryd.underlying9
    rw [h]
    have hc : m = 0 ∨ m = 1 ∨ m = 2 ∨ m = 3 := by omega
    rcases hc with rfl | rfl | rfl | rfl <;> rfl
  have hi2 := hix _ hm
  have e1 : (((d + k) % 4 : Nat) : Int) = ((d : Int) + (k : Int)) % 4 := by omega
  rw [e1] at hi2
  clear hb hd hix e1 hr
  go_enter Tryd.func143, Tryd.ntmps143
  go_wp2_with (go_at_call 125; refine (Tryd.strings_IndexByte _ _ _).mono ?_; rintro e wSame ⟨rfl, rfl⟩; rw [HI.out])
  go_ret
  exact ⟨by rw [HR.out]; rfl, rfl⟩
end Go.Proofs.YtdebiobhmpoiiaaDoor
namespace Go.Proofs.YtdebiobhmpoiiaaDoor
open Go.RowKit
theorem mkS_append (l : List UInt8) (b : UInt8) : mkS l ++ ⟨#[b]⟩ = mkS (l ++ [b]) := by
  unfold mkS
  rw [show (⟨#[b]⟩ : ByteArray) = ⟨[b].toArray⟩ from rfl, mkB_append]
theorem mkS_size (l : List UInt8) : (mkS l).size = l.length := by show l.toArray.size = _; simp
def rotL (c : List UInt8) (k j : Nat) : List UInt8 := (c.take j).map fun b => rotB b k
theorem rotL_succ (c : List UInt8) (k j : Nat) (h : j < c.length) : rotL c k (j + 1) = rotL c k j ++ [rotB (at0 c j) k] := by
  unfold rotL
  rw [List.take_add_one, List.map_append, List.getElem?_eq_getElem h]
  unfold at0
  simp [List.getD, h]
theorem rotL_length (c : List UInt8) (k j : Nat) : (rotL c k j).length ≤ c.length := by unfold rotL; simp; omega
theorem urdl_at (m : Nat) (h : m < 4) : (⟨#[117, 114, 100, 108]⟩ : ByteArray).extract m (m + 1) = ⟨#[dirsL.getD m 0]⟩ := by
  have hc : m = 0 ∨ m = 1 ∨ m = 2 ∨ m = 3 := by omega
  rcases hc with rfl | rfl | rfl | rfl <;> rfl
end Go.Proofs.YtdebiobhmpoiiaaDoor
