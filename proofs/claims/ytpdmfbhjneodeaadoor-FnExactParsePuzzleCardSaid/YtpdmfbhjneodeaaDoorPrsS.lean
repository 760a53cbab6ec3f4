/-
  The text of a puzzle read by the model: pieces, numbers, and the puzzle.
-/
import Derived.Test.YtpdmfbhjneodeaaDoorPrsP
import Derived.Test.YtpdmfbhjneodeaaDoorListsT
namespace Go.Proofs.YtpdmfbhjneodeaaDoor
open Go.RowKit
/-- A piece's text. -/
theorem piB_snoc (c : UInt8) (l : List UInt8) (x : UInt8) : piB c (l ++ [x]) = if x = c then piB c l ++ [[]] else (piB c l).dropLast ++ [(piB c l).getLastD [] ++ [x]] := by
  induction l with
  | nil => simp [piB]
  | cons d r ih =>
    have hp := piB_ne c r
    rw [List.cons_append, piB]
    conv => rhs; unfold piB
    rw [ih]
    cases h : piB c r with
    | nil => exact absurd h hp
    | cons p q =>
      by_cases hc : x = c <;> by_cases hd : d = c <;> simp [hc, hd]
      · cases q <;> simp
/-- What the model has behind i bytes: the pieces that are whole, and where the last one begins. -/
structure SpI (c : UInt8) (l : List UInt8) (i f : Nat) (M : List (List UInt8)) : Prop where
  le : f ≤ i
  il : i ≤ l.length
  pi : piB c (l.take i) = M ++ [(l.take i).drop f]
theorem SpI.start (c : UInt8) (l : List UInt8) : SpI c l 0 0 [] := ⟨Nat.le_refl _, Nat.zero_le _, rfl⟩
theorem take_at0 {l : List UInt8} {i : Nat} (h : i < l.length) : l.take (i + 1) = l.take i ++ [l[i]] := List.take_succ_eq_append_getElem h
theorem SpI.cut {c : UInt8} {l : List UInt8} {i f : Nat} {M : List (List UInt8)} (h : SpI c l i f M) (hi : i < l.length) (hc : l[i] = c) : SpI c l (i + 1) (i + 1) (M ++ [(l.take i).drop f]) :=
  ⟨Nat.le_refl _, hi, by
    have e : (l.take i ++ [l[i]]).drop (i + 1) = [] := List.drop_of_length_le (by rw [List.length_append, List.length_take]; simp; omega)
    rw [take_at0 hi, piB_snoc, if_pos hc, h.pi, e]⟩
theorem SpI.on {c : UInt8} {l : List UInt8} {i f : Nat} {M : List (List UInt8)} (h : SpI c l i f M) (hi : i < l.length) (hc : ¬ l[i] = c) : SpI c l (i + 1) f M :=
  ⟨by have := h.le; omega, hi, by
    rw [take_at0 hi, piB_snoc, if_neg hc, h.pi, List.dropLast_concat, List.drop_append_of_le_length (by rw [List.length_take]; have := h.le; omega)]
    rw [List.getLastD_eq_getLast?, List.getLast?_concat]
    rfl⟩
theorem SpI.done {c : UInt8} {l : List UInt8} {f : Nat} {M : List (List UInt8)} (h : SpI c l l.length f M) : piB c l = M ++ [l.drop f] := by
  have := h.pi
  rwa [List.take_length] at this
theorem mk_extract (l : List UInt8) (f i : Nat) : (⟨l.toArray⟩ : ByteArray).extract f i = ⟨((l.take i).drop f).toArray⟩ := by
  apply ByteArray.ext
  rw [ByteArray.data_extract]
  apply Array.toList_inj.1
  simp [List.extract, List.drop_take]
theorem SpI.len {c : UInt8} {l : List UInt8} {i f : Nat} {M : List (List UInt8)} (h : SpI c l i f M) : M.length ≤ i := by
  have : ∀ (l : List UInt8), (piB c l).length ≤ l.length + 1 := by
    intro l
    induction l with
    | nil => exact Nat.le_refl _
    | cons x r ih =>
      unfold piB
      split
      · rw [List.length_cons, List.length_cons]; omega
      · cases hq : piB c r with
        | nil => exact absurd hq (piB_ne c r)
        | cons y t => rw [hq] at ih; simp at ih ⊢; omega
  have h2 := this (l.take i)
  rw [h.pi, List.length_append, List.length_singleton, List.length_take] at h2
  omega
theorem Tryd.strIP : ElemInfo Tryd.prog 35 9 (.string ⟨#[]⟩) 1 16 := ⟨Tryd.underlying35, by kernel_rfl, rfl, by decide⟩
theorem Tryd.bstrP (s : ByteArray) (w : World) : (Instr.buildSlice 35 1 #[(0, .string s)]).run Tryd.prog w = .ok (.slice (some ⟨w.heap.size, 0, none⟩) 1 1) (w.alloc (.cells #[.string s] 9)) := by kernel_rfl
theorem Tryd.subP (s : ByteArray) (f i : Nat) (h1 : f ≤ i) (h2 : i ≤ s.size) (w : World) : (Instr.sliceAt 9 (.string s) (some (.int .i64 f)) (some (.int .i64 i)) none).run Tryd.prog w = .ok (.string (s.extract f i)) w := by
  rw [run_sliceAt_string (P := Tryd.prog) w 9 _ _ _ _ Tryd.underlying9, run_slice_string_if (P := Tryd.prog) w 9 s .i64 .i64 f i Tryd.underlying9, if_pos (by omega), if_pos (by omega)]
  simp
theorem Tryd.fromP (s : ByteArray) (f : Nat) (h1 : f ≤ s.size) (w : World) : (Instr.sliceAt 9 (.string s) (some (.int .i64 f)) none none).run Tryd.prog w = .ok (.string (s.extract f s.size)) w := by
  rw [run_sliceAt_string (P := Tryd.prog) w 9 _ _ _ _ Tryd.underlying9, run_slice_string_from_if (P := Tryd.prog) w 9 s .i64 f Tryd.underlying9, if_pos (by omega)]
  simp
theorem idxP {P : Program} {t : TypeId} (ht : P.underlying t = some (.string)) (l : List UInt8) (i : Nat) (h : i < l.length) (w : World) : (Instr.index t (.string ⟨l.toArray⟩) (.int .i64 i)).run P w = .ok (.int .u8 (l[i]).toNat) w := by
  have := run_index_string (P := P) w t (⟨l.toArray⟩ : ByteArray) .i64 i ht
  rw [this, dif_pos ⟨Int.natCast_nonneg _, by show (i : Int) < ((l.toArray.size : Nat) : Int); simp; omega⟩]
  rfl
theorem e_eqB {P : Program} {w : World} {a : Act} {dst : Option Tmp} {ty T yt : TypeId} {pos : String} {aft : Array Edge} {gd : Option (Nat × Bool)} {k : IntKind} (x y : Operand) (m n : Int) (v : Bool) (hx : a.eval x = .int k m) (hy : a.eval y = .int k n) (hv : decide (m = n) = v) :
    (execOp a.eval ⟨dst, .binOp .eql T x y yt, ty, pos, aft, gd⟩).run P w = .ok (.value (.bool v)) w := by
  subst hv
  unfold execOp
  have e : (m == n) = decide (m = n) := by rw [Bool.eq_iff_iff, beq_iff_eq, decide_eq_true_eq]
  simp [hx, hy, eqGuard, binOp, Op.intCmp, e]
def intN : Value → Nat
  | .int _ n => n.toNat
  | _ => 0
set_option maxHeartbeats 2000000 in
set_option maxRecDepth 100000 in
theorem l1Split_any (l : List UInt8) (c : UInt8) (w : World) (hl : l.length ≤ 60) : Calls Tryd.prog 19 #[.string ⟨l.toArray⟩, .int .u8 c.toNat] w fun e w' => Gr w w' ∧ ∃ v, e = .returned v ∧ w'.ownsRow w.heap.size 9 1 v (piB c l).length (strV (piB c l)) := by
  have gg := Gr.refl w
  obtain ⟨n, hn⟩ : ∃ n, n = l.length := ⟨_, rfl⟩
  have HN := hidI hn
  obtain ⟨s, hs⟩ : ∃ s : ByteArray, s = ⟨l.toArray⟩ := ⟨_, rfl⟩
  have hsz : s.size = n := by rw [hs, hn]; exact List.size_toArray
  have HS := hidI hs
  have HIX := hidI (fun i (hi : i < n) w => show (Instr.index 9 (.string s) (.int .i64 i)).run Tryd.prog w = .ok (.int .u8 ((l.getD i 0).toNat)) w from by
    rw [hs]
    have := idxP (P := Tryd.prog) Tryd.underlying9 l i (by rw [← hn]; exact hi) w
    rw [this, List.getD_eq_getElem?_getD, List.getElem?_eq_getElem (by rw [← hn]; exact hi)]
    rfl)
  have HSB := hidI (fun f i (h1 : f ≤ i) (h2 : i ≤ n) w => show (Instr.sliceAt 9 (.string s) (some (.int .i64 f)) (some (.int .i64 i)) none).run Tryd.prog w = .ok (tx ((l.take i).drop f)) w from by
    rw [Tryd.subP s f i h1 (by rw [hsz]; exact h2), hs, mk_extract]
    rfl)
  have HSF := hidI (fun f (h1 : f ≤ n) w => show (Instr.sliceAt 9 (.string s) (some (.int .i64 f)) none none).run Tryd.prog w = .ok (tx (l.drop f)) w from by
    rw [Tryd.fromP s f (by rw [hsz]; exact h1), hsz, hs, mk_extract, hn, List.take_length]
    rfl)
  have HGE := hidI (fun i (hi : i < n) => show ∀ h : i < l.length, l[i] = l.getD i 0 from fun h => by rw [List.getD_eq_getElem?_getD, List.getElem?_eq_getElem h]; rfl)
  rw [← hs]
  rw [← hn] at hl
  clear hn hs
  go_enter Tryd.func19, Tryd.ntmps19
  go_wp2
  have own0 : w.ownsRow w.heap.size 9 1 (.slice none 0 0) ([] : List (List UInt8)).length (strV []) := World.ownsRow_nil _ _ _ _
  go_loopw [5, 6, 7] (fun ov fv iv wr => ∃ (i f : Nat) (M : List (List UInt8)), fv = .int .i64 f ∧ iv = .int .i64 i ∧ Hid (SpI c l i f M) ∧ f ≤ i ∧ i ≤ n ∧ M.length ≤ i ∧ wr.ownsRow w.heap.size 9 1 ov M.length (strV M) ∧ Gr w wr) (fun _ _ iv _ => n - intN iv)
  case atStart => exact ⟨0, 0, [], rfl, rfl, hidI (SpI.start c l), Nat.le_refl _, Nat.zero_le _, Nat.zero_le _, own0, gg⟩
  case round =>
    clear own0 gg
    obtain ⟨i, f, M, rfl, rfl, HI, hfi, hin, hMi, own, gg⟩ := hrel
    have zr := gg.size
    by_cases hlt : i < n
    · have hix := HIX.out i hlt
      have hge := HGE.out i hlt (by rw [← HN.out]; exact hlt)
      have HCU := hidI (fun (h : l.getD i 0 = c) => HI.out.cut (by rw [← HN.out]; exact hlt) (hge.trans h))
      have HON := hidI (fun (h : ¬ l.getD i 0 = c) => HI.out.on (by rw [← HN.out]; exact hlt) (fun e => h (hge.symm.trans e)))
      obtain ⟨x, hx⟩ : ∃ x, x = l.getD i 0 := ⟨_, rfl⟩
      rw [← hx] at hix HCU HON
      have HSS := hidI (HSB.out f i hfi hin)
      obtain ⟨pc, hpc⟩ : ∃ pc, pc = (l.take i).drop f := ⟨_, rfl⟩
      rw [← hpc] at HSS HCU
      clear hx hge hpc
      by_cases hc : x = c
      · have HC2 := hidI (HCU.out hc)
        have hd : decide ((x.toNat : Int) = (c.toNat : Int)) = true := decide_eq_true (by rw [hc])
        clear hc HCU HON
        go_wp2_with (first | (refine r_val (.int .u8 x.toNat) (e_val _ _ (hix _)) rfl ?_) | (refine r_val (.bool true) (e_eqB _ _ _ _ true rfl rfl hd) rfl ?_) | (refine r_val (tx pc) (e_val _ _ (HSS.out _)) rfl ?_) | (refine r_slice1 35 9 (.tmp 23) (tx pc) rfl (Tryd.bstrP _ _) rfl ?_; intro w3 B3 N3; have g3 := N3.gr; have own := g3.row own; have gg := gg.trans g3; have z3 := g3.size) | (refine r_append (.tmp 19) (.tmp 24) 35 9 _ 1 16 w.heap.size Tryd.strIP _ M.length (strV M) rfl own ⟨B3, 0, none⟩ 1 1 [tx pc] rfl rfl N3.cell1 (by intro u hu; simp at hu; subst hu; rfl) (by omega) (by decide) (by omega) rfl ?_; intro v4 w4 own4 g4))
        have own5 : w4.ownsRow w.heap.size 9 1 v4 (M ++ [pc]).length (strV (M ++ [pc])) := by
          rw [List.length_append, ← strV_append]
          exact own4
        go_roundw
        case rel => exact ⟨i + 1, i + 1, M ++ [pc], by go_num, by go_num, HC2, Nat.le_refl _, hlt, by rw [List.length_append]; simp; omega, own5, g4.gr gg (own_gr own (Nat.le_refl _))⟩
        case measure => simp [intN]; omega
      · have HC2 := hidI (HON.out hc)
        have hd : decide ((x.toNat : Int) = (c.toNat : Int)) = false := decide_eq_false (fun e => hc (UInt8.toNat_inj.1 (by omega)))
        clear hc HCU HON
        go_wp2_with (first | (refine r_val (.int .u8 x.toNat) (e_val _ _ (hix _)) rfl ?_) | (refine r_val (.bool false) (e_eqB _ _ _ _ false rfl rfl hd) rfl ?_))
        go_roundw
        case rel => exact ⟨i + 1, f, M, rfl, by go_num, HC2, by omega, hlt, by omega, own, gg⟩
        case measure => simp [intN]; omega
    · obtain rfl : i = n := by omega
      have HV := hidI (show piB c l = M ++ [l.drop f] from by have := HI.out; rw [HN.out] at this; exact this.done)
      have HSS := hidI (HSF.out f hfi)
      obtain ⟨pc, hpc⟩ : ∃ pc, pc = l.drop f := ⟨_, rfl⟩
      rw [← hpc] at HSS HV
      clear hlt hpc
      go_wp2_with (first | (refine r_val (tx pc) (e_val _ _ (HSS.out _)) rfl ?_) | (refine r_slice1 35 9 (.tmp 31) (tx pc) rfl (Tryd.bstrP _ _) rfl ?_; intro w3 B3 N3; have g3 := N3.gr; have own := g3.row own; have gg := gg.trans g3; have z3 := g3.size) | (refine r_append (.tmp 28) (.tmp 32) 35 9 _ 1 16 w.heap.size Tryd.strIP _ M.length (strV M) rfl own ⟨B3, 0, none⟩ 1 1 [tx pc] rfl rfl N3.cell1 (by intro u hu; simp at hu; subst hu; rfl) (by omega) (by decide) (by omega) rfl ?_; intro v4 w4 own4 g4))
      go_ret
      refine ⟨g4.gr gg (own_gr own (Nat.le_refl _)), _, rfl, ?_⟩
      rw [HV.out, List.length_append, ← strV_append]
      exact own4
end Go.Proofs.YtpdmfbhjneodeaaDoor
