/-
  The four directions as a literal's bytes: rules and facts.
-/
import Derived.Test.YtmjmjibokombiaaBWd
import Derived.Test.YtmjmjibokombiaaBLa
import Derived.Laws.BytesString
import Derived.Lib.SlBytesConst
namespace Go.Proofs.Ytmjmjibokombiaa
open Go.RowKit
def dB (d : Nat) : UInt8 := dirsL.getD d 0
theorem dB_cases {d : Nat} (h : d < 4) : (d = 0 ∧ dB d = 117) ∨ (d = 1 ∧ dB d = 114) ∨ (d = 2 ∧ dB d = 100) ∨ (d = 3 ∧ dB d = 108) := by
  have hc : d = 0 ∨ d = 1 ∨ d = 2 ∨ d = 3 := by omega
  rcases hc with rfl | rfl | rfl | rfl
  · exact .inl ⟨rfl, rfl⟩
  · exact .inr (.inl ⟨rfl, rfl⟩)
  · exact .inr (.inr (.inl ⟨rfl, rfl⟩))
  · exact .inr (.inr (.inr ⟨rfl, rfl⟩))
theorem dB_dir {d : Nat} (h : d < 4) : dirB (dB d) = true := by
  rcases dB_cases h with ⟨rfl, e⟩ | ⟨rfl, e⟩ | ⟨rfl, e⟩ | ⟨rfl, e⟩ <;> rfl
theorem dB_back (b : UInt8) (h : dirB b = true) : dB (dI b).toNat = b := by
  have h1 : ∀ n : Fin 256, dirB (UInt8.ofNat n.val) = true → dB (dI (UInt8.ofNat n.val)).toNat = UInt8.ofNat n.val := of_decide_eq_true (by kernel_rfl)
  have := h1 ⟨b.toNat, b.toNat_lt⟩
  simp only [UInt8.ofNat_toNat] at this
  exact this h
theorem dB_dI {b : UInt8} (h : dirB b = true) : ∃ d : Nat, d < 4 ∧ dI b = d ∧ b = dB d := by
  obtain ⟨d, hd, h4⟩ := rot_index h
  have e := dB_back b h
  rw [hd] at e
  exact ⟨d, h4, hd, e.symm⟩
def dirOk (s : ByteArray) : Bool := decide (s.size = 1) && dirB (hd s)
theorem dir_yes {s : ByteArray} (h : dirOk s = true) : ∃ d : Nat, d < 4 ∧ s = ⟨#[dB d]⟩ ∧ dS s = d := by
  unfold dirOk at h
  rw [Bool.and_eq_true, decide_eq_true_eq] at h
  obtain ⟨d, h4, hd, hb⟩ := dB_dI h.2
  refine ⟨d, h4, by rw [← hb]; exact one_of s h.1, ?_⟩
  unfold dS
  rw [if_pos h.1]
  exact hd
theorem dir_no {s : ByteArray} (h : dirOk s = false) : dS s < 0 := by
  unfold dS
  split
  · rename_i hs
    rw [dI_neg]
    unfold dirOk at h
    rw [decide_eq_true hs, Bool.true_and] at h
    exact h
  · decide
theorem own_bytes {w : World} {base G cap : Nat} {e : TypeId} {c : List UInt8} (h : w.ownsRow base e 1 (.slice (some ⟨G, 0, none⟩) c.length cap) c.length (cellsV c)) : Lib.Bytes w G 0 (mkS c) := by
  intro i hi
  have hl : i < c.length := by
    have : (mkS c).size = c.length := by show c.toArray.size = _; simp
    omega
  have := own_cell h i hl rfl
  rw [Nat.zero_add, this, mkS_at c i hi]
theorem Try.bs4 (w : World) : (Instr.buildSlice 58 4 #[(0, .int .u8 117), (1, .int .u8 114), (2, .int .u8 100), (3, .int .u8 108)]).run Try.prog w = .ok (.slice (some ⟨w.heap.size, 0, none⟩) 4 4) (w.alloc (.cells #[.int .u8 117, .int .u8 114, .int .u8 100, .int .u8 108] 5)) := by kernel_rfl
section
variable {P : Program} {w : World} {ops : Array Oper} {rest : List Oper} {a : Act} {Q : Exit → Act → World → Prop} {dst : Option Tmp} {ty : TypeId} {pos : String} {aft : Array Edge} {gd : Option (Nat × Bool)}
/-- A literal of four constants. -/
theorem r_slice4 (t e : TypeId) (c0 c1 c2 c3 : Value)
    (hr : (Instr.buildSlice t 4 #[(0, c0), (1, c1), (2, c2), (3, c3)]).run P w = .ok (.slice (some ⟨w.heap.size, 0, none⟩) 4 4) (w.alloc (.cells #[c0, c1, c2, c3] e)))
    (hgd : Region.wanted ⟨dst, .buildSlice t 4 #[(0, .const c0), (1, .const c1), (2, .const c2), (3, .const c3)], ty, pos, aft, gd⟩ (yielded ops a.tmps) = true)
    (h : wpList P ops Q rest (a.put dst (.slice (some ⟨w.heap.size, 0, none⟩) 4 4)) (w.alloc (.cells #[c0, c1, c2, c3] e))) :
    wpList P ops Q (⟨dst, .buildSlice t 4 #[(0, .const c0), (1, .const c1), (2, .const c2), (3, .const c3)], ty, pos, aft, gd⟩ :: rest) a w :=
  wpList_want hgd fun _ hK => by
    have e0 : (execOp a.eval ⟨dst, .buildSlice t 4 #[(0, .const c0), (1, .const c1), (2, .const c2), (3, .const c3)], ty, pos, aft, gd⟩).run P w = .ok (.value (.slice (some ⟨w.heap.size, 0, none⟩) 4 4)) (w.alloc (.cells #[c0, c1, c2, c3] e)) := by
      unfold execOp
      simp only [List.map_toArray, List.map_cons, List.map_nil, Act.eval, Sem.run_bind, hr, Result.andThen_ok, Sem.run_pure]
    unfold Oper.wp
    rw [e0]
    exact hK _ _ h
/-- A literal's bytes, marked. -/
theorem r_mark (t e : TypeId) (x : Operand) (C : Array Value) (n c : Nat) (w0 : World) (hw : w = w0.alloc (.cells C e)) (hx : a.eval x = .slice (some ⟨w0.heap.size, 0, none⟩) n c) (ht : P.underlying t = some (.slice e)) (he : P.underlying e = some (.int .u8))
    (hgd : Region.wanted ⟨dst, .convert t t x, ty, pos, aft, gd⟩ (yielded ops a.tmps) = true)
    (h : ∀ w1 B, Gr w0 w1 → w0.heap.size ≤ B → B < w1.heap.size → w1.heap[B]? = some (.cells C e (C.size, C.size + 1)) → wpList P ops Q rest (a.put dst (.slice (some ⟨B, 0, none⟩) n c)) w1) :
    wpList P ops Q (⟨dst, .convert t t x, ty, pos, aft, gd⟩ :: rest) a w :=
  wpList_want hgd fun _ hK => by
    subst hw
    unfold Oper.wp execOp
    simp only [hx, Sem.run_bind, Lib.run_convert_bytes_const w0 t e C n c ht he, Result.andThen_ok, Sem.run_pure, Oper.upon]
    exact hK _ _ (h _ _ ((Gr.refl _).alloc _) (Nat.le_refl _) (by show _ < (w0.heap.push _).size; simp) (heap_alloc_new w0 _))
end
theorem Try.ixb (B n cap x : Nat) (hx : x < n) (w : World) : (Instr.indexAt 58 (.slice (some ⟨B, 0, none⟩) n cap) (.int .i64 x)).run Try.prog w = .ok (.pointer (some ⟨B, x, none⟩)) w := by
  have hu : Try.prog.underlying 58 = some (.slice (Try.prog.elem 58)) := by kernel_rfl
  have he : Try.prog.elem 58 = 5 := by kernel_rfl
  rw [run_indexAt_slice w 58 ⟨B, 0, none⟩ n cap .i64 x hu, if_pos (by omega), he]
  simp [Try.sizeOf5, Result.andThen, Addr.add]
  exact fun h => h.symm
abbrev cs4 : Array Value := #[.int .u8 117, .int .u8 114, .int .u8 100, .int .u8 108]
theorem blk4 {w : World} {B : Nat} {e : TypeId} {fr : Nat × Nat} (h : w.heap[B]? = some (.cells cs4 e fr)) {k : Nat} (hk : k < 4) : w.cell? ⟨B, k, none⟩ = some (.int .u8 (dB k).toNat) := by
  rw [cell_of_row w B k cs4 e fr h]
  rcases dB_cases hk with ⟨rfl, e⟩ | ⟨rfl, e⟩ | ⟨rfl, e⟩ | ⟨rfl, e⟩ <;> (rw [e]; rfl)
theorem Try.conv0 (p : Option Addr) (q : Nat) (w : World) : (convert 58 9 (.slice p 0 q)).run Try.prog w = .ok (.string ⟨#[]⟩) w := by
  rw [run_convert_bytes_string w 58 9 5 p 0 q Try.underlying58 Try.underlying5 Try.underlying9]
  cases p <;> (simp [Conv.bytesToString]; rfl)
end Go.Proofs.Ytmjmjibokombiaa
