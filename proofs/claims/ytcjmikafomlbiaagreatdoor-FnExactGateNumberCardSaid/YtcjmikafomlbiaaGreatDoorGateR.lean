/-
  A machine read: its inputs are free cells, its outputs no walls; a tray for each number of inputs.
-/
import Derived.Test.YtcjmikafomlbiaaGreatDoorGateO
namespace Go.Proofs.YtcjmikafomlbiaaGreatDoor
open Go.RowKit Go.Shelf
def cellOf (L : List Int) (j : Nat) : Nat := (gi L j).toNat
def takenB (c : List UInt8) (x : Int) : Bool := !decide (at0 c x.toNat = 46)
def wallB (c : List UInt8) (x : Int) : Bool := decide (at0 c x.toNat = 35)
def mcIn (g : Grid) (I O : List Int) : Bool := adB g I && adB g O && !(I.any (takenB g.c)) && !(O.any (wallB g.c))
def mcF (g : Grid) (I : List Int) (k : Nat) : Nat → Grid := fun j => if j < k then ⟨g.w, g.h, wiG g (cellOf I) I.length j⟩ else g0
theorem mcF_zero (g : Grid) (I : List Int) : mcF g I 0 = fun _ => g0 := by funext j; unfold mcF; rw [if_neg (Nat.not_lt_zero _)]
theorem mcF_succ (g : Grid) (I : List Int) (k : Nat) : updF (mcF g I k) k ⟨g.w, g.h, wiG g (cellOf I) I.length k⟩ = mcF g I (k + 1) := by
  funext j
  unfold updF mcF
  by_cases h : j = k
  · rw [if_pos h, if_pos (by omega), h]
  · rw [if_neg h]
    by_cases h2 : j < k
    · rw [if_pos h2, if_pos (by omega)]
    · rw [if_neg h2, if_neg (by omega)]
theorem adB_len {g : Grid} {L : List Int} (h : adB g L = true) : 1 ≤ L.length ∧ L.length ≤ 3 := by
  unfold adB at h
  rw [Bool.and_eq_true, Bool.and_eq_true, decide_eq_true_eq] at h
  exact h.1.1
theorem adB_in {g : Grid} {L : List Int} (h : adB g L = true) {k : Nat} (hk : k < L.length) : 0 ≤ gi L k ∧ gi L k < nn g.w g.h := by
  unfold adB at h
  rw [Bool.and_eq_true, Bool.and_eq_true, List.all_eq_true] at h
  have := h.1.2 (gi L k) (by unfold gi; rw [List.getD_eq_getElem?_getD, List.getElem?_eq_getElem hk]; exact List.getElem_mem _)
  unfold inB at this
  rw [Bool.and_eq_true, decide_eq_true_eq, decide_eq_true_eq] at this
  exact this
set_option maxHeartbeats 400000 in
set_option maxRecDepth 100000 in
theorem taken_any (g : Grid) (x : Int) (B : Nat) (w : World) (hx : 0 ≤ x ∧ x < 36) (hb : Blk w B (gv g.w g.h g.c) 42) :
    Calls Tryz.prog 36 #[.int .i64 x, .pointer (some ⟨B, 0, none⟩)] w (Ret (.bool (takenB g.c x)) w) := by
  have gg := Gr.refl w
  obtain ⟨i, rfl⟩ : ∃ i : Nat, x = i := ⟨x.toNat, by omega⟩
  have hi : i < 36 := by omega
  have hc : _ = some (Value.int .u8 (at0 g.c i).toNat) := (hb.cell (2 + i)).trans (gv_c _ _ g.c i hi)
  have hix := Tryz.gix B i hi
  unfold takenB
  rw [Int.toNat_natCast]
  obtain ⟨b, hb'⟩ : ∃ b, b = at0 g.c i := ⟨_, rfl⟩
  rw [← hb'] at hc ⊢
  clear hb' hx
  by_cases h : b = 46
  · subst h
    go_enter Tryz.func36, Tryz.ntmps36
    go_wp2
    go_ret
    exact ⟨rfl, gg⟩
  · have HV := hidI (show (!decide (b = 46)) = true from by rw [decide_eq_false h]; rfl)
    have hne : ((b.toNat : Int) == 46) = false := by
      rw [beq_eq_false_iff_ne]
      intro e
      exact h (UInt8.toNat_inj.1 (by show b.toNat = 46; omega))
    clear h
    go_enter Tryz.func36, Tryz.ntmps36
    go_wp2
    go_ret
    exact ⟨ret_bool (by rw [HV.out]; simp [bne, hne]), gg⟩
set_option maxHeartbeats 400000 in
set_option maxRecDepth 100000 in
theorem wall_any (g : Grid) (x : Int) (B : Nat) (w : World) (hx : 0 ≤ x ∧ x < 36) (hb : Blk w B (gv g.w g.h g.c) 42) :
    Calls Tryz.prog 37 #[.int .i64 x, .pointer (some ⟨B, 0, none⟩)] w (Ret (.bool (wallB g.c x)) w) := by
  have gg := Gr.refl w
  obtain ⟨i, rfl⟩ : ∃ i : Nat, x = i := ⟨x.toNat, by omega⟩
  have hi : i < 36 := by omega
  have hc : _ = some (Value.int .u8 (at0 g.c i).toNat) := (hb.cell (2 + i)).trans (gv_c _ _ g.c i hi)
  have hix := Tryz.gix B i hi
  unfold wallB
  rw [Int.toNat_natCast]
  obtain ⟨b, hb'⟩ : ∃ b, b = at0 g.c i := ⟨_, rfl⟩
  rw [← hb'] at hc ⊢
  clear hb' hx
  by_cases h : b = 35
  · subst h
    go_enter Tryz.func37, Tryz.ntmps37
    go_wp2
    go_ret
    exact ⟨rfl, gg⟩
  · have HV := hidI (show decide (b = 35) = false from decide_eq_false h)
    have hne : ((b.toNat : Int) == 35) = false := by
      rw [beq_eq_false_iff_ne]
      intro e
      exact h (UInt8.toNat_inj.1 (by show b.toNat = 35; omega))
    clear h
    go_enter Tryz.func37, Tryz.ntmps37
    go_wp2
    go_ret
    exact ⟨ret_bool (by rw [HV.out]), gg⟩
theorem Tryz.shlM (N : Nat) (hN : N ≤ 3) (w : World) : (binOp .shl 3 (.int .i64 1) (.int .i64 (N : Int))).run Tryz.prog w = .ok (.int .i64 ((2 ^ N : Nat) : Int)) w := by
  rcases (show N = 0 ∨ N = 1 ∨ N = 2 ∨ N = 3 by omega) with rfl | rfl | rfl | rfl <;> kernel_rfl
theorem Tryz.mbuild (c : Int) (p : Option Addr) (n k : Nat) (w : World) : (Instr.build 45 #[(0, .int .i64 c), (2, .slice p n k)]).run Tryz.prog w = .ok (.agg (mcC c (fun _ => g0) (.slice p n k)).toArray) w := by kernel_rfl
end Go.Proofs.YtcjmikafomlbiaaGreatDoor
