/-
  What the program's functions that change a tray's cells return: one cell put, and all balls taken out.
-/
import Derived.Test.YthjkeohnjggmiaaDoorImpl1g
import Derived.Test.YthjkeohnjggmiaaDoorFnA
namespace Go.Proofs.YthjkeohnjggmiaaDoor
open Go.RowKit
/-- What the program's grids are, those of no tray among them. -/
structure Small (g : Grid) : Prop where
  w7 : g.w ≤ 7
  h7 : g.h ≤ 7
  n36 : nn g.w g.h ≤ 36
  w1 : 1 ≤ g.w ∨ g.h = 0
  len : g.c.length = nn g.w g.h
theorem Tray.small {g : Grid} (h : Tray g) : Small g := ⟨h.w7, h.h7, h.n36, .inl h.w1, h.len⟩
theorem rd_small (l : List UInt8) : Small (rdG l) := by
  rcases rd_cases l with ⟨_, hg, _⟩ | ⟨g, hp, hg, _⟩
  · rw [hg]; exact ⟨by decide, by decide, by decide, .inr rfl, rfl⟩
  · rw [hg]; exact (parse_tray hp).small
/-- The text if it is a tray. -/
def ifB (s : ByteArray) : ByteArray := if rdOk s.data.toList then s else ⟨#[]⟩
theorem txtB_le (W H : Nat) (c : List UInt8) (hW : W ≤ 7) (hH : H ≤ 7) : (txtB W H c).size ≤ 56 := by
  have := txtB_size W H c
  have := nn_le (x := W + 1) (y := H) (a := 8) (b := 7) (by omega) hH
  omega
theorem at0_set (c : List UInt8) (i : Nat) (b : UInt8) (j : Nat) (hi : i < c.length) : at0 (c.set i b) j = if i = j then b else at0 c j := by
  unfold at0
  by_cases e : i = j
  · subst e; simp [List.getD, hi]
  · rw [if_neg e]; simp only [List.getD]; rw [List.getElem?_set_ne e]
def paOk (l : List UInt8) (x y : Int) (c : ByteArray) : Bool := rdOk l && (inB x (rdG l).w && inB y (rdG l).h) && oneB c
def paT (l : List UInt8) (x y : Int) (c : ByteArray) : ByteArray := txtB (rdG l).w (rdG l).h ((rdG l).c.set (nn (rdG l).w y.toNat + x.toNat) (hd c))
def paS (l : List UInt8) (x y : Int) (c : ByteArray) : ByteArray := if paOk l x y c then ifB (paT l x y c) else ⟨#[]⟩
def paR (l : List UInt8) (x y : Int) (c : ByteArray) : Bool := paOk l x y c && rdOk (paT l x y c).data.toList
/-- The first k cells, with those for which p holds made free. -/
def wallTo (p : UInt8 → Bool) (c : List UInt8) : Nat → List UInt8
  | 0 => c
  | k + 1 => if p (at0 c k) then (wallTo p c k).set k 46 else wallTo p c k
theorem wallTo_len (p : UInt8 → Bool) (c : List UInt8) (k : Nat) : (wallTo p c k).length = c.length := by
  induction k with
  | zero => rfl
  | succ k ih => unfold wallTo; split <;> simp [ih]
theorem wallTo_at (p : UInt8 → Bool) (c : List UInt8) (k i : Nat) (h : k ≤ i) (hk : k ≤ c.length) : at0 (wallTo p c k) i = at0 c i := by
  induction k with
  | zero => rfl
  | succ k ih =>
    unfold wallTo
    split
    · rw [at0_set _ _ _ _ (by rw [wallTo_len]; omega), if_neg (by omega)]; exact ih (by omega) (by omega)
    · exact ih (by omega) (by omega)
theorem wallTo_congr {p q : UInt8 → Bool} {c : List UInt8} (k : Nat) (h : ∀ i, i < k → p (at0 c i) = q (at0 c i)) : wallTo p c k = wallTo q c k := by
  induction k with
  | zero => rfl
  | succ k ih => unfold wallTo; rw [h k (by omega), ih (fun i hi => h i (by omega))]
theorem ball_cell {b : UInt8} (h : isCellB b = true) : ballB b = isBallB b := by
  unfold isCellB at h
  unfold ballB
  by_cases h1 : b = 35
  · subst h1; rfl
  · by_cases h2 : b = 46
    · subst h2; rfl
    · simp [h1, h2] at h
      simp [h1, h2, h]
def woB (l : List UInt8) : ByteArray := txtB (rdG l).w (rdG l).h (wallTo isBallB (rdG l).c (nn (rdG l).w (rdG l).h))
theorem wo_impl (l : List UInt8) : wallTo ballB (rdG l).c (nn (rdG l).w (rdG l).h) = wallTo isBallB (rdG l).c (nn (rdG l).w (rdG l).h) := by
  rcases rd_cases l with ⟨_, hg, _⟩ | ⟨g, hp, hg, _⟩
  · rw [hg]; rfl
  · rw [hg]
    have ht := parse_tray hp
    exact wallTo_congr _ fun i hi => ball_cell (ht.cells i (by rw [ht.len]; exact hi))
set_option maxHeartbeats 1000000 in
theorem checked_any (s : ByteArray) (w : World) (hm : ML w) (hs : s.size ≤ 1048576) : Calls Tryd.prog 58 #[.string s] w (Ret (.tuple #[.string (ifB s), .bool (rdOk s.data.toList)]) w) := by
  have gg := Gr.refl w
  by_cases h : rdOk s.data.toList = true
  · have HK := hidI h
    clear h
    go_enter Tryd.func58, Tryd.ntmps58
    go_wp2_with (go_at_call 57; refine (iIsTray s _ hm hs).mono ?_; rintro e w1 ⟨rfl, g1⟩; rw [HK.out]; have z1 := g1.size; have gg := gg.trans g1)
    go_ret2
    exact ⟨fin_sb (by unfold ifB; rw [HK.out]; rfl) HK.out.symm, gg⟩
  · have HK := hidI (show rdOk s.data.toList = false from by simpa using h)
    clear h
    go_enter Tryd.func58, Tryd.ntmps58
    go_wp2_with (go_at_call 57; refine (iIsTray s _ hm hs).mono ?_; rintro e w1 ⟨rfl, g1⟩; rw [HK.out]; have z1 := g1.size; have gg := gg.trans g1)
    go_ret2
    exact ⟨fin_sb (by unfold ifB; rw [HK.out]; rfl) HK.out.symm, gg⟩
theorem Tryd.six (B off n cap x : Nat) (hx : x < n) (w : World) : (Instr.indexAt 38 (.slice (some ⟨B, off, none⟩) n cap) (.int .i64 x)).run Tryd.prog w = .ok (.pointer (some ⟨B, off + x, none⟩)) w := by
  have hu : Tryd.prog.underlying 38 = some (.slice (Tryd.prog.elem 38)) := by kernel_rfl
  have he : Tryd.prog.elem 38 = 5 := by kernel_rfl
  rw [run_indexAt_slice w 38 ⟨B, off, none⟩ n cap .i64 x hu, if_pos (by omega), he]
  simp [Tryd.sizeOf5, Result.andThen, Addr.add]
end Go.Proofs.YthjkeohnjggmiaaDoor
