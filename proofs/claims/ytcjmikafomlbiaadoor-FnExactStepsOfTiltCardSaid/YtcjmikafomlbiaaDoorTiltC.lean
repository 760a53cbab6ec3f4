/-
  How many trays become this one when they are tilted: in the program and in the model, and the law.
-/
import Derived.Test.YtcjmikafomlbiaaDoorTiltY
namespace Go.Proofs.YtcjmikafomlbiaaDoor
open Go.RowKit
/-- A number of sets, as both count it. -/
def chT (n : Nat) : Nat → Nat
  | 0 => 1
  | i + 1 => chT n i * (n - i) / (i + 1)
theorem chT_le {n i : Nat} (hn : n ≤ 7) (hi : i ≤ 7) : chT n i ≤ 35 := by
  have h : ∀ a : Fin 8, ∀ b : Fin 8, chT a.val b.val ≤ 35 := by decide
  exact h ⟨n, by omega⟩ ⟨i, by omega⟩
section
variable {P : Program} {w : World} {ops : Array Oper} {rest : List Oper} {a : Act} {Q : Exit → Act → World → Prop} {dst : Option Tmp} {ty : TypeId} {pos : String} {aft : Array Edge} {gd : Option (Nat × Bool)}
theorem e_quo {T yt : TypeId} (x y : Operand) (m n : Nat) (hx : a.eval x = .int .i64 m) (hy : a.eval y = .int .i64 n) (hn : 0 < n) (hm : m ≤ 9223372036854775807) :
    (execOp a.eval ⟨dst, .binOp .quo T x y yt, ty, pos, aft, gd⟩).run P w = .ok (.value (.int .i64 (m / n : Nat))) w := by
  unfold execOp
  simp only [hx, hy, eqGuard_quo, Sem.run_bind, Sem.run_pure, Result.andThen_ok, run_quo T m n hn hm]
end
set_option maxHeartbeats 1000000 in
set_option maxRecDepth 100000 in
theorem countSets_any (n k : Nat) (w : World) (hn : n ≤ 7) (hk : k ≤ n) : Calls Tryd.prog 22 #[.int .i64 n, .int .i64 k] w (Ret (.int .i64 (chT n k : Nat)) w) := by
  have gg := Gr.refl w
  have HCH := hidI (fun i (hi : i ≤ 7) => chT_le hn hi)
  go_enter Tryd.func22, Tryd.ntmps22
  go_wp2
  go_loopw [5, 8] (fun cv iv wr => ∃ i : Nat, i ≤ k ∧ iv = .int .i64 i ∧ cv = .int .i64 (chT n i : Nat) ∧ Gr w wr) (fun _ iv _ => k - (intOf iv).toNat)
  case atStart => exact ⟨0, Nat.zero_le _, rfl, rfl, gg⟩
  case round =>
    obtain ⟨i, hi, rfl, rfl, gg⟩ := hrel
    by_cases hlt : i < k
    · have hc := chT_le hn (show i ≤ 7 by omega)
      have hc' := HCH.out (i + 1) (by omega)
      have HS := hidI (show chT n (i + 1) = chT n i * (n - i) / (i + 1) from rfl)
      obtain ⟨c, hcc⟩ : ∃ c, c = chT n i := ⟨_, rfl⟩
      rw [← hcc] at hc HS ⊢
      have hp : c * (n - i) ≤ 35 * 7 := Nat.mul_le_mul hc (by omega)
      have hpe : (c : Int) * ((n : Int) - (i : Int)) = ((c * (n - i) : Nat) : Int) := by rw [Int.natCast_mul]; congr 1; omega
      obtain ⟨p, hpp⟩ : ∃ p, p = c * (n - i) := ⟨_, rfl⟩
      rw [← hpp] at hp hpe HS
      have hi1 : Value.int .i64 ((i : Int) + 1) = .int .i64 ((i + 1 : Nat) : Int) := by congr 1
      have HI1 := hidI hi1
      have HPE := hidI hpe
      clear hcc hpp hpe hi1
      go_wp2_with (first | (refine r_val (.int .i64 (p : Int)) (e_mul _ _ (c : Int) ((n : Int) - (i : Int)) (p : Int) rfl rfl HPE.out (by omega)) rfl ?_) | (refine r_val (.int .i64 ((p / (i + 1) : Nat) : Int)) (e_quo (.tmp 15) (.tmp 17) p (i + 1) rfl HI1.out (Nat.succ_pos _) (by omega)) rfl ?_))
      go_roundw
      case rel => exact ⟨i + 1, by omega, by go_num, by (rw [HS.out]; exact congrArg _ (Int.natCast_ediv _ _).symm), gg⟩
      case measure => simp [intOf]; omega
    · obtain rfl : i = k := by omega
      clear hlt
      go_wp2
      go_ret
      exact ⟨rfl, gg⟩
/-- The product over the first k stretches, as the machine multiplies. -/
def prTo (c : List UInt8) (L : List (List Nat)) : Nat → Int
  | 0 => 1
  | k + 1 => wrap64 (prTo c L k * ((chT (L.getD k []).length (nbTo c (L.getD k []) (L.getD k []).length) : Nat) : Int))
theorem prTo_succ {c : List UInt8} {L : List (List Nat)} {k : Nat} {s : List Nat} (h : L[k]? = some s) : prTo c L (k + 1) = wrap64 (prTo c L k * ((chT s.length (nbTo c s s.length) : Nat) : Int)) := by
  have e : L.getD k [] = s := by rw [List.getD_eq_getElem?_getD, h]; rfl
  rw [prTo, e]
def cbN (l : List UInt8) (dir : ByteArray) : Int := if dtOk l dir then (if sameB (rdG l) (tiltG (dS dir).toNat (rdG l)) then prTo (rdG l).c (strL (rdG l).w (rdG l).h (rdG l).c (dS dir).toNat) (strL (rdG l).w (rdG l).h (rdG l).c (dS dir).toNat).length else 0) else 0
theorem cb_no {l : List UInt8} {dir : ByteArray} (h : dtOk l dir = false) : cbN l dir = 0 := by unfold cbN; rw [h]; rfl
theorem cb_yes {l : List UInt8} {dir : ByteArray} {g : Grid} {d : Nat} (hy : dtOk l dir = true) (hg : rdG l = g) (hd : dS dir = (d : Nat)) : cbN l dir = if sameB g (tiltG d g) then prTo g.c (strL g.w g.h g.c d) (strL g.w g.h g.c d).length else 0 := by unfold cbN; rw [hy, hg, hd]; rfl
theorem dS_of {d : Nat} (h : d < 4) : dS ⟨#[dB d]⟩ = (d : Nat) := by
  rcases dB_cases h with ⟨rfl, e⟩ | ⟨rfl, e⟩ | ⟨rfl, e⟩ | ⟨rfl, e⟩ <;> rfl
theorem fin_ib {a b : Int} {x y : Bool} (h1 : a = b) (h2 : x = y) : Ending.returned (.tuple #[.int .i64 a, .bool x]) = .returned (.tuple #[.int .i64 b, .bool y]) := by rw [h1, h2]
end Go.Proofs.YtcjmikafomlbiaaDoor
