/-
  Numbers of sets of things: in the program and in the model, and the law of Binomial.
-/
import Derived.Test.YtmjmjibokombiaaCntP
namespace Go.Proofs.Ytmjmjibokombiaa
open Go.RowKit
section
variable {P : Program} {w : World} {ops : Array Oper} {rest : List Oper} {a : Act} {Q : Exit → Act → World → Prop} {dst : Option Tmp} {ty : TypeId} {pos : String} {aft : Array Edge} {gd : Option (Nat × Bool)}
theorem e_quoN {T yt : TypeId} (x y : Operand) (m n : Nat) (hx : a.eval x = .int .i64 m) (hy : a.eval y = .int .i64 n) (hn : 0 < n) (hm : m ≤ 9223372036854775807) :
    (execOp a.eval ⟨dst, .binOp .quo T x y yt, ty, pos, aft, gd⟩).run P w = .ok (.value (.int .i64 (m / n : Nat))) w := by
  unfold execOp
  simp only [hx, hy, eqGuard_quo, Sem.run_bind, Sem.run_pure, Result.andThen_ok, run_quo T m n hn hm]
end
theorem fin_ibN {a b : Int} {x y : Bool} (h1 : a = b) (h2 : x = y) : Ending.returned (.tuple #[.int .i64 a, .bool x]) = .returned (.tuple #[.int .i64 b, .bool y]) := by rw [h1, h2]
set_option maxHeartbeats 1000000 in
set_option maxRecDepth 100000 in
theorem countSetsN_any (n k : Nat) (w : World) (hn : n ≤ 36) (hk : k ≤ n) : Calls Try.prog 25 #[.int .i64 n, .int .i64 k] w (Ret (.int .i64 (chN n k : Nat)) w) := by
  have gg := Gr.refl w
  have HCH := hidI (fun i (hi : i ≤ 36) => chN_le36 hn hi)
  go_enter Try.func25, Try.ntmps25
  go_wp2
  go_loopw [5, 8] (fun cv iv wr => ∃ i : Nat, i ≤ k ∧ iv = .int .i64 i ∧ cv = .int .i64 (chN n i : Nat) ∧ Gr w wr) (fun _ iv _ => k - (intOf iv).toNat)
  case atStart => exact ⟨0, Nat.zero_le _, rfl, rfl, gg⟩
  case round =>
    obtain ⟨i, hi, rfl, rfl, gg⟩ := hrel
    by_cases hlt : i < k
    · have hc := chN_le36 hn (show i ≤ 36 by omega)
      have hc' := HCH.out (i + 1) (by omega)
      have HS := hidI (show chN n (i + 1) = chN n i * (n - i) / (i + 1) from rfl)
      obtain ⟨c, hcc⟩ : ∃ c, c = chN n i := ⟨_, rfl⟩
      rw [← hcc] at hc HS ⊢
      have hp : c * (n - i) ≤ 9075135300 * 36 := Nat.mul_le_mul hc (by omega)
      have hpe : (c : Int) * ((n : Int) - (i : Int)) = ((c * (n - i) : Nat) : Int) := by rw [Int.natCast_mul]; congr 1; omega
      obtain ⟨p, hpp⟩ : ∃ p, p = c * (n - i) := ⟨_, rfl⟩
      rw [← hpp] at hp hpe HS
      have hi1 : Value.int .i64 ((i : Int) + 1) = .int .i64 ((i + 1 : Nat) : Int) := by congr 1
      have HI1 := hidI hi1
      have HPE := hidI hpe
      clear hcc hpp hpe hi1
      go_wp2_with (first | (refine r_val (.int .i64 (p : Int)) (e_mul _ _ (c : Int) ((n : Int) - (i : Int)) (p : Int) rfl rfl HPE.out (by omega)) rfl ?_) | (refine r_val (.int .i64 ((p / (i + 1) : Nat) : Int)) (e_quoN (.tmp 15) (.tmp 17) p (i + 1) rfl HI1.out (Nat.succ_pos _) (by omega)) rfl ?_))
      go_roundw
      case rel => exact ⟨i + 1, by omega, by go_num, by (rw [HS.out]; exact congrArg _ (Int.natCast_ediv _ _).symm), gg⟩
      case measure => simp [intOf]; omega
    · obtain rfl : i = k := by omega
      clear hlt
      go_wp2
      go_ret
      exact ⟨rfl, gg⟩
set_option maxHeartbeats 1000000 in
set_option maxRecDepth 100000 in
theorem cnChoose_any (n k : Nat) (w : World) (hn : n ≤ 36) (hk : k ≤ n) : Calls Try.prog 20 #[.int .i64 n, .int .i64 k] w (Ret (.int .i64 (chN n k : Nat)) w) := by
  have gg := Gr.refl w
  have HCH := hidI (fun i (hi : i ≤ 36) => chN_le36 hn hi)
  have hk0 : decide ((k : Int) < 0) = false := decide_eq_false (by omega)
  have hkn : decide (n < k) = false := decide_eq_false (by omega)
  go_enter Try.func20, Try.ntmps20
  go_wp2
  go_loopw [5, 6] (fun cv iv wr => ∃ i : Nat, i ≤ k ∧ iv = .int .i64 i ∧ cv = .int .i64 (chN n i : Nat) ∧ Gr w wr) (fun _ iv _ => k - (intOf iv).toNat)
  case atStart => exact ⟨0, Nat.zero_le _, rfl, rfl, gg⟩
  case round =>
    obtain ⟨i, hi, rfl, rfl, gg⟩ := hrel
    by_cases hlt : i < k
    · have hc := chN_le36 hn (show i ≤ 36 by omega)
      have hc' := HCH.out (i + 1) (by omega)
      have HS := hidI (show chN n (i + 1) = chN n i * (n - i) / (i + 1) from rfl)
      obtain ⟨c, hcc⟩ : ∃ c, c = chN n i := ⟨_, rfl⟩
      rw [← hcc] at hc HS ⊢
      have hp : c * (n - i) ≤ 9075135300 * 36 := Nat.mul_le_mul hc (by omega)
      have hpe : (c : Int) * ((n : Int) - (i : Int)) = ((c * (n - i) : Nat) : Int) := by rw [Int.natCast_mul]; congr 1; omega
      obtain ⟨p, hpp⟩ : ∃ p, p = c * (n - i) := ⟨_, rfl⟩
      rw [← hpp] at hp hpe HS
      have hi1 : Value.int .i64 ((i : Int) + 1) = .int .i64 ((i + 1 : Nat) : Int) := by congr 1
      have HI1 := hidI hi1
      have HPE := hidI hpe
      clear hcc hpp hpe hi1
      go_wp2_with (first | (refine r_val (.int .i64 (p : Int)) (e_mul _ _ (c : Int) ((n : Int) - (i : Int)) (p : Int) rfl rfl HPE.out (by omega)) rfl ?_) | (refine r_val (.int .i64 ((p / (i + 1) : Nat) : Int)) (e_quoN (.tmp 23) (.tmp 25) p (i + 1) rfl HI1.out (Nat.succ_pos _) (by omega)) rfl ?_))
      go_roundw
      case rel => exact ⟨i + 1, by omega, by go_num, by (rw [HS.out]; exact congrArg _ (Int.natCast_ediv _ _).symm), gg⟩
      case measure => simp [intOf]; omega
    · obtain rfl : i = k := by omega
      clear hlt
      go_wp2
      go_ret
      exact ⟨rfl, gg⟩
def bnOk (n k : Int) : Bool := btw n 0 36 && btw k 0 n
def bnN (n k : Int) : Int := if bnOk n k then (chN n.toNat k.toNat : Nat) else 0
theorem bn_cases (n k : Int) : (∃ a b : Nat, n = a ∧ k = b ∧ a ≤ 36 ∧ b ≤ a ∧ bnOk n k = true ∧ bnN n k = (chN a b : Nat)) ∨ (bnOk n k = false ∧ bnN n k = 0 ∧ (n < 0 ∨ (0 ≤ n ∧ 36 < n) ∨ (0 ≤ n ∧ n ≤ 36 ∧ k < 0) ∨ (0 ≤ n ∧ n ≤ 36 ∧ 0 ≤ k ∧ n < k))) := by
  by_cases h : 0 ≤ n ∧ n ≤ 36 ∧ 0 ≤ k ∧ k ≤ n
  · obtain ⟨h1, h2, h3, h4⟩ := h
    have ho : bnOk n k = true := by unfold bnOk btw; simp [h1, h2, h3, h4]
    refine .inl ⟨n.toNat, k.toNat, by omega, by omega, by omega, by omega, ho, ?_⟩
    unfold bnN; rw [if_pos ho]
  · have ho : bnOk n k = false := by
      rw [← Bool.not_eq_true]
      intro e
      unfold bnOk btw at e
      simp at e
      omega
    refine .inr ⟨ho, ?_, by omega⟩
    unfold bnN; rw [if_neg (by rw [ho]; decide)]
end Go.Proofs.Ytmjmjibokombiaa
