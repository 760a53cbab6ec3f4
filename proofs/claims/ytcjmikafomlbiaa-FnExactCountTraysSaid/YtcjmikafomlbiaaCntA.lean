/-
  Numbers of sets of things: in the program and in the model, and the law of Binomial.
-/
import Derived.Test.YtcjmikafomlbiaaCntP
namespace Go.Proofs.Ytcjmikafomlbiaa
open Go.RowKit
section
variable {P : Program} {w : World} {ops : Array Oper} {rest : List Oper} {a : Act} {Q : Exit → Act → World → Prop} {dst : Option Tmp} {ty : TypeId} {pos : String} {aft : Array Edge} {gd : Option (Nat × Bool)}
theorem e_quoN {T yt : TypeId} (x y : Operand) (m n : Nat) (hx : a.eval x = .int .i64 m) (hy : a.eval y = .int .i64 n) (hn : 0 < n) (hm : m ≤ 9223372036854775807) :
    (execOp a.eval ⟨dst, .binOp .quo T x y yt, ty, pos, aft, gd⟩).run P w = .ok (.value (.int .i64 (m / n : Nat))) w := by
  unfold execOp
  simp only [hx, hy, eqGuard_quo, Sem.run_bind, Sem.run_pure, Result.andThen_ok, run_quo T m n hn hm]
end
theorem fin_ibN {a b : Int} {x y : Bool} (h1 : a = b) (h2 : x = y) : Ending.returned (.tuple #[.int .i64 a, .bool x]) = .returned (.tuple #[.int .i64 b, .bool y]) := by rw [h1, h2]
set_option maxHeartbeats 1000000 in
set_option maxRecDepth 100000 in
theorem countSetsN_any (n k : Nat) (w : World) (hn : n ≤ 36) (hk : k ≤ n) : Calls Try.prog 23 #[.int .i64 n, .int .i64 k] w (Ret (.int .i64 (chN n k : Nat)) w) := by
  have gg := Gr.refl w
  have HCH := hidI (fun i (hi : i ≤ 36) => chN_le36 hn hi)
  go_enter Try.func23, Try.ntmps23
  go_wp2
  go_loopw [5, 8] (fun cv iv wr => ∃ i : Nat, i ≤ k ∧ iv = .int .i64 i ∧ cv = .int .i64 (chN n i : Nat) ∧ Gr w wr) (fun _ iv _ => k - (intOf iv).toNat)
  case atStart => exact ⟨0, Nat.zero_le _, rfl, rfl, gg⟩
  case round =>
    obtain ⟨i, hi, rfl, rfl, gg⟩ := hrel
    by_cases hlt : i < k
    · have hc := chN_le36 hn (show i ≤ 36 by omega)
      have hc' := HCH.out (i + 1) (by omega)
      have HS := hidI (show chN n (i + 1) = chN n i * (n - i) / (i + 1) from rfl)
      obtain ⟨c, hcc⟩ : ∃ c, c = chN n i := ⟨_, rfl⟩
      rw [← hcc] at hc HS ⊢
      have hp : c * (n - i) ≤ 9075135300 * 36 := Nat.mul_le_mul hc (by omega)
      have hpe : (c : Int) * ((n : Int) - (i : Int)) = ((c * (n - i) : Nat) : Int) := by rw [Int.natCast_mul]; congr 1; omega
      obtain ⟨p, hpp⟩ : ∃ p, p = c * (n - i) := ⟨_, rfl⟩
      rw [← hpp] at hp hpe HS
      have hi1 : Value.int .i64 ((i : Int) + 1) = .int .i64 ((i + 1 : Nat) : Int) := by congr 1
      have HI1 := hidI hi1
      have HPE := hidI hpe
      clear hcc hpp hpe hi1
      go_wp2_with (first | (refine r_val (.int .i64 (p : Int)) (e_mul _ _ (c : Int) ((n : Int) - (i : Int)) (p : Int) rfl rfl HPE.out (by omega)) rfl ?_) | (refine r_val (.int .i64 ((p / (i + 1) : Nat) : Int)) (e_quoN (.tmp 15) (.tmp 17) p (i + 1) rfl HI1.out (Nat.succ_pos _) (by omega)) rfl ?_))
      go_roundw
      case rel => exact ⟨i + 1, by omega, by go_num, by (rw [HS.out]; exact congrArg _ (Int.natCast_ediv _ _).symm), gg⟩
      case measure => simp [intOf]; omega
    · obtain rfl : i = k := by omega
      clear hlt
      go_wp2
      go_ret
      exact ⟨rfl, gg⟩
set_option maxHeartbeats 1000000 in
set_option maxRecDepth 100000 in
theorem cnChoose_any (n k : Nat) (w : World) (hn : n ≤ 36) (hk : k ≤ n) : Calls Try.prog 22 #[.int .i64 n, .int .i64 k] w (Ret (.int .i64 (chN n k : Nat)) w) := by
  have gg := Gr.refl w
  have HCH := hidI (fun i (hi : i ≤ 36) => chN_le36 hn hi)
  have hk0 : decide ((k : Int) < 0) = false := decide_eq_false (by omega)
  have hkn : decide (n < k) = false := decide_eq_false (by omega)
  go_enter Try.func22, Try.ntmps22
  go_wp2
  go_loopw [5, 6] (fun cv iv wr => ∃ i : Nat, i ≤ k ∧ iv = .int .i64 i ∧ cv = .int .i64 (chN n i : Nat) ∧ Gr w wr) (fun _ iv _ => k - (intOf iv).toNat)
  case atStart => exact ⟨0, Nat.zero_le _, rfl, rfl, gg⟩
  case round =>
    obtain ⟨i, hi, rfl, rfl, gg⟩ := hrel
    by_cases hlt : i < k
    · have hc := chN_le36 hn (show i ≤ 36 by omega)
      have hc' := HCH.out (i + 1) (by omega)
      have HS := hidI (show chN n (i + 1) = chN n i * (n - i) / (i + 1) from rfl)
      obtain ⟨c, hcc⟩ : ∃ c, c = chN n i := ⟨_, rfl⟩
      rw [← hcc] at hc HS ⊢
      have hp : c * (n - i) ≤ 9075135300 * 36 := Nat.mul_le_mul hc (by omega)
      have hpe : (c : Int) * ((n : Int) - (i : Int)) = ((c * (n - i) : Nat) : Int) := by rw [Int.natCast_mul]; congr 1; omega
      obtain ⟨p, hpp⟩ : ∃ p, p = c * (n - i) := ⟨_, rfl⟩
      rw [← hpp] at hp hpe HS
      have hi1 : Value.int .i64 ((i : Int) + 1) = .int .i64 ((i + 1 : Nat) : Int) := by congr 1
      have HI1 := hidI hi1
      have HPE := hidI hpe
      clear hcc hpp hpe hi1
      go_wp2_with (first | (refine r_val (.int .i64 (p : Int)) (e_mul _ _ (c : Int) ((n : Int) - (i : Int)) (p : Int) rfl rfl HPE.out (by omega)) rfl ?_) | (refine r_val (.int .i64 ((p / (i + 1) : Nat) : Int)) (e_quoN (.tmp 23) (.tmp 25) p (i + 1) rfl HI1.out (Nat.succ_pos _) (by omega)) rfl ?_))
      go_roundw
      case rel => exact ⟨i + 1, by omega, by go_num, by (rw [HS.out]; exact congrArg _ (Int.natCast_ediv _ _).symm), gg⟩
      case measure => simp [intOf]; omega
    · obtain rfl : i = k := by omega
      clear hlt
      go_wp2
      go_ret
      exact ⟨rfl, gg⟩
def bnOk (n k : Int) : Bool := btw n 0 36 && btw k 0 n
def bnN (n k : Int) : Int := if bnOk n k then (chN n.toNat k.toNat : Nat) else 0
theorem bn_cases (n k : Int) : (∃ a b : Nat, n = a ∧ k = b ∧ a ≤ 36 ∧ b ≤ a ∧ bnOk n k = true ∧ bnN n k = (chN a b : Nat)) ∨ (bnOk n k = false ∧ bnN n k = 0 ∧ (n < 0 ∨ (0 ≤ n ∧ 36 < n) ∨ (0 ≤ n ∧ n ≤ 36 ∧ k < 0) ∨ (0 ≤ n ∧ n ≤ 36 ∧ 0 ≤ k ∧ n < k))) := by
  by_cases h : 0 ≤ n ∧ n ≤ 36 ∧ 0 ≤ k ∧ k ≤ n
  · obtain ⟨h1, h2, h3, h4⟩ := h
    have ho : bnOk n k = true := by unfold bnOk btw; simp [h1, h2, h3, h4]
    refine .inl ⟨n.toNat, k.toNat, by omega, by omega, by omega, by omega, ho, ?_⟩
    unfold bnN; rw [if_pos ho]
  · have ho : bnOk n k = false := by
      rw [← Bool.not_eq_true]
      intro e
      unfold bnOk btw at e
      simp at e
      omega
    refine .inr ⟨ho, ?_, by omega⟩
    unfold bnN; rw [if_neg (by rw [ho]; decide)]
set_option maxHeartbeats 1000000 in
set_option maxRecDepth 100000 in
theorem iBinomial (n k : Int) (w : World) : Calls Try.prog 9 #[.int .i64 n, .int .i64 k] w (Ret (.tuple #[.int .i64 (bnN n k), .bool (bnOk n k)]) w) := by
  have gg := Gr.refl w
  rcases bn_cases n k with ⟨a, b, rfl, rfl, ha, hb, ho, hv⟩ | ⟨ho, hv, hc⟩
  · have HO := hidI ho
    have HV := hidI hv
    clear ho hv
    go_enter Try.func9, Try.ntmps9
    go_wp2_with (go_at_call 23; refine (countSetsN_any a b _ ha hb).mono ?_; rintro e w1 ⟨rfl, g1⟩; have z1 := g1.size; have gg := gg.trans g1)
    go_ret2
    exact ⟨fin_ibN HV.out.symm HO.out.symm, gg⟩
  · have HO := hidI ho
    have HV := hidI hv
    clear ho hv
    rcases hc with h1 | ⟨h1, h2⟩ | ⟨h1, h2, h3⟩ | ⟨h1, h2, h3, h4⟩
    all_goals
      go_enter Try.func9, Try.ntmps9
      go_wp2
      go_ret2
      exact ⟨fin_ibN HV.out.symm HO.out.symm, gg⟩
set_option maxHeartbeats 1000000 in
set_option maxRecDepth 100000 in
theorem sBinomial (n k : Int) (w : World) : Calls Try.prog 8 #[.int .i64 n, .int .i64 k] w (Ret (.tuple #[.int .i64 (bnN n k), .bool (bnOk n k)]) w) := by
  have gg := Gr.refl w
  by_cases h1 : btw n 0 36 = true
  · by_cases h2 : btw k 0 n = true
    · rcases bn_cases n k with ⟨a, b, rfl, rfl, ha, hb, ho, hv⟩ | ⟨ho, -, -⟩
      · have HO := hidI ho
        have HV := hidI hv
        have H1 := hidI h1
        have H2 := hidI h2
        clear ho hv h1 h2
        go_enter Try.func8, Try.ntmps8
        go_wp2_with (first | (go_at_call 21; refine (l1In_any _ _ _ _).mono ?_; rintro e wSame ⟨rfl, rfl⟩; first | rw [H1.out] | rw [H2.out]) | (go_at_call 22; refine (cnChoose_any a b _ ha hb).mono ?_; rintro e w1 ⟨rfl, g1⟩; have z1 := g1.size; have gg := gg.trans g1))
        go_ret2
        exact ⟨fin_ibN HV.out.symm HO.out.symm, gg⟩
      · unfold bnOk at ho
        rw [h1, h2] at ho
        cases ho
    · have H2 := hidI (show btw k 0 n = false from by simpa using h2)
      have H1 := hidI h1
      have ho : bnOk n k = false := by unfold bnOk; rw [H2.out, Bool.and_false]
      have HO := hidI ho
      have HV := hidI (show bnN n k = 0 from by unfold bnN; rw [if_neg (by rw [ho]; decide)])
      clear h1 h2 ho
      go_enter Try.func8, Try.ntmps8
      go_wp2_with (go_at_call 21; refine (l1In_any _ _ _ _).mono ?_; rintro e wSame ⟨rfl, rfl⟩; first | rw [H1.out] | rw [H2.out])
      go_ret2
      exact ⟨fin_ibN HV.out.symm HO.out.symm, gg⟩
  · have H1 := hidI (show btw n 0 36 = false from by simpa using h1)
    have ho : bnOk n k = false := by unfold bnOk; rw [H1.out, Bool.false_and]
    have HO := hidI ho
    have HV := hidI (show bnN n k = 0 from by unfold bnN; rw [if_neg (by rw [ho]; decide)])
    clear h1 ho
    go_enter Try.func8, Try.ntmps8
    go_wp2_with (go_at_call 21; refine (l1In_any _ _ _ _).mono ?_; rintro e wSame ⟨rfl, rfl⟩; rw [H1.out])
    go_ret2
    exact ⟨fin_ibN HV.out.symm HO.out.symm, gg⟩
set_option maxHeartbeats 1000000 in
theorem lawBinomial (n k : Int) (w : World) : Calls Try.prog 3 #[.int .i64 n, .int .i64 k] w (Ret (.bool true) w) := by
  have gg := Gr.refl w
  go_enter Try.func3, Try.ntmps3
  go_wp2_with (first | (go_at_call 8; refine (sBinomial n k _).mono ?_; rintro e w1 ⟨rfl, g1⟩; have z1 := g1.size; have gg := gg.trans g1) | (go_at_call 9; refine (iBinomial n k _).mono ?_; rintro e w2 ⟨rfl, g2⟩; have z2 := g2.size; have gg := gg.trans g2))
  go_ret
  exact ⟨rfl, gg⟩
end Go.Proofs.Ytcjmikafomlbiaa
