/-
  How many trays there are with so many walls and balls: in the program and in the model, and the law of CountTrays.
-/
import Derived.Test.YtmjmjibokombiaaCntM
import Derived.Test.YtmjmjibokombiaaCntA
import Derived.Test.YtmjmjibokombiaaDoorI
namespace Go.Proofs.Ytmjmjibokombiaa
open Go.RowKit
section
variable {P : Program} {w : World} {ops : Array Oper} {rest : List Oper} {a : Act} {Q : Exit → Act → World → Prop} {dst : Option Tmp} {ty : TypeId} {pos : String} {aft : Array Edge} {gd : Option (Nat × Bool)}
theorem e_subF' {T yt : TypeId} (x y : Operand) (m n r : Int) (hx : a.eval x = .int .i64 m) (hy : a.eval y = .int .i64 n) (hr : m - n = r) (h : -9223372036854775808 ≤ r ∧ r ≤ 9223372036854775807) :
    (execOp a.eval ⟨dst, .binOp .sub T x y yt, ty, pos, aft, gd⟩).run P w = .ok (.value (.int .i64 r)) w := by
  unfold execOp
  simp only [hx, hy, eqGuard_sub, Sem.run_bind, Sem.run_pure, Result.andThen_ok, run_sub T m n r hr h]
theorem r_subN {T yt : TypeId} (x y : Operand) (m n r : Int) (hx : a.eval x = .int .i64 m) (hy : a.eval y = .int .i64 n) (hr : m - n = r) (h : -9223372036854775808 ≤ r ∧ r ≤ 9223372036854775807)
    (hgd : Region.wanted ⟨dst, .binOp .sub T x y yt, ty, pos, aft, gd⟩ (yielded ops a.tmps) = true) (hh : wpList P ops Q rest (a.put dst (.int .i64 r)) w) : wpList P ops Q (⟨dst, .binOp .sub T x y yt, ty, pos, aft, gd⟩ :: rest) a w :=
  r_val _ (e_subF' x y m n r hx hy hr h) hgd hh
theorem r_mulN {T yt : TypeId} (x y : Operand) (m n r : Int) (hx : a.eval x = .int .i64 m) (hy : a.eval y = .int .i64 n) (hr : m * n = r) (h : -9223372036854775808 ≤ r ∧ r ≤ 9223372036854775807)
    (hgd : Region.wanted ⟨dst, .binOp .mul T x y yt, ty, pos, aft, gd⟩ (yielded ops a.tmps) = true) (hh : wpList P ops Q rest (a.put dst (.int .i64 r)) w) : wpList P ops Q (⟨dst, .binOp .mul T x y yt, ty, pos, aft, gd⟩ :: rest) a w :=
  r_val _ (e_mul x y m n r hx hy hr h) hgd hh
theorem r_quoN {T yt : TypeId} (x y : Operand) (m n : Nat) (hx : a.eval x = .int .i64 m) (hy : a.eval y = .int .i64 n) (hn : 0 < n) (hm : m ≤ 9223372036854775807)
    (hgd : Region.wanted ⟨dst, .binOp .quo T x y yt, ty, pos, aft, gd⟩ (yielded ops a.tmps) = true) (hh : wpList P ops Q rest (a.put dst (.int .i64 ((m / n : Nat) : Int))) w) : wpList P ops Q (⟨dst, .binOp .quo T x y yt, ty, pos, aft, gd⟩ :: rest) a w :=
  r_val _ (e_quoN x y m n hx hy hn hm) hgd hh
end
/-- A filling as a value. -/
def fv (x y a b : Int) : Array Value := #[.int .i64 x, .int .i64 y, .int .i64 a, .int .i64 b]
theorem fv_one (x y a b : Int) : ∀ v ∈ (fv x y a b).toList, v.oneCell' = true := by
  intro v hv
  unfold fv at hv
  simp only [List.mem_cons, List.not_mem_nil, or_false] at hv
  rcases hv with rfl | rfl | rfl | rfl <;> rfl
theorem fcells {w : World} {B : Nat} {x y a b : Int} {T : TypeId} (h : Blk w B (fv x y a b) T) :
    w.cell? ⟨B, 0, none⟩ = some (.int .i64 x) ∧ w.cell? ⟨B, 1, none⟩ = some (.int .i64 y) ∧ w.cell? ⟨B, 2, none⟩ = some (.int .i64 a) ∧ w.cell? ⟨B, 3, none⟩ = some (.int .i64 b) :=
  ⟨h.cell 0, h.cell 1, h.cell 2, h.cell 3⟩
def faOk (x y a b : Int) : Bool := isSz x y && btw a 0 (x * y) && btw b 0 (x * y - a)
def faV (x y a b : Int) : Array Value := if faOk x y a b then fv x y a b else fv 0 0 0 0
theorem fa_cases (x y a b : Int) : (faOk x y a b = false ∧ faV x y a b = fv 0 0 0 0 ∧ (isSz x y = false ∨ ∃ W H N : Nat, x = W ∧ y = H ∧ isSz x y = true ∧ (W : Int) * (H : Int) = N ∧ N ≤ 36 ∧ (a < 0 ∨ (0 ≤ a ∧ (N : Int) < a) ∨ ∃ A M : Nat, a = A ∧ A ≤ N ∧ M = N - A ∧ (b < 0 ∨ (0 ≤ b ∧ (M : Int) < b))))) ∨
    ∃ W H N A B M : Nat, x = W ∧ y = H ∧ a = A ∧ b = B ∧ isSz x y = true ∧ (W : Int) * (H : Int) = N ∧ N ≤ 36 ∧ A ≤ N ∧ M = N - A ∧ B ≤ M ∧ faOk x y a b = true ∧ faV x y a b = fv x y a b := by
  cases hz : isSz x y
  · have ho : faOk x y a b = false := by unfold faOk; rw [hz]; rfl
    exact .inl ⟨ho, by unfold faV; rw [ho]; rfl, .inl rfl⟩
  · have hk := isSz_iff.1 hz
    obtain ⟨W, rfl⟩ : ∃ n : Nat, x = n := ⟨x.toNat, by omega⟩
    obtain ⟨H, rfl⟩ : ∃ n : Nat, y = n := ⟨y.toNat, by omega⟩
    have hn := nn_int W H
    have h36 : nn W H ≤ 36 := by omega
    by_cases hg : 0 ≤ a ∧ a ≤ (nn W H : Nat) ∧ 0 ≤ b ∧ b ≤ (nn W H : Nat) - a
    · obtain ⟨g1, g2, g3, g4⟩ := hg
      have ho : faOk W H a b = true := by
        unfold faOk btw
        rw [hz, ← hn]
        simp [g1, g2, g3, g4]
      exact .inr ⟨W, H, nn W H, a.toNat, b.toNat, nn W H - a.toNat, rfl, rfl, by omega, by omega, rfl, hn.symm, h36, by omega, rfl, by omega, ho, by unfold faV; rw [if_pos ho]⟩
    · have ho : faOk W H a b = false := by
        rw [← Bool.not_eq_true]
        intro e
        unfold faOk btw at e
        rw [hz, ← hn] at e
        simp at e
        omega
      refine .inl ⟨ho, by unfold faV; rw [ho]; rfl, .inr ⟨W, H, nn W H, rfl, rfl, rfl, hn.symm, h36, ?_⟩⟩
      by_cases h1 : a < 0
      · exact .inl h1
      · by_cases h2 : ((nn W H : Nat) : Int) < a
        · exact .inr (.inl ⟨by omega, h2⟩)
        · exact .inr (.inr ⟨a.toNat, nn W H - a.toNat, by omega, by omega, rfl, by omega⟩)
/-- The number of trays, and whether it is not too great. -/
def ctP (x y a b : Int) : Nat := chN (x * y).toNat a.toNat * chN ((x * y).toNat - a.toNat) b.toNat
def ctOk (x y a b : Int) : Bool := faOk x y a b && decide (ctP x y a b ≤ 1000000000000000)
def ctN (x y a b : Int) : Int := if ctOk x y a b then (ctP x y a b : Nat) else 0
theorem ct_no {x y a b : Int} (h : faOk x y a b = false) : ctOk x y a b = false ∧ ctN x y a b = 0 := by
  have : ctOk x y a b = false := by unfold ctOk; rw [h]; rfl
  exact ⟨this, by unfold ctN; rw [this]; rfl⟩
theorem ct_p {W H N A B M : Nat} (hn : (W : Int) * (H : Int) = N) (hM : M = N - A) : ctP W H A B = chN N A * chN M B := by
  unfold ctP
  rw [hn, Int.toNat_natCast, Int.toNat_natCast, Int.toNat_natCast, hM]
theorem ct_yes {x y a b : Int} {p : Nat} (h : faOk x y a b = true) (hp : ctP x y a b = p) (hl : p ≤ 1000000000000000) : ctOk x y a b = true ∧ ctN x y a b = (p : Nat) := by
  have : ctOk x y a b = true := by unfold ctOk; rw [h, hp, decide_eq_true hl]; rfl
  exact ⟨this, by unfold ctN; rw [this, hp]; rfl⟩
theorem ct_over {x y a b : Int} {p : Nat} (h : faOk x y a b = true) (hp : ctP x y a b = p) (hl : 1000000000000000 < p) : ctOk x y a b = false ∧ ctN x y a b = 0 := by
  have : ctOk x y a b = false := by unfold ctOk; rw [h, hp, decide_eq_false (by omega)]; rfl
  exact ⟨this, by unfold ctN; rw [this]; rfl⟩
theorem Try.fzero (w : World) : (zeroValue 30).run Try.prog w = .ok (.agg (fv 0 0 0 0)) w := by kernel_rfl
theorem Try.fsize (w : World) : (sizeOf 30).run Try.prog w = .ok 4 w := by kernel_rfl
theorem Try.finfo (x y a b : Int) : (Try.prog.info? 30).map (·.size) = some (fv x y a b).size := by
  have h : (Try.prog.info? 30).map (·.size) = some 4 := by kernel_rfl
  exact h
theorem Try.fbuild0 (w : World) : (Instr.build 30 #[]).run Try.prog w = .ok (.agg (fv 0 0 0 0)) w := by kernel_rfl
theorem Try.fbuild (x y a b : Int) (w : World) : (Instr.build 30 #[(0, .int .i64 x), (1, .int .i64 y), (2, .int .i64 a), (3, .int .i64 b)]).run Try.prog w = .ok (.agg (fv x y a b)) w := by kernel_rfl
theorem Try.ff2 (B : Nat) (w : World) : (Instr.fieldAt 30 (.pointer (some ⟨B, 0, none⟩)) 2).run Try.prog w = .ok (.pointer (some ⟨B, 2, none⟩)) w := by kernel_rfl
theorem Try.ff3 (B : Nat) (w : World) : (Instr.fieldAt 30 (.pointer (some ⟨B, 0, none⟩)) 3).run Try.prog w = .ok (.pointer (some ⟨B, 3, none⟩)) w := by kernel_rfl
set_option maxHeartbeats 1000000 in
set_option maxRecDepth 100000 in
theorem readFilling_any (x y a b : Int) (w : World) : Calls Try.prog 11 #[.int .i64 x, .int .i64 y, .int .i64 a, .int .i64 b] w (Ret (.tuple #[.agg (faV x y a b), .bool (faOk x y a b)]) w) := by
  have gg := Gr.refl w
  rcases fa_cases x y a b with ⟨ho, hv, hz | ⟨W, H, N, rfl, rfl, hz, hn, hN, hc⟩⟩ | ⟨W, H, N, A, B, M, rfl, rfl, rfl, rfl, hz, hn, hN, hA, hM, hB, ho, hv⟩
  · rw [ho, hv]
    have HZ := hidI hz
    clear ho hv hz
    go_enter Try.func11, Try.ntmps11
    go_wp2_with (first | (refine r_alloc (dst := some 8) 30 _ Try.fzero rfl ?_; intro w1 B1 N1; have g1 := N1.gr; have b1 : Blk w1 B1 (fv 0 0 0 0) 30 := N1.blk; have l1 := N1.lo; have t1 := N1.hi; have z1 := g1.size; have gg := gg.trans g1; clear N1) | (go_at_call 22; refine (isSize_any _ _ _).mono ?_; rintro e wSame ⟨rfl, rfl⟩; rw [HZ.out]) | (refine r_build 30 [] [] _ (Try.fbuild0 _) rfl rfl ?_) | (refine r_store_row 30 30 _ _ B1 rfl (fv 0 0 0 0) _ rfl b1 Try.fsize rfl (fv_one _ _ _ _) rfl ?_; intro w2 u2 b2; have z2 := u2.size; have gg := u2.gr gg (by omega)))
    refine bodyPost_ret (results_row_bool rfl _ _ _ _ _ _ rfl b2 Try.underlying30 rfl (Try.finfo _ _ _ _)) rfl ⟨rfl, gg⟩
  · rw [ho, hv]
    have HZ := hidI hz
    have HN := hidI hn
    clear ho hv hz hn
    rcases hc with h1 | ⟨h1, h2⟩ | ⟨A, M, rfl, h1, h2, h3 | ⟨h3, h4⟩⟩
    · skip
      go_enter Try.func11, Try.ntmps11
      go_wp2_with (first | (refine r_alloc (dst := some 8) 30 _ Try.fzero rfl ?_; intro w1 B1 N1; have g1 := N1.gr; have b1 : Blk w1 B1 (fv 0 0 0 0) 30 := N1.blk; have l1 := N1.lo; have t1 := N1.hi; have z1 := g1.size; have gg := gg.trans g1; clear N1) | (go_at_call 22; refine (isSize_any _ _ _).mono ?_; rintro e wSame ⟨rfl, rfl⟩; rw [HZ.out]) | (refine r_mulN _ _ (W : Int) (H : Int) (N : Int) rfl rfl HN.out (by omega) rfl ?_) | (refine r_subN _ _ (N : Int) (A : Int) (M : Int) rfl rfl HM.out (by omega) rfl ?_) | (refine r_build 30 [] [] _ (Try.fbuild0 _) rfl rfl ?_) | (refine r_store_row 30 30 _ _ B1 rfl (fv 0 0 0 0) _ rfl b1 Try.fsize rfl (fv_one _ _ _ _) rfl ?_; intro w2 u2 b2; have z2 := u2.size; have gg := u2.gr gg (by omega)))
      refine bodyPost_ret (results_row_bool rfl _ _ _ _ _ _ rfl b2 Try.underlying30 rfl (Try.finfo _ _ _ _)) rfl ⟨rfl, gg⟩
    · have q1 : decide (a < 0) = false := decide_eq_false (by omega)
      go_enter Try.func11, Try.ntmps11
      go_wp2_with (first | (refine r_alloc (dst := some 8) 30 _ Try.fzero rfl ?_; intro w1 B1 N1; have g1 := N1.gr; have b1 : Blk w1 B1 (fv 0 0 0 0) 30 := N1.blk; have l1 := N1.lo; have t1 := N1.hi; have z1 := g1.size; have gg := gg.trans g1; clear N1) | (go_at_call 22; refine (isSize_any _ _ _).mono ?_; rintro e wSame ⟨rfl, rfl⟩; rw [HZ.out]) | (refine r_mulN _ _ (W : Int) (H : Int) (N : Int) rfl rfl HN.out (by omega) rfl ?_) | (refine r_subN _ _ (N : Int) (A : Int) (M : Int) rfl rfl HM.out (by omega) rfl ?_) | (refine r_build 30 [] [] _ (Try.fbuild0 _) rfl rfl ?_) | (refine r_store_row 30 30 _ _ B1 rfl (fv 0 0 0 0) _ rfl b1 Try.fsize rfl (fv_one _ _ _ _) rfl ?_; intro w2 u2 b2; have z2 := u2.size; have gg := u2.gr gg (by omega)))
      refine bodyPost_ret (results_row_bool rfl _ _ _ _ _ _ rfl b2 Try.underlying30 rfl (Try.finfo _ _ _ _)) rfl ⟨rfl, gg⟩
    · have q1 : decide ((A : Int) < 0) = false := decide_eq_false (by omega)
      have q2 : decide ((N : Int) < (A : Int)) = false := decide_eq_false (by omega)
      have q2' : decide (N < A) = false := decide_eq_false (by omega)
      go_enter Try.func11, Try.ntmps11
      go_wp2_with (first | (refine r_alloc (dst := some 8) 30 _ Try.fzero rfl ?_; intro w1 B1 N1; have g1 := N1.gr; have b1 : Blk w1 B1 (fv 0 0 0 0) 30 := N1.blk; have l1 := N1.lo; have t1 := N1.hi; have z1 := g1.size; have gg := gg.trans g1; clear N1) | (go_at_call 22; refine (isSize_any _ _ _).mono ?_; rintro e wSame ⟨rfl, rfl⟩; rw [HZ.out]) | (refine r_mulN _ _ (W : Int) (H : Int) (N : Int) rfl rfl HN.out (by omega) rfl ?_) | (refine r_subN _ _ (N : Int) (A : Int) (M : Int) rfl rfl HM.out (by omega) rfl ?_) | (refine r_build 30 [] [] _ (Try.fbuild0 _) rfl rfl ?_) | (refine r_store_row 30 30 _ _ B1 rfl (fv 0 0 0 0) _ rfl b1 Try.fsize rfl (fv_one _ _ _ _) rfl ?_; intro w2 u2 b2; have z2 := u2.size; have gg := u2.gr gg (by omega)))
      refine bodyPost_ret (results_row_bool rfl _ _ _ _ _ _ rfl b2 Try.underlying30 rfl (Try.finfo _ _ _ _)) rfl ⟨rfl, gg⟩
    · have q1 : decide ((A : Int) < 0) = false := decide_eq_false (by omega)
      have q2 : decide ((N : Int) < (A : Int)) = false := decide_eq_false (by omega)
      have q2' : decide (N < A) = false := decide_eq_false (by omega)
      have q3 : decide (b < 0) = false := decide_eq_false (by omega)
      have HM := hidI (show (N : Int) - (A : Int) = (M : Int) by omega)
      go_enter Try.func11, Try.ntmps11
      go_wp2_with (first | (refine r_alloc (dst := some 8) 30 _ Try.fzero rfl ?_; intro w1 B1 N1; have g1 := N1.gr; have b1 : Blk w1 B1 (fv 0 0 0 0) 30 := N1.blk; have l1 := N1.lo; have t1 := N1.hi; have z1 := g1.size; have gg := gg.trans g1; clear N1) | (go_at_call 22; refine (isSize_any _ _ _).mono ?_; rintro e wSame ⟨rfl, rfl⟩; rw [HZ.out]) | (refine r_mulN _ _ (W : Int) (H : Int) (N : Int) rfl rfl HN.out (by omega) rfl ?_) | (refine r_subN _ _ (N : Int) (A : Int) (M : Int) rfl rfl HM.out (by omega) rfl ?_) | (refine r_build 30 [] [] _ (Try.fbuild0 _) rfl rfl ?_) | (refine r_store_row 30 30 _ _ B1 rfl (fv 0 0 0 0) _ rfl b1 Try.fsize rfl (fv_one _ _ _ _) rfl ?_; intro w2 u2 b2; have z2 := u2.size; have gg := u2.gr gg (by omega)))
      refine bodyPost_ret (results_row_bool rfl _ _ _ _ _ _ rfl b2 Try.underlying30 rfl (Try.finfo _ _ _ _)) rfl ⟨rfl, gg⟩
  · rw [ho, hv]
    have HZ := hidI hz
    have HN := hidI hn
    have q1 : decide ((A : Int) < 0) = false := decide_eq_false (by omega)
    have q2 : decide ((N : Int) < (A : Int)) = false := decide_eq_false (by omega)
    have q2' : decide (N < A) = false := decide_eq_false (by omega)
    have q3 : decide ((B : Int) < 0) = false := decide_eq_false (by omega)
    have q4 : decide (M < B) = false := decide_eq_false (by omega)
    have HM := hidI (show (N : Int) - (A : Int) = (M : Int) by omega)
    clear ho hv hz hn
    go_enter Try.func11, Try.ntmps11
    go_wp2_with (first | (refine r_alloc (dst := some 8) 30 _ Try.fzero rfl ?_; intro w1 B1 N1; have g1 := N1.gr; have b1 : Blk w1 B1 (fv 0 0 0 0) 30 := N1.blk; have l1 := N1.lo; have t1 := N1.hi; have z1 := g1.size; have gg := gg.trans g1; clear N1) | (go_at_call 22; refine (isSize_any _ _ _).mono ?_; rintro e wSame ⟨rfl, rfl⟩; rw [HZ.out]) | (refine r_mulN _ _ (W : Int) (H : Int) (N : Int) rfl rfl HN.out (by omega) rfl ?_) | (refine r_subN _ _ (N : Int) (A : Int) (M : Int) rfl rfl HM.out (by omega) rfl ?_) | (refine r_build 30 [(0, .tmp 39), (1, .tmp 40), (2, .tmp 41), (3, .tmp 42)] [(0, .int .i64 W), (1, .int .i64 H), (2, .int .i64 A), (3, .int .i64 B)] _ (Try.fbuild _ _ _ _ _) rfl rfl ?_) | (refine r_store_row 30 30 _ _ B1 rfl (fv W H A B) _ rfl b1 Try.fsize rfl (fv_one _ _ _ _) rfl ?_; intro w2 u2 b2; have z2 := u2.size; have gg := u2.gr gg (by omega)))
    refine bodyPost_ret (results_row_bool rfl _ _ _ _ _ _ rfl b2 Try.underlying30 rfl (Try.finfo _ _ _ _)) rfl ⟨rfl, gg⟩
set_option maxHeartbeats 1000000 in
set_option maxRecDepth 100000 in
theorem countTrays_any (W H N A B M p : Nat) (w : World) (hn : (W : Int) * (H : Int) = N) (hN : N ≤ 36) (hA : A ≤ N) (hM : M = N - A) (hB : B ≤ M) (hp : chN N A * chN M B = p) :
    Calls Try.prog 17 #[.agg (fv W H A B)] w (Ret (.int .i64 p) w) := by
  have gg := Gr.refl w
  have HN := hidI hn
  have hM36 : M ≤ 36 := by omega
  have HM := hidI (show (N : Int) - (A : Int) = (M : Int) by omega)
  have hb := chN_mul hN hA (by omega : B ≤ N - A)
  rw [← hM] at hb
  have HCA := hidI (fun w => countSetsN_any N A w hN hA)
  have HCB := hidI (fun w => countSetsN_any M B w hM36 hB)
  obtain ⟨c1, hc1⟩ : ∃ c1, c1 = chN N A := ⟨_, rfl⟩
  obtain ⟨c2, hc2⟩ : ∃ c2, c2 = chN M B := ⟨_, rfl⟩
  rw [← hc1, ← hc2] at hp hb
  rw [← hc1] at HCA
  rw [← hc2] at HCB
  have HP := hidI (show (c1 : Int) * (c2 : Int) = (p : Int) by rw [← hp, Int.natCast_mul])
  have hp18 : p ≤ 1000000000000000000 := by rw [← hp]; exact hb
  clear hn hM hp hb hc1 hc2
  go_enter Try.func17, Try.ntmps17
  go_wp2_with (first | (refine r_box 30 _ (fv W H A B) rfl rfl ?_; intro w1 B1 N1; have g1 := N1.gr; have b1 : Blk w1 B1 (fv W H A B) 30 := N1.blk; obtain ⟨b1_0, b1_1, b1_2, b1_3⟩ := fcells b1; have gg := gg.trans g1; clear N1) | (refine r_mulN _ _ (W : Int) (H : Int) (N : Int) rfl rfl HN.out (by omega) rfl ?_))
  refine q_whole (by kernel_rfl) (by kernel_rfl) ?_
  refine q_move _ (.int .i64 N) rfl rfl ?_; simp only [Act.put, List.setIfInBounds_toArray, List.set_cons_succ, List.set_cons_zero]
  refine q_take (.pointer (some ⟨B1, 2, none⟩)) rfl (fun w' hw' => e_val _ _ (Try.ff2 B1 _)) ?_; simp only [Act.put, List.setIfInBounds_toArray, List.set_cons_succ, List.set_cons_zero]
  refine q_take (.int .i64 A) rfl (fun w' hw' => e_load 3 (.tmp 10) ⟨B1, 2, none⟩ _ rfl (Try.isAgg3 _) (hw'.cell b1_2)) ?_; simp only [Act.put, List.setIfInBounds_toArray, List.set_cons_succ, List.set_cons_zero]
  refine q_call 25 [.tmp 9, .tmp 11] _ [.int .i64 N, .int .i64 A] (.int .i64 c1) Try.call25 rfl rfl (fun w' hw' => ((HCA.out w').mono fun e w'' h => ⟨h.1, hw'.trans h.2⟩)) ?_; simp only [Act.put, List.setIfInBounds_toArray, List.set_cons_succ, List.set_cons_zero]
  refine q_move _ (.int .i64 N) rfl rfl ?_; simp only [Act.put, List.setIfInBounds_toArray, List.set_cons_succ, List.set_cons_zero]
  refine q_take (.pointer (some ⟨B1, 2, none⟩)) rfl (fun w' hw' => e_val _ _ (Try.ff2 B1 _)) ?_; simp only [Act.put, List.setIfInBounds_toArray, List.set_cons_succ, List.set_cons_zero]
  refine q_take (.int .i64 A) rfl (fun w' hw' => e_load 3 (.tmp 14) ⟨B1, 2, none⟩ _ rfl (Try.isAgg3 _) (hw'.cell b1_2)) ?_; simp only [Act.put, List.setIfInBounds_toArray, List.set_cons_succ, List.set_cons_zero]
  refine q_sub _ _ _ _ ((N : Int)) ((A : Int)) ((M : Int)) rfl rfl (HM.out) (by omega) rfl ?_; simp only [Act.put, List.setIfInBounds_toArray, List.set_cons_succ, List.set_cons_zero]
  refine q_take (.pointer (some ⟨B1, 3, none⟩)) rfl (fun w' hw' => e_val _ _ (Try.ff3 B1 _)) ?_; simp only [Act.put, List.setIfInBounds_toArray, List.set_cons_succ, List.set_cons_zero]
  refine q_take (.int .i64 B) rfl (fun w' hw' => e_load 3 (.tmp 17) ⟨B1, 3, none⟩ _ rfl (Try.isAgg3 _) (hw'.cell b1_3)) ?_; simp only [Act.put, List.setIfInBounds_toArray, List.set_cons_succ, List.set_cons_zero]
  refine q_call 25 [.tmp 16, .tmp 18] _ [.int .i64 M, .int .i64 B] (.int .i64 c2) Try.call25 rfl rfl (fun w' hw' => ((HCB.out w').mono fun e w'' h => ⟨h.1, hw'.trans h.2⟩)) ?_; simp only [Act.put, List.setIfInBounds_toArray, List.set_cons_succ, List.set_cons_zero]
  refine q_mul _ _ _ _ ((c1 : Int)) ((c2 : Int)) ((p : Int)) rfl rfl (HP.out) (by omega) rfl ?_; simp only [Act.put, List.setIfInBounds_toArray, List.set_cons_succ, List.set_cons_zero]
  refine q_assign _ (.int .i64 p) rfl rfl ?_; simp only [Act.put, List.setIfInBounds_toArray, List.set_cons_succ, List.set_cons_zero]
  refine wpQuiet_nil ?_; intro w3 g3; have z3 := g3.size; have gg := gg.trans g3
  go_wp2
  go_ret
  exact ⟨rfl, gg⟩
set_option maxHeartbeats 1000000 in
set_option maxRecDepth 100000 in
theorem cnAsked_any (x y a b : Int) (w : World) : Calls Try.prog 6 #[.int .i64 x, .int .i64 y, .int .i64 a, .int .i64 b] w fun e w' => e = .returned (.bool (faOk x y a b)) ∧ w = w' := by
  rcases fa_cases x y a b with ⟨ho, hv, hz | ⟨W, H, N, rfl, rfl, hz, hn, hN, hc⟩⟩ | ⟨W, H, N, A, B, M, rfl, rfl, rfl, rfl, hz, hn, hN, hA, hM, hB, ho, hv⟩
  · rw [ho]
    have HZ := hidI hz
    clear ho hv hz
    go_enter Try.func6, Try.ntmps6
    go_wp2_with (first | (go_at_call 19; refine (cnSize_any _ _ _).mono ?_; rintro e wSame ⟨rfl, rfl⟩; rw [HZ.out]) | (refine r_mulN _ _ (W : Int) (H : Int) (N : Int) rfl rfl HN.out (by omega) rfl ?_) | (refine r_subN _ _ (N : Int) (A : Int) (M : Int) rfl rfl HM.out (by omega) rfl ?_) | (go_at_call 7; refine (l1In_any _ _ _ _).mono ?_; rintro e wSame ⟨rfl, rfl⟩; first | rw [HA.out] | rw [HB.out]))
    go_ret
    exact ⟨rfl, rfl⟩
  · rw [ho]
    have HZ := hidI hz
    have HN := hidI hn
    clear ho hv hz hn
    rcases hc with h1 | ⟨h1, h2⟩ | ⟨A, M, rfl, h1, h2, h3 | ⟨h3, h4⟩⟩
    · have HA := hidI (show btw a 0 (N : Int) = false from by unfold btw; rw [decide_eq_false (by omega)]; rfl)
      go_enter Try.func6, Try.ntmps6
      go_wp2_with (first | (go_at_call 19; refine (cnSize_any _ _ _).mono ?_; rintro e wSame ⟨rfl, rfl⟩; rw [HZ.out]) | (refine r_mulN _ _ (W : Int) (H : Int) (N : Int) rfl rfl HN.out (by omega) rfl ?_) | (refine r_subN _ _ (N : Int) (A : Int) (M : Int) rfl rfl HM.out (by omega) rfl ?_) | (go_at_call 7; refine (l1In_any _ _ _ _).mono ?_; rintro e wSame ⟨rfl, rfl⟩; first | rw [HA.out] | rw [HB.out]))
      go_ret
      exact ⟨rfl, rfl⟩
    · have HA := hidI (show btw a 0 (N : Int) = false from by unfold btw; rw [decide_eq_false (show ¬ a ≤ (N : Int) by omega), Bool.and_false])
      go_enter Try.func6, Try.ntmps6
      go_wp2_with (first | (go_at_call 19; refine (cnSize_any _ _ _).mono ?_; rintro e wSame ⟨rfl, rfl⟩; rw [HZ.out]) | (refine r_mulN _ _ (W : Int) (H : Int) (N : Int) rfl rfl HN.out (by omega) rfl ?_) | (refine r_subN _ _ (N : Int) (A : Int) (M : Int) rfl rfl HM.out (by omega) rfl ?_) | (go_at_call 7; refine (l1In_any _ _ _ _).mono ?_; rintro e wSame ⟨rfl, rfl⟩; first | rw [HA.out] | rw [HB.out]))
      go_ret
      exact ⟨rfl, rfl⟩
    · have HA := hidI (show btw (A : Int) 0 (N : Int) = true from by unfold btw; rw [decide_eq_true (by omega), decide_eq_true (by omega)]; rfl)
      have HM := hidI (show (N : Int) - (A : Int) = (M : Int) by omega)
      have HB := hidI (show btw b 0 (M : Int) = false from by unfold btw; rw [decide_eq_false (by omega)]; rfl)
      have hM36 : M ≤ 36 := by omega
      clear h2
      go_enter Try.func6, Try.ntmps6
      go_wp2_with (first | (go_at_call 19; refine (cnSize_any _ _ _).mono ?_; rintro e wSame ⟨rfl, rfl⟩; rw [HZ.out]) | (refine r_mulN _ _ (W : Int) (H : Int) (N : Int) rfl rfl HN.out (by omega) rfl ?_) | (refine r_subN _ _ (N : Int) (A : Int) (M : Int) rfl rfl HM.out (by omega) rfl ?_) | (go_at_call 7; refine (l1In_any _ _ _ _).mono ?_; rintro e wSame ⟨rfl, rfl⟩; first | rw [HA.out] | rw [HB.out]))
      go_ret
      exact ⟨rfl, rfl⟩
    · have HA := hidI (show btw (A : Int) 0 (N : Int) = true from by unfold btw; rw [decide_eq_true (by omega), decide_eq_true (by omega)]; rfl)
      have HM := hidI (show (N : Int) - (A : Int) = (M : Int) by omega)
      have HB := hidI (show btw b 0 (M : Int) = false from by unfold btw; rw [decide_eq_false (show ¬ b ≤ (M : Int) by omega), Bool.and_false])
      have hM36 : M ≤ 36 := by omega
      clear h2
      go_enter Try.func6, Try.ntmps6
      go_wp2_with (first | (go_at_call 19; refine (cnSize_any _ _ _).mono ?_; rintro e wSame ⟨rfl, rfl⟩; rw [HZ.out]) | (refine r_mulN _ _ (W : Int) (H : Int) (N : Int) rfl rfl HN.out (by omega) rfl ?_) | (refine r_subN _ _ (N : Int) (A : Int) (M : Int) rfl rfl HM.out (by omega) rfl ?_) | (go_at_call 7; refine (l1In_any _ _ _ _).mono ?_; rintro e wSame ⟨rfl, rfl⟩; first | rw [HA.out] | rw [HB.out]))
      go_ret
      exact ⟨rfl, rfl⟩
  · rw [ho]
    have HZ := hidI hz
    have HN := hidI hn
    have HA := hidI (show btw (A : Int) 0 (N : Int) = true from by unfold btw; rw [decide_eq_true (by omega), decide_eq_true (by omega)]; rfl)
    have HM := hidI (show (N : Int) - (A : Int) = (M : Int) by omega)
    have HB := hidI (show btw (B : Int) 0 (M : Int) = true from by unfold btw; rw [decide_eq_true (by omega), decide_eq_true (by omega)]; rfl)
    have hM36 : M ≤ 36 := by omega
    clear ho hv hz hn hM
    go_enter Try.func6, Try.ntmps6
    go_wp2_with (first | (go_at_call 19; refine (cnSize_any _ _ _).mono ?_; rintro e wSame ⟨rfl, rfl⟩; rw [HZ.out]) | (refine r_mulN _ _ (W : Int) (H : Int) (N : Int) rfl rfl HN.out (by omega) rfl ?_) | (refine r_subN _ _ (N : Int) (A : Int) (M : Int) rfl rfl HM.out (by omega) rfl ?_) | (go_at_call 7; refine (l1In_any _ _ _ _).mono ?_; rintro e wSame ⟨rfl, rfl⟩; first | rw [HA.out] | rw [HB.out]))
    go_ret
    exact ⟨rfl, rfl⟩
theorem div_over {c1 c2 p : Nat} (h2 : 0 < c2) (hp : c1 * c2 = p) : 1000000000000000 / c2 < c1 ↔ 1000000000000000 < p := by
  rw [← hp]; exact Nat.div_lt_iff_lt_mul h2
set_option maxHeartbeats 1000000 in
set_option maxRecDepth 100000 in
theorem cnTrays_any (W H N A B M p : Nat) (w : World) (hn : (W : Int) * (H : Int) = N) (hN : N ≤ 36) (hA : A ≤ N) (hM : M = N - A) (hB : B ≤ M) (hp : chN N A * chN M B = p) :
    Calls Try.prog 9 #[.int .i64 W, .int .i64 H, .int .i64 A, .int .i64 B] w (Ret (.tuple #[.int .i64 (if p ≤ 1000000000000000 then (p : Int) else 0), .bool (decide (p ≤ 1000000000000000))]) w) := by
  have gg := Gr.refl w
  have HN := hidI hn
  have hM36 : M ≤ 36 := by omega
  have HM := hidI (show (N : Int) - (A : Int) = (M : Int) by omega)
  have hb := chN_mul hN hA (by omega : B ≤ N - A)
  rw [← hM] at hb
  have h2 := chN_pos hM36 hB
  obtain ⟨c1, hc1⟩ : ∃ c1, c1 = chN N A := ⟨_, rfl⟩
  obtain ⟨c2, hc2⟩ : ∃ c2, c2 = chN M B := ⟨_, rfl⟩
  rw [← hc1, ← hc2] at hp hb
  rw [← hc2] at h2
  have HC1 := hidI hc1.symm
  have HC2 := hidI hc2.symm
  have HP := hidI (show (c1 : Int) * (c2 : Int) = (p : Int) by rw [← hp, Int.natCast_mul])
  have hp18 : p ≤ 1000000000000000000 := by rw [← hp]; exact hb
  have hd := div_over (c1 := c1) h2 hp
  have HC := hidI (show (.int .i64 1000000000000000 : Value) = .int .i64 ((1000000000000000 : Nat) : Int) by rw [show ((1000000000000000 : Nat) : Int) = 1000000000000000 by omega])
  obtain ⟨q, hq⟩ : ∃ q, q = 1000000000000000 / c2 := ⟨_, rfl⟩
  have HQ := hidI (show (.int .i64 ((1000000000000000 / c2 : Nat) : Int) : Value) = .int .i64 (q : Int) by rw [hq])
  rw [← hq] at hd
  clear hn hM hp hb hc1 hc2 hq
  by_cases hl : p ≤ 1000000000000000
  · have hqc : ¬ q < c1 := fun h => by have := hd.1 h; omega
    have HR := hidI (show (if p ≤ 1000000000000000 then (p : Int) else 0) = (p : Int) from if_pos hl)
    have HD := hidI (show decide (p ≤ 1000000000000000) = true from decide_eq_true hl)
    clear hd
    go_enter Try.func9, Try.ntmps9
    go_wp2_with (first | (refine r_mulN _ _ (W : Int) (H : Int) (N : Int) rfl rfl HN.out (by omega) rfl ?_) | (refine r_subN _ _ (N : Int) (A : Int) (M : Int) rfl rfl HM.out (by omega) rfl ?_) | (go_at_call 20; refine (cnChoose_any _ _ _ (by omega) (by omega)).mono ?_; rintro e w1 ⟨rfl, g1⟩; have gg := gg.trans g1; first | rw [HC1.out] | rw [HC2.out]) | (refine r_quoN _ _ 1000000000000000 c2 HC.out rfl h2 (by omega) rfl ?_; rw [HQ.out]) | (refine r_mulN _ _ (c1 : Int) (c2 : Int) (p : Int) rfl rfl HP.out (by omega) rfl ?_))
    go_ret2
    first | exact ⟨fin_ibN rfl HD.out.symm, gg⟩ | exact ⟨fin_ibN rfl rfl, gg⟩ | exact ⟨fin_ibN HR.out.symm HD.out.symm, gg⟩
  · have hqc : q < c1 := hd.2 (by omega)
    have HR := hidI (show (if p ≤ 1000000000000000 then (p : Int) else 0) = 0 from if_neg hl)
    have HD := hidI (show decide (p ≤ 1000000000000000) = false from decide_eq_false hl)
    clear hd
    go_enter Try.func9, Try.ntmps9
    go_wp2_with (first | (refine r_mulN _ _ (W : Int) (H : Int) (N : Int) rfl rfl HN.out (by omega) rfl ?_) | (refine r_subN _ _ (N : Int) (A : Int) (M : Int) rfl rfl HM.out (by omega) rfl ?_) | (go_at_call 20; refine (cnChoose_any _ _ _ (by omega) (by omega)).mono ?_; rintro e w1 ⟨rfl, g1⟩; have gg := gg.trans g1; first | rw [HC1.out] | rw [HC2.out]) | (refine r_quoN _ _ 1000000000000000 c2 HC.out rfl h2 (by omega) rfl ?_; rw [HQ.out]) | (refine r_mulN _ _ (c1 : Int) (c2 : Int) (p : Int) rfl rfl HP.out (by omega) rfl ?_))
    go_ret2
    first | exact ⟨fin_ibN rfl HD.out.symm, gg⟩ | exact ⟨fin_ibN rfl rfl, gg⟩ | exact ⟨fin_ibN HR.out.symm HD.out.symm, gg⟩
end Go.Proofs.Ytmjmjibokombiaa
