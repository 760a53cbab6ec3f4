/-
  The text of a board in the model, and the law.
-/
import Derived.Test.YtdebiobhmpoiiaaDoorBtxJ
import Derived.Test.YtdebiobhmpoiiaaDoorBBb
import Derived.Test.YtdebiobhmpoiiaaDoorBBb
import Derived.Test.YtdebiobhmpoiiaaDoorBKit
import Derived.Test.YtdebiobhmpoiiaaDoorPlace
namespace Go.Proofs.YtdebiobhmpoiiaaDoor
open Go.RowKit
section
variable {P : Program} {w : World} {a : Act} {dst : Option Tmp} {ty : TypeId} {pos : String} {aft : Array Edge} {gd : Option (Nat × Bool)}
theorem e_convT {src dt : TypeId} (x : Operand) (v u : Value) (hx : a.eval x = v) (hr : (convert src dt v).run P w = .ok u w) :
    (execOp a.eval ⟨dst, .convert src dt x, ty, pos, aft, gd⟩).run P w = .ok (.value u) w := by
  unfold execOp
  simp only [hx, Sem.run_bind, hr, Result.andThen_ok, Sem.run_pure]
theorem e_catT {T yt : TypeId} (x y : Operand) (s t u : ByteArray) (hx : a.eval x = .string s) (hy : a.eval y = .string t) (hr : (Op.stringOp .add s t).run P w = .ok (.string u) w) :
    (execOp a.eval ⟨dst, .binOp .add T x y yt, ty, pos, aft, gd⟩).run P w = .ok (.value (.string u)) w := by
  unfold execOp
  simp only [hx, hy, eqGuard_add, Sem.run_bind, Sem.run_pure, Result.andThen_ok]
  show ((Op.stringOp .add s t).run P w).andThen _ = _
  rw [hr]
  rfl
theorem e_remT {T yt : TypeId} (x y : Operand) (m n : Nat) (hx : a.eval x = .int .i64 m) (hy : a.eval y = .int .i64 n) (hn : 0 < n) :
    (execOp a.eval ⟨dst, .binOp .rem T x y yt, ty, pos, aft, gd⟩).run P w = .ok (.value (.int .i64 (m % n : Nat))) w := by
  unfold execOp
  simp only [hx, hy, eqGuard_rem, Sem.run_bind, Sem.run_pure, Result.andThen_ok, run_rem T m n hn]
theorem e_gtrS {T yt : TypeId} {k : IntKind} (x y : Operand) (m n : Int) (v : Bool) (hx : a.eval x = .int k m) (hy : a.eval y = .int k n) (hv : decide (n < m) = v) :
    (execOp a.eval ⟨dst, .binOp .gtr T x y yt, ty, pos, aft, gd⟩).run P w = .ok (.value (.bool v)) w := by
  subst hv
  unfold execOp
  simp [hx, hy, eqGuard, binOp, Op.intCmp]
theorem e_eqlS2 {T yt : TypeId} {k : IntKind} (x y : Operand) (m n : Int) (v : Bool) (hx : a.eval x = .int k m) (hy : a.eval y = .int k n) (hv : decide (m = n) = v) :
    (execOp a.eval ⟨dst, .binOp .eql T x y yt, ty, pos, aft, gd⟩).run P w = .ok (.value (.bool v)) w := by
  subst hv
  unfold execOp
  have e : (m == n) = decide (m = n) := by rw [Bool.eq_iff_iff, beq_iff_eq, decide_eq_true_eq]
  simp [hx, hy, eqGuard, binOp, Op.intCmp, e]
end
theorem cat_sum {P : Program} (w : World) (s t : ByteArray) (h : s.size + t.size ≤ 1000) : (Op.stringOp .add s t : Sem Value).run P w = .ok (.string (s ++ t)) w :=
  run_string_add_sum (P := P) w s t (by omega)
theorem cat_mk (l m : List UInt8) : (⟨l.toArray⟩ : ByteArray) ++ ⟨m.toArray⟩ = ⟨(l ++ m).toArray⟩ := by
  apply ByteArray.ext
  rw [ByteArray.data_append]
  simp
theorem mtT_len (L : List Int) (W : Nat) : ∀ m, (mtT L W m).length ≤ 2 * m
  | 0 => Nat.le_refl _
  | m + 1 => by
    have := mtT_len L W m
    rw [mtT, List.length_append, List.length_append]
    have h2 : (sepT W m).length ≤ 1 := by
      unfold sepT
      split
      · exact Nat.zero_le _
      · split <;> exact Nat.le_refl _
    simp only [List.length_cons, List.length_nil]
    omega
theorem Tryd.bsl1T (b : UInt8) (w : World) : (Instr.buildSlice 53 1 #[(0, .int .u8 b.toNat)]).run Tryd.prog w = .ok (.slice (some ⟨w.heap.size, 0, none⟩) 1 1) (w.alloc (.cells #[.int .u8 b.toNat] 5)) := by kernel_rfl
theorem Tryd.cvb8T (x : Nat) (h : x < 256) (w : World) : (convert 3 5 (.int .i64 (x : Int))).run Tryd.prog w = .ok (.int .u8 (x : Int)) w := by
  have hs : Tryd.prog.underlying 3 = some (.int .i64) := Tryd.underlying3
  have hd : Tryd.prog.underlying 5 = some (.int .u8) := Tryd.underlying5
  have hw := IntWalk.u8_in (x : Int) (by omega)
  simp [convert, Conv.intToInt, run_underlying hs, run_underlying hd, hw]
theorem Tryd.cvu8T (x : Nat) (h : x ≤ 255) (w : World) : (convert 3 5 (.int .i64 (x : Int))).run Tryd.prog w = .ok (.int .u8 ((UInt8.ofNat x).toNat : Int)) w := by
  have e : (UInt8.ofNat x).toNat = x := by simp; omega
  rw [e]
  exact Tryd.cvb8T x (by omega) w
set_option maxHeartbeats 1000000 in
set_option maxRecDepth 100000 in
theorem l1Num_dgt (k : Nat) (w : World) (hk : k < 10) : Calls Tryd.prog 85 #[.int .i64 k] w (Ret (.string ⟨#[dgt k]⟩) w) := by
  have gg := Gr.refl w
  obtain ⟨b, hb⟩ : ∃ b, b = dgt k := ⟨_, rfl⟩
  rw [← hb]
  obtain ⟨x, hx⟩ : ∃ x, x = 48 + k := ⟨_, rfl⟩
  have HCV := hidI (fun w => show (convert 3 5 (.int .i64 (x : Int))).run Tryd.prog w = .ok (.int .u8 (b.toNat : Int)) w from by
    rw [hb]
    unfold dgt
    rw [Int.toNat_natCast, ← hx]
    exact Tryd.cvu8T x (by omega) w)
  have HX := hidI (show (48 : Int) + (k : Int) = (x : Int) from by omega)
  clear hb
  go_enter Tryd.func85, Tryd.ntmps85
  go_wp2_with (first | (refine r_val (.int .i64 (x : Int)) (e_add _ _ 48 (k : Int) x rfl rfl HX.out (by omega)) rfl ?_) | (refine r_val (.int .u8 (b.toNat : Int)) (e_convT _ (.int .i64 (x : Int)) _ rfl (HCV.out _)) rfl ?_) | (refine r_slice1 53 5 (.tmp 7) (.int .u8 b.toNat) rfl (Tryd.bsl1T _ _) rfl ?_; intro w3 B3 N3; have g3 := N3.gr; have b3 := N3.blk; have gg := gg.trans g3) | (refine r_conv 53 9 _ _ (.string ⟨#[b]⟩) rfl (Tryd.conv B3 0 _ _ _ (bytes_one (Blk.cell b3 0)) 1 rfl) rfl ?_))
  go_ret
  exact ⟨rfl, gg⟩
theorem Tryd.ibf0T (B : Nat) (w : World) : (Instr.fieldAt 45 (.pointer (some ⟨B, 0, none⟩)) 0).run Tryd.prog w = .ok (.pointer (some ⟨B, 0, none⟩)) w := by kernel_rfl
set_option maxHeartbeats 2000000 in
set_option maxRecDepth 100000 in
theorem blText_any (W : Nat) (L : List Int) (v : Value) (base : Nat) (w : World) (hown : w.ownsRow base 3 1 v L.length (intsV L)) (hw1 : 1 ≤ W) (h9 : L.length ≤ 9) (h0 : 0 < L.length) (hd : ∀ i, i < L.length → 0 ≤ gi L i ∧ gi L i < 10) :
    Calls Tryd.prog 49 #[.agg (bv W v)] w (Ret (.string ⟨(mtT L W L.length).toArray⟩) w) := by
  have gg := Gr.refl w
  obtain ⟨G, cap, rfl, hbG, -⟩ := own_shape hown h0
  obtain ⟨n, hn⟩ : ∃ n, n = L.length := ⟨_, rfl⟩
  have HC := hidI (fun j (hj : j < n) => show w.cell? ⟨G, j, none⟩ = some (.int .i64 (gi L j)) from own_int hown j (by omega) rfl)
  rw [← hn] at h9 h0 hd hown ⊢
  have HD := hidI hd
  obtain ⟨TB, hTB⟩ : ∃ TB : Nat → ByteArray, TB = fun m => ⟨(mtT L W m).toArray⟩ := ⟨_, rfl⟩
  have HSUC := hidI (fun m => show TB (m + 1) = (if m = 0 then TB m else TB m ++ ⟨#[if m % W = 0 then 47 else 44]⟩) ++ ⟨#[dgt (gi L m)]⟩ from by
    rw [hTB]
    dsimp only
    rw [mtT]
    unfold sepT
    by_cases hm0 : m = 0
    · rw [if_pos hm0, if_pos hm0, cat_mk]; rfl
    · rw [if_neg hm0, if_neg hm0]
      rw [cat_mk _ [if m % W = 0 then 47 else 44], cat_mk]
      by_cases hmw : m % W = 0
      · rw [if_pos hmw, if_pos hmw]; simp
      · rw [if_neg hmw, if_neg hmw]; simp)
  have HSIZ := hidI (fun m => show (TB m).size ≤ 2 * m from by rw [hTB]; show (mtT L W m).toArray.size ≤ _; rw [List.size_toArray]; exact mtT_len L W m)
  have HT0 := hidI (show TB 0 = ⟨#[]⟩ from by rw [hTB]; rfl)
  have HTN := hidI (show TB n = ⟨(mtT L W n).toArray⟩ from by rw [hTB])
  rw [← HTN.out]
  clear hTB hd hn
  go_enter Tryd.func49, Tryd.ntmps49
  go_wp2_with (refine r_box 45 _ (bv (W) (.slice (some ⟨G, 0, none⟩) n cap)) rfl rfl ?_; intro w1 B1 N1; have g1 := N1.gr; have b1 : Blk w1 B1 (bv (W) (.slice (some ⟨G, 0, none⟩) n cap)) 45 := N1.blk; have l1 := N1.lo; have t1 := N1.hi; have z1 := g1.size; have gg := gg.trans g1; clear N1; obtain ⟨b1_0, b1_1⟩ := bcells b1)
  go_loopw [3, 9] (fun tv iv wr => ∃ m : Nat, iv = .int .i64 m ∧ tv = .string (TB m) ∧ m ≤ n ∧ Blk wr B1 (bv W (.slice (some ⟨G, 0, none⟩) n cap)) 45 ∧ Gr w wr) (fun _ iv _ => n - natB iv)
  case atStart => exact ⟨0, rfl, by rw [HT0.out], Nat.zero_le _, b1, gg⟩
  case round =>
    clear b1 gg
    obtain ⟨m, rfl, rfl, hmn, b1, gg⟩ := hrel
    by_cases hlt : m < n
    · have hix := Tryd.isix G n cap m hlt
      have hcl := gg.cell (HC.out m hlt)
      obtain ⟨d0, d1⟩ := HD.out m hlt
      obtain ⟨x, hx⟩ : ∃ x : Nat, gi L m = (x : Int) := ⟨(gi L m).toNat, by omega⟩
      have hsu := HSUC.out m
      rw [hx] at hcl hsu
      have HNU := hidI (fun w' => l1Num_dgt x w' (by omega))
      obtain ⟨c, hc⟩ : ∃ c, c = dgt (x : Int) := ⟨_, rfl⟩
      rw [← hc] at HNU hsu
      have hsz := HSIZ.out m
      clear d0 d1 hx hc
      by_cases hm0 : m = 0
      · have HTE := hidI (show TB (m + 1) = TB m ++ ⟨#[c]⟩ from by rw [hsu, if_pos hm0])
        have hg0 : decide ((0 : Int) < (m : Int)) = false := decide_eq_false (by omega)
        have HS2 := hidI (show (TB m).size + (⟨#[c]⟩ : ByteArray).size ≤ 1000 from by show (TB m).size + 1 ≤ 1000; omega)
        obtain ⟨S, hS⟩ : ∃ S, S = TB m := ⟨_, rfl⟩
        rw [← hS] at HTE HS2 ⊢
        clear hsu hS hsz hm0
        go_upto_region 5 with (first | (refine r_idx 34 _ _ (.slice (some ⟨G, 0, none⟩) n cap) (.int .i64 m) _ rfl rfl (hix _) rfl ?_) | (refine r_ldc 3 _ ⟨G, m, none⟩ (.int .i64 x) rfl (Tryd.isAgg3 _) hcl rfl ?_))
        go_step
        refine r_val (.int .i64 m) rfl rfl ?_
        simp only [Act.put, List.setIfInBounds_toArray, List.set_cons_succ, List.set_cons_zero]
        refine r_val (.bool false) (e_gtrS _ _ (m : Int) 0 false rfl rfl hg0) rfl ?_
        simp only [Act.put, List.setIfInBounds_toArray, List.set_cons_succ, List.set_cons_zero]
        refine r_val (.bool false) rfl rfl ?_
        simp only [Act.put, List.setIfInBounds_toArray, List.set_cons_succ, List.set_cons_zero]
        go_wp2_with (first | (refine r_val (.bool false) (e_gtrS _ _ (m : Int) 0 false rfl rfl hg0) rfl ?_) | (go_at_call 85; refine (HNU.out _).mono ?_; rintro e w5 ⟨rfl, g5⟩; have b1 := g5.blk b1; have gg := gg.trans g5) | (refine r_val (.string (S ++ ⟨#[c]⟩)) (e_catT _ _ S ⟨#[c]⟩ _ rfl rfl (cat_sum _ _ _ HS2.out)) rfl ?_))
        go_roundw
        case rel => exact ⟨m + 1, by go_num, by rw [HTE.out], hlt, b1, gg⟩
        case measure => simp [natB]; omega
      · have hg0 : decide ((0 : Int) < (m : Int)) = true := decide_eq_true (by omega)
        by_cases hmw : m % W = 0
        · have HTE := hidI (show TB (m + 1) = (TB m ++ ⟨#[47]⟩) ++ ⟨#[c]⟩ from by rw [hsu, if_neg hm0, if_pos hmw])
          have hr0 : decide (((m % W : Nat) : Int) = 0) = true := decide_eq_true (by omega)
          have HS1 := hidI (show (TB m).size + (⟨#[47]⟩ : ByteArray).size ≤ 1000 from by show (TB m).size + 1 ≤ 1000; omega)
          have HS2 := hidI (show (TB m ++ ⟨#[47]⟩ : ByteArray).size + (⟨#[c]⟩ : ByteArray).size ≤ 1000 from by rw [ByteArray.size_append]; show (TB m).size + 1 + 1 ≤ 1000; omega)
          obtain ⟨S, hS⟩ : ∃ S, S = TB m := ⟨_, rfl⟩
          rw [← hS] at HTE HS1 HS2 ⊢
          obtain ⟨S2, hS2⟩ : ∃ S2, S2 = S ++ (⟨#[47]⟩ : ByteArray) := ⟨_, rfl⟩
          rw [← hS2] at HTE HS2
          have HC2 := hidI (show (S ++ (⟨#[47]⟩ : ByteArray)) = S2 from hS2.symm)
          clear hsu hS hS2 hsz hm0 hmw
          go_upto_region 5 with (first | (refine r_idx 34 _ _ (.slice (some ⟨G, 0, none⟩) n cap) (.int .i64 m) _ rfl rfl (hix _) rfl ?_) | (refine r_ldc 3 _ ⟨G, m, none⟩ (.int .i64 x) rfl (Tryd.isAgg3 _) hcl rfl ?_))
          go_step
          refine r_val (.int .i64 m) rfl rfl ?_
          simp only [Act.put, List.setIfInBounds_toArray, List.set_cons_succ, List.set_cons_zero]
          refine r_val (.bool true) (e_gtrS _ _ (m : Int) 0 true rfl rfl hg0) rfl ?_
          simp only [Act.put, List.setIfInBounds_toArray, List.set_cons_succ, List.set_cons_zero]
          refine r_val (.bool true) rfl rfl ?_
          simp only [Act.put, List.setIfInBounds_toArray, List.set_cons_succ, List.set_cons_zero]
          refine r_val (.int .i64 m) rfl rfl ?_
          simp only [Act.put, List.setIfInBounds_toArray, List.set_cons_succ, List.set_cons_zero]
          refine r_fld 45 _ 0 (.pointer (some ⟨B1, 0, none⟩)) (.pointer (some ⟨B1, 0, none⟩)) rfl (Tryd.ibf0T _ _) rfl ?_
          simp only [Act.put, List.setIfInBounds_toArray, List.set_cons_succ, List.set_cons_zero]
          refine r_ldc 3 _ ⟨B1, 0, none⟩ (.int .i64 W) rfl (Tryd.isAgg3 _) (b1.cell 0) rfl ?_
          simp only [Act.put, List.setIfInBounds_toArray, List.set_cons_succ, List.set_cons_zero]
          refine r_val (.int .i64 (m % W : Nat)) (e_remT _ _ m W rfl rfl hw1) rfl ?_
          simp only [Act.put, List.setIfInBounds_toArray, List.set_cons_succ, List.set_cons_zero]
          refine r_val (.bool true) (e_eqlS2 _ _ ((m % W : Nat) : Int) 0 true rfl rfl hr0) rfl ?_
          simp only [Act.put, List.setIfInBounds_toArray, List.set_cons_succ, List.set_cons_zero]
          refine r_val (.bool true) rfl rfl ?_
          simp only [Act.put, List.setIfInBounds_toArray, List.set_cons_succ, List.set_cons_zero]
          refine r_val (.bool true) rfl rfl ?_
          simp only [Act.put, List.setIfInBounds_toArray, List.set_cons_succ, List.set_cons_zero]
          go_wp2_with (first | (go_at_call 85; refine (HNU.out _).mono ?_; rintro e w5 ⟨rfl, g5⟩; have b1 := g5.blk b1; have gg := gg.trans g5) | (refine r_val (.string S2) (e_catT _ _ S ⟨#[47]⟩ _ rfl rfl (by rw [cat_sum _ _ _ HS1.out, HC2.out])) rfl ?_) | (refine r_val (.string (S2 ++ ⟨#[c]⟩)) (e_catT _ _ S2 ⟨#[c]⟩ _ rfl rfl (cat_sum _ _ _ HS2.out)) rfl ?_))
          go_roundw
          case rel => exact ⟨m + 1, by go_num, by rw [HTE.out], hlt, b1, gg⟩
          case measure => simp [natB]; omega
        · have HTE := hidI (show TB (m + 1) = (TB m ++ ⟨#[44]⟩) ++ ⟨#[c]⟩ from by rw [hsu, if_neg hm0, if_neg hmw])
          have hr0 : decide (((m % W : Nat) : Int) = 0) = false := decide_eq_false (by omega)
          have HS1 := hidI (show (TB m).size + (⟨#[44]⟩ : ByteArray).size ≤ 1000 from by show (TB m).size + 1 ≤ 1000; omega)
          have HS2 := hidI (show (TB m ++ ⟨#[44]⟩ : ByteArray).size + (⟨#[c]⟩ : ByteArray).size ≤ 1000 from by rw [ByteArray.size_append]; show (TB m).size + 1 + 1 ≤ 1000; omega)
          obtain ⟨S, hS⟩ : ∃ S, S = TB m := ⟨_, rfl⟩
          rw [← hS] at HTE HS1 HS2 ⊢
          obtain ⟨S2, hS2⟩ : ∃ S2, S2 = S ++ (⟨#[44]⟩ : ByteArray) := ⟨_, rfl⟩
          rw [← hS2] at HTE HS2
          have HC2 := hidI (show (S ++ (⟨#[44]⟩ : ByteArray)) = S2 from hS2.symm)
          clear hsu hS hS2 hsz hm0 hmw
          go_upto_region 5 with (first | (refine r_idx 34 _ _ (.slice (some ⟨G, 0, none⟩) n cap) (.int .i64 m) _ rfl rfl (hix _) rfl ?_) | (refine r_ldc 3 _ ⟨G, m, none⟩ (.int .i64 x) rfl (Tryd.isAgg3 _) hcl rfl ?_))
          go_step
          refine r_val (.int .i64 m) rfl rfl ?_
          simp only [Act.put, List.setIfInBounds_toArray, List.set_cons_succ, List.set_cons_zero]
          refine r_val (.bool true) (e_gtrS _ _ (m : Int) 0 true rfl rfl hg0) rfl ?_
          simp only [Act.put, List.setIfInBounds_toArray, List.set_cons_succ, List.set_cons_zero]
          refine r_val (.bool true) rfl rfl ?_
          simp only [Act.put, List.setIfInBounds_toArray, List.set_cons_succ, List.set_cons_zero]
          refine r_val (.int .i64 m) rfl rfl ?_
          simp only [Act.put, List.setIfInBounds_toArray, List.set_cons_succ, List.set_cons_zero]
          refine r_fld 45 _ 0 (.pointer (some ⟨B1, 0, none⟩)) (.pointer (some ⟨B1, 0, none⟩)) rfl (Tryd.ibf0T _ _) rfl ?_
          simp only [Act.put, List.setIfInBounds_toArray, List.set_cons_succ, List.set_cons_zero]
          refine r_ldc 3 _ ⟨B1, 0, none⟩ (.int .i64 W) rfl (Tryd.isAgg3 _) (b1.cell 0) rfl ?_
          simp only [Act.put, List.setIfInBounds_toArray, List.set_cons_succ, List.set_cons_zero]
          refine r_val (.int .i64 (m % W : Nat)) (e_remT _ _ m W rfl rfl hw1) rfl ?_
          simp only [Act.put, List.setIfInBounds_toArray, List.set_cons_succ, List.set_cons_zero]
          refine r_val (.bool false) (e_eqlS2 _ _ ((m % W : Nat) : Int) 0 false rfl rfl hr0) rfl ?_
          simp only [Act.put, List.setIfInBounds_toArray, List.set_cons_succ, List.set_cons_zero]
          refine r_val (.bool false) rfl rfl ?_
          simp only [Act.put, List.setIfInBounds_toArray, List.set_cons_succ, List.set_cons_zero]
          refine r_val (.bool false) rfl rfl ?_
          simp only [Act.put, List.setIfInBounds_toArray, List.set_cons_succ, List.set_cons_zero]
          go_wp2_with (first | (refine r_val (.bool true) (e_gtrS _ _ (m : Int) 0 true rfl rfl hg0) rfl ?_) | (go_at_call 85; refine (HNU.out _).mono ?_; rintro e w5 ⟨rfl, g5⟩; have b1 := g5.blk b1; have gg := gg.trans g5) | (refine r_val (.string S2) (e_catT _ _ S ⟨#[44]⟩ _ rfl rfl (by rw [cat_sum _ _ _ HS1.out, HC2.out])) rfl ?_) | (refine r_val (.string (S2 ++ ⟨#[c]⟩)) (e_catT _ _ S2 ⟨#[c]⟩ _ rfl rfl (cat_sum _ _ _ HS2.out)) rfl ?_))
          go_roundw
          case rel => exact ⟨m + 1, by go_num, by rw [HTE.out], hlt, b1, gg⟩
          case measure => simp [natB]; omega
    · obtain rfl : m = n := by omega
      clear hlt
      go_wp2
      go_ret
      exact ⟨rfl, gg⟩
end Go.Proofs.YtdebiobhmpoiiaaDoor
