/-
  A number read by the model, and the text of a puzzle.
-/
import Derived.Test.YtpdmfbhjneodeaaDoorPrsS
import Derived.Test.YtpdmfbhjneodeaaDoorPuzM
namespace Go.Proofs.YtpdmfbhjneodeaaDoor
open Go.RowKit
theorem vl_lt (l : List UInt8) (h : ∀ b ∈ l, dgB b = true) : vl l < 10 ^ l.length := by
  have key : ∀ (l : List UInt8) (n m : Nat), (∀ b ∈ l, dgB b = true) → n < 10 ^ m → l.foldl (fun n (b : UInt8) => 10 * n + (b.toNat - 48)) n < 10 ^ (m + l.length) := by
    intro l
    induction l with
    | nil => intro n m _ h; simpa using h
    | cons b r ih =>
      intro n m hb hn
      rw [List.foldl_cons, List.length_cons, show m + (r.length + 1) = (m + 1) + r.length by omega]
      refine ih _ (m + 1) (fun x hx => hb x (List.mem_cons_of_mem _ hx)) ?_
      have := hb b List.mem_cons_self
      unfold dgB at this
      rw [Bool.and_eq_true, decide_eq_true_eq, decide_eq_true_eq] at this
      rw [Nat.pow_succ]
      omega
  have := key l 0 0 h (by decide)
  rwa [Nat.zero_add] at this
theorem rd_no1 {d : List UInt8} (h : ¬ (1 ≤ d.length ∧ d.length ≤ 6)) : rdZ d = -1 := by
  unfold rdZ rdOkZ
  rw [if_neg]
  intro hh
  simp only [Bool.and_eq_true, decide_eq_true_eq] at hh
  exact h hh.1.1
theorem rd_no2 {d : List UInt8} (h : d.headD 0 = 48) (h2 : 1 < d.length) : rdZ d = -1 := by
  unfold rdZ rdOkZ
  rw [if_neg]
  intro hh
  rw [decide_eq_true h, decide_eq_true h2] at hh
  simp at hh
theorem rd_no3 {d : List UInt8} {i : Nat} (hi : i < d.length) (h : dgB (d.getD i 0) = false) : rdZ d = -1 := by
  unfold rdZ rdOkZ
  rw [if_neg]
  intro hh
  rw [Bool.and_eq_true, List.all_eq_true] at hh
  have := hh.2 (d.getD i 0) (by rw [List.getD_eq_getElem?_getD, List.getElem?_eq_getElem hi]; exact List.getElem_mem hi)
  rw [h] at this
  cases this
theorem rd_yes {d : List UInt8} (h1 : 1 ≤ d.length ∧ d.length ≤ 6) (h2 : ¬ (d.headD 0 = 48 ∧ 1 < d.length)) (h3 : ∀ i, i < d.length → dgB (d.getD i 0) = true) : rdZ d = vl d := by
  unfold rdZ
  rw [if_pos]
  unfold rdOkZ
  simp only [Bool.and_eq_true, decide_eq_true_eq, Bool.not_eq_true', Bool.and_eq_false_iff, decide_eq_false_iff_not, List.all_eq_true]
  refine ⟨⟨h1, Decidable.not_and_iff_or_not.1 h2⟩, fun b hb => ?_⟩
  obtain ⟨j, hj, e⟩ := List.getElem_of_mem hb
  have := h3 j hj
  rw [List.getD_eq_getElem?_getD, List.getElem?_eq_getElem hj] at this
  rw [← e]
  exact this
theorem vl_take {d : List UInt8} {i : Nat} (h : i < d.length) : vl (d.take (i + 1)) = 10 * vl (d.take i) + ((d.getD i 0).toNat - 48) := by
  rw [List.take_succ_eq_append_getElem h, vl_snoc, List.getD_eq_getElem?_getD, List.getElem?_eq_getElem h]
  rfl
theorem vl_bound {d : List UInt8} {i : Nat} (hi : i ≤ d.length) (h6 : d.length ≤ 6) (h : ∀ j, j < i → dgB (d.getD j 0) = true) : vl (d.take i) < 1000000 := by
  have h1 := vl_lt (d.take i) (fun b hb => by
    obtain ⟨j, hj, e⟩ := List.getElem_of_mem hb
    rw [List.length_take] at hj
    have := h j (by omega)
    rw [List.getD_eq_getElem?_getD, List.getElem?_eq_getElem (by omega)] at this
    rw [← e, List.getElem_take]
    exact this)
  rw [List.length_take] at h1
  have h2 : 10 ^ min i d.length ≤ 10 ^ 6 := Nat.pow_le_pow_right (by decide) (by omega)
  omega
theorem dg_yes {b : UInt8} (h : dgB b = true) : 48 ≤ b.toNat ∧ b.toNat ≤ 57 := by
  unfold dgB at h
  rwa [Bool.and_eq_true, decide_eq_true_eq, decide_eq_true_eq] at h
theorem dg_no {b : UInt8} (h : dgB b = false) : b.toNat < 48 ∨ 57 < b.toNat := by
  unfold dgB at h
  rw [Bool.and_eq_false_iff, decide_eq_false_iff_not, decide_eq_false_iff_not] at h
  omega
theorem e_lenT {P : Program} {w : World} {a : Act} {dst : Option Tmp} {ty : TypeId} {pos : String} {aft : Array Edge} {gd : Option (Nat × Bool)} (T : TypeId) (x : Operand) (s : ByteArray) (hx : a.eval x = .string s) (hu : P.underlying T = some .string) :
    (execOp a.eval ⟨dst, .call { callee := .builtin .len, args := #[x], argTypes := #[T] }, ty, pos, aft, gd⟩).run P w = .ok (.value (.int .i64 s.size)) w := by
  unfold execOp
  simp only [resolve, invoke, builtin, Sem.run_bind, Sem.run_pure, Result.andThen_ok, List.map_toArray, List.map_cons, List.map_nil, hx, run_len_string (P := P) w T ty s hu]
  rfl
theorem e_gtrR {P : Program} {w : World} {a : Act} {dst : Option Tmp} {ty T yt : TypeId} {pos : String} {aft : Array Edge} {gd : Option (Nat × Bool)} {k : IntKind} (x y : Operand) (m n : Int) (v : Bool) (hx : a.eval x = .int k m) (hy : a.eval y = .int k n) (hv : decide (n < m) = v) :
    (execOp a.eval ⟨dst, .binOp .gtr T x y yt, ty, pos, aft, gd⟩).run P w = .ok (.value (.bool v)) w := by
  subst hv
  unfold execOp
  simp [hx, hy, eqGuard, binOp, Op.intCmp]
theorem e_lssR {P : Program} {w : World} {a : Act} {dst : Option Tmp} {ty T yt : TypeId} {pos : String} {aft : Array Edge} {gd : Option (Nat × Bool)} {k : IntKind} (x y : Operand) (m n : Int) (v : Bool) (hx : a.eval x = .int k m) (hy : a.eval y = .int k n) (hv : decide (m < n) = v) :
    (execOp a.eval ⟨dst, .binOp .lss T x y yt, ty, pos, aft, gd⟩).run P w = .ok (.value (.bool v)) w := by
  subst hv
  unfold execOp
  simp [hx, hy, eqGuard, binOp, Op.intCmp]
def natR : Value → Nat
  | .int _ n => n.toNat
  | _ => 0
set_option maxHeartbeats 2000000 in
set_option maxRecDepth 100000 in
theorem l1Read_any (d : List UInt8) (w : World) (hd : d.length ≤ 60) : Calls Tryd.prog 20 #[.string ⟨d.toArray⟩] w (Ret (.int .i64 (rdZ d)) w) := by
  have gg := Gr.refl w
  obtain ⟨n, hn⟩ : ∃ n, n = d.length := ⟨_, rfl⟩
  have HN := hidI hn
  obtain ⟨s, hs⟩ : ∃ s : ByteArray, s = ⟨d.toArray⟩ := ⟨_, rfl⟩
  have hsz : s.size = n := by rw [hs, hn]; exact List.size_toArray
  have HIX := hidI (fun i (hi : i < n) w => show (Instr.index 9 (.string s) (.int .i64 i)).run Tryd.prog w = .ok (.int .u8 ((d.getD i 0).toNat)) w from by
    rw [hs]
    have := idxP (P := Tryd.prog) Tryd.underlying9 d i (by rw [← hn]; exact hi) w
    rw [this, List.getD_eq_getElem?_getD, List.getElem?_eq_getElem (by rw [← hn]; exact hi)]
    rfl)
  have HNO1 := hidI (fun h => rd_no1 (d := d) (by rw [← hn]; exact h))
  have HNO2 := hidI (fun h h2 => rd_no2 (d := d) h (by rw [← hn]; exact h2))
  have HNO3 := hidI (fun i (hi : i < n) h => rd_no3 (d := d) (i := i) (by rw [← hn]; exact hi) h)
  have HYES := hidI (fun h1 h2 h3 => rd_yes (d := d) (by rw [← hn]; exact h1) (by rw [← hn]; exact h2) (by rw [← hn]; exact h3))
  have HVT := hidI (fun i (hi : i < n) => vl_take (d := d) (i := i) (by rw [← hn]; exact hi))
  have HVB := hidI (fun i (hi : i ≤ n) (h6 : n ≤ 6) h => vl_bound (d := d) (i := i) (by rw [← hn]; exact hi) (by rw [← hn]; exact h6) h)
  have HVA := hidI (show vl (d.take n) = vl d from by rw [hn, List.take_length])
  have HH := hidI (show 0 < n → d.headD 0 = d.getD 0 0 from fun _ => by cases d <;> rfl)
  have HL1 := hidI (fun w' => l1In_any (s.size : Int) 1 6 w')
  have hL1 : btw (s.size : Int) 1 6 = (decide (1 ≤ n) && decide (n ≤ 6)) := by
    unfold btw
    rw [hsz, Bool.eq_iff_iff]
    simp
    omega
  have HLB := hidI (fun (b : Bool) (hb : (decide (1 ≤ n) && decide (n ≤ 6)) = b) w' => show Calls Tryd.prog 38 #[.int .i64 (s.size : Int), .int .i64 1, .int .i64 6] w' (fun e w'' => e = .returned (.bool b) ∧ w' = w'') from by rw [← hb, ← hL1]; exact HL1.out w')
  clear HL1
  rw [← hs]
  rw [← hn] at hd
  have HSZ := hidI hsz
  clear hn hs hL1
  by_cases hr : 1 ≤ n ∧ n ≤ 6
  · obtain ⟨h1, h6⟩ := hr
    have HL1 := hidI (HLB.out true (by rw [decide_eq_true h1, decide_eq_true h6]; rfl))
    have hix0 := HIX.out 0 (by omega)
    obtain ⟨x0, hx0⟩ : ∃ x0, x0 = d.getD 0 0 := ⟨_, rfl⟩
    have HX0 := hidI hx0
    rw [← hx0] at hix0
    clear hx0
    by_cases hb : x0 = 48 ∧ 1 < n
    · have HV := hidI (HNO2.out (by rw [HH.out (by omega), ← HX0.out]; exact hb.1) hb.2)
      have hd0 : decide ((x0.toNat : Int) = 48) = true := by rw [hb.1]; rfl
      have hgt : decide ((1 : Int) < (s.size : Int)) = true := decide_eq_true (by rw [hsz]; omega)
      have hn1 : 1 < s.size := by rw [hsz]; exact hb.2
      clear hb
      go_enter Tryd.func20, Tryd.ntmps20
      go_upto_region 1 with (fail)
      go_step
      refine r_val (.string s) rfl rfl ?_
      simp only [Act.put, List.setIfInBounds_toArray, List.set_cons_succ, List.set_cons_zero]
      refine r_val (.int .i64 s.size) (e_lenT _ _ s rfl Tryd.underlying9) rfl ?_
      simp only [Act.put, List.setIfInBounds_toArray, List.set_cons_succ, List.set_cons_zero]
      refine r_call 38 [.tmp 6, .const (.int .i64 1), .const (.int .i64 6)] _ [.int .i64 s.size, .int .i64 1, .int .i64 6] (.bool true) (fun w' => w = w') Tryd.call38 rfl rfl (HL1.out _) ?_
      rintro _ rfl
      simp only [Act.put, List.setIfInBounds_toArray, List.set_cons_succ, List.set_cons_zero]
      refine r_val (.bool false) rfl rfl ?_
      simp only [Act.put, List.setIfInBounds_toArray, List.set_cons_succ, List.set_cons_zero]
      refine r_val (.bool false) rfl rfl ?_
      simp only [Act.put, List.setIfInBounds_toArray, List.set_cons_succ, List.set_cons_zero]
      refine r_val (.string s) rfl rfl ?_
      simp only [Act.put, List.setIfInBounds_toArray, List.set_cons_succ, List.set_cons_zero]
      refine r_val (.int .u8 x0.toNat) (e_val _ _ (hix0 _)) rfl ?_
      simp only [Act.put, List.setIfInBounds_toArray, List.set_cons_succ, List.set_cons_zero]
      refine r_val (.bool true) (e_eqB _ _ _ _ true rfl rfl hd0) rfl ?_
      simp only [Act.put, List.setIfInBounds_toArray, List.set_cons_succ, List.set_cons_zero]
      refine r_val (.bool true) rfl rfl ?_
      simp only [Act.put, List.setIfInBounds_toArray, List.set_cons_succ, List.set_cons_zero]
      refine r_val (.string s) rfl rfl ?_
      simp only [Act.put, List.setIfInBounds_toArray, List.set_cons_succ, List.set_cons_zero]
      refine r_val (.int .i64 s.size) (e_lenT _ _ s rfl Tryd.underlying9) rfl ?_
      simp only [Act.put, List.setIfInBounds_toArray, List.set_cons_succ, List.set_cons_zero]
      refine r_val (.bool true) (e_gtrR _ _ _ _ true rfl rfl hgt) rfl ?_
      simp only [Act.put, List.setIfInBounds_toArray, List.set_cons_succ, List.set_cons_zero]
      refine r_val (.bool true) rfl rfl ?_
      simp only [Act.put, List.setIfInBounds_toArray, List.set_cons_succ, List.set_cons_zero]
      refine r_val (.bool true) rfl rfl ?_
      simp only [Act.put, List.setIfInBounds_toArray, List.set_cons_succ, List.set_cons_zero]
      go_wp2
      go_ret
      exact ⟨ret_int HV.out.symm, gg⟩
    · have HB := hidI (show ¬ (d.headD 0 = 48 ∧ 1 < n) from by rw [HH.out (by omega), ← HX0.out]; exact hb)
      by_cases hz : x0 = 48
      · have hd0 : decide ((x0.toNat : Int) = 48) = true := by rw [hz]; rfl
        have hgt : decide ((1 : Int) < (s.size : Int)) = false := decide_eq_false (fun h => hb ⟨hz, by rw [hsz] at h; omega⟩)
        clear hb hz
        go_enter Tryd.func20, Tryd.ntmps20
        go_upto_region 1 with (fail)
        go_step
        refine r_val (.string s) rfl rfl ?_
        simp only [Act.put, List.setIfInBounds_toArray, List.set_cons_succ, List.set_cons_zero]
        refine r_val (.int .i64 s.size) (e_lenT _ _ s rfl Tryd.underlying9) rfl ?_
        simp only [Act.put, List.setIfInBounds_toArray, List.set_cons_succ, List.set_cons_zero]
        refine r_call 38 [.tmp 6, .const (.int .i64 1), .const (.int .i64 6)] _ [.int .i64 s.size, .int .i64 1, .int .i64 6] (.bool true) (fun w' => w = w') Tryd.call38 rfl rfl (HL1.out _) ?_
        rintro _ rfl
        simp only [Act.put, List.setIfInBounds_toArray, List.set_cons_succ, List.set_cons_zero]
        refine r_val (.bool false) rfl rfl ?_
        simp only [Act.put, List.setIfInBounds_toArray, List.set_cons_succ, List.set_cons_zero]
        refine r_val (.bool false) rfl rfl ?_
        simp only [Act.put, List.setIfInBounds_toArray, List.set_cons_succ, List.set_cons_zero]
        refine r_val (.string s) rfl rfl ?_
        simp only [Act.put, List.setIfInBounds_toArray, List.set_cons_succ, List.set_cons_zero]
        refine r_val (.int .u8 x0.toNat) (e_val _ _ (hix0 _)) rfl ?_
        simp only [Act.put, List.setIfInBounds_toArray, List.set_cons_succ, List.set_cons_zero]
        refine r_val (.bool true) (e_eqB _ _ _ _ true rfl rfl hd0) rfl ?_
        simp only [Act.put, List.setIfInBounds_toArray, List.set_cons_succ, List.set_cons_zero]
        refine r_val (.bool true) rfl rfl ?_
        simp only [Act.put, List.setIfInBounds_toArray, List.set_cons_succ, List.set_cons_zero]
        refine r_val (.string s) rfl rfl ?_
        simp only [Act.put, List.setIfInBounds_toArray, List.set_cons_succ, List.set_cons_zero]
        refine r_val (.int .i64 s.size) (e_lenT _ _ s rfl Tryd.underlying9) rfl ?_
        simp only [Act.put, List.setIfInBounds_toArray, List.set_cons_succ, List.set_cons_zero]
        refine r_val (.bool false) (e_gtrR _ _ _ _ false rfl rfl hgt) rfl ?_
        simp only [Act.put, List.setIfInBounds_toArray, List.set_cons_succ, List.set_cons_zero]
        refine r_val (.bool false) rfl rfl ?_
        simp only [Act.put, List.setIfInBounds_toArray, List.set_cons_succ, List.set_cons_zero]
        refine r_val (.bool false) rfl rfl ?_
        simp only [Act.put, List.setIfInBounds_toArray, List.set_cons_succ, List.set_cons_zero]
        subst hsz
        go_wp2
        go_loopw [3, 4] (fun xv iv wr => ∃ i V : Nat, iv = .int .i64 i ∧ xv = .int .i64 V ∧ i ≤ s.size ∧ Hid (vl (d.take i) = V) ∧ Hid (∀ j, j < i → dgB (d.getD j 0) = true) ∧ Gr w wr) (fun _ iv _ => s.size - natR iv)
        case atStart => exact ⟨0, 0, rfl, rfl, Nat.zero_le _, hidI rfl, hidI (fun j hj => absurd hj (Nat.not_lt_zero _)), gg⟩
        case round =>
          clear gg
          obtain ⟨i, V, rfl, rfl, hin, HVV, HD, gg⟩ := hrel
          by_cases hlt : i < s.size
          · have hixi := HIX.out i hlt
            have hvb : V < 1000000 := by rw [← HVV.out]; exact HVB.out i hin h6 HD.out
            have HVN := hidI (HVT.out i hlt)
            have HN := hidI (HNO3.out i hlt)
            have HDN := hidI (show dgB (d.getD i 0) = true → ∀ j, j < i + 1 → dgB (d.getD j 0) = true from fun h j hj => by
              by_cases e : j = i
              · rw [e]; exact h
              · exact HD.out j (by omega))
            obtain ⟨x, hx⟩ : ∃ x, x = d.getD i 0 := ⟨_, rfl⟩
            rw [← hx] at hixi HVN HN HDN
            clear hx
            by_cases hlo : x.toNat < 48
            · have hd1 : decide ((x.toNat : Int) < 48) = true := decide_eq_true (by omega)
              have HV := hidI (HN.out (by unfold dgB; rw [decide_eq_false (by omega : ¬ 48 ≤ x.toNat)]; rfl))
              clear hlo
              go_upto_region 7 with (fail)
              go_step
              refine r_val (.string s) rfl rfl ?_
              simp only [Act.put, List.setIfInBounds_toArray, List.set_cons_succ, List.set_cons_zero]
              refine r_val (.int .i64 i) rfl rfl ?_
              simp only [Act.put, List.setIfInBounds_toArray, List.set_cons_succ, List.set_cons_zero]
              refine r_val (.int .u8 x.toNat) (e_val _ _ (hixi _)) rfl ?_
              simp only [Act.put, List.setIfInBounds_toArray, List.set_cons_succ, List.set_cons_zero]
              refine r_val (.bool true) (e_lssR _ _ _ _ true rfl rfl hd1) rfl ?_
              simp only [Act.put, List.setIfInBounds_toArray, List.set_cons_succ, List.set_cons_zero]
              refine r_val (.bool true) rfl rfl ?_
              simp only [Act.put, List.setIfInBounds_toArray, List.set_cons_succ, List.set_cons_zero]
              go_wp2
              go_ret
              exact ⟨ret_int HV.out.symm, gg⟩
            · have hd1 : decide ((x.toNat : Int) < 48) = false := decide_eq_false (by omega)
              by_cases hhi : 57 < x.toNat
              · have hd2 : decide ((57 : Int) < (x.toNat : Int)) = true := decide_eq_true (by omega)
                have HV := hidI (HN.out (by unfold dgB; rw [decide_eq_false (by omega : ¬ x.toNat ≤ 57)]; exact Bool.and_false _))
                clear hlo hhi
                go_upto_region 7 with (fail)
                go_step
                refine r_val (.string s) rfl rfl ?_
                simp only [Act.put, List.setIfInBounds_toArray, List.set_cons_succ, List.set_cons_zero]
                refine r_val (.int .i64 i) rfl rfl ?_
                simp only [Act.put, List.setIfInBounds_toArray, List.set_cons_succ, List.set_cons_zero]
                refine r_val (.int .u8 x.toNat) (e_val _ _ (hixi _)) rfl ?_
                simp only [Act.put, List.setIfInBounds_toArray, List.set_cons_succ, List.set_cons_zero]
                refine r_val (.bool false) (e_lssR _ _ _ _ false rfl rfl hd1) rfl ?_
                simp only [Act.put, List.setIfInBounds_toArray, List.set_cons_succ, List.set_cons_zero]
                refine r_val (.bool false) rfl rfl ?_
                simp only [Act.put, List.setIfInBounds_toArray, List.set_cons_succ, List.set_cons_zero]
                refine r_val (.string s) rfl rfl ?_
                simp only [Act.put, List.setIfInBounds_toArray, List.set_cons_succ, List.set_cons_zero]
                refine r_val (.int .i64 i) rfl rfl ?_
                simp only [Act.put, List.setIfInBounds_toArray, List.set_cons_succ, List.set_cons_zero]
                refine r_val (.int .u8 x.toNat) (e_val _ _ (hixi _)) rfl ?_
                simp only [Act.put, List.setIfInBounds_toArray, List.set_cons_succ, List.set_cons_zero]
                refine r_val (.bool true) (e_gtrR _ _ _ _ true rfl rfl hd2) rfl ?_
                simp only [Act.put, List.setIfInBounds_toArray, List.set_cons_succ, List.set_cons_zero]
                refine r_val (.bool true) rfl rfl ?_
                simp only [Act.put, List.setIfInBounds_toArray, List.set_cons_succ, List.set_cons_zero]
                go_wp2
                go_ret
                exact ⟨ret_int HV.out.symm, gg⟩
              · have hd2 : decide ((57 : Int) < (x.toNat : Int)) = false := decide_eq_false (by omega)
                have HD2 := hidI (HDN.out (by unfold dgB; rw [decide_eq_true (by omega : 48 ≤ x.toNat), decide_eq_true (by omega : x.toNat ≤ 57)]; rfl))
                have HV := hidI (show vl (d.take (i + 1)) = 10 * V + (x.toNat - 48) from by rw [HVN.out, HVV.out])
                go_upto_region 7 with (fail)
                go_step
                refine r_val (.string s) rfl rfl ?_
                simp only [Act.put, List.setIfInBounds_toArray, List.set_cons_succ, List.set_cons_zero]
                refine r_val (.int .i64 i) rfl rfl ?_
                simp only [Act.put, List.setIfInBounds_toArray, List.set_cons_succ, List.set_cons_zero]
                refine r_val (.int .u8 x.toNat) (e_val _ _ (hixi _)) rfl ?_
                simp only [Act.put, List.setIfInBounds_toArray, List.set_cons_succ, List.set_cons_zero]
                refine r_val (.bool false) (e_lssR _ _ _ _ false rfl rfl hd1) rfl ?_
                simp only [Act.put, List.setIfInBounds_toArray, List.set_cons_succ, List.set_cons_zero]
                refine r_val (.bool false) rfl rfl ?_
                simp only [Act.put, List.setIfInBounds_toArray, List.set_cons_succ, List.set_cons_zero]
                refine r_val (.string s) rfl rfl ?_
                simp only [Act.put, List.setIfInBounds_toArray, List.set_cons_succ, List.set_cons_zero]
                refine r_val (.int .i64 i) rfl rfl ?_
                simp only [Act.put, List.setIfInBounds_toArray, List.set_cons_succ, List.set_cons_zero]
                refine r_val (.int .u8 x.toNat) (e_val _ _ (hixi _)) rfl ?_
                simp only [Act.put, List.setIfInBounds_toArray, List.set_cons_succ, List.set_cons_zero]
                refine r_val (.bool false) (e_gtrR _ _ _ _ false rfl rfl hd2) rfl ?_
                simp only [Act.put, List.setIfInBounds_toArray, List.set_cons_succ, List.set_cons_zero]
                refine r_val (.bool false) rfl rfl ?_
                simp only [Act.put, List.setIfInBounds_toArray, List.set_cons_succ, List.set_cons_zero]
                go_wp2_with (first | (refine r_val (.int .u8 x.toNat) (e_val _ _ (hixi _)) rfl ?_))
                go_roundw
                case rel => exact ⟨i + 1, 10 * V + (x.toNat - 48), by go_num, by go_num, hlt, HV, HD2, gg⟩
                case measure => simp [natR]; omega
          · obtain rfl : i = s.size := by omega
            have HV := hidI (show rdZ d = (V : Int) from by rw [HYES.out ⟨h1, h6⟩ HB.out HD.out, ← HVA.out, HVV.out])
            clear hlt
            go_wp2
            go_ret
            exact ⟨ret_int HV.out.symm, gg⟩
      · have hd0 : decide ((x0.toNat : Int) = 48) = false := decide_eq_false (fun e => hz (UInt8.toNat_inj.1 (by show _ = 48; omega)))
        clear hb hz
        go_enter Tryd.func20, Tryd.ntmps20
        go_upto_region 1 with (fail)
        go_step
        refine r_val (.string s) rfl rfl ?_
        simp only [Act.put, List.setIfInBounds_toArray, List.set_cons_succ, List.set_cons_zero]
        refine r_val (.int .i64 s.size) (e_lenT _ _ s rfl Tryd.underlying9) rfl ?_
        simp only [Act.put, List.setIfInBounds_toArray, List.set_cons_succ, List.set_cons_zero]
        refine r_call 38 [.tmp 6, .const (.int .i64 1), .const (.int .i64 6)] _ [.int .i64 s.size, .int .i64 1, .int .i64 6] (.bool true) (fun w' => w = w') Tryd.call38 rfl rfl (HL1.out _) ?_
        rintro _ rfl
        simp only [Act.put, List.setIfInBounds_toArray, List.set_cons_succ, List.set_cons_zero]
        refine r_val (.bool false) rfl rfl ?_
        simp only [Act.put, List.setIfInBounds_toArray, List.set_cons_succ, List.set_cons_zero]
        refine r_val (.bool false) rfl rfl ?_
        simp only [Act.put, List.setIfInBounds_toArray, List.set_cons_succ, List.set_cons_zero]
        refine r_val (.string s) rfl rfl ?_
        simp only [Act.put, List.setIfInBounds_toArray, List.set_cons_succ, List.set_cons_zero]
        refine r_val (.int .u8 x0.toNat) (e_val _ _ (hix0 _)) rfl ?_
        simp only [Act.put, List.setIfInBounds_toArray, List.set_cons_succ, List.set_cons_zero]
        refine r_val (.bool false) (e_eqB _ _ _ _ false rfl rfl hd0) rfl ?_
        simp only [Act.put, List.setIfInBounds_toArray, List.set_cons_succ, List.set_cons_zero]
        refine r_val (.bool false) rfl rfl ?_
        simp only [Act.put, List.setIfInBounds_toArray, List.set_cons_succ, List.set_cons_zero]
        subst hsz
        go_wp2
        go_loopw [3, 4] (fun xv iv wr => ∃ i V : Nat, iv = .int .i64 i ∧ xv = .int .i64 V ∧ i ≤ s.size ∧ Hid (vl (d.take i) = V) ∧ Hid (∀ j, j < i → dgB (d.getD j 0) = true) ∧ Gr w wr) (fun _ iv _ => s.size - natR iv)
        case atStart => exact ⟨0, 0, rfl, rfl, Nat.zero_le _, hidI rfl, hidI (fun j hj => absurd hj (Nat.not_lt_zero _)), gg⟩
        case round =>
          clear gg
          obtain ⟨i, V, rfl, rfl, hin, HVV, HD, gg⟩ := hrel
          by_cases hlt : i < s.size
          · have hixi := HIX.out i hlt
            have hvb : V < 1000000 := by rw [← HVV.out]; exact HVB.out i hin h6 HD.out
            have HVN := hidI (HVT.out i hlt)
            have HN := hidI (HNO3.out i hlt)
            have HDN := hidI (show dgB (d.getD i 0) = true → ∀ j, j < i + 1 → dgB (d.getD j 0) = true from fun h j hj => by
              by_cases e : j = i
              · rw [e]; exact h
              · exact HD.out j (by omega))
            obtain ⟨x, hx⟩ : ∃ x, x = d.getD i 0 := ⟨_, rfl⟩
            rw [← hx] at hixi HVN HN HDN
            clear hx
            by_cases hlo : x.toNat < 48
            · have hd1 : decide ((x.toNat : Int) < 48) = true := decide_eq_true (by omega)
              have HV := hidI (HN.out (by unfold dgB; rw [decide_eq_false (by omega : ¬ 48 ≤ x.toNat)]; rfl))
              clear hlo
              go_upto_region 7 with (fail)
              go_step
              refine r_val (.string s) rfl rfl ?_
              simp only [Act.put, List.setIfInBounds_toArray, List.set_cons_succ, List.set_cons_zero]
              refine r_val (.int .i64 i) rfl rfl ?_
              simp only [Act.put, List.setIfInBounds_toArray, List.set_cons_succ, List.set_cons_zero]
              refine r_val (.int .u8 x.toNat) (e_val _ _ (hixi _)) rfl ?_
              simp only [Act.put, List.setIfInBounds_toArray, List.set_cons_succ, List.set_cons_zero]
              refine r_val (.bool true) (e_lssR _ _ _ _ true rfl rfl hd1) rfl ?_
              simp only [Act.put, List.setIfInBounds_toArray, List.set_cons_succ, List.set_cons_zero]
              refine r_val (.bool true) rfl rfl ?_
              simp only [Act.put, List.setIfInBounds_toArray, List.set_cons_succ, List.set_cons_zero]
              go_wp2
              go_ret
              exact ⟨ret_int HV.out.symm, gg⟩
            · have hd1 : decide ((x.toNat : Int) < 48) = false := decide_eq_false (by omega)
              by_cases hhi : 57 < x.toNat
              · have hd2 : decide ((57 : Int) < (x.toNat : Int)) = true := decide_eq_true (by omega)
                have HV := hidI (HN.out (by unfold dgB; rw [decide_eq_false (by omega : ¬ x.toNat ≤ 57)]; exact Bool.and_false _))
                clear hlo hhi
                go_upto_region 7 with (fail)
                go_step
                refine r_val (.string s) rfl rfl ?_
                simp only [Act.put, List.setIfInBounds_toArray, List.set_cons_succ, List.set_cons_zero]
                refine r_val (.int .i64 i) rfl rfl ?_
                simp only [Act.put, List.setIfInBounds_toArray, List.set_cons_succ, List.set_cons_zero]
                refine r_val (.int .u8 x.toNat) (e_val _ _ (hixi _)) rfl ?_
                simp only [Act.put, List.setIfInBounds_toArray, List.set_cons_succ, List.set_cons_zero]
                refine r_val (.bool false) (e_lssR _ _ _ _ false rfl rfl hd1) rfl ?_
                simp only [Act.put, List.setIfInBounds_toArray, List.set_cons_succ, List.set_cons_zero]
                refine r_val (.bool false) rfl rfl ?_
                simp only [Act.put, List.setIfInBounds_toArray, List.set_cons_succ, List.set_cons_zero]
                refine r_val (.string s) rfl rfl ?_
                simp only [Act.put, List.setIfInBounds_toArray, List.set_cons_succ, List.set_cons_zero]
                refine r_val (.int .i64 i) rfl rfl ?_
                simp only [Act.put, List.setIfInBounds_toArray, List.set_cons_succ, List.set_cons_zero]
                refine r_val (.int .u8 x.toNat) (e_val _ _ (hixi _)) rfl ?_
                simp only [Act.put, List.setIfInBounds_toArray, List.set_cons_succ, List.set_cons_zero]
                refine r_val (.bool true) (e_gtrR _ _ _ _ true rfl rfl hd2) rfl ?_
                simp only [Act.put, List.setIfInBounds_toArray, List.set_cons_succ, List.set_cons_zero]
                refine r_val (.bool true) rfl rfl ?_
                simp only [Act.put, List.setIfInBounds_toArray, List.set_cons_succ, List.set_cons_zero]
                go_wp2
                go_ret
                exact ⟨ret_int HV.out.symm, gg⟩
              · have hd2 : decide ((57 : Int) < (x.toNat : Int)) = false := decide_eq_false (by omega)
                have HD2 := hidI (HDN.out (by unfold dgB; rw [decide_eq_true (by omega : 48 ≤ x.toNat), decide_eq_true (by omega : x.toNat ≤ 57)]; rfl))
                have HV := hidI (show vl (d.take (i + 1)) = 10 * V + (x.toNat - 48) from by rw [HVN.out, HVV.out])
                go_upto_region 7 with (fail)
                go_step
                refine r_val (.string s) rfl rfl ?_
                simp only [Act.put, List.setIfInBounds_toArray, List.set_cons_succ, List.set_cons_zero]
                refine r_val (.int .i64 i) rfl rfl ?_
                simp only [Act.put, List.setIfInBounds_toArray, List.set_cons_succ, List.set_cons_zero]
                refine r_val (.int .u8 x.toNat) (e_val _ _ (hixi _)) rfl ?_
                simp only [Act.put, List.setIfInBounds_toArray, List.set_cons_succ, List.set_cons_zero]
                refine r_val (.bool false) (e_lssR _ _ _ _ false rfl rfl hd1) rfl ?_
                simp only [Act.put, List.setIfInBounds_toArray, List.set_cons_succ, List.set_cons_zero]
                refine r_val (.bool false) rfl rfl ?_
                simp only [Act.put, List.setIfInBounds_toArray, List.set_cons_succ, List.set_cons_zero]
                refine r_val (.string s) rfl rfl ?_
                simp only [Act.put, List.setIfInBounds_toArray, List.set_cons_succ, List.set_cons_zero]
                refine r_val (.int .i64 i) rfl rfl ?_
                simp only [Act.put, List.setIfInBounds_toArray, List.set_cons_succ, List.set_cons_zero]
                refine r_val (.int .u8 x.toNat) (e_val _ _ (hixi _)) rfl ?_
                simp only [Act.put, List.setIfInBounds_toArray, List.set_cons_succ, List.set_cons_zero]
                refine r_val (.bool false) (e_gtrR _ _ _ _ false rfl rfl hd2) rfl ?_
                simp only [Act.put, List.setIfInBounds_toArray, List.set_cons_succ, List.set_cons_zero]
                refine r_val (.bool false) rfl rfl ?_
                simp only [Act.put, List.setIfInBounds_toArray, List.set_cons_succ, List.set_cons_zero]
                go_wp2_with (first | (refine r_val (.int .u8 x.toNat) (e_val _ _ (hixi _)) rfl ?_))
                go_roundw
                case rel => exact ⟨i + 1, 10 * V + (x.toNat - 48), by go_num, by go_num, hlt, HV, HD2, gg⟩
                case measure => simp [natR]; omega
          · obtain rfl : i = s.size := by omega
            have HV := hidI (show rdZ d = (V : Int) from by rw [HYES.out ⟨h1, h6⟩ HB.out HD.out, ← HVA.out, HVV.out])
            clear hlt
            go_wp2
            go_ret
            exact ⟨ret_int HV.out.symm, gg⟩
  · have HV := hidI (HNO1.out hr)
    have e0 : (decide (1 ≤ n) && decide (n ≤ 6)) = false := by
      rw [Bool.and_eq_false_iff, decide_eq_false_iff_not, decide_eq_false_iff_not]
      omega
    have HL1 := hidI (HLB.out false e0)
    clear hr e0
    go_enter Tryd.func20, Tryd.ntmps20
    go_upto_region 1 with (fail)
    go_step
    refine r_val (.string s) rfl rfl ?_
    simp only [Act.put, List.setIfInBounds_toArray, List.set_cons_succ, List.set_cons_zero]
    refine r_val (.int .i64 s.size) (e_lenT _ _ s rfl Tryd.underlying9) rfl ?_
    simp only [Act.put, List.setIfInBounds_toArray, List.set_cons_succ, List.set_cons_zero]
    refine r_call 38 [.tmp 6, .const (.int .i64 1), .const (.int .i64 6)] _ [.int .i64 s.size, .int .i64 1, .int .i64 6] (.bool false) (fun w' => w = w') Tryd.call38 rfl rfl (HL1.out _) ?_
    rintro _ rfl
    simp only [Act.put, List.setIfInBounds_toArray, List.set_cons_succ, List.set_cons_zero]
    refine r_val (.bool true) rfl rfl ?_
    simp only [Act.put, List.setIfInBounds_toArray, List.set_cons_succ, List.set_cons_zero]
    refine r_val (.bool true) rfl rfl ?_
    simp only [Act.put, List.setIfInBounds_toArray, List.set_cons_succ, List.set_cons_zero]
    go_wp2
    go_ret
    exact ⟨ret_int HV.out.symm, gg⟩
end Go.Proofs.YtpdmfbhjneodeaaDoor
