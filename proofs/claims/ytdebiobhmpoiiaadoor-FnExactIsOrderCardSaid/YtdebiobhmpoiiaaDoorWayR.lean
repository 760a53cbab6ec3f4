/-
  slices.Repeat of one number: the library's function, walked.
-/
import Derived.Test.YtdebiobhmpoiiaaDoorWayB
import Derived.Test.YtdebiobhmpoiiaaDoorShelf
namespace Go.Proofs.YtdebiobhmpoiiaaDoor
open Go.RowKit
section
variable {P : Program} {w : World} {ops : Array Oper} {rest : List Oper} {a : Act} {Q : Exit → Act → World → Prop} {dst : Option Tmp} {ty : TypeId} {pos : String} {aft : Array Edge} {gd : Option (Nat × Bool)}
theorem r_copy_row (d s : Operand) (dT sT elem t : TypeId)
    (hu : P.underlying dT = some (.slice elem)) (hs : (P.info? elem).map (·.size) = some 1) (g off dLen dCap sLen sCap : Nat) (ad : Addr) (cur : Array Value) (cs : List Value)
    (hd : a.eval d = .slice (some ⟨g, off, none⟩) dLen dCap) (hx : a.eval s = .slice (some ad) sLen sCap) (hB : Blk w g cur t) (hn : cs.length = Nat.min sLen dLen)
    (hsrc : ∀ j v, cs[j]? = some v → w.cell? (ad.add j) = some v) (hfit : off + cs.length ≤ cur.size) (h1 : ∀ v ∈ cs, v.oneCell' = true)
    (hgd : Region.wanted ⟨dst, .call { callee := .builtin .copy, args := #[d, s], argTypes := #[dT, sT] }, ty, pos, aft, gd⟩ (yielded ops a.tmps) = true)
    (h : ∀ w1, Upd g w w1 → Blk w1 g (cur.toList.take off ++ cs ++ cur.toList.drop (off + cs.length)).toArray t → wpList P ops Q rest (a.put dst (goInt cs.length)) w1) : wpList P ops Q (⟨dst, .call { callee := .builtin .copy, args := #[d, s], argTypes := #[dT, sT] }, ty, pos, aft, gd⟩ :: rest) a w :=
  wpList_want hgd fun _ hK => by
    have hr := run_copy_row (P := P) w dT sT ty elem g off dLen dCap ad sLen sCap cur t cs hu hs hB hn hsrc hfit h1
    unfold Oper.wp execOp
    simp only [resolve, invoke, builtin, Sem.run_bind, Sem.run_pure, Result.andThen_ok, List.map_toArray, List.map_cons, List.map_nil, hd, hx, hr, Oper.upon]
    exact hK _ _ (h _ (Upd.setRow w g _) (setRow_heap w g cur _ t _ hB))
end
/-- The first k of n places are filled. -/
def repI (n k : Nat) : List Int := List.replicate k (-1) ++ List.replicate (n - k) 0
theorem repI_length {n k : Nat} (h : k ≤ n) : (repI n k).length = n := by simp [repI]; omega
theorem repI_full (n : Nat) : repI n n = List.replicate n (-1) := by simp [repI]
theorem repI_step {n k m : Nat} (h : k + m ≤ n) : (intsV (repI n k)).take k ++ intsV (List.replicate m (-1)) ++ (intsV (repI n k)).drop (k + m) = intsV (repI n (k + m)) := by
  have e0 : intsV (repI n k) = List.replicate k (Value.int .i64 (-1)) ++ List.replicate (n - k) (Value.int .i64 0) := by simp [intsV, repI]
  have e1 : intsV (repI n (k + m)) = List.replicate k (Value.int .i64 (-1)) ++ List.replicate m (Value.int .i64 (-1)) ++ List.replicate (n - (k + m)) (Value.int .i64 0) := by simp [intsV, repI]
  have e2 : intsV (List.replicate m (-1)) = List.replicate m (Value.int .i64 (-1)) := by simp [intsV]
  have e3 : (List.replicate k (Value.int .i64 (-1)) ++ List.replicate (n - k) (Value.int .i64 0)).drop (k + m) = List.replicate (n - (k + m)) (Value.int .i64 0) := by
    rw [List.drop_append, List.drop_eq_nil_of_le (by simp), List.nil_append, List.drop_replicate, List.length_replicate]
    congr 1
    omega
  rw [e0, e1, e2, e3, List.take_left' (by simp)]
theorem repI_get {n k j : Nat} (h : j < k) : (intsV (repI n k))[j]? = some (.int .i64 (-1)) := by
  unfold intsV repI
  rw [List.map_append, List.getElem?_append_left (by simpa using h)]
  simp [h]
theorem Tryd.wcutlo (g n cap q : Nat) (hq : q ≤ n) (hqc : q < cap) (w : World) : (Instr.sliceAt 34 (.slice (some ⟨g, 0, none⟩) n cap) (some (.int .i64 q)) none none).run Tryd.prog w = .ok (.slice (some ⟨g, q, none⟩) (n - q) (cap - q)) w := by
  have hu : Tryd.prog.underlying 34 = some (.slice (Tryd.prog.elem 34)) := by kernel_rfl
  have he : Tryd.prog.elem 34 = 3 := by kernel_rfl
  rw [run_sliceAt_slice w 34 _ _ _ _ hu, run_slice_l w 34 (some ⟨g, 0, none⟩) n cap hu .i64 q (by omega) (by omega), he]
  simp [Tryd.sizeOf3, Result.andThen, sliced, show ¬ cap = q by omega, add_flat]
theorem Tryd.wcuthi (g n cap q : Nat) (hq : q ≤ cap) (w : World) : (Instr.sliceAt 34 (.slice (some ⟨g, 0, none⟩) n cap) none (some (.int .i64 q)) none).run Tryd.prog w = .ok (.slice (some ⟨g, 0, none⟩) q cap) w := by
  have hu : Tryd.prog.underlying 34 = some (.slice (Tryd.prog.elem 34)) := by kernel_rfl
  have he : Tryd.prog.elem 34 = 3 := by kernel_rfl
  rw [run_sliceAt_slice w 34 _ _ _ _ hu, run_slice_h w 34 (some ⟨g, 0, none⟩) n cap hu .i64 q (by omega) (by omega), he]
  simp [Tryd.sizeOf3, Result.andThen, sliced, add_zero']
theorem Tryd.wsz : (Tryd.prog.info? 3).map (·.size) = some 1 := by kernel_rfl
theorem made_repI {w w1 : World} {B n : Nat} {T : TypeId} (N : New w w1 B (madeCells (Value.int .i64 0).cells (n * 1)) T) : Blk w1 B (intsV (repI n 0)).toArray T := by
  have e : madeCells (Value.int .i64 0).cells (n * 1) = (intsV (repI n 0)).toArray := by
    apply Array.ext'
    rw [Nat.mul_one]
    simp [madeCells, intsV, repI, Value.cells]
    apply List.ext_getElem
    · simp
    · intro i h1 h2
      simp [Nat.mod_one]
  rw [← e]
  exact N.blk
set_option maxHeartbeats 1000000 in
set_option maxRecDepth 100000 in
theorem repeat_any (n B : Nat) (w : World) (hb : Blk w B #[.int .i64 (-1)] 3) (h1 : 1 ≤ n) (h36 : n ≤ 36) :
    Calls Tryd.prog 186 #[.slice (some ⟨B, 0, none⟩) 1 1, .int .i64 n] w (RetRow 3 (List.replicate n (-1)) w) := by
  have gg := Gr.refl w
  have HM := hidI (fun (w : World) => show Calls Tryd.prog 196 #[.int .u64 1, .int .u64 n] w fun e w' => e = .returned (.tuple #[.int .u64 0, .int .u64 n]) ∧ w = w' from by
    have h := Tryd.bits_Mul 1 n (by omega) (by omega) w
    rw [Nat.one_mul, show n / 18446744073709551616 = 0 by omega, show n % 18446744073709551616 = n by omega] at h
    exact h.mono fun e w' ⟨h1, h2⟩ => ⟨h1, h2.symm⟩)
  have hmk : n * 1 ≤ 16777216 := by omega
  have hby : 8 * n ≤ 281474976710656 := by omega
  have HB0 := hidI (fun (w : World) (h : Blk w B #[.int .i64 (-1)] 3) => show ∀ j v, [Value.int .i64 (-1)][j]? = some v → w.cell? ((⟨B, 0, none⟩ : Addr).add j) = some v from fun j v hj => by
    cases j with
    | zero => simp at hj; subst hj; rw [add_zero']; exact h.cell 0
    | succ j => simp at hj)
  go_enter Tryd.func186, Tryd.ntmps186
  go_wp2_with (first | (go_at_call 196; refine (HM.out _).mono ?_; rintro e wSame ⟨rfl, rfl⟩) | (refine r_make 34 3 _ _ _ Tryd.intsI (.tmp 29) (.tmp 29) n rfl rfl hmk hby (by omega) rfl ?_; intro w2 G N2; have g2 := N2.gr; have l2 := N2.lo; have hg := made_repI N2; have z2 := g2.size; have hb := g2.blk hb; have gg := gg.trans g2; clear N2) | (refine r_copy_row (.tmp 31) (.tmp 32) 34 34 3 3 Tryd.underlying34 Tryd.wsz G 0 n n 1 1 ⟨B, 0, none⟩ _ [.int .i64 (-1)] rfl rfl hg (by show 1 = min 1 n; omega) (HB0.out _ hb) (by simp [intsV, repI]; omega) (by intro u hu; simp at hu; subst hu; rfl) rfl ?_; intro w3 u3 b3))
  have hg1 : Blk w3 G (intsV (repI n 1)).toArray 3 := by
    have e := repI_step (n := n) (k := 0) (m := 1) (by omega)
    rw [Nat.zero_add] at e
    rw [← e]
    exact b3
  have gg := u3.gr gg l2
  clear b3 hb hg
  go_loopw [8] (fun kv wr => ∃ k : Nat, 1 ≤ k ∧ k ≤ n ∧ kv = .int .i64 k ∧ Blk wr G (intsV (repI n k)).toArray 3 ∧ Gr w wr) (fun kv _ => n - (intOf kv).toNat)
  case atStart => exact ⟨1, Nat.le_refl _, h1, rfl, hg1, gg⟩
  case round =>
    clear hg1 gg
    obtain ⟨k, hk1, hk, rfl, hg, gg⟩ := hrel
    by_cases hlt : k < n
    · obtain ⟨m, hm⟩ : ∃ m, m = min k (n - k) := ⟨_, rfl⟩
      have hm1 : 1 ≤ m ∧ m ≤ k ∧ k + m ≤ n := by omega
      obtain ⟨q1, q2, q3⟩ := hm1
      have hlen : (intsV (List.replicate m (-1))).length = m := by simp [intsV]
      have HLEN := hidI hlen
      have HST := hidI (repI_step q3)
      have HM2 := hidI (show (intsV (List.replicate m (-1))).length = Nat.min k (n - k) from by rw [hlen]; exact hm)
      have HSRC := hidI (fun (w : World) (h : Blk w G (intsV (repI n k)).toArray 3) => show ∀ j v, (intsV (List.replicate m (-1)))[j]? = some v → w.cell? ((⟨G, 0, none⟩ : Addr).add j) = some v from fun j v hj => by
        have hjm : j < m := by
          rcases Nat.lt_or_ge j m with h' | h'
          · exact h'
          · rw [List.getElem?_eq_none (by rw [hlen]; exact h')] at hj; cases hj
        have ev : v = .int .i64 (-1) := by simp [intsV, hjm] at hj; exact hj.symm
        subst ev
        rw [add_flat, h.cell j, List.getElem?_toArray]
        exact repI_get (by omega))
      have HFIT := hidI (show k + (intsV (List.replicate m (-1))).length ≤ (intsV (repI n k)).toArray.size from by rw [hlen, List.size_toArray]; simp only [intsV, List.length_map]; rw [repI_length hk]; omega)
      have HONE := hidI (intsV_one (List.replicate m (-1)))
      clear hlen hm
      go_wp2
      have gdr := (Gr.refl wr).drew
      have hg := gdr.blk hg
      have gg := gg.trans gdr
      refine F_begin (fun w => True) 7 10 #[false, false, false, false, false, false, false, false, false, false] rfl (by kernel_rfl) (by kernel_rfl) ?_
      generalize wr.drew = wd at *
      refine F_free (v := .int .i64 k) 0 #[true, false, false, false, false, false, false, false, false, false] rfl (by kernel_rfl) (fun _ _ _ h => h) rfl (fun _ => rfl) (trivial) ?_; simp only [Act.put, List.setIfInBounds_toArray, List.set_cons_succ, List.set_cons_zero]
      refine F_free (v := .slice (some ⟨G, 0, none⟩) n n) 1 #[true, true, false, false, false, false, false, false, false, false] rfl (by kernel_rfl) (fun _ _ _ h => h) rfl (fun _ => rfl) (trivial) ?_; simp only [Act.put, List.setIfInBounds_toArray, List.set_cons_succ, List.set_cons_zero]
      refine F_free (v := .int .i64 k) 2 #[true, true, true, false, false, false, false, false, false, false] rfl (by kernel_rfl) (fun _ _ _ h => h) rfl (fun _ => rfl) (trivial) ?_; simp only [Act.put, List.setIfInBounds_toArray, List.set_cons_succ, List.set_cons_zero]
      refine F_free (v := .slice (some ⟨G, k, none⟩) (n - k) (n - k)) 3 #[true, true, true, true, false, false, false, false, false, false] rfl (by kernel_rfl) (fun _ _ _ h => h) rfl (fun _ => e_val _ _ (Tryd.wcutlo G n n k hk hlt _)) (trivial) ?_; simp only [Act.put, List.setIfInBounds_toArray, List.set_cons_succ, List.set_cons_zero]
      refine F_free (v := .slice (some ⟨G, 0, none⟩) n n) 4 #[true, true, true, true, true, false, false, false, false, false] rfl (by kernel_rfl) (fun _ _ _ h => h) rfl (fun _ => rfl) (trivial) ?_; simp only [Act.put, List.setIfInBounds_toArray, List.set_cons_succ, List.set_cons_zero]
      refine F_free (v := .int .i64 k) 5 #[true, true, true, true, true, true, false, false, false, false] rfl (by kernel_rfl) (fun _ _ _ h => h) rfl (fun _ => rfl) (trivial) ?_; simp only [Act.put, List.setIfInBounds_toArray, List.set_cons_succ, List.set_cons_zero]
      refine F_free (v := .slice (some ⟨G, 0, none⟩) k n) 6 #[true, true, true, true, true, true, true, false, false, false] rfl (by kernel_rfl) (fun _ _ _ h => h) rfl (fun _ => e_val _ _ (Tryd.wcuthi G n n k hk _)) (trivial) ?_; simp only [Act.put, List.setIfInBounds_toArray, List.set_cons_succ, List.set_cons_zero]
      refine F_one 7 #[true, true, true, true, true, true, true, true, false, false] rfl (by kernel_rfl) ?_
      refine r_copy_row (.tmp 41) (.tmp 44) 34 34 3 3 Tryd.underlying34 Tryd.wsz G k (n - k) (n - k) k n ⟨G, 0, none⟩ _ (intsV (List.replicate m (-1))) rfl rfl hg HM2.out (HSRC.out _ hg) HFIT.out HONE.out rfl ?_
      intro w4 u4 b4
      rw [HLEN.out] at b4 ⊢
      have b5 : Blk w4 G (intsV (repI n (k + m))).toArray 3 := by rw [← HST.out]; exact b4
      have gg := u4.gr gg l2
      refine ⟨fun _ => trivial, ?_⟩
      simp only [Act.put, List.setIfInBounds_toArray, List.set_cons_succ, List.set_cons_zero]
      refine F_one 8 #[true, true, true, true, true, true, true, true, true, false] rfl (by kernel_rfl) ?_
      refine r_addI (.tmp 38) (.tmp 45) k m ((k + m : Nat) : Int) rfl rfl (by omega) (by omega) rfl ?_
      refine ⟨fun _ => trivial, ?_⟩
      simp only [Act.put, List.setIfInBounds_toArray, List.set_cons_succ, List.set_cons_zero]
      refine F_one 9 #[true, true, true, true, true, true, true, true, true, true] rfl (by kernel_rfl) ?_
      refine r_val (.int .i64 ((k + m : Nat) : Int)) rfl rfl ?_
      simp only [Act.put, List.setIfInBounds_toArray, List.set_cons_succ, List.set_cons_zero]
      refine ⟨fun _ => trivial, ?_⟩
      refine F_done (by kernel_rfl) ?_
      go_wp2
      go_roundw
      case rel => exact ⟨k + m, by omega, q3, rfl, b5, gg⟩
      case measure => simp [intOf]; omega
    · obtain rfl : k = n := by omega
      clear hlt
      go_wp2
      go_ret
      rw [repI_full] at hg
      have e : (List.replicate k (-1 : Int)).length = k := by simp
      refine ⟨gg, _, rfl, ?_⟩
      rw [e]
      exact ⟨by simp [intsV], .inr ⟨G, k, _, rfl, l2, hg, Nat.le_refl _, by unfold maxLen; omega, by simp [intsV], by simp [intsV]⟩⟩
end Go.Proofs.YtdebiobhmpoiiaaDoor
