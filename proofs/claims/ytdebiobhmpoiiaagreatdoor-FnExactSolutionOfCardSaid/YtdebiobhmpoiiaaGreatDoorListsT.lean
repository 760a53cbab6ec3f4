/-
  The laws' helpers on lists of texts: compared, marked, and held.
-/
import Derived.Test.YtdebiobhmpoiiaaGreatDoorBLs
import Derived.Test.YtdebiobhmpoiiaaGreatDoorBWd
import Derived.Test.YtdebiobhmpoiiaaGreatDoorBLa
import Derived.Test.YtdebiobhmpoiiaaGreatDoorOps
namespace Go.Proofs.YtdebiobhmpoiiaaGreatDoor
open Go.RowKit
def tx (l : List UInt8) : Value := .string ⟨l.toArray⟩
def strV (L : List (List UInt8)) : List Value := L.map tx
theorem strV_one (L : List (List UInt8)) : ∀ v ∈ strV L, v.oneCell' = true := by
  intro v hv
  obtain ⟨b, _, rfl⟩ := List.mem_map.1 hv
  rfl
def ts (L : List (List UInt8)) (j : Nat) : List UInt8 := L.getD j []
theorem strV_get (L : List (List UInt8)) (j : Nat) (h : j < L.length) : (strV L)[j]? = some (tx (ts L j)) := by
  unfold strV ts
  rw [List.getElem?_map, List.getD_eq_getElem?_getD, List.getElem?_eq_getElem h]
  rfl
theorem strV_set (L : List (List UInt8)) (j : Nat) (s : List UInt8) : (strV L).set j (tx s) = strV (L.set j s) := by unfold strV; rw [List.map_set]
theorem strV_append (L M : List (List UInt8)) : strV L ++ strV M = strV (L ++ M) := by unfold strV; rw [List.map_append]
/-- The digits of a number, ahead of others. -/
def mkDig : Nat → Nat → List UInt8 → List UInt8
  | 0, _, out => out
  | f + 1, k, out => if k = 0 then out else mkDig f (k / 10) (UInt8.ofNat (48 + k % 10) :: out)
def mkT (k : Nat) : List UInt8 := 109 :: mkDig k k []
theorem mkDig_zero (f : Nat) (out : List UInt8) : mkDig f 0 out = out := by
  cases f with
  | zero => rfl
  | succ f => show (if 0 = 0 then _ else _) = _; rw [if_pos rfl]
/-- The first j texts replaced by marks. -/
def markST (L : List (List UInt8)) (k : Nat) : Nat → List (List UInt8)
  | 0 => L
  | j + 1 => (markST L k j).set j (mkT (k + j))
theorem markST_length (L : List (List UInt8)) (k j : Nat) : (markST L k j).length = L.length := by
  induction j with
  | zero => rfl
  | succ j ih => unfold markST; simp [ih]
theorem markST_at (L : List (List UInt8)) (k j i : Nat) (hj : j ≤ L.length) (hi : i < j) : ts (markST L k j) i = mkT (k + i) := by
  induction j with
  | zero => omega
  | succ j ih =>
    unfold ts markST
    rw [List.getD_eq_getElem?_getD, List.getElem?_set]
    by_cases e : j = i
    · subst e
      rw [if_pos rfl, if_pos (by rw [markST_length]; omega)]
      rfl
    · rw [if_neg e]
      have := ih (by omega) (by omega)
      unfold ts at this
      rw [← List.getD_eq_getElem?_getD]
      exact this
section
variable {P : Program} {w : World} {ops : Array Oper} {rest : List Oper} {a : Act} {Q : Exit → Act → World → Prop} {dst : Option Tmp} {ty : TypeId} {pos : String} {aft : Array Edge} {gd : Option (Nat × Bool)}
/-- An operation of two operands whose run is known. -/
theorem e_bin {T yt : TypeId} (op : BinOp) (x y : Operand) (u v : Value) {r : Value} (hx : a.eval x = u) (hy : a.eval y = v) (hg : ∀ w, (eqGuard op T x y u v).run P w = .ok () w) (hr : (binOp op T u v).run P w = .ok r w) :
    (execOp a.eval ⟨dst, .binOp op T x y yt, ty, pos, aft, gd⟩).run P w = .ok (.value r) w := by
  unfold execOp
  simp only [hx, hy, Sem.run_bind, hg w, hr, Result.andThen_ok, Sem.run_pure]
theorem r_bin {T yt : TypeId} (op : BinOp) (x y : Operand) (u v r : Value) (hx : a.eval x = u) (hy : a.eval y = v) (hg : ∀ w, (eqGuard op T x y u v).run P w = .ok () w) (hr : (binOp op T u v).run P w = .ok r w)
    (hgd : Region.wanted ⟨dst, .binOp op T x y yt, ty, pos, aft, gd⟩ (yielded ops a.tmps) = true) (h : wpList P ops Q rest (a.put dst r) w) : wpList P ops Q (⟨dst, .binOp op T x y yt, ty, pos, aft, gd⟩ :: rest) a w :=
  r_val r (e_bin op x y u v hx hy hg hr) hgd h
theorem e_neT {T yt : TypeId} (x y : Operand) (s t : List UInt8) (b : Bool) (hx : a.eval x = tx s) (hy : a.eval y = tx t) (hb : decide (s = t) = !b) :
    (execOp a.eval ⟨dst, .binOp .neq T x y yt, ty, pos, aft, gd⟩).run P w = .ok (.value (.bool b)) w := by
  have hb' : (!decide (s = t)) = b := by rw [hb, Bool.not_not]
  subst hb'
  unfold tx at hx hy
  unfold execOp
  simp [hx, hy, eqGuard, binOp_string_neq]
  rw [Bool.eq_iff_iff, beq_iff_eq, decide_eq_true_eq]
end
theorem Tryz.strix (B n cap x : Nat) (hx : x < n) (w : World) : (Instr.indexAt 30 (.slice (some ⟨B, 0, none⟩) n cap) (.int .i64 x)).run Tryz.prog w = .ok (.pointer (some ⟨B, x, none⟩)) w := by
  have hu : Tryz.prog.underlying 30 = some (.slice (Tryz.prog.elem 30)) := by kernel_rfl
  have he : Tryz.prog.elem 30 = 9 := by kernel_rfl
  rw [run_indexAt_slice w 30 ⟨B, 0, none⟩ n cap .i64 x hu, if_pos (by omega), he]
  simp only [Int.toNat_natCast, Tryz.sizeOf9, Result.andThen_ok, add_flat', Nat.mul_one]
set_option maxHeartbeats 1000000 in
set_option maxRecDepth 100000 in
theorem eqStringS_any (v1 v2 : Value) (L : List (List UInt8)) (b1 b2 : Nat) (w : World) (h1 : w.ownsRow b1 9 1 v1 L.length (strV L)) (h2 : w.ownsRow b2 9 1 v2 L.length (strV L)) (hl : L.length ≤ 1048576) :
    Calls Tryz.prog 13 #[v1, v2] w (Ret (.bool true) w) := by
  have gg := Gr.refl w
  obtain ⟨p1, m1, k1, rfl⟩ := own_slice h1
  obtain ⟨p2, m2, k2, rfl⟩ := own_slice h2
  obtain rfl : m1 = L.length := own_len h1
  obtain rfl : m2 = L.length := own_len h2
  have e0 : ((L.length : Int) != (L.length : Int)) = false := by simp
  have H1 := hidI h1
  have H2 := hidI h2
  clear h1 h2
  go_enter Tryz.func13, Tryz.ntmps13
  go_wp2
  go_loopw [5] (fun i wr => ∃ k : Nat, k ≤ L.length ∧ i = .int .i64 k ∧ Gr w wr) (fun i _ => L.length - (intOf i).toNat)
  case atStart => exact ⟨0, Nat.zero_le _, rfl, gg⟩
  case round =>
    obtain ⟨j, hj, rfl, gg⟩ := hrel
    by_cases hlt : j < L.length
    · obtain ⟨g1, c1, e1, -, -⟩ := own_shape H1.out (by omega)
      obtain ⟨g2, c2, e2, -, -⟩ := own_shape H2.out (by omega)
      cases e1; cases e2
      have cx := own_val (gg.row H1.out) j _ hlt (strV_get L j hlt)
      have cy := own_val (gg.row H2.out) j _ hlt (strV_get L j hlt)
      obtain ⟨s, hs⟩ : ∃ s, s = ts L j := ⟨_, rfl⟩
      rw [← hs] at cx cy
      clear hs
      go_wp2
      refine q_whole (by kernel_rfl) (by kernel_rfl) ?_
      refine q_move _ (.slice (some ⟨g1, 0, none⟩) L.length k1) rfl rfl ?_; simp only [Act.put, List.setIfInBounds_toArray, List.set_cons_succ, List.set_cons_zero]
      refine q_move _ (.int .i64 j) rfl rfl ?_; simp only [Act.put, List.setIfInBounds_toArray, List.set_cons_succ, List.set_cons_zero]
      refine q_take (.pointer (some ⟨g1, j, none⟩)) rfl (fun w' hw' => e_val _ _ (Tryz.strix g1 L.length k1 j hlt _)) ?_; simp only [Act.put, List.setIfInBounds_toArray, List.set_cons_succ, List.set_cons_zero]
      refine q_take (tx s) rfl (fun w' hw' => e_load 9 (.tmp 19) ⟨g1, j, none⟩ _ rfl (Tryz.isAgg9 _) (hw'.cell cx)) ?_; simp only [Act.put, List.setIfInBounds_toArray, List.set_cons_succ, List.set_cons_zero]
      refine q_move _ (.slice (some ⟨g2, 0, none⟩) L.length k2) rfl rfl ?_; simp only [Act.put, List.setIfInBounds_toArray, List.set_cons_succ, List.set_cons_zero]
      refine q_move _ (.int .i64 j) rfl rfl ?_; simp only [Act.put, List.setIfInBounds_toArray, List.set_cons_succ, List.set_cons_zero]
      refine q_take (.pointer (some ⟨g2, j, none⟩)) rfl (fun w' hw' => e_val _ _ (Tryz.strix g2 L.length k2 j hlt _)) ?_; simp only [Act.put, List.setIfInBounds_toArray, List.set_cons_succ, List.set_cons_zero]
      refine q_take (tx s) rfl (fun w' hw' => e_load 9 (.tmp 23) ⟨g2, j, none⟩ _ rfl (Tryz.isAgg9 _) (hw'.cell cy)) ?_; simp only [Act.put, List.setIfInBounds_toArray, List.set_cons_succ, List.set_cons_zero]
      refine q_take (.bool false) rfl (fun w' hw' => e_neT _ _ s s false rfl rfl (by rw [decide_eq_true rfl]; rfl)) ?_; simp only [Act.put, List.setIfInBounds_toArray, List.set_cons_succ, List.set_cons_zero]
      refine wpQuiet_nil ?_; intro w7 g7; have z7 := g7.size; have gg := gg.trans g7
      go_wp2
      go_roundw
      case rel => exact ⟨j + 1, by omega, by go_num, gg⟩
      case measure => simp [intOf]; omega
    · obtain rfl : j = L.length := by omega
      clear hlt
      go_wp2
      go_ret
      exact ⟨rfl, gg⟩
theorem Tryz.cvu8 (x : Nat) (h : x ≤ 255) (w : World) : (convert 3 5 (.int .i64 (x : Int))).run Tryz.prog w = .ok (.int .u8 ((UInt8.ofNat x).toNat : Int)) w := by
  have hx : (UInt8.ofNat x).toNat = x := by
    rw [UInt8.toNat_ofNat']
    exact Nat.mod_eq_of_lt (by omega)
  rw [hx]
  have hs : Tryz.prog.underlying 3 = some (.int .i64) := Tryz.underlying3
  have hd : Tryz.prog.underlying 5 = some (.int .u8) := Tryz.underlying5
  have hw := IntWalk.u8_in (x : Int) (by omega)
  simp [convert, Conv.intToInt, run_underlying hs, run_underlying hd, hw]
theorem Tryz.bsu1 (u : Int) (w : World) : (Instr.buildSlice 58 1 #[(0, .int .u8 u)]).run Tryz.prog w = .ok (.slice (some ⟨w.heap.size, 0, none⟩) 1 1) (w.alloc (.cells #[.int .u8 u] 5)) := by kernel_rfl
theorem Tryz.convT (B cap : Nat) (b : UInt8) (w : World) (hc : w.cell? ⟨B, 0, none⟩ = some (.int .u8 (b.toNat : Int))) : (convert 58 9 (.slice (some ⟨B, 0, none⟩) 1 cap)).run Tryz.prog w = .ok (tx [b]) w := by
  refine Tryz.conv B 0 cap (mkS [b]) w (fun i hi => ?_) 1 rfl
  have h1 : (mkS [b]).size = 1 := rfl
  obtain rfl : i = 0 := by omega
  rw [Nat.zero_add, hc]
  rfl
theorem tx_add (P : Program) (w : World) (b : UInt8) (out : List UInt8) (h : out.length ≤ 1000) : (Op.stringOp .add (⟨[b].toArray⟩ : ByteArray) ⟨out.toArray⟩ : Sem Value).run P w = .ok (tx (b :: out)) w := by
  have := run_string_add_sum (P := P) w (⟨[b].toArray⟩ : ByteArray) ⟨out.toArray⟩ (by show 1 + out.toArray.size ≤ _; simp; omega)
  rw [this]
  have e : (⟨[b].toArray⟩ : ByteArray) ++ ⟨out.toArray⟩ = ⟨(b :: out).toArray⟩ := by
    apply ByteArray.ext
    rw [ByteArray.data_append]
    simp
  rw [e]
  rfl
set_option maxHeartbeats 300000 in
set_option maxRecDepth 100000 in
theorem markText_any (k : Nat) (w : World) (h1 : 1 ≤ k) (h2 : k ≤ 900) : Calls Tryz.prog 30 #[.int .i64 k] w (Ret (tx (mkT k)) w) := by
  have gg := Gr.refl w
  have hle : ¬ ((k : Int) ≤ 0) := by omega
  obtain ⟨R, hR⟩ : ∃ R, R = mkDig k k [] := ⟨_, rfl⟩
  have HR := hidI hR
  have HK := hidI (show tx (mkT k) = tx (109 :: R) from by unfold mkT; rw [hR])
  clear hR
  rw [HK.out]
  go_enter Tryz.func30, Tryz.ntmps30
  go_wp2
  go_loopw [0, 3] (fun kv ov wr => ∃ (n : Nat) (out : List UInt8) (f : Nat), kv = .int .i64 n ∧ ov = tx out ∧ out.length + n ≤ k ∧ n ≤ f ∧ Hid (mkDig f n out = R) ∧ Gr w wr) (fun kv _ _ => (intOf kv).toNat)
  case atStart => exact ⟨k, [], k, rfl, rfl, by simp, Nat.le_refl _, hidI HR.out.symm, gg⟩
  case round =>
    obtain ⟨n, out, f, rfl, rfl, hsum, hnf, HD, gg⟩ := hrel
    by_cases h0 : 0 < n
    · obtain ⟨f', rfl⟩ : ∃ f', f = f' + 1 := ⟨f - 1, by omega⟩
      have HS := hidI (show mkDig f' (n / 10) (UInt8.ofNat (48 + n % 10) :: out) = R from by
        have := HD.out
        unfold mkDig at this
        rw [if_neg (by omega)] at this
        exact this)
      obtain ⟨q, hq⟩ : ∃ q, q = n / 10 := ⟨_, rfl⟩
      obtain ⟨r, hr⟩ : ∃ r, r = n % 10 := ⟨_, rfl⟩
      have hqn : q < n := by rw [hq]; omega
      have hr9 : r ≤ 9 := by rw [hr]; omega
      have HRQ := hidI (fun (w : World) => show (binOp .quo 3 (.int .i64 (n : Int)) (.int .i64 10)).run Tryz.prog w = .ok (.int .i64 (q : Nat)) w from by rw [hq]; exact run_quo (w := w) 3 n 10 (by omega) (by omega))
      have HRR := hidI (fun (w : World) => show (binOp .rem 3 (.int .i64 (n : Int)) (.int .i64 10)).run Tryz.prog w = .ok (.int .i64 (r : Nat)) w from by rw [hr]; exact run_rem (w := w) 3 n 10 (by omega))
      rw [← hq, ← hr] at HS
      obtain ⟨b, hb⟩ : ∃ b, b = UInt8.ofNat (48 + r) := ⟨_, rfl⟩
      have HCV := hidI (fun (w : World) => show (convert 3 5 (.int .i64 ((48 + r : Nat) : Int))).run Tryz.prog w = .ok (.int .u8 (b.toNat : Int)) w from by rw [hb]; exact Tryz.cvu8 (48 + r) (by omega) w)
      rw [← hb] at HS
      have hol : out.length ≤ 1000 := by omega
      have h0' : ((n : Int) > 0) := by omega
      clear hq hr hb HD
      go_wp2_with (first | (refine r_bin .rem _ _ (.int .i64 n) (.int .i64 10) (.int .i64 (r : Nat)) rfl rfl (fun _ => rfl) (HRR.out _) rfl ?_) | (refine r_addI _ _ 48 (r : Nat) ((48 + r : Nat) : Int) rfl rfl (by omega) (by omega) rfl ?_) | (refine r_conv 3 5 _ (.int .i64 ((48 + r : Nat) : Int)) (.int .u8 (b.toNat : Int)) rfl (HCV.out _) rfl ?_) | (refine r_slice1 58 5 (.tmp 11) (.int .u8 (b.toNat : Int)) rfl (Tryz.bsu1 _ _) rfl ?_; intro w5 B5 N5; have g5 := N5.gr; have cb : w5.cell? ⟨B5, 0, none⟩ = some (.int .u8 (b.toNat : Int)) := Blk.cell (show Blk w5 B5 _ 5 from N5.blk) 0; have gg := gg.trans g5; clear N5) | (refine r_conv 58 9 _ (.slice (some ⟨B5, 0, none⟩) 1 1) (tx [b]) rfl (Tryz.convT B5 1 b _ cb) rfl ?_) | (refine r_bin .add _ _ (tx [b]) (tx out) (tx (b :: out)) rfl rfl (fun _ => rfl) (tx_add _ _ b out hol) rfl ?_) | (refine r_bin .quo _ _ (.int .i64 n) (.int .i64 10) (.int .i64 (q : Nat)) rfl rfl (fun _ => rfl) (HRQ.out _) rfl ?_))
      go_roundw
      case rel => exact ⟨q, b :: out, f', rfl, rfl, by rw [List.length_cons]; omega, by omega, HS, gg⟩
      case measure => simp [intOf]; omega
    · obtain rfl : n = 0 := by omega
      have HE := hidI (show out = R from by rw [← HD.out, mkDig_zero])
      have hol : out.length ≤ 1000 := by omega
      clear h0
      go_wp2_with (refine r_bin .add _ _ (tx [109]) (tx out) (tx (109 :: out)) rfl rfl (fun _ => rfl) (tx_add _ _ 109 out hol) rfl ?_)
      go_ret
      exact ⟨by rw [HE.out]; exact rfl, gg⟩
set_option maxHeartbeats 400000 in
set_option maxRecDepth 100000 in
theorem markStringS_any (v : Value) (L : List (List UInt8)) (base : Nat) (w : World) (h1 : w.ownsRow base 9 1 v L.length (strV L)) (hl : L.length ≤ 800) :
    Calls Tryz.prog 14 #[v, .int .i64 1] w fun e w' => e = .returned (.int .i64 ((1 + L.length : Nat) : Int)) ∧ w'.ownsRow base 9 1 v L.length (strV (markST L 1 L.length)) ∧ Grb v.ownBlock w w' := by
  obtain ⟨p1, m1, k1, rfl⟩ := own_slice h1
  obtain rfl : m1 = L.length := own_len h1
  have gg0 := Grb.refl (Value.slice p1 L.length k1).ownBlock w
  go_enter Tryz.func14, Tryz.ntmps14
  go_wp2
  go_loopw [1, 5] (fun kv iv wr => ∃ j : Nat, j ≤ L.length ∧ iv = .int .i64 j ∧ kv = .int .i64 ((1 + j : Nat) : Int) ∧ wr.ownsRow base 9 1 (.slice p1 L.length k1) L.length (strV (markST L 1 j)) ∧ Grb (Value.slice p1 L.length k1).ownBlock w wr) (fun _ iv _ => L.length - (intOf iv).toNat)
  case atStart => exact ⟨0, Nat.zero_le _, rfl, rfl, h1, gg0⟩
  case round =>
    obtain ⟨j, hj, rfl, rfl, own, uu⟩ := hrel
    by_cases hlt : j < L.length
    · obtain ⟨g1, c1, e1, -, -⟩ := own_shape own (by omega)
      cases e1
      have HS := hidI (show (markST L 1 j).set j (mkT (1 + j)) = markST L 1 (j + 1) from rfl)
      have h1j : 1 ≤ 1 + j := by omega
      have h9j : 1 + j ≤ 900 := by omega
      go_wp2_with (first | (go_at_call 30; refine (markText_any (1 + j) _ h1j h9j).mono ?_; rintro e w5 ⟨rfl, g5⟩; have own := g5.row own; have uu := uu.gr' g5) | (refine r_idx 30 _ _ (.slice (some ⟨g1, 0, none⟩) L.length k1) (.int .i64 j) _ rfl rfl (Tryz.strix g1 L.length k1 j hlt _) rfl ?_) | (refine r_store_own 9 9 _ _ g1 j L.length k1 base (strV (markST L 1 j)) rfl (tx (mkT (1 + j))) rfl own hlt Tryz.sizeOf9 rfl rfl ?_; intro w10 u10 own10; rw [strV_set, HS.out] at own10))
      go_roundw
      case rel => exact ⟨j + 1, by omega, by go_num, by (first | rfl | (congr 1; omega)), own10, uu.trans u10.grb⟩
      case measure => simp [intOf]; omega
    · obtain rfl : j = L.length := by omega
      clear hlt
      go_wp2
      go_ret
      exact ⟨rfl, own, uu⟩
set_option maxHeartbeats 400000 in
set_option maxRecDepth 100000 in
theorem heldStringS_any (v : Value) (L : List (List UInt8)) (base : Nat) (w : World) (h1 : w.ownsRow base 9 1 v L.length (strV L)) (hL : ∀ i, i < L.length → ts L i = mkT (1 + i)) (hl : L.length ≤ 800) :
    Calls Tryz.prog 15 #[v, .int .i64 1] w (Ret (.int .i64 ((1 + L.length : Nat) : Int)) w) := by
  have gg := Gr.refl w
  obtain ⟨p1, m1, k1, rfl⟩ := own_slice h1
  obtain rfl : m1 = L.length := own_len h1
  have H1 := hidI h1
  have HL := hidI hL
  clear h1 hL
  go_enter Tryz.func15, Tryz.ntmps15
  go_wp2
  go_loopw [1, 5] (fun kv iv wr => ∃ j : Nat, j ≤ L.length ∧ iv = .int .i64 j ∧ kv = .int .i64 ((1 + j : Nat) : Int) ∧ Gr w wr) (fun _ iv _ => L.length - (intOf iv).toNat)
  case atStart => exact ⟨0, Nat.zero_le _, rfl, rfl, gg⟩
  case round =>
    obtain ⟨j, hj, rfl, rfl, gg⟩ := hrel
    by_cases hlt : j < L.length
    · obtain ⟨g1, c1, e1, -, -⟩ := own_shape H1.out (by omega)
      cases e1
      have cx := own_val (gg.row H1.out) j _ hlt (strV_get L j hlt)
      rw [HL.out j hlt] at cx
      have h1j : 1 ≤ 1 + j := by omega
      have h9j : 1 + j ≤ 900 := by omega
      go_wp2
      refine q_whole (by kernel_rfl) (by kernel_rfl) ?_
      refine q_move _ (.slice (some ⟨g1, 0, none⟩) L.length k1) rfl rfl ?_; simp only [Act.put, List.setIfInBounds_toArray, List.set_cons_succ, List.set_cons_zero]
      refine q_move _ (.int .i64 j) rfl rfl ?_; simp only [Act.put, List.setIfInBounds_toArray, List.set_cons_succ, List.set_cons_zero]
      refine q_take (.pointer (some ⟨g1, j, none⟩)) rfl (fun w' hw' => e_val _ _ (Tryz.strix g1 L.length k1 j hlt _)) ?_; simp only [Act.put, List.setIfInBounds_toArray, List.set_cons_succ, List.set_cons_zero]
      refine q_take (tx (mkT (1 + j))) rfl (fun w' hw' => e_load 9 (.tmp 14) ⟨g1, j, none⟩ _ rfl (Tryz.isAgg9 _) (hw'.cell cx)) ?_; simp only [Act.put, List.setIfInBounds_toArray, List.set_cons_succ, List.set_cons_zero]
      refine q_move _ (.int .i64 ((1 + j : Nat) : Int)) rfl rfl ?_; simp only [Act.put, List.setIfInBounds_toArray, List.set_cons_succ, List.set_cons_zero]
      refine q_call 30 [.tmp 16] _ [.int .i64 ((1 + j : Nat) : Int)] (tx (mkT (1 + j))) Tryz.call30 rfl rfl (fun w' hw' => ((markText_any (1 + j) w' h1j h9j).mono fun e w'' h => ⟨h.1, hw'.trans h.2⟩)) ?_; simp only [Act.put, List.setIfInBounds_toArray, List.set_cons_succ, List.set_cons_zero]
      refine q_take (.bool false) rfl (fun w' hw' => e_neT _ _ (mkT (1 + j)) (mkT (1 + j)) false rfl rfl (by rw [decide_eq_true rfl]; rfl)) ?_; simp only [Act.put, List.setIfInBounds_toArray, List.set_cons_succ, List.set_cons_zero]
      refine wpQuiet_nil ?_; intro w7 g7; have z7 := g7.size; have gg := gg.trans g7
      go_wp2
      go_roundw
      case rel => exact ⟨j + 1, by omega, by go_num, by (first | rfl | (congr 1; omega)), gg⟩
      case measure => simp [intOf]; omega
    · obtain rfl : j = L.length := by omega
      clear hlt
      go_wp2
      go_ret
      exact ⟨rfl, gg⟩
end Go.Proofs.YtdebiobhmpoiiaaGreatDoor
