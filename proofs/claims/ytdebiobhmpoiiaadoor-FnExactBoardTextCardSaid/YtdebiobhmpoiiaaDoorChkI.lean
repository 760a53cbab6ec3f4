/-
  slices.Chunk over ints: a row's pieces of one length, from the first on; a round keeps the two header cells.
-/
import Derived.RangeFuncNested
import Derived.RangeFuncBound
import Derived.RangeFuncCalls
import Derived.RangeFuncLeaves
import Derived.Shelf.Abstract
import Derived.Shelf.RegionOpen
import Derived.WalkKit
import Derived.OwnWalkIn
import Derived.TacticsInMore
import Derived.LoopNIn
import Derived.LoopIn
import Derived.Test.YtdebiobhmpoiiaaDoorProg
import Derived.Test.YtdebiobhmpoiiaaDoorBKit
import Derived.Test.YtdebiobhmpoiiaaDoorLiftW
namespace Go.Proofs.YtdebiobhmpoiiaaDoor
open Go.RowKit Go.Shelf
attribute [local go_sem] Oper.semAt_some
/-- What comes from the iterator: a number of a piece. -/
abbrev CX (H : Nat) := { i : Nat // i < H }
def natC : Value → Nat
  | .int _ n => n.toNat
  | _ => 0
/-- What a round that goes on keeps: the two header cells. -/
def KpC (Bs Bn : Nat) (A B : World) : Prop := (∀ c, A.cell? ⟨Bs, 0, none⟩ = some c → B.cell? ⟨Bs, 0, none⟩ = some c) ∧ (∀ c, A.cell? ⟨Bn, 0, none⟩ = some c → B.cell? ⟨Bn, 0, none⟩ = some c)
theorem kpC_t {Bs Bn : Nat} {A B C : World} (h : KpC Bs Bn A B) (k : KpC Bs Bn B C) : KpC Bs Bn A C := ⟨fun c hc => k.1 c (h.1 c hc), fun c hc => k.2 c (h.2 c hc)⟩
theorem kpC_b {Bs Bn : Nat} (W : World) (l : Nat) (o o' : Obj) (h : W.heap[l]? = some o) (hc : o.isCells = false) : KpC Bs Bn W (W.putObj l o') := by
  have hk : ∀ (p : Addr) (c : Value), W.cell? p = some c → (W.putObj l o').cell? p = some c := fun p c hp => cell_kept hp (grownBy_putObj' W l o') (fun r e => by cases e; exact ⟨o, h, hc⟩)
  exact ⟨fun c h' => hk _ c h', fun c h' => hk _ c h'⟩
theorem range_snoc (r : Nat) : List.range (r + 1) = List.range r ++ [r] := List.range_succ
section
variable {P : Program} {w : World} {a : Act} {dst : Option Tmp} {ty : TypeId} {pos : String} {aft : Array Edge} {gd : Option (Nat × Bool)}
theorem e_slL {T : TypeId} (x lo : Operand) (v l r : Value) (hx : a.eval x = v) (hl : a.eval lo = l) (hr : (Instr.sliceAt T v (some l) none none).run P w = .ok r w) :
    (execOp a.eval ⟨dst, .slice T x (some lo) none none, ty, pos, aft, gd⟩).run P w = .ok (.value r) w := by
  unfold execOp
  simp only [Option.map_some, Option.map_none, hx, hl, Sem.run_bind, hr, Result.andThen_ok, Sem.run_pure]
theorem e_lenK (T e : TypeId) (x : Operand) (A : Option Addr) (n c : Nat) (hx : a.eval x = .slice A n c) (hu : P.underlying T = some (.slice e)) :
    (execOp a.eval ⟨dst, .call { callee := .builtin .len, args := #[x], argTypes := #[T] }, ty, pos, aft, gd⟩).run P w = .ok (.value (.int .i64 n)) w := by
  have he : P.elem T = e := by unfold Program.elem; simp [hu]
  unfold execOp
  simp only [resolve, invoke, builtin, Sem.run_bind, Sem.run_pure, Result.andThen_ok, List.map_toArray, List.map_cons, List.map_nil, hx, run_len_slice (P := P) w T ty A n c (by rw [he]; exact hu)]
  rfl
theorem run_minK (T T' ty : TypeId) (m n : Nat) (h : m ≤ n) : (Builtin.min_ #[T, T'] ty #[.int .i64 m, .int .i64 n]).run P w = .ok (.int .i64 m) w := by
  unfold Builtin.min_
  simp only [List.foldlM_cons, List.foldlM_nil, Builtin.min2, Sem.run_bind, Sem.run_pure, Result.andThen_ok]
  rw [if_neg (by omega)]
theorem e_minK (T T' : TypeId) (x y : Operand) (m n : Nat) (h : m ≤ n) (hx : a.eval x = .int .i64 m) (hy : a.eval y = .int .i64 n) :
    (execOp a.eval ⟨dst, .call { callee := .builtin .min, args := #[x, y], argTypes := #[T, T'] }, ty, pos, aft, gd⟩).run P w = .ok (.value (.int .i64 m)) w := by
  unfold execOp
  simp only [resolve, invoke, builtin, Sem.run_bind, Sem.run_pure, Result.andThen_ok, List.map_toArray, List.map_cons, List.map_nil, hx, hy, run_minK T T' ty m n h]
end
theorem Tryd.cslT : Tryd.prog.underlying 34 = some (.slice (Tryd.prog.elem 34)) := by kernel_rfl
theorem Tryd.cslE : Tryd.prog.elem 34 = 3 := by kernel_rfl
theorem Tryd.csl1 (b off len cap p : Nat) (h : p < len) (hc : len ≤ cap) (w : World) : (Instr.sliceAt 34 (.slice (some ⟨b, off, none⟩) len cap) (some (.int .i64 p)) none none).run Tryd.prog w = .ok (.slice (some ⟨b, off + p, none⟩) (len - p) (cap - p)) w := by
  have hs : (sizeOf 3).run Tryd.prog w = .ok 1 w := by kernel_rfl
  rw [run_sliceAt_slice w 34 _ _ _ _ Tryd.cslT, run_slice_l w 34 _ _ _ Tryd.cslT .i64 p (by omega) (by omega), Tryd.cslE]
  simp [hs, Result.andThen, sliced, Addr.add, show ¬ cap = p by omega]
theorem Tryd.csl3 (b off len cap p q : Nat) (h0 : p < q) (h : q ≤ len) (hc : len ≤ cap) (w : World) : (Instr.sliceAt 34 (.slice (some ⟨b, off, none⟩) len cap) (some (.int .i64 p)) (some (.int .i64 q)) (some (.int .i64 q))).run Tryd.prog w = .ok (.slice (some ⟨b, off + p, none⟩) (q - p) (q - p)) w := by
  have hs : (sizeOf 3).run Tryd.prog w = .ok 1 w := by kernel_rfl
  rw [run_sliceAt_slice w 34 _ _ _ _ Tryd.cslT, run_slice_lhm w 34 _ _ _ Tryd.cslT .i64 .i64 .i64 p q q (by omega) (by omega) (by omega) (by omega), Tryd.cslE]
  simp [hs, Result.andThen, sliced, Addr.add, show ¬ q = p by omega]
set_option maxRecDepth 100000 in
set_option maxHeartbeats 2000000 in
theorem Tryd.chk1_in (n : Nat) (hn : 1 ≤ n) (l Bs Bn b off cap Wd H len : Nat) (hW : 1 ≤ Wd) (hlen : len = H * Wd) (hreach : len * 8 ≤ 1073741824) (J Jx : List (CX H) → World → Prop)
    (hY : ∀ pre x W, J pre W → pre.length < H → YieldAt Fence.wide (n - 1) Tryd.prog l #[.slice (some ⟨b, off + x.1 * Wd, none⟩) Wd Wd] W fun e W' =>
      (e = .returned (.bool true) ∧ J (pre ++ [x]) W' ∧ KpC Bs Bn W W') ∨ (e = .returned (.bool false) ∧ Jx (pre ++ [x]) W'))
    (W : World) (hBs : W.cell? ⟨Bs, 0, none⟩ = some (.slice (some ⟨b, off, none⟩) len cap)) (hBn : W.cell? ⟨Bn, 0, none⟩ = some (.int .i64 Wd)) (hcap : len ≤ cap) (hJd : ∀ s A, J s A → J s A.drew) (h0 : J [] W) :
    CallsIn Fence.wide n Tryd.prog 87 #[.func (.yield l) #[] #[], .pointer (some ⟨Bs, 0, none⟩), .pointer (some ⟨Bn, 0, none⟩)] W fun e W' => (∃ v, e = .returned v) ∧
      ((∃ ys : List (CX H), ys.map (fun x => x.1) = List.range H ∧ J ys W') ∨ (∃ pre : List (CX H), (∃ m, m ≤ H ∧ pre.map (fun x => x.1) = List.range m) ∧ Jx pre W')) := by
  refine callsIn_of_wp Tryd.func87 rfl trivial ?_ rfl
  simp only [Tryd.ntmps87, List.size_toArray, List.length_cons, List.length_nil, Nat.reduceAdd, Nat.reduceSub, Array.replicate_succ, Array.replicate_zero, List.push_toArray, List.append_toArray, List.nil_append, List.cons_append]
  gi_wp2
  gi_loopw [4] (fun i wr => ∃ (r P : Nat) (pre : List (CX H)), r ≤ H ∧ P = r * Wd ∧ i = .int .i64 P ∧ pre.map (fun x => x.1) = List.range r ∧ J pre wr ∧ wr.cell? ⟨Bs, 0, none⟩ = some (.slice (some ⟨b, off, none⟩) len cap) ∧ wr.cell? ⟨Bn, 0, none⟩ = some (.int .i64 Wd))
    (fun i _ => len + 1 - natC i)
  case atStart => exact ⟨0, 0, [], Nat.zero_le _, (Nat.zero_mul _).symm, rfl, rfl, h0, hBs, hBn⟩
  case round =>
    obtain ⟨r, P, pre, hr, hP, rfl, hp, hJs, hs, hm⟩ := hrel
    have hpl : pre.length = r := by rw [← List.length_map (f := fun x : CX H => x.1), hp, List.length_range]
    by_cases hlt : r < H
    · have hPW : P + Wd ≤ len := by
        rw [hP, hlen, ← Nat.succ_mul]
        exact Nat.mul_le_mul_right _ hlt
      have hPL : P < len := by omega
      obtain ⟨fn, tmps, assign, body, hy, hR⟩ := hY pre ⟨r, hlt⟩ wr.drew (hJd _ _ hJs) (by omega)
      dsimp only at hy
      rw [← hP] at hy
      have HP := hidI hP
      have HL := hidI hlen
      have hcd : decide ((P : Int) < (len : Int)) = true := decide_eq_true (by omega)
      clear hP hlen
      gi_wp2
      refine O_beginC OpenF.wide (fun w' => w'.cell? ⟨Bs, 0, none⟩ = some (.slice (some ⟨b, off, none⟩) len cap) ∧ w'.cell? ⟨Bn, 0, none⟩ = some (.int .i64 Wd)) 6 7 #[false, false, false, false, false, false, false] rfl rfl (by kernel_rfl) rfl ?_
      have hG : (fun w' : World => w'.cell? ⟨Bs, 0, none⟩ = some (.slice (some ⟨b, off, none⟩) len cap) ∧ w'.cell? ⟨Bn, 0, none⟩ = some (.int .i64 Wd)) wr.drew := ⟨hs, hm⟩
      skip
      refine F_take (v := .int .i64 Wd) 0 #[true, false, false, false, false, false, false] rfl (by kernel_rfl) (fun _ _ _ h => h) rfl (fun w hF => e_load 3 (.tmp 2) _ _ rfl (Tryd.isAgg3 _) hF.2) (hG) ?_; simp only [Act.put, List.setIfInBounds_toArray, List.set_cons_succ, List.set_cons_zero]
      refine F_take (v := .slice (some ⟨b, off, Option.none⟩) len cap) 1 #[true, true, false, false, false, false, false] rfl (by kernel_rfl) (fun _ _ _ h => h) rfl (fun w hF => e_load 34 (.tmp 1) _ _ rfl (Tryd.isAgg34 _) hF.1) (hG) ?_; simp only [Act.put, List.setIfInBounds_toArray, List.set_cons_succ, List.set_cons_zero]
      refine F_free (v := .int .i64 P) 2 #[true, true, true, false, false, false, false] rfl (by kernel_rfl) (fun _ _ _ h => h) rfl (fun _ => rfl) (hG) ?_; simp only [Act.put, List.setIfInBounds_toArray, List.set_cons_succ, List.set_cons_zero]
      refine F_free (v := .slice (some ⟨b, off + P, Option.none⟩) (len - P) (cap - P)) 3 #[true, true, true, true, false, false, false] rfl (by kernel_rfl) (fun _ _ _ h => h) rfl (fun _ => e_slL _ _ _ _ _ rfl rfl (Tryd.csl1 b off len cap P hPL hcap _)) (hG) ?_; simp only [Act.put, List.setIfInBounds_toArray, List.set_cons_succ, List.set_cons_zero]
      refine F_free (v := .int .i64 (len - P : Nat)) 4 #[true, true, true, true, true, false, false] rfl (by kernel_rfl) (fun _ _ _ h => h) rfl (fun _ => e_lenK _ _ _ _ _ _ rfl Tryd.underlying34) (hG) ?_; simp only [Act.put, List.setIfInBounds_toArray, List.set_cons_succ, List.set_cons_zero]
      refine F_free (v := .int .i64 Wd) 5 #[true, true, true, true, true, true, false] rfl (by kernel_rfl) (fun _ _ _ h => h) rfl (fun _ => e_minK _ _ _ _ Wd (len - P) (by omega) rfl rfl) (hG) ?_; simp only [Act.put, List.setIfInBounds_toArray, List.set_cons_succ, List.set_cons_zero]
      refine F_one 6 #[true, true, true, true, true, true, true] rfl (by kernel_rfl) ?_
      refine r_val (.int .i64 Wd) rfl rfl ?_
      refine ⟨fun h => (by cases h), ?_⟩
      simp only [Act.put, List.setIfInBounds_toArray, List.set_cons_succ, List.set_cons_zero]
      refine F_done (by kernel_rfl) ?_
      have hs : wr.drew.cell? ⟨Bs, 0, none⟩ = some (.slice (some ⟨b, off, none⟩) len cap) := hs
      have hm : wr.drew.cell? ⟨Bn, 0, none⟩ = some (.int .i64 Wd) := hm
      have hsl := fun w => Tryd.csl3 b off len cap P (P + Wd) (by omega) hPW hcap w
      rw [show P + Wd - P = Wd by omega] at hsl
      simp only [Int.natCast_add] at hsl
      have hov : P + Wd ≤ 1073741824 := by omega
      dsimp only [Calm]
      gi_wp2
      refine hR.mono ?_
      have HPN := hidI (show P + Wd = (r + 1) * Wd from by rw [Nat.succ_mul, HP.out])
      rintro e W3 (⟨rfl, hJ3, hk3⟩ | ⟨rfl, hJx3⟩)
      · have hs3 := hk3.1 _ hs
        have hm3 := hk3.2 _ hm
        gi_wp2
        go_roundw
        case rel => exact ⟨r + 1, P + Wd, _, hlt, HPN.out, by go_num, by rw [List.map_append, hp, range_snoc]; rfl, hJ3, hs3, hm3⟩
        case measure => simp [natC]; omega
      · gi_wp2
        refine bodyPost_ret (results_none rfl _ _ _) rfl ?_
        exact ⟨⟨_, rfl⟩, .inr ⟨_, ⟨r + 1, hlt, by rw [List.map_append, hp, range_snoc]; rfl⟩, hJx3⟩⟩
    · obtain rfl : r = H := by omega
      have hPl : P = len := by rw [hP, hlen]
      gi_wp2
      go_end0
      exact ⟨⟨_, rfl⟩, .inl ⟨pre, hp, hJs⟩⟩
theorem Tryd.chk_any (a : Option Addr) (len cap Wd : Nat) (hW : 1 ≤ Wd) (w : World) :
    Calls Tryd.prog 51 #[.slice a len cap, .int .i64 Wd] w fun e w' => e = .returned (.func (.func 87) #[] #[.pointer (some ⟨w.heap.size, 0, none⟩), .pointer (some ⟨w.heap.size + 1, 0, none⟩)]) ∧ w' = (w.alloc (.cells #[.slice a len cap] 34)).alloc (.cells #[.int .i64 Wd] 3) := by
  go_enter Tryd.func51, Tryd.ntmps51
  go_wp2
  go_ret
  exact ⟨rfl, rfl⟩
theorem Tryd.chk_stops (n : Nat) (hn : 1 ≤ n) (Bs Bn b off cap Wd H len : Nat) (hW : 1 ≤ Wd) (hlen : len = H * Wd) (hreach : len * 8 ≤ 1073741824) (hcap : len ≤ cap) (w : World) (hBs : Bs < w.heap.size) (hBn : Bn < w.heap.size)
    (hc : w.cell? ⟨Bs, 0, none⟩ = some (.slice (some ⟨b, off, none⟩) len cap)) (hm : w.cell? ⟨Bn, 0, none⟩ = some (.int .i64 Wd)) :
    SeqStopsK Fence.wide n Tryd.prog 87 #[.pointer (some ⟨Bs, 0, none⟩), .pointer (some ⟨Bn, 0, none⟩)] (fun x : CX H => #[Value.slice (some ⟨b, off + x.1 * Wd, none⟩) Wd Wd]) (KpC Bs Bn) (fun ys => ys.map (fun x => x.1) = List.range H)
      (fun pre => ∃ m, m ≤ H ∧ pre.map (fun x => x.1) = List.range m) H w := fun l J Jx W hW' hJ _ hY h0 =>
  Tryd.chk1_in n hn l Bs Bn b off cap Wd H len hW hlen hreach J Jx hY W ((hW'.cell (p := ⟨Bs, 0, none⟩) hBs).trans hc) ((hW'.cell (p := ⟨Bn, 0, none⟩) hBn).trans hm) hcap
    (fun s A h => hJ s A A.drew none h ⟨rfl, rfl, rfl, Nat.le_refl _, fun _ _ _ => rfl⟩ (fun r e => by cases e)) h0
end Go.Proofs.YtdebiobhmpoiiaaDoor
