/-
  The text of a board as plain mathematics: numbers joined to rows, rows joined; and the same text cell by cell.
  The text of a board in the program: numbers joined.
  slices.Chunk over ints: a row's pieces of one length, from the first on; a round keeps the two header cells.
  The text of a board in the program: the range over slices.Chunk.
-/
import Derived.Test.YtpdmfbhjneodeaaDoorBLs
import Derived.Lib.Join
import Derived.Test.YtpdmfbhjneodeaaDoorListsT
import Derived.Test.YtpdmfbhjneodeaaDoorBBa
import Derived.Lib.AtoiAllCases
import Derived.RangeFuncNested
import Derived.RangeFuncBound
import Derived.RangeFuncCalls
import Derived.RangeFuncLeaves
import Derived.Shelf.Abstract
import Derived.Shelf.RegionOpen
import Derived.WalkKit
import Derived.OwnWalkIn
import Derived.TacticsInMore
import Derived.LoopNIn
import Derived.LoopIn
import Derived.Test.YtpdmfbhjneodeaaDoorProg
import Derived.Test.YtpdmfbhjneodeaaDoorBKit
import Derived.Test.YtpdmfbhjneodeaaDoorLiftW
import Derived.Test.YtpdmfbhjneodeaaDoorBBb
import Derived.Test.YtpdmfbhjneodeaaDoorOps
import Derived.RangeFuncWrites
namespace Go.Proofs.YtpdmfbhjneodeaaDoor
open Go.RowKit
def dgt (x : Int) : UInt8 := UInt8.ofNat (48 + x.toNat)
def nmsT (L : List Int) (o n : Nat) : List (List UInt8) := (List.range n).map fun j => [dgt (gi L (o + j))]
def rowT (L : List Int) (o n : Nat) : List UInt8 := Lib.join (nmsT L o n) [44]
def rowsT (L : List Int) (W k : Nat) : List (List UInt8) := (List.range k).map fun r => rowT L (r * W) W
def brdT (L : List Int) (W H : Nat) : List UInt8 := Lib.join (rowsT L W H) [47]
def sepT (W m : Nat) : List UInt8 := if m = 0 then [] else if m % W = 0 then [47] else [44]
def mtT (L : List Int) (W : Nat) : Nat → List UInt8
  | 0 => []
  | m + 1 => mtT L W m ++ (sepT W m ++ [dgt (gi L m)])
theorem jo_snoc (M : List (List UInt8)) (y sep : List UInt8) : Lib.join (M ++ [y]) sep = if M = [] then y else Lib.join M sep ++ (sep ++ y) := by
  cases M with
  | nil => rw [if_pos rfl, List.nil_append, Lib.join_one]
  | cons x r =>
    rw [if_neg (by simp), List.cons_append, Lib.join_cons, Lib.join_cons]
    unfold Lib.joinTail
    simp
theorem nmsT_length (L : List Int) (o n : Nat) : (nmsT L o n).length = n := by simp [nmsT]
theorem rowsT_length (L : List Int) (W k : Nat) : (rowsT L W k).length = k := by simp [rowsT]
theorem nmsT_succ (L : List Int) (o n : Nat) : nmsT L o (n + 1) = nmsT L o n ++ [[dgt (gi L (o + n))]] := by unfold nmsT; rw [List.range_succ, List.map_append]; rfl
theorem rowsT_succ (L : List Int) (W k : Nat) : rowsT L W (k + 1) = rowsT L W k ++ [rowT L (k * W) W] := by unfold rowsT; rw [List.range_succ, List.map_append]; rfl
theorem nil_iff {α : Type} {M : List α} {n : Nat} (h : M.length = n) : M = [] ↔ n = 0 := by rw [← h, List.length_eq_zero_iff]
theorem rowT_succ (L : List Int) (o n : Nat) : rowT L o (n + 1) = if n = 0 then [dgt (gi L o)] else rowT L o n ++ ([44] ++ [dgt (gi L (o + n))]) := by
  unfold rowT
  rw [nmsT_succ, jo_snoc]
  by_cases h : n = 0
  · subst h; rw [if_pos ((nil_iff (nmsT_length L o 0)).2 rfl), if_pos rfl]; rfl
  · rw [if_neg (fun e => h ((nil_iff (nmsT_length L o n)).1 e)), if_neg h]
theorem mtT_row (L : List Int) (W r : Nat) : ∀ j, j ≤ W → mtT L W (r * W + j) = mtT L W (r * W) ++ (if j = 0 then [] else (if r = 0 then [] else [47]) ++ rowT L (r * W) j)
  | 0, _ => by simp
  | j + 1, h => by
    have ih := mtT_row L W r j (by omega)
    rw [← Nat.add_assoc, mtT, ih, if_neg (by omega : ¬ j + 1 = 0), rowT_succ]
    by_cases h0 : j = 0
    · subst h0
      rw [if_pos rfl, if_pos rfl]
      unfold sepT
      by_cases hr : r = 0
      · subst hr; simp
      · have : ¬ r * W = 0 := by
          intro e
          rcases Nat.mul_eq_zero.1 e with e | e <;> omega
        rw [if_neg hr, Nat.add_zero, if_neg this, if_pos (Nat.mul_mod_left r W)]
        simp
    · rw [if_neg h0, if_neg h0]
      have hs : sepT W (r * W + j) = [44] := by
        unfold sepT
        rw [if_neg (by omega), if_neg]
        rw [Nat.mul_comm, Nat.mul_add_mod, Nat.mod_eq_of_lt (by omega)]
        exact h0
      rw [hs]
      simp
theorem mtT_rows (L : List Int) {W : Nat} (hW : 1 ≤ W) : ∀ k, mtT L W (k * W) = Lib.join (rowsT L W k) [47]
  | 0 => by rw [Nat.zero_mul]; rfl
  | k + 1 => by
    rw [Nat.succ_mul, mtT_row L W k W (Nat.le_refl _), if_neg (by omega), rowsT_succ, jo_snoc, mtT_rows L hW k]
    by_cases h : k = 0
    · subst h; rw [if_pos rfl, if_pos ((nil_iff (rowsT_length L W 0)).2 rfl)]; rfl
    · rw [if_neg h, if_neg (fun e => h ((nil_iff (rowsT_length L W k)).1 e))]
theorem lens_le {B : Nat} : ∀ (M : List (List UInt8)), (∀ x ∈ M, x.length ≤ B) → Lib.lens M ≤ M.length * B
  | [], _ => Nat.zero_le _
  | x :: r, h => by
    have ih := lens_le r (fun y hy => h y (List.mem_cons_of_mem _ hy))
    have h1 := h x List.mem_cons_self
    unfold Lib.lens at ih ⊢
    rw [List.map_cons, List.sum_cons, List.length_cons, Nat.succ_mul]
    omega
theorem join_le {B : Nat} (M : List (List UInt8)) (s : UInt8) (h : ∀ x ∈ M, x.length ≤ B) : (Lib.join M [s]).length ≤ M.length * (B + 1) := by
  cases M with
  | nil => exact Nat.zero_le _
  | cons x r =>
    rw [Lib.join_cons, List.length_append, Lib.joinTail_length]
    have h1 := lens_le r (fun y hy => h y (List.mem_cons_of_mem _ hy))
    have h2 := h x List.mem_cons_self
    have e : (r.length + 1) * (B + 1) = r.length * B + r.length + (B + 1) := by rw [Nat.succ_mul, Nat.mul_succ]
    rw [show (x :: r).length = r.length + 1 from rfl, e]
    simp only [List.length_cons, List.length_nil]
    omega
theorem rowT_le (L : List Int) (o n : Nat) : (rowT L o n).length ≤ n * 2 := by
  have := join_le (B := 1) (nmsT L o n) 44 (fun x hx => by
    unfold nmsT at hx
    obtain ⟨j, _, rfl⟩ := List.mem_map.1 hx
    exact Nat.le_refl _)
  rwa [nmsT_length] at this
theorem brdT_le (L : List Int) (W k : Nat) : (brdT L W k).length ≤ k * (W * 2 + 1) := by
  have := join_le (B := W * 2) (rowsT L W k) 47 (fun x hx => by
    unfold rowsT at hx
    obtain ⟨j, _, rfl⟩ := List.mem_map.1 hx
    exact rowT_le L _ _)
  rwa [rowsT_length] at this
end Go.Proofs.YtpdmfbhjneodeaaDoor
namespace Go.Proofs.YtpdmfbhjneodeaaDoor
open Go.RowKit
def natB : Value → Nat
  | .int _ n => n.toNat
  | _ => 0
theorem e_idxB {P : Program} {w : World} {a : Act} {dst : Option Tmp} {ty T : TypeId} {pos : String} {aft : Array Edge} {gd : Option (Nat × Bool)} (x y : Operand) (v i u : Value) (hx : a.eval x = v) (hy : a.eval y = i) (hr : (Instr.indexAt T v i).run P w = .ok u w) :
    (execOp a.eval ⟨dst, .indexAddr T x y, ty, pos, aft, gd⟩).run P w = .ok (.value u) w := by
  unfold execOp
  simp only [hx, hy, Sem.run_bind, hr, Result.andThen_ok, Sem.run_pure]
theorem own_slB {w : World} {base n : Nat} {e : TypeId} {v : Value} {xs : List Value} (h : w.ownsRow base e 1 v n xs) : ∃ p k, v = .slice p n k := by
  obtain ⟨p, m, k, rfl⟩ := own_slice h
  obtain rfl : m = n := own_len h
  exact ⟨p, k, rfl⟩
/-- Texts that are owned, joined. -/
theorem joinRow_any (M : List (List UInt8)) (s : UInt8) (v : Value) (base : Nat) (w : World) (hown : w.ownsRow base 9 1 v M.length (strV M)) (h0 : 0 < M.length) (hl : (Lib.join M [s]).length ≤ 1048576) (hm : M.length ≤ 1048576) :
    Calls Tryd.prog 35 #[v, .string ⟨#[s]⟩] w (Ret (.string ⟨(Lib.join M [s]).toArray⟩) w) := by
  obtain ⟨G, cap, rfl, hb, hc⟩ := own_shape hown h0
  have e : (M.map fun l => (⟨l.toArray⟩ : ByteArray)).map (·.data.toList) = M := by
    rw [List.map_map]
    conv => rhs; rw [← List.map_id M]
    exact List.map_congr_left fun l _ => by simp
  have h := Tryd.strings_Join G 0 cap (M.map fun l => (⟨l.toArray⟩ : ByteArray)) ⟨#[s]⟩ w (fun j x hj => by
    rw [List.getElem?_map] at hj
    have hjl : j < M.length := by
      rcases Nat.lt_or_ge j M.length with h | h
      · exact h
      · rw [List.getElem?_eq_none h] at hj; cases hj
    rw [List.getElem?_eq_getElem hjl] at hj
    have hx : (⟨(M[j]).toArray⟩ : ByteArray) = x := Option.some.inj hj
    rw [Nat.zero_add]
    refine own_val hown j _ hjl ?_
    rw [strV_get M j hjl, ← hx]
    unfold tx ts
    rw [List.getD_eq_getElem?_getD, List.getElem?_eq_getElem hjl]
    rfl) (hown.lt G rfl).2 (by rw [List.length_map]; omega) (by rw [List.length_map]; omega) (by rw [e]; show (Lib.join M [s]).length ≤ _; omega)
  rw [e, List.length_map] at h
  exact h
theorem Tryd.nix (b off n cap k : Nat) (hk : k < n) (w : World) : (Instr.indexAt 28 (.slice (some ⟨b, off, none⟩) n cap) (.int .i64 k)).run Tryd.prog w = .ok (.pointer (some ⟨b, off + k, none⟩)) w := by
  have hu : Tryd.prog.underlying 28 = some (.slice (Tryd.prog.elem 28)) := by kernel_rfl
  have he : Tryd.prog.elem 28 = 3 := by kernel_rfl
  have hs : (sizeOf 3).run Tryd.prog w = .ok 1 w := by kernel_rfl
  rw [run_indexAt_slice w 28 ⟨b, off, none⟩ n cap .i64 k hu, if_pos (by omega), he]
  simp [hs, Result.andThen, Addr.add]
theorem Tryd.strIN : ElemInfo Tryd.prog 35 9 (.string ⟨#[]⟩) 1 16 := ⟨Tryd.underlying35, by kernel_rfl, rfl, by decide⟩
theorem Tryd.bstrN (s : ByteArray) (w : World) : (Instr.buildSlice 35 1 #[(0, .string s)]).run Tryd.prog w = .ok (.slice (some ⟨w.heap.size, 0, none⟩) 1 1) (w.alloc (.cells #[.string s] 9)) := by kernel_rfl
set_option maxHeartbeats 1000000 in
set_option maxRecDepth 100000 in
theorem numbersText_any (L : List Int) (b off o n cap : Nat) (w : World) (hn : 1 ≤ n) (hn9 : n ≤ 9) (hc : ∀ j, j < n → w.cell? ⟨b, off + j, none⟩ = some (.int .i64 (gi L (o + j)))) (hd : ∀ j, j < n → 0 ≤ gi L (o + j) ∧ gi L (o + j) < 10) :
    Calls Tryd.prog 44 #[.slice (some ⟨b, off, none⟩) n cap] w (Ret (.string ⟨(rowT L o n).toArray⟩) w) := by
  have gg := Gr.refl w
  have HC := hidI hc
  have HD := hidI hd
  have HIT := hidI (fun (k : Nat) (hk : k < 10) w' => show Calls Tryd.prog 37 #[.int .i64 k] w' (fun e w'' => e = .returned (.string ⟨#[UInt8.ofNat (48 + k)]⟩) ∧ w'' = w') from by
    have := Tryd.strconv_Itoa_small k (by omega) w'
    rwa [Lib.decDigits_one hk] at this)
  have own0 : w.ownsRow w.heap.size 9 1 (.slice none 0 0) ([] : List (List UInt8)).length (strV []) := World.ownsRow_nil _ _ _ _
  have HJ := hidI (fun (w' : World) (v : Value) (ho : w'.ownsRow w.heap.size 9 1 v n (strV (nmsT L o n))) => show Calls Tryd.prog 35 #[v, .string ⟨#[44]⟩] w' (Ret (.string ⟨(rowT L o n).toArray⟩) w') from
    joinRow_any (nmsT L o n) 44 v w.heap.size w' (by rw [nmsT_length]; exact ho) (by rw [nmsT_length]; exact hn) (by have := rowT_le L o n; unfold rowT at this; omega) (by rw [nmsT_length]; omega))
  clear hc hd
  go_enter Tryd.func44, Tryd.ntmps44
  go_wp2
  go_loopw [3, 8] (fun ov iv wr => ∃ k : Nat, iv = .int .i64 k ∧ k ≤ n ∧ wr.ownsRow w.heap.size 9 1 ov k (strV (nmsT L o k)) ∧ Gr w wr) (fun _ iv _ => n - natB iv)
  case atStart => exact ⟨0, rfl, Nat.zero_le _, own0, gg⟩
  case round =>
    clear own0 gg
    obtain ⟨k, rfl, hk, own, gg⟩ := hrel
    have zr := gg.size
    by_cases hlt : k < n
    · have hix := Tryd.nix b off n cap k hlt
      have hcl := gg.cell (HC.out k hlt)
      obtain ⟨d0, d1⟩ := HD.out k hlt
      obtain ⟨x, hx⟩ : ∃ x : Nat, gi L (o + k) = (x : Int) := ⟨(gi L (o + k)).toNat, by omega⟩
      obtain ⟨c, hcc⟩ : ∃ c, c = UInt8.ofNat (48 + x) := ⟨_, rfl⟩
      have HA := hidI (HIT.out x (by omega))
      rw [← hcc] at HA
      have HS := hidI (show strV (nmsT L o k) ++ [.string ⟨#[c]⟩] = strV (nmsT L o (k + 1)) from by
        rw [nmsT_succ, ← strV_append]
        unfold dgt
        rw [hx, Int.toNat_natCast, hcc]
        rfl)
      rw [hx] at hcl
      clear d0 d1 hx hcc
      go_wp2_with (first | (refine r_idx 28 _ _ (.slice (some ⟨b, off, none⟩) n cap) (.int .i64 k) _ rfl rfl (hix _) rfl ?_) | (refine r_ldc 3 _ ⟨b, off + k, none⟩ (.int .i64 x) rfl (Tryd.isAgg3 _) hcl rfl ?_) | (go_at_call 37; refine (HA.out _).mono ?_; rintro e w6 ⟨rfl, rfl⟩) | (refine r_slice1 35 9 (.tmp 14) (.string ⟨#[c]⟩) rfl (Tryd.bstrN _ _) rfl ?_; intro w3 B3 N3; have g3 := N3.gr; have own := g3.row own; have gg := gg.trans g3; have z3 := g3.size) | (refine r_append (.tmp 12) (.tmp 15) 35 9 _ 1 16 w.heap.size Tryd.strIN _ k (strV (nmsT L o k)) rfl own ⟨B3, 0, none⟩ 1 1 [.string ⟨#[c]⟩] rfl rfl N3.cell1 (by intro u hu; simp at hu; subst hu; rfl) (by omega) (by decide) (by omega) rfl ?_; intro v4 w4 own4 g4))
      rw [HS.out] at own4
      go_roundw
      case rel => exact ⟨k + 1, by go_num, hlt, own4, g4.gr gg (own_gr own (Nat.le_refl _))⟩
      case measure => simp [natB]; omega
    · obtain rfl : k = n := by omega
      clear hlt
      go_wp2_with (go_at_call 35; refine (HJ.out _ _ own).mono ?_; rintro e w6 ⟨rfl, g6⟩; have gg := gg.trans g6)
      go_ret
      exact ⟨rfl, gg⟩
end Go.Proofs.YtpdmfbhjneodeaaDoor
namespace Go.Proofs.YtpdmfbhjneodeaaDoor
open Go.RowKit Go.Shelf
attribute [local go_sem] Oper.semAt_some
/-- What comes from the iterator: a number of a piece. -/
abbrev CX (H : Nat) := { i : Nat // i < H }
def natC : Value → Nat
  | .int _ n => n.toNat
  | _ => 0
/-- What a round that goes on keeps: the two header cells. -/
def KpC (Bs Bn : Nat) (A B : World) : Prop := (∀ c, A.cell? ⟨Bs, 0, none⟩ = some c → B.cell? ⟨Bs, 0, none⟩ = some c) ∧ (∀ c, A.cell? ⟨Bn, 0, none⟩ = some c → B.cell? ⟨Bn, 0, none⟩ = some c)
theorem kpC_t {Bs Bn : Nat} {A B C : World} (h : KpC Bs Bn A B) (k : KpC Bs Bn B C) : KpC Bs Bn A C := ⟨fun c hc => k.1 c (h.1 c hc), fun c hc => k.2 c (h.2 c hc)⟩
theorem kpC_b {Bs Bn : Nat} (W : World) (l : Nat) (o o' : Obj) (h : W.heap[l]? = some o) (hc : o.isCells = false) : KpC Bs Bn W (W.putObj l o') := by
  have hk : ∀ (p : Addr) (c : Value), W.cell? p = some c → (W.putObj l o').cell? p = some c := fun p c hp => cell_kept hp (grownBy_putObj' W l o') (fun r e => by cases e; exact ⟨o, h, hc⟩)
  exact ⟨fun c h' => hk _ c h', fun c h' => hk _ c h'⟩
theorem range_snoc (r : Nat) : List.range (r + 1) = List.range r ++ [r] := List.range_succ
section
variable {P : Program} {w : World} {a : Act} {dst : Option Tmp} {ty : TypeId} {pos : String} {aft : Array Edge} {gd : Option (Nat × Bool)}
theorem e_slL {T : TypeId} (x lo : Operand) (v l r : Value) (hx : a.eval x = v) (hl : a.eval lo = l) (hr : (Instr.sliceAt T v (some l) none none).run P w = .ok r w) :
    (execOp a.eval ⟨dst, .slice T x (some lo) none none, ty, pos, aft, gd⟩).run P w = .ok (.value r) w := by
  unfold execOp
  simp only [Option.map_some, Option.map_none, hx, hl, Sem.run_bind, hr, Result.andThen_ok, Sem.run_pure]
theorem e_lenK (T e : TypeId) (x : Operand) (A : Option Addr) (n c : Nat) (hx : a.eval x = .slice A n c) (hu : P.underlying T = some (.slice e)) :
    (execOp a.eval ⟨dst, .call { callee := .builtin .len, args := #[x], argTypes := #[T] }, ty, pos, aft, gd⟩).run P w = .ok (.value (.int .i64 n)) w := by
  have he : P.elem T = e := by unfold Program.elem; simp [hu]
  unfold execOp
  simp only [resolve, invoke, builtin, Sem.run_bind, Sem.run_pure, Result.andThen_ok, List.map_toArray, List.map_cons, List.map_nil, hx, run_len_slice (P := P) w T ty A n c (by rw [he]; exact hu)]
  rfl
theorem run_minK (T T' ty : TypeId) (m n : Nat) (h : m ≤ n) : (Builtin.min_ #[T, T'] ty #[.int .i64 m, .int .i64 n]).run P w = .ok (.int .i64 m) w := by
  unfold Builtin.min_
  simp only [List.foldlM_cons, List.foldlM_nil, Builtin.min2, Sem.run_bind, Sem.run_pure, Result.andThen_ok]
  rw [if_neg (by omega)]
theorem e_minK (T T' : TypeId) (x y : Operand) (m n : Nat) (h : m ≤ n) (hx : a.eval x = .int .i64 m) (hy : a.eval y = .int .i64 n) :
    (execOp a.eval ⟨dst, .call { callee := .builtin .min, args := #[x, y], argTypes := #[T, T'] }, ty, pos, aft, gd⟩).run P w = .ok (.value (.int .i64 m)) w := by
  unfold execOp
  simp only [resolve, invoke, builtin, Sem.run_bind, Sem.run_pure, Result.andThen_ok, List.map_toArray, List.map_cons, List.map_nil, hx, hy, run_minK T T' ty m n h]
end
theorem Tryd.cslT : Tryd.prog.underlying 28 = some (.slice (Tryd.prog.elem 28)) := by kernel_rfl
theorem Tryd.cslE : Tryd.prog.elem 28 = 3 := by kernel_rfl
theorem Tryd.csl1 (b off len cap p : Nat) (h : p < len) (hc : len ≤ cap) (w : World) : (Instr.sliceAt 28 (.slice (some ⟨b, off, none⟩) len cap) (some (.int .i64 p)) none none).run Tryd.prog w = .ok (.slice (some ⟨b, off + p, none⟩) (len - p) (cap - p)) w := by
  have hs : (sizeOf 3).run Tryd.prog w = .ok 1 w := by kernel_rfl
  rw [run_sliceAt_slice w 28 _ _ _ _ Tryd.cslT, run_slice_l w 28 _ _ _ Tryd.cslT .i64 p (by omega) (by omega), Tryd.cslE]
  simp [hs, Result.andThen, sliced, Addr.add, show ¬ cap = p by omega]
theorem Tryd.csl3 (b off len cap p q : Nat) (h0 : p < q) (h : q ≤ len) (hc : len ≤ cap) (w : World) : (Instr.sliceAt 28 (.slice (some ⟨b, off, none⟩) len cap) (some (.int .i64 p)) (some (.int .i64 q)) (some (.int .i64 q))).run Tryd.prog w = .ok (.slice (some ⟨b, off + p, none⟩) (q - p) (q - p)) w := by
  have hs : (sizeOf 3).run Tryd.prog w = .ok 1 w := by kernel_rfl
  rw [run_sliceAt_slice w 28 _ _ _ _ Tryd.cslT, run_slice_lhm w 28 _ _ _ Tryd.cslT .i64 .i64 .i64 p q q (by omega) (by omega) (by omega) (by omega), Tryd.cslE]
  simp [hs, Result.andThen, sliced, Addr.add, show ¬ q = p by omega]
set_option maxRecDepth 100000 in
set_option maxHeartbeats 2000000 in
theorem Tryd.chk1_in (n : Nat) (hn : 1 ≤ n) (l Bs Bn b off cap Wd H len : Nat) (hW : 1 ≤ Wd) (hlen : len = H * Wd) (hreach : len * 8 ≤ 1073741824) (J Jx : List (CX H) → World → Prop)
    (hY : ∀ pre x W, J pre W → pre.length < H → YieldAt Fence.wide (n - 1) Tryd.prog l #[.slice (some ⟨b, off + x.1 * Wd, none⟩) Wd Wd] W fun e W' =>
      (e = .returned (.bool true) ∧ J (pre ++ [x]) W' ∧ KpC Bs Bn W W') ∨ (e = .returned (.bool false) ∧ Jx (pre ++ [x]) W'))
    (W : World) (hBs : W.cell? ⟨Bs, 0, none⟩ = some (.slice (some ⟨b, off, none⟩) len cap)) (hBn : W.cell? ⟨Bn, 0, none⟩ = some (.int .i64 Wd)) (hcap : len ≤ cap) (hJd : ∀ s A, J s A → J s A.drew) (h0 : J [] W) :
    CallsIn Fence.wide n Tryd.prog 68 #[.func (.yield l) #[] #[], .pointer (some ⟨Bs, 0, none⟩), .pointer (some ⟨Bn, 0, none⟩)] W fun e W' => (∃ v, e = .returned v) ∧
      ((∃ ys : List (CX H), ys.map (fun x => x.1) = List.range H ∧ J ys W') ∨ (∃ pre : List (CX H), (∃ m, m ≤ H ∧ pre.map (fun x => x.1) = List.range m) ∧ Jx pre W')) := by
  refine callsIn_of_wp Tryd.func68 rfl trivial ?_ rfl
  simp only [Tryd.ntmps68, List.size_toArray, List.length_cons, List.length_nil, Nat.reduceAdd, Nat.reduceSub, Array.replicate_succ, Array.replicate_zero, List.push_toArray, List.append_toArray, List.nil_append, List.cons_append]
  gi_wp2
  gi_loopw [4] (fun i wr => ∃ (r P : Nat) (pre : List (CX H)), r ≤ H ∧ P = r * Wd ∧ i = .int .i64 P ∧ pre.map (fun x => x.1) = List.range r ∧ J pre wr ∧ wr.cell? ⟨Bs, 0, none⟩ = some (.slice (some ⟨b, off, none⟩) len cap) ∧ wr.cell? ⟨Bn, 0, none⟩ = some (.int .i64 Wd))
    (fun i _ => len + 1 - natC i)
  case atStart => exact ⟨0, 0, [], Nat.zero_le _, (Nat.zero_mul _).symm, rfl, rfl, h0, hBs, hBn⟩
  case round =>
    obtain ⟨r, P, pre, hr, hP, rfl, hp, hJs, hs, hm⟩ := hrel
    have hpl : pre.length = r := by rw [← List.length_map (f := fun x : CX H => x.1), hp, List.length_range]
    by_cases hlt : r < H
    · have hPW : P + Wd ≤ len := by
        rw [hP, hlen, ← Nat.succ_mul]
        exact Nat.mul_le_mul_right _ hlt
      have hPL : P < len := by omega
      obtain ⟨fn, tmps, assign, body, hy, hR⟩ := hY pre ⟨r, hlt⟩ wr.drew (hJd _ _ hJs) (by omega)
      dsimp only at hy
      rw [← hP] at hy
      have HP := hidI hP
      have HL := hidI hlen
      have hcd : decide ((P : Int) < (len : Int)) = true := decide_eq_true (by omega)
      clear hP hlen
      gi_wp2
      refine O_beginC OpenF.wide (fun w' => w'.cell? ⟨Bs, 0, none⟩ = some (.slice (some ⟨b, off, none⟩) len cap) ∧ w'.cell? ⟨Bn, 0, none⟩ = some (.int .i64 Wd)) 6 7 #[false, false, false, false, false, false, false] rfl rfl (by kernel_rfl) rfl ?_
      have hG : (fun w' : World => w'.cell? ⟨Bs, 0, none⟩ = some (.slice (some ⟨b, off, none⟩) len cap) ∧ w'.cell? ⟨Bn, 0, none⟩ = some (.int .i64 Wd)) wr.drew := ⟨hs, hm⟩
      skip
      refine F_take (v := .int .i64 Wd) 0 #[true, false, false, false, false, false, false] rfl (by kernel_rfl) (fun _ _ _ h => h) rfl (fun w hF => e_load 3 (.tmp 2) _ _ rfl (Tryd.isAgg3 _) hF.2) (hG) ?_; simp only [Act.put, List.setIfInBounds_toArray, List.set_cons_succ, List.set_cons_zero]
      refine F_take (v := .slice (some ⟨b, off, Option.none⟩) len cap) 1 #[true, true, false, false, false, false, false] rfl (by kernel_rfl) (fun _ _ _ h => h) rfl (fun w hF => e_load 28 (.tmp 1) _ _ rfl (Tryd.isAgg28 _) hF.1) (hG) ?_; simp only [Act.put, List.setIfInBounds_toArray, List.set_cons_succ, List.set_cons_zero]
      refine F_free (v := .int .i64 P) 2 #[true, true, true, false, false, false, false] rfl (by kernel_rfl) (fun _ _ _ h => h) rfl (fun _ => rfl) (hG) ?_; simp only [Act.put, List.setIfInBounds_toArray, List.set_cons_succ, List.set_cons_zero]
      refine F_free (v := .slice (some ⟨b, off + P, Option.none⟩) (len - P) (cap - P)) 3 #[true, true, true, true, false, false, false] rfl (by kernel_rfl) (fun _ _ _ h => h) rfl (fun _ => e_slL _ _ _ _ _ rfl rfl (Tryd.csl1 b off len cap P hPL hcap _)) (hG) ?_; simp only [Act.put, List.setIfInBounds_toArray, List.set_cons_succ, List.set_cons_zero]
      refine F_free (v := .int .i64 (len - P : Nat)) 4 #[true, true, true, true, true, false, false] rfl (by kernel_rfl) (fun _ _ _ h => h) rfl (fun _ => e_lenK _ _ _ _ _ _ rfl Tryd.underlying28) (hG) ?_; simp only [Act.put, List.setIfInBounds_toArray, List.set_cons_succ, List.set_cons_zero]
      refine F_free (v := .int .i64 Wd) 5 #[true, true, true, true, true, true, false] rfl (by kernel_rfl) (fun _ _ _ h => h) rfl (fun _ => e_minK _ _ _ _ Wd (len - P) (by omega) rfl rfl) (hG) ?_; simp only [Act.put, List.setIfInBounds_toArray, List.set_cons_succ, List.set_cons_zero]
      refine F_one 6 #[true, true, true, true, true, true, true] rfl (by kernel_rfl) ?_
      refine r_val (.int .i64 Wd) rfl rfl ?_
      refine ⟨fun h => (by cases h), ?_⟩
      simp only [Act.put, List.setIfInBounds_toArray, List.set_cons_succ, List.set_cons_zero]
      refine F_done (by kernel_rfl) ?_
      have hs : wr.drew.cell? ⟨Bs, 0, none⟩ = some (.slice (some ⟨b, off, none⟩) len cap) := hs
      have hm : wr.drew.cell? ⟨Bn, 0, none⟩ = some (.int .i64 Wd) := hm
      have hsl := fun w => Tryd.csl3 b off len cap P (P + Wd) (by omega) hPW hcap w
      rw [show P + Wd - P = Wd by omega] at hsl
      simp only [Int.natCast_add] at hsl
      have hov : P + Wd ≤ 1073741824 := by omega
      dsimp only [Calm]
      gi_wp2
      refine hR.mono ?_
      have HPN := hidI (show P + Wd = (r + 1) * Wd from by rw [Nat.succ_mul, HP.out])
      rintro e W3 (⟨rfl, hJ3, hk3⟩ | ⟨rfl, hJx3⟩)
      · have hs3 := hk3.1 _ hs
        have hm3 := hk3.2 _ hm
        gi_wp2
        go_roundw
        case rel => exact ⟨r + 1, P + Wd, _, hlt, HPN.out, by go_num, by rw [List.map_append, hp, range_snoc]; rfl, hJ3, hs3, hm3⟩
        case measure => simp [natC]; omega
      · gi_wp2
        refine bodyPost_ret (results_none rfl _ _ _) rfl ?_
        exact ⟨⟨_, rfl⟩, .inr ⟨_, ⟨r + 1, hlt, by rw [List.map_append, hp, range_snoc]; rfl⟩, hJx3⟩⟩
    · obtain rfl : r = H := by omega
      have hPl : P = len := by rw [hP, hlen]
      gi_wp2
      go_end0
      exact ⟨⟨_, rfl⟩, .inl ⟨pre, hp, hJs⟩⟩
theorem Tryd.chk_any (a : Option Addr) (len cap Wd : Nat) (hW : 1 ≤ Wd) (w : World) :
    Calls Tryd.prog 42 #[.slice a len cap, .int .i64 Wd] w fun e w' => e = .returned (.func (.func 68) #[] #[.pointer (some ⟨w.heap.size, 0, none⟩), .pointer (some ⟨w.heap.size + 1, 0, none⟩)]) ∧ w' = (w.alloc (.cells #[.slice a len cap] 28)).alloc (.cells #[.int .i64 Wd] 3) := by
  go_enter Tryd.func42, Tryd.ntmps42
  go_wp2
  go_ret
  exact ⟨rfl, rfl⟩
theorem Tryd.chk_stops (n : Nat) (hn : 1 ≤ n) (Bs Bn b off cap Wd H len : Nat) (hW : 1 ≤ Wd) (hlen : len = H * Wd) (hreach : len * 8 ≤ 1073741824) (hcap : len ≤ cap) (w : World) (hBs : Bs < w.heap.size) (hBn : Bn < w.heap.size)
    (hc : w.cell? ⟨Bs, 0, none⟩ = some (.slice (some ⟨b, off, none⟩) len cap)) (hm : w.cell? ⟨Bn, 0, none⟩ = some (.int .i64 Wd)) :
    SeqStopsK Fence.wide n Tryd.prog 68 #[.pointer (some ⟨Bs, 0, none⟩), .pointer (some ⟨Bn, 0, none⟩)] (fun x : CX H => #[Value.slice (some ⟨b, off + x.1 * Wd, none⟩) Wd Wd]) (KpC Bs Bn) (fun ys => ys.map (fun x => x.1) = List.range H)
      (fun pre => ∃ m, m ≤ H ∧ pre.map (fun x => x.1) = List.range m) H w := fun l J Jx W hW' hJ _ hY h0 =>
  Tryd.chk1_in n hn l Bs Bn b off cap Wd H len hW hlen hreach J Jx hY W ((hW'.cell (p := ⟨Bs, 0, none⟩) hBs).trans hc) ((hW'.cell (p := ⟨Bn, 0, none⟩) hBn).trans hm) hcap
    (fun s A h => hJ s A A.drew none h ⟨rfl, rfl, rfl, Nat.le_refl _, fun _ _ _ => rfl⟩ (fun r e => by cases e)) h0
end Go.Proofs.YtpdmfbhjneodeaaDoor
namespace Go.Proofs.YtpdmfbhjneodeaaDoor
open Go.RowKit Go.Shelf
attribute [local go_sem] Oper.semAt_some
def btS (z : Int) (L : List Int) : ByteArray := if bdOk z L then ⟨(brdT L z.toNat (L.length / z.toNat)).toArray⟩ else ⟨#[]⟩
theorem btS_bad {z : Int} {L : List Int} (h : bdOk z L = false) : btS z L = ⟨#[]⟩ := by unfold btS; rw [h]; rfl
theorem btS_good {W H : Nat} {L : List Int} (hl : L.length = nn W H) (hW : 1 ≤ W) (h : bdOk W L = true) : btS W L = ⟨(brdT L W H).toArray⟩ := by
  unfold btS
  rw [if_pos h, Int.toNat_natCast, hl, nn_divB hW]
theorem Gr.othersC {w w' : World} (g : Gr w w') : KeepsOthers w w' := ⟨g.size, fun _ _ h _ => Gr.keep g h⟩
theorem Upd.othersC {B : Nat} {w w' : World} {cs : Array Value} {T : TypeId} (u : Upd B w w') (h : Blk w B cs T) : KeepsOthers w w' :=
  ⟨by rw [u.size]; exact Nat.le_refl _, fun k o hk ho => by
    by_cases e : k = B
    · subst e
      unfold Blk at h
      rw [h] at hk
      cases hk
      cases ho
    · exact u.keep hk e⟩
theorem row_block {w : World} {base : Nat} {e : TypeId} {size : Nat} {v : Value} {n : Nat} {xs : List Value} (hr : w.ownsRow base e size v n xs) {k : Nat} (hk : v.ownBlock = some k) {o : Obj} (ho : w.heap[k]? = some o) : o.isCells = true := by
  obtain ⟨h1, h2 | ⟨g, cap, cur, rfl, b, c, d⟩⟩ := hr
  · rw [h2.1] at hk; cases hk
  · cases hk
    rw [c] at ho
    cases ho
    rfl
theorem Grb.othersC {w w' : World} {base : Nat} {e : TypeId} {size : Nat} {v : Value} {n : Nat} {xs : List Value} (g : Grb v.ownBlock w w') (hr : w.ownsRow base e size v n xs) : KeepsOthers w w' :=
  ⟨g.size, fun k o hk ho => g.keep hk (fun e => by rw [row_block hr e hk] at ho; cases ho)⟩
theorem OwnFrom.ex {β γ : Type} {B : Nat} {J : γ → β → World → Prop} (h : ∀ g, OwnFrom B (J g)) : OwnFrom B (fun (s : β) W => ∃ g, J g s W) := fun s W W' row ⟨g, hs⟩ hg hr => ⟨g, h g s W W' row hs hg hr⟩
theorem OwnFrom.blkC {β : Type} {B : Nat} {k : Nat} {cs : β → Array Value} {T : TypeId} : OwnFrom B (fun (s : β) W => Blk W k (cs s) T) := fun s W W' row hs hg hr =>
  Grb.blk (⟨hg⟩ : Grb row W W') hs (fun e => by
    obtain ⟨-, o, ho, hc⟩ := hr k e
    have hs' : W.heap[k]? = some (.cells (cs s) T (0, 0)) := hs
    rw [hs'] at ho
    cases ho
    cases hc)
theorem OwnFrom.rowC {β : Type} {B base : Nat} {e : TypeId} {size : Nat} {v : Value} {n : β → Nat} {xs : β → List Value} : OwnFrom B (fun (s : β) W => W.ownsRow base e size v (n s) (xs s)) := fun s W W' row hs hg hr =>
  Grb.row (⟨hg⟩ : Grb row W W') hs (by
    cases hv : v.ownBlock with
    | none => exact .inl rfl
    | some k =>
      refine .inr (fun e => ?_)
      obtain ⟨-, o, ho, hc⟩ := hr k e.symm
      rw [row_block hs hv ho] at hc
      cases hc)
theorem blk_neC {w : World} {B C : Nat} {cs ds : Array Value} {T U : TypeId} (h : Blk w B cs T) (k : Blk w C ds U) (hne : T ≠ U) : B ≠ C := fun e => by
  subst e
  unfold Blk at h k
  rw [h] at k
  injection k with k
  injection k with _ k
  exact hne k
def rowsP {H : Nat} (L : List Int) (W : Nat) (pre : List (CX H)) : List (List UInt8) := pre.map fun x => rowT L (x.1 * W) W
theorem ret_bt {a a' : ByteArray} {b b' : Bool} (h : a = a') (h2 : b = b') : Ending.returned (.tuple #[.string a, .bool b]) = .returned (.tuple #[.string a', .bool b']) := by rw [h, h2]
theorem Tryd.lf0T (B : Nat) (w : World) : (Instr.fieldAt 75 (.pointer (some ⟨B, 0, none⟩)) 0).run Tryd.prog w = .ok (.pointer (some ⟨B, 0, none⟩)) w := by kernel_rfl
theorem Tryd.btzero (w : World) : (zeroValue 35).run Tryd.prog w = .ok (.slice none 0 0) w := by kernel_rfl
set_option maxHeartbeats 1000000 in
set_option maxRecDepth 100000 in
theorem iBoardText_gen (z : Int) (L : List Int) (v : Value) (base : Nat) (w : World) (hown : w.ownsRow base 3 1 v L.length (intsV L)) (hl : L.length ≤ 1048577) :
    Calls Tryd.prog 23 #[.agg (bv z v)] w (Ret (.tuple #[.string (btS z L), .bool (bdOk z L)]) w) := by
  have gg := Gr.refl w
  have hone := own_one hown
  by_cases hok : bdOk z L = true
  · obtain ⟨⟨W, H, rfl, hnn, hw1, hw3, hh1, hh3⟩, hall⟩ := bdOk_iff.1 hok
    have HV := hidI (show btS W L = ⟨(brdT L W H).toArray⟩ ∧ bdOk W L = true from ⟨btS_good hnn hw1 hok, hok⟩)
    have HR := hidI (fun w' (ho : w'.ownsRow base 3 1 v L.length (intsV L)) => show Calls Tryd.prog 41 #[.agg (bv W v)] w' (Ret (.tuple #[.agg (lv W H L), .bool true]) w') from by
      have := readBoard_gen W L v base w' ho hl
      rwa [rdV_good hnn hw1 hok, hok] at this)
    have h9 : nn W H ≤ 9 := by
      have : W * H ≤ 3 * 3 := Nat.mul_le_mul hw3 hh3
      exact this
    have HCE := hidI (fun w' => cellsOf_any W H L w' h9)
    have HDG := hidI (fun i (hi : i < L.length) => show 0 ≤ gi L i ∧ gi L i < 10 from by
      have := hasAll_lt hall i hi
      omega)
    have hLH : nn W H = H * W := Nat.mul_comm W H
    obtain ⟨len, hlen⟩ : ∃ len, len = nn W H := ⟨_, rfl⟩
    rw [← hlen] at HCE h9 hnn hLH
    have HNN := hidI hnn
    have HLH := hidI hLH
    clear hok hall hnn hlen hLH
    refine (callsIn_wide (n := 9)).1 ?_
    refine callsIn_of_wp_marks Tryd.func23 rfl trivial ?_ rfl
    refine wpIn_wide.2 ?_
    simp only [Tryd.ntmps23, List.size_toArray, List.length_cons, List.length_nil, Nat.reduceAdd, Nat.reduceSub, Array.replicate_succ, Array.replicate_zero, List.push_toArray, List.append_toArray, List.nil_append, List.cons_append]
    go_wp2_with (first | (refine r_box 30 _ (bv (W) (v)) rfl rfl ?_; intro w1 B1 N1; have g1 := N1.gr; have b1 : Blk w1 B1 (bv (W) (v)) 30 := N1.blk; have l1 := N1.lo; have t1 := N1.hi; have z1 := g1.size; have gg := gg.trans g1; clear N1; obtain ⟨b1_0, b1_1⟩ := bcells b1) | (refine r_load_row 30 _ _ rfl _ _ _ b1 Tryd.underlying30 rfl Tryd.ibinfo rfl ?_) | (go_at_call 41; refine (HR.out _ (g1.row hown)).mono ?_; rintro e w2 ⟨rfl, g2⟩; have gg := gg.trans g2; have z2 := g2.size) | (refine r_alloc (dst := some 4) 75 _ Tryd.lzero rfl ?_; intro w4 B4 N4; have g4 := N4.gr; have b4 : Blk w4 B4 (lv 0 0 []) 75 := N4.blk; have l4 := N4.lo; have t4 := N4.hi; have z4 := g4.size; have gg := gg.trans g4; clear N4; obtain ⟨b4_0, b4_1, b4_2⟩ := lcells b4) | (refine r_store_row 75 75 _ _ _ rfl (lv (W) (H) (L)) _ rfl b4 (Tryd.lsize' _ _ _) (by simp only [lv_size]) (lv_one _ _ _) rfl ?_; intro w5 u5 b4'; have z5 := u5.size; have gg := u5.gr gg (by omega); clear b4; have b4 := b4'; clear b4'; obtain ⟨b4_0, b4_1, b4_2⟩ := lcells b4) | (refine r_alloc (dst := some 6) 35 _ Tryd.btzero rfl ?_; intro w6 B6 N6; have g6 := N6.gr; have b6 : Blk w6 B6 (#[.slice none 0 0]) 35 := N6.blk; have l6 := N6.lo; have t6 := N6.hi; have z6 := g6.size; have b4 := g6.blk b4; have gg := gg.trans g6; clear N6))
    simp only [Act.put, List.setIfInBounds_toArray, List.set_cons_succ, List.set_cons_zero]
    have l6L := hidI (show w.heap.size ≤ B6 from by omega)
    have gd := (Gr.refl w6).drew
    have b4 := gd.blk b4
    have b6 := gd.blk b6
    have gg := gg.trans gd
    have zd := gd.size
    refine F_begin (fun w => (Blk w B4 (lv W H L) 75)) 4 5 #[false, false, false, false, false] rfl (by kernel_rfl) (by kernel_rfl) ?_
    generalize w6.drew = wd at *
    refine F_free (v := .pointer (some ⟨B4, 0, Option.none⟩)) 2 #[false, false, true, false, false] rfl (by kernel_rfl) (fun _ _ _ h => h) rfl (fun _ => e_val _ _ (Tryd.lf0T _ _)) (b4) ?_; simp only [Act.put, List.setIfInBounds_toArray, List.set_cons_succ, List.set_cons_zero]
    refine F_take (v := .int .i64 W) 3 #[false, false, true, true, false] rfl (by kernel_rfl) (fun _ _ _ h => h) rfl (fun w hF => e_load 3 (.tmp 17) _ _ rfl (Tryd.isAgg3 _) (lcells hF).1) (b4) ?_; simp only [Act.put, List.setIfInBounds_toArray, List.set_cons_succ, List.set_cons_zero]
    refine F_one 0 #[true, false, true, true, false] rfl (by kernel_rfl) ?_
    (refine r_load_row 75 _ _ rfl _ _ _ b4 Tryd.underlying75 rfl (Tryd.linfo' _ _ _) rfl ?_)
    refine ⟨fun _ => b4, ?_⟩
    simp only [Act.put, List.setIfInBounds_toArray, List.set_cons_succ, List.set_cons_zero]
    refine F_one 1 #[true, true, true, true, false] rfl (by kernel_rfl) ?_
    refine r_callx 43 [.tmp 15] _ [.agg (lv W H L)] (fun v w' => Gr wd w' ∧ ∃ B, v = .slice (some ⟨B, 2, none⟩) len 9 ∧ Blk w' B (lv W H L) 75 ∧ wd.heap.size ≤ B) Tryd.call43 rfl rfl ((HCE.out wd).mono fun e w' h => by obtain ⟨g, B, h1, h2, h3⟩ := h; exact ⟨_, h1, g, B, rfl, h2, h3⟩) ?_
    rintro _ wc ⟨gc, G, rfl, bG, lG⟩
    have b4 := gc.blk b4
    have b6 := gc.blk b6
    have gg := gg.trans gc
    have zc := gc.size
    have tG := bG.lt
    refine ⟨fun _ => b4, ?_⟩
    simp only [Act.put, List.setIfInBounds_toArray, List.set_cons_succ, List.set_cons_zero]
    refine F_one 4 #[true, true, true, true, true] rfl (by kernel_rfl) ?_
    refine r_call 42 [.tmp 16, .tmp 18] _ [.slice (some ⟨G, 2, none⟩) len 9, .int .i64 W] (.func (.func 68) #[] #[.pointer (some ⟨wc.heap.size, 0, none⟩), .pointer (some ⟨wc.heap.size + 1, 0, none⟩)]) (fun w' => w' = (wc.alloc (.cells #[.slice (some ⟨G, 2, none⟩) len 9] 28)).alloc (.cells #[.int .i64 W] 3)) Tryd.call42 rfl rfl (Tryd.chk_any _ _ _ W hw1 wc) ?_
    rintro _ rfl
    have hs1 : Blk (wc.alloc (.cells #[.slice (some ⟨G, 2, none⟩) len 9] 28)) wc.heap.size #[.slice (some ⟨G, 2, none⟩) len 9] 28 := heap_alloc_new wc _
    have e1 : (wc.alloc (.cells #[.slice (some ⟨G, 2, none⟩) len 9] 28)).heap.size = wc.heap.size + 1 := World.size_alloc _ _
    have hm1 : Blk ((wc.alloc (.cells #[.slice (some ⟨G, 2, none⟩) len 9] 28)).alloc (.cells #[.int .i64 W] 3)) (wc.heap.size + 1) #[.int .i64 W] 3 := by rw [← e1]; exact heap_alloc_new _ _
    have g1 : Gr wc (wc.alloc (.cells #[.slice (some ⟨G, 2, none⟩) len 9] 28)) := (Gr.refl wc).alloc _
    have g2 : Gr (wc.alloc (.cells #[.slice (some ⟨G, 2, none⟩) len 9] 28)) ((wc.alloc (.cells #[.slice (some ⟨G, 2, none⟩) len 9] 28)).alloc (.cells #[.int .i64 W] 3)) := (Gr.refl _).alloc _
    have hs1 := g2.blk hs1
    have gcc := g1.trans g2
    have b6 := gcc.blk b6
    have bG := gcc.blk bG
    have gg := gg.trans gcc
    have zcc := gcc.size
    have hsz : ((wc.alloc (.cells #[.slice (some ⟨G, 2, none⟩) len 9] 28)).alloc (.cells #[.int .i64 W] 3)).heap.size = wc.heap.size + 2 := by rw [World.size_alloc, e1]
    generalize (wc.alloc (.cells #[.slice (some ⟨G, 2, none⟩) len 9] 28)).alloc (.cells #[.int .i64 W] 3) = wr at *
    clear e1 g1 g2
    refine ⟨fun h => (by cases h), ?_⟩
    simp only [Act.put, List.setIfInBounds_toArray, List.set_cons_succ, List.set_cons_zero]
    refine F_done (by kernel_rfl) ?_
    go_wp2
    have lo6 : w.heap.size ≤ B6 := l6L.out
    have zz := gg.size
    have tG : G < wr.heap.size := bG.lt
    have hBs : wc.heap.size < wr.heap.size := by omega
    have hBn : wc.heap.size + 1 < wr.heap.size := by omega
    generalize wc.heap.size = Bs at *
    refine (wpIn_wide (n := 9)).1 ?_
    refine wpIn_rangeFunc_ownG (hro := rfl) (h1 := by decide) (gf := 68) (lb := #[.pointer (some ⟨Bs, 0, none⟩), .pointer (some ⟨Bs + 1, 0, none⟩)]) rfl trivial (enters_of Tryd.func68 (by kernel_rfl) rfl)
      (Tryd.chk_stops (9 - 1) (by decide) Bs (Bs + 1) G 2 9 W H len hw1 HLH.out (by omega) h9 wr hBs hBn (hs1.cell 0) (hm1.cell 0)) (fun h k => kpC_t h k) (fun W l o o' _ h hc _ => kpC_b W l o o' h hc) (Below.refl _ _) (fun _ => rfl)
      (fun pre W' => (∃ ov, Blk W' B6 #[ov] 35 ∧ W'.ownsRow w.heap.size 9 1 ov pre.length (strV (rowsP L W pre))) ∧ ((Blk W' G (lv W H L) 75 ∧ (Blk W' Bs #[.slice (some ⟨G, 2, none⟩) len 9] 28 ∧ Blk W' (Bs + 1) #[.int .i64 W] 3)) ∧ Below w.heap.size w W'))
      (fun _ _ _ => False)
      (OwnFrom.and (OwnFrom.ex fun ov => OwnFrom.and OwnFrom.blkC OwnFrom.rowC) (OwnFrom.and (OwnFrom.and OwnFrom.blkC (OwnFrom.and OwnFrom.blkC OwnFrom.blkC)) (ownFrom_below (Nat.le_refl _) zz)))
      (fun _ _ _ _ _ hs _ _ => hs)
      ⟨⟨_, b6, World.ownsRow_nil _ _ _ _⟩, ⟨bG, hs1, hm1⟩, gg⟩
      (fun x => { tmps := #[.agg (bv W v), .pointer (some ⟨B1, 0, none⟩), .string ⟨#[]⟩, .bool false, .pointer (some ⟨B4, 0, none⟩), .bool true, .pointer (some ⟨B6, 0, none⟩), .slice (some ⟨G, 2 + x.1 * W, none⟩) W W, .tuple #[.agg (lv W H L), .bool true], .agg (bv W v), .tuple #[.agg (lv W H L), .bool true], .agg (lv W H L), .bool true, .bool true, .bool false, .agg (lv W H L), .slice (some ⟨G, 2, none⟩) len 9, .pointer (some ⟨B4, 0, none⟩), .int .i64 W, .func (.func 68) #[] #[.pointer (some ⟨Bs, 0, none⟩), .pointer (some ⟨Bs + 1, 0, none⟩)], .slice (some ⟨G, 2 + x.1 * W, none⟩) W W, undef, undef, undef, undef, undef, undef, undef], defers := [] }) ?assign ?body ?done ?stop
    case assign =>
      intro l x W' K hK
      gi_wp2
      exact hK
    case body =>
      rintro l pre x W' ⟨⟨ov, hb6, ho⟩, ⟨hG, hbs, hbm⟩, hB⟩ hpl
      have hxW : x.1 * W + W ≤ len := by
        have h1 := HLH.out
        have h2 := Nat.mul_le_mul_right W x.2
        rw [Nat.succ_mul] at h2
        omega
      have HNT := hidI (fun (w' : World) (hb : Blk w' G (lv W H L) 75) => numbersText_any L G (2 + x.1 * W) (x.1 * W) W W w' hw1 (by omega) (fun j hj => by
        have := (lcells hb).2.2 (x.1 * W + j) (by omega)
        rw [← this, Nat.add_assoc]) (fun j hj => HDG.out _ (by rw [HNN.out]; omega)))
      have HRP := hidI (show strV (rowsP L W pre) ++ [.string ⟨(rowT L (x.1 * W) W).toArray⟩] = strV (rowsP L W (pre ++ [x])) from by
        unfold rowsP
        rw [List.map_append, ← strV_append]
        rfl)
      obtain ⟨R, hR⟩ : ∃ R : ByteArray, R = ⟨(rowT L (x.1 * W) W).toArray⟩ := ⟨_, rfl⟩
      rw [← hR] at HNT HRP
      clear hR
      have c6 : W'.drew.cell? ⟨B6, 0, none⟩ = some ov := hb6.cell 0
      have kd : KeepsOthers W' W'.drew := ⟨Nat.le_refl _, fun _ _ h _ => h⟩
      have hb6d : Blk W'.drew B6 #[ov] 35 := hb6
      have hGd : Blk W'.drew G (lv W H L) 75 := hG
      have hsd : Blk W'.drew Bs #[.slice (some ⟨G, 2, none⟩) len 9] 28 := hbs
      have hmd : Blk W'.drew (Bs + 1) #[.int .i64 W] 3 := hbm
      have hod : W'.drew.ownsRow w.heap.size 9 1 ov pre.length (strV (rowsP L W pre)) := ho
      have gd : Gr w W'.drew := (show Gr w W' from hB).trans (Gr.refl W').drew
      refine wpIn_block ?_
      skip
      refine O_begin (OpenF.inRound l) (fun w' => w'.cell? ⟨B6, 0, none⟩ = some ov) 5 6 #[false, false, false, false, false, false] rfl rfl (by kernel_rfl) rfl (fun _ _ h => h) ?_
      generalize W'.drew = wd at *
      refine F_take (v := ov) 0 #[true, false, false, false, false, false] rfl (by kernel_rfl) (fun _ _ _ h => h) rfl (fun w hF => e_load 35 (.tmp 6) _ _ rfl (Tryd.isAgg35 _) hF) (c6) ?_; simp only [Act.put, List.setIfInBounds_toArray, List.set_cons_succ, List.set_cons_zero]
      refine F_free (v := .slice (some ⟨G, 2 + x.1 * W, Option.none⟩) W W) 1 #[true, true, false, false, false, false] rfl (by kernel_rfl) (fun _ _ _ h => h) rfl (fun _ => rfl) (c6) ?_; simp only [Act.put, List.setIfInBounds_toArray, List.set_cons_succ, List.set_cons_zero]
      refine F_one 2 #[true, true, true, false, false, false] rfl (by kernel_rfl) ?_
      refine r_call 44 [.tmp 22] _ [.slice (some ⟨G, 2 + x.1 * W, none⟩) W W] (.string R) (fun w' => Gr wd w') Tryd.call44 rfl rfl (HNT.out wd hGd) ?_
      intro w1 g1
      have c6 := g1.cell c6
      refine ⟨fun _ => c6, ?_⟩
      simp only [Act.put, List.setIfInBounds_toArray, List.set_cons_succ, List.set_cons_zero]
      refine F_one 3 #[true, true, true, true, false, false] rfl (by kernel_rfl) ?_
      refine r_slice1 35 9 (.tmp 23) (.string R) rfl (Tryd.bstrN _ _) rfl ?_
      intro w2 B2 N2
      have g2 := N2.gr
      have c6 := g2.cell c6
      have g12 := g1.trans g2
      have ho2 := g12.row hod
      have hb62 := g12.blk hb6d
      have hG2 := g12.blk hGd
      have hs2 := g12.blk hsd
      have hm2 := g12.blk hmd
      have z2 := (gd.trans g12).size
      have n6 := own_ne ho2 hb62 (by decide)
      have nG := own_ne ho2 hG2 (by decide)
      have ns := own_ne ho2 hs2 (by decide)
      have nm := own_ne ho2 hm2 (by decide)
      refine ⟨fun _ => c6, ?_⟩
      simp only [Act.put, List.setIfInBounds_toArray, List.set_cons_succ, List.set_cons_zero]
      refine F_one 4 #[true, true, true, true, true, false] rfl (by kernel_rfl) ?_
      refine r_append (.tmp 21) (.tmp 24) 35 9 _ 1 16 w.heap.size Tryd.strIN ov pre.length (strV (rowsP L W pre)) rfl ho2 ⟨B2, 0, none⟩ 1 1 [.string R] rfl rfl N2.cell1 (by intro u hu; simp at hu; subst hu; rfl) (by omega) (by decide) (by omega) rfl ?_
      intro v4 w4 own4 g4
      rw [HRP.out] at own4
      have hb64 := g4.blk hb62 n6
      have hG4 := g4.blk hG2 nG
      have hs4 := g4.blk hs2 ns
      have hm4 := g4.blk hm2 nm
      refine ⟨fun _ => hb64.cell 0, ?_⟩
      simp only [Act.put, List.setIfInBounds_toArray, List.set_cons_succ, List.set_cons_zero]
      refine F_one 5 #[true, true, true, true, true, true] rfl (by kernel_rfl) ?_
      have n64 := own_ne own4 hb64 (by decide)
      have nG6 := blk_neC hG4 hb64 (by decide)
      have ns6 := blk_neC hs4 hb64 (by decide)
      have nm6 := blk_neC hm4 hb64 (by decide)
      refine r_store_cell 35 35 (.tmp 6) (.tmp 25) B6 0 rfl v4 rfl _ hb64 (by show 0 < 1; decide) Tryd.sizeOf35 (own_one own4) rfl ?_
      intro w5 u5 b65
      refine ⟨fun h => (by cases h), ?_⟩
      refine F_done (by kernel_rfl) ?_
      have hs5 := u5.blk hs4 ns6
      have hm5 := u5.blk hm4 nm6
      refine ⟨((((kd.trans g1.othersC).trans g2.othersC).trans (g4.othersC ho2)).trans (u5.othersC hb64)).from _, ⟨fun c hc => (hs5.cell 0).trans ((hbs.cell 0).symm.trans hc), fun c hc => (hm5.cell 0).trans ((hbm.cell 0).symm.trans hc)⟩, ⟨v4, b65, ?_⟩, ⟨u5.blk hG4 nG6, hs5, hm5⟩, ?_⟩
      · rw [List.length_append]
        exact u5.row own4 n64
      · exact u5.gr (g4.gr (gd.trans g12) (own_gr ho2 (Nat.le_refl _))) lo6
    case done =>
      rintro D ys W' hD hys ⟨⟨ov, hb6, ho⟩, ⟨hG, hbs, hbm⟩, hB⟩ hK
      have hyl : ys.length = H := by rw [← List.length_map (f := fun x : CX H => x.1), hys, List.length_range]
      have hyr : rowsP L W ys = rowsT L W H := by
        unfold rowsP rowsT
        rw [← hys, List.map_map]
        rfl
      rw [hyl, hyr] at ho
      have HJ := hidI (joinRow_any (rowsT L W H) 47 ov w.heap.size W' (by rw [rowsT_length]; exact ho) (by rw [rowsT_length]; exact hh1) (by
        have := brdT_le L W H
        unfold brdT at this
        have h2 : H * (W * 2 + 1) ≤ 3 * (3 * 2 + 1) := Nat.mul_le_mul hh3 (by omega)
        omega) (by rw [rowsT_length]; omega))
      have HJ := hidI (show Calls Tryd.prog 35 #[ov, .string ⟨#[47]⟩] W' (Ret (.string (btS W L)) W') from by rw [HV.out.1]; exact HJ.out)
      go_wp2_with (first | (refine r_ldc 35 (.tmp 6) ⟨B6, 0, none⟩ ov rfl (Tryd.isAgg35 _) (hb6.cell 0) rfl ?_) | (go_at_call 35; refine HJ.out.mono ?_; rintro e w8 ⟨rfl, g8⟩; have hK := g8.keep hK; have hB := (show Gr w W' from hB).trans g8))
      refine ⟨by simp, .inl ⟨_, _, rfl, run_takeDeferred hK, ?_⟩⟩
      have hgr : Gr w (w8.putObj D (.deferred none)) := (⟨grownBy_putObj' w8 D _⟩ : Grb (some D) w8 (w8.putObj D (.deferred none))).gr hB (fun k e => by
        obtain rfl := Option.some.inj e
        omega)
      exact ⟨.tuple #[.string (btS W L), .bool true], by simp [results, Tryd.f23, go_sem], by rw [HV.out.2], hgr⟩
    case stop =>
      rintro D c pre W' _ _ h _
      exact h.elim
  · have hok : bdOk z L = false := by simpa using hok
    have HV := hidI (show (⟨#[]⟩ : ByteArray) = btS z L ∧ false = bdOk z L from ⟨(btS_bad hok).symm, hok.symm⟩)
    have HR := hidI (fun w' (ho : w'.ownsRow base 3 1 v L.length (intsV L)) => show Calls Tryd.prog 41 #[.agg (bv z v)] w' (Ret (.tuple #[.agg (lv 0 0 []), .bool false]) w') from by
      have := readBoard_gen z L v base w' ho hl
      rwa [rdV_bad hok, hok] at this)
    clear hok
    go_enter Tryd.func23, Tryd.ntmps23
    go_wp2_with (first | (refine r_box 30 _ (bv (z) (v)) rfl rfl ?_; intro w1 B1 N1; have g1 := N1.gr; have b1 : Blk w1 B1 (bv (z) (v)) 30 := N1.blk; have l1 := N1.lo; have t1 := N1.hi; have z1 := g1.size; have gg := gg.trans g1; clear N1; obtain ⟨b1_0, b1_1⟩ := bcells b1) | (refine r_load_row 30 _ _ rfl _ _ _ b1 Tryd.underlying30 rfl Tryd.ibinfo rfl ?_) | (go_at_call 41; refine (HR.out _ (g1.row hown)).mono ?_; rintro e w2 ⟨rfl, g2⟩; have gg := gg.trans g2; have z2 := g2.size) | (refine r_alloc (dst := some 4) 75 _ Tryd.lzero rfl ?_; intro w4 B4 N4; have g4 := N4.gr; have b4 : Blk w4 B4 (lv 0 0 []) 75 := N4.blk; have l4 := N4.lo; have t4 := N4.hi; have z4 := g4.size; have gg := gg.trans g4; clear N4; obtain ⟨b4_0, b4_1, b4_2⟩ := lcells b4) | (refine r_store_row 75 75 _ _ _ rfl (lv (0) (0) ([])) _ rfl b4 (Tryd.lsize' _ _ _) (by simp only [lv_size]) (lv_one _ _ _) rfl ?_; intro w5 u5 b4'; have z5 := u5.size; have gg := u5.gr gg (by omega); clear b4; have b4 := b4'; clear b4'; obtain ⟨b4_0, b4_1, b4_2⟩ := lcells b4))
    go_ret2
    exact ⟨ret_bt HV.out.1 HV.out.2, gg⟩
theorem iBoardText (z : Int) (L : List Int) (v : Value) (base : Nat) (w : World) (hown : w.ownsRow base 3 1 v L.length (intsV L)) (hl : L.length ≤ 1048576) :
    Calls Tryd.prog 23 #[.agg (bv z v)] w (Ret (.tuple #[.string (btS z L), .bool (bdOk z L)]) w) :=
  iBoardText_gen z L v base w hown (Nat.le_succ_of_le hl)
end Go.Proofs.YtpdmfbhjneodeaaDoor
