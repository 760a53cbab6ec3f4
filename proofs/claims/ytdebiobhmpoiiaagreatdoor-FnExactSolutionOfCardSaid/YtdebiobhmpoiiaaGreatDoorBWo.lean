/-
  slices.Backward over bytes: the library's iterator from the last place down to the first; it reads the row between two rounds, so the round must leave bytes where bytes were.
  In the round of a range over a function: a statement that neither calls nor defers is walked by the rules for the open fence.
  The shortest word to a tray, written from its end to its beginning: the program.
  The word to a state, as plain mathematics: the ways back from a state, its last letters, and the whole word.
  The word to a state: the program's function whole, and the model's, which puts letter before letter.
-/
import Derived.RangeFuncNested
import Derived.RangeFuncBound
import Derived.RangeFuncCalls
import Derived.RangeFuncLeaves
import Derived.Shelf.Abstract
import Derived.Shelf.RegionOpen
import Derived.WalkKit
import Derived.OwnWalkIn
import Derived.TacticsInMore
import Derived.LoopNIn
import Derived.LoopIn
import Derived.Test.YtdebiobhmpoiiaaGreatDoorProg
import Derived.Test.YtdebiobhmpoiiaaGreatDoorBKit
import Derived.OrdersIn
import Derived.TacticsIn
import Derived.Test.YtdebiobhmpoiiaaGreatDoorReachF
import Derived.Test.YtdebiobhmpoiiaaGreatDoorOps
import Derived.RangeFuncWrites
import Derived.Test.YtdebiobhmpoiiaaGreatDoorBCe
import Derived.Test.YtdebiobhmpoiiaaGreatDoorReachU
namespace Go.Proofs.YtdebiobhmpoiiaaGreatDoor
open Go.RowKit Go.Shelf
attribute [local go_sem] Oper.semAt_some
/-- What comes from the iterator: a place of the row, and the byte that lies there. -/
abbrev BX (len : Nat) := { i : Nat // i < len } × Int
/-- The places from the last one down to m. -/
def dn (len m : Nat) : List Nat := ((List.range len).drop m).reverse
theorem dn_all (len : Nat) : dn len 0 = (List.range len).reverse := rfl
theorem dn_none (len : Nat) : dn len len = [] := by simp [dn]
theorem dn_succ {len q : Nat} (h : q < len) : dn len q = dn len (q + 1) ++ [q] := by
  unfold dn
  rw [List.drop_eq_getElem_cons (by simpa using h), List.reverse_cons]
  simp
theorem dn_length (len m : Nat) : (dn len m).length = len - m := by simp [dn]
def U8s (W : World) (b off len : Nat) : Prop := ∀ j, j < len → ∃ v : Int, W.cell? ⟨b, off + j, none⟩ = some (.int .u8 v)
/-- What a round that goes on keeps: the header's cell, and that bytes lie in the row. -/
def KpB (Bs b off len : Nat) (A B : World) : Prop := (∀ c, A.cell? ⟨Bs, 0, none⟩ = some c → B.cell? ⟨Bs, 0, none⟩ = some c) ∧ (U8s A b off len → U8s B b off len)
theorem kpB_t {Bs b off len : Nat} {A B C : World} (h : KpB Bs b off len A B) (k : KpB Bs b off len B C) : KpB Bs b off len A C := ⟨fun c hc => k.1 c (h.1 c hc), fun hu => k.2 (h.2 hu)⟩
theorem kpB_b {Bs b off len : Nat} (W : World) (l : Nat) (o o' : Obj) (h : W.heap[l]? = some o) (hc : o.isCells = false) : KpB Bs b off len W (W.putObj l o') := by
  have hk : ∀ (p : Addr) (c : Value), W.cell? p = some c → (W.putObj l o').cell? p = some c := fun p c hp => cell_kept hp (grownBy_putObj' W l o') (fun r e => by cases e; exact ⟨o, h, hc⟩)
  exact ⟨fun c h' => hk _ c h', fun hu j hj => by obtain ⟨v, hv⟩ := hu j hj; exact ⟨v, hk _ _ hv⟩⟩
set_option maxRecDepth 100000 in
set_option maxHeartbeats 2000000 in
theorem Tryz.back1_in (F : Fence) (n : Nat) (h8 : F.fn 70) (hro : F.round = none) (hn : 1 ≤ n) (l Bs b off len cap : Nat) (hreach : len * 8 ≤ 140737488351232) (J Jx : List (BX len) → World → Prop)
    (hY : ∀ pre x W, J pre W → pre.length < len → YieldAt F (n - 1) Tryz.prog l #[.int .i64 (x.1.1 : Int), .int .u8 x.2] W fun e W' =>
      (e = .returned (.bool true) ∧ J (pre ++ [x]) W' ∧ KpB Bs b off len W W') ∨ (e = .returned (.bool false) ∧ Jx (pre ++ [x]) W'))
    (W : World) (hBs : W.cell? ⟨Bs, 0, none⟩ = some (.slice (some ⟨b, off, none⟩) len cap)) (hc : U8s W b off len) (h0 : J [] W) :
    CallsIn F n Tryz.prog 70 #[.func (.yield l) #[] #[], .pointer (some ⟨Bs, 0, none⟩)] W fun e W' => (∃ v, e = .returned v) ∧
      ((∃ ys : List (BX len), ys.map (fun x => x.1.1) = dn len 0 ∧ J ys W') ∨ (∃ pre : List (BX len), (∃ m, m ≤ len ∧ pre.map (fun x => x.1.1) = dn len m) ∧ Jx pre W')) := by
  refine callsIn_of_wp Tryz.func70 rfl h8 ?_ hro
  simp only [Tryz.ntmps70, List.size_toArray, List.length_cons, List.length_nil, Nat.reduceAdd, Nat.reduceSub, Array.replicate_succ, Array.replicate_zero, List.push_toArray, List.append_toArray, List.nil_append, List.cons_append]
  gi_wp2
  gi_loopw [3] (fun i wr => ∃ (m : Nat) (pre : List (BX len)), m ≤ len ∧ i = .int .i64 ((m : Int) - 1) ∧ pre.map (fun x => x.1.1) = dn len m ∧ J pre wr ∧ wr.cell? ⟨Bs, 0, none⟩ = some (.slice (some ⟨b, off, none⟩) len cap) ∧ U8s wr b off len)
    (fun i _ => (intOf i + 1).toNat)
  case atStart => exact ⟨len, [], Nat.le_refl _, rfl, by rw [dn_none]; rfl, h0, hBs, hc⟩
  case round =>
    obtain ⟨m, pre, hm, rfl, hp, hJs, hh, hu⟩ := hrel
    have hpl : pre.length = len - m := by rw [← dn_length len m, ← hp, List.length_map]
    cases m with
    | succ q =>
      obtain ⟨v, hv⟩ := hu q (by omega)
      obtain ⟨fn, tmps, assign, body, hy, hR⟩ := hY pre (⟨q, by omega⟩, v) wr hJs (by omega)
      dsimp only at hy
      have e1 : ((q + 1 : Nat) : Int) - 1 = (q : Int) := by omega
      rw [e1]
      gi_wp2
      refine hR.mono ?_
      rintro e W3 (⟨rfl, hJ3, hk3⟩ | ⟨rfl, hJx3⟩)
      · gi_wp2
        go_roundw
        case rel => exact ⟨q, _, by omega, rfl, by rw [List.map_append, hp, dn_succ (q := q) (by omega)]; rfl, hJ3, hk3.1 _ hh, hk3.2 hu⟩
        case measure => simp [intOf]
      · gi_wp2
        refine bodyPost_ret (results_none rfl _ _ _) rfl ?_
        exact ⟨⟨_, rfl⟩, .inr ⟨_, ⟨q, by omega, by rw [List.map_append, hp, dn_succ (q := q) (by omega)]; rfl⟩, hJx3⟩⟩
    | zero =>
      have e1 : ((0 : Nat) : Int) - 1 = -1 := by omega
      rw [e1]
      gi_wp2
      go_end0
      exact ⟨⟨_, rfl⟩, .inl ⟨pre, hp, hJs⟩⟩
set_option maxHeartbeats 1000000 in
theorem Tryz.back_in (F : Fence) (n : Nat) (h5 : F.fn 48) (hro : F.round = none) (a : Option Addr) (len cap : Nat) (w : World) :
    CallsIn F n Tryz.prog 48 #[.slice a len cap] w fun e w' => e = .returned (.func (.func 70) #[] #[.pointer (some ⟨w.heap.size, 0, none⟩)]) ∧ w' = w.alloc (.cells #[.slice a len cap] 58) := by
  refine callsIn_of_wp Tryz.func48 rfl h5 ?_ hro
  simp only [Tryz.ntmps48, List.size_toArray, List.length_cons, List.length_nil, Nat.reduceAdd, Nat.reduceSub, Array.replicate_succ, Array.replicate_zero, List.push_toArray, List.append_toArray, List.nil_append, List.cons_append]
  gi_wp2
  go_ret
  exact ⟨rfl, rfl⟩
theorem Tryz.back_stops (F : Fence) (n : Nat) (h8 : F.fn 70) (hro : F.round = none) (hn : 1 ≤ n) (Bs b off len cap : Nat) (hreach : len * 8 ≤ 140737488351232) (w : World) (hBs : Bs < w.heap.size) (hb : b < w.heap.size)
    (hc : w.cell? ⟨Bs, 0, none⟩ = some (.slice (some ⟨b, off, none⟩) len cap)) (hu : U8s w b off len) :
    SeqStopsK F n Tryz.prog 70 #[.pointer (some ⟨Bs, 0, none⟩)] (fun x : BX len => #[Value.int .i64 (x.1.1 : Int), Value.int .u8 x.2]) (KpB Bs b off len) (fun ys => ys.map (fun x => x.1.1) = dn len 0)
      (fun pre => ∃ m, m ≤ len ∧ pre.map (fun x => x.1.1) = dn len m) len w := fun l J Jx W hW _ _ hY h0 =>
  Tryz.back1_in F n h8 hro hn l Bs b off len cap hreach J Jx hY W ((hW.cell (p := ⟨Bs, 0, none⟩) hBs).trans hc) (fun j hj => by obtain ⟨v, hv⟩ := hu j hj; exact ⟨v, (hW.cell (p := ⟨b, off + j, none⟩) hb).trans hv⟩) h0
end Go.Proofs.YtdebiobhmpoiiaaGreatDoor
namespace Go.Proofs.YtdebiobhmpoiiaaGreatDoor
open Go.RowKit
section
variable {P : Program} {F : Fence} {n : Nat} {md : Region.Mode} {ops : Array Oper} {Q : Exit → Act → World → Prop}
/-- An operation that yields a value, or nothing. -/
def tame (o : Oper) : Bool := match o.op with
  | .load .. | .move _ | .assign _ | .indexAddr .. | .fieldAddr .. | .store .. => true
  | _ => false
theorem andThen_val {α : Type} {r : Result α} {f : α → Value} {x : Next} {w' : World} (h : (r.andThen fun a w => .ok (.value (f a)) w) = .ok x w') : ∃ v, x = .value v := by
  cases r with
  | ok a w => injection h with h1 h2; exact ⟨_, h1.symm⟩
  | halt y w => cases h
theorem andThen_skip {r : Result Unit} {x : Next} {w' : World} (h : (r.andThen fun _ w => .ok .skip w) = .ok x w') : x = .skip := by
  cases r with
  | ok a w => injection h with h1 h2; exact h1.symm
  | halt y w => cases h
theorem tame_run {o : Oper} (ho : tame o = true) {ρ : Operand → Value} {w w' : World} {x : Next} (h : (execOp ρ o).run P w = .ok x w') : (∃ v, x = .value v) ∨ x = .skip := by
  obtain ⟨dst, op, ty, pos, aft, gd⟩ := o
  unfold tame at ho
  unfold execOp at h
  cases op <;> first | (simp only [Bool.false_eq_true] at ho; done) | skip
  all_goals simp only [Sem.run_bind, Sem.run_pure] at h
  all_goals first | exact .inl (andThen_val (f := fun v => v) h) | exact .inr (andThen_skip h) | (injection h with h1 h2; exact .inl ⟨_, h1.symm⟩)
theorem tame_about {o : Oper} (ho : tame o = true) (w : World) (ρ : Operand → Value) : o.about P w ρ = none := by
  obtain ⟨dst, op, ty, pos, aft, gd⟩ := o
  unfold tame at ho
  unfold Oper.about
  cases op <;> first | (simp only [Bool.false_eq_true] at ho; done) | rfl
theorem tame_plain {o : Oper} (ho : tame o = true) : ∀ c, o.op ≠ .defer c := by
  intro c hc
  unfold tame at ho
  rw [hc] at ho
  cases ho
theorem tame_wp {o : Oper} (ho : tame o = true) {a : Act} {w : World} {K : Act → World → Prop} (h : o.wp P a w K Q) : o.wpIn F n P a w K Q := by
  unfold Oper.wp at h
  unfold Oper.wpIn
  refine ⟨fun f hf => (by rw [tame_about ho] at hf; cases hf), ?_⟩
  rw [Oper.semAt_plain F _ o (tame_plain ho)]
  cases hr : (execOp a.eval o).run P w with
  | ok x w' =>
    rw [hr] at h
    rcases tame_run ho hr with ⟨v, rfl⟩ | rfl
    · exact h
    · exact h
  | halt y w' =>
    rw [hr] at h
    cases y <;> exact h
theorem tame_op (hL : ¬ LetsOut Q) (hT : ∀ (i : Nat) (o : Oper), ops[i]? = some o → tame o = true) {i : Nat} {a : Act} {w : World} {K : Act → World → Prop} (h : wpOp P ops Q i K a w) : wpOpIn F n P ops Q i K a w := by
  unfold wpOp at h
  unfold wpOpIn
  cases ho : ops[i]? with
  | none => rw [ho] at h; exact h
  | some o =>
    rw [ho] at h
    simp only at h ⊢
    split at h
    · rename_i hw
      rw [if_pos hw]
      exact tame_wp (hT i o ho) (h.resolve_right fun q => hL q.2)
    · rename_i hw
      rw [if_neg hw]
      exact ⟨fun f hf => (by rw [tame_about (hT i o ho)] at hf; cases hf), h⟩
theorem any_lift (hL : ¬ LetsOut Q) (hT : ∀ (i : Nat) (o : Oper), ops[i]? = some o → tame o = true) : ∀ (k : Nat) (l : Array Bool) (a : Act) (w : World), wpAny P md ops Q k l a w → wpAnyIn F n P md ops Q k l a w
  | 0, _, _, _, h => h
  | k + 1, l, a, w, h => ⟨h.1, fun i hi => by
      have h1 := tame_op (F := F) (n := n) hL hT (h.2 i hi)
      unfold wpOpIn at h1 ⊢
      cases ho : ops[i]? with
      | none => rw [ho] at h1; exact any_lift hL hT k _ _ _ h1
      | some o =>
        rw [ho] at h1
        simp only at h1 ⊢
        split at h1
        · rename_i hw
          rw [if_pos hw]
          exact Oper.wpIn_mono (fun a w q => any_lift hL hT k _ a w q) h1
        · rename_i hw
          rw [if_neg hw]
          exact ⟨h1.1, any_lift hL hT k _ _ _ h1.2⟩⟩
theorem tames {l : List Oper} (h : l.all tame = true) : ∀ (i : Nat) (o : Oper), l.toArray[i]? = some o → tame o = true := fun i o ho => by
  rw [List.getElem?_toArray] at ho
  exact List.all_eq_true.1 h o (List.mem_of_getElem? ho)
theorem not_lets {Q : Exit → Act → World → Prop} (h : ∀ a w, ¬ Q .outgrown a w) : ¬ LetsOut Q := fun ⟨a, w, q⟩ => h a w q
/-- A statement that draws its order, in a round. -/
theorem L_begin {id : Nat} {a : Act} {w : World} {l : List Oper} (G : World → Prop) (k m : Nat) (z : Array Bool) (hn : l.toArray.size = m) (hl : Array.replicate m false = z) (hm : P.follows .mixedOrders = true) (hT : l.all tame = true)
    (hL : ∀ a w, ¬ Q .outgrown a w) (h : AnyF P .any l.toArray (NoPanic Q) G k m z a w.drew) : (Code.region id l.toArray true).wpIn F n P Q a w := by
  subst hn; subst hl
  exact wpIn_mono (wpIn_region_any hm (any_lift (Q := NoPanic Q) (not_lets (fun a w q => hL a w q)) (tames hT) _ _ _ _ (AnyF.any _ _ _ _ h))) NoPanic.imp
theorem list_lift (hL : ¬ LetsOut Q) : ∀ (l : List Oper) (a : Act) (w : World), l.all tame = true → wpList P ops Q l a w → wpListIn F n P ops Q l a w
  | [], _, _, _, h => h
  | o :: r, a, w, hT, h => by
    rw [List.all_cons, Bool.and_eq_true] at hT
    unfold wpList at h
    unfold wpListIn
    split at h
    · rename_i hw
      rw [if_pos hw]
      exact Oper.wpIn_mono (fun a w q => list_lift hL r a w hT.2 q) (tame_wp hT.1 (h.resolve_right fun q => hL q.2))
    · rename_i hw
      rw [if_neg hw]
      exact ⟨fun f hf => (by rw [tame_about hT.1] at hf; cases hf), list_lift hL r _ _ hT.2 h⟩
/-- A statement in its one order, in a round. -/
theorem L_list {id : Nat} {a : Act} {w : World} {l : List Oper} (hT : l.all tame = true) (hL : ∀ a w, ¬ Q .outgrown a w) (h : wpList P l.toArray Q l a w) : (Code.region id l.toArray false).wpIn F n P Q a w :=
  wpIn_region_lit (list_lift (not_lets hL) l a w hT h)
end
end Go.Proofs.YtdebiobhmpoiiaaGreatDoor
namespace Go.Proofs.YtdebiobhmpoiiaaGreatDoor
open Go.RowKit Go.Shelf
attribute [local go_sem] Oper.semAt_some
/-- The state that lies k steps before state n. -/
def chn (S : List (Sta Grid)) (n : Nat) : Nat → Nat
  | 0 => n
  | k + 1 => (sta S (chn S n k)).from_
/-- What the places p, one after another, were filled with. -/
def wr (S : List (Sta Grid)) (n : Nat) : List Nat → Nat → (Nat → Nat) → Nat → Nat
  | [], _, f => f
  | x :: p, k, f => wr S n p (k + 1) (fun j => if j = x then lastB (sta S (chn S n k)) else f j)
theorem wr_snoc (S : List (Sta Grid)) (n x : Nat) : ∀ (p : List Nat) (k : Nat) (f : Nat → Nat) (j : Nat), wr S n (p ++ [x]) k f j = if j = x then lastB (sta S (chn S n (k + p.length))) else wr S n p k f j
  | [], k, f, j => by simp [wr]
  | y :: p, k, f, j => by
    rw [List.cons_append]
    unfold wr
    rw [wr_snoc S n x p (k + 1) _ j, List.length_cons, show k + 1 + p.length = k + (p.length + 1) by omega]
def wrow (S : List (Sta Grid)) (n : Nat) (p : List Nat) : Nat → Nat := wr S n p 0 (fun _ => 0)
theorem wrow_snoc (S : List (Sta Grid)) (n x : Nat) (p : List Nat) (j : Nat) : wrow S n (p ++ [x]) j = if j = x then lastB (sta S (chn S n p.length)) else wrow S n p j := by
  unfold wrow
  rw [wr_snoc, Nat.zero_add]
theorem wrow_dn (S : List (Sta Grid)) (n d : Nat) : ∀ (t m : Nat), m + t = d → ∀ j, j < d → wrow S n (dn d m) j = if m ≤ j then lastB (sta S (chn S n (d - 1 - j))) else 0
  | 0, m, h, j, hj => by
    obtain rfl : m = d := by omega
    rw [dn_none, if_neg (by omega)]
    rfl
  | t + 1, m, h, j, hj => by
    rw [dn_succ (q := m) (by omega), wrow_snoc, dn_length, wrow_dn S n d t (m + 1) (by omega) j hj]
    by_cases e : j = m
    · subst e
      rw [if_pos rfl, if_pos (Nat.le_refl _), show d - (j + 1) = d - 1 - j by omega]
    · rw [if_neg e]
      by_cases h2 : m ≤ j
      · rw [if_pos h2, if_pos (by omega)]
      · rw [if_neg h2, if_neg (by omega)]
def byL (d : Nat) (f : Nat → Nat) : List Value := (List.range d).map fun j => Value.int .u8 (f j)
theorem byL_length (d : Nat) (f : Nat → Nat) : (byL d f).length = d := by simp [byL]
theorem byL_at {d : Nat} {f : Nat → Nat} {j : Nat} (h : j < d) : (byL d f)[j]? = some (.int .u8 (f j)) := by
  unfold byL
  rw [List.getElem?_map, List.getElem?_range h]
  rfl
theorem byL_set {d : Nat} {f g : Nat → Nat} {x v : Nat} (hx : x < d) (hg : ∀ j, j < d → g j = if j = x then v else f j) : (byL d f).toArray.setIfInBounds x (.int .u8 v) = (byL d g).toArray := by
  rw [List.setIfInBounds_toArray]
  congr 1
  apply List.ext_getElem?
  intro i
  by_cases hi : i < d
  · rw [byL_at hi, hg i hi]
    by_cases e : i = x
    · subst e
      rw [if_pos rfl, List.getElem?_set_self (by rw [byL_length]; exact hi)]
    · rw [if_neg e, List.getElem?_set_ne (fun h => e h.symm), byL_at hi]
  · rw [List.getElem?_eq_none (by rw [List.length_set, byL_length]; omega), List.getElem?_eq_none (by rw [byL_length]; omega)]
theorem made_byL {w w1 : World} {B d : Nat} {T : TypeId} (N : New w w1 B (madeCells (Value.int .u8 0).cells (d * 1)) T) : Blk w1 B (byL d (fun _ => 0)).toArray T := by
  have e : madeCells (Value.int .u8 0).cells (d * 1) = (byL d (fun _ => 0)).toArray := by
    apply Array.ext'
    rw [Nat.mul_one]
    simp [madeCells, byL, Value.cells]
    intro a _
    simp [Nat.mod_one]
  rw [← e]
  exact N.blk
/-- The word to state n. -/
def wrdB (S : List (Sta Grid)) (n : Nat) : ByteArray := ⟨((List.range (sta S n).far).map fun j => UInt8.ofNat (lastB (sta S (chn S n ((sta S n).far - 1 - j))))).toArray⟩
theorem lastB_lt (s : Sta Grid) : lastB s < 256 := by
  unfold lastB
  split
  · decide
  · exact UInt8.toNat_lt _
theorem wrdB_size (S : List (Sta Grid)) (n : Nat) : (wrdB S n).size = (sta S n).far := by
  show (wrdB S n).data.size = _
  simp [wrdB]
theorem wrdB_bytes {S : List (Sta Grid)} {n B : Nat} {w : World} {T : TypeId} {f : Nat → Nat} (h : Blk w B (byL (sta S n).far f).toArray T) (hf : ∀ j, j < (sta S n).far → f j = lastB (sta S (chn S n ((sta S n).far - 1 - j)))) : Lib.Bytes w B 0 (wrdB S n) := by
  intro i hi
  have hi' : i < (sta S n).far := by rw [← wrdB_size]; exact hi
  rw [Nat.zero_add, h.cell i, List.getElem?_toArray, byL_at hi', hf i hi']
  congr 2
  show _ = (((wrdB S n).data[i]'hi).toNat : Int)
  simp only [wrdB, List.getElem_toArray, List.getElem_map, List.getElem_range]
  have hb := lastB_lt (sta S (chn S n ((sta S n).far - 1 - i)))
  generalize lastB (sta S (chn S n ((sta S n).far - 1 - i))) = z at hb ⊢
  rw [UInt8.toNat_ofNat', Nat.mod_eq_of_lt hb]
theorem chn_lt {S : List (Sta Grid)} {n : Nat} (hn : n < S.length) (hf : ∀ j, j < S.length → (sta S j).from_ < S.length) : ∀ k, chn S n k < S.length
  | 0 => hn
  | k + 1 => hf _ (chn_lt hn hf k)
section
variable {P : Program} {w : World} {ops : Array Oper} {rest : List Oper} {a : Act} {Q : Exit → Act → World → Prop} {dst : Option Tmp} {ty : TypeId} {pos : String} {aft : Array Edge} {gd : Option (Nat × Bool)}
theorem e_lssW {T yt : TypeId} (x y : Operand) (m n : Int) (b : Bool) (hx : a.eval x = .int .i64 m) (hy : a.eval y = .int .i64 n) (hb : decide (m < n) = b) :
    (execOp a.eval ⟨dst, .binOp .lss T x y yt, ty, pos, aft, gd⟩).run P w = .ok (.value (.bool b)) w := by
  subst hb
  unfold execOp
  simp [hx, hy, eqGuard, binOp, Op.intCmp]
theorem e_gtrW {T yt : TypeId} (x y : Operand) (m n : Int) (b : Bool) (hx : a.eval x = .int .i64 m) (hy : a.eval y = .int .i64 n) (hb : decide (n < m) = b) :
    (execOp a.eval ⟨dst, .binOp .gtr T x y yt, ty, pos, aft, gd⟩).run P w = .ok (.value (.bool b)) w := by
  subst hb
  unfold execOp
  simp [hx, hy, eqGuard, binOp, Op.intCmp]
theorem r_lssW (T yt : TypeId) (x y : Operand) (m n : Int) (b : Bool) (hx : a.eval x = .int .i64 m) (hy : a.eval y = .int .i64 n) (hb : decide (m < n) = b)
    (hgd : Region.wanted ⟨dst, .binOp .lss T x y yt, ty, pos, aft, gd⟩ (yielded ops a.tmps) = true) (h : wpList P ops Q rest (a.put dst (.bool b)) w) : wpList P ops Q (⟨dst, .binOp .lss T x y yt, ty, pos, aft, gd⟩ :: rest) a w :=
  r_val (.bool b) (e_lssW x y m n b hx hy hb) hgd h
theorem r_gtrW (T yt : TypeId) (x y : Operand) (m n : Int) (b : Bool) (hx : a.eval x = .int .i64 m) (hy : a.eval y = .int .i64 n) (hb : decide (n < m) = b)
    (hgd : Region.wanted ⟨dst, .binOp .gtr T x y yt, ty, pos, aft, gd⟩ (yielded ops a.tmps) = true) (h : wpList P ops Q rest (a.put dst (.bool b)) w) : wpList P ops Q (⟨dst, .binOp .gtr T x y yt, ty, pos, aft, gd⟩ :: rest) a w :=
  r_val (.bool b) (e_gtrW x y m n b hx hy hb) hgd h
theorem r_boxv (T : TypeId) (x : Operand) (u : Value) (hx : a.eval x = u) (hb : ∀ w, (Instr.box T u).run P w = .ok (.pointer (some ⟨w.heap.size, 0, none⟩)) (w.alloc (.cells #[u] T)))
    (hgd : Region.wanted ⟨dst, .box T x, ty, pos, aft, gd⟩ (yielded ops a.tmps) = true) (h : ∀ w1 B, New w w1 B #[u] T → wpList P ops Q rest (a.put dst (.pointer (some ⟨B, 0, none⟩))) w1) : wpList P ops Q (⟨dst, .box T x, ty, pos, aft, gd⟩ :: rest) a w :=
  wpList_want hgd fun _ hK => by
    unfold Oper.wp execOp
    simp only [hx, Sem.run_bind, hb w, Result.andThen_ok, Sem.run_pure, Oper.upon]
    exact hK _ _ (h _ _ (New.mk' w _ T))
end
theorem Upd.others {B : Nat} {w w' : World} {cs : Array Value} {T : TypeId} (u : Upd B w w') (h : Blk w B cs T) : KeepsOthers w w' :=
  ⟨by rw [u.size]; exact Nat.le_refl _, fun k o hk ho => by
    by_cases e : k = B
    · subst e
      unfold Blk at h
      rw [h] at hk
      cases hk
      cases ho
    · exact u.keep hk e⟩
set_option maxHeartbeats 1000000 in
set_option maxRecDepth 100000 in
theorem wordTo_neg (v : Value) (w : World) (p : Option Addr) (m k : Nat) (hv : v = .slice p m k) : Calls Tryz.prog 25 #[v, .int .i64 (-1)] w (Ret (.tuple #[.string ⟨#[]⟩, .bool false]) w) := by
  have gg := Gr.refl w
  subst hv
  refine (callsIn_wide (n := 9)).1 ?_
  refine callsIn_of_wp_marks Tryz.func25 rfl trivial ?_ rfl
  refine wpIn_wide.2 ?_
  simp only [Tryz.ntmps25, List.size_toArray, List.length_cons, List.length_nil, Nat.reduceAdd, Nat.reduceSub, Array.replicate_succ, Array.replicate_zero, List.push_toArray, List.append_toArray, List.nil_append, List.cons_append]
  go_wp2
  exact ⟨_, by simp [results, Tryz.f25, go_sem], rfl, ((Gr.refl w).alloc _).alloc _⟩
theorem Upd.cellV {B : Nat} {w w' : World} (u : Upd B w w') {a : Addr} {v : Value} (h : w.cell? a = some v) (hne : a.block ≠ B) : w'.cell? a = some v := by
  unfold World.cell? at h ⊢
  rw [u.block _ hne]
  exact h
theorem OwnFrom.blkV {β : Type} {B : Nat} {k : Nat} {cs : β → Array Value} {T : TypeId} : OwnFrom B (fun (s : β) W => Blk W k (cs s) T) := fun s W W' row hs hg hr =>
  Grb.blk (⟨hg⟩ : Grb row W W') hs (fun e => by
    obtain ⟨-, o, ho, hc⟩ := hr k e
    have hs' : W.heap[k]? = some (.cells (cs s) T (0, 0)) := hs
    rw [hs'] at ho
    cases ho
    cases hc)
theorem blk_neT {w : World} {B C : Nat} {cs ds : Array Value} {T U : TypeId} (h : Blk w B cs T) (k : Blk w C ds U) (hne : T ≠ U) : B ≠ C := fun e => by
  subst e
  unfold Blk at h k
  rw [h] at k
  cases k
  exact hne rfl
theorem byL_u8s {W : World} {B d : Nat} {f : Nat → Nat} {T : TypeId} (h : Blk W B (byL d f).toArray T) : U8s W B 0 d := fun j hj => ⟨(f j : Int), by rw [Nat.zero_add, h.cell j, List.getElem?_toArray]; exact byL_at hj⟩
theorem byL_free {W : World} {B d : Nat} {f : Nat → Nat} {T : TypeId} (h : Blk W B (byL d f).toArray T) (i : Nat) : W.frozen? ⟨B, i, none⟩ = false := h.free i
set_option maxHeartbeats 200000 in
set_option maxRecDepth 100000 in
theorem wordTo_yes (S : List (Sta Grid)) (nx : Nat → Value) (base g cap n : Nat) (w : World) (hr : w.ownsRow base 101 43 (.slice (some ⟨g, 0, none⟩) S.length cap) S.length (rowsI S nx).flatten) (hn : n < S.length)
    (hf : ∀ k, k ≤ (sta S n).far → chn S n k < S.length) (hd : (sta S n).far ≤ 40) : Calls Tryz.prog 25 #[.slice (some ⟨g, 0, none⟩) S.length cap, .int .i64 n] w (Ret (.tuple #[.string (wrdB S n), .bool true]) w) := by
  have gg := Gr.refl w
  obtain ⟨d, hd'⟩ : ∃ d, d = (sta S n).far := ⟨_, rfl⟩
  rw [← hd'] at hd hf
  have c1 : ∀ W : World, W.ownsRow base 101 43 (.slice (some ⟨g, 0, none⟩) S.length cap) S.length (rowsI S nx).flatten → W.cell? ⟨g, n * 43 + 38, none⟩ = some (.int .i64 d) := fun W h => by
    rw [hd']; exact ORel.cell h hn 0 (by decide)
  have HC1 := hidI c1
  have hmk : d * 1 ≤ 16777216 := by omega
  have hby : 1 * d ≤ 281474976710656 := by omega
  have HD := hidI hd'
  have HROW := hidI hr
  have HF := hidI hf
  clear c1 hd' hf
  refine (callsIn_wide (n := 9)).1 ?_
  refine callsIn_of_wp_marks Tryz.func25 rfl trivial ?_ rfl
  refine wpIn_wide.2 ?_
  simp only [Tryz.ntmps25, List.size_toArray, List.length_cons, List.length_nil, Nat.reduceAdd, Nat.reduceSub, Array.replicate_succ, Array.replicate_zero, List.push_toArray, List.append_toArray, List.nil_append, List.cons_append]
  have HLN := hidI (show decide ((n : Int) < 0) = false from decide_eq_false (by omega))
  have HGD := hidI (show decide ((40 : Int) < (d : Int)) = false from decide_eq_false (by omega))
  go_wp2_with (first | (refine r_boxv 47 (.tmp 0) (.slice (some ⟨g, 0, none⟩) S.length cap) rfl (fun _ => rfl) rfl ?_; intro w1 B1 N1; have g1 := N1.gr; have b1 : Blk w1 B1 #[.slice (some ⟨g, 0, none⟩) S.length cap] 47 := N1.blk; have l1 := N1.lo; have z1 := g1.size; have hr := g1.row hr; have gg := gg.trans g1; clear N1) | (refine r_boxv 3 (.tmp 1) (.int .i64 n) rfl (fun _ => rfl) rfl ?_; intro w2 B2 N2; have g2 := N2.gr; have b2 : Blk w2 B2 #[.int .i64 n] 3 := N2.blk; have l2 := N2.lo; have z2 := g2.size; have hr := g2.row hr; have b1 := g2.blk b1; have t1 := b1.lt; have gg := gg.trans g2; have cS : w2.cell? ⟨B1, 0, none⟩ = some (.slice (some ⟨g, 0, none⟩) S.length cap) := b1.cell 0; have cN : w2.cell? ⟨B2, 0, none⟩ = some (.int .i64 n) := b2.cell 0; have cF := HC1.out _ hr; clear N2) | (refine r_make 58 5 _ _ _ Tryz.bytesI (.tmp 22) (.tmp 22) d rfl rfl hmk hby (by omega) rfl ?_; intro w3 G3 N3; have g3 := N3.gr; have b3 := made_byL N3; have t3 := b3.lt; have l3 := N3.lo; have z3 := g3.size; have hr := g3.row hr; have b1 := g3.blk b1; have b2 := g3.blk b2; have t2 := b2.lt; have gg := gg.trans g3; clear N3) | (refine r_alloc 58 (.slice none 0 0) (fun _ => rfl) rfl ?_; intro w4 B4 N4; have g4 := N4.gr; have b4 : Blk w4 B4 #[.slice none 0 0] 58 := N4.blk; have l4 := N4.lo; have z4 := g4.size; have hr := g4.row hr; have b1 := g4.blk b1; have b2 := g4.blk b2; have b3 := g4.blk b3; have gg := gg.trans g4; clear N4) | (refine r_store_cell 58 58 (.tmp 6) (.tmp 23) B4 0 rfl (.slice (some ⟨G3, 0, none⟩) d d) rfl _ b4 (by decide) Tryz.sizeOf58 rfl rfl ?_; intro w5 u5 b4'; have hr := u5.row hr (own_ne hr b4 (by decide)); have z5 := u5.size; have b1 := u5.blk b1 (by omega); have b2 := u5.blk b2 (by omega); have b3 := u5.blk b3 (by omega); have gg := u5.gr gg (by omega); clear b4; have b4 : Blk w5 B4 #[.slice (some ⟨G3, 0, none⟩) d d] 58 := b4'; clear b4') | (refine r_ldc 58 (.tmp 6) ⟨B4, 0, none⟩ (.slice (some ⟨G3, 0, none⟩) d d) rfl (Tryz.isAgg58 _) (b4.cell 0) rfl ?_) | (go_at_call 48; refine (callsIn_wide.1 (Tryz.back_in Fence.wide 9 trivial rfl _ _ _ _)).mono ?_; rintro e w6 ⟨rfl, h6⟩; have N6 := New.mk' w5 #[.slice (some ⟨G3, 0, none⟩) d d] 58; rw [← h6] at N6; clear h6; have g6 := N6.gr; have b6 : Blk w6 w5.heap.size #[.slice (some ⟨G3, 0, none⟩) d d] 58 := N6.blk; have hr := g6.row hr; have b1 := g6.blk b1; have b2 := g6.blk b2; have b3 := g6.blk b3; have t4 := b4.lt; have b4 := g6.blk b4; have z6 := g6.size; have gg := gg.trans g6; clear N6))
  have zz := gg.size
  have nB12 : B1 ≠ B2 := blk_neT b1 b2 (by decide)
  have nB13 : B1 ≠ G3 := blk_neT b1 b3 (by decide)
  have nB14 : B1 ≠ B4 := blk_neT b1 b4 (by decide)
  have nB23 : B2 ≠ G3 := blk_neT b2 b3 (by decide)
  have nB24 : B2 ≠ B4 := blk_neT b2 b4 (by decide)
  have nB34 : G3 ≠ B4 := blk_neT b3 b4 (by decide)
  have nBs2 : w5.heap.size ≠ B2 := blk_neT b6 b2 (by decide)
  have nBs3 : w5.heap.size ≠ G3 := blk_neT b6 b3 (by decide)
  have lo2 : w.heap.size ≤ B2 := by omega
  have lo3 : w.heap.size ≤ G3 := by omega
  have hgl := (HROW.out.lt g rfl).2
  have ng2 : g ≠ B2 := by omega
  have ng3 : g ≠ G3 := by omega
  have hBs : w5.heap.size < w6.heap.size := b6.lt
  generalize hH5 : w5.heap.size = Bs at *
  refine (wpIn_wide (n := 9)).1 ?_
  refine wpIn_rangeFunc_ownG (hro := rfl) (h1 := by decide) (gf := 70) (lb := #[.pointer (some ⟨Bs, 0, none⟩)]) rfl trivial (enters_of Tryz.func70 (by kernel_rfl) rfl)
    (Tryz.back_stops Fence.wide (9 - 1) trivial rfl (by decide) Bs G3 0 d d (by omega) w6 hBs (by omega) (b6.cell 0) (byL_u8s b3)) (fun h k => kpB_t h k) (fun W l o o' _ h hc _ => kpB_b W l o o' h hc) (Below.refl _ _) (fun _ => rfl)
    (fun pre W => (Blk W B1 #[.slice (some ⟨g, 0, none⟩) S.length cap] 47 ∧ Blk W B2 #[.int .i64 (chn S n pre.length : Nat)] 3) ∧ ((Blk W B4 #[.slice (some ⟨G3, 0, none⟩) d d] 58 ∧ Blk W G3 (byL d (wrow S n (pre.map fun x => x.1.1))).toArray 5) ∧ Below w.heap.size w W))
    (fun _ _ _ => False)
    (OwnFrom.and (OwnFrom.and OwnFrom.blkV OwnFrom.blkV) (OwnFrom.and (OwnFrom.and OwnFrom.blkV OwnFrom.blkV) (ownFrom_below (Nat.le_refl _) zz)))
    (fun _ _ _ _ _ hs _ _ => hs)
    ⟨⟨b1, b2⟩, ⟨b4, b3⟩, gg⟩
    (fun x => { tmps := #[.slice (some ⟨g, 0, none⟩) S.length cap, .int .i64 n, .pointer (some ⟨B1, 0, none⟩), .pointer (some ⟨B2, 0, none⟩), .string ⟨#[]⟩, .bool false, .pointer (some ⟨B4, 0, none⟩), .int .i64 (x.1.1 : Int), .int .i64 n, .bool (decide ((n : Int) < 0)), .bool (decide ((n : Int) < 0)), .slice (some ⟨g, 0, none⟩) S.length cap, .int .i64 n, .pointer (some ⟨g, n * 43, none⟩), .pointer (some ⟨g, n * 43 + 38, none⟩), .int .i64 d, .bool (decide ((40 : Int) < (d : Int))), .bool (decide ((n : Int) < 0) || decide ((40 : Int) < (d : Int))), .slice (some ⟨g, 0, none⟩) S.length cap, .int .i64 n, .pointer (some ⟨g, n * 43, none⟩), .pointer (some ⟨g, n * 43 + 38, none⟩), .int .i64 d, .slice (some ⟨G3, 0, none⟩) d d, .slice (some ⟨G3, 0, none⟩) d d, .func (.func 70) #[] #[.pointer (some ⟨Bs, 0, none⟩)], .int .i64 (x.1.1 : Int), .int .u8 x.2, undef, undef, undef, undef, undef, undef, undef, undef, undef, undef, undef, undef, undef, undef, undef], defers := [] }) ?assign ?body ?done ?stop
  case assign =>
    intro l x W K hK
    gi_wp2
    exact hK
  case body =>
    rintro l pre x W ⟨⟨hb1, hb2⟩, ⟨hb4, hb3⟩, hB⟩ hpl
    have hchn := HF.out pre.length (by omega)
    obtain ⟨m, hm⟩ : ∃ m, m = chn S n pre.length := ⟨_, rfl⟩
    rw [← hm] at hb2 hchn
    have hxd := x.1.2
    obtain ⟨i, hi⟩ : ∃ i, i = x.1.1 := ⟨_, rfl⟩
    rw [← hi] at hxd
    have row := Gr.row hB HROW.out
    have c5 : W.cell? ⟨g, m * 43 + 41, none⟩ = some (.int .u8 (lastB (sta S m))) := ORel.cell row hchn 3 (by decide)
    have c4 : W.cell? ⟨g, m * 43 + 40, none⟩ = some (.int .i64 ((sta S m).from_ : Int)) := ORel.cell row hchn 2 (by decide)
    have HPR := hidI (show (pre ++ [x]).map (fun x => x.1.1) = pre.map (fun x => x.1.1) ++ [i] from by rw [List.map_append, hi]; rfl)
    have HLN2 := hidI (show chn S n (pre ++ [x]).length = (sta S m).from_ from by rw [List.length_append, hm]; rfl)
    obtain ⟨pp, hpp⟩ : ∃ pp, pp = pre.map (fun x => x.1.1) := ⟨_, rfl⟩
    have hppl : pp.length = pre.length := by rw [hpp, List.length_map]
    rw [← hpp] at hb3 HPR
    have HST := hidI (byL_set (d := d) (f := wrow S n pp) (g := wrow S n (pp ++ [i])) (x := i) (v := lastB (sta S m)) hxd (fun j _ => by rw [wrow_snoc, hppl, ← hm]))
    have c1 : W.cell? ⟨B1, 0, none⟩ = some (.slice (some ⟨g, 0, none⟩) S.length cap) := hb1.cell 0
    have c2 : W.cell? ⟨B2, 0, none⟩ = some (.int .i64 (m : Nat)) := hb2.cell 0
    have c6 : W.cell? ⟨B4, 0, none⟩ = some (.slice (some ⟨G3, 0, none⟩) d d) := hb4.cell 0
    obtain ⟨lb, hlb⟩ : ∃ lb, lb = lastB (sta S m) := ⟨_, rfl⟩
    rw [← hlb] at c5 HST
    obtain ⟨fr, hfr⟩ : ∃ fr, fr = (sta S m).from_ := ⟨_, rfl⟩
    rw [← hfr] at c4 HLN2
    clear hm hppl hpp hlb hfr row
    refine wpIn_block ?_
    refine wpIn_seq ?_
    skip
    refine L_begin (fun w' => w'.cell? ⟨B1, 0, none⟩ = some (.slice (some ⟨g, 0, none⟩) S.length cap) ∧ w'.cell? ⟨B2, 0, none⟩ = some (.int .i64 (m : Nat)) ∧ w'.cell? ⟨B4, 0, none⟩ = some (.slice (some ⟨G3, 0, none⟩) d d) ∧ w'.cell? ⟨g, m * 43 + 41, none⟩ = some (.int .u8 lb)) 8 9 #[false, false, false, false, false, false, false, false, false] rfl rfl (by kernel_rfl) rfl (fun _ _ h => h) ?_
    have hG : (fun w' : World => w'.cell? ⟨B1, 0, none⟩ = some (.slice (some ⟨g, 0, none⟩) S.length cap) ∧ w'.cell? ⟨B2, 0, none⟩ = some (.int .i64 (m : Nat)) ∧ w'.cell? ⟨B4, 0, none⟩ = some (.slice (some ⟨G3, 0, none⟩) d d) ∧ w'.cell? ⟨g, m * 43 + 41, none⟩ = some (.int .u8 lb)) W.drew := ⟨c1, c2, c6, c5⟩
    refine F_take (v := .slice (some ⟨G3, 0, none⟩) d d) 0 #[true, false, false, false, false, false, false, false, false] rfl (by kernel_rfl) (fun _ _ _ h => h) rfl (fun w hF => e_load 58 (.tmp 6) _ _ rfl (Tryz.isAgg58 _) hF.2.2.1) (hG) ?_; simp only [Act.put, List.setIfInBounds_toArray, List.set_cons_succ, List.set_cons_zero]
    rw [← hi]
    refine F_free (v := .int .i64 i) 1 #[true, true, false, false, false, false, false, false, false] rfl (by kernel_rfl) (fun _ _ _ h => h) rfl (fun _ => rfl) (hG) ?_; simp only [Act.put, List.setIfInBounds_toArray, List.set_cons_succ, List.set_cons_zero]
    refine F_take (v := .slice (some ⟨g, 0, none⟩) S.length cap) 2 #[true, true, true, false, false, false, false, false, false] rfl (by kernel_rfl) (fun _ _ _ h => h) rfl (fun w hF => e_load 47 (.tmp 2) _ _ rfl (Tryz.isAgg47 _) hF.1) (hG) ?_; simp only [Act.put, List.setIfInBounds_toArray, List.set_cons_succ, List.set_cons_zero]
    refine F_take (v := .int .i64 m) 3 #[true, true, true, true, false, false, false, false, false] rfl (by kernel_rfl) (fun _ _ _ h => h) rfl (fun w hF => e_load 3 (.tmp 3) _ _ rfl (Tryz.isAgg3 _) hF.2.1) (hG) ?_; simp only [Act.put, List.setIfInBounds_toArray, List.set_cons_succ, List.set_cons_zero]
    refine F_free (v := .pointer (some ⟨g, m * 43, none⟩)) 4 #[true, true, true, true, true, false, false, false, false] rfl (by kernel_rfl) (fun _ _ _ h => h) rfl (fun _ => e_val _ _ (Tryz.stix g S.length cap m hchn _)) (hG) ?_; simp only [Act.put, List.setIfInBounds_toArray, List.set_cons_succ, List.set_cons_zero]
    refine F_free (v := .pointer (some ⟨g, m * 43 + 41, none⟩)) 5 #[true, true, true, true, true, true, false, false, false] rfl (by kernel_rfl) (fun _ _ _ h => h) rfl (fun _ => e_val _ _ (Tryz.stf4 g (m * 43) _)) (hG) ?_; simp only [Act.put, List.setIfInBounds_toArray, List.set_cons_succ, List.set_cons_zero]
    refine F_take (v := .int .u8 lb) 6 #[true, true, true, true, true, true, true, false, false] rfl (by kernel_rfl) (fun _ _ _ h => h) rfl (fun w hF => e_load 5 (.tmp 33) _ _ rfl (Tryz.isAgg5 _) hF.2.2.2) (hG) ?_; simp only [Act.put, List.setIfInBounds_toArray, List.set_cons_succ, List.set_cons_zero]
    refine F_free (v := .pointer (some ⟨G3, i, none⟩)) 7 #[true, true, true, true, true, true, true, true, false] rfl (by kernel_rfl) (fun _ _ _ h => h) rfl (fun _ => e_val _ _ (Tryz.six0 G3 d d i hxd _)) (hG) ?_; simp only [Act.put, List.setIfInBounds_toArray, List.set_cons_succ, List.set_cons_zero]
    refine F_one 8 #[true, true, true, true, true, true, true, true, true] rfl (by kernel_rfl) ?_
    have hb1 : Blk W.drew B1 #[.slice (some ⟨g, 0, none⟩) S.length cap] 47 := hb1
    have hb2 : Blk W.drew B2 #[.int .i64 (m : Nat)] 3 := hb2
    have hb4 : Blk W.drew B4 #[.slice (some ⟨G3, 0, none⟩) d d] 58 := hb4
    have hb3 : Blk W.drew G3 (byL d (wrow S n pp)).toArray 5 := hb3
    refine r_store_cell 5 5 (.tmp 35) (.tmp 34) G3 i rfl (.int .u8 lb) rfl _ hb3 (by rw [List.size_toArray, byL_length]; exact hxd) Tryz.sizeOf5 rfl rfl ?_
    intro W1 u1 b31
    rw [HST.out] at b31
    refine ⟨fun h => (by cases h), ?_⟩
    refine F_done (by kernel_rfl) ?_
    have b11 := u1.blk hb1 nB13
    have b21 := u1.blk hb2 nB23
    have b41 := u1.blk hb4 nB34.symm
    have c41 : W1.cell? ⟨g, m * 43 + 40, none⟩ = some (.int .i64 (fr : Int)) := u1.cellV (show W.drew.cell? _ = _ from c4) ng3
    refine L_list rfl (fun _ _ h => h) ?_
    refine r_ldc 47 (.tmp 2) ⟨B1, 0, none⟩ (.slice (some ⟨g, 0, none⟩) S.length cap) rfl (Tryz.isAgg47 _) (b11.cell 0) rfl ?_
    simp only [Act.put, List.setIfInBounds_toArray, List.set_cons_succ, List.set_cons_zero]
    refine r_ldc 3 (.tmp 3) ⟨B2, 0, none⟩ (.int .i64 m) rfl (Tryz.isAgg3 _) (b21.cell 0) rfl ?_
    simp only [Act.put, List.setIfInBounds_toArray, List.set_cons_succ, List.set_cons_zero]
    refine r_idx 47 (.tmp 36) (.tmp 37) (.slice (some ⟨g, 0, none⟩) S.length cap) (.int .i64 m) _ rfl rfl (Tryz.stix g S.length cap m hchn _) rfl ?_
    simp only [Act.put, List.setIfInBounds_toArray, List.set_cons_succ, List.set_cons_zero]
    refine r_fld 101 (.tmp 38) 3 (.pointer (some ⟨g, m * 43, none⟩)) (.pointer (some ⟨g, m * 43 + 40, none⟩)) rfl (Tryz.stf3 g (m * 43) _) rfl ?_
    simp only [Act.put, List.setIfInBounds_toArray, List.set_cons_succ, List.set_cons_zero]
    refine r_ldc 3 (.tmp 39) ⟨g, m * 43 + 40, none⟩ (.int .i64 fr) rfl (Tryz.isAgg3 _) c41 rfl ?_
    simp only [Act.put, List.setIfInBounds_toArray, List.set_cons_succ, List.set_cons_zero]
    refine r_store_cell 3 3 (.tmp 3) (.tmp 40) B2 0 rfl (.int .i64 fr) rfl _ b21 (by show 0 < 1; decide) Tryz.sizeOf3 rfl rfl ?_
    intro W2 u2 b22
    have b12 := u2.blk b11 nB12
    have b42 := u2.blk b41 nB24.symm
    have b32 := u2.blk b31 nB23.symm
    have kd : KeepsOthers W W.drew := ⟨Nat.le_refl _, fun _ _ h _ => h⟩
    refine ⟨((kd.trans (u1.others hb3)).trans (u2.others b21)).from _, ⟨fun v hv => u2.cellV (u1.cellV hv nBs3) nBs2, fun _ => byL_u8s b32⟩, ?_⟩
    dsimp only
    rw [HPR.out, HLN2.out]
    exact ⟨⟨b12, b22⟩, ⟨b42, b32⟩, u2.gr (u1.gr ((show Gr w W from hB).trans (Gr.refl W).drew) lo3) lo2⟩
  case done =>
    rintro D ys W hD hys ⟨⟨hb1, hb2⟩, ⟨hb4, hb3⟩, hB⟩ hK
    rw [hys] at hb3
    have hby := wrdB_bytes (S := S) (n := n) (B := G3) (w := W) (T := 5) (f := wrow S n (dn d 0)) (HD.out ▸ hb3) (fun j hj => by
      rw [wrow_dn S n d d 0 (by omega) j (by rw [HD.out]; exact hj), if_pos (Nat.zero_le _), HD.out])
    have hsz : (wrdB S n).size = d := by rw [wrdB_size, HD.out]
    have HSZ := hidI hsz
    clear hsz
    go_wp2_with (first | (refine r_ldc 58 (.tmp 6) ⟨B4, 0, none⟩ (.slice (some ⟨G3, 0, none⟩) d d) rfl (Tryz.isAgg58 _) (hb4.cell 0) rfl ?_) | (refine r_conv 58 9 _ _ (.string (wrdB S n)) rfl (Tryz.conv G3 0 _ _ _ hby d HSZ.out) rfl ?_))
    refine ⟨by simp, .inl ⟨_, _, rfl, run_takeDeferred hK, ?_⟩⟩
    have hgr : Gr w (W.putObj D (.deferred none)) := (⟨grownBy_putObj' W D _⟩ : Grb (some D) W (W.putObj D (.deferred none))).gr hB (fun k e => by
      obtain rfl := Option.some.inj e
      omega)
    exact ⟨_, by simp [results, Tryz.f25, go_sem], rfl, hgr⟩
  case stop =>
    rintro D c pre W _ _ h _
    exact h.elim
set_option maxHeartbeats 1000000 in
set_option maxRecDepth 100000 in
theorem wordTo_far (S : List (Sta Grid)) (nx : Nat → Value) (base g cap n : Nat) (w : World) (hr : w.ownsRow base 101 43 (.slice (some ⟨g, 0, none⟩) S.length cap) S.length (rowsI S nx).flatten) (hn : n < S.length)
    (hd : ¬ (sta S n).far ≤ 40) : Calls Tryz.prog 25 #[.slice (some ⟨g, 0, none⟩) S.length cap, .int .i64 n] w (Ret (.tuple #[.string ⟨#[]⟩, .bool false]) w) := by
  have gg := Gr.refl w
  obtain ⟨d, hd'⟩ : ∃ d, d = (sta S n).far := ⟨_, rfl⟩
  rw [← hd'] at hd
  have c1 : ∀ W : World, W.ownsRow base 101 43 (.slice (some ⟨g, 0, none⟩) S.length cap) S.length (rowsI S nx).flatten → W.cell? ⟨g, n * 43 + 38, none⟩ = some (.int .i64 d) := fun W h => by
    rw [hd']; exact ORel.cell h hn 0 (by decide)
  have HC1 := hidI c1
  clear c1 hd'
  refine (callsIn_wide (n := 9)).1 ?_
  refine callsIn_of_wp_marks Tryz.func25 rfl trivial ?_ rfl
  refine wpIn_wide.2 ?_
  simp only [Tryz.ntmps25, List.size_toArray, List.length_cons, List.length_nil, Nat.reduceAdd, Nat.reduceSub, Array.replicate_succ, Array.replicate_zero, List.push_toArray, List.append_toArray, List.nil_append, List.cons_append]
  have HLN := hidI (show decide ((n : Int) < 0) = false from decide_eq_false (by omega))
  have HGD := hidI (show decide ((40 : Int) < (d : Int)) = true from decide_eq_true (by omega))
  go_wp2_with (first | (refine r_boxv 47 (.tmp 0) (.slice (some ⟨g, 0, none⟩) S.length cap) rfl (fun _ => rfl) rfl ?_; intro w1 B1 N1; have g1 := N1.gr; have b1 : Blk w1 B1 #[.slice (some ⟨g, 0, none⟩) S.length cap] 47 := N1.blk; have l1 := N1.lo; have z1 := g1.size; have hr := g1.row hr; have gg := gg.trans g1; clear N1) | (refine r_boxv 3 (.tmp 1) (.int .i64 n) rfl (fun _ => rfl) rfl ?_; intro w2 B2 N2; have g2 := N2.gr; have b2 : Blk w2 B2 #[.int .i64 n] 3 := N2.blk; have l2 := N2.lo; have z2 := g2.size; have hr := g2.row hr; have b1 := g2.blk b1; have t1 := b1.lt; have gg := gg.trans g2; have cS : w2.cell? ⟨B1, 0, none⟩ = some (.slice (some ⟨g, 0, none⟩) S.length cap) := b1.cell 0; have cN : w2.cell? ⟨B2, 0, none⟩ = some (.int .i64 n) := b2.cell 0; have cF := HC1.out _ hr; clear N2))
  exact ⟨_, by simp [results, Tryz.f25, go_sem], rfl, gg⟩
end Go.Proofs.YtdebiobhmpoiiaaGreatDoor
namespace Go.Proofs.YtdebiobhmpoiiaaGreatDoor
open Go.RowKit
/-- Each state but the first lies one step behind an earlier one. -/
def Ways (S : List (Sta Grid)) : Prop := ∀ j, j < S.length → 0 < (sta S j).far → (sta S j).from_ < S.length ∧ (sta S j).dir < 4 ∧ (sta S j).far = (sta S (sta S j).from_).far + 1
theorem rcS_ways {l : List UInt8} {S : List (Sta Grid)} (h : rcS l = some S) : Ways S := by
  obtain ⟨g, hp, hi⟩ := rcS_inv h
  intro j hj hf
  have h0 : 0 < j := by
    rcases Nat.eq_zero_or_pos j with e | h
    · subst e
      rw [hi.fst.2] at hf
      exact absurd hf (Nat.lt_irrefl _)
    · exact h
  obtain ⟨a, b, -, c⟩ := hi.par j h0 hj
  exact ⟨by omega, b, c⟩
theorem chn_far {S : List (Sta Grid)} {n : Nat} (hW : Ways S) (hn : n < S.length) : ∀ k, k ≤ (sta S n).far → chn S n k < S.length ∧ (sta S (chn S n k)).far + k = (sta S n).far
  | 0, _ => ⟨hn, rfl⟩
  | k + 1, h => by
    obtain ⟨a, b⟩ := chn_far hW hn k (by omega)
    obtain ⟨c, -, e⟩ := hW _ a (by omega)
    exact ⟨c, by show (sta S (sta S (chn S n k)).from_).far + (k + 1) = _; omega⟩
/-- The last k letters of the word to state n. -/
def tlW (S : List (Sta Grid)) (n : Nat) : Nat → List UInt8
  | 0 => []
  | k + 1 => UInt8.ofNat (lastB (sta S (chn S n k))) :: tlW S n k
theorem tlW_length (S : List (Sta Grid)) (n : Nat) : ∀ k, (tlW S n k).length = k
  | 0 => rfl
  | k + 1 => by rw [tlW, List.length_cons, tlW_length S n k]
theorem tlW_get (S : List (Sta Grid)) (n : Nat) : ∀ (k j : Nat), j < k → (tlW S n k)[j]? = some (UInt8.ofNat (lastB (sta S (chn S n (k - 1 - j)))))
  | 0, j, h => absurd h (Nat.not_lt_zero _)
  | k + 1, 0, _ => by rw [tlW, List.getElem?_cons_zero]; rfl
  | k + 1, j + 1, h => by rw [tlW, List.getElem?_cons_succ, tlW_get S n k j (by omega), show k + 1 - 1 - (j + 1) = k - 1 - j by omega]
theorem tlW_all (S : List (Sta Grid)) (n : Nat) : (⟨(tlW S n (sta S n).far).toArray⟩ : ByteArray) = wrdB S n := by
  unfold wrdB
  congr 2
  apply List.ext_getElem?
  intro j
  by_cases h : j < (sta S n).far
  · rw [tlW_get S n _ j h, List.getElem?_map, List.getElem?_range h]
    rfl
  · rw [List.getElem?_eq_none (by rw [tlW_length]; omega), List.getElem?_eq_none (by simp; omega)]
theorem tlW_step {S : List (Sta Grid)} {n k : Nat} (h : 0 < (sta S (chn S n k)).far) : tlW S n (k + 1) = dB (sta S (chn S n k)).dir :: tlW S n k := by
  rw [tlW]
  congr 1
  unfold lastB
  rw [if_neg (by omega)]
  exact UInt8.ofNat_toNat
/-- The word to state n, if there is one. -/
def wdTo (S : List (Sta Grid)) : Option Nat → ByteArray
  | none => ByteArray.empty
  | some n => if (sta S n).far ≤ 40 then wrdB S n else ByteArray.empty
def wdOk (S : List (Sta Grid)) : Option Nat → Bool
  | none => false
  | some n => decide ((sta S n).far ≤ 40)
end Go.Proofs.YtdebiobhmpoiiaaGreatDoor
namespace Go.Proofs.YtdebiobhmpoiiaaGreatDoor
open Go.RowKit
theorem wordTo_any (S : List (Sta Grid)) (nx : Nat → Value) (base g cap n : Nat) (w : World) (hr : w.ownsRow base 101 43 (.slice (some ⟨g, 0, none⟩) S.length cap) S.length (rowsI S nx).flatten) (hn : n < S.length)
    (hf : ∀ k, k ≤ (sta S n).far → chn S n k < S.length) : Calls Tryz.prog 25 #[.slice (some ⟨g, 0, none⟩) S.length cap, .int .i64 n] w (Ret (.tuple #[.string (wdTo S (some n)), .bool (wdOk S (some n))]) w) := by
  by_cases h : (sta S n).far ≤ 40
  · have e1 : wdTo S (some n) = wrdB S n := if_pos h
    have e2 : wdOk S (some n) = true := decide_eq_true h
    rw [e1, e2]
    exact wordTo_yes S nx base g cap n w hr hn hf h
  · have e1 : wdTo S (some n) = ⟨#[]⟩ := if_neg h
    have e2 : wdOk S (some n) = false := decide_eq_false h
    rw [e1, e2]
    exact wordTo_far S nx base g cap n w hr hn h
section
variable {P : Program} {w : World} {ops : Array Oper} {rest : List Oper} {a : Act} {Q : Exit → Act → World → Prop} {dst : Option Tmp} {ty : TypeId} {pos : String} {aft : Array Edge} {gd : Option (Nat × Bool)}
theorem e_addM {T yt : TypeId} (x y : Operand) (s t u : ByteArray) (hx : a.eval x = .string s) (hy : a.eval y = .string t) (hr : (Op.stringOp .add s t).run P w = .ok (.string u) w) :
    (execOp a.eval ⟨dst, .binOp .add T x y yt, ty, pos, aft, gd⟩).run P w = .ok (.value (.string u)) w := by
  unfold execOp
  simp only [hx, hy, eqGuard_add, Sem.run_bind, Sem.run_pure, Result.andThen_ok]
  show ((Op.stringOp .add s t).run P w).andThen _ = _
  rw [hr]
  rfl
theorem e_geqM {T yt : TypeId} (x y : Operand) (m n : Int) (b : Bool) (hx : a.eval x = .int .i64 m) (hy : a.eval y = .int .i64 n) (hb : decide (n ≤ m) = b) :
    (execOp a.eval ⟨dst, .binOp .geq T x y yt, ty, pos, aft, gd⟩).run P w = .ok (.value (.bool b)) w := by
  subst hb
  unfold execOp
  simp [hx, hy, eqGuard, binOp, Op.intCmp]
theorem r_geqM (T yt : TypeId) (x y : Operand) (m n : Int) (b : Bool) (hx : a.eval x = .int .i64 m) (hy : a.eval y = .int .i64 n) (hb : decide (n ≤ m) = b)
    (hgd : Region.wanted ⟨dst, .binOp .geq T x y yt, ty, pos, aft, gd⟩ (yielded ops a.tmps) = true) (h : wpList P ops Q rest (a.put dst (.bool b)) w) : wpList P ops Q (⟨dst, .binOp .geq T x y yt, ty, pos, aft, gd⟩ :: rest) a w :=
  r_val (.bool b) (e_geqM x y m n b hx hy hb) hgd h
end
theorem add_ahead {P : Program} (w : World) (b : UInt8) (u : List UInt8) (h : u.length ≤ 1000) : (Op.stringOp .add (⟨#[b]⟩ : ByteArray) ⟨u.toArray⟩ : Sem Value).run P w = .ok (.string ⟨(b :: u).toArray⟩) w := by
  have := run_string_add_sum (P := P) w ⟨#[b]⟩ (⟨u.toArray⟩ : ByteArray) (by show 1 + u.toArray.size ≤ _; simp; omega)
  rw [this]
  have e : (⟨#[b]⟩ : ByteArray) ++ ⟨u.toArray⟩ = ⟨(b :: u).toArray⟩ := by
    apply ByteArray.ext
    rw [ByteArray.data_append]
    apply Array.toList_inj.1
    simp
  rw [e]
def strN : Value → Nat
  | .string s => s.size
  | _ => 0
theorem urdl_get : ∀ (d : Nat) (h : d < (⟨#[117, 114, 100, 108]⟩ : ByteArray).size), (⟨#[117, 114, 100, 108]⟩ : ByteArray)[d]'h = dB d
  | 0, _ => rfl
  | 1, _ => rfl
  | 2, _ => rfl
  | 3, _ => rfl
  | d + 4, h => absurd h (by show ¬ d + 4 < 4; omega)
theorem Tryz.ssubM (d : Nat) (h : d < 4) (w : World) : (Instr.sliceAt 9 (.string ⟨#[117, 114, 100, 108]⟩) (some (.int .i64 d)) (some (.int .i64 ((d : Int) + 1))) none).run Tryz.prog w = .ok (.string ⟨#[dB d]⟩) w := by
  have hd : d < (⟨#[117, 114, 100, 108]⟩ : ByteArray).size := h
  rw [← urdl_get d hd]
  exact Tryz.ssub _ d hd w
set_option maxHeartbeats 1000000 in
set_option maxRecDepth 100000 in
theorem reWord_any (base : Nat) (S : List (Sta Grid)) (v : Value) (bk : Nat → Nat) (sl nx : Nat → Value) (n : Nat) (w : World) (h : SSt base w v S bk sl nx) (h0 : 0 < S.length) (hn : n < S.length) (hW : Ways S) (h40 : (sta S n).far ≤ 40) :
    Calls Tryz.prog 45 #[v, .int .i64 n] w (Ret (.string (wrdB S n)) w) := by
  have gg := Gr.refl w
  obtain ⟨gB, cap, rfl, -, -⟩ := own_shape h.row h0
  have HS := hidI h
  have HCF := hidI (chn_far hW hn)
  have HAL := hidI (tlW_all S n)
  have HDI := hidI (fun j (hj : j < S.length) (h : 0 < (sta S j).far) => (hW j hj h).2.1)
  obtain ⟨F, hF⟩ : ∃ F, F = (sta S n).far := ⟨_, rfl⟩
  rw [← hF] at HCF HAL h40
  clear h hW hF hn
  go_enter Tryz.func45, Tryz.ntmps45
  go_wp2
  go_loopw [1, 5] (fun av sv wr => ∃ k : Nat, k ≤ F ∧ av = .int .i64 (chn S n k : Nat) ∧ sv = .string ⟨(tlW S n k).toArray⟩ ∧ Gr w wr) (fun _ sv _ => F - strN sv)
  case atStart => exact ⟨0, Nat.zero_le _, rfl, rfl, gg⟩
  case round =>
    obtain ⟨k, hk, rfl, rfl, gg⟩ := hrel
    obtain ⟨hc, hf⟩ := HCF.out k hk
    obtain ⟨m, hm⟩ : ∃ m, m = chn S n k := ⟨_, rfl⟩
    have HM := hidI hm
    rw [← hm] at hc hf
    have HM1 := hidI (show chn S n (k + 1) = (sta S m).from_ from by rw [hm]; rfl)
    have HTS := hidI (fun h => by have := tlW_step (S := S) (n := n) (k := k) (by rw [← hm]; exact h); rwa [← hm] at this)
    have M := HS.out.gr gg
    obtain ⟨b0, hb0⟩ : ∃ b0, b0 = bk m := ⟨_, rfl⟩
    have cp : wr.cell? ⟨gB, m, none⟩ = some (.pointer (some ⟨b0, 0, none⟩)) := by have := M.ptr hc; rw [← hb0] at this; exact this
    have c6 : wr.cell? ⟨b0, 6, none⟩ = some (.int .i64 (if (sta S m).far = 0 then -1 else ((sta S m).from_ : Int))) := by have := M.cell hc 6; rw [← hb0] at this; exact this
    have c7 : wr.cell? ⟨b0, 7, none⟩ = some (.int .i64 ((sta S m).dir : Int)) := by have := M.cell hc 7; rw [← hb0] at this; exact this
    have htl := tlW_length S n k
    clear hb0 M
    rw [← hm]
    by_cases hz : (sta S m).far = 0
    · rw [if_pos hz] at c6
      have HAE := hidI (show (⟨(tlW S n k).toArray⟩ : ByteArray) = wrdB S n from by rw [← HAL.out]; congr 2; congr 1; omega)
      clear hz hf hm htl
      go_wp2_with (first | (refine r_idx 43 _ _ (.slice (some ⟨gB, 0, none⟩) S.length cap) (.int .i64 m) _ rfl rfl (Tryz.psix gB S.length cap m hc _) rfl ?_) | (refine r_ldc 89 _ ⟨gB, m, none⟩ (.pointer (some ⟨b0, 0, none⟩)) rfl (Tryz.isAgg89 _) cp rfl ?_) | (refine r_nil _ ⟨b0, 0, none⟩ rfl rfl ?_) | (refine r_fld 92 _ 4 (.pointer (some ⟨b0, 0, none⟩)) (.pointer (some ⟨b0, 6, none⟩)) rfl (Tryz.rf4 _ _) rfl ?_) | (refine r_ldc 3 _ ⟨b0, 6, none⟩ (.int .i64 (-1)) rfl (Tryz.isAgg3 _) c6 rfl ?_) | (refine r_geqM _ _ _ _ (-1) 0 false rfl rfl rfl rfl ?_))
      go_ret
      exact ⟨by rw [HAE.out]; rfl, gg⟩
    · rw [if_neg hz] at c6
      have hd4 := HDI.out m hc (by omega)
      have hlt : k < F := by omega
      obtain ⟨fr, hfr⟩ : ∃ fr, fr = (sta S m).from_ := ⟨_, rfl⟩
      obtain ⟨d, hd⟩ : ∃ d, d = (sta S m).dir := ⟨_, rfl⟩
      rw [← hfr] at c6 HM1
      rw [← hd] at c7 hd4 HTS
      obtain ⟨tl, htl'⟩ : ∃ tl, tl = tlW S n k := ⟨_, rfl⟩
      rw [← htl'] at htl HTS ⊢
      have HTE := hidI (HTS.out (by omega))
      have HTL := hidI htl
      have hdd : (d : Int) + 1 = ((d + 1 : Nat) : Int) := by omega
      have HSUB := hidI (fun w' => Tryz.ssubM d hd4 w')
      have HADD := hidI (fun w' => add_ahead (P := Tryz.prog) w' (dB d) tl (by omega))
      clear hz hf hm htl hfr hd htl' HTS hdd
      go_wp2_with (first | (refine r_idx 43 _ _ (.slice (some ⟨gB, 0, none⟩) S.length cap) (.int .i64 m) _ rfl rfl (Tryz.psix gB S.length cap m hc _) rfl ?_) | (refine r_ldc 89 _ ⟨gB, m, none⟩ (.pointer (some ⟨b0, 0, none⟩)) rfl (Tryz.isAgg89 _) cp rfl ?_) | (refine r_nil _ ⟨b0, 0, none⟩ rfl rfl ?_) | (refine r_fld 92 _ 4 (.pointer (some ⟨b0, 0, none⟩)) (.pointer (some ⟨b0, 6, none⟩)) rfl (Tryz.rf4 _ _) rfl ?_) | (refine r_ldc 3 _ ⟨b0, 6, none⟩ (.int .i64 (fr : Int)) rfl (Tryz.isAgg3 _) c6 rfl ?_) | (refine r_geqM _ _ _ _ (fr : Int) 0 true rfl rfl (decide_eq_true (Int.natCast_nonneg _)) rfl ?_))
      refine q_whole (by kernel_rfl) (by kernel_rfl) ?_
      refine q_call 49 [] _ [] (.string ⟨#[117, 114, 100, 108]⟩) Tryz.call49 rfl rfl (fun w' hw' => (tiDirs_any w').mono fun e w'' h => ⟨h.1, h.2 ▸ hw'⟩) ?_
      simp only [Act.put, List.setIfInBounds_toArray, List.set_cons_succ, List.set_cons_zero]
      refine q_move _ (.slice (some ⟨gB, 0, none⟩) S.length cap) rfl rfl ?_; simp only [Act.put, List.setIfInBounds_toArray, List.set_cons_succ, List.set_cons_zero]
      refine q_move _ (.int .i64 m) rfl rfl ?_; simp only [Act.put, List.setIfInBounds_toArray, List.set_cons_succ, List.set_cons_zero]
      refine q_take (.pointer (some ⟨gB, m, none⟩)) rfl (fun w' hw' => e_val _ _ (Tryz.psix gB S.length cap m hc _)) ?_; simp only [Act.put, List.setIfInBounds_toArray, List.set_cons_succ, List.set_cons_zero]
      refine q_take (.pointer (some ⟨b0, 0, Option.none⟩)) rfl (fun w' hw' => e_load 89 (.tmp 17) _ _ rfl (Tryz.isAgg89 _) (hw'.cell cp)) ?_; simp only [Act.put, List.setIfInBounds_toArray, List.set_cons_succ, List.set_cons_zero]
      refine q_take (.pointer (some ⟨b0, 0, Option.none⟩)) rfl (fun w' hw' => rfl) ?_
      simp only [Act.put, List.setIfInBounds_toArray, List.set_cons_succ, List.set_cons_zero]
      refine q_take (.pointer (some ⟨b0, 7, none⟩)) rfl (fun w' hw' => e_val _ _ (Tryz.rf5 _ _)) ?_; simp only [Act.put, List.setIfInBounds_toArray, List.set_cons_succ, List.set_cons_zero]
      refine q_take (.int .i64 d) rfl (fun w' hw' => e_load 3 (.tmp 20) _ _ rfl (Tryz.isAgg3 _) (hw'.cell c7)) ?_; simp only [Act.put, List.setIfInBounds_toArray, List.set_cons_succ, List.set_cons_zero]
      refine q_move _ (.slice (some ⟨gB, 0, none⟩) S.length cap) rfl rfl ?_; simp only [Act.put, List.setIfInBounds_toArray, List.set_cons_succ, List.set_cons_zero]
      refine q_move _ (.int .i64 m) rfl rfl ?_; simp only [Act.put, List.setIfInBounds_toArray, List.set_cons_succ, List.set_cons_zero]
      refine q_take (.pointer (some ⟨gB, m, none⟩)) rfl (fun w' hw' => e_val _ _ (Tryz.psix gB S.length cap m hc _)) ?_; simp only [Act.put, List.setIfInBounds_toArray, List.set_cons_succ, List.set_cons_zero]
      refine q_take (.pointer (some ⟨b0, 0, Option.none⟩)) rfl (fun w' hw' => e_load 89 (.tmp 24) _ _ rfl (Tryz.isAgg89 _) (hw'.cell cp)) ?_; simp only [Act.put, List.setIfInBounds_toArray, List.set_cons_succ, List.set_cons_zero]
      refine q_take (.pointer (some ⟨b0, 0, Option.none⟩)) rfl (fun w' hw' => rfl) ?_
      simp only [Act.put, List.setIfInBounds_toArray, List.set_cons_succ, List.set_cons_zero]
      refine q_take (.pointer (some ⟨b0, 7, none⟩)) rfl (fun w' hw' => e_val _ _ (Tryz.rf5 _ _)) ?_; simp only [Act.put, List.setIfInBounds_toArray, List.set_cons_succ, List.set_cons_zero]
      refine q_take (.int .i64 d) rfl (fun w' hw' => e_load 3 (.tmp 27) _ _ rfl (Tryz.isAgg3 _) (hw'.cell c7)) ?_; simp only [Act.put, List.setIfInBounds_toArray, List.set_cons_succ, List.set_cons_zero]
      refine q_take (.int .i64 ((d : Int) + 1)) rfl (fun w' hw' => e_add _ _ (d : Int) 1 ((d : Int) + 1) rfl rfl rfl (by omega)) ?_
      simp only [Act.put, List.setIfInBounds_toArray, List.set_cons_succ, List.set_cons_zero]
      refine q_take (.string ⟨#[dB d]⟩) rfl (fun w' hw' => e_val _ _ (HSUB.out _)) ?_; simp only [Act.put, List.setIfInBounds_toArray, List.set_cons_succ, List.set_cons_zero]
      refine q_move _ (.string ⟨tl.toArray⟩) rfl rfl ?_; simp only [Act.put, List.setIfInBounds_toArray, List.set_cons_succ, List.set_cons_zero]
      refine q_take (.string ⟨(dB d :: tl).toArray⟩) rfl (fun w' hw' => e_addM _ _ _ _ _ rfl rfl (HADD.out _)) ?_
      simp only [Act.put, List.setIfInBounds_toArray, List.set_cons_succ, List.set_cons_zero]
      refine q_assign _ (.string ⟨(dB d :: tl).toArray⟩) rfl rfl ?_; simp only [Act.put, List.setIfInBounds_toArray, List.set_cons_succ, List.set_cons_zero]
      refine wpQuiet_nil ?_
      intro wq gq
      have gg := gg.trans gq
      have cp := gq.cell cp
      have c6 := gq.cell c6
      go_wp2_with (first | (refine r_idx 43 _ _ (.slice (some ⟨gB, 0, none⟩) S.length cap) (.int .i64 m) _ rfl rfl (Tryz.psix gB S.length cap m hc _) rfl ?_) | (refine r_ldc 89 _ ⟨gB, m, none⟩ (.pointer (some ⟨b0, 0, none⟩)) rfl (Tryz.isAgg89 _) cp rfl ?_) | (refine r_nil _ ⟨b0, 0, none⟩ rfl rfl ?_) | (refine r_fld 92 _ 4 (.pointer (some ⟨b0, 0, none⟩)) (.pointer (some ⟨b0, 6, none⟩)) rfl (Tryz.rf4 _ _) rfl ?_) | (refine r_ldc 3 _ ⟨b0, 6, none⟩ (.int .i64 (fr : Int)) rfl (Tryz.isAgg3 _) c6 rfl ?_))
      go_roundw
      case rel => exact ⟨k + 1, by omega, by rw [HM1.out], by rw [HTE.out], gg⟩
      case measure =>
        have htl := HTL.out
        simp [strN]
        show F - (dB d :: tl).toArray.size < F - tl.toArray.size
        simp
        omega
end Go.Proofs.YtdebiobhmpoiiaaGreatDoor
