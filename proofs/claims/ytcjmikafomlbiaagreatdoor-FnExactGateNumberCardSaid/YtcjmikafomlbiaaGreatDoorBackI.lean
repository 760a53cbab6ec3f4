/-
  slices.Backward over ints: the library's iterator from the last place down to the first; the round leaves the row as it is.
-/
import Derived.RangeFuncNested
import Derived.RangeFuncBound
import Derived.RangeFuncCalls
import Derived.RangeFuncLeaves
import Derived.Shelf.Abstract
import Derived.Shelf.RegionOpen
import Derived.WalkKit
import Derived.OwnWalkIn
import Derived.TacticsInMore
import Derived.LoopNIn
import Derived.LoopIn
import Derived.Test.YtcjmikafomlbiaaGreatDoorProg
import Derived.Test.YtcjmikafomlbiaaGreatDoorBKit
namespace Go.Proofs.YtcjmikafomlbiaaGreatDoor
open Go.RowKit Go.Shelf
attribute [local go_sem] Oper.semAt_some
/-- What comes from the iterator: a place of the row. -/
abbrev BY (len : Nat) := { i : Nat // i < len }
/-- The places from the last one down to m. -/
def dnI (len m : Nat) : List Nat := ((List.range len).drop m).reverse
theorem dnI_all (len : Nat) : dnI len 0 = (List.range len).reverse := rfl
theorem dnI_none (len : Nat) : dnI len len = [] := by simp [dnI]
theorem dnI_succ {len q : Nat} (h : q < len) : dnI len q = dnI len (q + 1) ++ [q] := by
  unfold dnI
  rw [List.drop_eq_getElem_cons (by simpa using h), List.reverse_cons]
  simp
theorem dnI_length (len m : Nat) : (dnI len m).length = len - m := by simp [dnI]
def I64s (W : World) (b off : Nat) (len : Nat) (f : Nat → Int) : Prop := ∀ j, j < len → W.cell? ⟨b, off + j, none⟩ = some (.int .i64 (f j))
/-- What a round that goes on keeps: the header's cell, and what lies in the row. -/
def KpI (Bs b off : Nat) (len : Nat) (f : Nat → Int) (A B : World) : Prop := (∀ c, A.cell? ⟨Bs, 0, none⟩ = some c → B.cell? ⟨Bs, 0, none⟩ = some c) ∧ (I64s A b off len f → I64s B b off len f)
theorem kpI_t {Bs b off : Nat} {len : Nat} {f : Nat → Int} {A B C : World} (h : KpI Bs b off len f A B) (k : KpI Bs b off len f B C) : KpI Bs b off len f A C := ⟨fun c hc => k.1 c (h.1 c hc), fun hu => k.2 (h.2 hu)⟩
theorem kpI_b {Bs b off : Nat} {len : Nat} {f : Nat → Int} (W : World) (l : Nat) (o o' : Obj) (h : W.heap[l]? = some o) (hc : o.isCells = false) : KpI Bs b off len f W (W.putObj l o') := by
  have hk : ∀ (p : Addr) (c : Value), W.cell? p = some c → (W.putObj l o').cell? p = some c := fun p c hp => cell_kept hp (grownBy_putObj' W l o') (fun r e => by cases e; exact ⟨o, h, hc⟩)
  exact ⟨fun c h' => hk _ c h', fun hu j hj => hk _ _ (hu j hj)⟩
set_option maxRecDepth 100000 in
set_option maxHeartbeats 2000000 in
theorem Tryz.backI1_in (F : Fence) (n : Nat) (h8 : F.fn 75) (hro : F.round = none) (hn : 1 ≤ n) (l Bs b off cap : Nat) (len : Nat) (f : Nat → Int) (hreach : len * 8 ≤ 140737488351232) (J Jx : List (BY len) → World → Prop)
    (hY : ∀ pre x W, J pre W → pre.length < len → YieldAt F (n - 1) Tryz.prog l #[.int .i64 (x.1 : Int), .int .i64 (f x.1)] W fun e W' =>
      (e = .returned (.bool true) ∧ J (pre ++ [x]) W' ∧ KpI Bs b off len f W W') ∨ (e = .returned (.bool false) ∧ Jx (pre ++ [x]) W'))
    (W : World) (hBs : W.cell? ⟨Bs, 0, none⟩ = some (.slice (some ⟨b, off, none⟩) len cap)) (hc : I64s W b off len f) (h0 : J [] W) :
    CallsIn F n Tryz.prog 75 #[.func (.yield l) #[] #[], .pointer (some ⟨Bs, 0, none⟩)] W fun e W' => (∃ v, e = .returned v) ∧
      ((∃ ys : List (BY len), ys.map (fun x => x.1) = dnI len 0 ∧ J ys W') ∨ (∃ pre : List (BY len), (∃ m, m ≤ len ∧ pre.map (fun x => x.1) = dnI len m) ∧ Jx pre W')) := by
  refine callsIn_of_wp Tryz.func75 rfl h8 ?_ hro
  simp only [Tryz.ntmps75, List.size_toArray, List.length_cons, List.length_nil, Nat.reduceAdd, Nat.reduceSub, Array.replicate_succ, Array.replicate_zero, List.push_toArray, List.append_toArray, List.nil_append, List.cons_append]
  gi_wp2
  gi_loopw [3] (fun i wr => ∃ (m : Nat) (pre : List (BY len)), m ≤ len ∧ i = .int .i64 ((m : Int) - 1) ∧ pre.map (fun x => x.1) = dnI len m ∧ J pre wr ∧ wr.cell? ⟨Bs, 0, none⟩ = some (.slice (some ⟨b, off, none⟩) len cap) ∧ I64s wr b off len f)
    (fun i _ => (intOf i + 1).toNat)
  case atStart => exact ⟨len, [], Nat.le_refl _, rfl, by rw [dnI_none]; rfl, h0, hBs, hc⟩
  case round =>
    obtain ⟨m, pre, hm, rfl, hp, hJs, hh, hu⟩ := hrel
    have hpl : pre.length = len - m := by rw [← dnI_length len m, ← hp, List.length_map]
    cases m with
    | succ q =>
      have hv := hu q (by omega)
      obtain ⟨fn, tmps, assign, body, hy, hR⟩ := hY pre ⟨q, by omega⟩ wr hJs (by omega)
      dsimp only at hy
      have e1 : ((q + 1 : Nat) : Int) - 1 = (q : Int) := by omega
      rw [e1]
      gi_wp2
      refine hR.mono ?_
      rintro e W3 (⟨rfl, hJ3, hk3⟩ | ⟨rfl, hJx3⟩)
      · gi_wp2
        go_roundw
        case rel => exact ⟨q, _, by omega, rfl, by rw [List.map_append, hp, dnI_succ (q := q) (by omega)]; rfl, hJ3, hk3.1 _ hh, hk3.2 hu⟩
        case measure => simp [intOf]
      · gi_wp2
        refine bodyPost_ret (results_none rfl _ _ _) rfl ?_
        exact ⟨⟨_, rfl⟩, .inr ⟨_, ⟨q, by omega, by rw [List.map_append, hp, dnI_succ (q := q) (by omega)]; rfl⟩, hJx3⟩⟩
    | zero =>
      have e1 : ((0 : Nat) : Int) - 1 = -1 := by omega
      rw [e1]
      gi_wp2
      go_end0
      exact ⟨⟨_, rfl⟩, .inl ⟨pre, hp, hJs⟩⟩
set_option maxHeartbeats 1000000 in
theorem Tryz.backI_in (F : Fence) (n : Nat) (h5 : F.fn 56) (hro : F.round = none) (a : Option Addr) (len cap : Nat) (w : World) :
    CallsIn F n Tryz.prog 56 #[.slice a len cap] w fun e w' => e = .returned (.func (.func 75) #[] #[.pointer (some ⟨w.heap.size, 0, none⟩)]) ∧ w' = w.alloc (.cells #[.slice a len cap] 22) := by
  refine callsIn_of_wp Tryz.func56 rfl h5 ?_ hro
  simp only [Tryz.ntmps56, List.size_toArray, List.length_cons, List.length_nil, Nat.reduceAdd, Nat.reduceSub, Array.replicate_succ, Array.replicate_zero, List.push_toArray, List.append_toArray, List.nil_append, List.cons_append]
  gi_wp2
  go_ret
  exact ⟨rfl, rfl⟩
theorem Tryz.backI_stops (F : Fence) (n : Nat) (h8 : F.fn 75) (hro : F.round = none) (hn : 1 ≤ n) (Bs b off cap : Nat) (len : Nat) (f : Nat → Int) (hreach : len * 8 ≤ 140737488351232) (w : World) (hBs : Bs < w.heap.size) (hb : b < w.heap.size)
    (hc : w.cell? ⟨Bs, 0, none⟩ = some (.slice (some ⟨b, off, none⟩) len cap)) (hu : I64s w b off len f) :
    SeqStopsK F n Tryz.prog 75 #[.pointer (some ⟨Bs, 0, none⟩)] (fun x : BY len => #[Value.int .i64 (x.1 : Int), Value.int .i64 (f x.1)]) (KpI Bs b off len f) (fun ys => ys.map (fun x => x.1) = dnI len 0)
      (fun pre => ∃ m, m ≤ len ∧ pre.map (fun x => x.1) = dnI len m) len w := fun l J Jx W hW _ _ hY h0 =>
  Tryz.backI1_in F n h8 hro hn l Bs b off cap len f hreach J Jx hY W ((hW.cell (p := ⟨Bs, 0, none⟩) hBs).trans hc) (fun j hj => (hW.cell (p := ⟨b, off + j, none⟩) hb).trans (hu j hj)) h0
end Go.Proofs.YtcjmikafomlbiaaGreatDoor
