/-
  The model's search for all trays that are reached.
-/
import Derived.Test.YtpdmfbhjneodeaaGreatDoorReachS
namespace Go.Proofs.YtpdmfbhjneodeaaGreatDoor
open Go.RowKit
/-- The states of a text: none where it is no tray, or reaches too many. -/
def rcS (l : List UInt8) : Option (List (Sta Grid)) := match parse l with
  | none => none
  | some g => reachS tiltG g
structure MO (base : Nat) (w : World) (v : Value) (S : List (Sta Grid)) (bk : Nat → Nat) (sl nx : Nat → Value) (n : Nat) : Prop where
  st : SSt base w v S bk sl nx
  nxt : SNx base w S nx
  nil : ∀ j, n ≤ j → nx j = nilV
structure MR (base H : Nat) (w : World) (v : Value) (S : List (Sta Grid)) (bk : Nat → Nat) (sl nx : Nat → Value) (n : Nat) : Prop where
  st : SSt base w v S bk sl nx
  own : w.ownsRow H 3 1 (nx n) (sta S n).next.length (natsV (sta S n).next)
  nxt : ∀ j, j < S.length → j ≠ n → w.ownsRow base 3 1 (nx j) (sta S j).next.length (natsV (sta S j).next) ∧ ∀ k, (nx j).ownBlock = some k → k < H
  nil : ∀ j, n < j → nx j = nilV
section
variable {base H : Nat} {w w' : World} {v : Value} {S : List (Sta Grid)} {bk : Nat → Nat} {sl nx : Nat → Value} {n : Nat}
theorem MO.begin (h : MO base w v S bk sl nx n) (hl : (sta S n).next.length = 0) : MR base w.heap.size w v S bk sl nx n :=
  ⟨h.st, by
    have e : (sta S n).next = [] := List.eq_nil_of_length_eq_zero hl
    rw [h.nil n (Nat.le_refl _), e]
    exact World.ownsRow_nil _ _ _ _, fun j hj _ => ⟨h.nxt.nxt j hj, fun k hk => ((h.nxt.nxt j hj).lt k hk).2⟩, fun j hj => h.nil j (by omega)⟩
theorem MR.done (h : MR base H w v S bk sl nx n) (hb : base ≤ H) : MO base w v S bk sl nx (n + 1) :=
  ⟨h.st, ⟨fun j hj => by
    by_cases e : j = n
    · subst e; exact own_up h.own hb
    · exact (h.nxt j hj e).1⟩, fun j hj => h.nil j (by omega)⟩
theorem MR.gr (h : MR base H w v S bk sl nx n) (g : Gr w w') : MR base H w' v S bk sl nx n :=
  ⟨h.st.gr g, g.row h.own, fun j hj e => ⟨g.row (h.nxt j hj e).1, (h.nxt j hj e).2⟩, h.nil⟩
/-- Blocks of two types are two. -/
theorem blk_ne {A B : Nat} {cs ds : Array Value} {T U : TypeId} (h : Blk w A cs T) (k : Blk w B ds U) (hT : T ≠ U) : A ≠ B := fun e => by
  subst e
  unfold Blk at h k
  rw [h] at k
  cases k
  exact hT rfl
theorem MR.upd {B : Nat} {cs : Array Value} {T : TypeId} (h : MR base H w v S bk sl nx n) (hb : Blk w B cs T) (h1 : T ≠ 28) (h2 : T ≠ 3) (h3 : T ≠ 34) (h4 : T ≠ 5) (u : Upd B w w') : MR base H w' v S bk sl nx n :=
  ⟨⟨u.row h.st.row (own_ne h.st.row hb h1), fun j hj => u.blk (h.st.blk j hj) (blk_ne (h.st.blk j hj) hb (Ne.symm h3)), h.st.lo, h.st.inj, fun j hj => u.row (h.st.grd j hj) (own_ne (h.st.grd j hj) hb h4)⟩,
    u.row h.own (own_ne h.own hb h2), fun j hj e => ⟨u.row (h.nxt j hj e).1 (own_ne (h.nxt j hj e).1 hb h2), (h.nxt j hj e).2⟩, h.nil⟩
/-- A state's block is written. -/
theorem MR.set {k : Nat} {s : Sta Grid} {nv : Value} (h : MR base H w v S bk sl nx n) (hk : k < S.length) (u : Upd (bk k) w w') (hs : s.t = (sta S k).t) (hb : Blk w' (bk k) (recS s (sl k) nv) 34) :
    SSt base w' v (S.set k s) bk sl (fun m => if m = k then nv else nx m) := by
  refine ⟨?_, fun j hj => ?_, fun j hj => ?_, fun i j hi hj => ?_, fun j hj => ?_⟩
  · rw [List.length_set]
    exact u.row h.st.row (own_ne h.st.row (h.st.blk k hk) (by decide))
  · rw [List.length_set] at hj
    rw [sta_set _ _ _ _ hk]
    by_cases e : j = k
    · subst e
      rw [if_pos rfl, if_pos rfl]
      exact hb
    · rw [if_neg e, if_neg e]
      exact u.blk (h.st.blk j hj) (fun e2 => e (h.st.inj j k hj hk e2))
  · rw [List.length_set] at hj; exact h.st.lo j hj
  · rw [List.length_set] at hi hj; exact h.st.inj i j hi hj
  · rw [List.length_set] at hj
    have e : (sta (S.set k s) j).t = (sta S j).t := by
      rw [sta_set _ _ _ _ hk]
      by_cases e : j = k
      · rw [if_pos e, e, hs]
      · rw [if_neg e]
    rw [e]
    exact u.row (h.st.grd j hj) (own_ne (h.st.grd j hj) (h.st.blk k hk) (by decide))
theorem MR.add {k : Nat} (h : MR base H w v S bk sl nx n) (hk : k < S.length) (hf : (sta S k).far = (sta S n).far + 1) (u : Upd (bk k) w w')
    (hb : Blk w' (bk k) ((recS (sta S k) (sl k) (nx k)).setIfInBounds 5 (.int .i64 (wrap64 ((sta S k).words + (sta S n).words)))) 34) : MR base H w' v (addS S n k) bk sl nx n := by
  have hst := h.set hk u (s := { sta S k with words := wrap64 ((sta S k).words + (sta S n).words) }) (nv := nx k) rfl hb
  have hfn : (fun m => if m = k then nx k else nx m) = nx := fn_same nx k
  rw [hfn] at hst
  have ap : ∀ {b : Nat} {x : Value} {m : Nat} {xs : List Value}, w.ownsRow b 3 1 x m xs → x.ownBlock ≠ some (bk k) := fun hx => own_ne hx (h.st.blk k hk) (by decide)
  refine ⟨?_, ?_, fun j hj e => ?_, h.nil⟩
  · unfold addS; rw [if_pos hf]; exact hst
  · rw [(sta_add S n k n hk).2]; exact u.row h.own (ap h.own)
  · rw [addS_length] at hj
    rw [(sta_add S n k j hk).2]
    exact ⟨u.row (h.nxt j hj e).1 (ap (h.nxt j hj e).1), (h.nxt j hj e).2⟩
theorem MR.app (h : MR base H w v S bk sl nx n) (g : Grb (nx n).ownBlock w w') : SSt base w' v S bk sl nx ∧ ∀ j, j < S.length → j ≠ n → w'.ownsRow base 3 1 (nx j) (sta S j).next.length (natsV (sta S j).next) :=
  ⟨⟨g.row h.st.row (own_ne2 h.st.row h.own (by decide)), fun j hj => g.blk (h.st.blk j hj) (own_ne h.own (h.st.blk j hj) (by decide)), h.st.lo, h.st.inj, fun j hj => g.row (h.st.grd j hj) (own_ne2 (h.st.grd j hj) h.own (by decide))⟩,
    fun j hj e => g.row (h.nxt j hj e).1 (by
    cases hb : (nx j).ownBlock with
    | none => exact .inl rfl
    | some b =>
      refine .inr fun h' => ?_
      have h1 := (h.nxt j hj e).2 b hb
      have h2 := (h.own.lt b h'.symm).1
      omega)⟩
theorem MR.push {w1 w2 : World} {k : Nat} {v' : Value} (h : MR base H w v S bk sl nx n) (hn : n < S.length) (ga : Grb (nx n).ownBlock w w1) (u : Upd (bk n) w1 w2)
    (ho : w1.ownsRow H 3 1 v' ((sta S n).next.length + 1) (natsV ((sta S n).next ++ [k])))
    (hb : Blk w2 (bk n) ((recS (sta S n) (sl n) (nx n)).setIfInBounds 8 v') 34) :
    MR base H w2 v (pushS S n k) bk sl (fun m => if m = n then v' else nx m) n := by
  obtain ⟨hst, hnx⟩ := h.app ga
  have ap : ∀ {b : Nat} {x : Value} {m : Nat} {xs : List Value}, w1.ownsRow b 3 1 x m xs → x.ownBlock ≠ some (bk n) := fun hx => own_ne hx (hst.blk n hn) (by decide)
  refine ⟨⟨?_, fun j hj => ?_, fun j hj => ?_, fun i j hi hj => ?_, fun j hj => ?_⟩, ?_, fun j hj e => ?_, fun j hj => ?_⟩
  · rw [pushS_length]; exact u.row hst.row (own_ne hst.row (hst.blk n hn) (by decide))
  · rw [pushS_length] at hj
    unfold pushS
    rw [sta_set _ _ _ _ hn]
    by_cases e : j = n
    · subst e
      rw [if_pos rfl, if_pos rfl]
      exact hb
    · rw [if_neg e, if_neg e]
      exact u.blk (hst.blk j hj) (fun e2 => e (hst.inj j n hj hn e2))
  · rw [pushS_length] at hj; exact hst.lo j hj
  · rw [pushS_length] at hi hj; exact hst.inj i j hi hj
  · rw [pushS_length] at hj
    rw [(sta_push S n k j hn).1.t]
    exact u.row (hst.grd j hj) (own_ne (hst.grd j hj) (hst.blk n hn) (by decide))
  · rw [if_pos rfl, (sta_push S n k n hn).2, if_pos rfl, List.length_append]
    exact u.row ho (ap ho)
  · rw [pushS_length] at hj
    rw [if_neg e, (sta_push S n k j hn).2, if_neg e]
    exact ⟨u.row (hnx j hj e) (ap (hnx j hj e)), (h.nxt j hj e).2⟩
  · rw [if_neg (by omega)]; exact h.nil j hj
/-- A state more: its block is new (in w), and then the row of pointers has grown. -/
theorem MR.grow {v' s4 : Value} {s : Sta Grid} {B : Nat} (h : MR base H w v S bk sl nx n) (hn : n < S.length) (hs : s.next = []) (hB : Blk w B (recS s s4 nilV) 34) (hnew : ∀ j, j < S.length → bk j ≠ B) (hlo : base ≤ B) (hg : w.ownsRow base 5 1 s4 s.t.c.length (cellsV s.t.c))
    (g : Grb v.ownBlock w w') (hr : w'.ownsRow base 28 1 v' (S.length + 1) (ptrsV bk S.length ++ [ptrV B])) : MR base H w' v' (S ++ [s]) (fun m => if m = S.length then B else bk m) (fun m => if m = S.length then s4 else sl m) nx n := by
  have hnil := h.nil S.length hn
  have cas : ∀ j, j < (S ++ [s]).length → j < S.length ∨ j = S.length := fun j hj => by rw [List.length_append, List.length_singleton] at hj; omega
  refine ⟨⟨?_, fun j hj => ?_, fun j hj => ?_, fun i j hi hj => ?_, fun j hj => ?_⟩, ?_, fun j hj e => ?_, h.nil⟩
  · rw [List.length_append, List.length_singleton, ← ptrsV_app]; exact hr
  · rcases cas j hj with hj | rfl
    · rw [sta_app _ _ _ hj, if_neg (by omega), if_neg (by omega)]
      exact g.blk (h.st.blk j hj) (own_ne h.st.row (h.st.blk j hj) (by decide))
    · rw [sta_new, if_pos rfl, if_pos rfl, hnil]
      exact g.blk hB (own_ne h.st.row hB (by decide))
  · rcases cas j hj with hj | rfl
    · rw [if_neg (by omega)]; exact h.st.lo j hj
    · rw [if_pos rfl]; exact hlo
  · rcases cas i hi with hi | rfl
    · rcases cas j hj with hj | rfl
      · rw [if_neg (by omega), if_neg (by omega)]; exact h.st.inj i j hi hj
      · rw [if_neg (by omega), if_pos rfl]; exact fun e => absurd e (hnew i hi)
    · rcases cas j hj with hj | rfl
      · rw [if_pos rfl, if_neg (by omega)]; exact fun e => absurd e.symm (hnew j hj)
      · exact fun _ => rfl
  · rcases cas j hj with hj | rfl
    · rw [sta_app _ _ _ hj, if_neg (by omega)]
      exact g.row (h.st.grd j hj) (own_ne2 (h.st.grd j hj) h.st.row (by decide))
    · rw [sta_new, if_pos rfl]
      exact g.row hg (own_ne2 hg h.st.row (by decide))
  · rw [sta_app _ _ _ hn]
    exact g.row h.own (own_ne2 h.own h.st.row (by decide))
  · rcases cas j hj with hj | rfl
    · rw [sta_app _ _ _ hj]
      exact ⟨g.row (h.nxt j hj e).1 (own_ne2 (h.nxt j hj e).1 h.st.row (by decide)), (h.nxt j hj e).2⟩
    · rw [sta_new, hs, hnil]
      exact ⟨World.ownsRow_nil _ _ _ _, fun k hk => by cases hk⟩
end
theorem Tryz.rb0 (W H : Int) (p : Option Addr) (n c : Nat) (s : ByteArray) (w : World) : (Instr.build 34 #[(0, .agg (tg W H (.slice p n c))), (1, .string s), (3, .int .i64 1), (4, .int .i64 (-1))]).run Tryz.prog w = .ok (.agg #[.int .i64 W, .int .i64 H, .slice p n c, .string s, .int .i64 0, .int .i64 1, .int .i64 (-1), .int .i64 0, .slice none 0 0]) w := by kernel_rfl
theorem Tryz.rb1 (W H : Int) (p : Option Addr) (m c : Nat) (s : ByteArray) (f n d : Int) (w : World) : (Instr.build 34 #[(0, .agg (tg W H (.slice p m c))), (1, .string s), (2, .int .i64 f), (4, .int .i64 n), (5, .int .i64 d)]).run Tryz.prog w = .ok (.agg #[.int .i64 W, .int .i64 H, .slice p m c, .string s, .int .i64 f, .int .i64 0, .int .i64 n, .int .i64 d, .slice none 0 0]) w := by kernel_rfl
theorem Tryz.bp1 (B : Nat) (w : World) : (Instr.buildSlice 25 1 #[(0, .pointer (some ⟨B, 0, none⟩))]).run Tryz.prog w = .ok (.slice (some ⟨w.heap.size, 0, none⟩) 1 1) (w.alloc (.cells #[.pointer (some ⟨B, 0, none⟩)] 28)) := by kernel_rfl
theorem Tryz.ptrI : ElemInfo Tryz.prog 25 28 (.pointer none) 1 8 := ⟨Tryz.underlying25, by kernel_rfl, rfl, by decide⟩
/-- It returns the model's states, or fails. -/
def RetM (o : Option (List (Sta Grid))) (w : World) (e : Ending) (w' : World) : Prop :=
  Gr w w' ∧ match o with
    | none => e = .returned (.tuple #[.slice none 0 0, .bool false])
    | some S => ∃ v bk sl nx, e = .returned (.tuple #[v, .bool true]) ∧ SSt w.heap.size w' v S bk sl nx ∧ SNx w.heap.size w' S nx
end Go.Proofs.YtpdmfbhjneodeaaGreatDoor
