/-
  A range over a function whose iterator writes a variable that it has captured: the caller's invariant bears that this one block turns; the round keeps the iterator's blocks. No round leaves early.
  strings.SplitSeq at one byte: the pieces of a text, one behind the other; the iterator cuts its own variable down.
  strings.SplitSeq: the iterator is made.
  The text of a board, read, as plain mathematics: by the model's pieces and numbers, by the program's.
  The text of a board, read by the model and by the program: the same.
  The rows of a board's text read one by one: what has been read so far, by the model and by the program.
  The text of a board read by the model.
  The text of a board read by the program.
  The law of ParseBoard.
-/
import Derived.RangeFuncWrites
import Derived.Test.YtpdmfbhjneodeaaDoorLiftW
import Derived.RangeFuncNested
import Derived.RangeFuncBound
import Derived.RangeFuncCalls
import Derived.RangeFuncLeaves
import Derived.Shelf.Abstract
import Derived.Shelf.RegionOpen
import Derived.WalkKit
import Derived.OwnWalkIn
import Derived.TacticsInMore
import Derived.LoopNIn
import Derived.LoopIn
import Derived.Test.YtpdmfbhjneodeaaDoorBPs
import Derived.Test.YtpdmfbhjneodeaaDoorBTb
import Derived.Test.YtpdmfbhjneodeaaDoorBBa
import Derived.Test.YtpdmfbhjneodeaaDoorBBb
namespace Go.Proofs.YtpdmfbhjneodeaaDoor
open Go.RowKit
section
variable {P : Program} {n : Nat}
/-- These blocks lie as they lay. -/
def KpH (Hs : List Nat) (A B : World) : Prop := ∀ k ∈ Hs, ∀ o, A.heap[k]? = some o → B.heap[k]? = some o
theorem KpH.refl (Hs : List Nat) (A : World) : KpH Hs A A := fun _ _ _ h => h
theorem KpH.trans {Hs : List Nat} {A B C : World} (h : KpH Hs A B) (k : KpH Hs B C) : KpH Hs A C := fun i hi o ho => k i hi o (h i hi o ho)
/-- The iterator's word: it may turn block hb, and finds its blocks Hs as it left them. -/
def SeqH {α : Type} (n : Nat) (P : Program) (gf : Nat) (lb : Array Value) (encs : α → Array Value) (Hs : List Nat) (hb : Nat) (S : List α → Prop) (Pr : List α → α → Prop) (w0 : World) : Prop :=
  ∀ (l : Nat) (J : List α → World → Prop) (W : World), Below w0.heap.size w0 W → (∀ s A B, J s A → A.grownBy B (some hb) → J s B) →
    (∀ pre x A, J pre A → Pr pre x → YieldAt Fence.wide (n - 1) P l (encs x) A fun e B => e = .returned (.bool true) ∧ J (pre ++ [x]) B ∧ KpH Hs A B) →
    J [] W → CallsIn Fence.wide n P gf (#[.func (.yield l) #[] #[]] ++ lb) W fun e W' => (∃ v, e = .returned v) ∧ ∃ xs, S xs ∧ J xs W'
/-- How a round ends. -/
def endH {α : Type} (Hs : List Nat) (I : List α → World → Prop) (xs : List α) (A : World) : Exit → Act → World → Prop
  | .normal, _, B => KeepsOthers A B ∧ KpH Hs A B ∧ I xs B
  | _, _, _ => False
theorem H_range {α : Type} {g : Operand} {ps : Array Tmp} {assign body : Code} {Q : Exit → Act → World → Prop} {a : Act} {w : World} (h1 : 1 ≤ n) {gf : Nat} {lb : Array Value}
    (hg : a.eval g = .func (.func gf) #[] lb) (eg : ∀ args w, (callFunc gf args).run P w = .ok (.enter gf args) w) {encs : α → Array Value} {Hs : List Nat} {hb : Nat} {S : List α → Prop} {Pr : List α → α → Prop}
    (hHs : ∀ k ∈ Hs, k < w.heap.size) (hhb : hb < w.heap.size) (hseq : SeqH (n - 1) P gf lb encs Hs hb S Pr w) (hps : ∀ x, (encs x).size = ps.size)
    (I : List α → World → Prop) (hIb : ∀ s A B, I s A → A.grownBy B (some hb) → I s B) (hI : OwnFrom w.heap.size I) (h0 : I [] w) (a₁ : α → Act)
    (hassign : ∀ (l : Nat) (x : α) (W : World) (K : Act → World → Prop), K (a₁ x) W →
      assign.wpIn (Fence.wide.inRound l) (n - 1 - 1) P (Exit.then K (fun _ _ _ => False)) { tmps := (ps.zip (encs x)).foldl (fun t (p, v) => t.setIfInBounds p v) a.tmps, defers := [] } W)
    (hbody : ∀ (l : Nat) (pre : List α) (x : α) (W : World), I pre W → Pr pre x → body.wpIn (Fence.wide.inRound l) (n - 1 - 1) P (endH Hs I (pre ++ [x]) W) (a₁ x) W)
    (hdone : ∀ (D : Nat) (xs : List α) (W : World), w.heap.size ≤ D → S xs → I xs W → W.heap[D]? = some (.deferred (some [])) → Q .normal { a with defers := { target := .collected D, args := #[] } :: a.defers } W) :
    (Code.rangeFunc g ps assign body).wpIn Fence.wide n P Q a w := by
  refine wpIn_rangeFunc fun fn _ => ?_
  -- the loop's record, ready or busy
  obtain ⟨R, hR⟩ : ∃ R : LoopState → Loop, R = fun st => { state := st, pending := none, fn, tmps := a.tmps, params := ps, assign, body, defers := w.heap.size } := ⟨_, rfl⟩
  obtain ⟨D, hD⟩ : ∃ D, D = w.heap.size := ⟨_, rfl⟩
  obtain ⟨W1, hW1⟩ : ∃ W1, W1 = (w.alloc (.deferred (some []))).alloc (.loop (R .ready)) := ⟨_, rfl⟩
  have s0 : (w.alloc (.deferred (some []))).heap.size = D + 1 := by rw [World.size_alloc, hD]
  have hl1 : W1.heap[D + 1]? = some (.loop (R .ready)) := by rw [hW1, ← s0]; exact World.alloc_heap_new _ _
  have gb : Below w.heap.size w W1 := by
    rw [hW1]
    exact ((Below.refl _ w).alloc (Nat.le_refl _) _).alloc (by rw [World.size_alloc]; omega) _
  have hk1 : W1.heap[D]? = some (.deferred (some [])) := by
    rw [hW1, Below.heap_alloc _ _ _ (by rw [s0]; omega), hD]
    exact World.alloc_heap_new _ _
  have hi1 : I [] W1 := by rw [hW1]; exact hI.alloc _ (hI.alloc _ h0)
  refine ⟨D + 1, [{ target := .collected D, args := #[] }], W1, { target := .fn (.func gf) lb, args := #[.func (.yield (D + 1)) #[] #[]] }, W1, gf, #[.func (.yield (D + 1)) #[] #[]] ++ lb, W1, ?_, ?_, ?_, ?_, fun _ => h1, ?_⟩
  · rw [hD, hW1, hR]
    exact run_enterLoop_outer _ _ _ _ _
  · simp only [resolve, hg]
    simp [go_sem]
  · exact fun _ _ => trivial
  · simp [invoke, go_sem, eg]
  · have keep : ∀ {A B : World} {k : Nat} {o : Obj}, A.grownBy B (some hb) → D ≤ k → A.heap[k]? = some o → B.heap[k]? = some o := fun hg hk ho =>
      (hg.block _ (Array.getElem?_eq_some_iff.1 ho).1 (fun e => by injection e with e; omega)).trans ho
    refine (hseq (D + 1) (fun pre W => I pre W ∧ W.heap[D + 1]? = some (.loop (R .ready)) ∧ W.heap[D]? = some (.deferred (some []))) W1 gb
      (fun s A B h hg => ⟨hIb s A B h.1 hg, keep hg (by omega) h.2.1, keep hg (Nat.le_refl _) h.2.2⟩) ?_ ⟨hi1, hl1, hk1⟩).mono ?_
    · rintro pre x W ⟨hi, hl, hk⟩ hN
      have lt : D + 1 < W.heap.size := (Array.getElem?_eq_some_iff.1 hl).1
      have hy := run_yield (P := P) (args := encs x) hl (by rw [hR]; exact hps x)
      rw [hR] at hy
      refine ⟨fn, _, assign, body, hy, roundIn_of_wpIn trivial (hassign _ x W _ ⟨_, run_beginRound hl (by rw [hR]), ?_⟩)⟩
      obtain ⟨W2, hW2⟩ : ∃ W2, W2 = W.putObj (D + 1) (.loop { R .ready with state := .busy }) := ⟨_, rfl⟩
      rw [← hW2]
      have hl2 : W2.heap[D + 1]? = some (.loop { R .ready with state := .busy }) := by rw [hW2]; exact World.putObj_heap_same lt
      have hk2 : W2.heap[D]? = some (.deferred (some [])) := by rw [hW2]; exact (World.putObj_heap_other (by omega)).trans hk
      have kp2 : KpH Hs W W2 := fun k hk' o ho => by rw [hW2]; exact (World.putObj_heap_other (by have := hHs k hk'; omega)).trans ho
      have hi2 : I pre W2 := by rw [hW2]; exact hI.putObj _ hi (by omega) hl rfl
      refine wpIn_mono (hbody _ pre x W2 hi2 hN) ?_
      rintro e a3 W3 hp
      cases e with
      | normal =>
        obtain ⟨ko, kp3, hi3⟩ := hp
        have hl3 := ko.same _ _ hl2 rfl
        have hk3 := ko.same _ _ hk2 rfl
        have hr := run_endRound (P := P) none hl3
        have lt3 : D + 1 < W3.heap.size := (Array.getElem?_eq_some_iff.1 hl3).1
        have e1 : ({ { R .ready with state := .busy } with state := if (none : Option Code).isNone then .ready else .done, pending := none } : Loop) = R .ready := by rw [hR]; rfl
        rw [e1] at hr
        refine ⟨_, _, hr, rfl, ⟨hI.putObj _ hi3 (by omega) hl3 rfl, World.putObj_heap_same lt3, (World.putObj_heap_other (by omega)).trans hk3⟩, (kp2.trans kp3).trans fun k hk' o ho => ?_⟩
        exact (World.putObj_heap_other (by have := hHs k hk'; omega)).trans ho
      | ret => exact hp.elim
      | exit id => exact hp.elim
      | goto t => exact hp.elim
      | panic ch => exact hp.elim
      | outgrown => exact hp.elim
    · rintro e W2 ⟨⟨v, rfl⟩, xs, hS, hi, hl, hk⟩
      have hr := run_endLoop (P := P) hl (by rw [hR]; simp)
      have hp : (R .ready).pending = none := by rw [hR]
      rw [hp] at hr
      refine ⟨none, _, hr, hdone D xs _ (by omega) hS (hI.putObj _ hi (by omega) hl rfl) ((World.putObj_heap_other (by omega)).trans hk)⟩
end
end Go.Proofs.YtpdmfbhjneodeaaDoor
namespace Go.Proofs.YtpdmfbhjneodeaaDoor
open Go.RowKit Go.Shelf
attribute [local go_sem] Oper.semAt_some
/-- The first piece of a text. -/
theorem ix_split (c : UInt8) : ∀ r : List UInt8, (Lib.indexByte r c = -1 ∧ piB c r = [r]) ∨ ∃ p q, r = p ++ c :: q ∧ Lib.indexByte r c = (p.length : Int) ∧ piB c r = p :: piB c q
  | [] => .inl ⟨rfl, rfl⟩
  | x :: r => by
    by_cases hx : x = c
    · refine .inr ⟨[], r, by rw [hx]; rfl, ?_, by rw [piB, if_pos hx]⟩
      rw [Lib.indexByte, if_pos (by rw [hx]; exact beq_self_eq_true c)]
      rfl
    · rcases ix_split c r with ⟨h1, h2⟩ | ⟨p, q, h1, h2, h3⟩
      · refine .inl ⟨?_, by rw [piB, if_neg hx, h2]; rfl⟩
        rw [Lib.indexByte, if_neg (by simpa using hx), h1]
        rfl
      · refine .inr ⟨x :: p, q, by rw [h1]; rfl, ?_, by rw [piB, if_neg hx, h3]; rfl⟩
        rw [Lib.indexByte, if_neg (by simpa using hx), h2]
        have : ¬ (((p.length : Int)) == -1) = true := by rw [beq_iff_eq]; omega
        rw [if_neg this]
        simp
def szAt (b : Nat) (w : World) : Nat := match w.cell? ⟨b, 0, none⟩ with
  | some (.string s) => s.size
  | _ => 0
theorem szAt_eq {b : Nat} {w : World} {s : ByteArray} (h : w.cell? ⟨b, 0, none⟩ = some (.string s)) : szAt b w = s.size := by unfold szAt; rw [h]
theorem grown_cell (w : World) (b : Nat) (v : Value) : w.grownBy (w.setCell ⟨b, 0, none⟩ v) (some b) := by
  have u := Upd.setCell w ⟨b, 0, none⟩ v
  exact ⟨rfl, rfl, rfl, by rw [u.size]; exact Nat.le_refl _, fun k _ hne => u.block k (fun e => hne (by rw [e]))⟩
theorem Tryd.uptoP (s : ByteArray) (i : Nat) (h : i ≤ s.size) (w : World) : (Instr.sliceAt 9 (.string s) none (some (.int .i64 i)) none).run Tryd.prog w = .ok (.string (s.extract 0 i)) w := by
  rw [run_sliceAt_string (P := Tryd.prog) w 9 _ _ _ _ Tryd.underlying9, run_slice_string_h (P := Tryd.prog) w 9 s Tryd.underlying9 .i64 i (by omega) (by omega)]
  simp
set_option maxRecDepth 100000 in
set_option maxHeartbeats 2000000 in
theorem Tryd.spq_seq (n : Nat) (hn : 1 ≤ n) (c : UInt8) (t : List UInt8) (bc bs bz : Nat) (w0 : World) (ht : t.length ≤ 1048576) (hcs : bc ≠ bs) (hzs : bz ≠ bs)
    (h1 : Blk w0 bc #[.string ⟨#[c]⟩] 9) (h2 : Blk w0 bs #[.string ⟨t.toArray⟩] 9) (h3 : Blk w0 bz #[.int .i64 0] 3) :
    SeqH n Tryd.prog 65 #[.pointer (some ⟨bc, 0, none⟩), .pointer (some ⟨bs, 0, none⟩), .pointer (some ⟨bz, 0, none⟩)] (fun x : List UInt8 => #[tx x]) [bc, bs, bz] bs (fun ys => ys = piB c t) (fun pre x => ∃ r, pre ++ x :: r = piB c t) w0 := by
  intro l J W hW hJb hY h0
  have b1 : Blk W bc #[.string ⟨#[c]⟩] 9 := (hW.block bc h1.lt).trans h1
  have b2 : Blk W bs #[.string ⟨t.toArray⟩] 9 := (hW.block bs h2.lt).trans h2
  have b3 : Blk W bz #[.int .i64 0] 3 := (hW.block bz h3.lt).trans h3
  refine callsIn_of_wp Tryd.func65 rfl trivial ?_ rfl
  simp only [Tryd.ntmps65, List.size_toArray, List.length_cons, List.length_nil, Nat.reduceAdd, Nat.reduceSub, Array.replicate_succ, Array.replicate_zero, List.push_toArray, List.append_toArray, List.nil_append, List.cons_append]
  have c1 := b1.cell 0
  have c2 := b2.cell 0
  have c3 := b3.cell 0
  gi_wp2
  gi_loopw [7, 8] (fun _ _ wr => ∃ (pre : List (List UInt8)) (r : List UInt8), pre ++ piB c r = piB c t ∧ r.length ≤ t.length ∧ J pre wr ∧ Blk wr bc #[.string ⟨#[c]⟩] 9 ∧ Blk wr bs #[.string ⟨r.toArray⟩] 9 ∧ Blk wr bz #[.int .i64 0] 3)
    (fun _ _ wr => szAt bs wr)
  case atStart => exact ⟨[], t, rfl, Nat.le_refl _, h0, b1, b2, b3⟩
  case round =>
    obtain ⟨pre, r, hpr, hrl, hJs, b1, b2, b3⟩ := hrel
    have c1 := b1.cell 0
    have c2 := b2.cell 0
    have c3 := b3.cell 0
    have HIX := hidI (fun w' => show Calls Tryd.prog 50 #[.string ⟨r.toArray⟩, .string ⟨#[c]⟩] w' (fun e w'' => e = .returned (.int .i64 (Lib.indexByte r c)) ∧ w'' = w') from by
      have := Tryd.strings_Index_one ⟨r.toArray⟩ c w'
      rwa [show (⟨r.toArray⟩ : ByteArray).data.toList = r from by simp] at this)
    have hsz : (⟨r.toArray⟩ : ByteArray).size = r.length := List.size_toArray
    rcases ix_split c r with ⟨hi, hp⟩ | ⟨p, q, hr, hi, hp⟩
    · rw [hi] at HIX
      obtain ⟨fn, tmps, assign, body, hy, hR⟩ := hY pre r wr hJs ⟨[], by rw [← hpr, hp]⟩
      unfold tx at hy
      have HF := hidI (show pre ++ [r] = piB c t from by rw [← hpr, hp])
      clear hsz hpr hi hp
      gi_wp2
      refine ⟨trivial, (OpenF.wide.calls (HIX.out _)).mono ?_⟩
      rintro e w6 ⟨rfl, rfl⟩
      gi_wp2
      refine hR.mono ?_
      rintro e W3 ⟨rfl, hJ3, hk3⟩
      gi_wp2
      go_end0
      exact ⟨⟨_, rfl⟩, pre ++ [r], HF.out, hJ3⟩
    · rw [hi] at HIX
      obtain ⟨fn, tmps, assign, body, hy, hR⟩ := hY pre p wr hJs ⟨piB c q, by rw [← hpr, hp]⟩
      have HF := hidI (show (pre ++ [p]) ++ piB c q = piB c t from by rw [← hpr, hp, List.append_assoc]; rfl)
      have hrl2 : r.length = p.length + 1 + q.length := by rw [hr, List.length_append, List.length_cons]; omega
      have hs1 : ∀ w', (Instr.sliceAt 9 (.string ⟨r.toArray⟩) none (some (.int .i64 p.length)) none).run Tryd.prog w' = .ok (tx p) w' := fun w' => by
        rw [Tryd.uptoP ⟨r.toArray⟩ p.length (by rw [hsz]; omega), mk_extract, hr]
        simp [tx]
      have hs2 : ∀ w', (Instr.sliceAt 9 (.string ⟨r.toArray⟩) (some (.int .i64 ((p.length + 1 : Nat) : Int))) none none).run Tryd.prog w' = .ok (tx q) w' := fun w' => by
        rw [Tryd.fromP ⟨r.toArray⟩ (p.length + 1) (by rw [hsz]; omega), mk_extract, hsz, List.take_length, hr]
        have : (p ++ c :: q).drop (p.length + 1) = q := by rw [List.drop_append]; simp
        rw [this]
        rfl
      obtain ⟨m, hm⟩ : ∃ m, m = p.length := ⟨_, rfl⟩
      obtain ⟨s, hs⟩ : ∃ s : ByteArray, s = ⟨r.toArray⟩ := ⟨_, rfl⟩
      rw [← hm] at hs1 hs2 HIX hrl2
      rw [← hs] at HIX hs1 hs2 c2
      simp only [Int.natCast_add, Int.natCast_one] at hs2
      unfold tx at hs2
      have hm1 : m ≤ 1048576 := by omega
      have hrs : r.length = s.size := by rw [hs, hsz]
      have HRS := hidI hrs
      have HSS := hidI hs
      have HRL := hidI hrl2
      have hqt : q.length ≤ t.length := by omega
      clear hsz hpr hi hp hr hm hs hrs hrl2
      gi_wp2
      refine ⟨trivial, (OpenF.wide.calls (HIX.out _)).mono ?_⟩
      rintro e w6 ⟨rfl, rfl⟩
      gi_wp2
      refine hR.mono ?_
      rintro e W3 ⟨rfl, hJ3, hk3⟩
      have b13 : Blk W3 bc #[.string ⟨#[c]⟩] 9 := hk3 bc (by simp) _ b1
      have b23 : Blk W3 bs #[.string ⟨r.toArray⟩] 9 := hk3 bs (by simp) _ b2
      have b33 : Blk W3 bz #[.int .i64 0] 3 := hk3 bz (by simp) _ b3
      have c13 := b13.cell 0
      have c23 : W3.cell? ⟨bs, 0, none⟩ = some (.string s) := by rw [HSS.out]; exact b23.cell 0
      have c33 := b33.cell 0
      have f23 : W3.frozen? ⟨bs, 0, none⟩ = false := b23.free 0
      gi_wp2
      have u4 := Upd.setCell W3 ⟨bs, 0, none⟩ (tx q)
      have b24 := heap_setCell_same W3 bs 0 _ 9 (tx q) b23
      go_roundw
      case rel => exact ⟨pre ++ [p], q, HF.out, hqt, hJb _ _ _ hJ3 (grown_cell _ _ _), u4.blk b13 hcs, b24, u4.blk b33 hzs⟩
      case measure =>
        have e1 : szAt bs (W3.setCell ⟨bs, 0, none⟩ (tx q)) = q.length := by
          rw [szAt_eq (s := ⟨q.toArray⟩) (Blk.cell b24 0)]
          exact List.size_toArray
        have e2 : szAt bs w6 = r.length := by
          rw [szAt_eq (s := s) c2, ← HRS.out]
        have h1 := HRL.out
        unfold tx at e1
        rw [e1, e2]
        omega
end Go.Proofs.YtpdmfbhjneodeaaDoor
namespace Go.Proofs.YtpdmfbhjneodeaaDoor
open Go.RowKit
/-- The iterator over the pieces of s, with its three variables in new memory. -/
def RetSpq (f : FuncId) (TS TI : TypeId) (s : ByteArray) (c : UInt8) (w : World) (e : Ending) (w' : World) : Prop :=
  Gr w w' ∧ ∃ bc bs bz, e = .returned (.func (.func f) #[] #[.pointer (some ⟨bc, 0, none⟩), .pointer (some ⟨bs, 0, none⟩), .pointer (some ⟨bz, 0, none⟩)]) ∧
    Blk w' bc #[.string ⟨#[c]⟩] TS ∧ Blk w' bs #[.string s] TS ∧ Blk w' bz #[.int .i64 0] TI ∧ bc ≠ bs ∧ w.heap.size ≤ bs ∧ w.heap.size ≤ bc ∧ w.heap.size ≤ bz
set_option maxHeartbeats 1000000 in
set_option maxRecDepth 100000 in
theorem Tryd.spq_make (s : ByteArray) (c : UInt8) (w : World) : Calls Tryd.prog 40 #[.string s, .string ⟨#[c]⟩, .int .i64 0] w (RetSpq 65 9 3 s c w) := by
  have gg := Gr.refl w
  go_enter Tryd.func40, Tryd.ntmps40
  go_wp2
  go_ret
  obtain ⟨w1, h1⟩ : ∃ w1, w1 = w.alloc (.cells #[.string s] 9) := ⟨_, rfl⟩
  obtain ⟨w2, h2⟩ : ∃ w2, w2 = w1.alloc (.cells #[.string ⟨#[c]⟩] 9) := ⟨_, rfl⟩
  obtain ⟨w3, h3⟩ : ∃ w3, w3 = w2.alloc (.cells #[.int .i64 0] 3) := ⟨_, rfl⟩
  have z1 : w1.heap.size = w.heap.size + 1 := by rw [h1]; exact World.size_alloc _ _
  have z2 : w2.heap.size = w.heap.size + 2 := by rw [h2, World.size_alloc, z1]
  have b1 : Blk w1 w.heap.size #[.string s] 9 := by rw [h1]; exact heap_alloc_new _ _
  have b2 : Blk w2 w1.heap.size #[.string ⟨#[c]⟩] 9 := by rw [h2]; exact heap_alloc_new _ _
  have b3 : Blk w3 w2.heap.size #[.int .i64 0] 3 := by rw [h3]; exact heap_alloc_new _ _
  have g1 : Gr w w1 := by rw [h1]; exact gg.alloc _
  have g2 : Gr w1 w2 := by rw [h2]; exact (Gr.refl _).alloc _
  have g3 : Gr w2 w3 := by rw [h3]; exact (Gr.refl _).alloc _
  rw [← h1, ← h2, ← h3]
  rw [z1] at b2
  rw [z2] at b3
  exact ⟨(g1.trans g2).trans g3, w.heap.size + 1, w.heap.size, w.heap.size + 2, rfl, g3.blk b2, g3.blk (g2.blk b1), b3, by omega, by omega, by omega, by omega⟩
set_option maxHeartbeats 1000000 in
theorem Tryd.spq_any (s : ByteArray) (c : UInt8) (w : World) : Calls Tryd.prog 22 #[.string s, .string ⟨#[c]⟩] w (RetSpq 65 9 3 s c w) := by
  have gg := Gr.refl w
  go_enter Tryd.func22, Tryd.ntmps22
  go_wp2_with (go_at_call 40; refine (Tryd.spq_make s c _).mono ?_; rintro e w2 ⟨g2, bc, bs, bz, rfl, h⟩)
  go_ret
  exact ⟨g2, bc, bs, bz, rfl, h⟩
end Go.Proofs.YtpdmfbhjneodeaaDoor
namespace Go.Proofs.YtpdmfbhjneodeaaDoor
open Go.RowKit
/-! pieces joined and cut again -/
theorem join_joL (c : UInt8) : ∀ M : List (List UInt8), Lib.join M [c] = joL c M
  | [] => rfl
  | [x] => by rw [Lib.join_one]; rfl
  | x :: y :: r => by
    have ih := join_joL c (y :: r)
    rw [Lib.join_cons] at ih ⊢
    show x ++ Lib.joinTail [c] (y :: r) = x ++ c :: joL c (y :: r)
    rw [← ih]
    unfold Lib.joinTail
    simp
theorem join_piB (c : UInt8) (l : List UInt8) : Lib.join (piB c l) [c] = l := by rw [join_joL, piB_join]
theorem piB_none (c : UInt8) : ∀ p : List UInt8, c ∉ p → piB c p = [p]
  | [], _ => rfl
  | x :: p, h => by
    rw [List.mem_cons, not_or] at h
    rw [piB, if_neg (fun e => h.1 e.symm), piB_none c p h.2]
    rfl
theorem piB_cut (c : UInt8) (r : List UInt8) : ∀ p : List UInt8, c ∉ p → piB c (p ++ c :: r) = p :: piB c r
  | [], _ => by rw [List.nil_append, piB, if_pos rfl]
  | x :: p, h => by
    rw [List.mem_cons, not_or] at h
    rw [List.cons_append, piB, if_neg (fun e => h.1 e.symm), piB_cut c r p h.2]
    rfl
theorem piB_join2 (c : UInt8) : ∀ M : List (List UInt8), M ≠ [] → (∀ p ∈ M, c ∉ p) → piB c (Lib.join M [c]) = M
  | [], h, _ => absurd rfl h
  | [x], _, h => by rw [Lib.join_one]; exact piB_none c x (h x List.mem_cons_self)
  | x :: y :: r, _, h => by
    have ih := piB_join2 c (y :: r) (by simp) (fun p hp => h p (List.mem_cons_of_mem _ hp))
    rw [join_joL] at ih ⊢
    show piB c (x ++ c :: joL c (y :: r)) = _
    rw [piB_cut c _ x (h x List.mem_cons_self), ih]
theorem joL_not {s c : UInt8} (h : c ≠ s) : ∀ M : List (List UInt8), (∀ p ∈ M, c ∉ p) → c ∉ joL s M
  | [], _ => List.not_mem_nil
  | [x], hm => hm x List.mem_cons_self
  | x :: y :: r, hm => by
    have ih := joL_not h (y :: r) (fun p hp => hm p (List.mem_cons_of_mem _ hp))
    show c ∉ x ++ s :: joL s (y :: r)
    rw [List.mem_append, List.mem_cons]
    rintro (h1 | h1 | h1)
    · exact hm x List.mem_cons_self h1
    · exact h h1
    · exact ih h1
/-! numbers of one digit -/
def dOk (x : Int) : Prop := 0 ≤ x ∧ x < 10
theorem dgt_dec {x : Int} (h : dOk x) : [dgt x] = Lib.decDigits x.toNat := by
  have h1 : x.toNat < 10 := by unfold dOk at h; omega
  rw [Lib.decDigits_one h1]
  rfl
def atZ (d : List UInt8) : Int := match Lib.atoiAll d with
  | .ok v => v
  | .«syntax» => 0
  | .range => Lib.atoiSat d
theorem atZ_dgt {x : Int} (h : dOk x) : atZ [dgt x] = x := by
  have h1 : x.toNat < 100 := by unfold dOk at h; omega
  unfold atZ
  rw [dgt_dec h, atoi_dec h1]
  unfold dOk at h
  show ((x.toNat : Nat) : Int) = x
  omega
theorem rdZ_dgt {x : Int} (h : dOk x) : rdZ [dgt x] = x := by
  have h1 : x.toNat < 100 := by unfold dOk at h; omega
  have := (rdZ_nm2 [dgt x]).1 x.toNat (by rw [dgt_dec h]; exact dec_nm2 h1)
  rw [this]
  unfold dOk at h
  omega
theorem dgt_of {d : List UInt8} (h : dOk (rdZ d)) : d = [dgt (rdZ d)] := by
  obtain ⟨h1, h2⟩ := rdZ_nm2 d
  unfold dOk at h
  cases hn : nm2 d with
  | none => rcases h2 hn with e | e <;> omega
  | some k =>
    have e := h1 k hn
    obtain ⟨-, hd⟩ := nm2_dec hn
    rw [e] at h ⊢
    rw [dgt_dec (x := (k : Int)) h, Int.toNat_natCast]
    exact hd
theorem dgt_plain {x : Int} (h : dOk x) : dgt x ≠ 44 ∧ dgt x ≠ 47 := by
  unfold dOk at h
  have hb : ∀ n, n < 10 → UInt8.ofNat (48 + n) ≠ 44 ∧ UInt8.ofNat (48 + n) ≠ 47 := by decide
  exact hb x.toNat (by omega)
/-! rows -/
def rowsP2 (l : List UInt8) : List (List (List UInt8)) := (piB 47 l).map (piB 44)
def wdB (l : List UInt8) : Nat := ((rowsP2 l).getLastD []).length
def evenB (l : List UInt8) : Bool := (rowsP2 l).all fun r => r.length == wdB l
def clM (l : List UInt8) : List Int := ((rowsP2 l).flatten).map rdZ
def clP (l : List UInt8) : List Int := ((rowsP2 l).flatten).map atZ
/-- Rows of one width, each piece a digit: the numbers' text by rows is the rows' text. -/
theorem rowsT_of (W : Nat) (C : List Int) : ∀ (R : List (List (List UInt8))) (P : List Int) (k : Nat), (∀ r ∈ R, r.length = W) → (∀ r ∈ R, ∀ d ∈ r, dOk (rdZ d)) → P.length = k * W → C = P ++ R.flatten.map rdZ →
    (List.range' k R.length).map (fun r => rowT C (r * W) W) = R.map fun r => Lib.join r [44]
  | [], _, _, _, _, _, _ => rfl
  | r :: R, P, k, hw, hd, hP, hC => by
    rw [List.length_cons, List.range'_succ, List.map_cons, List.map_cons]
    have ih := rowsT_of W C R (P ++ r.map rdZ) (k + 1) (fun x hx => hw x (List.mem_cons_of_mem _ hx)) (fun x hx => hd x (List.mem_cons_of_mem _ hx)) (by rw [List.length_append, List.length_map, hw r List.mem_cons_self, hP, Nat.succ_mul]) (by rw [hC, List.flatten_cons, List.map_append, List.append_assoc])
    rw [ih]
    congr 1
    unfold rowT
    congr 1
    have hr := hw r List.mem_cons_self
    apply List.ext_getElem
    · rw [nmsT_length, hr]
    · intro j h1 h2
      have hj : j < r.length := h2
      have e : gi C (k * W + j) = rdZ r[j] := by
        unfold gi
        rw [hC, ← hP, List.getD_eq_getElem?_getD, List.getElem?_append_right (by omega), Nat.add_sub_cancel_left, List.flatten_cons, List.map_append, List.getElem?_append_left (by rw [List.length_map]; exact hj), List.getElem?_map, List.getElem?_eq_getElem hj]
        rfl
      have e2 : (nmsT C (k * W) W)[j] = [dgt (gi C (k * W + j))] := by simp [nmsT]
      rw [e2, e]
      exact (dgt_of (hd r List.mem_cons_self _ (List.getElem_mem hj))).symm
theorem brdT_of {l : List UInt8} {W : Nat} (hw : ∀ r ∈ rowsP2 l, r.length = W) (hd : ∀ r ∈ rowsP2 l, ∀ d ∈ r, dOk (rdZ d)) : brdT (clM l) W (rowsP2 l).length = l := by
  have h := rowsT_of W (clM l) (rowsP2 l) [] 0 hw hd (by simp) rfl
  unfold brdT rowsT
  rw [List.range_eq_range', h]
  have e : (rowsP2 l).map (fun r => Lib.join r [44]) = piB 47 l := by
    unfold rowsP2
    rw [List.map_map]
    conv => rhs; rw [← List.map_id (piB 47 l)]
    exact List.map_congr_left fun p _ => join_piB 44 p
  rw [e, join_piB]
theorem clP_of {l : List UInt8} (hd : ∀ r ∈ rowsP2 l, ∀ d ∈ r, dOk (rdZ d)) : clP l = clM l := by
  unfold clP clM
  refine List.map_congr_left fun d hdm => ?_
  obtain ⟨r, hr, hdr⟩ := List.mem_flatten.1 hdm
  have h := hd r hr d hdr
  rw [dgt_of h, atZ_dgt h, rdZ_dgt h]
/-- The text of a board, cut again. -/
theorem rows_brd {C : List Int} {W H : Nat} (hW : 1 ≤ W) (hH : 1 ≤ H) (hd : ∀ i, dOk (gi C i)) : rowsP2 (brdT C W H) = (List.range H).map fun r => nmsT C (r * W) W := by
  have h44 : ∀ o p, p ∈ nmsT C o W → (44 : UInt8) ∉ p ∧ (47 : UInt8) ∉ p := by
    intro o p hp
    unfold nmsT at hp
    obtain ⟨j, _, rfl⟩ := List.mem_map.1 hp
    obtain ⟨h1, h2⟩ := dgt_plain (hd (o + j))
    exact ⟨fun h => h1 (List.mem_singleton.1 h).symm, fun h => h2 (List.mem_singleton.1 h).symm⟩
  have hne : ∀ o, nmsT C o W ≠ [] := fun o h => by have := nmsT_length C o W; rw [h] at this; simp at this; omega
  have h47 : ∀ p ∈ rowsT C W H, (47 : UInt8) ∉ p := by
    intro p hp
    unfold rowsT at hp
    obtain ⟨r, _, rfl⟩ := List.mem_map.1 hp
    unfold rowT
    rw [join_joL]
    exact joL_not (by decide) _ fun q hq => (h44 _ q hq).2
  unfold rowsP2 brdT
  rw [piB_join2 47 _ (fun h => by have := rowsT_length C W H; rw [h] at this; simp at this; omega) h47]
  unfold rowsT
  rw [List.map_map]
  refine List.map_congr_left fun r _ => ?_
  show piB 44 (rowT C (r * W) W) = _
  exact piB_join2 44 _ (hne _) (fun p hp => (h44 _ p hp).1)
end Go.Proofs.YtpdmfbhjneodeaaDoor
namespace Go.Proofs.YtpdmfbhjneodeaaDoor
open Go.RowKit
def pbM (l : List UInt8) : Option (Nat × List Int) := if (decide (l.length ≤ 40) && evenB l && bdOk (wdB l) (clM l)) = true then some (wdB l, clM l) else none
def pbP (l : List UInt8) : Option (Nat × List Int) := if (bdOk (wdB l) (clP l) && decide (brdT (clP l) (wdB l) ((clP l).length / wdB l) = l)) = true then some (wdB l, clP l) else none
theorem flat_lenQ {W : Nat} : ∀ R : List (List (List UInt8)), (∀ r ∈ R, r.length = W) → R.flatten.length = R.length * W
  | [], _ => by simp
  | r :: R, h => by
    rw [List.flatten_cons, List.length_append, flat_lenQ R (fun x hx => h x (List.mem_cons_of_mem _ hx)), h r List.mem_cons_self, List.length_cons, Nat.succ_mul]
    omega
theorem bd_facts {W : Nat} {L : List Int} (h : bdOk W L = true) : 1 ≤ W ∧ W ≤ 3 ∧ 1 ≤ L.length / W ∧ L.length / W ≤ 3 ∧ ∀ i, dOk (gi L i) := by
  unfold bdOk at h
  rw [Bool.and_eq_true, bShape_iff] at h
  obtain ⟨⟨W', H, e, hn, h1, h2, h3, h4⟩, ha⟩ := h
  obtain rfl : W = W' := by omega
  have hdiv : L.length / W = H := by rw [hn]; unfold nn; exact Nat.mul_div_cancel_left _ h1
  have h9 : L.length ≤ 9 := by rw [hn]; exact Nat.mul_le_mul h2 h4
  refine ⟨h1, h2, by omega, by omega, fun i => ?_⟩
  unfold dOk
  by_cases hi : i < L.length
  · have := hasAll_lt ha i hi
    omega
  · unfold gi
    rw [List.getD_eq_getElem?_getD, List.getElem?_eq_none (by omega)]
    decide
theorem pb_same (l : List UInt8) : pbM l = pbP l := by
  unfold pbM pbP
  by_cases hM : (decide (l.length ≤ 40) && evenB l && bdOk (wdB l) (clM l)) = true
  · rw [if_pos hM]
    rw [Bool.and_eq_true, Bool.and_eq_true] at hM
    obtain ⟨⟨-, he⟩, hb⟩ := hM
    obtain ⟨h1, -, -, -, hd⟩ := bd_facts hb
    have hw : ∀ r ∈ rowsP2 l, r.length = wdB l := fun r hr => by
      unfold evenB at he
      have := List.all_eq_true.1 he r hr
      simpa using this
    have hdd : ∀ r ∈ rowsP2 l, ∀ d ∈ r, dOk (rdZ d) := fun r hr d hdr => by
      have hm : rdZ d ∈ clM l := List.mem_map.2 ⟨d, List.mem_flatten.2 ⟨r, hr, hdr⟩, rfl⟩
      obtain ⟨i, -, e⟩ := mem_gi hm
      rw [← e]
      exact hd i
    have hlen : (clM l).length / wdB l = (rowsP2 l).length := by
      unfold clM
      rw [List.length_map, flat_lenQ _ hw]
      exact Nat.mul_div_cancel _ h1
    rw [clP_of hdd, if_pos]
    rw [hb, hlen, brdT_of hw hdd, decide_eq_true rfl]
    rfl
  · rw [if_neg hM]
    by_cases hP : (bdOk (wdB l) (clP l) && decide (brdT (clP l) (wdB l) ((clP l).length / wdB l) = l)) = true
    · exfalso
      rw [Bool.and_eq_true, decide_eq_true_eq] at hP
      obtain ⟨hb, ht⟩ := hP
      obtain ⟨h1, h2, h3, h4, hd⟩ := bd_facts hb
      have hrows := rows_brd h1 h3 hd
      rw [ht] at hrows
      have hw : ∀ r ∈ rowsP2 l, r.length = wdB l := fun r hr => by
        rw [hrows] at hr
        obtain ⟨k, -, rfl⟩ := List.mem_map.1 hr
        exact nmsT_length _ _ _
      have hdd : ∀ r ∈ rowsP2 l, ∀ d ∈ r, dOk (rdZ d) := fun r hr d hdr => by
        rw [hrows] at hr
        obtain ⟨k, -, rfl⟩ := List.mem_map.1 hr
        unfold nmsT at hdr
        obtain ⟨j, -, rfl⟩ := List.mem_map.1 hdr
        rw [rdZ_dgt (hd _)]
        exact hd _
      have hl : l.length ≤ 40 := by
        have h5 := brdT_le (clP l) (wdB l) ((clP l).length / wdB l)
        rw [ht] at h5
        have h6 : (clP l).length / wdB l * (wdB l * 2 + 1) ≤ 3 * (3 * 2 + 1) := Nat.mul_le_mul h4 (by omega)
        omega
      refine hM ?_
      rw [← clP_of hdd, hb, decide_eq_true hl]
      unfold evenB
      rw [List.all_eq_true.2 fun r hr => by rw [hw r hr]; exact beq_self_eq_true _]
      rfl
    · rw [if_neg hP]
end Go.Proofs.YtpdmfbhjneodeaaDoor
namespace Go.Proofs.YtpdmfbhjneodeaaDoor
open Go.RowKit
/-! the result -/
def pbW (l : List UInt8) : Int := match pbM l with
  | some x => (x.1 : Int)
  | none => 0
def pbL (l : List UInt8) : List Int := match pbM l with
  | some x => x.2
  | none => []
def pbOk (l : List UInt8) : Bool := (pbM l).isSome
theorem pb_no {l : List UInt8} (h : pbM l = none) : 0 = pbW l ∧ [] = pbL l ∧ false = pbOk l := by
  unfold pbW pbL pbOk
  rw [h]
  exact ⟨rfl, rfl, rfl⟩
theorem pb_yes {l : List UInt8} {W : Nat} {C : List Int} (h : pbM l = some (W, C)) : (W : Int) = pbW l ∧ C = pbL l ∧ true = pbOk l := by
  unfold pbW pbL pbOk
  rw [h]
  exact ⟨rfl, rfl, rfl⟩
theorem pbL_le (l : List UInt8) : (pbL l).length ≤ 9 := by
  unfold pbL pbM
  split
  · rename_i x hx
    split at hx
    · rename_i hc
      rw [Bool.and_eq_true, Bool.and_eq_true] at hc
      injection hx with hx
      rw [← hx]
      have h := hc.2
      unfold bdOk at h
      rw [Bool.and_eq_true, bShape_iff] at h
      obtain ⟨⟨W, H, -, hn, -, h2, -, h4⟩, -⟩ := h
      show (clM l).length ≤ 9
      rw [hn]
      exact Nat.mul_le_mul h2 h4
    · cases hx
  · exact Nat.zero_le _
/-! rows read so far -/
def clR (f : List UInt8 → Int) (pre : List (List UInt8)) : List Int := ((pre.map (piB 44)).flatten).map f
def wdR (pre : List (List UInt8)) : Nat := ((pre.map (piB 44)).getLastD []).length
theorem clR_nil (f : List UInt8 → Int) : clR f [] = [] := rfl
theorem clR_snoc (f : List UInt8 → Int) (pre : List (List UInt8)) (x : List UInt8) : clR f (pre ++ [x]) = clR f pre ++ (piB 44 x).map f := by
  unfold clR
  rw [List.map_append, List.flatten_append, List.map_append]
  simp
theorem wdR_snoc (pre : List (List UInt8)) (x : List UInt8) : wdR (pre ++ [x]) = (piB 44 x).length := by
  unfold wdR
  rw [List.map_append]
  simp
theorem clR_m (l : List UInt8) : clR rdZ (piB 47 l) = clM l := rfl
theorem clR_p (l : List UInt8) : clR atZ (piB 47 l) = clP l := rfl
theorem wdR_b (l : List UInt8) : wdR (piB 47 l) = wdB l := rfl
/-- The numbers of a row, read up to here. -/
theorem map_take (f : List UInt8 → Int) (q : List (List UInt8)) {j : Nat} (h : j < q.length) : (q.take (j + 1)).map f = (q.take j).map f ++ [f (q.getD j [])] := by
  rw [List.take_succ_eq_append_getElem h, List.map_append, List.getD_eq_getElem?_getD, List.getElem?_eq_getElem h]
  rfl
theorem take_get (q : List (List UInt8)) {k : Nat} (h : k < q.length) : q.take (k + 1) = q.take k ++ [q.getD k []] := by
  rw [List.take_succ_eq_append_getElem h, List.getD_eq_getElem?_getD, List.getElem?_eq_getElem h]
  rfl
theorem getB_mem {q : List (List UInt8)} {k : Nat} (h : k < q.length) : q.getD k [] ∈ q := by
  rw [List.getD_eq_getElem?_getD, List.getElem?_eq_getElem h]
  exact List.getElem_mem h
/-- Rows of one width. -/
def EvR (W : Nat) (pre : List (List UInt8)) : Prop := ∀ p ∈ pre, (piB 44 p).length = W
theorem EvR.nil : EvR 0 [] := fun p h => by cases h
theorem EvR.snoc {W : Nat} {pre : List (List UInt8)} (h : EvR W pre) (x : List UInt8) (hx : W = 0 ∨ (piB 44 x).length = W) (h0 : W = 0 → pre = []) : EvR (piB 44 x).length (pre ++ [x]) := by
  intro p hp
  rcases List.mem_append.1 hp with hp | hp
  · rcases hx with e | e
    · rw [h0 e] at hp
      cases hp
    · rw [h p hp, e]
  · rw [List.mem_singleton.1 hp]
theorem piB_pos (c : UInt8) (l : List UInt8) : 0 < (piB c l).length := List.length_pos_iff.2 (piB_ne c l)
theorem even_yes {l : List UInt8} {W : Nat} (h : EvR W (piB 47 l)) : W = wdB l ∧ evenB l = true := by
  have e : W = wdB l := by
    obtain ⟨q, x, hq⟩ : ∃ q x, piB 47 l = q ++ [x] := ⟨_, _, (List.dropLast_concat_getLast (piB_ne 47 l)).symm⟩
    rw [← wdR_b, hq, wdR_snoc, h x (by rw [hq]; simp)]
  refine ⟨e, ?_⟩
  unfold evenB
  refine List.all_eq_true.2 fun r hr => ?_
  unfold rowsP2 at hr
  obtain ⟨p, hp, rfl⟩ := List.mem_map.1 hr
  rw [beq_iff_eq, h p hp, e]
theorem even_no {l p q : List UInt8} (hp : p ∈ piB 47 l) (hq : q ∈ piB 47 l) (h : (piB 44 p).length ≠ (piB 44 q).length) : pbM l = none := by
  unfold pbM
  rw [if_neg]
  intro hc
  rw [Bool.and_eq_true, Bool.and_eq_true] at hc
  have he := hc.1.2
  unfold evenB rowsP2 at he
  have h1 := List.all_eq_true.1 he _ (List.mem_map.2 ⟨p, hp, rfl⟩)
  have h2 := List.all_eq_true.1 he _ (List.mem_map.2 ⟨q, hq, rfl⟩)
  rw [beq_iff_eq] at h1 h2
  exact h (h1.trans h2.symm)
/-! how many numbers there are -/
theorem piB_sum (c : UInt8) : ∀ l : List UInt8, ((piB c l).map fun p => p.length + 1).sum = l.length + 1
  | [] => rfl
  | x :: l => by
    have ih := piB_sum c l
    unfold piB
    split
    · rw [List.map_cons, List.sum_cons, ih, List.length_cons, List.length_nil]
      omega
    · cases h : piB c l with
      | nil => exact absurd h (piB_ne c l)
      | cons y r =>
        rw [h] at ih
        simp only [List.map_cons, List.sum_cons, List.headD_cons, List.tail_cons, List.length_cons] at ih ⊢
        omega
theorem piB_le (c : UInt8) (l : List UInt8) : (piB c l).length ≤ l.length + 1 := by
  have h := piB_sum c l
  have : ∀ q : List (List UInt8), q.length ≤ (q.map fun p => p.length + 1).sum := by
    intro q
    induction q with
    | nil => exact Nat.zero_le _
    | cons y r ih => rw [List.length_cons, List.map_cons, List.sum_cons]; omega
  have := this (piB c l)
  omega
theorem clR_len (f : List UInt8 → Int) : ∀ pre : List (List UInt8), (clR f pre).length ≤ (pre.map fun p => p.length + 1).sum
  | [] => Nat.le_refl _
  | x :: r => by
    have ih := clR_len f r
    have h := piB_le 44 x
    unfold clR at ih ⊢
    rw [List.length_map] at ih ⊢
    rw [List.map_cons, List.flatten_cons, List.length_append, List.map_cons, List.sum_cons]
    omega
theorem clR_pre (f : List UInt8 → Int) {l : List UInt8} {pre r : List (List UInt8)} (h : pre ++ r = piB 47 l) : (clR f pre).length ≤ l.length + 1 := by
  have h1 := clR_len f pre
  have h2 := piB_sum 47 l
  rw [← h, List.map_append, List.sum_append] at h2
  omega
end Go.Proofs.YtpdmfbhjneodeaaDoor
namespace Go.Proofs.YtpdmfbhjneodeaaDoor
open Go.RowKit
theorem ret_bp {a a' : Int} {v : Value} {b b' : Bool} (h : a = a') (h2 : b = b') : Ending.returned (.tuple #[.agg (bv a v), .bool b]) = .returned (.tuple #[.agg (bv a' v), .bool b']) := by rw [h, h2]
theorem own_neP {w : World} {b1 b2 : Nat} {e1 e2 : TypeId} {s1 s2 : Nat} {v1 v2 : Value} {n1 n2 : Nat} {x1 x2 : List Value} (h1 : w.ownsRow b1 e1 s1 v1 n1 x1) (h2 : w.ownsRow b2 e2 s2 v2 n2 x2) (he : e1 ≠ e2) : v1.ownBlock = none ∨ v1.ownBlock ≠ v2.ownBlock := by
  obtain ⟨-, ⟨rfl, -⟩ | ⟨g1, c1, cur1, rfl, -, hg1, -⟩⟩ := h1
  · exact .inl rfl
  · refine .inr fun e => ?_
    obtain ⟨-, ⟨rfl, -⟩ | ⟨g2, c2, cur2, rfl, -, hg2, -⟩⟩ := h2
    · cases e
    · obtain rfl : g1 = g2 := by simpa [Value.ownBlock] using e
      rw [hg1] at hg2
      injection hg2 with hg2
      injection hg2 with _ hg2
      exact he hg2
/-- A row of texts, each read by its place. -/
theorem own_strs {w : World} {base : Nat} {e : TypeId} {v : Value} {q : List (List UInt8)} (h : w.ownsRow base e 1 v q.length (strV q)) (h0 : 0 < q.length) : ∃ G cap, v = .slice (some ⟨G, 0, none⟩) q.length cap := by
  obtain ⟨G, cap, rfl, -⟩ := own_shape h h0
  exact ⟨G, cap, rfl⟩
theorem own_strAt {w : World} {base : Nat} {e : TypeId} {G n cap : Nat} {q : List (List UInt8)} (h : w.ownsRow base e 1 (.slice (some ⟨G, 0, none⟩) n cap) n (strV q)) (hn : n = q.length) {j : Nat} (hj : j < n) : w.cell? ⟨G, j, none⟩ = some (.string ⟨(q.getD j []).toArray⟩) := by
  refine own_val h j _ hj ?_
  unfold strV
  rw [List.getElem?_map, List.getElem?_eq_getElem (by omega), List.getD_eq_getElem?_getD, List.getElem?_eq_getElem (by omega)]
  rfl
theorem e_neqP {P : Program} {w : World} {a : Act} {dst : Option Tmp} {ty T yt : TypeId} {pos : String} {aft : Array Edge} {gd : Option (Nat × Bool)} {k : IntKind} (x y : Operand) (m n : Int) (v : Bool) (hx : a.eval x = .int k m) (hy : a.eval y = .int k n) (hv : (!decide (m = n)) = v) :
    (execOp a.eval ⟨dst, .binOp .neq T x y yt, ty, pos, aft, gd⟩).run P w = .ok (.value (.bool v)) w := by
  subst hv
  unfold execOp
  have e : (m == n) = decide (m = n) := by rw [Bool.eq_iff_iff, beq_iff_eq, decide_eq_true_eq]
  simp [hx, hy, eqGuard, binOp, Op.intCmp, bne, e]
theorem pbM_yes {l : List UInt8} {W : Nat} (h40 : l.length ≤ 40) (h : EvR W (piB 47 l)) : pbM l = if bdOk W (clR rdZ (piB 47 l)) = true then some (W, clR rdZ (piB 47 l)) else none := by
  obtain ⟨rfl, he⟩ := even_yes h
  unfold pbM
  rw [he, decide_eq_true h40, clR_m, Bool.and_self, Bool.true_and]
theorem pbM_long {l : List UInt8} (h40 : 40 < l.length) : pbM l = none := by
  unfold pbM
  rw [decide_eq_false (by omega)]
  rfl
theorem Tryd.ibf0P (B : Nat) (w : World) : (Instr.fieldAt 30 (.pointer (some ⟨B, 0, none⟩)) 0).run Tryd.prog w = .ok (.pointer (some ⟨B, 0, none⟩)) w := by kernel_rfl
theorem Tryd.ibf1P (B : Nat) (w : World) : (Instr.fieldAt 30 (.pointer (some ⟨B, 0, none⟩)) 1).run Tryd.prog w = .ok (.pointer (some ⟨B, 1, none⟩)) w := by kernel_rfl
theorem Tryd.bsiP (u : Int) (w : World) : (Instr.buildSlice 28 1 #[(0, .int .i64 u)]).run Tryd.prog w = .ok (.slice (some ⟨w.heap.size, 0, none⟩) 1 1) (w.alloc (.cells #[.int .i64 u] 3)) := by kernel_rfl
theorem Tryd.intsP : ElemInfo Tryd.prog 28 3 (.int .i64 0) 1 8 := ⟨Tryd.underlying28, by kernel_rfl, rfl, by decide⟩
set_option maxHeartbeats 1000000 in
set_option maxRecDepth 100000 in
theorem sParseBoard_long (s : ByteArray) (w : World) (h : 40 < s.size) : Calls Tryd.prog 8 #[.string s] w (RetBb 3 0 [] false w) := by
  have gg := Gr.refl w
  go_enter Tryd.func8, Tryd.ntmps8
  go_wp2_with (first | (refine r_alloc (dst := some 2) 30 _ Tryd.ibzero rfl ?_; intro w1 B1 N1; have g1 := N1.gr; have b1 : Blk w1 B1 (bv 0 (.slice none 0 0)) 30 := N1.blk; have l1 := N1.lo; have t1 := N1.hi; have z1 := g1.size; have gg := gg.trans g1; clear N1; obtain ⟨b1_0, b1_1⟩ := bcells b1) | (refine r_build 30 [] [] _ (Tryd.ibbuild0 _) rfl rfl ?_) | (refine r_store_row 30 30 _ _ _ rfl (bv (0) (.slice none 0 0)) _ rfl b1 Tryd.ibsize rfl (bv_one (rfl)) rfl ?_; intro w2 u2 b1'; have z2 := u2.size; have gg := u2.gr gg (by omega); clear b1; have b1 := b1'; clear b1'; obtain ⟨b1_0, b1_1⟩ := bcells b1))
  refine bodyPost_ret (results_row_bool rfl _ _ _ _ _ _ rfl b1 Tryd.underlying30 rfl Tryd.ibinfo) rfl ?_
  exact ⟨gg, _, rfl, World.ownsRow_nil _ _ _ _⟩
set_option maxHeartbeats 2000000 in
set_option maxRecDepth 100000 in
theorem sParseBoard_short (l : List UInt8) (w : World) (h : l.length ≤ 40) : Calls Tryd.prog 8 #[.string ⟨l.toArray⟩] w (RetBb 3 (pbW l) (pbL l) (pbOk l) w) := by
  have gg := Gr.refl w
  obtain ⟨q, hq⟩ : ∃ q, q = piB 47 l := ⟨_, rfl⟩
  obtain ⟨n, hn⟩ : ∃ n, n = q.length := ⟨_, rfl⟩
  have HS := hidI (fun w' => show Calls Tryd.prog 19 #[.string ⟨l.toArray⟩, .int .u8 47] w' (fun e w'' => Gr w' w'' ∧ ∃ G cap, e = .returned (.slice (some ⟨G, 0, none⟩) n cap) ∧ w''.ownsRow w'.heap.size 9 1 (.slice (some ⟨G, 0, none⟩) n cap) n (strV q)) from
    (l1Split_any l 47 w' (by omega)).mono (by
      rintro e w'' ⟨g, v, rfl, ho⟩
      rw [← hq] at ho
      obtain ⟨G, cap, rfl⟩ := own_strs ho (by rw [hq]; exact piB_pos _ _)
      rw [← hn] at ho
      exact ⟨g, G, cap, by rw [hn], ho⟩))
  have HR := hidI (fun (p : List UInt8) (hp : p.length ≤ 40) w' => show Calls Tryd.prog 19 #[.string ⟨p.toArray⟩, .int .u8 44] w' (fun e w'' => Gr w' w'' ∧ ∃ G cap, e = .returned (.slice (some ⟨G, 0, none⟩) (piB 44 p).length cap) ∧ w''.ownsRow w'.heap.size 9 1 (.slice (some ⟨G, 0, none⟩) (piB 44 p).length cap) (piB 44 p).length (strV (piB 44 p))) from
    (l1Split_any p 44 w' (by omega)).mono (by
      rintro e w'' ⟨g, v, rfl, ho⟩
      obtain ⟨G, cap, rfl⟩ := own_strs ho (piB_pos _ _)
      exact ⟨g, G, cap, rfl, ho⟩))
  have HQL := hidI (fun k (hk : k < n) => show (q.getD k []).length ≤ 40 from by
    have := piB_len 47 l (q.getD k []) (hq ▸ getB_mem (by omega))
    omega)
  have HNO := hidI (fun k (hk : k < n) j (hj : j < n) (hne : (piB 44 (q.getD k [])).length ≠ (piB 44 (q.getD j [])).length) => show 0 = pbW l ∧ [] = pbL l ∧ false = pbOk l from
    pb_no (even_no (hq ▸ getB_mem (q := q) (k := k) (by omega)) (hq ▸ getB_mem (q := q) (k := j) (by omega)) hne))
  have HYES := hidI (fun W (he : EvR W (q.take n)) => show pbM l = if bdOk W (clR rdZ (q.take n)) = true then some (W, clR rdZ (q.take n)) else none from by
    rw [hn, List.take_length] at he ⊢
    rw [hq] at he ⊢
    exact pbM_yes h he)
  have HTK := hidI (fun k (hk : k < n) => take_get q (k := k) (by omega))
  have HCL := hidI (fun k => show (clR rdZ (q.take k)).length ≤ 41 from by
    have := clR_pre rdZ (l := l) (pre := q.take k) (r := q.drop k) (by rw [List.take_append_drop, hq])
    omega)
  have HN := hidI hn
  have hn41 : n ≤ 41 := by
    have := piB_le 47 l
    rw [hn, hq]
    omega
  have hsz : (⟨l.toArray⟩ : ByteArray).size ≤ 40 := by show l.toArray.size ≤ _; rw [List.size_toArray]; exact h
  obtain ⟨s, hs⟩ : ∃ s : ByteArray, s = ⟨l.toArray⟩ := ⟨_, rfl⟩
  rw [← hs] at HS hsz ⊢
  clear hq hn h hs
  go_enter Tryd.func8, Tryd.ntmps8
  go_wp2_with (first | (refine r_alloc (dst := some 2) 30 _ Tryd.ibzero rfl ?_; intro w1 B1 N1; have g1 := N1.gr; have b1 : Blk w1 B1 (bv 0 (.slice none 0 0)) 30 := N1.blk; have l1 := N1.lo; have t1 := N1.hi; have z1 := g1.size; have gg := gg.trans g1; clear N1; obtain ⟨b1_0, b1_1⟩ := bcells b1) | (refine r_build 30 [] [] _ (Tryd.ibbuild0 _) rfl rfl ?_) | (refine r_alloc (dst := some 4) 30 _ Tryd.ibzero rfl ?_; intro w2 B2 N2; have g2 := N2.gr; have b2 : Blk w2 B2 (bv 0 (.slice none 0 0)) 30 := N2.blk; have l2 := N2.lo; have t2 := N2.hi; have z2 := g2.size; have b1 := g2.blk b1; have gg := gg.trans g2; clear N2; obtain ⟨b2_0, b2_1⟩ := bcells b2) | (refine r_store_row 30 30 _ _ _ rfl (bv (0) (.slice none 0 0)) _ rfl b2 Tryd.ibsize rfl (bv_one (rfl)) rfl ?_; intro w3 u3 b2'; have z3 := u3.size; have gg := u3.gr gg (by omega); have b1 := u3.blk b1 (by omega); clear b2; have b2 := b2'; clear b2'; obtain ⟨b2_0, b2_1⟩ := bcells b2) | (go_at_call 19; refine (HS.out _).mono ?_; rintro e w4 ⟨g4, G, cap, rfl, ho⟩; have b1 := g4.blk b1; have b2 := g4.blk b2; have z4 := g4.size; have ho := own_up ho (show w.heap.size ≤ w3.heap.size by omega); have gg := gg.trans g4))
  go_loopw [18] (fun iv wr => ∃ (k W : Nat) (S : Value), iv = .int .i64 k ∧ k ≤ n ∧ Blk wr B1 (bv 0 (.slice none 0 0)) 30 ∧ Blk wr B2 (bv W S) 30 ∧ wr.ownsRow w.heap.size 3 1 S (clR rdZ (q.take k)).length (intsV (clR rdZ (q.take k))) ∧
    wr.ownsRow w.heap.size 9 1 (.slice (some ⟨G, 0, none⟩) n cap) n (strV q) ∧ Gr w wr ∧ EvR W (q.take k) ∧ (W = 0 ↔ k = 0)) (fun iv _ => n - (intOf iv).toNat)
  case atStart => exact ⟨0, 0, .slice none 0 0, rfl, Nat.zero_le _, b1, b2, World.ownsRow_nil _ _ _ _, ho, gg, EvR.nil, Iff.rfl⟩
  case round =>
    clear b1 b2 b1_0 b1_1 b2_0 b2_1 ho gg
    obtain ⟨k, W, S, rfl, hk, b1, b2, own, ho, gg, he, hw0⟩ := hrel
    have hB12 : B1 < B2 := by omega
    have lo2 : w.heap.size ≤ B2 := by omega
    have zr := gg.size
    have hne := own_ne own b2 (by decide)
    have hneo := own_ne ho b2 (by decide)
    have HCK := hidI (HCL.out k)
    by_cases hlt : k < n
    · have c20 := own_strAt ho HN.out hlt
      have hix := Tryd.stxS G n cap k hlt
      have hpl := HQL.out k hlt
      have HTKK := hidI (HTK.out k hlt)
      have HNK := hidI (fun j (hj : j < n) => HNO.out k hlt j hj)
      obtain ⟨p, hp⟩ : ∃ p, p = q.getD k [] := ⟨_, rfl⟩
      rw [← hp] at c20 hpl HTKK HNK
      clear hp
      have HRP := hidI (HR.out p hpl)
      obtain ⟨m, hm⟩ : ∃ m, m = (piB 44 p).length := ⟨_, rfl⟩
      have hm41 : m ≤ 41 := by
        have := piB_le 44 p
        omega
      rw [← hm] at HRP HNK
      have HM := hidI hm
      have HPD := hidI (fun j (hj : j < m) => show ((piB 44 p).getD j []).length ≤ 60 from by
        have := piB_len 44 p _ (getB_mem (q := piB 44 p) (k := j) (by omega))
        omega)
      obtain ⟨X, hX⟩ : ∃ X : Nat → List Int, X = fun j => clR rdZ (q.take k) ++ ((piB 44 p).take j).map rdZ := ⟨_, rfl⟩
      have HX0 := hidI (show clR rdZ (q.take k) = X 0 from by rw [hX]; simp)
      have HXS := hidI (fun j (hj : j < m) => show X j ++ [rdZ ((piB 44 p).getD j [])] = X (j + 1) from by rw [hX]; simp only; rw [map_take _ _ (by omega), List.append_assoc])
      have HXM := hidI (show X m = clR rdZ (q.take (k + 1)) from by rw [hX, HTKK.out, clR_snoc]; simp only; rw [hm, List.take_length])
      have HXL := hidI (fun j => show (X j).length ≤ 82 from by
        have h1 := HCK.out
        rw [hX]
        simp only [List.length_append, List.length_map, List.length_take]
        omega)
      have HEV := hidI (fun (hx : W = 0 ∨ m = W) => show EvR m (q.take (k + 1)) from by
        rw [HTKK.out, hm]
        rw [hm] at hx
        exact he.snoc p hx (fun e => by rw [hw0.1 e]; rfl))
      have HOLD := hidI (fun (h0 : 0 < W) (hx : m ≠ W) => show 0 = pbW l ∧ [] = pbL l ∧ false = pbOk l from by
        have hk0 : 0 < k := by
          omega
        refine HNK.out 0 (by omega) ?_
        have h3 : (piB 44 (q.getD 0 [])).length = W := he _ (by
          have e1 : (q.take k).getD 0 [] = q.getD 0 [] := by
            rw [List.getD_eq_getElem?_getD, List.getD_eq_getElem?_getD, List.getElem?_take_of_lt hk0]
          rw [← e1]
          refine getB_mem ?_
          have := HN.out
          rw [List.length_take]
          omega)
        omega)
      obtain ⟨P, hP⟩ : ∃ P : ByteArray, P = ⟨p.toArray⟩ := ⟨_, rfl⟩
      rw [← hP] at c20 HRP
      clear hP hX hm hpl
      go_upto_region 8 with (first | (refine r_idx 35 _ _ (.slice (some ⟨G, 0, none⟩) n cap) (.int .i64 k) _ rfl rfl (hix _) rfl ?_) | (refine r_ldc 9 _ ⟨G, k, none⟩ (.string P) rfl (Tryd.isAgg9 _) c20 rfl ?_) | (go_at_call 19; refine (HRP.out _).mono ?_; rintro e w5 ⟨g5, G2, cap2, rfl, ho2⟩; have b1 := g5.blk b1; have b2 := g5.blk b2; have own := g5.row own; have ho := g5.row ho; have z5 := g5.size; have gg := gg.trans g5; have ho2 := own_up ho2 zr))
      have hne2 := own_ne ho2 b2 (by decide)
      by_cases hW : W = 0
      · have hg0 : decide ((0 : Int) < (W : Int)) = false := decide_eq_false (by omega)
        have HEVM := hidI (HEV.out (.inl hW))
        clear hW
        go_step
        refine r_fld 30 _ 0 (.pointer (some ⟨B2, 0, none⟩)) (.pointer (some ⟨B2, 0, none⟩)) rfl (Tryd.ibf0P _ _) rfl ?_
        simp only [Act.put, List.setIfInBounds_toArray, List.set_cons_succ, List.set_cons_zero]
        refine r_ldc 3 _ ⟨B2, 0, none⟩ (.int .i64 W) rfl (Tryd.isAgg3 _) (b2.cell 0) rfl ?_
        simp only [Act.put, List.setIfInBounds_toArray, List.set_cons_succ, List.set_cons_zero]
        refine r_val (.bool false) (e_gtrR _ _ (W : Int) 0 false rfl rfl hg0) rfl ?_
        simp only [Act.put, List.setIfInBounds_toArray, List.set_cons_succ, List.set_cons_zero]
        refine r_val (.bool false) rfl rfl ?_
        simp only [Act.put, List.setIfInBounds_toArray, List.set_cons_succ, List.set_cons_zero]
        go_wp2_with (first | (refine r_fld 30 _ 0 (.pointer (some ⟨B2, 0, none⟩)) (.pointer (some ⟨B2, 0, none⟩)) rfl (Tryd.ibf0P _ _) rfl ?_) | ((refine r_store_cell 3 30 _ _ B2 0 rfl (.int .i64 m) rfl _ b2 (by show 0 < 2; decide) Tryd.sizeOf3 (rfl) rfl ?_; intro w6 u6 b2'; have z6 := u6.size; have gg := u6.gr gg (by omega); have b1 := u6.blk b1 (by omega); clear b2; have b2 : Blk w6 B2 (bv (m) (S)) 30 := b2'; clear b2'; obtain ⟨b2_0, b2_1⟩ := bcells b2); have own := u6.row own hne; have ho := u6.row ho hneo; have ho2 := u6.row ho2 hne2))
        rw [HX0.out] at own
        go_loopw [40] (fun jv wq => ∃ (j : Nat) (S2 : Value), jv = .int .i64 j ∧ j ≤ m ∧ Blk wq B1 (bv 0 (.slice none 0 0)) 30 ∧ Blk wq B2 (bv m S2) 30 ∧ wq.ownsRow w.heap.size 3 1 S2 (X j).length (intsV (X j)) ∧
          wq.ownsRow w.heap.size 9 1 (.slice (some ⟨G, 0, none⟩) n cap) n (strV q) ∧ wq.ownsRow w.heap.size 9 1 (.slice (some ⟨G2, 0, none⟩) m cap2) m (strV (piB 44 p)) ∧ Gr w wq) (fun jv _ => m - (intOf jv).toNat)
        case atStart => exact ⟨0, S, rfl, Nat.zero_le _, b1, b2, own, ho, ho2, gg⟩
        case round =>
          clear b1 b2 b2_0 b2_1 own ho ho2 gg zr
          obtain ⟨j, S2, rfl, hj, b1, b2, own, ho, ho2, gg⟩ := hrel
          have zr := gg.size
          have hXj := HXL.out j
          by_cases hjm : j < m
          · have c40 := own_strAt ho2 HM.out hjm
            have hix2 := Tryd.stxS G2 m cap2 j hjm
            have HRD := hidI (fun w' => l1Read_any ((piB 44 p).getD j []) w' (HPD.out j hjm))
            have HXSJ := hidI (HXS.out j hjm)
            obtain ⟨z, hz⟩ : ∃ z, z = rdZ ((piB 44 p).getD j []) := ⟨_, rfl⟩
            obtain ⟨D, hD⟩ : ∃ D : ByteArray, D = ⟨((piB 44 p).getD j []).toArray⟩ := ⟨_, rfl⟩
            rw [← hz] at HRD HXSJ
            rw [← hD] at HRD c40
            clear hz hD
            go_upto_region 14 with (first | (refine r_idx 35 _ _ (.slice (some ⟨G2, 0, none⟩) m cap2) (.int .i64 j) _ rfl rfl (hix2 _) rfl ?_) | (refine r_ldc 9 _ ⟨G2, j, none⟩ (.string D) rfl (Tryd.isAgg9 _) c40 rfl ?_))
            refine F_begin (fun w => Blk w B2 (bv m S2) 30) 7 8 #[false, false, false, false, false, false, false, false] rfl (by kernel_rfl) (by kernel_rfl) ?_
            have gd := (Gr.refl wr).drew
            have b1 := gd.blk b1
            have b2 := gd.blk b2
            have own := gd.row own
            have ho := gd.row ho
            have ho2 := gd.row ho2
            have gg := gg.trans gd
            have zd := gd.size
            generalize wr.drew = wd at *
            refine F_free (v := .pointer (some ⟨B2, 1, Option.none⟩)) 0 #[true, false, false, false, false, false, false, false] rfl (by kernel_rfl) (fun _ _ _ h => h) rfl (fun _ => e_val _ _ (Tryd.ibf1P _ _)) (b2) ?_; simp only [Act.put, List.setIfInBounds_toArray, List.set_cons_succ, List.set_cons_zero]
            refine F_take (v := S2) 1 #[true, true, false, false, false, false, false, false] rfl (by kernel_rfl) (fun _ _ _ h => h) rfl (fun w hF => e_load 28 (.tmp 44) _ _ rfl (Tryd.isAgg28 _) (bcells hF).2) (b2) ?_; simp only [Act.put, List.setIfInBounds_toArray, List.set_cons_succ, List.set_cons_zero]
            refine F_free (v := .string D) 2 #[true, true, true, false, false, false, false, false] rfl (by kernel_rfl) (fun _ _ _ h => h) rfl (fun _ => rfl) (b2) ?_; simp only [Act.put, List.setIfInBounds_toArray, List.set_cons_succ, List.set_cons_zero]
            refine F_one 3 #[true, true, true, true, false, false, false, false] rfl (by kernel_rfl) ?_
            refine r_call 20 [.tmp 46] _ [.string D] (.int .i64 z) (fun w' => Gr wd w') Tryd.call20 rfl rfl (HRD.out wd) ?_
            intro wc gc
            have b1 := gc.blk b1
            have b2 := gc.blk b2
            have own := gc.row own
            have ho := gc.row ho
            have ho2 := gc.row ho2
            have gg := gg.trans gc
            have zc := gc.size
            refine ⟨fun _ => b2, ?_⟩
            simp only [Act.put, List.setIfInBounds_toArray, List.set_cons_succ, List.set_cons_zero]
            refine F_one 4 #[true, true, true, true, true, false, false, false] rfl (by kernel_rfl) ?_
            refine r_slice1 28 3 (.tmp 47) (.int .i64 z) rfl (Tryd.bsiP _ _) rfl ?_
            intro wn Bn Nn
            have gn := Nn.gr
            have b1 := gn.blk b1
            have b2 := gn.blk b2
            have own := gn.row own
            have ho := gn.row ho
            have ho2 := gn.row ho2
            have gg := gg.trans gn
            have zn := gn.size
            have n1 := own_ne own b1 (by decide)
            have n2 := own_ne own b2 (by decide)
            have no := own_neP ho own (by decide)
            have no2 := own_neP ho2 own (by decide)
            refine ⟨fun _ => b2, ?_⟩
            simp only [Act.put, List.setIfInBounds_toArray, List.set_cons_succ, List.set_cons_zero]
            refine F_one 5 #[true, true, true, true, true, true, false, false] rfl (by kernel_rfl) ?_
            refine r_append (.tmp 45) (.tmp 48) 28 3 _ 1 8 w.heap.size Tryd.intsP S2 (X j).length (intsV (X j)) rfl own ⟨Bn, 0, none⟩ 1 1 [.int .i64 z] rfl rfl Nn.cell1 (intsV_one [z]) (by omega) (by decide) (by omega) rfl ?_
            intro va wa owna ga
            have b1 := ga.blk b1 n1
            have b2 := ga.blk b2 n2
            have ho := ga.row ho no
            have ho2 := ga.row ho2 no2
            have gg := ga.gr gg (own_gr own (Nat.le_refl _))
            have za := ga.size
            rw [show intsV (X j) ++ [Value.int .i64 z] = intsV (X (j + 1)) from by rw [← HXSJ.out, ← intsV_append]; rfl, show (X j).length + 1 = (X (j + 1)).length from by rw [← HXSJ.out]; simp] at owna
            have hona := own_one owna
            have hna2 := own_ne owna b2 (by decide)
            have hno2 := own_ne ho b2 (by decide)
            have hno3 := own_ne ho2 b2 (by decide)
            refine ⟨fun _ => b2, ?_⟩
            simp only [Act.put, List.setIfInBounds_toArray, List.set_cons_succ, List.set_cons_zero]
            refine F_free (v := .pointer (some ⟨B2, 1, Option.none⟩)) 6 #[true, true, true, true, true, true, true, false] rfl (by kernel_rfl) (fun _ _ _ h => h) rfl (fun _ => e_val _ _ (Tryd.ibf1P _ _)) (b2) ?_; simp only [Act.put, List.setIfInBounds_toArray, List.set_cons_succ, List.set_cons_zero]
            refine F_one 7 #[true, true, true, true, true, true, true, true] rfl (by kernel_rfl) ?_
            (refine r_store_cell 28 30 _ _ B2 1 rfl (va) rfl _ b2 (by show 1 < 2; decide) Tryd.sizeOf28 (hona) rfl ?_; intro w8 u8 b2'; have z8 := u8.size; have gg := u8.gr gg (by omega); have b1 := u8.blk b1 (by omega); clear b2; have b2 : Blk w8 B2 (bv (m) (va)) 30 := b2'; clear b2'; obtain ⟨b2_0, b2_1⟩ := bcells b2)
            have own := u8.row owna hna2
            have ho := u8.row ho hno2
            have ho2 := u8.row ho2 hno3
            refine ⟨fun h => (by cases h), ?_⟩
            simp only [Act.put]
            refine F_done (by kernel_rfl) ?_
            go_wp2
            go_roundw
            case rel => exact ⟨j + 1, va, by go_num, by omega, b1, b2, own, ho, ho2, gg⟩
            case measure => simp [intOf]; omega
          · have hjm2 : j = m := by omega
            rw [hjm2, HXM.out] at own
            go_wp2
            go_roundw
            case rel => exact ⟨k + 1, m, S2, by go_num, by omega, b1, b2, own, ho, gg, HEVM.out, (by have := HM.out; have := piB_pos 44 p; omega)⟩
            case measure => simp [intOf]; omega
      · have hg0 : decide ((0 : Int) < (W : Int)) = true := decide_eq_true (by omega)
        by_cases hWm : m = W
        · have hv : (!decide ((m : Int) = (W : Int))) = false := by rw [decide_eq_true (by omega)]; rfl
          have HEVM := hidI (HEV.out (.inr hWm))
          clear hWm
          go_step
          refine r_fld 30 _ 0 (.pointer (some ⟨B2, 0, none⟩)) (.pointer (some ⟨B2, 0, none⟩)) rfl (Tryd.ibf0P _ _) rfl ?_
          simp only [Act.put, List.setIfInBounds_toArray, List.set_cons_succ, List.set_cons_zero]
          refine r_ldc 3 _ ⟨B2, 0, none⟩ (.int .i64 W) rfl (Tryd.isAgg3 _) (b2.cell 0) rfl ?_
          simp only [Act.put, List.setIfInBounds_toArray, List.set_cons_succ, List.set_cons_zero]
          refine r_val (.bool true) (e_gtrR _ _ (W : Int) 0 true rfl rfl hg0) rfl ?_
          simp only [Act.put, List.setIfInBounds_toArray, List.set_cons_succ, List.set_cons_zero]
          refine r_val (.bool true) rfl rfl ?_
          simp only [Act.put, List.setIfInBounds_toArray, List.set_cons_succ, List.set_cons_zero]
          refine r_val (.slice (some ⟨G2, 0, none⟩) m cap2) rfl rfl ?_
          simp only [Act.put, List.setIfInBounds_toArray, List.set_cons_succ, List.set_cons_zero]
          refine r_val (.int .i64 m) (e_len 35 9 _ (some ⟨G2, 0, none⟩) m cap2 rfl Tryd.underlying35) rfl ?_
          simp only [Act.put, List.setIfInBounds_toArray, List.set_cons_succ, List.set_cons_zero]
          refine r_fld 30 _ 0 (.pointer (some ⟨B2, 0, none⟩)) (.pointer (some ⟨B2, 0, none⟩)) rfl (Tryd.ibf0P _ _) rfl ?_
          simp only [Act.put, List.setIfInBounds_toArray, List.set_cons_succ, List.set_cons_zero]
          refine r_ldc 3 _ ⟨B2, 0, none⟩ (.int .i64 W) rfl (Tryd.isAgg3 _) (b2.cell 0) rfl ?_
          simp only [Act.put, List.setIfInBounds_toArray, List.set_cons_succ, List.set_cons_zero]
          refine r_val (.bool false) (e_neqP _ _ (m : Int) (W : Int) false rfl rfl hv) rfl ?_
          simp only [Act.put, List.setIfInBounds_toArray, List.set_cons_succ, List.set_cons_zero]
          refine r_val (.bool false) rfl rfl ?_
          simp only [Act.put, List.setIfInBounds_toArray, List.set_cons_succ, List.set_cons_zero]
          go_wp2_with (first | (refine r_fld 30 _ 0 (.pointer (some ⟨B2, 0, none⟩)) (.pointer (some ⟨B2, 0, none⟩)) rfl (Tryd.ibf0P _ _) rfl ?_) | ((refine r_store_cell 3 30 _ _ B2 0 rfl (.int .i64 m) rfl _ b2 (by show 0 < 2; decide) Tryd.sizeOf3 (rfl) rfl ?_; intro w6 u6 b2'; have z6 := u6.size; have gg := u6.gr gg (by omega); have b1 := u6.blk b1 (by omega); clear b2; have b2 : Blk w6 B2 (bv (m) (S)) 30 := b2'; clear b2'; obtain ⟨b2_0, b2_1⟩ := bcells b2); have own := u6.row own hne; have ho := u6.row ho hneo; have ho2 := u6.row ho2 hne2))
          rw [HX0.out] at own
          go_loopw [40] (fun jv wq => ∃ (j : Nat) (S2 : Value), jv = .int .i64 j ∧ j ≤ m ∧ Blk wq B1 (bv 0 (.slice none 0 0)) 30 ∧ Blk wq B2 (bv m S2) 30 ∧ wq.ownsRow w.heap.size 3 1 S2 (X j).length (intsV (X j)) ∧
            wq.ownsRow w.heap.size 9 1 (.slice (some ⟨G, 0, none⟩) n cap) n (strV q) ∧ wq.ownsRow w.heap.size 9 1 (.slice (some ⟨G2, 0, none⟩) m cap2) m (strV (piB 44 p)) ∧ Gr w wq) (fun jv _ => m - (intOf jv).toNat)
          case atStart => exact ⟨0, S, rfl, Nat.zero_le _, b1, b2, own, ho, ho2, gg⟩
          case round =>
            clear b1 b2 b2_0 b2_1 own ho ho2 gg zr
            obtain ⟨j, S2, rfl, hj, b1, b2, own, ho, ho2, gg⟩ := hrel
            have zr := gg.size
            have hXj := HXL.out j
            by_cases hjm : j < m
            · have c40 := own_strAt ho2 HM.out hjm
              have hix2 := Tryd.stxS G2 m cap2 j hjm
              have HRD := hidI (fun w' => l1Read_any ((piB 44 p).getD j []) w' (HPD.out j hjm))
              have HXSJ := hidI (HXS.out j hjm)
              obtain ⟨z, hz⟩ : ∃ z, z = rdZ ((piB 44 p).getD j []) := ⟨_, rfl⟩
              obtain ⟨D, hD⟩ : ∃ D : ByteArray, D = ⟨((piB 44 p).getD j []).toArray⟩ := ⟨_, rfl⟩
              rw [← hz] at HRD HXSJ
              rw [← hD] at HRD c40
              clear hz hD
              go_upto_region 14 with (first | (refine r_idx 35 _ _ (.slice (some ⟨G2, 0, none⟩) m cap2) (.int .i64 j) _ rfl rfl (hix2 _) rfl ?_) | (refine r_ldc 9 _ ⟨G2, j, none⟩ (.string D) rfl (Tryd.isAgg9 _) c40 rfl ?_))
              refine F_begin (fun w => Blk w B2 (bv m S2) 30) 7 8 #[false, false, false, false, false, false, false, false] rfl (by kernel_rfl) (by kernel_rfl) ?_
              have gd := (Gr.refl wr).drew
              have b1 := gd.blk b1
              have b2 := gd.blk b2
              have own := gd.row own
              have ho := gd.row ho
              have ho2 := gd.row ho2
              have gg := gg.trans gd
              have zd := gd.size
              generalize wr.drew = wd at *
              refine F_free (v := .pointer (some ⟨B2, 1, Option.none⟩)) 0 #[true, false, false, false, false, false, false, false] rfl (by kernel_rfl) (fun _ _ _ h => h) rfl (fun _ => e_val _ _ (Tryd.ibf1P _ _)) (b2) ?_; simp only [Act.put, List.setIfInBounds_toArray, List.set_cons_succ, List.set_cons_zero]
              refine F_take (v := S2) 1 #[true, true, false, false, false, false, false, false] rfl (by kernel_rfl) (fun _ _ _ h => h) rfl (fun w hF => e_load 28 (.tmp 44) _ _ rfl (Tryd.isAgg28 _) (bcells hF).2) (b2) ?_; simp only [Act.put, List.setIfInBounds_toArray, List.set_cons_succ, List.set_cons_zero]
              refine F_free (v := .string D) 2 #[true, true, true, false, false, false, false, false] rfl (by kernel_rfl) (fun _ _ _ h => h) rfl (fun _ => rfl) (b2) ?_; simp only [Act.put, List.setIfInBounds_toArray, List.set_cons_succ, List.set_cons_zero]
              refine F_one 3 #[true, true, true, true, false, false, false, false] rfl (by kernel_rfl) ?_
              refine r_call 20 [.tmp 46] _ [.string D] (.int .i64 z) (fun w' => Gr wd w') Tryd.call20 rfl rfl (HRD.out wd) ?_
              intro wc gc
              have b1 := gc.blk b1
              have b2 := gc.blk b2
              have own := gc.row own
              have ho := gc.row ho
              have ho2 := gc.row ho2
              have gg := gg.trans gc
              have zc := gc.size
              refine ⟨fun _ => b2, ?_⟩
              simp only [Act.put, List.setIfInBounds_toArray, List.set_cons_succ, List.set_cons_zero]
              refine F_one 4 #[true, true, true, true, true, false, false, false] rfl (by kernel_rfl) ?_
              refine r_slice1 28 3 (.tmp 47) (.int .i64 z) rfl (Tryd.bsiP _ _) rfl ?_
              intro wn Bn Nn
              have gn := Nn.gr
              have b1 := gn.blk b1
              have b2 := gn.blk b2
              have own := gn.row own
              have ho := gn.row ho
              have ho2 := gn.row ho2
              have gg := gg.trans gn
              have zn := gn.size
              have n1 := own_ne own b1 (by decide)
              have n2 := own_ne own b2 (by decide)
              have no := own_neP ho own (by decide)
              have no2 := own_neP ho2 own (by decide)
              refine ⟨fun _ => b2, ?_⟩
              simp only [Act.put, List.setIfInBounds_toArray, List.set_cons_succ, List.set_cons_zero]
              refine F_one 5 #[true, true, true, true, true, true, false, false] rfl (by kernel_rfl) ?_
              refine r_append (.tmp 45) (.tmp 48) 28 3 _ 1 8 w.heap.size Tryd.intsP S2 (X j).length (intsV (X j)) rfl own ⟨Bn, 0, none⟩ 1 1 [.int .i64 z] rfl rfl Nn.cell1 (intsV_one [z]) (by omega) (by decide) (by omega) rfl ?_
              intro va wa owna ga
              have b1 := ga.blk b1 n1
              have b2 := ga.blk b2 n2
              have ho := ga.row ho no
              have ho2 := ga.row ho2 no2
              have gg := ga.gr gg (own_gr own (Nat.le_refl _))
              have za := ga.size
              rw [show intsV (X j) ++ [Value.int .i64 z] = intsV (X (j + 1)) from by rw [← HXSJ.out, ← intsV_append]; rfl, show (X j).length + 1 = (X (j + 1)).length from by rw [← HXSJ.out]; simp] at owna
              have hona := own_one owna
              have hna2 := own_ne owna b2 (by decide)
              have hno2 := own_ne ho b2 (by decide)
              have hno3 := own_ne ho2 b2 (by decide)
              refine ⟨fun _ => b2, ?_⟩
              simp only [Act.put, List.setIfInBounds_toArray, List.set_cons_succ, List.set_cons_zero]
              refine F_free (v := .pointer (some ⟨B2, 1, Option.none⟩)) 6 #[true, true, true, true, true, true, true, false] rfl (by kernel_rfl) (fun _ _ _ h => h) rfl (fun _ => e_val _ _ (Tryd.ibf1P _ _)) (b2) ?_; simp only [Act.put, List.setIfInBounds_toArray, List.set_cons_succ, List.set_cons_zero]
              refine F_one 7 #[true, true, true, true, true, true, true, true] rfl (by kernel_rfl) ?_
              (refine r_store_cell 28 30 _ _ B2 1 rfl (va) rfl _ b2 (by show 1 < 2; decide) Tryd.sizeOf28 (hona) rfl ?_; intro w8 u8 b2'; have z8 := u8.size; have gg := u8.gr gg (by omega); have b1 := u8.blk b1 (by omega); clear b2; have b2 : Blk w8 B2 (bv (m) (va)) 30 := b2'; clear b2'; obtain ⟨b2_0, b2_1⟩ := bcells b2)
              have own := u8.row owna hna2
              have ho := u8.row ho hno2
              have ho2 := u8.row ho2 hno3
              refine ⟨fun h => (by cases h), ?_⟩
              simp only [Act.put]
              refine F_done (by kernel_rfl) ?_
              go_wp2
              go_roundw
              case rel => exact ⟨j + 1, va, by go_num, by omega, b1, b2, own, ho, ho2, gg⟩
              case measure => simp [intOf]; omega
            · have hjm2 : j = m := by omega
              rw [hjm2, HXM.out] at own
              go_wp2
              go_roundw
              case rel => exact ⟨k + 1, m, S2, by go_num, by omega, b1, b2, own, ho, gg, HEVM.out, (by have := HM.out; have := piB_pos 44 p; omega)⟩
              case measure => simp [intOf]; omega
        · have hv : (!decide ((m : Int) = (W : Int))) = true := by rw [decide_eq_false (by omega)]; rfl
          have HV := hidI (HOLD.out (by omega) hWm)
          clear hWm
          go_step
          refine r_fld 30 _ 0 (.pointer (some ⟨B2, 0, none⟩)) (.pointer (some ⟨B2, 0, none⟩)) rfl (Tryd.ibf0P _ _) rfl ?_
          simp only [Act.put, List.setIfInBounds_toArray, List.set_cons_succ, List.set_cons_zero]
          refine r_ldc 3 _ ⟨B2, 0, none⟩ (.int .i64 W) rfl (Tryd.isAgg3 _) (b2.cell 0) rfl ?_
          simp only [Act.put, List.setIfInBounds_toArray, List.set_cons_succ, List.set_cons_zero]
          refine r_val (.bool true) (e_gtrR _ _ (W : Int) 0 true rfl rfl hg0) rfl ?_
          simp only [Act.put, List.setIfInBounds_toArray, List.set_cons_succ, List.set_cons_zero]
          refine r_val (.bool true) rfl rfl ?_
          simp only [Act.put, List.setIfInBounds_toArray, List.set_cons_succ, List.set_cons_zero]
          refine r_val (.slice (some ⟨G2, 0, none⟩) m cap2) rfl rfl ?_
          simp only [Act.put, List.setIfInBounds_toArray, List.set_cons_succ, List.set_cons_zero]
          refine r_val (.int .i64 m) (e_len 35 9 _ (some ⟨G2, 0, none⟩) m cap2 rfl Tryd.underlying35) rfl ?_
          simp only [Act.put, List.setIfInBounds_toArray, List.set_cons_succ, List.set_cons_zero]
          refine r_fld 30 _ 0 (.pointer (some ⟨B2, 0, none⟩)) (.pointer (some ⟨B2, 0, none⟩)) rfl (Tryd.ibf0P _ _) rfl ?_
          simp only [Act.put, List.setIfInBounds_toArray, List.set_cons_succ, List.set_cons_zero]
          refine r_ldc 3 _ ⟨B2, 0, none⟩ (.int .i64 W) rfl (Tryd.isAgg3 _) (b2.cell 0) rfl ?_
          simp only [Act.put, List.setIfInBounds_toArray, List.set_cons_succ, List.set_cons_zero]
          refine r_val (.bool true) (e_neqP _ _ (m : Int) (W : Int) true rfl rfl hv) rfl ?_
          simp only [Act.put, List.setIfInBounds_toArray, List.set_cons_succ, List.set_cons_zero]
          refine r_val (.bool true) rfl rfl ?_
          simp only [Act.put, List.setIfInBounds_toArray, List.set_cons_succ, List.set_cons_zero]
          go_wp2_with (first | (refine r_build 30 [] [] _ (Tryd.ibbuild0 _) rfl rfl ?_) | (refine r_store_row 30 30 _ _ _ rfl (bv (0) (.slice none 0 0)) _ rfl b1 Tryd.ibsize rfl (bv_one (rfl)) rfl ?_; intro w6 u6 b1'; have z6 := u6.size; have gg := u6.gr gg (by omega); clear b1; have b1 := b1'; clear b1'; obtain ⟨b1_0, b1_1⟩ := bcells b1))
          refine bodyPost_ret (results_row_bool rfl _ _ _ _ _ _ rfl b1 Tryd.underlying30 rfl Tryd.ibinfo) rfl ?_
          refine ⟨gg, _, ret_bp HV.out.1 HV.out.2.2, ?_⟩
          rw [← HV.out.2.1]
          exact World.ownsRow_nil _ _ _ _
    · have hkn : k = n := by omega
      rw [hkn] at own he
      have HY := hidI (HYES.out W he)
      have hcl := HCL.out n
      obtain ⟨C, hC⟩ : ∃ C, C = clR rdZ (q.take n) := ⟨_, rfl⟩
      rw [← hC] at own HY hcl
      have hne1 := own_ne own b1 (by decide)
      have hone := own_one own
      clear hC
      by_cases hok : bdOk W C = true
      · have HV := hidI (pb_yes (l := l) (W := W) (C := C) (by rw [HY.out, if_pos hok]))
        have HOK := hidI hok
        clear hok
        go_wp2_with (first | (refine r_load_row 30 _ _ rfl _ _ _ b2 Tryd.underlying30 rfl Tryd.ibinfo rfl ?_) | ((go_at_call 21; refine (blGood_any W C S _ _ own (by omega)).mono ?_; rintro e w6 ⟨rfl, g6⟩; rw [HOK.out]; have z6 := g6.size; have b1 := g6.blk b1; have b2 := g6.blk b2; have gg := gg.trans g6); have own := g6.row own) | ((refine r_store_row 30 30 _ _ _ rfl (bv (W) (S)) _ rfl b1 Tryd.ibsize rfl (bv_one (hone)) rfl ?_; intro w7 u7 b1'; have z7 := u7.size; have gg := u7.gr gg (by omega); have b2 := u7.blk b2 (by omega); clear b1; have b1 := b1'; clear b1'; obtain ⟨b1_0, b1_1⟩ := bcells b1); have own := u7.row own hne1))
        refine bodyPost_ret (results_row_bool rfl _ _ _ _ _ _ rfl b1 Tryd.underlying30 rfl Tryd.ibinfo) rfl ?_
        refine ⟨gg, S, ret_bp HV.out.1 HV.out.2.2, ?_⟩
        rw [← HV.out.2.1]
        exact own
      · have HOK := hidI (show bdOk W C = false from by simpa using hok)
        have HV := hidI (pb_no (l := l) (by rw [HY.out, if_neg hok]))
        clear hok
        go_wp2_with (first | (refine r_load_row 30 _ _ rfl _ _ _ b2 Tryd.underlying30 rfl Tryd.ibinfo rfl ?_) | ((go_at_call 21; refine (blGood_any W C S _ _ own (by omega)).mono ?_; rintro e w6 ⟨rfl, g6⟩; rw [HOK.out]; have z6 := g6.size; have b1 := g6.blk b1; have b2 := g6.blk b2; have gg := gg.trans g6); have own := g6.row own) | (refine r_build 30 [] [] _ (Tryd.ibbuild0 _) rfl rfl ?_) | (refine r_store_row 30 30 _ _ _ rfl (bv (0) (.slice none 0 0)) _ rfl b1 Tryd.ibsize rfl (bv_one (rfl)) rfl ?_; intro w7 u7 b1'; have z7 := u7.size; have gg := u7.gr gg (by omega); clear b1; have b1 := b1'; clear b1'; obtain ⟨b1_0, b1_1⟩ := bcells b1))
        refine bodyPost_ret (results_row_bool rfl _ _ _ _ _ _ rfl b1 Tryd.underlying30 rfl Tryd.ibinfo) rfl ?_
        refine ⟨gg, _, ret_bp HV.out.1 HV.out.2.2, ?_⟩
        rw [← HV.out.2.1]
        exact World.ownsRow_nil _ _ _ _
theorem sParseBoard (s : ByteArray) (w : World) : Calls Tryd.prog 8 #[.string s] w (RetBb 3 (pbW s.data.toList) (pbL s.data.toList) (pbOk s.data.toList) w) := by
  have hsz : s.size = s.data.toList.length := by simp
  by_cases h : 40 < s.size
  · obtain ⟨h1, h2, h3⟩ := pb_no (pbM_long (l := s.data.toList) (by omega))
    rw [← h1, ← h2, ← h3]
    exact sParseBoard_long s w h
  · have := sParseBoard_short s.data.toList w (by omega)
    rwa [txt_l] at this
end Go.Proofs.YtpdmfbhjneodeaaDoor
namespace Go.Proofs.YtpdmfbhjneodeaaDoor
open Go.RowKit
attribute [local go_sem] Oper.semAt_some
theorem mk_toList (p : List UInt8) : (⟨p.toArray⟩ : ByteArray).data.toList = p := by simp
theorem mk_size (p : List UInt8) : (⟨p.toArray⟩ : ByteArray).size = p.length := List.size_toArray
theorem strV_of {rows : List ByteArray} {L : List (List UInt8)} (h : rows.map (·.data.toList) = L) : rows.map Value.string = strV L := by
  subst h
  unfold strV
  rw [List.map_map]
  refine List.map_congr_left fun b _ => ?_
  show Value.string b = .string ⟨b.data.toList.toArray⟩
  rw [txt_l]
theorem strV_cell {w : World} {B : Nat} {T : TypeId} {q : List (List UInt8)} (h : Blk w B (strV q).toArray T) {j : Nat} (hj : j < q.length) : w.cell? ⟨B, j, none⟩ = some (.string ⟨(q.getD j []).toArray⟩) := by
  rw [h.cell j]
  unfold strV
  rw [List.getElem?_toArray, List.getElem?_map, List.getElem?_eq_getElem hj, List.getD_eq_getElem?_getD, List.getElem?_eq_getElem hj]
  rfl
/-- What a round keeps. -/
def RdK (Hs : List Nat) (A B : World) : Prop := KeepsOthers A B ∧ KpH Hs A B
theorem RdK.refl (Hs : List Nat) (A : World) : RdK Hs A A := ⟨⟨Nat.le_refl _, fun _ _ h _ => h⟩, KpH.refl Hs A⟩
theorem RdK.gr {Hs : List Nat} {A B C : World} (h : RdK Hs A B) (g : Gr B C) : RdK Hs A C := ⟨h.1.trans g.othersC, h.2.trans fun _ _ _ ho => Gr.keep g ho⟩
theorem RdK.upd {Hs : List Nat} {A B C : World} (h : RdK Hs A B) {k : Nat} {cs : Array Value} {T : TypeId} (u : Upd k B C) (hb : Blk B k cs T) (hk : k ∉ Hs) : RdK Hs A C :=
  ⟨h.1.trans (u.othersC hb), h.2.trans fun i hi _ ho => (u.block i (fun e => hk (e ▸ hi))).trans ho⟩
theorem RdK.grb {Hs : List Nat} {A B C : World} (h : RdK Hs A B) {base : Nat} {e : TypeId} {size : Nat} {v : Value} {n : Nat} {xs : List Value} (g : Grb v.ownBlock B C) (hr : B.ownsRow base e size v n xs) (hH : ∀ k ∈ Hs, k < base) : RdK Hs A C :=
  ⟨h.1.trans (g.othersC hr), h.2.trans fun i hi _ ho => g.keep ho (fun e => by have := (hr.lt i e).1; have := hH i hi; omega)⟩
theorem below_of {w a b : World} (h : Gr w a) (k : Gr w b) (hs : a.heap.size ≤ b.heap.size) : Below w.heap.size a b := ⟨k.os.trans h.os.symm, k.tape.trans h.tape.symm, k.output.trans h.output.symm, hs, fun i hi => (k.block i hi).trans (h.block i hi).symm⟩
theorem calm_n {Q : Exit → Act → World → Prop} {a : Act} {w : World} (h : Q .normal a w) : Calm Q .normal a w := h
/-- The number that Atoi returns. -/
theorem atoi_at (s : ByteArray) (w : World) (hs : s.size ≤ 1048576) (he : EV w) : Calls Tryd.prog 15 #[.string s] w fun e w' => Gr w w' ∧ ∃ u, e = .returned (.tuple #[.int .i64 (atZ s.data.toList), u]) := by
  obtain ⟨u, v, hu, hv, c0, c1⟩ := he
  unfold atZ
  cases ha : Lib.atoiAll s.data.toList with
  | ok n =>
    refine (Tryd.strconv_Atoi_ok s (by omega) n ha w).mono ?_
    rintro e w' ⟨rfl, h⟩
    refine ⟨?_, _, rfl⟩
    rcases h with rfl | ⟨t, rfl⟩
    · exact Gr.refl _
    · exact bytesWorld_gr _ _ _
  | «syntax» =>
    refine (Tryd.strconv_Atoi_syntax s (by omega) ha u w c0 hu).mono ?_
    rintro e w' ⟨N, rfl, -, -, h⟩
    exact ⟨h, _, rfl⟩
  | range =>
    refine (Tryd.strconv_Atoi_range s (by omega) ha v w c1 hv).mono ?_
    rintro e w' ⟨N, rfl, -, -, h⟩
    exact ⟨h, _, rfl⟩
/-- The pieces of a text. -/
theorem splitB_any (c : UInt8) (p : List UInt8) (w : World) (hs : p.length ≤ 1048576) (hm : ML w) : Calls Tryd.prog 14 #[.string ⟨p.toArray⟩, .string ⟨#[c]⟩] w fun e w' => Gr w w' ∧ ∃ B, e = .returned (.slice (some ⟨B, 0, none⟩) (piB c p).length (piB c p).length) ∧ w.heap.size ≤ B ∧ Blk w' B (strV (piB c p)).toArray 9 := by
  obtain ⟨m, hm⟩ := hm
  refine (Tryd.strings_Split ⟨p.toArray⟩ ⟨#[c]⟩ m w (by rw [mk_size]; omega) hm (by show 1 ≤ 1; decide)).mono ?_
  rintro e w' ⟨rfl, rfl⟩
  have h := Lib.splitB_data ⟨#[c]⟩ 0 (Lib.countB ⟨p.toArray⟩ ⟨#[c]⟩) ⟨p.toArray⟩
  have h2 : (Lib.splitB ⟨#[c]⟩ 0 (Lib.countB ⟨p.toArray⟩ ⟨#[c]⟩) ⟨p.toArray⟩).map (·.data.toList) = piB c p := by
    have := h.trans (splitK_piB _ _)
    rwa [mk_toList] at this
  refine ⟨(Gr.refl w).alloc _, w.heap.size, ?_, Nat.le_refl _, ?_⟩
  · have := piB_count c ⟨p.toArray⟩
    rw [mk_toList] at this
    rw [this]
  · rw [strV_of h2]
    exact Own.new w _
set_option maxHeartbeats 1000000 in
set_option maxRecDepth 100000 in
theorem iParseBoard (l : List UInt8) (w : World) (hm : ML w) (he : EV w) (hl : l.length ≤ 1048576) : Calls Tryd.prog 9 #[.string ⟨l.toArray⟩] w (RetBb 3 (pbW l) (pbL l) (pbOk l) w) := by
  have gg := Gr.refl w
  obtain ⟨s, hs⟩ : ∃ s : ByteArray, s = ⟨l.toArray⟩ := ⟨_, rfl⟩
  have HS := hidI hs
  rw [← hs]
  clear hs
  refine (callsIn_wide (n := 9)).1 ?_
  refine callsIn_of_wp_marks Tryd.func9 rfl trivial ?_ rfl
  refine wpIn_wide.2 ?_
  simp only [Tryd.ntmps9, List.size_toArray, List.length_cons, List.length_nil, Nat.reduceAdd, Nat.reduceSub, Array.replicate_succ, Array.replicate_zero, List.push_toArray, List.append_toArray, List.nil_append, List.cons_append]
  go_wp2_with (first | (refine r_alloc (dst := some 2) 30 _ Tryd.ibzero rfl ?_; intro w1 B1 N1; have g1 := N1.gr; have b1 : Blk w1 B1 (bv 0 (.slice none 0 0)) 30 := N1.blk; have l1 := N1.lo; have t1 := N1.hi; have z1 := g1.size; have gg := gg.trans g1; clear N1; obtain ⟨b1_0, b1_1⟩ := bcells b1) | (refine r_alloc (dst := some 4) 30 _ Tryd.ibzero rfl ?_; intro w2 B2 N2; have g2 := N2.gr; have b2 : Blk w2 B2 (bv 0 (.slice none 0 0)) 30 := N2.blk; have l2 := N2.lo; have t2 := N2.hi; have z2 := g2.size; have b1 := g2.blk b1; have gg := gg.trans g2; clear N2; obtain ⟨b2_0, b2_1⟩ := bcells b2) | (go_at_call 22; refine (Tryd.spq_any s 47 _).mono ?_; rintro e w3 ⟨g3, bc, bs, bz, rfl, hbc, hbs, hbz, hcs, lbs, lbc, lbz⟩; have b1 := g3.blk b1; have b2 := g3.blk b2; have z3 := g3.size; have gg := gg.trans g3))
  refine (wpIn_wide (n := 9)).1 ?_
  have b1w := b1
  have zg := gg.size
  have gg3 := gg
  have HPC := hidI (fun (pre : List (List UInt8)) (x : List UInt8) (h : ∃ r, pre ++ x :: r = piB 47 l) => show x.length ≤ 1048576 ∧ (clR atZ (pre ++ [x])).length ≤ 1048577 from by
    obtain ⟨r, h⟩ := h
    refine ⟨?_, ?_⟩
    · have := piB_len 47 l x (by rw [← h]; simp)
      omega
    · have := clR_pre atZ (l := l) (pre := pre ++ [x]) (r := r) (by rw [← h, List.append_assoc]; rfl)
      omega)
  have hbs' : Blk w3 bs #[.string ⟨l.toArray⟩] 9 := by rw [← HS.out]; exact hbs
  have n2s : B2 ≠ bs := by omega
  have n1s : B1 ≠ bs := by omega
  have n2h : B2 ∉ [bc, bs, bz] := by simp only [List.mem_cons, List.not_mem_nil, or_false]; omega
  have hHs : ∀ k ∈ [bc, bs, bz], k < w3.heap.size := by
    intro k hk
    have t1 := hbc.lt
    have t2 := hbs.lt
    have t3 := hbz.lt
    simp only [List.mem_cons, List.not_mem_nil, or_false] at hk
    omega
  have lo2 : w.heap.size ≤ B2 := by omega
  have hB12 : B1 < B2 := by omega
  have hbsw : w.heap.size ≤ bs := by omega
  refine H_range (Hs := [bc, bs, bz]) (hb := bs) (h1 := by decide) (gf := 65) (lb := #[.pointer (some ⟨bc, 0, none⟩), .pointer (some ⟨bs, 0, none⟩), .pointer (some ⟨bz, 0, none⟩)]) rfl (enters_of Tryd.func65 (by kernel_rfl) rfl)
    hHs hbs.lt (Tryd.spq_seq (9 - 1) (by decide) 47 l bc bs bz w3 hl hcs (fun e => by have := blk_neC hbs hbz (by decide); exact this e.symm) hbc hbs' hbz) (fun _ => rfl)
    (fun pre W' => (∃ S, Blk W' B2 (bv (wdR pre : Nat) S) 30 ∧ W'.ownsRow w3.heap.size 3 1 S (clR atZ pre).length (intsV (clR atZ pre))) ∧ (Blk W' B1 (bv 0 (.slice none 0 0)) 30 ∧ Below w.heap.size w3 W'))
    ?hIb (OwnFrom.and (OwnFrom.ex fun S => OwnFrom.and OwnFrom.blkC OwnFrom.rowC) (OwnFrom.and OwnFrom.blkC (ownFrom_below zg zg)))
    ⟨⟨_, b2, World.ownsRow_nil _ _ _ _⟩, b1, Below.refl _ _⟩
    (fun x => { tmps := #[.string s, undef, .pointer (some ⟨B1, 0, none⟩), .bool false, .pointer (some ⟨B2, 0, none⟩), .string ⟨x.toArray⟩, undef, undef, undef, undef, undef, undef, undef, .string s, .func (.func 65) #[] #[.pointer (some ⟨bc, 0, none⟩), .pointer (some ⟨bs, 0, none⟩), .pointer (some ⟨bz, 0, none⟩)], .string ⟨x.toArray⟩, undef, undef, undef, undef, undef, undef, undef, undef, undef, undef, undef, undef, undef, undef, undef, undef, undef, undef, undef, undef, undef, undef, undef, undef, undef, undef, undef, undef, undef, undef, undef, undef, undef, undef, undef, undef, undef], defers := [] }) ?assign ?body ?done
  case hIb =>
    rintro pre A B ⟨⟨S, hb2, own⟩, hb1, hB⟩ hg
    have g : Grb (some bs) A B := ⟨hg⟩
    refine ⟨⟨S, g.blk hb2 (by intro e; injection e with e; exact n2s e.symm), g.row own (.inr fun e => ?_)⟩, g.blk hb1 (by intro e; injection e with e; exact n1s e.symm), Below.grown hB hg (by have := hB.size; omega) (fun k e => by injection e with e; omega)⟩
    have := (own.lt _ e).1
    have := hbs.lt
    omega
  case assign =>
    intro ln x W' K hK
    unfold tx
    gi_wp2
    exact hK
  case body =>
    rintro ln pre x W' ⟨⟨S, b2, own⟩, b1, hB⟩ hpr
    have gg : Gr w W' := (show Below w.heap.size w w3 from gg).trans hB
    have z3w := hB.size
    obtain ⟨hx, hcl⟩ := HPC.out pre x hpr
    have rk := RdK.refl [bc, bs, bz] W'
    have HSP := hidI (fun w' (hm : ML w') => splitB_any 44 x w' hx hm)
    obtain ⟨q, hq⟩ : ∃ q, q = piB 44 x := ⟨_, rfl⟩
    obtain ⟨m, hm0⟩ : ∃ m, m = q.length := ⟨_, rfl⟩
    have HD := hidI (fun j (hj : j < m) => show (q.getD j []).length ≤ 1048576 from by
      have := piB_len 44 x (q.getD j []) (hq ▸ getB_mem (q := q) (k := j) (by omega))
      omega)
    obtain ⟨X, hX⟩ : ∃ X : Nat → List Int, X = fun j => clR atZ pre ++ (q.take j).map atZ := ⟨_, rfl⟩
    have HX0 := hidI (show clR atZ pre = X 0 from by rw [hX]; simp)
    have HXS := hidI (fun j (hj : j < m) => show X j ++ [atZ (q.getD j [])] = X (j + 1) from by rw [hX]; simp only; rw [map_take _ _ (by omega), List.append_assoc])
    have HXM := hidI (show X m = clR atZ (pre ++ [x]) from by rw [hX, clR_snoc, ← hq]; simp only; rw [hm0, List.take_length])
    have HXL := hidI (fun j (hj : j ≤ m) => show (X j).length ≤ 1048577 from by
      have h1 : (X j).length ≤ (X m).length := by
        rw [hX]
        simp only [List.length_append, List.length_map, List.length_take]
        omega
      rw [HXM.out] at h1
      omega)
    have HWD := hidI (show m = wdR (pre ++ [x]) from by rw [wdR_snoc, ← hq, hm0])
    have HM := hidI hm0
    rw [← hq, ← hm0] at HSP
    obtain ⟨P, hP⟩ : ∃ P : ByteArray, P = ⟨x.toArray⟩ := ⟨_, rfl⟩
    rw [← hP] at HSP ⊢
    have hm20 : m ≤ 1048577 := by
      have := piB_le 44 x
      rw [hm0, hq]
      omega
    clear hP hX hm0 hq hcl
    generalize (wdR pre : Int) = V0 at *
    repeat (first | (refine O_listC (OpenF.inRound ln) (by rfl) ?_) | gi_step)
    go_wp2_with (go_at_call 14; refine (HSP.out _ (gg.ml hm)).mono ?_; rintro e w5 ⟨g5, G, rfl, lG, bG⟩; have b1 := g5.blk b1; have b2 := g5.blk b2; have own := g5.row own; have z5 := g5.size; have gg := gg.trans g5; have rk := rk.gr g5)
    refine calm_n ?_
    have n2G := blk_neC bG b2 (by decide)
    have hne := own_ne own b2 (by decide)
    have hb2o := b2
    repeat (first | (refine O_listC (OpenF.inRound ln) (by rfl) ?_) | gi_step)
    go_wp2_with (first | (refine r_fld 30 _ 0 (.pointer (some ⟨B2, 0, none⟩)) (.pointer (some ⟨B2, 0, none⟩)) rfl (Tryd.ibf0P _ _) rfl ?_) | ((refine r_store_cell 3 30 _ _ B2 0 rfl (.int .i64 m) rfl _ b2 (by show 0 < 2; decide) Tryd.sizeOf3 (rfl) rfl ?_; intro w6 u6 b2'; have z6 := u6.size; have gg := u6.gr gg (by omega); have b1 := u6.blk b1 (by omega); clear b2; have b2 : Blk w6 B2 (bv (m) (S)) 30 := b2'; clear b2'; obtain ⟨b2_0, b2_1⟩ := bcells b2); have rk := rk.upd u6 hb2o n2h; have own := u6.row own hne; have bG := u6.blk bG n2G))
    refine calm_n ?_
    rw [HX0.out] at own
    repeat (first | (refine O_listC (OpenF.inRound ln) (by rfl) ?_) | gi_step)
    go_wp2
    refine calm_n ?_
    gi_wp2
    gi_loopw [23] (fun jv wr => ∃ (j : Nat) (S2 : Value), jv = .int .i64 j ∧ j ≤ m ∧ Blk wr B1 (bv 0 (.slice none 0 0)) 30 ∧ Blk wr B2 (bv m S2) 30 ∧ wr.ownsRow w3.heap.size 3 1 S2 (X j).length (intsV (X j)) ∧
      Blk wr G (strV q).toArray 9 ∧ Gr w wr ∧ w3.heap.size ≤ wr.heap.size ∧ RdK [bc, bs, bz] W' wr) (fun jv _ => m - (intOf jv).toNat)
    case atStart => exact ⟨0, S, rfl, Nat.zero_le _, b1, b2, own, bG, gg, by omega, rk⟩
    case round =>
      clear b1 b2 own bG gg rk hb2o hne n2G b2_0 b2_1
      obtain ⟨j, S2, rfl, hj, b1, b2, own, bG, gg, z3r, rk⟩ := hrel
      have hXj := HXL.out j hj
      by_cases hjm : j < m
      · have hix2 := Tryd.stxS G m m j hjm
        have c40 := strV_cell bG (j := j) (by have := HM.out; omega)
        have HAT := hidI (fun w' (he : EV w') => show Calls Tryd.prog 15 #[.string ⟨(q.getD j []).toArray⟩] w' (fun e w'' => Gr w' w'' ∧ ∃ u, e = .returned (.tuple #[.int .i64 (atZ (q.getD j [])), u])) from by
          have := atoi_at ⟨(q.getD j []).toArray⟩ w' (by rw [mk_size]; exact HD.out j hjm) he
          rwa [mk_toList] at this)
        have HXSJ := hidI (HXS.out j hjm)
        have hXj1 := HXL.out (j + 1) hjm
        obtain ⟨z, hz⟩ : ∃ z, z = atZ (q.getD j []) := ⟨_, rfl⟩
        obtain ⟨D, hD⟩ : ∃ D : ByteArray, D = ⟨(q.getD j []).toArray⟩ := ⟨_, rfl⟩
        rw [← hz] at HAT HXSJ
        rw [← hD] at HAT c40
        clear hz hD
        repeat (first | (refine O_listC (OpenF.inRound ln) (by rfl) ?_) | gi_step)
        go_wp2
        refine calm_n ?_
        repeat (first | (refine O_listC (OpenF.inRound ln) (by rfl) ?_) | gi_step)
        go_wp2_with (first | (refine r_idx 35 _ _ (.slice (some ⟨G, 0, none⟩) m m) (.int .i64 j) _ rfl rfl (hix2 _) rfl ?_) | (refine r_ldc 9 _ ⟨G, j, none⟩ (.string D) rfl (Tryd.isAgg9 _) c40 rfl ?_))
        refine calm_n ?_
        repeat (first | (refine O_listC (OpenF.inRound ln) (by rfl) ?_) | gi_step)
        go_wp2_with (go_at_call 15; refine (HAT.out _ (gg.ev he)).mono ?_; rintro e w7 ⟨g7, u7, rfl⟩; have b1 := g7.blk b1; have b2 := g7.blk b2; have own := g7.row own; have bG := g7.blk bG; have z7 := g7.size; have gg := gg.trans g7; have rk := rk.gr g7)
        refine calm_n ?_
        have c2 := (bcells b2).2
        repeat (first | (refine O_listC (OpenF.inRound ln) (by rfl) ?_) | gi_step)
        go_wp2_with (first | (refine r_fld 30 _ 1 (.pointer (some ⟨B2, 0, none⟩)) (.pointer (some ⟨B2, 1, none⟩)) rfl (Tryd.ibf1P _ _) rfl ?_) | (refine r_ldc 28 _ ⟨B2, 1, none⟩ S2 rfl (Tryd.isAgg28 _) c2 rfl ?_) | (refine r_slice1 28 3 (.tmp 34) (.int .i64 z) rfl (Tryd.bsiP _ _) rfl ?_; intro wn Bn Nn; have gn := Nn.gr; have b1 := gn.blk b1; have b2 := gn.blk b2; have own := gn.row own; have bG := gn.blk bG; have gg := gg.trans gn; have zn := gn.size; have rk := rk.gr gn; have n1 := own_ne own b1 (by decide); have n2 := own_ne own b2 (by decide); have nG := own_ne own bG (by decide)) | (refine r_append (.tmp 33) (.tmp 35) 28 3 _ 1 8 w3.heap.size Tryd.intsP S2 (X j).length (intsV (X j)) rfl own ⟨Bn, 0, none⟩ 1 1 [.int .i64 z] rfl rfl Nn.cell1 (intsV_one [z]) (by omega) (by decide) (by omega) rfl ?_; intro va wa owna ga; have b1 := ga.blk b1 n1; have b2 := ga.blk b2 n2; have bG := ga.blk bG nG; have gg := ga.gr gg (own_gr own zg); have za := ga.size; have rk := rk.grb ga own hHs; have owna : wa.ownsRow w3.heap.size 3 1 va (X (j + 1)).length (intsV (X (j + 1))) := (by rw [← HXSJ.out, ← intsV_append, List.length_append]; exact owna); have hona := own_one owna; have hna2 := own_ne owna b2 (by decide); have n2G := blk_neC bG b2 (by decide); have b2o := b2) | ((refine r_store_cell 28 30 _ _ B2 1 rfl (va) rfl _ b2 (by show 1 < 2; decide) Tryd.sizeOf28 (hona) rfl ?_; intro w8 u8 b2'; have z8 := u8.size; have gg := u8.gr gg (by omega); have b1 := u8.blk b1 (by omega); clear b2; have b2 : Blk w8 B2 (bv (m) (va)) 30 := b2'; clear b2'; obtain ⟨b2_0, b2_1⟩ := bcells b2); have own := u8.row owna hna2; have bG := u8.blk bG n2G; have rk := rk.upd u8 b2o n2h))
        refine calm_n ?_
        gi_wp2
        go_roundw
        case rel => exact ⟨j + 1, va, by go_num, by omega, b1, b2, own, bG, gg, by omega, rk⟩
        case measure => simp [intOf]; omega
      · have hjm2 : j = m := by omega
        rw [hjm2, HXM.out] at own
        rw [HWD.out] at b2
        repeat (first | (refine O_listC (OpenF.inRound ln) (by rfl) ?_) | gi_step)
        go_wp2
        refine calm_n ?_
        gi_wp2
        exact ⟨rk.1, rk.2, ⟨S2, b2, own⟩, b1, below_of gg3 gg z3r⟩
  case done =>
    rintro D ys W' hD rfl ⟨⟨S, b2, own⟩, b1, hB⟩ hK
    have gg : Gr w W' := (show Below w.heap.size w w3 from gg3).trans hB
    rw [wdR_b] at b2
    rw [clR_p] at own
    have hDB : B1 < D := by omega
    have hDw : w.heap.size ≤ D := by omega
    have hCl : (clP l).length ≤ 1048577 := by
      have := clR_pre atZ (l := l) (pre := piB 47 l) (r := []) (List.append_nil _)
      rw [clR_p] at this
      omega
    have HBT := hidI (fun w' (ho : w'.ownsRow w3.heap.size 3 1 S (clP l).length (intsV (clP l))) => iBoardText_gen (wdB l : Nat) (clP l) S w3.heap.size w' ho hCl)
    have HSM := hidI (pb_same l)
    by_cases hok : bdOk (wdB l : Nat) (clP l) = true
    · obtain ⟨⟨W0, H, hW0, hnn, hw1, hw3, hh1, hh3⟩, hall⟩ := bdOk_iff.1 hok
      obtain rfl : wdB l = W0 := by omega
      have hbt := btS_good hnn hw1 hok
      have hdv : (clP l).length / wdB l = H := by rw [hnn]; unfold nn; exact Nat.mul_div_cancel_left _ hw1
      rw [hok, hbt] at HBT
      obtain ⟨TX, hTX⟩ : ∃ TX : ByteArray, TX = ⟨(brdT (clP l) (wdB l) H).toArray⟩ := ⟨_, rfl⟩
      have HEQ := hidI (show TX = s ↔ brdT (clP l) (wdB l) H = l from by
        rw [hTX, HS.out]
        constructor
        · intro e
          have := congrArg (fun b : ByteArray => b.data.toList) e
          simpa using this
        · intro e
          rw [e])
      rw [← hTX] at HBT
      have HPM := hidI (show pbM l = if brdT (clP l) (wdB l) H = l then some (wdB l, clP l) else none from by
        rw [HSM.out]
        unfold pbP
        rw [hok, hdv, Bool.true_and]
        simp only [decide_eq_true_eq])
      obtain ⟨C, hC⟩ : ∃ C, C = clP l := ⟨_, rfl⟩
      obtain ⟨Wd, hWd⟩ : ∃ Wd, Wd = wdB l := ⟨_, rfl⟩
      rw [← hC] at own HBT HPM HEQ
      rw [← hWd] at b2 HBT HPM HEQ
      clear hok hall hbt hTX hdv hnn hCl HSM hC hWd hW0 hw1 hw3
      by_cases hts : TX = s
      · have hd : (!decide (TX = s)) = false := by rw [decide_eq_true hts]; rfl
        have HV := hidI (pb_yes (l := l) (W := Wd) (C := C) (by rw [HPM.out, if_pos (HEQ.out.1 hts)]))
        clear hts
        have hne1 := own_ne own b1 (by decide)
        have hone := own_one own
        go_upto_region 13 with (first | (refine r_load_row 30 _ _ rfl _ _ _ b2 Tryd.underlying30 rfl Tryd.ibinfo rfl ?_) | (go_at_call 23; refine (HBT.out _ own).mono ?_; rintro e w8 ⟨rfl, g8⟩; have hK := g8.keep hK; have b1 := g8.blk b1; have b2 := g8.blk b2; have own := g8.row own; have gg := gg.trans g8))
        go_step
        refine r_val (.bool true) rfl rfl ?_
        simp only [Act.put, List.setIfInBounds_toArray, List.set_cons_succ, List.set_cons_zero]
        refine r_val (.bool false) rfl rfl ?_
        simp only [Act.put, List.setIfInBounds_toArray, List.set_cons_succ, List.set_cons_zero]
        refine r_val (.bool false) rfl rfl ?_
        simp only [Act.put, List.setIfInBounds_toArray, List.set_cons_succ, List.set_cons_zero]
        refine r_val (.string TX) rfl rfl ?_
        simp only [Act.put, List.setIfInBounds_toArray, List.set_cons_succ, List.set_cons_zero]
        refine r_val (.string s) rfl rfl ?_
        simp only [Act.put, List.setIfInBounds_toArray, List.set_cons_succ, List.set_cons_zero]
        refine r_val (.bool false) (e_neqU _ _ TX s rfl rfl false hd) rfl ?_
        simp only [Act.put, List.setIfInBounds_toArray, List.set_cons_succ, List.set_cons_zero]
        refine r_val (.bool false) rfl rfl ?_
        simp only [Act.put, List.setIfInBounds_toArray, List.set_cons_succ, List.set_cons_zero]
        go_wp2_with (first | (refine r_load_row 30 _ _ rfl _ _ _ b2 Tryd.underlying30 rfl Tryd.ibinfo rfl ?_) | ((refine r_store_row 30 30 _ _ _ rfl (bv (Wd) (S)) _ rfl b1 Tryd.ibsize rfl (bv_one (hone)) rfl ?_; intro w9 u9 b1'; have z9 := u9.size; have gg := u9.gr gg (by omega); have b2 := u9.blk b2 (by omega); clear b1; have b1 := b1'; clear b1'; obtain ⟨b1_0, b1_1⟩ := bcells b1); have own := u9.row own hne1; have hK := (u9.block D (by omega)).trans hK))
        have u1 : Grb (some D) w9 (w9.putObj D (.deferred none)) := ⟨grownBy_putObj' w9 D _⟩
        refine ⟨by simp, .inl ⟨_, _, rfl, run_takeDeferred hK, ?_⟩⟩
        have b1z := u1.blk b1 (by intro e; injection e with e; omega)
        have ggz := u1.gr gg (fun k e => by injection e with e; omega)
        refine ⟨_, results_row_bool rfl _ _ _ _ _ _ rfl b1z Tryd.underlying30 rfl Tryd.ibinfo, ggz, S, ret_bp HV.out.1 HV.out.2.2, ?_⟩
        rw [← HV.out.2.1]
        refine own_up (u1.row own ?_) zg
        cases hv : S.ownBlock with
        | none => exact .inl rfl
        | some k =>
          refine .inr fun e => ?_
          rw [← hv] at e
          have := row_block own e hK
          cases this
      · have hd : (!decide (TX = s)) = true := by rw [decide_eq_false hts]; rfl
        have HV := hidI (pb_no (l := l) (by rw [HPM.out, if_neg (fun e => hts (HEQ.out.2 e))]))
        clear hts
        go_upto_region 13 with (first | (refine r_load_row 30 _ _ rfl _ _ _ b2 Tryd.underlying30 rfl Tryd.ibinfo rfl ?_) | (go_at_call 23; refine (HBT.out _ own).mono ?_; rintro e w8 ⟨rfl, g8⟩; have hK := g8.keep hK; have b1 := g8.blk b1; have b2 := g8.blk b2; have own := g8.row own; have gg := gg.trans g8))
        go_step
        refine r_val (.bool true) rfl rfl ?_
        simp only [Act.put, List.setIfInBounds_toArray, List.set_cons_succ, List.set_cons_zero]
        refine r_val (.bool false) rfl rfl ?_
        simp only [Act.put, List.setIfInBounds_toArray, List.set_cons_succ, List.set_cons_zero]
        refine r_val (.bool false) rfl rfl ?_
        simp only [Act.put, List.setIfInBounds_toArray, List.set_cons_succ, List.set_cons_zero]
        refine r_val (.string TX) rfl rfl ?_
        simp only [Act.put, List.setIfInBounds_toArray, List.set_cons_succ, List.set_cons_zero]
        refine r_val (.string s) rfl rfl ?_
        simp only [Act.put, List.setIfInBounds_toArray, List.set_cons_succ, List.set_cons_zero]
        refine r_val (.bool true) (e_neqU _ _ TX s rfl rfl true hd) rfl ?_
        simp only [Act.put, List.setIfInBounds_toArray, List.set_cons_succ, List.set_cons_zero]
        refine r_val (.bool true) rfl rfl ?_
        simp only [Act.put, List.setIfInBounds_toArray, List.set_cons_succ, List.set_cons_zero]
        go_wp2_with (first | (refine r_build 30 [] [] _ (Tryd.ibbuild0 _) rfl rfl ?_) | ((refine r_store_row 30 30 _ _ _ rfl (bv (0) (.slice none 0 0)) _ rfl b1 Tryd.ibsize rfl (bv_one (rfl)) rfl ?_; intro w9 u9 b1'; have z9 := u9.size; have gg := u9.gr gg (by omega); clear b1; have b1 := b1'; clear b1'; obtain ⟨b1_0, b1_1⟩ := bcells b1); have hK := (u9.block D (by omega)).trans hK))
        have u1 : Grb (some D) w9 (w9.putObj D (.deferred none)) := ⟨grownBy_putObj' w9 D _⟩
        refine ⟨by simp, .inl ⟨_, _, rfl, run_takeDeferred hK, ?_⟩⟩
        have b1z := u1.blk b1 (by intro e; injection e with e; omega)
        have ggz := u1.gr gg (fun k e => by injection e with e; omega)
        refine ⟨_, results_row_bool rfl _ _ _ _ _ _ rfl b1z Tryd.underlying30 rfl Tryd.ibinfo, ggz, (.slice none 0 0), ret_bp HV.out.1 HV.out.2.2, ?_⟩
        rw [← HV.out.2.1]
        exact World.ownsRow_nil _ _ _ _
    · have hok' : bdOk (wdB l : Nat) (clP l) = false := by simpa using hok
      have HV := hidI (pb_no (l := l) (by rw [HSM.out]; unfold pbP; rw [hok']; rfl))
      rw [hok', btS_bad hok'] at HBT
      obtain ⟨C, hC⟩ : ∃ C, C = clP l := ⟨_, rfl⟩
      obtain ⟨Wd, hWd⟩ : ∃ Wd, Wd = wdB l := ⟨_, rfl⟩
      rw [← hC] at own HBT
      rw [← hWd] at b2 HBT
      clear hok hok' hC hWd HSM hCl
      go_wp2_with (first | (refine r_load_row 30 _ _ rfl _ _ _ b2 Tryd.underlying30 rfl Tryd.ibinfo rfl ?_) | (go_at_call 23; refine (HBT.out _ own).mono ?_; rintro e w8 ⟨rfl, g8⟩; have hK := g8.keep hK; have b1 := g8.blk b1; have b2 := g8.blk b2; have own := g8.row own; have gg := gg.trans g8) | (refine r_build 30 [] [] _ (Tryd.ibbuild0 _) rfl rfl ?_) | ((refine r_store_row 30 30 _ _ _ rfl (bv (0) (.slice none 0 0)) _ rfl b1 Tryd.ibsize rfl (bv_one (rfl)) rfl ?_; intro w9 u9 b1'; have z9 := u9.size; have gg := u9.gr gg (by omega); clear b1; have b1 := b1'; clear b1'; obtain ⟨b1_0, b1_1⟩ := bcells b1); have hK := (u9.block D (by omega)).trans hK))
      have u1 : Grb (some D) w9 (w9.putObj D (.deferred none)) := ⟨grownBy_putObj' w9 D _⟩
      refine ⟨by simp, .inl ⟨_, _, rfl, run_takeDeferred hK, ?_⟩⟩
      have b1z := u1.blk b1 (by intro e; injection e with e; omega)
      have ggz := u1.gr gg (fun k e => by injection e with e; omega)
      refine ⟨_, results_row_bool rfl _ _ _ _ _ _ rfl b1z Tryd.underlying30 rfl Tryd.ibinfo, ggz, (.slice none 0 0), ret_bp HV.out.1 HV.out.2.2, ?_⟩
      rw [← HV.out.2.1]
      exact World.ownsRow_nil _ _ _ _
end Go.Proofs.YtpdmfbhjneodeaaDoor
namespace Go.Proofs.YtpdmfbhjneodeaaDoor
open Go.RowKit
theorem own_apartP {w1 w2 : World} {b1 b2 : Nat} {e1 e2 : TypeId} {s1 s2 : Nat} {v1 v2 : Value} {n1 n2 : Nat} {x1 x2 : List Value} (h1 : w1.ownsRow b1 e1 s1 v1 n1 x1) (h2 : w2.ownsRow b2 e2 s2 v2 n2 x2) (hb : w1.heap.size ≤ b2) : v1.ownBlock = none ∨ v1.ownBlock ≠ v2.ownBlock := by
  cases h : v1.ownBlock with
  | none => exact .inl rfl
  | some k =>
    refine .inr fun e => ?_
    have := (h2.lt k e.symm).1
    have := (h1.lt k h).2
    omega
set_option maxHeartbeats 4000000 in
set_option maxRecDepth 100000 in
theorem lawParseBoard (s : ByteArray) (w : World) (hml : ML w) (he : EV w) : Calls Tryd.prog 4 #[.string s] w (Ret (.bool true) w) := by
  have gg := Gr.refl w
  by_cases hs : s.size ≤ 1048576
  · have HA := hidI (sParseBoard s)
    have HB := hidI (fun w' (hm : ML w') (he : EV w') => show Calls Tryd.prog 9 #[.string s] w' (RetBb 3 (pbW s.data.toList) (pbL s.data.toList) (pbOk s.data.toList) w') from by
      have := iParseBoard s.data.toList w' hm he (by simpa using hs)
      rwa [txt_l] at this)
    have hle := pbL_le s.data.toList
    obtain ⟨ok, hok⟩ : ∃ ok, ok = pbOk s.data.toList := ⟨_, rfl⟩
    obtain ⟨y, hy⟩ : ∃ y, y = pbW s.data.toList := ⟨_, rfl⟩
    obtain ⟨M, hM⟩ : ∃ M, M = pbL s.data.toList := ⟨_, rfl⟩
    rw [← hok, ← hy, ← hM] at HA HB
    rw [← hM] at hle
    have hm : M.length ≤ 1048576 := by omega
    clear hok hy hM
    go_enter Tryd.func4, Tryd.ntmps4
    go_wp2_with fail
    refine (HA.out _).mono ?_
    rintro e w3 ⟨g3, v3, rfl, own3⟩
    have z3 := g3.size
    have gg := gg.trans g3
    have hone3 := own_one own3
    go_wp2_with (first | ((refine r_alloc 30 _ Tryd.ibzero rfl ?_; intro w4 B4 N4; have g4 := N4.gr; have b4 : Blk w4 B4 (bv 0 (.slice none 0 0)) 30 := N4.blk; have l4 := N4.lo; have t4 := N4.hi; have z4 := g4.size; have gg := gg.trans g4; clear N4; obtain ⟨b4_0, b4_1⟩ := bcells b4); have own3 := g4.row own3) | (have hne := own_ne own3 b4 (by decide); (refine r_store_row 30 30 _ _ _ rfl (bv (y) (v3)) _ rfl b4 Tryd.ibsize rfl (bv_one (hone3)) rfl ?_; intro w14 u14 b4'; have z14 := u14.size; have gg := u14.gr gg (by omega); clear b4; have b4 := b4'; clear b4'; obtain ⟨b4_0, b4_1⟩ := bcells b4); have own3 := u14.row own3 hne))
    refine (HB.out _ (gg.ml hml) (gg.ev he)).mono ?_
    rintro e w7 ⟨g7, v7, rfl, own7⟩
    have HA37 := hidI (own_apartP own3 own7 (Nat.le_refl _))
    have own3 := g7.row own3
    have b4 := g7.blk b4
    have z7 := g7.size
    have gg := gg.trans g7
    have hone7 := own_one own7
    go_wp2_with (first | ((refine r_alloc 30 _ Tryd.ibzero rfl ?_; intro w7 B7 N7; have g7 := N7.gr; have b7 : Blk w7 B7 (bv 0 (.slice none 0 0)) 30 := N7.blk; have l7 := N7.lo; have t7 := N7.hi; have z7 := g7.size; have b4 := g7.blk b4; have gg := gg.trans g7; clear N7; obtain ⟨b7_0, b7_1⟩ := bcells b7); have own3 := g7.row own3; have own7 := g7.row own7) | (have hne := own_ne own3 b7 (by decide); have hne7 := own_ne own7 b7 (by decide); (refine r_store_row 30 30 _ _ _ rfl (bv (y) (v7)) _ rfl b7 Tryd.ibsize rfl (bv_one (hone7)) rfl ?_; intro w17 u17 b7'; have z17 := u17.size; have gg := u17.gr gg (by omega); have b4 := u17.blk b4 (by omega); clear b7; have b7 := b7'; clear b7'; obtain ⟨b7_0, b7_1⟩ := bcells b7); have own3 := u17.row own3 hne; have own7 := u17.row own7 hne7) | (refine r_load_row 30 _ _ rfl _ _ _ b7 Tryd.underlying30 rfl Tryd.ibinfo rfl ?_) | (refine r_load_row 30 _ _ rfl _ _ _ b4 Tryd.underlying30 rfl Tryd.ibinfo rfl ?_))
    refine (eqBoard_same y M v7 v3 _ _ _ own7 own3 hm).mono ?_
    rintro e w8 ⟨rfl, g8⟩
    have own3 := g8.row own3
    have own7 := g8.row own7
    have b4 := g8.blk b4
    have b7 := g8.blk b7
    have z8 := g8.size
    have gg := gg.trans g8
    go_wp2_with (first | (refine r_load_row 30 _ _ rfl _ _ _ b7 Tryd.underlying30 rfl Tryd.ibinfo rfl ?_) | (refine r_load_row 30 _ _ rfl _ _ _ b4 Tryd.underlying30 rfl Tryd.ibinfo rfl ?_))
    have hn4 := own_ne own7 b4 (by decide)
    have hn7 := own_ne own7 b7 (by decide)
    refine (markBoard_any y M v7 1 _ _ own7 hm (by decide)).mono ?_
    rintro e w12 ⟨rfl, own7', g12⟩
    have own3 := g12.row own3 HA37.out
    have b4 := g12.blk b4 hn4
    have b7 := g12.blk b7 hn7
    have gg := g12.gr gg (own_gr own7 (by omega))
    have z12 := g12.size
    obtain ⟨n, hn⟩ : ∃ n : Nat, n = 1 + M.length := ⟨_, rfl⟩
    rw [← hn]
    have HN := hidI hn
    have hn2 : n ≤ 20 := by omega
    clear hn own7
    have own7 := own7'
    clear own7'
    go_wp2_with (refine r_load_row 30 _ _ rfl _ _ _ b7 Tryd.underlying30 rfl Tryd.ibinfo rfl ?_)
    refine (heldBoard_any y v7 M.length 1 _ _ own7 hm (by decide)).mono ?_
    rintro e w13 ⟨rfl, g13⟩
    rw [← HN.out]
    have own3 := g13.row own3
    have own7 := g13.row own7
    have b4 := g13.blk b4
    have b7 := g13.blk b7
    have gg := gg.trans g13
    have z13 := g13.size
    go_wp2_with fail
    refine (HB.out _ (gg.ml hml) (gg.ev he)).mono ?_
    rintro e w19 ⟨g19, v19, rfl, own19⟩
    have own3 := g19.row own3
    have own7 := g19.row own7
    have b4 := g19.blk b4
    have b7 := g19.blk b7
    have z19 := g19.size
    have gg := gg.trans g19
    have hone19 := own_one own19
    go_wp2_with (first | ((refine r_alloc 30 _ Tryd.ibzero rfl ?_; intro w20 B20 N20; have g20 := N20.gr; have b20 : Blk w20 B20 (bv 0 (.slice none 0 0)) 30 := N20.blk; have l20 := N20.lo; have t20 := N20.hi; have z20 := g20.size; have b4 := g20.blk b4; have b7 := g20.blk b7; have gg := gg.trans g20; clear N20; obtain ⟨b20_0, b20_1⟩ := bcells b20); have own3 := g20.row own3; have own7 := g20.row own7; have own19 := g20.row own19) | (have hne := own_ne own3 b20 (by decide); have hne7 := own_ne own7 b20 (by decide); have hne19 := own_ne own19 b20 (by decide); (refine r_store_row 30 30 _ _ _ rfl (bv (y) (v19)) _ rfl b20 Tryd.ibsize rfl (bv_one (hone19)) rfl ?_; intro w21 u21 b20'; have z21 := u21.size; have gg := u21.gr gg (by omega); have b4 := u21.blk b4 (by omega); have b7 := u21.blk b7 (by omega); clear b20; have b20 := b20'; clear b20'; obtain ⟨b20_0, b20_1⟩ := bcells b20); have own3 := u21.row own3 hne; have own7 := u21.row own7 hne7; have own19 := u21.row own19 hne19) | (refine r_load_row 30 _ _ rfl _ _ _ b20 Tryd.underlying30 rfl Tryd.ibinfo rfl ?_) | (refine r_load_row 30 _ _ rfl _ _ _ b4 Tryd.underlying30 rfl Tryd.ibinfo rfl ?_))
    refine (eqBoard_same y M v19 v3 _ _ _ own19 own3 hm).mono ?_
    rintro e w22 ⟨rfl, g22⟩
    have own7 := g22.row own7
    have b7 := g22.blk b7
    have gg := gg.trans g22
    go_wp2_with (refine r_load_row 30 _ _ rfl _ _ _ b7 Tryd.underlying30 rfl Tryd.ibinfo rfl ?_)
    refine (heldBoard_any y v7 M.length 1 _ _ own7 hm (by decide)).mono ?_
    rintro e w23 ⟨rfl, g23⟩
    rw [← HN.out]
    have gg := gg.trans g23
    go_wp2
    go_ret
    exact ⟨rfl, gg⟩
  · go_enter Tryd.func4, Tryd.ntmps4
    go_wp2
    go_ret
    exact ⟨rfl, gg⟩
end Go.Proofs.YtpdmfbhjneodeaaDoor
