/-
  Rules of my own on slices that a call makes itself: appending, new short slices, single cells loaded and stored.
-/
import Derived.Test.YthjkeohnjggmiaaDoorDraws
namespace Go.Proofs.YthjkeohnjggmiaaDoor
open Go.RowKit
section
variable {P : Program} {w : World} {ops : Array Oper} {rest : List Oper} {a : Act} {Q : Exit → Act → World → Prop} {dst : Option Tmp} {ty : TypeId} {pos : String} {aft : Array Edge} {gd : Option (Nat × Bool)}

/-- What the table says of an element type. -/
structure ElemInfo (P : Program) (t e : TypeId) (z : Value) (size bytes : Nat) : Prop where
  under : P.underlying t = some (.slice e)
  info : (P.info? e).map (fun i => (i.zero, i.size, i.bytes)) = some (some z, size, bytes)
  cells : z.cells.size = size
  pos : 0 < size

/-- w' is w but for new blocks and for block B (where it is told). -/
structure Grb (B : Option Nat) (w w' : World) : Prop where
  g : w.grownBy w' B
theorem Grb.size {B : Option Nat} {w w' : World} (h : Grb B w w') : w.heap.size ≤ w'.heap.size := h.g.size
theorem Grb.keep {B : Option Nat} {w w' : World} (h : Grb B w w') {k : Nat} {o : Obj} (hk : w.heap[k]? = some o) (hne : B ≠ some k) : w'.heap[k]? = some o :=
  (h.g.block k (Gr.lt hk) (fun e => hne e.symm)).trans hk
theorem Grb.blk {B : Option Nat} {w w' : World} (h : Grb B w w') {k : Nat} {cs : Array Value} {T : TypeId} (hk : Blk w k cs T) (hne : B ≠ some k) : Blk w' k cs T := h.keep hk hne
theorem Grb.own {B : Option Nat} {w w' : World} (h : Grb B w w') {k : Nat} {o : Obj} (hk : Own w k o) (hne : B ≠ some k) : Own w' k o := h.keep hk hne
theorem Grb.gr {B : Option Nat} {w0 w w' : World} (h : Grb B w w') (hg : Gr w0 w) (hB : ∀ k, B = some k → w0.heap.size ≤ k) : Gr w0 w' := Below.grown hg h.g hg.size hB
theorem Grb.row {B : Option Nat} {w w' : World} (h : Grb B w w') {base : Nat} {e : TypeId} {size : Nat} {v : Value} {n : Nat} {xs : List Value} (hr : w.ownsRow base e size v n xs) (hne : v.ownBlock = none ∨ v.ownBlock ≠ B) : w'.ownsRow base e size v n xs := hr.kept h.g hne

theorem Upd.row {B : Nat} {w w' : World} (h : Upd B w w') {base : Nat} {e : TypeId} {size : Nat} {v : Value} {n : Nat} {xs : List Value} (hr : w.ownsRow base e size v n xs) (hne : v.ownBlock ≠ some B) : w'.ownsRow base e size v n xs := by
  obtain ⟨h1, h2 | ⟨g, cap, cur, rfl, b, c, d⟩⟩ := hr
  · exact ⟨h1, .inl h2⟩
  · exact ⟨h1, .inr ⟨g, cap, cur, rfl, b, h.keep c (fun e => hne (by rw [← e]; rfl)), d⟩⟩
theorem own_gr {w0 w : World} {base : Nat} {e : TypeId} {size : Nat} {v : Value} {n : Nat} {xs : List Value} (hr : w.ownsRow base e size v n xs) (hb : w0.heap.size ≤ base) : ∀ k, v.ownBlock = some k → w0.heap.size ≤ k :=
  fun k hk => Nat.le_trans hb (hr.lt k hk).1
/-- A row of one element type is no block of another. -/
theorem own_ne {w : World} {base : Nat} {e : TypeId} {size : Nat} {v : Value} {n : Nat} {xs : List Value} (hr : w.ownsRow base e size v n xs) {B : Nat} {cs : Array Value} {T : TypeId} (hB : Blk w B cs T) (hT : T ≠ e) : v.ownBlock ≠ some B := by
  obtain ⟨_, ⟨rfl, _⟩ | ⟨g, cap, cur, rfl, _, hg, _⟩⟩ := hr
  · intro h; cases h
  · intro h
    obtain rfl : g = B := by simpa [Value.ownBlock] using h
    unfold Blk at hB
    rw [hB] at hg
    cases hg
    exact hT rfl
theorem own_below {w : World} {base : Nat} {e : TypeId} {size : Nat} {v : Value} {n : Nat} {xs : List Value} (hr : w.ownsRow base e size v n xs) {B : Nat} (hB : B < base) : v.ownBlock ≠ some B := by
  intro h
  have := (hr.lt B h).1
  omega

theorem own_shape {w : World} {base : Nat} {e : TypeId} {size : Nat} {v : Value} {n : Nat} {xs : List Value} (hr : w.ownsRow base e size v n xs) (hn : 0 < n) : ∃ g cap, v = .slice (some ⟨g, 0, none⟩) n cap ∧ base ≤ g ∧ n ≤ cap := by
  obtain ⟨_, ⟨_, h0⟩ | ⟨g, cap, cur, rfl, b, _, d, _⟩⟩ := hr
  · omega
  · exact ⟨g, cap, rfl, b, d⟩
theorem r_append (s x : Operand) (t e : TypeId) (z : Value) (size bytes base : Nat) (I : ElemInfo P t e z size bytes)
    (v : Value) (n : Nat) (xs : List Value) (hs : a.eval s = v) (hown : w.ownsRow base e size v n xs)
    (ad : Addr) (m c : Nat) (news : List Value) (hx : a.eval x = .slice (some ad) m c) (hl : news.length = m * size) (hnews : ∀ j u, news[j]? = some u → w.cell? (ad.add j) = some u) (h1 : ∀ u ∈ news, u.oneCell' = true)
    (h63 : n + m ≤ 1073741824) (hbytes : bytes ≤ 65536) (hbase : base ≤ w.heap.size)
    (hgd : Region.wanted ⟨dst, .call { callee := .builtin .append, args := #[s, x], argTypes := #[t, t] }, ty, pos, aft, gd⟩ (yielded ops a.tmps) = true)
    (h : ∀ v' w', w'.ownsRow base e size v' (n + m) (xs ++ news) → Grb v.ownBlock w w' → wpList P ops Q rest (a.put dst v') w') :
    wpList P ops Q (⟨dst, .call { callee := .builtin .append, args := #[s, x], argTypes := #[t, t] }, ty, pos, aft, gd⟩ :: rest) a w := by
  obtain ⟨i, hi, hz, hsize, hby⟩ := info_parts I.info
  refine wpList_want hgd fun _ hK => wp_append_own w s x t rfl base e i z size bytes I.under hi hz hsize hby I.cells I.pos v n xs hs hown ad m c news hx hl hnews h1 ?_ ?_ hbase fun v' w' h2 h3 _ => hK _ _ (h v' w' h2 ⟨h3⟩)
  · unfold maxLen; omega
  · have : (n + m) * bytes ≤ 1073741824 * 65536 := Nat.mul_le_mul h63 hbytes
    omega

/-- A slice of one element, written out. -/
theorem r_slice1 (t e : TypeId) (x : Operand) (u : Value) (hx : a.eval x = u)
    (hr : (Instr.buildSlice t 1 #[(0, u)]).run P w = .ok (.slice (some ⟨w.heap.size, 0, none⟩) 1 1) (w.alloc (.cells #[u] e)))
    (hgd : Region.wanted ⟨dst, .buildSlice t 1 #[(0, x)], ty, pos, aft, gd⟩ (yielded ops a.tmps) = true)
    (h : ∀ w1 B, New w w1 B #[u] e → wpList P ops Q rest (a.put dst (.slice (some ⟨B, 0, none⟩) 1 1)) w1) :
    wpList P ops Q (⟨dst, .buildSlice t 1 #[(0, x)], ty, pos, aft, gd⟩ :: rest) a w :=
  wpList_want hgd fun _ hK => by
    unfold Oper.wp execOp
    simp only [List.map_toArray, List.map_cons, List.map_nil, hx, Sem.run_bind, hr, Result.andThen_ok, Sem.run_pure, Oper.upon]
    exact hK _ _ (h _ _ (New.mk' w _ e))

theorem New.cell1 {w w1 : World} {B : Nat} {u : Value} {e : TypeId} (h : New w w1 B #[u] e) : ∀ (j : Nat) v, [u][j]? = some v → w1.cell? ((⟨B, 0, none⟩ : Addr).add j) = some v := by
  intro j v hj
  cases j with
  | zero => simp at hj; subst hj; exact (Blk.cell h.blk 0)
  | succ j => simp at hj

/-- One cell of a known block is written. -/
theorem r_store_cell (T t : TypeId) (p x : Operand) (B off : Nat) (hp : a.eval p = .pointer (some ⟨B, off, none⟩)) (u : Value) (hx : a.eval x = u) (cs : Array Value)
    (hB : Blk w B cs t) (hoff : off < cs.size) (hs : ∀ w, (sizeOf T).run P w = .ok 1 w) (h1 : u.oneCell' = true)
    (hgd : Region.wanted ⟨dst, .store T p x, ty, pos, aft, gd⟩ (yielded ops a.tmps) = true)
    (h : ∀ w1, Upd B w w1 → Blk w1 B (cs.setIfInBounds off u) t → wpList P ops Q rest (a.put dst undef) w1) : wpList P ops Q (⟨dst, .store T p x, ty, pos, aft, gd⟩ :: rest) a w :=
  wpList_want hgd fun _ hK => by
    have hc : u.cells = #[u] := by cases u <;> first | rfl | cases h1
    have hrun : (Instr.storeAt T (.pointer (some ⟨B, off, none⟩)) u).run P w = .ok () (w.setCell ⟨B, off, none⟩ u) := by
      have hst := run_storeCells_cells (P := P) B off [u] 0 w (fun j hj => by
        have : j = 0 := by simpa using hj
        subst this
        rw [show off + 0 + 0 = off from rfl, hB.cell off]
        simp [hoff]) (fun j _ => hB.free _) (by simpa using h1)
      unfold Instr.storeAt storeVar
      simp only [Instr.sureAddr, Sem.run_bind, Sem.run_pure, Result.andThen_ok, hs w, hc]
      simpa [World.setCells] using hst
    unfold Oper.wp execOp
    simp only [hp, hx, Sem.run_bind, hrun, Result.andThen_ok, Sem.run_pure, Oper.upon]
    exact hK _ _ (h _ (Upd.setCell w ⟨B, off, none⟩ u) (heap_setCell_same w B off cs t u hB))

/-- The run of a load of one cell. -/
theorem e_load (T : TypeId) (x : Operand) (A : Addr) (v : Value) (hx : a.eval x = .pointer (some A)) (hg : (isAgg T).run P w = .ok false w) (hc : w.cell? A = some v) :
    (execOp a.eval ⟨dst, .load T x, ty, pos, aft, gd⟩).run P w = .ok (.value v) w := by
  unfold execOp Instr.loadAt loadVar
  simp only [hx, Instr.sureAddr, Sem.run_bind, Sem.run_pure, Result.andThen_ok, hg]
  simp [load, Sem.run, hc, Result.andThen]
theorem e_val (s : Sem Value) (v : Value) (hs : s.run P w = .ok v w) : ((do pure (Next.value (← s))) : Sem Next).run P w = .ok (.value v) w := by
  simp only [Sem.run_bind, hs, Result.andThen_ok, Sem.run_pure]
end
end Go.Proofs.YthjkeohnjggmiaaDoor
