/-
  A queue: a row of our own whose head is taken off and to whose end is appended. It begins somewhere within its block.
-/
import Derived.Test.YtdebiobhmpoiiaaDoorBLa
import Derived.ArgAppend
namespace Go.Proofs.YtdebiobhmpoiiaaDoor
open Go.RowKit
def QRow (w : World) (base : Nat) (e : TypeId) (v : Value) (xs : List Value) : Prop :=
  ∃ g off cap cur, v = .slice (some ⟨g, off, none⟩) xs.length cap ∧ base ≤ g ∧ w.heap[g]? = some (.cells cur e (0, 0)) ∧ off + cap ≤ cur.size ∧ xs.length ≤ cap ∧ cap ≤ maxLen ∧ ∀ j u, xs[j]? = some u → cur[off + j]? = some u
theorem QRow.of_own {w : World} {base : Nat} {e : TypeId} {g n cap : Nat} {xs : List Value} (h : w.ownsRow base e 1 (.slice (some ⟨g, 0, none⟩) n cap) n xs) : QRow w base e (.slice (some ⟨g, 0, none⟩) n cap) xs := by
  have hl : xs.length = n := by have := h.1; omega
  rcases h.2 with ⟨e', _⟩ | ⟨g', cap', cur, e', hb, hg, hnc, hcm, hcs, ht⟩
  · cases e'
  · cases e'
    refine ⟨g, 0, cap, cur, by rw [hl], hb, hg, by omega, by omega, hcm, fun j u hu => ?_⟩
    rw [Nat.zero_add]
    rw [← ht, List.getElem?_take] at hu
    split at hu
    · simpa using hu
    · cases hu
theorem QRow.lt {w : World} {base : Nat} {e : TypeId} {v : Value} {xs : List Value} (h : QRow w base e v xs) : ∀ k, v.ownBlock = some k → base ≤ k ∧ k < w.heap.size := by
  obtain ⟨g, off, cap, cur, rfl, hb, hg, -⟩ := h
  intro k hk
  obtain rfl : g = k := by simpa [Value.ownBlock] using hk
  exact ⟨hb, Gr.lt hg⟩
theorem QRow.grb {w w' : World} {base : Nat} {e : TypeId} {v : Value} {xs : List Value} {B : Option Nat} (h : QRow w base e v xs) (g : Grb B w w') (hne : v.ownBlock ≠ B) : QRow w' base e v xs := by
  obtain ⟨k, off, cap, cur, rfl, hb, hg, rest⟩ := h
  exact ⟨k, off, cap, cur, rfl, hb, g.keep hg (fun e => hne (by rw [e]; rfl)), rest⟩
theorem QRow.gr {w w' : World} {base : Nat} {e : TypeId} {v : Value} {xs : List Value} (h : QRow w base e v xs) (g : Gr w w') : QRow w' base e v xs := by
  obtain ⟨k, off, cap, cur, rfl, hb, hg, rest⟩ := h
  exact ⟨k, off, cap, cur, rfl, hb, g.keep hg, rest⟩
theorem QRow.upd {w w' : World} {base : Nat} {e : TypeId} {v : Value} {xs : List Value} {B : Nat} (h : QRow w base e v xs) (g : Upd B w w') (hne : v.ownBlock ≠ some B) : QRow w' base e v xs := h.grb g.grb hne
theorem QRow.ne {w : World} {base : Nat} {e : TypeId} {v : Value} {xs : List Value} (h : QRow w base e v xs) {B : Nat} (hB : B < base) : v.ownBlock ≠ some B := fun e => by
  have := (h.lt B e).1
  omega
/-- The head, and what is left. -/
theorem QRow.pop {w : World} {base : Nat} {e : TypeId} {v x : Value} {xs : List Value} (h : QRow w base e v (x :: xs)) :
    ∃ g off cap, v = .slice (some ⟨g, off, none⟩) (xs.length + 1) cap ∧ 1 ≤ cap ∧ w.cell? ⟨g, off, none⟩ = some x ∧
      QRow w base e (.slice (if cap = 1 then some ⟨g, off, none⟩ else some ⟨g, off + 1, none⟩) xs.length (cap - 1)) xs := by
  obtain ⟨g, off, cap, cur, rfl, hb, hg, hs, hc, hm, hx⟩ := h
  rw [List.length_cons] at hc
  have hcell : w.cell? ⟨g, off, none⟩ = some x := by
    rw [cell_of_row w g off cur e (0, 0) hg]
    have := hx 0 x rfl
    simpa using this
  refine ⟨g, off, cap, rfl, by omega, hcell, ?_⟩
  by_cases h1 : cap = 1
  · have hn : xs = [] := List.eq_nil_of_length_eq_zero (by omega)
    subst hn
    rw [if_pos h1]
    exact ⟨g, off, cap - 1, cur, rfl, hb, hg, by omega, Nat.zero_le _, by omega, fun j u hu => by simp at hu⟩
  · rw [if_neg h1]
    refine ⟨g, off + 1, cap - 1, cur, rfl, hb, hg, by omega, by omega, by omega, fun j u hu => ?_⟩
    have := hx (j + 1) u (by simpa using hu)
    rw [show off + 1 + j = off + (j + 1) by omega]
    exact this
section
variable {P : Program} {w : World} {ops : Array Oper} {rest : List Oper} {a : Act} {Q : Exit → Act → World → Prop} {dst : Option Tmp} {ty : TypeId} {pos : String} {aft : Array Edge} {gd : Option (Nat × Bool)}
theorem run_append_q (base : Nat) (t ty e : TypeId) (z : Value) (bytes : Nat) (I : ElemInfo P t e z 1 bytes) (v : Value) (xs : List Value) (hq : QRow w base e v xs) (hbase : base ≤ w.heap.size)
    (ad : Addr) (c : Nat) (u : Value) (hu : w.cell? ad = some u) (h1 : u.oneCell' = true) (h63 : xs.length + 1 ≤ 1073741824) (hbytes : bytes ≤ 65536) :
    ∃ v' w', (Builtin.append_ #[t, t] ty #[v, .slice (some ad) 1 c]).run P w = .ok v' w' ∧ QRow w' base e v' (xs ++ [u]) ∧ w.grownBy w' v.ownBlock ∧ (∀ k, v'.ownBlock = some k → v.ownBlock = some k ∨ w.heap.size ≤ k) := by
  obtain ⟨i, hi, hz, hsize, hby⟩ := info_parts I.info
  obtain ⟨g, off, cap, cur, rfl, hb, hg, hs, hc, hm, hx⟩ := hq
  have hnews : ∀ j x, [u][j]? = some x → w.cell? (ad.add j) = some x := fun j x hj => by
    cases j with
    | zero => simp at hj; subst hj; rw [add_zero']; exact hu
    | succ j => simp at hj
  by_cases hroom : xs.length + 1 ≤ cap
  · have hr := run_append_room_cells (P := P) w t ty e i I.under hi g off xs.length cap ad 1 c [u] (by rw [hsize]; rfl) hnews (by simpa using h1) hroom (fun j hj => by
      have : j = 0 := by simpa using hj
      subst this
      rw [hsize, Nat.mul_one, Nat.add_zero, cell_of_row w g _ cur e (0, 0) hg]
      simp
      omega) (fun j _ => frozen_of_row w g _ cur e hg)
    rw [hsize, Nat.mul_one] at hr
    have e1 : w.setCells g (off + xs.length) [u] = w.setCell ⟨g, off + xs.length, none⟩ u := by simp [World.setCells]
    rw [e1] at hr
    refine ⟨_, _, hr, ⟨g, off, cap, cur.setIfInBounds (off + xs.length) u, by simp, hb, heap_setCell_same w g (off + xs.length) cur e u hg, by simpa using hs, by simpa using hroom, hm, fun j x hj => ?_⟩, ⟨rfl, rfl, rfl, by simp [World.setCell], fun k _ hk => heap_setCell_other w ⟨g, off + xs.length, none⟩ k u (fun e => hk (by rw [e]; rfl))⟩, fun k hk => .inl hk⟩
    rw [Array.getElem?_setIfInBounds]
    rcases Nat.lt_trichotomy j xs.length with h | h | h
    · rw [if_neg (by omega)]
      rw [List.getElem?_append_left h] at hj
      exact hx j x hj
    · subst h
      rw [List.getElem?_append_right (Nat.le_refl _)] at hj
      simp at hj
      subst hj
      rw [if_pos rfl, if_pos (by omega)]
    · rw [List.getElem?_eq_none (by simp; omega)] at hj
      cases hj
  · obtain ⟨v', w', hr, hown, hgr⟩ := run_append_arg_grows (P := P) w t ty e i z 1 bytes I.under hi hz hsize hby I.cells I.pos ⟨g, off, none⟩ xs.length cap xs (by omega) (fun j x hj => by
      rw [add_off, cell_of_row w g _ cur e (0, 0) hg]
      exact hx j x hj) ad 1 c [u] rfl hnews (by omega) (by unfold maxLen; omega) (by
      have : (xs.length + 1) * bytes ≤ 1073741824 * 65536 := Nat.mul_le_mul h63 hbytes
      omega)
    obtain ⟨g2, c2, rfl, hlo, -⟩ := own_shape hown (by omega)
    have hq := QRow.of_own hown
    refine ⟨_, _, hr, ?_, ⟨hgr.os, hgr.tape, hgr.output, hgr.size, fun k hk _ => hgr.block k hk (by simp)⟩, fun k hk => .inr (by
      have e : g2 = k := by simpa [Value.ownBlock] using hk
      rw [← e]
      exact hlo)⟩
    obtain ⟨g3, o3, c3, cur3, e3, a1, a2, a3, a4, a5, a6⟩ := hq
    exact ⟨g3, o3, c3, cur3, e3, by omega, a2, a3, a4, a5, a6⟩
theorem r_append_q (s x : Operand) (t e : TypeId) (z : Value) (bytes base : Nat) (I : ElemInfo P t e z 1 bytes)
    (v : Value) (xs : List Value) (hs : a.eval s = v) (hq : QRow w base e v xs)
    (ad : Addr) (c : Nat) (u : Value) (hx : a.eval x = .slice (some ad) 1 c) (hu : w.cell? ad = some u) (h1 : u.oneCell' = true)
    (h63 : xs.length + 1 ≤ 1073741824) (hbytes : bytes ≤ 65536) (hbase : base ≤ w.heap.size)
    (hgd : Region.wanted ⟨dst, .call { callee := .builtin .append, args := #[s, x], argTypes := #[t, t] }, ty, pos, aft, gd⟩ (yielded ops a.tmps) = true)
    (h : ∀ v' w', QRow w' base e v' (xs ++ [u]) → Grb v.ownBlock w w' → (∀ k, v'.ownBlock = some k → v.ownBlock = some k ∨ w.heap.size ≤ k) → wpList P ops Q rest (a.put dst v') w') :
    wpList P ops Q (⟨dst, .call { callee := .builtin .append, args := #[s, x], argTypes := #[t, t] }, ty, pos, aft, gd⟩ :: rest) a w :=
  wpList_want hgd fun _ hK => by
    obtain ⟨v', w', hr, h2, h3, h4⟩ := run_append_q (P := P) (w := w) base t ty e z bytes I v xs hq hbase ad c u hu h1 h63 hbytes
    unfold Oper.wp execOp
    simp only [resolve, invoke, builtin, Sem.run_bind, Sem.run_pure, Result.andThen_ok, List.map_toArray, List.map_cons, List.map_nil, hs, hx, hr]
    exact hK _ _ (h v' w' h2 ⟨h3⟩ h4)
end
end Go.Proofs.YtdebiobhmpoiiaaDoor
