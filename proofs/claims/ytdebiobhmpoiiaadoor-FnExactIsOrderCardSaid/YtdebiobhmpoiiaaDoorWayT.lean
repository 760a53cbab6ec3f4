/-
  Ways through a tray: the search from a cell, in the model.
-/
import Derived.Test.YtdebiobhmpoiiaaDoorWayS
import Derived.Test.YtdebiobhmpoiiaaDoorWayN
namespace Go.Proofs.YtdebiobhmpoiiaaDoor
open Go.RowKit
theorem QRow.shape {w : World} {base : Nat} {e : TypeId} {v : Value} {xs : List Value} (h : QRow w base e v xs) :
    ∃ g off cap, v = .slice (some ⟨g, off, none⟩) xs.length cap ∧ ∀ j u, xs[j]? = some u → w.cell? ⟨g, off + j, none⟩ = some u := by
  obtain ⟨g, off, cap, cur, rfl, hb, hg, hs, hc, hm, hx⟩ := h
  exact ⟨g, off, cap, rfl, fun j u hu => by rw [cell_of_row w g _ cur e (0, 0) hg]; exact hx j u hu⟩
theorem own_neQ {w : World} {b1 b2 : Nat} {e1 e2 : TypeId} {s1 n1 : Nat} {v1 v2 : Value} {x1 x2 : List Value} (h1 : w.ownsRow b1 e1 s1 v1 n1 x1) (h2 : QRow w b2 e2 v2 x2) (he : e1 ≠ e2) : v1.ownBlock = none ∨ v1.ownBlock ≠ v2.ownBlock := by
  obtain ⟨g2, o2, c2, cur2, rfl, -, hg2, -⟩ := h2
  obtain ⟨-, ⟨rfl, -⟩ | ⟨g1, c1, cur1, rfl, -, hg1, -⟩⟩ := h1
  · exact .inl rfl
  · refine .inr fun e => ?_
    have e3 : g1 = g2 := by simpa [Value.ownBlock] using e
    rw [e3, hg2] at hg1
    cases hg1
    exact he rfl
theorem natsI_get {q : List Nat} {k n : Nat} (h : q[k]? = some n) : (intsV (natsI q))[k]? = some (.int .i64 n) := by
  unfold intsV natsI
  rw [List.getElem?_map, List.getElem?_map, h]
  rfl
theorem own_of_blk {w : World} {G n base : Nat} {T : TypeId} {L : List Int} (h : Blk w G (intsV L).toArray T) (hl : L.length = n) (hb : base ≤ G) (hn : n ≤ 1073741824) : w.ownsRow base T 1 (.slice (some ⟨G, 0, none⟩) n n) n (intsV L) := by
  subst hl
  exact ⟨by simp [intsV], .inr ⟨G, _, _, rfl, hb, h, Nat.le_refl _, by unfold maxLen; omega, by simp [intsV], List.take_of_length_le (by simp [intsV])⟩⟩
theorem own_ne3 {w : World} {b1 b2 : Nat} {e1 e2 : TypeId} {s1 s2 : Nat} {v1 v2 : Value} {n1 n2 : Nat} {x1 x2 : List Value} (h1 : w.ownsRow b1 e1 s1 v1 n1 x1) (h2 : w.ownsRow b2 e2 s2 v2 n2 x2) (he : e1 ≠ e2) {B : Nat} (hB : v2.ownBlock = some B) : v1.ownBlock ≠ some B := by
  rcases own_ne2 h1 h2 he with h | h
  · rw [h]; intro e; cases e
  · rw [← hB]; exact h
theorem repI_set {n k : Nat} (h : k < n) : (intsV (repI n k)).set k (.int .i64 (-1)) = intsV (repI n (k + 1)) := by
  have e0 : intsV (repI n k) = List.replicate k (Value.int .i64 (-1)) ++ List.replicate (n - k) (Value.int .i64 0) := by simp [intsV, repI]
  have e1 : intsV (repI n (k + 1)) = List.replicate k (Value.int .i64 (-1)) ++ [Value.int .i64 (-1)] ++ List.replicate (n - (k + 1)) (Value.int .i64 0) := by simp [intsV, repI, List.replicate_succ']
  rw [e0, e1, List.set_append_right _ _ (by simp), show n - k = (n - (k + 1)) + 1 by omega, List.replicate_succ]
  simp
end Go.Proofs.YtdebiobhmpoiiaaDoor
