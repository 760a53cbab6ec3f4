/-
  A rule for regions of which two operations may come up.
-/
import Derived.Test.YtpdmfbhjneodeaaGreatDoorBKit
namespace Go.Proofs.YtpdmfbhjneodeaaGreatDoor
open Go.RowKit
section
variable {P : Program} {md : Region.Mode} {Q : Exit → Act → World → Prop} {F : World → Prop} {k : Nat}
/-- Two may come up. -/
theorem F_two {L : List Oper} (i j : Nat) (li lj : Array Bool) {oi oj : Oper} {n : Nat} {l : Array Bool} {a : Act} {w : World} (hi : nthOp L i = some oi) (hj : nthOp L j = some oj)
    (hr : (decide (Region.ready md L.toArray l = [i, j]) && decide (l.setIfInBounds i true = li) && decide (l.setIfInBounds j true = lj)) = true)
    (h1 : wpList P L.toArray (Exit.then (fun a' w' => (li.getD k true = false → F w') ∧ AnyF P md L.toArray Q F k n li a' w') Q) [oi] a w)
    (h2 : wpList P L.toArray (Exit.then (fun a' w' => (lj.getD k true = false → F w') ∧ AnyF P md L.toArray Q F k n lj a' w') Q) [oj] a w) : AnyF P md L.toArray Q F k (n + 1) l a w := by
  simp only [Bool.and_eq_true, decide_eq_true_eq] at hr
  obtain ⟨⟨hr, e1⟩, e2⟩ := hr
  subst e1
  subst e2
  refine ⟨fun h0 => by (rw [hr] at h0; cases h0), ?_⟩
  have key : ∀ (m : Nat) (o : Oper), nthOp L m = some o → wpList P L.toArray (Exit.then (fun a' w' => ((l.setIfInBounds m true).getD k true = false → F w') ∧ AnyF P md L.toArray Q F k n (l.setIfInBounds m true) a' w') Q) [o] a w →
      wpOp P L.toArray Q m (fun a' w' => ((l.setIfInBounds m true).getD k true = false → F w') ∧ AnyF P md L.toArray Q F k n (l.setIfInBounds m true) a' w') a w := by
    intro m o hm h
    unfold wpOp
    simp only [nthOp_get L m hm]
    unfold wpList at h
    split at h
    · rename_i hw
      rw [if_pos hw]
      rcases h with h | ⟨h1, h2⟩
      · exact .inl (wp_then h)
      · exact .inr ⟨h1, h2⟩
    · rename_i hw
      rw [if_neg hw]
      exact h
  intro m hm
  rw [hr] at hm
  rcases (by simpa using hm : m = i ∨ m = j) with rfl | rfl
  · exact key _ _ hi h1
  · exact key _ _ hj h2
end
end Go.Proofs.YtpdmfbhjneodeaaGreatDoor
