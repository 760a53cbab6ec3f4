/-
  A call that leaves nobody behind leaves nobody behind who is more than leaving.
-/
import Derived.Test.YtcjmikafomlbiaaRowKit
import Derived.Conc.Holds
namespace Go.Proofs.Ytcjmikafomlbiaa
open Go.RowKit
theorem leaving_of_alone {P : Program} {m : Machine} {w : World} {t : Trace} (h : aloneAtReturn P m w t) : leavingAtReturn P m w t := by
  obtain ⟨⟨h1, h2⟩, h3, h4⟩ := h
  refine ⟨h3, ⟨fun g hg => Leave.done P g ?_, h2⟩, h4⟩
  unfold Machine.othersDone at h1
  have := List.all_eq_true.1 h1 g hg
  revert this
  cases g.status <;> simp
theorem leaving_of_handed {a : Assume} {C : Checked} {os : Os} {f : FuncId} {r : Reach} {Pre : World → Array Value → Prop} {Post : World → Array Value → Value → World → Prop} (h : ReturnsInHanded a C os f r Pre Post) : ReturnsInLeavingWide a C os f r Pre Post :=
  fun enter => ReturnsInOpen.mono (fun _ _ _ x => leaving_of_alone x) (fun _ x => x) (h enter)
end Go.Proofs.Ytcjmikafomlbiaa
