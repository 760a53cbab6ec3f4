/-
  The stretches of a tray as a list of lists: in the program and in the model, and the law.
-/
import Derived.Test.YtcjmikafomlbiaaDoorTiltV
namespace Go.Proofs.YtcjmikafomlbiaaDoor
open Go.RowKit
def stW (l : List UInt8) (dir : ByteArray) : List (List Int) := if dtOk l dir then zzz (strL (rdG l).w (rdG l).h (rdG l).c (dS dir).toNat) else []
theorem stW_yes {l : List UInt8} {dir : ByteArray} {g : Grid} {d : Nat} (hy : dtOk l dir = true) (hg : rdG l = g) (hd : dS dir = (d : Nat)) : stW l dir = zzz (strL g.w g.h g.c d) := by unfold stW; rw [hy, hg, hd]; rfl
theorem stW_no {l : List UInt8} {dir : ByteArray} (hy : dtOk l dir = false) : stW l dir = [] := by unfold stW; rw [hy]; rfl
theorem total_bound {L : List (List Int)} {b : Nat} (h : ∀ l ∈ L, l.length ≤ b) : total L ≤ b * L.length := by
  induction L with
  | nil => exact Nat.le_refl _
  | cons l L ih =>
    have h1 := ih (fun t ht => h t (by simp [ht]))
    have h2 := h l (by simp)
    have e : total (l :: L) = l.length + total L := by unfold total; simp
    rw [e, List.length_cons, Nat.mul_add]
    omega
theorem stW_le (l : List UInt8) (dir : ByteArray) : (stW l dir).length ≤ 36 ∧ total (stW l dir) ≤ 252 := by
  rcases dt_cases l dir with hn | ⟨g, d, hp, hg, hk, h4, e1, e2, hdo, hy⟩
  · rw [stW_no hn]; decide
  · obtain ⟨hc, -, -, -⟩ := cel_of hp
    rw [stW_yes hy hg e2]
    have hS := hc.strs h4
    have h1 := hS.small
    have h2 := hc.n36
    have h3 := total_bound (L := zzz (strL g.w g.h g.c d)) (b := 7) (fun l hl => by
      unfold zzz at hl
      obtain ⟨s, hs, rfl⟩ := List.mem_map.1 hl
      rw [zz_length]
      exact (hS.len7 s hs).2)
    rw [zzz_length] at h3
    exact ⟨by rw [zzz_length]; omega, by omega⟩
theorem dS_dB' {d : Nat} (h : d < 4) : dS ⟨#[dB d]⟩ = (d : Nat) := by
  rcases dB_cases h with ⟨rfl, e⟩ | ⟨rfl, e⟩ | ⟨rfl, e⟩ | ⟨rfl, e⟩ <;> rfl
end Go.Proofs.YtcjmikafomlbiaaDoor
