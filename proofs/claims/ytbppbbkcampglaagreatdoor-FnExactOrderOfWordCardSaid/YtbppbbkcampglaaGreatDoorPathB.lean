/-
  The cells of a ball before and behind each tilt of a word: in the program and in the model, and the law.
-/
import Derived.Test.YtbppbbkcampglaaGreatDoorTiltY
import Derived.Test.YtbppbbkcampglaaGreatDoorPlace
namespace Go.Proofs.YtbppbbkcampglaaGreatDoor
open Go.RowKit
def poX (g : Grid) (b : UInt8) (s : ByteArray) (j : Nat) : Int := ixC (runG ((wds s).take j) g).c b 36
def poT (g : Grid) (b : UInt8) (s : ByteArray) (j : Nat) : List Int := (List.range (j + 1)).map (poX g b s)
theorem poT_succ (g : Grid) (b : UInt8) (s : ByteArray) (j : Nat) : poT g b s (j + 1) = poT g b s j ++ [poX g b s (j + 1)] := by
  unfold poT
  rw [List.range_succ, List.map_append]
  rfl
theorem poT_length (g : Grid) (b : UInt8) (s : ByteArray) (j : Nat) : (poT g b s j).length = j + 1 := by simp [poT]
theorem poT_zero (g : Grid) (b : UInt8) (s : ByteArray) : poT g b s 0 = [ixC g.c b 36] := rfl
def poOk (l : List UInt8) (n v : ByteArray) : Bool := rdOk l && nameS n && wordB v && decide (0 ≤ ixC (rdG l).c (hd n) 36)
def poL (l : List UInt8) (n v : ByteArray) : List Int := if poOk l n v then poT (rdG l) (hd n) v v.size else []
theorem po_no {l : List UInt8} {n v : ByteArray} (h : poOk l n v = false) : poL l n v = [] := by unfold poL; rw [h]; rfl
theorem poL_le (l : List UInt8) (n v : ByteArray) : (poL l n v).length ≤ 41 := by
  unfold poL
  cases h : poOk l n v
  · exact Nat.zero_le _
  · rw [if_pos rfl, poT_length]
    unfold poOk at h
    rw [Bool.and_eq_true, Bool.and_eq_true] at h
    have := (wordB_iff.1 h.1.2).1
    omega
theorem ixC_ge (c : List UInt8) (b : UInt8) (n : Nat) : -1 ≤ ixC c b n ∧ ixC c b n ≤ n := by
  rcases ixC_cases c b n with ⟨h, -⟩ | ⟨k, hk, h, -, -⟩ <;> omega
def RetP (T : TypeId) (L : List Int) (ok : Bool) (w : World) (e : Ending) (w' : World) : Prop :=
  Gr w w' ∧ ∃ v, e = .returned (.tuple #[v, .bool ok]) ∧ w'.ownsRow w.heap.size T 1 v L.length (intsV L)
theorem byte_at {s : ByteArray} {j : Nat} (h : j < s.size) : s[j]'h = at0 s.data.toList j := by
  rw [ByteArray.getElem_eq_getElem_data]
  show _ = s.data.toList.getD j 0
  rw [List.getD_eq_getElem?_getD, List.getElem?_eq_getElem (by rw [show s.data.toList.length = s.size from Array.length_toList]; exact h)]
  simp
theorem nameB_iff {b : UInt8} : isNameB b = true ↔ 97 ≤ (b.toNat : Int) ∧ (b.toNat : Int) ≤ 102 := by
  unfold isNameB
  rw [Bool.and_eq_true, decide_eq_true_eq, decide_eq_true_eq, UInt8.le_iff_toNat_le, UInt8.le_iff_toNat_le]
  have h1 : (97 : UInt8).toNat = 97 := rfl
  have h2 : (102 : UInt8).toNat = 102 := rfl
  omega
theorem own_neF {w : World} {base : Nat} {e : TypeId} {size : Nat} {v : Value} {n : Nat} {xs : List Value} (hr : w.ownsRow base e size v n xs) {B : Nat} {cs : Array Value} {T : TypeId} {fr : Nat × Nat} (hB : w.heap[B]? = some (.cells cs T fr)) (hT : T ≠ e) : v.ownBlock ≠ some B := by
  obtain ⟨_, ⟨rfl, _⟩ | ⟨g, cap, cur, rfl, _, hg, _⟩⟩ := hr
  · intro h; cases h
  · intro h
    obtain rfl : g = B := by simpa [Value.ownBlock] using h
    rw [hB] at hg
    injection hg with hg
    injection hg with _ he _
    exact hT he
set_option maxHeartbeats 1000000 in
set_option maxRecDepth 100000 in
theorem tiPlace_any (W H : Int) (base : Nat) (c : List UInt8) (b : UInt8) (G cap : Nat) (w : World) (h36 : c.length ≤ 36) (hown : w.ownsRow base 5 1 (.slice (some ⟨G, 0, none⟩) c.length cap) c.length (cellsV c)) :
    Calls Tryz.prog 100 #[.agg (tg W H (.slice (some ⟨G, 0, none⟩) c.length cap)), .int .u8 b.toNat] w (Ret (.int .i64 (ixC c b c.length)) w) := by
  have gg := Gr.refl w
  go_enter Tryz.func100, Tryz.ntmps100
  go_wp2_with (refine r_box 50 _ (tg (W) (H) (.slice (some ⟨G, 0, none⟩) c.length cap)) rfl rfl ?_; intro w1 B1 N1; have g1 := N1.gr; have b1 : Blk w1 B1 (tg (W) (H) (.slice (some ⟨G, 0, none⟩) c.length cap)) 50 := N1.blk; have l1 := N1.lo; have t1 := N1.hi; have z1 := g1.size; have gg := gg.trans g1; clear N1; obtain ⟨b1_0, b1_1, b1_2⟩ := tcells b1)
  have own := g1.row hown
  go_loop [5, 6, 10] (fun _ _ i => ∃ k : Nat, k ≤ c.length ∧ i = .int .i64 k ∧ Hid (∀ j, j < k → at0 c j ≠ b)) (fun _ _ i => c.length - (intOf i).toNat)
  case atStart => exact ⟨0, Nat.zero_le _, rfl, fun j hj => by omega⟩
  case round =>
    obtain ⟨k, hk, rfl, HA⟩ := hrel
    by_cases hlt : k < c.length
    · have hck := own_cell own k hlt rfl
      have hix := Tryz.six0 G c.length cap k hlt
      by_cases hb : at0 c k = b
      · have e1 := beq_byte hb
        have HV := hidI (ixC_some hlt hb HA.out)
        clear hb
        go_wp2
        go_ret
        exact ⟨ret_int HV.out.symm, gg⟩
      · have e1 := bne_byte hb
        have HB := hidI hb
        clear hb
        go_wp2
        go_round
        case rel => exact ⟨k + 1, by omega, by go_num, fun j hj => if h : j < k then HA.out j h else by rw [show j = k by omega]; exact HB.out⟩
        case measure => simp [intOf]; omega
    · obtain rfl : k = c.length := by omega
      have HV := hidI (ixC_none HA.out)
      clear hlt
      go_wp2
      go_ret
      exact ⟨ret_int HV.out.symm, gg⟩
end Go.Proofs.YtbppbbkcampglaaGreatDoor
