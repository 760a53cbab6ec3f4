/-
  How many numbers of a list are different: the program's set of numbers as a map.
-/
import Derived.Test.YtcjmikafomlbiaaGreatDoorCallC
import Derived.Test.YtcjmikafomlbiaaGreatDoorOps
import Derived.Test.YtcjmikafomlbiaaGreatDoorBLs
import Derived.Maps.OwnSet
import Derived.Maps.OwnOps
namespace Go.Proofs.YtcjmikafomlbiaaGreatDoor
open Go.RowKit Go.Maps
/-- How many of the first k numbers are different. -/
def cdT (L : List Int) : Nat → Nat
  | 0 => 0
  | k + 1 => cdT L k + if (L.take k).contains (gi L k) then 0 else 1
theorem cdT_succ (L : List Int) (k : Nat) : cdT L (k + 1) = cdT L k + if (L.take k).contains (gi L k) then 0 else 1 := rfl
theorem cdT_le (L : List Int) (k : Nat) : cdT L k ≤ k := by
  induction k with
  | zero => exact Nat.le_refl _
  | succ k ih => unfold cdT; split <;> omega
/-- All numbers are different exactly if their count is the list's length. -/
theorem cdT_nodup (L : List Int) : ∀ k, k ≤ L.length → (cdT L k = k ↔ (L.take k).Nodup)
  | 0, _ => by simp [cdT]
  | k + 1, hk => by
    have ih := cdT_nodup L k (by omega)
    have hle := cdT_le L k
    have ht : L.take (k + 1) = L.take k ++ [gi L k] := by
      rw [List.take_succ_eq_append_getElem (by omega)]
      unfold gi
      rw [List.getD_eq_getElem?_getD, List.getElem?_eq_getElem (by omega)]
      rfl
    rw [ht, List.nodup_append]
    unfold cdT
    by_cases hc : (L.take k).contains (gi L k) = true
    · rw [if_pos hc]
      constructor
      · intro h; omega
      · intro h
        exact absurd rfl (h.2.2 _ (by simpa using hc) _ (List.mem_singleton.2 rfl))
    · rw [if_neg hc]
      constructor
      · intro h
        refine ⟨ih.1 (by omega), by simp, fun a ha b hb e => hc ?_⟩
        rw [List.mem_singleton] at hb
        rw [← hb, ← e]
        simpa using ha
      · intro h
        rw [ih.2 h.1]
theorem intsV_getM (L : List Int) (k : Nat) (h : k < L.length) : (intsV L)[k]? = some (.int .i64 (gi L k)) := by
  unfold intsV gi
  rw [List.getElem?_map, List.getD_eq_getElem?_getD, List.getElem?_eq_getElem h]
  rfl
theorem Tryz.iixM (g n cap k : Nat) (hk : k < n) (w : World) : (Instr.indexAt 22 (.slice (some ⟨g, 0, none⟩) n cap) (.int .i64 k)).run Tryz.prog w = .ok (.pointer (some ⟨g, k, none⟩)) w := by
  have he : Tryz.prog.elem 22 = 3 := by kernel_rfl
  have hu : Tryz.prog.underlying 22 = some (.slice (Tryz.prog.elem 22)) := by rw [he]; exact Tryz.underlying22
  rw [run_indexAt_slice w 22 ⟨g, 0, none⟩ n cap .i64 k hu, if_pos (by omega), he]
  simp only [Int.toNat_natCast, Tryz.sizeOf3, Result.andThen_ok, add_flat', Nat.mul_one]
theorem Tryz.cdKeyed : Keyed Tryz.prog 3 := int_keyed Tryz.underlying3
/-- Block B is a map with the first k numbers as its keys. -/
def MapZ (w : World) (B : Nat) (L : List Int) (k : Nat) : Prop :=
  ∃ D : DataW Unit, w.ownsMap Tryz.prog 3 (plainElem Tryz.prog 4) B k D ∧ Maps.size D = cdT L k ∧ ∀ z : Int, Maps.has D (.int .i64 z) = (L.take k).contains z
theorem MapZ.made (w : World) (L : List Int) : MapZ (w.alloc (.map #[] 0)) w.heap.size L 0 :=
  ⟨_, World.ownsMap_made _ _ _ _, rfl, fun _ => rfl⟩
theorem MapZ.gr {w w' : World} {B : Nat} {L : List Int} {k : Nat} (h : MapZ w B L k) (g : Gr w w') : MapZ w' B L k := by
  obtain ⟨D, hown, h1, h2⟩ := h
  exact ⟨D, hown.kept (g.grb none).g (by simp), h1, h2⟩
theorem MapZ.put {w : World} {B : Nat} {L : List Int} {k : Nat} (h : MapZ w B L k) (hk : k < L.length) (hl : L.length ≤ 1000) (hw : (Lit.int .i64 (gi L k)).wf = true) :
    ∃ w', (Instr.mapUpdate 76 (.map (some B)) (.int .i64 (gi L k)) (.bool true)).run Tryz.prog w = .ok () w' ∧ (MapZ w' B L (k + 1) ∧ Grb (some B) w w') := by
  obtain ⟨D, hown, hsz, hh⟩ := h
  have hkey := keyOf_int_mk Tryz.underlying3 hw
  obtain ⟨w', hrun, hown', hg⟩ := hown.update Tryz.cdKeyed Tryz.underlying76 (by unfold maxLen; omega) hkey (plainElem_bool Tryz.underlying4 true)
  have ht : L.take (k + 1) = L.take k ++ [gi L k] := by
    rw [List.take_succ_eq_append_getElem hk]
    unfold gi
    rw [List.getD_eq_getElem?_getD, List.getElem?_eq_getElem hk]
    rfl
  refine ⟨w', hrun, ⟨_, hown', ?_, fun z => ?_⟩, ⟨hg⟩⟩
  · rw [Maps.size_put (hown.tidy Tryz.cdKeyed), hh, hsz, cdT_succ]
    split <;> rfl
  · rw [ht]
    by_cases e : z = gi L k
    · subst e
      rw [Maps.has_put_same hown.isMap (Tryz.cdKeyed.key hkey)]
      simp
    · rw [Maps.has_put_other (fun h => e (by injection h)), hh]
      rw [Bool.eq_iff_iff, List.contains_iff_mem, List.contains_iff_mem, List.mem_append, List.mem_singleton]
      exact ⟨.inl, fun h => h.resolve_right e⟩
theorem MapZ.len {w : World} {B : Nat} {L : List Int} {k : Nat} (h : MapZ w B L k) (ty : TypeId) : (Builtin.len_ #[76] ty #[.map (some B)]).run Tryz.prog w = .ok (.int .i64 (cdT L k : Nat)) w := by
  obtain ⟨D, hown, hsz, -⟩ := h
  rw [hown.len Tryz.underlying76 ty, hsz]
set_option maxHeartbeats 800000 in
set_option maxRecDepth 100000 in
theorem countDiff_any (L : List Int) (base : Nat) (sl : Value) (w : World) (hl : L.length ≤ 1000) (hown : w.ownsRow base 3 1 sl L.length (intsV L)) (hw : ∀ k, k < L.length → (Lit.int .i64 (gi L k)).wf = true) :
    Calls Tryz.prog 28 #[sl] w (Ret (.int .i64 (cdT L L.length : Nat)) w) := by
  have gg := Gr.refl w
  have HI := hidI (fun k (hk : k < L.length) => intsV_getM L k hk)
  have HWF := hidI hw
  have HPU := hidI (fun (w : World) (B k : Nat) (m : MapZ w B L k) (hk : k < L.length) => m.put hk hl (hw k hk))
  obtain ⟨N, hN⟩ : ∃ N, N = L.length := ⟨_, rfl⟩
  rw [← hN] at hown hl HI HPU ⊢
  clear hN hw
  obtain ⟨p, cap, rfl⟩ : ∃ p k, sl = .slice p N k := by
    obtain ⟨_, ⟨rfl, h0⟩ | ⟨g, cap, cur, rfl, _⟩⟩ := hown
    · exact ⟨none, 0, by rw [h0]⟩
    · exact ⟨_, _, rfl⟩
  go_enter Tryz.func28, Tryz.ntmps28
  go_wp2_with (refine r_mkmap 76 rfl ?_; intro w3 B3 hw3 hB3; have g3 : Gr w w3 := (by rw [hw3]; exact (Gr.refl _).alloc _); have mp : MapZ w3 B3 L 0 := (by rw [hw3, hB3]; exact MapZ.made w L); have lo3 : w.heap.size ≤ B3 := (by rw [hB3]; exact Nat.le_refl _); have own := g3.row hown; have gg := gg.trans g3; clear hw3 hB3)
  go_loopw [9] (fun iv wr => ∃ k : Nat, k ≤ N ∧ iv = .int .i64 k ∧ MapZ wr B3 L k ∧ wr.ownsRow base 3 1 (.slice p N cap) N (intsV L) ∧ Gr w wr) (fun iv _ => N - (intOf iv).toNat)
  case atStart => exact ⟨0, Nat.zero_le _, rfl, mp, own, gg⟩
  case round =>
    clear mp own gg
    obtain ⟨k, hk, rfl, mp, own, gg⟩ := hrel
    by_cases hlt : k < N
    · obtain ⟨G, cap', he, -, -⟩ := own_shape own (by omega)
      obtain ⟨rfl, rfl⟩ : p = some ⟨G, 0, none⟩ ∧ cap = cap' := by
        simp only [Value.slice.injEq] at he
        exact ⟨he.1, he.2.2⟩
      have hcell := (own.cellAt k (by omega)).trans (HI.out k hlt)
      have HP := hidI (fun (w : World) (m : MapZ w B3 L k) => HPU.out w B3 k m hlt)
      obtain ⟨z, hz⟩ : ∃ z, z = gi L k := ⟨_, rfl⟩
      rw [← hz] at hcell HP
      obtain ⟨es, c, hB⟩ : ∃ es c, _ = some (Obj.map es c) := (by obtain ⟨D, ⟨es, c, hb, _⟩, _⟩ := mp; exact ⟨es, c, hb⟩)
      have hne := own_ne_obj own hB
      clear he hz hB
      go_wp2_with (first | (refine r_idx 22 _ _ (.slice (some ⟨G, 0, none⟩) N cap) (.int .i64 k) _ rfl rfl (Tryz.iixM G N cap k hlt _) rfl ?_) | (refine r_ldc 3 _ ⟨G, k, none⟩ (.int .i64 z) rfl (Tryz.isAgg3 _) hcell rfl ?_) | (refine r_mapup 76 (.tmp 13) (.tmp 14) (.const (.bool true)) (.map (some B3)) (.int .i64 z) (.bool true) _ rfl rfl rfl (HP.out _ mp) rfl ?_; rintro w5 ⟨mp5, g5⟩))
      go_roundw
      case rel => exact ⟨k + 1, by omega, by go_num, mp5, g5.row own (.inr hne), g5.gr gg (fun x e => by cases e; exact lo3)⟩
      case measure => simp [intOf]; omega
    · obtain rfl : k = N := by omega
      have hlen := mp.len
      clear hlt
      go_wp2
      go_ret
      exact ⟨rfl, gg⟩
end Go.Proofs.YtcjmikafomlbiaaGreatDoor
