/-
  The text of a board in the program: numbers joined.
-/
import Derived.Test.YtdebiobhmpoiiaaDoorBtxP
import Derived.Test.YtdebiobhmpoiiaaDoorListsT
import Derived.Test.YtdebiobhmpoiiaaDoorBBa
import Derived.Lib.AtoiAllCases
namespace Go.Proofs.YtdebiobhmpoiiaaDoor
open Go.RowKit
def natB : Value → Nat
  | .int _ n => n.toNat
  | _ => 0
theorem e_idxB {P : Program} {w : World} {a : Act} {dst : Option Tmp} {ty T : TypeId} {pos : String} {aft : Array Edge} {gd : Option (Nat × Bool)} (x y : Operand) (v i u : Value) (hx : a.eval x = v) (hy : a.eval y = i) (hr : (Instr.indexAt T v i).run P w = .ok u w) :
    (execOp a.eval ⟨dst, .indexAddr T x y, ty, pos, aft, gd⟩).run P w = .ok (.value u) w := by
  unfold execOp
  simp only [hx, hy, Sem.run_bind, hr, Result.andThen_ok, Sem.run_pure]
theorem own_slB {w : World} {base n : Nat} {e : TypeId} {v : Value} {xs : List Value} (h : w.ownsRow base e 1 v n xs) : ∃ p k, v = .slice p n k := by
  obtain ⟨p, m, k, rfl⟩ := own_slice h
  obtain rfl : m = n := own_len h
  exact ⟨p, k, rfl⟩
/-- Texts that are owned, joined. -/
theorem joinRow_any (M : List (List UInt8)) (s : UInt8) (v : Value) (base : Nat) (w : World) (hown : w.ownsRow base 9 1 v M.length (strV M)) (h0 : 0 < M.length) (hl : (Lib.join M [s]).length ≤ 1048576) (hm : M.length ≤ 1048576) :
    Calls Tryd.prog 54 #[v, .string ⟨#[s]⟩] w (Ret (.string ⟨(Lib.join M [s]).toArray⟩) w) := by
  obtain ⟨G, cap, rfl, hb, hc⟩ := own_shape hown h0
  have e : (M.map fun l => (⟨l.toArray⟩ : ByteArray)).map (·.data.toList) = M := by
    rw [List.map_map]
    conv => rhs; rw [← List.map_id M]
    exact List.map_congr_left fun l _ => by simp
  have h := Tryd.strings_Join G 0 cap (M.map fun l => (⟨l.toArray⟩ : ByteArray)) ⟨#[s]⟩ w (fun j x hj => by
    rw [List.getElem?_map] at hj
    have hjl : j < M.length := by
      rcases Nat.lt_or_ge j M.length with h | h
      · exact h
      · rw [List.getElem?_eq_none h] at hj; cases hj
    rw [List.getElem?_eq_getElem hjl] at hj
    have hx : (⟨(M[j]).toArray⟩ : ByteArray) = x := Option.some.inj hj
    rw [Nat.zero_add]
    refine own_val hown j _ hjl ?_
    rw [strV_get M j hjl, ← hx]
    unfold tx ts
    rw [List.getD_eq_getElem?_getD, List.getElem?_eq_getElem hjl]
    rfl) (hown.lt G rfl).2 (by rw [List.length_map]; omega) (by rw [List.length_map]; omega) (by rw [e]; show (Lib.join M [s]).length ≤ _; omega)
  rw [e, List.length_map] at h
  exact h
theorem Tryd.nix (b off n cap k : Nat) (hk : k < n) (w : World) : (Instr.indexAt 34 (.slice (some ⟨b, off, none⟩) n cap) (.int .i64 k)).run Tryd.prog w = .ok (.pointer (some ⟨b, off + k, none⟩)) w := by
  have hu : Tryd.prog.underlying 34 = some (.slice (Tryd.prog.elem 34)) := by kernel_rfl
  have he : Tryd.prog.elem 34 = 3 := by kernel_rfl
  have hs : (sizeOf 3).run Tryd.prog w = .ok 1 w := by kernel_rfl
  rw [run_indexAt_slice w 34 ⟨b, off, none⟩ n cap .i64 k hu, if_pos (by omega), he]
  simp [hs, Result.andThen, Addr.add]
theorem Tryd.strIN : ElemInfo Tryd.prog 96 9 (.string ⟨#[]⟩) 1 16 := ⟨Tryd.underlying96, by kernel_rfl, rfl, by decide⟩
theorem Tryd.bstrN (s : ByteArray) (w : World) : (Instr.buildSlice 96 1 #[(0, .string s)]).run Tryd.prog w = .ok (.slice (some ⟨w.heap.size, 0, none⟩) 1 1) (w.alloc (.cells #[.string s] 9)) := by kernel_rfl
set_option maxHeartbeats 1000000 in
set_option maxRecDepth 100000 in
theorem numbersText_any (L : List Int) (b off o n cap : Nat) (w : World) (hn : 1 ≤ n) (hn9 : n ≤ 9) (hc : ∀ j, j < n → w.cell? ⟨b, off + j, none⟩ = some (.int .i64 (gi L (o + j)))) (hd : ∀ j, j < n → 0 ≤ gi L (o + j) ∧ gi L (o + j) < 10) :
    Calls Tryd.prog 53 #[.slice (some ⟨b, off, none⟩) n cap] w (Ret (.string ⟨(rowT L o n).toArray⟩) w) := by
  have gg := Gr.refl w
  have HC := hidI hc
  have HD := hidI hd
  have HIT := hidI (fun (k : Nat) (hk : k < 10) w' => show Calls Tryd.prog 88 #[.int .i64 k] w' (fun e w'' => e = .returned (.string ⟨#[UInt8.ofNat (48 + k)]⟩) ∧ w'' = w') from by
    have := Tryd.strconv_Itoa_small k (by omega) w'
    rwa [Lib.decDigits_one hk] at this)
  have own0 : w.ownsRow w.heap.size 9 1 (.slice none 0 0) ([] : List (List UInt8)).length (strV []) := World.ownsRow_nil _ _ _ _
  have HJ := hidI (fun (w' : World) (v : Value) (ho : w'.ownsRow w.heap.size 9 1 v n (strV (nmsT L o n))) => show Calls Tryd.prog 54 #[v, .string ⟨#[44]⟩] w' (Ret (.string ⟨(rowT L o n).toArray⟩) w') from
    joinRow_any (nmsT L o n) 44 v w.heap.size w' (by rw [nmsT_length]; exact ho) (by rw [nmsT_length]; exact hn) (by have := rowT_le L o n; unfold rowT at this; omega) (by rw [nmsT_length]; omega))
  clear hc hd
  go_enter Tryd.func53, Tryd.ntmps53
  go_wp2
  go_loopw [3, 8] (fun ov iv wr => ∃ k : Nat, iv = .int .i64 k ∧ k ≤ n ∧ wr.ownsRow w.heap.size 9 1 ov k (strV (nmsT L o k)) ∧ Gr w wr) (fun _ iv _ => n - natB iv)
  case atStart => exact ⟨0, rfl, Nat.zero_le _, own0, gg⟩
  case round =>
    clear own0 gg
    obtain ⟨k, rfl, hk, own, gg⟩ := hrel
    have zr := gg.size
    by_cases hlt : k < n
    · have hix := Tryd.nix b off n cap k hlt
      have hcl := gg.cell (HC.out k hlt)
      obtain ⟨d0, d1⟩ := HD.out k hlt
      obtain ⟨x, hx⟩ : ∃ x : Nat, gi L (o + k) = (x : Int) := ⟨(gi L (o + k)).toNat, by omega⟩
      obtain ⟨c, hcc⟩ : ∃ c, c = UInt8.ofNat (48 + x) := ⟨_, rfl⟩
      have HA := hidI (HIT.out x (by omega))
      rw [← hcc] at HA
      have HS := hidI (show strV (nmsT L o k) ++ [.string ⟨#[c]⟩] = strV (nmsT L o (k + 1)) from by
        rw [nmsT_succ, ← strV_append]
        unfold dgt
        rw [hx, Int.toNat_natCast, hcc]
        rfl)
      rw [hx] at hcl
      clear d0 d1 hx hcc
      go_wp2_with (first | (refine r_idx 34 _ _ (.slice (some ⟨b, off, none⟩) n cap) (.int .i64 k) _ rfl rfl (hix _) rfl ?_) | (refine r_ldc 3 _ ⟨b, off + k, none⟩ (.int .i64 x) rfl (Tryd.isAgg3 _) hcl rfl ?_) | (go_at_call 88; refine (HA.out _).mono ?_; rintro e w6 ⟨rfl, rfl⟩) | (refine r_slice1 96 9 (.tmp 14) (.string ⟨#[c]⟩) rfl (Tryd.bstrN _ _) rfl ?_; intro w3 B3 N3; have g3 := N3.gr; have own := g3.row own; have gg := gg.trans g3; have z3 := g3.size) | (refine r_append (.tmp 12) (.tmp 15) 96 9 _ 1 16 w.heap.size Tryd.strIN _ k (strV (nmsT L o k)) rfl own ⟨B3, 0, none⟩ 1 1 [.string ⟨#[c]⟩] rfl rfl N3.cell1 (by intro u hu; simp at hu; subst hu; rfl) (by omega) (by decide) (by omega) rfl ?_; intro v4 w4 own4 g4))
      rw [HS.out] at own4
      go_roundw
      case rel => exact ⟨k + 1, by go_num, hlt, own4, g4.gr gg (own_gr own (Nat.le_refl _))⟩
      case measure => simp [natB]; omega
    · obtain rfl : k = n := by omega
      clear hlt
      go_wp2_with (go_at_call 54; refine (HJ.out _ _ own).mono ?_; rintro e w6 ⟨rfl, g6⟩; have gg := gg.trans g6)
      go_ret
      exact ⟨rfl, gg⟩
end Go.Proofs.YtdebiobhmpoiiaaDoor
