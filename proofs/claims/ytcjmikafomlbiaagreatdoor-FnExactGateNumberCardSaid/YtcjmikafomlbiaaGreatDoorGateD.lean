/-
  A machine done: each of its trays tilted along the word.
-/
import Derived.Test.YtcjmikafomlbiaaGreatDoorGateT
import Derived.Test.YtcjmikafomlbiaaGreatDoorMachI
namespace Go.Proofs.YtcjmikafomlbiaaGreatDoor
open Go.RowKit
def g0 : Grid := ⟨0, 0, []⟩
theorem Tryz.mf0 (B : Nat) (w : World) : (Instr.fieldAt 45 (.pointer (some ⟨B, 0, none⟩)) 0).run Tryz.prog w = .ok (.pointer (some ⟨B, 0, none⟩)) w := by kernel_rfl
theorem Tryz.mf1 (B : Nat) (w : World) : (Instr.fieldAt 45 (.pointer (some ⟨B, 0, none⟩)) 1).run Tryz.prog w = .ok (.pointer (some ⟨B, 1, none⟩)) w := by kernel_rfl
theorem Tryz.mf2 (B : Nat) (w : World) : (Instr.fieldAt 45 (.pointer (some ⟨B, 0, none⟩)) 2).run Tryz.prog w = .ok (.pointer (some ⟨B, 305, none⟩)) w := by kernel_rfl
theorem Tryz.mix (B k : Nat) (hk : k < 8) (w : World) : (Instr.indexAt 43 (.pointer (some ⟨B, 1, none⟩)) (.int .i64 k)).run Tryz.prog w = .ok (.pointer (some ⟨B, 1 + k * 38, none⟩)) w := by
  have hl : Tryz.prog.arrayLen 43 = 8 := by kernel_rfl
  have he : Tryz.prog.elem 43 = 42 := by kernel_rfl
  rw [run_indexAt_array w 43 ⟨B, 1, none⟩ .i64 k (by rw [hl, he]; exact Tryz.underlying43), if_pos (by rw [hl]; omega), he]
  simp [Tryz.sizeOf42, Result.andThen, Addr.add]
theorem Tryz.minfo (c : Int) (F : Nat → Grid) (sl : Value) : (Tryz.prog.info? 45).map (·.size) = some (mcC c F sl).toArray.size := by
  rw [List.size_toArray, mcC_length]
  kernel_rfl
theorem Tryz.msize (c : Int) (F : Nat → Grid) (sl : Value) (w : World) : (sizeOf 45).run Tryz.prog w = .ok (mcC c F sl).toArray.size w := by
  rw [List.size_toArray, mcC_length]
  kernel_rfl
theorem Tryz.mzero (w : World) : (zeroValue 45).run Tryz.prog w = .ok (.agg (mcC 0 (fun _ => g0) (.slice none 0 0)).toArray) w := by kernel_rfl
theorem mcC_one (c : Int) (F : Nat → Grid) (sl : Value) (h : sl.oneCell' = true) : ∀ v ∈ (mcC c F sl).toArray.toList, v.oneCell' = true := by
  intro v hv
  unfold mcC at hv
  rcases List.mem_cons.1 hv with rfl | hv
  · rfl
  · rcases List.mem_append.1 hv with hv | hv
    · obtain ⟨r, hr, hv⟩ := List.mem_flatten.1 hv
      obtain ⟨k, -, rfl⟩ := List.mem_map.1 hr
      exact gv_one _ _ _ v hv
    · rw [List.mem_singleton.1 hv]
      exact h
/-- The first k trays tilted. -/
def dnF (ds : List Nat) (F : Nat → Grid) (k : Nat) : Nat → Grid := fun j => if j < k then runB ds (F j) else F j
theorem dnF_zero (ds : List Nat) (F : Nat → Grid) : dnF ds F 0 = F := by funext j; unfold dnF; rw [if_neg (Nat.not_lt_zero _)]
theorem dnF_succ (ds : List Nat) (F : Nat → Grid) (k : Nat) : updF (dnF ds F k) k (runB ds (F k)) = dnF ds F (k + 1) := by
  funext j
  unfold updF dnF
  by_cases h : j = k
  · rw [if_pos h, if_pos (by omega), h]
  · rw [if_neg h]
    by_cases h2 : j < k
    · rw [if_pos h2, if_pos (by omega)]
    · rw [if_neg h2, if_neg (by omega)]
theorem dnF_at (ds : List Nat) (F : Nat → Grid) (k : Nat) : dnF ds F k k = F k := by unfold dnF; rw [if_neg (Nat.lt_irrefl _)]
set_option maxHeartbeats 300000 in
set_option maxRecDepth 100000 in
theorem done_any (c : Nat) (F : Nat → Grid) (sl : Value) (u : ByteArray) (Bu : Nat) (w : World) (hc : c ≤ 8) (h1 : sl.oneCell' = true) (hF : ∀ k, k < c → Wal (F k)) (hu : wordB u = true) (hb : Blk w Bu #[.string u] 9) :
    Calls Tryz.prog 20 #[.agg (mcC c F sl).toArray, doV Bu] w (Ret (.agg (mcC c (dnF (wds u) F c) sl).toArray) w) := by
  have gg := Gr.refl w
  have HDO := hidI (fun k (hk : k < c) (w : World) (hb : Blk w Bu #[.string u] 9) => doing1_any (F k) u Bu w (hF k hk) hu hb)
  obtain ⟨ds, hds⟩ : ∃ ds, ds = wds u := ⟨_, rfl⟩
  rw [← hds] at HDO ⊢
  have HD0 := hidI (dnF_zero ds F)
  clear hds hF hu
  have hbl := hb.lt
  unfold doV
  go_enter Tryz.func20, Tryz.ntmps20
  go_wp2_with (first | ((refine r_box 45 _ ((mcC c F sl).toArray) rfl rfl ?_; intro w1 B1 N1; have g1 := N1.gr; have b1 : Blk w1 B1 ((mcC c F sl).toArray) 45 := N1.blk; have l1 := N1.lo; have t1 := N1.hi; have z1 := g1.size; have gg := gg.trans g1; clear N1); have hb := g1.blk hb) | ((refine r_alloc 45 _ Tryz.mzero rfl ?_; intro w2 B2 N2; have g2 := N2.gr; have b2 : Blk w2 B2 ((mcC 0 (fun _ => g0) (.slice none 0 0)).toArray) 45 := N2.blk; have l2 := N2.lo; have t2 := N2.hi; have z2 := g2.size; have b1 := g2.blk b1; have gg := gg.trans g2; clear N2); have hb := g2.blk hb) | (refine r_fld 45 _ 0 (.pointer (some ⟨B1, 0, none⟩)) (.pointer (some ⟨B1, 0, none⟩)) rfl (Tryz.mf0 B1 _) rfl ?_) | (refine r_ldc 3 _ ⟨B1, 0, none⟩ (.int .i64 (c : Int)) rfl (Tryz.isAgg3 _) ((b1.cell 0).trans (by rw [List.getElem?_toArray]; rfl)) rfl ?_))
  rw [← HD0.out] at b1
  have lo1 : w.heap.size ≤ B1 := by omega
  have lo2 : w.heap.size ≤ B2 := by omega
  have n12 : B1 ≠ B2 := by omega
  have nu1 : Bu ≠ B1 := by omega
  go_loopw [8] (fun iv wr => ∃ k : Nat, k ≤ c ∧ iv = .int .i64 k ∧ Blk wr B1 (mcC c (dnF ds F k) sl).toArray 45 ∧ Blk wr B2 (mcC 0 (fun _ => g0) (.slice none 0 0)).toArray 45 ∧ Blk wr Bu #[.string u] 9 ∧ Gr w wr) (fun iv _ => c - (intOf iv).toNat)
  case atStart => exact ⟨0, Nat.zero_le _, rfl, b1, b2, hb, gg⟩
  case round =>
    clear b1 b2 hb gg
    obtain ⟨k, hk, rfl, b1, b2, hb, gg⟩ := hrel
    have zr := gg.size
    by_cases hlt : k < c
    · have hk8 : k < 8 := by omega
      have hrg := mc_range b1 hk8
      rw [dnF_at] at hrg
      have HNX := hidI (dnF_succ ds F k)
      have HDK := hidI (HDO.out k hlt)
      obtain ⟨x, hx⟩ : ∃ x, x = runB ds (F k) := ⟨_, rfl⟩
      obtain ⟨G, hG⟩ : ∃ G, G = dnF ds F k := ⟨_, rfl⟩
      rw [← hx] at HNX HDK
      rw [← hG] at HNX b1
      have HGI := hidI (show (Tryz.prog.info? 42).map (·.size) = some (gvG x).size from Tryz.ginfo' (x.w : Int) (x.h : Int) x.c)
      have HGF := hidI (show (Tryz.prog.info? 42).map (·.size) = some (gvG (F k)).size from Tryz.ginfo' ((F k).w : Int) ((F k).h : Int) (F k).c)
      clear hx hG
      go_wp2_with (first | (refine r_fld 45 _ 1 (.pointer (some ⟨B1, 0, none⟩)) (.pointer (some ⟨B1, 1, none⟩)) rfl (Tryz.mf1 B1 _) rfl ?_) | (refine r_idx 43 _ _ (.pointer (some ⟨B1, 1, none⟩)) (.int .i64 k) _ rfl rfl (Tryz.mix B1 k hk8 _) rfl ?_) | (refine r_ldm 42 _ B1 (1 + k * 38) (gvG (F k)) _ rfl hrg Tryz.underlying42 rfl HGF.out rfl ?_) | (refine r_callc 41 (.tmp 12) [.tmp 16] _ [.agg (gvG (F k))] [.pointer (some ⟨Bu, 0, none⟩)] (.agg (gvG x)) (fun w' => Gr _ w') Tryz.call41 rfl rfl rfl (HDK.out _ hb) ?_; intro w5 g5; have b1 := g5.blk b1; have b2 := g5.blk b2; have hb := g5.blk hb; have gg := gg.trans g5; have z5 := g5.size; have hsc := mc_cells (P := Tryz.prog) b1 hk8 x))
      obtain ⟨u6, b16⟩ := mc_store b1 hk8 x
      have b2 := u6.blk b2 n12.symm
      have hb := u6.blk hb nu1
      have gg := u6.gr gg lo1
      rw [HNX.out] at b16
      try simp only [Act.put]
      go_roundw
      case rel => exact ⟨k + 1, by omega, by go_num, b16, b2, hb, gg⟩
      case measure => simp [intOf]; omega
    · obtain rfl : k = c := by omega
      clear hlt
      go_wp2_with (first | (refine r_load_row 45 (.tmp 2) _ rfl _ _ _ b1 Tryz.underlying45 rfl (Tryz.minfo _ _ _) rfl ?_) | (refine r_store_row 45 45 _ _ B2 rfl (mcC k (dnF ds F k) sl).toArray _ rfl b2 (Tryz.msize _ _ _) (by simp only [List.size_toArray, mcC_length]) (mcC_one _ _ _ h1) rfl ?_; intro w7 u7 b27))
      refine bodyPost_ret (results_row rfl _ _ B2 45 _ _ rfl b27 Tryz.underlying45 rfl (Tryz.minfo _ _ _)) rfl ?_
      exact ⟨rfl, u7.gr gg lo2⟩
end Go.Proofs.YtcjmikafomlbiaaGreatDoor
