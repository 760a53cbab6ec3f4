/-
  The balls of a number, put in by a range over slices.Backward.
-/
import Derived.Test.YtcjmikafomlbiaaGreatDoorBackI
import Derived.Test.YtcjmikafomlbiaaGreatDoorCallC
import Derived.Test.YtcjmikafomlbiaaGreatDoorOps
import Derived.Test.YtcjmikafomlbiaaGreatDoorTiltY
import Derived.RangeFuncWrites
namespace Go.Proofs.YtcjmikafomlbiaaGreatDoor
open Go.RowKit Go.Shelf
attribute [local go_sem] Oper.semAt_some
/-- One input, from the last one on: a ball is put in if the number is odd; the number is halved. -/
def wiS (s : List UInt8 × Nat) (i : Nat) : List UInt8 × Nat := (if s.2 % 2 = 1 then s.1.set i 111 else s.1, s.2 / 2)
theorem Upd.cellW {B : Nat} {w w' : World} (u : Upd B w w') {a : Addr} {v : Value} (h : w.cell? a = some v) (hne : a.block ≠ B) : w'.cell? a = some v := by
  unfold World.cell? at h ⊢
  rw [u.block _ hne]
  exact h
theorem OwnFrom.blk {β : Type} {B : Nat} {k : Nat} {cs : β → Array Value} {T : TypeId} : OwnFrom B (fun (s : β) W => Blk W k (cs s) T) := fun s W W' row hs hg hr =>
  Grb.blk (⟨hg⟩ : Grb row W W') hs (fun e => by
    obtain ⟨-, o, ho, hc⟩ := hr k e
    have hs' : W.heap[k]? = some (.cells (cs s) T (0, 0)) := hs
    rw [hs'] at ho
    cases ho
    cases hc)
theorem wi_facts (l : List Nat) : ∀ s : List UInt8 × Nat, (l.foldl wiS s).1.length = s.1.length ∧ (l.foldl wiS s).2 ≤ s.2 := by
  induction l with
  | nil => exact fun s => ⟨rfl, Nat.le_refl _⟩
  | cons i l ih =>
    intro s
    obtain ⟨h1, h2⟩ := ih (wiS s i)
    refine ⟨?_, Nat.le_trans h2 (Nat.div_le_self _ _)⟩
    rw [List.foldl_cons, h1]
    unfold wiS
    dsimp only
    split
    · rw [List.length_set]
    · rfl
theorem Tryz.backI_any (a : Option Addr) (len cap : Nat) (w : World) : Calls Tryz.prog 56 #[.slice a len cap] w fun e w' => e = .returned (.func (.func 75) #[] #[.pointer (some ⟨w.heap.size, 0, none⟩)]) ∧ w' = w.alloc (.cells #[.slice a len cap] 22) :=
  (callsIn_wide (n := 9)).1 (Tryz.backI_in Fence.wide 9 trivial rfl a len cap w)
def wiG (g : Grid) (C : Nat → Nat) (len num : Nat) : List UInt8 := (((dnI len 0).map C).foldl wiS (g.c, num)).1
def stI {len : Nat} (g : Grid) (C : Nat → Nat) (num : Nat) (pre : List (BY len)) : List UInt8 × Nat := (pre.map fun x => C x.1).foldl wiS (g.c, num)
theorem stI_snoc {len : Nat} (g : Grid) (C : Nat → Nat) (num : Nat) (pre : List (BY len)) (x : BY len) : stI g C num (pre ++ [x]) = wiS (stI g C num pre) (C x.1) := by unfold stI; rw [List.map_append, List.foldl_append]; rfl
theorem stI_facts {len : Nat} (g : Grid) (C : Nat → Nat) (num : Nat) (pre : List (BY len)) : (stI g C num pre).1.length = g.c.length ∧ (stI g C num pre).2 ≤ num := wi_facts _ (g.c, num)
theorem stI_all {len : Nat} {g : Grid} {C : Nat → Nat} {num : Nat} {ys : List (BY len)} (h : ys.map (fun x => x.1) = dnI len 0) : (stI g C num ys).1 = wiG g C len num := by
  unfold stI wiG
  rw [← h, List.map_map]
  rfl
set_option maxHeartbeats 800000 in
set_option maxRecDepth 100000 in
theorem withInputs_any (g : Grid) (C : Nat → Nat) (b off len cap num : Nat) (w : World) (hlen : len ≤ 8) (hnum : num ≤ 8) (hC : ∀ j, j < len → C j < g.c.length) (h36 : g.c.length ≤ 36) (hrow : I64s w b off len (fun j => (C j : Int))) (hb : b < w.heap.size) :
    Calls Tryz.prog 39 #[.agg (gvG g), .slice (some ⟨b, off, none⟩) len cap, .int .i64 num] w (Ret (.agg (gv g.w g.h (wiG g C len num))) w) := by
  have gg := Gr.refl w
  refine (callsIn_wide (n := 9)).1 ?_
  refine callsIn_of_wp_marks Tryz.func39 rfl trivial ?_ rfl
  refine wpIn_wide.2 ?_
  simp only [Tryz.ntmps39, List.size_toArray, List.length_cons, List.length_nil, Nat.reduceAdd, Nat.reduceSub, Array.replicate_succ, Array.replicate_zero, List.push_toArray, List.append_toArray, List.nil_append, List.cons_append]
  unfold gvG
  go_wp2_with (first | (refine r_box 42 _ (gv g.w g.h g.c) rfl rfl ?_; intro w1 B1 N1; have g1 := N1.gr; have b1 : Blk w1 B1 (gv g.w g.h g.c) 42 := N1.blk; have l1 := N1.lo; have t1 := N1.hi; have z1 := g1.size; have gg := gg.trans g1; clear N1; obtain ⟨b1_0, b1_1, b1_2⟩ := gcells b1) | (refine r_box1 3 _ (.int .i64 num) rfl (fun _ => rfl) rfl ?_; intro w2 B2 N2; have g2 := N2.gr; have b2 : Blk w2 B2 #[.int .i64 num] 3 := N2.blk; have l2 := N2.lo; have t2 := N2.hi; have z2 := g2.size; have b1 := g2.blk b1; have gg := gg.trans g2; clear N2) | (refine r_alloc 42 _ Tryz.gzero rfl ?_; intro w3 B3 N3; have g3 := N3.gr; have b3 : Blk w3 B3 (gv 0 0 []) 42 := N3.blk; have l3 := N3.lo; have t3 := N3.hi; have z3 := g3.size; have b1 := g3.blk b1; have b2 := g3.blk b2; have gg := gg.trans g3; clear N3; obtain ⟨b3_0, b3_1, b3_2⟩ := gcells b3) | (go_at_call 56; refine (Tryz.backI_any _ _ _ _).mono ?_; rintro e w4 ⟨rfl, rfl⟩))
  have hB4 : Blk (w3.alloc (.cells #[.slice (some ⟨b, off, none⟩) len cap] 22)) w3.heap.size #[.slice (some ⟨b, off, none⟩) len cap] 22 := heap_alloc_new w3 _
  have z4 : (w3.alloc (.cells #[.slice (some ⟨b, off, none⟩) len cap] 22)).heap.size = w3.heap.size + 1 := World.size_alloc _ _
  have g4 : Gr w3 (w3.alloc (.cells #[.slice (some ⟨b, off, none⟩) len cap] 22)) := (Gr.refl w3).alloc _
  have b1 := g4.blk b1
  have b2 := g4.blk b2
  have b3 := g4.blk b3
  have gg := gg.trans g4
  have hl3 : w.heap.size ≤ B1 := by omega
  have n12 : B1 ≠ B2 := by omega
  have n13 : B1 ≠ B3 := by omega
  have n23 : B2 ≠ B3 := by omega
  have n14 : B1 ≠ w3.heap.size := by omega
  have n24 : B2 ≠ w3.heap.size := by omega
  have nb1 : b ≠ B1 := by omega
  have nb2 : b ≠ B2 := by omega
  have lo2 : w.heap.size ≤ B2 := by omega
  have lo3 : w.heap.size ≤ B3 := by omega
  have zz := gg.size
  have hu4 : I64s (w3.alloc (.cells #[.slice (some ⟨b, off, none⟩) len cap] 22)) b off len (fun j => (C j : Int)) := fun j hj => gg.cell (hrow j hj)
  generalize hW4 : w3.alloc (.cells #[.slice (some ⟨b, off, none⟩) len cap] 22) = w4 at *
  generalize hH4 : w3.heap.size = Bs at *
  refine (wpIn_wide (n := 9)).1 ?_
  refine wpIn_rangeFunc_ownG (hro := rfl) (h1 := by decide) (gf := 75) (lb := #[.pointer (some ⟨Bs, 0, none⟩)]) rfl trivial (enters_of Tryz.func75 (by kernel_rfl) rfl)
    (Tryz.backI_stops Fence.wide (9 - 1) trivial rfl (by decide) Bs b off cap len (fun j => (C j : Int)) (by omega) w4 (by omega) (by omega) (hB4.cell 0) hu4) (fun h k => kpI_t h k) (fun W l o o' _ h hc _ => kpI_b W l o o' h hc) (Below.refl _ _) (fun _ => rfl)
    (fun pre W => (Blk W B1 (gv g.w g.h (stI g C num pre).1) 42 ∧ Blk W B2 #[.int .i64 ((stI g C num pre).2 : Nat)] 3) ∧ (Blk W B3 (gv 0 0 []) 42 ∧ Below w.heap.size w W))
    (fun _ _ _ => False)
    (OwnFrom.and (OwnFrom.and OwnFrom.blk OwnFrom.blk) (OwnFrom.and OwnFrom.blk (ownFrom_below (Nat.le_refl _) zz)))
    (fun _ _ _ _ _ hs _ _ => hs)
    ⟨⟨b1, b2⟩, b3, gg⟩
    (fun x => { tmps := #[.agg (gv g.w g.h g.c), .slice (some ⟨b, off, none⟩) len cap, .int .i64 num, .pointer (some ⟨B1, 0, none⟩), undef, .pointer (some ⟨B2, 0, none⟩), .pointer (some ⟨B3, 0, none⟩), undef, .int .i64 (C x.1 : Int), .slice (some ⟨b, off, none⟩) len cap, .func (.func 75) #[] #[.pointer (some ⟨Bs, 0, none⟩)], .int .i64 (x.1 : Int), .int .i64 (C x.1 : Int), undef, undef, undef, undef, undef, undef, undef, undef, undef], defers := [] }) ?assign ?body ?done ?stop
  case assign =>
    intro l x W K hK
    gi_wp2
    exact hK
  case body =>
    rintro l pre x W ⟨⟨hb1, hb2⟩, hb3, hB⟩ _
    have hsn := stI_snoc g C num pre x
    obtain ⟨hf1, hf2⟩ := stI_facts g C num pre
    obtain ⟨st, hst⟩ : ∃ st, st = stI g C num pre := ⟨_, rfl⟩
    rw [← hst] at hb1 hb2 hf1 hf2 hsn
    have HSN := hidI hsn
    clear hsn
    obtain ⟨c, q⟩ := st
    have hCx := hC x.1 x.2
    have hq8 : q ≤ num := hf2
    have hcl : c.length = g.c.length := hf1
    have c2 : W.cell? ⟨B2, 0, none⟩ = some (.int .i64 (q : Int)) := hb2.cell 0
    have f2 : W.frozen? ⟨B2, 0, none⟩ = false := hb2.free 0
    clear hst hf1 hf2
    have c1 : W.cell? ⟨B1, 2 + C x.1, none⟩ = some (byteV (at0 c (C x.1))) := (hb1.cell (2 + C x.1)).trans (gv_c _ _ c (C x.1) (by omega))
    have f1 : W.frozen? ⟨B1, 2 + C x.1, none⟩ = false := hb1.free _
    have hix := Tryz.gix B1 (C x.1) (by omega)
    have HQ2 := hidI (show ((q : Int) / 2) = ((q / 2 : Nat) : Int) from by omega)
    rcases Nat.mod_two_eq_zero_or_one q with hp | hp
    · have e0 : ((q : Int) % 2 == 1) = false := by rw [beq_eq_false_iff_ne]; omega
      have HST := hidI (show stI g C num (pre ++ [x]) = (c, q / 2) from by rw [HSN.out]; unfold wiS; dsimp only; rw [if_neg (by omega)])
      gi_wp2
      have u2 := Upd.setCell W ⟨B2, 0, none⟩ (.int .i64 ((q : Int) / 2))
      refine ⟨(KeepsOthers.setCell _ _ _).from _, ⟨fun v hv => u2.cellW hv n24.symm, fun h k hk => u2.cellW (h k hk) nb2⟩, ?_⟩
      dsimp only
      rw [HST.out]
      refine ⟨⟨u2.blk hb1 n12, ?_⟩, u2.blk hb3 n23.symm, u2.gr hB lo2⟩
      have := heap_setCell_same W B2 0 _ 3 (.int .i64 ((q : Int) / 2)) hb2
      rw [HQ2.out] at this
      exact this
    · have e0 : ((q : Int) % 2 == 1) = true := by rw [beq_iff_eq]; omega
      have HST := hidI (show stI g C num (pre ++ [x]) = (c.set (C x.1) 111, q / 2) from by rw [HSN.out]; unfold wiS; dsimp only; rw [if_pos hp])
      gi_wp2
      have u1 := Upd.setCell W ⟨B1, 2 + C x.1, none⟩ (.int .u8 111)
      have hb1' : Blk (W.setCell ⟨B1, 2 + C x.1, none⟩ (.int .u8 111)) B1 (gv g.w g.h (c.set (C x.1) 111)) 42 := by
        have := heap_setCell_same W B1 (2 + C x.1) _ 42 (.int .u8 111) hb1
        rw [show Value.int .u8 111 = byteV 111 from rfl, gv_set _ _ c (C x.1) 111 (by omega) (by omega)] at this
        exact this
      have hb2' := u1.blk hb2 n12.symm
      have hb3' := u1.blk hb3 n13.symm
      have u2 := Upd.setCell (W.setCell ⟨B1, 2 + C x.1, none⟩ (.int .u8 111)) ⟨B2, 0, none⟩ (.int .i64 ((q : Int) / 2))
      refine ⟨((KeepsOthers.setCell W ⟨B1, 2 + C x.1, none⟩ (.int .u8 111)).from _).trans ((KeepsOthers.setCell _ _ _).from _), ⟨fun v hv => u2.cellW (u1.cellW hv n14.symm) n24.symm, fun h k hk => u2.cellW (u1.cellW (h k hk) nb1) nb2⟩, ?_⟩
      dsimp only
      rw [HST.out]
      refine ⟨⟨u2.blk hb1' n12, ?_⟩, u2.blk hb3' n23.symm, u2.gr (u1.gr hB hl3) lo2⟩
      have := heap_setCell_same _ B2 0 _ 3 (.int .i64 ((q : Int) / 2)) hb2'
      rw [HQ2.out] at this
      exact this
  case done =>
    rintro D ys W hD hys ⟨⟨hb1, hb2⟩, hb3, hB⟩ hK
    rw [stI_all hys] at hb1
    have nD : D ≠ B3 := by omega
    go_wp2_with (first | (refine r_load_row 42 (.tmp 3) _ rfl _ _ _ hb1 Tryz.underlying42 rfl (Tryz.ginfo' _ _ _) rfl ?_) | (refine r_store_row 42 42 _ _ B3 rfl (gv g.w g.h (wiG g C len num)) _ rfl hb3 (Tryz.gsize' _ _ _) (by simp only [gv_size]) (gv_one _ _ _) rfl ?_; intro w9 u9 b39))
    have hK' := u9.keep hK nD
    refine ⟨by simp, .inl ⟨_, _, rfl, run_takeDeferred hK', ?_⟩⟩
    have gD : Grb (some D) w9 (w9.putObj D (.deferred none)) := ⟨grownBy_putObj' w9 D _⟩
    have b39' := gD.blk b39 (fun e => nD (Option.some.inj e))
    have hgr : Gr w (w9.putObj D (.deferred none)) := gD.gr (u9.gr hB lo3) (fun k e => by
      obtain rfl := Option.some.inj e
      omega)
    exact ⟨_, results_row rfl _ _ B3 42 _ _ rfl b39' Tryz.underlying42 rfl (Tryz.ginfo' _ _ _), rfl, hgr⟩
  case stop =>
    rintro D c pre W _ _ h _
    exact h.elim
end Go.Proofs.YtcjmikafomlbiaaGreatDoor
