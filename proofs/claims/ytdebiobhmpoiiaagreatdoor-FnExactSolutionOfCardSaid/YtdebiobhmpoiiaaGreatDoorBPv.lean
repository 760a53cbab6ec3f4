/-
  Puzzles solved by the model: the states and the first solved one; lengths and numbers of solutions, and the laws.
  The lengths of puzzles and the numbers of their solutions: the program's side, and the laws.
  The law of lengths of puzzles.
  Numbers of solutions in the model; the laws of lengths and of numbers of solutions.
-/
import Derived.Test.YtdebiobhmpoiiaaGreatDoorPuzS
import Derived.Test.YtdebiobhmpoiiaaGreatDoorPuzM
namespace Go.Proofs.YtdebiobhmpoiiaaGreatDoor
open Go.RowKit
/-- The words of a list of states, added as the machine counts. -/
def sumW (S : List (Sta Grid)) (L : List Nat) : Int := L.foldl (fun c j => wrap64 (c + (sta S j).words)) 0
theorem sumW_snoc (S : List (Sta Grid)) (L : List Nat) (j : Nat) : sumW S (L ++ [j]) = wrap64 (sumW S L + (sta S j).words) := by
  unfold sumW
  rw [List.foldl_append]
  rfl
def lnN (l : List UInt8) (n : ByteArray) (z : Int) : Int := match slvS l n z with
  | none => 0
  | some (S, _, _, j) => (sta S j).far
def lnOk (l : List UInt8) (n : ByteArray) (z : Int) : Bool := (slvS l n z).isSome
def csN (l : List UInt8) (n : ByteArray) (z : Int) : Int := match slvS l n z with
  | none => 0
  | some (S, b, k, j) => sumW S (sdTo S b k (sta S j).far S.length)
theorem fin_ibP {a b : Int} {c d : Bool} (h1 : a = b) (h2 : c = d) : Ending.returned (.tuple #[.int .i64 a, .bool c]) = .returned (.tuple #[.int .i64 b, .bool d]) := by rw [h1, h2]
def RetPu (o : Option (List (Sta Grid) × UInt8 × Nat × Nat)) (w : World) (e : Ending) (w' : World) : Prop :=
  Gr w w' ∧ match o with
    | none => ∃ v f, e = .returned (.tuple #[v, .int .i64 f, .bool false])
    | some (S, _, _, j) => ∃ v bk sl nx, e = .returned (.tuple #[v, .int .i64 ((sta S j).far : Int), .bool true]) ∧ SSt w.heap.size w' v S bk sl nx ∧ SNx w.heap.size w' S nx
theorem slvS_bad {l : List UInt8} {n : ByteArray} {z : Int} (h : pzS l n z = none) : slvS l n z = none := by unfold slvS; rw [h]
theorem slvS_none {l : List UInt8} {n : ByteArray} {z : Int} {g : Grid} {b : UInt8} {k : Nat} (h : pzS l n z = some (g, b, k)) (hs : slvG g b k = none) : slvS l n z = none := by unfold slvS; rw [h]; show (slvG g b k).map _ = _; rw [hs]; rfl
theorem slvS_of {l : List UInt8} {n : ByteArray} {z : Int} {g : Grid} {b : UInt8} {k j : Nat} {S : List (Sta Grid)} (h : pzS l n z = some (g, b, k)) (hs : slvG g b k = some (S, j)) : slvS l n z = some (S, b, k, j) := by unfold slvS; rw [h]; show (slvG g b k).map _ = _; rw [hs]; rfl
theorem slvG_n1 {g : Grid} {b : UInt8} {k : Nat} (h : reachS tiltG g = none) : slvG g b k = none := by unfold slvG; rw [h]
theorem slvG_n2 {g : Grid} {b : UInt8} {k : Nat} {S : List (Sta Grid)} (h : reachS tiltG g = some S) (hf : fsS S b k = none) : slvG g b k = none := by unfold slvG; rw [h]; show (match fsS S b k with | none => _ | some j => _) = _; rw [hf]
theorem slvG_n3 {g : Grid} {b : UInt8} {k j : Nat} {S : List (Sta Grid)} (h : reachS tiltG g = some S) (hf : fsS S b k = some j) (h40 : ¬ (sta S j).far ≤ 40) : slvG g b k = none := by unfold slvG; rw [h]; show (match fsS S b k with | none => _ | some j => _) = _; rw [hf]; exact if_neg h40
theorem slvG_y {g : Grid} {b : UInt8} {k j : Nat} {S : List (Sta Grid)} (h : reachS tiltG g = some S) (hf : fsS S b k = some j) (h40 : (sta S j).far ≤ 40) : slvG g b k = some (S, j) := by unfold slvG; rw [h]; show (match fsS S b k with | none => _ | some j => _) = _; rw [hf]; exact if_pos h40
theorem e_leqC {P : Program} {w : World} {a : Act} {dst : Option Tmp} {ty T yt : TypeId} {pos : String} {aft : Array Edge} {gd : Option (Nat × Bool)} {k : IntKind} (x y : Operand) (m n : Int) (v : Bool) (hx : a.eval x = .int k m) (hy : a.eval y = .int k n) (hv : decide (m ≤ n) = v) :
    (execOp a.eval ⟨dst, .binOp .leq T x y yt, ty, pos, aft, gd⟩).run P w = .ok (.value (.bool v)) w := by
  subst hv
  unfold execOp
  simp [hx, hy, eqGuard, binOp, Op.intCmp]
theorem rec_rangeP {w : World} {B : Nat} {s : Sta Grid} {sl nv : Value} {T : TypeId} (h : Blk w B (recS s sl nv) T) : w.rangeAt B 0 (tg s.t.w s.t.h sl).toList := by
  intro j u hj
  have h3 : j < 3 := by
    rcases Nat.lt_or_ge j 3 with h | h
    · exact h
    · rw [List.getElem?_eq_none (by show 3 ≤ j; exact h)] at hj; cases hj
  rw [Nat.zero_add, h.cell j]
  have hj' : j = 0 ∨ j = 1 ∨ j = 2 := by omega
  rcases hj' with rfl | rfl | rfl <;> exact hj
set_option maxHeartbeats 4000000 in
set_option maxRecDepth 100000 in
theorem puStates_any (s n : ByteArray) (z : Int) (w : World) (hs : s.size ≤ 1048576) : Calls Tryz.prog 22 #[.agg (pv s n z)] w (RetPu (slvS s.data.toList n z) w) := by
  have gg := Gr.refl w
  cases hp : pzS s.data.toList n z with
  | none =>
    have HV := hidI (slvS_bad hp)
    have HA := hidI (fun w => show Calls Tryz.prog 41 #[.agg (pv s n z)] w (Ret (.bool false) w) from by have := puGood_any s n z w hs; rw [hp] at this; exact this)
    clear hp
    go_enter Tryz.func22, Tryz.ntmps22
    go_wp2_with (first | (refine r_box 27 _ (pv (s) (n) (z)) rfl rfl ?_; intro w1 B1 N1; have g1 := N1.gr; have b1 : Blk w1 B1 (pv (s) (n) (z)) 27 := N1.blk; have l1 := N1.lo; have t1 := N1.hi; have z1 := g1.size; have gg := gg.trans g1; clear N1; obtain ⟨b1_0, b1_1, b1_2⟩ := pcells b1) | (refine r_load_row 27 _ _ rfl _ _ _ b1 Tryz.underlying27 rfl Tryz.ipinfo rfl ?_) | (go_at_call 41; refine (HA.out _).mono ?_; rintro e w3 ⟨rfl, g3⟩; have z3 := g3.size; have gg := gg.trans g3))
    go_ret3
    exact ⟨gg, by rw [HV.out]; exact ⟨_, _, rfl⟩⟩
  | some x =>
    obtain ⟨g, b, k⟩ := x
    have hz := pz_some hp
    have HA := hidI (fun w => show Calls Tryz.prog 41 #[.agg (pv s n z)] w (Ret (.bool true) w) from by have := puGood_any s n z w hs; rw [hp] at this; exact this)
    obtain ⟨hc, hw1, hh1, hl⟩ := pz_tray hz
    have hlen36 : g.c.length ≤ 36 := by have := hc.len; have := hc.n36; omega
    have hk := hz.kl
    have hrc := slvG_rc hz.pr
    have HP := hidI hp
    obtain rfl : z = k := hz.ze
    obtain rfl : n = ⟨#[b]⟩ := hz.n1
    have HRE := fun w => reAll_any s w hs
    cases hR : rcS s.data.toList with
    | none =>
      have HV := hidI (slvS_none hp (slvG_n1 (hrc ▸ hR)))
      have HRE := hidI (fun w => show Calls Tryz.prog 42 #[.string s] w (Ret (.tuple #[.slice none 0 0, .bool false]) w) from (HRE w).mono fun e w' h => by unfold RetM at h; rw [hR] at h; exact ⟨h.2, h.1⟩)
      clear hp hz hc hrc hR
      go_enter Tryz.func22, Tryz.ntmps22
      go_wp2_with (first | (refine r_box 27 _ (pv (s) (⟨#[b]⟩) (k)) rfl rfl ?_; intro w1 B1 N1; have g1 := N1.gr; have b1 : Blk w1 B1 (pv (s) (⟨#[b]⟩) (k)) 27 := N1.blk; have l1 := N1.lo; have t1 := N1.hi; have z1 := g1.size; have gg := gg.trans g1; clear N1; obtain ⟨b1_0, b1_1, b1_2⟩ := pcells b1) | (refine r_load_row 27 _ _ rfl _ _ _ b1 Tryz.underlying27 rfl Tryz.ipinfo rfl ?_) | (go_at_call 41; refine (HA.out _).mono ?_; rintro e w3 ⟨rfl, g3⟩; have z3 := g3.size; have b1 := g3.blk b1; obtain ⟨b1_0, b1_1, b1_2⟩ := pcells b1; have gg := gg.trans g3) | (go_at_call 42; refine (HRE.out _).mono ?_; rintro e w4 ⟨rfl, g4⟩; have z4 := g4.size; have gg := gg.trans g4))
      go_ret3
      exact ⟨gg, by rw [HV.out]; exact ⟨_, _, rfl⟩⟩
    | some S =>
      have hone := rc_one hz.pr hz.isN hz.ix hR
      obtain ⟨h0, h300, hS⟩ := rcS_knownC hR
      have hR' : reachS tiltG g = some S := hrc ▸ hR
      have HRG := hidI hR'
      have HST := hidI (fun j (hj : j < S.length) => show 0 < (sta S j).t.c.length ∧ (sta S j).t.c.length ≤ 36 ∧ (ixC (sta S j).t.c b (sta S j).t.c.length = (k : Int) ↔ at0 (sta S j).t.c k = b) from by
        have e := hone.len j hj
        exact ⟨by omega, by omega, hone.iff hj hk⟩)
      have HRE := hidI (fun w => show Calls Tryz.prog 42 #[.string s] w (fun e w' => Gr w w' ∧ ∃ v bk sl nx, e = .returned (.tuple #[v, .bool true]) ∧ SSt w.heap.size w' v S bk sl nx ∧ SNx w.heap.size w' S nx) from (HRE w).mono fun e w' h => by unfold RetM at h; rw [hR] at h; exact h)
      clear hp hz hc hrc hR hone hR' hS
      go_enter Tryz.func22, Tryz.ntmps22
      go_wp2_with (first | (refine r_box 27 _ (pv (s) (⟨#[b]⟩) (k)) rfl rfl ?_; intro w1 B1 N1; have g1 := N1.gr; have b1 : Blk w1 B1 (pv (s) (⟨#[b]⟩) (k)) 27 := N1.blk; have l1 := N1.lo; have t1 := N1.hi; have z1 := g1.size; have gg := gg.trans g1; clear N1; obtain ⟨b1_0, b1_1, b1_2⟩ := pcells b1) | (refine r_load_row 27 _ _ rfl _ _ _ b1 Tryz.underlying27 rfl Tryz.ipinfo rfl ?_) | (go_at_call 41; refine (HA.out _).mono ?_; rintro e w3 ⟨rfl, g3⟩; have z3 := g3.size; have b1 := g3.blk b1; obtain ⟨b1_0, b1_1, b1_2⟩ := pcells b1; have gg := gg.trans g3) | (go_at_call 42; refine (HRE.out _).mono ?_; rintro e w4 ⟨g4, v, bk, sl, nx, rfl, M4, X4⟩; obtain ⟨gB, cap, rfl, hlo, hcap⟩ := own_shape M4.row h0; have b14 := g4.blk b1; have gg4 := gg.trans g4))
      have zz3 := gg.size
      go_loopw [22] (fun iv wr => ∃ m : Nat, m ≤ S.length ∧ iv = .int .i64 m ∧ Hid (∀ i, i < m → at0 (sta S i).t.c k ≠ b) ∧ Gr w4 wr) (fun iv _ => S.length - (intOf iv).toNat)
      case atStart => exact ⟨0, Nat.zero_le _, rfl, hidI (fun i hi => absurd hi (Nat.not_lt_zero _)), Gr.refl _⟩
      case round =>
        obtain ⟨m, hm, rfl, HN, k4⟩ := hrel
        have gg := gg4.trans k4
        have b1 := k4.blk b14
        have M := M4.gr k4
        by_cases hlt : m < S.length
        · obtain ⟨hl0, hl36, hxi⟩ := HST.out m hlt
          obtain ⟨b0, hb0⟩ : ∃ b0, b0 = bk m := ⟨_, rfl⟩
          have cp := M.ptr hlt
          have hblk := M.blk m hlt
          have hgrd := M.grd m hlt
          obtain ⟨c, hc⟩ : ∃ c, c = (sta S m).t.c := ⟨_, rfl⟩
          have hrg := rec_rangeP hblk
          have hcf : wr.cell? ⟨bk m, 4, none⟩ = some (.int .i64 ((sta S m).far : Int)) := hblk.cell 4
          obtain ⟨W, hW⟩ : ∃ W : Nat, W = (sta S m).t.w := ⟨_, rfl⟩
          obtain ⟨H, hH⟩ : ∃ H : Nat, H = (sta S m).t.h := ⟨_, rfl⟩
          obtain ⟨far, hfar⟩ : ∃ far, far = (sta S m).far := ⟨_, rfl⟩
          rw [← hc] at hgrd hl0 hl36 hxi
          rw [← hb0, ← hW, ← hH] at hrg
          rw [← hb0, ← hfar] at hcf
          rw [← hb0] at cp
          obtain ⟨sk, hsk⟩ : ∃ sk, sk = sl m := ⟨_, rfl⟩
          rw [← hsk] at hgrd hrg
          obtain ⟨G, capg, rfl, -, -⟩ := own_shape hgrd hl0
          have HC := hidI hc
          have HF := hidI hfar
          obtain ⟨X, hX⟩ : ∃ X, X = ixC c b c.length := ⟨_, rfl⟩
          have HX := hidI hX
          rw [← hX] at hxi
          have HXI := hidI hxi
          clear hc hW hH hblk hX hxi hb0 hsk hfar
          obtain ⟨b1_0, b1_1, b1_2⟩ := pcells b1
          go_wp2_with (first | (refine r_idx 43 _ _ (.slice (some ⟨gB, 0, none⟩) S.length cap) (.int .i64 m) _ rfl rfl (Tryz.psix gB S.length cap m hlt _) rfl ?_) | (refine r_ldc 89 _ ⟨gB, m, none⟩ (ptrV b0) rfl (Tryz.isAgg89 _) cp rfl ?_))
          refine q_whole (by kernel_rfl) (by kernel_rfl) ?_
          refine q_move _ (.pointer (some ⟨b0, 0, none⟩)) rfl rfl ?_; simp only [Act.put, List.setIfInBounds_toArray, List.set_cons_succ, List.set_cons_zero]
          refine q_take (.pointer (some ⟨b0, 0, Option.none⟩)) rfl (fun w' hw' => rfl) ?_; simp only [Act.put, List.setIfInBounds_toArray, List.set_cons_succ, List.set_cons_zero]
          refine q_take (.pointer (some ⟨b0, 0, none⟩)) rfl (fun w' hw' => e_val _ _ (Tryz.rf0 _ _)) ?_; simp only [Act.put, List.setIfInBounds_toArray, List.set_cons_succ, List.set_cons_zero]
          refine q_take (.agg (tg W H (.slice (some ⟨G, 0, Option.none⟩) c.length capg))) rfl (fun w' hw' => e_load_mid 60 (.tmp 28) b0 0 (tg W H (.slice (some ⟨G, 0, Option.none⟩) c.length capg)).toList _ rfl (fun j u hj => hw'.cell (hrg j u hj)) Tryz.underlying60 rfl Tryz.tinfo) ?_; simp only [Act.put, List.setIfInBounds_toArray, List.set_cons_succ, List.set_cons_zero]
          refine q_take (.pointer (some ⟨B1, 1, none⟩)) rfl (fun w' hw' => e_val _ _ (Tryz.ipf1 _ _)) ?_; simp only [Act.put, List.setIfInBounds_toArray, List.set_cons_succ, List.set_cons_zero]
          refine q_take (.string ⟨#[b]⟩) rfl (fun w' hw' => e_load 9 (.tmp 30) _ _ rfl (Tryz.isAgg9 _) (hw'.cell b1_1)) ?_; simp only [Act.put, List.setIfInBounds_toArray, List.set_cons_succ, List.set_cons_zero]
          refine q_take (.int .u8 b.toNat) rfl (fun w' hw' => e_val _ _ (s_idx0 Tryz.underlying9 b _)) ?_; simp only [Act.put, List.setIfInBounds_toArray, List.set_cons_succ, List.set_cons_zero]
          refine q_call 43 [.tmp 29, .tmp 32] _ [.agg (tg W H (.slice (some ⟨G, 0, Option.none⟩) c.length capg)), .int .u8 b.toNat] (.int .i64 X) Tryz.call43 rfl rfl (fun w' hw' => (tiPlace_any W H _ c b G capg w' hl36 (hw'.row hgrd)).mono fun e w'' h => ⟨by rw [HX.out]; exact h.1, hw'.trans h.2⟩) ?_; simp only [Act.put, List.setIfInBounds_toArray, List.set_cons_succ, List.set_cons_zero]
          refine q_take (.pointer (some ⟨B1, 2, none⟩)) rfl (fun w' hw' => e_val _ _ (Tryz.ipf2 _ _)) ?_; simp only [Act.put, List.setIfInBounds_toArray, List.set_cons_succ, List.set_cons_zero]
          refine q_take (.int .i64 k) rfl (fun w' hw' => e_load 3 (.tmp 34) _ _ rfl (Tryz.isAgg3 _) (hw'.cell b1_2)) ?_; simp only [Act.put, List.setIfInBounds_toArray, List.set_cons_succ, List.set_cons_zero]
          by_cases hXk : X = (k : Int)
          · have hdec : decide (X = (k : Int)) = true := decide_eq_true hXk
            refine q_take (.bool true) rfl (fun w' hw' => e_eqK _ _ _ _ _ rfl rfl hdec) ?_; simp only [Act.put, List.setIfInBounds_toArray, List.set_cons_succ, List.set_cons_zero]
            have HFS := hidI (fsS_of hlt (by have := HXI.out.1 hXk; rwa [HC.out] at this) HN.out)
            clear hXk hdec
            refine wpQuiet_nil ?_
            intro wq gq
            have gg := gg.trans gq
            have M := M.gr gq
            have X5 : SNx w3.heap.size wq S nx := ⟨fun i hi => gq.row (k4.row (X4.nxt i hi))⟩
            have hcf := gq.cell hcf
            by_cases h40 : far ≤ 40
            · have HV := hidI (slvS_of HP.out (slvG_y HRG.out HFS.out (by rw [← HF.out]; exact h40)))
              have hle : decide ((far : Int) ≤ 40) = true := decide_eq_true (by omega)
              go_wp2
              refine q_whole (by kernel_rfl) (by kernel_rfl) ?_
              refine q_move _ (.slice (some ⟨gB, 0, none⟩) S.length cap) rfl rfl ?_; simp only [Act.put, List.setIfInBounds_toArray, List.set_cons_succ, List.set_cons_zero]
              refine q_move _ (.pointer (some ⟨b0, 0, none⟩)) rfl rfl ?_; simp only [Act.put, List.setIfInBounds_toArray, List.set_cons_succ, List.set_cons_zero]
              refine q_take (.pointer (some ⟨b0, 0, Option.none⟩)) rfl (fun w' hw' => rfl) ?_; simp only [Act.put, List.setIfInBounds_toArray, List.set_cons_succ, List.set_cons_zero]
              refine q_take (.pointer (some ⟨b0, 4, none⟩)) rfl (fun w' hw' => e_val _ _ (Tryz.rf2 _ _)) ?_; simp only [Act.put, List.setIfInBounds_toArray, List.set_cons_succ, List.set_cons_zero]
              refine q_take (.int .i64 (far : Int)) rfl (fun w' hw' => e_load 3 (.tmp 40) _ _ rfl (Tryz.isAgg3 _) (hw'.cell hcf)) ?_; simp only [Act.put, List.setIfInBounds_toArray, List.set_cons_succ, List.set_cons_zero]
              refine q_move _ (.pointer (some ⟨b0, 0, none⟩)) rfl rfl ?_; simp only [Act.put, List.setIfInBounds_toArray, List.set_cons_succ, List.set_cons_zero]
              refine q_take (.pointer (some ⟨b0, 0, Option.none⟩)) rfl (fun w' hw' => rfl) ?_; simp only [Act.put, List.setIfInBounds_toArray, List.set_cons_succ, List.set_cons_zero]
              refine q_take (.pointer (some ⟨b0, 4, none⟩)) rfl (fun w' hw' => e_val _ _ (Tryz.rf2 _ _)) ?_; simp only [Act.put, List.setIfInBounds_toArray, List.set_cons_succ, List.set_cons_zero]
              refine q_take (.int .i64 (far : Int)) rfl (fun w' hw' => e_load 3 (.tmp 44) _ _ rfl (Tryz.isAgg3 _) (hw'.cell hcf)) ?_; simp only [Act.put, List.setIfInBounds_toArray, List.set_cons_succ, List.set_cons_zero]
              refine q_take (.bool true) rfl (fun w' hw' => e_leqC _ _ _ _ _ rfl rfl hle) ?_; simp only [Act.put, List.setIfInBounds_toArray, List.set_cons_succ, List.set_cons_zero]
              refine q_assign _ (.slice (some ⟨gB, 0, none⟩) S.length cap) rfl rfl ?_; simp only [Act.put, List.setIfInBounds_toArray, List.set_cons_succ, List.set_cons_zero]
              refine q_assign _ (.int .i64 (far : Int)) rfl rfl ?_; simp only [Act.put, List.setIfInBounds_toArray, List.set_cons_succ, List.set_cons_zero]
              refine q_assign _ (.bool true) rfl rfl ?_; simp only [Act.put, List.setIfInBounds_toArray, List.set_cons_succ, List.set_cons_zero]
              refine wpQuiet_nil ?_
              intro wr2 gr2
              have gg := gg.trans gr2
              go_wp2
              go_ret3
              refine ⟨gg, ?_⟩
              rw [HV.out]
              exact ⟨_, bk, sl, nx, by rw [← HF.out]; rfl, (M.gr gr2).upC zz3, (show SNx w3.heap.size wr2 S nx from ⟨fun i hi => gr2.row (X5.nxt i hi)⟩).upC zz3⟩
            · have HV := hidI (slvS_none HP.out (slvG_n3 HRG.out HFS.out (by rw [← HF.out]; exact h40)))
              have hle : decide ((far : Int) ≤ 40) = false := decide_eq_false (by omega)
              clear h40
              go_wp2
              refine q_whole (by kernel_rfl) (by kernel_rfl) ?_
              refine q_move _ (.slice (some ⟨gB, 0, none⟩) S.length cap) rfl rfl ?_; simp only [Act.put, List.setIfInBounds_toArray, List.set_cons_succ, List.set_cons_zero]
              refine q_move _ (.pointer (some ⟨b0, 0, none⟩)) rfl rfl ?_; simp only [Act.put, List.setIfInBounds_toArray, List.set_cons_succ, List.set_cons_zero]
              refine q_take (.pointer (some ⟨b0, 0, Option.none⟩)) rfl (fun w' hw' => rfl) ?_; simp only [Act.put, List.setIfInBounds_toArray, List.set_cons_succ, List.set_cons_zero]
              refine q_take (.pointer (some ⟨b0, 4, none⟩)) rfl (fun w' hw' => e_val _ _ (Tryz.rf2 _ _)) ?_; simp only [Act.put, List.setIfInBounds_toArray, List.set_cons_succ, List.set_cons_zero]
              refine q_take (.int .i64 (far : Int)) rfl (fun w' hw' => e_load 3 (.tmp 40) _ _ rfl (Tryz.isAgg3 _) (hw'.cell hcf)) ?_; simp only [Act.put, List.setIfInBounds_toArray, List.set_cons_succ, List.set_cons_zero]
              refine q_move _ (.pointer (some ⟨b0, 0, none⟩)) rfl rfl ?_; simp only [Act.put, List.setIfInBounds_toArray, List.set_cons_succ, List.set_cons_zero]
              refine q_take (.pointer (some ⟨b0, 0, Option.none⟩)) rfl (fun w' hw' => rfl) ?_; simp only [Act.put, List.setIfInBounds_toArray, List.set_cons_succ, List.set_cons_zero]
              refine q_take (.pointer (some ⟨b0, 4, none⟩)) rfl (fun w' hw' => e_val _ _ (Tryz.rf2 _ _)) ?_; simp only [Act.put, List.setIfInBounds_toArray, List.set_cons_succ, List.set_cons_zero]
              refine q_take (.int .i64 (far : Int)) rfl (fun w' hw' => e_load 3 (.tmp 44) _ _ rfl (Tryz.isAgg3 _) (hw'.cell hcf)) ?_; simp only [Act.put, List.setIfInBounds_toArray, List.set_cons_succ, List.set_cons_zero]
              refine q_take (.bool false) rfl (fun w' hw' => e_leqC _ _ _ _ _ rfl rfl hle) ?_; simp only [Act.put, List.setIfInBounds_toArray, List.set_cons_succ, List.set_cons_zero]
              refine q_assign _ (.slice (some ⟨gB, 0, none⟩) S.length cap) rfl rfl ?_; simp only [Act.put, List.setIfInBounds_toArray, List.set_cons_succ, List.set_cons_zero]
              refine q_assign _ (.int .i64 (far : Int)) rfl rfl ?_; simp only [Act.put, List.setIfInBounds_toArray, List.set_cons_succ, List.set_cons_zero]
              refine q_assign _ (.bool false) rfl rfl ?_; simp only [Act.put, List.setIfInBounds_toArray, List.set_cons_succ, List.set_cons_zero]
              refine wpQuiet_nil ?_
              intro wr2 gr2
              have gg := gg.trans gr2
              go_wp2
              go_ret3
              refine ⟨gg, ?_⟩
              rw [HV.out]
              exact ⟨_, _, rfl⟩
          · have hdec : decide (X = (k : Int)) = false := decide_eq_false hXk
            refine q_take (.bool false) rfl (fun w' hw' => e_eqK _ _ _ _ _ rfl rfl hdec) ?_; simp only [Act.put, List.setIfInBounds_toArray, List.set_cons_succ, List.set_cons_zero]
            have HN2 := hidI (show ∀ i, i < m + 1 → at0 (sta S i).t.c k ≠ b from fun i hi => if h : i < m then HN.out i h else by
              obtain rfl : i = m := by omega
              intro e
              exact hXk (HXI.out.2 (by rw [HC.out]; exact e)))
            clear hXk hdec
            refine wpQuiet_nil ?_
            intro wq gq
            have k4 := k4.trans gq
            go_wp2
            go_roundw
            case rel => exact ⟨m + 1, by omega, by go_num, HN2, k4⟩
            case measure => simp [intOf]; omega
        · obtain rfl : m = S.length := by omega
          have HV := hidI (slvS_none HP.out (slvG_n2 HRG.out (fsS_no HN.out)))
          clear hlt
          go_wp2
          go_ret3
          exact ⟨gg, by rw [HV.out]; exact ⟨_, _, rfl⟩⟩
end Go.Proofs.YtdebiobhmpoiiaaGreatDoor
namespace Go.Proofs.YtdebiobhmpoiiaaGreatDoor
open Go.RowKit
def RetSv (o : Option (List (Sta Grid) × UInt8 × Nat × Nat)) (w : World) (e : Ending) (w' : World) : Prop :=
  Gr w w' ∧ match o with
    | none => e = .returned (.tuple #[.agg (slV (.slice none 0 0) (.slice none 0 0)), .bool false])
    | some (S, b, k, j) => ∃ v u nx, e = .returned (.tuple #[.agg (slV v u), .bool true]) ∧ ISt w.heap.size w' v S nx ∧ w'.ownsRow w.heap.size 3 1 u (sdTo S b k (sta S j).far S.length).length (natsV (sdTo S b k (sta S j).far S.length))
set_option maxHeartbeats 2000000 in
set_option maxRecDepth 100000 in
theorem readSolving_any (s n : ByteArray) (z : Int) (w : World) (hm : ML w) (hs : s.size ≤ 1048576) : Calls Tryz.prog 24 #[.agg (pv s n z)] w (RetSv (slvS s.data.toList n z) w) := by
  have gg := Gr.refl w
  cases hp : pzS s.data.toList n z with
  | none =>
    have HV := hidI (slvS_bad hp)
    have HA := hidI (fun w (hm : ML w) => hp ▸ readPuzzle_any s n z w hm hs)
    clear hp
    go_enter Tryz.func24, Tryz.ntmps24
    go_wp2_with (first | (refine r_box 27 _ (pv (s) (n) (z)) rfl rfl ?_; intro w1 B1 N1; have g1 := N1.gr; have b1 : Blk w1 B1 (pv (s) (n) (z)) 27 := N1.blk; have l1 := N1.lo; have t1 := N1.hi; have z1 := g1.size; have gg := gg.trans g1; clear N1; obtain ⟨b1_0, b1_1, b1_2⟩ := pcells b1) | (refine r_load_row 27 _ _ rfl _ _ _ b1 Tryz.underlying27 rfl Tryz.ipinfo rfl ?_) | (refine r_alloc (dst := some 2) 49 _ Tryz.slvzero rfl ?_; intro w2 B2 N2; have g2 := N2.gr; have b2 : Blk w2 B2 (slV (.slice none 0 0) (.slice none 0 0)) 49 := N2.blk; have l2 := N2.lo; have t2 := N2.hi; have z2 := g2.size; have b1 := g2.blk b1; have gg := gg.trans g2; clear N2) | (go_at_call 46; refine (HA.out _ (gg.ml hm)).mono ?_; rintro e w3 ⟨rfl, g3⟩; have z3 := g3.size; have b2 := g3.blk b2; have gg := gg.trans g3) | (refine r_alloc (dst := some 4) 96 _ Tryz.qzero rfl ?_; intro w4 B4 N4; have g4 := N4.gr; have b4 : Blk w4 B4 (qv g00 0 0) 96 := N4.blk; have l4 := N4.lo; have t4 := N4.hi; have z4 := g4.size; have b2 := g4.blk b2; have gg := gg.trans g4; clear N4) | (refine r_store_row 96 96 _ _ _ rfl (qv (g00) (0) (0)) _ rfl b4 (Tryz.qsize _ _ _) (by simp only [qv_size]) (qv_one _ _ _) rfl ?_; intro w5 u5 b4'; have z5 := u5.size; have gg := u5.gr gg (by omega); have b2 := u5.blk b2 (by omega); clear b4; have b4 := b4'; clear b4') | (refine r_build 49 [] [] _ (Tryz.slvbuild0 _) rfl rfl ?_) | (refine r_store_row 49 49 _ _ _ rfl (slV (.slice none 0 0) (.slice none 0 0)) _ rfl b2 Tryz.slvsize rfl (slV_one rfl rfl) rfl ?_; intro w6 u6 b2'; have gg := u6.gr gg (by omega)))
    refine bodyPost_ret (results_row_bool rfl _ _ _ _ _ _ rfl b2' Tryz.underlying49 rfl Tryz.slvinfo) rfl ?_
    exact ⟨gg, by rw [HV.out]; rfl⟩
  | some x =>
    obtain ⟨g, b, k⟩ := x
    have hz := pz_some hp
    obtain ⟨hc, hw1, hh1, hl⟩ := pz_tray hz
    have hk36 : k < 36 := by have := hc.len; have := hc.n36; have := hz.kl; omega
    have HA := hidI (fun w (hm : ML w) => hp ▸ readPuzzle_any s n z w hm hs)
    have HS := fun w => solve_any g b k w hc hk36
    unfold RetSl at HS
    cases hr : slvG g b k with
    | none =>
      rw [hr] at HS
      have HV := hidI (slvS_none hp hr)
      clear hp hz hc hr
      go_enter Tryz.func24, Tryz.ntmps24
      go_wp2_with (first | (refine r_box 27 _ (pv (s) (n) (z)) rfl rfl ?_; intro w1 B1 N1; have g1 := N1.gr; have b1 : Blk w1 B1 (pv (s) (n) (z)) 27 := N1.blk; have l1 := N1.lo; have t1 := N1.hi; have z1 := g1.size; have gg := gg.trans g1; clear N1; obtain ⟨b1_0, b1_1, b1_2⟩ := pcells b1) | (refine r_load_row 27 _ _ rfl _ _ _ b1 Tryz.underlying27 rfl Tryz.ipinfo rfl ?_) | (refine r_alloc (dst := some 2) 49 _ Tryz.slvzero rfl ?_; intro w2 B2 N2; have g2 := N2.gr; have b2 : Blk w2 B2 (slV (.slice none 0 0) (.slice none 0 0)) 49 := N2.blk; have l2 := N2.lo; have t2 := N2.hi; have z2 := g2.size; have b1 := g2.blk b1; have gg := gg.trans g2; clear N2) | (go_at_call 46; refine (HA.out _ (gg.ml hm)).mono ?_; rintro e w3 ⟨rfl, g3⟩; have z3 := g3.size; have b2 := g3.blk b2; have gg := gg.trans g3) | (refine r_alloc (dst := some 4) 96 _ Tryz.qzero rfl ?_; intro w4 B4 N4; have g4 := N4.gr; have b4 : Blk w4 B4 (qv g00 0 0) 96 := N4.blk; have l4 := N4.lo; have t4 := N4.hi; have z4 := g4.size; have b2 := g4.blk b2; have gg := gg.trans g4; clear N4) | (refine r_store_row 96 96 _ _ _ rfl (qv (g) (b) (k)) _ rfl b4 (Tryz.qsize _ _ _) (by simp only [qv_size]) (qv_one _ _ _) rfl ?_; intro w5 u5 b4'; have z5 := u5.size; have gg := u5.gr gg (by omega); have b2 := u5.blk b2 (by omega); clear b4; have b4 := b4'; clear b4') | (refine r_load_row 96 _ _ rfl _ _ _ b4 Tryz.underlying96 rfl (Tryz.qinfo _ _ _) rfl ?_) | (go_at_call 47; refine (HS _).mono ?_; rintro e w7 ⟨g7, rfl⟩; have gg := gg.trans g7; have b2 := g7.blk b2) | (refine r_store_row 49 49 _ _ _ rfl (slV (.slice none 0 0) (.slice none 0 0)) _ rfl b2 Tryz.slvsize rfl (slV_one rfl rfl) rfl ?_; intro w6 u6 b2'; have gg := u6.gr gg (by omega)))
      refine bodyPost_ret (results_row_bool rfl _ _ _ _ _ _ rfl b2' Tryz.underlying49 rfl Tryz.slvinfo) rfl ?_
      exact ⟨gg, by rw [HV.out]; rfl⟩
    | some y =>
      obtain ⟨S, j⟩ := y
      rw [hr] at HS
      have HV := hidI (slvS_of hp hr)
      clear hp hz hc hr
      go_enter Tryz.func24, Tryz.ntmps24
      go_wp2_with (first | (refine r_box 27 _ (pv (s) (n) (z)) rfl rfl ?_; intro w1 B1 N1; have g1 := N1.gr; have b1 : Blk w1 B1 (pv (s) (n) (z)) 27 := N1.blk; have l1 := N1.lo; have t1 := N1.hi; have z1 := g1.size; have gg := gg.trans g1; clear N1; obtain ⟨b1_0, b1_1, b1_2⟩ := pcells b1) | (refine r_load_row 27 _ _ rfl _ _ _ b1 Tryz.underlying27 rfl Tryz.ipinfo rfl ?_) | (refine r_alloc (dst := some 2) 49 _ Tryz.slvzero rfl ?_; intro w2 B2 N2; have g2 := N2.gr; have b2 : Blk w2 B2 (slV (.slice none 0 0) (.slice none 0 0)) 49 := N2.blk; have l2 := N2.lo; have t2 := N2.hi; have z2 := g2.size; have b1 := g2.blk b1; have gg := gg.trans g2; clear N2) | (go_at_call 46; refine (HA.out _ (gg.ml hm)).mono ?_; rintro e w3 ⟨rfl, g3⟩; have z3 := g3.size; have b2 := g3.blk b2; have gg := gg.trans g3) | (refine r_alloc (dst := some 4) 96 _ Tryz.qzero rfl ?_; intro w4 B4 N4; have g4 := N4.gr; have b4 : Blk w4 B4 (qv g00 0 0) 96 := N4.blk; have l4 := N4.lo; have t4 := N4.hi; have z4 := g4.size; have b2 := g4.blk b2; have gg := gg.trans g4; clear N4) | (refine r_store_row 96 96 _ _ _ rfl (qv (g) (b) (k)) _ rfl b4 (Tryz.qsize _ _ _) (by simp only [qv_size]) (qv_one _ _ _) rfl ?_; intro w5 u5 b4'; have z5 := u5.size; have gg := u5.gr gg (by omega); have b2 := u5.blk b2 (by omega); clear b4; have b4 := b4'; clear b4') | (refine r_load_row 96 _ _ rfl _ _ _ b4 Tryz.underlying96 rfl (Tryz.qinfo _ _ _) rfl ?_) | (have zb := gg.size; go_at_call 47; refine (HS _).mono ?_; rintro e w7 ⟨g7, v, u, nx, rfl, IS, own⟩; have gg := gg.trans g7; have b2 := g7.blk b2; have ov := own_one IS.row; have ou := own_one own) | (refine r_store_row 49 49 _ _ _ rfl (slV v u) _ rfl b2 Tryz.slvsize rfl (slV_one ov ou) rfl ?_; intro w6 u6 b2'; have gg := u6.gr gg (by omega); have row6 := u6.row IS.row (own_ne IS.row b2 (by decide)); have own6 := u6.row own (own_ne own b2 (by decide)); have nxt6 := fun i (hi : i < S.length) => u6.row (IS.nxt i hi) (own_ne (IS.nxt i hi) b2 (by decide))))
      refine bodyPost_ret (results_row_bool rfl _ _ _ _ _ _ rfl b2' Tryz.underlying49 rfl Tryz.slvinfo) rfl ?_
      refine ⟨gg, ?_⟩
      rw [HV.out]
      exact ⟨v, u, nx, rfl, ⟨own_up row6 zb, fun i hi => own_up (nxt6 i hi) zb⟩, own_up own6 zb⟩
set_option maxHeartbeats 1000000 in
set_option maxRecDepth 100000 in
theorem countNil_any (w : World) : Calls Tryz.prog 28 #[.agg (slV (.slice none 0 0) (.slice none 0 0))] w (Ret (.int .i64 0) w) := by
  have gg := Gr.refl w
  go_enter Tryz.func28, Tryz.ntmps28
  go_wp2_with (refine r_box 49 _ (slV (.slice none 0 0) (.slice none 0 0)) rfl rfl ?_; intro w1 B1 N1; have g1 := N1.gr; have b1 := N1.blk; have gg := gg.trans g1; obtain ⟨s0, s1⟩ := slcells b1; clear N1)
  go_loopw [3, 9] (fun cv iv wr => cv = .int .i64 0 ∧ iv = .int .i64 0 ∧ wr = w1) (fun _ _ _ => 0)
  case atStart => exact ⟨rfl, rfl, rfl⟩
  case round =>
    obtain ⟨rfl, rfl, rfl⟩ := hrel
    go_wp2
    go_ret
    exact ⟨rfl, gg⟩
set_option maxHeartbeats 2000000 in
set_option maxRecDepth 100000 in
theorem count_any (base b2 : Nat) (S : List (Sta Grid)) (L : List Nat) (v u : Value) (nx : Nat → Value) (w : World) (hL : ∀ j ∈ L, j < S.length) (hn : L.length ≤ 300) (h0 : 0 < S.length)
    (row : w.ownsRow base 101 43 v S.length (rowsI S nx).flatten) (own : w.ownsRow b2 3 1 u L.length (natsV L)) :
    Calls Tryz.prog 28 #[.agg (slV v u)] w (Ret (.int .i64 (sumW S L)) w) := by
  have gg := Gr.refl w
  obtain ⟨gB, cap, rfl, -, -⟩ := own_shape row h0
  obtain ⟨p2, m2, c2, rfl⟩ := own_slice own
  obtain rfl : m2 = L.length := own_len own
  have HL := hidI hL
  clear hL
  go_enter Tryz.func28, Tryz.ntmps28
  go_wp2_with (refine r_box 49 _ (slV (.slice (some ⟨gB, 0, none⟩) S.length cap) (.slice p2 L.length c2)) rfl rfl ?_; intro w1 B1 N1; have g1 := N1.gr; have b1 := N1.blk; have gg := gg.trans g1; have row := g1.row row; have own := g1.row own; obtain ⟨s0, s1⟩ := slcells b1; clear N1)
  go_loopw [3, 9] (fun cv iv wr => ∃ i : Nat, i ≤ L.length ∧ iv = .int .i64 i ∧ cv = .int .i64 (sumW S (L.take i)) ∧ wr = w1) (fun _ iv _ => L.length - (intOf iv).toNat)
  case atStart => exact ⟨0, Nat.zero_le _, rfl, rfl, rfl⟩
  case round =>
    obtain ⟨i, hi, rfl, rfl, rfl⟩ := hrel
    by_cases hlt : i < L.length
    · obtain ⟨G2, c2', e2, -, -⟩ := own_shape own (by omega)
      cases e2
      obtain ⟨j, hj⟩ : ∃ j, j = L.getD i 0 := ⟨_, rfl⟩
      have hci : wr.cell? ⟨G2, i, none⟩ = some (.int .i64 (j : Int)) := by rw [hj]; exact own_nat own i hlt rfl
      have hjm : j < S.length := HL.out j (by rw [hj, List.getD_eq_getElem?_getD, List.getElem?_eq_getElem hlt]; exact List.getElem_mem hlt)
      have cw := ORel.cell row hjm 1 (by omega)
      obtain ⟨x, hx⟩ : ∃ x, x = (sta S j).words := ⟨_, rfl⟩
      have cw : wr.cell? ⟨gB, j * 43 + 39, none⟩ = some (.int .i64 x) := by rw [hx]; exact cw
      obtain ⟨c, hc⟩ : ∃ c, c = sumW S (L.take i) := ⟨_, rfl⟩
      have HC := hidI (show wrap64 (c + x) = sumW S (L.take (i + 1)) from by
        rw [List.take_add_one, List.getElem?_eq_getElem hlt, hc, hx, hj, List.getD_eq_getElem?_getD, List.getElem?_eq_getElem hlt]
        exact (sumW_snoc S _ _).symm)
      rw [← hc]
      clear hc hx hj
      go_wp2_with (first | (refine r_idx 35 _ _ (.slice (some ⟨G2, 0, none⟩) L.length c2) (.int .i64 i) _ rfl rfl (Tryz.nsixP G2 L.length c2 i hlt _) rfl ?_) | (refine r_ldc 3 _ ⟨G2, i, none⟩ (.int .i64 (j : Int)) rfl (Tryz.isAgg3 _) hci rfl ?_) | (refine r_fld 49 _ 0 (.pointer (some ⟨B1, 0, none⟩)) (.pointer (some ⟨B1, 0, none⟩)) rfl (Tryz.slvf0 B1 _) rfl ?_) | (refine r_ldc 47 _ ⟨B1, 0, none⟩ (.slice (some ⟨gB, 0, none⟩) S.length cap) rfl (Tryz.isAgg47 _) s0 rfl ?_) | (refine r_idx 47 _ _ (.slice (some ⟨gB, 0, none⟩) S.length cap) (.int .i64 j) _ rfl rfl (Tryz.stix gB S.length cap j hjm _) rfl ?_) | (refine r_fld 101 _ 2 (.pointer (some ⟨gB, j * 43, none⟩)) (.pointer (some ⟨gB, j * 43 + 39, none⟩)) rfl (Tryz.stf2 gB (j * 43) _) rfl ?_) | (refine r_ldc 3 _ ⟨gB, j * 43 + 39, none⟩ (.int .i64 x) rfl (Tryz.isAgg3 _) cw rfl ?_) | (refine r_val (.int .i64 (wrap64 (c + x))) (e_addw _ _ c x rfl rfl) rfl ?_))
      go_roundw
      case rel => exact ⟨i + 1, by omega, by go_num, by rw [HC.out], by first | rfl | trivial⟩
      case measure => simp [intOf]; omega
    · obtain rfl : i = L.length := by omega
      clear hlt
      rw [List.take_length]
      go_wp2
      go_ret
      exact ⟨rfl, gg⟩
end Go.Proofs.YtdebiobhmpoiiaaGreatDoor
namespace Go.Proofs.YtdebiobhmpoiiaaGreatDoor
open Go.RowKit
end Go.Proofs.YtdebiobhmpoiiaaGreatDoor
namespace Go.Proofs.YtdebiobhmpoiiaaGreatDoor
open Go.RowKit
set_option maxHeartbeats 4000000 in
set_option maxRecDepth 100000 in
theorem sCountSolutions (s n : ByteArray) (z : Int) (w : World) (hs : s.size ≤ 1048576) : Calls Tryz.prog 26 #[.agg (pv s n z)] w (Ret (.tuple #[.int .i64 (csN s.data.toList n z), .bool (lnOk s.data.toList n z)]) w) := by
  have gg := Gr.refl w
  have HA := fun w => puStates_any s n z w hs
  unfold RetPu at HA
  cases hR : slvS s.data.toList n z with
  | none =>
    have HN := hidI (show csN s.data.toList n z = 0 from by unfold csN; rw [hR])
    have HO := hidI (show lnOk s.data.toList n z = false from by unfold lnOk; rw [hR]; rfl)
    rw [hR] at HA
    clear hR
    go_enter Tryz.func26, Tryz.ntmps26
    go_wp2_with (first | (refine r_box 27 _ (pv (s) (n) (z)) rfl rfl ?_; intro w1 B1 N1; have g1 := N1.gr; have b1 : Blk w1 B1 (pv (s) (n) (z)) 27 := N1.blk; have l1 := N1.lo; have t1 := N1.hi; have z1 := g1.size; have gg := gg.trans g1; clear N1; obtain ⟨b1_0, b1_1, b1_2⟩ := pcells b1) | (refine r_load_row 27 _ _ rfl _ _ _ b1 Tryz.underlying27 rfl Tryz.ipinfo rfl ?_) | (go_at_call 22; refine (HA _).mono ?_; rintro e w2 ⟨g2, v, f, rfl⟩; have gg := gg.trans g2))
    go_ret2
    exact ⟨fin_ibP HN.out.symm HO.out.symm, gg⟩
  | some x =>
    obtain ⟨S, b, k, j⟩ := x
    obtain ⟨g, hp, hs2⟩ := slvS_some hR
    obtain ⟨hrs, hfs, -⟩ := slvG_some hs2
    have hz := pz_some hp
    have hk := hz.kl
    obtain ⟨hc, -, -, hl⟩ := pz_tray hz
    have hlen36 : g.c.length ≤ 36 := by have := hc.len; have := hc.n36; omega
    have hi := reachS_inv Sized.tilt ⟨hc, rfl, rfl⟩ hrs
    have h0 := hi.pos
    have h300 := hi.le
    have hone := rc_one hz.pr hz.isN hz.ix (slvG_rc hz.pr ▸ hrs)
    obtain rfl : z = k := hz.ze
    obtain rfl : n = ⟨#[b]⟩ := hz.n1
    have HST := hidI (fun j (hj : j < S.length) => show 0 < (sta S j).t.c.length ∧ (sta S j).t.c.length ≤ 36 ∧ (ixC (sta S j).t.c b (sta S j).t.c.length = (k : Int) ↔ at0 (sta S j).t.c k = b) from by
      have e := hone.len j hj
      exact ⟨by omega, by omega, hone.iff hj hk⟩)
    have HN := hidI (show csN s.data.toList ⟨#[b]⟩ k = sumW S (sdTo S b k (sta S j).far S.length) from by unfold csN; rw [hR])
    have HO := hidI (show lnOk s.data.toList ⟨#[b]⟩ k = true from by unfold lnOk; rw [hR]; rfl)
    rw [hR] at HA
    dsimp only at HA
    obtain ⟨ff, hff⟩ : ∃ ff, ff = (sta S j).far := ⟨_, rfl⟩
    rw [← hff] at HA HN
    clear hR hp hs2 hrs hfs hz hc hi hone hff
    go_enter Tryz.func26, Tryz.ntmps26
    go_wp2_with (first | (refine r_box 27 _ (pv (s) (⟨#[b]⟩) (k)) rfl rfl ?_; intro w1 B1 N1; have g1 := N1.gr; have b1 : Blk w1 B1 (pv (s) (⟨#[b]⟩) (k)) 27 := N1.blk; have l1 := N1.lo; have t1 := N1.hi; have z1 := g1.size; have gg := gg.trans g1; clear N1; obtain ⟨b1_0, b1_1, b1_2⟩ := pcells b1) | (refine r_load_row 27 _ _ rfl _ _ _ b1 Tryz.underlying27 rfl Tryz.ipinfo rfl ?_) | (go_at_call 22; refine (HA _).mono ?_; rintro e w4 ⟨g4, v, bk, sl, nx, rfl, M4, -⟩; obtain ⟨gB, cap, rfl, hlo, hcap⟩ := own_shape M4.row h0; have b14 := g4.blk b1; have gg4 := gg.trans g4))
    go_loopw [7, 20] (fun cv iv wr => ∃ m : Nat, m ≤ S.length ∧ iv = .int .i64 m ∧ cv = .int .i64 (sumW S (sdTo S b k ff m)) ∧ Gr w4 wr) (fun _ iv _ => S.length - (intOf iv).toNat)
    case atStart => exact ⟨0, Nat.zero_le _, rfl, rfl, Gr.refl _⟩
    case round =>
      obtain ⟨m, hm, rfl, rfl, k4⟩ := hrel
      have gg := gg4.trans k4
      have b1 := k4.blk b14
      have M := M4.gr k4
      by_cases hlt : m < S.length
      · obtain ⟨hl0, hl36, hxi⟩ := HST.out m hlt
        have HSD := hidI (sdTo_succ S b k ff m)
        obtain ⟨b0, hb0⟩ : ∃ b0, b0 = bk m := ⟨_, rfl⟩
        have cp := M.ptr hlt
        have hblk := M.blk m hlt
        have hgrd := M.grd m hlt
        obtain ⟨c, hc⟩ : ∃ c, c = (sta S m).t.c := ⟨_, rfl⟩
        have hrg := rec_rangeP hblk
        have hcf : wr.cell? ⟨bk m, 4, none⟩ = some (.int .i64 ((sta S m).far : Int)) := hblk.cell 4
        have hcw : wr.cell? ⟨bk m, 5, none⟩ = some (.int .i64 (sta S m).words) := hblk.cell 5
        obtain ⟨W, hW⟩ : ∃ W : Nat, W = (sta S m).t.w := ⟨_, rfl⟩
        obtain ⟨H, hH⟩ : ∃ H : Nat, H = (sta S m).t.h := ⟨_, rfl⟩
        obtain ⟨far, hfar⟩ : ∃ far, far = (sta S m).far := ⟨_, rfl⟩
        obtain ⟨wds, hwds⟩ : ∃ wds, wds = (sta S m).words := ⟨_, rfl⟩
        rw [← hc] at hgrd hl0 hl36 hxi HSD
        rw [← hb0, ← hW, ← hH] at hrg
        rw [← hb0, ← hfar] at hcf
        rw [← hb0, ← hwds] at hcw
        rw [← hfar] at HSD
        rw [← hb0] at cp
        obtain ⟨sk, hsk⟩ : ∃ sk, sk = sl m := ⟨_, rfl⟩
        rw [← hsk] at hgrd hrg
        obtain ⟨G, capg, rfl, -, -⟩ := own_shape hgrd hl0
        obtain ⟨X, hX⟩ : ∃ X, X = ixC c b c.length := ⟨_, rfl⟩
        have HX := hidI hX
        rw [← hX] at hxi
        have HXI := hidI hxi
        have HSN := hidI (show sumW S (sdTo S b k ff m ++ [m]) = wrap64 (sumW S (sdTo S b k ff m) + wds) from by rw [hwds]; exact sumW_snoc _ _ _)
        obtain ⟨cnt0, hcnt⟩ : ∃ cnt0, cnt0 = sumW S (sdTo S b k ff m) := ⟨_, rfl⟩
        have HCT := hidI hcnt
        rw [← hcnt]
        rw [← hcnt] at HSN
        clear hc hW hH hblk hX hxi hb0 hsk hfar hwds hcnt
        obtain ⟨b1_0, b1_1, b1_2⟩ := pcells b1
        go_wp2_with (first | (refine r_idx 43 _ _ (.slice (some ⟨gB, 0, none⟩) S.length cap) (.int .i64 m) _ rfl rfl (Tryz.psix gB S.length cap m hlt _) rfl ?_) | (refine r_ldc 89 _ ⟨gB, m, none⟩ (ptrV b0) rfl (Tryz.isAgg89 _) cp rfl ?_))
        refine q_whole (by kernel_rfl) (by kernel_rfl) ?_
        refine q_move _ (.pointer (some ⟨b0, 0, none⟩)) rfl rfl ?_; simp only [Act.put, List.setIfInBounds_toArray, List.set_cons_succ, List.set_cons_zero]
        refine q_take (.pointer (some ⟨b0, 0, Option.none⟩)) rfl (fun w' hw' => rfl) ?_; simp only [Act.put, List.setIfInBounds_toArray, List.set_cons_succ, List.set_cons_zero]
        refine q_take (.pointer (some ⟨b0, 4, none⟩)) rfl (fun w' hw' => e_val _ _ (Tryz.rf2 _ _)) ?_; simp only [Act.put, List.setIfInBounds_toArray, List.set_cons_succ, List.set_cons_zero]
        refine q_take (.int .i64 (far : Int)) rfl (fun w' hw' => e_load 3 (.tmp 26) _ _ rfl (Tryz.isAgg3 _) (hw'.cell hcf)) ?_; simp only [Act.put, List.setIfInBounds_toArray, List.set_cons_succ, List.set_cons_zero]
        refine q_move _ (.int .i64 (ff : Int)) rfl rfl ?_; simp only [Act.put, List.setIfInBounds_toArray, List.set_cons_succ, List.set_cons_zero]
        by_cases hfe : far = ff
        · have hdec : decide ((far : Int) = (ff : Int)) = true := decide_eq_true (by omega)
          refine q_take (.bool true) rfl (fun w' hw' => e_eqK _ _ _ _ _ rfl rfl hdec) ?_; simp only [Act.put, List.setIfInBounds_toArray, List.set_cons_succ, List.set_cons_zero]
          refine q_move _ (.bool true) rfl rfl ?_; simp only [Act.put, List.setIfInBounds_toArray, List.set_cons_succ, List.set_cons_zero]
          refine q_move _ (.pointer (some ⟨b0, 0, none⟩)) rfl rfl ?_; simp only [Act.put, List.setIfInBounds_toArray, List.set_cons_succ, List.set_cons_zero]
          refine q_take (.pointer (some ⟨b0, 0, Option.none⟩)) rfl (fun w' hw' => rfl) ?_; simp only [Act.put, List.setIfInBounds_toArray, List.set_cons_succ, List.set_cons_zero]
          refine q_take (.pointer (some ⟨b0, 0, none⟩)) rfl (fun w' hw' => e_val _ _ (Tryz.rf0 _ _)) ?_; simp only [Act.put, List.setIfInBounds_toArray, List.set_cons_succ, List.set_cons_zero]
          refine q_take (.agg (tg W H (.slice (some ⟨G, 0, Option.none⟩) c.length capg))) rfl (fun w' hw' => e_load_mid 60 (.tmp 33) b0 0 (tg W H (.slice (some ⟨G, 0, Option.none⟩) c.length capg)).toList _ rfl (fun j u hj => hw'.cell (hrg j u hj)) Tryz.underlying60 rfl Tryz.tinfo) ?_; simp only [Act.put, List.setIfInBounds_toArray, List.set_cons_succ, List.set_cons_zero]
          refine q_take (.pointer (some ⟨B1, 1, none⟩)) rfl (fun w' hw' => e_val _ _ (Tryz.ipf1 _ _)) ?_; simp only [Act.put, List.setIfInBounds_toArray, List.set_cons_succ, List.set_cons_zero]
          refine q_take (.string ⟨#[b]⟩) rfl (fun w' hw' => e_load 9 (.tmp 35) _ _ rfl (Tryz.isAgg9 _) (hw'.cell b1_1)) ?_; simp only [Act.put, List.setIfInBounds_toArray, List.set_cons_succ, List.set_cons_zero]
          refine q_take (.int .u8 b.toNat) rfl (fun w' hw' => e_val _ _ (s_idx0 Tryz.underlying9 b _)) ?_; simp only [Act.put, List.setIfInBounds_toArray, List.set_cons_succ, List.set_cons_zero]
          refine q_call 43 [.tmp 34, .tmp 37] _ [.agg (tg W H (.slice (some ⟨G, 0, Option.none⟩) c.length capg)), .int .u8 b.toNat] (.int .i64 X) Tryz.call43 rfl rfl (fun w' hw' => (tiPlace_any W H _ c b G capg w' hl36 (hw'.row hgrd)).mono fun e w'' h => ⟨by rw [HX.out]; exact h.1, hw'.trans h.2⟩) ?_; simp only [Act.put, List.setIfInBounds_toArray, List.set_cons_succ, List.set_cons_zero]
          refine q_take (.pointer (some ⟨B1, 2, none⟩)) rfl (fun w' hw' => e_val _ _ (Tryz.ipf2 _ _)) ?_; simp only [Act.put, List.setIfInBounds_toArray, List.set_cons_succ, List.set_cons_zero]
          refine q_take (.int .i64 k) rfl (fun w' hw' => e_load 3 (.tmp 39) _ _ rfl (Tryz.isAgg3 _) (hw'.cell b1_2)) ?_; simp only [Act.put, List.setIfInBounds_toArray, List.set_cons_succ, List.set_cons_zero]
          by_cases hXk : X = (k : Int)
          · have hdec2 : decide (X = (k : Int)) = true := decide_eq_true hXk
            refine q_take (.bool true) rfl (fun w' hw' => e_eqK _ _ _ _ _ rfl rfl hdec2) ?_; simp only [Act.put, List.setIfInBounds_toArray, List.set_cons_succ, List.set_cons_zero]
            refine q_take (.bool true) rfl (fun w' hw' => by first | rfl | (unfold execOp; simp [go_sem, Act.eval])) ?_
            simp only [Act.put, List.setIfInBounds_toArray, List.set_cons_succ, List.set_cons_zero]
            have HS2 := hidI (show wrap64 (cnt0 + wds) = sumW S (sdTo S b k ff (m + 1)) from by rw [HSD.out, if_pos ⟨hfe, HXI.out.1 hXk⟩]; exact HSN.out.symm)
            refine wpQuiet_nil ?_
            intro wq gq
            have k4 := k4.trans gq
            have hcw := gq.cell hcw
            clear hfe hXk hdec hdec2
            go_wp2_with (first | ((with_reducible (refine r_nil _ ⟨b0, 0, none⟩ ?hx ?hg ?h)); (case hx => rfl); (case hg => rfl)) | ((with_reducible (refine r_fld 92 _ 3 (.pointer (some ⟨b0, 0, none⟩)) (.pointer (some ⟨b0, 5, none⟩)) ?hx (Tryz.rf3 _ _) ?hg ?h)); (case hx => rfl); (case hg => rfl)) | ((with_reducible (refine r_ldc 3 _ ⟨b0, 5, none⟩ (.int .i64 wds) ?hx (Tryz.isAgg3 _) (hcw) ?hg ?h)); (case hx => rfl); (case hg => rfl)) | (refine r_val (.int .i64 (wrap64 (cnt0 + wds))) (e_addw _ _ cnt0 wds rfl rfl) rfl ?_))
            go_roundw
            case rel => exact ⟨m + 1, by omega, by go_num, by rw [← HS2.out], k4⟩
            case measure => simp [intOf]; omega
          · have hdec2 : decide (X = (k : Int)) = false := decide_eq_false hXk
            have HS2 := hidI (show cnt0 = sumW S (sdTo S b k ff (m + 1)) from by rw [HSD.out, if_neg (fun h => hXk (HXI.out.2 h.2))]; exact HCT.out)
            refine q_take (.bool false) rfl (fun w' hw' => e_eqK _ _ _ _ _ rfl rfl hdec2) ?_; simp only [Act.put, List.setIfInBounds_toArray, List.set_cons_succ, List.set_cons_zero]
            refine q_take (.bool false) rfl (fun w' hw' => by first | rfl | (unfold execOp; simp [go_sem, Act.eval])) ?_
            simp only [Act.put, List.setIfInBounds_toArray, List.set_cons_succ, List.set_cons_zero]
            clear hfe hXk hdec hdec2
            refine wpQuiet_nil ?_
            intro wq gq
            have k4 := k4.trans gq
            go_wp2
            go_roundw
            case rel => exact ⟨m + 1, by omega, by go_num, by rw [HS2.out], k4⟩
            case measure => simp [intOf]; omega
        · have hdec : decide ((far : Int) = (ff : Int)) = false := decide_eq_false (by omega)
          have HS2 := hidI (show cnt0 = sumW S (sdTo S b k ff (m + 1)) from by rw [HSD.out, if_neg (fun h => hfe h.1)]; exact HCT.out)
          refine q_take (.bool false) rfl (fun w' hw' => e_eqK _ _ _ _ _ rfl rfl hdec) ?_; simp only [Act.put, List.setIfInBounds_toArray, List.set_cons_succ, List.set_cons_zero]
          refine q_move _ (.bool false) rfl rfl ?_; simp only [Act.put, List.setIfInBounds_toArray, List.set_cons_succ, List.set_cons_zero]
          go_big_quiet_skip
          go_big_quiet_skip
          go_big_quiet_skip
          go_big_quiet_skip
          go_big_quiet_skip
          go_big_quiet_skip
          go_big_quiet_skip
          go_big_quiet_skip
          go_big_quiet_skip
          go_big_quiet_skip
          go_big_quiet_skip
          refine q_take (.bool false) rfl (fun w' hw' => by first | rfl | (unfold execOp; simp [go_sem, Act.eval])) ?_
          simp only [Act.put, List.setIfInBounds_toArray, List.set_cons_succ, List.set_cons_zero]
          clear hfe hdec
          refine wpQuiet_nil ?_
          intro wq gq
          have k4 := k4.trans gq
          go_wp2
          go_roundw
          case rel => exact ⟨m + 1, by omega, by go_num, by rw [HS2.out], k4⟩
          case measure => simp [intOf]; omega
      · obtain rfl : m = S.length := by omega
        clear hlt
        go_wp2
        go_ret2
        exact ⟨fin_ibP HN.out.symm HO.out.symm, gg⟩
end Go.Proofs.YtdebiobhmpoiiaaGreatDoor
