/-
  Behind how many times of a word a tray comes again: in the program and in the model; and the law.
-/
import Derived.Test.YtbppbbkcampglaaDoorPeriI
namespace Go.Proofs.YtbppbbkcampglaaDoor
open Go.RowKit
/-- The grid behind n times of the word. -/
def sqG (g : Grid) (ds : List Nat) : Nat → Grid
  | 0 => g
  | n + 1 => runG ds (sqG g ds n)
theorem sqG_succ (g : Grid) (ds : List Nat) (n : Nat) : sqG g ds (n + 1) = runG ds (sqG g ds n) := rfl
theorem sqG_facts {g : Grid} {ds : List Nat} (hg : Cel g) (hd : ∀ d ∈ ds, d < 4) (n : Nat) : Cel (sqG g ds n) ∧ (sqG g ds n).w = g.w ∧ (sqG g ds n).h = g.h := by
  induction n with
  | zero => exact ⟨hg, rfl, rfl⟩
  | succ n ih =>
    obtain ⟨e1, e2⟩ := runG_w ds (sqG g ds n)
    exact ⟨ih.1.run ds hd, e1.trans ih.2.1, e2.trans ih.2.2⟩
/-- The search: f rounds more, n are done. -/
def peF (F : Nat → Grid) : Nat → Nat → Option (Nat × Nat)
  | 0, _ => none
  | f + 1, n => match (List.range n).find? (fun k => sameB (F n) (F k)) with
    | some k => some (k, n - k)
    | none => peF F f (n + 1)
theorem peF_hit {F : Nat → Grid} {n k : Nat} (hn : n ≤ 200) (h : (List.range n).find? (fun k => sameB (F n) (F k)) = some k) : peF F (201 - n) n = some (k, n - k) := by
  rw [show 201 - n = (200 - n) + 1 by omega, peF, h]
theorem peF_next {F : Nat → Grid} {n : Nat} (hn : n ≤ 200) (h : (List.range n).find? (fun k => sameB (F n) (F k)) = none) : peF F (201 - n) n = peF F (201 - (n + 1)) (n + 1) := by
  rw [show 201 - n = (200 - n) + 1 by omega, peF, h]
  show peF F (200 - n) (n + 1) = _
  rw [show 201 - (n + 1) = 200 - n by omega]
theorem peF_end (F : Nat → Grid) : peF F (201 - 201) 201 = none := rfl
def peOk (l : List UInt8) (u : ByteArray) : Bool := rdOk l && wordB u && decide (0 < u.size)
def peR (l : List UInt8) (u : ByteArray) : Option (Nat × Nat) := if peOk l u then peF (sqG (rdG l) (wds u)) 201 0 else none
def peV : Option (Nat × Nat) → Value
  | some (a, b) => .tuple #[.int .i64 a, .int .i64 b, .bool true]
  | none => .tuple #[.int .i64 0, .int .i64 0, .bool false]
theorem peV_none : peV none = .tuple #[.int .i64 0, .int .i64 0, .bool false] := rfl
def lenP : Value → Nat
  | .slice _ n _ => n
  | _ => 0
theorem lenP_slice (p : Option Addr) (n k : Nat) : lenP (.slice p n k) = n := rfl
theorem ret_ve {v v' : Value} (h : v = v') : Ending.returned v = Ending.returned v' := by rw [h]
theorem Tryd.grI : ElemInfo Tryd.prog 59 47 (.agg (gv 0 0 [])) 38 56 := ⟨Tryd.underlying59, by kernel_rfl, by kernel_rfl, by decide⟩
theorem Tryd.grs1 (W H : Int) (c : List UInt8) (w : World) : (Instr.buildSlice 59 1 #[(0, .agg (gv W H c))]).run Tryd.prog w = .ok (.slice (some ⟨w.heap.size, 0, none⟩) 1 1) (w.alloc (.cells (gv W H c) 47)) := by kernel_rfl
theorem new38 {w w1 : World} {B : Nat} {W H : Int} {c : List UInt8} {e : TypeId} (h : New w w1 B (gv W H c) e) : ∀ (j : Nat) v, (gv W H c).toList[j]? = some v → w1.cell? ((⟨B, 0, none⟩ : Addr).add j) = some v := by
  intro j v hj
  rw [add_flat', Blk.cell h.blk j]
  simpa using hj
set_option maxHeartbeats 800000 in
set_option maxRecDepth 100000 in
theorem iPeriodOfWord (s u : ByteArray) (w : World) (hm : ML w) (hs : s.size ≤ 1048576) : Calls Tryd.prog 17 #[.string s, .string u] w (Ret (peV (peR s.data.toList u)) w) := by
  have gg := Gr.refl w
  rcases rd_cases s.data.toList with ⟨hg, hp, hk⟩ | ⟨g, hp, hg, hk⟩
  · have HK := hidI hk
    have HV := hidI (show peR s.data.toList u = none from by unfold peR peOk; rw [hk]; rfl)
    clear hg hp hk
    go_enter Tryd.func17, Tryd.ntmps17
    go_wp2_with (first | (go_at_call 25; refine (readTray_any s _ hm hs).mono ?_; rintro e w1 ⟨rfl, g1⟩; rw [HK.out]; have z1 := g1.size; have gg := gg.trans g1) | (refine r_alloc 47 _ Tryd.gzero rfl ?_; intro w2 B2 N2; have g2 := N2.gr; have b2 : Blk w2 B2 (gv 0 0 []) 47 := N2.blk; have l2 := N2.lo; have t2 := N2.hi; have z2 := g2.size; have gg := gg.trans g2; clear N2; obtain ⟨b2_0, b2_1, b2_2⟩ := gcells b2) | (refine r_store_row 47 47 _ _ _ rfl (gv _ _ _) _ rfl b2 (Tryd.gsize' _ _ _) (by simp only [gv_size]) (gv_one _ _ _) rfl ?_; intro w3 u3 b2'; have z3 := u3.size; have gg := u3.gr gg (by omega); clear b2; have b2 := b2'; clear b2'; obtain ⟨b2_0, b2_1, b2_2⟩ := gcells b2))
    go_ret3
    exact ⟨ret_ve (by rw [HV.out]; rfl), gg⟩
  · have HK := hidI hk
    have HG := hidI hg
    cases hv : wordB u
    · have HV := hidI (show peR s.data.toList u = none from by unfold peR peOk; rw [hv, Bool.and_false]; rfl)
      have HWV := hidI hv
      clear hg hp hk hv
      go_enter Tryd.func17, Tryd.ntmps17
      go_wp2_with (first | (go_at_call 25; refine (readTray_any s _ hm hs).mono ?_; rintro e w1 ⟨rfl, g1⟩; rw [HK.out, HG.out, gvG]; have z1 := g1.size; have gg := gg.trans g1) | (refine r_alloc 47 _ Tryd.gzero rfl ?_; intro w2 B2 N2; have g2 := N2.gr; have b2 : Blk w2 B2 (gv 0 0 []) 47 := N2.blk; have l2 := N2.lo; have t2 := N2.hi; have z2 := g2.size; have gg := gg.trans g2; clear N2; obtain ⟨b2_0, b2_1, b2_2⟩ := gcells b2) | (refine r_store_row 47 47 _ _ _ rfl (gv g.w g.h g.c) _ rfl b2 (Tryd.gsize' _ _ _) (by simp only [gv_size]) (gv_one _ _ _) rfl ?_; intro w3 u3 b2'; have z3 := u3.size; have gg := u3.gr gg (by omega); clear b2; have b2 := b2'; clear b2'; obtain ⟨b2_0, b2_1, b2_2⟩ := gcells b2) | (go_at_call 20; refine (iIsWord u _).mono ?_; rintro e w4 ⟨rfl, g4⟩; rw [HWV.out]; have z4 := g4.size; have gg := gg.trans g4))
      go_ret3
      exact ⟨ret_ve (by rw [HV.out]; rfl), gg⟩
    · have HWV := hidI hv
      by_cases h0 : u.size = 0
      · have HV := hidI (show peR s.data.toList u = none from by unfold peR peOk; rw [decide_eq_false (show ¬ 0 < u.size by omega), Bool.and_false]; rfl)
        have hem : decide (u = ByteArray.mk #[]) = true := by rw [decide_eq_true_eq]; exact ByteArray.ext (Array.eq_empty_of_size_eq_zero h0)
        have hem' : ByteArray.mk #[] = u := (by simpa using hem : u = ByteArray.mk #[]).symm
        subst hem'
        clear hg hp hk hv h0 hem
        go_enter Tryd.func17, Tryd.ntmps17
        go_wp2_with (first | (go_at_call 25; refine (readTray_any s _ hm hs).mono ?_; rintro e w1 ⟨rfl, g1⟩; rw [HK.out, HG.out, gvG]; have z1 := g1.size; have gg := gg.trans g1) | (refine r_alloc 47 _ Tryd.gzero rfl ?_; intro w2 B2 N2; have g2 := N2.gr; have b2 : Blk w2 B2 (gv 0 0 []) 47 := N2.blk; have l2 := N2.lo; have t2 := N2.hi; have z2 := g2.size; have gg := gg.trans g2; clear N2; obtain ⟨b2_0, b2_1, b2_2⟩ := gcells b2) | (refine r_store_row 47 47 _ _ _ rfl (gv g.w g.h g.c) _ rfl b2 (Tryd.gsize' _ _ _) (by simp only [gv_size]) (gv_one _ _ _) rfl ?_; intro w3 u3 b2'; have z3 := u3.size; have gg := u3.gr gg (by omega); clear b2; have b2 := b2'; clear b2'; obtain ⟨b2_0, b2_1, b2_2⟩ := gcells b2) | (go_at_call 20; refine (iIsWord _ _).mono ?_; rintro e w4 ⟨rfl, g4⟩; rw [HWV.out]; have z4 := g4.size; have gg := gg.trans g4))
        go_ret3
        exact ⟨ret_ve (by rw [HV.out]; rfl), gg⟩
      · obtain ⟨hc, -, -, -⟩ := cel_of hp
        have hu40 := (wordB_iff.1 hv).1
        have hne : u ≠ ByteArray.mk #[] := fun e => h0 (by rw [e]; rfl)
        have hie : u.toList.isEmpty = false := by
          rw [ByteArray.toList_eq]
          cases he : u.data.toList with
          | nil => exact absurd (ByteArray.ext (Array.toList_eq_nil_iff.1 he)) hne
          | cons _ _ => rfl
        have HV := hidI (show peR s.data.toList u = peF (sqG g (wds u)) (201 - 0) 0 from by
          unfold peR peOk
          rw [hk, hv, hg, decide_eq_true (show 0 < u.size by omega)]
          rfl)
        obtain ⟨F, hF⟩ : ∃ F, F = sqG g (wds u) := ⟨_, rfl⟩
        rw [← hF] at HV
        obtain ⟨R, hR⟩ : ∃ R, R = peR s.data.toList u := ⟨_, rfl⟩
        rw [← hR] at HV ⊢
        have HF0 := hidI (show F 0 = g from by rw [hF]; rfl)
        have HTL := hidI (fun (n : Nat) (w : World) (wv : Value) (h : WordAt w wv (wds u)) => show Calls Tryd.prog 36 #[.agg (gv (F n).w (F n).h (F n).c), wv] w (Ret (.agg (gv (F (n + 1)).w (F (n + 1)).h (F (n + 1)).c)) w) from by
          have := tilted_any (sqG g (wds u) n) (wds u) wv w (sqG_facts hc (wds_lt hv) n).1 (wds_lt hv) h (by rw [wds_length]; omega)
          rw [← sqG_succ, ← hF] at this
          exact this)
        clear hg hp hk hv hc hF hR
        go_enter Tryd.func17, Tryd.ntmps17
        go_wp2_with (first | (go_at_call 25; refine (readTray_any s _ hm hs).mono ?_; rintro e w1 ⟨rfl, g1⟩; rw [HK.out, HG.out, gvG]; have z1 := g1.size; have gg := gg.trans g1) | (refine r_alloc 47 _ Tryd.gzero rfl ?_; intro w2 B2 N2; have g2 := N2.gr; have b2 : Blk w2 B2 (gv 0 0 []) 47 := N2.blk; have l2 := N2.lo; have t2 := N2.hi; have z2 := g2.size; have gg := gg.trans g2; clear N2; obtain ⟨b2_0, b2_1, b2_2⟩ := gcells b2) | (refine r_store_row 47 47 _ _ _ rfl (gv g.w g.h g.c) _ rfl b2 (Tryd.gsize' _ _ _) (by simp only [gv_size]) (gv_one _ _ _) rfl ?_; intro w3 u3 b2'; have z3 := u3.size; have gg := u3.gr gg (by omega); clear b2; have b2 := b2'; clear b2'; obtain ⟨b2_0, b2_1, b2_2⟩ := gcells b2) | (go_at_call 20; refine (iIsWord u _).mono ?_; rintro e w4 ⟨rfl, g4⟩; rw [HWV.out]; have z4 := g4.size; have b2 := g4.blk b2; have gg := gg.trans g4))
        obtain ⟨bs, hbs⟩ : ∃ bs, bs = B2 + 1 := ⟨_, rfl⟩
        have lo2 : w.heap.size ≤ B2 := by omega
        have tb2 := b2.lt
        have own0 : w4.ownsRow bs 47 38 (.slice none 0 0) 0 (rowsG F 0).flatten := World.ownsRow_nil _ _ _ _
        rw [← HF0.out] at b2
        go_loopw [9, 10] (fun sv _ wr => ∃ n : Nat, n ≤ 201 ∧ Hid (R = peF F (201 - n) n) ∧ wr.ownsRow bs 47 38 sv n (rowsG F n).flatten ∧ Blk wr B2 (gv (F n).w (F n).h (F n).c) 47 ∧ Gr w wr ∧ bs ≤ wr.heap.size) (fun sv _ _ => 201 - lenP sv)
        case atStart => exact ⟨0, by omega, HV, own0, b2, gg, by omega⟩
        case round =>
          clear own0 b2 gg
          obtain ⟨n, hn, HR, own, b2, gg, hbz⟩ := hrel
          obtain ⟨p, cap, rfl⟩ := own_sliceN own
          have tb2 := b2.lt
          have hB2 : B2 < bs := by omega
          have zr := gg.size
          by_cases hlt : n ≤ 200
          · have hne2 := own_below own hB2
            have HGR := hidI (own_gr own (show w.heap.size ≤ bs by omega))
            have HRS := hidI (rowsG_snoc F n)
            have HTL := hidI (HTL.out n)
            obtain ⟨k, hk⟩ : ∃ k, k = F n := ⟨_, rfl⟩
            obtain ⟨k', hk'⟩ : ∃ k', k' = F (n + 1) := ⟨_, rfl⟩
            cases hf : (List.range n).find? (fun j => sameB (F n) (F j)) with
            | none =>
              have HIX := hidI (fun (w : World) (own : w.ownsRow bs 47 38 (.slice p n cap) n (rowsG F n).flatten) => show Calls Tryd.prog 35 #[.slice p n cap, .agg (gv k.w k.h k.c)] w (Ret (.int .i64 (-1)) w) from by
                have := indexG_any F n bs (F n) (.slice p n cap) w (by omega) own
                rw [show fiN (fun j => sameB (F n) (F j)) n = -1 by unfold fiN; rw [hf], ← hk] at this
                exact this)
              have HRN := hidI (show R = peF F (201 - (n + 1)) (n + 1) from HR.out.trans (peF_next hlt hf))
              have HK' := hidI hk'
              rw [← hk, ← hk'] at HTL
              rw [← hk] at b2 HRS
              clear hf hk hk' HR
              go_wp2_with (first | (refine r_load_row 47 _ _ rfl _ _ _ b2 Tryd.underlying47 rfl (Tryd.ginfo' _ _ _) rfl ?_) | (go_at_call 35; refine (HIX.out _ own).mono ?_; rintro e w5 ⟨rfl, g5⟩; have b2 := g5.blk b2; have own := g5.row own; have gg := gg.trans g5; have z5 := g5.size) | (refine r_slice1s 59 47 (.tmp 41) (.agg (gv k.w k.h k.c)) (gv k.w k.h k.c) rfl (Tryd.grs1 _ _ _ _) rfl ?_; intro w6 B6 N6; have g6 := N6.gr; have b2 := g6.blk b2; have own := g6.row own; have gg := gg.trans g6; have z6 := g6.size) | (refine r_append (.tmp 40) (.tmp 42) 59 47 _ 38 56 bs Tryd.grI (.slice p n cap) n (rowsG F n).flatten rfl own ⟨B6, 0, none⟩ 1 1 (gv k.w k.h k.c).toList rfl (by rw [Array.length_toList, gv_size]) (new38 N6) (gv_one _ _ _) (by omega) (by decide) (by omega) rfl ?_; intro v7 w7 own7 g7; have b2 := g7.blk b2 hne2; have gg := g7.gr gg HGR.out; have z7 := g7.size; have own7 := (show w7.ownsRow bs 47 38 v7 (n + 1) (rowsG F (n + 1)).flatten from HRS.out ▸ own7); obtain ⟨p7, q7, rfl⟩ := own_sliceN own7) | (refine r_bytes 9 38 5 _ u rfl Tryd.underlying9 Tryd.underlying38 Tryd.underlying5 rfl ?_; intro wa Ba capa ga la ba hcapa; have gg := gg.trans ga; have b2 := ga.blk b2; have own7 := ga.row own7; have za := ga.size; have WA := word_of_bb (cap := capa) ba HWV.out) | (go_at_call 36; refine (HTL.out _ _ WA).mono ?_; rintro e w8 ⟨rfl, g8⟩; have b2 := g8.blk b2; have own7 := g8.row own7; have gg := gg.trans g8; have z8 := g8.size) | (have hbl := own_below own7 hB2; refine r_store_row 47 47 _ _ B2 rfl (gv k'.w k'.h k'.c) _ rfl b2 (Tryd.gsize' _ _ _) (by simp only [gv_size]) (gv_one _ _ _) rfl ?_; intro w9 u9 b29; have own9 := u9.row own7 hbl; have gg := u9.gr gg (by omega); have z9 := u9.size))
              simp only [Act.put]
              go_roundw
              case rel => exact ⟨n + 1, by omega, HRN, own9, HK'.out ▸ b29, gg, by omega⟩
              case measure => rw [lenP_slice, lenP_slice]; omega
            | some j =>
              have hjn : j < n := by
                have := List.mem_of_find?_eq_some hf
                exact List.mem_range.1 this
              have HIX := hidI (fun (w : World) (own : w.ownsRow bs 47 38 (.slice p n cap) n (rowsG F n).flatten) => show Calls Tryd.prog 35 #[.slice p n cap, .agg (gv k.w k.h k.c)] w (Ret (.int .i64 j) w) from by
                have := indexG_any F n bs (F n) (.slice p n cap) w (by omega) own
                rw [show fiN (fun j => sameB (F n) (F j)) n = j by unfold fiN; rw [hf], ← hk] at this
                exact this)
              have HRN := hidI (show R = some (j, n - j) from HR.out.trans (peF_hit hlt hf))
              rw [← hk] at b2
              clear hf hk hk' HR HRS
              go_wp2_with (first | (refine r_load_row 47 _ _ rfl _ _ _ b2 Tryd.underlying47 rfl (Tryd.ginfo' _ _ _) rfl ?_) | (go_at_call 35; refine (HIX.out _ own).mono ?_; rintro e w5 ⟨rfl, g5⟩; have b2 := g5.blk b2; have own := g5.row own; have gg := gg.trans g5; have z5 := g5.size))
              go_ret3
              exact ⟨ret_ve (by rw [HRN.out]; show Value.tuple _ = Value.tuple _; simp; omega), gg⟩
          · obtain rfl : n = 201 := by omega
            have HRN := hidI (show R = none from HR.out.trans (peF_end F))
            clear hlt HR
            go_wp2
            go_ret3
            exact ⟨ret_ve (by rw [HRN.out]; rfl), gg⟩
theorem e_eqlSv {P : Program} {w : World} {a : Act} {dst : Option Tmp} {ty T yt : TypeId} {pos : String} {aft : Array Edge} {gd : Option (Nat × Bool)} (x y : Operand) (s t : ByteArray) (v : Bool) (hv : decide (s = t) = v) (hx : a.eval x = .string s) (hy : a.eval y = .string t) :
    (execOp a.eval ⟨dst, .binOp .eql T x y yt, ty, pos, aft, gd⟩).run P w = .ok (.value (.bool v)) w := by
  subst hv
  exact e_eqlS x y s t hx hy
theorem Tryd.strIP : ElemInfo Tryd.prog 25 9 (.string ⟨#[]⟩) 1 16 := ⟨Tryd.underlying25, by kernel_rfl, rfl, by decide⟩
theorem Tryd.strixP (B n cap x : Nat) (hx : x < n) (w : World) : (Instr.indexAt 25 (.slice (some ⟨B, 0, none⟩) n cap) (.int .i64 x)).run Tryd.prog w = .ok (.pointer (some ⟨B, x, none⟩)) w := by
  have hu : Tryd.prog.underlying 25 = some (.slice (Tryd.prog.elem 25)) := by kernel_rfl
  have he : Tryd.prog.elem 25 = 9 := by kernel_rfl
  rw [run_indexAt_slice w 25 ⟨B, 0, none⟩ n cap .i64 x hu, if_pos (by omega), he]
  simp [Tryd.sizeOf9, Result.andThen, Addr.add]
  exact fun h => h.symm
theorem Tryd.bstrP (s : ByteArray) (w : World) : (Instr.buildSlice 25 1 #[(0, .string s)]).run Tryd.prog w = .ok (.slice (some ⟨w.heap.size, 0, none⟩) 1 1) (w.alloc (.cells #[.string s] 9)) := by kernel_rfl
def txV (tx : Nat → ByteArray) (n : Nat) : List Value := (List.range n).map fun k => .string (tx k)
theorem txV_length (tx : Nat → ByteArray) (n : Nat) : (txV tx n).length = n := by unfold txV; rw [List.length_map, List.length_range]
theorem txV_snoc (tx : Nat → ByteArray) (n : Nat) : txV tx n ++ [.string (tx n)] = txV tx (n + 1) := by unfold txV; rw [List.range_succ, List.map_append]; rfl
theorem txV_get (tx : Nat → ByteArray) {n j : Nat} (hj : j < n) : (txV tx n)[j]? = some (.string (tx j)) := by
  unfold txV
  rw [List.getElem?_map, List.getElem?_range hj]
  rfl
set_option maxHeartbeats 800000 in
set_option maxRecDepth 100000 in
theorem sPeriodOfWord (s u : ByteArray) (w : World) (hs : s.size ≤ 1048576) : Calls Tryd.prog 16 #[.string s, .string u] w (Ret (peV (peR s.data.toList u)) w) := by
  have gg := Gr.refl w
  go_enter Tryd.func16, Tryd.ntmps16
  go_wp2_with fail
  refine (tyRead_any s _ hs).mono ?_
  rintro e w1 ⟨g1, ⟨hp, rfl⟩ | ⟨g, sl, hp, rfl, hown⟩⟩
  · have HV := hidI (show peR s.data.toList u = none from by unfold peR peOk; rw [(rd_parse_none hp).2]; rfl)
    have z1 := g1.size
    have gg := gg.trans g1
    clear hp
    go_wp2_with (first | (refine r_alloc 40 _ Tryd.tzero rfl ?_; intro w2 B2 N2; have g2 := N2.gr; have b2 : Blk w2 B2 (tg 0 0 (.slice none 0 0)) 40 := N2.blk; have l2 := N2.lo; have t2 := N2.hi; have z2 := g2.size; have gg := gg.trans g2; clear N2; obtain ⟨b2_0, b2_1, b2_2⟩ := tcells b2) | (refine r_store_row 40 40 _ _ _ rfl (tg _ _ _) _ rfl b2 Tryd.tsize rfl (tg_one rfl) rfl ?_; intro w3 u3 b2'; have z3 := u3.size; have gg := u3.gr gg (by omega); clear b2; have b2 := b2'; clear b2'; obtain ⟨b2_0, b2_1, b2_2⟩ := tcells b2))
    go_ret3
    exact ⟨ret_ve (by rw [HV.out]; rfl), gg⟩
  · obtain ⟨hg, hk⟩ := rd_parse_some hp
    obtain ⟨hc, hw1, hh1, hl⟩ := cel_of hp
    have z1 := g1.size
    have gg := gg.trans g1
    have hone := own_one hown
    cases hv : wordB u
    · have HV := hidI (show peR s.data.toList u = none from by unfold peR peOk; rw [hv, Bool.and_false]; rfl)
      have HWV := hidI hv
      clear hg hp hk hv hc
      go_wp2_with (first | (refine r_alloc 40 _ Tryd.tzero rfl ?_; intro w2 B2 N2; have g2 := N2.gr; have b2 : Blk w2 B2 (tg 0 0 (.slice none 0 0)) 40 := N2.blk; have l2 := N2.lo; have t2 := N2.hi; have z2 := g2.size; have gg := gg.trans g2; clear N2; obtain ⟨b2_0, b2_1, b2_2⟩ := tcells b2) | (refine r_store_row 40 40 _ _ _ rfl (tg _ _ _) _ rfl b2 Tryd.tsize rfl (tg_one hone) rfl ?_; intro w3 u3 b2'; have z3 := u3.size; have gg := u3.gr gg (by omega); clear b2; have b2 := b2'; clear b2'; obtain ⟨b2_0, b2_1, b2_2⟩ := tcells b2) | (go_at_call 18; refine (tiWord_any u _).mono ?_; rintro e w4 ⟨rfl, g4⟩; rw [HWV.out]; have z4 := g4.size; have gg := gg.trans g4))
      go_ret3
      exact ⟨ret_ve (by rw [HV.out]; rfl), gg⟩
    · have HWV := hidI hv
      by_cases h0 : u.size = 0
      · have HV := hidI (show peR s.data.toList u = none from by unfold peR peOk; rw [decide_eq_false (show ¬ 0 < u.size by omega), Bool.and_false]; rfl)
        obtain rfl : u = ByteArray.mk #[] := ByteArray.ext (Array.eq_empty_of_size_eq_zero h0)
        clear hg hp hk hv h0 hc
        go_wp2_with (first | (refine r_alloc 40 _ Tryd.tzero rfl ?_; intro w2 B2 N2; have g2 := N2.gr; have b2 : Blk w2 B2 (tg 0 0 (.slice none 0 0)) 40 := N2.blk; have l2 := N2.lo; have t2 := N2.hi; have z2 := g2.size; have gg := gg.trans g2; clear N2; obtain ⟨b2_0, b2_1, b2_2⟩ := tcells b2) | (refine r_store_row 40 40 _ _ _ rfl (tg _ _ _) _ rfl b2 Tryd.tsize rfl (tg_one hone) rfl ?_; intro w3 u3 b2'; have z3 := u3.size; have gg := u3.gr gg (by omega); clear b2; have b2 := b2'; clear b2'; obtain ⟨b2_0, b2_1, b2_2⟩ := tcells b2) | (go_at_call 18; refine (tiWord_any _ _).mono ?_; rintro e w4 ⟨rfl, g4⟩; rw [HWV.out]; have z4 := g4.size; have gg := gg.trans g4))
        go_ret3
        exact ⟨ret_ve (by rw [HV.out]; rfl), gg⟩
      · have hne : u ≠ ByteArray.mk #[] := fun e => h0 (by rw [e]; rfl)
        have hie : u.toList.isEmpty = false := by
          rw [ByteArray.toList_eq]
          cases he : u.data.toList with
          | nil => exact absurd (ByteArray.ext (Array.toList_eq_nil_iff.1 he)) hne
          | cons _ _ => rfl
        have HV := hidI (show peR s.data.toList u = peF (sqG g (wds u)) (201 - 0) 0 from by
          unfold peR peOk
          rw [hk, hv, hg, decide_eq_true (show 0 < u.size by omega)]
          rfl)
        have HFF := sqG_facts hc (wds_lt hv)
        obtain ⟨F, hF⟩ : ∃ F, F = sqG g (wds u) := ⟨_, rfl⟩
        rw [← hF] at HV HFF
        have HSU := fun n => show F (n + 1) = runG (wds u) (F n) from by rw [hF]; rfl
        obtain ⟨R, hR⟩ : ∃ R, R = peR s.data.toList u := ⟨_, rfl⟩
        rw [← hR] at HV
        have HPR := hidI hR.symm
        have hF0 : F 0 = g := by rw [hF]; rfl
        obtain ⟨W, hW⟩ : ∃ W, W = g.w := ⟨_, rfl⟩
        obtain ⟨H, hH⟩ : ∃ H, H = g.h := ⟨_, rfl⟩
        obtain ⟨N, hN⟩ : ∃ N, N = nn W H := ⟨_, rfl⟩
        have w7 := hc.w7
        have h7 := hc.h7
        have n36 := hc.n36
        have hgl : g.c.length = N := by rw [hN, hW, hH, hc.len]
        have HF := hidI (fun n => show Cel (F n) ∧ (F n).w = W ∧ (F n).h = H ∧ (F n).c.length = N from by
          obtain ⟨h1, h2, h3⟩ := HFF n
          exact ⟨h1, h2.trans hW.symm, h3.trans hH.symm, by rw [h1.len, h2, h3, hN, hW, hH]⟩)
        rw [← hW] at hw1 w7
        rw [← hH] at hh1 h7
        rw [← hW, ← hH, ← hN] at n36
        have hN1 : 1 ≤ N := by omega
        have HST := hidI (fun n k => show sameB (F n) (F k) = decide (txtB W H (F k).c = txtB W H (F n).c) from by
          obtain ⟨h1, h2, h3, -⟩ := HF.out n
          obtain ⟨k1, k2, k3, -⟩ := HF.out k
          have := same_txt h1 k1 (by rw [h2]; exact hw1) (by rw [h3]; exact hh1) (by rw [k2]; exact hw1) (by rw [k3]; exact hh1)
          rw [this, h2, h3, k2, k3, Bool.eq_iff_iff, decide_eq_true_eq, decide_eq_true_eq]
          exact eq_comm)
        have HTX := hidI (fun n (sl : Value) (w : World) (b : Nat) (h : w.ownsRow b 5 1 sl N (cellsV (F n).c)) => show Calls Tryd.prog 33 #[.agg (tg W H sl)] w (Ret (.string (txtB W H (F n).c)) w) from by
          obtain ⟨-, -, -, h4⟩ := HF.out n
          exact tyText_n W H _ _ (F n).c _ _ hw1 hh1 w7 h7 (by omega) (by rw [h4, hN]) (by rw [h4]) h)
        have HRU := hidI (fun n (sl : Value) (w : World) (b : Nat) (hb : b ≤ w.heap.size) (h : w.ownsRow b 5 1 sl N (cellsV (F n).c)) => show Calls Tryd.prog 34 #[.agg (tg W H sl), .string u] w fun e w' => Gr w w' ∧ ∃ sl', e = .returned (.agg (tg W H sl')) ∧ w'.ownsRow b 5 1 sl' N (cellsV (F (n + 1)).c) from by
          obtain ⟨h1, h2, h3, h4⟩ := HF.out n
          have := tiRun_any (F n) b u sl w h1 hv (by rw [h4]; exact hN1) hb (by rw [h4]; exact h)
          rw [h2, h3, h4, ← HSU] at this
          exact this)
        have own0 : w1.ownsRow w.heap.size 5 1 sl N (cellsV (F 0).c) := by rw [hF0, ← hgl]; exact hown
        rw [← hW, ← hH]
        clear hg hp hk hv hc hF hR HFF HSU hF0 hW hH hgl hown hN
        go_wp2_with (first | (refine r_alloc 40 _ Tryd.tzero rfl ?_; intro w2 B2 N2; have g2 := N2.gr; have b2 : Blk w2 B2 (tg 0 0 (.slice none 0 0)) 40 := N2.blk; have l2 := N2.lo; have t2 := N2.hi; have z2 := g2.size; have gg := gg.trans g2; clear N2; obtain ⟨b2_0, b2_1, b2_2⟩ := tcells b2) | (refine r_store_row 40 40 _ _ _ rfl (tg _ _ _) _ rfl b2 Tryd.tsize rfl (tg_one hone) rfl ?_; intro w3 u3 b2'; have z3 := u3.size; have gg := u3.gr gg (by omega); clear b2; have b2 := b2'; clear b2'; obtain ⟨b2_0, b2_1, b2_2⟩ := tcells b2) | (go_at_call 18; refine (tiWord_any u _).mono ?_; rintro e w4 ⟨rfl, g4⟩; rw [HWV.out]; have z4 := g4.size; have b2 := g4.blk b2; have gg := gg.trans g4))
        have lo2 : w.heap.size ≤ B2 := by omega
        have own := g4.row (u3.row (g2.row own0) (own_new own0 l2))
        have ownS : w4.ownsRow w.heap.size 9 1 (.slice none 0 0) 0 (txV (fun k => txtB W H (F k).c) 0) := World.ownsRow_nil _ _ _ _
        obtain ⟨tx, htx⟩ : ∃ tx : Nat → ByteArray, tx = fun k => txtB W H (F k).c := ⟨_, rfl⟩
        rw [← htx] at ownS
        have HTX := hidI (fun n (sl : Value) (w : World) (b : Nat) (h : w.ownsRow b 5 1 sl N (cellsV (F n).c)) => show Calls Tryd.prog 33 #[.agg (tg W H sl)] w (Ret (.string (tx n)) w) from htx ▸ HTX.out n sl w b h)
        have HST := hidI (fun n k => show sameB (F n) (F k) = decide (tx k = tx n) from htx ▸ HST.out n k)
        clear own0 htx
        go_loopw [9, 10] (fun sv nv wr => ∃ (n : Nat) (sl : Value), n ≤ 201 ∧ nv = .int .i64 n ∧ Hid (R = peF F (201 - n) n) ∧ wr.ownsRow w.heap.size 9 1 sv n (txV tx n) ∧ wr.ownsRow w.heap.size 5 1 sl N (cellsV (F n).c) ∧ Blk wr B2 (tg W H sl) 40 ∧ Gr w wr) (fun _ nv _ => 201 - (intOf nv).toNat)
        case atStart => exact ⟨0, sl, by omega, rfl, HV, ownS, own, b2, gg⟩
        case round =>
          clear own ownS b2 gg hone
          obtain ⟨n, sl, hn, rfl, HR, ownS, own, b2, gg⟩ := hrel
          obtain ⟨p, cap, rfl⟩ := own_sliceN ownS
          have tb2 := b2.lt
          have zr := gg.size
          by_cases hlt : n ≤ 200
          · have HTX := hidI (fun (w0 : World) own => HTX.out n sl w0 w.heap.size own)
            have HRU := hidI (HRU.out n)
            have HST := hidI (HST.out n)
            go_wp2_with (first | (refine r_load_row 40 _ _ rfl _ _ _ b2 Tryd.underlying40 rfl Tryd.tinfo rfl ?_) | (go_at_call 33; refine (HTX.out _ own).mono ?_; rintro e w5 ⟨rfl, g5⟩; have z5 := g5.size; have b2 := g5.blk b2; have gg := gg.trans g5))
            have own := g5.row own
            have ownS := g5.row ownS
            have gr5 := Gr.refl w5
            clear HTX
            go_loopw [38] (fun iv wi => ∃ j : Nat, j ≤ n ∧ iv = .int .i64 j ∧ (∀ k, k < j → sameB (F n) (F k) = false) ∧ Gr w5 wi) (fun iv _ => n - (intOf iv).toNat)
            case atStart => exact ⟨0, Nat.zero_le _, rfl, fun k hk => absurd hk (Nat.not_lt_zero _), gr5⟩
            case round =>
              clear gr5
              obtain ⟨j, hj, rfl, hall, gi⟩ := hrel
              have own := gi.row own
              have ownS := gi.row ownS
              have b2 := gi.blk b2
              have gg := gg.trans gi
              have zi := gi.size
              by_cases hjn : j < n
              · have HALL := hidI hall
                clear hall
                obtain ⟨G, cap', he, -, -⟩ := own_shape ownS (by omega)
                obtain ⟨rfl, rfl⟩ : p = some ⟨G, 0, none⟩ ∧ cap = cap' := by
                  simp only [Value.slice.injEq] at he
                  exact ⟨he.1, he.2.2⟩
                have hcell := (ownS.cellAt j (by omega)).trans (txV_get tx hjn)
                clear he
                cases hb : sameB (F n) (F j)
                · have HB := hidI hb
                  have hdec : decide (tx j = tx n) = false := (HST.out j).symm.trans hb
                  clear hb
                  go_wp2_with (first | (refine r_idx 25 _ _ (.slice (some ⟨G, 0, none⟩) n cap) (.int .i64 j) _ rfl rfl (Tryd.strixP G n cap j hjn _) rfl ?_) | (refine r_ldc 9 _ ⟨G, j, none⟩ (.string (tx j)) rfl (Tryd.isAgg9 _) hcell rfl ?_) | (refine r_val (.bool false) (e_eqlSv _ _ (tx j) (tx n) false hdec rfl rfl) rfl ?_))
                  go_roundw
                  case rel => exact ⟨j + 1, by omega, by go_num, fun k hk => (by rcases Nat.lt_succ_iff_lt_or_eq.1 hk with h | rfl; exact HALL.out k h; exact HB.out), gi⟩
                  case measure => simp [intOf]; omega
                · have hdec : decide (tx j = tx n) = true := (HST.out j).symm.trans hb
                  have HRN := hidI (show R = some (j, n - j) from HR.out.trans (peF_hit hlt (find_at HALL.out hb hjn)))
                  clear hb
                  go_wp2_with (first | (refine r_idx 25 _ _ (.slice (some ⟨G, 0, none⟩) n cap) (.int .i64 j) _ rfl rfl (Tryd.strixP G n cap j hjn _) rfl ?_) | (refine r_ldc 9 _ ⟨G, j, none⟩ (.string (tx j)) rfl (Tryd.isAgg9 _) hcell rfl ?_) | (refine r_val (.bool true) (e_eqlSv _ _ (tx j) (tx n) true hdec rfl rfl) rfl ?_))
                  go_ret3
                  exact ⟨ret_ve (by rw [HPR.out, HRN.out]; show Value.tuple _ = Value.tuple _; simp; omega), gg⟩
              · obtain rfl : j = n := by omega
                have HRN := hidI (show R = peF F (201 - (j + 1)) (j + 1) from HR.out.trans (peF_next hlt (find_no hall)))
                have hne2 := own_ne ownS b2 (by decide)
                have HGR := hidI (own_gr ownS (Nat.le_refl w.heap.size))
                have HOC := hidI (own_ne2 own ownS (by decide))
                have HTS := hidI (txV_snoc tx j)
                clear hjn hall HR
                go_wp2_with (first | (refine r_slice1 25 9 (.tmp 52) (.string (tx j)) rfl (Tryd.bstrP _ _) rfl ?_; intro w6 B6 N6; have g6 := N6.gr; have b2 := g6.blk b2; have own := g6.row own; have ownS := g6.row ownS; have gg := gg.trans g6; have z6 := g6.size) | (refine r_append (.tmp 51) (.tmp 53) 25 9 _ 1 16 w.heap.size Tryd.strIP (.slice p j cap) j (txV tx j) rfl ownS ⟨B6, 0, none⟩ 1 1 [.string (tx j)] rfl rfl N6.cell1 (by intro u hu; simp at hu; subst hu; rfl) (by omega) (by decide) (by omega) rfl ?_; intro v7 w7 own7 g7; have b2 := g7.blk b2 hne2; have own := g7.row own HOC.out; have gg := g7.gr gg HGR.out; have z7 := g7.size; have own7 := (show w7.ownsRow w.heap.size 9 1 v7 (j + 1) (txV tx (j + 1)) from HTS.out ▸ own7)) | (refine r_load_row 40 _ _ rfl _ _ _ b2 Tryd.underlying40 rfl Tryd.tinfo rfl ?_) | (go_at_call 34; refine (HRU.out sl _ w.heap.size (by omega) own).mono ?_; rintro e w8 ⟨g8, s8, rfl, own8⟩; have b2 := g8.blk b2; have own7 := g8.row own7; have gg := gg.trans g8; have z8 := g8.size) | (have h1 := own_one own8; have hn9 := own_ne own8 b2 (by decide); have hn7 := own_ne own7 b2 (by decide); refine r_store_row 40 40 _ _ B2 rfl (tg W H s8) _ rfl b2 Tryd.tsize rfl (tg_one h1) rfl ?_; intro w9 u9 b29; have own9 := u9.row own8 hn9; have own97 := u9.row own7 hn7; have gg := u9.gr gg (by omega)))
                go_roundw
                case rel => exact ⟨j + 1, s8, by omega, by go_num, HRN, own97, own9, b29, gg⟩
                case measure => simp [intOf]; omega
          · obtain rfl : n = 201 := by omega
            have HRN := hidI (show R = none from HR.out.trans (peF_end F))
            clear hlt HR
            go_wp2
            go_ret3
            exact ⟨ret_ve (by rw [HPR.out, HRN.out]; rfl), gg⟩
set_option maxHeartbeats 1000000 in
theorem lawPeriodOfWord (s u : ByteArray) (w : World) (hm : ML w) : Calls Tryd.prog 6 #[.string s, .string u] w (Ret (.bool true) w) := by
  have gg := Gr.refl w
  by_cases hs : 1048576 < s.size
  · go_enter Tryd.func6, Tryd.ntmps6
    go_wp2
    go_ret
    exact ⟨rfl, gg⟩
  · have hs' : s.size ≤ 1048576 := by omega
    clear hs
    by_cases hc : 1048576 < u.size
    · go_enter Tryd.func6, Tryd.ntmps6
      go_wp2
      go_ret
      exact ⟨rfl, gg⟩
    · have hc' : u.size ≤ 1048576 := by omega
      clear hc
      cases hx : peR s.data.toList u with
      | none =>
        have HX := hidI (show peV (peR s.data.toList u) = .tuple #[.int .i64 0, .int .i64 0, .bool false] from by rw [hx]; rfl)
        clear hx
        go_enter Tryd.func6, Tryd.ntmps6
        go_wp2_with (first | (go_at_call 16; refine (sPeriodOfWord s u _ hs').mono ?_; rintro e w1 ⟨rfl, g1⟩; rw [HX.out]; have gg := gg.trans g1) | (go_at_call 17; refine (iPeriodOfWord s u _ (gg.ml hm) hs').mono ?_; rintro e w2 ⟨rfl, g2⟩; rw [HX.out]; have gg := gg.trans g2))
        go_ret
        exact ⟨rfl, gg⟩
      | some ab =>
        obtain ⟨a, b⟩ := ab
        have HX := hidI (show peV (peR s.data.toList u) = .tuple #[.int .i64 a, .int .i64 b, .bool true] from by rw [hx]; rfl)
        clear hx
        go_enter Tryd.func6, Tryd.ntmps6
        go_wp2_with (first | (go_at_call 16; refine (sPeriodOfWord s u _ hs').mono ?_; rintro e w1 ⟨rfl, g1⟩; rw [HX.out]; have gg := gg.trans g1) | (go_at_call 17; refine (iPeriodOfWord s u _ (gg.ml hm) hs').mono ?_; rintro e w2 ⟨rfl, g2⟩; rw [HX.out]; have gg := gg.trans g2))
        go_ret
        exact ⟨rfl, gg⟩
end Go.Proofs.YtbppbbkcampglaaDoor
