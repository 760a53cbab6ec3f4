/-
  One tray above another: in the program and in the model, and the law.
-/
import Derived.Test.YthjkeohnjggmiaaDoorText2
import Derived.Test.YthjkeohnjggmiaaDoorSpec1h
namespace Go.Proofs.YthjkeohnjggmiaaDoor
open Go.RowKit
def jtB (a b : ByteArray) : ByteArray := (a ++ ⟨#[47]⟩) ++ b
theorem jtB_data (a b : ByteArray) : (jtB a b).data.toList = a.data.toList ++ 47 :: b.data.toList := by
  unfold jtB
  rw [ByteArray.data_append, ByteArray.data_append]
  simp
theorem jtB_size (a b : ByteArray) : (jtB a b).size = a.size + 1 + b.size := by
  unfold jtB
  rw [ByteArray.size_append, ByteArray.size_append]
  rfl
def jtOk (a b : ByteArray) : Bool := rdOk a.data.toList && rdOk b.data.toList && rdOk (jtB a b).data.toList
def jtS (a b : ByteArray) : ByteArray := if jtOk a b then jtB a b else ⟨#[]⟩
theorem jt_bad {a b : ByteArray} (h : jtOk a b = false) : jtS a b = ⟨#[]⟩ := by unfold jtS; rw [h]; rfl
theorem jt_if {a b : ByteArray} (h1 : rdOk a.data.toList = true) (h2 : rdOk b.data.toList = true) : ifB (jtB a b) = jtS a b ∧ rdOk (jtB a b).data.toList = jtOk a b := by
  have e : jtOk a b = rdOk (jtB a b).data.toList := by unfold jtOk; rw [h1, h2]; rfl
  unfold ifB jtS
  rw [e]
  exact ⟨rfl, rfl⟩
theorem join_text {l m : List UInt8} {g k : Grid} (h1 : parse l = some g) (h2 : parse m = some k) (hw : g.w = k.w) : txtL g.w (g.c ++ k.c) (g.h + k.h) = l ++ 47 :: m := by
  obtain ⟨a1, b1, c1⟩ := parse_some h1
  obtain ⟨a2, b2, c2⟩ := parse_some h2
  have hp := pieces_slash l m
  have hr : ∀ r ∈ pieces l ++ pieces m, r.length = g.w := by
    intro r hr
    rcases List.mem_append.1 hr with h | h
    · exact a1.rows r h
    · rw [hw]; exact a2.rows r h
  have e := rows_flatten hr
  rw [List.flatten_append, List.length_append, ← c1, ← c2, ← b1, ← b2] at e
  unfold txtL
  rw [e, ← hp, join_pieces]
theorem join_none {l m : List UInt8} {g k : Grid} (h1 : parse l = some g) (h2 : parse m = some k) (hw : g.w ≠ k.w) : rdOk (l ++ 47 :: m) = false := by
  obtain ⟨a1, b1, c1⟩ := parse_some h1
  obtain ⟨a2, b2, c2⟩ := parse_some h2
  refine (rd_none fun w h => ?_).2
  rw [pieces_slash] at h
  have n1 := pieces_ne l
  have n2 := pieces_ne m
  obtain ⟨r1, hr1⟩ := List.exists_mem_of_ne_nil _ n1
  obtain ⟨r2, hr2⟩ := List.exists_mem_of_ne_nil _ n2
  have e1 := h.rows r1 (List.mem_append_left _ hr1)
  have e2 := h.rows r2 (List.mem_append_right _ hr2)
  rw [a1.rows r1 hr1] at e1
  rw [a2.rows r2 hr2] at e2
  omega
theorem rd_size {s : ByteArray} (h : rdOk s.data.toList = true) : s.size ≤ 42 := by
  rcases rd_cases s.data.toList with ⟨_, _, hk⟩ | ⟨g, hp, _, _⟩
  · rw [hk] at h; cases h
  · have := parse_len hp
    rwa [Array.length_toList] at this
theorem own_news {w : World} {base : Nat} {e : TypeId} {g n cap : Nat} {c : List UInt8} (hr : w.ownsRow base e 1 (.slice (some ⟨g, 0, none⟩) n cap) n (cellsV c)) (hn : n = c.length) :
    ∀ (j : Nat) u, (cellsV c)[j]? = some u → w.cell? ((⟨g, 0, none⟩ : Addr).add j) = some u := by
  intro j u hj
  have hjl : j < c.length := by
    rcases Nat.lt_or_ge j c.length with h | h
    · exact h
    · rw [List.getElem?_eq_none (by simpa [cellsV] using h)] at hj; cases hj
  have h1 := own_cell hr j hjl hn
  unfold cellsV at hj
  rw [List.getElem?_map, List.getElem?_eq_getElem hjl] at hj
  have e : byteV c[j] = u := by simpa using hj
  have e2 : at0 c j = c[j] := by unfold at0; simp [List.getD, hjl]
  rw [e2] at h1
  subst e
  have e3 : (⟨g, 0, none⟩ : Addr).add j = ⟨g, j, none⟩ := by
    simp [Addr.add]
    exact fun h => h.symm
  rw [e3]
  exact h1
theorem own_apart' {w1 w2 : World} {b1 b2 : Nat} {e1 e2 : TypeId} {s1 s2 : Nat} {v1 v2 : Value} {n1 n2 : Nat} {x1 x2 : List Value} (h1 : w1.ownsRow b1 e1 s1 v1 n1 x1) (h2 : w2.ownsRow b2 e2 s2 v2 n2 x2) (hb : w1.heap.size ≤ b2) : v1.ownBlock = none ∨ v1.ownBlock ≠ v2.ownBlock := by
  cases h : v1.ownBlock with
  | none => exact .inl rfl
  | some k =>
    refine .inr fun e => ?_
    have a := (h1.lt k h).2
    have b := (h2.lt k e.symm).1
    omega
section
variable {P : Program} {w : World} {ops : Array Oper} {rest : List Oper} {a : Act} {Q : Exit → Act → World → Prop} {dst : Option Tmp} {ty : TypeId} {pos : String} {aft : Array Edge} {gd : Option (Nat × Bool)}
/-- A call under a contract. -/
theorem r_call (f : FuncId) (xs : List Operand) (ts : Array TypeId) (vs : List Value) (v : Value) (Post : World → Prop) (hcf : ∀ args w, (callFunc f args).run P w = .ok (.enter f args) w) (hvs : xs.map a.eval = vs)
    (hgd : Region.wanted ⟨dst, .call { callee := .value (.func f), args := xs.toArray, argTypes := ts }, ty, pos, aft, gd⟩ (yielded ops a.tmps) = true)
    (hc : Calls P f vs.toArray w fun e w' => e = .returned v ∧ Post w')
    (h : ∀ w', Post w' → wpList P ops Q rest (a.put dst v) w') : wpList P ops Q (⟨dst, .call { callee := .value (.func f), args := xs.toArray, argTypes := ts }, ty, pos, aft, gd⟩ :: rest) a w :=
  wpList_want hgd fun _ hK => by
    have e : (execOp a.eval ⟨dst, .call { callee := .value (.func f), args := xs.toArray, argTypes := ts }, ty, pos, aft, gd⟩).run P w = .ok (.enter f vs.toArray) w := by
      unfold execOp resolve
      simp only [List.map_toArray, hvs, Act.eval, Deferred.ofValue, Sem.run_bind, Sem.run_pure, Result.andThen_ok, invoke, Array.append_empty, Array.empty_append]
      exact hcf _ _
    unfold Oper.wp
    rw [e]
    exact hc.mono fun e w'' ⟨he, hp⟩ => by
      subst he
      exact hK _ _ (h _ hp)
end
set_option maxHeartbeats 2000000 in
set_option maxRecDepth 100000 in
theorem iJoinTrays (s t : ByteArray) (w : World) (hm : ML w) (hs : s.size ≤ 1048576) (ht : t.size ≤ 1048576) : Calls Tryd.prog 22 #[.string s, .string t] w (Ret (.tuple #[.string (jtS s t), .bool (jtOk s t)]) w) := by
  have gg := Gr.refl w
  by_cases h1 : rdOk s.data.toList = true
  · by_cases h2 : rdOk t.data.toList = true
    · have H1 := hidI h1
      have H2 := hidI h2
      have hz1 := rd_size h1
      have hz2 := rd_size h2
      have hjz := jtB_size s t
      have hv := jt_if h1 h2
      have hadd : ∃ v, (∀ w, (Op.stringOp .add s ⟨#[47]⟩).run Tryd.prog w = .ok (.string v) w) ∧ ∀ w, (Op.stringOp .add v t).run Tryd.prog w = .ok (.string (jtB s t)) w :=
        ⟨s ++ ⟨#[47]⟩, fun w => run_string_add_sum w s ⟨#[47]⟩ (by show s.size + 1 ≤ _; omega), fun w => run_string_add_sum w (s ++ ⟨#[47]⟩) t (by rw [ByteArray.size_append]; show s.size + 1 + t.size ≤ _; omega)⟩
      obtain ⟨v, hadd1, hadd2⟩ := hadd
      obtain ⟨u, hu⟩ : ∃ u, u = jtB s t := ⟨_, rfl⟩
      rw [← hu] at hadd2 hv hjz
      have hz3 : u.size ≤ 1048576 := by omega
      have HV := hidI hv
      clear hu hv hjz
      clear h1 h2
      go_enter Tryd.func22, Tryd.ntmps22
      go_wp2_with fail
      refine (iIsTray s _ hm hs).mono ?_
      rintro e w1 ⟨rfl, g1⟩
      rw [H1.out]
      have gg := gg.trans g1
      go_wp2_with fail
      refine (iIsTray t _ (gg.ml hm) ht).mono ?_
      rintro e w2 ⟨rfl, g2⟩
      rw [H2.out]
      have gg := gg.trans g2
      go_wp2_with fail
      refine (checked_any u _ (gg.ml hm) hz3).mono ?_
      rintro e w3 ⟨rfl, g3⟩
      rw [HV.out.1, HV.out.2]
      have gg := gg.trans g3
      go_wp2
      go_ret2
      exact ⟨rfl, gg⟩
    · have H1 := hidI h1
      have H2 := hidI (show rdOk t.data.toList = false from by simpa using h2)
      have HK := hidI (show jtOk s t = false from by unfold jtOk; rw [H2.out, Bool.and_false]; rfl)
      have HV := hidI (jt_bad HK.out)
      clear h1 h2
      go_enter Tryd.func22, Tryd.ntmps22
      go_wp2_with fail
      refine (iIsTray s _ hm hs).mono ?_
      rintro e w1 ⟨rfl, g1⟩
      rw [H1.out]
      have gg := gg.trans g1
      go_wp2_with fail
      refine (iIsTray t _ (gg.ml hm) ht).mono ?_
      rintro e w2 ⟨rfl, g2⟩
      rw [H2.out]
      have gg := gg.trans g2
      go_wp2_with fail
      go_ret2
      exact ⟨fin_sb HV.out.symm HK.out.symm, gg⟩
  · have H1 := hidI (show rdOk s.data.toList = false from by simpa using h1)
    have HK := hidI (show jtOk s t = false from by unfold jtOk; rw [H1.out]; rfl)
    have HV := hidI (jt_bad HK.out)
    clear h1
    go_enter Tryd.func22, Tryd.ntmps22
    go_wp2_with (go_at_call 57; refine (iIsTray s _ (gg.ml hm) hs).mono ?_; rintro e w1 ⟨rfl, g1⟩; rw [H1.out]; have gg := gg.trans g1)
    go_ret2
    exact ⟨fin_sb HV.out.symm HK.out.symm, gg⟩
set_option maxHeartbeats 4000000 in
set_option maxRecDepth 100000 in
theorem sJoinTrays (s t : ByteArray) (w : World) (hs : s.size ≤ 1048576) (ht : t.size ≤ 1048576) : Calls Tryd.prog 21 #[.string s, .string t] w (Ret (.tuple #[.string (jtS s t), .bool (jtOk s t)]) w) := by
  have gg := Gr.refl w
  go_enter Tryd.func21, Tryd.ntmps21
  go_wp2_with fail
  refine (tyRead_any s _ hs).mono ?_
  rintro e w1 ⟨g1, ⟨hp, rfl⟩ | ⟨g, sl, hp, rfl, hown⟩⟩
  · have HK := hidI (show jtOk s t = false from by unfold jtOk; rw [(rd_parse_none hp).2]; rfl)
    have HV := hidI (jt_bad HK.out)
    have z1 := g1.size
    have gg := gg.trans g1
    clear hp
    go_wp2_with (first | (refine r_alloc (dst := some 6) 40 _ Tryd.tzero rfl ?_; intro w2 B2 N2; have g2 := N2.gr; have b2 : Blk w2 B2 (tg 0 0 (.slice none 0 0)) 40 := N2.blk; have l2 := N2.lo; have t2 := N2.hi; have z2 := g2.size; have gg := gg.trans g2; clear N2; obtain ⟨b2_0, b2_1, b2_2⟩ := tcells b2) | (refine r_store_row 40 40 _ _ _ rfl (tg _ _ _) _ rfl b2 Tryd.tsize rfl (tg_one rfl) rfl ?_; intro w3 u3 b2'; have z3 := u3.size; have gg := u3.gr gg (by omega); clear b2; have b2 := b2'; clear b2'; obtain ⟨b2_0, b2_1, b2_2⟩ := tcells b2))
    refine (tyRead_any t _ ht).mono ?_
    rintro e w4 ⟨g4, ⟨hp, rfl⟩ | ⟨k, sk, hp, rfl, hownk⟩⟩
    · have z4 := g4.size
      have b2 := g4.blk b2
      have gg := gg.trans g4
      clear hp
      go_wp2_with (first | (refine r_alloc (dst := some 8) 40 _ Tryd.tzero rfl ?_; intro w5 B5 N5; have g5 := N5.gr; have b5 : Blk w5 B5 (tg 0 0 (.slice none 0 0)) 40 := N5.blk; have l5 := N5.lo; have t5 := N5.hi; have z5 := g5.size; have b2 := g5.blk b2; obtain ⟨b2_0, b2_1, b2_2⟩ := tcells b2; have gg := gg.trans g5; clear N5; obtain ⟨b5_0, b5_1, b5_2⟩ := tcells b5) | (refine r_store_row 40 40 _ _ _ rfl (tg _ _ _) _ rfl b5 Tryd.tsize rfl (tg_one rfl) rfl ?_; intro w6 u6 b5'; have z6 := u6.size; have gg := u6.gr gg (by omega); have b2 := u6.blk b2 (by omega); obtain ⟨b2_0, b2_1, b2_2⟩ := tcells b2; clear b5; have b5 := b5'; clear b5'; obtain ⟨b5_0, b5_1, b5_2⟩ := tcells b5))
      go_ret2
      exact ⟨fin_sb HV.out.symm HK.out.symm, gg⟩
    · have z4 := g4.size
      have b2 := g4.blk b2
      have gg := gg.trans g4
      have honek := own_one hownk
      clear hp
      go_wp2_with (first | (refine r_alloc (dst := some 8) 40 _ Tryd.tzero rfl ?_; intro w5 B5 N5; have g5 := N5.gr; have b5 : Blk w5 B5 (tg 0 0 (.slice none 0 0)) 40 := N5.blk; have l5 := N5.lo; have t5 := N5.hi; have z5 := g5.size; have b2 := g5.blk b2; obtain ⟨b2_0, b2_1, b2_2⟩ := tcells b2; have gg := gg.trans g5; clear N5; obtain ⟨b5_0, b5_1, b5_2⟩ := tcells b5) | (refine r_store_row 40 40 _ _ _ rfl (tg _ _ _) _ rfl b5 Tryd.tsize rfl (tg_one honek) rfl ?_; intro w6 u6 b5'; have z6 := u6.size; have gg := u6.gr gg (by omega); have b2 := u6.blk b2 (by omega); obtain ⟨b2_0, b2_1, b2_2⟩ := tcells b2; clear b5; have b5 := b5'; clear b5'; obtain ⟨b5_0, b5_1, b5_2⟩ := tcells b5))
      go_ret2
      exact ⟨fin_sb HV.out.symm HK.out.symm, gg⟩
  · have z1 := g1.size
    have gg := gg.trans g1
    have hone := own_one hown
    go_wp2_with (first | (refine r_alloc (dst := some 6) 40 _ Tryd.tzero rfl ?_; intro w2 B2 N2; have g2 := N2.gr; have b2 : Blk w2 B2 (tg 0 0 (.slice none 0 0)) 40 := N2.blk; have l2 := N2.lo; have t2 := N2.hi; have z2 := g2.size; have gg := gg.trans g2; clear N2; obtain ⟨b2_0, b2_1, b2_2⟩ := tcells b2) | (refine r_store_row 40 40 _ _ _ rfl (tg _ _ _) _ rfl b2 Tryd.tsize rfl (tg_one hone) rfl ?_; intro w3 u3 b2'; have z3 := u3.size; have gg := u3.gr gg (by omega); clear b2; have b2 := b2'; clear b2'; obtain ⟨b2_0, b2_1, b2_2⟩ := tcells b2))
    have hown := u3.row (g2.row hown) (own_new hown l2)
    refine (tyRead_any t _ ht).mono ?_
    rintro e w4 ⟨g4, ⟨hq, rfl⟩ | ⟨k, sk, hq, rfl, hownk⟩⟩
    · have HK := hidI (show jtOk s t = false from by unfold jtOk; rw [(rd_parse_none hq).2, Bool.and_false]; rfl)
      have HV := hidI (jt_bad HK.out)
      have z4 := g4.size
      have b2 := g4.blk b2
      have gg := gg.trans g4
      clear hp hq
      go_wp2_with (first | (refine r_alloc (dst := some 8) 40 _ Tryd.tzero rfl ?_; intro w5 B5 N5; have g5 := N5.gr; have b5 : Blk w5 B5 (tg 0 0 (.slice none 0 0)) 40 := N5.blk; have l5 := N5.lo; have t5 := N5.hi; have z5 := g5.size; have b2 := g5.blk b2; obtain ⟨b2_0, b2_1, b2_2⟩ := tcells b2; have gg := gg.trans g5; clear N5; obtain ⟨b5_0, b5_1, b5_2⟩ := tcells b5) | (refine r_store_row 40 40 _ _ _ rfl (tg _ _ _) _ rfl b5 Tryd.tsize rfl (tg_one rfl) rfl ?_; intro w6 u6 b5'; have z6 := u6.size; have gg := u6.gr gg (by omega); have b2 := u6.blk b2 (by omega); obtain ⟨b2_0, b2_1, b2_2⟩ := tcells b2; clear b5; have b5 := b5'; clear b5'; obtain ⟨b5_0, b5_1, b5_2⟩ := tcells b5))
      go_ret2
      exact ⟨fin_sb HV.out.symm HK.out.symm, gg⟩
    · have z4 := g4.size
      have b2 := g4.blk b2
      have hown := g4.row hown
      have gg := gg.trans g4
      have honek := own_one hownk
      have hk1 := (rd_parse_some hp).2
      have hk2 := (rd_parse_some hq).2
      have hif := jt_if hk1 hk2
      by_cases hw : g.w = k.w
      · have htx := join_text hp hq hw
        have hT : txtB g.w (g.h + k.h) (g.c ++ k.c) = jtB s t := by
          apply ByteArray.ext
          apply Array.toList_inj.1
          rw [jtB_data, ← htx]
          simp [txtB]
        have HT := hidI hT
        have HIF := hidI hif
        have t1 := parse_tray hp
        have t2 := parse_tray hq
        have hne : ((g.w : Int) != (k.w : Int)) = false := by rw [hw]; simp
        have hgw1 := t1.w1
        have hgw7 := t1.w7
        have hgh1 := t1.h1
        have hgh7 := t1.h7
        have hkh7 := t2.h7
        have hgl : g.c.length = nn g.w g.h := t1.len
        have hkl : k.c.length = nn g.w k.h := by rw [hw]; exact t2.len
        have hg36 := t1.n36
        have hk36 : nn g.w k.h ≤ 36 := by rw [hw]; exact t2.n36
        have hgl1 : 0 < g.c.length := by rw [hgl]; exact Nat.mul_pos t1.w1 t1.h1
        have hkl1 : 0 < k.c.length := by rw [t2.len]; exact Nat.mul_pos t2.w1 t2.h1
        have hnn : nn g.w (g.h + k.h) = nn g.w g.h + nn g.w k.h := Nat.mul_add _ _ _
        have hgk : (g.c ++ k.c).length = nn g.w (g.h + k.h) := by rw [List.length_append, hgl, hkl, hnn]
        have hgkl : (g.c ++ k.c).length = g.c.length + k.c.length := List.length_append
        obtain ⟨G, cap, rfl, hG, hcap⟩ := own_shape hown hgl1
        obtain ⟨G2, cap2, rfl, hG2, hcap2⟩ := own_shape hownk hkl1
        clear hp hq hk1 hk2 hif hw t1 t2 htx hT
        have HGL := hidI hgl
        have HKL := hidI hkl
        clear hgl hkl
        go_wp2_with (first | (refine r_alloc (dst := some 8) 40 _ Tryd.tzero rfl ?_; intro w5 B5 N5; have g5 := N5.gr; have b5 : Blk w5 B5 (tg 0 0 (.slice none 0 0)) 40 := N5.blk; have l5 := N5.lo; have t5 := N5.hi; have z5 := g5.size; have b2 := g5.blk b2; obtain ⟨b2_0, b2_1, b2_2⟩ := tcells b2; have gg := gg.trans g5; clear N5; obtain ⟨b5_0, b5_1, b5_2⟩ := tcells b5) | (refine r_store_row 40 40 _ _ _ rfl (tg _ _ _) _ rfl b5 Tryd.tsize rfl (tg_one honek) rfl ?_; intro w6 u6 b5'; have z6 := u6.size; have gg := u6.gr gg (by omega); have b2 := u6.blk b2 (by omega); obtain ⟨b2_0, b2_1, b2_2⟩ := tcells b2; clear b5; have b5 := b5'; clear b5'; obtain ⟨b5_0, b5_1, b5_2⟩ := tcells b5))
        have hown := u6.row (g5.row hown) (own_new hown (by omega))
        have hownk := u6.row (g5.row hownk) (own_new hownk (by omega))
        have gd := (Gr.refl w6).drew
        have b2 := gd.blk b2
        have b5 := gd.blk b5
        have hown := gd.row hown
        have hownk := gd.row hownk
        have gg := gg.trans gd
        have zd := gd.size
        obtain ⟨b2_0, b2_1, b2_2⟩ := tcells b2
        obtain ⟨b5_0, b5_1, b5_2⟩ := tcells b5
        have tB2 := b2.lt
        have tB5 := b5.lt
        refine K_begin (fun w => w.cell? ⟨B2, 0, none⟩ = some (.int .i64 g.w) ∧ w.cell? ⟨B2, 1, none⟩ = some (.int .i64 g.h) ∧ w.cell? ⟨B5, 1, none⟩ = some (.int .i64 k.h) ∧ w.cell? ⟨B2, 2, none⟩ = some (.slice (some ⟨G, 0, none⟩) g.c.length cap) ∧ w.cell? ⟨B5, 2, none⟩ = some (.slice (some ⟨G2, 0, none⟩) k.c.length cap2)) 18 20 #[false, false, false, false, false, false, false, false, false, false, false, false, false, false, false, false, false, false, false, false] rfl (by kernel_rfl) (by kernel_rfl) ?_
        generalize w6.drew = wd at *
        have hFF := And.intro b2_0 (And.intro b2_1 (And.intro b5_1 (And.intro b2_2 b5_2)))
        refine K_take 0 #[true, false, false, false, false, false, false, false, false, false, false, false, false, false, false, false, false, false, false, false] rfl (by kernel_rfl) (fun _ _ _ h => h) rfl (fun w hF => e_val _ _ (Tryd.tf0 B2 _)) (hFF) ?_; simp only [Act.put, List.setIfInBounds_toArray, List.set_cons_succ, List.set_cons_zero]
        refine K_take 1 #[true, true, false, false, false, false, false, false, false, false, false, false, false, false, false, false, false, false, false, false] rfl (by kernel_rfl) (fun _ _ _ h => h) rfl (fun w hF => e_load 3 (.tmp 33) ⟨B2, 0, none⟩ (.int .i64 g.w) rfl (Tryd.isAgg3 _) hF.1) (hFF) ?_; simp only [Act.put, List.setIfInBounds_toArray, List.set_cons_succ, List.set_cons_zero]
        refine K_take 2 #[true, true, true, false, false, false, false, false, false, false, false, false, false, false, false, false, false, false, false, false] rfl (by kernel_rfl) (fun _ _ _ h => h) rfl (fun w hF => e_val _ _ (Tryd.tf1 B2 _)) (hFF) ?_; simp only [Act.put, List.setIfInBounds_toArray, List.set_cons_succ, List.set_cons_zero]
        refine K_take 3 #[true, true, true, true, false, false, false, false, false, false, false, false, false, false, false, false, false, false, false, false] rfl (by kernel_rfl) (fun _ _ _ h => h) rfl (fun w hF => e_load 3 (.tmp 35) ⟨B2, 1, none⟩ (.int .i64 g.h) rfl (Tryd.isAgg3 _) hF.2.1) (hFF) ?_; simp only [Act.put, List.setIfInBounds_toArray, List.set_cons_succ, List.set_cons_zero]
        refine K_take 4 #[true, true, true, true, true, false, false, false, false, false, false, false, false, false, false, false, false, false, false, false] rfl (by kernel_rfl) (fun _ _ _ h => h) rfl (fun w hF => e_val _ _ (Tryd.tf1 B5 _)) (hFF) ?_; simp only [Act.put, List.setIfInBounds_toArray, List.set_cons_succ, List.set_cons_zero]
        refine K_take 5 #[true, true, true, true, true, true, false, false, false, false, false, false, false, false, false, false, false, false, false, false] rfl (by kernel_rfl) (fun _ _ _ h => h) rfl (fun w hF => e_load 3 (.tmp 37) ⟨B5, 1, none⟩ (.int .i64 k.h) rfl (Tryd.isAgg3 _) hF.2.2.1) (hFF) ?_; simp only [Act.put, List.setIfInBounds_toArray, List.set_cons_succ, List.set_cons_zero]
        refine K_take 6 #[true, true, true, true, true, true, true, false, false, false, false, false, false, false, false, false, false, false, false, false] rfl (by kernel_rfl) (fun _ _ _ h => h) rfl (fun w hF => e_add (.tmp 36) (.tmp 38) g.h k.h ((g.h + k.h : Nat) : Int) rfl rfl (by omega) (by omega)) (hFF) ?_; simp only [Act.put, List.setIfInBounds_toArray, List.set_cons_succ, List.set_cons_zero]
        refine K_take 8 #[true, true, true, true, true, true, true, false, true, false, false, false, false, false, false, false, false, false, false, false] rfl (by kernel_rfl) (fun _ _ _ h => h) rfl (fun w hF => e_val _ _ (Tryd.tf2 B2 _)) (hFF) ?_; simp only [Act.put, List.setIfInBounds_toArray, List.set_cons_succ, List.set_cons_zero]
        refine K_take 9 #[true, true, true, true, true, true, true, false, true, true, false, false, false, false, false, false, false, false, false, false] rfl (by kernel_rfl) (fun _ _ _ h => h) rfl (fun w hF => e_load 38 (.tmp 41) ⟨B2, 2, none⟩ (.slice (some ⟨G, 0, none⟩) g.c.length cap) rfl (Tryd.isAgg38 _) hF.2.2.2.1) (hFF) ?_; simp only [Act.put, List.setIfInBounds_toArray, List.set_cons_succ, List.set_cons_zero]
        refine K_take 11 #[true, true, true, true, true, true, true, false, true, true, false, true, false, false, false, false, false, false, false, false] rfl (by kernel_rfl) (fun _ _ _ h => h) rfl (fun w hF => e_val _ _ (Tryd.tf2 B5 _)) (hFF) ?_; simp only [Act.put, List.setIfInBounds_toArray, List.set_cons_succ, List.set_cons_zero]
        refine K_take 12 #[true, true, true, true, true, true, true, false, true, true, false, true, true, false, false, false, false, false, false, false] rfl (by kernel_rfl) (fun _ _ _ h => h) rfl (fun w hF => e_load 38 (.tmp 44) ⟨B5, 2, none⟩ (.slice (some ⟨G2, 0, none⟩) k.c.length cap2) rfl (Tryd.isAgg38 _) hF.2.2.2.2) (hFF) ?_; simp only [Act.put, List.setIfInBounds_toArray, List.set_cons_succ, List.set_cons_zero]
        refine K_one 7 #[true, true, true, true, true, true, true, true, true, true, false, true, true, false, false, false, false, false, false, false] rfl (by kernel_rfl) ?_
        refine r_slice0 38 5 (Tryd.bs0 _) rfl ?_
        intro w7 B7 g7 own7
        simp only [Act.put, List.setIfInBounds_toArray, List.set_cons_succ, List.set_cons_zero]
        refine ⟨fun _ => ⟨g7.cell b2_0, g7.cell b2_1, g7.cell b5_1, g7.cell b2_2, g7.cell b5_2⟩, ?_⟩
        have hapk := own_apart' hownk own7 (Nat.le_refl _)
        have hownkd := hownk
        have hown := g7.row hown
        have hownk := g7.row hownk
        have b2 := g7.blk b2
        have b5 := g7.blk b5
        have gg := gg.trans g7
        have z7 := g7.size
        refine K_one 10 #[true, true, true, true, true, true, true, true, true, true, true, true, true, false, false, false, false, false, false, false] rfl (by kernel_rfl) ?_
        refine r_append (.tmp 40) (.tmp 42) 38 5 _ 1 1 wd.heap.size Tryd.bytesI _ 0 [] rfl own7 ⟨G, 0, none⟩ g.c.length cap (cellsV g.c) rfl (by simp [cellsV]) (own_news hown rfl) (cellsV_one g.c) (by omega) (by decide) (by omega) rfl ?_
        intro s8 w8 own8 g8
        simp only [Act.put, List.setIfInBounds_toArray, List.set_cons_succ, List.set_cons_zero]
        rw [Nat.zero_add, List.nil_append] at own8
        have b2 := g8.blk b2 (own_below own7 tB2)
        have b5 := g8.blk b5 (own_below own7 tB5)
        have hapk8 := own_apart' hownkd own8 (Nat.le_refl _)
        have hownk := g8.row hownk hapk
        have gg := g8.gr gg (own_gr own7 (by omega))
        have z8 := g8.size
        obtain ⟨b2_0, b2_1, b2_2⟩ := tcells b2
        obtain ⟨b5_0, b5_1, b5_2⟩ := tcells b5
        refine ⟨fun _ => ⟨b2_0, b2_1, b5_1, b2_2, b5_2⟩, ?_⟩
        refine K_one 13 #[true, true, true, true, true, true, true, true, true, true, true, true, true, true, false, false, false, false, false, false] rfl (by kernel_rfl) ?_
        refine r_append (.tmp 43) (.tmp 45) 38 5 _ 1 1 wd.heap.size Tryd.bytesI s8 g.c.length (cellsV g.c) rfl own8 ⟨G2, 0, none⟩ k.c.length cap2 (cellsV k.c) rfl (by simp [cellsV]) (own_news hownk rfl) (cellsV_one k.c) (by omega) (by decide) (by omega) rfl ?_
        intro s9 w9 own9 g9
        simp only [Act.put, List.setIfInBounds_toArray, List.set_cons_succ, List.set_cons_zero]
        rw [cellsV_append] at own9
        have b2 := g9.blk b2 (own_below own8 tB2)
        have b5 := g9.blk b5 (own_below own8 tB5)
        have gg := g9.gr gg (own_gr own8 (by omega))
        obtain ⟨b2_0, b2_1, b2_2⟩ := tcells b2
        obtain ⟨b5_0, b5_1, b5_2⟩ := tcells b5
        refine ⟨fun _ => ⟨b2_0, b2_1, b5_1, b2_2, b5_2⟩, ?_⟩
        obtain ⟨p, n, q, rfl⟩ := own_slice own9
        refine K_one 14 #[true, true, true, true, true, true, true, true, true, true, true, true, true, true, true, false, false, false, false, false] rfl (by kernel_rfl) ?_
        refine r_build 40 [(0, .tmp 34), (1, .tmp 39), (2, .tmp 46)] [(0, .int .i64 g.w), (1, .int .i64 ((g.h + k.h : Nat) : Int)), (2, .slice p n q)] _ (Tryd.tbuild _ _ _ _ _ _) rfl rfl ?_
        simp only [Act.put, List.setIfInBounds_toArray, List.set_cons_succ, List.set_cons_zero]
        refine ⟨fun _ => ⟨b2_0, b2_1, b5_1, b2_2, b5_2⟩, ?_⟩
        refine K_one 15 #[true, true, true, true, true, true, true, true, true, true, true, true, true, true, true, true, false, false, false, false] rfl (by kernel_rfl) ?_
        refine r_call 56 [.tmp 47] _ [.agg (tg g.w ((g.h + k.h : Nat) : Int) (.slice p n q))] (.tuple #[.string (ifB (txtB g.w (g.h + k.h) (g.c ++ k.c))), .bool (rdOk (txtB g.w (g.h + k.h) (g.c ++ k.c)).data.toList)]) (fun w' => Gr w9 w') Tryd.call56 rfl rfl (tyIf_any g.w (g.h + k.h) wd.heap.size (g.c.length + k.c.length) (g.c ++ k.c) _ w9 hgw1 (by omega) (by omega) (by omega) (by omega) hgk hgkl own9) ?_
        intro w10 g10
        simp only [Act.put, List.setIfInBounds_toArray, List.set_cons_succ, List.set_cons_zero]
        refine ⟨fun _ => ⟨g10.cell b2_0, g10.cell b2_1, g10.cell b5_1, g10.cell b2_2, g10.cell b5_2⟩, ?_⟩
        rw [HT.out, HIF.out.1, HIF.out.2]
        have hF10 := And.intro (g10.cell b2_0) (And.intro (g10.cell b2_1) (And.intro (g10.cell b5_1) (And.intro (g10.cell b2_2) (g10.cell b5_2))))
        refine K_take (v := .string (jtS s t)) 16 #[true, true, true, true, true, true, true, true, true, true, true, true, true, true, true, true, true, false, false, false] rfl (by kernel_rfl) (fun _ _ _ h => h) rfl (fun _ _ => rfl) (hF10) ?_; simp only [Act.put, List.setIfInBounds_toArray, List.set_cons_succ, List.set_cons_zero]
        refine K_take (v := .bool (jtOk s t)) 17 #[true, true, true, true, true, true, true, true, true, true, true, true, true, true, true, true, true, true, false, false] rfl (by kernel_rfl) (fun _ _ _ h => h) rfl (fun _ _ => rfl) (hF10) ?_; simp only [Act.put, List.setIfInBounds_toArray, List.set_cons_succ, List.set_cons_zero]
        refine K_one 18 #[true, true, true, true, true, true, true, true, true, true, true, true, true, true, true, true, true, true, true, false] rfl (by kernel_rfl) ?_
        refine r_val (.string (jtS s t)) rfl rfl ?_
        simp only [Act.put, List.setIfInBounds_toArray, List.set_cons_succ, List.set_cons_zero]
        refine ⟨fun h => absurd rfl h, ?_⟩
        refine K_one 19 #[true, true, true, true, true, true, true, true, true, true, true, true, true, true, true, true, true, true, true, true] rfl (by kernel_rfl) ?_
        refine r_val (.bool (jtOk s t)) rfl rfl ?_
        simp only [Act.put, List.setIfInBounds_toArray, List.set_cons_succ, List.set_cons_zero]
        refine ⟨fun _ => ⟨g10.cell b2_0, g10.cell b2_1, g10.cell b5_1, g10.cell b2_2, g10.cell b5_2⟩, ?_⟩
        have gg := gg.trans g10
        refine K_done' (by kernel_rfl) ?_
        go_wp2
        go_ret2
        exact ⟨rfl, gg⟩
      · have HK := hidI (show jtOk s t = false from by
          rw [← hif.2, jtB_data]; exact join_none hp hq hw)
        have HV := hidI (jt_bad HK.out)
        have hne : ((g.w : Int) != (k.w : Int)) = true := by rw [bne_iff_ne]; omega
        clear hp hq hk1 hk2 hif hw
        go_wp2_with (first | (refine r_alloc (dst := some 8) 40 _ Tryd.tzero rfl ?_; intro w5 B5 N5; have g5 := N5.gr; have b5 : Blk w5 B5 (tg 0 0 (.slice none 0 0)) 40 := N5.blk; have l5 := N5.lo; have t5 := N5.hi; have z5 := g5.size; have b2 := g5.blk b2; obtain ⟨b2_0, b2_1, b2_2⟩ := tcells b2; have gg := gg.trans g5; clear N5; obtain ⟨b5_0, b5_1, b5_2⟩ := tcells b5) | (refine r_store_row 40 40 _ _ _ rfl (tg _ _ _) _ rfl b5 Tryd.tsize rfl (tg_one honek) rfl ?_; intro w6 u6 b5'; have z6 := u6.size; have gg := u6.gr gg (by omega); have b2 := u6.blk b2 (by omega); obtain ⟨b2_0, b2_1, b2_2⟩ := tcells b2; clear b5; have b5 := b5'; clear b5'; obtain ⟨b5_0, b5_1, b5_2⟩ := tcells b5))
        go_ret2
        exact ⟨fin_sb HV.out.symm HK.out.symm, gg⟩
set_option maxHeartbeats 1000000 in
theorem lawJoinTrays (s t : ByteArray) (w : World) (hm : ML w) : Calls Tryd.prog 6 #[.string s, .string t] w (Ret (.bool true) w) := by
  have gg := Gr.refl w
  by_cases hs : 1048576 < s.size
  · go_enter Tryd.func6, Tryd.ntmps6
    go_wp2
    go_ret
    exact ⟨rfl, gg⟩
  · have hs' : s.size ≤ 1048576 := by omega
    clear hs
    by_cases hc : 1048576 < t.size
    · go_enter Tryd.func6, Tryd.ntmps6
      go_wp2
      go_ret
      exact ⟨rfl, gg⟩
    · have hc' : t.size ≤ 1048576 := by omega
      clear hc
      go_enter Tryd.func6, Tryd.ntmps6
      go_wp2_with (first | (go_at_call 21; refine (sJoinTrays s t _ hs' hc').mono ?_; rintro e w1 ⟨rfl, g1⟩; have z1 := g1.size; have gg := gg.trans g1) | (go_at_call 22; refine (iJoinTrays s t _ (gg.ml hm) hs' hc').mono ?_; rintro e w2 ⟨rfl, g2⟩; have z2 := g2.size; have gg := gg.trans g2))
      go_ret
      exact ⟨rfl, gg⟩
end Go.Proofs.YthjkeohnjggmiaaDoor
