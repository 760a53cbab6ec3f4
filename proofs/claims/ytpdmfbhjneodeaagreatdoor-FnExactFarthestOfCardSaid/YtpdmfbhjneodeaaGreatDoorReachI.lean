/-
  The program's states in memory: rows of structs, and the map from grids to their numbers.
-/
import Derived.Test.YtpdmfbhjneodeaaGreatDoorReachP
import Derived.Test.YtpdmfbhjneodeaaGreatDoorOps
import Derived.Test.YtpdmfbhjneodeaaGreatDoorTiltY
import Derived.Test.YtpdmfbhjneodeaaGreatDoorDirs
import Derived.Test.YtpdmfbhjneodeaaGreatDoorKeep
import Derived.Test.YtpdmfbhjneodeaaGreatDoorKeyG
import Derived.Maps.OwnSet
import Derived.Maps.OwnOps
namespace Go.Proofs.YtpdmfbhjneodeaaGreatDoor
open Go.RowKit
open Go.Maps (Keyed)
instance : Inhabited Grid := ⟨⟨0, 0, []⟩⟩
def nilV : Value := .slice none 0 0
def lastB (s : Sta Grid) : Nat := if s.far = 0 then 0 else (dB s.dir).toNat
/-- The cells of a state. -/
def cellS (s : Sta Grid) (v : Value) : List Value := (gvG s.t).toList ++ [.int .i64 s.far, .int .i64 s.words, .int .i64 s.from_, .int .u8 (lastB s), v]
theorem gvl (g : Grid) : (gvG g).toList.length = 38 := by rw [Array.length_toList]; exact gv_size _ _ _
theorem cellS_length (s : Sta Grid) (v : Value) : (cellS s v).length = 43 := by
  unfold cellS
  rw [List.length_append, gvl]
  rfl
theorem cellS_hd (s : Sta Grid) (v : Value) (i : Nat) (hi : i < 38) : (cellS s v)[i]? = (gvG s.t).toList[i]? := by
  unfold cellS
  rw [List.getElem?_append_left (by rw [gvl]; exact hi)]
theorem cellS_tl (s : Sta Grid) (v : Value) (i : Nat) : (cellS s v)[38 + i]? = [Value.int .i64 s.far, .int .i64 s.words, .int .i64 s.from_, .int .u8 (lastB s), v][i]? := by
  unfold cellS
  rw [List.getElem?_append_right (by rw [gvl]; omega), gvl, Nat.add_sub_cancel_left]
theorem cellS_set39 (s : Sta Grid) (v : Value) (x : Int) : (cellS s v).set 39 (.int .i64 x) = cellS { s with words := x } v := by
  unfold cellS
  rw [List.set_append_right _ _ (by rw [gvl]; omega), gvl]
  rfl
theorem cellS_set42 (s : Sta Grid) (v u : Value) : (cellS s v).set 42 u = cellS s u := by
  unfold cellS
  rw [List.set_append_right _ _ (by rw [gvl]; omega), gvl]
  rfl
theorem cellS_one (s : Sta Grid) (v : Value) (hv : v.oneCell' = true) : ∀ u ∈ cellS s v, u.oneCell' = true := by
  intro u hu
  unfold cellS at hu
  rcases List.mem_append.1 hu with h | h
  · exact gv_one _ _ _ u h
  · simp only [List.mem_cons, List.not_mem_nil, or_false] at h
    rcases h with rfl | rfl | rfl | rfl | rfl
    · rfl
    · rfl
    · rfl
    · rfl
    · exact hv
def rowsI (S : List (Sta Grid)) (nx : Nat → Value) : List (List Value) := (List.range S.length).map fun j => cellS (sta S j) (nx j)
theorem rowsI_length (S : List (Sta Grid)) (nx : Nat → Value) : (rowsI S nx).length = S.length := by simp [rowsI]
theorem rowsI_wide (S : List (Sta Grid)) (nx : Nat → Value) : Wide 43 (rowsI S nx) := by
  intro r hr
  unfold rowsI at hr
  obtain ⟨j, _, rfl⟩ := List.mem_map.1 hr
  exact cellS_length _ _
theorem rowsI_get (S : List (Sta Grid)) (nx : Nat → Value) (j : Nat) (hj : j < S.length) : (rowsI S nx).getD j [] = cellS (sta S j) (nx j) := by
  unfold rowsI
  rw [List.getD_eq_getElem?_getD, List.getElem?_map, List.getElem?_range hj]
  rfl
theorem rowsI_set (S : List (Sta Grid)) (nx : Nat → Value) (k : Nat) (s : Sta Grid) (v : Value) (hk : k < S.length) : (rowsI S nx).set k (cellS s v) = rowsI (S.set k s) (fun m => if m = k then v else nx m) := by
  apply List.ext_getElem?
  intro i
  unfold rowsI
  rw [List.getElem?_set, List.length_map, List.length_range, List.length_set]
  by_cases e : k = i
  · subst e
    rw [if_pos rfl, if_pos hk, List.getElem?_map, List.getElem?_range hk]
    show _ = some (cellS (sta (S.set k s) k) (if k = k then v else nx k))
    rw [if_pos rfl, sta_set _ _ _ _ hk, if_pos rfl]
  · rw [if_neg e, List.getElem?_map, List.getElem?_map]
    rcases Nat.lt_or_ge i S.length with hi | hi
    · rw [List.getElem?_range hi]
      show some (cellS (sta S i) (nx i)) = some (cellS (sta (S.set k s) i) (if i = k then v else nx i))
      rw [if_neg (fun h => e h.symm), sta_set _ _ _ _ hk, if_neg (fun h => e h.symm)]
    · rw [List.getElem?_eq_none (by simpa using hi)]
      rfl
theorem rowsI_app (S : List (Sta Grid)) (nx : Nat → Value) (s : Sta Grid) : rowsI S nx ++ [cellS s (nx S.length)] = rowsI (S ++ [s]) nx := by
  unfold rowsI
  rw [List.length_append, List.length_singleton, List.range_succ, List.map_append]
  congr 1
  · apply List.map_congr_left
    intro j hj
    rw [sta_app _ _ _ (List.mem_range.1 hj)]
  · show _ = [cellS (sta (S ++ [s]) S.length) (nx S.length)]
    rw [sta_new]
theorem fn_same (nx : Nat → Value) (k : Nat) : (fun m => if m = k then nx k else nx m) = nx := by
  funext m
  by_cases e : m = k
  · rw [if_pos e, e]
  · rw [if_neg e]
/-- A number of words more. -/
theorem rows_add (S : List (Sta Grid)) (nx : Nat → Value) (n k : Nat) (hk : k < S.length) (hf : (sta S k).far = (sta S n).far + 1) :
    (rowsI S nx).set k (((rowsI S nx).getD k []).set 39 (.int .i64 (wrap64 ((sta S k).words + (sta S n).words)))) = rowsI (addS S n k) nx := by
  rw [rowsI_get S nx k hk, cellS_set39, rowsI_set S nx k _ _ hk, fn_same]
  unfold addS
  rw [if_pos hf]
theorem rows_push (S : List (Sta Grid)) (nx : Nat → Value) (n k : Nat) (hn : n < S.length) (u : Value) :
    (rowsI S nx).set n (((rowsI S nx).getD n []).set 42 u) = rowsI (pushS S n k) (fun m => if m = n then u else nx m) := by
  rw [rowsI_get S nx n hn, cellS_set42]
  rw [show cellS (sta S n) u = cellS { sta S n with next := (sta S n).next ++ [k] } u from rfl, rowsI_set S nx n _ _ hn]
  rfl
def natsV (l : List Nat) : List Value := l.map fun k : Nat => Value.int .i64 (k : Int)
theorem natsV_one (l : List Nat) : ∀ v ∈ natsV l, v.oneCell' = true := by
  intro v hv
  obtain ⟨b, _, rfl⟩ := List.mem_map.1 hv
  rfl
theorem natsV_app (l : List Nat) (k : Nat) : natsV l ++ [Value.int .i64 (k : Int)] = natsV (l ++ [k]) := by simp [natsV]
/-- All trays of one size. -/
structure Sized (W H : Nat) (g : Grid) : Prop where
  cel : Cel g
  w : g.w = W
  h : g.h = H
theorem Sized.tilt {W H : Nat} : ∀ e (y : Grid), e < 4 → Sized W H y → Sized W H (tiltG e y) := fun _ _ he h => ⟨h.cel.tilt he, h.w, h.h⟩
theorem gvG_inj {W H : Nat} {g k : Grid} (hg : Sized W H g) (hk : Sized W H k) (h : gvG g = gvG k) : g = k := by
  have hc : g.c = k.c := by
    apply list_ext (by rw [hg.cel.len, hk.cel.len, hg.w, hg.h, hk.w, hk.h])
    intro i hi
    have h36 : i < 36 := by have := hg.cel.len; have := hg.cel.n36; omega
    have e1 := gv_c g.w g.h g.c i h36
    have e2 := gv_c k.w k.h k.c i h36
    have : (gv g.w g.h g.c)[2 + i]? = (gv k.w k.h k.c)[2 + i]? := by
      show (gvG g)[2 + i]? = (gvG k)[2 + i]?
      rw [h]
    rw [e1, e2] at this
    simp only [Option.some.injEq, byteV, Value.int.injEq, true_and] at this
    exact UInt8.toNat_inj.1 (by omega)
  obtain ⟨gw, gh, gc⟩ := g
  obtain ⟨kw, kh, kc⟩ := k
  simp only at hc
  have h1 : gw = kw := hg.w.trans hk.w.symm
  have h2 : gh = kh := hg.h.trans hk.h.symm
  rw [h1, h2, hc]
theorem findS_app (S : List (Sta Grid)) (s : Sta Grid) (x : Grid) : findS (S ++ [s]) x = match findS S x with
    | some k => some k
    | none => if s.t = x then some S.length else none := by
  induction S with
  | nil =>
    show (if s.t = x then some 0 else (findS [] x).map (· + 1)) = _
    rfl
  | cons t S ih =>
    show (if t.t = x then some 0 else (findS (S ++ [s]) x).map (· + 1)) = _
    by_cases e : t.t = x
    · rw [if_pos e]
      have : findS (t :: S) x = some 0 := by show (if t.t = x then _ else _) = _; rw [if_pos e]
      rw [this]
    · rw [if_neg e, ih]
      have : findS (t :: S) x = (findS S x).map (· + 1) := by show (if t.t = x then _ else _) = _; rw [if_neg e]
      rw [this]
      cases findS S x with
      | some k => rfl
      | none =>
        show (if s.t = x then some S.length else none).map (· + 1) = if s.t = x then some (S.length + 1) else none
        by_cases e2 : s.t = x
        · rw [if_pos e2, if_pos e2]; rfl
        · rw [if_neg e2, if_neg e2]; rfl
theorem findS_congr : ∀ {S T : List (Sta Grid)} (x : Grid), S.length = T.length → (∀ j, (sta S j).t = (sta T j).t) → findS S x = findS T x
  | [], [], _, _, _ => rfl
  | [], _ :: _, _, h, _ => by simp at h
  | _ :: _, [], _, h, _ => by simp at h
  | s :: S, t :: T, x, h, ht => by
    have h0 : s.t = t.t := ht 0
    have := findS_congr (S := S) (T := T) x (by simpa using h) (fun j => ht (j + 1))
    show (if s.t = x then _ else _) = (if t.t = x then _ else _)
    rw [h0, this]
theorem findS_link (S : List (Sta Grid)) (n k : Nat) (x : Grid) (hn : n < S.length) (hk : k < S.length) : findS (linkS S n k) x = findS S x :=
  findS_congr x (linkS_length S n k) fun j => (sta_link S n k j hn hk).1.t
/-- Block B is a map from grids to the numbers of their states. -/
def MapG (W H : Nat) (w : World) (B : Nat) (S : List (Sta Grid)) : Prop :=
  ∃ D : DataW Unit, w.ownsMap Tryz.prog 43 (plainElem Tryz.prog 3) B S.length D ∧
    ∀ m l, Sized W H m → keyOf Tryz.prog 43 (.agg (gvG m)) = some l → Maps.has D l = (findS S m).isSome ∧ D.atKey l (.lit (.int .i64 0)) = .lit (.int .i64 (((findS S m).getD 0 : Nat) : Int))
theorem MapG.look {W H : Nat} {w : World} {B : Nat} {S : List (Sta Grid)} {m : Grid} (h : MapG W H w B S) (hm : Sized W H m) :
    (Instr.lookup 69 (.map (some B)) (.agg (gvG m)) true).run Tryz.prog w = .ok (.tuple #[.int .i64 (((findS S m).getD 0 : Nat) : Int), .bool (findS S m).isSome]) w := by
  obtain ⟨D, hown, hD⟩ := h
  obtain ⟨l, hl⟩ := Tryz.gkKey m hm.cel.w7 hm.cel.h7
  obtain ⟨v, ps, hrun, hv⟩ := hown.look_ok Tryz.gkLaw Tryz.underlying69 (Tryz.zeroValue3 w) (plainElem_int Tryz.underlying3 (wf_i7 0 (by omega))) hl
  obtain ⟨c, rfl, hc, -⟩ := plainElem_int_inv Tryz.underlying3 hv
  obtain ⟨e1, e2⟩ := hD m l hm hl
  have e3 := congrArg Prod.fst hc
  simp only at e3
  rw [e2] at e3
  rw [hrun, e1]
  simp only [DataW.lit.injEq, Lit.int.injEq, true_and] at e3
  rw [e3]
theorem MapG.put {W H : Nat} {w : World} {B : Nat} {S : List (Sta Grid)} {m : Grid} (h : MapG W H w B S) (hm : Sized W H m) (hf : findS S m = none) (s : Sta Grid) (hs : s.t = m) (hl : S.length ≤ 300) :
    ∃ w', (Instr.mapUpdate 69 (.map (some B)) (.agg (gvG m)) (.int .i64 (S.length : Int))).run Tryz.prog w = .ok () w' ∧ MapG W H w' B (S ++ [s]) ∧ Grb (some B) w w' := by
  obtain ⟨D, hown, hD⟩ := h
  obtain ⟨l, hk⟩ := Tryz.gkKey m hm.cel.w7 hm.cel.h7
  obtain ⟨w', hrun, hown', hg⟩ := hown.update Tryz.gkLaw Tryz.underlying69 (by unfold maxLen; omega) hk (plainElem_int Tryz.underlying3 (wf_i7 S.length (by omega)))
  refine ⟨w', hrun, ⟨_, by rw [List.length_append]; exact hown', fun m' l' hm' hl' => ?_⟩, ⟨hg⟩⟩
  rw [findS_app, hs]
  by_cases e : m' = m
  · subst e
    rw [hk] at hl'
    cases hl'
    rw [hf]
    show _ = (if m' = m' then some S.length else none).isSome ∧ _ = DataW.lit (Lit.int .i64 (((if m' = m' then some S.length else none).getD 0 : Nat) : Int))
    rw [if_pos rfl]
    exact ⟨Maps.has_put_same hown.isMap (Tryz.gkLaw.key hk) _, Maps.atKey_put_same hown.isMap (Tryz.gkLaw.key hk) _ _⟩
  · have hne : l' ≠ l := fun h => by
      subst h
      have := Tryz.gkLaw.inj hl' hk
      exact e (gvG_inj hm' hm (by injection this))
    rw [Maps.has_put_other hne, Maps.atKey_put_other hne, (hD m' l' hm' hl').1, (hD m' l' hm' hl').2]
    cases findS S m' with
    | some k => exact ⟨rfl, rfl⟩
    | none =>
      show _ = (if m = m' then some S.length else none).isSome ∧ _ = DataW.lit (Lit.int .i64 (((if m = m' then some S.length else none).getD 0 : Nat) : Int))
      rw [if_neg (fun h => e h.symm)]
      exact ⟨rfl, rfl⟩
theorem MapG.made (W H : Nat) (w : World) : MapG W H (w.alloc (.map #[] 0)) w.heap.size [] :=
  ⟨_, World.ownsMap_made _ _ _ _, fun _ _ _ _ => ⟨rfl, rfl⟩⟩
theorem MapG.obj {W H : Nat} {w : World} {B : Nat} {S : List (Sta Grid)} (h : MapG W H w B S) : ∃ es c, w.heap[B]? = some (.map es c) := by
  obtain ⟨D, ⟨es, c, hb, _⟩, _⟩ := h
  exact ⟨es, c, hb⟩
theorem MapG.grb {W H : Nat} {w w' : World} {B : Nat} {S : List (Sta Grid)} {R : Option Nat} (h : MapG W H w B S) (g : Grb R w w') (hne : R ≠ some B) : MapG W H w' B S := by
  obtain ⟨D, hown, hD⟩ := h
  exact ⟨D, hown.kept g.g (fun e => hne e.symm), hD⟩
theorem MapG.gr {W H : Nat} {w w' : World} {B : Nat} {S : List (Sta Grid)} (h : MapG W H w B S) (g : Gr w w') : MapG W H w' B S := h.grb (g.grb none) (by simp)
theorem MapG.row {W H : Nat} {w w' : World} {B : Nat} {S : List (Sta Grid)} (h : MapG W H w B S) {base : Nat} {e : TypeId} {size n : Nat} {v : Value} {xs : List Value} (hr : w.ownsRow base e size v n xs) (g : Grb v.ownBlock w w') : MapG W H w' B S := by
  obtain ⟨es, c, hb⟩ := h.obj
  exact h.grb g (own_ne_obj hr hb)
theorem MapG.upd {W H : Nat} {w w' : World} {B K : Nat} {S : List (Sta Grid)} {cs : Array Value} {T : TypeId} (h : MapG W H w B S) (hb : Blk w K cs T) (u : Upd K w w') : MapG W H w' B S := by
  obtain ⟨es, c, hm⟩ := h.obj
  refine h.grb u.grb (fun e => ?_)
  obtain rfl : K = B := by simpa using e
  unfold Blk at hb
  rw [hm] at hb
  cases hb
theorem MapG.congr {W H : Nat} {w : World} {B : Nat} {S T : List (Sta Grid)} (h : MapG W H w B S) (hl : S.length = T.length) (ht : ∀ x, findS S x = findS T x) : MapG W H w B T := by
  obtain ⟨D, hown, hD⟩ := h
  exact ⟨D, hl ▸ hown, fun m l hm hk => by rw [← ht]; exact hD m l hm hk⟩
/-- The states in memory between two rounds. -/
structure ORel (base : Nat) (w : World) (v : Value) (S : List (Sta Grid)) (nx : Nat → Value) (n : Nat) : Prop where
  row : w.ownsRow base 45 43 v S.length (rowsI S nx).flatten
  nxt : ∀ j, j < S.length → w.ownsRow base 3 1 (nx j) (sta S j).next.length (natsV (sta S j).next)
  nil : ∀ j, n ≤ j → nx j = nilV
/-- .. and within the round of state n, whose own row of numbers lies from H on. -/
structure IRel (base H : Nat) (w : World) (v : Value) (S : List (Sta Grid)) (nx : Nat → Value) (n : Nat) : Prop where
  row : w.ownsRow base 45 43 v S.length (rowsI S nx).flatten
  own : w.ownsRow H 3 1 (nx n) (sta S n).next.length (natsV (sta S n).next)
  nxt : ∀ j, j < S.length → j ≠ n → w.ownsRow base 3 1 (nx j) (sta S j).next.length (natsV (sta S j).next) ∧ ∀ k, (nx j).ownBlock = some k → k < H
  nil : ∀ j, n < j → nx j = nilV
/-- The states in memory, all of it new since the heap had that size. -/
structure ISt (base : Nat) (w : World) (v : Value) (S : List (Sta Grid)) (nx : Nat → Value) : Prop where
  row : w.ownsRow base 45 43 v S.length (rowsI S nx).flatten
  nxt : ∀ j, j < S.length → w.ownsRow base 3 1 (nx j) (sta S j).next.length (natsV (sta S j).next)
/-- It returns the states, or fails. -/
def RetI (o : Option (List (Sta Grid))) (w : World) (e : Ending) (w' : World) : Prop :=
  Gr w w' ∧ match o with
    | none => e = .returned (.tuple #[.slice none 0 0, .bool false])
    | some S => ∃ v nx, e = .returned (.tuple #[v, .bool true]) ∧ ISt w.heap.size w' v S nx
section
variable {base H : Nat} {w w' : World} {v : Value} {S : List (Sta Grid)} {nx : Nat → Value} {n : Nat}
theorem ORel.begin (h : ORel base w v S nx n) (hl : (sta S n).next.length = 0) : IRel base w.heap.size w v S nx n :=
  ⟨h.row, by
    have e : (sta S n).next = [] := List.eq_nil_of_length_eq_zero hl
    rw [h.nil n (Nat.le_refl _), e]
    exact World.ownsRow_nil _ _ _ _, fun j hj _ => ⟨h.nxt j hj, fun k hk => ((h.nxt j hj).lt k hk).2⟩, fun j hj => h.nil j (by omega)⟩
theorem IRel.done (h : IRel base H w v S nx n) (hb : base ≤ H) : ORel base w v S nx (n + 1) :=
  ⟨h.row, fun j hj => by
    by_cases e : j = n
    · subst e; exact own_up h.own hb
    · exact (h.nxt j hj e).1, fun j hj => h.nil j (by omega)⟩
theorem IRel.gr (h : IRel base H w v S nx n) (g : Gr w w') : IRel base H w' v S nx n :=
  ⟨g.row h.row, g.row h.own, fun j hj e => ⟨g.row (h.nxt j hj e).1, (h.nxt j hj e).2⟩, h.nil⟩
theorem IRel.upd {B : Nat} {cs : Array Value} {T : TypeId} (h : IRel base H w v S nx n) (hb : Blk w B cs T) (h1 : T ≠ 45) (h2 : T ≠ 3) (u : Upd B w w') : IRel base H w' v S nx n :=
  ⟨u.row h.row (own_ne h.row hb h1), u.row h.own (own_ne h.own hb h2), fun j hj e => ⟨u.row (h.nxt j hj e).1 (own_ne (h.nxt j hj e).1 hb h2), (h.nxt j hj e).2⟩, h.nil⟩
theorem IRel.map {B : Nat} {es : Array MapEntry} {c : Nat} (h : IRel base H w v S nx n) (hb : w.heap[B]? = some (.map es c)) (g : Grb (some B) w w') : IRel base H w' v S nx n :=
  ⟨g.row h.row (.inr (own_ne_obj h.row hb)), g.row h.own (.inr (own_ne_obj h.own hb)), fun j hj e => ⟨g.row (h.nxt j hj e).1 (.inr (own_ne_obj (h.nxt j hj e).1 hb)), (h.nxt j hj e).2⟩, h.nil⟩
/-- A state more. -/
theorem IRel.grow {v' : Value} {s : Sta Grid} (h : IRel base H w v S nx n) (hn : n < S.length) (hs : s.next = []) (g : Grb v.ownBlock w w') (hr : w'.ownsRow base 45 43 v' (S.length + 1) ((rowsI S nx).flatten ++ cellS s nilV)) : IRel base H w' v' (S ++ [s]) nx n := by
  have hnil := h.nil S.length hn
  refine ⟨?_, ?_, fun j hj e => ?_, h.nil⟩
  · rw [List.length_append, ← rowsI_app, List.flatten_append, hnil]
    simpa using hr
  · rw [sta_app _ _ _ hn]
    exact g.row h.own (own_ne2 h.own h.row (by decide))
  · rcases Nat.lt_or_ge j S.length with hj' | hj'
    · rw [sta_app _ _ _ hj']
      exact ⟨g.row (h.nxt j hj' e).1 (own_ne2 (h.nxt j hj' e).1 h.row (by decide)), (h.nxt j hj' e).2⟩
    · obtain rfl : j = S.length := by rw [List.length_append, List.length_singleton] at hj; omega
      rw [sta_new, hs, hnil]
      exact ⟨World.ownsRow_nil _ _ _ _, fun k hk => by cases hk⟩
/-- Words more. -/
theorem IRel.add {g cap k : Nat} (h : IRel base H w (.slice (some ⟨g, 0, none⟩) S.length cap) S nx n) (hk : k < S.length) (hf : (sta S k).far = (sta S n).far + 1) (u : Upd g w w')
    (hr : w'.ownsRow base 45 43 (.slice (some ⟨g, 0, none⟩) S.length cap) S.length ((rowsI S nx).set k (((rowsI S nx).getD k []).set 39 (.int .i64 (wrap64 ((sta S k).words + (sta S n).words))))).flatten) :
    IRel base H w' (.slice (some ⟨g, 0, none⟩) S.length cap) (addS S n k) nx n := by
  have ap : ∀ {b : Nat} {x : Value} {m : Nat} {xs : List Value}, w.ownsRow b 3 1 x m xs → x.ownBlock ≠ some g := fun hx e => by
    rcases own_ne2 hx h.row (by decide) with h' | h'
    · rw [h'] at e; cases e
    · exact h' e
  refine ⟨?_, ?_, fun j hj e => ?_, h.nil⟩
  · rw [addS_length, ← rows_add S nx n k hk hf]; exact hr
  · rw [(sta_add S n k n hk).2]; exact u.row h.own (ap h.own)
  · rw [addS_length] at hj
    rw [(sta_add S n k j hk).2]
    exact ⟨u.row (h.nxt j hj e).1 (ap (h.nxt j hj e).1), (h.nxt j hj e).2⟩
/-- A number more for state n: the append, .. -/
theorem IRel.app (h : IRel base H w v S nx n) (g : Grb (nx n).ownBlock w w') : w'.ownsRow base 45 43 v S.length (rowsI S nx).flatten ∧ ∀ j, j < S.length → j ≠ n → w'.ownsRow base 3 1 (nx j) (sta S j).next.length (natsV (sta S j).next) :=
  ⟨g.row h.row (own_ne2 h.row h.own (by decide)), fun j hj e => g.row (h.nxt j hj e).1 (by
    cases hb : (nx j).ownBlock with
    | none => exact .inl rfl
    | some b =>
      refine .inr fun h' => ?_
      have h1 := (h.nxt j hj e).2 b hb
      have h2 := (h.own.lt b h'.symm).1
      omega)⟩
/-- .. and the store. -/
theorem IRel.push {w1 w2 : World} {g cap k m : Nat} {v' : Value} (h : IRel base H w (.slice (some ⟨g, 0, none⟩) m cap) S nx n) (hm : m = S.length) (hn : n < S.length) (ga : Grb (nx n).ownBlock w w1) (u : Upd g w1 w2)
    (ho : w1.ownsRow H 3 1 v' ((sta S n).next.length + 1) (natsV ((sta S n).next ++ [k])))
    (hr : w2.ownsRow base 45 43 (.slice (some ⟨g, 0, none⟩) m cap) m ((rowsI S nx).set n (((rowsI S nx).getD n []).set 42 v')).flatten) :
    IRel base H w2 (.slice (some ⟨g, 0, none⟩) m cap) (pushS S n k) (fun m => if m = n then v' else nx m) n := by
  subst hm
  obtain ⟨hrow, hnx⟩ := h.app ga
  have ap : ∀ {b : Nat} {x : Value} {m : Nat} {xs : List Value}, w1.ownsRow b 3 1 x m xs → x.ownBlock ≠ some g := fun hx e => by
    rcases own_ne2 hx hrow (by decide) with h' | h'
    · rw [h'] at e; cases e
    · exact h' e
  refine ⟨?_, ?_, fun j hj e => ?_, fun j hj => ?_⟩
  · rw [pushS_length, ← rows_push S nx n k hn v']; exact hr
  · rw [if_pos rfl, (sta_push S n k n hn).2, if_pos rfl, List.length_append]
    exact u.row ho (ap ho)
  · rw [pushS_length] at hj
    rw [if_neg e, (sta_push S n k j hn).2, if_neg e]
    exact ⟨u.row (hnx j hj e) (ap (hnx j hj e)), (h.nxt j hj e).2⟩
  · rw [if_neg (by omega)]; exact h.nil j hj
end
end Go.Proofs.YtpdmfbhjneodeaaGreatDoor
