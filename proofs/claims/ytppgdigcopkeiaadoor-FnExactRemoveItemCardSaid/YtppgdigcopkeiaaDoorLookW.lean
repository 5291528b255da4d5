/-
  A lookup in memory, its map of targets told by the places that it holds; what keeps it. Plain facts, and the walks of slices.Index and slices.Contains at numbers.
-/
import Derived.Test.YtppgdigcopkeiaaDoorLookP
import Derived.Test.YtppgdigcopkeiaaDoorWSpecWithin
import Derived.Maps.Ext
namespace Go.Proofs.YtppgdigcopkeiaaDoor
open Go Go.RowKit Go.Maps
/-- A place of an item, as the map's key; what is remembered at it. -/
def IsItem (ss : List Sc) (q : Nat × Nat) : Prop := ∃ (c : Sc) (x : It), ss[q.1]? = some c ∧ c.items[q.2]? = some x
def qKey (q : Nat × Nat) : Lit := plLit (q.1 : Int) (q.2 : Int)
def tgt (ss : List Sc) (q : Nat × Nat) : Int := targetP ss q.1 ((itemAtP ss (q.1 : Int) (q.2 : Int)).getD zeroIt).name
def tgtVal (ss : List Sc) (q : Nat × Nat) : DataW Unit := numD (tgt ss q)
theorem tgt_of {ss : List Sc} {i j : Nat} {c : Sc} {x : It} (hc : ss[i]? = some c) (hx : c.items[j]? = some x) : tgt ss (i, j) = targetP ss i x.name := by
  unfold tgt
  rw [itemAtP_nat hc, hx]
  rfl
theorem qKey_is (q : Nat × Nat) : WideAt.IsKeyLit (qKey q) := trivial
theorem item_bounds {ss : List Sc} (hv : Valid ss) {q : Nat × Nat} (h : IsItem ss q) : q.1 < 6 ∧ q.2 < 5 := by
  obtain ⟨c, x, hc, hx⟩ := h
  have h1 := (List.getElem?_eq_some_iff.1 hc).1
  have h2 := (List.getElem?_eq_some_iff.1 hx).1
  have h3 := hv.count.2
  have h4 := hv.five c (List.mem_of_getElem? hc)
  omega
theorem qKey_inj {ss : List Sc} (hv : Valid ss) {p q : Nat × Nat} (hp : IsItem ss p) (hq : IsItem ss q) (h : qKey p = qKey q) : p = q := by
  have b1 := item_bounds hv hp
  have b2 := item_bounds hv hq
  have := plLit_inj (wf_small (by omega)) (wf_small (by omega)) (wf_small (by omega)) (wf_small (by omega)) h
  obtain ⟨a, b⟩ := p
  obtain ⟨c, d⟩ := q
  simp only [Prod.mk.injEq] at *
  omega
theorem nodup_keys {ss : List Sc} (hv : Valid ss) : ∀ {l : List (Nat × Nat)}, l.Nodup → (∀ q ∈ l, IsItem ss q) → (l.map qKey).Nodup
  | [], _, _ => by simp
  | p :: r, hn, hi => by
    rw [List.nodup_cons] at hn
    rw [List.map_cons, List.nodup_cons]
    refine ⟨fun hm => ?_, nodup_keys hv hn.2 fun q hq => hi q (List.mem_cons_of_mem _ hq)⟩
    obtain ⟨q, hq, he⟩ := List.mem_map.1 hm
    exact hn.1 (qKey_inj hv (hi q (List.mem_cons_of_mem _ hq)) (hi p List.mem_cons_self) he ▸ hq)
theorem items_bound {ss : List Sc} (hv : Valid ss) {l : List (Nat × Nat)} (hn : l.Nodup) (hi : ∀ q ∈ l, IsItem ss q) : l.length ≤ 30 := by
  have hl : (l.map fun q => q.1 * 5 + q.2).Nodup := by
    induction l with
    | nil => simp
    | cons p r ih =>
      rw [List.nodup_cons] at hn
      rw [List.map_cons, List.nodup_cons]
      refine ⟨fun hm => ?_, ih hn.2 fun q hq => hi q (List.mem_cons_of_mem _ hq)⟩
      obtain ⟨q, hq, he⟩ := List.mem_map.1 hm
      have b1 := item_bounds hv (hi p List.mem_cons_self)
      have b2 := item_bounds hv (hi q (List.mem_cons_of_mem _ hq))
      refine hn.1 ?_
      have : q = p := by
        obtain ⟨a, b⟩ := p
        obtain ⟨c, d⟩ := q
        simp only [Prod.mk.injEq] at *
        omega
      exact this ▸ hq
  have h := length_le_of_nodup_lt (n := 30) hl (fun m hm => by
    obtain ⟨q, hq, rfl⟩ := List.mem_map.1 hm
    have := item_bounds hv (hi q hq)
    omega)
  simpa using h
/-- The map of targets: some places, each once, each with its target. -/
def Memo (w : World) (M : Nat) (ss : List Sc) : Prop := ∃ l : List (Nat × Nat), l.Nodup ∧ (∀ q ∈ l, IsItem ss q) ∧ w.ownsMap Tryd.prog 34 numR M l.length (putInto qKey (tgtVal ss) (.map []) l)
theorem nilMap : IsMap (.map [] : DataW Unit) := ⟨_, rfl⟩
theorem has_memo {ss : List Sc} (hv : Valid ss) {l : List (Nat × Nat)} (hi : ∀ q ∈ l, IsItem ss q) {q : Nat × Nat} (hq : IsItem ss q) : Maps.has (putInto qKey (tgtVal ss) (.map []) l) (qKey q) = true ↔ q ∈ l := by
  rw [putInto_has qKey (tgtVal ss) qKey_is (qKey q) l _ nilMap]
  constructor
  · rintro (h | ⟨p, hp, he⟩)
    · cases h
    · exact qKey_inj hv (hi p hp) hq he ▸ hp
  · exact fun h => .inr ⟨q, h, rfl⟩
theorem at_memo {ss : List Sc} (hv : Valid ss) {l : List (Nat × Nat)} (hn : l.Nodup) (hi : ∀ q ∈ l, IsItem ss q) {q : Nat × Nat} (hq : q ∈ l) (z : DataW Unit) : (putInto qKey (tgtVal ss) (.map []) l).atKey (qKey q) z = numD (tgt ss q) :=
  putInto_at qKey (tgtVal ss) qKey_is z l _ nilMap (nodup_keys hv hn hi) q hq
theorem zeroInt (w : World) : (zeroValue 3).run Tryd.prog w = .ok (.int .i64 0) w := by kernel_rfl
theorem numR_eq {v : Value} {z : Int} {ps : List MemPlace} (h : numR v = some (numD z, ps)) : v = .int .i64 z := by
  unfold numR at h
  split at h
  · simp only [Option.some.injEq, Prod.mk.injEq, numD, DataW.lit.injEq, Lit.int.injEq, true_and] at h
    rw [h.1]
  · cases h
/-- A place looked up among the targets. -/
theorem Memo.look {w : World} {M : Nat} {ss : List Sc} (hv : Valid ss) (h : Memo w M ss) {q : Nat × Nat} (hq : IsItem ss q) :
    ((Instr.lookup 182 (.map (some M)) (.agg #[.int .i64 (q.1 : Int), .int .i64 (q.2 : Int)]) true).run Tryd.prog w = .ok (.tuple #[.int .i64 (tgt ss q), .bool true]) w) ∨
    (∃ l : List (Nat × Nat), l.Nodup ∧ (∀ p ∈ l, IsItem ss p) ∧ q ∉ l ∧ w.ownsMap Tryd.prog 34 numR M l.length (putInto qKey (tgtVal ss) (.map []) l) ∧ ∃ z : Int, (Instr.lookup 182 (.map (some M)) (.agg #[.int .i64 (q.1 : Int), .int .i64 (q.2 : Int)]) true).run Tryd.prog w = .ok (.tuple #[.int .i64 z, .bool false]) w) := by
  obtain ⟨l, hn, hi, hm⟩ := h
  have b := item_bounds hv hq
  obtain ⟨v, ps, hrun, hval⟩ := hm.look_ok (t := 182) (e := 3) placeLaw Tryd.underlying182 (zeroInt _) (numR_mk 0) (pl_key (a := (q.1 : Int)) (b := (q.2 : Int)) (wf_small (by omega)) (wf_small (by omega)))
  have hrun' : (Instr.lookup 182 (.map (some M)) (.agg #[.int .i64 (q.1 : Int), .int .i64 (q.2 : Int)]) true).run Tryd.prog w = .ok (.tuple #[v, .bool (Maps.has (putInto qKey (tgtVal ss) (.map []) l) (qKey q))]) w := hrun
  by_cases hql : q ∈ l
  · left
    have e := at_memo hv hn hi hql (numD 0)
    have hval' : numR v = some ((putInto qKey (tgtVal ss) (.map []) l).atKey (qKey q) (numD 0), ps) := hval
    rw [e] at hval'
    rw [(has_memo hv hi hq).2 hql, numR_eq hval'] at hrun'
    exact hrun'
  · right
    have hf : Maps.has (putInto qKey (tgtVal ss) (.map []) l) (qKey q) = false := by
      cases hb : Maps.has (putInto qKey (tgtVal ss) (.map []) l) (qKey q) with
      | false => rfl
      | true => exact absurd ((has_memo hv hi hq).1 hb) hql
    rw [hf] at hrun'
    have hval' : numR v = some ((putInto qKey (tgtVal ss) (.map []) l).atKey (qKey q) (numD 0), ps) := hval
    rw [putInto_other qKey (tgtVal ss) (qKey q) (numD 0) l _ (fun p hp e => hql (qKey_inj hv (hi p hp) hq e ▸ hp))] at hval'
    have e0 : (DataW.map [] : DataW Unit).atKey (qKey q) (numD 0) = numD 0 := rfl
    rw [e0] at hval'
    rw [numR_eq hval'] at hrun'
    exact ⟨l, hn, hi, hql, hm, 0, hrun'⟩
theorem ownsMap_tight {w : World} {k : TypeId} {R : Value → Option (DataW Unit × List MemPlace)} {b n : Nat} {D : DataW Unit} (h : w.ownsMap Tryd.prog k R b n D) : w.ownsMap Tryd.prog k R b (Maps.size D) D := by
  obtain ⟨es, clock, hb, F, hs, rfl⟩ := h
  exact ⟨es, clock, hb, F, by simp [Maps.size, length_sorted], rfl⟩
theorem ownsMap_more {w : World} {k : TypeId} {R : Value → Option (DataW Unit × List MemPlace)} {b n m : Nat} {D : DataW Unit} (h : w.ownsMap Tryd.prog k R b n D) (hm : n ≤ m) : w.ownsMap Tryd.prog k R b m D := by
  obtain ⟨es, clock, hb, F, hs, rfl⟩ := h
  exact ⟨es, clock, hb, F, Nat.le_trans hs hm, rfl⟩
/-- A place's target remembered. -/
theorem memo_put {w : World} {M : Nat} {ss : List Sc} (hv : Valid ss) (h : Memo w M ss) {q : Nat × Nat} (hq : IsItem ss q) {z : Int} (hz : z = tgt ss q) :
    ∃ w', (Instr.mapUpdate 182 (.map (some M)) (.agg #[.int .i64 (q.1 : Int), .int .i64 (q.2 : Int)]) (.int .i64 z)).run Tryd.prog w = .ok () w' ∧ Memo w' M ss ∧ w.grownBy w' (some M) := by
  subst hz
  obtain ⟨l, hn, hi, hm⟩ := h
  have b := item_bounds hv hq
  have hl := items_bound hv hn hi
  obtain ⟨w', hrun, hown, hg⟩ := hm.update (t := 182) (e := 3) placeLaw Tryd.underlying182 (by unfold maxLen; omega) (pl_key (a := (q.1 : Int)) (b := (q.2 : Int)) (wf_small (by omega)) (wf_small (by omega))) (numR_mk (tgt ss q))
  have hown' : w'.ownsMap Tryd.prog 34 numR M (l.length + 1) ((putInto qKey (tgtVal ss) (.map []) l).put (qKey q) (numD (tgt ss q))) := hown
  refine ⟨w', hrun, ?_, hg⟩
  by_cases hql : q ∈ l
  · have hM := putInto_isMap qKey (tgtVal ss) l _ nilMap
    have e : (putInto qKey (tgtVal ss) (.map []) l).put (qKey q) (numD (tgt ss q)) = putInto qKey (tgtVal ss) (.map []) l := by
      refine Maps.ext (hown'.canon placeLaw) (hm.canon placeLaw) (fun k => ?_) (fun k z _ => ?_)
      · by_cases hk : k = qKey q
        · rw [hk, Maps.has_put_same hM (qKey_is q), (has_memo hv hi hq).2 hql]
        · exact Maps.has_put_other hk _
      · by_cases hk : k = qKey q
        · rw [hk, Maps.atKey_put_same hM (qKey_is q), at_memo hv hn hi hql]
        · exact Maps.atKey_put_other hk _ _
    rw [e] at hown'
    exact ⟨l, hn, hi, ownsMap_more (ownsMap_tight hown') hm.size_le⟩
  · refine ⟨l ++ [q], List.nodup_append.2 ⟨hn, by simp, by rintro a ha b hb rfl; rw [List.mem_singleton] at hb; exact hql (hb ▸ ha)⟩, fun p hp => ?_, ?_⟩
    · rcases List.mem_append.1 hp with h1 | h1
      · exact hi p h1
      · rw [List.mem_singleton] at h1; exact h1 ▸ hq
    · rw [putInto_snoc, List.length_append]
      exact hown'
theorem memo_nil {w : World} {M : Nat} {ss : List Sc} (h : w.ownsMap Tryd.prog 34 numR M 0 (.map [])) : Memo w M ss := ⟨[], by simp, by simp, h⟩
/-- A lookup in a tree. -/
structure LookW (w : World) (B L M T M1 M2 : Nat) (v : Value) (ds : List Nd) (ss : List Sc) : Prop where
  tree : TreeIs w B T M1 M2 v ds ss
  box : Row w L 184 [.pointer (some ⟨T, 0, none⟩), .map (some M)]
  memo : Memo w M ss
  ne1 : M1 ≠ M
  ne2 : M2 ≠ M
theorem Memo.block {w : World} {M : Nat} {ss : List Sc} (h : Memo w M ss) : ∃ es clock, w.heap[M]? = some (.map es clock) := by
  obtain ⟨l, _, _, es, clock, hh, _⟩ := h
  exact ⟨es, clock, hh⟩
theorem Memo.lt {w : World} {M : Nat} {ss : List Sc} (h : Memo w M ss) : M < w.heap.size := by
  obtain ⟨es, clock, hh⟩ := h.block
  exact (Array.getElem?_eq_some_iff.1 hh).1
theorem Memo.below {w w' : World} {M : Nat} {ss : List Sc} (h : Memo w M ss) (hb : Below w.heap.size w w') : Memo w' M ss := by
  obtain ⟨l, h1, h2, h3⟩ := h
  exact ⟨l, h1, h2, ownsMap_below h3 hb⟩
/-- What turns one map alone leaves all cells. -/
theorem Turns.cellsM {w W : World} {M : Nat} {ss : List Sc} (h : Turns w W M M) (m : Memo w M ss) : CellsKept w.heap.size w W where
  size := h.size
  block := fun g vs t fr hg hh => by
    have hne : g ≠ M := by
      rintro rfl
      obtain ⟨es, clock, h1⟩ := m.block
      rw [hh] at h1
      cases h1
    exact (h.rest g hg hne hne).trans hh
theorem NodesHold.keptC {n : Nat} {w w' : World} {ds : List Nd} {ss : List Sc} (h : NodesHold w ds ss) (hk : CellsKept n w w') (hn : w.heap.size ≤ n) : NodesHold w' ds ss where
  len := h.len
  items := fun i d s hd hs => by
    obtain ⟨oi, ci, h1, h2⟩ := h.items i d s hd hs
    exact ⟨oi, ci, h1, h2.kept hk hn⟩
theorem LookW.below {w w' : World} {B L M T M1 M2 : Nat} {v : Value} {ds : List Nd} {ss : List Sc} (h : LookW w B L M T M1 M2 v ds ss) (hb : Below w.heap.size w w') : LookW w' B L M T M1 M2 v ds ss :=
  ⟨h.tree.below hb, h.box.below hb h.box.lt, h.memo.below hb, h.ne1, h.ne2⟩
/-- Where the map of targets alone has turned. -/
theorem LookW.turned {w w' : World} {B L M T M1 M2 : Nat} {v : Value} {ds : List Nd} {ss : List Sc} (h : LookW w B L M T M1 M2 v ds ss) (ht : Turns w w' M M) (hm : Memo w' M ss) : LookW w' B L M T M1 M2 v ds ss :=
  have hk := ht.cellsM h.memo
  ⟨{ tree := h.tree.tree.kept hk (Nat.le_refl _)
     hold := h.tree.hold.keptC hk (Nat.le_refl _)
     pars := h.tree.pars
     items := by
       obtain ⟨n, es, clock, hh, r⟩ := h.tree.items
       exact ⟨n, es, clock, (ht.rest _ (Array.getElem?_eq_some_iff.1 hh).1 h.ne1 h.ne1).trans hh, r⟩
     mods := by
       obtain ⟨n, es, clock, hh, r⟩ := h.tree.mods
       exact ⟨n, es, clock, (ht.rest _ (Array.getElem?_eq_some_iff.1 hh).1 h.ne2 h.ne2).trans hh, r⟩
     low1 := h.tree.low1
     low2 := h.tree.low2 },
   (by
     have := h.box
     unfold Row at this ⊢
     exact hk.block L _ _ _ h.box.lt this), hm, h.ne1, h.ne2⟩
/-- What a call of a lookup's methods leaves: the answer, the lookup as it was, its map alone turned. -/
structure Left (w w' : World) (B L M T M1 M2 : Nat) (v : Value) (ds : List Nd) (ss : List Sc) : Prop where
  look : LookW w' B L M T M1 M2 v ds ss
  turns : Turns w w' M M
theorem Left.trans {a b c : World} {B L M T M1 M2 : Nat} {v : Value} {ds : List Nd} {ss : List Sc} (h : Left a b B L M T M1 M2 v ds ss) (k : Left b c B L M T M1 M2 v ds ss) : Left a c B L M T M1 M2 v ds ss := ⟨k.look, h.turns.trans k.turns⟩
theorem Left.step {a b c : World} {B L M T M1 M2 : Nat} {v : Value} {ds : List Nd} {ss : List Sc} (h : Left a b B L M T M1 M2 v ds ss) (k : Below b.heap.size b c) : Left a c B L M T M1 M2 v ds ss := ⟨h.look.below k, h.turns.trans (.of_below k)⟩
theorem LookW.left {w : World} {B L M T M1 M2 : Nat} {v : Value} {ds : List Nd} {ss : List Sc} (h : LookW w B L M T M1 M2 v ds ss) : Left w w B L M T M1 M2 v ds ss := ⟨h, Turns.refl _ _ _⟩
/-- A row of one's own behind the map, when the map has turned. -/
theorem ownsRow_turned {w w' : World} {base n size M : Nat} {e : TypeId} {u : Value} {xs : List Value} {ss : List Sc} (h : w.ownsRow base e size u n xs) (ht : Turns w w' M M) (m : Memo w M ss) : w'.ownsRow base e size u n xs := by
  obtain ⟨h1, h2 | ⟨g, cap, cur, hv, hB, hh, r⟩⟩ := h
  · exact ⟨h1, .inl h2⟩
  · exact ⟨h1, .inr ⟨g, cap, cur, hv, hB, (ht.cellsM m).block g _ _ _ (Array.getElem?_eq_some_iff.1 hh).1 hh, r⟩⟩
set_option maxRecDepth 100000 in
theorem index_any (xs : List Int) (oa : Option Addr) (cap : Nat) (n : Int) (w : World) (hn : xs.length < 2 ^ 40) (h : HoldsInts w oa xs) :
    Calls Tryd.prog 186 #[.slice oa xs.length cap, .int .i64 n] w fun e w' => (∃ z : Int, e = .returned (.int .i64 z) ∧ (z ≥ 0 ↔ n ∈ xs)) ∧ Below w.heap.size w w' := by
  have K := Lib.hid h
  clear h
  go_enter Tryd.func186, Tryd.ntmps186
  go_wp2
  go_loopw [8] (fun i wr => ∃ k : Nat, i = .int .i64 k ∧ k ≤ xs.length ∧ Hid (n ∉ xs.take k) ∧ Below w.heap.size w wr) (fun i _ => xs.length - (intOf i).toNat)
  case atStart => exact ⟨0, rfl, Nat.zero_le _, Lib.hid (by simp), Below.refl _ _⟩
  case round =>
    obtain ⟨k, rfl, hk, hno, hb⟩ := hrel
    by_cases hlt : k < xs.length
    · obtain ⟨x, hx⟩ : ∃ x, xs[k]? = some x := ⟨_, List.getElem?_eq_getElem hlt⟩
      obtain ⟨b1, f1, rfl, hb1, q1⟩ := K.out.at (by omega)
      have a0 := (hb.cell (p := ⟨b1, f1 + k, none⟩) hb1).trans (q1 k x hx)
      have HX := Lib.hid hx
      clear hx q1
      by_cases he : n = x
      · have HM : Hid (n ∈ xs) := Lib.hid (by rw [he]; exact List.mem_of_getElem? HX.out)
        have hq : (n == x) = true := by simpa using he
        clear he
        go_wp2
        go_ret
        exact ⟨⟨_, rfl, by simp [HM.out]⟩, hb⟩
      · have HN : Hid (n ∉ xs.take (k + 1)) := Lib.hid (by
          rw [List.take_add_one, HX.out]
          simp only [Option.toList_some, List.mem_append, List.mem_singleton, not_or]
          exact ⟨hno.out, he⟩)
        have hq : (n == x) = false := by simpa using he
        clear he
        go_wp2
        go_roundw
        case rel => exact ⟨k + 1, by go_num, by omega, HN, hb⟩
        case measure => simp only [intOf]; omega
    · obtain rfl : k = xs.length := by omega
      have HN : Hid (n ∉ xs) := Lib.hid (by have := hno.out; rwa [List.take_length] at this)
      go_wp2
      go_ret
      exact ⟨⟨_, rfl, by simp [HN.out]⟩, hb⟩
set_option maxRecDepth 100000 in
theorem contains_any (xs : List Int) (oa : Option Addr) (cap : Nat) (n : Int) (w : World) (hn : xs.length < 2 ^ 40) (h : HoldsInts w oa xs) :
    Calls Tryd.prog 184 #[.slice oa xs.length cap, .int .i64 n] w fun e w' => e = .returned (.bool (decide (n ∈ xs))) ∧ Below w.heap.size w w' := by
  have C := Lib.hid (index_any xs oa cap n w hn h)
  clear h hn
  go_enter Tryd.func184, Tryd.ntmps184
  go_wp2_with fail
  refine C.out.mono ?_
  rintro e w1 ⟨⟨z, rfl, hz⟩, hb⟩
  have HB := Lib.hid hb
  have HZ : Hid (decide (z ≥ 0) = decide (n ∈ xs)) := Lib.hid (by simp only [hz])
  clear hb hz
  go_wp2
  go_ret
  exact ⟨by rw [← HZ.out]; rfl, HB.out⟩
end Go.Proofs.YtppgdigcopkeiaaDoor
