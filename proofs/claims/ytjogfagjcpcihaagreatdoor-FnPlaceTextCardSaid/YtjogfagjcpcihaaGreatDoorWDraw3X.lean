/-
  A graph whose scopes lie in a block of the call's own, its items wherever they lie: scopes of one are appended to another. Plain facts. The walk of the given l1Draw: some graph of small size, of the call's own; the random source is asked some times.
-/
import Derived.Test.YtjogfagjcpcihaaGreatDoorWDrawAllX
import Derived.Test.YtjogfagjcpcihaaGreatDoorJDX
namespace Go.Proofs.YtjogfagjcpcihaaGreatDoor
open Go Go.RowKit Sg
structure HeldGr (w : World) (B : Nat) (v : Value) (ss : List Sc) (hs : List Value) : Prop where
  len : hs.length = ss.length
  row : w.ownsRow B 156 2 v ss.length (scRow ss hs)
  items : ∀ (i : Nat) (s : Sc) (u : Value), ss[i]? = some s → hs[i]? = some u → w.ownsRow 0 37 3 u s.items.length (itemCells s.items)
theorem OwnGr.held {w : World} {B : Nat} {v : Value} {ss : List Sc} {hs : List Value} (h : OwnGr w B v ss hs) : HeldGr w B v ss hs :=
  ⟨h.len, h.row, fun i s u h1 h2 => (h.items i s u h1 h2).mono (Nat.zero_le _)⟩
theorem HeldGr.below {w w' : World} {B : Nat} {v : Value} {ss : List Sc} {hs : List Value} (h : HeldGr w B v ss hs) (hb : Below w.heap.size w w') : HeldGr w' B v ss hs :=
  ⟨h.len, ownsRow_below h.row hb, fun i s u h1 h2 => ownsRow_below (h.items i s u h1 h2) hb⟩
theorem HeldGr.lower {w : World} {B B' : Nat} {v : Value} {ss : List Sc} {hs : List Value} (h : HeldGr w B v ss hs) (hB : B' ≤ B) : HeldGr w B' v ss hs := ⟨h.len, h.row.mono hB, h.items⟩
theorem HeldGr.other {w : World} {B : Nat} {v : Value} {ss : List Sc} {hs : List Value} (h : HeldGr w B v ss hs) {g : Nat} {t : TypeId} {vs : List Value} (hr : Row w g t vs) (h1 : t ≠ 156) (h2 : t ≠ 37) (i : Nat) (u : Value) : HeldGr (w.setCell ⟨g, i, none⟩ u) B v ss hs := by
  have hg : w.grownBy (w.setCell ⟨g, i, none⟩ u) (some g) := ⟨rfl, rfl, rfl, by simp, fun k hk hne => Below.heap_setCell _ _ _ _ (fun e => hne (by rw [e]))⟩
  refine ⟨h.len, ownsRow_apart h.row hg (.inr (own_row_ne hr h.row h1).symm), fun i s z k1 k2 => ownsRow_apart (h.items i s z k1 k2) hg (.inr (own_row_ne hr (h.items i s z k1 k2) h2).symm)⟩
theorem HeldGr.asked {w w' : World} {B r : Nat} {v : Value} {ss : List Sc} {hs : List Value} {bs : List Value} (h : HeldGr w B v ss hs) (hr : Row w r 149 bs) (ht : Turns w w' r r) : HeldGr w' B v ss hs := by
  have one : ∀ {B' n size : Nat} {e : TypeId} {u : Value} {xs : List Value}, e ≠ 149 → w.ownsRow B' e size u n xs → w'.ownsRow B' e size u n xs := fun {B' n size e u xs} he k => by
    have hne := own_row_ne hr k (Ne.symm he)
    obtain ⟨h1, h2 | ⟨g, cap, cur, hv, hB, hh, k⟩⟩ := k
    · exact ⟨h1, .inl h2⟩
    · have hgr : g ≠ r := fun e => hne (by rw [hv, e]; rfl)
      exact ⟨h1, .inr ⟨g, cap, cur, hv, hB, (ht.rest g (Array.getElem?_eq_some_iff.1 hh).1 hgr hgr).trans hh, k⟩⟩
  exact ⟨h.len, one (by decide) h.row, fun i s u h1 h2 => one (by decide) (h.items i s u h1 h2)⟩
theorem HeldGr.holds {w : World} {B : Nat} {v : Value} {ss : List Sc} {hs : List Value} (h : HeldGr w B v ss hs) : ∃ oa cap, v = .slice oa ss.length cap ∧ HoldsScopes w oa ss := by
  have hit := h.items
  have hln := h.len
  obtain ⟨-, hrow, -⟩ := h
  have hlt := hrow.lt
  have hcells := fun g hg => hrow.cells (g := g) hg
  obtain ⟨hl, h2 | ⟨g, cap, cur, hv, hB, hh, hn, _, hsz, ht⟩⟩ := hrow
  · exact ⟨none, 0, by rw [h2.1, h2.2], .inl (List.eq_nil_of_length_eq_zero h2.2)⟩
  · subst hv
    refine ⟨_, cap, rfl, .inr ⟨g, 0, rfl, (hlt g rfl).2, fun i s hs' => ?_⟩⟩
    obtain ⟨u, hu⟩ : ∃ u, hs[i]? = some u := ⟨_, List.getElem?_eq_getElem (by have := (List.getElem?_eq_some_iff.1 hs').1; omega)⟩
    obtain ⟨oi, ci, rfl, hi⟩ := holdsItems_of_owns (hit i s u hs' hu)
    obtain ⟨k0, k1⟩ := scRow_at hs' hu
    have c0 := hcells g rfl _ _ k0
    have c1 := hcells g rfl _ _ k1
    rw [Addr.add_lit] at c0 c1
    exact ⟨oi, ci, c0, by rw [Nat.add_assoc]; exact c1, hi⟩
theorem HeldGr.empty (w : World) (o : Nat) (hB : o ≤ w.heap.size) : HeldGr (w.alloc (.cells #[] 156)) o (.slice (some ⟨w.heap.size, 0, none⟩) 0 0) [] [] where
  len := rfl
  row := (World.ownsRow_made (base := w.heap.size) (e := 156) (size := 2) w #[] 0 (by simp) (by unfold maxLen; omega) rfl).mono hB
  items := fun i s u h => by simp at h
theorem scRow_append : ∀ {ss : List Sc} {hs : List Value} (tt : List Sc) (ks : List Value), hs.length = ss.length → scRow (ss ++ tt) (hs ++ ks) = scRow ss hs ++ scRow tt ks
  | [], [], _, _, _ => rfl
  | t :: r, v :: q, tt, ks, h => by
    show .int .i64 t.parent :: v :: scRow (r ++ tt) (q ++ ks) = _
    rw [scRow_append tt ks (by simpa using h)]
    rfl
theorem scRow_one {ss : List Sc} {hs : List Value} (h : ∀ u ∈ hs, u.oneCell' = true) : ∀ u ∈ scRow ss hs, u.oneCell' = true := by
  induction ss generalizing hs with
  | nil => intro u hu; cases hs <;> simp [scRow] at hu
  | cons s r ih =>
    cases hs with
    | nil => intro u hu; simp [scRow] at hu
    | cons v q =>
      intro u hu
      simp only [scRow, List.mem_cons] at hu
      rcases hu with rfl | rfl | hu
      · rfl
      · exact h _ (by simp)
      · exact ih (fun z hz => h z (by simp [hz])) u hu
theorem HeldGr.one {w : World} {B : Nat} {v : Value} {ss : List Sc} {hs : List Value} (h : HeldGr w B v ss hs) : ∀ u ∈ hs, u.oneCell' = true := by
  intro u hu
  obtain ⟨i, hi⟩ := List.getElem?_of_mem hu
  obtain ⟨s, hs'⟩ : ∃ s, ss[i]? = some s := ⟨_, List.getElem?_eq_getElem (by have := (List.getElem?_eq_some_iff.1 hi).1; have := h.len; omega)⟩
  obtain ⟨oi, ci, rfl, -⟩ := holdsItems_of_owns (h.items i s u hs' hi)
  rfl
/-- The scopes of one appended to those of another. -/
theorem append_scopes {W : World} {base B : Nat} {v u : Value} {ss tt : List Sc} {hs ks : List Value} (h1 : HeldGr W base v ss hs) (h2 : HeldGr W B u tt ks) (hk : ss.length + tt.length < 1000000) (hbase : base ≤ W.heap.size) (ty : TypeId) :
    ∃ v' w', (Builtin.append_ #[31, 31] ty #[v, u]).run Tryz.prog W = .ok v' w' ∧ HeldGr w' base v' (ss ++ tt) (hs ++ ks) ∧ W.grownBy w' v.ownBlock := by
  obtain ⟨i0, hi, hz0, hz1, hz2⟩ := info_parts infoScope
  have hone := scRow_one (ss := tt) h2.one
  have hrow2 := h2.row
  have mk : ∀ v' w', w'.ownsRow base 156 2 v' (ss.length + tt.length) (scRow ss hs ++ scRow tt ks) → W.grownBy w' v.ownBlock → HeldGr w' base v' (ss ++ tt) (hs ++ ks) := fun v' w' k1 k2 =>
    { len := by rw [List.length_append, List.length_append, h1.len, h2.len]
      row := by rw [List.length_append, scRow_append _ _ h1.len]; exact k1
      items := fun i s z hs' hz => by
        by_cases hlt : i < ss.length
        · rw [List.getElem?_append_left hlt] at hs'
          rw [List.getElem?_append_left (by rw [h1.len]; exact hlt)] at hz
          have k := h1.items i s z hs' hz
          exact ownsRow_apart k k2 (owns_types_apart k h1.row (by decide))
        · rw [List.getElem?_append_right (by omega)] at hs'
          rw [List.getElem?_append_right (by rw [h1.len]; omega), h1.len] at hz
          have k := h2.items _ s z hs' hz
          exact ownsRow_apart k k2 (owns_types_apart k h1.row (by decide)) }
  obtain ⟨hl, h3 | ⟨g, cap, cur, hv, hB, hh, hn, _, hs', ht⟩⟩ := hrow2
  · obtain ⟨rfl, h0⟩ := h3
    have hp := List.eq_nil_of_length_eq_zero h0
    subst hp
    refine ⟨v, W, run_append_owned_none W base 31 ty 156 i0 2 Tryz.underlying31 hi v _ _ h1.row, mk v W ?_ ⟨rfl, rfl, rfl, Nat.le_refl _, fun _ _ _ => rfl⟩, ⟨rfl, rfl, rfl, Nat.le_refl _, fun _ _ _ => rfl⟩⟩
    have hk0 : ks = [] := List.eq_nil_of_length_eq_zero (by rw [h2.len]; rfl)
    subst hk0
    have := h1.row
    simpa [scRow] using this
  · subst hv
    have hcells : ∀ (j : Nat) (q : Value), (scRow tt ks)[j]? = some q → W.cell? ((⟨g, 0, none⟩ : Addr).add j) = some q := by
      intro j q hq
      have hjl := (List.getElem?_eq_some_iff.1 hq).1
      have h2 : (⟨g, 0, none⟩ : Addr).add j = ⟨g, j, none⟩ := by unfold Addr.add; split <;> simp_all
      rw [h2]
      rw [← ht, List.getElem?_take_of_lt (by omega)] at hq
      simp [World.cell?, hh]
      simpa using hq
    obtain ⟨v', w', hrun, k2, k3, _, _⟩ := run_append_own_at (P := Tryz.prog) W base 31 ty 156 i0 (.agg #[.int .i64 0, .slice none 0 0]) 2 32 Tryz.underlying31 hi hz0 hz1 hz2 rfl (by decide) v _ _ h1.row ⟨g, 0, none⟩ tt.length cap (scRow tt ks) hl hcells hone (by unfold maxLen; omega) (by omega) hbase
    exact ⟨v', w', hrun, mk v' w' k2 k3, k3⟩
end Go.Proofs.YtjogfagjcpcihaaGreatDoor
namespace Go.Proofs.YtjogfagjcpcihaaGreatDoor
open Go Go.RowKit Sg
def SmallItem (x : It) : Prop := I64 x.kind ∧ I64 x.scope ∧ x.name.size ≤ 2
/-- Drawn scopes: few items, parents ahead. -/
def GoodD (m : Nat) (ss : List Sc) : Prop := ∀ (i : Nat) (s : Sc), ss[i]? = some s → s.items.length ≤ m ∧ ((i = 0 ∧ s.parent = -1) ∨ ∃ q : Nat, s.parent = (q : Int) ∧ q < i) ∧ ∀ x ∈ s.items, SmallItem x
theorem GoodD.snoc {m : Nat} {ss : List Sc} (h : GoodD m ss) {s : Sc} (h1 : s.items.length ≤ m) (h2 : (ss.length = 0 ∧ s.parent = -1) ∨ ∃ q : Nat, s.parent = (q : Int) ∧ q < ss.length) (h3 : ∀ x ∈ s.items, SmallItem x) : GoodD m (ss ++ [s]) := by
  intro i t ht
  by_cases hi : i < ss.length
  · rw [List.getElem?_append_left hi] at ht
    exact h i t ht
  · have hl := (List.getElem?_eq_some_iff.1 ht).1
    simp only [List.length_append, List.length_singleton] at hl
    have hi' : i = ss.length := by omega
    subst hi'
    simp at ht
    subst ht
    exact ⟨h1, h2, h3⟩
theorem GoodD.lit {m : Nat} {ss : List Sc} (h : GoodD m ss) (hm : m ≤ 100) (hl : ss.length ≤ 100) : Lit1 101 ss where
  count := by omega
  items := fun s hs => by
    obtain ⟨i, hi⟩ := List.mem_iff_getElem?.1 hs
    have := (h i s hi).1
    omega
  nums := fun s hs => by
    obtain ⟨i, hi⟩ := List.mem_iff_getElem?.1 hs
    have hil := (List.getElem?_eq_some_iff.1 hi).1
    refine ⟨?_, fun x hx => ⟨((h i s hi).2.2 x hx).1, ((h i s hi).2.2 x hx).2.1⟩⟩
    rcases (h i s hi).2.1 with ⟨_, h1⟩ | ⟨q, h1, h2⟩
    · rw [h1]; unfold I64; omega
    · rw [h1]; unfold I64; omega
  names := fun s hs x hx => by
    obtain ⟨i, hi⟩ := List.mem_iff_getElem?.1 hs
    have := ((h i s hi).2.2 x hx).2.2
    omega
theorem append_item0 {w : World} {base : Nat} {u : Value} {xs : List It} (hown : w.ownsRow base 37 3 u xs.length (itemCells xs)) (hb : base ≤ w.heap.size) (hn : xs.length ≤ 100) (kd : Int) (nm : ByteArray) (sc : Int) (ty : TypeId) :
    ∃ v' w', (Builtin.append_ #[123, 123] ty #[u, .slice (some ⟨w.heap.size, 0, none⟩) 1 1]).run Tryz.prog (w.alloc (.cells #[.int .i64 kd, .string nm, .int .i64 sc] 37)) = .ok v' w' ∧ w'.ownsRow base 37 3 v' (xs ++ [(⟨kd, nm, sc⟩ : It)]).length (itemCells (xs ++ [⟨kd, nm, sc⟩])) ∧ (w.alloc (.cells #[.int .i64 kd, .string nm, .int .i64 sc] 37)).grownBy w' u.ownBlock := by
  obtain ⟨i0, hi, hz0, hz1, hz2⟩ := info_parts infoItem
  obtain ⟨v', w', hrun, k1, k2, -⟩ := run_append_own (P := Tryz.prog) (w.alloc (.cells #[.int .i64 kd, .string nm, .int .i64 sc] 37)) base 123 ty 37 i0 _ 3 32 Tryz.underlying123 hi hz0 hz1 hz2 rfl (by decide) u xs.length (itemCells xs) (hown.alloc _) ⟨w.heap.size, 0, none⟩ 1 1 [.int .i64 kd, .string nm, .int .i64 sc] rfl (cells_new3 _ _ _ _ _) (fun u hu => by
    simp only [List.mem_cons, List.not_mem_nil, or_false] at hu
    rcases hu with rfl | rfl | rfl <;> rfl) (by unfold maxLen; omega) (by omega) (by simp; omega)
  refine ⟨v', w', hrun, ?_, k2⟩
  rw [itemCells_snoc, List.length_append]
  exact k1
theorem small_drawn {kd : Int} {nm : ByteArray} (h1 : kd ∈ [(1 : Int), 2, 1, 2, 3]) (h2 : nm ∈ [(⟨#[120]⟩ : ByteArray), ⟨#[121]⟩, ⟨#[109]⟩, ⟨#[120]⟩, ⟨#[122]⟩, ⟨#[109]⟩]) : SmallItem ⟨kd, nm, -1⟩ := by
  simp only [List.mem_cons, List.not_mem_nil, or_false] at h1 h2
  refine ⟨show I64 kd from (by unfold I64; omega), show I64 (-1) from (by unfold I64; omega), show nm.size ≤ 2 from ?_⟩
  rcases h2 with rfl | rfl | rfl | rfl | rfl | rfl <;> exact (by decide)
theorem GoodD.grow {m q : Nat} {ss : List Sc} (h : GoodD m ss) {s : Sc} {x : It} (hs : ss[q]? = some s) (hl : s.items.length < m) (hx : SmallItem x) : GoodD m (ss.set q ⟨s.parent, s.items ++ [x]⟩) := by
  intro i t ht
  rw [List.getElem?_set] at ht
  by_cases hi : q = i
  · subst hi
    rw [if_pos rfl] at ht
    split at ht
    · obtain rfl := Option.some.inj ht
      refine ⟨by rw [List.length_append]; simp; omega, (h q s hs).2.1, fun y hy => ?_⟩
      rw [List.mem_append, List.mem_singleton] at hy
      rcases hy with hy | rfl
      · exact (h q s hs).2.2 y hy
      · exact hx
    · cases ht
  · rw [if_neg hi] at ht
    exact h i t ht
def Drew1 (w : World) (r : Nat) (oa : Option Addr) (len cap p n : Nat) (e : Ending) (w' : World) : Prop := ∃ ss v hs, e = .returned (.agg #[v]) ∧ OwnGr w' w.heap.size v ss hs ∧ Lit1 101 ss ∧ RdAt w w' r oa len cap (p + n)
set_option maxRecDepth 100000 in
set_option maxHeartbeats 16000000 in
theorem draw_any {w : World} {r : Nat} {oa : Option Addr} {len cap p : Nat} (h : Rd w r oa len cap p) (hp : p ≤ 800000) : Calls Tryz.prog 87 #[.pointer (some ⟨r, 0, none⟩)] w (Drew1 w r oa len cap p 200) := by
  have hbA := (Below.refl w.heap.size w).alloc (Nat.le_refl _) (.cells #[.slice none 0 0] 33)
  have RA := Lib.hid (Row.new w [.slice none 0 0] 33)
  have AT0 := Lib.hid ((RdAt.start h (Nat.le_refl p) (by omega)).step hbA)
  have C := Lib.hid (pick_any (h.below hbA) (by omega) 2 (by omega))
  have HRL := Lib.hid h.box.lt
  clear h hbA
  go_enter Tryz.func87, Tryz.ntmps87
  go_wp2_with fail
  refine C.out.mono ?_
  rintro e w1 ⟨z, rfl, -, hz, hr1⟩
  have AT1 := Lib.hid (AT0.out.asked (Nat.le_refl p) hr1 (by omega))
  have R1 := Lib.hid (RA.out.asked hr1.turns (by have := HRL.out; omega))
  have HZ := Lib.hid hz
  clear hz hr1
  obtain ⟨p1, hp1, hrd1⟩ := AT1.out.rd
  have HRD1 := Lib.hid hrd1
  clear hrd1
  by_cases hz0 : z = 0
  · subst hz0
    have C2 := Lib.hid (pick_any HRD1.out (by omega) 10 (by omega))
    go_wp2_with fail
    refine C2.out.mono ?_
    rintro e w2 ⟨z2, rfl, -, hz2, hr2⟩
    have AT2 := Lib.hid (AT1.out.asked hp1 hr2 (by omega))
    have R2 := Lib.hid (R1.out.asked hr2.turns (by have := HRL.out; omega))
    have C3 := Lib.hid (known_any z2 (by have := hz2 (by omega); omega) w2)
    clear hz2 hr2
    go_wp2_with fail
    refine C3.out.mono ?_
    rintro e w3 ⟨ss, v, hs, rfl, hg, hl, hb3⟩
    obtain ⟨ov, cv, rfl, -⟩ := hg.holds
    have R3 := R2.out.below hb3 R2.out.lt
    have a3 := R3.cell (i := 0) (v := .slice none 0 0) (by rfl)
    have f3 := R3.frozen 0
    have d3 := (R3.set 0 (.slice ov ss.length cv)).cell (i := 0) (v := .slice ov ss.length cv) (by rfl)
    have HG := Lib.hid ((hg.lower AT2.out.turns.size).other R3 (.inl (by decide)) (by decide) 0 (.slice ov ss.length cv))
    have AT3 := Lib.hid (((AT2.out.step hb3).far ((Below.refl _ _).setCell (p := ⟨w.heap.size, 0, none⟩) (Nat.le_refl _) (.slice ov ss.length cv))).more (P' := p + 200) (by omega) (by omega))
    have HL := Lib.hid hl
    clear hg hl hb3 R3
    go_wp2
    exact bodyPost_ret (v := .agg #[.slice ov ss.length cv]) (by simp [results, Tryz.results87, go_sem, d3]) rfl ⟨ss, _, hs, rfl, HG.out, HL.out, AT3.out⟩
  · have hzq : (((z : Nat) : Int) == 0) = false := by simp; omega
    have hb2 : Below w1.heap.size w1 ((w1.alloc (.cells #[] 156)).alloc (.cells #[.slice (some ⟨w1.heap.size, 0, none⟩) 0 0] 33)) := ((Below.refl _ _).alloc (Nat.le_refl _) _).alloc (by simp) _
    have hw1 : w.heap.size < w1.heap.size := R1.out.lt
    have HD0 : Hid (DOut w ((w1.alloc (.cells #[] 156)).alloc (.cells #[.slice (some ⟨w1.heap.size, 0, none⟩) 0 0] 33)) r oa len cap (p + 1) w.heap.size (w1.heap.size + 1) (.slice (some ⟨w1.heap.size, 0, none⟩) 0 0) [] []) := Lib.hid
      { rd := AT1.out.step hb2
        t2 := R1.out.below hb2 R1.out.lt
        low2 := Nat.le_refl _
        t3 := by
          have := Row.new (w1.alloc (.cells #[] 156)) [.slice (some ⟨w1.heap.size, 0, none⟩) 0 0] 33
          rw [World.size_alloc] at this
          exact this
        low3 := by omega
        ne23 := by omega
        gr := (OwnGr.made w1 w.heap.size (by omega)).below ((Below.refl _ _).alloc (Nat.le_refl _) _) }
    have C2 := Lib.hid (pick_any (HRD1.out.below hb2) (by omega) 5 (by omega))
    clear hb2
    go_wp2_with fail
    refine C2.out.mono ?_
    rintro e w2 ⟨z3, rfl, -, hz3, hr2⟩
    have HD1 := Lib.hid (HD0.out.asked hp1 hr2 (by omega))
    have hz3' : z3 < 5 := by have := hz3 (by omega); omega
    clear hz3 hr2
    obtain ⟨n, hn⟩ : ∃ n : Nat, (1 : Int) + (z3 : Int) = (n : Int) ∧ 1 ≤ n ∧ n ≤ 5 := ⟨1 + z3, by push_cast; rfl, by omega, by omega⟩
    obtain ⟨hn0, hn1, hn5⟩ := hn
    have HN0 := Lib.hid hn0
    clear hn0
    go_upto_region 5 with (fail)
    rw [HN0.out]
    go_wp2
    go_loopw [21] (fun i wr => ∃ (k : Nat) (v : Value) (ss : List Sc) (hs : List Value), i = .int .i64 k ∧ k ≤ n ∧ ss.length = k ∧ Hid (DOut w wr r oa len cap (p + 10 + 20 * k) w.heap.size (w1.heap.size + 1) v ss hs ∧ GoodD 4 ss)) (fun i _ => n - (intOf i).toNat)
    case atStart => exact ⟨0, _, [], [], rfl, Nat.zero_le _, rfl, Lib.hid ⟨{ HD1.out with rd := HD1.out.rd.more (by omega) (by omega) }, by intro i s hs; simp at hs⟩⟩
    case round =>
      obtain ⟨k, v, ss, hs, rfl, hk, hsl, hP⟩ := hrel
      have HSL := Lib.hid hsl
      have hsl5 : ss.length ≤ 5 := by omega
      clear hsl
      by_cases hlt : k < n
      · obtain ⟨wo, rfl⟩ : ∃ wo : World, wo = wr := ⟨_, rfl⟩
        have HI0 := Lib.hid hP.out.1.begin
        obtain ⟨P, hPe⟩ : ∃ P, p + 10 + 20 * k = P := ⟨_, rfl⟩
        have hPb : P ≤ 899000 := by omega
        rw [hPe] at HI0
        obtain ⟨p2, hp2, hrd2⟩ := HI0.out.rd.rd
        have HRD2 := Lib.hid hrd2
        clear hrd2
        go_upto_if 27 with (fail)
        go_cut [30] (fun _ wx => ∃ pp : Int, Hid (DIn w wo wx r oa len cap (P + 1) w.heap.size (w1.heap.size + 1) (wo.heap.size + 1) v ss hs pp (.slice (some ⟨wo.heap.size, 0, none⟩) 0 0) [] ∧ ((k = 0 ∧ pp = -1) ∨ ∃ q : Nat, pp = (q : Int) ∧ q < k)))
        case first =>
          by_cases hk0 : 0 < k
          · have hk1 : (0 : Int) < (k : Int) := by omega
            have CP := Lib.hid (pick_any HRD2.out (by omega) (k : Int) (by omega))
            go_wp2_with fail
            refine CP.out.mono ?_
            rintro e w3 ⟨z4, rfl, -, hz4, hr3⟩
            have HI1 := Lib.hid (HI0.out.asked hp2 hr3 (by omega))
            have HZ4 : Hid (z4 < k) := Lib.hid (by have := hz4 (by omega); omega)
            have b60 := HI1.out.t6.cell (i := 0) (v := .int .i64 (-1)) (by rfl)
            have f60 := HI1.out.t6.frozen 0
            clear hz4 hr3
            go_wp2
            go_meet
            exact ⟨(z4 : Int), Lib.hid ⟨HI1.out.set (z4 : Int), .inr ⟨z4, rfl, HZ4.out⟩⟩⟩
          · have hk1 : ¬ (0 : Int) < (k : Int) := by omega
            go_wp2
            go_meet
            exact ⟨-1, Lib.hid ⟨{ HI0.out with rd := HI0.out.rd.more (by omega) (by omega) }, .inl ⟨by omega, rfl⟩⟩⟩
        case rest =>
          obtain ⟨pp, hQ⟩ := hcut
          obtain ⟨p3, hp3, hrd3⟩ := hQ.out.1.rd.rd
          have CN : Hid (Calls Tryz.prog _ #[_, .slice _ 5 5] (World.alloc _ (.cells #[.int .i64 2, .int .i64 3, .int .i64 1, .int .i64 4, .int .i64 0] 3)) _) := Lib.hid (num_new hrd3 (by omega) [2, 3, 1, 4, 0] (by decide) (by decide))
          clear hrd3
          go_wp2_with fail
          refine CN.out.mono ?_
          rintro e w4 ⟨cnt, hcnt, rfl, hr4⟩
          have HI4 := Lib.hid (hQ.out.1.asked hp3 hr4 (by omega))
          have HPP := Lib.hid hQ.out.2
          obtain ⟨m, rfl, hm4⟩ : ∃ m : Nat, cnt = (m : Int) ∧ m ≤ 4 := by
            simp only [List.mem_cons, List.not_mem_nil, or_false] at hcnt
            exact ⟨cnt.toNat, by omega, by omega⟩
          clear hcnt hr4 hQ
          go_wp2
          go_loopw [35] (fun i5 wr5 => ∃ (j : Nat) (xs : List It) (u : Value), i5 = .int .i64 j ∧ j ≤ m ∧ xs.length = j ∧ Hid (DIn w wo wr5 r oa len cap (P + 2 + 2 * j) w.heap.size (w1.heap.size + 1) (wo.heap.size + 1) v ss hs pp u xs ∧ ∀ x ∈ xs, SmallItem x)) (fun i5 _ => m - (intOf i5).toNat)
          case atStart => exact ⟨0, [], _, rfl, Nat.zero_le _, rfl, Lib.hid ⟨HI4.out, by simp⟩⟩
          case round =>
            obtain ⟨j, xs, u, rfl, hj, hxl, hI⟩ := hrel
            have HXL := Lib.hid hxl
            have hxl4 : xs.length ≤ 4 := by omega
            clear hxl
            by_cases hlt5 : j < m
            · obtain ⟨ou, cu, rfl, -⟩ := holdsItems_of_owns hI.out.1.its
              go_upto_region 13 with (fail)
              refine wp_region_kept (S := fun w' => w'.cell? ⟨wo.heap.size + 1, 1, none⟩ = some (.slice ou xs.length cu)) 12 (by kernel_rfl) ?_
              have HI0 : Hid (DIn w wo wr.drew r oa len cap (P + 2 + 2 * j) w.heap.size (w1.heap.size + 1) (wo.heap.size + 1) v ss hs pp (.slice ou xs.length cu) xs) := Lib.hid (hI.out.1.step ((Below.refl _ _).drew))
              have hS0 := HI0.out.t6.cell (i := 1) (v := .slice ou xs.length cu) (by rfl)
              refine KeptAny.take (i := 0) (v := ?_) (by kernel_rfl) rfl rfl (by kernel_rfl) (by kernel_rfl) (by kernel_rfl) (fun _ _ _ h => h) (by rfl) (fun w' hw' => ?_) (fun _ => rfl) hS0 ?_
              rotate_left
              · (go_simp; try with_reducible rfl)
              refine KeptAny.take (i := 1) (v := ?_) (by kernel_rfl) rfl rfl (by kernel_rfl) (by kernel_rfl) (by kernel_rfl) (fun _ _ _ h => h) (by rfl) (fun w' hw' => ?_) (fun _ => rfl) hS0 ?_
              rotate_left
              · (go_simp; try with_reducible rfl)
              refine KeptAny.take (i := 2) (v := ?_) (by kernel_rfl) rfl rfl (by kernel_rfl) (by kernel_rfl) (by kernel_rfl) (fun _ _ _ h => h) (by rfl) (fun w' hw' => ?_) (fun _ => rfl) hS0 ?_
              rotate_left
              · (go_simp; try with_reducible rfl)
              refine KeptAny.take (i := 5) (v := ?_) (by kernel_rfl) rfl rfl (by kernel_rfl) (by kernel_rfl) (by kernel_rfl) (fun _ _ _ h => h) (by rfl) (fun w' hw' => ?_) (fun _ => rfl) hS0 ?_
              rotate_left
              · (go_simp; try with_reducible rfl)
              clear hS0
              refine KeptAny.two (i := 3) (j := 6) (by kernel_rfl) ⟨_, rfl, by rfl, fun K hK => ?_⟩ ⟨_, rfl, by rfl, fun K hK => ?_⟩
              · go_simp
                have HI1 := Lib.hid (HI0.out.step ((Below.refl _ _).alloc (Nat.le_refl _) (.cells #[.int .i64 1, .int .i64 2, .int .i64 1, .int .i64 2, .int .i64 3] 3)))
                have RA1 := Lib.hid (Row.new (wr.drew) [.int .i64 1, .int .i64 2, .int .i64 1, .int .i64 2, .int .i64 3] 3)
                refine hK.out _ _ (HI1.out.t6.cell (i := 1) (v := .slice ou xs.length cu) (by rfl)) (fun _ => ?_)
                clear hK
                refine KeptAny.two (i := 4) (j := 6) (by kernel_rfl) ⟨_, rfl, by rfl, fun K hK => ?_⟩ ⟨_, rfl, by rfl, fun K hK => ?_⟩
                · go_simp
                  refine ⟨trivial, ?_⟩
                  obtain ⟨q2, hq2, hrd2⟩ := HI1.out.rd.rd
                  have hbr := RA1.out.neq (HI1.out.rd.now.choose_spec.2) (by decide)
                  have hC := (callsIn_wide (n := 5)).2 (num_row hrd2 (by omega) (xs := [1, 2, 1, 2, 3]) RA1.out hbr (by decide) (by decide))
                  refine hC.mono ?_
                  clear hC hrd2 hbr
                  rintro e w12 ⟨kd, hkd, rfl, hr2⟩
                  have HI2 := Lib.hid (HI1.out.asked hq2 hr2 (by omega))
                  have hbr := RA1.out.neq (HI1.out.rd.now.choose_spec.2) (by decide)
                  have RA2 := Lib.hid (RA1.out.asked hr2.turns hbr)
                  clear hbr
                  clear hr2
                  refine hK.out _ _ (HI2.out.t6.cell (i := 1) (v := .slice ou xs.length cu) (by rfl)) (fun _ => ?_)
                  clear hK
                  refine KeptAny.one (i := 6) (by kernel_rfl) rfl (by rfl) (fun K hK => ?_)
                  go_simp
                  have HI3 := Lib.hid (HI2.out.step ((Below.refl _ _).alloc (Nat.le_refl _) (.cells #[.string ⟨#[120]⟩, .string ⟨#[121]⟩, .string ⟨#[109]⟩, .string ⟨#[120]⟩, .string ⟨#[122]⟩, .string ⟨#[109]⟩] 9)))
                  have RB3 := Lib.hid (Row.new (w12) [.string ⟨#[120]⟩, .string ⟨#[121]⟩, .string ⟨#[109]⟩, .string ⟨#[120]⟩, .string ⟨#[122]⟩, .string ⟨#[109]⟩] 9)
                  have RA3 := Lib.hid (RA2.out.alloc (.cells #[.string ⟨#[120]⟩, .string ⟨#[121]⟩, .string ⟨#[109]⟩, .string ⟨#[120]⟩, .string ⟨#[122]⟩, .string ⟨#[109]⟩] 9))
                  refine hK.out _ _ (HI3.out.t6.cell (i := 1) (v := .slice ou xs.length cu) (by rfl)) (fun _ => ?_)
                  clear hK
                  refine KeptAny.one (i := 7) (by kernel_rfl) rfl (by rfl) (fun K hK => ?_)
                  go_simp
                  refine ⟨trivial, ?_⟩
                  obtain ⟨q4, hq4, hrd4⟩ := HI3.out.rd.rd
                  have hbr := RB3.out.neq (HI3.out.rd.now.choose_spec.2) (by decide)
                  have hC := (callsIn_wide (n := 5)).2 (of_row hrd4 (by omega) (xs := [⟨#[120]⟩, ⟨#[121]⟩, ⟨#[109]⟩, ⟨#[120]⟩, ⟨#[122]⟩, ⟨#[109]⟩]) RB3.out hbr (by decide) (by decide))
                  refine hC.mono ?_
                  clear hC hrd4 hbr
                  rintro e w14 ⟨nm, hnm, rfl, hr4⟩
                  have HI4 := Lib.hid (HI3.out.asked hq4 hr4 (by omega))
                  clear hr4
                  refine hK.out _ _ (HI4.out.t6.cell (i := 1) (v := .slice ou xs.length cu) (by rfl)) (fun _ => ?_)
                  clear hK
                  refine KeptAny.one (i := 8) (by kernel_rfl) rfl (by rfl) (fun K hK => ?_)
                  go_simp
                  refine hK.out _ _ (HI4.out.t6.cell (i := 1) (v := .slice ou xs.length cu) (by rfl)) (fun _ => ?_)
                  clear hK
                  refine KeptAny.one (i := 9) (by kernel_rfl) rfl (by rfl) (fun K hK => ?_)
                  go_simp
                  have HC := Lib.hid (HI4.out.step ((Below.refl _ _).alloc (Nat.le_refl _) (.cells #[.int .i64 kd, .string nm, .int .i64 (-1)] 37)))
                  refine hK.out _ _ (HC.out.t6.cell (i := 1) (v := .slice ou xs.length cu) (by rfl)) (fun _ => ?_)
                  clear hK
                  obtain ⟨u', w5, hrun, hown5, hgrow⟩ := append_item0 HI4.out.its (by have h1 := HI4.out.t6.lt; have h2 := HI4.out.low6; omega) (by omega) kd nm (-1) 123
                  obtain ⟨ou', cu', hu', -⟩ := holdsItems_of_owns hown5
                  obtain ⟨nu', hnu⟩ : ∃ nu', (xs ++ [(⟨kd, nm, -1⟩ : It)]).length = nu' := ⟨_, rfl⟩
                  rw [hnu] at hu'
                  subst hu'
                  have HPU := Lib.hid (HI4.out.push hgrow hown5)
                  have g6 : Row w5 (wo.heap.size + 1) 156 [.int .i64 pp, .slice ou xs.length cu] := (HI4.out.t6.alloc _).grown hgrow (own_row_ne HI4.out.t6 HI4.out.its (by decide))
                  have g61 := g6.cell (i := 1) (v := .slice ou xs.length cu) (by rfl)
                  have g6f := g6.frozen 1
                  simp [go_sem] at hrun
                  refine KeptAny.one (i := 10) (by kernel_rfl) rfl (by rfl) (fun K hK => ?_)
                  go_simp
                  refine hK.out _ _ g61 (fun _ => ?_)
                  clear hK hrun hgrow hown5 g6 hnu
                  refine KeptAny.one (i := 11) (by kernel_rfl) rfl (by rfl) (fun K hK => ?_)
                  go_simp
                  refine hK.out _ _ g61 (fun _ => ?_)
                  clear hK
                  refine KeptAny.last (by kernel_rfl) rfl (by rfl) (fun K hK => ?_)
                  go_simp
                  refine hK.out _ _ ?_
                  clear hK
                  refine KeptAny.done (by kernel_rfl) ?_ _
                  have HSM : Hid (SmallItem ⟨kd, nm, -1⟩) := Lib.hid (small_drawn hkd hnm)
                  clear g61 g6f hkd hnm
                  go_wp2
                  go_roundw
                  case rel => exact ⟨j + 1, xs ++ [⟨kd, nm, -1⟩], _, by go_num, by omega, by rw [List.length_append, HXL.out]; rfl, Lib.hid ⟨{ HPU.out with rd := HPU.out.rd.more (by omega) (by omega) }, fun x hx => by
                    rw [List.mem_append, List.mem_singleton] at hx
                    rcases hx with hx | rfl
                    · exact hI.out.2 x hx
                    · exact HSM.out⟩⟩
                  case measure => simp only [intOf]; omega
                · go_simp
                  have HI2 := Lib.hid (HI1.out.step ((Below.refl _ _).alloc (Nat.le_refl _) (.cells #[.string ⟨#[120]⟩, .string ⟨#[121]⟩, .string ⟨#[109]⟩, .string ⟨#[120]⟩, .string ⟨#[122]⟩, .string ⟨#[109]⟩] 9)))
                  have RB2 : Hid (Row ((wr.drew.alloc (.cells #[.int .i64 1, .int .i64 2, .int .i64 1, .int .i64 2, .int .i64 3] 3)).alloc (.cells #[.string ⟨#[120]⟩, .string ⟨#[121]⟩, .string ⟨#[109]⟩, .string ⟨#[120]⟩, .string ⟨#[122]⟩, .string ⟨#[109]⟩] 9)) (wr.heap.size + 1) 9 [.string ⟨#[120]⟩, .string ⟨#[121]⟩, .string ⟨#[109]⟩, .string ⟨#[120]⟩, .string ⟨#[122]⟩, .string ⟨#[109]⟩]) := Lib.hid (by
                    have h := Row.new (wr.drew.alloc (.cells #[.int .i64 1, .int .i64 2, .int .i64 1, .int .i64 2, .int .i64 3] 3)) [.string ⟨#[120]⟩, .string ⟨#[121]⟩, .string ⟨#[109]⟩, .string ⟨#[120]⟩, .string ⟨#[122]⟩, .string ⟨#[109]⟩] 9
                    rw [World.size_alloc] at h
                    exact h)
                  have RA2 := Lib.hid (RA1.out.alloc (.cells #[.string ⟨#[120]⟩, .string ⟨#[121]⟩, .string ⟨#[109]⟩, .string ⟨#[120]⟩, .string ⟨#[122]⟩, .string ⟨#[109]⟩] 9))
                  refine hK.out _ _ (HI2.out.t6.cell (i := 1) (v := .slice ou xs.length cu) (by rfl)) (fun _ => ?_)
                  clear hK
                  refine KeptAny.one (i := 4) (by kernel_rfl) rfl (by rfl) (fun K hK => ?_)
                  go_simp
                  refine ⟨trivial, ?_⟩
                  obtain ⟨q3, hq3, hrd3⟩ := HI2.out.rd.rd
                  have hbr := RA2.out.neq (HI2.out.rd.now.choose_spec.2) (by decide)
                  have hC := (callsIn_wide (n := 5)).2 (num_row hrd3 (by omega) (xs := [1, 2, 1, 2, 3]) RA2.out hbr (by decide) (by decide))
                  refine hC.mono ?_
                  clear hC hrd3 hbr
                  rintro e w13 ⟨kd, hkd, rfl, hr3⟩
                  have HI3 := Lib.hid (HI2.out.asked hq3 hr3 (by omega))
                  have hbr := RA2.out.neq (HI2.out.rd.now.choose_spec.2) (by decide)
                  have RA3 := Lib.hid (RA2.out.asked hr3.turns hbr)
                  clear hbr
                  have hbr := RB2.out.neq (HI2.out.rd.now.choose_spec.2) (by decide)
                  have RB3 := Lib.hid (RB2.out.asked hr3.turns hbr)
                  clear hbr
                  clear hr3
                  refine hK.out _ _ (HI3.out.t6.cell (i := 1) (v := .slice ou xs.length cu) (by rfl)) (fun _ => ?_)
                  clear hK
                  refine KeptAny.one (i := 7) (by kernel_rfl) rfl (by rfl) (fun K hK => ?_)
                  go_simp
                  refine ⟨trivial, ?_⟩
                  obtain ⟨q4, hq4, hrd4⟩ := HI3.out.rd.rd
                  have hbr := RB3.out.neq (HI3.out.rd.now.choose_spec.2) (by decide)
                  have hC := (callsIn_wide (n := 5)).2 (of_row hrd4 (by omega) (xs := [⟨#[120]⟩, ⟨#[121]⟩, ⟨#[109]⟩, ⟨#[120]⟩, ⟨#[122]⟩, ⟨#[109]⟩]) RB3.out hbr (by decide) (by decide))
                  refine hC.mono ?_
                  clear hC hrd4 hbr
                  rintro e w14 ⟨nm, hnm, rfl, hr4⟩
                  have HI4 := Lib.hid (HI3.out.asked hq4 hr4 (by omega))
                  clear hr4
                  refine hK.out _ _ (HI4.out.t6.cell (i := 1) (v := .slice ou xs.length cu) (by rfl)) (fun _ => ?_)
                  clear hK
                  refine KeptAny.one (i := 8) (by kernel_rfl) rfl (by rfl) (fun K hK => ?_)
                  go_simp
                  refine hK.out _ _ (HI4.out.t6.cell (i := 1) (v := .slice ou xs.length cu) (by rfl)) (fun _ => ?_)
                  clear hK
                  refine KeptAny.one (i := 9) (by kernel_rfl) rfl (by rfl) (fun K hK => ?_)
                  go_simp
                  have HC := Lib.hid (HI4.out.step ((Below.refl _ _).alloc (Nat.le_refl _) (.cells #[.int .i64 kd, .string nm, .int .i64 (-1)] 37)))
                  refine hK.out _ _ (HC.out.t6.cell (i := 1) (v := .slice ou xs.length cu) (by rfl)) (fun _ => ?_)
                  clear hK
                  obtain ⟨u', w5, hrun, hown5, hgrow⟩ := append_item0 HI4.out.its (by have h1 := HI4.out.t6.lt; have h2 := HI4.out.low6; omega) (by omega) kd nm (-1) 123
                  obtain ⟨ou', cu', hu', -⟩ := holdsItems_of_owns hown5
                  obtain ⟨nu', hnu⟩ : ∃ nu', (xs ++ [(⟨kd, nm, -1⟩ : It)]).length = nu' := ⟨_, rfl⟩
                  rw [hnu] at hu'
                  subst hu'
                  have HPU := Lib.hid (HI4.out.push hgrow hown5)
                  have g6 : Row w5 (wo.heap.size + 1) 156 [.int .i64 pp, .slice ou xs.length cu] := (HI4.out.t6.alloc _).grown hgrow (own_row_ne HI4.out.t6 HI4.out.its (by decide))
                  have g61 := g6.cell (i := 1) (v := .slice ou xs.length cu) (by rfl)
                  have g6f := g6.frozen 1
                  simp [go_sem] at hrun
                  refine KeptAny.one (i := 10) (by kernel_rfl) rfl (by rfl) (fun K hK => ?_)
                  go_simp
                  refine hK.out _ _ g61 (fun _ => ?_)
                  clear hK hrun hgrow hown5 g6 hnu
                  refine KeptAny.one (i := 11) (by kernel_rfl) rfl (by rfl) (fun K hK => ?_)
                  go_simp
                  refine hK.out _ _ g61 (fun _ => ?_)
                  clear hK
                  refine KeptAny.last (by kernel_rfl) rfl (by rfl) (fun K hK => ?_)
                  go_simp
                  refine hK.out _ _ ?_
                  clear hK
                  refine KeptAny.done (by kernel_rfl) ?_ _
                  have HSM : Hid (SmallItem ⟨kd, nm, -1⟩) := Lib.hid (small_drawn hkd hnm)
                  clear g61 g6f hkd hnm
                  go_wp2
                  go_roundw
                  case rel => exact ⟨j + 1, xs ++ [⟨kd, nm, -1⟩], _, by go_num, by omega, by rw [List.length_append, HXL.out]; rfl, Lib.hid ⟨{ HPU.out with rd := HPU.out.rd.more (by omega) (by omega) }, fun x hx => by
                    rw [List.mem_append, List.mem_singleton] at hx
                    rcases hx with hx | rfl
                    · exact hI.out.2 x hx
                    · exact HSM.out⟩⟩
                  case measure => simp only [intOf]; omega
              · go_simp
                have HI1 := Lib.hid (HI0.out.step ((Below.refl _ _).alloc (Nat.le_refl _) (.cells #[.string ⟨#[120]⟩, .string ⟨#[121]⟩, .string ⟨#[109]⟩, .string ⟨#[120]⟩, .string ⟨#[122]⟩, .string ⟨#[109]⟩] 9)))
                have RB1 := Lib.hid (Row.new (wr.drew) [.string ⟨#[120]⟩, .string ⟨#[121]⟩, .string ⟨#[109]⟩, .string ⟨#[120]⟩, .string ⟨#[122]⟩, .string ⟨#[109]⟩] 9)
                refine hK.out _ _ (HI1.out.t6.cell (i := 1) (v := .slice ou xs.length cu) (by rfl)) (fun _ => ?_)
                clear hK
                refine KeptAny.one (i := 3) (by kernel_rfl) rfl (by rfl) (fun K hK => ?_)
                go_simp
                have HI2 := Lib.hid (HI1.out.step ((Below.refl _ _).alloc (Nat.le_refl _) (.cells #[.int .i64 1, .int .i64 2, .int .i64 1, .int .i64 2, .int .i64 3] 3)))
                have RA2 : Hid (Row ((wr.drew.alloc (.cells #[.string ⟨#[120]⟩, .string ⟨#[121]⟩, .string ⟨#[109]⟩, .string ⟨#[120]⟩, .string ⟨#[122]⟩, .string ⟨#[109]⟩] 9)).alloc (.cells #[.int .i64 1, .int .i64 2, .int .i64 1, .int .i64 2, .int .i64 3] 3)) (wr.heap.size + 1) 3 [.int .i64 1, .int .i64 2, .int .i64 1, .int .i64 2, .int .i64 3]) := Lib.hid (by
                  have h := Row.new (wr.drew.alloc (.cells #[.string ⟨#[120]⟩, .string ⟨#[121]⟩, .string ⟨#[109]⟩, .string ⟨#[120]⟩, .string ⟨#[122]⟩, .string ⟨#[109]⟩] 9)) [.int .i64 1, .int .i64 2, .int .i64 1, .int .i64 2, .int .i64 3] 3
                  rw [World.size_alloc] at h
                  exact h)
                have RB2 := Lib.hid (RB1.out.alloc (.cells #[.int .i64 1, .int .i64 2, .int .i64 1, .int .i64 2, .int .i64 3] 3))
                refine hK.out _ _ (HI2.out.t6.cell (i := 1) (v := .slice ou xs.length cu) (by rfl)) (fun _ => ?_)
                clear hK
                refine KeptAny.one (i := 4) (by kernel_rfl) rfl (by rfl) (fun K hK => ?_)
                go_simp
                refine ⟨trivial, ?_⟩
                obtain ⟨q3, hq3, hrd3⟩ := HI2.out.rd.rd
                have hbr := RA2.out.neq (HI2.out.rd.now.choose_spec.2) (by decide)
                have hC := (callsIn_wide (n := 5)).2 (num_row hrd3 (by omega) (xs := [1, 2, 1, 2, 3]) RA2.out hbr (by decide) (by decide))
                refine hC.mono ?_
                clear hC hrd3 hbr
                rintro e w13 ⟨kd, hkd, rfl, hr3⟩
                have HI3 := Lib.hid (HI2.out.asked hq3 hr3 (by omega))
                have hbr := RB2.out.neq (HI2.out.rd.now.choose_spec.2) (by decide)
                have RB3 := Lib.hid (RB2.out.asked hr3.turns hbr)
                clear hbr
                have hbr := RA2.out.neq (HI2.out.rd.now.choose_spec.2) (by decide)
                have RA3 := Lib.hid (RA2.out.asked hr3.turns hbr)
                clear hbr
                clear hr3
                refine hK.out _ _ (HI3.out.t6.cell (i := 1) (v := .slice ou xs.length cu) (by rfl)) (fun _ => ?_)
                clear hK
                refine KeptAny.one (i := 7) (by kernel_rfl) rfl (by rfl) (fun K hK => ?_)
                go_simp
                refine ⟨trivial, ?_⟩
                obtain ⟨q4, hq4, hrd4⟩ := HI3.out.rd.rd
                have hbr := RB3.out.neq (HI3.out.rd.now.choose_spec.2) (by decide)
                have hC := (callsIn_wide (n := 5)).2 (of_row hrd4 (by omega) (xs := [⟨#[120]⟩, ⟨#[121]⟩, ⟨#[109]⟩, ⟨#[120]⟩, ⟨#[122]⟩, ⟨#[109]⟩]) RB3.out hbr (by decide) (by decide))
                refine hC.mono ?_
                clear hC hrd4 hbr
                rintro e w14 ⟨nm, hnm, rfl, hr4⟩
                have HI4 := Lib.hid (HI3.out.asked hq4 hr4 (by omega))
                clear hr4
                refine hK.out _ _ (HI4.out.t6.cell (i := 1) (v := .slice ou xs.length cu) (by rfl)) (fun _ => ?_)
                clear hK
                refine KeptAny.one (i := 8) (by kernel_rfl) rfl (by rfl) (fun K hK => ?_)
                go_simp
                refine hK.out _ _ (HI4.out.t6.cell (i := 1) (v := .slice ou xs.length cu) (by rfl)) (fun _ => ?_)
                clear hK
                refine KeptAny.one (i := 9) (by kernel_rfl) rfl (by rfl) (fun K hK => ?_)
                go_simp
                have HC := Lib.hid (HI4.out.step ((Below.refl _ _).alloc (Nat.le_refl _) (.cells #[.int .i64 kd, .string nm, .int .i64 (-1)] 37)))
                refine hK.out _ _ (HC.out.t6.cell (i := 1) (v := .slice ou xs.length cu) (by rfl)) (fun _ => ?_)
                clear hK
                obtain ⟨u', w5, hrun, hown5, hgrow⟩ := append_item0 HI4.out.its (by have h1 := HI4.out.t6.lt; have h2 := HI4.out.low6; omega) (by omega) kd nm (-1) 123
                obtain ⟨ou', cu', hu', -⟩ := holdsItems_of_owns hown5
                obtain ⟨nu', hnu⟩ : ∃ nu', (xs ++ [(⟨kd, nm, -1⟩ : It)]).length = nu' := ⟨_, rfl⟩
                rw [hnu] at hu'
                subst hu'
                have HPU := Lib.hid (HI4.out.push hgrow hown5)
                have g6 : Row w5 (wo.heap.size + 1) 156 [.int .i64 pp, .slice ou xs.length cu] := (HI4.out.t6.alloc _).grown hgrow (own_row_ne HI4.out.t6 HI4.out.its (by decide))
                have g61 := g6.cell (i := 1) (v := .slice ou xs.length cu) (by rfl)
                have g6f := g6.frozen 1
                simp [go_sem] at hrun
                refine KeptAny.one (i := 10) (by kernel_rfl) rfl (by rfl) (fun K hK => ?_)
                go_simp
                refine hK.out _ _ g61 (fun _ => ?_)
                clear hK hrun hgrow hown5 g6 hnu
                refine KeptAny.one (i := 11) (by kernel_rfl) rfl (by rfl) (fun K hK => ?_)
                go_simp
                refine hK.out _ _ g61 (fun _ => ?_)
                clear hK
                refine KeptAny.last (by kernel_rfl) rfl (by rfl) (fun K hK => ?_)
                go_simp
                refine hK.out _ _ ?_
                clear hK
                refine KeptAny.done (by kernel_rfl) ?_ _
                have HSM : Hid (SmallItem ⟨kd, nm, -1⟩) := Lib.hid (small_drawn hkd hnm)
                clear g61 g6f hkd hnm
                go_wp2
                go_roundw
                case rel => exact ⟨j + 1, xs ++ [⟨kd, nm, -1⟩], _, by go_num, by omega, by rw [List.length_append, HXL.out]; rfl, Lib.hid ⟨{ HPU.out with rd := HPU.out.rd.more (by omega) (by omega) }, fun x hx => by
                  rw [List.mem_append, List.mem_singleton] at hx
                  rcases hx with hx | rfl
                  · exact hI.out.2 x hx
                  · exact HSM.out⟩⟩
                case measure => simp only [intOf]; omega
            · obtain rfl : j = m := by omega
              obtain ⟨ou, cu, rfl, -⟩ := holdsItems_of_owns hI.out.1.its
              have r3 := hI.out.1.t3.cell (i := 0) (v := v) (by rfl)
              have r60 := hI.out.1.t6.cell (i := 0) (v := .int .i64 pp) (by rfl)
              have r61 := hI.out.1.t6.cell (i := 1) (v := .slice ou xs.length cu) (by rfl)
              obtain ⟨i0, hi0, hz0, hz1, hz2⟩ := info_parts infoScope
              have hws := hI.out.1.rd.turns.size
              go_wp2_with (at_builtin; refine wpList_append_own _ rfl _ _ 31 rfl w.heap.size 156 i0 _ 2 32 Tryz.underlying31 hi0 hz0 hz1 hz2 rfl (by decide) _ _ _ rfl (hI.out.1.gr.row.alloc _) ⟨wr.heap.size, 0, none⟩ 1 1 [.int .i64 pp, .slice ou xs.length cu] rfl rfl ?d1 ?d2 ?d3 ?d4 ?d5 ?_)
              case d1 => exact cells_new2 _ _ _ _
              case d2 => intro z hz; simp only [List.mem_cons, List.not_mem_nil, or_false] at hz; rcases hz with rfl | rfl <;> rfl
              case d3 => unfold maxLen; omega
              case d4 => omega
              case d5 => simp only [World.size_alloc]; omega
              intro v' w5 hown5 hgrow _
              have HE := Lib.hid (hI.out.1.ended hgrow hown5)
              obtain ⟨ov', cv', hov, -⟩ := HE.out.gr.holds
              obtain ⟨nv, hnv⟩ : ∃ nv, (ss ++ [(⟨pp, xs⟩ : Sc)]).length = nv := ⟨_, rfl⟩
              rw [hnv] at hov
              subst hov
              have g3 : Row w5 (w1.heap.size + 1) 33 [v] := (hI.out.1.t3.alloc _).grown hgrow (own_row_ne hI.out.1.t3 hI.out.1.gr.row (by decide))
              have g30 := g3.cell (i := 0) (v := v) (by rfl)
              have g3f := g3.frozen 0
              have HGD : Hid (GoodD 4 (ss ++ [⟨pp, xs⟩])) := Lib.hid (hP.out.2.snoc (by omega) (by rw [HSL.out]; exact HPP.out) hI.out.2)
              clear hown5 hgrow r3 r60 r61 g3 hnv
              go_wp2
              go_roundw
              case rel => exact ⟨k + 1, _, _, _, by go_num, by omega, by rw [List.length_append, HSL.out]; rfl, Lib.hid ⟨{ HE.out with rd := HE.out.rd.more (by omega) (by omega) }, HGD.out⟩⟩
              case measure => simp only [intOf]; omega
      · obtain rfl : k = n := by omega
        go_wp2
        go_loopw [7] (fun i7 wr7 => ∃ (i : Nat) (v : Value) (ss : List Sc) (hs : List Value), i7 = .int .i64 i ∧ 1 ≤ i ∧ i ≤ k ∧ Hid (ss.length = k) ∧ Hid (DOut w wr7 r oa len cap (p + 140 + 2 * i) w.heap.size (w1.heap.size + 1) v ss hs ∧ GoodD 5 ss)) (fun i7 _ => k - (intOf i7).toNat)
        case atStart => exact ⟨1, v, ss, hs, by go_num, Nat.le_refl _, hn1, HSL, Lib.hid ⟨{ hP.out.1 with rd := hP.out.1.rd.more (by omega) (by omega) }, fun i s hs' => ⟨Nat.le_succ_of_le (hP.out.2 i s hs').1, (hP.out.2 i s hs').2⟩⟩⟩
        case round =>
          clear hP HSL hsl5
          obtain ⟨i, v, ss, hs, rfl, hi1, hik, HSL, hP⟩ := hrel
          have hsl5 : ss.length ≤ 5 := by have := HSL.out; omega
          by_cases hlt : i < k
          · obtain ⟨s, hs'⟩ : ∃ s, ss[i]? = some s := ⟨_, List.getElem?_eq_getElem (by have := HSL.out; omega)⟩
            obtain ⟨q, hq, hqi⟩ : ∃ q : Nat, s.parent = (q : Int) ∧ q < i := by
              rcases (hP.out.2 i s hs').2.1 with ⟨h1, _⟩ | h1
              · omega
              · exact h1
            obtain ⟨sq, hsq⟩ : ∃ sq, ss[q]? = some sq := ⟨_, List.getElem?_eq_getElem (by have := HSL.out; omega)⟩
            obtain ⟨us, hus⟩ : ∃ u, hs[i]? = some u := ⟨_, List.getElem?_eq_getElem (by have := hP.out.1.gr.len; have := HSL.out; omega)⟩
            obtain ⟨uq, huq⟩ : ∃ u, hs[q]? = some u := ⟨_, List.getElem?_eq_getElem (by have := hP.out.1.gr.len; have := HSL.out; omega)⟩
            obtain ⟨gv, cv, rfl⟩ : ∃ gv cv, v = .slice (some ⟨gv, 0, none⟩) ss.length cv := by
              obtain ⟨_, h2 | ⟨g, cap', cur, hv, _⟩⟩ := hP.out.1.gr.row
              · have := h2.2; have := HSL.out; omega
              · exact ⟨g, cap', hv⟩
            obtain ⟨oq, cq, rfl, -⟩ := holdsItems_of_owns (hP.out.1.gr.items q sq uq hsq huq)
            obtain ⟨k0, -⟩ := scRow_at hs' hus
            obtain ⟨-, k1⟩ := scRow_at hsq huq
            have c0 := hP.out.1.gr.row.cells (g := gv) rfl _ _ k0
            have c1 := hP.out.1.gr.row.cells (g := gv) rfl _ _ k1
            rw [Addr.add_lit, Nat.zero_add] at c0 c1
            rw [hq] at c0
            have t3 := hP.out.1.t3.cell (i := 0) (v := .slice (some ⟨gv, 0, none⟩) ss.length cv) (by rfl)
            have hqn : q < ss.length := (List.getElem?_eq_some_iff.1 hsq).1
            have hin : i < ss.length := (List.getElem?_eq_some_iff.1 hs').1
            obtain ⟨P, hPe⟩ : ∃ P, p + 140 + 2 * i = P := ⟨_, rfl⟩
            have hPb : P ≤ 899000 := by omega
            have hPe2 : P + 2 = p + 140 + 2 * (i + 1) := by omega
            have hDO := hP.out.1
            rw [hPe] at hDO
            have HDO := Lib.hid hDO
            obtain ⟨p2, hp2, hrd2⟩ := hDO.rd.rd
            have HGO := Lib.hid hP.out.2
            have HSQ := Lib.hid hsq
            have HUQ := Lib.hid huq
            have HPE := Lib.hid hPe2
            have hsm := (hP.out.2 q sq hsq).1
            have CP := Lib.hid (pick_any hrd2 (by omega) 2 (by omega))
            clear hs' hsq hus huq hq hDO hrd2 hP hPe hPe2 k0 k1
            by_cases h5 : sq.items.length < 5
            · have h5' : (sq.items.length : Int) < 5 := by omega
              go_wp2_with fail
              refine CP.out.mono ?_
              rintro e w3 ⟨z5, rfl, -, hz5, hr3⟩
              have HD3 := Lib.hid (HDO.out.asked hp2 hr3 (by omega))
              clear hz5 hr3 t3 c0 c1
              obtain ⟨-, k1⟩ := scRow_at HSQ.out HUQ.out
              have c1 := HD3.out.gr.row.cells (g := gv) rfl _ _ k1
              rw [Addr.add_lit, Nat.zero_add] at c1
              have t3 := HD3.out.t3.cell (i := 0) (v := .slice (some ⟨gv, 0, none⟩) ss.length cv) (by rfl)
              clear k1
              by_cases hz0 : z5 = 0
              · have hzq : (((z5 : Nat) : Int) == 0) = true := by simp; omega
                go_upto_region 22 with (fail)
                clear hzq hz0
                refine wp_region_kept (S := fun w' => w'.cell? ⟨w1.heap.size + 1, 0, none⟩ = some (.slice (some ⟨gv, 0, none⟩) ss.length cv) ∧ w'.cell? ⟨gv, q * 2 + 1, none⟩ = some (.slice oq sq.items.length cq)) 18 (by kernel_rfl) ?_
                have HI0 : Hid (DOut w w3.drew r oa len cap (P + 1) w.heap.size (w1.heap.size + 1) (.slice (some ⟨gv, 0, none⟩) ss.length cv) ss hs) := Lib.hid (HD3.out.step ((Below.refl _ _).drew))
                have hS0 : w3.drew.cell? ⟨w1.heap.size + 1, 0, none⟩ = some (.slice (some ⟨gv, 0, none⟩) ss.length cv) ∧ w3.drew.cell? ⟨gv, q * 2 + 1, none⟩ = some (.slice oq sq.items.length cq) := ⟨t3, c1⟩
                clear t3 c1
                have HS : Hid (∀ (W : World) (P' : Nat), DOut w W r oa len cap P' w.heap.size (w1.heap.size + 1) (.slice (some ⟨gv, 0, none⟩) ss.length cv) ss hs → W.cell? ⟨w1.heap.size + 1, 0, none⟩ = some (.slice (some ⟨gv, 0, none⟩) ss.length cv) ∧ W.cell? ⟨gv, q * 2 + 1, none⟩ = some (.slice oq sq.items.length cq)) := Lib.hid (fun W P' hd => by
                  obtain ⟨-, k1⟩ := scRow_at HSQ.out HUQ.out
                  have c1 := hd.gr.row.cells (g := gv) rfl _ _ k1
                  rw [Addr.add_lit, Nat.zero_add] at c1
                  exact ⟨hd.t3.cell (i := 0) (v := .slice (some ⟨gv, 0, none⟩) ss.length cv) (by rfl), c1⟩)
                refine KeptAny.take (i := 0) (v := ?_) (by kernel_rfl) rfl rfl (by kernel_rfl) (by kernel_rfl) (by kernel_rfl) (fun _ _ _ h => h) (by rfl) (fun w' hw' => ?_) (fun _ => rfl) hS0 ?_
                rotate_left
                · (obtain ⟨s0, s1⟩ := hw'; go_simp; try with_reducible rfl)
                refine KeptAny.take (i := 1) (v := ?_) (by kernel_rfl) rfl rfl (by kernel_rfl) (by kernel_rfl) (by kernel_rfl) (fun _ _ _ h => h) (by rfl) (fun w' hw' => ?_) (fun _ => rfl) hS0 ?_
                rotate_left
                · (obtain ⟨s0, s1⟩ := hw'; go_simp; try with_reducible rfl)
                refine KeptAny.take (i := 2) (v := ?_) (by kernel_rfl) rfl rfl (by kernel_rfl) (by kernel_rfl) (by kernel_rfl) (fun _ _ _ h => h) (by rfl) (fun w' hw' => ?_) (fun _ => rfl) hS0 ?_
                rotate_left
                · (obtain ⟨s0, s1⟩ := hw'; go_simp; try with_reducible rfl)
                refine KeptAny.take (i := 3) (v := ?_) (by kernel_rfl) rfl rfl (by kernel_rfl) (by kernel_rfl) (by kernel_rfl) (fun _ _ _ h => h) (by rfl) (fun w' hw' => ?_) (fun _ => rfl) hS0 ?_
                rotate_left
                · (obtain ⟨s0, s1⟩ := hw'; go_simp; try with_reducible rfl)
                refine KeptAny.take (i := 4) (v := ?_) (by kernel_rfl) rfl rfl (by kernel_rfl) (by kernel_rfl) (by kernel_rfl) (fun _ _ _ h => h) (by rfl) (fun w' hw' => ?_) (fun _ => rfl) hS0 ?_
                rotate_left
                · (obtain ⟨s0, s1⟩ := hw'; go_simp; try with_reducible rfl)
                refine KeptAny.take (i := 5) (v := ?_) (by kernel_rfl) rfl rfl (by kernel_rfl) (by kernel_rfl) (by kernel_rfl) (fun _ _ _ h => h) (by rfl) (fun w' hw' => ?_) (fun _ => rfl) hS0 ?_
                rotate_left
                · (obtain ⟨s0, s1⟩ := hw'; go_simp; try with_reducible rfl)
                refine KeptAny.take (i := 6) (v := ?_) (by kernel_rfl) rfl rfl (by kernel_rfl) (by kernel_rfl) (by kernel_rfl) (fun _ _ _ h => h) (by rfl) (fun w' hw' => ?_) (fun _ => rfl) hS0 ?_
                rotate_left
                · (obtain ⟨s0, s1⟩ := hw'; go_simp; try with_reducible rfl)
                refine KeptAny.take (i := 7) (v := ?_) (by kernel_rfl) rfl rfl (by kernel_rfl) (by kernel_rfl) (by kernel_rfl) (fun _ _ _ h => h) (by rfl) (fun w' hw' => ?_) (fun _ => rfl) hS0 ?_
                rotate_left
                · (obtain ⟨s0, s1⟩ := hw'; go_simp; try with_reducible rfl)
                refine KeptAny.take (i := 8) (v := ?_) (by kernel_rfl) rfl rfl (by kernel_rfl) (by kernel_rfl) (by kernel_rfl) (fun _ _ _ h => h) (by rfl) (fun w' hw' => ?_) (fun _ => rfl) hS0 ?_
                rotate_left
                · (obtain ⟨s0, s1⟩ := hw'; go_simp; try with_reducible rfl)
                refine KeptAny.take (i := 9) (v := ?_) (by kernel_rfl) rfl rfl (by kernel_rfl) (by kernel_rfl) (by kernel_rfl) (fun _ _ _ h => h) (by rfl) (fun w' hw' => ?_) (fun _ => rfl) hS0 ?_
                rotate_left
                · (obtain ⟨s0, s1⟩ := hw'; go_simp; try with_reducible rfl)
                refine KeptAny.take (i := 12) (v := ?_) (by kernel_rfl) rfl rfl (by kernel_rfl) (by kernel_rfl) (by kernel_rfl) (fun _ _ _ h => h) (by rfl) (fun w' hw' => ?_) (fun _ => rfl) hS0 ?_
                rotate_left
                · (obtain ⟨s0, s1⟩ := hw'; go_simp; try with_reducible rfl)
                clear hS0
                refine KeptAny.one (i := 10) (by kernel_rfl) rfl (by rfl) (fun K hK => ?_)
                go_simp
                have HI1 := Lib.hid (HI0.out.step ((Below.refl _ _).alloc (Nat.le_refl _) (.cells #[.string ⟨#[109]⟩, .string ⟨#[110]⟩, .string ⟨#[109]⟩, .string ⟨#[120]⟩] 9)))
                refine hK.out _ _ (HS.out _ _ HI1.out) (fun _ => ?_)
                clear hK
                refine KeptAny.one (i := 11) (by kernel_rfl) rfl (by rfl) (fun K hK => ?_)
                go_simp
                refine ⟨trivial, ?_⟩
                obtain ⟨p4, hp4, hrd4⟩ := HI0.out.rd.rd
                have hC := (callsIn_wide (n := 5)).2 (of_new hrd4 (by omega) [⟨#[109]⟩, ⟨#[110]⟩, ⟨#[109]⟩, ⟨#[120]⟩] (by decide) (by decide))
                refine hC.mono ?_
                clear hC hrd4
                rintro e w4 ⟨nm, hnm, rfl, hr4⟩
                have HI2 := Lib.hid (HI0.out.asked hp4 hr4 (by omega))
                have HNM : Hid (nm.size ≤ 2) := Lib.hid (by
                  simp only [List.mem_cons, List.not_mem_nil, or_false] at hnm
                  rcases hnm with rfl | rfl | rfl | rfl <;> exact (by decide))
                clear hr4 hnm
                refine hK.out _ _ (HS.out _ _ HI2.out) (fun _ => ?_)
                clear hK
                refine KeptAny.one (i := 13) (by kernel_rfl) rfl (by rfl) (fun K hK => ?_)
                go_simp
                refine hK.out _ _ (HS.out _ _ HI2.out) (fun _ => ?_)
                clear hK
                refine KeptAny.one (i := 14) (by kernel_rfl) rfl (by rfl) (fun K hK => ?_)
                go_simp
                have HI3 := Lib.hid (HI2.out.step ((Below.refl _ _).alloc (Nat.le_refl _) (.cells #[.int .i64 1, .string nm, .int .i64 (i : Int)] 37)))
                refine hK.out _ _ (HS.out _ _ HI3.out) (fun _ => ?_)
                clear hK
                have hits := HI2.out.gr.items q sq _ HSQ.out HUQ.out
                have hwz := HI2.out.rd.turns.size
                obtain ⟨u', w5, hrun, hown5, hgrow⟩ := append_item0 hits hwz (by omega) 1 nm (i : Int) 123
                have hwhere := append_item_where hits (by omega) hrun
                obtain ⟨ou', cu', hu', -⟩ := holdsItems_of_owns hown5
                obtain ⟨nu', hnu⟩ : ∃ nu', (sq.items ++ [(⟨1, nm, (i : Int)⟩ : It)]).length = nu' := ⟨_, rfl⟩
                rw [hnu] at hu'
                subst hu'
                have HGR := Lib.hid (OwnGr.grow HI2.out.gr hwz HSQ.out HUQ.out hgrow hown5 hwhere)
                have g2 : Row w5 w.heap.size 33 [.slice none 0 0] := (HI2.out.t2.alloc _).grown hgrow (own_row_ne HI2.out.t2 hits (by decide))
                have g3 : Row w5 (w1.heap.size + 1) 33 [.slice (some ⟨gv, 0, none⟩) ss.length cv] := (HI2.out.t3.alloc _).grown hgrow (own_row_ne HI2.out.t3 hits (by decide))
                have hrow5 := ownsRow_apart (HI2.out.gr.row.alloc _) hgrow (owns_types_apart HI2.out.gr.row hits (by decide))
                have hgv : w.heap.size ≤ gv := (hrow5.lt gv rfl).1
                have hB5 : Below w.heap.size w4 w5 := ((Below.refl _ _).alloc hwz (.cells #[.int .i64 1, .string nm, .int .i64 (i : Int)] 37)).grown hgrow (by simp; omega) (fun r e => (hits.lt r e).1)
                have HDF : Hid (DOut w (w5.setCell ⟨gv, q * 2 + 1, none⟩ (.slice ou' nu' cu')) r oa len cap (P + 2) w.heap.size (w1.heap.size + 1) (.slice (some ⟨gv, 0, none⟩) ss.length cv) (ss.set q ⟨sq.parent, sq.items ++ [⟨1, nm, (i : Int)⟩]⟩) (hs.set q (.slice ou' nu' cu'))) := Lib.hid
                  { rd := HI2.out.rd.far (hB5.setCell hgv _)
                    t2 := g2.other (fun e => own_row_ne g2 hrow5 (by decide) (by rw [← e]; rfl)) _
                    low2 := HI2.out.low2
                    t3 := g3.other (fun e => own_row_ne g3 hrow5 (by decide) (by rw [← e]; rfl)) _
                    low3 := HI2.out.low3
                    ne23 := HI2.out.ne23
                    gr := HGR.out }
                obtain ⟨-, k1⟩ := scRow_at HSQ.out HUQ.out
                have c5 := hrow5.cells (g := gv) rfl _ _ k1
                rw [Addr.add_lit, Nat.zero_add] at c5
                have f5 : w5.frozen? ⟨gv, q * 2 + 1, none⟩ = false := by
                  obtain ⟨_, m2 | ⟨g2', c2', cur2, hv2, _, hh2, _⟩⟩ := hrow5
                  · exact absurd m2.1 (by simp)
                  · simp only [Value.slice.injEq, Option.some.injEq, Addr.mk.injEq, true_and, and_true] at hv2
                    obtain ⟨rfl, _⟩ := hv2
                    simp [World.frozen?, hh2]
                have g30 := g3.cell (i := 0) (v := .slice (some ⟨gv, 0, none⟩) ss.length cv) (by rfl)
                simp [go_sem] at hrun
                refine KeptAny.one (i := 15) (by kernel_rfl) rfl (by rfl) (fun K hK => ?_)
                go_simp
                refine hK.out _ _ ⟨g30, c5⟩ (fun _ => ?_)
                clear hK hrun hgrow hown5 g2 g3 hnu hwhere hits hrow5 k1 hB5
                refine KeptAny.one (i := 16) (by kernel_rfl) rfl (by rfl) (fun K hK => ?_)
                go_simp
                refine hK.out _ _ ⟨g30, c5⟩ (fun _ => ?_)
                clear hK
                refine KeptAny.one (i := 17) (by kernel_rfl) rfl (by rfl) (fun K hK => ?_)
                go_simp
                refine hK.out _ _ ⟨g30, c5⟩ (fun _ => ?_)
                clear hK
                refine KeptAny.last (by kernel_rfl) rfl (by rfl) (fun K hK => ?_)
                go_simp
                refine hK.out _ _ ?_
                clear hK g30 c5 f5
                refine KeptAny.done (by kernel_rfl) ?_ _
                have HGD : Hid (GoodD 5 (ss.set q ⟨sq.parent, sq.items ++ [⟨1, nm, (i : Int)⟩]⟩)) := Lib.hid (GoodD.grow HGO.out HSQ.out h5 ⟨show I64 1 from (by unfold I64; omega), show I64 (i : Int) from (by unfold I64; omega), HNM.out⟩)
                go_wp2
                go_roundw
                case rel => exact ⟨i + 1, .slice (some ⟨gv, 0, none⟩) ss.length cv, _, _, by go_num, by omega, by omega, Lib.hid (by rw [List.length_set]; exact HSL.out), Lib.hid ⟨by rw [← HPE.out]; exact HDF.out, HGD.out⟩⟩
                case measure => simp only [intOf]; omega
              · have hzq : (((z5 : Nat) : Int) == 0) = false := by simp; omega
                go_wp2
                go_roundw
                case rel => exact ⟨i + 1, _, ss, hs, by go_num, by omega, by omega, HSL, Lib.hid ⟨{ HD3.out with rd := HD3.out.rd.more (by have := HPE.out; omega) (by omega) }, HGO.out⟩⟩
                case measure => simp only [intOf]; omega
            · have h5' : ¬ (sq.items.length : Int) < 5 := by omega
              go_wp2
              go_roundw
              case rel => exact ⟨i + 1, _, ss, hs, by go_num, by omega, by omega, HSL, Lib.hid ⟨{ HDO.out with rd := HDO.out.rd.more (by have := HPE.out; omega) (by omega) }, HGO.out⟩⟩
              case measure => simp only [intOf]; omega
          · obtain rfl : i = k := by omega
            obtain ⟨ov, cv, rfl, -⟩ := hP.out.1.gr.holds
            have t3 := hP.out.1.t3.cell (i := 0) (v := .slice ov ss.length cv) (by rfl)
            have t2 := hP.out.1.t2.cell (i := 0) (v := .slice none 0 0) (by rfl)
            have f2 := hP.out.1.t2.frozen 0
            have d2 := (hP.out.1.t2.set 0 (.slice ov ss.length cv)).cell (i := 0) (v := .slice ov ss.length cv) (by rfl)
            have HG := Lib.hid (hP.out.1.gr.other hP.out.1.t2 (.inl (by decide)) (by decide) 0 (.slice ov ss.length cv))
            have HRD := Lib.hid ((hP.out.1.rd.far ((Below.refl _ _).setCell (p := ⟨w.heap.size, 0, none⟩) (Nat.le_refl _) (.slice ov ss.length cv))).more (P' := p + 200) (by omega) (by omega))
            have HLT := Lib.hid (hP.out.2.lit (by omega) (by omega))
            go_wp2
            exact bodyPost_ret (v := .agg #[.slice ov ss.length cv]) (by simp [results, Tryz.results87, go_sem, d2]) rfl ⟨ss, _, hs, rfl, HG.out, HLT.out, HRD.out⟩
end Go.Proofs.YtjogfagjcpcihaaGreatDoor
