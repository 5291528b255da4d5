/-
  A graph from which all that can be removed is removed, again and again. Plain facts. The walk of impl's RemoveUnused. Conditions: the argument's memory holds the graph; the package-level errors hold errors. The walks of the given l6RawRemoveUnused and RemoveUnused. Condition: the argument's memory holds the graph. The walk of the given RemoveUnused. Condition: the argument's memory holds the graph. The walks of the given l9RawFreshGraph and FreshGraph. Condition: the argument's memory holds the graph. (genfrs.py writes this text.)
-/
import Derived.Test.YtdmaaneilfjfcaaDoorJC
import Derived.Test.YtdmaaneilfjfcaaDoorJE
import Derived.Test.YtdmaaneilfjfcaaDoorJL
import Derived.Test.YtdmaaneilfjfcaaDoorWRemItem
import Derived.Deep.LoopGhost
import Derived.Test.YtdmaaneilfjfcaaDoorJA
import Derived.Test.YtdmaaneilfjfcaaDoorWMarkR
import Derived.Test.YtdmaaneilfjfcaaDoorJG
import Derived.Test.YtdmaaneilfjfcaaDoorJK
namespace Go.Proofs.YtdmaaneilfjfcaaDoor
open Go Go.RowKit
/-- Whether an item can be removed: no reference, and nothing changes. -/
def unB (ss : List Sc) (q : Nat × Nat × It) : Bool := decide (q.2.2.kind ≠ 2) && decide (chgP ss q.1 q.2.1 = [])
/-- At most so many items removed, each time the first that can be. -/
def unP : Nat → List Sc → List Sc
  | 0, ss => ss
  | n + 1, ss => match (placed 0 ss).find? (unB ss) with
    | none => ss
    | some q => unP n (rmvP ss q.1 q.2.1)
def unusedP (ss : List Sc) : List Sc := unP (placed 0 ss).length ss
theorem unP_done {n : Nat} {ss : List Sc} (h : ∀ q ∈ placed 0 ss, unB ss q = false) : unP n ss = ss := by
  cases n with
  | zero => rfl
  | succ n =>
    unfold unP
    rw [List.find?_eq_none.2 (fun q hq => by rw [h q hq]; decide)]
theorem unP_step {n : Nat} {ss : List Sc} {l1 l2 : List (Nat × Nat × It)} {q : Nat × Nat × It} (h : placed 0 ss = l1 ++ q :: l2) (ha : ∀ r ∈ l1, unB ss r = false) (hq : unB ss q = true) : unP (n + 1) ss = unP n (rmvP ss q.1 q.2.1) := by
  have h1 : (placed 0 ss).find? (unB ss) = some q := List.find?_eq_some_iff_append.2 ⟨hq, l1, l2, h, fun r hr => by rw [ha r hr]; rfl⟩
  conv => lhs; unfold unP
  rw [h1]
theorem placed_len : ∀ (ss : List Sc) (i : Nat), (placed i ss).length = (ss.map fun s => s.items.length).sum
  | [], i => rfl
  | s :: r, i => by simp [placed, placed_len r (i + 1)]
theorem rmv_len : ∀ (ss : List Sc) (a b : Nat) (s : Sc), ss[a]? = some s → b < s.items.length → ((rmvP ss a b).map fun s => s.items.length).sum + 1 = (ss.map fun s => s.items.length).sum
  | [], a, b, s, h, _ => by simp at h
  | t :: r, 0, b, s, h, hb => by
    simp only [List.getElem?_cons_zero, Option.some.injEq] at h
    subst h
    simp only [rmvP, rmvSc, List.map_cons, List.sum_cons, List.length_eraseIdx, hb, if_true]
    omega
  | t :: r, a + 1, b, s, h, hb => by
    have h2 := rmv_len r a b s (by simpa using h) hb
    simp only [rmvP, List.map_cons, List.sum_cons]
    omega
theorem placed_rmv_len {ss : List Sc} {a b : Nat} {s : Sc} {x : It} (hs : ss[a]? = some s) (hx : s.items[b]? = some x) : (placed 0 (rmvP ss a b)).length + 1 = (placed 0 ss).length := by
  rw [placed_len, placed_len]
  exact rmv_len ss a b s hs (List.getElem?_eq_some_iff.1 hx).1
theorem unP_small : ∀ (n : Nat) (ss : List Sc), Valid ss → Fair ss → Valid (unP n ss) ∧ Fair (unP n ss)
  | 0, ss, h, k => ⟨h, k⟩
  | n + 1, ss, h, k => by
    unfold unP
    cases (placed 0 ss).find? (unB ss) with
    | none => exact ⟨h, k⟩
    | some q => exact unP_small n _ (h.rmv _ _) (k.rmv _ _)
/-- One step, told by the item that the two loops have come to. -/
theorem unP_at {n k m : Nat} {us U : List Sc} {s : Sc} {x : It} (hs : us[k]? = some s) (hx : s.items[m]? = some x) (hno : ∀ q ∈ uptoP us k m, unB us q = false) (hy : unB us (k, m, x) = true) (hl : (placed 0 us).length ≤ n) (hu : unP n us = U) :
    ∃ n', n = n' + 1 ∧ (placed 0 (rmvP us k m)).length ≤ n' ∧ unP n' (rmvP us k m) = U := by
  obtain ⟨rest, hr⟩ := uptoP_prefix (j := m + 1) hs
  rw [uptoP_next hs hx, List.append_assoc] at hr
  have h1 := placed_rmv_len hs hx
  cases n with
  | zero => omega
  | succ n =>
    refine ⟨n, rfl, by omega, ?_⟩
    rw [← hu, unP_step hr.symm hno hy]
end Go.Proofs.YtdmaaneilfjfcaaDoor
namespace Go.Proofs.YtdmaaneilfjfcaaDoor
open Go Go.RowKit
theorem HoldsItems.gotU {w : World} {oa : Option Addr} {xs : List It} (h : HoldsItems w oa xs) {k : Nat} {x : It} (hx : xs[k]? = some x) : ∃ b off, oa = some ⟨b, off, none⟩ ∧ b < w.heap.size ∧ w.cell? ⟨b, off + k * 3, none⟩ = some (.int .i64 x.kind) ∧ w.cell? ⟨b, off + k * 3 + 1, none⟩ = some (.string x.name) ∧ w.cell? ⟨b, off + k * 3 + 2, none⟩ = some (.int .i64 x.scope) := by
  rcases h with rfl | ⟨b, off, h1, h2, h3⟩
  · cases hx
  · exact ⟨b, off, h1, h2, h3 k x hx⟩
theorem HoldsScopes.gotU {w : World} {oa : Option Addr} {ss : List Sc} (h : HoldsScopes w oa ss) {k : Nat} {s : Sc} (hx : ss[k]? = some s) : ∃ b off, oa = some ⟨b, off, none⟩ ∧ b < w.heap.size ∧ ∃ (oi : Option Addr) (ci : Nat), w.cell? ⟨b, off + k * 2, none⟩ = some (.int .i64 s.parent) ∧ w.cell? ⟨b, off + k * 2 + 1, none⟩ = some (.slice oi s.items.length ci) ∧ HoldsItems w oi s.items := by
  rcases h with rfl | ⟨b, off, h1, h2, h3⟩
  · cases hx
  · exact ⟨b, off, h1, h2, h3 k s hx⟩
theorem unB_ref {ss : List Sc} {q : Nat × Nat × It} (h : q.2.2.kind = 2) : unB ss q = false := by unfold unB; simp [h]
theorem unB_dec {ss : List Sc} {k m : Nat} {x : It} {q : Bool} (h : x.kind ≠ 2) (hv : itemHas ss (k : Int) (m : Int)) (hc : CanVal2 (itemHas ss (k : Int) (m : Int)) (chgPI ss (k : Int) (m : Int)) q) : unB ss (k, m, x) = q := by
  unfold unB
  rcases hc with ⟨h1, _⟩ | ⟨_, h2⟩
  · exact absurd hv h1
  · rw [chgPI_nat] at h2
    rw [h2]
    simp [h]
theorem upto_none {ss : List Sc} {k m : Nat} {s : Sc} {x : It} (hs : ss[k]? = some s) (hx : s.items[m]? = some x) (hno : ∀ q ∈ uptoP ss k m, unB ss q = false) (hn : unB ss (k, m, x) = false) : ∀ q ∈ uptoP ss k (m + 1), unB ss q = false := by
  intro q hq
  rw [uptoP_next hs hx] at hq
  rcases List.mem_append.1 hq with h | h
  · exact hno q h
  · rw [List.mem_singleton.1 h]; exact hn
theorem OwnGr.holdsAtU {w : World} {B n c : Nat} {o : Option Addr} {l : List Sc} {hs : List Value} (h : OwnGr w B (.slice o n c) l hs) : HoldsScopes w o l := by
  obtain ⟨ov, cv, he, hh⟩ := h.holds
  simp only [Value.slice.injEq] at he
  rw [he.1]
  exact hh
/-- What is left, in a box. -/
structure LeftIn (w0 w : World) (B Z g : Nat) (U us : List Sc) (ov : Option Addr) (cv : Nat) (hs : List Value) : Prop where
  box : Row w Z 25 [.slice ov us.length cv]
  own : OwnGr w B (.slice ov us.length cv) us hs
  valid : Valid us
  fair : Fair us
  small : (placed 0 us).length ≤ g
  rest : unP g us = U
  below : Below w0.heap.size w0 w
end Go.Proofs.YtdmaaneilfjfcaaDoor
namespace Go.Proofs.YtdmaaneilfjfcaaDoor
open Go Go.RowKit
attribute [local go_sem ↓] field_kind field_name field_scope field_places
/-- A graph that may share memory, and a truth. -/
def RawGrU (ok : Prop) (l : List Sc) (w : World) (e : Ending) (w' : World) : Prop :=
  (¬ ok ∧ e = .returned (.tuple #[.agg #[.slice none 0 0], .bool false]) ∧ Below w.heap.size w w') ∨
  (ok ∧ ∃ ov cv, e = .returned (.tuple #[.agg #[.slice ov l.length cv], .bool true]) ∧ HoldsScopes w' ov l ∧ Below w.heap.size w w')
/-- What is left, in the argument's box. -/
structure LeftS (w0 w : World) (us : List Sc) (ov : Option Addr) (cv : Nat) : Prop where
  box : Row w w0.heap.size 25 [.slice ov us.length cv]
  res : Row w (w0.heap.size + 1) 25 [.slice none 0 0]
  holds : HoldsScopes w ov us
  valid : Valid us
  fair : Fair us
  below : Below w0.heap.size w0 w
theorem LeftS.step {w0 w w' : World} {us : List Sc} {ov : Option Addr} {cv : Nat} (h : LeftS w0 w us ov cv) (hb : Below w.heap.size w w') : LeftS w0 w' us ov cv :=
  ⟨h.box.below hb h.box.lt, h.res.below hb h.res.lt, h.holds.below hb (Nat.le_refl _), h.valid, h.fair, h.below.trans (hb.mono h.below.size)⟩
theorem unB_decS {ss : List Sc} {i j : Nat} {x : It} (h : x.kind ≠ 2) : unB ss (i, j, x) = decide (chgP ss i j = []) := by unfold unB; simp [h]
theorem take_none {ss : List Sc} {k : Nat} {q : Nat × Nat × It} (hq : (placed 0 ss)[k]? = some q) (hno : ∀ r ∈ (placed 0 ss).take k, unB ss r = false) (hn : unB ss q = false) : ∀ r ∈ (placed 0 ss).take (k + 1), unB ss r = false := by
  intro r hr
  rw [List.take_add_one, hq] at hr
  rcases List.mem_append.1 hr with h | h
  · exact hno r h
  · simp only [Option.toList_some, List.mem_singleton] at h
    rw [h]; exact hn
theorem unP_take {n k : Nat} {us U : List Sc} {i j : Nat} {s : Sc} {x : It} (hs : us[i]? = some s) (hx : s.items[j]? = some x) (hk : (placed 0 us)[k]? = some (i, j, x)) (hno : ∀ q ∈ (placed 0 us).take k, unB us q = false) (hy : unB us (i, j, x) = true) (hl : (placed 0 us).length ≤ n) (hu : unP n us = U) :
    ∃ n', n = n' + 1 ∧ (placed 0 (rmvP us i j)).length ≤ n' ∧ unP n' (rmvP us i j) = U := by
  have hkl := (List.getElem?_eq_some_iff.1 hk).1
  have h2 : placed 0 us = (placed 0 us).take k ++ (i, j, x) :: (placed 0 us).drop (k + 1) := by
    have h1 := List.drop_eq_getElem_cons hkl
    rw [(List.getElem?_eq_some_iff.1 hk).2] at h1
    rw [← h1, List.take_append_drop]
  have h1 := placed_rmv_len hs hx
  cases n with
  | zero => omega
  | succ n =>
    refine ⟨n, rfl, by omega, ?_⟩
    rw [← hu, unP_step h2 hno hy]
end Go.Proofs.YtdmaaneilfjfcaaDoor
namespace Go.Proofs.YtdmaaneilfjfcaaDoor
open Go Go.RowKit
end Go.Proofs.YtdmaaneilfjfcaaDoor
namespace Go.Proofs.YtdmaaneilfjfcaaDoor
open Go Go.RowKit
/-- A graph has fresh names where no item means several declarations, and these are at most 25. -/
def frsOk (ss : List Sc) : Prop := (Valid ss ∧ Clear ss) ∧ (dclP ss).length ≤ 25
def frsG (ss : List Sc) : List Sc := nmgG ss (bT (frsL (dclP ss).length))
theorem frsOk.nmg {ss : List Sc} (h : frsOk ss) : nmgOk ss (bT (frsL (dclP ss).length)) := ⟨h.1, frs_naming (bT_data _) h.2⟩
theorem frsOk.valid {ss : List Sc} (h : frsOk ss) : Valid (frsG ss) := h.nmg.valid
theorem frsOk.small {ss : List Sc} (h : frsOk ss) : SmallGr (frsG ss) := ⟨by have := h.valid.count; omega, fun s hs => by have := h.valid.five s hs; omega⟩
theorem frsOk.fair {ss : List Sc} (hF : Fair ss) (h : frsOk ss) : Fair (frsG ss) := h.nmg.fair hF
theorem frs_cut {n : Nat} (hn : n ≤ 25) : lettersB.extract 0 n = bT (frsL n) := by
  have h : ∀ m : Nat, m < 26 → lettersB.extract 0 m = bT (frsL m) := fun m hm => below26 (p := fun k => lettersB.extract 0 k = bT (frsL k)) (by decide +kernel) hm
  exact h n (by omega)
/-- What the raw given function answers: the graph lies in memory. -/
def RawGv (ok : Prop) (l : List Sc) (w : World) (e : Ending) (w' : World) : Prop := ∃ (ov : Option Addr) (cv : Nat) (xs : List Sc) (b : Bool), e = .returned (.tuple #[.agg #[.slice ov xs.length cv], .bool b]) ∧ grVal ok l xs b ∧ HoldsScopes w' ov xs ∧ Below w.heap.size w w'
set_option maxRecDepth 100000 in
set_option maxHeartbeats 8000000 in
theorem rawFresh_any (ss : List Sc) (hF : Fair ss) (hpw : (placed 0 ss).length ≤ 1048576) (oa : Option Addr) (cap : Nat) (w : World) (hc : HoldsScopes w oa ss) :
    Calls Tryd.prog 49 #[.agg #[.slice oa ss.length cap]] w (RawGv (frsOk ss) (frsG ss) w) := by
  have hb0 := ((Below.refl w.heap.size w).alloc (Nat.le_refl _) (.cells #[.slice oa ss.length cap] 25)).alloc (by simp) (.cells #[.slice none 0 0] 25)
  have R1 := Lib.hid ((Row.new w [.slice oa ss.length cap] 25).alloc (.cells #[.slice none 0 0] 25))
  have R2 := Row.new (w.alloc (.cells #[.slice oa ss.length cap] 25)) [.slice none 0 0] 25
  rw [World.size_alloc] at R2
  have R2 := Lib.hid R2
  have HB := Lib.hid hb0
  have HC := Lib.hid hc
  have HF := Lib.hid hF
  have C := Lib.hid (l1PlacesW_any ss hF.count (fun s hs => hF.items s hs) hpw oa cap 1 _ (hc.below hb0 (Nat.le_refl _)))
  have g1 := R1.out.cell (i := 0) (v := .slice oa ss.length cap) (by rfl)
  have hpl := Nat.le_trans (plsOf_length 1 (placed 0 ss)) hpw
  clear hb0 hF hc hpw
  go_enter Tryd.func49, Tryd.ntmps49
  go_wp2_with fail
  refine C.out.mono ?_
  rintro e w1 ⟨vD, rfl, hD, hb1⟩
  obtain ⟨oD, cD, rfl, -⟩ := argPlaces_of_owns hD
  have HB1 := Lib.hid (HB.out.trans (hb1.mono HB.out.size))
  have R1a := Lib.hid (R1.out.below hb1 R1.out.lt)
  have R2a := Lib.hid (R2.out.below hb1 R2.out.lt)
  have n0 := R2a.out.cell (i := 0) (v := .slice none 0 0) (by rfl)
  have f0 := R2a.out.frozen 0
  have hpl2 : (plsP ss 1).length ≤ 1048576 := hpl
  clear hD hb1 g1 hpl
  by_cases hn : 25 < (plsP ss 1).length
  · have e1 : decide (((plsP ss 1).length : Int) > 25) = true := by simp; omega
    have HN : Hid (¬ frsOk ss) := Lib.hid (fun h => by have := h.2; unfold dclP at this; omega)
    go_wp2
    have RT := R2a.out.set 0 (.slice none 0 0)
    have d0 := RT.cell (i := 0) (v := .slice none 0 0) (by rfl)
    exact bodyPost_ret (v := .tuple #[.agg #[.slice none 0 0], .bool false]) (by simp [results, Tryd.results49, go_sem, d0]) rfl ⟨none, 0, [], false, rfl, .inl ⟨HN.out, rfl, rfl⟩, .inl rfl, HB1.out.setCell (by simp) _⟩
  · have e1 : decide (((plsP ss 1).length : Int) > 25) = false := by simp; omega
    have hn25 : (plsP ss 1).length ≤ 25 := by omega
    obtain ⟨n, hne⟩ : ∃ n, (plsP ss 1).length = n := ⟨_, rfl⟩
    have HNE : Hid ((dclP ss).length = n) := Lib.hid hne
    rw [hne] at e1 hn25 ⊢
    have hcut : (⟨#[97, 98, 99, 100, 101, 102, 103, 104, 105, 106, 107, 108, 109, 110, 111, 112, 113, 114, 115, 116, 117, 118, 119, 120, 121, 122]⟩ : ByteArray).extract 0 n = bT (frsL n) := frs_cut hn25
    have HCUT := Lib.hid hcut
    have C9 := Lib.hid (fun W (hW : Below w.heap.size w W) => specNamed_any ss HF.out oa cap (bT (frsL n)) (by rw [bT_size, frsL_length]; omega) W (HC.out.below hW (Nat.le_refl _)))
    have g1 := R1a.out.cell (i := 0) (v := .slice oa ss.length cap) (by rfl)
    have HD0 : Hid (Below w1.heap.size w1 w1.drew) := Lib.hid ((Below.refl _ _).drew)
    have hli0 : (0 : Int) ≤ (n : Int) := by omega
    have hli1 : (n : Int) ≤ 26 := by omega
    clear hne hn n0 f0 hpl2
    go_wp2
    refine wp_region_kept (S := fun w' => w'.cell? ⟨w.heap.size, 0, none⟩ = some (.slice oa ss.length cap)) 7 (by kernel_rfl) ?_
    have hS0 : w1.drew.cell? ⟨w.heap.size, 0, none⟩ = some (.slice oa ss.length cap) := cell_drew g1
    have HS0 := Lib.hid hS0
    refine KeptAny.take (i := 0) (v := ?_) (by kernel_rfl) rfl rfl (by kernel_rfl) (by kernel_rfl) (by kernel_rfl) (fun _ _ _ h => h) (by rfl) (fun w' hw' => ?_) (fun _ => rfl) hS0 ?_
    rotate_left
    · (have g0 := hw'; go_simp; try with_reducible rfl)
    refine KeptAny.take (i := 1) (v := ?_) (by kernel_rfl) rfl rfl (by kernel_rfl) (by kernel_rfl) (by kernel_rfl) (fun _ _ _ h => h) (by rfl) (fun w' hw' => ?_) (fun _ => rfl) hS0 ?_
    rotate_left
    · (have g0 := hw'; go_simp; try with_reducible rfl)
    refine KeptAny.take (i := 2) (v := ?_) (by kernel_rfl) rfl rfl (by kernel_rfl) (by kernel_rfl) (by kernel_rfl) (fun _ _ _ h => h) (by rfl) (fun w' hw' => ?_) (fun _ => rfl) hS0 ?_
    rotate_left
    · (have g0 := hw'; go_simp; try with_reducible rfl)
    clear hS0 g1
    refine KeptAny.one (i := 3) (by kernel_rfl) rfl (by rfl) (fun K hK => ?_)
    go_simp
    refine ⟨trivial, ?_⟩
    refine ((callsIn_wide (n := 5)).2 (C9.out _ (HB1.out.trans (HD0.out.mono HB1.out.size)))).mono ?_
    intro e w2 hgot
    obtain ⟨ov, cv, xs, hsX, b, rfl, hv, hh, hO, hb2⟩ := hgot.val
    have HX2 := Lib.hid (HD0.out.trans (hb2.mono HD0.out.size))
    have HB2 := Lib.hid (HB1.out.trans (HX2.out.mono HB1.out.size))
    have R2b := Lib.hid (R2a.out.below HX2.out R2a.out.lt)
    have HV := Lib.hid hv
    have HH := Lib.hid hO
    have hS1 := cell_grow hb2 HS0.out
    have HS1 := Lib.hid hS1
    have n0 := R2b.out.cell (i := 0) (v := .slice none 0 0) (by rfl)
    have f0 := R2b.out.frozen 0
    refine hK.out _ _ hS1 (fun _ => ?_)
    clear hK hv hh hO hb2 hS1 hgot
    have hS0 := HS1.out
    refine KeptAny.take (i := 4) (v := ?_) (by kernel_rfl) rfl rfl (by kernel_rfl) (by kernel_rfl) (by kernel_rfl) (fun _ _ _ h => h) (by rfl) (fun w' hw' => ?_) (fun _ => rfl) hS0 ?_
    rotate_left
    · (have g0 := hw'; go_simp; try with_reducible rfl)
    refine KeptAny.take (i := 5) (v := ?_) (by kernel_rfl) rfl rfl (by kernel_rfl) (by kernel_rfl) (by kernel_rfl) (fun _ _ _ h => h) (by rfl) (fun w' hw' => ?_) (fun _ => rfl) hS0 ?_
    rotate_left
    · (have g0 := hw'; go_simp; try with_reducible rfl)
    clear hS0
    refine KeptAny.one (i := 6) (by kernel_rfl) rfl (by rfl) (fun K hK => ?_)
    go_simp
    refine hK.out _ _ ((cell_farR (by omega) 0 _ (o := 0)).trans HS1.out) (fun _ => ?_)
    clear hK
    refine KeptAny.last (by kernel_rfl) rfl (by rfl) (fun K hK => ?_)
    go_simp
    refine hK.out _ _ ?_
    clear hK
    refine KeptAny.done (by kernel_rfl) ?_ _
    have RT := R2b.out.set 0 (.slice ov xs.length cv)
    have d0 := RT.cell (i := 0) (v := .slice ov xs.length cv) (by rfl)
    have HOT := OwnGr.holdsAtR (show OwnGr (w2.setCell ⟨w.heap.size + 1, 0, none⟩ (.slice ov xs.length cv)) _ (.slice ov xs.length cv) xs hsX from ⟨HH.out.len, ownsRow_otherN HH.out.row R2b.out (by decide) 0 _, fun k t z h1 h2 => ownsRow_otherN (HH.out.items k t z h1 h2) R2b.out (by decide) 0 _, HH.out.apart⟩)
    go_wp2
    refine bodyPost_ret (v := .tuple #[.agg #[.slice ov xs.length cv], .bool b]) (by simp [results, Tryd.results49, go_sem, d0]) rfl ?_
    refine ⟨ov, cv, xs, b, rfl, ?_, HOT, HB2.out.setCell (by simp) _⟩
    have hnm : nmgOk ss (bT (frsL n)) ↔ frsOk ss := ⟨fun h => ⟨h.1, by rw [HNE.out]; exact hn25⟩, fun h => by have h1 := h.nmg; rw [HNE.out] at h1; exact h1⟩
    rcases HV.out with ⟨h1, h2, h3⟩ | ⟨h1, h2, h3⟩
    · exact .inl ⟨fun h => h1 (hnm.2 h), h2, h3⟩
    · exact .inr ⟨hnm.1 h1, by rw [h2]; unfold frsG; rw [HNE.out], h3⟩
set_option maxRecDepth 100000 in
set_option maxHeartbeats 8000000 in
theorem specFresh_any (ss : List Sc) (hF : Fair ss) (hpw : (placed 0 ss).length ≤ 1048576) (oa : Option Addr) (cap : Nat) (w : World) (hc : HoldsScopes w oa ss) :
    Calls Tryd.prog 25 #[.agg #[.slice oa ss.length cap]] w (GrGot (frsOk ss) (frsG ss) w) := by
  have hb0 := ((Below.refl w.heap.size w).alloc (Nat.le_refl _) (.cells #[.slice oa ss.length cap] 25)).alloc (by simp) (.cells #[.slice none 0 0] 25)
  have R1 := (Row.new w [.slice oa ss.length cap] 25).alloc (.cells #[.slice none 0 0] 25)
  have R3 := Row.new (w.alloc (.cells #[.slice oa ss.length cap] 25)) [.slice none 0 0] 25
  rw [World.size_alloc] at R3
  have C := Lib.hid (rawFresh_any ss hF hpw oa cap _ (hc.below hb0 (Nat.le_refl _)))
  have HB := Lib.hid hb0
  have HR3 := Lib.hid R3
  have HF := Lib.hid hF
  have g1 := R1.cell (i := 0) (v := .slice oa ss.length cap) (by rfl)
  clear hF hc hb0 R1 R3
  go_enter Tryd.func25, Tryd.ntmps25
  go_wp2_with fail
  refine C.out.mono ?_
  rintro e w1 ⟨ov, cv, xs, bq, rfl, hgv, hho, hb1⟩
  rcases hgv with ⟨hn, rfl, rfl⟩ | ⟨hh, rfl, rfl⟩
  · have hbx := hb1.trans ((Below.refl w1.heap.size w1).alloc (Nat.le_refl _) (.cells #[.slice ov ([] : List Sc).length cv] 25) |>.mono hb1.size)
    have HB1 := Lib.hid (HB.out.trans (hbx.mono HB.out.size))
    have HR3a := Lib.hid (HR3.out.below hbx HR3.out.lt)
    have RX := (Row.new w1 [.slice ov ([] : List Sc).length cv] 25).cell (i := 0) (by rfl)
    have HN := Lib.hid hn
    have C2 := Lib.hid (ownGraph_any [] ov cv (by simp) (fun s hs => by cases hs) (w1.alloc (.cells #[.slice ov ([] : List Sc).length cv] 25)) (.inl rfl))
    clear hb1 hbx hn g1
    go_wp2_with fail
    refine C2.out.mono ?_
    rintro e w2 ⟨v, hs, rfl, hO, hb2⟩
    obtain ⟨ov2, cv2, rfl, -⟩ := hO.holds
    have HO := Lib.hid (hO.lower HB1.out.size)
    have HB2 := Lib.hid (HB1.out.trans (hb2.mono HB1.out.size))
    have HR3b := Lib.hid (HR3a.out.below hb2 HR3a.out.lt)
    have m0 := HR3b.out.cell (i := 0) (v := .slice none 0 0) (by rfl)
    have l0 := HR3b.out.frozen 0
    clear hO hb2 RX
    go_wp2
    have RT := HR3b.out.set 0 (.slice ov2 ([] : List Sc).length cv2)
    have d0 := RT.cell (i := 0) (v := .slice ov2 ([] : List Sc).length cv2) (by rfl)
    refine bodyPost_ret (v := .tuple #[.agg #[.slice ov2 ([] : List Sc).length cv2], .bool false]) (by simp [results, Tryd.results25, go_sem] at d0 ⊢; simp [d0]) rfl (.inl ⟨HN.out, _, hs, rfl, ?_, HB2.out.setCell (by simp) _⟩)
    exact ⟨HO.out.len, ownsRow_otherN HO.out.row HR3b.out (by decide) 0 _, fun k t z h1 h2 => ownsRow_otherN (HO.out.items k t z h1 h2) HR3b.out (by decide) 0 _, HO.out.apart⟩
  · obtain ⟨tt, htt⟩ : ∃ tt, frsG ss = tt := ⟨_, rfl⟩
    have hlt : tt.length ≤ 1048576 := by rw [← htt]; exact (frsOk.fair HF.out hh).count
    have hle : ∀ s ∈ tt, s.items.length < 1048576 := by
      rw [← htt]
      exact fun s hs => by have := hh.valid.five s hs; omega
    rw [htt] at hho ⊢
    have hbx := hb1.trans ((Below.refl w1.heap.size w1).alloc (Nat.le_refl _) (.cells #[.slice ov tt.length cv] 25) |>.mono hb1.size)
    have HB1 := Lib.hid (HB.out.trans (hbx.mono HB.out.size))
    have HR3a := Lib.hid (HR3.out.below hbx HR3.out.lt)
    have RX := (Row.new w1 [.slice ov tt.length cv] 25).cell (i := 0) (by rfl)
    have HH := Lib.hid hh
    have C2 := Lib.hid (ownGraph_any tt ov cv hlt hle (w1.alloc (.cells #[.slice ov tt.length cv] 25)) (hho.below ((Below.refl _ _).alloc (Nat.le_refl _) _) (Nat.le_refl _)))
    have HTT := Lib.hid htt
    clear hb1 hbx hh hho hle g1 htt hlt
    go_wp2_with fail
    refine C2.out.mono ?_
    rintro e w2 ⟨v, hs, rfl, hO, hb2⟩
    obtain ⟨ov2, cv2, rfl, -⟩ := hO.holds
    have HO := Lib.hid (hO.lower HB1.out.size)
    have HB2 := Lib.hid (HB1.out.trans (hb2.mono HB1.out.size))
    have HR3b := Lib.hid (HR3a.out.below hb2 HR3a.out.lt)
    have m0 := HR3b.out.cell (i := 0) (v := .slice none 0 0) (by rfl)
    have l0 := HR3b.out.frozen 0
    clear hO hb2 RX
    go_wp2
    have RT := HR3b.out.set 0 (.slice ov2 tt.length cv2)
    have d0 := RT.cell (i := 0) (v := .slice ov2 tt.length cv2) (by rfl)
    refine bodyPost_ret (v := .tuple #[.agg #[.slice ov2 tt.length cv2], .bool true]) (by simp [results, Tryd.results25, go_sem, d0]) rfl (.inr ⟨HH.out, _, hs, rfl, ?_, HB2.out.setCell (by simp) _⟩)
    rw [HTT.out]
    exact ⟨HO.out.len, ownsRow_otherN HO.out.row HR3b.out (by decide) 0 _, fun k t z h1 h2 => ownsRow_otherN (HO.out.items k t z h1 h2) HR3b.out (by decide) 0 _, HO.out.apart⟩
end Go.Proofs.YtdmaaneilfjfcaaDoor
