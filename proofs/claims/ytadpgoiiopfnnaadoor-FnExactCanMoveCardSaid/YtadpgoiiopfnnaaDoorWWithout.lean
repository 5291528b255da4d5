/-
  The walks of impl's (Graph).without and RemoveItem. Conditions: the argument's memory holds the graph; the package-level errors hold errors.
-/
import Derived.Test.YtadpgoiiopfnnaaDoorWDelete
import Derived.Test.YtadpgoiiopfnnaaDoorWItemAt
namespace Go.Proofs.YtadpgoiiopfnnaaDoor
open Go Go.RowKit
theorem scRow_rmv : ∀ {ss : List Sc} {hs : List Value} (i j : Nat) (u : Value), hs.length = ss.length → i < ss.length → scRow (rmvP ss i j) (hs.set i u) = (scRow ss hs).set (i * 2 + 1) u
  | [], _, i, _, _, _, h => absurd h (Nat.not_lt_zero i)
  | s :: r, v :: q, 0, j, u, _, _ => rfl
  | s :: r, v :: q, i + 1, j, u, h, hi => by
    have h1 := scRow_rmv (ss := r) (hs := q) i j u (by simpa using h) (by simpa using hi)
    rw [show (i + 1) * 2 + 1 = i * 2 + 1 + 1 + 1 by omega]
    show Value.int .i64 s.parent :: v :: scRow (rmvP r i j) (q.set i u) = _
    rw [h1]
    rfl
theorem ownsRow_row {w : World} {B g n cap size : Nat} {e : TypeId} {xs : List Value} (h : w.ownsRow B e size (.slice (some ⟨g, 0, none⟩) n cap) n xs) : ∃ vs, Row w g e vs := by
  obtain ⟨_, h2 | ⟨g', c, cur, hv, _, hh, _⟩⟩ := h
  · have := h2.1
    simp at this
  · simp only [Value.slice.injEq, Option.some.injEq, Addr.mk.injEq] at hv
    obtain ⟨⟨rfl, -, -⟩, -, -⟩ := hv
    exact ⟨cur.toList, by unfold Row; rw [hh]⟩
/-- A graph of the call's own, when the items of one scope have turned where they lay. -/
theorem OwnGr.rmv {w w1 : World} {B g cap i j : Nat} {ss : List Sc} {hs : List Value} {s : Sc} {u u' : Value} (h : OwnGr w B (.slice (some ⟨g, 0, none⟩) ss.length cap) ss hs) (hs' : ss[i]? = some s) (hu : hs[i]? = some u)
    (hg : w.grownBy w1 u.ownBlock) (hb : u'.ownBlock = u.ownBlock) (hown : w1.ownsRow B 65 3 u' (s.items.eraseIdx j).length (itemCells (s.items.eraseIdx j))) :
    OwnGr (w1.setCell ⟨g, i * 2 + 1, none⟩ u') B (.slice (some ⟨g, 0, none⟩) ss.length cap) (rmvP ss i j) (hs.set i u') := by
  have hil := (List.getElem?_eq_some_iff.1 hs').1
  have hrow1 := ownsRow_apart h.row hg (owns_types_apart h.row (h.items i s u hs' hu) (by decide))
  obtain ⟨vs, hR⟩ := ownsRow_row hrow1
  have hat : ∀ (k : Nat) (z : Value), (hs.set i u')[k]? = some z → (k = i ∧ z = u') ∨ (k ≠ i ∧ hs[k]? = some z) := fun k z hz => by
    by_cases hk : k = i
    · subst hk
      rw [List.getElem?_set_self (List.getElem?_eq_some_iff.1 hu).1] at hz
      exact .inl ⟨rfl, (Option.some.inj hz).symm⟩
    · rw [List.getElem?_set_ne (fun e => hk e.symm)] at hz
      exact .inr ⟨hk, hz⟩
  refine ⟨by rw [List.length_set, rmvP_length]; exact h.len, ?_, fun k t z ht hz => ?_, fun a b z z' hab hz hz' => ?_⟩
  · rw [rmvP_length, scRow_rmv i j u' h.len hil]
    exact ownsRow_set hrow1 (by rw [scRow_length h.len]; omega) u'
  · rcases hat k z hz with ⟨rfl, rfl⟩ | ⟨hk, hz2⟩
    · rw [rmvP_same hs'] at ht
      obtain rfl := Option.some.inj ht
      exact ownsRow_otherN hown hR (by decide) _ _
    · rw [rmvP_other hk] at ht
      exact ownsRow_otherN (ownsRow_apart (h.items k t z ht hz2) hg (h.apart k i z u hk hz2 hu)) hR (by decide) _ _
  · rcases hat a z hz with ⟨rfl, rfl⟩ | ⟨ha, hz2⟩ <;> rcases hat b z' hz' with ⟨rfl, rfl⟩ | ⟨hb2, hz3⟩
    · exact absurd rfl hab
    · rw [hb]; exact h.apart a b u z' hab hu hz3
    · rw [hb]; exact h.apart a b z u hab hz2 hu
    · exact h.apart a b z z' hab hz2 hz3
theorem cell_grownBy {w w' : World} {r : Option Nat} {b o : Nat} {v : Value} (hg : w.grownBy w' r) (hne : some b ≠ r) (h : w.cell? ⟨b, o, none⟩ = some v) : w'.cell? ⟨b, o, none⟩ = some v := hg.cell h hne
/-- What is known of a graph in a box. -/
structure GrIn (w : World) (B g gs cs : Nat) (us : List Sc) (hs : List Value) : Prop where
  row : Row w g 30 [.slice (some ⟨gs, 0, none⟩) us.length cs]
  own : OwnGr w B (.slice (some ⟨gs, 0, none⟩) us.length cs) us hs
theorem GrIn.slot {w : World} {B g gs cs : Nat} {us : List Sc} {hs : List Value} (h : GrIn w B g gs cs us hs) {i : Nat} {s : Sc} (hs' : us[i]? = some s) :
    ∃ u, hs[i]? = some u ∧ B ≤ gs ∧ gs < w.heap.size ∧ w.cell? ⟨gs, i * 2 + 1, none⟩ = some u ∧ w.ownsRow B 65 3 u s.items.length (itemCells s.items) := by
  have hil := (List.getElem?_eq_some_iff.1 hs').1
  obtain ⟨u, hu⟩ : ∃ u, hs[i]? = some u := ⟨_, List.getElem?_eq_getElem (by rw [h.own.len]; exact hil)⟩
  have h1 := h.own.row
  have h3 := h1.cells (g := gs) rfl _ _ (scRow_at hs' hu).2
  rw [Addr.add_lit, Nat.zero_add] at h3
  exact ⟨u, hu, (h1.lt gs rfl).1, (h1.lt gs rfl).2, h3, h.own.items i s u hs' hu⟩
theorem GrIn.apartI {w : World} {B g gs cs : Nat} {us : List Sc} {hs : List Value} (h : GrIn w B g gs cs us hs) {i : Nat} {s : Sc} {u : Value} (hs' : us[i]? = some s) (hu : hs[i]? = some u) : some gs ≠ u.ownBlock := by
  have h1 := h.own.row
  have h2 := h.own.items i s u hs' hu
  rcases owns_types_apart h1 h2 (by decide) with h | h
  · simp [Value.ownBlock] at h
  · exact h
theorem GrIn.apartG {w : World} {B g gs cs : Nat} {us : List Sc} {hs : List Value} (h : GrIn w B g gs cs us hs) : gs ≠ g := by
  obtain ⟨vs, h1⟩ := ownsRow_row h.own.row
  rintro rfl
  have h2 := h.row
  unfold Row at h1 h2
  rw [h1] at h2
  simp at h2
theorem GrIn.apartB {w : World} {B g gs cs : Nat} {us : List Sc} {hs : List Value} (h : GrIn w B g gs cs us hs) {i : Nat} {s : Sc} {u : Value} (hs' : us[i]? = some s) (hu : hs[i]? = some u) : some g ≠ u.ownBlock := by
  obtain ⟨_, h2 | ⟨g', c, cur, hv, hB, hh, _⟩⟩ := h.own.items i s u hs' hu
  · rw [h2.1]; simp [Value.ownBlock]
  · rw [hv]
    intro e
    simp only [Value.ownBlock, Option.some.injEq] at e
    subst e
    have h3 := h.row
    unfold Row at h3
    rw [hh] at h3
    simp at h3
theorem GrIn.below {w w' : World} {B g gs cs : Nat} {us : List Sc} {hs : List Value} (h : GrIn w B g gs cs us hs) (hb : Below w.heap.size w w') : GrIn w' B g gs cs us hs := ⟨h.row.below hb h.row.lt, h.own.below hb⟩
set_option maxRecDepth 100000 in
set_option maxHeartbeats 4000000 in
theorem take_any (us : List Sc) (hs : List Value) (_hn : us.length ≤ 1048576) (hn2 : ∀ s ∈ us, s.items.length ≤ 1048576) (B g gs cs i j : Nat) (s : Sc) (x : It) (hs' : us[i]? = some s) (hx : s.items[j]? = some x) (w : World) (hG : GrIn w B g gs cs us hs) (hB : B ≤ w.heap.size) :
    Calls Tryd.prog 103 #[.pointer (some ⟨g, 0, none⟩), .agg #[.int .i64 (i : Int), .int .i64 (j : Int)]] w fun e w' => (∃ v, e = .returned v) ∧ ∃ hs', GrIn w' B g gs cs (rmvP us i j) hs' ∧ Below B w w' := by
  have hb0 : Below w.heap.size w (w.alloc (.cells #[.int .i64 (i : Int), .int .i64 (j : Int)] 34)).drew.drew := ((Below.refl _ _).alloc (Nat.le_refl _) _).drew.drew
  have R2 := ((Row.new w [.int .i64 (i : Int), .int .i64 (j : Int)] 34).drew).drew
  have R1 := hG.row.below hb0 hG.row.lt
  have hil := (List.getElem?_eq_some_iff.1 hs').1
  have hjl := (List.getElem?_eq_some_iff.1 hx).1
  have hml := hn2 s (List.mem_of_getElem? hs')
  obtain ⟨u, hu, hgB, hgl, hcell, hown⟩ := hG.slot hs'
  have hne1 := hG.apartI hs' hu
  have hneG := hG.apartB hs' hu
  have hgg := hG.apartG
  obtain ⟨gi, ci, rfl, hgi⟩ : ∃ gi ci, u = .slice (some ⟨gi, 0, none⟩) s.items.length ci ∧ B ≤ gi := by
    obtain ⟨hl, h2 | ⟨g, c, cur, hv, hB, hh, _⟩⟩ := hown
    · have := h2.2; omega
    · exact ⟨g, c, hv, hB⟩
  have hgl2 : gi < w.heap.size := (hown.lt gi rfl).2
  obtain ⟨n, hn1⟩ : ∃ n, s.items.length = n + 1 := ⟨s.items.length - 1, by omega⟩
  have k0 : (w.alloc (.cells #[.int .i64 (i : Int), .int .i64 (j : Int)] 34)).drew.drew.cell? ⟨w.heap.size, 0, none⟩ = some (.int .i64 (i : Int)) := R2.cell (i := 0) (by rfl)
  have k1 : (w.alloc (.cells #[.int .i64 (i : Int), .int .i64 (j : Int)] 34)).drew.drew.cell? ⟨w.heap.size, 1, none⟩ = some (.int .i64 (j : Int)) := R2.cell (i := 1) (by rfl)
  have k0' : (w.alloc (.cells #[.int .i64 (i : Int), .int .i64 (j : Int)] 34)).drew.cell? ⟨w.heap.size, 0, none⟩ = some (.int .i64 (i : Int)) := k0
  have hh0' : (w.alloc (.cells #[.int .i64 (i : Int), .int .i64 (j : Int)] 34)).drew.cell? ⟨g, 0, none⟩ = some (.slice (some ⟨gs, 0, none⟩) us.length cs) := R1.cell (i := 0) (by rfl)
  have u1 := cell_grow hb0 hcell
  have hOW : (w.alloc (.cells #[.int .i64 (i : Int), .int .i64 (j : Int)] 34)).drew.drew.ownsRow B 65 3 (.slice (some ⟨gi, 0, none⟩) (n + 1) ci) (n + 1) (itemCells s.items) := by
    have h1 := hown
    rw [hn1] at h1
    exact ownsRow_below h1 hb0
  have D := Lib.hid ((callsIn_wide (n := 5)).2 (delete_any gi ci n j B s.items hn1 (by omega) _ hOW))
  rw [hn1] at u1
  have hi0 : (0 : Int) ≤ (i : Int) := by omega
  have hjw : IntKind.i64.wrap ((j : Int) + 1) = (j : Int) + 1 := IntWalk.i64_in _ (by omega)
  have hi1 : (i : Int) < (us.length : Int) := by omega
  have HN := Lib.hid hn1
  have HJ := Lib.hid hjl
  have HS := Lib.hid hs'
  have HU := Lib.hid hu
  have HG := Lib.hid (hG.below hb0)
  have HB := Lib.hid hb0
  have HR2 := Lib.hid R2
  have HLT := Lib.hid (And.intro hgl (And.intro hgl2 (And.intro hgB (And.intro hgi (And.intro hB (And.intro hne1 (And.intro hneG hgg)))))))
  clear hG hu hcell hown hb0 hOW hgB hgi hgl hgl2 hjl hn1 hn2 hs' hx hB R1 R2 hne1 hneG hgg
  go_enter Tryd.func103, Tryd.ntmps103
  go_wp2
  go_region
  all_goals go_wp2
  refine wp_region_kept (S := fun w' => w'.cell? ⟨gs, i * 2 + 1, none⟩ = some (.slice (some ⟨gi, 0, none⟩) (n + 1) ci) ∧ w'.cell? ⟨w.heap.size, 1, none⟩ = some (.int .i64 (j : Int))) 13 (by kernel_rfl) ?_
  have hS0 := And.intro u1 k1
  refine KeptAny.take (i := 0) (v := ?_) (by kernel_rfl) rfl rfl (by kernel_rfl) (by kernel_rfl) (by kernel_rfl) (fun _ _ _ h => h) (by rfl) (fun w' hw' => ?_) (fun _ => rfl) hS0 ?_
  rotate_left
  · (obtain ⟨g0, g1⟩ := hw'; go_simp; try with_reducible rfl)
  refine KeptAny.take (i := 1) (v := ?_) (by kernel_rfl) rfl rfl (by kernel_rfl) (by kernel_rfl) (by kernel_rfl) (fun _ _ _ h => h) (by rfl) (fun w' hw' => ?_) (fun _ => rfl) hS0 ?_
  rotate_left
  · (obtain ⟨g0, g1⟩ := hw'; go_simp; try with_reducible rfl)
  refine KeptAny.take (i := 2) (v := ?_) (by kernel_rfl) rfl rfl (by kernel_rfl) (by kernel_rfl) (by kernel_rfl) (fun _ _ _ h => h) (by rfl) (fun w' hw' => ?_) (fun _ => rfl) hS0 ?_
  rotate_left
  · (obtain ⟨g0, g1⟩ := hw'; go_simp; try with_reducible rfl)
  refine KeptAny.take (i := 3) (v := ?_) (by kernel_rfl) rfl rfl (by kernel_rfl) (by kernel_rfl) (by kernel_rfl) (fun _ _ _ h => h) (by rfl) (fun w' hw' => ?_) (fun _ => rfl) hS0 ?_
  rotate_left
  · (obtain ⟨g0, g1⟩ := hw'; go_simp; try with_reducible rfl)
  refine KeptAny.take (i := 4) (v := ?_) (by kernel_rfl) rfl rfl (by kernel_rfl) (by kernel_rfl) (by kernel_rfl) (fun _ _ _ h => h) (by rfl) (fun w' hw' => ?_) (fun _ => rfl) hS0 ?_
  rotate_left
  · (obtain ⟨g0, g1⟩ := hw'; go_simp; try with_reducible rfl)
  refine KeptAny.take (i := 5) (v := ?_) (by kernel_rfl) rfl rfl (by kernel_rfl) (by kernel_rfl) (by kernel_rfl) (fun _ _ _ h => h) (by rfl) (fun w' hw' => ?_) (fun _ => rfl) hS0 ?_
  rotate_left
  · (obtain ⟨g0, g1⟩ := hw'; go_simp; try with_reducible rfl)
  refine KeptAny.take (i := 6) (v := ?_) (by kernel_rfl) rfl rfl (by kernel_rfl) (by kernel_rfl) (by kernel_rfl) (fun _ _ _ h => h) (by rfl) (fun w' hw' => ?_) (fun _ => rfl) hS0 ?_
  rotate_left
  · (obtain ⟨g0, g1⟩ := hw'; go_simp; try with_reducible rfl)
  refine KeptAny.take (i := 7) (v := ?_) (by kernel_rfl) rfl rfl (by kernel_rfl) (by kernel_rfl) (by kernel_rfl) (fun _ _ _ h => h) (by rfl) (fun w' hw' => ?_) (fun _ => rfl) hS0 ?_
  rotate_left
  · (obtain ⟨g0, g1⟩ := hw'; go_simp; try with_reducible rfl)
  refine KeptAny.take (i := 8) (v := ?_) (by kernel_rfl) rfl rfl (by kernel_rfl) (by kernel_rfl) (by kernel_rfl) (fun _ _ _ h => h) (by rfl) (fun w' hw' => ?_) (fun _ => rfl) hS0 ?_
  rotate_left
  · (obtain ⟨g0, g1⟩ := hw'; go_simp; try with_reducible rfl)
  refine KeptAny.take (i := 9) (v := ?_) (by kernel_rfl) rfl rfl (by kernel_rfl) (by kernel_rfl) (by kernel_rfl) (fun _ _ _ h => h) (by rfl) (fun w' hw' => ?_) (fun _ => rfl) hS0 ?_
  rotate_left
  · (obtain ⟨g0, g1⟩ := hw'; go_simp; try with_reducible rfl)
  refine KeptAny.one (i := 10) (by kernel_rfl) rfl (by rfl) (fun K hK => ?_)
  go_simp
  refine ⟨trivial, ?_⟩
  refine D.out.mono ?_
  rintro e w4 ⟨rfl, hown4, hg4⟩
  have hne2 : some w.heap.size ≠ some gi := by have := HLT.out; intro e; have := Option.some.inj e; omega
  have hS4 := And.intro (cell_grownBy hg4 HLT.out.2.2.2.2.2.1 hS0.1) (cell_grownBy hg4 hne2 hS0.2)
  have RH4 := Lib.hid (HG.out.row.grown hg4 HLT.out.2.2.2.2.2.2.1)
  have HG4 : Hid (OwnGr (w4.setCell ⟨gs, i * 2 + 1, none⟩ (.slice (some ⟨gi, 0, none⟩) n ci)) B (.slice (some ⟨gs, 0, none⟩) us.length cs) (rmvP us i j) (hs.set i (.slice (some ⟨gi, 0, none⟩) n ci))) := Lib.hid (by
    refine OwnGr.rmv HG.out.own HS.out HU.out hg4 rfl ?_
    rw [show (s.items.eraseIdx j).length = n by rw [List.length_eraseIdx, if_pos HJ.out, HN.out]; rfl]
    exact hown4)
  obtain ⟨vs4, hRS⟩ : ∃ vs, Row w4 gs 90 vs := by
    obtain ⟨vs, h1⟩ := ownsRow_row HG.out.own.row
    exact ⟨vs, h1.grown hg4 HLT.out.2.2.2.2.2.1⟩
  have f4 := hRS.frozen (i * 2 + 1)
  have HB4 := Lib.hid ((HB.out.mono HLT.out.2.2.2.2.1).trans (below_grown1 hg4 (Nat.le_trans HLT.out.2.2.2.2.1 HB.out.size) (fun g e => by have h9 := HLT.out; simp only [Option.some.injEq] at e; omega)))
  clear hown4 hg4 hS0 u1 k1 k0 k0' hh0' hRS
  refine hK.out _ _ hS4 (fun _ => ?_)
  clear hK
  refine KeptAny.one (i := 11) (by kernel_rfl) rfl (by rfl) (fun K hK => ?_)
  go_simp
  refine hK.out _ _ hS4 (fun _ => ?_)
  clear hK
  refine KeptAny.one (i := 12) (by kernel_rfl) rfl (by rfl) (fun K hK => ?_)
  go_simp
  refine hK.out _ _ hS4 (fun _ => ?_)
  clear hK
  have us4 := hS4.1
  clear hS4
  refine KeptAny.last (by kernel_rfl) rfl (by rfl) (fun K hK => ?_)
  go_simp
  refine hK.out _ _ ?_
  clear hK
  refine KeptAny.done (by kernel_rfl) ?_ _
  have hB5 := Lib.hid (HB4.out.setCell (p := ⟨gs, i * 2 + 1, none⟩) (by have := HLT.out; show B ≤ gs; omega) (.slice (some ⟨gi, 0, none⟩) n ci))
  have r0 := Lib.hid (RH4.out.other (a := ⟨gs, i * 2 + 1, none⟩) (HLT.out.2.2.2.2.2.2.2) (.slice (some ⟨gi, 0, none⟩) n ci))
  clear us4 f4
  generalize w4.setCell ⟨gs, i * 2 + 1, none⟩ (.slice (some ⟨gi, 0, none⟩) n ci) = w5 at *
  go_wp2
  go_end0
  refine ⟨⟨_, rfl⟩, hs.set i (.slice (some ⟨gi, 0, none⟩) n ci), ⟨?_, ?_⟩, hB5.out⟩
  · rw [rmvP_length]; exact r0.out
  · rw [rmvP_length]; exact HG4.out
set_option maxRecDepth 100000 in
set_option maxHeartbeats 4000000 in
theorem without_any (ss : List Sc) (hF : Fair ss) (oa : Option Addr) (cap i j : Nat) (s : Sc) (x : It) (hs' : ss[i]? = some s) (hx : s.items[j]? = some x) (w : World) (hc : HoldsScopes w oa ss) :
    Calls Tryd.prog 63 #[.agg #[.slice oa ss.length cap], .agg #[.int .i64 (i : Int), .int .i64 (j : Int)]] w fun e w' => ∃ v hs, e = .returned (.agg #[v]) ∧ OwnGr w' w.heap.size v (rmvP ss i j) hs ∧ Below w.heap.size w w' := by
  have hb0 : Below w.heap.size w (((w.alloc (.cells #[.slice oa ss.length cap] 30)).alloc (.cells #[.int .i64 (i : Int), .int .i64 (j : Int)] 34)).alloc (.cells #[.slice none 0 0] 30)) := (((Below.refl _ _).alloc (Nat.le_refl _) _).alloc (by simp) _).alloc (by simp; omega) _
  have R1 := ((Row.new w [.slice oa ss.length cap] 30).alloc (.cells #[.int .i64 (i : Int), .int .i64 (j : Int)] 34)).alloc (.cells #[.slice none 0 0] 30)
  have R2 := (Row.new (w.alloc (.cells #[.slice oa ss.length cap] 30)) [.int .i64 (i : Int), .int .i64 (j : Int)] 34).alloc (.cells #[.slice none 0 0] 30)
  have R3 := Row.new ((w.alloc (.cells #[.slice oa ss.length cap] 30)).alloc (.cells #[.int .i64 (i : Int), .int .i64 (j : Int)] 34)) [.slice none 0 0] 30
  rw [World.size_alloc] at R2
  rw [World.size_alloc, World.size_alloc] at R3
  have C := Lib.hid (implClone_any ss oa cap hF.count (fun t ht => by have := hF.items t ht; omega) _ (hc.below hb0 (Nat.le_refl _)))
  have HB := Lib.hid hb0
  have HR2 := Lib.hid R2
  have HR3 := Lib.hid R3
  have hil := (List.getElem?_eq_some_iff.1 hs').1
  have HS := Lib.hid (And.intro hs' hx)
  have HF := Lib.hid hF
  have g1 := R1.cell (i := 0) (by rfl)
  have hsz0 : Hid ((((w.alloc (.cells #[.slice oa ss.length cap] 30)).alloc (.cells #[.int .i64 (i : Int), .int .i64 (j : Int)] 34)).alloc (.cells #[.slice none 0 0] 30)).heap.size = w.heap.size + 3) := Lib.hid (by simp)
  clear hF hc hb0 R1 R2 R3 hs' hx
  go_enter Tryd.func63, Tryd.ntmps63
  go_wp2_with fail
  refine C.out.mono ?_
  rintro e w1 ⟨v, hs, rfl, hO, hb1⟩
  obtain ⟨gs, cs, rfl⟩ : ∃ gs cs, v = .slice (some ⟨gs, 0, none⟩) ss.length cs := by
    obtain ⟨hl, h2 | ⟨g, c, cur, hv, hB, hh, _⟩⟩ := hO.row
    · have := h2.2; omega
    · exact ⟨g, c, hv⟩
  have hbA := (Below.refl w1.heap.size w1).alloc (Nat.le_refl _) (.cells #[.slice (some ⟨gs, 0, none⟩) ss.length cs] 30)
  have HB1 := Lib.hid (HB.out.trans ((hb1.trans (hbA.mono hb1.size)).mono HB.out.size))
  have HO := Lib.hid (hO.below hbA)
  have HR2a := Lib.hid (HR2.out.below (hb1.trans (hbA.mono hb1.size)) HR2.out.lt)
  have HR3a := Lib.hid (HR3.out.below (hb1.trans (hbA.mono hb1.size)) HR3.out.lt)
  have RH := Lib.hid (Row.new w1 [.slice (some ⟨gs, 0, none⟩) ss.length cs] 30)
  have hsB : w.heap.size + 3 ≤ w1.heap.size := by have := hb1.size; rw [hsz0.out] at this; exact this
  have hGI : GrIn (w1.alloc (.cells #[.slice (some ⟨gs, 0, none⟩) ss.length cs] 30)) (w.heap.size + 3) w1.heap.size gs cs ss hs := ⟨RH.out, by have h := HO.out; rw [hsz0.out] at h; exact h⟩
  have T := Lib.hid (take_any ss hs HF.out.count (fun t ht => HF.out.items t ht) (w.heap.size + 3) w1.heap.size gs cs i j s x HS.out.1 HS.out.2 _ hGI (by simp; omega))
  have k0 := HR2a.out.cell (i := 0) (v := .int .i64 (i : Int)) (by rfl)
  have k1 := HR2a.out.cell (i := 1) (v := .int .i64 (j : Int)) (by rfl)
  have HSB := Lib.hid hsB
  clear hO hb1 hbA g1 hGI hsB
  go_wp2_with fail
  refine T.out.mono ?_
  rintro e w2 ⟨⟨v2, rfl⟩, hs2, hG2, hb2⟩
  have HB2 := Lib.hid (HB1.out.trans (hb2.mono (by omega)))
  have RR := Lib.hid (HR3a.out.below hb2 (by omega))
  have HG2 := Lib.hid hG2
  have r0 := hG2.row.cell (i := 0) (by rfl)
  have n0 := RR.out.cell (i := 0) (v := .slice none 0 0) (by rfl)
  have f0 := RR.out.frozen 0
  clear hG2 hb2 k0 k1
  go_wp2
  have RT := RR.out.set 0 (.slice (some ⟨gs, 0, none⟩) (rmvP ss i j).length cs)
  have d0 := RT.cell (i := 0) (v := .slice (some ⟨gs, 0, none⟩) (rmvP ss i j).length cs) (by rfl)
  refine bodyPost_ret (v := .agg #[.slice (some ⟨gs, 0, none⟩) (rmvP ss i j).length cs]) (by simp [results, Tryd.results63, go_sem, d0]) rfl ⟨_, hs2, rfl, ?_, HB2.out.setCell (by simp; omega) _⟩
  refine OwnGr.lower (B := w.heap.size + 3) ?_ (by omega)
  exact ⟨HG2.out.own.len, ownsRow_otherN HG2.out.own.row RR.out (by decide) 0 _, fun k t z h1 h2 => ownsRow_otherN (HG2.out.own.items k t z h1 h2) RR.out (by decide) 0 _, HG2.out.own.apart⟩
end Go.Proofs.YtadpgoiiopfnnaaDoor
