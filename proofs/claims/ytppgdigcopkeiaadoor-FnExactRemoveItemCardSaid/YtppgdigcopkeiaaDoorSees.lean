/-
  The declarations that are seen from a scope, as plain data; the walks of the given l5In, l5Sees and SeenFrom. Condition: the argument's memory holds the graph.
-/
import Derived.Test.YtppgdigcopkeiaaDoorVis
import Derived.Test.YtppgdigcopkeiaaDoorMean
import Derived.Test.YtppgdigcopkeiaaDoorWSpecLook
import Derived.Test.YtppgdigcopkeiaaDoorRegionRound
import Derived.Maps.AppendAt
namespace Go.Proofs.YtppgdigcopkeiaaDoor
open Go Go.RowKit
def plOf (q : Nat × Nat × It) : Int × Int := ((q.1 : Int), (q.2.1 : Int))
/-- The places of those that pass a test. -/
def filtL (f : Nat × Nat × It → Bool) (l : List (Nat × Nat × It)) : List (Int × Int) := (l.filter f).map plOf
theorem filtL_snoc (f : Nat × Nat × It → Bool) (l : List (Nat × Nat × It)) (q : Nat × Nat × It) : filtL f (l ++ [q]) = filtL f l ++ if f q = true then [plOf q] else [] := by
  unfold filtL
  rw [List.filter_append, List.map_append]
  congr 1
  cases h : f q <;> simp [h]
theorem filtL_length (f : Nat × Nat × It → Bool) (l : List (Nat × Nat × It)) : (filtL f l).length ≤ l.length := by
  unfold filtL
  rw [List.length_map]
  exact List.length_filter_le _ _
theorem filtL_decls {f : Nat × Nat × It → Bool} (h : ∀ q, f q = true → q.2.2.kind = 1) (ss : List Sc) : filtL f (declsP ss) = filtL f (placed 0 ss) := by
  unfold filtL declsP
  rw [List.filter_filter]
  congr 1
  apply List.filter_congr
  intro q _
  cases hq : f q
  · simp
  · simp [h q hq]
/-- Is a declaration found by its name from a scope? -/
def foundB (ss : List Sc) (s : Nat) (q : Nat × Nat × It) : Bool := decide (plOf q ∈ (lookP ss s q.2.2.name).places)
def seesB (ss : List Sc) (s : Nat) (q : Nat × Nat × It) : Bool := q.2.2.kind == 1 && foundB ss s q
def hidB (ss : List Sc) (s : Nat) (q : Nat × Nat × It) : Bool := q.2.2.kind == 1 && (decide (q.1 ∈ chainP ss s) && !foundB ss s q)
theorem sees_kind {ss : List Sc} {s : Nat} : ∀ q, seesB ss s q = true → q.2.2.kind = 1 := fun q h => by
  unfold seesB at h
  simp only [Bool.and_eq_true, beq_iff_eq] at h
  exact h.1
theorem hid_kind {ss : List Sc} {s : Nat} : ∀ q, hidB ss s q = true → q.2.2.kind = 1 := fun q h => by
  unfold hidB at h
  simp only [Bool.and_eq_true, beq_iff_eq] at h
  exact h.1
theorem decl_kind {ss : List Sc} {q : Nat × Nat × It} (h : q ∈ declsP ss) : q ∈ placed 0 ss ∧ q.2.2.kind = 1 := by
  unfold declsP at h
  rw [List.mem_filter, beq_iff_eq] at h
  exact h
theorem declsP_map (ss : List Sc) : plsP ss 1 = (declsP ss).map plOf := rfl
end Go.Proofs.YtppgdigcopkeiaaDoor
namespace Go.Proofs.YtppgdigcopkeiaaDoor
open Go Go.RowKit
set_option maxRecDepth 100000 in
set_option maxHeartbeats 1600000 in
theorem l5In_any (ps : List (Int × Int)) (oa : Option Addr) (cap : Nat) (a b : Int) (w : World) (hn : ps.length ≤ 1000000) (ha : ArgPlaces w oa ps) :
    Calls Tryd.prog 134 #[.slice oa ps.length cap, .agg #[.int .i64 a, .int .i64 b]] w fun e w' => e = .returned (.bool (decide ((a, b) ∈ ps))) ∧ Below w.heap.size w w' := by
  have hb0 := (Below.refl w.heap.size w).alloc (Nat.le_refl _) (.cells #[.int .i64 a, .int .i64 b] 34)
  have RP := Lib.hid (Row.new w [.int .i64 a, .int .i64 b] 34)
  have HB0 := Lib.hid hb0
  have HA := Lib.hid ha
  clear hb0 ha
  go_enter Tryd.func134, Tryd.ntmps134
  go_wp2
  go_loopw [9] (fun i wr => ∃ k : Nat, i = .int .i64 k ∧ k ≤ ps.length ∧ Hid ((a, b) ∉ ps.take k) ∧ Hid (Below w.heap.size w wr ∧ Row wr w.heap.size 34 [.int .i64 a, .int .i64 b])) (fun i _ => ps.length - (intOf i).toNat)
  case atStart => exact ⟨0, rfl, Nat.zero_le _, Lib.hid (by simp), Lib.hid ⟨HB0.out, RP.out⟩⟩
  case round =>
    obtain ⟨k, rfl, hk, HN, HW⟩ := hrel
    by_cases hlt : k < ps.length
    · obtain ⟨p, hp⟩ : ∃ p, ps[k]? = some p := ⟨_, List.getElem?_eq_getElem hlt⟩
      obtain ⟨c, d⟩ := p
      obtain ⟨b1, f1, rfl, hb1, q1⟩ := (HA.out.below HW.out.1).at (by omega)
      obtain ⟨c0, c1⟩ := q1 k _ hp
      have HM := Lib.hid hp
      have hbP := (Below.refl wr.heap.size wr).alloc (Nat.le_refl _) (.cells #[.int .i64 c, .int .i64 d] 34)
      have HW2 := Lib.hid (And.intro (HW.out.1.trans (hbP.mono HW.out.1.size)) (HW.out.2.below hbP HW.out.2.lt))
      have r0 := HW2.out.2.cell (i := 0) (v := .int .i64 a) (by rfl)
      have r1 := HW2.out.2.cell (i := 1) (v := .int .i64 b) (by rfl)
      dsimp only at c0 c1
      have HSN : Hid ((a, b) ≠ (c, d) → (a, b) ∉ ps.take (k + 1)) := Lib.hid (by
        intro h
        rw [List.take_add_one, hp]
        simp only [Option.toList_some, List.mem_append, List.mem_singleton, not_or]
        exact ⟨HN.out, h⟩)
      clear hp hbP q1 hb1
      by_cases h1 : c = a
      · subst h1
        by_cases h2 : d = b
        · subst h2
          have HD : Hid (decide ((c, d) ∈ ps) = true) := Lib.hid (decide_eq_true (List.mem_of_getElem? HM.out))
          go_wp2
          go_ret
          exact ⟨by rw [HD.out]; rfl, HW2.out.1⟩
        · have HNX := Lib.hid (HSN.out (fun e => h2 (Prod.mk.inj e).2.symm))
          go_wp2
          go_roundw
          case rel => exact ⟨k + 1, by go_num, by omega, HNX, HW2⟩
          case measure => simp only [intOf]; omega
      · have HNX := Lib.hid (HSN.out (fun e => h1 (Prod.mk.inj e).1.symm))
        go_wp2
        go_roundw
        case rel => exact ⟨k + 1, by go_num, by omega, HNX, HW2⟩
        case measure => simp only [intOf]; omega
    · obtain rfl : k = ps.length := by omega
      have HD : Hid (decide ((a, b) ∈ ps) = false) := Lib.hid (decide_eq_false (by have := HN.out; rwa [List.take_length] at this))
      go_wp2
      go_ret
      exact ⟨by rw [HD.out]; rfl, HW.out.1⟩
set_option maxRecDepth 100000 in
set_option maxHeartbeats 4000000 in
theorem l5Sees_any (ss : List Sc) (hv : Valid ss) (hf : FitsScopes ss) (oa : Option Addr) (cap : Nat) (s : Nat) (hs : s < ss.length) {i j : Nat} {x : It} (hq : (i, j, x) ∈ placed 0 ss) (w : World) (hc : HoldsScopes w oa ss) :
    Calls Tryd.prog 111 #[.agg #[.slice oa ss.length cap], .int .i64 (s : Int), .agg #[.int .i64 (i : Int), .int .i64 (j : Int)]] w fun e w' => e = .returned (.bool (foundB ss s (i, j, x))) ∧ Below w.heap.size w w' := by
  have hb0 : Below w.heap.size w ((w.alloc (.cells #[.slice oa ss.length cap] 30)).alloc (.cells #[.int .i64 (i : Int), .int .i64 (j : Int)] 34)) := ((Below.refl _ _).alloc (Nat.le_refl _) _).alloc (by simp) _
  have RG := (Row.new w [.slice oa ss.length cap] 30).alloc (.cells #[.int .i64 (i : Int), .int .i64 (j : Int)] 34)
  have RP := Row.new (w.alloc (.cells #[.slice oa ss.length cap] 30)) [.int .i64 (i : Int), .int .i64 (j : Int)] 34
  rw [World.size_alloc] at RP
  have s0 := RG.cell (i := 0) (v := .slice oa ss.length cap) (by rfl)
  have s1 := RP.cell (i := 0) (v := .int .i64 (i : Int)) (by rfl)
  have s2 := RP.cell (i := 1) (v := .int .i64 (j : Int)) (by rfl)
  have HB0 := Lib.hid hb0.drew
  have HC := Lib.hid hc
  have HF := Lib.hid hf
  have HV := Lib.hid hv
  have HS := Lib.hid hs
  obtain ⟨sc, hsc, hjx⟩ := placed_at hq
  have HSC := Lib.hid (And.intro hsc hjx)
  clear hc hf hv hs hb0 RG RP hsc hjx hq
  go_enter Tryd.func111, Tryd.ntmps111
  go_upto_region 1 with (fail)
  refine wp_region_kept (S := fun w' => w'.cell? ⟨w.heap.size, 0, none⟩ = some (.slice oa ss.length cap) ∧ w'.cell? ⟨w.heap.size + 1, 0, none⟩ = some (.int .i64 (i : Int)) ∧ w'.cell? ⟨w.heap.size + 1, 1, none⟩ = some (.int .i64 (j : Int))) 20 (by kernel_rfl) ?_
  have hS0 := And.intro (cell_drew s0) (And.intro (cell_drew s1) (cell_drew s2))
  refine KeptAny.take (i := 0) (v := ?_) (by kernel_rfl) rfl rfl (by kernel_rfl) (by kernel_rfl) (by kernel_rfl) (fun _ _ _ h => h) (by rfl) (fun w' hw' => ?_) (fun _ => rfl) hS0 ?_
  rotate_left
  · (obtain ⟨g0, g1, g2⟩ := hw'; go_simp; try with_reducible rfl)
  refine KeptAny.take (i := 1) (v := ?_) (by kernel_rfl) rfl rfl (by kernel_rfl) (by kernel_rfl) (by kernel_rfl) (fun _ _ _ h => h) (by rfl) (fun w' hw' => ?_) (fun _ => rfl) hS0 ?_
  rotate_left
  · (obtain ⟨g0, g1, g2⟩ := hw'; go_simp; try with_reducible rfl)
  refine KeptAny.take (i := 2) (v := ?_) (by kernel_rfl) rfl rfl (by kernel_rfl) (by kernel_rfl) (by kernel_rfl) (fun _ _ _ h => h) (by rfl) (fun w' hw' => ?_) (fun _ => rfl) hS0 ?_
  rotate_left
  · (obtain ⟨g0, g1, g2⟩ := hw'; go_simp; try with_reducible rfl)
  refine KeptAny.take (i := 3) (v := ?_) (by kernel_rfl) rfl rfl (by kernel_rfl) (by kernel_rfl) (by kernel_rfl) (fun _ _ _ h => h) (by rfl) (fun w' hw' => ?_) (fun _ => rfl) hS0 ?_
  rotate_left
  · (obtain ⟨g0, g1, g2⟩ := hw'; go_simp; try with_reducible rfl)
  refine KeptAny.take (i := 7) (v := ?_) (by kernel_rfl) rfl rfl (by kernel_rfl) (by kernel_rfl) (by kernel_rfl) (fun _ _ _ h => h) (by rfl) (fun w' hw' => ?_) (fun _ => rfl) hS0 ?_
  rotate_left
  · (obtain ⟨g0, g1, g2⟩ := hw'; go_simp; try with_reducible rfl)
  have HS0 := Lib.hid hS0
  clear hS0 s0 s1 s2
  refine KeptAny.one (i := 4) (by kernel_rfl) rfl (by rfl) (fun K hK => ?_)
  go_simp
  refine ⟨trivial, ?_⟩
  refine ((callsIn_wide (n := 5)).2 (specAt_any ss HF.out oa cap i j sc x HSC.out.1 HSC.out.2 _ (HC.out.below HB0.out (Nat.le_refl _)))).mono ?_
  rintro e w3 ⟨rfl, hb3⟩
  have HB3 := Lib.hid (HB0.out.trans (hb3.mono HB0.out.size))
  have HS3 := Lib.hid (And.intro (cell_grow hb3 HS0.out.1) (And.intro (cell_grow hb3 HS0.out.2.1) (cell_grow hb3 HS0.out.2.2)))
  clear hb3
  refine hK.out _ _ HS3.out (fun _ => ?_)
  clear hK
  refine KeptAny.one (i := 5) (by kernel_rfl) rfl (by rfl) (fun K hK => ?_)
  go_simp
  refine hK.out _ _ HS3.out (fun _ => ?_)
  clear hK
  refine KeptAny.one (i := 6) (by kernel_rfl) rfl (by rfl) (fun K hK => ?_)
  go_simp
  refine ⟨trivial, ?_⟩
  refine ((callsIn_wide (n := 5)).2 (specLookUp3_any ss HV.out HF.out oa cap s HS.out x.name _ (HC.out.below HB3.out (Nat.le_refl _)))).mono ?_
  rintro e w4 ⟨u, rfl, hu, hb4⟩
  obtain ⟨ou, cu, rfl, hap⟩ := argPlaces_of_owns hu
  have HAP := Lib.hid hap
  have HB4 := Lib.hid (HB3.out.trans (hb4.mono HB3.out.size))
  have HS4 := Lib.hid (And.intro (cell_grow hb4 HS3.out.1) (And.intro (cell_grow hb4 HS3.out.2.1) (cell_grow hb4 HS3.out.2.2)))
  clear hu hb4 hap
  refine hK.out _ _ HS4.out (fun _ => ?_)
  clear hK
  refine KeptAny.one (i := 8) (by kernel_rfl) rfl (by rfl) (fun K hK => ?_)
  go_simp
  refine ⟨trivial, ?_⟩
  refine ((callsIn_wide (n := 5)).2 (l5In_any (lookP ss s x.name).places ou cu (i : Int) (j : Int) _ (Nat.le_trans (show (lookP ss s x.name).places.length ≤ 25 from lookF_length HV.out _ _) (by omega)) HAP.out)).mono ?_
  rintro e w5 ⟨rfl, hb5⟩
  have HB5 := Lib.hid (HB4.out.trans (hb5.mono HB4.out.size))
  have HS5 := Lib.hid (And.intro (cell_grow hb5 HS4.out.1) (And.intro (cell_grow hb5 HS4.out.2.1) (cell_grow hb5 HS4.out.2.2)))
  clear hb5
  refine hK.out _ _ HS5.out (fun _ => ?_)
  clear hK
  refine KeptAny.one (i := 9) (by kernel_rfl) rfl (by rfl) (fun K hK => ?_)
  go_simp
  refine hK.out _ _ HS5.out (fun _ => ?_)
  clear hK
  refine KeptAny.done (by kernel_rfl) ?_ _
  go_wp2
  go_ret
  exact ⟨rfl, HB5.out⟩
end Go.Proofs.YtppgdigcopkeiaaDoor
namespace Go.Proofs.YtppgdigcopkeiaaDoor
open Go Go.RowKit
def seenOk (ss : List Sc) (n : Int) : Prop := HasScope ss n
theorem filtL_short {ss : List Sc} (hv : Valid ss) (f : Nat × Nat × It → Bool) : (filtL f (placed 0 ss)).length ≤ 30 := by
  have h1 := filtL_length f (placed 0 ss)
  have h2 := placed_bound 0 ss 6 5 hv.count.2 hv.five
  omega
theorem decls_short {ss : List Sc} (hv : Valid ss) : (declsP ss).length ≤ 30 := by
  have h1 := List.length_filter_le (fun q : Nat × Nat × It => q.2.2.kind == 1) (placed 0 ss)
  have h2 := placed_bound 0 ss 6 5 hv.count.2 hv.five
  unfold declsP
  omega
theorem owns_block2 {w : World} {base n size b off len cap : Nat} {e : TypeId} {xs : List Value} (h : w.ownsRow base e size (.slice (some ⟨b, off, none⟩) len cap) n xs) : base ≤ b := by
  obtain ⟨_, h2 | ⟨g, c, cur, hv, hB, _⟩⟩ := h
  · have := h2.1
    simp at this
  · simp only [Value.slice.injEq, Option.some.injEq, Addr.mk.injEq] at hv
    omega
theorem owns_lt2 {w : World} {base n size b off len cap : Nat} {e : TypeId} {xs : List Value} (h : w.ownsRow base e size (.slice (some ⟨b, off, none⟩) len cap) n xs) : b < w.heap.size := by
  obtain ⟨_, h2 | ⟨g, c, cur, hv, hB, hh, _⟩⟩ := h
  · have := h2.1
    simp at this
  · simp only [Value.slice.injEq, Option.some.injEq, Addr.mk.injEq] at hv
    have := (Array.getElem?_eq_some_iff.1 hh).1
    omega
/-- One place appended, and where the row then lies. -/
theorem append_placeW {W : World} {base k : Nat} {v : Value} {xs : List Value} (hrow : W.ownsRow base 34 2 v k xs) (x y : Int) (hk : k < 1000000) (hbase : base ≤ W.heap.size) (ty : TypeId) :
    ∃ v' w', (Builtin.append_ #[39, 39] ty #[v, .slice (some ⟨W.heap.size, 0, none⟩) 1 1]).run Tryd.prog (W.alloc (.cells #[.int .i64 x, .int .i64 y] 34)) = .ok v' w' ∧ w'.ownsRow base 34 2 v' (k + 1) (xs ++ [.int .i64 x, .int .i64 y]) ∧ (W.alloc (.cells #[.int .i64 x, .int .i64 y] 34)).grownBy w' v.ownBlock ∧ (v'.ownBlock = v.ownBlock ∨ v'.ownBlock = some (W.heap.size + 1)) := by
  obtain ⟨i0, hi, hz0, hz1, hz2⟩ := info_parts infoPl
  obtain ⟨v', w', hrun, h2, h3, _, h5⟩ := run_append_own_at (P := Tryd.prog) (W.alloc (.cells #[.int .i64 x, .int .i64 y] 34)) base 39 ty 34 i0 (.agg #[.int .i64 0, .int .i64 0]) 2 16 Tryd.underlying39 hi hz0 hz1 hz2 rfl (by decide) v k xs (hrow.alloc _) ⟨W.heap.size, 0, none⟩ 1 1 [.int .i64 x, .int .i64 y] rfl (cells_new2 W _ _ _)
    (by intro u hu; simp only [List.mem_cons, List.mem_nil_iff, or_false] at hu; rcases hu with rfl | rfl <;> rfl) (by unfold maxLen; omega) (by omega) (by show base ≤ (W.alloc _).heap.size; simp; omega)
  rw [World.size_alloc] at h5
  exact ⟨v', w', hrun, h2, h3, h5⟩
theorem ArgPlaces.grown {W W' : World} {oa : Option Addr} {l : List (Int × Int)} {row : Option Nat} (h : ArgPlaces W oa l) (hg : W.grownBy W' row) (hne : ∀ g, row = some g → ∀ b off, oa = some ⟨b, off, none⟩ → g ≠ b) : ArgPlaces W' oa l := by
  rcases h with h | ⟨b, off, rfl, hlt, hp⟩
  · exact .inl h
  · have hbk := hg.block b hlt (fun e => hne b e.symm b off rfl rfl)
    refine .inr ⟨b, off, rfl, Nat.lt_of_lt_of_le hlt hg.size, fun i p hi => ?_⟩
    obtain ⟨c0, c1⟩ := hp i p hi
    exact ⟨(World.cell?_of_block (a := ⟨b, off + i * 2, none⟩) hbk).trans c0, (World.cell?_of_block (a := ⟨b, off + i * 2 + 1, none⟩) hbk).trans c1⟩
/-- A list that lies apart from a row of one's own. -/
structure Aside (W : World) (v : Value) (ol : Option Addr) (l : List (Int × Int)) : Prop where
  args : ArgPlaces W ol l
  ne : ∀ g, v.ownBlock = some g → ∀ b off, ol = some ⟨b, off, none⟩ → g ≠ b
  lt : ∀ b off, ol = some ⟨b, off, none⟩ → b < W.heap.size
theorem Aside.below {W W' : World} {v : Value} {ol : Option Addr} {l : List (Int × Int)} (h : Aside W v ol l) (hb : Below W.heap.size W W') : Aside W' v ol l :=
  ⟨h.args.below hb, h.ne, fun b off e => Nat.lt_of_lt_of_le (h.lt b off e) hb.size⟩
theorem Aside.grown {W W' : World} {v v' : Value} {ol : Option Addr} {l : List (Int × Int)} {x y : Int} (h : Aside W v ol l) (hg : (W.alloc (.cells #[.int .i64 x, .int .i64 y] 34)).grownBy W' v.ownBlock) (hw : v'.ownBlock = v.ownBlock ∨ v'.ownBlock = some (W.heap.size + 1)) : Aside W' v' ol l := by
  have h1 := h.below ((Below.refl _ _).alloc (Nat.le_refl _) (.cells #[.int .i64 x, .int .i64 y] 34))
  refine ⟨h1.args.grown hg h1.ne, fun g hgo b off e => ?_, fun b off e => Nat.lt_of_lt_of_le (h1.lt b off e) hg.size⟩
  rcases hw with hw | hw
  · exact h.ne g (hw ▸ hgo) b off e
  · have := h.lt b off e
    rw [hw] at hgo
    simp only [Option.some.injEq] at hgo
    omega
set_option maxRecDepth 100000 in
set_option maxHeartbeats 4000000 in
theorem specSeenFrom_any (ss : List Sc) (hf : FitsScopes ss) (oa : Option Addr) (cap : Nat) (n : Int) (w : World) (hc : HoldsScopes w oa ss) :
    Calls Tryd.prog 44 #[.agg #[.slice oa ss.length cap], .int .i64 n] w (PlGot2 (HasScope ss n) (filtL (seesB ss n.toNat) (placed 0 ss)) w) := by
  have hb0 := ((Below.refl w.heap.size w).alloc (Nat.le_refl _) (.cells #[.slice oa ss.length cap] 30)).alloc (by simp) (.cells #[] 34)
  have hR0 := (Row.new w [.slice oa ss.length cap] 30).alloc (.cells #[] 34)
  have hown0 : ((w.alloc (.cells #[.slice oa ss.length cap] 30)).alloc (.cells #[] 34)).ownsRow w.heap.size 34 2 (.slice (some ⟨w.heap.size + 1, 0, none⟩) 0 0) 0 [] := by
    have h0 := World.ownsRow_made (base := w.heap.size) (e := 34) (size := 2) (w.alloc (.cells #[.slice oa ss.length cap] 30)) #[] 0 (by simp) (by unfold maxLen; omega) rfl
    rw [World.size_alloc] at h0
    exact h0
  have HP0 : Hid (PlsAt w ((w.alloc (.cells #[.slice oa ss.length cap] 30)).alloc (.cells #[] 34)) oa cap ss.length (.slice (some ⟨w.heap.size + 1, 0, none⟩) 0 0) []) := Lib.hid ⟨hR0, hown0, hb0⟩
  have C := Lib.hid (specScope_any ss hf oa cap n _ (hc.below hb0 (Nat.le_refl _)))
  have HC := Lib.hid hc
  have HF := Lib.hid hf
  have g00 := hR0.cell (i := 0) (by rfl)
  clear hf hc hb0 hR0 hown0
  go_enter Tryd.func44, Tryd.ntmps44
  go_wp2_with fail
  refine C.out.mono ?_
  rintro e w1 ⟨b, rfl, hv, hb⟩
  have HP1 := Lib.hid (HP0.out.step hb)
  have HPS : Hid (w.heap.size + 1 + 1 ≤ w1.heap.size) := Lib.hid (by have := hb.size; simp at this; omega)
  have c1 := HP1.out.box.cell (i := 0) (by rfl)
  have HV := Lib.hid hv
  clear hb hv g00
  cases b
  · have HN : Hid (¬ HasScope ss n) := Lib.hid (fun h => by have := HV.out.2 h; cases this)
    go_wp2
    go_ret2
    exact .inl ⟨HN.out, _, rfl, HP1.out.below⟩
  · have HH := Lib.hid (HV.out.1 rfl)
    obtain ⟨s, rfl⟩ : ∃ s : Nat, n = (s : Int) := ⟨n.toNat, by have := HH.out.2.1; omega⟩
    have HSL : Hid (s < ss.length) := Lib.hid (by have := HH.out.2.2; omega)
    have hdl := decls_short HH.out.1
    have HFD := Lib.hid (filtL_decls (sees_kind (ss := ss) (s := s)) ss)
    go_wp2_with fail
    refine (l1Places_any ss HH.out.1.count.2 HH.out.1.five oa cap 1 _ (HC.out.below HP1.out.below (Nat.le_refl _))).mono ?_
    rintro e w2 ⟨vl, rfl, hvl, hb2⟩
    obtain ⟨ol, cl, rfl, hap⟩ := argPlaces_of_owns hvl
    have HAP : Hid (Aside w2 (.slice (some ⟨w.heap.size + 1, 0, none⟩) 0 0) ol (plsP ss 1)) := Lib.hid ⟨hap, by
      rintro g hg b off rfl
      have h1 := owns_block2 hvl
      have h2 := HP1.out.row.1
      have h3 := HPS.out
      simp only [Value.ownBlock, Option.some.injEq] at hg
      omega, by
      rintro b off rfl
      rcases hap with h0 | ⟨b', off', e, hlt, _⟩
      · exact owns_lt2 hvl
      · cases e; exact hlt⟩
    have HP2 := Lib.hid (HP1.out.step hb2)
    have HNL : Hid ((plsP ss 1).length = (declsP ss).length) := Lib.hid (by rw [declsP_map, List.length_map])
    have hpl : (plsP ss 1).length ≤ 30 := by rw [HNL.out]; exact hdl
    clear hvl hap hb2 c1
    go_wp2
    go_loopw [6, 18] (fun v i wr => ∃ k : Nat, i = .int .i64 k ∧ k ≤ (plsP ss 1).length ∧ Hid (PlsAt w wr oa cap ss.length v (filtL (seesB ss s) ((declsP ss).take k)) ∧ Aside wr v ol (plsP ss 1))) (fun _ i _ => (plsP ss 1).length - (intOf i).toNat)
    case atStart => exact ⟨0, rfl, Nat.zero_le _, Lib.hid ⟨HP2.out, HAP.out⟩⟩
    case round =>
      obtain ⟨k, rfl, hk, hP⟩ := hrel
      by_cases hlt : k < (plsP ss 1).length
      · obtain ⟨q, hq⟩ : ∃ q, (declsP ss)[k]? = some q := ⟨_, List.getElem?_eq_getElem (by have := HNL.out; omega)⟩
        obtain ⟨i, j, x⟩ := q
        have hqI : (plsP ss 1)[k]? = some ((i : Int), (j : Int)) := by rw [declsP_map, List.getElem?_map, hq]; rfl
        obtain ⟨hpl2, hkd⟩ := decl_kind (List.mem_of_getElem? hq)
        obtain ⟨b1, f1, rfl, hb1, q1⟩ := hP.out.2.args.at (by omega)
        obtain ⟨c0, c1⟩ := q1 k _ hqI
        have hbP := (Below.refl wr.heap.size wr).alloc (Nat.le_refl _) (.cells #[.int .i64 (i : Int), .int .i64 (j : Int)] 34)
        have HP3 := Lib.hid (hP.out.1.step hbP)
        have HB3 := Lib.hid (hP.out.2.below hbP)
        have RP := Lib.hid (Row.new wr [.int .i64 (i : Int), .int .i64 (j : Int)] 34)
        have HST := Lib.hid (filtL_snoc (seesB ss s) ((declsP ss).take k) (i, j, x))
        have HTK : Hid ((declsP ss).take (k + 1) = (declsP ss).take k ++ [(i, j, x)]) := Lib.hid (by rw [List.take_add_one, hq]; rfl)
        have HSB : Hid (seesB ss s (i, j, x) = foundB ss s (i, j, x)) := Lib.hid (by
          unfold seesB
          dsimp only at hkd
          rw [hkd]
          rfl)
        have g3 := HP3.out.box.cell (i := 0) (by rfl)
        have hfl : (filtL (seesB ss s) ((declsP ss).take k)).length ≤ 30 := by
          have h1 := filtL_length (seesB ss s) ((declsP ss).take k)
          rw [List.length_take] at h1
          omega
        have C3 := Lib.hid (l5Sees_any ss HH.out.1 HF.out oa cap s HSL.out hpl2 _ (HC.out.below HP3.out.below (Nat.le_refl _)))
        clear hq hqI hpl2 hkd q1 hbP hb1
        dsimp only at c0 c1
        go_wp2_with fail
        refine C3.out.mono ?_
        rintro e w4 ⟨rfl, hb4⟩
        have HP4 := Lib.hid (HP3.out.step hb4)
        have HB4 := Lib.hid (HB3.out.below hb4)
        have RP4 := Lib.hid (RP.out.below hb4 RP.out.lt)
        have p0 := RP4.out.cell (i := 0) (v := .int .i64 (i : Int)) (by rfl)
        have p1 := RP4.out.cell (i := 1) (v := .int .i64 (j : Int)) (by rfl)
        clear hb4 g3 c0 c1
        cases hfd : foundB ss s (i, j, x)
        · have HE : Hid (filtL (seesB ss s) ((declsP ss).take (k + 1)) = filtL (seesB ss s) ((declsP ss).take k)) := Lib.hid (by rw [HTK.out, HST.out, HSB.out, hfd]; simp)
          clear hfd
          go_wp2
          go_roundw
          case rel => exact ⟨k + 1, by go_num, by omega, Lib.hid ⟨by rw [HE.out]; exact HP4.out, HB4.out⟩⟩
          case measure => simp only [intOf]; omega
        · have HE : Hid (filtL (seesB ss s) ((declsP ss).take (k + 1)) = filtL (seesB ss s) ((declsP ss).take k) ++ [((i : Int), (j : Int))]) := Lib.hid (by rw [HTK.out, HST.out, HSB.out, hfd]; rfl)
          generalize hpe : filtL (seesB ss s) ((declsP ss).take k) = pre at hfl
          rw [hpe] at HP4 HE
          have hbs4 := HP4.out.below.size
          obtain ⟨v', w', hrun, hown', hgrow, hwh⟩ := append_placeW HP4.out.row (i : Int) (j : Int) (by omega) hbs4 39
          have HRUN := Lib.hid hrun
          have HP5 : Hid (PlsAt w w' _ cap ss.length v' (filtL (seesB ss s) ((declsP ss).take (k + 1))) ∧ Aside w' v' _ (plsP ss 1)) := Lib.hid ⟨{
            box := (HP4.out.box.alloc (.cells #[.int .i64 (i : Int), .int .i64 (j : Int)] 34)).grown hgrow (ownsRow_ne2 HP4.out.box (by decide) HP4.out.row)
            row := by rw [HE.out, List.length_append, placeCells_snoc]; exact hown'
            below := HP4.out.below.trans (below_append2 HP4.out.row hgrow (Nat.le_refl w.heap.size) hbs4) }, HB4.out.grown hgrow hwh⟩
          clear hpe hfd hown' hgrow hrun hwh
          go_wp2_with (at_builtin; refine wpList_append_run rfl _ _ 39 rfl HRUN.out ?_)
          go_wp2
          go_roundw
          case rel => exact ⟨k + 1, by go_num, by omega, HP5⟩
          case measure => simp only [intOf]; omega
      · obtain rfl : k = (plsP ss 1).length := by omega
        have HE : Hid (filtL (seesB ss s) ((declsP ss).take (plsP ss 1).length) = filtL (seesB ss s) (placed 0 ss)) := Lib.hid (by rw [HNL.out, List.take_length, HFD.out])
        go_wp2
        go_ret2
        exact .inr ⟨HH.out, _, rfl, by have := hP.out.1.row; rw [HE.out] at this; rw [Int.toNat_natCast]; exact this, hP.out.1.below⟩
end Go.Proofs.YtppgdigcopkeiaaDoor
