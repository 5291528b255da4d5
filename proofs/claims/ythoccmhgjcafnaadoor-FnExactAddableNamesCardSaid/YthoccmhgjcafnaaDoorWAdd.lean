/-
  The walk of impl's adding: a graph with an item more behind those of a scope. Conditions: the argument's memory holds the graph; the package-level errors hold errors.
-/
import Derived.Test.YthoccmhgjcafnaaDoorWPut
import Derived.Test.YthoccmhgjcafnaaDoorWEnd
namespace Go.Proofs.YthoccmhgjcafnaaDoor
open Go Go.RowKit
/-- What adding answers. -/
def AddingGot (ss : List Sc) (n kind : Int) (nm : ByteArray) (w : World) (e : Ending) (w' : World) : Prop :=
  (¬ (Room ss n ∧ nameB nm = true) ∧ (∃ tp p, e = .returned (.tuple #[.agg #[.slice none 0 0], .agg #[.int .i64 0, .int .i64 0], .iface tp p])) ∧ Below w.heap.size w w') ∨
  (∃ (i : Nat) (c : Sc) (v : Value) (hs : List Value), n = (i : Int) ∧ Valid ss ∧ ss[i]? = some c ∧ c.items.length < 5 ∧ nameB nm = true ∧
    e = .returned (.tuple #[.agg #[v], .agg #[.int .i64 (i : Int), .int .i64 (c.items.length : Int)], .nilIface]) ∧ OwnGr w' w.heap.size v (addP ss i ⟨kind, nm, -1⟩) hs ∧ Below w.heap.size w w')
/-- The two boxes of the results: a graph's and a place's. -/
structure Boxes2 (w : World) (g p : Nat) : Prop where
  gr : Row w g 31 [.slice none 0 0]
  pl : Row w p 44 [.int .i64 0, .int .i64 0]
theorem Boxes2.below {w w' : World} {g p : Nat} (h : Boxes2 w g p) (hb : Below w.heap.size w w') : Boxes2 w' g p := ⟨h.gr.below hb h.gr.lt, h.pl.below hb h.pl.lt⟩
theorem Boxes2.sets {w : World} {g p : Nat} (h : Boxes2 w g p) (hne : p ≠ g) (x a b : Value) : (w.setCell ⟨g, 0, none⟩ x).cell? ⟨g, 0, none⟩ = some x ∧ ((w.setCell ⟨g, 0, none⟩ x).setCell ⟨p, 0, none⟩ a).cell? ⟨p, 0, none⟩ = some a ∧
    (((w.setCell ⟨g, 0, none⟩ x).setCell ⟨p, 0, none⟩ a).setCell ⟨p, 1, none⟩ b).cell? ⟨p, 1, none⟩ = some b ∧ (((w.setCell ⟨g, 0, none⟩ x).setCell ⟨p, 0, none⟩ a).setCell ⟨p, 1, none⟩ b).cell? ⟨p, 0, none⟩ = some a ∧
    (((w.setCell ⟨g, 0, none⟩ x).setCell ⟨p, 0, none⟩ a).setCell ⟨p, 1, none⟩ b).cell? ⟨g, 0, none⟩ = some x := by
  have h1 := h.gr.set 0 x
  have h2 := (h.pl.other (a := ⟨g, 0, none⟩) (Ne.symm hne) x).set 0 a
  have h3 := h2.set 1 b
  have h4 := (h1.other (a := ⟨p, 0, none⟩) hne a).other (a := ⟨p, 1, none⟩) hne b
  exact ⟨h1.cell (i := 0) (by rfl), h2.cell (i := 0) (by rfl), h3.cell (i := 1) (by rfl), h3.cell (i := 0) (by rfl), h4.cell (i := 0) (by rfl)⟩
/-- An edit that puts an item behind those of a scope. -/
theorem edit_put {w : World} {us : List Sc} {i S X : Nat} {s : Sc} {x : It} (hn : us.length ≤ 1048576) (hn2 : ∀ s ∈ us, s.items.length ≤ 500000) (hs' : us[i]? = some s) (hS : Row w S 3 [.int .i64 (i : Int)]) (hX : Row w X 90 [.int .i64 x.kind, .string x.name, .int .i64 x.scope]) :
    EditOk w (.func (.func 80) #[] #[.pointer (some ⟨S, 0, none⟩), .pointer (some ⟨X, 0, none⟩)]) us (addP us i x) :=
  ⟨_, #[], _, rfl, .inl rfl, enters_of Tryd.func80 (by kernel_rfl) rfl, fun W B g gs cs hs hb hB hB2 hG => putting1_any us hs hn hn2 B g gs cs i S X s x hs' W hG hB2 (hS.below hb hS.lt) (hX.below hb hX.lt) (Nat.lt_of_lt_of_le hX.lt hB)⟩
set_option maxRecDepth 100000 in
set_option maxHeartbeats 4000000 in
theorem adding_any (ss : List Sc) (hF : Fair ss) (oa : Option Addr) (cap : Nat) (n kind : Int) (nm : ByteArray) (w : World) (hc : HoldsScopes w oa ss) (hE : AddErrs w) :
    Calls Tryd.prog 41 #[.agg #[.slice oa ss.length cap], .int .i64 n, .int .i64 kind, .string nm] w (AddingGot ss n kind nm w) := by
  have hb0 : Below w.heap.size w (((w.alloc (.cells #[.slice oa ss.length cap] 31)).alloc (.cells #[.slice none 0 0] 31)).alloc (.cells #[.int .i64 0, .int .i64 0] 44)) := (((Below.refl _ _).alloc (Nat.le_refl _) _).alloc (by simp) _).alloc (by simp; omega) _
  have R1 := ((Row.new w [.slice oa ss.length cap] 31).alloc (.cells #[.slice none 0 0] 31)).alloc (.cells #[.int .i64 0, .int .i64 0] 44)
  have R2 := (Row.new (w.alloc (.cells #[.slice oa ss.length cap] 31)) [.slice none 0 0] 31).alloc (.cells #[.int .i64 0, .int .i64 0] 44)
  have R3 := Row.new ((w.alloc (.cells #[.slice oa ss.length cap] 31)).alloc (.cells #[.slice none 0 0] 31)) [.int .i64 0, .int .i64 0] 44
  rw [World.size_alloc] at R2
  rw [World.size_alloc, World.size_alloc] at R3
  have C := Lib.hid (hF.tree oa cap _ (hc.below hb0 (Nat.le_refl _)) (hE.at hb0).names.nodes.trees)
  have HB := Lib.hid hb0
  have HR1 := Lib.hid R1
  have HBX := Lib.hid (⟨R2, R3⟩ : Boxes2 _ _ _)
  have HE := Lib.hid hE
  have HC := Lib.hid hc
  have HF := Lib.hid hF
  obtain ⟨tn, pn, hen⟩ := (hE.at hb0).names.name
  have g1 := R1.cell (i := 0) (by rfl)
  have n0 := HBX.out.gr.cell (i := 0) (v := .slice none 0 0) (by rfl)
  have f0 := HBX.out.gr.frozen 0
  have p0 := HBX.out.pl.cell (i := 0) (v := .int .i64 0) (by rfl)
  have p1 := HBX.out.pl.cell (i := 1) (v := .int .i64 0) (by rfl)
  have q0 := HBX.out.pl.frozen 0
  have q1 := HBX.out.pl.frozen 1
  clear hF hc hE hb0 R1 R2 R3
  by_cases hnm : nameB nm = true
  case neg =>
    have hnf : nameB nm = false := by simpa using hnm
    have HN : Hid (¬ (Room ss n ∧ nameB nm = true)) := Lib.hid (fun h => hnm h.2)
    have hg1 : 2 ≠ w.heap.size + 1 := Nat.ne_of_lt (Nat.lt_of_lt_of_le (by decide) (Nat.le_succ_of_le HE.out.names.nodes.trees.size))
    have hg2 : 2 ≠ w.heap.size + 1 + 1 := Nat.ne_of_lt (Nat.lt_of_lt_of_le (by decide) (Nat.le_succ_of_le (Nat.le_succ_of_le HE.out.names.nodes.trees.size)))
    have e1 := (cell_far hg1 0 (.slice none 0 0) (o := 0)).trans hen
    have e2 := (cell_far hg2 0 (.int .i64 0) (o := 0)).trans e1
    have e3 := (cell_far hg2 1 (.int .i64 0) (o := 0)).trans e2
    clear hnm hg1 hg2
    go_enter Tryd.func41, Tryd.ntmps41
    go_wp2_with fail
    refine (isName_any nm _).mono ?_
    rintro e w0 ⟨rfl, rfl⟩
    rw [hnf]
    go_wp2
    go_region
    all_goals go_wp2
    all_goals (
      refine bodyPost_ret (v := .tuple #[.agg #[.slice none 0 0], .agg #[.int .i64 0, .int .i64 0], .iface tn pn]) ?_ rfl (.inl ⟨HN.out, ⟨tn, pn, rfl⟩, ?_⟩)
      · simp [results, Tryd.results41, go_sem]
      · repeat (first | exact HB.out | apply Below.drew | refine Below.setCell ?_ (by simp <;> omega) _))
  case pos =>
    have HNM := Lib.hid hnm
    go_enter Tryd.func41, Tryd.ntmps41
    go_wp2_with fail
    refine (isName_any nm _).mono ?_
    rintro e w0 ⟨rfl, rfl⟩
    rw [hnm]
    clear hnm hen
    go_wp2_with fail
    refine C.out.mono ?_
    rintro e w1 (⟨hv, ⟨tp, p, rfl⟩, hb⟩ | ⟨hv, T, M1, M2, v, ds, rfl, hb, hT⟩)
    · have HN : Hid (¬ (Room ss n ∧ nameB nm = true)) := Lib.hid (fun h => hv h.1.1)
      have HB1 := Lib.hid (HB.out.trans (hb.mono HB.out.size))
      have HX1 := Lib.hid (HBX.out.below hb)
      have n0 := HX1.out.gr.cell (i := 0) (v := .slice none 0 0) (by rfl)
      have f0 := HX1.out.gr.frozen 0
      have p0 := HX1.out.pl.cell (i := 0) (v := .int .i64 0) (by rfl)
      have p1 := HX1.out.pl.cell (i := 1) (v := .int .i64 0) (by rfl)
      have q0 := HX1.out.pl.frozen 0
      have q1 := HX1.out.pl.frozen 1
      clear hv hb
      go_wp2
      refine bodyPost_ret (v := .tuple #[.agg #[.slice none 0 0], .agg #[.int .i64 0, .int .i64 0], .iface tp p]) ?_ rfl (.inl ⟨HN.out, ⟨tp, p, rfl⟩, ?_⟩)
      · obtain ⟨-, -, d2, d3, d4⟩ := HX1.out.sets (by omega) (.slice none 0 0) (.int .i64 0) (.int .i64 0)
        simp [results, Tryd.results41, go_sem, d2, d3, d4]
      · repeat (first | exact HB1.out | apply Below.drew | refine Below.setCell ?_ (by simp <;> omega) _)
    · have HB1 := Lib.hid (HB.out.trans (hb.mono HB.out.size))
      have HX1 := Lib.hid (HBX.out.below hb)
      have HR1a := Lib.hid (HR1.out.below hb HR1.out.lt)
      have C2 := Lib.hid (endOf_any hv hT (HE.out.at HB1.out).ends n)
      have HV := Lib.hid hv
      clear hv hb hT
      go_wp2_with fail
      refine C2.out.mono ?_
      rintro e w2 (⟨hn, ⟨tp, p, rfl⟩, hb2⟩ | ⟨i, c, rfl, hci, hl5, rfl, hb2⟩)
      · have HN : Hid (¬ (Room ss n ∧ nameB nm = true)) := Lib.hid (fun h => hn h.1)
        have hb3 := hb2.trans ((Below.refl w2.heap.size w2).alloc (Nat.le_refl _) (.cells #[.int .i64 0, .int .i64 0] 44) |>.mono hb2.size)
        have HB2 := Lib.hid (HB1.out.trans (hb3.mono HB1.out.size))
        have HX2 := Lib.hid (HX1.out.below hb3)
        have n0 := HX2.out.gr.cell (i := 0) (v := .slice none 0 0) (by rfl)
        have f0 := HX2.out.gr.frozen 0
        have p0 := HX2.out.pl.cell (i := 0) (v := .int .i64 0) (by rfl)
        have p1 := HX2.out.pl.cell (i := 1) (v := .int .i64 0) (by rfl)
        have q0 := HX2.out.pl.frozen 0
        have q1 := HX2.out.pl.frozen 1
        clear hn hb2 hb3
        go_wp2
        refine bodyPost_ret (v := .tuple #[.agg #[.slice none 0 0], .agg #[.int .i64 0, .int .i64 0], .iface tp p]) ?_ rfl (.inl ⟨HN.out, ⟨tp, p, rfl⟩, ?_⟩)
        · obtain ⟨-, -, d2, d3, d4⟩ := HX2.out.sets (by omega) (.slice none 0 0) (.int .i64 0) (.int .i64 0)
          simp [results, Tryd.results41, go_sem, d2, d3, d4]
        · repeat (first | exact HB2.out | apply Below.drew | refine Below.setCell ?_ (by simp <;> omega) _)
      · obtain ⟨z, hz⟩ : ∃ z : Int, (c.items.length : Int) = z := ⟨_, rfl⟩
        rw [hz]
        have HZ := Lib.hid hz
        have HCI := Lib.hid (And.intro hci hl5)
        obtain ⟨wE, hwE⟩ : ∃ wE, wE = w2.alloc (.cells #[.int .i64 (i : Int), .int .i64 z] 44) := ⟨_, rfl⟩
        have hb3 := hb2.trans ((Below.refl w2.heap.size w2).alloc (Nat.le_refl _) (.cells #[.int .i64 (i : Int), .int .i64 z] 44) |>.mono hb2.size)
        rw [← hwE] at hb3
        have REr := Row.new w2 [.int .i64 (i : Int), .int .i64 z] 44
        rw [show w2.alloc (.cells [Value.int .i64 (i : Int), .int .i64 z].toArray 44) = wE from hwE.symm] at REr
        have HB2 := Lib.hid (HB1.out.trans (hb3.mono HB1.out.size))
        have HX2 := Lib.hid (HX1.out.below hb3)
        have HG2 := Lib.hid (HR1a.out.below hb3 HR1a.out.lt)
        have RE := Lib.hid REr
        have hS0 := And.intro (cell_drew (HG2.out.cell (i := 0) (v := .slice oa ss.length cap) (by rfl))) (And.intro (cell_drew (REr.cell (i := 0) (v := .int .i64 (i : Int)) (by rfl))) (cell_drew (REr.cell (i := 1) (v := .int .i64 z) (by rfl))))
        -- the edit, its slice, the call
        obtain ⟨wP, hwP⟩ : ∃ wP, wP = (wE.drew.alloc (.cells #[.int .i64 (i : Int)] 3)).alloc (.cells #[.int .i64 kind, .string nm, .int .i64 (-1)] 90) := ⟨_, rfl⟩
        have hbP : Below wE.heap.size wE wP := by rw [hwP]; exact ((Below.refl _ _).drew.alloc (Nat.le_refl _) _).alloc (by rw [World.size_alloc]; exact Nat.le_succ _) _
        have hszE : wE.drew.heap.size = wE.heap.size := rfl
        have hS1 : Row wP wE.heap.size 3 [.int .i64 (i : Int)] := by rw [hwP]; exact (Row.new wE.drew [.int .i64 (i : Int)] 3).alloc _
        have hX1 : Row wP (wE.heap.size + 1) 90 [.int .i64 kind, .string nm, .int .i64 (-1)] := by
          have h := Row.new (wE.drew.alloc (.cells #[.int .i64 (i : Int)] 3)) [.int .i64 kind, .string nm, .int .i64 (-1)] 90
          rw [World.size_alloc, hszE] at h
          rw [hwP]; exact h
        obtain ⟨u, hu⟩ : ∃ u : Value, u = .func (.func 80) #[] #[.pointer (some ⟨wE.heap.size, 0, none⟩), .pointer (some ⟨wE.heap.size + 1, 0, none⟩)] := ⟨_, rfl⟩
        have hbF := hbP.trans ((Below.refl wP.heap.size wP).alloc (Nat.le_refl _) (.cells #[u] 106) |>.mono hbP.size)
        have RF := Row.new wP [u] 106
        have hS2 := hS1.alloc (.cells #[u] 106)
        have hX2 := hX1.alloc (.cells #[u] 106)
        have hHF : HoldsFuncs (wP.alloc (.cells #[u] 106)) (some ⟨wP.heap.size, 0, none⟩) [u] := .inr ⟨_, 0, rfl, RF.lt, fun k z hz => by
          rw [Nat.zero_add]; exact RF.cell hz⟩
        have hEd : Edits (wP.alloc (.cells #[u] 106)) [u] ss (addP ss i ⟨kind, nm, -1⟩) := by
          have h := edit_put (x := ⟨kind, nm, -1⟩) HF.out.count (fun t ht => by have := HV.out.five t ht; omega) hci hS2 hX2
          rw [← hu] at h
          exact .cons h (.nil _)
        have W := Lib.hid ((callsIn_wide (n := 5)).2 (with_any ss _ HF.out (by have := HV.out.count; omega) oa (some ⟨wP.heap.size, 0, none⟩) cap 1 [u] (by simp) _ (HC.out.below (HB2.out.trans (hbF.mono HB2.out.size)) (Nat.le_refl _)) hHF hEd))
        have PT : Hid (CallsIn Fence.wide 5 Tryd.prog 62 #[.int .i64 (i : Int), .agg #[.int .i64 kind, .string nm, .int .i64 (-1)]] wE.drew fun e w' => e = .returned u ∧ w' = wP) := Lib.hid (((callsIn_wide (n := 5)).2 (putting_any (i : Int) ⟨kind, nm, -1⟩ wE.drew)).mono (by
          rintro e w' ⟨rfl, rfl⟩
          exact ⟨by rw [hu]; rfl, hwP.symm⟩))
        have hSP := And.intro (cell_grow hbP hS0.1) (And.intro (cell_grow hbP hS0.2.1) (cell_grow hbP hS0.2.2))
        have hSF := And.intro (cell_grow hbF hS0.1) (And.intro (cell_grow hbF hS0.2.1) (cell_grow hbF hS0.2.2))
        have HBF := Lib.hid (HB2.out.trans (hbF.mono HB2.out.size))
        have HXF := Lib.hid (HX2.out.below hbF)
        have HSF := Lib.hid (And.intro hSP hSF)
        have HLE : Hid (w.heap.size + 3 ≤ w2.heap.size) := Lib.hid (by have h1 := HX1.out.pl.lt; have h2 := hb2.size; omega)
        have HSZ := Lib.hid (show wE.heap.size ≤ (wP.alloc (.cells #[u] 106)).heap.size from hbF.size)
        clear hz hci hl5 hb2 hb3 hbP hbF RF hS1 hX1 hS2 hX2 hHF hEd REr hwP hszE hSP hSF n0 f0 p0 p1 q0 q1 g1
        subst hu
        go_wp2
        rw [← hwE]
        clear hwE
        refine wp_region_kept (S := fun w' => w'.cell? ⟨w.heap.size, 0, none⟩ = some (.slice oa ss.length cap) ∧ w'.cell? ⟨w2.heap.size, 0, none⟩ = some (.int .i64 (i : Int)) ∧ w'.cell? ⟨w2.heap.size, 1, none⟩ = some (.int .i64 z)) 11 (by kernel_rfl) ?_
        refine KeptAny.take (i := 0) (v := ?_) (by kernel_rfl) rfl rfl (by kernel_rfl) (by kernel_rfl) (by kernel_rfl) (fun _ _ _ h => h) (by rfl) (fun w' hw' => ?_) (fun _ => rfl) hS0 ?_
        rotate_left
        · (obtain ⟨g0, g1, g2⟩ := hw'; go_simp; try with_reducible rfl)
        refine KeptAny.take (i := 1) (v := ?_) (by kernel_rfl) rfl rfl (by kernel_rfl) (by kernel_rfl) (by kernel_rfl) (fun _ _ _ h => h) (by rfl) (fun w' hw' => ?_) (fun _ => rfl) hS0 ?_
        rotate_left
        · (obtain ⟨g0, g1, g2⟩ := hw'; go_simp; try with_reducible rfl)
        refine KeptAny.take (i := 2) (v := ?_) (by kernel_rfl) rfl rfl (by kernel_rfl) (by kernel_rfl) (by kernel_rfl) (fun _ _ _ h => h) (by rfl) (fun w' hw' => ?_) (fun _ => rfl) hS0 ?_
        rotate_left
        · (obtain ⟨g0, g1, g2⟩ := hw'; go_simp; try with_reducible rfl)
        refine KeptAny.take (i := 3) (v := ?_) (by kernel_rfl) rfl rfl (by kernel_rfl) (by kernel_rfl) (by kernel_rfl) (fun _ _ _ h => h) (by rfl) (fun w' hw' => ?_) (fun _ => rfl) hS0 ?_
        rotate_left
        · (obtain ⟨g0, g1, g2⟩ := hw'; go_simp; try with_reducible rfl)
        refine KeptAny.take (i := 4) (v := ?_) (by kernel_rfl) rfl rfl (by kernel_rfl) (by kernel_rfl) (by kernel_rfl) (fun _ _ _ h => h) (by rfl) (fun w' hw' => ?_) (fun _ => rfl) hS0 ?_
        rotate_left
        · (obtain ⟨g0, g1, g2⟩ := hw'; go_simp; try with_reducible rfl)
        refine KeptAny.take (i := 8) (v := ?_) (by kernel_rfl) rfl rfl (by kernel_rfl) (by kernel_rfl) (by kernel_rfl) (fun _ _ _ h => h) (by rfl) (fun w' hw' => ?_) (fun _ => rfl) hS0 ?_
        rotate_left
        · (obtain ⟨g0, g1, g2⟩ := hw'; go_simp; try with_reducible rfl)
        refine KeptAny.one (i := 5) (by kernel_rfl) rfl (by rfl) (fun K hK => ?_)
        go_simp
        refine ⟨trivial, ?_⟩
        refine PT.out.mono ?_
        rintro e wQ ⟨rfl, rfl⟩
        refine hK.out _ _ HSF.out.1 (fun _ => ?_)
        clear hK hS0
        refine KeptAny.one (i := 6) (by kernel_rfl) rfl (by rfl) (fun K hK => ?_)
        go_simp
        refine hK.out _ _ HSF.out.2 (fun _ => ?_)
        clear hK
        refine KeptAny.one (i := 7) (by kernel_rfl) rfl (by rfl) (fun K hK => ?_)
        go_simp
        refine ⟨trivial, ?_⟩
        refine W.out.mono ?_
        rintro e w5 ⟨v5, hs5, rfl, hO5, hb5⟩
        obtain ⟨o5, c5, rfl, -⟩ := hO5.holds
        have HB5 := Lib.hid (HBF.out.trans (hb5.mono HBF.out.size))
        have HX5 := Lib.hid (HXF.out.below hb5)
        have hS5 := And.intro (cell_grow hb5 HSF.out.2.1) (And.intro (cell_grow hb5 HSF.out.2.2.1) (cell_grow hb5 HSF.out.2.2.2))
        have HO5 := Lib.hid (hO5.lower (Nat.le_trans (show w.heap.size ≤ wE.heap.size from HB2.out.size) HSZ.out))
        refine hK.out _ _ hS5 (fun _ => ?_)
        clear hK hO5 hb5
        have n0 := HX5.out.gr.cell (i := 0) (v := .slice none 0 0) (by rfl)
        have f0 := HX5.out.gr.frozen 0
        have hS6 := And.intro ((cell_far (show w.heap.size ≠ w.heap.size + 1 by omega) 0 (.slice o5 (addP ss i ⟨kind, nm, -1⟩).length c5) (o := 0)).trans hS5.1) (And.intro ((cell_far (show w2.heap.size ≠ w.heap.size + 1 by have := HLE.out; omega) 0 (.slice o5 (addP ss i ⟨kind, nm, -1⟩).length c5) (o := 0)).trans hS5.2.1) ((cell_far (show w2.heap.size ≠ w.heap.size + 1 by have := HLE.out; omega) 0 (.slice o5 (addP ss i ⟨kind, nm, -1⟩).length c5) (o := 1)).trans hS5.2.2))
        refine KeptAny.one (i := 9) (by kernel_rfl) rfl (by rfl) (fun K hK => ?_)
        go_simp
        refine hK.out _ _ hS6 (fun _ => ?_)
        clear hK hS5
        have p0 := (cell_far (show w.heap.size + 1 + 1 ≠ w.heap.size + 1 by omega) 0 (.slice o5 (addP ss i ⟨kind, nm, -1⟩).length c5) (o := 0)).trans (HX5.out.pl.cell (i := 0) (v := .int .i64 0) (by rfl))
        have p1 := (cell_far (show w.heap.size + 1 + 1 ≠ w.heap.size + 1 by omega) 0 (.slice o5 (addP ss i ⟨kind, nm, -1⟩).length c5) (o := 1)).trans (HX5.out.pl.cell (i := 1) (v := .int .i64 0) (by rfl))
        have q0 := HX5.out.pl.frozen 0
        have q1 := HX5.out.pl.frozen 1
        have hne2 : ∀ x y : Value, ∀ W : World, ∀ k m : Nat, m ≠ w.heap.size + 1 + 1 → ((W.setCell ⟨w.heap.size + 1 + 1, 0, none⟩ x).setCell ⟨w.heap.size + 1 + 1, 1, none⟩ y).cell? ⟨m, k, none⟩ = W.cell? ⟨m, k, none⟩ := fun x y W k m h => (cell_far h 1 y).trans (cell_far h 0 x)
        have hS7 := And.intro ((hne2 (.int .i64 (i : Int)) (.int .i64 z) _ 0 w.heap.size (by omega)).trans hS6.1) (And.intro ((hne2 (.int .i64 (i : Int)) (.int .i64 z) _ 0 w2.heap.size (by have := HLE.out; omega)).trans hS6.2.1) ((hne2 (.int .i64 (i : Int)) (.int .i64 z) _ 1 w2.heap.size (by have := HLE.out; omega)).trans hS6.2.2))
        clear hne2
        refine KeptAny.one (i := 10) (by kernel_rfl) rfl (by rfl) (fun K hK => ?_)
        go_simp
        refine hK.out _ _ hS7 (fun _ => ?_)
        clear hK hS6
        refine KeptAny.one (i := 11) (by kernel_rfl) rfl (by rfl) (fun K hK => ?_)
        go_simp
        refine hK.out _ _ hS7 (fun _ => ?_)
        clear hK
        refine KeptAny.done (by kernel_rfl) ?_ _
        go_wp2
        refine bodyPost_ret (v := .tuple #[.agg #[.slice o5 (addP ss i ⟨kind, nm, -1⟩).length c5], .agg #[.int .i64 (i : Int), .int .i64 z], .nilIface]) ?_ rfl (.inr ⟨i, c, .slice o5 (addP ss i ⟨kind, nm, -1⟩).length c5, hs5, rfl, HV.out, HCI.out.1, HCI.out.2, HNM.out, by rw [HZ.out], ?_, ?_⟩)
        · obtain ⟨-, -, d2, d3, d4⟩ := HX5.out.sets (by omega) (.slice o5 (addP ss i ⟨kind, nm, -1⟩).length c5) (.int .i64 (i : Int)) (.int .i64 z)
          simp [results, Tryd.results41, go_sem, d2, d3, d4]
        · refine ⟨HO5.out.len, ?_, fun k t y h1 h2 => ?_, HO5.out.apart⟩
          · exact ownsRow_otherN (ownsRow_otherN (ownsRow_otherN HO5.out.row HX5.out.gr (by decide) 0 _) (HX5.out.pl.other (a := ⟨w.heap.size + 1, 0, none⟩) (by show w.heap.size + 1 ≠ w.heap.size + 1 + 1; omega) _) (by decide) 0 _) ((HX5.out.pl.other (a := ⟨w.heap.size + 1, 0, none⟩) (by show w.heap.size + 1 ≠ w.heap.size + 1 + 1; omega) _).set 0 _) (by decide) 1 _
          · exact ownsRow_otherN (ownsRow_otherN (ownsRow_otherN (HO5.out.items k t y h1 h2) HX5.out.gr (by decide) 0 _) (HX5.out.pl.other (a := ⟨w.heap.size + 1, 0, none⟩) (by show w.heap.size + 1 ≠ w.heap.size + 1 + 1; omega) _) (by decide) 0 _) ((HX5.out.pl.other (a := ⟨w.heap.size + 1, 0, none⟩) (by show w.heap.size + 1 ≠ w.heap.size + 1 + 1; omega) _).set 0 _) (by decide) 1 _
        · repeat (first | exact HB5.out | apply Below.drew | refine Below.setCell ?_ (by simp <;> omega) _)
end Go.Proofs.YthoccmhgjcafnaaDoor
