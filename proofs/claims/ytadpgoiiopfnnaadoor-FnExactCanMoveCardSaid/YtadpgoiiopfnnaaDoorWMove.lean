/-
  The walks of impl's moving and MoveItem: a graph with an item behind those of another scope. Conditions: the argument's memory holds the graph; the package-level errors hold errors; the place's numbers are ones of 64 bits.
-/
import Derived.Test.YtadpgoiiopfnnaaDoorWAddI
import Derived.Test.YtadpgoiiopfnnaaDoorWItemAt
import Derived.Test.YtadpgoiiopfnnaaDoorWRemItem
namespace Go.Proofs.YtadpgoiiopfnnaaDoor
open Go Go.RowKit Go.Maps
/-- The package-level errors of moves hold errors. -/
structure MoveErrs (w : World) : Prop where
  ends : EndErrs w
  item : IsErr w 2
  stays : IsErr w 3
  there : IsErr w 4
theorem MoveErrs.at {w w' : World} (h : MoveErrs w) (hb : Below w.heap.size w w') : MoveErrs w' where
  ends := h.ends.at hb
  item := h.item.below hb (Nat.lt_of_lt_of_le (by decide) h.ends.nodes.trees.size)
  stays := h.stays.below hb (Nat.lt_of_lt_of_le (by decide) h.ends.nodes.trees.size)
  there := h.there.below hb (Nat.lt_of_lt_of_le (by decide) h.ends.nodes.trees.size)
/-- A valid graph with an item that can be moved to a scope. -/
def movOk (ss : List Sc) (a b n : Int) : Prop := Valid ss ∧ ∃ x, itemAtP ss a b = some x ∧ x.scope = -1 ∧ a ≠ n ∧ Room ss n
/-- The graph with an item moved. -/
def movAt (ss : List Sc) (a b n : Int) : List Sc := addP (rmvP ss a.toNat b.toNat) n.toNat ((itemAtP ss a b).getD zeroIt)
/-- What moving answers. -/
def MovingGot (ss : List Sc) (a b n : Int) (w : World) (e : Ending) (w' : World) : Prop :=
  (¬ movOk ss a b n ∧ (∃ tp p, e = .returned (.tuple #[.agg #[.slice none 0 0], .agg #[.int .i64 0, .int .i64 0], .iface tp p])) ∧ Below w.heap.size w w') ∨
  (movOk ss a b n ∧ ∃ (v : Value) (hs : List Value), e = .returned (.tuple #[.agg #[v], .agg #[.int .i64 n, .int .i64 (endAt ss n)], .nilIface]) ∧ OwnGr w' w.heap.size v (movAt ss a b n) hs ∧ Below w.heap.size w w')
/-- An edit that takes the item at a place. -/
theorem edit_take {w : World} {us : List Sc} {i j P : Nat} {s : Sc} {x : It} (hn : us.length ≤ 1048576) (hn2 : ∀ s ∈ us, s.items.length ≤ 1048576) (hs' : us[i]? = some s) (hx : s.items[j]? = some x) (hP : Row w P 34 [.int .i64 (i : Int), .int .i64 (j : Int)]) :
    EditOk w (.func (.func 145) #[] #[.pointer (some ⟨P, 0, none⟩)]) us (rmvP us i j) :=
  ⟨_, _, rfl, enters_of Tryd.func145 (by kernel_rfl) rfl, fun W B g gs cs hs hb _ hB2 hG => taking1_any us hs hn hn2 B g gs cs i j P s x hs' hx W hG hB2 (hP.below hb hP.lt)⟩
set_option maxRecDepth 100000 in
set_option maxHeartbeats 8000000 in
theorem moving_any (ss : List Sc) (hF : Fair ss) (oa : Option Addr) (cap : Nat) (a b n : Int) (ha : (Lit.int .i64 a).wf = true) (hb' : (Lit.int .i64 b).wf = true) (w : World) (hc : HoldsScopes w oa ss) (hE : MoveErrs w) :
    Calls Tryd.prog 71 #[.agg #[.slice oa ss.length cap], .agg #[.int .i64 a, .int .i64 b], .int .i64 n] w (MovingGot ss a b n w) := by
  have hb0 : Below w.heap.size w ((((w.alloc (.cells #[.slice oa ss.length cap] 30)).alloc (.cells #[.int .i64 a, .int .i64 b] 34)).alloc (.cells #[.slice none 0 0] 30)).alloc (.cells #[.int .i64 0, .int .i64 0] 34)) := ((((Below.refl _ _).alloc (Nat.le_refl _) _).alloc (by simp) _).alloc (by simp; omega) _).alloc (by simp; omega) _
  have R1 := (((Row.new w [.slice oa ss.length cap] 30).alloc (.cells #[.int .i64 a, .int .i64 b] 34)).alloc (.cells #[.slice none 0 0] 30)).alloc (.cells #[.int .i64 0, .int .i64 0] 34)
  have R2 := ((Row.new (w.alloc (.cells #[.slice oa ss.length cap] 30)) [.int .i64 a, .int .i64 b] 34).alloc (.cells #[.slice none 0 0] 30)).alloc (.cells #[.int .i64 0, .int .i64 0] 34)
  have R3 := (Row.new ((w.alloc (.cells #[.slice oa ss.length cap] 30)).alloc (.cells #[.int .i64 a, .int .i64 b] 34)) [.slice none 0 0] 30).alloc (.cells #[.int .i64 0, .int .i64 0] 34)
  have R4 := Row.new (((w.alloc (.cells #[.slice oa ss.length cap] 30)).alloc (.cells #[.int .i64 a, .int .i64 b] 34)).alloc (.cells #[.slice none 0 0] 30)) [.int .i64 0, .int .i64 0] 34
  rw [World.size_alloc] at R2
  rw [World.size_alloc, World.size_alloc] at R3
  rw [World.size_alloc, World.size_alloc, World.size_alloc] at R4
  have C := Lib.hid (hF.tree oa cap _ (hc.below hb0 (Nat.le_refl _)) (hE.at hb0).ends.nodes.trees)
  have HB := Lib.hid hb0
  have HR1 := Lib.hid R1
  have HR2 := Lib.hid R2
  have HBX := Lib.hid (⟨R3, R4⟩ : Boxes2 _ _ _)
  have HE := Lib.hid hE
  have HC := Lib.hid hc
  have HF := Lib.hid hF
  have HWF := Lib.hid (And.intro ha hb')
  have g1 := R1.cell (i := 0) (by rfl)
  clear hF hc hE hb0 R1 R2 R3 R4 ha hb'
  go_enter Tryd.func71, Tryd.ntmps71
  go_wp2_with fail
  refine C.out.mono ?_
  rintro e w1 (⟨hv, ⟨tp, p, rfl⟩, hb⟩ | ⟨hv, T, M1, M2, v, ds, rfl, hb, hT⟩)
  · have HN : Hid (¬ movOk ss a b n) := Lib.hid (fun h => hv h.1)
    have HB1 := Lib.hid (HB.out.trans (hb.mono HB.out.size))
    have HX1 := Lib.hid (HBX.out.below hb)
    clear hv hb g1
    have n0 := HX1.out.gr.cell (i := 0) (v := .slice none 0 0) (by rfl)
    have f0 := HX1.out.gr.frozen 0
    have p0 := HX1.out.pl.cell (i := 0) (v := .int .i64 0) (by rfl)
    have p1 := HX1.out.pl.cell (i := 1) (v := .int .i64 0) (by rfl)
    have q0 := HX1.out.pl.frozen 0
    have q1 := HX1.out.pl.frozen 1
    go_wp2
    refine bodyPost_ret (v := .tuple #[.agg #[.slice none 0 0], .agg #[.int .i64 0, .int .i64 0], .iface tp p]) ?_ rfl (.inl ⟨HN.out, ⟨tp, p, rfl⟩, ?_⟩)
    · obtain ⟨-, d1, d2, d3, d4⟩ := HX1.out.sets (by omega) (.slice none 0 0) (.int .i64 0) (.int .i64 0)
      first | (simp [results, Tryd.results71, go_sem]; done) | (simp [results, Tryd.results71, go_sem, d2, d3, d4]; done)
    · repeat (first | exact HB1.out | apply Below.drew | refine Below.setCell ?_ (by simp <;> omega) _)
  · have HB1 := Lib.hid (HB.out.trans (hb.mono HB.out.size))
    have HX1 := Lib.hid (HBX.out.below hb)
    have HG1 := Lib.hid (HR1.out.below hb HR1.out.lt)
    have HP1 := Lib.hid (HR2.out.below hb HR2.out.lt)
    have HV := Lib.hid hv
    have HT1 := Lib.hid hT
    obtain ⟨hhas, hat⟩ := look_item hv.small HWF.out.1 HWF.out.2
    obtain ⟨n1, hm⟩ := hT.items
    obtain ⟨v1, ps, hrun, hv1⟩ := (ownsMap_below hm ((Below.refl _ _).drew)).look_ok (t := 109) (e := 65) placeLaw Tryd.underlying109 (zeroItem _) (itemR_mk zeroIt) (pl_key HWF.out.1 HWF.out.2)
    have hbA := ((Below.refl w1.heap.size w1).alloc (Nat.le_refl _) (.cells #[.int .i64 0, .string ⟨#[]⟩, .int .i64 0] 65)).drew
    obtain ⟨v2, ps2, hrun2, hv2⟩ := (ownsMap_below hm hbA).look_ok (t := 109) (e := 65) placeLaw Tryd.underlying109 (zeroItem _) (itemR_mk zeroIt) (pl_key HWF.out.1 HWF.out.2)
    rw [hat] at hv1 hv2
    obtain rfl := itemR_eq hv1
    obtain rfl := itemR_eq hv2
    rw [hhas] at hrun hrun2
    have T1 := hT.tree.box
    have t1 := T1.cell (i := 1) (by rfl)
    have t1' := (((Below.refl _ _).drew).cell (p := ⟨T, 1, none⟩) T1.lt).trans t1
    have t1A := (hbA.cell (p := ⟨T, 1, none⟩) T1.lt).trans t1
    have p0 := HP1.out.cell (i := 0) (v := .int .i64 a) (by rfl)
    have p1 := HP1.out.cell (i := 1) (v := .int .i64 b) (by rfl)
    have p0A := (hbA.cell (p := ⟨w.heap.size + 1, 0, none⟩) HP1.out.lt).trans p0
    have p1A := (hbA.cell (p := ⟨w.heap.size + 1, 1, none⟩) HP1.out.lt).trans p1
    have hsz1 : w.heap.size + 4 ≤ w1.heap.size := by have h1 := HX1.out.pl.lt; omega
    have HSZ1 := Lib.hid hsz1
    clear hb hhas hat hv1 hv2 hT hm hbA T1 hv g1 hsz1
    generalize hq : (itemAtP ss a b).isSome = ok at hrun hrun2
    generalize hq2 : (itemAtP ss a b).getD zeroIt = x at hrun hrun2
    have HQ := Lib.hid (And.intro hq hq2)
    clear hq hq2
    unfold itV at hrun hrun2
    go_wp2
    go_cut [11, 12] (fun s11 s12 wx => s12 = .bool ok ∧ ∃ g, s11 = .pointer (some ⟨g, 0, none⟩) ∧ w1.heap.size ≤ g ∧ Row wx g 65 [.int .i64 x.kind, .string x.name, .int .i64 x.scope] ∧ Below w1.heap.size w1 wx)
    case first =>
      go_region
      all_goals go_wp2
      all_goals go_meet
      all_goals exact ⟨rfl, _, rfl, Nat.le_refl _, Row.new w1 [.int .i64 x.kind, .string x.name, .int .i64 x.scope] 65, ((Below.refl _ _).alloc (Nat.le_refl _) _).drew⟩
    case rest =>
      obtain ⟨rfl, g, rfl, hg, hrow, hbc⟩ := hcut
      have HB2 := Lib.hid (HB1.out.trans (hbc.mono HB1.out.size))
      have HX2 := Lib.hid (HX1.out.below hbc)
      have HG2 := Lib.hid (HG1.out.below hbc HG1.out.lt)
      have HP2 := Lib.hid (HP1.out.below hbc HP1.out.lt)
      have HT2 := Lib.hid (HT1.out.below hbc)
      have HI2 := Lib.hid hrow
      have HGG := Lib.hid hg
      have k0 := hrow.cell (i := 0) (v := .int .i64 x.kind) (by rfl)
      have k1 := hrow.cell (i := 1) (v := .string x.name) (by rfl)
      have k2 := hrow.cell (i := 2) (v := .int .i64 x.scope) (by rfl)
      have a0 := HP2.out.cell (i := 0) (v := .int .i64 a) (by rfl)
      clear hrun hrun2 t1 t1' t1A p0 p1 p0A p1A hrow hbc hg
      cases ok
      · have HN : Hid (¬ movOk ss a b n) := Lib.hid (by
          rintro ⟨_, y, h1, _⟩
          have h2 := HQ.out.1
          rw [h1] at h2
          cases h2)
        have n0 := HX2.out.gr.cell (i := 0) (v := .slice none 0 0) (by rfl)
        have f0 := HX2.out.gr.frozen 0
        have p0 := HX2.out.pl.cell (i := 0) (v := .int .i64 0) (by rfl)
        have p1 := HX2.out.pl.cell (i := 1) (v := .int .i64 0) (by rfl)
        have q0 := HX2.out.pl.frozen 0
        have q1 := HX2.out.pl.frozen 1
        obtain ⟨tp, p, hen⟩ := (HE.out.at HB2.out).item
        have hg1 : 2 ≠ w.heap.size + 1 + 1 := Nat.ne_of_lt (Nat.lt_of_lt_of_le (by decide) (Nat.le_trans HE.out.ends.nodes.trees.size (by omega)))
        have hg2 : 2 ≠ w.heap.size + 1 + 1 + 1 := Nat.ne_of_lt (Nat.lt_of_lt_of_le (by decide) (Nat.le_trans HE.out.ends.nodes.trees.size (by omega)))
        have e1 := (cell_far hg1 0 (.slice none 0 0) (o := 0)).trans hen
        have e2 := (cell_far hg2 0 (.int .i64 0) (o := 0)).trans e1
        have e3 := (cell_far hg2 1 (.int .i64 0) (o := 0)).trans e2
        clear hg1 hg2
        go_wp2
        go_region
        all_goals go_wp2
        all_goals (
          refine bodyPost_ret (v := .tuple #[.agg #[.slice none 0 0], .agg #[.int .i64 0, .int .i64 0], .iface tp p]) ?_ rfl (.inl ⟨HN.out, ⟨tp, p, rfl⟩, ?_⟩)
          · obtain ⟨-, d1, d2, d3, d4⟩ := HX2.out.sets (by omega) (.slice none 0 0) (.int .i64 0) (.int .i64 0)
            first | (simp [results, Tryd.results71, go_sem]; done) | (simp [results, Tryd.results71, go_sem, d2, d3, d4]; done)
          · repeat (first | exact HB2.out | apply Below.drew | refine Below.setCell ?_ (by simp <;> omega) _))
      · have HY : Hid (itemAtP ss a b = some x) := Lib.hid (by
          have h1 := HQ.out.1
          have h2 := HQ.out.2
          cases h3 : itemAtP ss a b with
          | none => rw [h3] at h1; cases h1
          | some y => rw [h3] at h2; exact congrArg some h2)
        by_cases hsc : x.scope = -1
        case neg =>
          have hsb : (x.scope != -1) = true := by simpa using hsc
          have hsb' : (x.scope == -1) = false := by simpa using hsc
          have HN : Hid (¬ movOk ss a b n) := Lib.hid (by
            rintro ⟨_, y, h1, h2, _⟩
            rw [HY.out] at h1
            obtain rfl := Option.some.inj h1
            exact hsc h2)
          clear hsc
          have n0 := HX2.out.gr.cell (i := 0) (v := .slice none 0 0) (by rfl)
          have f0 := HX2.out.gr.frozen 0
          have p0 := HX2.out.pl.cell (i := 0) (v := .int .i64 0) (by rfl)
          have p1 := HX2.out.pl.cell (i := 1) (v := .int .i64 0) (by rfl)
          have q0 := HX2.out.pl.frozen 0
          have q1 := HX2.out.pl.frozen 1
          obtain ⟨tp, p, hen⟩ := (HE.out.at HB2.out).stays
          have hg1 : 3 ≠ w.heap.size + 1 + 1 := Nat.ne_of_lt (Nat.lt_of_lt_of_le (by decide) (Nat.le_trans HE.out.ends.nodes.trees.size (by omega)))
          have hg2 : 3 ≠ w.heap.size + 1 + 1 + 1 := Nat.ne_of_lt (Nat.lt_of_lt_of_le (by decide) (Nat.le_trans HE.out.ends.nodes.trees.size (by omega)))
          have e1 := (cell_far hg1 0 (.slice none 0 0) (o := 0)).trans hen
          have e2 := (cell_far hg2 0 (.int .i64 0) (o := 0)).trans e1
          have e3 := (cell_far hg2 1 (.int .i64 0) (o := 0)).trans e2
          clear hg1 hg2
          go_wp2
          go_region
          all_goals go_wp2
          all_goals (
            refine bodyPost_ret (v := .tuple #[.agg #[.slice none 0 0], .agg #[.int .i64 0, .int .i64 0], .iface tp p]) ?_ rfl (.inl ⟨HN.out, ⟨tp, p, rfl⟩, ?_⟩)
            · obtain ⟨-, d1, d2, d3, d4⟩ := HX2.out.sets (by omega) (.slice none 0 0) (.int .i64 0) (.int .i64 0)
              first | (simp [results, Tryd.results71, go_sem]; done) | (simp [results, Tryd.results71, go_sem, d2, d3, d4]; done)
            · repeat (first | exact HB2.out | apply Below.drew | refine Below.setCell ?_ (by simp <;> omega) _))
        case pos =>
        rw [hsc] at k2
        have HSC := Lib.hid hsc
        clear hsc
        by_cases han : a = n
        case pos =>
          have hab : (a == n) = true := by simpa using han
          have HN : Hid (¬ movOk ss a b n) := Lib.hid (fun h => by
            obtain ⟨_, y, h1, h2, h3, _⟩ := h
            exact h3 han)
          clear han
          have n0 := HX2.out.gr.cell (i := 0) (v := .slice none 0 0) (by rfl)
          have f0 := HX2.out.gr.frozen 0
          have p0 := HX2.out.pl.cell (i := 0) (v := .int .i64 0) (by rfl)
          have p1 := HX2.out.pl.cell (i := 1) (v := .int .i64 0) (by rfl)
          have q0 := HX2.out.pl.frozen 0
          have q1 := HX2.out.pl.frozen 1
          obtain ⟨tp, p, hen⟩ := (HE.out.at HB2.out).there
          have hg1 : 4 ≠ w.heap.size + 1 + 1 := Nat.ne_of_lt (Nat.lt_of_lt_of_le (by decide) (Nat.le_trans HE.out.ends.nodes.trees.size (by omega)))
          have hg2 : 4 ≠ w.heap.size + 1 + 1 + 1 := Nat.ne_of_lt (Nat.lt_of_lt_of_le (by decide) (Nat.le_trans HE.out.ends.nodes.trees.size (by omega)))
          have e1 := (cell_far hg1 0 (.slice none 0 0) (o := 0)).trans hen
          have e2 := (cell_far hg2 0 (.int .i64 0) (o := 0)).trans e1
          have e3 := (cell_far hg2 1 (.int .i64 0) (o := 0)).trans e2
          clear hg1 hg2
          go_wp2
          go_region
          all_goals go_wp2
          all_goals (
            refine bodyPost_ret (v := .tuple #[.agg #[.slice none 0 0], .agg #[.int .i64 0, .int .i64 0], .iface tp p]) ?_ rfl (.inl ⟨HN.out, ⟨tp, p, rfl⟩, ?_⟩)
            · obtain ⟨-, d1, d2, d3, d4⟩ := HX2.out.sets (by omega) (.slice none 0 0) (.int .i64 0) (.int .i64 0)
              first | (simp [results, Tryd.results71, go_sem]; done) | (simp [results, Tryd.results71, go_sem, d2, d3, d4]; done)
            · repeat (first | exact HB2.out | apply Below.drew | refine Below.setCell ?_ (by simp <;> omega) _))
        case neg =>
        have hab : (a == n) = false := by simpa using han
        have HAN := Lib.hid han
        have C2 := Lib.hid (endOf_any HV.out HT2.out (HE.out.at HB2.out).ends n)
        clear han
        go_wp2_with fail
        refine C2.out.mono ?_
        rintro e w2 (⟨hn, ⟨tp, p, rfl⟩, hb2⟩ | ⟨k, d, rfl, hdk, hl5, rfl, hb2⟩)
        · have HN : Hid (¬ movOk ss a b n) := Lib.hid (fun h => by
            obtain ⟨_, y, h1, h2, h3, h4⟩ := h
            exact hn h4)
          have hb3 := hb2.trans ((Below.refl w2.heap.size w2).alloc (Nat.le_refl _) (.cells #[.int .i64 0, .int .i64 0] 34) |>.mono hb2.size)
          have HB3 := Lib.hid (HB2.out.trans (hb3.mono HB2.out.size))
          have HX3 := Lib.hid (HX2.out.below hb3)
          clear hn hb2 hb3 k0 k1 k2 a0
          have n0 := HX3.out.gr.cell (i := 0) (v := .slice none 0 0) (by rfl)
          have f0 := HX3.out.gr.frozen 0
          have p0 := HX3.out.pl.cell (i := 0) (v := .int .i64 0) (by rfl)
          have p1 := HX3.out.pl.cell (i := 1) (v := .int .i64 0) (by rfl)
          have q0 := HX3.out.pl.frozen 0
          have q1 := HX3.out.pl.frozen 1
          go_wp2
          refine bodyPost_ret (v := .tuple #[.agg #[.slice none 0 0], .agg #[.int .i64 0, .int .i64 0], .iface tp p]) ?_ rfl (.inl ⟨HN.out, ⟨tp, p, rfl⟩, ?_⟩)
          · obtain ⟨-, d1, d2, d3, d4⟩ := HX3.out.sets (by omega) (.slice none 0 0) (.int .i64 0) (.int .i64 0)
            first | (simp [results, Tryd.results71, go_sem]; done) | (simp [results, Tryd.results71, go_sem, d2, d3, d4]; done)
          · repeat (first | exact HB3.out | apply Below.drew | refine Below.setCell ?_ (by simp <;> omega) _)
        · obtain ⟨i, j, c, rfl, rfl, hci, hxj⟩ := item_where HY.out
          obtain ⟨z, hz⟩ : ∃ z : Int, (d.items.length : Int) = z := ⟨_, rfl⟩
          rw [hz]
          have hki : k ≠ i := fun e => HAN.out (by rw [e])
          obtain ⟨tt, htt⟩ : ∃ tt, addP (rmvP ss i j) k x = tt := ⟨_, rfl⟩
          have HK : Hid (movOk ss (i : Int) (j : Int) (k : Int) ∧ movAt ss (i : Int) (j : Int) (k : Int) = tt ∧ endAt ss (k : Int) = z) := Lib.hid ⟨⟨HV.out, x, HY.out, HSC.out, HAN.out, HV.out, k, d, rfl, hdk, hl5⟩, by unfold movAt; rw [HY.out, Int.toNat_natCast, Int.toNat_natCast, Int.toNat_natCast]; exact htt, by rw [endAt_nat hdk, hz]⟩
          obtain ⟨wE, hwE⟩ : ∃ wE, wE = w2.alloc (.cells #[.int .i64 (k : Int), .int .i64 z] 34) := ⟨_, rfl⟩
          have hb3 := hb2.trans ((Below.refl w2.heap.size w2).alloc (Nat.le_refl _) (.cells #[.int .i64 (k : Int), .int .i64 z] 34) |>.mono hb2.size)
          rw [← hwE] at hb3
          have REr := Row.new w2 [.int .i64 (k : Int), .int .i64 z] 34
          rw [show w2.alloc (.cells [Value.int .i64 (k : Int), .int .i64 z].toArray 34) = wE from hwE.symm] at REr
          have HB3 := Lib.hid (HB2.out.trans (hb3.mono HB2.out.size))
          have HX3 := Lib.hid (HX2.out.below hb3)
          have hG3 := HG2.out.below hb3 HG2.out.lt
          have hP3 := HP2.out.below hb3 HP2.out.lt
          have hI3 := HI2.out.below hb3 HI2.out.lt
          rw [HSC.out] at hI3
          have hS0 := And.intro (cell_drew (hG3.cell (i := 0) (v := .slice oa ss.length cap) (by rfl))) (And.intro (cell_drew (hP3.cell (i := 0) (v := .int .i64 (i : Int)) (by rfl))) (And.intro (cell_drew (hP3.cell (i := 1) (v := .int .i64 (j : Int)) (by rfl))) (And.intro (cell_drew (hI3.cell (i := 0) (v := .int .i64 x.kind) (by rfl))) (And.intro (cell_drew (hI3.cell (i := 1) (v := .string x.name) (by rfl))) (And.intro (cell_drew (hI3.cell (i := 2) (v := .int .i64 (-1)) (by rfl))) (And.intro (cell_drew (REr.cell (i := 0) (v := .int .i64 (k : Int)) (by rfl))) (cell_drew (REr.cell (i := 1) (v := .int .i64 z) (by rfl)))))))))
          -- the edits, their slice, the call
          obtain ⟨wT, hwT⟩ : ∃ wT, wT = wE.drew.alloc (.cells #[.int .i64 (i : Int), .int .i64 (j : Int)] 34) := ⟨_, rfl⟩
          have hszE : wE.drew.heap.size = wE.heap.size := rfl
          have hszT : wT.heap.size = wE.heap.size + 1 := by rw [hwT, World.size_alloc, hszE]
          have hbT : Below wE.heap.size wE wT := by rw [hwT]; exact (Below.refl _ _).drew.alloc (Nat.le_refl _) _
          have hP1 : Row wT wE.heap.size 34 [.int .i64 (i : Int), .int .i64 (j : Int)] := by rw [hwT]; exact Row.new wE.drew [.int .i64 (i : Int), .int .i64 (j : Int)] 34
          obtain ⟨wP, hwP⟩ : ∃ wP, wP = (wT.alloc (.cells #[.int .i64 (k : Int)] 3)).alloc (.cells #[.int .i64 x.kind, .string x.name, .int .i64 (-1)] 65) := ⟨_, rfl⟩
          have hbP : Below wT.heap.size wT wP := by rw [hwP]; exact ((Below.refl _ _).alloc (Nat.le_refl _) _).alloc (by rw [World.size_alloc]; exact Nat.le_succ _) _
          have hS1 : Row wP wT.heap.size 3 [.int .i64 (k : Int)] := by rw [hwP]; exact (Row.new wT [.int .i64 (k : Int)] 3).alloc _
          have hX1 : Row wP (wT.heap.size + 1) 65 [.int .i64 x.kind, .string x.name, .int .i64 (-1)] := by
            have h := Row.new (wT.alloc (.cells #[.int .i64 (k : Int)] 3)) [.int .i64 x.kind, .string x.name, .int .i64 (-1)] 65
            rw [World.size_alloc] at h
            rw [hwP]; exact h
          rw [hszT] at hS1 hX1
          obtain ⟨u1, hu1⟩ : ∃ u : Value, u = .func (.func 145) #[] #[.pointer (some ⟨wE.heap.size, 0, none⟩)] := ⟨_, rfl⟩
          obtain ⟨u2, hu2⟩ : ∃ u : Value, u = .func (.func 144) #[] #[.pointer (some ⟨wE.heap.size + 1, 0, none⟩), .pointer (some ⟨wE.heap.size + 1 + 1, 0, none⟩)] := ⟨_, rfl⟩
          have hbF := hbP.trans ((Below.refl wP.heap.size wP).alloc (Nat.le_refl _) (.cells #[u1, u2] 143) |>.mono hbP.size)
          have RF := Row.new wP [u1, u2] 143
          have hS2 := hS1.alloc (.cells #[u1, u2] 143)
          have hX2 := hX1.alloc (.cells #[u1, u2] 143)
          have hP2 := hP1.below hbF hP1.lt
          have hHF : HoldsFuncs (wP.alloc (.cells #[u1, u2] 143)) (some ⟨wP.heap.size, 0, none⟩) [u1, u2] := .inr ⟨_, 0, rfl, RF.lt, fun k z hz => by
            rw [Nat.zero_add]; exact RF.cell hz⟩
          have hEd : Edits (wP.alloc (.cells #[u1, u2] 143)) [u1, u2] ss tt := by
            have h1 := edit_take (us := ss) HF.out.count (fun t ht => by have := HV.out.five t ht; omega) hci hxj hP2
            have hr := Valid.rmv HV.out i j
            have hX3 : Row (wP.alloc (.cells #[u1, u2] 143)) (wE.heap.size + 1 + 1) 65 [.int .i64 x.kind, .string x.name, .int .i64 x.scope] := by rw [HSC.out]; exact hX2
            have h2 := edit_put (us := rmvP ss i j) (x := x) (by rw [rmvP_length]; exact HF.out.count) (fun t ht => by have := hr.five t ht; omega) ((rmvP_other hki).trans hdk) hS2 hX3
            rw [← hu1] at h1
            rw [← hu2, htt] at h2
            exact .cons h1 (.cons h2 (.nil _))
          have W := Lib.hid ((callsIn_wide (n := 5)).2 (with_any ss tt HF.out (by have := HV.out.count; omega) oa (some ⟨wP.heap.size, 0, none⟩) cap 2 [u1, u2] (by simp) _ (HC.out.below (HB3.out.trans ((hbT.trans (hbF.mono hbT.size)).mono HB3.out.size)) (Nat.le_refl _)) hHF hEd))
          have TK : Hid (CallsIn Fence.wide 5 Tryd.prog 113 #[.agg #[.int .i64 (i : Int), .int .i64 (j : Int)]] wE.drew fun e w' => e = .returned u1 ∧ w' = wT) := Lib.hid (((callsIn_wide (n := 5)).2 (taking_any (i : Int) (j : Int) wE.drew)).mono (by
            rintro e w' ⟨rfl, rfl⟩
            exact ⟨by rw [hu1]; rfl, hwT.symm⟩))
          have PT : Hid (CallsIn Fence.wide 5 Tryd.prog 111 #[.int .i64 (k : Int), .agg #[.int .i64 x.kind, .string x.name, .int .i64 (-1)]] wT fun e w' => e = .returned u2 ∧ w' = wP) := Lib.hid (((callsIn_wide (n := 5)).2 (by have h := putting_any (k : Int) x wT; rw [HSC.out] at h; exact h)).mono (by
            rintro e w' ⟨rfl, rfl⟩
            exact ⟨by rw [hu2, hszT], hwP.symm⟩))
          have hbPE := hbT.trans (hbP.mono hbT.size)
          have hbFE := hbT.trans (hbF.mono hbT.size)
          have hST := And.intro (cell_grow hbT (hS0.1)) (And.intro (cell_grow hbT (hS0.2.1)) (And.intro (cell_grow hbT (hS0.2.2.1)) (And.intro (cell_grow hbT (hS0.2.2.2.1)) (And.intro (cell_grow hbT (hS0.2.2.2.2.1)) (And.intro (cell_grow hbT (hS0.2.2.2.2.2.1)) (And.intro (cell_grow hbT (hS0.2.2.2.2.2.2.1)) (cell_grow hbT (hS0.2.2.2.2.2.2.2))))))))
          have hSP := And.intro (cell_grow hbPE (hS0.1)) (And.intro (cell_grow hbPE (hS0.2.1)) (And.intro (cell_grow hbPE (hS0.2.2.1)) (And.intro (cell_grow hbPE (hS0.2.2.2.1)) (And.intro (cell_grow hbPE (hS0.2.2.2.2.1)) (And.intro (cell_grow hbPE (hS0.2.2.2.2.2.1)) (And.intro (cell_grow hbPE (hS0.2.2.2.2.2.2.1)) (cell_grow hbPE (hS0.2.2.2.2.2.2.2))))))))
          have hSF := And.intro (cell_grow hbFE (hS0.1)) (And.intro (cell_grow hbFE (hS0.2.1)) (And.intro (cell_grow hbFE (hS0.2.2.1)) (And.intro (cell_grow hbFE (hS0.2.2.2.1)) (And.intro (cell_grow hbFE (hS0.2.2.2.2.1)) (And.intro (cell_grow hbFE (hS0.2.2.2.2.2.1)) (And.intro (cell_grow hbFE (hS0.2.2.2.2.2.2.1)) (cell_grow hbFE (hS0.2.2.2.2.2.2.2))))))))
          have HBF := Lib.hid (HB3.out.trans (hbFE.mono HB3.out.size))
          have HXF := Lib.hid (HX3.out.below hbFE)
          have HSF := Lib.hid (And.intro hST (And.intro hSP hSF))
          have HLE : Hid (w.heap.size + 4 ≤ w2.heap.size ∧ w.heap.size + 4 ≤ g) := Lib.hid ⟨by have h1 := HX2.out.pl.lt; have h2 := hb2.size; omega, by have h1 := HSZ1.out; have h2 := HGG.out; omega⟩
          have HSZ := Lib.hid (show wE.heap.size ≤ (wP.alloc (.cells #[u1, u2] 143)).heap.size from hbFE.size)
          clear hz hdk hl5 hb2 hb3 hbP hbF RF hS1 hX1 hS2 hX2 hHF hEd REr hwP hszE hSP hSF hST hbT hbPE hbFE hP1 hP2 hwT hG3 hP3 hI3 hci hxj hki htt k0 k1 k2 a0
          subst hu1 hu2
          go_wp2
          rw [← hwE]
          clear hwE
          refine wp_region_kept (S := fun w' => w'.cell? ⟨w.heap.size, 0, none⟩ = some (.slice oa ss.length cap) ∧ w'.cell? ⟨w.heap.size + 1, 0, none⟩ = some (.int .i64 (i : Int)) ∧ w'.cell? ⟨w.heap.size + 1, 1, none⟩ = some (.int .i64 (j : Int)) ∧ w'.cell? ⟨g, 0, none⟩ = some (.int .i64 x.kind) ∧ w'.cell? ⟨g, 1, none⟩ = some (.string x.name) ∧ w'.cell? ⟨g, 2, none⟩ = some (.int .i64 (-1)) ∧ w'.cell? ⟨w2.heap.size, 0, none⟩ = some (.int .i64 (k : Int)) ∧ w'.cell? ⟨w2.heap.size, 1, none⟩ = some (.int .i64 z)) 11 (by kernel_rfl) ?_
          refine KeptAny.take (i := 0) (v := ?_) (by kernel_rfl) rfl rfl (by kernel_rfl) (by kernel_rfl) (by kernel_rfl) (fun _ _ _ h => h) (by rfl) (fun w' hw' => ?_) (fun _ => rfl) hS0 ?_
          rotate_left
          · (obtain ⟨g0, g1, g2, g3, g4, g5, g6, g7⟩ := hw'; go_simp; try with_reducible rfl)
          refine KeptAny.take (i := 1) (v := ?_) (by kernel_rfl) rfl rfl (by kernel_rfl) (by kernel_rfl) (by kernel_rfl) (fun _ _ _ h => h) (by rfl) (fun w' hw' => ?_) (fun _ => rfl) hS0 ?_
          rotate_left
          · (obtain ⟨g0, g1, g2, g3, g4, g5, g6, g7⟩ := hw'; go_simp; try with_reducible rfl)
          refine KeptAny.take (i := 3) (v := ?_) (by kernel_rfl) rfl rfl (by kernel_rfl) (by kernel_rfl) (by kernel_rfl) (fun _ _ _ h => h) (by rfl) (fun w' hw' => ?_) (fun _ => rfl) hS0 ?_
          rotate_left
          · (obtain ⟨g0, g1, g2, g3, g4, g5, g6, g7⟩ := hw'; go_simp; try with_reducible rfl)
          refine KeptAny.take (i := 4) (v := ?_) (by kernel_rfl) rfl rfl (by kernel_rfl) (by kernel_rfl) (by kernel_rfl) (fun _ _ _ h => h) (by rfl) (fun w' hw' => ?_) (fun _ => rfl) hS0 ?_
          rotate_left
          · (obtain ⟨g0, g1, g2, g3, g4, g5, g6, g7⟩ := hw'; go_simp; try with_reducible rfl)
          refine KeptAny.take (i := 8) (v := ?_) (by kernel_rfl) rfl rfl (by kernel_rfl) (by kernel_rfl) (by kernel_rfl) (fun _ _ _ h => h) (by rfl) (fun w' hw' => ?_) (fun _ => rfl) hS0 ?_
          rotate_left
          · (obtain ⟨g0, g1, g2, g3, g4, g5, g6, g7⟩ := hw'; go_simp; try with_reducible rfl)
          refine KeptAny.one (i := 2) (by kernel_rfl) rfl (by rfl) (fun K hK => ?_)
          go_simp
          refine ⟨trivial, ?_⟩
          refine TK.out.mono ?_
          rintro e wQ ⟨rfl, rfl⟩
          refine hK.out _ _ HSF.out.1 (fun _ => ?_)
          clear hK hS0
          refine KeptAny.one (i := 5) (by kernel_rfl) rfl (by rfl) (fun K hK => ?_)
          go_simp
          refine ⟨trivial, ?_⟩
          refine PT.out.mono ?_
          rintro e wQ2 ⟨rfl, rfl⟩
          refine hK.out _ _ HSF.out.2.1 (fun _ => ?_)
          clear hK
          refine KeptAny.one (i := 6) (by kernel_rfl) rfl (by rfl) (fun K hK => ?_)
          go_simp
          refine hK.out _ _ HSF.out.2.2 (fun _ => ?_)
          clear hK
          refine KeptAny.one (i := 7) (by kernel_rfl) rfl (by rfl) (fun K hK => ?_)
          go_simp
          refine ⟨trivial, ?_⟩
          refine W.out.mono ?_
          rintro e w5 ⟨v5, hs5, rfl, hO5, hb5⟩
          obtain ⟨o5, c5, rfl, -⟩ := hO5.holds
          have HB5 := Lib.hid (HBF.out.trans (hb5.mono HBF.out.size))
          have HX5 := Lib.hid (HXF.out.below hb5)
          have hS5 := And.intro (cell_grow hb5 (HSF.out.2.2.1)) (And.intro (cell_grow hb5 (HSF.out.2.2.2.1)) (And.intro (cell_grow hb5 (HSF.out.2.2.2.2.1)) (And.intro (cell_grow hb5 (HSF.out.2.2.2.2.2.1)) (And.intro (cell_grow hb5 (HSF.out.2.2.2.2.2.2.1)) (And.intro (cell_grow hb5 (HSF.out.2.2.2.2.2.2.2.1)) (And.intro (cell_grow hb5 (HSF.out.2.2.2.2.2.2.2.2.1)) (cell_grow hb5 (HSF.out.2.2.2.2.2.2.2.2.2))))))))
          have HO5 := Lib.hid (hO5.lower (Nat.le_trans (show w.heap.size ≤ wE.heap.size from HB3.out.size) HSZ.out))
          refine hK.out _ _ hS5 (fun _ => ?_)
          clear hK hO5 hb5
          have n0 := HX5.out.gr.cell (i := 0) (v := .slice none 0 0) (by rfl)
          have f0 := HX5.out.gr.frozen 0
          have hS6 := And.intro ((cell_far (show w.heap.size ≠ w.heap.size + 1 + 1 by omega) 0 (.slice o5 tt.length c5) (o := 0)).trans hS5.1) (And.intro ((cell_far (show w.heap.size + 1 ≠ w.heap.size + 1 + 1 by omega) 0 (.slice o5 tt.length c5) (o := 0)).trans hS5.2.1) (And.intro ((cell_far (show w.heap.size + 1 ≠ w.heap.size + 1 + 1 by omega) 0 (.slice o5 tt.length c5) (o := 1)).trans hS5.2.2.1) (And.intro ((cell_far (show g ≠ w.heap.size + 1 + 1 by have := HLE.out; omega) 0 (.slice o5 tt.length c5) (o := 0)).trans hS5.2.2.2.1) (And.intro ((cell_far (show g ≠ w.heap.size + 1 + 1 by have := HLE.out; omega) 0 (.slice o5 tt.length c5) (o := 1)).trans hS5.2.2.2.2.1) (And.intro ((cell_far (show g ≠ w.heap.size + 1 + 1 by have := HLE.out; omega) 0 (.slice o5 tt.length c5) (o := 2)).trans hS5.2.2.2.2.2.1) (And.intro ((cell_far (show w2.heap.size ≠ w.heap.size + 1 + 1 by have := HLE.out; omega) 0 (.slice o5 tt.length c5) (o := 0)).trans hS5.2.2.2.2.2.2.1) ((cell_far (show w2.heap.size ≠ w.heap.size + 1 + 1 by have := HLE.out; omega) 0 (.slice o5 tt.length c5) (o := 1)).trans hS5.2.2.2.2.2.2.2)))))))
          refine KeptAny.one (i := 9) (by kernel_rfl) rfl (by rfl) (fun K hK => ?_)
          go_simp
          refine hK.out _ _ hS6 (fun _ => ?_)
          clear hK hS5
          have p0 := (cell_far (show w.heap.size + 1 + 1 + 1 ≠ w.heap.size + 1 + 1 by omega) 0 (.slice o5 tt.length c5) (o := 0)).trans (HX5.out.pl.cell (i := 0) (v := .int .i64 0) (by rfl))
          have p1 := (cell_far (show w.heap.size + 1 + 1 + 1 ≠ w.heap.size + 1 + 1 by omega) 0 (.slice o5 tt.length c5) (o := 1)).trans (HX5.out.pl.cell (i := 1) (v := .int .i64 0) (by rfl))
          have q0 := HX5.out.pl.frozen 0
          have q1 := HX5.out.pl.frozen 1
          have hS7 := And.intro ((cell_far (show w.heap.size ≠ w.heap.size + 1 + 1 + 1 by omega) 1 (.int .i64 z) (o := 0)).trans ((cell_far (show w.heap.size ≠ w.heap.size + 1 + 1 + 1 by omega) 0 (.int .i64 (k : Int)) (o := 0)).trans (hS6.1))) (And.intro ((cell_far (show w.heap.size + 1 ≠ w.heap.size + 1 + 1 + 1 by omega) 1 (.int .i64 z) (o := 0)).trans ((cell_far (show w.heap.size + 1 ≠ w.heap.size + 1 + 1 + 1 by omega) 0 (.int .i64 (k : Int)) (o := 0)).trans (hS6.2.1))) (And.intro ((cell_far (show w.heap.size + 1 ≠ w.heap.size + 1 + 1 + 1 by omega) 1 (.int .i64 z) (o := 1)).trans ((cell_far (show w.heap.size + 1 ≠ w.heap.size + 1 + 1 + 1 by omega) 0 (.int .i64 (k : Int)) (o := 1)).trans (hS6.2.2.1))) (And.intro ((cell_far (show g ≠ w.heap.size + 1 + 1 + 1 by have := HLE.out; omega) 1 (.int .i64 z) (o := 0)).trans ((cell_far (show g ≠ w.heap.size + 1 + 1 + 1 by have := HLE.out; omega) 0 (.int .i64 (k : Int)) (o := 0)).trans (hS6.2.2.2.1))) (And.intro ((cell_far (show g ≠ w.heap.size + 1 + 1 + 1 by have := HLE.out; omega) 1 (.int .i64 z) (o := 1)).trans ((cell_far (show g ≠ w.heap.size + 1 + 1 + 1 by have := HLE.out; omega) 0 (.int .i64 (k : Int)) (o := 1)).trans (hS6.2.2.2.2.1))) (And.intro ((cell_far (show g ≠ w.heap.size + 1 + 1 + 1 by have := HLE.out; omega) 1 (.int .i64 z) (o := 2)).trans ((cell_far (show g ≠ w.heap.size + 1 + 1 + 1 by have := HLE.out; omega) 0 (.int .i64 (k : Int)) (o := 2)).trans (hS6.2.2.2.2.2.1))) (And.intro ((cell_far (show w2.heap.size ≠ w.heap.size + 1 + 1 + 1 by have := HLE.out; omega) 1 (.int .i64 z) (o := 0)).trans ((cell_far (show w2.heap.size ≠ w.heap.size + 1 + 1 + 1 by have := HLE.out; omega) 0 (.int .i64 (k : Int)) (o := 0)).trans (hS6.2.2.2.2.2.2.1))) ((cell_far (show w2.heap.size ≠ w.heap.size + 1 + 1 + 1 by have := HLE.out; omega) 1 (.int .i64 z) (o := 1)).trans ((cell_far (show w2.heap.size ≠ w.heap.size + 1 + 1 + 1 by have := HLE.out; omega) 0 (.int .i64 (k : Int)) (o := 1)).trans (hS6.2.2.2.2.2.2.2)))))))))
          refine KeptAny.one (i := 10) (by kernel_rfl) rfl (by rfl) (fun K hK => ?_)
          go_simp
          refine hK.out _ _ hS7 (fun _ => ?_)
          clear hK hS6
          refine KeptAny.one (i := 11) (by kernel_rfl) rfl (by rfl) (fun K hK => ?_)
          go_simp
          refine hK.out _ _ hS7 (fun _ => ?_)
          clear hK
          refine KeptAny.done (by kernel_rfl) ?_ _
          go_wp2
          refine bodyPost_ret (v := .tuple #[.agg #[.slice o5 tt.length c5], .agg #[.int .i64 (k : Int), .int .i64 z], .nilIface]) ?_ rfl (.inr ⟨HK.out.1, .slice o5 tt.length c5, hs5, by rw [HK.out.2.2], ?_, ?_⟩)
          · obtain ⟨-, -, d2, d3, d4⟩ := HX5.out.sets (by omega) (.slice o5 tt.length c5) (.int .i64 (k : Int)) (.int .i64 z)
            simp [results, Tryd.results71, go_sem, d2, d3, d4]
          · rw [HK.out.2.1]
            exact ((HO5.out.past HX5.out.gr).pastP (HX5.out.pl.other (a := ⟨w.heap.size + 1 + 1, 0, none⟩) (by show w.heap.size + 1 + 1 ≠ w.heap.size + 1 + 1 + 1; omega) _)).pastP ((HX5.out.pl.other (a := ⟨w.heap.size + 1 + 1, 0, none⟩) (by show w.heap.size + 1 + 1 ≠ w.heap.size + 1 + 1 + 1; omega) _).set 0 _)
          · repeat (first | exact HB5.out | apply Below.drew | refine Below.setCell ?_ (by simp <;> omega) _)
end Go.Proofs.YtadpgoiiopfnnaaDoor
