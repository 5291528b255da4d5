/-
  The walks of the given l7RawAddDeclaration, AddDeclaration, l7RawAddImport, AddImport, l7RawMoveItem, MoveItem. Condition: the argument's memory holds the graph.
-/
import Derived.Test.YthoccmhgjcafnaaDoorWSpecAdd
import Derived.Test.YthoccmhgjcafnaaDoorWMove
namespace Go.Proofs.YthoccmhgjcafnaaDoor
open Go Go.RowKit
/-- What a given raw function answers: a graph and a truth; a graph, a place and a truth. -/
def RawGr (ok : Prop) (l : List Sc) (w : World) (e : Ending) (w' : World) : Prop :=
  (¬ ok ∧ e = .returned (.tuple #[.agg #[.slice none 0 0], .bool false]) ∧ Below w.heap.size w w') ∨
  (ok ∧ ∃ ov cv, e = .returned (.tuple #[.agg #[.slice ov l.length cv], .bool true]) ∧ HoldsScopes w' ov l ∧ Below w.heap.size w w')
def RawGrPl (ok : Prop) (l : List Sc) (a b : Int) (w : World) (e : Ending) (w' : World) : Prop :=
  (¬ ok ∧ e = .returned (.tuple #[.agg #[.slice none 0 0], .agg #[.int .i64 0, .int .i64 0], .bool false]) ∧ Below w.heap.size w w') ∨
  (ok ∧ ∃ ov cv, e = .returned (.tuple #[.agg #[.slice ov l.length cv], .agg #[.int .i64 a, .int .i64 b], .bool true]) ∧ HoldsScopes w' ov l ∧ Below w.heap.size w w')
theorem OwnGr.holdsAt {w : World} {B : Nat} {o : Option Addr} {n c : Nat} {l : List Sc} {hs : List Value} (h : OwnGr w B (.slice o n c) l hs) : HoldsScopes w o l := by
  obtain ⟨_, _, he, hh⟩ := h.holds
  simp only [Value.slice.injEq] at he
  rw [he.1]
  exact hh
theorem addOk.valid {ss : List Sc} {n kind : Int} {nm : ByteArray} (h : addOk ss n nm) (hk : kind = 1 ∨ kind = 3) : Valid (addAt ss n kind nm) := by
  obtain ⟨⟨hv, i, c, rfl, hci, hl⟩, hn⟩ := h
  unfold addAt
  rw [Int.toNat_natCast]
  exact Valid.add hv hci hl (by rcases hk with rfl | rfl <;> simp [itemB, hn, inB]) rfl
theorem item_good {ss : List Sc} (hv : Valid ss) {i j : Nat} {c : Sc} {x : It} (h1 : ss[i]? = some c) (h2 : c.items[j]? = some x) : itemB x = true ∧ modB ss i x = true := by
  have h3 : (i, x) ∈ flat 0 ss := by
    have key : ∀ (l : List Sc) (k i : Nat), l[i]? = some c → (k + i, x) ∈ flat k l := by
      intro l
      induction l with
      | nil => intro k i h; simp at h
      | cons s r ih =>
        intro k i h
        cases i with
        | zero =>
          simp at h
          subst h
          exact List.mem_append_left _ (List.mem_map.2 ⟨x, List.mem_of_getElem? h2, rfl⟩)
        | succ i =>
          have h4 := ih (k + 1) i (by simpa using h)
          rw [show k + (i + 1) = k + 1 + i by omega]
          exact List.mem_append_right _ h4
    have h4 := key ss 0 i h1
    rwa [Nat.zero_add] at h4
  exact hv.items.1 _ h3
theorem item_scope {ss : List Sc} (hv : Valid ss) {i j : Nat} {c : Sc} {x : It} (h1 : ss[i]? = some c) (h2 : c.items[j]? = some x) : x.scope < 0 ↔ x.scope = -1 := by
  have h := (item_good hv h1 h2).2
  unfold modB inB at h
  simp only [Bool.or_eq_true, beq_iff_eq, Bool.and_eq_true, decide_eq_true_eq] at h
  omega
theorem movOk.valid {ss : List Sc} {a b n : Int} (h : movOk ss a b n) : Valid (movAt ss a b n) := by
  obtain ⟨hv, x, hx, hs, hne, _, k, d, rfl, hdk, hl⟩ := h
  obtain ⟨i, j, c, rfl, rfl, hci, hxj⟩ := item_where hx
  unfold movAt
  rw [hx, Int.toNat_natCast, Int.toNat_natCast, Int.toNat_natCast]
  exact Valid.add (Valid.rmv hv i j) ((rmvP_other (fun e => hne (by rw [e]))).trans hdk) hl (item_good hv hci hxj).1 hs
set_option maxRecDepth 100000 in
set_option maxHeartbeats 4000000 in
theorem rawAddImport_any (ss : List Sc) (hF : Fair ss) (oa : Option Addr) (cap : Nat) (n : Int) (nm : ByteArray) (w : World) (hc : HoldsScopes w oa ss) :
    Calls Tryd.prog 51 #[.agg #[.slice oa ss.length cap], .int .i64 n, .string nm] w (RawGr (addOk ss n nm) (addAt ss n 3 nm) w) := by
  have hb0 : Below w.heap.size w ((w.alloc (.cells #[.slice oa ss.length cap] 31)).alloc (.cells #[.slice none 0 0] 31)) := ((Below.refl _ _).alloc (Nat.le_refl _) _).alloc (by simp) _
  have R1 := (Row.new w [.slice oa ss.length cap] 31).alloc (.cells #[.slice none 0 0] 31)
  have R2 := Row.new (w.alloc (.cells #[.slice oa ss.length cap] 31)) [.slice none 0 0] 31
  rw [World.size_alloc] at R2
  have C := Lib.hid (l7Room_any ss hF.fits oa cap n _ (hc.below hb0 (Nat.le_refl _)))
  have HB := Lib.hid hb0
  have HR1 := Lib.hid R1
  have HBX := Lib.hid R2
  have HC := Lib.hid hc
  have HF := Lib.hid hF
  have g1 := R1.cell (i := 0) (by rfl)
  clear hF hc hb0 R1 R2
  go_enter Tryd.func51, Tryd.ntmps51
  go_wp2_with fail
  refine C.out.mono ?_
  rintro e w1 ⟨q, rfl, hq, hb⟩
  have HB1 := Lib.hid (HB.out.trans (hb.mono HB.out.size))
  have HG1 := Lib.hid (HR1.out.below hb HR1.out.lt)
  have HX1 := Lib.hid (HBX.out.below hb HBX.out.lt)
  have n0 := HX1.out.cell (i := 0) (v := .slice none 0 0) (by rfl)
  have f0 := HX1.out.frozen 0
  have HQ := Lib.hid hq
  clear hb hq g1
  cases q
  · have HN : Hid (¬ addOk ss n nm) := Lib.hid (fun h => by have := HQ.out.2 h.1; cases this)
    go_wp2
    have d0 := (HX1.out.set 0 (.slice none 0 0)).cell (i := 0) (v := .slice none 0 0) (by rfl)
    refine bodyPost_ret (v := .tuple #[.agg #[.slice none 0 0], .bool false]) (by simp [results, Tryd.results51, go_sem, d0]) rfl (.inl ⟨HN.out, rfl, HB1.out.setCell (by simp) _⟩)
  · by_cases hnm : nameB nm = true
    case neg =>
      have hnf : nameB nm = false := by simpa using hnm
      have HN : Hid (¬ addOk ss n nm) := Lib.hid (fun h => hnm h.2)
      clear hnm
      go_wp2_with fail
      refine (l1Name_any nm _).mono ?_
      rintro e w0 ⟨rfl, rfl⟩
      rw [hnf]
      go_wp2
      have d0 := (HX1.out.set 0 (.slice none 0 0)).cell (i := 0) (v := .slice none 0 0) (by rfl)
      refine bodyPost_ret (v := .tuple #[.agg #[.slice none 0 0], .bool false]) (by simp [results, Tryd.results51, go_sem, d0]) rfl (.inl ⟨HN.out, rfl, HB1.out.setCell (by simp) _⟩)
    case pos =>
      have HK : Hid (addOk ss n nm) := Lib.hid ⟨HQ.out.1 rfl, hnm⟩
      obtain ⟨⟨hv, i, c, rfl, hci, hl5⟩, -⟩ := HK.out
      obtain ⟨l, hl⟩ : ∃ l, addP ss i ⟨3, nm, -1⟩ = l := ⟨_, rfl⟩
      have HL : Hid (addAt ss (i : Int) 3 nm = l) := Lib.hid (by unfold addAt; rw [Int.toNat_natCast, hl])
      have C2 := l7Add_any ss HF.out.count (fun s hs => by have := hv.five s hs; omega) oa cap i c ⟨3, nm, -1⟩ hci _ (HC.out.below HB1.out (Nat.le_refl _))
      rw [hl] at C2
      have C3 := Lib.hid C2
      have c1 := HG1.out.cell (i := 0) (v := .slice oa ss.length cap) (by rfl)
      clear hv hci hl5 hl C2
      go_wp2_with fail
      refine (l1Name_any nm _).mono ?_
      rintro e w0 ⟨rfl, rfl⟩
      rw [hnm]
      clear hnm
      go_wp2_with fail
      refine C3.out.mono ?_
      rintro e w2 ⟨v, hs, rfl, hO, hb2⟩
      obtain ⟨ov, cv, rfl, -⟩ := hO.holds
      have HB2 := Lib.hid (HB1.out.trans (hb2.mono HB1.out.size))
      have HX2 := Lib.hid (HX1.out.below hb2 HX1.out.lt)
      have m0 := HX2.out.cell (i := 0) (v := .slice none 0 0) (by rfl)
      have l0 := HX2.out.frozen 0
      have HO := Lib.hid hO
      clear hO hb2 n0 f0 c1
      go_wp2
      have d0 := (HX2.out.set 0 (.slice ov l.length cv)).cell (i := 0) (v := .slice ov l.length cv) (by rfl)
      refine bodyPost_ret (v := .tuple #[.agg #[.slice ov l.length cv], .bool true]) (by simp [results, Tryd.results51, go_sem, d0]) rfl (.inr ⟨HK.out, ov, cv, by rw [HL.out], ?_, HB2.out.setCell (by simp) _⟩)
      rw [HL.out]
      exact (HO.out.past HX2.out).holdsAt
set_option maxRecDepth 100000 in
set_option maxHeartbeats 4000000 in
theorem specAddImport_any (ss : List Sc) (hF : Fair ss) (oa : Option Addr) (cap : Nat) (n : Int) (nm : ByteArray) (w : World) (hc : HoldsScopes w oa ss) :
    Calls Tryd.prog 33 #[.agg #[.slice oa ss.length cap], .int .i64 n, .string nm] w (GrGot (addOk ss n nm) (addAt ss n 3 nm) w) := by
  have hb0 : Below w.heap.size w ((w.alloc (.cells #[.slice oa ss.length cap] 31)).alloc (.cells #[.slice none 0 0] 31)) := ((Below.refl _ _).alloc (Nat.le_refl _) _).alloc (by simp) _
  have R1 := (Row.new w [.slice oa ss.length cap] 31).alloc (.cells #[.slice none 0 0] 31)
  have R3 := Row.new (w.alloc (.cells #[.slice oa ss.length cap] 31)) [.slice none 0 0] 31
  rw [World.size_alloc] at R3
  have C := Lib.hid (rawAddImport_any ss hF oa cap n nm _ (hc.below hb0 (Nat.le_refl _)))
  have HB := Lib.hid hb0
  have HR3 := Lib.hid R3
  have HF := Lib.hid hF
  have g1 := R1.cell (i := 0) (by rfl)
  clear hF hc hb0 R1 R3
  go_enter Tryd.func33, Tryd.ntmps33
  go_wp2_with fail
  refine C.out.mono ?_
  rintro e w1 (⟨hn, rfl, hb1⟩ | ⟨hh, ov, cv, rfl, hho, hb1⟩)
  · have hbx := hb1.trans ((Below.refl w1.heap.size w1).alloc (Nat.le_refl _) (.cells #[.slice none 0 0] 31) |>.mono hb1.size)
    have HB1 := Lib.hid (HB.out.trans (hbx.mono HB.out.size))
    have HR3a := Lib.hid (HR3.out.below hbx HR3.out.lt)
    have RX := (Row.new w1 [.slice none 0 0] 31).cell (i := 0) (by rfl)
    have HN := Lib.hid hn
    have C2 := Lib.hid (ownGraph_any [] none 0 (by simp) (fun s hs => by cases hs) (w1.alloc (.cells #[.slice none 0 0] 31)) (.inl rfl))
    clear hb1 hbx g1 hn
    go_wp2_with fail
    refine C2.out.mono ?_
    rintro e w2 ⟨v, hs, rfl, hO, hb2⟩
    obtain ⟨ov2, cv2, rfl, -⟩ := hO.holds
    have HO := Lib.hid (hO.lower HB1.out.size)
    have HB2 := Lib.hid (HB1.out.trans (hb2.mono HB1.out.size))
    have HR3b := Lib.hid (HR3a.out.below hb2 HR3a.out.lt)
    have m0 := HR3b.out.cell (i := 0) (v := .slice none 0 0) (by rfl)
    have l0 := HR3b.out.frozen 0
    clear hO hb2 RX
    go_wp2
    have RT := HR3b.out.set 0 (.slice ov2 ([] : List Sc).length cv2)
    have d0 := RT.cell (i := 0) (v := .slice ov2 ([] : List Sc).length cv2) (by rfl)
    refine bodyPost_ret (v := .tuple #[.agg #[.slice ov2 ([] : List Sc).length cv2], .bool false]) (by simp [results, Tryd.results33, go_sem] at d0 ⊢; simp [d0]) rfl (.inl ⟨HN.out, _, hs, rfl, HO.out.past HR3b.out, HB2.out.setCell (by simp; try omega) _⟩)
  · have hbx := hb1.trans ((Below.refl w1.heap.size w1).alloc (Nat.le_refl _) (.cells #[.slice ov (addAt ss n 3 nm).length cv] 31) |>.mono hb1.size)
    have HB1 := Lib.hid (HB.out.trans (hbx.mono HB.out.size))
    have HR3a := Lib.hid (HR3.out.below hbx HR3.out.lt)
    have RX := (Row.new w1 [.slice ov (addAt ss n 3 nm).length cv] 31).cell (i := 0) (by rfl)
    have HN := Lib.hid hh
    have C2 := Lib.hid (ownGraph_any (addAt ss n 3 nm) ov cv (by have := (addOk.valid hh (.inr rfl)).count; omega) (fun s hs => by have := (addOk.valid hh (.inr rfl)).five s hs; omega) (w1.alloc (.cells #[.slice ov (addAt ss n 3 nm).length cv] 31)) (hho.below ((Below.refl _ _).alloc (Nat.le_refl _) _) (Nat.le_refl _)))
    clear hb1 hbx g1 hh hho
    go_wp2_with fail
    refine C2.out.mono ?_
    rintro e w2 ⟨v, hs, rfl, hO, hb2⟩
    obtain ⟨ov2, cv2, rfl, -⟩ := hO.holds
    have HO := Lib.hid (hO.lower HB1.out.size)
    have HB2 := Lib.hid (HB1.out.trans (hb2.mono HB1.out.size))
    have HR3b := Lib.hid (HR3a.out.below hb2 HR3a.out.lt)
    have m0 := HR3b.out.cell (i := 0) (v := .slice none 0 0) (by rfl)
    have l0 := HR3b.out.frozen 0
    clear hO hb2 RX
    go_wp2
    have RT := HR3b.out.set 0 (.slice ov2 (addAt ss n 3 nm).length cv2)
    have d0 := RT.cell (i := 0) (v := .slice ov2 (addAt ss n 3 nm).length cv2) (by rfl)
    refine bodyPost_ret (v := .tuple #[.agg #[.slice ov2 (addAt ss n 3 nm).length cv2], .bool true]) (by simp [results, Tryd.results33, go_sem] at d0 ⊢; simp [d0]) rfl (.inr ⟨HN.out, _, hs, rfl, HO.out.past HR3b.out, HB2.out.setCell (by simp; try omega) _⟩)
set_option maxRecDepth 100000 in
set_option maxHeartbeats 4000000 in
theorem rawAddDeclaration_any (ss : List Sc) (hF : Fair ss) (oa : Option Addr) (cap : Nat) (n : Int) (nm : ByteArray) (w : World) (hc : HoldsScopes w oa ss) :
    Calls Tryd.prog 35 #[.agg #[.slice oa ss.length cap], .int .i64 n, .string nm] w (RawGrPl (addOk ss n nm) (addAt ss n 1 nm) n (endAt ss n) w) := by
  have hb0 : Below w.heap.size w (((w.alloc (.cells #[.slice oa ss.length cap] 31)).alloc (.cells #[.slice none 0 0] 31)).alloc (.cells #[.int .i64 0, .int .i64 0] 44)) := (((Below.refl _ _).alloc (Nat.le_refl _) _).alloc (by simp) _).alloc (by simp; omega) _
  have R1 := ((Row.new w [.slice oa ss.length cap] 31).alloc (.cells #[.slice none 0 0] 31)).alloc (.cells #[.int .i64 0, .int .i64 0] 44)
  have R2 := (Row.new (w.alloc (.cells #[.slice oa ss.length cap] 31)) [.slice none 0 0] 31).alloc (.cells #[.int .i64 0, .int .i64 0] 44)
  have R3 := Row.new ((w.alloc (.cells #[.slice oa ss.length cap] 31)).alloc (.cells #[.slice none 0 0] 31)) [.int .i64 0, .int .i64 0] 44
  rw [World.size_alloc] at R2
  rw [World.size_alloc, World.size_alloc] at R3
  have C := Lib.hid (l7Room_any ss hF.fits oa cap n _ (hc.below hb0 (Nat.le_refl _)))
  have HB := Lib.hid hb0
  have HR1 := Lib.hid R1
  have HBX := Lib.hid (⟨R2, R3⟩ : Boxes2 _ _ _)
  have HC := Lib.hid hc
  have HF := Lib.hid hF
  have g1 := R1.cell (i := 0) (by rfl)
  clear hF hc hb0 R1 R2 R3
  go_enter Tryd.func35, Tryd.ntmps35
  go_wp2_with fail
  refine C.out.mono ?_
  rintro e w1 ⟨q, rfl, hq, hb⟩
  have HB1 := Lib.hid (HB.out.trans (hb.mono HB.out.size))
  have HG1 := Lib.hid (HR1.out.below hb HR1.out.lt)
  have HX1 := Lib.hid (HBX.out.below hb)
  have n0 := HX1.out.gr.cell (i := 0) (v := .slice none 0 0) (by rfl)
  have f0 := HX1.out.gr.frozen 0
  have p0 := HX1.out.pl.cell (i := 0) (v := .int .i64 0) (by rfl)
  have p1 := HX1.out.pl.cell (i := 1) (v := .int .i64 0) (by rfl)
  have q0 := HX1.out.pl.frozen 0
  have q1 := HX1.out.pl.frozen 1
  have HQ := Lib.hid hq
  clear hb hq g1
  cases q
  · have HN : Hid (¬ addOk ss n nm) := Lib.hid (fun h => by have := HQ.out.2 h.1; cases this)
    go_wp2
    obtain ⟨-, -, d2, d3, d4⟩ := HX1.out.sets (by omega) (.slice none 0 0) (.int .i64 0) (.int .i64 0)
    refine bodyPost_ret (v := .tuple #[.agg #[.slice none 0 0], .agg #[.int .i64 0, .int .i64 0], .bool false]) (by simp [results, Tryd.results35, go_sem, d2, d3, d4]) rfl (.inl ⟨HN.out, rfl, ?_⟩)
    repeat (first | exact HB1.out | apply Below.drew | refine Below.setCell ?_ (by simp <;> omega) _)
  · by_cases hnm : nameB nm = true
    case neg =>
      have hnf : nameB nm = false := by simpa using hnm
      have HN : Hid (¬ addOk ss n nm) := Lib.hid (fun h => hnm h.2)
      clear hnm
      go_wp2_with fail
      refine (l1Name_any nm _).mono ?_
      rintro e w0 ⟨rfl, rfl⟩
      rw [hnf]
      go_wp2
      obtain ⟨-, -, d2, d3, d4⟩ := HX1.out.sets (by omega) (.slice none 0 0) (.int .i64 0) (.int .i64 0)
      refine bodyPost_ret (v := .tuple #[.agg #[.slice none 0 0], .agg #[.int .i64 0, .int .i64 0], .bool false]) (by simp [results, Tryd.results35, go_sem, d2, d3, d4]) rfl (.inl ⟨HN.out, rfl, ?_⟩)
      repeat (first | exact HB1.out | apply Below.drew | refine Below.setCell ?_ (by simp <;> omega) _)
    case pos =>
      have HK : Hid (addOk ss n nm) := Lib.hid ⟨HQ.out.1 rfl, hnm⟩
      obtain ⟨⟨hv, i, c, rfl, hci, hl5⟩, -⟩ := HK.out
      obtain ⟨l, hl⟩ : ∃ l, addP ss i ⟨1, nm, -1⟩ = l := ⟨_, rfl⟩
      obtain ⟨m, hm⟩ : ∃ m, c.items.length = m := ⟨_, rfl⟩
      rw [hm] at hl5
      have HL : Hid (addAt ss (i : Int) 1 nm = l ∧ endAt ss (i : Int) = (m : Int) ∧ l[i]? = some (addSc ⟨1, nm, -1⟩ c) ∧ (addSc ⟨1, nm, -1⟩ c).items.length = m + 1 ∧ i < l.length) := Lib.hid ⟨by unfold addAt; rw [Int.toNat_natCast, hl], by rw [endAt_nat hci, hm], by rw [← hl]; exact addP_same hci, by rw [← hm]; simp [addSc], by rw [← hl, addP_length]; exact (List.getElem?_eq_some_iff.1 hci).1⟩
      have C2 := l7Add_any ss HF.out.count (fun s hs => by have := hv.five s hs; omega) oa cap i c ⟨1, nm, -1⟩ hci _ (HC.out.below HB1.out (Nat.le_refl _))
      rw [hl] at C2
      have C3 := Lib.hid C2
      have c1 := HG1.out.cell (i := 0) (v := .slice oa ss.length cap) (by rfl)
      clear hv hci hl C2 hm
      go_wp2_with fail
      refine (l1Name_any nm _).mono ?_
      rintro e w0 ⟨rfl, rfl⟩
      rw [hnm]
      clear hnm
      go_wp2_with fail
      refine C3.out.mono ?_
      rintro e w2 ⟨v, hs, rfl, hO, hb2⟩
      obtain ⟨gs, cs, rfl⟩ : ∃ gs cs, v = .slice (some ⟨gs, 0, none⟩) l.length cs := by
        obtain ⟨hl, h2 | ⟨g, c, cur, hv, hB, hh, _⟩⟩ := hO.row
        · have := h2.2; have := HL.out.2.2.2.2; omega
        · exact ⟨g, c, hv⟩
      have hbA := (Below.refl w2.heap.size w2).alloc (Nat.le_refl _) (.cells #[.slice (some ⟨gs, 0, none⟩) l.length cs] 31)
      have RH := Row.new w2 [.slice (some ⟨gs, 0, none⟩) l.length cs] 31
      have hGI : GrIn (w2.alloc (.cells #[.slice (some ⟨gs, 0, none⟩) l.length cs] 31)) w0.heap.size w2.heap.size gs cs l hs := ⟨RH, hO.below hbA⟩
      obtain ⟨u, hu, hgB, hgl, hcell, hown⟩ := hGI.slot HL.out.2.2.1
      rw [HL.out.2.2.2.1] at hown
      obtain ⟨ou, cu, rfl⟩ := ownsRow_slice hown
      have hbX := hb2.trans (hbA.mono hb2.size)
      have HB2 := Lib.hid (HB1.out.trans (hbX.mono HB1.out.size))
      have HX2 := Lib.hid (HX1.out.below hbX)
      have n0 := HX2.out.gr.cell (i := 0) (v := .slice none 0 0) (by rfl)
      have f0 := HX2.out.gr.frozen 0
      have p0 := HX2.out.pl.cell (i := 0) (v := .int .i64 0) (by rfl)
      have p1 := HX2.out.pl.cell (i := 1) (v := .int .i64 0) (by rfl)
      have q0 := HX2.out.pl.frozen 0
      have q1 := HX2.out.pl.frozen 1
      have t0 := RH.cell (i := 0) (v := .slice (some ⟨gs, 0, none⟩) l.length cs) (by rfl)
      have hlow : w.heap.size + 3 ≤ w0.heap.size := HX1.out.pl.lt
      have hlow2 : w0.heap.size ≤ w2.heap.size := hb2.size
      have hcell' := (cell_far (show gs ≠ w.heap.size + 1 by omega) 0 (.slice (some ⟨gs, 0, none⟩) l.length cs) (o := i * 2 + 1)).trans hcell
      have t0' := (cell_far (show w2.heap.size ≠ w.heap.size + 1 by omega) 0 (.slice (some ⟨gs, 0, none⟩) l.length cs) (o := 0)).trans t0
      have hsub : IntKind.i64.wrap ((m : Int) + 1 - 1) = (m : Int) := by rw [Int.add_sub_cancel]; exact IntWalk.i64_in _ (by omega)
      have hsub2 : IntKind.i64.wrap (((m + 1 : Nat) : Int) - 1) = (m : Int) := by rw [Int.natCast_add, Int.natCast_one]; exact hsub
      have hi0 : (0 : Int) ≤ (i : Int) := by omega
      have hi1 : (i : Int) < (l.length : Int) := by have := HL.out.2.2.2.2; omega
      have HO := Lib.hid (hO.below hbA)
      clear hO hb2 hbA hbX RH hGI hgB hgl hown hu c1
      go_wp2
      go_region
      all_goals go_wp2
      all_goals (
        refine bodyPost_ret (v := .tuple #[.agg #[.slice (some ⟨gs, 0, none⟩) l.length cs], .agg #[.int .i64 (i : Int), .int .i64 (m : Int)], .bool true]) ?_ rfl (.inr ⟨HK.out, some ⟨gs, 0, none⟩, cs, by rw [HL.out.1, HL.out.2.1], ?_, ?_⟩)
        · obtain ⟨-, -, d2, d3, d4⟩ := HX2.out.sets (by omega) (.slice (some ⟨gs, 0, none⟩) l.length cs) (.int .i64 (i : Int)) (.int .i64 (m : Int))
          simp [results, Tryd.results35, go_sem, d2, d3, d4]
        · rw [HL.out.1]
          have hfin := ((HO.out.past (x := .slice (some ⟨gs, 0, none⟩) l.length cs) HX2.out.gr).pastP (i := 0) (x := .int .i64 (i : Int)) (HX2.out.pl.other (a := ⟨w.heap.size + 1, 0, none⟩) (by show w.heap.size + 1 ≠ w.heap.size + 1 + 1; omega) _)).pastP (i := 1) (x := .int .i64 (m : Int)) ((HX2.out.pl.other (a := ⟨w.heap.size + 1, 0, none⟩) (by show w.heap.size + 1 ≠ w.heap.size + 1 + 1; omega) _).set 0 _)
          first | exact hfin.holdsAt | exact hfin.drew.holdsAt
        · repeat (first | exact HB2.out | apply Below.drew | refine Below.setCell ?_ (by simp <;> omega) _))
end Go.Proofs.YthoccmhgjcafnaaDoor
