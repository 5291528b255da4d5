/-
  A place that comes in as an argument, opened to its numbers. Plain facts. Where the items stand when one is moved. The walk of impl's CanMove. Conditions: the argument's memory holds the graph; the package-level errors hold errors. The walk of the given CanMove. Condition: the argument's memory holds the graph. The walk of the law FnExactCanMove: at every argument it returns true, and only new memory is written. Condition: the package-level errors hold errors.
-/
import Derived.Test.YtadpgoiiopfnnaaDoorOpenGraph
import Derived.Test.YtadpgoiiopfnnaaDoorJChg
import Derived.Test.YtadpgoiiopfnnaaDoorWSpecMov2
import Derived.IntWalk
import Derived.Test.YtadpgoiiopfnnaaDoorLawPls
import Derived.Deep.RegionHeld3
namespace Go.Proofs.YtadpgoiiopfnnaaDoor
open Go Go.RowKit Go.ChangeShapes Go.WideShapes Go.Deep
theorem two_of_length {α : Type} : ∀ {l : List α}, l.length = 2 → ∃ x y, l = [x, y]
  | [x, y], _ => ⟨x, y, rfl⟩
section
variable {H : Type} {enc : TypeId × Value → H} {w : World} {spare : Nat → Bool}
theorem cellsLP : Tryd.prog.cellsOf 26 = 2 := by kernel_rfl
set_option maxRecDepth 100000 in
theorem open_place {r : Reach} {b0 base : Nat} {v : Value} {d : DataW H} {p : List MemPlace} (hv : Value.okWide Tryd.prog w r b0 26 v) (h : DataW.Trod enc Tryd.prog w base spare true 26 v d p) :
    ∃ a b : Int, v = .agg #[.int .i64 a, .int .i64 b] ∧ (Lit.int .i64 a).wf = true ∧ (Lit.int .i64 b).wf = true := by
  obtain ⟨cs, rfl, hsz⟩ := okWide_struct Tryd.underlying26 hv
  obtain ⟨c0, c1, rfl⟩ : ∃ c0 c1, cs = #[c0, c1] := by
    have hz : cs.size = 2 := hsz.trans cellsLP
    clear hsz hv h
    obtain ⟨l⟩ := cs
    have hl : l.length = 2 := hz
    obtain ⟨x, y, rfl⟩ := two_of_length hl
    exact ⟨x, y, rfl⟩
  obtain ⟨fuel, hf⟩ := h
  obtain ⟨xs, n, _, hx, _, hlen, hg⟩ := DataW.trod_struct Tryd.underlying26 hf
  have hxl : xs.length = 2 := hlen
  obtain ⟨y0, y1, rfl⟩ : ∃ y0 y1, xs = [y0, y1] := by
    exact two_of_length hxl
  have h1 : DataW.trod enc Tryd.prog w base spare true n 3 [c0] = some y0 := hg 0 _ rfl
  have h2 : DataW.trod enc Tryd.prog w base spare true n 3 [c1] = some y1 := hg 1 _ rfl
  obtain ⟨z0, e0, _, w0⟩ := DataW.trod_int Tryd.underlying3 h1
  obtain ⟨z1, e1, _, w1⟩ := DataW.trod_int Tryd.underlying3 h2
  simp only [List.cons.injEq, and_true] at e0 e1
  subst e0 e1
  exact ⟨z0, z1, rfl, w0, w1⟩
end
end Go.Proofs.YtadpgoiiopfnnaaDoor
namespace Go.Proofs.YtadpgoiiopfnnaaDoor
open Go Go.RowKit
theorem rmvP_otherM {ss : List Sc} {i j k : Nat} {d : Sc} (hne : i ≠ k) (h : ss[k]? = some d) : (rmvP ss i j)[k]? = some d := by
  rw [rmvP_other (Ne.symm hne)]; exact h
/-- A move by numbers: where all stands. -/
theorem mov_parts {ss : List Sc} {a b n : Int} (h : movOk ss a b n) : ∃ (i j k : Nat) (d : Sc) (x : It), a = (i : Int) ∧ b = (j : Int) ∧ n = (k : Int) ∧ i ≠ k ∧ (rmvP ss i j)[k]? = some d ∧ d.items.length < 5 ∧ i < 1000 ∧ j < 1000 ∧ endAt ss n = (d.items.length : Int) ∧ movAt ss a b n = addP (rmvP ss i j) k x := by
  obtain ⟨hv, x, hx, hs, hne, _, k, d, rfl, hdk, hl⟩ := h
  obtain ⟨i, j, c, rfl, rfl, hci, hxj⟩ := item_where hx
  have hik : i ≠ k := fun e => hne (by rw [e])
  have h1 := (List.getElem?_eq_some_iff.1 hci).1
  have h2 := hv.count.2
  have h3 := (List.getElem?_eq_some_iff.1 hxj).1
  have h4 := hv.five c (List.mem_of_getElem? hci)
  refine ⟨i, j, k, d, x, rfl, rfl, rfl, hik, rmvP_otherM hik hdk, hl, by omega, by omega, endAt_nat hdk, ?_⟩
  unfold movAt
  rw [hx, Int.toNat_natCast, Int.toNat_natCast, Int.toNat_natCast]
  rfl
theorem stands_in_mov {ss : List Sc} {a b n : Int} (h : movOk ss a b n) : StandsIn ss (movAt ss a b n) (stMov a b (n, endAt ss n)) := by
  obtain ⟨i0, j0, k, d, x, rfl, rfl, rfl, hik, hd, hl, h1, h2, he, hm⟩ := mov_parts h
  rw [hm, he]
  rintro ⟨i, j, y⟩ hq p hp
  unfold stMov plOf at hp
  dsimp only at hp
  split at hp
  · obtain rfl := Option.some.inj hp
    exact ⟨k, d.items.length, x, rfl, placed_new hd⟩
  · rename_i hne
    obtain rfl := Option.some.inj hp
    rw [aftI_nat]
    exact ⟨i, aftN i0 j0 i j, y, rfl, placed_add (placed_rmv hq (fun e => hne ⟨by rw [e.1], by rw [e.2]⟩))⟩
theorem aftI_BM (a b : Int) (p : Int × Int) : aftI a b p = (p.1, aftB p.1 p.2 a b) := by
  unfold aftI aftB
  split <;> rfl
/-- What a place told to stand after a move is. -/
def MvGot (a b : Int) (e : Int × Int) (i j : Int) (w : World) (r : Ending) (w' : World) : Prop := ∃ x y, r = .returned (.tuple #[.agg #[.int .i64 x, .int .i64 y], .bool true]) ∧ stMov a b e (i, j) = some (x, y) ∧ Below w.heap.size w w'
set_option maxRecDepth 100000 in
theorem mov1_any (P E : Nat) (a b e1 e2 i j : Int) (hb : -9223372036854775808 ≤ b ∧ b ≤ 9223372036854775807) (hj : -9223372036854775808 ≤ j ∧ j ≤ 9223372036854775807) (W : World) (hP : Row W P 34 [.int .i64 a, .int .i64 b]) (hE : Row W E 34 [.int .i64 e1, .int .i64 e2]) :
    Calls Tryd.prog 84 #[.agg #[.int .i64 i, .int .i64 j], .pointer (some ⟨P, 0, none⟩), .pointer (some ⟨E, 0, none⟩)] W (MvGot a b (e1, e2) i j W) := by
  have hb0 : Below W.heap.size W ((W.alloc (.cells #[.int .i64 i, .int .i64 j] 34)).alloc (.cells #[.int .i64 0, .int .i64 0] 34)) := ((Below.refl _ _).alloc (Nat.le_refl _) _).alloc (by simp) _
  have R1 := (Row.new W [.int .i64 i, .int .i64 j] 34).alloc (.cells #[.int .i64 0, .int .i64 0] 34)
  have R2 := Row.new (W.alloc (.cells #[.int .i64 i, .int .i64 j] 34)) [.int .i64 0, .int .i64 0] 34
  rw [World.size_alloc] at R2
  have RP := hP.below hb0 hP.lt
  have RE := hE.below hb0 hE.lt
  have C := Lib.hid (implPlaceAfter_any i j a b hj hb ((W.alloc (.cells #[.int .i64 i, .int .i64 j] 34)).alloc (.cells #[.int .i64 0, .int .i64 0] 34)))
  have HR := Lib.hid R2
  have HB := Lib.hid hb0
  have p0 := R1.cell (i := 0) (v := .int .i64 i) (by rfl)
  have p1 := R1.cell (i := 1) (v := .int .i64 j) (by rfl)
  have q0 := RP.cell (i := 0) (v := .int .i64 a) (by rfl)
  have q1 := RP.cell (i := 1) (v := .int .i64 b) (by rfl)
  have s0 := RE.cell (i := 0) (v := .int .i64 e1) (by rfl)
  have s1 := RE.cell (i := 1) (v := .int .i64 e2) (by rfl)
  have m0 := R2.cell (i := 0) (v := .int .i64 0) (by rfl)
  have m1 := R2.cell (i := 1) (v := .int .i64 0) (by rfl)
  have f0 := R2.frozen 0
  have f1 := R2.frozen 1
  clear R1 R2 RP RE hb0 hP hE
  by_cases h : i = a ∧ j = b
  · have HS : Hid (stMov a b (e1, e2) (i, j) = some (e1, e2)) := Lib.hid (if_pos h)
    obtain ⟨rfl, rfl⟩ := h
    go_enter Tryd.func84, Tryd.ntmps84
    go_wp2
    refine bodyPost_ret (v := .tuple #[.agg #[.int .i64 e1, .int .i64 e2], .bool true]) (by simp [results, Tryd.results84, go_sem]) rfl ⟨e1, e2, rfl, HS.out, ?_⟩
    repeat (first | exact HB.out | exact Below.refl _ _ | refine Below.alloc ?_ (by simp <;> omega) _ | refine Below.setCell ?_ (by simp <;> omega) _)
  · have HS : Hid (stMov a b (e1, e2) (i, j) = some (i, aftB i j a b)) := Lib.hid (by unfold stMov; rw [if_neg h, aftI_BM])
    have HPV : Hid (paV i j a b = (i, aftB i j a b, true)) := Lib.hid (by unfold paV; rw [if_neg h])
    have hd : (i == a) = false ∨ ((i == a) = true ∧ (j == b) = false) := by
      by_cases h1 : i = a
      · exact .inr ⟨by simpa using h1, by simpa using fun h2 => h ⟨h1, h2⟩⟩
      · exact .inl (by simpa using h1)
    clear h m0 m1 f0 f1
    rcases hd with d1 | ⟨d1, d2⟩
    all_goals (
      go_enter Tryd.func84, Tryd.ntmps84
      go_wp2_with fail
      refine C.out.mono ?_
      rintro e w1 ⟨x, y, ok, rfl, hv, hb1⟩
      rw [HPV.out] at hv
      simp only [Prod.mk.injEq] at hv
      obtain ⟨rfl, rfl, rfl⟩ := hv
      have HB1 := Lib.hid (HB.out.trans (hb1.mono HB.out.size))
      have HR1 := Lib.hid (HR.out.below hb1 HR.out.lt)
      have m0 := HR1.out.cell (i := 0) (v := .int .i64 0) (by rfl)
      have m1 := HR1.out.cell (i := 1) (v := .int .i64 0) (by rfl)
      have f0 := HR1.out.frozen 0
      have f1 := HR1.out.frozen 1
      clear hb1 p0 p1 q0 q1 s0 s1
      generalize aftB x j a b = y at *
      go_wp2
      have RT := (HR1.out.set 0 (.int .i64 x)).set 1 (.int .i64 y)
      have d0 := RT.cell (i := 0) (v := .int .i64 x) (by rfl)
      have d3 := RT.cell (i := 1) (v := .int .i64 y) (by rfl)
      refine bodyPost_ret (v := .tuple #[.agg #[.int .i64 x, .int .i64 y], .bool true]) (by simp [results, Tryd.results84, go_sem, d0, d3]) rfl ⟨x, y, rfl, HS.out, (HB1.out.setCell (by simp) _).setCell (by simp) _⟩)
theorem stands_mov {w : World} {P E : Nat} {a b e1 e2 : Int} (hb : -9223372036854775808 ≤ b ∧ b ≤ 9223372036854775807) (hP : Row w P 34 [.int .i64 a, .int .i64 b]) (hE : Row w E 34 [.int .i64 e1, .int .i64 e2]) :
    StandsOk w (.func (.func 84) #[] #[.pointer (some ⟨P, 0, none⟩), .pointer (some ⟨E, 0, none⟩)]) (stMov a b (e1, e2)) :=
  ⟨_, #[.pointer (some ⟨P, 0, none⟩), .pointer (some ⟨E, 0, none⟩)], rfl, enters_of Tryd.func84 (by kernel_rfl) rfl, fun i j W hi hj hW => (mov1_any P E a b e1 e2 (i : Int) (j : Int) hb ⟨by omega, by omega⟩ W (hP.below hW hP.lt) (hE.below hW hE.lt)).mono fun _ _ h => by
    obtain ⟨x, y, h1, h2, h3⟩ := h
    exact ⟨x, y, true, h1, .inl ⟨rfl, h2⟩, h3⟩⟩
theorem nameB_shortM {nm : ByteArray} (h : nameB nm = true) : nm.size ≤ 2 ^ 63 - 1 := by
  have h1 : nm.data.toList.length = nm.size := by rw [Array.length_toList]; rfl
  unfold nameB at h
  rcases hd : nm.data.toList with _ | ⟨b, _ | ⟨c, r⟩⟩
  · rw [hd] at h; cases h
  · rw [hd] at h1; simp only [List.length_cons, List.length_nil] at h1; omega
  · rw [hd] at h; cases h
/-- What CanMove answers. -/
def MvVal (ss : List Sc) (a b n : Int) (q : Bool) : Prop := (¬ movOk ss a b n ∧ q = false) ∨ (movOk ss a b n ∧ q = decide (chgG ss (movAt ss a b n) (stMov a b (n, endAt ss n)) = []))
theorem MvVal.same {ss : List Sc} {a b n : Int} {q q' : Bool} (h : MvVal ss a b n q) (k : MvVal ss a b n q') : q = q' := by
  rcases h with ⟨h1, h2⟩ | ⟨h1, h2⟩ <;> rcases k with ⟨k1, k2⟩ | ⟨k1, k2⟩
  · rw [h2, k2]
  · exact absurd k1 h1
  · exact absurd h1 k1
  · rw [h2, k2]
theorem len_zeroM (l : List (Int × Int)) : ((l.length : Int) == 0) = decide (l = []) := by
  cases l with
  | nil => rfl
  | cons a r => simp; omega
theorem movOk.fairM {ss : List Sc} (hF : Fair ss) {a b n : Int} (h : movOk ss a b n) : Fair (movAt ss a b n) := by
  obtain ⟨hv, x, hx, hs, hne, _, k, d, rfl, hdk, hl⟩ := h
  obtain ⟨i, j, c, rfl, rfl, hci, hxj⟩ := item_where hx
  have hik : i ≠ k := fun e => hne (by rw [e])
  have hm : movAt ss (i : Int) (j : Int) (k : Int) = addP (rmvP ss i j) k x := by
    unfold movAt
    rw [hx, Int.toNat_natCast, Int.toNat_natCast, Int.toNat_natCast]
    rfl
  rw [hm]
  have hin : x ∈ c.items := List.mem_of_getElem? hxj
  have hg := (item_good hv hci hxj).1
  refine Fair.add (hF.rmv i j) (rmvP_otherM hik hdk) hl ?_ ?_
  · exact nameB_shortM (by unfold itemB at hg; simp only [Bool.and_eq_true] at hg; exact hg.1.1)
  · exact (hF.nums c (List.mem_of_getElem? hci)).2 x hin
set_option maxRecDepth 100000 in
set_option maxHeartbeats 4000000 in
theorem implCanMove_any (ss : List Sc) (hF : Fair ss) (oa : Option Addr) (cap : Nat) (a b n : Int) (ha : (Lit.int .i64 a).wf = true) (hb' : (Lit.int .i64 b).wf = true) (w : World) (hc : HoldsScopes w oa ss) (hE : MoveErrs w) :
    Calls Tryd.prog 44 #[.agg #[.slice oa ss.length cap], .agg #[.int .i64 a, .int .i64 b], .int .i64 n] w fun e w' => ∃ q, e = .returned (.bool q) ∧ MvVal ss a b n q ∧ Below w.heap.size w w' := by
  have hb0 : Below w.heap.size w ((w.alloc (.cells #[.slice oa ss.length cap] 30)).alloc (.cells #[.int .i64 a, .int .i64 b] 34)) := ((Below.refl _ _).alloc (Nat.le_refl _) _).alloc (by simp) _
  have R1 := (Row.new w [.slice oa ss.length cap] 30).alloc (.cells #[.int .i64 a, .int .i64 b] 34)
  have R2 := Row.new (w.alloc (.cells #[.slice oa ss.length cap] 30)) [.int .i64 a, .int .i64 b] 34
  rw [World.size_alloc] at R2
  have C := Lib.hid (moving_any ss hF oa cap a b n ha hb' _ (hc.below hb0 (Nat.le_refl _)) (hE.at hb0))
  have HB := Lib.hid hb0
  have HR1 := Lib.hid R1
  have HR2 := Lib.hid R2
  have HF := Lib.hid hF
  have HC := Lib.hid hc
  have HE := Lib.hid hE
  have g1 := R1.cell (i := 0) (by rfl)
  have q0 := R2.cell (i := 0) (v := .int .i64 a) (by rfl)
  have q1 := R2.cell (i := 1) (v := .int .i64 b) (by rfl)
  clear hF hc hb0 R1 R2 hE ha hb'
  go_enter Tryd.func44, Tryd.ntmps44
  go_wp2_with fail
  refine C.out.mono ?_
  rintro e w1 (⟨hn, ⟨tp, p, rfl⟩, hb1⟩ | ⟨hh, v, hs, rfl, hO, hb1⟩)
  · have HN := Lib.hid hn
    have hbx := hb1.trans ((((Below.refl w1.heap.size w1).alloc (Nat.le_refl _) (.cells #[.slice none 0 0] 30)).alloc (by simp) (.cells #[.int .i64 0, .int .i64 0] 34)).mono hb1.size)
    have HB1 := Lib.hid (HB.out.trans (hbx.mono HB.out.size))
    clear hn hb1 hbx g1 q0 q1
    go_wp2
    go_ret
    exact ⟨false, rfl, .inl ⟨HN.out, rfl⟩, HB1.out⟩
  · obtain ⟨ov, cv, rfl, -⟩ := hO.holds
    have hbN := ((Below.refl w1.heap.size w1).alloc (Nat.le_refl _) (.cells #[.slice ov (movAt ss a b n).length cv] 30)).alloc (by simp) (.cells #[.int .i64 n, .int .i64 (endAt ss n)] 34)
    have hbx := hb1.trans (hbN.mono hb1.size)
    have HB1 := Lib.hid (HB.out.trans (hbx.mono HB.out.size))
    have RA := (Row.new w1 [.slice ov (movAt ss a b n).length cv] 30).alloc (.cells #[.int .i64 n, .int .i64 (endAt ss n)] 34)
    have RE := Row.new (w1.alloc (.cells #[.slice ov (movAt ss a b n).length cv] 30)) [.int .i64 n, .int .i64 (endAt ss n)] 34
    rw [World.size_alloc] at RE
    have a0 := RA.cell (i := 0) (v := .slice ov (movAt ss a b n).length cv) (by rfl)
    have gx := (HR1.out.below hbx HR1.out.lt).cell (i := 0) (v := .slice oa ss.length cap) (by rfl)
    have RPX := HR2.out.below hbx HR2.out.lt
    have hbr : -9223372036854775808 ≤ b ∧ b ≤ 9223372036854775807 := by obtain ⟨i, j, k, d, x, -, e, -, -, -, -, -, h2, -, -⟩ := mov_parts hh; omega
    have C2 := Lib.hid (between_any ss (movAt ss a b n) hh.1 hh.valid HF.out (hh.fairM HF.out) oa ov cap cv (.func (.func 84) #[] #[.pointer (some ⟨w.heap.size + 1, 0, none⟩), .pointer (some ⟨w1.heap.size + 1, 0, none⟩)]) (stMov a b (n, endAt ss n)) (stands_in_mov hh) _ (HC.out.below HB1.out (Nat.le_refl _)) (hO.below hbN).holdsAt (HE.out.at HB1.out).ends.nodes.trees (stands_mov hbr RPX RE))
    have HH := Lib.hid hh
    clear hh hO hbN hb1 hbx RPX RE RA g1 q0 q1 hbr
    go_wp2_with fail
    refine C2.out.mono ?_
    rintro e w2 ⟨v5, rfl, hown, hb5⟩
    obtain ⟨o5, c5, rfl⟩ := ownsRow_slice hown
    obtain ⟨q, hq⟩ : ∃ q, ((((chgG ss (movAt ss a b n) (stMov a b (n, endAt ss n))).length : Nat) : Int) == 0) = q := ⟨_, rfl⟩
    have HN := Lib.hid (And.intro (hq.symm.trans (len_zeroM _)) (HB1.out.trans (hb5.mono HB1.out.size)))
    clear hown hb5
    cases q
    all_goals go_wp2
    all_goals go_ret
    all_goals exact ⟨_, rfl, .inr ⟨HH.out, HN.out.1⟩, HN.out.2⟩
end Go.Proofs.YtadpgoiiopfnnaaDoor
namespace Go.Proofs.YtadpgoiiopfnnaaDoor
open Go Go.RowKit
/-- Where a place stands when the item at (a, b) is moved to e. -/
def mvd (a b : Int) (e : Int × Int) (d : Int × Int) : Int × Int := if d.1 = a ∧ d.2 = b then e else aftI a b d
def mvB (ss tt : List Sc) (a b : Int) (e : Int × Int) (q : Nat × Nat × It) : Bool := decide ((meanIt ss q).map (mvd a b e) = meanAt tt (mvd a b e (plOf q)).1 (mvd a b e (plOf q)).2)
theorem mv_all {ss tt : List Sc} {a b : Int} {e : Int × Int} : chgG ss tt (stMov a b e) = [] ↔ ∀ q ∈ placed 0 ss, mvB ss tt a b e q = true := by
  rw [chgG_nil]
  refine forall_congr' fun q => forall_congr' fun _ => ?_
  unfold mvB
  rw [decide_eq_true_iff]
  exact Iff.rfl
theorem mvd_at (a b : Int) (e : Int × Int) : mvd a b e (a, b) = e := if_pos ⟨rfl, rfl⟩
theorem mvd_not {a b : Int} {e d : Int × Int} (h : ¬ (d.1 = a ∧ d.2 = b)) : mvd a b e d = (d.1, aftB d.1 d.2 a b) := by unfold mvd; rw [if_neg h, aftI_BM]
theorem aftB_natM (a b i j : Nat) : aftB (i : Int) (j : Int) (a : Int) (b : Int) = (aftN a b i j : Int) := by
  unfold aftB aftN
  by_cases h : i = a ∧ b < j
  · rw [if_pos ⟨by omega, by omega⟩, if_pos h]; omega
  · rw [if_neg (fun hh => h ⟨by omega, by omega⟩), if_neg h]
/-- A list in the making, and the one that is gone through. -/
structure WantAt (B b2 : Nat) (W0 wr : World) (v tl : Value) (l all : List (Int × Int)) : Prop where
  row : wr.ownsRow B 34 2 v l.length (placeCells l)
  lst : wr.ownsRow b2 34 2 tl all.length (placeCells all)
  far : tl = .slice none 0 0 ∨ tl.ownBlock ≠ v.ownBlock
  below : Below B W0 wr
theorem WantAt.step {B b2 : Nat} {W0 wr w' : World} {v tl : Value} {l all : List (Int × Int)} (h : WantAt B b2 W0 wr v tl l all) (hb : Below wr.heap.size wr w') (hB : B ≤ W0.heap.size) : WantAt B b2 W0 w' v tl l all where
  row := ownsRow_below h.row hb
  lst := ownsRow_below h.lst hb
  far := h.far
  below := h.below.trans (hb.mono (Nat.le_trans hB h.below.size))
theorem WantAt.snoc {B b2 : Nat} {W0 W w' : World} {v v' tl : Value} {l all : List (Int × Int)} {x y : Int} (h : WantAt B b2 W0 W v tl l all) (hB : B ≤ W0.heap.size)
    (hown : w'.ownsRow B 34 2 v' (l.length + 1) (placeCells l ++ [.int .i64 x, .int .i64 y])) (hg : (W.alloc (.cells #[.int .i64 x, .int .i64 y] 34)).grownBy w' v.ownBlock) (hb : v'.ownBlock = v.ownBlock ∨ v'.ownBlock = some (W.heap.size + 1)) :
    WantAt B b2 W0 w' v' tl (l ++ [(x, y)]) all where
  row := by rw [List.length_append, placeCells_snoc]; exact hown
  lst := (h.lst.alloc _).kept hg (h.far.imp (fun e => by rw [e]; rfl) id)
  far := by
    rcases hb with hb | hb
    · rw [hb]; exact h.far
    · rw [hb]
      rcases h.far with h1 | _
      · exact .inl h1
      · exact .inr fun e => by have := ownsRow_lt h.lst e; omega
  below := h.below.trans (below_append2 h.row hg (Nat.le_refl _) (Nat.le_trans hB h.below.size))
/-- Where the first k of a list stand. -/
def mvUp (a b : Int) (e : Int × Int) (l : List (Int × Int)) (k : Nat) : List (Int × Int) := (l.take k).map (mvd a b e)
theorem mvUp_length (a b : Int) (e : Int × Int) (l : List (Int × Int)) (k : Nat) : (mvUp a b e l k).length ≤ l.length := by
  unfold mvUp
  rw [List.length_map]
  exact List.length_take_le' _ _
theorem mvUp_all {a b : Int} {e : Int × Int} {l : List (Int × Int)} : mvUp a b e l l.length = l.map (mvd a b e) := by
  unfold mvUp
  rw [List.take_length]
theorem mv_take {a b : Int} {e d p : Int × Int} {l : List (Int × Int)} {k : Nat} (h : l[k]? = some d) (hm : mvd a b e d = p) : mvUp a b e l (k + 1) = mvUp a b e l k ++ [p] := by
  unfold mvUp
  rw [List.take_add_one, h, List.map_append, ← hm]
  rfl
set_option maxRecDepth 100000 in
set_option maxHeartbeats 16000000 in
theorem specCanMove_any (ss : List Sc) (hF : Fair ss) (oa : Option Addr) (cap : Nat) (a b n : Int) (w : World) (hc : HoldsScopes w oa ss) :
    Calls Tryd.prog 43 #[.agg #[.slice oa ss.length cap], .agg #[.int .i64 a, .int .i64 b], .int .i64 n] w fun e w' => ∃ q, e = .returned (.bool q) ∧ MvVal ss a b n q ∧ Below w.heap.size w w' := by
  have hb0 : Below w.heap.size w ((w.alloc (.cells #[.slice oa ss.length cap] 30)).alloc (.cells #[.int .i64 a, .int .i64 b] 34)) := ((Below.refl _ _).alloc (Nat.le_refl _) _).alloc (by simp) _
  have R1 := (Row.new w [.slice oa ss.length cap] 30).alloc (.cells #[.int .i64 a, .int .i64 b] 34)
  have R2 := Row.new (w.alloc (.cells #[.slice oa ss.length cap] 30)) [.int .i64 a, .int .i64 b] 34
  rw [World.size_alloc] at R2
  have C := Lib.hid (specMoveItem_any ss hF oa cap a b n _ (hc.below hb0 (Nat.le_refl _)))
  have HB := Lib.hid hb0
  have HR1 := Lib.hid R1
  have HR2 := Lib.hid R2
  have HF := Lib.hid hF
  have HC := Lib.hid hc
  have g1 := R1.cell (i := 0) (by rfl)
  have q0 := R2.cell (i := 0) (v := .int .i64 a) (by rfl)
  have q1 := R2.cell (i := 1) (v := .int .i64 b) (by rfl)
  clear hF hc hb0 R1 R2
  go_enter Tryd.func43, Tryd.ntmps43
  go_wp2_with fail
  refine C.out.mono ?_
  rintro e w1 (⟨hn, v, hs, rfl, hO, hb1⟩ | ⟨hh, v, hs, rfl, hO, hb1⟩)
  · have HN := Lib.hid hn
    obtain ⟨ov, cv, rfl, -⟩ := hO.holds
    have hbx := hb1.trans (((Below.refl w1.heap.size w1).alloc (Nat.le_refl _) (.cells #[.slice ov ([] : List Sc).length cv] 30)).mono hb1.size)
    have HB1 := Lib.hid (HB.out.trans (hbx.mono HB.out.size))
    clear hn hb1 hbx hO g1 q0 q1
    go_wp2
    go_ret
    exact ⟨false, rfl, .inl ⟨HN.out, rfl⟩, HB1.out⟩
  · have HH := Lib.hid hh
    have HV2 := Lib.hid hh.valid
    have HF2 := Lib.hid (hh.fairM HF.out)
    have HSI := Lib.hid (stands_in_mov hh)
    have hcd : ∃ q, decide (chgG ss (movAt ss a b n) (stMov a b (n, endAt ss n)) = []) = q := ⟨_, rfl⟩
    obtain ⟨q, hq⟩ := hcd
    have HQ : Hid (q = true ↔ ∀ t ∈ placed 0 ss, mvB ss (movAt ss a b n) a b (n, endAt ss n) t = true) := Lib.hid (by rw [← hq, decide_eq_true_iff]; exact mv_all)
    have HQV : Hid (MvVal ss a b n q) := Lib.hid (.inr ⟨hh, hq.symm⟩)
    obtain ⟨i0, j0, k0, d, x0, rfl, rfl, rfl, hik, hd, hl5, hi1, hj1, he, hm⟩ := mov_parts hh
    have htk : (movAt ss (i0 : Int) (j0 : Int) (k0 : Int))[k0]? = some (addSc x0 d) := by rw [hm]; exact addP_same hd
    have hlen : (addSc x0 d).items.length = d.items.length + 1 := by unfold addSc; simp
    have hkl : k0 < (movAt ss (i0 : Int) (j0 : Int) (k0 : Int)).length := (List.getElem?_eq_some_iff.1 htk).1
    rw [he] at HQ HSI
    generalize movAt ss (i0 : Int) (j0 : Int) (k0 : Int) = tt at *
    obtain ⟨z, hz⟩ : ∃ z, d.items.length = z := ⟨_, rfl⟩
    rw [hz] at hlen HQ HSI hl5
    obtain ⟨ov, cv, rfl, -⟩ := hO.holds
    have hbN := (Below.refl w1.heap.size w1).alloc (Nat.le_refl _) (.cells #[.slice ov tt.length cv] 30)
    have hbx := hb1.trans (hbN.mono hb1.size)
    have HB1 := Lib.hid (HB.out.trans (hbx.mono HB.out.size))
    have RN := Lib.hid (Row.new w1 [.slice ov tt.length cv] 30)
    have HG := Lib.hid (hO.below hbN).holdsAt
    have HR1a := Lib.hid (HR1.out.below hbx HR1.out.lt)
    have HR2a := Lib.hid (HR2.out.below hbx HR2.out.lt)
    obtain ⟨bg, fg, rfl, hbg, hall⟩ := HG.out.at (by omega)
    obtain ⟨oi, ci, -, hcell, -⟩ := hall k0 _ htk
    rw [hlen] at hcell
    have hN0 := RN.out.cell (i := 0) (v := .slice (some ⟨bg, fg, none⟩) tt.length cv) (by rfl)
    have hsub : IntKind.i64.wrap (((z + 1 : Nat) : Int) - 1) = (z : Int) := by rw [show ((z + 1 : Nat) : Int) - 1 = (z : Int) by omega]; exact IntWalk.i64_in _ (by omega)
    have HIJ := Lib.hid (And.intro hi1 (And.intro hj1 (And.intro hik hl5)))
    have hz5 : z < 5 := hl5
    have HLZ := Lib.hid hz
    have h30 := placed_bound 0 ss 6 5 hh.1.count.2 hh.1.five
    have HV := Lib.hid hh.1
    have hbM := hbN.trans (((Below.refl (w1.alloc (.cells #[.slice (some ⟨bg, fg, none⟩) tt.length cv] 30)).heap.size _).alloc (Nat.le_refl _) (.cells #[.int .i64 (k0 : Int), .int .i64 (z : Int)] 34)).mono hbN.size)
    have hbM2 := (Below.refl (w1.alloc (.cells #[.slice (some ⟨bg, fg, none⟩) tt.length cv] 30)).heap.size (w1.alloc (.cells #[.slice (some ⟨bg, fg, none⟩) tt.length cv] 30))).alloc (Nat.le_refl _) (.cells #[.int .i64 (k0 : Int), .int .i64 (z : Int)] 34)
    have RE0 := Row.new (w1.alloc (.cells #[.slice (some ⟨bg, fg, none⟩) tt.length cv] 30)) [.int .i64 (k0 : Int), .int .i64 (z : Int)] 34
    rw [World.size_alloc] at RE0
    have RE := Lib.hid RE0
    have RN2 := Lib.hid (RN.out.below hbM2 RN.out.lt)
    have HB2 := Lib.hid (HB1.out.trans (hbM2.mono HB1.out.size))
    have HG2 := Lib.hid (HG.out.below hbM2 (Nat.le_refl _))
    have HR1b := Lib.hid (HR1a.out.below hbM2 HR1a.out.lt)
    have HR2b := Lib.hid (HR2a.out.below hbM2 HR2a.out.lt)
    have gx := HR1b.out.cell (i := 0) (v := .slice oa ss.length cap) (by rfl)
    have C3 := Lib.hid (l4Items_any ss (by have := HV.out.count.2; omega) (fun s hs => by have := HV.out.five s hs; omega) (by omega) oa cap _ (HC.out.below HB2.out (Nat.le_refl _)))
    clear hh hq hik hd hl5 hi1 hj1 he hm htk hlen hb1 hbN hbx hO hall hz g1 q0 q1 hbg hbM hbM2 RE0
    go_wp2_with fail
    generalize (w1.alloc (.cells #[.slice (some ⟨bg, fg, none⟩) tt.length cv] 30)).alloc (.cells #[.int .i64 (k0 : Int), .int .i64 (z : Int)] 34) = w4 at *
    refine C3.out.mono ?_
    rintro e w5 ⟨tl, rfl, htl, hb5⟩
    obtain ⟨ot, ct, rfl, hat⟩ := argPlaces_of_owns htl
    have HAT := Lib.hid hat
    have HB5 := Lib.hid (HB2.out.trans (hb5.mono HB2.out.size))
    have HA5 := Lib.hid (And.intro (HR1b.out.below hb5 HR1b.out.lt) (And.intro (HR2b.out.below hb5 HR2b.out.lt) (And.intro (RN2.out.below hb5 RN2.out.lt) (And.intro (RE.out.below hb5 RE.out.lt) (HG2.out.below hb5 (Nat.le_refl _))))))
    have HLN : Hid ((plsAll (placed 0 ss)).length = (placed 0 ss).length) := Lib.hid (plsAll_length _)
    have hln : (plsAll (placed 0 ss)).length ≤ 30 := by rw [plsAll_length]; exact h30
    have HBI := Lib.hid (show -9223372036854775808 ≤ (j0 : Int) ∧ (j0 : Int) ≤ 9223372036854775807 from ⟨by omega, by have := HIJ.out.2.1; omega⟩)
    clear hb5 htl hat gx hcell hN0
    go_wp2
    go_loopw [38] (fun i wr => ∃ k : Nat, i = .int .i64 k ∧ k ≤ (plsAll (placed 0 ss)).length ∧ Hid (∀ m t, m < k → (placed 0 ss)[m]? = some t → mvB ss tt (i0 : Int) (j0 : Int) ((k0 : Int), (z : Int)) t = true) ∧ Hid (Below w5.heap.size w5 wr)) (fun i _ => (plsAll (placed 0 ss)).length - (intOf i).toNat)
    case atStart => exact ⟨0, rfl, Nat.zero_le _, Lib.hid (fun m t hm => absurd hm (by omega)), Lib.hid (Below.refl _ _)⟩
    case round =>
      obtain ⟨k, rfl, hk, HR, HW⟩ := hrel
      by_cases hlt : k < (plsAll (placed 0 ss)).length
      · obtain ⟨⟨i, j, x⟩, hqk⟩ : ∃ q, (placed 0 ss)[k]? = some q := ⟨_, List.getElem?_eq_getElem (by rw [HLN.out] at hlt; exact hlt)⟩
        obtain ⟨b5, f5, rfl, hb5, q5⟩ := (HAT.out.below HW.out).at (by omega)
        obtain ⟨r0, r1⟩ := q5 k ((i : Int), (j : Int)) (plsAll_at hqk)
        have HQK := Lib.hid hqk
        have HQM := Lib.hid (List.mem_of_getElem? hqk)
        have hlt2 := HV.out.small.lt HQM.out
        have HJI := Lib.hid (show -9223372036854775808 ≤ (j : Int) ∧ (j : Int) ≤ 9223372036854775807 from ⟨by omega, by have := hlt2.2; dsimp only at this; omega⟩)
        have hba := (Below.refl wr.heap.size wr).alloc (Nat.le_refl _) (.cells #[.int .i64 (i : Int), .int .i64 (j : Int)] 34)
        have HWA := Lib.hid (HW.out.trans (hba.mono HW.out.size))
        have RPB := Lib.hid (Row.new wr [.int .i64 (i : Int), .int .i64 (j : Int)] 34)
        have a0 := RPB.out.cell (i := 0) (v := .int .i64 (i : Int)) (by rfl)
        have a1 := RPB.out.cell (i := 1) (v := .int .i64 (j : Int)) (by rfl)
        have b0 := (HA5.out.2.1.below HWA.out HA5.out.2.1.lt).cell (i := 0) (v := .int .i64 (i0 : Int)) (by rfl)
        have b1 := (HA5.out.2.1.below HWA.out HA5.out.2.1.lt).cell (i := 1) (v := .int .i64 (j0 : Int)) (by rfl)
        have e0 := (HA5.out.2.2.2.1.below HWA.out HA5.out.2.2.2.1.lt).cell (i := 0) (v := .int .i64 (k0 : Int)) (by rfl)
        have e1 := (HA5.out.2.2.2.1.below HWA.out HA5.out.2.2.2.1.lt).cell (i := 1) (v := .int .i64 (z : Int)) (by rfl)
        have g0 := (HA5.out.1.below HWA.out HA5.out.1.lt).cell (i := 0) (v := .slice oa ss.length cap) (by rfl)
        have n0 := (HA5.out.2.2.1.below HWA.out HA5.out.2.2.1.lt).cell (i := 0) (v := .slice (some ⟨bg, fg, none⟩) tt.length cv) (by rfl)
        clear hba q5 hqk hlt2 hb5
        obtain ⟨wA, hwA⟩ : ∃ wA, wr.alloc (.cells #[.int .i64 (i : Int), .int .i64 (j : Int)] 34) = wA := ⟨_, rfl⟩
        rw [hwA] at HWA RPB a0 a1 b0 b1 e0 e1 g0 n0
        have CA := Lib.hid (l6After_any (i : Int) (j : Int) (i0 : Int) (j0 : Int) HJI.out HBI.out wA)
        rw [← hwA] at HWA RPB a0 a1 b0 b1 e0 e1 g0 n0 CA
        clear hwA
        go_wp2_with fail
        generalize wr.alloc (.cells #[.int .i64 (i : Int), .int .i64 (j : Int)] 34) = wA at *
        refine CA.out.mono ?_
        rintro e wB ⟨rfl, hbB⟩
        have HWB := Lib.hid (HWA.out.trans (hbB.mono HWA.out.size))
        obtain ⟨ny0, hny0⟩ : ∃ ny0 : Nat, aftB (i : Int) (j : Int) (i0 : Int) (j0 : Int) = (ny0 : Int) := ⟨_, aftB_natM i0 j0 i j⟩
        rw [hny0]
        have RP2 := Lib.hid (RPB.out.below hbB RPB.out.lt)
        have HA2 := Lib.hid (And.intro (HA5.out.1.below HWB.out HA5.out.1.lt) (And.intro (HA5.out.2.1.below HWB.out HA5.out.2.1.lt) (And.intro (HA5.out.2.2.1.below HWB.out HA5.out.2.2.1.lt) (And.intro (HA5.out.2.2.2.1.below HWB.out HA5.out.2.2.2.1.lt) (HA5.out.2.2.2.2.below HWB.out (Nat.le_refl _))))))
        clear hbB a0 a1 b0 b1 e0 e1 g0 n0 r0 r1
        by_cases hij : i = i0 ∧ j = j0
        · obtain ⟨nx, ny, y, hp, hmem⟩ := HSI.out _ HQM.out _ (show stMov (i0 : Int) (j0 : Int) ((k0 : Int), (z : Int)) (plOf (i, j, x)) = some ((k0 : Int), (z : Int)) from by unfold stMov plOf; dsimp only; rw [if_pos ⟨by rw [hij.1], by rw [hij.2]⟩])
          simp only [Prod.mk.injEq, Int.natCast_inj] at hp
          obtain ⟨rfl, rfl⟩ := hp
          have HMB : Hid (mvB ss tt (i0 : Int) (j0 : Int) ((k0 : Int), (z : Int)) (i, j, x) = decide ((meanIt ss (i, j, x)).map (mvd (i0 : Int) (j0 : Int) ((k0 : Int), (z : Int))) = meanIt tt (k0, z, y))) := Lib.hid (by
            unfold mvB
            rw [show mvd (i0 : Int) (j0 : Int) ((k0 : Int), (z : Int)) (plOf (i, j, x)) = ((k0 : Int), (z : Int)) from by unfold mvd plOf; dsimp only; rw [if_pos ⟨by rw [hij.1], by rw [hij.2]⟩]]
            dsimp only
            rw [meanAt_of hmem])
          have c1 : ((i : Int) == (i0 : Int)) = true := by simp [hij.1]
          have c2 : ((j : Int) == (j0 : Int)) = true := by simp [hij.2]
          have HMM := Lib.hid hmem
          clear hmem hny0 hij
          have hbC := (Below.refl wB.heap.size wB).alloc (Nat.le_refl _) (.cells #[.int .i64 (k0 : Int), .int .i64 (z : Int)] 34)
          have HSC : Hid ((wB.alloc (.cells #[.int .i64 (k0 : Int), .int .i64 (z : Int)] 34)).heap.size = wB.heap.size + 1) := Lib.hid (by simp)
          have RQ := Lib.hid (Row.new wB [.int .i64 (k0 : Int), .int .i64 (z : Int)] 34)
          have HWC := Lib.hid (HWB.out.trans (hbC.mono HWB.out.size))
          have hown0 : ((wB.alloc (.cells #[.int .i64 (k0 : Int), .int .i64 (z : Int)] 34)).alloc (.cells #[] 34)).ownsRow (wB.heap.size + 1) 34 2 (.slice (some ⟨wB.heap.size + 1, 0, none⟩) 0 0) 0 [] := by
            have h0 := World.ownsRow_made (base := wB.heap.size + 1) (e := 34) (size := 2) (wB.alloc (.cells #[.int .i64 (k0 : Int), .int .i64 (z : Int)] 34)) #[] 0 (by simp) (by unfold maxLen; omega) rfl
            rw [World.size_alloc] at h0
            exact h0
          have hbD := (Below.refl (wB.alloc (.cells #[.int .i64 (k0 : Int), .int .i64 (z : Int)] 34)).heap.size (wB.alloc (.cells #[.int .i64 (k0 : Int), .int .i64 (z : Int)] 34))).alloc (Nat.le_refl _) (.cells #[] 34)
          have hbCD := hbC.trans (hbD.mono hbC.size)
          have HSD : Hid (wB.heap.size + 1 < ((wB.alloc (.cells #[.int .i64 (k0 : Int), .int .i64 (z : Int)] 34)).alloc (.cells #[] 34)).heap.size) := Lib.hid (by simp)
          have HWD := Lib.hid (HWB.out.trans (hbCD.mono HWB.out.size))
          have CB := Lib.hid (specResolve_any ss HV.out HF.out.fits oa cap HQM.out ((wB.alloc (.cells #[.int .i64 (k0 : Int), .int .i64 (z : Int)] 34)).alloc (.cells #[] 34)) (HC.out.below (HB5.out.trans (HWD.out.mono HB5.out.size)) (Nat.le_refl _)))
          have HO0 := Lib.hid hown0
          have HBD := Lib.hid hbD
          have p0 := (RP2.out.alloc (.cells #[.int .i64 (i : Int), .int .i64 (ny0 : Int)] 34)).cell (i := 0) (v := .int .i64 (i : Int)) (by rfl)
          have p1 := (RP2.out.alloc (.cells #[.int .i64 (i : Int), .int .i64 (ny0 : Int)] 34)).cell (i := 1) (v := .int .i64 (j : Int)) (by rfl)
          have b0 := (HA2.out.2.1.alloc (.cells #[.int .i64 (i : Int), .int .i64 (ny0 : Int)] 34)).cell (i := 0) (v := .int .i64 (i0 : Int)) (by rfl)
          have b1 := (HA2.out.2.1.alloc (.cells #[.int .i64 (i : Int), .int .i64 (ny0 : Int)] 34)).cell (i := 1) (v := .int .i64 (j0 : Int)) (by rfl)
          have e0 := (HA2.out.2.2.2.1.alloc (.cells #[.int .i64 (i : Int), .int .i64 (ny0 : Int)] 34)).cell (i := 0) (v := .int .i64 (k0 : Int)) (by rfl)
          have e1 := (HA2.out.2.2.2.1.alloc (.cells #[.int .i64 (i : Int), .int .i64 (ny0 : Int)] 34)).cell (i := 1) (v := .int .i64 (z : Int)) (by rfl)
          have g3 := ((HA2.out.1.alloc (.cells #[.int .i64 (k0 : Int), .int .i64 (z : Int)] 34)).alloc (.cells #[] 34)).cell (i := 0) (v := .slice oa ss.length cap) (by rfl)
          have p3 := ((RP2.out.alloc (.cells #[.int .i64 (k0 : Int), .int .i64 (z : Int)] 34)).alloc (.cells #[] 34)).cell (i := 0) (v := .int .i64 (i : Int)) (by rfl)
          have p4 := ((RP2.out.alloc (.cells #[.int .i64 (k0 : Int), .int .i64 (z : Int)] 34)).alloc (.cells #[] 34)).cell (i := 1) (v := .int .i64 (j : Int)) (by rfl)
          clear hbC hown0 hbD hbCD
          go_wp2_with fail
          generalize wB.alloc (.cells #[.int .i64 (k0 : Int), .int .i64 (z : Int)] 34) = wC at *
          generalize wC.alloc (.cells #[] 34) = wD at *
          refine CB.out.mono ?_
          rintro e wE ⟨vm, rfl, hownm, hbE⟩
          have HP1 := Lib.hid (meanIt_isPlace HQM.out)
          have HN1 := meanIt_length HV.out (i, j, x)
          have HWE := Lib.hid (HWD.out.trans (hbE.mono HWD.out.size))
          have hfar2 : vm = .slice none 0 0 ∨ vm.ownBlock ≠ (Value.slice (some ⟨wB.heap.size + 1, 0, none⟩) 0 0).ownBlock := by
            rcases hownm.2 with h1 | ⟨g, cp, cur, rfl, hgB, _⟩
            · exact .inl h1.1
            · refine .inr fun e => ?_
              simp only [Value.ownBlock, Option.some.injEq] at e
              have := HSD.out
              omega
          obtain ⟨om, cm, rfl, -⟩ := argPlaces_of_owns hownm
          have HI0 : Hid (WantAt (wB.heap.size + 1) wD.heap.size wC wE (.slice (some ⟨wB.heap.size + 1, 0, none⟩) 0 0) (.slice om (meanIt ss (i, j, x)).length cm) [] (meanIt ss (i, j, x))) := Lib.hid ⟨ownsRow_below HO0.out hbE, hownm, hfar2, by
            have h1 := HBD.out.trans (hbE.mono HBD.out.size)
            rw [HSC.out] at h1
            exact h1⟩
          clear hbE hownm hfar2 p0 p1 b0 b1 e0 e1 g3 p3 p4
          generalize hml : meanIt ss (i, j, x) = ml at *
          have HML := Lib.hid hml
          clear hml
          go_wp2
          go_loopw [13, 54] (fun v ii wr => ∃ k2 : Nat, ii = .int .i64 k2 ∧ k2 ≤ ml.length ∧ Hid (WantAt (wB.heap.size + 1) wD.heap.size wC wr v (.slice om ml.length cm) (mvUp (i0 : Int) (j0 : Int) ((k0 : Int), (z : Int)) ml k2) ml)) (fun _ ii _ => ml.length - (intOf ii).toNat)
          case atStart => exact ⟨0, rfl, Nat.zero_le _, HI0⟩
          case round =>
            obtain ⟨k2, rfl, hk2, hP⟩ := hrel
            have HCR : Hid (Below (wB.heap.size + 1) wC wr) := Lib.hid hP.out.below
            have hCB : wB.heap.size + 1 ≤ wC.heap.size := by rw [HSC.out]; exact Nat.le_refl _
            have HCB := Lib.hid hCB
            have HWR : Hid (Below w5.heap.size w5 wr) := Lib.hid (HWC.out.trans (HCR.out.mono (by have := HWB.out.size; omega)))
            by_cases hlt2 : k2 < ml.length
            · obtain ⟨dd, hdd⟩ : ∃ dd, ml[k2]? = some dd := ⟨_, List.getElem?_eq_getElem hlt2⟩
              obtain ⟨ci, cj, cs, cx, rfl, hcs, hcx⟩ := HP1.out dd (List.mem_of_getElem? hdd)
              have hcj : cj < 1000 := by have h1 := (List.getElem?_eq_some_iff.1 hcx).1; have h2 := HV.out.small.items cs (List.mem_of_getElem? hcs); omega
              obtain ⟨o', c', he', hat⟩ := argPlaces_of_owns hP.out.lst
              cases he'
              obtain ⟨b6, f6, rfl, hb6, q6⟩ := hat.at (by omega)
              obtain ⟨x0, x1⟩ := q6 k2 _ hdd
              dsimp only at x0 x1
              have hbF := (Below.refl wr.heap.size wr).alloc (Nat.le_refl _) (.cells #[.int .i64 (ci : Int), .int .i64 (cj : Int)] 34)
              have HPF := Lib.hid (hP.out.step hbF HCB.out)
              have HWF := Lib.hid (HWR.out.trans (hbF.mono HWR.out.size))
              have RD := Lib.hid (Row.new wr [.int .i64 (ci : Int), .int .i64 (cj : Int)] 34)
              have d0 := RD.out.cell (i := 0) (v := .int .i64 (ci : Int)) (by rfl)
              have d1 := RD.out.cell (i := 1) (v := .int .i64 (cj : Int)) (by rfl)
              have b0 := (HA5.out.2.1.below HWF.out HA5.out.2.1.lt).cell (i := 0) (v := .int .i64 (i0 : Int)) (by rfl)
              have b1 := (HA5.out.2.1.below HWF.out HA5.out.2.1.lt).cell (i := 1) (v := .int .i64 (j0 : Int)) (by rfl)
              have e0 := (HA5.out.2.2.2.1.below HWF.out HA5.out.2.2.2.1.lt).cell (i := 0) (v := .int .i64 (k0 : Int)) (by rfl)
              have e1 := (HA5.out.2.2.2.1.below HWF.out HA5.out.2.2.2.1.lt).cell (i := 1) (v := .int .i64 (z : Int)) (by rfl)
              have hsl : (mvUp (i0 : Int) (j0 : Int) ((k0 : Int), (z : Int)) ml k2).length < 1000000 := by have h9 := mvUp_length (i0 : Int) (j0 : Int) ((k0 : Int), (z : Int)) ml k2; omega
              have HDD := Lib.hid hdd
              have HCJ := Lib.hid (show -9223372036854775808 ≤ (cj : Int) ∧ (cj : Int) ≤ 9223372036854775807 from ⟨by omega, by omega⟩)
              clear hbF q6 hat hcs hcx hcj hdd hb6 hCB
              by_cases hcc : ci = i0 ∧ cj = j0
              · have HE : Hid (mvUp (i0 : Int) (j0 : Int) ((k0 : Int), (z : Int)) ml (k2 + 1) = mvUp (i0 : Int) (j0 : Int) ((k0 : Int), (z : Int)) ml k2 ++ [((k0 : Int), (z : Int))]) := Lib.hid (mv_take HDD.out (by rw [hcc.1, hcc.2]; exact mvd_at _ _ _))
                have t1 : ((ci : Int) == (i0 : Int)) = true := by simp [hcc.1]
                have t2 : ((cj : Int) == (j0 : Int)) = true := by simp [hcc.2]
                clear hcc
                obtain ⟨wF, hwF⟩ : ∃ wF, wr.alloc (.cells #[.int .i64 (ci : Int), .int .i64 (cj : Int)] 34) = wF := ⟨_, rfl⟩
                rw [hwF] at HPF HWF RD d0 d1 b0 b1 e0 e1
                obtain ⟨v', w7, hrun, hown', hgrow, hbl⟩ := append_place_at HPF.out.row (k0 : Int) (z : Int) hsl (Nat.le_trans HCB.out (HPF.out.below.size)) 46
                have HP7 : Hid (WantAt (wB.heap.size + 1) wD.heap.size wC w7 v' _ (mvUp (i0 : Int) (j0 : Int) ((k0 : Int), (z : Int)) ml (k2 + 1)) ml) := Lib.hid (by rw [HE.out]; exact HPF.out.snoc HCB.out hown' hgrow hbl)
                subst hwF
                rw [World.size_alloc] at hrun
                have HRUN := Lib.hid hrun
                clear hown' hgrow hbl hrun
                go_wp2_with (at_builtin; refine wpList_append_run rfl _ _ 46 rfl HRUN.out ?_)
                go_wp2
                go_roundw
                case rel => exact ⟨k2 + 1, by go_num, by omega, HP7⟩
                case measure => simp only [intOf]; omega
              · have HE : Hid (mvUp (i0 : Int) (j0 : Int) ((k0 : Int), (z : Int)) ml (k2 + 1) = mvUp (i0 : Int) (j0 : Int) ((k0 : Int), (z : Int)) ml k2 ++ [((ci : Int), aftB (ci : Int) (cj : Int) (i0 : Int) (j0 : Int))]) := Lib.hid (mv_take HDD.out (mvd_not (fun h => hcc ⟨by have := h.1; dsimp only at this; omega, by have := h.2; dsimp only at this; omega⟩)))
                have ht : ((ci : Int) == (i0 : Int)) = false ∨ (((ci : Int) == (i0 : Int)) = true ∧ ((cj : Int) == (j0 : Int)) = false) := by
                  by_cases h1 : ci = i0
                  · exact .inr ⟨by simp [h1], by simp; omega⟩
                  · exact .inl (by simp; omega)
                clear hcc
                have CF := Lib.hid (l6After_any (ci : Int) (cj : Int) (i0 : Int) (j0 : Int) HCJ.out HBI.out (wr.alloc (.cells #[.int .i64 (ci : Int), .int .i64 (cj : Int)] 34)))
                generalize aftB (ci : Int) (cj : Int) (i0 : Int) (j0 : Int) = zz at *
                rcases ht with t1 | ⟨t1, t2⟩
                all_goals (
                  go_wp2_with fail
                  refine CF.out.mono ?_
                  rintro e wG ⟨rfl, hbG⟩
                  have HPG := Lib.hid (HPF.out.step hbG HCB.out)
                  clear hbG x0 x1 d0 d1 b0 b1 e0 e1
                  obtain ⟨v', w7, hrun, hown', hgrow, hbl⟩ := append_place_at HPG.out.row (ci : Int) zz hsl (Nat.le_trans HCB.out (HPG.out.below.size)) 46
                  have HP7 : Hid (WantAt (wB.heap.size + 1) wD.heap.size wC w7 v' _ (mvUp (i0 : Int) (j0 : Int) ((k0 : Int), (z : Int)) ml (k2 + 1)) ml) := Lib.hid (by rw [HE.out]; exact HPG.out.snoc HCB.out hown' hgrow hbl)
                  have HRUN := Lib.hid hrun
                  clear hown' hgrow hbl hrun
                  go_wp2_with (at_builtin; refine wpList_append_run rfl _ _ 46 rfl HRUN.out ?_)
                  go_wp2
                  go_roundw
                  case rel => exact ⟨k2 + 1, by go_num, by omega, HP7⟩
                  case measure => simp only [intOf]; omega)
            · obtain rfl : k2 = ml.length := by omega
              have hrow := hP.out.row
              obtain ⟨ow, cw, rfl, haw⟩ := argPlaces_of_owns hrow
              have HAW := Lib.hid haw
              have RQ2 := Lib.hid (RQ.out.below HCR.out (Nat.lt_succ_self _))
              have n0 := (HA5.out.2.2.1.below HWR.out HA5.out.2.2.1.lt).cell (i := 0) (v := .slice (some ⟨bg, fg, none⟩) tt.length cv) (by rfl)
              have s0 := RQ2.out.cell (i := 0) (v := .int .i64 (k0 : Int)) (by rfl)
              have s1 := RQ2.out.cell (i := 1) (v := .int .i64 (z : Int)) (by rfl)
              have CH := Lib.hid (specResolve_any tt HV2.out HF2.out.fits (some ⟨bg, fg, none⟩) cv HMM.out wr (HA5.out.2.2.2.2.below HWR.out (Nat.le_refl _)))
              clear hrow haw hCB
              go_wp2_with fail
              refine CH.out.mono ?_
              rintro e wI ⟨vI, rfl, hownI, hbI⟩
              obtain ⟨oI, cI, rfl, haI⟩ := argPlaces_of_owns hownI
              have HAW2 := Lib.hid (HAW.out.below hbI)
              have HWI := Lib.hid (HWR.out.trans (hbI.mono HWR.out.size))
              have CL := Lib.hid (l7List_any (mvUp (i0 : Int) (j0 : Int) ((k0 : Int), (z : Int)) ml ml.length) (meanIt tt (k0, z, y)) ow oI cw cI wI (by have h9 := mvUp_length (i0 : Int) (j0 : Int) ((k0 : Int), (z : Int)) ml ml.length; omega) (by have := meanIt_length HV2.out (k0, z, y); omega) HAW2.out haI)
              clear hbI hownI haI n0 s0 s1
              go_wp2_with fail
              refine CL.out.mono ?_
              rintro e wJ ⟨rfl, hbJ⟩
              have HWJ := Lib.hid (HWI.out.trans (hbJ.mono HWI.out.size))
              clear hbJ
              obtain ⟨r, hr⟩ : ∃ r, decide (mvUp (i0 : Int) (j0 : Int) ((k0 : Int), (z : Int)) ml ml.length = meanIt tt (k0, z, y)) = r := ⟨_, rfl⟩
              rw [hr]
              have HRR : Hid (mvB ss tt (i0 : Int) (j0 : Int) ((k0 : Int), (z : Int)) (i, j, x) = r) := Lib.hid (by rw [HMB.out, ← hr, mvUp_all])
              clear hr
              cases r
              · have HQF : Hid (q = false) := Lib.hid (by
                  cases q with
                  | false => rfl
                  | true => have h1 := HQ.out.1 rfl _ HQM.out; rw [HRR.out] at h1; cases h1)
                go_wp2
                go_ret
                exact ⟨q, by rw [HQF.out] <;> rfl, HQV.out, HB5.out.trans (HWJ.out.mono HB5.out.size)⟩
              · have HNX : Hid (∀ m t, m < k + 1 → (placed 0 ss)[m]? = some t → mvB ss tt (i0 : Int) (j0 : Int) ((k0 : Int), (z : Int)) t = true) := Lib.hid (by
                  intro m t hm ht
                  by_cases hmk : m = k
                  · subst hmk
                    rw [HQK.out] at ht
                    obtain rfl := Option.some.inj ht
                    exact HRR.out
                  · exact HR.out m t (by omega) ht)
                go_wp2
                go_roundw
                case rel => exact ⟨k + 1, by go_num, by omega, HNX, HWJ⟩
                case measure => simp only [intOf]; omega
        · have HPB := Lib.hid hij
          obtain ⟨nx, ny, y, hp, hmem⟩ := HSI.out _ HQM.out _ (show stMov (i0 : Int) (j0 : Int) ((k0 : Int), (z : Int)) (plOf (i, j, x)) = some ((i : Int), (ny0 : Int)) from by unfold stMov plOf; dsimp only; rw [if_neg (fun h => hij ⟨by have := h.1; omega, by have := h.2; omega⟩), aftI_BM]; dsimp only; rw [hny0])
          simp only [Prod.mk.injEq, Int.natCast_inj] at hp
          obtain ⟨rfl, rfl⟩ := hp
          have HMB : Hid (mvB ss tt (i0 : Int) (j0 : Int) ((k0 : Int), (z : Int)) (i, j, x) = decide ((meanIt ss (i, j, x)).map (mvd (i0 : Int) (j0 : Int) ((k0 : Int), (z : Int))) = meanIt tt (i, ny0, y))) := Lib.hid (by
            unfold mvB
            rw [show mvd (i0 : Int) (j0 : Int) ((k0 : Int), (z : Int)) (plOf (i, j, x)) = ((i : Int), (ny0 : Int)) from by unfold plOf; rw [mvd_not (fun h => hij ⟨by have := h.1; dsimp only at this; omega, by have := h.2; dsimp only at this; omega⟩)]; dsimp only; rw [hny0]]
            dsimp only
            rw [meanAt_of hmem])
          have hcc : ((i : Int) == (i0 : Int)) = false ∨ (((i : Int) == (i0 : Int)) = true ∧ ((j : Int) == (j0 : Int)) = false) := by
            by_cases h1 : i = i0
            · exact .inr ⟨by simp [h1], by simp; omega⟩
            · exact .inl (by simp; omega)
          have HMM := Lib.hid hmem
          clear hmem hny0 hij
          rcases hcc with c1 | ⟨c1, c2⟩
          · have hbC := (Below.refl wB.heap.size wB).alloc (Nat.le_refl _) (.cells #[.int .i64 (i : Int), .int .i64 (ny0 : Int)] 34)
            have HSC : Hid ((wB.alloc (.cells #[.int .i64 (i : Int), .int .i64 (ny0 : Int)] 34)).heap.size = wB.heap.size + 1) := Lib.hid (by simp)
            have RQ := Lib.hid (Row.new wB [.int .i64 (i : Int), .int .i64 (ny0 : Int)] 34)
            have HWC := Lib.hid (HWB.out.trans (hbC.mono HWB.out.size))
            have hown0 : ((wB.alloc (.cells #[.int .i64 (i : Int), .int .i64 (ny0 : Int)] 34)).alloc (.cells #[] 34)).ownsRow (wB.heap.size + 1) 34 2 (.slice (some ⟨wB.heap.size + 1, 0, none⟩) 0 0) 0 [] := by
              have h0 := World.ownsRow_made (base := wB.heap.size + 1) (e := 34) (size := 2) (wB.alloc (.cells #[.int .i64 (i : Int), .int .i64 (ny0 : Int)] 34)) #[] 0 (by simp) (by unfold maxLen; omega) rfl
              rw [World.size_alloc] at h0
              exact h0
            have hbD := (Below.refl (wB.alloc (.cells #[.int .i64 (i : Int), .int .i64 (ny0 : Int)] 34)).heap.size (wB.alloc (.cells #[.int .i64 (i : Int), .int .i64 (ny0 : Int)] 34))).alloc (Nat.le_refl _) (.cells #[] 34)
            have hbCD := hbC.trans (hbD.mono hbC.size)
            have HSD : Hid (wB.heap.size + 1 < ((wB.alloc (.cells #[.int .i64 (i : Int), .int .i64 (ny0 : Int)] 34)).alloc (.cells #[] 34)).heap.size) := Lib.hid (by simp)
            have HWD := Lib.hid (HWB.out.trans (hbCD.mono HWB.out.size))
            have CB := Lib.hid (specResolve_any ss HV.out HF.out.fits oa cap HQM.out ((wB.alloc (.cells #[.int .i64 (i : Int), .int .i64 (ny0 : Int)] 34)).alloc (.cells #[] 34)) (HC.out.below (HB5.out.trans (HWD.out.mono HB5.out.size)) (Nat.le_refl _)))
            have HO0 := Lib.hid hown0
            have HBD := Lib.hid hbD
            have p0 := (RP2.out.alloc (.cells #[.int .i64 (i : Int), .int .i64 (ny0 : Int)] 34)).cell (i := 0) (v := .int .i64 (i : Int)) (by rfl)
            have p1 := (RP2.out.alloc (.cells #[.int .i64 (i : Int), .int .i64 (ny0 : Int)] 34)).cell (i := 1) (v := .int .i64 (j : Int)) (by rfl)
            have b0 := (HA2.out.2.1.alloc (.cells #[.int .i64 (i : Int), .int .i64 (ny0 : Int)] 34)).cell (i := 0) (v := .int .i64 (i0 : Int)) (by rfl)
            have b1 := (HA2.out.2.1.alloc (.cells #[.int .i64 (i : Int), .int .i64 (ny0 : Int)] 34)).cell (i := 1) (v := .int .i64 (j0 : Int)) (by rfl)
            have e0 := (HA2.out.2.2.2.1.alloc (.cells #[.int .i64 (i : Int), .int .i64 (ny0 : Int)] 34)).cell (i := 0) (v := .int .i64 (k0 : Int)) (by rfl)
            have e1 := (HA2.out.2.2.2.1.alloc (.cells #[.int .i64 (i : Int), .int .i64 (ny0 : Int)] 34)).cell (i := 1) (v := .int .i64 (z : Int)) (by rfl)
            have g3 := ((HA2.out.1.alloc (.cells #[.int .i64 (i : Int), .int .i64 (ny0 : Int)] 34)).alloc (.cells #[] 34)).cell (i := 0) (v := .slice oa ss.length cap) (by rfl)
            have p3 := ((RP2.out.alloc (.cells #[.int .i64 (i : Int), .int .i64 (ny0 : Int)] 34)).alloc (.cells #[] 34)).cell (i := 0) (v := .int .i64 (i : Int)) (by rfl)
            have p4 := ((RP2.out.alloc (.cells #[.int .i64 (i : Int), .int .i64 (ny0 : Int)] 34)).alloc (.cells #[] 34)).cell (i := 1) (v := .int .i64 (j : Int)) (by rfl)
            clear hbC hown0 hbD hbCD
            go_wp2_with fail
            generalize wB.alloc (.cells #[.int .i64 (i : Int), .int .i64 (ny0 : Int)] 34) = wC at *
            generalize wC.alloc (.cells #[] 34) = wD at *
            refine CB.out.mono ?_
            rintro e wE ⟨vm, rfl, hownm, hbE⟩
            have HP1 := Lib.hid (meanIt_isPlace HQM.out)
            have HN1 := meanIt_length HV.out (i, j, x)
            have HWE := Lib.hid (HWD.out.trans (hbE.mono HWD.out.size))
            have hfar2 : vm = .slice none 0 0 ∨ vm.ownBlock ≠ (Value.slice (some ⟨wB.heap.size + 1, 0, none⟩) 0 0).ownBlock := by
              rcases hownm.2 with h1 | ⟨g, cp, cur, rfl, hgB, _⟩
              · exact .inl h1.1
              · refine .inr fun e => ?_
                simp only [Value.ownBlock, Option.some.injEq] at e
                have := HSD.out
                omega
            obtain ⟨om, cm, rfl, -⟩ := argPlaces_of_owns hownm
            have HI0 : Hid (WantAt (wB.heap.size + 1) wD.heap.size wC wE (.slice (some ⟨wB.heap.size + 1, 0, none⟩) 0 0) (.slice om (meanIt ss (i, j, x)).length cm) [] (meanIt ss (i, j, x))) := Lib.hid ⟨ownsRow_below HO0.out hbE, hownm, hfar2, by
              have h1 := HBD.out.trans (hbE.mono HBD.out.size)
              rw [HSC.out] at h1
              exact h1⟩
            clear hbE hownm hfar2 p0 p1 b0 b1 e0 e1 g3 p3 p4
            generalize hml : meanIt ss (i, j, x) = ml at *
            have HML := Lib.hid hml
            clear hml
            go_wp2
            go_loopw [13, 54] (fun v ii wr => ∃ k2 : Nat, ii = .int .i64 k2 ∧ k2 ≤ ml.length ∧ Hid (WantAt (wB.heap.size + 1) wD.heap.size wC wr v (.slice om ml.length cm) (mvUp (i0 : Int) (j0 : Int) ((k0 : Int), (z : Int)) ml k2) ml)) (fun _ ii _ => ml.length - (intOf ii).toNat)
            case atStart => exact ⟨0, rfl, Nat.zero_le _, HI0⟩
            case round =>
              obtain ⟨k2, rfl, hk2, hP⟩ := hrel
              have HCR : Hid (Below (wB.heap.size + 1) wC wr) := Lib.hid hP.out.below
              have hCB : wB.heap.size + 1 ≤ wC.heap.size := by rw [HSC.out]; exact Nat.le_refl _
              have HCB := Lib.hid hCB
              have HWR : Hid (Below w5.heap.size w5 wr) := Lib.hid (HWC.out.trans (HCR.out.mono (by have := HWB.out.size; omega)))
              by_cases hlt2 : k2 < ml.length
              · obtain ⟨dd, hdd⟩ : ∃ dd, ml[k2]? = some dd := ⟨_, List.getElem?_eq_getElem hlt2⟩
                obtain ⟨ci, cj, cs, cx, rfl, hcs, hcx⟩ := HP1.out dd (List.mem_of_getElem? hdd)
                have hcj : cj < 1000 := by have h1 := (List.getElem?_eq_some_iff.1 hcx).1; have h2 := HV.out.small.items cs (List.mem_of_getElem? hcs); omega
                obtain ⟨o', c', he', hat⟩ := argPlaces_of_owns hP.out.lst
                cases he'
                obtain ⟨b6, f6, rfl, hb6, q6⟩ := hat.at (by omega)
                obtain ⟨x0, x1⟩ := q6 k2 _ hdd
                dsimp only at x0 x1
                have hbF := (Below.refl wr.heap.size wr).alloc (Nat.le_refl _) (.cells #[.int .i64 (ci : Int), .int .i64 (cj : Int)] 34)
                have HPF := Lib.hid (hP.out.step hbF HCB.out)
                have HWF := Lib.hid (HWR.out.trans (hbF.mono HWR.out.size))
                have RD := Lib.hid (Row.new wr [.int .i64 (ci : Int), .int .i64 (cj : Int)] 34)
                have d0 := RD.out.cell (i := 0) (v := .int .i64 (ci : Int)) (by rfl)
                have d1 := RD.out.cell (i := 1) (v := .int .i64 (cj : Int)) (by rfl)
                have b0 := (HA5.out.2.1.below HWF.out HA5.out.2.1.lt).cell (i := 0) (v := .int .i64 (i0 : Int)) (by rfl)
                have b1 := (HA5.out.2.1.below HWF.out HA5.out.2.1.lt).cell (i := 1) (v := .int .i64 (j0 : Int)) (by rfl)
                have e0 := (HA5.out.2.2.2.1.below HWF.out HA5.out.2.2.2.1.lt).cell (i := 0) (v := .int .i64 (k0 : Int)) (by rfl)
                have e1 := (HA5.out.2.2.2.1.below HWF.out HA5.out.2.2.2.1.lt).cell (i := 1) (v := .int .i64 (z : Int)) (by rfl)
                have hsl : (mvUp (i0 : Int) (j0 : Int) ((k0 : Int), (z : Int)) ml k2).length < 1000000 := by have h9 := mvUp_length (i0 : Int) (j0 : Int) ((k0 : Int), (z : Int)) ml k2; omega
                have HDD := Lib.hid hdd
                have HCJ := Lib.hid (show -9223372036854775808 ≤ (cj : Int) ∧ (cj : Int) ≤ 9223372036854775807 from ⟨by omega, by omega⟩)
                clear hbF q6 hat hcs hcx hcj hdd hb6 hCB
                by_cases hcc : ci = i0 ∧ cj = j0
                · have HE : Hid (mvUp (i0 : Int) (j0 : Int) ((k0 : Int), (z : Int)) ml (k2 + 1) = mvUp (i0 : Int) (j0 : Int) ((k0 : Int), (z : Int)) ml k2 ++ [((k0 : Int), (z : Int))]) := Lib.hid (mv_take HDD.out (by rw [hcc.1, hcc.2]; exact mvd_at _ _ _))
                  have t1 : ((ci : Int) == (i0 : Int)) = true := by simp [hcc.1]
                  have t2 : ((cj : Int) == (j0 : Int)) = true := by simp [hcc.2]
                  clear hcc
                  obtain ⟨wF, hwF⟩ : ∃ wF, wr.alloc (.cells #[.int .i64 (ci : Int), .int .i64 (cj : Int)] 34) = wF := ⟨_, rfl⟩
                  rw [hwF] at HPF HWF RD d0 d1 b0 b1 e0 e1
                  obtain ⟨v', w7, hrun, hown', hgrow, hbl⟩ := append_place_at HPF.out.row (k0 : Int) (z : Int) hsl (Nat.le_trans HCB.out (HPF.out.below.size)) 46
                  have HP7 : Hid (WantAt (wB.heap.size + 1) wD.heap.size wC w7 v' _ (mvUp (i0 : Int) (j0 : Int) ((k0 : Int), (z : Int)) ml (k2 + 1)) ml) := Lib.hid (by rw [HE.out]; exact HPF.out.snoc HCB.out hown' hgrow hbl)
                  subst hwF
                  rw [World.size_alloc] at hrun
                  have HRUN := Lib.hid hrun
                  clear hown' hgrow hbl hrun
                  go_wp2_with (at_builtin; refine wpList_append_run rfl _ _ 46 rfl HRUN.out ?_)
                  go_wp2
                  go_roundw
                  case rel => exact ⟨k2 + 1, by go_num, by omega, HP7⟩
                  case measure => simp only [intOf]; omega
                · have HE : Hid (mvUp (i0 : Int) (j0 : Int) ((k0 : Int), (z : Int)) ml (k2 + 1) = mvUp (i0 : Int) (j0 : Int) ((k0 : Int), (z : Int)) ml k2 ++ [((ci : Int), aftB (ci : Int) (cj : Int) (i0 : Int) (j0 : Int))]) := Lib.hid (mv_take HDD.out (mvd_not (fun h => hcc ⟨by have := h.1; dsimp only at this; omega, by have := h.2; dsimp only at this; omega⟩)))
                  have ht : ((ci : Int) == (i0 : Int)) = false ∨ (((ci : Int) == (i0 : Int)) = true ∧ ((cj : Int) == (j0 : Int)) = false) := by
                    by_cases h1 : ci = i0
                    · exact .inr ⟨by simp [h1], by simp; omega⟩
                    · exact .inl (by simp; omega)
                  clear hcc
                  have CF := Lib.hid (l6After_any (ci : Int) (cj : Int) (i0 : Int) (j0 : Int) HCJ.out HBI.out (wr.alloc (.cells #[.int .i64 (ci : Int), .int .i64 (cj : Int)] 34)))
                  generalize aftB (ci : Int) (cj : Int) (i0 : Int) (j0 : Int) = zz at *
                  rcases ht with t1 | ⟨t1, t2⟩
                  all_goals (
                    go_wp2_with fail
                    refine CF.out.mono ?_
                    rintro e wG ⟨rfl, hbG⟩
                    have HPG := Lib.hid (HPF.out.step hbG HCB.out)
                    clear hbG x0 x1 d0 d1 b0 b1 e0 e1
                    obtain ⟨v', w7, hrun, hown', hgrow, hbl⟩ := append_place_at HPG.out.row (ci : Int) zz hsl (Nat.le_trans HCB.out (HPG.out.below.size)) 46
                    have HP7 : Hid (WantAt (wB.heap.size + 1) wD.heap.size wC w7 v' _ (mvUp (i0 : Int) (j0 : Int) ((k0 : Int), (z : Int)) ml (k2 + 1)) ml) := Lib.hid (by rw [HE.out]; exact HPG.out.snoc HCB.out hown' hgrow hbl)
                    have HRUN := Lib.hid hrun
                    clear hown' hgrow hbl hrun
                    go_wp2_with (at_builtin; refine wpList_append_run rfl _ _ 46 rfl HRUN.out ?_)
                    go_wp2
                    go_roundw
                    case rel => exact ⟨k2 + 1, by go_num, by omega, HP7⟩
                    case measure => simp only [intOf]; omega)
              · obtain rfl : k2 = ml.length := by omega
                have hrow := hP.out.row
                obtain ⟨ow, cw, rfl, haw⟩ := argPlaces_of_owns hrow
                have HAW := Lib.hid haw
                have RQ2 := Lib.hid (RQ.out.below HCR.out (Nat.lt_succ_self _))
                have n0 := (HA5.out.2.2.1.below HWR.out HA5.out.2.2.1.lt).cell (i := 0) (v := .slice (some ⟨bg, fg, none⟩) tt.length cv) (by rfl)
                have s0 := RQ2.out.cell (i := 0) (v := .int .i64 (i : Int)) (by rfl)
                have s1 := RQ2.out.cell (i := 1) (v := .int .i64 (ny0 : Int)) (by rfl)
                have CH := Lib.hid (specResolve_any tt HV2.out HF2.out.fits (some ⟨bg, fg, none⟩) cv HMM.out wr (HA5.out.2.2.2.2.below HWR.out (Nat.le_refl _)))
                clear hrow haw hCB
                go_wp2_with fail
                refine CH.out.mono ?_
                rintro e wI ⟨vI, rfl, hownI, hbI⟩
                obtain ⟨oI, cI, rfl, haI⟩ := argPlaces_of_owns hownI
                have HAW2 := Lib.hid (HAW.out.below hbI)
                have HWI := Lib.hid (HWR.out.trans (hbI.mono HWR.out.size))
                have CL := Lib.hid (l7List_any (mvUp (i0 : Int) (j0 : Int) ((k0 : Int), (z : Int)) ml ml.length) (meanIt tt (i, ny0, y)) ow oI cw cI wI (by have h9 := mvUp_length (i0 : Int) (j0 : Int) ((k0 : Int), (z : Int)) ml ml.length; omega) (by have := meanIt_length HV2.out (i, ny0, y); omega) HAW2.out haI)
                clear hbI hownI haI n0 s0 s1
                go_wp2_with fail
                refine CL.out.mono ?_
                rintro e wJ ⟨rfl, hbJ⟩
                have HWJ := Lib.hid (HWI.out.trans (hbJ.mono HWI.out.size))
                clear hbJ
                obtain ⟨r, hr⟩ : ∃ r, decide (mvUp (i0 : Int) (j0 : Int) ((k0 : Int), (z : Int)) ml ml.length = meanIt tt (i, ny0, y)) = r := ⟨_, rfl⟩
                rw [hr]
                have HRR : Hid (mvB ss tt (i0 : Int) (j0 : Int) ((k0 : Int), (z : Int)) (i, j, x) = r) := Lib.hid (by rw [HMB.out, ← hr, mvUp_all])
                clear hr
                cases r
                · have HQF : Hid (q = false) := Lib.hid (by
                    cases q with
                    | false => rfl
                    | true => have h1 := HQ.out.1 rfl _ HQM.out; rw [HRR.out] at h1; cases h1)
                  go_wp2
                  go_ret
                  exact ⟨q, by rw [HQF.out] <;> rfl, HQV.out, HB5.out.trans (HWJ.out.mono HB5.out.size)⟩
                · have HNX : Hid (∀ m t, m < k + 1 → (placed 0 ss)[m]? = some t → mvB ss tt (i0 : Int) (j0 : Int) ((k0 : Int), (z : Int)) t = true) := Lib.hid (by
                    intro m t hm ht
                    by_cases hmk : m = k
                    · subst hmk
                      rw [HQK.out] at ht
                      obtain rfl := Option.some.inj ht
                      exact HRR.out
                    · exact HR.out m t (by omega) ht)
                  go_wp2
                  go_roundw
                  case rel => exact ⟨k + 1, by go_num, by omega, HNX, HWJ⟩
                  case measure => simp only [intOf]; omega
          · have hbC := (Below.refl wB.heap.size wB).alloc (Nat.le_refl _) (.cells #[.int .i64 (i : Int), .int .i64 (ny0 : Int)] 34)
            have HSC : Hid ((wB.alloc (.cells #[.int .i64 (i : Int), .int .i64 (ny0 : Int)] 34)).heap.size = wB.heap.size + 1) := Lib.hid (by simp)
            have RQ := Lib.hid (Row.new wB [.int .i64 (i : Int), .int .i64 (ny0 : Int)] 34)
            have HWC := Lib.hid (HWB.out.trans (hbC.mono HWB.out.size))
            have hown0 : ((wB.alloc (.cells #[.int .i64 (i : Int), .int .i64 (ny0 : Int)] 34)).alloc (.cells #[] 34)).ownsRow (wB.heap.size + 1) 34 2 (.slice (some ⟨wB.heap.size + 1, 0, none⟩) 0 0) 0 [] := by
              have h0 := World.ownsRow_made (base := wB.heap.size + 1) (e := 34) (size := 2) (wB.alloc (.cells #[.int .i64 (i : Int), .int .i64 (ny0 : Int)] 34)) #[] 0 (by simp) (by unfold maxLen; omega) rfl
              rw [World.size_alloc] at h0
              exact h0
            have hbD := (Below.refl (wB.alloc (.cells #[.int .i64 (i : Int), .int .i64 (ny0 : Int)] 34)).heap.size (wB.alloc (.cells #[.int .i64 (i : Int), .int .i64 (ny0 : Int)] 34))).alloc (Nat.le_refl _) (.cells #[] 34)
            have hbCD := hbC.trans (hbD.mono hbC.size)
            have HSD : Hid (wB.heap.size + 1 < ((wB.alloc (.cells #[.int .i64 (i : Int), .int .i64 (ny0 : Int)] 34)).alloc (.cells #[] 34)).heap.size) := Lib.hid (by simp)
            have HWD := Lib.hid (HWB.out.trans (hbCD.mono HWB.out.size))
            have CB := Lib.hid (specResolve_any ss HV.out HF.out.fits oa cap HQM.out ((wB.alloc (.cells #[.int .i64 (i : Int), .int .i64 (ny0 : Int)] 34)).alloc (.cells #[] 34)) (HC.out.below (HB5.out.trans (HWD.out.mono HB5.out.size)) (Nat.le_refl _)))
            have HO0 := Lib.hid hown0
            have HBD := Lib.hid hbD
            have p0 := (RP2.out.alloc (.cells #[.int .i64 (i : Int), .int .i64 (ny0 : Int)] 34)).cell (i := 0) (v := .int .i64 (i : Int)) (by rfl)
            have p1 := (RP2.out.alloc (.cells #[.int .i64 (i : Int), .int .i64 (ny0 : Int)] 34)).cell (i := 1) (v := .int .i64 (j : Int)) (by rfl)
            have b0 := (HA2.out.2.1.alloc (.cells #[.int .i64 (i : Int), .int .i64 (ny0 : Int)] 34)).cell (i := 0) (v := .int .i64 (i0 : Int)) (by rfl)
            have b1 := (HA2.out.2.1.alloc (.cells #[.int .i64 (i : Int), .int .i64 (ny0 : Int)] 34)).cell (i := 1) (v := .int .i64 (j0 : Int)) (by rfl)
            have e0 := (HA2.out.2.2.2.1.alloc (.cells #[.int .i64 (i : Int), .int .i64 (ny0 : Int)] 34)).cell (i := 0) (v := .int .i64 (k0 : Int)) (by rfl)
            have e1 := (HA2.out.2.2.2.1.alloc (.cells #[.int .i64 (i : Int), .int .i64 (ny0 : Int)] 34)).cell (i := 1) (v := .int .i64 (z : Int)) (by rfl)
            have g3 := ((HA2.out.1.alloc (.cells #[.int .i64 (i : Int), .int .i64 (ny0 : Int)] 34)).alloc (.cells #[] 34)).cell (i := 0) (v := .slice oa ss.length cap) (by rfl)
            have p3 := ((RP2.out.alloc (.cells #[.int .i64 (i : Int), .int .i64 (ny0 : Int)] 34)).alloc (.cells #[] 34)).cell (i := 0) (v := .int .i64 (i : Int)) (by rfl)
            have p4 := ((RP2.out.alloc (.cells #[.int .i64 (i : Int), .int .i64 (ny0 : Int)] 34)).alloc (.cells #[] 34)).cell (i := 1) (v := .int .i64 (j : Int)) (by rfl)
            clear hbC hown0 hbD hbCD
            go_wp2_with fail
            generalize wB.alloc (.cells #[.int .i64 (i : Int), .int .i64 (ny0 : Int)] 34) = wC at *
            generalize wC.alloc (.cells #[] 34) = wD at *
            refine CB.out.mono ?_
            rintro e wE ⟨vm, rfl, hownm, hbE⟩
            have HP1 := Lib.hid (meanIt_isPlace HQM.out)
            have HN1 := meanIt_length HV.out (i, j, x)
            have HWE := Lib.hid (HWD.out.trans (hbE.mono HWD.out.size))
            have hfar2 : vm = .slice none 0 0 ∨ vm.ownBlock ≠ (Value.slice (some ⟨wB.heap.size + 1, 0, none⟩) 0 0).ownBlock := by
              rcases hownm.2 with h1 | ⟨g, cp, cur, rfl, hgB, _⟩
              · exact .inl h1.1
              · refine .inr fun e => ?_
                simp only [Value.ownBlock, Option.some.injEq] at e
                have := HSD.out
                omega
            obtain ⟨om, cm, rfl, -⟩ := argPlaces_of_owns hownm
            have HI0 : Hid (WantAt (wB.heap.size + 1) wD.heap.size wC wE (.slice (some ⟨wB.heap.size + 1, 0, none⟩) 0 0) (.slice om (meanIt ss (i, j, x)).length cm) [] (meanIt ss (i, j, x))) := Lib.hid ⟨ownsRow_below HO0.out hbE, hownm, hfar2, by
              have h1 := HBD.out.trans (hbE.mono HBD.out.size)
              rw [HSC.out] at h1
              exact h1⟩
            clear hbE hownm hfar2 p0 p1 b0 b1 e0 e1 g3 p3 p4
            generalize hml : meanIt ss (i, j, x) = ml at *
            have HML := Lib.hid hml
            clear hml
            go_wp2
            go_loopw [13, 54] (fun v ii wr => ∃ k2 : Nat, ii = .int .i64 k2 ∧ k2 ≤ ml.length ∧ Hid (WantAt (wB.heap.size + 1) wD.heap.size wC wr v (.slice om ml.length cm) (mvUp (i0 : Int) (j0 : Int) ((k0 : Int), (z : Int)) ml k2) ml)) (fun _ ii _ => ml.length - (intOf ii).toNat)
            case atStart => exact ⟨0, rfl, Nat.zero_le _, HI0⟩
            case round =>
              obtain ⟨k2, rfl, hk2, hP⟩ := hrel
              have HCR : Hid (Below (wB.heap.size + 1) wC wr) := Lib.hid hP.out.below
              have hCB : wB.heap.size + 1 ≤ wC.heap.size := by rw [HSC.out]; exact Nat.le_refl _
              have HCB := Lib.hid hCB
              have HWR : Hid (Below w5.heap.size w5 wr) := Lib.hid (HWC.out.trans (HCR.out.mono (by have := HWB.out.size; omega)))
              by_cases hlt2 : k2 < ml.length
              · obtain ⟨dd, hdd⟩ : ∃ dd, ml[k2]? = some dd := ⟨_, List.getElem?_eq_getElem hlt2⟩
                obtain ⟨ci, cj, cs, cx, rfl, hcs, hcx⟩ := HP1.out dd (List.mem_of_getElem? hdd)
                have hcj : cj < 1000 := by have h1 := (List.getElem?_eq_some_iff.1 hcx).1; have h2 := HV.out.small.items cs (List.mem_of_getElem? hcs); omega
                obtain ⟨o', c', he', hat⟩ := argPlaces_of_owns hP.out.lst
                cases he'
                obtain ⟨b6, f6, rfl, hb6, q6⟩ := hat.at (by omega)
                obtain ⟨x0, x1⟩ := q6 k2 _ hdd
                dsimp only at x0 x1
                have hbF := (Below.refl wr.heap.size wr).alloc (Nat.le_refl _) (.cells #[.int .i64 (ci : Int), .int .i64 (cj : Int)] 34)
                have HPF := Lib.hid (hP.out.step hbF HCB.out)
                have HWF := Lib.hid (HWR.out.trans (hbF.mono HWR.out.size))
                have RD := Lib.hid (Row.new wr [.int .i64 (ci : Int), .int .i64 (cj : Int)] 34)
                have d0 := RD.out.cell (i := 0) (v := .int .i64 (ci : Int)) (by rfl)
                have d1 := RD.out.cell (i := 1) (v := .int .i64 (cj : Int)) (by rfl)
                have b0 := (HA5.out.2.1.below HWF.out HA5.out.2.1.lt).cell (i := 0) (v := .int .i64 (i0 : Int)) (by rfl)
                have b1 := (HA5.out.2.1.below HWF.out HA5.out.2.1.lt).cell (i := 1) (v := .int .i64 (j0 : Int)) (by rfl)
                have e0 := (HA5.out.2.2.2.1.below HWF.out HA5.out.2.2.2.1.lt).cell (i := 0) (v := .int .i64 (k0 : Int)) (by rfl)
                have e1 := (HA5.out.2.2.2.1.below HWF.out HA5.out.2.2.2.1.lt).cell (i := 1) (v := .int .i64 (z : Int)) (by rfl)
                have hsl : (mvUp (i0 : Int) (j0 : Int) ((k0 : Int), (z : Int)) ml k2).length < 1000000 := by have h9 := mvUp_length (i0 : Int) (j0 : Int) ((k0 : Int), (z : Int)) ml k2; omega
                have HDD := Lib.hid hdd
                have HCJ := Lib.hid (show -9223372036854775808 ≤ (cj : Int) ∧ (cj : Int) ≤ 9223372036854775807 from ⟨by omega, by omega⟩)
                clear hbF q6 hat hcs hcx hcj hdd hb6 hCB
                by_cases hcc : ci = i0 ∧ cj = j0
                · have HE : Hid (mvUp (i0 : Int) (j0 : Int) ((k0 : Int), (z : Int)) ml (k2 + 1) = mvUp (i0 : Int) (j0 : Int) ((k0 : Int), (z : Int)) ml k2 ++ [((k0 : Int), (z : Int))]) := Lib.hid (mv_take HDD.out (by rw [hcc.1, hcc.2]; exact mvd_at _ _ _))
                  have t1 : ((ci : Int) == (i0 : Int)) = true := by simp [hcc.1]
                  have t2 : ((cj : Int) == (j0 : Int)) = true := by simp [hcc.2]
                  clear hcc
                  obtain ⟨wF, hwF⟩ : ∃ wF, wr.alloc (.cells #[.int .i64 (ci : Int), .int .i64 (cj : Int)] 34) = wF := ⟨_, rfl⟩
                  rw [hwF] at HPF HWF RD d0 d1 b0 b1 e0 e1
                  obtain ⟨v', w7, hrun, hown', hgrow, hbl⟩ := append_place_at HPF.out.row (k0 : Int) (z : Int) hsl (Nat.le_trans HCB.out (HPF.out.below.size)) 46
                  have HP7 : Hid (WantAt (wB.heap.size + 1) wD.heap.size wC w7 v' _ (mvUp (i0 : Int) (j0 : Int) ((k0 : Int), (z : Int)) ml (k2 + 1)) ml) := Lib.hid (by rw [HE.out]; exact HPF.out.snoc HCB.out hown' hgrow hbl)
                  subst hwF
                  rw [World.size_alloc] at hrun
                  have HRUN := Lib.hid hrun
                  clear hown' hgrow hbl hrun
                  go_wp2_with (at_builtin; refine wpList_append_run rfl _ _ 46 rfl HRUN.out ?_)
                  go_wp2
                  go_roundw
                  case rel => exact ⟨k2 + 1, by go_num, by omega, HP7⟩
                  case measure => simp only [intOf]; omega
                · have HE : Hid (mvUp (i0 : Int) (j0 : Int) ((k0 : Int), (z : Int)) ml (k2 + 1) = mvUp (i0 : Int) (j0 : Int) ((k0 : Int), (z : Int)) ml k2 ++ [((ci : Int), aftB (ci : Int) (cj : Int) (i0 : Int) (j0 : Int))]) := Lib.hid (mv_take HDD.out (mvd_not (fun h => hcc ⟨by have := h.1; dsimp only at this; omega, by have := h.2; dsimp only at this; omega⟩)))
                  have ht : ((ci : Int) == (i0 : Int)) = false ∨ (((ci : Int) == (i0 : Int)) = true ∧ ((cj : Int) == (j0 : Int)) = false) := by
                    by_cases h1 : ci = i0
                    · exact .inr ⟨by simp [h1], by simp; omega⟩
                    · exact .inl (by simp; omega)
                  clear hcc
                  have CF := Lib.hid (l6After_any (ci : Int) (cj : Int) (i0 : Int) (j0 : Int) HCJ.out HBI.out (wr.alloc (.cells #[.int .i64 (ci : Int), .int .i64 (cj : Int)] 34)))
                  generalize aftB (ci : Int) (cj : Int) (i0 : Int) (j0 : Int) = zz at *
                  rcases ht with t1 | ⟨t1, t2⟩
                  all_goals (
                    go_wp2_with fail
                    refine CF.out.mono ?_
                    rintro e wG ⟨rfl, hbG⟩
                    have HPG := Lib.hid (HPF.out.step hbG HCB.out)
                    clear hbG x0 x1 d0 d1 b0 b1 e0 e1
                    obtain ⟨v', w7, hrun, hown', hgrow, hbl⟩ := append_place_at HPG.out.row (ci : Int) zz hsl (Nat.le_trans HCB.out (HPG.out.below.size)) 46
                    have HP7 : Hid (WantAt (wB.heap.size + 1) wD.heap.size wC w7 v' _ (mvUp (i0 : Int) (j0 : Int) ((k0 : Int), (z : Int)) ml (k2 + 1)) ml) := Lib.hid (by rw [HE.out]; exact HPG.out.snoc HCB.out hown' hgrow hbl)
                    have HRUN := Lib.hid hrun
                    clear hown' hgrow hbl hrun
                    go_wp2_with (at_builtin; refine wpList_append_run rfl _ _ 46 rfl HRUN.out ?_)
                    go_wp2
                    go_roundw
                    case rel => exact ⟨k2 + 1, by go_num, by omega, HP7⟩
                    case measure => simp only [intOf]; omega)
              · obtain rfl : k2 = ml.length := by omega
                have hrow := hP.out.row
                obtain ⟨ow, cw, rfl, haw⟩ := argPlaces_of_owns hrow
                have HAW := Lib.hid haw
                have RQ2 := Lib.hid (RQ.out.below HCR.out (Nat.lt_succ_self _))
                have n0 := (HA5.out.2.2.1.below HWR.out HA5.out.2.2.1.lt).cell (i := 0) (v := .slice (some ⟨bg, fg, none⟩) tt.length cv) (by rfl)
                have s0 := RQ2.out.cell (i := 0) (v := .int .i64 (i : Int)) (by rfl)
                have s1 := RQ2.out.cell (i := 1) (v := .int .i64 (ny0 : Int)) (by rfl)
                have CH := Lib.hid (specResolve_any tt HV2.out HF2.out.fits (some ⟨bg, fg, none⟩) cv HMM.out wr (HA5.out.2.2.2.2.below HWR.out (Nat.le_refl _)))
                clear hrow haw hCB
                go_wp2_with fail
                refine CH.out.mono ?_
                rintro e wI ⟨vI, rfl, hownI, hbI⟩
                obtain ⟨oI, cI, rfl, haI⟩ := argPlaces_of_owns hownI
                have HAW2 := Lib.hid (HAW.out.below hbI)
                have HWI := Lib.hid (HWR.out.trans (hbI.mono HWR.out.size))
                have CL := Lib.hid (l7List_any (mvUp (i0 : Int) (j0 : Int) ((k0 : Int), (z : Int)) ml ml.length) (meanIt tt (i, ny0, y)) ow oI cw cI wI (by have h9 := mvUp_length (i0 : Int) (j0 : Int) ((k0 : Int), (z : Int)) ml ml.length; omega) (by have := meanIt_length HV2.out (i, ny0, y); omega) HAW2.out haI)
                clear hbI hownI haI n0 s0 s1
                go_wp2_with fail
                refine CL.out.mono ?_
                rintro e wJ ⟨rfl, hbJ⟩
                have HWJ := Lib.hid (HWI.out.trans (hbJ.mono HWI.out.size))
                clear hbJ
                obtain ⟨r, hr⟩ : ∃ r, decide (mvUp (i0 : Int) (j0 : Int) ((k0 : Int), (z : Int)) ml ml.length = meanIt tt (i, ny0, y)) = r := ⟨_, rfl⟩
                rw [hr]
                have HRR : Hid (mvB ss tt (i0 : Int) (j0 : Int) ((k0 : Int), (z : Int)) (i, j, x) = r) := Lib.hid (by rw [HMB.out, ← hr, mvUp_all])
                clear hr
                cases r
                · have HQF : Hid (q = false) := Lib.hid (by
                    cases q with
                    | false => rfl
                    | true => have h1 := HQ.out.1 rfl _ HQM.out; rw [HRR.out] at h1; cases h1)
                  go_wp2
                  go_ret
                  exact ⟨q, by rw [HQF.out] <;> rfl, HQV.out, HB5.out.trans (HWJ.out.mono HB5.out.size)⟩
                · have HNX : Hid (∀ m t, m < k + 1 → (placed 0 ss)[m]? = some t → mvB ss tt (i0 : Int) (j0 : Int) ((k0 : Int), (z : Int)) t = true) := Lib.hid (by
                    intro m t hm ht
                    by_cases hmk : m = k
                    · subst hmk
                      rw [HQK.out] at ht
                      obtain rfl := Option.some.inj ht
                      exact HRR.out
                    · exact HR.out m t (by omega) ht)
                  go_wp2
                  go_roundw
                  case rel => exact ⟨k + 1, by go_num, by omega, HNX, HWJ⟩
                  case measure => simp only [intOf]; omega
      · obtain rfl : k = (plsAll (placed 0 ss)).length := by omega
        have HT : Hid (q = true) := Lib.hid (HQ.out.2 (fun t ht => by
          obtain ⟨m, hm⟩ := List.mem_iff_getElem?.1 ht
          exact HR.out m t (by rw [HLN.out]; exact (List.getElem?_eq_some_iff.1 hm).1) hm))
        go_wp2
        go_ret
        exact ⟨q, by rw [HT.out]; rfl, HQV.out, HB5.out.trans (HW.out.mono HB5.out.size)⟩
end Go.Proofs.YtadpgoiiopfnnaaDoor
namespace Go.Proofs.YtadpgoiiopfnnaaDoor
open Go Go.RowKit
theorem grow_cellU7 {W W' : World} {p : Addr} {v : Value} (hb : Below W.heap.size W W') (h : W.cell? p = some v) : W'.cell? p = some v := (hb.cell (World.block_lt_of_cell? _ _ h)).trans h
theorem below_alU7 (W : World) (o : Obj) : Below W.heap.size W (W.alloc o) := (Below.refl _ _).alloc (Nat.le_refl _) o
theorem held_ofU7 {w w1 W : World} {p0 p1 p2 : Addr} {v0 v1 v2 : Value} (c0 : w1.cell? p0 = some v0) (c1 : w1.cell? p1 = some v1) (c2 : w1.cell? p2 = some v2) (B1 : Below w.heap.size w w1) (hb : Below w1.heap.size w1 W) :
    W.cell? p0 = some v0 ∧ W.cell? p1 = some v1 ∧ W.cell? p2 = some v2 ∧ Below w.heap.size w W ∧ Below w1.heap.size w1 W :=
  ⟨grow_cellU7 hb c0, grow_cellU7 hb c1, grow_cellU7 hb c2, B1.trans (hb.mono B1.size), hb⟩
set_option maxRecDepth 100000 in
set_option maxHeartbeats 8000000 in
theorem lawExactCanMove (ss : List Sc) (oa : Option Addr) (cap : Nat) (a b n : Int) (w : World) (hf : FitsScopes ss) (hI : I64Scopes ss) (hc : HoldsScopes w oa ss) (hE : MoveErrs w) (ha : (Lit.int .i64 a).wf = true) (hb' : (Lit.int .i64 b).wf = true) :
    Calls Tryd.prog 12 #[.agg #[.slice oa ss.length cap], .agg #[.int .i64 a, .int .i64 b], .int .i64 n] w fun e w' => e = .returned (.bool true) ∧ Below w.heap.size w w' := by
  have hb0 := ((Below.refl w.heap.size w).alloc (Nat.le_refl _) (.cells #[.slice oa ss.length cap] 24)).alloc (by simp) (.cells #[.int .i64 a, .int .i64 b] 26)
  have C0 := Lib.hid (szGraph_any ss oa cap 1048576 _ hf (hc.below hb0 (Nat.le_refl _)) (by omega) (by omega))
  have HB0 := Lib.hid hb0
  have R0 := Lib.hid ((Row.new w [.slice oa ss.length cap] 24).alloc (.cells #[.int .i64 a, .int .i64 b] 26))
  have hP0 := Row.new (w.alloc (.cells #[.slice oa ss.length cap] 24)) [.int .i64 a, .int .i64 b] 26
  rw [World.size_alloc] at hP0
  have P0 := Lib.hid hP0
  clear hP0
  by_cases hn : wScopes ss ≤ 1048576
  · have HF := Lib.hid (Fair.of_weight hf hI hn)
    rw [rest_pos (by omega)] at C0
    have h0 : (0 : Int) ≤ 1048576 - (wScopes ss : Int) := by omega
    have HC := Lib.hid hc
    have HE := Lib.hid hE
    have HWF := Lib.hid (And.intro ha hb')
    clear hn hc hE hb0 hf hI ha hb'
    go_enter Tryd.func12, Tryd.ntmps12
    go_wp2_with fail
    refine C0.out.mono ?_
    rintro e w1 ⟨rfl, hb1⟩
    have hB := belowS HB0.out hb1
    have R1 := Lib.hid (R0.out.below hb1 R0.out.lt)
    have P1 := Lib.hid (P0.out.below hb1 P0.out.lt)
    have c0 := R1.out.cell (i := 0) (by rfl)
    have p0 := P1.out.cell (i := 0) (by rfl)
    have p1 := P1.out.cell (i := 1) (by rfl)
    have B1 := Lib.hid hB
    clear hb1
    go_wp2
    go_cut [8] (fun s6 wx => ∃ z : Bool, s6 = .bool z ∧ MvVal ss a b n z ∧ Below w1.heap.size w1 wx)
    case first =>
      go_region_held3 (fun w' => w'.cell? ⟨w.heap.size, 0, none⟩ = some (.slice oa ss.length cap) ∧ w'.cell? ⟨w.heap.size + 1, 0, none⟩ = some (.int .i64 a) ∧ w'.cell? ⟨w.heap.size + 1, 1, none⟩ = some (.int .i64 b) ∧ Below w.heap.size w w' ∧ Below w1.heap.size w1 w')
        (first
          | exact held_ofU7 c0 p0 p1 B1.out (Below.refl _ _)
          | exact held_ofU7 c0 p0 p1 B1.out (Below.refl _ _).drew
          | exact held_ofU7 c0 p0 p1 B1.out hBs
          | exact held_ofU7 c0 p0 p1 B1.out hBp
          | exact held_ofU7 c0 p0 p1 B1.out hBg)
        (first
          | (go_at_call 17; refine (toGraph_holds HF.out oa cap HC.out (And.left (And.right (And.right (And.right (by assumption)))))).mono ?_; rintro e wg ⟨gg, rfl, hhg, hbg⟩; have hBg := Below.trans (show Below w1.heap.size w1 _ from (And.right (And.right (And.right (And.right (by assumption)))))) (hbg.mono (Below.size (And.right (And.right (And.right (And.right (by assumption))))))))
          | (go_at_call 18; refine (toPlace_any a b _).mono ?_; rintro e wp ⟨rfl, hbp⟩; have hBp := Below.trans (show Below w1.heap.size w1 _ from (And.right (And.right (And.right (And.right (by assumption)))))) (hbp.mono (Below.size (And.right (And.right (And.right (And.right (by assumption))))))); try (have hhg := HoldsScopes.below hhg hbp (Nat.le_refl _)))
          | (go_at_call 43; refine (specCanMove_any ss HF.out _ _ a b n _ hhg).mono ?_; rintro e ws ⟨z, rfl, hv, hbs⟩; have hBs := Below.trans (show Below w1.heap.size w1 _ from (And.right (And.right (And.right (And.right (by assumption)))))) (hbs.mono (Below.size (And.right (And.right (And.right (And.right (by assumption)))))))))
      all_goals go_wp2
      all_goals go_meet
      all_goals exact ⟨z, rfl, hv, hBs⟩
    case rest =>
      obtain ⟨z0, rfl, hv, hbc⟩ := hcut
      have B2 := Lib.hid (belowS B1.out hbc)
      have R2 := Lib.hid (R1.out.below hbc R1.out.lt)
      have P2 := Lib.hid (P1.out.below hbc P1.out.lt)
      have V2 := Lib.hid hv
      have c2 := R2.out.cell (i := 0) (by rfl)
      clear hbc hv c0 p0 p1
      go_wp2_with fail
      refine (toGraph_holds HF.out oa cap HC.out B2.out).mono ?_
      rintro e w4 ⟨g4, rfl, hh4, hb4⟩
      have hbA := hb4.trans ((below_alU7 w4 (.cells #[.slice (some ⟨g4, 0, none⟩) ss.length ss.length] 30)).mono hb4.size)
      have RA := Lib.hid (Row.new w4 [.slice (some ⟨g4, 0, none⟩) ss.length ss.length] 30)
      have BA := Lib.hid (belowS B2.out hbA)
      have R4 := Lib.hid (R2.out.below hbA R2.out.lt)
      have P4 := Lib.hid (P2.out.below hbA P2.out.lt)
      have HA := Lib.hid (hh4.below (below_alU7 w4 (.cells #[.slice (some ⟨g4, 0, none⟩) ss.length ss.length] 30)) (Nat.le_refl _))
      clear hb4 hh4 hbA c2
      go_wp2
      generalize w4.alloc (.cells #[.slice (some ⟨g4, 0, none⟩) ss.length ss.length] 30) = wA at *
      have d0 := RA.out.cell (i := 0) (by rfl)
      have q0 := P4.out.cell (i := 0) (by rfl)
      have q1 := P4.out.cell (i := 1) (by rfl)
      go_cut [10] (fun s8 wx => ∃ z : Bool, s8 = .bool z ∧ MvVal ss a b n z ∧ Below wA.heap.size wA wx)
      case first =>
        go_region_held3 (fun w' => w'.cell? ⟨w4.heap.size, 0, none⟩ = some (.slice (some ⟨g4, 0, none⟩) ss.length ss.length) ∧ w'.cell? ⟨w.heap.size + 1, 0, none⟩ = some (.int .i64 a) ∧ w'.cell? ⟨w.heap.size + 1, 1, none⟩ = some (.int .i64 b) ∧ Below w.heap.size w w' ∧ Below wA.heap.size wA w')
        (first
          | exact held_ofU7 d0 q0 q1 BA.out (Below.refl _ _)
          | exact held_ofU7 d0 q0 q1 BA.out (Below.refl _ _).drew
          | exact held_ofU7 d0 q0 q1 BA.out hBs
          | exact held_ofU7 d0 q0 q1 BA.out hBp)
        (first
          | (go_at_call 18; refine (toPlace_any a b _).mono ?_; rintro e wp ⟨rfl, hbp⟩; have hBp := Below.trans (show Below wA.heap.size wA _ from (And.right (And.right (And.right (And.right (by assumption)))))) (hbp.mono (Below.size (And.right (And.right (And.right (And.right (by assumption))))))))
          | (go_at_call 44; refine (implCanMove_any ss HF.out _ _ a b n HWF.out.1 HWF.out.2 _ (HA.out.below (show Below wA.heap.size wA _ from (And.right (And.right (And.right (And.right (by assumption)))))) (Nat.le_refl _)) (HE.out.at (And.left (And.right (And.right (And.right (by assumption))))))).mono ?_; rintro e ws ⟨z, rfl, hv, hbs⟩; have hBs := Below.trans (show Below wA.heap.size wA _ from (And.right (And.right (And.right (And.right (by assumption)))))) (hbs.mono (Below.size (And.right (And.right (And.right (And.right (by assumption)))))))))
        all_goals go_wp2
        all_goals go_meet
        all_goals exact ⟨z, rfl, hv, hBs⟩
      case rest =>
        obtain ⟨z, rfl, hv, hbc⟩ := hcut
        obtain rfl := V2.out.same hv
        have B6 := Lib.hid (belowS BA.out hbc)
        have R6 := Lib.hid (R4.out.below hbc R4.out.lt)
        have RX6 := Lib.hid (RA.out.below hbc RA.out.lt)
        have H6 := Lib.hid (HA.out.below hbc (Nat.le_refl _))
        clear hbc hv d0 q0 q1
        have c5 := R6.out.cell (i := 0) (by rfl)
        have d5 := RX6.out.cell (i := 0) (by rfl)
        obtain ⟨w6, rfl⟩ : ∃ w6, w6 = wc := ⟨wc, rfl⟩
        have c5' := (((Below.refl _ _).drew).cell (p := ⟨w.heap.size, 0, none⟩) R6.out.lt).trans c5
        have d5' := (((Below.refl _ _).drew).cell (p := ⟨w4.heap.size, 0, none⟩) RX6.out.lt).trans d5
        have hzz : (z0 == z0) = true := by simp
        have hzn : (z0 != z0) = false := by simp
        go_wp2
        go_cut [36] (fun s wx => s = .bool false ∧ Below w6.heap.size w6 wx)
        case first =>
          go_region_with (first
            | (go_at_call 17; refine (toGraph_holds HF.out oa cap HC.out B6.out.drew).mono ?_; rintro e w7 ⟨g7, rfl, hh7, hb7⟩; have H7 := Lib.hid hh7; have B7 := Lib.hid (show Below w6.heap.size w6 w7 from ((Below.refl _ _).drew).trans hb7); have d6 := (RX6.out.below B7.out RX6.out.lt).cell (i := 0) (by rfl); clear hh7 hb7)
            | (go_at_call 20; refine (eqGraph_fair HF.out H6.out H7.out B7.out (Below.refl _ _)).mono ?_; rintro e w8 ⟨rfl, hb8⟩; have B8 := Lib.hid (belowS B7.out hb8); clear hb8))
          all_goals go_wp2
          all_goals go_meet
          all_goals exact ⟨rfl, B8.out⟩
        case rest =>
          obtain ⟨rfl, hbc⟩ := hcut
          have BE := Lib.hid (belowS B6.out hbc)
          clear hbc
          go_wp2
          go_ret
          exact ⟨rfl, BE.out⟩
  · rw [rest_neg (by omega)] at C0
    clear hn hc hE hb0 hf hI
    go_enter Tryd.func12, Tryd.ntmps12
    go_wp2_with fail
    refine C0.out.mono ?_
    rintro e w1 ⟨rfl, hb1⟩
    have B1 := Lib.hid (belowS HB0.out hb1)
    clear hb1
    go_wp2
    go_ret
    exact ⟨rfl, B1.out⟩
end Go.Proofs.YtadpgoiiopfnnaaDoor
