/-
  The walks of the given l1Some, l2Some, l3Name and l3Some. Condition: a source of numbers. The walk of the given DrawLookUp. Condition: the argument's memory holds bytes. The walks of the given functions that draw a graph and a number, or a name too. Condition: the argument's memory holds bytes. The walks of the given l1Place and DrawImportTarget. Condition: a source of numbers; the argument's memory holds the graph, or bytes.
-/
import Derived.Test.YtjogfagjcpcihaaGreatDoorWBadX
import Derived.Maps.AppendAt
namespace Go.Proofs.YtjogfagjcpcihaaGreatDoor
open Go Go.RowKit Sg
theorem RdAt.trans {w w2 w3 : World} {r len cap P P' : Nat} {oa : Option Addr} (h : RdAt w w2 r oa len cap P) (k : RdAt w2 w3 r oa len cap P') : RdAt w w3 r oa len cap P' := ⟨h.org, k.now, k.small, h.turns.trans k.turns⟩
set_option maxRecDepth 100000 in
theorem some_any {w : World} {r : Nat} {oa : Option Addr} {len cap p : Nat} (h : Rd w r oa len cap p) (hp : p ≤ 700000) : Calls Tryz.prog 43 #[.pointer (some ⟨r, 0, none⟩)] w (Bad1 w r oa len cap p 210) := by
  have hbA := (Below.refl w.heap.size w).alloc (Nat.le_refl _) (.cells #[.slice none 0 0] 33)
  have RA := Lib.hid (Row.new w [.slice none 0 0] 33)
  have AT0 := Lib.hid ((RdAt.start h (Nat.le_refl p) (by omega)).step hbA)
  have C := Lib.hid (draw_any (h.below hbA) (by omega))
  have HRL := Lib.hid h.box.lt
  clear h hbA
  go_enter Tryz.func43, Tryz.ntmps43
  go_wp2_with fail
  refine C.out.mono ?_
  rintro e w2 ⟨ss, v, hs, rfl, hg, hl, hr2⟩
  obtain ⟨ov, cv, rfl, -⟩ := hg.holds
  have AT2 := Lib.hid (AT0.out.trans hr2)
  have R2 := Lib.hid (RA.out.asked hr2.turns (by have := HRL.out; omega))
  obtain ⟨p2, hp2, hrd2⟩ := AT2.out.rd
  have C2 := Lib.hid (bad_any hrd2 (by omega) hg.held hl)
  clear hg hl hr2 hrd2
  go_wp2_with fail
  refine C2.out.mono ?_
  rintro e w3 ⟨tt, v3, ks, rfl, hg3, hl3, hr3⟩
  obtain ⟨o3, c3, rfl, -⟩ := hg3.holds
  have AT3 := Lib.hid ((AT2.out.trans hr3).more (P' := p + 210) (by omega) (by omega))
  have R3 := Lib.hid (R2.out.asked hr3.turns (by have := HRL.out; omega))
  have HG3 := Lib.hid (hg3.lower (B' := w.heap.size) AT2.out.turns.size)
  have HL3 := Lib.hid hl3
  have t2 := R3.out.cell (i := 0) (v := .slice none 0 0) (by rfl)
  have f2 := R3.out.frozen 0
  have d2 := (R3.out.set 0 (.slice o3 tt.length c3)).cell (i := 0) (v := .slice o3 tt.length c3) (by rfl)
  have HG4 := Lib.hid (HG3.out.other R3.out (by decide) (by decide) 0 (.slice o3 tt.length c3))
  have HR4 := Lib.hid (AT3.out.far ((Below.refl _ _).setCell (p := ⟨w.heap.size, 0, none⟩) (Nat.le_refl _) (.slice o3 tt.length c3)))
  clear hg3 hl3 hr3
  go_wp2
  exact bodyPost_ret (v := .agg #[.slice o3 tt.length c3]) (by simp [results, Tryz.results43, go_sem, d2]) rfl ⟨tt, _, ks, rfl, HG4.out, HL3.out, HR4.out⟩
end Go.Proofs.YtjogfagjcpcihaaGreatDoor
namespace Go.Proofs.YtjogfagjcpcihaaGreatDoor
open Go Go.RowKit Sg
end Go.Proofs.YtjogfagjcpcihaaGreatDoor
namespace Go.Proofs.YtjogfagjcpcihaaGreatDoor
open Go Go.RowKit Sg
end Go.Proofs.YtjogfagjcpcihaaGreatDoor
namespace Go.Proofs.YtjogfagjcpcihaaGreatDoor
open Go Go.RowKit Sg
def allPl (l : List (Nat × Nat × It)) : List (Int × Int) := l.map fun q => ((q.1 : Int), (q.2.1 : Int))
theorem allPl_snoc (l : List (Nat × Nat × It)) (q : Nat × Nat × It) : allPl (l ++ [q]) = allPl l ++ [((q.1 : Int), (q.2.1 : Int))] := by simp [allPl]
theorem allPl_length (l : List (Nat × Nat × It)) : (allPl l).length = l.length := by simp [allPl]
theorem own_ge {w : World} {base n size g : Nat} {e : TypeId} {v : Value} {xs : List Value} (h : w.ownsRow base e size v n xs) (hg : v.ownBlock = some g) : base ≤ g := by
  obtain ⟨_, h2 | ⟨g', c, cur, hv, hB, _⟩⟩ := h
  · rw [h2.1] at hg; simp [Value.ownBlock] at hg
  · rw [hv] at hg
    simp only [Value.ownBlock, Option.some.injEq] at hg
    omega
/-- What holds at the head of a round of either loop. -/
structure PlcAt (w wr : World) (ov : Option Addr) (cv n : Nat) (v : Value) (l : List (Int × Int)) : Prop where
  box : Row wr w.heap.size 33 [.slice ov n cv]
  res : Row wr (w.heap.size + 1) 26 [.int .i64 0, .int .i64 0]
  row : wr.ownsRow (w.heap.size + 2) 26 2 v l.length (placeCells l)
  below : Below w.heap.size w wr
  big : w.heap.size + 2 ≤ wr.heap.size
theorem PlcAt.step {w wr w' : World} {ov : Option Addr} {cv n : Nat} {v : Value} {l : List (Int × Int)} (h : PlcAt w wr ov cv n v l) (hb : Below wr.heap.size wr w') : PlcAt w w' ov cv n v l :=
  ⟨h.box.below hb h.box.lt, h.res.below hb h.res.lt, ownsRow_below h.row hb, h.below.trans (hb.mono h.below.size), Nat.le_trans h.big hb.size⟩
theorem PlcAt.push {w wr w' : World} {ov : Option Addr} {cv n : Nat} {v v' : Value} {l : List (Int × Int)} {x y : Int} (h : PlcAt w wr ov cv n v l) (hg : (wr.alloc (.cells #[.int .i64 x, .int .i64 y] 26)).grownBy w' v.ownBlock)
    (hown : w'.ownsRow (w.heap.size + 2) 26 2 v' (l.length + 1) (placeCells l ++ [.int .i64 x, .int .i64 y])) : PlcAt w w' ov cv n v' (l ++ [(x, y)]) where
  box := (h.box.alloc _).grown hg (fun e => by have := own_ge h.row e.symm; omega)
  res := (h.res.alloc _).grown hg (fun e => by have := own_ge h.row e.symm; omega)
  row := by rw [List.length_append, placeCells_snoc]; exact hown
  below := h.below.trans (below_append2 h.row hg (by omega) h.below.size)
  big := Nat.le_trans h.big (Nat.le_trans (by simp) hg.size)
theorem append_placeD {W : World} {base k : Nat} {v : Value} {xs : List Value} (hrow : W.ownsRow base 26 2 v k xs) (x y : Int) (hk : k < 1000000) (hbase : base ≤ W.heap.size) (ty : TypeId) :
    ∃ v' w', (Builtin.append_ #[23, 23] ty #[v, .slice (some ⟨W.heap.size, 0, none⟩) 1 1]).run Tryz.prog (W.alloc (.cells #[.int .i64 x, .int .i64 y] 26)) = .ok v' w' ∧ w'.ownsRow base 26 2 v' (k + 1) (xs ++ [.int .i64 x, .int .i64 y]) ∧ (W.alloc (.cells #[.int .i64 x, .int .i64 y] 26)).grownBy w' v.ownBlock := by
  obtain ⟨i0, hi, hz0, hz1, hz2⟩ := info_parts infoPl
  obtain ⟨v', w', hrun, h2, h3, _, _⟩ := run_append_own_at (P := Tryz.prog) (W.alloc (.cells #[.int .i64 x, .int .i64 y] 26)) base 23 ty 26 i0 (.agg #[.int .i64 0, .int .i64 0]) 2 16 Tryz.underlying23 hi hz0 hz1 hz2 rfl (by decide) v k xs (hrow.alloc _) ⟨W.heap.size, 0, none⟩ 1 1 [.int .i64 x, .int .i64 y] rfl (cells_new2 W _ _ _)
    (by intro u hu; simp only [List.mem_cons, List.mem_nil_iff, or_false] at hu; rcases hu with rfl | rfl <;> rfl) (by unfold maxLen; omega) (by omega) (by show base ≤ (W.alloc _).heap.size; simp; omega)
  exact ⟨v', w', hrun, h2, h3⟩
def Placed1 (w : World) (r : Nat) (oa : Option Addr) (len cap p : Nat) (e : Ending) (w' : World) : Prop := ∃ a b : Int, e = .returned (.agg #[.int .i64 a, .int .i64 b]) ∧ I64 a ∧ I64 b ∧ RdAt w w' r oa len cap (p + 3)
theorem i64_nat {n : Nat} (h : n ≤ 1000000) : I64 (n : Int) := by unfold I64; omega
theorem i64_num1 {x : Int} (h : x ∈ [(0 : Int), 1, -1, 6, 9223372036854775807]) : I64 x := by
  simp only [List.mem_cons, List.not_mem_nil, or_false] at h
  unfold I64
  omega
theorem i64_num2 {x : Int} (h : x ∈ [(0 : Int), 5, -1]) : I64 x := by
  simp only [List.mem_cons, List.not_mem_nil, or_false] at h
  unfold I64
  omega
set_option maxRecDepth 100000 in
set_option maxHeartbeats 4000000 in
theorem place1_any {w : World} {r : Nat} {oa : Option Addr} {len cap p : Nat} (h : Rd w r oa len cap p) (hp : p ≤ 700000) {ss : List Sc} (hl : Lit1 210 ss) {ov : Option Addr} {cv : Nat} (hc : HoldsScopes w ov ss) :
    Calls Tryz.prog 44 #[.pointer (some ⟨r, 0, none⟩), .agg #[.slice ov ss.length cv]] w (Placed1 w r oa len cap p) := by
  have hbA : Below w.heap.size w (((w.alloc (.cells #[.slice ov ss.length cv] 33)).alloc (.cells #[.int .i64 0, .int .i64 0] 26)).alloc (.cells #[] 26)) := (((Below.refl _ _).alloc (Nat.le_refl _) _).alloc (by simp) _).alloc (by simp; omega) _
  have h1 := ((Row.new w [.slice ov ss.length cv] 33).alloc (.cells #[.int .i64 0, .int .i64 0] 26)).alloc (.cells #[] 26)
  have h2 := (Row.new (w.alloc (.cells #[.slice ov ss.length cv] 33)) [.int .i64 0, .int .i64 0] 26).alloc (.cells #[] 26)
  rw [World.size_alloc] at h2
  have h3 := World.ownsRow_made (base := w.heap.size + 2) (e := 26) (size := 2) ((w.alloc (.cells #[.slice ov ss.length cv] 33)).alloc (.cells #[.int .i64 0, .int .i64 0] 26)) #[] 0 (by simp) (by unfold maxLen; omega) rfl
  rw [World.size_alloc, World.size_alloc] at h3
  have HP0 : Hid (PlcAt w (((w.alloc (.cells #[.slice ov ss.length cv] 33)).alloc (.cells #[.int .i64 0, .int .i64 0] 26)).alloc (.cells #[] 26)) ov cv ss.length (.slice (some ⟨w.heap.size + 1 + 1, 0, none⟩) 0 0) []) := Lib.hid ⟨h1, h2, h3, hbA, by simp⟩
  have HR := Lib.hid h
  have HC := Lib.hid hc
  have HM := Lib.hid hl.items
  have hn6 := hl.count
  have HPW := Lib.hid (placed_bound 0 ss 210 210 hl.count hl.items)
  have g00 := h1.cell (i := 0) (by rfl)
  clear h hl hc hbA h1 h2 h3
  go_enter Tryz.func44, Tryz.ntmps44
  go_wp2
  go_loopw [5, 13] (fun v i wr => ∃ k : Nat, i = .int .i64 k ∧ k ≤ ss.length ∧ Hid (PlcAt w wr ov cv ss.length v (allPl (uptoP ss k 0)))) (fun _ i _ => ss.length - (intOf i).toNat)
  case atStart => exact ⟨0, rfl, Nat.zero_le _, Lib.hid (by rw [uptoP_start]; exact HP0.out)⟩
  case round =>
    obtain ⟨k, rfl, hk, hP⟩ := hrel
    by_cases hlt : k < ss.length
    · obtain ⟨s, hs⟩ : ∃ s, ss[k]? = some s := ⟨_, List.getElem?_eq_getElem hlt⟩
      obtain ⟨bb, off, rfl, hbb, hcell⟩ := HC.out.at (by omega)
      obtain ⟨oi, ci, a0, a1, hci⟩ := hcell k s hs
      have hil := HM.out s (List.mem_of_getElem? hs)
      have b0 := (hP.out.below.cell (p := ⟨bb, off + k * 2, none⟩) hbb).trans a0
      have b1 := (hP.out.below.cell (p := ⟨bb, off + k * 2 + 1, none⟩) hbb).trans a1
      have HS := Lib.hid hs
      have hbx := (Below.refl wr.heap.size wr).alloc (Nat.le_refl _) (.cells #[.int .i64 s.parent, .slice oi s.items.length ci] 156)
      have HP1 := Lib.hid (hP.out.step hbx)
      clear hs hcell hci a0 a1 hbx
      go_wp2
      go_loopw [5, 21] (fun v i wr => ∃ j : Nat, i = .int .i64 j ∧ j ≤ s.items.length ∧ Hid (PlcAt w wr (some ⟨bb, off, none⟩) cv ss.length v (allPl (uptoP ss k j)))) (fun _ i _ => s.items.length - (intOf i).toNat)
      case atStart => exact ⟨0, rfl, Nat.zero_le _, HP1⟩
      case round =>
        obtain ⟨j, rfl, hj, hP2⟩ := hrel
        by_cases hlt2 : j < s.items.length
        · obtain ⟨x, hx⟩ : ∃ x, s.items[j]? = some x := ⟨_, List.getElem?_eq_getElem hlt2⟩
          have hpl : (allPl (uptoP ss k j)).length ≤ 44100 := by
            rw [allPl_length]
            exact Nat.le_trans (uptoP_prefix (j := j) HS.out).length_le HPW.out
          have HE : Hid (allPl (uptoP ss k (j + 1)) = allPl (uptoP ss k j) ++ [((k : Int), (j : Int))]) := Lib.hid (by rw [uptoP_next HS.out hx, allPl_snoc])
          obtain ⟨v', w', hrun, hown', hgrow⟩ := append_placeD hP2.out.row (k : Int) (j : Int) (by omega) hP2.out.big 23
          have HRUN := Lib.hid hrun
          have HP4 : Hid (PlcAt w w' (some ⟨bb, off, none⟩) cv ss.length v' (allPl (uptoP ss k (j + 1)))) := Lib.hid (by rw [HE.out]; exact hP2.out.push hgrow hown')
          clear hx hown' hgrow hrun
          go_wp2_with (at_builtin; refine wpList_append_run rfl _ _ 23 rfl HRUN.out ?_)
          go_wp2
          go_roundw
          case rel => exact ⟨j + 1, by go_num, by omega, HP4⟩
          case measure => simp only [intOf]; omega
        · obtain rfl : j = s.items.length := by omega
          have HP2 : Hid (PlcAt w wr (some ⟨bb, off, none⟩) cv ss.length _ (allPl (uptoP ss (k + 1) 0))) := Lib.hid (by have := hP2.out; rw [uptoP_scope HS.out] at this; exact this)
          go_wp2
          go_roundw
          case rel => exact ⟨k + 1, by go_num, by omega, HP2⟩
          case measure => simp only [intOf]; omega
    · obtain rfl : k = ss.length := by omega
      have HPL : Hid ((allPl (uptoP ss ss.length 0)).length ≤ 44100) := Lib.hid (by rw [uptoP_all, allPl_length]; exact HPW.out)
      obtain ⟨L, hL⟩ : ∃ L, allPl (uptoP ss ss.length 0) = L := ⟨_, rfl⟩
      have HSM : Hid (∀ p ∈ L, I64 p.1 ∧ I64 p.2) := Lib.hid (by
        intro p hp
        rw [← hL, uptoP_all] at hp
        unfold allPl at hp
        obtain ⟨q, hq, rfl⟩ := List.mem_map.1 hp
        obtain ⟨sc, _, hsc, hx⟩ := mem_placed.1 hq
        simp only [Nat.sub_zero] at hsc
        have h1 := (List.getElem?_eq_some_iff.1 hsc).1
        have h2 := (List.getElem?_eq_some_iff.1 hx).1
        have h3 := HM.out sc (List.mem_of_getElem? hsc)
        exact ⟨i64_nat (by omega), i64_nat (by omega)⟩)
      rw [hL] at hP HPL
      have hLL := HPL.out
      obtain ⟨oA, cA, rfl, hap⟩ := argPlaces_of_owns hP.out.row
      have HAP := Lib.hid hap
      have AT := Lib.hid ((RdAt.start HR.out (Nat.le_refl p) (by omega)).far hP.out.below)
      have HRL : Hid (r < w.heap.size) := Lib.hid AT.out.lt
      have HRES := Lib.hid hP.out.res
      have HROW := Lib.hid hP.out.row
      clear hap hL g00
      by_cases hz : L.length = 0
      · have hz0 : ((L.length : Int) == 0) = true := by simpa using hz
        clear hz
        obtain ⟨q1, hq1, hrd1⟩ := AT.out.rd
        have C1 := Lib.hid (num_new hrd1 (by omega) [0, 1, -1, 6, 9223372036854775807] (by simp) (by simp))
        clear hrd1
        go_wp2_with fail
        refine C1.out.mono ?_
        rintro e wA ⟨x, hx, rfl, hrA⟩
        have HX := Lib.hid (i64_num1 hx)
        have ATA := Lib.hid (AT.out.asked hq1 hrA (by omega))
        have HRA := Lib.hid (HRES.out.asked hrA.turns (by have := HRL.out; omega))
        clear hx hrA
        obtain ⟨q2, hq2, hrd2⟩ := ATA.out.rd
        have C2 := Lib.hid (num_new hrd2 (by omega) [0, 5, -1] (by simp) (by simp))
        clear hrd2
        go_wp2_with fail
        refine C2.out.mono ?_
        rintro e wB ⟨y, hy, rfl, hrB⟩
        have HY := Lib.hid (i64_num2 hy)
        have ATB := Lib.hid (ATA.out.asked hq2 hrB (by omega))
        have HRB := Lib.hid (HRA.out.asked hrB.turns (by have := HRL.out; omega))
        have f0 : ∀ k, wB.frozen? ⟨w.heap.size + 1, k, none⟩ = false := fun k => HRB.out.frozen k
        have RS := (HRB.out.set 0 (.int .i64 x)).set 1 (.int .i64 y)
        have r0 := HRB.out.cell (i := 0) (v := .int .i64 0) (by rfl)
        have r1 := HRB.out.cell (i := 1) (v := .int .i64 0) (by rfl)
        have d0 := RS.cell (i := 0) (v := .int .i64 x) (by rfl)
        have d1 := RS.cell (i := 1) (v := .int .i64 y) (by rfl)
        have ATE := Lib.hid ((ATB.out.far (((Below.refl w.heap.size wB).setCell (p := ⟨w.heap.size + 1, 0, none⟩) (by simp) (.int .i64 x)).setCell (p := ⟨w.heap.size + 1, 1, none⟩) (by simp) (.int .i64 y))).more (P' := p + 3) (by omega) (by omega))
        clear hy hrB RS
        go_wp2
        exact bodyPost_ret (v := .agg #[.int .i64 x, .int .i64 y]) (by simp [results, Tryz.results44, go_sem, d0, d1]) rfl ⟨x, y, rfl, HX.out, HY.out, ATE.out⟩
      · have hz0 : ((L.length : Int) == 0) = false := by simpa using hz
        obtain ⟨q0, hq0, hrd0⟩ := AT.out.rd
        have C0 := Lib.hid (pick_any hrd0 (by omega) 14 (by omega))
        clear hrd0
        go_wp2_with fail
        refine C0.out.mono ?_
        rintro e w2 ⟨z, rfl, -, -, hr2⟩
        have AT2 := Lib.hid (AT.out.asked hq0 hr2 (by omega))
        have HRES2 := Lib.hid (HRES.out.asked hr2.turns (by have := HRL.out; omega))
        have HROW2 := Lib.hid (ownsRow_asked HROW.out hr2.turns (by have := HRL.out; omega))
        clear hr2
        by_cases hzz : z = 0
        · have hz1 : ((z : Int) == 0) = true := by simpa using hzz
          clear hzz
          obtain ⟨q1, hq1, hrd1⟩ := AT2.out.rd
          have C1 := Lib.hid (num_new hrd1 (by omega) [0, 1, -1, 6, 9223372036854775807] (by simp) (by simp))
          clear hrd1
          go_wp2_with fail
          refine C1.out.mono ?_
          rintro e wA ⟨x, hx, rfl, hrA⟩
          have HX := Lib.hid (i64_num1 hx)
          have ATA := Lib.hid (AT2.out.asked hq1 hrA (by omega))
          have HRA := Lib.hid (HRES2.out.asked hrA.turns (by have := HRL.out; omega))
          clear hx hrA
          obtain ⟨q2, hq2, hrd2⟩ := ATA.out.rd
          have C2 := Lib.hid (num_new hrd2 (by omega) [0, 5, -1] (by simp) (by simp))
          clear hrd2
          go_wp2_with fail
          refine C2.out.mono ?_
          rintro e wB ⟨y, hy, rfl, hrB⟩
          have HY := Lib.hid (i64_num2 hy)
          have ATB := Lib.hid (ATA.out.asked hq2 hrB (by omega))
          have HRB := Lib.hid (HRA.out.asked hrB.turns (by have := HRL.out; omega))
          have f0 : ∀ k, wB.frozen? ⟨w.heap.size + 1, k, none⟩ = false := fun k => HRB.out.frozen k
          have RS := (HRB.out.set 0 (.int .i64 x)).set 1 (.int .i64 y)
          have r0 := HRB.out.cell (i := 0) (v := .int .i64 0) (by rfl)
          have r1 := HRB.out.cell (i := 1) (v := .int .i64 0) (by rfl)
          have d0 := RS.cell (i := 0) (v := .int .i64 x) (by rfl)
          have d1 := RS.cell (i := 1) (v := .int .i64 y) (by rfl)
          have ATE := Lib.hid ((ATB.out.far (((Below.refl w.heap.size wB).setCell (p := ⟨w.heap.size + 1, 0, none⟩) (by simp) (.int .i64 x)).setCell (p := ⟨w.heap.size + 1, 1, none⟩) (by simp) (.int .i64 y))).more (P' := p + 3) (by omega) (by omega))
          clear hy hrB RS
          go_wp2
          exact bodyPost_ret (v := .agg #[.int .i64 x, .int .i64 y]) (by simp [results, Tryz.results44, go_sem, d0, d1]) rfl ⟨x, y, rfl, HX.out, HY.out, ATE.out⟩
        · have hz1 : ((z : Int) == 0) = false := by simpa using hzz
          obtain ⟨q1, hq1, hrd1⟩ := AT2.out.rd
          have C1 := Lib.hid (pick_any hrd1 (by omega) (L.length : Int) (by omega))
          have hlp : 0 < L.length := by omega
          clear hrd1 hzz hz
          go_wp2_with fail
          refine C1.out.mono ?_
          rintro e w3 ⟨z2, rfl, -, hz2, hr3⟩
          have hz3 : z2 < L.length := by have := hz2 (by omega); omega
          have AT3 := Lib.hid (AT2.out.asked hq1 hr3 (by omega))
          have HRES3 := Lib.hid (HRES2.out.asked hr3.turns (by have := HRL.out; omega))
          obtain ⟨pl, hpl⟩ : ∃ pl, L[z2]? = some pl := ⟨_, List.getElem?_eq_getElem hz3⟩
          obtain ⟨oX, cX, he, hap⟩ := argPlaces_of_owns (ownsRow_asked HROW2.out hr3.turns (by have := HRL.out; omega))
          simp only [Value.slice.injEq] at he
          obtain ⟨rfl, -, -⟩ := he
          obtain ⟨b1, f1, rfl, hb1, qq⟩ := hap.at (by omega)
          obtain ⟨c0, c1⟩ := qq z2 pl hpl
          obtain ⟨x, y⟩ := pl
          have HXY := Lib.hid (HSM.out _ (List.mem_of_getElem? hpl))
          dsimp only at c0 c1
          have f0 : ∀ k, w3.frozen? ⟨w.heap.size + 1, k, none⟩ = false := fun k => HRES3.out.frozen k
          have RS := (HRES3.out.set 0 (.int .i64 x)).set 1 (.int .i64 y)
          have r0 := HRES3.out.cell (i := 0) (v := .int .i64 0) (by rfl)
          have r1 := HRES3.out.cell (i := 1) (v := .int .i64 0) (by rfl)
          have d0 := RS.cell (i := 0) (v := .int .i64 x) (by rfl)
          have d1 := RS.cell (i := 1) (v := .int .i64 y) (by rfl)
          have ATE := Lib.hid ((AT3.out.far (((Below.refl w.heap.size w3).setCell (p := ⟨w.heap.size + 1, 0, none⟩) (by simp) (.int .i64 x)).setCell (p := ⟨w.heap.size + 1, 1, none⟩) (by simp) (.int .i64 y))).more (P' := p + 3) (by omega) (by omega))
          clear hz2 hr3 hpl hap qq hb1 RS
          go_wp2
          exact bodyPost_ret (v := .agg #[.int .i64 x, .int .i64 y]) (by simp [results, Tryz.results44, go_sem, d0, d1]) rfl ⟨x, y, rfl, HXY.out.1, HXY.out.2, ATE.out⟩
end Go.Proofs.YtjogfagjcpcihaaGreatDoor
namespace Go.Proofs.YtjogfagjcpcihaaGreatDoor
open Go Go.RowKit
end Go.Proofs.YtjogfagjcpcihaaGreatDoor
namespace Go.Proofs.YtjogfagjcpcihaaGreatDoor
open Go Go.RowKit Sg
def DrawnP (w : World) (e : Ending) (w' : World) : Prop := ∃ ss ov cv a b, e = .returned (.tuple #[.agg #[.slice ov (List.length ss) cv], .agg #[.int .i64 a, .int .i64 b]]) ∧ HoldsScopes w' ov ss ∧ Lit1 210 ss ∧ I64 a ∧ I64 b ∧ Below w.heap.size w w'
structure SmP (w w0 W : World) (r : Nat) (oa : Option Addr) (len cap P n4 : Nat) (v : Value) (ss : List Sc) (hs : List Value) : Prop where
  rd : RdAt w0 W r oa len cap P
  t2 : Row W w.heap.size 33 [.slice none 0 0]
  t3 : Row W (w.heap.size + 1) 26 [.int .i64 0, .int .i64 0]
  t4 : Row W n4 33 [v]
  low : w.heap.size + 1 < n4
  gr : HeldGr W w.heap.size v ss hs
  far : w.heap.size + 1 < r
  ltw : r < w0.heap.size
theorem SmP.step {w w0 W W' : World} {r len cap P n4 : Nat} {oa : Option Addr} {v : Value} {ss : List Sc} {hs : List Value} (h : SmP w w0 W r oa len cap P n4 v ss hs) (hb : Below W.heap.size W W') : SmP w w0 W' r oa len cap P n4 v ss hs :=
  ⟨h.rd.step hb, h.t2.below hb h.t2.lt, h.t3.below hb h.t3.lt, h.t4.below hb h.t4.lt, h.low, h.gr.below hb, h.far, h.ltw⟩
theorem SmP.askedAt {w w0 W W' : World} {r len cap P P' n4 : Nat} {oa : Option Addr} {v : Value} {ss : List Sc} {hs : List Value} (h : SmP w w0 W r oa len cap P n4 v ss hs) (k : RdAt W W' r oa len cap P') : SmP w w0 W' r oa len cap P' n4 v ss hs := by
  obtain ⟨p2, _, hr2⟩ := h.rd.now
  exact ⟨h.rd.trans k, h.t2.asked k.turns (fun e => by have := h.far; omega), h.t3.asked k.turns (fun e => by have := h.far; omega), h.t4.asked k.turns (h.t4.neq hr2 (by decide)), h.low, h.gr.asked hr2 k.turns, h.far, h.ltw⟩
end Go.Proofs.YtjogfagjcpcihaaGreatDoor
