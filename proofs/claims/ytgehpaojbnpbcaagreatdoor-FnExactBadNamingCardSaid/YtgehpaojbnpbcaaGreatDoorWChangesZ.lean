/-
  The contract of impl's iterator over what changes between two graphs: the places of the items that are there in the second one and mean something else. Conditions: a comparison lies in memory; whatever stands in the second graph is an item there.
-/
import Derived.Test.YtgehpaojbnpbcaaGreatDoorJEZ
import Derived.Test.YtgehpaojbnpbcaaGreatDoorRangeOwnZ
import Derived.Test.YtgehpaojbnpbcaaGreatDoorWImplItemsZ
namespace Go.Proofs.YtgehpaojbnpbcaaGreatDoor
open Go Go.RowKit Go.Maps
attribute [local go_sem] Oper.semAt_some
theorem changes_any (C : Nat) (w : World) :
    Calls Tryz.prog 64 #[.pointer (some ⟨C, 0, none⟩)] w fun e w' => e = .returned (.func (.func 96) #[] #[.pointer (some ⟨w.heap.size, 0, none⟩)]) ∧ w' = w.alloc (.cells #[.pointer (some ⟨C, 0, none⟩)] 105) := by
  go_enter Tryz.func64, Tryz.ntmps64
  go_wp2
  go_ret
  exact ⟨rfl, rfl⟩
/-- Those of some items that are there in the second graph and mean something else. -/
def chEl {ss : List Sc} (tt : List Sc) (st : Int × Int → Option (Int × Int)) (pre : List (El ss)) : List (El ss) := pre.filter fun x => chgB1 ss tt st x.1
theorem chEl_snoc {ss tt : List Sc} {st : Int × Int → Option (Int × Int)} (pre : List (El ss)) (x : El ss) : chEl tt st (pre ++ [x]) = chEl tt st pre ++ if chgB1 ss tt st x.1 = true then [x] else [] := by
  unfold chEl
  rw [List.filter_append]
  congr 1
  by_cases h : chgB1 ss tt st x.1 = true
  · rw [if_pos h]; simp [h]
  · rw [if_neg h]; simp [h]
theorem chEl_all {ss tt : List Sc} {st : Int × Int → Option (Int × Int)} {ys : List (El ss)} (h : ys.map Subtype.val = placed 0 ss) : (chEl tt st ys).map (fun x => plOf x.1) = chgG ss tt st := by
  have key : ∀ L : List (Nat × Nat × It), ys.map Subtype.val = L → (ys.filter fun x => chgB1 ss tt st x.1).map (fun x => plOf x.1) = (L.filter (chgB1 ss tt st)).map plOf := by
    intro L hL
    rw [← hL, List.filter_map, List.map_map]
    rfl
  exact key _ h
theorem ownOver {β : Type} {B : Nat} {I : β → World → Prop} (h : OwnFrom B I) {s : β} {A C : World} (hs : I s A) (hb : Below A.heap.size A C) : I s C :=
  h s A C none hs ⟨hb.os, hb.tape, hb.output, hb.size, fun k hk _ => hb.block k hk⟩ (fun r e => by cases e)
/-- What stands in the second graph is an item there. -/
def StandsIn (ss tt : List Sc) (st : Int × Int → Option (Int × Int)) : Prop := ∀ q ∈ placed 0 ss, ∀ p, st (plOf q) = some p → ∃ (i j : Nat) (x : It), p = ((i : Int), (j : Int)) ∧ (i, j, x) ∈ placed 0 tt
theorem cell5 {w1 W : World} {p0 p1 p2 p3 : Addr} {v0 v1 v2 v3 : Value} (c0 : w1.cell? p0 = some v0) (c1 : w1.cell? p1 = some v1) (c2 : w1.cell? p2 = some v2) (c3 : w1.cell? p3 = some v3) (hb : Below w1.heap.size w1 W) :
    W.cell? p0 = some v0 ∧ W.cell? p1 = some v1 ∧ W.cell? p2 = some v2 ∧ W.cell? p3 = some v3 := ⟨cell_grow hb c0, cell_grow hb c1, cell_grow hb c2, cell_grow hb c3⟩
theorem keepsUp {B B' : Nat} {A C : World} (h : KeepsFrom B A C) (hB : B ≤ B') : KeepsFrom B' A C := ⟨h.size, fun k o hk ho hc => h.same k o (Nat.le_trans hB hk) ho hc⟩
theorem keepsJoin {B : Nat} {A C E : World} (h : KeepsFrom B A C) (k : KeepsFrom B C E) : KeepsFrom B A E := ⟨Nat.le_trans h.size k.size, fun i o hi ho hc => k.same i o hi (h.same i o hi ho hc) hc⟩
/-- What a round keeps: all that lay below n; from m on whatever holds no places. -/
def PlKeep (n m : Nat) (A C : World) : Prop := Below n A C ∧ ∀ (g : Nat) (t : TypeId) (vs : List Value), m ≤ g → t ≠ 59 → Row A g t vs → Row C g t vs
set_option maxRecDepth 100000 in
set_option maxHeartbeats 16000000 in
theorem changes_seq {ss tt : List Sc} (hv : Valid ss) (hv2 : Valid tt) {st : Int × Int → Option (Int × Int)} (hin : StandsIn ss tt st) {w0 : World} {Bn C R1 R2 : Nat} {u : Value} (hC : CompIs w0 C R1 R2 u ss tt st) (hBn : w0.cell? ⟨Bn, 0, none⟩ = some (.pointer (some ⟨C, 0, none⟩))) :
    SeqOwn 6 Tryz.prog 96 #[.pointer (some ⟨Bn, 0, none⟩)] (fun x : El ss => #[.agg #[.int .i64 (x.1.1 : Int), .int .i64 (x.1.2.1 : Int)]]) (PlKeep w0.heap.size) (fun xs => xs.map (fun x => plOf x.1) = chgG ss tt st) (fun _ => True) 1000000 w0 := by
  intro l J Jx W hl hW hJ hJx hY h0
  have HJ := Lib.hid hJ
  have HJX := Lib.hid hJx
  have HY := Lib.hid hY
  have HCW := Lib.hid (hC.below hW)
  have HC := Lib.hid hC
  have HW := Lib.hid hW
  have HV := Lib.hid (And.intro hv (And.intro hv2 hin))
  have HBN := Lib.hid hBn
  have HLT := Lib.hid (World.block_lt_of_cell? _ _ hBn)
  have hbY := (Below.refl W.heap.size W).alloc (Nat.le_refl _) (.cells #[.func (.yield l) #[] #[]] 121)
  have RY := Lib.hid (Row.new W [.func (.yield l) #[] #[]] 121)
  have HBY := Lib.hid hbY
  have bn := cell_grow (hW.trans (hbY.mono hW.size)) hBn
  obtain ⟨f, lb, rfl, hen, hst⟩ := hC.stands
  have HST := Lib.hid hst
  have cc0 := ((HCW.out.below hbY).row).cell (i := 0) (v := .pointer (some ⟨R1, 0, none⟩)) (by rfl)
  obtain ⟨Br, T, M1, M2, MR, v, ds, le, hR⟩ := hC.res1
  have HR := Lib.hid hR
  have rr0 := (hR.below (hW.trans (hbY.mono hW.size))).box.cell (i := 0) (v := .pointer (some ⟨T, 0, none⟩)) (by rfl)
  have H0 := Lib.hid h0
  clear hv hv2 hin hC hBn hJ hJx hY hbY hst hR h0
  refine callsIn_of_wp_marks Tryz.func96 rfl trivial ?_ rfl
  simp only [Tryz.ntmps96, List.size_toArray, List.length_cons, List.length_nil, Nat.reduceAdd, Nat.reduceSub, Array.replicate_succ, Array.replicate_zero, List.push_toArray, List.append_toArray, List.nil_append, List.cons_append]
  gi_wp2_with fail
  refine ⟨trivial, ?_⟩
  gi_at_call 93
  refine ((callsIn_wide (n := 5)).2 (all_any _ _)).mono ?_
  rintro e w2 ⟨rfl, rfl⟩
  gi_wp2
  have hb2 : Below W.heap.size W ((W.alloc (.cells #[.func (.yield l) #[] #[]] 121)).alloc (.cells #[.pointer (some ⟨T, 0, none⟩)] 124)) := ((Below.refl _ _).alloc (Nat.le_refl _) _).alloc (by simp) _
  have bN := Boxed.new (W.alloc (.cells #[.func (.yield l) #[] #[]] 121)) 124 (.pointer (some ⟨T, 0, none⟩))
  rw [World.size_alloc] at bN
  have RY2 := RY.out.alloc (.cells #[.pointer (some ⟨T, 0, none⟩)] 124)
  have HB2 := Lib.hid (HW.out.trans (hb2.mono HW.out.size))
  have hsm := HV.out.1.small
  have hJ2 := ownOver HJ.out H0.out hb2
  obtain ⟨W2, hW2⟩ : ∃ W2, W2 = (W.alloc (.cells #[.func (.yield l) #[] #[]] 121)).alloc (.cells #[.pointer (some ⟨T, 0, none⟩)] 124) := ⟨_, rfl⟩
  have hsW2 : W2.heap.size = W.heap.size + 2 := by rw [hW2]; simp
  have hszW := HW.out.size
  rw [← hW2] at hb2 bN RY2 HB2 hJ2 ⊢
  clear bn cc0 rr0 hW2
  refine wpIn_rangeFunc_ownH rfl (by omega) (gf := 115) (lb := #[.pointer (some ⟨W.heap.size + 1, 0, none⟩)]) rfl trivial (enters_of Tryz.func115 (by kernel_rfl) rfl)
    (all_stops 5 (by omega) (W.heap.size + 1) _ T M1 M2 v ds ss w0 _ HR.out.tree.tree HR.out.tree.hold (HR.out.tree.ne HV.out.1) hsm.len hsm.items (.of_below HB2.out) bN.cell) CellsKept.trans (fun X k o o' _ h1 h2 h3 => cellsKept_b (w := w0) X k o o' (by simp at *; omega) h1 h2 h3) (Below.refl _ _) (fun _ => rfl)
    (fun pre X => J (chEl tt st pre) X ∧ (Row X W.heap.size 121 [.func (.yield l) #[] #[]] ∧ Below w0.heap.size w0 X))
    (fun c pre X => c = .ret ∧ ∃ pr, Jx pr X)
    (OwnFrom.and (fun s A E row hs hg hr => HJ.out (chEl tt st s) A E row hs hg (fun r e => ⟨by have := (hr r e).1; omega, (hr r e).2⟩)) (OwnFrom.and (row_own _ _ _ fun _ => _) (ownFrom_below (Nat.le_refl _) (by omega))))
    (fun c s A E row hs hg hr => ⟨hs.1, by obtain ⟨pr, hp⟩ := hs.2; exact ⟨pr, HJX.out pr A E row hp hg (fun r e => ⟨by have := (hr r e).1; omega, (hr r e).2⟩)⟩⟩)
    ⟨hJ2, RY2, HB2.out⟩
    (fun x a' X => ∃ Bp, Row X Bp 59 [.int .i64 (x.1.1 : Int), .int .i64 (x.1.2.1 : Int)] ∧
      a' = { tmps := #[.func (.yield l) #[] #[], .pointer (some ⟨Bn, 0, none⟩), .pointer (some ⟨W.heap.size, 0, none⟩), .pointer (some ⟨Bp, 0, none⟩), undef, undef, .pointer (some ⟨C, 0, none⟩), .pointer (some ⟨C, 0, none⟩), .pointer (some ⟨C, 0, none⟩), .pointer (some ⟨R1, 0, none⟩), .pointer (some ⟨R1, 0, none⟩), .pointer (some ⟨R1, 0, none⟩), .pointer (some ⟨T, 0, none⟩), .func (.func 115) #[] #[.pointer (some ⟨W.heap.size + 1, 0, none⟩)], .agg #[.int .i64 (x.1.1 : Int), .int .i64 (x.1.2.1 : Int)], .agg #[.int .i64 x.1.2.2.kind, .string x.1.2.2.name, .int .i64 x.1.2.2.scope], undef, undef, undef, undef, undef, undef, undef, undef, undef, undef, undef, undef, undef, undef, undef, undef, undef, undef, undef, undef, undef, undef, undef], defers := [] })
    (fun x a' _ X Y row hs hg hr => by obtain ⟨Bp, h1, h3⟩ := hs; exact ⟨Bp, h1.kept_cells hg (fun r e => (hr r e).2), h3⟩)
    ?assign ?body ?done ?stop
  case assign =>
    rintro l' pre x X K hi hK
    dsimp only [elArgs]
    gi_wp2
    have ha : Below X.heap.size X (X.alloc (.cells #[.int .i64 (x.1.1 : Int), .int .i64 (x.1.2.1 : Int)] 59)) := (Below.refl _ _).alloc (Nat.le_refl _) _
    obtain ⟨hj, hr, hbw⟩ := hi
    refine hK _ _ ((KeepsOthers.alloc _ _).from _) (.of_below (ha.mono hbw.size)) ⟨ownOver HJ.out hj ha, hr.alloc _, hbw.trans (ha.mono hbw.size)⟩ ⟨X.heap.size, Row.new X [.int .i64 (x.1.1 : Int), .int .i64 (x.1.2.1 : Int)] 59, rfl⟩
  case body =>
    rintro l' pre x a' Wx hl' _ hi ⟨Bp, hp, rfl⟩ hlen
    obtain ⟨⟨i, j, it⟩, hmem⟩ := x
    dsimp only at hp ⊢
    have HI := Lib.hid hi
    have HP := Lib.hid hp
    have hlt := HV.out.1.small.lt hmem
    dsimp only at hlt
    have cB := hi.2.2.cell (p := ⟨Bn, 0, none⟩) HLT.out |>.trans HBN.out
    have cF := (HC.out.row.below hi.2.2 HC.out.row.lt).cell (i := 2) (v := .func (.func f) #[] lb) (by rfl)
    have p0 := hp.cell (i := 0) (v := .int .i64 (i : Int)) (by rfl)
    have p1 := hp.cell (i := 1) (v := .int .i64 (j : Int)) (by rfl)
    have HIJ : Hid (i < 1000 ∧ j < 1000) := Lib.hid hlt
    have hbz := (Below.refl Wx.heap.size Wx).drew
    have hS0 := cell5 cB cF p0 p1 hbz
    have HS0 := Lib.hid hS0
    have HL := Lib.hid hlen
    clear hi hp hlt cB cF p0 p1 hbz hlen
    gi_wp2
    refine wpIn_region_kept (F := Fence.wide) (S := fun w' => w'.cell? ⟨Bn, 0, none⟩ = some (.pointer (some ⟨C, 0, none⟩)) ∧ w'.cell? ⟨C, 2, none⟩ = some (.func (.func f) #[] lb) ∧ w'.cell? ⟨Bp, 0, none⟩ = some (.int .i64 (i : Int)) ∧ w'.cell? ⟨Bp, 1, none⟩ = some (.int .i64 (j : Int))) 1000 l' (by kernel_rfl) (by kernel_rfl) ?_
    refine KeptAny.take (i := 0) (v := ?_) (by kernel_rfl) rfl rfl (by kernel_rfl) (by kernel_rfl) (by kernel_rfl) (fun _ _ _ h => h) (by rfl) (fun w' hw' => ?_) (fun _ => rfl) hS0 ?_
    rotate_left
    · (obtain ⟨g0, g1, g2, g3⟩ := hw'; go_simp; try with_reducible rfl)
    refine KeptAny.take (i := 1) (v := ?_) (by kernel_rfl) rfl rfl (by kernel_rfl) (by kernel_rfl) (by kernel_rfl) (fun _ _ _ h => h) (by rfl) (fun w' hw' => ?_) (fun _ => rfl) hS0 ?_
    rotate_left
    · (obtain ⟨g0, g1, g2, g3⟩ := hw'; go_simp; try with_reducible rfl)
    refine KeptAny.take (i := 2) (v := ?_) (by kernel_rfl) rfl rfl (by kernel_rfl) (by kernel_rfl) (by kernel_rfl) (fun _ _ _ h => h) (by rfl) (fun w' hw' => ?_) (fun _ => rfl) hS0 ?_
    rotate_left
    · (obtain ⟨g0, g1, g2, g3⟩ := hw'; go_simp; try with_reducible rfl)
    refine KeptAny.take (i := 3) (v := ?_) (by kernel_rfl) rfl rfl (by kernel_rfl) (by kernel_rfl) (by kernel_rfl) (fun _ _ _ h => h) (by rfl) (fun w' hw' => ?_) (fun _ => rfl) hS0 ?_
    rotate_left
    · (obtain ⟨g0, g1, g2, g3⟩ := hw'; go_simp; try with_reducible rfl)
    refine KeptAny.take (i := 4) (v := ?_) (by kernel_rfl) rfl rfl (by kernel_rfl) (by kernel_rfl) (by kernel_rfl) (fun _ _ _ h => h) (by rfl) (fun w' hw' => ?_) (fun _ => rfl) hS0 ?_
    rotate_left
    · (obtain ⟨g0, g1, g2, g3⟩ := hw'; go_simp; try with_reducible rfl)
    clear hS0
    refine KeptAny.two (i := 5) (j := 9) (by kernel_rfl) ⟨_, rfl, by rfl, fun K hK => ?_⟩ ⟨_, rfl, by rfl, fun K hK => ?_⟩
    · go_simp
      refine ⟨trivial, ?_⟩
      refine ((callsIn_wide (n := 3)).2 (HST.out i j _ HIJ.out.1 HIJ.out.2 (HI.out.2.2.trans (((Below.refl Wx.heap.size Wx).drew).mono HI.out.2.2.size)))).mono ?_
      rintro e w4 ⟨xx, yy, ok, rfl, hto, hb4⟩
      have HTO := Lib.hid hto
      have hS4 := And.intro (cell_grow hb4 HS0.out.1) (And.intro (cell_grow hb4 HS0.out.2.1) (And.intro (cell_grow hb4 HS0.out.2.2.1) (cell_grow hb4 HS0.out.2.2.2)))
      have hb4' : Below Wx.heap.size Wx w4 := ((Below.refl Wx.heap.size Wx).drew).trans hb4
      have hb5 := (Below.refl w4.heap.size w4).alloc (Nat.le_refl _) (.cells #[.int .i64 0, .int .i64 0] 59)
      have hb6 := (Below.refl w4.heap.size w4).alloc (Nat.le_refl _) (.cells #[.int .i64 xx, .int .i64 yy] 59)
      have hS5 := cell5 hS4.1 hS4.2.1 hS4.2.2.1 hS4.2.2.2 hb5
      have hS6 := cell5 hS4.1 hS4.2.1 hS4.2.2.1 hS4.2.2.2 hb6
      have ZB := Lib.hid (hb4'.trans (hb6.mono hb4'.size))
      have RG := Lib.hid (Row.new w4 [.int .i64 xx, .int .i64 yy] 59)
      refine hK.out _ _ hS4 (fun _ => ?_)
      clear hK hto hb4 hb4' hb5 hb6
      refine KeptAny.take (i := 6) (v := ?_) (by kernel_rfl) rfl rfl (by kernel_rfl) (by kernel_rfl) (by kernel_rfl) (fun _ _ _ h => h) (by rfl) (fun w' hw' => ?_) (fun _ => rfl) hS4 ?_
      rotate_left
      · (obtain ⟨g0, g1, g2, g3⟩ := hw'; go_simp; try with_reducible rfl)
      refine KeptAny.take (i := 7) (v := ?_) (by kernel_rfl) rfl rfl (by kernel_rfl) (by kernel_rfl) (by kernel_rfl) (fun _ _ _ h => h) (by rfl) (fun w' hw' => ?_) (fun _ => rfl) hS4 ?_
      rotate_left
      · (obtain ⟨g0, g1, g2, g3⟩ := hw'; go_simp; try with_reducible rfl)
      refine KeptAny.take (i := 8) (v := ?_) (by kernel_rfl) rfl rfl (by kernel_rfl) (by kernel_rfl) (by kernel_rfl) (fun _ _ _ h => h) (by rfl) (fun w' hw' => ?_) (fun _ => rfl) hS4 ?_
      rotate_left
      · (obtain ⟨g0, g1, g2, g3⟩ := hw'; go_simp; try with_reducible rfl)
      refine KeptAny.one (i := 9) (by kernel_rfl) rfl (by rfl) (fun K hK => ?_)
      go_simp
      refine hK.out _ _ hS5 (fun _ => ?_)
      clear hK
      refine KeptAny.one (i := 10) (by kernel_rfl) rfl (by rfl) (fun K hK => ?_)
      go_simp
      refine hK.out _ _ hS6 (fun _ => ?_)
      clear hK
      refine KeptAny.one (i := 11) (by kernel_rfl) rfl (by rfl) (fun K hK => ?_)
      go_simp
      refine hK.out _ _ hS6 (fun _ => ?_)
      clear hK hS4 hS5 hS6
      refine KeptAny.done (by kernel_rfl) ?_ _
      generalize w4.alloc (.cells #[.int .i64 xx, .int .i64 yy] 59) = wz at *
      have p0 := (HP.out.below ZB.out HP.out.lt).cell (i := 0) (v := .int .i64 (i : Int)) (by rfl)
      have p1 := (HP.out.below ZB.out HP.out.lt).cell (i := 1) (v := .int .i64 (j : Int)) (by rfl)
      have r0 := RG.out.cell (i := 0) (v := .int .i64 xx) (by rfl)
      have r1 := RG.out.cell (i := 1) (v := .int .i64 yy) (by rfl)
      have cB := (HI.out.2.2.trans (ZB.out.mono HI.out.2.2.size)).cell (p := ⟨Bn, 0, none⟩) HLT.out |>.trans HBN.out
      have ZI := Lib.hid (And.intro (ownOver HJ.out HI.out.1 ZB.out) (And.intro (HI.out.2.1.below ZB.out HI.out.2.1.lt) (HI.out.2.2.trans (ZB.out.mono HI.out.2.2.size))))
      have y0 := ZI.out.2.1.cell (i := 0) (v := .func (.yield l) #[] #[]) (by rfl)
      have HSZ : Hid (w0.heap.size ≤ Wx.heap.size) := Lib.hid HI.out.2.2.size
      cases ok
      · have HF : Hid (chEl tt st (pre ++ [(⟨(i, j, it), hmem⟩ : El ss)]) = chEl tt st pre) := Lib.hid (by
          rw [chEl_snoc, if_neg, List.append_nil]
          have h1 : st (plOf (i, j, it)) = none := by
            rcases HTO.out with ⟨h, _⟩ | ⟨_, h⟩
            · cases h
            · exact h
          unfold chgB1
          dsimp only
          rw [h1]
          simp)
        gi_wp2_with fail
        refine ⟨trivial, ?_⟩
        gi_wp2_with fail
        refine ⟨fun _ h => (by cases h), ?_⟩
        gi_wp2
        exact ⟨(keepsOthers_of_below ZB.out).from _, .of_below (ZB.out.mono HSZ.out), by rw [HF.out]; exact ZI.out.1, ZI.out.2⟩
      · have hss : st (plOf (i, j, it)) = some (xx, yy) := by
          rcases HTO.out with ⟨_, h⟩ | ⟨h, _⟩
          · exact h
          · cases h
        obtain ⟨i2, j2, x2, he, hq2⟩ := HV.out.2.2 (i, j, it) hmem (xx, yy) hss
        simp only [Prod.mk.injEq] at he
        obtain ⟨rfl, rfl⟩ := he
        have CS := Lib.hid (CallsIn.inRound l' ((callsIn_wide (n := 3)).2 (same_any HV.out.1 HV.out.2.1 (HC.out.below ZI.out.2.2) hmem hq2)))
        have HQ : Hid (chgB1 ss tt st (i, j, it) = !sameG tt st (meanIt ss (i, j, it)) ((i2 : Int), (j2 : Int))) := Lib.hid (by unfold chgB1; rw [hss])
        generalize sameG tt st (meanIt ss (i, j, it)) ((i2 : Int), (j2 : Int)) = sg at CS HQ
        clear hq2 hss
        gi_wp2_with fail
        refine ⟨trivial, ?_⟩
        gi_at_call 97
        refine CS.out.mono ?_
        rintro e w5 ⟨rfl, hb5⟩
        have ZB5 := Lib.hid (ZB.out.trans (hb5.mono ZB.out.size))
        have ZI5 := Lib.hid (And.intro (ownOver HJ.out ZI.out.1 hb5) (And.intro (ZI.out.2.1.below hb5 ZI.out.2.1.lt) (ZI.out.2.2.trans (hb5.mono ZI.out.2.2.size))))
        have y0 := ZI5.out.2.1.cell (i := 0) (v := .func (.yield l) #[] #[]) (by rfl)
        have p0 := (HP.out.below ZB5.out HP.out.lt).cell (i := 0) (v := .int .i64 (i : Int)) (by rfl)
        have p1 := (HP.out.below ZB5.out HP.out.lt).cell (i := 1) (v := .int .i64 (j : Int)) (by rfl)
        clear hb5 r0 r1 cB
        cases sg
        · have HF : Hid (chEl tt st (pre ++ [(⟨(i, j, it), hmem⟩ : El ss)]) = chEl tt st pre ++ [⟨(i, j, it), hmem⟩]) := Lib.hid (by
            rw [chEl_snoc, if_pos]
            rw [HQ.out]; rfl)
          have hlen2 : (chEl tt st pre).length < 1000000 := by
            have h1 : (chEl tt st pre).length ≤ pre.length := List.length_filter_le _ _
            have h2 := placed_bound 0 ss 6 5 HV.out.1.count.2 HV.out.1.five
            have h3 := HL.out
            omega
          obtain ⟨fn, tmps, assign, body, hyy, hR⟩ := HY.out 3 (chEl tt st pre) ⟨(i, j, it), hmem⟩ w5 ZI5.out.1 hlen2
          dsimp only at hyy
          have HUP := Lib.hid (show W.heap.size ≤ W2.heap.size by omega)
          gi_wp2
          refine hR.mono ?_
          rintro e w6 ⟨hkf, ⟨rfl, hj6, hb6, hr6⟩ | ⟨rfl, hx6⟩⟩
          · have HK6 := Lib.hid (keepsJoin ((keepsOthers_of_below ZB5.out).from W2.heap.size) (keepsUp hkf HUP.out))
            have HB6 := Lib.hid (Below.trans (ZB5.out.mono HSZ.out) hb6)
            have HJ6 : Hid (J (chEl tt st (pre ++ [(⟨(i, j, it), hmem⟩ : El ss)])) w6 ∧ (Row w6 W.heap.size 121 [.func (.yield l) #[] #[]] ∧ Below w0.heap.size w0 w6)) := Lib.hid ⟨by rw [HF.out]; exact hj6, hr6 _ _ _ (Nat.le_refl _) (by decide) ZI5.out.2.1, ZI5.out.2.2.trans hb6⟩
            clear hkf hj6 hb6 hr6
            gi_wp2
            exact ⟨HK6.out, .of_below HB6.out, HJ6.out⟩
          · have HK6 := Lib.hid (keepsJoin ((keepsOthers_of_below ZB5.out).from W2.heap.size) (keepsUp hkf HUP.out))
            have HX6 := Lib.hid hx6
            clear hkf hx6
            gi_wp2
            exact ⟨HK6.out, rfl, _, HX6.out⟩
        · have HF : Hid (chEl tt st (pre ++ [(⟨(i, j, it), hmem⟩ : El ss)]) = chEl tt st pre) := Lib.hid (by
            rw [chEl_snoc, if_neg, List.append_nil]
            rw [HQ.out]; simp)
          gi_wp2_with fail
          refine ⟨fun _ h => (by cases h), ?_⟩
          gi_wp2
          exact ⟨(keepsOthers_of_below ZB5.out).from _, .of_below (ZB5.out.mono HSZ.out), by rw [HF.out]; exact ZI5.out.1, ZI5.out.2⟩
    · go_simp
      have hbz : Below Wx.heap.size Wx (Wx.drew.alloc (.cells #[.int .i64 0, .int .i64 0] 59)) := ((Below.refl Wx.heap.size Wx).drew).alloc (Nat.le_refl Wx.heap.size) _
      have hbz0 : Below Wx.drew.heap.size Wx.drew (Wx.drew.alloc (.cells #[.int .i64 0, .int .i64 0] 59)) := (Below.refl _ _).alloc (Nat.le_refl _) _
      have hSz := And.intro (cell_grow hbz0 HS0.out.1) (And.intro (cell_grow hbz0 HS0.out.2.1) (And.intro (cell_grow hbz0 HS0.out.2.2.1) (cell_grow hbz0 HS0.out.2.2.2)))
      have RZ : Row (Wx.drew.alloc (.cells #[.int .i64 0, .int .i64 0] 59)) Wx.heap.size 59 [.int .i64 0, .int .i64 0] := Row.new Wx.drew [.int .i64 0, .int .i64 0] 59
      refine hK.out _ _ hSz (fun _ => ?_)
      clear hK
      refine KeptAny.one (i := 5) (by kernel_rfl) rfl (by rfl) (fun K hK => ?_)
      go_simp
      refine ⟨trivial, ?_⟩
      refine ((callsIn_wide (n := 3)).2 (HST.out i j _ HIJ.out.1 HIJ.out.2 (HI.out.2.2.trans (hbz.mono HI.out.2.2.size)))).mono ?_
      rintro e w4 ⟨xx, yy, ok, rfl, hto, hb4⟩
      have HTO := Lib.hid hto
      have hS4 := And.intro (cell_grow hb4 hSz.1) (And.intro (cell_grow hb4 hSz.2.1) (And.intro (cell_grow hb4 hSz.2.2.1) (cell_grow hb4 hSz.2.2.2)))
      have RZ4 := RZ.below hb4 RZ.lt
      have hb4' : Below Wx.heap.size Wx w4 := hbz.trans (hb4.mono hbz.size)
      have z0 := RZ4.cell (i := 0) (v := .int .i64 0) (by rfl)
      have z1 := RZ4.cell (i := 1) (v := .int .i64 0) (by rfl)
      have zf0 := RZ4.frozen 0
      have zf1 := RZ4.frozen 1
      have l0 : Bn ≠ Wx.heap.size := Nat.ne_of_lt (World.block_lt_of_cell? _ _ HS0.out.1)
      have l1 : C ≠ Wx.heap.size := Nat.ne_of_lt (World.block_lt_of_cell? _ _ HS0.out.2.1)
      have l2 : Bp ≠ Wx.heap.size := Nat.ne_of_lt (World.block_lt_of_cell? _ _ HS0.out.2.2.1)
      have far2 : ∀ (m k : Nat), m ≠ Wx.heap.size → ((w4.setCell ⟨Wx.heap.size, 0, none⟩ (.int .i64 xx)).setCell ⟨Wx.heap.size, 1, none⟩ (.int .i64 yy)).cell? ⟨m, k, none⟩ = w4.cell? ⟨m, k, none⟩ := fun m k h => by
        simp only [World.cell?]
        rw [Below.heap_setCell _ _ _ _ h, Below.heap_setCell _ _ _ _ h]
      have hS6 := And.intro ((far2 Bn 0 l0).trans hS4.1) (And.intro ((far2 C 2 l1).trans hS4.2.1) (And.intro ((far2 Bp 0 l2).trans hS4.2.2.1) ((far2 Bp 1 l2).trans hS4.2.2.2)))
      have ZB := Lib.hid ((hb4'.setCell (p := ⟨Wx.heap.size, 0, none⟩) (Nat.le_refl _) (.int .i64 xx)).setCell (p := ⟨Wx.heap.size, 1, none⟩) (Nat.le_refl _) (.int .i64 yy))
      have RG := Lib.hid ((RZ4.set 0 (.int .i64 xx)).set 1 (.int .i64 yy))
      refine hK.out _ _ hS4 (fun _ => ?_)
      clear hK hto hb4 hb4' hbz hbz0 RZ hSz l0 l1 l2 far2
      refine KeptAny.take (i := 6) (v := ?_) (by kernel_rfl) rfl rfl (by kernel_rfl) (by kernel_rfl) (by kernel_rfl) (fun _ _ _ h => h) (by rfl) (fun w' hw' => ?_) (fun _ => rfl) hS4 ?_
      rotate_left
      · (obtain ⟨g0, g1, g2, g3⟩ := hw'; go_simp; try with_reducible rfl)
      refine KeptAny.take (i := 7) (v := ?_) (by kernel_rfl) rfl rfl (by kernel_rfl) (by kernel_rfl) (by kernel_rfl) (fun _ _ _ h => h) (by rfl) (fun w' hw' => ?_) (fun _ => rfl) hS4 ?_
      rotate_left
      · (obtain ⟨g0, g1, g2, g3⟩ := hw'; go_simp; try with_reducible rfl)
      refine KeptAny.take (i := 8) (v := ?_) (by kernel_rfl) rfl rfl (by kernel_rfl) (by kernel_rfl) (by kernel_rfl) (fun _ _ _ h => h) (by rfl) (fun w' hw' => ?_) (fun _ => rfl) hS4 ?_
      rotate_left
      · (obtain ⟨g0, g1, g2, g3⟩ := hw'; go_simp; try with_reducible rfl)
      refine KeptAny.one (i := 10) (by kernel_rfl) rfl (by rfl) (fun K hK => ?_)
      go_simp
      refine hK.out _ _ hS6 (fun _ => ?_)
      clear hK
      refine KeptAny.one (i := 11) (by kernel_rfl) rfl (by rfl) (fun K hK => ?_)
      go_simp
      refine hK.out _ _ hS6 (fun _ => ?_)
      clear hK hS4 hS6 z0 z1 zf0 zf1 RZ4
      refine KeptAny.done (by kernel_rfl) ?_ _
      generalize (w4.setCell ⟨Wx.heap.size, 0, none⟩ (.int .i64 xx)).setCell ⟨Wx.heap.size, 1, none⟩ (.int .i64 yy) = wz at *
      have p0 := (HP.out.below ZB.out HP.out.lt).cell (i := 0) (v := .int .i64 (i : Int)) (by rfl)
      have p1 := (HP.out.below ZB.out HP.out.lt).cell (i := 1) (v := .int .i64 (j : Int)) (by rfl)
      have r0 := RG.out.cell (i := 0) (v := .int .i64 xx) (by rfl)
      have r1 := RG.out.cell (i := 1) (v := .int .i64 yy) (by rfl)
      have cB := (HI.out.2.2.trans (ZB.out.mono HI.out.2.2.size)).cell (p := ⟨Bn, 0, none⟩) HLT.out |>.trans HBN.out
      have ZI := Lib.hid (And.intro (ownOver HJ.out HI.out.1 ZB.out) (And.intro (HI.out.2.1.below ZB.out HI.out.2.1.lt) (HI.out.2.2.trans (ZB.out.mono HI.out.2.2.size))))
      have y0 := ZI.out.2.1.cell (i := 0) (v := .func (.yield l) #[] #[]) (by rfl)
      have HSZ : Hid (w0.heap.size ≤ Wx.heap.size) := Lib.hid HI.out.2.2.size
      cases ok
      · have HF : Hid (chEl tt st (pre ++ [(⟨(i, j, it), hmem⟩ : El ss)]) = chEl tt st pre) := Lib.hid (by
          rw [chEl_snoc, if_neg, List.append_nil]
          have h1 : st (plOf (i, j, it)) = none := by
            rcases HTO.out with ⟨h, _⟩ | ⟨_, h⟩
            · cases h
            · exact h
          unfold chgB1
          dsimp only
          rw [h1]
          simp)
        gi_wp2_with fail
        refine ⟨trivial, ?_⟩
        gi_wp2_with fail
        refine ⟨fun _ h => (by cases h), ?_⟩
        gi_wp2
        exact ⟨(keepsOthers_of_below ZB.out).from _, .of_below (ZB.out.mono HSZ.out), by rw [HF.out]; exact ZI.out.1, ZI.out.2⟩
      · have hss : st (plOf (i, j, it)) = some (xx, yy) := by
          rcases HTO.out with ⟨_, h⟩ | ⟨h, _⟩
          · exact h
          · cases h
        obtain ⟨i2, j2, x2, he, hq2⟩ := HV.out.2.2 (i, j, it) hmem (xx, yy) hss
        simp only [Prod.mk.injEq] at he
        obtain ⟨rfl, rfl⟩ := he
        have CS := Lib.hid (CallsIn.inRound l' ((callsIn_wide (n := 3)).2 (same_any HV.out.1 HV.out.2.1 (HC.out.below ZI.out.2.2) hmem hq2)))
        have HQ : Hid (chgB1 ss tt st (i, j, it) = !sameG tt st (meanIt ss (i, j, it)) ((i2 : Int), (j2 : Int))) := Lib.hid (by unfold chgB1; rw [hss])
        generalize sameG tt st (meanIt ss (i, j, it)) ((i2 : Int), (j2 : Int)) = sg at CS HQ
        clear hq2 hss
        gi_wp2_with fail
        refine ⟨trivial, ?_⟩
        gi_at_call 97
        refine CS.out.mono ?_
        rintro e w5 ⟨rfl, hb5⟩
        have ZB5 := Lib.hid (ZB.out.trans (hb5.mono ZB.out.size))
        have ZI5 := Lib.hid (And.intro (ownOver HJ.out ZI.out.1 hb5) (And.intro (ZI.out.2.1.below hb5 ZI.out.2.1.lt) (ZI.out.2.2.trans (hb5.mono ZI.out.2.2.size))))
        have y0 := ZI5.out.2.1.cell (i := 0) (v := .func (.yield l) #[] #[]) (by rfl)
        have p0 := (HP.out.below ZB5.out HP.out.lt).cell (i := 0) (v := .int .i64 (i : Int)) (by rfl)
        have p1 := (HP.out.below ZB5.out HP.out.lt).cell (i := 1) (v := .int .i64 (j : Int)) (by rfl)
        clear hb5 r0 r1 cB
        cases sg
        · have HF : Hid (chEl tt st (pre ++ [(⟨(i, j, it), hmem⟩ : El ss)]) = chEl tt st pre ++ [⟨(i, j, it), hmem⟩]) := Lib.hid (by
            rw [chEl_snoc, if_pos]
            rw [HQ.out]; rfl)
          have hlen2 : (chEl tt st pre).length < 1000000 := by
            have h1 : (chEl tt st pre).length ≤ pre.length := List.length_filter_le _ _
            have h2 := placed_bound 0 ss 6 5 HV.out.1.count.2 HV.out.1.five
            have h3 := HL.out
            omega
          obtain ⟨fn, tmps, assign, body, hyy, hR⟩ := HY.out 3 (chEl tt st pre) ⟨(i, j, it), hmem⟩ w5 ZI5.out.1 hlen2
          dsimp only at hyy
          have HUP := Lib.hid (show W.heap.size ≤ W2.heap.size by omega)
          gi_wp2
          refine hR.mono ?_
          rintro e w6 ⟨hkf, ⟨rfl, hj6, hb6, hr6⟩ | ⟨rfl, hx6⟩⟩
          · have HK6 := Lib.hid (keepsJoin ((keepsOthers_of_below ZB5.out).from W2.heap.size) (keepsUp hkf HUP.out))
            have HB6 := Lib.hid (Below.trans (ZB5.out.mono HSZ.out) hb6)
            have HJ6 : Hid (J (chEl tt st (pre ++ [(⟨(i, j, it), hmem⟩ : El ss)])) w6 ∧ (Row w6 W.heap.size 121 [.func (.yield l) #[] #[]] ∧ Below w0.heap.size w0 w6)) := Lib.hid ⟨by rw [HF.out]; exact hj6, hr6 _ _ _ (Nat.le_refl _) (by decide) ZI5.out.2.1, ZI5.out.2.2.trans hb6⟩
            clear hkf hj6 hb6 hr6
            gi_wp2
            exact ⟨HK6.out, .of_below HB6.out, HJ6.out⟩
          · have HK6 := Lib.hid (keepsJoin ((keepsOthers_of_below ZB5.out).from W2.heap.size) (keepsUp hkf HUP.out))
            have HX6 := Lib.hid hx6
            clear hkf hx6
            gi_wp2
            exact ⟨HK6.out, rfl, _, HX6.out⟩
        · have HF : Hid (chEl tt st (pre ++ [(⟨(i, j, it), hmem⟩ : El ss)]) = chEl tt st pre) := Lib.hid (by
            rw [chEl_snoc, if_neg, List.append_nil]
            rw [HQ.out]; simp)
          gi_wp2_with fail
          refine ⟨fun _ h => (by cases h), ?_⟩
          gi_wp2
          exact ⟨(keepsOthers_of_below ZB5.out).from _, .of_below (ZB5.out.mono HSZ.out), by rw [HF.out]; exact ZI5.out.1, ZI5.out.2⟩
  case done =>
    rintro D xs X hD hS ⟨hj, hr, hbw⟩ hK
    have HS := Lib.hid (chEl_all (tt := tt) (st := st) hS)
    have hj2 := (HJ.out).putObj (s := chEl tt st xs) (.deferred none) hj (by omega) hK rfl
    clear hS
    gi_wp2
    refine ⟨by simp, .inl ⟨_, _, rfl, run_takeDeferred hK, ?_⟩⟩
    exact ⟨_, results_none rfl _ _ _, ⟨_, rfl⟩, .inl ⟨_, HS.out, hj2⟩⟩
  case stop =>
    rintro D c pre X hD _ ⟨rfl, pr, hx⟩ hK
    have hx2 := (HJX.out).putObj (s := pr) (.deferred none) hx (by omega) hK rfl
    gi_wp2
    refine ⟨by simp, .inl ⟨_, _, rfl, run_takeDeferred hK, ?_⟩⟩
    exact ⟨_, results_none rfl _ _ _, ⟨_, rfl⟩, .inr ⟨_, trivial, hx2⟩⟩
end Go.Proofs.YtgehpaojbnpbcaaGreatDoor
