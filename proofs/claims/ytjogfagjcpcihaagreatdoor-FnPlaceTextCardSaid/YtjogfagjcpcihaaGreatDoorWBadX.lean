/-
  The walk of the given l1Bad. Conditions: a source of numbers; a graph in memory.
-/
import Derived.Test.YtjogfagjcpcihaaGreatDoorWDraw3X
namespace Go.Proofs.YtjogfagjcpcihaaGreatDoor
open Go Go.RowKit Sg
theorem HeldGr.grown {W w' : World} {B b n : Nat} {v x : Value} {ss : List Sc} {hs ys : List Value} (h : HeldGr W B v ss hs) (k : W.ownsRow b 156 2 x n ys) (hg : W.grownBy w' x.ownBlock) (hne : v.ownBlock = none ∨ v.ownBlock ≠ x.ownBlock) : HeldGr w' B v ss hs :=
  ⟨h.len, ownsRow_apart h.row hg hne, fun i s u h1 h2 => ownsRow_apart (h.items i s u h1 h2) hg (owns_types_apart (h.items i s u h1 h2) k (by decide))⟩
theorem below_row {W w' : World} {base b m size : Nat} {e : TypeId} {v : Value} {xs : List Value} (hrow : W.ownsRow b e size v m xs) (hb : base ≤ b) (hg : W.grownBy w' v.ownBlock) (hn : base ≤ W.heap.size) : Below base W w' :=
  (Below.refl base W).grown hg hn (fun r e => Nat.le_trans hb (hrow.lt r e).1)
/-- Where out lies. -/
structure BadAt (w W : World) (r : Nat) (oa : Option Addr) (len cap P n5 : Nat) (v : Value) (ss : List Sc) (hs : List Value) : Prop where
  rd : RdAt w W r oa len cap P
  t4 : Row W (w.heap.size + 1) 33 [.slice none 0 0]
  t5 : Row W n5 33 [v]
  low : w.heap.size ≤ n5
  ne : n5 ≠ w.heap.size + 1
  gr : HeldGr W w.heap.size v ss hs
theorem BadAt.step {w W W' : World} {r len cap P n5 : Nat} {oa : Option Addr} {v : Value} {ss : List Sc} {hs : List Value} (h : BadAt w W r oa len cap P n5 v ss hs) (hb : Below W.heap.size W W') : BadAt w W' r oa len cap P n5 v ss hs :=
  ⟨h.rd.step hb, h.t4.below hb h.t4.lt, h.t5.below hb h.t5.lt, h.low, h.ne, h.gr.below hb⟩
theorem BadAt.asked {w W W' : World} {r len cap P n5 n : Nat} {oa : Option Addr} {v : Value} {ss : List Sc} {hs : List Value} (h : BadAt w W r oa len cap P n5 v ss hs) {p' : Nat} (hp : p' ≤ P) (k : RdLeft W W' r oa len cap p' n) (hn : P + n ≤ 900000) : BadAt w W' r oa len cap (P + n) n5 v ss hs := by
  obtain ⟨p2, _, hr2⟩ := h.rd.now
  have hne4 : w.heap.size + 1 ≠ r := fun e => by have := h.rd.lt; omega
  have hne5 : n5 ≠ r := fun e => by have := h.rd.lt; have := h.low; omega
  exact ⟨h.rd.asked hp k hn, h.t4.asked k.turns hne4, h.t5.asked k.turns hne5, h.low, h.ne, h.gr.asked hr2 k.turns⟩
theorem Lit1.append {N M : Nat} {ss tt : List Sc} (h : Lit1 N ss) (k : Lit1 M tt) : Lit1 (N + M) (ss ++ tt) where
  count := by rw [List.length_append]; have := h.count; have := k.count; omega
  items := fun s hs => by
    rcases List.mem_append.1 hs with h1 | h1
    · have := h.items s h1; omega
    · have := k.items s h1; omega
  nums := fun s hs => by
    rcases List.mem_append.1 hs with h1 | h1
    · exact h.nums s h1
    · exact k.nums s h1
  names := fun s hs x hx => by
    rcases List.mem_append.1 hs with h1 | h1
    · have := h.names s h1 x hx; omega
    · have := k.names s h1 x hx; omega
theorem owns_one (W : World) (cur : Array Value) (e : TypeId) (size : Nat) (hs : cur.size = size) : (W.alloc (.cells cur e)).ownsRow 0 e size (.slice (some ⟨W.heap.size, 0, none⟩) 1 1) 1 cur.toList :=
  ⟨by simpa using hs, .inr ⟨W.heap.size, 1, cur, rfl, Nat.zero_le _, heap_alloc_new W _, Nat.le_refl _, by unfold maxLen; omega, by simpa using hs, by rw [Nat.one_mul]; exact List.take_of_length_le (by simp [hs])⟩⟩
theorem HeldGr.single (W : World) (pa kd sc : Int) (nm : ByteArray) : HeldGr ((W.alloc (.cells #[.int .i64 kd, .string nm, .int .i64 sc] 37)).alloc (.cells #[.int .i64 pa, .slice (some ⟨W.heap.size, 0, none⟩) 1 1] 156)) 0 (.slice (some ⟨W.heap.size + 1, 0, none⟩) 1 1) [⟨pa, [⟨kd, nm, sc⟩]⟩] [.slice (some ⟨W.heap.size, 0, none⟩) 1 1] where
  len := rfl
  row := by
    have h := owns_one (W.alloc (.cells #[.int .i64 kd, .string nm, .int .i64 sc] 37)) #[.int .i64 pa, .slice (some ⟨W.heap.size, 0, none⟩) 1 1] 156 2 rfl
    rw [World.size_alloc] at h
    exact h
  items := fun i s u h1 h2 => by
    cases i with
    | zero =>
      simp only [List.getElem?_cons_zero, Option.some.injEq] at h1 h2
      subst h1 h2
      exact (owns_one W #[.int .i64 kd, .string nm, .int .i64 sc] 37 3 rfl).alloc _
    | succ n => simp at h1
theorem bad_lit {pa sc : Int} {kd : Nat} {nm : ByteArray} (h1 : pa ∈ [(-1 : Int), 0, 5, 9]) (h2 : (1 : Int) ≤ 5 → (kd : Int) < 5) (h3 : nm ∈ [(⟨#[120]⟩ : ByteArray), ⟨#[]⟩, ⟨#[88]⟩, ⟨#[120, 121]⟩]) (h4 : sc ∈ [(-1 : Int), 0, 1]) : Lit1 10 [⟨pa, [⟨(kd : Int), nm, sc⟩]⟩] := by
  have h2' := h2 (by omega)
  simp only [List.mem_cons, List.not_mem_nil, or_false] at h1 h3 h4
  refine ⟨by simp, fun s hs => ?_, fun s hs => ?_, fun s hs x hx => ?_⟩
  · rw [List.mem_singleton] at hs; subst hs; simp
  · rw [List.mem_singleton] at hs; subst hs
    refine ⟨show I64 pa from by unfold I64; omega, fun x hx => ?_⟩
    rw [List.mem_singleton] at hx; subst hx
    exact ⟨show I64 (kd : Int) from by unfold I64; omega, show I64 sc from by unfold I64; omega⟩
  · rw [List.mem_singleton] at hs; subst hs
    rw [List.mem_singleton] at hx; subst hx
    show nm.size ≤ 10
    rcases h3 with rfl | rfl | rfl | rfl <;> exact (by decide)
/-- What l1Bad and l1Some leave. -/
def Bad1 (w : World) (r : Nat) (oa : Option Addr) (len cap p n : Nat) (e : Ending) (w' : World) : Prop := ∃ ss v hs, e = .returned (.agg #[v]) ∧ HeldGr w' w.heap.size v ss hs ∧ Lit1 210 ss ∧ RdAt w w' r oa len cap (p + n)
set_option maxRecDepth 100000 in
set_option maxHeartbeats 16000000 in
theorem bad_any {w : World} {r : Nat} {oa : Option Addr} {len cap p B : Nat} (h : Rd w r oa len cap p) (hp : p ≤ 800000) {ov : Option Addr} {cv : Nat} {ss : List Sc} {hs : List Value} (hg : HeldGr w B (.slice ov ss.length cv) ss hs) (hl : Lit1 101 ss) :
    Calls Tryz.prog 86 #[.pointer (some ⟨r, 0, none⟩), .agg #[.slice ov ss.length cv]] w (Bad1 w r oa len cap p 10) := by
  have hb0 := ((Below.refl w.heap.size w).alloc (Nat.le_refl _) (.cells #[.slice ov ss.length cv] 33)).alloc (by simp) (.cells #[.slice none 0 0] 33)
  have hb1 := hb0.alloc (by simp; omega) (.cells #[] 156)
  have hE := HeldGr.empty ((w.alloc (.cells #[.slice ov ss.length cv] 33)).alloc (.cells #[.slice none 0 0] 33)) w.heap.size (by simp; omega)
  have hsl := hl.count
  have t3 := (((Row.new w [.slice ov ss.length cv] 33).alloc (.cells #[.slice none 0 0] 33)).alloc (.cells #[] 156)).cell (i := 0) (v := .slice ov ss.length cv) (by rfl)
  have t4 := (Row.new (w.alloc (.cells #[.slice ov ss.length cv] 33)) [.slice none 0 0] 33).alloc (.cells #[] 156)
  rw [World.size_alloc] at t4
  obtain ⟨v1, w1, hrun, hg1, hgrow⟩ := append_scopes hE (hg.below hb1) (by simp; omega) (by simp; omega) 31
  simp only [List.nil_append] at hg1
  obtain ⟨o1, c1, rfl, -⟩ := hg1.holds
  have hbw1 : Below w.heap.size w w1 := hb1.trans (below_row hE.row (Nat.le_refl _) hgrow (by simp; omega))
  have hs1 : w.heap.size + 1 < w1.heap.size := by have := hgrow.size; simp at this; omega
  have h41 := t4.grown hgrow (own_row_ne t4 hE.row (by decide))
  have hba := (Below.refl w1.heap.size w1).alloc (Nat.le_refl _) (.cells #[.slice o1 ss.length c1] 33)
  have HB1 : Hid (BadAt w (w1.alloc (.cells #[.slice o1 ss.length c1] 33)) r oa len cap p w1.heap.size (.slice o1 ss.length c1) ss hs) := Lib.hid
    ⟨((RdAt.start h (Nat.le_refl p) (by omega)).far hbw1).step hba, h41.alloc _, Row.new w1 _ _, by omega, by omega, hg1.below hba⟩
  have HRUN := Lib.hid hrun
  obtain ⟨p1, hp1, hrd1⟩ := HB1.out.rd.rd
  have C := Lib.hid (pick_any hrd1 (by omega) 30 (by omega))
  have HL := Lib.hid hl
  clear h hg hl hb0 hb1 hE t4 hrun hg1 hgrow hbw1 hs1 h41 hba hrd1
  simp only [World.size_alloc] at HRUN
  go_enter Tryz.func86, Tryz.ntmps86
  go_wp2_with (at_builtin; refine wpList_append_run rfl _ _ 31 rfl HRUN.out ?_)
  clear t3
  go_wp2_with fail
  refine C.out.mono ?_
  rintro e w2 ⟨z, rfl, -, hz, hr2⟩
  have HB2 := Lib.hid (HB1.out.asked hp1 hr2 (by omega))
  have t5 := HB2.out.t5.cell (i := 0) (v := .slice o1 ss.length c1) (by rfl)
  clear hr2 hz
  by_cases hz0 : z = 0
  · have hq0 : (((z : Nat) : Int) == 0) = true := by simp; omega
    clear hz0
    go_upto_region 4 with (fail)
    clear hq0 t5
    refine wp_region_kept (S := fun w' => w'.cell? ⟨w1.heap.size, 0, none⟩ = some (.slice o1 ss.length c1)) 19 (by kernel_rfl) ?_
    have HI0 := Lib.hid (HB2.out.step ((Below.refl w2.heap.size w2).drew))
    have hS0 := HI0.out.t5.cell (i := 0) (v := .slice o1 ss.length c1) (by rfl)
    refine KeptAny.take (i := 0) (v := ?_) (by kernel_rfl) rfl rfl (by kernel_rfl) (by kernel_rfl) (by kernel_rfl) (fun _ _ _ h => h) (by rfl) (fun w' hw' => ?_) (fun _ => rfl) hS0 ?_
    rotate_left
    · (go_simp; try with_reducible rfl)
    refine KeptAny.take (i := 1) (v := ?_) (by kernel_rfl) rfl rfl (by kernel_rfl) (by kernel_rfl) (by kernel_rfl) (fun _ _ _ h => h) (by rfl) (fun w' hw' => ?_) (fun _ => rfl) hS0 ?_
    rotate_left
    · (go_simp; try with_reducible rfl)
    refine KeptAny.take (i := 2) (v := ?_) (by kernel_rfl) rfl rfl (by kernel_rfl) (by kernel_rfl) (by kernel_rfl) (fun _ _ _ h => h) (by rfl) (fun w' hw' => ?_) (fun _ => rfl) hS0 ?_
    rotate_left
    · (go_simp; try with_reducible rfl)
    refine KeptAny.take (i := 5) (v := ?_) (by kernel_rfl) rfl rfl (by kernel_rfl) (by kernel_rfl) (by kernel_rfl) (fun _ _ _ h => h) (by rfl) (fun w' hw' => ?_) (fun _ => rfl) hS0 ?_
    rotate_left
    · (go_simp; try with_reducible rfl)
    refine KeptAny.take (i := 7) (v := ?_) (by kernel_rfl) rfl rfl (by kernel_rfl) (by kernel_rfl) (by kernel_rfl) (fun _ _ _ h => h) (by rfl) (fun w' hw' => ?_) (fun _ => rfl) hS0 ?_
    rotate_left
    · (go_simp; try with_reducible rfl)
    refine KeptAny.take (i := 10) (v := ?_) (by kernel_rfl) rfl rfl (by kernel_rfl) (by kernel_rfl) (by kernel_rfl) (fun _ _ _ h => h) (by rfl) (fun w' hw' => ?_) (fun _ => rfl) hS0 ?_
    rotate_left
    · (go_simp; try with_reducible rfl)
    clear hS0
    refine KeptAny.three (i := 3) (j := 8) (m := 11) (by kernel_rfl) ⟨_, rfl, by rfl, fun K hK => ?_⟩ ⟨_, rfl, by rfl, fun K hK => ?_⟩ ⟨_, rfl, by rfl, fun K hK => ?_⟩
    · go_simp
      have HI1 := Lib.hid (HI0.out.step ((Below.refl _ _).alloc (Nat.le_refl _) (.cells #[.int .i64 (-1), .int .i64 0, .int .i64 5, .int .i64 9] 3)))
      have RA1 := Lib.hid (Row.new w2.drew [.int .i64 (-1), .int .i64 0, .int .i64 5, .int .i64 9] 3)
      refine hK.out _ _ (HI1.out.t5.cell (i := 0) (v := .slice o1 ss.length c1) (by rfl)) (fun _ => ?_)
      clear hK
      refine KeptAny.three (i := 4) (j := 8) (m := 11) (by kernel_rfl) ⟨_, rfl, by rfl, fun K hK => ?_⟩ ⟨_, rfl, by rfl, fun K hK => ?_⟩ ⟨_, rfl, by rfl, fun K hK => ?_⟩
      · go_simp
        refine ⟨trivial, ?_⟩
        obtain ⟨q2, hq2, hrd2⟩ := HI1.out.rd.rd
        have hbr := RA1.out.neq (HI1.out.rd.now.choose_spec.2) (by decide)
        have hC := (callsIn_wide (n := 5)).2 (num_row hrd2 (by omega) (xs := [-1, 0, 5, 9]) RA1.out hbr (by decide) (by decide))
        refine hC.mono ?_
        clear hC hrd2 hbr
        rintro e w12 ⟨pa, hpa, rfl, hr2⟩
        have HI2 := Lib.hid (HI1.out.asked hq2 hr2 (by omega))
        have HPA := Lib.hid hpa
        clear hr2 hpa
        refine hK.out _ _ (HI2.out.t5.cell (i := 0) (v := .slice o1 ss.length c1) (by rfl)) (fun _ => ?_)
        clear hK
        refine KeptAny.three (i := 6) (j := 8) (m := 11) (by kernel_rfl) ⟨_, rfl, by rfl, fun K hK => ?_⟩ ⟨_, rfl, by rfl, fun K hK => ?_⟩ ⟨_, rfl, by rfl, fun K hK => ?_⟩
        · go_simp
          refine ⟨trivial, ?_⟩
          obtain ⟨q3, hq3, hrd3⟩ := HI2.out.rd.rd
          have hC := (callsIn_wide (n := 5)).2 (pick_any hrd3 (by omega) 5 (by omega))
          refine hC.mono ?_
          clear hC hrd3
          rintro e w13 ⟨kd, rfl, -, hkd, hr3⟩
          have HI3 := Lib.hid (HI2.out.asked hq3 hr3 (by omega))
          have HKD := Lib.hid hkd
          clear hr3 hkd
          refine hK.out _ _ (HI3.out.t5.cell (i := 0) (v := .slice o1 ss.length c1) (by rfl)) (fun _ => ?_)
          clear hK
          refine KeptAny.two (i := 8) (j := 11) (by kernel_rfl) ⟨_, rfl, by rfl, fun K hK => ?_⟩ ⟨_, rfl, by rfl, fun K hK => ?_⟩
          · go_simp
            have HI4 := Lib.hid (HI3.out.step ((Below.refl _ _).alloc (Nat.le_refl _) (.cells #[.string ⟨#[120]⟩, .string ⟨#[]⟩, .string ⟨#[88]⟩, .string ⟨#[120, 121]⟩] 9)))
            have RB4 := Lib.hid (Row.new w13 [.string ⟨#[120]⟩, .string ⟨#[]⟩, .string ⟨#[88]⟩, .string ⟨#[120, 121]⟩] 9)
            refine hK.out _ _ (HI4.out.t5.cell (i := 0) (v := .slice o1 ss.length c1) (by rfl)) (fun _ => ?_)
            clear hK
            refine KeptAny.two (i := 9) (j := 11) (by kernel_rfl) ⟨_, rfl, by rfl, fun K hK => ?_⟩ ⟨_, rfl, by rfl, fun K hK => ?_⟩
            · go_simp
              refine ⟨trivial, ?_⟩
              obtain ⟨q5, hq5, hrd5⟩ := HI4.out.rd.rd
              have hbr := RB4.out.neq (HI4.out.rd.now.choose_spec.2) (by decide)
              have hC := (callsIn_wide (n := 5)).2 (of_row hrd5 (by omega) (xs := [⟨#[120]⟩, ⟨#[]⟩, ⟨#[88]⟩, ⟨#[120, 121]⟩]) RB4.out hbr (by decide) (by decide))
              refine hC.mono ?_
              clear hC hrd5 hbr
              rintro e w15 ⟨nm, hnm, rfl, hr5⟩
              have HI5 := Lib.hid (HI4.out.asked hq5 hr5 (by omega))
              have HNM := Lib.hid hnm
              clear hr5 hnm
              refine hK.out _ _ (HI5.out.t5.cell (i := 0) (v := .slice o1 ss.length c1) (by rfl)) (fun _ => ?_)
              clear hK
              refine KeptAny.one (i := 11) (by kernel_rfl) rfl (by rfl) (fun K hK => ?_)
              go_simp
              have HI6 := Lib.hid (HI5.out.step ((Below.refl _ _).alloc (Nat.le_refl _) (.cells #[.int .i64 (-1), .int .i64 0, .int .i64 1] 3)))
              have RC6 := Lib.hid (Row.new w15 [.int .i64 (-1), .int .i64 0, .int .i64 1] 3)
              refine hK.out _ _ (HI6.out.t5.cell (i := 0) (v := .slice o1 ss.length c1) (by rfl)) (fun _ => ?_)
              clear hK
              refine KeptAny.one (i := 12) (by kernel_rfl) rfl (by rfl) (fun K hK => ?_)
              go_simp
              refine ⟨trivial, ?_⟩
              obtain ⟨q7, hq7, hrd7⟩ := HI6.out.rd.rd
              have hbr := RC6.out.neq (HI6.out.rd.now.choose_spec.2) (by decide)
              have hC := (callsIn_wide (n := 5)).2 (num_row hrd7 (by omega) (xs := [-1, 0, 1]) RC6.out hbr (by decide) (by decide))
              refine hC.mono ?_
              clear hC hrd7 hbr
              rintro e w17 ⟨sc, hsc, rfl, hr7⟩
              have HI7 := Lib.hid (HI6.out.asked hq7 hr7 (by omega))
              have HSC := Lib.hid hsc
              clear hr7 hsc
              refine hK.out _ _ (HI7.out.t5.cell (i := 0) (v := .slice o1 ss.length c1) (by rfl)) (fun _ => ?_)
              clear hK
              refine KeptAny.one (i := 13) (by kernel_rfl) rfl (by rfl) (fun K hK => ?_)
              go_simp
              refine hK.out _ _ (HI7.out.t5.cell (i := 0) (v := .slice o1 ss.length c1) (by rfl)) (fun _ => ?_)
              clear hK
              refine KeptAny.one (i := 14) (by kernel_rfl) rfl (by rfl) (fun K hK => ?_)
              go_simp
              have HJ1 := Lib.hid (HI7.out.step ((Below.refl _ _).alloc (Nat.le_refl _) (.cells #[.int .i64 (kd : Int), .string nm, .int .i64 sc] 37)))
              refine hK.out _ _ (HJ1.out.t5.cell (i := 0) (v := .slice o1 ss.length c1) (by rfl)) (fun _ => ?_)
              clear hK
              refine KeptAny.one (i := 15) (by kernel_rfl) rfl (by rfl) (fun K hK => ?_)
              go_simp
              refine hK.out _ _ (HJ1.out.t5.cell (i := 0) (v := .slice o1 ss.length c1) (by rfl)) (fun _ => ?_)
              clear hK
              refine KeptAny.one (i := 16) (by kernel_rfl) rfl (by rfl) (fun K hK => ?_)
              go_simp
              have HJ2 := Lib.hid (HJ1.out.step ((Below.refl _ _).alloc (Nat.le_refl _) (.cells #[.int .i64 pa, .slice (some ⟨w17.heap.size, 0, none⟩) 1 1] 156)))
              refine hK.out _ _ (HJ2.out.t5.cell (i := 0) (v := .slice o1 ss.length c1) (by rfl)) (fun _ => ?_)
              clear hK
              have hone := HeldGr.single w17 pa (kd : Int) sc nm
              obtain ⟨v4, w4, hrun4, hg4, hgrow4⟩ := append_scopes HJ2.out.gr hone (by simp; omega) HJ2.out.rd.turns.size 31
              have hb4 : Below w.heap.size _ w4 := below_row HJ2.out.gr.row (Nat.le_refl _) hgrow4 HJ2.out.rd.turns.size
              have h44 := HJ2.out.t4.grown hgrow4 (own_row_ne HJ2.out.t4 HJ2.out.gr.row (by decide))
              have h54 := HJ2.out.t5.grown hgrow4 (own_row_ne HJ2.out.t5 HJ2.out.gr.row (by decide))
              have hLT : Lit1 210 (ss ++ [⟨pa, [⟨(kd : Int), nm, sc⟩]⟩]) := (HL.out.append (bad_lit HPA.out HKD.out HNM.out HSC.out)).mono (by omega)
              obtain ⟨tt, htt⟩ : ∃ tt, ss ++ [(⟨pa, [⟨(kd : Int), nm, sc⟩]⟩ : Sc)] = tt := ⟨_, rfl⟩
              rw [htt] at hg4 hLT
              obtain ⟨ks, hks⟩ : ∃ ks, hs ++ [Value.slice (some ⟨w17.heap.size, 0, none⟩) 1 1] = ks := ⟨_, rfl⟩
              rw [hks] at hg4
              obtain ⟨o4, c4, rfl, -⟩ := hg4.holds
              have HLT := Lib.hid hLT
              have f54 := h54.frozen 0
              have HZ9 : Hid (BadAt w (w4.setCell ⟨w1.heap.size, 0, none⟩ (.slice o4 tt.length c4)) r oa len cap (p + 1 + 1 + 1 + 1 + 1) w1.heap.size (.slice o4 tt.length c4) tt ks) := Lib.hid
                ⟨(HJ2.out.rd.far hb4).far ((Below.refl _ _).setCell (p := ⟨w1.heap.size, 0, none⟩) HJ2.out.low _), h44.other (by have := HJ2.out.ne; omega) _, h54.set 0 _, HJ2.out.low, HJ2.out.ne, hg4.other h54 (by decide) (by decide) 0 _⟩
              have s4 := h54.cell (i := 0) (v := .slice o1 ss.length c1) (by rfl)
              simp [go_sem] at hrun4
              clear hg4 hgrow4 hb4 h44 h54 hone htt hks hLT
              refine KeptAny.one (i := 17) (by kernel_rfl) rfl (by rfl) (fun K hK => ?_)
              go_simp
              refine hK.out _ _ s4 (fun _ => ?_)
              clear hK hrun4
              refine KeptAny.one (i := 18) (by kernel_rfl) rfl (by rfl) (fun K hK => ?_)
              go_simp
              refine hK.out _ _ s4 (fun _ => ?_)
              clear hK
              refine KeptAny.last (by kernel_rfl) rfl (by rfl) (fun K hK => ?_)
              go_simp
              refine hK.out _ _ ?_
              clear hK f54 s4
              refine KeptAny.done (by kernel_rfl) ?_ _
              have t5 := HZ9.out.t5.cell (i := 0) (by rfl)
              have t4 := HZ9.out.t4.cell (i := 0) (v := .slice none 0 0) (by rfl)
              have f4 := HZ9.out.t4.frozen 0
              have d4 := (HZ9.out.t4.set 0 (.slice o4 tt.length c4)).cell (i := 0) (v := .slice o4 tt.length c4) (by rfl)
              have HG9 := Lib.hid (HZ9.out.gr.other HZ9.out.t4 (by decide) (by decide) 0 (.slice o4 tt.length c4))
              have HR9 := Lib.hid ((HZ9.out.rd.far ((Below.refl _ _).setCell (p := ⟨w.heap.size + 1, 0, none⟩) (by show w.heap.size ≤ w.heap.size + 1; omega) (.slice o4 tt.length c4))).more (P' := p + 10) (by omega) (by omega))
              go_wp2
              exact bodyPost_ret (v := .agg #[.slice o4 tt.length c4]) (by simp [results, Tryz.results86, go_sem, d4]) rfl ⟨tt, _, _, rfl, HG9.out, HLT.out, HR9.out⟩
            · go_simp
              have HI5 := Lib.hid (HI4.out.step ((Below.refl _ _).alloc (Nat.le_refl _) (.cells #[.int .i64 (-1), .int .i64 0, .int .i64 1] 3)))
              have RC5 : Hid (Row ((w13.alloc (.cells #[.string ⟨#[120]⟩, .string ⟨#[]⟩, .string ⟨#[88]⟩, .string ⟨#[120, 121]⟩] 9)).alloc (.cells #[.int .i64 (-1), .int .i64 0, .int .i64 1] 3)) (w13.heap.size + 1) 3 [.int .i64 (-1), .int .i64 0, .int .i64 1]) := Lib.hid (by
                have h := Row.new (w13.alloc (.cells #[.string ⟨#[120]⟩, .string ⟨#[]⟩, .string ⟨#[88]⟩, .string ⟨#[120, 121]⟩] 9)) [.int .i64 (-1), .int .i64 0, .int .i64 1] 3
                simp only [World.size_alloc] at h
                exact h)
              have RB5 := Lib.hid (RB4.out.alloc (.cells #[.int .i64 (-1), .int .i64 0, .int .i64 1] 3))
              refine hK.out _ _ (HI5.out.t5.cell (i := 0) (v := .slice o1 ss.length c1) (by rfl)) (fun _ => ?_)
              clear hK
              refine KeptAny.one (i := 9) (by kernel_rfl) rfl (by rfl) (fun K hK => ?_)
              go_simp
              refine ⟨trivial, ?_⟩
              obtain ⟨q6, hq6, hrd6⟩ := HI5.out.rd.rd
              have hbr := RB5.out.neq (HI5.out.rd.now.choose_spec.2) (by decide)
              have hC := (callsIn_wide (n := 5)).2 (of_row hrd6 (by omega) (xs := [⟨#[120]⟩, ⟨#[]⟩, ⟨#[88]⟩, ⟨#[120, 121]⟩]) RB5.out hbr (by decide) (by decide))
              refine hC.mono ?_
              clear hC hrd6 hbr
              rintro e w16 ⟨nm, hnm, rfl, hr6⟩
              have HI6 := Lib.hid (HI5.out.asked hq6 hr6 (by omega))
              have hbr := RC5.out.neq (HI5.out.rd.now.choose_spec.2) (by decide)
              have RC6 := Lib.hid (RC5.out.asked hr6.turns hbr)
              clear hbr
              have HNM := Lib.hid hnm
              clear hr6 hnm
              refine hK.out _ _ (HI6.out.t5.cell (i := 0) (v := .slice o1 ss.length c1) (by rfl)) (fun _ => ?_)
              clear hK
              refine KeptAny.one (i := 12) (by kernel_rfl) rfl (by rfl) (fun K hK => ?_)
              go_simp
              refine ⟨trivial, ?_⟩
              obtain ⟨q7, hq7, hrd7⟩ := HI6.out.rd.rd
              have hbr := RC6.out.neq (HI6.out.rd.now.choose_spec.2) (by decide)
              have hC := (callsIn_wide (n := 5)).2 (num_row hrd7 (by omega) (xs := [-1, 0, 1]) RC6.out hbr (by decide) (by decide))
              refine hC.mono ?_
              clear hC hrd7 hbr
              rintro e w17 ⟨sc, hsc, rfl, hr7⟩
              have HI7 := Lib.hid (HI6.out.asked hq7 hr7 (by omega))
              have HSC := Lib.hid hsc
              clear hr7 hsc
              refine hK.out _ _ (HI7.out.t5.cell (i := 0) (v := .slice o1 ss.length c1) (by rfl)) (fun _ => ?_)
              clear hK
              refine KeptAny.one (i := 13) (by kernel_rfl) rfl (by rfl) (fun K hK => ?_)
              go_simp
              refine hK.out _ _ (HI7.out.t5.cell (i := 0) (v := .slice o1 ss.length c1) (by rfl)) (fun _ => ?_)
              clear hK
              refine KeptAny.one (i := 14) (by kernel_rfl) rfl (by rfl) (fun K hK => ?_)
              go_simp
              have HJ1 := Lib.hid (HI7.out.step ((Below.refl _ _).alloc (Nat.le_refl _) (.cells #[.int .i64 (kd : Int), .string nm, .int .i64 sc] 37)))
              refine hK.out _ _ (HJ1.out.t5.cell (i := 0) (v := .slice o1 ss.length c1) (by rfl)) (fun _ => ?_)
              clear hK
              refine KeptAny.one (i := 15) (by kernel_rfl) rfl (by rfl) (fun K hK => ?_)
              go_simp
              refine hK.out _ _ (HJ1.out.t5.cell (i := 0) (v := .slice o1 ss.length c1) (by rfl)) (fun _ => ?_)
              clear hK
              refine KeptAny.one (i := 16) (by kernel_rfl) rfl (by rfl) (fun K hK => ?_)
              go_simp
              have HJ2 := Lib.hid (HJ1.out.step ((Below.refl _ _).alloc (Nat.le_refl _) (.cells #[.int .i64 pa, .slice (some ⟨w17.heap.size, 0, none⟩) 1 1] 156)))
              refine hK.out _ _ (HJ2.out.t5.cell (i := 0) (v := .slice o1 ss.length c1) (by rfl)) (fun _ => ?_)
              clear hK
              have hone := HeldGr.single w17 pa (kd : Int) sc nm
              obtain ⟨v4, w4, hrun4, hg4, hgrow4⟩ := append_scopes HJ2.out.gr hone (by simp; omega) HJ2.out.rd.turns.size 31
              have hb4 : Below w.heap.size _ w4 := below_row HJ2.out.gr.row (Nat.le_refl _) hgrow4 HJ2.out.rd.turns.size
              have h44 := HJ2.out.t4.grown hgrow4 (own_row_ne HJ2.out.t4 HJ2.out.gr.row (by decide))
              have h54 := HJ2.out.t5.grown hgrow4 (own_row_ne HJ2.out.t5 HJ2.out.gr.row (by decide))
              have hLT : Lit1 210 (ss ++ [⟨pa, [⟨(kd : Int), nm, sc⟩]⟩]) := (HL.out.append (bad_lit HPA.out HKD.out HNM.out HSC.out)).mono (by omega)
              obtain ⟨tt, htt⟩ : ∃ tt, ss ++ [(⟨pa, [⟨(kd : Int), nm, sc⟩]⟩ : Sc)] = tt := ⟨_, rfl⟩
              rw [htt] at hg4 hLT
              obtain ⟨ks, hks⟩ : ∃ ks, hs ++ [Value.slice (some ⟨w17.heap.size, 0, none⟩) 1 1] = ks := ⟨_, rfl⟩
              rw [hks] at hg4
              obtain ⟨o4, c4, rfl, -⟩ := hg4.holds
              have HLT := Lib.hid hLT
              have f54 := h54.frozen 0
              have HZ9 : Hid (BadAt w (w4.setCell ⟨w1.heap.size, 0, none⟩ (.slice o4 tt.length c4)) r oa len cap (p + 1 + 1 + 1 + 1 + 1) w1.heap.size (.slice o4 tt.length c4) tt ks) := Lib.hid
                ⟨(HJ2.out.rd.far hb4).far ((Below.refl _ _).setCell (p := ⟨w1.heap.size, 0, none⟩) HJ2.out.low _), h44.other (by have := HJ2.out.ne; omega) _, h54.set 0 _, HJ2.out.low, HJ2.out.ne, hg4.other h54 (by decide) (by decide) 0 _⟩
              have s4 := h54.cell (i := 0) (v := .slice o1 ss.length c1) (by rfl)
              simp [go_sem] at hrun4
              clear hg4 hgrow4 hb4 h44 h54 hone htt hks hLT
              refine KeptAny.one (i := 17) (by kernel_rfl) rfl (by rfl) (fun K hK => ?_)
              go_simp
              refine hK.out _ _ s4 (fun _ => ?_)
              clear hK hrun4
              refine KeptAny.one (i := 18) (by kernel_rfl) rfl (by rfl) (fun K hK => ?_)
              go_simp
              refine hK.out _ _ s4 (fun _ => ?_)
              clear hK
              refine KeptAny.last (by kernel_rfl) rfl (by rfl) (fun K hK => ?_)
              go_simp
              refine hK.out _ _ ?_
              clear hK f54 s4
              refine KeptAny.done (by kernel_rfl) ?_ _
              have t5 := HZ9.out.t5.cell (i := 0) (by rfl)
              have t4 := HZ9.out.t4.cell (i := 0) (v := .slice none 0 0) (by rfl)
              have f4 := HZ9.out.t4.frozen 0
              have d4 := (HZ9.out.t4.set 0 (.slice o4 tt.length c4)).cell (i := 0) (v := .slice o4 tt.length c4) (by rfl)
              have HG9 := Lib.hid (HZ9.out.gr.other HZ9.out.t4 (by decide) (by decide) 0 (.slice o4 tt.length c4))
              have HR9 := Lib.hid ((HZ9.out.rd.far ((Below.refl _ _).setCell (p := ⟨w.heap.size + 1, 0, none⟩) (by show w.heap.size ≤ w.heap.size + 1; omega) (.slice o4 tt.length c4))).more (P' := p + 10) (by omega) (by omega))
              go_wp2
              exact bodyPost_ret (v := .agg #[.slice o4 tt.length c4]) (by simp [results, Tryz.results86, go_sem, d4]) rfl ⟨tt, _, _, rfl, HG9.out, HLT.out, HR9.out⟩
          · go_simp
            have HI4 := Lib.hid (HI3.out.step ((Below.refl _ _).alloc (Nat.le_refl _) (.cells #[.int .i64 (-1), .int .i64 0, .int .i64 1] 3)))
            have RC4 := Lib.hid (Row.new w13 [.int .i64 (-1), .int .i64 0, .int .i64 1] 3)
            refine hK.out _ _ (HI4.out.t5.cell (i := 0) (v := .slice o1 ss.length c1) (by rfl)) (fun _ => ?_)
            clear hK
            refine KeptAny.one (i := 8) (by kernel_rfl) rfl (by rfl) (fun K hK => ?_)
            go_simp
            have HI5 := Lib.hid (HI4.out.step ((Below.refl _ _).alloc (Nat.le_refl _) (.cells #[.string ⟨#[120]⟩, .string ⟨#[]⟩, .string ⟨#[88]⟩, .string ⟨#[120, 121]⟩] 9)))
            have RB5 : Hid (Row ((w13.alloc (.cells #[.int .i64 (-1), .int .i64 0, .int .i64 1] 3)).alloc (.cells #[.string ⟨#[120]⟩, .string ⟨#[]⟩, .string ⟨#[88]⟩, .string ⟨#[120, 121]⟩] 9)) (w13.heap.size + 1) 9 [.string ⟨#[120]⟩, .string ⟨#[]⟩, .string ⟨#[88]⟩, .string ⟨#[120, 121]⟩]) := Lib.hid (by
              have h := Row.new (w13.alloc (.cells #[.int .i64 (-1), .int .i64 0, .int .i64 1] 3)) [.string ⟨#[120]⟩, .string ⟨#[]⟩, .string ⟨#[88]⟩, .string ⟨#[120, 121]⟩] 9
              simp only [World.size_alloc] at h
              exact h)
            have RC5 := Lib.hid (RC4.out.alloc (.cells #[.string ⟨#[120]⟩, .string ⟨#[]⟩, .string ⟨#[88]⟩, .string ⟨#[120, 121]⟩] 9))
            refine hK.out _ _ (HI5.out.t5.cell (i := 0) (v := .slice o1 ss.length c1) (by rfl)) (fun _ => ?_)
            clear hK
            refine KeptAny.one (i := 9) (by kernel_rfl) rfl (by rfl) (fun K hK => ?_)
            go_simp
            refine ⟨trivial, ?_⟩
            obtain ⟨q6, hq6, hrd6⟩ := HI5.out.rd.rd
            have hbr := RB5.out.neq (HI5.out.rd.now.choose_spec.2) (by decide)
            have hC := (callsIn_wide (n := 5)).2 (of_row hrd6 (by omega) (xs := [⟨#[120]⟩, ⟨#[]⟩, ⟨#[88]⟩, ⟨#[120, 121]⟩]) RB5.out hbr (by decide) (by decide))
            refine hC.mono ?_
            clear hC hrd6 hbr
            rintro e w16 ⟨nm, hnm, rfl, hr6⟩
            have HI6 := Lib.hid (HI5.out.asked hq6 hr6 (by omega))
            have hbr := RC5.out.neq (HI5.out.rd.now.choose_spec.2) (by decide)
            have RC6 := Lib.hid (RC5.out.asked hr6.turns hbr)
            clear hbr
            have HNM := Lib.hid hnm
            clear hr6 hnm
            refine hK.out _ _ (HI6.out.t5.cell (i := 0) (v := .slice o1 ss.length c1) (by rfl)) (fun _ => ?_)
            clear hK
            refine KeptAny.one (i := 12) (by kernel_rfl) rfl (by rfl) (fun K hK => ?_)
            go_simp
            refine ⟨trivial, ?_⟩
            obtain ⟨q7, hq7, hrd7⟩ := HI6.out.rd.rd
            have hbr := RC6.out.neq (HI6.out.rd.now.choose_spec.2) (by decide)
            have hC := (callsIn_wide (n := 5)).2 (num_row hrd7 (by omega) (xs := [-1, 0, 1]) RC6.out hbr (by decide) (by decide))
            refine hC.mono ?_
            clear hC hrd7 hbr
            rintro e w17 ⟨sc, hsc, rfl, hr7⟩
            have HI7 := Lib.hid (HI6.out.asked hq7 hr7 (by omega))
            have HSC := Lib.hid hsc
            clear hr7 hsc
            refine hK.out _ _ (HI7.out.t5.cell (i := 0) (v := .slice o1 ss.length c1) (by rfl)) (fun _ => ?_)
            clear hK
            refine KeptAny.one (i := 13) (by kernel_rfl) rfl (by rfl) (fun K hK => ?_)
            go_simp
            refine hK.out _ _ (HI7.out.t5.cell (i := 0) (v := .slice o1 ss.length c1) (by rfl)) (fun _ => ?_)
            clear hK
            refine KeptAny.one (i := 14) (by kernel_rfl) rfl (by rfl) (fun K hK => ?_)
            go_simp
            have HJ1 := Lib.hid (HI7.out.step ((Below.refl _ _).alloc (Nat.le_refl _) (.cells #[.int .i64 (kd : Int), .string nm, .int .i64 sc] 37)))
            refine hK.out _ _ (HJ1.out.t5.cell (i := 0) (v := .slice o1 ss.length c1) (by rfl)) (fun _ => ?_)
            clear hK
            refine KeptAny.one (i := 15) (by kernel_rfl) rfl (by rfl) (fun K hK => ?_)
            go_simp
            refine hK.out _ _ (HJ1.out.t5.cell (i := 0) (v := .slice o1 ss.length c1) (by rfl)) (fun _ => ?_)
            clear hK
            refine KeptAny.one (i := 16) (by kernel_rfl) rfl (by rfl) (fun K hK => ?_)
            go_simp
            have HJ2 := Lib.hid (HJ1.out.step ((Below.refl _ _).alloc (Nat.le_refl _) (.cells #[.int .i64 pa, .slice (some ⟨w17.heap.size, 0, none⟩) 1 1] 156)))
            refine hK.out _ _ (HJ2.out.t5.cell (i := 0) (v := .slice o1 ss.length c1) (by rfl)) (fun _ => ?_)
            clear hK
            have hone := HeldGr.single w17 pa (kd : Int) sc nm
            obtain ⟨v4, w4, hrun4, hg4, hgrow4⟩ := append_scopes HJ2.out.gr hone (by simp; omega) HJ2.out.rd.turns.size 31
            have hb4 : Below w.heap.size _ w4 := below_row HJ2.out.gr.row (Nat.le_refl _) hgrow4 HJ2.out.rd.turns.size
            have h44 := HJ2.out.t4.grown hgrow4 (own_row_ne HJ2.out.t4 HJ2.out.gr.row (by decide))
            have h54 := HJ2.out.t5.grown hgrow4 (own_row_ne HJ2.out.t5 HJ2.out.gr.row (by decide))
            have hLT : Lit1 210 (ss ++ [⟨pa, [⟨(kd : Int), nm, sc⟩]⟩]) := (HL.out.append (bad_lit HPA.out HKD.out HNM.out HSC.out)).mono (by omega)
            obtain ⟨tt, htt⟩ : ∃ tt, ss ++ [(⟨pa, [⟨(kd : Int), nm, sc⟩]⟩ : Sc)] = tt := ⟨_, rfl⟩
            rw [htt] at hg4 hLT
            obtain ⟨ks, hks⟩ : ∃ ks, hs ++ [Value.slice (some ⟨w17.heap.size, 0, none⟩) 1 1] = ks := ⟨_, rfl⟩
            rw [hks] at hg4
            obtain ⟨o4, c4, rfl, -⟩ := hg4.holds
            have HLT := Lib.hid hLT
            have f54 := h54.frozen 0
            have HZ9 : Hid (BadAt w (w4.setCell ⟨w1.heap.size, 0, none⟩ (.slice o4 tt.length c4)) r oa len cap (p + 1 + 1 + 1 + 1 + 1) w1.heap.size (.slice o4 tt.length c4) tt ks) := Lib.hid
              ⟨(HJ2.out.rd.far hb4).far ((Below.refl _ _).setCell (p := ⟨w1.heap.size, 0, none⟩) HJ2.out.low _), h44.other (by have := HJ2.out.ne; omega) _, h54.set 0 _, HJ2.out.low, HJ2.out.ne, hg4.other h54 (by decide) (by decide) 0 _⟩
            have s4 := h54.cell (i := 0) (v := .slice o1 ss.length c1) (by rfl)
            simp [go_sem] at hrun4
            clear hg4 hgrow4 hb4 h44 h54 hone htt hks hLT
            refine KeptAny.one (i := 17) (by kernel_rfl) rfl (by rfl) (fun K hK => ?_)
            go_simp
            refine hK.out _ _ s4 (fun _ => ?_)
            clear hK hrun4
            refine KeptAny.one (i := 18) (by kernel_rfl) rfl (by rfl) (fun K hK => ?_)
            go_simp
            refine hK.out _ _ s4 (fun _ => ?_)
            clear hK
            refine KeptAny.last (by kernel_rfl) rfl (by rfl) (fun K hK => ?_)
            go_simp
            refine hK.out _ _ ?_
            clear hK f54 s4
            refine KeptAny.done (by kernel_rfl) ?_ _
            have t5 := HZ9.out.t5.cell (i := 0) (by rfl)
            have t4 := HZ9.out.t4.cell (i := 0) (v := .slice none 0 0) (by rfl)
            have f4 := HZ9.out.t4.frozen 0
            have d4 := (HZ9.out.t4.set 0 (.slice o4 tt.length c4)).cell (i := 0) (v := .slice o4 tt.length c4) (by rfl)
            have HG9 := Lib.hid (HZ9.out.gr.other HZ9.out.t4 (by decide) (by decide) 0 (.slice o4 tt.length c4))
            have HR9 := Lib.hid ((HZ9.out.rd.far ((Below.refl _ _).setCell (p := ⟨w.heap.size + 1, 0, none⟩) (by show w.heap.size ≤ w.heap.size + 1; omega) (.slice o4 tt.length c4))).more (P' := p + 10) (by omega) (by omega))
            go_wp2
            exact bodyPost_ret (v := .agg #[.slice o4 tt.length c4]) (by simp [results, Tryz.results86, go_sem, d4]) rfl ⟨tt, _, _, rfl, HG9.out, HLT.out, HR9.out⟩
        · go_simp
          have HI3 := Lib.hid (HI2.out.step ((Below.refl _ _).alloc (Nat.le_refl _) (.cells #[.string ⟨#[120]⟩, .string ⟨#[]⟩, .string ⟨#[88]⟩, .string ⟨#[120, 121]⟩] 9)))
          have RB3 := Lib.hid (Row.new w12 [.string ⟨#[120]⟩, .string ⟨#[]⟩, .string ⟨#[88]⟩, .string ⟨#[120, 121]⟩] 9)
          refine hK.out _ _ (HI3.out.t5.cell (i := 0) (v := .slice o1 ss.length c1) (by rfl)) (fun _ => ?_)
          clear hK
          refine KeptAny.two (i := 6) (j := 11) (by kernel_rfl) ⟨_, rfl, by rfl, fun K hK => ?_⟩ ⟨_, rfl, by rfl, fun K hK => ?_⟩
          · go_simp
            refine ⟨trivial, ?_⟩
            obtain ⟨q4, hq4, hrd4⟩ := HI3.out.rd.rd
            have hC := (callsIn_wide (n := 5)).2 (pick_any hrd4 (by omega) 5 (by omega))
            refine hC.mono ?_
            clear hC hrd4
            rintro e w14 ⟨kd, rfl, -, hkd, hr4⟩
            have HI4 := Lib.hid (HI3.out.asked hq4 hr4 (by omega))
            have hbr := RB3.out.neq (HI3.out.rd.now.choose_spec.2) (by decide)
            have RB4 := Lib.hid (RB3.out.asked hr4.turns hbr)
            clear hbr
            have HKD := Lib.hid hkd
            clear hr4 hkd
            refine hK.out _ _ (HI4.out.t5.cell (i := 0) (v := .slice o1 ss.length c1) (by rfl)) (fun _ => ?_)
            clear hK
            refine KeptAny.two (i := 9) (j := 11) (by kernel_rfl) ⟨_, rfl, by rfl, fun K hK => ?_⟩ ⟨_, rfl, by rfl, fun K hK => ?_⟩
            · go_simp
              refine ⟨trivial, ?_⟩
              obtain ⟨q5, hq5, hrd5⟩ := HI4.out.rd.rd
              have hbr := RB4.out.neq (HI4.out.rd.now.choose_spec.2) (by decide)
              have hC := (callsIn_wide (n := 5)).2 (of_row hrd5 (by omega) (xs := [⟨#[120]⟩, ⟨#[]⟩, ⟨#[88]⟩, ⟨#[120, 121]⟩]) RB4.out hbr (by decide) (by decide))
              refine hC.mono ?_
              clear hC hrd5 hbr
              rintro e w15 ⟨nm, hnm, rfl, hr5⟩
              have HI5 := Lib.hid (HI4.out.asked hq5 hr5 (by omega))
              have HNM := Lib.hid hnm
              clear hr5 hnm
              refine hK.out _ _ (HI5.out.t5.cell (i := 0) (v := .slice o1 ss.length c1) (by rfl)) (fun _ => ?_)
              clear hK
              refine KeptAny.one (i := 11) (by kernel_rfl) rfl (by rfl) (fun K hK => ?_)
              go_simp
              have HI6 := Lib.hid (HI5.out.step ((Below.refl _ _).alloc (Nat.le_refl _) (.cells #[.int .i64 (-1), .int .i64 0, .int .i64 1] 3)))
              have RC6 := Lib.hid (Row.new w15 [.int .i64 (-1), .int .i64 0, .int .i64 1] 3)
              refine hK.out _ _ (HI6.out.t5.cell (i := 0) (v := .slice o1 ss.length c1) (by rfl)) (fun _ => ?_)
              clear hK
              refine KeptAny.one (i := 12) (by kernel_rfl) rfl (by rfl) (fun K hK => ?_)
              go_simp
              refine ⟨trivial, ?_⟩
              obtain ⟨q7, hq7, hrd7⟩ := HI6.out.rd.rd
              have hbr := RC6.out.neq (HI6.out.rd.now.choose_spec.2) (by decide)
              have hC := (callsIn_wide (n := 5)).2 (num_row hrd7 (by omega) (xs := [-1, 0, 1]) RC6.out hbr (by decide) (by decide))
              refine hC.mono ?_
              clear hC hrd7 hbr
              rintro e w17 ⟨sc, hsc, rfl, hr7⟩
              have HI7 := Lib.hid (HI6.out.asked hq7 hr7 (by omega))
              have HSC := Lib.hid hsc
              clear hr7 hsc
              refine hK.out _ _ (HI7.out.t5.cell (i := 0) (v := .slice o1 ss.length c1) (by rfl)) (fun _ => ?_)
              clear hK
              refine KeptAny.one (i := 13) (by kernel_rfl) rfl (by rfl) (fun K hK => ?_)
              go_simp
              refine hK.out _ _ (HI7.out.t5.cell (i := 0) (v := .slice o1 ss.length c1) (by rfl)) (fun _ => ?_)
              clear hK
              refine KeptAny.one (i := 14) (by kernel_rfl) rfl (by rfl) (fun K hK => ?_)
              go_simp
              have HJ1 := Lib.hid (HI7.out.step ((Below.refl _ _).alloc (Nat.le_refl _) (.cells #[.int .i64 (kd : Int), .string nm, .int .i64 sc] 37)))
              refine hK.out _ _ (HJ1.out.t5.cell (i := 0) (v := .slice o1 ss.length c1) (by rfl)) (fun _ => ?_)
              clear hK
              refine KeptAny.one (i := 15) (by kernel_rfl) rfl (by rfl) (fun K hK => ?_)
              go_simp
              refine hK.out _ _ (HJ1.out.t5.cell (i := 0) (v := .slice o1 ss.length c1) (by rfl)) (fun _ => ?_)
              clear hK
              refine KeptAny.one (i := 16) (by kernel_rfl) rfl (by rfl) (fun K hK => ?_)
              go_simp
              have HJ2 := Lib.hid (HJ1.out.step ((Below.refl _ _).alloc (Nat.le_refl _) (.cells #[.int .i64 pa, .slice (some ⟨w17.heap.size, 0, none⟩) 1 1] 156)))
              refine hK.out _ _ (HJ2.out.t5.cell (i := 0) (v := .slice o1 ss.length c1) (by rfl)) (fun _ => ?_)
              clear hK
              have hone := HeldGr.single w17 pa (kd : Int) sc nm
              obtain ⟨v4, w4, hrun4, hg4, hgrow4⟩ := append_scopes HJ2.out.gr hone (by simp; omega) HJ2.out.rd.turns.size 31
              have hb4 : Below w.heap.size _ w4 := below_row HJ2.out.gr.row (Nat.le_refl _) hgrow4 HJ2.out.rd.turns.size
              have h44 := HJ2.out.t4.grown hgrow4 (own_row_ne HJ2.out.t4 HJ2.out.gr.row (by decide))
              have h54 := HJ2.out.t5.grown hgrow4 (own_row_ne HJ2.out.t5 HJ2.out.gr.row (by decide))
              have hLT : Lit1 210 (ss ++ [⟨pa, [⟨(kd : Int), nm, sc⟩]⟩]) := (HL.out.append (bad_lit HPA.out HKD.out HNM.out HSC.out)).mono (by omega)
              obtain ⟨tt, htt⟩ : ∃ tt, ss ++ [(⟨pa, [⟨(kd : Int), nm, sc⟩]⟩ : Sc)] = tt := ⟨_, rfl⟩
              rw [htt] at hg4 hLT
              obtain ⟨ks, hks⟩ : ∃ ks, hs ++ [Value.slice (some ⟨w17.heap.size, 0, none⟩) 1 1] = ks := ⟨_, rfl⟩
              rw [hks] at hg4
              obtain ⟨o4, c4, rfl, -⟩ := hg4.holds
              have HLT := Lib.hid hLT
              have f54 := h54.frozen 0
              have HZ9 : Hid (BadAt w (w4.setCell ⟨w1.heap.size, 0, none⟩ (.slice o4 tt.length c4)) r oa len cap (p + 1 + 1 + 1 + 1 + 1) w1.heap.size (.slice o4 tt.length c4) tt ks) := Lib.hid
                ⟨(HJ2.out.rd.far hb4).far ((Below.refl _ _).setCell (p := ⟨w1.heap.size, 0, none⟩) HJ2.out.low _), h44.other (by have := HJ2.out.ne; omega) _, h54.set 0 _, HJ2.out.low, HJ2.out.ne, hg4.other h54 (by decide) (by decide) 0 _⟩
              have s4 := h54.cell (i := 0) (v := .slice o1 ss.length c1) (by rfl)
              simp [go_sem] at hrun4
              clear hg4 hgrow4 hb4 h44 h54 hone htt hks hLT
              refine KeptAny.one (i := 17) (by kernel_rfl) rfl (by rfl) (fun K hK => ?_)
              go_simp
              refine hK.out _ _ s4 (fun _ => ?_)
              clear hK hrun4
              refine KeptAny.one (i := 18) (by kernel_rfl) rfl (by rfl) (fun K hK => ?_)
              go_simp
              refine hK.out _ _ s4 (fun _ => ?_)
              clear hK
              refine KeptAny.last (by kernel_rfl) rfl (by rfl) (fun K hK => ?_)
              go_simp
              refine hK.out _ _ ?_
              clear hK f54 s4
              refine KeptAny.done (by kernel_rfl) ?_ _
              have t5 := HZ9.out.t5.cell (i := 0) (by rfl)
              have t4 := HZ9.out.t4.cell (i := 0) (v := .slice none 0 0) (by rfl)
              have f4 := HZ9.out.t4.frozen 0
              have d4 := (HZ9.out.t4.set 0 (.slice o4 tt.length c4)).cell (i := 0) (v := .slice o4 tt.length c4) (by rfl)
              have HG9 := Lib.hid (HZ9.out.gr.other HZ9.out.t4 (by decide) (by decide) 0 (.slice o4 tt.length c4))
              have HR9 := Lib.hid ((HZ9.out.rd.far ((Below.refl _ _).setCell (p := ⟨w.heap.size + 1, 0, none⟩) (by show w.heap.size ≤ w.heap.size + 1; omega) (.slice o4 tt.length c4))).more (P' := p + 10) (by omega) (by omega))
              go_wp2
              exact bodyPost_ret (v := .agg #[.slice o4 tt.length c4]) (by simp [results, Tryz.results86, go_sem, d4]) rfl ⟨tt, _, _, rfl, HG9.out, HLT.out, HR9.out⟩
            · go_simp
              have HI5 := Lib.hid (HI4.out.step ((Below.refl _ _).alloc (Nat.le_refl _) (.cells #[.int .i64 (-1), .int .i64 0, .int .i64 1] 3)))
              have RC5 := Lib.hid (Row.new w14 [.int .i64 (-1), .int .i64 0, .int .i64 1] 3)
              have RB5 := Lib.hid (RB4.out.alloc (.cells #[.int .i64 (-1), .int .i64 0, .int .i64 1] 3))
              refine hK.out _ _ (HI5.out.t5.cell (i := 0) (v := .slice o1 ss.length c1) (by rfl)) (fun _ => ?_)
              clear hK
              refine KeptAny.one (i := 9) (by kernel_rfl) rfl (by rfl) (fun K hK => ?_)
              go_simp
              refine ⟨trivial, ?_⟩
              obtain ⟨q6, hq6, hrd6⟩ := HI5.out.rd.rd
              have hbr := RB5.out.neq (HI5.out.rd.now.choose_spec.2) (by decide)
              have hC := (callsIn_wide (n := 5)).2 (of_row hrd6 (by omega) (xs := [⟨#[120]⟩, ⟨#[]⟩, ⟨#[88]⟩, ⟨#[120, 121]⟩]) RB5.out hbr (by decide) (by decide))
              refine hC.mono ?_
              clear hC hrd6 hbr
              rintro e w16 ⟨nm, hnm, rfl, hr6⟩
              have HI6 := Lib.hid (HI5.out.asked hq6 hr6 (by omega))
              have hbr := RC5.out.neq (HI5.out.rd.now.choose_spec.2) (by decide)
              have RC6 := Lib.hid (RC5.out.asked hr6.turns hbr)
              clear hbr
              have HNM := Lib.hid hnm
              clear hr6 hnm
              refine hK.out _ _ (HI6.out.t5.cell (i := 0) (v := .slice o1 ss.length c1) (by rfl)) (fun _ => ?_)
              clear hK
              refine KeptAny.one (i := 12) (by kernel_rfl) rfl (by rfl) (fun K hK => ?_)
              go_simp
              refine ⟨trivial, ?_⟩
              obtain ⟨q7, hq7, hrd7⟩ := HI6.out.rd.rd
              have hbr := RC6.out.neq (HI6.out.rd.now.choose_spec.2) (by decide)
              have hC := (callsIn_wide (n := 5)).2 (num_row hrd7 (by omega) (xs := [-1, 0, 1]) RC6.out hbr (by decide) (by decide))
              refine hC.mono ?_
              clear hC hrd7 hbr
              rintro e w17 ⟨sc, hsc, rfl, hr7⟩
              have HI7 := Lib.hid (HI6.out.asked hq7 hr7 (by omega))
              have HSC := Lib.hid hsc
              clear hr7 hsc
              refine hK.out _ _ (HI7.out.t5.cell (i := 0) (v := .slice o1 ss.length c1) (by rfl)) (fun _ => ?_)
              clear hK
              refine KeptAny.one (i := 13) (by kernel_rfl) rfl (by rfl) (fun K hK => ?_)
              go_simp
              refine hK.out _ _ (HI7.out.t5.cell (i := 0) (v := .slice o1 ss.length c1) (by rfl)) (fun _ => ?_)
              clear hK
              refine KeptAny.one (i := 14) (by kernel_rfl) rfl (by rfl) (fun K hK => ?_)
              go_simp
              have HJ1 := Lib.hid (HI7.out.step ((Below.refl _ _).alloc (Nat.le_refl _) (.cells #[.int .i64 (kd : Int), .string nm, .int .i64 sc] 37)))
              refine hK.out _ _ (HJ1.out.t5.cell (i := 0) (v := .slice o1 ss.length c1) (by rfl)) (fun _ => ?_)
              clear hK
              refine KeptAny.one (i := 15) (by kernel_rfl) rfl (by rfl) (fun K hK => ?_)
              go_simp
              refine hK.out _ _ (HJ1.out.t5.cell (i := 0) (v := .slice o1 ss.length c1) (by rfl)) (fun _ => ?_)
              clear hK
              refine KeptAny.one (i := 16) (by kernel_rfl) rfl (by rfl) (fun K hK => ?_)
              go_simp
              have HJ2 := Lib.hid (HJ1.out.step ((Below.refl _ _).alloc (Nat.le_refl _) (.cells #[.int .i64 pa, .slice (some ⟨w17.heap.size, 0, none⟩) 1 1] 156)))
              refine hK.out _ _ (HJ2.out.t5.cell (i := 0) (v := .slice o1 ss.length c1) (by rfl)) (fun _ => ?_)
              clear hK
              have hone := HeldGr.single w17 pa (kd : Int) sc nm
              obtain ⟨v4, w4, hrun4, hg4, hgrow4⟩ := append_scopes HJ2.out.gr hone (by simp; omega) HJ2.out.rd.turns.size 31
              have hb4 : Below w.heap.size _ w4 := below_row HJ2.out.gr.row (Nat.le_refl _) hgrow4 HJ2.out.rd.turns.size
              have h44 := HJ2.out.t4.grown hgrow4 (own_row_ne HJ2.out.t4 HJ2.out.gr.row (by decide))
              have h54 := HJ2.out.t5.grown hgrow4 (own_row_ne HJ2.out.t5 HJ2.out.gr.row (by decide))
              have hLT : Lit1 210 (ss ++ [⟨pa, [⟨(kd : Int), nm, sc⟩]⟩]) := (HL.out.append (bad_lit HPA.out HKD.out HNM.out HSC.out)).mono (by omega)
              obtain ⟨tt, htt⟩ : ∃ tt, ss ++ [(⟨pa, [⟨(kd : Int), nm, sc⟩]⟩ : Sc)] = tt := ⟨_, rfl⟩
              rw [htt] at hg4 hLT
              obtain ⟨ks, hks⟩ : ∃ ks, hs ++ [Value.slice (some ⟨w17.heap.size, 0, none⟩) 1 1] = ks := ⟨_, rfl⟩
              rw [hks] at hg4
              obtain ⟨o4, c4, rfl, -⟩ := hg4.holds
              have HLT := Lib.hid hLT
              have f54 := h54.frozen 0
              have HZ9 : Hid (BadAt w (w4.setCell ⟨w1.heap.size, 0, none⟩ (.slice o4 tt.length c4)) r oa len cap (p + 1 + 1 + 1 + 1 + 1) w1.heap.size (.slice o4 tt.length c4) tt ks) := Lib.hid
                ⟨(HJ2.out.rd.far hb4).far ((Below.refl _ _).setCell (p := ⟨w1.heap.size, 0, none⟩) HJ2.out.low _), h44.other (by have := HJ2.out.ne; omega) _, h54.set 0 _, HJ2.out.low, HJ2.out.ne, hg4.other h54 (by decide) (by decide) 0 _⟩
              have s4 := h54.cell (i := 0) (v := .slice o1 ss.length c1) (by rfl)
              simp [go_sem] at hrun4
              clear hg4 hgrow4 hb4 h44 h54 hone htt hks hLT
              refine KeptAny.one (i := 17) (by kernel_rfl) rfl (by rfl) (fun K hK => ?_)
              go_simp
              refine hK.out _ _ s4 (fun _ => ?_)
              clear hK hrun4
              refine KeptAny.one (i := 18) (by kernel_rfl) rfl (by rfl) (fun K hK => ?_)
              go_simp
              refine hK.out _ _ s4 (fun _ => ?_)
              clear hK
              refine KeptAny.last (by kernel_rfl) rfl (by rfl) (fun K hK => ?_)
              go_simp
              refine hK.out _ _ ?_
              clear hK f54 s4
              refine KeptAny.done (by kernel_rfl) ?_ _
              have t5 := HZ9.out.t5.cell (i := 0) (by rfl)
              have t4 := HZ9.out.t4.cell (i := 0) (v := .slice none 0 0) (by rfl)
              have f4 := HZ9.out.t4.frozen 0
              have d4 := (HZ9.out.t4.set 0 (.slice o4 tt.length c4)).cell (i := 0) (v := .slice o4 tt.length c4) (by rfl)
              have HG9 := Lib.hid (HZ9.out.gr.other HZ9.out.t4 (by decide) (by decide) 0 (.slice o4 tt.length c4))
              have HR9 := Lib.hid ((HZ9.out.rd.far ((Below.refl _ _).setCell (p := ⟨w.heap.size + 1, 0, none⟩) (by show w.heap.size ≤ w.heap.size + 1; omega) (.slice o4 tt.length c4))).more (P' := p + 10) (by omega) (by omega))
              go_wp2
              exact bodyPost_ret (v := .agg #[.slice o4 tt.length c4]) (by simp [results, Tryz.results86, go_sem, d4]) rfl ⟨tt, _, _, rfl, HG9.out, HLT.out, HR9.out⟩
          · go_simp
            have HI4 := Lib.hid (HI3.out.step ((Below.refl _ _).alloc (Nat.le_refl _) (.cells #[.int .i64 (-1), .int .i64 0, .int .i64 1] 3)))
            have RC4 : Hid (Row ((w12.alloc (.cells #[.string ⟨#[120]⟩, .string ⟨#[]⟩, .string ⟨#[88]⟩, .string ⟨#[120, 121]⟩] 9)).alloc (.cells #[.int .i64 (-1), .int .i64 0, .int .i64 1] 3)) (w12.heap.size + 1) 3 [.int .i64 (-1), .int .i64 0, .int .i64 1]) := Lib.hid (by
              have h := Row.new (w12.alloc (.cells #[.string ⟨#[120]⟩, .string ⟨#[]⟩, .string ⟨#[88]⟩, .string ⟨#[120, 121]⟩] 9)) [.int .i64 (-1), .int .i64 0, .int .i64 1] 3
              simp only [World.size_alloc] at h
              exact h)
            have RB4 := Lib.hid (RB3.out.alloc (.cells #[.int .i64 (-1), .int .i64 0, .int .i64 1] 3))
            refine hK.out _ _ (HI4.out.t5.cell (i := 0) (v := .slice o1 ss.length c1) (by rfl)) (fun _ => ?_)
            clear hK
            refine KeptAny.one (i := 6) (by kernel_rfl) rfl (by rfl) (fun K hK => ?_)
            go_simp
            refine ⟨trivial, ?_⟩
            obtain ⟨q5, hq5, hrd5⟩ := HI4.out.rd.rd
            have hC := (callsIn_wide (n := 5)).2 (pick_any hrd5 (by omega) 5 (by omega))
            refine hC.mono ?_
            clear hC hrd5
            rintro e w15 ⟨kd, rfl, -, hkd, hr5⟩
            have HI5 := Lib.hid (HI4.out.asked hq5 hr5 (by omega))
            have hbr := RB4.out.neq (HI4.out.rd.now.choose_spec.2) (by decide)
            have RB5 := Lib.hid (RB4.out.asked hr5.turns hbr)
            clear hbr
            have hbr := RC4.out.neq (HI4.out.rd.now.choose_spec.2) (by decide)
            have RC5 := Lib.hid (RC4.out.asked hr5.turns hbr)
            clear hbr
            have HKD := Lib.hid hkd
            clear hr5 hkd
            refine hK.out _ _ (HI5.out.t5.cell (i := 0) (v := .slice o1 ss.length c1) (by rfl)) (fun _ => ?_)
            clear hK
            refine KeptAny.one (i := 9) (by kernel_rfl) rfl (by rfl) (fun K hK => ?_)
            go_simp
            refine ⟨trivial, ?_⟩
            obtain ⟨q6, hq6, hrd6⟩ := HI5.out.rd.rd
            have hbr := RB5.out.neq (HI5.out.rd.now.choose_spec.2) (by decide)
            have hC := (callsIn_wide (n := 5)).2 (of_row hrd6 (by omega) (xs := [⟨#[120]⟩, ⟨#[]⟩, ⟨#[88]⟩, ⟨#[120, 121]⟩]) RB5.out hbr (by decide) (by decide))
            refine hC.mono ?_
            clear hC hrd6 hbr
            rintro e w16 ⟨nm, hnm, rfl, hr6⟩
            have HI6 := Lib.hid (HI5.out.asked hq6 hr6 (by omega))
            have hbr := RC5.out.neq (HI5.out.rd.now.choose_spec.2) (by decide)
            have RC6 := Lib.hid (RC5.out.asked hr6.turns hbr)
            clear hbr
            have HNM := Lib.hid hnm
            clear hr6 hnm
            refine hK.out _ _ (HI6.out.t5.cell (i := 0) (v := .slice o1 ss.length c1) (by rfl)) (fun _ => ?_)
            clear hK
            refine KeptAny.one (i := 12) (by kernel_rfl) rfl (by rfl) (fun K hK => ?_)
            go_simp
            refine ⟨trivial, ?_⟩
            obtain ⟨q7, hq7, hrd7⟩ := HI6.out.rd.rd
            have hbr := RC6.out.neq (HI6.out.rd.now.choose_spec.2) (by decide)
            have hC := (callsIn_wide (n := 5)).2 (num_row hrd7 (by omega) (xs := [-1, 0, 1]) RC6.out hbr (by decide) (by decide))
            refine hC.mono ?_
            clear hC hrd7 hbr
            rintro e w17 ⟨sc, hsc, rfl, hr7⟩
            have HI7 := Lib.hid (HI6.out.asked hq7 hr7 (by omega))
            have HSC := Lib.hid hsc
            clear hr7 hsc
            refine hK.out _ _ (HI7.out.t5.cell (i := 0) (v := .slice o1 ss.length c1) (by rfl)) (fun _ => ?_)
            clear hK
            refine KeptAny.one (i := 13) (by kernel_rfl) rfl (by rfl) (fun K hK => ?_)
            go_simp
            refine hK.out _ _ (HI7.out.t5.cell (i := 0) (v := .slice o1 ss.length c1) (by rfl)) (fun _ => ?_)
            clear hK
            refine KeptAny.one (i := 14) (by kernel_rfl) rfl (by rfl) (fun K hK => ?_)
            go_simp
            have HJ1 := Lib.hid (HI7.out.step ((Below.refl _ _).alloc (Nat.le_refl _) (.cells #[.int .i64 (kd : Int), .string nm, .int .i64 sc] 37)))
            refine hK.out _ _ (HJ1.out.t5.cell (i := 0) (v := .slice o1 ss.length c1) (by rfl)) (fun _ => ?_)
            clear hK
            refine KeptAny.one (i := 15) (by kernel_rfl) rfl (by rfl) (fun K hK => ?_)
            go_simp
            refine hK.out _ _ (HJ1.out.t5.cell (i := 0) (v := .slice o1 ss.length c1) (by rfl)) (fun _ => ?_)
            clear hK
            refine KeptAny.one (i := 16) (by kernel_rfl) rfl (by rfl) (fun K hK => ?_)
            go_simp
            have HJ2 := Lib.hid (HJ1.out.step ((Below.refl _ _).alloc (Nat.le_refl _) (.cells #[.int .i64 pa, .slice (some ⟨w17.heap.size, 0, none⟩) 1 1] 156)))
            refine hK.out _ _ (HJ2.out.t5.cell (i := 0) (v := .slice o1 ss.length c1) (by rfl)) (fun _ => ?_)
            clear hK
            have hone := HeldGr.single w17 pa (kd : Int) sc nm
            obtain ⟨v4, w4, hrun4, hg4, hgrow4⟩ := append_scopes HJ2.out.gr hone (by simp; omega) HJ2.out.rd.turns.size 31
            have hb4 : Below w.heap.size _ w4 := below_row HJ2.out.gr.row (Nat.le_refl _) hgrow4 HJ2.out.rd.turns.size
            have h44 := HJ2.out.t4.grown hgrow4 (own_row_ne HJ2.out.t4 HJ2.out.gr.row (by decide))
            have h54 := HJ2.out.t5.grown hgrow4 (own_row_ne HJ2.out.t5 HJ2.out.gr.row (by decide))
            have hLT : Lit1 210 (ss ++ [⟨pa, [⟨(kd : Int), nm, sc⟩]⟩]) := (HL.out.append (bad_lit HPA.out HKD.out HNM.out HSC.out)).mono (by omega)
            obtain ⟨tt, htt⟩ : ∃ tt, ss ++ [(⟨pa, [⟨(kd : Int), nm, sc⟩]⟩ : Sc)] = tt := ⟨_, rfl⟩
            rw [htt] at hg4 hLT
            obtain ⟨ks, hks⟩ : ∃ ks, hs ++ [Value.slice (some ⟨w17.heap.size, 0, none⟩) 1 1] = ks := ⟨_, rfl⟩
            rw [hks] at hg4
            obtain ⟨o4, c4, rfl, -⟩ := hg4.holds
            have HLT := Lib.hid hLT
            have f54 := h54.frozen 0
            have HZ9 : Hid (BadAt w (w4.setCell ⟨w1.heap.size, 0, none⟩ (.slice o4 tt.length c4)) r oa len cap (p + 1 + 1 + 1 + 1 + 1) w1.heap.size (.slice o4 tt.length c4) tt ks) := Lib.hid
              ⟨(HJ2.out.rd.far hb4).far ((Below.refl _ _).setCell (p := ⟨w1.heap.size, 0, none⟩) HJ2.out.low _), h44.other (by have := HJ2.out.ne; omega) _, h54.set 0 _, HJ2.out.low, HJ2.out.ne, hg4.other h54 (by decide) (by decide) 0 _⟩
            have s4 := h54.cell (i := 0) (v := .slice o1 ss.length c1) (by rfl)
            simp [go_sem] at hrun4
            clear hg4 hgrow4 hb4 h44 h54 hone htt hks hLT
            refine KeptAny.one (i := 17) (by kernel_rfl) rfl (by rfl) (fun K hK => ?_)
            go_simp
            refine hK.out _ _ s4 (fun _ => ?_)
            clear hK hrun4
            refine KeptAny.one (i := 18) (by kernel_rfl) rfl (by rfl) (fun K hK => ?_)
            go_simp
            refine hK.out _ _ s4 (fun _ => ?_)
            clear hK
            refine KeptAny.last (by kernel_rfl) rfl (by rfl) (fun K hK => ?_)
            go_simp
            refine hK.out _ _ ?_
            clear hK f54 s4
            refine KeptAny.done (by kernel_rfl) ?_ _
            have t5 := HZ9.out.t5.cell (i := 0) (by rfl)
            have t4 := HZ9.out.t4.cell (i := 0) (v := .slice none 0 0) (by rfl)
            have f4 := HZ9.out.t4.frozen 0
            have d4 := (HZ9.out.t4.set 0 (.slice o4 tt.length c4)).cell (i := 0) (v := .slice o4 tt.length c4) (by rfl)
            have HG9 := Lib.hid (HZ9.out.gr.other HZ9.out.t4 (by decide) (by decide) 0 (.slice o4 tt.length c4))
            have HR9 := Lib.hid ((HZ9.out.rd.far ((Below.refl _ _).setCell (p := ⟨w.heap.size + 1, 0, none⟩) (by show w.heap.size ≤ w.heap.size + 1; omega) (.slice o4 tt.length c4))).more (P' := p + 10) (by omega) (by omega))
            go_wp2
            exact bodyPost_ret (v := .agg #[.slice o4 tt.length c4]) (by simp [results, Tryz.results86, go_sem, d4]) rfl ⟨tt, _, _, rfl, HG9.out, HLT.out, HR9.out⟩
        · go_simp
          have HI3 := Lib.hid (HI2.out.step ((Below.refl _ _).alloc (Nat.le_refl _) (.cells #[.int .i64 (-1), .int .i64 0, .int .i64 1] 3)))
          have RC3 := Lib.hid (Row.new w12 [.int .i64 (-1), .int .i64 0, .int .i64 1] 3)
          refine hK.out _ _ (HI3.out.t5.cell (i := 0) (v := .slice o1 ss.length c1) (by rfl)) (fun _ => ?_)
          clear hK
          refine KeptAny.two (i := 6) (j := 8) (by kernel_rfl) ⟨_, rfl, by rfl, fun K hK => ?_⟩ ⟨_, rfl, by rfl, fun K hK => ?_⟩
          · go_simp
            refine ⟨trivial, ?_⟩
            obtain ⟨q4, hq4, hrd4⟩ := HI3.out.rd.rd
            have hC := (callsIn_wide (n := 5)).2 (pick_any hrd4 (by omega) 5 (by omega))
            refine hC.mono ?_
            clear hC hrd4
            rintro e w14 ⟨kd, rfl, -, hkd, hr4⟩
            have HI4 := Lib.hid (HI3.out.asked hq4 hr4 (by omega))
            have hbr := RC3.out.neq (HI3.out.rd.now.choose_spec.2) (by decide)
            have RC4 := Lib.hid (RC3.out.asked hr4.turns hbr)
            clear hbr
            have HKD := Lib.hid hkd
            clear hr4 hkd
            refine hK.out _ _ (HI4.out.t5.cell (i := 0) (v := .slice o1 ss.length c1) (by rfl)) (fun _ => ?_)
            clear hK
            refine KeptAny.one (i := 8) (by kernel_rfl) rfl (by rfl) (fun K hK => ?_)
            go_simp
            have HI5 := Lib.hid (HI4.out.step ((Below.refl _ _).alloc (Nat.le_refl _) (.cells #[.string ⟨#[120]⟩, .string ⟨#[]⟩, .string ⟨#[88]⟩, .string ⟨#[120, 121]⟩] 9)))
            have RB5 := Lib.hid (Row.new w14 [.string ⟨#[120]⟩, .string ⟨#[]⟩, .string ⟨#[88]⟩, .string ⟨#[120, 121]⟩] 9)
            have RC5 := Lib.hid (RC4.out.alloc (.cells #[.string ⟨#[120]⟩, .string ⟨#[]⟩, .string ⟨#[88]⟩, .string ⟨#[120, 121]⟩] 9))
            refine hK.out _ _ (HI5.out.t5.cell (i := 0) (v := .slice o1 ss.length c1) (by rfl)) (fun _ => ?_)
            clear hK
            refine KeptAny.one (i := 9) (by kernel_rfl) rfl (by rfl) (fun K hK => ?_)
            go_simp
            refine ⟨trivial, ?_⟩
            obtain ⟨q6, hq6, hrd6⟩ := HI5.out.rd.rd
            have hbr := RB5.out.neq (HI5.out.rd.now.choose_spec.2) (by decide)
            have hC := (callsIn_wide (n := 5)).2 (of_row hrd6 (by omega) (xs := [⟨#[120]⟩, ⟨#[]⟩, ⟨#[88]⟩, ⟨#[120, 121]⟩]) RB5.out hbr (by decide) (by decide))
            refine hC.mono ?_
            clear hC hrd6 hbr
            rintro e w16 ⟨nm, hnm, rfl, hr6⟩
            have HI6 := Lib.hid (HI5.out.asked hq6 hr6 (by omega))
            have hbr := RC5.out.neq (HI5.out.rd.now.choose_spec.2) (by decide)
            have RC6 := Lib.hid (RC5.out.asked hr6.turns hbr)
            clear hbr
            have HNM := Lib.hid hnm
            clear hr6 hnm
            refine hK.out _ _ (HI6.out.t5.cell (i := 0) (v := .slice o1 ss.length c1) (by rfl)) (fun _ => ?_)
            clear hK
            refine KeptAny.one (i := 12) (by kernel_rfl) rfl (by rfl) (fun K hK => ?_)
            go_simp
            refine ⟨trivial, ?_⟩
            obtain ⟨q7, hq7, hrd7⟩ := HI6.out.rd.rd
            have hbr := RC6.out.neq (HI6.out.rd.now.choose_spec.2) (by decide)
            have hC := (callsIn_wide (n := 5)).2 (num_row hrd7 (by omega) (xs := [-1, 0, 1]) RC6.out hbr (by decide) (by decide))
            refine hC.mono ?_
            clear hC hrd7 hbr
            rintro e w17 ⟨sc, hsc, rfl, hr7⟩
            have HI7 := Lib.hid (HI6.out.asked hq7 hr7 (by omega))
            have HSC := Lib.hid hsc
            clear hr7 hsc
            refine hK.out _ _ (HI7.out.t5.cell (i := 0) (v := .slice o1 ss.length c1) (by rfl)) (fun _ => ?_)
            clear hK
            refine KeptAny.one (i := 13) (by kernel_rfl) rfl (by rfl) (fun K hK => ?_)
            go_simp
            refine hK.out _ _ (HI7.out.t5.cell (i := 0) (v := .slice o1 ss.length c1) (by rfl)) (fun _ => ?_)
            clear hK
            refine KeptAny.one (i := 14) (by kernel_rfl) rfl (by rfl) (fun K hK => ?_)
            go_simp
            have HJ1 := Lib.hid (HI7.out.step ((Below.refl _ _).alloc (Nat.le_refl _) (.cells #[.int .i64 (kd : Int), .string nm, .int .i64 sc] 37)))
            refine hK.out _ _ (HJ1.out.t5.cell (i := 0) (v := .slice o1 ss.length c1) (by rfl)) (fun _ => ?_)
            clear hK
            refine KeptAny.one (i := 15) (by kernel_rfl) rfl (by rfl) (fun K hK => ?_)
            go_simp
            refine hK.out _ _ (HJ1.out.t5.cell (i := 0) (v := .slice o1 ss.length c1) (by rfl)) (fun _ => ?_)
            clear hK
            refine KeptAny.one (i := 16) (by kernel_rfl) rfl (by rfl) (fun K hK => ?_)
            go_simp
            have HJ2 := Lib.hid (HJ1.out.step ((Below.refl _ _).alloc (Nat.le_refl _) (.cells #[.int .i64 pa, .slice (some ⟨w17.heap.size, 0, none⟩) 1 1] 156)))
            refine hK.out _ _ (HJ2.out.t5.cell (i := 0) (v := .slice o1 ss.length c1) (by rfl)) (fun _ => ?_)
            clear hK
            have hone := HeldGr.single w17 pa (kd : Int) sc nm
            obtain ⟨v4, w4, hrun4, hg4, hgrow4⟩ := append_scopes HJ2.out.gr hone (by simp; omega) HJ2.out.rd.turns.size 31
            have hb4 : Below w.heap.size _ w4 := below_row HJ2.out.gr.row (Nat.le_refl _) hgrow4 HJ2.out.rd.turns.size
            have h44 := HJ2.out.t4.grown hgrow4 (own_row_ne HJ2.out.t4 HJ2.out.gr.row (by decide))
            have h54 := HJ2.out.t5.grown hgrow4 (own_row_ne HJ2.out.t5 HJ2.out.gr.row (by decide))
            have hLT : Lit1 210 (ss ++ [⟨pa, [⟨(kd : Int), nm, sc⟩]⟩]) := (HL.out.append (bad_lit HPA.out HKD.out HNM.out HSC.out)).mono (by omega)
            obtain ⟨tt, htt⟩ : ∃ tt, ss ++ [(⟨pa, [⟨(kd : Int), nm, sc⟩]⟩ : Sc)] = tt := ⟨_, rfl⟩
            rw [htt] at hg4 hLT
            obtain ⟨ks, hks⟩ : ∃ ks, hs ++ [Value.slice (some ⟨w17.heap.size, 0, none⟩) 1 1] = ks := ⟨_, rfl⟩
            rw [hks] at hg4
            obtain ⟨o4, c4, rfl, -⟩ := hg4.holds
            have HLT := Lib.hid hLT
            have f54 := h54.frozen 0
            have HZ9 : Hid (BadAt w (w4.setCell ⟨w1.heap.size, 0, none⟩ (.slice o4 tt.length c4)) r oa len cap (p + 1 + 1 + 1 + 1 + 1) w1.heap.size (.slice o4 tt.length c4) tt ks) := Lib.hid
              ⟨(HJ2.out.rd.far hb4).far ((Below.refl _ _).setCell (p := ⟨w1.heap.size, 0, none⟩) HJ2.out.low _), h44.other (by have := HJ2.out.ne; omega) _, h54.set 0 _, HJ2.out.low, HJ2.out.ne, hg4.other h54 (by decide) (by decide) 0 _⟩
            have s4 := h54.cell (i := 0) (v := .slice o1 ss.length c1) (by rfl)
            simp [go_sem] at hrun4
            clear hg4 hgrow4 hb4 h44 h54 hone htt hks hLT
            refine KeptAny.one (i := 17) (by kernel_rfl) rfl (by rfl) (fun K hK => ?_)
            go_simp
            refine hK.out _ _ s4 (fun _ => ?_)
            clear hK hrun4
            refine KeptAny.one (i := 18) (by kernel_rfl) rfl (by rfl) (fun K hK => ?_)
            go_simp
            refine hK.out _ _ s4 (fun _ => ?_)
            clear hK
            refine KeptAny.last (by kernel_rfl) rfl (by rfl) (fun K hK => ?_)
            go_simp
            refine hK.out _ _ ?_
            clear hK f54 s4
            refine KeptAny.done (by kernel_rfl) ?_ _
            have t5 := HZ9.out.t5.cell (i := 0) (by rfl)
            have t4 := HZ9.out.t4.cell (i := 0) (v := .slice none 0 0) (by rfl)
            have f4 := HZ9.out.t4.frozen 0
            have d4 := (HZ9.out.t4.set 0 (.slice o4 tt.length c4)).cell (i := 0) (v := .slice o4 tt.length c4) (by rfl)
            have HG9 := Lib.hid (HZ9.out.gr.other HZ9.out.t4 (by decide) (by decide) 0 (.slice o4 tt.length c4))
            have HR9 := Lib.hid ((HZ9.out.rd.far ((Below.refl _ _).setCell (p := ⟨w.heap.size + 1, 0, none⟩) (by show w.heap.size ≤ w.heap.size + 1; omega) (.slice o4 tt.length c4))).more (P' := p + 10) (by omega) (by omega))
            go_wp2
            exact bodyPost_ret (v := .agg #[.slice o4 tt.length c4]) (by simp [results, Tryz.results86, go_sem, d4]) rfl ⟨tt, _, _, rfl, HG9.out, HLT.out, HR9.out⟩
          · go_simp
            have HI4 := Lib.hid (HI3.out.step ((Below.refl _ _).alloc (Nat.le_refl _) (.cells #[.string ⟨#[120]⟩, .string ⟨#[]⟩, .string ⟨#[88]⟩, .string ⟨#[120, 121]⟩] 9)))
            have RB4 : Hid (Row ((w12.alloc (.cells #[.int .i64 (-1), .int .i64 0, .int .i64 1] 3)).alloc (.cells #[.string ⟨#[120]⟩, .string ⟨#[]⟩, .string ⟨#[88]⟩, .string ⟨#[120, 121]⟩] 9)) (w12.heap.size + 1) 9 [.string ⟨#[120]⟩, .string ⟨#[]⟩, .string ⟨#[88]⟩, .string ⟨#[120, 121]⟩]) := Lib.hid (by
              have h := Row.new (w12.alloc (.cells #[.int .i64 (-1), .int .i64 0, .int .i64 1] 3)) [.string ⟨#[120]⟩, .string ⟨#[]⟩, .string ⟨#[88]⟩, .string ⟨#[120, 121]⟩] 9
              simp only [World.size_alloc] at h
              exact h)
            have RC4 := Lib.hid (RC3.out.alloc (.cells #[.string ⟨#[120]⟩, .string ⟨#[]⟩, .string ⟨#[88]⟩, .string ⟨#[120, 121]⟩] 9))
            refine hK.out _ _ (HI4.out.t5.cell (i := 0) (v := .slice o1 ss.length c1) (by rfl)) (fun _ => ?_)
            clear hK
            refine KeptAny.one (i := 6) (by kernel_rfl) rfl (by rfl) (fun K hK => ?_)
            go_simp
            refine ⟨trivial, ?_⟩
            obtain ⟨q5, hq5, hrd5⟩ := HI4.out.rd.rd
            have hC := (callsIn_wide (n := 5)).2 (pick_any hrd5 (by omega) 5 (by omega))
            refine hC.mono ?_
            clear hC hrd5
            rintro e w15 ⟨kd, rfl, -, hkd, hr5⟩
            have HI5 := Lib.hid (HI4.out.asked hq5 hr5 (by omega))
            have hbr := RC4.out.neq (HI4.out.rd.now.choose_spec.2) (by decide)
            have RC5 := Lib.hid (RC4.out.asked hr5.turns hbr)
            clear hbr
            have hbr := RB4.out.neq (HI4.out.rd.now.choose_spec.2) (by decide)
            have RB5 := Lib.hid (RB4.out.asked hr5.turns hbr)
            clear hbr
            have HKD := Lib.hid hkd
            clear hr5 hkd
            refine hK.out _ _ (HI5.out.t5.cell (i := 0) (v := .slice o1 ss.length c1) (by rfl)) (fun _ => ?_)
            clear hK
            refine KeptAny.one (i := 9) (by kernel_rfl) rfl (by rfl) (fun K hK => ?_)
            go_simp
            refine ⟨trivial, ?_⟩
            obtain ⟨q6, hq6, hrd6⟩ := HI5.out.rd.rd
            have hbr := RB5.out.neq (HI5.out.rd.now.choose_spec.2) (by decide)
            have hC := (callsIn_wide (n := 5)).2 (of_row hrd6 (by omega) (xs := [⟨#[120]⟩, ⟨#[]⟩, ⟨#[88]⟩, ⟨#[120, 121]⟩]) RB5.out hbr (by decide) (by decide))
            refine hC.mono ?_
            clear hC hrd6 hbr
            rintro e w16 ⟨nm, hnm, rfl, hr6⟩
            have HI6 := Lib.hid (HI5.out.asked hq6 hr6 (by omega))
            have hbr := RC5.out.neq (HI5.out.rd.now.choose_spec.2) (by decide)
            have RC6 := Lib.hid (RC5.out.asked hr6.turns hbr)
            clear hbr
            have HNM := Lib.hid hnm
            clear hr6 hnm
            refine hK.out _ _ (HI6.out.t5.cell (i := 0) (v := .slice o1 ss.length c1) (by rfl)) (fun _ => ?_)
            clear hK
            refine KeptAny.one (i := 12) (by kernel_rfl) rfl (by rfl) (fun K hK => ?_)
            go_simp
            refine ⟨trivial, ?_⟩
            obtain ⟨q7, hq7, hrd7⟩ := HI6.out.rd.rd
            have hbr := RC6.out.neq (HI6.out.rd.now.choose_spec.2) (by decide)
            have hC := (callsIn_wide (n := 5)).2 (num_row hrd7 (by omega) (xs := [-1, 0, 1]) RC6.out hbr (by decide) (by decide))
            refine hC.mono ?_
            clear hC hrd7 hbr
            rintro e w17 ⟨sc, hsc, rfl, hr7⟩
            have HI7 := Lib.hid (HI6.out.asked hq7 hr7 (by omega))
            have HSC := Lib.hid hsc
            clear hr7 hsc
            refine hK.out _ _ (HI7.out.t5.cell (i := 0) (v := .slice o1 ss.length c1) (by rfl)) (fun _ => ?_)
            clear hK
            refine KeptAny.one (i := 13) (by kernel_rfl) rfl (by rfl) (fun K hK => ?_)
            go_simp
            refine hK.out _ _ (HI7.out.t5.cell (i := 0) (v := .slice o1 ss.length c1) (by rfl)) (fun _ => ?_)
            clear hK
            refine KeptAny.one (i := 14) (by kernel_rfl) rfl (by rfl) (fun K hK => ?_)
            go_simp
            have HJ1 := Lib.hid (HI7.out.step ((Below.refl _ _).alloc (Nat.le_refl _) (.cells #[.int .i64 (kd : Int), .string nm, .int .i64 sc] 37)))
            refine hK.out _ _ (HJ1.out.t5.cell (i := 0) (v := .slice o1 ss.length c1) (by rfl)) (fun _ => ?_)
            clear hK
            refine KeptAny.one (i := 15) (by kernel_rfl) rfl (by rfl) (fun K hK => ?_)
            go_simp
            refine hK.out _ _ (HJ1.out.t5.cell (i := 0) (v := .slice o1 ss.length c1) (by rfl)) (fun _ => ?_)
            clear hK
            refine KeptAny.one (i := 16) (by kernel_rfl) rfl (by rfl) (fun K hK => ?_)
            go_simp
            have HJ2 := Lib.hid (HJ1.out.step ((Below.refl _ _).alloc (Nat.le_refl _) (.cells #[.int .i64 pa, .slice (some ⟨w17.heap.size, 0, none⟩) 1 1] 156)))
            refine hK.out _ _ (HJ2.out.t5.cell (i := 0) (v := .slice o1 ss.length c1) (by rfl)) (fun _ => ?_)
            clear hK
            have hone := HeldGr.single w17 pa (kd : Int) sc nm
            obtain ⟨v4, w4, hrun4, hg4, hgrow4⟩ := append_scopes HJ2.out.gr hone (by simp; omega) HJ2.out.rd.turns.size 31
            have hb4 : Below w.heap.size _ w4 := below_row HJ2.out.gr.row (Nat.le_refl _) hgrow4 HJ2.out.rd.turns.size
            have h44 := HJ2.out.t4.grown hgrow4 (own_row_ne HJ2.out.t4 HJ2.out.gr.row (by decide))
            have h54 := HJ2.out.t5.grown hgrow4 (own_row_ne HJ2.out.t5 HJ2.out.gr.row (by decide))
            have hLT : Lit1 210 (ss ++ [⟨pa, [⟨(kd : Int), nm, sc⟩]⟩]) := (HL.out.append (bad_lit HPA.out HKD.out HNM.out HSC.out)).mono (by omega)
            obtain ⟨tt, htt⟩ : ∃ tt, ss ++ [(⟨pa, [⟨(kd : Int), nm, sc⟩]⟩ : Sc)] = tt := ⟨_, rfl⟩
            rw [htt] at hg4 hLT
            obtain ⟨ks, hks⟩ : ∃ ks, hs ++ [Value.slice (some ⟨w17.heap.size, 0, none⟩) 1 1] = ks := ⟨_, rfl⟩
            rw [hks] at hg4
            obtain ⟨o4, c4, rfl, -⟩ := hg4.holds
            have HLT := Lib.hid hLT
            have f54 := h54.frozen 0
            have HZ9 : Hid (BadAt w (w4.setCell ⟨w1.heap.size, 0, none⟩ (.slice o4 tt.length c4)) r oa len cap (p + 1 + 1 + 1 + 1 + 1) w1.heap.size (.slice o4 tt.length c4) tt ks) := Lib.hid
              ⟨(HJ2.out.rd.far hb4).far ((Below.refl _ _).setCell (p := ⟨w1.heap.size, 0, none⟩) HJ2.out.low _), h44.other (by have := HJ2.out.ne; omega) _, h54.set 0 _, HJ2.out.low, HJ2.out.ne, hg4.other h54 (by decide) (by decide) 0 _⟩
            have s4 := h54.cell (i := 0) (v := .slice o1 ss.length c1) (by rfl)
            simp [go_sem] at hrun4
            clear hg4 hgrow4 hb4 h44 h54 hone htt hks hLT
            refine KeptAny.one (i := 17) (by kernel_rfl) rfl (by rfl) (fun K hK => ?_)
            go_simp
            refine hK.out _ _ s4 (fun _ => ?_)
            clear hK hrun4
            refine KeptAny.one (i := 18) (by kernel_rfl) rfl (by rfl) (fun K hK => ?_)
            go_simp
            refine hK.out _ _ s4 (fun _ => ?_)
            clear hK
            refine KeptAny.last (by kernel_rfl) rfl (by rfl) (fun K hK => ?_)
            go_simp
            refine hK.out _ _ ?_
            clear hK f54 s4
            refine KeptAny.done (by kernel_rfl) ?_ _
            have t5 := HZ9.out.t5.cell (i := 0) (by rfl)
            have t4 := HZ9.out.t4.cell (i := 0) (v := .slice none 0 0) (by rfl)
            have f4 := HZ9.out.t4.frozen 0
            have d4 := (HZ9.out.t4.set 0 (.slice o4 tt.length c4)).cell (i := 0) (v := .slice o4 tt.length c4) (by rfl)
            have HG9 := Lib.hid (HZ9.out.gr.other HZ9.out.t4 (by decide) (by decide) 0 (.slice o4 tt.length c4))
            have HR9 := Lib.hid ((HZ9.out.rd.far ((Below.refl _ _).setCell (p := ⟨w.heap.size + 1, 0, none⟩) (by show w.heap.size ≤ w.heap.size + 1; omega) (.slice o4 tt.length c4))).more (P' := p + 10) (by omega) (by omega))
            go_wp2
            exact bodyPost_ret (v := .agg #[.slice o4 tt.length c4]) (by simp [results, Tryz.results86, go_sem, d4]) rfl ⟨tt, _, _, rfl, HG9.out, HLT.out, HR9.out⟩
      · go_simp
        have HI2 := Lib.hid (HI1.out.step ((Below.refl _ _).alloc (Nat.le_refl _) (.cells #[.string ⟨#[120]⟩, .string ⟨#[]⟩, .string ⟨#[88]⟩, .string ⟨#[120, 121]⟩] 9)))
        have RB2 : Hid (Row ((w2.drew.alloc (.cells #[.int .i64 (-1), .int .i64 0, .int .i64 5, .int .i64 9] 3)).alloc (.cells #[.string ⟨#[120]⟩, .string ⟨#[]⟩, .string ⟨#[88]⟩, .string ⟨#[120, 121]⟩] 9)) (w2.heap.size + 1) 9 [.string ⟨#[120]⟩, .string ⟨#[]⟩, .string ⟨#[88]⟩, .string ⟨#[120, 121]⟩]) := Lib.hid (by
          have h := Row.new (w2.drew.alloc (.cells #[.int .i64 (-1), .int .i64 0, .int .i64 5, .int .i64 9] 3)) [.string ⟨#[120]⟩, .string ⟨#[]⟩, .string ⟨#[88]⟩, .string ⟨#[120, 121]⟩] 9
          simp only [World.size_alloc] at h
          exact h)
        have RA2 := Lib.hid (RA1.out.alloc (.cells #[.string ⟨#[120]⟩, .string ⟨#[]⟩, .string ⟨#[88]⟩, .string ⟨#[120, 121]⟩] 9))
        refine hK.out _ _ (HI2.out.t5.cell (i := 0) (v := .slice o1 ss.length c1) (by rfl)) (fun _ => ?_)
        clear hK
        refine KeptAny.two (i := 4) (j := 11) (by kernel_rfl) ⟨_, rfl, by rfl, fun K hK => ?_⟩ ⟨_, rfl, by rfl, fun K hK => ?_⟩
        · go_simp
          refine ⟨trivial, ?_⟩
          obtain ⟨q3, hq3, hrd3⟩ := HI2.out.rd.rd
          have hbr := RA2.out.neq (HI2.out.rd.now.choose_spec.2) (by decide)
          have hC := (callsIn_wide (n := 5)).2 (num_row hrd3 (by omega) (xs := [-1, 0, 5, 9]) RA2.out hbr (by decide) (by decide))
          refine hC.mono ?_
          clear hC hrd3 hbr
          rintro e w13 ⟨pa, hpa, rfl, hr3⟩
          have HI3 := Lib.hid (HI2.out.asked hq3 hr3 (by omega))
          have hbr := RB2.out.neq (HI2.out.rd.now.choose_spec.2) (by decide)
          have RB3 := Lib.hid (RB2.out.asked hr3.turns hbr)
          clear hbr
          have HPA := Lib.hid hpa
          clear hr3 hpa
          refine hK.out _ _ (HI3.out.t5.cell (i := 0) (v := .slice o1 ss.length c1) (by rfl)) (fun _ => ?_)
          clear hK
          refine KeptAny.two (i := 6) (j := 11) (by kernel_rfl) ⟨_, rfl, by rfl, fun K hK => ?_⟩ ⟨_, rfl, by rfl, fun K hK => ?_⟩
          · go_simp
            refine ⟨trivial, ?_⟩
            obtain ⟨q4, hq4, hrd4⟩ := HI3.out.rd.rd
            have hC := (callsIn_wide (n := 5)).2 (pick_any hrd4 (by omega) 5 (by omega))
            refine hC.mono ?_
            clear hC hrd4
            rintro e w14 ⟨kd, rfl, -, hkd, hr4⟩
            have HI4 := Lib.hid (HI3.out.asked hq4 hr4 (by omega))
            have hbr := RB3.out.neq (HI3.out.rd.now.choose_spec.2) (by decide)
            have RB4 := Lib.hid (RB3.out.asked hr4.turns hbr)
            clear hbr
            have HKD := Lib.hid hkd
            clear hr4 hkd
            refine hK.out _ _ (HI4.out.t5.cell (i := 0) (v := .slice o1 ss.length c1) (by rfl)) (fun _ => ?_)
            clear hK
            refine KeptAny.two (i := 9) (j := 11) (by kernel_rfl) ⟨_, rfl, by rfl, fun K hK => ?_⟩ ⟨_, rfl, by rfl, fun K hK => ?_⟩
            · go_simp
              refine ⟨trivial, ?_⟩
              obtain ⟨q5, hq5, hrd5⟩ := HI4.out.rd.rd
              have hbr := RB4.out.neq (HI4.out.rd.now.choose_spec.2) (by decide)
              have hC := (callsIn_wide (n := 5)).2 (of_row hrd5 (by omega) (xs := [⟨#[120]⟩, ⟨#[]⟩, ⟨#[88]⟩, ⟨#[120, 121]⟩]) RB4.out hbr (by decide) (by decide))
              refine hC.mono ?_
              clear hC hrd5 hbr
              rintro e w15 ⟨nm, hnm, rfl, hr5⟩
              have HI5 := Lib.hid (HI4.out.asked hq5 hr5 (by omega))
              have HNM := Lib.hid hnm
              clear hr5 hnm
              refine hK.out _ _ (HI5.out.t5.cell (i := 0) (v := .slice o1 ss.length c1) (by rfl)) (fun _ => ?_)
              clear hK
              refine KeptAny.one (i := 11) (by kernel_rfl) rfl (by rfl) (fun K hK => ?_)
              go_simp
              have HI6 := Lib.hid (HI5.out.step ((Below.refl _ _).alloc (Nat.le_refl _) (.cells #[.int .i64 (-1), .int .i64 0, .int .i64 1] 3)))
              have RC6 := Lib.hid (Row.new w15 [.int .i64 (-1), .int .i64 0, .int .i64 1] 3)
              refine hK.out _ _ (HI6.out.t5.cell (i := 0) (v := .slice o1 ss.length c1) (by rfl)) (fun _ => ?_)
              clear hK
              refine KeptAny.one (i := 12) (by kernel_rfl) rfl (by rfl) (fun K hK => ?_)
              go_simp
              refine ⟨trivial, ?_⟩
              obtain ⟨q7, hq7, hrd7⟩ := HI6.out.rd.rd
              have hbr := RC6.out.neq (HI6.out.rd.now.choose_spec.2) (by decide)
              have hC := (callsIn_wide (n := 5)).2 (num_row hrd7 (by omega) (xs := [-1, 0, 1]) RC6.out hbr (by decide) (by decide))
              refine hC.mono ?_
              clear hC hrd7 hbr
              rintro e w17 ⟨sc, hsc, rfl, hr7⟩
              have HI7 := Lib.hid (HI6.out.asked hq7 hr7 (by omega))
              have HSC := Lib.hid hsc
              clear hr7 hsc
              refine hK.out _ _ (HI7.out.t5.cell (i := 0) (v := .slice o1 ss.length c1) (by rfl)) (fun _ => ?_)
              clear hK
              refine KeptAny.one (i := 13) (by kernel_rfl) rfl (by rfl) (fun K hK => ?_)
              go_simp
              refine hK.out _ _ (HI7.out.t5.cell (i := 0) (v := .slice o1 ss.length c1) (by rfl)) (fun _ => ?_)
              clear hK
              refine KeptAny.one (i := 14) (by kernel_rfl) rfl (by rfl) (fun K hK => ?_)
              go_simp
              have HJ1 := Lib.hid (HI7.out.step ((Below.refl _ _).alloc (Nat.le_refl _) (.cells #[.int .i64 (kd : Int), .string nm, .int .i64 sc] 37)))
              refine hK.out _ _ (HJ1.out.t5.cell (i := 0) (v := .slice o1 ss.length c1) (by rfl)) (fun _ => ?_)
              clear hK
              refine KeptAny.one (i := 15) (by kernel_rfl) rfl (by rfl) (fun K hK => ?_)
              go_simp
              refine hK.out _ _ (HJ1.out.t5.cell (i := 0) (v := .slice o1 ss.length c1) (by rfl)) (fun _ => ?_)
              clear hK
              refine KeptAny.one (i := 16) (by kernel_rfl) rfl (by rfl) (fun K hK => ?_)
              go_simp
              have HJ2 := Lib.hid (HJ1.out.step ((Below.refl _ _).alloc (Nat.le_refl _) (.cells #[.int .i64 pa, .slice (some ⟨w17.heap.size, 0, none⟩) 1 1] 156)))
              refine hK.out _ _ (HJ2.out.t5.cell (i := 0) (v := .slice o1 ss.length c1) (by rfl)) (fun _ => ?_)
              clear hK
              have hone := HeldGr.single w17 pa (kd : Int) sc nm
              obtain ⟨v4, w4, hrun4, hg4, hgrow4⟩ := append_scopes HJ2.out.gr hone (by simp; omega) HJ2.out.rd.turns.size 31
              have hb4 : Below w.heap.size _ w4 := below_row HJ2.out.gr.row (Nat.le_refl _) hgrow4 HJ2.out.rd.turns.size
              have h44 := HJ2.out.t4.grown hgrow4 (own_row_ne HJ2.out.t4 HJ2.out.gr.row (by decide))
              have h54 := HJ2.out.t5.grown hgrow4 (own_row_ne HJ2.out.t5 HJ2.out.gr.row (by decide))
              have hLT : Lit1 210 (ss ++ [⟨pa, [⟨(kd : Int), nm, sc⟩]⟩]) := (HL.out.append (bad_lit HPA.out HKD.out HNM.out HSC.out)).mono (by omega)
              obtain ⟨tt, htt⟩ : ∃ tt, ss ++ [(⟨pa, [⟨(kd : Int), nm, sc⟩]⟩ : Sc)] = tt := ⟨_, rfl⟩
              rw [htt] at hg4 hLT
              obtain ⟨ks, hks⟩ : ∃ ks, hs ++ [Value.slice (some ⟨w17.heap.size, 0, none⟩) 1 1] = ks := ⟨_, rfl⟩
              rw [hks] at hg4
              obtain ⟨o4, c4, rfl, -⟩ := hg4.holds
              have HLT := Lib.hid hLT
              have f54 := h54.frozen 0
              have HZ9 : Hid (BadAt w (w4.setCell ⟨w1.heap.size, 0, none⟩ (.slice o4 tt.length c4)) r oa len cap (p + 1 + 1 + 1 + 1 + 1) w1.heap.size (.slice o4 tt.length c4) tt ks) := Lib.hid
                ⟨(HJ2.out.rd.far hb4).far ((Below.refl _ _).setCell (p := ⟨w1.heap.size, 0, none⟩) HJ2.out.low _), h44.other (by have := HJ2.out.ne; omega) _, h54.set 0 _, HJ2.out.low, HJ2.out.ne, hg4.other h54 (by decide) (by decide) 0 _⟩
              have s4 := h54.cell (i := 0) (v := .slice o1 ss.length c1) (by rfl)
              simp [go_sem] at hrun4
              clear hg4 hgrow4 hb4 h44 h54 hone htt hks hLT
              refine KeptAny.one (i := 17) (by kernel_rfl) rfl (by rfl) (fun K hK => ?_)
              go_simp
              refine hK.out _ _ s4 (fun _ => ?_)
              clear hK hrun4
              refine KeptAny.one (i := 18) (by kernel_rfl) rfl (by rfl) (fun K hK => ?_)
              go_simp
              refine hK.out _ _ s4 (fun _ => ?_)
              clear hK
              refine KeptAny.last (by kernel_rfl) rfl (by rfl) (fun K hK => ?_)
              go_simp
              refine hK.out _ _ ?_
              clear hK f54 s4
              refine KeptAny.done (by kernel_rfl) ?_ _
              have t5 := HZ9.out.t5.cell (i := 0) (by rfl)
              have t4 := HZ9.out.t4.cell (i := 0) (v := .slice none 0 0) (by rfl)
              have f4 := HZ9.out.t4.frozen 0
              have d4 := (HZ9.out.t4.set 0 (.slice o4 tt.length c4)).cell (i := 0) (v := .slice o4 tt.length c4) (by rfl)
              have HG9 := Lib.hid (HZ9.out.gr.other HZ9.out.t4 (by decide) (by decide) 0 (.slice o4 tt.length c4))
              have HR9 := Lib.hid ((HZ9.out.rd.far ((Below.refl _ _).setCell (p := ⟨w.heap.size + 1, 0, none⟩) (by show w.heap.size ≤ w.heap.size + 1; omega) (.slice o4 tt.length c4))).more (P' := p + 10) (by omega) (by omega))
              go_wp2
              exact bodyPost_ret (v := .agg #[.slice o4 tt.length c4]) (by simp [results, Tryz.results86, go_sem, d4]) rfl ⟨tt, _, _, rfl, HG9.out, HLT.out, HR9.out⟩
            · go_simp
              have HI5 := Lib.hid (HI4.out.step ((Below.refl _ _).alloc (Nat.le_refl _) (.cells #[.int .i64 (-1), .int .i64 0, .int .i64 1] 3)))
              have RC5 := Lib.hid (Row.new w14 [.int .i64 (-1), .int .i64 0, .int .i64 1] 3)
              have RB5 := Lib.hid (RB4.out.alloc (.cells #[.int .i64 (-1), .int .i64 0, .int .i64 1] 3))
              refine hK.out _ _ (HI5.out.t5.cell (i := 0) (v := .slice o1 ss.length c1) (by rfl)) (fun _ => ?_)
              clear hK
              refine KeptAny.one (i := 9) (by kernel_rfl) rfl (by rfl) (fun K hK => ?_)
              go_simp
              refine ⟨trivial, ?_⟩
              obtain ⟨q6, hq6, hrd6⟩ := HI5.out.rd.rd
              have hbr := RB5.out.neq (HI5.out.rd.now.choose_spec.2) (by decide)
              have hC := (callsIn_wide (n := 5)).2 (of_row hrd6 (by omega) (xs := [⟨#[120]⟩, ⟨#[]⟩, ⟨#[88]⟩, ⟨#[120, 121]⟩]) RB5.out hbr (by decide) (by decide))
              refine hC.mono ?_
              clear hC hrd6 hbr
              rintro e w16 ⟨nm, hnm, rfl, hr6⟩
              have HI6 := Lib.hid (HI5.out.asked hq6 hr6 (by omega))
              have hbr := RC5.out.neq (HI5.out.rd.now.choose_spec.2) (by decide)
              have RC6 := Lib.hid (RC5.out.asked hr6.turns hbr)
              clear hbr
              have HNM := Lib.hid hnm
              clear hr6 hnm
              refine hK.out _ _ (HI6.out.t5.cell (i := 0) (v := .slice o1 ss.length c1) (by rfl)) (fun _ => ?_)
              clear hK
              refine KeptAny.one (i := 12) (by kernel_rfl) rfl (by rfl) (fun K hK => ?_)
              go_simp
              refine ⟨trivial, ?_⟩
              obtain ⟨q7, hq7, hrd7⟩ := HI6.out.rd.rd
              have hbr := RC6.out.neq (HI6.out.rd.now.choose_spec.2) (by decide)
              have hC := (callsIn_wide (n := 5)).2 (num_row hrd7 (by omega) (xs := [-1, 0, 1]) RC6.out hbr (by decide) (by decide))
              refine hC.mono ?_
              clear hC hrd7 hbr
              rintro e w17 ⟨sc, hsc, rfl, hr7⟩
              have HI7 := Lib.hid (HI6.out.asked hq7 hr7 (by omega))
              have HSC := Lib.hid hsc
              clear hr7 hsc
              refine hK.out _ _ (HI7.out.t5.cell (i := 0) (v := .slice o1 ss.length c1) (by rfl)) (fun _ => ?_)
              clear hK
              refine KeptAny.one (i := 13) (by kernel_rfl) rfl (by rfl) (fun K hK => ?_)
              go_simp
              refine hK.out _ _ (HI7.out.t5.cell (i := 0) (v := .slice o1 ss.length c1) (by rfl)) (fun _ => ?_)
              clear hK
              refine KeptAny.one (i := 14) (by kernel_rfl) rfl (by rfl) (fun K hK => ?_)
              go_simp
              have HJ1 := Lib.hid (HI7.out.step ((Below.refl _ _).alloc (Nat.le_refl _) (.cells #[.int .i64 (kd : Int), .string nm, .int .i64 sc] 37)))
              refine hK.out _ _ (HJ1.out.t5.cell (i := 0) (v := .slice o1 ss.length c1) (by rfl)) (fun _ => ?_)
              clear hK
              refine KeptAny.one (i := 15) (by kernel_rfl) rfl (by rfl) (fun K hK => ?_)
              go_simp
              refine hK.out _ _ (HJ1.out.t5.cell (i := 0) (v := .slice o1 ss.length c1) (by rfl)) (fun _ => ?_)
              clear hK
              refine KeptAny.one (i := 16) (by kernel_rfl) rfl (by rfl) (fun K hK => ?_)
              go_simp
              have HJ2 := Lib.hid (HJ1.out.step ((Below.refl _ _).alloc (Nat.le_refl _) (.cells #[.int .i64 pa, .slice (some ⟨w17.heap.size, 0, none⟩) 1 1] 156)))
              refine hK.out _ _ (HJ2.out.t5.cell (i := 0) (v := .slice o1 ss.length c1) (by rfl)) (fun _ => ?_)
              clear hK
              have hone := HeldGr.single w17 pa (kd : Int) sc nm
              obtain ⟨v4, w4, hrun4, hg4, hgrow4⟩ := append_scopes HJ2.out.gr hone (by simp; omega) HJ2.out.rd.turns.size 31
              have hb4 : Below w.heap.size _ w4 := below_row HJ2.out.gr.row (Nat.le_refl _) hgrow4 HJ2.out.rd.turns.size
              have h44 := HJ2.out.t4.grown hgrow4 (own_row_ne HJ2.out.t4 HJ2.out.gr.row (by decide))
              have h54 := HJ2.out.t5.grown hgrow4 (own_row_ne HJ2.out.t5 HJ2.out.gr.row (by decide))
              have hLT : Lit1 210 (ss ++ [⟨pa, [⟨(kd : Int), nm, sc⟩]⟩]) := (HL.out.append (bad_lit HPA.out HKD.out HNM.out HSC.out)).mono (by omega)
              obtain ⟨tt, htt⟩ : ∃ tt, ss ++ [(⟨pa, [⟨(kd : Int), nm, sc⟩]⟩ : Sc)] = tt := ⟨_, rfl⟩
              rw [htt] at hg4 hLT
              obtain ⟨ks, hks⟩ : ∃ ks, hs ++ [Value.slice (some ⟨w17.heap.size, 0, none⟩) 1 1] = ks := ⟨_, rfl⟩
              rw [hks] at hg4
              obtain ⟨o4, c4, rfl, -⟩ := hg4.holds
              have HLT := Lib.hid hLT
              have f54 := h54.frozen 0
              have HZ9 : Hid (BadAt w (w4.setCell ⟨w1.heap.size, 0, none⟩ (.slice o4 tt.length c4)) r oa len cap (p + 1 + 1 + 1 + 1 + 1) w1.heap.size (.slice o4 tt.length c4) tt ks) := Lib.hid
                ⟨(HJ2.out.rd.far hb4).far ((Below.refl _ _).setCell (p := ⟨w1.heap.size, 0, none⟩) HJ2.out.low _), h44.other (by have := HJ2.out.ne; omega) _, h54.set 0 _, HJ2.out.low, HJ2.out.ne, hg4.other h54 (by decide) (by decide) 0 _⟩
              have s4 := h54.cell (i := 0) (v := .slice o1 ss.length c1) (by rfl)
              simp [go_sem] at hrun4
              clear hg4 hgrow4 hb4 h44 h54 hone htt hks hLT
              refine KeptAny.one (i := 17) (by kernel_rfl) rfl (by rfl) (fun K hK => ?_)
              go_simp
              refine hK.out _ _ s4 (fun _ => ?_)
              clear hK hrun4
              refine KeptAny.one (i := 18) (by kernel_rfl) rfl (by rfl) (fun K hK => ?_)
              go_simp
              refine hK.out _ _ s4 (fun _ => ?_)
              clear hK
              refine KeptAny.last (by kernel_rfl) rfl (by rfl) (fun K hK => ?_)
              go_simp
              refine hK.out _ _ ?_
              clear hK f54 s4
              refine KeptAny.done (by kernel_rfl) ?_ _
              have t5 := HZ9.out.t5.cell (i := 0) (by rfl)
              have t4 := HZ9.out.t4.cell (i := 0) (v := .slice none 0 0) (by rfl)
              have f4 := HZ9.out.t4.frozen 0
              have d4 := (HZ9.out.t4.set 0 (.slice o4 tt.length c4)).cell (i := 0) (v := .slice o4 tt.length c4) (by rfl)
              have HG9 := Lib.hid (HZ9.out.gr.other HZ9.out.t4 (by decide) (by decide) 0 (.slice o4 tt.length c4))
              have HR9 := Lib.hid ((HZ9.out.rd.far ((Below.refl _ _).setCell (p := ⟨w.heap.size + 1, 0, none⟩) (by show w.heap.size ≤ w.heap.size + 1; omega) (.slice o4 tt.length c4))).more (P' := p + 10) (by omega) (by omega))
              go_wp2
              exact bodyPost_ret (v := .agg #[.slice o4 tt.length c4]) (by simp [results, Tryz.results86, go_sem, d4]) rfl ⟨tt, _, _, rfl, HG9.out, HLT.out, HR9.out⟩
          · go_simp
            have HI4 := Lib.hid (HI3.out.step ((Below.refl _ _).alloc (Nat.le_refl _) (.cells #[.int .i64 (-1), .int .i64 0, .int .i64 1] 3)))
            have RC4 := Lib.hid (Row.new w13 [.int .i64 (-1), .int .i64 0, .int .i64 1] 3)
            have RB4 := Lib.hid (RB3.out.alloc (.cells #[.int .i64 (-1), .int .i64 0, .int .i64 1] 3))
            refine hK.out _ _ (HI4.out.t5.cell (i := 0) (v := .slice o1 ss.length c1) (by rfl)) (fun _ => ?_)
            clear hK
            refine KeptAny.one (i := 6) (by kernel_rfl) rfl (by rfl) (fun K hK => ?_)
            go_simp
            refine ⟨trivial, ?_⟩
            obtain ⟨q5, hq5, hrd5⟩ := HI4.out.rd.rd
            have hC := (callsIn_wide (n := 5)).2 (pick_any hrd5 (by omega) 5 (by omega))
            refine hC.mono ?_
            clear hC hrd5
            rintro e w15 ⟨kd, rfl, -, hkd, hr5⟩
            have HI5 := Lib.hid (HI4.out.asked hq5 hr5 (by omega))
            have hbr := RB4.out.neq (HI4.out.rd.now.choose_spec.2) (by decide)
            have RB5 := Lib.hid (RB4.out.asked hr5.turns hbr)
            clear hbr
            have hbr := RC4.out.neq (HI4.out.rd.now.choose_spec.2) (by decide)
            have RC5 := Lib.hid (RC4.out.asked hr5.turns hbr)
            clear hbr
            have HKD := Lib.hid hkd
            clear hr5 hkd
            refine hK.out _ _ (HI5.out.t5.cell (i := 0) (v := .slice o1 ss.length c1) (by rfl)) (fun _ => ?_)
            clear hK
            refine KeptAny.one (i := 9) (by kernel_rfl) rfl (by rfl) (fun K hK => ?_)
            go_simp
            refine ⟨trivial, ?_⟩
            obtain ⟨q6, hq6, hrd6⟩ := HI5.out.rd.rd
            have hbr := RB5.out.neq (HI5.out.rd.now.choose_spec.2) (by decide)
            have hC := (callsIn_wide (n := 5)).2 (of_row hrd6 (by omega) (xs := [⟨#[120]⟩, ⟨#[]⟩, ⟨#[88]⟩, ⟨#[120, 121]⟩]) RB5.out hbr (by decide) (by decide))
            refine hC.mono ?_
            clear hC hrd6 hbr
            rintro e w16 ⟨nm, hnm, rfl, hr6⟩
            have HI6 := Lib.hid (HI5.out.asked hq6 hr6 (by omega))
            have hbr := RC5.out.neq (HI5.out.rd.now.choose_spec.2) (by decide)
            have RC6 := Lib.hid (RC5.out.asked hr6.turns hbr)
            clear hbr
            have HNM := Lib.hid hnm
            clear hr6 hnm
            refine hK.out _ _ (HI6.out.t5.cell (i := 0) (v := .slice o1 ss.length c1) (by rfl)) (fun _ => ?_)
            clear hK
            refine KeptAny.one (i := 12) (by kernel_rfl) rfl (by rfl) (fun K hK => ?_)
            go_simp
            refine ⟨trivial, ?_⟩
            obtain ⟨q7, hq7, hrd7⟩ := HI6.out.rd.rd
            have hbr := RC6.out.neq (HI6.out.rd.now.choose_spec.2) (by decide)
            have hC := (callsIn_wide (n := 5)).2 (num_row hrd7 (by omega) (xs := [-1, 0, 1]) RC6.out hbr (by decide) (by decide))
            refine hC.mono ?_
            clear hC hrd7 hbr
            rintro e w17 ⟨sc, hsc, rfl, hr7⟩
            have HI7 := Lib.hid (HI6.out.asked hq7 hr7 (by omega))
            have HSC := Lib.hid hsc
            clear hr7 hsc
            refine hK.out _ _ (HI7.out.t5.cell (i := 0) (v := .slice o1 ss.length c1) (by rfl)) (fun _ => ?_)
            clear hK
            refine KeptAny.one (i := 13) (by kernel_rfl) rfl (by rfl) (fun K hK => ?_)
            go_simp
            refine hK.out _ _ (HI7.out.t5.cell (i := 0) (v := .slice o1 ss.length c1) (by rfl)) (fun _ => ?_)
            clear hK
            refine KeptAny.one (i := 14) (by kernel_rfl) rfl (by rfl) (fun K hK => ?_)
            go_simp
            have HJ1 := Lib.hid (HI7.out.step ((Below.refl _ _).alloc (Nat.le_refl _) (.cells #[.int .i64 (kd : Int), .string nm, .int .i64 sc] 37)))
            refine hK.out _ _ (HJ1.out.t5.cell (i := 0) (v := .slice o1 ss.length c1) (by rfl)) (fun _ => ?_)
            clear hK
            refine KeptAny.one (i := 15) (by kernel_rfl) rfl (by rfl) (fun K hK => ?_)
            go_simp
            refine hK.out _ _ (HJ1.out.t5.cell (i := 0) (v := .slice o1 ss.length c1) (by rfl)) (fun _ => ?_)
            clear hK
            refine KeptAny.one (i := 16) (by kernel_rfl) rfl (by rfl) (fun K hK => ?_)
            go_simp
            have HJ2 := Lib.hid (HJ1.out.step ((Below.refl _ _).alloc (Nat.le_refl _) (.cells #[.int .i64 pa, .slice (some ⟨w17.heap.size, 0, none⟩) 1 1] 156)))
            refine hK.out _ _ (HJ2.out.t5.cell (i := 0) (v := .slice o1 ss.length c1) (by rfl)) (fun _ => ?_)
            clear hK
            have hone := HeldGr.single w17 pa (kd : Int) sc nm
            obtain ⟨v4, w4, hrun4, hg4, hgrow4⟩ := append_scopes HJ2.out.gr hone (by simp; omega) HJ2.out.rd.turns.size 31
            have hb4 : Below w.heap.size _ w4 := below_row HJ2.out.gr.row (Nat.le_refl _) hgrow4 HJ2.out.rd.turns.size
            have h44 := HJ2.out.t4.grown hgrow4 (own_row_ne HJ2.out.t4 HJ2.out.gr.row (by decide))
            have h54 := HJ2.out.t5.grown hgrow4 (own_row_ne HJ2.out.t5 HJ2.out.gr.row (by decide))
            have hLT : Lit1 210 (ss ++ [⟨pa, [⟨(kd : Int), nm, sc⟩]⟩]) := (HL.out.append (bad_lit HPA.out HKD.out HNM.out HSC.out)).mono (by omega)
            obtain ⟨tt, htt⟩ : ∃ tt, ss ++ [(⟨pa, [⟨(kd : Int), nm, sc⟩]⟩ : Sc)] = tt := ⟨_, rfl⟩
            rw [htt] at hg4 hLT
            obtain ⟨ks, hks⟩ : ∃ ks, hs ++ [Value.slice (some ⟨w17.heap.size, 0, none⟩) 1 1] = ks := ⟨_, rfl⟩
            rw [hks] at hg4
            obtain ⟨o4, c4, rfl, -⟩ := hg4.holds
            have HLT := Lib.hid hLT
            have f54 := h54.frozen 0
            have HZ9 : Hid (BadAt w (w4.setCell ⟨w1.heap.size, 0, none⟩ (.slice o4 tt.length c4)) r oa len cap (p + 1 + 1 + 1 + 1 + 1) w1.heap.size (.slice o4 tt.length c4) tt ks) := Lib.hid
              ⟨(HJ2.out.rd.far hb4).far ((Below.refl _ _).setCell (p := ⟨w1.heap.size, 0, none⟩) HJ2.out.low _), h44.other (by have := HJ2.out.ne; omega) _, h54.set 0 _, HJ2.out.low, HJ2.out.ne, hg4.other h54 (by decide) (by decide) 0 _⟩
            have s4 := h54.cell (i := 0) (v := .slice o1 ss.length c1) (by rfl)
            simp [go_sem] at hrun4
            clear hg4 hgrow4 hb4 h44 h54 hone htt hks hLT
            refine KeptAny.one (i := 17) (by kernel_rfl) rfl (by rfl) (fun K hK => ?_)
            go_simp
            refine hK.out _ _ s4 (fun _ => ?_)
            clear hK hrun4
            refine KeptAny.one (i := 18) (by kernel_rfl) rfl (by rfl) (fun K hK => ?_)
            go_simp
            refine hK.out _ _ s4 (fun _ => ?_)
            clear hK
            refine KeptAny.last (by kernel_rfl) rfl (by rfl) (fun K hK => ?_)
            go_simp
            refine hK.out _ _ ?_
            clear hK f54 s4
            refine KeptAny.done (by kernel_rfl) ?_ _
            have t5 := HZ9.out.t5.cell (i := 0) (by rfl)
            have t4 := HZ9.out.t4.cell (i := 0) (v := .slice none 0 0) (by rfl)
            have f4 := HZ9.out.t4.frozen 0
            have d4 := (HZ9.out.t4.set 0 (.slice o4 tt.length c4)).cell (i := 0) (v := .slice o4 tt.length c4) (by rfl)
            have HG9 := Lib.hid (HZ9.out.gr.other HZ9.out.t4 (by decide) (by decide) 0 (.slice o4 tt.length c4))
            have HR9 := Lib.hid ((HZ9.out.rd.far ((Below.refl _ _).setCell (p := ⟨w.heap.size + 1, 0, none⟩) (by show w.heap.size ≤ w.heap.size + 1; omega) (.slice o4 tt.length c4))).more (P' := p + 10) (by omega) (by omega))
            go_wp2
            exact bodyPost_ret (v := .agg #[.slice o4 tt.length c4]) (by simp [results, Tryz.results86, go_sem, d4]) rfl ⟨tt, _, _, rfl, HG9.out, HLT.out, HR9.out⟩
        · go_simp
          have HI3 := Lib.hid (HI2.out.step ((Below.refl _ _).alloc (Nat.le_refl _) (.cells #[.int .i64 (-1), .int .i64 0, .int .i64 1] 3)))
          have RC3 : Hid (Row (((w2.drew.alloc (.cells #[.int .i64 (-1), .int .i64 0, .int .i64 5, .int .i64 9] 3)).alloc (.cells #[.string ⟨#[120]⟩, .string ⟨#[]⟩, .string ⟨#[88]⟩, .string ⟨#[120, 121]⟩] 9)).alloc (.cells #[.int .i64 (-1), .int .i64 0, .int .i64 1] 3)) (w2.heap.size + 1 + 1) 3 [.int .i64 (-1), .int .i64 0, .int .i64 1]) := Lib.hid (by
            have h := Row.new ((w2.drew.alloc (.cells #[.int .i64 (-1), .int .i64 0, .int .i64 5, .int .i64 9] 3)).alloc (.cells #[.string ⟨#[120]⟩, .string ⟨#[]⟩, .string ⟨#[88]⟩, .string ⟨#[120, 121]⟩] 9)) [.int .i64 (-1), .int .i64 0, .int .i64 1] 3
            simp only [World.size_alloc] at h
            exact h)
          have RA3 := Lib.hid (RA2.out.alloc (.cells #[.int .i64 (-1), .int .i64 0, .int .i64 1] 3))
          have RB3 := Lib.hid (RB2.out.alloc (.cells #[.int .i64 (-1), .int .i64 0, .int .i64 1] 3))
          refine hK.out _ _ (HI3.out.t5.cell (i := 0) (v := .slice o1 ss.length c1) (by rfl)) (fun _ => ?_)
          clear hK
          refine KeptAny.one (i := 4) (by kernel_rfl) rfl (by rfl) (fun K hK => ?_)
          go_simp
          refine ⟨trivial, ?_⟩
          obtain ⟨q4, hq4, hrd4⟩ := HI3.out.rd.rd
          have hbr := RA3.out.neq (HI3.out.rd.now.choose_spec.2) (by decide)
          have hC := (callsIn_wide (n := 5)).2 (num_row hrd4 (by omega) (xs := [-1, 0, 5, 9]) RA3.out hbr (by decide) (by decide))
          refine hC.mono ?_
          clear hC hrd4 hbr
          rintro e w14 ⟨pa, hpa, rfl, hr4⟩
          have HI4 := Lib.hid (HI3.out.asked hq4 hr4 (by omega))
          have hbr := RB3.out.neq (HI3.out.rd.now.choose_spec.2) (by decide)
          have RB4 := Lib.hid (RB3.out.asked hr4.turns hbr)
          clear hbr
          have hbr := RC3.out.neq (HI3.out.rd.now.choose_spec.2) (by decide)
          have RC4 := Lib.hid (RC3.out.asked hr4.turns hbr)
          clear hbr
          have HPA := Lib.hid hpa
          clear hr4 hpa
          refine hK.out _ _ (HI4.out.t5.cell (i := 0) (v := .slice o1 ss.length c1) (by rfl)) (fun _ => ?_)
          clear hK
          refine KeptAny.one (i := 6) (by kernel_rfl) rfl (by rfl) (fun K hK => ?_)
          go_simp
          refine ⟨trivial, ?_⟩
          obtain ⟨q5, hq5, hrd5⟩ := HI4.out.rd.rd
          have hC := (callsIn_wide (n := 5)).2 (pick_any hrd5 (by omega) 5 (by omega))
          refine hC.mono ?_
          clear hC hrd5
          rintro e w15 ⟨kd, rfl, -, hkd, hr5⟩
          have HI5 := Lib.hid (HI4.out.asked hq5 hr5 (by omega))
          have hbr := RB4.out.neq (HI4.out.rd.now.choose_spec.2) (by decide)
          have RB5 := Lib.hid (RB4.out.asked hr5.turns hbr)
          clear hbr
          have hbr := RC4.out.neq (HI4.out.rd.now.choose_spec.2) (by decide)
          have RC5 := Lib.hid (RC4.out.asked hr5.turns hbr)
          clear hbr
          have HKD := Lib.hid hkd
          clear hr5 hkd
          refine hK.out _ _ (HI5.out.t5.cell (i := 0) (v := .slice o1 ss.length c1) (by rfl)) (fun _ => ?_)
          clear hK
          refine KeptAny.one (i := 9) (by kernel_rfl) rfl (by rfl) (fun K hK => ?_)
          go_simp
          refine ⟨trivial, ?_⟩
          obtain ⟨q6, hq6, hrd6⟩ := HI5.out.rd.rd
          have hbr := RB5.out.neq (HI5.out.rd.now.choose_spec.2) (by decide)
          have hC := (callsIn_wide (n := 5)).2 (of_row hrd6 (by omega) (xs := [⟨#[120]⟩, ⟨#[]⟩, ⟨#[88]⟩, ⟨#[120, 121]⟩]) RB5.out hbr (by decide) (by decide))
          refine hC.mono ?_
          clear hC hrd6 hbr
          rintro e w16 ⟨nm, hnm, rfl, hr6⟩
          have HI6 := Lib.hid (HI5.out.asked hq6 hr6 (by omega))
          have hbr := RC5.out.neq (HI5.out.rd.now.choose_spec.2) (by decide)
          have RC6 := Lib.hid (RC5.out.asked hr6.turns hbr)
          clear hbr
          have HNM := Lib.hid hnm
          clear hr6 hnm
          refine hK.out _ _ (HI6.out.t5.cell (i := 0) (v := .slice o1 ss.length c1) (by rfl)) (fun _ => ?_)
          clear hK
          refine KeptAny.one (i := 12) (by kernel_rfl) rfl (by rfl) (fun K hK => ?_)
          go_simp
          refine ⟨trivial, ?_⟩
          obtain ⟨q7, hq7, hrd7⟩ := HI6.out.rd.rd
          have hbr := RC6.out.neq (HI6.out.rd.now.choose_spec.2) (by decide)
          have hC := (callsIn_wide (n := 5)).2 (num_row hrd7 (by omega) (xs := [-1, 0, 1]) RC6.out hbr (by decide) (by decide))
          refine hC.mono ?_
          clear hC hrd7 hbr
          rintro e w17 ⟨sc, hsc, rfl, hr7⟩
          have HI7 := Lib.hid (HI6.out.asked hq7 hr7 (by omega))
          have HSC := Lib.hid hsc
          clear hr7 hsc
          refine hK.out _ _ (HI7.out.t5.cell (i := 0) (v := .slice o1 ss.length c1) (by rfl)) (fun _ => ?_)
          clear hK
          refine KeptAny.one (i := 13) (by kernel_rfl) rfl (by rfl) (fun K hK => ?_)
          go_simp
          refine hK.out _ _ (HI7.out.t5.cell (i := 0) (v := .slice o1 ss.length c1) (by rfl)) (fun _ => ?_)
          clear hK
          refine KeptAny.one (i := 14) (by kernel_rfl) rfl (by rfl) (fun K hK => ?_)
          go_simp
          have HJ1 := Lib.hid (HI7.out.step ((Below.refl _ _).alloc (Nat.le_refl _) (.cells #[.int .i64 (kd : Int), .string nm, .int .i64 sc] 37)))
          refine hK.out _ _ (HJ1.out.t5.cell (i := 0) (v := .slice o1 ss.length c1) (by rfl)) (fun _ => ?_)
          clear hK
          refine KeptAny.one (i := 15) (by kernel_rfl) rfl (by rfl) (fun K hK => ?_)
          go_simp
          refine hK.out _ _ (HJ1.out.t5.cell (i := 0) (v := .slice o1 ss.length c1) (by rfl)) (fun _ => ?_)
          clear hK
          refine KeptAny.one (i := 16) (by kernel_rfl) rfl (by rfl) (fun K hK => ?_)
          go_simp
          have HJ2 := Lib.hid (HJ1.out.step ((Below.refl _ _).alloc (Nat.le_refl _) (.cells #[.int .i64 pa, .slice (some ⟨w17.heap.size, 0, none⟩) 1 1] 156)))
          refine hK.out _ _ (HJ2.out.t5.cell (i := 0) (v := .slice o1 ss.length c1) (by rfl)) (fun _ => ?_)
          clear hK
          have hone := HeldGr.single w17 pa (kd : Int) sc nm
          obtain ⟨v4, w4, hrun4, hg4, hgrow4⟩ := append_scopes HJ2.out.gr hone (by simp; omega) HJ2.out.rd.turns.size 31
          have hb4 : Below w.heap.size _ w4 := below_row HJ2.out.gr.row (Nat.le_refl _) hgrow4 HJ2.out.rd.turns.size
          have h44 := HJ2.out.t4.grown hgrow4 (own_row_ne HJ2.out.t4 HJ2.out.gr.row (by decide))
          have h54 := HJ2.out.t5.grown hgrow4 (own_row_ne HJ2.out.t5 HJ2.out.gr.row (by decide))
          have hLT : Lit1 210 (ss ++ [⟨pa, [⟨(kd : Int), nm, sc⟩]⟩]) := (HL.out.append (bad_lit HPA.out HKD.out HNM.out HSC.out)).mono (by omega)
          obtain ⟨tt, htt⟩ : ∃ tt, ss ++ [(⟨pa, [⟨(kd : Int), nm, sc⟩]⟩ : Sc)] = tt := ⟨_, rfl⟩
          rw [htt] at hg4 hLT
          obtain ⟨ks, hks⟩ : ∃ ks, hs ++ [Value.slice (some ⟨w17.heap.size, 0, none⟩) 1 1] = ks := ⟨_, rfl⟩
          rw [hks] at hg4
          obtain ⟨o4, c4, rfl, -⟩ := hg4.holds
          have HLT := Lib.hid hLT
          have f54 := h54.frozen 0
          have HZ9 : Hid (BadAt w (w4.setCell ⟨w1.heap.size, 0, none⟩ (.slice o4 tt.length c4)) r oa len cap (p + 1 + 1 + 1 + 1 + 1) w1.heap.size (.slice o4 tt.length c4) tt ks) := Lib.hid
            ⟨(HJ2.out.rd.far hb4).far ((Below.refl _ _).setCell (p := ⟨w1.heap.size, 0, none⟩) HJ2.out.low _), h44.other (by have := HJ2.out.ne; omega) _, h54.set 0 _, HJ2.out.low, HJ2.out.ne, hg4.other h54 (by decide) (by decide) 0 _⟩
          have s4 := h54.cell (i := 0) (v := .slice o1 ss.length c1) (by rfl)
          simp [go_sem] at hrun4
          clear hg4 hgrow4 hb4 h44 h54 hone htt hks hLT
          refine KeptAny.one (i := 17) (by kernel_rfl) rfl (by rfl) (fun K hK => ?_)
          go_simp
          refine hK.out _ _ s4 (fun _ => ?_)
          clear hK hrun4
          refine KeptAny.one (i := 18) (by kernel_rfl) rfl (by rfl) (fun K hK => ?_)
          go_simp
          refine hK.out _ _ s4 (fun _ => ?_)
          clear hK
          refine KeptAny.last (by kernel_rfl) rfl (by rfl) (fun K hK => ?_)
          go_simp
          refine hK.out _ _ ?_
          clear hK f54 s4
          refine KeptAny.done (by kernel_rfl) ?_ _
          have t5 := HZ9.out.t5.cell (i := 0) (by rfl)
          have t4 := HZ9.out.t4.cell (i := 0) (v := .slice none 0 0) (by rfl)
          have f4 := HZ9.out.t4.frozen 0
          have d4 := (HZ9.out.t4.set 0 (.slice o4 tt.length c4)).cell (i := 0) (v := .slice o4 tt.length c4) (by rfl)
          have HG9 := Lib.hid (HZ9.out.gr.other HZ9.out.t4 (by decide) (by decide) 0 (.slice o4 tt.length c4))
          have HR9 := Lib.hid ((HZ9.out.rd.far ((Below.refl _ _).setCell (p := ⟨w.heap.size + 1, 0, none⟩) (by show w.heap.size ≤ w.heap.size + 1; omega) (.slice o4 tt.length c4))).more (P' := p + 10) (by omega) (by omega))
          go_wp2
          exact bodyPost_ret (v := .agg #[.slice o4 tt.length c4]) (by simp [results, Tryz.results86, go_sem, d4]) rfl ⟨tt, _, _, rfl, HG9.out, HLT.out, HR9.out⟩
      · go_simp
        have HI2 := Lib.hid (HI1.out.step ((Below.refl _ _).alloc (Nat.le_refl _) (.cells #[.int .i64 (-1), .int .i64 0, .int .i64 1] 3)))
        have RC2 : Hid (Row ((w2.drew.alloc (.cells #[.int .i64 (-1), .int .i64 0, .int .i64 5, .int .i64 9] 3)).alloc (.cells #[.int .i64 (-1), .int .i64 0, .int .i64 1] 3)) (w2.heap.size + 1) 3 [.int .i64 (-1), .int .i64 0, .int .i64 1]) := Lib.hid (by
          have h := Row.new (w2.drew.alloc (.cells #[.int .i64 (-1), .int .i64 0, .int .i64 5, .int .i64 9] 3)) [.int .i64 (-1), .int .i64 0, .int .i64 1] 3
          simp only [World.size_alloc] at h
          exact h)
        have RA2 := Lib.hid (RA1.out.alloc (.cells #[.int .i64 (-1), .int .i64 0, .int .i64 1] 3))
        refine hK.out _ _ (HI2.out.t5.cell (i := 0) (v := .slice o1 ss.length c1) (by rfl)) (fun _ => ?_)
        clear hK
        refine KeptAny.two (i := 4) (j := 8) (by kernel_rfl) ⟨_, rfl, by rfl, fun K hK => ?_⟩ ⟨_, rfl, by rfl, fun K hK => ?_⟩
        · go_simp
          refine ⟨trivial, ?_⟩
          obtain ⟨q3, hq3, hrd3⟩ := HI2.out.rd.rd
          have hbr := RA2.out.neq (HI2.out.rd.now.choose_spec.2) (by decide)
          have hC := (callsIn_wide (n := 5)).2 (num_row hrd3 (by omega) (xs := [-1, 0, 5, 9]) RA2.out hbr (by decide) (by decide))
          refine hC.mono ?_
          clear hC hrd3 hbr
          rintro e w13 ⟨pa, hpa, rfl, hr3⟩
          have HI3 := Lib.hid (HI2.out.asked hq3 hr3 (by omega))
          have hbr := RC2.out.neq (HI2.out.rd.now.choose_spec.2) (by decide)
          have RC3 := Lib.hid (RC2.out.asked hr3.turns hbr)
          clear hbr
          have HPA := Lib.hid hpa
          clear hr3 hpa
          refine hK.out _ _ (HI3.out.t5.cell (i := 0) (v := .slice o1 ss.length c1) (by rfl)) (fun _ => ?_)
          clear hK
          refine KeptAny.two (i := 6) (j := 8) (by kernel_rfl) ⟨_, rfl, by rfl, fun K hK => ?_⟩ ⟨_, rfl, by rfl, fun K hK => ?_⟩
          · go_simp
            refine ⟨trivial, ?_⟩
            obtain ⟨q4, hq4, hrd4⟩ := HI3.out.rd.rd
            have hC := (callsIn_wide (n := 5)).2 (pick_any hrd4 (by omega) 5 (by omega))
            refine hC.mono ?_
            clear hC hrd4
            rintro e w14 ⟨kd, rfl, -, hkd, hr4⟩
            have HI4 := Lib.hid (HI3.out.asked hq4 hr4 (by omega))
            have hbr := RC3.out.neq (HI3.out.rd.now.choose_spec.2) (by decide)
            have RC4 := Lib.hid (RC3.out.asked hr4.turns hbr)
            clear hbr
            have HKD := Lib.hid hkd
            clear hr4 hkd
            refine hK.out _ _ (HI4.out.t5.cell (i := 0) (v := .slice o1 ss.length c1) (by rfl)) (fun _ => ?_)
            clear hK
            refine KeptAny.one (i := 8) (by kernel_rfl) rfl (by rfl) (fun K hK => ?_)
            go_simp
            have HI5 := Lib.hid (HI4.out.step ((Below.refl _ _).alloc (Nat.le_refl _) (.cells #[.string ⟨#[120]⟩, .string ⟨#[]⟩, .string ⟨#[88]⟩, .string ⟨#[120, 121]⟩] 9)))
            have RB5 := Lib.hid (Row.new w14 [.string ⟨#[120]⟩, .string ⟨#[]⟩, .string ⟨#[88]⟩, .string ⟨#[120, 121]⟩] 9)
            have RC5 := Lib.hid (RC4.out.alloc (.cells #[.string ⟨#[120]⟩, .string ⟨#[]⟩, .string ⟨#[88]⟩, .string ⟨#[120, 121]⟩] 9))
            refine hK.out _ _ (HI5.out.t5.cell (i := 0) (v := .slice o1 ss.length c1) (by rfl)) (fun _ => ?_)
            clear hK
            refine KeptAny.one (i := 9) (by kernel_rfl) rfl (by rfl) (fun K hK => ?_)
            go_simp
            refine ⟨trivial, ?_⟩
            obtain ⟨q6, hq6, hrd6⟩ := HI5.out.rd.rd
            have hbr := RB5.out.neq (HI5.out.rd.now.choose_spec.2) (by decide)
            have hC := (callsIn_wide (n := 5)).2 (of_row hrd6 (by omega) (xs := [⟨#[120]⟩, ⟨#[]⟩, ⟨#[88]⟩, ⟨#[120, 121]⟩]) RB5.out hbr (by decide) (by decide))
            refine hC.mono ?_
            clear hC hrd6 hbr
            rintro e w16 ⟨nm, hnm, rfl, hr6⟩
            have HI6 := Lib.hid (HI5.out.asked hq6 hr6 (by omega))
            have hbr := RC5.out.neq (HI5.out.rd.now.choose_spec.2) (by decide)
            have RC6 := Lib.hid (RC5.out.asked hr6.turns hbr)
            clear hbr
            have HNM := Lib.hid hnm
            clear hr6 hnm
            refine hK.out _ _ (HI6.out.t5.cell (i := 0) (v := .slice o1 ss.length c1) (by rfl)) (fun _ => ?_)
            clear hK
            refine KeptAny.one (i := 12) (by kernel_rfl) rfl (by rfl) (fun K hK => ?_)
            go_simp
            refine ⟨trivial, ?_⟩
            obtain ⟨q7, hq7, hrd7⟩ := HI6.out.rd.rd
            have hbr := RC6.out.neq (HI6.out.rd.now.choose_spec.2) (by decide)
            have hC := (callsIn_wide (n := 5)).2 (num_row hrd7 (by omega) (xs := [-1, 0, 1]) RC6.out hbr (by decide) (by decide))
            refine hC.mono ?_
            clear hC hrd7 hbr
            rintro e w17 ⟨sc, hsc, rfl, hr7⟩
            have HI7 := Lib.hid (HI6.out.asked hq7 hr7 (by omega))
            have HSC := Lib.hid hsc
            clear hr7 hsc
            refine hK.out _ _ (HI7.out.t5.cell (i := 0) (v := .slice o1 ss.length c1) (by rfl)) (fun _ => ?_)
            clear hK
            refine KeptAny.one (i := 13) (by kernel_rfl) rfl (by rfl) (fun K hK => ?_)
            go_simp
            refine hK.out _ _ (HI7.out.t5.cell (i := 0) (v := .slice o1 ss.length c1) (by rfl)) (fun _ => ?_)
            clear hK
            refine KeptAny.one (i := 14) (by kernel_rfl) rfl (by rfl) (fun K hK => ?_)
            go_simp
            have HJ1 := Lib.hid (HI7.out.step ((Below.refl _ _).alloc (Nat.le_refl _) (.cells #[.int .i64 (kd : Int), .string nm, .int .i64 sc] 37)))
            refine hK.out _ _ (HJ1.out.t5.cell (i := 0) (v := .slice o1 ss.length c1) (by rfl)) (fun _ => ?_)
            clear hK
            refine KeptAny.one (i := 15) (by kernel_rfl) rfl (by rfl) (fun K hK => ?_)
            go_simp
            refine hK.out _ _ (HJ1.out.t5.cell (i := 0) (v := .slice o1 ss.length c1) (by rfl)) (fun _ => ?_)
            clear hK
            refine KeptAny.one (i := 16) (by kernel_rfl) rfl (by rfl) (fun K hK => ?_)
            go_simp
            have HJ2 := Lib.hid (HJ1.out.step ((Below.refl _ _).alloc (Nat.le_refl _) (.cells #[.int .i64 pa, .slice (some ⟨w17.heap.size, 0, none⟩) 1 1] 156)))
            refine hK.out _ _ (HJ2.out.t5.cell (i := 0) (v := .slice o1 ss.length c1) (by rfl)) (fun _ => ?_)
            clear hK
            have hone := HeldGr.single w17 pa (kd : Int) sc nm
            obtain ⟨v4, w4, hrun4, hg4, hgrow4⟩ := append_scopes HJ2.out.gr hone (by simp; omega) HJ2.out.rd.turns.size 31
            have hb4 : Below w.heap.size _ w4 := below_row HJ2.out.gr.row (Nat.le_refl _) hgrow4 HJ2.out.rd.turns.size
            have h44 := HJ2.out.t4.grown hgrow4 (own_row_ne HJ2.out.t4 HJ2.out.gr.row (by decide))
            have h54 := HJ2.out.t5.grown hgrow4 (own_row_ne HJ2.out.t5 HJ2.out.gr.row (by decide))
            have hLT : Lit1 210 (ss ++ [⟨pa, [⟨(kd : Int), nm, sc⟩]⟩]) := (HL.out.append (bad_lit HPA.out HKD.out HNM.out HSC.out)).mono (by omega)
            obtain ⟨tt, htt⟩ : ∃ tt, ss ++ [(⟨pa, [⟨(kd : Int), nm, sc⟩]⟩ : Sc)] = tt := ⟨_, rfl⟩
            rw [htt] at hg4 hLT
            obtain ⟨ks, hks⟩ : ∃ ks, hs ++ [Value.slice (some ⟨w17.heap.size, 0, none⟩) 1 1] = ks := ⟨_, rfl⟩
            rw [hks] at hg4
            obtain ⟨o4, c4, rfl, -⟩ := hg4.holds
            have HLT := Lib.hid hLT
            have f54 := h54.frozen 0
            have HZ9 : Hid (BadAt w (w4.setCell ⟨w1.heap.size, 0, none⟩ (.slice o4 tt.length c4)) r oa len cap (p + 1 + 1 + 1 + 1 + 1) w1.heap.size (.slice o4 tt.length c4) tt ks) := Lib.hid
              ⟨(HJ2.out.rd.far hb4).far ((Below.refl _ _).setCell (p := ⟨w1.heap.size, 0, none⟩) HJ2.out.low _), h44.other (by have := HJ2.out.ne; omega) _, h54.set 0 _, HJ2.out.low, HJ2.out.ne, hg4.other h54 (by decide) (by decide) 0 _⟩
            have s4 := h54.cell (i := 0) (v := .slice o1 ss.length c1) (by rfl)
            simp [go_sem] at hrun4
            clear hg4 hgrow4 hb4 h44 h54 hone htt hks hLT
            refine KeptAny.one (i := 17) (by kernel_rfl) rfl (by rfl) (fun K hK => ?_)
            go_simp
            refine hK.out _ _ s4 (fun _ => ?_)
            clear hK hrun4
            refine KeptAny.one (i := 18) (by kernel_rfl) rfl (by rfl) (fun K hK => ?_)
            go_simp
            refine hK.out _ _ s4 (fun _ => ?_)
            clear hK
            refine KeptAny.last (by kernel_rfl) rfl (by rfl) (fun K hK => ?_)
            go_simp
            refine hK.out _ _ ?_
            clear hK f54 s4
            refine KeptAny.done (by kernel_rfl) ?_ _
            have t5 := HZ9.out.t5.cell (i := 0) (by rfl)
            have t4 := HZ9.out.t4.cell (i := 0) (v := .slice none 0 0) (by rfl)
            have f4 := HZ9.out.t4.frozen 0
            have d4 := (HZ9.out.t4.set 0 (.slice o4 tt.length c4)).cell (i := 0) (v := .slice o4 tt.length c4) (by rfl)
            have HG9 := Lib.hid (HZ9.out.gr.other HZ9.out.t4 (by decide) (by decide) 0 (.slice o4 tt.length c4))
            have HR9 := Lib.hid ((HZ9.out.rd.far ((Below.refl _ _).setCell (p := ⟨w.heap.size + 1, 0, none⟩) (by show w.heap.size ≤ w.heap.size + 1; omega) (.slice o4 tt.length c4))).more (P' := p + 10) (by omega) (by omega))
            go_wp2
            exact bodyPost_ret (v := .agg #[.slice o4 tt.length c4]) (by simp [results, Tryz.results86, go_sem, d4]) rfl ⟨tt, _, _, rfl, HG9.out, HLT.out, HR9.out⟩
          · go_simp
            have HI4 := Lib.hid (HI3.out.step ((Below.refl _ _).alloc (Nat.le_refl _) (.cells #[.string ⟨#[120]⟩, .string ⟨#[]⟩, .string ⟨#[88]⟩, .string ⟨#[120, 121]⟩] 9)))
            have RB4 := Lib.hid (Row.new w13 [.string ⟨#[120]⟩, .string ⟨#[]⟩, .string ⟨#[88]⟩, .string ⟨#[120, 121]⟩] 9)
            have RC4 := Lib.hid (RC3.out.alloc (.cells #[.string ⟨#[120]⟩, .string ⟨#[]⟩, .string ⟨#[88]⟩, .string ⟨#[120, 121]⟩] 9))
            refine hK.out _ _ (HI4.out.t5.cell (i := 0) (v := .slice o1 ss.length c1) (by rfl)) (fun _ => ?_)
            clear hK
            refine KeptAny.one (i := 6) (by kernel_rfl) rfl (by rfl) (fun K hK => ?_)
            go_simp
            refine ⟨trivial, ?_⟩
            obtain ⟨q5, hq5, hrd5⟩ := HI4.out.rd.rd
            have hC := (callsIn_wide (n := 5)).2 (pick_any hrd5 (by omega) 5 (by omega))
            refine hC.mono ?_
            clear hC hrd5
            rintro e w15 ⟨kd, rfl, -, hkd, hr5⟩
            have HI5 := Lib.hid (HI4.out.asked hq5 hr5 (by omega))
            have hbr := RC4.out.neq (HI4.out.rd.now.choose_spec.2) (by decide)
            have RC5 := Lib.hid (RC4.out.asked hr5.turns hbr)
            clear hbr
            have hbr := RB4.out.neq (HI4.out.rd.now.choose_spec.2) (by decide)
            have RB5 := Lib.hid (RB4.out.asked hr5.turns hbr)
            clear hbr
            have HKD := Lib.hid hkd
            clear hr5 hkd
            refine hK.out _ _ (HI5.out.t5.cell (i := 0) (v := .slice o1 ss.length c1) (by rfl)) (fun _ => ?_)
            clear hK
            refine KeptAny.one (i := 9) (by kernel_rfl) rfl (by rfl) (fun K hK => ?_)
            go_simp
            refine ⟨trivial, ?_⟩
            obtain ⟨q6, hq6, hrd6⟩ := HI5.out.rd.rd
            have hbr := RB5.out.neq (HI5.out.rd.now.choose_spec.2) (by decide)
            have hC := (callsIn_wide (n := 5)).2 (of_row hrd6 (by omega) (xs := [⟨#[120]⟩, ⟨#[]⟩, ⟨#[88]⟩, ⟨#[120, 121]⟩]) RB5.out hbr (by decide) (by decide))
            refine hC.mono ?_
            clear hC hrd6 hbr
            rintro e w16 ⟨nm, hnm, rfl, hr6⟩
            have HI6 := Lib.hid (HI5.out.asked hq6 hr6 (by omega))
            have hbr := RC5.out.neq (HI5.out.rd.now.choose_spec.2) (by decide)
            have RC6 := Lib.hid (RC5.out.asked hr6.turns hbr)
            clear hbr
            have HNM := Lib.hid hnm
            clear hr6 hnm
            refine hK.out _ _ (HI6.out.t5.cell (i := 0) (v := .slice o1 ss.length c1) (by rfl)) (fun _ => ?_)
            clear hK
            refine KeptAny.one (i := 12) (by kernel_rfl) rfl (by rfl) (fun K hK => ?_)
            go_simp
            refine ⟨trivial, ?_⟩
            obtain ⟨q7, hq7, hrd7⟩ := HI6.out.rd.rd
            have hbr := RC6.out.neq (HI6.out.rd.now.choose_spec.2) (by decide)
            have hC := (callsIn_wide (n := 5)).2 (num_row hrd7 (by omega) (xs := [-1, 0, 1]) RC6.out hbr (by decide) (by decide))
            refine hC.mono ?_
            clear hC hrd7 hbr
            rintro e w17 ⟨sc, hsc, rfl, hr7⟩
            have HI7 := Lib.hid (HI6.out.asked hq7 hr7 (by omega))
            have HSC := Lib.hid hsc
            clear hr7 hsc
            refine hK.out _ _ (HI7.out.t5.cell (i := 0) (v := .slice o1 ss.length c1) (by rfl)) (fun _ => ?_)
            clear hK
            refine KeptAny.one (i := 13) (by kernel_rfl) rfl (by rfl) (fun K hK => ?_)
            go_simp
            refine hK.out _ _ (HI7.out.t5.cell (i := 0) (v := .slice o1 ss.length c1) (by rfl)) (fun _ => ?_)
            clear hK
            refine KeptAny.one (i := 14) (by kernel_rfl) rfl (by rfl) (fun K hK => ?_)
            go_simp
            have HJ1 := Lib.hid (HI7.out.step ((Below.refl _ _).alloc (Nat.le_refl _) (.cells #[.int .i64 (kd : Int), .string nm, .int .i64 sc] 37)))
            refine hK.out _ _ (HJ1.out.t5.cell (i := 0) (v := .slice o1 ss.length c1) (by rfl)) (fun _ => ?_)
            clear hK
            refine KeptAny.one (i := 15) (by kernel_rfl) rfl (by rfl) (fun K hK => ?_)
            go_simp
            refine hK.out _ _ (HJ1.out.t5.cell (i := 0) (v := .slice o1 ss.length c1) (by rfl)) (fun _ => ?_)
            clear hK
            refine KeptAny.one (i := 16) (by kernel_rfl) rfl (by rfl) (fun K hK => ?_)
            go_simp
            have HJ2 := Lib.hid (HJ1.out.step ((Below.refl _ _).alloc (Nat.le_refl _) (.cells #[.int .i64 pa, .slice (some ⟨w17.heap.size, 0, none⟩) 1 1] 156)))
            refine hK.out _ _ (HJ2.out.t5.cell (i := 0) (v := .slice o1 ss.length c1) (by rfl)) (fun _ => ?_)
            clear hK
            have hone := HeldGr.single w17 pa (kd : Int) sc nm
            obtain ⟨v4, w4, hrun4, hg4, hgrow4⟩ := append_scopes HJ2.out.gr hone (by simp; omega) HJ2.out.rd.turns.size 31
            have hb4 : Below w.heap.size _ w4 := below_row HJ2.out.gr.row (Nat.le_refl _) hgrow4 HJ2.out.rd.turns.size
            have h44 := HJ2.out.t4.grown hgrow4 (own_row_ne HJ2.out.t4 HJ2.out.gr.row (by decide))
            have h54 := HJ2.out.t5.grown hgrow4 (own_row_ne HJ2.out.t5 HJ2.out.gr.row (by decide))
            have hLT : Lit1 210 (ss ++ [⟨pa, [⟨(kd : Int), nm, sc⟩]⟩]) := (HL.out.append (bad_lit HPA.out HKD.out HNM.out HSC.out)).mono (by omega)
            obtain ⟨tt, htt⟩ : ∃ tt, ss ++ [(⟨pa, [⟨(kd : Int), nm, sc⟩]⟩ : Sc)] = tt := ⟨_, rfl⟩
            rw [htt] at hg4 hLT
            obtain ⟨ks, hks⟩ : ∃ ks, hs ++ [Value.slice (some ⟨w17.heap.size, 0, none⟩) 1 1] = ks := ⟨_, rfl⟩
            rw [hks] at hg4
            obtain ⟨o4, c4, rfl, -⟩ := hg4.holds
            have HLT := Lib.hid hLT
            have f54 := h54.frozen 0
            have HZ9 : Hid (BadAt w (w4.setCell ⟨w1.heap.size, 0, none⟩ (.slice o4 tt.length c4)) r oa len cap (p + 1 + 1 + 1 + 1 + 1) w1.heap.size (.slice o4 tt.length c4) tt ks) := Lib.hid
              ⟨(HJ2.out.rd.far hb4).far ((Below.refl _ _).setCell (p := ⟨w1.heap.size, 0, none⟩) HJ2.out.low _), h44.other (by have := HJ2.out.ne; omega) _, h54.set 0 _, HJ2.out.low, HJ2.out.ne, hg4.other h54 (by decide) (by decide) 0 _⟩
            have s4 := h54.cell (i := 0) (v := .slice o1 ss.length c1) (by rfl)
            simp [go_sem] at hrun4
            clear hg4 hgrow4 hb4 h44 h54 hone htt hks hLT
            refine KeptAny.one (i := 17) (by kernel_rfl) rfl (by rfl) (fun K hK => ?_)
            go_simp
            refine hK.out _ _ s4 (fun _ => ?_)
            clear hK hrun4
            refine KeptAny.one (i := 18) (by kernel_rfl) rfl (by rfl) (fun K hK => ?_)
            go_simp
            refine hK.out _ _ s4 (fun _ => ?_)
            clear hK
            refine KeptAny.last (by kernel_rfl) rfl (by rfl) (fun K hK => ?_)
            go_simp
            refine hK.out _ _ ?_
            clear hK f54 s4
            refine KeptAny.done (by kernel_rfl) ?_ _
            have t5 := HZ9.out.t5.cell (i := 0) (by rfl)
            have t4 := HZ9.out.t4.cell (i := 0) (v := .slice none 0 0) (by rfl)
            have f4 := HZ9.out.t4.frozen 0
            have d4 := (HZ9.out.t4.set 0 (.slice o4 tt.length c4)).cell (i := 0) (v := .slice o4 tt.length c4) (by rfl)
            have HG9 := Lib.hid (HZ9.out.gr.other HZ9.out.t4 (by decide) (by decide) 0 (.slice o4 tt.length c4))
            have HR9 := Lib.hid ((HZ9.out.rd.far ((Below.refl _ _).setCell (p := ⟨w.heap.size + 1, 0, none⟩) (by show w.heap.size ≤ w.heap.size + 1; omega) (.slice o4 tt.length c4))).more (P' := p + 10) (by omega) (by omega))
            go_wp2
            exact bodyPost_ret (v := .agg #[.slice o4 tt.length c4]) (by simp [results, Tryz.results86, go_sem, d4]) rfl ⟨tt, _, _, rfl, HG9.out, HLT.out, HR9.out⟩
        · go_simp
          have HI3 := Lib.hid (HI2.out.step ((Below.refl _ _).alloc (Nat.le_refl _) (.cells #[.string ⟨#[120]⟩, .string ⟨#[]⟩, .string ⟨#[88]⟩, .string ⟨#[120, 121]⟩] 9)))
          have RB3 : Hid (Row (((w2.drew.alloc (.cells #[.int .i64 (-1), .int .i64 0, .int .i64 5, .int .i64 9] 3)).alloc (.cells #[.int .i64 (-1), .int .i64 0, .int .i64 1] 3)).alloc (.cells #[.string ⟨#[120]⟩, .string ⟨#[]⟩, .string ⟨#[88]⟩, .string ⟨#[120, 121]⟩] 9)) (w2.heap.size + 1 + 1) 9 [.string ⟨#[120]⟩, .string ⟨#[]⟩, .string ⟨#[88]⟩, .string ⟨#[120, 121]⟩]) := Lib.hid (by
            have h := Row.new ((w2.drew.alloc (.cells #[.int .i64 (-1), .int .i64 0, .int .i64 5, .int .i64 9] 3)).alloc (.cells #[.int .i64 (-1), .int .i64 0, .int .i64 1] 3)) [.string ⟨#[120]⟩, .string ⟨#[]⟩, .string ⟨#[88]⟩, .string ⟨#[120, 121]⟩] 9
            simp only [World.size_alloc] at h
            exact h)
          have RA3 := Lib.hid (RA2.out.alloc (.cells #[.string ⟨#[120]⟩, .string ⟨#[]⟩, .string ⟨#[88]⟩, .string ⟨#[120, 121]⟩] 9))
          have RC3 := Lib.hid (RC2.out.alloc (.cells #[.string ⟨#[120]⟩, .string ⟨#[]⟩, .string ⟨#[88]⟩, .string ⟨#[120, 121]⟩] 9))
          refine hK.out _ _ (HI3.out.t5.cell (i := 0) (v := .slice o1 ss.length c1) (by rfl)) (fun _ => ?_)
          clear hK
          refine KeptAny.one (i := 4) (by kernel_rfl) rfl (by rfl) (fun K hK => ?_)
          go_simp
          refine ⟨trivial, ?_⟩
          obtain ⟨q4, hq4, hrd4⟩ := HI3.out.rd.rd
          have hbr := RA3.out.neq (HI3.out.rd.now.choose_spec.2) (by decide)
          have hC := (callsIn_wide (n := 5)).2 (num_row hrd4 (by omega) (xs := [-1, 0, 5, 9]) RA3.out hbr (by decide) (by decide))
          refine hC.mono ?_
          clear hC hrd4 hbr
          rintro e w14 ⟨pa, hpa, rfl, hr4⟩
          have HI4 := Lib.hid (HI3.out.asked hq4 hr4 (by omega))
          have hbr := RC3.out.neq (HI3.out.rd.now.choose_spec.2) (by decide)
          have RC4 := Lib.hid (RC3.out.asked hr4.turns hbr)
          clear hbr
          have hbr := RB3.out.neq (HI3.out.rd.now.choose_spec.2) (by decide)
          have RB4 := Lib.hid (RB3.out.asked hr4.turns hbr)
          clear hbr
          have HPA := Lib.hid hpa
          clear hr4 hpa
          refine hK.out _ _ (HI4.out.t5.cell (i := 0) (v := .slice o1 ss.length c1) (by rfl)) (fun _ => ?_)
          clear hK
          refine KeptAny.one (i := 6) (by kernel_rfl) rfl (by rfl) (fun K hK => ?_)
          go_simp
          refine ⟨trivial, ?_⟩
          obtain ⟨q5, hq5, hrd5⟩ := HI4.out.rd.rd
          have hC := (callsIn_wide (n := 5)).2 (pick_any hrd5 (by omega) 5 (by omega))
          refine hC.mono ?_
          clear hC hrd5
          rintro e w15 ⟨kd, rfl, -, hkd, hr5⟩
          have HI5 := Lib.hid (HI4.out.asked hq5 hr5 (by omega))
          have hbr := RC4.out.neq (HI4.out.rd.now.choose_spec.2) (by decide)
          have RC5 := Lib.hid (RC4.out.asked hr5.turns hbr)
          clear hbr
          have hbr := RB4.out.neq (HI4.out.rd.now.choose_spec.2) (by decide)
          have RB5 := Lib.hid (RB4.out.asked hr5.turns hbr)
          clear hbr
          have HKD := Lib.hid hkd
          clear hr5 hkd
          refine hK.out _ _ (HI5.out.t5.cell (i := 0) (v := .slice o1 ss.length c1) (by rfl)) (fun _ => ?_)
          clear hK
          refine KeptAny.one (i := 9) (by kernel_rfl) rfl (by rfl) (fun K hK => ?_)
          go_simp
          refine ⟨trivial, ?_⟩
          obtain ⟨q6, hq6, hrd6⟩ := HI5.out.rd.rd
          have hbr := RB5.out.neq (HI5.out.rd.now.choose_spec.2) (by decide)
          have hC := (callsIn_wide (n := 5)).2 (of_row hrd6 (by omega) (xs := [⟨#[120]⟩, ⟨#[]⟩, ⟨#[88]⟩, ⟨#[120, 121]⟩]) RB5.out hbr (by decide) (by decide))
          refine hC.mono ?_
          clear hC hrd6 hbr
          rintro e w16 ⟨nm, hnm, rfl, hr6⟩
          have HI6 := Lib.hid (HI5.out.asked hq6 hr6 (by omega))
          have hbr := RC5.out.neq (HI5.out.rd.now.choose_spec.2) (by decide)
          have RC6 := Lib.hid (RC5.out.asked hr6.turns hbr)
          clear hbr
          have HNM := Lib.hid hnm
          clear hr6 hnm
          refine hK.out _ _ (HI6.out.t5.cell (i := 0) (v := .slice o1 ss.length c1) (by rfl)) (fun _ => ?_)
          clear hK
          refine KeptAny.one (i := 12) (by kernel_rfl) rfl (by rfl) (fun K hK => ?_)
          go_simp
          refine ⟨trivial, ?_⟩
          obtain ⟨q7, hq7, hrd7⟩ := HI6.out.rd.rd
          have hbr := RC6.out.neq (HI6.out.rd.now.choose_spec.2) (by decide)
          have hC := (callsIn_wide (n := 5)).2 (num_row hrd7 (by omega) (xs := [-1, 0, 1]) RC6.out hbr (by decide) (by decide))
          refine hC.mono ?_
          clear hC hrd7 hbr
          rintro e w17 ⟨sc, hsc, rfl, hr7⟩
          have HI7 := Lib.hid (HI6.out.asked hq7 hr7 (by omega))
          have HSC := Lib.hid hsc
          clear hr7 hsc
          refine hK.out _ _ (HI7.out.t5.cell (i := 0) (v := .slice o1 ss.length c1) (by rfl)) (fun _ => ?_)
          clear hK
          refine KeptAny.one (i := 13) (by kernel_rfl) rfl (by rfl) (fun K hK => ?_)
          go_simp
          refine hK.out _ _ (HI7.out.t5.cell (i := 0) (v := .slice o1 ss.length c1) (by rfl)) (fun _ => ?_)
          clear hK
          refine KeptAny.one (i := 14) (by kernel_rfl) rfl (by rfl) (fun K hK => ?_)
          go_simp
          have HJ1 := Lib.hid (HI7.out.step ((Below.refl _ _).alloc (Nat.le_refl _) (.cells #[.int .i64 (kd : Int), .string nm, .int .i64 sc] 37)))
          refine hK.out _ _ (HJ1.out.t5.cell (i := 0) (v := .slice o1 ss.length c1) (by rfl)) (fun _ => ?_)
          clear hK
          refine KeptAny.one (i := 15) (by kernel_rfl) rfl (by rfl) (fun K hK => ?_)
          go_simp
          refine hK.out _ _ (HJ1.out.t5.cell (i := 0) (v := .slice o1 ss.length c1) (by rfl)) (fun _ => ?_)
          clear hK
          refine KeptAny.one (i := 16) (by kernel_rfl) rfl (by rfl) (fun K hK => ?_)
          go_simp
          have HJ2 := Lib.hid (HJ1.out.step ((Below.refl _ _).alloc (Nat.le_refl _) (.cells #[.int .i64 pa, .slice (some ⟨w17.heap.size, 0, none⟩) 1 1] 156)))
          refine hK.out _ _ (HJ2.out.t5.cell (i := 0) (v := .slice o1 ss.length c1) (by rfl)) (fun _ => ?_)
          clear hK
          have hone := HeldGr.single w17 pa (kd : Int) sc nm
          obtain ⟨v4, w4, hrun4, hg4, hgrow4⟩ := append_scopes HJ2.out.gr hone (by simp; omega) HJ2.out.rd.turns.size 31
          have hb4 : Below w.heap.size _ w4 := below_row HJ2.out.gr.row (Nat.le_refl _) hgrow4 HJ2.out.rd.turns.size
          have h44 := HJ2.out.t4.grown hgrow4 (own_row_ne HJ2.out.t4 HJ2.out.gr.row (by decide))
          have h54 := HJ2.out.t5.grown hgrow4 (own_row_ne HJ2.out.t5 HJ2.out.gr.row (by decide))
          have hLT : Lit1 210 (ss ++ [⟨pa, [⟨(kd : Int), nm, sc⟩]⟩]) := (HL.out.append (bad_lit HPA.out HKD.out HNM.out HSC.out)).mono (by omega)
          obtain ⟨tt, htt⟩ : ∃ tt, ss ++ [(⟨pa, [⟨(kd : Int), nm, sc⟩]⟩ : Sc)] = tt := ⟨_, rfl⟩
          rw [htt] at hg4 hLT
          obtain ⟨ks, hks⟩ : ∃ ks, hs ++ [Value.slice (some ⟨w17.heap.size, 0, none⟩) 1 1] = ks := ⟨_, rfl⟩
          rw [hks] at hg4
          obtain ⟨o4, c4, rfl, -⟩ := hg4.holds
          have HLT := Lib.hid hLT
          have f54 := h54.frozen 0
          have HZ9 : Hid (BadAt w (w4.setCell ⟨w1.heap.size, 0, none⟩ (.slice o4 tt.length c4)) r oa len cap (p + 1 + 1 + 1 + 1 + 1) w1.heap.size (.slice o4 tt.length c4) tt ks) := Lib.hid
            ⟨(HJ2.out.rd.far hb4).far ((Below.refl _ _).setCell (p := ⟨w1.heap.size, 0, none⟩) HJ2.out.low _), h44.other (by have := HJ2.out.ne; omega) _, h54.set 0 _, HJ2.out.low, HJ2.out.ne, hg4.other h54 (by decide) (by decide) 0 _⟩
          have s4 := h54.cell (i := 0) (v := .slice o1 ss.length c1) (by rfl)
          simp [go_sem] at hrun4
          clear hg4 hgrow4 hb4 h44 h54 hone htt hks hLT
          refine KeptAny.one (i := 17) (by kernel_rfl) rfl (by rfl) (fun K hK => ?_)
          go_simp
          refine hK.out _ _ s4 (fun _ => ?_)
          clear hK hrun4
          refine KeptAny.one (i := 18) (by kernel_rfl) rfl (by rfl) (fun K hK => ?_)
          go_simp
          refine hK.out _ _ s4 (fun _ => ?_)
          clear hK
          refine KeptAny.last (by kernel_rfl) rfl (by rfl) (fun K hK => ?_)
          go_simp
          refine hK.out _ _ ?_
          clear hK f54 s4
          refine KeptAny.done (by kernel_rfl) ?_ _
          have t5 := HZ9.out.t5.cell (i := 0) (by rfl)
          have t4 := HZ9.out.t4.cell (i := 0) (v := .slice none 0 0) (by rfl)
          have f4 := HZ9.out.t4.frozen 0
          have d4 := (HZ9.out.t4.set 0 (.slice o4 tt.length c4)).cell (i := 0) (v := .slice o4 tt.length c4) (by rfl)
          have HG9 := Lib.hid (HZ9.out.gr.other HZ9.out.t4 (by decide) (by decide) 0 (.slice o4 tt.length c4))
          have HR9 := Lib.hid ((HZ9.out.rd.far ((Below.refl _ _).setCell (p := ⟨w.heap.size + 1, 0, none⟩) (by show w.heap.size ≤ w.heap.size + 1; omega) (.slice o4 tt.length c4))).more (P' := p + 10) (by omega) (by omega))
          go_wp2
          exact bodyPost_ret (v := .agg #[.slice o4 tt.length c4]) (by simp [results, Tryz.results86, go_sem, d4]) rfl ⟨tt, _, _, rfl, HG9.out, HLT.out, HR9.out⟩
    · go_simp
      have HI1 := Lib.hid (HI0.out.step ((Below.refl _ _).alloc (Nat.le_refl _) (.cells #[.string ⟨#[120]⟩, .string ⟨#[]⟩, .string ⟨#[88]⟩, .string ⟨#[120, 121]⟩] 9)))
      have RB1 := Lib.hid (Row.new w2.drew [.string ⟨#[120]⟩, .string ⟨#[]⟩, .string ⟨#[88]⟩, .string ⟨#[120, 121]⟩] 9)
      refine hK.out _ _ (HI1.out.t5.cell (i := 0) (v := .slice o1 ss.length c1) (by rfl)) (fun _ => ?_)
      clear hK
      refine KeptAny.two (i := 3) (j := 11) (by kernel_rfl) ⟨_, rfl, by rfl, fun K hK => ?_⟩ ⟨_, rfl, by rfl, fun K hK => ?_⟩
      · go_simp
        have HI2 := Lib.hid (HI1.out.step ((Below.refl _ _).alloc (Nat.le_refl _) (.cells #[.int .i64 (-1), .int .i64 0, .int .i64 5, .int .i64 9] 3)))
        have RA2 : Hid (Row ((w2.drew.alloc (.cells #[.string ⟨#[120]⟩, .string ⟨#[]⟩, .string ⟨#[88]⟩, .string ⟨#[120, 121]⟩] 9)).alloc (.cells #[.int .i64 (-1), .int .i64 0, .int .i64 5, .int .i64 9] 3)) (w2.heap.size + 1) 3 [.int .i64 (-1), .int .i64 0, .int .i64 5, .int .i64 9]) := Lib.hid (by
          have h := Row.new (w2.drew.alloc (.cells #[.string ⟨#[120]⟩, .string ⟨#[]⟩, .string ⟨#[88]⟩, .string ⟨#[120, 121]⟩] 9)) [.int .i64 (-1), .int .i64 0, .int .i64 5, .int .i64 9] 3
          simp only [World.size_alloc] at h
          exact h)
        have RB2 := Lib.hid (RB1.out.alloc (.cells #[.int .i64 (-1), .int .i64 0, .int .i64 5, .int .i64 9] 3))
        refine hK.out _ _ (HI2.out.t5.cell (i := 0) (v := .slice o1 ss.length c1) (by rfl)) (fun _ => ?_)
        clear hK
        refine KeptAny.two (i := 4) (j := 11) (by kernel_rfl) ⟨_, rfl, by rfl, fun K hK => ?_⟩ ⟨_, rfl, by rfl, fun K hK => ?_⟩
        · go_simp
          refine ⟨trivial, ?_⟩
          obtain ⟨q3, hq3, hrd3⟩ := HI2.out.rd.rd
          have hbr := RA2.out.neq (HI2.out.rd.now.choose_spec.2) (by decide)
          have hC := (callsIn_wide (n := 5)).2 (num_row hrd3 (by omega) (xs := [-1, 0, 5, 9]) RA2.out hbr (by decide) (by decide))
          refine hC.mono ?_
          clear hC hrd3 hbr
          rintro e w13 ⟨pa, hpa, rfl, hr3⟩
          have HI3 := Lib.hid (HI2.out.asked hq3 hr3 (by omega))
          have hbr := RB2.out.neq (HI2.out.rd.now.choose_spec.2) (by decide)
          have RB3 := Lib.hid (RB2.out.asked hr3.turns hbr)
          clear hbr
          have HPA := Lib.hid hpa
          clear hr3 hpa
          refine hK.out _ _ (HI3.out.t5.cell (i := 0) (v := .slice o1 ss.length c1) (by rfl)) (fun _ => ?_)
          clear hK
          refine KeptAny.two (i := 6) (j := 11) (by kernel_rfl) ⟨_, rfl, by rfl, fun K hK => ?_⟩ ⟨_, rfl, by rfl, fun K hK => ?_⟩
          · go_simp
            refine ⟨trivial, ?_⟩
            obtain ⟨q4, hq4, hrd4⟩ := HI3.out.rd.rd
            have hC := (callsIn_wide (n := 5)).2 (pick_any hrd4 (by omega) 5 (by omega))
            refine hC.mono ?_
            clear hC hrd4
            rintro e w14 ⟨kd, rfl, -, hkd, hr4⟩
            have HI4 := Lib.hid (HI3.out.asked hq4 hr4 (by omega))
            have hbr := RB3.out.neq (HI3.out.rd.now.choose_spec.2) (by decide)
            have RB4 := Lib.hid (RB3.out.asked hr4.turns hbr)
            clear hbr
            have HKD := Lib.hid hkd
            clear hr4 hkd
            refine hK.out _ _ (HI4.out.t5.cell (i := 0) (v := .slice o1 ss.length c1) (by rfl)) (fun _ => ?_)
            clear hK
            refine KeptAny.two (i := 9) (j := 11) (by kernel_rfl) ⟨_, rfl, by rfl, fun K hK => ?_⟩ ⟨_, rfl, by rfl, fun K hK => ?_⟩
            · go_simp
              refine ⟨trivial, ?_⟩
              obtain ⟨q5, hq5, hrd5⟩ := HI4.out.rd.rd
              have hbr := RB4.out.neq (HI4.out.rd.now.choose_spec.2) (by decide)
              have hC := (callsIn_wide (n := 5)).2 (of_row hrd5 (by omega) (xs := [⟨#[120]⟩, ⟨#[]⟩, ⟨#[88]⟩, ⟨#[120, 121]⟩]) RB4.out hbr (by decide) (by decide))
              refine hC.mono ?_
              clear hC hrd5 hbr
              rintro e w15 ⟨nm, hnm, rfl, hr5⟩
              have HI5 := Lib.hid (HI4.out.asked hq5 hr5 (by omega))
              have HNM := Lib.hid hnm
              clear hr5 hnm
              refine hK.out _ _ (HI5.out.t5.cell (i := 0) (v := .slice o1 ss.length c1) (by rfl)) (fun _ => ?_)
              clear hK
              refine KeptAny.one (i := 11) (by kernel_rfl) rfl (by rfl) (fun K hK => ?_)
              go_simp
              have HI6 := Lib.hid (HI5.out.step ((Below.refl _ _).alloc (Nat.le_refl _) (.cells #[.int .i64 (-1), .int .i64 0, .int .i64 1] 3)))
              have RC6 := Lib.hid (Row.new w15 [.int .i64 (-1), .int .i64 0, .int .i64 1] 3)
              refine hK.out _ _ (HI6.out.t5.cell (i := 0) (v := .slice o1 ss.length c1) (by rfl)) (fun _ => ?_)
              clear hK
              refine KeptAny.one (i := 12) (by kernel_rfl) rfl (by rfl) (fun K hK => ?_)
              go_simp
              refine ⟨trivial, ?_⟩
              obtain ⟨q7, hq7, hrd7⟩ := HI6.out.rd.rd
              have hbr := RC6.out.neq (HI6.out.rd.now.choose_spec.2) (by decide)
              have hC := (callsIn_wide (n := 5)).2 (num_row hrd7 (by omega) (xs := [-1, 0, 1]) RC6.out hbr (by decide) (by decide))
              refine hC.mono ?_
              clear hC hrd7 hbr
              rintro e w17 ⟨sc, hsc, rfl, hr7⟩
              have HI7 := Lib.hid (HI6.out.asked hq7 hr7 (by omega))
              have HSC := Lib.hid hsc
              clear hr7 hsc
              refine hK.out _ _ (HI7.out.t5.cell (i := 0) (v := .slice o1 ss.length c1) (by rfl)) (fun _ => ?_)
              clear hK
              refine KeptAny.one (i := 13) (by kernel_rfl) rfl (by rfl) (fun K hK => ?_)
              go_simp
              refine hK.out _ _ (HI7.out.t5.cell (i := 0) (v := .slice o1 ss.length c1) (by rfl)) (fun _ => ?_)
              clear hK
              refine KeptAny.one (i := 14) (by kernel_rfl) rfl (by rfl) (fun K hK => ?_)
              go_simp
              have HJ1 := Lib.hid (HI7.out.step ((Below.refl _ _).alloc (Nat.le_refl _) (.cells #[.int .i64 (kd : Int), .string nm, .int .i64 sc] 37)))
              refine hK.out _ _ (HJ1.out.t5.cell (i := 0) (v := .slice o1 ss.length c1) (by rfl)) (fun _ => ?_)
              clear hK
              refine KeptAny.one (i := 15) (by kernel_rfl) rfl (by rfl) (fun K hK => ?_)
              go_simp
              refine hK.out _ _ (HJ1.out.t5.cell (i := 0) (v := .slice o1 ss.length c1) (by rfl)) (fun _ => ?_)
              clear hK
              refine KeptAny.one (i := 16) (by kernel_rfl) rfl (by rfl) (fun K hK => ?_)
              go_simp
              have HJ2 := Lib.hid (HJ1.out.step ((Below.refl _ _).alloc (Nat.le_refl _) (.cells #[.int .i64 pa, .slice (some ⟨w17.heap.size, 0, none⟩) 1 1] 156)))
              refine hK.out _ _ (HJ2.out.t5.cell (i := 0) (v := .slice o1 ss.length c1) (by rfl)) (fun _ => ?_)
              clear hK
              have hone := HeldGr.single w17 pa (kd : Int) sc nm
              obtain ⟨v4, w4, hrun4, hg4, hgrow4⟩ := append_scopes HJ2.out.gr hone (by simp; omega) HJ2.out.rd.turns.size 31
              have hb4 : Below w.heap.size _ w4 := below_row HJ2.out.gr.row (Nat.le_refl _) hgrow4 HJ2.out.rd.turns.size
              have h44 := HJ2.out.t4.grown hgrow4 (own_row_ne HJ2.out.t4 HJ2.out.gr.row (by decide))
              have h54 := HJ2.out.t5.grown hgrow4 (own_row_ne HJ2.out.t5 HJ2.out.gr.row (by decide))
              have hLT : Lit1 210 (ss ++ [⟨pa, [⟨(kd : Int), nm, sc⟩]⟩]) := (HL.out.append (bad_lit HPA.out HKD.out HNM.out HSC.out)).mono (by omega)
              obtain ⟨tt, htt⟩ : ∃ tt, ss ++ [(⟨pa, [⟨(kd : Int), nm, sc⟩]⟩ : Sc)] = tt := ⟨_, rfl⟩
              rw [htt] at hg4 hLT
              obtain ⟨ks, hks⟩ : ∃ ks, hs ++ [Value.slice (some ⟨w17.heap.size, 0, none⟩) 1 1] = ks := ⟨_, rfl⟩
              rw [hks] at hg4
              obtain ⟨o4, c4, rfl, -⟩ := hg4.holds
              have HLT := Lib.hid hLT
              have f54 := h54.frozen 0
              have HZ9 : Hid (BadAt w (w4.setCell ⟨w1.heap.size, 0, none⟩ (.slice o4 tt.length c4)) r oa len cap (p + 1 + 1 + 1 + 1 + 1) w1.heap.size (.slice o4 tt.length c4) tt ks) := Lib.hid
                ⟨(HJ2.out.rd.far hb4).far ((Below.refl _ _).setCell (p := ⟨w1.heap.size, 0, none⟩) HJ2.out.low _), h44.other (by have := HJ2.out.ne; omega) _, h54.set 0 _, HJ2.out.low, HJ2.out.ne, hg4.other h54 (by decide) (by decide) 0 _⟩
              have s4 := h54.cell (i := 0) (v := .slice o1 ss.length c1) (by rfl)
              simp [go_sem] at hrun4
              clear hg4 hgrow4 hb4 h44 h54 hone htt hks hLT
              refine KeptAny.one (i := 17) (by kernel_rfl) rfl (by rfl) (fun K hK => ?_)
              go_simp
              refine hK.out _ _ s4 (fun _ => ?_)
              clear hK hrun4
              refine KeptAny.one (i := 18) (by kernel_rfl) rfl (by rfl) (fun K hK => ?_)
              go_simp
              refine hK.out _ _ s4 (fun _ => ?_)
              clear hK
              refine KeptAny.last (by kernel_rfl) rfl (by rfl) (fun K hK => ?_)
              go_simp
              refine hK.out _ _ ?_
              clear hK f54 s4
              refine KeptAny.done (by kernel_rfl) ?_ _
              have t5 := HZ9.out.t5.cell (i := 0) (by rfl)
              have t4 := HZ9.out.t4.cell (i := 0) (v := .slice none 0 0) (by rfl)
              have f4 := HZ9.out.t4.frozen 0
              have d4 := (HZ9.out.t4.set 0 (.slice o4 tt.length c4)).cell (i := 0) (v := .slice o4 tt.length c4) (by rfl)
              have HG9 := Lib.hid (HZ9.out.gr.other HZ9.out.t4 (by decide) (by decide) 0 (.slice o4 tt.length c4))
              have HR9 := Lib.hid ((HZ9.out.rd.far ((Below.refl _ _).setCell (p := ⟨w.heap.size + 1, 0, none⟩) (by show w.heap.size ≤ w.heap.size + 1; omega) (.slice o4 tt.length c4))).more (P' := p + 10) (by omega) (by omega))
              go_wp2
              exact bodyPost_ret (v := .agg #[.slice o4 tt.length c4]) (by simp [results, Tryz.results86, go_sem, d4]) rfl ⟨tt, _, _, rfl, HG9.out, HLT.out, HR9.out⟩
            · go_simp
              have HI5 := Lib.hid (HI4.out.step ((Below.refl _ _).alloc (Nat.le_refl _) (.cells #[.int .i64 (-1), .int .i64 0, .int .i64 1] 3)))
              have RC5 := Lib.hid (Row.new w14 [.int .i64 (-1), .int .i64 0, .int .i64 1] 3)
              have RB5 := Lib.hid (RB4.out.alloc (.cells #[.int .i64 (-1), .int .i64 0, .int .i64 1] 3))
              refine hK.out _ _ (HI5.out.t5.cell (i := 0) (v := .slice o1 ss.length c1) (by rfl)) (fun _ => ?_)
              clear hK
              refine KeptAny.one (i := 9) (by kernel_rfl) rfl (by rfl) (fun K hK => ?_)
              go_simp
              refine ⟨trivial, ?_⟩
              obtain ⟨q6, hq6, hrd6⟩ := HI5.out.rd.rd
              have hbr := RB5.out.neq (HI5.out.rd.now.choose_spec.2) (by decide)
              have hC := (callsIn_wide (n := 5)).2 (of_row hrd6 (by omega) (xs := [⟨#[120]⟩, ⟨#[]⟩, ⟨#[88]⟩, ⟨#[120, 121]⟩]) RB5.out hbr (by decide) (by decide))
              refine hC.mono ?_
              clear hC hrd6 hbr
              rintro e w16 ⟨nm, hnm, rfl, hr6⟩
              have HI6 := Lib.hid (HI5.out.asked hq6 hr6 (by omega))
              have hbr := RC5.out.neq (HI5.out.rd.now.choose_spec.2) (by decide)
              have RC6 := Lib.hid (RC5.out.asked hr6.turns hbr)
              clear hbr
              have HNM := Lib.hid hnm
              clear hr6 hnm
              refine hK.out _ _ (HI6.out.t5.cell (i := 0) (v := .slice o1 ss.length c1) (by rfl)) (fun _ => ?_)
              clear hK
              refine KeptAny.one (i := 12) (by kernel_rfl) rfl (by rfl) (fun K hK => ?_)
              go_simp
              refine ⟨trivial, ?_⟩
              obtain ⟨q7, hq7, hrd7⟩ := HI6.out.rd.rd
              have hbr := RC6.out.neq (HI6.out.rd.now.choose_spec.2) (by decide)
              have hC := (callsIn_wide (n := 5)).2 (num_row hrd7 (by omega) (xs := [-1, 0, 1]) RC6.out hbr (by decide) (by decide))
              refine hC.mono ?_
              clear hC hrd7 hbr
              rintro e w17 ⟨sc, hsc, rfl, hr7⟩
              have HI7 := Lib.hid (HI6.out.asked hq7 hr7 (by omega))
              have HSC := Lib.hid hsc
              clear hr7 hsc
              refine hK.out _ _ (HI7.out.t5.cell (i := 0) (v := .slice o1 ss.length c1) (by rfl)) (fun _ => ?_)
              clear hK
              refine KeptAny.one (i := 13) (by kernel_rfl) rfl (by rfl) (fun K hK => ?_)
              go_simp
              refine hK.out _ _ (HI7.out.t5.cell (i := 0) (v := .slice o1 ss.length c1) (by rfl)) (fun _ => ?_)
              clear hK
              refine KeptAny.one (i := 14) (by kernel_rfl) rfl (by rfl) (fun K hK => ?_)
              go_simp
              have HJ1 := Lib.hid (HI7.out.step ((Below.refl _ _).alloc (Nat.le_refl _) (.cells #[.int .i64 (kd : Int), .string nm, .int .i64 sc] 37)))
              refine hK.out _ _ (HJ1.out.t5.cell (i := 0) (v := .slice o1 ss.length c1) (by rfl)) (fun _ => ?_)
              clear hK
              refine KeptAny.one (i := 15) (by kernel_rfl) rfl (by rfl) (fun K hK => ?_)
              go_simp
              refine hK.out _ _ (HJ1.out.t5.cell (i := 0) (v := .slice o1 ss.length c1) (by rfl)) (fun _ => ?_)
              clear hK
              refine KeptAny.one (i := 16) (by kernel_rfl) rfl (by rfl) (fun K hK => ?_)
              go_simp
              have HJ2 := Lib.hid (HJ1.out.step ((Below.refl _ _).alloc (Nat.le_refl _) (.cells #[.int .i64 pa, .slice (some ⟨w17.heap.size, 0, none⟩) 1 1] 156)))
              refine hK.out _ _ (HJ2.out.t5.cell (i := 0) (v := .slice o1 ss.length c1) (by rfl)) (fun _ => ?_)
              clear hK
              have hone := HeldGr.single w17 pa (kd : Int) sc nm
              obtain ⟨v4, w4, hrun4, hg4, hgrow4⟩ := append_scopes HJ2.out.gr hone (by simp; omega) HJ2.out.rd.turns.size 31
              have hb4 : Below w.heap.size _ w4 := below_row HJ2.out.gr.row (Nat.le_refl _) hgrow4 HJ2.out.rd.turns.size
              have h44 := HJ2.out.t4.grown hgrow4 (own_row_ne HJ2.out.t4 HJ2.out.gr.row (by decide))
              have h54 := HJ2.out.t5.grown hgrow4 (own_row_ne HJ2.out.t5 HJ2.out.gr.row (by decide))
              have hLT : Lit1 210 (ss ++ [⟨pa, [⟨(kd : Int), nm, sc⟩]⟩]) := (HL.out.append (bad_lit HPA.out HKD.out HNM.out HSC.out)).mono (by omega)
              obtain ⟨tt, htt⟩ : ∃ tt, ss ++ [(⟨pa, [⟨(kd : Int), nm, sc⟩]⟩ : Sc)] = tt := ⟨_, rfl⟩
              rw [htt] at hg4 hLT
              obtain ⟨ks, hks⟩ : ∃ ks, hs ++ [Value.slice (some ⟨w17.heap.size, 0, none⟩) 1 1] = ks := ⟨_, rfl⟩
              rw [hks] at hg4
              obtain ⟨o4, c4, rfl, -⟩ := hg4.holds
              have HLT := Lib.hid hLT
              have f54 := h54.frozen 0
              have HZ9 : Hid (BadAt w (w4.setCell ⟨w1.heap.size, 0, none⟩ (.slice o4 tt.length c4)) r oa len cap (p + 1 + 1 + 1 + 1 + 1) w1.heap.size (.slice o4 tt.length c4) tt ks) := Lib.hid
                ⟨(HJ2.out.rd.far hb4).far ((Below.refl _ _).setCell (p := ⟨w1.heap.size, 0, none⟩) HJ2.out.low _), h44.other (by have := HJ2.out.ne; omega) _, h54.set 0 _, HJ2.out.low, HJ2.out.ne, hg4.other h54 (by decide) (by decide) 0 _⟩
              have s4 := h54.cell (i := 0) (v := .slice o1 ss.length c1) (by rfl)
              simp [go_sem] at hrun4
              clear hg4 hgrow4 hb4 h44 h54 hone htt hks hLT
              refine KeptAny.one (i := 17) (by kernel_rfl) rfl (by rfl) (fun K hK => ?_)
              go_simp
              refine hK.out _ _ s4 (fun _ => ?_)
              clear hK hrun4
              refine KeptAny.one (i := 18) (by kernel_rfl) rfl (by rfl) (fun K hK => ?_)
              go_simp
              refine hK.out _ _ s4 (fun _ => ?_)
              clear hK
              refine KeptAny.last (by kernel_rfl) rfl (by rfl) (fun K hK => ?_)
              go_simp
              refine hK.out _ _ ?_
              clear hK f54 s4
              refine KeptAny.done (by kernel_rfl) ?_ _
              have t5 := HZ9.out.t5.cell (i := 0) (by rfl)
              have t4 := HZ9.out.t4.cell (i := 0) (v := .slice none 0 0) (by rfl)
              have f4 := HZ9.out.t4.frozen 0
              have d4 := (HZ9.out.t4.set 0 (.slice o4 tt.length c4)).cell (i := 0) (v := .slice o4 tt.length c4) (by rfl)
              have HG9 := Lib.hid (HZ9.out.gr.other HZ9.out.t4 (by decide) (by decide) 0 (.slice o4 tt.length c4))
              have HR9 := Lib.hid ((HZ9.out.rd.far ((Below.refl _ _).setCell (p := ⟨w.heap.size + 1, 0, none⟩) (by show w.heap.size ≤ w.heap.size + 1; omega) (.slice o4 tt.length c4))).more (P' := p + 10) (by omega) (by omega))
              go_wp2
              exact bodyPost_ret (v := .agg #[.slice o4 tt.length c4]) (by simp [results, Tryz.results86, go_sem, d4]) rfl ⟨tt, _, _, rfl, HG9.out, HLT.out, HR9.out⟩
          · go_simp
            have HI4 := Lib.hid (HI3.out.step ((Below.refl _ _).alloc (Nat.le_refl _) (.cells #[.int .i64 (-1), .int .i64 0, .int .i64 1] 3)))
            have RC4 := Lib.hid (Row.new w13 [.int .i64 (-1), .int .i64 0, .int .i64 1] 3)
            have RB4 := Lib.hid (RB3.out.alloc (.cells #[.int .i64 (-1), .int .i64 0, .int .i64 1] 3))
            refine hK.out _ _ (HI4.out.t5.cell (i := 0) (v := .slice o1 ss.length c1) (by rfl)) (fun _ => ?_)
            clear hK
            refine KeptAny.one (i := 6) (by kernel_rfl) rfl (by rfl) (fun K hK => ?_)
            go_simp
            refine ⟨trivial, ?_⟩
            obtain ⟨q5, hq5, hrd5⟩ := HI4.out.rd.rd
            have hC := (callsIn_wide (n := 5)).2 (pick_any hrd5 (by omega) 5 (by omega))
            refine hC.mono ?_
            clear hC hrd5
            rintro e w15 ⟨kd, rfl, -, hkd, hr5⟩
            have HI5 := Lib.hid (HI4.out.asked hq5 hr5 (by omega))
            have hbr := RB4.out.neq (HI4.out.rd.now.choose_spec.2) (by decide)
            have RB5 := Lib.hid (RB4.out.asked hr5.turns hbr)
            clear hbr
            have hbr := RC4.out.neq (HI4.out.rd.now.choose_spec.2) (by decide)
            have RC5 := Lib.hid (RC4.out.asked hr5.turns hbr)
            clear hbr
            have HKD := Lib.hid hkd
            clear hr5 hkd
            refine hK.out _ _ (HI5.out.t5.cell (i := 0) (v := .slice o1 ss.length c1) (by rfl)) (fun _ => ?_)
            clear hK
            refine KeptAny.one (i := 9) (by kernel_rfl) rfl (by rfl) (fun K hK => ?_)
            go_simp
            refine ⟨trivial, ?_⟩
            obtain ⟨q6, hq6, hrd6⟩ := HI5.out.rd.rd
            have hbr := RB5.out.neq (HI5.out.rd.now.choose_spec.2) (by decide)
            have hC := (callsIn_wide (n := 5)).2 (of_row hrd6 (by omega) (xs := [⟨#[120]⟩, ⟨#[]⟩, ⟨#[88]⟩, ⟨#[120, 121]⟩]) RB5.out hbr (by decide) (by decide))
            refine hC.mono ?_
            clear hC hrd6 hbr
            rintro e w16 ⟨nm, hnm, rfl, hr6⟩
            have HI6 := Lib.hid (HI5.out.asked hq6 hr6 (by omega))
            have hbr := RC5.out.neq (HI5.out.rd.now.choose_spec.2) (by decide)
            have RC6 := Lib.hid (RC5.out.asked hr6.turns hbr)
            clear hbr
            have HNM := Lib.hid hnm
            clear hr6 hnm
            refine hK.out _ _ (HI6.out.t5.cell (i := 0) (v := .slice o1 ss.length c1) (by rfl)) (fun _ => ?_)
            clear hK
            refine KeptAny.one (i := 12) (by kernel_rfl) rfl (by rfl) (fun K hK => ?_)
            go_simp
            refine ⟨trivial, ?_⟩
            obtain ⟨q7, hq7, hrd7⟩ := HI6.out.rd.rd
            have hbr := RC6.out.neq (HI6.out.rd.now.choose_spec.2) (by decide)
            have hC := (callsIn_wide (n := 5)).2 (num_row hrd7 (by omega) (xs := [-1, 0, 1]) RC6.out hbr (by decide) (by decide))
            refine hC.mono ?_
            clear hC hrd7 hbr
            rintro e w17 ⟨sc, hsc, rfl, hr7⟩
            have HI7 := Lib.hid (HI6.out.asked hq7 hr7 (by omega))
            have HSC := Lib.hid hsc
            clear hr7 hsc
            refine hK.out _ _ (HI7.out.t5.cell (i := 0) (v := .slice o1 ss.length c1) (by rfl)) (fun _ => ?_)
            clear hK
            refine KeptAny.one (i := 13) (by kernel_rfl) rfl (by rfl) (fun K hK => ?_)
            go_simp
            refine hK.out _ _ (HI7.out.t5.cell (i := 0) (v := .slice o1 ss.length c1) (by rfl)) (fun _ => ?_)
            clear hK
            refine KeptAny.one (i := 14) (by kernel_rfl) rfl (by rfl) (fun K hK => ?_)
            go_simp
            have HJ1 := Lib.hid (HI7.out.step ((Below.refl _ _).alloc (Nat.le_refl _) (.cells #[.int .i64 (kd : Int), .string nm, .int .i64 sc] 37)))
            refine hK.out _ _ (HJ1.out.t5.cell (i := 0) (v := .slice o1 ss.length c1) (by rfl)) (fun _ => ?_)
            clear hK
            refine KeptAny.one (i := 15) (by kernel_rfl) rfl (by rfl) (fun K hK => ?_)
            go_simp
            refine hK.out _ _ (HJ1.out.t5.cell (i := 0) (v := .slice o1 ss.length c1) (by rfl)) (fun _ => ?_)
            clear hK
            refine KeptAny.one (i := 16) (by kernel_rfl) rfl (by rfl) (fun K hK => ?_)
            go_simp
            have HJ2 := Lib.hid (HJ1.out.step ((Below.refl _ _).alloc (Nat.le_refl _) (.cells #[.int .i64 pa, .slice (some ⟨w17.heap.size, 0, none⟩) 1 1] 156)))
            refine hK.out _ _ (HJ2.out.t5.cell (i := 0) (v := .slice o1 ss.length c1) (by rfl)) (fun _ => ?_)
            clear hK
            have hone := HeldGr.single w17 pa (kd : Int) sc nm
            obtain ⟨v4, w4, hrun4, hg4, hgrow4⟩ := append_scopes HJ2.out.gr hone (by simp; omega) HJ2.out.rd.turns.size 31
            have hb4 : Below w.heap.size _ w4 := below_row HJ2.out.gr.row (Nat.le_refl _) hgrow4 HJ2.out.rd.turns.size
            have h44 := HJ2.out.t4.grown hgrow4 (own_row_ne HJ2.out.t4 HJ2.out.gr.row (by decide))
            have h54 := HJ2.out.t5.grown hgrow4 (own_row_ne HJ2.out.t5 HJ2.out.gr.row (by decide))
            have hLT : Lit1 210 (ss ++ [⟨pa, [⟨(kd : Int), nm, sc⟩]⟩]) := (HL.out.append (bad_lit HPA.out HKD.out HNM.out HSC.out)).mono (by omega)
            obtain ⟨tt, htt⟩ : ∃ tt, ss ++ [(⟨pa, [⟨(kd : Int), nm, sc⟩]⟩ : Sc)] = tt := ⟨_, rfl⟩
            rw [htt] at hg4 hLT
            obtain ⟨ks, hks⟩ : ∃ ks, hs ++ [Value.slice (some ⟨w17.heap.size, 0, none⟩) 1 1] = ks := ⟨_, rfl⟩
            rw [hks] at hg4
            obtain ⟨o4, c4, rfl, -⟩ := hg4.holds
            have HLT := Lib.hid hLT
            have f54 := h54.frozen 0
            have HZ9 : Hid (BadAt w (w4.setCell ⟨w1.heap.size, 0, none⟩ (.slice o4 tt.length c4)) r oa len cap (p + 1 + 1 + 1 + 1 + 1) w1.heap.size (.slice o4 tt.length c4) tt ks) := Lib.hid
              ⟨(HJ2.out.rd.far hb4).far ((Below.refl _ _).setCell (p := ⟨w1.heap.size, 0, none⟩) HJ2.out.low _), h44.other (by have := HJ2.out.ne; omega) _, h54.set 0 _, HJ2.out.low, HJ2.out.ne, hg4.other h54 (by decide) (by decide) 0 _⟩
            have s4 := h54.cell (i := 0) (v := .slice o1 ss.length c1) (by rfl)
            simp [go_sem] at hrun4
            clear hg4 hgrow4 hb4 h44 h54 hone htt hks hLT
            refine KeptAny.one (i := 17) (by kernel_rfl) rfl (by rfl) (fun K hK => ?_)
            go_simp
            refine hK.out _ _ s4 (fun _ => ?_)
            clear hK hrun4
            refine KeptAny.one (i := 18) (by kernel_rfl) rfl (by rfl) (fun K hK => ?_)
            go_simp
            refine hK.out _ _ s4 (fun _ => ?_)
            clear hK
            refine KeptAny.last (by kernel_rfl) rfl (by rfl) (fun K hK => ?_)
            go_simp
            refine hK.out _ _ ?_
            clear hK f54 s4
            refine KeptAny.done (by kernel_rfl) ?_ _
            have t5 := HZ9.out.t5.cell (i := 0) (by rfl)
            have t4 := HZ9.out.t4.cell (i := 0) (v := .slice none 0 0) (by rfl)
            have f4 := HZ9.out.t4.frozen 0
            have d4 := (HZ9.out.t4.set 0 (.slice o4 tt.length c4)).cell (i := 0) (v := .slice o4 tt.length c4) (by rfl)
            have HG9 := Lib.hid (HZ9.out.gr.other HZ9.out.t4 (by decide) (by decide) 0 (.slice o4 tt.length c4))
            have HR9 := Lib.hid ((HZ9.out.rd.far ((Below.refl _ _).setCell (p := ⟨w.heap.size + 1, 0, none⟩) (by show w.heap.size ≤ w.heap.size + 1; omega) (.slice o4 tt.length c4))).more (P' := p + 10) (by omega) (by omega))
            go_wp2
            exact bodyPost_ret (v := .agg #[.slice o4 tt.length c4]) (by simp [results, Tryz.results86, go_sem, d4]) rfl ⟨tt, _, _, rfl, HG9.out, HLT.out, HR9.out⟩
        · go_simp
          have HI3 := Lib.hid (HI2.out.step ((Below.refl _ _).alloc (Nat.le_refl _) (.cells #[.int .i64 (-1), .int .i64 0, .int .i64 1] 3)))
          have RC3 : Hid (Row (((w2.drew.alloc (.cells #[.string ⟨#[120]⟩, .string ⟨#[]⟩, .string ⟨#[88]⟩, .string ⟨#[120, 121]⟩] 9)).alloc (.cells #[.int .i64 (-1), .int .i64 0, .int .i64 5, .int .i64 9] 3)).alloc (.cells #[.int .i64 (-1), .int .i64 0, .int .i64 1] 3)) (w2.heap.size + 1 + 1) 3 [.int .i64 (-1), .int .i64 0, .int .i64 1]) := Lib.hid (by
            have h := Row.new ((w2.drew.alloc (.cells #[.string ⟨#[120]⟩, .string ⟨#[]⟩, .string ⟨#[88]⟩, .string ⟨#[120, 121]⟩] 9)).alloc (.cells #[.int .i64 (-1), .int .i64 0, .int .i64 5, .int .i64 9] 3)) [.int .i64 (-1), .int .i64 0, .int .i64 1] 3
            simp only [World.size_alloc] at h
            exact h)
          have RB3 := Lib.hid (RB2.out.alloc (.cells #[.int .i64 (-1), .int .i64 0, .int .i64 1] 3))
          have RA3 := Lib.hid (RA2.out.alloc (.cells #[.int .i64 (-1), .int .i64 0, .int .i64 1] 3))
          refine hK.out _ _ (HI3.out.t5.cell (i := 0) (v := .slice o1 ss.length c1) (by rfl)) (fun _ => ?_)
          clear hK
          refine KeptAny.one (i := 4) (by kernel_rfl) rfl (by rfl) (fun K hK => ?_)
          go_simp
          refine ⟨trivial, ?_⟩
          obtain ⟨q4, hq4, hrd4⟩ := HI3.out.rd.rd
          have hbr := RA3.out.neq (HI3.out.rd.now.choose_spec.2) (by decide)
          have hC := (callsIn_wide (n := 5)).2 (num_row hrd4 (by omega) (xs := [-1, 0, 5, 9]) RA3.out hbr (by decide) (by decide))
          refine hC.mono ?_
          clear hC hrd4 hbr
          rintro e w14 ⟨pa, hpa, rfl, hr4⟩
          have HI4 := Lib.hid (HI3.out.asked hq4 hr4 (by omega))
          have hbr := RB3.out.neq (HI3.out.rd.now.choose_spec.2) (by decide)
          have RB4 := Lib.hid (RB3.out.asked hr4.turns hbr)
          clear hbr
          have hbr := RC3.out.neq (HI3.out.rd.now.choose_spec.2) (by decide)
          have RC4 := Lib.hid (RC3.out.asked hr4.turns hbr)
          clear hbr
          have HPA := Lib.hid hpa
          clear hr4 hpa
          refine hK.out _ _ (HI4.out.t5.cell (i := 0) (v := .slice o1 ss.length c1) (by rfl)) (fun _ => ?_)
          clear hK
          refine KeptAny.one (i := 6) (by kernel_rfl) rfl (by rfl) (fun K hK => ?_)
          go_simp
          refine ⟨trivial, ?_⟩
          obtain ⟨q5, hq5, hrd5⟩ := HI4.out.rd.rd
          have hC := (callsIn_wide (n := 5)).2 (pick_any hrd5 (by omega) 5 (by omega))
          refine hC.mono ?_
          clear hC hrd5
          rintro e w15 ⟨kd, rfl, -, hkd, hr5⟩
          have HI5 := Lib.hid (HI4.out.asked hq5 hr5 (by omega))
          have hbr := RB4.out.neq (HI4.out.rd.now.choose_spec.2) (by decide)
          have RB5 := Lib.hid (RB4.out.asked hr5.turns hbr)
          clear hbr
          have hbr := RC4.out.neq (HI4.out.rd.now.choose_spec.2) (by decide)
          have RC5 := Lib.hid (RC4.out.asked hr5.turns hbr)
          clear hbr
          have HKD := Lib.hid hkd
          clear hr5 hkd
          refine hK.out _ _ (HI5.out.t5.cell (i := 0) (v := .slice o1 ss.length c1) (by rfl)) (fun _ => ?_)
          clear hK
          refine KeptAny.one (i := 9) (by kernel_rfl) rfl (by rfl) (fun K hK => ?_)
          go_simp
          refine ⟨trivial, ?_⟩
          obtain ⟨q6, hq6, hrd6⟩ := HI5.out.rd.rd
          have hbr := RB5.out.neq (HI5.out.rd.now.choose_spec.2) (by decide)
          have hC := (callsIn_wide (n := 5)).2 (of_row hrd6 (by omega) (xs := [⟨#[120]⟩, ⟨#[]⟩, ⟨#[88]⟩, ⟨#[120, 121]⟩]) RB5.out hbr (by decide) (by decide))
          refine hC.mono ?_
          clear hC hrd6 hbr
          rintro e w16 ⟨nm, hnm, rfl, hr6⟩
          have HI6 := Lib.hid (HI5.out.asked hq6 hr6 (by omega))
          have hbr := RC5.out.neq (HI5.out.rd.now.choose_spec.2) (by decide)
          have RC6 := Lib.hid (RC5.out.asked hr6.turns hbr)
          clear hbr
          have HNM := Lib.hid hnm
          clear hr6 hnm
          refine hK.out _ _ (HI6.out.t5.cell (i := 0) (v := .slice o1 ss.length c1) (by rfl)) (fun _ => ?_)
          clear hK
          refine KeptAny.one (i := 12) (by kernel_rfl) rfl (by rfl) (fun K hK => ?_)
          go_simp
          refine ⟨trivial, ?_⟩
          obtain ⟨q7, hq7, hrd7⟩ := HI6.out.rd.rd
          have hbr := RC6.out.neq (HI6.out.rd.now.choose_spec.2) (by decide)
          have hC := (callsIn_wide (n := 5)).2 (num_row hrd7 (by omega) (xs := [-1, 0, 1]) RC6.out hbr (by decide) (by decide))
          refine hC.mono ?_
          clear hC hrd7 hbr
          rintro e w17 ⟨sc, hsc, rfl, hr7⟩
          have HI7 := Lib.hid (HI6.out.asked hq7 hr7 (by omega))
          have HSC := Lib.hid hsc
          clear hr7 hsc
          refine hK.out _ _ (HI7.out.t5.cell (i := 0) (v := .slice o1 ss.length c1) (by rfl)) (fun _ => ?_)
          clear hK
          refine KeptAny.one (i := 13) (by kernel_rfl) rfl (by rfl) (fun K hK => ?_)
          go_simp
          refine hK.out _ _ (HI7.out.t5.cell (i := 0) (v := .slice o1 ss.length c1) (by rfl)) (fun _ => ?_)
          clear hK
          refine KeptAny.one (i := 14) (by kernel_rfl) rfl (by rfl) (fun K hK => ?_)
          go_simp
          have HJ1 := Lib.hid (HI7.out.step ((Below.refl _ _).alloc (Nat.le_refl _) (.cells #[.int .i64 (kd : Int), .string nm, .int .i64 sc] 37)))
          refine hK.out _ _ (HJ1.out.t5.cell (i := 0) (v := .slice o1 ss.length c1) (by rfl)) (fun _ => ?_)
          clear hK
          refine KeptAny.one (i := 15) (by kernel_rfl) rfl (by rfl) (fun K hK => ?_)
          go_simp
          refine hK.out _ _ (HJ1.out.t5.cell (i := 0) (v := .slice o1 ss.length c1) (by rfl)) (fun _ => ?_)
          clear hK
          refine KeptAny.one (i := 16) (by kernel_rfl) rfl (by rfl) (fun K hK => ?_)
          go_simp
          have HJ2 := Lib.hid (HJ1.out.step ((Below.refl _ _).alloc (Nat.le_refl _) (.cells #[.int .i64 pa, .slice (some ⟨w17.heap.size, 0, none⟩) 1 1] 156)))
          refine hK.out _ _ (HJ2.out.t5.cell (i := 0) (v := .slice o1 ss.length c1) (by rfl)) (fun _ => ?_)
          clear hK
          have hone := HeldGr.single w17 pa (kd : Int) sc nm
          obtain ⟨v4, w4, hrun4, hg4, hgrow4⟩ := append_scopes HJ2.out.gr hone (by simp; omega) HJ2.out.rd.turns.size 31
          have hb4 : Below w.heap.size _ w4 := below_row HJ2.out.gr.row (Nat.le_refl _) hgrow4 HJ2.out.rd.turns.size
          have h44 := HJ2.out.t4.grown hgrow4 (own_row_ne HJ2.out.t4 HJ2.out.gr.row (by decide))
          have h54 := HJ2.out.t5.grown hgrow4 (own_row_ne HJ2.out.t5 HJ2.out.gr.row (by decide))
          have hLT : Lit1 210 (ss ++ [⟨pa, [⟨(kd : Int), nm, sc⟩]⟩]) := (HL.out.append (bad_lit HPA.out HKD.out HNM.out HSC.out)).mono (by omega)
          obtain ⟨tt, htt⟩ : ∃ tt, ss ++ [(⟨pa, [⟨(kd : Int), nm, sc⟩]⟩ : Sc)] = tt := ⟨_, rfl⟩
          rw [htt] at hg4 hLT
          obtain ⟨ks, hks⟩ : ∃ ks, hs ++ [Value.slice (some ⟨w17.heap.size, 0, none⟩) 1 1] = ks := ⟨_, rfl⟩
          rw [hks] at hg4
          obtain ⟨o4, c4, rfl, -⟩ := hg4.holds
          have HLT := Lib.hid hLT
          have f54 := h54.frozen 0
          have HZ9 : Hid (BadAt w (w4.setCell ⟨w1.heap.size, 0, none⟩ (.slice o4 tt.length c4)) r oa len cap (p + 1 + 1 + 1 + 1 + 1) w1.heap.size (.slice o4 tt.length c4) tt ks) := Lib.hid
            ⟨(HJ2.out.rd.far hb4).far ((Below.refl _ _).setCell (p := ⟨w1.heap.size, 0, none⟩) HJ2.out.low _), h44.other (by have := HJ2.out.ne; omega) _, h54.set 0 _, HJ2.out.low, HJ2.out.ne, hg4.other h54 (by decide) (by decide) 0 _⟩
          have s4 := h54.cell (i := 0) (v := .slice o1 ss.length c1) (by rfl)
          simp [go_sem] at hrun4
          clear hg4 hgrow4 hb4 h44 h54 hone htt hks hLT
          refine KeptAny.one (i := 17) (by kernel_rfl) rfl (by rfl) (fun K hK => ?_)
          go_simp
          refine hK.out _ _ s4 (fun _ => ?_)
          clear hK hrun4
          refine KeptAny.one (i := 18) (by kernel_rfl) rfl (by rfl) (fun K hK => ?_)
          go_simp
          refine hK.out _ _ s4 (fun _ => ?_)
          clear hK
          refine KeptAny.last (by kernel_rfl) rfl (by rfl) (fun K hK => ?_)
          go_simp
          refine hK.out _ _ ?_
          clear hK f54 s4
          refine KeptAny.done (by kernel_rfl) ?_ _
          have t5 := HZ9.out.t5.cell (i := 0) (by rfl)
          have t4 := HZ9.out.t4.cell (i := 0) (v := .slice none 0 0) (by rfl)
          have f4 := HZ9.out.t4.frozen 0
          have d4 := (HZ9.out.t4.set 0 (.slice o4 tt.length c4)).cell (i := 0) (v := .slice o4 tt.length c4) (by rfl)
          have HG9 := Lib.hid (HZ9.out.gr.other HZ9.out.t4 (by decide) (by decide) 0 (.slice o4 tt.length c4))
          have HR9 := Lib.hid ((HZ9.out.rd.far ((Below.refl _ _).setCell (p := ⟨w.heap.size + 1, 0, none⟩) (by show w.heap.size ≤ w.heap.size + 1; omega) (.slice o4 tt.length c4))).more (P' := p + 10) (by omega) (by omega))
          go_wp2
          exact bodyPost_ret (v := .agg #[.slice o4 tt.length c4]) (by simp [results, Tryz.results86, go_sem, d4]) rfl ⟨tt, _, _, rfl, HG9.out, HLT.out, HR9.out⟩
      · go_simp
        have HI2 := Lib.hid (HI1.out.step ((Below.refl _ _).alloc (Nat.le_refl _) (.cells #[.int .i64 (-1), .int .i64 0, .int .i64 1] 3)))
        have RC2 : Hid (Row ((w2.drew.alloc (.cells #[.string ⟨#[120]⟩, .string ⟨#[]⟩, .string ⟨#[88]⟩, .string ⟨#[120, 121]⟩] 9)).alloc (.cells #[.int .i64 (-1), .int .i64 0, .int .i64 1] 3)) (w2.heap.size + 1) 3 [.int .i64 (-1), .int .i64 0, .int .i64 1]) := Lib.hid (by
          have h := Row.new (w2.drew.alloc (.cells #[.string ⟨#[120]⟩, .string ⟨#[]⟩, .string ⟨#[88]⟩, .string ⟨#[120, 121]⟩] 9)) [.int .i64 (-1), .int .i64 0, .int .i64 1] 3
          simp only [World.size_alloc] at h
          exact h)
        have RB2 := Lib.hid (RB1.out.alloc (.cells #[.int .i64 (-1), .int .i64 0, .int .i64 1] 3))
        refine hK.out _ _ (HI2.out.t5.cell (i := 0) (v := .slice o1 ss.length c1) (by rfl)) (fun _ => ?_)
        clear hK
        refine KeptAny.one (i := 3) (by kernel_rfl) rfl (by rfl) (fun K hK => ?_)
        go_simp
        have HI3 := Lib.hid (HI2.out.step ((Below.refl _ _).alloc (Nat.le_refl _) (.cells #[.int .i64 (-1), .int .i64 0, .int .i64 5, .int .i64 9] 3)))
        have RA3 : Hid (Row (((w2.drew.alloc (.cells #[.string ⟨#[120]⟩, .string ⟨#[]⟩, .string ⟨#[88]⟩, .string ⟨#[120, 121]⟩] 9)).alloc (.cells #[.int .i64 (-1), .int .i64 0, .int .i64 1] 3)).alloc (.cells #[.int .i64 (-1), .int .i64 0, .int .i64 5, .int .i64 9] 3)) (w2.heap.size + 1 + 1) 3 [.int .i64 (-1), .int .i64 0, .int .i64 5, .int .i64 9]) := Lib.hid (by
          have h := Row.new ((w2.drew.alloc (.cells #[.string ⟨#[120]⟩, .string ⟨#[]⟩, .string ⟨#[88]⟩, .string ⟨#[120, 121]⟩] 9)).alloc (.cells #[.int .i64 (-1), .int .i64 0, .int .i64 1] 3)) [.int .i64 (-1), .int .i64 0, .int .i64 5, .int .i64 9] 3
          simp only [World.size_alloc] at h
          exact h)
        have RB3 := Lib.hid (RB2.out.alloc (.cells #[.int .i64 (-1), .int .i64 0, .int .i64 5, .int .i64 9] 3))
        have RC3 := Lib.hid (RC2.out.alloc (.cells #[.int .i64 (-1), .int .i64 0, .int .i64 5, .int .i64 9] 3))
        refine hK.out _ _ (HI3.out.t5.cell (i := 0) (v := .slice o1 ss.length c1) (by rfl)) (fun _ => ?_)
        clear hK
        refine KeptAny.one (i := 4) (by kernel_rfl) rfl (by rfl) (fun K hK => ?_)
        go_simp
        refine ⟨trivial, ?_⟩
        obtain ⟨q4, hq4, hrd4⟩ := HI3.out.rd.rd
        have hbr := RA3.out.neq (HI3.out.rd.now.choose_spec.2) (by decide)
        have hC := (callsIn_wide (n := 5)).2 (num_row hrd4 (by omega) (xs := [-1, 0, 5, 9]) RA3.out hbr (by decide) (by decide))
        refine hC.mono ?_
        clear hC hrd4 hbr
        rintro e w14 ⟨pa, hpa, rfl, hr4⟩
        have HI4 := Lib.hid (HI3.out.asked hq4 hr4 (by omega))
        have hbr := RB3.out.neq (HI3.out.rd.now.choose_spec.2) (by decide)
        have RB4 := Lib.hid (RB3.out.asked hr4.turns hbr)
        clear hbr
        have hbr := RC3.out.neq (HI3.out.rd.now.choose_spec.2) (by decide)
        have RC4 := Lib.hid (RC3.out.asked hr4.turns hbr)
        clear hbr
        have HPA := Lib.hid hpa
        clear hr4 hpa
        refine hK.out _ _ (HI4.out.t5.cell (i := 0) (v := .slice o1 ss.length c1) (by rfl)) (fun _ => ?_)
        clear hK
        refine KeptAny.one (i := 6) (by kernel_rfl) rfl (by rfl) (fun K hK => ?_)
        go_simp
        refine ⟨trivial, ?_⟩
        obtain ⟨q5, hq5, hrd5⟩ := HI4.out.rd.rd
        have hC := (callsIn_wide (n := 5)).2 (pick_any hrd5 (by omega) 5 (by omega))
        refine hC.mono ?_
        clear hC hrd5
        rintro e w15 ⟨kd, rfl, -, hkd, hr5⟩
        have HI5 := Lib.hid (HI4.out.asked hq5 hr5 (by omega))
        have hbr := RB4.out.neq (HI4.out.rd.now.choose_spec.2) (by decide)
        have RB5 := Lib.hid (RB4.out.asked hr5.turns hbr)
        clear hbr
        have hbr := RC4.out.neq (HI4.out.rd.now.choose_spec.2) (by decide)
        have RC5 := Lib.hid (RC4.out.asked hr5.turns hbr)
        clear hbr
        have HKD := Lib.hid hkd
        clear hr5 hkd
        refine hK.out _ _ (HI5.out.t5.cell (i := 0) (v := .slice o1 ss.length c1) (by rfl)) (fun _ => ?_)
        clear hK
        refine KeptAny.one (i := 9) (by kernel_rfl) rfl (by rfl) (fun K hK => ?_)
        go_simp
        refine ⟨trivial, ?_⟩
        obtain ⟨q6, hq6, hrd6⟩ := HI5.out.rd.rd
        have hbr := RB5.out.neq (HI5.out.rd.now.choose_spec.2) (by decide)
        have hC := (callsIn_wide (n := 5)).2 (of_row hrd6 (by omega) (xs := [⟨#[120]⟩, ⟨#[]⟩, ⟨#[88]⟩, ⟨#[120, 121]⟩]) RB5.out hbr (by decide) (by decide))
        refine hC.mono ?_
        clear hC hrd6 hbr
        rintro e w16 ⟨nm, hnm, rfl, hr6⟩
        have HI6 := Lib.hid (HI5.out.asked hq6 hr6 (by omega))
        have hbr := RC5.out.neq (HI5.out.rd.now.choose_spec.2) (by decide)
        have RC6 := Lib.hid (RC5.out.asked hr6.turns hbr)
        clear hbr
        have HNM := Lib.hid hnm
        clear hr6 hnm
        refine hK.out _ _ (HI6.out.t5.cell (i := 0) (v := .slice o1 ss.length c1) (by rfl)) (fun _ => ?_)
        clear hK
        refine KeptAny.one (i := 12) (by kernel_rfl) rfl (by rfl) (fun K hK => ?_)
        go_simp
        refine ⟨trivial, ?_⟩
        obtain ⟨q7, hq7, hrd7⟩ := HI6.out.rd.rd
        have hbr := RC6.out.neq (HI6.out.rd.now.choose_spec.2) (by decide)
        have hC := (callsIn_wide (n := 5)).2 (num_row hrd7 (by omega) (xs := [-1, 0, 1]) RC6.out hbr (by decide) (by decide))
        refine hC.mono ?_
        clear hC hrd7 hbr
        rintro e w17 ⟨sc, hsc, rfl, hr7⟩
        have HI7 := Lib.hid (HI6.out.asked hq7 hr7 (by omega))
        have HSC := Lib.hid hsc
        clear hr7 hsc
        refine hK.out _ _ (HI7.out.t5.cell (i := 0) (v := .slice o1 ss.length c1) (by rfl)) (fun _ => ?_)
        clear hK
        refine KeptAny.one (i := 13) (by kernel_rfl) rfl (by rfl) (fun K hK => ?_)
        go_simp
        refine hK.out _ _ (HI7.out.t5.cell (i := 0) (v := .slice o1 ss.length c1) (by rfl)) (fun _ => ?_)
        clear hK
        refine KeptAny.one (i := 14) (by kernel_rfl) rfl (by rfl) (fun K hK => ?_)
        go_simp
        have HJ1 := Lib.hid (HI7.out.step ((Below.refl _ _).alloc (Nat.le_refl _) (.cells #[.int .i64 (kd : Int), .string nm, .int .i64 sc] 37)))
        refine hK.out _ _ (HJ1.out.t5.cell (i := 0) (v := .slice o1 ss.length c1) (by rfl)) (fun _ => ?_)
        clear hK
        refine KeptAny.one (i := 15) (by kernel_rfl) rfl (by rfl) (fun K hK => ?_)
        go_simp
        refine hK.out _ _ (HJ1.out.t5.cell (i := 0) (v := .slice o1 ss.length c1) (by rfl)) (fun _ => ?_)
        clear hK
        refine KeptAny.one (i := 16) (by kernel_rfl) rfl (by rfl) (fun K hK => ?_)
        go_simp
        have HJ2 := Lib.hid (HJ1.out.step ((Below.refl _ _).alloc (Nat.le_refl _) (.cells #[.int .i64 pa, .slice (some ⟨w17.heap.size, 0, none⟩) 1 1] 156)))
        refine hK.out _ _ (HJ2.out.t5.cell (i := 0) (v := .slice o1 ss.length c1) (by rfl)) (fun _ => ?_)
        clear hK
        have hone := HeldGr.single w17 pa (kd : Int) sc nm
        obtain ⟨v4, w4, hrun4, hg4, hgrow4⟩ := append_scopes HJ2.out.gr hone (by simp; omega) HJ2.out.rd.turns.size 31
        have hb4 : Below w.heap.size _ w4 := below_row HJ2.out.gr.row (Nat.le_refl _) hgrow4 HJ2.out.rd.turns.size
        have h44 := HJ2.out.t4.grown hgrow4 (own_row_ne HJ2.out.t4 HJ2.out.gr.row (by decide))
        have h54 := HJ2.out.t5.grown hgrow4 (own_row_ne HJ2.out.t5 HJ2.out.gr.row (by decide))
        have hLT : Lit1 210 (ss ++ [⟨pa, [⟨(kd : Int), nm, sc⟩]⟩]) := (HL.out.append (bad_lit HPA.out HKD.out HNM.out HSC.out)).mono (by omega)
        obtain ⟨tt, htt⟩ : ∃ tt, ss ++ [(⟨pa, [⟨(kd : Int), nm, sc⟩]⟩ : Sc)] = tt := ⟨_, rfl⟩
        rw [htt] at hg4 hLT
        obtain ⟨ks, hks⟩ : ∃ ks, hs ++ [Value.slice (some ⟨w17.heap.size, 0, none⟩) 1 1] = ks := ⟨_, rfl⟩
        rw [hks] at hg4
        obtain ⟨o4, c4, rfl, -⟩ := hg4.holds
        have HLT := Lib.hid hLT
        have f54 := h54.frozen 0
        have HZ9 : Hid (BadAt w (w4.setCell ⟨w1.heap.size, 0, none⟩ (.slice o4 tt.length c4)) r oa len cap (p + 1 + 1 + 1 + 1 + 1) w1.heap.size (.slice o4 tt.length c4) tt ks) := Lib.hid
          ⟨(HJ2.out.rd.far hb4).far ((Below.refl _ _).setCell (p := ⟨w1.heap.size, 0, none⟩) HJ2.out.low _), h44.other (by have := HJ2.out.ne; omega) _, h54.set 0 _, HJ2.out.low, HJ2.out.ne, hg4.other h54 (by decide) (by decide) 0 _⟩
        have s4 := h54.cell (i := 0) (v := .slice o1 ss.length c1) (by rfl)
        simp [go_sem] at hrun4
        clear hg4 hgrow4 hb4 h44 h54 hone htt hks hLT
        refine KeptAny.one (i := 17) (by kernel_rfl) rfl (by rfl) (fun K hK => ?_)
        go_simp
        refine hK.out _ _ s4 (fun _ => ?_)
        clear hK hrun4
        refine KeptAny.one (i := 18) (by kernel_rfl) rfl (by rfl) (fun K hK => ?_)
        go_simp
        refine hK.out _ _ s4 (fun _ => ?_)
        clear hK
        refine KeptAny.last (by kernel_rfl) rfl (by rfl) (fun K hK => ?_)
        go_simp
        refine hK.out _ _ ?_
        clear hK f54 s4
        refine KeptAny.done (by kernel_rfl) ?_ _
        have t5 := HZ9.out.t5.cell (i := 0) (by rfl)
        have t4 := HZ9.out.t4.cell (i := 0) (v := .slice none 0 0) (by rfl)
        have f4 := HZ9.out.t4.frozen 0
        have d4 := (HZ9.out.t4.set 0 (.slice o4 tt.length c4)).cell (i := 0) (v := .slice o4 tt.length c4) (by rfl)
        have HG9 := Lib.hid (HZ9.out.gr.other HZ9.out.t4 (by decide) (by decide) 0 (.slice o4 tt.length c4))
        have HR9 := Lib.hid ((HZ9.out.rd.far ((Below.refl _ _).setCell (p := ⟨w.heap.size + 1, 0, none⟩) (by show w.heap.size ≤ w.heap.size + 1; omega) (.slice o4 tt.length c4))).more (P' := p + 10) (by omega) (by omega))
        go_wp2
        exact bodyPost_ret (v := .agg #[.slice o4 tt.length c4]) (by simp [results, Tryz.results86, go_sem, d4]) rfl ⟨tt, _, _, rfl, HG9.out, HLT.out, HR9.out⟩
    · go_simp
      have HI1 := Lib.hid (HI0.out.step ((Below.refl _ _).alloc (Nat.le_refl _) (.cells #[.int .i64 (-1), .int .i64 0, .int .i64 1] 3)))
      have RC1 := Lib.hid (Row.new w2.drew [.int .i64 (-1), .int .i64 0, .int .i64 1] 3)
      refine hK.out _ _ (HI1.out.t5.cell (i := 0) (v := .slice o1 ss.length c1) (by rfl)) (fun _ => ?_)
      clear hK
      refine KeptAny.two (i := 3) (j := 8) (by kernel_rfl) ⟨_, rfl, by rfl, fun K hK => ?_⟩ ⟨_, rfl, by rfl, fun K hK => ?_⟩
      · go_simp
        have HI2 := Lib.hid (HI1.out.step ((Below.refl _ _).alloc (Nat.le_refl _) (.cells #[.int .i64 (-1), .int .i64 0, .int .i64 5, .int .i64 9] 3)))
        have RA2 : Hid (Row ((w2.drew.alloc (.cells #[.int .i64 (-1), .int .i64 0, .int .i64 1] 3)).alloc (.cells #[.int .i64 (-1), .int .i64 0, .int .i64 5, .int .i64 9] 3)) (w2.heap.size + 1) 3 [.int .i64 (-1), .int .i64 0, .int .i64 5, .int .i64 9]) := Lib.hid (by
          have h := Row.new (w2.drew.alloc (.cells #[.int .i64 (-1), .int .i64 0, .int .i64 1] 3)) [.int .i64 (-1), .int .i64 0, .int .i64 5, .int .i64 9] 3
          simp only [World.size_alloc] at h
          exact h)
        have RC2 := Lib.hid (RC1.out.alloc (.cells #[.int .i64 (-1), .int .i64 0, .int .i64 5, .int .i64 9] 3))
        refine hK.out _ _ (HI2.out.t5.cell (i := 0) (v := .slice o1 ss.length c1) (by rfl)) (fun _ => ?_)
        clear hK
        refine KeptAny.two (i := 4) (j := 8) (by kernel_rfl) ⟨_, rfl, by rfl, fun K hK => ?_⟩ ⟨_, rfl, by rfl, fun K hK => ?_⟩
        · go_simp
          refine ⟨trivial, ?_⟩
          obtain ⟨q3, hq3, hrd3⟩ := HI2.out.rd.rd
          have hbr := RA2.out.neq (HI2.out.rd.now.choose_spec.2) (by decide)
          have hC := (callsIn_wide (n := 5)).2 (num_row hrd3 (by omega) (xs := [-1, 0, 5, 9]) RA2.out hbr (by decide) (by decide))
          refine hC.mono ?_
          clear hC hrd3 hbr
          rintro e w13 ⟨pa, hpa, rfl, hr3⟩
          have HI3 := Lib.hid (HI2.out.asked hq3 hr3 (by omega))
          have hbr := RC2.out.neq (HI2.out.rd.now.choose_spec.2) (by decide)
          have RC3 := Lib.hid (RC2.out.asked hr3.turns hbr)
          clear hbr
          have HPA := Lib.hid hpa
          clear hr3 hpa
          refine hK.out _ _ (HI3.out.t5.cell (i := 0) (v := .slice o1 ss.length c1) (by rfl)) (fun _ => ?_)
          clear hK
          refine KeptAny.two (i := 6) (j := 8) (by kernel_rfl) ⟨_, rfl, by rfl, fun K hK => ?_⟩ ⟨_, rfl, by rfl, fun K hK => ?_⟩
          · go_simp
            refine ⟨trivial, ?_⟩
            obtain ⟨q4, hq4, hrd4⟩ := HI3.out.rd.rd
            have hC := (callsIn_wide (n := 5)).2 (pick_any hrd4 (by omega) 5 (by omega))
            refine hC.mono ?_
            clear hC hrd4
            rintro e w14 ⟨kd, rfl, -, hkd, hr4⟩
            have HI4 := Lib.hid (HI3.out.asked hq4 hr4 (by omega))
            have hbr := RC3.out.neq (HI3.out.rd.now.choose_spec.2) (by decide)
            have RC4 := Lib.hid (RC3.out.asked hr4.turns hbr)
            clear hbr
            have HKD := Lib.hid hkd
            clear hr4 hkd
            refine hK.out _ _ (HI4.out.t5.cell (i := 0) (v := .slice o1 ss.length c1) (by rfl)) (fun _ => ?_)
            clear hK
            refine KeptAny.one (i := 8) (by kernel_rfl) rfl (by rfl) (fun K hK => ?_)
            go_simp
            have HI5 := Lib.hid (HI4.out.step ((Below.refl _ _).alloc (Nat.le_refl _) (.cells #[.string ⟨#[120]⟩, .string ⟨#[]⟩, .string ⟨#[88]⟩, .string ⟨#[120, 121]⟩] 9)))
            have RB5 := Lib.hid (Row.new w14 [.string ⟨#[120]⟩, .string ⟨#[]⟩, .string ⟨#[88]⟩, .string ⟨#[120, 121]⟩] 9)
            have RC5 := Lib.hid (RC4.out.alloc (.cells #[.string ⟨#[120]⟩, .string ⟨#[]⟩, .string ⟨#[88]⟩, .string ⟨#[120, 121]⟩] 9))
            refine hK.out _ _ (HI5.out.t5.cell (i := 0) (v := .slice o1 ss.length c1) (by rfl)) (fun _ => ?_)
            clear hK
            refine KeptAny.one (i := 9) (by kernel_rfl) rfl (by rfl) (fun K hK => ?_)
            go_simp
            refine ⟨trivial, ?_⟩
            obtain ⟨q6, hq6, hrd6⟩ := HI5.out.rd.rd
            have hbr := RB5.out.neq (HI5.out.rd.now.choose_spec.2) (by decide)
            have hC := (callsIn_wide (n := 5)).2 (of_row hrd6 (by omega) (xs := [⟨#[120]⟩, ⟨#[]⟩, ⟨#[88]⟩, ⟨#[120, 121]⟩]) RB5.out hbr (by decide) (by decide))
            refine hC.mono ?_
            clear hC hrd6 hbr
            rintro e w16 ⟨nm, hnm, rfl, hr6⟩
            have HI6 := Lib.hid (HI5.out.asked hq6 hr6 (by omega))
            have hbr := RC5.out.neq (HI5.out.rd.now.choose_spec.2) (by decide)
            have RC6 := Lib.hid (RC5.out.asked hr6.turns hbr)
            clear hbr
            have HNM := Lib.hid hnm
            clear hr6 hnm
            refine hK.out _ _ (HI6.out.t5.cell (i := 0) (v := .slice o1 ss.length c1) (by rfl)) (fun _ => ?_)
            clear hK
            refine KeptAny.one (i := 12) (by kernel_rfl) rfl (by rfl) (fun K hK => ?_)
            go_simp
            refine ⟨trivial, ?_⟩
            obtain ⟨q7, hq7, hrd7⟩ := HI6.out.rd.rd
            have hbr := RC6.out.neq (HI6.out.rd.now.choose_spec.2) (by decide)
            have hC := (callsIn_wide (n := 5)).2 (num_row hrd7 (by omega) (xs := [-1, 0, 1]) RC6.out hbr (by decide) (by decide))
            refine hC.mono ?_
            clear hC hrd7 hbr
            rintro e w17 ⟨sc, hsc, rfl, hr7⟩
            have HI7 := Lib.hid (HI6.out.asked hq7 hr7 (by omega))
            have HSC := Lib.hid hsc
            clear hr7 hsc
            refine hK.out _ _ (HI7.out.t5.cell (i := 0) (v := .slice o1 ss.length c1) (by rfl)) (fun _ => ?_)
            clear hK
            refine KeptAny.one (i := 13) (by kernel_rfl) rfl (by rfl) (fun K hK => ?_)
            go_simp
            refine hK.out _ _ (HI7.out.t5.cell (i := 0) (v := .slice o1 ss.length c1) (by rfl)) (fun _ => ?_)
            clear hK
            refine KeptAny.one (i := 14) (by kernel_rfl) rfl (by rfl) (fun K hK => ?_)
            go_simp
            have HJ1 := Lib.hid (HI7.out.step ((Below.refl _ _).alloc (Nat.le_refl _) (.cells #[.int .i64 (kd : Int), .string nm, .int .i64 sc] 37)))
            refine hK.out _ _ (HJ1.out.t5.cell (i := 0) (v := .slice o1 ss.length c1) (by rfl)) (fun _ => ?_)
            clear hK
            refine KeptAny.one (i := 15) (by kernel_rfl) rfl (by rfl) (fun K hK => ?_)
            go_simp
            refine hK.out _ _ (HJ1.out.t5.cell (i := 0) (v := .slice o1 ss.length c1) (by rfl)) (fun _ => ?_)
            clear hK
            refine KeptAny.one (i := 16) (by kernel_rfl) rfl (by rfl) (fun K hK => ?_)
            go_simp
            have HJ2 := Lib.hid (HJ1.out.step ((Below.refl _ _).alloc (Nat.le_refl _) (.cells #[.int .i64 pa, .slice (some ⟨w17.heap.size, 0, none⟩) 1 1] 156)))
            refine hK.out _ _ (HJ2.out.t5.cell (i := 0) (v := .slice o1 ss.length c1) (by rfl)) (fun _ => ?_)
            clear hK
            have hone := HeldGr.single w17 pa (kd : Int) sc nm
            obtain ⟨v4, w4, hrun4, hg4, hgrow4⟩ := append_scopes HJ2.out.gr hone (by simp; omega) HJ2.out.rd.turns.size 31
            have hb4 : Below w.heap.size _ w4 := below_row HJ2.out.gr.row (Nat.le_refl _) hgrow4 HJ2.out.rd.turns.size
            have h44 := HJ2.out.t4.grown hgrow4 (own_row_ne HJ2.out.t4 HJ2.out.gr.row (by decide))
            have h54 := HJ2.out.t5.grown hgrow4 (own_row_ne HJ2.out.t5 HJ2.out.gr.row (by decide))
            have hLT : Lit1 210 (ss ++ [⟨pa, [⟨(kd : Int), nm, sc⟩]⟩]) := (HL.out.append (bad_lit HPA.out HKD.out HNM.out HSC.out)).mono (by omega)
            obtain ⟨tt, htt⟩ : ∃ tt, ss ++ [(⟨pa, [⟨(kd : Int), nm, sc⟩]⟩ : Sc)] = tt := ⟨_, rfl⟩
            rw [htt] at hg4 hLT
            obtain ⟨ks, hks⟩ : ∃ ks, hs ++ [Value.slice (some ⟨w17.heap.size, 0, none⟩) 1 1] = ks := ⟨_, rfl⟩
            rw [hks] at hg4
            obtain ⟨o4, c4, rfl, -⟩ := hg4.holds
            have HLT := Lib.hid hLT
            have f54 := h54.frozen 0
            have HZ9 : Hid (BadAt w (w4.setCell ⟨w1.heap.size, 0, none⟩ (.slice o4 tt.length c4)) r oa len cap (p + 1 + 1 + 1 + 1 + 1) w1.heap.size (.slice o4 tt.length c4) tt ks) := Lib.hid
              ⟨(HJ2.out.rd.far hb4).far ((Below.refl _ _).setCell (p := ⟨w1.heap.size, 0, none⟩) HJ2.out.low _), h44.other (by have := HJ2.out.ne; omega) _, h54.set 0 _, HJ2.out.low, HJ2.out.ne, hg4.other h54 (by decide) (by decide) 0 _⟩
            have s4 := h54.cell (i := 0) (v := .slice o1 ss.length c1) (by rfl)
            simp [go_sem] at hrun4
            clear hg4 hgrow4 hb4 h44 h54 hone htt hks hLT
            refine KeptAny.one (i := 17) (by kernel_rfl) rfl (by rfl) (fun K hK => ?_)
            go_simp
            refine hK.out _ _ s4 (fun _ => ?_)
            clear hK hrun4
            refine KeptAny.one (i := 18) (by kernel_rfl) rfl (by rfl) (fun K hK => ?_)
            go_simp
            refine hK.out _ _ s4 (fun _ => ?_)
            clear hK
            refine KeptAny.last (by kernel_rfl) rfl (by rfl) (fun K hK => ?_)
            go_simp
            refine hK.out _ _ ?_
            clear hK f54 s4
            refine KeptAny.done (by kernel_rfl) ?_ _
            have t5 := HZ9.out.t5.cell (i := 0) (by rfl)
            have t4 := HZ9.out.t4.cell (i := 0) (v := .slice none 0 0) (by rfl)
            have f4 := HZ9.out.t4.frozen 0
            have d4 := (HZ9.out.t4.set 0 (.slice o4 tt.length c4)).cell (i := 0) (v := .slice o4 tt.length c4) (by rfl)
            have HG9 := Lib.hid (HZ9.out.gr.other HZ9.out.t4 (by decide) (by decide) 0 (.slice o4 tt.length c4))
            have HR9 := Lib.hid ((HZ9.out.rd.far ((Below.refl _ _).setCell (p := ⟨w.heap.size + 1, 0, none⟩) (by show w.heap.size ≤ w.heap.size + 1; omega) (.slice o4 tt.length c4))).more (P' := p + 10) (by omega) (by omega))
            go_wp2
            exact bodyPost_ret (v := .agg #[.slice o4 tt.length c4]) (by simp [results, Tryz.results86, go_sem, d4]) rfl ⟨tt, _, _, rfl, HG9.out, HLT.out, HR9.out⟩
          · go_simp
            have HI4 := Lib.hid (HI3.out.step ((Below.refl _ _).alloc (Nat.le_refl _) (.cells #[.string ⟨#[120]⟩, .string ⟨#[]⟩, .string ⟨#[88]⟩, .string ⟨#[120, 121]⟩] 9)))
            have RB4 := Lib.hid (Row.new w13 [.string ⟨#[120]⟩, .string ⟨#[]⟩, .string ⟨#[88]⟩, .string ⟨#[120, 121]⟩] 9)
            have RC4 := Lib.hid (RC3.out.alloc (.cells #[.string ⟨#[120]⟩, .string ⟨#[]⟩, .string ⟨#[88]⟩, .string ⟨#[120, 121]⟩] 9))
            refine hK.out _ _ (HI4.out.t5.cell (i := 0) (v := .slice o1 ss.length c1) (by rfl)) (fun _ => ?_)
            clear hK
            refine KeptAny.one (i := 6) (by kernel_rfl) rfl (by rfl) (fun K hK => ?_)
            go_simp
            refine ⟨trivial, ?_⟩
            obtain ⟨q5, hq5, hrd5⟩ := HI4.out.rd.rd
            have hC := (callsIn_wide (n := 5)).2 (pick_any hrd5 (by omega) 5 (by omega))
            refine hC.mono ?_
            clear hC hrd5
            rintro e w15 ⟨kd, rfl, -, hkd, hr5⟩
            have HI5 := Lib.hid (HI4.out.asked hq5 hr5 (by omega))
            have hbr := RC4.out.neq (HI4.out.rd.now.choose_spec.2) (by decide)
            have RC5 := Lib.hid (RC4.out.asked hr5.turns hbr)
            clear hbr
            have hbr := RB4.out.neq (HI4.out.rd.now.choose_spec.2) (by decide)
            have RB5 := Lib.hid (RB4.out.asked hr5.turns hbr)
            clear hbr
            have HKD := Lib.hid hkd
            clear hr5 hkd
            refine hK.out _ _ (HI5.out.t5.cell (i := 0) (v := .slice o1 ss.length c1) (by rfl)) (fun _ => ?_)
            clear hK
            refine KeptAny.one (i := 9) (by kernel_rfl) rfl (by rfl) (fun K hK => ?_)
            go_simp
            refine ⟨trivial, ?_⟩
            obtain ⟨q6, hq6, hrd6⟩ := HI5.out.rd.rd
            have hbr := RB5.out.neq (HI5.out.rd.now.choose_spec.2) (by decide)
            have hC := (callsIn_wide (n := 5)).2 (of_row hrd6 (by omega) (xs := [⟨#[120]⟩, ⟨#[]⟩, ⟨#[88]⟩, ⟨#[120, 121]⟩]) RB5.out hbr (by decide) (by decide))
            refine hC.mono ?_
            clear hC hrd6 hbr
            rintro e w16 ⟨nm, hnm, rfl, hr6⟩
            have HI6 := Lib.hid (HI5.out.asked hq6 hr6 (by omega))
            have hbr := RC5.out.neq (HI5.out.rd.now.choose_spec.2) (by decide)
            have RC6 := Lib.hid (RC5.out.asked hr6.turns hbr)
            clear hbr
            have HNM := Lib.hid hnm
            clear hr6 hnm
            refine hK.out _ _ (HI6.out.t5.cell (i := 0) (v := .slice o1 ss.length c1) (by rfl)) (fun _ => ?_)
            clear hK
            refine KeptAny.one (i := 12) (by kernel_rfl) rfl (by rfl) (fun K hK => ?_)
            go_simp
            refine ⟨trivial, ?_⟩
            obtain ⟨q7, hq7, hrd7⟩ := HI6.out.rd.rd
            have hbr := RC6.out.neq (HI6.out.rd.now.choose_spec.2) (by decide)
            have hC := (callsIn_wide (n := 5)).2 (num_row hrd7 (by omega) (xs := [-1, 0, 1]) RC6.out hbr (by decide) (by decide))
            refine hC.mono ?_
            clear hC hrd7 hbr
            rintro e w17 ⟨sc, hsc, rfl, hr7⟩
            have HI7 := Lib.hid (HI6.out.asked hq7 hr7 (by omega))
            have HSC := Lib.hid hsc
            clear hr7 hsc
            refine hK.out _ _ (HI7.out.t5.cell (i := 0) (v := .slice o1 ss.length c1) (by rfl)) (fun _ => ?_)
            clear hK
            refine KeptAny.one (i := 13) (by kernel_rfl) rfl (by rfl) (fun K hK => ?_)
            go_simp
            refine hK.out _ _ (HI7.out.t5.cell (i := 0) (v := .slice o1 ss.length c1) (by rfl)) (fun _ => ?_)
            clear hK
            refine KeptAny.one (i := 14) (by kernel_rfl) rfl (by rfl) (fun K hK => ?_)
            go_simp
            have HJ1 := Lib.hid (HI7.out.step ((Below.refl _ _).alloc (Nat.le_refl _) (.cells #[.int .i64 (kd : Int), .string nm, .int .i64 sc] 37)))
            refine hK.out _ _ (HJ1.out.t5.cell (i := 0) (v := .slice o1 ss.length c1) (by rfl)) (fun _ => ?_)
            clear hK
            refine KeptAny.one (i := 15) (by kernel_rfl) rfl (by rfl) (fun K hK => ?_)
            go_simp
            refine hK.out _ _ (HJ1.out.t5.cell (i := 0) (v := .slice o1 ss.length c1) (by rfl)) (fun _ => ?_)
            clear hK
            refine KeptAny.one (i := 16) (by kernel_rfl) rfl (by rfl) (fun K hK => ?_)
            go_simp
            have HJ2 := Lib.hid (HJ1.out.step ((Below.refl _ _).alloc (Nat.le_refl _) (.cells #[.int .i64 pa, .slice (some ⟨w17.heap.size, 0, none⟩) 1 1] 156)))
            refine hK.out _ _ (HJ2.out.t5.cell (i := 0) (v := .slice o1 ss.length c1) (by rfl)) (fun _ => ?_)
            clear hK
            have hone := HeldGr.single w17 pa (kd : Int) sc nm
            obtain ⟨v4, w4, hrun4, hg4, hgrow4⟩ := append_scopes HJ2.out.gr hone (by simp; omega) HJ2.out.rd.turns.size 31
            have hb4 : Below w.heap.size _ w4 := below_row HJ2.out.gr.row (Nat.le_refl _) hgrow4 HJ2.out.rd.turns.size
            have h44 := HJ2.out.t4.grown hgrow4 (own_row_ne HJ2.out.t4 HJ2.out.gr.row (by decide))
            have h54 := HJ2.out.t5.grown hgrow4 (own_row_ne HJ2.out.t5 HJ2.out.gr.row (by decide))
            have hLT : Lit1 210 (ss ++ [⟨pa, [⟨(kd : Int), nm, sc⟩]⟩]) := (HL.out.append (bad_lit HPA.out HKD.out HNM.out HSC.out)).mono (by omega)
            obtain ⟨tt, htt⟩ : ∃ tt, ss ++ [(⟨pa, [⟨(kd : Int), nm, sc⟩]⟩ : Sc)] = tt := ⟨_, rfl⟩
            rw [htt] at hg4 hLT
            obtain ⟨ks, hks⟩ : ∃ ks, hs ++ [Value.slice (some ⟨w17.heap.size, 0, none⟩) 1 1] = ks := ⟨_, rfl⟩
            rw [hks] at hg4
            obtain ⟨o4, c4, rfl, -⟩ := hg4.holds
            have HLT := Lib.hid hLT
            have f54 := h54.frozen 0
            have HZ9 : Hid (BadAt w (w4.setCell ⟨w1.heap.size, 0, none⟩ (.slice o4 tt.length c4)) r oa len cap (p + 1 + 1 + 1 + 1 + 1) w1.heap.size (.slice o4 tt.length c4) tt ks) := Lib.hid
              ⟨(HJ2.out.rd.far hb4).far ((Below.refl _ _).setCell (p := ⟨w1.heap.size, 0, none⟩) HJ2.out.low _), h44.other (by have := HJ2.out.ne; omega) _, h54.set 0 _, HJ2.out.low, HJ2.out.ne, hg4.other h54 (by decide) (by decide) 0 _⟩
            have s4 := h54.cell (i := 0) (v := .slice o1 ss.length c1) (by rfl)
            simp [go_sem] at hrun4
            clear hg4 hgrow4 hb4 h44 h54 hone htt hks hLT
            refine KeptAny.one (i := 17) (by kernel_rfl) rfl (by rfl) (fun K hK => ?_)
            go_simp
            refine hK.out _ _ s4 (fun _ => ?_)
            clear hK hrun4
            refine KeptAny.one (i := 18) (by kernel_rfl) rfl (by rfl) (fun K hK => ?_)
            go_simp
            refine hK.out _ _ s4 (fun _ => ?_)
            clear hK
            refine KeptAny.last (by kernel_rfl) rfl (by rfl) (fun K hK => ?_)
            go_simp
            refine hK.out _ _ ?_
            clear hK f54 s4
            refine KeptAny.done (by kernel_rfl) ?_ _
            have t5 := HZ9.out.t5.cell (i := 0) (by rfl)
            have t4 := HZ9.out.t4.cell (i := 0) (v := .slice none 0 0) (by rfl)
            have f4 := HZ9.out.t4.frozen 0
            have d4 := (HZ9.out.t4.set 0 (.slice o4 tt.length c4)).cell (i := 0) (v := .slice o4 tt.length c4) (by rfl)
            have HG9 := Lib.hid (HZ9.out.gr.other HZ9.out.t4 (by decide) (by decide) 0 (.slice o4 tt.length c4))
            have HR9 := Lib.hid ((HZ9.out.rd.far ((Below.refl _ _).setCell (p := ⟨w.heap.size + 1, 0, none⟩) (by show w.heap.size ≤ w.heap.size + 1; omega) (.slice o4 tt.length c4))).more (P' := p + 10) (by omega) (by omega))
            go_wp2
            exact bodyPost_ret (v := .agg #[.slice o4 tt.length c4]) (by simp [results, Tryz.results86, go_sem, d4]) rfl ⟨tt, _, _, rfl, HG9.out, HLT.out, HR9.out⟩
        · go_simp
          have HI3 := Lib.hid (HI2.out.step ((Below.refl _ _).alloc (Nat.le_refl _) (.cells #[.string ⟨#[120]⟩, .string ⟨#[]⟩, .string ⟨#[88]⟩, .string ⟨#[120, 121]⟩] 9)))
          have RB3 : Hid (Row (((w2.drew.alloc (.cells #[.int .i64 (-1), .int .i64 0, .int .i64 1] 3)).alloc (.cells #[.int .i64 (-1), .int .i64 0, .int .i64 5, .int .i64 9] 3)).alloc (.cells #[.string ⟨#[120]⟩, .string ⟨#[]⟩, .string ⟨#[88]⟩, .string ⟨#[120, 121]⟩] 9)) (w2.heap.size + 1 + 1) 9 [.string ⟨#[120]⟩, .string ⟨#[]⟩, .string ⟨#[88]⟩, .string ⟨#[120, 121]⟩]) := Lib.hid (by
            have h := Row.new ((w2.drew.alloc (.cells #[.int .i64 (-1), .int .i64 0, .int .i64 1] 3)).alloc (.cells #[.int .i64 (-1), .int .i64 0, .int .i64 5, .int .i64 9] 3)) [.string ⟨#[120]⟩, .string ⟨#[]⟩, .string ⟨#[88]⟩, .string ⟨#[120, 121]⟩] 9
            simp only [World.size_alloc] at h
            exact h)
          have RC3 := Lib.hid (RC2.out.alloc (.cells #[.string ⟨#[120]⟩, .string ⟨#[]⟩, .string ⟨#[88]⟩, .string ⟨#[120, 121]⟩] 9))
          have RA3 := Lib.hid (RA2.out.alloc (.cells #[.string ⟨#[120]⟩, .string ⟨#[]⟩, .string ⟨#[88]⟩, .string ⟨#[120, 121]⟩] 9))
          refine hK.out _ _ (HI3.out.t5.cell (i := 0) (v := .slice o1 ss.length c1) (by rfl)) (fun _ => ?_)
          clear hK
          refine KeptAny.one (i := 4) (by kernel_rfl) rfl (by rfl) (fun K hK => ?_)
          go_simp
          refine ⟨trivial, ?_⟩
          obtain ⟨q4, hq4, hrd4⟩ := HI3.out.rd.rd
          have hbr := RA3.out.neq (HI3.out.rd.now.choose_spec.2) (by decide)
          have hC := (callsIn_wide (n := 5)).2 (num_row hrd4 (by omega) (xs := [-1, 0, 5, 9]) RA3.out hbr (by decide) (by decide))
          refine hC.mono ?_
          clear hC hrd4 hbr
          rintro e w14 ⟨pa, hpa, rfl, hr4⟩
          have HI4 := Lib.hid (HI3.out.asked hq4 hr4 (by omega))
          have hbr := RC3.out.neq (HI3.out.rd.now.choose_spec.2) (by decide)
          have RC4 := Lib.hid (RC3.out.asked hr4.turns hbr)
          clear hbr
          have hbr := RB3.out.neq (HI3.out.rd.now.choose_spec.2) (by decide)
          have RB4 := Lib.hid (RB3.out.asked hr4.turns hbr)
          clear hbr
          have HPA := Lib.hid hpa
          clear hr4 hpa
          refine hK.out _ _ (HI4.out.t5.cell (i := 0) (v := .slice o1 ss.length c1) (by rfl)) (fun _ => ?_)
          clear hK
          refine KeptAny.one (i := 6) (by kernel_rfl) rfl (by rfl) (fun K hK => ?_)
          go_simp
          refine ⟨trivial, ?_⟩
          obtain ⟨q5, hq5, hrd5⟩ := HI4.out.rd.rd
          have hC := (callsIn_wide (n := 5)).2 (pick_any hrd5 (by omega) 5 (by omega))
          refine hC.mono ?_
          clear hC hrd5
          rintro e w15 ⟨kd, rfl, -, hkd, hr5⟩
          have HI5 := Lib.hid (HI4.out.asked hq5 hr5 (by omega))
          have hbr := RC4.out.neq (HI4.out.rd.now.choose_spec.2) (by decide)
          have RC5 := Lib.hid (RC4.out.asked hr5.turns hbr)
          clear hbr
          have hbr := RB4.out.neq (HI4.out.rd.now.choose_spec.2) (by decide)
          have RB5 := Lib.hid (RB4.out.asked hr5.turns hbr)
          clear hbr
          have HKD := Lib.hid hkd
          clear hr5 hkd
          refine hK.out _ _ (HI5.out.t5.cell (i := 0) (v := .slice o1 ss.length c1) (by rfl)) (fun _ => ?_)
          clear hK
          refine KeptAny.one (i := 9) (by kernel_rfl) rfl (by rfl) (fun K hK => ?_)
          go_simp
          refine ⟨trivial, ?_⟩
          obtain ⟨q6, hq6, hrd6⟩ := HI5.out.rd.rd
          have hbr := RB5.out.neq (HI5.out.rd.now.choose_spec.2) (by decide)
          have hC := (callsIn_wide (n := 5)).2 (of_row hrd6 (by omega) (xs := [⟨#[120]⟩, ⟨#[]⟩, ⟨#[88]⟩, ⟨#[120, 121]⟩]) RB5.out hbr (by decide) (by decide))
          refine hC.mono ?_
          clear hC hrd6 hbr
          rintro e w16 ⟨nm, hnm, rfl, hr6⟩
          have HI6 := Lib.hid (HI5.out.asked hq6 hr6 (by omega))
          have hbr := RC5.out.neq (HI5.out.rd.now.choose_spec.2) (by decide)
          have RC6 := Lib.hid (RC5.out.asked hr6.turns hbr)
          clear hbr
          have HNM := Lib.hid hnm
          clear hr6 hnm
          refine hK.out _ _ (HI6.out.t5.cell (i := 0) (v := .slice o1 ss.length c1) (by rfl)) (fun _ => ?_)
          clear hK
          refine KeptAny.one (i := 12) (by kernel_rfl) rfl (by rfl) (fun K hK => ?_)
          go_simp
          refine ⟨trivial, ?_⟩
          obtain ⟨q7, hq7, hrd7⟩ := HI6.out.rd.rd
          have hbr := RC6.out.neq (HI6.out.rd.now.choose_spec.2) (by decide)
          have hC := (callsIn_wide (n := 5)).2 (num_row hrd7 (by omega) (xs := [-1, 0, 1]) RC6.out hbr (by decide) (by decide))
          refine hC.mono ?_
          clear hC hrd7 hbr
          rintro e w17 ⟨sc, hsc, rfl, hr7⟩
          have HI7 := Lib.hid (HI6.out.asked hq7 hr7 (by omega))
          have HSC := Lib.hid hsc
          clear hr7 hsc
          refine hK.out _ _ (HI7.out.t5.cell (i := 0) (v := .slice o1 ss.length c1) (by rfl)) (fun _ => ?_)
          clear hK
          refine KeptAny.one (i := 13) (by kernel_rfl) rfl (by rfl) (fun K hK => ?_)
          go_simp
          refine hK.out _ _ (HI7.out.t5.cell (i := 0) (v := .slice o1 ss.length c1) (by rfl)) (fun _ => ?_)
          clear hK
          refine KeptAny.one (i := 14) (by kernel_rfl) rfl (by rfl) (fun K hK => ?_)
          go_simp
          have HJ1 := Lib.hid (HI7.out.step ((Below.refl _ _).alloc (Nat.le_refl _) (.cells #[.int .i64 (kd : Int), .string nm, .int .i64 sc] 37)))
          refine hK.out _ _ (HJ1.out.t5.cell (i := 0) (v := .slice o1 ss.length c1) (by rfl)) (fun _ => ?_)
          clear hK
          refine KeptAny.one (i := 15) (by kernel_rfl) rfl (by rfl) (fun K hK => ?_)
          go_simp
          refine hK.out _ _ (HJ1.out.t5.cell (i := 0) (v := .slice o1 ss.length c1) (by rfl)) (fun _ => ?_)
          clear hK
          refine KeptAny.one (i := 16) (by kernel_rfl) rfl (by rfl) (fun K hK => ?_)
          go_simp
          have HJ2 := Lib.hid (HJ1.out.step ((Below.refl _ _).alloc (Nat.le_refl _) (.cells #[.int .i64 pa, .slice (some ⟨w17.heap.size, 0, none⟩) 1 1] 156)))
          refine hK.out _ _ (HJ2.out.t5.cell (i := 0) (v := .slice o1 ss.length c1) (by rfl)) (fun _ => ?_)
          clear hK
          have hone := HeldGr.single w17 pa (kd : Int) sc nm
          obtain ⟨v4, w4, hrun4, hg4, hgrow4⟩ := append_scopes HJ2.out.gr hone (by simp; omega) HJ2.out.rd.turns.size 31
          have hb4 : Below w.heap.size _ w4 := below_row HJ2.out.gr.row (Nat.le_refl _) hgrow4 HJ2.out.rd.turns.size
          have h44 := HJ2.out.t4.grown hgrow4 (own_row_ne HJ2.out.t4 HJ2.out.gr.row (by decide))
          have h54 := HJ2.out.t5.grown hgrow4 (own_row_ne HJ2.out.t5 HJ2.out.gr.row (by decide))
          have hLT : Lit1 210 (ss ++ [⟨pa, [⟨(kd : Int), nm, sc⟩]⟩]) := (HL.out.append (bad_lit HPA.out HKD.out HNM.out HSC.out)).mono (by omega)
          obtain ⟨tt, htt⟩ : ∃ tt, ss ++ [(⟨pa, [⟨(kd : Int), nm, sc⟩]⟩ : Sc)] = tt := ⟨_, rfl⟩
          rw [htt] at hg4 hLT
          obtain ⟨ks, hks⟩ : ∃ ks, hs ++ [Value.slice (some ⟨w17.heap.size, 0, none⟩) 1 1] = ks := ⟨_, rfl⟩
          rw [hks] at hg4
          obtain ⟨o4, c4, rfl, -⟩ := hg4.holds
          have HLT := Lib.hid hLT
          have f54 := h54.frozen 0
          have HZ9 : Hid (BadAt w (w4.setCell ⟨w1.heap.size, 0, none⟩ (.slice o4 tt.length c4)) r oa len cap (p + 1 + 1 + 1 + 1 + 1) w1.heap.size (.slice o4 tt.length c4) tt ks) := Lib.hid
            ⟨(HJ2.out.rd.far hb4).far ((Below.refl _ _).setCell (p := ⟨w1.heap.size, 0, none⟩) HJ2.out.low _), h44.other (by have := HJ2.out.ne; omega) _, h54.set 0 _, HJ2.out.low, HJ2.out.ne, hg4.other h54 (by decide) (by decide) 0 _⟩
          have s4 := h54.cell (i := 0) (v := .slice o1 ss.length c1) (by rfl)
          simp [go_sem] at hrun4
          clear hg4 hgrow4 hb4 h44 h54 hone htt hks hLT
          refine KeptAny.one (i := 17) (by kernel_rfl) rfl (by rfl) (fun K hK => ?_)
          go_simp
          refine hK.out _ _ s4 (fun _ => ?_)
          clear hK hrun4
          refine KeptAny.one (i := 18) (by kernel_rfl) rfl (by rfl) (fun K hK => ?_)
          go_simp
          refine hK.out _ _ s4 (fun _ => ?_)
          clear hK
          refine KeptAny.last (by kernel_rfl) rfl (by rfl) (fun K hK => ?_)
          go_simp
          refine hK.out _ _ ?_
          clear hK f54 s4
          refine KeptAny.done (by kernel_rfl) ?_ _
          have t5 := HZ9.out.t5.cell (i := 0) (by rfl)
          have t4 := HZ9.out.t4.cell (i := 0) (v := .slice none 0 0) (by rfl)
          have f4 := HZ9.out.t4.frozen 0
          have d4 := (HZ9.out.t4.set 0 (.slice o4 tt.length c4)).cell (i := 0) (v := .slice o4 tt.length c4) (by rfl)
          have HG9 := Lib.hid (HZ9.out.gr.other HZ9.out.t4 (by decide) (by decide) 0 (.slice o4 tt.length c4))
          have HR9 := Lib.hid ((HZ9.out.rd.far ((Below.refl _ _).setCell (p := ⟨w.heap.size + 1, 0, none⟩) (by show w.heap.size ≤ w.heap.size + 1; omega) (.slice o4 tt.length c4))).more (P' := p + 10) (by omega) (by omega))
          go_wp2
          exact bodyPost_ret (v := .agg #[.slice o4 tt.length c4]) (by simp [results, Tryz.results86, go_sem, d4]) rfl ⟨tt, _, _, rfl, HG9.out, HLT.out, HR9.out⟩
      · go_simp
        have HI2 := Lib.hid (HI1.out.step ((Below.refl _ _).alloc (Nat.le_refl _) (.cells #[.string ⟨#[120]⟩, .string ⟨#[]⟩, .string ⟨#[88]⟩, .string ⟨#[120, 121]⟩] 9)))
        have RB2 : Hid (Row ((w2.drew.alloc (.cells #[.int .i64 (-1), .int .i64 0, .int .i64 1] 3)).alloc (.cells #[.string ⟨#[120]⟩, .string ⟨#[]⟩, .string ⟨#[88]⟩, .string ⟨#[120, 121]⟩] 9)) (w2.heap.size + 1) 9 [.string ⟨#[120]⟩, .string ⟨#[]⟩, .string ⟨#[88]⟩, .string ⟨#[120, 121]⟩]) := Lib.hid (by
          have h := Row.new (w2.drew.alloc (.cells #[.int .i64 (-1), .int .i64 0, .int .i64 1] 3)) [.string ⟨#[120]⟩, .string ⟨#[]⟩, .string ⟨#[88]⟩, .string ⟨#[120, 121]⟩] 9
          simp only [World.size_alloc] at h
          exact h)
        have RC2 := Lib.hid (RC1.out.alloc (.cells #[.string ⟨#[120]⟩, .string ⟨#[]⟩, .string ⟨#[88]⟩, .string ⟨#[120, 121]⟩] 9))
        refine hK.out _ _ (HI2.out.t5.cell (i := 0) (v := .slice o1 ss.length c1) (by rfl)) (fun _ => ?_)
        clear hK
        refine KeptAny.one (i := 3) (by kernel_rfl) rfl (by rfl) (fun K hK => ?_)
        go_simp
        have HI3 := Lib.hid (HI2.out.step ((Below.refl _ _).alloc (Nat.le_refl _) (.cells #[.int .i64 (-1), .int .i64 0, .int .i64 5, .int .i64 9] 3)))
        have RA3 : Hid (Row (((w2.drew.alloc (.cells #[.int .i64 (-1), .int .i64 0, .int .i64 1] 3)).alloc (.cells #[.string ⟨#[120]⟩, .string ⟨#[]⟩, .string ⟨#[88]⟩, .string ⟨#[120, 121]⟩] 9)).alloc (.cells #[.int .i64 (-1), .int .i64 0, .int .i64 5, .int .i64 9] 3)) (w2.heap.size + 1 + 1) 3 [.int .i64 (-1), .int .i64 0, .int .i64 5, .int .i64 9]) := Lib.hid (by
          have h := Row.new ((w2.drew.alloc (.cells #[.int .i64 (-1), .int .i64 0, .int .i64 1] 3)).alloc (.cells #[.string ⟨#[120]⟩, .string ⟨#[]⟩, .string ⟨#[88]⟩, .string ⟨#[120, 121]⟩] 9)) [.int .i64 (-1), .int .i64 0, .int .i64 5, .int .i64 9] 3
          simp only [World.size_alloc] at h
          exact h)
        have RC3 := Lib.hid (RC2.out.alloc (.cells #[.int .i64 (-1), .int .i64 0, .int .i64 5, .int .i64 9] 3))
        have RB3 := Lib.hid (RB2.out.alloc (.cells #[.int .i64 (-1), .int .i64 0, .int .i64 5, .int .i64 9] 3))
        refine hK.out _ _ (HI3.out.t5.cell (i := 0) (v := .slice o1 ss.length c1) (by rfl)) (fun _ => ?_)
        clear hK
        refine KeptAny.one (i := 4) (by kernel_rfl) rfl (by rfl) (fun K hK => ?_)
        go_simp
        refine ⟨trivial, ?_⟩
        obtain ⟨q4, hq4, hrd4⟩ := HI3.out.rd.rd
        have hbr := RA3.out.neq (HI3.out.rd.now.choose_spec.2) (by decide)
        have hC := (callsIn_wide (n := 5)).2 (num_row hrd4 (by omega) (xs := [-1, 0, 5, 9]) RA3.out hbr (by decide) (by decide))
        refine hC.mono ?_
        clear hC hrd4 hbr
        rintro e w14 ⟨pa, hpa, rfl, hr4⟩
        have HI4 := Lib.hid (HI3.out.asked hq4 hr4 (by omega))
        have hbr := RC3.out.neq (HI3.out.rd.now.choose_spec.2) (by decide)
        have RC4 := Lib.hid (RC3.out.asked hr4.turns hbr)
        clear hbr
        have hbr := RB3.out.neq (HI3.out.rd.now.choose_spec.2) (by decide)
        have RB4 := Lib.hid (RB3.out.asked hr4.turns hbr)
        clear hbr
        have HPA := Lib.hid hpa
        clear hr4 hpa
        refine hK.out _ _ (HI4.out.t5.cell (i := 0) (v := .slice o1 ss.length c1) (by rfl)) (fun _ => ?_)
        clear hK
        refine KeptAny.one (i := 6) (by kernel_rfl) rfl (by rfl) (fun K hK => ?_)
        go_simp
        refine ⟨trivial, ?_⟩
        obtain ⟨q5, hq5, hrd5⟩ := HI4.out.rd.rd
        have hC := (callsIn_wide (n := 5)).2 (pick_any hrd5 (by omega) 5 (by omega))
        refine hC.mono ?_
        clear hC hrd5
        rintro e w15 ⟨kd, rfl, -, hkd, hr5⟩
        have HI5 := Lib.hid (HI4.out.asked hq5 hr5 (by omega))
        have hbr := RC4.out.neq (HI4.out.rd.now.choose_spec.2) (by decide)
        have RC5 := Lib.hid (RC4.out.asked hr5.turns hbr)
        clear hbr
        have hbr := RB4.out.neq (HI4.out.rd.now.choose_spec.2) (by decide)
        have RB5 := Lib.hid (RB4.out.asked hr5.turns hbr)
        clear hbr
        have HKD := Lib.hid hkd
        clear hr5 hkd
        refine hK.out _ _ (HI5.out.t5.cell (i := 0) (v := .slice o1 ss.length c1) (by rfl)) (fun _ => ?_)
        clear hK
        refine KeptAny.one (i := 9) (by kernel_rfl) rfl (by rfl) (fun K hK => ?_)
        go_simp
        refine ⟨trivial, ?_⟩
        obtain ⟨q6, hq6, hrd6⟩ := HI5.out.rd.rd
        have hbr := RB5.out.neq (HI5.out.rd.now.choose_spec.2) (by decide)
        have hC := (callsIn_wide (n := 5)).2 (of_row hrd6 (by omega) (xs := [⟨#[120]⟩, ⟨#[]⟩, ⟨#[88]⟩, ⟨#[120, 121]⟩]) RB5.out hbr (by decide) (by decide))
        refine hC.mono ?_
        clear hC hrd6 hbr
        rintro e w16 ⟨nm, hnm, rfl, hr6⟩
        have HI6 := Lib.hid (HI5.out.asked hq6 hr6 (by omega))
        have hbr := RC5.out.neq (HI5.out.rd.now.choose_spec.2) (by decide)
        have RC6 := Lib.hid (RC5.out.asked hr6.turns hbr)
        clear hbr
        have HNM := Lib.hid hnm
        clear hr6 hnm
        refine hK.out _ _ (HI6.out.t5.cell (i := 0) (v := .slice o1 ss.length c1) (by rfl)) (fun _ => ?_)
        clear hK
        refine KeptAny.one (i := 12) (by kernel_rfl) rfl (by rfl) (fun K hK => ?_)
        go_simp
        refine ⟨trivial, ?_⟩
        obtain ⟨q7, hq7, hrd7⟩ := HI6.out.rd.rd
        have hbr := RC6.out.neq (HI6.out.rd.now.choose_spec.2) (by decide)
        have hC := (callsIn_wide (n := 5)).2 (num_row hrd7 (by omega) (xs := [-1, 0, 1]) RC6.out hbr (by decide) (by decide))
        refine hC.mono ?_
        clear hC hrd7 hbr
        rintro e w17 ⟨sc, hsc, rfl, hr7⟩
        have HI7 := Lib.hid (HI6.out.asked hq7 hr7 (by omega))
        have HSC := Lib.hid hsc
        clear hr7 hsc
        refine hK.out _ _ (HI7.out.t5.cell (i := 0) (v := .slice o1 ss.length c1) (by rfl)) (fun _ => ?_)
        clear hK
        refine KeptAny.one (i := 13) (by kernel_rfl) rfl (by rfl) (fun K hK => ?_)
        go_simp
        refine hK.out _ _ (HI7.out.t5.cell (i := 0) (v := .slice o1 ss.length c1) (by rfl)) (fun _ => ?_)
        clear hK
        refine KeptAny.one (i := 14) (by kernel_rfl) rfl (by rfl) (fun K hK => ?_)
        go_simp
        have HJ1 := Lib.hid (HI7.out.step ((Below.refl _ _).alloc (Nat.le_refl _) (.cells #[.int .i64 (kd : Int), .string nm, .int .i64 sc] 37)))
        refine hK.out _ _ (HJ1.out.t5.cell (i := 0) (v := .slice o1 ss.length c1) (by rfl)) (fun _ => ?_)
        clear hK
        refine KeptAny.one (i := 15) (by kernel_rfl) rfl (by rfl) (fun K hK => ?_)
        go_simp
        refine hK.out _ _ (HJ1.out.t5.cell (i := 0) (v := .slice o1 ss.length c1) (by rfl)) (fun _ => ?_)
        clear hK
        refine KeptAny.one (i := 16) (by kernel_rfl) rfl (by rfl) (fun K hK => ?_)
        go_simp
        have HJ2 := Lib.hid (HJ1.out.step ((Below.refl _ _).alloc (Nat.le_refl _) (.cells #[.int .i64 pa, .slice (some ⟨w17.heap.size, 0, none⟩) 1 1] 156)))
        refine hK.out _ _ (HJ2.out.t5.cell (i := 0) (v := .slice o1 ss.length c1) (by rfl)) (fun _ => ?_)
        clear hK
        have hone := HeldGr.single w17 pa (kd : Int) sc nm
        obtain ⟨v4, w4, hrun4, hg4, hgrow4⟩ := append_scopes HJ2.out.gr hone (by simp; omega) HJ2.out.rd.turns.size 31
        have hb4 : Below w.heap.size _ w4 := below_row HJ2.out.gr.row (Nat.le_refl _) hgrow4 HJ2.out.rd.turns.size
        have h44 := HJ2.out.t4.grown hgrow4 (own_row_ne HJ2.out.t4 HJ2.out.gr.row (by decide))
        have h54 := HJ2.out.t5.grown hgrow4 (own_row_ne HJ2.out.t5 HJ2.out.gr.row (by decide))
        have hLT : Lit1 210 (ss ++ [⟨pa, [⟨(kd : Int), nm, sc⟩]⟩]) := (HL.out.append (bad_lit HPA.out HKD.out HNM.out HSC.out)).mono (by omega)
        obtain ⟨tt, htt⟩ : ∃ tt, ss ++ [(⟨pa, [⟨(kd : Int), nm, sc⟩]⟩ : Sc)] = tt := ⟨_, rfl⟩
        rw [htt] at hg4 hLT
        obtain ⟨ks, hks⟩ : ∃ ks, hs ++ [Value.slice (some ⟨w17.heap.size, 0, none⟩) 1 1] = ks := ⟨_, rfl⟩
        rw [hks] at hg4
        obtain ⟨o4, c4, rfl, -⟩ := hg4.holds
        have HLT := Lib.hid hLT
        have f54 := h54.frozen 0
        have HZ9 : Hid (BadAt w (w4.setCell ⟨w1.heap.size, 0, none⟩ (.slice o4 tt.length c4)) r oa len cap (p + 1 + 1 + 1 + 1 + 1) w1.heap.size (.slice o4 tt.length c4) tt ks) := Lib.hid
          ⟨(HJ2.out.rd.far hb4).far ((Below.refl _ _).setCell (p := ⟨w1.heap.size, 0, none⟩) HJ2.out.low _), h44.other (by have := HJ2.out.ne; omega) _, h54.set 0 _, HJ2.out.low, HJ2.out.ne, hg4.other h54 (by decide) (by decide) 0 _⟩
        have s4 := h54.cell (i := 0) (v := .slice o1 ss.length c1) (by rfl)
        simp [go_sem] at hrun4
        clear hg4 hgrow4 hb4 h44 h54 hone htt hks hLT
        refine KeptAny.one (i := 17) (by kernel_rfl) rfl (by rfl) (fun K hK => ?_)
        go_simp
        refine hK.out _ _ s4 (fun _ => ?_)
        clear hK hrun4
        refine KeptAny.one (i := 18) (by kernel_rfl) rfl (by rfl) (fun K hK => ?_)
        go_simp
        refine hK.out _ _ s4 (fun _ => ?_)
        clear hK
        refine KeptAny.last (by kernel_rfl) rfl (by rfl) (fun K hK => ?_)
        go_simp
        refine hK.out _ _ ?_
        clear hK f54 s4
        refine KeptAny.done (by kernel_rfl) ?_ _
        have t5 := HZ9.out.t5.cell (i := 0) (by rfl)
        have t4 := HZ9.out.t4.cell (i := 0) (v := .slice none 0 0) (by rfl)
        have f4 := HZ9.out.t4.frozen 0
        have d4 := (HZ9.out.t4.set 0 (.slice o4 tt.length c4)).cell (i := 0) (v := .slice o4 tt.length c4) (by rfl)
        have HG9 := Lib.hid (HZ9.out.gr.other HZ9.out.t4 (by decide) (by decide) 0 (.slice o4 tt.length c4))
        have HR9 := Lib.hid ((HZ9.out.rd.far ((Below.refl _ _).setCell (p := ⟨w.heap.size + 1, 0, none⟩) (by show w.heap.size ≤ w.heap.size + 1; omega) (.slice o4 tt.length c4))).more (P' := p + 10) (by omega) (by omega))
        go_wp2
        exact bodyPost_ret (v := .agg #[.slice o4 tt.length c4]) (by simp [results, Tryz.results86, go_sem, d4]) rfl ⟨tt, _, _, rfl, HG9.out, HLT.out, HR9.out⟩
  · have hq0 : (((z : Nat) : Int) == 0) = false := by simp; omega
    by_cases hz1 : z = 1
    · have hq1 : (((z : Nat) : Int) == 1) = true := by simp; omega
      clear hz0 hz1
      have f5 := (HB2.out.t5.alloc (.cells #[] 156)).frozen 0
      have hE2 := HeldGr.empty w2 w.heap.size HB2.out.rd.turns.size
      have hbe := (Below.refl w2.heap.size w2).alloc (Nat.le_refl _) (.cells #[] 156)
      have t5e := HB2.out.t5.alloc (.cells #[] 156)
      have HZ9 : Hid (BadAt w ((w2.alloc (.cells #[] 156)).setCell ⟨w1.heap.size, 0, none⟩ (.slice (some ⟨w2.heap.size, 0, none⟩) 0 0)) r oa len cap (p + 1) w1.heap.size (.slice (some ⟨w2.heap.size, 0, none⟩) 0 0) [] []) := Lib.hid
        ⟨(HB2.out.rd.step hbe).far ((Below.refl _ _).setCell (p := ⟨w1.heap.size, 0, none⟩) HB2.out.low _), (HB2.out.t4.alloc _).other (by have := HB2.out.ne; omega) _, t5e.set 0 _, HB2.out.low, HB2.out.ne, hE2.other t5e (by decide) (by decide) 0 _⟩
      have c5 := t5e.cell (i := 0) (v := .slice o1 ss.length c1) (by rfl)
      clear hE2 hbe t5e
      have t5 := HZ9.out.t5.cell (i := 0) (by rfl)
      have t4 := HZ9.out.t4.cell (i := 0) (v := .slice none 0 0) (by rfl)
      have f4 := HZ9.out.t4.frozen 0
      have d4 := (HZ9.out.t4.set 0 (.slice (some ⟨w2.heap.size, 0, none⟩) 0 0)).cell (i := 0) (v := .slice (some ⟨w2.heap.size, 0, none⟩) 0 0) (by rfl)
      have HG9 := Lib.hid (HZ9.out.gr.other HZ9.out.t4 (by decide) (by decide) 0 (.slice (some ⟨w2.heap.size, 0, none⟩) 0 0))
      have HR9 := Lib.hid ((HZ9.out.rd.far ((Below.refl _ _).setCell (p := ⟨w.heap.size + 1, 0, none⟩) (by show w.heap.size ≤ w.heap.size + 1; omega) (.slice (some ⟨w2.heap.size, 0, none⟩) 0 0))).more (P' := p + 10) (by omega) (by omega))
      go_wp2
      exact bodyPost_ret (v := .agg #[.slice (some ⟨w2.heap.size, 0, none⟩) 0 0]) (by simp [results, Tryz.results86, go_sem, d4]) rfl ⟨([] : List Sc), _, _, rfl, HG9.out, (⟨by simp, by simp, fun s h => (by cases h), by simp⟩ : Lit1 210 []), HR9.out⟩
    · have hq1 : (((z : Nat) : Int) == 1) = false := by simp; omega
      by_cases hz2 : z = 2
      · have hq2 : (((z : Nat) : Int) == 2) = true := by simp; omega
        clear hz0 hz1 hz2
        go_upto_region 8 with (fail)
        clear hq0 hq1 hq2 t5
        refine wp_region_kept (S := fun w' => w'.cell? ⟨w1.heap.size, 0, none⟩ = some (.slice o1 ss.length c1)) 8 (by kernel_rfl) ?_
        have HI0 := Lib.hid (HB2.out.step ((Below.refl w2.heap.size w2).drew))
        have hS0 := HI0.out.t5.cell (i := 0) (v := .slice o1 ss.length c1) (by rfl)
        refine KeptAny.take (i := 1) (v := ?_) (by kernel_rfl) rfl rfl (by kernel_rfl) (by kernel_rfl) (by kernel_rfl) (fun _ _ _ h => h) (by rfl) (fun w' hw' => ?_) (fun _ => rfl) hS0 ?_
        rotate_left
        · (go_simp; try with_reducible rfl)
        refine KeptAny.take (i := 2) (v := ?_) (by kernel_rfl) rfl rfl (by kernel_rfl) (by kernel_rfl) (by kernel_rfl) (fun _ _ _ h => h) (by rfl) (fun w' hw' => ?_) (fun _ => rfl) hS0 ?_
        rotate_left
        · (go_simp; try with_reducible rfl)
        refine KeptAny.take (i := 4) (v := ?_) (by kernel_rfl) rfl rfl (by kernel_rfl) (by kernel_rfl) (by kernel_rfl) (fun _ _ _ h => h) (by rfl) (fun w' hw' => ?_) (fun _ => rfl) hS0 ?_
        rotate_left
        · (go_simp; try with_reducible rfl)
        refine KeptAny.take (i := 5) (v := ?_) (by kernel_rfl) rfl rfl (by kernel_rfl) (by kernel_rfl) (by kernel_rfl) (fun _ _ _ h => h) (by rfl) (fun w' hw' => ?_) (fun _ => rfl) hS0 ?_
        rotate_left
        · (go_simp; try with_reducible rfl)
        clear hS0
        refine KeptAny.one (i := 0) (by kernel_rfl) rfl (by rfl) (fun K hK => ?_)
        go_simp
        have HI1 := Lib.hid (HI0.out.step ((Below.refl _ _).alloc (Nat.le_refl _) (.cells #[] 156)))
        refine hK.out _ _ (HI1.out.t5.cell (i := 0) (v := .slice o1 ss.length c1) (by rfl)) (fun _ => ?_)
        clear hK
        have hE := HeldGr.empty w2.drew w.heap.size HB2.out.rd.turns.size
        obtain ⟨v3, w3, hrun3, hg3, hgrow3⟩ := append_scopes hE HI1.out.gr (by simp; omega) (by have := HI1.out.rd.turns.size; exact this) 31
        have hne3 : (Value.slice o1 ss.length c1).ownBlock = none ∨ (Value.slice o1 ss.length c1).ownBlock ≠ (Value.slice (some ⟨w2.drew.heap.size, 0, none⟩) 0 0).ownBlock := by
          refine .inr fun e => ?_
          have h1 := HI0.out.gr.row.lt w2.drew.heap.size (by rw [e]; rfl)
          omega
        have hk3 := HI1.out.gr.grown hE.row hgrow3 hne3
        have hb3 : Below w.heap.size (w2.drew.alloc (.cells #[] 156)) w3 := below_row hE.row (Nat.le_refl _) hgrow3 HI1.out.rd.turns.size
        have HI3 : Hid (BadAt w w3 r oa len cap (p + 1) w1.heap.size (.slice o1 ss.length c1) ss hs) := Lib.hid
          ⟨HI1.out.rd.far hb3, HI1.out.t4.grown hgrow3 (own_row_ne HI1.out.t4 hE.row (by decide)), HI1.out.t5.grown hgrow3 (own_row_ne HI1.out.t5 hE.row (by decide)), HI1.out.low, HI1.out.ne, hk3⟩
        obtain ⟨v4, w4, hrun4, hg4, hgrow4⟩ := append_scopes hg3 HI3.out.gr (by simp; omega) HI3.out.rd.turns.size 31
        have hb4 : Below w.heap.size w3 w4 := below_row hg3.row (Nat.le_refl _) hgrow4 HI3.out.rd.turns.size
        have h44 := HI3.out.t4.grown hgrow4 (own_row_ne HI3.out.t4 hg3.row (by decide))
        have h54 := HI3.out.t5.grown hgrow4 (own_row_ne HI3.out.t5 hg3.row (by decide))
        simp only [List.nil_append] at hg4 hrun4
        have hLT : Lit1 210 (ss ++ ss) := (HL.out.append HL.out).mono (by omega)
        obtain ⟨tt, htt⟩ : ∃ tt, ss ++ ss = tt := ⟨_, rfl⟩
        rw [htt] at hg4 hLT
        obtain ⟨o4, c4, rfl, -⟩ := hg4.holds
        have HLT := Lib.hid hLT
        have f54 := h54.frozen 0
        have HZ9 : Hid (BadAt w (w4.setCell ⟨w1.heap.size, 0, none⟩ (.slice o4 tt.length c4)) r oa len cap (p + 1) w1.heap.size (.slice o4 tt.length c4) tt (hs ++ hs)) := Lib.hid
          ⟨(HI3.out.rd.far hb4).far ((Below.refl _ _).setCell (p := ⟨w1.heap.size, 0, none⟩) HI3.out.low _), h44.other (by have := HI3.out.ne; omega) _, h54.set 0 _, HI3.out.low, HI3.out.ne, hg4.other h54 (by decide) (by decide) 0 _⟩
        have s3 := HI3.out.t5.cell (i := 0) (v := .slice o1 ss.length c1) (by rfl)
        have s4 := h54.cell (i := 0) (v := .slice o1 ss.length c1) (by rfl)
        simp [go_sem] at hrun3 hrun4
        clear hg3 hgrow3 hne3 hk3 hb3 hg4 hgrow4 hb4 h44 h54 hE htt hLT
        refine KeptAny.one (i := 3) (by kernel_rfl) rfl (by rfl) (fun K hK => ?_)
        go_simp
        refine hK.out _ _ s3 (fun _ => ?_)
        clear hK hrun3
        refine KeptAny.one (i := 6) (by kernel_rfl) rfl (by rfl) (fun K hK => ?_)
        go_simp
        refine hK.out _ _ s4 (fun _ => ?_)
        clear hK hrun4
        refine KeptAny.take (i := 7) (v := ?_) (by kernel_rfl) rfl rfl (by kernel_rfl) (by kernel_rfl) (by kernel_rfl) (fun _ _ _ h => h) (by rfl) (fun w' hw' => ?_) (fun _ => rfl) s4 ?_
        rotate_left
        · (go_simp; try with_reducible rfl)
        refine KeptAny.last (by kernel_rfl) rfl (by rfl) (fun K hK => ?_)
        go_simp
        refine hK.out _ _ ?_
        clear hK f54 s4
        refine KeptAny.done (by kernel_rfl) ?_ _
        have t5 := HZ9.out.t5.cell (i := 0) (by rfl)
        have t4 := HZ9.out.t4.cell (i := 0) (v := .slice none 0 0) (by rfl)
        have f4 := HZ9.out.t4.frozen 0
        have d4 := (HZ9.out.t4.set 0 (.slice o4 tt.length c4)).cell (i := 0) (v := .slice o4 tt.length c4) (by rfl)
        have HG9 := Lib.hid (HZ9.out.gr.other HZ9.out.t4 (by decide) (by decide) 0 (.slice o4 tt.length c4))
        have HR9 := Lib.hid ((HZ9.out.rd.far ((Below.refl _ _).setCell (p := ⟨w.heap.size + 1, 0, none⟩) (by show w.heap.size ≤ w.heap.size + 1; omega) (.slice o4 tt.length c4))).more (P' := p + 10) (by omega) (by omega))
        go_wp2
        exact bodyPost_ret (v := .agg #[.slice o4 tt.length c4]) (by simp [results, Tryz.results86, go_sem, d4]) rfl ⟨tt, _, _, rfl, HG9.out, HLT.out, HR9.out⟩
      · have hq2 : (((z : Nat) : Int) == 2) = false := by simp; omega
        have HZ9 := HB2
        clear hz0 hz1 hz2
        have t5 := HZ9.out.t5.cell (i := 0) (by rfl)
        have t4 := HZ9.out.t4.cell (i := 0) (v := .slice none 0 0) (by rfl)
        have f4 := HZ9.out.t4.frozen 0
        have d4 := (HZ9.out.t4.set 0 (.slice o1 ss.length c1)).cell (i := 0) (v := .slice o1 ss.length c1) (by rfl)
        have HG9 := Lib.hid (HZ9.out.gr.other HZ9.out.t4 (by decide) (by decide) 0 (.slice o1 ss.length c1))
        have HR9 := Lib.hid ((HZ9.out.rd.far ((Below.refl _ _).setCell (p := ⟨w.heap.size + 1, 0, none⟩) (by show w.heap.size ≤ w.heap.size + 1; omega) (.slice o1 ss.length c1))).more (P' := p + 10) (by omega) (by omega))
        go_wp2
        exact bodyPost_ret (v := .agg #[.slice o1 ss.length c1]) (by simp [results, Tryz.results86, go_sem, d4]) rfl ⟨ss, _, _, rfl, HG9.out, (HL.out.mono (by omega)), HR9.out⟩
end Go.Proofs.YtjogfagjcpcihaaGreatDoor
