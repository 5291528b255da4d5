/-
  The walks of the methods of impl's writer, a struct that holds a strings.Builder. Conditions: the writer lies in memory.
-/
import Derived.Test.YtifjljkbfabifaaDoorWScaS
import Derived.Lib.OthersKept
import Derived.Lib.Builder
import Derived.Lib.UnsafeStr
import Derived.Shelf.RegionOpenPlain
namespace Go.Proofs.YtifjljkbfabifaaDoor
open Go Go.RowKit Go.Maps
/-- The bytes of a text in memory. -/
def byteVs (bs : List UInt8) : List Value := bs.map fun b => Value.int .u8 (b.toNat : Int)
/-- A writer in memory: the address of its builder, once it has been used, and its bytes. -/
structure WrIs (w : World) (B X : Nat) (bs : List UInt8) : Prop where
  low : B ≤ X
  box : ∃ p v, (p = .pointer none ∨ p = .pointer (some ⟨X, 0, none⟩)) ∧ Row w X 102 [p, v] ∧ w.ownsRow B 5 1 v bs.length (byteVs bs) ∧ (bs = [] → v = .slice none 0 0)
theorem Row.shape {w : World} {g : Nat} {t : TypeId} {vs : List Value} (h : Row w g t vs) : w.shape? g = some (t, vs.length) := by
  unfold Row at h
  simp [World.shape?, h]
set_option maxRecDepth 100000 in
set_option maxHeartbeats 4000000 in
theorem copyCheck_any {w : World} {X : Nat} {p v : Value} (hp : p = .pointer none ∨ p = .pointer (some ⟨X, 0, none⟩)) (h : Row w X 102 [p, v]) :
    Calls Tryd.prog 206 #[.pointer (some ⟨X, 0, none⟩)] w fun e w' => e = .returned (.tuple #[]) ∧ Row w' X 102 [.pointer (some ⟨X, 0, none⟩), v] ∧ (w' = w ∨ w' = w.setCell ⟨X, 0, none⟩ (.pointer (some ⟨X, 0, none⟩))) := by
  have c0 := h.cell (i := 0) (v := p) (by rfl)
  have f0 := h.frozen 0
  have hsh := h.shape
  rcases hp with rfl | rfl
  · have HR := Lib.hid (h.set 0 (.pointer (some ⟨X, 0, none⟩)))
    clear h
    go_enter Tryd.func206, Tryd.ntmps206
    have hjs : (Tryd.prog.info? 100).map (·.size) = some 2 := by kernel_rfl
    obtain ⟨j, hj, hjs⟩ := Option.map_eq_some_iff.1 hjs
    go_wp2
    rw [Lib.run_to_unsafe w ⟨X, 0, none⟩ Tryd.underlying98 Tryd.underlying272 hj (by rw [hjs]; decide) hsh (Nat.zero_lt_succ 1)]
    simp only [Result.andThen]
    rw [Oper.upon_value]
    go_wp2
    rw [run_callFunc_extern Tryd.func208 (by kernel_rfl) (by kernel_rfl) (by kernel_rfl) (e := Extern.AbiNoEscape.same) (by kernel_rfl)]
    rw [Lib.run_noEscape]
    simp only [Result.andThen]
    rw [Oper.upon_value]
    go_wp2
    rw [Lib.run_from_unsafe w ⟨X, 0, none⟩ Tryd.underlying272 Tryd.underlying98 hj hsh (by kernel_rfl)]
    simp only [Result.andThen]
    rw [Oper.upon_value]
    go_wp2
    go_end0
    exact ⟨rfl, HR.out, .inr rfl⟩
  · have HR := Lib.hid h
    have hjs : (Tryd.prog.info? 100).map (·.size) = some 2 := by kernel_rfl
    obtain ⟨j, hj, hjs⟩ := Option.map_eq_some_iff.1 hjs
    clear h
    go_enter Tryd.func206, Tryd.ntmps206
    go_wp2
    rw [Lib.run_neq_ptr_same w _ Tryd.underlying98 hj]
    go_wp2
    go_end0
    exact ⟨rfl, HR.out, .inl rfl⟩
/-- What a writing method leaves as it was. -/
structure WrLeft (B X : Nat) (w w' : World) : Prop where
  below : Below B w w'
  others : Lib.OthersKept 5 (some X) w w'
theorem WrLeft.trans {B X : Nat} {a b c : World} (h : WrLeft B X a b) (k : WrLeft B X b c) : WrLeft B X a c := ⟨h.below.trans k.below, h.others.trans k.others⟩
theorem info8 : (Tryd.prog.info? 5).map (fun i => (i.zero, i.size, i.bytes)) = some (some (.int .u8 0), 1, 1) := by kernel_rfl
theorem byteVs_snoc (bs : List UInt8) (c : UInt8) : byteVs (bs ++ [c]) = byteVs bs ++ [.int .u8 (c.toNat : Int)] := by simp [byteVs]
theorem owns_lt8 {w : World} {B : Nat} {v : Value} {n : Nat} {xs : List Value} (h : w.ownsRow B 5 1 v n xs) : ∀ g, v.ownBlock = some g → ∃ c fz, w.heap[g]? = some (.cells c 5 fz) := fun g e => by
  obtain ⟨_, h2 | ⟨g', cap, cur, hv, hB, hh, _⟩⟩ := h
  · rw [h2.1] at e; simp [Value.ownBlock] at e
  · rw [hv] at e
    simp only [Value.ownBlock, Option.some.injEq] at e
    subst e
    exact ⟨_, _, hh⟩
/-- What an append and the store of what it gives leave. -/
theorem left_store {w w1 w2 W : World} {B X n : Nat} {v u : Value} {xs : List Value} (hw : WrLeft B X w w1) (hB : B ≤ X) (h : W.ownsRow B 5 1 v n xs) (hW : WrLeft B X w1 W) (hg : W.grownBy w2 v.ownBlock) (hs : B ≤ W.heap.size) : WrLeft B X w (w2.setCell ⟨X, 1, none⟩ u) :=
  ⟨((hw.below.trans hW.below).grown hg hs (fun k hk => (h.lt k hk).1)).setCell (p := ⟨X, 1, none⟩) hB _, ((hw.others.trans hW.others).grown hg (owns_lt8 h)).setCell ⟨X, 1, none⟩ rfl _⟩
set_option maxRecDepth 100000 in
set_option maxHeartbeats 4000000 in
theorem writeByte_any {w : World} {B X : Nat} {bs : List UInt8} (h : WrIs w B X bs) (hl : bs.length ≤ 1000) (c : UInt8) :
    Calls Tryd.prog 203 #[.pointer (some ⟨X, 0, none⟩), .int .u8 (c.toNat : Int)] w fun e w' => e = .returned .nilIface ∧ WrIs w' B X (bs ++ [c]) ∧ WrLeft B X w w' := by
  obtain ⟨p, v, hp, hrow, hown, hnil⟩ := h.box
  have C := Lib.hid (copyCheck_any hp hrow)
  obtain ⟨i0, hi, hz⟩ := Option.map_eq_some_iff.1 info8
  simp only [Prod.mk.injEq] at hz
  obtain ⟨hz0, hz1, hz2⟩ := hz
  have HL := Lib.hid h.low
  have HOW := Lib.hid hown
  have HRW := Lib.hid hrow
  have HNIL := Lib.hid hnil
  clear h hrow hown hp hnil
  go_enter Tryd.func203, Tryd.ntmps203
  go_wp2_with fail
  refine C.out.mono ?_
  rintro e w1 ⟨rfl, hr1, hw1⟩
  have hown1 : w1.ownsRow B 5 1 v bs.length (byteVs bs) := by
    rcases hw1 with rfl | rfl
    · exact HOW.out
    · exact ownsRow_other HOW.out HRW.out (by decide) 0 _
  have HLF : Hid (WrLeft B X w w1) := Lib.hid (by
    rcases hw1 with rfl | rfl
    · exact ⟨Below.refl _ _, Lib.OthersKept.refl _ _ _⟩
    · exact ⟨(Below.refl _ _).setCell (p := ⟨X, 0, none⟩) HL.out _, (Lib.OthersKept.refl _ _ _).setCell ⟨X, 0, none⟩ rfl _⟩)
  have hBw : B ≤ w1.heap.size := Nat.le_trans HL.out (Nat.le_of_lt hr1.lt)
  have d1 := hr1.cell (i := 1) (v := v) (by rfl)
  have d1' : (w1.alloc (.cells #[.int .u8 (c.toNat : Int)] 5)).cell? ⟨X, 1, none⟩ = some v := (hr1.alloc _).cell (i := 1) (v := v) (by rfl)
  have HR1 := Lib.hid hr1
  have HO1 := Lib.hid hown1
  clear hr1 hw1
  go_wp2_with (at_builtin; refine wpList_append_own _ rfl _ _ 78 rfl B 5 i0 (.int .u8 0) 1 1 Tryd.underlying78 hi hz0 hz1 hz2 rfl (by decide) _ _ _ rfl (hown1.alloc _) ⟨w1.heap.size, 0, none⟩ 1 1 [.int .u8 (c.toNat : Int)] rfl rfl ?c1 ?c2 ?c3 ?c4 ?c5 ?_)
  all_goals try (case c1 => exact cells_new _ _ _)
  all_goals try (case c2 => first | rfl | (intro u hu; simp only [List.mem_singleton] at hu; subst hu; rfl))
  all_goals try (case c3 => unfold maxLen; omega)
  all_goals try (case c4 => omega)
  all_goals try (case c5 => first | omega | (simp only [World.size_alloc]; omega) | (simp; omega))
  intro v' w2 hown' hgrow _
  obtain ⟨ov, nv, cv, rfl⟩ : ∃ ov nv cv, v' = .slice ov nv cv := by
    rcases hown'.2 with h0 | ⟨g, cap, cur, hv, _⟩
    · exact ⟨_, _, _, h0.1⟩
    · exact ⟨_, _, _, hv⟩
  have hr2 := (HR1.out.alloc (.cells #[.int .u8 (c.toNat : Int)] 5)).grown hgrow (ownsRow_ne HR1.out (by decide) HO1.out)
  have e1 := hr2.cell (i := 1) (v := v) (by rfl)
  have ef := hr2.frozen 1
  have HFIN : Hid (WrIs (w2.setCell ⟨X, 1, none⟩ (.slice ov nv cv)) B X (bs ++ [c]) ∧ WrLeft B X w (w2.setCell ⟨X, 1, none⟩ (.slice ov nv cv))) := Lib.hid ⟨⟨HL.out, _, _, .inr rfl, hr2.set 1 (.slice ov nv cv), by
    rw [List.length_append, List.length_singleton, byteVs_snoc]
    exact ownsRow_other hown' hr2 (by decide) 1 _, fun h => by simp at h⟩, left_store HLF.out HL.out (HO1.out.alloc _) ⟨(Below.refl _ _).alloc hBw _, (Lib.OthersKept.refl _ _ _).alloc _⟩ hgrow (by simp; omega)⟩
  clear hown' hgrow hr2 d1 d1' hown1
  go_wp2
  go_ret
  exact ⟨rfl, HFIN.out.1, HFIN.out.2⟩
set_option maxRecDepth 100000 in
set_option maxHeartbeats 4000000 in
theorem writeString_any {w : World} {B X : Nat} {bs : List UInt8} (h : WrIs w B X bs) (hl : bs.length ≤ 1000) (s : ByteArray) (hs : s.size ≤ 1000) :
    Calls Tryd.prog 204 #[.pointer (some ⟨X, 0, none⟩), .string s] w fun e w' => (∃ v, e = .returned v) ∧ WrIs w' B X (bs ++ s.data.toList) ∧ WrLeft B X w w' := by
  obtain ⟨p, v, hp, hrow, hown, hnil⟩ := h.box
  have C := Lib.hid (copyCheck_any hp hrow)
  obtain ⟨i0, hi, hz⟩ := Option.map_eq_some_iff.1 info8
  simp only [Prod.mk.injEq] at hz
  obtain ⟨hz0, hz1, hz2⟩ := hz
  have HL := Lib.hid h.low
  have HOW := Lib.hid hown
  have HRW := Lib.hid hrow
  have HNIL := Lib.hid hnil
  clear h hrow hown hp hnil
  go_enter Tryd.func204, Tryd.ntmps204
  go_wp2_with fail
  refine C.out.mono ?_
  rintro e w1 ⟨rfl, hr1, hw1⟩
  have hown1 : w1.ownsRow B 5 1 v bs.length (byteVs bs) := by
    rcases hw1 with rfl | rfl
    · exact HOW.out
    · exact ownsRow_other HOW.out HRW.out (by decide) 0 _
  have HLF : Hid (WrLeft B X w w1) := Lib.hid (by
    rcases hw1 with rfl | rfl
    · exact ⟨Below.refl _ _, Lib.OthersKept.refl _ _ _⟩
    · exact ⟨(Below.refl _ _).setCell (p := ⟨X, 0, none⟩) HL.out _, (Lib.OthersKept.refl _ _ _).setCell ⟨X, 0, none⟩ rfl _⟩)
  have hBw : B ≤ w1.heap.size := Nat.le_trans HL.out (Nat.le_of_lt hr1.lt)
  have d1 := hr1.cell (i := 1) (v := v) (by rfl)
  have HR1 := Lib.hid hr1
  have HO1 := Lib.hid hown1
  clear hr1 hw1
  go_wp2_with (at_builtin; refine Lib.wpList_append_own_string _ rfl _ _ 78 9 rfl B 5 i0 Tryd.underlying78 Tryd.underlying9 hi hz0 hz1 hz2 _ _ _ rfl hown1 s rfl (by unfold maxLen; omega) (by omega) hBw ?_)
  intro v' w2 hown' hgrow hz3
  obtain ⟨ov, nv, cv, rfl⟩ : ∃ ov nv cv, v' = .slice ov nv cv := by
    rcases hown'.2 with h0 | ⟨g, cap, cur, hv, _⟩
    · exact ⟨_, _, _, h0.1⟩
    · exact ⟨_, _, _, hv⟩
  have hr2 := HR1.out.grown hgrow (ownsRow_ne HR1.out (by decide) HO1.out)
  have e1 := hr2.cell (i := 1) (v := v) (by rfl)
  have ef := hr2.frozen 1
  have HFIN : Hid (WrIs (w2.setCell ⟨X, 1, none⟩ (.slice ov nv cv)) B X (bs ++ s.data.toList) ∧ WrLeft B X w (w2.setCell ⟨X, 1, none⟩ (.slice ov nv cv))) := Lib.hid ⟨⟨HL.out, _, _, .inr rfl, hr2.set 1 (.slice ov nv cv), by
    have e : byteVs (bs ++ s.data.toList) = byteVs bs ++ Lib.strCells s := by simp [byteVs, Lib.strCells]
    rw [List.length_append, e, ← size_list]
    exact ownsRow_other hown' hr2 (by decide) 1 _, fun h => by
      obtain ⟨h1, h2⟩ := List.append_eq_nil_iff.1 h
      exact hz3.2 ⟨HNIL.out h1, by first | (rw [size_list, h2]; rfl) | exact ByteArray.ext (Array.ext' h2)⟩⟩, left_store HLF.out HL.out HO1.out ⟨Below.refl _ _, Lib.OthersKept.refl _ _ _⟩ hgrow hBw⟩
  clear hown' hgrow hr2 d1 hown1 hz3
  go_wp2
  go_ret2
  exact ⟨⟨_, rfl⟩, HFIN.out.1, HFIN.out.2⟩
set_option maxRecDepth 100000 in
set_option maxHeartbeats 4000000 in
theorem builtText_any {w : World} {B X : Nat} {bs : List UInt8} (h : WrIs w B X bs) (hl : bs.length ≤ 1000) :
    Calls Tryd.prog 73 #[.pointer (some ⟨X, 0, none⟩)] w fun e w' => e = .returned (.string ⟨bs.toArray⟩) ∧ Below B w w' := by
  obtain ⟨p, v, -, hrow, hown, hnil⟩ := h.box
  by_cases h0 : bs = []
  · have hv := hnil h0
    subst h0
    subst hv
    have hS0 : w.drew.cell? ⟨X, 1, none⟩ = some (.slice none 0 0) := (Row.drew hrow).cell (i := 1) (by rfl)
    have hSD : ∀ ts ty W, (Builtin.unsafeSliceData_ ts ty #[.slice none 0 0]).run Tryd.prog W = .ok (.pointer none) W := fun _ _ _ => rfl
    have hUS : ∀ W, (Builtin.unsafeString_ #[168, 3] 9 #[.pointer none, .int .i64 0]).run Tryd.prog W = .ok (.string .empty) W := fun W => Lib.run_unsafeString_none W _ _ _ _
    have HB0 := Lib.hid (Below.drew (Below.refl B w))
    clear h hrow hown hnil
    go_enter Tryd.func73, Tryd.ntmps73
    go_wp2
    refine wp_region_kept (S := fun w' => w'.cell? ⟨X, 1, none⟩ = some (.slice none 0 0)) 11 (by kernel_rfl) ?_
    generalize w.drew = v0 at *
    refine KeptAny.tv (v := ?_) 0 hS0 (fun w' hw' => ?_) ?_
    rotate_left
    · (go_simp; try with_reducible rfl)
    refine KeptAny.tv (v := ?_) 1 hS0 (fun w' hw' => ?_) ?_
    rotate_left
    · (go_simp; try with_reducible rfl)
    refine KeptAny.tv (v := ?_) 2 hS0 (fun w' hw' => ?_) ?_
    rotate_left
    · (go_simp; try with_reducible rfl)
    refine KeptAny.tv (v := ?_) 3 hS0 (fun w' hw' => ?_) ?_
    rotate_left
    · (go_simp; try with_reducible rfl)
    refine KeptAny.tv (v := ?_) 4 hS0 (fun w' hw' => ?_) ?_
    rotate_left
    · (go_simp; try with_reducible rfl)
    refine KeptAny.tv (v := ?_) 5 hS0 (fun w' hw' => ?_) ?_
    rotate_left
    · (go_simp; try with_reducible rfl)
    refine KeptAny.tv (v := ?_) 6 hS0 (fun w' hw' => ?_) ?_
    rotate_left
    · (go_simp; try with_reducible rfl)
    refine KeptAny.tv (v := ?_) 7 hS0 (fun w' hw' => ?_) ?_
    rotate_left
    · (go_simp; try with_reducible rfl)
    refine KeptAny.tv (v := ?_) 8 hS0 (fun w' hw' => ?_) ?_
    rotate_left
    · (go_simp; try with_reducible rfl)
    refine KeptAny.tv (v := ?_) 9 hS0 (fun w' hw' => ?_) ?_
    rotate_left
    · (go_simp; try with_reducible rfl)
    refine KeptAny.one (i := 10) (by kernel_rfl) rfl (by kernel_rfl) (fun KF hKF => ?_)
    go_simp
    refine hKF.out _ _ hS0 (fun _ => ?_)
    clear hKF
    refine KeptAny.last (by kernel_rfl) rfl (by kernel_rfl) (fun KF hKF => ?_)
    go_simp
    refine hKF.out _ _ ?_
    clear hKF hS0
    refine KeptAny.done (by kernel_rfl) ?_ _
    go_wp2
    go_ret
    exact ⟨rfl, HB0.out⟩
  · have hl0 : bs.length ≠ 0 := by simpa using h0
    obtain ⟨g, cap, cur, rfl, hbg, hg, hnc, hcm, hcs, htake⟩ : ∃ g cap cur, v = .slice (some ⟨g, 0, none⟩) bs.length cap ∧ B ≤ g ∧ w.heap[g]? = some (.cells cur 5 (0, 0)) ∧ bs.length ≤ cap ∧ cap ≤ maxLen ∧ cur.size = cap * 1 ∧ cur.toList.take (bs.length * 1) = byteVs bs := by
      rcases hown.2 with ⟨_, hz⟩ | ⟨g, cap, cur, hv, r⟩
      · exact absurd hz hl0
      · exact ⟨g, cap, cur, hv, r⟩
    have hS0 : w.drew.cell? ⟨X, 1, none⟩ = some (.slice (some ⟨g, 0, none⟩) bs.length cap) := (Row.drew hrow).cell (i := 1) (by rfl)
    have hSD : ∀ ts ty W, (Builtin.unsafeSliceData_ ts ty #[.slice (some ⟨g, 0, none⟩) bs.length cap]).run Tryd.prog W = .ok (.pointer (some ⟨g, 0, none⟩)) W :=
      fun _ _ _ => Lib.run_unsafeSliceData_row _ _ _ _ _ _ (by omega)
    have hUS : (Builtin.unsafeString_ #[168, 3] 9 #[.pointer (some ⟨g, 0, none⟩), .int .i64 bs.length]).run Tryd.prog w.drew = .ok (.string ⟨bs.toArray⟩) (w.drew.freeze ⟨g, 0, none⟩ bs.length) := by
      refine Lib.run_unsafeString_row w.drew 168 3 9 5 Tryd.underlying168 (by kernel_rfl) g cur.size (by have hg' : w.drew.heap[g]? = some (.cells cur 5 (0, 0)) := hg; simp [World.shape?, hg']) bs h0 (by omega) (by unfold maxLen at hcm; omega) ?_
      intro j x hx
      have := hown.cells (g := g) rfl j (.int .u8 x.toNat) (by simp [byteVs, hx])
      exact this
    have HFZ : Hid ((w.drew.freeze ⟨g, 0, none⟩ bs.length).cell? ⟨X, 1, none⟩ = some (.slice (some ⟨g, 0, none⟩) bs.length cap) ∧ Below B w (w.drew.freeze ⟨g, 0, none⟩ bs.length)) := Lib.hid ⟨by
      have hk := Lib.OthersKept.freeze (Lib.OthersKept.refl 5 none w.drew) ⟨g, 0, none⟩ bs.length ⟨cur, (0, 0), hg⟩
      have h1 : (w.drew.freeze ⟨g, 0, none⟩ bs.length).heap[X]? = some (.cells [p, .slice (some ⟨g, 0, none⟩) bs.length cap].toArray 102 (0, 0)) := hk X _ hrow (by simp) (fun c fz e => by
        injection e with _ e2 _
        exact absurd e2 (by decide))
      exact (World.cell?_of_block (a := ⟨X, 1, none⟩) (h1.trans (show w.drew.heap[X]? = _ from hrow).symm)).trans hS0, Lib.below_freeze (Below.drew (Below.refl B w)) (p := ⟨g, 0, none⟩) hbg _⟩
    clear h hrow hown hnil hg hnc hcm hcs htake hbg
    go_enter Tryd.func73, Tryd.ntmps73
    go_wp2
    refine wp_region_kept (S := fun w' => w'.cell? ⟨X, 1, none⟩ = some (.slice (some ⟨g, 0, none⟩) bs.length cap)) 11 (by kernel_rfl) ?_
    generalize w.drew = v0 at *
    refine KeptAny.tv (v := ?_) 0 hS0 (fun w' hw' => ?_) ?_
    rotate_left
    · (go_simp; try with_reducible rfl)
    refine KeptAny.tv (v := ?_) 1 hS0 (fun w' hw' => ?_) ?_
    rotate_left
    · (go_simp; try with_reducible rfl)
    refine KeptAny.tv (v := ?_) 2 hS0 (fun w' hw' => ?_) ?_
    rotate_left
    · (go_simp; try with_reducible rfl)
    refine KeptAny.tv (v := ?_) 3 hS0 (fun w' hw' => ?_) ?_
    rotate_left
    · (go_simp; try with_reducible rfl)
    refine KeptAny.tv (v := ?_) 4 hS0 (fun w' hw' => ?_) ?_
    rotate_left
    · (go_simp; try with_reducible rfl)
    refine KeptAny.tv (v := ?_) 5 hS0 (fun w' hw' => ?_) ?_
    rotate_left
    · (go_simp; try with_reducible rfl)
    refine KeptAny.tv (v := ?_) 6 hS0 (fun w' hw' => ?_) ?_
    rotate_left
    · (go_simp; try with_reducible rfl)
    refine KeptAny.tv (v := ?_) 7 hS0 (fun w' hw' => ?_) ?_
    rotate_left
    · (go_simp; try with_reducible rfl)
    refine KeptAny.tv (v := ?_) 8 hS0 (fun w' hw' => ?_) ?_
    rotate_left
    · (go_simp; try with_reducible rfl)
    refine KeptAny.tv (v := ?_) 9 hS0 (fun w' hw' => ?_) ?_
    rotate_left
    · (go_simp; try with_reducible rfl)
    refine KeptAny.one (i := 10) (by kernel_rfl) rfl (by kernel_rfl) (fun KF hKF => ?_)
    go_simp
    refine hKF.out _ _ HFZ.out.1 (fun _ => ?_)
    clear hKF hS0
    refine KeptAny.last (by kernel_rfl) rfl (by kernel_rfl) (fun KF hKF => ?_)
    go_simp
    refine hKF.out _ _ ?_
    clear hKF
    refine KeptAny.done (by kernel_rfl) ?_ _
    go_wp2
    go_ret
    exact ⟨rfl, HFZ.out.2⟩
end Go.Proofs.YtifjljkbfabifaaDoor
