/-
  The walks of the methods of impl's writer and of an item's text without a scope. Conditions: the writer lies in memory behind the tree.
-/
import Derived.Test.YtifjljkbfabifaaDoorWWri
namespace Go.Proofs.YtifjljkbfabifaaDoor
open Go Go.RowKit Go.Maps
theorem WrIs.keep {w w' : World} {B X : Nat} {bs : List UInt8} (h : WrIs w B X bs) (hb : Below w.heap.size w w') : WrIs w' B X bs := by
  obtain ⟨p, v, h1, h2, h3, h4⟩ := h.box
  exact ⟨h.low, p, v, h1, h2.below hb h2.lt, ownsRow_below h3 hb, h4⟩
/-- The bracket of a scope, but for the outermost one. -/
def brk (par : Option Addr) (c : UInt8) : List UInt8 := if par = none then [] else [c]
set_option maxRecDepth 100000 in
set_option maxHeartbeats 4000000 in
theorem wrBegin_any {w : World} {B X b : Nat} {bs : List UInt8} {par : Option Addr} {v0 v2 : Value} (h : WrIs w B X bs) (hl : bs.length ≤ 1000) (hd : Row w b 166 [v0, .pointer par, v2]) :
    Calls Tryd.prog 200 #[.pointer (some ⟨X, 0, none⟩), .pointer (some ⟨b, 0, none⟩)] w fun e w' => e = .returned (.tuple #[]) ∧ WrIs w' B X (bs ++ brk par 123) ∧ WrLeft B X w w' := by
  have d1 := hd.cell (i := 1) (v := .pointer par) (by rfl)
  have H := Lib.hid h
  cases par with
  | none =>
    clear h hd
    go_enter Tryd.func200, Tryd.ntmps200
    go_wp2
    go_end0
    exact ⟨rfl, by unfold brk; rw [if_pos rfl, List.append_nil]; exact H.out, Below.refl _ _, Lib.OthersKept.refl _ _ _⟩
  | some pa =>
    have C := Lib.hid (writeByte_any h hl 123)
    clear h hd
    go_enter Tryd.func200, Tryd.ntmps200
    go_wp2_with fail
    refine C.out.mono ?_
    rintro e w1 ⟨rfl, h1, h2⟩
    have H1 := Lib.hid h1
    have H2 := Lib.hid h2
    clear h1 h2 C
    go_wp2
    go_end0
    exact ⟨rfl, by unfold brk; rw [if_neg (by simp)]; exact H1.out, H2.out⟩
set_option maxRecDepth 100000 in
set_option maxHeartbeats 4000000 in
theorem wrEnd_any {w : World} {B X b : Nat} {bs : List UInt8} {par : Option Addr} {v0 v2 : Value} (h : WrIs w B X bs) (hl : bs.length ≤ 1000) (hd : Row w b 166 [v0, .pointer par, v2]) :
    Calls Tryd.prog 201 #[.pointer (some ⟨X, 0, none⟩), .pointer (some ⟨b, 0, none⟩)] w fun e w' => e = .returned (.tuple #[]) ∧ WrIs w' B X (bs ++ brk par 125) ∧ WrLeft B X w w' := by
  have d1 := hd.cell (i := 1) (v := .pointer par) (by rfl)
  have H := Lib.hid h
  cases par with
  | none =>
    clear h hd
    go_enter Tryd.func201, Tryd.ntmps201
    go_wp2
    go_end0
    exact ⟨rfl, by unfold brk; rw [if_pos rfl, List.append_nil]; exact H.out, Below.refl _ _, Lib.OthersKept.refl _ _ _⟩
  | some pa =>
    have C := Lib.hid (writeByte_any h hl 125)
    clear h hd
    go_enter Tryd.func201, Tryd.ntmps201
    go_wp2_with fail
    refine C.out.mono ?_
    rintro e w1 ⟨rfl, h1, h2⟩
    have H1 := Lib.hid h1
    have H2 := Lib.hid h2
    clear h1 h2 C
    go_wp2
    go_end0
    exact ⟨rfl, by unfold brk; rw [if_neg (by simp)]; exact H1.out, H2.out⟩
set_option maxRecDepth 100000 in
set_option maxHeartbeats 4000000 in
theorem plainText_any (x : It) (hn : x.name.size = 1) (w : World) :
    Calls Tryd.prog 205 #[.agg #[.int .i64 x.kind, .string x.name, .int .i64 (-1)]] w fun e w' => (∃ T, e = .returned (.string T) ∧ T.data.toList = wtI x) ∧ Below w.heap.size w w' := by
  have HB := Lib.hid ((Below.refl w.heap.size w).alloc (Nat.le_refl _) (.cells #[.int .i64 x.kind, .string x.name, .int .i64 (-1)] 138))
  have z1 : ¬ 9223372036854775807 < 1 + x.name.size := by omega
  by_cases h2 : x.kind = 2
  · have k2 : (x.kind == 2) = true := by simp [h2]
    have HW : Hid (((⟨#[63]⟩ : ByteArray) ++ x.name).data.toList = wtI x) := Lib.hid (by unfold wtI; rw [if_pos h2]; simp [ByteArray.data_append])
    rw [h2] at HB
    go_enter Tryd.func205, Tryd.ntmps205
    go_wp2
    go_ret
    exact ⟨⟨_, rfl, HW.out⟩, HB.out⟩
  · have k2 : (x.kind == 2) = false := by simp [h2]
    by_cases h3 : x.kind = 3
    · have k3 : (x.kind == 3) = true := by simp [h3]
      have HW : Hid (((⟨#[33]⟩ : ByteArray) ++ x.name).data.toList = wtI x) := Lib.hid (by unfold wtI; rw [if_neg h2, if_pos h3]; simp [ByteArray.data_append])
      rw [h3] at HB
      go_enter Tryd.func205, Tryd.ntmps205
      go_wp2
      go_ret
      exact ⟨⟨_, rfl, HW.out⟩, HB.out⟩
    · have k3 : (x.kind == 3) = false := by simp [h3]
      have HW : Hid (x.name.data.toList = wtI x) := Lib.hid (by unfold wtI; rw [if_neg h2, if_neg h3])
      go_enter Tryd.func205, Tryd.ntmps205
      go_wp2
      go_ret
      exact ⟨⟨_, rfl, HW.out⟩, HB.out⟩
set_option maxRecDepth 100000 in
set_option maxHeartbeats 4000000 in
theorem wrShow_any {w : World} {B X : Nat} {bs : List UInt8} (h : WrIs w B X bs) (hl : bs.length ≤ 1000) (x : It) (hn : x.name.size = 1) :
    Calls Tryd.prog 202 #[.pointer (some ⟨X, 0, none⟩), .agg #[.int .i64 x.kind, .string x.name, .int .i64 x.scope]] w fun e w' => e = .returned (.tuple #[]) ∧ WrIs w' B X (bs ++ wtI x) ∧ WrLeft B X w w' := by
  have hXl : X < w.heap.size := by obtain ⟨_, _, _, hr, _⟩ := h.box; exact hr.lt
  have hBX := h.low
  have r2 := Row.new w [.int .i64 x.kind, .string x.name, .int .i64 (-1)] 138
  have hbS := (Below.refl w.heap.size w).alloc (Nat.le_refl _) (.cells #[.int .i64 x.kind, .string x.name, .int .i64 (-1)] 138)
  have HWS : Hid (WrIs (w.alloc (.cells #[.int .i64 x.kind, .string x.name, .int .i64 (-1)] 138)) B X bs ∧ WrLeft B X w (w.alloc (.cells #[.int .i64 x.kind, .string x.name, .int .i64 (-1)] 138))) := Lib.hid ⟨h.keep hbS, hbS.mono (by omega), fun k o hk _ _ => (hbS.block k (Array.getElem?_eq_some_iff.1 hk).1).trans hk⟩
  have HR2 := Lib.hid r2
  have HBS := Lib.hid hbS
  clear h r2 hbS
  go_enter Tryd.func202, Tryd.ntmps202
  go_wp2
  generalize (w.alloc (.cells #[.int .i64 x.kind, .string x.name, .int .i64 (-1)] 138)) = w2 at *
  have hS0 : w2.drew.cell? ⟨w.heap.size, 0, none⟩ = some (.int .i64 x.kind) ∧ w2.drew.cell? ⟨w.heap.size, 1, none⟩ = some (.string x.name) ∧ w2.drew.cell? ⟨w.heap.size, 2, none⟩ = some (.int .i64 (-1)) := ⟨cell_drew (HR2.out.cell (i := 0) (by rfl)), cell_drew (HR2.out.cell (i := 1) (by rfl)), cell_drew (HR2.out.cell (i := 2) (by rfl))⟩
  have HS0 := Lib.hid hS0
  have HRD : Hid (Row w2.drew w.heap.size 138 [.int .i64 x.kind, .string x.name, .int .i64 (-1)]) := Lib.hid HR2.out
  have HD := Lib.hid ((Below.refl w2.heap.size w2).drew)
  refine wp_region_kept (S := fun w' => w'.cell? ⟨w.heap.size, 0, none⟩ = some (.int .i64 x.kind) ∧ w'.cell? ⟨w.heap.size, 1, none⟩ = some (.string x.name) ∧ w'.cell? ⟨w.heap.size, 2, none⟩ = some (.int .i64 (-1))) 99 (by kernel_rfl) ?_
  generalize w2.drew = v0 at *
  refine KeptAny.tv (v := ?_) 0 hS0 (fun w' hw' => ?_) ?_
  rotate_left
  · (obtain ⟨g0, g1, g2⟩ := hw'; go_simp; try with_reducible rfl)
  refine KeptAny.tv (v := ?_) 1 hS0 (fun w' hw' => ?_) ?_
  rotate_left
  · (obtain ⟨g0, g1, g2⟩ := hw'; go_simp; try with_reducible rfl)
  refine KeptAny.tv (v := ?_) 2 hS0 (fun w' hw' => ?_) ?_
  rotate_left
  · (obtain ⟨g0, g1, g2⟩ := hw'; go_simp; try with_reducible rfl)
  refine KeptAny.tv (v := ?_) 3 hS0 (fun w' hw' => ?_) ?_
  rotate_left
  · (obtain ⟨g0, g1, g2⟩ := hw'; go_simp; try with_reducible rfl)
  clear hS0
  refine KeptAny.one (i := 4) (by kernel_rfl) rfl (by kernel_rfl) (fun KF hKF => ?_)
  go_simp
  refine ⟨trivial, ?_⟩
  refine ((callsIn_wide (n := 5)).2 (plainText_any x hn v0)).mono ?_
  rintro e v1 ⟨⟨T, rfl, hT⟩, hb1⟩
  have HT := Lib.hid hT
  have HRV := Lib.hid (HRD.out.below hb1 HRD.out.lt)
  have hX1 := HD.out.trans (hb1.mono HD.out.size)
  have HW1 := Lib.hid (HWS.out.1.keep hX1)
  have HL1 : Hid (WrLeft B X w v1) := Lib.hid (HWS.out.2.trans ⟨hX1.mono (by have := HBS.out.size; omega), fun k o hk _ _ => (hX1.block k (Array.getElem?_eq_some_iff.1 hk).1).trans hk⟩)
  refine hKF.out _ _ ⟨cell_grow hb1 HS0.out.1, cell_grow hb1 HS0.out.2.1, cell_grow hb1 HS0.out.2.2⟩ (fun _ => ?_)
  have HS1 : Hid (v1.cell? ⟨w.heap.size, 0, none⟩ = some (.int .i64 x.kind) ∧ v1.cell? ⟨w.heap.size, 1, none⟩ = some (.string x.name) ∧ v1.cell? ⟨w.heap.size, 2, none⟩ = some (.int .i64 (-1))) := Lib.hid ⟨cell_grow hb1 HS0.out.1, cell_grow hb1 HS0.out.2.1, cell_grow hb1 HS0.out.2.2⟩
  clear hKF hT hb1 hX1
  have hTs : T.size ≤ 1000 := by
    have h1 := wtI_le (x := x) (by rw [← size_list]; exact hn)
    rw [size_list, HT.out]
    omega
  refine KeptAny.one (i := 5) (by kernel_rfl) rfl (by kernel_rfl) (fun KF hKF => ?_)
  go_simp
  refine ⟨trivial, ?_⟩
  refine ((callsIn_wide (n := 5)).2 (writeString_any HW1.out hl T hTs)).mono ?_
  rintro e v2 ⟨⟨vv, rfl⟩, hw2, hl2⟩
  have HW2 : Hid (WrIs v2 B X (bs ++ wtI x) ∧ WrLeft B X w v2) := Lib.hid ⟨by rw [← HT.out]; exact hw2, HL1.out.trans hl2⟩
  have hbk : v2.heap[w.heap.size]? = v1.heap[w.heap.size]? := (hl2.others w.heap.size _ HRV.out (by simp; omega) (fun c fz e => by injection e with _ e2 _; exact absurd e2 (by decide))).trans HRV.out.symm
  refine hKF.out _ _ ⟨(World.cell?_of_block (a := ⟨w.heap.size, 0, none⟩) hbk).trans HS1.out.1, (World.cell?_of_block (a := ⟨w.heap.size, 1, none⟩) hbk).trans HS1.out.2.1, (World.cell?_of_block (a := ⟨w.heap.size, 2, none⟩) hbk).trans HS1.out.2.2⟩ (fun _ => ?_)
  clear hKF hbk hw2 hl2
  refine KeptAny.done (by kernel_rfl) ?_ _
  go_wp2
  go_end0
  exact ⟨rfl, HW2.out.1, HW2.out.2⟩
end Go.Proofs.YtifjljkbfabifaaDoor
