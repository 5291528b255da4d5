/-
  The walks of the given l9Some and DrawNamedGraph: a graph and a naming. Condition: the code's memory holds bytes. (gendnm.py writes this text.)
-/
import Derived.Test.YtjogfagjcpcihaaGreatDoorWDraws2Z
import Derived.Test.YtjogfagjcpcihaaGreatDoorWOwnSZ
import Derived.Test.YtjogfagjcpcihaaGreatDoorJGZ
import Derived.Test.YtjogfagjcpcihaaGreatDoorJCZ
namespace Go.Proofs.YtjogfagjcpcihaaGreatDoor
open Go Go.RowKit Sg
/-- What the end of a round leaves of the given l9Graph. -/
structure Gr9 (w W : World) (r : Nat) (oa : Option Addr) (len cap P : Nat) : Prop where
  rd : RdAt w W r oa len cap P
  t2 : Row W w.heap.size 33 [.slice none 0 0]
theorem Lit1.fairD {ss : List Sc} (h : Lit1 210 ss) : Fair ss := h.fair (by omega)
def Got9 (w : World) (r : Nat) (oa : Option Addr) (len cap p : Nat) (e : Ending) (w' : World) : Prop := ∃ ss ov cv hs, e = .returned (.agg #[.slice ov (List.length ss) cv]) ∧ HeldGr w' w.heap.size (.slice ov (List.length ss) cv) ss hs ∧ Lit1 210 ss ∧ RdAt w w' r oa len cap (p + 1000)
set_option maxRecDepth 100000 in
set_option maxHeartbeats 8000000 in
theorem l9Graph_any {w : World} {r : Nat} {oa : Option Addr} {len cap p : Nat} (h : Rd w r oa len cap p) (hp : p ≤ 600000) : Calls Tryz.prog 107 #[.pointer (some ⟨r, 0, none⟩)] w (Got9 w r oa len cap p) := by
  have hbA := (Below.refl w.heap.size w).alloc (Nat.le_refl _) (.cells #[.slice none 0 0] 33)
  have RA := Row.new w [.slice none 0 0] 33
  have HA : Hid (Gr9 w (w.alloc (.cells #[.slice none 0 0] 33)) r oa len cap p) := Lib.hid ⟨(RdAt.start h (Nat.le_refl p) (by omega)).step hbA, RA⟩
  have HRL := Lib.hid h.box.lt
  clear h hbA RA
  go_enter Tryz.func107, Tryz.ntmps107
  go_wp2
  go_loopw [4] (fun i wr => ∃ k : Nat, i = .int .i64 k ∧ k ≤ 3 ∧ Hid (Gr9 w wr r oa len cap (p + 300 * k))) (fun i _ => 3 - (intOf i).toNat)
  case atStart => exact ⟨0, rfl, Nat.zero_le _, HA⟩
  case round =>
    obtain ⟨k, rfl, hk, HW⟩ := hrel
    by_cases hlt : k < 3
    · obtain ⟨q, hq, hrd⟩ := HW.out.rd.rd
      have C1 := Lib.hid (some_any hrd (by omega))
      have HQ := Lib.hid hq
      have e3 : decide ((k : Int) < 3) = true := by simp; omega
      clear hq hrd
      go_wp2_with fail
      refine C1.out.mono ?_
      rintro e w2 ⟨ss, v, hs, rfl, hg, hl, hr2⟩
      obtain ⟨ov, cv, rfl, hh⟩ := hg.holds
      have hbB := (Below.refl w2.heap.size w2).alloc (Nat.le_refl _) (.cells #[.slice ov ss.length cv] 33)
      have hsz := HW.out.rd.turns.size
      have H2 : Hid (Gr9 w (w2.alloc (.cells #[.slice ov ss.length cv] 33)) r oa len cap (p + 300 * k + 210)) := Lib.hid
        ⟨((HW.out.rd.trans hr2).more (by have := HQ.out; omega) (by omega)).step hbB, (HW.out.t2.asked hr2.turns (by have := HRL.out; omega)).alloc _⟩
      have HG2 := Lib.hid ((hg.lower hsz).below hbB)
      have R4 := Lib.hid (Row.new w2 [.slice ov ss.length cv] 33)
      have HN4 : Hid (w.heap.size < w2.heap.size) := Lib.hid (by have h1 := HW.out.t2.lt; have h2 := hr2.turns.size; omega)
      have HLL := Lib.hid hl
      have g0 := R4.out.cell (i := 0) (v := .slice ov ss.length cv) (by rfl)
      have C2 := Lib.hid (l9Clear_any ss hl.fairD ov cv _ (hh.below hbB (Nat.le_refl _)))
      clear hg hh hl hr2 hbB hsz
      go_wp2_with fail
      refine C2.out.mono ?_
      rintro e w3 ⟨b, rfl, -, hb3⟩
      have H3 := Lib.hid (show Gr9 w w3 r oa len cap (p + 300 * k + 210) from ⟨H2.out.rd.step hb3, H2.out.t2.below hb3 H2.out.t2.lt⟩)
      have HG3 := Lib.hid (HG2.out.below hb3)
      have R4b := Lib.hid (R4.out.below hb3 R4.out.lt)
      clear hb3 g0
      cases b
      · obtain ⟨q, hq, hrd⟩ := H3.out.rd.rd
        have C3 := Lib.hid (pick_any hrd (by omega) 8 (by decide))
        have HQ3 := Lib.hid hq
        clear hq hrd
        go_wp2_with fail
        refine C3.out.mono ?_
        rintro e w4 ⟨z, rfl, -, -, hr4⟩
        have H4 := Lib.hid (show Gr9 w w4 r oa len cap (p + 300 * k + 210 + 1) from ⟨H3.out.rd.asked HQ3.out hr4 (by omega), H3.out.t2.asked hr4.turns (by have := HRL.out; omega)⟩)
        have HG4 : Hid (HeldGr w4 w.heap.size (.slice ov ss.length cv) ss hs) := Lib.hid (by
          obtain ⟨p2, _, hrw⟩ := H3.out.rd.now
          exact HG3.out.asked hrw hr4.turns)
        have R4c := Lib.hid (R4b.out.asked hr4.turns (by have := HRL.out; have := HN4.out; omega))
        clear hr4
        by_cases h0 : z = 0
        · subst h0
          have e0 : ((0 : Int) == 0) = true := rfl
          have t2 := H4.out.t2.cell (i := 0) (v := .slice none 0 0) (by rfl)
          have f2 := H4.out.t2.frozen 0
          have g4 := R4c.out.cell (i := 0) (v := .slice ov ss.length cv) (by rfl)
          have d2 := (H4.out.t2.set 0 (.slice ov ss.length cv)).cell (i := 0) (v := .slice ov ss.length cv) (by rfl)
          have HG5 := Lib.hid (HG4.out.other H4.out.t2 (by decide) (by decide) 0 (.slice ov ss.length cv))
          have HR5 := Lib.hid ((H4.out.rd.far ((Below.refl _ _).setCell (p := ⟨w.heap.size, 0, none⟩) (Nat.le_refl _) (.slice ov ss.length cv))).more (P' := p + 1000) (by omega) (by omega))
          go_wp2
          exact bodyPost_ret (v := .agg #[.slice ov ss.length cv]) (by simp [results, Tryz.results107, go_sem, d2]) rfl ⟨ss, _, _, hs, rfl, HG5.out, HLL.out, HR5.out⟩
        · have e0 : ((z : Int) == 0) = false := by rw [beq_eq_false_iff_ne]; omega
          go_wp2
          go_roundw
          case rel => exact ⟨k + 1, by go_num, by omega, Lib.hid ⟨H4.out.rd.more (by omega) (by omega), H4.out.t2⟩⟩
          case measure => simp only [intOf]; omega
      · have H4 := Lib.hid (show Gr9 w w3 r oa len cap (p + 300 * k + 210 + 1) from ⟨H3.out.rd.more (by omega) (by omega), H3.out.t2⟩)
        have HG4 := HG3
        have R4c := R4b
        have t2 := H4.out.t2.cell (i := 0) (v := .slice none 0 0) (by rfl)
        have f2 := H4.out.t2.frozen 0
        have g4 := R4c.out.cell (i := 0) (v := .slice ov ss.length cv) (by rfl)
        have d2 := (H4.out.t2.set 0 (.slice ov ss.length cv)).cell (i := 0) (v := .slice ov ss.length cv) (by rfl)
        have HG5 := Lib.hid (HG4.out.other H4.out.t2 (by decide) (by decide) 0 (.slice ov ss.length cv))
        have HR5 := Lib.hid ((H4.out.rd.far ((Below.refl _ _).setCell (p := ⟨w.heap.size, 0, none⟩) (Nat.le_refl _) (.slice ov ss.length cv))).more (P' := p + 1000) (by omega) (by omega))
        go_wp2
        exact bodyPost_ret (v := .agg #[.slice ov ss.length cv]) (by simp [results, Tryz.results107, go_sem, d2]) rfl ⟨ss, _, _, hs, rfl, HG5.out, HLL.out, HR5.out⟩
    · obtain rfl : k = 3 := by omega
      have C5 := Lib.hid (known_any 0 (by omega) wr)
      go_wp2_with fail
      refine C5.out.mono ?_
      rintro e w5 ⟨ss, v, hs, rfl, hg, hl, hb5⟩
      obtain ⟨ov, cv, rfl, -⟩ := hg.holds
      have t2 := HW.out.t2.below hb5 HW.out.t2.lt
      have HG4 : Hid (HeldGr (w5.setCell ⟨w.heap.size, 0, none⟩ (.slice ov ss.length cv)) w.heap.size (.slice ov ss.length cv) ss hs) := Lib.hid (((show HeldGr w5 wr.heap.size _ ss hs from ⟨hg.len, hg.row, fun i s u h1 h2 => (hg.items i s u h1 h2).mono (Nat.zero_le _)⟩).lower HW.out.rd.turns.size).other t2 (by decide) (by decide) 0 _)
      have HR5 := Lib.hid ((((HW.out.rd.step hb5).far ((Below.refl _ _).setCell (p := ⟨w.heap.size, 0, none⟩) (Nat.le_refl _) (.slice ov ss.length cv))).more (P' := p + 1000) (by omega) (by omega)))
      have HLL := Lib.hid (hl.mono (show 101 ≤ 210 by omega))
      have d2 := (t2.set 0 (.slice ov ss.length cv)).cell (i := 0) (v := .slice ov ss.length cv) (by rfl)
      have c2 := t2.cell (i := 0) (v := .slice none 0 0) (by rfl)
      have f2 := t2.frozen 0
      clear hg hl hb5 t2
      go_wp2
      exact bodyPost_ret (v := .agg #[.slice ov ss.length cv]) (by simp [results, Tryz.results107, go_sem, d2]) rfl ⟨ss, _, _, hs, rfl, HG4.out, HLL.out, HR5.out⟩
end Go.Proofs.YtjogfagjcpcihaaGreatDoor
