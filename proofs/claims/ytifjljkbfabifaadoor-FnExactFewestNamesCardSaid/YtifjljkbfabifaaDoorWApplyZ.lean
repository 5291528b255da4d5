/-
  The walk of impl's (renaming).apply: all items of a graph in a box get their names. Conditions: the function value renames as told; the box holds a graph of the call's own.
-/
import Derived.Test.YtifjljkbfabifaaDoorJDZ
import Derived.Test.YtifjljkbfabifaaDoorWRenFZ
import Derived.Test.YtifjljkbfabifaaDoorWPutZ
namespace Go.Proofs.YtifjljkbfabifaaDoor
open Go Go.RowKit
theorem GrIn.par {w : World} {B g gs cs : Nat} {us : List Sc} {hs : List Value} (h : GrIn w B g gs cs us hs) {i : Nat} {s : Sc} (hs' : us[i]? = some s) : w.cell? ⟨gs, i * 2, none⟩ = some (.int .i64 s.parent) := by
  obtain ⟨u, hu⟩ : ∃ u, hs[i]? = some u := ⟨_, List.getElem?_eq_getElem (by rw [h.own.len]; exact (List.getElem?_eq_some_iff.1 hs').1)⟩
  have h3 := h.own.row.cells (g := gs) rfl _ _ (scRow_at hs' hu).1
  rw [Addr.add_lit, Nat.zero_add] at h3
  exact h3
set_option maxRecDepth 100000 in
set_option maxHeartbeats 8000000 in
theorem apply_any {w0 : World} {u : Value} {f : NameF} (us : List Sc) (hs : List Value) (hn : us.length ≤ 900) (hn2 : ∀ s ∈ us, s.items.length ≤ 900) (B g gs cs : Nat) (w : World) (hR : RenOn us w0 u f) (hb0 : Below w0.heap.size w0 w) (hle : w0.heap.size ≤ B) (hB : B ≤ w.heap.size) (hG : GrIn w B g gs cs us hs) :
    Calls Tryd.prog 170 #[u, .pointer (some ⟨g, 0, none⟩)] w fun e w' => (∃ v, e = .returned v) ∧ ∃ hs', GrIn w' B g gs cs (renP us f) hs' ∧ Below B w w' := by
  obtain ⟨fn, lb, rfl, hen, hcall⟩ := hR
  have HCALL := Lib.hid hcall
  have HB0 := Lib.hid hb0
  have HLE := Lib.hid (And.intro hle hB)
  have HN2 := Lib.hid hn2
  have HG := Lib.hid hG
  have r0 := hG.row.cell (i := 0) (by rfl)
  clear hcall hb0 hle hB hn2 hG
  go_enter Tryd.func170, Tryd.ntmps170
  go_wp2
  go_loopw [13] (fun i wr => ∃ k : Nat, i = .int .i64 k ∧ k ≤ us.length ∧ Hid (GrIn wr B g gs cs (renP us (uptoF f k 0)) hs ∧ Below B w wr)) (fun i _ => us.length - (intOf i).toNat)
  case atStart => exact ⟨0, rfl, Nat.zero_le _, Lib.hid ⟨by rw [uptoF_start]; exact HG.out, Below.refl _ _⟩⟩
  case round =>
    obtain ⟨k, rfl, hk, hP⟩ := hrel
    by_cases hlt : k < us.length
    · obtain ⟨c, hc⟩ : ∃ c, us[k]? = some c := ⟨_, List.getElem?_eq_getElem hlt⟩
      have hd : (renP us (uptoF f k 0))[k]? = some (renSc (uptoF f k 0) k c) := by rw [renP_get, hc]; rfl
      obtain ⟨u0, hu, hgB, hgl, hcell, hown⟩ := hP.out.1.slot hd
      have hpar := hP.out.1.par hd
      rw [renSc_length] at hown
      have hol := hown.lt
      obtain ⟨L, hL⟩ : ∃ L, c.items.length = L := ⟨_, rfl⟩
      rw [hL] at hown
      obtain ⟨o', c', rfl⟩ := ownsRow_slice hown
      obtain ⟨pr, hpr⟩ : ∃ pr, (renSc (uptoF f k 0) k c).parent = pr := ⟨_, rfl⟩
      rw [hpr] at hpar
      have hL9 : L ≤ 900 := by rw [← hL]; exact HN2.out c (List.mem_of_getElem? hc)
      have hk0 : (0 : Int) ≤ (k : Int) := by omega
      have hk1 : (k : Int) < (us.length : Int) := by omega
      have HC := Lib.hid (And.intro hc (And.intro hu hL))
      have HOL : Hid (∀ b, o' = some b → b.block < wr.heap.size) := Lib.hid (fun b e => (hol b.block (by rw [e]; rfl)).2)
      have HSZ : Hid (B ≤ wr.heap.size) := Lib.hid (Nat.le_trans HLE.out.2 hP.out.2.size)
      have hbA := (Below.refl wr.heap.size wr).alloc (Nat.le_refl _) (.cells #[.int .i64 pr, .slice o' L c'] 125)
      have HA := Lib.hid (And.intro (hP.out.1.below hbA) (hP.out.2.trans (hbA.mono HSZ.out)))
      have RS := Lib.hid (Row.new wr [.int .i64 pr, .slice o' L c'] 125)
      have HLT : Hid (wr.heap.size < (wr.alloc (.cells #[.int .i64 pr, .slice o' L c'] 125)).heap.size) := Lib.hid (by simp)
      have s1 := RS.out.cell (i := 1) (v := .slice o' L c') (by rfl)
      clear hd hgB hgl hown hol hpr hbA hc hu hL
      go_wp2
      generalize wr.alloc (.cells #[.int .i64 pr, .slice o' L c'] 125) = wA at *
      generalize wr.heap.size = Z at *
      go_loopw [21] (fun i wi => ∃ m : Nat, i = .int .i64 m ∧ m ≤ L ∧ Hid (GrIn wi B g gs cs (renP us (uptoF f k m)) hs ∧ Below B w wi ∧ Row wi Z 125 [.int .i64 pr, .slice o' L c'])) (fun i _ => L - (intOf i).toNat)
      case atStart => exact ⟨0, rfl, Nat.zero_le _, Lib.hid ⟨HA.out.1, HA.out.2, RS.out⟩⟩
      case round =>
        obtain ⟨m, rfl, hm, hQ⟩ := hrel
        by_cases hlt2 : m < L
        · obtain ⟨x, hx⟩ : ∃ x, c.items[m]? = some x := ⟨_, List.getElem?_eq_getElem (by rw [HC.out.2.2]; exact hlt2)⟩
          obtain ⟨d, hd, hdl, hdx⟩ := uptoF_get f HC.out.1 hx
          obtain ⟨gi, ci, hu2, hgB, hgl, _, hname, hfro, -, -⟩ := hQ.out.1.nameAt hd hdx
          have he := HC.out.2.1.symm.trans hu2
          simp only [Option.some.injEq, Value.slice.injEq] at he
          obtain ⟨rfl, -, rfl⟩ := he
          have hgw : gi < Z := HOL.out _ rfl
          have s1 := hQ.out.2.2.cell (i := 1) (v := .slice (some ⟨gi, 0, none⟩) L c') (by rfl)
          have D := Lib.hid (HCALL.out k m c x wr HC.out.1 hx ((HB0.out.trans (hQ.out.2.1.mono HLE.out.1))))
          have HNX : Hid (∀ wz : World, Below wr.heap.size wr wz → GrIn (wz.setCell ⟨gi, m * 3 + 1, none⟩ (.string (f k m x.name))) B g gs cs (renP us (uptoF f k (m + 1))) hs ∧ Below B w (wz.setCell ⟨gi, m * 3 + 1, none⟩ (.string (f k m x.name))) ∧ Row (wz.setCell ⟨gi, m * 3 + 1, none⟩ (.string (f k m x.name))) Z 125 [.int .i64 pr, .slice (some ⟨gi, 0, none⟩) L c']) := Lib.hid (fun wz hz => by
            have h1 := (hQ.out.1.below hz).name hd hdx hu2 (f k m x.name)
            rw [uptoF_step f HC.out.1 hx] at h1
            exact ⟨h1, (hQ.out.2.1.trans (hz.mono (Nat.le_trans HLE.out.2 hQ.out.2.1.size))).setCell hgB _, (hQ.out.2.2.below hz hQ.out.2.2.lt).other (a := ⟨gi, m * 3 + 1, none⟩) (by show gi ≠ Z; omega) _⟩)
          have HFR : Hid (∀ wz : World, Below wr.heap.size wr wz → wz.cell? ⟨gi, m * 3 + 1, none⟩ = some (.string x.name) ∧ wz.frozen? ⟨gi, m * 3 + 1, none⟩ = false) := Lib.hid (fun wz hz => ⟨cell_grow hz hname, by
            obtain ⟨gi', ci', k1, -, -, -, -, k2, -, -⟩ := (hQ.out.1.below hz).nameAt hd hdx
            have he := hu2.symm.trans k1
            simp only [Option.some.injEq, Value.slice.injEq, Addr.mk.injEq] at he
            rw [he.1.1]
            exact k2⟩)
          have hm0 : (0 : Int) ≤ (m : Int) := by omega
          have hm1 : (m : Int) < (L : Int) := by omega
          clear hx hd hdl hdx hu2 hgB hgl hfro hgw
          go_wp2_with fail
          refine D.out.mono ?_
          rintro e wz ⟨rfl, hbz⟩
          obtain ⟨n1, n2⟩ := HFR.out wz hbz
          have HN := Lib.hid (HNX.out wz hbz)
          clear hname s1 hbz
          go_wp2
          go_roundw
          case rel => exact ⟨m + 1, by go_num, by omega, HN⟩
          case measure => simp only [intOf]; omega
        · obtain rfl : m = L := by omega
          have HE : Hid (renP us (uptoF f k m) = renP us (uptoF f (k + 1) 0)) := Lib.hid (by have h := uptoF_scope f HC.out.1; rw [HC.out.2.2] at h; exact h)
          have HZ := Lib.hid (And.intro hQ.out.1 hQ.out.2.1)
          go_wp2
          go_roundw
          case rel => exact ⟨k + 1, by go_num, by omega, by rw [← HE.out]; exact HZ⟩
          case measure => simp only [intOf]; omega
    · obtain rfl : k = us.length := by omega
      have HE : Hid (GrIn wr B g gs cs (renP us f) hs ∧ Below B w wr) := Lib.hid (by have h := hP.out; rw [uptoF_all] at h; exact h)
      go_wp2
      go_end0
      exact ⟨⟨_, rfl⟩, hs, HE.out.1, HE.out.2⟩
end Go.Proofs.YtifjljkbfabifaaDoor
