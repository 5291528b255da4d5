/-
  The walks of the given l8Named, l8RawRenameAt, RenameAt, RenameChanges and CanRename. Condition: the argument's memory holds the graph.
-/
import Derived.Test.YtimcobenmgbciaaGreatDoorWSwapS
import Derived.Test.YtimcobenmgbciaaGreatDoorWUsrS
import Derived.Test.YtimcobenmgbciaaGreatDoorWChgS
import Derived.Test.YtimcobenmgbciaaGreatDoorJE
namespace Go.Proofs.YtimcobenmgbciaaGreatDoor
open Go Go.RowKit
def renOk (ss : List Sc) (a b : Int) (nm : ByteArray) : Prop := declOk ss a b ∧ nameB nm = true
def renG (ss : List Sc) (a b : Int) (nm : ByteArray) : List Sc := renP ss (nmIn (usersP ss (a, b) ++ [(a, b)]) nm)
theorem name_placed {ss : List Sc} (hv : Valid ss) {i j : Nat} {x : It} (hq : (i, j, x) ∈ placed 0 ss) : nameB x.name = true := by
  have h3 := hv.items
  rw [← placed_flat] at h3
  have h4 := (h3.1 (i, x) (List.mem_map.2 ⟨(i, j, x), hq, rfl⟩)).1
  unfold itemB at h4
  simp only [Bool.and_eq_true] at h4
  exact h4.1.1
theorem renOk.valid {ss : List Sc} {a b : Int} {nm : ByteArray} (h : renOk ss a b nm) : Valid (renG ss a b nm) := by
  refine Valid.ren h.1.1 fun i j x hq => ?_
  unfold nmIn
  split
  · exact h.2
  · exact name_placed h.1.1 hq
theorem nameB_small {nm : ByteArray} (h : nameB nm = true) : nm.size ≤ 2 ^ 63 - 1 := by
  have h1 : nm.data.toList.length = nm.size := by rw [Array.length_toList]; rfl
  unfold nameB at h
  rcases hd : nm.data.toList with _ | ⟨b, _ | ⟨c, r⟩⟩
  · rw [hd] at h; cases h
  · rw [hd] at h1; simp only [List.length_cons, List.length_nil] at h1; omega
  · rw [hd] at h; cases h
theorem Fair.ren {ss : List Sc} (hF : Fair ss) {f : NameF} (hf : ∀ i j s x, ss[i]? = some s → s.items[j]? = some x → (f i j x.name).size ≤ 2 ^ 63 - 1) : Fair (renP ss f) where
  count := by rw [renP_length]; exact hF.count
  items := items_ren hF.items f
  fits := hF.fits.ren hf
  nums := hF.nums.ren f
theorem renOk.fair {ss : List Sc} (hF : Fair ss) {a b : Int} {nm : ByteArray} (h : renOk ss a b nm) : Fair (renG ss a b nm) := by
  refine hF.ren fun i j s x hs hx => ?_
  unfold nmIn
  split
  · exact nameB_small h.2
  · exact (hF.fits.2 s (List.mem_of_getElem? hs)).2 x (List.mem_of_getElem? hx)
theorem users_isPlace {ss : List Sc} {d : Int × Int} : ∀ p ∈ usersP ss d, IsPlace ss p := by
  intro p hp
  unfold usersP filtL at hp
  obtain ⟨q, hq, rfl⟩ := List.mem_map.1 hp
  obtain ⟨s, h1, h2⟩ := placed_at (List.mem_filter.1 hq).1
  exact ⟨q.1, q.2.1, s, q.2.2, rfl, h1, h2⟩
theorem declOk.isPlace {ss : List Sc} {a b : Int} (h : declOk ss a b) : IsPlace ss (a, b) := by
  obtain ⟨hv, x, hx, _⟩ := h
  obtain ⟨i, j, rfl, rfl, hq⟩ := item_placed hx
  obtain ⟨s, h1, h2⟩ := placed_at hq
  exact ⟨i, j, s, x, rfl, h1, h2⟩
theorem cell_farR {w : World} {b g : Nat} (h : b ≠ g) (i : Nat) (v : Value) {o : Nat} : (w.setCell ⟨g, i, none⟩ v).cell? ⟨b, o, none⟩ = w.cell? ⟨b, o, none⟩ := World.cell?_of_block (Below.heap_setCell _ _ _ _ h)
theorem append_place_src {W : World} {base k S : Nat} {v : Value} {xs : List Value} (hrow : W.ownsRow base 34 2 v k xs) (x y : Int) (hk : k < 1000000) (hbase : base ≤ W.heap.size) (h0 : W.cell? ⟨S, 0, none⟩ = some (.int .i64 x)) (h1 : W.cell? ⟨S, 1, none⟩ = some (.int .i64 y)) (ty : TypeId) :
    ∃ v' w', (Builtin.append_ #[38, 38] ty #[v, .slice (some ⟨S, 0, none⟩) 1 1]).run Tryz.prog W = .ok v' w' ∧ w'.ownsRow base 34 2 v' (k + 1) (xs ++ [.int .i64 x, .int .i64 y]) ∧ W.grownBy w' v.ownBlock := by
  obtain ⟨i0, hi, hz0, hz1, hz2⟩ := info_parts infoPl
  obtain ⟨v', w', hrun, h2, h3, _, h5⟩ := run_append_own_at (P := Tryz.prog) W base 38 ty 34 i0 (.agg #[.int .i64 0, .int .i64 0]) 2 16 Tryz.underlying38 hi hz0 hz1 hz2 rfl (by decide) v k xs hrow ⟨S, 0, none⟩ 1 1 [.int .i64 x, .int .i64 y] rfl
    (by
      intro j u hj
      match j, hj with
      | 0, hj => simp at hj; subst hj; simpa [Addr.add] using h0
      | 1, hj => simp at hj; subst hj; simpa [Addr.add] using h1)
    (by intro u hu; simp only [List.mem_cons, List.mem_nil_iff, or_false] at hu; rcases hu with rfl | rfl <;> rfl) (by unfold maxLen; omega) (by omega) hbase
  exact ⟨v', w', hrun, h2, h3⟩
set_option maxRecDepth 100000 in
set_option maxHeartbeats 8000000 in
theorem l8Named_any (ss : List Sc) (hv : Valid ss) (hF : Fair ss) (oa ol : Option Addr) (cap cl : Nat) (l : List (Int × Int)) (hl : l.length ≤ 1000) (hp : ∀ p ∈ l, IsPlace ss p) (nm : ByteArray) (w : World) (hc : HoldsScopes w oa ss) (ha : ArgPlaces w ol l) :
    Calls Tryz.prog 63 #[.agg #[.slice oa ss.length cap], .slice ol l.length cl, .string nm] w fun e w' => ∃ v hs, e = .returned (.agg #[v]) ∧ OwnGr w' w.heap.size v (renP ss (nmIn l nm)) hs ∧ Below w.heap.size w w' := by
  have hb0 := ((Below.refl w.heap.size w).alloc (Nat.le_refl _) (.cells #[.slice oa ss.length cap] 32)).alloc (by simp) (.cells #[.slice none 0 0] 32)
  have R1 := (Row.new w [.slice oa ss.length cap] 32).alloc (.cells #[.slice none 0 0] 32)
  have R2 := Row.new (w.alloc (.cells #[.slice oa ss.length cap] 32)) [.slice none 0 0] 32
  rw [World.size_alloc] at R2
  have C := Lib.hid (specCopy_any ss oa cap hF.count (fun s hs => by have := hv.five s hs; omega) _ (hc.below hb0 (Nat.le_refl _)))
  have HB := Lib.hid hb0
  have HR2 := Lib.hid R2
  have HA := Lib.hid ha
  have HP := Lib.hid hp
  have HV := Lib.hid hv
  have g1 := R1.cell (i := 0) (v := .slice oa ss.length cap) (by rfl)
  have hsz0 : Hid (((w.alloc (.cells #[.slice oa ss.length cap] 32)).alloc (.cells #[.slice none 0 0] 32)).heap.size = w.heap.size + 2) := Lib.hid (by simp)
  clear hc hb0 R1 R2 ha hp hv hF
  go_enter Tryz.func63, Tryz.ntmps63
  go_wp2_with fail
  refine C.out.mono ?_
  rintro e w3 ⟨v, hs, rfl, hO, hb3⟩
  obtain ⟨gs, cs, rfl⟩ : ∃ gs cs, v = .slice (some ⟨gs, 0, none⟩) ss.length cs := by
    obtain ⟨hl, h2 | ⟨g, c, cur, hv, hB, hh, _⟩⟩ := hO.row
    · have := h2.2; have := HV.out.count.1; omega
    · exact ⟨g, c, hv⟩
  have hbA := (Below.refl w3.heap.size w3).alloc (Nat.le_refl _) (.cells #[.slice (some ⟨gs, 0, none⟩) ss.length cs] 32)
  have RH := Row.new w3 [.slice (some ⟨gs, 0, none⟩) ss.length cs] 32
  have HG0 : Hid (GrIn (w3.alloc (.cells #[.slice (some ⟨gs, 0, none⟩) ss.length cs] 32)) (w.heap.size + 2) w3.heap.size gs cs ss hs) := Lib.hid ⟨RH, by have h := hO.below hbA; rw [hsz0.out] at h; exact h⟩
  have HX3 := Lib.hid (HB.out.trans ((hb3.trans (hbA.mono hb3.size)).mono HB.out.size))
  have HR2b := Lib.hid (HR2.out.below (hb3.trans (hbA.mono hb3.size)) HR2.out.lt)
  have HZ3 : Hid (w.heap.size + 2 ≤ (w3.alloc (.cells #[.slice (some ⟨gs, 0, none⟩) ss.length cs] 32)).heap.size) := Lib.hid (by have := (hb3.trans (hbA.mono hb3.size)).size; rw [hsz0.out] at this; exact this)
  have HSL : Hid (ss.length ≤ 6 ∧ ∀ s ∈ ss, s.items.length ≤ 5) := Lib.hid ⟨HV.out.count.2, HV.out.five⟩
  clear hO hb3 hbA RH g1
  go_wp2
  generalize w3.heap.size = g at *
  generalize w3.alloc (.cells #[.slice (some ⟨gs, 0, none⟩) ss.length cs] 32) = w4 at *
  go_loopw [14] (fun i wr => ∃ k : Nat, i = .int .i64 k ∧ k ≤ l.length ∧ Hid (GrIn wr (w.heap.size + 2) g gs cs (renP ss (nmIn (l.take k) nm)) hs ∧ Below w.heap.size w wr ∧ Row wr (w.heap.size + 1) 32 [.slice none 0 0] ∧ w.heap.size + 2 ≤ wr.heap.size)) (fun i _ => l.length - (intOf i).toNat)
  case atStart => exact ⟨0, rfl, Nat.zero_le _, Lib.hid ⟨by rw [List.take_zero, nmIn_nil]; exact HG0.out, HX3.out, HR2b.out, HZ3.out⟩⟩
  case round =>
    obtain ⟨k, rfl, hk, hP⟩ := hrel
    by_cases hlt : k < l.length
    · obtain ⟨d, hd⟩ : ∃ d, l[k]? = some d := ⟨_, List.getElem?_eq_getElem hlt⟩
      obtain ⟨ci, cj, c, x, rfl, hcs, hcx⟩ := HP.out d (List.mem_of_getElem? hd)
      obtain ⟨b2, f2, rfl, hb2, q2⟩ := (HA.out.below hP.out.2.1).at (by omega)
      obtain ⟨x0, x1⟩ := q2 k _ hd
      dsimp only at x0 x1
      have hcil := (List.getElem?_eq_some_iff.1 hcs).1
      have hcjl := (List.getElem?_eq_some_iff.1 hcx).1
      have hds : (renP ss (nmIn (l.take k) nm))[ci]? = some (renSc (nmIn (l.take k) nm) ci c) := by rw [renP_get, hcs]; rfl
      have hdx : (renSc (nmIn (l.take k) nm) ci c).items[cj]? = some (renIt (nmIn (l.take k) nm) ci cj x) := by rw [renSc_get, hcx]; rfl
      have hbq := ((Below.refl wr.heap.size wr).alloc (Nat.le_refl _) (.cells #[.int .i64 (ci : Int), .int .i64 (cj : Int)] 34)).drew
      have hGD := hP.out.1.below hbq
      obtain ⟨gi, ic, hu, hgB, hgl, hcell, hname, hfro, hgsB, -⟩ := hGD.nameAt hds hdx
      rw [renSc_length] at hcell hu
      have r0 := hGD.row.cell (i := 0) (by rfl)
      rw [renP_length] at r0
      have RQ := (Row.new wr [.int .i64 (ci : Int), .int .i64 (cj : Int)] 34).drew
      have k0 := RQ.cell (i := 0) (v := .int .i64 (ci : Int)) (by rfl)
      have k1 := RQ.cell (i := 1) (v := .int .i64 (cj : Int)) (by rfl)
      have HN : Hid (GrIn (((wr.alloc (.cells #[.int .i64 (ci : Int), .int .i64 (cj : Int)] 34)).setCell ⟨gi, cj * 3 + 1, none⟩ (.string nm)).drew) (w.heap.size + 2) g gs cs (renP ss (nmIn (l.take (k + 1)) nm)) hs ∧ Below w.heap.size w (((wr.alloc (.cells #[.int .i64 (ci : Int), .int .i64 (cj : Int)] 34)).setCell ⟨gi, cj * 3 + 1, none⟩ (.string nm)).drew) ∧ Row (((wr.alloc (.cells #[.int .i64 (ci : Int), .int .i64 (cj : Int)] 34)).setCell ⟨gi, cj * 3 + 1, none⟩ (.string nm)).drew) (w.heap.size + 1) 32 [.slice none 0 0] ∧ w.heap.size + 2 ≤ (((wr.alloc (.cells #[.int .i64 (ci : Int), .int .i64 (cj : Int)] 34)).setCell ⟨gi, cj * 3 + 1, none⟩ (.string nm)).drew).heap.size) := Lib.hid (by
        have h1 := hGD.name hds hdx (by rw [renSc_length]; exact hu) nm
        rw [nmIn_more, show l.take k ++ [((ci : Int), (cj : Int))] = l.take (k + 1) by rw [List.take_add_one, hd]; rfl] at h1
        refine ⟨h1, (hP.out.2.1.trans (hbq.mono hP.out.2.1.size)).setCell (by show w.heap.size ≤ gi; omega) _, (hP.out.2.2.1.below hbq hP.out.2.2.1.lt).other (a := ⟨gi, cj * 3 + 1, none⟩) (by show gi ≠ w.heap.size + 1; omega) _, ?_⟩
        have h2 := hP.out.2.2.2
        have h3 := hbq.size
        simp at h3 ⊢
        omega)
      obtain ⟨L, hL⟩ : ∃ L, c.items.length = L := ⟨_, rfl⟩
      rw [hL] at hcjl hcell
      have hi0 : (0 : Int) ≤ (ci : Int) := by omega
      have hi1 : (ci : Int) < (ss.length : Int) := by omega
      have hj0 : (0 : Int) ≤ (cj : Int) := by omega
      have hj1 : (cj : Int) < (L : Int) := by omega
      clear hd hcs hcx hds hdx hbq hGD hu hgB hgl hgsB RQ hb2 q2 hL
      go_wp2
      refine wp_region_kept (S := fun w' => w'.cell? ⟨g, 0, none⟩ = some (.slice (some ⟨gs, 0, none⟩) ss.length cs) ∧ w'.cell? ⟨wr.heap.size, 0, none⟩ = some (.int .i64 (ci : Int)) ∧ w'.cell? ⟨wr.heap.size, 1, none⟩ = some (.int .i64 (cj : Int)) ∧ w'.cell? ⟨gs, ci * 2 + 1, none⟩ = some (.slice (some ⟨gi, 0, none⟩) L ic)) 12 (by kernel_rfl) ?_
      have hS0 := And.intro r0 (And.intro k0 (And.intro k1 hcell))
      refine KeptAny.take (i := 0) (v := ?_) (by kernel_rfl) rfl rfl (by kernel_rfl) (by kernel_rfl) (by kernel_rfl) (fun _ _ _ h => h) (by rfl) (fun w' hw' => ?_) (fun _ => rfl) hS0 ?_
      rotate_left
      · (obtain ⟨g0, g1, g2, g3⟩ := hw'; go_simp; try with_reducible rfl)
      refine KeptAny.take (i := 1) (v := ?_) (by kernel_rfl) rfl rfl (by kernel_rfl) (by kernel_rfl) (by kernel_rfl) (fun _ _ _ h => h) (by rfl) (fun w' hw' => ?_) (fun _ => rfl) hS0 ?_
      rotate_left
      · (obtain ⟨g0, g1, g2, g3⟩ := hw'; go_simp; try with_reducible rfl)
      refine KeptAny.take (i := 2) (v := ?_) (by kernel_rfl) rfl rfl (by kernel_rfl) (by kernel_rfl) (by kernel_rfl) (fun _ _ _ h => h) (by rfl) (fun w' hw' => ?_) (fun _ => rfl) hS0 ?_
      rotate_left
      · (obtain ⟨g0, g1, g2, g3⟩ := hw'; go_simp; try with_reducible rfl)
      refine KeptAny.take (i := 3) (v := ?_) (by kernel_rfl) rfl rfl (by kernel_rfl) (by kernel_rfl) (by kernel_rfl) (fun _ _ _ h => h) (by rfl) (fun w' hw' => ?_) (fun _ => rfl) hS0 ?_
      rotate_left
      · (obtain ⟨g0, g1, g2, g3⟩ := hw'; go_simp; try with_reducible rfl)
      refine KeptAny.take (i := 4) (v := ?_) (by kernel_rfl) rfl rfl (by kernel_rfl) (by kernel_rfl) (by kernel_rfl) (fun _ _ _ h => h) (by rfl) (fun w' hw' => ?_) (fun _ => rfl) hS0 ?_
      rotate_left
      · (obtain ⟨g0, g1, g2, g3⟩ := hw'; go_simp; try with_reducible rfl)
      refine KeptAny.take (i := 5) (v := ?_) (by kernel_rfl) rfl rfl (by kernel_rfl) (by kernel_rfl) (by kernel_rfl) (fun _ _ _ h => h) (by rfl) (fun w' hw' => ?_) (fun _ => rfl) hS0 ?_
      rotate_left
      · (obtain ⟨g0, g1, g2, g3⟩ := hw'; go_simp; try with_reducible rfl)
      refine KeptAny.take (i := 6) (v := ?_) (by kernel_rfl) rfl rfl (by kernel_rfl) (by kernel_rfl) (by kernel_rfl) (fun _ _ _ h => h) (by rfl) (fun w' hw' => ?_) (fun _ => rfl) hS0 ?_
      rotate_left
      · (obtain ⟨g0, g1, g2, g3⟩ := hw'; go_simp; try with_reducible rfl)
      refine KeptAny.take (i := 7) (v := ?_) (by kernel_rfl) rfl rfl (by kernel_rfl) (by kernel_rfl) (by kernel_rfl) (fun _ _ _ h => h) (by rfl) (fun w' hw' => ?_) (fun _ => rfl) hS0 ?_
      rotate_left
      · (obtain ⟨g0, g1, g2, g3⟩ := hw'; go_simp; try with_reducible rfl)
      refine KeptAny.take (i := 8) (v := ?_) (by kernel_rfl) rfl rfl (by kernel_rfl) (by kernel_rfl) (by kernel_rfl) (fun _ _ _ h => h) (by rfl) (fun w' hw' => ?_) (fun _ => rfl) hS0 ?_
      rotate_left
      · (obtain ⟨g0, g1, g2, g3⟩ := hw'; go_simp; try with_reducible rfl)
      refine KeptAny.take (i := 9) (v := ?_) (by kernel_rfl) rfl rfl (by kernel_rfl) (by kernel_rfl) (by kernel_rfl) (fun _ _ _ h => h) (by rfl) (fun w' hw' => ?_) (fun _ => rfl) hS0 ?_
      rotate_left
      · (obtain ⟨g0, g1, g2, g3⟩ := hw'; go_simp; try with_reducible rfl)
      refine KeptAny.one (i := 10) (by kernel_rfl) rfl (by rfl) (fun K hK => ?_)
      go_simp
      refine hK.out _ _ hS0 (fun _ => ?_)
      clear hK
      refine KeptAny.one (i := 11) (by kernel_rfl) rfl (by rfl) (fun K hK => ?_)
      go_simp
      refine hK.out _ _ hS0 (fun _ => ?_)
      clear hK
      refine KeptAny.last (by kernel_rfl) rfl (by rfl) (fun K hK => ?_)
      go_simp
      refine hK.out _ _ ?_
      clear hK
      refine KeptAny.done (by kernel_rfl) ?_ _
      clear hS0 r0 k0 k1 hcell hname hfro x0 x1
      generalize ((wr.alloc (.cells #[.int .i64 (ci : Int), .int .i64 (cj : Int)] 34)).setCell ⟨gi, cj * 3 + 1, none⟩ (.string nm)).drew = wS at *
      go_wp2
      go_roundw
      case rel => exact ⟨k + 1, by go_num, by omega, HN⟩
      case measure => simp only [intOf]; omega
    · obtain rfl : k = l.length := by omega
      have hE := hP.out
      rw [List.take_length] at hE
      have l1 := hE.1.row.cell (i := 0) (by rfl)
      have n0 := hE.2.2.1.cell (i := 0) (v := .slice none 0 0) (by rfl)
      have f0 := hE.2.2.1.frozen 0
      have HE := Lib.hid hE
      clear hE
      go_wp2
      have RT := HE.out.2.2.1.set 0 (.slice (some ⟨gs, 0, none⟩) (renP ss (nmIn l nm)).length cs)
      have d0 := RT.cell (i := 0) (v := .slice (some ⟨gs, 0, none⟩) (renP ss (nmIn l nm)).length cs) (by rfl)
      refine bodyPost_ret (v := .agg #[.slice (some ⟨gs, 0, none⟩) (renP ss (nmIn l nm)).length cs]) (by simp [results, Tryz.results63, go_sem, d0]) rfl ⟨_, hs, rfl, ?_, HE.out.2.1.setCell (by simp) _⟩
      refine OwnGr.lower (B := w.heap.size + 2) ?_ (by omega)
      exact ⟨HE.out.1.own.len, ownsRow_otherN HE.out.1.own.row HE.out.2.2.1 (by decide) 0 _, fun k t z h1 h2 => ownsRow_otherN (HE.out.1.own.items k t z h1 h2) HE.out.2.2.1 (by decide) 0 _, HE.out.1.own.apart⟩
set_option maxRecDepth 100000 in
set_option maxHeartbeats 8000000 in
theorem rawRename_any (ss : List Sc) (hF : Fair ss) (oa : Option Addr) (cap : Nat) (a b : Int) (nm : ByteArray) (w : World) (hc : HoldsScopes w oa ss) :
    Calls Tryz.prog 38 #[.agg #[.slice oa ss.length cap], .agg #[.int .i64 a, .int .i64 b], .string nm] w (RawGr (renOk ss a b nm) (renG ss a b nm) w) := by
  have hb0 : Below w.heap.size w (((w.alloc (.cells #[.slice oa ss.length cap] 32)).alloc (.cells #[.int .i64 a, .int .i64 b] 34)).alloc (.cells #[.slice none 0 0] 32)) := (((Below.refl _ _).alloc (Nat.le_refl _) _).alloc (by simp) _).alloc (by simp; omega) _
  have R1 := Lib.hid (((Row.new w [.slice oa ss.length cap] 32).alloc (.cells #[.int .i64 a, .int .i64 b] 34)).alloc (.cells #[.slice none 0 0] 32))
  have R2 := (Row.new (w.alloc (.cells #[.slice oa ss.length cap] 32)) [.int .i64 a, .int .i64 b] 34).alloc (.cells #[.slice none 0 0] 32)
  have R3 := Row.new ((w.alloc (.cells #[.slice oa ss.length cap] 32)).alloc (.cells #[.int .i64 a, .int .i64 b] 34)) [.slice none 0 0] 32
  rw [World.size_alloc] at R2
  rw [World.size_alloc, World.size_alloc] at R3
  have R2 := Lib.hid R2
  have R3 := Lib.hid R3
  have C := Lib.hid (l6Declared_any ss hF.fits oa cap a b _ (hc.below hb0 (Nat.le_refl _)))
  have HB := Lib.hid hb0
  have HF := Lib.hid hF
  have HC := Lib.hid hc
  have g1 := R1.out.cell (i := 0) (v := .slice oa ss.length cap) (by rfl)
  have p0 := R2.out.cell (i := 0) (v := .int .i64 a) (by rfl)
  have p1 := R2.out.cell (i := 1) (v := .int .i64 b) (by rfl)
  have n0 := R3.out.cell (i := 0) (v := .slice none 0 0) (by rfl)
  have f0 := R3.out.frozen 0
  clear hF hc hb0
  obtain ⟨qa, hqa⟩ : ∃ q, nameB nm = q := ⟨_, rfl⟩
  have HQ := Lib.hid hqa
  have CA := Lib.hid (fun W => l1Name_any nm W)
  rw [hqa] at CA
  clear hqa
  go_enter Tryz.func38, Tryz.ntmps38
  go_wp2_with fail
  refine C.out.mono ?_
  rintro e w1 ⟨ok, rfl, hok, hb1⟩
  have HV := Lib.hid hok
  have HB1 := Lib.hid (HB.out.trans (hb1.mono HB.out.size))
  have R1a := Lib.hid (R1.out.below hb1 R1.out.lt)
  have R2a := Lib.hid (R2.out.below hb1 R2.out.lt)
  have R3a := Lib.hid (R3.out.below hb1 R3.out.lt)
  have g1 := R1a.out.cell (i := 0) (v := .slice oa ss.length cap) (by rfl)
  have p0 := R2a.out.cell (i := 0) (v := .int .i64 a) (by rfl)
  have p1 := R2a.out.cell (i := 1) (v := .int .i64 b) (by rfl)
  have n0 := R3a.out.cell (i := 0) (v := .slice none 0 0) (by rfl)
  have f0 := R3a.out.frozen 0
  clear hok hb1
  cases ok
  · have HN : Hid (¬ renOk ss a b nm) := Lib.hid (fun h => by have := HV.out.2 h.1; cases this)
    go_wp2
    have RT := R3a.out.set 0 (.slice none 0 0)
    have d0 := RT.cell (i := 0) (v := .slice none 0 0) (by rfl)
    refine bodyPost_ret (v := .tuple #[.agg #[.slice none 0 0], .bool false]) (by simp [results, Tryz.results38, go_sem, d0]) rfl (.inl ⟨HN.out, rfl, HB1.out.setCell (by simp; omega) _⟩)
  · have HD := Lib.hid (HV.out.1 rfl)
    go_wp2_with fail
    refine (CA.out _).mono ?_
    rintro e w1 ⟨rfl, rfl⟩
    cases qa
    · have HN : Hid (¬ renOk ss a b nm) := Lib.hid (fun h => by have := HQ.out.symm.trans h.2; cases this)
      go_wp2
      have RT := R3a.out.set 0 (.slice none 0 0)
      have d0 := RT.cell (i := 0) (v := .slice none 0 0) (by rfl)
      refine bodyPost_ret (v := .tuple #[.agg #[.slice none 0 0], .bool false]) (by simp [results, Tryz.results38, go_sem, d0]) rfl (.inl ⟨HN.out, rfl, HB1.out.setCell (by simp; omega) _⟩)
    · have HOK : Hid (renOk ss a b nm) := Lib.hid ⟨HD.out, HQ.out⟩
      have h30 := placed_bound 0 ss 6 5 HD.out.1.count.2 HD.out.1.five
      have hul := usersP_length ss (a, b)
      have HLP : Hid ((usersP ss (a, b)).length ≤ 30) := Lib.hid (by omega)
      have HD0 : Hid (Below w1.heap.size w1 w1.drew) := Lib.hid ((Below.refl _ _).drew)
      clear n0 f0 h30 hul
      go_wp2
      refine wp_region_kept (S := fun w' => w'.cell? ⟨w.heap.size, 0, none⟩ = some (.slice oa ss.length cap) ∧ w'.cell? ⟨w.heap.size + 1, 0, none⟩ = some (.int .i64 a) ∧ w'.cell? ⟨w.heap.size + 1, 1, none⟩ = some (.int .i64 b)) 10 (by kernel_rfl) ?_
      have hS0 := And.intro (cell_drew g1) (And.intro (cell_drew p0) (cell_drew p1))
      have HS0 := Lib.hid hS0
      refine KeptAny.take (i := 0) (v := ?_) (by kernel_rfl) rfl rfl (by kernel_rfl) (by kernel_rfl) (by kernel_rfl) (fun _ _ _ h => h) (by rfl) (fun w' hw' => ?_) (fun _ => rfl) hS0 ?_
      rotate_left
      · (obtain ⟨g0, g1, g2⟩ := hw'; go_simp; try with_reducible rfl)
      refine KeptAny.take (i := 1) (v := ?_) (by kernel_rfl) rfl rfl (by kernel_rfl) (by kernel_rfl) (by kernel_rfl) (fun _ _ _ h => h) (by rfl) (fun w' hw' => ?_) (fun _ => rfl) hS0 ?_
      rotate_left
      · (obtain ⟨g0, g1, g2⟩ := hw'; go_simp; try with_reducible rfl)
      refine KeptAny.take (i := 2) (v := ?_) (by kernel_rfl) rfl rfl (by kernel_rfl) (by kernel_rfl) (by kernel_rfl) (fun _ _ _ h => h) (by rfl) (fun w' hw' => ?_) (fun _ => rfl) hS0 ?_
      rotate_left
      · (obtain ⟨g0, g1, g2⟩ := hw'; go_simp; try with_reducible rfl)
      refine KeptAny.take (i := 4) (v := ?_) (by kernel_rfl) rfl rfl (by kernel_rfl) (by kernel_rfl) (by kernel_rfl) (fun _ _ _ h => h) (by rfl) (fun w' hw' => ?_) (fun _ => rfl) hS0 ?_
      rotate_left
      · (obtain ⟨g0, g1, g2⟩ := hw'; go_simp; try with_reducible rfl)
      refine KeptAny.take (i := 7) (v := ?_) (by kernel_rfl) rfl rfl (by kernel_rfl) (by kernel_rfl) (by kernel_rfl) (fun _ _ _ h => h) (by rfl) (fun w' hw' => ?_) (fun _ => rfl) hS0 ?_
      rotate_left
      · (obtain ⟨g0, g1, g2⟩ := hw'; go_simp; try with_reducible rfl)
      clear hS0 g1 p0 p1
      refine KeptAny.two (i := 3) (j := 5) (by kernel_rfl) ⟨_, rfl, by rfl, fun K hK => ?_⟩ ⟨_, rfl, by rfl, fun K hK => ?_⟩
      · go_simp
        refine ⟨trivial, ?_⟩
        refine ((callsIn_wide (n := 5)).2 (l6Users_any ss HD.out.1 HF.out.fits oa cap a b _ (HC.out.below (HB1.out.trans (HD0.out.mono HB1.out.size)) (Nat.le_refl _)))).mono ?_
        rintro e w2 ⟨v2, rfl, hown, hb2⟩
        obtain ⟨o2, c2, rfl⟩ := ownsRow_slice hown
        have hb3 := (Below.refl w2.heap.size w2).alloc (Nat.le_refl _) (.cells #[.int .i64 a, .int .i64 b] 34)
        have RP := Row.new w2 [.int .i64 a, .int .i64 b] 34
        have hs0 := RP.cell (i := 0) (v := .int .i64 a) (by rfl)
        have hs1 := RP.cell (i := 1) (v := .int .i64 b) (by rfl)
        have hbase : w1.heap.size ≤ (w2.alloc (.cells #[.int .i64 a, .int .i64 b] 34)).heap.size := Nat.le_trans hb2.size hb3.size
        have hrow := ownsRow_lower (ownsRow_below hown hb3) (show w1.heap.size ≤ w1.drew.heap.size from Nat.le_refl _)
        have hX : Below w1.heap.size w1 (w2.alloc (.cells #[.int .i64 a, .int .i64 b] 34)) := (HD0.out.trans (hb2.mono HD0.out.size)).trans (hb3.mono (Nat.le_trans HD0.out.size hb2.size))
        have hXs : w1.heap.size ≤ (w2.alloc (.cells #[.int .i64 a, .int .i64 b] 34)).heap.size := hbase
        have hS2 := And.intro (cell_grow hb2 HS0.out.1) (And.intro (cell_grow hb2 HS0.out.2.1) (cell_grow hb2 HS0.out.2.2))
        have hS3 := And.intro (cell_grow hb3 hS2.1) (And.intro (cell_grow hb3 hS2.2.1) (cell_grow hb3 hS2.2.2))
        have HS1 : Hid (w1.cell? ⟨w.heap.size, 0, none⟩ = some (.slice oa ss.length cap) ∧ w1.cell? ⟨w.heap.size + 1, 0, none⟩ = some (.int .i64 a) ∧ w1.cell? ⟨w.heap.size + 1, 1, none⟩ = some (.int .i64 b)) := Lib.hid HS0.out
        obtain ⟨v4, w4, hrun, hown4, hg4⟩ := append_place_src hrow a b (by have := HLP.out; omega) hbase hs0 hs1 38
        have hb4 := below_grown1 hg4 hbase (fun r e => (hrow.lt r e).1)
        have he4 : placeCells (usersP ss (a, b) ++ [(a, b)]) = placeCells (usersP ss (a, b)) ++ [.int .i64 a, .int .i64 b] := placeCells_snoc _ _
        rw [← he4, show (usersP ss (a, b)).length + 1 = (usersP ss (a, b) ++ [(a, b)]).length by rw [List.length_append]; rfl] at hown4
        obtain ⟨ul, hul⟩ : ∃ ul, usersP ss (a, b) ++ [(a, b)] = ul := ⟨_, rfl⟩
        rw [hul] at hown4
        have hull : ul.length ≤ 1000 := by have := HLP.out; rw [← hul, List.length_append]; simp; omega
        have hulp : ∀ p ∈ ul, IsPlace ss p := by rw [← hul]; exact fun p hp => (List.mem_append.1 hp).elim (fun h => users_isPlace p h) (fun h => by rw [List.mem_singleton.1 h]; exact HD.out.isPlace)
        obtain ⟨o4, c4, rfl, hA4⟩ := argPlaces_of_owns hown4
        have HX4 := Lib.hid (hX.trans hb4)
        have HB4 := Lib.hid (HB1.out.trans (HX4.out.mono HB1.out.size))
        have HS4 := Lib.hid (And.intro (cell_grow HX4.out HS1.out.1) (And.intro (cell_grow HX4.out HS1.out.2.1) (cell_grow HX4.out HS1.out.2.2)))
        have C4 := Lib.hid (l8Named_any ss HD.out.1 HF.out oa o4 cap c4 ul hull hulp nm _ (HC.out.below HB4.out (Nat.le_refl _)) hA4)
        rw [show renP ss (nmIn ul nm) = renG ss a b nm by rw [← hul]; rfl] at C4
        have HRUN := Lib.hid hrun
        have HS3 := Lib.hid hS3
        refine hK.out _ _ hS2 (fun _ => ?_)
        clear hul hull hulp hK hown hrun hown4 hg4 hb4 hA4 hX hXs hrow hbase hs0 hs1 RP hb3 hb2 hS2 hS3
        refine KeptAny.one (i := 5) (by kernel_rfl) rfl (by rfl) (fun K hK => ?_)
        go_simp
        refine hK.out _ _ HS3.out (fun _ => ?_)
        clear hK
        refine KeptAny.one (i := 6) (by kernel_rfl) rfl (by rfl) (fun K hK => ?_)
        refine wpIn_append_run _ _ 38 rfl rfl HRUN.out ?_
        refine hK.out _ _ HS4.out (fun _ => ?_)
        clear hK
        refine KeptAny.one (i := 8) (by kernel_rfl) rfl (by rfl) (fun K hK => ?_)
        go_simp
        refine ⟨trivial, ?_⟩
        refine ((callsIn_wide (n := 5)).2 C4.out).mono ?_
        rintro e w5 ⟨v5, hs5, rfl, hO, hb5⟩
        obtain ⟨ov, cv, rfl, -⟩ := hO.holds
        have hS5 := And.intro (cell_grow hb5 HS4.out.1) (And.intro (cell_grow hb5 HS4.out.2.1) (cell_grow hb5 HS4.out.2.2))
        have HB5 := Lib.hid (HB4.out.trans (hb5.mono HB4.out.size))
        have R3b := Lib.hid (R3a.out.below (HX4.out.trans (hb5.mono HX4.out.size)) R3a.out.lt)
        have HO := Lib.hid hO
        have n0 := R3b.out.cell (i := 0) (v := .slice none 0 0) (by rfl)
        have f0 := R3b.out.frozen 0
        refine hK.out _ _ hS5 (fun _ => ?_)
        clear hK hO hb5
        refine KeptAny.one (i := 9) (by kernel_rfl) rfl (by rfl) (fun K hK => ?_)
        go_simp
        have hS6 := And.intro (show (w5.setCell ⟨w.heap.size + 1 + 1, 0, none⟩ (.slice ov (renG ss a b nm).length cv)).cell? ⟨w.heap.size, 0, none⟩ = _ from (cell_farR (by omega) 0 _ (o := 0)).trans hS5.1) (And.intro (show (w5.setCell ⟨w.heap.size + 1 + 1, 0, none⟩ (.slice ov (renG ss a b nm).length cv)).cell? ⟨w.heap.size + 1, 0, none⟩ = _ from (cell_farR (by omega) 0 _ (o := 0)).trans hS5.2.1) (show (w5.setCell ⟨w.heap.size + 1 + 1, 0, none⟩ (.slice ov (renG ss a b nm).length cv)).cell? ⟨w.heap.size + 1, 1, none⟩ = _ from (cell_farR (by omega) 0 _ (o := 1)).trans hS5.2.2))
        refine hK.out _ _ hS6 (fun _ => ?_)
        clear hK
        refine KeptAny.last (by kernel_rfl) rfl (by rfl) (fun K hK => ?_)
        go_simp
        refine hK.out _ _ ?_
        clear hK
        refine KeptAny.done (by kernel_rfl) ?_ _
        have RT := R3b.out.set 0 (.slice ov (renG ss a b nm).length cv)
        have d0 := RT.cell (i := 0) (v := .slice ov (renG ss a b nm).length cv) (by rfl)
        go_wp2
        refine bodyPost_ret (v := .tuple #[.agg #[.slice ov (renG ss a b nm).length cv], .bool true]) (by simp [results, Tryz.results38, go_sem, d0]) rfl (.inr ⟨HOK.out, ov, cv, rfl, ?_, HB5.out.setCell (by simp; omega) _⟩)
        exact OwnGr.holdsAtR ⟨HO.out.len, ownsRow_otherN HO.out.row R3b.out (by decide) 0 _, fun k t z h1 h2 => ownsRow_otherN (HO.out.items k t z h1 h2) R3b.out (by decide) 0 _, HO.out.apart⟩
      · have hb3 := HD0.out.trans (((Below.refl w1.drew.heap.size w1.drew).alloc (Nat.le_refl _) (.cells #[.int .i64 a, .int .i64 b] 34)).mono (Nat.le_refl _))
        have RP := Row.new w1.drew [.int .i64 a, .int .i64 b] 34
        have hS1 := And.intro (cell_grow hb3 HS0.out.1) (And.intro (cell_grow hb3 HS0.out.2.1) (cell_grow hb3 HS0.out.2.2))
        have HRP := Lib.hid RP
        have HBP := Lib.hid hb3
        go_simp
        refine hK.out _ _ hS1 (fun _ => ?_)
        clear hK hb3 RP
        refine KeptAny.one (i := 3) (by kernel_rfl) rfl (by rfl) (fun K hK => ?_)
        go_simp
        refine ⟨trivial, ?_⟩
        refine ((callsIn_wide (n := 5)).2 (l6Users_any ss HD.out.1 HF.out.fits oa cap a b _ (HC.out.below (HB1.out.trans (HBP.out.mono HB1.out.size)) (Nat.le_refl _)))).mono ?_
        rintro e w2 ⟨v2, rfl, hown, hb2⟩
        obtain ⟨o2, c2, rfl⟩ := ownsRow_slice hown
        have RP2 := HRP.out.below hb2 HRP.out.lt
        have hs0 := RP2.cell (i := 0) (v := .int .i64 a) (by rfl)
        have hs1 := RP2.cell (i := 1) (v := .int .i64 b) (by rfl)
        have hbase : w1.heap.size ≤ w2.heap.size := Nat.le_trans HBP.out.size hb2.size
        have hrow := ownsRow_lower hown HBP.out.size
        have hX : Below w1.heap.size w1 w2 := HBP.out.trans (hb2.mono HBP.out.size)
        have hXs : w1.heap.size ≤ w2.heap.size := hbase
        have hS2 := And.intro (cell_grow hb2 hS1.1) (And.intro (cell_grow hb2 hS1.2.1) (cell_grow hb2 hS1.2.2))
        have HS1 : Hid (w1.cell? ⟨w.heap.size, 0, none⟩ = some (.slice oa ss.length cap) ∧ w1.cell? ⟨w.heap.size + 1, 0, none⟩ = some (.int .i64 a) ∧ w1.cell? ⟨w.heap.size + 1, 1, none⟩ = some (.int .i64 b)) := Lib.hid HS0.out
        obtain ⟨v4, w4, hrun, hown4, hg4⟩ := append_place_src hrow a b (by have := HLP.out; omega) hbase hs0 hs1 38
        have hb4 := below_grown1 hg4 hbase (fun r e => (hrow.lt r e).1)
        have he4 : placeCells (usersP ss (a, b) ++ [(a, b)]) = placeCells (usersP ss (a, b)) ++ [.int .i64 a, .int .i64 b] := placeCells_snoc _ _
        rw [← he4, show (usersP ss (a, b)).length + 1 = (usersP ss (a, b) ++ [(a, b)]).length by rw [List.length_append]; rfl] at hown4
        obtain ⟨ul, hul⟩ : ∃ ul, usersP ss (a, b) ++ [(a, b)] = ul := ⟨_, rfl⟩
        rw [hul] at hown4
        have hull : ul.length ≤ 1000 := by have := HLP.out; rw [← hul, List.length_append]; simp; omega
        have hulp : ∀ p ∈ ul, IsPlace ss p := by rw [← hul]; exact fun p hp => (List.mem_append.1 hp).elim (fun h => users_isPlace p h) (fun h => by rw [List.mem_singleton.1 h]; exact HD.out.isPlace)
        obtain ⟨o4, c4, rfl, hA4⟩ := argPlaces_of_owns hown4
        have HX4 := Lib.hid (hX.trans hb4)
        have HB4 := Lib.hid (HB1.out.trans (HX4.out.mono HB1.out.size))
        have HS4 := Lib.hid (And.intro (cell_grow HX4.out HS1.out.1) (And.intro (cell_grow HX4.out HS1.out.2.1) (cell_grow HX4.out HS1.out.2.2)))
        have C4 := Lib.hid (l8Named_any ss HD.out.1 HF.out oa o4 cap c4 ul hull hulp nm _ (HC.out.below HB4.out (Nat.le_refl _)) hA4)
        rw [show renP ss (nmIn ul nm) = renG ss a b nm by rw [← hul]; rfl] at C4
        have HRUN := Lib.hid hrun
        refine hK.out _ _ hS2 (fun _ => ?_)
        clear hul hull hulp hown hrun hown4 hg4 hb4 hA4 hX hXs hrow hbase hs0 hs1 RP2 hb2 hS2 hS1
        clear hK
        refine KeptAny.one (i := 6) (by kernel_rfl) rfl (by rfl) (fun K hK => ?_)
        refine wpIn_append_run _ _ 38 rfl rfl HRUN.out ?_
        refine hK.out _ _ HS4.out (fun _ => ?_)
        clear hK
        refine KeptAny.one (i := 8) (by kernel_rfl) rfl (by rfl) (fun K hK => ?_)
        go_simp
        refine ⟨trivial, ?_⟩
        refine ((callsIn_wide (n := 5)).2 C4.out).mono ?_
        rintro e w5 ⟨v5, hs5, rfl, hO, hb5⟩
        obtain ⟨ov, cv, rfl, -⟩ := hO.holds
        have hS5 := And.intro (cell_grow hb5 HS4.out.1) (And.intro (cell_grow hb5 HS4.out.2.1) (cell_grow hb5 HS4.out.2.2))
        have HB5 := Lib.hid (HB4.out.trans (hb5.mono HB4.out.size))
        have R3b := Lib.hid (R3a.out.below (HX4.out.trans (hb5.mono HX4.out.size)) R3a.out.lt)
        have HO := Lib.hid hO
        have n0 := R3b.out.cell (i := 0) (v := .slice none 0 0) (by rfl)
        have f0 := R3b.out.frozen 0
        refine hK.out _ _ hS5 (fun _ => ?_)
        clear hK hO hb5
        refine KeptAny.one (i := 9) (by kernel_rfl) rfl (by rfl) (fun K hK => ?_)
        go_simp
        have hS6 := And.intro (show (w5.setCell ⟨w.heap.size + 1 + 1, 0, none⟩ (.slice ov (renG ss a b nm).length cv)).cell? ⟨w.heap.size, 0, none⟩ = _ from (cell_farR (by omega) 0 _ (o := 0)).trans hS5.1) (And.intro (show (w5.setCell ⟨w.heap.size + 1 + 1, 0, none⟩ (.slice ov (renG ss a b nm).length cv)).cell? ⟨w.heap.size + 1, 0, none⟩ = _ from (cell_farR (by omega) 0 _ (o := 0)).trans hS5.2.1) (show (w5.setCell ⟨w.heap.size + 1 + 1, 0, none⟩ (.slice ov (renG ss a b nm).length cv)).cell? ⟨w.heap.size + 1, 1, none⟩ = _ from (cell_farR (by omega) 0 _ (o := 1)).trans hS5.2.2))
        refine hK.out _ _ hS6 (fun _ => ?_)
        clear hK
        refine KeptAny.last (by kernel_rfl) rfl (by rfl) (fun K hK => ?_)
        go_simp
        refine hK.out _ _ ?_
        clear hK
        refine KeptAny.done (by kernel_rfl) ?_ _
        have RT := R3b.out.set 0 (.slice ov (renG ss a b nm).length cv)
        have d0 := RT.cell (i := 0) (v := .slice ov (renG ss a b nm).length cv) (by rfl)
        go_wp2
        refine bodyPost_ret (v := .tuple #[.agg #[.slice ov (renG ss a b nm).length cv], .bool true]) (by simp [results, Tryz.results38, go_sem, d0]) rfl (.inr ⟨HOK.out, ov, cv, rfl, ?_, HB5.out.setCell (by simp; omega) _⟩)
        exact OwnGr.holdsAtR ⟨HO.out.len, ownsRow_otherN HO.out.row R3b.out (by decide) 0 _, fun k t z h1 h2 => ownsRow_otherN (HO.out.items k t z h1 h2) R3b.out (by decide) 0 _, HO.out.apart⟩
end Go.Proofs.YtimcobenmgbciaaGreatDoor
