/-
  The walks of the given l6Copy, l6Remove, l6RawRemoveItem and RemoveItem. Condition: the argument's memory holds the graph.
-/
import Derived.Test.YtadpgoiiopfnnaaDoorWWithout
namespace Go.Proofs.YtadpgoiiopfnnaaDoor
open Go Go.RowKit
theorem wpIn_append_run {P : Program} {F : Fence} {n : Nat} {w : World} {o : Oper} {a : Act} {K : Act → World → Prop} {Q : Exit → Act → World → Prop} (s x : Operand) (t : TypeId)
    (ho : o.op = .call { callee := .builtin .append, args := #[s, x], argTypes := #[t, t] }) (hab : o.about P w a.eval = none) {v' : Value} {w' : World} (hr : (Builtin.append_ #[t, t] o.type #[a.eval s, a.eval x]).run P w = .ok v' w')
    (h : K (a.put o.dst v') w') : o.wpIn F n P a w K Q := by
  refine ⟨fun f hf => (by rw [hab] at hf; cases hf), ?_⟩
  rw [Oper.semAt_eq _ _ _ (fun c => by rw [ho]; exact fun h => by cases h)]
  unfold execOp
  simp only [ho, resolve, invoke, builtin, Sem.run_bind, Sem.run_pure, Result.andThen_ok, List.map_toArray, List.map_cons, List.map_nil, hr]
  exact h
theorem ownsRow_ne2' {w : World} {base n size : Nat} {e : TypeId} {v : Value} {xs : List Value} (h : w.ownsRow base e size v n xs) (g : Nat) (hg : w.heap.size ≤ g) (e' : some g = v.ownBlock) : False := by
  have := (h.lt g e'.symm).2
  omega
theorem append_scope0 {W : World} {base k : Nat} {v : Value} {xs : List Value} (hrow : W.ownsRow base 90 2 v k xs) (x : Int) (u : Value) (hu : u.oneCell' = true) (hk : k < 2000000) (hbase : base ≤ W.heap.size) (ty : TypeId) :
    ∃ v' w', (Builtin.append_ #[28, 28] ty #[v, .slice (some ⟨W.heap.size, 0, none⟩) 1 1]).run Tryd.prog (W.alloc (.cells #[.int .i64 x, u] 90)) = .ok v' w' ∧ w'.ownsRow base 90 2 v' (k + 1) (xs ++ [.int .i64 x, u]) ∧ (W.alloc (.cells #[.int .i64 x, u] 90)).grownBy w' v.ownBlock := by
  obtain ⟨i0, hi, hz0, hz1, hz2⟩ := info_parts infoScope
  obtain ⟨v', w', hrun, h2, h3, _⟩ := run_append_own (P := Tryd.prog) (W.alloc (.cells #[.int .i64 x, u] 90)) base 28 ty 90 i0 _ 2 32 Tryd.underlying28 hi hz0 hz1 hz2 rfl (by decide) v k xs (hrow.alloc _) ⟨W.heap.size, 0, none⟩ 1 1 [.int .i64 x, u] rfl (cells_new2 W _ _ _)
    (by intro z hz; simp only [List.mem_cons, List.not_mem_nil, or_false] at hz; rcases hz with rfl | rfl <;> first | rfl | exact hu) (by unfold maxLen; omega) (by omega) (by show base ≤ (W.alloc _).heap.size; simp; omega)
  exact ⟨v', w', hrun, h2, h3⟩
set_option maxRecDepth 100000 in
set_option maxHeartbeats 4000000 in
theorem specCopy_any (ss : List Sc) (oa : Option Addr) (cap : Nat) (hn : ss.length ≤ 1048576) (hn2 : ∀ s ∈ ss, s.items.length < 1048577) (w : World) (hc : HoldsScopes w oa ss) :
    Calls Tryd.prog 137 #[.agg #[.slice oa ss.length cap]] w fun e w' => ∃ v hs, e = .returned (.agg #[v]) ∧ OwnGr w' w.heap.size v ss hs ∧ Below w.heap.size w w' := by
  have hb0 : Below w.heap.size w ((((w.alloc (.cells #[.slice oa ss.length cap] 30)).alloc (.cells #[.slice none 0 0] 30)).alloc (.cells #[] 90)).alloc (.cells #[.slice (some ⟨w.heap.size + 1 + 1, 0, none⟩) 0 0] 30)) :=
    ((((Below.refl _ _).alloc (Nat.le_refl _) _).alloc (by simp) _).alloc (by simp; omega) _).alloc (by simp; omega) _
  have R1 := (((Row.new w [.slice oa ss.length cap] 30).alloc (.cells #[.slice none 0 0] 30)).alloc (.cells #[] 90)).alloc (.cells #[.slice (some ⟨w.heap.size + 1 + 1, 0, none⟩) 0 0] 30)
  have R2 := ((Row.new (w.alloc (.cells #[.slice oa ss.length cap] 30)) [.slice none 0 0] 30).alloc (.cells #[] 90)).alloc (.cells #[.slice (some ⟨w.heap.size + 1 + 1, 0, none⟩) 0 0] 30)
  have R4 := Row.new (((w.alloc (.cells #[.slice oa ss.length cap] 30)).alloc (.cells #[.slice none 0 0] 30)).alloc (.cells #[] 90)) [.slice (some ⟨w.heap.size + 1 + 1, 0, none⟩) 0 0] 30
  have hM := (OwnGr.made ((w.alloc (.cells #[.slice oa ss.length cap] 30)).alloc (.cells #[.slice none 0 0] 30)) w.heap.size (by simp; omega)).below ((Below.refl _ _).alloc (Nat.le_refl _) (.cells #[.slice (some ⟨w.heap.size + 1 + 1, 0, none⟩) 0 0] 30))
  simp only [World.size_alloc] at R2 R4 hM
  have HB := Lib.hid hb0
  have HR2 := Lib.hid R2
  have HR4 := Lib.hid R4
  have HM := Lib.hid hM
  have HC := Lib.hid hc
  have HN2 := Lib.hid hn2
  have g1 := R1.cell (i := 0) (by rfl)
  clear hc hn2 hb0 R1 R2 R4 hM
  go_enter Tryd.func137, Tryd.ntmps137
  go_wp2
  go_loopw [11] (fun i wr => ∃ (k : Nat) (v : Value) (hs : List Value), i = .int .i64 k ∧ k ≤ ss.length ∧ Hid (OwnGr wr w.heap.size v (ss.take k) hs ∧ Below w.heap.size w wr ∧ Row wr (w.heap.size + 1) 30 [.slice none 0 0] ∧ Row wr (w.heap.size + 1 + 1 + 1) 30 [v])) (fun i _ => ss.length - (intOf i).toNat)
  case atStart => exact ⟨0, _, [], rfl, Nat.zero_le _, Lib.hid ⟨HM.out, HB.out, HR2.out, HR4.out⟩⟩
  case round =>
    obtain ⟨k, v, hs, rfl, hk, hP⟩ := hrel
    by_cases hlt : k < ss.length
    · obtain ⟨s, hs'⟩ : ∃ s, ss[k]? = some s := ⟨_, List.getElem?_eq_getElem hlt⟩
      obtain ⟨b1, f1, rfl, hb1, hcell⟩ := HC.out.at (by omega)
      obtain ⟨oi, ci, x0, x1, hIt⟩ := hcell k s hs'
      have y0 := (hP.out.2.1.cell (p := ⟨b1, _, none⟩) hb1).trans x0
      have y1 := (hP.out.2.1.cell (p := ⟨b1, _, none⟩) hb1).trans x1
      have hbA := (Below.refl wr.heap.size wr).alloc (Nat.le_refl _) (.cells #[.int .i64 s.parent, .slice oi s.items.length ci] 90)
      have hbE := hbA.drew.trans ((Below.refl _ _).alloc (Nat.le_refl _) (.cells #[] 65) |>.mono hbA.drew.size)
      have HIA := Lib.hid (hIt.below (hP.out.2.1.trans (hbE.mono hP.out.2.1.size)) (Nat.le_refl _))
      have HBE := Lib.hid hbE
      have HBA := Lib.hid (hP.out.2.1.trans (hbE.mono hP.out.2.1.size))
      have HGE := Lib.hid (hP.out.1.below hbE)
      have HR2E := Lib.hid (hP.out.2.2.1.below hbE hP.out.2.2.1.lt)
      have HR4E := Lib.hid (hP.out.2.2.2.below hbE hP.out.2.2.2.lt)
      have RS := (Row.new wr [.int .i64 s.parent, .slice oi s.items.length ci] 90)
      have s0 := cell_drew (hP.out.2.2.2.below hbA hP.out.2.2.2.lt |>.cell (i := 0) (by rfl))
      have s1 := cell_drew (RS.cell (i := 0) (by rfl))
      have s2 := cell_drew (RS.cell (i := 1) (by rfl))
      have hownE : ((wr.alloc (.cells #[.int .i64 s.parent, .slice oi s.items.length ci] 90)).drew.alloc (.cells #[] 65)).ownsRow (wr.heap.size + 1) 65 3 (.slice (some ⟨wr.heap.size + 1, 0, none⟩) 0 0) 0 [] := by
        have h0 := World.ownsRow_made (base := wr.heap.size + 1) (e := 65) (size := 3) (wr.alloc (.cells #[.int .i64 s.parent, .slice oi s.items.length ci] 90)).drew #[] 0 (by rw [show (wr.alloc (.cells #[.int .i64 s.parent, .slice oi s.items.length ci] 90)).drew.heap.size = wr.heap.size + 1 from World.size_alloc _ _]; exact Nat.le_refl _) (by unfold maxLen; omega) rfl
        rw [show (wr.alloc (.cells #[.int .i64 s.parent, .slice oi s.items.length ci] 90)).drew.heap.size = wr.heap.size + 1 from World.size_alloc _ _] at h0
        exact h0
      obtain ⟨v7, w7, hrun7, hown7, hg7⟩ := run_append_items hownE (by simp) (ci := ci) HIA.out (by omega) (by have := HN2.out s (List.mem_of_getElem? hs'); omega) 88
      simp only [Nat.zero_add, List.nil_append] at hown7
      have HTK : Hid (ss.take (k + 1) = ss.take k ++ [s]) := Lib.hid (by rw [List.take_add_one, hs']; rfl)
      have hkl : (ss.take k).length = k := by rw [List.length_take]; omega
      have hb7 : Below (wr.heap.size + 1) _ w7 := below_grown1 hg7 (by simp) (fun r e => by simp only [Value.ownBlock, Option.some.injEq] at e; omega)
      obtain ⟨o7, c7, rfl, -⟩ := holdsItems_of_owns hown7
      have hz7 : wr.heap.size + 1 + 1 ≤ w7.heap.size := by have := hb7.size; simp at this; omega
      have hlow : w.heap.size + 1 + 1 + 1 < wr.heap.size := hP.out.2.2.2.lt
      have far : ∀ {B' n size : Nat} {e : TypeId} {z : Value} {zs : List Value}, wr.ownsRow B' e size z n zs → w7.ownsRow B' e size z n zs := fun {B' n size e z zs} hz => by
        have h1 := hz.lt
        obtain ⟨q1, q2 | ⟨g, c, cur, hv, hB, hh, r⟩⟩ := hz
        · exact ⟨q1, .inl q2⟩
        · have hgl := (Array.getElem?_eq_some_iff.1 hh).1
          exact ⟨q1, .inr ⟨g, c, cur, hv, hB, (hb7.block g (by omega)).trans ((HBE.out.block g hgl).trans hh), r⟩⟩
      have HG7 : Hid (OwnGr w7 w.heap.size v (ss.take k) hs) := Lib.hid ⟨hP.out.1.len, far hP.out.1.row, fun i t u h1 h2 => far (hP.out.1.items i t u h1 h2), hP.out.1.apart⟩
      have HB7 := Lib.hid (HBA.out.trans (hb7.mono (by omega)))
      have HR27 := Lib.hid (HR2E.out.below hb7 (by omega))
      have HR47 := Lib.hid (HR4E.out.below hb7 (by omega))
      have HU7 := Lib.hid hown7
      have hrow7 := HG7.out.row
      rw [hkl] at hrow7
      obtain ⟨v9, w9, hrun9, hown9, hg9⟩ := append_scope0 hrow7 s.parent (.slice o7 s.items.length c7) rfl (by omega) HB7.out.size 28
      have HG9 : Hid (OwnGr w9 w.heap.size v9 (ss.take (k + 1)) (hs ++ [.slice o7 s.items.length c7])) := Lib.hid (by
        rw [HTK.out]
        refine OwnGr.snoc (w0 := wr) (p := s.parent) (xs := s.items) hP.out.1 HG7.out (HU7.out.mono (by omega)) (by omega) hg9 ?_
        rw [hkl]
        exact hown9)
      have HB9 := Lib.hid (HB7.out.trans (((Below.refl w.heap.size w7).alloc HB7.out.size (.cells #[.int .i64 s.parent, .slice o7 s.items.length c7] 90)).trans (below_grown1 hg9 (by simp; omega) (fun r e => (hrow7.lt r e).1))))
      have HR29 := Lib.hid ((HR27.out.alloc (.cells #[.int .i64 s.parent, .slice o7 s.items.length c7] 90)).grown hg9 (ownsRow_ne2 HR27.out (by decide) hrow7))
      have HR49 := Lib.hid ((HR47.out.alloc (.cells #[.int .i64 s.parent, .slice o7 s.items.length c7] 90)).grown hg9 (ownsRow_ne2 HR47.out (by decide) hrow7))
      have RS7 := (RS.drew.alloc (.cells #[] 65)).below hb7 (by omega)
      have RS9 := ((RS7.alloc (.cells #[.int .i64 s.parent, .slice o7 s.items.length c7] 90)).grown hg9 (by
        intro e
        have h1 := (hrow7.lt _ e.symm).2
        exact ownsRow_ne2' hP.out.1.row wr.heap.size (Nat.le_refl _) e))
      have hTE := And.intro (cell_grow ((Below.refl _ _).alloc (Nat.le_refl _) (.cells #[] 65)) s0) (And.intro (cell_grow ((Below.refl _ _).alloc (Nat.le_refl _) (.cells #[] 65)) s1) (cell_grow ((Below.refl _ _).alloc (Nat.le_refl _) (.cells #[] 65)) s2))
      have hT7 := And.intro (HR47.out.cell (i := 0) (v := v) (by rfl)) (And.intro (RS7.cell (i := 0) (v := .int .i64 s.parent) (by rfl)) (RS7.cell (i := 1) (v := .slice oi s.items.length ci) (by rfl)))
      have hT8 := And.intro (cell_grow ((Below.refl _ _).alloc (Nat.le_refl _) (.cells #[.int .i64 s.parent, .slice o7 s.items.length c7] 90)) hT7.1) (And.intro (cell_grow ((Below.refl _ _).alloc (Nat.le_refl _) (.cells #[.int .i64 s.parent, .slice o7 s.items.length c7] 90)) hT7.2.1) (cell_grow ((Below.refl _ _).alloc (Nat.le_refl _) (.cells #[.int .i64 s.parent, .slice o7 s.items.length c7] 90)) hT7.2.2))
      have hT9 := And.intro (HR49.out.cell (i := 0) (v := v) (by rfl)) (And.intro (RS9.cell (i := 0) (v := .int .i64 s.parent) (by rfl)) (RS9.cell (i := 1) (v := .slice oi s.items.length ci) (by rfl)))
      obtain ⟨ov, cv, rfl⟩ := ownsRow_slice hrow7
      obtain ⟨o9, c9, rfl⟩ := ownsRow_slice hown9
      have HT := Lib.hid (And.intro hTE (And.intro hT7 (And.intro hT8 hT9)))
      have HRUN := Lib.hid (And.intro hrun7 hrun9)
      clear hs' hcell x0 x1 hIt hbA hbE hownE hrun7 hown7 hg7 hb7 hkl hz7 hlow far hrow7 hrun9 hown9 hg9 RS RS7 RS9 hTE hT7 hT8 hT9
      go_wp2
      refine wp_region_kept (S := fun w' => w'.cell? ⟨w.heap.size + 1 + 1 + 1, 0, none⟩ = some (.slice ov k cv) ∧ w'.cell? ⟨wr.heap.size, 0, none⟩ = some (.int .i64 s.parent) ∧ w'.cell? ⟨wr.heap.size, 1, none⟩ = some (.slice oi s.items.length ci)) 12 (by kernel_rfl) ?_
      have hS0 := And.intro s0 (And.intro s1 s2)
      refine KeptAny.take (i := 0) (v := ?_) (by kernel_rfl) rfl rfl (by kernel_rfl) (by kernel_rfl) (by kernel_rfl) (fun _ _ _ h => h) (by rfl) (fun w' hw' => ?_) (fun _ => rfl) hS0 ?_
      rotate_left
      · (obtain ⟨g0, g1, g2⟩ := hw'; go_simp; try with_reducible rfl)
      refine KeptAny.take (i := 1) (v := ?_) (by kernel_rfl) rfl rfl (by kernel_rfl) (by kernel_rfl) (by kernel_rfl) (fun _ _ _ h => h) (by rfl) (fun w' hw' => ?_) (fun _ => rfl) hS0 ?_
      rotate_left
      · (obtain ⟨g0, g1, g2⟩ := hw'; go_simp; try with_reducible rfl)
      refine KeptAny.take (i := 2) (v := ?_) (by kernel_rfl) rfl rfl (by kernel_rfl) (by kernel_rfl) (by kernel_rfl) (fun _ _ _ h => h) (by rfl) (fun w' hw' => ?_) (fun _ => rfl) hS0 ?_
      rotate_left
      · (obtain ⟨g0, g1, g2⟩ := hw'; go_simp; try with_reducible rfl)
      refine KeptAny.take (i := 3) (v := ?_) (by kernel_rfl) rfl rfl (by kernel_rfl) (by kernel_rfl) (by kernel_rfl) (fun _ _ _ h => h) (by rfl) (fun w' hw' => ?_) (fun _ => rfl) hS0 ?_
      rotate_left
      · (obtain ⟨g0, g1, g2⟩ := hw'; go_simp; try with_reducible rfl)
      refine KeptAny.take (i := 5) (v := ?_) (by kernel_rfl) rfl rfl (by kernel_rfl) (by kernel_rfl) (by kernel_rfl) (fun _ _ _ h => h) (by rfl) (fun w' hw' => ?_) (fun _ => rfl) hS0 ?_
      rotate_left
      · (obtain ⟨g0, g1, g2⟩ := hw'; go_simp; try with_reducible rfl)
      refine KeptAny.take (i := 6) (v := ?_) (by kernel_rfl) rfl rfl (by kernel_rfl) (by kernel_rfl) (by kernel_rfl) (fun _ _ _ h => h) (by rfl) (fun w' hw' => ?_) (fun _ => rfl) hS0 ?_
      rotate_left
      · (obtain ⟨g0, g1, g2⟩ := hw'; go_simp; try with_reducible rfl)
      refine KeptAny.one (i := 4) (by kernel_rfl) rfl (by rfl) (fun K hK => ?_)
      go_simp
      refine hK.out _ _ HT.out.1 (fun _ => ?_)
      clear hK hS0 s0 s1 s2
      refine KeptAny.one (i := 7) (by kernel_rfl) rfl (by rfl) (fun K hK => ?_)
      refine wpIn_append_run _ _ 88 rfl rfl HRUN.out.1 ?_
      refine hK.out _ _ HT.out.2.1 (fun _ => ?_)
      clear hK
      have hS7 := HT.out.2.1
      refine KeptAny.take (i := 8) (v := ?_) (by kernel_rfl) rfl rfl (by kernel_rfl) (by kernel_rfl) (by kernel_rfl) (fun _ _ _ h => h) (by rfl) (fun w' hw' => ?_) (fun _ => rfl) hS7 ?_
      rotate_left
      · (obtain ⟨g0, g1, g2⟩ := hw'; go_simp; try with_reducible rfl)
      refine KeptAny.one (i := 9) (by kernel_rfl) rfl (by rfl) (fun K hK => ?_)
      go_simp
      refine hK.out _ _ HT.out.2.2.1 (fun _ => ?_)
      clear hK
      refine KeptAny.one (i := 10) (by kernel_rfl) rfl (by rfl) (fun K hK => ?_)
      refine wpIn_append_run _ _ 28 rfl rfl HRUN.out.2 ?_
      refine hK.out _ _ HT.out.2.2.2 (fun _ => ?_)
      clear hK
      refine KeptAny.one (i := 11) (by kernel_rfl) rfl (by rfl) (fun K hK => ?_)
      go_simp
      refine hK.out _ _ HT.out.2.2.2 (fun _ => ?_)
      clear hK
      have n0 := HT.out.2.2.2.1
      have f0 := HR49.out.frozen 0
      refine KeptAny.last (by kernel_rfl) rfl (by rfl) (fun K hK => ?_)
      go_simp
      refine hK.out _ _ ?_
      clear hK n0 f0 hS7
      refine KeptAny.done (by kernel_rfl) ?_ _
      have HGX : Hid (OwnGr (w9.setCell ⟨w.heap.size + 1 + 1 + 1, 0, none⟩ (.slice o9 (k + 1) c9)) w.heap.size (.slice o9 (k + 1) c9) (ss.take (k + 1)) (hs ++ [.slice o7 s.items.length c7])) := Lib.hid
        ⟨HG9.out.len, ownsRow_otherN HG9.out.row HR49.out (by decide) 0 _, fun i t u h1 h2 => ownsRow_otherN (HG9.out.items i t u h1 h2) HR49.out (by decide) 0 _, HG9.out.apart⟩
      have HBX := Lib.hid (HB9.out.setCell (p := ⟨w.heap.size + 1 + 1 + 1, 0, none⟩) (by show w.heap.size ≤ w.heap.size + 1 + 1 + 1; omega) (.slice o9 (k + 1) c9))
      have HR2X := Lib.hid (HR29.out.other (a := ⟨w.heap.size + 1 + 1 + 1, 0, none⟩) (by show w.heap.size + 1 + 1 + 1 ≠ w.heap.size + 1; omega) (.slice o9 (k + 1) c9))
      have HR4X := Lib.hid (HR49.out.set 0 (.slice o9 (k + 1) c9))
      clear HT HRUN
      go_wp2
      go_roundw
      case rel => exact ⟨k + 1, _, _, by go_num, by omega, Lib.hid ⟨HGX.out, HBX.out, HR2X.out, HR4X.out⟩⟩
      case measure => simp only [intOf]; omega
    · obtain rfl : k = ss.length := by omega
      have HG : Hid (OwnGr wr w.heap.size v ss hs) := Lib.hid (by have := hP.out.1; rwa [List.take_length] at this)
      obtain ⟨ov, cv, rfl, -⟩ := HG.out.holds
      have n0 := hP.out.2.2.1.cell (i := 0) (v := .slice none 0 0) (by rfl)
      have f0 := hP.out.2.2.1.frozen 0
      have h0 := hP.out.2.2.2.cell (i := 0) (v := .slice ov ss.length cv) (by rfl)
      have HT := Lib.hid (hP.out.2.2.1.set 0 (.slice ov ss.length cv))
      have HGT : Hid (OwnGr (wr.setCell ⟨w.heap.size + 1, 0, none⟩ (.slice ov ss.length cv)) w.heap.size (.slice ov ss.length cv) ss hs) := Lib.hid
        ⟨HG.out.len, ownsRow_otherN HG.out.row hP.out.2.2.1 (by decide) 0 _, fun i s u h1 h2 => ownsRow_otherN (HG.out.items i s u h1 h2) hP.out.2.2.1 (by decide) 0 _, HG.out.apart⟩
      go_wp2
      have d0 := HT.out.cell (i := 0) (v := .slice ov ss.length cv) (by rfl)
      refine bodyPost_ret (v := .agg #[.slice ov ss.length cv]) (by simp [results, Tryd.results137, go_sem, d0]) rfl ⟨_, hs, rfl, HGT.out, hP.out.2.1.setCell (by simp) _⟩
end Go.Proofs.YtadpgoiiopfnnaaDoor
