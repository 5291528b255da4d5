/-
  The walk of the law FnImported: at every argument it returns true, and only new memory is written. Conditions: the argument's memory holds bytes; the package-level errors hold errors.
-/
import Derived.Test.YtoijapbffhkbbaaDoorWSame
import Derived.Test.YtoijapbffhkbbaaDoorLawPls
import Derived.Test.YtoijapbffhkbbaaDoorWImplLook
import Derived.Test.YtoijapbffhkbbaaDoorWSpecLook
import Derived.Test.YtoijapbffhkbbaaDoorWDrawS
import Derived.Test.YtoijapbffhkbbaaDoorWModule
namespace Go.Proofs.YtoijapbffhkbbaaDoor
open Go Go.RowKit
theorem imp_target {ss : List Sc} (hv : Valid ss) (s : Nat) (xs : List It) : ∀ k : Nat, ∀ m ∈ impUp ss (impP ss) s xs k, ∃ nm, targetP ss s nm = (m : Int)
  | 0 => by simp [impUp]
  | k + 1 => by
    have ih := imp_target hv s xs k
    cases hx : xs[k]? with
    | none =>
      have : impUp ss (impP ss) s xs (k + 1) = impUp ss (impP ss) s xs k := by
        unfold impUp
        rw [List.take_add_one, hx]
        simp
      rw [this]; exact ih
    | some x =>
      rw [impUp_snoc hx]
      unfold impStep
      split
      · split
        · exact ih
        · rename_i h
          intro m hm
          rw [List.mem_append, List.mem_singleton] at hm
          rcases hm with hm | rfl
          · exact ih m hm
          · refine ⟨x.name, ?_⟩
            rcases target_ok hv s x.name with h1 | ⟨m', h1, h2⟩
            · exact absurd (.inl h1) h
            · have : targetF ss (impP ss) s x.name = (m' : Int) := h1
              rw [h1, this]; simp
      · exact ih
theorem module_of_scope {ss : List Sc} (hv : Valid ss) {q : Nat × Nat × It} (hq : q ∈ placed 0 ss) {m : Nat} (hs : q.2.2.scope = (m : Int)) : ∃ q', moduleP ss (m : Int) = some q' := by
  cases h : moduleP ss (m : Int) with
  | some q' => exact ⟨q', rfl⟩
  | none => exact absurd hs (moduleP_none hv (by omega) h q hq)
theorem imp_module {ss : List Sc} (hv : Valid ss) {s m : Nat} (h : m ∈ impP ss s) {a b : Int} {ok : Bool} (hR : modR ss (m : Int) a b ok) : ok = true := by
  rw [impP_eq hv.climbs] at h
  obtain ⟨nm, ht⟩ := imp_target hv s _ _ m h
  have hone : (meantP ss s nm).length = 1 := by
    by_cases h1 : (meantP ss s nm).length = 1
    · exact h1
    · have := targetP_not h1
      omega
  obtain ⟨p, hp⟩ := List.length_eq_one_iff.1 hone
  rw [targetP_one hp] at ht
  obtain ⟨i, j, c, x, rfl, hc, hx⟩ := meant_isPlace p (by rw [hp]; exact List.mem_singleton.2 rfl)
  rw [scopeAt_of hc hx] at ht
  obtain ⟨q', hq'⟩ := module_of_scope hv (q := (i, j, x)) (mem_placed.2 ⟨c, Nat.zero_le _, by simpa using hc, hx⟩) ht
  rcases hR with ⟨h1, _⟩ | ⟨_, _, _, _, h2⟩
  · rw [hq'] at h1; cases h1
  · exact h2
/-- What is found of a name is a declaration of it. -/
theorem own_item {ss : List Sc} {s : Nat} {nm : ByteArray} {p : Int × Int} (h : p ∈ ownP ss s nm) : ∃ x, itemAtP ss p.1 p.2 = some x ∧ x.kind = 1 ∧ (x.name.toList == nm.toList) = true := by
  obtain ⟨c, j, x, hc, hx, ho, rfl⟩ := mem_ownP h
  unfold isOwn at ho
  simp only [Bool.and_eq_true, beq_iff_eq] at ho
  exact ⟨x, by rw [itemAtP_nat hc]; exact hx, ho.1, by simpa using ho.2⟩
theorem from_item {ss : List Sc} {l : List Nat} {nm : ByteArray} {p : Int × Int} (h : p ∈ fromP ss l nm) : ∃ x, itemAtP ss p.1 p.2 = some x ∧ x.kind = 1 ∧ (x.name.toList == nm.toList) = true := by
  unfold fromP at h
  obtain ⟨k, _, hk⟩ := List.mem_flatMap.1 h
  exact own_item hk
theorem look_item' {ss : List Sc} {imps : Nat → List Nat} {nm : ByteArray} : ∀ {l : List Nat}, ∀ p ∈ (lookF ss imps nm l).places, ∃ x, itemAtP ss p.1 p.2 = some x ∧ x.kind = 1 ∧ (x.name.toList == nm.toList) = true
  | [], p, hp => by simp [lookF] at hp
  | m :: r, p, hp => by
    unfold lookF at hp
    split at hp
    · split at hp
      · exact look_item' p hp
      · exact from_item hp
    · exact own_item hp
end Go.Proofs.YtoijapbffhkbbaaDoor
namespace Go.Proofs.YtoijapbffhkbbaaDoor
open Go Go.RowKit Sg
theorem ownsRow_cap {w : World} {base n size len cap : Nat} {e : TypeId} {o : Option Addr} {xs : List Value} (h : w.ownsRow base e size (.slice o len cap) n xs) : len ≤ cap := by
  obtain ⟨_, h2 | ⟨g, c, cur, hv, hB, hh, hn, _, _, _⟩⟩ := h
  · have := h2.1
    simp only [Value.slice.injEq] at this
    omega
  · simp only [Value.slice.injEq] at hv
    omega
theorem ListGot.valc {ok : Prop} {l : List Nat} {w w' : World} {e : Ending} (h : ListGot ok l w e w') : ∃ oa cap xs b, e = .returned (.tuple #[.slice oa xs.length cap, .bool b]) ∧ listVal ok l xs b ∧ HoldsInts w' oa xs ∧ xs.length ≤ cap ∧ Below w.heap.size w w' := by
  rcases h with ⟨h1, rfl, hb⟩ | ⟨h1, v, rfl, hr, hb⟩
  · exact ⟨none, 0, [], false, rfl, .inl ⟨h1, rfl, rfl⟩, .inl rfl, Nat.le_refl _, hb⟩
  · obtain ⟨oa, cap, rfl, hh, ho⟩ := numList_of_owns hr
    exact ⟨oa, cap, _, true, rfl, .inr ⟨h1, rfl, rfl⟩, hh, ownsRow_cap hr, hb⟩
/-- What holds at the head of a round of the first loop. -/
structure ImpAt (w wr : World) (v : Value) (l : List (Int × Int)) : Prop where
  row : wr.ownsRow w.heap.size 43 2 v l.length (placeCells l)
  below : Below w.heap.size w wr
theorem ImpAt.step {w wr w' : World} {v : Value} {l : List (Int × Int)} (h : ImpAt w wr v l) (hb : Below wr.heap.size wr w') : ImpAt w w' v l :=
  ⟨ownsRow_below h.row hb, h.below.trans (hb.mono h.below.size)⟩
theorem nodup_at {l : List Nat} (hd : l.Nodup) {i j a b : Nat} (hi : l[i]? = some a) (hj : l[j]? = some b) (h : i ≠ j) : a ≠ b := by
  rintro rfl
  exact h ((idx_of hd hi).symm.trans (idx_of hd hj))
set_option maxRecDepth 100000 in
set_option maxHeartbeats 4000000 in
theorem lawImported {w : World} {oa : Option Addr} {len cap : Nat} (h : HoldsBytes w oa len) (hlc : len ≤ cap) (hE : NameErrs w) :
    Calls Tryd.prog 9 #[.slice oa len cap] w fun e w' => e = .returned (.bool true) ∧ Below w.heap.size w w' := by
  by_cases hn : (1048576 : Int) < (len : Int)
  · clear h hE
    go_enter Tryd.func9, Tryd.ntmps9
    go_wp2
    go_ret
    exact ⟨rfl, Below.refl _ _⟩
  · have C := Lib.hid (drawImportedOf_any h (by omega) hlc)
    have HE := Lib.hid hE
    clear h hE hlc
    go_enter Tryd.func9, Tryd.ntmps9
    go_wp2_with fail
    refine C.out.mono ?_
    rintro e w1 ⟨ss, ov, cv, s, nm, rfl, hh, hl, hsI, hnm, hb1⟩
    have HF := Lib.hid (hl.fair (by omega))
    have hbA := (Below.refl w1.heap.size w1).alloc (Nat.le_refl _) (.cells #[.slice ov ss.length cv] 30)
    have HA := Lib.hid (belowS hb1 hbA)
    have HC := Lib.hid (hh.below hbA (Nat.le_refl _))
    have RB := Lib.hid (Row.new w1 [.slice ov ss.length cv] 30)
    clear hh hl hsI hnm hb1 hbA
    go_wp2_with fail
    refine (implImportedOf_any ss HF.out ov cv s nm _ HC.out (HE.out.at HA.out)).mono ?_
    intro e w2 hgot
    obtain ⟨o1, c1, xs, b, rfl, hv1, ha1, -, hb2⟩ := hgot.val
    have V1 := Lib.hid hv1
    have A1 := Lib.hid ha1
    have X2 := Lib.hid hb2
    have r2 := (RB.out.below X2.out RB.out.lt).cell (i := 0) (v := .slice ov ss.length cv) (by rfl)
    clear hgot hv1 ha1 hb2
    go_wp2_with fail
    refine (implImportedScopes_any ss HF.out ov cv s _ (HC.out.below X2.out (Nat.le_refl _)) ((HE.out.at HA.out).at X2.out).nodes).mono ?_
    intro e w3 hgot
    obtain ⟨o2, c2, is, f, rfl, hv2, hi2, hic, hb3⟩ := hgot.valc
    have V2 := Lib.hid hv2
    have I2 := Lib.hid hi2
    have A1a := Lib.hid (A1.out.below hb3)
    have X3 := Lib.hid (belowS X2.out hb3)
    have r3 := (RB.out.below X3.out RB.out.lt).cell (i := 0) (v := .slice ov ss.length cv) (by rfl)
    clear hgot hv2 hi2 hb3 r2
    go_wp2_with fail
    refine (specImportedOf_any ss HF.out.fits ov cv s nm _ (HC.out.below X3.out (Nat.le_refl _))).mono ?_
    intro e w4 hgot
    obtain ⟨o3, c3, ys, b', rfl, hv3, ha3, hb4⟩ := hgot.val
    obtain ⟨rfl, rfl⟩ := hv3.same V1.out
    have A3 := Lib.hid ha3
    have A1b := Lib.hid (A1a.out.below hb4)
    have I2b := Lib.hid (I2.out.below hb4)
    have X4 := Lib.hid (belowS X3.out hb4)
    have r4 := (RB.out.below X4.out RB.out.lt).cell (i := 0) (v := .slice ov ss.length cv) (by rfl)
    clear hgot hv3 ha3 hb4 r3
    go_wp2_with fail
    refine (specImportedScopes_any ss HF.out.fits ov cv s _ (HC.out.below X4.out (Nat.le_refl _))).mono ?_
    intro e w5 hgot
    obtain ⟨o4, c4, js, f', rfl, hv4, hi4, hb5⟩ := hgot.val
    obtain ⟨rfl, rfl⟩ := hv4.same V2.out
    have I4 := Lib.hid hi4
    have A3c := Lib.hid (A3.out.below hb5)
    have A1c := Lib.hid (A1b.out.below hb5)
    have I2c := Lib.hid (I2b.out.below hb5)
    have X5 := Lib.hid (belowS X4.out hb5)
    have r5 := (RB.out.below X5.out RB.out.lt).cell (i := 0) (v := .slice ov ss.length cv) (by rfl)
    have hxl : ys.length ≤ 1000 := by
      rcases V1.out with ⟨_, rfl, _⟩ | ⟨hok, rfl, _⟩
      · simp
      · have h1 := fromP_length hok.1.1 nm (impP ss s.toNat)
        have h2 := impP_length hok.1.1 s.toNat
        omega
    have hil : js.length ≤ 1000 := by
      rcases V2.out with ⟨_, rfl, _⟩ | ⟨hok, rfl, _⟩
      · simp
      · have h2 := impP_length hok.1 s.toNat
        rw [natInts_length]
        omega
    have hbb : (b' != b') = false := by simp
    have hff : (f' != f') = false := by simp
    have hbb2 : (b' == b') = true := by simp
    have hff2 : (f' == f') = true := by simp
    clear hgot hv4 hi4 hb5 r4
    go_wp2_with fail
    refine (sgPlaces_any ys ys o1 o3 c1 c3 _ (by omega) (by omega) A1c.out A3c.out).mono ?_
    rintro e w6 ⟨t, rfl, ht, hb6⟩
    obtain rfl : t = true := ht.2 rfl
    have X6 := Lib.hid (belowS X5.out hb6)
    have A1d := Lib.hid (A1c.out.below hb6)
    have A3d := Lib.hid (A3c.out.below hb6)
    have I2d := Lib.hid (I2c.out.below hb6)
    have I4d := Lib.hid (I4.out.below hb6)
    have r6 := (RB.out.below X6.out RB.out.lt).cell (i := 0) (v := .slice ov ss.length cv) (by rfl)
    clear ht hb6 r5
    go_wp2_with fail
    refine (sgSame_any js js o2 o4 c2 c4 _ (by omega) (by omega) I2d.out I4d.out).mono ?_
    rintro e w7 ⟨t, rfl, ht, hb7⟩
    obtain rfl : t = true := ht.2 rfl
    have X7 := Lib.hid (belowS X6.out hb7)
    have A1e := Lib.hid (A1d.out.below hb7)
    have A3e := Lib.hid (A3d.out.below hb7)
    have I2e := Lib.hid (I2d.out.below hb7)
    have I4e := Lib.hid (I4d.out.below hb7)
    have r7 := (RB.out.below X7.out RB.out.lt).cell (i := 0) (v := .slice ov ss.length cv) (by rfl)
    clear ht hb7 r6
    cases b'
    · go_wp2_with fail
      refine (sgPlaces_any ys ys o1 o3 c1 c3 _ (by omega) (by omega) A1e.out A3e.out).mono ?_
      rintro e w8 ⟨t, rfl, ht, hb8⟩
      obtain rfl : t = true := ht.2 rfl
      have X8 := Lib.hid (belowS X7.out hb8)
      have I2f := Lib.hid (I2e.out.below hb8)
      have I4f := Lib.hid (I4e.out.below hb8)
      clear ht hb8
      go_wp2_with fail
      refine (sgSame_any js js o2 o4 c2 c4 _ (by omega) (by omega) I2f.out I4f.out).mono ?_
      rintro e w9 ⟨t, rfl, ht, hb9⟩
      obtain rfl : t = true := ht.2 rfl
      have X9 := Lib.hid (belowS HA.out (belowS X8.out hb9))
      clear ht hb9
      go_wp2
      go_ret
      exact ⟨rfl, X9.out⟩
    · have HOK : Hid (ownOk ss s nm ∧ ys = fromP ss (impP ss s.toNat) nm) := Lib.hid (by
        rcases V1.out with ⟨_, _, h2⟩ | ⟨hok, hy, _⟩
        · cases h2
        · exact ⟨hok, hy⟩)
      obtain rfl : js = natInts (impP ss s.toNat) := by
        rcases V2.out with ⟨h1, _⟩ | ⟨_, hy, _⟩
        · exact absurd HOK.out.1.1 h1
        · exact hy
      have HNL : Hid ((natInts (impP ss s.toNat)).length = (impP ss s.toNat).length) := Lib.hid (natInts_length _)
      have HIO := Lib.hid (impP_ok HOK.out.1.1.1 s.toNat)
      have hn5 : (natInts (impP ss s.toNat)).length ≤ 5 := by rw [natInts_length]; exact impP_length HOK.out.1.1.1 _
      have HP0 : Hid (ImpAt w7 (w7.alloc (.cells #[] 43)) (.slice (some ⟨w7.heap.size, 0, none⟩) 0 0) []) := Lib.hid
        ⟨World.ownsRow_made (base := w7.heap.size) (e := 43) (size := 2) w7 #[] 0 (by simp) (by unfold maxLen; omega) rfl, (Below.refl _ _).alloc (Nat.le_refl _) _⟩
      clear hbb hbb2 hff hff2
      go_wp2
      go_loopw [14, 107] (fun v i wr => ∃ k : Nat, i = .int .i64 k ∧ k ≤ (natInts (impP ss s.toNat)).length ∧ Hid (ImpAt w7 wr v (fromP ss ((impP ss s.toNat).take k) nm))) (fun _ i _ => (natInts (impP ss s.toNat)).length - (intOf i).toNat)
      case atStart => exact ⟨0, rfl, Nat.zero_le _, HP0⟩
      case round =>
        obtain ⟨k, rfl, hk, hP⟩ := hrel
        by_cases hlt : k < (natInts (impP ss s.toNat)).length
        · obtain ⟨m, hm⟩ : ∃ m, (impP ss s.toNat)[k]? = some m := ⟨_, List.getElem?_eq_getElem (by have := HNL.out; omega)⟩
          have hmI : (natInts (impP ss s.toNat))[k]? = some (m : Int) := by unfold natInts; rw [List.getElem?_map, hm]; rfl
          obtain ⟨b1, f1, rfl, hb1, q1⟩ := (I2e.out.below hP.out.below).at (by omega)
          have e0 := q1 k _ hmI
          have HMM := Lib.hid hm
          have X8 := Lib.hid (belowS X7.out hP.out.below)
          have r8 := (RB.out.below X8.out RB.out.lt).cell (i := 0) (v := .slice ov ss.length cv) (by rfl)
          have HOM : Hid (ownOk ss (m : Int) nm) := Lib.hid ⟨⟨HOK.out.1.1.1, by omega, by have := HIO.out.1 m (List.mem_of_getElem? hm); omega⟩, HOK.out.1.2⟩
          have HTK : Hid (fromP ss ((impP ss s.toNat).take (k + 1)) nm = fromP ss ((impP ss s.toNat).take k) nm ++ ownP ss m nm) := Lib.hid (by rw [List.take_add_one, hm]; exact fromP_snoc _ _ _ _)
          have hfl : (fromP ss ((impP ss s.toNat).take k) nm).length ≤ 30 := by
            have h1 := fromP_length HOK.out.1.1.1 nm ((impP ss s.toNat).take k)
            rw [List.length_take] at h1
            have h2 := HNL.out
            omega
          have hol := ownP_length HOK.out.1.1.1 m nm
          clear hm hmI hb1 q1
          go_wp2_with fail
          refine (implOwn_any ss HF.out ov cv (m : Int) nm _ (HC.out.below X8.out (Nat.le_refl _)) ((HE.out.at HA.out).at X8.out)).mono ?_
          rintro e w9 (⟨h1, -⟩ | ⟨-, u, rfl, hu, hb9⟩)
          · exact absurd HOM.out h1
          rw [Int.toNat_natCast] at hu
          have HP9 := Lib.hid (hP.out.step hb9)
          obtain ⟨v', w10, hrun, hown', hgrow⟩ := append_places HP9.out.row hu (by omega) HP9.out.below.size 34
          have HP10 : Hid (ImpAt w7 w10 v' (fromP ss ((impP ss s.toNat).take (k + 1)) nm)) := Lib.hid ⟨by rw [HTK.out, List.length_append, placeCells_append]; exact hown',
            HP9.out.below.trans (grown_below HP9.out.row hgrow (Nat.le_refl _) HP9.out.below.size)⟩
          have HRUN := Lib.hid hrun
          have X10 := Lib.hid (belowS X7.out HP10.out.below)
          have r10 := (RB.out.below X10.out RB.out.lt).cell (i := 0) (v := .slice ov ss.length cv) (by rfl)
          clear hown' hgrow hu hb9 hrun r8 e0
          go_wp2_with (at_builtin; refine wpList_append_run rfl _ _ 34 rfl HRUN.out ?_)
          go_wp2_with fail
          refine (implModule_any ss HF.out ov cv (m : Int) _ (HC.out.below X10.out (Nat.le_refl _)) ((HE.out.at HA.out).at X10.out).nodes).mono ?_
          rintro e w11 ⟨a, b, ok, rfl, hmr, hb11⟩
          have hmr' : modR ss (m : Int) a b ok := by
            rcases hmr with ⟨h1, _⟩ | ⟨_, h2⟩
            · exact absurd HOM.out.1 h1
            · exact h2
          obtain rfl : ok = true := imp_module HOK.out.1.1.1 (List.mem_of_getElem? HMM.out) hmr'
          have HP11 := Lib.hid (HP10.out.step (hb11.alloc hb11.size (.cells #[.int .i64 a, .int .i64 b] 43)))
          have hkc : ¬ (c2 : Int) < (k : Int) := by omega
          clear hmr hmr' hb11 r10
          go_wp2
          go_loopw [134] (fun i wr2 => ∃ j : Nat, i = .int .i64 j ∧ j ≤ k ∧ Hid (ImpAt w7 wr2 v' (fromP ss ((impP ss s.toNat).take (k + 1)) nm))) (fun i _ => k - (intOf i).toNat)
          case atStart => exact ⟨0, rfl, Nat.zero_le _, HP11⟩
          case round =>
            obtain ⟨j, rfl, hj, hP2⟩ := hrel
            by_cases hlt2 : j < k
            · obtain ⟨m2, hm2⟩ : ∃ m, (impP ss s.toNat)[j]? = some m := ⟨_, List.getElem?_eq_getElem (by have := HNL.out; omega)⟩
              have hm2I : (natInts (impP ss s.toNat))[j]? = some (m2 : Int) := by unfold natInts; rw [List.getElem?_map, hm2]; rfl
              obtain ⟨b2, f2, he2, hb2, q2⟩ := (I2e.out.below hP2.out.below).at (by omega)
              cases he2
              have e1 := q2 j _ hm2I
              have hne : ((m : Int) == (m2 : Int)) = false := by
                have := nodup_at HIO.out.2 HMM.out hm2 (by omega)
                simpa using fun h => this (by omega)
              clear hm2 hm2I hb2 q2
              go_wp2
              go_roundw
              case rel => exact ⟨j + 1, by go_num, by omega, hP2⟩
              case measure => simp only [intOf]; omega
            · obtain rfl : j = k := by omega
              go_wp2
              go_roundw
              case rel => exact ⟨j + 1, by go_num, by omega, hP2⟩
              case measure => simp only [intOf]; omega
        · obtain rfl : k = (natInts (impP ss s.toNat)).length := by omega
          have HALL : Hid (fromP ss ((impP ss s.toNat).take (natInts (impP ss s.toNat)).length) nm = fromP ss (impP ss s.toNat) nm) := Lib.hid (by rw [HNL.out, List.take_length])
          have hrow := hP.out.row
          rw [HALL.out, ← HOK.out.2] at hrow
          obtain ⟨oA, cA, rfl, hpA⟩ := argPlaces_of_owns hrow
          have HPA := Lib.hid hpA
          have X8 := Lib.hid (belowS X7.out hP.out.below)
          have A1f := Lib.hid (A1e.out.below hP.out.below)
          clear hrow hpA hP
          go_wp2
          go_loopw [145] (fun i wr3 => ∃ j : Nat, i = .int .i64 j ∧ j ≤ ys.length ∧ Hid (Below wr.heap.size wr wr3)) (fun i _ => ys.length - (intOf i).toNat)
          case atStart => exact ⟨0, rfl, Nat.zero_le _, Lib.hid (Below.refl _ _)⟩
          case round =>
            obtain ⟨j, rfl, hj, HW⟩ := hrel
            by_cases hlt2 : j < ys.length
            · obtain ⟨p, hp⟩ : ∃ p, ys[j]? = some p := ⟨_, List.getElem?_eq_getElem hlt2⟩
              obtain ⟨b2, f2, rfl, hb2, q2⟩ := (HPA.out.below HW.out).at (by omega)
              obtain ⟨p0, p1⟩ := q2 j p hp
              have hmem : p ∈ fromP ss (impP ss s.toNat) nm := by rw [← HOK.out.2]; exact List.mem_of_getElem? hp
              obtain ⟨x, hx, hk1, hnm⟩ := from_item hmem
              obtain ⟨i', j', c, y, rfl, hc, hy⟩ := from_isPlace p hmem
              have hwa : (Lit.int .i64 (i' : Int)).wf = true := wf_small (by have h1 := (List.getElem?_eq_some_iff.1 hc).1; have h2 := HOK.out.1.1.1.count.2; omega)
              have hwb : (Lit.int .i64 (j' : Int)).wf = true := wf_small (by have h1 := (List.getElem?_eq_some_iff.1 hy).1; have h2 := HOK.out.1.1.1.five c (List.mem_of_getElem? hc); omega)
              have HIT := Lib.hid hx
              have hbP := (Below.refl wr.heap.size wr).alloc (Nat.le_refl _) (.cells #[.int .i64 (i' : Int), .int .i64 (j' : Int)] 43)
              have HWP := Lib.hid (belowS HW.out hbP)
              have RP := Lib.hid (Row.new wr [.int .i64 (i' : Int), .int .i64 (j' : Int)] 43)
              have X9 := Lib.hid (belowS X8.out HWP.out)
              have r9 := (RB.out.below X9.out RB.out.lt).cell (i := 0) (v := .slice ov ss.length cv) (by rfl)
              have c0 := RP.out.cell (i := 0) (v := .int .i64 (i' : Int)) (by rfl)
              have c1 := RP.out.cell (i := 1) (v := .int .i64 (j' : Int)) (by rfl)
              have C3 := Lib.hid (implItemAt_any ss HF.out ov cv (i' : Int) (j' : Int) hwa hwb _ (HC.out.below X9.out (Nat.le_refl _)) ((HE.out.at HA.out).at X9.out).nodes.trees)
              clear hp hmem hx hc hy hwa hwb hbP q2 hb2
              dsimp only at p0 p1
              go_wp2_with fail
              refine C3.out.mono ?_
              rintro e w12 ⟨x', ok, rfl, hcase, hb12⟩
              rcases hcase with ⟨_, hx', rfl⟩ | ⟨hno, _⟩
              · rw [HIT.out] at hx'
                obtain rfl := Option.some.inj hx'
                have hkk : (x.kind != 1) = false := by simpa using hk1
                have hnn : (x.name.toList != nm.toList) = false := by simp [bne, hnm]
                have hbX := hb12.alloc hb12.size (.cells #[.int .i64 x.kind, .string x.name, .int .i64 x.scope] 57)
                have HW12 := Lib.hid (belowS HWP.out hbX)
                have RX := Row.new w12 [.int .i64 x.kind, .string x.name, .int .i64 x.scope] 57
                have x0 := RX.cell (i := 0) (by rfl)
                have x1 := RX.cell (i := 1) (by rfl)
                have x2 := RX.cell (i := 2) (by rfl)
                clear hb12 hbX RX hx' r9 c0 c1 hk1
                unfold itV
                go_wp2
                go_roundw
                case rel => exact ⟨j + 1, by go_num, by omega, HW12⟩
                case measure => simp only [intOf]; omega
              · exact absurd ⟨HOK.out.1.1.1, by rw [HIT.out]; rfl⟩ hno
            · obtain rfl : j = ys.length := by omega
              have XE := Lib.hid (belowS X8.out HW.out)
              go_wp2_with fail
              refine (sgPlaces_any ys ys oA o1 cA c1 _ (by omega) (by omega) (HPA.out.below HW.out) (A1f.out.below HW.out)).mono ?_
              rintro e w13 ⟨t, rfl, ht, hb13⟩
              obtain rfl : t = true := ht.2 rfl
              have XF := Lib.hid (belowS HA.out (belowS XE.out hb13))
              clear ht hb13
              go_wp2
              go_ret
              exact ⟨rfl, XF.out⟩
end Go.Proofs.YtoijapbffhkbbaaDoor
