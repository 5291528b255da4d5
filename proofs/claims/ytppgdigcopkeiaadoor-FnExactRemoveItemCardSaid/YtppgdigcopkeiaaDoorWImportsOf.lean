/-
  The walk of impl's (*lookup).importsOf, where the targets of the scope's items are told.
-/
import Derived.Test.YtppgdigcopkeiaaDoorLookW
import Derived.Test.YtppgdigcopkeiaaDoorWModule
namespace Go.Proofs.YtppgdigcopkeiaaDoor
open Go Go.RowKit Go.Maps
attribute [local go_sem ↓] field_kind field_name field_scope
/-- What target answers at the items of a scope. -/
def TargetC (B L M T M1 M2 : Nat) (v : Value) (ds : List Nd) (ss : List Sc) (s : Nat) : Prop :=
  ∀ (j : Nat), IsItem ss (s, j) → ∀ W : World, LookW W B L M T M1 M2 v ds ss →
    Calls Tryd.prog 121 #[.pointer (some ⟨L, 0, none⟩), .agg #[.int .i64 (s : Int), .int .i64 (j : Int)]] W fun e w' => e = .returned (.int .i64 (tgt ss (s, j))) ∧ Left W w' B L M T M1 M2 v ds ss
/-- What a call leaves beside the lookup: a list of numbers of its own. -/
def NumsLeft (l : List Nat) (w : World) (B L M T M1 M2 : Nat) (v : Value) (ds : List Nd) (ss : List Sc) (e : Ending) (w' : World) : Prop :=
  ∃ u, e = .returned u ∧ w'.ownsRow w.heap.size 3 1 u l.length (numVals l) ∧ Left w w' B L M T M1 M2 v ds ss
theorem Memo.same {w w' : World} {M : Nat} {ss : List Sc} (h : Memo w M ss) (hb : w'.heap[M]? = w.heap[M]?) : Memo w' M ss := by
  obtain ⟨l, h1, h2, es, clock, hh, r⟩ := h
  exact ⟨l, h1, h2, es, clock, hb.trans hh, r⟩
/-- What turns blocks of the call's own alone. -/
theorem Left.far {w W W' : World} {B L M T M1 M2 : Nat} {v : Value} {ds : List Nd} {ss : List Sc} (hL : LookW w B L M T M1 M2 v ds ss) (h : Left w W B L M T M1 M2 v ds ss) (hb : Below w.heap.size W W') : Left w W' B L M T M1 M2 v ds ss :=
  have ht : Turns w W' M M := ⟨hb.os.trans h.turns.os, hb.tape.trans h.turns.tape, hb.output.trans h.turns.output, Nat.le_trans h.turns.size hb.size, fun g hg h1 h2 => (hb.block g hg).trans (h.turns.rest g hg h1 h2)⟩
  ⟨hL.turned ht (h.look.memo.same (hb.block M hL.memo.lt)), ht⟩
theorem ownsRow_left {W W' : World} {base n size B L M T M1 M2 : Nat} {v : Value} {ds : List Nd} {ss : List Sc} {e : TypeId} {u : Value} {xs : List Value} (h : W.ownsRow base e size u n xs) (hL : LookW W B L M T M1 M2 v ds ss) (ht : Left W W' B L M T M1 M2 v ds ss) : W'.ownsRow base e size u n xs := ownsRow_turned h ht.turns hL.memo
set_option maxRecDepth 100000 in
set_option maxHeartbeats 4000000 in
theorem importsOf_any {ss : List Sc} (hv : Valid ss) {w : World} {B L M T M1 M2 : Nat} {v : Value} {ds : List Nd} (hL : LookW w B L M T M1 M2 v ds ss) {s : Nat} {d : Nd} (hd : ds[s]? = some d) (hT : TargetC B L M T M1 M2 v ds ss s) :
    Calls Tryd.prog 180 #[.pointer (some ⟨L, 0, none⟩), .pointer (some ⟨d.blk, 0, none⟩)] w (NumsLeft (impP ss s) w B L M T M1 M2 v ds ss) := by
  have hs : s < ss.length := by have := (List.getElem?_eq_some_iff.1 hd).1; have := hL.tree.hold.len; omega
  obtain ⟨c, hsc⟩ : ∃ c, ss[s]? = some c := ⟨_, List.getElem?_eq_getElem hs⟩
  have hil := hv.five c (List.mem_of_getElem? hsc)
  obtain ⟨oi, ci, hdi, hci⟩ := hL.tree.hold.items s d c hd hsc
  have nk := hL.tree.tree.node s d hd
  have n2 := nk.2.cell (i := 2) (v := d.items) (by rfl)
  rw [hdi] at n2
  have HIE : Hid (impP ss s = impUp ss (impP ss) s c.items c.items.length) := Lib.hid (by rw [impP_eq hv.climbs]; unfold impF; rw [itemsP_of hsc])
  have HV := Lib.hid hv
  have HL0 := Lib.hid hL
  have HT := Lib.hid hT
  have HD := Lib.hid hd
  have HSC := Lib.hid hsc
  have HCI := Lib.hid hci
  clear hv hL hT hd hsc hci nk hdi
  go_enter Tryd.func180, Tryd.ntmps180
  go_wp2
  go_loopw [5, 14] (fun u i wr => ∃ k : Nat, i = .int .i64 k ∧ k ≤ c.items.length ∧ Hid (wr.ownsRow w.heap.size 3 1 u (impUp ss (impP ss) s c.items k).length (numVals (impUp ss (impP ss) s c.items k)) ∧ Left w wr B L M T M1 M2 v ds ss)) (fun _ i _ => c.items.length - (intOf i).toNat)
  case atStart => exact ⟨0, rfl, Nat.zero_le _, Lib.hid ⟨World.ownsRow_nil _ _ _ _, HL0.out.left⟩⟩
  case round =>
    obtain ⟨k, rfl, hk, hP⟩ := hrel
    by_cases hlt : k < c.items.length
    · obtain ⟨x, hx⟩ : ∃ x, c.items[k]? = some x := ⟨_, List.getElem?_eq_getElem hlt⟩
      obtain ⟨b2, o2, rfl, hb2, hcell2⟩ := HCI.out.at (by omega)
      obtain ⟨x0, x1, x2⟩ := hcell2 k x hx
      have HCK := Lib.hid (hP.out.2.turns.cellsM HL0.out.memo)
      have y0 := HCK.out.cell hb2 x0
      have y1 := HCK.out.cell hb2 x1
      have y2 := HCK.out.cell hb2 x2
      have hbi := (Below.refl wr.heap.size wr).alloc (Nat.le_refl _) (.cells #[.int .i64 x.kind, .string x.name, .int .i64 x.scope] 60)
      have HLI := Lib.hid (hP.out.2.step hbi)
      have HUI := Lib.hid (ownsRow_below hP.out.1 hbi)
      have m0 := ((HLI.out.look.tree.tree.node s d HD.out).2.cell (i := 0) (v := .int .i64 (s : Int)) (by rfl))
      have hul := impUp_length (ss := ss) s c.items k
      have HST := Lib.hid (impUp_snoc (ss := ss) (imps := impP ss) (s := s) hx)
      have HQI : Hid (IsItem ss (s, k)) := Lib.hid ⟨c, x, HSC.out, hx⟩
      have HTG := Lib.hid (tgt_of HSC.out hx)
      clear hx hcell2 x0 x1 x2 hbi
      by_cases hkd : x.kind = 3
      · have hq : (x.kind == 3) = true := by simpa using hkd
        have HKD := Lib.hid hkd
        have C := Lib.hid (HT.out k HQI.out _ HLI.out.look)
        clear hkd
        go_wp2_with fail
        refine C.out.mono ?_
        rintro e w3 ⟨rfl, hl3⟩
        have HU3 := Lib.hid (ownsRow_left HUI.out HLI.out.look hl3)
        have HL3 := Lib.hid (HLI.out.trans hl3)
        obtain ⟨ou, cu, rfl, hh3⟩ := holdsInts_of_owns HU3.out
        have HH3 := Lib.hid hh3
        have HNL : Hid ((natInts (impUp ss (impP ss) s c.items k)).length < 2 ^ 40) := Lib.hid (by rw [natInts_length]; omega)
        clear hl3 hh3 m0 y0 y1 y2
        rw [HTG.out]
        rcases target_ok HV.out s x.name with ht | ⟨m, ht, hm⟩
        · have HE : Hid (impUp ss (impP ss) s c.items (k + 1) = impUp ss (impP ss) s c.items k) := Lib.hid (by rw [HST.out, impStep_none ht])
          rw [ht]
          go_wp2
          go_roundw
          case rel => exact ⟨k + 1, by go_num, by omega, Lib.hid (by rw [HE.out]; exact ⟨HU3.out, HL3.out⟩)⟩
          case measure => simp only [intOf]; omega
        · rw [ht]
          go_wp2_with fail
          refine (contains_any (natInts (impUp ss (impP ss) s c.items k)) ou cu (m : Int) _ HNL.out HH3.out).mono ?_
          rintro e w5 ⟨rfl, hb5⟩
          have HL5 := Lib.hid (HL3.out.step hb5)
          have HU5 := Lib.hid (ownsRow_below HU3.out hb5)
          obtain ⟨q, hq2⟩ : ∃ q, decide ((m : Int) ∈ natInts (impUp ss (impP ss) s c.items k)) = q := ⟨_, rfl⟩
          rw [hq2]
          have HQ := Lib.hid hq2
          clear hb5 hq2
          cases q
          · have HNI : Hid (m ∉ impUp ss (impP ss) s c.items k) := Lib.hid (fun h => by have := HQ.out; simp [mem_natInts.2 h] at this)
            have HE : Hid (impUp ss (impP ss) s c.items (k + 1) = impUp ss (impP ss) s c.items k ++ [m]) := Lib.hid (by rw [HST.out, impStep_new HKD.out ht HNI.out])
            obtain ⟨i0, hi0, hz0, hz1, hz2⟩ := info_parts infoInt
            have hbs5 := HL5.out.turns.size
            go_wp2_with (at_builtin; refine wpList_append_own _ rfl _ _ 56 rfl w.heap.size 3 i0 (.int .i64 0) 1 8 Tryd.underlying56 hi0 hz0 hz1 hz2 rfl (by decide) _ _ _ rfl (HU5.out.alloc _) ⟨w5.heap.size, 0, none⟩ 1 1 [.int .i64 (m : Int)] rfl rfl ?c1 ?c2 ?c3 ?c4 ?c5 ?_)
            case c1 => exact cells_new _ _ _
            case c2 => intro u hu; simp only [List.mem_singleton] at hu; subst hu; rfl
            case c3 => unfold maxLen; omega
            case c4 => omega
            case c5 => simp only [World.size_alloc]; omega
            intro v' w6 hown' hgrow _
            have HL6 := Lib.hid (Left.far HL0.out HL5.out (below_append2 HU5.out hgrow (Nat.le_refl w.heap.size) hbs5))
            have HU6 := Lib.hid hown'
            clear hown' hgrow
            go_wp2
            go_roundw
            case rel => exact ⟨k + 1, by go_num, by omega, Lib.hid (by rw [HE.out, List.length_append, numVals_snoc]; exact ⟨HU6.out, HL6.out⟩)⟩
            case measure => simp only [intOf]; omega
          · have HNI : Hid (m ∈ impUp ss (impP ss) s c.items k) := Lib.hid (mem_natInts.1 (by have := HQ.out; simpa using this))
            have HE : Hid (impUp ss (impP ss) s c.items (k + 1) = impUp ss (impP ss) s c.items k) := Lib.hid (by rw [HST.out, impStep_in ht HNI.out])
            go_wp2
            go_roundw
            case rel => exact ⟨k + 1, by go_num, by omega, Lib.hid (by rw [HE.out]; exact ⟨HU5.out, HL5.out⟩)⟩
            case measure => simp only [intOf]; omega
      · have hq : (x.kind == 3) = false := by simpa using hkd
        have HE : Hid (impUp ss (impP ss) s c.items (k + 1) = impUp ss (impP ss) s c.items k) := Lib.hid (by rw [HST.out, impStep_other hkd])
        clear hkd
        go_wp2
        go_roundw
        case rel => exact ⟨k + 1, by go_num, by omega, Lib.hid (by rw [HE.out]; exact ⟨HUI.out, HLI.out⟩)⟩
        case measure => simp only [intOf]; omega
    · obtain rfl : k = c.items.length := by omega
      go_wp2
      go_ret
      exact ⟨_, rfl, by rw [HIE.out]; exact hP.out.1, hP.out.2⟩
end Go.Proofs.YtppgdigcopkeiaaDoor
