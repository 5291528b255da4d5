/-
  The walk of impl's (*nameable).conflictsOf: the set of the declarations with which one cannot share a name. Conditions: the nameable lies in memory; the package-level errors hold errors. Which declarations the set of conflicts of one has. Plain facts. The walks of ConflictsOf, impl's and the given one. Conditions: the argument's memory holds the graph; the package-level errors hold errors. The walk of the given ConflictsOf. Condition: the argument's memory holds the graph.
-/
import Derived.Test.YtjogfagjcpcihaaGreatDoorJQZ
import Derived.Test.YtjogfagjcpcihaaGreatDoorPSetZ
import Derived.Test.YtjogfagjcpcihaaGreatDoorJEZ
import Derived.Test.YtjogfagjcpcihaaGreatDoorWSpecItemsZ
namespace Go.Proofs.YtjogfagjcpcihaaGreatDoor
open Go Go.RowKit Go.Maps
/-- The declarations among the first k with which one cannot share a name. -/
def cfUp (ss : List Sc) (i : Nat) : Nat → List (Int × Int)
  | 0 => []
  | k + 1 => cfUp ss i k ++ match (dclP ss)[k]? with
    | some p => if i ≠ k ∧ ¬ goodN ss (pairL (dclP ss).length i k) then [p] else []
    | none => []
def cfS (ss : List Sc) (i q : Nat) : Bool := inPl (cfUp ss i (dclP ss).length) q
theorem cfUp_snoc {ss : List Sc} {i k : Nat} {p : Int × Int} (h : (dclP ss)[k]? = some p) : cfUp ss i (k + 1) = cfUp ss i k ++ if i ≠ k ∧ ¬ goodN ss (pairL (dclP ss).length i k) then [p] else [] := by
  show cfUp ss i k ++ _ = _
  rw [h]
theorem dcl_smallP {ss : List Sc} (hv : Valid ss) : SmallPls (dclP ss) := by
  intro p hp
  unfold dclP plsP plsOf at hp
  obtain ⟨q, hq, rfl⟩ := List.mem_map.1 hp
  obtain ⟨s, h1, h2⟩ := placed_at (List.mem_filter.1 hq).1
  have a1 := (List.getElem?_eq_some_iff.1 h1).1
  have a2 := (List.getElem?_eq_some_iff.1 h2).1
  have a3 := hv.count.2
  have a4 := hv.five s (List.mem_of_getElem? h1)
  exact ⟨q.1, q.2.1, rfl, by omega, by omega⟩
theorem inPl_app (l r : List (Int × Int)) (q : Nat) : inPl (l ++ r) q = (inPl l q || inPl r q) := by
  unfold inPl
  rw [List.any_append]
set_option maxRecDepth 100000 in
set_option maxHeartbeats 8000000 in
theorem conflictsOf_any (ss : List Sc) (hF : Fair ss) (oa od : Option Addr) (cap cd N : Nat) (i : Nat) (hi : i < (dclP ss).length) (h25 : (dclP ss).length ≤ 25) (w : World) (hN : NbIs w N ss oa cap od cd) (hE : NmgErrs w) :
    Calls Tryz.prog 73 #[.pointer (some ⟨N, 0, none⟩), .int .i64 (i : Int)] w fun e w' => e = .returned (.agg (psetL (cfS ss i)).toArray) ∧ Below w.heap.size w w' := by
  have hb0 := ((Below.refl w.heap.size w).alloc (Nat.le_refl _) (.cells #[.bool false, .bool false, .bool false, .bool false, .bool false, .bool false, .bool false, .bool false, .bool false, .bool false, .bool false, .bool false, .bool false, .bool false, .bool false, .bool false, .bool false, .bool false, .bool false, .bool false, .bool false, .bool false, .bool false, .bool false, .bool false, .bool false, .bool false, .bool false, .bool false, .bool false] 140)).alloc (by simp) (.cells #[.bool false, .bool false, .bool false, .bool false, .bool false, .bool false, .bool false, .bool false, .bool false, .bool false, .bool false, .bool false, .bool false, .bool false, .bool false, .bool false, .bool false, .bool false, .bool false, .bool false, .bool false, .bool false, .bool false, .bool false, .bool false, .bool false, .bool false, .bool false, .bool false, .bool false] 140)
  have d0 := (hN.below hb0).box.cell nbL_dcl
  have R1 := Lib.hid ((Row.new w [.bool false, .bool false, .bool false, .bool false, .bool false, .bool false, .bool false, .bool false, .bool false, .bool false, .bool false, .bool false, .bool false, .bool false, .bool false, .bool false, .bool false, .bool false, .bool false, .bool false, .bool false, .bool false, .bool false, .bool false, .bool false, .bool false, .bool false, .bool false, .bool false, .bool false] 140).alloc (.cells #[.bool false, .bool false, .bool false, .bool false, .bool false, .bool false, .bool false, .bool false, .bool false, .bool false, .bool false, .bool false, .bool false, .bool false, .bool false, .bool false, .bool false, .bool false, .bool false, .bool false, .bool false, .bool false, .bool false, .bool false, .bool false, .bool false, .bool false, .bool false, .bool false, .bool false] 140))
  have hR2 := Row.new (w.alloc (.cells #[.bool false, .bool false, .bool false, .bool false, .bool false, .bool false, .bool false, .bool false, .bool false, .bool false, .bool false, .bool false, .bool false, .bool false, .bool false, .bool false, .bool false, .bool false, .bool false, .bool false, .bool false, .bool false, .bool false, .bool false, .bool false, .bool false, .bool false, .bool false, .bool false, .bool false] 140)) [.bool false, .bool false, .bool false, .bool false, .bool false, .bool false, .bool false, .bool false, .bool false, .bool false, .bool false, .bool false, .bool false, .bool false, .bool false, .bool false, .bool false, .bool false, .bool false, .bool false, .bool false, .bool false, .bool false, .bool false, .bool false, .bool false, .bool false, .bool false, .bool false, .bool false] 140
  rw [World.size_alloc] at hR2
  have R2 : Hid (Row ((w.alloc (.cells #[.bool false, .bool false, .bool false, .bool false, .bool false, .bool false, .bool false, .bool false, .bool false, .bool false, .bool false, .bool false, .bool false, .bool false, .bool false, .bool false, .bool false, .bool false, .bool false, .bool false, .bool false, .bool false, .bool false, .bool false, .bool false, .bool false, .bool false, .bool false, .bool false, .bool false] 140)).alloc (.cells #[.bool false, .bool false, .bool false, .bool false, .bool false, .bool false, .bool false, .bool false, .bool false, .bool false, .bool false, .bool false, .bool false, .bool false, .bool false, .bool false, .bool false, .bool false, .bool false, .bool false, .bool false, .bool false, .bool false, .bool false, .bool false, .bool false, .bool false, .bool false, .bool false, .bool false] 140)) (w.heap.size + 1) 140 (psetL fun q => inPl (cfUp ss i 0) q)) := Lib.hid (by
    rw [show (psetL fun q => inPl (cfUp ss i 0) q) = [.bool false, .bool false, .bool false, .bool false, .bool false, .bool false, .bool false, .bool false, .bool false, .bool false, .bool false, .bool false, .bool false, .bool false, .bool false, .bool false, .bool false, .bool false, .bool false, .bool false, .bool false, .bool false, .bool false, .bool false, .bool false, .bool false, .bool false, .bool false, .bool false, .bool false] from by kernel_rfl]
    exact hR2)
  have HB0 := Lib.hid hb0
  have HN := Lib.hid hN
  have HF := Lib.hid hF
  have HE := Lib.hid hE
  have HSP := Lib.hid (dcl_smallP hN.ok.1)
  have H25 := Lib.hid h25
  clear hb0 hR2 hN hF hE
  go_enter Tryz.func73, Tryz.ntmps73
  go_wp2
  go_loopw [13] (fun v wr => ∃ k : Nat, v = .int .i64 k ∧ k ≤ (dclP ss).length ∧ Hid (Below w.heap.size w wr ∧ Row wr (w.heap.size + 1) 140 (psetL fun q => inPl (cfUp ss i k) q) ∧ Row wr w.heap.size 140 [.bool false, .bool false, .bool false, .bool false, .bool false, .bool false, .bool false, .bool false, .bool false, .bool false, .bool false, .bool false, .bool false, .bool false, .bool false, .bool false, .bool false, .bool false, .bool false, .bool false, .bool false, .bool false, .bool false, .bool false, .bool false, .bool false, .bool false, .bool false, .bool false, .bool false])) (fun v _ => (dclP ss).length - (intOf v).toNat)
  case atStart => exact ⟨0, rfl, Nat.zero_le _, Lib.hid ⟨HB0.out, R2.out, R1.out⟩⟩
  case round =>
    obtain ⟨k, rfl, hk, hP⟩ := hrel
    by_cases hlt : k < (dclP ss).length
    · obtain ⟨⟨a, b⟩, hp⟩ : ∃ p, (dclP ss)[k]? = some p := ⟨_, List.getElem?_eq_getElem hlt⟩
      have HPK := Lib.hid hp
      have HNR := Lib.hid (HN.out.below hP.out.1)
      obtain ⟨b1, f1, rfl, hb1, q1⟩ := HNR.out.dcls.at (by omega)
      obtain ⟨c0, c1⟩ := q1 k _ hp
      have hba := (Below.refl wr.heap.size wr).alloc (Nat.le_refl _) (.cells #[.int .i64 a, .int .i64 b] 26)
      have HBA := Lib.hid hba
      have HNA := Lib.hid (HNR.out.below hba)
      have RP := Lib.hid (Row.new wr [.int .i64 a, .int .i64 b] 26)
      have hck := cfUp_snoc (i := i) hp
      have HCK := Lib.hid hck
      have HSL : Hid (w.heap.size ≤ wr.heap.size) := Lib.hid hP.out.1.size
      clear hba q1 hp hck hb1
      by_cases hik : i = k
      · have e1 : ((i : Int) == (k : Int)) = true := by simp [hik]
        have e1' : ((i : Int) != (k : Int)) = false := by simp [hik]
        have HX : Hid (Below w.heap.size w (wr.alloc (.cells #[.int .i64 a, .int .i64 b] 26)) ∧ Row (wr.alloc (.cells #[.int .i64 a, .int .i64 b] 26)) (w.heap.size + 1) 140 (psetL fun q => inPl (cfUp ss i (k + 1)) q) ∧ Row (wr.alloc (.cells #[.int .i64 a, .int .i64 b] 26)) w.heap.size 140 [.bool false, .bool false, .bool false, .bool false, .bool false, .bool false, .bool false, .bool false, .bool false, .bool false, .bool false, .bool false, .bool false, .bool false, .bool false, .bool false, .bool false, .bool false, .bool false, .bool false, .bool false, .bool false, .bool false, .bool false, .bool false, .bool false, .bool false, .bool false, .bool false, .bool false]) := Lib.hid (by
          rw [HCK.out, if_neg (fun h => h.1 hik), List.append_nil]
          exact ⟨hP.out.1.trans (HBA.out.mono HSL.out), hP.out.2.1.alloc _, hP.out.2.2.alloc _⟩)
        clear hik
        go_wp2
        go_roundw
        case rel => exact ⟨k + 1, by go_num, by omega, HX⟩
        case measure => simp only [intOf]; omega
      · have e1 : ((i : Int) == (k : Int)) = false := by rw [beq_eq_false_iff_ne]; omega
        have e1' : ((i : Int) != (k : Int)) = true := by rw [bne_iff_ne]; omega
        have HIK := Lib.hid hik
        have C3 := Lib.hid (canShare_any ss HF.out oa (some ⟨b1, f1, none⟩) cap cd N i k hi hlt hik H25.out _ HNA.out (HE.out.at (hP.out.1.trans (HBA.out.mono HSL.out))))
        clear hik
        go_wp2_with fail
        refine C3.out.mono ?_
        rintro e w3 ⟨rfl, hb3⟩
        have HB3 := Lib.hid (HBA.out.trans (hb3.mono HBA.out.size))
        have HBW := Lib.hid (hP.out.1.trans (HB3.out.mono HSL.out))
        have RS := Lib.hid (hP.out.2.1.below HB3.out hP.out.2.1.lt)
        have RZ := Lib.hid (hP.out.2.2.below HB3.out hP.out.2.2.lt)
        have RP3 := Lib.hid (RP.out.below hb3 RP.out.lt)
        clear hb3 c0 c1
        by_cases hg : goodN ss (pairL (dclP ss).length i k)
        · have hgd : decide (goodN ss (pairL (dclP ss).length i k)) = true := decide_eq_true hg
          have HX : Hid (Below w.heap.size w w3 ∧ Row w3 (w.heap.size + 1) 140 (psetL fun q => inPl (cfUp ss i (k + 1)) q) ∧ Row w3 w.heap.size 140 [.bool false, .bool false, .bool false, .bool false, .bool false, .bool false, .bool false, .bool false, .bool false, .bool false, .bool false, .bool false, .bool false, .bool false, .bool false, .bool false, .bool false, .bool false, .bool false, .bool false, .bool false, .bool false, .bool false, .bool false, .bool false, .bool false, .bool false, .bool false, .bool false, .bool false]) := Lib.hid (by
            rw [HCK.out, if_neg (fun h => h.2 hg), List.append_nil]
            exact ⟨HBW.out, RS.out, RZ.out⟩)
          rw [hgd]
          clear hg hgd
          go_wp2
          go_roundw
          case rel => exact ⟨k + 1, by go_num, by omega, HX⟩
          case measure => simp only [intOf]; omega
        · have hgd : decide (goodN ss (pairL (dclP ss).length i k)) = false := decide_eq_false hg
          have HG := Lib.hid hg
          rw [hgd]
          have p0 := RP3.out.cell (i := 0) (v := .int .i64 a) (by rfl)
          have p1 := RP3.out.cell (i := 1) (v := .int .i64 b) (by rfl)
          have hbs := (Below.refl w3.heap.size w3).alloc (Nat.le_refl _) (.cells #[.int .i64 a, .int .i64 b] 26)
          have hl3 : w.heap.size + 1 < w3.heap.size := RS.out.lt
          have HARG : Hid (ArgPlaces (w3.alloc (.cells #[.int .i64 a, .int .i64 b] 26)) (some ⟨w3.heap.size, 0, none⟩) [(a, b)]) := Lib.hid (.inr ⟨w3.heap.size, 0, rfl, by simp, fun m p hm => by
            have hm0 : m = 0 := by have := (List.getElem?_eq_some_iff.1 hm).1; simp at this; omega
            subst hm0
            simp at hm
            subst hm
            exact ⟨(Row.new w3 [.int .i64 a, .int .i64 b] 26).cell (i := 0) (v := .int .i64 a) (by rfl), (Row.new w3 [.int .i64 a, .int .i64 b] 26).cell (i := 1) (v := .int .i64 b) (by rfl)⟩⟩)
          have C4 := Lib.hid (padd_any (RS.out.alloc (.cells #[.int .i64 a, .int .i64 b] 26)) (oa := some ⟨w3.heap.size, 0, none⟩) (cap := 1) (l := [(a, b)]) (by simp) (fun p hp => HSP.out p (by rw [List.mem_singleton] at hp; subst hp; exact List.mem_of_getElem? HPK.out)) HARG.out (fun b' off h _ => by cases h; omega))
          have HBS := Lib.hid (HBW.out.trans (hbs.mono HBW.out.size))
          have RZ2 := Lib.hid (RZ.out.alloc (.cells #[.int .i64 a, .int .i64 b] 26))
          clear hg hgd hbs
          go_wp2_with fail
          refine C4.out.mono ?_
          rintro e w5 ⟨rfl, hrow, ht⟩
          have HX : Hid (Below w.heap.size w w5 ∧ Row w5 (w.heap.size + 1) 140 (psetL fun q => inPl (cfUp ss i (k + 1)) q) ∧ Row w5 w.heap.size 140 [.bool false, .bool false, .bool false, .bool false, .bool false, .bool false, .bool false, .bool false, .bool false, .bool false, .bool false, .bool false, .bool false, .bool false, .bool false, .bool false, .bool false, .bool false, .bool false, .bool false, .bool false, .bool false, .bool false, .bool false, .bool false, .bool false, .bool false, .bool false, .bool false, .bool false]) := Lib.hid (by
            refine ⟨HBS.out.trans (ht.below (by omega) (by omega) HBS.out.size), ?_, (ht.rest w.heap.size RZ2.out.lt (by omega) (by omega)).trans RZ2.out⟩
            rw [HCK.out, if_pos ⟨HIK.out, HG.out⟩]
            rw [show (psetL fun q => inPl (cfUp ss i k ++ [(a, b)]) q) = psetL fun q => inPl (cfUp ss i k) q || inPl [(a, b)] q from psetL_congr fun q _ => inPl_app _ _ _]
            exact hrow)
          clear hrow ht
          go_wp2
          go_roundw
          case rel => exact ⟨k + 1, by go_num, by omega, HX⟩
          case measure => simp only [intOf]; omega
    · obtain rfl : k = (dclP ss).length := by omega
      have hs1 := hP.out.2.1
      have hs2 := hP.out.2.2
      unfold Row at hs1 hs2
      have HSX := Lib.hid hs2
      go_wp2_with (first
        | (refine wpList_load_row rfl 140 _ rfl (w.heap.size + 1) rfl 140 _ (0, 0) _ hs1 Tryz.underlying140 rfl (psetL_info _) ?_)
        | (refine wpList_store_row rfl 140 _ _ rfl w.heap.size (psetL (cfS ss i)).toArray rfl rfl 140 _ hs2 (psetL_info _) (by simp [psetL_length]) (psetL_one _) ?_))
      exact bodyPost_ret (v := .agg (psetL (cfS ss i)).toArray) (results_cell_row rfl _ _ w.heap.size 140 _ (0, 0) _ rfl (setRow_heap _ _ _ _ _ _ HSX.out) Tryz.underlying140 rfl (psetL_info _)) rfl ⟨rfl, hP.out.1.trans (below_setRow _ _ _ (Nat.le_refl _))⟩
end Go.Proofs.YtjogfagjcpcihaaGreatDoor
namespace Go.Proofs.YtjogfagjcpcihaaGreatDoor
open Go Go.RowKit Go.Maps
theorem cfUp_mem {ss : List Sc} {i : Nat} {p : Int × Int} : ∀ {n : Nat}, p ∈ cfUp ss i n ↔ ∃ k, k < n ∧ (dclP ss)[k]? = some p ∧ i ≠ k ∧ ¬ goodN ss (pairL (dclP ss).length i k)
  | 0 => by
    constructor
    · intro h; cases h
    · rintro ⟨k, h, -⟩; omega
  | n + 1 => by
    have ih := cfUp_mem (ss := ss) (i := i) (p := p) (n := n)
    show p ∈ cfUp ss i n ++ _ ↔ _
    rw [List.mem_append, ih]
    constructor
    · rintro (⟨k, h1, h2⟩ | h)
      · exact ⟨k, by omega, h2⟩
      · cases hn : (dclP ss)[n]? with
        | none => rw [hn] at h; cases h
        | some q =>
          rw [hn] at h
          dsimp only at h
          split at h
          · rename_i hc
            rw [List.mem_singleton] at h
            subst h
            exact ⟨n, by omega, hn, hc⟩
          · cases h
    · rintro ⟨k, h1, h2, h3⟩
      by_cases hk : k = n
      · subst hk
        refine .inr ?_
        rw [h2]
        dsimp only
        rw [if_pos h3]
        exact List.mem_singleton.2 rfl
      · exact .inl ⟨k, by omega, h2, h3⟩
theorem cf_has {ss : List Sc} (hv : Valid ss) {i k a b : Nat} (hk : (dclP ss)[k]? = some ((a : Int), (b : Int))) : cfS ss i (a * 5 + b) = decide (i ≠ k ∧ ¬ goodN ss (pairL (dclP ss).length i k)) := by
  unfold cfS inPl
  rw [Bool.eq_iff_iff, List.any_eq_true, decide_eq_true_iff]
  have hsp := dcl_smallP hv
  obtain ⟨a', b', e, ha, hb⟩ := hsp _ (List.mem_of_getElem? hk)
  have e1 := (Prod.mk.inj e).1
  have e2 := (Prod.mk.inj e).2
  constructor
  · rintro ⟨p, hp, hn⟩
    obtain ⟨m, -, hm, hc⟩ := cfUp_mem.1 hp
    obtain ⟨c, d, rfl, hc1, hd1⟩ := hsp _ (List.mem_of_getElem? hm)
    rw [beq_iff_eq] at hn
    dsimp only at hn
    have : ((c : Int), (d : Int)) = ((a : Int), (b : Int)) := by rw [Prod.mk.injEq]; omega
    rw [this] at hm
    have h1 := posOf_at (dcl_nodup ss) hm
    have h2 := posOf_at (dcl_nodup ss) hk
    obtain rfl : m = k := by omega
    exact hc
  · intro h
    exact ⟨_, cfUp_mem.2 ⟨k, (List.getElem?_eq_some_iff.1 hk).1, hk, h⟩, by rw [beq_iff_eq]; dsimp only; omega⟩
theorem cfUp_length (ss : List Sc) (i : Nat) : ∀ k : Nat, (cfUp ss i k).length ≤ k
  | 0 => by simp [cfUp]
  | k + 1 => by
    have ih := cfUp_length ss i k
    cases hk : (dclP ss)[k]? with
    | none =>
      have e : cfUp ss i (k + 1) = cfUp ss i k := by
        show cfUp ss i k ++ _ = _
        rw [hk, List.append_nil]
      rw [e]; omega
    | some p =>
      rw [cfUp_snoc hk, List.length_append]
      split
      · rw [List.length_singleton]; omega
      · rw [List.length_nil]; omega
end Go.Proofs.YtjogfagjcpcihaaGreatDoor
namespace Go.Proofs.YtjogfagjcpcihaaGreatDoor
open Go Go.RowKit Go.Maps
/-- Whether conflicts are told, and which. -/
def conflOk (ss : List Sc) (p : Int × Int) : Prop := (Valid ss ∧ Clear ss) ∧ (dclP ss).length ≤ 25 ∧ p ∈ dclP ss
def conflP (ss : List Sc) (p : Int × Int) : List (Int × Int) := cfUp ss (posOf (dclP ss) p).toNat (dclP ss).length
set_option maxRecDepth 100000 in
set_option maxHeartbeats 8000000 in
theorem implConfl_any (ss : List Sc) (hF : Fair ss) (oa : Option Addr) (cap : Nat) (a b : Int) (w : World) (hc : HoldsScopes w oa ss) (hE : FewErrs w) :
    Calls Tryz.prog 29 #[.agg #[.slice oa ss.length cap], .agg #[.int .i64 a, .int .i64 b]] w (PlGot (conflOk ss (a, b)) (conflP ss (a, b)) w) := by
  have hb0 := ((Below.refl w.heap.size w).alloc (Nat.le_refl _) (.cells #[.slice oa ss.length cap] 33)).alloc (by simp) (.cells #[.int .i64 a, .int .i64 b] 26)
  have R1 := (Row.new w [.slice oa ss.length cap] 33).alloc (.cells #[.int .i64 a, .int .i64 b] 26)
  have R2 := Row.new (w.alloc (.cells #[.slice oa ss.length cap] 33)) [.int .i64 a, .int .i64 b] 26
  rw [World.size_alloc] at R2
  have R2 := Lib.hid R2
  have g1 := R1.cell (i := 0) (v := .slice oa ss.length cap) (by rfl)
  have C := Lib.hid (nameableUpTo_any ss hF oa cap 25 _ (hc.below hb0 (Nat.le_refl _)) (hE.at hb0))
  have HB := Lib.hid hb0
  have HF := Lib.hid hF
  have HE := Lib.hid hE
  clear hb0 hF hc hE R1
  go_enter Tryz.func29, Tryz.ntmps29
  go_wp2_with fail
  refine C.out.mono ?_
  rintro e w1 (⟨hn, ⟨tp, p, rfl⟩, hb1⟩ | ⟨hle, N, od, cd, rfl, hN, hb1⟩)
  · have HN : Hid (¬ conflOk ss (a, b)) := Lib.hid (fun h => hn ⟨h.1, h.2.1⟩)
    have HB1 := Lib.hid (HB.out.trans (hb1.mono HB.out.size))
    clear hb1 hn g1
    go_wp2
    go_ret2
    exact .inl ⟨HN.out, rfl, HB1.out⟩
  · have HB1 := Lib.hid (HB.out.trans (hb1.mono HB.out.size))
    have HLE := Lib.hid hle
    have HNB := Lib.hid hN
    have S2 := R2.out.below hb1 R2.out.lt
    have hS0 := And.intro (cell_drew (S2.cell (i := 0) (v := .int .i64 a) (by rfl))) (And.intro (cell_drew (S2.cell (i := 1) (v := .int .i64 b) (by rfl))) (cell_drew (hN.box.cell nbL_dcl)))
    have HS0 := Lib.hid hS0
    have HD0 := Lib.hid ((Below.refl w1.heap.size w1).drew)
    clear hb1 hN g1 S2
    go_wp2
    refine wp_region_kept (S := fun w' => w'.cell? ⟨w.heap.size + 1, 0, none⟩ = some (.int .i64 a) ∧ w'.cell? ⟨w.heap.size + 1, 1, none⟩ = some (.int .i64 b) ∧ w'.cell? ⟨N, 31, none⟩ = some (.slice od (dclP ss).length cd)) 6 (by kernel_rfl) ?_
    refine KeptAny.tk (v := ?_) 0 hS0 (fun w' hw' => ?_) ?_
    rotate_left
    · (obtain ⟨g0, g1, g2⟩ := hw'; go_simp; try with_reducible rfl)
    refine KeptAny.tk (v := ?_) 1 hS0 (fun w' hw' => ?_) ?_
    rotate_left
    · (obtain ⟨g0, g1, g2⟩ := hw'; go_simp; try with_reducible rfl)
    refine KeptAny.tk (v := ?_) 2 hS0 (fun w' hw' => ?_) ?_
    rotate_left
    · (obtain ⟨g0, g1, g2⟩ := hw'; go_simp; try with_reducible rfl)
    refine KeptAny.tk (v := ?_) 3 hS0 (fun w' hw' => ?_) ?_
    rotate_left
    · (obtain ⟨g0, g1, g2⟩ := hw'; go_simp; try with_reducible rfl)
    refine KeptAny.tk (v := ?_) 4 hS0 (fun w' hw' => ?_) ?_
    rotate_left
    · (obtain ⟨g0, g1, g2⟩ := hw'; go_simp; try with_reducible rfl)
    clear hS0
    refine KeptAny.one (i := 5) (by kernel_rfl) rfl (by kernel_rfl) (fun K hK => ?_)
    go_simp
    refine ⟨trivial, ?_⟩
    refine ((callsIn_wide (n := 5)).2 (idxPl_any (dclP ss) (dcl_nodup ss) od cd a b _ (by omega) (HNB.out.dcls.below HD0.out))).mono ?_
    rintro e w2 ⟨rfl, hb2⟩
    have HX2 := Lib.hid (HD0.out.trans (hb2.mono HD0.out.size))
    refine hK.out _ _ ⟨cell_grow hb2 HS0.out.1, cell_grow hb2 HS0.out.2.1, cell_grow hb2 HS0.out.2.2⟩ (fun _ => ?_)
    clear hK hb2
    refine KeptAny.last (by kernel_rfl) rfl (by kernel_rfl) (fun K hK => ?_)
    go_simp
    refine hK.out _ _ ?_
    clear hK
    refine KeptAny.done (by kernel_rfl) ?_ _
    have HB2 := Lib.hid (HB1.out.trans (HX2.out.mono HB1.out.size))
    have HN2 := Lib.hid (HNB.out.below HX2.out)
    by_cases hp : (a, b) ∈ dclP ss
    · obtain ⟨i, hi, hil, hiD⟩ := pos_nat hp
      have HOK : Hid (conflOk ss (a, b)) := Lib.hid ⟨HNB.out.ok, HLE.out, hp⟩
      have HCP : Hid (conflP ss (a, b) = cfUp ss i (dclP ss).length) := Lib.hid (by unfold conflP; rw [show (posOf (dclP ss) (a, b)).toNat = i by omega])
      rw [hi]
      have e1 : ((i : Int) == -1) = false := by rw [beq_eq_false_iff_ne]; omega
      have C3 := Lib.hid (conflictsOf_any ss HF.out oa od cap cd N i hil HLE.out w2 HN2.out (HE.out.at HB2.out).nmg)
      clear hi hiD hp
      go_wp2_with fail
      refine C3.out.mono ?_
      rintro e w3 ⟨rfl, hb3⟩
      have RS0 := Row.new w3 (psetL (cfS ss i)) 140
      have hbS := (Below.refl w3.heap.size w3).alloc (Nat.le_refl _) (.cells (psetL (cfS ss i)).toArray 140)
      have hz := Row.new w3 [.bool false, .bool false, .bool false, .bool false, .bool false, .bool false, .bool false, .bool false, .bool false, .bool false, .bool false, .bool false, .bool false, .bool false, .bool false, .bool false, .bool false, .bool false, .bool false, .bool false, .bool false, .bool false, .bool false, .bool false, .bool false, .bool false, .bool false, .bool false, .bool false, .bool false] 140
      have hbZ := (Below.refl w3.heap.size w3).alloc (Nat.le_refl _) (.cells #[.bool false, .bool false, .bool false, .bool false, .bool false, .bool false, .bool false, .bool false, .bool false, .bool false, .bool false, .bool false, .bool false, .bool false, .bool false, .bool false, .bool false, .bool false, .bool false, .bool false, .bool false, .bool false, .bool false, .bool false, .bool false, .bool false, .bool false, .bool false, .bool false, .bool false] 140)
      have hbR := hbZ.trans (below_setRow _ w3.heap.size (psetL (cfS ss i)).toArray (Nat.le_refl _))
      have HRS := Lib.hid (show Row ((w3.alloc (.cells #[.bool false, .bool false, .bool false, .bool false, .bool false, .bool false, .bool false, .bool false, .bool false, .bool false, .bool false, .bool false, .bool false, .bool false, .bool false, .bool false, .bool false, .bool false, .bool false, .bool false, .bool false, .bool false, .bool false, .bool false, .bool false, .bool false, .bool false, .bool false, .bool false, .bool false] 140)).setRow w3.heap.size (psetL (cfS ss i)).toArray) w3.heap.size 140 (psetL (cfS ss i)) from setRow_heap _ _ _ _ _ _ hz)
      have HB3 := Lib.hid (hb3.trans (hbR.mono hb3.size))
      unfold Row at hz
      clear hb3 hbS hbZ hbR RS0
      go_upto_region 8 with (refine wpList_store_row rfl 140 _ _ rfl w3.heap.size (psetL (cfS ss i)).toArray rfl rfl 140 _ hz (psetL_info _) (by simp [psetL_length]) (psetL_one _) ?_)
      clear hz
      generalize (w3.alloc (.cells #[.bool false, .bool false, .bool false, .bool false, .bool false, .bool false, .bool false, .bool false, .bool false, .bool false, .bool false, .bool false, .bool false, .bool false, .bool false, .bool false, .bool false, .bool false, .bool false, .bool false, .bool false, .bool false, .bool false, .bool false, .bool false, .bool false, .bool false, .bool false, .bool false, .bool false] 140)).setRow w3.heap.size (psetL (cfS ss i)).toArray = w4 at *
      generalize w3.heap.size = G at *
      have HB4 := Lib.hid (HB2.out.trans (HB3.out.mono HB2.out.size))
      have HN4 := Lib.hid (HN2.out.below HB3.out)
      have d0 := HN4.out.box.cell nbL_dcl
      have HSPD := Lib.hid (dcl_smallP HN4.out.ok.1)
      have HVV := Lib.hid HN4.out.ok.1
      go_wp2
      go_loopw [10, 36] (fun v x wr => ∃ k : Nat, x = .int .i64 k ∧ k ≤ (dclP ss).length ∧ Hid (Below w4.heap.size w4 wr ∧ wr.ownsRow w4.heap.size 26 2 v (cfUp ss i k).length (placeCells (cfUp ss i k)))) (fun _ x _ => (dclP ss).length - (intOf x).toNat)
      case atStart => exact ⟨0, rfl, Nat.zero_le _, Lib.hid ⟨Below.refl _ _, World.ownsRow_nil _ _ _ _⟩⟩
      case round =>
        obtain ⟨k, rfl, hk, hP⟩ := hrel
        by_cases hlt : k < (dclP ss).length
        · obtain ⟨p, hp⟩ : ∃ p, (dclP ss)[k]? = some p := ⟨_, List.getElem?_eq_getElem hlt⟩
          obtain ⟨x, y, rfl, hx6, hy5⟩ := HSPD.out p (List.mem_of_getElem? hp)
          have HNR := Lib.hid (HN4.out.below hP.out.1)
          obtain ⟨b1, f1, rfl, hb1, q1⟩ := HNR.out.dcls.at (by omega)
          obtain ⟨c0, c1⟩ := q1 k _ hp
          have hba := (Below.refl wr.heap.size wr).alloc (Nat.le_refl _) (.cells #[.int .i64 (x : Int), .int .i64 (y : Int)] 26)
          have HBA := Lib.hid (hP.out.1.trans (hba.mono hP.out.1.size))
          have RP := Lib.hid (Row.new wr [.int .i64 (x : Int), .int .i64 (y : Int)] 26)
          have p0 := RP.out.cell (i := 0) (v := .int .i64 (x : Int)) (by rfl)
          have p1 := RP.out.cell (i := 1) (v := .int .i64 (y : Int)) (by rfl)
          have HO := Lib.hid (hP.out.2.alloc (.cells #[.int .i64 (x : Int), .int .i64 (y : Int)] 26))
          have C5 := Lib.hid (phas_any (HRS.out.below HBA.out HRS.out.lt) hx6 hy5)
          have HCH := Lib.hid (cf_has HVV.out (i := i) hp)
          have HCK := Lib.hid (cfUp_snoc (i := i) hp)
          have hcl := cfUp_length ss i k
          clear hba q1 hp hb1
          go_wp2_with fail
          refine C5.out.mono ?_
          rintro e w6 ⟨rfl, hb6⟩
          have HB6 := Lib.hid (HBA.out.trans (hb6.mono HBA.out.size))
          have HO6 := Lib.hid (ownsRow_below HO.out hb6)
          have RP6 := Lib.hid (RP.out.below hb6 RP.out.lt)
          have p0 := RP6.out.cell (i := 0) (v := .int .i64 (x : Int)) (by rfl)
          have p1 := RP6.out.cell (i := 1) (v := .int .i64 (y : Int)) (by rfl)
          rw [HCH.out]
          clear hb6 c0 c1
          by_cases hcd : i ≠ k ∧ ¬ goodN ss (pairL (dclP ss).length i k)
          · have hdd : decide (i ≠ k ∧ ¬ goodN ss (pairL (dclP ss).length i k)) = true := decide_eq_true hcd
            rw [hdd]
            obtain ⟨v', w7, hrun, hown', hgrow, hbl⟩ := append_place_at HO6.out (x : Int) (y : Int) (by omega) HB6.out.size 23
            have HX : Hid (Below w4.heap.size w4 w7 ∧ w7.ownsRow w4.heap.size 26 2 v' (cfUp ss i (k + 1)).length (placeCells (cfUp ss i (k + 1)))) := Lib.hid (by
              have hbx := HB6.out.trans (((Below.refl w6.heap.size w6).alloc (Nat.le_refl _) (.cells #[.int .i64 (x : Int), .int .i64 (y : Int)] 26)).mono HB6.out.size)
              refine ⟨hbx.trans (below_grown1' hgrow hbx.size (fun r e => (HO6.out.lt r e).1)), ?_⟩
              rw [HCK.out, if_pos hcd, List.length_append, placeCells_snoc]
              exact hown')
            have HRUN := Lib.hid hrun
            clear hown' hgrow hbl hrun hdd hcd
            go_wp2_with (at_builtin; refine wpList_append_run rfl _ _ 23 rfl HRUN.out ?_)
            go_wp2
            go_roundw
            case rel => exact ⟨k + 1, by go_num, by omega, HX⟩
            case measure => simp only [intOf]; omega
          · have hdd : decide (i ≠ k ∧ ¬ goodN ss (pairL (dclP ss).length i k)) = false := decide_eq_false hcd
            rw [hdd]
            have HX : Hid (Below w4.heap.size w4 w6 ∧ w6.ownsRow w4.heap.size 26 2 u10 (cfUp ss i (k + 1)).length (placeCells (cfUp ss i (k + 1)))) := Lib.hid (by
              rw [HCK.out, if_neg hcd, List.append_nil]
              exact ⟨HB6.out, HO6.out⟩)
            clear hdd hcd
            go_wp2
            go_roundw
            case rel => exact ⟨k + 1, by go_num, by omega, HX⟩
            case measure => simp only [intOf]; omega
        · obtain rfl : k = (dclP ss).length := by omega
          have HO := Lib.hid (ownsRow_lower hP.out.2 HB4.out.size)
          go_wp2
          go_ret2
          exact .inr ⟨HOK.out, _, rfl, by rw [HCP.out]; exact HO.out, HB4.out.trans (hP.out.1.mono HB4.out.size)⟩
    · have HN : Hid (¬ conflOk ss (a, b)) := Lib.hid (fun h => hp h.2.2)
      rw [posOf_not hp]
      clear hp
      go_wp2
      go_ret2
      exact .inl ⟨HN.out, rfl, HB2.out⟩
end Go.Proofs.YtjogfagjcpcihaaGreatDoor
namespace Go.Proofs.YtjogfagjcpcihaaGreatDoor
open Go Go.RowKit Go.Maps
theorem share_confl {ss : List Sc} {p : Int × Int} (h : conflOk ss p) {i k : Nat} {q : Int × Int} (hi : (dclP ss)[i]? = some p) (hk : (dclP ss)[k]? = some q) (hne : i ≠ k) : ShareP ss p q ↔ goodN ss (pairL (dclP ss).length i k) := by
  have e1 := posOf_at (dcl_nodup ss) hi
  have e2 := posOf_at (dcl_nodup ss) hk
  unfold ShareP
  rw [show (posOf (dclP ss) p).toNat = i by omega, show (posOf (dclP ss) q).toNat = k by omega]
  exact ⟨fun h => h.2.2.2.2.2, fun hg => ⟨h.1, h.2.1, h.2.2, List.mem_of_getElem? hk, fun e => hne (by rw [e] at e1; omega), hg⟩⟩
set_option maxRecDepth 100000 in
set_option maxHeartbeats 8000000 in
theorem specConfl_any (ss : List Sc) (hF : Fair ss) (hpw : (placed 0 ss).length ≤ 1048576) (oa : Option Addr) (cap : Nat) (a b : Int) (w : World) (hc : HoldsScopes w oa ss) :
    Calls Tryz.prog 30 #[.agg #[.slice oa ss.length cap], .agg #[.int .i64 a, .int .i64 b]] w (PlGot2 (conflOk ss (a, b)) (conflP ss (a, b)) w) := by
  have hb0 : Below w.heap.size w (((w.alloc (.cells #[.slice oa ss.length cap] 33)).alloc (.cells #[.int .i64 a, .int .i64 b] 26)).alloc (.cells #[] 26)) := (((Below.refl _ _).alloc (Nat.le_refl _) _).alloc (by simp) _).alloc (by simp; omega) _
  have RG := Lib.hid (((Row.new w [.slice oa ss.length cap] 33).alloc (.cells #[.int .i64 a, .int .i64 b] 26)).alloc (.cells #[] 26))
  have RH0 := (Row.new (w.alloc (.cells #[.slice oa ss.length cap] 33)) [.int .i64 a, .int .i64 b] 26).alloc (.cells #[] 26)
  rw [World.size_alloc] at RH0
  have RH := Lib.hid RH0
  have hown0 : (((w.alloc (.cells #[.slice oa ss.length cap] 33)).alloc (.cells #[.int .i64 a, .int .i64 b] 26)).alloc (.cells #[] 26)).ownsRow (w.heap.size + 1 + 1) 26 2 (.slice (some ⟨w.heap.size + 1 + 1, 0, none⟩) 0 0) 0 [] := by
    have h0 := World.ownsRow_made (base := w.heap.size + 1 + 1) (e := 26) (size := 2) ((w.alloc (.cells #[.slice oa ss.length cap] 33)).alloc (.cells #[.int .i64 a, .int .i64 b] 26)) #[] 0 (by simp) (by unfold maxLen; omega) rfl
    rw [World.size_alloc, World.size_alloc] at h0
    exact h0
  have C3 := Lib.hid (l1PlacesW_any ss hF.count (fun s hs => hF.items s hs) hpw oa cap 1 _ (hc.below hb0 (Nat.le_refl _)))
  have HO0 := Lib.hid hown0
  have HB0 := Lib.hid hb0
  have HC := Lib.hid hc
  have HF := Lib.hid hF
  have HPW := Lib.hid hpw
  have g0 := RG.out.cell (i := 0) (v := .slice oa ss.length cap) (by rfl)
  have HS1 : Hid (w.heap.size + 1 + 1 < (((w.alloc (.cells #[.slice oa ss.length cap] 33)).alloc (.cells #[.int .i64 a, .int .i64 b] 26)).alloc (.cells #[] 26)).heap.size) := Lib.hid (by simp)
  have HDN : Hid ((dclP ss).length ≤ 1048576) := Lib.hid (by
    have h1 := plsOf_length 1 (placed 0 ss)
    unfold dclP plsP
    omega)
  clear hF hc hb0 hown0 RH0 hpw
  go_enter Tryz.func30, Tryz.ntmps30
  go_wp2_with fail
  generalize (((w.alloc (.cells #[.slice oa ss.length cap] 33)).alloc (.cells #[.int .i64 a, .int .i64 b] 26)).alloc (.cells #[] 26)) = w2 at *
  refine C3.out.mono ?_
  rintro e w3 ⟨tl, rfl, htl, hb3⟩
  rw [show plsP ss 1 = dclP ss from rfl] at htl
  have hfar : tl = .slice none 0 0 ∨ tl.ownBlock ≠ (Value.slice (some ⟨w.heap.size + 1 + 1, 0, none⟩) 0 0).ownBlock := by
    rcases htl.2 with h1 | ⟨g, cp, cur, rfl, hgB, _⟩
    · exact .inl h1.1
    · refine .inr fun e => ?_
      simp only [Value.ownBlock, Option.some.injEq] at e
      have := HS1.out
      omega
  have HI3 : Hid (ItemsAt w w3 oa cap ss.length w2.heap.size (.slice (some ⟨w.heap.size + 1 + 1, 0, none⟩) 0 0) tl [] (dclP ss) ∧ Row w3 (w.heap.size + 1) 26 [.int .i64 a, .int .i64 b]) := Lib.hid
    ⟨⟨RG.out.below hb3 RG.out.lt, ownsRow_lower (ownsRow_below HO0.out hb3) (by omega), htl, hfar, HB0.out.trans (hb3.mono HB0.out.size)⟩, RH.out.below hb3 RH.out.lt⟩
  obtain ⟨ot, ct, rfl, hat⟩ := argPlaces_of_owns htl
  have HAT := Lib.hid hat
  have g3 := HI3.out.1.box.cell (i := 0) (v := .slice oa ss.length cap) (by rfl)
  have C4 := Lib.hid (l9Clear_any ss HF.out oa cap w3 (HC.out.below HI3.out.1.below (Nat.le_refl _)))
  clear hb3 htl hat g0 hfar
  go_wp2_with fail
  refine C4.out.mono ?_
  rintro e w4 ⟨cl, rfl, hcl, hb4⟩
  have HCL := Lib.hid hcl
  have HI4 := Lib.hid (And.intro (HI3.out.1.step hb4) (HI3.out.2.below hb4 HI3.out.2.lt))
  have HAT4 := Lib.hid (HAT.out.below hb4)
  clear hb4 hcl g3
  cases cl
  · have HN : Hid (¬ conflOk ss (a, b)) := Lib.hid (fun h => by have := HCL.out.2 h.1; cases this)
    go_wp2
    go_ret2
    exact .inl ⟨HN.out, _, rfl, HI4.out.1.below⟩
  have HVC := Lib.hid (HCL.out.1 rfl)
  have hp0 := HI4.out.2.cell (i := 0) (v := .int .i64 a) (by rfl)
  have hp1 := HI4.out.2.cell (i := 1) (v := .int .i64 b) (by rfl)
  have HL30 := Lib.hid (placed_bound 0 ss 6 5 HVC.out.1.count.2 HVC.out.1.five)
  have hld : (dclP ss).length ≤ 30 := by
    have h1 := plsOf_length 1 (placed 0 ss)
    have h2 := HL30.out
    unfold dclP plsP
    omega
  have C5 := Lib.hid (l5In_any (dclP ss) ot ct a b w4 (by omega) HAT4.out)
  go_wp2_with fail
  refine C5.out.mono ?_
  rintro e w5 ⟨rfl, hb5⟩
  have HI5 := Lib.hid (And.intro (HI4.out.1.step hb5) (HI4.out.2.below hb5 HI4.out.2.lt))
  clear hb5 hp0 hp1
  by_cases hp : (a, b) ∈ dclP ss
  case neg =>
    have HN : Hid (¬ conflOk ss (a, b)) := Lib.hid (fun h => hp h.2.2)
    have hd : decide ((a, b) ∈ dclP ss) = false := decide_eq_false hp
    rw [hd]
    clear hp hd
    go_wp2
    go_ret2
    exact .inl ⟨HN.out, _, rfl, HI5.out.1.below⟩
  have hd : decide ((a, b) ∈ dclP ss) = true := decide_eq_true hp
  rw [hd]
  by_cases hle : (dclP ss).length ≤ 25
  case neg =>
    have HN : Hid (¬ conflOk ss (a, b)) := Lib.hid (fun h => hle h.2.1)
    have l1 : decide ((25 : Int) < ((dclP ss).length : Int)) = true := decide_eq_true (by omega)
    have l2 : decide (25 < (dclP ss).length) = true := decide_eq_true (by omega)
    clear hp hd hle
    go_wp2
    go_ret2
    exact .inl ⟨HN.out, _, rfl, HI5.out.1.below⟩
  obtain ⟨i, hi, hil, hiD⟩ := pos_nat hp
  have HOK : Hid (conflOk ss (a, b)) := Lib.hid ⟨HVC.out, hle, hp⟩
  have HCP : Hid (conflP ss (a, b) = cfUp ss i (dclP ss).length) := Lib.hid (by unfold conflP; rw [show (posOf (dclP ss) (a, b)).toNat = i by omega])
  have HID := Lib.hid hiD
  have l1 : decide ((25 : Int) < ((dclP ss).length : Int)) = false := decide_eq_false (by omega)
  have l2 : decide (25 < (dclP ss).length) = false := decide_eq_false (by omega)
  clear hi hp hd hle hiD
  go_wp2
  go_loopw [6, 30] (fun v x wr => ∃ k : Nat, x = .int .i64 k ∧ k ≤ (dclP ss).length ∧ Hid (ItemsAt w wr oa cap ss.length w2.heap.size v (.slice ot (dclP ss).length ct) (cfUp ss i k) (dclP ss) ∧ Row wr (w.heap.size + 1) 26 [.int .i64 a, .int .i64 b] ∧ v.ownBlock ≠ some (w.heap.size + 1))) (fun _ x _ => (dclP ss).length - (intOf x).toNat)
  case atStart => exact ⟨0, rfl, Nat.zero_le _, Lib.hid ⟨HI5.out.1, HI5.out.2, fun e => by simp only [Value.ownBlock, Option.some.injEq] at e; omega⟩⟩
  case round =>
    obtain ⟨k, rfl, hk, hP⟩ := hrel
    by_cases hlt : k < (dclP ss).length
    · obtain ⟨⟨x, y⟩, hp⟩ : ∃ p, (dclP ss)[k]? = some p := ⟨_, List.getElem?_eq_getElem hlt⟩
      obtain ⟨o', c', he', hat⟩ := argPlaces_of_owns hP.out.1.lst
      cases he'
      obtain ⟨b1, f1, rfl, hb1, q1⟩ := hat.at (by omega)
      obtain ⟨c0, c1⟩ := q1 k _ hp
      have hba := (Below.refl wr.heap.size wr).alloc (Nat.le_refl _) (.cells #[.int .i64 x, .int .i64 y] 26)
      have HPA := Lib.hid (And.intro (hP.out.1.step hba) (hP.out.2.1.below hba hP.out.2.1.lt))
      have HVB := Lib.hid hP.out.2.2
      have RP := Lib.hid (Row.new wr [.int .i64 x, .int .i64 y] 26)
      have p0 := RP.out.cell (i := 0) (v := .int .i64 x) (by rfl)
      have p1 := RP.out.cell (i := 1) (v := .int .i64 y) (by rfl)
      have r0 := HPA.out.2.cell (i := 0) (v := .int .i64 a) (by rfl)
      have r1 := HPA.out.2.cell (i := 1) (v := .int .i64 b) (by rfl)
      have g4 := HPA.out.1.box.cell (i := 0) (v := .slice oa ss.length cap) (by rfl)
      have HPK := Lib.hid hp
      have HCK := Lib.hid (cfUp_snoc (i := i) hp)
      have hcl := cfUp_length ss i k
      have HSZ : Hid (w.heap.size ≤ wr.heap.size) := Lib.hid hP.out.1.below.size
      clear hba q1 hp hb1 hat
      by_cases hik : i = k
      · obtain ⟨rfl, rfl⟩ : x = a ∧ y = b := by
          have h1 := HID.out
          rw [hik, HPK.out] at h1
          exact ⟨(Prod.mk.inj (Option.some.inj h1)).1, (Prod.mk.inj (Option.some.inj h1)).2⟩
        have HX : Hid (ItemsAt w (wr.alloc (.cells #[.int .i64 x, .int .i64 y] 26)) oa cap ss.length w2.heap.size u6 (.slice (some ⟨b1, f1, none⟩) (dclP ss).length ct) (cfUp ss i (k + 1)) (dclP ss) ∧ Row (wr.alloc (.cells #[.int .i64 x, .int .i64 y] 26)) (w.heap.size + 1) 26 [.int .i64 x, .int .i64 y] ∧ u6.ownBlock ≠ some (w.heap.size + 1)) := Lib.hid (by
          rw [HCK.out, if_neg (fun h => h.1 hik), List.append_nil]
          exact ⟨HPA.out.1, HPA.out.2, HVB.out⟩)
        clear hik
        go_wp2
        go_roundw
        case rel => exact ⟨k + 1, by go_num, by omega, HX⟩
        case measure => simp only [intOf]; omega
      · have C6 := Lib.hid (specShare_any ss HF.out HPW.out oa cap a b x y _ (HC.out.below HPA.out.1.below (Nat.le_refl _)))
        have HSC := Lib.hid (share_confl HOK.out HID.out HPK.out hik)
        have hne : (x, y) ≠ (a, b) := fun h => hik (by
          have h1 := posOf_at (dcl_nodup ss) HID.out
          have h2 := posOf_at (dcl_nodup ss) HPK.out
          rw [h] at h2
          omega)
        have HIK := Lib.hid hik
        clear hik
        by_cases hx : x = a
        · have hy : (y == b) = false := by
            rw [beq_eq_false_iff_ne]
            exact fun e => hne (by rw [hx, e])
          have hx' : (x == a) = true := by rw [hx]; simp
          clear hx hne
          go_wp2_with fail
          refine C6.out.mono ?_
          rintro e w7 ⟨ok, rfl, hok, hb7⟩
          have HOKK := Lib.hid (hok.trans HSC.out)
          have HP7 := Lib.hid (And.intro (HPA.out.1.step hb7) (HPA.out.2.below hb7 HPA.out.2.lt))
          have RP7 := Lib.hid (RP.out.below hb7 RP.out.lt)
          have HSZ7 : Hid (w.heap.size ≤ w7.heap.size) := Lib.hid HP7.out.1.below.size
          have p0 := RP7.out.cell (i := 0) (v := .int .i64 x) (by rfl)
          have p1 := RP7.out.cell (i := 1) (v := .int .i64 y) (by rfl)
          clear hb7 hok c0 c1 r0 r1 g4
          cases ok
          · obtain ⟨v', w8, hrun, hown', hgrow, hbl⟩ := append_place_at HP7.out.1.row x y (by omega) HSZ7.out 23
            have HX : Hid (ItemsAt w w8 oa cap ss.length w2.heap.size v' (.slice (some ⟨b1, f1, none⟩) (dclP ss).length ct) (cfUp ss i (k + 1)) (dclP ss) ∧ Row w8 (w.heap.size + 1) 26 [.int .i64 a, .int .i64 b] ∧ v'.ownBlock ≠ some (w.heap.size + 1)) := Lib.hid (by
              rw [HCK.out, if_pos ⟨HIK.out, fun h => by have := HOKK.out.2 h; cases this⟩]
              exact ⟨HP7.out.1.snoc hown' hgrow hbl, (HP7.out.2.alloc _).grown hgrow (Ne.symm HVB.out), by
                have h9 := HP7.out.2.lt
                rcases hbl with h | h
                · rw [h]; exact HVB.out
                · rw [h]; exact fun e => by have := Option.some.inj e; omega⟩)
            have HRUN := Lib.hid hrun
            clear hown' hgrow hbl hrun
            go_wp2_with (at_builtin; refine wpList_append_run rfl _ _ 23 rfl HRUN.out ?_)
            go_wp2
            go_roundw
            case rel => exact ⟨k + 1, by go_num, by omega, HX⟩
            case measure => simp only [intOf]; omega
          · have HX : Hid (ItemsAt w w7 oa cap ss.length w2.heap.size u6 (.slice (some ⟨b1, f1, none⟩) (dclP ss).length ct) (cfUp ss i (k + 1)) (dclP ss) ∧ Row w7 (w.heap.size + 1) 26 [.int .i64 a, .int .i64 b] ∧ u6.ownBlock ≠ some (w.heap.size + 1)) := Lib.hid (by
              rw [HCK.out, if_neg (fun h => h.2 (HOKK.out.1 rfl)), List.append_nil]
              exact ⟨HP7.out.1, HP7.out.2, HVB.out⟩)
            go_wp2
            go_roundw
            case rel => exact ⟨k + 1, by go_num, by omega, HX⟩
            case measure => simp only [intOf]; omega
        · have hx' : (x == a) = false := by rw [beq_eq_false_iff_ne]; exact hx
          clear hx hne
          go_wp2_with fail
          refine C6.out.mono ?_
          rintro e w7 ⟨ok, rfl, hok, hb7⟩
          have HOKK := Lib.hid (hok.trans HSC.out)
          have HP7 := Lib.hid (And.intro (HPA.out.1.step hb7) (HPA.out.2.below hb7 HPA.out.2.lt))
          have RP7 := Lib.hid (RP.out.below hb7 RP.out.lt)
          have HSZ7 : Hid (w.heap.size ≤ w7.heap.size) := Lib.hid HP7.out.1.below.size
          have p0 := RP7.out.cell (i := 0) (v := .int .i64 x) (by rfl)
          have p1 := RP7.out.cell (i := 1) (v := .int .i64 y) (by rfl)
          clear hb7 hok c0 c1 r0 r1 g4
          cases ok
          · obtain ⟨v', w8, hrun, hown', hgrow, hbl⟩ := append_place_at HP7.out.1.row x y (by omega) HSZ7.out 23
            have HX : Hid (ItemsAt w w8 oa cap ss.length w2.heap.size v' (.slice (some ⟨b1, f1, none⟩) (dclP ss).length ct) (cfUp ss i (k + 1)) (dclP ss) ∧ Row w8 (w.heap.size + 1) 26 [.int .i64 a, .int .i64 b] ∧ v'.ownBlock ≠ some (w.heap.size + 1)) := Lib.hid (by
              rw [HCK.out, if_pos ⟨HIK.out, fun h => by have := HOKK.out.2 h; cases this⟩]
              exact ⟨HP7.out.1.snoc hown' hgrow hbl, (HP7.out.2.alloc _).grown hgrow (Ne.symm HVB.out), by
                have h9 := HP7.out.2.lt
                rcases hbl with h | h
                · rw [h]; exact HVB.out
                · rw [h]; exact fun e => by have := Option.some.inj e; omega⟩)
            have HRUN := Lib.hid hrun
            clear hown' hgrow hbl hrun
            go_wp2_with (at_builtin; refine wpList_append_run rfl _ _ 23 rfl HRUN.out ?_)
            go_wp2
            go_roundw
            case rel => exact ⟨k + 1, by go_num, by omega, HX⟩
            case measure => simp only [intOf]; omega
          · have HX : Hid (ItemsAt w w7 oa cap ss.length w2.heap.size u6 (.slice (some ⟨b1, f1, none⟩) (dclP ss).length ct) (cfUp ss i (k + 1)) (dclP ss) ∧ Row w7 (w.heap.size + 1) 26 [.int .i64 a, .int .i64 b] ∧ u6.ownBlock ≠ some (w.heap.size + 1)) := Lib.hid (by
              rw [HCK.out, if_neg (fun h => h.2 (HOKK.out.1 rfl)), List.append_nil]
              exact ⟨HP7.out.1, HP7.out.2, HVB.out⟩)
            go_wp2
            go_roundw
            case rel => exact ⟨k + 1, by go_num, by omega, HX⟩
            case measure => simp only [intOf]; omega
    · obtain rfl : k = (dclP ss).length := by omega
      have HP := hP
      go_wp2
      go_ret2
      exact .inr ⟨HOK.out, _, rfl, by rw [HCP.out]; exact HP.out.1.row, HP.out.1.below⟩
end Go.Proofs.YtjogfagjcpcihaaGreatDoor
