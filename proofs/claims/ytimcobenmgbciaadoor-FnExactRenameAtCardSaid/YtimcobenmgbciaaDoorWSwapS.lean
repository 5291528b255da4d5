/-
  The walks of the given l8RawSwapNames and SwapNames. Condition: the argument's memory holds the graph.
-/
import Derived.Test.YtimcobenmgbciaaDoorWSwapI
import Derived.Test.YtimcobenmgbciaaDoorJC
namespace Go.Proofs.YtimcobenmgbciaaDoor
open Go Go.RowKit
/-- A graph that may share memory, and a truth. -/
def RawGr (ok : Prop) (l : List Sc) (w : World) (e : Ending) (w' : World) : Prop :=
  (¬ ok ∧ e = .returned (.tuple #[.agg #[.slice none 0 0], .bool false]) ∧ Below w.heap.size w w') ∨
  (ok ∧ ∃ ov cv, e = .returned (.tuple #[.agg #[.slice ov l.length cv], .bool true]) ∧ HoldsScopes w' ov l ∧ Below w.heap.size w w')
theorem uptoF_skip {ss : List Sc} {f : NameF} {s k : Nat} {c : Sc} {x : It} (hc : ss[s]? = some c) (hx : c.items[k]? = some x) (hf : f s k x.name = x.name) : renP ss (uptoF f s (k + 1)) = renP ss (uptoF f s k) := by
  refine renP_congr fun i j d y hd hy => ?_
  unfold uptoF
  by_cases h1 : i = s ∧ j = k
  · obtain ⟨rfl, rfl⟩ := h1
    rw [hc] at hd
    obtain rfl := Option.some.inj hd
    rw [hx] at hy
    obtain rfl := Option.some.inj hy
    rw [if_pos (Or.inr ⟨rfl, by omega⟩), if_neg (by omega), hf]
  · by_cases h2 : i < s ∨ (i = s ∧ j < k)
    · rw [if_pos h2, if_pos (show i < s ∨ (i = s ∧ j < k + 1) by omega)]
    · rw [if_neg h2, if_neg (show ¬ (i < s ∨ (i = s ∧ j < k + 1)) by omega)]
/-- Where an item lies. -/
theorem GrIn.itemAt {w : World} {B g gs cs : Nat} {us : List Sc} {hs : List Value} (h : GrIn w B g gs cs us hs) {i j gi ci : Nat} {s : Sc} {x : It} (hs' : us[i]? = some s) (hx : s.items[j]? = some x) (hu : hs[i]? = some (.slice (some ⟨gi, 0, none⟩) s.items.length ci)) :
    w.cell? ⟨gi, j * 3, none⟩ = some (.int .i64 x.kind) ∧ w.cell? ⟨gi, j * 3 + 1, none⟩ = some (.string x.name) ∧ w.cell? ⟨gi, j * 3 + 2, none⟩ = some (.int .i64 x.scope) := by
  have h4 := h.own.items i s _ hs' hu
  have hjl := (List.getElem?_eq_some_iff.1 hx).1
  have hcc := fun g hg => h4.cells (g := g) hg
  have hd : ∀ n v, (itemCells [x])[n]? = some v → (itemCells s.items)[j * 3 + n]? = some v := fun n v hv => by
    have h10 := itemCells_drop s.items j
    have h11 : (itemCells s.items)[j * 3 + n]? = (itemCells (s.items.drop j))[n]? := by rw [h10, List.getElem?_drop]
    rw [h11, List.drop_eq_getElem_cons hjl, show s.items[j] :: s.items.drop (j + 1) = [s.items[j]] ++ s.items.drop (j + 1) from rfl, itemCells_append]
    rw [List.getElem?_eq_getElem hjl] at hx
    rw [Option.some.inj hx, List.getElem?_append_left (List.getElem?_eq_some_iff.1 hv).1]
    exact hv
  refine ⟨?_, ?_, ?_⟩
  · have h12 := hcc gi rfl _ _ (hd 0 _ rfl)
    rw [Addr.add_lit, Nat.zero_add] at h12
    exact h12
  · have h12 := hcc gi rfl _ _ (hd 1 _ rfl)
    rw [Addr.add_lit, Nat.zero_add] at h12
    exact h12
  · have h12 := hcc gi rfl _ _ (hd 2 _ rfl)
    rw [Addr.add_lit, Nat.zero_add] at h12
    exact h12
theorem OwnGr.holdsAtR {w : World} {B c : Nat} {o : Option Addr} {l : List Sc} {hs : List Value} (h : OwnGr w B (.slice o l.length c) l hs) : HoldsScopes w o l := by
  obtain ⟨ov, cv, he, hh⟩ := h.holds
  simp only [Value.slice.injEq] at he
  rw [he.1]
  exact hh
theorem names_ne {a b : ByteArray} (h : a ≠ b) : (a.toList == b.toList) = false := by
  rw [Bool.eq_false_iff]
  intro e
  rw [beq_iff_eq, ByteArray.toList_eq, ByteArray.toList_eq] at e
  exact h (ByteArray.ext (Array.ext' e))
set_option maxRecDepth 100000 in
set_option maxHeartbeats 8000000 in
theorem rawSwap_any (ss : List Sc) (hF : Fair ss) (oa : Option Addr) (cap : Nat) (na nb : ByteArray) (w : World) (hc : HoldsScopes w oa ss) :
    Calls Tryd.prog 94 #[.agg #[.slice oa ss.length cap], .string na, .string nb] w (RawGr (swapOk ss na nb) (renP ss (swapF na nb)) w) := by
  have hb0 := ((Below.refl w.heap.size w).alloc (Nat.le_refl _) (.cells #[.slice oa ss.length cap] 25)).alloc (by simp) (.cells #[.slice none 0 0] 25)
  have R1 := Lib.hid ((Row.new w [.slice oa ss.length cap] 25).alloc (.cells #[.slice none 0 0] 25))
  have R2 := Row.new (w.alloc (.cells #[.slice oa ss.length cap] 25)) [.slice none 0 0] 25
  rw [World.size_alloc] at R2
  have R2 := Lib.hid R2
  have C := Lib.hid (specValid_any ss oa cap _ hF.fits (hc.below hb0 (Nat.le_refl _)))
  have HB := Lib.hid hb0
  have HF := Lib.hid hF
  have HC := Lib.hid hc
  have g1 := R1.out.cell (i := 0) (v := .slice oa ss.length cap) (by rfl)
  have n0 := R2.out.cell (i := 0) (v := .slice none 0 0) (by rfl)
  have f0 := R2.out.frozen 0
  clear hF hc hb0
  obtain ⟨qa, hqa⟩ : ∃ q, nameB na = q := ⟨_, rfl⟩
  obtain ⟨qb, hqb⟩ : ∃ q, nameB nb = q := ⟨_, rfl⟩
  have HQ := Lib.hid (And.intro hqa hqb)
  have CA := Lib.hid (fun W => l1Name_any na W)
  have CB := Lib.hid (fun W => l1Name_any nb W)
  rw [hqa] at CA
  rw [hqb] at CB
  clear hqa hqb
  go_enter Tryd.func94, Tryd.ntmps94
  go_wp2_with fail
  refine C.out.mono ?_
  rintro e w1 ⟨b, rfl, hv, hb1⟩
  have HV := Lib.hid hv
  have HB1 := Lib.hid (HB.out.trans (hb1.mono HB.out.size))
  have R1a := Lib.hid (R1.out.below hb1 R1.out.lt)
  have R2a := Lib.hid (R2.out.below hb1 R2.out.lt)
  have g1 := R1a.out.cell (i := 0) (v := .slice oa ss.length cap) (by rfl)
  have n0 := R2a.out.cell (i := 0) (v := .slice none 0 0) (by rfl)
  have f0 := R2a.out.frozen 0
  clear hv hb1
  cases b
  · have HN : Hid (¬ swapOk ss na nb) := Lib.hid (fun h => by have := HV.out.2 h.1; cases this)
    go_wp2
    have RT := R2a.out.set 0 (.slice none 0 0)
    have d0 := RT.cell (i := 0) (v := .slice none 0 0) (by rfl)
    refine bodyPost_ret (v := .tuple #[.agg #[.slice none 0 0], .bool false]) (by simp [results, Tryd.results94, go_sem, d0]) rfl (.inl ⟨HN.out, rfl, HB1.out.setCell (by simp) _⟩)
  · have HVV := Lib.hid (HV.out.1 rfl)
    go_wp2_with fail
    refine (CA.out _).mono ?_
    rintro e w1 ⟨rfl, rfl⟩
    cases qa
    · have HN : Hid (¬ swapOk ss na nb) := Lib.hid (fun h => by have := HQ.out.1.symm.trans h.2.1; cases this)
      go_wp2
      have RT := R2a.out.set 0 (.slice none 0 0)
      have d0 := RT.cell (i := 0) (v := .slice none 0 0) (by rfl)
      refine bodyPost_ret (v := .tuple #[.agg #[.slice none 0 0], .bool false]) (by simp [results, Tryd.results94, go_sem, d0]) rfl (.inl ⟨HN.out, rfl, HB1.out.setCell (by simp) _⟩)
    · go_wp2_with fail
      refine (CB.out _).mono ?_
      rintro e w1 ⟨rfl, rfl⟩
      cases qb
      · have HN : Hid (¬ swapOk ss na nb) := Lib.hid (fun h => by have := HQ.out.2.symm.trans h.2.2; cases this)
        go_wp2
        have RT := R2a.out.set 0 (.slice none 0 0)
        have d0 := RT.cell (i := 0) (v := .slice none 0 0) (by rfl)
        refine bodyPost_ret (v := .tuple #[.agg #[.slice none 0 0], .bool false]) (by simp [results, Tryd.results94, go_sem, d0]) rfl (.inl ⟨HN.out, rfl, HB1.out.setCell (by simp) _⟩)
      · have HOK : Hid (swapOk ss na nb) := Lib.hid ⟨HVV.out, HQ.out.1, HQ.out.2⟩
        have C3 := Lib.hid (specCopy_any ss oa cap HF.out.count (fun s hs => by have := HVV.out.five s hs; omega) _ (HC.out.below HB1.out (Nat.le_refl _)))
        go_wp2_with fail
        refine C3.out.mono ?_
        rintro e w3 ⟨v, hs, rfl, hO, hb3⟩
        obtain ⟨gs, cs, rfl⟩ : ∃ gs cs, v = .slice (some ⟨gs, 0, none⟩) ss.length cs := by
          obtain ⟨hl, h2 | ⟨g, c, cur, hv, hB, hh, _⟩⟩ := hO.row
          · have := h2.2; have := HVV.out.count.1; omega
          · exact ⟨g, c, hv⟩
        have hbA := (Below.refl w3.heap.size w3).alloc (Nat.le_refl _) (.cells #[.slice (some ⟨gs, 0, none⟩) ss.length cs] 25)
        have RH := Row.new w3 [.slice (some ⟨gs, 0, none⟩) ss.length cs] 25
        have HG0 : Hid (GrIn (w3.alloc (.cells #[.slice (some ⟨gs, 0, none⟩) ss.length cs] 25)) w1.heap.size w3.heap.size gs cs ss hs) := Lib.hid ⟨RH, hO.below hbA⟩
        have HB3 := Lib.hid (HB1.out.trans ((hb3.trans (hbA.mono hb3.size)).mono HB1.out.size))
        have HX3 := Lib.hid (hb3.trans (hbA.mono hb3.size))
        have R2b := Lib.hid (R2a.out.below (hb3.trans (hbA.mono hb3.size)) R2a.out.lt)
        have l0 := RH.cell (i := 0) (v := .slice (some ⟨gs, 0, none⟩) ss.length cs) (by rfl)
        have HS5 : Hid (∀ s ∈ ss, s.items.length ≤ 5) := Lib.hid HVV.out.five
        have hss6 : ss.length ≤ 6 := HVV.out.count.2
        clear hO hb3 hbA RH g1 n0 f0
        go_wp2
        generalize w3.heap.size = g at *
        generalize w3.alloc (.cells #[.slice (some ⟨gs, 0, none⟩) ss.length cs] 25) = w4 at *
        go_loopw [32] (fun i wr => ∃ k : Nat, i = .int .i64 k ∧ k ≤ ss.length ∧ Hid (GrIn wr w1.heap.size g gs cs (renP ss (uptoF (swapF na nb) k 0)) hs ∧ Below w1.heap.size w1 wr)) (fun i _ => ss.length - (intOf i).toNat)
        case atStart => exact ⟨0, rfl, Nat.zero_le _, Lib.hid ⟨by rw [uptoF_start]; exact HG0.out, HX3.out⟩⟩
        case round =>
          obtain ⟨k, rfl, hk, hP⟩ := hrel
          by_cases hlt : k < ss.length
          · obtain ⟨c, hc⟩ : ∃ c, ss[k]? = some c := ⟨_, List.getElem?_eq_getElem hlt⟩
            have hd : (renP ss (uptoF (swapF na nb) k 0))[k]? = some (renSc (uptoF (swapF na nb) k 0) k c) := by rw [renP_get, hc]; rfl
            obtain ⟨u0, hu, hgB, hgl, hcell, hown⟩ := hP.out.1.slot hd
            have hpar := hP.out.1.par hd
            rw [renSc_length] at hown
            have hol := hown.lt
            obtain ⟨L, hL⟩ : ∃ L, c.items.length = L := ⟨_, rfl⟩
            rw [hL] at hown
            obtain ⟨o', c', rfl⟩ := ownsRow_slice hown
            obtain ⟨pr, hpr⟩ : ∃ pr, (renSc (uptoF (swapF na nb) k 0) k c).parent = pr := ⟨_, rfl⟩
            rw [hpr] at hpar
            have hL5 : L ≤ 5 := by rw [← hL]; exact HS5.out c (List.mem_of_getElem? hc)
            have hk0 : (0 : Int) ≤ (k : Int) := by omega
            have hk1 : (k : Int) < (ss.length : Int) := by omega
            have HCC := Lib.hid (And.intro hc (And.intro hu hL))
            have HOL : Hid (∀ b, o' = some b → b.block < wr.heap.size) := Lib.hid (fun b e => (hol b.block (by rw [e]; rfl)).2)
            have HSZ : Hid (w1.heap.size ≤ wr.heap.size) := Lib.hid hP.out.2.size
            have hbA := (Below.refl wr.heap.size wr).alloc (Nat.le_refl _) (.cells #[.int .i64 pr, .slice o' L c'] 118)
            have HA := Lib.hid (And.intro (hP.out.1.below hbA) (hP.out.2.trans (hbA.mono HSZ.out)))
            have RS := Lib.hid (Row.new wr [.int .i64 pr, .slice o' L c'] 118)
            have s1 := RS.out.cell (i := 1) (v := .slice o' L c') (by rfl)
            clear hd hgB hgl hown hol hpr hbA hc hu hL
            go_wp2
            generalize wr.alloc (.cells #[.int .i64 pr, .slice o' L c'] 118) = wA at *
            generalize wr.heap.size = Z at *
            go_loopw [39] (fun i wi => ∃ m : Nat, i = .int .i64 m ∧ m ≤ L ∧ Hid (GrIn wi w1.heap.size g gs cs (renP ss (uptoF (swapF na nb) k m)) hs ∧ Below w1.heap.size w1 wi ∧ Row wi Z 118 [.int .i64 pr, .slice o' L c'])) (fun i _ => L - (intOf i).toNat)
            case atStart => exact ⟨0, rfl, Nat.zero_le _, Lib.hid ⟨HA.out.1, HA.out.2, RS.out⟩⟩
            case round =>
              obtain ⟨m, rfl, hm, hQ⟩ := hrel
              by_cases hlt2 : m < L
              · obtain ⟨x, hx⟩ : ∃ x, c.items[m]? = some x := ⟨_, List.getElem?_eq_getElem (by rw [HCC.out.2.2]; exact hlt2)⟩
                obtain ⟨d, hd, hdl, hdx⟩ := uptoF_get (swapF na nb) HCC.out.1 hx
                obtain ⟨gi, ci, hu2, hgB, hgl, _, hname, hfro, -, -⟩ := hQ.out.1.nameAt hd hdx
                obtain ⟨i0, i1, i2⟩ := hQ.out.1.itemAt hd hdx hu2
                have he := HCC.out.2.1.symm.trans hu2
                simp only [Option.some.injEq, Value.slice.injEq] at he
                obtain ⟨rfl, -, rfl⟩ := he
                have hgw : gi < Z := HOL.out _ rfl
                have hbx := (Below.refl wr.heap.size wr).alloc (Nat.le_refl _) (.cells #[.int .i64 x.kind, .string x.name, .int .i64 x.scope] 38)
                have RX := Row.new wr [.int .i64 x.kind, .string x.name, .int .i64 x.scope] 38
                have x1 := RX.cell (i := 1) (v := .string x.name) (by rfl)
                have s1 := (hQ.out.2.2.below hbx hQ.out.2.2.lt).cell (i := 1) (v := .slice (some ⟨gi, 0, none⟩) L c') (by rfl)
                have nm1 := cell_grow hbx hname
                have nm2 : (wr.alloc (.cells #[.int .i64 x.kind, .string x.name, .int .i64 x.scope] 38)).frozen? ⟨gi, m * 3 + 1, none⟩ = false := by
                  obtain ⟨gi', ci', k1, -, -, -, -, k2, -, -⟩ := (hQ.out.1.below hbx).nameAt hd hdx
                  have he := hu2.symm.trans k1
                  simp only [Option.some.injEq, Value.slice.injEq, Addr.mk.injEq] at he
                  rw [he.1.1]
                  exact k2
                have HST : Hid (∀ nm, swapF na nb k m x.name = nm → GrIn ((wr.alloc (.cells #[.int .i64 x.kind, .string x.name, .int .i64 x.scope] 38)).setCell ⟨gi, m * 3 + 1, none⟩ (.string nm)) w1.heap.size g gs cs (renP ss (uptoF (swapF na nb) k (m + 1))) hs ∧ Below w1.heap.size w1 ((wr.alloc (.cells #[.int .i64 x.kind, .string x.name, .int .i64 x.scope] 38)).setCell ⟨gi, m * 3 + 1, none⟩ (.string nm)) ∧ Row ((wr.alloc (.cells #[.int .i64 x.kind, .string x.name, .int .i64 x.scope] 38)).setCell ⟨gi, m * 3 + 1, none⟩ (.string nm)) Z 118 [.int .i64 pr, .slice (some ⟨gi, 0, none⟩) L c']) := Lib.hid (fun nm hnm => by
                  have h1 := (hQ.out.1.below hbx).name hd hdx hu2 nm
                  rw [← hnm, uptoF_step (swapF na nb) HCC.out.1 hx, hnm] at h1
                  exact ⟨h1, (hQ.out.2.1.trans (hbx.mono hQ.out.2.1.size)).setCell hgB _, (hQ.out.2.2.below hbx hQ.out.2.2.lt).other (a := ⟨gi, m * 3 + 1, none⟩) (by show gi ≠ Z; omega) _⟩)
                have HSK : Hid (swapF na nb k m x.name = x.name → GrIn (wr.alloc (.cells #[.int .i64 x.kind, .string x.name, .int .i64 x.scope] 38)) w1.heap.size g gs cs (renP ss (uptoF (swapF na nb) k (m + 1))) hs ∧ Below w1.heap.size w1 (wr.alloc (.cells #[.int .i64 x.kind, .string x.name, .int .i64 x.scope] 38)) ∧ Row (wr.alloc (.cells #[.int .i64 x.kind, .string x.name, .int .i64 x.scope] 38)) Z 118 [.int .i64 pr, .slice (some ⟨gi, 0, none⟩) L c']) := Lib.hid (fun hnm => by
                  rw [uptoF_skip HCC.out.1 hx hnm]
                  exact ⟨hQ.out.1.below hbx, hQ.out.2.1.trans (hbx.mono hQ.out.2.1.size), hQ.out.2.2.below hbx hQ.out.2.2.lt⟩)
                have hm0 : (0 : Int) ≤ (m : Int) := by omega
                have hm1 : (m : Int) < (L : Int) := by omega
                clear hx hd hdl hdx hu2 hgB hgl hfro hgw RX hbx hname
                generalize hZ2 : wr.alloc (.cells #[.int .i64 x.kind, .string x.name, .int .i64 x.scope] 38) = wX at *
                by_cases h1 : x.name = na
                · have HN := Lib.hid (HST.out nb (by unfold swapF; rw [if_pos h1]))
                  have d1 : (x.name.toList == na.toList) = true := by rw [h1]; simp
                  clear HST HSK h1
                  go_wp2
                  go_roundw
                  case rel => exact ⟨m + 1, by go_num, by omega, HN⟩
                  case measure => simp only [intOf]; omega
                · have d1 := names_ne h1
                  by_cases h2 : x.name = nb
                  · have HN := Lib.hid (HST.out na (by unfold swapF; rw [if_neg h1, if_pos h2]))
                    have d2 : (x.name.toList == nb.toList) = true := by rw [h2]; simp
                    clear HST HSK h1 h2
                    go_wp2
                    go_roundw
                    case rel => exact ⟨m + 1, by go_num, by omega, HN⟩
                    case measure => simp only [intOf]; omega
                  · have HN := Lib.hid (HSK.out (by unfold swapF; rw [if_neg h1, if_neg h2]))
                    have d2 := names_ne h2
                    clear HST HSK h1 h2
                    go_wp2
                    go_roundw
                    case rel => exact ⟨m + 1, by go_num, by omega, HN⟩
                    case measure => simp only [intOf]; omega
              · obtain rfl : m = L := by omega
                have HE : Hid (renP ss (uptoF (swapF na nb) k m) = renP ss (uptoF (swapF na nb) (k + 1) 0)) := Lib.hid (by have h := uptoF_scope (swapF na nb) HCC.out.1; rw [HCC.out.2.2] at h; exact h)
                have HZ := Lib.hid (And.intro hQ.out.1 hQ.out.2.1)
                go_wp2
                go_roundw
                case rel => exact ⟨k + 1, by go_num, by omega, by rw [← HE.out]; exact HZ⟩
                case measure => simp only [intOf]; omega
          · obtain rfl : k = ss.length := by omega
            have hE := hP.out
            rw [uptoF_all] at hE
            have R2c := Lib.hid (R2a.out.below hE.2 R2a.out.lt)
            have l1 := hE.1.row.cell (i := 0) (by rfl)
            have n0 := R2c.out.cell (i := 0) (v := .slice none 0 0) (by rfl)
            have f0 := R2c.out.frozen 0
            have hho := hE.1.own.holdsAtR
            have HE := Lib.hid hE
            have HHO := Lib.hid hho
            clear hE hho l0
            go_wp2
            have RT := R2c.out.set 0 (.slice (some ⟨gs, 0, none⟩) (renP ss (swapF na nb)).length cs)
            have d0 := RT.cell (i := 0) (v := .slice (some ⟨gs, 0, none⟩) (renP ss (swapF na nb)).length cs) (by rfl)
            refine bodyPost_ret (v := .tuple #[.agg #[.slice (some ⟨gs, 0, none⟩) (renP ss (swapF na nb)).length cs], .bool true]) (by simp [results, Tryd.results94, go_sem, d0]) rfl (.inr ⟨HOK.out, _, _, rfl, ?_, ((HB1.out.trans (HE.out.2.mono HB1.out.size)).setCell (by simp) _)⟩)
            exact OwnGr.holdsAtR (B := w1.heap.size) ⟨HE.out.1.own.len, ownsRow_otherN HE.out.1.own.row R2c.out (by decide) 0 _, fun k t z h1 h2 => ownsRow_otherN (HE.out.1.own.items k t z h1 h2) R2c.out (by decide) 0 _, HE.out.1.own.apart⟩
set_option maxRecDepth 100000 in
set_option maxHeartbeats 4000000 in
theorem specSwapNames_any (ss : List Sc) (hF : Fair ss) (oa : Option Addr) (cap : Nat) (na nb : ByteArray) (w : World) (hc : HoldsScopes w oa ss) :
    Calls Tryd.prog 47 #[.agg #[.slice oa ss.length cap], .string na, .string nb] w (GrGot (swapOk ss na nb) (renP ss (swapF na nb)) w) := by
  have hb0 := ((Below.refl w.heap.size w).alloc (Nat.le_refl _) (.cells #[.slice oa ss.length cap] 25)).alloc (by simp) (.cells #[.slice none 0 0] 25)
  have R1 := (Row.new w [.slice oa ss.length cap] 25).alloc (.cells #[.slice none 0 0] 25)
  have R3 := Row.new (w.alloc (.cells #[.slice oa ss.length cap] 25)) [.slice none 0 0] 25
  rw [World.size_alloc] at R3
  have C := Lib.hid (rawSwap_any ss hF oa cap na nb _ (hc.below hb0 (Nat.le_refl _)))
  have HB := Lib.hid hb0
  have HR3 := Lib.hid R3
  have HF := Lib.hid hF
  have g1 := R1.cell (i := 0) (v := .slice oa ss.length cap) (by rfl)
  clear hF hc hb0 R1 R3
  go_enter Tryd.func47, Tryd.ntmps47
  go_wp2_with fail
  refine C.out.mono ?_
  rintro e w1 (⟨hn, rfl, hb1⟩ | ⟨hh, ov, cv, rfl, hho, hb1⟩)
  · have hbx := hb1.trans ((Below.refl w1.heap.size w1).alloc (Nat.le_refl _) (.cells #[.slice none 0 0] 25) |>.mono hb1.size)
    have HB1 := Lib.hid (HB.out.trans (hbx.mono HB.out.size))
    have HR3a := Lib.hid (HR3.out.below hbx HR3.out.lt)
    have RX := (Row.new w1 [.slice none 0 0] 25).cell (i := 0) (by rfl)
    have HN := Lib.hid hn
    have C2 := Lib.hid (ownGraph_any [] none 0 (by simp) (fun s hs => by cases hs) (w1.alloc (.cells #[.slice none 0 0] 25)) (.inl rfl))
    clear hb1 hbx hn g1
    go_wp2_with fail
    refine C2.out.mono ?_
    rintro e w2 ⟨v, hs, rfl, hO, hb2⟩
    obtain ⟨ov2, cv2, rfl, -⟩ := hO.holds
    have HO := Lib.hid (hO.lower HB1.out.size)
    have HB2 := Lib.hid (HB1.out.trans (hb2.mono HB1.out.size))
    have HR3b := Lib.hid (HR3a.out.below hb2 HR3a.out.lt)
    have m0 := HR3b.out.cell (i := 0) (v := .slice none 0 0) (by rfl)
    have l0 := HR3b.out.frozen 0
    clear hO hb2 RX
    go_wp2
    have RT := HR3b.out.set 0 (.slice ov2 ([] : List Sc).length cv2)
    have d0 := RT.cell (i := 0) (v := .slice ov2 ([] : List Sc).length cv2) (by rfl)
    refine bodyPost_ret (v := .tuple #[.agg #[.slice ov2 ([] : List Sc).length cv2], .bool false]) (by simp [results, Tryd.results47, go_sem] at d0 ⊢; simp [d0]) rfl (.inl ⟨HN.out, _, hs, rfl, ?_, HB2.out.setCell (by simp) _⟩)
    exact ⟨HO.out.len, ownsRow_otherN HO.out.row HR3b.out (by decide) 0 _, fun k t z h1 h2 => ownsRow_otherN (HO.out.items k t z h1 h2) HR3b.out (by decide) 0 _, HO.out.apart⟩
  · obtain ⟨tt, htt⟩ : ∃ tt, renP ss (swapF na nb) = tt := ⟨_, rfl⟩
    have hlt : tt.length ≤ 1048576 := by rw [← htt, renP_length]; exact HF.out.count
    have hle : ∀ s ∈ tt, s.items.length < 1048576 := by
      rw [← htt]
      exact fun s hs => by have := items_ren (n := 5) hh.1.five (swapF na nb) s hs; omega
    rw [htt] at hho ⊢
    have hbx := hb1.trans ((Below.refl w1.heap.size w1).alloc (Nat.le_refl _) (.cells #[.slice ov tt.length cv] 25) |>.mono hb1.size)
    have HB1 := Lib.hid (HB.out.trans (hbx.mono HB.out.size))
    have HR3a := Lib.hid (HR3.out.below hbx HR3.out.lt)
    have RX := (Row.new w1 [.slice ov tt.length cv] 25).cell (i := 0) (by rfl)
    have HH := Lib.hid hh
    have C2 := Lib.hid (ownGraph_any tt ov cv hlt hle (w1.alloc (.cells #[.slice ov tt.length cv] 25)) (hho.below ((Below.refl _ _).alloc (Nat.le_refl _) _) (Nat.le_refl _)))
    have HTT := Lib.hid htt
    clear hb1 hbx hh hho hle g1 htt hlt
    go_wp2_with fail
    refine C2.out.mono ?_
    rintro e w2 ⟨v, hs, rfl, hO, hb2⟩
    obtain ⟨ov2, cv2, rfl, -⟩ := hO.holds
    have HO := Lib.hid (hO.lower HB1.out.size)
    have HB2 := Lib.hid (HB1.out.trans (hb2.mono HB1.out.size))
    have HR3b := Lib.hid (HR3a.out.below hb2 HR3a.out.lt)
    have m0 := HR3b.out.cell (i := 0) (v := .slice none 0 0) (by rfl)
    have l0 := HR3b.out.frozen 0
    clear hO hb2 RX
    go_wp2
    have RT := HR3b.out.set 0 (.slice ov2 tt.length cv2)
    have d0 := RT.cell (i := 0) (v := .slice ov2 tt.length cv2) (by rfl)
    refine bodyPost_ret (v := .tuple #[.agg #[.slice ov2 tt.length cv2], .bool true]) (by simp [results, Tryd.results47, go_sem, d0]) rfl (.inr ⟨HH.out, _, hs, rfl, ?_, HB2.out.setCell (by simp) _⟩)
    rw [HTT.out]
    exact ⟨HO.out.len, ownsRow_otherN HO.out.row HR3b.out (by decide) 0 _, fun k t z h1 h2 => ownsRow_otherN (HO.out.items k t z h1 h2) HR3b.out (by decide) 0 _, HO.out.apart⟩
end Go.Proofs.YtimcobenmgbciaaDoor
