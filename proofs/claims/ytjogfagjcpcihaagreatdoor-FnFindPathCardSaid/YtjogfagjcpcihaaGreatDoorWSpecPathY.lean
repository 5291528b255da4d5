/-
  The walk of the given PathOf. Condition: the argument's memory holds the graph.
-/
import Derived.Test.YtjogfagjcpcihaaGreatDoorJDY
namespace Go.Proofs.YtjogfagjcpcihaaGreatDoor
open Go Go.RowKit Go.Maps
/-- One scope's module's name put ahead of what came. -/
def pathStep (ss : List Sc) (out : ByteArray) (s : Nat) : ByteArray := match moduleP ss (s : Int) with
  | some q => q.2.2.name ++ out
  | none => out
/-- The names of modules, those of the scopes that come later first. -/
def pathF (ss : List Sc) (l : List Nat) : ByteArray := l.foldl (pathStep ss) ⟨#[]⟩
theorem pathF_snoc (ss : List Sc) (l : List Nat) (s : Nat) : pathF ss (l ++ [s]) = pathStep ss (pathF ss l) s := by simp [pathF]
theorem pathStep_none {ss : List Sc} {out : ByteArray} {s : Nat} {a b : Int} (h : modR ss (s : Int) a b false) : pathStep ss out s = out := by
  rcases h with ⟨h1, _⟩ | ⟨q, _, _, _, h2⟩
  · unfold pathStep; rw [h1]
  · cases h2
theorem pathStep_some {ss : List Sc} {out : ByteArray} {s : Nat} {a b : Int} (h : modR ss (s : Int) a b true) : ∃ q : Nat × Nat × It, a = (q.1 : Int) ∧ b = (q.2.1 : Int) ∧ q ∈ placed 0 ss ∧ q.2.2.scope = (s : Int) ∧ pathStep ss out s = q.2.2.name ++ out := by
  rcases h with ⟨_, _, _, h2⟩ | ⟨q, h1, ha, hb, _⟩
  · cases h2
  · obtain ⟨hq, _, hs⟩ := moduleP_some h1
    exact ⟨q, ha, hb, hq, hs, by unfold pathStep; rw [h1]⟩
theorem nameB_size {s : ByteArray} (h : nameB s = true) : s.size = 1 := by
  unfold nameB at h
  split at h
  · rename_i x hd
    have h2 := congrArg List.length hd
    show s.data.size = 1
    rw [← Array.length_toList]
    exact h2
  · cases h
theorem pathName_size {ss : List Sc} (hv : Valid ss) {q : Nat × Nat × It} (hq : q ∈ placed 0 ss) : q.2.2.name.size = 1 := by
  have h := item_of hv hq
  unfold itemB at h
  simp only [Bool.and_eq_true] at h
  exact nameB_size h.1.1
theorem pathStep_size {ss : List Sc} (hv : Valid ss) (out : ByteArray) (s : Nat) : (pathStep ss out s).size ≤ out.size + 1 := by
  unfold pathStep
  split
  · rename_i q h
    have h1 := pathName_size hv (moduleP_some h).1
    rw [ByteArray.size_append, h1]
    omega
  · omega
theorem pathF_size' {ss : List Sc} (hv : Valid ss) : ∀ (l : List Nat) (out : ByteArray), (l.foldl (pathStep ss) out).size ≤ out.size + l.length
  | [], out => by simp
  | s :: l, out => by
    have h1 := pathF_size' hv l (pathStep ss out s)
    have h2 := pathStep_size hv out s
    rw [List.foldl_cons, List.length_cons]
    omega
theorem pathF_size {ss : List Sc} (hv : Valid ss) (l : List Nat) : (pathF ss l).size ≤ l.length := by
  have := pathF_size' hv l ⟨#[]⟩
  unfold pathF
  have h0 : (⟨#[]⟩ : ByteArray).size = 0 := rfl
  omega
attribute [local go_sem ↓] field_kind field_name field_scope
/-- What PathOf answers. -/
def pathR (ss : List Sc) (n : Int) (str : ByteArray) (ok : Bool) : Prop := (¬ HasScope ss n ∧ str = ⟨#[]⟩ ∧ ok = false) ∨ (HasScope ss n ∧ str = pathF ss (chainP ss n.toNat) ∧ ok = true)
theorem pathR.same {ss : List Sc} {n : Int} {a b : ByteArray} {ok ok' : Bool} (h : pathR ss n a ok) (k : pathR ss n b ok') : a = b ∧ ok = ok' := by
  rcases h with ⟨h1, rfl, rfl⟩ | ⟨h1, rfl, rfl⟩ <;> rcases k with ⟨k1, rfl, rfl⟩ | ⟨k1, rfl, rfl⟩
  · exact ⟨rfl, rfl⟩
  · exact absurd k1 h1
  · exact absurd h1 k1
  · exact ⟨rfl, rfl⟩
set_option maxRecDepth 100000 in
set_option maxHeartbeats 1600000 in
theorem specPath_any (ss : List Sc) (hf : FitsScopes ss) (oa : Option Addr) (cap : Nat) (n : Int) (w : World) (hc : HoldsScopes w oa ss) :
    Calls Tryz.prog 60 #[.agg #[.slice oa ss.length cap], .int .i64 n] w fun e w' => ∃ str ok, e = .returned (.tuple #[.string str, .bool ok]) ∧ pathR ss n str ok ∧ Below w.heap.size w w' := by
  have hb0 := (Below.refl w.heap.size w).alloc (Nat.le_refl _) (.cells #[.slice oa ss.length cap] 33)
  have C := Lib.hid (specChain_any ss hf oa cap n _ (hc.below hb0 (Nat.le_refl _)))
  have R := Lib.hid (Row.new w [.slice oa ss.length cap] 33)
  have HB0 := Lib.hid hb0
  have HC := Lib.hid hc
  have HF := Lib.hid hf
  clear hf hc hb0
  go_enter Tryz.func60, Tryz.ntmps60
  go_wp2_with fail
  refine C.out.mono ?_
  rintro e w1 (⟨hn, gz, rfl, hb⟩ | ⟨hv, v, rfl, hrow, hb⟩)
  · have HN := Lib.hid hn
    have HB := Lib.hid (HB0.out.trans (hb.mono HB0.out.size))
    clear hn hb
    go_wp2
    go_loopw [6, 21] (fun o c wr => o = .string ⟨#[]⟩ ∧ c = .int .i64 0 ∧ wr = w1) (fun _ _ _ => 0)
    case atStart => exact ⟨rfl, rfl, rfl⟩
    case round =>
      obtain ⟨rfl, rfl, rfl⟩ := hrel
      go_wp2
      go_ret2
      exact ⟨_, false, rfl, .inl ⟨HN.out, rfl, rfl⟩, HB.out⟩
  · obtain ⟨o2, cap2, rfl, hh⟩ := holdsInts_of_owns hrow
    obtain ⟨s, rfl⟩ : ∃ s : Nat, n = (s : Int) := ⟨n.toNat, by have := hv.2.1; omega⟩
    rw [Int.toNat_natCast] at hh ⊢
    have HB := Lib.hid (HB0.out.trans (hb.mono HB0.out.size))
    have R1 := Lib.hid (R.out.below hb R.out.lt)
    have HH := Lib.hid hv
    have H2 := Lib.hid hh
    have h6 := hv.1.count.2
    have hcb : (chainP ss s).length ≤ ss.length := chain_bound hv.1.climbs (by have := hv.2.2; omega)
    have hnl := natInts_length (chainP ss s)
    have HNL := Lib.hid hnl
    have HL : Hid ((natInts (chainP ss s)).length ≤ 6) := Lib.hid (by omega)
    have hl := HL.out
    clear hv hh hb hrow hnl
    go_wp2
    go_loopw [6, 21] (fun o c wr => ∃ k : Nat, c = .int .i64 k ∧ k ≤ (natInts (chainP ss s)).length ∧ o = .string (pathF ss ((chainP ss s).take k)) ∧ Below w1.heap.size w1 wr) (fun _ c _ => (natInts (chainP ss s)).length - (intOf c).toNat)
    case atStart => exact ⟨0, rfl, Nat.zero_le _, rfl, Below.refl _ _⟩
    case round =>
      obtain ⟨k, rfl, hk, rfl, hb⟩ := hrel
      have HBR := Lib.hid hb
      by_cases hlt : k < (natInts (chainP ss s)).length
      · obtain ⟨x, hx⟩ : ∃ x, (chainP ss s)[k]? = some x := ⟨_, List.getElem?_eq_getElem (by rw [HNL.out] at hlt; exact hlt)⟩
        have hxi : (natInts (chainP ss s))[k]? = some (x : Int) := by unfold natInts; rw [List.getElem?_map, hx]; rfl
        obtain ⟨b1, f1, rfl, hb1, q1⟩ := H2.out.at (by omega)
        have a0 := (hb.cell (p := ⟨b1, f1 + k, none⟩) hb1).trans (q1 k _ hxi)
        have hxl : x < ss.length := by have := chain_le HH.out.1.climbs s x (List.mem_of_getElem? hx); have := HH.out.2.2; omega
        have HHX : Hid (HasScope ss (x : Int)) := Lib.hid ⟨HH.out.1, by omega, by omega⟩
        have HX := Lib.hid hx
        have HB2 := Lib.hid (HB.out.trans (hb.mono HB.out.size))
        have R2 := Lib.hid (R1.out.below hb R1.out.lt)
        have g2 := R2.out.cell (i := 0) (by rfl)
        have C2 := Lib.hid (specModule_any ss HF.out oa cap (x : Int) _ (HC.out.below HB2.out (Nat.le_refl _)))
        have HSZ : Hid ((pathF ss ((chainP ss s).take k)).size ≤ 6) := Lib.hid (by
          have h1 := pathF_size HH.out.1 ((chainP ss s).take k)
          rw [List.length_take] at h1
          omega)
        have HTK : Hid ((chainP ss s).take (k + 1) = (chainP ss s).take k ++ [x]) := Lib.hid (by rw [List.take_add_one, hx]; rfl)
        clear hx hxi q1 hb hxl
        go_wp2_with fail
        refine C2.out.mono ?_
        rintro e w3 ⟨a, b, ok, rfl, hm, hb3⟩
        have hm' : modR ss (x : Int) a b ok := by
          rcases hm with ⟨h1, _⟩ | ⟨_, h2⟩
          · exact absurd HHX.out h1
          · exact h2
        have hbP := (Below.refl w3.heap.size w3).alloc (Nat.le_refl _) (.cells #[.int .i64 a, .int .i64 b] 26)
        have hbq := hb3.trans (hbP.mono hb3.size)
        have HB3 := Lib.hid (HB2.out.trans (hbq.mono HB2.out.size))
        have HBR3 := Lib.hid (HBR.out.trans (hbq.mono HBR.out.size))
        have R3 := Lib.hid (R2.out.below hbq R2.out.lt)
        have RP3 := Lib.hid (Row.new w3 [.int .i64 a, .int .i64 b] 26)
        clear hm hb3 hbP hbq g2
        cases ok with
        | false =>
          have HE : Hid (pathF ss ((chainP ss s).take (k + 1)) = pathF ss ((chainP ss s).take k)) := Lib.hid (by rw [HTK.out, pathF_snoc, pathStep_none hm'])
          clear hm'
          go_wp2
          go_roundw
          case rel => exact ⟨k + 1, by go_num, by omega, by rw [HE.out], HBR3.out⟩
          case measure => simp only [intOf]; omega
        | true =>
          obtain ⟨q, rfl, rfl, hq, -, hE⟩ := pathStep_some (out := pathF ss ((chainP ss s).take k)) hm'
          obtain ⟨sc, _, hsc, hx⟩ := mem_placed.1 hq
          simp only [Nat.sub_zero] at hsc
          have C3 := Lib.hid (specAt_any ss HF.out oa cap q.1 q.2.1 sc q.2.2 hsc hx _ (HC.out.below HB3.out (Nat.le_refl _)))
          have HE : Hid (pathF ss ((chainP ss s).take (k + 1)) = q.2.2.name ++ pathF ss ((chainP ss s).take k)) := Lib.hid (by rw [HTK.out, pathF_snoc, hE])
          have hn1 := pathName_size HH.out.1 hq
          have hsum : ¬ (9223372036854775807 < q.2.2.name.size + (pathF ss ((chainP ss s).take k)).size) := by have := HSZ.out; omega
          have g3 := R3.out.cell (i := 0) (by rfl)
          have p0 := RP3.out.cell (i := 0) (by rfl)
          have p1 := RP3.out.cell (i := 1) (by rfl)
          clear hm' hq hE hsc hx hn1
          go_wp2_with fail
          refine C3.out.mono ?_
          rintro e w4 ⟨rfl, hb4⟩
          have HBR4 := Lib.hid (HBR3.out.trans (hb4.mono HBR3.out.size))
          clear hb4 g3 p0 p1
          unfold itV
          go_wp2
          go_roundw
          case rel => exact ⟨k + 1, by go_num, by omega, by rw [HE.out], HBR4.out⟩
          case measure => simp only [intOf]; omega
      · obtain rfl : k = (natInts (chainP ss s)).length := by omega
        have HE : Hid (pathF ss ((chainP ss s).take (natInts (chainP ss s)).length) = pathF ss (chainP ss s)) := Lib.hid (by rw [HNL.out, List.take_length])
        clear hb
        go_wp2
        go_ret2
        exact ⟨_, true, rfl, .inr ⟨HH.out, by rw [HE.out, Int.toNat_natCast], rfl⟩, HB.out.trans (HBR.out.mono HB.out.size)⟩
end Go.Proofs.YtjogfagjcpcihaaGreatDoor
