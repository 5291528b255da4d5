/-
  The walks of RemoveItem, given and impl. Conditions: the argument's memory holds the graph; the package-level errors hold errors.
-/
import Derived.Test.YtadpgoiiopfnnaaDoorWSpecRemove2
import Derived.Test.YtadpgoiiopfnnaaDoorWMarkR
namespace Go.Proofs.YtadpgoiiopfnnaaDoor
open Go Go.RowKit
/-- The graph without the item at a place. -/
def rmvAt (ss : List Sc) (a b : Int) : List Sc := rmvP ss a.toNat b.toNat
theorem rmvAt_nat (ss : List Sc) (i j : Nat) : rmvAt ss (i : Int) (j : Int) = rmvP ss i j := by unfold rmvAt; rw [Int.toNat_natCast, Int.toNat_natCast]
theorem item_where {ss : List Sc} {a b : Int} {x : It} (h : itemAtP ss a b = some x) : ∃ (i j : Nat) (c : Sc), a = (i : Int) ∧ b = (j : Int) ∧ ss[i]? = some c ∧ c.items[j]? = some x := by
  unfold itemAtP at h
  split at h
  · rename_i h0
    obtain ⟨c, hc, hx⟩ := Option.bind_eq_some_iff.1 h
    exact ⟨a.toNat, b.toNat, c, by omega, by omega, hc, hx⟩
  · cases h
set_option maxRecDepth 100000 in
set_option maxHeartbeats 4000000 in
theorem implRemoveItem_any (ss : List Sc) (hF : Fair ss) (oa : Option Addr) (cap : Nat) (a b : Int) (ha : (Lit.int .i64 a).wf = true) (hb' : (Lit.int .i64 b).wf = true) (w : World) (hc : HoldsScopes w oa ss) (hE : TreeErrs w) :
    Calls Tryd.prog 19 #[.agg #[.slice oa ss.length cap], .agg #[.int .i64 a, .int .i64 b]] w (GrGot (itemHas ss a b) (rmvAt ss a b) w) := by
  have hb0 : Below w.heap.size w (((w.alloc (.cells #[.slice oa ss.length cap] 30)).alloc (.cells #[.int .i64 a, .int .i64 b] 34)).alloc (.cells #[.slice none 0 0] 30)) := (((Below.refl _ _).alloc (Nat.le_refl _) _).alloc (by simp) _).alloc (by simp; omega) _
  have R1 := ((Row.new w [.slice oa ss.length cap] 30).alloc (.cells #[.int .i64 a, .int .i64 b] 34)).alloc (.cells #[.slice none 0 0] 30)
  have R2 := (Row.new (w.alloc (.cells #[.slice oa ss.length cap] 30)) [.int .i64 a, .int .i64 b] 34).alloc (.cells #[.slice none 0 0] 30)
  have R3 := Row.new ((w.alloc (.cells #[.slice oa ss.length cap] 30)).alloc (.cells #[.int .i64 a, .int .i64 b] 34)) [.slice none 0 0] 30
  rw [World.size_alloc] at R2
  rw [World.size_alloc, World.size_alloc] at R3
  have C := Lib.hid (implItemAt_any ss hF oa cap a b ha hb' _ (hc.below hb0 (Nat.le_refl _)) (hE.below hb0 hE.size))
  have HB := Lib.hid hb0
  have HR1 := Lib.hid R1
  have HR2 := Lib.hid R2
  have HR3 := Lib.hid R3
  have HF := Lib.hid hF
  have HC := Lib.hid hc
  have g1 := R1.cell (i := 0) (by rfl)
  have p0 := R2.cell (i := 0) (by rfl)
  have p1 := R2.cell (i := 1) (by rfl)
  clear hF hc hE hb0 R1 R2 R3
  go_enter Tryd.func19, Tryd.ntmps19
  go_wp2_with fail
  refine C.out.mono ?_
  rintro e w1 ⟨x, ok, rfl, hcase, hb1⟩
  have hbx := hb1.trans ((Below.refl w1.heap.size w1).alloc (Nat.le_refl _) (.cells #[.int .i64 x.kind, .string x.name, .int .i64 x.scope] 65) |>.mono hb1.size)
  have HB1 := Lib.hid (HB.out.trans (hbx.mono HB.out.size))
  have HR3a := Lib.hid (HR3.out.below hbx HR3.out.lt)
  have g2 := (HR1.out.below hbx HR1.out.lt).cell (i := 0) (v := .slice oa ss.length cap) (by rfl)
  have q0 := (HR2.out.below hbx HR2.out.lt).cell (i := 0) (v := .int .i64 a) (by rfl)
  have q1 := (HR2.out.below hbx HR2.out.lt).cell (i := 1) (v := .int .i64 b) (by rfl)
  have n0 := HR3a.out.cell (i := 0) (v := .slice none 0 0) (by rfl)
  have f0 := HR3a.out.frozen 0
  have HCS := Lib.hid hcase
  clear hb1 hbx hcase g1 p0 p1
  unfold itV
  cases ok
  · have HN : Hid (¬ itemHas ss a b) := Lib.hid (by
      rcases HCS.out with ⟨_, _, h⟩ | ⟨h, _⟩
      · cases h
      · exact h)
    go_wp2
    have RT := HR3a.out.set 0 (.slice none 0 0)
    have d0 := RT.cell (i := 0) (v := .slice none 0 0) (by rfl)
    refine bodyPost_ret (v := .tuple #[.agg #[.slice none 0 0], .bool false]) (by simp [results, Tryd.results19, go_sem, d0]) rfl (.inl ⟨HN.out, _, [], rfl, OwnGr.nil _ _, HB1.out.setCell (by simp; omega) _⟩)
  · obtain ⟨hv, hx⟩ : Valid ss ∧ itemAtP ss a b = some x := by
      rcases HCS.out with ⟨h1, h2, _⟩ | ⟨_, _, h⟩
      · exact ⟨h1, h2⟩
      · cases h
    have HH : Hid (itemHas ss a b) := Lib.hid ⟨hv, by rw [hx]; rfl⟩
    obtain ⟨i, j, c, rfl, rfl, hci, hxj⟩ := item_where hx
    have C2 := Lib.hid (without_any ss HF.out oa cap i j c x hci hxj _ (HC.out.below HB1.out (Nat.le_refl _)))
    clear hv hx hci hxj
    go_wp2_with fail
    refine C2.out.mono ?_
    rintro e w2 ⟨v, hs, rfl, hO, hb2⟩
    obtain ⟨ov, cv, rfl, -⟩ := hO.holds
    have HB2 := Lib.hid (HB1.out.trans (hb2.mono HB1.out.size))
    have HR3b := Lib.hid (HR3a.out.below hb2 HR3a.out.lt)
    have HO := Lib.hid (hO.lower HB1.out.size)
    have m0 := HR3b.out.cell (i := 0) (v := .slice none 0 0) (by rfl)
    have l0 := HR3b.out.frozen 0
    clear hO hb2 n0 f0 g2 q0 q1
    go_wp2
    have RT := HR3b.out.set 0 (.slice ov (rmvP ss i j).length cv)
    have d0 := RT.cell (i := 0) (v := .slice ov (rmvP ss i j).length cv) (by rfl)
    refine bodyPost_ret (v := .tuple #[.agg #[.slice ov (rmvP ss i j).length cv], .bool true]) (by simp [results, Tryd.results19, go_sem, d0]) rfl (.inr ⟨HH.out, _, hs, rfl, ?_, HB2.out.setCell (by simp; omega) _⟩)
    rw [rmvAt_nat]
    exact ⟨HO.out.len, ownsRow_otherN HO.out.row HR3b.out (by decide) 0 _, fun k t z h1 h2 => ownsRow_otherN (HO.out.items k t z h1 h2) HR3b.out (by decide) 0 _, HO.out.apart⟩
/-- What the given l6RawRemoveItem answers. -/
def RawRem (ss : List Sc) (a b : Int) (w : World) (e : Ending) (w' : World) : Prop :=
  (¬ itemHas ss a b ∧ e = .returned (.tuple #[.agg #[.slice none 0 0], .bool false]) ∧ Below w.heap.size w w') ∨
  (itemHas ss a b ∧ ∃ ov cv, e = .returned (.tuple #[.agg #[.slice ov ss.length cv], .bool true]) ∧ HoldsScopes w' ov (rmvAt ss a b) ∧ Below w.heap.size w w')
set_option maxRecDepth 100000 in
set_option maxHeartbeats 4000000 in
theorem rawRemove_any (ss : List Sc) (hF : Fair ss) (oa : Option Addr) (cap : Nat) (a b : Int) (w : World) (hc : HoldsScopes w oa ss) :
    Calls Tryd.prog 60 #[.agg #[.slice oa ss.length cap], .agg #[.int .i64 a, .int .i64 b]] w (RawRem ss a b w) := by
  have hb0 : Below w.heap.size w (((w.alloc (.cells #[.slice oa ss.length cap] 30)).alloc (.cells #[.int .i64 a, .int .i64 b] 34)).alloc (.cells #[.slice none 0 0] 30)) := (((Below.refl _ _).alloc (Nat.le_refl _) _).alloc (by simp) _).alloc (by simp; omega) _
  have R1 := ((Row.new w [.slice oa ss.length cap] 30).alloc (.cells #[.int .i64 a, .int .i64 b] 34)).alloc (.cells #[.slice none 0 0] 30)
  have R2 := (Row.new (w.alloc (.cells #[.slice oa ss.length cap] 30)) [.int .i64 a, .int .i64 b] 34).alloc (.cells #[.slice none 0 0] 30)
  have R3 := Row.new ((w.alloc (.cells #[.slice oa ss.length cap] 30)).alloc (.cells #[.int .i64 a, .int .i64 b] 34)) [.slice none 0 0] 30
  rw [World.size_alloc] at R2
  rw [World.size_alloc, World.size_alloc] at R3
  have C := Lib.hid (specValid_any ss oa cap _ hF.fits (hc.below hb0 (Nat.le_refl _)))
  have HB := Lib.hid hb0
  have HR1 := Lib.hid R1
  have HR2 := Lib.hid R2
  have HR3 := Lib.hid R3
  have HF := Lib.hid hF
  have HC := Lib.hid hc
  have g1 := R1.cell (i := 0) (by rfl)
  clear hF hc hb0 R1 R2 R3
  go_enter Tryd.func60, Tryd.ntmps60
  go_wp2_with fail
  refine C.out.mono ?_
  rintro e w1 ⟨q, rfl, hv, hb1⟩
  have HB1 := Lib.hid (HB.out.trans (hb1.mono HB.out.size))
  have HR1a := Lib.hid (HR1.out.below hb1 HR1.out.lt)
  have HR2a := Lib.hid (HR2.out.below hb1 HR2.out.lt)
  have HR3a := Lib.hid (HR3.out.below hb1 HR3.out.lt)
  have HV := Lib.hid hv
  have g2 := HR1a.out.cell (i := 0) (v := .slice oa ss.length cap) (by rfl)
  have q0 := HR2a.out.cell (i := 0) (v := .int .i64 a) (by rfl)
  have q1 := HR2a.out.cell (i := 1) (v := .int .i64 b) (by rfl)
  clear hb1 hv g1
  cases q
  · have HN : Hid (¬ itemHas ss a b) := Lib.hid (fun h => by have := HV.out.2 h.1; cases this)
    have n0 := HR3a.out.cell (i := 0) (v := .slice none 0 0) (by rfl)
    have f0 := HR3a.out.frozen 0
    go_wp2
    have RT := HR3a.out.set 0 (.slice none 0 0)
    have d0 := RT.cell (i := 0) (v := .slice none 0 0) (by rfl)
    refine bodyPost_ret (v := .tuple #[.agg #[.slice none 0 0], .bool false]) (by simp [results, Tryd.results60, go_sem, d0]) rfl (.inl ⟨HN.out, rfl, HB1.out.setCell (by simp; omega) _⟩)
  · have HVV := Lib.hid (HV.out.1 rfl)
    have C2 := Lib.hid (specHas_any ss HF.out.fits oa cap a b _ (HC.out.below HB1.out (Nat.le_refl _)))
    go_wp2_with fail
    refine C2.out.mono ?_
    rintro e w2 ⟨rfl, hb2⟩
    have HB2 := Lib.hid (HB1.out.trans (hb2.mono HB1.out.size))
    have HR3b := Lib.hid (HR3a.out.below hb2 HR3a.out.lt)
    have g3 := (HR1a.out.below hb2 HR1a.out.lt).cell (i := 0) (v := .slice oa ss.length cap) (by rfl)
    have t0 := (HR2a.out.below hb2 HR2a.out.lt).cell (i := 0) (v := .int .i64 a) (by rfl)
    have t1 := (HR2a.out.below hb2 HR2a.out.lt).cell (i := 1) (v := .int .i64 b) (by rfl)
    have n0 := HR3b.out.cell (i := 0) (v := .slice none 0 0) (by rfl)
    have f0 := HR3b.out.frozen 0
    clear hb2 g2 q0 q1
    have hcase : itemAtP ss a b = none ∨ ∃ x, itemAtP ss a b = some x := by cases itemAtP ss a b <;> simp
    rcases hcase with hx | ⟨x, hx⟩
    · have HN : Hid (¬ itemHas ss a b) := Lib.hid (fun h => by have := h.2; rw [hx] at this; cases this)
      rw [hx]
      clear hx
      simp only [Option.isSome_none]
      go_wp2
      have RT := HR3b.out.set 0 (.slice none 0 0)
      have d0 := RT.cell (i := 0) (v := .slice none 0 0) (by rfl)
      refine bodyPost_ret (v := .tuple #[.agg #[.slice none 0 0], .bool false]) (by simp [results, Tryd.results60, go_sem, d0]) rfl (.inl ⟨HN.out, rfl, HB2.out.setCell (by simp; omega) _⟩)
    · have HH : Hid (itemHas ss a b) := Lib.hid ⟨HVV.out, by rw [hx]; rfl⟩
      rw [hx]
      obtain ⟨i, j, c, rfl, rfl, hci, hxj⟩ := item_where hx
      have C3 := Lib.hid (specRemove_any ss HF.out.count (fun s hs => by have := HF.out.items s hs; omega) oa cap i j c x hci hxj _ (HC.out.below HB2.out (Nat.le_refl _)))
      clear hx hci hxj
      simp only [Option.isSome_some]
      go_wp2_with fail
      refine C3.out.mono ?_
      rintro e w3 ⟨v, hs, rfl, hO, hb3⟩
      obtain ⟨ov, cv, rfl, hh⟩ := hO.holds
      have HB3 := Lib.hid (HB2.out.trans (hb3.mono HB2.out.size))
      have HR3c := Lib.hid (HR3b.out.below hb3 HR3b.out.lt)
      have m0 := HR3c.out.cell (i := 0) (v := .slice none 0 0) (by rfl)
      have l0 := HR3c.out.frozen 0
      have HO := Lib.hid hO
      clear hO hb3 n0 f0 g3 t0 t1 hh
      go_wp2
      have RT := HR3c.out.set 0 (.slice ov (rmvP ss i j).length cv)
      have d0 := RT.cell (i := 0) (v := .slice ov (rmvP ss i j).length cv) (by rfl)
      refine bodyPost_ret (v := .tuple #[.agg #[.slice ov (rmvP ss i j).length cv], .bool true]) (by simp [results, Tryd.results60, go_sem, d0]) rfl (.inr ⟨HH.out, ov, cv, by rw [rmvP_length], ?_, HB3.out.setCell (by simp; omega) _⟩)
      rw [rmvAt_nat]
      obtain ⟨ov', cv', he, hh⟩ := OwnGr.holds (⟨HO.out.len, ownsRow_otherN HO.out.row HR3c.out (by decide) 0 _, fun k t z h1 h2 => ownsRow_otherN (HO.out.items k t z h1 h2) HR3c.out (by decide) 0 _, HO.out.apart⟩ : OwnGr (w3.setCell ⟨w.heap.size + 1 + 1, 0, none⟩ (.slice ov (rmvP ss i j).length cv)) w2.heap.size (.slice ov (rmvP ss i j).length cv) (rmvP ss i j) hs)
      simp only [Value.slice.injEq] at he
      obtain ⟨rfl, -, -⟩ := he
      exact hh
set_option maxRecDepth 100000 in
set_option maxHeartbeats 4000000 in
theorem specRemoveItem_any (ss : List Sc) (hF : Fair ss) (oa : Option Addr) (cap : Nat) (a b : Int) (w : World) (hc : HoldsScopes w oa ss) :
    Calls Tryd.prog 16 #[.agg #[.slice oa ss.length cap], .agg #[.int .i64 a, .int .i64 b]] w (GrGot (itemHas ss a b) (rmvAt ss a b) w) := by
  have hb0 : Below w.heap.size w (((w.alloc (.cells #[.slice oa ss.length cap] 30)).alloc (.cells #[.int .i64 a, .int .i64 b] 34)).alloc (.cells #[.slice none 0 0] 30)) := (((Below.refl _ _).alloc (Nat.le_refl _) _).alloc (by simp) _).alloc (by simp; omega) _
  have R1 := ((Row.new w [.slice oa ss.length cap] 30).alloc (.cells #[.int .i64 a, .int .i64 b] 34)).alloc (.cells #[.slice none 0 0] 30)
  have R2 := (Row.new (w.alloc (.cells #[.slice oa ss.length cap] 30)) [.int .i64 a, .int .i64 b] 34).alloc (.cells #[.slice none 0 0] 30)
  have R3 := Row.new ((w.alloc (.cells #[.slice oa ss.length cap] 30)).alloc (.cells #[.int .i64 a, .int .i64 b] 34)) [.slice none 0 0] 30
  rw [World.size_alloc] at R2
  rw [World.size_alloc, World.size_alloc] at R3
  have C := Lib.hid (rawRemove_any ss hF oa cap a b _ (hc.below hb0 (Nat.le_refl _)))
  have HB := Lib.hid hb0
  have HR3 := Lib.hid R3
  have HF := Lib.hid hF
  have g1 := R1.cell (i := 0) (by rfl)
  have p0 := R2.cell (i := 0) (by rfl)
  have p1 := R2.cell (i := 1) (by rfl)
  clear hF hc hb0 R1 R2 R3
  go_enter Tryd.func16, Tryd.ntmps16
  go_wp2_with fail
  refine C.out.mono ?_
  rintro e w1 (⟨hn, rfl, hb1⟩ | ⟨hh, ov, cv, rfl, hho, hb1⟩)
  · have hbx := hb1.trans ((Below.refl w1.heap.size w1).alloc (Nat.le_refl _) (.cells #[.slice none 0 0] 30) |>.mono hb1.size)
    have HB1 := Lib.hid (HB.out.trans (hbx.mono HB.out.size))
    have HR3a := Lib.hid (HR3.out.below hbx HR3.out.lt)
    have RX := (Row.new w1 [.slice none 0 0] 30).cell (i := 0) (by rfl)
    have HN := Lib.hid hn
    have C2 := Lib.hid (ownGraph_any [] none 0 (by simp) (fun s hs => by cases hs) (w1.alloc (.cells #[.slice none 0 0] 30)) (.inl rfl))
    clear hb1 hbx hn g1 p0 p1
    go_wp2_with fail
    refine C2.out.mono ?_
    rintro e w2 ⟨v, hs, rfl, hO, hb2⟩
    obtain ⟨ov2, cv2, rfl, -⟩ := hO.holds
    have HO := Lib.hid (hO.lower HB1.out.size)
    have HB2 := Lib.hid (HB1.out.trans (hb2.mono HB1.out.size))
    have HR3b := Lib.hid (HR3a.out.below hb2 HR3a.out.lt)
    have m0 := HR3b.out.cell (i := 0) (v := .slice none 0 0) (by rfl)
    have l0 := HR3b.out.frozen 0
    clear hO hb2 RX
    go_wp2
    have RT := HR3b.out.set 0 (.slice ov2 ([] : List Sc).length cv2)
    have d0 := RT.cell (i := 0) (v := .slice ov2 ([] : List Sc).length cv2) (by rfl)
    refine bodyPost_ret (v := .tuple #[.agg #[.slice ov2 ([] : List Sc).length cv2], .bool false]) (by simp [results, Tryd.results16, go_sem] at d0 ⊢; simp [d0]) rfl (.inl ⟨HN.out, _, hs, rfl, ?_, HB2.out.setCell (by simp; omega) _⟩)
    exact ⟨HO.out.len, ownsRow_otherN HO.out.row HR3b.out (by decide) 0 _, fun k t z h1 h2 => ownsRow_otherN (HO.out.items k t z h1 h2) HR3b.out (by decide) 0 _, HO.out.apart⟩
  · have hbx := hb1.trans ((Below.refl w1.heap.size w1).alloc (Nat.le_refl _) (.cells #[.slice ov ss.length cv] 30) |>.mono hb1.size)
    have HB1 := Lib.hid (HB.out.trans (hbx.mono HB.out.size))
    have HR3a := Lib.hid (HR3.out.below hbx HR3.out.lt)
    have RX := (Row.new w1 [.slice ov ss.length cv] 30).cell (i := 0) (by rfl)
    have HH := Lib.hid hh
    have hF2 := HF.out.rmv a.toNat b.toNat
    have hle : ∀ s ∈ rmvAt ss a b, s.items.length < 1048576 := fun s hs => by
      have hv := (Valid.rmv hh.1 a.toNat b.toNat).five s hs
      omega
    have C2 : Hid (Calls Tryd.prog 61 #[.agg #[.slice ov ss.length cv]] (w1.alloc (.cells #[.slice ov ss.length cv] 30)) fun e w' => ∃ v hs, e = .returned (.agg #[v]) ∧ OwnGr w' (w1.alloc (.cells #[.slice ov ss.length cv] 30)).heap.size v (rmvAt ss a b) hs ∧ Below (w1.alloc (.cells #[.slice ov ss.length cv] 30)).heap.size (w1.alloc (.cells #[.slice ov ss.length cv] 30)) w') := Lib.hid (by
      have h := ownGraph_any (rmvAt ss a b) ov cv (by unfold rmvAt; rw [rmvP_length]; exact HF.out.count) hle (w1.alloc (.cells #[.slice ov ss.length cv] 30)) (hho.below ((Below.refl _ _).alloc (Nat.le_refl _) _) (Nat.le_refl _))
      have e : (rmvAt ss a b).length = ss.length := by unfold rmvAt; rw [rmvP_length]
      rw [e] at h
      exact h)
    clear hb1 hbx hh hho hF2 hle g1 p0 p1
    go_wp2_with fail
    refine C2.out.mono ?_
    rintro e w2 ⟨v, hs, rfl, hO, hb2⟩
    obtain ⟨ov2, cv2, rfl, -⟩ := hO.holds
    have HO := Lib.hid (hO.lower HB1.out.size)
    have HB2 := Lib.hid (HB1.out.trans (hb2.mono HB1.out.size))
    have HR3b := Lib.hid (HR3a.out.below hb2 HR3a.out.lt)
    have m0 := HR3b.out.cell (i := 0) (v := .slice none 0 0) (by rfl)
    have l0 := HR3b.out.frozen 0
    clear hO hb2 RX
    go_wp2
    have RT := HR3b.out.set 0 (.slice ov2 (rmvAt ss a b).length cv2)
    have d0 := RT.cell (i := 0) (v := .slice ov2 (rmvAt ss a b).length cv2) (by rfl)
    refine bodyPost_ret (v := .tuple #[.agg #[.slice ov2 (rmvAt ss a b).length cv2], .bool true]) (by simp [results, Tryd.results16, go_sem, d0]) rfl (.inr ⟨HH.out, _, hs, rfl, ?_, HB2.out.setCell (by simp; omega) _⟩)
    exact ⟨HO.out.len, ownsRow_otherN HO.out.row HR3b.out (by decide) 0 _, fun k t z h1 h2 => ownsRow_otherN (HO.out.items k t z h1 h2) HR3b.out (by decide) 0 _, HO.out.apart⟩
end Go.Proofs.YtadpgoiiopfnnaaDoor
