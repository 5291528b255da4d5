/-
  The walks of the laws' markItemS, markScopeS, markGraph, heldItemS, heldScopeS and heldGraph over a graph that a call handed back: once marked, it is found marked. Condition: the graph's memory is the call's own.
-/
import Derived.Test.YtifjljkbfabifaaDoorJB
import Derived.Test.YtifjljkbfabifaaDoorJA
import Derived.Lib.QuietBelow
import Derived.BigQuiet
import Derived.ChangeSame
import Derived.ProofKit
import Derived.OpenShut
namespace Go.Proofs.YtifjljkbfabifaaDoor
open Go Go.RowKit
/-- What markText answers. -/
def markD : Nat → Nat → ByteArray → ByteArray
  | 0, _, out => out
  | f + 1, k, out => if k = 0 then out else markD f (k / 10) (strOfNums [48 + (k : Int) % 10] ++ out)
def markStr (n : Nat) : ByteArray := ByteArray.mk #[109] ++ markD n n ByteArray.empty
theorem markD_zero (f : Nat) (out : ByteArray) : markD f 0 out = out := by cases f <;> simp [markD]
set_option maxRecDepth 100000 in
set_option maxHeartbeats 1600000 in
theorem markText_is (n : Nat) (w : World) (h1 : 1 ≤ n) (hn : n ≤ 1099511627776) :
    Calls Tryd.prog 135 #[.int .i64 (n : Int)] w fun e w' => e = .returned (.string (markStr n)) ∧ Below w.heap.size w w' := by
  have k0 : decide (((n : Nat) : Int) ≤ 0) = false := by simp; omega
  go_enter Tryd.func135, Tryd.ntmps135
  go_wp2
  go_loopw [0, 3] (fun v s wr => ∃ (k f : Nat) (out : ByteArray), v = .int .i64 k ∧ s = .string out ∧ k ≤ n ∧ k ≤ f ∧ out.size ≤ 13 ∧ Hid (k * 10 ^ out.size ≤ n) ∧ Hid (markD f k out = markD n n ByteArray.empty) ∧ Below w.heap.size w wr) (fun v _ _ => (intOf v).toNat)
  case atStart => exact ⟨n, n, ByteArray.empty, rfl, rfl, Nat.le_refl _, Nat.le_refl _, by simp, Lib.hid (by simp), Lib.hid rfl, Below.refl _ _⟩
  case round =>
    obtain ⟨k, f, out, rfl, rfl, hk, hf, hsz, hd, hm, hb⟩ := hrel
    by_cases hlt : (0 : Int) < (k : Int)
    · have hconv := fun x => conv_byte wr x
      have h12 : out.size ≤ 12 := pow_small (by omega) hd.out hn
      have hs1 : (strOfNums [48 + (k : Int) % 10]).size = 1 := by rw [strOfNums_size]; rfl
      have hsum : (strOfNums [48 + (k : Int) % 10]).size + out.size ≤ 21 := by omega
      have HS : Hid ((strOfNums [48 + (k : Int) % 10] ++ out).size = out.size + 1) := Lib.hid (by rw [ByteArray.size_append, hs1]; omega)
      obtain ⟨f', rfl⟩ : ∃ f', f = f' + 1 := ⟨f - 1, by omega⟩
      have HM : Hid (markD f' (k / 10) (strOfNums [48 + (k : Int) % 10] ++ out) = markD n n ByteArray.empty) := Lib.hid (by
        have h := hm.out
        rw [show markD (f' + 1) k out = if k = 0 then out else markD f' (k / 10) (strOfNums [48 + (k : Int) % 10] ++ out) from rfl, if_neg (by omega)] at h
        exact h)
      clear hs1 hm
      go_wp2
      go_roundw
      case rel => exact ⟨k / 10, f', _, by go_num, rfl, by omega, by omega, by rw [HS.out]; omega, Lib.hid (by rw [HS.out]; exact pow_step hd.out), HM, hb.alloc hb.size _⟩
      case measure => simp only [intOf]; omega
    · obtain rfl : k = 0 := by omega
      have HE : Hid (markD n n ByteArray.empty = out) := Lib.hid (by rw [← hm.out, markD_zero])
      have hc : (ByteArray.mk #[109]).size + out.size ≤ 40 := by show 1 + out.size ≤ 40; omega
      clear hm
      go_wp2
      go_ret
      exact ⟨by unfold markStr; rw [HE.out]; rfl, hb⟩
theorem markText_z (z : Int) (n : Nat) (w : World) (hz : z = (n : Int)) (h1 : 1 ≤ n) (hn : n ≤ 1099511627776) :
    Calls Tryd.prog 135 #[.int .i64 z] w fun e w' => e = .returned (.string (markStr n)) ∧ Below w.heap.size w w' := by
  subst hz
  exact markText_is n w h1 hn
theorem markD_size : ∀ (f k : Nat) (out : ByteArray), (markD f k out).size ≤ out.size + f
  | 0, _, _ => Nat.le_refl _
  | f + 1, k, out => by
    unfold markD
    split
    · omega
    · have h := markD_size f (k / 10) (strOfNums [48 + (k : Int) % 10] ++ out)
      rw [ByteArray.size_append, strOfNums_size] at h
      simp only [List.length_cons, List.length_nil] at h
      omega
/-- Items that are marked from k on. -/
def MarkedIt (w : World) (v : Value) (n k : Nat) : Prop := ∃ oa cap, v = .slice oa n cap ∧ (n = 0 ∨ ∃ g us, oa = some ⟨g, 0, none⟩ ∧ Row w g 138 us ∧
  ∀ i, i < n → us[i * 3]? = some (.int .i64 ((k : Int) + 3 * (i : Int))) ∧ us[i * 3 + 1]? = some (.string (markStr (k + 3 * i + 1))) ∧ us[i * 3 + 2]? = some (.int .i64 ((k : Int) + 3 * (i : Int) + 2)))
theorem MarkedIt.grown {w w' : World} {v : Value} {n k : Nat} {row : Option Nat} (h : MarkedIt w v n k) (hg : w.grownBy w' row) (hne : v.ownBlock = none ∨ v.ownBlock ≠ row) : MarkedIt w' v n k := by
  obtain ⟨oa, cap, rfl, h | ⟨g, us, rfl, h2, h3⟩⟩ := h
  · exact ⟨oa, cap, rfl, .inl h⟩
  · refine ⟨_, cap, rfl, .inr ⟨g, us, rfl, h2.grown hg ?_, h3⟩⟩
    rcases hne with h | h
    · simp [Value.ownBlock] at h
    · exact h
theorem MarkedIt.set {w : World} {v x : Value} {n k g i : Nat} {cells : List Value} (h : MarkedIt w v n k) (hr : Row w g 125 cells) : MarkedIt (w.setCell ⟨g, i, none⟩ x) v n k := by
  obtain ⟨oa, cap, rfl, h | ⟨gi, us, rfl, h2, h3⟩⟩ := h
  · exact ⟨oa, cap, rfl, .inl h⟩
  · exact ⟨_, cap, rfl, .inr ⟨gi, us, rfl, h2.other (a := ⟨g, i, none⟩) (hr.neq h2 (by decide)) x, h3⟩⟩
theorem MarkedIt.below {w w' : World} {v : Value} {n k : Nat} (h : MarkedIt w v n k) (hb : Below w.heap.size w w') : MarkedIt w' v n k := by
  obtain ⟨oa, cap, rfl, h | ⟨g, us, rfl, h2, h3⟩⟩ := h
  · exact ⟨oa, cap, rfl, .inl h⟩
  · exact ⟨_, cap, rfl, .inr ⟨g, us, rfl, h2.below hb h2.lt, h3⟩⟩
theorem grownBy_of_turns {w w' : World} {g : Nat} (h : Turns w w' g g) : w.grownBy w' (some g) := ⟨h.os, h.tape, h.output, h.size, fun k hk hne => h.rest k hk (fun e => hne (by rw [e])) (fun e => hne (by rw [e]))⟩
set_option maxRecDepth 100000 in
set_option maxHeartbeats 3200000 in
theorem markItemS_own (u : Value) (B n k : Nat) (xs : List Value) (w : World) (hn : n ≤ 1048576) (h1 : k ≤ 1099000000000) (h : w.ownsRow B 138 3 u n xs) :
    Calls Tryd.prog 104 #[u, .int .i64 (k : Int)] w fun e w' => e = .returned (.int .i64 ((k : Int) + 3 * (n : Int))) ∧ MarkedIt w' u n k ∧ w.grownBy w' u.ownBlock := by
  obtain ⟨hl, ⟨rfl, rfl⟩ | ⟨g, cap, cur, rfl, hB, hh, hnc, _, hs, ht⟩⟩ := h
  · go_enter Tryd.func104, Tryd.ntmps104
    go_wp2
    go_loopw [1, 5] (fun kv i wr => kv = .int .i64 (k : Int) ∧ i = .int .i64 0 ∧ wr = w) (fun _ _ _ => 0)
    case atStart => exact ⟨rfl, rfl, rfl⟩
    case round =>
      obtain ⟨rfl, rfl, rfl⟩ := hrel
      go_wp2
      go_ret
      exact ⟨by simp, ⟨none, 0, rfl, .inl rfl⟩, ⟨rfl, rfl, rfl, Nat.le_refl _, fun _ _ _ => rfl⟩⟩
  · have HR0 : Hid (Row w g 138 cur.toList) := Lib.hid (by unfold Row; rw [hh])
    have hvl : 3 * n ≤ cur.toList.length := by rw [Array.length_toList]; omega
    generalize cur.toList = vs at *
    clear hl hh hs ht
    go_enter Tryd.func104, Tryd.ntmps104
    go_wp2
    go_loopw [1, 5] (fun kv i wr => ∃ (j : Nat) (us : List Value), kv = .int .i64 ((k : Int) + 3 * (j : Int)) ∧ i = .int .i64 j ∧ j ≤ n ∧ us.length = vs.length ∧ Hid (∀ i, i < j → us[i * 3]? = some (.int .i64 ((k : Int) + 3 * (i : Int))) ∧ us[i * 3 + 1]? = some (.string (markStr (k + 3 * i + 1))) ∧ us[i * 3 + 2]? = some (.int .i64 ((k : Int) + 3 * (i : Int) + 2))) ∧ Row wr g 138 us ∧ Turns w wr g g) (fun _ i _ => n - (intOf i).toNat)
    case atStart => exact ⟨0, vs, by simp, rfl, Nat.zero_le _, rfl, Lib.hid (fun i hi => absurd hi (by omega)), HR0.out, Turns.id _ _⟩
    case round =>
      obtain ⟨j, us, rfl, rfl, hj, hul, hus, hR, hT⟩ := hrel
      by_cases hlt : j < n
      · obtain ⟨u0, hu0⟩ : ∃ u, us[j * 3]? = some u := ⟨_, List.getElem?_eq_getElem (by omega)⟩
        obtain ⟨u1, hu1⟩ : ∃ u, us[j * 3 + 1]? = some u := ⟨_, List.getElem?_eq_getElem (by omega)⟩
        obtain ⟨u2, hu2⟩ : ∃ u, us[j * 3 + 2]? = some u := ⟨_, List.getElem?_eq_getElem (by omega)⟩
        have c0 := hR.cell hu0
        have f0 := hR.frozen (j * 3)
        have HR := Lib.hid hR
        have HT := Lib.hid hT
        have HU := Lib.hid (And.intro hul (And.intro hu1 hu2))
        have HV := Lib.hid hvl
        clear hu0 hu1 hu2 hR hT hul hvl
        go_wp2_with fail
        refine (markText_z _ (k + 3 * j + 1) _ (by omega) (by omega) (by omega)).mono ?_
        rintro e w2 ⟨rfl, hb⟩
        have hR1 := HR.out.set (j * 3) (.int .i64 ((k : Int) + 3 * (j : Int)))
        have HR2 := Lib.hid (hR1.below hb hR1.lt)
        have HT2 : Hid (Turns w w2 g g) := Lib.hid ((HT.out.trans (Turns.set _ _ _ _)).trans (.of_below hb))
        have c1 := HR2.out.cell (i := j * 3 + 1) (v := u1) (by rw [List.getElem?_set_ne (by omega)]; exact HU.out.2.1)
        have f1 := HR2.out.frozen (j * 3 + 1)
        have c2 := HR2.out.cell (i := j * 3 + 2) (v := u2) (by rw [List.getElem?_set_ne (by omega)]; exact HU.out.2.2)
        have f2 := HR2.out.frozen (j * 3 + 2)
        have HNEW : Hid (∀ i, i < j + 1 → (((us.set (j * 3) (.int .i64 ((k : Int) + 3 * (j : Int)))).set (j * 3 + 1) (.string (markStr (k + 3 * j + 1)))).set (j * 3 + 2) (.int .i64 ((k : Int) + 3 * (j : Int) + 2)))[i * 3]? = some (.int .i64 ((k : Int) + 3 * (i : Int))) ∧
            (((us.set (j * 3) (.int .i64 ((k : Int) + 3 * (j : Int)))).set (j * 3 + 1) (.string (markStr (k + 3 * j + 1)))).set (j * 3 + 2) (.int .i64 ((k : Int) + 3 * (j : Int) + 2)))[i * 3 + 1]? = some (.string (markStr (k + 3 * i + 1))) ∧
            (((us.set (j * 3) (.int .i64 ((k : Int) + 3 * (j : Int)))).set (j * 3 + 1) (.string (markStr (k + 3 * j + 1)))).set (j * 3 + 2) (.int .i64 ((k : Int) + 3 * (j : Int) + 2)))[i * 3 + 2]? = some (.int .i64 ((k : Int) + 3 * (i : Int) + 2))) := Lib.hid (by
          intro i hi
          have hlen : 3 * j + 3 ≤ us.length := by have := HU.out.1; have := HV.out; omega
          by_cases he : i = j
          · subst he
            refine ⟨?_, ?_, ?_⟩
            · rw [List.getElem?_set_ne (by omega), List.getElem?_set_ne (by omega), List.getElem?_set_self (by omega)]
            · rw [List.getElem?_set_ne (by omega), List.getElem?_set_self (by rw [List.length_set]; omega)]
            · rw [List.getElem?_set_self (by rw [List.length_set, List.length_set]; omega)]
          · obtain ⟨q0, q1, q2⟩ := hus.out i (by omega)
            refine ⟨?_, ?_, ?_⟩
            · rw [List.getElem?_set_ne (by omega), List.getElem?_set_ne (by omega), List.getElem?_set_ne (by omega)]; exact q0
            · rw [List.getElem?_set_ne (by omega), List.getElem?_set_ne (by omega), List.getElem?_set_ne (by omega)]; exact q1
            · rw [List.getElem?_set_ne (by omega), List.getElem?_set_ne (by omega), List.getElem?_set_ne (by omega)]; exact q2)
        clear hR1 hb hus
        generalize markStr (k + 3 * j + 1) = ms at *
        go_wp2
        go_roundw
        case rel => exact ⟨j + 1, _, by go_num, by go_num, by omega, by rw [List.length_set, List.length_set, List.length_set]; exact HU.out.1, HNEW, (HR2.out.set (j * 3 + 1) _).set (j * 3 + 2) _, (HT2.out.trans (Turns.set _ _ _ _)).trans (Turns.set _ _ _ _)⟩
        case measure => simp only [intOf]; omega
      · obtain rfl : j = n := by omega
        have HP := Lib.hid (And.intro hT (And.intro hR hus.out))
        clear hT hR hul hus
        go_wp2
        go_ret
        exact ⟨rfl, ⟨_, cap, rfl, .inr ⟨g, us, rfl, HP.out.2.1, HP.out.2.2⟩⟩, grownBy_of_turns HP.out.1⟩
set_option maxRecDepth 100000 in
set_option maxHeartbeats 3200000 in
theorem heldItemS_marked (u : Value) (n k : Nat) (w : World) (hn : n ≤ 1048576) (h1 : k ≤ 1099000000000) (h : MarkedIt w u n k) :
    Calls Tryd.prog 105 #[u, .int .i64 (k : Int)] w fun e w' => e = .returned (.int .i64 ((k : Int) + 3 * (n : Int))) ∧ Below w.heap.size w w' := by
  obtain ⟨oa, cap, rfl, h⟩ := h
  have H := Lib.hid h
  clear h
  go_enter Tryd.func105, Tryd.ntmps105
  go_wp2
  go_loopw [1, 5] (fun kv i wr => ∃ j : Nat, kv = .int .i64 ((k : Int) + 3 * (j : Int)) ∧ i = .int .i64 j ∧ j ≤ n ∧ Below w.heap.size w wr) (fun _ i _ => n - (intOf i).toNat)
  case atStart => exact ⟨0, by simp, rfl, Nat.zero_le _, Below.refl _ _⟩
  case round =>
    obtain ⟨j, rfl, rfl, hj, hb⟩ := hrel
    by_cases hlt : j < n
    · rcases H.out with h | ⟨g, vs, rfl, hR, hvs⟩
      · omega
      · obtain ⟨q0, q1, q2⟩ := hvs j hlt
        have c0 := (hb.cell (p := ⟨g, j * 3, none⟩) hR.lt).trans (hR.cell q0)
        have c1 := (hb.cell (p := ⟨g, j * 3 + 1, none⟩) hR.lt).trans (hR.cell q1)
        have hq : (((k : Int) + 3 * (j : Int)) != ((k : Int) + 3 * (j : Int))) = false := by simp
        have D : ∀ d os, Calls Tryd.prog 135 #[.int .i64 ((k : Int) + 3 * (j : Int) + 1)] (Sort.grow (redrawn wr d) os) fun e w'' => e = .returned (.string (markStr (k + 3 * j + 1))) ∧ ∃ q : Regrown, w'' = Sort.grow (redrawn wr q.d) q.os :=
          fun d os => Calls.regrown_of (markText_z _ (k + 3 * j + 1) _ (by omega) (by omega) (by omega))
        have HROW := Lib.hid (And.intro hR q2)
        have HB := Lib.hid hb
        clear hR hvs q0 q1 q2 hb
        generalize markStr (k + 3 * j + 1) = ms at *
        have hss : (ms.toList != ms.toList) = false := by simp
        have e1 := cell_regrown c1
        go_wp2
        refine wp_region_quiet_below (by kernel_rfl) (by kernel_rfl) ?_
        repeat (first | go_big_quiet_step (exact D _ _) | quiet_step (exact D _ _))
        refine wpQuiet_nil ?_
        intro _ hw'
        obtain ⟨⟨dq, osq⟩, hw''⟩ := hw'
        subst hw''
        have HBE := Lib.hid (HB.out.trans ((below_regrown wr dq osq).mono HB.out.size))
        have c2 := (HBE.out.cell (p := ⟨g, j * 3 + 2, none⟩) HROW.out.1.lt).trans (HROW.out.1.cell HROW.out.2)
        have hq2 : (((k : Int) + 3 * (j : Int) + 2) != ((k : Int) + 3 * (j : Int) + 2)) = false := by simp
        clear D e1 c0 c1
        generalize Sort.grow (redrawn wr dq) osq = wx at *
        go_wp2
        go_roundw
        case rel => exact ⟨j + 1, by go_num, by go_num, by omega, HBE.out⟩
        case measure => simp only [intOf]; omega
    · obtain rfl : j = n := by omega
      go_wp2
      go_ret
      exact ⟨rfl, hb⟩
theorem markItemS_z (u : Value) (B n k : Nat) (xs : List Value) (w : World) (hn : n ≤ 1048576) (h1 : k ≤ 1099000000000) (h : w.ownsRow B 138 3 u n xs) (z : Int) (hz : z = (k : Int)) :
    Calls Tryd.prog 104 #[u, .int .i64 z] w fun e w' => e = .returned (.int .i64 ((k : Int) + 3 * (n : Int))) ∧ MarkedIt w' u n k ∧ w.grownBy w' u.ownBlock := by
  subst hz
  exact markItemS_own u B n k xs w hn h1 h
theorem heldItemS_z (u : Value) (n k : Nat) (w : World) (hn : n ≤ 1048576) (h1 : k ≤ 1099000000000) (h : MarkedIt w u n k) (z : Int) (hz : z = (k : Int)) :
    Calls Tryd.prog 105 #[u, .int .i64 z] w fun e w' => e = .returned (.int .i64 ((k : Int) + 3 * (n : Int))) ∧ Below w.heap.size w w' := by
  subst hz
  exact heldItemS_marked u n k w hn h1 h
/-- While a graph's scopes are marked. -/
structure MarkRun (w0 w : World) (B g : Nat) (us : List Sc) (hs : List Value) (k j : Nat) (cells : List Value) : Prop where
  row : Row w g 125 cells
  len : 2 * us.length ≤ cells.length
  heads : ∀ i u, hs[i]? = some u → cells[i * 2 + 1]? = some u
  done : ∀ i s u, i < j → us[i]? = some s → hs[i]? = some u → cells[i * 2]? = some (.int .i64 ((k : Int) + (marks (us.take i) : Int))) ∧ MarkedIt w u s.items.length (k + marks (us.take i) + 1)
  todo : ∀ i s u, j ≤ i → us[i]? = some s → hs[i]? = some u → ∃ xs, w.ownsRow B 138 3 u s.items.length xs
  below : Below B w0 w
  keep : ∀ (T : Nat) (t : TypeId) (vs : List Value), Row w0 T t vs → t ≠ 125 → t ≠ 138 → Row w T t vs
/-- A graph that is marked from k on. -/
def MarkedGr (w : World) (v : Value) (us : List Sc) (k : Nat) : Prop := ∃ oa cap, v = .slice oa us.length cap ∧ (us.length = 0 ∨ ∃ (g : Nat) (cells hs : List Value), oa = some ⟨g, 0, none⟩ ∧ Row w g 125 cells ∧ hs.length = us.length ∧
  ∀ (i : Nat) (s : Sc) (u : Value), us[i]? = some s → hs[i]? = some u → cells[i * 2]? = some (.int .i64 ((k : Int) + (marks (us.take i) : Int))) ∧ cells[i * 2 + 1]? = some u ∧ MarkedIt w u s.items.length (k + marks (us.take i) + 1))
theorem MarkedGr.below {w w' : World} {v : Value} {us : List Sc} {k : Nat} (h : MarkedGr w v us k) (hb : Below w.heap.size w w') : MarkedGr w' v us k := by
  obtain ⟨oa, cap, rfl, h | ⟨g, cells, hs, rfl, h2, h3, h4⟩⟩ := h
  · exact ⟨oa, cap, rfl, .inl h⟩
  · exact ⟨_, cap, rfl, .inr ⟨g, cells, hs, rfl, h2.below hb h2.lt, h3, fun i s u q1 q2 => by obtain ⟨a, b, c⟩ := h4 i s u q1 q2; exact ⟨a, b, c.below hb⟩⟩⟩
theorem below_of_grown {w w' : World} {B : Nat} {row : Option Nat} (hg : w.grownBy w' row) (hB : B ≤ w.heap.size) (hr : ∀ g, row = some g → B ≤ g) : Below B w w' :=
  ⟨hg.os, hg.tape, hg.output, hg.size, fun b hb => hg.block b (Nat.lt_of_lt_of_le hb hB) (fun e => by have := hr b e.symm; omega)⟩
/-- One scope more is marked. -/
theorem MarkRun.step {w0 w w' : World} {B g k j cap : Nat} {us : List Sc} {hs cells : List Value} (hO : OwnGr w0 B (.slice (some ⟨g, 0, none⟩) us.length cap) us hs) (h : MarkRun w0 w B g us hs k j cells) {s : Sc} {u : Value} (hs' : us[j]? = some s) (hu : hs[j]? = some u) (hB : B ≤ w0.heap.size) (hBg : B ≤ g)
    (hgr : (w.setCell ⟨g, j * 2, none⟩ (.int .i64 ((k : Int) + (marks (us.take j) : Int)))).grownBy w' u.ownBlock) (hm : MarkedIt w' u s.items.length (k + marks (us.take j) + 1)) :
    MarkRun w0 w' B g us hs k (j + 1) (cells.set (j * 2) (.int .i64 ((k : Int) + (marks (us.take j) : Int)))) := by
  obtain ⟨xs, hown⟩ := h.todo j s u (Nat.le_refl _) hs' hu
  have hjl := (List.getElem?_eq_some_iff.1 hs').1
  have hR1 := h.row.set (j * 2) (.int .i64 ((k : Int) + (marks (us.take j) : Int)))
  have hown1 := ownsRow_otherN hown h.row (by decide) (j * 2) (.int .i64 ((k : Int) + (marks (us.take j) : Int)))
  have hb1 : Below B w0 (w.setCell ⟨g, j * 2, none⟩ (.int .i64 ((k : Int) + (marks (us.take j) : Int)))) := h.below.setCell hBg _
  refine ⟨hR1.grown hgr (ownsRow_ne2 hR1 (by decide) hown1), by rw [List.length_set]; exact h.len, fun i v hv => ?_, fun i t v hi ht hv => ?_, fun i t v hi ht hv => ?_, ?_, fun T t vs hr n1 n2 => ?_⟩
  · rw [List.getElem?_set_ne (by omega)]; exact h.heads i v hv
  · by_cases he : i = j
    · subst he
      rw [hs'] at ht; cases ht
      rw [hu] at hv; cases hv
      exact ⟨List.getElem?_set_self (by have := h.len; omega), hm⟩
    · obtain ⟨a, b⟩ := h.done i t v (by omega) ht hv
      exact ⟨by rw [List.getElem?_set_ne (by omega)]; exact a, (b.set h.row).grown hgr (hO.apart i j v u he hv hu)⟩
  · obtain ⟨ys, hy⟩ := h.todo i t v (by omega) ht hv
    exact ⟨ys, ownsRow_apart (ownsRow_otherN hy h.row (by decide) (j * 2) _) hgr (hO.apart i j v u (by omega) hv hu)⟩
  · exact hb1.trans (below_of_grown hgr (Nat.le_trans hB hb1.size) (fun gg e => (hown1.lt gg e).1))
  · have hr1 := (h.keep T t vs hr n1 n2).other (a := ⟨g, j * 2, none⟩) (h.row.neq (h.keep T t vs hr n1 n2) (Ne.symm n1)) (.int .i64 ((k : Int) + (marks (us.take j) : Int)))
    exact hr1.grown hgr (ownsRow_ne2 hr1 n2 hown1)
set_option maxRecDepth 100000 in
set_option maxHeartbeats 3200000 in
theorem markScopeS_own (v : Value) (B : Nat) (us : List Sc) (hs : List Value) (k : Nat) (w : World) (hB : B ≤ w.heap.size) (hl : us.length ≤ 1000000) (hil : ∀ s ∈ us, s.items.length ≤ 1048576) (hm : marks us ≤ 1000000000) (h1 : k ≤ 1048576) (hO : OwnGr w B v us hs) :
    Calls Tryd.prog 67 #[v, .int .i64 (k : Int)] w fun e w' => e = .returned (.int .i64 ((k : Int) + (marks us : Int))) ∧ MarkedGr w' v us k ∧ Below B w w' ∧ (∀ (T : Nat) (t : TypeId) (vs : List Value), Row w T t vs → t ≠ 125 → t ≠ 138 → Row w' T t vs) := by
  have HO := Lib.hid hO
  obtain ⟨hlen, hrow, -, -⟩ := hO
  obtain ⟨hll, ⟨rfl, h0⟩ | ⟨g, cap, cur, rfl, hBg, hh, hnc, _, hsz, htk⟩⟩ := hrow
  · obtain rfl := List.eq_nil_of_length_eq_zero h0
    go_enter Tryd.func67, Tryd.ntmps67
    go_wp2
    go_loopw [1, 5] (fun kv i wr => kv = .int .i64 (k : Int) ∧ i = .int .i64 0 ∧ wr = w) (fun _ _ _ => 0)
    case atStart => exact ⟨rfl, rfl, rfl⟩
    case round =>
      obtain ⟨rfl, rfl, rfl⟩ := hrel
      go_wp2
      go_ret
      exact ⟨by simp [marks], ⟨none, 0, rfl, .inl rfl⟩, Below.refl _ _, fun _ _ _ h _ _ => h⟩
  · have HR0 : Hid (MarkRun w w B g us hs k 0 cur.toList) := Lib.hid (by
      have hrw : Row w g 125 cur.toList := by unfold Row; rw [hh]
      have h9 : cur.toList.length = cap * 2 := by rw [Array.length_toList]; exact hsz
      refine ⟨hrw, by rw [h9]; omega, fun i u hu => ?_, fun i s u hi => absurd hi (Nat.not_lt_zero _), fun i s u _ h1 h2 => ⟨_, HO.out.items i s u h1 h2⟩, Below.refl _ _, fun _ _ _ h _ _ => h⟩
      obtain ⟨s, hs'⟩ : ∃ s, us[i]? = some s := ⟨_, List.getElem?_eq_getElem (by have := (List.getElem?_eq_some_iff.1 hu).1; omega)⟩
      have h2 := (scRow_at hs' hu).2
      rw [← htk, List.getElem?_take] at h2
      split at h2
      · exact h2
      · cases h2)
    have HL := Lib.hid (And.intro hlen (And.intro hB (And.intro hBg hil)))
    generalize cur.toList = cells0 at *
    clear hll hh hsz htk hlen hB hBg hil
    go_enter Tryd.func67, Tryd.ntmps67
    go_wp2
    go_loopw [1, 5] (fun kv i wr => ∃ (j : Nat) (cells : List Value), kv = .int .i64 ((k : Int) + (marks (us.take j) : Int)) ∧ i = .int .i64 j ∧ j ≤ us.length ∧ Hid (MarkRun w wr B g us hs k j cells)) (fun _ i _ => us.length - (intOf i).toNat)
    case atStart => exact ⟨0, cells0, by simp [marks], rfl, Nat.zero_le _, HR0⟩
    case round =>
      obtain ⟨j, cells, rfl, rfl, hj, hM⟩ := hrel
      by_cases hlt : j < us.length
      · obtain ⟨s, hs'⟩ : ∃ s, us[j]? = some s := ⟨_, List.getElem?_eq_getElem hlt⟩
        obtain ⟨u, hu⟩ : ∃ u, hs[j]? = some u := ⟨_, List.getElem?_eq_getElem (by have := HL.out.1; omega)⟩
        have HST := Lib.hid (marks_step hs')
        have hle := marks_take_le us (j + 1)
        have hle2 := marks_take_le us j
        obtain ⟨xs, hown⟩ := hM.out.todo j s u (Nat.le_refl _) hs' hu
        obtain ⟨oi, ci, rfl⟩ := ownsRow_slice hown
        obtain ⟨u0, hu0⟩ : ∃ u, cells[j * 2]? = some u := ⟨_, List.getElem?_eq_getElem (by have := hM.out.len; omega)⟩
        have c0 := hM.out.row.cell hu0
        have f0 := hM.out.row.frozen (j * 2)
        have c1 := hM.out.row.cell (hM.out.heads j _ hu)
        have HS := Lib.hid (And.intro hs' hu)
        have hil : s.items.length ≤ 1048576 := HL.out.2.2.2 s (List.mem_of_getElem? hs')
        have C := Lib.hid (markItemS_z (.slice oi s.items.length ci) B s.items.length (k + marks (us.take j) + 1) xs (wr.setCell ⟨g, j * 2, none⟩ (.int .i64 ((k : Int) + (marks (us.take j) : Int)))) hil (by omega) (ownsRow_otherN hown hM.out.row (by decide) (j * 2) _))
        clear hs' hu hu0 hown
        go_wp2_with fail
        refine (C.out _ (by omega)).mono ?_
        rintro e w3 ⟨rfl, hm3, hg3⟩
        have HM3 := Lib.hid (hM.out.step HO.out HS.out.1 HS.out.2 HL.out.2.1 HL.out.2.2.1 hg3 hm3)
        have HK : Hid (((k + marks (us.take j) + 1 : Nat) : Int) + 3 * (s.items.length : Int) = (k : Int) + (marks (us.take (j + 1)) : Int)) := Lib.hid (by rw [HST.out]; omega)
        clear hm3 hg3 c0 f0 c1
        go_wp2
        go_roundw
        case rel => exact ⟨j + 1, _, by rw [← HK.out]; congr 1, by go_num, by omega, HM3⟩
        case measure => simp only [intOf]; omega
      · obtain rfl : j = us.length := by omega
        go_wp2
        go_ret
        refine ⟨by rw [List.take_length]; rfl, ⟨_, cap, rfl, .inr ⟨g, cells, hs, rfl, hM.out.row, HL.out.1, fun i s u h1 h2 => ?_⟩⟩, hM.out.below, hM.out.keep⟩
        obtain ⟨a, b⟩ := hM.out.done i s u (List.getElem?_eq_some_iff.1 h1).1 h1 h2
        exact ⟨a, hM.out.heads i u h2, b⟩
set_option maxRecDepth 100000 in
set_option maxHeartbeats 3200000 in
theorem heldScopeS_marked (v : Value) (us : List Sc) (k : Nat) (w : World) (hl : us.length ≤ 1000000) (hil : ∀ s ∈ us, s.items.length ≤ 1048576) (hm : marks us ≤ 1000000000) (h1 : k ≤ 1048576) (h : MarkedGr w v us k) :
    Calls Tryd.prog 68 #[v, .int .i64 (k : Int)] w fun e w' => e = .returned (.int .i64 ((k : Int) + (marks us : Int))) ∧ Below w.heap.size w w' := by
  obtain ⟨oa, cap, rfl, h⟩ := h
  have H := Lib.hid h
  have HIL := Lib.hid hil
  clear h hil
  go_enter Tryd.func68, Tryd.ntmps68
  go_wp2
  go_loopw [1, 5] (fun kv i wr => ∃ j : Nat, kv = .int .i64 ((k : Int) + (marks (us.take j) : Int)) ∧ i = .int .i64 j ∧ j ≤ us.length ∧ Hid (Below w.heap.size w wr)) (fun _ i _ => us.length - (intOf i).toNat)
  case atStart => exact ⟨0, by simp [marks], rfl, Nat.zero_le _, Lib.hid (Below.refl _ _)⟩
  case round =>
    obtain ⟨j, rfl, rfl, hj, hb⟩ := hrel
    by_cases hlt : j < us.length
    · rcases H.out with h | ⟨g, cells, hs, rfl, hR, hhl, hall⟩
      · omega
      · obtain ⟨s, hs'⟩ : ∃ s, us[j]? = some s := ⟨_, List.getElem?_eq_getElem hlt⟩
        obtain ⟨u, hu⟩ : ∃ u, hs[j]? = some u := ⟨_, List.getElem?_eq_getElem (by omega)⟩
        obtain ⟨q0, q1, q2⟩ := hall j s u hs' hu
        have HST := Lib.hid (marks_step hs')
        have hle := marks_take_le us (j + 1)
        have hle2 := marks_take_le us j
        have c0 := (hb.out.cell (p := ⟨g, j * 2, none⟩) hR.lt).trans (hR.cell q0)
        have c1 := (hb.out.cell (p := ⟨g, j * 2 + 1, none⟩) hR.lt).trans (hR.cell q1)
        have hq : (((k : Int) + (marks (us.take j) : Int)) != ((k : Int) + (marks (us.take j) : Int))) = false := by simp
        have C := Lib.hid (heldItemS_z u s.items.length (k + marks (us.take j) + 1) wr (HIL.out s (List.mem_of_getElem? hs')) (by omega) (q2.below hb.out))
        obtain ⟨oi, ci, rfl, -⟩ := q2
        have hneg : decide (((k + marks (us.take j) + 1 : Nat) : Int) + 3 * (s.items.length : Int) < 0) = false := by simp; omega
        clear hall q0 q1 hR hs' hu
        go_wp2_with fail
        refine (C.out _ (by omega)).mono ?_
        rintro e w3 ⟨rfl, hb3⟩
        have HB3 := Lib.hid (hb.out.trans (hb3.mono hb.out.size))
        have HK : Hid (((k + marks (us.take j) + 1 : Nat) : Int) + 3 * (s.items.length : Int) = (k : Int) + (marks (us.take (j + 1)) : Int)) := Lib.hid (by rw [HST.out]; omega)
        clear hb3 c0 c1
        go_wp2
        go_roundw
        case rel => exact ⟨j + 1, by rw [← HK.out]; congr 1, by go_num, by omega, HB3⟩
        case measure => simp only [intOf]; omega
    · obtain rfl : j = us.length := by omega
      go_wp2
      go_ret
      exact ⟨by rw [List.take_length]; rfl, hb.out⟩
set_option maxRecDepth 100000 in
theorem markGraph_own (v : Value) (B : Nat) (us : List Sc) (hs : List Value) (w : World) (hB : B ≤ w.heap.size) (hl : us.length ≤ 1000000) (hil : ∀ s ∈ us, s.items.length ≤ 1048576) (hm : marks us ≤ 1000000000) (hO : OwnGr w B v us hs) :
    Calls Tryd.prog 26 #[.agg #[v], .int .i64 1] w fun e w' => e = .returned (.int .i64 (1 + (marks us : Int))) ∧ MarkedGr w' v us 1 ∧ Below B w w' ∧ (∀ (T : Nat) (t : TypeId) (vs : List Value), Row w T t vs → t ≠ 125 → t ≠ 138 → Row w' T t vs) := by
  obtain ⟨oa, cap, rfl, -⟩ := hO.holds
  have hb0 := (Below.refl w.heap.size w).alloc (Nat.le_refl _) (.cells #[.slice oa us.length cap] 30)
  have C := Lib.hid (markScopeS_own (.slice oa us.length cap) B us hs 1 _ (Nat.le_trans hB hb0.size) hl hil hm (by omega) (hO.below hb0))
  have HB := Lib.hid (hb0.mono hB)
  clear hO hb0
  go_enter Tryd.func26, Tryd.ntmps26
  go_wp2_with fail
  refine C.out.mono ?_
  rintro e w1 ⟨rfl, hm, hb, hk⟩
  have HM := Lib.hid (And.intro hm (And.intro (HB.out.trans hb) (fun (T : Nat) (t : TypeId) (vs : List Value) (h : Row w T t vs) n1 n2 => hk T t vs (h.alloc _) n1 n2)))
  clear hm hb hk
  go_wp2
  go_ret
  exact ⟨rfl, HM.out⟩
set_option maxRecDepth 100000 in
theorem heldGraph_marked (v : Value) (us : List Sc) (w : World) (hl : us.length ≤ 1000000) (hil : ∀ s ∈ us, s.items.length ≤ 1048576) (hm : marks us ≤ 1000000000) (h : MarkedGr w v us 1) :
    Calls Tryd.prog 27 #[.agg #[v], .int .i64 1] w fun e w' => e = .returned (.int .i64 (1 + (marks us : Int))) ∧ Below w.heap.size w w' := by
  obtain ⟨oa, cap, rfl, hh⟩ := id h
  have hb0 := (Below.refl w.heap.size w).alloc (Nat.le_refl _) (.cells #[.slice oa us.length cap] 30)
  have C := Lib.hid (heldScopeS_marked (.slice oa us.length cap) us 1 _ hl hil hm (by omega) (h.below hb0))
  have hneg : decide ((1 : Int) + (marks us : Int) < 0) = false := by simp; omega
  have HB := Lib.hid hb0
  clear h hh hb0
  go_enter Tryd.func27, Tryd.ntmps27
  go_wp2_with fail
  refine C.out.mono ?_
  rintro e w1 ⟨rfl, hb⟩
  have HB2 := Lib.hid (HB.out.trans (hb.mono HB.out.size))
  clear hb
  go_wp2
  go_ret
  exact ⟨rfl, HB2.out⟩
/-- A graph and a truth, as a call hands them back. -/
def GrGot (ok : Prop) (l : List Sc) (w : World) (e : Ending) (w' : World) : Prop :=
  (¬ ok ∧ ∃ v hs, e = .returned (.tuple #[.agg #[v], .bool false]) ∧ OwnGr w' w.heap.size v [] hs ∧ Below w.heap.size w w') ∨
  (ok ∧ ∃ v hs, e = .returned (.tuple #[.agg #[v], .bool true]) ∧ OwnGr w' w.heap.size v l hs ∧ Below w.heap.size w w')
def grVal (ok : Prop) (l : List Sc) (xs : List Sc) (b : Bool) : Prop := (¬ ok ∧ xs = [] ∧ b = false) ∨ (ok ∧ xs = l ∧ b = true)
theorem OwnGr.nil (w : World) (B : Nat) : OwnGr w B (.slice none 0 0) [] [] :=
  ⟨rfl, World.ownsRow_nil _ _ _ _, fun i s u h => by simp at h, fun i j u u' _ h => by simp at h⟩
theorem GrGot.val {ok : Prop} {l : List Sc} {w w' : World} {e : Ending} (h : GrGot ok l w e w') : ∃ oa cap xs hs b, e = .returned (.tuple #[.agg #[.slice oa xs.length cap], .bool b]) ∧ grVal ok l xs b ∧ HoldsScopes w' oa xs ∧ OwnGr w' w.heap.size (.slice oa xs.length cap) xs hs ∧ Below w.heap.size w w' := by
  rcases h with ⟨h1, v, hs, rfl, ho, hb⟩ | ⟨h1, v, hs, rfl, ho, hb⟩
  · obtain ⟨oa, cap, rfl, hh⟩ := ho.holds
    exact ⟨oa, cap, [], hs, false, rfl, .inl ⟨h1, rfl, rfl⟩, hh, ho, hb⟩
  · obtain ⟨oa, cap, rfl, hh⟩ := ho.holds
    exact ⟨oa, cap, l, hs, true, rfl, .inr ⟨h1, rfl, rfl⟩, hh, ho, hb⟩
theorem grVal.same {ok : Prop} {l xs ys : List Sc} {b c : Bool} (h : grVal ok l xs b) (k : grVal ok l ys c) : xs = ys ∧ b = c := by
  rcases h with ⟨h1, h2, h3⟩ | ⟨h1, h2, h3⟩ <;> rcases k with ⟨k1, k2, k3⟩ | ⟨k1, k2, k3⟩
  · exact ⟨by rw [h2, k2], by rw [h3, k3]⟩
  · exact absurd k1 h1
  · exact absurd h1 k1
  · exact ⟨by rw [h2, k2], by rw [h3, k3]⟩
/-- Graphs small enough for the laws' marks. -/
structure SmallGr (us : List Sc) : Prop where
  len : us.length ≤ 1000
  items : ∀ s ∈ us, s.items.length ≤ 1000
theorem grVal.small {ok : Prop} {l xs : List Sc} {b : Bool} (h : grVal ok l xs b) (hl : ok → SmallGr l) : SmallGr xs := by
  rcases h with ⟨_, h2, _⟩ | ⟨h1, h2, _⟩
  · subst h2; exact ⟨by simp, fun s hs => by cases hs⟩
  · subst h2; exact hl h1
theorem marks_bound (n : Nat) : ∀ us : List Sc, (∀ s ∈ us, s.items.length ≤ n) → marks us ≤ us.length * (1 + 3 * n)
  | [], _ => by simp [marks]
  | s :: r, h => by
    have h1 := marks_bound n r (fun t ht => h t (List.mem_cons_of_mem _ ht))
    have h2 := h s List.mem_cons_self
    simp only [marks, List.length_cons, Nat.add_mul, Nat.one_mul]
    omega
theorem SmallGr.marks {us : List Sc} (h : SmallGr us) : marks us ≤ 1000000000 := by
  have h1 := marks_bound 1000 us h.items
  have h2 := Nat.mul_le_mul_right (1 + 3 * 1000) h.len
  omega
theorem OwnGr.mid {b0 b1 B : Nat} {w w' : World} {v : Value} {us : List Sc} {hs : List Value} (h : OwnGr w B v us hs) (hB : b1 ≤ B) (hm : Mid b0 b1 w w') : OwnGr w' B v us hs := by
  have key : ∀ {e : TypeId} {size n : Nat} {u : Value} {xs : List Value}, w.ownsRow B e size u n xs → w'.ownsRow B e size u n xs := fun {e size n u xs} hr => by
    have hlt := hr.lt
    obtain ⟨h1, h2 | ⟨g, cap, cur, hv, hBg, hh, r⟩⟩ := hr
    · exact ⟨h1, .inl h2⟩
    · exact ⟨h1, .inr ⟨g, cap, cur, hv, hBg, (hm.rest g (Array.getElem?_eq_some_iff.1 hh).1 (.inr (Nat.le_trans hB hBg))).trans hh, r⟩⟩
  exact ⟨h.len, key h.row, fun i s u h1 h2 => key (h.items i s u h1 h2), h.apart⟩
end Go.Proofs.YtifjljkbfabifaaDoor
