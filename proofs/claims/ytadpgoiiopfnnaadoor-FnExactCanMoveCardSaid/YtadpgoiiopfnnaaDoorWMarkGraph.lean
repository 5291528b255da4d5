/-
  The walks of the laws' eqIntS, markIntS, heldIntS: lists of numbers compared, marked, and found marked. Condition: the lists' memory is their own. The walk of the laws' markText: a short text comes back, and only new memory is written. Plain facts. The walks of the laws' markItemS, markScopeS, markGraph over a graph of one's own: a number from 0 on comes back, and no block turns but those of the graph. Plain facts.
-/
import Derived.Test.YtadpgoiiopfnnaaDoorWSpecChain
import Derived.Laws.BytesArg
import Derived.Lib.ItoaLen
import Derived.Test.YtadpgoiiopfnnaaDoorWEq
import Derived.Test.YtadpgoiiopfnnaaDoorPlaced
namespace Go.Proofs.YtadpgoiiopfnnaaDoor
open Go Go.RowKit
/-- A slice's cells hold these numbers. -/
def HoldsInts (w : World) (oa : Option Addr) (xs : List Int) : Prop :=
  xs = [] ∨ ∃ b off, oa = some ⟨b, off, none⟩ ∧ b < w.heap.size ∧ ∀ i x, xs[i]? = some x → w.cell? ⟨b, off + i, none⟩ = some (.int .i64 x)
theorem HoldsInts.below {w w' : World} {oa : Option Addr} {xs : List Int} (h : HoldsInts w oa xs) (hb : Below w.heap.size w w') : HoldsInts w' oa xs := by
  rcases h with h | ⟨b, off, h1, h2, h3⟩
  · exact .inl h
  · exact .inr ⟨b, off, h1, Nat.lt_of_lt_of_le h2 hb.size, fun i x hx => (hb.cell (p := ⟨b, _, none⟩) h2).trans (h3 i x hx)⟩
theorem HoldsInts.at {w : World} {oa : Option Addr} {xs : List Int} (h : HoldsInts w oa xs) (hne : 0 < xs.length) : ∃ b off, oa = some ⟨b, off, none⟩ ∧ b < w.heap.size ∧ ∀ i x, xs[i]? = some x → w.cell? ⟨b, off + i, none⟩ = some (.int .i64 x) := by
  rcases h with h | h
  · subst h; simp at hne
  · exact h
def natInts (l : List Nat) : List Int := l.map fun (m : Nat) => (m : Int)
theorem holdsInts_of_owns {w : World} {B : Nat} {v : Value} {l : List Nat} (h : w.ownsRow B 3 1 v l.length (numVals l)) : ∃ oa cap, v = .slice oa (natInts l).length cap ∧ HoldsInts w oa (natInts l) := by
  have hln : (natInts l).length = l.length := by simp [natInts]
  obtain ⟨hl, h2 | ⟨g, cap, cur, hv, hB, hh, hn, _, hs, ht⟩⟩ := h
  · refine ⟨none, 0, by rw [h2.1, hln, h2.2], .inl ?_⟩
    have := List.eq_nil_of_length_eq_zero h2.2
    rw [this]; rfl
  · refine ⟨_, cap, by rw [hln]; exact hv, .inr ⟨g, 0, rfl, (Array.getElem?_eq_some_iff.1 hh).1, fun i x hx => ?_⟩⟩
    have hil := (List.getElem?_eq_some_iff.1 hx).1
    have hx' : (numVals l)[i]? = some (.int .i64 x) := by
      unfold natInts at hx
      unfold numVals
      rw [List.getElem?_map] at hx ⊢
      cases e : l[i]? with
      | none => rw [e] at hx; cases hx
      | some m => rw [e] at hx; simp at hx; subst hx; rfl
    rw [← ht, List.getElem?_take_of_lt (by omega)] at hx'
    rw [Nat.zero_add]
    simp [World.cell?, hh]
    simpa using hx'
/-- A row of numbers that is the list's own. -/
def OwnInts (w : World) (B : Nat) (oa : Option Addr) (n : Nat) : Prop := n = 0 ∨ ∃ (g : Nat) (vs : List Value), oa = some ⟨g, 0, none⟩ ∧ B ≤ g ∧ Row w g 3 vs ∧ n ≤ vs.length
/-- It holds the numbers from k on. -/
def Marked (w : World) (oa : Option Addr) (n : Nat) (k : Int) : Prop := n = 0 ∨ ∃ (g : Nat) (vs : List Value), oa = some ⟨g, 0, none⟩ ∧ Row w g 3 vs ∧ ∀ i, i < n → vs[i]? = some (.int .i64 (k + i))
theorem ownInts_of_owns {w : World} {B n : Nat} {oa : Option Addr} {cap : Nat} {xs : List Value} (h : w.ownsRow B 3 1 (.slice oa n cap) n xs) : OwnInts w B oa n := by
  obtain ⟨hl, h2 | ⟨g, cap', cur, hv, hB, hh, hn, _, hs, ht⟩⟩ := h
  · exact .inl h2.2
  · simp only [Value.slice.injEq] at hv
    obtain ⟨rfl, _, _⟩ := hv
    exact .inr ⟨g, cur.toList, rfl, hB, hh, by rw [Array.length_toList]; omega⟩
theorem OwnInts.below {w w' : World} {B n : Nat} {oa : Option Addr} (h : OwnInts w B oa n) (hb : Below w.heap.size w w') : OwnInts w' B oa n := by
  rcases h with h | ⟨g, vs, h1, h2, h3, h4⟩
  · exact .inl h
  · exact .inr ⟨g, vs, h1, h2, h3.below hb h3.lt, h4⟩
theorem Marked.below {w w' : World} {n : Nat} {oa : Option Addr} {k : Int} (h : Marked w oa n k) (hb : Below w.heap.size w w') : Marked w' oa n k := by
  rcases h with h | ⟨g, vs, h1, h3, h4⟩
  · exact .inl h
  · exact .inr ⟨g, vs, h1, h3.below hb h3.lt, h4⟩
end Go.Proofs.YtadpgoiiopfnnaaDoor
namespace Go.Proofs.YtadpgoiiopfnnaaDoor
open Go Go.RowKit
theorem byte_cell (w : World) (x : Int) (i : Nat) (hi : i < 1) : (w.alloc (.cells #[.int .u8 x] 5)).cell? ⟨w.heap.size, 0 + i, none⟩ = some (.int .u8 ([x].getD i 0)) := by
  obtain rfl : i = 0 := by omega
  simp
theorem conv_byte (w : World) (x : Int) : (convert 58 9 (.slice (some ⟨w.heap.size, 0, none⟩) 1 1)).run Tryd.prog (w.alloc (.cells #[.int .u8 x] 5)) = .ok (.string (strOfNums [x])) (w.alloc (.cells #[.int .u8 x] 5)) :=
  run_convert_bytes_arg _ 58 5 Tryd.underlying58 Tryd.underlying5 w.heap.size 0 1 1 [x] rfl (byte_cell w x) 9 Tryd.underlying9
theorem pow_small {d k K : Nat} (hk : 1 ≤ k) (h : k * 10 ^ d ≤ K) (hK : K ≤ 1099511627776) : d ≤ 12 := by
  rcases Nat.lt_or_ge 12 d with hd | hd
  · have h1 : 10 ^ 13 ≤ 10 ^ d := Nat.pow_le_pow_right (by omega) hd
    have h2 : 1 * 10 ^ d ≤ k * 10 ^ d := Nat.mul_le_mul_right _ hk
    omega
  · exact hd
theorem pow_step {d k K : Nat} (h : k * 10 ^ d ≤ K) : k / 10 * 10 ^ (d + 1) ≤ K := by
  have h1 : k / 10 * 10 ≤ k := Nat.div_mul_le_self k 10
  have h2 : k / 10 * 10 ^ (d + 1) = k / 10 * 10 * 10 ^ d := by rw [Nat.pow_succ, Nat.mul_comm (10 ^ d) 10, ← Nat.mul_assoc]
  rw [h2]
  exact Nat.le_trans (Nat.mul_le_mul_right _ h1) h
set_option maxRecDepth 100000 in
set_option maxHeartbeats 1600000 in
theorem markText_any (n : Nat) (w : World) (h1 : 1 ≤ n) (hn : n ≤ 1099511627776) :
    Calls Tryd.prog 143 #[.int .i64 (n : Int)] w fun e w' => ∃ s : ByteArray, e = .returned (.string s) ∧ s.size ≤ 40 ∧ Below w.heap.size w w' := by
  have k0 : decide (((n : Nat) : Int) ≤ 0) = false := by simp; omega
  go_enter Tryd.func143, Tryd.ntmps143
  go_wp2
  go_loopw [0, 3] (fun v s wr => ∃ (k : Nat) (out : ByteArray), v = .int .i64 k ∧ s = .string out ∧ k ≤ n ∧ out.size ≤ 13 ∧ Hid (k * 10 ^ out.size ≤ n) ∧ Below w.heap.size w wr) (fun v _ _ => (intOf v).toNat)
  case atStart => exact ⟨n, ByteArray.empty, rfl, rfl, Nat.le_refl _, by simp, Lib.hid (by simp), Below.refl _ _⟩
  case round =>
    obtain ⟨k, out, rfl, rfl, hk, hsz, hd, hb⟩ := hrel
    by_cases hlt : (0 : Int) < (k : Int)
    · have hconv := fun x => conv_byte wr x
      have h12 : out.size ≤ 12 := pow_small (by omega) hd.out hn
      have hs1 : (strOfNums [48 + (k : Int) % 10]).size = 1 := by rw [strOfNums_size]; rfl
      have hsum : (strOfNums [48 + (k : Int) % 10]).size + out.size ≤ 21 := by omega
      have HS : Hid ((strOfNums [48 + (k : Int) % 10] ++ out).size = out.size + 1) := Lib.hid (by rw [ByteArray.size_append, hs1]; omega)
      clear hs1
      go_wp2
      go_roundw
      case rel => exact ⟨k / 10, _, by go_num, rfl, by omega, by rw [HS.out]; omega, Lib.hid (by rw [HS.out]; exact pow_step hd.out), hb.alloc hb.size _⟩
      case measure => simp only [intOf]; omega
    · have hc : (ByteArray.mk #[109]).size + out.size ≤ 40 := by show 1 + out.size ≤ 40; omega
      have HS : Hid ((ByteArray.mk #[109] ++ out).size ≤ 40) := Lib.hid (by rw [ByteArray.size_append]; exact hc)
      go_wp2
      go_ret
      exact ⟨_, rfl, HS.out, hb⟩
end Go.Proofs.YtadpgoiiopfnnaaDoor
namespace Go.Proofs.YtadpgoiiopfnnaaDoor
open Go Go.RowKit
theorem markText_int (z : Int) (w : World) (h1 : 1 ≤ z) (hn : z ≤ 1099511627776) :
    Calls Tryd.prog 143 #[.int .i64 z] w fun e w' => ∃ s : ByteArray, e = .returned (.string s) ∧ s.size ≤ 40 ∧ Below w.heap.size w w' := by
  obtain ⟨n, rfl⟩ : ∃ n : Nat, z = (n : Int) := ⟨z.toNat, by omega⟩
  exact markText_any n w (by omega) (by omega)
theorem Turns.set (w : World) (g i : Nat) (v : Value) : Turns w (w.setCell ⟨g, i, none⟩ v) g g :=
  ⟨rfl, rfl, rfl, by simp, fun b _ h _ => Below.heap_setCell _ _ _ _ h⟩
theorem Turns.id (w : World) (g : Nat) : Turns w w g g := ⟨rfl, rfl, rfl, Nat.le_refl _, fun _ _ _ _ => rfl⟩
set_option maxRecDepth 100000 in
set_option maxHeartbeats 1600000 in
theorem markItemS_any (g n cap : Nat) (vs : List Value) (k : Int) (w : World) (hn : n ≤ 1048576) (h0 : 0 ≤ k) (h1 : k ≤ 1099000000000) (hR : Row w g 65 vs) (hvl : 3 * n ≤ vs.length) :
    Calls Tryd.prog 105 #[.slice (some ⟨g, 0, none⟩) n cap, .int .i64 k] w fun e w' => e = .returned (.int .i64 (k + 3 * n)) ∧ Turns w w' g g ∧ ∃ us, Row w' g 65 us ∧ us.length = vs.length := by
  have HR0 := Lib.hid hR
  clear hR
  go_enter Tryd.func105, Tryd.ntmps105
  go_wp2
  go_loopw [1, 5] (fun kv i wr => ∃ (j : Nat) (us : List Value), kv = .int .i64 (k + 3 * j) ∧ i = .int .i64 j ∧ j ≤ n ∧ us.length = vs.length ∧ Row wr g 65 us ∧ Turns w wr g g) (fun _ i _ => n - (intOf i).toNat)
  case atStart => exact ⟨0, vs, by simp, rfl, Nat.zero_le _, rfl, HR0.out, Turns.id _ _⟩
  case round =>
    obtain ⟨j, us, rfl, rfl, hj, hul, hR, hT⟩ := hrel
    by_cases hlt : j < n
    · obtain ⟨u0, hu0⟩ : ∃ u, us[j * 3]? = some u := ⟨_, List.getElem?_eq_getElem (by omega)⟩
      obtain ⟨u1, hu1⟩ : ∃ u, us[j * 3 + 1]? = some u := ⟨_, List.getElem?_eq_getElem (by omega)⟩
      obtain ⟨u2, hu2⟩ : ∃ u, us[j * 3 + 2]? = some u := ⟨_, List.getElem?_eq_getElem (by omega)⟩
      have c0 := hR.cell hu0
      have f0 := hR.frozen (j * 3)
      have HR := Lib.hid hR
      have HT := Lib.hid hT
      have HU := Lib.hid (And.intro hul (And.intro hu1 hu2))
      clear hu0 hu1 hu2 hR hT hul
      go_wp2_with fail
      refine (markText_int _ _ (by omega) (by omega)).mono ?_
      rintro e w2 ⟨s, rfl, hs, hb⟩
      have hR1 := HR.out.set (j * 3) (.int .i64 (k + 3 * j))
      have HR2 := Lib.hid (hR1.below hb hR1.lt)
      have HT2 : Hid (Turns w w2 g g) := Lib.hid ((HT.out.trans (Turns.set _ _ _ _)).trans (.of_below hb))
      have c1 := HR2.out.cell (i := j * 3 + 1) (v := u1) (by rw [List.getElem?_set_ne (by omega)]; exact HU.out.2.1)
      have f1 := HR2.out.frozen (j * 3 + 1)
      have c2 := HR2.out.cell (i := j * 3 + 2) (v := u2) (by rw [List.getElem?_set_ne (by omega)]; exact HU.out.2.2)
      have f2 := HR2.out.frozen (j * 3 + 2)
      clear hR1 hb
      go_wp2
      go_roundw
      case rel => exact ⟨j + 1, _, by go_num, by go_num, by omega, by rw [List.length_set, List.length_set, List.length_set]; exact HU.out.1, (HR2.out.set (j * 3 + 1) _).set (j * 3 + 2) _, (HT2.out.trans (Turns.set _ _ _ _)).trans (Turns.set _ _ _ _)⟩
      case measure => simp only [intOf]; omega
    · obtain rfl : j = n := by omega
      have HP := Lib.hid (And.intro hT (And.intro hR hul))
      clear hT hR hul
      go_wp2
      go_ret
      exact ⟨rfl, HP.out.1, us, HP.out.2.1, HP.out.2.2⟩
/-- No block turns but those from b0 on and below b1. -/
structure Mid (b0 b1 : Nat) (w w' : World) : Prop where
  os : w'.os = w.os
  tape : w'.tape = w.tape
  output : w'.output = w.output
  size : w.heap.size ≤ w'.heap.size
  rest : ∀ b, b < w.heap.size → (b < b0 ∨ b1 ≤ b) → w'.heap[b]? = w.heap[b]?
theorem Mid.id (b0 b1 : Nat) (w : World) : Mid b0 b1 w w := ⟨rfl, rfl, rfl, Nat.le_refl _, fun _ _ _ => rfl⟩
theorem Mid.trans {b0 b1 : Nat} {a b c : World} (h : Mid b0 b1 a b) (k : Mid b0 b1 b c) : Mid b0 b1 a c :=
  ⟨k.os.trans h.os, k.tape.trans h.tape, k.output.trans h.output, Nat.le_trans h.size k.size, fun g hg hx => (k.rest g (Nat.lt_of_lt_of_le hg h.size) hx).trans (h.rest g hg hx)⟩
theorem Mid.of_turns {b0 b1 g : Nat} {w w' : World} (h : Turns w w' g g) (h0 : b0 ≤ g) (h1 : g < b1) : Mid b0 b1 w w' :=
  ⟨h.os, h.tape, h.output, h.size, fun b hb hx => h.rest b hb (by omega) (by omega)⟩
theorem Mid.of_below {b0 b1 : Nat} {w w' : World} (h : Below w.heap.size w w') : Mid b0 b1 w w' := ⟨h.os, h.tape, h.output, h.size, fun b hb _ => h.block b hb⟩
theorem Mid.below {b0 b1 B : Nat} {w w' : World} (h : Mid b0 b1 w w') (hB : B ≤ b0) (hs : B ≤ w.heap.size) : Below B w w' := ⟨h.os, h.tape, h.output, h.size, fun b hb => h.rest b (by omega) (by omega)⟩
theorem Mid.row {b0 b1 g : Nat} {t : TypeId} {vs : List Value} {w w' : World} (h : Mid b0 b1 w w') (hr : Row w g t vs) (hg : g < b0 ∨ b1 ≤ g) : Row w' g t vs := hr.same (h.rest g hr.lt hg)
theorem Row.same_cells {w : World} {g : Nat} {t t' : TypeId} {vs us : List Value} (h : Row w g t vs) (k : Row w g t' us) : vs = us := by
  unfold Row at h k
  rw [h] at k
  simp at k
  exact k.1
/-- A graph whose blocks are one's own. -/
structure OwnGraph (w : World) (g b0 b1 : Nat) (vs : List Value) (ss : List Sc) : Prop where
  low : b0 ≤ g
  high : g < b1
  row : Row w g 90 vs
  len : vs.length = 2 * ss.length
  items : ∀ i s, ss[i]? = some s → ∃ (gi ci : Nat) (us : List Value), vs[i * 2 + 1]? = some (.slice (some ⟨gi, 0, none⟩) s.items.length ci) ∧ g < gi ∧ gi < b1 ∧ Row w gi 65 us ∧ us.length = 3 * s.items.length
def marks : List Sc → Nat
  | [] => 0
  | s :: r => 1 + 3 * s.items.length + marks r
theorem marks_snoc (l : List Sc) (s : Sc) : marks (l ++ [s]) = marks l + (1 + 3 * s.items.length) := by
  induction l with
  | nil => simp [marks]
  | cons t r ih => simp only [List.cons_append, marks, ih]; omega
theorem marks_step {ss : List Sc} {j : Nat} {s : Sc} (h : ss[j]? = some s) : marks (ss.take (j + 1)) = marks (ss.take j) + (1 + 3 * s.items.length) := by
  rw [List.take_add_one, h]; exact marks_snoc _ _
theorem marks_take_le : ∀ (ss : List Sc) (j : Nat), marks (ss.take j) ≤ marks ss
  | [], j => by simp
  | s :: r, 0 => by simp [marks]
  | s :: r, j + 1 => by simp only [List.take_succ_cons, marks]; have := marks_take_le r j; omega
theorem marks_le : ∀ ss : List Sc, marks ss ≤ 3 * wScopes ss
  | [] => by simp [marks]
  | s :: r => by simp only [marks, wScopes]; have := marks_le r; have := wItems_eq s.items; omega
set_option maxRecDepth 100000 in
set_option maxHeartbeats 1600000 in
theorem markScopeS_any (g b0 b1 cap : Nat) (vs : List Value) (ss : List Sc) (k : Int) (w : World) (hw : wScopes ss ≤ 1048576) (h0 : 0 ≤ k) (h1 : k ≤ 1048576) (hO : OwnGraph w g b0 b1 vs ss) :
    Calls Tryd.prog 65 #[.slice (some ⟨g, 0, none⟩) ss.length cap, .int .i64 k] w fun e w' => e = .returned (.int .i64 (k + marks ss)) ∧ Mid b0 b1 w w' := by
  have HO := Lib.hid hO
  have hln : ss.length ≤ 1048576 := by have := wScopes_eq ss; omega
  have hm := marks_le ss
  clear hO
  go_enter Tryd.func65, Tryd.ntmps65
  go_wp2
  go_loopw [1, 5] (fun kv i wr => ∃ (j : Nat) (us : List Value), kv = .int .i64 (k + marks (ss.take j)) ∧ i = .int .i64 j ∧ j ≤ ss.length ∧ OwnGraph wr g b0 b1 us ss ∧ Mid b0 b1 w wr) (fun _ i _ => ss.length - (intOf i).toNat)
  case atStart => exact ⟨0, vs, by simp [marks], rfl, Nat.zero_le _, HO.out, Mid.id _ _ _⟩
  case round =>
    obtain ⟨j, us, rfl, rfl, hj, hG, hM⟩ := hrel
    by_cases hlt : j < ss.length
    · obtain ⟨s, hs⟩ : ∃ s, ss[j]? = some s := ⟨_, List.getElem?_eq_getElem hlt⟩
      have hst := marks_step hs
      have hle := marks_take_le ss (j + 1)
      obtain ⟨gi, ci, ui, hv, hgi, hgb, hRi, hli⟩ := hG.items j s hs
      obtain ⟨u0, hu0⟩ : ∃ u, us[j * 2]? = some u := ⟨_, List.getElem?_eq_getElem (by have := hG.len; omega)⟩
      have c0 := hG.row.cell hu0
      have f0 := hG.row.frozen (j * 2)
      have HG := Lib.hid hG
      have HM := Lib.hid hM
      have hR1 := Lib.hid (hG.row.set (j * 2) (.int .i64 (k + marks (ss.take j))))
      have hRi1 := Lib.hid (hRi.other (a := ⟨g, j * 2, none⟩) (by show g ≠ gi; omega) (.int .i64 (k + marks (ss.take j))))
      have c1 := hG.row.cell hv
      have hil : s.items.length ≤ 1048576 := by omega
      have HS := Lib.hid (And.intro hs (And.intro hgi (And.intro hgb hli)))
      have HST := Lib.hid hst
      have hb1 : (0 : Int) ≤ k + (marks (ss.take j) : Int) := by omega
      have hb2 : k + (marks (ss.take j) : Int) ≤ 10485760 := by omega
      clear hG hM hRi hs hv hu0 hst
      go_wp2_with fail
      refine (markItemS_any gi s.items.length ci ui _ _ hil (by omega) (by omega) hRi1.out (by omega)).mono ?_
      rintro e w3 ⟨rfl, ht3, u3, hR3, hl3⟩
      have HM3 : Hid (Mid b0 b1 w w3) := Lib.hid (HM.out.trans ((Mid.of_turns (Turns.set _ g _ _) HG.out.low HG.out.high).trans (.of_turns ht3 (by have := HG.out.low; omega) hgb)))
      have HG3 : Hid (OwnGraph w3 g b0 b1 (us.set (j * 2) (.int .i64 (k + marks (ss.take j)))) ss) := Lib.hid (by
        have hrow3 : Row w3 g 90 (us.set (j * 2) (.int .i64 (k + marks (ss.take j)))) := hR1.out.same (ht3.rest g hR1.out.lt (by omega) (by omega))
        refine ⟨HG.out.low, HG.out.high, hrow3, by rw [List.length_set]; exact HG.out.len, fun i t hit => ?_⟩
        obtain ⟨gt, ct, ut, q1, q2, q3, q4, q5⟩ := HG.out.items i t hit
        have q1' : (us.set (j * 2) (.int .i64 (k + marks (ss.take j))))[i * 2 + 1]? = some (.slice (some ⟨gt, 0, none⟩) t.items.length ct) := by
          rw [List.getElem?_set_ne (by omega)]; exact q1
        have q4' := q4.other (a := ⟨g, j * 2, none⟩) (by show g ≠ gt; omega) (.int .i64 (k + marks (ss.take j)))
        by_cases he : gt = gi
        · subst he
          have := q4'.same_cells hRi1.out
          exact ⟨gt, ct, u3, q1', q2, q3, hR3, by rw [hl3, ← this]; exact q5⟩
        · exact ⟨gt, ct, ut, q1', q2, q3, q4'.same (ht3.rest gt q4'.lt he he), q5⟩)
      have HK : Hid (k + (marks (ss.take j) : Int) + 1 + 3 * (s.items.length : Int) = k + (marks (ss.take (j + 1)) : Int)) := Lib.hid (by rw [HST.out]; omega)
      clear ht3 hR3 hl3
      go_wp2
      go_roundw
      case rel => exact ⟨j + 1, _, by rw [HK.out], by go_num, by omega, HG3.out, HM3.out⟩
      case measure => simp only [intOf]; omega
    · obtain rfl : j = ss.length := by omega
      have HP := Lib.hid hM
      clear hM hG
      go_wp2
      go_ret
      exact ⟨by rw [List.take_length]; rfl, HP.out⟩
theorem OwnGraph.below {w w' : World} {g b0 b1 : Nat} {vs : List Value} {ss : List Sc} (h : OwnGraph w g b0 b1 vs ss) (hb : Below w.heap.size w w') : OwnGraph w' g b0 b1 vs ss where
  low := h.low
  high := h.high
  row := h.row.below hb h.row.lt
  len := h.len
  items := fun i s hs => by
    obtain ⟨gi, ci, us, q1, q2, q3, q4, q5⟩ := h.items i s hs
    exact ⟨gi, ci, us, q1, q2, q3, q4.below hb q4.lt, q5⟩
set_option maxRecDepth 100000 in
theorem markGraph_any (g b0 b1 cap : Nat) (vs : List Value) (ss : List Sc) (k : Int) (w : World) (hw : wScopes ss ≤ 1048576) (h0 : 0 ≤ k) (h1 : k ≤ 1048576) (hO : OwnGraph w g b0 b1 vs ss) :
    Calls Tryd.prog 21 #[.agg #[.slice (some ⟨g, 0, none⟩) ss.length cap], .int .i64 k] w fun e w' => e = .returned (.int .i64 (k + marks ss)) ∧ Mid b0 b1 w w' := by
  have hb0 := (Below.refl w.heap.size w).alloc (Nat.le_refl _) (.cells #[.slice (some ⟨g, 0, none⟩) ss.length cap] 30)
  have C := Lib.hid (markScopeS_any g b0 b1 cap vs ss k _ hw h0 h1 (hO.below hb0))
  have HB := Lib.hid hb0
  clear hO hb0
  go_enter Tryd.func21, Tryd.ntmps21
  go_wp2_with fail
  refine C.out.mono ?_
  rintro e w1 ⟨rfl, hm⟩
  have HM := Lib.hid ((Mid.of_below HB.out).trans hm)
  clear hm
  go_wp2
  go_ret
  exact ⟨rfl, HM.out⟩
/-- The copy of a graph, as the laws make it, is one's own. -/
theorem toGraph_own {ss : List Sc} (hn : ss.length ≤ 1048576) (hn2 : ∀ s ∈ ss, s.items.length ≤ 1048576) {w0 : World} (oa : Option Addr) (cap : Nat) (hc : HoldsScopes w0 oa ss) {w : World} (hb : Below w0.heap.size w0 w) :
    Calls Tryd.prog 17 #[.agg #[.slice oa ss.length cap]] w fun e w' => ∃ g vs, e = .returned (.agg #[.slice (some ⟨g, 0, none⟩) ss.length ss.length]) ∧ HoldsScopes w' (some ⟨g, 0, none⟩) ss ∧ OwnGraph w' g w.heap.size w'.heap.size vs ss ∧ Below w.heap.size w w' :=
  (toGraph_any ss oa cap w hn hn2 (hc.below hb (Nat.le_refl _))).mono fun _ w' ⟨g, vs, h1, h2, h3, h4, h5, h6⟩ => ⟨g, vs, h1, h5.holds h4, ⟨by omega, h4.lt, h4, h3, fun i s hs => by
    obtain ⟨gi, _, b, c, d⟩ := h5 i s (List.getElem?_eq_some_iff.1 hs).1 hs
    exact ⟨gi, _, _, b, c, d.lt, d, by rw [itemCells_length]⟩⟩, h6⟩
end Go.Proofs.YtadpgoiiopfnnaaDoor
