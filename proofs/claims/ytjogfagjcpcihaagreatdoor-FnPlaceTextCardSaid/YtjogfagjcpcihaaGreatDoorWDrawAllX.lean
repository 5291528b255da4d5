/-
  The walks of the given random source: l13Open, pick, num, of. It writes its own record alone; what it answers lies in its bounds. Condition: its bytes lie in memory. What the drawing of graphs leaves in memory: the source asked some times, a graph of the call's own in the making. Plain facts. The walks of the given l1Known and l1Draw: some graph of small size, of the call's own; the random source is asked some times. A graph of the call's own of which one scope gets an item more; where an append's row lies. Plain facts.
-/
import Derived.Test.YtjogfagjcpcihaaGreatDoorJBX
import Derived.Test.YtjogfagjcpcihaaGreatDoorPlacedX
import Derived.BigQuiet
import Derived.Test.YtjogfagjcpcihaaGreatDoorJAX
import Derived.Test.YtjogfagjcpcihaaGreatDoorWImplValidX
import Derived.Test.YtjogfagjcpcihaaGreatDoorJCX
namespace Go.Proofs.YtjogfagjcpcihaaGreatDoor
open Go Go.RowKit
theorem i64_xor_nat (a b : Nat) (ha : a < 4611686018427387904) (hb : b < 4611686018427387904) : bits .xor .i64 (a : Int) (b : Int) = ((a ^^^ b : Nat) : Int) := by
  have hx : a ^^^ b < 2 ^ 62 := Nat.xor_lt_two_pow (by omega) (by omega)
  have h1 : (BitVec.ofInt 64 (a : Int)).toNat = a := by
    rw [BitVec.ofInt_natCast, BitVec.toNat_ofNat]; exact Nat.mod_eq_of_lt (by omega)
  have h2 : (BitVec.ofInt 64 (b : Int)).toNat = b := by
    rw [BitVec.ofInt_natCast, BitVec.toNat_ofNat]; exact Nat.mod_eq_of_lt (by omega)
  show IntKind.i64.wrap ((BitVec.ofInt 64 (a : Int) ^^^ BitVec.ofInt 64 (b : Int)).toNat : Int) = _
  rw [BitVec.toNat_xor, h1, h2]
  exact IntWalk.i64_in _ (by omega)
/-- A random source in memory: its record at r, its bytes, how many have been asked for. -/
structure Rd (w : World) (r : Nat) (oa : Option Addr) (len cap p : Nat) : Prop where
  box : Row w r 149 [.slice oa len cap, .int .i64 (p : Int)]
  bytes : len = 0 ∨ ∃ b off, oa = some ⟨b, off, none⟩ ∧ b < w.heap.size ∧ b ≠ r ∧ ∀ i, i < len → ∃ x : Nat, x < 256 ∧ w.cell? ⟨b, off + i, none⟩ = some (.int .u8 (x : Int))
  short : len ≤ 2000
  little : p ≤ 1000000
theorem Rd.turned {w w' : World} {r g : Nat} {oa : Option Addr} {len cap p p' : Nat} (h : Rd w r oa len cap p) (hb : Row w' r 149 [.slice oa len cap, .int .i64 (p' : Int)]) (hs : w.heap.size ≤ w'.heap.size) (hk : ∀ k, k < w.heap.size → k ≠ r → k ≠ g → w'.heap[k]? = w.heap[k]?) (hg : ∀ b o x, w.cell? ⟨b, o, none⟩ = some (.int .u8 x) → b ≠ g) (hp : p' ≤ 1000000) : Rd w' r oa len cap p' where
  box := hb
  bytes := h.bytes.imp id fun ⟨b, off, h1, h2, h3, h4⟩ => ⟨b, off, h1, Nat.lt_of_lt_of_le h2 hs, h3, fun i hi => by
    obtain ⟨x, hx, hc⟩ := h4 i hi
    exact ⟨x, hx, (World.cell?_of_block (a := ⟨b, off + i, none⟩) (hk b h2 h3 (hg b _ _ hc))).trans hc⟩⟩
  short := h.short
  little := hp
theorem Rd.below {w w' : World} {r : Nat} {oa : Option Addr} {len cap p : Nat} (h : Rd w r oa len cap p) (hb : Below w.heap.size w w') : Rd w' r oa len cap p :=
  h.turned (g := r) (h.box.below hb h.box.lt) hb.size (fun k hk _ _ => hb.block k hk) (fun b o x hc => by
    rintro rfl
    have := h.box
    unfold Row at this
    simp [World.cell?, this] at hc
    rcases o with _ | _ | o <;> simp at hc) h.little
/-- What a call of the source leaves. -/
structure RdLeft (w w' : World) (r : Nat) (oa : Option Addr) (len cap p n : Nat) : Prop where
  rd : ∃ p', p ≤ p' ∧ p' ≤ p + n ∧ Rd w' r oa len cap p'
  turns : Turns w w' r r
theorem RdLeft.below {w w' w2 : World} {r : Nat} {oa : Option Addr} {len cap p n : Nat} (h : RdLeft w w' r oa len cap p n) (hb : Below w'.heap.size w' w2) : RdLeft w w2 r oa len cap p n :=
  ⟨h.rd.imp fun _ ⟨h1, h2, h3⟩ => ⟨h1, h2, h3.below hb⟩, h.turns.trans (.of_below hb)⟩
/-- Asked once: the record's second cell alone has turned. -/
theorem Rd.asked {w : World} {r : Nat} {oa : Option Addr} {len cap p : Nat} (h : Rd w r oa len cap p) (hp : p < 1000000) : Rd (w.setCell ⟨r, 1, none⟩ (.int .i64 ((p + 1 : Nat) : Int))) r oa len cap (p + 1) ∧ Turns w (w.setCell ⟨r, 1, none⟩ (.int .i64 ((p + 1 : Nat) : Int))) r r :=
  ⟨h.turned (g := r) (h.box.set 1 _) (by simp) (fun k _ hk _ => Below.heap_setCell _ _ _ _ hk) (fun b o x hc => by
    rintro rfl
    have := h.box
    unfold Row at this
    simp [World.cell?, this] at hc
    rcases o with _ | _ | o <;> simp at hc) hp, ⟨rfl, rfl, rfl, by simp, fun k _ hk _ => Below.heap_setCell _ _ _ _ hk⟩⟩
/-- What pick answers. -/
def Picked (w : World) (r : Nat) (oa : Option Addr) (len cap p : Nat) (n : Int) (e : Ending) (w' : World) : Prop := ∃ z : Nat, e = .returned (.int .i64 (z : Int)) ∧ (n < 1 → z = 0) ∧ (1 ≤ n → (z : Int) < n) ∧ RdLeft w w' r oa len cap p 1
set_option maxRecDepth 100000 in
set_option maxHeartbeats 4000000 in
theorem pick_any {w : World} {r : Nat} {oa : Option Addr} {len cap p : Nat} (h : Rd w r oa len cap p) (hp : p < 1000000) (n : Int) (hn : n ≤ 2 ^ 62) :
    Calls Tryz.prog 35 #[.pointer (some ⟨r, 0, none⟩), .int .i64 n] w (Picked w r oa len cap p n) := by
  obtain ⟨hA, hT⟩ := h.asked hp
  have b0 := h.box.cell (i := 0) (by rfl)
  have b1 := h.box.cell (i := 1) (by rfl)
  have f1 := h.box.frozen 1
  obtain ⟨W, hW⟩ : ∃ W, w.setCell ⟨r, 1, none⟩ (.int .i64 ((p + 1 : Nat) : Int)) = W := ⟨_, rfl⟩
  rw [hW] at hA hT
  have hW2 : w.setCell ⟨r, 1, none⟩ (.int .i64 ((p : Int) + 1)) = W := by rw [← hW]; simp
  have a0 := hA.box.cell (i := 0) (by rfl)
  have a1 := hA.box.cell (i := 1) (by rfl)
  have hsh := h.short
  have HA := Lib.hid hA
  have HL : Hid (RdLeft w W r oa len cap p 1) := Lib.hid ⟨⟨p + 1, by omega, by omega, hA⟩, hT⟩
  have HW := Lib.hid hW2
  clear h hA hT hW hW2
  go_enter Tryz.func35, Tryz.ntmps35
  go_upto_region 2 with (fail)
  rw [HW.out]
  clear b0 b1 f1
  by_cases hn1 : n < 1
  · go_wp2
    go_ret
    exact ⟨0, rfl, fun _ => rfl, fun h => absurd h (by omega), HL.out⟩
  · by_cases h0 : len = 0
    · subst h0
      go_wp2
      go_ret
      exact ⟨0, rfl, fun _ => rfl, fun _ => by omega, HL.out⟩
    · obtain ⟨b, off, rfl, hb, hbr, hcell⟩ := HA.out.bytes.resolve_left h0
      have h0' : (((len : Nat) : Int) == 0) = false := by simp; omega
      have HC := Lib.hid hcell
      clear hcell
      by_cases hlt : p < len
      · obtain ⟨x, hx, hcx⟩ := HC.out p hlt
        obtain ⟨z, hz⟩ : ∃ z : Nat, (x : Int) % n = (z : Int) ∧ (z : Int) < n := ⟨((x : Int) % n).toNat, by have := Int.emod_nonneg (x : Int) (by omega : n ≠ 0); omega, by have := Int.emod_lt_of_pos (x : Int) (by omega : 0 < n); have := Int.emod_nonneg (x : Int) (by omega : n ≠ 0); omega⟩
        have HZ := Lib.hid hz
        clear hz
        go_wp2
        go_ret
        exact ⟨z, by rw [← HZ.out.1]; rfl, fun h => absurd h (by omega), fun _ => HZ.out.2, HL.out⟩
      · have hpos : 0 < len := by omega
        obtain ⟨r1, hr1, hr1e⟩ : ∃ r1 : Nat, r1 < len ∧ (p : Int).tmod (len : Int) = (r1 : Int) := ⟨p % len, Nat.mod_lt _ hpos, by rw [Int.tmod_eq_emod_of_nonneg (by omega)]; omega⟩
        obtain ⟨r2, hr2, hr2e⟩ : ∃ r2 : Nat, r2 < len ∧ ((p : Int) * 7 + 3).tmod (len : Int) = (r2 : Int) := ⟨(p * 7 + 3) % len, Nat.mod_lt _ hpos, by rw [Int.tmod_eq_emod_of_nonneg (by omega)]; simp⟩
        obtain ⟨q, hq, hqe⟩ : ∃ q : Nat, q ≤ p ∧ (p : Int).tdiv (len : Int) = (q : Int) := ⟨p / len, Nat.div_le_self _ _, by rw [Int.tdiv_eq_ediv_of_nonneg (by omega)]; omega⟩
        obtain ⟨x1, hx1, hc1⟩ := HC.out r1 hr1
        obtain ⟨x2, hx2, hc2⟩ := HC.out r2 hr2
        obtain ⟨N, hN⟩ : ∃ N : Nat, (x1 : Int) * 131 + (x2 : Int) * 1117 + (p : Int) * 29 + (q : Int) * 53 = (N : Int) := ⟨x1 * 131 + x2 * 1117 + p * 29 + q * 53, by push_cast; rfl⟩
        have hN2 : N < 4611686018427387904 := by omega
        obtain ⟨M, hM⟩ : ∃ M : Nat, M = N ^^^ (N / 64) := ⟨_, rfl⟩
        have hM2 : M < 2 ^ 62 := by rw [hM]; exact Nat.xor_lt_two_pow (by omega) (by omega)
        have hXOR : Hid (bits .xor .i64 (N : Int) ((N : Int) / 64) = (M : Int)) := Lib.hid (by
          rw [hM, show ((N : Int) / 64) = ((N / 64 : Nat) : Int) by omega]
          exact i64_xor_nat _ _ hN2 (by omega))
        obtain ⟨z, hz⟩ : ∃ z : Nat, (M : Int) % n = (z : Int) ∧ (z : Int) < n := ⟨((M : Int) % n).toNat, by have := Int.emod_nonneg (M : Int) (by omega : n ≠ 0); omega, by have := Int.emod_lt_of_pos (M : Int) (by omega : 0 < n); have := Int.emod_nonneg (M : Int) (by omega : n ≠ 0); omega⟩
        have HZ := Lib.hid hz
        have HN := Lib.hid hN
        have HR1 := Lib.hid hr1e
        have HR2 := Lib.hid hr2e
        have HQE := Lib.hid hqe
        clear hz hN hM hr1e hr2e hqe
        go_upto_region 7 with (fail)
        have i1 : (0 : Int) ≤ (r1 : Int) := by omega
        have i2 : (r1 : Int) < (len : Int) := by omega
        have i3 : (0 : Int) ≤ (r2 : Int) := by omega
        have i4 : (r2 : Int) < (len : Int) := by omega
        have e2 : IntKind.i64.wrap ((p : Int) * 7) = (p : Int) * 7 := IntWalk.i64_in _ (by omega)
        have e3 : IntKind.i64.wrap ((p : Int) * 7 + 3) = (p : Int) * 7 + 3 := IntWalk.i64_in _ (by omega)
        have e5 : IntKind.i64.wrap ((x1 : Int) * 131) = (x1 : Int) * 131 := IntWalk.i64_in _ (by omega)
        have e6 : IntKind.i64.wrap ((x2 : Int) * 1117) = (x2 : Int) * 1117 := IntWalk.i64_in _ (by omega)
        have e7 : IntKind.i64.wrap ((x1 : Int) * 131 + (x2 : Int) * 1117) = (x1 : Int) * 131 + (x2 : Int) * 1117 := IntWalk.i64_in _ (by omega)
        have e8 : IntKind.i64.wrap ((p : Int) * 29) = (p : Int) * 29 := IntWalk.i64_in _ (by omega)
        have e9 : IntKind.i64.wrap ((x1 : Int) * 131 + (x2 : Int) * 1117 + (p : Int) * 29) = (x1 : Int) * 131 + (x2 : Int) * 1117 + (p : Int) * 29 := IntWalk.i64_in _ (by omega)
        have e11 : IntKind.i64.wrap ((q : Int) * 53) = (q : Int) * 53 := IntWalk.i64_in _ (by omega)
        have e12 : IntKind.i64.wrap ((x1 : Int) * 131 + (x2 : Int) * 1117 + (p : Int) * 29 + (q : Int) * 53) = (x1 : Int) * 131 + (x2 : Int) * 1117 + (p : Int) * 29 + (q : Int) * 53 := IntWalk.i64_in _ (by omega)
        have e1 := HR1.out
        have e4 := HR2.out
        have e10 := HQE.out
        have hne : ¬ ((len : Int) = 0) := by omega
        go_quiet (fail)
        clear i1 i2 i3 i4 e1 e2 e3 e4 e5 e6 e7 e8 e9 e10 e11 e12 hc1 hc2 a0 a1
        rw [HN.out]
        have hxo := hXOR.out
        go_wp2
        go_ret
        exact ⟨z, by rw [← HZ.out.1]; rfl, fun h => absurd h (by omega), fun _ => HZ.out.2, HL.out.below (below_drewN (Below.refl _ _) _)⟩
theorem Turns.cell {w w' : World} {r g : Nat} (h : Turns w w' r g) {b o : Nat} {v : Value} (hb : b < w.heap.size) (h1 : b ≠ r) (h2 : b ≠ g) (hc : w.cell? ⟨b, o, none⟩ = some v) : w'.cell? ⟨b, o, none⟩ = some v :=
  (World.cell?_of_block (a := ⟨b, o, none⟩) (h.rest b hb h1 h2)).trans hc
/-- What num answers. -/
def Numbered (xs : List Int) (w : World) (r : Nat) (oa : Option Addr) (len cap p : Nat) (e : Ending) (w' : World) : Prop := ∃ x ∈ xs, e = .returned (.int .i64 x) ∧ RdLeft w w' r oa len cap p 1
set_option maxRecDepth 100000 in
theorem num_any {w : World} {r : Nat} {oa : Option Addr} {len cap p : Nat} (h : Rd w r oa len cap p) (hp : p < 1000000) (xs : List Int) (hx0 : 0 < xs.length) (hx9 : xs.length < 1000) (b off c : Nat) (hb : b < w.heap.size) (hbr : b ≠ r) (hc : ∀ i x, xs[i]? = some x → w.cell? ⟨b, off + i, none⟩ = some (.int .i64 x)) :
    Calls Tryz.prog 36 #[.pointer (some ⟨r, 0, none⟩), .slice (some ⟨b, off, none⟩) xs.length c] w (Numbered xs w r oa len cap p) := by
  have C := Lib.hid (pick_any h hp (xs.length : Int) (by omega))
  have HC := Lib.hid hc
  have HB := Lib.hid (And.intro hb hbr)
  clear h hp hc hb hbr
  go_enter Tryz.func36, Tryz.ntmps36
  go_wp2_with fail
  refine C.out.mono ?_
  rintro e w1 ⟨z, rfl, -, hz, hr⟩
  have hz1 : z < xs.length := by have := hz (by omega); omega
  obtain ⟨x, hx⟩ : ∃ x, xs[z]? = some x := ⟨_, List.getElem?_eq_getElem hz1⟩
  have hcx := hr.turns.cell HB.out.1 HB.out.2 HB.out.2 (HC.out z x hx)
  have HR := Lib.hid hr
  have HX := Lib.hid (List.mem_of_getElem? hx)
  clear hz hr hx
  go_wp2
  go_ret
  exact ⟨x, HX.out, rfl, HR.out⟩
/-- What of answers. -/
def Worded (xs : List ByteArray) (w : World) (r : Nat) (oa : Option Addr) (len cap p : Nat) (e : Ending) (w' : World) : Prop := ∃ x ∈ xs, e = .returned (.string x) ∧ RdLeft w w' r oa len cap p 1
set_option maxRecDepth 100000 in
theorem of_any {w : World} {r : Nat} {oa : Option Addr} {len cap p : Nat} (h : Rd w r oa len cap p) (hp : p < 1000000) (xs : List ByteArray) (hx0 : 0 < xs.length) (hx9 : xs.length < 1000) (b off c : Nat) (hb : b < w.heap.size) (hbr : b ≠ r) (hc : ∀ i x, xs[i]? = some x → w.cell? ⟨b, off + i, none⟩ = some (.string x)) :
    Calls Tryz.prog 40 #[.pointer (some ⟨r, 0, none⟩), .slice (some ⟨b, off, none⟩) xs.length c] w (Worded xs w r oa len cap p) := by
  have C := Lib.hid (pick_any h hp (xs.length : Int) (by omega))
  have HC := Lib.hid hc
  have HB := Lib.hid (And.intro hb hbr)
  clear h hp hc hb hbr
  go_enter Tryz.func40, Tryz.ntmps40
  go_wp2_with fail
  refine C.out.mono ?_
  rintro e w1 ⟨z, rfl, -, hz, hr⟩
  have hz1 : z < xs.length := by have := hz (by omega); omega
  obtain ⟨x, hx⟩ : ∃ x, xs[z]? = some x := ⟨_, List.getElem?_eq_getElem hz1⟩
  have hcx := hr.turns.cell HB.out.1 HB.out.2 HB.out.2 (HC.out z x hx)
  have HR := Lib.hid hr
  have HX := Lib.hid (List.mem_of_getElem? hx)
  clear hz hr hx
  go_wp2
  go_ret
  exact ⟨x, HX.out, rfl, HR.out⟩
/-- The bytes of a law's argument. -/
def HoldsBytes (w : World) (oa : Option Addr) (len : Nat) : Prop := len = 0 ∨ ∃ b off, oa = some ⟨b, off, none⟩ ∧ b < w.heap.size ∧ ∀ i, i < len → ∃ x : Nat, x < 256 ∧ w.cell? ⟨b, off + i, none⟩ = some (.int .u8 (x : Int))
theorem HoldsBytes.below {w w' : World} {oa : Option Addr} {len : Nat} (h : HoldsBytes w oa len) (hb : Below w.heap.size w w') : HoldsBytes w' oa len :=
  h.imp id fun ⟨b, off, h1, h2, h3⟩ => ⟨b, off, h1, Nat.lt_of_lt_of_le h2 hb.size, fun i hi => by
    obtain ⟨x, hx, hc⟩ := h3 i hi
    exact ⟨x, hx, (hb.cell (p := ⟨b, off + i, none⟩) h2).trans hc⟩⟩
/-- What l13Open leaves. -/
def Opened (w : World) (e : Ending) (w' : World) : Prop := ∃ (r : Nat) (oa : Option Addr) (len cap : Nat), e = .returned (.pointer (some ⟨r, 0, none⟩)) ∧ w.heap.size ≤ r ∧ Rd w' r oa len cap 0 ∧ Below w.heap.size w w'
set_option maxRecDepth 100000 in
theorem open_any {w : World} {oa : Option Addr} {len cap : Nat} (h : HoldsBytes w oa len) (hl : len ≤ 2 ^ 62) (hlc : len ≤ cap) :
    Calls Tryz.prog 34 #[.slice oa len cap] w (Opened w) := by
  have HH := Lib.hid h
  have hrd : ∀ n, n ≤ len → n ≤ 2000 → Rd (w.alloc (.cells #[.slice oa n cap, .int .i64 0] 149)) w.heap.size oa n cap 0 := fun n h1 h2 =>
    { box := Row.new w [.slice oa n cap, .int .i64 0] 149
      bytes := by
        rcases h with h | ⟨b, off, k1, k2, k3⟩
        · exact .inl (by omega)
        · refine .inr ⟨b, off, k1, by simp; omega, by omega, fun i hi => ?_⟩
          obtain ⟨x, hx, hc⟩ := k3 i (by omega)
          exact ⟨x, hx, (((Below.refl w.heap.size w).alloc (Nat.le_refl _) _).cell (p := ⟨b, off + i, none⟩) k2).trans hc⟩
      short := h2
      little := by omega }
  have HRD := Lib.hid hrd
  clear h hrd
  by_cases hgt : 2000 < len
  · have hgt' : (2000 : Int) < (len : Int) := by omega
    have hcc : 2000 ≤ cap := by omega
    go_enter Tryz.func34, Tryz.ntmps34
    go_wp2
    go_ret
    exact ⟨w.heap.size, oa, 2000, cap, rfl, Nat.le_refl _, HRD.out 2000 (by omega) (Nat.le_refl _), (Below.refl _ _).alloc (Nat.le_refl _) _⟩
  · have hgt' : ¬ (2000 : Int) < (len : Int) := by omega
    go_enter Tryz.func34, Tryz.ntmps34
    go_wp2
    go_ret
    exact ⟨w.heap.size, oa, len, cap, rfl, Nat.le_refl _, HRD.out len (Nat.le_refl _) (by omega), (Below.refl _ _).alloc (Nat.le_refl _) _⟩
end Go.Proofs.YtjogfagjcpcihaaGreatDoor
namespace Go.Proofs.YtjogfagjcpcihaaGreatDoor
open Go Go.RowKit Sg
/-- A graph of small size and numbers of 64 bits. -/
structure Lit1 (N : Nat) (ss : List Sc) : Prop where
  count : ss.length ≤ N
  items : ∀ s ∈ ss, s.items.length ≤ N
  nums : I64Scopes ss
  names : ∀ s ∈ ss, ∀ x ∈ s.items, x.name.size ≤ N
theorem Lit1.fair {N : Nat} {ss : List Sc} (h : Lit1 N ss) (hN : N ≤ 1000000) : Fair ss :=
  ⟨by have := h.count; omega, fun s hs => by have := h.items s hs; omega, ⟨by have := h.count; omega, fun s hs => ⟨by have := h.items s hs; omega, fun x hx => by have := h.names s hs x hx; omega⟩⟩, h.nums⟩
theorem Lit1.mono {N M : Nat} {ss : List Sc} (h : Lit1 N ss) (hN : N ≤ M) : Lit1 M ss :=
  ⟨Nat.le_trans h.count hN, fun s hs => Nat.le_trans (h.items s hs) hN, h.nums, fun s hs x hx => Nat.le_trans (h.names s hs x hx) hN⟩
theorem numI_i64 (l : List UInt8) : I64 (numI l) := by
  unfold numI I64
  split
  · rename_i hc
    unfold numB at hc
    split
    · rename_i hn
      rw [if_pos hn] at hc
      simp only [Bool.and_eq_true] at hc
      have := canon_lt hc.1
      omega
    · rename_i hn
      rw [if_neg hn] at hc
      have := canon_lt hc
      omega
  · omega
theorem lit_grOf {s : List UInt8} {N : Nat} (h : s.length ≤ N) : Lit1 (N + 1) (grOf s) := by
  have key : ∀ c ∈ grOf s, c.items.length ≤ N + 1 ∧ I64 c.parent ∧ ∀ x ∈ c.items, x.name.size ≤ N + 1 ∧ I64 x.kind ∧ I64 x.scope := fun c hc => by
    unfold grOf at hc
    obtain ⟨p, hp, rfl⟩ := List.mem_map.1 hc
    have l1 := parts_len 59 s p hp
    have l2 := parts_count 44 p
    have l3 : (scOf (parts 44 p)).items.length ≤ (parts 44 p).length := by simp [scOf]
    refine ⟨by omega, ?_, fun x hx => ?_⟩
    · show I64 (parOf (parts 44 p))
      unfold parOf
      split
      · split
        · exact numI_i64 _
        · unfold I64; omega
      · unfold I64; omega
    · unfold scOf at hx
      obtain ⟨y, hy, rfl⟩ := List.mem_map.1 hx
      have l4 := parts_len 44 p y (List.mem_of_mem_tail hy)
      have l5 := readIt_short ⟨y.toArray⟩
      have l6 : (⟨y.toArray⟩ : ByteArray).size = y.length := by simp [ByteArray.size]
      have l7 := readIt_i64 ⟨y.toArray⟩
      unfold itOf
      exact ⟨by omega, l7.2, l7.1⟩
  exact
    { count := by
        have := parts_count 59 s
        unfold grOf
        rw [List.length_map]
        omega
      items := fun c hc => (key c hc).1
      nums := fun c hc => ⟨(key c hc).2.1, fun x hx => ⟨((key c hc).2.2 x hx).2.1, ((key c hc).2.2 x hx).2.2⟩⟩
      names := fun c hc x hx => ((key c hc).2.2 x hx).1 }
/-- A short text parsed: some graph of small size, of the call's own. -/
theorem parse_lit (s : ByteArray) (hs : s.size ≤ 100) (w : World) : Calls Tryz.prog 135 #[.string s] w fun e w' => ∃ ss v hs ok, e = .returned (.tuple #[.agg #[v], .bool ok]) ∧ OwnGr w' w.heap.size v ss hs ∧ Lit1 101 ss ∧ Below w.heap.size w w' := by
  refine (specParse_any s (by omega) w).mono ?_
  have hl : s.data.toList.length ≤ 100 := by rw [Array.length_toList]; exact hs
  rintro e w' (⟨-, v, hs, rfl, hg, hb⟩ | ⟨-, v, hs, rfl, hg, hb⟩)
  · exact ⟨_, v, hs, true, rfl, hg, lit_grOf hl, hb⟩
  · exact ⟨[], v, hs, false, rfl, hg, ⟨by simp, by simp, (fun s h => by cases h), by simp⟩, hb⟩
/-- The source now, where it was there at first. -/
structure RdAt (w wr : World) (r : Nat) (oa : Option Addr) (len cap P : Nat) : Prop where
  org : ∃ p0, Rd w r oa len cap p0
  now : ∃ p', p' ≤ P ∧ Row wr r 149 [.slice oa len cap, .int .i64 (p' : Int)]
  small : P ≤ 900000
  turns : Turns w wr r r
section
variable {w wr w' : World} {r len cap P n : Nat} {oa : Option Addr}
theorem RdAt.lt (h : RdAt w wr r oa len cap P) : r < w.heap.size := by
  obtain ⟨p0, h0⟩ := h.org
  exact h0.box.lt
theorem Rd.notRow {p : Nat} (h : Rd w r oa len cap p) : ∀ b o x, w.cell? ⟨b, o, none⟩ = some (.int .u8 x) → b ≠ r := fun b o x hc => by
  rintro rfl
  have := h.box
  unfold Row at this
  simp [World.cell?, this] at hc
  rcases o with _ | _ | o <;> simp at hc
theorem RdAt.rd (h : RdAt w wr r oa len cap P) : ∃ p', p' ≤ P ∧ Rd wr r oa len cap p' := by
  obtain ⟨p0, h0⟩ := h.org
  obtain ⟨p', hp, hr⟩ := h.now
  exact ⟨p', hp, h0.turned (g := r) hr h.turns.size (fun k h1 h2 h3 => h.turns.rest k h1 h2 h3) h0.notRow (by have := h.small; omega)⟩
theorem RdAt.start {p : Nat} (h : Rd w r oa len cap p) (hp : p ≤ P) (hP : P ≤ 900000) : RdAt w w r oa len cap P := ⟨⟨p, h⟩, ⟨p, hp, h.box⟩, hP, Turns.refl _ _ _⟩
theorem RdAt.far (h : RdAt w wr r oa len cap P) (hb : Below w.heap.size wr w') : RdAt w w' r oa len cap P where
  org := h.org
  now := by
    obtain ⟨p', hp, hr⟩ := h.now
    exact ⟨p', hp, hr.below hb h.lt⟩
  small := h.small
  turns := ⟨hb.os.trans h.turns.os, hb.tape.trans h.turns.tape, hb.output.trans h.turns.output, Nat.le_trans h.turns.size hb.size, fun g hg h1 h2 => (hb.block g hg).trans (h.turns.rest g hg h1 h2)⟩
theorem RdAt.step (h : RdAt w wr r oa len cap P) (hb : Below wr.heap.size wr w') : RdAt w w' r oa len cap P := h.far (hb.mono h.turns.size)
theorem RdAt.asked (h : RdAt w wr r oa len cap P) {p' : Nat} (hp : p' ≤ P) (k : RdLeft wr w' r oa len cap p' n) (hn : P + n ≤ 900000) : RdAt w w' r oa len cap (P + n) where
  org := h.org
  now := by
    obtain ⟨p2, h1, h2, h3⟩ := k.rd
    exact ⟨p2, by omega, h3.box⟩
  small := hn
  turns := h.turns.trans k.turns
theorem RdAt.more (h : RdAt w wr r oa len cap P) {P' : Nat} (h1 : P ≤ P') (h2 : P' ≤ 900000) : RdAt w wr r oa len cap P' :=
  ⟨h.org, h.now.imp fun _ ⟨a, b⟩ => ⟨by omega, b⟩, h2, h.turns⟩
end
/-- What keeps what lies from B on, while the source turns. -/
theorem Row.asked {w w' : World} {g r : Nat} {t : TypeId} {vs : List Value} (h : Row w g t vs) (ht : Turns w w' r r) (hg : g ≠ r) : Row w' g t vs := h.same (ht.rest g h.lt hg hg)
theorem ownsRow_asked {w w' : World} {base n size r : Nat} {e : TypeId} {u : Value} {xs : List Value} (h : w.ownsRow base e size u n xs) (ht : Turns w w' r r) (hr : r < base) : w'.ownsRow base e size u n xs := by
  obtain ⟨h1, h2 | ⟨g, cap, cur, hv, hB, hh, k⟩⟩ := h
  · exact ⟨h1, .inl h2⟩
  · exact ⟨h1, .inr ⟨g, cap, cur, hv, hB, (ht.rest g (Array.getElem?_eq_some_iff.1 hh).1 (by omega) (by omega)).trans hh, k⟩⟩
theorem OwnGr.asked {w w' : World} {B r : Nat} {v : Value} {ss : List Sc} {hs : List Value} (h : OwnGr w B v ss hs) (ht : Turns w w' r r) (hr : r < B) : OwnGr w' B v ss hs :=
  ⟨h.len, ownsRow_asked h.row ht hr, fun i s u h1 h2 => ownsRow_asked (h.items i s u h1 h2) ht hr, h.apart⟩
/-- What memory holds while a scope is drawn: W0 the world at its beginning. -/
structure DIn (w W0 wr : World) (r : Nat) (oa : Option Addr) (len cap P B2 B3 B6 : Nat) (v : Value) (ss : List Sc) (hs : List Value) (p : Int) (u : Value) (xs : List It) : Prop where
  rd : RdAt w wr r oa len cap P
  t2 : Row wr B2 33 [.slice none 0 0]
  low2 : w.heap.size ≤ B2
  t3 : Row wr B3 33 [v]
  low3 : w.heap.size ≤ B3
  ne23 : B2 ≠ B3
  t6 : Row wr B6 156 [.int .i64 p, u]
  low6 : W0.heap.size ≤ B6
  base : w.heap.size ≤ W0.heap.size
  gr0 : OwnGr W0 w.heap.size v ss hs
  gr : OwnGr wr w.heap.size v ss hs
  its : wr.ownsRow W0.heap.size 37 3 u xs.length (itemCells xs)
section
variable {w W0 wr w' : World} {r len cap P B2 B3 B6 : Nat} {oa : Option Addr} {v u : Value} {ss : List Sc} {hs : List Value} {p : Int} {xs : List It}
theorem DIn.step (h : DIn w W0 wr r oa len cap P B2 B3 B6 v ss hs p u xs) (hb : Below wr.heap.size wr w') : DIn w W0 w' r oa len cap P B2 B3 B6 v ss hs p u xs :=
  { h with
    rd := h.rd.step hb
    t2 := h.t2.below hb h.t2.lt
    t3 := h.t3.below hb h.t3.lt
    t6 := h.t6.below hb h.t6.lt
    gr := h.gr.below hb
    its := ownsRow_below h.its hb }
theorem DIn.asked (h : DIn w W0 wr r oa len cap P B2 B3 B6 v ss hs p u xs) {p' n : Nat} (hp : p' ≤ P) (k : RdLeft wr w' r oa len cap p' n) (hn : P + n ≤ 900000) : DIn w W0 w' r oa len cap (P + n) B2 B3 B6 v ss hs p u xs :=
  have hr := h.rd.lt
  have a2 := h.low2
  have a3 := h.low3
  have a6 := h.low6
  have ab := h.base
  { h with
    rd := h.rd.asked hp k hn
    t2 := h.t2.asked k.turns (by omega)
    t3 := h.t3.asked k.turns (by omega)
    t6 := h.t6.asked k.turns (by omega)
    gr := h.gr.asked k.turns hr
    its := ownsRow_asked h.its k.turns (by omega) }
theorem DIn.vne (h : DIn w W0 wr r oa len cap P B2 B3 B6 v ss hs p u xs) : v.ownBlock ≠ some B6 := fun e => by
  have := (h.gr0.row.lt _ e).2
  have := h.low6
  omega
/-- The scope's parent is stored. -/
theorem DIn.set (h : DIn w W0 wr r oa len cap P B2 B3 B6 v ss hs p u xs) (z : Int) : DIn w W0 (wr.setCell ⟨B6, 0, none⟩ (.int .i64 z)) r oa len cap P B2 B3 B6 v ss hs z u xs :=
  { h with
    rd := h.rd.far ((Below.refl _ _).setCell (Nat.le_trans h.base h.low6) _)
    t2 := h.t2.other (fun e => h.t6.neq h.t2 (by decide) e) _
    t3 := h.t3.other (fun e => h.t6.neq h.t3 (by decide) e) _
    t6 := h.t6.set 0 _
    gr := h.gr.other h.t6 (.inr h.vne) (by decide) 0 _
    its := ownsRow_otherN h.its h.t6 (by decide) 0 _ }
theorem DIn.grGrown (h : DIn w W0 wr r oa len cap P B2 B3 B6 v ss hs p u xs) {o : Obj} (hg : (wr.alloc o).grownBy w' u.ownBlock) : OwnGr w' w.heap.size v ss hs where
  len := h.gr.len
  row := ownsRow_apart (h.gr.row.alloc o) hg (owns_types_apart h.gr.row h.its (by decide))
  items := fun i s z h1 h2 => by
    refine ownsRow_apart ((h.gr.items i s z h1 h2).alloc o) hg ?_
    cases hz : z.ownBlock with
    | none => exact .inl rfl
    | some g =>
      refine .inr fun e => ?_
      have a1 := ((h.gr0.items i s z h1 h2).lt g hz).2
      have a2 := (h.its.lt g e.symm).1
      omega
  apart := h.gr.apart
/-- The items' row grows, and the scope holds it. -/
theorem DIn.push (h : DIn w W0 wr r oa len cap P B2 B3 B6 v ss hs p u xs) {o : Obj} (hg : (wr.alloc o).grownBy w' u.ownBlock) {u' : Value} {xs' : List It} (hu : w'.ownsRow W0.heap.size 37 3 u' xs'.length (itemCells xs')) :
    DIn w W0 (w'.setCell ⟨B6, 1, none⟩ u') r oa len cap P B2 B3 B6 v ss hs p u' xs' := by
  have g2 : Row w' B2 33 [.slice none 0 0] := (h.t2.alloc o).grown hg (own_row_ne h.t2 h.its (by decide))
  have g3 : Row w' B3 33 [v] := (h.t3.alloc o).grown hg (own_row_ne h.t3 h.its (by decide))
  have g6 : Row w' B6 156 [.int .i64 p, u] := (h.t6.alloc o).grown hg (own_row_ne h.t6 h.its (by decide))
  have hz := h.rd.turns.size
  have hB : Below w.heap.size wr w' := ((Below.refl _ _).alloc hz o).grown hg (by simp; omega) (fun r e => Nat.le_trans h.base (h.its.lt r e).1)
  exact
    { h with
      rd := h.rd.far (hB.setCell (Nat.le_trans h.base h.low6) u')
      t2 := g2.other (fun e => g6.neq g2 (by decide) e) u'
      t3 := g3.other (fun e => g6.neq g3 (by decide) e) u'
      t6 := g6.set 1 u'
      gr := (h.grGrown hg).other g6 (.inr h.vne) (by decide) 1 u'
      its := ownsRow_otherN hu g6 (by decide) 1 u' }
end
/-- What memory holds between two scopes. -/
structure DOut (w wr : World) (r : Nat) (oa : Option Addr) (len cap P B2 B3 : Nat) (v : Value) (ss : List Sc) (hs : List Value) : Prop where
  rd : RdAt w wr r oa len cap P
  t2 : Row wr B2 33 [.slice none 0 0]
  low2 : w.heap.size ≤ B2
  t3 : Row wr B3 33 [v]
  low3 : w.heap.size ≤ B3
  ne23 : B2 ≠ B3
  gr : OwnGr wr w.heap.size v ss hs
section
variable {w wr w' : World} {r len cap P B2 B3 : Nat} {oa : Option Addr} {v : Value} {ss : List Sc} {hs : List Value}
theorem DOut.step (h : DOut w wr r oa len cap P B2 B3 v ss hs) (hb : Below wr.heap.size wr w') : DOut w w' r oa len cap P B2 B3 v ss hs :=
  { h with rd := h.rd.step hb, t2 := h.t2.below hb h.t2.lt, t3 := h.t3.below hb h.t3.lt, gr := h.gr.below hb }
theorem DOut.asked (h : DOut w wr r oa len cap P B2 B3 v ss hs) {p' n : Nat} (hp : p' ≤ P) (k : RdLeft wr w' r oa len cap p' n) (hn : P + n ≤ 900000) : DOut w w' r oa len cap (P + n) B2 B3 v ss hs :=
  have hr := h.rd.lt
  have a2 := h.low2
  have a3 := h.low3
  { h with
    rd := h.rd.asked hp k hn
    t2 := h.t2.asked k.turns (by omega)
    t3 := h.t3.asked k.turns (by omega)
    gr := h.gr.asked k.turns hr }
/-- A scope is begun. -/
theorem DOut.begin (h : DOut w wr r oa len cap P B2 B3 v ss hs) : DIn w wr ((wr.alloc (.cells #[] 37)).alloc (.cells #[.int .i64 (-1), .slice (some ⟨wr.heap.size, 0, none⟩) 0 0] 156)) r oa len cap P B2 B3 (wr.heap.size + 1) v ss hs (-1) (.slice (some ⟨wr.heap.size, 0, none⟩) 0 0) [] := by
  have hba : Below wr.heap.size wr ((wr.alloc (.cells #[] 37)).alloc (.cells #[.int .i64 (-1), .slice (some ⟨wr.heap.size, 0, none⟩) 0 0] 156)) := ((Below.refl _ _).alloc (Nat.le_refl _) _).alloc (by simp) _
  have r6 := Row.new (wr.alloc (.cells #[] 37)) [.int .i64 (-1), .slice (some ⟨wr.heap.size, 0, none⟩) 0 0] 156
  rw [World.size_alloc] at r6
  have h1 := h.step hba
  exact
    { rd := h1.rd
      t2 := h1.t2
      low2 := h.low2
      t3 := h1.t3
      low3 := h.low3
      ne23 := h.ne23
      t6 := r6
      low6 := Nat.le_succ _
      base := h.rd.turns.size
      gr0 := h.gr
      gr := h1.gr
      its := ((World.ownsRow_made (base := wr.heap.size) (e := 37) (size := 3) wr #[] 0 (by simp) (by unfold maxLen; omega) rfl).alloc _) }
end
/-- A scope is ended: it is one of the graph's. -/
theorem DIn.ended {w W0 wr w' : World} {r len cap P B2 B3 B6 : Nat} {oa : Option Addr} {v u v' : Value} {ss : List Sc} {hs : List Value} {p : Int} {xs : List It} (h : DIn w W0 wr r oa len cap P B2 B3 B6 v ss hs p u xs) {o : Obj} (hg : (wr.alloc o).grownBy w' v.ownBlock)
    (hown : w'.ownsRow w.heap.size 156 2 v' (ss.length + 1) (scRow ss hs ++ [.int .i64 p, u])) : DOut w (w'.setCell ⟨B3, 0, none⟩ v') r oa len cap P B2 B3 v' (ss ++ [⟨p, xs⟩]) (hs ++ [u]) := by
  have g2 : Row w' B2 33 [.slice none 0 0] := (h.t2.alloc o).grown hg (own_row_ne h.t2 h.gr.row (by decide))
  have g3 : Row w' B3 33 [v] := (h.t3.alloc o).grown hg (own_row_ne h.t3 h.gr.row (by decide))
  have hz := h.rd.turns.size
  have hB : Below w.heap.size wr w' := ((Below.refl _ _).alloc hz o).grown hg (by simp; omega) (fun r e => (h.gr.row.lt r e).1)
  exact
    { rd := h.rd.far (hB.setCell h.low3 v')
      t2 := g2.other (Ne.symm h.ne23) v'
      low2 := h.low2
      t3 := g3.set 0 v'
      low3 := h.low3
      ne23 := h.ne23
      gr := (OwnGr.snoc h.gr0 h.gr h.its h.base hg hown).other g3 (.inl (by decide)) (by decide) 0 v' }
end Go.Proofs.YtjogfagjcpcihaaGreatDoor
namespace Go.Proofs.YtjogfagjcpcihaaGreatDoor
open Go Go.RowKit Sg
set_option maxRecDepth 100000 in
set_option maxHeartbeats 8000000 in
theorem known_any (k : Nat) (hk : k < 10) (w : World) : Calls Tryz.prog 116 #[.int .i64 (k : Int)] w fun e w' => ∃ ss v hs, e = .returned (.agg #[v]) ∧ OwnGr w' w.heap.size v ss hs ∧ Lit1 101 ss ∧ Below w.heap.size w w' := by
  have R0 := Lib.hid ((Row.new w [.slice none 0 0] 33))
  rcases (show k = 0 ∨ k = 1 ∨ k = 2 ∨ k = 3 ∨ k = 4 ∨ k = 5 ∨ k = 6 ∨ k = 7 ∨ k = 8 ∨ k = 9 by omega) with rfl | rfl | rfl | rfl | rfl | rfl | rfl | rfl | rfl | rfl
  all_goals go_enter Tryz.func116, Tryz.ntmps116
  all_goals go_wp2_with fail
  all_goals refine (parse_lit _ (by decide) _).mono ?_
  all_goals rintro e w1 ⟨ss, v, hs, ok, rfl, hg, hl, hb1⟩
  all_goals obtain ⟨ov, cv, rfl, -⟩ := hg.holds
  all_goals have R1 := (R0.out.alloc _).below hb1 (R0.out.alloc _).lt
  all_goals have r0 := ((R0.out.alloc _).below hb1 (R0.out.alloc _).lt).cell (i := 0) (v := .slice none 0 0) (by rfl)
  all_goals have rf := ((R0.out.alloc _).below hb1 (R0.out.alloc _).lt).frozen 0
  all_goals have rz := ((R0.out.alloc _).below hb1 (R0.out.alloc _).lt).lt
  all_goals have d2 := ((R1.set 0 (.slice ov ss.length cv)).alloc (.cells #[.slice ov ss.length cv] 33)).cell (i := 0) (v := .slice ov ss.length cv) (by rfl)
  all_goals have HG := Lib.hid (((hg.lower (B' := w.heap.size) (by simp; omega)).other R1 (.inl (by decide)) (by decide) 0 (.slice ov ss.length cv)).below ((Below.refl _ _).alloc (Nat.le_refl _) (.cells #[.slice ov ss.length cv] 33)))
  all_goals have HB := Lib.hid (((Below.refl w.heap.size w).alloc (Nat.le_refl _) (.cells #[.slice none 0 0] 33)).trans ((((Below.refl _ _).alloc (Nat.le_refl _) _).trans (hb1.mono (by simp))).mono (by simp)))
  all_goals clear hg hb1 R1
  all_goals go_wp2
  all_goals refine bodyPost_ret (v := .agg #[.slice ov ss.length cv]) (by simp [results, Tryz.results116, go_sem, d2]) rfl ⟨ss, _, hs, rfl, HG.out, hl, ?_⟩
  all_goals exact (HB.out.setCell (Nat.le_refl _) _).alloc (by simp; omega) _
theorem num_row {W : World} {r : Nat} {oa : Option Addr} {len cap p : Nat} (h : Rd W r oa len cap p) (hp : p < 1000000) {b : Nat} {xs : List Int} (hR : Row W b 3 (xs.map (Value.int .i64))) (hbr : b ≠ r) (hx0 : 0 < xs.length) (hx9 : xs.length < 1000) :
    Calls Tryz.prog 36 #[.pointer (some ⟨r, 0, none⟩), .slice (some ⟨b, 0, none⟩) xs.length xs.length] W (Numbered xs W r oa len cap p) :=
  num_any h hp xs hx0 hx9 b 0 xs.length hR.lt hbr fun i x hx => by
    rw [Nat.zero_add]
    exact hR.cell (by rw [List.getElem?_map, hx]; rfl)
theorem of_row {W : World} {r : Nat} {oa : Option Addr} {len cap p : Nat} (h : Rd W r oa len cap p) (hp : p < 1000000) {b : Nat} {xs : List ByteArray} (hR : Row W b 9 (xs.map Value.string)) (hbr : b ≠ r) (hx0 : 0 < xs.length) (hx9 : xs.length < 1000) :
    Calls Tryz.prog 40 #[.pointer (some ⟨r, 0, none⟩), .slice (some ⟨b, 0, none⟩) xs.length xs.length] W (Worded xs W r oa len cap p) :=
  of_any h hp xs hx0 hx9 b 0 xs.length hR.lt hbr fun i x hx => by
    rw [Nat.zero_add]
    exact hR.cell (by rw [List.getElem?_map, hx]; rfl)
theorem RdLeft.after {w w1 w2 : World} {r : Nat} {oa : Option Addr} {len cap p n : Nat} (hb : Below w.heap.size w w1) (h : RdLeft w1 w2 r oa len cap p n) : RdLeft w w2 r oa len cap p n := ⟨h.rd, (Turns.of_below hb).trans h.turns⟩
/-- A number out of some, in a list that is made for it. -/
theorem num_new {W : World} {r : Nat} {oa : Option Addr} {len cap p : Nat} (h : Rd W r oa len cap p) (hp : p < 1000000) (xs : List Int) (hx0 : 0 < xs.length) (hx9 : xs.length < 1000) :
    Calls Tryz.prog 36 #[.pointer (some ⟨r, 0, none⟩), .slice (some ⟨W.heap.size, 0, none⟩) xs.length xs.length] (W.alloc (.cells (xs.map (Value.int .i64)).toArray 3)) (Numbered xs W r oa len cap p) :=
  (num_row (h.below ((Below.refl _ _).alloc (Nat.le_refl _) _)) hp (Row.new W (xs.map (Value.int .i64)) 3) (by have := h.box.lt; omega) hx0 hx9).mono fun _ _ ⟨x, h1, h2, h3⟩ => ⟨x, h1, h2, h3.after ((Below.refl _ _).alloc (Nat.le_refl _) _)⟩
theorem of_new {W : World} {r : Nat} {oa : Option Addr} {len cap p : Nat} (h : Rd W r oa len cap p) (hp : p < 1000000) (xs : List ByteArray) (hx0 : 0 < xs.length) (hx9 : xs.length < 1000) :
    Calls Tryz.prog 40 #[.pointer (some ⟨r, 0, none⟩), .slice (some ⟨W.heap.size, 0, none⟩) xs.length xs.length] (W.alloc (.cells (xs.map Value.string).toArray 9)) (Worded xs W r oa len cap p) :=
  (of_row (h.below ((Below.refl _ _).alloc (Nat.le_refl _) _)) hp (Row.new W (xs.map Value.string) 9) (by have := h.box.lt; omega) hx0 hx9).mono fun _ _ ⟨x, h1, h2, h3⟩ => ⟨x, h1, h2, h3.after ((Below.refl _ _).alloc (Nat.le_refl _) _)⟩
end Go.Proofs.YtjogfagjcpcihaaGreatDoor
namespace Go.Proofs.YtjogfagjcpcihaaGreatDoor
open Go Go.RowKit Sg
theorem scRow_set : ∀ {ss : List Sc} {hs : List Value} {q : Nat} {s : Sc} {u : Value} (xs : List It) (u' : Value), ss[q]? = some s → hs[q]? = some u → scRow (ss.set q ⟨s.parent, xs⟩) (hs.set q u') = (scRow ss hs).set (q * 2 + 1) u'
  | t :: r, v :: p, 0, s, u, xs, u', h1, h2 => by
    simp at h1 h2
    subst h1 h2
    rfl
  | t :: r, v :: p, q + 1, s, u, xs, u', h1, h2 => by
    have := scRow_set (ss := r) (hs := p) (q := q) xs u' (by simpa using h1) (by simpa using h2)
    rw [show (q + 1) * 2 + 1 = (q * 2 + 1) + 1 + 1 from by omega]
    show .int .i64 t.parent :: v :: scRow (r.set q _) (p.set q u') = _
    rw [this]
    rfl
theorem OwnGr.grow {w w' : World} {B q gv cv : Nat} {u u' : Value} {ss : List Sc} {hs : List Value} {s : Sc} {x : It} {o : Obj} (h : OwnGr w B (.slice (some ⟨gv, 0, none⟩) ss.length cv) ss hs) (_hB : B ≤ w.heap.size) (hq : ss[q]? = some s) (hu : hs[q]? = some u) (hg : (w.alloc o).grownBy w' u.ownBlock)
    (hown : w'.ownsRow B 37 3 u' (s.items ++ [x]).length (itemCells (s.items ++ [x]))) (hwhere : u'.ownBlock = u.ownBlock ∨ u'.ownBlock = some (w.heap.size + 1)) : OwnGr (w'.setCell ⟨gv, q * 2 + 1, none⟩ u') B (.slice (some ⟨gv, 0, none⟩) ss.length cv) (ss.set q ⟨s.parent, s.items ++ [x]⟩) (hs.set q u') := by
  have hql := (List.getElem?_eq_some_iff.1 hq).1
  have hiu := h.items q s u hq hu
  have hrow' : w'.ownsRow B 156 2 (.slice (some ⟨gv, 0, none⟩) ss.length cv) ss.length (scRow ss hs) := ownsRow_apart (h.row.alloc o) hg (owns_types_apart h.row hiu (by decide))
  have far : ∀ {B' n : Nat} {z : Value} {zs : List Value}, w'.ownsRow B' 37 3 z n zs → (w'.setCell ⟨gv, q * 2 + 1, none⟩ u').ownsRow B' 37 3 z n zs := fun {B' n z zs} hz => by
    obtain ⟨k1, k2 | ⟨g, cap, cur, hv, k3, hh, k4⟩⟩ := hz
    · exact ⟨k1, .inl k2⟩
    · refine ⟨k1, .inr ⟨g, cap, cur, hv, k3, (Below.heap_setCell _ _ _ _ ?_).trans hh, k4⟩⟩
      rintro rfl
      obtain ⟨_, m2 | ⟨g2, c2, cur2, hv2, _, hh2, _⟩⟩ := hrow'
      · exact absurd m2.1 (by simp)
      · simp only [Value.slice.injEq, Option.some.injEq, Addr.mk.injEq, true_and, and_true] at hv2
        obtain ⟨rfl, _⟩ := hv2
        rw [hh] at hh2
        injection hh2 with hh2
        injection hh2 with _ e2
        exact absurd e2 (by decide)
  have at' : ∀ (k : Nat) (y : Value), (hs.set q u')[k]? = some y → (k = q ∧ y = u') ∨ (k ≠ q ∧ hs[k]? = some y) := fun k y hy => by
    rw [List.getElem?_set] at hy
    by_cases hk : q = k
    · subst hk
      rw [if_pos rfl] at hy
      split at hy
      · exact .inl ⟨rfl, (Option.some.inj hy).symm⟩
      · cases hy
    · rw [if_neg hk] at hy
      exact .inr ⟨Ne.symm hk, hy⟩
  have old : ∀ (k : Nat) (y : Value), k ≠ q → hs[k]? = some y → (y.ownBlock = none ∨ y.ownBlock ≠ u'.ownBlock) ∧ (u'.ownBlock = none ∨ u'.ownBlock ≠ y.ownBlock) := fun k y hk hy => by
    obtain ⟨t, ht⟩ : ∃ t, ss[k]? = some t := ⟨_, List.getElem?_eq_getElem (by have := (List.getElem?_eq_some_iff.1 hy).1; have := h.len; omega)⟩
    have h3 := h.items k t y ht hy
    rcases hwhere with e | e
    · rw [e]
      exact ⟨h.apart k q y u hk hy hu, h.apart q k u y (Ne.symm hk) hu hy⟩
    · rw [e]
      have key : y.ownBlock ≠ some (w.heap.size + 1) := fun e2 => by
        have := (h3.lt _ e2).2
        omega
      exact ⟨.inr key, .inr (Ne.symm key)⟩
  exact
    { len := by rw [List.length_set, List.length_set]; exact h.len
      row := by
        rw [List.length_set, scRow_set _ _ hq hu]
        exact ownsRow_set hrow' (by rw [scRow_length h.len]; omega) u'
      items := fun i t z h1 h2 => by
        rcases at' i z h2 with ⟨rfl, rfl⟩ | ⟨hi, h3⟩
        · have : t = ⟨s.parent, s.items ++ [x]⟩ := by
            rw [List.getElem?_set_self hql] at h1
            exact (Option.some.inj h1).symm
          subst this
          exact far hown
        · rw [List.getElem?_set_ne (Ne.symm hi)] at h1
          exact far (ownsRow_apart ((h.items i t z h1 h3).alloc o) hg (h.apart i q z u hi h3 hu))
      apart := fun i j z z' hij h1 h2 => by
        rcases at' i z h1 with ⟨rfl, rfl⟩ | ⟨hi, h3⟩
        · rcases at' j z' h2 with ⟨rfl, rfl⟩ | ⟨hj, h4⟩
          · exact absurd rfl hij
          · exact (old j z' hj h4).2
        · rcases at' j z' h2 with ⟨rfl, rfl⟩ | ⟨hj, h4⟩
          · exact (old i z hi h3).1
          · exact h.apart i j z z' hij h3 h4 }
/-- Where the row of an append of one item lies. -/
theorem append_item_where {w w' : World} {base n : Nat} {u v' : Value} {cells : List Value} {kd sc : Int} {nm : ByteArray} {ty : TypeId} (hown : w.ownsRow base 37 3 u n cells) (hn : n ≤ 100)
    (hrun : (Builtin.append_ #[123, 123] ty #[u, .slice (some ⟨w.heap.size, 0, none⟩) 1 1]).run Tryz.prog (w.alloc (.cells #[.int .i64 kd, .string nm, .int .i64 sc] 37)) = .ok v' w') : v'.ownBlock = u.ownBlock ∨ v'.ownBlock = some (w.heap.size + 1) := by
  obtain ⟨i0, hi, hz0, hz1, hz2⟩ := info_parts infoItem
  have ht := Tryz.underlying123
  have hs : Src Tryz.prog i0.size 123 (.slice (some ⟨w.heap.size, 0, none⟩) 1 1) 1 [.int .i64 kd, .string nm, .int .i64 sc] (w.alloc (.cells #[.int .i64 kd, .string nm, .int .i64 sc] 37)) := by
    rw [hz1]
    exact Src.ofSlice _ ht _ 1 1 _ rfl (cells_new3 _ _ _ _ _) (fun u hu => by
      simp only [List.mem_cons, List.not_mem_nil, or_false] at hu
      rcases hu with rfl | rfl | rfl <;> rfl)
  have hcells := fun g (hg : u.ownBlock = some g) => (hown.alloc (.cells #[.int .i64 kd, .string nm, .int .i64 sc] 37)).cells (g := g)
  have hrow := (hown.alloc (.cells #[.int .i64 kd, .string nm, .int .i64 sc] 37)).2
  rcases hrow with ⟨rfl, rfl⟩ | ⟨g, cap, cur, rfl, hbg, hh, hnc, hcm, hcs, htake⟩
  · have hg := run_append_grow_src (P := Tryz.prog) _ 123 123 ty 37 i0 _ ht hi hz0 none 0 0 [] (run_firstCells_none _ _ _ _ _) _ 1 _ hs (by omega) (by omega) (growslice_fits (by omega) (by rw [hz2]; omega))
    rw [hg] at hrun
    injection hrun with h1 h2
    right
    rw [← h1]
    simp [Value.ownBlock]
  · by_cases hroom : n + 1 ≤ cap
    · have hg := run_append_room_src (P := Tryz.prog) _ 123 123 ty 37 i0 ht hi g 0 n cap _ 1 _ hs hroom (fun j hj => by
        rw [hz1]
        have : n * 3 + j < cur.size := by simp at hj; omega
        simp [World.cell?, hh, this]) (fun j hj => by simp [World.frozen?, hh])
      rw [hg] at hrun
      injection hrun with h1 h2
      left
      rw [← h1]
      rfl
    · have hold := run_firstCells_some (P := Tryz.prog) (World.drew (w.alloc (.cells #[.int .i64 kd, .string nm, .int .i64 sc] 37))) i0.size n ⟨g, 0, none⟩ n cap cells (by rw [hz1]; exact hown.1) (fun j u hu => hcells g rfl rfl j u hu)
      have hg := run_append_grow_src (P := Tryz.prog) _ 123 123 ty 37 i0 _ ht hi hz0 (some ⟨g, 0, none⟩) n cap _ hold _ 1 _ hs (by omega) (by omega) (growslice_fits (by omega) (by rw [hz2]; omega))
      rw [hg] at hrun
      injection hrun with h1 h2
      right
      rw [← h1]
      simp [Value.ownBlock]
end Go.Proofs.YtjogfagjcpcihaaGreatDoor
