/-
  The walks of the given l9Clear and l9Meant. Condition: the argument's memory holds the graph. The walks of the given l9Put, l9Named, l9RawNamedGraph and NamedGraph. Condition: the argument's memory holds the graph. (gennmgs.py writes this text.)
-/
import Derived.Test.YtjogfagjcpcihaaDoorJF
import Derived.Test.YtjogfagjcpcihaaDoorJD
import Derived.Test.YtjogfagjcpcihaaDoorWImplItems
import Derived.BigQuiet
import Derived.Test.YtjogfagjcpcihaaDoorWRenS2
import Derived.Laws.Runes
namespace Go.Proofs.YtjogfagjcpcihaaDoor
open Go Go.RowKit
theorem sts_clear (ss : List Sc) : stsP ss 3 = [] ↔ Clear ss := by
  unfold stsP stsOf Clear
  rw [List.map_eq_nil_iff, List.filter_eq_nil_iff]
  constructor
  · intro h q hq
    have h1 := h q hq
    unfold stateIt at h1
    by_cases h2 : (meanIt ss q).length = 0
    · omega
    · rw [if_neg h2] at h1
      by_cases h3 : 1 < (meanIt ss q).length
      · rw [if_pos h3] at h1; simp at h1
      · omega
  · intro h q hq
    have h1 := h q hq
    unfold stateIt
    by_cases h2 : (meanIt ss q).length = 0
    · rw [if_pos h2]; simp
    · rw [if_neg h2, if_neg (by omega)]
      split <;> simp
/-- Which declaration each item means alone. -/
def mntL (ss : List Sc) (l : List (Nat × Nat × It)) : List Int := l.map fun q => boundK (dclP ss) (meanIt ss q)
def bndUp (D l : List (Int × Int)) (j : Nat) : Int := match l with
  | [p] => posUp D p j
  | _ => -1
theorem bndUp_all (D l : List (Int × Int)) : bndUp D l D.length = boundK D l := by
  match l with
  | [] => rfl
  | [_] => rfl
  | _ :: _ :: _ => rfl
def intVs (l : List Int) : List Value := l.map fun x => Value.int .i64 x
theorem intVs_length (l : List Int) : (intVs l).length = l.length := by simp [intVs]
/-- What holds at the head of a round of l9Meant. -/
structure MntAt (w wr : World) (oa : Option Addr) (cap n : Nat) (vD tl vo : Value) (D all : List (Int × Int)) (os : List Int) : Prop where
  box : Row wr w.heap.size 25 [.slice oa n cap]
  dcl : wr.ownsRow w.heap.size 32 2 vD D.length (placeCells D)
  items : wr.ownsRow w.heap.size 32 2 tl all.length (placeCells all)
  out : wr.ownsRow w.heap.size 3 1 vo os.length (intVs os)
  below : Below w.heap.size w wr
theorem MntAt.step {w wr w' : World} {oa : Option Addr} {cap n : Nat} {vD tl vo : Value} {D all : List (Int × Int)} {os : List Int} (h : MntAt w wr oa cap n vD tl vo D all os) (hb : Below wr.heap.size wr w') : MntAt w w' oa cap n vD tl vo D all os where
  box := h.box.below hb h.box.lt
  dcl := ownsRow_below h.dcl hb
  items := ownsRow_below h.items hb
  out := ownsRow_below h.out hb
  below := h.below.trans (hb.mono h.below.size)
theorem MntAt.snoc {w wr w' : World} {oa : Option Addr} {cap n : Nat} {vD tl vo v' : Value} {D all : List (Int × Int)} {os : List Int} {x : Int} {o : Obj} (h : MntAt w wr oa cap n vD tl vo D all os)
    (hown : w'.ownsRow w.heap.size 3 1 v' (os.length + 1) (intVs os ++ [.int .i64 x])) (hg : (wr.alloc o).grownBy w' vo.ownBlock) : MntAt w w' oa cap n vD tl v' D all (os ++ [x]) where
  box := (h.box.alloc o).grown hg (ownsRow_ne h.box (by decide) h.out)
  dcl := (h.dcl.alloc o).kept hg (ownsRows_ne h.dcl h.out (by decide))
  items := (h.items.alloc o).kept hg (ownsRows_ne h.items h.out (by decide))
  out := by
    rw [List.length_append, List.length_singleton]
    unfold intVs
    rw [List.map_append]
    exact hown
  below := h.below.trans (below_append2 h.out hg (Nat.le_refl _) h.below.size)
end Go.Proofs.YtjogfagjcpcihaaDoor
namespace Go.Proofs.YtjogfagjcpcihaaDoor
open Go Go.RowKit
/-- The renaming of the items of a list alone. -/
def inF (l : List (Int × Int)) (f : NameF) : NameF := fun i j n => if ((i : Int), (j : Int)) ∈ l then f i j n else n
theorem inF_nil (ss : List Sc) (f : NameF) : renP ss (inF [] f) = ss := by
  rw [show inF [] f = fun _ _ n => n from by funext i j n; unfold inF; rw [if_neg (by simp)], renP_id]
theorem inF_more (ss : List Sc) (l : List (Int × Int)) {f : NameF} {a b : Nat} {nm : ByteArray} (hf : ∀ n, f a b n = nm) : renP (renP ss (inF l f)) (nmAt a b nm) = renP ss (inF (l ++ [((a : Int), (b : Int))]) f) := by
  rw [renP_comp]
  refine renP_congr fun i j s x _ _ => ?_
  unfold nmAt inF
  by_cases h1 : i = a ∧ j = b
  · obtain ⟨rfl, rfl⟩ := h1
    rw [if_pos ⟨rfl, rfl⟩, if_pos (by simp), hf]
  · rw [if_neg h1]
    have h2 : ((i : Int), (j : Int)) ∈ l ++ [((a : Int), (b : Int))] ↔ ((i : Int), (j : Int)) ∈ l := by
      simp only [List.mem_append, List.mem_singleton, Prod.mk.injEq]
      exact ⟨fun h => h.elim id fun h => absurd ⟨by omega, by omega⟩ h1, Or.inl⟩
    by_cases h3 : ((i : Int), (j : Int)) ∈ l
    · rw [if_pos h3, if_pos (h2.2 h3)]
    · rw [if_neg h3, if_neg (fun h => h3 (h2.1 h))]
theorem inF_all (ss : List Sc) (f : NameF) : renP ss (inF (plsAll (placed 0 ss)) f) = renP ss f := by
  refine renP_congr fun i j s x hs hx => ?_
  unfold inF
  rw [if_pos]
  unfold plsAll
  exact List.mem_map.2 ⟨(i, j, x), placed_of hs hx, rfl⟩
theorem ext_one {names : ByteArray} {n : Nat} (h : n < names.size) : names.extract n (n + 1) = nmK names (n : Int) := by
  have h1 : n < names.data.toList.length := by rw [Array.length_toList]; exact h
  unfold nmK
  rw [if_neg (by omega), Int.toNat_natCast, List.getElem?_eq_getElem h1, Option.getD_some]
  apply bytes_of
  rw [ByteArray.data_extract, Array.toList_extract]
  refine List.ext_getElem? fun k => ?_
  cases k with
  | zero =>
    simp [List.extract]
  | succ k =>
    simp [List.extract]
    omega
theorem mnt_at {ss : List Sc} {k : Nat} {q : Nat × Nat × It} (h : (placed 0 ss)[k]? = some q) : (mntL ss (placed 0 ss))[k]? = some (boundK (dclP ss) (meanIt ss q)) := by
  unfold mntL
  rw [List.getElem?_map, h]
  rfl
/-- Blocks that were made between two worlds lie as they lay. -/
structure KeepAt (w4 w5 w : World) : Prop where
  size : w5.heap.size ≤ w.heap.size
  same : ∀ b, w4.heap.size ≤ b → b < w5.heap.size → w.heap[b]? = w5.heap[b]?
theorem KeepAt.refl (w4 w5 : World) : KeepAt w4 w5 w5 := ⟨Nat.le_refl _, fun _ _ _ => rfl⟩
theorem KeepAt.below {w4 w5 w w' : World} (h : KeepAt w4 w5 w) (hb : Below w.heap.size w w') : KeepAt w4 w5 w' :=
  ⟨Nat.le_trans h.size hb.size, fun b h1 h2 => (hb.block b (Nat.lt_of_lt_of_le h2 h.size)).trans (h.same b h1 h2)⟩
theorem KeepAt.set {w4 w5 w W : World} (h : KeepAt w4 w5 w) (hb : Below w.heap.size w W) {g n : Nat} (hg : g < w4.heap.size) {u : Value} : KeepAt w4 w5 (W.setCell ⟨g, n, none⟩ u) :=
  ⟨by have := (h.below hb).size; simpa using this, fun b h1 h2 => (Below.heap_setCell _ _ _ _ (by show b ≠ g; omega)).trans ((h.below hb).same b h1 h2)⟩
theorem KeepAt.args {w4 w5 w : World} (h : KeepAt w4 w5 w) {o : Option Addr} {l : List (Int × Int)} (ha : ArgPlaces w5 o l) (ho : ∀ b f, o = some ⟨b, f, none⟩ → w4.heap.size ≤ b) : ArgPlaces w o l := by
  rcases ha with ha | ⟨b, f, rfl, hb, hc⟩
  · exact .inl ha
  · refine .inr ⟨b, f, rfl, Nat.lt_of_lt_of_le hb h.size, fun i p hp => ?_⟩
    have h1 := hc i p hp
    have h2 := h.same b (ho b f rfl) hb
    exact ⟨(World.cell?_of_block (a := ⟨b, f + i * 2, none⟩) h2).trans h1.1, (World.cell?_of_block (a := ⟨b, f + i * 2 + 1, none⟩) h2).trans h1.2⟩
end Go.Proofs.YtjogfagjcpcihaaDoor
