/-
  A range over an iterator that itself ranges over another: the contract of such an iterator ('SeqOwn'), and the statement's law over it. Plain facts about the model's walk. The contract of impl's iterator over what changes between two graphs: the places of the items that are there in the second one and mean something else. Conditions: a comparison lies in memory; whatever stands in the second graph is an item there. The walks of impl's slices.AppendSeq and slices.Collect over what changes, and of changedBetween. Conditions: both graphs lie in memory; the package-level errors hold errors; the function that is asked answers as is told. The walk of the given l6Same: whether an item means the same when another one is removed. Conditions: the graph is valid; both graphs lie in memory. The walk of the given l6Changed. Conditions: the graph is valid, lies in memory, and has the item. The walks of ChangedBy and CanRemove, given and impl. Conditions: the argument's memory holds the graph; the package-level errors hold errors.
-/
import Derived.RangeFuncNested
import Derived.RangeFuncBound
import Derived.RangeFuncLeaves
import Derived.Test.YtdmaaneilfjfcaaDoorJE
import Derived.Test.YtdmaaneilfjfcaaDoorWImplItems
import Derived.Test.YtdmaaneilfjfcaaDoorWSpecItems
import Derived.Test.YtdmaaneilfjfcaaDoorJC
import Derived.Deep.RegionHeld3
import Derived.Test.YtdmaaneilfjfcaaDoorWSpecRemove2
import Derived.Test.YtdmaaneilfjfcaaDoorWRemItem
namespace Go.Proofs.YtdmaaneilfjfcaaDoor
open Go Go.RowKit
theorem roundIn_deep {F : Fence} (hd : F.depth = none) {m m' : Nat} {P : Program} {l : Nat} {f : FuncId} {tmps : Array Value} {assign body : Code} {w : World} {R : Ending → World → Prop} (h : RoundIn F m P l f tmps assign body w R) : RoundIn F m' P l f tmps assign body w R :=
  ⟨h.1, fun c cs _ => h.2 c cs (fun d h => by rw [hd] at h; cases h)⟩
/-- What an iterator may ask of its rounds and what it does: it may lay blocks, and turn what holds no cells and was laid since its call began. -/
def SeqOwn {α : Type} (n : Nat) (P : Program) (g : Nat) (lb : Array Value) (encs : α → Array Value) (Kp : Nat → World → World → Prop) (S Sp : List α → Prop) (N : Nat) (w0 : World) : Prop :=
  ∀ (l : Nat) (J Jx : List α → World → Prop) (W : World), l < W.heap.size → Below w0.heap.size w0 W → OwnFrom W.heap.size J → OwnFrom W.heap.size Jx →
    (∀ m pre x W1, J pre W1 → pre.length < N → YieldAt Fence.wide m P l (encs x) W1 fun e W' => KeepsFrom W.heap.size W1 W' ∧
      ((e = .returned (.bool true) ∧ J (pre ++ [x]) W' ∧ Kp W.heap.size W1 W') ∨ (e = .returned (.bool false) ∧ Jx (pre ++ [x]) W'))) →
    J [] W →
    CallsIn Fence.wide n P g (#[.func (.yield l) #[] #[]] ++ lb) W fun e W' => (∃ v, e = .returned v) ∧ ((∃ xs, S xs ∧ J xs W') ∨ (∃ pre, Sp pre ∧ Jx pre W'))
variable {P : Program} {n : Nat}
theorem wpIn_rangeFunc_o {α : Type} {g : Operand} {ps : Array Tmp} {assign body : Code} {Q : Exit → Act → World → Prop} {a : Act} {w : World}
    {gf : Nat} {lb : Array Value} (hg : a.eval g = .func (.func gf) #[] lb) (eg : ∀ args w, (callFunc gf args).run P w = .ok (.enter gf args) w)
    {encs : α → Array Value} {Kp : Nat → World → World → Prop} {S Sp : List α → Prop} {N : Nat} {w0 : World} (hseq : SeqOwn (n - 1) P gf lb encs Kp S Sp N w0)
    (hKt : ∀ {A B C : World}, Kp (w.heap.size + 2) A B → Kp (w.heap.size + 2) B C → Kp (w.heap.size + 2) A C) (hKb : ∀ (W : World) (l : Nat) (o o' : Obj), w.heap.size ≤ l → W.heap[l]? = some o → o.isCells = false → o.isWalk = false → Kp (w.heap.size + 2) W (W.putObj l o'))
    (hb0 : Below w0.heap.size w0 w) (hps : ∀ x, (encs x).size = ps.size)
    (I : List α → World → Prop) (Ix : Code → List α → World → Prop) (hI : OwnFrom w.heap.size I) (hIx : ∀ c, OwnFrom w.heap.size (Ix c)) (h0 : I [] w) (Ax : α → Act → World → Prop) (hAx : ∀ x a', OwnFrom w.heap.size (fun (_ : Unit) W => Ax x a' W))
    (hassign : ∀ (l : Nat) (pre : List α) (x : α) (W : World) (K : Act → World → Prop), I pre W → (∀ a' W', KeepsFrom w.heap.size W W' → Kp (w.heap.size + 2) W W' → I pre W' → Ax x a' W' → K a' W') →
      assign.wpIn (Fence.wide.inRound l) (n - 1 - 1) P (Exit.then K (fun _ _ _ => False)) { tmps := (ps.zip (encs x)).foldl (fun t (p, v) => t.setIfInBounds p v) a.tmps, defers := [] } W)
    (hbody : ∀ (l : Nat) (pre : List α) (x : α) (a' : Act) (W : World), w.heap.size ≤ l → (∃ r, W.heap[l]? = some (.loop r)) → I pre W → Ax x a' W → pre.length < N → body.wpIn (Fence.wide.inRound l) (n - 1 - 1) P (ownPostG w.heap.size (Kp (w.heap.size + 2)) I Ix (pre ++ [x]) W) a' W)
    (hdone : ∀ (D : Nat) (xs : List α) (W : World), w.heap.size ≤ D → S xs → I xs W → W.heap[D]? = some (.deferred (some [])) → Q .normal { a with defers := { target := .collected D, args := #[] } :: a.defers } W)
    (hstop : ∀ (D : Nat) (c : Code) (pre : List α) (W : World), w.heap.size ≤ D → Sp pre → Ix c pre W → W.heap[D]? = some (.deferred (some [])) → c.wpIn Fence.wide n P Q { a with defers := { target := .collected D, args := #[] } :: a.defers } W) :
    (Code.rangeFunc g ps assign body).wpIn Fence.wide n P Q a w := by
  refine wpIn_rangeFunc fun fn hfn => ?_
  obtain ⟨B, hB⟩ : ∃ B, B = w.heap.size := ⟨_, rfl⟩
  obtain ⟨rc, hrc⟩ : ∃ rc : LoopState → Option Code → Loop, rc = fun st pe => { state := st, pending := pe, fn, tmps := a.tmps, params := ps, assign, body, defers := B } := ⟨_, rfl⟩
  obtain ⟨V, hV⟩ : ∃ V, V = (w.alloc (.deferred (some []))).alloc (.loop (rc .ready none)) := ⟨_, rfl⟩
  have hVs : V.heap.size = B + 2 := by rw [hV, hB]; simp
  have hVl : V.heap[B + 1]? = some (.loop (rc .ready none)) := by
    have h := World.alloc_heap_new (w.alloc (.deferred (some []))) (.loop (rc .ready none))
    rw [World.size_alloc, ← hB, ← hV] at h
    exact h
  have hVd : V.heap[B]? = some (.deferred (some [])) := by
    have h := World.alloc_heap_new w (.deferred (some []))
    rw [hV, hB]
    exact (Below.heap_alloc _ _ _ (by simp)).trans h
  have hVb : Below w.heap.size w V := by rw [hV]; exact ((Below.refl _ _).alloc (Nat.le_refl _) _).alloc (by simp) _
  have hVI : I [] V := by rw [hV]; exact hI.alloc _ (hI.alloc _ h0)
  rw [← hB] at hI hIx hAx hassign hbody hdone hstop hKb
  have hKt' : ∀ {A C E : World}, Kp (B + 2) A C → Kp (B + 2) C E → Kp (B + 2) A E := by rw [hB]; exact hKt
  refine ⟨B + 1, [{ target := .collected B, args := #[] }], V, { target := .fn (.func gf) lb, args := #[.func (.yield (B + 1)) #[] #[]] }, V, gf, #[.func (.yield (B + 1)) #[] #[]] ++ lb, V, ?_, ?_, fun _ _ => trivial, ?_, fun h => (by cases h), ?_⟩
  · rw [hV, hrc, hB]; exact run_enterLoop_outer _ _ _ _ _
  · simp only [resolve, hg]
    simp [go_sem]
  · simp [invoke, go_sem, eg]
  · refine (hseq (B + 1)
      (fun pre W => I pre W ∧ (W.heap[B + 1]? = some (.loop (rc .ready none)) ∧ W.heap[B]? = some (.deferred (some []))))
      (fun pre W => ∃ c, Ix c pre W ∧ (W.heap[B + 1]? = some (.loop (rc .done (some c))) ∧ W.heap[B]? = some (.deferred (some []))))
      V (by omega) (hb0.trans (hVb.mono hb0.size)) ?_ ?_ ?_ ⟨hVI, hVl, hVd⟩).mono ?_
    · rintro s A C row ⟨h1, h2, h3⟩ hg' hr
      have hne : ∀ k, k < B + 2 → some k ≠ row := fun k hk e => by have := (hr k e.symm).1; omega
      exact ⟨hI s A C row h1 hg' (fun r e => ⟨by have := (hr r e).1; omega, (hr r e).2⟩), (hg'.block _ (Array.getElem?_eq_some_iff.1 h2).1 (hne _ (by omega))).trans h2, (hg'.block _ (Array.getElem?_eq_some_iff.1 h3).1 (hne _ (by omega))).trans h3⟩
    · rintro s A C row ⟨c, h1, h2, h3⟩ hg' hr
      have hne : ∀ k, k < B + 2 → some k ≠ row := fun k hk e => by have := (hr k e.symm).1; omega
      exact ⟨c, hIx c s A C row h1 hg' (fun r e => ⟨by have := (hr r e).1; omega, (hr r e).2⟩), (hg'.block _ (Array.getElem?_eq_some_iff.1 h2).1 (hne _ (by omega))).trans h2, (hg'.block _ (Array.getElem?_eq_some_iff.1 h3).1 (hne _ (by omega))).trans h3⟩
    · rintro m pre x W ⟨hi, hl, hd⟩ hlen
      have hy := run_yield (P := P) (args := encs x) hl (by rw [hrc]; exact hps x)
      rw [hrc] at hy
      refine ⟨fn, _, assign, body, hy, roundIn_deep rfl (roundIn_of_wpIn (n := n - 1 - 1) hfn (hassign (B + 1) pre x W _ hi fun a' Wa hka hpa hia hxa => ?_))⟩
      have hla := hka.same _ _ (by omega) hl rfl
      have hda := hka.same _ _ (Nat.le_refl _) hd rfl
      have hlt := (Array.getElem?_eq_some_iff.1 hla).1
      refine ⟨_, run_beginRound hla (by rw [hrc]), ?_⟩
      have hl2 : (Wa.putObj (B + 1) (.loop { rc .ready none with state := .busy })).heap[B + 1]? = some (.loop { rc .ready none with state := .busy }) := World.putObj_heap_same hlt
      have hd2 : (Wa.putObj (B + 1) (.loop { rc .ready none with state := .busy })).heap[B]? = some (.deferred (some [])) := (World.putObj_heap_other (by omega)).trans hda
      have hp2 : Kp (B + 2) Wa (Wa.putObj (B + 1) (.loop { rc .ready none with state := .busy })) := hKb _ _ _ _ (by omega) hla rfl rfl
      refine wpIn_mono (hbody (B + 1) pre x a' _ (by omega) ⟨_, hl2⟩ (hI.putObj _ hia (by omega) hla rfl) ((hAx x a').putObj (s := ()) _ hxa (by omega) hla rfl) hlen) ?_
      have put : ∀ (W' : World) (o : Obj), KeepsFrom V.heap.size W' (W'.putObj (B + 1) o) := fun W' o => ⟨by simp, fun k o' hk h _ => (World.putObj_heap_other (by omega)).trans h⟩
      have keep : ∀ (W3 : World) (o : Obj), KeepsFrom B (Wa.putObj (B + 1) (.loop { rc .ready none with state := .busy })) W3 → KeepsFrom V.heap.size W (W3.putObj (B + 1) o) := fun W3 o h3 => by
        have h1 := put Wa (.loop { rc .ready none with state := .busy })
        have h2 := put W3 o
        exact ⟨Nat.le_trans hka.size (Nat.le_trans h1.size (Nat.le_trans h3.size h2.size)), fun k o' hk ho hc => h2.same k o' hk (h3.same k o' (by omega) (h1.same k o' hk (hka.same k o' (by omega) ho hc) hc) hc) hc⟩
      have fin : ∀ (jump : Option Code) (W3 : World), KeepsFrom B (Wa.putObj (B + 1) (.loop { rc .ready none with state := .busy })) W3 →
          (Instr.endRound (B + 1) jump).run P W3 = .ok (.bool jump.isNone) (W3.putObj (B + 1) (.loop (rc (if jump.isNone then .ready else .done) jump))) ∧
          W3.heap[B + 1]? = some (.loop { rc .ready none with state := .busy }) ∧
          (W3.putObj (B + 1) (.loop (rc (if jump.isNone then .ready else .done) jump))).heap[B + 1]? = some (.loop (rc (if jump.isNone then .ready else .done) jump)) ∧
          (W3.putObj (B + 1) (.loop (rc (if jump.isNone then .ready else .done) jump))).heap[B]? = some (.deferred (some [])) := fun jump W3 h3 => by
        have hl3 := h3.same _ _ (by omega) hl2 rfl
        have hr := run_endRound (P := P) jump hl3
        rw [hrc] at hr ⊢
        exact ⟨hr, by rw [hrc] at hl3; exact hl3, World.putObj_heap_same (Array.getElem?_eq_some_iff.1 hl3).1, (World.putObj_heap_other (by omega)).trans (h3.same _ _ (Nat.le_refl _) hd2 rfl)⟩
      rintro e a3 W3 hp
      cases e with
      | normal =>
        obtain ⟨hk3, hkp3, hi3⟩ := hp
        obtain ⟨hr, hl3, hl4, hd4⟩ := fin none W3 hk3
        exact ⟨_, _, hr, keep W3 _ hk3, .inl ⟨rfl, ⟨hI.putObj _ hi3 (by omega) hl3 rfl, hl4, hd4⟩, by rw [hVs]; exact hKt' hpa (hKt' (hKt' hp2 hkp3) (hKb _ _ _ _ (by omega) hl3 rfl rfl))⟩⟩
      | ret =>
        obtain ⟨hk3, hi3⟩ := hp
        obtain ⟨hr, hl3, hl4, hd4⟩ := fin (some .ret) W3 hk3
        exact ⟨_, _, hr, keep W3 _ hk3, .inr ⟨rfl, .ret, (hIx _).putObj _ hi3 (by omega) hl3 rfl, hl4, hd4⟩⟩
      | exit id =>
        obtain ⟨hk3, hi3⟩ := hp
        obtain ⟨hr, hl3, hl4, hd4⟩ := fin (some (.exit id)) W3 hk3
        exact ⟨_, _, hr, keep W3 _ hk3, .inr ⟨rfl, .exit id, (hIx _).putObj _ hi3 (by omega) hl3 rfl, hl4, hd4⟩⟩
      | goto t =>
        obtain ⟨hk3, hi3⟩ := hp
        obtain ⟨hr, hl3, hl4, hd4⟩ := fin (some (.goto t)) W3 hk3
        exact ⟨_, _, hr, keep W3 _ hk3, .inr ⟨rfl, .goto t, (hIx _).putObj _ hi3 (by omega) hl3 rfl, hl4, hd4⟩⟩
      | panic ch => exact hp.elim
      | outgrown => exact hp.elim
    · rintro e W2 ⟨⟨v, rfl⟩, (⟨xs, hS, hi, hl, hd⟩ | ⟨pre, hSp, c, hi, hl, hd⟩)⟩
      · exact ⟨none, _, by have h := run_endLoop (P := P) hl (by rw [hrc]; simp); rw [hrc] at h; exact h, hdone B xs _ (Nat.le_refl _) hS (hI.putObj _ hi (by omega) hl rfl) ((World.putObj_heap_other (by omega)).trans hd)⟩
      · exact ⟨some c, _, by have h := run_endLoop (P := P) hl (by rw [hrc]; simp); rw [hrc] at h; exact h, hstop B c pre _ (Nat.le_refl _) hSp ((hIx c).putObj _ hi (by omega) hl rfl) ((World.putObj_heap_other (by omega)).trans hd)⟩
end Go.Proofs.YtdmaaneilfjfcaaDoor
namespace Go.Proofs.YtdmaaneilfjfcaaDoor
open Go Go.RowKit Go.Maps
attribute [local go_sem] Oper.semAt_some
/-- Those of some items that are there in the second graph and mean something else. -/
def chEl {ss : List Sc} (tt : List Sc) (st : Int × Int → Option (Int × Int)) (pre : List (El ss)) : List (El ss) := pre.filter fun x => chgB1 ss tt st x.1
theorem chEl_snoc {ss tt : List Sc} {st : Int × Int → Option (Int × Int)} (pre : List (El ss)) (x : El ss) : chEl tt st (pre ++ [x]) = chEl tt st pre ++ if chgB1 ss tt st x.1 = true then [x] else [] := by
  unfold chEl
  rw [List.filter_append]
  congr 1
  by_cases h : chgB1 ss tt st x.1 = true
  · rw [if_pos h]; simp [h]
  · rw [if_neg h]; simp [h]
theorem chEl_all {ss tt : List Sc} {st : Int × Int → Option (Int × Int)} {ys : List (El ss)} (h : ys.map Subtype.val = placed 0 ss) : (chEl tt st ys).map (fun x => plOf x.1) = chgG ss tt st := by
  have key : ∀ L : List (Nat × Nat × It), ys.map Subtype.val = L → (ys.filter fun x => chgB1 ss tt st x.1).map (fun x => plOf x.1) = (L.filter (chgB1 ss tt st)).map plOf := by
    intro L hL
    rw [← hL, List.filter_map, List.map_map]
    rfl
  exact key _ h
theorem ownOver {β : Type} {B : Nat} {I : β → World → Prop} (h : OwnFrom B I) {s : β} {A C : World} (hs : I s A) (hb : Below A.heap.size A C) : I s C :=
  h s A C none hs ⟨hb.os, hb.tape, hb.output, hb.size, fun k hk _ => hb.block k hk⟩ (fun r e => by cases e)
/-- What stands in the second graph is an item there. -/
def StandsIn (ss tt : List Sc) (st : Int × Int → Option (Int × Int)) : Prop := ∀ q ∈ placed 0 ss, ∀ p, st (plOf q) = some p → ∃ (i j : Nat) (x : It), p = ((i : Int), (j : Int)) ∧ (i, j, x) ∈ placed 0 tt
theorem cell5 {w1 W : World} {p0 p1 p2 p3 : Addr} {v0 v1 v2 v3 : Value} (c0 : w1.cell? p0 = some v0) (c1 : w1.cell? p1 = some v1) (c2 : w1.cell? p2 = some v2) (c3 : w1.cell? p3 = some v3) (hb : Below w1.heap.size w1 W) :
    W.cell? p0 = some v0 ∧ W.cell? p1 = some v1 ∧ W.cell? p2 = some v2 ∧ W.cell? p3 = some v3 := ⟨cell_grow hb c0, cell_grow hb c1, cell_grow hb c2, cell_grow hb c3⟩
theorem ownUp2 {β : Type} {B B' : Nat} {I : β → World → Prop} (h : OwnFrom B I) (hB : B ≤ B') : OwnFrom B' I := fun s A C row hs hg hr => h s A C row hs hg (fun r e => ⟨Nat.le_trans hB (hr r e).1, (hr r e).2⟩)
theorem keepsUp {B B' : Nat} {A C : World} (h : KeepsFrom B A C) (hB : B ≤ B') : KeepsFrom B' A C := ⟨h.size, fun k o hk ho hc => h.same k o (Nat.le_trans hB hk) ho hc⟩
theorem keepsJoin {B : Nat} {A C E : World} (h : KeepsFrom B A C) (k : KeepsFrom B C E) : KeepsFrom B A E := ⟨Nat.le_trans h.size k.size, fun i o hi ho hc => k.same i o hi (h.same i o hi ho hc) hc⟩
/-- What a round keeps: all that lay below n; from m on whatever holds no places. -/
def PlKeep (n m : Nat) (A C : World) : Prop := Below n A C ∧ ∀ (g : Nat) (t : TypeId) (vs : List Value), m ≤ g → t ≠ 35 → Row A g t vs → Row C g t vs
end Go.Proofs.YtdmaaneilfjfcaaDoor
namespace Go.Proofs.YtdmaaneilfjfcaaDoor
open Go Go.RowKit Go.Maps
attribute [local go_sem] Oper.semAt_some
def elPls {ss : List Sc} (pre : List (El ss)) : List (Int × Int) := pre.map fun x => plOf x.1
theorem elPls_snoc {ss : List Sc} (pre : List (El ss)) (x : El ss) : elPls (pre ++ [x]) = elPls pre ++ [plOf x.1] := by unfold elPls; rw [List.map_append]; rfl
/-- What changedBetween answers. -/
def BetGot (l : List (Int × Int)) (w : World) (e : Ending) (w' : World) : Prop := ∃ v, e = .returned (.tuple #[v, .bool true]) ∧ w'.ownsRow w.heap.size 35 2 v l.length (placeCells l) ∧ Below w.heap.size w w'
end Go.Proofs.YtdmaaneilfjfcaaDoor
namespace Go.Proofs.YtdmaaneilfjfcaaDoor
open Go Go.RowKit
theorem aftB_nat (a b i j : Nat) : aftB (i : Int) (j : Int) (a : Int) (b : Int) = (aftN a b i j : Int) := by
  unfold aftB aftN
  by_cases h : i = a ∧ b < j
  · rw [if_pos ⟨by omega, by omega⟩, if_pos h]; omega
  · rw [if_neg (fun hh => h ⟨by omega, by omega⟩), if_neg h]
theorem aftI_B (a b : Int) (p : Int × Int) : aftI a b p = (p.1, aftB p.1 p.2 a b) := by
  unfold aftI aftB
  split <;> rfl
theorem grow6 {W W' : World} {p : Addr} {v : Value} (hb : Below W.heap.size W W') (h : W.cell? p = some v) : W'.cell? p = some v := (hb.cell (World.block_lt_of_cell? _ _ h)).trans h
theorem held5 {w w1 W : World} {p0 p1 p2 p3 p4 : Addr} {v0 v1 v2 v3 v4 : Value} (c0 : w1.cell? p0 = some v0) (c1 : w1.cell? p1 = some v1) (c2 : w1.cell? p2 = some v2) (c3 : w1.cell? p3 = some v3) (c4 : w1.cell? p4 = some v4) (B1 : Below w.heap.size w w1) (hb : Below w1.heap.size w1 W) :
    W.cell? p0 = some v0 ∧ W.cell? p1 = some v1 ∧ W.cell? p2 = some v2 ∧ W.cell? p3 = some v3 ∧ W.cell? p4 = some v4 ∧ Below w.heap.size w W ∧ Below w1.heap.size w1 W :=
  ⟨grow6 hb c0, grow6 hb c1, grow6 hb c2, grow6 hb c3, grow6 hb c4, B1.trans (hb.mono B1.size), hb⟩
theorem held6 {w1 W : World} {p0 p1 p2 p3 p4 p5 : Addr} {v0 v1 v2 v3 v4 v5 : Value} (c0 : w1.cell? p0 = some v0) (c1 : w1.cell? p1 = some v1) (c2 : w1.cell? p2 = some v2) (c3 : w1.cell? p3 = some v3) (c4 : w1.cell? p4 = some v4) (c5 : w1.cell? p5 = some v5) (hb : Below w1.heap.size w1 W) :
    W.cell? p0 = some v0 ∧ W.cell? p1 = some v1 ∧ W.cell? p2 = some v2 ∧ W.cell? p3 = some v3 ∧ W.cell? p4 = some v4 ∧ W.cell? p5 = some v5 ∧ Below w1.heap.size w1 W :=
  ⟨grow6 hb c0, grow6 hb c1, grow6 hb c2, grow6 hb c3, grow6 hb c4, grow6 hb c5, hb⟩
theorem same_len {ss : List Sc} {a b : Nat} {q : Nat × Nat × It} (h : (meanIt ss q).length ≠ (meanIt (rmvP ss a b) (q.1, aftN a b q.1 q.2.1, q.2.2)).length) : sameB ss a b q = false := by
  unfold sameB
  rw [Bool.and_eq_false_iff]
  right
  refine decide_eq_false fun e => h ?_
  rw [← e, List.length_map]
theorem same_in {ss : List Sc} {a b : Nat} {q : Nat × Nat × It} (h : ((a : Int), (b : Int)) ∈ meanIt ss q) : sameB ss a b q = false := by
  unfold sameB
  rw [decide_eq_true h]
  rfl
end Go.Proofs.YtdmaaneilfjfcaaDoor
namespace Go.Proofs.YtdmaaneilfjfcaaDoor
open Go Go.RowKit
theorem OwnGr.holdsAt6 {w : World} {B : Nat} {o : Option Addr} {n c : Nat} {l : List Sc} {hs : List Value} (h : OwnGr w B (.slice o n c) l hs) : HoldsScopes w o l := by
  obtain ⟨o2, c2, he, hh⟩ := h.holds
  simp only [Value.slice.injEq] at he
  obtain ⟨rfl, -, -⟩ := he
  exact hh
/-- A graph stays where a list of places grows. -/
theorem OwnGr.pushed {w w' : World} {B B2 n : Nat} {v u : Value} {us : List Sc} {hs xs : List Value} {o : Obj} (h : OwnGr w B v us hs) (hp : w.ownsRow B2 35 2 u n xs) (hg : (w.alloc o).grownBy w' u.ownBlock) : OwnGr w' B v us hs :=
  ⟨h.len, ownsRow_apart (h.row.alloc o) hg (owns_types_apart h.row hp (by decide)), fun i s z h1 h2 => ownsRow_apart ((h.items i s z h1 h2).alloc o) hg (owns_types_apart (h.items i s z h1 h2) hp (by decide)), h.apart⟩
end Go.Proofs.YtdmaaneilfjfcaaDoor
namespace Go.Proofs.YtdmaaneilfjfcaaDoor
open Go Go.RowKit
/-- What items mean something else when the item at a place is removed. -/
def chgPI (ss : List Sc) (a b : Int) : List (Int × Int) := chgP ss a.toNat b.toNat
theorem chgPI_nat (ss : List Sc) (i j : Nat) : chgPI ss (i : Int) (j : Int) = chgP ss i j := by unfold chgPI; rw [Int.toNat_natCast, Int.toNat_natCast]
/-- A truth that tells whether a list is there and empty. -/
def CanVal2 (ok : Prop) (l : List (Int × Int)) (b : Bool) : Prop := (¬ ok ∧ b = false) ∨ (ok ∧ b = decide (l = []))
theorem CanVal2.same {ok : Prop} {l : List (Int × Int)} {b b' : Bool} (h : CanVal2 ok l b) (k : CanVal2 ok l b') : b = b' := by
  rcases h with ⟨h1, h2⟩ | ⟨h1, h2⟩ <;> rcases k with ⟨k1, k2⟩ | ⟨k1, k2⟩
  · rw [h2, k2]
  · exact absurd k1 h1
  · exact absurd h1 k1
  · rw [h2, k2]
theorem len_zero2 (l : List (Int × Int)) : ((l.length : Int) == 0) = decide (l = []) := by
  cases l with
  | nil => rfl
  | cons a r => simp; omega
/-- A place told to stand behind a removal. -/
theorem told_rmv {a b i j x y : Int} {ok : Bool} (h : (x, y, ok) = paV i j a b) : StTold (stRmv a b) (i, j) x y ok := by
  unfold paV at h
  unfold StTold stRmv
  dsimp only
  split at h
  · rename_i h1
    simp only [Prod.mk.injEq] at h
    exact .inr ⟨h.2.2, if_pos ⟨h1.1, h1.2⟩⟩
  · rename_i h1
    simp only [Prod.mk.injEq] at h
    refine .inl ⟨h.2.2, ?_⟩
    rw [if_neg (fun e => h1 ⟨e.1, e.2⟩), aftI_B]
    dsimp only
    rw [h.1, h.2.1]
theorem stands_in_rmv {ss : List Sc} {a b : Nat} : StandsIn ss (rmvP ss a b) (stRmv (a : Int) (b : Int)) := by
  rintro ⟨i, j, x⟩ hq p hp
  unfold stRmv plOf at hp
  dsimp only at hp
  split at hp
  · cases hp
  · rename_i h1
    obtain rfl := Option.some.inj hp
    rw [aftI_nat]
    exact ⟨i, aftN a b i j, x, rfl, placed_rmv hq (fun e => h1 ⟨by rw [e.1], by rw [e.2]⟩)⟩
end Go.Proofs.YtdmaaneilfjfcaaDoor
