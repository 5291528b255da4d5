/-
  A range over an iterator that itself ranges over another: the contract of such an iterator ('SeqOwn'), and the statement's law over it. Plain facts about the model's walk. The contract of impl's iterator over what changes between two graphs: the places of the items that are there in the second one and mean something else. Conditions: a comparison lies in memory; whatever stands in the second graph is an item there. The walks of impl's slices.AppendSeq and slices.Collect over what changes, and of changedBetween. Conditions: both graphs lie in memory; the package-level errors hold errors; the function that is asked answers as is told.
-/
import Derived.RangeFuncNested
import Derived.RangeFuncBound
import Derived.RangeFuncLeaves
import Derived.Test.YtdmaaneilfjfcaaGreatDoorJE
import Derived.Test.YtdmaaneilfjfcaaGreatDoorWImplItems
namespace Go.Proofs.YtdmaaneilfjfcaaGreatDoor
open Go Go.RowKit
theorem roundIn_deep {F : Fence} (hd : F.depth = none) {m m' : Nat} {P : Program} {l : Nat} {f : FuncId} {tmps : Array Value} {assign body : Code} {w : World} {R : Ending → World → Prop} (h : RoundIn F m P l f tmps assign body w R) : RoundIn F m' P l f tmps assign body w R :=
  ⟨h.1, fun c cs _ => h.2 c cs (fun d h => by rw [hd] at h; cases h)⟩
/-- What an iterator may ask of its rounds and what it does: it may lay blocks, and turn what holds no cells and was laid since its call began. -/
def SeqOwn {α : Type} (n : Nat) (P : Program) (g : Nat) (lb : Array Value) (encs : α → Array Value) (Kp : Nat → World → World → Prop) (S Sp : List α → Prop) (N : Nat) (w0 : World) : Prop :=
  ∀ (l : Nat) (J Jx : List α → World → Prop) (W : World), l < W.heap.size → Below w0.heap.size w0 W → OwnFrom W.heap.size J → OwnFrom W.heap.size Jx →
    (∀ m pre x W1, J pre W1 → pre.length < N → YieldAt Fence.wide m P l (encs x) W1 fun e W' => KeepsFrom W.heap.size W1 W' ∧
      ((e = .returned (.bool true) ∧ J (pre ++ [x]) W' ∧ Kp W.heap.size W1 W') ∨ (e = .returned (.bool false) ∧ Jx (pre ++ [x]) W'))) →
    J [] W →
    CallsIn Fence.wide n P g (#[.func (.yield l) #[] #[]] ++ lb) W fun e W' => (∃ v, e = .returned v) ∧ ((∃ xs, S xs ∧ J xs W') ∨ (∃ pre, Sp pre ∧ Jx pre W'))
variable {P : Program} {n : Nat}
theorem wpIn_rangeFunc_o {α : Type} {g : Operand} {ps : Array Tmp} {assign body : Code} {Q : Exit → Act → World → Prop} {a : Act} {w : World}
    {gf : Nat} {lb : Array Value} (hg : a.eval g = .func (.func gf) #[] lb) (eg : ∀ args w, (callFunc gf args).run P w = .ok (.enter gf args) w)
    {encs : α → Array Value} {Kp : Nat → World → World → Prop} {S Sp : List α → Prop} {N : Nat} {w0 : World} (hseq : SeqOwn (n - 1) P gf lb encs Kp S Sp N w0)
    (hKt : ∀ {A B C : World}, Kp (w.heap.size + 2) A B → Kp (w.heap.size + 2) B C → Kp (w.heap.size + 2) A C) (hKb : ∀ (W : World) (l : Nat) (o o' : Obj), w.heap.size ≤ l → W.heap[l]? = some o → o.isCells = false → o.isWalk = false → Kp (w.heap.size + 2) W (W.putObj l o'))
    (hb0 : Below w0.heap.size w0 w) (hps : ∀ x, (encs x).size = ps.size)
    (I : List α → World → Prop) (Ix : Code → List α → World → Prop) (hI : OwnFrom w.heap.size I) (hIx : ∀ c, OwnFrom w.heap.size (Ix c)) (h0 : I [] w) (Ax : α → Act → World → Prop) (hAx : ∀ x a', OwnFrom w.heap.size (fun (_ : Unit) W => Ax x a' W))
    (hassign : ∀ (l : Nat) (pre : List α) (x : α) (W : World) (K : Act → World → Prop), I pre W → (∀ a' W', KeepsFrom w.heap.size W W' → Kp (w.heap.size + 2) W W' → I pre W' → Ax x a' W' → K a' W') →
      assign.wpIn (Fence.wide.inRound l) (n - 1 - 1) P (Exit.then K (fun _ _ _ => False)) { tmps := (ps.zip (encs x)).foldl (fun t (p, v) => t.setIfInBounds p v) a.tmps, defers := [] } W)
    (hbody : ∀ (l : Nat) (pre : List α) (x : α) (a' : Act) (W : World), w.heap.size ≤ l → (∃ r, W.heap[l]? = some (.loop r)) → I pre W → Ax x a' W → pre.length < N → body.wpIn (Fence.wide.inRound l) (n - 1 - 1) P (ownPostG w.heap.size (Kp (w.heap.size + 2)) I Ix (pre ++ [x]) W) a' W)
    (hdone : ∀ (D : Nat) (xs : List α) (W : World), w.heap.size ≤ D → S xs → I xs W → W.heap[D]? = some (.deferred (some [])) → Q .normal { a with defers := { target := .collected D, args := #[] } :: a.defers } W)
    (hstop : ∀ (D : Nat) (c : Code) (pre : List α) (W : World), w.heap.size ≤ D → Sp pre → Ix c pre W → W.heap[D]? = some (.deferred (some [])) → c.wpIn Fence.wide n P Q { a with defers := { target := .collected D, args := #[] } :: a.defers } W) :
    (Code.rangeFunc g ps assign body).wpIn Fence.wide n P Q a w := by
  refine wpIn_rangeFunc fun fn hfn => ?_
  obtain ⟨B, hB⟩ : ∃ B, B = w.heap.size := ⟨_, rfl⟩
  obtain ⟨rc, hrc⟩ : ∃ rc : LoopState → Option Code → Loop, rc = fun st pe => { state := st, pending := pe, fn, tmps := a.tmps, params := ps, assign, body, defers := B } := ⟨_, rfl⟩
  obtain ⟨V, hV⟩ : ∃ V, V = (w.alloc (.deferred (some []))).alloc (.loop (rc .ready none)) := ⟨_, rfl⟩
  have hVs : V.heap.size = B + 2 := by rw [hV, hB]; simp
  have hVl : V.heap[B + 1]? = some (.loop (rc .ready none)) := by
    have h := World.alloc_heap_new (w.alloc (.deferred (some []))) (.loop (rc .ready none))
    rw [World.size_alloc, ← hB, ← hV] at h
    exact h
  have hVd : V.heap[B]? = some (.deferred (some [])) := by
    have h := World.alloc_heap_new w (.deferred (some []))
    rw [hV, hB]
    exact (Below.heap_alloc _ _ _ (by simp)).trans h
  have hVb : Below w.heap.size w V := by rw [hV]; exact ((Below.refl _ _).alloc (Nat.le_refl _) _).alloc (by simp) _
  have hVI : I [] V := by rw [hV]; exact hI.alloc _ (hI.alloc _ h0)
  rw [← hB] at hI hIx hAx hassign hbody hdone hstop hKb
  have hKt' : ∀ {A C E : World}, Kp (B + 2) A C → Kp (B + 2) C E → Kp (B + 2) A E := by rw [hB]; exact hKt
  refine ⟨B + 1, [{ target := .collected B, args := #[] }], V, { target := .fn (.func gf) lb, args := #[.func (.yield (B + 1)) #[] #[]] }, V, gf, #[.func (.yield (B + 1)) #[] #[]] ++ lb, V, ?_, ?_, fun _ _ => trivial, ?_, fun h => (by cases h), ?_⟩
  · rw [hV, hrc, hB]; exact run_enterLoop_outer _ _ _ _ _
  · simp only [resolve, hg]
    simp [go_sem]
  · simp [invoke, go_sem, eg]
  · refine (hseq (B + 1)
      (fun pre W => I pre W ∧ (W.heap[B + 1]? = some (.loop (rc .ready none)) ∧ W.heap[B]? = some (.deferred (some []))))
      (fun pre W => ∃ c, Ix c pre W ∧ (W.heap[B + 1]? = some (.loop (rc .done (some c))) ∧ W.heap[B]? = some (.deferred (some []))))
      V (by omega) (hb0.trans (hVb.mono hb0.size)) ?_ ?_ ?_ ⟨hVI, hVl, hVd⟩).mono ?_
    · rintro s A C row ⟨h1, h2, h3⟩ hg' hr
      have hne : ∀ k, k < B + 2 → some k ≠ row := fun k hk e => by have := (hr k e.symm).1; omega
      exact ⟨hI s A C row h1 hg' (fun r e => ⟨by have := (hr r e).1; omega, (hr r e).2⟩), (hg'.block _ (Array.getElem?_eq_some_iff.1 h2).1 (hne _ (by omega))).trans h2, (hg'.block _ (Array.getElem?_eq_some_iff.1 h3).1 (hne _ (by omega))).trans h3⟩
    · rintro s A C row ⟨c, h1, h2, h3⟩ hg' hr
      have hne : ∀ k, k < B + 2 → some k ≠ row := fun k hk e => by have := (hr k e.symm).1; omega
      exact ⟨c, hIx c s A C row h1 hg' (fun r e => ⟨by have := (hr r e).1; omega, (hr r e).2⟩), (hg'.block _ (Array.getElem?_eq_some_iff.1 h2).1 (hne _ (by omega))).trans h2, (hg'.block _ (Array.getElem?_eq_some_iff.1 h3).1 (hne _ (by omega))).trans h3⟩
    · rintro m pre x W ⟨hi, hl, hd⟩ hlen
      have hy := run_yield (P := P) (args := encs x) hl (by rw [hrc]; exact hps x)
      rw [hrc] at hy
      refine ⟨fn, _, assign, body, hy, roundIn_deep rfl (roundIn_of_wpIn (n := n - 1 - 1) hfn (hassign (B + 1) pre x W _ hi fun a' Wa hka hpa hia hxa => ?_))⟩
      have hla := hka.same _ _ (by omega) hl rfl
      have hda := hka.same _ _ (Nat.le_refl _) hd rfl
      have hlt := (Array.getElem?_eq_some_iff.1 hla).1
      refine ⟨_, run_beginRound hla (by rw [hrc]), ?_⟩
      have hl2 : (Wa.putObj (B + 1) (.loop { rc .ready none with state := .busy })).heap[B + 1]? = some (.loop { rc .ready none with state := .busy }) := World.putObj_heap_same hlt
      have hd2 : (Wa.putObj (B + 1) (.loop { rc .ready none with state := .busy })).heap[B]? = some (.deferred (some [])) := (World.putObj_heap_other (by omega)).trans hda
      have hp2 : Kp (B + 2) Wa (Wa.putObj (B + 1) (.loop { rc .ready none with state := .busy })) := hKb _ _ _ _ (by omega) hla rfl rfl
      refine wpIn_mono (hbody (B + 1) pre x a' _ (by omega) ⟨_, hl2⟩ (hI.putObj _ hia (by omega) hla rfl) ((hAx x a').putObj (s := ()) _ hxa (by omega) hla rfl) hlen) ?_
      have put : ∀ (W' : World) (o : Obj), KeepsFrom V.heap.size W' (W'.putObj (B + 1) o) := fun W' o => ⟨by simp, fun k o' hk h _ => (World.putObj_heap_other (by omega)).trans h⟩
      have keep : ∀ (W3 : World) (o : Obj), KeepsFrom B (Wa.putObj (B + 1) (.loop { rc .ready none with state := .busy })) W3 → KeepsFrom V.heap.size W (W3.putObj (B + 1) o) := fun W3 o h3 => by
        have h1 := put Wa (.loop { rc .ready none with state := .busy })
        have h2 := put W3 o
        exact ⟨Nat.le_trans hka.size (Nat.le_trans h1.size (Nat.le_trans h3.size h2.size)), fun k o' hk ho hc => h2.same k o' hk (h3.same k o' (by omega) (h1.same k o' hk (hka.same k o' (by omega) ho hc) hc) hc) hc⟩
      have fin : ∀ (jump : Option Code) (W3 : World), KeepsFrom B (Wa.putObj (B + 1) (.loop { rc .ready none with state := .busy })) W3 →
          (Instr.endRound (B + 1) jump).run P W3 = .ok (.bool jump.isNone) (W3.putObj (B + 1) (.loop (rc (if jump.isNone then .ready else .done) jump))) ∧
          W3.heap[B + 1]? = some (.loop { rc .ready none with state := .busy }) ∧
          (W3.putObj (B + 1) (.loop (rc (if jump.isNone then .ready else .done) jump))).heap[B + 1]? = some (.loop (rc (if jump.isNone then .ready else .done) jump)) ∧
          (W3.putObj (B + 1) (.loop (rc (if jump.isNone then .ready else .done) jump))).heap[B]? = some (.deferred (some [])) := fun jump W3 h3 => by
        have hl3 := h3.same _ _ (by omega) hl2 rfl
        have hr := run_endRound (P := P) jump hl3
        rw [hrc] at hr ⊢
        exact ⟨hr, by rw [hrc] at hl3; exact hl3, World.putObj_heap_same (Array.getElem?_eq_some_iff.1 hl3).1, (World.putObj_heap_other (by omega)).trans (h3.same _ _ (Nat.le_refl _) hd2 rfl)⟩
      rintro e a3 W3 hp
      cases e with
      | normal =>
        obtain ⟨hk3, hkp3, hi3⟩ := hp
        obtain ⟨hr, hl3, hl4, hd4⟩ := fin none W3 hk3
        exact ⟨_, _, hr, keep W3 _ hk3, .inl ⟨rfl, ⟨hI.putObj _ hi3 (by omega) hl3 rfl, hl4, hd4⟩, by rw [hVs]; exact hKt' hpa (hKt' (hKt' hp2 hkp3) (hKb _ _ _ _ (by omega) hl3 rfl rfl))⟩⟩
      | ret =>
        obtain ⟨hk3, hi3⟩ := hp
        obtain ⟨hr, hl3, hl4, hd4⟩ := fin (some .ret) W3 hk3
        exact ⟨_, _, hr, keep W3 _ hk3, .inr ⟨rfl, .ret, (hIx _).putObj _ hi3 (by omega) hl3 rfl, hl4, hd4⟩⟩
      | exit id =>
        obtain ⟨hk3, hi3⟩ := hp
        obtain ⟨hr, hl3, hl4, hd4⟩ := fin (some (.exit id)) W3 hk3
        exact ⟨_, _, hr, keep W3 _ hk3, .inr ⟨rfl, .exit id, (hIx _).putObj _ hi3 (by omega) hl3 rfl, hl4, hd4⟩⟩
      | goto t =>
        obtain ⟨hk3, hi3⟩ := hp
        obtain ⟨hr, hl3, hl4, hd4⟩ := fin (some (.goto t)) W3 hk3
        exact ⟨_, _, hr, keep W3 _ hk3, .inr ⟨rfl, .goto t, (hIx _).putObj _ hi3 (by omega) hl3 rfl, hl4, hd4⟩⟩
      | panic ch => exact hp.elim
      | outgrown => exact hp.elim
    · rintro e W2 ⟨⟨v, rfl⟩, (⟨xs, hS, hi, hl, hd⟩ | ⟨pre, hSp, c, hi, hl, hd⟩)⟩
      · exact ⟨none, _, by have h := run_endLoop (P := P) hl (by rw [hrc]; simp); rw [hrc] at h; exact h, hdone B xs _ (Nat.le_refl _) hS (hI.putObj _ hi (by omega) hl rfl) ((World.putObj_heap_other (by omega)).trans hd)⟩
      · exact ⟨some c, _, by have h := run_endLoop (P := P) hl (by rw [hrc]; simp); rw [hrc] at h; exact h, hstop B c pre _ (Nat.le_refl _) hSp ((hIx c).putObj _ hi (by omega) hl rfl) ((World.putObj_heap_other (by omega)).trans hd)⟩
end Go.Proofs.YtdmaaneilfjfcaaGreatDoor
namespace Go.Proofs.YtdmaaneilfjfcaaGreatDoor
open Go Go.RowKit Go.Maps
attribute [local go_sem] Oper.semAt_some
theorem changes_any (C : Nat) (w : World) :
    Calls Tryz.prog 144 #[.pointer (some ⟨C, 0, none⟩)] w fun e w' => e = .returned (.func (.func 175) #[] #[.pointer (some ⟨w.heap.size, 0, none⟩)]) ∧ w' = w.alloc (.cells #[.pointer (some ⟨C, 0, none⟩)] 201) := by
  go_enter Tryz.func144, Tryz.ntmps144
  go_wp2
  go_ret
  exact ⟨rfl, rfl⟩
/-- Those of some items that are there in the second graph and mean something else. -/
def chEl {ss : List Sc} (tt : List Sc) (st : Int × Int → Option (Int × Int)) (pre : List (El ss)) : List (El ss) := pre.filter fun x => chgB1 ss tt st x.1
theorem chEl_snoc {ss tt : List Sc} {st : Int × Int → Option (Int × Int)} (pre : List (El ss)) (x : El ss) : chEl tt st (pre ++ [x]) = chEl tt st pre ++ if chgB1 ss tt st x.1 = true then [x] else [] := by
  unfold chEl
  rw [List.filter_append]
  congr 1
  by_cases h : chgB1 ss tt st x.1 = true
  · rw [if_pos h]; simp [h]
  · rw [if_neg h]; simp [h]
theorem chEl_all {ss tt : List Sc} {st : Int × Int → Option (Int × Int)} {ys : List (El ss)} (h : ys.map Subtype.val = placed 0 ss) : (chEl tt st ys).map (fun x => plOf x.1) = chgG ss tt st := by
  have key : ∀ L : List (Nat × Nat × It), ys.map Subtype.val = L → (ys.filter fun x => chgB1 ss tt st x.1).map (fun x => plOf x.1) = (L.filter (chgB1 ss tt st)).map plOf := by
    intro L hL
    rw [← hL, List.filter_map, List.map_map]
    rfl
  exact key _ h
theorem ownOver {β : Type} {B : Nat} {I : β → World → Prop} (h : OwnFrom B I) {s : β} {A C : World} (hs : I s A) (hb : Below A.heap.size A C) : I s C :=
  h s A C none hs ⟨hb.os, hb.tape, hb.output, hb.size, fun k hk _ => hb.block k hk⟩ (fun r e => by cases e)
/-- What stands in the second graph is an item there. -/
def StandsIn (ss tt : List Sc) (st : Int × Int → Option (Int × Int)) : Prop := ∀ q ∈ placed 0 ss, ∀ p, st (plOf q) = some p → ∃ (i j : Nat) (x : It), p = ((i : Int), (j : Int)) ∧ (i, j, x) ∈ placed 0 tt
theorem cell5 {w1 W : World} {p0 p1 p2 p3 : Addr} {v0 v1 v2 v3 : Value} (c0 : w1.cell? p0 = some v0) (c1 : w1.cell? p1 = some v1) (c2 : w1.cell? p2 = some v2) (c3 : w1.cell? p3 = some v3) (hb : Below w1.heap.size w1 W) :
    W.cell? p0 = some v0 ∧ W.cell? p1 = some v1 ∧ W.cell? p2 = some v2 ∧ W.cell? p3 = some v3 := ⟨cell_grow hb c0, cell_grow hb c1, cell_grow hb c2, cell_grow hb c3⟩
theorem ownUp2 {β : Type} {B B' : Nat} {I : β → World → Prop} (h : OwnFrom B I) (hB : B ≤ B') : OwnFrom B' I := fun s A C row hs hg hr => h s A C row hs hg (fun r e => ⟨Nat.le_trans hB (hr r e).1, (hr r e).2⟩)
theorem keepsUp {B B' : Nat} {A C : World} (h : KeepsFrom B A C) (hB : B ≤ B') : KeepsFrom B' A C := ⟨h.size, fun k o hk ho hc => h.same k o (Nat.le_trans hB hk) ho hc⟩
theorem keepsJoin {B : Nat} {A C E : World} (h : KeepsFrom B A C) (k : KeepsFrom B C E) : KeepsFrom B A E := ⟨Nat.le_trans h.size k.size, fun i o hi ho hc => k.same i o hi (h.same i o hi ho hc) hc⟩
/-- What a round keeps: all that lay below n; from m on whatever holds no places. -/
def PlKeep (n m : Nat) (A C : World) : Prop := Below n A C ∧ ∀ (g : Nat) (t : TypeId) (vs : List Value), m ≤ g → t ≠ 32 → Row A g t vs → Row C g t vs
set_option maxRecDepth 100000 in
set_option maxHeartbeats 16000000 in
theorem changes_seq {ss tt : List Sc} (hv : Valid ss) (hv2 : Valid tt) {st : Int × Int → Option (Int × Int)} (hin : StandsIn ss tt st) {w0 : World} {Bn C R1 R2 : Nat} {u : Value} (hC : CompIs w0 C R1 R2 u ss tt st) (hBn : w0.cell? ⟨Bn, 0, none⟩ = some (.pointer (some ⟨C, 0, none⟩))) :
    SeqOwn 6 Tryz.prog 175 #[.pointer (some ⟨Bn, 0, none⟩)] (fun x : El ss => #[.agg #[.int .i64 (x.1.1 : Int), .int .i64 (x.1.2.1 : Int)]]) (PlKeep w0.heap.size) (fun xs => xs.map (fun x => plOf x.1) = chgG ss tt st) (fun _ => True) 1000000 w0 := by
  intro l J Jx W hl hW hJ hJx hY h0
  have HJ := Lib.hid hJ
  have HJX := Lib.hid hJx
  have HY := Lib.hid hY
  have HCW := Lib.hid (hC.below hW)
  have HC := Lib.hid hC
  have HW := Lib.hid hW
  have HV := Lib.hid (And.intro hv (And.intro hv2 hin))
  have HBN := Lib.hid hBn
  have HLT := Lib.hid (World.block_lt_of_cell? _ _ hBn)
  have hbY := (Below.refl W.heap.size W).alloc (Nat.le_refl _) (.cells #[.func (.yield l) #[] #[]] 242)
  have RY := Lib.hid (Row.new W [.func (.yield l) #[] #[]] 242)
  have HBY := Lib.hid hbY
  have bn := cell_grow (hW.trans (hbY.mono hW.size)) hBn
  obtain ⟨f, lb, rfl, hen, hst⟩ := hC.stands
  have HST := Lib.hid hst
  have cc0 := ((HCW.out.below hbY).row).cell (i := 0) (v := .pointer (some ⟨R1, 0, none⟩)) (by rfl)
  obtain ⟨Br, T, M1, M2, MR, v, ds, le, hR⟩ := hC.res1
  have HR := Lib.hid hR
  have rr0 := (hR.below (hW.trans (hbY.mono hW.size))).box.cell (i := 0) (v := .pointer (some ⟨T, 0, none⟩)) (by rfl)
  have H0 := Lib.hid h0
  clear hv hv2 hin hC hBn hJ hJx hY hbY hst hR h0
  refine callsIn_of_wp_marks Tryz.func175 rfl trivial ?_ rfl
  simp only [Tryz.ntmps175, List.size_toArray, List.length_cons, List.length_nil, Nat.reduceAdd, Nat.reduceSub, Array.replicate_succ, Array.replicate_zero, List.push_toArray, List.append_toArray, List.nil_append, List.cons_append]
  gi_wp2_with fail
  refine ⟨trivial, ?_⟩
  gi_at_call 64
  refine ((callsIn_wide (n := 5)).2 (all_any _ _)).mono ?_
  rintro e w2 ⟨rfl, rfl⟩
  gi_wp2
  have hb2 : Below W.heap.size W ((W.alloc (.cells #[.func (.yield l) #[] #[]] 242)).alloc (.cells #[.pointer (some ⟨T, 0, none⟩)] 89)) := ((Below.refl _ _).alloc (Nat.le_refl _) _).alloc (by simp) _
  have bN := Boxed.new (W.alloc (.cells #[.func (.yield l) #[] #[]] 242)) 89 (.pointer (some ⟨T, 0, none⟩))
  rw [World.size_alloc] at bN
  have RY2 := RY.out.alloc (.cells #[.pointer (some ⟨T, 0, none⟩)] 89)
  have HB2 := Lib.hid (HW.out.trans (hb2.mono HW.out.size))
  have hsm := HV.out.1.small
  have hJ2 := ownOver HJ.out H0.out hb2
  obtain ⟨W2, hW2⟩ : ∃ W2, W2 = (W.alloc (.cells #[.func (.yield l) #[] #[]] 242)).alloc (.cells #[.pointer (some ⟨T, 0, none⟩)] 89) := ⟨_, rfl⟩
  have hsW2 : W2.heap.size = W.heap.size + 2 := by rw [hW2]; simp
  have hszW := HW.out.size
  rw [← hW2] at hb2 bN RY2 HB2 hJ2 ⊢
  clear bn cc0 rr0 hW2
  refine wpIn_rangeFunc_ownH rfl (by omega) (gf := 111) (lb := #[.pointer (some ⟨W.heap.size + 1, 0, none⟩)]) rfl trivial (enters_of Tryz.func111 (by kernel_rfl) rfl)
    (all_stops 5 (by omega) (W.heap.size + 1) _ T M1 M2 v ds ss w0 _ HR.out.tree.tree HR.out.tree.hold (HR.out.tree.ne HV.out.1) hsm.len hsm.items (.of_below HB2.out) bN.cell) CellsKept.trans (fun X k o o' _ h1 h2 h3 => cellsKept_b (w := w0) X k o o' (by simp at *; omega) h1 h2 h3) (Below.refl _ _) (fun _ => rfl)
    (fun pre X => J (chEl tt st pre) X ∧ (Row X W.heap.size 242 [.func (.yield l) #[] #[]] ∧ Below w0.heap.size w0 X))
    (fun c pre X => c = .ret ∧ ∃ pr, Jx pr X)
    (OwnFrom.and (fun s A E row hs hg hr => HJ.out (chEl tt st s) A E row hs hg (fun r e => ⟨by have := (hr r e).1; omega, (hr r e).2⟩)) (OwnFrom.and (row_own _ _ _ fun _ => _) (ownFrom_below (Nat.le_refl _) (by omega))))
    (fun c s A E row hs hg hr => ⟨hs.1, by obtain ⟨pr, hp⟩ := hs.2; exact ⟨pr, HJX.out pr A E row hp hg (fun r e => ⟨by have := (hr r e).1; omega, (hr r e).2⟩)⟩⟩)
    ⟨hJ2, RY2, HB2.out⟩
    (fun x a' X => ∃ Bp, Row X Bp 32 [.int .i64 (x.1.1 : Int), .int .i64 (x.1.2.1 : Int)] ∧
      a' = { tmps := #[.func (.yield l) #[] #[], .pointer (some ⟨Bn, 0, none⟩), .pointer (some ⟨W.heap.size, 0, none⟩), .pointer (some ⟨Bp, 0, none⟩), undef, undef, .pointer (some ⟨C, 0, none⟩), .pointer (some ⟨C, 0, none⟩), .pointer (some ⟨C, 0, none⟩), .pointer (some ⟨R1, 0, none⟩), .pointer (some ⟨R1, 0, none⟩), .pointer (some ⟨R1, 0, none⟩), .pointer (some ⟨T, 0, none⟩), .func (.func 111) #[] #[.pointer (some ⟨W.heap.size + 1, 0, none⟩)], .agg #[.int .i64 (x.1.1 : Int), .int .i64 (x.1.2.1 : Int)], .agg #[.int .i64 x.1.2.2.kind, .string x.1.2.2.name, .int .i64 x.1.2.2.scope], undef, undef, undef, undef, undef, undef, undef, undef, undef, undef, undef, undef, undef, undef, undef, undef, undef, undef, undef, undef, undef, undef, undef], defers := [] })
    (fun x a' _ X Y row hs hg hr => by obtain ⟨Bp, h1, h3⟩ := hs; exact ⟨Bp, h1.kept_cells hg (fun r e => (hr r e).2), h3⟩)
    ?assign ?body ?done ?stop
  case assign =>
    rintro l' pre x X K hi hK
    dsimp only [elArgs]
    gi_wp2
    have ha : Below X.heap.size X (X.alloc (.cells #[.int .i64 (x.1.1 : Int), .int .i64 (x.1.2.1 : Int)] 32)) := (Below.refl _ _).alloc (Nat.le_refl _) _
    obtain ⟨hj, hr, hbw⟩ := hi
    refine hK _ _ ((KeepsOthers.alloc _ _).from _) (.of_below (ha.mono hbw.size)) ⟨ownOver HJ.out hj ha, hr.alloc _, hbw.trans (ha.mono hbw.size)⟩ ⟨X.heap.size, Row.new X [.int .i64 (x.1.1 : Int), .int .i64 (x.1.2.1 : Int)] 32, rfl⟩
  case body =>
    rintro l' pre x a' Wx hl' _ hi ⟨Bp, hp, rfl⟩ hlen
    obtain ⟨⟨i, j, it⟩, hmem⟩ := x
    dsimp only at hp ⊢
    have HI := Lib.hid hi
    have HP := Lib.hid hp
    have hlt := HV.out.1.small.lt hmem
    dsimp only at hlt
    have cB := hi.2.2.cell (p := ⟨Bn, 0, none⟩) HLT.out |>.trans HBN.out
    have cF := (HC.out.row.below hi.2.2 HC.out.row.lt).cell (i := 2) (v := .func (.func f) #[] lb) (by rfl)
    have p0 := hp.cell (i := 0) (v := .int .i64 (i : Int)) (by rfl)
    have p1 := hp.cell (i := 1) (v := .int .i64 (j : Int)) (by rfl)
    have HIJ : Hid (i < 1000 ∧ j < 1000) := Lib.hid hlt
    have hbz := (Below.refl Wx.heap.size Wx).drew
    have hS0 := cell5 cB cF p0 p1 hbz
    have HS0 := Lib.hid hS0
    have HL := Lib.hid hlen
    clear hi hp hlt cB cF p0 p1 hbz hlen
    gi_wp2
    refine wpIn_region_kept (F := Fence.wide) (S := fun w' => w'.cell? ⟨Bn, 0, none⟩ = some (.pointer (some ⟨C, 0, none⟩)) ∧ w'.cell? ⟨C, 2, none⟩ = some (.func (.func f) #[] lb) ∧ w'.cell? ⟨Bp, 0, none⟩ = some (.int .i64 (i : Int)) ∧ w'.cell? ⟨Bp, 1, none⟩ = some (.int .i64 (j : Int))) 1000 l' (by kernel_rfl) (by kernel_rfl) ?_
    refine KeptAny.take (i := 0) (v := ?_) (by kernel_rfl) rfl rfl (by kernel_rfl) (by kernel_rfl) (by kernel_rfl) (fun _ _ _ h => h) (by rfl) (fun w' hw' => ?_) (fun _ => rfl) hS0 ?_
    rotate_left
    · (obtain ⟨g0, g1, g2, g3⟩ := hw'; go_simp; try with_reducible rfl)
    refine KeptAny.take (i := 1) (v := ?_) (by kernel_rfl) rfl rfl (by kernel_rfl) (by kernel_rfl) (by kernel_rfl) (fun _ _ _ h => h) (by rfl) (fun w' hw' => ?_) (fun _ => rfl) hS0 ?_
    rotate_left
    · (obtain ⟨g0, g1, g2, g3⟩ := hw'; go_simp; try with_reducible rfl)
    refine KeptAny.take (i := 2) (v := ?_) (by kernel_rfl) rfl rfl (by kernel_rfl) (by kernel_rfl) (by kernel_rfl) (fun _ _ _ h => h) (by rfl) (fun w' hw' => ?_) (fun _ => rfl) hS0 ?_
    rotate_left
    · (obtain ⟨g0, g1, g2, g3⟩ := hw'; go_simp; try with_reducible rfl)
    refine KeptAny.take (i := 3) (v := ?_) (by kernel_rfl) rfl rfl (by kernel_rfl) (by kernel_rfl) (by kernel_rfl) (fun _ _ _ h => h) (by rfl) (fun w' hw' => ?_) (fun _ => rfl) hS0 ?_
    rotate_left
    · (obtain ⟨g0, g1, g2, g3⟩ := hw'; go_simp; try with_reducible rfl)
    refine KeptAny.take (i := 4) (v := ?_) (by kernel_rfl) rfl rfl (by kernel_rfl) (by kernel_rfl) (by kernel_rfl) (fun _ _ _ h => h) (by rfl) (fun w' hw' => ?_) (fun _ => rfl) hS0 ?_
    rotate_left
    · (obtain ⟨g0, g1, g2, g3⟩ := hw'; go_simp; try with_reducible rfl)
    clear hS0
    refine KeptAny.two (i := 5) (j := 9) (by kernel_rfl) ⟨_, rfl, by rfl, fun K hK => ?_⟩ ⟨_, rfl, by rfl, fun K hK => ?_⟩
    · go_simp
      refine ⟨trivial, ?_⟩
      refine ((callsIn_wide (n := 3)).2 (HST.out i j _ HIJ.out.1 HIJ.out.2 (HI.out.2.2.trans (((Below.refl Wx.heap.size Wx).drew).mono HI.out.2.2.size)))).mono ?_
      rintro e w4 ⟨xx, yy, ok, rfl, hto, hb4⟩
      have HTO := Lib.hid hto
      have hS4 := And.intro (cell_grow hb4 HS0.out.1) (And.intro (cell_grow hb4 HS0.out.2.1) (And.intro (cell_grow hb4 HS0.out.2.2.1) (cell_grow hb4 HS0.out.2.2.2)))
      have hb4' : Below Wx.heap.size Wx w4 := ((Below.refl Wx.heap.size Wx).drew).trans hb4
      have hb5 := (Below.refl w4.heap.size w4).alloc (Nat.le_refl _) (.cells #[.int .i64 0, .int .i64 0] 32)
      have hb6 := (Below.refl w4.heap.size w4).alloc (Nat.le_refl _) (.cells #[.int .i64 xx, .int .i64 yy] 32)
      have hS5 := cell5 hS4.1 hS4.2.1 hS4.2.2.1 hS4.2.2.2 hb5
      have hS6 := cell5 hS4.1 hS4.2.1 hS4.2.2.1 hS4.2.2.2 hb6
      have ZB := Lib.hid (hb4'.trans (hb6.mono hb4'.size))
      have RG := Lib.hid (Row.new w4 [.int .i64 xx, .int .i64 yy] 32)
      refine hK.out _ _ hS4 (fun _ => ?_)
      clear hK hto hb4 hb4' hb5 hb6
      refine KeptAny.take (i := 6) (v := ?_) (by kernel_rfl) rfl rfl (by kernel_rfl) (by kernel_rfl) (by kernel_rfl) (fun _ _ _ h => h) (by rfl) (fun w' hw' => ?_) (fun _ => rfl) hS4 ?_
      rotate_left
      · (obtain ⟨g0, g1, g2, g3⟩ := hw'; go_simp; try with_reducible rfl)
      refine KeptAny.take (i := 7) (v := ?_) (by kernel_rfl) rfl rfl (by kernel_rfl) (by kernel_rfl) (by kernel_rfl) (fun _ _ _ h => h) (by rfl) (fun w' hw' => ?_) (fun _ => rfl) hS4 ?_
      rotate_left
      · (obtain ⟨g0, g1, g2, g3⟩ := hw'; go_simp; try with_reducible rfl)
      refine KeptAny.take (i := 8) (v := ?_) (by kernel_rfl) rfl rfl (by kernel_rfl) (by kernel_rfl) (by kernel_rfl) (fun _ _ _ h => h) (by rfl) (fun w' hw' => ?_) (fun _ => rfl) hS4 ?_
      rotate_left
      · (obtain ⟨g0, g1, g2, g3⟩ := hw'; go_simp; try with_reducible rfl)
      refine KeptAny.one (i := 9) (by kernel_rfl) rfl (by rfl) (fun K hK => ?_)
      go_simp
      refine hK.out _ _ hS5 (fun _ => ?_)
      clear hK
      refine KeptAny.one (i := 10) (by kernel_rfl) rfl (by rfl) (fun K hK => ?_)
      go_simp
      refine hK.out _ _ hS6 (fun _ => ?_)
      clear hK
      refine KeptAny.one (i := 11) (by kernel_rfl) rfl (by rfl) (fun K hK => ?_)
      go_simp
      refine hK.out _ _ hS6 (fun _ => ?_)
      clear hK hS4 hS5 hS6
      refine KeptAny.done (by kernel_rfl) ?_ _
      generalize w4.alloc (.cells #[.int .i64 xx, .int .i64 yy] 32) = wz at *
      have p0 := (HP.out.below ZB.out HP.out.lt).cell (i := 0) (v := .int .i64 (i : Int)) (by rfl)
      have p1 := (HP.out.below ZB.out HP.out.lt).cell (i := 1) (v := .int .i64 (j : Int)) (by rfl)
      have r0 := RG.out.cell (i := 0) (v := .int .i64 xx) (by rfl)
      have r1 := RG.out.cell (i := 1) (v := .int .i64 yy) (by rfl)
      have cB := (HI.out.2.2.trans (ZB.out.mono HI.out.2.2.size)).cell (p := ⟨Bn, 0, none⟩) HLT.out |>.trans HBN.out
      have ZI := Lib.hid (And.intro (ownOver HJ.out HI.out.1 ZB.out) (And.intro (HI.out.2.1.below ZB.out HI.out.2.1.lt) (HI.out.2.2.trans (ZB.out.mono HI.out.2.2.size))))
      have y0 := ZI.out.2.1.cell (i := 0) (v := .func (.yield l) #[] #[]) (by rfl)
      have HSZ : Hid (w0.heap.size ≤ Wx.heap.size) := Lib.hid HI.out.2.2.size
      cases ok
      · have HF : Hid (chEl tt st (pre ++ [(⟨(i, j, it), hmem⟩ : El ss)]) = chEl tt st pre) := Lib.hid (by
          rw [chEl_snoc, if_neg, List.append_nil]
          have h1 : st (plOf (i, j, it)) = none := by
            rcases HTO.out with ⟨h, _⟩ | ⟨_, h⟩
            · cases h
            · exact h
          unfold chgB1
          dsimp only
          rw [h1]
          simp)
        gi_wp2_with fail
        refine ⟨trivial, ?_⟩
        gi_wp2_with fail
        refine ⟨fun _ h => (by cases h), ?_⟩
        gi_wp2
        exact ⟨(keepsOthers_of_below ZB.out).from _, .of_below (ZB.out.mono HSZ.out), by rw [HF.out]; exact ZI.out.1, ZI.out.2⟩
      · have hss : st (plOf (i, j, it)) = some (xx, yy) := by
          rcases HTO.out with ⟨_, h⟩ | ⟨h, _⟩
          · exact h
          · cases h
        obtain ⟨i2, j2, x2, he, hq2⟩ := HV.out.2.2 (i, j, it) hmem (xx, yy) hss
        simp only [Prod.mk.injEq] at he
        obtain ⟨rfl, rfl⟩ := he
        have CS := Lib.hid (CallsIn.inRound l' ((callsIn_wide (n := 3)).2 (same_any HV.out.1 HV.out.2.1 (HC.out.below ZI.out.2.2) hmem hq2)))
        have HQ : Hid (chgB1 ss tt st (i, j, it) = !sameG tt st (meanIt ss (i, j, it)) ((i2 : Int), (j2 : Int))) := Lib.hid (by unfold chgB1; rw [hss])
        generalize sameG tt st (meanIt ss (i, j, it)) ((i2 : Int), (j2 : Int)) = sg at CS HQ
        clear hq2 hss
        gi_wp2_with fail
        refine ⟨trivial, ?_⟩
        gi_at_call 176
        refine CS.out.mono ?_
        rintro e w5 ⟨rfl, hb5⟩
        have ZB5 := Lib.hid (ZB.out.trans (hb5.mono ZB.out.size))
        have ZI5 := Lib.hid (And.intro (ownOver HJ.out ZI.out.1 hb5) (And.intro (ZI.out.2.1.below hb5 ZI.out.2.1.lt) (ZI.out.2.2.trans (hb5.mono ZI.out.2.2.size))))
        have y0 := ZI5.out.2.1.cell (i := 0) (v := .func (.yield l) #[] #[]) (by rfl)
        have p0 := (HP.out.below ZB5.out HP.out.lt).cell (i := 0) (v := .int .i64 (i : Int)) (by rfl)
        have p1 := (HP.out.below ZB5.out HP.out.lt).cell (i := 1) (v := .int .i64 (j : Int)) (by rfl)
        clear hb5 r0 r1 cB
        cases sg
        · have HF : Hid (chEl tt st (pre ++ [(⟨(i, j, it), hmem⟩ : El ss)]) = chEl tt st pre ++ [⟨(i, j, it), hmem⟩]) := Lib.hid (by
            rw [chEl_snoc, if_pos]
            rw [HQ.out]; rfl)
          have hlen2 : (chEl tt st pre).length < 1000000 := by
            have h1 : (chEl tt st pre).length ≤ pre.length := List.length_filter_le _ _
            have h2 := placed_bound 0 ss 6 5 HV.out.1.count.2 HV.out.1.five
            have h3 := HL.out
            omega
          obtain ⟨fn, tmps, assign, body, hyy, hR⟩ := HY.out 3 (chEl tt st pre) ⟨(i, j, it), hmem⟩ w5 ZI5.out.1 hlen2
          dsimp only at hyy
          have HUP := Lib.hid (show W.heap.size ≤ W2.heap.size by omega)
          gi_wp2
          refine hR.mono ?_
          rintro e w6 ⟨hkf, ⟨rfl, hj6, hb6, hr6⟩ | ⟨rfl, hx6⟩⟩
          · have HK6 := Lib.hid (keepsJoin ((keepsOthers_of_below ZB5.out).from W2.heap.size) (keepsUp hkf HUP.out))
            have HB6 := Lib.hid (Below.trans (ZB5.out.mono HSZ.out) hb6)
            have HJ6 : Hid (J (chEl tt st (pre ++ [(⟨(i, j, it), hmem⟩ : El ss)])) w6 ∧ (Row w6 W.heap.size 242 [.func (.yield l) #[] #[]] ∧ Below w0.heap.size w0 w6)) := Lib.hid ⟨by rw [HF.out]; exact hj6, hr6 _ _ _ (Nat.le_refl _) (by decide) ZI5.out.2.1, ZI5.out.2.2.trans hb6⟩
            clear hkf hj6 hb6 hr6
            gi_wp2
            exact ⟨HK6.out, .of_below HB6.out, HJ6.out⟩
          · have HK6 := Lib.hid (keepsJoin ((keepsOthers_of_below ZB5.out).from W2.heap.size) (keepsUp hkf HUP.out))
            have HX6 := Lib.hid hx6
            clear hkf hx6
            gi_wp2
            exact ⟨HK6.out, rfl, _, HX6.out⟩
        · have HF : Hid (chEl tt st (pre ++ [(⟨(i, j, it), hmem⟩ : El ss)]) = chEl tt st pre) := Lib.hid (by
            rw [chEl_snoc, if_neg, List.append_nil]
            rw [HQ.out]; simp)
          gi_wp2_with fail
          refine ⟨fun _ h => (by cases h), ?_⟩
          gi_wp2
          exact ⟨(keepsOthers_of_below ZB5.out).from _, .of_below (ZB5.out.mono HSZ.out), by rw [HF.out]; exact ZI5.out.1, ZI5.out.2⟩
    · go_simp
      have hbz : Below Wx.heap.size Wx (Wx.drew.alloc (.cells #[.int .i64 0, .int .i64 0] 32)) := ((Below.refl Wx.heap.size Wx).drew).alloc (Nat.le_refl Wx.heap.size) _
      have hbz0 : Below Wx.drew.heap.size Wx.drew (Wx.drew.alloc (.cells #[.int .i64 0, .int .i64 0] 32)) := (Below.refl _ _).alloc (Nat.le_refl _) _
      have hSz := And.intro (cell_grow hbz0 HS0.out.1) (And.intro (cell_grow hbz0 HS0.out.2.1) (And.intro (cell_grow hbz0 HS0.out.2.2.1) (cell_grow hbz0 HS0.out.2.2.2)))
      have RZ : Row (Wx.drew.alloc (.cells #[.int .i64 0, .int .i64 0] 32)) Wx.heap.size 32 [.int .i64 0, .int .i64 0] := Row.new Wx.drew [.int .i64 0, .int .i64 0] 32
      refine hK.out _ _ hSz (fun _ => ?_)
      clear hK
      refine KeptAny.one (i := 5) (by kernel_rfl) rfl (by rfl) (fun K hK => ?_)
      go_simp
      refine ⟨trivial, ?_⟩
      refine ((callsIn_wide (n := 3)).2 (HST.out i j _ HIJ.out.1 HIJ.out.2 (HI.out.2.2.trans (hbz.mono HI.out.2.2.size)))).mono ?_
      rintro e w4 ⟨xx, yy, ok, rfl, hto, hb4⟩
      have HTO := Lib.hid hto
      have hS4 := And.intro (cell_grow hb4 hSz.1) (And.intro (cell_grow hb4 hSz.2.1) (And.intro (cell_grow hb4 hSz.2.2.1) (cell_grow hb4 hSz.2.2.2)))
      have RZ4 := RZ.below hb4 RZ.lt
      have hb4' : Below Wx.heap.size Wx w4 := hbz.trans (hb4.mono hbz.size)
      have z0 := RZ4.cell (i := 0) (v := .int .i64 0) (by rfl)
      have z1 := RZ4.cell (i := 1) (v := .int .i64 0) (by rfl)
      have zf0 := RZ4.frozen 0
      have zf1 := RZ4.frozen 1
      have l0 : Bn ≠ Wx.heap.size := Nat.ne_of_lt (World.block_lt_of_cell? _ _ HS0.out.1)
      have l1 : C ≠ Wx.heap.size := Nat.ne_of_lt (World.block_lt_of_cell? _ _ HS0.out.2.1)
      have l2 : Bp ≠ Wx.heap.size := Nat.ne_of_lt (World.block_lt_of_cell? _ _ HS0.out.2.2.1)
      have far2 : ∀ (m k : Nat), m ≠ Wx.heap.size → ((w4.setCell ⟨Wx.heap.size, 0, none⟩ (.int .i64 xx)).setCell ⟨Wx.heap.size, 1, none⟩ (.int .i64 yy)).cell? ⟨m, k, none⟩ = w4.cell? ⟨m, k, none⟩ := fun m k h => by
        simp only [World.cell?]
        rw [Below.heap_setCell _ _ _ _ h, Below.heap_setCell _ _ _ _ h]
      have hS6 := And.intro ((far2 Bn 0 l0).trans hS4.1) (And.intro ((far2 C 2 l1).trans hS4.2.1) (And.intro ((far2 Bp 0 l2).trans hS4.2.2.1) ((far2 Bp 1 l2).trans hS4.2.2.2)))
      have ZB := Lib.hid ((hb4'.setCell (p := ⟨Wx.heap.size, 0, none⟩) (Nat.le_refl _) (.int .i64 xx)).setCell (p := ⟨Wx.heap.size, 1, none⟩) (Nat.le_refl _) (.int .i64 yy))
      have RG := Lib.hid ((RZ4.set 0 (.int .i64 xx)).set 1 (.int .i64 yy))
      refine hK.out _ _ hS4 (fun _ => ?_)
      clear hK hto hb4 hb4' hbz hbz0 RZ hSz l0 l1 l2 far2
      refine KeptAny.take (i := 6) (v := ?_) (by kernel_rfl) rfl rfl (by kernel_rfl) (by kernel_rfl) (by kernel_rfl) (fun _ _ _ h => h) (by rfl) (fun w' hw' => ?_) (fun _ => rfl) hS4 ?_
      rotate_left
      · (obtain ⟨g0, g1, g2, g3⟩ := hw'; go_simp; try with_reducible rfl)
      refine KeptAny.take (i := 7) (v := ?_) (by kernel_rfl) rfl rfl (by kernel_rfl) (by kernel_rfl) (by kernel_rfl) (fun _ _ _ h => h) (by rfl) (fun w' hw' => ?_) (fun _ => rfl) hS4 ?_
      rotate_left
      · (obtain ⟨g0, g1, g2, g3⟩ := hw'; go_simp; try with_reducible rfl)
      refine KeptAny.take (i := 8) (v := ?_) (by kernel_rfl) rfl rfl (by kernel_rfl) (by kernel_rfl) (by kernel_rfl) (fun _ _ _ h => h) (by rfl) (fun w' hw' => ?_) (fun _ => rfl) hS4 ?_
      rotate_left
      · (obtain ⟨g0, g1, g2, g3⟩ := hw'; go_simp; try with_reducible rfl)
      refine KeptAny.one (i := 10) (by kernel_rfl) rfl (by rfl) (fun K hK => ?_)
      go_simp
      refine hK.out _ _ hS6 (fun _ => ?_)
      clear hK
      refine KeptAny.one (i := 11) (by kernel_rfl) rfl (by rfl) (fun K hK => ?_)
      go_simp
      refine hK.out _ _ hS6 (fun _ => ?_)
      clear hK hS4 hS6 z0 z1 zf0 zf1 RZ4
      refine KeptAny.done (by kernel_rfl) ?_ _
      generalize (w4.setCell ⟨Wx.heap.size, 0, none⟩ (.int .i64 xx)).setCell ⟨Wx.heap.size, 1, none⟩ (.int .i64 yy) = wz at *
      have p0 := (HP.out.below ZB.out HP.out.lt).cell (i := 0) (v := .int .i64 (i : Int)) (by rfl)
      have p1 := (HP.out.below ZB.out HP.out.lt).cell (i := 1) (v := .int .i64 (j : Int)) (by rfl)
      have r0 := RG.out.cell (i := 0) (v := .int .i64 xx) (by rfl)
      have r1 := RG.out.cell (i := 1) (v := .int .i64 yy) (by rfl)
      have cB := (HI.out.2.2.trans (ZB.out.mono HI.out.2.2.size)).cell (p := ⟨Bn, 0, none⟩) HLT.out |>.trans HBN.out
      have ZI := Lib.hid (And.intro (ownOver HJ.out HI.out.1 ZB.out) (And.intro (HI.out.2.1.below ZB.out HI.out.2.1.lt) (HI.out.2.2.trans (ZB.out.mono HI.out.2.2.size))))
      have y0 := ZI.out.2.1.cell (i := 0) (v := .func (.yield l) #[] #[]) (by rfl)
      have HSZ : Hid (w0.heap.size ≤ Wx.heap.size) := Lib.hid HI.out.2.2.size
      cases ok
      · have HF : Hid (chEl tt st (pre ++ [(⟨(i, j, it), hmem⟩ : El ss)]) = chEl tt st pre) := Lib.hid (by
          rw [chEl_snoc, if_neg, List.append_nil]
          have h1 : st (plOf (i, j, it)) = none := by
            rcases HTO.out with ⟨h, _⟩ | ⟨_, h⟩
            · cases h
            · exact h
          unfold chgB1
          dsimp only
          rw [h1]
          simp)
        gi_wp2_with fail
        refine ⟨trivial, ?_⟩
        gi_wp2_with fail
        refine ⟨fun _ h => (by cases h), ?_⟩
        gi_wp2
        exact ⟨(keepsOthers_of_below ZB.out).from _, .of_below (ZB.out.mono HSZ.out), by rw [HF.out]; exact ZI.out.1, ZI.out.2⟩
      · have hss : st (plOf (i, j, it)) = some (xx, yy) := by
          rcases HTO.out with ⟨_, h⟩ | ⟨h, _⟩
          · exact h
          · cases h
        obtain ⟨i2, j2, x2, he, hq2⟩ := HV.out.2.2 (i, j, it) hmem (xx, yy) hss
        simp only [Prod.mk.injEq] at he
        obtain ⟨rfl, rfl⟩ := he
        have CS := Lib.hid (CallsIn.inRound l' ((callsIn_wide (n := 3)).2 (same_any HV.out.1 HV.out.2.1 (HC.out.below ZI.out.2.2) hmem hq2)))
        have HQ : Hid (chgB1 ss tt st (i, j, it) = !sameG tt st (meanIt ss (i, j, it)) ((i2 : Int), (j2 : Int))) := Lib.hid (by unfold chgB1; rw [hss])
        generalize sameG tt st (meanIt ss (i, j, it)) ((i2 : Int), (j2 : Int)) = sg at CS HQ
        clear hq2 hss
        gi_wp2_with fail
        refine ⟨trivial, ?_⟩
        gi_at_call 176
        refine CS.out.mono ?_
        rintro e w5 ⟨rfl, hb5⟩
        have ZB5 := Lib.hid (ZB.out.trans (hb5.mono ZB.out.size))
        have ZI5 := Lib.hid (And.intro (ownOver HJ.out ZI.out.1 hb5) (And.intro (ZI.out.2.1.below hb5 ZI.out.2.1.lt) (ZI.out.2.2.trans (hb5.mono ZI.out.2.2.size))))
        have y0 := ZI5.out.2.1.cell (i := 0) (v := .func (.yield l) #[] #[]) (by rfl)
        have p0 := (HP.out.below ZB5.out HP.out.lt).cell (i := 0) (v := .int .i64 (i : Int)) (by rfl)
        have p1 := (HP.out.below ZB5.out HP.out.lt).cell (i := 1) (v := .int .i64 (j : Int)) (by rfl)
        clear hb5 r0 r1 cB
        cases sg
        · have HF : Hid (chEl tt st (pre ++ [(⟨(i, j, it), hmem⟩ : El ss)]) = chEl tt st pre ++ [⟨(i, j, it), hmem⟩]) := Lib.hid (by
            rw [chEl_snoc, if_pos]
            rw [HQ.out]; rfl)
          have hlen2 : (chEl tt st pre).length < 1000000 := by
            have h1 : (chEl tt st pre).length ≤ pre.length := List.length_filter_le _ _
            have h2 := placed_bound 0 ss 6 5 HV.out.1.count.2 HV.out.1.five
            have h3 := HL.out
            omega
          obtain ⟨fn, tmps, assign, body, hyy, hR⟩ := HY.out 3 (chEl tt st pre) ⟨(i, j, it), hmem⟩ w5 ZI5.out.1 hlen2
          dsimp only at hyy
          have HUP := Lib.hid (show W.heap.size ≤ W2.heap.size by omega)
          gi_wp2
          refine hR.mono ?_
          rintro e w6 ⟨hkf, ⟨rfl, hj6, hb6, hr6⟩ | ⟨rfl, hx6⟩⟩
          · have HK6 := Lib.hid (keepsJoin ((keepsOthers_of_below ZB5.out).from W2.heap.size) (keepsUp hkf HUP.out))
            have HB6 := Lib.hid (Below.trans (ZB5.out.mono HSZ.out) hb6)
            have HJ6 : Hid (J (chEl tt st (pre ++ [(⟨(i, j, it), hmem⟩ : El ss)])) w6 ∧ (Row w6 W.heap.size 242 [.func (.yield l) #[] #[]] ∧ Below w0.heap.size w0 w6)) := Lib.hid ⟨by rw [HF.out]; exact hj6, hr6 _ _ _ (Nat.le_refl _) (by decide) ZI5.out.2.1, ZI5.out.2.2.trans hb6⟩
            clear hkf hj6 hb6 hr6
            gi_wp2
            exact ⟨HK6.out, .of_below HB6.out, HJ6.out⟩
          · have HK6 := Lib.hid (keepsJoin ((keepsOthers_of_below ZB5.out).from W2.heap.size) (keepsUp hkf HUP.out))
            have HX6 := Lib.hid hx6
            clear hkf hx6
            gi_wp2
            exact ⟨HK6.out, rfl, _, HX6.out⟩
        · have HF : Hid (chEl tt st (pre ++ [(⟨(i, j, it), hmem⟩ : El ss)]) = chEl tt st pre) := Lib.hid (by
            rw [chEl_snoc, if_neg, List.append_nil]
            rw [HQ.out]; simp)
          gi_wp2_with fail
          refine ⟨fun _ h => (by cases h), ?_⟩
          gi_wp2
          exact ⟨(keepsOthers_of_below ZB5.out).from _, .of_below (ZB5.out.mono HSZ.out), by rw [HF.out]; exact ZI5.out.1, ZI5.out.2⟩
  case done =>
    rintro D xs X hD hS ⟨hj, hr, hbw⟩ hK
    have HS := Lib.hid (chEl_all (tt := tt) (st := st) hS)
    have hj2 := (HJ.out).putObj (s := chEl tt st xs) (.deferred none) hj (by omega) hK rfl
    clear hS
    gi_wp2
    refine ⟨by simp, .inl ⟨_, _, rfl, run_takeDeferred hK, ?_⟩⟩
    exact ⟨_, results_none rfl _ _ _, ⟨_, rfl⟩, .inl ⟨_, HS.out, hj2⟩⟩
  case stop =>
    rintro D c pre X hD _ ⟨rfl, pr, hx⟩ hK
    have hx2 := (HJX.out).putObj (s := pr) (.deferred none) hx (by omega) hK rfl
    gi_wp2
    refine ⟨by simp, .inl ⟨_, _, rfl, run_takeDeferred hK, ?_⟩⟩
    exact ⟨_, results_none rfl _ _ _, ⟨_, rfl⟩, .inr ⟨_, trivial, hx2⟩⟩
end Go.Proofs.YtdmaaneilfjfcaaGreatDoor
namespace Go.Proofs.YtdmaaneilfjfcaaGreatDoor
open Go Go.RowKit Go.Maps
attribute [local go_sem] Oper.semAt_some
def elPls {ss : List Sc} (pre : List (El ss)) : List (Int × Int) := pre.map fun x => plOf x.1
theorem elPls_snoc {ss : List Sc} (pre : List (El ss)) (x : El ss) : elPls (pre ++ [x]) = elPls pre ++ [plOf x.1] := by unfold elPls; rw [List.map_append]; rfl
set_option maxRecDepth 100000 in
set_option maxHeartbeats 8000000 in
theorem appendSeq_any {ss tt : List Sc} (hv : Valid ss) (hv2 : Valid tt) {st : Int × Int → Option (Int × Int)} (hin : StandsIn ss tt st) {w : World} {Bn C R1 R2 : Nat} {u : Value} (hC : CompIs w C R1 R2 u ss tt st) (hBn : w.cell? ⟨Bn, 0, none⟩ = some (.pointer (some ⟨C, 0, none⟩))) :
    Calls Tryz.prog 174 #[.slice none 0 0, .func (.func 175) #[] #[.pointer (some ⟨Bn, 0, none⟩)]] w fun e w' => ∃ v, e = .returned v ∧ w'.ownsRow w.heap.size 32 2 v (chgG ss tt st).length (placeCells (chgG ss tt st)) ∧ Below w.heap.size w w' := by
  have SQ := Lib.hid (changes_seq hv hv2 hin hC hBn)
  have HLEN : Hid ((chgG ss tt st).length ≤ 1000) := Lib.hid (by
    have h1 := chgG_length ss tt st
    have h2 := placed_bound 0 ss 6 5 hv.count.2 hv.five
    omega)
  clear hC hBn hin hv hv2
  refine (callsIn_wide (n := 7)).1 ?_
  refine callsIn_of_wp_marks Tryz.func174 rfl trivial ?_ rfl
  simp only [Tryz.ntmps174, List.size_toArray, List.length_cons, List.length_nil, Nat.reduceAdd, Nat.reduceSub, Array.replicate_succ, Array.replicate_zero, List.push_toArray, List.append_toArray, List.nil_append, List.cons_append]
  gi_wp2
  have hbA := (Below.refl w.heap.size w).alloc (Nat.le_refl _) (.cells #[.slice none 0 0] 28)
  have bL := Boxed.new w 28 (.slice none 0 0)
  obtain ⟨W1, hW1⟩ : ∃ W1, W1 = w.alloc (.cells #[.slice none 0 0] 28) := ⟨_, rfl⟩
  have hs1 : W1.heap.size = w.heap.size + 1 := by rw [hW1]; simp
  rw [← hW1] at hbA bL ⊢
  clear hW1
  refine wpIn_rangeFunc_o (gf := 175) (lb := #[.pointer (some ⟨Bn, 0, none⟩)]) rfl (enters_of Tryz.func175 (by kernel_rfl) rfl) SQ.out
    (fun h k => ⟨h.1.trans (k.1.mono (Nat.le_refl _)), fun g t vs hg ht hr => k.2 g t vs hg ht (h.2 g t vs hg ht hr)⟩)
    (fun X k o o' hk ho hc _ => ⟨⟨rfl, rfl, rfl, by simp, fun m hm => World.putObj_heap_other (by omega)⟩, fun g t vs hg ht hr => by
      have hne : g ≠ k := by
        rintro rfl
        unfold Row at hr
        rw [hr] at ho
        cases ho
        cases hc
      exact (World.putObj_heap_other hne).trans hr⟩)
    hbA (fun _ => rfl)
    (fun pre X => (∃ u, Boxed X w.heap.size 28 u ∧ X.ownsRow w.heap.size 32 2 u (elPls pre).length (placeCells (elPls pre)) ∧ True) ∧ Below w.heap.size w X)
    (fun _ _ _ => False)
    (OwnFrom.and (Own.from (holdsRow_own w.heap.size w.heap.size 28 32 2 (fun pre : List (El ss) => (elPls pre).length) (fun pre => placeCells (elPls pre)) (fun _ _ => True)) _) (ownFrom_below (Nat.le_refl _) (by omega)))
    (fun _ _ _ _ _ hs _ _ => hs)
    ⟨⟨_, bL, World.ownsRow_nil _ _ _ _, trivial⟩, hbA⟩
    (fun x a' X => ∃ Bp, Row X Bp 32 [.int .i64 (x.1.1 : Int), .int .i64 (x.1.2.1 : Int)] ∧
      a' = { tmps := #[.slice none 0 0, .func (.func 175) #[] #[.pointer (some ⟨Bn, 0, none⟩)], .pointer (some ⟨w.heap.size, 0, none⟩), undef, .slice none 0 0, .pointer (some ⟨Bp, 0, none⟩), .func (.func 175) #[] #[.pointer (some ⟨Bn, 0, none⟩)], .agg #[.int .i64 (x.1.1 : Int), .int .i64 (x.1.2.1 : Int)], undef, undef, undef, undef, undef], defers := [] })
    (fun x a' _ X Y row hs hg hr => by obtain ⟨Bp, h1, h3⟩ := hs; exact ⟨Bp, h1.kept_cells hg (fun r e => (hr r e).2), h3⟩)
    ?assign ?body ?done ?stop
  case assign =>
    rintro l' pre x X K hi hK
    gi_wp2
    have ha : Below X.heap.size X (X.alloc (.cells #[.int .i64 (x.1.1 : Int), .int .i64 (x.1.2.1 : Int)] 32)) := (Below.refl _ _).alloc (Nat.le_refl _) _
    obtain ⟨⟨u, hB, hrow, -⟩, hbw⟩ := hi
    refine hK _ _ ((KeepsOthers.alloc _ _).from _) ⟨ha.mono hbw.size, fun g t vs _ _ hr => hr.alloc _⟩ ⟨⟨u, hB.alloc _, hrow.alloc _, trivial⟩, hbw.trans (ha.mono hbw.size)⟩ ⟨X.heap.size, Row.new X [.int .i64 (x.1.1 : Int), .int .i64 (x.1.2.1 : Int)] 32, rfl⟩
  case body =>
    rintro l' pre x a' X hl' _ ⟨⟨u, hB, hrow, -⟩, hbw⟩ ⟨Bp, hp, rfl⟩ hlen
    obtain ⟨⟨i, j, it⟩, hmem⟩ := x
    dsimp only at hp ⊢
    have hlen' : (elPls pre).length < 1000000 := by unfold elPls; rw [List.length_map]; exact hlen
    have p0 := hp.cell (i := 0) (by rfl)
    have p1 := hp.cell (i := 1) (by rfl)
    have hlt := hB.lt
    have HE : Hid (elPls (pre ++ [(⟨(i, j, it), hmem⟩ : El ss)]) = elPls pre ++ [((i : Int), (j : Int))]) := Lib.hid (elPls_snoc pre _)
    obtain ⟨v', w3, hrun, hown', hgrow⟩ := append_place0 hrow (i : Int) (j : Int) hlen' hbw.size 28
    have hown2 := hown'
    obtain ⟨g', cap', rfl⟩ := ownsRow_succ hown'
    simp [go_sem] at hrun
    obtain ⟨hv1, hv2, hr2, hk2, hb2⟩ := hB.appended (by decide) hrow hbw.size (Nat.le_refl _) hown2 hgrow
    have HKP : Hid (∀ (g : Nat) (t : TypeId) (vs : List Value), W1.heap.size + 2 ≤ g → t ≠ 32 → Row X g t vs → Row (w3.setCell ⟨w.heap.size, 0, none⟩ (.slice (some ⟨g', 0, none⟩) ((elPls pre).length + 1) cap')) g t vs) := Lib.hid (fun g t vs hg ht hr =>
      (((hr.alloc (.cells #[.int .i64 (i : Int), .int .i64 (j : Int)] 32)).grown hgrow (ownsRow_ne2 hr ht hrow)).other (a := ⟨w.heap.size, 0, none⟩) (by show w.heap.size ≠ g; omega) _))
    have c0 := hB.cell
    have c0' := (hB.alloc (.cells #[.int .i64 (i : Int), .int .i64 (j : Int)] 32)).cell
    have c1 := hv1.cell
    have f1 := hv1.frozen
    have HP := Lib.hid (And.intro hv2 (And.intro hr2 (And.intro hk2 hb2)))
    have HBW := Lib.hid hbw
    clear hB hrow hbw hown' hown2 hgrow hv1 hv2 hr2 hk2 hb2 hp
    gi_wp2
    refine ⟨HP.out.2.2.1.from _, ⟨HP.out.2.2.2, HKP.out⟩, ⟨_, HP.out.1, ?_, trivial⟩, HBW.out.trans HP.out.2.2.2⟩
    rw [HE.out, List.length_append, placeCells_snoc]
    exact HP.out.2.1
  case done =>
    rintro D xs X hD hS ⟨⟨u, hB, hrow, -⟩, hbw⟩ hK
    have cB := hB.cell
    have HS2 : Hid (elPls xs = chgG ss tt st) := Lib.hid hS
    clear hS
    gi_wp2
    refine ⟨by simp, .inl ⟨_, _, rfl, run_takeDeferred hK, ?_⟩⟩
    have hrow2 := ownsRow_putObj hrow (.deferred none) hK rfl
    rw [HS2.out] at hrow2
    have hend : Below w.heap.size w (X.putObj D (.deferred none)) := hbw.trans ⟨rfl, rfl, rfl, by simp, fun m hm => World.putObj_heap_other (by omega)⟩
    exact ⟨_, results_tmp rfl _ _ _, u, rfl, hrow2, hend⟩
  case stop =>
    rintro D c pre X _ _ h _
    exact h.elim
set_option maxRecDepth 100000 in
theorem collect_any {ss tt : List Sc} (hv : Valid ss) (hv2 : Valid tt) {st : Int × Int → Option (Int × Int)} (hin : StandsIn ss tt st) {w : World} {Bn C R1 R2 : Nat} {u : Value} (hC : CompIs w C R1 R2 u ss tt st) (hBn : w.cell? ⟨Bn, 0, none⟩ = some (.pointer (some ⟨C, 0, none⟩))) :
    Calls Tryz.prog 143 #[.func (.func 175) #[] #[.pointer (some ⟨Bn, 0, none⟩)]] w fun e w' => ∃ v, e = .returned v ∧ w'.ownsRow w.heap.size 32 2 v (chgG ss tt st).length (placeCells (chgG ss tt st)) ∧ Below w.heap.size w w' := by
  have A := Lib.hid (appendSeq_any hv hv2 hin hC hBn)
  clear hC hBn hin hv hv2
  go_enter Tryz.func143, Tryz.ntmps143
  go_wp2_with fail
  refine A.out.mono ?_
  rintro e w1 ⟨v, rfl, hown, hb⟩
  have HO := Lib.hid (And.intro hown hb)
  clear hown hb
  go_wp2
  go_ret
  exact ⟨v, rfl, HO.out.1, HO.out.2⟩
/-- What changedBetween answers. -/
def BetGot (l : List (Int × Int)) (w : World) (e : Ending) (w' : World) : Prop := ∃ v, e = .returned (.tuple #[v, .bool true]) ∧ w'.ownsRow w.heap.size 32 2 v l.length (placeCells l) ∧ Below w.heap.size w w'
set_option maxRecDepth 100000 in
set_option maxHeartbeats 4000000 in
theorem between_any (ss tt : List Sc) (hv : Valid ss) (hv2 : Valid tt) (hF : Fair ss) (hF2 : Fair tt) (oa ob : Option Addr) (cap cbp : Nat) (u : Value) (st : Int × Int → Option (Int × Int)) (hin : StandsIn ss tt st) (w : World) (hc : HoldsScopes w oa ss) (hc2 : HoldsScopes w ob tt) (hE : TreeErrs w) (hst : StandsOk w u st) :
    Calls Tryz.prog 90 #[.agg #[.slice oa ss.length cap], .agg #[.slice ob tt.length cbp], u] w (BetGot (chgG ss tt st) w) := by
  have hb0 : Below w.heap.size w ((w.alloc (.cells #[.slice oa ss.length cap] 25)).alloc (.cells #[.slice ob tt.length cbp] 25)) := ((Below.refl _ _).alloc (Nat.le_refl _) _).alloc (by simp) _
  have R1 := (Row.new w [.slice oa ss.length cap] 25).alloc (.cells #[.slice ob tt.length cbp] 25)
  have R2 := Row.new (w.alloc (.cells #[.slice oa ss.length cap] 25)) [.slice ob tt.length cbp] 25
  rw [World.size_alloc] at R2
  have C1 := Lib.hid (resolutionOf_any ss hF oa cap _ (hc.below hb0 (Nat.le_refl _)) (hE.below hb0 hE.size))
  have HB0 := Lib.hid hb0
  have HR2 := Lib.hid R2
  have HALL := Lib.hid (And.intro hv (And.intro hv2 (And.intro hF2 (And.intro hin (And.intro hc2 (And.intro hE hst))))))
  have g1 := R1.cell (i := 0) (by rfl)
  obtain ⟨f, lb, rfl, -, -⟩ := hst
  clear hv hv2 hF hF2 hin hc hc2 hE hb0 R1 R2
  go_enter Tryz.func90, Tryz.ntmps90
  go_wp2_with fail
  refine C1.out.mono ?_
  rintro e w1 (⟨hn, -, -⟩ | ⟨-, RR, T, M1, M2, MR, v, ds, le, rfl, hb1, hR⟩)
  · exact absurd HALL.out.1 hn
  · have HB1 := Lib.hid (HB0.out.trans (hb1.mono HB0.out.size))
    have HRI : Hid (ResIs w1 RR ss) := Lib.hid ⟨_, _, _, _, _, _, _, _, hR⟩
    have g2 := (HR2.out.below hb1 HR2.out.lt).cell (i := 0) (by rfl)
    have C2 := Lib.hid (resolutionOf_any tt HALL.out.2.2.1 ob cbp w1 (HALL.out.2.2.2.2.1.below HB1.out (Nat.le_refl _)) (HALL.out.2.2.2.2.2.1.below HB1.out HALL.out.2.2.2.2.2.1.size))
    clear hb1 hR g1
    go_wp2_with fail
    refine C2.out.mono ?_
    rintro e w2 (⟨hn, -, -⟩ | ⟨-, RS, T2, N1, N2, MS, v2, ds2, le2, rfl, hb2, hR2⟩)
    · exact absurd HALL.out.2.1 hn
    · have HB2 := Lib.hid (HB1.out.trans (hb2.mono HB1.out.size))
      have hbC := (Below.refl w2.heap.size w2).alloc (Nat.le_refl _) (.cells #[.pointer (some ⟨RR, 0, none⟩), .pointer (some ⟨RS, 0, none⟩), .func (.func f) #[] lb] 203)
      have HCI : Hid (CompIs (w2.alloc (.cells #[.pointer (some ⟨RR, 0, none⟩), .pointer (some ⟨RS, 0, none⟩), .func (.func f) #[] lb] 203)) w2.heap.size RR RS (.func (.func f) #[] lb) ss tt st) := Lib.hid
        ⟨Row.new w2 [.pointer (some ⟨RR, 0, none⟩), .pointer (some ⟨RS, 0, none⟩), .func (.func f) #[] lb] 203, (HRI.out.below hb2).below hbC, ResIs.below ⟨_, _, _, _, _, _, _, _, hR2⟩ hbC, HALL.out.2.2.2.2.2.2.below (HB2.out.trans (hbC.mono HB2.out.size))⟩
      have HB3 := Lib.hid (HB2.out.trans (hbC.mono HB2.out.size))
      clear hb2 hR2 hbC g2
      go_wp2_with fail
      generalize w2.alloc (.cells #[.pointer (some ⟨RR, 0, none⟩), .pointer (some ⟨RS, 0, none⟩), .func (.func f) #[] lb] 203) = w3 at *
      refine (changes_any w2.heap.size w3).mono ?_
      rintro e w4 ⟨rfl, rfl⟩
      have hbN := (Below.refl w3.heap.size w3).alloc (Nat.le_refl _) (.cells #[.pointer (some ⟨w2.heap.size, 0, none⟩)] 201)
      have RN := Row.new w3 [.pointer (some ⟨w2.heap.size, 0, none⟩)] 201
      have K := Lib.hid (collect_any HALL.out.1 HALL.out.2.1 HALL.out.2.2.2.1 (HCI.out.below hbN) (RN.cell (i := 0) (by rfl)))
      have HB4 := Lib.hid (HB3.out.trans (hbN.mono HB3.out.size))
      clear hbN RN
      go_wp2_with fail
      refine K.out.mono ?_
      rintro e w5 ⟨v5, rfl, hown, hb5⟩
      have HO := Lib.hid (And.intro (hown.mono HB4.out.size) (HB4.out.trans (hb5.mono HB4.out.size)))
      clear hown hb5
      go_wp2
      go_ret2
      exact ⟨v5, rfl, HO.out.1, HO.out.2⟩
end Go.Proofs.YtdmaaneilfjfcaaGreatDoor
