/-
  A region that draws its order, in a fence with a round: it is enough to walk its orders in the fence without. Plain facts. A region that draws its order, outside of a round: walked with what its loads read kept; where several operations are ready, each of them. Plain facts. A graph without an item: it is valid where the graph is. Plain facts. A graph with an item more behind those of one scope: it is valid where the graph is and the scope has room. Plain facts. The walks of impl's slices.Clone at items, (Scope).clone and (Graph).clone, and of the given l6Copy: a copy of a graph, in memory of the call's own. Condition: the argument's memory holds the graph. The walk of impl's slices.Delete at items, of one item: the row holds the others, in their order. Condition: the row is the call's own. Plain facts. The walks of impl's (Graph).without and RemoveItem. Conditions: the argument's memory holds the graph; the package-level errors hold errors. The walks of the given l6Copy, l6Remove, l6RawRemoveItem and RemoveItem. Condition: the argument's memory holds the graph. A graph of the call's own when the items of one scope turn, and an item appended to a row of items. Plain facts.
-/
import Derived.BigRegionIn
import Derived.Lib.Hide
import Derived.Test.YtjogfagjcpcihaaGreatDoorWImplValidX
import Derived.Test.YtjogfagjcpcihaaGreatDoorJAX
import Derived.Test.YtjogfagjcpcihaaGreatDoorJBX
import Derived.Lib.SliceRun
namespace Go
section held
variable {F : Fence} {n : Nat} {P : Program} {ops : Array Oper} {Q : Exit → Act → World → Prop} {md : Region.Mode} {S : World → Prop} {L : Nat}
/-- Whichever operation comes next, S holds behind it, but for number L. -/
def KeptAny (F : Fence) (n : Nat) (P : Program) (md : Region.Mode) (ops : Array Oper) (Q : Exit → Act → World → Prop) (S : World → Prop) (L : Nat) : Nat → Array Bool → Act → World → Prop
  | 0, l, a, w => wpAnyIn F n P md ops Q 0 l a w
  | k + 1, l, a, w => (Region.ready md ops l = [] → Q .normal a w) ∧ ∀ i ∈ Region.ready md ops l, wpOpIn F n P ops Q i (fun a' w' => (i = L ∨ S w') ∧ KeptAny F n P md ops Q S L k (l.setIfInBounds i true) a' w') a w
theorem KeptAny.any : ∀ (k : Nat) (l : Array Bool) (a : Act) (w : World), KeptAny F n P md ops Q S L k l a w → wpAnyIn F n P md ops Q k l a w
  | 0, _, _, _, h => h
  | k + 1, _, _, _, h => ⟨h.1, fun i hi => wpOpIn_mono (fun _ _ h' => KeptAny.any k _ _ _ h'.2) (h.2 i hi)⟩
/-- Where S holds, o yields v and does nothing else. -/
structure KeptYields (P : Program) (ops : Array Oper) (S : World → Prop) (o : Oper) (v : Value) (a : Act) : Prop where
  wanted : Region.wanted o (yielded ops a.tmps) = true
  run : ∀ w, S w → (execOp a.eval o).run P w = .ok (.value v) w
  calm : ∀ w, o.about P w a.eval = none
theorem KeptYields.now {i : Nat} {o : Oper} {v : Value} {a : Act} (hro : F.round = none) (hi : ops[i]? = some o) (hy : KeptYields P ops S o v a) {K : Act → World → Prop} {w : World} (hS : S w) (h : K (a.put o.dst v) w) : wpOpIn F n P ops Q i K a w := by
  unfold Go.wpOpIn
  simp only [hi, hy.wanted, if_true, Oper.wpIn, hro, Oper.semAt_none, hy.run w hS, Oper.uponIn]
  exact ⟨fun f hf => (by rw [hy.calm w] at hf; cases hf), h⟩
theorem KeptYields.like {o : Oper} {v : Value} {a b : Act} (hy : KeptYields P ops S o v a) (he : execOp b.eval o = execOp a.eval o) (hw : Region.wanted o (yielded ops b.tmps) = Region.wanted o (yielded ops a.tmps)) (hb : ∀ w, o.about P w b.eval = o.about P w a.eval) : KeptYields P ops S o v b :=
  ⟨hw.trans hy.wanted, fun w hS => by rw [he]; exact hy.run w hS, fun w => (hb w).trans (hy.calm w)⟩
/-- An operation that is apart from one whose value is laid already. -/
theorem keptSwap {j : Nat} {oi oj : Oper} {v : Value} (hro : F.round = none) (hj : ops[j]? = some oj) (hap : oi.apart ops oj = true) (hsj : ∀ cs b, oj.op ≠ .select cs b)
    (hQ : ∀ c a w, Q (.panic c) (a.put oi.dst v) w → Q (.panic c) a w) {Y : Act → Prop} (hput : ∀ b, Y b → ∀ u, Y (b.put oj.dst u)) (hdef : ∀ b, Y b → ∀ d, Y { b with defers := d :: b.defers }) {K : Act → World → Prop} {a : Act} {w : World} (hy : Y a)
    (h : wpOpIn F n P ops Q j K (a.put oi.dst v) w) : wpOpIn F n P ops Q j (fun b w' => Y b ∧ K (b.put oi.dst v) w') a w := by
  obtain ⟨h1, h2, h3⟩ := Oper.apart_spec hap
  have flip : ∀ (b : Act) (u : Value) (w' : World), K ((b.put oi.dst v).put oj.dst u) w' → K ((b.put oj.dst u).put oi.dst v) w' := fun b u w' hk => by rw [← Act.put_comm b v u h2]; exact hk
  unfold wpOpIn at h ⊢
  rw [hj] at h ⊢
  simp only at h ⊢
  rw [wanted_put oj a oi.dst v h1, about_put oj w a oi.dst v h1] at h
  by_cases hw : Region.wanted oj (yielded ops a.tmps) = true
  · rw [if_pos hw] at h ⊢
    unfold Oper.wpIn at h ⊢
    rw [about_put oj w a oi.dst v h1, hro, Oper.semAt_none, execOp_put oj hsj a oi.dst v h1] at h
    rw [hro, Oper.semAt_none]
    refine ⟨h.1, ?_⟩
    replace h := h.2
    revert h
    generalize (execOp a.eval oj).run P w = r
    cases r with
    | halt x w' => cases x <;> simp only [Oper.uponIn] <;> intro h <;> first | exact h | exact hQ _ _ _ h
    | ok x w' =>
      cases x with
      | value u => exact fun h => ⟨hput a hy u, flip a u w' h⟩
      | skip => exact fun h => ⟨hput a hy undef, flip a undef w' h⟩
      | defer d =>
        refine fun h => ⟨hput _ (hdef a hy d) undef, ?_⟩
        rw [← Act.put_comm _ v undef h2, ← Act.put_defers]
        exact h
      | enter f args =>
        refine fun h => ⟨h.1, CallsIn.mono h.2 fun e w'' he => ?_⟩
        cases e with
        | returned u => exact ⟨hput a hy u, flip a u w'' he⟩
        | panicked c => exact hQ _ _ _ he
        | outgrown => exact he
      | row r args => exact fun h => ⟨h.1, RowsIn.mono h.2 fun u w'' he => ⟨hput a hy u, flip a u w'' he⟩⟩
      | round l f tmps assign body =>
        refine fun h => ⟨h.1, RoundIn.mono h.2 fun e w'' he => ?_⟩
        cases e with
        | returned u => exact ⟨hput a hy u, flip a u w'' he⟩
        | panicked c => exact hQ _ _ _ he
        | outgrown => exact he
      | _ => intro h; simp only [Oper.uponIn] at h
  · rw [if_neg hw] at h ⊢
    exact ⟨h.1, hput a hy undef, flip a undef w h.2⟩
/-- Number L, if there is one, waits for number i. -/
def waitsFor (md : Region.Mode) (ops : Array Oper) (L i : Nat) : Bool := match ops[L]? with
  | none => true
  | some o => o.after.any fun e => Region.binds md e && e.on == i
theorem KeptAny.first {i : Nat} {oi : Oper} {v : Value} (hL : waitsFor md ops L i = true) (hro : F.round = none) (hi : ops[i]? = some oi) (hsel : ∀ (j : Nat) (o : Oper) cs b, ops[j]? = some o → o.op ≠ .select cs b) (hQ : ∀ c a w, Q (.panic c) (a.put oi.dst v) w → Q (.panic c) a w) :
    ∀ (k : Nat) (l : Array Bool) (a : Act) (w : World), (∀ j oj, ops[j]? = some oj → j ≠ i → l.getD j true = false → (∀ e ∈ oj.after, Region.binds md e = true → e.on ≠ i) → oi.apart ops oj = true) →
      i ∈ Region.ready md ops l → KeptYields P ops S oi v a → S w → KeptAny F n P md ops Q S L k (l.setIfInBounds i true) (a.put oi.dst v) w → KeptAny F n P md ops Q S L (k + 1) l a w := by
  intro k
  induction k with
  | zero =>
    intro l a w _ hr hy hS H
    refine ⟨fun h => (by rw [h] at hr; cases hr), fun j hj => ?_⟩
    by_cases hji : j = i
    · subst hji
      exact hy.now hro hi hS ⟨.inr hS, H⟩
    · have h0 := ready_mono hj hji
      rw [H.1] at h0
      cases h0
  | succ k ih =>
    intro l a w hfree hr hy hS H
    refine ⟨fun h => (by rw [h] at hr; cases hr), fun j hj => ?_⟩
    by_cases hji : j = i
    · subst hji
      exact hy.now hro hi hS ⟨.inr hS, H⟩
    · obtain ⟨hjun, oj, hoj, hall⟩ := mem_ready.1 hj
      have hnot : ∀ e ∈ oj.after, Region.binds md e = true → e.on ≠ i := fun e he hb heq => by
        have g1 := hall e he hb
        have g0 := (mem_ready.1 hr).1
        rw [heq] at g1
        by_cases h' : i < l.size
        · simp [h'] at g0 g1
          rw [g0] at g1
          cases g1
        · simp [Array.getElem?_eq_none (Nat.le_of_not_lt h')] at g1
      have hap := hfree j oj hoj hji hjun hnot
      obtain ⟨h1, h2, h3⟩ := Oper.apart_spec hap
      have hsw := keptSwap (Y := KeptYields P ops S oi v) hro hoj hap (fun cs b => hsel j oj cs b hoj) hQ
        (fun b hb u => hb.like (execOp_put oi (fun cs c => hsel i oi cs c hi) b oj.dst u h3) (wanted_put oi b oj.dst u h3) (fun w => about_put oi w b oj.dst u h3))
        (fun b hb d => hb.like rfl rfl fun _ => rfl) hy (H.2 j (ready_mono hj hji))
      have hjL : j ≠ L := by
        rintro rfl
        unfold waitsFor at hL
        rw [hoj] at hL
        simp only [Array.any_eq_true', Bool.and_eq_true, beq_iff_eq] at hL
        obtain ⟨e, he, hb, hon⟩ := hL
        exact hnot e he hb hon
      refine wpOpIn_mono (fun b w' hb => ⟨.inr (hb.2.1.resolve_left hjL), ih _ b w' ?_ (ready_mono hr (Ne.symm hji)) hb.1 (hb.2.1.resolve_left hjL) ?_⟩) hsw
      · intro m om hm hmi hun hno
        refine hfree m om hm hmi ?_ hno
        by_cases hjm : j = m
        · subst hjm; exact hjun
        · rw [getD_set_ne true hjm] at hun; exact hun
      · rw [Array.setIfInBounds_comm _ _ hji]
        exact hb.2.2
/-- One that yields where S holds may be taken first. -/
theorem KeptAny.take {i : Nat} {oi : Oper} {v : Value} {k : Nat} {l : Array Bool} {a : Act} {w : World} (hL : waitsFor md ops L i = true) (hro : F.round = none) (hi : ops[i]? = some oi) (hs : Region.noSelect ops = true) (hf : Region.free md ops l i = true) (hr : (Region.ready md ops l).contains i = true)
    (hQ : ∀ c a w, Q (.panic c) (a.put oi.dst v) w → Q (.panic c) a w) (hw : Region.wanted oi (yielded ops a.tmps) = true) (hrun : ∀ w, S w → (execOp a.eval oi).run P w = .ok (.value v) w) (hab : ∀ w, oi.about P w a.eval = none) (hS : S w)
    (h : KeptAny F n P md ops Q S L k (l.setIfInBounds i true) (a.put oi.dst v) w) : KeptAny F n P md ops Q S L (k + 1) l a w :=
  KeptAny.first hL hro hi (Region.noSelect_spec hs) hQ k l a w (Region.free_spec hi hf) (by simpa using hr) ⟨hw, hrun, hab⟩ hS h
theorem KeptAny.done {l : Array Bool} {a : Act} {w : World} (hr : Region.ready md ops l = []) (h : Q .normal a w) : ∀ k, KeptAny F n P md ops Q S L k l a w
  | 0 => ⟨hr, h⟩
  | _ + 1 => ⟨fun _ => h, (by rw [hr]; simp)⟩
/-- The one that is ready. -/
theorem KeptAny.one {i : Nat} {o : Oper} {k : Nat} {l : Array Bool} {a : Act} {w : World} (hr : Region.ready md ops l = [i]) (ho : ops[i]? = some o) (hw : Region.wanted o (yielded ops a.tmps) = true)
    (h : ∀ K : Act → World → Prop, RowKit.Hid (∀ b w', S w' → (S w' → KeptAny F n P md ops Q S L k (l.setIfInBounds i true) b w') → K b w') → o.wpIn F n P a w K Q) : KeptAny F n P md ops Q S L (k + 1) l a w := by
  refine ⟨fun h0 => (by rw [hr] at h0; cases h0), fun j hj => ?_⟩
  rw [hr, List.mem_singleton] at hj
  subst hj
  unfold wpOpIn
  rw [ho]
  simp only [hw, if_true]
  exact h _ (Lib.hid fun b w' hS hk => ⟨.inr hS, hk hS⟩)
/-- The one that is ready is number L. -/
theorem KeptAny.last {o : Oper} {k : Nat} {l : Array Bool} {a : Act} {w : World} (hr : Region.ready md ops l = [L]) (ho : ops[L]? = some o) (hw : Region.wanted o (yielded ops a.tmps) = true)
    (h : ∀ K : Act → World → Prop, RowKit.Hid (∀ b w', KeptAny F n P md ops Q S L k (l.setIfInBounds L true) b w' → K b w') → o.wpIn F n P a w K Q) : KeptAny F n P md ops Q S L (k + 1) l a w := by
  refine ⟨fun h0 => (by rw [hr] at h0; cases h0), fun j hj => ?_⟩
  rw [hr, List.mem_singleton] at hj
  subst hj
  unfold wpOpIn
  rw [ho]
  simp only [hw, if_true]
  exact h _ (Lib.hid fun b w' hk => ⟨Or.inl (by first | rfl | trivial), hk⟩)
end held
end Go
namespace Go
section held
variable {F : Fence} {n : Nat} {P : Program} {ops : Array Oper} {Q : Exit → Act → World → Prop} {md : Region.Mode} {S : World → Prop} {L : Nat}
theorem wp_region_kept {id : Nat} {a : Act} {w : World} (L : Nat) (hm : P.follows .mixedOrders = true) (h : KeptAny Fence.wide 6 P .any ops Q S L ops.size (Array.replicate ops.size false) a w.drew) : (Code.region id ops true).wp P Q a w :=
  (wpIn_wide (n := 6)).1 (wpIn_region_any hm (KeptAny.any _ _ _ _ h))
/-- What is asked of an operation that comes next. -/
def NextKept (F : Fence) (n : Nat) (P : Program) (md : Region.Mode) (ops : Array Oper) (Q : Exit → Act → World → Prop) (S : World → Prop) (L k : Nat) (l : Array Bool) (a : Act) (w : World) (i : Nat) : Prop :=
  ∃ o, ops[i]? = some o ∧ Region.wanted o (yielded ops a.tmps) = true ∧ ∀ K : Act → World → Prop, RowKit.Hid (∀ b w', S w' → (S w' → KeptAny F n P md ops Q S L k (l.setIfInBounds i true) b w') → K b w') → o.wpIn F n P a w K Q
theorem KeptAny.each {k : Nat} {l : Array Bool} {a : Act} {w : World} {is : List Nat} (hr : Region.ready md ops l = is) (hne : is ≠ []) (h : ∀ i ∈ is, NextKept F n P md ops Q S L k l a w i) : KeptAny F n P md ops Q S L (k + 1) l a w := by
  refine ⟨fun h0 => absurd (hr.symm.trans h0) hne, fun j hj => ?_⟩
  rw [hr] at hj
  obtain ⟨o, ho, hw, h1⟩ := h j hj
  unfold wpOpIn
  rw [ho]
  simp only [hw, if_true]
  exact h1 _ (Lib.hid fun b w' hS hk => ⟨.inr hS, hk hS⟩)
theorem KeptAny.two {i j : Nat} {k : Nat} {l : Array Bool} {a : Act} {w : World} (hr : Region.ready md ops l = [i, j]) (h1 : NextKept F n P md ops Q S L k l a w i) (h2 : NextKept F n P md ops Q S L k l a w j) : KeptAny F n P md ops Q S L (k + 1) l a w :=
  KeptAny.each hr (by simp) fun m hm => by
    simp only [List.mem_cons, List.not_mem_nil, or_false] at hm
    rcases hm with rfl | rfl
    · exact h1
    · exact h2
theorem KeptAny.three {i j m : Nat} {k : Nat} {l : Array Bool} {a : Act} {w : World} (hr : Region.ready md ops l = [i, j, m]) (h1 : NextKept F n P md ops Q S L k l a w i) (h2 : NextKept F n P md ops Q S L k l a w j) (h3 : NextKept F n P md ops Q S L k l a w m) : KeptAny F n P md ops Q S L (k + 1) l a w :=
  KeptAny.each hr (by simp) fun q hq => by
    simp only [List.mem_cons, List.not_mem_nil, or_false] at hq
    rcases hq with rfl | rfl | rfl
    · exact h1
    · exact h2
    · exact h3
end held
end Go
namespace Go.Proofs.YtjogfagjcpcihaaGreatDoor
open Go Go.RowKit
end Go.Proofs.YtjogfagjcpcihaaGreatDoor
namespace Go.Proofs.YtjogfagjcpcihaaGreatDoor
open Go Go.RowKit
end Go.Proofs.YtjogfagjcpcihaaGreatDoor
namespace Go.Proofs.YtjogfagjcpcihaaGreatDoor
open Go Go.RowKit
end Go.Proofs.YtjogfagjcpcihaaGreatDoor
namespace Go.Proofs.YtjogfagjcpcihaaGreatDoor
open Go Go.RowKit
end Go.Proofs.YtjogfagjcpcihaaGreatDoor
namespace Go.Proofs.YtjogfagjcpcihaaGreatDoor
open Go Go.RowKit
end Go.Proofs.YtjogfagjcpcihaaGreatDoor
namespace Go.Proofs.YtjogfagjcpcihaaGreatDoor
open Go Go.RowKit
end Go.Proofs.YtjogfagjcpcihaaGreatDoor
namespace Go.Proofs.YtjogfagjcpcihaaGreatDoor
open Go Go.RowKit
end Go.Proofs.YtjogfagjcpcihaaGreatDoor
