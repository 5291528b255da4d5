/-
  A region that draws its order, in a fence with a round: it is enough to walk its orders in the fence without. Plain facts. A region that draws its order, outside of a round: walked with what its loads read kept; where several operations are ready, each of them. Plain facts. A graph without an item: it is valid where the graph is. Plain facts. A graph with an item more behind those of one scope: it is valid where the graph is and the scope has room. Plain facts. The walks of impl's slices.Clone at items, (Scope).clone and (Graph).clone, and of the given l6Copy: a copy of a graph, in memory of the call's own. Condition: the argument's memory holds the graph. The walk of impl's slices.Delete at items, of one item: the row holds the others, in their order. Condition: the row is the call's own. Plain facts. The walks of impl's (Graph).without and RemoveItem. Conditions: the argument's memory holds the graph; the package-level errors hold errors. The walks of the given l6Copy, l6Remove, l6RawRemoveItem and RemoveItem. Condition: the argument's memory holds the graph. A graph of the call's own when the items of one scope turn, and an item appended to a row of items. Plain facts.
-/
import Derived.BigRegionIn
import Derived.Lib.Hide
import Derived.Test.YtjogfagjcpcihaaDoorWImplValid
import Derived.Test.YtjogfagjcpcihaaDoorJA
import Derived.Test.YtjogfagjcpcihaaDoorJB
import Derived.Lib.SliceRun
namespace Go
theorem opIn_round {F : Fence} {n : Nat} {P : Program} {o : Oper} {a : Act} {w : World} {K : Act → World → Prop} {Q : Exit → Act → World → Prop} (l : Nat) (hd : ∀ c, o.op ≠ .defer c) (h : o.wpIn F n P a w K Q) : o.wpIn (F.inRound l) n P a w K Q := by
  unfold Oper.wpIn at *
  refine ⟨h.1, ?_⟩
  have h2 := h.2
  rw [Oper.semAt_eq _ _ _ hd] at h2 ⊢
  exact h2
theorem wpAnyIn_round {F : Fence} {n : Nat} {P : Program} {md : Region.Mode} {ops : Array Oper} {Q : Exit → Act → World → Prop} (l : Nat) (hd : ∀ (i : Nat) (o : Oper), ops[i]? = some o → ∀ c, o.op ≠ .defer c) :
    ∀ (fuel : Nat) (listed : Array Bool) (a : Act) (w : World), wpAnyIn F n P md ops Q fuel listed a w → wpAnyIn (F.inRound l) n P md ops Q fuel listed a w
  | 0, _, _, _, h => h
  | fuel + 1, listed, a, w, h => by
    refine ⟨h.1, fun i hi => ?_⟩
    have h2 := h.2 i hi
    unfold wpOpIn at h2 ⊢
    cases ho : ops[i]? with
    | none =>
      rw [ho] at h2
      exact wpAnyIn_round l hd fuel _ _ _ h2
    | some o =>
      rw [ho] at h2
      simp only at h2 ⊢
      split
      · rename_i hw
        rw [if_pos hw] at h2
        exact opIn_round l (hd i o ho) (Oper.wpIn_mono (fun a w h => wpAnyIn_round l hd fuel _ a w h) h2)
      · rename_i hw
        rw [if_neg hw] at h2
        exact ⟨h2.1, wpAnyIn_round l hd fuel _ _ _ h2.2⟩
theorem noDefer {ops : Array Oper} (h : (ops.toList.all fun o => match o.op with | .defer _ => false | _ => true) = true) : ∀ (i : Nat) (o : Oper), ops[i]? = some o → ∀ c, o.op ≠ .defer c := by
  intro i o ho c e
  have hm : o ∈ ops.toList := List.mem_of_getElem? (i := i) (by simpa using ho)
  have h2 := List.all_eq_true.1 h o hm
  rw [e] at h2
  cases h2
theorem wpIn_region_round {F : Fence} {n : Nat} {P : Program} {ops : Array Oper} {Q : Exit → Act → World → Prop} {id : Nat} {a : Act} {w : World} (l : Nat) (hm : P.follows .mixedOrders = true) (hd : (ops.toList.all fun o => match o.op with | .defer _ => false | _ => true) = true)
    (h : wpAnyIn F n P .any ops Q ops.size (Array.replicate ops.size false) a w.drew) : (Code.region id ops true).wpIn (F.inRound l) n P Q a w :=
  wpIn_region_any hm (wpAnyIn_round l (noDefer hd) _ _ _ _ h)
section held
variable {F : Fence} {n : Nat} {P : Program} {ops : Array Oper} {Q : Exit → Act → World → Prop} {md : Region.Mode} {S : World → Prop} {L : Nat}
/-- Whichever operation comes next, S holds behind it, but for number L. -/
def KeptAny (F : Fence) (n : Nat) (P : Program) (md : Region.Mode) (ops : Array Oper) (Q : Exit → Act → World → Prop) (S : World → Prop) (L : Nat) : Nat → Array Bool → Act → World → Prop
  | 0, l, a, w => wpAnyIn F n P md ops Q 0 l a w
  | k + 1, l, a, w => (Region.ready md ops l = [] → Q .normal a w) ∧ ∀ i ∈ Region.ready md ops l, wpOpIn F n P ops Q i (fun a' w' => (i = L ∨ S w') ∧ KeptAny F n P md ops Q S L k (l.setIfInBounds i true) a' w') a w
theorem KeptAny.any : ∀ (k : Nat) (l : Array Bool) (a : Act) (w : World), KeptAny F n P md ops Q S L k l a w → wpAnyIn F n P md ops Q k l a w
  | 0, _, _, _, h => h
  | k + 1, _, _, _, h => ⟨h.1, fun i hi => wpOpIn_mono (fun _ _ h' => KeptAny.any k _ _ _ h'.2) (h.2 i hi)⟩
/-- Where S holds, o yields v and does nothing else. -/
structure KeptYields (P : Program) (ops : Array Oper) (S : World → Prop) (o : Oper) (v : Value) (a : Act) : Prop where
  wanted : Region.wanted o (yielded ops a.tmps) = true
  run : ∀ w, S w → (execOp a.eval o).run P w = .ok (.value v) w
  calm : ∀ w, o.about P w a.eval = none
theorem KeptYields.now {i : Nat} {o : Oper} {v : Value} {a : Act} (hro : F.round = none) (hi : ops[i]? = some o) (hy : KeptYields P ops S o v a) {K : Act → World → Prop} {w : World} (hS : S w) (h : K (a.put o.dst v) w) : wpOpIn F n P ops Q i K a w := by
  unfold Go.wpOpIn
  simp only [hi, hy.wanted, if_true, Oper.wpIn, hro, Oper.semAt_none, hy.run w hS, Oper.uponIn]
  exact ⟨fun f hf => (by rw [hy.calm w] at hf; cases hf), h⟩
theorem KeptYields.like {o : Oper} {v : Value} {a b : Act} (hy : KeptYields P ops S o v a) (he : execOp b.eval o = execOp a.eval o) (hw : Region.wanted o (yielded ops b.tmps) = Region.wanted o (yielded ops a.tmps)) (hb : ∀ w, o.about P w b.eval = o.about P w a.eval) : KeptYields P ops S o v b :=
  ⟨hw.trans hy.wanted, fun w hS => by rw [he]; exact hy.run w hS, fun w => (hb w).trans (hy.calm w)⟩
/-- An operation that is apart from one whose value is laid already. -/
theorem keptSwap {j : Nat} {oi oj : Oper} {v : Value} (hro : F.round = none) (hj : ops[j]? = some oj) (hap : oi.apart ops oj = true) (hsj : ∀ cs b, oj.op ≠ .select cs b)
    (hQ : ∀ c a w, Q (.panic c) (a.put oi.dst v) w → Q (.panic c) a w) {Y : Act → Prop} (hput : ∀ b, Y b → ∀ u, Y (b.put oj.dst u)) (hdef : ∀ b, Y b → ∀ d, Y { b with defers := d :: b.defers }) {K : Act → World → Prop} {a : Act} {w : World} (hy : Y a)
    (h : wpOpIn F n P ops Q j K (a.put oi.dst v) w) : wpOpIn F n P ops Q j (fun b w' => Y b ∧ K (b.put oi.dst v) w') a w := by
  obtain ⟨h1, h2, h3⟩ := Oper.apart_spec hap
  have flip : ∀ (b : Act) (u : Value) (w' : World), K ((b.put oi.dst v).put oj.dst u) w' → K ((b.put oj.dst u).put oi.dst v) w' := fun b u w' hk => by rw [← Act.put_comm b v u h2]; exact hk
  unfold wpOpIn at h ⊢
  rw [hj] at h ⊢
  simp only at h ⊢
  rw [wanted_put oj a oi.dst v h1, about_put oj w a oi.dst v h1] at h
  by_cases hw : Region.wanted oj (yielded ops a.tmps) = true
  · rw [if_pos hw] at h ⊢
    unfold Oper.wpIn at h ⊢
    rw [about_put oj w a oi.dst v h1, hro, Oper.semAt_none, execOp_put oj hsj a oi.dst v h1] at h
    rw [hro, Oper.semAt_none]
    refine ⟨h.1, ?_⟩
    replace h := h.2
    revert h
    generalize (execOp a.eval oj).run P w = r
    cases r with
    | halt x w' => cases x <;> simp only [Oper.uponIn] <;> intro h <;> first | exact h | exact hQ _ _ _ h
    | ok x w' =>
      cases x with
      | value u => exact fun h => ⟨hput a hy u, flip a u w' h⟩
      | skip => exact fun h => ⟨hput a hy undef, flip a undef w' h⟩
      | defer d =>
        refine fun h => ⟨hput _ (hdef a hy d) undef, ?_⟩
        rw [← Act.put_comm _ v undef h2, ← Act.put_defers]
        exact h
      | enter f args =>
        refine fun h => ⟨h.1, CallsIn.mono h.2 fun e w'' he => ?_⟩
        cases e with
        | returned u => exact ⟨hput a hy u, flip a u w'' he⟩
        | panicked c => exact hQ _ _ _ he
        | outgrown => exact he
      | row r args => exact fun h => ⟨h.1, RowsIn.mono h.2 fun u w'' he => ⟨hput a hy u, flip a u w'' he⟩⟩
      | round l f tmps assign body =>
        refine fun h => ⟨h.1, RoundIn.mono h.2 fun e w'' he => ?_⟩
        cases e with
        | returned u => exact ⟨hput a hy u, flip a u w'' he⟩
        | panicked c => exact hQ _ _ _ he
        | outgrown => exact he
      | _ => intro h; simp only [Oper.uponIn] at h
  · rw [if_neg hw] at h ⊢
    exact ⟨h.1, hput a hy undef, flip a undef w h.2⟩
/-- Number L, if there is one, waits for number i. -/
def waitsFor (md : Region.Mode) (ops : Array Oper) (L i : Nat) : Bool := match ops[L]? with
  | none => true
  | some o => o.after.any fun e => Region.binds md e && e.on == i
theorem KeptAny.first {i : Nat} {oi : Oper} {v : Value} (hL : waitsFor md ops L i = true) (hro : F.round = none) (hi : ops[i]? = some oi) (hsel : ∀ (j : Nat) (o : Oper) cs b, ops[j]? = some o → o.op ≠ .select cs b) (hQ : ∀ c a w, Q (.panic c) (a.put oi.dst v) w → Q (.panic c) a w) :
    ∀ (k : Nat) (l : Array Bool) (a : Act) (w : World), (∀ j oj, ops[j]? = some oj → j ≠ i → l.getD j true = false → (∀ e ∈ oj.after, Region.binds md e = true → e.on ≠ i) → oi.apart ops oj = true) →
      i ∈ Region.ready md ops l → KeptYields P ops S oi v a → S w → KeptAny F n P md ops Q S L k (l.setIfInBounds i true) (a.put oi.dst v) w → KeptAny F n P md ops Q S L (k + 1) l a w := by
  intro k
  induction k with
  | zero =>
    intro l a w _ hr hy hS H
    refine ⟨fun h => (by rw [h] at hr; cases hr), fun j hj => ?_⟩
    by_cases hji : j = i
    · subst hji
      exact hy.now hro hi hS ⟨.inr hS, H⟩
    · have h0 := ready_mono hj hji
      rw [H.1] at h0
      cases h0
  | succ k ih =>
    intro l a w hfree hr hy hS H
    refine ⟨fun h => (by rw [h] at hr; cases hr), fun j hj => ?_⟩
    by_cases hji : j = i
    · subst hji
      exact hy.now hro hi hS ⟨.inr hS, H⟩
    · obtain ⟨hjun, oj, hoj, hall⟩ := mem_ready.1 hj
      have hnot : ∀ e ∈ oj.after, Region.binds md e = true → e.on ≠ i := fun e he hb heq => by
        have g1 := hall e he hb
        have g0 := (mem_ready.1 hr).1
        rw [heq] at g1
        by_cases h' : i < l.size
        · simp [h'] at g0 g1
          rw [g0] at g1
          cases g1
        · simp [Array.getElem?_eq_none (Nat.le_of_not_lt h')] at g1
      have hap := hfree j oj hoj hji hjun hnot
      obtain ⟨h1, h2, h3⟩ := Oper.apart_spec hap
      have hsw := keptSwap (Y := KeptYields P ops S oi v) hro hoj hap (fun cs b => hsel j oj cs b hoj) hQ
        (fun b hb u => hb.like (execOp_put oi (fun cs c => hsel i oi cs c hi) b oj.dst u h3) (wanted_put oi b oj.dst u h3) (fun w => about_put oi w b oj.dst u h3))
        (fun b hb d => hb.like rfl rfl fun _ => rfl) hy (H.2 j (ready_mono hj hji))
      have hjL : j ≠ L := by
        rintro rfl
        unfold waitsFor at hL
        rw [hoj] at hL
        simp only [Array.any_eq_true', Bool.and_eq_true, beq_iff_eq] at hL
        obtain ⟨e, he, hb, hon⟩ := hL
        exact hnot e he hb hon
      refine wpOpIn_mono (fun b w' hb => ⟨.inr (hb.2.1.resolve_left hjL), ih _ b w' ?_ (ready_mono hr (Ne.symm hji)) hb.1 (hb.2.1.resolve_left hjL) ?_⟩) hsw
      · intro m om hm hmi hun hno
        refine hfree m om hm hmi ?_ hno
        by_cases hjm : j = m
        · subst hjm; exact hjun
        · rw [getD_set_ne true hjm] at hun; exact hun
      · rw [Array.setIfInBounds_comm _ _ hji]
        exact hb.2.2
/-- One that yields where S holds may be taken first. -/
theorem KeptAny.take {i : Nat} {oi : Oper} {v : Value} {k : Nat} {l : Array Bool} {a : Act} {w : World} (hL : waitsFor md ops L i = true) (hro : F.round = none) (hi : ops[i]? = some oi) (hs : Region.noSelect ops = true) (hf : Region.free md ops l i = true) (hr : (Region.ready md ops l).contains i = true)
    (hQ : ∀ c a w, Q (.panic c) (a.put oi.dst v) w → Q (.panic c) a w) (hw : Region.wanted oi (yielded ops a.tmps) = true) (hrun : ∀ w, S w → (execOp a.eval oi).run P w = .ok (.value v) w) (hab : ∀ w, oi.about P w a.eval = none) (hS : S w)
    (h : KeptAny F n P md ops Q S L k (l.setIfInBounds i true) (a.put oi.dst v) w) : KeptAny F n P md ops Q S L (k + 1) l a w :=
  KeptAny.first hL hro hi (Region.noSelect_spec hs) hQ k l a w (Region.free_spec hi hf) (by simpa using hr) ⟨hw, hrun, hab⟩ hS h
theorem KeptAny.done {l : Array Bool} {a : Act} {w : World} (hr : Region.ready md ops l = []) (h : Q .normal a w) : ∀ k, KeptAny F n P md ops Q S L k l a w
  | 0 => ⟨hr, h⟩
  | _ + 1 => ⟨fun _ => h, (by rw [hr]; simp)⟩
/-- The one that is ready. -/
theorem KeptAny.one {i : Nat} {o : Oper} {k : Nat} {l : Array Bool} {a : Act} {w : World} (hr : Region.ready md ops l = [i]) (ho : ops[i]? = some o) (hw : Region.wanted o (yielded ops a.tmps) = true)
    (h : ∀ K : Act → World → Prop, RowKit.Hid (∀ b w', S w' → (S w' → KeptAny F n P md ops Q S L k (l.setIfInBounds i true) b w') → K b w') → o.wpIn F n P a w K Q) : KeptAny F n P md ops Q S L (k + 1) l a w := by
  refine ⟨fun h0 => (by rw [hr] at h0; cases h0), fun j hj => ?_⟩
  rw [hr, List.mem_singleton] at hj
  subst hj
  unfold wpOpIn
  rw [ho]
  simp only [hw, if_true]
  exact h _ (Lib.hid fun b w' hS hk => ⟨.inr hS, hk hS⟩)
/-- The one that is ready is number L. -/
theorem KeptAny.last {o : Oper} {k : Nat} {l : Array Bool} {a : Act} {w : World} (hr : Region.ready md ops l = [L]) (ho : ops[L]? = some o) (hw : Region.wanted o (yielded ops a.tmps) = true)
    (h : ∀ K : Act → World → Prop, RowKit.Hid (∀ b w', KeptAny F n P md ops Q S L k (l.setIfInBounds L true) b w' → K b w') → o.wpIn F n P a w K Q) : KeptAny F n P md ops Q S L (k + 1) l a w := by
  refine ⟨fun h0 => (by rw [hr] at h0; cases h0), fun j hj => ?_⟩
  rw [hr, List.mem_singleton] at hj
  subst hj
  unfold wpOpIn
  rw [ho]
  simp only [hw, if_true]
  exact h _ (Lib.hid fun b w' hk => ⟨Or.inl (by first | rfl | trivial), hk⟩)
theorem wpIn_region_kept {id : Nat} {a : Act} {w : World} (L : Nat) (l : Nat) (hm : P.follows .mixedOrders = true) (hd : (ops.toList.all fun o => match o.op with | .defer _ => false | _ => true) = true)
    (h : KeptAny F n P .any ops Q S L ops.size (Array.replicate ops.size false) a w.drew) : (Code.region id ops true).wpIn (F.inRound l) n P Q a w :=
  wpIn_region_round l hm hd (KeptAny.any _ _ _ _ h)
end held
end Go
namespace Go
section held
variable {F : Fence} {n : Nat} {P : Program} {ops : Array Oper} {Q : Exit → Act → World → Prop} {md : Region.Mode} {S : World → Prop} {L : Nat}
theorem wp_region_kept {id : Nat} {a : Act} {w : World} (L : Nat) (hm : P.follows .mixedOrders = true) (h : KeptAny Fence.wide 6 P .any ops Q S L ops.size (Array.replicate ops.size false) a w.drew) : (Code.region id ops true).wp P Q a w :=
  (wpIn_wide (n := 6)).1 (wpIn_region_any hm (KeptAny.any _ _ _ _ h))
/-- What is asked of an operation that comes next. -/
def NextKept (F : Fence) (n : Nat) (P : Program) (md : Region.Mode) (ops : Array Oper) (Q : Exit → Act → World → Prop) (S : World → Prop) (L k : Nat) (l : Array Bool) (a : Act) (w : World) (i : Nat) : Prop :=
  ∃ o, ops[i]? = some o ∧ Region.wanted o (yielded ops a.tmps) = true ∧ ∀ K : Act → World → Prop, RowKit.Hid (∀ b w', S w' → (S w' → KeptAny F n P md ops Q S L k (l.setIfInBounds i true) b w') → K b w') → o.wpIn F n P a w K Q
theorem KeptAny.each {k : Nat} {l : Array Bool} {a : Act} {w : World} {is : List Nat} (hr : Region.ready md ops l = is) (hne : is ≠ []) (h : ∀ i ∈ is, NextKept F n P md ops Q S L k l a w i) : KeptAny F n P md ops Q S L (k + 1) l a w := by
  refine ⟨fun h0 => absurd (hr.symm.trans h0) hne, fun j hj => ?_⟩
  rw [hr] at hj
  obtain ⟨o, ho, hw, h1⟩ := h j hj
  unfold wpOpIn
  rw [ho]
  simp only [hw, if_true]
  exact h1 _ (Lib.hid fun b w' hS hk => ⟨.inr hS, hk hS⟩)
theorem KeptAny.two {i j : Nat} {k : Nat} {l : Array Bool} {a : Act} {w : World} (hr : Region.ready md ops l = [i, j]) (h1 : NextKept F n P md ops Q S L k l a w i) (h2 : NextKept F n P md ops Q S L k l a w j) : KeptAny F n P md ops Q S L (k + 1) l a w :=
  KeptAny.each hr (by simp) fun m hm => by
    simp only [List.mem_cons, List.not_mem_nil, or_false] at hm
    rcases hm with rfl | rfl
    · exact h1
    · exact h2
theorem KeptAny.three {i j m : Nat} {k : Nat} {l : Array Bool} {a : Act} {w : World} (hr : Region.ready md ops l = [i, j, m]) (h1 : NextKept F n P md ops Q S L k l a w i) (h2 : NextKept F n P md ops Q S L k l a w j) (h3 : NextKept F n P md ops Q S L k l a w m) : KeptAny F n P md ops Q S L (k + 1) l a w :=
  KeptAny.each hr (by simp) fun q hq => by
    simp only [List.mem_cons, List.not_mem_nil, or_false] at hq
    rcases hq with rfl | rfl | rfl
    · exact h1
    · exact h2
    · exact h3
end held
end Go
namespace Go.Proofs.YtjogfagjcpcihaaDoor
open Go Go.RowKit
def rmvSc (b : Nat) (s : Sc) : Sc := ⟨s.parent, s.items.eraseIdx b⟩
/-- The graph without the item b of the scope a. -/
def rmvP : List Sc → Nat → Nat → List Sc
  | [], _, _ => []
  | s :: r, 0, b => rmvSc b s :: r
  | s :: r, a + 1, b => s :: rmvP r a b
theorem rmvP_length : ∀ (ss : List Sc) (a b : Nat), (rmvP ss a b).length = ss.length
  | [], _, _ => rfl
  | s :: r, 0, b => rfl
  | s :: r, a + 1, b => by simp [rmvP, rmvP_length r a b]
theorem rmvP_get : ∀ (ss : List Sc) (a b i : Nat), (rmvP ss a b)[i]? = (ss[i]?).map fun s => if i = a then rmvSc b s else s
  | [], a, b, i => by simp [rmvP]
  | s :: r, 0, b, 0 => by simp [rmvP]
  | s :: r, 0, b, i + 1 => by simp [rmvP]
  | s :: r, a + 1, b, 0 => by simp [rmvP]
  | s :: r, a + 1, b, i + 1 => by simp [rmvP, rmvP_get r a b i]
theorem rmvP_same {ss : List Sc} {a b : Nat} {s : Sc} (h : ss[a]? = some s) : (rmvP ss a b)[a]? = some (rmvSc b s) := by rw [rmvP_get, h]; simp
theorem rmvP_other {ss : List Sc} {a b i : Nat} (h : i ≠ a) : (rmvP ss a b)[i]? = ss[i]? := by
  rw [rmvP_get]
  cases ss[i]? <;> simp [h]
theorem mem_rmvP : ∀ {ss : List Sc} {a b : Nat} {t : Sc}, t ∈ rmvP ss a b → ∃ s ∈ ss, t.parent = s.parent ∧ t.items.Sublist s.items
  | s :: r, 0, b, t, h => by
    have h' : t ∈ rmvSc b s :: r := h
    rcases List.mem_cons.1 h' with rfl | h'
    · exact ⟨s, List.mem_cons_self, rfl, List.eraseIdx_sublist _ _⟩
    · exact ⟨t, List.mem_cons_of_mem _ h', rfl, List.Sublist.refl _⟩
  | s :: r, a + 1, b, t, h => by
    have h' : t ∈ s :: rmvP r a b := h
    rcases List.mem_cons.1 h' with rfl | h'
    · exact ⟨t, List.mem_cons_self, rfl, List.Sublist.refl _⟩
    · obtain ⟨u, h1, h2⟩ := mem_rmvP h'
      exact ⟨u, List.mem_cons_of_mem _ h1, h2⟩
theorem rmv_flat : ∀ (ss : List Sc) (a b i : Nat), (flat i (rmvP ss a b)).Sublist (flat i ss)
  | [], _, _, _ => List.Sublist.refl _
  | _ :: _, 0, _, _ => List.Sublist.append ((List.eraseIdx_sublist _ _).map _) (List.Sublist.refl _)
  | _ :: r, a + 1, b, i => List.Sublist.append (List.Sublist.refl _) (rmv_flat r a b (i + 1))
theorem rmv_parent (ss : List Sc) (a b i : Nat) : (rmvP ss a b)[i]?.map Sc.parent = ss[i]?.map Sc.parent := by
  rw [rmvP_get]
  cases ss[i]? with
  | none => rfl
  | some s => by_cases h : i = a <;> simp [h, rmvSc]
theorem rmv_modB (ss : List Sc) (a b i : Nat) (x : It) : modB (rmvP ss a b) i x = modB ss i x := by
  unfold modB
  rw [rmvP_length, rmv_parent]
theorem Valid.rmv {ss : List Sc} (h : Valid ss) (a b : Nat) : Valid (rmvP ss a b) where
  count := by rw [rmvP_length]; exact h.count
  scopes := fun i t ht => by
    rw [rmvP_get] at ht
    cases hs : ss[i]? with
    | none => rw [hs] at ht; cases ht
    | some s =>
      rw [hs] at ht
      have h1 := h.scopes i s hs
      simp only [Option.map_some, Option.some.injEq] at ht
      subst ht
      by_cases hi : i = a
      · rw [if_pos hi]
        unfold scopeB at h1 ⊢
        simp only [Bool.and_eq_true, decide_eq_true_eq] at h1 ⊢
        exact ⟨Nat.le_trans (List.eraseIdx_sublist s.items b).length_le h1.1, h1.2⟩
      · rw [if_neg hi]; exact h1
  items := ⟨fun q hq => by
      have h1 := h.items.1 q ((rmv_flat ss a b 0).subset hq)
      rw [rmv_modB]
      exact h1, by
      have h2 := h.items.2
      unfold modsOf at h2 ⊢
      exact List.Sublist.nodup (((rmv_flat ss a b 0).map _).filter _ |>.map _) h2⟩
theorem Fair.rmv {ss : List Sc} (h : Fair ss) (a b : Nat) : Fair (rmvP ss a b) where
  count := by rw [rmvP_length]; exact h.count
  items := fun t ht => by
    obtain ⟨s, hs, _, h2⟩ := mem_rmvP ht
    exact Nat.le_trans h2.length_le (h.items s hs)
  fits := ⟨by rw [rmvP_length]; exact h.fits.1, fun t ht => by
    obtain ⟨s, hs, _, h2⟩ := mem_rmvP ht
    have h3 := h.fits.2 s hs
    exact ⟨Nat.le_trans h2.length_le h3.1, fun x hx => h3.2 x (h2.subset hx)⟩⟩
  nums := by
    intro t ht
    obtain ⟨s, hs, h1, h2⟩ := mem_rmvP ht
    have h3 := h.nums s hs
    exact ⟨by rw [h1]; exact h3.1, fun x hx => h3.2 x (h2.subset hx)⟩
end Go.Proofs.YtjogfagjcpcihaaDoor
namespace Go.Proofs.YtjogfagjcpcihaaDoor
open Go Go.RowKit
def addSc (x : It) (s : Sc) : Sc := ⟨s.parent, s.items ++ [x]⟩
/-- The graph with an item behind those of the scope a. -/
def addP : List Sc → Nat → It → List Sc
  | [], _, _ => []
  | s :: r, 0, x => addSc x s :: r
  | s :: r, a + 1, x => s :: addP r a x
theorem addP_length : ∀ (ss : List Sc) (a : Nat) (x : It), (addP ss a x).length = ss.length
  | [], _, _ => rfl
  | s :: r, 0, x => rfl
  | s :: r, a + 1, x => by simp [addP, addP_length r a x]
theorem addP_get : ∀ (ss : List Sc) (a : Nat) (x : It) (i : Nat), (addP ss a x)[i]? = (ss[i]?).map fun s => if i = a then addSc x s else s
  | [], a, x, i => by simp [addP]
  | s :: r, 0, x, 0 => by simp [addP]
  | s :: r, 0, x, i + 1 => by simp [addP]
  | s :: r, a + 1, x, 0 => by simp [addP]
  | s :: r, a + 1, x, i + 1 => by simp [addP, addP_get r a x i]
theorem addP_same {ss : List Sc} {a : Nat} {x : It} {s : Sc} (h : ss[a]? = some s) : (addP ss a x)[a]? = some (addSc x s) := by rw [addP_get, h]; simp
theorem addP_other {ss : List Sc} {a i : Nat} {x : It} (h : i ≠ a) : (addP ss a x)[i]? = ss[i]? := by
  rw [addP_get]
  cases ss[i]? <;> simp [h]
theorem mem_addP : ∀ {ss : List Sc} {a : Nat} {x : It} {t : Sc}, t ∈ addP ss a x → t ∈ ss ∨ ∃ s, ss[a]? = some s ∧ t = addSc x s
  | s :: r, 0, x, t, h => by
    have h' : t ∈ addSc x s :: r := h
    rcases List.mem_cons.1 h' with rfl | h'
    · exact .inr ⟨s, rfl, rfl⟩
    · exact .inl (List.mem_cons_of_mem _ h')
  | s :: r, a + 1, x, t, h => by
    have h' : t ∈ s :: addP r a x := h
    rcases List.mem_cons.1 h' with rfl | h'
    · exact .inl List.mem_cons_self
    · rcases mem_addP h' with h2 | ⟨u, h1, h2⟩
      · exact .inl (List.mem_cons_of_mem _ h2)
      · exact .inr ⟨u, h1, h2⟩
/-- Where the new item stands among all. -/
theorem add_flat : ∀ (ss : List Sc) (a : Nat) (x : It) (i : Nat), a < ss.length → ∃ l r, flat i ss = l ++ r ∧ flat i (addP ss a x) = l ++ (i + a, x) :: r
  | [], _, _, _, h => absurd h (Nat.not_lt_zero _)
  | s :: r, 0, x, i, _ => ⟨s.items.map (fun y => (i, y)), flat (i + 1) r, rfl, by simp [addP, flat, addSc]⟩
  | s :: r, a + 1, x, i, h => by
    obtain ⟨l, q, h1, h2⟩ := add_flat r a x (i + 1) (by simpa using h)
    refine ⟨s.items.map (fun y => (i, y)) ++ l, q, ?_, ?_⟩
    · show s.items.map (fun y => (i, y)) ++ flat (i + 1) r = _
      rw [h1, List.append_assoc]
    · show s.items.map (fun y => (i, y)) ++ flat (i + 1) (addP r a x) = _
      rw [h2, List.append_assoc, show i + 1 + a = i + (a + 1) by omega]
theorem add_parent (ss : List Sc) (a : Nat) (x : It) (i : Nat) : (addP ss a x)[i]?.map Sc.parent = ss[i]?.map Sc.parent := by
  rw [addP_get]
  cases ss[i]? with
  | none => rfl
  | some s => by_cases h : i = a <;> simp [h, addSc]
theorem add_modB (ss : List Sc) (a : Nat) (y : It) (i : Nat) (x : It) : modB (addP ss a y) i x = modB ss i x := by
  unfold modB
  rw [addP_length, add_parent]
theorem Valid.add {ss : List Sc} (h : Valid ss) {a : Nat} {s : Sc} {x : It} (hs : ss[a]? = some s) (hl : s.items.length < 5) (hx : itemB x = true) (hm : x.scope = -1) : Valid (addP ss a x) where
  count := by rw [addP_length]; exact h.count
  scopes := fun i t ht => by
    rw [addP_get] at ht
    cases hs2 : ss[i]? with
    | none => rw [hs2] at ht; cases ht
    | some u =>
      rw [hs2] at ht
      have h1 := h.scopes i u hs2
      simp only [Option.map_some, Option.some.injEq] at ht
      subst ht
      by_cases hi : i = a
      · subst hi
        rw [hs] at hs2
        obtain rfl := Option.some.inj hs2
        rw [if_pos rfl]
        unfold scopeB at h1 ⊢
        simp only [Bool.and_eq_true, decide_eq_true_eq] at h1 ⊢
        exact ⟨by simp [addSc]; omega, h1.2⟩
      · rw [if_neg hi]; exact h1
  items := by
    obtain ⟨l, r, h1, h2⟩ := add_flat ss a x 0 (List.getElem?_eq_some_iff.1 hs).1
    have h3 := h.items
    rw [h1] at h3
    rw [h2]
    refine ⟨fun q hq => ?_, ?_⟩
    · rw [add_modB]
      rcases List.mem_append.1 hq with hq | hq
      · exact h3.1 q (List.mem_append_left _ hq)
      · rcases List.mem_cons.1 hq with rfl | hq
        · exact ⟨hx, by simp [modB, hm]⟩
        · exact h3.1 q (List.mem_append_right _ hq)
    · have h4 := h3.2
      rw [List.map_append, modsOf_append] at h4 ⊢
      rw [List.map_cons, show x :: r.map Prod.snd = [x] ++ r.map Prod.snd from rfl, modsOf_append, modsOf_one, if_pos hm]
      exact h4
/-- A valid graph is fair where its numbers are. -/
theorem Fair.add {ss : List Sc} (h : Fair ss) {a : Nat} {s : Sc} {x : It} (hs : ss[a]? = some s) (hl : s.items.length < 5) (hn : x.name.size ≤ 2 ^ 63 - 1) (hk : Sg.I64 x.kind ∧ Sg.I64 x.scope) : Fair (addP ss a x) where
  count := by rw [addP_length]; exact h.count
  items := fun t ht => by
    rcases mem_addP ht with h1 | ⟨u, h1, rfl⟩
    · exact h.items t h1
    · rw [hs] at h1
      obtain rfl := Option.some.inj h1
      simp [addSc]; omega
  fits := ⟨by rw [addP_length]; exact h.fits.1, fun t ht => by
    rcases mem_addP ht with h1 | ⟨u, h1, rfl⟩
    · exact h.fits.2 t h1
    · rw [hs] at h1
      obtain rfl := Option.some.inj h1
      have h3 := h.fits.2 s (List.mem_of_getElem? hs)
      refine ⟨by simp [addSc]; omega, fun y hy => ?_⟩
      rcases List.mem_append.1 (show y ∈ s.items ++ [x] from hy) with hy | hy
      · exact h3.2 y hy
      · obtain rfl := List.mem_singleton.1 hy
        exact hn⟩
  nums := fun t ht => by
    rcases mem_addP ht with h1 | ⟨u, h1, rfl⟩
    · exact h.nums t h1
    · rw [hs] at h1
      obtain rfl := Option.some.inj h1
      have h3 := h.nums s (List.mem_of_getElem? hs)
      refine ⟨h3.1, fun y hy => ?_⟩
      rcases List.mem_append.1 (show y ∈ s.items ++ [x] from hy) with hy | hy
      · exact h3.2 y hy
      · obtain rfl := List.mem_singleton.1 hy
        exact hk
end Go.Proofs.YtjogfagjcpcihaaDoor
namespace Go.Proofs.YtjogfagjcpcihaaDoor
open Go Go.RowKit
end Go.Proofs.YtjogfagjcpcihaaDoor
namespace Go.Proofs.YtjogfagjcpcihaaDoor
open Go Go.RowKit
theorem itemCells_cons (x : It) (r : List It) : itemCells (x :: r) = .int .i64 x.kind :: .string x.name :: .int .i64 x.scope :: itemCells r := rfl
theorem itemCells_take : ∀ (xs : List It) (b : Nat), itemCells (xs.take b) = (itemCells xs).take (b * 3)
  | [], b => by simp [itemCells]
  | x :: r, 0 => by simp [itemCells]
  | x :: r, b + 1 => by
    have h := itemCells_take r b
    rw [show (b + 1) * 3 = b * 3 + 1 + 1 + 1 by omega, List.take_succ_cons, itemCells_cons, itemCells_cons, List.take_succ_cons, List.take_succ_cons, List.take_succ_cons, h]
theorem itemCells_drop : ∀ (xs : List It) (b : Nat), itemCells (xs.drop b) = (itemCells xs).drop (b * 3)
  | [], b => by simp [itemCells]
  | x :: r, 0 => by simp
  | x :: r, b + 1 => by
    have h := itemCells_drop r b
    rw [show (b + 1) * 3 = b * 3 + 1 + 1 + 1 by omega, List.drop_succ_cons, itemCells_cons, List.drop_succ_cons, List.drop_succ_cons, List.drop_succ_cons, h]
theorem itemCells_append (xs ys : List It) : itemCells (xs ++ ys) = itemCells xs ++ itemCells ys := by simp [itemCells]
theorem itemCells_one (xs : List It) : ∀ u ∈ itemCells xs, u.oneCell' = true := by
  intro u hu
  unfold itemCells at hu
  obtain ⟨x, _, hx⟩ := List.mem_flatMap.1 hu
  simp only [List.mem_cons, List.not_mem_nil, or_false] at hx
  rcases hx with rfl | rfl | rfl <;> rfl
theorem itemCells_erase (xs : List It) (b : Nat) : itemCells (xs.eraseIdx b) = (itemCells xs).take (b * 3) ++ (itemCells xs).drop ((b + 1) * 3) := by
  rw [List.eraseIdx_eq_take_drop_succ, itemCells_append, itemCells_take, itemCells_drop]
end Go.Proofs.YtjogfagjcpcihaaDoor
namespace Go.Proofs.YtjogfagjcpcihaaDoor
open Go Go.RowKit
theorem scRow_rmv : ∀ {ss : List Sc} {hs : List Value} (i j : Nat) (u : Value), hs.length = ss.length → i < ss.length → scRow (rmvP ss i j) (hs.set i u) = (scRow ss hs).set (i * 2 + 1) u
  | [], _, i, _, _, _, h => absurd h (Nat.not_lt_zero i)
  | s :: r, v :: q, 0, j, u, _, _ => rfl
  | s :: r, v :: q, i + 1, j, u, h, hi => by
    have h1 := scRow_rmv (ss := r) (hs := q) i j u (by simpa using h) (by simpa using hi)
    rw [show (i + 1) * 2 + 1 = i * 2 + 1 + 1 + 1 by omega]
    show Value.int .i64 s.parent :: v :: scRow (rmvP r i j) (q.set i u) = _
    rw [h1]
    rfl
theorem ownsRow_row {w : World} {B g n cap size : Nat} {e : TypeId} {xs : List Value} (h : w.ownsRow B e size (.slice (some ⟨g, 0, none⟩) n cap) n xs) : ∃ vs, Row w g e vs := by
  obtain ⟨_, h2 | ⟨g', c, cur, hv, _, hh, _⟩⟩ := h
  · have := h2.1
    simp at this
  · simp only [Value.slice.injEq, Option.some.injEq, Addr.mk.injEq] at hv
    obtain ⟨⟨rfl, -, -⟩, -, -⟩ := hv
    exact ⟨cur.toList, by unfold Row; rw [hh]⟩
/-- A graph of the call's own, when the items of one scope have turned where they lay. -/
theorem OwnGr.rmv {w w1 : World} {B g cap i j : Nat} {ss : List Sc} {hs : List Value} {s : Sc} {u u' : Value} (h : OwnGr w B (.slice (some ⟨g, 0, none⟩) ss.length cap) ss hs) (hs' : ss[i]? = some s) (hu : hs[i]? = some u)
    (hg : w.grownBy w1 u.ownBlock) (hb : u'.ownBlock = u.ownBlock) (hown : w1.ownsRow B 42 3 u' (s.items.eraseIdx j).length (itemCells (s.items.eraseIdx j))) :
    OwnGr (w1.setCell ⟨g, i * 2 + 1, none⟩ u') B (.slice (some ⟨g, 0, none⟩) ss.length cap) (rmvP ss i j) (hs.set i u') := by
  have hil := (List.getElem?_eq_some_iff.1 hs').1
  have hrow1 := ownsRow_apart h.row hg (owns_types_apart h.row (h.items i s u hs' hu) (by decide))
  obtain ⟨vs, hR⟩ := ownsRow_row hrow1
  have hat : ∀ (k : Nat) (z : Value), (hs.set i u')[k]? = some z → (k = i ∧ z = u') ∨ (k ≠ i ∧ hs[k]? = some z) := fun k z hz => by
    by_cases hk : k = i
    · subst hk
      rw [List.getElem?_set_self (List.getElem?_eq_some_iff.1 hu).1] at hz
      exact .inl ⟨rfl, (Option.some.inj hz).symm⟩
    · rw [List.getElem?_set_ne (fun e => hk e.symm)] at hz
      exact .inr ⟨hk, hz⟩
  refine ⟨by rw [List.length_set, rmvP_length]; exact h.len, ?_, fun k t z ht hz => ?_, fun a b z z' hab hz hz' => ?_⟩
  · rw [rmvP_length, scRow_rmv i j u' h.len hil]
    exact ownsRow_set hrow1 (by rw [scRow_length h.len]; omega) u'
  · rcases hat k z hz with ⟨rfl, rfl⟩ | ⟨hk, hz2⟩
    · rw [rmvP_same hs'] at ht
      obtain rfl := Option.some.inj ht
      exact ownsRow_otherN hown hR (by decide) _ _
    · rw [rmvP_other hk] at ht
      exact ownsRow_otherN (ownsRow_apart (h.items k t z ht hz2) hg (h.apart k i z u hk hz2 hu)) hR (by decide) _ _
  · rcases hat a z hz with ⟨rfl, rfl⟩ | ⟨ha, hz2⟩ <;> rcases hat b z' hz' with ⟨rfl, rfl⟩ | ⟨hb2, hz3⟩
    · exact absurd rfl hab
    · rw [hb]; exact h.apart a b u z' hab hu hz3
    · rw [hb]; exact h.apart a b z u hab hz2 hu
    · exact h.apart a b z z' hab hz2 hz3
theorem cell_grownBy {w w' : World} {r : Option Nat} {b o : Nat} {v : Value} (hg : w.grownBy w' r) (hne : some b ≠ r) (h : w.cell? ⟨b, o, none⟩ = some v) : w'.cell? ⟨b, o, none⟩ = some v := hg.cell h hne
/-- What is known of a graph in a box. -/
structure GrIn (w : World) (B g gs cs : Nat) (us : List Sc) (hs : List Value) : Prop where
  row : Row w g 25 [.slice (some ⟨gs, 0, none⟩) us.length cs]
  own : OwnGr w B (.slice (some ⟨gs, 0, none⟩) us.length cs) us hs
theorem GrIn.slot {w : World} {B g gs cs : Nat} {us : List Sc} {hs : List Value} (h : GrIn w B g gs cs us hs) {i : Nat} {s : Sc} (hs' : us[i]? = some s) :
    ∃ u, hs[i]? = some u ∧ B ≤ gs ∧ gs < w.heap.size ∧ w.cell? ⟨gs, i * 2 + 1, none⟩ = some u ∧ w.ownsRow B 42 3 u s.items.length (itemCells s.items) := by
  have hil := (List.getElem?_eq_some_iff.1 hs').1
  obtain ⟨u, hu⟩ : ∃ u, hs[i]? = some u := ⟨_, List.getElem?_eq_getElem (by rw [h.own.len]; exact hil)⟩
  have h1 := h.own.row
  have h3 := h1.cells (g := gs) rfl _ _ (scRow_at hs' hu).2
  rw [Addr.add_lit, Nat.zero_add] at h3
  exact ⟨u, hu, (h1.lt gs rfl).1, (h1.lt gs rfl).2, h3, h.own.items i s u hs' hu⟩
theorem GrIn.apartI {w : World} {B g gs cs : Nat} {us : List Sc} {hs : List Value} (h : GrIn w B g gs cs us hs) {i : Nat} {s : Sc} {u : Value} (hs' : us[i]? = some s) (hu : hs[i]? = some u) : some gs ≠ u.ownBlock := by
  have h1 := h.own.row
  have h2 := h.own.items i s u hs' hu
  rcases owns_types_apart h1 h2 (by decide) with h | h
  · simp [Value.ownBlock] at h
  · exact h
theorem GrIn.apartG {w : World} {B g gs cs : Nat} {us : List Sc} {hs : List Value} (h : GrIn w B g gs cs us hs) : gs ≠ g := by
  obtain ⟨vs, h1⟩ := ownsRow_row h.own.row
  rintro rfl
  have h2 := h.row
  unfold Row at h1 h2
  rw [h1] at h2
  simp at h2
theorem GrIn.apartB {w : World} {B g gs cs : Nat} {us : List Sc} {hs : List Value} (h : GrIn w B g gs cs us hs) {i : Nat} {s : Sc} {u : Value} (hs' : us[i]? = some s) (hu : hs[i]? = some u) : some g ≠ u.ownBlock := by
  obtain ⟨_, h2 | ⟨g', c, cur, hv, hB, hh, _⟩⟩ := h.own.items i s u hs' hu
  · rw [h2.1]; simp [Value.ownBlock]
  · rw [hv]
    intro e
    simp only [Value.ownBlock, Option.some.injEq] at e
    subst e
    have h3 := h.row
    unfold Row at h3
    rw [hh] at h3
    simp at h3
theorem GrIn.below {w w' : World} {B g gs cs : Nat} {us : List Sc} {hs : List Value} (h : GrIn w B g gs cs us hs) (hb : Below w.heap.size w w') : GrIn w' B g gs cs us hs := ⟨h.row.below hb h.row.lt, h.own.below hb⟩
end Go.Proofs.YtjogfagjcpcihaaDoor
namespace Go.Proofs.YtjogfagjcpcihaaDoor
open Go Go.RowKit
theorem wpIn_append_run {P : Program} {F : Fence} {n : Nat} {w : World} {o : Oper} {a : Act} {K : Act → World → Prop} {Q : Exit → Act → World → Prop} (s x : Operand) (t : TypeId)
    (ho : o.op = .call { callee := .builtin .append, args := #[s, x], argTypes := #[t, t] }) (hab : o.about P w a.eval = none) {v' : Value} {w' : World} (hr : (Builtin.append_ #[t, t] o.type #[a.eval s, a.eval x]).run P w = .ok v' w')
    (h : K (a.put o.dst v') w') : o.wpIn F n P a w K Q := by
  refine ⟨fun f hf => (by rw [hab] at hf; cases hf), ?_⟩
  rw [Oper.semAt_eq _ _ _ (fun c => by rw [ho]; exact fun h => by cases h)]
  unfold execOp
  simp only [ho, resolve, invoke, builtin, Sem.run_bind, Sem.run_pure, Result.andThen_ok, List.map_toArray, List.map_cons, List.map_nil, hr]
  exact h
theorem ownsRow_ne2' {w : World} {base n size : Nat} {e : TypeId} {v : Value} {xs : List Value} (h : w.ownsRow base e size v n xs) (g : Nat) (hg : w.heap.size ≤ g) (e' : some g = v.ownBlock) : False := by
  have := (h.lt g e'.symm).2
  omega
theorem append_scope0 {W : World} {base k : Nat} {v : Value} {xs : List Value} (hrow : W.ownsRow base 40 2 v k xs) (x : Int) (u : Value) (hu : u.oneCell' = true) (hk : k < 2000000) (hbase : base ≤ W.heap.size) (ty : TypeId) :
    ∃ v' w', (Builtin.append_ #[23, 23] ty #[v, .slice (some ⟨W.heap.size, 0, none⟩) 1 1]).run Tryd.prog (W.alloc (.cells #[.int .i64 x, u] 40)) = .ok v' w' ∧ w'.ownsRow base 40 2 v' (k + 1) (xs ++ [.int .i64 x, u]) ∧ (W.alloc (.cells #[.int .i64 x, u] 40)).grownBy w' v.ownBlock := by
  obtain ⟨i0, hi, hz0, hz1, hz2⟩ := info_parts infoScope
  obtain ⟨v', w', hrun, h2, h3, _⟩ := run_append_own (P := Tryd.prog) (W.alloc (.cells #[.int .i64 x, u] 40)) base 23 ty 40 i0 _ 2 32 Tryd.underlying23 hi hz0 hz1 hz2 rfl (by decide) v k xs (hrow.alloc _) ⟨W.heap.size, 0, none⟩ 1 1 [.int .i64 x, u] rfl (cells_new2 W _ _ _)
    (by intro z hz; simp only [List.mem_cons, List.not_mem_nil, or_false] at hz; rcases hz with rfl | rfl <;> first | rfl | exact hu) (by unfold maxLen; omega) (by omega) (by show base ≤ (W.alloc _).heap.size; simp; omega)
  exact ⟨v', w', hrun, h2, h3⟩
end Go.Proofs.YtjogfagjcpcihaaDoor
namespace Go.Proofs.YtjogfagjcpcihaaDoor
open Go Go.RowKit
theorem scRow_put : ∀ {ss tt : List Sc} {hs : List Value} (i : Nat) (u : Value), hs.length = ss.length → tt.length = ss.length → (∀ k : Nat, (tt[k]?).map Sc.parent = (ss[k]?).map Sc.parent) → i < ss.length → scRow tt (hs.set i u) = (scRow ss hs).set (i * 2 + 1) u
  | [], _, _, i, _, _, _, _, h => absurd h (Nat.not_lt_zero i)
  | s :: r, [], _, _, _, _, h, _, _ => by simp at h
  | s :: r, t :: q, [], _, _, h, _, _, _ => by simp at h
  | s :: r, t :: q, v :: k, 0, u, h1, h2, h3, _ => by
    have h4 := h3 0
    simp at h4
    have h5 : ∀ {ss tt : List Sc} (hs : List Value), tt.length = ss.length → (∀ k : Nat, (tt[k]?).map Sc.parent = (ss[k]?).map Sc.parent) → scRow tt hs = scRow ss hs := by
      intro ss
      induction ss with
      | nil => intro tt hs h _; cases tt <;> simp at h; rfl
      | cons a l ih =>
        intro tt hs h hp
        cases tt with
        | nil => simp at h
        | cons b m =>
          cases hs with
          | nil => rfl
          | cons z o =>
            have e := hp 0
            simp at e
            show .int .i64 b.parent :: z :: scRow m o = .int .i64 a.parent :: z :: scRow l o
            rw [e, ih o (by simpa using h) (fun k => hp (k + 1))]
    show .int .i64 t.parent :: u :: scRow q k = .int .i64 s.parent :: u :: scRow r k
    rw [h4, h5 k (by simpa using h2) (fun j => h3 (j + 1))]
  | s :: r, t :: q, v :: k, i + 1, u, h1, h2, h3, hi => by
    have h4 := h3 0
    simp at h4
    have h5 := scRow_put (ss := r) (tt := q) (hs := k) i u (by simpa using h1) (by simpa using h2) (fun j => h3 (j + 1)) (by simpa using hi)
    rw [show (i + 1) * 2 + 1 = i * 2 + 1 + 1 + 1 by omega]
    show Value.int .i64 t.parent :: v :: scRow q (k.set i u) = _
    rw [h5, h4]
    rfl
/-- A graph of the call's own, when the items of one scope have turned in their row or lie in a new one. -/
theorem OwnGr.edit {w w1 : World} {B g cap i : Nat} {ss tt : List Sc} {hs : List Value} {s t : Sc} {u u' : Value} (h : OwnGr w B (.slice (some ⟨g, 0, none⟩) ss.length cap) ss hs) (hs' : ss[i]? = some s) (hu : hs[i]? = some u)
    (hg : w.grownBy w1 u.ownBlock) (hb : ∀ q, u'.ownBlock = some q → u.ownBlock = some q ∨ w.heap.size ≤ q) (hown : w1.ownsRow B 42 3 u' t.items.length (itemCells t.items))
    (hl : tt.length = ss.length) (hp : ∀ k : Nat, (tt[k]?).map Sc.parent = (ss[k]?).map Sc.parent) (ht : tt[i]? = some t) (hoth : ∀ k, k ≠ i → tt[k]? = ss[k]?) :
    OwnGr (w1.setCell ⟨g, i * 2 + 1, none⟩ u') B (.slice (some ⟨g, 0, none⟩) ss.length cap) tt (hs.set i u') := by
  have hil := (List.getElem?_eq_some_iff.1 hs').1
  have hrow1 := ownsRow_apart h.row hg (owns_types_apart h.row (h.items i s u hs' hu) (by decide))
  obtain ⟨vs, hR⟩ := ownsRow_row hrow1
  have hat : ∀ (k : Nat) (z : Value), (hs.set i u')[k]? = some z → (k = i ∧ z = u') ∨ (k ≠ i ∧ hs[k]? = some z) := fun k z hz => by
    by_cases hk : k = i
    · subst hk
      rw [List.getElem?_set_self (List.getElem?_eq_some_iff.1 hu).1] at hz
      exact .inl ⟨rfl, (Option.some.inj hz).symm⟩
    · rw [List.getElem?_set_ne (fun e => hk e.symm)] at hz
      exact .inr ⟨hk, hz⟩
  have old : ∀ (k : Nat) (z : Value), hs[k]? = some z → ∀ q, z.ownBlock = some q → q < w.heap.size := fun k z hz q hq => by
    obtain ⟨t, ht⟩ : ∃ t, ss[k]? = some t := ⟨_, List.getElem?_eq_getElem (by rw [← h.len]; exact (List.getElem?_eq_some_iff.1 hz).1)⟩
    exact ((h.items k t z ht hz).lt q hq).2
  have far : ∀ (k : Nat) (z : Value), k ≠ i → hs[k]? = some z → ∀ q, z.ownBlock = some q → u'.ownBlock = some q → False := fun k z hk hz q h1 h2 => by
    rcases hb q h2 with h3 | h3
    · rcases h.apart k i z u hk hz hu with h4 | h4
      · rw [h4] at h1; cases h1
      · exact h4 (h1.trans h3.symm)
    · have := old k z hz q h1; omega
  refine ⟨by rw [List.length_set, hl]; exact h.len, ?_, fun k t' z ht' hz => ?_, fun a b z z' hab hz hz' => ?_⟩
  · rw [hl, scRow_put i u' h.len hl hp hil]
    exact ownsRow_set hrow1 (by rw [scRow_length h.len]; omega) u'
  · rcases hat k z hz with ⟨rfl, rfl⟩ | ⟨hk, hz2⟩
    · rw [ht] at ht'
      obtain rfl := Option.some.inj ht'
      exact ownsRow_otherN hown hR (by decide) _ _
    · rw [hoth k hk] at ht'
      exact ownsRow_otherN (ownsRow_apart (h.items k t' z ht' hz2) hg (h.apart k i z u hk hz2 hu)) hR (by decide) _ _
  · rcases hat a z hz with ⟨rfl, rfl⟩ | ⟨ha, hz2⟩ <;> rcases hat b z' hz' with ⟨rfl, rfl⟩ | ⟨hb2, hz3⟩
    · exact absurd rfl hab
    · cases hq : z.ownBlock with
      | none => exact .inl rfl
      | some q => exact .inr fun e => far b z' hb2 hz3 q e.symm hq
    · cases hq : z.ownBlock with
      | none => exact .inl rfl
      | some q => exact .inr fun e => far a z ha hz2 q hq e.symm
    · exact h.apart a b z z' hab hz2 hz3
/-- An item appended to a row of items. -/
theorem append_item_at {W : World} {base k : Nat} {v : Value} {xs : List Value} (hrow : W.ownsRow base 42 3 v k xs) (x : It) (hk : k < 1000000) (hbase : base ≤ W.heap.size) (ty : TypeId) :
    ∃ v' w', (Builtin.append_ #[38, 38] ty #[v, .slice (some ⟨W.heap.size, 0, none⟩) 1 1]).run Tryd.prog (W.alloc (.cells #[.int .i64 x.kind, .string x.name, .int .i64 x.scope] 42)) = .ok v' w' ∧ w'.ownsRow base 42 3 v' (k + 1) (xs ++ itemCells [x]) ∧
      (W.alloc (.cells #[.int .i64 x.kind, .string x.name, .int .i64 x.scope] 42)).grownBy w' v.ownBlock ∧ (v'.ownBlock = v.ownBlock ∨ v'.ownBlock = some (W.heap.size + 1)) := by
  obtain ⟨i0, hi, hz0, hz1, hz2⟩ := info_parts infoItem
  obtain ⟨v', w', hrun, h2, h3, _, h5⟩ := run_append_own_at (P := Tryd.prog) (W.alloc (.cells #[.int .i64 x.kind, .string x.name, .int .i64 x.scope] 42)) base 38 ty 42 i0 _ 3 32 Tryd.underlying38 hi hz0 hz1 hz2 rfl (by decide) v k xs (hrow.alloc _) ⟨W.heap.size, 0, none⟩ 1 1 (itemCells [x]) rfl (cells_new3 W _ _ _ _)
    (itemCells_one [x]) (by unfold maxLen; omega) (by omega) (by show base ≤ (W.alloc _).heap.size; simp; omega)
  exact ⟨v', w', hrun, h2, h3, by simpa using h5⟩
end Go.Proofs.YtjogfagjcpcihaaDoor
