/-
  A region that draws its order, in a fence with a round: it is enough to walk its orders in the fence without. Plain facts. A region that draws its order, outside of a round: walked with what its loads read kept; where several operations are ready, each of them. Plain facts. The walks of impl's slices.Clone at items, (Scope).clone and (Graph).clone, and of the given l6Copy: a copy of a graph, in memory of the call's own. Condition: the argument's memory holds the graph. A graph without an item: it is valid where the graph is. Plain facts. The walk of impl's slices.Delete at items, of one item: the row holds the others, in their order. Condition: the row is the call's own. Plain facts. The walks of impl's (Graph).without and RemoveItem. Conditions: the argument's memory holds the graph; the package-level errors hold errors. The walks of the given l6Copy, l6Remove, l6RawRemoveItem and RemoveItem. Condition: the argument's memory holds the graph. A graph with an item more behind those of one scope: it is valid where the graph is and the scope has room. Plain facts. A graph of the call's own when the items of one scope turn, and an item appended to a row of items. Plain facts.
-/
import Derived.BigRegionIn
import Derived.Lib.Hide
import Derived.Test.YtgehpaojbnpbcaaGreatDoorJAZ
import Derived.Test.YtgehpaojbnpbcaaGreatDoorJBZ
import Derived.Lib.SliceRun
import Derived.Test.YtgehpaojbnpbcaaGreatDoorWImplValidZ
namespace Go
theorem opIn_round {F : Fence} {n : Nat} {P : Program} {o : Oper} {a : Act} {w : World} {K : Act → World → Prop} {Q : Exit → Act → World → Prop} (l : Nat) (hd : ∀ c, o.op ≠ .defer c) (h : o.wpIn F n P a w K Q) : o.wpIn (F.inRound l) n P a w K Q := by
  unfold Oper.wpIn at *
  refine ⟨h.1, ?_⟩
  have h2 := h.2
  rw [Oper.semAt_eq _ _ _ hd] at h2 ⊢
  exact h2
theorem wpAnyIn_round {F : Fence} {n : Nat} {P : Program} {md : Region.Mode} {ops : Array Oper} {Q : Exit → Act → World → Prop} (l : Nat) (hd : ∀ (i : Nat) (o : Oper), ops[i]? = some o → ∀ c, o.op ≠ .defer c) :
    ∀ (fuel : Nat) (listed : Array Bool) (a : Act) (w : World), wpAnyIn F n P md ops Q fuel listed a w → wpAnyIn (F.inRound l) n P md ops Q fuel listed a w
  | 0, _, _, _, h => h
  | fuel + 1, listed, a, w, h => by
    refine ⟨h.1, fun i hi => ?_⟩
    have h2 := h.2 i hi
    unfold wpOpIn at h2 ⊢
    cases ho : ops[i]? with
    | none =>
      rw [ho] at h2
      exact wpAnyIn_round l hd fuel _ _ _ h2
    | some o =>
      rw [ho] at h2
      simp only at h2 ⊢
      split
      · rename_i hw
        rw [if_pos hw] at h2
        exact opIn_round l (hd i o ho) (Oper.wpIn_mono (fun a w h => wpAnyIn_round l hd fuel _ a w h) h2)
      · rename_i hw
        rw [if_neg hw] at h2
        exact ⟨h2.1, wpAnyIn_round l hd fuel _ _ _ h2.2⟩
theorem noDefer {ops : Array Oper} (h : (ops.toList.all fun o => match o.op with | .defer _ => false | _ => true) = true) : ∀ (i : Nat) (o : Oper), ops[i]? = some o → ∀ c, o.op ≠ .defer c := by
  intro i o ho c e
  have hm : o ∈ ops.toList := List.mem_of_getElem? (i := i) (by simpa using ho)
  have h2 := List.all_eq_true.1 h o hm
  rw [e] at h2
  cases h2
theorem wpIn_region_round {F : Fence} {n : Nat} {P : Program} {ops : Array Oper} {Q : Exit → Act → World → Prop} {id : Nat} {a : Act} {w : World} (l : Nat) (hm : P.follows .mixedOrders = true) (hd : (ops.toList.all fun o => match o.op with | .defer _ => false | _ => true) = true)
    (h : wpAnyIn F n P .any ops Q ops.size (Array.replicate ops.size false) a w.drew) : (Code.region id ops true).wpIn (F.inRound l) n P Q a w :=
  wpIn_region_any hm (wpAnyIn_round l (noDefer hd) _ _ _ _ h)
section held
variable {F : Fence} {n : Nat} {P : Program} {ops : Array Oper} {Q : Exit → Act → World → Prop} {md : Region.Mode} {S : World → Prop} {L : Nat}
/-- Whichever operation comes next, S holds behind it, but for number L. -/
def KeptAny (F : Fence) (n : Nat) (P : Program) (md : Region.Mode) (ops : Array Oper) (Q : Exit → Act → World → Prop) (S : World → Prop) (L : Nat) : Nat → Array Bool → Act → World → Prop
  | 0, l, a, w => wpAnyIn F n P md ops Q 0 l a w
  | k + 1, l, a, w => (Region.ready md ops l = [] → Q .normal a w) ∧ ∀ i ∈ Region.ready md ops l, wpOpIn F n P ops Q i (fun a' w' => (i = L ∨ S w') ∧ KeptAny F n P md ops Q S L k (l.setIfInBounds i true) a' w') a w
theorem KeptAny.any : ∀ (k : Nat) (l : Array Bool) (a : Act) (w : World), KeptAny F n P md ops Q S L k l a w → wpAnyIn F n P md ops Q k l a w
  | 0, _, _, _, h => h
  | k + 1, _, _, _, h => ⟨h.1, fun i hi => wpOpIn_mono (fun _ _ h' => KeptAny.any k _ _ _ h'.2) (h.2 i hi)⟩
/-- Where S holds, o yields v and does nothing else. -/
structure KeptYields (P : Program) (ops : Array Oper) (S : World → Prop) (o : Oper) (v : Value) (a : Act) : Prop where
  wanted : Region.wanted o (yielded ops a.tmps) = true
  run : ∀ w, S w → (execOp a.eval o).run P w = .ok (.value v) w
  calm : ∀ w, o.about P w a.eval = none
theorem KeptYields.now {i : Nat} {o : Oper} {v : Value} {a : Act} (hro : F.round = none) (hi : ops[i]? = some o) (hy : KeptYields P ops S o v a) {K : Act → World → Prop} {w : World} (hS : S w) (h : K (a.put o.dst v) w) : wpOpIn F n P ops Q i K a w := by
  unfold Go.wpOpIn
  simp only [hi, hy.wanted, if_true, Oper.wpIn, hro, Oper.semAt_none, hy.run w hS, Oper.uponIn]
  exact ⟨fun f hf => (by rw [hy.calm w] at hf; cases hf), h⟩
theorem KeptYields.like {o : Oper} {v : Value} {a b : Act} (hy : KeptYields P ops S o v a) (he : execOp b.eval o = execOp a.eval o) (hw : Region.wanted o (yielded ops b.tmps) = Region.wanted o (yielded ops a.tmps)) (hb : ∀ w, o.about P w b.eval = o.about P w a.eval) : KeptYields P ops S o v b :=
  ⟨hw.trans hy.wanted, fun w hS => by rw [he]; exact hy.run w hS, fun w => (hb w).trans (hy.calm w)⟩
/-- An operation that is apart from one whose value is laid already. -/
theorem keptSwap {j : Nat} {oi oj : Oper} {v : Value} (hro : F.round = none) (hj : ops[j]? = some oj) (hap : oi.apart ops oj = true) (hsj : ∀ cs b, oj.op ≠ .select cs b)
    (hQ : ∀ c a w, Q (.panic c) (a.put oi.dst v) w → Q (.panic c) a w) {Y : Act → Prop} (hput : ∀ b, Y b → ∀ u, Y (b.put oj.dst u)) (hdef : ∀ b, Y b → ∀ d, Y { b with defers := d :: b.defers }) {K : Act → World → Prop} {a : Act} {w : World} (hy : Y a)
    (h : wpOpIn F n P ops Q j K (a.put oi.dst v) w) : wpOpIn F n P ops Q j (fun b w' => Y b ∧ K (b.put oi.dst v) w') a w := by
  obtain ⟨h1, h2, h3⟩ := Oper.apart_spec hap
  have flip : ∀ (b : Act) (u : Value) (w' : World), K ((b.put oi.dst v).put oj.dst u) w' → K ((b.put oj.dst u).put oi.dst v) w' := fun b u w' hk => by rw [← Act.put_comm b v u h2]; exact hk
  unfold wpOpIn at h ⊢
  rw [hj] at h ⊢
  simp only at h ⊢
  rw [wanted_put oj a oi.dst v h1, about_put oj w a oi.dst v h1] at h
  by_cases hw : Region.wanted oj (yielded ops a.tmps) = true
  · rw [if_pos hw] at h ⊢
    unfold Oper.wpIn at h ⊢
    rw [about_put oj w a oi.dst v h1, hro, Oper.semAt_none, execOp_put oj hsj a oi.dst v h1] at h
    rw [hro, Oper.semAt_none]
    refine ⟨h.1, ?_⟩
    replace h := h.2
    revert h
    generalize (execOp a.eval oj).run P w = r
    cases r with
    | halt x w' => cases x <;> simp only [Oper.uponIn] <;> intro h <;> first | exact h | exact hQ _ _ _ h
    | ok x w' =>
      cases x with
      | value u => exact fun h => ⟨hput a hy u, flip a u w' h⟩
      | skip => exact fun h => ⟨hput a hy undef, flip a undef w' h⟩
      | defer d =>
        refine fun h => ⟨hput _ (hdef a hy d) undef, ?_⟩
        rw [← Act.put_comm _ v undef h2, ← Act.put_defers]
        exact h
      | enter f args =>
        refine fun h => ⟨h.1, CallsIn.mono h.2 fun e w'' he => ?_⟩
        cases e with
        | returned u => exact ⟨hput a hy u, flip a u w'' he⟩
        | panicked c => exact hQ _ _ _ he
        | outgrown => exact he
      | row r args => exact fun h => ⟨h.1, RowsIn.mono h.2 fun u w'' he => ⟨hput a hy u, flip a u w'' he⟩⟩
      | round l f tmps assign body =>
        refine fun h => ⟨h.1, RoundIn.mono h.2 fun e w'' he => ?_⟩
        cases e with
        | returned u => exact ⟨hput a hy u, flip a u w'' he⟩
        | panicked c => exact hQ _ _ _ he
        | outgrown => exact he
      | _ => intro h; simp only [Oper.uponIn] at h
  · rw [if_neg hw] at h ⊢
    exact ⟨h.1, hput a hy undef, flip a undef w h.2⟩
/-- Number L, if there is one, waits for number i. -/
def waitsFor (md : Region.Mode) (ops : Array Oper) (L i : Nat) : Bool := match ops[L]? with
  | none => true
  | some o => o.after.any fun e => Region.binds md e && e.on == i
theorem KeptAny.first {i : Nat} {oi : Oper} {v : Value} (hL : waitsFor md ops L i = true) (hro : F.round = none) (hi : ops[i]? = some oi) (hsel : ∀ (j : Nat) (o : Oper) cs b, ops[j]? = some o → o.op ≠ .select cs b) (hQ : ∀ c a w, Q (.panic c) (a.put oi.dst v) w → Q (.panic c) a w) :
    ∀ (k : Nat) (l : Array Bool) (a : Act) (w : World), (∀ j oj, ops[j]? = some oj → j ≠ i → l.getD j true = false → (∀ e ∈ oj.after, Region.binds md e = true → e.on ≠ i) → oi.apart ops oj = true) →
      i ∈ Region.ready md ops l → KeptYields P ops S oi v a → S w → KeptAny F n P md ops Q S L k (l.setIfInBounds i true) (a.put oi.dst v) w → KeptAny F n P md ops Q S L (k + 1) l a w := by
  intro k
  induction k with
  | zero =>
    intro l a w _ hr hy hS H
    refine ⟨fun h => (by rw [h] at hr; cases hr), fun j hj => ?_⟩
    by_cases hji : j = i
    · subst hji
      exact hy.now hro hi hS ⟨.inr hS, H⟩
    · have h0 := ready_mono hj hji
      rw [H.1] at h0
      cases h0
  | succ k ih =>
    intro l a w hfree hr hy hS H
    refine ⟨fun h => (by rw [h] at hr; cases hr), fun j hj => ?_⟩
    by_cases hji : j = i
    · subst hji
      exact hy.now hro hi hS ⟨.inr hS, H⟩
    · obtain ⟨hjun, oj, hoj, hall⟩ := mem_ready.1 hj
      have hnot : ∀ e ∈ oj.after, Region.binds md e = true → e.on ≠ i := fun e he hb heq => by
        have g1 := hall e he hb
        have g0 := (mem_ready.1 hr).1
        rw [heq] at g1
        by_cases h' : i < l.size
        · simp [h'] at g0 g1
          rw [g0] at g1
          cases g1
        · simp [Array.getElem?_eq_none (Nat.le_of_not_lt h')] at g1
      have hap := hfree j oj hoj hji hjun hnot
      obtain ⟨h1, h2, h3⟩ := Oper.apart_spec hap
      have hsw := keptSwap (Y := KeptYields P ops S oi v) hro hoj hap (fun cs b => hsel j oj cs b hoj) hQ
        (fun b hb u => hb.like (execOp_put oi (fun cs c => hsel i oi cs c hi) b oj.dst u h3) (wanted_put oi b oj.dst u h3) (fun w => about_put oi w b oj.dst u h3))
        (fun b hb d => hb.like rfl rfl fun _ => rfl) hy (H.2 j (ready_mono hj hji))
      have hjL : j ≠ L := by
        rintro rfl
        unfold waitsFor at hL
        rw [hoj] at hL
        simp only [Array.any_eq_true', Bool.and_eq_true, beq_iff_eq] at hL
        obtain ⟨e, he, hb, hon⟩ := hL
        exact hnot e he hb hon
      refine wpOpIn_mono (fun b w' hb => ⟨.inr (hb.2.1.resolve_left hjL), ih _ b w' ?_ (ready_mono hr (Ne.symm hji)) hb.1 (hb.2.1.resolve_left hjL) ?_⟩) hsw
      · intro m om hm hmi hun hno
        refine hfree m om hm hmi ?_ hno
        by_cases hjm : j = m
        · subst hjm; exact hjun
        · rw [getD_set_ne true hjm] at hun; exact hun
      · rw [Array.setIfInBounds_comm _ _ hji]
        exact hb.2.2
/-- One that yields where S holds may be taken first. -/
theorem KeptAny.take {i : Nat} {oi : Oper} {v : Value} {k : Nat} {l : Array Bool} {a : Act} {w : World} (hL : waitsFor md ops L i = true) (hro : F.round = none) (hi : ops[i]? = some oi) (hs : Region.noSelect ops = true) (hf : Region.free md ops l i = true) (hr : (Region.ready md ops l).contains i = true)
    (hQ : ∀ c a w, Q (.panic c) (a.put oi.dst v) w → Q (.panic c) a w) (hw : Region.wanted oi (yielded ops a.tmps) = true) (hrun : ∀ w, S w → (execOp a.eval oi).run P w = .ok (.value v) w) (hab : ∀ w, oi.about P w a.eval = none) (hS : S w)
    (h : KeptAny F n P md ops Q S L k (l.setIfInBounds i true) (a.put oi.dst v) w) : KeptAny F n P md ops Q S L (k + 1) l a w :=
  KeptAny.first hL hro hi (Region.noSelect_spec hs) hQ k l a w (Region.free_spec hi hf) (by simpa using hr) ⟨hw, hrun, hab⟩ hS h
theorem KeptAny.done {l : Array Bool} {a : Act} {w : World} (hr : Region.ready md ops l = []) (h : Q .normal a w) : ∀ k, KeptAny F n P md ops Q S L k l a w
  | 0 => ⟨hr, h⟩
  | _ + 1 => ⟨fun _ => h, (by rw [hr]; simp)⟩
/-- The one that is ready. -/
theorem KeptAny.one {i : Nat} {o : Oper} {k : Nat} {l : Array Bool} {a : Act} {w : World} (hr : Region.ready md ops l = [i]) (ho : ops[i]? = some o) (hw : Region.wanted o (yielded ops a.tmps) = true)
    (h : ∀ K : Act → World → Prop, RowKit.Hid (∀ b w', S w' → (S w' → KeptAny F n P md ops Q S L k (l.setIfInBounds i true) b w') → K b w') → o.wpIn F n P a w K Q) : KeptAny F n P md ops Q S L (k + 1) l a w := by
  refine ⟨fun h0 => (by rw [hr] at h0; cases h0), fun j hj => ?_⟩
  rw [hr, List.mem_singleton] at hj
  subst hj
  unfold wpOpIn
  rw [ho]
  simp only [hw, if_true]
  exact h _ (Lib.hid fun b w' hS hk => ⟨.inr hS, hk hS⟩)
/-- The one that is ready is number L. -/
theorem KeptAny.last {o : Oper} {k : Nat} {l : Array Bool} {a : Act} {w : World} (hr : Region.ready md ops l = [L]) (ho : ops[L]? = some o) (hw : Region.wanted o (yielded ops a.tmps) = true)
    (h : ∀ K : Act → World → Prop, RowKit.Hid (∀ b w', KeptAny F n P md ops Q S L k (l.setIfInBounds L true) b w' → K b w') → o.wpIn F n P a w K Q) : KeptAny F n P md ops Q S L (k + 1) l a w := by
  refine ⟨fun h0 => (by rw [hr] at h0; cases h0), fun j hj => ?_⟩
  rw [hr, List.mem_singleton] at hj
  subst hj
  unfold wpOpIn
  rw [ho]
  simp only [hw, if_true]
  exact h _ (Lib.hid fun b w' hk => ⟨Or.inl (by first | rfl | trivial), hk⟩)
theorem wpIn_region_kept {id : Nat} {a : Act} {w : World} (L : Nat) (l : Nat) (hm : P.follows .mixedOrders = true) (hd : (ops.toList.all fun o => match o.op with | .defer _ => false | _ => true) = true)
    (h : KeptAny F n P .any ops Q S L ops.size (Array.replicate ops.size false) a w.drew) : (Code.region id ops true).wpIn (F.inRound l) n P Q a w :=
  wpIn_region_round l hm hd (KeptAny.any _ _ _ _ h)
end held
end Go
namespace Go
section held
variable {F : Fence} {n : Nat} {P : Program} {ops : Array Oper} {Q : Exit → Act → World → Prop} {md : Region.Mode} {S : World → Prop} {L : Nat}
theorem wp_region_kept {id : Nat} {a : Act} {w : World} (L : Nat) (hm : P.follows .mixedOrders = true) (h : KeptAny Fence.wide 6 P .any ops Q S L ops.size (Array.replicate ops.size false) a w.drew) : (Code.region id ops true).wp P Q a w :=
  (wpIn_wide (n := 6)).1 (wpIn_region_any hm (KeptAny.any _ _ _ _ h))
/-- What is asked of an operation that comes next. -/
def NextKept (F : Fence) (n : Nat) (P : Program) (md : Region.Mode) (ops : Array Oper) (Q : Exit → Act → World → Prop) (S : World → Prop) (L k : Nat) (l : Array Bool) (a : Act) (w : World) (i : Nat) : Prop :=
  ∃ o, ops[i]? = some o ∧ Region.wanted o (yielded ops a.tmps) = true ∧ ∀ K : Act → World → Prop, RowKit.Hid (∀ b w', S w' → (S w' → KeptAny F n P md ops Q S L k (l.setIfInBounds i true) b w') → K b w') → o.wpIn F n P a w K Q
theorem KeptAny.each {k : Nat} {l : Array Bool} {a : Act} {w : World} {is : List Nat} (hr : Region.ready md ops l = is) (hne : is ≠ []) (h : ∀ i ∈ is, NextKept F n P md ops Q S L k l a w i) : KeptAny F n P md ops Q S L (k + 1) l a w := by
  refine ⟨fun h0 => absurd (hr.symm.trans h0) hne, fun j hj => ?_⟩
  rw [hr] at hj
  obtain ⟨o, ho, hw, h1⟩ := h j hj
  unfold wpOpIn
  rw [ho]
  simp only [hw, if_true]
  exact h1 _ (Lib.hid fun b w' hS hk => ⟨.inr hS, hk hS⟩)
theorem KeptAny.two {i j : Nat} {k : Nat} {l : Array Bool} {a : Act} {w : World} (hr : Region.ready md ops l = [i, j]) (h1 : NextKept F n P md ops Q S L k l a w i) (h2 : NextKept F n P md ops Q S L k l a w j) : KeptAny F n P md ops Q S L (k + 1) l a w :=
  KeptAny.each hr (by simp) fun m hm => by
    simp only [List.mem_cons, List.not_mem_nil, or_false] at hm
    rcases hm with rfl | rfl
    · exact h1
    · exact h2
theorem KeptAny.three {i j m : Nat} {k : Nat} {l : Array Bool} {a : Act} {w : World} (hr : Region.ready md ops l = [i, j, m]) (h1 : NextKept F n P md ops Q S L k l a w i) (h2 : NextKept F n P md ops Q S L k l a w j) (h3 : NextKept F n P md ops Q S L k l a w m) : KeptAny F n P md ops Q S L (k + 1) l a w :=
  KeptAny.each hr (by simp) fun q hq => by
    simp only [List.mem_cons, List.not_mem_nil, or_false] at hq
    rcases hq with rfl | rfl | rfl
    · exact h1
    · exact h2
    · exact h3
end held
end Go
namespace Go.Proofs.YtgehpaojbnpbcaaGreatDoor
open Go Go.RowKit
set_option maxRecDepth 100000 in
set_option maxHeartbeats 1600000 in
theorem cloneItems_any (xs : List It) (oi : Option Addr) (ci : Nat) (hn : xs.length < 1048577) (w : World) (hc : HoldsItems w oi xs) :
    Calls Tryz.prog 131 #[.slice oi xs.length ci] w fun e w' => ∃ o' c', e = .returned (.slice o' xs.length c') ∧ w'.ownsRow w.heap.size 137 3 (.slice o' xs.length c') xs.length (itemCells xs) ∧ Below w.heap.size w w' := by
  cases oi with
  | none =>
    obtain rfl : xs = [] := by
      rcases hc with h | ⟨b, off, h, _⟩
      · exact h
      · cases h
    have hq := fun w' : World => Lib.run_eql_slice_nil (P := Tryz.prog) w' 65 137 none 0 ci 0 0 Tryz.underlying65
    go_enter Tryz.func131, Tryz.ntmps131
    go_wp2
    go_ret
    exact ⟨none, 0, rfl, World.ownsRow_nil _ _ _ _, Below.refl _ _⟩
  | some a =>
    have hb0 := (Below.refl w.heap.size w).alloc (Nat.le_refl _) (.cells #[] 137)
    have hown : (w.alloc (.cells #[] 137)).ownsRow w.heap.size 137 3 (.slice (some ⟨w.heap.size, 0, none⟩) 0 0) 0 [] := World.ownsRow_made w #[] 0 (Nat.le_refl _) (by unfold maxLen; omega) rfl
    have HC := Lib.hid (hc.below hb0 (Nat.le_refl _))
    have HB := Lib.hid hb0
    have HO := Lib.hid hown
    have hq := fun w' : World => Lib.run_eql_slice_nil (P := Tryz.prog) w' 65 137 (some a) xs.length ci 0 0 Tryz.underlying65
    clear hc hb0 hown
    go_enter Tryz.func131, Tryz.ntmps131
    go_wp2_with (at_builtin; refine wpList_append_items rfl _ _ rfl rfl HO.out (by simp) rfl HC.out (by omega) (by omega) ?_)
    intro v1 w1 hown1 hg1
    obtain ⟨o', c', rfl, -⟩ := holdsItems_of_owns (by simpa using hown1)
    have HB1 := Lib.hid (HB.out.trans (below_grown1 hg1 (by simp) (fun r e => by simp only [Value.ownBlock, Option.some.injEq] at e; omega)))
    have HOW := Lib.hid hown1
    clear hown1 hg1
    go_wp2
    go_ret
    exact ⟨o', c', rfl, by simpa using HOW.out, HB1.out⟩
set_option maxRecDepth 100000 in
set_option maxHeartbeats 1600000 in
theorem scopeClone_any (s : Sc) (oi : Option Addr) (ci : Nat) (hn : s.items.length < 1048577) (w : World) (hc : HoldsItems w oi s.items) :
    Calls Tryz.prog 120 #[.agg #[.int .i64 s.parent, .slice oi s.items.length ci]] w fun e w' => ∃ o' c', e = .returned (.agg #[.int .i64 s.parent, .slice o' s.items.length c']) ∧ w'.ownsRow w.heap.size 137 3 (.slice o' s.items.length c') s.items.length (itemCells s.items) ∧ Below w.heap.size w w' := by
  obtain ⟨p, xs⟩ := s
  dsimp only at hn hc ⊢
  have hb0 : Below w.heap.size w ((w.alloc (.cells #[.int .i64 p, .slice oi xs.length ci] 67)).alloc (.cells #[.int .i64 0, .slice none 0 0] 67)) := ((Below.refl _ _).alloc (Nat.le_refl _) _).alloc (by simp) _
  have R1 := (Row.new w [.int .i64 p, .slice oi xs.length ci] 67).alloc (.cells #[.int .i64 0, .slice none 0 0] 67)
  have R2 := Row.new (w.alloc (.cells #[.int .i64 p, .slice oi xs.length ci] 67)) [.int .i64 0, .slice none 0 0] 67
  rw [World.size_alloc] at R2
  have C := Lib.hid ((callsIn_wide (n := 5)).2 (cloneItems_any xs oi ci hn _ (hc.below (hb0.drew) (Nat.le_refl _))))
  have HB := Lib.hid hb0
  have HR2 := Lib.hid R2
  have s0 := cell_drew (R1.cell (i := 0) (by rfl))
  have s1 := cell_drew (R1.cell (i := 1) (by rfl))
  clear hc hb0 R1 R2
  go_enter Tryz.func120, Tryz.ntmps120
  go_wp2
  refine wp_region_kept (S := fun w' => w'.cell? ⟨w.heap.size, 0, none⟩ = some (.int .i64 p) ∧ w'.cell? ⟨w.heap.size, 1, none⟩ = some (.slice oi xs.length ci)) 20 (by kernel_rfl) ?_
  have hS0 := And.intro s0 s1
  refine KeptAny.take (i := 0) (v := ?_) (by kernel_rfl) rfl rfl (by kernel_rfl) (by kernel_rfl) (by kernel_rfl) (fun _ _ _ h => h) (by rfl) (fun w' hw' => ?_) (fun _ => rfl) hS0 ?_
  rotate_left
  · (obtain ⟨g0, g1⟩ := hw'; go_simp; try with_reducible rfl)
  refine KeptAny.take (i := 1) (v := ?_) (by kernel_rfl) rfl rfl (by kernel_rfl) (by kernel_rfl) (by kernel_rfl) (fun _ _ _ h => h) (by rfl) (fun w' hw' => ?_) (fun _ => rfl) hS0 ?_
  rotate_left
  · (obtain ⟨g0, g1⟩ := hw'; go_simp; try with_reducible rfl)
  refine KeptAny.take (i := 2) (v := ?_) (by kernel_rfl) rfl rfl (by kernel_rfl) (by kernel_rfl) (by kernel_rfl) (fun _ _ _ h => h) (by rfl) (fun w' hw' => ?_) (fun _ => rfl) hS0 ?_
  rotate_left
  · (obtain ⟨g0, g1⟩ := hw'; go_simp; try with_reducible rfl)
  refine KeptAny.take (i := 3) (v := ?_) (by kernel_rfl) rfl rfl (by kernel_rfl) (by kernel_rfl) (by kernel_rfl) (fun _ _ _ h => h) (by rfl) (fun w' hw' => ?_) (fun _ => rfl) hS0 ?_
  rotate_left
  · (obtain ⟨g0, g1⟩ := hw'; go_simp; try with_reducible rfl)
  refine KeptAny.one (i := 4) (by kernel_rfl) rfl (by rfl) (fun K hK => ?_)
  go_simp
  refine ⟨trivial, ?_⟩
  refine C.out.mono ?_
  rintro e w4 ⟨o', c', rfl, hown, hb4⟩
  have HO := Lib.hid hown
  have HB4 := Lib.hid (HB.out.drew.trans (hb4.mono HB.out.size))
  have HR4 := Lib.hid (HR2.out.drew.below hb4 HR2.out.drew.lt)
  have hS4 := And.intro (cell_grow hb4 hS0.1) (cell_grow hb4 hS0.2)
  have n0 := HR4.out.cell (i := 0) (v := .int .i64 0) (by rfl)
  have n1 := HR4.out.cell (i := 1) (v := .slice none 0 0) (by rfl)
  have f0 := HR4.out.frozen 0
  have f1 := HR4.out.frozen 1
  clear hown hb4 hS0 s0 s1
  refine hK.out _ _ hS4 (fun _ => ?_)
  clear hK
  refine KeptAny.take (i := 5) (v := ?_) (by kernel_rfl) rfl rfl (by kernel_rfl) (by kernel_rfl) (by kernel_rfl) (fun _ _ _ h => h) (by rfl) (fun w' hw' => ?_) (fun _ => rfl) hS4 ?_
  rotate_left
  · (obtain ⟨g0, g1⟩ := hw'; go_simp; try with_reducible rfl)
  have hT1 := HR4.out.set 0 (.int .i64 p)
  have hT := hT1.set 1 (.slice o' xs.length c')
  have m1 := hT1.cell (i := 1) (v := .slice none 0 0) (by rfl)
  have l1 := hT1.frozen 1
  have HT := Lib.hid hT
  have hne : w.heap.size ≠ w.heap.size + 1 := by omega
  have HS5 := Lib.hid (And.intro (((World.cell?_of_block (Below.heap_setCell _ _ _ _ (by show w.heap.size ≠ w.heap.size + 1; omega))).trans ((World.cell?_of_block (Below.heap_setCell _ _ _ _ (by show w.heap.size ≠ w.heap.size + 1; omega))).trans hS4.1) : ((w4.setCell ⟨w.heap.size + 1, 0, none⟩ (.int .i64 p)).setCell ⟨w.heap.size + 1, 1, none⟩ (.slice o' xs.length c')).cell? ⟨w.heap.size, 0, none⟩ = _)) (((World.cell?_of_block (Below.heap_setCell _ _ _ _ (by show w.heap.size ≠ w.heap.size + 1; omega))).trans ((World.cell?_of_block (Below.heap_setCell _ _ _ _ (by show w.heap.size ≠ w.heap.size + 1; omega))).trans hS4.2) : ((w4.setCell ⟨w.heap.size + 1, 0, none⟩ (.int .i64 p)).setCell ⟨w.heap.size + 1, 1, none⟩ (.slice o' xs.length c')).cell? ⟨w.heap.size, 1, none⟩ = _)))
  clear hT1 hT hS4
  refine KeptAny.one (i := 6) (by kernel_rfl) rfl (by rfl) (fun K hK => ?_)
  go_simp
  refine hK.out _ _ HS5.out (fun _ => ?_)
  clear hK
  refine KeptAny.done (by kernel_rfl) ?_ _
  have d0 := HT.out.cell (i := 0) (v := .int .i64 p) (by rfl)
  have d1 := HT.out.cell (i := 1) (v := .slice o' xs.length c') (by rfl)
  clear n0 n1 m1 f0 f1 l1
  go_wp2
  refine bodyPost_ret (v := .agg #[.int .i64 p, .slice o' xs.length c']) (by simp [results, Tryz.results120, go_sem, d0, d1]) rfl ⟨o', c', rfl, ?_, ?_⟩
  · exact ((ownsRow_setFar (ownsRow_setFar HO.out (by simp) _) (by simp) _)).mono (by simp; omega)
  · exact (HB4.out.setCell (by simp) _).setCell (by simp) _
set_option maxRecDepth 100000 in
set_option maxHeartbeats 4000000 in
theorem implClone_any (ss : List Sc) (oa : Option Addr) (cap : Nat) (hn : ss.length ≤ 1048576) (hn2 : ∀ s ∈ ss, s.items.length < 1048577) (w : World) (hc : HoldsScopes w oa ss) :
    Calls Tryz.prog 104 #[.agg #[.slice oa ss.length cap]] w fun e w' => ∃ v hs, e = .returned (.agg #[v]) ∧ OwnGr w' w.heap.size v ss hs ∧ Below w.heap.size w w' := by
  have hb0 : Below w.heap.size w ((w.alloc (.cells #[.slice oa ss.length cap] 28)).alloc (.cells #[.slice none 0 0] 28)) := ((Below.refl _ _).alloc (Nat.le_refl _) _).alloc (by simp) _
  have HR1 := Lib.hid ((Row.new w [.slice oa ss.length cap] 28).alloc (.cells #[.slice none 0 0] 28))
  have R2 := Row.new (w.alloc (.cells #[.slice oa ss.length cap] 28)) [.slice none 0 0] 28
  rw [World.size_alloc] at R2
  have HR2 := Lib.hid R2
  have HB := Lib.hid hb0
  have HC := Lib.hid hc
  have HN2 := Lib.hid hn2
  obtain ⟨i0, hi0, hz0, hz1, hz2⟩ := info_parts infoScope
  clear hc hn2 hb0 R2
  go_enter Tryz.func104, Tryz.ntmps104
  go_wp2_with (at_make; refine wpList_make_own _ rfl _ _ 26 rfl (w.heap.size + 1 + 1) 67 i0 _ 2 Tryz.underlying26 hi0 hz0 hz1 .i64 .i64 _ ss.length rfl rfl rfl (by rw [hz2]; omega) (by unfold maxLen; omega) (by simp) ?_; intro w1 hown1 hg1; have c1 := (HR1.out.grown hg1 (by simp)).cell (i := 0) (v := .slice oa ss.length cap) (by rfl); simp only [World.size_alloc] at hown1 ⊢)
  have hb1 : Below (w.heap.size + 1 + 1) _ w1 := below_grown1 hg1 (by simp) (fun r e => by cases e)
  have HB1 := Lib.hid (HB.out.trans (hb1.mono (by omega)))
  have HR1a := Lib.hid (HR1.out.below hb1 (by omega))
  have HR2a := Lib.hid (HR2.out.below hb1 (by omega))
  have HG0 : Hid (OwnGr w1 w.heap.size (.slice (some ⟨w.heap.size + 1 + 1, 0, none⟩) 0 ss.length) [] []) := Lib.hid ⟨rfl, hown1.mono (show w.heap.size ≤ w.heap.size + 1 + 1 by omega), by simp, by simp⟩
  clear hown1 hg1 hb1
  go_loopw [3, 13] (fun v i wr => ∃ (k : Nat) (hs : List Value), i = .int .i64 k ∧ k ≤ ss.length ∧ Hid (OwnGr wr w.heap.size v (ss.take k) hs ∧ Below w.heap.size w wr ∧ Row wr (w.heap.size + 1) 28 [.slice none 0 0])) (fun _ i _ => ss.length - (intOf i).toNat)
  case atStart => exact ⟨0, [], rfl, Nat.zero_le _, Lib.hid ⟨HG0.out, HB1.out, HR2a.out⟩⟩
  case round =>
    obtain ⟨k, hs, rfl, hk, hP⟩ := hrel
    by_cases hlt : k < ss.length
    · obtain ⟨s, hs'⟩ : ∃ s, ss[k]? = some s := ⟨_, List.getElem?_eq_getElem hlt⟩
      obtain ⟨b1, f1, rfl, hb1, hcell⟩ := HC.out.at (by omega)
      obtain ⟨oi, ci, x0, x1, hIt⟩ := hcell k s hs'
      have y0 := (hP.out.2.1.cell (p := ⟨b1, _, none⟩) hb1).trans x0
      have y1 := (hP.out.2.1.cell (p := ⟨b1, _, none⟩) hb1).trans x1
      have hbA := (Below.refl wr.heap.size wr).alloc (Nat.le_refl _) (.cells #[.int .i64 s.parent, .slice oi s.items.length ci] 67)
      have HIA := Lib.hid (hIt.below (hP.out.2.1.trans (hbA.mono hP.out.2.1.size)) (Nat.le_refl _))
      have HBA := Lib.hid (hP.out.2.1.trans (hbA.mono hP.out.2.1.size))
      have HGA := Lib.hid (hP.out.1.below hbA)
      have HRA := Lib.hid (hP.out.2.2.below hbA hP.out.2.2.lt)
      have C := Lib.hid (scopeClone_any s oi ci (HN2.out s (List.mem_of_getElem? hs')) _ HIA.out)
      have RS := Lib.hid (Row.new wr [.int .i64 s.parent, .slice oi s.items.length ci] 67)
      have z0 := RS.out.cell (i := 0) (by rfl)
      have z1 := RS.out.cell (i := 1) (by rfl)
      have HTK : Hid (ss.take (k + 1) = ss.take k ++ [s]) := Lib.hid (by rw [List.take_add_one, hs']; rfl)
      have hkl : (ss.take k).length = k := by rw [List.length_take]; omega
      have HKL := Lib.hid hkl
      have hbz := hP.out.2.1.size
      clear hs' hcell x0 x1 hIt hbA hkl
      go_wp2_with fail
      refine C.out.mono ?_
      rintro e w2 ⟨o', c', rfl, hown2, hb2⟩
      have HB2 := Lib.hid (HBA.out.trans (hb2.mono HBA.out.size))
      have HG2 := Lib.hid (HGA.out.below hb2)
      have HU2 := Lib.hid hown2
      have HRb := Lib.hid (HRA.out.below hb2 HRA.out.lt)
      have hrow := HG2.out.row
      rw [HKL.out] at hrow
      have HROW := Lib.hid hrow
      have hbs2 := HB2.out.size
      have hz3 : w.heap.size ≤ (wr.alloc (.cells #[.int .i64 s.parent, .slice oi s.items.length ci] 67)).heap.size := HBA.out.size
      clear hown2 hb2 hrow y0 y1 z0 z1
      go_wp2_with (at_builtin; refine wpList_append_own _ rfl _ _ 26 rfl w.heap.size 67 i0 _ 2 32 Tryz.underlying26 hi0 hz0 hz1 hz2 rfl (by decide) _ _ _ rfl (HROW.out.alloc _) ⟨w2.heap.size, 0, none⟩ 1 1 [.int .i64 s.parent, .slice o' s.items.length c'] rfl rfl ?c1 ?c2 ?c3 ?c4 ?c5 ?_)
      case c1 => exact cells_new2 _ _ _ _
      case c2 => intro u hu; simp only [List.mem_cons, List.not_mem_nil, or_false] at hu; rcases hu with rfl | rfl <;> rfl
      case c3 => unfold maxLen; omega
      case c4 => omega
      case c5 => simp only [World.size_alloc]; omega
      intro v' w3 hown3 hgrow _
      have HG3 : Hid (OwnGr w3 w.heap.size v' (ss.take (k + 1)) (hs ++ [.slice o' s.items.length c'])) := Lib.hid (by
        rw [HTK.out]
        refine OwnGr.snoc (p := s.parent) (xs := s.items) HGA.out HG2.out HU2.out hz3 hgrow ?_
        rw [HKL.out]
        exact hown3)
      have HB3 := Lib.hid (HB2.out.trans (((Below.refl w.heap.size w2).alloc hbs2 (.cells #[.int .i64 s.parent, .slice o' s.items.length c'] 67)).trans (below_grown1 hgrow (by simp; omega) (fun r e => (HROW.out.lt r e).1))))
      have HRc := Lib.hid ((HRb.out.alloc (.cells #[.int .i64 s.parent, .slice o' s.items.length c'] 67)).grown hgrow (ownsRow_ne2 HRb.out (by decide) HROW.out))
      clear hown3 hgrow
      go_wp2
      go_roundw
      case rel => exact ⟨k + 1, _, by go_num, by omega, Lib.hid ⟨HG3.out, HB3.out, HRc.out⟩⟩
      case measure => simp only [intOf]; omega
    · obtain rfl : k = ss.length := by omega
      have HG : Hid (OwnGr wr w.heap.size _ ss hs) := Lib.hid (by have := hP.out.1; rwa [List.take_length] at this)
      obtain ⟨ov, cv, rfl, -⟩ := HG.out.holds
      have n0 := hP.out.2.2.cell (i := 0) (v := .slice none 0 0) (by rfl)
      have f0 := hP.out.2.2.frozen 0
      have HT := Lib.hid (hP.out.2.2.set 0 (.slice ov ss.length cv))
      have hlt2 : w.heap.size + 1 < wr.heap.size := hP.out.2.2.lt
      have HGT : Hid (OwnGr (wr.setCell ⟨w.heap.size + 1, 0, none⟩ (.slice ov ss.length cv)) w.heap.size (.slice ov ss.length cv) ss hs) := Lib.hid (by
        refine ⟨HG.out.len, ownsRow_otherN HG.out.row hP.out.2.2 (by decide) 0 _, fun i s u h1 h2 => ownsRow_otherN (HG.out.items i s u h1 h2) hP.out.2.2 (by decide) 0 _, HG.out.apart⟩)
      go_wp2
      have d0 := HT.out.cell (i := 0) (v := .slice ov ss.length cv) (by rfl)
      refine bodyPost_ret (v := .agg #[.slice ov ss.length cv]) (by simp [results, Tryz.results104, go_sem, d0]) rfl ⟨_, hs, rfl, HGT.out, hP.out.2.1.setCell (by simp) _⟩
end Go.Proofs.YtgehpaojbnpbcaaGreatDoor
namespace Go.Proofs.YtgehpaojbnpbcaaGreatDoor
open Go Go.RowKit
end Go.Proofs.YtgehpaojbnpbcaaGreatDoor
namespace Go.Proofs.YtgehpaojbnpbcaaGreatDoor
open Go Go.RowKit
theorem itemCells_cons (x : It) (r : List It) : itemCells (x :: r) = .int .i64 x.kind :: .string x.name :: .int .i64 x.scope :: itemCells r := rfl
theorem itemCells_drop : ∀ (xs : List It) (b : Nat), itemCells (xs.drop b) = (itemCells xs).drop (b * 3)
  | [], b => by simp [itemCells]
  | x :: r, 0 => by simp
  | x :: r, b + 1 => by
    have h := itemCells_drop r b
    rw [show (b + 1) * 3 = b * 3 + 1 + 1 + 1 by omega, List.drop_succ_cons, itemCells_cons, List.drop_succ_cons, List.drop_succ_cons, List.drop_succ_cons, h]
end Go.Proofs.YtgehpaojbnpbcaaGreatDoor
namespace Go.Proofs.YtgehpaojbnpbcaaGreatDoor
open Go Go.RowKit
/-- What is known of a graph in a box. -/
structure GrIn (w : World) (B g gs cs : Nat) (us : List Sc) (hs : List Value) : Prop where
  row : Row w g 28 [.slice (some ⟨gs, 0, none⟩) us.length cs]
  own : OwnGr w B (.slice (some ⟨gs, 0, none⟩) us.length cs) us hs
theorem GrIn.slot {w : World} {B g gs cs : Nat} {us : List Sc} {hs : List Value} (h : GrIn w B g gs cs us hs) {i : Nat} {s : Sc} (hs' : us[i]? = some s) :
    ∃ u, hs[i]? = some u ∧ B ≤ gs ∧ gs < w.heap.size ∧ w.cell? ⟨gs, i * 2 + 1, none⟩ = some u ∧ w.ownsRow B 137 3 u s.items.length (itemCells s.items) := by
  have hil := (List.getElem?_eq_some_iff.1 hs').1
  obtain ⟨u, hu⟩ : ∃ u, hs[i]? = some u := ⟨_, List.getElem?_eq_getElem (by rw [h.own.len]; exact hil)⟩
  have h1 := h.own.row
  have h3 := h1.cells (g := gs) rfl _ _ (scRow_at hs' hu).2
  rw [Addr.add_lit, Nat.zero_add] at h3
  exact ⟨u, hu, (h1.lt gs rfl).1, (h1.lt gs rfl).2, h3, h.own.items i s u hs' hu⟩
theorem GrIn.apartB {w : World} {B g gs cs : Nat} {us : List Sc} {hs : List Value} (h : GrIn w B g gs cs us hs) {i : Nat} {s : Sc} {u : Value} (hs' : us[i]? = some s) (hu : hs[i]? = some u) : some g ≠ u.ownBlock := by
  obtain ⟨_, h2 | ⟨g', c, cur, hv, hB, hh, _⟩⟩ := h.own.items i s u hs' hu
  · rw [h2.1]; simp [Value.ownBlock]
  · rw [hv]
    intro e
    simp only [Value.ownBlock, Option.some.injEq] at e
    subst e
    have h3 := h.row
    unfold Row at h3
    rw [hh] at h3
    simp at h3
theorem GrIn.below {w w' : World} {B g gs cs : Nat} {us : List Sc} {hs : List Value} (h : GrIn w B g gs cs us hs) (hb : Below w.heap.size w w') : GrIn w' B g gs cs us hs := ⟨h.row.below hb h.row.lt, h.own.below hb⟩
end Go.Proofs.YtgehpaojbnpbcaaGreatDoor
namespace Go.Proofs.YtgehpaojbnpbcaaGreatDoor
open Go Go.RowKit
theorem wpIn_append_run {P : Program} {F : Fence} {n : Nat} {w : World} {o : Oper} {a : Act} {K : Act → World → Prop} {Q : Exit → Act → World → Prop} (s x : Operand) (t : TypeId)
    (ho : o.op = .call { callee := .builtin .append, args := #[s, x], argTypes := #[t, t] }) (hab : o.about P w a.eval = none) {v' : Value} {w' : World} (hr : (Builtin.append_ #[t, t] o.type #[a.eval s, a.eval x]).run P w = .ok v' w')
    (h : K (a.put o.dst v') w') : o.wpIn F n P a w K Q := by
  refine ⟨fun f hf => (by rw [hab] at hf; cases hf), ?_⟩
  rw [Oper.semAt_eq _ _ _ (fun c => by rw [ho]; exact fun h => by cases h)]
  unfold execOp
  simp only [ho, resolve, invoke, builtin, Sem.run_bind, Sem.run_pure, Result.andThen_ok, List.map_toArray, List.map_cons, List.map_nil, hr]
  exact h
theorem ownsRow_ne2' {w : World} {base n size : Nat} {e : TypeId} {v : Value} {xs : List Value} (h : w.ownsRow base e size v n xs) (g : Nat) (hg : w.heap.size ≤ g) (e' : some g = v.ownBlock) : False := by
  have := (h.lt g e'.symm).2
  omega
theorem append_scope0 {W : World} {base k : Nat} {v : Value} {xs : List Value} (hrow : W.ownsRow base 67 2 v k xs) (x : Int) (u : Value) (hu : u.oneCell' = true) (hk : k < 2000000) (hbase : base ≤ W.heap.size) (ty : TypeId) :
    ∃ v' w', (Builtin.append_ #[26, 26] ty #[v, .slice (some ⟨W.heap.size, 0, none⟩) 1 1]).run Tryz.prog (W.alloc (.cells #[.int .i64 x, u] 67)) = .ok v' w' ∧ w'.ownsRow base 67 2 v' (k + 1) (xs ++ [.int .i64 x, u]) ∧ (W.alloc (.cells #[.int .i64 x, u] 67)).grownBy w' v.ownBlock := by
  obtain ⟨i0, hi, hz0, hz1, hz2⟩ := info_parts infoScope
  obtain ⟨v', w', hrun, h2, h3, _⟩ := run_append_own (P := Tryz.prog) (W.alloc (.cells #[.int .i64 x, u] 67)) base 26 ty 67 i0 _ 2 32 Tryz.underlying26 hi hz0 hz1 hz2 rfl (by decide) v k xs (hrow.alloc _) ⟨W.heap.size, 0, none⟩ 1 1 [.int .i64 x, u] rfl (cells_new2 W _ _ _)
    (by intro z hz; simp only [List.mem_cons, List.not_mem_nil, or_false] at hz; rcases hz with rfl | rfl <;> first | rfl | exact hu) (by unfold maxLen; omega) (by omega) (by show base ≤ (W.alloc _).heap.size; simp; omega)
  exact ⟨v', w', hrun, h2, h3⟩
set_option maxRecDepth 100000 in
set_option maxHeartbeats 4000000 in
theorem specCopy_any (ss : List Sc) (oa : Option Addr) (cap : Nat) (hn : ss.length ≤ 1048576) (hn2 : ∀ s ∈ ss, s.items.length < 1048577) (w : World) (hc : HoldsScopes w oa ss) :
    Calls Tryz.prog 122 #[.agg #[.slice oa ss.length cap]] w fun e w' => ∃ v hs, e = .returned (.agg #[v]) ∧ OwnGr w' w.heap.size v ss hs ∧ Below w.heap.size w w' := by
  have hb0 : Below w.heap.size w ((((w.alloc (.cells #[.slice oa ss.length cap] 28)).alloc (.cells #[.slice none 0 0] 28)).alloc (.cells #[] 67)).alloc (.cells #[.slice (some ⟨w.heap.size + 1 + 1, 0, none⟩) 0 0] 28)) :=
    ((((Below.refl _ _).alloc (Nat.le_refl _) _).alloc (by simp) _).alloc (by simp; omega) _).alloc (by simp; omega) _
  have R1 := (((Row.new w [.slice oa ss.length cap] 28).alloc (.cells #[.slice none 0 0] 28)).alloc (.cells #[] 67)).alloc (.cells #[.slice (some ⟨w.heap.size + 1 + 1, 0, none⟩) 0 0] 28)
  have R2 := ((Row.new (w.alloc (.cells #[.slice oa ss.length cap] 28)) [.slice none 0 0] 28).alloc (.cells #[] 67)).alloc (.cells #[.slice (some ⟨w.heap.size + 1 + 1, 0, none⟩) 0 0] 28)
  have R4 := Row.new (((w.alloc (.cells #[.slice oa ss.length cap] 28)).alloc (.cells #[.slice none 0 0] 28)).alloc (.cells #[] 67)) [.slice (some ⟨w.heap.size + 1 + 1, 0, none⟩) 0 0] 28
  have hM := (OwnGr.made ((w.alloc (.cells #[.slice oa ss.length cap] 28)).alloc (.cells #[.slice none 0 0] 28)) w.heap.size (by simp; omega)).below ((Below.refl _ _).alloc (Nat.le_refl _) (.cells #[.slice (some ⟨w.heap.size + 1 + 1, 0, none⟩) 0 0] 28))
  simp only [World.size_alloc] at R2 R4 hM
  have HB := Lib.hid hb0
  have HR2 := Lib.hid R2
  have HR4 := Lib.hid R4
  have HM := Lib.hid hM
  have HC := Lib.hid hc
  have HN2 := Lib.hid hn2
  have g1 := R1.cell (i := 0) (by rfl)
  clear hc hn2 hb0 R1 R2 R4 hM
  go_enter Tryz.func122, Tryz.ntmps122
  go_wp2
  go_loopw [11] (fun i wr => ∃ (k : Nat) (v : Value) (hs : List Value), i = .int .i64 k ∧ k ≤ ss.length ∧ Hid (OwnGr wr w.heap.size v (ss.take k) hs ∧ Below w.heap.size w wr ∧ Row wr (w.heap.size + 1) 28 [.slice none 0 0] ∧ Row wr (w.heap.size + 1 + 1 + 1) 28 [v])) (fun i _ => ss.length - (intOf i).toNat)
  case atStart => exact ⟨0, _, [], rfl, Nat.zero_le _, Lib.hid ⟨HM.out, HB.out, HR2.out, HR4.out⟩⟩
  case round =>
    obtain ⟨k, v, hs, rfl, hk, hP⟩ := hrel
    by_cases hlt : k < ss.length
    · obtain ⟨s, hs'⟩ : ∃ s, ss[k]? = some s := ⟨_, List.getElem?_eq_getElem hlt⟩
      obtain ⟨b1, f1, rfl, hb1, hcell⟩ := HC.out.at (by omega)
      obtain ⟨oi, ci, x0, x1, hIt⟩ := hcell k s hs'
      have y0 := (hP.out.2.1.cell (p := ⟨b1, _, none⟩) hb1).trans x0
      have y1 := (hP.out.2.1.cell (p := ⟨b1, _, none⟩) hb1).trans x1
      have hbA := (Below.refl wr.heap.size wr).alloc (Nat.le_refl _) (.cells #[.int .i64 s.parent, .slice oi s.items.length ci] 67)
      have hbE := hbA.drew.trans ((Below.refl _ _).alloc (Nat.le_refl _) (.cells #[] 137) |>.mono hbA.drew.size)
      have HIA := Lib.hid (hIt.below (hP.out.2.1.trans (hbE.mono hP.out.2.1.size)) (Nat.le_refl _))
      have HBE := Lib.hid hbE
      have HBA := Lib.hid (hP.out.2.1.trans (hbE.mono hP.out.2.1.size))
      have HGE := Lib.hid (hP.out.1.below hbE)
      have HR2E := Lib.hid (hP.out.2.2.1.below hbE hP.out.2.2.1.lt)
      have HR4E := Lib.hid (hP.out.2.2.2.below hbE hP.out.2.2.2.lt)
      have RS := (Row.new wr [.int .i64 s.parent, .slice oi s.items.length ci] 67)
      have s0 := cell_drew (hP.out.2.2.2.below hbA hP.out.2.2.2.lt |>.cell (i := 0) (by rfl))
      have s1 := cell_drew (RS.cell (i := 0) (by rfl))
      have s2 := cell_drew (RS.cell (i := 1) (by rfl))
      have hownE : ((wr.alloc (.cells #[.int .i64 s.parent, .slice oi s.items.length ci] 67)).drew.alloc (.cells #[] 137)).ownsRow (wr.heap.size + 1) 137 3 (.slice (some ⟨wr.heap.size + 1, 0, none⟩) 0 0) 0 [] := by
        have h0 := World.ownsRow_made (base := wr.heap.size + 1) (e := 137) (size := 3) (wr.alloc (.cells #[.int .i64 s.parent, .slice oi s.items.length ci] 67)).drew #[] 0 (by rw [show (wr.alloc (.cells #[.int .i64 s.parent, .slice oi s.items.length ci] 67)).drew.heap.size = wr.heap.size + 1 from World.size_alloc _ _]; exact Nat.le_refl _) (by unfold maxLen; omega) rfl
        rw [show (wr.alloc (.cells #[.int .i64 s.parent, .slice oi s.items.length ci] 67)).drew.heap.size = wr.heap.size + 1 from World.size_alloc _ _] at h0
        exact h0
      obtain ⟨v7, w7, hrun7, hown7, hg7⟩ := run_append_items hownE (by simp) (ci := ci) HIA.out (by omega) (by have := HN2.out s (List.mem_of_getElem? hs'); omega) 65
      simp only [Nat.zero_add, List.nil_append] at hown7
      have HTK : Hid (ss.take (k + 1) = ss.take k ++ [s]) := Lib.hid (by rw [List.take_add_one, hs']; rfl)
      have hkl : (ss.take k).length = k := by rw [List.length_take]; omega
      have hb7 : Below (wr.heap.size + 1) _ w7 := below_grown1 hg7 (by simp) (fun r e => by simp only [Value.ownBlock, Option.some.injEq] at e; omega)
      obtain ⟨o7, c7, rfl, -⟩ := holdsItems_of_owns hown7
      have hz7 : wr.heap.size + 1 + 1 ≤ w7.heap.size := by have := hb7.size; simp at this; omega
      have hlow : w.heap.size + 1 + 1 + 1 < wr.heap.size := hP.out.2.2.2.lt
      have far : ∀ {B' n size : Nat} {e : TypeId} {z : Value} {zs : List Value}, wr.ownsRow B' e size z n zs → w7.ownsRow B' e size z n zs := fun {B' n size e z zs} hz => by
        have h1 := hz.lt
        obtain ⟨q1, q2 | ⟨g, c, cur, hv, hB, hh, r⟩⟩ := hz
        · exact ⟨q1, .inl q2⟩
        · have hgl := (Array.getElem?_eq_some_iff.1 hh).1
          exact ⟨q1, .inr ⟨g, c, cur, hv, hB, (hb7.block g (by omega)).trans ((HBE.out.block g hgl).trans hh), r⟩⟩
      have HG7 : Hid (OwnGr w7 w.heap.size v (ss.take k) hs) := Lib.hid ⟨hP.out.1.len, far hP.out.1.row, fun i t u h1 h2 => far (hP.out.1.items i t u h1 h2), hP.out.1.apart⟩
      have HB7 := Lib.hid (HBA.out.trans (hb7.mono (by omega)))
      have HR27 := Lib.hid (HR2E.out.below hb7 (by omega))
      have HR47 := Lib.hid (HR4E.out.below hb7 (by omega))
      have HU7 := Lib.hid hown7
      have hrow7 := HG7.out.row
      rw [hkl] at hrow7
      obtain ⟨v9, w9, hrun9, hown9, hg9⟩ := append_scope0 hrow7 s.parent (.slice o7 s.items.length c7) rfl (by omega) HB7.out.size 26
      have HG9 : Hid (OwnGr w9 w.heap.size v9 (ss.take (k + 1)) (hs ++ [.slice o7 s.items.length c7])) := Lib.hid (by
        rw [HTK.out]
        refine OwnGr.snoc (w0 := wr) (p := s.parent) (xs := s.items) hP.out.1 HG7.out (HU7.out.mono (by omega)) (by omega) hg9 ?_
        rw [hkl]
        exact hown9)
      have HB9 := Lib.hid (HB7.out.trans (((Below.refl w.heap.size w7).alloc HB7.out.size (.cells #[.int .i64 s.parent, .slice o7 s.items.length c7] 67)).trans (below_grown1 hg9 (by simp; omega) (fun r e => (hrow7.lt r e).1))))
      have HR29 := Lib.hid ((HR27.out.alloc (.cells #[.int .i64 s.parent, .slice o7 s.items.length c7] 67)).grown hg9 (ownsRow_ne2 HR27.out (by decide) hrow7))
      have HR49 := Lib.hid ((HR47.out.alloc (.cells #[.int .i64 s.parent, .slice o7 s.items.length c7] 67)).grown hg9 (ownsRow_ne2 HR47.out (by decide) hrow7))
      have RS7 := (RS.drew.alloc (.cells #[] 137)).below hb7 (by omega)
      have RS9 := ((RS7.alloc (.cells #[.int .i64 s.parent, .slice o7 s.items.length c7] 67)).grown hg9 (by
        intro e
        have h1 := (hrow7.lt _ e.symm).2
        exact ownsRow_ne2' hP.out.1.row wr.heap.size (Nat.le_refl _) e))
      have hTE := And.intro (cell_grow ((Below.refl _ _).alloc (Nat.le_refl _) (.cells #[] 137)) s0) (And.intro (cell_grow ((Below.refl _ _).alloc (Nat.le_refl _) (.cells #[] 137)) s1) (cell_grow ((Below.refl _ _).alloc (Nat.le_refl _) (.cells #[] 137)) s2))
      have hT7 := And.intro (HR47.out.cell (i := 0) (v := v) (by rfl)) (And.intro (RS7.cell (i := 0) (v := .int .i64 s.parent) (by rfl)) (RS7.cell (i := 1) (v := .slice oi s.items.length ci) (by rfl)))
      have hT8 := And.intro (cell_grow ((Below.refl _ _).alloc (Nat.le_refl _) (.cells #[.int .i64 s.parent, .slice o7 s.items.length c7] 67)) hT7.1) (And.intro (cell_grow ((Below.refl _ _).alloc (Nat.le_refl _) (.cells #[.int .i64 s.parent, .slice o7 s.items.length c7] 67)) hT7.2.1) (cell_grow ((Below.refl _ _).alloc (Nat.le_refl _) (.cells #[.int .i64 s.parent, .slice o7 s.items.length c7] 67)) hT7.2.2))
      have hT9 := And.intro (HR49.out.cell (i := 0) (v := v) (by rfl)) (And.intro (RS9.cell (i := 0) (v := .int .i64 s.parent) (by rfl)) (RS9.cell (i := 1) (v := .slice oi s.items.length ci) (by rfl)))
      obtain ⟨ov, cv, rfl⟩ := ownsRow_slice hrow7
      obtain ⟨o9, c9, rfl⟩ := ownsRow_slice hown9
      have HT := Lib.hid (And.intro hTE (And.intro hT7 (And.intro hT8 hT9)))
      have HRUN := Lib.hid (And.intro hrun7 hrun9)
      clear hs' hcell x0 x1 hIt hbA hbE hownE hrun7 hown7 hg7 hb7 hkl hz7 hlow far hrow7 hrun9 hown9 hg9 RS RS7 RS9 hTE hT7 hT8 hT9
      go_wp2
      refine wp_region_kept (S := fun w' => w'.cell? ⟨w.heap.size + 1 + 1 + 1, 0, none⟩ = some (.slice ov k cv) ∧ w'.cell? ⟨wr.heap.size, 0, none⟩ = some (.int .i64 s.parent) ∧ w'.cell? ⟨wr.heap.size, 1, none⟩ = some (.slice oi s.items.length ci)) 12 (by kernel_rfl) ?_
      have hS0 := And.intro s0 (And.intro s1 s2)
      refine KeptAny.take (i := 0) (v := ?_) (by kernel_rfl) rfl rfl (by kernel_rfl) (by kernel_rfl) (by kernel_rfl) (fun _ _ _ h => h) (by rfl) (fun w' hw' => ?_) (fun _ => rfl) hS0 ?_
      rotate_left
      · (obtain ⟨g0, g1, g2⟩ := hw'; go_simp; try with_reducible rfl)
      refine KeptAny.take (i := 1) (v := ?_) (by kernel_rfl) rfl rfl (by kernel_rfl) (by kernel_rfl) (by kernel_rfl) (fun _ _ _ h => h) (by rfl) (fun w' hw' => ?_) (fun _ => rfl) hS0 ?_
      rotate_left
      · (obtain ⟨g0, g1, g2⟩ := hw'; go_simp; try with_reducible rfl)
      refine KeptAny.take (i := 2) (v := ?_) (by kernel_rfl) rfl rfl (by kernel_rfl) (by kernel_rfl) (by kernel_rfl) (fun _ _ _ h => h) (by rfl) (fun w' hw' => ?_) (fun _ => rfl) hS0 ?_
      rotate_left
      · (obtain ⟨g0, g1, g2⟩ := hw'; go_simp; try with_reducible rfl)
      refine KeptAny.take (i := 3) (v := ?_) (by kernel_rfl) rfl rfl (by kernel_rfl) (by kernel_rfl) (by kernel_rfl) (fun _ _ _ h => h) (by rfl) (fun w' hw' => ?_) (fun _ => rfl) hS0 ?_
      rotate_left
      · (obtain ⟨g0, g1, g2⟩ := hw'; go_simp; try with_reducible rfl)
      refine KeptAny.take (i := 5) (v := ?_) (by kernel_rfl) rfl rfl (by kernel_rfl) (by kernel_rfl) (by kernel_rfl) (fun _ _ _ h => h) (by rfl) (fun w' hw' => ?_) (fun _ => rfl) hS0 ?_
      rotate_left
      · (obtain ⟨g0, g1, g2⟩ := hw'; go_simp; try with_reducible rfl)
      refine KeptAny.take (i := 6) (v := ?_) (by kernel_rfl) rfl rfl (by kernel_rfl) (by kernel_rfl) (by kernel_rfl) (fun _ _ _ h => h) (by rfl) (fun w' hw' => ?_) (fun _ => rfl) hS0 ?_
      rotate_left
      · (obtain ⟨g0, g1, g2⟩ := hw'; go_simp; try with_reducible rfl)
      refine KeptAny.one (i := 4) (by kernel_rfl) rfl (by rfl) (fun K hK => ?_)
      go_simp
      refine hK.out _ _ HT.out.1 (fun _ => ?_)
      clear hK hS0 s0 s1 s2
      refine KeptAny.one (i := 7) (by kernel_rfl) rfl (by rfl) (fun K hK => ?_)
      refine wpIn_append_run _ _ 65 rfl rfl HRUN.out.1 ?_
      refine hK.out _ _ HT.out.2.1 (fun _ => ?_)
      clear hK
      have hS7 := HT.out.2.1
      refine KeptAny.take (i := 8) (v := ?_) (by kernel_rfl) rfl rfl (by kernel_rfl) (by kernel_rfl) (by kernel_rfl) (fun _ _ _ h => h) (by rfl) (fun w' hw' => ?_) (fun _ => rfl) hS7 ?_
      rotate_left
      · (obtain ⟨g0, g1, g2⟩ := hw'; go_simp; try with_reducible rfl)
      refine KeptAny.one (i := 9) (by kernel_rfl) rfl (by rfl) (fun K hK => ?_)
      go_simp
      refine hK.out _ _ HT.out.2.2.1 (fun _ => ?_)
      clear hK
      refine KeptAny.one (i := 10) (by kernel_rfl) rfl (by rfl) (fun K hK => ?_)
      refine wpIn_append_run _ _ 26 rfl rfl HRUN.out.2 ?_
      refine hK.out _ _ HT.out.2.2.2 (fun _ => ?_)
      clear hK
      refine KeptAny.one (i := 11) (by kernel_rfl) rfl (by rfl) (fun K hK => ?_)
      go_simp
      refine hK.out _ _ HT.out.2.2.2 (fun _ => ?_)
      clear hK
      have n0 := HT.out.2.2.2.1
      have f0 := HR49.out.frozen 0
      refine KeptAny.last (by kernel_rfl) rfl (by rfl) (fun K hK => ?_)
      go_simp
      refine hK.out _ _ ?_
      clear hK n0 f0 hS7
      refine KeptAny.done (by kernel_rfl) ?_ _
      have HGX : Hid (OwnGr (w9.setCell ⟨w.heap.size + 1 + 1 + 1, 0, none⟩ (.slice o9 (k + 1) c9)) w.heap.size (.slice o9 (k + 1) c9) (ss.take (k + 1)) (hs ++ [.slice o7 s.items.length c7])) := Lib.hid
        ⟨HG9.out.len, ownsRow_otherN HG9.out.row HR49.out (by decide) 0 _, fun i t u h1 h2 => ownsRow_otherN (HG9.out.items i t u h1 h2) HR49.out (by decide) 0 _, HG9.out.apart⟩
      have HBX := Lib.hid (HB9.out.setCell (p := ⟨w.heap.size + 1 + 1 + 1, 0, none⟩) (by show w.heap.size ≤ w.heap.size + 1 + 1 + 1; omega) (.slice o9 (k + 1) c9))
      have HR2X := Lib.hid (HR29.out.other (a := ⟨w.heap.size + 1 + 1 + 1, 0, none⟩) (by show w.heap.size + 1 + 1 + 1 ≠ w.heap.size + 1; omega) (.slice o9 (k + 1) c9))
      have HR4X := Lib.hid (HR49.out.set 0 (.slice o9 (k + 1) c9))
      clear HT HRUN
      go_wp2
      go_roundw
      case rel => exact ⟨k + 1, _, _, by go_num, by omega, Lib.hid ⟨HGX.out, HBX.out, HR2X.out, HR4X.out⟩⟩
      case measure => simp only [intOf]; omega
    · obtain rfl : k = ss.length := by omega
      have HG : Hid (OwnGr wr w.heap.size v ss hs) := Lib.hid (by have := hP.out.1; rwa [List.take_length] at this)
      obtain ⟨ov, cv, rfl, -⟩ := HG.out.holds
      have n0 := hP.out.2.2.1.cell (i := 0) (v := .slice none 0 0) (by rfl)
      have f0 := hP.out.2.2.1.frozen 0
      have h0 := hP.out.2.2.2.cell (i := 0) (v := .slice ov ss.length cv) (by rfl)
      have HT := Lib.hid (hP.out.2.2.1.set 0 (.slice ov ss.length cv))
      have HGT : Hid (OwnGr (wr.setCell ⟨w.heap.size + 1, 0, none⟩ (.slice ov ss.length cv)) w.heap.size (.slice ov ss.length cv) ss hs) := Lib.hid
        ⟨HG.out.len, ownsRow_otherN HG.out.row hP.out.2.2.1 (by decide) 0 _, fun i s u h1 h2 => ownsRow_otherN (HG.out.items i s u h1 h2) hP.out.2.2.1 (by decide) 0 _, HG.out.apart⟩
      go_wp2
      have d0 := HT.out.cell (i := 0) (v := .slice ov ss.length cv) (by rfl)
      refine bodyPost_ret (v := .agg #[.slice ov ss.length cv]) (by simp [results, Tryz.results122, go_sem, d0]) rfl ⟨_, hs, rfl, HGT.out, hP.out.2.1.setCell (by simp) _⟩
end Go.Proofs.YtgehpaojbnpbcaaGreatDoor
namespace Go.Proofs.YtgehpaojbnpbcaaGreatDoor
open Go Go.RowKit
end Go.Proofs.YtgehpaojbnpbcaaGreatDoor
namespace Go.Proofs.YtgehpaojbnpbcaaGreatDoor
open Go Go.RowKit
theorem scRow_put : ∀ {ss tt : List Sc} {hs : List Value} (i : Nat) (u : Value), hs.length = ss.length → tt.length = ss.length → (∀ k : Nat, (tt[k]?).map Sc.parent = (ss[k]?).map Sc.parent) → i < ss.length → scRow tt (hs.set i u) = (scRow ss hs).set (i * 2 + 1) u
  | [], _, _, i, _, _, _, _, h => absurd h (Nat.not_lt_zero i)
  | s :: r, [], _, _, _, _, h, _, _ => by simp at h
  | s :: r, t :: q, [], _, _, h, _, _, _ => by simp at h
  | s :: r, t :: q, v :: k, 0, u, h1, h2, h3, _ => by
    have h4 := h3 0
    simp at h4
    have h5 : ∀ {ss tt : List Sc} (hs : List Value), tt.length = ss.length → (∀ k : Nat, (tt[k]?).map Sc.parent = (ss[k]?).map Sc.parent) → scRow tt hs = scRow ss hs := by
      intro ss
      induction ss with
      | nil => intro tt hs h _; cases tt <;> simp at h; rfl
      | cons a l ih =>
        intro tt hs h hp
        cases tt with
        | nil => simp at h
        | cons b m =>
          cases hs with
          | nil => rfl
          | cons z o =>
            have e := hp 0
            simp at e
            show .int .i64 b.parent :: z :: scRow m o = .int .i64 a.parent :: z :: scRow l o
            rw [e, ih o (by simpa using h) (fun k => hp (k + 1))]
    show .int .i64 t.parent :: u :: scRow q k = .int .i64 s.parent :: u :: scRow r k
    rw [h4, h5 k (by simpa using h2) (fun j => h3 (j + 1))]
  | s :: r, t :: q, v :: k, i + 1, u, h1, h2, h3, hi => by
    have h4 := h3 0
    simp at h4
    have h5 := scRow_put (ss := r) (tt := q) (hs := k) i u (by simpa using h1) (by simpa using h2) (fun j => h3 (j + 1)) (by simpa using hi)
    rw [show (i + 1) * 2 + 1 = i * 2 + 1 + 1 + 1 by omega]
    show Value.int .i64 t.parent :: v :: scRow q (k.set i u) = _
    rw [h5, h4]
    rfl
end Go.Proofs.YtgehpaojbnpbcaaGreatDoor
