/-
  What one reaches by going to imported scopes, once or more often; a search by depth, and one by breadth. Plain facts. The walks of impl's (*lookup).reach and ImportCircles. Conditions: the argument's memory holds the graph; the package-level errors hold errors. The walk of impl's ImportCircles. Conditions: the argument's memory holds the graph; the package-level errors hold errors. Numbers in a block of one's own from some cell on: a slice that is appended to, and whose first element is left out. Plain facts, and the law at an append of one number. The walks of the given l3Reach and ImportCircles. Condition: the argument's memory holds the graph.
-/
import Derived.Test.YtoijapbffhkbbaaDoorLookP
import Derived.Test.YtoijapbffhkbbaaDoorWTarget
import Derived.Test.YtoijapbffhkbbaaDoorWSet
import Derived.Test.YtoijapbffhkbbaaDoorWMarkGraph
import Derived.Deep.AppendSrc
import Derived.Test.YtoijapbffhkbbaaDoorWSpecLook
namespace Go.Proofs.YtoijapbffhkbbaaDoor
open Go Go.RowKit
/-- From s one gets to m: m is in every set that has what s imports, and what its members import. -/
def Reach (ss : List Sc) (s m : Nat) : Prop := ∀ S : Nat → Prop, (∀ k ∈ impP ss s, S k) → (∀ k, S k → ∀ j ∈ impP ss k, S j) → S m
theorem Reach.one {ss : List Sc} {s m : Nat} (h : m ∈ impP ss s) : Reach ss s m := fun _ h1 _ => h1 m h
theorem Reach.step {ss : List Sc} {s k m : Nat} (h : Reach ss s k) (hm : m ∈ impP ss k) : Reach ss s m := fun S h1 h2 => h2 k (h S h1 h2) m hm
theorem Reach.ahead {ss : List Sc} {s k m : Nat} (h : k ∈ impP ss s) (r : Reach ss k m) : Reach ss s m := fun S h1 h2 => r S (fun j hj => h2 k (h1 k h) j hj) h2
noncomputable def reachB (ss : List Sc) (s m : Nat) : Bool := @decide (Reach ss s m) (Classical.propDecidable _)
theorem reachB_iff {ss : List Sc} {s m : Nat} : reachB ss s m = true ↔ Reach ss s m := by
  unfold reachB
  simp
/-- The scopes that come back to themselves. -/
noncomputable def circUp (ss : List Sc) (k : Nat) : List Nat := (List.range k).filter fun m => reachB ss m m
noncomputable def circP (ss : List Sc) : List Nat := circUp ss ss.length
theorem circUp_snoc (ss : List Sc) (k : Nat) : circUp ss (k + 1) = circUp ss k ++ if reachB ss k k = true then [k] else [] := by
  unfold circUp
  rw [List.range_succ, List.filter_append]
  congr 1
  by_cases h : reachB ss k k = true
  · simp [h]
  · simp [h]
theorem circUp_length (ss : List Sc) (k : Nat) : (circUp ss k).length ≤ k := by
  have := List.length_filter_le (fun m => reachB ss m m) (List.range k)
  unfold circUp
  simpa using this
theorem mem_circP {ss : List Sc} {m : Nat} : m ∈ circP ss ↔ m < ss.length ∧ Reach ss m m := by
  unfold circP circUp
  rw [List.mem_filter, List.mem_range, reachB_iff]
/-- A scope put into a set. -/
def putS (S : Nat → Bool) (m : Nat) : Nat → Bool := fun j => if j = m then true else S j
theorem putS_iff {S : Nat → Bool} {m k : Nat} : putS S m k = true ↔ k = m ∨ S k = true := by
  unfold putS
  by_cases h : k = m
  · simp [h]
  · simp [h]
/-- What a search by depth leaves: from a set S with the scopes of src. -/
structure Dfs (ss : List Sc) (src : List Nat) (S S' : Nat → Bool) : Prop where
  grow : ∀ m, S m = true → S' m = true
  has : ∀ m ∈ src, S' m = true
  closed : ∀ m, S' m = true → S m = true ∨ ∀ k ∈ impP ss m, S' k = true
  sound : ∀ m, S' m = true → S m = true ∨ ∃ a ∈ src, a = m ∨ Reach ss a m
theorem Dfs.nil (ss : List Sc) (S : Nat → Bool) : Dfs ss [] S S := ⟨fun _ h => h, fun _ h => (by cases h), fun _ h => .inl h, fun _ h => .inl h⟩
theorem Dfs.old {ss : List Sc} {l : List Nat} {S S1 : Nat → Bool} {m : Nat} (h : Dfs ss l S S1) (hm : S1 m = true) : Dfs ss (l ++ [m]) S S1 where
  grow := h.grow
  has := fun k hk => by
    rw [List.mem_append, List.mem_singleton] at hk
    rcases hk with hk | rfl
    · exact h.has k hk
    · exact hm
  closed := h.closed
  sound := fun k hk => (h.sound k hk).imp id fun ⟨a, ha, h1⟩ => ⟨a, List.mem_append_left _ ha, h1⟩
theorem Dfs.new {ss : List Sc} {l : List Nat} {S S1 S2 : Nat → Bool} {m : Nat} (h : Dfs ss l S S1) (k : Dfs ss (impP ss m) (putS S1 m) S2) : Dfs ss (l ++ [m]) S S2 where
  grow := fun j hj => k.grow j (putS_iff.2 (.inr (h.grow j hj)))
  has := fun j hj => by
    rw [List.mem_append, List.mem_singleton] at hj
    rcases hj with hj | rfl
    · exact k.grow j (putS_iff.2 (.inr (h.has j hj)))
    · exact k.grow j (putS_iff.2 (.inl rfl))
  closed := fun j hj => by
    rcases k.closed j hj with h1 | h1
    · rcases putS_iff.1 h1 with rfl | h2
      · exact .inr k.has
      · exact (h.closed j h2).imp id fun h3 i hi => k.grow i (putS_iff.2 (.inr (h3 i hi)))
    · exact .inr h1
  sound := fun j hj => by
    rcases k.sound j hj with h1 | ⟨a, ha, h1⟩
    · rcases putS_iff.1 h1 with rfl | h2
      · exact .inr ⟨j, by simp, .inl rfl⟩
      · exact (h.sound j h2).imp id fun ⟨a, ha, h1⟩ => ⟨a, List.mem_append_left _ ha, h1⟩
    · refine .inr ⟨m, by simp, .inr ?_⟩
      rcases h1 with rfl | h1
      · exact .one ha
      · exact .ahead ha h1
theorem Dfs.reach {ss : List Sc} {s : Nat} {S : Nat → Bool} (h : Dfs ss (impP ss s) (fun _ => false) S) (m : Nat) : S m = reachB ss s m := by
  rw [Bool.eq_iff_iff, reachB_iff]
  constructor
  · intro hm
    rcases h.sound m hm with h1 | ⟨a, ha, h1⟩
    · cases h1
    · rcases h1 with rfl | h1
      · exact .one ha
      · exact .ahead ha h1
  · intro r
    exact r (fun j => S j = true) h.has fun k hk j hj => by
      rcases h.closed k hk with h1 | h1
      · cases h1
      · exact h1 j hj
/-- How many scopes are not in a set. -/
def gaps (S : Nat → Bool) : Nat := (List.range 6).countP fun m => !S m
theorem countP_lt {p q : Nat → Bool} : ∀ {l : List Nat}, (∀ x, p x = true → q x = true) → ∀ {a : Nat}, a ∈ l → q a = true → p a = false → l.countP p < l.countP q
  | x :: r, h, a, ha, hq, hp => by
    rw [List.countP_cons, List.countP_cons]
    have hmono : r.countP p ≤ r.countP q := List.countP_mono_left fun y _ hy => h y hy
    rcases List.mem_cons.1 ha with rfl | ha
    · simp [hq, hp]; omega
    · have := countP_lt h ha hq hp
      by_cases hx : p x = true
      · simp [hx, h x hx]; omega
      · by_cases hy : q x = true <;> simp [hx, hy] <;> omega
theorem gaps_put {S : Nat → Bool} {m : Nat} (hm : m < 6) (h : S m = false) : gaps (putS S m) < gaps S := by
  unfold gaps
  refine countP_lt (a := m) (fun x hx => ?_) (List.mem_range.2 hm) (by simp [h]) (by simp [putS])
  unfold putS at hx
  split at hx
  · simp at hx
  · exact hx
theorem Dfs.gaps {ss : List Sc} {l : List Nat} {S S' : Nat → Bool} (h : Dfs ss l S S') : gaps S' ≤ gaps S := by
  unfold Go.Proofs.YtoijapbffhkbbaaDoor.gaps
  refine List.countP_mono_left fun x _ hx => ?_
  cases hS : S x with
  | false => rfl
  | true => rw [h.grow x hS] at hx; exact hx
/-- How far a search by breadth from s is: what it has found, and what it has still to look at. -/
structure Bfs (ss : List Sc) (s : Nat) (out todo : List Nat) (at' : Nat → Prop) : Prop where
  nodup : out.Nodup
  lt : ∀ m ∈ out, m < ss.length
  sub : ∀ m ∈ todo, m = s ∨ m ∈ out
  sound : ∀ m ∈ out, Reach ss s m
  closed : ∀ m, (m = s ∨ m ∈ out) → m ∈ todo ∨ at' m ∨ ∀ k ∈ impP ss m, k ∈ out
theorem Bfs.start (ss : List Sc) (s : Nat) : Bfs ss s [] [s] (fun _ => False) := ⟨by simp, by simp, by simp, by simp, fun m h => by
  rcases h with rfl | h
  · simp
  · simp at h⟩
theorem Bfs.pop {ss : List Sc} {s k : Nat} {out todo : List Nat} (h : Bfs ss s out (k :: todo) (fun _ => False)) : Bfs ss s out todo (fun m => m = k) where
  nodup := h.nodup
  lt := h.lt
  sub := fun m hm => h.sub m (List.mem_cons_of_mem _ hm)
  sound := h.sound
  closed := fun m hm => by
    rcases h.closed m hm with h1 | h1 | h1
    · rcases List.mem_cons.1 h1 with rfl | h1
      · exact .inr (.inl rfl)
      · exact .inl h1
    · exact absurd h1 id
    · exact .inr (.inr h1)
theorem Bfs.push {ss : List Sc} {s k m : Nat} {out todo : List Nat} (hv : Valid ss) (h : Bfs ss s out todo (fun j => j = k)) (hk : k = s ∨ k ∈ out) (hm : m ∈ impP ss k) (hn : m ∉ out) : Bfs ss s (out ++ [m]) (todo ++ [m]) (fun j => j = k) where
  nodup := by
    rw [List.nodup_append]
    refine ⟨h.nodup, by simp, ?_⟩
    rintro a ha b hb rfl
    rw [List.mem_singleton] at hb
    exact hn (hb ▸ ha)
  lt := fun j hj => by
    rw [List.mem_append, List.mem_singleton] at hj
    rcases hj with hj | rfl
    · exact h.lt j hj
    · exact (impP_ok hv k).1 j hm
  sub := fun j hj => by
    rw [List.mem_append, List.mem_singleton] at hj ⊢
    rcases hj with hj | rfl
    · exact (h.sub j hj).imp id .inl
    · exact .inr (.inr rfl)
  sound := fun j hj => by
    rw [List.mem_append, List.mem_singleton] at hj
    rcases hj with hj | rfl
    · exact h.sound j hj
    · rcases hk with rfl | hk
      · exact .one hm
      · exact (h.sound k hk).step hm
  closed := fun j hj => by
    rw [List.mem_append, List.mem_singleton] at hj
    have old : (j = s ∨ j ∈ out) → j ∈ todo ++ [m] ∨ j = k ∨ ∀ i ∈ impP ss j, i ∈ out ++ [m] := fun h0 => by
      rcases h.closed j h0 with h1 | h1 | h1
      · exact .inl (List.mem_append_left _ h1)
      · exact .inr (.inl h1)
      · exact .inr (.inr fun i hi => List.mem_append_left _ (h1 i hi))
    rcases hj with rfl | hj | rfl
    · exact old (.inl rfl)
    · exact old (.inr hj)
    · exact .inl (by simp)
theorem Bfs.done {ss : List Sc} {s k : Nat} {out todo : List Nat} (h : Bfs ss s out todo (fun j => j = k)) (hd : ∀ m ∈ impP ss k, m ∈ out) : Bfs ss s out todo (fun _ => False) where
  nodup := h.nodup
  lt := h.lt
  sub := h.sub
  sound := h.sound
  closed := fun j hj => by
    rcases h.closed j hj with h1 | rfl | h1
    · exact .inl h1
    · exact .inr (.inr hd)
    · exact .inr (.inr h1)
theorem Bfs.length {ss : List Sc} {s : Nat} {out todo : List Nat} {p : Nat → Prop} (h : Bfs ss s out todo p) : out.length ≤ ss.length := length_le_of_nodup_lt h.nodup h.lt
theorem Bfs.reach {ss : List Sc} {s : Nat} {out : List Nat} (h : Bfs ss s out [] (fun _ => False)) (m : Nat) : m ∈ out ↔ Reach ss s m := by
  constructor
  · exact h.sound m
  · intro r
    have step : ∀ j, (j = s ∨ j ∈ out) → ∀ k ∈ impP ss j, k ∈ out := fun j hj => by
      rcases h.closed j hj with h1 | h1 | h1
      · cases h1
      · exact absurd h1 id
      · exact h1
    exact r (fun j => j ∈ out) (step s (.inl rfl)) fun k hk j hj => step k (.inr hk) j hj
end Go.Proofs.YtoijapbffhkbbaaDoor
namespace Go.Proofs.YtoijapbffhkbbaaDoor
open Go Go.RowKit Go.Maps
theorem setV_bool {p : Nat → Bool} {i : Nat} {v : Value} (h : (setV p)[i]? = some v) : ∃ b, v = .bool b := by
  have hi : i < 6 := by
    have := (List.getElem?_eq_some_iff.1 h).1
    simpa [setV] using this
  rw [setV_get p i hi] at h
  exact ⟨_, (Option.some.inj h).symm⟩
theorem Row.cell_inv {w : World} {g : Nat} {t : TypeId} {vs : List Value} (h : Row w g t vs) {i : Nat} {v : Value} (hc : w.cell? ⟨g, i, none⟩ = some v) : vs[i]? = some v := by
  unfold Row at h
  simpa [World.cell?, h] using hc
theorem Tree.keptG {w w' : World} {B T M1 M2 G : Nat} {v : Value} {ds : List Nd} {p : Nat → Bool} (h : Tree w B T M1 M2 v ds) (hs : Row w G 106 (setV p)) (hk : ∀ g vs t, g ≠ G → w.heap[g]? = some (.cells vs t (0, 0)) → w'.heap[g]? = w.heap[g]?) : Tree w' B T M1 M2 v ds where
  low := h.low
  box := h.box.same (hk T _ _ (h.box.neq hs (by decide)) h.box)
  ptrs := by
    obtain ⟨hl, h2 | ⟨g, cap, cur, hv, hB, hh, hr⟩⟩ := h.ptrs
    · exact ⟨hl, .inl h2⟩
    · refine ⟨hl, .inr ⟨g, cap, cur, hv, hB, (hk g _ _ ?_ hh).trans hh, hr⟩⟩
      rintro rfl
      unfold Row at hs
      rw [hs] at hh
      simp at hh
      all_goals exact absurd hh.2 (by decide)
  node := fun i d hd => ⟨(h.node i d hd).1, (h.node i d hd).2.same (hk _ _ _ ((h.node i d hd).2.neq hs (by decide)) (h.node i d hd).2)⟩
  inj := h.inj
  pars := h.pars
theorem HoldsItems.keptG {w w' : World} {oa : Option Addr} {xs : List It} {G : Nat} {p : Nat → Bool} (h : HoldsItems w oa xs) (hs : Row w G 106 (setV p)) (hz : w.heap.size ≤ w'.heap.size) (hk : ∀ g, g < w.heap.size → g ≠ G → ∀ o v, w.cell? ⟨g, o, none⟩ = some v → w'.cell? ⟨g, o, none⟩ = some v) : HoldsItems w' oa xs := by
  rcases h with h | ⟨b, off, h1, h2, h3⟩
  · exact .inl h
  · refine .inr ⟨b, off, h1, Nat.lt_of_lt_of_le h2 hz, fun i x hx => ?_⟩
    obtain ⟨k0, k1, k2⟩ := h3 i x hx
    have hne : b ≠ G := by
      rintro rfl
      obtain ⟨q, hq⟩ := setV_bool (hs.cell_inv k0)
      cases hq
    exact ⟨hk b h2 hne _ _ k0, hk b h2 hne _ _ k1, hk b h2 hne _ _ k2⟩
/-- Where the map of targets and a set of scopes alone have turned. -/
theorem LookW.turnedG {w w' : World} {B L M T M1 M2 G : Nat} {v : Value} {ds : List Nd} {ss : List Sc} {p : Nat → Bool} (h : LookW w B L M T M1 M2 v ds ss) (hs : Row w G 106 (setV p)) (ht : Turns w w' M G) (hm : Memo w' M ss) : LookW w' B L M T M1 M2 v ds ss := by
  have hcell : ∀ g vs t, g ≠ G → w.heap[g]? = some (.cells vs t (0, 0)) → w'.heap[g]? = w.heap[g]? := fun g vs t hg hh => by
    have hne : g ≠ M := by
      rintro rfl
      obtain ⟨es, clock, h1⟩ := h.memo.block
      rw [hh] at h1
      cases h1
    exact ht.rest g (Array.getElem?_eq_some_iff.1 hh).1 hne hg
  have hmap : ∀ g es clock, g ≠ M → w.heap[g]? = some (.map es clock) → w'.heap[g]? = some (.map es clock) := fun g es clock hg hh => by
    have hne : g ≠ G := by
      rintro rfl
      unfold Row at hs
      rw [hh] at hs
      cases hs
    exact (ht.rest g (Array.getElem?_eq_some_iff.1 hh).1 hg hne).trans hh
  refine ⟨{ tree := h.tree.tree.keptG hs hcell, hold := ⟨h.tree.hold.len, fun i d s hd hs' => ?_⟩, pars := h.tree.pars, items := ?_, mods := ?_, low1 := h.tree.low1, low2 := h.tree.low2 }, h.box.same (hcell L _ _ (h.box.neq hs (by decide)) h.box), hm, h.ne1, h.ne2⟩
  · obtain ⟨oi, ci, h1, h2⟩ := h.tree.hold.items i d s hd hs'
    refine ⟨oi, ci, h1, h2.keptG hs ht.size fun g hg hgG o v hc => ?_⟩
    have hgM : g ≠ M := by
      rintro rfl
      obtain ⟨es, clock, h1⟩ := h.memo.block
      simp [World.cell?, h1] at hc
    exact (World.cell?_of_block (a := ⟨g, o, none⟩) (ht.rest g hg hgM hgG)).trans hc
  · obtain ⟨n, es, clock, hh, r⟩ := h.tree.items
    exact ⟨n, es, clock, hmap _ _ _ h.ne1 hh, r⟩
  · obtain ⟨n, es, clock, hh, r⟩ := h.tree.mods
    exact ⟨n, es, clock, hmap _ _ _ h.ne2 hh, r⟩
theorem Turns.more {w w' : World} {M G : Nat} (h : Turns w w' M M) : Turns w w' M G := ⟨h.os, h.tape, h.output, h.size, fun g hg h1 _ => h.rest g hg h1 h1⟩
theorem ownsRow_turns {w w' : World} {base n size M G : Nat} {e : TypeId} {u : Value} {xs : List Value} (h : w.ownsRow base e size u n xs) (ht : Turns w w' M G) (hM : M < base) (hG : G < base) : w'.ownsRow base e size u n xs := by
  obtain ⟨h1, h2 | ⟨g, cap, cur, hv, hB, hh, r⟩⟩ := h
  · exact ⟨h1, .inl h2⟩
  · exact ⟨h1, .inr ⟨g, cap, cur, hv, hB, (ht.rest g (Array.getElem?_eq_some_iff.1 hh).1 (by omega) (by omega)).trans hh, r⟩⟩
theorem setV_put1 {S : Nat → Bool} {i : Nat} (hi : i < 6) : (setV S).set i (.bool true) = setV (putS S i) := by
  rcases (show i = 0 ∨ i = 1 ∨ i = 2 ∨ i = 3 ∨ i = 4 ∨ i = 5 by omega) with rfl | rfl | rfl | rfl | rfl | rfl <;> simp [setV, putS]
/-- What reach leaves. -/
structure ReachLeft (src : List Nat) (S S' : Nat → Bool) (G : Nat) (w w' : World) (B L M T M1 M2 : Nat) (v : Value) (ds : List Nd) (ss : List Sc) : Prop where
  dfs : Dfs ss src S S'
  look : LookW w' B L M T M1 M2 v ds ss
  set : Row w' G 106 (setV S')
  turns : Turns w w' M G
theorem ints_at {l : List Nat} {k m : Nat} (h : l[k]? = some m) : (natInts l)[k]? = some (m : Int) := by
  unfold natInts
  rw [List.getElem?_map, h]; rfl
set_option maxRecDepth 100000 in
set_option maxHeartbeats 4000000 in
theorem reach_any {ss : List Sc} (hv : Valid ss) {B L M T M1 M2 G : Nat} {v : Value} {ds : List Nd} (n : Nat) : ∀ (S : Nat → Bool), gaps S ≤ n → ∀ (s : Nat) (d : Nd), ds[s]? = some d → ∀ w : World, LookW w B L M T M1 M2 v ds ss → Row w G 106 (setV S) →
    Calls Tryd.prog 109 #[.pointer (some ⟨L, 0, none⟩), .pointer (some ⟨d.blk, 0, none⟩), .pointer (some ⟨G, 0, none⟩)] w fun e w' => e = .returned (.tuple #[]) ∧ ∃ S', ReachLeft (impP ss s) S S' G w w' B L M T M1 M2 v ds ss := by
  induction n using Nat.strongRecOn with
  | _ n ih =>
  intro S hS s d hd w hL hG
  have C := Lib.hid (importsOf_any hv hL hd (target_any hv s))
  have HV := Lib.hid hv
  have HL := Lib.hid hL
  have HG := Lib.hid hG
  have HIH := Lib.hid ih
  have HS := Lib.hid hS
  have HGL := Lib.hid hG.lt
  have HML := Lib.hid hL.memo.lt
  have HOK := Lib.hid (impP_ok hv s)
  have HLEN := Lib.hid (impP_length hv s)
  clear hv hL hG ih hS hd
  go_enter Tryd.func109, Tryd.ntmps109
  go_wp2_with fail
  refine C.out.mono ?_
  rintro e w1 ⟨u, rfl, hrow, hl1⟩
  have HROW := Lib.hid hrow
  obtain ⟨ou, cu, rfl, -⟩ := holdsInts_of_owns hrow
  have hnl : (natInts (impP ss s)).length = (impP ss s).length := natInts_length _
  rw [hnl] at HROW ⊢
  have HL1 := Lib.hid hl1.look
  have HT1 : Hid (Turns w w1 M G) := Lib.hid hl1.turns.more
  have HG1 : Hid (Row w1 G 106 (setV S)) := Lib.hid ((hl1.turns.cellsM HL.out.memo).block _ _ _ _ HGL.out HG.out)
  have hpl := HLEN.out
  clear hrow hl1 hnl
  go_wp2
  go_loopw [12] (fun i wr => ∃ (k : Nat) (Sk : Nat → Bool), i = .int .i64 k ∧ k ≤ (impP ss s).length ∧ Hid (ReachLeft ((impP ss s).take k) S Sk G w1 wr B L M T M1 M2 v ds ss)) (fun i _ => (impP ss s).length - (intOf i).toNat)
  case atStart => exact ⟨0, S, rfl, Nat.zero_le _, Lib.hid ⟨.nil _ _, HL1.out, HG1.out, Turns.refl _ _ _⟩⟩
  case round =>
    obtain ⟨k, Sk, rfl, hk, hP⟩ := hrel
    by_cases hlt : k < (impP ss s).length
    · obtain ⟨m, hm⟩ : ∃ m, (impP ss s)[k]? = some m := ⟨_, List.getElem?_eq_getElem hlt⟩
      have hml := HOK.out.1 m (List.mem_of_getElem? hm)
      have h6 := HV.out.count.2
      have hm6 : m < 6 := by omega
      obtain ⟨d2, hd2⟩ : ∃ d2, ds[m]? = some d2 := ⟨_, List.getElem?_eq_getElem (by have := HL.out.tree.hold.len; omega)⟩
      obtain ⟨o2, c2, he2, hh2⟩ := holdsInts_of_owns (ownsRow_turns HROW.out hP.out.turns HML.out HGL.out)
      have ho2 : ou = o2 := by
        simp only [Value.slice.injEq] at he2
        exact he2.1
      subst ho2
      obtain ⟨b2, f2, rfl, hb2, hcell2⟩ := hh2.at (by rw [natInts_length]; omega)
      have x0 := hcell2 k (m : Int) (ints_at hm)
      have HTK : Hid ((impP ss s).take (k + 1) = (impP ss s).take k ++ [m]) := Lib.hid (by rw [List.take_add_one, hm]; rfl)
      have g0 := hP.out.set.cell (setV_get Sk m hm6)
      have gf := hP.out.set.frozen m
      have HD2 := Lib.hid hd2
      clear hm hd2 he2 hh2 hcell2
      cases hSm : Sk m
      · rw [hSm] at g0
        have HSM := Lib.hid hSm
        clear hSm
        go_upto_region 5 with (fail)
        have hW : ∃ W, wr.setCell ⟨G, m, none⟩ (.bool true) = W := ⟨_, rfl⟩
        obtain ⟨W, hW⟩ := hW
        have HGW : Hid (Row W G 106 (setV (putS Sk m))) := Lib.hid (by
          have := hP.out.set.set m (.bool true)
          rw [setV_put1 hm6, hW] at this
          exact this)
        have hturn : Turns wr W M G := by
          rw [← hW]
          exact ⟨rfl, rfl, rfl, by simp, fun g _ _ h2 => Below.heap_setCell _ _ _ _ h2⟩
        have HMW : Hid (Memo W M ss) := Lib.hid (hP.out.look.memo.same (by
          rw [← hW]
          refine Below.heap_setCell _ _ _ _ ?_
          rintro rfl
          obtain ⟨es, clock, h1⟩ := hP.out.look.memo.block
          have h2 := hP.out.set
          unfold Row at h2
          rw [h1] at h2
          cases h2))
        have HLW := Lib.hid (hP.out.look.turnedG hP.out.set hturn HMW.out)
        have HTW := Lib.hid (hP.out.turns.trans hturn)
        rw [hW]
        clear hW hturn g0 gf x0
        obtain ⟨gp, capp, rfl, hgB, hgp, hslot⟩ := HLW.out.tree.tree.slot (by intro e; have := HD2.out; rw [e] at this; simp at this)
        have s0 := hslot m d2 HD2.out
        unfold Nd.ptr at s0
        have t0 := HLW.out.tree.tree.box.cell (i := 0) (by rfl)
        have l0 := HLW.out.box.cell (i := 0) (by rfl)
        have hdl := HLW.out.tree.hold.len
        have hgap : gaps (putS Sk m) < n := by
          have h1 := gaps_put hm6 HSM.out
          have h2 := hP.out.dfs.gaps
          have h3 := HS.out
          omega
        have C2 := Lib.hid (HIH.out (gaps (putS Sk m)) hgap (putS Sk m) (Nat.le_refl _) m d2 HD2.out W HLW.out HGW.out)
        clear hslot hgap
        go_wp2_with fail
        refine C2.out.mono ?_
        rintro e w2 ⟨rfl, S2, hr⟩
        have HR : Hid (ReachLeft ((impP ss s).take (k + 1)) S S2 G w1 w2 B L M T M1 M2 (.slice (some ⟨gp, 0, none⟩) ds.length capp) ds ss) := Lib.hid ⟨by rw [HTK.out]; exact hP.out.dfs.new hr.dfs, hr.look, hr.set, HTW.out.trans hr.turns⟩
        clear hr s0 t0 l0
        go_wp2
        go_roundw
        case rel => exact ⟨k + 1, S2, by go_num, by omega, HR⟩
        case measure => simp only [intOf]; omega
      · rw [hSm] at g0
        have HR : Hid (ReachLeft ((impP ss s).take (k + 1)) S Sk G w1 wr B L M T M1 M2 v ds ss) := Lib.hid ⟨by rw [HTK.out]; exact hP.out.dfs.old hSm, hP.out.look, hP.out.set, hP.out.turns⟩
        clear hSm
        go_wp2
        go_roundw
        case rel => exact ⟨k + 1, Sk, by go_num, by omega, HR⟩
        case measure => simp only [intOf]; omega
    · obtain rfl : k = (impP ss s).length := by omega
      have HR : Hid (ReachLeft (impP ss s) S Sk G w wr B L M T M1 M2 v ds ss) := Lib.hid ⟨by have := hP.out.dfs; rwa [List.take_length] at this, hP.out.look, hP.out.set, HT1.out.trans hP.out.turns⟩
      go_wp2
      go_end0
      exact ⟨rfl, Sk, HR.out⟩
end Go.Proofs.YtoijapbffhkbbaaDoor
namespace Go.Proofs.YtoijapbffhkbbaaDoor
open Go Go.RowKit Go.Maps
theorem setV_none : setV (fun _ => false) = [.bool false, .bool false, .bool false, .bool false, .bool false, .bool false] := rfl
set_option maxRecDepth 100000 in
set_option maxHeartbeats 4000000 in
theorem implCircles_any (ss : List Sc) (hF : Fair ss) (oa : Option Addr) (cap : Nat) (w : World) (hc : HoldsScopes w oa ss) (hE : TreeErrs w) :
    Calls Tryd.prog 55 #[.agg #[.slice oa ss.length cap]] w (ListGot (Valid ss) (circP ss) w) := by
  have hb0 := (Below.refl w.heap.size w).alloc (Nat.le_refl _) (.cells #[.slice oa ss.length cap] 30)
  have C := Lib.hid (hF.tree oa cap _ (hc.below hb0 (Nat.le_refl _)) (hE.below hb0 hE.size))
  have HB0 := Lib.hid hb0
  clear hF hc hE hb0
  go_enter Tryd.func55, Tryd.ntmps55
  go_wp2_with fail
  refine C.out.mono ?_
  rintro e w1 (⟨hv, ⟨tp, p, rfl⟩, hb⟩ | ⟨hv, T, M1, M2, v, ds, rfl, hb, hT⟩)
  · have HV := Lib.hid hv
    have HB := Lib.hid (HB0.out.trans (hb.mono HB0.out.size))
    clear hv hb
    go_wp2
    go_ret2
    exact .inl ⟨HV.out, rfl, HB.out⟩
  · have HV := Lib.hid hv
    have HB := Lib.hid (HB0.out.trans (hb.mono HB0.out.size))
    have HT := Lib.hid hT
    clear hv hb hT
    go_wp2_with fail
    refine (lookupIn_any T _).mono ?_
    rintro e w2 ⟨rfl, hR, hM, hb2⟩
    have HB2 := Lib.hid (HB.out.trans (hb2.mono HB.out.size))
    have HLW := Lib.hid (LookW.mk (HT.out.below hb2) hR (memo_nil hM) (by obtain ⟨_, h⟩ := HT.out.items; have := h.lt; omega) (by obtain ⟨_, h⟩ := HT.out.mods; have := h.lt; omega))
    have HMB : Hid (w.heap.size ≤ w1.heap.size) := Lib.hid HB.out.size
    obtain ⟨gp, capp, rfl, hgB, hgp, hslot0⟩ := HLW.out.tree.tree.slot (HLW.out.tree.ne HV.out)
    have t0 := HLW.out.tree.tree.box.cell (i := 0) (by rfl)
    have hdl := HLW.out.tree.hold.len
    have h6 := HV.out.count.2
    have HDL := Lib.hid hdl
    rw [hdl] at t0
    clear hR hM hb2 hslot0 hdl
    go_wp2
    go_loopw [7, 25] (fun u i wr => ∃ k : Nat, i = .int .i64 k ∧ k ≤ ss.length ∧ Hid (wr.ownsRow w2.heap.size 3 1 u (circUp ss k).length (numVals (circUp ss k)) ∧ Left w2 wr (w.alloc (.cells #[.slice oa ss.length cap] 30)).heap.size (w1.heap.size + 1) w1.heap.size T M1 M2 (.slice (some ⟨gp, 0, none⟩) ds.length capp) ds ss ∧ Below w.heap.size w wr)) (fun _ i _ => ss.length - (intOf i).toNat)
    case atStart => exact ⟨0, rfl, Nat.zero_le _, Lib.hid ⟨World.ownsRow_nil _ _ _ _, HLW.out.left, HB2.out⟩⟩
    case round =>
      obtain ⟨k, rfl, hk, hP⟩ := hrel
      by_cases hlt : k < ss.length
      · obtain ⟨d, hd⟩ : ∃ d, ds[k]? = some d := ⟨_, List.getElem?_eq_getElem (by have := HDL.out; omega)⟩
        obtain ⟨gp2, capp2, he2, -, -, hslot⟩ := hP.out.2.1.look.tree.tree.slot (by intro e; rw [e] at hd; simp at hd)
        simp only [Value.slice.injEq, Option.some.injEq, Addr.mk.injEq, and_true, true_and] at he2
        obtain ⟨rfl, rfl⟩ := he2
        have s0 := hslot k d hd
        unfold Nd.ptr at s0
        have hbA := (Below.refl wr.heap.size wr).alloc (Nat.le_refl _) (.cells #[.bool false, .bool false, .bool false, .bool false, .bool false, .bool false] 106)
        have HA := Lib.hid (hP.out.2.1.step hbA)
        have HSET : Hid (Row (wr.alloc (.cells #[.bool false, .bool false, .bool false, .bool false, .bool false, .bool false] 106)) wr.heap.size 106 (setV fun _ => false)) := Lib.hid (Row.new wr [.bool false, .bool false, .bool false, .bool false, .bool false, .bool false] 106)
        have C2 := Lib.hid (reach_any HV.out _ (fun _ => false) (Nat.le_refl _) k d hd _ HA.out.look HSET.out)
        have HD := Lib.hid hd
        have HST := Lib.hid (circUp_snoc ss k)
        have hcl := circUp_length ss k
        have HBA := Lib.hid hbA
        clear hslot hd hbA
        go_wp2_with fail
        refine C2.out.mono ?_
        rintro e w3 ⟨rfl, S', hr⟩
        have HT3 : Hid (Turns wr w3 w1.heap.size w1.heap.size) := Lib.hid (by
          have h1 := (Turns.of_below (M1 := w1.heap.size) (M2 := wr.heap.size) HBA.out).trans hr.turns
          exact ⟨h1.os, h1.tape, h1.output, h1.size, fun g hg h2 _ => h1.rest g hg h2 (by omega)⟩)
        have HL3 : Hid (Left w2 w3 (w.alloc (.cells #[.slice oa ss.length cap] 30)).heap.size (w1.heap.size + 1) w1.heap.size T M1 M2 (.slice (some ⟨gp, 0, none⟩) ds.length capp) ds ss) := Lib.hid ⟨hr.look, hP.out.2.1.turns.trans HT3.out⟩
        have HU3 := Lib.hid (ownsRow_turned hP.out.1 HT3.out hP.out.2.1.look.memo)
        have HB3 := Lib.hid (hP.out.2.2.trans (HT3.out.below HB.out.size HB.out.size hP.out.2.2.size))
        have hk6 : k < 6 := by omega
        have q0 := hr.set.cell (setV_get S' k hk6)
        have hre := hr.dfs.reach k
        rw [hre] at q0
        have m0 := (hr.look.tree.tree.node k d HD.out).2.cell (i := 0) (v := .int .i64 (k : Int)) (by rfl)
        clear s0 hr hre
        cases hq : reachB ss k k
        · rw [hq] at q0
          have HE : Hid (circUp ss (k + 1) = circUp ss k) := Lib.hid (by rw [HST.out, hq]; simp)
          clear hq
          go_wp2
          go_roundw
          case rel => exact ⟨k + 1, by go_num, by omega, Lib.hid (by rw [HE.out]; exact ⟨HU3.out, HL3.out, HB3.out⟩)⟩
          case measure => simp only [intOf]; omega
        · rw [hq] at q0
          have HE : Hid (circUp ss (k + 1) = circUp ss k ++ [k]) := Lib.hid (by rw [HST.out, hq]; simp)
          clear hq
          obtain ⟨i0, hi0, hz0, hz1, hz2⟩ := info_parts infoInt
          have hbs := HB3.out.size
          have hbs2 : w2.heap.size ≤ w3.heap.size := HL3.out.turns.size
          go_wp2_with (at_builtin; refine wpList_append_own _ rfl _ _ 50 rfl w2.heap.size 3 i0 (.int .i64 0) 1 8 Tryd.underlying50 hi0 hz0 hz1 hz2 rfl (by decide) _ _ _ rfl (HU3.out.alloc _) ⟨w3.heap.size, 0, none⟩ 1 1 [.int .i64 (k : Int)] rfl rfl ?c1 ?c2 ?c3 ?c4 ?c5 ?_)
          case c1 => exact cells_new _ _ _
          case c2 => intro u hu; simp only [List.mem_singleton] at hu; subst hu; rfl
          case c3 => unfold maxLen; omega
          case c4 => omega
          case c5 => simp only [World.size_alloc]; omega
          intro v' w6 hown' hgrow _
          have HB6 := Lib.hid (HB3.out.trans (below_append2 HU3.out hgrow HB2.out.size hbs))
          have HU6 := Lib.hid hown'
          have HL6 : Hid (Left w2 w6 (w.alloc (.cells #[.slice oa ss.length cap] 30)).heap.size (w1.heap.size + 1) w1.heap.size T M1 M2 (.slice (some ⟨gp, 0, none⟩) ds.length capp) ds ss) := Lib.hid (Left.far HLW.out HL3.out (below_append2 HU3.out hgrow (Nat.le_refl w2.heap.size) hbs2))
          clear hown' hgrow
          go_wp2
          go_roundw
          case rel => exact ⟨k + 1, by go_num, by omega, Lib.hid (by rw [HE.out, List.length_append, numVals_snoc]; exact ⟨HU6.out, HL6.out, HB6.out⟩)⟩
          case measure => simp only [intOf]; omega
      · obtain rfl : k = ss.length := by omega
        go_wp2
        go_ret2
        exact .inr ⟨HV.out, _, rfl, ownsRow_lower hP.out.1 HB2.out.size, hP.out.2.2⟩
end Go.Proofs.YtoijapbffhkbbaaDoor
namespace Go.Proofs.YtoijapbffhkbbaaDoor
open Go Go.RowKit
/-- Block g holds these numbers from some cell on, as a slice's value tells. -/
def Arr (w : World) (g : Nat) (v : Value) (xs : List Int) : Prop :=
  ∃ (off cap : Nat) (cur : Array Value), v = .slice (some ⟨g, off, none⟩) xs.length cap ∧ w.heap[g]? = some (.cells cur 3 (0, 0)) ∧ off + cap ≤ cur.size ∧ xs.length ≤ cap ∧ ∀ i x, xs[i]? = some x → cur[off + i]? = some (.int .i64 x)
theorem Arr.lt {w : World} {g : Nat} {v : Value} {xs : List Int} (h : Arr w g v xs) : g < w.heap.size := by
  obtain ⟨off, cap, cur, _, hh, _⟩ := h
  exact (Array.getElem?_eq_some_iff.1 hh).1
theorem Arr.same {w w' : World} {g : Nat} {v : Value} {xs : List Int} (h : Arr w g v xs) (hb : w'.heap[g]? = w.heap[g]?) : Arr w' g v xs := by
  obtain ⟨off, cap, cur, hv, hh, r⟩ := h
  exact ⟨off, cap, cur, hv, hb.trans hh, r⟩
theorem Arr.below {w w' : World} {g C : Nat} {v : Value} {xs : List Int} (h : Arr w g v xs) (hb : Below C w w') (hg : g < C) : Arr w' g v xs := h.same (hb.block g hg)
theorem Arr.grown {w w' : World} {g r : Nat} {v : Value} {xs : List Int} (h : Arr w g v xs) (hg : w.grownBy w' (some r)) (hne : g ≠ r) : Arr w' g v xs := h.same (hg.block g h.lt (by simpa using hne))
theorem Arr.made (w : World) : Arr (w.alloc (.cells #[] 3)) w.heap.size (.slice (some ⟨w.heap.size, 0, none⟩) 0 0) [] :=
  ⟨0, 0, #[], rfl, by rw [World.alloc, Array.getElem?_push]; simp, by simp, by simp, by simp⟩
theorem Arr.one (w : World) (n : Int) : Arr (w.alloc (.cells #[.int .i64 n] 3)) w.heap.size (.slice (some ⟨w.heap.size, 0, none⟩) 1 1) [n] :=
  ⟨0, 1, #[.int .i64 n], rfl, by rw [World.alloc, Array.getElem?_push]; simp, by simp, by simp, fun i x hx => by
    cases i with
    | zero => simp at hx; subst hx; rfl
    | succ i => simp at hx⟩
theorem Arr.shape {w : World} {g : Nat} {v : Value} {xs : List Int} (h : Arr w g v xs) : ∃ off cap, v = .slice (some ⟨g, off, none⟩) xs.length cap ∧ xs.length ≤ cap ∧ ∀ i x, xs[i]? = some x → w.cell? ⟨g, off + i, none⟩ = some (.int .i64 x) := by
  obtain ⟨off, cap, cur, hv, hh, h1, h2, h3⟩ := h
  refine ⟨off, cap, hv, h2, fun i x hx => ?_⟩
  simp [World.cell?, hh, h3 i x hx]
theorem Arr.ints {w : World} {g : Nat} {v : Value} {xs : List Int} (h : Arr w g v xs) : ∃ oa cap, v = .slice oa xs.length cap ∧ HoldsInts w oa xs := by
  obtain ⟨off, cap, hv, _, hc⟩ := h.shape
  exact ⟨_, cap, hv, .inr ⟨g, off, rfl, h.lt, hc⟩⟩
/-- The first number left out. -/
theorem Arr.tail {w : World} {g off cap n : Nat} {k : Int} {xs : List Int} (h : Arr w g (.slice (some ⟨g, off, none⟩) n cap) (k :: xs)) : Arr w g (.slice (some ⟨g, off + 1, none⟩) xs.length (cap - 1)) xs := by
  obtain ⟨off', cap', cur, hv, hh, h1, h2, h3⟩ := h
  simp only [Value.slice.injEq, Option.some.injEq, Addr.mk.injEq, true_and, and_true] at hv
  obtain ⟨rfl, rfl, rfl⟩ := hv
  rw [List.length_cons] at h2
  refine ⟨off + 1, cap - 1, cur, rfl, hh, by omega, by omega, fun i x hx => ?_⟩
  have := h3 (i + 1) x (by simpa using hx)
  rwa [show off + (i + 1) = off + 1 + i from by omega] at this
theorem Arr.tail1 {w : World} {g off n : Nat} {k : Int} {xs : List Int} (h : Arr w g (.slice (some ⟨g, off, none⟩) n 1) (k :: xs)) : xs = [] ∧ Arr w g (.slice (some ⟨g, off, none⟩) 0 0) [] := by
  obtain ⟨off', cap', cur, hv, hh, h1, h2, h3⟩ := h
  simp only [Value.slice.injEq, Option.some.injEq, Addr.mk.injEq, true_and, and_true] at hv
  obtain ⟨rfl, rfl, rfl⟩ := hv
  rw [List.length_cons] at h2
  refine ⟨List.eq_nil_of_length_eq_zero (by omega), ⟨off, 0, cur, rfl, hh, by omega, by simp, by simp⟩⟩
theorem infoArr : (Tryd.prog.info? 3).map (fun i => (i.zero, i.size, i.bytes)) = some (some (.int .i64 0), 1, 8) := by kernel_rfl
theorem run_append_arr {w : World} {g : Nat} {v : Value} {xs : List Int} (h : Arr w g v xs) (hl : xs.length < 1000000) (ty : TypeId) (ad : Addr) (c : Nat) (m : Int) (hnews : ∀ j u, [Value.int .i64 m][j]? = some u → w.cell? (ad.add j) = some u) :
    ∃ v' w' g', (Builtin.append_ #[50, 50] ty #[v, .slice (some ad) 1 c]).run Tryd.prog w = .ok v' w' ∧ Arr w' g' v' (xs ++ [m]) ∧ (g' = g ∨ g' = w.heap.size) ∧ w.grownBy w' (some g) := by
  obtain ⟨off, cap, cur, rfl, hh, h1, h2, h3⟩ := h
  obtain ⟨i0, hi, hz0, hz1, hz2⟩ := info_parts infoArr
  have ht := Tryd.underlying50
  have hs : Src Tryd.prog i0.size 50 (.slice (some ad) 1 c) 1 [.int .i64 m] w := by
    rw [hz1]
    exact Src.ofSlice w ht ad 1 c _ rfl hnews (fun u hu => by simp only [List.mem_singleton] at hu; subst hu; rfl)
  by_cases hroom : xs.length + 1 ≤ cap
  · have hcell : off + xs.length < cur.size := by omega
    have hsome : (w.cell? ⟨g, off + xs.length, none⟩).isSome = true := by simp [World.cell?, hh, hcell]
    have hfr : ∀ j, w.frozen? ⟨g, j, none⟩ = false := fun j => by simp [World.frozen?, hh]
    have hrun := run_append_room_src (P := Tryd.prog) w 50 50 ty 3 i0 ht hi g off xs.length cap _ 1 _ hs hroom (fun j hj => by
      have : j = 0 := by simpa using hj
      subst this
      rw [hz1]
      simpa using hsome) (fun j _ => hfr _)
    have e : w.setCells g (off + xs.length * i0.size) [.int .i64 m] = w.setCell ⟨g, off + xs.length, none⟩ (.int .i64 m) := by
      rw [hz1, Nat.mul_one]
      rfl
    rw [e] at hrun
    refine ⟨_, _, g, hrun, ⟨off, cap, cur.setIfInBounds (off + xs.length) (.int .i64 m), by rw [List.length_append]; rfl, ?_, by simpa using h1, by simpa using hroom, fun i x hx => ?_⟩, .inl rfl, ⟨rfl, rfl, rfl, by simp, fun k _ hk => Below.heap_setCell _ _ _ _ (by simpa using hk)⟩⟩
    · simp [World.setCell, Array.getElem?_modify, hh]
    · rw [List.getElem?_append] at hx
      split at hx
      · rename_i hi'
        rw [Array.getElem?_setIfInBounds_ne (by omega)]
        exact h3 i x hx
      · rename_i hi'
        have hi0 : i = xs.length := by
          have := (List.getElem?_eq_some_iff.1 hx).1
          simp at this
          omega
        subst hi0
        simp at hx
        subst hx
        simp [hcell]
  · have holds : ∀ j u, (xs.map (Value.int .i64))[j]? = some u → w.drew.cell? ((⟨g, off, none⟩ : Addr).add j) = some u := fun j u hu => by
      rw [List.getElem?_map] at hu
      obtain ⟨x, hx, rfl⟩ := Option.map_eq_some_iff.1 hu
      rw [Addr.add_lit]
      show w.cell? ⟨g, off + j, none⟩ = _
      simp [World.cell?, hh, h3 j x hx]
    have hold := run_firstCells_some (P := Tryd.prog) w.drew i0.size xs.length ⟨g, off, none⟩ xs.length cap (xs.map (Value.int .i64)) (by rw [hz1]; simp) holds
    have hrun := run_append_grow_src (P := Tryd.prog) w 50 50 ty 3 i0 (.int .i64 0) ht hi hz0 (some ⟨g, off, none⟩) xs.length cap _ hold _ 1 _ hs (by omega) (by omega) (growslice_fits (by omega) (by rw [hz2]; omega))
    have hge := grownCap_ge w (xs.length + 1) cap 3
    have hsz : ((xs.map (Value.int .i64) ++ [Value.int .i64 m]).toArray ++ Builtin.zeroCells (Value.int .i64 0).cells (grownCap w (xs.length + 1) cap 3 - (xs.length + 1))).size = grownCap w (xs.length + 1) cap 3 := by
      rw [Array.size_append, size_zeroCells]
      simp [Value.cells]
      omega
    refine ⟨_, _, w.heap.size, hrun, ⟨0, grownCap w (xs.length + 1) cap 3, _, by rw [List.length_append]; rfl, heap_alloc_new w.drew _, by rw [hsz]; omega, by simpa using hge, fun i x hx => ?_⟩, .inr rfl, ⟨rfl, rfl, rfl, by simp, fun k hk _ => heap_alloc_old w.drew _ hk⟩⟩
    have hil := (List.getElem?_eq_some_iff.1 hx).1
    rw [Nat.zero_add, Array.getElem?_append_left (by simpa using hil), List.getElem?_toArray]
    have : xs.map (Value.int .i64) ++ [Value.int .i64 m] = (xs ++ [m]).map (Value.int .i64) := by simp
    rw [this, List.getElem?_map, hx]
    rfl
theorem wpList_append_arr {w : World} {ops : Array Oper} {rest : List Oper} {o : Oper} {a : Act} {Q : Exit → Act → World → Prop} (hgd : o.guard = none) (s x : Operand)
    (ho : o.op = .call { callee := .builtin .append, args := #[s, x], argTypes := #[50, 50] })
    {g : Nat} {v : Value} {xs : List Int} (hs : a.eval s = v) (h : Arr w g v xs) (hl : xs.length < 1000000) (ad : Addr) (c : Nat) (m : Int) (hx : a.eval x = .slice (some ad) 1 c)
    (hnews : ∀ j u, [Value.int .i64 m][j]? = some u → w.cell? (ad.add j) = some u)
    (hK : ∀ v' w' g', Arr w' g' v' (xs ++ [m]) → (g' = g ∨ g' = w.heap.size) → w.grownBy w' (some g) → wpList Tryd.prog ops Q rest (a.put o.dst v') w') : wpList Tryd.prog ops Q (o :: rest) a w := by
  refine wpList_plain hgd fun K hK' => ?_
  obtain ⟨v', w', g', hrun, r1, r2, r3⟩ := run_append_arr h hl o.type ad c m hnews
  unfold Oper.wp
  simp [execOp, ho, resolve, invoke, builtin, hs, hx, hrun, Result.andThen]
  exact hK' _ _ (hK v' w' g' r1 r2 r3)
end Go.Proofs.YtoijapbffhkbbaaDoor
namespace Go.Proofs.YtoijapbffhkbbaaDoor
open Go Go.RowKit Go.Maps
/-- Two lists of numbers of the call's own, and a third one that is only read, in blocks that lie apart. -/
def TwoArr (B : Nat) (w : World) (vo vt : Value) (out todo : List Nat) (u : Value) (l : List Nat) : Prop :=
  ∃ go gt, Arr w go vo (natInts out) ∧ Arr w gt vt (natInts todo) ∧ go ≠ gt ∧ B ≤ go ∧ B ≤ gt ∧ (l = [] ∨ ∃ h, Arr w h u (natInts l) ∧ go ≠ h ∧ gt ≠ h)
theorem TwoArr.below {B : Nat} {w w' : World} {vo vt u : Value} {out todo l : List Nat} (h : TwoArr B w vo vt out todo u l) (hb : Below w.heap.size w w') : TwoArr B w' vo vt out todo u l := by
  obtain ⟨go, gt, h1, h2, h3, h4, h5, h6⟩ := h
  exact ⟨go, gt, h1.below hb h1.lt, h2.below hb h2.lt, h3, h4, h5, h6.imp id fun ⟨h, k1, k2⟩ => ⟨h, k1.below hb k1.lt, k2⟩⟩
theorem TwoArr.bare {B : Nat} {w : World} {vo vt u u' : Value} {out todo l : List Nat} (h : TwoArr B w vo vt out todo u l) : TwoArr B w vo vt out todo u' [] := by
  obtain ⟨go, gt, h1, h2, h3, h4, h5, -⟩ := h
  exact ⟨go, gt, h1, h2, h3, h4, h5, .inl rfl⟩
theorem natInts_snoc (l : List Nat) (m : Nat) : natInts (l ++ [m]) = natInts l ++ [(m : Int)] := by simp [natInts]
/-- A list of one's own that is only read. -/
theorem arr_of_owns {w : World} {B : Nat} {v : Value} {l : List Nat} (h : w.ownsRow B 3 1 v l.length (numVals l)) : (l = [] ∧ v = .slice none 0 0) ∨ ∃ h, Arr w h v (natInts l) ∧ B ≤ h := by
  obtain ⟨hl, h2 | ⟨g, cap, cur, hv, hB, hh, hn, _, hs, ht⟩⟩ := h
  · exact .inl ⟨List.eq_nil_of_length_eq_zero h2.2, h2.1⟩
  · right
    refine ⟨g, ⟨0, cap, cur, by rw [natInts_length]; exact hv, hh, by omega, by rw [natInts_length]; exact hn, fun i x hx => ?_⟩, hB⟩
    have hil := (List.getElem?_eq_some_iff.1 hx).1
    rw [natInts_length] at hil
    have hx' : (numVals l)[i]? = some (.int .i64 x) := by
      unfold natInts at hx
      unfold numVals
      rw [List.getElem?_map] at hx ⊢
      cases e : l[i]? with
      | none => rw [e] at hx; cases hx
      | some m => rw [e] at hx; simp at hx; subst hx; rfl
    rw [← ht, List.getElem?_take_of_lt (by omega)] at hx'
    rw [Nat.zero_add]
    simpa using hx'
theorem grown_below1 {w w' : World} {g B : Nat} (h : w.grownBy w' (some g)) (hg : B ≤ g) (hB : B ≤ w.heap.size) : Below B w w' := (Below.refl B w).grown h hB (fun r e => by cases e; exact hg)
theorem wpList_append_out {w : World} {ops : Array Oper} {rest : List Oper} {o : Oper} {a : Act} {Q : Exit → Act → World → Prop} (hgd : o.guard = none) (s x : Operand)
    (ho : o.op = .call { callee := .builtin .append, args := #[s, x], argTypes := #[50, 50] })
    {B : Nat} {vo vt u : Value} {out todo l : List Nat} (hs : a.eval s = vo) (h : TwoArr B w vo vt out todo u l) (hl : out.length < 1000000) (hB : B ≤ w.heap.size) (ad : Addr) (c : Nat) (m : Nat) (hx : a.eval x = .slice (some ad) 1 c)
    (hnews : ∀ j u, [Value.int .i64 (m : Int)][j]? = some u → w.cell? (ad.add j) = some u)
    (hK : ∀ v' w', TwoArr B w' v' vt (out ++ [m]) todo u l → Below B w w' → wpList Tryd.prog ops Q rest (a.put o.dst v') w') : wpList Tryd.prog ops Q (o :: rest) a w := by
  obtain ⟨go, gt, h1, h2, h3, h4, h5, h6⟩ := h
  refine wpList_append_arr hgd s x ho hs h1 (by rw [natInts_length]; exact hl) ad c (m : Int) hx hnews fun v' w' g' k1 k2 k3 => ?_
  refine hK v' w' ⟨g', gt, by rw [natInts_snoc]; exact k1, h2.grown k3 (Ne.symm h3), ?_, ?_, h5, h6.imp id fun ⟨h, j1, j2, j3⟩ => ⟨h, j1.grown k3 (Ne.symm j2), ?_, j3⟩⟩ (grown_below1 k3 h4 hB)
  · rcases k2 with rfl | rfl
    · exact h3
    · have := h2.lt; omega
  · rcases k2 with rfl | rfl
    · exact h4
    · exact hB
  · rcases k2 with rfl | rfl
    · exact j2
    · have := j1.lt; omega
theorem wpList_append_todo {w : World} {ops : Array Oper} {rest : List Oper} {o : Oper} {a : Act} {Q : Exit → Act → World → Prop} (hgd : o.guard = none) (s x : Operand)
    (ho : o.op = .call { callee := .builtin .append, args := #[s, x], argTypes := #[50, 50] })
    {B : Nat} {vo vt u : Value} {out todo l : List Nat} (hs : a.eval s = vt) (h : TwoArr B w vo vt out todo u l) (hl : todo.length < 1000000) (hB : B ≤ w.heap.size) (ad : Addr) (c : Nat) (m : Nat) (hx : a.eval x = .slice (some ad) 1 c)
    (hnews : ∀ j u, [Value.int .i64 (m : Int)][j]? = some u → w.cell? (ad.add j) = some u)
    (hK : ∀ v' w', TwoArr B w' vo v' out (todo ++ [m]) u l → Below B w w' → wpList Tryd.prog ops Q rest (a.put o.dst v') w') : wpList Tryd.prog ops Q (o :: rest) a w := by
  obtain ⟨go, gt, h1, h2, h3, h4, h5, h6⟩ := h
  refine wpList_append_arr hgd s x ho hs h2 (by rw [natInts_length]; exact hl) ad c (m : Int) hx hnews fun v' w' g' k1 k2 k3 => ?_
  refine hK v' w' ⟨go, g', h1.grown k3 h3, by rw [natInts_snoc]; exact k1, ?_, h4, ?_, h6.imp id fun ⟨h, j1, j2, j3⟩ => ⟨h, j1.grown k3 (Ne.symm j3), j2, ?_⟩⟩ (grown_below1 k3 h5 hB)
  · rcases k2 with rfl | rfl
    · exact h3
    · have := h1.lt; omega
  · rcases k2 with rfl | rfl
    · exact h5
    · exact hB
  · rcases k2 with rfl | rfl
    · exact j3
    · have := j1.lt; omega
def slLen : Value → Nat
  | .slice _ n _ => n
  | _ => 0
theorem TwoArr.lens {B : Nat} {w : World} {vo vt u : Value} {out todo l : List Nat} (h : TwoArr B w vo vt out todo u l) : slLen vo = out.length ∧ slLen vt = todo.length := by
  obtain ⟨go, gt, h1, h2, -⟩ := h
  obtain ⟨_, _, rfl, -⟩ := h1.shape
  obtain ⟨_, _, rfl, -⟩ := h2.shape
  exact ⟨natInts_length _, natInts_length _⟩
theorem TwoArr.outInts {B : Nat} {w : World} {vo vt u : Value} {out todo l : List Nat} (h : TwoArr B w vo vt out todo u l) : ∃ oa cap, vo = .slice oa (natInts out).length cap ∧ HoldsInts w oa (natInts out) := by
  obtain ⟨go, gt, h1, -⟩ := h
  exact h1.ints
theorem TwoArr.todoShape {B : Nat} {w : World} {vo vt u : Value} {out todo l : List Nat} (h : TwoArr B w vo vt out todo u l) : ∃ ot ct, vt = .slice ot todo.length ct := by
  obtain ⟨go, gt, -, h2, -⟩ := h
  obtain ⟨off, c, hv, -⟩ := h2.shape
  exact ⟨_, c, by rw [hv, natInts_length]⟩
theorem TwoArr.read {B : Nat} {w : World} {vo vt u : Value} {out todo l : List Nat} (h : TwoArr B w vo vt out todo u l) (hl : l ≠ []) : ∃ h off cap, u = .slice (some ⟨h, off, none⟩) l.length cap ∧ ∀ (i m : Nat), l[i]? = some m → w.cell? ⟨h, off + i, none⟩ = some (.int .i64 (m : Int)) := by
  obtain ⟨go, gt, -, -, -, -, -, h6⟩ := h
  rcases h6 with h6 | ⟨g, h6, -⟩
  · exact absurd h6 hl
  · obtain ⟨off, cap, hv, _, hc⟩ := h6.shape
    exact ⟨g, off, cap, by rw [hv, natInts_length], fun i m hm => hc i (m : Int) (by unfold natInts; rw [List.getElem?_map, hm]; rfl)⟩
/-- The first number taken off. -/
theorem TwoArr.pop {B : Nat} {w : World} {vo vt u : Value} {out rest l : List Nat} {k : Nat} (h : TwoArr B w vo vt out (k :: rest) u l) : ∃ g off cap, vt = .slice (some ⟨g, off, none⟩) (rest.length + 1) cap ∧ rest.length + 1 ≤ cap ∧ w.cell? ⟨g, off, none⟩ = some (.int .i64 (k : Int)) ∧
    (cap = 1 → TwoArr B w vo (.slice (some ⟨g, off, none⟩) 0 0) out rest u l ∧ rest = []) ∧ (cap ≠ 1 → TwoArr B w vo (.slice (some ⟨g, off + 1, none⟩) rest.length (cap - 1)) out rest u l) := by
  obtain ⟨go, gt, h1, h2, h3, h4, h5, h6⟩ := h
  have e : natInts (k :: rest) = (k : Int) :: natInts rest := rfl
  rw [e] at h2
  obtain ⟨off, cap, hv, hc, hcell⟩ := h2.shape
  rw [List.length_cons, natInts_length] at hv hc
  subst hv
  refine ⟨gt, off, cap, rfl, hc, hcell 0 _ rfl, fun h => ?_, fun h => ?_⟩
  · subst h
    obtain ⟨k1, k2⟩ := h2.tail1
    have k3 : rest = [] := by simpa [natInts] using k1
    subst k3
    exact ⟨⟨go, gt, h1, k2, h3, h4, h5, h6⟩, rfl⟩
  · have k1 := h2.tail
    rw [natInts_length] at k1
    exact ⟨go, gt, h1, k1, h3, h4, h5, h6⟩
/-- A list to read beside the two. -/
theorem TwoArr.reading {B C : Nat} {w : World} {vo vt u' v : Value} {out todo l : List Nat} (h : TwoArr B w vo vt out todo u' []) (hC : ∀ go, (∃ xs, Arr w go vo xs ∨ Arr w go vt xs) → go < C) (hr : w.ownsRow C 3 1 v l.length (numVals l)) : TwoArr B w vo vt out todo v l := by
  obtain ⟨go, gt, h1, h2, h3, h4, h5, -⟩ := h
  refine ⟨go, gt, h1, h2, h3, h4, h5, ?_⟩
  rcases arr_of_owns hr with ⟨k1, -⟩ | ⟨g, k1, k2⟩
  · exact .inl k1
  · have a1 := hC go ⟨_, .inl h1⟩
    have a2 := hC gt ⟨_, .inr h2⟩
    exact .inr ⟨g, k1, by omega, by omega⟩
theorem Arr.block {w : World} {g : Nat} {v : Value} {xs : List Int} (h : Arr w g v xs) : v.ownBlock = some g := by
  obtain ⟨_, _, _, rfl, -⟩ := h
  rfl
/-- At the head of the inner loop: j of what k imports have been looked at. -/
structure InnerAt (ss : List Sc) (s k j no nt : Nat) (w wr : World) (oa : Option Addr) (cap : Nat) (vo vt u : Value) (out todo : List Nat) : Prop where
  arrs : TwoArr (w.heap.size + 1) wr vo vt out todo u (impP ss k)
  bfs : Bfs ss s out todo (fun m => m = k)
  from' : k = s ∨ k ∈ out
  done : ∀ m ∈ (impP ss k).take j, m ∈ out
  count : out.length + nt = todo.length + no
  more : no ≤ out.length
  box : Row wr w.heap.size 30 [.slice oa ss.length cap]
  below : Below w.heap.size w wr
structure OuterAt (ss : List Sc) (s : Nat) (w wr : World) (oa : Option Addr) (cap : Nat) (vo vt : Value) (out todo : List Nat) : Prop where
  arrs : TwoArr (w.heap.size + 1) wr vo vt out todo vo []
  bfs : Bfs ss s out todo (fun _ => False)
  box : Row wr w.heap.size 30 [.slice oa ss.length cap]
  below : Below w.heap.size w wr
  count : todo.length ≤ out.length + 1
theorem below_down {n m : Nat} {a b : World} (h : Below n a b) (hm : m ≤ n) : Below m a b := h.mono hm
/-- What l3Reach leaves. -/
def ReachGot (ss : List Sc) (s : Nat) (w : World) (e : Ending) (w' : World) : Prop := ∃ (l : List Nat) (o : Option Addr) (c : Nat), e = .returned (.slice o (natInts l).length c) ∧ HoldsInts w' o (natInts l) ∧ (∀ m, m ∈ l ↔ Reach ss s m) ∧ l.length ≤ 6 ∧ Below w.heap.size w w'
set_option maxRecDepth 100000 in
set_option maxHeartbeats 4000000 in
theorem specReach_any (ss : List Sc) (hv : Valid ss) (hf : FitsScopes ss) (oa : Option Addr) (cap : Nat) (s : Nat) (hs : s < ss.length) (w : World) (hc : HoldsScopes w oa ss) :
    Calls Tryd.prog 111 #[.agg #[.slice oa ss.length cap], .int .i64 (s : Int)] w (ReachGot ss s w) := by
  have hb0 : Below w.heap.size w (((w.alloc (.cells #[.slice oa ss.length cap] 30)).alloc (.cells #[] 3)).alloc (.cells #[.int .i64 (s : Int)] 3)) := (((Below.refl _ _).alloc (Nat.le_refl _) _).alloc (by simp) _).alloc (by simp; omega) _
  have hA : TwoArr (w.heap.size + 1) (((w.alloc (.cells #[.slice oa ss.length cap] 30)).alloc (.cells #[] 3)).alloc (.cells #[.int .i64 (s : Int)] 3)) (.slice (some ⟨w.heap.size + 1, 0, none⟩) 0 0) (.slice (some ⟨w.heap.size + 1 + 1, 0, none⟩) 1 1) [] [s] (.slice (some ⟨w.heap.size + 1, 0, none⟩) 0 0) [] := by
    have a1 := Arr.made (w.alloc (.cells #[.slice oa ss.length cap] 30))
    have a2 := Arr.one ((w.alloc (.cells #[.slice oa ss.length cap] 30)).alloc (.cells #[] 3)) (s : Int)
    rw [World.size_alloc] at a1
    rw [World.size_alloc, World.size_alloc] at a2
    refine ⟨_, _, a1.below ((Below.refl _ _).alloc (Nat.le_refl _) _) (by simp), a2, by omega, by omega, by omega, .inl rfl⟩
  have HP0 : Hid (OuterAt ss s w (((w.alloc (.cells #[.slice oa ss.length cap] 30)).alloc (.cells #[] 3)).alloc (.cells #[.int .i64 (s : Int)] 3)) oa cap (.slice (some ⟨w.heap.size + 1, 0, none⟩) 0 0) (.slice (some ⟨w.heap.size + 1 + 1, 0, none⟩) 1 1) [] [s]) :=
    Lib.hid ⟨hA, Bfs.start ss s, ((Row.new w [.slice oa ss.length cap] 30).alloc _).alloc _, hb0, Nat.le_refl _⟩
  have HC := Lib.hid hc
  have HV := Lib.hid hv
  have HF := Lib.hid hf
  have HS := Lib.hid hs
  have HN6 := Lib.hid hv.count.2
  clear hc hv hf hs hb0 hA
  go_enter Tryd.func111, Tryd.ntmps111
  go_wp2
  go_loopw [5, 6] (fun vo vt wr => ∃ out todo : List Nat, Hid (OuterAt ss s w wr oa cap vo vt out todo)) (fun vo vt _ => 2 * (6 - slLen vo) + slLen vt)
  case atStart => exact ⟨[], [s], HP0⟩
  case round =>
    obtain ⟨out, todo, hP⟩ := hrel
    cases todo with
    | nil =>
      obtain ⟨oo, co, rfl, ho⟩ := hP.out.arrs.outInts
      have hlt := hP.out.arrs.lens.2
      obtain ⟨go, gt, -, h2, -⟩ := hP.out.arrs
      obtain ⟨off, capt, rfl, -⟩ := h2.shape
      have HO := Lib.hid ho
      clear ho hlt h2
      have e0 : (natInts ([] : List Nat)).length = 0 := rfl
      rw [e0]
      clear e0
      go_wp2
      go_ret
      exact ⟨out, oo, co, rfl, HO.out, hP.out.bfs.reach, Nat.le_trans hP.out.bfs.length HN6.out, hP.out.below⟩
    | cons k rest =>
      obtain ⟨gt, off, capt, rfl, hcl, x0, hp1, hp2⟩ := hP.out.arrs.pop
      obtain ⟨oo, co, rfl, -⟩ := hP.out.arrs.outInts
      have hks : k < ss.length := by
        rcases hP.out.bfs.sub k List.mem_cons_self with rfl | h
        · exact HS.out
        · exact hP.out.bfs.lt k h
      have HKS := Lib.hid hks
      have hol := hP.out.bfs.length
      have hn6 := HN6.out
      have HCNT := Lib.hid hP.out.count
      have hrl := hP.out.count
      rw [List.length_cons] at hrl
      obtain ⟨a', ha'⟩ : ∃ a', (if capt = 1 then some (⟨gt, off, none⟩ : Addr) else some (⟨gt, off + 1, none⟩ : Addr)) = a' := ⟨_, rfl⟩
      have HA : Hid (TwoArr (w.heap.size + 1) wr (.slice oo (natInts out).length co) (.slice a' rest.length (capt - 1)) out rest (.slice oo (natInts out).length co) []) := Lib.hid (by
        rw [← ha']
        by_cases h1 : capt = 1
        · obtain ⟨k1, k2⟩ := hp1 h1
          subst h1 k2
          exact k1
        · rw [if_neg h1]
          exact hp2 h1)
      have HSPLIT : Hid (k = s ∨ k ∈ out) := Lib.hid (hP.out.bfs.sub k List.mem_cons_self)
      have HPOP := Lib.hid hP.out.bfs.pop
      have g0 := hP.out.box.cell (i := 0) (by rfl)
      have C := Lib.hid (specImported_any ss HV.out HF.out oa cap k hks wr (HC.out.below hP.out.below (Nat.le_refl _)))
      have HIF := Lib.hid ha'
      clear hp1 hp2 hks ha'
      go_upto_region 6 with (fail)
      rw [HIF.out]
      clear x0
      go_wp2_with fail
      refine C.out.mono ?_
      rintro e w1 ⟨u, rfl, hrow, hb1⟩
      have HB1 := Lib.hid (hP.out.below.trans (hb1.mono hP.out.below.size))
      have HBOX1 := Lib.hid (hP.out.box.below hb1 hP.out.box.lt)
      have HI : Hid (InnerAt ss s k 0 out.length rest.length w w1 oa cap (.slice oo (natInts out).length co) (.slice a' rest.length (capt - 1)) u out rest) := Lib.hid
        { arrs := (HA.out.below hb1).reading (fun go ⟨xs, h⟩ => by
            obtain ⟨go1, gt1, h1, h2, -⟩ := HA.out
            rcases h with h | h
            · have e := h.block.symm.trans h1.block
              cases e
              exact h1.lt
            · have e := h.block.symm.trans h2.block
              cases e
              exact h2.lt) hrow
          bfs := HPOP.out
          from' := HSPLIT.out
          done := by simp
          count := by omega
          more := Nat.le_refl _
          box := HBOX1.out
          below := HB1.out }
      obtain ⟨ou, cu, rfl⟩ : ∃ ou cu, u = .slice ou (impP ss k).length cu := by
        obtain ⟨ou, cu, rfl, -⟩ := holdsInts_of_owns hrow
        exact ⟨ou, cu, by rw [natInts_length]⟩
      have hil := impP_length HV.out k
      clear hrow hb1 g0
      go_wp2
      go_loopw [5, 6, 25] (fun vo vt i wr2 => ∃ (j : Nat) (out' todo' : List Nat), i = .int .i64 j ∧ j ≤ (impP ss k).length ∧ Hid (InnerAt ss s k j out.length rest.length w wr2 oa cap vo vt (.slice ou (impP ss k).length cu) out' todo')) (fun _ _ i _ => (impP ss k).length - (intOf i).toNat)
      case atStart => exact ⟨0, out, rest, rfl, Nat.zero_le _, HI⟩
      case round =>
        obtain ⟨j, out2, todo2, rfl, hj, hQ⟩ := hrel
        obtain ⟨oo2, co2, rfl, ho2⟩ := hQ.out.arrs.outInts
        have HLENS := Lib.hid hQ.out.arrs.lens
        obtain ⟨ot2, ct2, rfl⟩ := hQ.out.arrs.todoShape
        have hol2 := hQ.out.bfs.length
        have hcnt2 := hQ.out.count
        by_cases hlt : j < (impP ss k).length
        · obtain ⟨m, hm⟩ : ∃ m, (impP ss k)[j]? = some m := ⟨_, List.getElem?_eq_getElem hlt⟩
          obtain ⟨bh, fh, ch, hu, hcell⟩ := hQ.out.arrs.read (by intro e; rw [e] at hlt; simp at hlt)
          simp only [Value.slice.injEq, true_and] at hu
          obtain ⟨rfl, rfl⟩ := hu
          have x1 := hcell j m hm
          have HM := Lib.hid hm
          have HIM := Lib.hid (List.mem_of_getElem? hm)
          have HTK : Hid ((impP ss k).take (j + 1) = (impP ss k).take j ++ [m]) := Lib.hid (by rw [List.take_add_one, hm]; rfl)
          have HNL : Hid ((natInts out2).length < 2 ^ 40) := Lib.hid (by rw [natInts_length]; omega)
          have HO2 := Lib.hid ho2
          clear hm hcell ho2
          go_wp2_with fail
          refine (l2In_any (natInts out2) oo2 co2 (m : Int) _ HNL.out HO2.out).mono ?_
          rintro e w3 ⟨rfl, hb3⟩
          obtain ⟨q, hq2⟩ : ∃ q, decide ((m : Int) ∈ natInts out2) = q := ⟨_, rfl⟩
          rw [hq2]
          have HQ := Lib.hid hq2
          have HA3 := Lib.hid (hQ.out.arrs.below hb3)
          have HB3 := Lib.hid (hQ.out.below.trans (hb3.mono hQ.out.below.size))
          have HBOX3 := Lib.hid (hQ.out.box.below hb3 hQ.out.box.lt)
          clear hb3 hq2 x1
          cases q
          · have HNI : Hid (m ∉ out2) := Lib.hid (fun h => by have := HQ.out; simp [mem_natInts.2 h] at this)
            have HPU := Lib.hid (hQ.out.bfs.push HV.out hQ.out.from' HIM.out HNI.out)
            have hbs3 : w.heap.size + 1 ≤ w3.heap.size := HBOX3.out.lt
            have hno2 : out2.length < 1000000 := by omega
            have hnt2 : todo2.length < 1000000 := by omega
            go_wp2_with (at_builtin; refine wpList_append_out rfl _ _ rfl (B := w.heap.size + 1) rfl (HA3.out.below ((Below.refl _ _).alloc (Nat.le_refl _) _)) hno2 (by simp only [World.size_alloc]; omega) ⟨w3.heap.size, 0, none⟩ 1 m rfl (cells_new _ _ _) ?_)
            intro v4 w4 hA4 hb4
            have HA4 := Lib.hid hA4
            have HB4 := Lib.hid (((HB3.out.alloc HB3.out.size (.cells #[.int .i64 (m : Int)] 3))).trans (hb4.mono (Nat.le_succ _)))
            have HBOX4 := Lib.hid ((HBOX3.out.alloc (.cells #[.int .i64 (m : Int)] 3)).below hb4 (Nat.lt_succ_self _))
            have hbs4 : w.heap.size + 1 ≤ w4.heap.size := HBOX4.out.lt
            clear hA4 hb4
            go_wp2_with (at_builtin; refine wpList_append_todo rfl _ _ rfl (B := w.heap.size + 1) rfl (HA4.out.below ((Below.refl _ _).alloc (Nat.le_refl _) _)) hnt2 (by simp only [World.size_alloc]; omega) ⟨w4.heap.size, 0, none⟩ 1 m rfl (cells_new _ _ _) ?_)
            intro v5 w5 hA5 hb5
            have HR : Hid (InnerAt ss s k (j + 1) out.length rest.length w w5 oa cap v4 v5 (.slice (some ⟨bh, fh, none⟩) (impP ss k).length cu) (out2 ++ [m]) (todo2 ++ [m])) := Lib.hid
              { arrs := hA5
                bfs := HPU.out
                from' := hQ.out.from'.imp id fun h => List.mem_append_left _ h
                done := fun x hx => by
                  rw [HTK.out, List.mem_append] at hx
                  rcases hx with hx | hx
                  · exact List.mem_append_left _ (hQ.out.done x hx)
                  · exact List.mem_append_right _ hx
                count := by have := hQ.out.count; simp only [List.length_append, List.length_singleton]; omega
                more := by have := hQ.out.more; simp only [List.length_append, List.length_singleton]; omega
                box := (HBOX4.out.alloc (.cells #[.int .i64 (m : Int)] 3)).below hb5 (Nat.lt_succ_self _)
                below := (HB4.out.alloc HB4.out.size (.cells #[.int .i64 (m : Int)] 3)).trans (hb5.mono (Nat.le_succ _)) }
            clear hA5 hb5
            go_wp2
            go_roundw
            case rel => exact ⟨j + 1, _, _, by go_num, by omega, HR⟩
            case measure => simp only [intOf]; omega
          · have HNI : Hid (m ∈ out2) := Lib.hid (mem_natInts.1 (by have := HQ.out; simpa using this))
            have HR : Hid (InnerAt ss s k (j + 1) out.length rest.length w w3 oa cap (.slice oo2 (natInts out2).length co2) (.slice ot2 todo2.length ct2) (.slice (some ⟨bh, fh, none⟩) (impP ss k).length cu) out2 todo2) := Lib.hid
              { hQ.out with
                arrs := HA3.out
                done := fun x hx => by
                  rw [HTK.out, List.mem_append] at hx
                  rcases hx with hx | hx
                  · exact hQ.out.done x hx
                  · rw [List.mem_singleton] at hx
                    exact hx ▸ HNI.out
                box := HBOX3.out
                below := HB3.out }
            go_wp2
            go_roundw
            case rel => exact ⟨j + 1, _, _, by go_num, by omega, HR⟩
            case measure => simp only [intOf]; omega
        · obtain rfl : j = (impP ss k).length := by omega
          have HR : Hid (OuterAt ss s w _ oa cap (.slice oo2 (natInts out2).length co2) (.slice ot2 todo2.length ct2) out2 todo2 ∧ 2 * (6 - out2.length) + todo2.length < 2 * (6 - out.length) + (rest.length + 1)) := Lib.hid ⟨
            { arrs := hQ.out.arrs.bare
              bfs := hQ.out.bfs.done (by have := hQ.out.done; rwa [List.take_length] at this)
              box := hQ.out.box
              below := hQ.out.below
              count := by have := hQ.out.more; have := hQ.out.count; have := HCNT.out; simp only [List.length_cons] at this; omega }, by have := hQ.out.more; have := hQ.out.count; omega⟩
          have e1 : (natInts out).length = out.length := natInts_length _
          have e2 : (natInts out2).length = out2.length := natInts_length _
          go_wp2
          go_roundw
          case rel => exact ⟨out2, todo2, Lib.hid HR.out.1⟩
          case measure => simp only [slLen, e1, e2]; exact HR.out.2
set_option maxRecDepth 100000 in
set_option maxHeartbeats 4000000 in
theorem specCircles_any (ss : List Sc) (hf : FitsScopes ss) (oa : Option Addr) (cap : Nat) (w : World) (hc : HoldsScopes w oa ss) :
    Calls Tryd.prog 56 #[.agg #[.slice oa ss.length cap]] w (ListGot2 (Valid ss) (circP ss) w) := by
  have hb0 := ((Below.refl w.heap.size w).alloc (Nat.le_refl _) (.cells #[.slice oa ss.length cap] 30)).alloc (by simp) (.cells #[] 3)
  have C := Lib.hid (specValid_any ss oa cap _ hf (hc.below hb0 (Nat.le_refl _)))
  have R := Lib.hid ((Row.new w [.slice oa ss.length cap] 30).alloc (.cells #[] 3))
  have hown0 : ((w.alloc (.cells #[.slice oa ss.length cap] 30)).alloc (.cells #[] 3)).ownsRow w.heap.size 3 1 (.slice (some ⟨w.heap.size + 1, 0, none⟩) 0 0) 0 [] := by
    have h0 := World.ownsRow_made (base := w.heap.size) (e := 3) (size := 1) (w.alloc (.cells #[.slice oa ss.length cap] 30)) #[] 0 (by simp) (by unfold maxLen; omega) rfl
    rw [World.size_alloc] at h0
    exact h0
  have HB0 := Lib.hid hb0
  have HC := Lib.hid hc
  have HF := Lib.hid hf
  have HO := Lib.hid hown0
  clear hf hc hb0 hown0
  go_enter Tryd.func56, Tryd.ntmps56
  go_wp2_with fail
  refine C.out.mono ?_
  rintro e w1 ⟨b, rfl, hv, hb⟩
  have HB := Lib.hid (HB0.out.trans (hb.mono HB0.out.size))
  have R1 := Lib.hid (R.out.below hb R.out.lt)
  have HO1 := Lib.hid (ownsRow_below HO.out hb)
  have c1 := R1.out.cell (i := 0) (by rfl)
  have HV := Lib.hid hv
  clear hb hv
  cases b
  · have HN : Hid (¬ Valid ss) := Lib.hid (fun h => by have := HV.out.2 h; cases this)
    go_wp2
    go_ret2
    exact .inl ⟨HN.out, _, rfl, HB.out⟩
  · have HH := Lib.hid (HV.out.1 rfl)
    have h6 := HH.out.count.2
    go_wp2
    go_loopw [4, 14] (fun v i wr => ∃ k : Nat, i = .int .i64 k ∧ k ≤ ss.length ∧ Row wr w.heap.size 30 [.slice oa ss.length cap] ∧ wr.ownsRow w.heap.size 3 1 v (circUp ss k).length (numVals (circUp ss k)) ∧ Below w.heap.size w wr) (fun _ i _ => ss.length - (intOf i).toNat)
    case atStart => exact ⟨0, rfl, Nat.zero_le _, R1.out, HO1.out, HB.out⟩
    case round =>
      obtain ⟨k, rfl, hk, hR, hrow, hb⟩ := hrel
      have HROW := Lib.hid hrow
      have HBR := Lib.hid hb
      have HRR := Lib.hid hR
      by_cases hlt : k < ss.length
      · have g0 := hR.cell (i := 0) (by rfl)
        have hpl := circUp_length ss k
        have HST := Lib.hid (circUp_snoc ss k)
        have hbs := hb.size
        have C2 := Lib.hid (specReach_any ss HH.out HF.out oa cap k hlt wr (HC.out.below HBR.out (Nat.le_refl _)))
        clear hR hb hrow
        go_wp2_with fail
        refine C2.out.mono ?_
        rintro e w2 ⟨l, o2, cap2, rfl, hh2, hmem, hl6, hb2⟩
        have HB2 := Lib.hid (HBR.out.trans (hb2.mono hbs))
        have R2 := Lib.hid (HRR.out.below hb2 HRR.out.lt)
        have HR2 := Lib.hid (ownsRow_below HROW.out hb2)
        have H2 := Lib.hid hh2
        have HNL : Hid ((natInts l).length < 2 ^ 40) := Lib.hid (by rw [natInts_length]; omega)
        have HQK : Hid (decide ((k : Int) ∈ natInts l) = reachB ss k k) := Lib.hid (by
          rw [Bool.eq_iff_iff, decide_eq_true_iff, mem_natInts, hmem, reachB_iff])
        clear hb2 hh2 g0 hmem
        go_wp2_with fail
        refine (l2In_any (natInts l) o2 cap2 (k : Int) _ HNL.out H2.out).mono ?_
        rintro e w3 ⟨rfl, hb3⟩
        rw [HQK.out]
        have HB3 := Lib.hid (HB2.out.trans (hb3.mono HB2.out.size))
        have R3 := Lib.hid (R2.out.below hb3 R2.out.lt)
        have hrow3 := ownsRow_below HR2.out hb3
        have hbs3 := HB3.out.size
        have HR3 := Lib.hid hrow3
        have g3 := R3.out.cell (i := 0) (by rfl)
        clear hb3
        cases hq : reachB ss k k
        · have HE : Hid (circUp ss (k + 1) = circUp ss k) := Lib.hid (by rw [HST.out, hq]; simp)
          clear hrow3 hq
          go_wp2
          go_roundw
          case rel => exact ⟨k + 1, by go_num, by omega, R3.out, by rw [HE.out]; exact HR3.out, HB3.out⟩
          case measure => simp only [intOf]; omega
        · have HE : Hid (circUp ss (k + 1) = circUp ss k ++ [k]) := Lib.hid (by rw [HST.out, hq]; simp)
          obtain ⟨i0, hi0, hz0, hz1, hz2⟩ := info_parts infoInt
          clear hq
          go_wp2_with (at_builtin; refine wpList_append_own _ rfl _ _ 50 rfl w.heap.size 3 i0 (.int .i64 0) 1 8 Tryd.underlying50 hi0 hz0 hz1 hz2 rfl (by decide) _ _ _ rfl (hrow3.alloc _) ⟨w3.heap.size, 0, none⟩ 1 1 [.int .i64 (k : Int)] rfl rfl ?c1 ?c2 ?c3 ?c4 ?c5 ?_)
          case c1 => exact cells_new _ _ _
          case c2 => intro u hu; simp only [List.mem_singleton] at hu; subst hu; rfl
          case c3 => unfold maxLen; omega
          case c4 => omega
          case c5 => simp only [World.size_alloc]; omega
          intro v' w4 hown' hgrow _
          have HB4 := Lib.hid (HB3.out.trans (below_append HR3.out hgrow (Nat.le_refl w.heap.size) hbs3))
          have HR4 : Hid (Row w4 w.heap.size 30 [.slice oa ss.length cap]) := Lib.hid ((R3.out.alloc _).grown hgrow (ownsRow_ne R3.out (by decide) HR3.out))
          have HO4 := Lib.hid hown'
          clear hrow3 hown' hgrow
          go_wp2
          go_roundw
          case rel => exact ⟨k + 1, by go_num, by omega, HR4.out, by rw [HE.out, List.length_append, numVals_snoc]; exact HO4.out, HB4.out⟩
          case measure => simp only [intOf]; omega
      · obtain rfl : k = ss.length := by omega
        clear hR hb hrow
        go_wp2
        go_ret2
        exact .inr ⟨HH.out, _, rfl, HROW.out, HBR.out⟩
end Go.Proofs.YtoijapbffhkbbaaDoor
