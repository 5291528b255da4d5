/-
  The module of a scope: what a tree's map of modules says of it, and the first declaration of a graph with that scope. Plain facts. Looking up names, as plain data: what a scope imports, what a name finds from a scope, what an import means and brings in. Plain facts.
-/
import Derived.Test.YtppgdigcopkeiaaDoorWSpecPls
import Derived.Test.YtppgdigcopkeiaaDoorWOwn
import Derived.Test.YtppgdigcopkeiaaDoorWItemAt
namespace Go.Proofs.YtppgdigcopkeiaaDoor
open Go Go.RowKit Go.Maps
theorem item_of {ss : List Sc} (hv : Valid ss) {q : Nat × Nat × It} (hq : q ∈ placed 0 ss) : itemB q.2.2 = true := by
  have h1 : (q.1, q.2.2) ∈ flat 0 ss := by rw [← placed_flat]; exact List.mem_map.2 ⟨q, hq, rfl⟩
  exact (hv.items.1 _ h1).1
theorem kind_of_mod {x : It} (h : itemB x = true) (hs : x.scope ≠ -1) : x.kind = 1 := by
  unfold itemB at h
  simp only [Bool.and_eq_true, Bool.or_eq_true, beq_iff_eq] at h
  rcases h.2 with h1 | h1
  · exact absurd h1 hs
  · exact h1
theorem moduleP_some {ss : List Sc} {m : Int} {q : Nat × Nat × It} (h : moduleP ss m = some q) : q ∈ placed 0 ss ∧ q.2.2.kind = 1 ∧ q.2.2.scope = m := by
  unfold moduleP at h
  have h1 := List.mem_of_find?_eq_some h
  have h2 := List.find?_some h
  simp only [Bool.and_eq_true, beq_iff_eq] at h2
  exact ⟨h1, h2.1, h2.2⟩
theorem moduleP_none {ss : List Sc} (hv : Valid ss) {m : Int} (h0 : 0 ≤ m) (h : moduleP ss m = none) : ∀ q ∈ placed 0 ss, q.2.2.scope ≠ m := by
  unfold moduleP at h
  intro q hq hs
  have h1 := List.find?_eq_none.1 h q hq
  have h2 := kind_of_mod (item_of hv hq) (by rw [hs]; omega)
  simp [h2, hs] at h1
theorem modsD_none {ss : List Sc} (hv : Valid ss) {m : Int} (h0 : 0 ≤ m) (h : moduleP ss m = none) (z : DataW Unit) : Maps.has (modsD (placed 0 ss)) (.int .i64 m) = false ∧ (modsD (placed 0 ss)).atKey (.int .i64 m) z = z := by
  have hn := moduleP_none hv h0 h
  constructor
  · cases e : Maps.has (modsD (placed 0 ss)) (.int .i64 m) with
    | false => rfl
    | true =>
      exfalso
      obtain ⟨q, hq, _, hs⟩ := modsP_mem.1 ((modsD_has _ m).1 e)
      exact hn q hq hs
  · unfold modsD
    rw [putInto_other modKey modVal _ z _ (.map []) (fun q hq he => hn q (List.mem_filter.1 hq).1 (by simpa [modKey] using he))]
    rfl
theorem modsD_some {ss : List Sc} (hv : Valid ss) {m : Int} (h0 : 0 ≤ m) {q : Nat × Nat × It} (h : moduleP ss m = some q) (z : DataW Unit) : Maps.has (modsD (placed 0 ss)) (.int .i64 m) = true ∧ (modsD (placed 0 ss)).atKey (.int .i64 m) z = placeD (q.1 : Int) (q.2.1 : Int) := by
  obtain ⟨hq, hk, hs⟩ := moduleP_some h
  have hne : q.2.2.scope ≠ -1 := by omega
  constructor
  · exact (modsD_has _ m).2 (modsP_mem.2 ⟨q, hq, by simpa [isMod] using hne, hs⟩)
  · have := modsD_at hv hq hne z
    rw [hs] at this
    exact this
/-- The place of a scope's module and whether it has one. -/
def modR (ss : List Sc) (m a b : Int) (ok : Bool) : Prop := (moduleP ss m = none ∧ a = 0 ∧ b = 0 ∧ ok = false) ∨ ∃ q, moduleP ss m = some q ∧ a = (q.1 : Int) ∧ b = (q.2.1 : Int) ∧ ok = true
theorem modR.same {ss : List Sc} {m a b c d : Int} {ok ok' : Bool} (h : modR ss m a b ok) (k : modR ss m c d ok') : a = c ∧ b = d ∧ ok = ok' := by
  rcases h with ⟨h1, rfl, rfl, rfl⟩ | ⟨q, h1, rfl, rfl, rfl⟩ <;> rcases k with ⟨k1, rfl, rfl, rfl⟩ | ⟨q', k1, rfl, rfl, rfl⟩
  · exact ⟨rfl, rfl, rfl⟩
  · rw [h1] at k1; cases k1
  · rw [h1] at k1; cases k1
  · rw [h1] at k1; cases k1; exact ⟨rfl, rfl, rfl⟩
theorem modR_total (ss : List Sc) (m : Int) : ∃ a b ok, modR ss m a b ok := by
  cases h : moduleP ss m with
  | none => exact ⟨0, 0, false, .inl ⟨h, rfl, rfl, rfl⟩⟩
  | some q => exact ⟨_, _, true, .inr ⟨q, h, rfl, rfl, rfl⟩⟩
/-- The look-up in the tree's map of modules, in any world behind. -/
theorem look_mod {ss : List Sc} (hv : Valid ss) {w : World} {B T M1 M2 : Nat} {v : Value} {ds : List Nd} (hT : TreeIs w B T M1 M2 v ds ss) {m a b : Int} {ok : Bool} (h0 : 0 ≤ m) (hw : (Lit.int .i64 m).wf = true) (hR : modR ss m a b ok)
    {W : World} (hb : Below w.heap.size w W) : (Instr.lookup 142 (.map (some M2)) (.int .i64 m) true).run Tryd.prog W = .ok (.tuple #[.agg #[.int .i64 a, .int .i64 b], .bool ok]) W := by
  obtain ⟨n, hm⟩ := hT.mods
  have hkey := keyOf_int_mk (P := Tryd.prog) (k := 3) (q := .i64) Tryd.underlying3 hw
  obtain ⟨v', ps, hrun, hv'⟩ := (ownsMap_below hm hb).look_ok (t := 142) (e := 34) scopeLaw Tryd.underlying142 (zeroPlace _) (placeR_mk 0 0) hkey
  obtain ⟨c, d, rfl⟩ := placeR_inv hv'
  rw [placeR_mk] at hv'
  simp only [Option.some.injEq, Prod.mk.injEq] at hv'
  have h1 := hv'.1
  rcases hR with ⟨e1, rfl, rfl, rfl⟩ | ⟨q, e1, rfl, rfl, rfl⟩
  · obtain ⟨k1, k2⟩ := modsD_none hv h0 e1 (placeD 0 0)
    rw [k1] at hrun
    rw [k2] at h1
    simp [placeD] at h1
    rw [h1.1, h1.2] at hrun
    exact hrun
  · obtain ⟨k1, k2⟩ := modsD_some hv h0 e1 (placeD 0 0)
    rw [k1] at hrun
    rw [k2] at h1
    simp [placeD] at h1
    rw [h1.1, h1.2] at hrun
    exact hrun
/-- The declarations of a graph in order; the first with a scope is its module. -/
def declsP (ss : List Sc) : List (Nat × Nat × It) := (placed 0 ss).filter fun q => q.2.2.kind == 1
theorem declsP_pls (ss : List Sc) : plsP ss 1 = (declsP ss).map fun q => ((q.1 : Int), (q.2.1 : Int)) := rfl
theorem moduleP_decls (ss : List Sc) (m : Int) : moduleP ss m = (declsP ss).find? fun q => q.2.2.scope == m := by
  unfold moduleP declsP
  rw [List.find?_filter]
  congr 1
  funext q
  cases h1 : (q.2.2.kind == 1) <;> cases h2 : (q.2.2.scope == m) <;> simp_all
end Go.Proofs.YtppgdigcopkeiaaDoor
namespace Go.Proofs.YtppgdigcopkeiaaDoor
open Go Go.RowKit
/-- The declarations of a name in scopes. -/
def fromP (ss : List Sc) (l : List Nat) (nm : ByteArray) : List (Int × Int) := l.flatMap fun k => ownP ss k nm
theorem fromP_snoc (ss : List Sc) (l : List Nat) (k : Nat) (nm : ByteArray) : fromP ss (l ++ [k]) nm = fromP ss l nm ++ ownP ss k nm := by simp [fromP]
/-- What is found: at which scope, how, and the declarations. -/
structure Found where
  scope : Int
  way : Int
  places : List (Int × Int)
/-- The first of a chain's scopes at which a name is found, by what each imports. -/
def lookF (ss : List Sc) (imps : Nat → List Nat) (nm : ByteArray) : List Nat → Found
  | [] => ⟨-1, 0, []⟩
  | m :: r => if (ownP ss m nm).isEmpty = true then (if (fromP ss (imps m) nm).isEmpty = true then lookF ss imps nm r else ⟨(m : Int), 2, fromP ss (imps m) nm⟩) else ⟨(m : Int), 1, ownP ss m nm⟩
theorem lookF_congr {ss : List Sc} {f g : Nat → List Nat} {nm : ByteArray} : ∀ {l : List Nat}, (∀ m ∈ l, f m = g m) → lookF ss f nm l = lookF ss g nm l
  | [], _ => rfl
  | m :: r, h => by
    have h1 := h m List.mem_cons_self
    have h2 := lookF_congr (ss := ss) (nm := nm) (l := r) fun k hk => h k (List.mem_cons_of_mem _ hk)
    show (if _ then (if _ then _ else _) else _) = (if _ then (if _ then _ else _) else _)
    rw [h1, h2]
/-- What an import of a name in a scope means. -/
def meantF (ss : List Sc) (imps : Nat → List Nat) (s : Nat) (nm : ByteArray) : List (Int × Int) :=
  if (ownP ss s nm).isEmpty = true then (match parP ss s with
    | none => []
    | some p => (lookF ss imps nm (chainP ss p)).places) else ownP ss s nm
/-- The scope of the item at a place. -/
def scopeAt (ss : List Sc) (p : Int × Int) : Int := ((itemAtP ss p.1 p.2).getD zeroIt).scope
/-- The scope that an import brings in, or -1. -/
def targetF (ss : List Sc) (imps : Nat → List Nat) (s : Nat) (nm : ByteArray) : Int := match meantF ss imps s nm with
  | [p] => scopeAt ss p
  | _ => -1
/-- One item more. -/
def impStep (ss : List Sc) (imps : Nat → List Nat) (s : Nat) (out : List Nat) (x : It) : List Nat :=
  if x.kind = 3 then (if targetF ss imps s x.name = -1 ∨ (targetF ss imps s x.name).toNat ∈ out then out else out ++ [(targetF ss imps s x.name).toNat]) else out
/-- The scopes that the first k items of a scope import. -/
def impUp (ss : List Sc) (imps : Nat → List Nat) (s : Nat) (xs : List It) (k : Nat) : List Nat := (xs.take k).foldl (impStep ss imps s) []
theorem impUp_snoc {ss : List Sc} {imps : Nat → List Nat} {s k : Nat} {xs : List It} {x : It} (h : xs[k]? = some x) : impUp ss imps s xs (k + 1) = impStep ss imps s (impUp ss imps s xs k) x := by
  unfold impUp
  rw [List.take_add_one, h]
  simp
def impF (ss : List Sc) (imps : Nat → List Nat) (s : Nat) : List Nat := impUp ss imps s (itemsP ss s) (itemsP ss s).length
theorem meantF_congr {ss : List Sc} (hC : Climbs ss) {f g : Nat → List Nat} {s : Nat} (h : ∀ m, m < s → f m = g m) (nm : ByteArray) : meantF ss f s nm = meantF ss g s nm := by
  unfold meantF
  cases hp : parP ss s with
  | none => rfl
  | some p =>
    have := lookF_congr (ss := ss) (nm := nm) (l := chainP ss p) (f := f) (g := g) fun m hm => h m (by have := chain_le hC p m hm; have := hC.par hp; omega)
    simp only [this]
theorem targetF_congr {ss : List Sc} (hC : Climbs ss) {f g : Nat → List Nat} {s : Nat} (h : ∀ m, m < s → f m = g m) (nm : ByteArray) : targetF ss f s nm = targetF ss g s nm := by
  unfold targetF
  rw [meantF_congr hC h]
theorem impF_congr {ss : List Sc} (hC : Climbs ss) {f g : Nat → List Nat} {s : Nat} (h : ∀ m, m < s → f m = g m) : impF ss f s = impF ss g s := by
  unfold impF impUp
  congr 1
  funext out x
  unfold impStep
  rw [targetF_congr hC h]
/-- The first k scopes' lists. -/
def tabP (ss : List Sc) : Nat → List (List Nat)
  | 0 => []
  | k + 1 => tabP ss k ++ [impF ss (fun m => (tabP ss k).getD m []) k]
theorem tabP_length (ss : List Sc) : ∀ k : Nat, (tabP ss k).length = k
  | 0 => rfl
  | k + 1 => by simp [tabP, tabP_length ss k]
/-- The scopes that a scope imports, each once. -/
def impP (ss : List Sc) (s : Nat) : List Nat := impF ss (fun m => (tabP ss s).getD m []) s
theorem tabP_get (ss : List Sc) {m : Nat} : ∀ k : Nat, m < k → (tabP ss k)[m]? = some (impP ss m)
  | k + 1, h => by
    show (tabP ss k ++ [impF ss (fun m => (tabP ss k).getD m []) k])[m]? = _
    by_cases hm : m < k
    · rw [List.getElem?_append_left (by rw [tabP_length]; exact hm)]
      exact tabP_get ss k hm
    · obtain rfl : m = k := by omega
      rw [List.getElem?_append_right (by rw [tabP_length]; exact Nat.le_refl _), tabP_length, Nat.sub_self]
      rfl
theorem tabP_getD (ss : List Sc) {m k : Nat} (h : m < k) : (tabP ss k).getD m [] = impP ss m := by
  rw [List.getD_eq_getElem?_getD, tabP_get ss k h]; rfl
theorem tabP_snoc {ss : List Sc} (hC : Climbs ss) (k : Nat) : tabP ss (k + 1) = tabP ss k ++ [impF ss (impP ss) k] := by
  show tabP ss k ++ [impF ss (fun m => (tabP ss k).getD m []) k] = _
  rw [impF_congr hC (g := impP ss) fun m hm => tabP_getD ss hm]
theorem impP_eq {ss : List Sc} (hC : Climbs ss) (s : Nat) : impP ss s = impF ss (impP ss) s := impF_congr hC fun _ hm => tabP_getD ss hm
/-- What a name finds from a scope; what an import means, and what it brings in. -/
def lookP (ss : List Sc) (s : Nat) (nm : ByteArray) : Found := lookF ss (impP ss) nm (chainP ss s)
def meantP (ss : List Sc) (s : Nat) (nm : ByteArray) : List (Int × Int) := meantF ss (impP ss) s nm
def targetP (ss : List Sc) (s : Nat) (nm : ByteArray) : Int := targetF ss (impP ss) s nm
theorem meantP_own {ss : List Sc} {s : Nat} {nm : ByteArray} (h : (ownP ss s nm).isEmpty = false) : meantP ss s nm = ownP ss s nm := by unfold meantP meantF; rw [h]; rfl
theorem meantP_none {ss : List Sc} {s : Nat} {nm : ByteArray} (h : (ownP ss s nm).isEmpty = true) (hp : parP ss s = none) : meantP ss s nm = [] := by unfold meantP meantF; rw [h, hp]; rfl
theorem meantP_par {ss : List Sc} {s p : Nat} {nm : ByteArray} (h : (ownP ss s nm).isEmpty = true) (hp : parP ss s = some p) : meantP ss s nm = (lookP ss p nm).places := by unfold meantP meantF; rw [h, hp]; rfl
theorem targetP_one {ss : List Sc} {s : Nat} {nm : ByteArray} {p : Int × Int} (h : meantP ss s nm = [p]) : targetP ss s nm = scopeAt ss p := by
  unfold targetP targetF
  have h' : meantF ss (impP ss) s nm = [p] := h
  rw [h']
theorem targetP_not {ss : List Sc} {s : Nat} {nm : ByteArray} (h : (meantP ss s nm).length ≠ 1) : targetP ss s nm = -1 := by
  unfold targetP targetF
  show (match meantP ss s nm with | [p] => scopeAt ss p | _ => -1) = -1
  split
  · rename_i p hp; rw [hp] at h; exact absurd rfl h
  · rfl
theorem mem_ownUp {xs : List It} {s : Nat} {nm : ByteArray} {p : Int × Int} : ∀ k : Nat, p ∈ ownUp xs s nm k → ∃ (j : Nat) (x : It), j < k ∧ xs[j]? = some x ∧ isOwn nm x = true ∧ p = ((s : Int), (j : Int))
  | 0, h => by simp [ownUp] at h
  | k + 1, h => by
    have h' : p ∈ ownUp xs s nm k ++ _ := h
    rw [List.mem_append] at h'
    rcases h' with h' | h'
    · obtain ⟨j, x, h1, h2⟩ := mem_ownUp k h'
      exact ⟨j, x, by omega, h2⟩
    · split at h'
      · rename_i x hx
        split at h'
        · rename_i ho
          simp only [List.mem_singleton] at h'
          exact ⟨k, x, by omega, hx, ho, h'⟩
        · simp at h'
      · simp at h'
/-- A place of a declaration of a scope. -/
theorem mem_ownP {ss : List Sc} {s : Nat} {nm : ByteArray} {p : Int × Int} (h : p ∈ ownP ss s nm) : ∃ (c : Sc) (j : Nat) (x : It), ss[s]? = some c ∧ c.items[j]? = some x ∧ isOwn nm x = true ∧ p = ((s : Int), (j : Int)) := by
  obtain ⟨j, x, hj, hx, ho, hp⟩ := mem_ownUp _ h
  unfold itemsP at hx
  cases hc : ss[s]? with
  | none => rw [hc] at hx; simp at hx
  | some c =>
    rw [hc] at hx
    exact ⟨c, j, x, rfl, by simpa using hx, ho, hp⟩
/-- A place of an item. -/
def IsPlace (ss : List Sc) (p : Int × Int) : Prop := ∃ (i j : Nat) (c : Sc) (x : It), p = ((i : Int), (j : Int)) ∧ ss[i]? = some c ∧ c.items[j]? = some x
theorem own_isPlace {ss : List Sc} {s : Nat} {nm : ByteArray} : ∀ p ∈ ownP ss s nm, IsPlace ss p := fun p hp => by
  obtain ⟨c, j, x, hc, hx, _, rfl⟩ := mem_ownP hp
  exact ⟨s, j, c, x, rfl, hc, hx⟩
theorem from_isPlace {ss : List Sc} {l : List Nat} {nm : ByteArray} : ∀ p ∈ fromP ss l nm, IsPlace ss p := fun p hp => by
  unfold fromP at hp
  obtain ⟨k, _, hk⟩ := List.mem_flatMap.1 hp
  exact own_isPlace p hk
theorem look_isPlace {ss : List Sc} {imps : Nat → List Nat} {nm : ByteArray} : ∀ {l : List Nat}, ∀ p ∈ (lookF ss imps nm l).places, IsPlace ss p
  | [], p, hp => by simp [lookF] at hp
  | m :: r, p, hp => by
    unfold lookF at hp
    split at hp
    · split at hp
      · exact look_isPlace p hp
      · exact from_isPlace p hp
    · exact own_isPlace p hp
theorem meant_isPlace {ss : List Sc} {s : Nat} {nm : ByteArray} : ∀ p ∈ meantP ss s nm, IsPlace ss p := fun p hp => by
  unfold meantP meantF at hp
  split at hp
  · split at hp
    · simp at hp
    · exact look_isPlace p hp
  · exact own_isPlace p hp
theorem scopeAt_of {ss : List Sc} {i j : Nat} {c : Sc} {x : It} (hc : ss[i]? = some c) (hx : c.items[j]? = some x) : scopeAt ss ((i : Int), (j : Int)) = x.scope := by
  unfold scopeAt
  rw [itemAtP_nat hc, hx]; rfl
/-- In a valid graph what an import brings in is none, or a scope. -/
theorem scope_ok {ss : List Sc} (hv : Valid ss) {q : Nat × Nat × It} (hq : q ∈ placed 0 ss) : q.2.2.scope = -1 ∨ ∃ m : Nat, q.2.2.scope = (m : Int) ∧ m < ss.length := by
  have h1 : (q.1, q.2.2) ∈ flat 0 ss := by rw [← placed_flat]; exact List.mem_map.2 ⟨q, hq, rfl⟩
  have h2 := (hv.items.1 _ h1).2
  unfold modB at h2
  by_cases h : q.2.2.scope = -1
  · exact .inl h
  · right
    have h0 : (q.2.2.scope == -1) = false := by simpa using h
    simp only [h0, Bool.false_or, Bool.and_eq_true] at h2
    have h3 := h2.1
    unfold inB at h3
    simp only [Bool.and_eq_true, decide_eq_true_eq] at h3
    exact ⟨q.2.2.scope.toNat, by omega, by omega⟩
theorem target_ok {ss : List Sc} (hv : Valid ss) (s : Nat) (nm : ByteArray) : targetP ss s nm = -1 ∨ ∃ m : Nat, targetP ss s nm = (m : Int) ∧ m < ss.length := by
  by_cases h : (meantP ss s nm).length = 1
  · obtain ⟨p, hp⟩ := List.length_eq_one_iff.1 h
    rw [targetP_one hp]
    obtain ⟨i, j, c, x, rfl, hc, hx⟩ := meant_isPlace p (by rw [hp]; exact List.mem_singleton.2 rfl)
    rw [scopeAt_of hc hx]
    exact scope_ok hv (mem_placed.2 ⟨c, Nat.zero_le _, by simpa using hc, hx⟩ : (i, j, x) ∈ placed 0 ss)
  · exact .inl (targetP_not h)
/-- What a scope imports are scopes, each once. -/
theorem impUp_ok {ss : List Sc} (hv : Valid ss) (s : Nat) (xs : List It) : ∀ k : Nat, (∀ m ∈ impUp ss (impP ss) s xs k, m < ss.length) ∧ (impUp ss (impP ss) s xs k).Nodup
  | 0 => by simp [impUp]
  | k + 1 => by
    have ih := impUp_ok hv s xs k
    cases hx : xs[k]? with
    | none =>
      have : impUp ss (impP ss) s xs (k + 1) = impUp ss (impP ss) s xs k := by
        unfold impUp
        rw [List.take_add_one, hx]
        simp
      rw [this]; exact ih
    | some x =>
      rw [impUp_snoc hx]
      unfold impStep
      split
      · split
        · exact ih
        · rename_i h
          rcases target_ok hv s x.name with h1 | ⟨m, h1, h2⟩
          · exact absurd (.inl h1) h
          · have e : (targetF ss (impP ss) s x.name).toNat = m := by
              have : targetF ss (impP ss) s x.name = (m : Int) := h1
              rw [this]; simp
            rw [e] at h ⊢
            constructor
            · intro k hk
              rw [List.mem_append, List.mem_singleton] at hk
              rcases hk with hk | rfl
              · exact ih.1 k hk
              · exact h2
            · rw [List.nodup_append]
              refine ⟨ih.2, by simp, ?_⟩
              intro a ha b hb
              rw [List.mem_singleton] at hb
              subst hb
              rintro rfl
              exact h (.inr ha)
      · exact ih
theorem impP_ok {ss : List Sc} (hv : Valid ss) (s : Nat) : (∀ m ∈ impP ss s, m < ss.length) ∧ (impP ss s).Nodup := by
  rw [impP_eq hv.climbs]
  exact impUp_ok hv s _ _
theorem length_le_of_nodup_lt : ∀ {n : Nat} {l : List Nat}, l.Nodup → (∀ m ∈ l, m < n) → l.length ≤ n
  | n, l, hd, hl => by
    have h := List.Nodup.length_le_of_subset (l₁ := l) (l₂ := List.range n) hd (fun m hm => List.mem_range.2 (hl m hm))
    simpa using h
theorem impUp_length {ss : List Sc} (s : Nat) (xs : List It) : ∀ k : Nat, (impUp ss (impP ss) s xs k).length ≤ k
  | 0 => by simp [impUp]
  | k + 1 => by
    have ih := impUp_length (ss := ss) s xs k
    cases hx : xs[k]? with
    | none =>
      have : impUp ss (impP ss) s xs (k + 1) = impUp ss (impP ss) s xs k := by
        unfold impUp
        rw [List.take_add_one, hx]
        simp
      rw [this]; omega
    | some x =>
      rw [impUp_snoc hx]
      unfold impStep
      split
      · split
        · omega
        · rw [List.length_append]; simp; omega
      · omega
theorem impP_length {ss : List Sc} (hv : Valid ss) (s : Nat) : (impP ss s).length ≤ 5 := by
  rw [impP_eq hv.climbs]
  have h1 := impUp_length (ss := ss) s (itemsP ss s) (itemsP ss s).length
  have h2 : (itemsP ss s).length ≤ 5 := by
    unfold itemsP
    cases h : ss[s]? with
    | none => simp
    | some c => simpa using scope_items (hv.scopes s c h)
  unfold impF
  omega
theorem fromP_length {ss : List Sc} (hv : Valid ss) (nm : ByteArray) : ∀ l : List Nat, (fromP ss l nm).length ≤ 5 * l.length
  | [] => by simp [fromP]
  | k :: r => by
    have ih := fromP_length hv nm r
    have h1 := ownP_length hv k nm
    have : fromP ss (k :: r) nm = ownP ss k nm ++ fromP ss r nm := by simp [fromP]
    rw [this, List.length_append, List.length_cons]
    omega
theorem lookF_length {ss : List Sc} (hv : Valid ss) (nm : ByteArray) : ∀ l : List Nat, (lookF ss (impP ss) nm l).places.length ≤ 25
  | [] => by simp [lookF]
  | m :: r => by
    unfold lookF
    split
    · split
      · exact lookF_length hv nm r
      · have h1 := fromP_length hv nm (impP ss m)
        have h2 := impP_length hv m
        show (fromP ss (impP ss m) nm).length ≤ 25
        omega
    · have h1 := ownP_length hv m nm
      show (ownP ss m nm).length ≤ 25
      omega
theorem impStep_other {ss : List Sc} {imps : Nat → List Nat} {s : Nat} {out : List Nat} {x : It} (h : x.kind ≠ 3) : impStep ss imps s out x = out := by unfold impStep; rw [if_neg h]
theorem impStep_none {ss : List Sc} {s : Nat} {out : List Nat} {x : It} (h : targetP ss s x.name = -1) : impStep ss (impP ss) s out x = out := by
  unfold impStep
  split
  · rw [if_pos (.inl h)]
  · rfl
theorem impStep_in {ss : List Sc} {s m : Nat} {out : List Nat} {x : It} (h : targetP ss s x.name = (m : Int)) (hm : m ∈ out) : impStep ss (impP ss) s out x = out := by
  unfold impStep
  split
  · rw [if_pos (.inr (by rw [show targetF ss (impP ss) s x.name = (m : Int) from h]; simpa using hm))]
  · rfl
theorem impStep_new {ss : List Sc} {s m : Nat} {out : List Nat} {x : It} (hk : x.kind = 3) (h : targetP ss s x.name = (m : Int)) (hm : m ∉ out) : impStep ss (impP ss) s out x = out ++ [m] := by
  unfold impStep
  have h' : targetF ss (impP ss) s x.name = (m : Int) := h
  have hn : ¬ ((m : Int) = -1 ∨ (m : Int).toNat ∈ out) := by
    rintro (h1 | h1)
    · omega
    · rw [Int.toNat_natCast] at h1; exact hm h1
  rw [if_pos hk, h', if_neg hn]
  simp
end Go.Proofs.YtppgdigcopkeiaaDoor
