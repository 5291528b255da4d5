/-
  The module of a scope: what a tree's map of modules says of it, and the first declaration of a graph with that scope. Plain facts. Looking up names, as plain data: what a scope imports, what a name finds from a scope, what an import means and brings in. Plain facts. The walks of the given l2In, WithinOf and CommonScope. Condition: the argument's memory holds the graph. A lookup in memory, its map of targets told by the places that it holds; what keeps it. Plain facts, and the walks of slices.Index and slices.Contains at numbers. The walks of ModuleOf, the given one and impl's. Conditions: the argument's memory holds the graph; the package-level errors hold errors. The walk of impl's (*lookup).importsOf, where the targets of the scope's items are told. The walks of the given l3FromBy, l3WayBy and l3MeantBy. Conditions: the argument's memory holds the graph, and the table what its scopes import. The walks of impl's (*lookup).imported and way.from, where the targets of the scope's items are told. The walk of impl's (*lookup).find, where the targets of the items of the scopes on the way are told. What items mean and their states, as plain data; the meanings in memory: a map told by the slices that it holds. Plain facts. The walks of impl's (*lookup).meantBy, (*tree).moduleAlone and (*lookup).target: what an import brings in, by strong induction on its scope's number.
-/
import Derived.Test.YtadpgoiiopfnnaaDoorWSpecPls
import Derived.Test.YtadpgoiiopfnnaaDoorWOwn
import Derived.Test.YtadpgoiiopfnnaaDoorWItemAt
import Derived.Test.YtadpgoiiopfnnaaDoorWMarkGraph
import Derived.Maps.Ext
import Derived.Test.YtadpgoiiopfnnaaDoorWNode
import Derived.Laws.OwnMore
import Derived.Deep.RegionHeld3
import Derived.Test.YtadpgoiiopfnnaaDoorWImplChain
import Derived.WalkMore
import Derived.BigQuiet
namespace Go.Proofs.YtadpgoiiopfnnaaDoor
open Go Go.RowKit Go.Maps
theorem item_of {ss : List Sc} (hv : Valid ss) {q : Nat × Nat × It} (hq : q ∈ placed 0 ss) : itemB q.2.2 = true := by
  have h1 : (q.1, q.2.2) ∈ flat 0 ss := by rw [← placed_flat]; exact List.mem_map.2 ⟨q, hq, rfl⟩
  exact (hv.items.1 _ h1).1
theorem kind_of_mod {x : It} (h : itemB x = true) (hs : x.scope ≠ -1) : x.kind = 1 := by
  unfold itemB at h
  simp only [Bool.and_eq_true, Bool.or_eq_true, beq_iff_eq] at h
  rcases h.2 with h1 | h1
  · exact absurd h1 hs
  · exact h1
theorem moduleP_some {ss : List Sc} {m : Int} {q : Nat × Nat × It} (h : moduleP ss m = some q) : q ∈ placed 0 ss ∧ q.2.2.kind = 1 ∧ q.2.2.scope = m := by
  unfold moduleP at h
  have h1 := List.mem_of_find?_eq_some h
  have h2 := List.find?_some h
  simp only [Bool.and_eq_true, beq_iff_eq] at h2
  exact ⟨h1, h2.1, h2.2⟩
theorem moduleP_none {ss : List Sc} (hv : Valid ss) {m : Int} (h0 : 0 ≤ m) (h : moduleP ss m = none) : ∀ q ∈ placed 0 ss, q.2.2.scope ≠ m := by
  unfold moduleP at h
  intro q hq hs
  have h1 := List.find?_eq_none.1 h q hq
  have h2 := kind_of_mod (item_of hv hq) (by rw [hs]; omega)
  simp [h2, hs] at h1
theorem modsD_none {ss : List Sc} (hv : Valid ss) {m : Int} (h0 : 0 ≤ m) (h : moduleP ss m = none) (z : DataW Unit) : Maps.has (modsD (placed 0 ss)) (.int .i64 m) = false ∧ (modsD (placed 0 ss)).atKey (.int .i64 m) z = z := by
  have hn := moduleP_none hv h0 h
  constructor
  · cases e : Maps.has (modsD (placed 0 ss)) (.int .i64 m) with
    | false => rfl
    | true =>
      exfalso
      obtain ⟨q, hq, _, hs⟩ := modsP_mem.1 ((modsD_has _ m).1 e)
      exact hn q hq hs
  · unfold modsD
    rw [putInto_other modKey modVal _ z _ (.map []) (fun q hq he => hn q (List.mem_filter.1 hq).1 (by simpa [modKey] using he))]
    rfl
theorem modsD_some {ss : List Sc} (hv : Valid ss) {m : Int} (h0 : 0 ≤ m) {q : Nat × Nat × It} (h : moduleP ss m = some q) (z : DataW Unit) : Maps.has (modsD (placed 0 ss)) (.int .i64 m) = true ∧ (modsD (placed 0 ss)).atKey (.int .i64 m) z = placeD (q.1 : Int) (q.2.1 : Int) := by
  obtain ⟨hq, hk, hs⟩ := moduleP_some h
  have hne : q.2.2.scope ≠ -1 := by omega
  constructor
  · exact (modsD_has _ m).2 (modsP_mem.2 ⟨q, hq, by simpa [isMod] using hne, hs⟩)
  · have := modsD_at hv hq hne z
    rw [hs] at this
    exact this
/-- The place of a scope's module and whether it has one. -/
def modR (ss : List Sc) (m a b : Int) (ok : Bool) : Prop := (moduleP ss m = none ∧ a = 0 ∧ b = 0 ∧ ok = false) ∨ ∃ q, moduleP ss m = some q ∧ a = (q.1 : Int) ∧ b = (q.2.1 : Int) ∧ ok = true
theorem modR.same {ss : List Sc} {m a b c d : Int} {ok ok' : Bool} (h : modR ss m a b ok) (k : modR ss m c d ok') : a = c ∧ b = d ∧ ok = ok' := by
  rcases h with ⟨h1, rfl, rfl, rfl⟩ | ⟨q, h1, rfl, rfl, rfl⟩ <;> rcases k with ⟨k1, rfl, rfl, rfl⟩ | ⟨q', k1, rfl, rfl, rfl⟩
  · exact ⟨rfl, rfl, rfl⟩
  · rw [h1] at k1; cases k1
  · rw [h1] at k1; cases k1
  · rw [h1] at k1; cases k1; exact ⟨rfl, rfl, rfl⟩
theorem modR_total (ss : List Sc) (m : Int) : ∃ a b ok, modR ss m a b ok := by
  cases h : moduleP ss m with
  | none => exact ⟨0, 0, false, .inl ⟨h, rfl, rfl, rfl⟩⟩
  | some q => exact ⟨_, _, true, .inr ⟨q, h, rfl, rfl, rfl⟩⟩
/-- The look-up in the tree's map of modules, in any world behind. -/
theorem look_mod {ss : List Sc} (hv : Valid ss) {w : World} {B T M1 M2 : Nat} {v : Value} {ds : List Nd} (hT : TreeIs w B T M1 M2 v ds ss) {m a b : Int} {ok : Bool} (h0 : 0 ≤ m) (hw : (Lit.int .i64 m).wf = true) (hR : modR ss m a b ok)
    {W : World} (hb : Below w.heap.size w W) : (Instr.lookup 110 (.map (some M2)) (.int .i64 m) true).run Tryd.prog W = .ok (.tuple #[.agg #[.int .i64 a, .int .i64 b], .bool ok]) W := by
  obtain ⟨n, hm⟩ := hT.mods
  have hkey := keyOf_int_mk (P := Tryd.prog) (k := 3) (q := .i64) Tryd.underlying3 hw
  obtain ⟨v', ps, hrun, hv'⟩ := (ownsMap_below hm hb).look_ok (t := 110) (e := 34) scopeLaw Tryd.underlying110 (zeroPlace _) (placeR_mk 0 0) hkey
  obtain ⟨c, d, rfl⟩ := placeR_inv hv'
  rw [placeR_mk] at hv'
  simp only [Option.some.injEq, Prod.mk.injEq] at hv'
  have h1 := hv'.1
  rcases hR with ⟨e1, rfl, rfl, rfl⟩ | ⟨q, e1, rfl, rfl, rfl⟩
  · obtain ⟨k1, k2⟩ := modsD_none hv h0 e1 (placeD 0 0)
    rw [k1] at hrun
    rw [k2] at h1
    simp [placeD] at h1
    rw [h1.1, h1.2] at hrun
    exact hrun
  · obtain ⟨k1, k2⟩ := modsD_some hv h0 e1 (placeD 0 0)
    rw [k1] at hrun
    rw [k2] at h1
    simp [placeD] at h1
    rw [h1.1, h1.2] at hrun
    exact hrun
/-- The declarations of a graph in order; the first with a scope is its module. -/
def declsP (ss : List Sc) : List (Nat × Nat × It) := (placed 0 ss).filter fun q => q.2.2.kind == 1
theorem declsP_pls (ss : List Sc) : plsP ss 1 = (declsP ss).map fun q => ((q.1 : Int), (q.2.1 : Int)) := rfl
theorem moduleP_decls (ss : List Sc) (m : Int) : moduleP ss m = (declsP ss).find? fun q => q.2.2.scope == m := by
  unfold moduleP declsP
  rw [List.find?_filter]
  congr 1
  funext q
  cases h1 : (q.2.2.kind == 1) <;> cases h2 : (q.2.2.scope == m) <;> simp_all
end Go.Proofs.YtadpgoiiopfnnaaDoor
namespace Go.Proofs.YtadpgoiiopfnnaaDoor
open Go Go.RowKit
/-- The declarations of a name in scopes. -/
def fromP (ss : List Sc) (l : List Nat) (nm : ByteArray) : List (Int × Int) := l.flatMap fun k => ownP ss k nm
theorem fromP_snoc (ss : List Sc) (l : List Nat) (k : Nat) (nm : ByteArray) : fromP ss (l ++ [k]) nm = fromP ss l nm ++ ownP ss k nm := by simp [fromP]
/-- What is found: at which scope, how, and the declarations. -/
structure Found where
  scope : Int
  way : Int
  places : List (Int × Int)
/-- The first of a chain's scopes at which a name is found, by what each imports. -/
def lookF (ss : List Sc) (imps : Nat → List Nat) (nm : ByteArray) : List Nat → Found
  | [] => ⟨-1, 0, []⟩
  | m :: r => if (ownP ss m nm).isEmpty = true then (if (fromP ss (imps m) nm).isEmpty = true then lookF ss imps nm r else ⟨(m : Int), 2, fromP ss (imps m) nm⟩) else ⟨(m : Int), 1, ownP ss m nm⟩
theorem lookF_congr {ss : List Sc} {f g : Nat → List Nat} {nm : ByteArray} : ∀ {l : List Nat}, (∀ m ∈ l, f m = g m) → lookF ss f nm l = lookF ss g nm l
  | [], _ => rfl
  | m :: r, h => by
    have h1 := h m List.mem_cons_self
    have h2 := lookF_congr (ss := ss) (nm := nm) (l := r) fun k hk => h k (List.mem_cons_of_mem _ hk)
    show (if _ then (if _ then _ else _) else _) = (if _ then (if _ then _ else _) else _)
    rw [h1, h2]
/-- What an import of a name in a scope means. -/
def meantF (ss : List Sc) (imps : Nat → List Nat) (s : Nat) (nm : ByteArray) : List (Int × Int) :=
  if (ownP ss s nm).isEmpty = true then (match parP ss s with
    | none => []
    | some p => (lookF ss imps nm (chainP ss p)).places) else ownP ss s nm
/-- The scope of the item at a place. -/
def scopeAt (ss : List Sc) (p : Int × Int) : Int := ((itemAtP ss p.1 p.2).getD zeroIt).scope
/-- The scope that an import brings in, or -1. -/
def targetF (ss : List Sc) (imps : Nat → List Nat) (s : Nat) (nm : ByteArray) : Int := match meantF ss imps s nm with
  | [p] => scopeAt ss p
  | _ => -1
/-- One item more. -/
def impStep (ss : List Sc) (imps : Nat → List Nat) (s : Nat) (out : List Nat) (x : It) : List Nat :=
  if x.kind = 3 then (if targetF ss imps s x.name = -1 ∨ (targetF ss imps s x.name).toNat ∈ out then out else out ++ [(targetF ss imps s x.name).toNat]) else out
/-- The scopes that the first k items of a scope import. -/
def impUp (ss : List Sc) (imps : Nat → List Nat) (s : Nat) (xs : List It) (k : Nat) : List Nat := (xs.take k).foldl (impStep ss imps s) []
theorem impUp_snoc {ss : List Sc} {imps : Nat → List Nat} {s k : Nat} {xs : List It} {x : It} (h : xs[k]? = some x) : impUp ss imps s xs (k + 1) = impStep ss imps s (impUp ss imps s xs k) x := by
  unfold impUp
  rw [List.take_add_one, h]
  simp
def impF (ss : List Sc) (imps : Nat → List Nat) (s : Nat) : List Nat := impUp ss imps s (itemsP ss s) (itemsP ss s).length
theorem meantF_congr {ss : List Sc} (hC : Climbs ss) {f g : Nat → List Nat} {s : Nat} (h : ∀ m, m < s → f m = g m) (nm : ByteArray) : meantF ss f s nm = meantF ss g s nm := by
  unfold meantF
  cases hp : parP ss s with
  | none => rfl
  | some p =>
    have := lookF_congr (ss := ss) (nm := nm) (l := chainP ss p) (f := f) (g := g) fun m hm => h m (by have := chain_le hC p m hm; have := hC.par hp; omega)
    simp only [this]
theorem targetF_congr {ss : List Sc} (hC : Climbs ss) {f g : Nat → List Nat} {s : Nat} (h : ∀ m, m < s → f m = g m) (nm : ByteArray) : targetF ss f s nm = targetF ss g s nm := by
  unfold targetF
  rw [meantF_congr hC h]
theorem impF_congr {ss : List Sc} (hC : Climbs ss) {f g : Nat → List Nat} {s : Nat} (h : ∀ m, m < s → f m = g m) : impF ss f s = impF ss g s := by
  unfold impF impUp
  congr 1
  funext out x
  unfold impStep
  rw [targetF_congr hC h]
/-- The first k scopes' lists. -/
def tabP (ss : List Sc) : Nat → List (List Nat)
  | 0 => []
  | k + 1 => tabP ss k ++ [impF ss (fun m => (tabP ss k).getD m []) k]
theorem tabP_length (ss : List Sc) : ∀ k : Nat, (tabP ss k).length = k
  | 0 => rfl
  | k + 1 => by simp [tabP, tabP_length ss k]
/-- The scopes that a scope imports, each once. -/
def impP (ss : List Sc) (s : Nat) : List Nat := impF ss (fun m => (tabP ss s).getD m []) s
theorem tabP_get (ss : List Sc) {m : Nat} : ∀ k : Nat, m < k → (tabP ss k)[m]? = some (impP ss m)
  | k + 1, h => by
    show (tabP ss k ++ [impF ss (fun m => (tabP ss k).getD m []) k])[m]? = _
    by_cases hm : m < k
    · rw [List.getElem?_append_left (by rw [tabP_length]; exact hm)]
      exact tabP_get ss k hm
    · obtain rfl : m = k := by omega
      rw [List.getElem?_append_right (by rw [tabP_length]; exact Nat.le_refl _), tabP_length, Nat.sub_self]
      rfl
theorem tabP_getD (ss : List Sc) {m k : Nat} (h : m < k) : (tabP ss k).getD m [] = impP ss m := by
  rw [List.getD_eq_getElem?_getD, tabP_get ss k h]; rfl
theorem tabP_snoc {ss : List Sc} (hC : Climbs ss) (k : Nat) : tabP ss (k + 1) = tabP ss k ++ [impF ss (impP ss) k] := by
  show tabP ss k ++ [impF ss (fun m => (tabP ss k).getD m []) k] = _
  rw [impF_congr hC (g := impP ss) fun m hm => tabP_getD ss hm]
theorem impP_eq {ss : List Sc} (hC : Climbs ss) (s : Nat) : impP ss s = impF ss (impP ss) s := impF_congr hC fun _ hm => tabP_getD ss hm
/-- What a name finds from a scope; what an import means, and what it brings in. -/
def lookP (ss : List Sc) (s : Nat) (nm : ByteArray) : Found := lookF ss (impP ss) nm (chainP ss s)
def meantP (ss : List Sc) (s : Nat) (nm : ByteArray) : List (Int × Int) := meantF ss (impP ss) s nm
def targetP (ss : List Sc) (s : Nat) (nm : ByteArray) : Int := targetF ss (impP ss) s nm
theorem meantP_own {ss : List Sc} {s : Nat} {nm : ByteArray} (h : (ownP ss s nm).isEmpty = false) : meantP ss s nm = ownP ss s nm := by unfold meantP meantF; rw [h]; rfl
theorem meantP_none {ss : List Sc} {s : Nat} {nm : ByteArray} (h : (ownP ss s nm).isEmpty = true) (hp : parP ss s = none) : meantP ss s nm = [] := by unfold meantP meantF; rw [h, hp]; rfl
theorem meantP_par {ss : List Sc} {s p : Nat} {nm : ByteArray} (h : (ownP ss s nm).isEmpty = true) (hp : parP ss s = some p) : meantP ss s nm = (lookP ss p nm).places := by unfold meantP meantF; rw [h, hp]; rfl
theorem targetP_one {ss : List Sc} {s : Nat} {nm : ByteArray} {p : Int × Int} (h : meantP ss s nm = [p]) : targetP ss s nm = scopeAt ss p := by
  unfold targetP targetF
  have h' : meantF ss (impP ss) s nm = [p] := h
  rw [h']
theorem targetP_not {ss : List Sc} {s : Nat} {nm : ByteArray} (h : (meantP ss s nm).length ≠ 1) : targetP ss s nm = -1 := by
  unfold targetP targetF
  show (match meantP ss s nm with | [p] => scopeAt ss p | _ => -1) = -1
  split
  · rename_i p hp; rw [hp] at h; exact absurd rfl h
  · rfl
theorem mem_ownUp {xs : List It} {s : Nat} {nm : ByteArray} {p : Int × Int} : ∀ k : Nat, p ∈ ownUp xs s nm k → ∃ (j : Nat) (x : It), j < k ∧ xs[j]? = some x ∧ isOwn nm x = true ∧ p = ((s : Int), (j : Int))
  | 0, h => by simp [ownUp] at h
  | k + 1, h => by
    have h' : p ∈ ownUp xs s nm k ++ _ := h
    rw [List.mem_append] at h'
    rcases h' with h' | h'
    · obtain ⟨j, x, h1, h2⟩ := mem_ownUp k h'
      exact ⟨j, x, by omega, h2⟩
    · split at h'
      · rename_i x hx
        split at h'
        · rename_i ho
          simp only [List.mem_singleton] at h'
          exact ⟨k, x, by omega, hx, ho, h'⟩
        · simp at h'
      · simp at h'
/-- A place of a declaration of a scope. -/
theorem mem_ownP {ss : List Sc} {s : Nat} {nm : ByteArray} {p : Int × Int} (h : p ∈ ownP ss s nm) : ∃ (c : Sc) (j : Nat) (x : It), ss[s]? = some c ∧ c.items[j]? = some x ∧ isOwn nm x = true ∧ p = ((s : Int), (j : Int)) := by
  obtain ⟨j, x, hj, hx, ho, hp⟩ := mem_ownUp _ h
  unfold itemsP at hx
  cases hc : ss[s]? with
  | none => rw [hc] at hx; simp at hx
  | some c =>
    rw [hc] at hx
    exact ⟨c, j, x, rfl, by simpa using hx, ho, hp⟩
/-- A place of an item. -/
def IsPlace (ss : List Sc) (p : Int × Int) : Prop := ∃ (i j : Nat) (c : Sc) (x : It), p = ((i : Int), (j : Int)) ∧ ss[i]? = some c ∧ c.items[j]? = some x
theorem own_isPlace {ss : List Sc} {s : Nat} {nm : ByteArray} : ∀ p ∈ ownP ss s nm, IsPlace ss p := fun p hp => by
  obtain ⟨c, j, x, hc, hx, _, rfl⟩ := mem_ownP hp
  exact ⟨s, j, c, x, rfl, hc, hx⟩
theorem from_isPlace {ss : List Sc} {l : List Nat} {nm : ByteArray} : ∀ p ∈ fromP ss l nm, IsPlace ss p := fun p hp => by
  unfold fromP at hp
  obtain ⟨k, _, hk⟩ := List.mem_flatMap.1 hp
  exact own_isPlace p hk
theorem look_isPlace {ss : List Sc} {imps : Nat → List Nat} {nm : ByteArray} : ∀ {l : List Nat}, ∀ p ∈ (lookF ss imps nm l).places, IsPlace ss p
  | [], p, hp => by simp [lookF] at hp
  | m :: r, p, hp => by
    unfold lookF at hp
    split at hp
    · split at hp
      · exact look_isPlace p hp
      · exact from_isPlace p hp
    · exact own_isPlace p hp
theorem meant_isPlace {ss : List Sc} {s : Nat} {nm : ByteArray} : ∀ p ∈ meantP ss s nm, IsPlace ss p := fun p hp => by
  unfold meantP meantF at hp
  split at hp
  · split at hp
    · simp at hp
    · exact look_isPlace p hp
  · exact own_isPlace p hp
theorem scopeAt_of {ss : List Sc} {i j : Nat} {c : Sc} {x : It} (hc : ss[i]? = some c) (hx : c.items[j]? = some x) : scopeAt ss ((i : Int), (j : Int)) = x.scope := by
  unfold scopeAt
  rw [itemAtP_nat hc, hx]; rfl
/-- In a valid graph what an import brings in is none, or a scope. -/
theorem scope_ok {ss : List Sc} (hv : Valid ss) {q : Nat × Nat × It} (hq : q ∈ placed 0 ss) : q.2.2.scope = -1 ∨ ∃ m : Nat, q.2.2.scope = (m : Int) ∧ m < ss.length := by
  have h1 : (q.1, q.2.2) ∈ flat 0 ss := by rw [← placed_flat]; exact List.mem_map.2 ⟨q, hq, rfl⟩
  have h2 := (hv.items.1 _ h1).2
  unfold modB at h2
  by_cases h : q.2.2.scope = -1
  · exact .inl h
  · right
    have h0 : (q.2.2.scope == -1) = false := by simpa using h
    simp only [h0, Bool.false_or, Bool.and_eq_true] at h2
    have h3 := h2.1
    unfold inB at h3
    simp only [Bool.and_eq_true, decide_eq_true_eq] at h3
    exact ⟨q.2.2.scope.toNat, by omega, by omega⟩
theorem target_ok {ss : List Sc} (hv : Valid ss) (s : Nat) (nm : ByteArray) : targetP ss s nm = -1 ∨ ∃ m : Nat, targetP ss s nm = (m : Int) ∧ m < ss.length := by
  by_cases h : (meantP ss s nm).length = 1
  · obtain ⟨p, hp⟩ := List.length_eq_one_iff.1 h
    rw [targetP_one hp]
    obtain ⟨i, j, c, x, rfl, hc, hx⟩ := meant_isPlace p (by rw [hp]; exact List.mem_singleton.2 rfl)
    rw [scopeAt_of hc hx]
    exact scope_ok hv (mem_placed.2 ⟨c, Nat.zero_le _, by simpa using hc, hx⟩ : (i, j, x) ∈ placed 0 ss)
  · exact .inl (targetP_not h)
/-- What a scope imports are scopes, each once. -/
theorem impUp_ok {ss : List Sc} (hv : Valid ss) (s : Nat) (xs : List It) : ∀ k : Nat, (∀ m ∈ impUp ss (impP ss) s xs k, m < ss.length) ∧ (impUp ss (impP ss) s xs k).Nodup
  | 0 => by simp [impUp]
  | k + 1 => by
    have ih := impUp_ok hv s xs k
    cases hx : xs[k]? with
    | none =>
      have : impUp ss (impP ss) s xs (k + 1) = impUp ss (impP ss) s xs k := by
        unfold impUp
        rw [List.take_add_one, hx]
        simp
      rw [this]; exact ih
    | some x =>
      rw [impUp_snoc hx]
      unfold impStep
      split
      · split
        · exact ih
        · rename_i h
          rcases target_ok hv s x.name with h1 | ⟨m, h1, h2⟩
          · exact absurd (.inl h1) h
          · have e : (targetF ss (impP ss) s x.name).toNat = m := by
              have : targetF ss (impP ss) s x.name = (m : Int) := h1
              rw [this]; simp
            rw [e] at h ⊢
            constructor
            · intro k hk
              rw [List.mem_append, List.mem_singleton] at hk
              rcases hk with hk | rfl
              · exact ih.1 k hk
              · exact h2
            · rw [List.nodup_append]
              refine ⟨ih.2, by simp, ?_⟩
              intro a ha b hb
              rw [List.mem_singleton] at hb
              subst hb
              rintro rfl
              exact h (.inr ha)
      · exact ih
theorem impP_ok {ss : List Sc} (hv : Valid ss) (s : Nat) : (∀ m ∈ impP ss s, m < ss.length) ∧ (impP ss s).Nodup := by
  rw [impP_eq hv.climbs]
  exact impUp_ok hv s _ _
theorem length_le_of_nodup_lt : ∀ {n : Nat} {l : List Nat}, l.Nodup → (∀ m ∈ l, m < n) → l.length ≤ n
  | n, l, hd, hl => by
    have h := List.Nodup.length_le_of_subset (l₁ := l) (l₂ := List.range n) hd (fun m hm => List.mem_range.2 (hl m hm))
    simpa using h
theorem impUp_length {ss : List Sc} (s : Nat) (xs : List It) : ∀ k : Nat, (impUp ss (impP ss) s xs k).length ≤ k
  | 0 => by simp [impUp]
  | k + 1 => by
    have ih := impUp_length (ss := ss) s xs k
    cases hx : xs[k]? with
    | none =>
      have : impUp ss (impP ss) s xs (k + 1) = impUp ss (impP ss) s xs k := by
        unfold impUp
        rw [List.take_add_one, hx]
        simp
      rw [this]; omega
    | some x =>
      rw [impUp_snoc hx]
      unfold impStep
      split
      · split
        · omega
        · rw [List.length_append]; simp; omega
      · omega
theorem impP_length {ss : List Sc} (hv : Valid ss) (s : Nat) : (impP ss s).length ≤ 5 := by
  rw [impP_eq hv.climbs]
  have h1 := impUp_length (ss := ss) s (itemsP ss s) (itemsP ss s).length
  have h2 : (itemsP ss s).length ≤ 5 := by
    unfold itemsP
    cases h : ss[s]? with
    | none => simp
    | some c => simpa using scope_items (hv.scopes s c h)
  unfold impF
  omega
theorem fromP_length {ss : List Sc} (hv : Valid ss) (nm : ByteArray) : ∀ l : List Nat, (fromP ss l nm).length ≤ 5 * l.length
  | [] => by simp [fromP]
  | k :: r => by
    have ih := fromP_length hv nm r
    have h1 := ownP_length hv k nm
    have : fromP ss (k :: r) nm = ownP ss k nm ++ fromP ss r nm := by simp [fromP]
    rw [this, List.length_append, List.length_cons]
    omega
theorem lookF_length {ss : List Sc} (hv : Valid ss) (nm : ByteArray) : ∀ l : List Nat, (lookF ss (impP ss) nm l).places.length ≤ 25
  | [] => by simp [lookF]
  | m :: r => by
    unfold lookF
    split
    · split
      · exact lookF_length hv nm r
      · have h1 := fromP_length hv nm (impP ss m)
        have h2 := impP_length hv m
        show (fromP ss (impP ss m) nm).length ≤ 25
        omega
    · have h1 := ownP_length hv m nm
      show (ownP ss m nm).length ≤ 25
      omega
theorem impStep_other {ss : List Sc} {imps : Nat → List Nat} {s : Nat} {out : List Nat} {x : It} (h : x.kind ≠ 3) : impStep ss imps s out x = out := by unfold impStep; rw [if_neg h]
theorem impStep_none {ss : List Sc} {s : Nat} {out : List Nat} {x : It} (h : targetP ss s x.name = -1) : impStep ss (impP ss) s out x = out := by
  unfold impStep
  split
  · rw [if_pos (.inl h)]
  · rfl
theorem impStep_in {ss : List Sc} {s m : Nat} {out : List Nat} {x : It} (h : targetP ss s x.name = (m : Int)) (hm : m ∈ out) : impStep ss (impP ss) s out x = out := by
  unfold impStep
  split
  · rw [if_pos (.inr (by rw [show targetF ss (impP ss) s x.name = (m : Int) from h]; simpa using hm))]
  · rfl
theorem impStep_new {ss : List Sc} {s m : Nat} {out : List Nat} {x : It} (hk : x.kind = 3) (h : targetP ss s x.name = (m : Int)) (hm : m ∉ out) : impStep ss (impP ss) s out x = out ++ [m] := by
  unfold impStep
  have h' : targetF ss (impP ss) s x.name = (m : Int) := h
  have hn : ¬ ((m : Int) = -1 ∨ (m : Int).toNat ∈ out) := by
    rintro (h1 | h1)
    · omega
    · rw [Int.toNat_natCast] at h1; exact hm h1
  rw [if_pos hk, h', if_neg hn]
  simp
end Go.Proofs.YtadpgoiiopfnnaaDoor
namespace Go.Proofs.YtadpgoiiopfnnaaDoor
open Go Go.RowKit
set_option maxRecDepth 100000 in
theorem l2In_any (xs : List Int) (oa : Option Addr) (cap : Nat) (n : Int) (w : World) (hn : xs.length < 2 ^ 40) (h : HoldsInts w oa xs) :
    Calls Tryd.prog 167 #[.slice oa xs.length cap, .int .i64 n] w fun e w' => e = .returned (.bool (decide (n ∈ xs))) ∧ Below w.heap.size w w' := by
  have K := Lib.hid h
  clear h
  go_enter Tryd.func167, Tryd.ntmps167
  go_wp2
  go_loopw [9] (fun i wr => ∃ k : Nat, i = .int .i64 k ∧ k ≤ xs.length ∧ Hid (n ∉ xs.take k) ∧ Below w.heap.size w wr) (fun i _ => xs.length - (intOf i).toNat)
  case atStart => exact ⟨0, rfl, Nat.zero_le _, Lib.hid (by simp), Below.refl _ _⟩
  case round =>
    obtain ⟨k, rfl, hk, hno, hb⟩ := hrel
    by_cases hlt : k < xs.length
    · obtain ⟨x, hx⟩ : ∃ x, xs[k]? = some x := ⟨_, List.getElem?_eq_getElem hlt⟩
      obtain ⟨b1, f1, rfl, hb1, q1⟩ := K.out.at (by omega)
      have a0 := (hb.cell (p := ⟨b1, f1 + k, none⟩) hb1).trans (q1 k x hx)
      have HX := Lib.hid hx
      clear hx q1
      by_cases he : x = n
      · have HM : Hid (n ∈ xs) := Lib.hid (by rw [← he]; exact List.mem_of_getElem? HX.out)
        have hq : (x == n) = true := by simpa using he
        clear he
        go_wp2
        go_ret
        exact ⟨by simp [HM.out], hb⟩
      · have HN : Hid (n ∉ xs.take (k + 1)) := Lib.hid (by
          rw [List.take_add_one, HX.out]
          simp only [Option.toList_some, List.mem_append, List.mem_singleton, not_or]
          exact ⟨hno.out, fun e => he e.symm⟩)
        have hq : (x == n) = false := by simpa using he
        clear he
        go_wp2
        go_roundw
        case rel => exact ⟨k + 1, by go_num, by omega, HN, hb⟩
        case measure => simp only [intOf]; omega
    · obtain rfl : k = xs.length := by omega
      have HN : Hid (n ∉ xs) := Lib.hid (by have := hno.out; rwa [List.take_length] at this)
      go_wp2
      go_ret
      exact ⟨by simp [HN.out], hb⟩
theorem mem_natInts {l : List Nat} {n : Nat} : (n : Int) ∈ natInts l ↔ n ∈ l := by
  unfold natInts
  rw [List.mem_map]
  constructor
  · rintro ⟨m, hm, e⟩
    obtain rfl : m = n := by omega
    exact hm
  · exact fun h => ⟨n, h, rfl⟩
theorem natInts_length (l : List Nat) : (natInts l).length = l.length := by simp [natInts]
/-- What l2Chain leaves, as a list that holds numbers. -/
theorem NumsGot.val {l : List Nat} {w w' : World} {e : Ending} (h : NumsGot l w e w') : ∃ oa cap, e = .returned (.slice oa (natInts l).length cap) ∧ HoldsInts w' oa (natInts l) ∧ Below w.heap.size w w' := by
  obtain ⟨v, rfl, hr, hb⟩ := h
  obtain ⟨oa, cap, rfl, hh⟩ := holdsInts_of_owns hr
  exact ⟨oa, cap, rfl, hh, hb⟩
/-- Is a scope one of a chain? As a call answers it. -/
theorem within_snoc (ss : List Sc) (s k : Nat) : ((List.range (k + 1)).filter fun m => decide (s ∈ chainP ss m)) = ((List.range k).filter fun m => decide (s ∈ chainP ss m)) ++ if s ∈ chainP ss k then [k] else [] := by
  rw [List.range_succ, List.filter_append]
  congr 1
  by_cases h : s ∈ chainP ss k
  · simp [h]
  · simp [h]
theorem within_length (ss : List Sc) (s k : Nat) : ((List.range k).filter fun m => decide (s ∈ chainP ss m)).length ≤ k := by
  have := List.length_filter_le (fun m => decide (s ∈ chainP ss m)) (List.range k)
  simpa using this
end Go.Proofs.YtadpgoiiopfnnaaDoor
namespace Go.Proofs.YtadpgoiiopfnnaaDoor
open Go Go.RowKit Go.Maps
/-- A place of an item, as the map's key; what is remembered at it. -/
def IsItem (ss : List Sc) (q : Nat × Nat) : Prop := ∃ (c : Sc) (x : It), ss[q.1]? = some c ∧ c.items[q.2]? = some x
def qKey (q : Nat × Nat) : Lit := plLit (q.1 : Int) (q.2 : Int)
def tgt (ss : List Sc) (q : Nat × Nat) : Int := targetP ss q.1 ((itemAtP ss (q.1 : Int) (q.2 : Int)).getD zeroIt).name
def tgtVal (ss : List Sc) (q : Nat × Nat) : DataW Unit := numD (tgt ss q)
theorem tgt_of {ss : List Sc} {i j : Nat} {c : Sc} {x : It} (hc : ss[i]? = some c) (hx : c.items[j]? = some x) : tgt ss (i, j) = targetP ss i x.name := by
  unfold tgt
  rw [itemAtP_nat hc, hx]
  rfl
theorem qKey_is (q : Nat × Nat) : WideAt.IsKeyLit (qKey q) := trivial
theorem item_bounds {ss : List Sc} (hv : Valid ss) {q : Nat × Nat} (h : IsItem ss q) : q.1 < 6 ∧ q.2 < 5 := by
  obtain ⟨c, x, hc, hx⟩ := h
  have h1 := (List.getElem?_eq_some_iff.1 hc).1
  have h2 := (List.getElem?_eq_some_iff.1 hx).1
  have h3 := hv.count.2
  have h4 := hv.five c (List.mem_of_getElem? hc)
  omega
theorem qKey_inj {ss : List Sc} (hv : Valid ss) {p q : Nat × Nat} (hp : IsItem ss p) (hq : IsItem ss q) (h : qKey p = qKey q) : p = q := by
  have b1 := item_bounds hv hp
  have b2 := item_bounds hv hq
  have := plLit_inj (wf_small (by omega)) (wf_small (by omega)) (wf_small (by omega)) (wf_small (by omega)) h
  obtain ⟨a, b⟩ := p
  obtain ⟨c, d⟩ := q
  simp only [Prod.mk.injEq] at *
  omega
theorem nodup_keys {ss : List Sc} (hv : Valid ss) : ∀ {l : List (Nat × Nat)}, l.Nodup → (∀ q ∈ l, IsItem ss q) → (l.map qKey).Nodup
  | [], _, _ => by simp
  | p :: r, hn, hi => by
    rw [List.nodup_cons] at hn
    rw [List.map_cons, List.nodup_cons]
    refine ⟨fun hm => ?_, nodup_keys hv hn.2 fun q hq => hi q (List.mem_cons_of_mem _ hq)⟩
    obtain ⟨q, hq, he⟩ := List.mem_map.1 hm
    exact hn.1 (qKey_inj hv (hi q (List.mem_cons_of_mem _ hq)) (hi p List.mem_cons_self) he ▸ hq)
theorem items_bound {ss : List Sc} (hv : Valid ss) {l : List (Nat × Nat)} (hn : l.Nodup) (hi : ∀ q ∈ l, IsItem ss q) : l.length ≤ 30 := by
  have hl : (l.map fun q => q.1 * 5 + q.2).Nodup := by
    induction l with
    | nil => simp
    | cons p r ih =>
      rw [List.nodup_cons] at hn
      rw [List.map_cons, List.nodup_cons]
      refine ⟨fun hm => ?_, ih hn.2 fun q hq => hi q (List.mem_cons_of_mem _ hq)⟩
      obtain ⟨q, hq, he⟩ := List.mem_map.1 hm
      have b1 := item_bounds hv (hi p List.mem_cons_self)
      have b2 := item_bounds hv (hi q (List.mem_cons_of_mem _ hq))
      refine hn.1 ?_
      have : q = p := by
        obtain ⟨a, b⟩ := p
        obtain ⟨c, d⟩ := q
        simp only [Prod.mk.injEq] at *
        omega
      exact this ▸ hq
  have h := length_le_of_nodup_lt (n := 30) hl (fun m hm => by
    obtain ⟨q, hq, rfl⟩ := List.mem_map.1 hm
    have := item_bounds hv (hi q hq)
    omega)
  simpa using h
/-- The map of targets: some places, each once, each with its target. -/
def Memo (w : World) (M : Nat) (ss : List Sc) : Prop := ∃ l : List (Nat × Nat), l.Nodup ∧ (∀ q ∈ l, IsItem ss q) ∧ w.ownsMap Tryd.prog 34 numR M l.length (putInto qKey (tgtVal ss) (.map []) l)
theorem nilMap : IsMap (.map [] : DataW Unit) := ⟨_, rfl⟩
theorem has_memo {ss : List Sc} (hv : Valid ss) {l : List (Nat × Nat)} (hi : ∀ q ∈ l, IsItem ss q) {q : Nat × Nat} (hq : IsItem ss q) : Maps.has (putInto qKey (tgtVal ss) (.map []) l) (qKey q) = true ↔ q ∈ l := by
  rw [putInto_has qKey (tgtVal ss) qKey_is (qKey q) l _ nilMap]
  constructor
  · rintro (h | ⟨p, hp, he⟩)
    · cases h
    · exact qKey_inj hv (hi p hp) hq he ▸ hp
  · exact fun h => .inr ⟨q, h, rfl⟩
theorem at_memo {ss : List Sc} (hv : Valid ss) {l : List (Nat × Nat)} (hn : l.Nodup) (hi : ∀ q ∈ l, IsItem ss q) {q : Nat × Nat} (hq : q ∈ l) (z : DataW Unit) : (putInto qKey (tgtVal ss) (.map []) l).atKey (qKey q) z = numD (tgt ss q) :=
  putInto_at qKey (tgtVal ss) qKey_is z l _ nilMap (nodup_keys hv hn hi) q hq
theorem zeroInt (w : World) : (zeroValue 3).run Tryd.prog w = .ok (.int .i64 0) w := by kernel_rfl
theorem numR_eq {v : Value} {z : Int} {ps : List MemPlace} (h : numR v = some (numD z, ps)) : v = .int .i64 z := by
  unfold numR at h
  split at h
  · simp only [Option.some.injEq, Prod.mk.injEq, numD, DataW.lit.injEq, Lit.int.injEq, true_and] at h
    rw [h.1]
  · cases h
/-- A place looked up among the targets. -/
theorem Memo.look {w : World} {M : Nat} {ss : List Sc} (hv : Valid ss) (h : Memo w M ss) {q : Nat × Nat} (hq : IsItem ss q) :
    ((Instr.lookup 181 (.map (some M)) (.agg #[.int .i64 (q.1 : Int), .int .i64 (q.2 : Int)]) true).run Tryd.prog w = .ok (.tuple #[.int .i64 (tgt ss q), .bool true]) w) ∨
    (∃ l : List (Nat × Nat), l.Nodup ∧ (∀ p ∈ l, IsItem ss p) ∧ q ∉ l ∧ w.ownsMap Tryd.prog 34 numR M l.length (putInto qKey (tgtVal ss) (.map []) l) ∧ ∃ z : Int, (Instr.lookup 181 (.map (some M)) (.agg #[.int .i64 (q.1 : Int), .int .i64 (q.2 : Int)]) true).run Tryd.prog w = .ok (.tuple #[.int .i64 z, .bool false]) w) := by
  obtain ⟨l, hn, hi, hm⟩ := h
  have b := item_bounds hv hq
  obtain ⟨v, ps, hrun, hval⟩ := hm.look_ok (t := 181) (e := 3) placeLaw Tryd.underlying181 (zeroInt _) (numR_mk 0) (pl_key (a := (q.1 : Int)) (b := (q.2 : Int)) (wf_small (by omega)) (wf_small (by omega)))
  have hrun' : (Instr.lookup 181 (.map (some M)) (.agg #[.int .i64 (q.1 : Int), .int .i64 (q.2 : Int)]) true).run Tryd.prog w = .ok (.tuple #[v, .bool (Maps.has (putInto qKey (tgtVal ss) (.map []) l) (qKey q))]) w := hrun
  by_cases hql : q ∈ l
  · left
    have e := at_memo hv hn hi hql (numD 0)
    have hval' : numR v = some ((putInto qKey (tgtVal ss) (.map []) l).atKey (qKey q) (numD 0), ps) := hval
    rw [e] at hval'
    rw [(has_memo hv hi hq).2 hql, numR_eq hval'] at hrun'
    exact hrun'
  · right
    have hf : Maps.has (putInto qKey (tgtVal ss) (.map []) l) (qKey q) = false := by
      cases hb : Maps.has (putInto qKey (tgtVal ss) (.map []) l) (qKey q) with
      | false => rfl
      | true => exact absurd ((has_memo hv hi hq).1 hb) hql
    rw [hf] at hrun'
    have hval' : numR v = some ((putInto qKey (tgtVal ss) (.map []) l).atKey (qKey q) (numD 0), ps) := hval
    rw [putInto_other qKey (tgtVal ss) (qKey q) (numD 0) l _ (fun p hp e => hql (qKey_inj hv (hi p hp) hq e ▸ hp))] at hval'
    have e0 : (DataW.map [] : DataW Unit).atKey (qKey q) (numD 0) = numD 0 := rfl
    rw [e0] at hval'
    rw [numR_eq hval'] at hrun'
    exact ⟨l, hn, hi, hql, hm, 0, hrun'⟩
theorem ownsMap_tight {w : World} {k : TypeId} {R : Value → Option (DataW Unit × List MemPlace)} {b n : Nat} {D : DataW Unit} (h : w.ownsMap Tryd.prog k R b n D) : w.ownsMap Tryd.prog k R b (Maps.size D) D := by
  obtain ⟨es, clock, hb, F, hs, rfl⟩ := h
  exact ⟨es, clock, hb, F, by simp [Maps.size, length_sorted], rfl⟩
theorem ownsMap_more {w : World} {k : TypeId} {R : Value → Option (DataW Unit × List MemPlace)} {b n m : Nat} {D : DataW Unit} (h : w.ownsMap Tryd.prog k R b n D) (hm : n ≤ m) : w.ownsMap Tryd.prog k R b m D := by
  obtain ⟨es, clock, hb, F, hs, rfl⟩ := h
  exact ⟨es, clock, hb, F, Nat.le_trans hs hm, rfl⟩
/-- A place's target remembered. -/
theorem memo_put {w : World} {M : Nat} {ss : List Sc} (hv : Valid ss) (h : Memo w M ss) {q : Nat × Nat} (hq : IsItem ss q) {z : Int} (hz : z = tgt ss q) :
    ∃ w', (Instr.mapUpdate 181 (.map (some M)) (.agg #[.int .i64 (q.1 : Int), .int .i64 (q.2 : Int)]) (.int .i64 z)).run Tryd.prog w = .ok () w' ∧ Memo w' M ss ∧ w.grownBy w' (some M) := by
  subst hz
  obtain ⟨l, hn, hi, hm⟩ := h
  have b := item_bounds hv hq
  have hl := items_bound hv hn hi
  obtain ⟨w', hrun, hown, hg⟩ := hm.update (t := 181) (e := 3) placeLaw Tryd.underlying181 (by unfold maxLen; omega) (pl_key (a := (q.1 : Int)) (b := (q.2 : Int)) (wf_small (by omega)) (wf_small (by omega))) (numR_mk (tgt ss q))
  have hown' : w'.ownsMap Tryd.prog 34 numR M (l.length + 1) ((putInto qKey (tgtVal ss) (.map []) l).put (qKey q) (numD (tgt ss q))) := hown
  refine ⟨w', hrun, ?_, hg⟩
  by_cases hql : q ∈ l
  · have hM := putInto_isMap qKey (tgtVal ss) l _ nilMap
    have e : (putInto qKey (tgtVal ss) (.map []) l).put (qKey q) (numD (tgt ss q)) = putInto qKey (tgtVal ss) (.map []) l := by
      refine Maps.ext (hown'.canon placeLaw) (hm.canon placeLaw) (fun k => ?_) (fun k z _ => ?_)
      · by_cases hk : k = qKey q
        · rw [hk, Maps.has_put_same hM (qKey_is q), (has_memo hv hi hq).2 hql]
        · exact Maps.has_put_other hk _
      · by_cases hk : k = qKey q
        · rw [hk, Maps.atKey_put_same hM (qKey_is q), at_memo hv hn hi hql]
        · exact Maps.atKey_put_other hk _ _
    rw [e] at hown'
    exact ⟨l, hn, hi, ownsMap_more (ownsMap_tight hown') hm.size_le⟩
  · refine ⟨l ++ [q], List.nodup_append.2 ⟨hn, by simp, by rintro a ha b hb rfl; rw [List.mem_singleton] at hb; exact hql (hb ▸ ha)⟩, fun p hp => ?_, ?_⟩
    · rcases List.mem_append.1 hp with h1 | h1
      · exact hi p h1
      · rw [List.mem_singleton] at h1; exact h1 ▸ hq
    · rw [putInto_snoc, List.length_append]
      exact hown'
theorem memo_nil {w : World} {M : Nat} {ss : List Sc} (h : w.ownsMap Tryd.prog 34 numR M 0 (.map [])) : Memo w M ss := ⟨[], by simp, by simp, h⟩
/-- A lookup in a tree. -/
structure LookW (w : World) (B L M T M1 M2 : Nat) (v : Value) (ds : List Nd) (ss : List Sc) : Prop where
  tree : TreeIs w B T M1 M2 v ds ss
  box : Row w L 183 [.pointer (some ⟨T, 0, none⟩), .map (some M)]
  memo : Memo w M ss
  ne1 : M1 ≠ M
  ne2 : M2 ≠ M
theorem Memo.block {w : World} {M : Nat} {ss : List Sc} (h : Memo w M ss) : ∃ es clock, w.heap[M]? = some (.map es clock) := by
  obtain ⟨l, _, _, es, clock, hh, _⟩ := h
  exact ⟨es, clock, hh⟩
theorem Memo.lt {w : World} {M : Nat} {ss : List Sc} (h : Memo w M ss) : M < w.heap.size := by
  obtain ⟨es, clock, hh⟩ := h.block
  exact (Array.getElem?_eq_some_iff.1 hh).1
theorem Memo.below {w w' : World} {M : Nat} {ss : List Sc} (h : Memo w M ss) (hb : Below w.heap.size w w') : Memo w' M ss := by
  obtain ⟨l, h1, h2, h3⟩ := h
  exact ⟨l, h1, h2, ownsMap_below h3 hb⟩
/-- What turns one map alone leaves all cells. -/
theorem Turns.cellsM {w W : World} {M : Nat} {ss : List Sc} (h : Turns w W M M) (m : Memo w M ss) : CellsKept w.heap.size w W where
  size := h.size
  block := fun g vs t fr hg hh => by
    have hne : g ≠ M := by
      rintro rfl
      obtain ⟨es, clock, h1⟩ := m.block
      rw [hh] at h1
      cases h1
    exact (h.rest g hg hne hne).trans hh
theorem NodesHold.keptC {n : Nat} {w w' : World} {ds : List Nd} {ss : List Sc} (h : NodesHold w ds ss) (hk : CellsKept n w w') (hn : w.heap.size ≤ n) : NodesHold w' ds ss where
  len := h.len
  items := fun i d s hd hs => by
    obtain ⟨oi, ci, h1, h2⟩ := h.items i d s hd hs
    exact ⟨oi, ci, h1, h2.kept hk hn⟩
theorem LookW.below {w w' : World} {B L M T M1 M2 : Nat} {v : Value} {ds : List Nd} {ss : List Sc} (h : LookW w B L M T M1 M2 v ds ss) (hb : Below w.heap.size w w') : LookW w' B L M T M1 M2 v ds ss :=
  ⟨h.tree.below hb, h.box.below hb h.box.lt, h.memo.below hb, h.ne1, h.ne2⟩
/-- Where the map of targets alone has turned. -/
theorem LookW.turned {w w' : World} {B L M T M1 M2 : Nat} {v : Value} {ds : List Nd} {ss : List Sc} (h : LookW w B L M T M1 M2 v ds ss) (ht : Turns w w' M M) (hm : Memo w' M ss) : LookW w' B L M T M1 M2 v ds ss :=
  have hk := ht.cellsM h.memo
  ⟨{ tree := h.tree.tree.kept hk (Nat.le_refl _)
     hold := h.tree.hold.keptC hk (Nat.le_refl _)
     pars := h.tree.pars
     items := by
       obtain ⟨n, es, clock, hh, r⟩ := h.tree.items
       exact ⟨n, es, clock, (ht.rest _ (Array.getElem?_eq_some_iff.1 hh).1 h.ne1 h.ne1).trans hh, r⟩
     mods := by
       obtain ⟨n, es, clock, hh, r⟩ := h.tree.mods
       exact ⟨n, es, clock, (ht.rest _ (Array.getElem?_eq_some_iff.1 hh).1 h.ne2 h.ne2).trans hh, r⟩
     low1 := h.tree.low1
     low2 := h.tree.low2 },
   (by
     have := h.box
     unfold Row at this ⊢
     exact hk.block L _ _ _ h.box.lt this), hm, h.ne1, h.ne2⟩
/-- What a call of a lookup's methods leaves: the answer, the lookup as it was, its map alone turned. -/
structure Left (w w' : World) (B L M T M1 M2 : Nat) (v : Value) (ds : List Nd) (ss : List Sc) : Prop where
  look : LookW w' B L M T M1 M2 v ds ss
  turns : Turns w w' M M
theorem Left.trans {a b c : World} {B L M T M1 M2 : Nat} {v : Value} {ds : List Nd} {ss : List Sc} (h : Left a b B L M T M1 M2 v ds ss) (k : Left b c B L M T M1 M2 v ds ss) : Left a c B L M T M1 M2 v ds ss := ⟨k.look, h.turns.trans k.turns⟩
theorem Left.step {a b c : World} {B L M T M1 M2 : Nat} {v : Value} {ds : List Nd} {ss : List Sc} (h : Left a b B L M T M1 M2 v ds ss) (k : Below b.heap.size b c) : Left a c B L M T M1 M2 v ds ss := ⟨h.look.below k, h.turns.trans (.of_below k)⟩
theorem LookW.left {w : World} {B L M T M1 M2 : Nat} {v : Value} {ds : List Nd} {ss : List Sc} (h : LookW w B L M T M1 M2 v ds ss) : Left w w B L M T M1 M2 v ds ss := ⟨h, Turns.refl _ _ _⟩
/-- A row of one's own behind the map, when the map has turned. -/
theorem ownsRow_turned {w w' : World} {base n size M : Nat} {e : TypeId} {u : Value} {xs : List Value} {ss : List Sc} (h : w.ownsRow base e size u n xs) (ht : Turns w w' M M) (m : Memo w M ss) : w'.ownsRow base e size u n xs := by
  obtain ⟨h1, h2 | ⟨g, cap, cur, hv, hB, hh, r⟩⟩ := h
  · exact ⟨h1, .inl h2⟩
  · exact ⟨h1, .inr ⟨g, cap, cur, hv, hB, (ht.cellsM m).block g _ _ _ (Array.getElem?_eq_some_iff.1 hh).1 hh, r⟩⟩
set_option maxRecDepth 100000 in
theorem index_any (xs : List Int) (oa : Option Addr) (cap : Nat) (n : Int) (w : World) (hn : xs.length < 2 ^ 40) (h : HoldsInts w oa xs) :
    Calls Tryd.prog 175 #[.slice oa xs.length cap, .int .i64 n] w fun e w' => (∃ z : Int, e = .returned (.int .i64 z) ∧ (z ≥ 0 ↔ n ∈ xs)) ∧ Below w.heap.size w w' := by
  have K := Lib.hid h
  clear h
  go_enter Tryd.func175, Tryd.ntmps175
  go_wp2
  go_loopw [8] (fun i wr => ∃ k : Nat, i = .int .i64 k ∧ k ≤ xs.length ∧ Hid (n ∉ xs.take k) ∧ Below w.heap.size w wr) (fun i _ => xs.length - (intOf i).toNat)
  case atStart => exact ⟨0, rfl, Nat.zero_le _, Lib.hid (by simp), Below.refl _ _⟩
  case round =>
    obtain ⟨k, rfl, hk, hno, hb⟩ := hrel
    by_cases hlt : k < xs.length
    · obtain ⟨x, hx⟩ : ∃ x, xs[k]? = some x := ⟨_, List.getElem?_eq_getElem hlt⟩
      obtain ⟨b1, f1, rfl, hb1, q1⟩ := K.out.at (by omega)
      have a0 := (hb.cell (p := ⟨b1, f1 + k, none⟩) hb1).trans (q1 k x hx)
      have HX := Lib.hid hx
      clear hx q1
      by_cases he : n = x
      · have HM : Hid (n ∈ xs) := Lib.hid (by rw [he]; exact List.mem_of_getElem? HX.out)
        have hq : (n == x) = true := by simpa using he
        clear he
        go_wp2
        go_ret
        exact ⟨⟨_, rfl, by simp [HM.out]⟩, hb⟩
      · have HN : Hid (n ∉ xs.take (k + 1)) := Lib.hid (by
          rw [List.take_add_one, HX.out]
          simp only [Option.toList_some, List.mem_append, List.mem_singleton, not_or]
          exact ⟨hno.out, he⟩)
        have hq : (n == x) = false := by simpa using he
        clear he
        go_wp2
        go_roundw
        case rel => exact ⟨k + 1, by go_num, by omega, HN, hb⟩
        case measure => simp only [intOf]; omega
    · obtain rfl : k = xs.length := by omega
      have HN : Hid (n ∉ xs) := Lib.hid (by have := hno.out; rwa [List.take_length] at this)
      go_wp2
      go_ret
      exact ⟨⟨_, rfl, by simp [HN.out]⟩, hb⟩
set_option maxRecDepth 100000 in
theorem contains_any (xs : List Int) (oa : Option Addr) (cap : Nat) (n : Int) (w : World) (hn : xs.length < 2 ^ 40) (h : HoldsInts w oa xs) :
    Calls Tryd.prog 173 #[.slice oa xs.length cap, .int .i64 n] w fun e w' => e = .returned (.bool (decide (n ∈ xs))) ∧ Below w.heap.size w w' := by
  have C := Lib.hid (index_any xs oa cap n w hn h)
  clear h hn
  go_enter Tryd.func173, Tryd.ntmps173
  go_wp2_with fail
  refine C.out.mono ?_
  rintro e w1 ⟨⟨z, rfl, hz⟩, hb⟩
  have HB := Lib.hid hb
  have HZ : Hid (decide (z ≥ 0) = decide (n ∈ xs)) := Lib.hid (by simp only [hz])
  clear hb hz
  go_wp2
  go_ret
  exact ⟨by rw [← HZ.out]; rfl, HB.out⟩
end Go.Proofs.YtadpgoiiopfnnaaDoor
namespace Go.Proofs.YtadpgoiiopfnnaaDoor
open Go Go.RowKit Go.Maps
theorem find_atG {α : Type} {l : List α} {p : α → Bool} {k : Nat} {x : α} (hx : l[k]? = some x) (hp : p x = true) (hn : ∀ m, m ∈ l.take k → p m = false) : l.find? p = some x := by
  have hk := (List.getElem?_eq_some_iff.1 hx).1
  have e : l = l.take k ++ x :: l.drop (k + 1) := by
    have h1 := List.drop_eq_getElem_cons hk
    rw [(List.getElem?_eq_some_iff.1 hx).2] at h1
    rw [← h1, List.take_append_drop]
  rw [e, List.find?_append, List.find?_cons_of_pos hp, List.find?_eq_none.2 (fun m hm => by simp [hn m hm])]
  rfl
theorem field_kind (k s : Int) (nm : ByteArray) (w : World) : (Instr.field 65 (.agg #[.int .i64 k, .string nm, .int .i64 s]) 0).run Tryd.prog w = .ok (.int .i64 k) w := by kernel_rfl
theorem field_name (k s : Int) (nm : ByteArray) (w : World) : (Instr.field 65 (.agg #[.int .i64 k, .string nm, .int .i64 s]) 1).run Tryd.prog w = .ok (.string nm) w := by kernel_rfl
theorem field_scope (k s : Int) (nm : ByteArray) (w : World) : (Instr.field 65 (.agg #[.int .i64 k, .string nm, .int .i64 s]) 2).run Tryd.prog w = .ok (.int .i64 s) w := by kernel_rfl
attribute [local go_sem ↓] field_kind field_name field_scope
/-- What ModuleOf answers. -/
def moduleR (ss : List Sc) (n a b : Int) (ok : Bool) : Prop := (¬ HasScope ss n ∧ a = 0 ∧ b = 0 ∧ ok = false) ∨ (HasScope ss n ∧ modR ss n a b ok)
theorem moduleR.same {ss : List Sc} {n a b c d : Int} {ok ok' : Bool} (h : moduleR ss n a b ok) (k : moduleR ss n c d ok') : a = c ∧ b = d ∧ ok = ok' := by
  rcases h with ⟨h1, rfl, rfl, rfl⟩ | ⟨h1, h2⟩ <;> rcases k with ⟨k1, rfl, rfl, rfl⟩ | ⟨k1, k2⟩
  · exact ⟨rfl, rfl, rfl⟩
  · exact absurd k1 h1
  · exact absurd h1 k1
  · exact h2.same k2
def plV (a b : Int) : Value := .agg #[.int .i64 a, .int .i64 b]
/-- What ModuleOf leaves. -/
def ModuleGot (ss : List Sc) (n : Int) (w : World) (e : Ending) (w' : World) : Prop := ∃ a b ok, e = .returned (.tuple #[.agg #[.int .i64 a, .int .i64 b], .bool ok]) ∧ moduleR ss n a b ok ∧ Below w.heap.size w w'
end Go.Proofs.YtadpgoiiopfnnaaDoor
namespace Go.Proofs.YtadpgoiiopfnnaaDoor
open Go Go.RowKit Go.Maps
attribute [local go_sem ↓] field_kind field_name field_scope
/-- What target answers at the items of a scope. -/
def TargetC (B L M T M1 M2 : Nat) (v : Value) (ds : List Nd) (ss : List Sc) (s : Nat) : Prop :=
  ∀ (j : Nat), IsItem ss (s, j) → ∀ W : World, LookW W B L M T M1 M2 v ds ss →
    Calls Tryd.prog 97 #[.pointer (some ⟨L, 0, none⟩), .agg #[.int .i64 (s : Int), .int .i64 (j : Int)]] W fun e w' => e = .returned (.int .i64 (tgt ss (s, j))) ∧ Left W w' B L M T M1 M2 v ds ss
/-- What a call leaves beside the lookup: a list of numbers of its own. -/
def NumsLeft (l : List Nat) (w : World) (B L M T M1 M2 : Nat) (v : Value) (ds : List Nd) (ss : List Sc) (e : Ending) (w' : World) : Prop :=
  ∃ u, e = .returned u ∧ w'.ownsRow w.heap.size 3 1 u l.length (numVals l) ∧ Left w w' B L M T M1 M2 v ds ss
theorem Memo.same {w w' : World} {M : Nat} {ss : List Sc} (h : Memo w M ss) (hb : w'.heap[M]? = w.heap[M]?) : Memo w' M ss := by
  obtain ⟨l, h1, h2, es, clock, hh, r⟩ := h
  exact ⟨l, h1, h2, es, clock, hb.trans hh, r⟩
/-- What turns blocks of the call's own alone. -/
theorem Left.far {w W W' : World} {B L M T M1 M2 : Nat} {v : Value} {ds : List Nd} {ss : List Sc} (hL : LookW w B L M T M1 M2 v ds ss) (h : Left w W B L M T M1 M2 v ds ss) (hb : Below w.heap.size W W') : Left w W' B L M T M1 M2 v ds ss :=
  have ht : Turns w W' M M := ⟨hb.os.trans h.turns.os, hb.tape.trans h.turns.tape, hb.output.trans h.turns.output, Nat.le_trans h.turns.size hb.size, fun g hg h1 h2 => (hb.block g hg).trans (h.turns.rest g hg h1 h2)⟩
  ⟨hL.turned ht (h.look.memo.same (hb.block M hL.memo.lt)), ht⟩
theorem ownsRow_left {W W' : World} {base n size B L M T M1 M2 : Nat} {v : Value} {ds : List Nd} {ss : List Sc} {e : TypeId} {u : Value} {xs : List Value} (h : W.ownsRow base e size u n xs) (hL : LookW W B L M T M1 M2 v ds ss) (ht : Left W W' B L M T M1 M2 v ds ss) : W'.ownsRow base e size u n xs := ownsRow_turned h ht.turns hL.memo
set_option maxRecDepth 100000 in
set_option maxHeartbeats 4000000 in
theorem importsOf_any {ss : List Sc} (hv : Valid ss) {w : World} {B L M T M1 M2 : Nat} {v : Value} {ds : List Nd} (hL : LookW w B L M T M1 M2 v ds ss) {s : Nat} {d : Nd} (hd : ds[s]? = some d) (hT : TargetC B L M T M1 M2 v ds ss s) :
    Calls Tryd.prog 170 #[.pointer (some ⟨L, 0, none⟩), .pointer (some ⟨d.blk, 0, none⟩)] w (NumsLeft (impP ss s) w B L M T M1 M2 v ds ss) := by
  have hs : s < ss.length := by have := (List.getElem?_eq_some_iff.1 hd).1; have := hL.tree.hold.len; omega
  obtain ⟨c, hsc⟩ : ∃ c, ss[s]? = some c := ⟨_, List.getElem?_eq_getElem hs⟩
  have hil := hv.five c (List.mem_of_getElem? hsc)
  obtain ⟨oi, ci, hdi, hci⟩ := hL.tree.hold.items s d c hd hsc
  have nk := hL.tree.tree.node s d hd
  have n2 := nk.2.cell (i := 2) (v := d.items) (by rfl)
  rw [hdi] at n2
  have HIE : Hid (impP ss s = impUp ss (impP ss) s c.items c.items.length) := Lib.hid (by rw [impP_eq hv.climbs]; unfold impF; rw [itemsP_of hsc])
  have HV := Lib.hid hv
  have HL0 := Lib.hid hL
  have HT := Lib.hid hT
  have HD := Lib.hid hd
  have HSC := Lib.hid hsc
  have HCI := Lib.hid hci
  clear hv hL hT hd hsc hci nk hdi
  go_enter Tryd.func170, Tryd.ntmps170
  go_wp2
  go_loopw [5, 14] (fun u i wr => ∃ k : Nat, i = .int .i64 k ∧ k ≤ c.items.length ∧ Hid (wr.ownsRow w.heap.size 3 1 u (impUp ss (impP ss) s c.items k).length (numVals (impUp ss (impP ss) s c.items k)) ∧ Left w wr B L M T M1 M2 v ds ss)) (fun _ i _ => c.items.length - (intOf i).toNat)
  case atStart => exact ⟨0, rfl, Nat.zero_le _, Lib.hid ⟨World.ownsRow_nil _ _ _ _, HL0.out.left⟩⟩
  case round =>
    obtain ⟨k, rfl, hk, hP⟩ := hrel
    by_cases hlt : k < c.items.length
    · obtain ⟨x, hx⟩ : ∃ x, c.items[k]? = some x := ⟨_, List.getElem?_eq_getElem hlt⟩
      obtain ⟨b2, o2, rfl, hb2, hcell2⟩ := HCI.out.at (by omega)
      obtain ⟨x0, x1, x2⟩ := hcell2 k x hx
      have HCK := Lib.hid (hP.out.2.turns.cellsM HL0.out.memo)
      have y0 := HCK.out.cell hb2 x0
      have y1 := HCK.out.cell hb2 x1
      have y2 := HCK.out.cell hb2 x2
      have hbi := (Below.refl wr.heap.size wr).alloc (Nat.le_refl _) (.cells #[.int .i64 x.kind, .string x.name, .int .i64 x.scope] 65)
      have HLI := Lib.hid (hP.out.2.step hbi)
      have HUI := Lib.hid (ownsRow_below hP.out.1 hbi)
      have m0 := ((HLI.out.look.tree.tree.node s d HD.out).2.cell (i := 0) (v := .int .i64 (s : Int)) (by rfl))
      have hul := impUp_length (ss := ss) s c.items k
      have HST := Lib.hid (impUp_snoc (ss := ss) (imps := impP ss) (s := s) hx)
      have HQI : Hid (IsItem ss (s, k)) := Lib.hid ⟨c, x, HSC.out, hx⟩
      have HTG := Lib.hid (tgt_of HSC.out hx)
      clear hx hcell2 x0 x1 x2 hbi
      by_cases hkd : x.kind = 3
      · have hq : (x.kind == 3) = true := by simpa using hkd
        have HKD := Lib.hid hkd
        have C := Lib.hid (HT.out k HQI.out _ HLI.out.look)
        clear hkd
        go_wp2_with fail
        refine C.out.mono ?_
        rintro e w3 ⟨rfl, hl3⟩
        have HU3 := Lib.hid (ownsRow_left HUI.out HLI.out.look hl3)
        have HL3 := Lib.hid (HLI.out.trans hl3)
        obtain ⟨ou, cu, rfl, hh3⟩ := holdsInts_of_owns HU3.out
        have HH3 := Lib.hid hh3
        have HNL : Hid ((natInts (impUp ss (impP ss) s c.items k)).length < 2 ^ 40) := Lib.hid (by rw [natInts_length]; omega)
        clear hl3 hh3 m0 y0 y1 y2
        rw [HTG.out]
        rcases target_ok HV.out s x.name with ht | ⟨m, ht, hm⟩
        · have HE : Hid (impUp ss (impP ss) s c.items (k + 1) = impUp ss (impP ss) s c.items k) := Lib.hid (by rw [HST.out, impStep_none ht])
          rw [ht]
          go_wp2
          go_roundw
          case rel => exact ⟨k + 1, by go_num, by omega, Lib.hid (by rw [HE.out]; exact ⟨HU3.out, HL3.out⟩)⟩
          case measure => simp only [intOf]; omega
        · rw [ht]
          go_wp2_with fail
          refine (contains_any (natInts (impUp ss (impP ss) s c.items k)) ou cu (m : Int) _ HNL.out HH3.out).mono ?_
          rintro e w5 ⟨rfl, hb5⟩
          have HL5 := Lib.hid (HL3.out.step hb5)
          have HU5 := Lib.hid (ownsRow_below HU3.out hb5)
          obtain ⟨q, hq2⟩ : ∃ q, decide ((m : Int) ∈ natInts (impUp ss (impP ss) s c.items k)) = q := ⟨_, rfl⟩
          rw [hq2]
          have HQ := Lib.hid hq2
          clear hb5 hq2
          cases q
          · have HNI : Hid (m ∉ impUp ss (impP ss) s c.items k) := Lib.hid (fun h => by have := HQ.out; simp [mem_natInts.2 h] at this)
            have HE : Hid (impUp ss (impP ss) s c.items (k + 1) = impUp ss (impP ss) s c.items k ++ [m]) := Lib.hid (by rw [HST.out, impStep_new HKD.out ht HNI.out])
            obtain ⟨i0, hi0, hz0, hz1, hz2⟩ := info_parts infoInt
            have hbs5 := HL5.out.turns.size
            go_wp2_with (at_builtin; refine wpList_append_own _ rfl _ _ 115 rfl w.heap.size 3 i0 (.int .i64 0) 1 8 Tryd.underlying115 hi0 hz0 hz1 hz2 rfl (by decide) _ _ _ rfl (HU5.out.alloc _) ⟨w5.heap.size, 0, none⟩ 1 1 [.int .i64 (m : Int)] rfl rfl ?c1 ?c2 ?c3 ?c4 ?c5 ?_)
            case c1 => exact cells_new _ _ _
            case c2 => intro u hu; simp only [List.mem_singleton] at hu; subst hu; rfl
            case c3 => unfold maxLen; omega
            case c4 => omega
            case c5 => simp only [World.size_alloc]; omega
            intro v' w6 hown' hgrow _
            have HL6 := Lib.hid (Left.far HL0.out HL5.out (below_append2 HU5.out hgrow (Nat.le_refl w.heap.size) hbs5))
            have HU6 := Lib.hid hown'
            clear hown' hgrow
            go_wp2
            go_roundw
            case rel => exact ⟨k + 1, by go_num, by omega, Lib.hid (by rw [HE.out, List.length_append, numVals_snoc]; exact ⟨HU6.out, HL6.out⟩)⟩
            case measure => simp only [intOf]; omega
          · have HNI : Hid (m ∈ impUp ss (impP ss) s c.items k) := Lib.hid (mem_natInts.1 (by have := HQ.out; simpa using this))
            have HE : Hid (impUp ss (impP ss) s c.items (k + 1) = impUp ss (impP ss) s c.items k) := Lib.hid (by rw [HST.out, impStep_in ht HNI.out])
            go_wp2
            go_roundw
            case rel => exact ⟨k + 1, by go_num, by omega, Lib.hid (by rw [HE.out]; exact ⟨HU5.out, HL5.out⟩)⟩
            case measure => simp only [intOf]; omega
      · have hq : (x.kind == 3) = false := by simpa using hkd
        have HE : Hid (impUp ss (impP ss) s c.items (k + 1) = impUp ss (impP ss) s c.items k) := Lib.hid (by rw [HST.out, impStep_other hkd])
        clear hkd
        go_wp2
        go_roundw
        case rel => exact ⟨k + 1, by go_num, by omega, Lib.hid (by rw [HE.out]; exact ⟨HUI.out, HLI.out⟩)⟩
        case measure => simp only [intOf]; omega
    · obtain rfl : k = c.items.length := by omega
      go_wp2
      go_ret
      exact ⟨_, rfl, by rw [HIE.out]; exact hP.out.1, hP.out.2⟩
end Go.Proofs.YtadpgoiiopfnnaaDoor
namespace Go.Proofs.YtadpgoiiopfnnaaDoor
open Go Go.RowKit Go.Maps
/-- Places appended to a row of places of one's own, as the operation runs it. -/
theorem append_places {W : World} {base k : Nat} {v u : Value} {xs : List Value} {ps : List (Int × Int)} {B : Nat} (hrow : W.ownsRow base 34 2 v k xs) (hu : W.ownsRow B 34 2 u ps.length (placeCells ps)) (hk : k + ps.length < 1000000) (hbase : base ≤ W.heap.size) (ty : TypeId) :
    ∃ v' w', (Builtin.append_ #[46, 46] ty #[v, u]).run Tryd.prog W = .ok v' w' ∧ w'.ownsRow base 34 2 v' (k + ps.length) (xs ++ placeCells ps) ∧ W.grownBy w' v.ownBlock := by
  obtain ⟨i0, hi, hz0, hz1, hz2⟩ := info_parts infoPl
  obtain ⟨hl, h2 | ⟨g, cap, cur, hv, hB, hh, hn, _, hs, ht⟩⟩ := hu
  · obtain ⟨rfl, h0⟩ := h2
    have hp := List.eq_nil_of_length_eq_zero h0
    subst hp
    refine ⟨v, W, run_append_owned_none W base 46 ty 34 i0 2 Tryd.underlying46 hi v k xs hrow, by simpa [placeCells] using hrow, ⟨rfl, rfl, rfl, Nat.le_refl _, fun _ _ _ => rfl⟩⟩
  · subst hv
    have hcells : ∀ (j : Nat) (q : Value), (placeCells ps)[j]? = some q → W.cell? ((⟨g, 0, none⟩ : Addr).add j) = some q := by
      intro j q hq
      have hjl := (List.getElem?_eq_some_iff.1 hq).1
      have h2 : (⟨g, 0, none⟩ : Addr).add j = ⟨g, j, none⟩ := by unfold Addr.add; split <;> simp_all
      rw [h2]
      rw [← ht, List.getElem?_take_of_lt (by omega)] at hq
      simp [World.cell?, hh]
      simpa using hq
    obtain ⟨v', w', hrun, h2, h3, _, _⟩ := run_append_own_at (P := Tryd.prog) W base 46 ty 34 i0 (.agg #[.int .i64 0, .int .i64 0]) 2 16 Tryd.underlying46 hi hz0 hz1 hz2 rfl (by decide) v k xs hrow ⟨g, 0, none⟩ ps.length cap (placeCells ps) hl hcells
      (by
        intro q hq
        unfold placeCells at hq
        obtain ⟨p, _, hp⟩ := List.mem_flatMap.1 hq
        simp only [List.mem_cons, List.mem_nil_iff, or_false] at hp
        rcases hp with rfl | rfl <;> rfl) (by unfold maxLen; omega) (by omega) hbase
    exact ⟨v', w', hrun, h2, h3⟩
/-- An append whose run is known. -/
theorem wpList_append_run {P : Program} {w : World} {ops : Array Oper} {rest : List Oper} {o : Oper} {a : Act} {Q : Exit → Act → World → Prop} (hgd : o.guard = none) (s x : Operand) (t : TypeId)
    (ho : o.op = .call { callee := .builtin .append, args := #[s, x], argTypes := #[t, t] }) {v' : Value} {w' : World} (hr : (Builtin.append_ #[t, t] o.type #[a.eval s, a.eval x]).run P w = .ok v' w')
    (h : wpList P ops Q rest (a.put o.dst v') w') : wpList P ops Q (o :: rest) a w :=
  wpList_plain hgd fun _ hK => by
    unfold Oper.wp execOp
    simp only [ho, resolve, invoke, builtin, Sem.run_bind, Sem.run_pure, Result.andThen_ok, List.map_toArray, List.map_cons, List.map_nil, hr]
    exact hK _ _ h
theorem placeCells_append (a b : List (Int × Int)) : placeCells (a ++ b) = placeCells a ++ placeCells b := by simp [placeCells]
theorem grown_below {W w' : World} {base k n size : Nat} {e : TypeId} {v : Value} {xs : List Value} (hrow : W.ownsRow base e size v k xs) (hg : W.grownBy w' v.ownBlock) (hb : n ≤ base) (hW : n ≤ W.heap.size) : Below n W w' := by
  refine (Below.refl n W).grown hg hW (fun r e => ?_)
  obtain ⟨_, h2 | ⟨g', cap, cur, hv, hB, _, _⟩⟩ := hrow
  · rw [h2.1] at e; simp [Value.ownBlock] at e
  · rw [hv] at e; simp only [Value.ownBlock, Option.some.injEq] at e; omega
set_option maxRecDepth 100000 in
set_option maxHeartbeats 1600000 in
theorem specFromBy_any (ss : List Sc) (hv : Valid ss) (oa : Option Addr) (cap : Nat) (l : List Nat) (hl : ∀ m ∈ l, m < ss.length) (hlen : l.length ≤ 6) (ol : Option Addr) (cl : Nat) (nm : ByteArray) (w : World) (hc : HoldsScopes w oa ss) (hi : HoldsInts w ol (natInts l)) :
    Calls Tryd.prog 171 #[.agg #[.slice oa ss.length cap], .slice ol (natInts l).length cl, .string nm] w (PlsGot (fromP ss l nm) w) := by
  have hb0 := ((Below.refl w.heap.size w).alloc (Nat.le_refl _) (.cells #[.slice oa ss.length cap] 30)).alloc (by simp) (.cells #[] 34)
  have hR0 := (Row.new w [.slice oa ss.length cap] 30).alloc (.cells #[] 34)
  have hown0 : ((w.alloc (.cells #[.slice oa ss.length cap] 30)).alloc (.cells #[] 34)).ownsRow w.heap.size 34 2 (.slice (some ⟨w.heap.size + 1, 0, none⟩) 0 0) 0 [] := by
    have h0 := World.ownsRow_made (base := w.heap.size) (e := 34) (size := 2) (w.alloc (.cells #[.slice oa ss.length cap] 30)) #[] 0 (by simp) (by unfold maxLen; omega) rfl
    rw [World.size_alloc] at h0
    exact h0
  have HP0 : Hid (PlsAt w ((w.alloc (.cells #[.slice oa ss.length cap] 30)).alloc (.cells #[] 34)) oa cap ss.length (.slice (some ⟨w.heap.size + 1, 0, none⟩) 0 0) []) := Lib.hid ⟨hR0, hown0, hb0⟩
  have HC := Lib.hid hc
  have HV := Lib.hid hv
  have HL := Lib.hid hl
  have HI := Lib.hid hi
  have HN : Hid ((natInts l).length = l.length) := Lib.hid (natInts_length l)
  have hn6 : (natInts l).length ≤ 6 := by rw [natInts_length]; exact hlen
  clear hv hc hl hi hlen hb0 hR0 hown0
  go_enter Tryd.func171, Tryd.ntmps171
  go_wp2
  go_loopw [7, 13] (fun v i wr => ∃ k : Nat, i = .int .i64 k ∧ k ≤ (natInts l).length ∧ Hid (PlsAt w wr oa cap ss.length v (fromP ss (l.take k) nm))) (fun _ i _ => (natInts l).length - (intOf i).toNat)
  case atStart => exact ⟨0, rfl, Nat.zero_le _, HP0⟩
  case round =>
    obtain ⟨k, rfl, hk, hP⟩ := hrel
    by_cases hlt : k < (natInts l).length
    · obtain ⟨x, hx⟩ : ∃ x, l[k]? = some x := ⟨_, List.getElem?_eq_getElem (by rw [HN.out] at hlt; exact hlt)⟩
      have hxi : (natInts l)[k]? = some (x : Int) := by unfold natInts; rw [List.getElem?_map, hx]; rfl
      obtain ⟨b1, f1, rfl, hb1, q1⟩ := HI.out.at (by omega)
      have a0 := (hP.out.below.cell (p := ⟨b1, f1 + k, none⟩) hb1).trans (q1 k _ hxi)
      have g0 := hP.out.box.cell (i := 0) (by rfl)
      have C2 := Lib.hid (specL3Own_any ss HV.out oa cap x (HL.out x (List.mem_of_getElem? hx)) nm _ (HC.out.below hP.out.below (Nat.le_refl _)))
      have HTK : Hid (fromP ss (l.take (k + 1)) nm = fromP ss (l.take k) nm ++ ownP ss x nm) := Lib.hid (by rw [List.take_add_one, hx]; exact fromP_snoc _ _ _ _)
      have hfl : (fromP ss (l.take k) nm).length ≤ 30 := by
        have h1 := fromP_length HV.out nm (l.take k)
        rw [List.length_take] at h1
        have h2 := HN.out
        omega
      have hol := ownP_length HV.out x nm
      have hbs := hP.out.below.size
      clear hx hxi q1
      go_wp2_with fail
      refine C2.out.mono ?_
      rintro e w2 ⟨u, rfl, hu, hb2⟩
      have HP2 := Lib.hid (hP.out.step hb2)
      obtain ⟨v', w3, hrun, hown', hgrow⟩ := append_places HP2.out.row hu (by omega) HP2.out.below.size 46
      have HP4 : Hid (PlsAt w w3 oa cap ss.length v' (fromP ss (l.take (k + 1)) nm)) := Lib.hid {
        box := HP2.out.box.grown hgrow (ownsRow_ne2 HP2.out.box (by decide) HP2.out.row)
        row := by rw [HTK.out, List.length_append, placeCells_append]; exact hown'
        below := HP2.out.below.trans (grown_below HP2.out.row hgrow (Nat.le_refl w.heap.size) HP2.out.below.size) }
      have HRUN := Lib.hid hrun
      clear hown' hgrow hu hb2 hrun
      go_wp2_with (at_builtin; refine wpList_append_run rfl _ _ 46 rfl HRUN.out ?_)
      go_wp2
      go_roundw
      case rel => exact ⟨k + 1, by go_num, by omega, HP4⟩
      case measure => simp only [intOf]; omega
    · obtain rfl : k = (natInts l).length := by omega
      have HE : Hid (l.take (natInts l).length = l) := Lib.hid (by rw [HN.out, List.take_length])
      go_wp2
      go_ret
      exact ⟨_, rfl, by have := hP.out.row; rw [HE.out] at this; exact this, hP.out.below⟩
/-- A table in memory: a list of lists of numbers. -/
def HoldsTab (w : World) (ot : Option Addr) (tab : List (List Nat)) : Prop :=
  tab = [] ∨ ∃ b off, ot = some ⟨b, off, none⟩ ∧ b < w.heap.size ∧ ∀ m l, tab[m]? = some l → ∃ o c, w.cell? ⟨b, off + m, none⟩ = some (.slice o (natInts l).length c) ∧ HoldsInts w o (natInts l)
theorem HoldsTab.below {w w' : World} {ot : Option Addr} {tab : List (List Nat)} (h : HoldsTab w ot tab) (hb : Below w.heap.size w w') : HoldsTab w' ot tab := by
  rcases h with h | ⟨b, off, h1, h2, h3⟩
  · exact .inl h
  · refine .inr ⟨b, off, h1, Nat.lt_of_lt_of_le h2 hb.size, fun m l hl => ?_⟩
    obtain ⟨o, c, k1, k2⟩ := h3 m l hl
    exact ⟨o, c, (hb.cell (p := ⟨b, _, none⟩) h2).trans k1, k2.below hb⟩
theorem HoldsTab.at {w : World} {ot : Option Addr} {tab : List (List Nat)} {m : Nat} {l : List Nat} (h : HoldsTab w ot tab) (hm : tab[m]? = some l) : ∃ b off o c, ot = some ⟨b, off, none⟩ ∧ b < w.heap.size ∧ w.cell? ⟨b, off + m, none⟩ = some (.slice o (natInts l).length c) ∧ HoldsInts w o (natInts l) := by
  rcases h with h | ⟨b, off, h1, h2, h3⟩
  · subst h; simp at hm
  · obtain ⟨o, c, k1, k2⟩ := h3 m l hm
    exact ⟨b, off, o, c, h1, h2, k1, k2⟩
/-- What l3WayBy answers. -/
def WayGot (f : Found) (w : World) (e : Ending) (w' : World) : Prop := ∃ v, e = .returned (.tuple #[.int .i64 f.scope, .int .i64 f.way, v]) ∧ w'.ownsRow w.heap.size 34 2 v f.places.length (placeCells f.places) ∧ Below w.heap.size w w'
theorem isEmpty_pos {α : Type} {l : List α} (h : 0 < l.length) : l.isEmpty = false := by cases l <;> simp_all
theorem isEmpty_zero {α : Type} {l : List α} (h : ¬ 0 < l.length) : l.isEmpty = true := by cases l <;> simp_all
theorem lookF_cons_own {ss : List Sc} {imps : Nat → List Nat} {nm : ByteArray} {m : Nat} {r : List Nat} (h : 0 < (ownP ss m nm).length) : lookF ss imps nm (m :: r) = ⟨(m : Int), 1, ownP ss m nm⟩ := by
  show (if _ then _ else _) = _
  rw [if_neg (by rw [isEmpty_pos h]; simp)]
theorem lookF_cons_from {ss : List Sc} {imps : Nat → List Nat} {nm : ByteArray} {m : Nat} {r : List Nat} (h : ¬ 0 < (ownP ss m nm).length) (h2 : 0 < (fromP ss (imps m) nm).length) : lookF ss imps nm (m :: r) = ⟨(m : Int), 2, fromP ss (imps m) nm⟩ := by
  show (if _ then (if _ then _ else _) else _) = _
  rw [if_pos (isEmpty_zero h), if_neg (by rw [isEmpty_pos h2]; simp)]
theorem lookF_cons_next {ss : List Sc} {imps : Nat → List Nat} {nm : ByteArray} {m : Nat} {r : List Nat} (h : ¬ 0 < (ownP ss m nm).length) (h2 : ¬ 0 < (fromP ss (imps m) nm).length) : lookF ss imps nm (m :: r) = lookF ss imps nm r := by
  show (if _ then (if _ then _ else _) else _) = _
  rw [if_pos (isEmpty_zero h), if_pos (isEmpty_zero h2)]
set_option maxRecDepth 100000 in
set_option maxHeartbeats 4000000 in
theorem specWayBy_any (ss : List Sc) (hv : Valid ss) (oa : Option Addr) (cap : Nat) (k0 : Nat) (hk0 : k0 ≤ ss.length) (ot : Option Addr) (ct : Nat) (s0 : Nat) (hs0 : s0 < k0) (nm : ByteArray) (w : World) (hc : HoldsScopes w oa ss) (ht : HoldsTab w ot (tabP ss k0)) :
    Calls Tryd.prog 165 #[.agg #[.slice oa ss.length cap], .slice ot k0 ct, .int .i64 s0, .string nm] w (WayGot (lookP ss s0 nm) w) := by
  have hb0 := (Below.refl w.heap.size w).alloc (Nat.le_refl _) (.cells #[.slice oa ss.length cap] 30)
  have R0 := Lib.hid (Row.new w [.slice oa ss.length cap] 30)
  have HB0 := Lib.hid hb0
  have HC := Lib.hid hc
  have HT := Lib.hid ht
  have HV := Lib.hid hv
  have h6 := hv.count.2
  have HK := Lib.hid hv.climbs
  clear hv hc ht hb0
  go_enter Tryd.func165, Tryd.ntmps165
  go_wp2
  go_loopw [2] (fun sv wr => Row wr w.heap.size 30 [.slice oa ss.length cap] ∧ Below w.heap.size w wr ∧
      ((sv = .int .i64 (-1) ∧ Hid (lookP ss s0 nm = ⟨-1, 0, []⟩)) ∨ ∃ i : Nat, sv = .int .i64 i ∧ i ≤ s0 ∧ Hid (lookP ss s0 nm = lookF ss (impP ss) nm (chainP ss i)))) (fun sv _ => (intOf sv + 1).toNat)
  case atStart => exact ⟨R0.out, HB0.out, .inr ⟨s0, rfl, Nat.le_refl _, Lib.hid rfl⟩⟩
  case round =>
    obtain ⟨hR, hb, ⟨rfl, hlook⟩ | ⟨i, rfl, hi, hlook⟩⟩ := hrel
    · have HBB := Lib.hid hb
      have hown0 : (wr.alloc (.cells #[] 34)).ownsRow w.heap.size 34 2 (.slice (some ⟨wr.heap.size, 0, none⟩) 0 0) 0 [] :=
        World.ownsRow_made (base := w.heap.size) (e := 34) (size := 2) wr #[] 0 hb.size (by unfold maxLen; omega) rfl
      have HO := Lib.hid hown0
      clear hR hb hown0
      go_wp2
      go_ret3
      rw [hlook.out]
      exact ⟨_, rfl, HO.out, HBB.out.alloc HBB.out.size _⟩
    · obtain ⟨c, hci⟩ : ∃ c, ss[i]? = some c := ⟨_, List.getElem?_eq_getElem (by omega)⟩
      obtain ⟨bb, off, rfl, hbb, hcell⟩ := HC.out.at (by omega)
      obtain ⟨oi, ci, a0, a1, -⟩ := hcell i c hci
      obtain ⟨bt, offt, o3, c3, rfl, hbt, ht1, ht2⟩ := HT.out.at (tabP_get ss k0 (show i < k0 by omega))
      have C2 := Lib.hid (specL3Own_any ss HV.out (some ⟨bb, off, none⟩) cap i (by omega) nm _ (HC.out.below hb (Nat.le_refl _)))
      have HCI := Lib.hid hci
      have HRR := Lib.hid hR
      have HBB := Lib.hid hb
      have HA0 : Hid (w.cell? ⟨bb, off + i * 2, none⟩ = some (.int .i64 c.parent)) := Lib.hid a0
      have HT1 := Lib.hid (And.intro ht1 ht2)
      have g0 := hR.cell (i := 0) (by rfl)
      have hol := ownP_length HV.out i nm
      clear hR hb hcell hci a0 a1 ht1 ht2
      go_wp2_with fail
      refine C2.out.mono ?_
      rintro e w2 ⟨u, rfl, hu, hb2⟩
      obtain ⟨ou, cu, rfl⟩ := ownsRow_slice hu
      have HB2 := Lib.hid (HBB.out.trans (hb2.mono HBB.out.size))
      have R2 := Lib.hid (HRR.out.below hb2 HRR.out.lt)
      have HU := Lib.hid (ownsRow_lower hu HBB.out.size)
      clear hb2 hu g0
      by_cases hpos : 0 < (ownP ss i nm).length
      · have HE : Hid (lookP ss s0 nm = ⟨(i : Int), 1, ownP ss i nm⟩) := Lib.hid (by
          rw [hlook.out]
          obtain ⟨t, ht⟩ := chain_head ss i
          rw [ht]
          exact lookF_cons_own hpos)
        go_wp2
        go_ret3
        rw [HE.out]
        exact ⟨_, rfl, HU.out, HB2.out⟩
      · have HNP := Lib.hid hpos
        have hz : (ownP ss i nm).length = 0 := by omega
        have g2 := R2.out.cell (i := 0) (by rfl)
        have t2 := (HB2.out.cell (p := ⟨bt, offt + i, none⟩) hbt).trans HT1.out.1
        have hik : (i : Int) < (k0 : Int) := by omega
        have hi00 : (0 : Int) ≤ (i : Int) := by omega
        clear hpos
        go_wp2
        go_cut [12] (fun s12 wx => ∃ o4 c4, s12 = .slice o4 (fromP ss (impP ss i) nm).length c4 ∧ wx.ownsRow w2.heap.size 34 2 (.slice o4 (fromP ss (impP ss i) nm).length c4) (fromP ss (impP ss i) nm).length (placeCells (fromP ss (impP ss i) nm)) ∧ Below w2.heap.size w2 wx)
        case first =>
          go_region_held3 (fun w' => w'.cell? ⟨w.heap.size, 0, none⟩ = some (.slice (some ⟨bb, off, none⟩) ss.length cap) ∧ w'.cell? ⟨bt, offt + i, none⟩ = some (.slice o3 (natInts (impP ss i)).length c3))
            (first | exact ⟨g2, t2⟩ | exact ⟨cell_drew g2, cell_drew t2⟩ | exact ⟨cell_grow hb3 (cell_drew g2), cell_grow hb3 (cell_drew t2)⟩)
            (first | (go_at_call 171; refine (specFromBy_any ss HV.out (some ⟨bb, off, none⟩) cap (impP ss i) (impP_ok HV.out i).1 (by have := impP_length HV.out i; omega) o3 c3 nm _ (HC.out.below HB2.out.drew (Nat.le_refl _)) ((HT1.out.2.below HB2.out.drew))).mono ?_; rintro e w3 ⟨v3, rfl, hrow3, hb3⟩))
          all_goals (obtain ⟨o4, c4, rfl⟩ := ownsRow_slice hrow3)
          all_goals go_wp2
          all_goals go_meet
          all_goals exact ⟨o4, c4, rfl, hrow3, ((Below.refl _ _).drew).trans hb3⟩
        case rest =>
          obtain ⟨o4, c4, rfl, hrow4, hbc⟩ := hcut
          have HB4 := Lib.hid (HB2.out.trans (hbc.mono HB2.out.size))
          have R4 := Lib.hid (R2.out.below hbc R2.out.lt)
          have HO4 := Lib.hid (ownsRow_lower hrow4 HB2.out.size)
          have hfl : (fromP ss (impP ss i) nm).length ≤ 25 := by have h1 := fromP_length HV.out nm (impP ss i); have h2 := impP_length HV.out i; omega
          clear hbc hrow4 g2 t2
          by_cases hpos : 0 < (fromP ss (impP ss i) nm).length
          · have HE : Hid (lookP ss s0 nm = ⟨(i : Int), 2, fromP ss (impP ss i) nm⟩) := Lib.hid (by
              rw [hlook.out]
              obtain ⟨t, ht⟩ := chain_head ss i
              rw [ht]
              exact lookF_cons_from HNP.out hpos)
            go_wp2
            go_ret3
            rw [HE.out]
            exact ⟨_, rfl, HO4.out, HB4.out⟩
          · have HNF := Lib.hid hpos
            have hzf : (fromP ss (impP ss i) nm).length = 0 := by omega
            have g4 := R4.out.cell (i := 0) (by rfl)
            have a4 := (HB4.out.cell (p := ⟨bb, off + i * 2, none⟩) hbb).trans HA0.out
            clear hpos
            rcases HK.out.cases HCI.out with ⟨hz0, h1, h2⟩ | ⟨p, h1, hlt, h2⟩
            · rw [h1] at a4
              have HE : Hid (lookP ss s0 nm = ⟨-1, 0, []⟩) := Lib.hid (by rw [hlook.out, chain_none h2, lookF_cons_next HNP.out HNF.out]; rfl)
              clear h1 h2 hz0
              go_wp2
              go_roundw
              case rel => exact ⟨R4.out, HB4.out, .inl ⟨rfl, HE⟩⟩
              case measure => simp only [intOf]; omega
            · rw [h1] at a4
              have HE : Hid (lookP ss s0 nm = lookF ss (impP ss) nm (chainP ss p)) := Lib.hid (by rw [hlook.out, chain_some HK.out h2, lookF_cons_next HNP.out HNF.out])
              clear h1 h2
              go_wp2
              go_roundw
              case rel => exact ⟨R4.out, HB4.out, .inr ⟨p, rfl, by omega, HE⟩⟩
              case measure => simp only [intOf]; omega
end Go.Proofs.YtadpgoiiopfnnaaDoor
namespace Go.Proofs.YtadpgoiiopfnnaaDoor
open Go Go.RowKit Go.Maps
/-- What a call leaves beside the lookup: a list of places of its own. -/
def PlsLeft (l : List (Int × Int)) (w : World) (B L M T M1 M2 : Nat) (v : Value) (ds : List Nd) (ss : List Sc) (e : Ending) (w' : World) : Prop :=
  ∃ u, e = .returned u ∧ w'.ownsRow w.heap.size 34 2 u l.length (placeCells l) ∧ Left w w' B L M T M1 M2 v ds ss
set_option maxRecDepth 100000 in
set_option maxHeartbeats 4000000 in
theorem imported_any {ss : List Sc} (hv : Valid ss) {w : World} {B L M T M1 M2 : Nat} {v : Value} {ds : List Nd} (hL : LookW w B L M T M1 M2 v ds ss) {s : Nat} {d : Nd} (hd : ds[s]? = some d) (hT : TargetC B L M T M1 M2 v ds ss s) (nm : ByteArray) :
    Calls Tryd.prog 159 #[.pointer (some ⟨L, 0, none⟩), .pointer (some ⟨d.blk, 0, none⟩), .string nm] w (PlsLeft (fromP ss (impP ss s) nm) w B L M T M1 M2 v ds ss) := by
  have C := Lib.hid (importsOf_any hv hL hd hT)
  have HV := Lib.hid hv
  have HL0 := Lib.hid hL
  clear hv hL hd hT
  go_enter Tryd.func159, Tryd.ntmps159
  go_wp2_with fail
  refine C.out.mono ?_
  rintro e w1 ⟨u1, rfl, hrow1, hl1⟩
  obtain ⟨o1, c1, rfl, hh1⟩ := holdsInts_of_owns hrow1
  have HL1 := Lib.hid hl1
  have HI := Lib.hid hh1
  have hn6 : (natInts (impP ss s)).length ≤ 5 := by rw [natInts_length]; exact impP_length HV.out s
  have HN : Hid ((natInts (impP ss s)).length = (impP ss s).length) := Lib.hid (natInts_length _)
  have HOK := Lib.hid (impP_ok HV.out s).1
  have hs6 := HV.out.count.2
  have HLEN : Hid (ds.length = ss.length) := Lib.hid HL0.out.tree.hold.len
  clear hrow1 hl1 hh1
  go_wp2
  go_loopw [7, 14] (fun u i wr => ∃ k : Nat, i = .int .i64 k ∧ k ≤ (natInts (impP ss s)).length ∧ Hid (wr.ownsRow w1.heap.size 34 2 u (fromP ss ((impP ss s).take k) nm).length (placeCells (fromP ss ((impP ss s).take k) nm)) ∧ Left w wr B L M T M1 M2 v ds ss ∧ Below w1.heap.size w1 wr)) (fun _ i _ => (natInts (impP ss s)).length - (intOf i).toNat)
  case atStart => exact ⟨0, rfl, Nat.zero_le _, Lib.hid ⟨World.ownsRow_nil _ _ _ _, HL1.out, Below.refl _ _⟩⟩
  case round =>
    obtain ⟨k, rfl, hk, hP⟩ := hrel
    by_cases hlt : k < (natInts (impP ss s)).length
    · obtain ⟨x, hx⟩ : ∃ x, (impP ss s)[k]? = some x := ⟨_, List.getElem?_eq_getElem (by rw [HN.out] at hlt; exact hlt)⟩
      have hxi : (natInts (impP ss s))[k]? = some (x : Int) := by unfold natInts; rw [List.getElem?_map, hx]; rfl
      obtain ⟨b1, f1, rfl, hb1, q1⟩ := HI.out.at (by omega)
      have a0 := (hP.out.2.2.cell (p := ⟨b1, f1 + k, none⟩) hb1).trans (q1 k _ hxi)
      have hxl := HOK.out x (List.mem_of_getElem? hx)
      obtain ⟨dx, hdx⟩ : ∃ e, ds[x]? = some e := ⟨_, List.getElem?_eq_getElem (by rw [HLEN.out]; exact hxl)⟩
      have hTr := hP.out.2.1.look.tree
      obtain ⟨g, cap', rfl, hgB, hg, hslot⟩ := hTr.tree.slot (by intro e; rw [e] at hdx; simp at hdx)
      have s0 := hslot x dx hdx
      unfold Nd.ptr at s0
      have t0 := hTr.tree.box.cell (i := 0) (by rfl)
      have l0 := hP.out.2.1.look.box.cell (i := 0) (by rfl)
      have hdl : ds.length = ss.length := HLEN.out
      have C2 := Lib.hid (own_any HV.out hTr hdx nm)
      have HTK : Hid (fromP ss ((impP ss s).take (k + 1)) nm = fromP ss ((impP ss s).take k) nm ++ ownP ss x nm) := Lib.hid (by rw [List.take_add_one, hx]; exact fromP_snoc _ _ _ _)
      have hfl : (fromP ss ((impP ss s).take k) nm).length ≤ 30 := by
        have h1 := fromP_length HV.out nm ((impP ss s).take k)
        rw [List.length_take] at h1
        have h2 := HN.out
        omega
      have hol := ownP_length HV.out x nm
      clear hx hxi q1 hTr hslot hdx
      go_wp2_with fail
      refine C2.out.mono ?_
      rintro e w2 ⟨u, rfl, hu, hb2⟩
      have HU2 := Lib.hid (ownsRow_below hP.out.1 hb2)
      have HL2 := Lib.hid (hP.out.2.1.step hb2)
      have HB2 := Lib.hid (hP.out.2.2.trans (hb2.mono hP.out.2.2.size))
      obtain ⟨v', w3, hrun, hown', hgrow⟩ := append_places HU2.out hu (by omega) HB2.out.size 46
      have HL3 := Lib.hid (Left.far HL0.out HL2.out (grown_below HU2.out hgrow HL1.out.turns.size HL2.out.turns.size))
      have HB3 := Lib.hid (HB2.out.trans (grown_below HU2.out hgrow (Nat.le_refl _) HB2.out.size))
      have HU3 : Hid (w3.ownsRow w1.heap.size 34 2 v' (fromP ss ((impP ss s).take (k + 1)) nm).length (placeCells (fromP ss ((impP ss s).take (k + 1)) nm))) := Lib.hid (by rw [HTK.out, List.length_append, placeCells_append]; exact hown')
      have HRUN := Lib.hid hrun
      clear hown' hgrow hu hb2 hrun
      go_wp2_with (at_builtin; refine wpList_append_run rfl _ _ 46 rfl HRUN.out ?_)
      go_wp2
      go_roundw
      case rel => exact ⟨k + 1, by go_num, by omega, Lib.hid ⟨HU3.out, HL3.out, HB3.out⟩⟩
      case measure => simp only [intOf]; omega
    · obtain rfl : k = (natInts (impP ss s)).length := by omega
      have HE : Hid ((impP ss s).take (natInts (impP ss s)).length = impP ss s) := Lib.hid (by rw [HN.out, List.take_length])
      go_wp2
      go_ret
      exact ⟨_, rfl, by have := hP.out.1; rw [HE.out] at this; exact ownsRow_lower this HL1.out.turns.size, hP.out.2.1⟩
/-- What a way answers. -/
def wayP (ss : List Sc) (s : Nat) (nm : ByteArray) : Nat → List (Int × Int)
  | 1 => ownP ss s nm
  | _ => fromP ss (impP ss s) nm
set_option maxRecDepth 100000 in
theorem wayFrom_any {ss : List Sc} (hv : Valid ss) {w : World} {B L M T M1 M2 : Nat} {v : Value} {ds : List Nd} (hL : LookW w B L M T M1 M2 v ds ss) {s : Nat} {d : Nd} (hd : ds[s]? = some d) (hT : TargetC B L M T M1 M2 v ds ss s) (nm : ByteArray) (y : Nat) (hy : y = 1 ∨ y = 2) :
    Calls Tryd.prog 134 #[.int .i64 (y : Int), .pointer (some ⟨L, 0, none⟩), .pointer (some ⟨d.blk, 0, none⟩), .string nm] w (PlsLeft (wayP ss s nm y) w B L M T M1 M2 v ds ss) := by
  have C1 := Lib.hid (own_any hv hL.tree hd nm)
  have C2 := Lib.hid (imported_any hv hL hd hT nm)
  have HL0 := Lib.hid hL
  clear hv hL hd hT
  rcases hy with rfl | rfl
  · go_enter Tryd.func134, Tryd.ntmps134
    go_wp2_with fail
    refine C1.out.mono ?_
    rintro e w1 ⟨u, rfl, hu, hb⟩
    have HU := Lib.hid hu
    have HL1 := Lib.hid (HL0.out.left.step hb)
    clear hu hb
    go_wp2
    go_ret
    exact ⟨_, rfl, HU.out, HL1.out⟩
  · go_enter Tryd.func134, Tryd.ntmps134
    go_wp2_with fail
    refine C2.out.mono ?_
    rintro e w1 ⟨u, rfl, hu, hl⟩
    have HU := Lib.hid hu
    have HL1 := Lib.hid hl
    clear hu hl
    go_wp2
    go_ret
    exact ⟨_, rfl, HU.out, HL1.out⟩
end Go.Proofs.YtadpgoiiopfnnaaDoor
namespace Go.Proofs.YtadpgoiiopfnnaaDoor
open Go Go.RowKit Go.Maps
attribute [local go_sem] Oper.semAt_some
/-- A node with its number, which is one of these. -/
abbrev NdIn (ds : List Nd) (cl : List Nat) := { q : Nat × Nd // ds[q.1]? = some q.2 ∧ q.1 ∈ cl }
def NdIn.num {ds : List Nd} {cl : List Nat} (x : NdIn ds cl) : Nat := x.1.1
set_option maxRecDepth 100000 in
set_option maxHeartbeats 4000000 in
theorem outward1_inC (n : Nat) (hn : 1 ≤ n) (l Bn B T M1 M2 : Nat) (v : Value) (ds : List Nd) (ss : List Sc) (w0 : World) (hT : Tree w0 B T M1 M2 v ds) (hP : Pars ds ss) (hC : Climbs ss) (hl : ds.length = ss.length) (s : Nat) (d : Nd) (hd : ds[s]? = some d)
    (J Jx : List (NdIn ds (chainP ss s)) → World → Prop) (W : World)
    (hY : ∀ pre x W1, J pre W1 → CellsKept w0.heap.size w0 W1 → pre.length < (chainP ss s).length → YieldAt Fence.wide (n - 1) Tryd.prog l (ndArgs x.1.2) W1 fun e W' =>
      (e = .returned (.bool true) ∧ J (pre ++ [x]) W' ∧ CellsKept w0.heap.size W1 W') ∨ (e = .returned (.bool false) ∧ Jx (pre ++ [x]) W'))
    (hk : CellsKept w0.heap.size w0 W) (hBn : W.cell? ⟨Bn, 0, none⟩ = some (.pointer (some ⟨d.blk, 0, none⟩))) (h0 : J [] W) :
    CallsIn Fence.wide n Tryd.prog 157 #[.func (.yield l) #[] #[], .pointer (some ⟨Bn, 0, none⟩)] W fun e W' => (∃ v, e = .returned v) ∧
      ((∃ ys : List (NdIn ds (chainP ss s)), ys.map NdIn.num = chainP ss s ∧ J ys W') ∨ (∃ pre : List (NdIn ds (chainP ss s)), pre.map NdIn.num <+: chainP ss s ∧ Jx pre W')) := by
  have HT := Lib.hid hT
  have HP := Lib.hid hP
  have HC := Lib.hid hC
  have HL := Lib.hid hl
  have HD := Lib.hid hd
  clear hT hP hC hl hd
  refine callsIn_of_wp Tryd.func157 rfl trivial ?_ rfl
  simp only [Tryd.ntmps157, List.size_toArray, List.length_cons, List.length_nil, Nat.reduceAdd, Nat.reduceSub, Array.replicate_succ, Array.replicate_zero, List.push_toArray, List.append_toArray, List.nil_append, List.cons_append]
  gi_wp2
  gi_loopw [3] (fun p wr => ∃ (pre : List (NdIn ds (chainP ss s))), J pre wr ∧ CellsKept w0.heap.size w0 wr ∧
      ((p = .pointer none ∧ Hid (pre.map NdIn.num = chainP ss s)) ∨ ∃ (i : Nat) (c : Nd), p = .pointer (some ⟨c.blk, 0, none⟩) ∧ Hid (ds[i]? = some c) ∧ Hid (pre.map NdIn.num ++ chainP ss i = chainP ss s))) (fun p _ => rank ds p)
  case atStart => exact ⟨[], h0, hk, .inr ⟨s, d, rfl, HD, Lib.hid rfl⟩⟩
  case round =>
    obtain ⟨pre, hJ, hkr, ⟨rfl, hpre⟩ | ⟨i, c, rfl, hc, hpre⟩⟩ := hrel
    · gi_wp2
      go_end0
      exact ⟨⟨_, rfl⟩, .inl ⟨pre, hpre.out, hJ⟩⟩
    · have hlen : pre.length < (chainP ss s).length := by
        have := congrArg List.length hpre.out
        obtain ⟨t, ht⟩ := chain_head ss i
        rw [ht] at this
        simp at this
        omega
      have HMEM : i ∈ chainP ss s := by
        obtain ⟨t, ht⟩ := chain_head ss i
        rw [← hpre.out, ht]
        simp
      have HCM := Lib.hid (And.intro hc.out HMEM)
      clear HMEM
      obtain ⟨fn, tmps, assign, body, hy, hR⟩ := hY pre ⟨(i, c), HCM.out⟩ wr hJ hkr hlen
      dsimp only [ndArgs] at hy
      have HR := Lib.hid (hR.mono (R' := fun e W' => ∃ q, e = .returned (.bool q) ∧ Hid ((q = true ∧ J (pre ++ [⟨(i, c), HCM.out⟩]) W' ∧ CellsKept w0.heap.size wr W') ∨ (q = false ∧ Jx (pre ++ [⟨(i, c), HCM.out⟩]) W'))) (by
        rintro e W' (⟨he, h1, h2⟩ | ⟨he, h1⟩)
        · exact ⟨true, he, Lib.hid (.inl ⟨rfl, h1, h2⟩)⟩
        · exact ⟨false, he, Lib.hid (.inr ⟨rfl, h1⟩)⟩))
      have HKR := Lib.hid hkr
      have HRK := Lib.hid (rank_of HT.out.inj hc.out)
      clear hR hlen hkr
      gi_wp2
      refine HR.out.mono ?_
      rintro e W3 ⟨q, rfl, hq⟩
      rcases hq.out with ⟨rfl, hJ3, hk3⟩ | ⟨rfl, hx3⟩
      · have HK3 := Lib.hid (HKR.out.trans hk3)
        have hpc := (((HT.out.kept HK3.out (Nat.le_refl _)).node i c hc.out).2.cell (i := 1) (v := .pointer c.par) (by rfl))
        rcases par_ptr HP.out HC.out HL.out hc.out with ⟨h1, h2⟩ | ⟨p, e', h1, hlt, h2, h3⟩
        · have HE : Hid ((pre ++ [(⟨(i, c), HCM.out⟩ : NdIn ds (chainP ss s))]).map NdIn.num = chainP ss s) := Lib.hid (by refine Eq.trans ?_ hpre.out; rw [chain_none h1, List.map_append]; rfl)
          rw [h2] at hpc
          clear hk3 h1 h2
          gi_wp2
          exact ⟨⟨_, hJ3, HK3.out, .inl ⟨rfl, HE⟩⟩, by rw [HRK.out]; simp [rank]⟩
        · have HE : Hid ((pre ++ [(⟨(i, c), HCM.out⟩ : NdIn ds (chainP ss s))]).map NdIn.num ++ chainP ss p = chainP ss s) := Lib.hid (by refine Eq.trans ?_ hpre.out; rw [chain_some HC.out h1, List.map_append, List.append_assoc]; rfl)
          have HP2 := Lib.hid h2
          have HR2 := Lib.hid (rank_of HT.out.inj h2)
          rw [h3] at hpc
          clear hk3 h1 h2 h3
          gi_wp2
          exact ⟨⟨_, hJ3, HK3.out, .inr ⟨p, e', rfl, HP2, HE⟩⟩, by rw [HRK.out, HR2.out]; omega⟩
      · have HE : Hid ((pre ++ [(⟨(i, c), HCM.out⟩ : NdIn ds (chainP ss s))]).map NdIn.num <+: chainP ss s) := Lib.hid (by
          obtain ⟨t, ht⟩ := chain_head ss i
          exact ⟨t, Eq.trans (by rw [ht, List.map_append]; simp [NdIn.num]) hpre.out⟩)
        gi_wp2
        refine bodyPost_ret (results_none rfl _ _ _) rfl ?_
        exact ⟨⟨_, rfl⟩, .inr ⟨_, HE.out, hx3⟩⟩
theorem outward_stopsC (n : Nat) (hn : 1 ≤ n) (Bn B T M1 M2 : Nat) (v : Value) (ds : List Nd) (ss : List Sc) (w0 w : World) (hT : Tree w0 B T M1 M2 v ds) (hP : Pars ds ss) (hC : Climbs ss) (hl : ds.length = ss.length) (s : Nat) (d : Nd) (hd : ds[s]? = some d)
    (hk : CellsKept w0.heap.size w0 w) (hBn : w.cell? ⟨Bn, 0, none⟩ = some (.pointer (some ⟨d.blk, 0, none⟩))) :
    SeqStopsK Fence.wide n Tryd.prog 157 #[.pointer (some ⟨Bn, 0, none⟩)] (fun x : NdIn ds (chainP ss s) => ndArgs x.1.2) (CellsKept w0.heap.size) (fun ys => ys.map NdIn.num = chainP ss s) (fun pre => pre.map NdIn.num <+: chainP ss s) (chainP ss s).length w :=
  fun l J Jx W hW _ _ hY h0 =>
    outward1_inC n hn l Bn B T M1 M2 v ds ss w0 hT hP hC hl s d hd J Jx W (fun pre x W1 h _ hlen => hY pre x W1 h hlen) (hk.trans ((CellsKept.of_below hW).mono hk.size)) ((hW.cell (p := ⟨Bn, 0, none⟩) (World.block_lt_of_cell? _ _ hBn)).trans hBn) h0
set_option maxRecDepth 100000 in
/-- From no node: no round. -/
theorem outward_none (n : Nat) (Bn : Nat) (ds : List Nd) (w0 w : World) (hBn : w.cell? ⟨Bn, 0, none⟩ = some (.pointer none)) :
    SeqStopsK Fence.wide n Tryd.prog 157 #[.pointer (some ⟨Bn, 0, none⟩)] (fun x : NdIn ds [] => ndArgs x.1.2) (CellsKept w0.heap.size) (fun ys => ys.map NdIn.num = []) (fun pre => pre.map NdIn.num <+: []) 0 w := by
  intro l J Jx W hW _ _ hY h0
  have hB := (hW.cell (p := ⟨Bn, 0, none⟩) (World.block_lt_of_cell? _ _ hBn)).trans hBn
  have H0 := Lib.hid h0
  clear h0 hY
  refine callsIn_of_wp Tryd.func157 rfl trivial ?_ rfl
  simp only [Tryd.ntmps157, List.size_toArray, List.length_cons, List.length_nil, Nat.reduceAdd, Nat.reduceSub, Array.replicate_succ, Array.replicate_zero, List.push_toArray, List.append_toArray, List.nil_append, List.cons_append]
  gi_wp2
  gi_loopw [3] (fun p wr => p = .pointer none ∧ wr = W) (fun p _ => 0)
  case atStart => exact ⟨rfl, rfl⟩
  case round =>
    obtain ⟨rfl, rfl⟩ := hrel
    gi_wp2
    go_end0
    exact ⟨⟨_, rfl⟩, .inl ⟨[], rfl, H0.out⟩⟩
theorem build_find (w : World) : (Instr.build 124 #[(0, .int .i64 (-1))]).run Tryd.prog w = .ok (.agg #[.int .i64 (-1), .int .i64 0, .slice none 0 0]) w := by kernel_rfl
theorem index_way0 (w : World) : (Instr.index 179 (.agg #[.int .i64 1, .int .i64 2]) (.int .i64 ((0 : Nat) : Int))).run Tryd.prog w = .ok (.int .i64 1) w := by kernel_rfl
theorem index_way1 (w : World) : (Instr.index 179 (.agg #[.int .i64 1, .int .i64 2]) (.int .i64 ((1 : Nat) : Int))).run Tryd.prog w = .ok (.int .i64 2) w := by kernel_rfl
theorem index_way0' (w : World) : (Instr.index 179 (.agg #[.int .i64 1, .int .i64 2]) (.int .i64 0)).run Tryd.prog w = .ok (.int .i64 1) w := by kernel_rfl
theorem index_way1' (w : World) : (Instr.index 179 (.agg #[.int .i64 1, .int .i64 2]) (.int .i64 1)).run Tryd.prog w = .ok (.int .i64 2) w := by kernel_rfl
attribute [local go_sem ↓] build_find index_way0 index_way1 index_way0' index_way1'
/-- What find answers. -/
def FindGot (f : Found) (w : World) (B L M T M1 M2 : Nat) (v : Value) (ds : List Nd) (ss : List Sc) (e : Ending) (w' : World) : Prop :=
  ∃ u, e = .returned (.agg #[.int .i64 f.scope, .int .i64 f.way, u]) ∧ w'.ownsRow w.heap.size 34 2 u f.places.length (placeCells f.places) ∧ Left w w' B L M T M1 M2 v ds ss
theorem left_own {w : World} {B L M T M1 M2 n : Nat} {v : Value} {ds : List Nd} {ss : List Sc} {α : Type} (hL : LookW w B L M T M1 M2 v ds ss) (hn : w.heap.size ≤ n) : OwnFrom n (fun (_ : α) W => Left w W B L M T M1 M2 v ds ss) :=
  fun _ _ _ _ hs hg hr => Left.far hL hs ((Below.refl w.heap.size _).grown hg hs.turns.size (fun r e => Nat.le_trans hn (hr r e).1))
/-- Nothing found at the scopes that were passed. -/
def Passed (ss : List Sc) (nm : ByteArray) (l : List Nat) : Prop := ∀ m ∈ l, (ownP ss m nm).length = 0 ∧ (fromP ss (impP ss m) nm).length = 0
theorem passed_all {ss : List Sc} {nm : ByteArray} : ∀ {l : List Nat}, Passed ss nm l → lookF ss (impP ss) nm l = ⟨-1, 0, []⟩
  | [], _ => rfl
  | m :: r, h => by
    have h1 := h m List.mem_cons_self
    rw [lookF_cons_next (by omega) (by omega)]
    exact passed_all fun x hx => h x (List.mem_cons_of_mem _ hx)
theorem passed_skip {ss : List Sc} {nm : ByteArray} : ∀ {l r : List Nat}, Passed ss nm l → lookF ss (impP ss) nm (l ++ r) = lookF ss (impP ss) nm r
  | [], _, _ => rfl
  | m :: l, r, h => by
    have h1 := h m List.mem_cons_self
    rw [List.cons_append, lookF_cons_next (by omega) (by omega)]
    exact passed_skip fun x hx => h x (List.mem_cons_of_mem _ hx)
/-- The world in which the loop begins. -/
structure FindAt (w W0 : World) (L : Nat) (pa : Option Addr) (nm : ByteArray) : Prop where
  size : W0.heap.size = w.heap.size + 1 + 1 + 1 + 1 + 1
  below : Below w.heap.size w W0
  r3 : Row W0 w.heap.size 118 [.pointer (some ⟨L, 0, none⟩)]
  r5 : Row W0 (w.heap.size + 1) 9 [.string nm]
  r6 : Row W0 (w.heap.size + 1 + 1) 124 [.int .i64 0, .int .i64 0, .slice none 0 0]
  r7 : Row W0 (w.heap.size + 1 + 1 + 1) 124 [.int .i64 (-1), .int .i64 0, .slice none 0 0]
  rn : W0.cell? ⟨w.heap.size + 1 + 1 + 1 + 1, 0, none⟩ = some (.pointer pa)
theorem findAt (w : World) (L : Nat) (pa : Option Addr) (nm : ByteArray) : FindAt w (((((w.alloc (.cells #[.pointer (some ⟨L, 0, none⟩)] 118)).alloc (.cells #[.string nm] 9)).alloc (.cells #[.int .i64 0, .int .i64 0, .slice none 0 0] 124)).alloc (.cells #[.int .i64 (-1), .int .i64 0, .slice none 0 0] 124)).alloc (.cells #[.pointer pa] 119)) L pa nm where
  size := by simp
  below := (((((Below.refl _ _).alloc (Nat.le_refl _) _).alloc (by simp) _).alloc (by simp; omega) _).alloc (by simp; omega) _).alloc (by simp; omega) _
  r3 := ((((Row.new w [.pointer (some ⟨L, 0, none⟩)] 118).alloc _).alloc _).alloc _).alloc _
  r5 := by
    have h := (((Row.new (w.alloc (.cells #[.pointer (some ⟨L, 0, none⟩)] 118)) [.string nm] 9).alloc (.cells #[.int .i64 0, .int .i64 0, .slice none 0 0] 124)).alloc (.cells #[.int .i64 (-1), .int .i64 0, .slice none 0 0] 124)).alloc (.cells #[.pointer pa] 119)
    simp only [World.size_alloc] at h
    exact h
  r6 := by
    have h := ((Row.new ((w.alloc (.cells #[.pointer (some ⟨L, 0, none⟩)] 118)).alloc (.cells #[.string nm] 9)) [.int .i64 0, .int .i64 0, .slice none 0 0] 124).alloc (.cells #[.int .i64 (-1), .int .i64 0, .slice none 0 0] 124)).alloc (.cells #[.pointer pa] 119)
    simp only [World.size_alloc] at h
    exact h
  r7 := by
    have h := (Row.new (((w.alloc (.cells #[.pointer (some ⟨L, 0, none⟩)] 118)).alloc (.cells #[.string nm] 9)).alloc (.cells #[.int .i64 0, .int .i64 0, .slice none 0 0] 124)) [.int .i64 (-1), .int .i64 0, .slice none 0 0] 124).alloc (.cells #[.pointer pa] 119)
    simp only [World.size_alloc] at h
    exact h
  rn := by
    have h := (Boxed.new ((((w.alloc (.cells #[.pointer (some ⟨L, 0, none⟩)] 118)).alloc (.cells #[.string nm] 9)).alloc (.cells #[.int .i64 0, .int .i64 0, .slice none 0 0] 124)).alloc (.cells #[.int .i64 (-1), .int .i64 0, .slice none 0 0] 124)) 119 (.pointer pa)).cell
    simp only [World.size_alloc] at h
    exact h
/-- Where the loop was left. -/
structure FoundAt (w W : World) (B L M T M1 M2 : Nat) (v : Value) (ds : List Nd) (ss : List Sc) (f : Found) : Prop where
  left : Left w W B L M T M1 M2 v ds ss
  r6 : Row W (w.heap.size + 1 + 1) 124 [.int .i64 0, .int .i64 0, .slice none 0 0]
  r7 : ∃ u, Row W (w.heap.size + 1 + 1 + 1) 124 [.int .i64 f.scope, .int .i64 f.way, u] ∧ W.ownsRow w.heap.size 34 2 u f.places.length (placeCells f.places)
theorem foundAt_own {w : World} {B L M T M1 M2 n : Nat} {v : Value} {ds : List Nd} {ss : List Sc} (hL : LookW w B L M T M1 M2 v ds ss) (hn : w.heap.size ≤ n) : OwnFrom n (fun (f : Found) W => FoundAt w W B L M T M1 M2 v ds ss f) :=
  fun _ _ _ _ hs hg hr => ⟨left_own (α := Unit) hL hn () _ _ _ hs.left hg hr, hs.r6.kept_cells hg (fun r e => (hr r e).2), by
    obtain ⟨u, h1, h2⟩ := hs.r7
    refine ⟨u, h1.kept_cells hg (fun r e => (hr r e).2), h2.kept hg ?_⟩
    rcases h2.2 with ⟨rfl, _⟩ | ⟨g, cap, cur, rfl, _, hgb, _⟩
    · exact .inl rfl
    · refine .inr fun e => ?_
      obtain ⟨_, o, ho, hc⟩ := hr g (by simpa [Value.ownBlock] using e.symm)
      rw [hgb] at ho; cases ho; cases hc⟩
theorem grownBy_set (W : World) (b i : Nat) (v : Value) : W.grownBy (W.setCell ⟨b, i, none⟩ v) (some b) :=
  ⟨rfl, rfl, rfl, (KeepsWalks.setCell W _ v).size, fun k _ hk => Below.heap_setCell _ _ _ k (fun e => hk (by rw [e]))⟩
/-- The result stored, the call returned. -/
theorem find_end {w W : World} {B L M T M1 M2 D : Nat} {v u : Value} {ds : List Nd} {ss : List Sc} {f : Found} {x0 x1 x2 : Value} {t : Array Value} (hL : LookW w B L M T M1 M2 v ds ss) (hl : Left w W B L M T M1 M2 v ds ss)
    (r6 : Row W (w.heap.size + 1 + 1) 124 [x0, x1, x2]) (hown : W.ownsRow w.heap.size 34 2 u f.places.length (placeCells f.places)) (hD : w.heap.size + 5 ≤ D) (hK : W.heap[D]? = some (.deferred (some []))) (ht : t[6]? = some (.pointer (some ⟨w.heap.size + 1 + 1, 0, none⟩))) :
    Exit.noGoto (bodyPostM Fence.wide 6 Tryd.prog Tryd.f95 (FindGot f w B L M T M1 M2 v ds ss)) .ret { tmps := t, defers := [{ target := .collected D, args := #[] }] }
      (((W.setCell ⟨w.heap.size + 1 + 1, 0, none⟩ (.int .i64 f.scope)).setCell ⟨w.heap.size + 1 + 1, 1, none⟩ (.int .i64 f.way)).setCell ⟨w.heap.size + 1 + 1, 2, none⟩ u) := by
  have q6 := ((r6.set 0 (.int .i64 f.scope)).set 1 (.int .i64 f.way)).set 2 u
  have o6 := ((hown.kept (grownBy_set W _ 0 (.int .i64 f.scope)) (.inr (ownsRow_ne r6 (by decide) hown).symm)).kept (grownBy_set _ _ 1 (.int .i64 f.way)) (.inr (ownsRow_ne r6 (by decide) hown).symm)).kept (grownBy_set _ _ 2 u) (.inr (ownsRow_ne r6 (by decide) hown).symm)
  have hl6 := Left.far hL hl ((((Below.refl w.heap.size W).setCell (p := ⟨w.heap.size + 1 + 1, 0, none⟩) (by show w.heap.size ≤ w.heap.size + 1 + 1; omega) (.int .i64 f.scope)).setCell (p := ⟨w.heap.size + 1 + 1, 1, none⟩) (by show w.heap.size ≤ w.heap.size + 1 + 1; omega) (.int .i64 f.way)).setCell (p := ⟨w.heap.size + 1 + 1, 2, none⟩) (by show w.heap.size ≤ w.heap.size + 1 + 1; omega) u)
  have hK6 : (((W.setCell ⟨w.heap.size + 1 + 1, 0, none⟩ (.int .i64 f.scope)).setCell ⟨w.heap.size + 1 + 1, 1, none⟩ (.int .i64 f.way)).setCell ⟨w.heap.size + 1 + 1, 2, none⟩ u).heap[D]? = some (.deferred (some [])) := by
    rw [Below.heap_setCell _ _ _ _ (by show D ≠ w.heap.size + 1 + 1; omega), Below.heap_setCell _ _ _ _ (by show D ≠ w.heap.size + 1 + 1; omega), Below.heap_setCell _ _ _ _ (by show D ≠ w.heap.size + 1 + 1; omega)]
    exact hK
  generalize (((W.setCell ⟨w.heap.size + 1 + 1, 0, none⟩ (.int .i64 f.scope)).setCell ⟨w.heap.size + 1 + 1, 1, none⟩ (.int .i64 f.way)).setCell ⟨w.heap.size + 1 + 1, 2, none⟩ u) = W6 at q6 o6 hl6 hK6 ⊢
  refine ⟨by simp, .inl ⟨_, _, rfl, run_takeDeferred hK6, ?_⟩⟩
  have q7 : Row (W6.putObj D (.deferred none)) (w.heap.size + 1 + 1) 124 [.int .i64 f.scope, .int .i64 f.way, u] := q6.kept_cells (grownBy_putObj' W6 D _) (fun r e => by cases e; exact ⟨_, hK6, rfl⟩)
  have o7 := ownsRow_putObj o6 (.deferred none) hK6 rfl
  have hl7 := left_own (α := Unit) hL (Nat.le_refl _) () _ _ _ hl6 (grownBy_putObj' W6 D (.deferred none)) (fun r e => by cases e; exact ⟨by omega, _, hK6, rfl⟩)
  have c0 := q7.cell (i := 0) (v := .int .i64 f.scope) (by rfl)
  have c1 := q7.cell (i := 1) (v := .int .i64 f.way) (by rfl)
  have c2 := q7.cell (i := 2) (v := u) (by rfl)
  refine ⟨.agg #[.int .i64 f.scope, .int .i64 f.way, u], ?_, u, rfl, o7, hl7⟩
  clear hl o7 hl7 q6 o6 hl6 hL
  simp [results, Tryd.results95, go_sem, ht, c0, c1, c2]
set_option maxRecDepth 100000 in
set_option maxHeartbeats 8000000 in
theorem find_walk {ss : List Sc} (hv : Valid ss) {w : World} {B L M T M1 M2 : Nat} {v : Value} {ds : List Nd} (hL : LookW w B L M T M1 M2 v ds ss) (nm : ByteArray) (pa : Option Addr) (cl : List Nat) (hcl : cl.length ≤ 6)
    (hT : ∀ m ∈ cl, TargetC B L M T M1 M2 v ds ss m)
    (hseq : ∀ (Bn : Nat) (w0 w : World), TreeIs w0 B T M1 M2 v ds ss → CellsKept w0.heap.size w0 w → w.cell? ⟨Bn, 0, none⟩ = some (.pointer pa) →
      SeqStopsK Fence.wide 5 Tryd.prog 157 #[.pointer (some ⟨Bn, 0, none⟩)] (fun x : NdIn ds cl => ndArgs x.1.2) (CellsKept w0.heap.size) (fun ys => ys.map NdIn.num = cl) (fun pre => pre.map NdIn.num <+: cl) cl.length w) :
    Calls Tryd.prog 95 #[.pointer (some ⟨L, 0, none⟩), .pointer pa, .string nm] w (FindGot (lookF ss (impP ss) nm cl) w B L M T M1 M2 v ds ss) := by
  have HV := Lib.hid hv
  have HL := Lib.hid hL
  have HT := Lib.hid hT
  have HS := Lib.hid hseq
  have HCL := Lib.hid hcl
  have hM := hL.memo.lt
  clear hv hL hT hseq hcl
  refine (callsIn_wide (n := 6)).1 ?_
  refine callsIn_of_wp_marks Tryd.func95 rfl trivial ?_ rfl
  simp only [Tryd.ntmps95, List.size_toArray, List.length_cons, List.length_nil, Nat.reduceAdd, Nat.reduceSub, Array.replicate_succ, Array.replicate_zero, List.push_toArray, List.append_toArray, List.nil_append, List.cons_append]
  gi_wp2_with fail
  refine wpIn_wide.2 (wp_scope_straight ((wpIn_wide (n := 6)).1 ?_))
  gi_wp2_with fail
  refine wpIn_label ?_
  gi_wp2_with fail
  refine ⟨trivial, ?_⟩
  gi_at_call 133
  refine ((callsIn_wide (n := 5)).2 (outward_any _ _)).mono ?_
  rintro e w2 ⟨rfl, rfl⟩
  gi_wp2
  have hFA := findAt w L pa nm
  generalize hW0 : (((((w.alloc (.cells #[.pointer (some ⟨L, 0, none⟩)] 118)).alloc (.cells #[.string nm] 9)).alloc (.cells #[.int .i64 0, .int .i64 0, .slice none 0 0] 124)).alloc (.cells #[.int .i64 (-1), .int .i64 0, .slice none 0 0] 124)).alloc (.cells #[.pointer pa] 119)) = W0 at hFA ⊢
  clear hW0
  have HL0 := Lib.hid (HL.out.left.step hFA.below)
  have hz := hFA.size
  have HFA := Lib.hid hFA
  refine wpIn_rangeFunc_ownH rfl (by omega) (gf := 157) (lb := #[.pointer (some ⟨w.heap.size + 1 + 1 + 1 + 1, 0, none⟩)]) rfl trivial (enters_of Tryd.func157 (by kernel_rfl) rfl)
    (HS.out _ W0 W0 HL0.out.look.tree (CellsKept.refl _ _) HFA.out.rn) CellsKept.trans (fun W l o o' _ h1 h2 h3 => CellsKept.putObj W l o o' h1 h2) (Below.refl _ _) (fun _ => rfl)
    (fun pre W => Left w W B L M T M1 M2 v ds ss ∧ (CellsKept W0.heap.size W0 W ∧ Hid (Passed ss nm (pre.map NdIn.num))))
    (fun c pre W => c = .exit 0 ∧ ∃ f, Hid (∀ r, lookF ss (impP ss) nm (pre.map NdIn.num ++ r) = f) ∧ FoundAt w W B L M T M1 M2 v ds ss f)
    (OwnFrom.and (left_own HL.out (by omega)) (OwnFrom.and (cellsKept_own W0) (fun _ _ _ _ hs _ _ => hs)))
    (fun _ _ _ _ _ hs hg hr => ⟨hs.1, by obtain ⟨f, h1, h2⟩ := hs.2; exact ⟨f, h1, foundAt_own HL.out (by omega) f _ _ _ h2 hg hr⟩⟩)
    ⟨HL0.out, CellsKept.refl _ _, Lib.hid (fun m hm => by simp at hm)⟩
    (fun x a' _ => a' = { tmps := #[.pointer (some ⟨L, 0, none⟩), .pointer pa, .string nm, .pointer (some ⟨w.heap.size, 0, none⟩), undef, .pointer (some ⟨w.heap.size + 1, 0, none⟩), .pointer (some ⟨w.heap.size + 1 + 1, 0, none⟩), .pointer (some ⟨w.heap.size + 1 + 1 + 1, 0, none⟩), .pointer (some ⟨x.1.2.blk, 0, none⟩), undef, undef, undef,
      .agg #[.int .i64 (-1), .int .i64 0, .slice none 0 0], .pointer pa, .func (.func 157) #[] #[.pointer (some ⟨w.heap.size + 1 + 1 + 1 + 1, 0, none⟩)], .pointer (some ⟨x.1.2.blk, 0, none⟩), undef, undef, undef, undef, undef, undef, undef, undef, undef, undef, undef, undef, undef, undef, undef, undef, undef, undef, undef, undef, undef], defers := [] })
    (fun _ _ _ _ _ _ hs _ _ => hs)
    ?assign ?body ?done ?stop
  case assign =>
    rintro l pre x W K hi hK
    dsimp only [ndArgs]
    gi_wp2
    exact hK _ _ (KeepsFrom.refl _ _) (CellsKept.refl _ _) hi rfl
  case body =>
    rintro l pre x a' W hl _ ⟨hLW, hck, hps⟩ rfl hlen
    obtain ⟨⟨i, c⟩, hci, him⟩ := x
    dsimp only
    have HLW := Lib.hid hLW
    have HCK := Lib.hid hck
    have HPS := Lib.hid hps.out
    have HTC := Lib.hid (HT.out i him)
    have HCI := Lib.hid hci
    have HX : Hid ((pre ++ [(⟨(i, c), hci, him⟩ : NdIn ds cl)]).map NdIn.num = pre.map NdIn.num ++ [i]) := Lib.hid (by rw [List.map_append]; rfl)
    have hWs := hck.size
    generalize hpx : (pre ++ [(⟨(i, c), hci, him⟩ : NdIn ds cl)]) = px at HX ⊢
    have hst0 : Hid (Left W W B L M T M1 M2 v ds ss) := Lib.hid hLW.look.left
    clear hLW hck hps hpx
    gi_wp2
    gi_loopw [17] (fun iv wr => ∃ k : Nat, iv = .int .i64 k ∧ k ≤ 2 ∧ Hid (Left W wr B L M T M1 M2 v ds ss ∧ (1 ≤ k → (ownP ss i nm).length = 0) ∧ (2 ≤ k → (fromP ss (impP ss i) nm).length = 0))) (fun iv _ => 2 - (intOf iv).toNat)
    case atStart => exact ⟨0, rfl, by omega, Lib.hid ⟨hst0.out, fun h => by omega, fun h => by omega⟩⟩
    case round =>
      obtain ⟨k, rfl, hk, hP⟩ := hrel
      by_cases hlt : k < 2
      · have HKW := Lib.hid (HCK.out.trans ((hP.out.1.turns.cellsM HLW.out.look.memo).mono hWs))
        have g3 := HKW.out.cell (by omega) (HFA.out.r3.cell (i := 0) (by rfl))
        have g5 := HKW.out.cell (by omega) (HFA.out.r5.cell (i := 0) (by rfl))
        have hi2 : k = 0 ∨ k = 1 := by omega
        rcases hi2 with rfl | rfl
        · have HC := Lib.hid (CallsIn.inRound l ((callsIn_wide (n := 3)).2 (wayFrom_any HV.out hP.out.1.look HCI.out HTC.out nm 1 (by omega))))
          rw [show wayP ss i nm 1 = ownP ss i nm from rfl] at HC
          have hlen2 : (ownP ss i nm).length ≤ 25 := by
            have := ownP_length HV.out i nm; omega
          gi_wp2_with fail
          refine ⟨trivial, ?_⟩
          gi_at_call 134
          refine HC.out.mono ?_
          rintro e w3 ⟨u, rfl, hrow3, hl3⟩
          obtain ⟨ou, cu, rfl⟩ := ownsRow_slice hrow3
          have HL3 := Lib.hid (hP.out.1.trans hl3)
          have HK3 := Lib.hid (HCK.out.trans ((HL3.out.turns.cellsM HLW.out.look.memo).mono hWs))
          have HR3 : Hid (w3.ownsRow w.heap.size 34 2 (.slice ou (ownP ss i nm).length cu) (ownP ss i nm).length (placeCells (ownP ss i nm))) := Lib.hid (ownsRow_lower hrow3 (Nat.le_trans HLW.out.turns.size hP.out.1.turns.size))
          clear hrow3 hl3 g3 g5
          by_cases hpos : 0 < (ownP ss i nm).length
          · have R7 : Row w3 (w.heap.size + 1 + 1 + 1) 124 [.int .i64 (-1), .int .i64 0, .slice none 0 0] := HK3.out.block _ _ _ _ (by omega) HFA.out.r7
            have R6 : Row w3 (w.heap.size + 1 + 1) 124 [.int .i64 0, .int .i64 0, .slice none 0 0] := HK3.out.block _ _ _ _ (by omega) HFA.out.r6
            have c0 := R7.cell (i := 0) (v := .int .i64 (-1)) (by rfl)
            have c1 := R7.cell (i := 1) (v := .int .i64 0) (by rfl)
            have c2 := R7.cell (i := 2) (v := .slice none 0 0) (by rfl)
            have f0 : ∀ k, w3.frozen? ⟨w.heap.size + 1 + 1 + 1, k, none⟩ = false := fun k => R7.frozen k
            have m0 := ((HL3.out.look.tree.tree.node i c HCI.out).2.cell (i := 0) (v := .int .i64 (i : Int)) (by rfl))
            have HR7 := Lib.hid R7
            have HR6 := Lib.hid R6
            have HFN : Hid (∀ r, lookF ss (impP ss) nm (px.map NdIn.num ++ r) = ⟨(i : Int), 1, ownP ss i nm⟩) := Lib.hid (fun r => by
              rw [HX.out, List.append_assoc, passed_skip HPS.out, List.singleton_append]
              exact lookF_cons_own hpos)
            clear R7 R6
            gi_wp2
            refine ⟨?_, rfl, _, HFN, ⟨?_, ?_, .slice ou (ownP ss i nm).length cu, ?_, ?_⟩⟩
            · exact (HL3.out.turns.keepsFrom (by omega) (by omega)).trans ((((KeepsOthers.setCell _ _ _).trans (KeepsOthers.setCell _ _ _)).trans (KeepsOthers.setCell _ _ _)).from _)
            · exact Left.far HL.out (HLW.out.trans HL3.out) ((((Below.refl w.heap.size w3).setCell (p := ⟨w.heap.size + 1 + 1 + 1, 0, none⟩) (by show w.heap.size ≤ w.heap.size + 1 + 1 + 1; omega) _).setCell (p := ⟨w.heap.size + 1 + 1 + 1, 1, none⟩) (by show w.heap.size ≤ w.heap.size + 1 + 1 + 1; omega) _).setCell (p := ⟨w.heap.size + 1 + 1 + 1, 2, none⟩) (by show w.heap.size ≤ w.heap.size + 1 + 1 + 1; omega) _)
            · exact ((HR6.out.other (by show w.heap.size + 1 + 1 + 1 ≠ w.heap.size + 1 + 1; omega) _).other (by show w.heap.size + 1 + 1 + 1 ≠ w.heap.size + 1 + 1; omega) _).other (by show w.heap.size + 1 + 1 + 1 ≠ w.heap.size + 1 + 1; omega) _
            · exact ((HR7.out.set 0 _).set 1 _).set 2 _
            · exact ((HR3.out.kept (grownBy_set _ _ 0 _) (.inr (ownsRow_ne HR7.out (by decide) HR3.out).symm)).kept (grownBy_set _ _ 1 _) (.inr (ownsRow_ne HR7.out (by decide) HR3.out).symm)).kept (grownBy_set _ _ 2 _) (.inr (ownsRow_ne HR7.out (by decide) HR3.out).symm)
          · have hz0 : (ownP ss i nm).length = 0 := by omega
            have HZ := Lib.hid hz0
            have HST : Hid (Left W w3 B L M T M1 M2 v ds ss ∧ (1 ≤ 1 → (ownP ss i nm).length = 0) ∧ (2 ≤ 1 → (fromP ss (impP ss i) nm).length = 0)) := Lib.hid ⟨HL3.out, fun _ => HZ.out, fun h => by omega⟩
            gi_wp2
            exact ⟨⟨1, rfl, by omega, HST⟩, by simp only [intOf]; omega⟩
        · have HC := Lib.hid (CallsIn.inRound l ((callsIn_wide (n := 3)).2 (wayFrom_any HV.out hP.out.1.look HCI.out HTC.out nm 2 (by omega))))
          rw [show wayP ss i nm 2 = fromP ss (impP ss i) nm from rfl] at HC
          have hlen2 : (fromP ss (impP ss i) nm).length ≤ 25 := by
            have h1 := fromP_length HV.out nm (impP ss i); have h2 := impP_length HV.out i; omega
          gi_wp2_with fail
          refine ⟨trivial, ?_⟩
          gi_at_call 134
          refine HC.out.mono ?_
          rintro e w3 ⟨u, rfl, hrow3, hl3⟩
          obtain ⟨ou, cu, rfl⟩ := ownsRow_slice hrow3
          have HL3 := Lib.hid (hP.out.1.trans hl3)
          have HK3 := Lib.hid (HCK.out.trans ((HL3.out.turns.cellsM HLW.out.look.memo).mono hWs))
          have HR3 : Hid (w3.ownsRow w.heap.size 34 2 (.slice ou (fromP ss (impP ss i) nm).length cu) (fromP ss (impP ss i) nm).length (placeCells (fromP ss (impP ss i) nm))) := Lib.hid (ownsRow_lower hrow3 (Nat.le_trans HLW.out.turns.size hP.out.1.turns.size))
          clear hrow3 hl3 g3 g5
          by_cases hpos : 0 < (fromP ss (impP ss i) nm).length
          · have R7 : Row w3 (w.heap.size + 1 + 1 + 1) 124 [.int .i64 (-1), .int .i64 0, .slice none 0 0] := HK3.out.block _ _ _ _ (by omega) HFA.out.r7
            have R6 : Row w3 (w.heap.size + 1 + 1) 124 [.int .i64 0, .int .i64 0, .slice none 0 0] := HK3.out.block _ _ _ _ (by omega) HFA.out.r6
            have c0 := R7.cell (i := 0) (v := .int .i64 (-1)) (by rfl)
            have c1 := R7.cell (i := 1) (v := .int .i64 0) (by rfl)
            have c2 := R7.cell (i := 2) (v := .slice none 0 0) (by rfl)
            have f0 : ∀ k, w3.frozen? ⟨w.heap.size + 1 + 1 + 1, k, none⟩ = false := fun k => R7.frozen k
            have m0 := ((HL3.out.look.tree.tree.node i c HCI.out).2.cell (i := 0) (v := .int .i64 (i : Int)) (by rfl))
            have HR7 := Lib.hid R7
            have HR6 := Lib.hid R6
            have HFN : Hid (∀ r, lookF ss (impP ss) nm (px.map NdIn.num ++ r) = ⟨(i : Int), 2, fromP ss (impP ss i) nm⟩) := Lib.hid (fun r => by
              rw [HX.out, List.append_assoc, passed_skip HPS.out, List.singleton_append]
              exact lookF_cons_from (by have := hP.out.2.1 (by omega); omega) hpos)
            clear R7 R6
            gi_wp2
            refine ⟨?_, rfl, _, HFN, ⟨?_, ?_, .slice ou (fromP ss (impP ss i) nm).length cu, ?_, ?_⟩⟩
            · exact (HL3.out.turns.keepsFrom (by omega) (by omega)).trans ((((KeepsOthers.setCell _ _ _).trans (KeepsOthers.setCell _ _ _)).trans (KeepsOthers.setCell _ _ _)).from _)
            · exact Left.far HL.out (HLW.out.trans HL3.out) ((((Below.refl w.heap.size w3).setCell (p := ⟨w.heap.size + 1 + 1 + 1, 0, none⟩) (by show w.heap.size ≤ w.heap.size + 1 + 1 + 1; omega) _).setCell (p := ⟨w.heap.size + 1 + 1 + 1, 1, none⟩) (by show w.heap.size ≤ w.heap.size + 1 + 1 + 1; omega) _).setCell (p := ⟨w.heap.size + 1 + 1 + 1, 2, none⟩) (by show w.heap.size ≤ w.heap.size + 1 + 1 + 1; omega) _)
            · exact ((HR6.out.other (by show w.heap.size + 1 + 1 + 1 ≠ w.heap.size + 1 + 1; omega) _).other (by show w.heap.size + 1 + 1 + 1 ≠ w.heap.size + 1 + 1; omega) _).other (by show w.heap.size + 1 + 1 + 1 ≠ w.heap.size + 1 + 1; omega) _
            · exact ((HR7.out.set 0 _).set 1 _).set 2 _
            · exact ((HR3.out.kept (grownBy_set _ _ 0 _) (.inr (ownsRow_ne HR7.out (by decide) HR3.out).symm)).kept (grownBy_set _ _ 1 _) (.inr (ownsRow_ne HR7.out (by decide) HR3.out).symm)).kept (grownBy_set _ _ 2 _) (.inr (ownsRow_ne HR7.out (by decide) HR3.out).symm)
          · have hz0 : (fromP ss (impP ss i) nm).length = 0 := by omega
            have HZ := Lib.hid hz0
            have HST : Hid (Left W w3 B L M T M1 M2 v ds ss ∧ (1 ≤ 2 → (ownP ss i nm).length = 0) ∧ (2 ≤ 2 → (fromP ss (impP ss i) nm).length = 0)) := Lib.hid ⟨HL3.out, fun _ => hP.out.2.1 (by omega), fun _ => HZ.out⟩
            gi_wp2
            exact ⟨⟨2, rfl, by omega, HST⟩, by simp only [intOf]; omega⟩
      · obtain rfl : k = 2 := by omega
        have HPX : Hid (Passed ss nm (px.map NdIn.num)) := Lib.hid (by
          rw [HX.out]
          intro m hm
          rcases List.mem_append.1 hm with h | h
          · exact HPS.out m h
          · rw [List.mem_singleton] at h
            subst h
            exact ⟨hP.out.2.1 (by omega), hP.out.2.2 (by omega)⟩)
        gi_wp2
        exact ⟨hP.out.1.turns.keepsFrom (by omega) (by omega), (hP.out.1.turns.cellsM HLW.out.look.memo).mono hWs, HLW.out.trans hP.out.1, HCK.out.trans ((hP.out.1.turns.cellsM HLW.out.look.memo).mono hWs), HPX⟩
  case done =>
    rintro D xs W hD hS ⟨hLW, hck, hps⟩ hK
    have HLW := Lib.hid hLW
    have HCK := Lib.hid hck
    have R7 : Row W (w.heap.size + 1 + 1 + 1) 124 [.int .i64 (-1), .int .i64 0, .slice none 0 0] := hck.block _ _ _ _ (by omega) HFA.out.r7
    have R6 : Row W (w.heap.size + 1 + 1) 124 [.int .i64 0, .int .i64 0, .slice none 0 0] := hck.block _ _ _ _ (by omega) HFA.out.r6
    have HF : Hid (lookF ss (impP ss) nm cl = ⟨-1, 0, []⟩) := Lib.hid (by rw [← hS]; exact passed_all hps.out)
    have c0 := R7.cell (i := 0) (v := .int .i64 (-1)) (by rfl)
    have c1 := R7.cell (i := 1) (v := .int .i64 0) (by rfl)
    have c2 := R7.cell (i := 2) (v := .slice none 0 0) (by rfl)
    have d0 := R6.cell (i := 0) (v := .int .i64 0) (by rfl)
    have d1 := R6.cell (i := 1) (v := .int .i64 0) (by rfl)
    have d2 := R6.cell (i := 2) (v := .slice none 0 0) (by rfl)
    have f0 : ∀ k, W.frozen? ⟨w.heap.size + 1 + 1, k, none⟩ = false := fun k => R6.frozen k
    have HR6 := Lib.hid R6
    clear R7 R6 hLW hck hS hps
    gi_wp2
    rw [HF.out]
    exact find_end HL.out HLW.out HR6.out (World.ownsRow_nil _ _ _ _) (by omega) hK rfl
  case stop =>
    rintro D c pre W hD hSp ⟨rfl, f, hf, hFO⟩ hK
    obtain ⟨u, hr7, hown⟩ := hFO.r7
    have HF : Hid (lookF ss (impP ss) nm cl = f) := Lib.hid (by
      obtain ⟨r, hr⟩ := hSp
      rw [← hr]
      exact hf.out r)
    obtain ⟨ou, cu, rfl⟩ := ownsRow_slice hown
    have c0 := hr7.cell (i := 0) (v := .int .i64 f.scope) (by rfl)
    have c1 := hr7.cell (i := 1) (v := .int .i64 f.way) (by rfl)
    have c2 := hr7.cell (i := 2) (v := .slice ou f.places.length cu) (by rfl)
    have d0 := hFO.r6.cell (i := 0) (v := .int .i64 0) (by rfl)
    have d1 := hFO.r6.cell (i := 1) (v := .int .i64 0) (by rfl)
    have d2 := hFO.r6.cell (i := 2) (v := .slice none 0 0) (by rfl)
    have f0 : ∀ k, W.frozen? ⟨w.heap.size + 1 + 1, k, none⟩ = false := fun k => hFO.r6.frozen k
    have HFO := Lib.hid hFO
    have HOWN := Lib.hid hown
    clear hFO hr7 hown hSp hf
    gi_wp2
    rw [HF.out]
    exact find_end HL.out HFO.out.left HFO.out.r6 HOWN.out (by omega) hK rfl
end Go.Proofs.YtadpgoiiopfnnaaDoor
namespace Go.Proofs.YtadpgoiiopfnnaaDoor
open Go Go.RowKit Go.Maps
/-- What an item means. -/
def meanIt (ss : List Sc) (q : Nat × Nat × It) : List (Int × Int) :=
  if q.2.2.kind = 2 then (lookP ss q.1 q.2.2.name).places else if q.2.2.kind = 3 then meantP ss q.1 q.2.2.name else [((q.1 : Int), (q.2.1 : Int))]
/-- The scope of the module that a list has alone, or -1. -/
def aloneP (ss : List Sc) (l : List (Int × Int)) : Int := match l with
  | [p] => scopeAt ss p
  | _ => -1
theorem aloneP_not {ss : List Sc} {l : List (Int × Int)} (h : l.length ≠ 1) : aloneP ss l = -1 := by
  unfold aloneP
  split
  · exact absurd rfl h
  · rfl
theorem targetP_alone (ss : List Sc) (s : Nat) (nm : ByteArray) : targetP ss s nm = aloneP ss (meantP ss s nm) := by
  by_cases h : (meantP ss s nm).length = 1
  · obtain ⟨p, hp⟩ := List.length_eq_one_iff.1 h
    rw [targetP_one hp, hp]; rfl
  · rw [targetP_not h, aloneP_not h]
/-- The state of an item. -/
def stateIt (ss : List Sc) (q : Nat × Nat × It) : Int :=
  if (meanIt ss q).length = 0 then 2 else if 1 < (meanIt ss q).length then 3 else if q.2.2.kind = 3 ∧ aloneP ss (meanIt ss q) = -1 then 4 else 1
theorem meantP_short {ss : List Sc} (hv : Valid ss) (s : Nat) (nm : ByteArray) : (meantP ss s nm).length ≤ 25 := by
  unfold meantP meantF
  split
  · split
    · simp
    · exact lookF_length hv _ _
  · have := ownP_length hv s nm; omega
theorem meanIt_length {ss : List Sc} (hv : Valid ss) (q : Nat × Nat × It) : (meanIt ss q).length ≤ 25 := by
  unfold meanIt
  split
  · exact lookF_length hv _ _
  · split
    · exact meantP_short hv _ _
    · simp
theorem meanIt_isPlace {ss : List Sc} {q : Nat × Nat × It} (hq : q ∈ placed 0 ss) : ∀ p ∈ meanIt ss q, IsPlace ss p := by
  intro p hp
  unfold meanIt at hp
  split at hp
  · exact look_isPlace p hp
  · split at hp
    · exact meant_isPlace p hp
    · rw [List.mem_singleton] at hp
      obtain ⟨s, _, h1, h2⟩ := mem_placed.1 hq
      exact ⟨q.1, q.2.1, s, q.2.2, hp, by simpa using h1, h2⟩
theorem placed_at {ss : List Sc} {q : Nat × Nat × It} (hq : q ∈ placed 0 ss) : ∃ s, ss[q.1]? = some s ∧ s.items[q.2.1]? = some q.2.2 := by
  obtain ⟨s, _, h1, h2⟩ := mem_placed.1 hq
  exact ⟨s, by simpa using h1, h2⟩
theorem placed_of {ss : List Sc} {i j : Nat} {s : Sc} {x : It} (hs : ss[i]? = some s) (hx : s.items[j]? = some x) : (i, j, x) ∈ placed 0 ss := mem_placed.2 ⟨s, Nat.zero_le _, by simpa using hs, hx⟩
theorem placed_item {ss : List Sc} {q : Nat × Nat × It} (hq : q ∈ placed 0 ss) : itemAtP ss (q.1 : Int) (q.2.1 : Int) = some q.2.2 := by
  obtain ⟨s, h1, h2⟩ := placed_at hq
  rw [itemAtP_nat h1, h2]
/-- Where an item is at a place, it is among all. -/
theorem item_placed {ss : List Sc} {a b : Int} {x : It} (h : itemAtP ss a b = some x) : ∃ i j : Nat, a = (i : Int) ∧ b = (j : Int) ∧ (i, j, x) ∈ placed 0 ss := by
  unfold itemAtP at h
  split at h
  · rename_i h0
    cases hc : ss[a.toNat]? with
    | none => rw [hc] at h; cases h
    | some c =>
      rw [hc] at h
      exact ⟨a.toNat, b.toNat, by omega, by omega, placed_of hc h⟩
  · cases h
/-- How slices read, as elements of maps. -/
def sliceD (v : Value) : DataW Unit := match v with
  | .slice none n c => .agg [numD (n : Int), numD (c : Int)]
  | .slice (some ⟨b, o, none⟩) n c => .agg [numD (b : Int), numD (o : Int), numD (n : Int), numD (c : Int)]
  | _ => .agg []
def sliceR (v : Value) : Option (DataW Unit × List MemPlace) := match v with
  | .slice none n c => some (.agg [numD (n : Int), numD (c : Int)], [])
  | .slice (some ⟨b, o, none⟩) n c => some (.agg [numD (b : Int), numD (o : Int), numD (n : Int), numD (c : Int)], [])
  | _ => none
theorem sliceR_own {w : World} {B n : Nat} {e : TypeId} {size : Nat} {u : Value} {xs : List Value} (h : w.ownsRow B e size u n xs) : sliceR u = some (sliceD u, []) := by
  rcases h.2 with ⟨rfl, _⟩ | ⟨g, cap, cur, rfl, _⟩ <;> rfl
theorem sliceR_eq {u v : Value} {ps : List MemPlace} (hu : sliceR u = some (sliceD u, [])) (h : sliceR v = some (sliceD u, ps)) : v = u := by
  unfold sliceR at h
  split at h
  · rename_i n c
    unfold sliceR at hu
    split at hu
    · rename_i n' c'
      simp [sliceD, numD] at h
      obtain ⟨⟨h1, h2⟩, _⟩ := h
      obtain rfl : n = n' := by omega
      obtain rfl : c = c' := by omega
      rfl
    · simp [sliceD] at h
    · cases hu
  · rename_i b o n c
    unfold sliceR at hu
    split at hu
    · simp [sliceD] at h
    · rename_i b' o' n' c'
      simp [sliceD, numD] at h
      obtain ⟨⟨h1, h2, h3, h4⟩, _⟩ := h
      obtain rfl : b = b' := by omega
      obtain rfl : o = o' := by omega
      obtain rfl : n = n' := by omega
      obtain rfl : c = c' := by omega
      rfl
    · cases hu
  · cases h
theorem zeroSlice (w : World) : (zeroValue 46).run Tryd.prog w = .ok (.slice none 0 0) w := by kernel_rfl
/-- The meanings of some items, each a list of its own. -/
abbrev Ent := (Nat × Nat × It) × Value
def entKey (e : Ent) : Lit := plKey e.1
def entVal (e : Ent) : DataW Unit := sliceD e.2
theorem entKey_is (e : Ent) : WideAt.IsKeyLit (entKey e) := trivial
def entsD (l : List Ent) : DataW Unit := putInto entKey entVal (.map []) l
structure MeanW (w : World) (B MR : Nat) (ss : List Sc) (l : List Ent) : Prop where
  map : w.ownsMap Tryd.prog 34 sliceR MR l.length (entsD l)
  lists : ∀ e ∈ l, w.ownsRow B 34 2 e.2 (meanIt ss e.1).length (placeCells (meanIt ss e.1))
theorem ownsRow_cells {w w' : World} {B n size : Nat} {e : TypeId} {u : Value} {xs : List Value} (h : w.ownsRow B e size u n xs) (hk : CellsKept w.heap.size w w') : w'.ownsRow B e size u n xs := by
  obtain ⟨h1, h2 | ⟨g, cap, cur, hv, hB, hh, r⟩⟩ := h
  · exact ⟨h1, .inl h2⟩
  · exact ⟨h1, .inr ⟨g, cap, cur, hv, hB, hk.block g _ _ _ (Array.getElem?_eq_some_iff.1 hh).1 hh, r⟩⟩
theorem ownsMap_same {w w' : World} {k : TypeId} {R : Value → Option (DataW Unit × List MemPlace)} {M n : Nat} {D : DataW Unit} (h : w.ownsMap Tryd.prog k R M n D) (hs : w'.heap[M]? = w.heap[M]?) : w'.ownsMap Tryd.prog k R M n D := by
  obtain ⟨es, clock, hh, r⟩ := h
  exact ⟨es, clock, hs.trans hh, r⟩
theorem MeanW.lt {w : World} {B MR : Nat} {ss : List Sc} {l : List Ent} (h : MeanW w B MR ss l) : MR < w.heap.size := by
  obtain ⟨es, clock, hh, _⟩ := h.map
  exact (Array.getElem?_eq_some_iff.1 hh).1
theorem MeanW.kept {w w' : World} {B MR : Nat} {ss : List Sc} {l : List Ent} (h : MeanW w B MR ss l) (hk : CellsKept w.heap.size w w') (hs : w'.heap[MR]? = w.heap[MR]?) : MeanW w' B MR ss l :=
  ⟨ownsMap_same h.map hs, fun e he => ownsRow_cells (h.lists e he) hk⟩
theorem MeanW.below {w w' : World} {B MR : Nat} {ss : List Sc} {l : List Ent} (h : MeanW w B MR ss l) (hb : Below w.heap.size w w') : MeanW w' B MR ss l :=
  h.kept (.of_below hb) (hb.block _ h.lt)
theorem MeanW.lower {w : World} {B B' MR : Nat} {ss : List Sc} {l : List Ent} (h : MeanW w B MR ss l) (hB : B' ≤ B) : MeanW w B' MR ss l := ⟨h.map, fun e he => ownsRow_lower (h.lists e he) hB⟩
/-- A meaning more. -/
theorem mean_put {w : World} {B MR : Nat} {ss : List Sc} {l : List Ent} (hv : Valid ss) (h : MeanW w B MR ss l) (hl : l.length < 1000) {i j : Nat} {x : It} (hq : (i, j, x) ∈ placed 0 ss) {u : Value} (hu : w.ownsRow B 34 2 u (meanIt ss (i, j, x)).length (placeCells (meanIt ss (i, j, x)))) :
    ∃ w', (Instr.mapUpdate 105 (.map (some MR)) (.agg #[.int .i64 (i : Int), .int .i64 (j : Int)]) u).run Tryd.prog w = .ok () w' ∧ MeanW w' B MR ss (l ++ [((i, j, x), u)]) ∧ w.grownBy w' (some MR) := by
  have hlt := hv.small.lt hq
  obtain ⟨w', hrun, hown, hg⟩ := h.map.update (t := 105) (e := 46) placeLaw Tryd.underlying105 (by unfold maxLen; omega) (pl_key (a := (i : Int)) (b := (j : Int)) (wf_small hlt.1) (wf_small hlt.2)) (sliceR_own hu)
  have hck : CellsKept w.heap.size w w' := ⟨hg.size, fun g vs t fr _ hh => by
    refine (hg.block g (Array.getElem?_eq_some_iff.1 hh).1 (fun e => ?_)).trans hh
    cases e
    obtain ⟨es, clock, h1, _⟩ := h.map
    rw [h1] at hh; cases hh⟩
  refine ⟨w', hrun, ⟨?_, fun e he => ?_⟩, hg⟩
  · rw [List.length_append]
    unfold entsD
    rw [putInto_snoc]
    exact hown
  · rcases List.mem_append.1 he with h1 | h1
    · exact ownsRow_cells (h.lists e h1) hck
    · rw [List.mem_singleton] at h1
      subst h1
      exact ownsRow_cells hu hck
theorem entKeys {l : List Ent} : l.map entKey = (l.map Prod.fst).map plKey := by rw [List.map_map]; rfl
/-- What the meanings of all items answer at a place. -/
theorem mean_look {w : World} {B MR : Nat} {ss : List Sc} {l : List Ent} (hv : Valid ss) (h : MeanW w B MR ss l) (hf : l.map Prod.fst = placed 0 ss) {a b : Int} (ha : (Lit.int .i64 a).wf = true) (hb : (Lit.int .i64 b).wf = true) :
    ∃ u, (Instr.lookup 105 (.map (some MR)) (.agg #[.int .i64 a, .int .i64 b]) true).run Tryd.prog w = .ok (.tuple #[u, .bool (itemAtP ss a b).isSome]) w ∧
      (Instr.lookup 105 (.map (some MR)) (.agg #[.int .i64 a, .int .i64 b]) false).run Tryd.prog w = .ok u w ∧
      ((itemAtP ss a b = none ∧ u = .slice none 0 0) ∨ ∃ i j x, a = (i : Nat) ∧ b = (j : Nat) ∧ itemAtP ss a b = some x ∧ (i, j, x) ∈ placed 0 ss ∧ w.ownsRow B 34 2 u (meanIt ss (i, j, x)).length (placeCells (meanIt ss (i, j, x)))) := by
  have hD : Maps.has (entsD l) (plLit a b) = (itemAtP ss a b).isSome := by
    rw [← (look_item hv.small ha hb).1]
    have e1 := putInto_has entKey entVal entKey_is (plLit a b) l (.map []) nilMap
    have e2 := putInto_has plKey itVal plKey_is (plLit a b) (placed 0 ss) (.map []) nilMap
    have e3 : (∃ x ∈ l, entKey x = plLit a b) ↔ ∃ x ∈ placed 0 ss, plKey x = plLit a b := by
      rw [← hf]
      constructor
      · rintro ⟨e, he, hk⟩; exact ⟨e.1, List.mem_map_of_mem he, hk⟩
      · rintro ⟨q, hq, hk⟩
        obtain ⟨e, he, rfl⟩ := List.mem_map.1 hq
        exact ⟨e, he, hk⟩
    rw [e3] at e1
    exact Bool.eq_iff_iff.2 (e1.trans e2.symm)
  obtain ⟨v1, ps1, hrun1, hv1⟩ := h.map.look_ok (t := 105) (e := 46) placeLaw Tryd.underlying105 (zeroSlice _) (by rfl) (pl_key ha hb)
  obtain ⟨v2, ps2, hrun2, hv2⟩ := h.map.lookup (t := 105) (e := 46) placeLaw Tryd.underlying105 (zeroSlice _) (by rfl) (pl_key ha hb)
  rw [hD] at hrun1
  cases hx : itemAtP ss a b with
  | none =>
    have hz : sliceR (.slice none 0 0) = some (sliceD (.slice none 0 0), []) := rfl
    have e0 : (entsD l).atKey (plLit a b) (sliceD (.slice none 0 0)) = sliceD (.slice none 0 0) := Maps.atKey_of_not_has (by rw [hD, hx]; rfl) _
    obtain rfl := sliceR_eq hz (e0 ▸ hv1)
    obtain rfl := sliceR_eq hz (e0 ▸ hv2)
    refine ⟨_, ?_, hrun2, .inl ⟨rfl, rfl⟩⟩
    rw [hx] at hrun1
    exact hrun1
  | some x =>
    obtain ⟨i, j, rfl, rfl, hq⟩ := item_placed hx
    obtain ⟨e, he, hqe⟩ := List.mem_map.1 (hf ▸ hq)
    have e0 := putInto_at entKey entVal entKey_is (sliceD (.slice none 0 0)) l (.map []) nilMap (by rw [entKeys, hf]; exact plKey_apart hv.small) e he
    have ek : entKey e = plLit (i : Int) (j : Int) := by unfold entKey; rw [hqe]; rfl
    rw [ek] at e0
    have hl := h.lists e he
    have e0' : (entsD l).atKey (plLit (i : Int) (j : Int)) (sliceD (.slice none 0 0)) = sliceD e.2 := e0
    obtain rfl := sliceR_eq (sliceR_own hl) (e0' ▸ hv1)
    obtain rfl := sliceR_eq (sliceR_own hl) (e0' ▸ hv2)
    rw [hqe] at hl
    refine ⟨_, ?_, hrun2, .inr ⟨i, j, x, rfl, rfl, rfl, hq, hl⟩⟩
    rw [hx] at hrun1
    exact hrun1
/-- A resolution. -/
structure ResW (w : World) (B R T M1 M2 MR : Nat) (v : Value) (ds : List Nd) (ss : List Sc) (l : List Ent) : Prop where
  tree : TreeIs w B T M1 M2 v ds ss
  box : Row w R 107 [.pointer (some ⟨T, 0, none⟩), .map (some MR)]
  mean : MeanW w B MR ss l
  full : l.map Prod.fst = placed 0 ss
theorem ResW.below {w w' : World} {B R T M1 M2 MR : Nat} {v : Value} {ds : List Nd} {ss : List Sc} {l : List Ent} (h : ResW w B R T M1 M2 MR v ds ss l) (hb : Below w.heap.size w w') : ResW w' B R T M1 M2 MR v ds ss l :=
  ⟨h.tree.below hb, h.box.below hb h.box.lt, h.mean.below hb, h.full⟩
end Go.Proofs.YtadpgoiiopfnnaaDoor
namespace Go.Proofs.YtadpgoiiopfnnaaDoor
open Go Go.RowKit Go.Maps
attribute [local go_sem ↓] field_kind field_name field_scope
theorem field_places (a b : Int) (oa : Option Addr) (n c : Nat) (w : World) : (Instr.field 124 (.agg #[.int .i64 a, .int .i64 b, .slice oa n c]) 2).run Tryd.prog w = .ok (.slice oa n c) w := by kernel_rfl
attribute [local go_sem ↓] field_places
theorem find_node {ss : List Sc} (hv : Valid ss) {w : World} {B L M T M1 M2 : Nat} {v : Value} {ds : List Nd} (hL : LookW w B L M T M1 M2 v ds ss) {s : Nat} {d : Nd} (hd : ds[s]? = some d) (hT : ∀ m ∈ chainP ss s, TargetC B L M T M1 M2 v ds ss m) (nm : ByteArray) :
    Calls Tryd.prog 95 #[.pointer (some ⟨L, 0, none⟩), .pointer (some ⟨d.blk, 0, none⟩), .string nm] w (FindGot (lookP ss s nm) w B L M T M1 M2 v ds ss) :=
  find_walk hv hL nm (some ⟨d.blk, 0, none⟩) (chainP ss s) (by
    have h1 := chain_bound hv.climbs (s := s) (by have := (List.getElem?_eq_some_iff.1 hd).1; have := hL.tree.hold.len; omega)
    have := hv.count.2
    omega) hT fun Bn w0 w' ht hk hc => outward_stopsC 5 (by omega) Bn B T M1 M2 v ds ss w0 w' ht.tree ht.pars hv.climbs ht.hold.len s d hd hk hc
theorem find_none {ss : List Sc} (hv : Valid ss) {w : World} {B L M T M1 M2 : Nat} {v : Value} {ds : List Nd} (hL : LookW w B L M T M1 M2 v ds ss) (nm : ByteArray) :
    Calls Tryd.prog 95 #[.pointer (some ⟨L, 0, none⟩), .pointer none, .string nm] w (FindGot ⟨-1, 0, []⟩ w B L M T M1 M2 v ds ss) :=
  find_walk hv hL nm none [] (by simp) (fun m hm => by simp at hm) fun Bn w0 w' _ _ hc => outward_none 5 Bn ds w0 w' hc
/-- An item looked up by its place. -/
theorem look_at {w : World} {B T M1 M2 : Nat} {v : Value} {ds : List Nd} {ss : List Sc} (hv : Valid ss) (hT : TreeIs w B T M1 M2 v ds ss) {i j : Nat} {c : Sc} {x : It} (hc : ss[i]? = some c) (hx : c.items[j]? = some x) :
    (Instr.lookup 109 (.map (some M1)) (.agg #[.int .i64 (i : Int), .int .i64 (j : Int)]) false).run Tryd.prog w = .ok (.agg #[.int .i64 x.kind, .string x.name, .int .i64 x.scope]) w := by
  have hb := item_bounds hv (q := (i, j)) ⟨c, x, hc, hx⟩
  dsimp only at hb
  have w1 := wf_small (a := i) (by omega)
  have w2 := wf_small (a := j) (by omega)
  obtain ⟨_, hat⟩ := look_item hv.small w1 w2
  obtain ⟨n1, hm⟩ := hT.items
  obtain ⟨v1, ps, hrun, hv1⟩ := hm.lookup (t := 109) (e := 65) placeLaw Tryd.underlying109 (zeroItem _) (itemR_mk zeroIt) (pl_key w1 w2)
  rw [hat] at hv1
  obtain rfl := itemR_eq hv1
  rw [hrun, itemAtP_nat hc, hx]
  rfl
set_option maxRecDepth 100000 in
set_option maxHeartbeats 4000000 in
theorem meantBy_any {ss : List Sc} (hv : Valid ss) {w : World} {B L M T M1 M2 : Nat} {v : Value} {ds : List Nd} (hL : LookW w B L M T M1 M2 v ds ss) {s j : Nat} {c : Sc} {x : It} (hsc : ss[s]? = some c) (hx : c.items[j]? = some x) (hT : ∀ m, m < s → TargetC B L M T M1 M2 v ds ss m) :
    Calls Tryd.prog 135 #[.pointer (some ⟨L, 0, none⟩), .agg #[.int .i64 (s : Int), .int .i64 (j : Int)]] w (PlsLeft (meantP ss s x.name) w B L M T M1 M2 v ds ss) := by
  have hb0 := (Below.refl w.heap.size w).alloc (Nat.le_refl _) (.cells #[.int .i64 (s : Int), .int .i64 (j : Int)] 34)
  have hL1 := hL.left.step hb0
  have hL2 := hL1.step ((Below.refl _ _).drew)
  have RP := Row.new w [.int .i64 (s : Int), .int .i64 (j : Int)] 34
  have hs : s < ss.length := (List.getElem?_eq_some_iff.1 hsc).1
  have hdl := hL.tree.hold.len
  obtain ⟨d, hd⟩ : ∃ d, ds[s]? = some d := ⟨_, List.getElem?_eq_getElem (by omega)⟩
  obtain ⟨g, cap', rfl, hgB, hg, hslot⟩ := hL2.look.tree.tree.slot (by intro e; rw [e] at hd; simp at hd)
  have s0 := hslot s d hd
  unfold Nd.ptr at s0
  have t0 := hL2.look.tree.tree.box.cell (i := 0) (by rfl)
  have t1 := hL2.look.tree.tree.box.cell (i := 1) (by rfl)
  have l0 := hL2.look.box.cell (i := 0) (by rfl)
  have p0 := cell_drew (RP.cell (i := 0) (by rfl))
  have p1 := cell_drew (RP.cell (i := 1) (by rfl))
  have hrun := look_at hv hL2.look.tree hsc hx
  have h6 := hv.count.2
  have HV := Lib.hid hv
  have HD := Lib.hid hd
  have HT := Lib.hid hT
  have HL0 := Lib.hid hL
  have HL1 := Lib.hid hL1
  have HL2 := Lib.hid hL2
  have hol := ownP_length hv s x.name
  clear hv hL hL1 hL2 hd hT hslot hsc hx RP hb0
  go_enter Tryd.func135, Tryd.ntmps135
  go_wp2
  go_region
  clear s0 t0 t1 l0 p0 p1 hrun
  go_wp2_with fail
  refine (own_any HV.out HL2.out.look.tree HD.out x.name).mono ?_
  rintro e w2 ⟨u, rfl, hu, hb2⟩
  obtain ⟨ou, cu, rfl⟩ := ownsRow_slice hu
  have HL3 := Lib.hid (HL2.out.step hb2)
  have HU := Lib.hid (ownsRow_lower hu HL2.out.turns.size)
  clear hu hb2
  by_cases hpos : 0 < (ownP ss s x.name).length
  · have HE : Hid (meantP ss s x.name = ownP ss s x.name) := Lib.hid (meantP_own (isEmpty_pos hpos))
    go_wp2
    go_ret
    exact ⟨_, rfl, by rw [HE.out]; exact HU.out, HL3.out⟩
  · have HEM := Lib.hid (isEmpty_zero hpos)
    have hz0 : (ownP ss s x.name).length = 0 := by omega
    have n1 := ((HL3.out.look.tree.tree.node s d HD.out).2.cell (i := 1) (v := .pointer d.par) (by rfl))
    rcases par_ptr HL3.out.look.tree.pars HV.out.climbs hdl HD.out with ⟨h1, h2⟩ | ⟨p, d2, h1, hlt, h2, h3⟩
    · have HE : Hid (meantP ss s x.name = []) := Lib.hid (meantP_none HEM.out h1)
      have C := Lib.hid (find_none HV.out HL3.out.look x.name)
      rw [h2] at n1
      clear h1 h2 hpos
      go_wp2_with fail
      refine C.out.mono ?_
      rintro e w3 ⟨u3, rfl, hr3, hl3⟩
      obtain ⟨o3, c3, rfl⟩ := ownsRow_slice hr3
      have HR3 := Lib.hid (ownsRow_lower hr3 HL3.out.turns.size)
      have HL4 := Lib.hid (HL3.out.trans hl3)
      clear hr3 hl3
      go_wp2
      go_ret
      exact ⟨_, rfl, by rw [HE.out]; exact HR3.out, HL4.out⟩
    · have HE : Hid (meantP ss s x.name = (lookP ss p x.name).places) := Lib.hid (meantP_par HEM.out h1)
      have C := Lib.hid (find_node HV.out HL3.out.look h2 (fun m hm => HT.out m (by have := chain_le HV.out.climbs p m hm; omega)) x.name)
      rw [h3] at n1
      clear h1 h2 h3 hpos
      go_wp2_with fail
      refine C.out.mono ?_
      rintro e w3 ⟨u3, rfl, hr3, hl3⟩
      obtain ⟨o3, c3, rfl⟩ := ownsRow_slice hr3
      have HR3 := Lib.hid (ownsRow_lower hr3 HL3.out.turns.size)
      have HL4 := Lib.hid (HL3.out.trans hl3)
      clear hr3 hl3
      go_wp2
      go_ret
      exact ⟨_, rfl, by rw [HE.out]; exact HR3.out, HL4.out⟩
set_option maxRecDepth 100000 in
set_option maxHeartbeats 4000000 in
theorem moduleAlone_any {ss : List Sc} (hv : Valid ss) {w : World} {B T M1 M2 : Nat} {v : Value} {ds : List Nd} (hT : TreeIs w B T M1 M2 v ds ss) {oa : Option Addr} {cap : Nat} {l : List (Int × Int)} (hl : l.length < 1000) (hp : ∀ p ∈ l, IsPlace ss p) (ha : ArgPlaces w oa l) :
    Calls Tryd.prog 130 #[.pointer (some ⟨T, 0, none⟩), .slice oa l.length cap] w fun e w' => e = .returned (.int .i64 (aloneP ss l)) ∧ Below w.heap.size w w' := by
  by_cases h1 : l.length = 1
  · obtain ⟨p, rfl⟩ := List.length_eq_one_iff.1 h1
    obtain ⟨i2, j2, c2, y, rfl, hc2, hy2⟩ := hp p (List.mem_singleton.2 rfl)
    have HA : Hid (aloneP ss [((i2 : Int), (j2 : Int))] = y.scope) := Lib.hid (scopeAt_of hc2 hy2)
    obtain ⟨b5, f5, rfl, hb5, q5⟩ := ha.at (by simp)
    obtain ⟨r0, r1⟩ := q5 0 ((i2 : Int), (j2 : Int)) (by rfl)
    rw [Nat.zero_mul, Nat.add_zero] at r0 r1
    have hTd := hT.below ((Below.refl w.heap.size w).drew)
    have e0 := cell_drew r0
    have e1 := cell_drew r1
    have t1 := hTd.tree.box.cell (i := 1) (by rfl)
    have hrun2 := look_at hv hTd hc2 hy2
    clear hv hT hTd hl hp ha q5 r0 r1 hc2 hy2
    simp only [List.length_singleton] at *
    go_enter Tryd.func130, Tryd.ntmps130
    go_wp2
    go_region
    all_goals go_wp2
    all_goals go_ret
    all_goals exact ⟨by rw [HA.out]; rfl, (Below.refl _ _).drew⟩
  · have HA : Hid (aloneP ss l = -1) := Lib.hid (aloneP_not h1)
    have hne : ((l.length : Int) != 1) = true := by simp; omega
    clear hv hT hp ha h1
    go_enter Tryd.func130, Tryd.ntmps130
    go_wp2
    go_ret
    exact ⟨by rw [HA.out]; rfl, Below.refl _ _⟩
set_option maxRecDepth 100000 in
set_option maxHeartbeats 4000000 in
theorem target_step {ss : List Sc} (hv : Valid ss) {B L M T M1 M2 : Nat} {v : Value} {ds : List Nd} {s : Nat} (hT : ∀ m, m < s → TargetC B L M T M1 M2 v ds ss m) : TargetC B L M T M1 M2 v ds ss s := by
  intro j hq w hL
  obtain ⟨c, x, hsc, hx⟩ := hq
  dsimp only at hsc hx
  have HQ : Hid (IsItem ss (s, j)) := Lib.hid ⟨c, x, hsc, hx⟩
  have HTGT := Lib.hid (tgt_of hsc hx)
  have hb0 := (Below.refl w.heap.size w).alloc (Nat.le_refl _) (.cells #[.int .i64 (s : Int), .int .i64 (j : Int)] 34)
  have hL1 := hL.left.step hb0
  have hL2 := hL1.step ((Below.refl _ _).drew)
  have RP := Row.new w [.int .i64 (s : Int), .int .i64 (j : Int)] 34
  have l1 := hL2.look.box.cell (i := 1) (by rfl)
  have p0 := cell_drew (RP.cell (i := 0) (by rfl))
  have p1 := cell_drew (RP.cell (i := 1) (by rfl))
  have hlook := hL2.look.memo.look hv HQ.out
  dsimp only at hlook
  have HV := Lib.hid hv
  have HT := Lib.hid hT
  have HL2 := Lib.hid hL2
  have HRP := Lib.hid RP
  have HSX := Lib.hid (And.intro hsc hx)
  clear hv hL hL1 hL2 hT hsc hx RP hb0
  rcases hlook with hrun | ⟨-, -, -, -, -, z, hrun⟩
  · generalize hz : tgt ss (s, j) = z at hrun
    clear hz
    go_enter Tryd.func97, Tryd.ntmps97
    go_wp2
    go_region
    all_goals go_wp2
    all_goals go_ret
    all_goals exact ⟨rfl, HL2.out⟩
  · go_enter Tryd.func97, Tryd.ntmps97
    go_wp2
    go_region
    clear hrun l1 p0 p1
    have hW0 : Row (w.alloc (.cells #[.int .i64 (s : Int), .int .i64 (j : Int)] 34)).drew w.heap.size 34 [.int .i64 (s : Int), .int .i64 (j : Int)] := HRP.out
    have HTA : Hid (tgt ss (s, j) = aloneP ss (meantP ss s x.name)) := Lib.hid (by rw [HTGT.out, targetP_alone])
    have HML : Hid ((meantP ss s x.name).length < 1000) := Lib.hid (by have := meantP_short HV.out s x.name; omega)
    generalize (w.alloc (.cells #[.int .i64 (s : Int), .int .i64 (j : Int)] 34)).drew = W at hW0 HL2 ⊢
    have HRP2 : Hid (Row W w.heap.size 34 [.int .i64 (s : Int), .int .i64 (j : Int)]) := Lib.hid hW0
    have HLd := Lib.hid (HL2.out.step ((Below.refl _ _).drew))
    have p0 := HRP2.out.cell (i := 0) (by rfl)
    have p1 := HRP2.out.cell (i := 1) (by rfl)
    have l0 := HL2.out.look.box.cell (i := 0) (by rfl)
    have C := Lib.hid (meantBy_any HV.out HLd.out.look HSX.out.1 HSX.out.2 HT.out)
    clear hW0
    go_wp2
    go_cut [7] (fun s7 wx => s7 = .int .i64 (tgt ss (s, j)) ∧ Left w wx B L M T M1 M2 v ds ss ∧ Row wx w.heap.size 34 [.int .i64 (s : Int), .int .i64 (j : Int)])
    case first =>
      go_region_held3 (fun w' => w'.cell? ⟨L, 0, none⟩ = some (.pointer (some ⟨T, 0, none⟩)) ∧ w'.cell? ⟨w.heap.size, 0, none⟩ = some (.int .i64 (s : Int)) ∧ w'.cell? ⟨w.heap.size, 1, none⟩ = some (.int .i64 (j : Int)))
        (first | exact ⟨l0, p0, p1⟩ | exact ⟨cell_drew l0, cell_drew p0, cell_drew p1⟩ | exact ⟨hl4.look.box.cell (i := 0) (by rfl), hp4.cell (i := 0) (by rfl), hp4.cell (i := 1) (by rfl)⟩ | exact ⟨cell_grow hb5 (hl4.look.box.cell (i := 0) (by rfl)), cell_grow hb5 (hp4.cell (i := 0) (by rfl)), cell_grow hb5 (hp4.cell (i := 1) (by rfl))⟩)
        (first | (go_at_call 135; refine C.out.mono ?_; rintro e w4 ⟨u4, rfl, hr4, hl4⟩; obtain ⟨o4, c4, rfl, harg4⟩ := argPlaces_of_owns hr4; have hp4 : Row w4 w.heap.size 34 [.int .i64 (s : Int), .int .i64 (j : Int)] := (hl4.turns.cellsM HLd.out.look.memo).block _ _ _ _ (by exact HRP2.out.lt) (by exact HRP2.out)) | (go_at_call 130; refine (moduleAlone_any HV.out hl4.look.tree HML.out (fun p hp => meant_isPlace p hp) harg4).mono ?_; rintro e w5 ⟨rfl, hb5⟩))
      all_goals go_wp2
      all_goals go_meet
      all_goals exact ⟨by rw [HTA.out], HLd.out.trans (hl4.step hb5), hp4.below hb5 hp4.lt⟩
    case rest =>
      obtain ⟨rfl, hl, hrow⟩ := hcut
      obtain ⟨w5, hrun5, hmemo5, hgrow5⟩ := memo_put HV.out (hl.look.below ((Below.refl _ _).drew)).memo HQ.out (z := tgt ss (s, j)) rfl
      dsimp only at hrun5
      have l5 := cell_drew (hl.look.box.cell (i := 1) (by rfl))
      have p5 := cell_drew (hrow.cell (i := 0) (by rfl))
      have p6 := cell_drew (hrow.cell (i := 1) (by rfl))
      have HL5 : Hid (Left w w5 B L M T M1 M2 v ds ss) := Lib.hid (by
        have h1 := hl.step ((Below.refl _ _).drew)
        have ht := Turns.of_grown (M1 := M) (M2 := M) hgrow5 (.inl rfl)
        exact ⟨h1.look.turned ht hmemo5, h1.turns.trans ht⟩)
      clear hmemo5 hgrow5 hl hrow p0 p1 l0
      go_wp2
      go_region
      all_goals go_wp2
      all_goals go_ret
      all_goals exact ⟨rfl, HL5.out⟩
theorem target_any {ss : List Sc} (hv : Valid ss) {B L M T M1 M2 : Nat} {v : Value} {ds : List Nd} (s : Nat) : TargetC B L M T M1 M2 v ds ss s := by
  induction s using Nat.strongRecOn with
  | _ s ih => exact target_step hv ih
end Go.Proofs.YtadpgoiiopfnnaaDoor
