/-
  Names exchanged for others so that different ones stay different: all items mean the same. Plain facts. Renamings taken back; when nothing changes, those that use a declaration are those that used it; a renaming to the own name is none. Plain facts. A declaration whose name only those have that mean it alone can have each name that no item has: nothing changes then. Plain facts. Namings as plain data: which declaration an item means alone, the names that a naming gives, and that all items mean the same with them exactly if two tables are the same. Plain facts. The letters of a text, each once and in order, and how many they are; the text of the names of declarations. Plain facts. Items that mean nothing get a name that no declaration has: all items mean the same then. And a graph that is named by its own names. Plain facts. A graph that has the names of a naming has these as its own names. Plain facts.
-/
import Derived.Test.YtdmaaneilfjfcaaDoorJD
import Derived.Test.YtdmaaneilfjfcaaDoorJEZ
import Derived.Test.YtdmaaneilfjfcaaDoorMeanDZ
import Derived.Test.YtdmaaneilfjfcaaDoorWRenSZ
import Derived.Test.YtdmaaneilfjfcaaDoorWShapeZ
import Derived.Test.YtdmaaneilfjfcaaDoorJA
import Derived.Test.YtdmaaneilfjfcaaDoorWSpecItemsZ
namespace Go.Proofs.YtdmaaneilfjfcaaDoor
open Go Go.RowKit
def nameIs (φ : ByteArray → ByteArray) : NameF := fun _ _ n => φ n
def mapIt (φ : ByteArray → ByteArray) (x : It) : It := ⟨x.kind, φ x.name, x.scope⟩
/-- A name of an item. -/
def NameOf (ss : List Sc) (nm : ByteArray) : Prop := ∃ q ∈ placed 0 ss, q.2.2.name = nm
/-- Different names stay different. -/
structure Inj (ss : List Sc) (φ : ByteArray → ByteArray) : Prop where
  valid : Valid ss
  good : Valid (renP ss (nameIs φ))
  inj : ∀ n m, NameOf ss n → NameOf ss m → φ n = φ m → n = m
theorem mapIdx_map {α β : Type} (g : α → β) (l : List α) : l.mapIdx (fun _ x => g x) = l.map g := by
  refine List.ext_getElem? fun i => ?_
  rw [List.getElem?_mapIdx, List.getElem?_map]
theorem bytes_self {a b : ByteArray} : (a.toList == b.toList) = true ↔ a = b := ⟨nameM_bytes, fun h => by rw [h]; simp⟩
section
variable {ss : List Sc} {φ : ByteArray → ByteArray}
theorem Inj.items (_ : Inj ss φ) (s : Nat) : itemsP (renP ss (nameIs φ)) s = (itemsP ss s).map (mapIt φ) := by
  unfold itemsP
  rw [renP_get]
  cases hs : ss[s]? with
  | none => rfl
  | some c =>
    simp only [Option.map_some, Option.getD_some]
    unfold renSc
    dsimp only
    exact mapIdx_map (mapIt φ) c.items
theorem name_in {s j : Nat} {x : It} (h : (itemsP ss s)[j]? = some x) : NameOf ss x.name := by
  unfold itemsP at h
  cases hs : ss[s]? with
  | none => rw [hs] at h; simp at h
  | some c =>
    rw [hs] at h
    exact ⟨(s, j, x), placed_of hs (by simpa using h), rfl⟩
theorem Inj.isOwn (h : Inj ss φ) {nm : ByteArray} (hn : NameOf ss nm) {x : It} (hx : NameOf ss x.name) : isOwn (φ nm) (mapIt φ x) = Go.Proofs.YtdmaaneilfjfcaaDoor.isOwn nm x := by
  unfold Go.Proofs.YtdmaaneilfjfcaaDoor.isOwn mapIt
  dsimp only
  congr 1
  rw [Bool.eq_iff_iff, bytes_self, bytes_self]
  exact ⟨fun e => h.inj _ _ hx hn e, fun e => by rw [e]⟩
theorem Inj.own (h : Inj ss φ) {nm : ByteArray} (hn : NameOf ss nm) (s : Nat) : ownP (renP ss (nameIs φ)) s (φ nm) = ownP ss s nm := by
  unfold ownP
  rw [h.items, List.length_map]
  have e : ∀ k, ownUp ((itemsP ss s).map (mapIt φ)) s (φ nm) k = ownUp (itemsP ss s) s nm k := by
    intro k
    induction k with
    | zero => rfl
    | succ k ih =>
      show ownUp ((itemsP ss s).map (mapIt φ)) s (φ nm) k ++ _ = ownUp (itemsP ss s) s nm k ++ _
      rw [ih, List.getElem?_map]
      cases hx : (itemsP ss s)[k]? with
      | none => rfl
      | some x =>
        simp only [Option.map_some]
        rw [h.isOwn hn (name_in hx)]
  exact e _
theorem Inj.from (h : Inj ss φ) {nm : ByteArray} (hn : NameOf ss nm) (l : List Nat) : fromP (renP ss (nameIs φ)) l (φ nm) = fromP ss l nm := by
  unfold fromP
  congr 1
  funext k
  exact h.own hn k
theorem Inj.look (h : Inj ss φ) {nm : ByteArray} (hn : NameOf ss nm) (imps : Nat → List Nat) : ∀ l : List Nat, lookF (renP ss (nameIs φ)) imps (φ nm) l = lookF ss imps nm l
  | [] => rfl
  | m :: r => by
    have ih := h.look hn imps r
    unfold lookF
    rw [h.own hn, h.from hn, ih]
theorem Inj.par (_ : Inj ss φ) (s : Nat) : parP (renP ss (nameIs φ)) s = parP ss s := by
  unfold parP
  rw [renP_get]
  cases ss[s]? <;> rfl
theorem Inj.chainN (h : Inj ss φ) : ∀ (n s : Nat), chainN (renP ss (nameIs φ)) n s = Go.Proofs.YtdmaaneilfjfcaaDoor.chainN ss n s
  | 0, _ => rfl
  | n + 1, s => by
    unfold Go.Proofs.YtdmaaneilfjfcaaDoor.chainN
    rw [h.par]
    cases parP ss s with
    | none => rfl
    | some p => dsimp only; rw [h.chainN n p]
theorem Inj.chain (h : Inj ss φ) (s : Nat) : chainP (renP ss (nameIs φ)) s = chainP ss s := h.chainN _ _
theorem Inj.meant (h : Inj ss φ) {nm : ByteArray} (hn : NameOf ss nm) (imps : Nat → List Nat) (s : Nat) : meantF (renP ss (nameIs φ)) imps s (φ nm) = meantF ss imps s nm := by
  unfold meantF
  rw [h.own hn, h.par]
  split
  · cases parP ss s with
    | none => rfl
    | some p => dsimp only; rw [h.chain, h.look hn]
  · rfl
theorem Inj.scopeAt (_ : Inj ss φ) (p : Int × Int) : scopeAt (renP ss (nameIs φ)) p = Go.Proofs.YtdmaaneilfjfcaaDoor.scopeAt ss p := by
  unfold Go.Proofs.YtdmaaneilfjfcaaDoor.scopeAt
  have e : ∀ (q : It), ((itemAtP ss p.1 p.2).map (mapIt φ)).getD q = ((itemAtP ss p.1 p.2).map (mapIt φ)).getD q := fun _ => rfl
  have h1 : itemAtP (renP ss (nameIs φ)) p.1 p.2 = (itemAtP ss p.1 p.2).map (mapIt φ) := by
    unfold itemAtP
    split
    · rw [renP_get]
      cases ss[p.1.toNat]? with
      | none => rfl
      | some c =>
        simp only [Option.map_some]
        show (renSc _ _ c).items[_]? = _
        rw [renSc_get]
        rfl
    · rfl
  rw [h1]
  cases itemAtP ss p.1 p.2 <;> rfl
theorem Inj.target (h : Inj ss φ) {nm : ByteArray} (hn : NameOf ss nm) (imps : Nat → List Nat) (s : Nat) : targetF (renP ss (nameIs φ)) imps s (φ nm) = targetF ss imps s nm := by
  unfold targetF
  rw [h.meant hn]
  cases meantF ss imps s nm with
  | nil => rfl
  | cons p r =>
    cases r with
    | cons p2 r2 => rfl
    | nil => exact h.scopeAt p
theorem Inj.impF (h : Inj ss φ) (imps : Nat → List Nat) (s : Nat) : impF (renP ss (nameIs φ)) imps s = Go.Proofs.YtdmaaneilfjfcaaDoor.impF ss imps s := by
  unfold Go.Proofs.YtdmaaneilfjfcaaDoor.impF impUp
  rw [List.take_length, List.take_length, h.items]
  have e : ∀ (l : List It) (z : List Nat), (∀ x ∈ l, NameOf ss x.name) → (l.map (mapIt φ)).foldl (impStep (renP ss (nameIs φ)) imps s) z = l.foldl (impStep ss imps s) z := by
    intro l
    induction l with
    | nil => intro z _; rfl
    | cons x r ih =>
      intro z hl
      rw [List.map_cons, List.foldl_cons, List.foldl_cons]
      have h1 : impStep (renP ss (nameIs φ)) imps s z (mapIt φ x) = impStep ss imps s z x := by
        unfold impStep mapIt
        dsimp only
        rw [h.target (hl x List.mem_cons_self)]
      rw [h1]
      exact ih _ fun y hy => hl y (List.mem_cons_of_mem _ hy)
  refine e _ _ fun x hx => ?_
  obtain ⟨j, hj⟩ := List.getElem?_of_mem hx
  exact name_in hj
theorem Inj.imp (h : Inj ss φ) (s : Nat) : impP (renP ss (nameIs φ)) s = impP ss s := by
  induction s using Nat.strongRecOn with
  | _ s ih =>
    rw [impP_eq h.good.climbs, impF_congr h.good.climbs (g := impP ss) (fun m hm => ih m hm), h.impF, ← impP_eq h.valid.climbs]
theorem Inj.mean (h : Inj ss φ) {i j : Nat} {x : It} (hq : (i, j, x) ∈ placed 0 ss) : meanIt (renP ss (nameIs φ)) (i, j, mapIt φ x) = meanIt ss (i, j, x) := by
  have hn : NameOf ss x.name := ⟨_, hq, rfl⟩
  have hi : impP (renP ss (nameIs φ)) = impP ss := funext h.imp
  unfold meanIt lookP meantP mapIt
  dsimp only
  rw [hi, h.chain, h.look hn, h.meant hn]
/-- Nothing changes. -/
theorem Inj.same (h : Inj ss φ) : chgA ss (renP ss (nameIs φ)) = [] := by
  unfold chgA filtL
  rw [List.map_eq_nil_iff, List.filter_eq_nil_iff]
  rintro ⟨i, j, x⟩ hq
  have h1 := meanAt_of (placed_ren (f := nameIs φ) hq)
  dsimp only at h1 ⊢
  rw [h1, show renIt (nameIs φ) i j x = mapIt φ x from rfl, h.mean hq]
  simp
end
end Go.Proofs.YtdmaaneilfjfcaaDoor
namespace Go.Proofs.YtdmaaneilfjfcaaDoor
open Go Go.RowKit
end Go.Proofs.YtdmaaneilfjfcaaDoor
namespace Go.Proofs.YtdmaaneilfjfcaaDoor
open Go Go.RowKit
end Go.Proofs.YtdmaaneilfjfcaaDoor
namespace Go.Proofs.YtdmaaneilfjfcaaDoor
open Go Go.RowKit
/-- Where a place stands last among the first k of a list, or -1. -/
def posUp (D : List (Int × Int)) (p : Int × Int) : Nat → Int
  | 0 => -1
  | k + 1 => if D[k]? = some p then (k : Int) else posUp D p k
def posOf (D : List (Int × Int)) (p : Int × Int) : Int := posUp D p D.length
theorem posUp_range (D : List (Int × Int)) (p : Int × Int) : ∀ k : Nat, -1 ≤ posUp D p k ∧ posUp D p k < (k : Int)
  | 0 => by unfold posUp; omega
  | k + 1 => by
    have ih := posUp_range D p k
    unfold posUp
    split <;> omega
theorem posOf_range (D : List (Int × Int)) (p : Int × Int) : -1 ≤ posOf D p ∧ posOf D p < (D.length : Int) := posUp_range D p _
/-- Which place of a list is meant alone, or -1. -/
def boundK (D l : List (Int × Int)) : Int := match l with
  | [p] => posOf D p
  | _ => -1
theorem boundK_range (D l : List (Int × Int)) : -1 ≤ boundK D l ∧ boundK D l < (D.length : Int) := by
  unfold boundK
  split
  · exact posOf_range D _
  · omega
/-- No item means several declarations. -/
def Clear (ss : List Sc) : Prop := ∀ q ∈ placed 0 ss, (meanIt ss q).length ≤ 1
/-- A letter from a to y for each of a number of declarations. -/
def Naming (names : ByteArray) (n : Nat) : Prop := names.size = n ∧ ∀ b ∈ names.data.toList, 97 ≤ b.toNat ∧ b.toNat ≤ 121
/-- The name by its number; z for none. -/
def nmK (names : ByteArray) (k : Int) : ByteArray := if k < 0 then ⟨#[122]⟩ else ⟨#[(names.data.toList[k.toNat]?).getD 122]⟩
/-- The declarations of a graph. -/
def dclP (ss : List Sc) : List (Int × Int) := plsP ss 1
/-- The renaming to a naming's letters. -/
def nmgF (ss : List Sc) (names : ByteArray) : NameF := fun i j _ => nmK names (boundK (dclP ss) (meanAt ss (i : Int) (j : Int)))
def nmgG (ss : List Sc) (names : ByteArray) : List Sc := renP ss (nmgF ss names)
def nmgOk (ss : List Sc) (names : ByteArray) : Prop := (Valid ss ∧ Clear ss) ∧ Naming names (dclP ss).length
theorem nmK_letter {names : ByteArray} {n : Nat} (h : Naming names n) {k : Int} (hk : k < (n : Int)) : ∃ b : UInt8, nmK names k = ⟨#[b]⟩ ∧ 97 ≤ b.toNat ∧ b.toNat ≤ 122 := by
  unfold nmK
  split
  · exact ⟨122, rfl, by decide, by decide⟩
  · have hsz : names.data.toList.length = n := by rw [Array.length_toList]; exact h.1
    have hlt : k.toNat < names.data.toList.length := by omega
    refine ⟨_, rfl, ?_⟩
    rw [List.getElem?_eq_getElem hlt, Option.getD_some]
    have := h.2 _ (List.getElem_mem hlt)
    omega
theorem nameB_byte {b : UInt8} (h1 : 97 ≤ b.toNat) (h2 : b.toNat ≤ 122) : nameB ⟨#[b]⟩ = true := by
  unfold nameB inB
  simp
  omega
theorem nmgOk.letter {ss : List Sc} {names : ByteArray} (h : nmgOk ss names) (i j : Nat) (nm : ByteArray) : ∃ b : UInt8, nmgF ss names i j nm = ⟨#[b]⟩ ∧ 97 ≤ b.toNat ∧ b.toNat ≤ 122 :=
  nmK_letter h.2 (boundK_range _ _).2
theorem nmgOk.valid {ss : List Sc} {names : ByteArray} (h : nmgOk ss names) : Valid (nmgG ss names) :=
  h.1.1.ren fun i j x _ => by
    obtain ⟨b, hb, h1, h2⟩ := h.letter i j x.name
    rw [hb]
    exact nameB_byte h1 h2
theorem nmgOk.size {ss : List Sc} {names : ByteArray} (h : nmgOk ss names) (i j : Nat) (nm : ByteArray) : (nmgF ss names i j nm).size ≤ 2 ^ 63 - 1 := by
  obtain ⟨b, hb, -, -⟩ := h.letter i j nm
  rw [hb]
  show 1 ≤ 2 ^ 63 - 1
  decide
end Go.Proofs.YtdmaaneilfjfcaaDoor
namespace Go.Proofs.YtdmaaneilfjfcaaDoor
open Go Go.RowKit
/-- A text by its bytes. -/
def bT (l : List UInt8) : ByteArray := ⟨l.toArray⟩
theorem bT_data (l : List UInt8) : (bT l).data.toList = l := by simp [bT]
theorem bT_size (l : List UInt8) : (bT l).size = l.length := by simp [bT, ByteArray.size]
theorem bT_append (l : List UInt8) (x : ByteArray) : bT l ++ x = bT (l ++ x.data.toList) := by
  apply ByteArray.ext; apply Array.toList_inj.1
  simp [ByteArray.data_append, bT]
def ltr (k : Nat) : UInt8 := UInt8.ofNat (97 + k)
theorem ltr_nat {k : Nat} (hk : k < 26) : (ltr k).toNat = 97 + k := by
  unfold ltr
  rw [UInt8.toNat_ofNat']
  omega
/-- Those of the first k letters that are in a text. -/
def ltrUp (S : List UInt8) : Nat → List UInt8
  | 0 => []
  | k + 1 => if ltr k ∈ S then ltrUp S k ++ [ltr k] else ltrUp S k
theorem ltrUp_le (S : List UInt8) : ∀ k, (ltrUp S k).length ≤ k
  | 0 => by simp [ltrUp]
  | k + 1 => by
    have ih := ltrUp_le S k
    unfold ltrUp
    split
    · rw [List.length_append, List.length_singleton]; omega
    · omega
theorem ltrUp_nil : ∀ k, ltrUp [] k = []
  | 0 => rfl
  | k + 1 => by unfold ltrUp; rw [if_neg (by simp), ltrUp_nil k]
theorem ltrUp_snoc (S : List UInt8) (b : UInt8) (hb : 97 ≤ b.toNat) : ∀ k, k ≤ 26 → (ltrUp (S ++ [b]) k).length = (ltrUp S k).length + if b ∉ S ∧ b.toNat < 97 + k then 1 else 0
  | 0, _ => by
    rw [if_neg (by omega)]
    rfl
  | k + 1, hk => by
    have ih := ltrUp_snoc S b hb k (by omega)
    have hl := ltr_nat (k := k) (by omega)
    unfold ltrUp
    by_cases h1 : ltr k ∈ S
    · rw [if_pos h1, if_pos (by simp [h1]), List.length_append, List.length_append, ih]
      by_cases h2 : b ∈ S
      · rw [if_neg (fun h => h.1 h2), if_neg (fun h => h.1 h2)]; rfl
      · have h3 : b ≠ ltr k := fun e => h2 (e ▸ h1)
        have h4 : b.toNat ≠ 97 + k := fun e => h3 (UInt8.toNat_inj.1 (by rw [hl, e]))
        by_cases h5 : b.toNat < 97 + k
        · rw [if_pos ⟨h2, h5⟩, if_pos ⟨h2, by omega⟩]; simp
        · rw [if_neg (fun h => h5 h.2), if_neg (fun h => by have := h.2; omega)]; rfl
    · by_cases h2 : b = ltr k
      · subst h2
        rw [if_neg h1, if_pos (by simp), List.length_append, ih, if_neg (fun h => by have := h.2; omega), if_pos ⟨h1, by omega⟩]
        simp
      · have h4 : b.toNat ≠ 97 + k := fun e => h2 (UInt8.toNat_inj.1 (by rw [hl, e]))
        rw [if_neg h1, if_neg (by simp [h1, Ne.symm h2]), ih]
        by_cases h3 : b ∈ S
        · rw [if_neg (fun h => h.1 h3), if_neg (fun h => h.1 h3)]
        · by_cases h5 : b.toNat < 97 + k
          · rw [if_pos ⟨h3, h5⟩, if_pos ⟨h3, by omega⟩]
          · rw [if_neg (fun h => h5 h.2), if_neg (fun h => by have := h.2; omega)]
/-- How many letters a text has. -/
def cntL (S : List UInt8) : Nat := (ltrUp S 26).length
theorem cntL_nil : cntL [] = 0 := by unfold cntL; rw [ltrUp_nil]; rfl
theorem cntL_snoc {S : List UInt8} {b : UInt8} (h1 : 97 ≤ b.toNat) (h2 : b.toNat ≤ 122) : cntL (S ++ [b]) = if b ∈ S then cntL S else cntL S + 1 := by
  unfold cntL
  rw [ltrUp_snoc S b h1 26 (by omega)]
  by_cases h : b ∈ S
  · rw [if_pos h, if_neg (fun k => k.1 h)]; rfl
  · rw [if_neg h, if_pos ⟨h, by omega⟩]
/-- The names of the declarations of a list, one after another. -/
def ownS (l : List (Nat × Nat × It)) : List UInt8 := l.flatMap fun q => if q.2.2.kind = 1 then q.2.2.name.data.toList else []
theorem ownS_snoc (l : List (Nat × Nat × It)) (q : Nat × Nat × It) : ownS (l ++ [q]) = ownS l ++ if q.2.2.kind = 1 then q.2.2.name.data.toList else [] := by
  unfold ownS
  rw [List.flatMap_append]
  simp
def ownT (ss : List Sc) : List UInt8 := ownS (placed 0 ss)
theorem name_byte {ss : List Sc} (hv : Valid ss) {q : Nat × Nat × It} (hq : q ∈ placed 0 ss) : ∃ b : UInt8, q.2.2.name.data.toList = [b] ∧ 97 ≤ b.toNat ∧ b.toNat ≤ 122 := by
  have h3 := hv.items
  rw [← placed_flat] at h3
  have h4 := (h3.1 (q.1, q.2.2) (List.mem_map_of_mem hq)).1
  unfold itemB nameB at h4
  simp only [Bool.and_eq_true] at h4
  have h5 := h4.1.1
  split at h5
  · rename_i b hb
    refine ⟨b, hb, ?_⟩
    unfold inB at h5
    simp only [Bool.and_eq_true, decide_eq_true_eq] at h5
    omega
  · cases h5
theorem ownS_length {ss : List Sc} (hv : Valid ss) : ∀ l : List (Nat × Nat × It), (∀ q ∈ l, q ∈ placed 0 ss) → (ownS l).length = (plsOf 1 l).length
  | [], _ => rfl
  | q :: r, h => by
    have ih := ownS_length hv r fun p hp => h p (List.mem_cons_of_mem _ hp)
    obtain ⟨b, hb, -, -⟩ := name_byte hv (h q List.mem_cons_self)
    have e1 : ownS (q :: r) = (if q.2.2.kind = 1 then q.2.2.name.data.toList else []) ++ ownS r := by simp [ownS]
    have e2 : plsOf 1 (q :: r) = (if q.2.2.kind = 1 then [((q.1 : Int), (q.2.1 : Int))] else []) ++ plsOf 1 r := by
      unfold plsOf
      rw [List.filter_cons]
      by_cases hk : q.2.2.kind = 1
      · rw [if_pos hk, if_pos (by simpa using hk)]; rfl
      · rw [if_neg hk, if_neg (by simpa using hk)]; rfl
    rw [e1, e2, List.length_append, List.length_append, ih, hb]
    split <;> rfl
theorem ownT_length {ss : List Sc} (hv : Valid ss) : (ownT ss).length = (dclP ss).length := ownS_length hv _ fun _ h => h
theorem ownS_bytes {ss : List Sc} (hv : Valid ss) {l : List (Nat × Nat × It)} (hl : ∀ q ∈ l, q ∈ placed 0 ss) : ∀ b ∈ ownS l, 97 ≤ b.toNat ∧ b.toNat ≤ 122 := by
  intro b hb
  unfold ownS at hb
  obtain ⟨q, hq, hm⟩ := List.mem_flatMap.1 hb
  obtain ⟨c, hc, h1, h2⟩ := name_byte hv (hl q hq)
  split at hm
  · rw [hc, List.mem_singleton] at hm
    subst hm
    exact ⟨h1, h2⟩
  · cases hm
/-- The names of the declarations at the first places of a list. -/
def ownU (ss : List Sc) (D : List (Int × Int)) : List UInt8 := D.flatMap fun p => match itemAtP ss p.1 p.2 with
  | some x => x.name.data.toList
  | none => []
theorem ownU_snoc (ss : List Sc) (D : List (Int × Int)) (p : Int × Int) {x : It} (hx : itemAtP ss p.1 p.2 = some x) : ownU ss (D ++ [p]) = ownU ss D ++ x.name.data.toList := by
  unfold ownU
  rw [List.flatMap_append]
  simp [hx]
theorem ownU_all (ss : List Sc) : ownU ss (dclP ss) = ownT ss := by
  have e : ∀ l : List (Nat × Nat × It), (∀ q ∈ l, q ∈ placed 0 ss) → ownU ss (plsOf 1 l) = ownS l := by
    intro l
    induction l with
    | nil => intro _; rfl
    | cons q r ih =>
      intro h
      have h1 := ih fun p hp => h p (List.mem_cons_of_mem _ hp)
      have h2 := placed_item (h q List.mem_cons_self)
      have e1 : ownS (q :: r) = (if q.2.2.kind = 1 then q.2.2.name.data.toList else []) ++ ownS r := by simp [ownS]
      rw [e1, ← h1]
      unfold plsOf
      rw [List.filter_cons]
      by_cases hk : q.2.2.kind = 1
      · rw [if_pos (by simpa using hk), if_pos hk, List.map_cons]
        show (match itemAtP ss (q.1 : Int) (q.2.1 : Int) with | some x => x.name.data.toList | none => []) ++ _ = _
        rw [h2]
        rfl
      · rw [if_neg (by simpa using hk), if_neg hk]; rfl
  exact e _ fun _ h => h
/-- What OwnNames answers. -/
def ownR (ss : List Sc) (T : ByteArray) (ok : Bool) : Prop := (¬ Valid ss ∧ T = ⟨#[]⟩ ∧ ok = false) ∨ (Valid ss ∧ T = bT (ownT ss) ∧ ok = true)
theorem ownR.same {ss : List Sc} {T T' : ByteArray} {ok ok' : Bool} (h : ownR ss T ok) (k : ownR ss T' ok') : T = T' ∧ ok = ok' := by
  rcases h with ⟨h1, rfl, rfl⟩ | ⟨h1, rfl, rfl⟩
  · rcases k with ⟨_, rfl, rfl⟩ | ⟨k1, _⟩
    · exact ⟨rfl, rfl⟩
    · exact absurd k1 h1
  · rcases k with ⟨k1, _⟩ | ⟨_, rfl, rfl⟩
    · exact absurd h1 k1
    · exact ⟨rfl, rfl⟩
def cntR (ss : List Sc) (n : Int) : Prop := (¬ Valid ss ∧ n = -1) ∨ (Valid ss ∧ n = (cntL (ownT ss) : Int))
theorem cntR.same {ss : List Sc} {n m : Int} (h : cntR ss n) (k : cntR ss m) : n = m := by
  rcases h with ⟨h1, rfl⟩ | ⟨h1, rfl⟩
  · rcases k with ⟨_, rfl⟩ | ⟨k1, _⟩
    · rfl
    · exact absurd k1 h1
  · rcases k with ⟨k1, _⟩ | ⟨_, rfl⟩
    · exact absurd h1 k1
    · rfl
def frsR (ss : List Sc) (b : Bool) : Prop := (¬ Valid ss ∧ b = false) ∨ (Valid ss ∧ b = decide (cntL (ownT ss) = (ownT ss).length))
theorem frsR.same {ss : List Sc} {b c : Bool} (h : frsR ss b) (k : frsR ss c) : b = c := by
  rcases h with ⟨h1, rfl⟩ | ⟨h1, rfl⟩
  · rcases k with ⟨_, rfl⟩ | ⟨k1, _⟩
    · rfl
    · exact absurd k1 h1
  · rcases k with ⟨k1, _⟩ | ⟨_, rfl⟩
    · exact absurd h1 k1
    · rfl
theorem own_small {ss : List Sc} (hv : Valid ss) : (ownT ss).length ≤ 30 := by
  have h1 := plsOf_length 1 (placed 0 ss)
  have h2 := placed_bound 0 ss 6 5 hv.count.2 hv.five
  have h3 := ownT_length hv
  unfold dclP plsP at h3
  omega
end Go.Proofs.YtdmaaneilfjfcaaDoor
namespace Go.Proofs.YtdmaaneilfjfcaaDoor
open Go Go.RowKit
/-- An item keeps its name, or it means nothing, and no declaration has the new one. -/
structure MisZ (ss : List Sc) (f : NameF) : Prop where
  valid : Valid ss
  good : Valid (renP ss f)
  free : ∀ q ∈ placed 0 ss, f q.1 q.2.1 q.2.2.name = q.2.2.name ∨ (q.2.2.kind ≠ 1 ∧ meanIt ss q = [] ∧ ∀ p ∈ placed 0 ss, p.2.2.kind = 1 → p.2.2.name ≠ f q.1 q.2.1 q.2.2.name)
theorem item_at {ss : List Sc} {s j : Nat} {x : It} (h : (itemsP ss s)[j]? = some x) : (s, j, x) ∈ placed 0 ss := by
  unfold itemsP at h
  cases hs : ss[s]? with
  | none => rw [hs] at h; simp at h
  | some c =>
    rw [hs] at h
    exact placed_of hs (by simpa using h)
theorem items_renP (ss : List Sc) (f : NameF) (s : Nat) : itemsP (renP ss f) s = (itemsP ss s).mapIdx (renIt f s) := by
  unfold itemsP
  rw [renP_get]
  cases ss[s]? <;> rfl
theorem fold_mapIdx {α β : Type} {g : Nat → α → α} {step step' : β → α → β} : ∀ (l : List α) (k : Nat) (z : β), (∀ j x z, l[j]? = some x → step' z (g (k + j) x) = step z x) → (l.mapIdx fun i x => g (k + i) x).foldl step' z = l.foldl step z
  | [], _, _, _ => rfl
  | x :: r, k, z, h => by
    rw [List.mapIdx_cons, List.foldl_cons, List.foldl_cons, h 0 x z rfl]
    have ih := fold_mapIdx (g := g) (step := step) (step' := step') r (k + 1) (step z x) fun j y w hj => by
      rw [show k + 1 + j = k + (j + 1) by omega]
      exact h (j + 1) y w hj
    rw [show (fun (i : Nat) (x : α) => g (k + 1 + i) x) = fun i x => g (k + (i + 1)) x from by funext i x; rw [show k + 1 + i = k + (i + 1) by omega]] at ih
    exact ih
section
variable {ss : List Sc} {f : NameF}
theorem MisZ.isOwn (h : MisZ ss f) {s j : Nat} {x : It} (hx : (itemsP ss s)[j]? = some x) (nm : ByteArray) : isOwn nm (renIt f s j x) = Go.Proofs.YtdmaaneilfjfcaaDoor.isOwn nm x := by
  unfold Go.Proofs.YtdmaaneilfjfcaaDoor.isOwn renIt
  dsimp only
  rcases h.free _ (item_at hx) with e | ⟨e, -, -⟩
  · rw [show f s j x.name = x.name from e]
  · have : (x.kind == 1) = false := by simpa using e
    rw [this]; rfl
theorem MisZ.own (h : MisZ ss f) (s : Nat) (nm : ByteArray) : ownP (renP ss f) s nm = ownP ss s nm := by
  unfold ownP
  rw [items_renP, List.length_mapIdx]
  have e : ∀ k, ownUp ((itemsP ss s).mapIdx (renIt f s)) s nm k = ownUp (itemsP ss s) s nm k := by
    intro k
    induction k with
    | zero => rfl
    | succ k ih =>
      show ownUp ((itemsP ss s).mapIdx (renIt f s)) s nm k ++ _ = ownUp (itemsP ss s) s nm k ++ _
      rw [ih, List.getElem?_mapIdx]
      cases hx : (itemsP ss s)[k]? with
      | none => rfl
      | some x =>
        simp only [Option.map_some]
        rw [h.isOwn hx]
  exact e _
theorem MisZ.from (h : MisZ ss f) (l : List Nat) (nm : ByteArray) : fromP (renP ss f) l nm = fromP ss l nm := by
  unfold fromP
  congr 1
  funext k
  exact h.own k nm
theorem MisZ.look (h : MisZ ss f) (imps : Nat → List Nat) (nm : ByteArray) : ∀ l : List Nat, lookF (renP ss f) imps nm l = lookF ss imps nm l
  | [] => rfl
  | m :: r => by
    have ih := h.look imps nm r
    unfold lookF
    rw [h.own, h.from, ih]
theorem ren_par (ss : List Sc) (f : NameF) (s : Nat) : parP (renP ss f) s = parP ss s := by
  unfold parP
  rw [renP_get]
  cases ss[s]? <;> rfl
theorem ren_chainN (ss : List Sc) (f : NameF) : ∀ (n s : Nat), chainN (renP ss f) n s = chainN ss n s
  | 0, _ => rfl
  | n + 1, s => by
    unfold chainN
    rw [ren_par]
    cases parP ss s with
    | none => rfl
    | some p => dsimp only; rw [ren_chainN ss f n p]
theorem ren_chain (ss : List Sc) (f : NameF) (s : Nat) : chainP (renP ss f) s = chainP ss s := ren_chainN ss f _ _
theorem ren_itemAt (ss : List Sc) (f : NameF) (p : Int × Int) : itemAtP (renP ss f) p.1 p.2 = (itemAtP ss p.1 p.2).map (renIt f p.1.toNat p.2.toNat) := by
  unfold itemAtP
  split
  · rw [renP_get]
    cases ss[p.1.toNat]? with
    | none => rfl
    | some c =>
      simp only [Option.map_some]
      show (renSc _ _ c).items[_]? = _
      rw [renSc_get]
      rfl
  · rfl
theorem ren_scopeAt (ss : List Sc) (f : NameF) (p : Int × Int) : scopeAt (renP ss f) p = scopeAt ss p := by
  unfold scopeAt
  rw [ren_itemAt]
  cases itemAtP ss p.1 p.2 <;> rfl
theorem MisZ.meant (h : MisZ ss f) (imps : Nat → List Nat) (s : Nat) (nm : ByteArray) : meantF (renP ss f) imps s nm = meantF ss imps s nm := by
  unfold meantF
  rw [h.own, ren_par]
  split
  · cases parP ss s with
    | none => rfl
    | some p => dsimp only; rw [ren_chain, h.look]
  · rfl
theorem MisZ.target (h : MisZ ss f) (imps : Nat → List Nat) (s : Nat) (nm : ByteArray) : targetF (renP ss f) imps s nm = targetF ss imps s nm := by
  unfold targetF
  rw [h.meant]
  cases meantF ss imps s nm with
  | nil => rfl
  | cons p r =>
    cases r with
    | cons p2 r2 => rfl
    | nil => exact ren_scopeAt ss f p
/-- A name that no declaration has means nothing. -/
theorem none_named {ss : List Sc} {nm : ByteArray} (h : ∀ p ∈ placed 0 ss, p.2.2.kind = 1 → p.2.2.name ≠ nm) (s : Nat) : meantP ss s nm = [] ∧ (lookP ss s nm).places = [] := by
  have e : ∀ p : Int × Int, ¬ ∃ x, itemAtP ss p.1 p.2 = some x ∧ x.kind = 1 ∧ x.name = nm := by
    rintro ⟨a, b⟩ ⟨x, hx, hk, hn⟩
    obtain ⟨c, d, -, -, hq⟩ := item_placed hx
    exact h _ hq hk hn
  constructor
  · exact List.eq_nil_iff_forall_not_mem.2 fun p hp => e p (meant_declM hp)
  · exact List.eq_nil_iff_forall_not_mem.2 fun p hp => e p (look_declM p hp)
theorem MisZ.impF (h : MisZ ss f) (s : Nat) : impF (renP ss f) (impP ss) s = Go.Proofs.YtdmaaneilfjfcaaDoor.impF ss (impP ss) s := by
  unfold Go.Proofs.YtdmaaneilfjfcaaDoor.impF impUp
  rw [List.take_length, List.take_length, items_renP]
  have e := fold_mapIdx (g := renIt f s) (step := impStep ss (impP ss) s) (step' := impStep (renP ss f) (impP ss) s) (itemsP ss s) 0 [] fun j x z hx => by
    rw [Nat.zero_add]
    unfold impStep
    show (if x.kind = 3 then _ else _) = _
    by_cases h3 : x.kind = 3
    · rw [if_pos h3, if_pos h3, h.target]
      rcases h.free _ (item_at hx) with e | ⟨-, e1, e2⟩
      · rw [show (renIt f s j x).name = x.name from e]
      · have m1 : targetF ss (impP ss) s (renIt f s j x).name = -1 := by
          have := (none_named e2 s).1
          unfold meantP at this
          unfold targetF
          rw [show (renIt f s j x).name = f s j x.name from rfl, this]
        have m2 : targetF ss (impP ss) s x.name = -1 := by
          have h5 : meantP ss s x.name = [] := by
            unfold meanIt at e1
            dsimp only at e1
            rw [if_neg (by omega), if_pos h3] at e1
            exact e1
          unfold meantP at h5
          unfold targetF
          rw [h5]
        rw [m1, m2]
    · rw [if_neg h3, if_neg h3]
  rw [show (fun (i : Nat) (x : It) => renIt f s (0 + i) x) = renIt f s from by funext i x; rw [Nat.zero_add]] at e
  exact e
theorem MisZ.imp (h : MisZ ss f) (s : Nat) : impP (renP ss f) s = impP ss s := by
  induction s using Nat.strongRecOn with
  | _ s ih => rw [impP_eq h.good.climbs, impF_congr h.good.climbs (g := impP ss) (fun m hm => ih m hm), h.impF, ← impP_eq h.valid.climbs]
theorem MisZ.mean (h : MisZ ss f) {i j : Nat} {x : It} (hq : (i, j, x) ∈ placed 0 ss) : meanIt (renP ss f) (i, j, renIt f i j x) = meanIt ss (i, j, x) := by
  have hi : impP (renP ss f) = impP ss := funext h.imp
  have hl : ∀ s nm, lookP (renP ss f) s nm = lookP ss s nm := fun s nm => by
    unfold lookP
    rw [hi, ren_chain, h.look]
  have hm : ∀ s nm, meantP (renP ss f) s nm = meantP ss s nm := fun s nm => by
    unfold meantP
    rw [hi, h.meant]
  rcases h.free _ hq with e | ⟨e0, e1, e2⟩
  · rw [show renIt f i j x = x from by unfold renIt; rw [show f i j x.name = x.name from e]]
    unfold meanIt
    dsimp only
    rw [hl, hm]
  · rw [e1]
    have hz := none_named e2 i
    unfold meanIt at e1 ⊢
    dsimp only at e1 e0 hz ⊢
    show (if x.kind = 2 then (lookP (renP ss f) i (f i j x.name)).places else if x.kind = 3 then meantP (renP ss f) i (f i j x.name) else _) = _
    rw [hl, hm, hz.1, hz.2]
    by_cases h2 : x.kind = 2
    · rw [if_pos h2]
    · rw [if_neg h2] at e1 ⊢
      by_cases h3 : x.kind = 3
      · rw [if_pos h3]
      · rw [if_neg h3] at e1; cases e1
/-- Nothing changes. -/
theorem MisZ.same (h : MisZ ss f) : chgA ss (renP ss f) = [] := by
  unfold chgA filtL
  rw [List.map_eq_nil_iff, List.filter_eq_nil_iff]
  rintro ⟨i, j, x⟩ hq
  have h1 := meanAt_of (placed_ren (f := f) hq)
  dsimp only at h1 ⊢
  rw [h1, h.mean hq]
  simp
end
/-- The k-th letter of the own names is the name of the k-th declaration. -/
theorem own_letter {ss : List Sc} (hv : Valid ss) : ∀ (l : List (Nat × Nat × It)), (∀ q ∈ l, q ∈ placed 0 ss) → ∀ (k : Nat) (p : Int × Int), (plsOf 1 l)[k]? = some p → ∃ (q : Nat × Nat × It) (b : UInt8), q ∈ l ∧ q.2.2.kind = 1 ∧ p = ((q.1 : Int), (q.2.1 : Int)) ∧ q.2.2.name.data.toList = [b] ∧ (ownS l)[k]? = some b
  | [], _, k, p, h => by simp [plsOf] at h
  | q :: r, hl, k, p, h => by
    have ih := own_letter hv r fun x hx => hl x (List.mem_cons_of_mem _ hx)
    obtain ⟨b, hb, -, -⟩ := name_byte hv (hl q List.mem_cons_self)
    have e1 : ownS (q :: r) = (if q.2.2.kind = 1 then q.2.2.name.data.toList else []) ++ ownS r := by simp [ownS]
    have e2 : plsOf 1 (q :: r) = (if q.2.2.kind = 1 then [((q.1 : Int), (q.2.1 : Int))] else []) ++ plsOf 1 r := by
      unfold plsOf
      rw [List.filter_cons]
      by_cases hk : q.2.2.kind = 1
      · rw [if_pos hk, if_pos (by simpa using hk)]; rfl
      · rw [if_neg hk, if_neg (by simpa using hk)]; rfl
    rw [e2] at h
    rw [e1]
    by_cases hk : q.2.2.kind = 1
    · rw [if_pos hk] at h
      rw [if_pos hk, hb]
      cases k with
      | zero =>
        simp at h
        exact ⟨q, b, List.mem_cons_self, hk, h.symm, hb, by simp⟩
      | succ k =>
        obtain ⟨q', b', h1, h2, h3, h4, h5⟩ := ih k p (by simpa using h)
        exact ⟨q', b', List.mem_cons_of_mem _ h1, h2, h3, h4, by simpa using h5⟩
    · rw [if_neg hk] at h
      rw [if_neg hk]
      obtain ⟨q', b', h1, h2, h3, h4, h5⟩ := ih k p (by simpa using h)
      exact ⟨q', b', List.mem_cons_of_mem _ h1, h2, h3, h4, by simpa using h5⟩
theorem bytes_of {a b : ByteArray} (h : a.data.toList = b.data.toList) : a = b := by
  obtain ⟨⟨a⟩⟩ := a
  obtain ⟨⟨b⟩⟩ := b
  have : a = b := h
  rw [this]
end Go.Proofs.YtdmaaneilfjfcaaDoor
namespace Go.Proofs.YtdmaaneilfjfcaaDoor
open Go Go.RowKit
theorem cntL_len : ∀ S : List UInt8, (∀ b ∈ S, 97 ≤ b.toNat ∧ b.toNat ≤ 122) → cntL S ≤ S.length := by
  have e : ∀ n (S : List UInt8), S.length = n → (∀ b ∈ S, 97 ≤ b.toNat ∧ b.toNat ≤ 122) → cntL S ≤ S.length := by
    intro n
    induction n with
    | zero => intro S hS _; rw [List.length_eq_zero_iff.1 hS, cntL_nil]; exact Nat.zero_le _
    | succ n ih =>
      intro S hS hb
      have hne : S ≠ [] := by rintro rfl; simp at hS
      rw [← List.dropLast_concat_getLast hne] at hb ⊢
      have h1 := ih S.dropLast (by rw [List.length_dropLast]; omega) (fun b h => hb b (by simp [h]))
      have h2 := hb (S.getLast hne) (by simp)
      rw [cntL_snoc h2.1 h2.2, List.length_append, List.length_singleton]
      split <;> omega
  exact fun S => e _ S rfl
end Go.Proofs.YtdmaaneilfjfcaaDoor
