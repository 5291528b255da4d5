/-
  Namings as plain data: which declaration an item means alone, the names that a naming gives, and that all items mean the same with them exactly if two tables are the same. Plain facts. The letters of a text, each once and in order, and how many they are; the text of the names of declarations. Plain facts. Names exchanged for others so that different ones stay different: all items mean the same. Plain facts. Items that mean nothing get a name that no declaration has: all items mean the same then. And a graph that is named by its own names. Plain facts. Renamings taken back; when nothing changes, those that use a declaration are those that used it; a renaming to the own name is none. Plain facts. A declaration whose name only those have that mean it alone can have each name that no item has: nothing changes then. Plain facts. A graph that has the names of a naming has these as its own names. Plain facts.
-/
import Derived.Test.YtjogfagjcpcihaaDoorJD
import Derived.Test.YtjogfagjcpcihaaDoorJE
import Derived.Test.YtjogfagjcpcihaaDoorMeanD
import Derived.Test.YtjogfagjcpcihaaDoorJA
import Derived.Test.YtjogfagjcpcihaaDoorWSpecItems
import Derived.Test.YtjogfagjcpcihaaDoorWRenS
import Derived.Test.YtjogfagjcpcihaaDoorWShape
namespace Go.Proofs.YtjogfagjcpcihaaDoor
open Go Go.RowKit
/-- Where a place stands last among the first k of a list, or -1. -/
def posUp (D : List (Int × Int)) (p : Int × Int) : Nat → Int
  | 0 => -1
  | k + 1 => if D[k]? = some p then (k : Int) else posUp D p k
def posOf (D : List (Int × Int)) (p : Int × Int) : Int := posUp D p D.length
theorem posUp_range (D : List (Int × Int)) (p : Int × Int) : ∀ k : Nat, -1 ≤ posUp D p k ∧ posUp D p k < (k : Int)
  | 0 => by unfold posUp; omega
  | k + 1 => by
    have ih := posUp_range D p k
    unfold posUp
    split <;> omega
theorem posUp_get {D : List (Int × Int)} {p : Int × Int} : ∀ {k : Nat}, 0 ≤ posUp D p k → D[(posUp D p k).toNat]? = some p
  | 0, h => by unfold posUp at h; omega
  | k + 1, h => by
    unfold posUp at h ⊢
    split
    · rename_i hk
      rw [Int.toNat_natCast]
      exact hk
    · rename_i hk
      rw [if_neg hk] at h
      exact posUp_get h
theorem posUp_some {D : List (Int × Int)} {p : Int × Int} : ∀ {k i : Nat}, i < k → D[i]? = some p → 0 ≤ posUp D p k
  | 0, _, h, _ => by omega
  | k + 1, i, h, hi => by
    unfold posUp
    split
    · omega
    · rename_i hk
      have hne : i ≠ k := fun e => hk (e ▸ hi)
      exact posUp_some (by omega) hi
theorem posOf_range (D : List (Int × Int)) (p : Int × Int) : -1 ≤ posOf D p ∧ posOf D p < (D.length : Int) := posUp_range D p _
theorem posOf_mem {D : List (Int × Int)} {p : Int × Int} (h : p ∈ D) : 0 ≤ posOf D p := by
  obtain ⟨i, hi⟩ := List.mem_iff_getElem?.1 h
  exact posUp_some (List.getElem?_eq_some_iff.1 hi).1 hi
theorem posOf_get {D : List (Int × Int)} {p : Int × Int} (h : 0 ≤ posOf D p) : D[(posOf D p).toNat]? = some p := posUp_get h
theorem posOf_inj {D : List (Int × Int)} {p q : Int × Int} (hp : p ∈ D) (h : posOf D p = posOf D q) : p = q := by
  have h1 := posOf_get (posOf_mem hp)
  have h2 := posOf_get (show 0 ≤ posOf D q by rw [← h]; exact posOf_mem hp)
  rw [h, h2] at h1
  exact (Option.some.inj h1).symm
theorem posOf_at {D : List (Int × Int)} (hn : D.Nodup) {p : Int × Int} {i : Nat} (hi : D[i]? = some p) : posOf D p = (i : Int) := by
  have h1 := posOf_get (posOf_mem (List.mem_of_getElem? hi))
  have h2 := posOf_mem (List.mem_of_getElem? hi)
  obtain ⟨a1, a2⟩ := List.getElem?_eq_some_iff.1 h1
  obtain ⟨b1, b2⟩ := List.getElem?_eq_some_iff.1 hi
  have h3 := (List.getElem_inj (h₀ := a1) (h₁ := b1) hn).1 (a2.trans b2.symm)
  omega
theorem posOf_not {D : List (Int × Int)} {p : Int × Int} (h : p ∉ D) : posOf D p = -1 := by
  have h1 := posOf_range D p
  by_cases h2 : 0 ≤ posOf D p
  · exact absurd (List.mem_of_getElem? (posOf_get h2)) h
  · omega
/-- Which place of a list is meant alone, or -1. -/
def boundK (D l : List (Int × Int)) : Int := match l with
  | [p] => posOf D p
  | _ => -1
/-- The same from 1 on; 0 where nothing is meant, and -1 where several are. -/
def boundT (D l : List (Int × Int)) : Int := match l with
  | [] => 0
  | [p] => posOf D p + 1
  | _ :: _ :: _ => -1
theorem boundK_range (D l : List (Int × Int)) : -1 ≤ boundK D l ∧ boundK D l < (D.length : Int) := by
  unfold boundK
  split
  · exact posOf_range D _
  · omega
theorem boundT_range (D l : List (Int × Int)) : -1 ≤ boundT D l ∧ boundT D l ≤ (D.length : Int) := by
  unfold boundT
  split
  · omega
  · have := posOf_range D (by assumption); omega
  · omega
theorem boundT_K {D l : List (Int × Int)} (hl : l.length ≤ 1) : boundT D l = boundK D l + 1 := by
  match l, hl with
  | [], _ => rfl
  | [p], _ => rfl
theorem boundT_several {D l : List (Int × Int)} : boundT D l = -1 ↔ 1 < l.length := by
  match l with
  | [] => simp [boundT]
  | [p] =>
    have := posOf_range D p
    simp [boundT]
    omega
  | a :: b :: r => simp [boundT]
theorem boundT_inj {D l l' : List (Int × Int)} (hl : l.length ≤ 1) (h1 : ∀ p ∈ l, p ∈ D) (h2 : ∀ p ∈ l', p ∈ D) (h : boundT D l = boundT D l') : l = l' := by
  have e2 : ¬ 1 < l'.length := fun hc => by
    have := (boundT_several (D := D)).2 hc
    rw [← h] at this
    have := boundT_several.1 this
    omega
  match l, l', hl, e2 with
  | [], [], _, _ => rfl
  | [], [q], _, _ =>
    have := posOf_mem (h2 q (by simp))
    simp [boundT] at h
    omega
  | [p], [], _, _ =>
    have := posOf_mem (h1 p (by simp))
    simp [boundT] at h
    omega
  | [p], [q], _, _ =>
    simp [boundT] at h
    rw [posOf_inj (h1 p (by simp)) h]
  | _, _ :: _ :: _, _, e2 => simp at e2
/-- No item means several declarations. -/
def Clear (ss : List Sc) : Prop := ∀ q ∈ placed 0 ss, (meanIt ss q).length ≤ 1
/-- A letter from a to y for each of a number of declarations. -/
def Naming (names : ByteArray) (n : Nat) : Prop := names.size = n ∧ ∀ b ∈ names.data.toList, 97 ≤ b.toNat ∧ b.toNat ≤ 121
/-- The name by its number; z for none. -/
def nmK (names : ByteArray) (k : Int) : ByteArray := if k < 0 then ⟨#[122]⟩ else ⟨#[(names.data.toList[k.toNat]?).getD 122]⟩
/-- The declarations of a graph. -/
def dclP (ss : List Sc) : List (Int × Int) := plsP ss 1
/-- The renaming to a naming's letters. -/
def nmgF (ss : List Sc) (names : ByteArray) : NameF := fun i j _ => nmK names (boundK (dclP ss) (meanAt ss (i : Int) (j : Int)))
def nmgG (ss : List Sc) (names : ByteArray) : List Sc := renP ss (nmgF ss names)
def nmgOk (ss : List Sc) (names : ByteArray) : Prop := (Valid ss ∧ Clear ss) ∧ Naming names (dclP ss).length
theorem nmK_letter {names : ByteArray} {n : Nat} (h : Naming names n) {k : Int} (hk : k < (n : Int)) : ∃ b : UInt8, nmK names k = ⟨#[b]⟩ ∧ 97 ≤ b.toNat ∧ b.toNat ≤ 122 := by
  unfold nmK
  split
  · exact ⟨122, rfl, by decide, by decide⟩
  · have hsz : names.data.toList.length = n := by rw [Array.length_toList]; exact h.1
    have hlt : k.toNat < names.data.toList.length := by omega
    refine ⟨_, rfl, ?_⟩
    rw [List.getElem?_eq_getElem hlt, Option.getD_some]
    have := h.2 _ (List.getElem_mem hlt)
    omega
theorem nameB_byte {b : UInt8} (h1 : 97 ≤ b.toNat) (h2 : b.toNat ≤ 122) : nameB ⟨#[b]⟩ = true := by
  unfold nameB inB
  simp
  omega
theorem nmgOk.letter {ss : List Sc} {names : ByteArray} (h : nmgOk ss names) (i j : Nat) (nm : ByteArray) : ∃ b : UInt8, nmgF ss names i j nm = ⟨#[b]⟩ ∧ 97 ≤ b.toNat ∧ b.toNat ≤ 122 :=
  nmK_letter h.2 (boundK_range _ _).2
theorem nmgOk.valid {ss : List Sc} {names : ByteArray} (h : nmgOk ss names) : Valid (nmgG ss names) :=
  h.1.1.ren fun i j x _ => by
    obtain ⟨b, hb, h1, h2⟩ := h.letter i j x.name
    rw [hb]
    exact nameB_byte h1 h2
theorem nmgOk.size {ss : List Sc} {names : ByteArray} (h : nmgOk ss names) (i j : Nat) (nm : ByteArray) : (nmgF ss names i j nm).size ≤ 2 ^ 63 - 1 := by
  obtain ⟨b, hb, -, -⟩ := h.letter i j nm
  rw [hb]
  show 1 ≤ 2 ^ 63 - 1
  decide
theorem dcl_ren (ss : List Sc) (f : NameF) : dclP (renP ss f) = dclP ss := by
  unfold dclP plsP plsOf
  rw [placed_renP, List.filter_map, List.map_map]
  rfl
theorem dcl_filt (ss : List Sc) : dclP ss = filtL (fun q => q.2.2.kind == 1) (placed 0 ss) := rfl
theorem mem_dcl {ss : List Sc} {p : Int × Int} {x : It} (h : itemAtP ss p.1 p.2 = some x) (hk : x.kind = 1) : p ∈ dclP ss := by
  obtain ⟨a, b⟩ := p
  obtain ⟨c, d, rfl, rfl, hq⟩ := item_placed h
  rw [dcl_filt]
  unfold filtL
  exact List.mem_map.2 ⟨(c, d, x), List.mem_filter.2 ⟨hq, by simpa using hk⟩, rfl⟩
/-- What items mean are declarations. -/
theorem mean_dcl {ss : List Sc} (hv : Valid ss) {q : Nat × Nat × It} (hq : q ∈ placed 0 ss) : ∀ p ∈ meanIt ss q, p ∈ dclP ss := by
  intro p hp
  rcases kind_cases hv hq with h | h
  · obtain ⟨i, j, x⟩ := q
    have h1 : meanIt ss (i, j, x) = [((i : Int), (j : Int))] := by
      unfold meanIt
      dsimp only at h ⊢
      rw [if_neg (by omega), if_neg (by omega)]
    rw [h1, List.mem_singleton] at hp
    subst hp
    exact mem_dcl (placed_item hq) h
  · obtain ⟨y, hy, hy1, -⟩ := mean_declM h hp
    exact mem_dcl hy hy1
/-- The table of what items mean alone. -/
def tabT (ss : List Sc) (i j : Nat) : Int := boundT (dclP ss) (meanAt ss (i : Int) (j : Int))
theorem mean_ofAt {ss : List Sc} {a b : Nat} (h : meanAt ss (a : Int) (b : Int) ≠ []) : ∃ x, (a, b, x) ∈ placed 0 ss ∧ meanAt ss (a : Int) (b : Int) = meanIt ss (a, b, x) := by
  unfold meanAt at h
  cases hx : itemAtP ss (a : Int) (b : Int) with
  | none => rw [hx] at h; exact absurd rfl h
  | some x =>
    obtain ⟨c, d, h1, h2, hq⟩ := item_placed hx
    obtain rfl : a = c := by omega
    obtain rfl : b = d := by omega
    exact ⟨x, hq, meanAt_of hq⟩
theorem meanAt_dcl {ss : List Sc} (hv : Valid ss) {i j : Nat} : ∀ p ∈ meanAt ss (i : Int) (j : Int), p ∈ dclP ss := by
  intro p hp
  obtain ⟨x, hq, he⟩ := mean_ofAt (ss := ss) (a := i) (b := j) (fun e => by rw [e] at hp; cases hp)
  rw [he] at hp
  exact mean_dcl hv hq p hp
theorem meanAt_clear {ss : List Sc} (hc : Clear ss) (i j : Nat) : (meanAt ss (i : Int) (j : Int)).length ≤ 1 := by
  by_cases h : meanAt ss (i : Int) (j : Int) = []
  · rw [h]; simp
  · obtain ⟨x, hq, he⟩ := mean_ofAt h
    rw [he]
    exact hc _ hq
/-- Nothing changes exactly if the tables are the same. -/
theorem chg_tab {ss : List Sc} (hv : Valid ss) (hc : Clear ss) {f : NameF} (hv2 : Valid (renP ss f)) : chgA ss (renP ss f) = [] ↔ ∀ i j, tabT ss i j = tabT (renP ss f) i j := by
  unfold chgA filtL
  rw [List.map_eq_nil_iff, List.filter_eq_nil_iff]
  unfold tabT
  constructor
  · intro h i j
    rw [dcl_ren]
    by_cases hn : itemAtP ss (i : Int) (j : Int) = none
    · have e1 : meanAt ss (i : Int) (j : Int) = [] := by unfold meanAt; rw [hn]
      have e2 : meanAt (renP ss f) (i : Int) (j : Int) = [] := Decidable.byContradiction fun hne => by
        obtain ⟨y, hy, -⟩ := mean_ofAt hne
        obtain ⟨x, hx, -⟩ := placed_unren hy
        have := placed_item hx
        dsimp only at this
        rw [hn] at this
        cases this
      rw [e1, e2]
    · obtain ⟨x, hx⟩ := Option.ne_none_iff_exists'.1 hn
      obtain ⟨c, d, h1, h2, hq⟩ := item_placed hx
      obtain rfl : i = c := by omega
      obtain rfl : j = d := by omega
      have h3 := h _ hq
      dsimp only at h3
      rw [meanAt_of hq, show meanIt ss (i, j, x) = meanAt (renP ss f) (i : Int) (j : Int) by simpa using h3]
  · rintro h ⟨i, j, x⟩ hq
    have h1 := h i j
    rw [dcl_ren, meanAt_of hq] at h1
    have h2 := boundT_inj (hc _ hq) (mean_dcl hv hq) (fun p hp => by have := meanAt_dcl hv2 p hp; rw [dcl_ren] at this; exact this) h1
    dsimp only
    rw [h2]
    simp
/-- Whether an item means several declarations, by the table. -/
theorem clear_tab {ss : List Sc} : Clear ss ↔ ∀ i j : Nat, tabT ss i j ≠ -1 := by
  constructor
  · intro h i j e
    have := boundT_several.1 e
    have := meanAt_clear h i j
    omega
  · rintro h ⟨i, j, x⟩ hq
    have h1 := h i j
    unfold tabT at h1
    rw [meanAt_of hq] at h1
    have : ¬ 1 < (meanIt ss (i, j, x)).length := fun hc => h1 (boundT_several.2 hc)
    omega
end Go.Proofs.YtjogfagjcpcihaaDoor
namespace Go.Proofs.YtjogfagjcpcihaaDoor
open Go Go.RowKit
/-- A text by its bytes. -/
def bT (l : List UInt8) : ByteArray := ⟨l.toArray⟩
theorem bT_data (l : List UInt8) : (bT l).data.toList = l := by simp [bT]
theorem bT_size (l : List UInt8) : (bT l).size = l.length := by simp [bT, ByteArray.size]
theorem bT_append (l : List UInt8) (x : ByteArray) : bT l ++ x = bT (l ++ x.data.toList) := by
  apply ByteArray.ext; apply Array.toList_inj.1
  simp [ByteArray.data_append, bT]
theorem bT_of {x : ByteArray} {l : List UInt8} (h : x.data.toList = l) : x = bT l := by
  apply ByteArray.ext; apply Array.toList_inj.1
  simp [bT, h]
def ltr (k : Nat) : UInt8 := UInt8.ofNat (97 + k)
theorem ltr_nat {k : Nat} (hk : k < 26) : (ltr k).toNat = 97 + k := by
  unfold ltr
  rw [UInt8.toNat_ofNat']
  omega
/-- Those of the first k letters that are in a text. -/
def ltrUp (S : List UInt8) : Nat → List UInt8
  | 0 => []
  | k + 1 => if ltr k ∈ S then ltrUp S k ++ [ltr k] else ltrUp S k
theorem ltrUp_le (S : List UInt8) : ∀ k, (ltrUp S k).length ≤ k
  | 0 => by simp [ltrUp]
  | k + 1 => by
    have ih := ltrUp_le S k
    unfold ltrUp
    split
    · rw [List.length_append, List.length_singleton]; omega
    · omega
theorem ltrUp_nil : ∀ k, ltrUp [] k = []
  | 0 => rfl
  | k + 1 => by unfold ltrUp; rw [if_neg (by simp), ltrUp_nil k]
theorem ltrUp_snoc (S : List UInt8) (b : UInt8) (hb : 97 ≤ b.toNat) : ∀ k, k ≤ 26 → (ltrUp (S ++ [b]) k).length = (ltrUp S k).length + if b ∉ S ∧ b.toNat < 97 + k then 1 else 0
  | 0, _ => by
    rw [if_neg (by omega)]
    rfl
  | k + 1, hk => by
    have ih := ltrUp_snoc S b hb k (by omega)
    have hl := ltr_nat (k := k) (by omega)
    unfold ltrUp
    by_cases h1 : ltr k ∈ S
    · rw [if_pos h1, if_pos (by simp [h1]), List.length_append, List.length_append, ih]
      by_cases h2 : b ∈ S
      · rw [if_neg (fun h => h.1 h2), if_neg (fun h => h.1 h2)]; rfl
      · have h3 : b ≠ ltr k := fun e => h2 (e ▸ h1)
        have h4 : b.toNat ≠ 97 + k := fun e => h3 (UInt8.toNat_inj.1 (by rw [hl, e]))
        by_cases h5 : b.toNat < 97 + k
        · rw [if_pos ⟨h2, h5⟩, if_pos ⟨h2, by omega⟩]; simp
        · rw [if_neg (fun h => h5 h.2), if_neg (fun h => by have := h.2; omega)]; rfl
    · by_cases h2 : b = ltr k
      · subst h2
        rw [if_neg h1, if_pos (by simp), List.length_append, ih, if_neg (fun h => by have := h.2; omega), if_pos ⟨h1, by omega⟩]
        simp
      · have h4 : b.toNat ≠ 97 + k := fun e => h2 (UInt8.toNat_inj.1 (by rw [hl, e]))
        rw [if_neg h1, if_neg (by simp [h1, Ne.symm h2]), ih]
        by_cases h3 : b ∈ S
        · rw [if_neg (fun h => h.1 h3), if_neg (fun h => h.1 h3)]
        · by_cases h5 : b.toNat < 97 + k
          · rw [if_pos ⟨h3, h5⟩, if_pos ⟨h3, by omega⟩]
          · rw [if_neg (fun h => h5 h.2), if_neg (fun h => by have := h.2; omega)]
/-- How many letters a text has. -/
def cntL (S : List UInt8) : Nat := (ltrUp S 26).length
theorem cntL_nil : cntL [] = 0 := by unfold cntL; rw [ltrUp_nil]; rfl
theorem cntL_snoc {S : List UInt8} {b : UInt8} (h1 : 97 ≤ b.toNat) (h2 : b.toNat ≤ 122) : cntL (S ++ [b]) = if b ∈ S then cntL S else cntL S + 1 := by
  unfold cntL
  rw [ltrUp_snoc S b h1 26 (by omega)]
  by_cases h : b ∈ S
  · rw [if_pos h, if_neg (fun k => k.1 h)]; rfl
  · rw [if_neg h, if_pos ⟨h, by omega⟩]
theorem cntL_le (S : List UInt8) : cntL S ≤ 26 := ltrUp_le S 26
/-- The names of the declarations of a list, one after another. -/
def ownS (l : List (Nat × Nat × It)) : List UInt8 := l.flatMap fun q => if q.2.2.kind = 1 then q.2.2.name.data.toList else []
theorem ownS_snoc (l : List (Nat × Nat × It)) (q : Nat × Nat × It) : ownS (l ++ [q]) = ownS l ++ if q.2.2.kind = 1 then q.2.2.name.data.toList else [] := by
  unfold ownS
  rw [List.flatMap_append]
  simp
def ownT (ss : List Sc) : List UInt8 := ownS (placed 0 ss)
theorem name_byte {ss : List Sc} (hv : Valid ss) {q : Nat × Nat × It} (hq : q ∈ placed 0 ss) : ∃ b : UInt8, q.2.2.name.data.toList = [b] ∧ 97 ≤ b.toNat ∧ b.toNat ≤ 122 := by
  have h3 := hv.items
  rw [← placed_flat] at h3
  have h4 := (h3.1 (q.1, q.2.2) (List.mem_map_of_mem hq)).1
  unfold itemB nameB at h4
  simp only [Bool.and_eq_true] at h4
  have h5 := h4.1.1
  split at h5
  · rename_i b hb
    refine ⟨b, hb, ?_⟩
    unfold inB at h5
    simp only [Bool.and_eq_true, decide_eq_true_eq] at h5
    omega
  · cases h5
theorem ownS_length {ss : List Sc} (hv : Valid ss) : ∀ l : List (Nat × Nat × It), (∀ q ∈ l, q ∈ placed 0 ss) → (ownS l).length = (plsOf 1 l).length
  | [], _ => rfl
  | q :: r, h => by
    have ih := ownS_length hv r fun p hp => h p (List.mem_cons_of_mem _ hp)
    obtain ⟨b, hb, -, -⟩ := name_byte hv (h q List.mem_cons_self)
    have e1 : ownS (q :: r) = (if q.2.2.kind = 1 then q.2.2.name.data.toList else []) ++ ownS r := by simp [ownS]
    have e2 : plsOf 1 (q :: r) = (if q.2.2.kind = 1 then [((q.1 : Int), (q.2.1 : Int))] else []) ++ plsOf 1 r := by
      unfold plsOf
      rw [List.filter_cons]
      by_cases hk : q.2.2.kind = 1
      · rw [if_pos hk, if_pos (by simpa using hk)]; rfl
      · rw [if_neg hk, if_neg (by simpa using hk)]; rfl
    rw [e1, e2, List.length_append, List.length_append, ih, hb]
    split <;> rfl
theorem ownT_length {ss : List Sc} (hv : Valid ss) : (ownT ss).length = (dclP ss).length := ownS_length hv _ fun _ h => h
theorem ownS_bytes {ss : List Sc} (hv : Valid ss) {l : List (Nat × Nat × It)} (hl : ∀ q ∈ l, q ∈ placed 0 ss) : ∀ b ∈ ownS l, 97 ≤ b.toNat ∧ b.toNat ≤ 122 := by
  intro b hb
  unfold ownS at hb
  obtain ⟨q, hq, hm⟩ := List.mem_flatMap.1 hb
  obtain ⟨c, hc, h1, h2⟩ := name_byte hv (hl q hq)
  split at hm
  · rw [hc, List.mem_singleton] at hm
    subst hm
    exact ⟨h1, h2⟩
  · cases hm
/-- The names of the declarations at the first places of a list. -/
def ownU (ss : List Sc) (D : List (Int × Int)) : List UInt8 := D.flatMap fun p => match itemAtP ss p.1 p.2 with
  | some x => x.name.data.toList
  | none => []
theorem ownU_snoc (ss : List Sc) (D : List (Int × Int)) (p : Int × Int) {x : It} (hx : itemAtP ss p.1 p.2 = some x) : ownU ss (D ++ [p]) = ownU ss D ++ x.name.data.toList := by
  unfold ownU
  rw [List.flatMap_append]
  simp [hx]
theorem ownU_all (ss : List Sc) : ownU ss (dclP ss) = ownT ss := by
  have e : ∀ l : List (Nat × Nat × It), (∀ q ∈ l, q ∈ placed 0 ss) → ownU ss (plsOf 1 l) = ownS l := by
    intro l
    induction l with
    | nil => intro _; rfl
    | cons q r ih =>
      intro h
      have h1 := ih fun p hp => h p (List.mem_cons_of_mem _ hp)
      have h2 := placed_item (h q List.mem_cons_self)
      have e1 : ownS (q :: r) = (if q.2.2.kind = 1 then q.2.2.name.data.toList else []) ++ ownS r := by simp [ownS]
      rw [e1, ← h1]
      unfold plsOf
      rw [List.filter_cons]
      by_cases hk : q.2.2.kind = 1
      · rw [if_pos (by simpa using hk), if_pos hk, List.map_cons]
        show (match itemAtP ss (q.1 : Int) (q.2.1 : Int) with | some x => x.name.data.toList | none => []) ++ _ = _
        rw [h2]
        rfl
      · rw [if_neg (by simpa using hk), if_neg hk]; rfl
  exact e _ fun _ h => h
/-- The letters from a on. -/
def frsL (n : Nat) : List UInt8 := (List.range n).map fun k => UInt8.ofNat (97 + k)
theorem frsL_length (n : Nat) : (frsL n).length = n := by simp [frsL]
theorem frsL_snoc (n : Nat) : frsL (n + 1) = frsL n ++ [UInt8.ofNat (97 + n)] := by unfold frsL; rw [List.range_succ, List.map_append]; rfl
theorem frs_naming {names : ByteArray} {n : Nat} (h : names.data.toList = frsL n) (hn : n ≤ 25) : Naming names n := by
  refine ⟨?_, fun b hb => ?_⟩
  · have := congrArg List.length h
    rw [Array.length_toList, frsL_length] at this
    exact this
  · rw [h] at hb
    unfold frsL at hb
    obtain ⟨k, hk, rfl⟩ := List.mem_map.1 hb
    have := List.mem_range.1 hk
    rw [UInt8.toNat_ofNat']
    omega
theorem frs_not {names : ByteArray} {n m : Nat} (h : names.data.toList = frsL n) (hn : 25 < n) : ¬ Naming names m := by
  intro hN
  have h1 := hN.2 (UInt8.ofNat (97 + 25)) (by rw [h]; unfold frsL; exact List.mem_map.2 ⟨25, List.mem_range.2 hn, rfl⟩)
  have h2 := h1.2
  revert h2
  decide
/-- What OwnNames answers. -/
def ownR (ss : List Sc) (T : ByteArray) (ok : Bool) : Prop := (¬ Valid ss ∧ T = ⟨#[]⟩ ∧ ok = false) ∨ (Valid ss ∧ T = bT (ownT ss) ∧ ok = true)
theorem ownR.same {ss : List Sc} {T T' : ByteArray} {ok ok' : Bool} (h : ownR ss T ok) (k : ownR ss T' ok') : T = T' ∧ ok = ok' := by
  rcases h with ⟨h1, rfl, rfl⟩ | ⟨h1, rfl, rfl⟩
  · rcases k with ⟨_, rfl, rfl⟩ | ⟨k1, _⟩
    · exact ⟨rfl, rfl⟩
    · exact absurd k1 h1
  · rcases k with ⟨k1, _⟩ | ⟨_, rfl, rfl⟩
    · exact absurd h1 k1
    · exact ⟨rfl, rfl⟩
def cntR (ss : List Sc) (n : Int) : Prop := (¬ Valid ss ∧ n = -1) ∨ (Valid ss ∧ n = (cntL (ownT ss) : Int))
theorem cntR.same {ss : List Sc} {n m : Int} (h : cntR ss n) (k : cntR ss m) : n = m := by
  rcases h with ⟨h1, rfl⟩ | ⟨h1, rfl⟩
  · rcases k with ⟨_, rfl⟩ | ⟨k1, _⟩
    · rfl
    · exact absurd k1 h1
  · rcases k with ⟨k1, _⟩ | ⟨_, rfl⟩
    · exact absurd h1 k1
    · rfl
def frsR (ss : List Sc) (b : Bool) : Prop := (¬ Valid ss ∧ b = false) ∨ (Valid ss ∧ b = decide (cntL (ownT ss) = (ownT ss).length))
theorem frsR.same {ss : List Sc} {b c : Bool} (h : frsR ss b) (k : frsR ss c) : b = c := by
  rcases h with ⟨h1, rfl⟩ | ⟨h1, rfl⟩
  · rcases k with ⟨_, rfl⟩ | ⟨k1, _⟩
    · rfl
    · exact absurd k1 h1
  · rcases k with ⟨k1, _⟩ | ⟨_, rfl⟩
    · exact absurd h1 k1
    · rfl
theorem own_small {ss : List Sc} (hv : Valid ss) : (ownT ss).length ≤ 30 := by
  have h1 := plsOf_length 1 (placed 0 ss)
  have h2 := placed_bound 0 ss 6 5 hv.count.2 hv.five
  have h3 := ownT_length hv
  unfold dclP plsP at h3
  omega
end Go.Proofs.YtjogfagjcpcihaaDoor
namespace Go.Proofs.YtjogfagjcpcihaaDoor
open Go Go.RowKit
def nameIs (φ : ByteArray → ByteArray) : NameF := fun _ _ n => φ n
def mapIt (φ : ByteArray → ByteArray) (x : It) : It := ⟨x.kind, φ x.name, x.scope⟩
/-- A name of an item. -/
def NameOf (ss : List Sc) (nm : ByteArray) : Prop := ∃ q ∈ placed 0 ss, q.2.2.name = nm
/-- Different names stay different. -/
structure Inj (ss : List Sc) (φ : ByteArray → ByteArray) : Prop where
  valid : Valid ss
  good : Valid (renP ss (nameIs φ))
  inj : ∀ n m, NameOf ss n → NameOf ss m → φ n = φ m → n = m
theorem mapIdx_map {α β : Type} (g : α → β) (l : List α) : l.mapIdx (fun _ x => g x) = l.map g := by
  refine List.ext_getElem? fun i => ?_
  rw [List.getElem?_mapIdx, List.getElem?_map]
theorem bytes_self {a b : ByteArray} : (a.toList == b.toList) = true ↔ a = b := ⟨nameM_bytes, fun h => by rw [h]; simp⟩
section
variable {ss : List Sc} {φ : ByteArray → ByteArray}
theorem Inj.items (_ : Inj ss φ) (s : Nat) : itemsP (renP ss (nameIs φ)) s = (itemsP ss s).map (mapIt φ) := by
  unfold itemsP
  rw [renP_get]
  cases hs : ss[s]? with
  | none => rfl
  | some c =>
    simp only [Option.map_some, Option.getD_some]
    unfold renSc
    dsimp only
    exact mapIdx_map (mapIt φ) c.items
theorem name_in {s j : Nat} {x : It} (h : (itemsP ss s)[j]? = some x) : NameOf ss x.name := by
  unfold itemsP at h
  cases hs : ss[s]? with
  | none => rw [hs] at h; simp at h
  | some c =>
    rw [hs] at h
    exact ⟨(s, j, x), placed_of hs (by simpa using h), rfl⟩
theorem Inj.isOwn (h : Inj ss φ) {nm : ByteArray} (hn : NameOf ss nm) {x : It} (hx : NameOf ss x.name) : isOwn (φ nm) (mapIt φ x) = Go.Proofs.YtjogfagjcpcihaaDoor.isOwn nm x := by
  unfold Go.Proofs.YtjogfagjcpcihaaDoor.isOwn mapIt
  dsimp only
  congr 1
  rw [Bool.eq_iff_iff, bytes_self, bytes_self]
  exact ⟨fun e => h.inj _ _ hx hn e, fun e => by rw [e]⟩
theorem Inj.own (h : Inj ss φ) {nm : ByteArray} (hn : NameOf ss nm) (s : Nat) : ownP (renP ss (nameIs φ)) s (φ nm) = ownP ss s nm := by
  unfold ownP
  rw [h.items, List.length_map]
  have e : ∀ k, ownUp ((itemsP ss s).map (mapIt φ)) s (φ nm) k = ownUp (itemsP ss s) s nm k := by
    intro k
    induction k with
    | zero => rfl
    | succ k ih =>
      show ownUp ((itemsP ss s).map (mapIt φ)) s (φ nm) k ++ _ = ownUp (itemsP ss s) s nm k ++ _
      rw [ih, List.getElem?_map]
      cases hx : (itemsP ss s)[k]? with
      | none => rfl
      | some x =>
        simp only [Option.map_some]
        rw [h.isOwn hn (name_in hx)]
  exact e _
theorem Inj.from (h : Inj ss φ) {nm : ByteArray} (hn : NameOf ss nm) (l : List Nat) : fromP (renP ss (nameIs φ)) l (φ nm) = fromP ss l nm := by
  unfold fromP
  congr 1
  funext k
  exact h.own hn k
theorem Inj.look (h : Inj ss φ) {nm : ByteArray} (hn : NameOf ss nm) (imps : Nat → List Nat) : ∀ l : List Nat, lookF (renP ss (nameIs φ)) imps (φ nm) l = lookF ss imps nm l
  | [] => rfl
  | m :: r => by
    have ih := h.look hn imps r
    unfold lookF
    rw [h.own hn, h.from hn, ih]
theorem Inj.par (_ : Inj ss φ) (s : Nat) : parP (renP ss (nameIs φ)) s = parP ss s := by
  unfold parP
  rw [renP_get]
  cases ss[s]? <;> rfl
theorem Inj.chainN (h : Inj ss φ) : ∀ (n s : Nat), chainN (renP ss (nameIs φ)) n s = Go.Proofs.YtjogfagjcpcihaaDoor.chainN ss n s
  | 0, _ => rfl
  | n + 1, s => by
    unfold Go.Proofs.YtjogfagjcpcihaaDoor.chainN
    rw [h.par]
    cases parP ss s with
    | none => rfl
    | some p => dsimp only; rw [h.chainN n p]
theorem Inj.chain (h : Inj ss φ) (s : Nat) : chainP (renP ss (nameIs φ)) s = chainP ss s := h.chainN _ _
theorem Inj.meant (h : Inj ss φ) {nm : ByteArray} (hn : NameOf ss nm) (imps : Nat → List Nat) (s : Nat) : meantF (renP ss (nameIs φ)) imps s (φ nm) = meantF ss imps s nm := by
  unfold meantF
  rw [h.own hn, h.par]
  split
  · cases parP ss s with
    | none => rfl
    | some p => dsimp only; rw [h.chain, h.look hn]
  · rfl
theorem Inj.scopeAt (_ : Inj ss φ) (p : Int × Int) : scopeAt (renP ss (nameIs φ)) p = Go.Proofs.YtjogfagjcpcihaaDoor.scopeAt ss p := by
  unfold Go.Proofs.YtjogfagjcpcihaaDoor.scopeAt
  have e : ∀ (q : It), ((itemAtP ss p.1 p.2).map (mapIt φ)).getD q = ((itemAtP ss p.1 p.2).map (mapIt φ)).getD q := fun _ => rfl
  have h1 : itemAtP (renP ss (nameIs φ)) p.1 p.2 = (itemAtP ss p.1 p.2).map (mapIt φ) := by
    unfold itemAtP
    split
    · rw [renP_get]
      cases ss[p.1.toNat]? with
      | none => rfl
      | some c =>
        simp only [Option.map_some]
        show (renSc _ _ c).items[_]? = _
        rw [renSc_get]
        rfl
    · rfl
  rw [h1]
  cases itemAtP ss p.1 p.2 <;> rfl
theorem Inj.target (h : Inj ss φ) {nm : ByteArray} (hn : NameOf ss nm) (imps : Nat → List Nat) (s : Nat) : targetF (renP ss (nameIs φ)) imps s (φ nm) = targetF ss imps s nm := by
  unfold targetF
  rw [h.meant hn]
  cases meantF ss imps s nm with
  | nil => rfl
  | cons p r =>
    cases r with
    | cons p2 r2 => rfl
    | nil => exact h.scopeAt p
theorem Inj.impF (h : Inj ss φ) (imps : Nat → List Nat) (s : Nat) : impF (renP ss (nameIs φ)) imps s = Go.Proofs.YtjogfagjcpcihaaDoor.impF ss imps s := by
  unfold Go.Proofs.YtjogfagjcpcihaaDoor.impF impUp
  rw [List.take_length, List.take_length, h.items]
  have e : ∀ (l : List It) (z : List Nat), (∀ x ∈ l, NameOf ss x.name) → (l.map (mapIt φ)).foldl (impStep (renP ss (nameIs φ)) imps s) z = l.foldl (impStep ss imps s) z := by
    intro l
    induction l with
    | nil => intro z _; rfl
    | cons x r ih =>
      intro z hl
      rw [List.map_cons, List.foldl_cons, List.foldl_cons]
      have h1 : impStep (renP ss (nameIs φ)) imps s z (mapIt φ x) = impStep ss imps s z x := by
        unfold impStep mapIt
        dsimp only
        rw [h.target (hl x List.mem_cons_self)]
      rw [h1]
      exact ih _ fun y hy => hl y (List.mem_cons_of_mem _ hy)
  refine e _ _ fun x hx => ?_
  obtain ⟨j, hj⟩ := List.getElem?_of_mem hx
  exact name_in hj
theorem Inj.imp (h : Inj ss φ) (s : Nat) : impP (renP ss (nameIs φ)) s = impP ss s := by
  induction s using Nat.strongRecOn with
  | _ s ih =>
    rw [impP_eq h.good.climbs, impF_congr h.good.climbs (g := impP ss) (fun m hm => ih m hm), h.impF, ← impP_eq h.valid.climbs]
theorem Inj.mean (h : Inj ss φ) {i j : Nat} {x : It} (hq : (i, j, x) ∈ placed 0 ss) : meanIt (renP ss (nameIs φ)) (i, j, mapIt φ x) = meanIt ss (i, j, x) := by
  have hn : NameOf ss x.name := ⟨_, hq, rfl⟩
  have hi : impP (renP ss (nameIs φ)) = impP ss := funext h.imp
  unfold meanIt lookP meantP mapIt
  dsimp only
  rw [hi, h.chain, h.look hn, h.meant hn]
/-- Nothing changes. -/
theorem Inj.same (h : Inj ss φ) : chgA ss (renP ss (nameIs φ)) = [] := by
  unfold chgA filtL
  rw [List.map_eq_nil_iff, List.filter_eq_nil_iff]
  rintro ⟨i, j, x⟩ hq
  have h1 := meanAt_of (placed_ren (f := nameIs φ) hq)
  dsimp only at h1 ⊢
  rw [h1, show renIt (nameIs φ) i j x = mapIt φ x from rfl, h.mean hq]
  simp
end
end Go.Proofs.YtjogfagjcpcihaaDoor
namespace Go.Proofs.YtjogfagjcpcihaaDoor
open Go Go.RowKit
/-- An item keeps its name, or it means nothing, and no declaration has the new one. -/
structure MisZ (ss : List Sc) (f : NameF) : Prop where
  valid : Valid ss
  good : Valid (renP ss f)
  free : ∀ q ∈ placed 0 ss, f q.1 q.2.1 q.2.2.name = q.2.2.name ∨ (q.2.2.kind ≠ 1 ∧ meanIt ss q = [] ∧ ∀ p ∈ placed 0 ss, p.2.2.kind = 1 → p.2.2.name ≠ f q.1 q.2.1 q.2.2.name)
theorem item_at {ss : List Sc} {s j : Nat} {x : It} (h : (itemsP ss s)[j]? = some x) : (s, j, x) ∈ placed 0 ss := by
  unfold itemsP at h
  cases hs : ss[s]? with
  | none => rw [hs] at h; simp at h
  | some c =>
    rw [hs] at h
    exact placed_of hs (by simpa using h)
theorem items_renP (ss : List Sc) (f : NameF) (s : Nat) : itemsP (renP ss f) s = (itemsP ss s).mapIdx (renIt f s) := by
  unfold itemsP
  rw [renP_get]
  cases ss[s]? <;> rfl
theorem fold_mapIdx {α β : Type} {g : Nat → α → α} {step step' : β → α → β} : ∀ (l : List α) (k : Nat) (z : β), (∀ j x z, l[j]? = some x → step' z (g (k + j) x) = step z x) → (l.mapIdx fun i x => g (k + i) x).foldl step' z = l.foldl step z
  | [], _, _, _ => rfl
  | x :: r, k, z, h => by
    rw [List.mapIdx_cons, List.foldl_cons, List.foldl_cons, h 0 x z rfl]
    have ih := fold_mapIdx (g := g) (step := step) (step' := step') r (k + 1) (step z x) fun j y w hj => by
      rw [show k + 1 + j = k + (j + 1) by omega]
      exact h (j + 1) y w hj
    rw [show (fun (i : Nat) (x : α) => g (k + 1 + i) x) = fun i x => g (k + (i + 1)) x from by funext i x; rw [show k + 1 + i = k + (i + 1) by omega]] at ih
    exact ih
section
variable {ss : List Sc} {f : NameF}
theorem MisZ.isOwn (h : MisZ ss f) {s j : Nat} {x : It} (hx : (itemsP ss s)[j]? = some x) (nm : ByteArray) : isOwn nm (renIt f s j x) = Go.Proofs.YtjogfagjcpcihaaDoor.isOwn nm x := by
  unfold Go.Proofs.YtjogfagjcpcihaaDoor.isOwn renIt
  dsimp only
  rcases h.free _ (item_at hx) with e | ⟨e, -, -⟩
  · rw [show f s j x.name = x.name from e]
  · have : (x.kind == 1) = false := by simpa using e
    rw [this]; rfl
theorem MisZ.own (h : MisZ ss f) (s : Nat) (nm : ByteArray) : ownP (renP ss f) s nm = ownP ss s nm := by
  unfold ownP
  rw [items_renP, List.length_mapIdx]
  have e : ∀ k, ownUp ((itemsP ss s).mapIdx (renIt f s)) s nm k = ownUp (itemsP ss s) s nm k := by
    intro k
    induction k with
    | zero => rfl
    | succ k ih =>
      show ownUp ((itemsP ss s).mapIdx (renIt f s)) s nm k ++ _ = ownUp (itemsP ss s) s nm k ++ _
      rw [ih, List.getElem?_mapIdx]
      cases hx : (itemsP ss s)[k]? with
      | none => rfl
      | some x =>
        simp only [Option.map_some]
        rw [h.isOwn hx]
  exact e _
theorem MisZ.from (h : MisZ ss f) (l : List Nat) (nm : ByteArray) : fromP (renP ss f) l nm = fromP ss l nm := by
  unfold fromP
  congr 1
  funext k
  exact h.own k nm
theorem MisZ.look (h : MisZ ss f) (imps : Nat → List Nat) (nm : ByteArray) : ∀ l : List Nat, lookF (renP ss f) imps nm l = lookF ss imps nm l
  | [] => rfl
  | m :: r => by
    have ih := h.look imps nm r
    unfold lookF
    rw [h.own, h.from, ih]
theorem ren_par (ss : List Sc) (f : NameF) (s : Nat) : parP (renP ss f) s = parP ss s := by
  unfold parP
  rw [renP_get]
  cases ss[s]? <;> rfl
theorem ren_chainN (ss : List Sc) (f : NameF) : ∀ (n s : Nat), chainN (renP ss f) n s = chainN ss n s
  | 0, _ => rfl
  | n + 1, s => by
    unfold chainN
    rw [ren_par]
    cases parP ss s with
    | none => rfl
    | some p => dsimp only; rw [ren_chainN ss f n p]
theorem ren_chain (ss : List Sc) (f : NameF) (s : Nat) : chainP (renP ss f) s = chainP ss s := ren_chainN ss f _ _
theorem ren_itemAt (ss : List Sc) (f : NameF) (p : Int × Int) : itemAtP (renP ss f) p.1 p.2 = (itemAtP ss p.1 p.2).map (renIt f p.1.toNat p.2.toNat) := by
  unfold itemAtP
  split
  · rw [renP_get]
    cases ss[p.1.toNat]? with
    | none => rfl
    | some c =>
      simp only [Option.map_some]
      show (renSc _ _ c).items[_]? = _
      rw [renSc_get]
      rfl
  · rfl
theorem ren_scopeAt (ss : List Sc) (f : NameF) (p : Int × Int) : scopeAt (renP ss f) p = scopeAt ss p := by
  unfold scopeAt
  rw [ren_itemAt]
  cases itemAtP ss p.1 p.2 <;> rfl
theorem MisZ.meant (h : MisZ ss f) (imps : Nat → List Nat) (s : Nat) (nm : ByteArray) : meantF (renP ss f) imps s nm = meantF ss imps s nm := by
  unfold meantF
  rw [h.own, ren_par]
  split
  · cases parP ss s with
    | none => rfl
    | some p => dsimp only; rw [ren_chain, h.look]
  · rfl
theorem MisZ.target (h : MisZ ss f) (imps : Nat → List Nat) (s : Nat) (nm : ByteArray) : targetF (renP ss f) imps s nm = targetF ss imps s nm := by
  unfold targetF
  rw [h.meant]
  cases meantF ss imps s nm with
  | nil => rfl
  | cons p r =>
    cases r with
    | cons p2 r2 => rfl
    | nil => exact ren_scopeAt ss f p
/-- A name that no declaration has means nothing. -/
theorem none_named {ss : List Sc} {nm : ByteArray} (h : ∀ p ∈ placed 0 ss, p.2.2.kind = 1 → p.2.2.name ≠ nm) (s : Nat) : meantP ss s nm = [] ∧ (lookP ss s nm).places = [] := by
  have e : ∀ p : Int × Int, ¬ ∃ x, itemAtP ss p.1 p.2 = some x ∧ x.kind = 1 ∧ x.name = nm := by
    rintro ⟨a, b⟩ ⟨x, hx, hk, hn⟩
    obtain ⟨c, d, -, -, hq⟩ := item_placed hx
    exact h _ hq hk hn
  constructor
  · exact List.eq_nil_iff_forall_not_mem.2 fun p hp => e p (meant_declM hp)
  · exact List.eq_nil_iff_forall_not_mem.2 fun p hp => e p (look_declM p hp)
theorem MisZ.impF (h : MisZ ss f) (s : Nat) : impF (renP ss f) (impP ss) s = Go.Proofs.YtjogfagjcpcihaaDoor.impF ss (impP ss) s := by
  unfold Go.Proofs.YtjogfagjcpcihaaDoor.impF impUp
  rw [List.take_length, List.take_length, items_renP]
  have e := fold_mapIdx (g := renIt f s) (step := impStep ss (impP ss) s) (step' := impStep (renP ss f) (impP ss) s) (itemsP ss s) 0 [] fun j x z hx => by
    rw [Nat.zero_add]
    unfold impStep
    show (if x.kind = 3 then _ else _) = _
    by_cases h3 : x.kind = 3
    · rw [if_pos h3, if_pos h3, h.target]
      rcases h.free _ (item_at hx) with e | ⟨-, e1, e2⟩
      · rw [show (renIt f s j x).name = x.name from e]
      · have m1 : targetF ss (impP ss) s (renIt f s j x).name = -1 := by
          have := (none_named e2 s).1
          unfold meantP at this
          unfold targetF
          rw [show (renIt f s j x).name = f s j x.name from rfl, this]
        have m2 : targetF ss (impP ss) s x.name = -1 := by
          have h5 : meantP ss s x.name = [] := by
            unfold meanIt at e1
            dsimp only at e1
            rw [if_neg (by omega), if_pos h3] at e1
            exact e1
          unfold meantP at h5
          unfold targetF
          rw [h5]
        rw [m1, m2]
    · rw [if_neg h3, if_neg h3]
  rw [show (fun (i : Nat) (x : It) => renIt f s (0 + i) x) = renIt f s from by funext i x; rw [Nat.zero_add]] at e
  exact e
theorem MisZ.imp (h : MisZ ss f) (s : Nat) : impP (renP ss f) s = impP ss s := by
  induction s using Nat.strongRecOn with
  | _ s ih => rw [impP_eq h.good.climbs, impF_congr h.good.climbs (g := impP ss) (fun m hm => ih m hm), h.impF, ← impP_eq h.valid.climbs]
theorem MisZ.mean (h : MisZ ss f) {i j : Nat} {x : It} (hq : (i, j, x) ∈ placed 0 ss) : meanIt (renP ss f) (i, j, renIt f i j x) = meanIt ss (i, j, x) := by
  have hi : impP (renP ss f) = impP ss := funext h.imp
  have hl : ∀ s nm, lookP (renP ss f) s nm = lookP ss s nm := fun s nm => by
    unfold lookP
    rw [hi, ren_chain, h.look]
  have hm : ∀ s nm, meantP (renP ss f) s nm = meantP ss s nm := fun s nm => by
    unfold meantP
    rw [hi, h.meant]
  rcases h.free _ hq with e | ⟨e0, e1, e2⟩
  · rw [show renIt f i j x = x from by unfold renIt; rw [show f i j x.name = x.name from e]]
    unfold meanIt
    dsimp only
    rw [hl, hm]
  · rw [e1]
    have hz := none_named e2 i
    unfold meanIt at e1 ⊢
    dsimp only at e1 e0 hz ⊢
    show (if x.kind = 2 then (lookP (renP ss f) i (f i j x.name)).places else if x.kind = 3 then meantP (renP ss f) i (f i j x.name) else _) = _
    rw [hl, hm, hz.1, hz.2]
    by_cases h2 : x.kind = 2
    · rw [if_pos h2]
    · rw [if_neg h2] at e1 ⊢
      by_cases h3 : x.kind = 3
      · rw [if_pos h3]
      · rw [if_neg h3] at e1; cases e1
/-- Nothing changes. -/
theorem MisZ.same (h : MisZ ss f) : chgA ss (renP ss f) = [] := by
  unfold chgA filtL
  rw [List.map_eq_nil_iff, List.filter_eq_nil_iff]
  rintro ⟨i, j, x⟩ hq
  have h1 := meanAt_of (placed_ren (f := f) hq)
  dsimp only at h1 ⊢
  rw [h1, h.mean hq]
  simp
end
/-- The k-th letter of the own names is the name of the k-th declaration. -/
theorem own_letter {ss : List Sc} (hv : Valid ss) : ∀ (l : List (Nat × Nat × It)), (∀ q ∈ l, q ∈ placed 0 ss) → ∀ (k : Nat) (p : Int × Int), (plsOf 1 l)[k]? = some p → ∃ (q : Nat × Nat × It) (b : UInt8), q ∈ l ∧ q.2.2.kind = 1 ∧ p = ((q.1 : Int), (q.2.1 : Int)) ∧ q.2.2.name.data.toList = [b] ∧ (ownS l)[k]? = some b
  | [], _, k, p, h => by simp [plsOf] at h
  | q :: r, hl, k, p, h => by
    have ih := own_letter hv r fun x hx => hl x (List.mem_cons_of_mem _ hx)
    obtain ⟨b, hb, -, -⟩ := name_byte hv (hl q List.mem_cons_self)
    have e1 : ownS (q :: r) = (if q.2.2.kind = 1 then q.2.2.name.data.toList else []) ++ ownS r := by simp [ownS]
    have e2 : plsOf 1 (q :: r) = (if q.2.2.kind = 1 then [((q.1 : Int), (q.2.1 : Int))] else []) ++ plsOf 1 r := by
      unfold plsOf
      rw [List.filter_cons]
      by_cases hk : q.2.2.kind = 1
      · rw [if_pos hk, if_pos (by simpa using hk)]; rfl
      · rw [if_neg hk, if_neg (by simpa using hk)]; rfl
    rw [e2] at h
    rw [e1]
    by_cases hk : q.2.2.kind = 1
    · rw [if_pos hk] at h
      rw [if_pos hk, hb]
      cases k with
      | zero =>
        simp at h
        exact ⟨q, b, List.mem_cons_self, hk, h.symm, hb, by simp⟩
      | succ k =>
        obtain ⟨q', b', h1, h2, h3, h4, h5⟩ := ih k p (by simpa using h)
        exact ⟨q', b', List.mem_cons_of_mem _ h1, h2, h3, h4, by simpa using h5⟩
    · rw [if_neg hk] at h
      rw [if_neg hk]
      obtain ⟨q', b', h1, h2, h3, h4, h5⟩ := ih k p (by simpa using h)
      exact ⟨q', b', List.mem_cons_of_mem _ h1, h2, h3, h4, by simpa using h5⟩
theorem bytes_of {a b : ByteArray} (h : a.data.toList = b.data.toList) : a = b := by
  obtain ⟨⟨a⟩⟩ := a
  obtain ⟨⟨b⟩⟩ := b
  have : a = b := h
  rw [this]
/-- Own names are good, where z is none of them. -/
theorem own_good {ss : List Sc} (hv : Valid ss) (hc : Clear ss) {names : ByteArray} (hn : names.data.toList = ownT ss) (hz : (122 : UInt8) ∉ ownT ss) : nmgOk ss names ∧ chgA ss (nmgG ss names) = [] := by
  have hok : nmgOk ss names := ⟨⟨hv, hc⟩, by
    have := congrArg List.length hn
    rw [Array.length_toList, ownT_length hv] at this
    exact this, fun b hb => by
    rw [hn] at hb
    have h1 := ownS_bytes hv (fun _ h => h) b hb
    have h2 : b ≠ 122 := fun e => hz (e ▸ hb)
    have h3 : b.toNat ≠ 122 := fun e => h2 (UInt8.toNat_inj.1 e)
    omega⟩
  refine ⟨hok, MisZ.same (f := nmgF ss names) ⟨hv, hok.valid, ?_⟩⟩
  rintro ⟨i, j, x⟩ hq
  dsimp only
  have hl := hc _ hq
  have hd := mean_dcl hv hq
  have e0 : nmgF ss names i j x.name = nmK names (boundK (dclP ss) (meanIt ss (i, j, x))) := by unfold nmgF; rw [meanAt_of hq]
  rw [e0]
  cases hm : meanIt ss (i, j, x) with
  | nil =>
    refine .inr ⟨fun hk => ?_, rfl, fun p hp hk => ?_⟩
    · unfold meanIt at hm
      dsimp only at hm hk
      rw [if_neg (by omega), if_neg (by omega)] at hm
      cases hm
    · show p.2.2.name ≠ nmK names (-1)
      intro e
      apply hz
      have h5 : p.2.2.name.data.toList = [122] := by rw [e]; rfl
      unfold ownT ownS
      refine List.mem_flatMap.2 ⟨p, hp, ?_⟩
      rw [if_pos hk, h5]
      simp
  | cons d r =>
    cases r with
    | cons d2 r2 => rw [hm] at hl; simp at hl
    | nil =>
      refine .inl ?_
      rw [hm] at hd
      have hd1 := hd d (by simp)
      have hp0 := posOf_mem hd1
      have hg := posOf_get hp0
      obtain ⟨q, b, h1, h2, h3, h4, h5⟩ := own_letter hv (placed 0 ss) (fun _ h => h) _ _ hg
      show nmK names (posOf (dclP ss) d) = x.name
      unfold nmK
      rw [if_neg (by omega), hn]
      have h6 : (ownT ss)[(posOf (dclP ss) d).toNat]? = some b := h5
      rw [h6, Option.getD_some]
      have hxn : q.2.2.name = x.name := by
        by_cases hk : x.kind = 1
        · have e1 : meanIt ss (i, j, x) = [((i : Int), (j : Int))] := by
            unfold meanIt
            dsimp only
            rw [if_neg (by omega), if_neg (by omega)]
          rw [e1] at hm
          have e2 : ((i : Int), (j : Int)) = d := by simpa using hm
          rw [← e2] at h3
          obtain ⟨i', j', x'⟩ := q
          have e3 := Prod.mk.inj h3
          dsimp only at e3
          obtain rfl : i = i' := by omega
          obtain rfl : j = j' := by omega
          have a1 := placed_item h1
          have a2 := placed_item hq
          dsimp only at a1 a2
          rw [a1] at a2
          rw [Option.some.inj a2]
        · obtain ⟨y, hy, -, hyn⟩ := mean_declM (q := (i, j, x)) (ss := ss) (by rcases kind_cases hv hq with h | h | h <;> simp_all) (p := d) (by rw [hm]; simp)
          rw [h3] at hy
          have a1 := placed_item h1
          dsimp only at a1 hy
          rw [a1] at hy
          rw [Option.some.inj hy]
          exact hyn
      rw [← hxn]
      exact bytes_of h4.symm
end Go.Proofs.YtjogfagjcpcihaaDoor
namespace Go.Proofs.YtjogfagjcpcihaaDoor
open Go Go.RowKit
theorem swap_back (ss : List Sc) (a b : ByteArray) : renP (renP ss (swapF a b)) (swapF a b) = ss := by
  rw [renP_comp]
  conv => rhs; rw [← renP_id ss]
  refine renP_congr fun i j s x _ _ => ?_
  unfold swapF
  by_cases h1 : x.name = a
  · rw [if_pos h1]
    by_cases h2 : b = a
    · rw [if_pos h2, h1, h2]
    · rw [if_neg h2, if_pos rfl, h1]
  · rw [if_neg h1]
    by_cases h2 : x.name = b
    · rw [if_pos h2, if_pos rfl, h2]
    · rw [if_neg h2, if_neg h1, if_neg h2]
theorem shape_ren (ss : List Sc) (f : NameF) : ss.map shS = (renP ss f).map shS := by
  refine List.ext_getElem? fun i => ?_
  rw [List.getElem?_map, List.getElem?_map, renP_get]
  cases ss[i]? with
  | none => rfl
  | some s =>
    simp only [Option.map_some, Option.some.injEq]
    unfold shS renSc
    simp only [Prod.mk.injEq, true_and]
    refine List.ext_getElem? fun j => ?_
    rw [List.getElem?_map, List.getElem?_map, List.getElem?_mapIdx]
    cases s.items[j]? <;> rfl
theorem filtL_map {f g : Nat × Nat × It → Bool} {h : Nat × Nat × It → Nat × Nat × It} {l : List (Nat × Nat × It)} (h1 : ∀ q ∈ l, f (h q) = g q) (h2 : ∀ q, plOf (h q) = plOf q) : filtL f (l.map h) = filtL g l := by
  unfold filtL
  rw [List.filter_map, List.map_map]
  rw [show plOf ∘ h = plOf from funext h2]
  congr 1
  exact List.filter_congr h1
/-- Where nothing changes, all items mean the same under their new names. -/
theorem ren_means {ss : List Sc} {f : NameF} (h : chgA ss (renP ss f) = []) {q : Nat × Nat × It} (hq : q ∈ placed 0 ss) : meanIt (renP ss f) (q.1, q.2.1, renIt f q.1 q.2.1 q.2.2) = meanIt ss q := by
  unfold chgA filtL at h
  rw [List.map_eq_nil_iff, List.filter_eq_nil_iff] at h
  have h1 := h q hq
  simp only [Bool.not_eq_true', decide_eq_false_iff_not, Decidable.not_not] at h1
  obtain ⟨i, j, x⟩ := q
  have h2 := meanAt_of (placed_ren (f := f) hq)
  dsimp only at h1 ⊢
  rw [h1, h2]
theorem users_ren {ss : List Sc} {f : NameF} (h : chgA ss (renP ss f) = []) (d : Int × Int) : usersP (renP ss f) d = usersP ss d := by
  unfold usersP
  rw [placed_renP]
  refine filtL_map (fun q hq => ?_) (fun q => rfl)
  unfold aloneB
  dsimp only
  rw [ren_means h hq]
  rfl
/-- A declaration and all that mean it alone have one name. -/
theorem users_name {ss : List Sc} {a b : Nat} {x : It} (hx : (a, b, x) ∈ placed 0 ss) {i j : Nat} {y : It} (hy : (i, j, y) ∈ placed 0 ss) (hv : Valid ss) (h : ((i : Int), (j : Int)) ∈ usersP ss ((a : Int), (b : Int)) ++ [((a : Int), (b : Int))]) : y.name = x.name := by
  rcases List.mem_append.1 h with h | h
  · unfold usersP filtL at h
    obtain ⟨⟨i', j', z⟩, hz, he⟩ := List.mem_map.1 h
    obtain ⟨hz1, hz2⟩ := List.mem_filter.1 hz
    unfold plOf at he
    have he' := Prod.mk.inj he
    dsimp only at he'
    obtain rfl : i' = i := by omega
    obtain rfl : j' = j := by omega
    have e1 := placed_item hz1
    have e1' := placed_item hy
    dsimp only at e1 e1'
    rw [e1] at e1'
    obtain rfl := Option.some.inj e1'
    unfold aloneB at hz2
    simp only [Bool.and_eq_true, decide_eq_true_eq] at hz2
    have hk : z.kind = 2 ∨ z.kind = 3 := by
      rcases kind_cases hv hz1 with h1 | h1
      · exact absurd h1 hz2.1
      · exact h1
    obtain ⟨w, hw, _, hn⟩ := mean_declM (ss := ss) (q := (i', j', z)) hk (p := ((a : Int), (b : Int))) (by rw [hz2.2]; exact List.mem_singleton.2 rfl)
    have e2 := placed_item hx
    dsimp only at e2 hw
    rw [e2] at hw
    obtain rfl := Option.some.inj hw
    exact hn.symm
  · have he' := Prod.mk.inj (List.mem_singleton.1 h)
    obtain rfl : i = a := by omega
    obtain rfl : j = b := by omega
    have e1 := placed_item hx
    have e2 := placed_item hy
    dsimp only at e1 e2
    rw [e1] at e2
    rw [Option.some.inj e2]
/-- A renaming to the own name. -/
theorem ren_none {ss : List Sc} (hv : Valid ss) {a b : Nat} {x : It} (hx : (a, b, x) ∈ placed 0 ss) : renG ss (a : Int) (b : Int) x.name = ss := by
  unfold renG
  conv => rhs; rw [← renP_id ss]
  refine renP_congr fun i j s y hs hy => ?_
  unfold nmIn
  by_cases h : ((i : Int), (j : Int)) ∈ usersP ss ((a : Int), (b : Int)) ++ [((a : Int), (b : Int))]
  · rw [if_pos h]; exact (users_name hx (placed_of hs hy) hv h).symm
  · rw [if_neg h]
/-- A renaming that changes nothing, taken back. -/
theorem ren_back {ss : List Sc} (hv : Valid ss) {a b : Nat} {x : It} {nm : ByteArray} (hx : (a, b, x) ∈ placed 0 ss) (hc : chgA ss (renG ss (a : Int) (b : Int) nm) = []) : renG (renG ss (a : Int) (b : Int) nm) (a : Int) (b : Int) x.name = ss := by
  have hu : usersP (renG ss (a : Int) (b : Int) nm) ((a : Int), (b : Int)) = usersP ss ((a : Int), (b : Int)) := users_ren hc _
  conv => lhs; unfold renG
  rw [show usersP (renP ss (nmIn (usersP ss ((a : Int), (b : Int)) ++ [((a : Int), (b : Int))]) nm)) ((a : Int), (b : Int)) = usersP ss ((a : Int), (b : Int)) from hu, renP_comp]
  conv => rhs; rw [← renP_id ss]
  refine renP_congr fun i j s y hs hy => ?_
  unfold nmIn
  by_cases h : ((i : Int), (j : Int)) ∈ usersP ss ((a : Int), (b : Int)) ++ [((a : Int), (b : Int))]
  · rw [if_pos h]; exact (users_name hx (placed_of hs hy) hv h).symm
  · rw [if_neg h, if_neg h]
/-- The items of a graph that is left as it is change nothing. -/
theorem chg_self (ss : List Sc) : chgA ss ss = [] := by
  unfold chgA filtL
  rw [List.map_eq_nil_iff, List.filter_eq_nil_iff]
  rintro ⟨i, j, x⟩ hq
  have h := meanAt_of hq
  dsimp only
  rw [h]
  simp
end Go.Proofs.YtjogfagjcpcihaaDoor
namespace Go.Proofs.YtjogfagjcpcihaaDoor
open Go Go.RowKit
theorem nodup_le {α : Type} [DecidableEq α] : ∀ {u l : List α}, u.Nodup → (∀ x ∈ u, x ∈ l) → u.length ≤ l.length
  | [], _, _, _ => Nat.zero_le _
  | x :: r, l, hu, hs => by
    have hx := hs x List.mem_cons_self
    have h1 : r.length ≤ (l.erase x).length := nodup_le (List.nodup_cons.1 hu).2 fun y hy => by
      refine (List.mem_erase_of_ne ?_).2 (hs y (List.mem_cons_of_mem _ hy))
      rintro rfl
      exact (List.nodup_cons.1 hu).1 hy
    have h2 : 0 < l.length := List.length_pos_of_mem hx
    rw [List.length_erase_of_mem hx] at h1
    simp only [List.length_cons]
    omega
theorem nodup_all {α : Type} [DecidableEq α] {u l : List α} (hu : u.Nodup) (hs : ∀ x ∈ u, x ∈ l) (hl : l.length ≤ u.length) : ∀ x ∈ l, x ∈ u := by
  intro x hx
  refine Decidable.byContradiction fun hn => ?_
  have h := nodup_le (u := x :: u) (l := l) (List.nodup_cons.2 ⟨hn, hu⟩) (fun y hy => by
    rcases List.mem_cons.1 hy with rfl | hy
    · exact hx
    · exact hs y hy)
  simp only [List.length_cons] at h
  omega
theorem plOf_nodup (ss : List Sc) : ((placed 0 ss).map plOf).Nodup := by
  unfold List.Nodup
  rw [List.pairwise_map]
  refine (placed_apart 0 ss).imp fun {p q} h e => h ?_
  unfold plOf at e
  have h1 := Prod.mk.inj e
  exact ⟨by omega, by omega⟩
theorem filtL_nodup (ss : List Sc) (f : Nat × Nat × It → Bool) : (filtL f (placed 0 ss)).Nodup := by
  unfold filtL
  exact List.Sublist.nodup (List.filter_sublist.map _) (plOf_nodup ss)
/-- The items of a name. -/
def namedP (ss : List Sc) (nm : ByteArray) : List (Int × Int) := filtL (fun q => decide (q.2.2.name = nm)) (placed 0 ss)
theorem mem_named {ss : List Sc} {nm : ByteArray} {i j : Nat} {y : It} (hq : (i, j, y) ∈ placed 0 ss) : ((i : Int), (j : Int)) ∈ namedP ss nm ↔ y.name = nm := by
  unfold namedP filtL
  constructor
  · intro h
    obtain ⟨⟨i', j', z⟩, hz, he⟩ := List.mem_map.1 h
    obtain ⟨hz1, hz2⟩ := List.mem_filter.1 hz
    unfold plOf at he
    have he' := Prod.mk.inj he
    dsimp only at he' hz2
    obtain rfl : i' = i := by omega
    obtain rfl : j' = j := by omega
    have e1 := placed_item hz1
    have e2 := placed_item hq
    dsimp only at e1 e2
    rw [e1] at e2
    rw [← Option.some.inj e2]
    exact of_decide_eq_true hz2
  · intro h
    exact List.mem_map.2 ⟨_, List.mem_filter.2 ⟨hq, decide_eq_true h⟩, rfl⟩
/-- Where as many items have the name as mean the declaration alone, and it, these are they. -/
theorem named_users {ss : List Sc} (hv : Valid ss) {a b : Nat} {x : It} (hx : (a, b, x) ∈ placed 0 ss) (hk : x.kind = 1) (hl : (namedP ss x.name).length = (usersP ss ((a : Int), (b : Int))).length + 1) {i j : Nat} {y : It} (hy : (i, j, y) ∈ placed 0 ss) :
    ((i : Int), (j : Int)) ∈ usersP ss ((a : Int), (b : Int)) ++ [((a : Int), (b : Int))] ↔ y.name = x.name := by
  refine ⟨fun h => users_name hx hy hv h, fun h => ?_⟩
  have hself : ((a : Int), (b : Int)) ∉ usersP ss ((a : Int), (b : Int)) := by
    unfold usersP filtL
    intro h1
    obtain ⟨⟨i', j', z⟩, hz, he⟩ := List.mem_map.1 h1
    obtain ⟨hz1, hz2⟩ := List.mem_filter.1 hz
    unfold plOf at he
    have he' := Prod.mk.inj he
    dsimp only at he'
    obtain rfl : i' = a := by omega
    obtain rfl : j' = b := by omega
    have e1 := placed_item hz1
    have e2 := placed_item hx
    dsimp only at e1 e2
    rw [e1] at e2
    obtain rfl := Option.some.inj e2
    unfold aloneB at hz2
    simp only [Bool.and_eq_true, decide_eq_true_eq] at hz2
    exact hz2.1 hk
  have hn : (usersP ss ((a : Int), (b : Int)) ++ [((a : Int), (b : Int))]).Nodup := by
    refine List.nodup_append.2 ⟨filtL_nodup ss _, by simp, ?_⟩
    intro p hp q hq e
    rw [List.mem_singleton.1 hq] at e
    rw [e] at hp
    exact hself hp
  have hsub : ∀ p ∈ usersP ss ((a : Int), (b : Int)) ++ [((a : Int), (b : Int))], p ∈ namedP ss x.name := by
    intro p hp
    have h2 : ∃ (i' j' : Nat) (z : It), p = ((i' : Int), (j' : Int)) ∧ (i', j', z) ∈ placed 0 ss := by
      rcases List.mem_append.1 hp with h1 | h1
      · unfold usersP filtL at h1
        obtain ⟨⟨i', j', z⟩, hz, rfl⟩ := List.mem_map.1 h1
        exact ⟨i', j', z, rfl, (List.mem_filter.1 hz).1⟩
      · exact ⟨a, b, x, List.mem_singleton.1 h1, hx⟩
    obtain ⟨i', j', z, rfl, hz⟩ := h2
    exact (mem_named hz).2 (users_name hx hz hv hp)
  exact nodup_all hn hsub (by rw [List.length_append, List.length_singleton]; omega) _ ((mem_named hy).2 h)
/-- A name that no item has is a good one then. -/
theorem fresh_good {ss : List Sc} (hv : Valid ss) {a b : Nat} {x : It} {nm : ByteArray} (hx : (a, b, x) ∈ placed 0 ss) (hk : x.kind = 1) (hnm : nameB nm = true) (hno : ¬ NameOf ss nm) (hl : (namedP ss x.name).length = (usersP ss ((a : Int), (b : Int))).length + 1) : chgA ss (renG ss (a : Int) (b : Int) nm) = [] := by
  have e : renG ss (a : Int) (b : Int) nm = renP ss (nameIs fun n => if n = x.name then nm else n) := by
    unfold renG
    refine renP_congr fun i j s y hs hy => ?_
    unfold nmIn nameIs
    dsimp only
    have h := named_users hv hx hk hl (placed_of hs hy)
    by_cases h1 : y.name = x.name
    · rw [if_pos (h.2 h1), if_pos h1]
    · rw [if_neg (fun k => h1 (h.1 k)), if_neg h1]
  rw [e]
  refine Inj.same ⟨hv, Valid.ren hv fun i j y hq => ?_, fun n m hn hm h => ?_⟩
  · unfold nameIs
    dsimp only
    split
    · exact hnm
    · exact name_placed hv hq
  · by_cases h1 : n = x.name
    · by_cases h2 : m = x.name
      · rw [h1, h2]
      · rw [if_pos h1, if_neg h2] at h
        exact absurd (h ▸ hm) hno
    · by_cases h2 : m = x.name
      · rw [if_neg h1, if_pos h2] at h
        exact absurd (h ▸ hn) hno
      · rw [if_neg h1, if_neg h2] at h
        exact h
end Go.Proofs.YtjogfagjcpcihaaDoor
namespace Go.Proofs.YtjogfagjcpcihaaDoor
open Go Go.RowKit
theorem dcl_nodup (ss : List Sc) : (dclP ss).Nodup := filtL_nodup ss _
theorem own_named {ss : List Sc} {names : ByteArray} (h : nmgOk ss names) : ownT (nmgG ss names) = names.data.toList := by
  have hv := h.valid
  have hd : dclP (nmgG ss names) = dclP ss := dcl_ren ss _
  have hl : (ownT (nmgG ss names)).length = (dclP ss).length := by rw [ownT_length hv, hd]
  have hn : names.data.toList.length = (dclP ss).length := by rw [Array.length_toList]; exact h.2.1
  refine List.ext_getElem? fun k => ?_
  by_cases hk : k < (dclP ss).length
  · obtain ⟨p, hp⟩ : ∃ p, (dclP ss)[k]? = some p := ⟨_, List.getElem?_eq_getElem hk⟩
    have hp2 : (plsOf 1 (placed 0 (nmgG ss names)))[k]? = some p := by
      have : (dclP (nmgG ss names))[k]? = some p := by rw [hd]; exact hp
      exact this
    obtain ⟨⟨i, j, y⟩, b, h1, h2, h3, h4, h5⟩ := own_letter hv _ (fun _ h => h) k p hp2
    show (ownS (placed 0 (nmgG ss names)))[k]? = _
    rw [h5]
    obtain ⟨x, hx, rfl⟩ := placed_unren h1
    dsimp only at h2 h3 h4
    have hk1 : x.kind = 1 := h2
    have hm : meanAt ss (i : Int) (j : Int) = [((i : Int), (j : Int))] := by
      rw [meanAt_of hx]
      unfold meanIt
      dsimp only
      rw [if_neg (by omega), if_neg (by omega)]
    have hb : nmK names (k : Int) = ⟨#[b]⟩ := by
      have e1 : (renIt (nmgF ss names) i j x).name = nmK names (boundK (dclP ss) [((i : Int), (j : Int))]) := by
        show nmK names (boundK (dclP ss) (meanAt ss (i : Int) (j : Int))) = _
        rw [hm]
      have e2 : posOf (dclP ss) ((i : Int), (j : Int)) = (k : Int) := posOf_at (dcl_nodup ss) (by rw [hp, h3])
      rw [e1] at h4
      show nmK names (k : Int) = _
      rw [← e2]
      exact bytes_of h4
    unfold nmK at hb
    rw [if_neg (by omega), Int.toNat_natCast, List.getElem?_eq_getElem (by omega), Option.getD_some] at hb
    rw [List.getElem?_eq_getElem (by omega)]
    have hb2 := congrArg (fun z : ByteArray => z.data.toList) hb
    simp at hb2
    simp [hb2]
  · rw [List.getElem?_eq_none (by omega), List.getElem?_eq_none (by omega)]
theorem cntL_len : ∀ S : List UInt8, (∀ b ∈ S, 97 ≤ b.toNat ∧ b.toNat ≤ 122) → cntL S ≤ S.length := by
  have e : ∀ n (S : List UInt8), S.length = n → (∀ b ∈ S, 97 ≤ b.toNat ∧ b.toNat ≤ 122) → cntL S ≤ S.length := by
    intro n
    induction n with
    | zero => intro S hS _; rw [List.length_eq_zero_iff.1 hS, cntL_nil]; exact Nat.zero_le _
    | succ n ih =>
      intro S hS hb
      have hne : S ≠ [] := by rintro rfl; simp at hS
      rw [← List.dropLast_concat_getLast hne] at hb ⊢
      have h1 := ih S.dropLast (by rw [List.length_dropLast]; omega) (fun b h => hb b (by simp [h]))
      have h2 := hb (S.getLast hne) (by simp)
      rw [cntL_snoc h2.1 h2.2, List.length_append, List.length_singleton]
      split <;> omega
  exact fun S => e _ S rfl
end Go.Proofs.YtjogfagjcpcihaaDoor
