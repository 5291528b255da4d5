/-
  Namings as plain data: which declaration an item means alone, the names that a naming gives, and that all items mean the same with them exactly if two tables are the same. Plain facts. The letters of a text, each once and in order, and how many they are; the text of the names of declarations. Plain facts. Names exchanged for others so that different ones stay different: all items mean the same. Plain facts. Items that mean nothing get a name that no declaration has: all items mean the same then. And a graph that is named by its own names. Plain facts. Renamings taken back; when nothing changes, those that use a declaration are those that used it; a renaming to the own name is none. Plain facts. A declaration whose name only those have that mean it alone can have each name that no item has: nothing changes then. Plain facts. A graph that has the names of a naming has these as its own names. Plain facts.
-/
import Derived.Test.YtgehpaojbnpbcaaGreatDoorJDZ
import Derived.Test.YtgehpaojbnpbcaaGreatDoorJEZ
import Derived.Test.YtgehpaojbnpbcaaGreatDoorMeanDZ
import Derived.Test.YtgehpaojbnpbcaaGreatDoorJAZ
import Derived.Test.YtgehpaojbnpbcaaGreatDoorWSpecItemsZ
import Derived.Test.YtgehpaojbnpbcaaGreatDoorJTZ
namespace Go.Proofs.YtgehpaojbnpbcaaGreatDoor
open Go Go.RowKit
/-- Where a place stands last among the first k of a list, or -1. -/
def posUp (D : List (Int × Int)) (p : Int × Int) : Nat → Int
  | 0 => -1
  | k + 1 => if D[k]? = some p then (k : Int) else posUp D p k
def posOf (D : List (Int × Int)) (p : Int × Int) : Int := posUp D p D.length
theorem posUp_range (D : List (Int × Int)) (p : Int × Int) : ∀ k : Nat, -1 ≤ posUp D p k ∧ posUp D p k < (k : Int)
  | 0 => by unfold posUp; omega
  | k + 1 => by
    have ih := posUp_range D p k
    unfold posUp
    split <;> omega
theorem posUp_get {D : List (Int × Int)} {p : Int × Int} : ∀ {k : Nat}, 0 ≤ posUp D p k → D[(posUp D p k).toNat]? = some p
  | 0, h => by unfold posUp at h; omega
  | k + 1, h => by
    unfold posUp at h ⊢
    split
    · rename_i hk
      rw [Int.toNat_natCast]
      exact hk
    · rename_i hk
      rw [if_neg hk] at h
      exact posUp_get h
theorem posUp_some {D : List (Int × Int)} {p : Int × Int} : ∀ {k i : Nat}, i < k → D[i]? = some p → 0 ≤ posUp D p k
  | 0, _, h, _ => by omega
  | k + 1, i, h, hi => by
    unfold posUp
    split
    · omega
    · rename_i hk
      have hne : i ≠ k := fun e => hk (e ▸ hi)
      exact posUp_some (by omega) hi
theorem posOf_range (D : List (Int × Int)) (p : Int × Int) : -1 ≤ posOf D p ∧ posOf D p < (D.length : Int) := posUp_range D p _
theorem posOf_mem {D : List (Int × Int)} {p : Int × Int} (h : p ∈ D) : 0 ≤ posOf D p := by
  obtain ⟨i, hi⟩ := List.mem_iff_getElem?.1 h
  exact posUp_some (List.getElem?_eq_some_iff.1 hi).1 hi
theorem posOf_get {D : List (Int × Int)} {p : Int × Int} (h : 0 ≤ posOf D p) : D[(posOf D p).toNat]? = some p := posUp_get h
theorem posOf_inj {D : List (Int × Int)} {p q : Int × Int} (hp : p ∈ D) (h : posOf D p = posOf D q) : p = q := by
  have h1 := posOf_get (posOf_mem hp)
  have h2 := posOf_get (show 0 ≤ posOf D q by rw [← h]; exact posOf_mem hp)
  rw [h, h2] at h1
  exact (Option.some.inj h1).symm
theorem posOf_at {D : List (Int × Int)} (hn : D.Nodup) {p : Int × Int} {i : Nat} (hi : D[i]? = some p) : posOf D p = (i : Int) := by
  have h1 := posOf_get (posOf_mem (List.mem_of_getElem? hi))
  have h2 := posOf_mem (List.mem_of_getElem? hi)
  obtain ⟨a1, a2⟩ := List.getElem?_eq_some_iff.1 h1
  obtain ⟨b1, b2⟩ := List.getElem?_eq_some_iff.1 hi
  have h3 := (List.getElem_inj (h₀ := a1) (h₁ := b1) hn).1 (a2.trans b2.symm)
  omega
/-- Which place of a list is meant alone, or -1. -/
def boundK (D l : List (Int × Int)) : Int := match l with
  | [p] => posOf D p
  | _ => -1
/-- The same from 1 on; 0 where nothing is meant, and -1 where several are. -/
def boundT (D l : List (Int × Int)) : Int := match l with
  | [] => 0
  | [p] => posOf D p + 1
  | _ :: _ :: _ => -1
theorem boundK_range (D l : List (Int × Int)) : -1 ≤ boundK D l ∧ boundK D l < (D.length : Int) := by
  unfold boundK
  split
  · exact posOf_range D _
  · omega
theorem boundT_several {D l : List (Int × Int)} : boundT D l = -1 ↔ 1 < l.length := by
  match l with
  | [] => simp [boundT]
  | [p] =>
    have := posOf_range D p
    simp [boundT]
    omega
  | a :: b :: r => simp [boundT]
theorem boundT_inj {D l l' : List (Int × Int)} (hl : l.length ≤ 1) (h1 : ∀ p ∈ l, p ∈ D) (h2 : ∀ p ∈ l', p ∈ D) (h : boundT D l = boundT D l') : l = l' := by
  have e2 : ¬ 1 < l'.length := fun hc => by
    have := (boundT_several (D := D)).2 hc
    rw [← h] at this
    have := boundT_several.1 this
    omega
  match l, l', hl, e2 with
  | [], [], _, _ => rfl
  | [], [q], _, _ =>
    have := posOf_mem (h2 q (by simp))
    simp [boundT] at h
    omega
  | [p], [], _, _ =>
    have := posOf_mem (h1 p (by simp))
    simp [boundT] at h
    omega
  | [p], [q], _, _ =>
    simp [boundT] at h
    rw [posOf_inj (h1 p (by simp)) h]
  | _, _ :: _ :: _, _, e2 => simp at e2
/-- No item means several declarations. -/
def Clear (ss : List Sc) : Prop := ∀ q ∈ placed 0 ss, (meanIt ss q).length ≤ 1
/-- A letter from a to y for each of a number of declarations. -/
def Naming (names : ByteArray) (n : Nat) : Prop := names.size = n ∧ ∀ b ∈ names.data.toList, 97 ≤ b.toNat ∧ b.toNat ≤ 121
/-- The name by its number; z for none. -/
def nmK (names : ByteArray) (k : Int) : ByteArray := if k < 0 then ⟨#[122]⟩ else ⟨#[(names.data.toList[k.toNat]?).getD 122]⟩
/-- The declarations of a graph. -/
def dclP (ss : List Sc) : List (Int × Int) := plsP ss 1
/-- The renaming to a naming's letters. -/
def nmgF (ss : List Sc) (names : ByteArray) : NameF := fun i j _ => nmK names (boundK (dclP ss) (meanAt ss (i : Int) (j : Int)))
def nmgG (ss : List Sc) (names : ByteArray) : List Sc := renP ss (nmgF ss names)
def nmgOk (ss : List Sc) (names : ByteArray) : Prop := (Valid ss ∧ Clear ss) ∧ Naming names (dclP ss).length
theorem nmK_letter {names : ByteArray} {n : Nat} (h : Naming names n) {k : Int} (hk : k < (n : Int)) : ∃ b : UInt8, nmK names k = ⟨#[b]⟩ ∧ 97 ≤ b.toNat ∧ b.toNat ≤ 122 := by
  unfold nmK
  split
  · exact ⟨122, rfl, by decide, by decide⟩
  · have hsz : names.data.toList.length = n := by rw [Array.length_toList]; exact h.1
    have hlt : k.toNat < names.data.toList.length := by omega
    refine ⟨_, rfl, ?_⟩
    rw [List.getElem?_eq_getElem hlt, Option.getD_some]
    have := h.2 _ (List.getElem_mem hlt)
    omega
theorem nameB_byte {b : UInt8} (h1 : 97 ≤ b.toNat) (h2 : b.toNat ≤ 122) : nameB ⟨#[b]⟩ = true := by
  unfold nameB inB
  simp
  omega
theorem nmgOk.letter {ss : List Sc} {names : ByteArray} (h : nmgOk ss names) (i j : Nat) (nm : ByteArray) : ∃ b : UInt8, nmgF ss names i j nm = ⟨#[b]⟩ ∧ 97 ≤ b.toNat ∧ b.toNat ≤ 122 :=
  nmK_letter h.2 (boundK_range _ _).2
theorem nmgOk.valid {ss : List Sc} {names : ByteArray} (h : nmgOk ss names) : Valid (nmgG ss names) :=
  h.1.1.ren fun i j x _ => by
    obtain ⟨b, hb, h1, h2⟩ := h.letter i j x.name
    rw [hb]
    exact nameB_byte h1 h2
theorem nmgOk.size {ss : List Sc} {names : ByteArray} (h : nmgOk ss names) (i j : Nat) (nm : ByteArray) : (nmgF ss names i j nm).size ≤ 2 ^ 63 - 1 := by
  obtain ⟨b, hb, -, -⟩ := h.letter i j nm
  rw [hb]
  show 1 ≤ 2 ^ 63 - 1
  decide
theorem dcl_ren (ss : List Sc) (f : NameF) : dclP (renP ss f) = dclP ss := by
  unfold dclP plsP plsOf
  rw [placed_renP, List.filter_map, List.map_map]
  rfl
theorem dcl_filt (ss : List Sc) : dclP ss = filtL (fun q => q.2.2.kind == 1) (placed 0 ss) := rfl
theorem mem_dcl {ss : List Sc} {p : Int × Int} {x : It} (h : itemAtP ss p.1 p.2 = some x) (hk : x.kind = 1) : p ∈ dclP ss := by
  obtain ⟨a, b⟩ := p
  obtain ⟨c, d, rfl, rfl, hq⟩ := item_placed h
  rw [dcl_filt]
  unfold filtL
  exact List.mem_map.2 ⟨(c, d, x), List.mem_filter.2 ⟨hq, by simpa using hk⟩, rfl⟩
/-- What items mean are declarations. -/
theorem mean_dcl {ss : List Sc} (hv : Valid ss) {q : Nat × Nat × It} (hq : q ∈ placed 0 ss) : ∀ p ∈ meanIt ss q, p ∈ dclP ss := by
  intro p hp
  rcases kind_cases hv hq with h | h
  · obtain ⟨i, j, x⟩ := q
    have h1 : meanIt ss (i, j, x) = [((i : Int), (j : Int))] := by
      unfold meanIt
      dsimp only at h ⊢
      rw [if_neg (by omega), if_neg (by omega)]
    rw [h1, List.mem_singleton] at hp
    subst hp
    exact mem_dcl (placed_item hq) h
  · obtain ⟨y, hy, hy1, -⟩ := mean_declM h hp
    exact mem_dcl hy hy1
/-- The table of what items mean alone. -/
def tabT (ss : List Sc) (i j : Nat) : Int := boundT (dclP ss) (meanAt ss (i : Int) (j : Int))
theorem mean_ofAt {ss : List Sc} {a b : Nat} (h : meanAt ss (a : Int) (b : Int) ≠ []) : ∃ x, (a, b, x) ∈ placed 0 ss ∧ meanAt ss (a : Int) (b : Int) = meanIt ss (a, b, x) := by
  unfold meanAt at h
  cases hx : itemAtP ss (a : Int) (b : Int) with
  | none => rw [hx] at h; exact absurd rfl h
  | some x =>
    obtain ⟨c, d, h1, h2, hq⟩ := item_placed hx
    obtain rfl : a = c := by omega
    obtain rfl : b = d := by omega
    exact ⟨x, hq, meanAt_of hq⟩
theorem meanAt_dcl {ss : List Sc} (hv : Valid ss) {i j : Nat} : ∀ p ∈ meanAt ss (i : Int) (j : Int), p ∈ dclP ss := by
  intro p hp
  obtain ⟨x, hq, he⟩ := mean_ofAt (ss := ss) (a := i) (b := j) (fun e => by rw [e] at hp; cases hp)
  rw [he] at hp
  exact mean_dcl hv hq p hp
theorem meanAt_clear {ss : List Sc} (hc : Clear ss) (i j : Nat) : (meanAt ss (i : Int) (j : Int)).length ≤ 1 := by
  by_cases h : meanAt ss (i : Int) (j : Int) = []
  · rw [h]; simp
  · obtain ⟨x, hq, he⟩ := mean_ofAt h
    rw [he]
    exact hc _ hq
/-- Nothing changes exactly if the tables are the same. -/
theorem chg_tab {ss : List Sc} (hv : Valid ss) (hc : Clear ss) {f : NameF} (hv2 : Valid (renP ss f)) : chgA ss (renP ss f) = [] ↔ ∀ i j, tabT ss i j = tabT (renP ss f) i j := by
  unfold chgA filtL
  rw [List.map_eq_nil_iff, List.filter_eq_nil_iff]
  unfold tabT
  constructor
  · intro h i j
    rw [dcl_ren]
    by_cases hn : itemAtP ss (i : Int) (j : Int) = none
    · have e1 : meanAt ss (i : Int) (j : Int) = [] := by unfold meanAt; rw [hn]
      have e2 : meanAt (renP ss f) (i : Int) (j : Int) = [] := Decidable.byContradiction fun hne => by
        obtain ⟨y, hy, -⟩ := mean_ofAt hne
        obtain ⟨x, hx, -⟩ := placed_unren hy
        have := placed_item hx
        dsimp only at this
        rw [hn] at this
        cases this
      rw [e1, e2]
    · obtain ⟨x, hx⟩ := Option.ne_none_iff_exists'.1 hn
      obtain ⟨c, d, h1, h2, hq⟩ := item_placed hx
      obtain rfl : i = c := by omega
      obtain rfl : j = d := by omega
      have h3 := h _ hq
      dsimp only at h3
      rw [meanAt_of hq, show meanIt ss (i, j, x) = meanAt (renP ss f) (i : Int) (j : Int) by simpa using h3]
  · rintro h ⟨i, j, x⟩ hq
    have h1 := h i j
    rw [dcl_ren, meanAt_of hq] at h1
    have h2 := boundT_inj (hc _ hq) (mean_dcl hv hq) (fun p hp => by have := meanAt_dcl hv2 p hp; rw [dcl_ren] at this; exact this) h1
    dsimp only
    rw [h2]
    simp
/-- Whether an item means several declarations, by the table. -/
theorem clear_tab {ss : List Sc} : Clear ss ↔ ∀ i j : Nat, tabT ss i j ≠ -1 := by
  constructor
  · intro h i j e
    have := boundT_several.1 e
    have := meanAt_clear h i j
    omega
  · rintro h ⟨i, j, x⟩ hq
    have h1 := h i j
    unfold tabT at h1
    rw [meanAt_of hq] at h1
    have : ¬ 1 < (meanIt ss (i, j, x)).length := fun hc => h1 (boundT_several.2 hc)
    omega
end Go.Proofs.YtgehpaojbnpbcaaGreatDoor
namespace Go.Proofs.YtgehpaojbnpbcaaGreatDoor
open Go Go.RowKit
/-- A text by its bytes. -/
def bT (l : List UInt8) : ByteArray := ⟨l.toArray⟩
theorem bT_data (l : List UInt8) : (bT l).data.toList = l := by simp [bT]
theorem bT_size (l : List UInt8) : (bT l).size = l.length := by simp [bT, ByteArray.size]
theorem bT_append (l : List UInt8) (x : ByteArray) : bT l ++ x = bT (l ++ x.data.toList) := by
  apply ByteArray.ext; apply Array.toList_inj.1
  simp [ByteArray.data_append, bT]
theorem bT_of {x : ByteArray} {l : List UInt8} (h : x.data.toList = l) : x = bT l := by
  apply ByteArray.ext; apply Array.toList_inj.1
  simp [bT, h]
def ltr (k : Nat) : UInt8 := UInt8.ofNat (97 + k)
theorem ltr_nat {k : Nat} (hk : k < 26) : (ltr k).toNat = 97 + k := by
  unfold ltr
  rw [UInt8.toNat_ofNat']
  omega
/-- Those of the first k letters that are in a text. -/
def ltrUp (S : List UInt8) : Nat → List UInt8
  | 0 => []
  | k + 1 => if ltr k ∈ S then ltrUp S k ++ [ltr k] else ltrUp S k
theorem ltrUp_le (S : List UInt8) : ∀ k, (ltrUp S k).length ≤ k
  | 0 => by simp [ltrUp]
  | k + 1 => by
    have ih := ltrUp_le S k
    unfold ltrUp
    split
    · rw [List.length_append, List.length_singleton]; omega
    · omega
theorem ltrUp_nil : ∀ k, ltrUp [] k = []
  | 0 => rfl
  | k + 1 => by unfold ltrUp; rw [if_neg (by simp), ltrUp_nil k]
theorem ltrUp_snoc (S : List UInt8) (b : UInt8) (hb : 97 ≤ b.toNat) : ∀ k, k ≤ 26 → (ltrUp (S ++ [b]) k).length = (ltrUp S k).length + if b ∉ S ∧ b.toNat < 97 + k then 1 else 0
  | 0, _ => by
    rw [if_neg (by omega)]
    rfl
  | k + 1, hk => by
    have ih := ltrUp_snoc S b hb k (by omega)
    have hl := ltr_nat (k := k) (by omega)
    unfold ltrUp
    by_cases h1 : ltr k ∈ S
    · rw [if_pos h1, if_pos (by simp [h1]), List.length_append, List.length_append, ih]
      by_cases h2 : b ∈ S
      · rw [if_neg (fun h => h.1 h2), if_neg (fun h => h.1 h2)]; rfl
      · have h3 : b ≠ ltr k := fun e => h2 (e ▸ h1)
        have h4 : b.toNat ≠ 97 + k := fun e => h3 (UInt8.toNat_inj.1 (by rw [hl, e]))
        by_cases h5 : b.toNat < 97 + k
        · rw [if_pos ⟨h2, h5⟩, if_pos ⟨h2, by omega⟩]; simp
        · rw [if_neg (fun h => h5 h.2), if_neg (fun h => by have := h.2; omega)]; rfl
    · by_cases h2 : b = ltr k
      · subst h2
        rw [if_neg h1, if_pos (by simp), List.length_append, ih, if_neg (fun h => by have := h.2; omega), if_pos ⟨h1, by omega⟩]
        simp
      · have h4 : b.toNat ≠ 97 + k := fun e => h2 (UInt8.toNat_inj.1 (by rw [hl, e]))
        rw [if_neg h1, if_neg (by simp [h1, Ne.symm h2]), ih]
        by_cases h3 : b ∈ S
        · rw [if_neg (fun h => h.1 h3), if_neg (fun h => h.1 h3)]
        · by_cases h5 : b.toNat < 97 + k
          · rw [if_pos ⟨h3, h5⟩, if_pos ⟨h3, by omega⟩]
          · rw [if_neg (fun h => h5 h.2), if_neg (fun h => by have := h.2; omega)]
/-- How many letters a text has. -/
def cntL (S : List UInt8) : Nat := (ltrUp S 26).length
theorem cntL_nil : cntL [] = 0 := by unfold cntL; rw [ltrUp_nil]; rfl
theorem cntL_snoc {S : List UInt8} {b : UInt8} (h1 : 97 ≤ b.toNat) (h2 : b.toNat ≤ 122) : cntL (S ++ [b]) = if b ∈ S then cntL S else cntL S + 1 := by
  unfold cntL
  rw [ltrUp_snoc S b h1 26 (by omega)]
  by_cases h : b ∈ S
  · rw [if_pos h, if_neg (fun k => k.1 h)]; rfl
  · rw [if_neg h, if_pos ⟨h, by omega⟩]
/-- The names of the declarations of a list, one after another. -/
def ownS (l : List (Nat × Nat × It)) : List UInt8 := l.flatMap fun q => if q.2.2.kind = 1 then q.2.2.name.data.toList else []
theorem ownS_snoc (l : List (Nat × Nat × It)) (q : Nat × Nat × It) : ownS (l ++ [q]) = ownS l ++ if q.2.2.kind = 1 then q.2.2.name.data.toList else [] := by
  unfold ownS
  rw [List.flatMap_append]
  simp
def ownT (ss : List Sc) : List UInt8 := ownS (placed 0 ss)
theorem name_byte {ss : List Sc} (hv : Valid ss) {q : Nat × Nat × It} (hq : q ∈ placed 0 ss) : ∃ b : UInt8, q.2.2.name.data.toList = [b] ∧ 97 ≤ b.toNat ∧ b.toNat ≤ 122 := by
  have h3 := hv.items
  rw [← placed_flat] at h3
  have h4 := (h3.1 (q.1, q.2.2) (List.mem_map_of_mem hq)).1
  unfold itemB nameB at h4
  simp only [Bool.and_eq_true] at h4
  have h5 := h4.1.1
  split at h5
  · rename_i b hb
    refine ⟨b, hb, ?_⟩
    unfold inB at h5
    simp only [Bool.and_eq_true, decide_eq_true_eq] at h5
    omega
  · cases h5
theorem ownS_length {ss : List Sc} (hv : Valid ss) : ∀ l : List (Nat × Nat × It), (∀ q ∈ l, q ∈ placed 0 ss) → (ownS l).length = (plsOf 1 l).length
  | [], _ => rfl
  | q :: r, h => by
    have ih := ownS_length hv r fun p hp => h p (List.mem_cons_of_mem _ hp)
    obtain ⟨b, hb, -, -⟩ := name_byte hv (h q List.mem_cons_self)
    have e1 : ownS (q :: r) = (if q.2.2.kind = 1 then q.2.2.name.data.toList else []) ++ ownS r := by simp [ownS]
    have e2 : plsOf 1 (q :: r) = (if q.2.2.kind = 1 then [((q.1 : Int), (q.2.1 : Int))] else []) ++ plsOf 1 r := by
      unfold plsOf
      rw [List.filter_cons]
      by_cases hk : q.2.2.kind = 1
      · rw [if_pos hk, if_pos (by simpa using hk)]; rfl
      · rw [if_neg hk, if_neg (by simpa using hk)]; rfl
    rw [e1, e2, List.length_append, List.length_append, ih, hb]
    split <;> rfl
theorem ownT_length {ss : List Sc} (hv : Valid ss) : (ownT ss).length = (dclP ss).length := ownS_length hv _ fun _ h => h
theorem ownS_bytes {ss : List Sc} (hv : Valid ss) {l : List (Nat × Nat × It)} (hl : ∀ q ∈ l, q ∈ placed 0 ss) : ∀ b ∈ ownS l, 97 ≤ b.toNat ∧ b.toNat ≤ 122 := by
  intro b hb
  unfold ownS at hb
  obtain ⟨q, hq, hm⟩ := List.mem_flatMap.1 hb
  obtain ⟨c, hc, h1, h2⟩ := name_byte hv (hl q hq)
  split at hm
  · rw [hc, List.mem_singleton] at hm
    subst hm
    exact ⟨h1, h2⟩
  · cases hm
/-- The names of the declarations at the first places of a list. -/
def ownU (ss : List Sc) (D : List (Int × Int)) : List UInt8 := D.flatMap fun p => match itemAtP ss p.1 p.2 with
  | some x => x.name.data.toList
  | none => []
theorem ownU_snoc (ss : List Sc) (D : List (Int × Int)) (p : Int × Int) {x : It} (hx : itemAtP ss p.1 p.2 = some x) : ownU ss (D ++ [p]) = ownU ss D ++ x.name.data.toList := by
  unfold ownU
  rw [List.flatMap_append]
  simp [hx]
theorem ownU_all (ss : List Sc) : ownU ss (dclP ss) = ownT ss := by
  have e : ∀ l : List (Nat × Nat × It), (∀ q ∈ l, q ∈ placed 0 ss) → ownU ss (plsOf 1 l) = ownS l := by
    intro l
    induction l with
    | nil => intro _; rfl
    | cons q r ih =>
      intro h
      have h1 := ih fun p hp => h p (List.mem_cons_of_mem _ hp)
      have h2 := placed_item (h q List.mem_cons_self)
      have e1 : ownS (q :: r) = (if q.2.2.kind = 1 then q.2.2.name.data.toList else []) ++ ownS r := by simp [ownS]
      rw [e1, ← h1]
      unfold plsOf
      rw [List.filter_cons]
      by_cases hk : q.2.2.kind = 1
      · rw [if_pos (by simpa using hk), if_pos hk, List.map_cons]
        show (match itemAtP ss (q.1 : Int) (q.2.1 : Int) with | some x => x.name.data.toList | none => []) ++ _ = _
        rw [h2]
        rfl
      · rw [if_neg (by simpa using hk), if_neg hk]; rfl
  exact e _ fun _ h => h
/-- What OwnNames answers. -/
def ownR (ss : List Sc) (T : ByteArray) (ok : Bool) : Prop := (¬ Valid ss ∧ T = ⟨#[]⟩ ∧ ok = false) ∨ (Valid ss ∧ T = bT (ownT ss) ∧ ok = true)
def cntR (ss : List Sc) (n : Int) : Prop := (¬ Valid ss ∧ n = -1) ∨ (Valid ss ∧ n = (cntL (ownT ss) : Int))
theorem own_small {ss : List Sc} (hv : Valid ss) : (ownT ss).length ≤ 30 := by
  have h1 := plsOf_length 1 (placed 0 ss)
  have h2 := placed_bound 0 ss 6 5 hv.count.2 hv.five
  have h3 := ownT_length hv
  unfold dclP plsP at h3
  omega
end Go.Proofs.YtgehpaojbnpbcaaGreatDoor
namespace Go.Proofs.YtgehpaojbnpbcaaGreatDoor
open Go Go.RowKit
theorem bytes_self {a b : ByteArray} : (a.toList == b.toList) = true ↔ a = b := ⟨nameM_bytes, fun h => by rw [h]; simp⟩
section
variable {ss : List Sc} {φ : ByteArray → ByteArray}
end
end Go.Proofs.YtgehpaojbnpbcaaGreatDoor
namespace Go.Proofs.YtgehpaojbnpbcaaGreatDoor
open Go Go.RowKit
section
variable {ss : List Sc} {f : NameF}
end
theorem bytes_of {a b : ByteArray} (h : a.data.toList = b.data.toList) : a = b := by
  obtain ⟨⟨a⟩⟩ := a
  obtain ⟨⟨b⟩⟩ := b
  have : a = b := h
  rw [this]
end Go.Proofs.YtgehpaojbnpbcaaGreatDoor
namespace Go.Proofs.YtgehpaojbnpbcaaGreatDoor
open Go Go.RowKit
/-- Where nothing changes, all items mean the same under their new names. -/
theorem ren_means {ss : List Sc} {f : NameF} (h : chgA ss (renP ss f) = []) {q : Nat × Nat × It} (hq : q ∈ placed 0 ss) : meanIt (renP ss f) (q.1, q.2.1, renIt f q.1 q.2.1 q.2.2) = meanIt ss q := by
  unfold chgA filtL at h
  rw [List.map_eq_nil_iff, List.filter_eq_nil_iff] at h
  have h1 := h q hq
  simp only [Bool.not_eq_true', decide_eq_false_iff_not, Decidable.not_not] at h1
  obtain ⟨i, j, x⟩ := q
  have h2 := meanAt_of (placed_ren (f := f) hq)
  dsimp only at h1 ⊢
  rw [h1, h2]
end Go.Proofs.YtgehpaojbnpbcaaGreatDoor
namespace Go.Proofs.YtgehpaojbnpbcaaGreatDoor
open Go Go.RowKit
theorem plOf_nodup (ss : List Sc) : ((placed 0 ss).map plOf).Nodup := by
  unfold List.Nodup
  rw [List.pairwise_map]
  refine (placed_apart 0 ss).imp fun {p q} h e => h ?_
  unfold plOf at e
  have h1 := Prod.mk.inj e
  exact ⟨by omega, by omega⟩
theorem filtL_nodup (ss : List Sc) (f : Nat × Nat × It → Bool) : (filtL f (placed 0 ss)).Nodup := by
  unfold filtL
  exact List.Sublist.nodup (List.filter_sublist.map _) (plOf_nodup ss)
end Go.Proofs.YtgehpaojbnpbcaaGreatDoor
namespace Go.Proofs.YtgehpaojbnpbcaaGreatDoor
open Go Go.RowKit
theorem dcl_nodup (ss : List Sc) : (dclP ss).Nodup := filtL_nodup ss _
end Go.Proofs.YtgehpaojbnpbcaaGreatDoor
