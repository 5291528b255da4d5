/-
  The letters of a text, each once and in order, and how many they are; the text of the names of declarations. Plain facts.
-/
import Derived.Test.YtdmaaneilfjfcaaDoorNam
namespace Go.Proofs.YtdmaaneilfjfcaaDoor
open Go Go.RowKit
/-- A text by its bytes. -/
def bT (l : List UInt8) : ByteArray := ⟨l.toArray⟩
theorem bT_data (l : List UInt8) : (bT l).data.toList = l := by simp [bT]
theorem bT_size (l : List UInt8) : (bT l).size = l.length := by simp [bT, ByteArray.size]
theorem bT_append (l : List UInt8) (x : ByteArray) : bT l ++ x = bT (l ++ x.data.toList) := by
  apply ByteArray.ext; apply Array.toList_inj.1
  simp [ByteArray.data_append, bT]
theorem bT_of {x : ByteArray} {l : List UInt8} (h : x.data.toList = l) : x = bT l := by
  apply ByteArray.ext; apply Array.toList_inj.1
  simp [bT, h]
def ltr (k : Nat) : UInt8 := UInt8.ofNat (97 + k)
theorem ltr_nat {k : Nat} (hk : k < 26) : (ltr k).toNat = 97 + k := by
  unfold ltr
  rw [UInt8.toNat_ofNat']
  omega
/-- Those of the first k letters that are in a text. -/
def ltrUp (S : List UInt8) : Nat → List UInt8
  | 0 => []
  | k + 1 => if ltr k ∈ S then ltrUp S k ++ [ltr k] else ltrUp S k
theorem ltrUp_le (S : List UInt8) : ∀ k, (ltrUp S k).length ≤ k
  | 0 => by simp [ltrUp]
  | k + 1 => by
    have ih := ltrUp_le S k
    unfold ltrUp
    split
    · rw [List.length_append, List.length_singleton]; omega
    · omega
theorem ltrUp_nil : ∀ k, ltrUp [] k = []
  | 0 => rfl
  | k + 1 => by unfold ltrUp; rw [if_neg (by simp), ltrUp_nil k]
theorem ltrUp_snoc (S : List UInt8) (b : UInt8) (hb : 97 ≤ b.toNat) : ∀ k, k ≤ 26 → (ltrUp (S ++ [b]) k).length = (ltrUp S k).length + if b ∉ S ∧ b.toNat < 97 + k then 1 else 0
  | 0, _ => by
    rw [if_neg (by omega)]
    rfl
  | k + 1, hk => by
    have ih := ltrUp_snoc S b hb k (by omega)
    have hl := ltr_nat (k := k) (by omega)
    unfold ltrUp
    by_cases h1 : ltr k ∈ S
    · rw [if_pos h1, if_pos (by simp [h1]), List.length_append, List.length_append, ih]
      by_cases h2 : b ∈ S
      · rw [if_neg (fun h => h.1 h2), if_neg (fun h => h.1 h2)]; rfl
      · have h3 : b ≠ ltr k := fun e => h2 (e ▸ h1)
        have h4 : b.toNat ≠ 97 + k := fun e => h3 (UInt8.toNat_inj.1 (by rw [hl, e]))
        by_cases h5 : b.toNat < 97 + k
        · rw [if_pos ⟨h2, h5⟩, if_pos ⟨h2, by omega⟩]; simp
        · rw [if_neg (fun h => h5 h.2), if_neg (fun h => by have := h.2; omega)]; rfl
    · by_cases h2 : b = ltr k
      · subst h2
        rw [if_neg h1, if_pos (by simp), List.length_append, ih, if_neg (fun h => by have := h.2; omega), if_pos ⟨h1, by omega⟩]
        simp
      · have h4 : b.toNat ≠ 97 + k := fun e => h2 (UInt8.toNat_inj.1 (by rw [hl, e]))
        rw [if_neg h1, if_neg (by simp [h1, Ne.symm h2]), ih]
        by_cases h3 : b ∈ S
        · rw [if_neg (fun h => h.1 h3), if_neg (fun h => h.1 h3)]
        · by_cases h5 : b.toNat < 97 + k
          · rw [if_pos ⟨h3, h5⟩, if_pos ⟨h3, by omega⟩]
          · rw [if_neg (fun h => h5 h.2), if_neg (fun h => by have := h.2; omega)]
/-- How many letters a text has. -/
def cntL (S : List UInt8) : Nat := (ltrUp S 26).length
theorem cntL_nil : cntL [] = 0 := by unfold cntL; rw [ltrUp_nil]; rfl
theorem cntL_snoc {S : List UInt8} {b : UInt8} (h1 : 97 ≤ b.toNat) (h2 : b.toNat ≤ 122) : cntL (S ++ [b]) = if b ∈ S then cntL S else cntL S + 1 := by
  unfold cntL
  rw [ltrUp_snoc S b h1 26 (by omega)]
  by_cases h : b ∈ S
  · rw [if_pos h, if_neg (fun k => k.1 h)]; rfl
  · rw [if_neg h, if_pos ⟨h, by omega⟩]
theorem cntL_le (S : List UInt8) : cntL S ≤ 26 := ltrUp_le S 26
/-- The names of the declarations of a list, one after another. -/
def ownS (l : List (Nat × Nat × It)) : List UInt8 := l.flatMap fun q => if q.2.2.kind = 1 then q.2.2.name.data.toList else []
theorem ownS_snoc (l : List (Nat × Nat × It)) (q : Nat × Nat × It) : ownS (l ++ [q]) = ownS l ++ if q.2.2.kind = 1 then q.2.2.name.data.toList else [] := by
  unfold ownS
  rw [List.flatMap_append]
  simp
def ownT (ss : List Sc) : List UInt8 := ownS (placed 0 ss)
theorem name_byte {ss : List Sc} (hv : Valid ss) {q : Nat × Nat × It} (hq : q ∈ placed 0 ss) : ∃ b : UInt8, q.2.2.name.data.toList = [b] ∧ 97 ≤ b.toNat ∧ b.toNat ≤ 122 := by
  have h3 := hv.items
  rw [← placed_flat] at h3
  have h4 := (h3.1 (q.1, q.2.2) (List.mem_map_of_mem hq)).1
  unfold itemB nameB at h4
  simp only [Bool.and_eq_true] at h4
  have h5 := h4.1.1
  split at h5
  · rename_i b hb
    refine ⟨b, hb, ?_⟩
    unfold inB at h5
    simp only [Bool.and_eq_true, decide_eq_true_eq] at h5
    omega
  · cases h5
theorem ownS_length {ss : List Sc} (hv : Valid ss) : ∀ l : List (Nat × Nat × It), (∀ q ∈ l, q ∈ placed 0 ss) → (ownS l).length = (plsOf 1 l).length
  | [], _ => rfl
  | q :: r, h => by
    have ih := ownS_length hv r fun p hp => h p (List.mem_cons_of_mem _ hp)
    obtain ⟨b, hb, -, -⟩ := name_byte hv (h q List.mem_cons_self)
    have e1 : ownS (q :: r) = (if q.2.2.kind = 1 then q.2.2.name.data.toList else []) ++ ownS r := by simp [ownS]
    have e2 : plsOf 1 (q :: r) = (if q.2.2.kind = 1 then [((q.1 : Int), (q.2.1 : Int))] else []) ++ plsOf 1 r := by
      unfold plsOf
      rw [List.filter_cons]
      by_cases hk : q.2.2.kind = 1
      · rw [if_pos hk, if_pos (by simpa using hk)]; rfl
      · rw [if_neg hk, if_neg (by simpa using hk)]; rfl
    rw [e1, e2, List.length_append, List.length_append, ih, hb]
    split <;> rfl
theorem ownT_length {ss : List Sc} (hv : Valid ss) : (ownT ss).length = (dclP ss).length := ownS_length hv _ fun _ h => h
theorem ownS_bytes {ss : List Sc} (hv : Valid ss) {l : List (Nat × Nat × It)} (hl : ∀ q ∈ l, q ∈ placed 0 ss) : ∀ b ∈ ownS l, 97 ≤ b.toNat ∧ b.toNat ≤ 122 := by
  intro b hb
  unfold ownS at hb
  obtain ⟨q, hq, hm⟩ := List.mem_flatMap.1 hb
  obtain ⟨c, hc, h1, h2⟩ := name_byte hv (hl q hq)
  split at hm
  · rw [hc, List.mem_singleton] at hm
    subst hm
    exact ⟨h1, h2⟩
  · cases hm
/-- The names of the declarations at the first places of a list. -/
def ownU (ss : List Sc) (D : List (Int × Int)) : List UInt8 := D.flatMap fun p => match itemAtP ss p.1 p.2 with
  | some x => x.name.data.toList
  | none => []
theorem ownU_snoc (ss : List Sc) (D : List (Int × Int)) (p : Int × Int) {x : It} (hx : itemAtP ss p.1 p.2 = some x) : ownU ss (D ++ [p]) = ownU ss D ++ x.name.data.toList := by
  unfold ownU
  rw [List.flatMap_append]
  simp [hx]
theorem ownU_all (ss : List Sc) : ownU ss (dclP ss) = ownT ss := by
  have e : ∀ l : List (Nat × Nat × It), (∀ q ∈ l, q ∈ placed 0 ss) → ownU ss (plsOf 1 l) = ownS l := by
    intro l
    induction l with
    | nil => intro _; rfl
    | cons q r ih =>
      intro h
      have h1 := ih fun p hp => h p (List.mem_cons_of_mem _ hp)
      have h2 := placed_item (h q List.mem_cons_self)
      have e1 : ownS (q :: r) = (if q.2.2.kind = 1 then q.2.2.name.data.toList else []) ++ ownS r := by simp [ownS]
      rw [e1, ← h1]
      unfold plsOf
      rw [List.filter_cons]
      by_cases hk : q.2.2.kind = 1
      · rw [if_pos (by simpa using hk), if_pos hk, List.map_cons]
        show (match itemAtP ss (q.1 : Int) (q.2.1 : Int) with | some x => x.name.data.toList | none => []) ++ _ = _
        rw [h2]
        rfl
      · rw [if_neg (by simpa using hk), if_neg hk]; rfl
  exact e _ fun _ h => h
/-- The letters from a on. -/
def frsL (n : Nat) : List UInt8 := (List.range n).map fun k => UInt8.ofNat (97 + k)
theorem frsL_length (n : Nat) : (frsL n).length = n := by simp [frsL]
theorem frsL_snoc (n : Nat) : frsL (n + 1) = frsL n ++ [UInt8.ofNat (97 + n)] := by unfold frsL; rw [List.range_succ, List.map_append]; rfl
theorem frs_naming {names : ByteArray} {n : Nat} (h : names.data.toList = frsL n) (hn : n ≤ 25) : Naming names n := by
  refine ⟨?_, fun b hb => ?_⟩
  · have := congrArg List.length h
    rw [Array.length_toList, frsL_length] at this
    exact this
  · rw [h] at hb
    unfold frsL at hb
    obtain ⟨k, hk, rfl⟩ := List.mem_map.1 hb
    have := List.mem_range.1 hk
    rw [UInt8.toNat_ofNat']
    omega
theorem frs_not {names : ByteArray} {n m : Nat} (h : names.data.toList = frsL n) (hn : 25 < n) : ¬ Naming names m := by
  intro hN
  have h1 := hN.2 (UInt8.ofNat (97 + 25)) (by rw [h]; unfold frsL; exact List.mem_map.2 ⟨25, List.mem_range.2 hn, rfl⟩)
  have h2 := h1.2
  revert h2
  decide
/-- What OwnNames answers. -/
def ownR (ss : List Sc) (T : ByteArray) (ok : Bool) : Prop := (¬ Valid ss ∧ T = ⟨#[]⟩ ∧ ok = false) ∨ (Valid ss ∧ T = bT (ownT ss) ∧ ok = true)
theorem ownR.same {ss : List Sc} {T T' : ByteArray} {ok ok' : Bool} (h : ownR ss T ok) (k : ownR ss T' ok') : T = T' ∧ ok = ok' := by
  rcases h with ⟨h1, rfl, rfl⟩ | ⟨h1, rfl, rfl⟩
  · rcases k with ⟨_, rfl, rfl⟩ | ⟨k1, _⟩
    · exact ⟨rfl, rfl⟩
    · exact absurd k1 h1
  · rcases k with ⟨k1, _⟩ | ⟨_, rfl, rfl⟩
    · exact absurd h1 k1
    · exact ⟨rfl, rfl⟩
def cntR (ss : List Sc) (n : Int) : Prop := (¬ Valid ss ∧ n = -1) ∨ (Valid ss ∧ n = (cntL (ownT ss) : Int))
theorem cntR.same {ss : List Sc} {n m : Int} (h : cntR ss n) (k : cntR ss m) : n = m := by
  rcases h with ⟨h1, rfl⟩ | ⟨h1, rfl⟩
  · rcases k with ⟨_, rfl⟩ | ⟨k1, _⟩
    · rfl
    · exact absurd k1 h1
  · rcases k with ⟨k1, _⟩ | ⟨_, rfl⟩
    · exact absurd h1 k1
    · rfl
def frsR (ss : List Sc) (b : Bool) : Prop := (¬ Valid ss ∧ b = false) ∨ (Valid ss ∧ b = decide (cntL (ownT ss) = (ownT ss).length))
theorem frsR.same {ss : List Sc} {b c : Bool} (h : frsR ss b) (k : frsR ss c) : b = c := by
  rcases h with ⟨h1, rfl⟩ | ⟨h1, rfl⟩
  · rcases k with ⟨_, rfl⟩ | ⟨k1, _⟩
    · rfl
    · exact absurd k1 h1
  · rcases k with ⟨k1, _⟩ | ⟨_, rfl⟩
    · exact absurd h1 k1
    · rfl
theorem own_small {ss : List Sc} (hv : Valid ss) : (ownT ss).length ≤ 30 := by
  have h1 := plsOf_length 1 (placed 0 ss)
  have h2 := placed_bound 0 ss 6 5 hv.count.2 hv.five
  have h3 := ownT_length hv
  unfold dclP plsP at h3
  omega
end Go.Proofs.YtdmaaneilfjfcaaDoor
