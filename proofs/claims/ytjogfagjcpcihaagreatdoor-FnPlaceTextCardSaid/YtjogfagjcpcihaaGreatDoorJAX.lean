/-
  The walks of the given l1Places and PlacesOf. Condition: the argument's memory holds the graph. The text of a list of places, and how a loop comes to it. Plain facts. Plain facts about decimal numbers in texts: which byte lists are canonical numbers of at most 17 digits, their values, and that Atoi and Itoa (as the library's functions on bytes) agree with that. No condition; nothing of the program. Plain facts about a text cut at a byte: 'parts c l' are the pieces of l between the bytes c, at least one; how a loop that cuts comes to them; and when there are just two. No condition; nothing of the program. The walk of spec.l13Dec: at every number it returns its decimal numeral, as Itoa does; only new memory is written. The walk of spec.l13Num: at every text it returns the canonical number and whether there is one; memory stays as it is. The walk of spec.l13Cut: at every text of at most 2^20 bytes and every byte it returns a slice of its own that holds the pieces of the text between these bytes; what was there before stays. The walks of the laws' copies of lists of places: toPlaceS, szPlaceS. Condition: the list has at most 2^20 places. The walk of spec.FormatPlaces: at every list of at most 2^20 places of 64-bit numbers it returns the text of the places; only new memory is written. The text of a graph, and how a loop comes to it. Plain facts. The walks of the given l1Text and FormatGraph: a valid graph's text; that of another one is empty. Condition: the argument's memory holds the graph. The walk of the given l1Read: the item that a text tells. The walk of spec.ParsePlace: at every text of at most 2^20 bytes it returns the place that the text tells, and whether it tells one; what was there before stays. Graphs in memory of the call's own, that grow; the walks of the given l13OwnScope, l13OwnListScope and l13OwnGraph. Condition: the argument's memory holds the graph. What a text tells as a graph, and what memory holds while it is read. Plain facts. The walks of the given l1RawParseGraph, l13OwnGraph and ParseGraph: what a text tells, if it is that of a valid graph.
-/
import Derived.Test.YtjogfagjcpcihaaGreatDoorJBX
import Derived.Test.YtjogfagjcpcihaaGreatDoorBaseX
import Derived.Lib.ItoaLen
import Derived.Lib.Join
import Derived.Lib.Atoi
import Derived.Lib.ItoaNum
import Derived.Lib.IndexMore
import Derived.Lib.IndexLaws
import Derived.Test.YtjogfagjcpcihaaGreatDoorProg
import Derived.WalkKit
import Derived.Lib.Hide
import Derived.Outline
import Derived.Laws.BytesArg
import Derived.Deep.DeepCutAuto
import Derived.Test.YtjogfagjcpcihaaGreatDoorWSpecValidX
import Derived.Deep.RegionHeld3
import Derived.Deep.RegionWith
import Derived.Deep.Upon
namespace Go.Proofs.YtjogfagjcpcihaaGreatDoor
open Go Go.RowKit
theorem placed_bound : ∀ (i : Nat) (ss : List Sc) (n m : Nat), ss.length ≤ n → (∀ s ∈ ss, s.items.length ≤ m) → (placed i ss).length ≤ n * m
  | _, [], n, m, _, _ => by simp [placed]
  | i, s :: r, n, m, hn, hm => by
    obtain ⟨n', rfl⟩ : ∃ n', n = n' + 1 := ⟨n - 1, by simp at hn; omega⟩
    have ih := placed_bound (i + 1) r n' m (by simp at hn; omega) (fun s hs => hm s (List.mem_cons_of_mem _ hs))
    have h1 := hm s List.mem_cons_self
    simp only [placed, List.length_append, List.length_map, List.length_zipIdx]
    rw [Nat.add_mul, Nat.one_mul]
    omega
theorem Valid.five {ss : List Sc} (h : Valid ss) : ∀ s ∈ ss, s.items.length ≤ 5 := fun s hs => by
  obtain ⟨i, hi⟩ := List.mem_iff_getElem?.1 hs
  exact scope_items (h.scopes i s hi)
end Go.Proofs.YtjogfagjcpcihaaGreatDoor
namespace Go.Proofs.YtjogfagjcpcihaaGreatDoor.Sg
open Go Go.Lib
def pText (p : Int × Int) : List UInt8 := itoa p.1 ++ 46 :: itoa p.2
/-- The texts of the first k places, with blanks between them. -/
def outTo (ps : List (Int × Int)) (k : Nat) : List UInt8 := join ((ps.take k).map pText) [32]
def placesText (ps : List (Int × Int)) : List UInt8 := if ps = [] then [45] else join (ps.map pText) [32]
theorem pText_len {p : Int × Int} (h1 : I64 p.1) (h2 : I64 p.2) : (pText p).length ≤ 43 := by
  have a := itoa_length_le p.1 h1.1 h1.2
  have b := itoa_length_le p.2 h2.1 h2.2
  unfold pText; simp; omega
theorem pText_ne (p : Int × Int) : pText p ≠ [] := by unfold pText; simp
theorem join_snoc (xs : List (List UInt8)) (x : List UInt8) (h : xs ≠ []) : join (xs ++ [x]) [32] = join xs [32] ++ 32 :: x := by
  induction xs with
  | nil => exact absurd rfl h
  | cons y r ih =>
    cases r with
    | nil => simp [join, List.intercalate]
    | cons z t =>
      have := ih (by simp)
      simp only [join, List.intercalate, List.cons_append] at this ⊢
      simp only [List.intersperse_cons_cons, List.flatten_cons, List.append_assoc] at this ⊢
      rw [this]
theorem outTo_zero (ps : List (Int × Int)) : outTo ps 0 = [] := by simp [outTo, join_nil]
theorem outTo_one {ps : List (Int × Int)} {p : Int × Int} (h : ps[0]? = some p) : outTo ps 1 = pText p := by
  cases ps with
  | nil => simp at h
  | cons q r => simp at h; subst h; simp [outTo, join_one]
theorem outTo_succ {ps : List (Int × Int)} {k : Nat} {p : Int × Int} (hk : 0 < k) (h : ps[k]? = some p) : outTo ps (k + 1) = outTo ps k ++ 32 :: pText p := by
  have hl := (List.getElem?_eq_some_iff.1 h).1
  unfold outTo
  rw [List.take_add_one, h, List.map_append]
  exact join_snoc _ _ (by intro e; have := congrArg List.length e; rw [List.length_map, List.length_take, List.length_nil] at this; omega)
theorem outTo_len {ps : List (Int × Int)} (hp : ∀ p ∈ ps, I64 p.1 ∧ I64 p.2) : ∀ k, k ≤ ps.length → (outTo ps k).length ≤ 44 * k
  | 0, _ => by rw [outTo_zero]; simp
  | k + 1, h => by
    have hk : k < ps.length := by omega
    have hg : ps[k]? = some ps[k] := List.getElem?_eq_getElem hk
    obtain ⟨a, b⟩ := hp ps[k] (List.getElem_mem hk)
    have hl := pText_len a b
    have ih := outTo_len hp k (by omega)
    rcases Nat.eq_zero_or_pos k with h0 | h0
    · subst h0; rw [outTo_one hg]; omega
    · rw [outTo_succ h0 hg]; simp; omega
theorem outTo_all (ps : List (Int × Int)) : outTo ps ps.length = join (ps.map pText) [32] := by unfold outTo; rw [List.take_length]
theorem outTo_ne {ps : List (Int × Int)} {k : Nat} (h0 : 0 < k) (hk : k ≤ ps.length) : outTo ps k ≠ [] := by
  obtain ⟨j, rfl⟩ : ∃ j, k = j + 1 := ⟨k - 1, by omega⟩
  have hg : ps[j]? = some ps[j] := List.getElem?_eq_getElem (by omega)
  rcases Nat.eq_zero_or_pos j with h | h
  · subst h; rw [outTo_one hg]; exact pText_ne _
  · rw [outTo_succ h hg]; simp
end Go.Proofs.YtjogfagjcpcihaaGreatDoor.Sg
namespace Go.Proofs.YtjogfagjcpcihaaGreatDoor.Sg
open Go Go.Lib

def isDig (b : UInt8) : Bool := decide (48 ≤ b.toNat) && decide (b.toNat ≤ 57)
def valF (acc : Nat) (l : List UInt8) : Nat := l.foldl (fun n b => n * 10 + (b.toNat - 48)) acc
/-- A canonical decimal number of at most 17 digits. -/
def canonB (l : List UInt8) : Bool := !l.isEmpty && decide (l.length ≤ 17) && (decide (l.head? ≠ some 48) || decide (l.length = 1)) && l.all isDig
def negB (l : List UInt8) : Bool := decide (l.head? = some 45)
def numB (l : List UInt8) : Bool := if negB l then canonB l.tail && decide (l.tail.head? ≠ some 48) else canonB l
def numI (l : List UInt8) : Int := if numB l then (if negB l then -(valF 0 l.tail : Int) else valF 0 l) else 0

theorem valF_cons (acc : Nat) (b : UInt8) (l : List UInt8) : valF acc (b :: l) = valF (acc * 10 + (b.toNat - 48)) l := by unfold valF; rw [List.foldl_cons]
theorem valF_snoc (acc : Nat) (b : UInt8) (l : List UInt8) : valF acc (l ++ [b]) = valF acc l * 10 + (b.toNat - 48) := by
  simp [valF]
theorem digitVal_dig (b : UInt8) : digitVal b = if isDig b then some (b.toNat - 48) else none := by
  unfold digitVal isDig
  by_cases h1 : 48 ≤ b.toNat <;> by_cases h2 : b.toNat ≤ 57 <;> simp [h1, h2]
theorem decFrom_cons (acc : Nat) (b : UInt8) (r : List UInt8) : decFrom acc (b :: r) = match digitVal b with
    | some d => decFrom (acc * 10 + d) r
    | none => none := rfl
theorem decFrom_val : ∀ (l : List UInt8) (acc : Nat), decFrom acc l = if l.all isDig then some (valF acc l) else none
  | [], acc => rfl
  | b :: r, acc => by
    rw [decFrom_cons, digitVal_dig, List.all_cons, valF_cons]
    cases hd : isDig b with
    | true => simpa using decFrom_val r _
    | false => simp
theorem valF_ge : ∀ (l : List UInt8) (acc : Nat), acc ≤ valF acc l := by
  intro l
  induction l with
  | nil => intro acc; exact Nat.le_refl _
  | cons b r ih => intro acc; rw [valF_cons]; exact Nat.le_trans (by omega) (ih _)
theorem valF_lt : ∀ (l : List UInt8) (acc : Nat), l.all isDig = true → valF acc l < (acc + 1) * 10 ^ l.length := by
  intro l
  induction l with
  | nil => intro acc _; simp [valF]
  | cons b r ih =>
    intro acc h
    simp only [List.all_cons, Bool.and_eq_true] at h
    have hb : b.toNat ≤ 57 := by have := h.1; simp [isDig] at this; exact this.2
    have h1 := ih (acc * 10 + (b.toNat - 48)) h.2
    rw [valF_cons, List.length_cons, Nat.pow_succ]
    have : (acc * 10 + (b.toNat - 48) + 1) * 10 ^ r.length ≤ (acc + 1) * 10 * 10 ^ r.length := Nat.mul_le_mul_right _ (by omega)
    have e : (acc + 1) * 10 * 10 ^ r.length = (acc + 1) * (10 ^ r.length * 10) := by rw [Nat.mul_assoc, Nat.mul_comm 10]
    omega
theorem valF_pos {l : List UInt8} (ha : l.all isDig = true) (hne : l ≠ []) (h0 : l.head? ≠ some 48) : 1 ≤ valF 0 l := by
  cases l with
  | nil => exact absurd rfl hne
  | cons b r =>
    simp only [List.all_cons, Bool.and_eq_true, isDig, decide_eq_true_eq] at ha
    have hb : b ≠ 48 := by simpa using h0
    have : b.toNat ≠ 48 := fun e => hb (by apply UInt8.toNat_inj.1; simpa using e)
    rw [valF_cons]
    exact Nat.le_trans (by omega) (valF_ge _ _)
theorem canonB_iff {l : List UInt8} : canonB l = true ↔ l ≠ [] ∧ l.length ≤ 17 ∧ (l.head? ≠ some 48 ∨ l.length = 1) ∧ l.all isDig = true := by
  unfold canonB
  cases l <;> simp [and_assoc]
theorem canon_not_neg {l : List UInt8} (h : canonB l = true) : negB l = false := by
  obtain ⟨h1, _, _, h4⟩ := canonB_iff.1 h
  cases l with
  | nil => exact absurd rfl h1
  | cons b r =>
    simp only [List.all_cons, Bool.and_eq_true, isDig, decide_eq_true_eq] at h4
    simp only [negB, List.head?_cons, Option.some.injEq, decide_eq_false_iff_not]
    rintro rfl
    have := h4.1.1
    simp at this
theorem canon_lt {l : List UInt8} (h : canonB l = true) : valF 0 l < 100000000000000000 := by
  obtain ⟨_, h2, _, h4⟩ := canonB_iff.1 h
  have := valF_lt l 0 h4
  have h3 : 10 ^ l.length ≤ 10 ^ 17 := Nat.pow_le_pow_right (by omega) h2
  omega
/-- What spec.ParsePlace asks of a part is that it is canonical. -/
theorem numB_canon (l : List UInt8) : (numB l && decide (0 ≤ numI l)) = canonB l := by
  by_cases hn : negB l = true
  · have hc : canonB l = false := by
      by_cases h : canonB l = true
      · rw [canon_not_neg h] at hn; cases hn
      · simpa using h
    rw [hc]
    by_cases hb : numB l = true
    · rw [hb, Bool.true_and, decide_eq_false_iff_not]
      have hb' := hb
      unfold numB at hb'
      rw [if_pos hn, Bool.and_eq_true, decide_eq_true_eq] at hb'
      obtain ⟨h1, _, _, h4⟩ := canonB_iff.1 hb'.1
      have := valF_pos h4 h1 hb'.2
      unfold numI
      rw [if_pos hb, if_pos hn]
      omega
    · simp [hb]
  · have e : numB l = canonB l := by unfold numB; rw [if_neg hn]
    rw [e]
    by_cases hc : canonB l = true
    · have : 0 ≤ numI l := by unfold numI; rw [e, if_pos hc, if_neg hn]; omega
      simp [hc, this]
    · simp [hc]
theorem numI_canon {l : List UInt8} (h : canonB l = true) : numI l = valF 0 l := by
  have hn := canon_not_neg h
  unfold numI numB
  simp [hn, h]

theorem dig_ofNat {b : UInt8} (h : isDig b = true) : UInt8.ofNat (48 + (b.toNat - 48)) = b := by
  simp only [isDig, Bool.and_eq_true, decide_eq_true_eq] at h
  apply UInt8.toNat_inj.1
  rw [UInt8.toNat_ofNat']
  have : b.toNat < 256 := b.toNat_lt
  omega
/-- The numeral of a canonical number's value is the number. -/
theorem decDigits_val : ∀ (n : Nat) (l : List UInt8), l.length = n → l ≠ [] → l.all isDig = true → (l.head? ≠ some 48 ∨ l.length = 1) → decDigits (valF 0 l) = l := by
  intro n
  induction n using Nat.strongRecOn with
  | ind n ih =>
    intro l hl hne ha h0
    rcases List.eq_nil_or_concat l with h | ⟨r, b, h⟩
    · exact absurd h hne
    have h : l = r ++ [b] := by simpa using h
    subst h
    simp only [List.all_append, List.all_cons, List.all_nil, Bool.and_true, Bool.and_eq_true] at ha
    obtain ⟨har, hab⟩ := ha
    have hbd := hab
    simp only [isDig, Bool.and_eq_true, decide_eq_true_eq] at hbd
    rw [valF_snoc]
    by_cases hr : r = []
    · subst hr
      have e : valF 0 [] = 0 := rfl
      rw [e, Nat.zero_mul, Nat.zero_add, decDigits, dif_pos (by omega), dig_ofNat hab]
      rfl
    · have h0' : r.head? ≠ some 48 := by
        rcases h0 with h0 | h0
        · intro hh
          apply h0
          cases r with
          | nil => exact absurd rfl hr
          | cons c t => simpa using hh
        · simp at h0; exact absurd h0 hr
      have hp := valF_pos har hr h0'
      rw [decDigits, dif_neg (by omega)]
      have e1 : (valF 0 r * 10 + (b.toNat - 48)) / 10 = valF 0 r := by omega
      have e2 : (valF 0 r * 10 + (b.toNat - 48)) % 10 = b.toNat - 48 := by omega
      rw [e1, e2, dig_ofNat hab, ih r.length (by simp at hl; omega) r rfl hr har (Or.inl h0')]
theorem decDigits_ne (u : Nat) : decDigits u ≠ [] := by
  intro h
  have := decDigits_length u
  rw [h] at this
  have h2 := nDigits_pos u
  simp at this
  omega
theorem dig_of (i : Nat) (h : i < 10) : isDig (UInt8.ofNat (48 + i)) = true := by
  simp only [isDig, UInt8.toNat_ofNat', Bool.and_eq_true, decide_eq_true_eq]
  omega
theorem decDigits_all : ∀ u : Nat, (decDigits u).all isDig = true := by
  intro u
  induction u using Nat.strongRecOn with
  | ind u ih =>
    rw [decDigits]
    by_cases h : u < 10
    · rw [dif_pos h, List.all_cons, List.all_nil, dig_of u h]; rfl
    · rw [dif_neg h, List.all_append, ih (u / 10) (by omega), List.all_cons, List.all_nil, dig_of (u % 10) (by omega)]; rfl
theorem decDigits_head : ∀ u : Nat, 1 ≤ u → (decDigits u).head? ≠ some 48 := by
  intro u
  induction u using Nat.strongRecOn with
  | ind u ih =>
    intro hu
    rw [decDigits]
    by_cases h : u < 10
    · rw [dif_pos h]
      simp only [List.head?_cons, ne_eq, Option.some.injEq]
      intro e
      have := congrArg UInt8.toNat e
      rw [UInt8.toNat_ofNat'] at this
      simp at this
      omega
    · rw [dif_neg h]
      have h1 := ih (u / 10) (by omega) (by omega)
      have h2 := decDigits_ne (u / 10)
      cases hd : decDigits (u / 10) with
      | nil => exact absurd hd h2
      | cons c t => rw [hd] at h1; simpa using h1

/-- readNumber's test, at texts of at most 17 bytes: Atoi finds a number, it isn't negative, and its numeral is the text: exactly the canonical ones. -/
theorem canon_atoi {l : List UInt8} (hl : l.length ≤ 17) : canonB l = true → atoi l = some (valF 0 l : Int) ∧ itoa (valF 0 l : Int) = l := by
  intro h
  obtain ⟨h1, _, h3, h4⟩ := canonB_iff.1 h
  constructor
  · cases l with
    | nil => exact absurd rfl h1
    | cons b r =>
      have hb := h4
      simp only [List.all_cons, Bool.and_eq_true, isDig, decide_eq_true_eq] at hb
      have n1 : (b == 45) = false := by rw [beq_eq_false_iff_ne]; rintro rfl; have := hb.1.1; simp at this
      have n2 : (b == 43) = false := by rw [beq_eq_false_iff_ne]; rintro rfl; have := hb.1.1; simp at this
      simp only [atoi, n1, n2, Bool.false_eq_true, if_false, decNat, List.isEmpty_cons]
      rw [decFrom_val, if_pos h4]
      rfl
  · unfold itoa
    rw [if_neg (by omega)]
    exact decDigits_val _ l rfl h1 h4 h3
theorem atoi_canon {l : List UInt8} {n : Int} (hl : l.length ≤ 17) (h0 : 0 ≤ n) (h2 : itoa n = l) : canonB l = true := by
  unfold itoa at h2
  rw [if_neg (by omega)] at h2
  rw [canonB_iff]
  refine ⟨by rw [← h2]; exact decDigits_ne _, hl, ?_, by rw [← h2]; exact decDigits_all _⟩
  by_cases hz : n.toNat = 0
  · right; rw [← h2, hz]; simp [decDigits]
  · left; rw [← h2]; exact decDigits_head _ (by omega)
end Go.Proofs.YtjogfagjcpcihaaGreatDoor.Sg
namespace Go.Proofs.YtjogfagjcpcihaaGreatDoor.Sg
open Go Go.Lib

/-- p ahead of the first piece. -/
def glue (p : List UInt8) : List (List UInt8) → List (List UInt8)
  | [] => [p]
  | q :: qs => (p ++ q) :: qs
/-- The pieces of a text between the bytes c. -/
def parts (c : UInt8) : List UInt8 → List (List UInt8)
  | [] => [[]]
  | b :: r => if b = c then [] :: parts c r else glue [b] (parts c r)
theorem parts_eq (c : UInt8) (r : List UInt8) : parts c (c :: r) = [] :: parts c r := by rw [parts, if_pos rfl]
theorem parts_neq {c b : UInt8} (h : b ≠ c) (r : List UInt8) : parts c (b :: r) = glue [b] (parts c r) := by rw [parts, if_neg h]
theorem parts_ne (c : UInt8) (l : List UInt8) : parts c l ≠ [] := by
  cases l with
  | nil => simp [parts]
  | cons b r =>
    unfold parts
    by_cases h : b = c
    · rw [if_pos h]; simp
    · rw [if_neg h]; cases parts c r <;> simp [glue]
theorem glue_nil {ps : List (List UInt8)} (h : ps ≠ []) : glue [] ps = ps := by
  cases ps with
  | nil => exact absurd rfl h
  | cons q qs => rfl
theorem glue_glue (p q : List UInt8) (ps : List (List UInt8)) : glue p (glue q ps) = glue (p ++ q) ps := by
  cases ps <;> simp [glue]
/-- What has been cut off and what is left, k bytes being read, f the beginning of the piece that is being read. -/
def Cutting (c : UInt8) (l : List UInt8) (done : List (List UInt8)) (f k : Nat) : Prop :=
  if k ≤ l.length then f ≤ k ∧ parts c l = done ++ glue ((l.drop f).take (k - f)) (parts c (l.drop k)) else parts c l = done
theorem Cutting.start (c : UInt8) (l : List UInt8) : Cutting c l [] 0 0 := by
  unfold Cutting
  rw [if_pos (Nat.zero_le _)]
  exact ⟨Nat.le_refl _, by simp [glue_nil (parts_ne c l)]⟩
theorem Cutting.last {c : UInt8} {l : List UInt8} {done : List (List UInt8)} {f : Nat} (h : Cutting c l done f l.length) : Cutting c l (done ++ [(l.drop f).take (l.length - f)]) (l.length + 1) (l.length + 1) := by
  unfold Cutting at h ⊢
  rw [if_pos (Nat.le_refl _)] at h
  rw [if_neg (by omega), h.2]
  simp [parts, glue]
theorem Cutting.hit {c : UInt8} {l : List UInt8} {done : List (List UInt8)} {f k : Nat} (h : Cutting c l done f k) (hk : k < l.length) (hc : l[k] = c) : Cutting c l (done ++ [(l.drop f).take (k - f)]) (k + 1) (k + 1) := by
  unfold Cutting at h ⊢
  rw [if_pos (by omega)] at h
  rw [if_pos (by omega), h.2, List.drop_eq_getElem_cons hk]
  refine ⟨Nat.le_refl _, ?_⟩
  subst hc
  rw [parts_eq, Nat.sub_self, List.take_zero, glue_nil (parts_ne _ _)]
  simp [glue]
theorem Cutting.miss {c : UInt8} {l : List UInt8} {done : List (List UInt8)} {f k : Nat} (h : Cutting c l done f k) (hk : k < l.length) (hc : l[k] ≠ c) : Cutting c l done f (k + 1) := by
  unfold Cutting at h ⊢
  rw [if_pos (by omega)] at h
  rw [if_pos (by omega), h.2, List.drop_eq_getElem_cons hk]
  refine ⟨by omega, ?_⟩
  rw [parts_neq hc, glue_glue]
  congr 2
  have hf := h.1
  rw [show k + 1 - f = (k - f) + 1 from by omega, List.take_succ_eq_append_getElem (by rw [List.length_drop]; omega), List.getElem_drop]
  simp [show f + (k - f) = k from by omega]
theorem Cutting.fin {c : UInt8} {l : List UInt8} {done : List (List UInt8)} {f k : Nat} (h : Cutting c l done f k) (hk : l.length < k) : done = parts c l := by
  unfold Cutting at h
  rw [if_neg (by omega)] at h
  exact h.symm
theorem parts_none {c : UInt8} : ∀ {l : List UInt8}, c ∉ l → parts c l = [l]
  | [], _ => rfl
  | b :: r, h => by
    have hb : b ≠ c := fun e => h (by simp [e])
    have hr : c ∉ r := fun e => h (by simp [e])
    rw [parts_neq hb, parts_none hr]
    rfl
theorem parts_app {c : UInt8} : ∀ {a r : List UInt8}, c ∉ a → parts c (a ++ c :: r) = a :: parts c r
  | [], r, _ => by simp [parts_eq]
  | b :: a, r, h => by
    have hb : b ≠ c := fun e => h (by simp [e])
    have ha : c ∉ a := fun e => h (by simp [e])
    rw [List.cons_append, parts_neq hb, parts_app ha]
    rfl
/-- A text has a first c, or none. -/
theorem first_c (c : UInt8) : ∀ l : List UInt8, c ∉ l ∨ ∃ a r, l = a ++ c :: r ∧ c ∉ a
  | [] => Or.inl (by simp)
  | b :: l => by
    by_cases hb : b = c
    · exact Or.inr ⟨[], l, by simp [hb], by simp⟩
    · rcases first_c c l with h | ⟨a, r, rfl, h⟩
      · left; simp [Ne.symm hb, h]
      · right; exact ⟨b :: a, r, rfl, by simp [Ne.symm hb, h]⟩
theorem index_one_none {c : UInt8} : ∀ {l : List UInt8}, c ∉ l → index l [c] = -1
  | [], _ => rfl
  | b :: r, h => by
    have hb : b ≠ c := fun e => h (by simp [e])
    have hr : c ∉ r := fun e => h (by simp [e])
    unfold index
    rw [index_one_none hr]
    simp [List.isPrefixOf, Ne.symm hb]
theorem index_one_hit {c : UInt8} : ∀ {a r : List UInt8}, c ∉ a → index (a ++ c :: r) [c] = a.length
  | [], r, _ => by simp [index, List.isPrefixOf]
  | b :: a, r, h => by
    have hb : b ≠ c := fun e => h (by simp [e])
    have ha : c ∉ a := fun e => h (by simp [e])
    rw [List.cons_append]
    unfold index
    rw [index_one_hit ha]
    simp [List.isPrefixOf, Ne.symm hb]
theorem cut_none {c : UInt8} {l : List UInt8} (h : c ∉ l) : cut l [c] = (l, [], false) := by
  unfold cut; rw [index_one_none h]; rfl
theorem cut_hit {c : UInt8} {a r : List UInt8} (h : c ∉ a) : cut (a ++ c :: r) [c] = (a, r, true) := by
  unfold cut
  rw [index_one_hit h, if_pos (by omega)]
  simp
end Go.Proofs.YtjogfagjcpcihaaGreatDoor.Sg
namespace Go.Proofs.YtjogfagjcpcihaaGreatDoor
open Go Go.RowKit Sg
theorem one_byte_cell (w : World) (x : Int) (i : Nat) (hi : i < 1) : (w.alloc (.cells #[.int .u8 x] 5)).cell? ⟨w.heap.size, 0 + i, none⟩ = some (.int .u8 ([x].getD i 0)) := by
  obtain rfl : i = 0 := by omega
  simp
/-- One byte made a text. -/
theorem conv_one (w : World) (x : Int) : (convert 22 9 (.slice (some ⟨w.heap.size, 0, none⟩) 1 1)).run Tryz.prog (w.alloc (.cells #[.int .u8 x] 5)) = .ok (.string (strOfNums [x])) (w.alloc (.cells #[.int .u8 x] 5)) :=
  run_convert_bytes_arg _ 22 5 Tryz.underlying22 Tryz.underlying5 w.heap.size 0 1 1 [x] rfl (one_byte_cell w x) 9 Tryz.underlying9
theorem byte_ahead (k : Nat) (out : List UInt8) : strOfNums [48 + (k : Int)] ++ (⟨out.toArray⟩ : ByteArray) = ⟨(UInt8.ofNat (48 + k) :: out).toArray⟩ := by
  apply ByteArray.ext
  apply Array.toList_inj.1
  rw [ByteArray.data_append, Array.toList_append, strOfNums_data]
  simp [show ((48 : Int) + (k : Int)).toNat = 48 + k from by omega]
theorem minus_ahead (l : List UInt8) : (⟨#[45]⟩ : ByteArray) ++ (⟨l.toArray⟩ : ByteArray) = ⟨(45 :: l).toArray⟩ := by
  apply ByteArray.ext
  apply Array.toList_inj.1
  rw [ByteArray.data_append, Array.toList_append]; simp
theorem digits_step {k : Nat} (h : ¬ k < 10) (out : List UInt8) : Lib.decDigits k ++ out = Lib.decDigits (k / 10) ++ (UInt8.ofNat (48 + k % 10) :: out) := by
  rw [Lib.decDigits, dif_neg h]; simp
theorem digits_last {k : Nat} (h : k < 10) (out : List UInt8) : Lib.decDigits k ++ out = UInt8.ofNat (48 + k) :: out := by
  rw [Lib.decDigits, dif_pos h]; rfl
set_option maxRecDepth 100000 in
set_option maxHeartbeats 1600000 in
theorem dec_nat (n : Nat) (w : World) (hn : n ≤ 2 ^ 63 - 1) :
    Calls Tryz.prog 49 #[.int .i64 (n : Int)] w fun e w' => e = .returned (.string ⟨(Lib.decDigits n).toArray⟩) ∧ Below w.heap.size w w' := by
  have h0 : (0 : Int) ≤ (n : Int) := by omega
  go_enter Tryz.func49, Tryz.ntmps49
  go_wp2
  go_loopw [0, 3] (fun v s wr => ∃ (k : Nat) (out : List UInt8), v = .int .i64 k ∧ s = .string ⟨out.toArray⟩ ∧ k ≤ n ∧ Hid (Lib.decDigits n = Lib.decDigits k ++ out) ∧ Below w.heap.size w wr) (fun v _ _ => (intOf v).toNat)
  case atStart => exact ⟨n, [], rfl, rfl, Nat.le_refl _, Lib.hid (by simp), Below.refl _ _⟩
  case round =>
    obtain ⟨k, out, rfl, rfl, hk, hd, hb⟩ := hrel
    have hol : out.length ≤ 20 := by
      have h1 := congrArg List.length hd.out
      have h2 := Lib.nDigits_le20 n (by omega)
      rw [List.length_append, Lib.decDigits_length] at h1
      omega
    by_cases hlt : (9 : Int) < (k : Int)
    · have hconv := fun x => conv_one wr x
      have hsz : (strOfNums [48 + (k : Int) % 10]).size + out.length ≤ 21 := by rw [strOfNums_size]; simp; omega
      go_wp2
      go_roundw
      case rel => exact ⟨k / 10, UInt8.ofNat (48 + k % 10) :: out, by go_num, by rw [← byte_ahead]; go_num, by omega, Lib.hid (hd.out.trans (digits_step (by omega) out)), hb.alloc hb.size _⟩
      case measure => simp only [intOf]; omega
    · have hconv := fun x => conv_one wr x
      have hsz : (strOfNums [48 + (k : Int)]).size + out.length ≤ 21 := by rw [strOfNums_size]; simp; omega
      have HF := Lib.hid (byte_ahead k out)
      go_wp2
      go_ret
      exact ⟨by rw [HF.out, ← digits_last (by omega), ← hd.out]; rfl, hb.alloc hb.size _⟩
theorem dec_len (n : Nat) (hn : n ≤ 2 ^ 63 - 1) : (Lib.decDigits n).length ≤ 20 := by
  rw [Lib.decDigits_length]; exact Lib.nDigits_le20 n (by omega)
theorem itoa_min : Lib.itoa (-9223372036854775808) = [45, 57, 50, 50, 51, 51, 55, 50, 48, 51, 54, 56, 53, 52, 55, 55, 53, 56, 48, 56] := by decide +kernel
set_option maxRecDepth 100000 in
set_option maxHeartbeats 1600000 in
theorem dec_neg (n : Nat) (w : World) (hn : n ≤ 2 ^ 63 - 1) (h1 : 1 ≤ n) :
    Calls Tryz.prog 49 #[.int .i64 (-(n : Int))] w fun e w' => e = .returned (.string ⟨(Lib.itoa (-(n : Int))).toArray⟩) ∧ Below w.heap.size w w' := by
  have h2 : -(n : Int) < 0 := by omega
  have h3 : (-9223372036854775807 : Int) ≤ -(n : Int) := by omega
  have hl := dec_len n hn
  have e : Lib.itoa (-(n : Int)) = 45 :: Lib.decDigits n := by
    unfold Lib.itoa
    rw [if_pos h2]; simp
  rw [e]
  have HE := Lib.hid (dec_nat n · hn)
  clear e
  go_enter Tryz.func49, Tryz.ntmps49
  go_wp2_with fail
  refine (HE.out _).mono ?_
  rintro e w1 ⟨rfl, hb1⟩
  have HF := Lib.hid (minus_ahead (Lib.decDigits n))
  go_wp2
  go_ret
  exact ⟨by rw [← HF.out]; rfl, hb1⟩
set_option maxRecDepth 100000 in
theorem dec_min (w : World) :
    Calls Tryz.prog 49 #[.int .i64 (-9223372036854775808)] w fun e w' => e = .returned (.string ⟨(Lib.itoa (-9223372036854775808)).toArray⟩) ∧ Below w.heap.size w w' := by
  rw [itoa_min]
  go_enter Tryz.func49, Tryz.ntmps49
  go_wp2
  go_ret
  exact ⟨rfl, Below.refl _ _⟩
/-- l13Dec is Itoa. -/
theorem dec_any (n : Int) (h0 : -9223372036854775808 ≤ n) (h1 : n ≤ 9223372036854775807) (w : World) :
    Calls Tryz.prog 49 #[.int .i64 n] w fun e w' => e = .returned (.string ⟨(Lib.itoa n).toArray⟩) ∧ Below w.heap.size w w' := by
  by_cases hp : 0 ≤ n
  · obtain ⟨k, rfl⟩ := Int.eq_ofNat_of_zero_le hp
    have e : Lib.itoa (k : Int) = Lib.decDigits k := by unfold Lib.itoa; rw [if_neg (by omega)]; simp
    rw [e]
    exact dec_nat k w (by omega)
  · by_cases hm : n = -9223372036854775808
    · subst hm; exact dec_min w
    · obtain ⟨k, hk⟩ : ∃ k : Nat, n = -(k : Int) := ⟨n.natAbs, by omega⟩
      subst hk
      exact dec_neg k w (by omega) (by omega)
end Go.Proofs.YtjogfagjcpcihaaGreatDoor
namespace Go.Proofs.YtjogfagjcpcihaaGreatDoor.Sg
open Go Go.RowKit
theorem all_take_succ (t : ByteArray) (k : Nat) (h : k < t.size) : (t.data.toList.take (k + 1)).all isDig = ((t.data.toList.take k).all isDig && isDig (t[k]'h)) := by
  have hl : k < t.data.toList.length := by simpa using h
  rw [List.take_succ_eq_append_getElem hl, List.all_append]; simp; rfl
theorem val_take_succ (t : ByteArray) (k : Nat) (h : k < t.size) : valF 0 (t.data.toList.take (k + 1)) = valF 0 (t.data.toList.take k) * 10 + ((t[k]'h).toNat - 48) := by
  have hl : k < t.data.toList.length := by simpa using h
  rw [List.take_succ_eq_append_getElem hl, valF_snoc]; rfl
theorem take_all (t : ByteArray) : t.data.toList.take t.size = t.data.toList := List.take_of_length_le (by simp)
theorem all_bad (t : ByteArray) (k : Nat) (h : k < t.size) (hd : isDig (t[k]'h) = false) : t.data.toList.all isDig = false := by
  rw [List.all_eq_false]
  exact ⟨t[k]'h, by have hl : k < t.data.toList.length := by simpa using h
                    exact List.getElem_mem hl, by simp [hd]⟩
end Go.Proofs.YtjogfagjcpcihaaGreatDoor.Sg
namespace Go.Proofs.YtjogfagjcpcihaaGreatDoor
open Go Go.RowKit Sg
theorem num_cases {l : List UInt8} {ng : Bool} {r : List UInt8} (h : negB l = ng) (hr : r = if ng then l.tail else l) (h48 : ng = true → r.head? ≠ some 48) :
    numB l = canonB r ∧ numI l = if canonB r then (if ng then -(valF 0 r : Int) else valF 0 r) else 0 := by
  subst h
  have e : numB l = canonB r := by
    unfold numB
    cases hn : negB l with
    | true => rw [hn] at hr h48; simp only [if_true] at hr; subst hr; rw [if_pos rfl, decide_eq_true (h48 rfl), Bool.and_true]
    | false => rw [hn] at hr; simp at hr; subst hr; simp
  refine ⟨e, ?_⟩
  unfold numI
  rw [e]
  cases hn : negB l with
  | true => rw [hn] at hr; simp only [if_true] at hr; subst hr; rfl
  | false => rw [hn] at hr; simp at hr; subst hr; rfl
theorem num_bad {l : List UInt8} (h : numB l = false) : numI l = 0 := by unfold numI; simp [h]
theorem neg_of {s : ByteArray} (h0 : 0 < s.size) : negB s.data.toList = (((s[0]'h0).toNat : Int) == 45) := by
  have hl : 0 < s.data.toList.length := by simpa using h0
  have e : s.data.toList.head? = some (s[0]'h0) := by
    rw [List.head?_eq_getElem?, List.getElem?_eq_getElem hl]; rfl
  unfold negB
  rw [e, Bool.eq_iff_iff]
  simp only [decide_eq_true_eq, Option.some.injEq, beq_iff_eq]
  constructor
  · intro h; rw [h]; rfl
  · intro h; apply UInt8.toNat_inj.1; simp; omega
theorem head_of {t : ByteArray} (h : 0 < t.size) : t.data.toList.head? = some (t[0]'h) := by
  have hl : 0 < t.data.toList.length := by simpa using h
  rw [List.head?_eq_getElem?, List.getElem?_eq_getElem hl]; rfl
theorem strip_data (s : ByteArray) : (s.extract 1 s.size).data.toList = s.data.toList.tail := by
  rw [ByteArray.data_extract, Array.toList_extract, List.extract_eq_take_drop, List.drop_one]
  exact List.take_of_length_le (by simp)
theorem canon_bad {t : ByteArray} (h : t.data.toList.all isDig = false) : canonB t.data.toList = false := by
  by_cases hc : canonB t.data.toList = true
  · obtain ⟨_, _, _, h4⟩ := canonB_iff.1 hc
    rw [h] at h4; cases h4
  · simpa using hc
theorem canon_good {t : ByteArray} (h : 0 < t.size) (h17 : t.size ≤ 17) (hz : t[0]'h ≠ 48 ∨ t.size = 1) (ha : t.data.toList.all isDig = true) : canonB t.data.toList = true := by
  rw [canonB_iff]
  refine ⟨fun e => ?_, by simpa using h17, ?_, ha⟩
  · have := congrArg List.length e; rw [Array.length_toList] at this; change t.size = 0 at this; omega
  · rw [head_of h]
    rcases hz with hz | hz
    · left; simpa using hz
    · right; simpa using hz
theorem num_zero {l r : List UInt8} (hn : negB l = true) (hr : r = l.tail) (h : r.head? = some 48) : numB l = false := by
  subst hr; unfold numB; simp [hn, h]
theorem num_ends {l : List UInt8} {b : Bool} {n : Int} (h1 : numB l = b) (h2 : numI l = n) : (Ending.returned (.tuple #[.int .i64 n, .bool b])) = Ending.returned (.tuple #[.int .i64 (numI l), .bool (numB l)]) := by rw [h1, h2]
/-- What the text without its sign says of the number. -/
theorem num_fin {l r : List UInt8} {ng : Bool} (hn : negB l = ng) (hr : r = if ng then l.tail else l) {n : Int} {b : Bool}
    (h : (b = false ∧ n = 0 ∧ (canonB r = false ∨ ng = true ∧ r.head? = some 48)) ∨ (b = true ∧ canonB r = true ∧ (ng = true → r.head? ≠ some 48) ∧ n = if ng then -(valF 0 r : Int) else valF 0 r)) :
    (Ending.returned (.tuple #[.int .i64 n, .bool b])) = Ending.returned (.tuple #[.int .i64 (numI l), .bool (numB l)]) := by
  rcases h with ⟨rfl, rfl, h⟩ | ⟨rfl, hc, h48, rfl⟩
  · have hb : numB l = false := by
      rcases h with h | ⟨rfl, h⟩
      · unfold numB
        cases hn' : negB l with
        | true => rw [hn'] at hn; subst hn; simp only [if_true] at hr; rw [if_pos rfl, ← hr, h]; rfl
        | false => rw [hn'] at hn; subst hn; simp at hr; subst hr; simpa using h
      · exact num_zero hn hr h
    exact num_ends hb (num_bad hb)
  · obtain ⟨e1, e2⟩ := num_cases hn hr h48
    exact num_ends (e1.trans hc) (e2.trans (by rw [if_pos hc]))
theorem size_pos {t : ByteArray} (h : ¬ t = ByteArray.empty) : 0 < t.size := by
  rcases Nat.eq_zero_or_pos t.size with h0 | h0
  · exact absurd (by apply ByteArray.ext; apply Array.eq_empty_of_size_eq_zero; exact h0) h
  · exact h0
/-- The texts at which the numeral is refused ahead of its digits. -/
def badB (r : List UInt8) (ng : Bool) : Bool := decide (r.length = 0) || decide (17 < r.length) || (decide (r.head? = some 48) && (decide (1 < r.length) || ng))
theorem badB_eq (t : ByteArray) (ng : Bool) : badB t.data.toList ng = (decide (t.size = 0) || decide (17 < t.size) || (decide (t.data.toList.head? = some 48) && (decide (1 < t.size) || ng))) := by
  unfold badB; rw [Array.length_toList]; rfl
theorem bad_fin {r : List UInt8} {ng : Bool} (h : badB r ng = true) : canonB r = false ∨ ng = true ∧ r.head? = some 48 := by
  by_cases hc : canonB r = true
  · obtain ⟨h1, h2, h3, h4⟩ := canonB_iff.1 hc
    unfold badB at h
    simp only [Bool.or_eq_true, Bool.and_eq_true, decide_eq_true_eq] at h
    rcases h with (h | h) | ⟨h, h' | h'⟩
    · exact absurd (List.length_eq_zero_iff.1 h) h1
    · omega
    · rcases h3 with h3 | h3
      · exact absurd h h3
      · omega
    · exact Or.inr ⟨h', h⟩
  · left; simpa using hc
theorem good_fin {t : ByteArray} {ng : Bool} (h : badB t.data.toList ng = false) : 0 < t.size ∧ t.size ≤ 17 ∧ (t.data.toList.head? ≠ some 48 ∨ t.data.toList.length = 1) ∧ (ng = true → t.data.toList.head? ≠ some 48) := by
  rw [badB_eq] at h
  simp only [Bool.or_eq_false_iff, Bool.and_eq_false_iff, decide_eq_false_iff_not] at h
  obtain ⟨⟨h1, h2⟩, h3⟩ := h
  refine ⟨by omega, by omega, ?_, ?_⟩
  · rcases h3 with h3 | ⟨h3, _⟩
    · exact Or.inl h3
    · right; rw [Array.length_toList]; change t.size = 1; omega
  · rintro rfl
    rcases h3 with h3 | ⟨_, h3⟩
    · exact h3
    · cases h3
theorem p3_of {t : ByteArray} (h : 0 < t.size) (h3 : t.data.toList.head? ≠ some 48 ∨ t.data.toList.length = 1) : t[0]'h ≠ 48 ∨ t.size = 1 := by
  rcases h3 with h3 | h3
  · left; rw [head_of h] at h3; simpa using h3
  · right; rw [Array.length_toList] at h3; exact h3
set_option maxHeartbeats 1600000 in
theorem l13Num_any (s : ByteArray) (w : World) (hs : s.size ≤ maxLen) :
    Calls Tryz.prog 42 #[.string s] w fun e w' => e = .returned (.tuple #[.int .i64 (numI s.data.toList), .bool (numB s.data.toList)]) ∧ w' = w := by
  unfold maxLen at hs
  obtain ⟨ng, hng⟩ : ∃ ng, negB s.data.toList = ng := ⟨_, rfl⟩
  have HN := Lib.hid hng
  clear hng
  go_enter Tryz.func42, Tryz.ntmps42
  go_upto_region 1 with (fail)
  go_cut [4] (fun s4 wc => s4 = .bool ng ∧ wc = w)
  case first =>
    by_cases h0 : 0 < s.size
    · have hn := neg_of h0
      rw [HN.out] at hn
      by_cases hneg : (((s[0]'h0).toNat : Int) == 45) = true
      · rw [hneg] at hn
        subst hn
        go_wp2
        go_meet
        exact ⟨rfl, rfl⟩
      · have hneg' : (((s[0]'h0).toNat : Int) == 45) = false := by simpa using hneg
        rw [hneg'] at hn
        subst hn
        clear hneg
        go_wp2
        go_meet
        exact ⟨rfl, rfl⟩
    · have he : s = ByteArray.empty := by
        apply ByteArray.ext; apply Array.eq_empty_of_size_eq_zero; change s.size = 0; omega
      subst he
      have hn : ng = false := by rw [← HN.out]; rfl
      subst hn
      go_wp2
      go_meet
      exact ⟨rfl, rfl⟩
  case rest =>
    obtain ⟨rfl, rfl⟩ := hcut
    go_upto_if 15 with (fail)
    go_cut [0] (fun s0 wx => ∃ t : ByteArray, s0 = .string t ∧ Hid (t.data.toList = if ng then s.data.toList.tail else s.data.toList) ∧ t.size ≤ s.size ∧ wx = wc)
    case first =>
      cases ng
      · go_wp2
        go_meet
        exact ⟨_, rfl, Lib.hid rfl, Nat.le_refl _, rfl⟩
      · have h0 : 0 < s.size := by
          rcases Nat.eq_zero_or_pos s.size with h | h
          · have e : s.data.toList = [] := by rw [← List.length_eq_zero_iff]; simpa using h
            have := HN.out
            rw [e] at this
            cases this
          · exact h
        go_wp2
        go_meet
        exact ⟨_, rfl, Lib.hid (strip_data s), by simp, rfl⟩
    case rest =>
      obtain ⟨t, rfl, ht, hts, rfl⟩ := hcut
      go_upto_region 4 with (fail)
      go_cut [38] (fun s38 wy => s38 = .bool (badB t.data.toList ng) ∧ wy = wc)
      case first =>
        by_cases h0 : t = ByteArray.empty
        · subst h0
          go_wp2
          go_meet
          exact ⟨by rw [badB_eq]; simp, rfl⟩
        have h1 : 0 < t.size := size_pos h0
        have h2 : (((t.size : Nat) : Int) == 0) = false := by rw [beq_eq_false_iff_ne]; omega
        by_cases h17 : (17 : Int) < ((t.size : Nat) : Int)
        · go_wp2
          go_meet
          exact ⟨by rw [badB_eq]; simp; omega, rfl⟩
        have h17' : ((t.size : Nat) : Int) ≤ 17 := by omega
        have hl := head_of h1
        have h3 : t.size ≠ 0 := by omega
        have h4 : ¬ 17 < t.size := by omega
        by_cases hz : (((t[0]'h1).toNat : Int)) = 48
        · have hz' : ((((t[0]'h1).toNat : Int)) == 48) = true := by rw [beq_iff_eq]; exact hz
          have hh : t.data.toList.head? = some 48 := by rw [hl]; congr 1; apply UInt8.toNat_inj.1; simp; omega
          have HH := Lib.hid hh
          clear hh hl hz
          by_cases h5 : (1 : Int) < ((t.size : Nat) : Int)
          · have h6 : 1 < t.size := by omega
            go_wp2
            go_meet
            exact ⟨by rw [badB_eq, HH.out]; simp [h3, h4, h6], rfl⟩
          · have h6 : ¬ 1 < t.size := by omega
            go_wp2
            go_meet
            exact ⟨by rw [badB_eq, HH.out]; simp [h3, h4, h6], rfl⟩
        · have hz' : ((((t[0]'h1).toNat : Int)) == 48) = false := by rw [beq_eq_false_iff_ne]; exact hz
          have hh : t.data.toList.head? ≠ some 48 := by
            rw [hl]; intro e; apply hz; rw [Option.some.inj e]; rfl
          have HH := Lib.hid hh
          clear hh hl hz
          go_wp2
          go_meet
          exact ⟨by rw [badB_eq]; simp [h3, h4, HH.out], rfl⟩
      case rest =>
        obtain ⟨rfl, rfl⟩ := hcut
        cases hb : badB t.data.toList ng with
        | true =>
          have hfin := num_fin (n := 0) (b := false) HN.out ht.out (Or.inl ⟨rfl, rfl, bad_fin hb⟩)
          have HF := Lib.hid hfin
          clear hfin hb
          go_wp2
          go_ret2
          exact ⟨HF.out, rfl⟩
        | false =>
          obtain ⟨p1, p2, p3, p4⟩ := good_fin hb
          have P3 := Lib.hid p3
          have P4 := Lib.hid p4
          clear hb p3 p4
          go_wp2
          go_loop [5, 6] (fun n i => ∃ k : Nat, k ≤ t.size ∧ i = .int .i64 k ∧ n = .int .i64 (valF 0 (t.data.toList.take k)) ∧ Hid ((t.data.toList.take k).all isDig = true)) (fun _ i => t.size - (intOf i).toNat)
          case atStart => exact ⟨0, Nat.zero_le _, rfl, rfl, Lib.hid rfl⟩
          case round =>
            obtain ⟨k, hk, rfl, rfl, hall⟩ := hrel
            have hbd : valF 0 (t.data.toList.take k) < 100000000000000000 := by
              have h1 := valF_lt (t.data.toList.take k) 0 hall.out
              have h2 : 10 ^ (t.data.toList.take k).length ≤ 10 ^ 17 := Nat.pow_le_pow_right (by omega) (by rw [List.length_take]; omega)
              omega
            by_cases hlt : k < t.size
            · have e1 := all_take_succ t k hlt
              rw [hall.out, Bool.true_and] at e1
              have E1 := Lib.hid e1
              have E2 := Lib.hid (val_take_succ t k hlt)
              clear e1
              by_cases hd : isDig (t[k]'hlt) = true
              · have hd' := hd
                simp only [isDig, Bool.and_eq_true, decide_eq_true_eq] at hd'
                obtain ⟨d1, d2⟩ := hd'
                have d1' : (48 : Int) ≤ (((t[k]'hlt).toNat : Nat) : Int) := by omega
                have d2' : (((t[k]'hlt).toNat : Nat) : Int) ≤ 57 := by omega
                have HD := Lib.hid hd
                clear hd d1 d2
                go_wp2
                go_round
                case rel => exact ⟨k + 1, by omega, by go_num, by rw [E2.out]; go_num, Lib.hid (E1.out.trans HD.out)⟩
                case measure => simp [intOf]; omega
              · have hd' : isDig (t[k]'hlt) = false := by simpa using hd
                have hfin := num_fin (n := 0) (b := false) HN.out ht.out (Or.inl ⟨rfl, rfl, Or.inl (canon_bad (all_bad t k hlt hd'))⟩)
                have HF := Lib.hid hfin
                have HD := Lib.hid hd'
                clear hfin hd hd'
                by_cases d1 : (((t[k]'hlt).toNat : Nat) : Int) < 48
                · go_wp2
                  go_ret2
                  exact ⟨HF.out, rfl⟩
                · have d2 : (57 : Int) < (((t[k]'hlt).toNat : Nat) : Int) := by
                    have := HD.out
                    simp only [isDig, Bool.and_eq_false_iff, decide_eq_false_iff_not] at this
                    omega
                  go_wp2
                  go_ret2
                  exact ⟨HF.out, rfl⟩
            · obtain rfl : k = t.size := by omega
              have hfin := num_fin (b := true) HN.out ht.out (Or.inr ⟨rfl, canon_good p1 p2 (p3_of p1 P3.out) (by have := hall.out; rw [take_all] at this; exact this), P4.out, rfl⟩)
              have HF := Lib.hid hfin
              have TA := Lib.hid (take_all t)
              clear hfin
              cases ng
              · go_wp2
                go_ret2
                exact ⟨by rw [← HF.out, TA.out]; rfl, rfl⟩
              · go_wp2
                go_ret2
                exact ⟨by rw [← HF.out, TA.out]; rfl, rfl⟩
end Go.Proofs.YtjogfagjcpcihaaGreatDoor
namespace Go.Proofs.YtjogfagjcpcihaaGreatDoor
open Go Go.RowKit Sg
theorem info9 : (Tryz.prog.info? 9).map (fun i => (i.zero, i.size, i.bytes)) = some (some (.string ByteArray.empty), 1, 16) := by kernel_rfl
/-- A text as a value. -/
def strV (p : List UInt8) : Value := .string ⟨p.toArray⟩
theorem strV_extract (s : ByteArray) (f k : Nat) : Value.string (s.extract f k) = strV ((s.data.toList.drop f).take (k - f)) := by
  unfold strV
  congr 1
  apply ByteArray.ext
  apply Array.toList_inj.1
  rw [ByteArray.data_extract, Array.toList_extract, List.extract_eq_take_drop]
theorem one_cell (b : ByteArray) : ∀ u ∈ [Value.string b], u.oneCell' = true := by
  intro u hu; simp at hu; subst hu; rfl
/-- What l13Cut's loop says of its slots and the world. -/
def CutRel (s : ByteArray) (c : UInt8) (w : World) (v f i : Value) (wr : World) : Prop :=
  ∃ (k j : Nat) (done : List (List UInt8)), i = .int .i64 k ∧ f = .int .i64 j ∧ k ≤ s.size + 1 ∧ j ≤ k ∧ done.length ≤ k ∧ Cutting c s.data.toList done j k ∧ wr.ownsRow w.heap.size 9 1 v done.length (done.map strV) ∧ Below w.heap.size w wr
theorem rel_cut {s : ByteArray} {c : UInt8} {w wr w1 : World} {v v' : Value} {k j : Nat} {done : List (List UInt8)} {x : Value} {t : TypeId} (hk : k ≤ s.size) (hd : done.length ≤ k)
    (hcut : Cutting c s.data.toList (done ++ [(s.data.toList.drop j).take (k - j)]) (k + 1) (k + 1)) (hown : wr.ownsRow w.heap.size 9 1 v done.length (done.map strV)) (hb : Below w.heap.size w wr)
    (hown' : w1.ownsRow w.heap.size 9 1 v' (done.length + 1) (done.map strV ++ [.string (s.extract j k)])) (hg : (wr.alloc (.cells #[x] t)).grownBy w1 v.ownBlock) :
    CutRel s c w v' (.int .i64 (((k : Nat) : Int) + 1)) (.int .i64 (((k : Nat) : Int) + 1)) w1 := by
  refine ⟨k + 1, k + 1, done ++ [(s.data.toList.drop j).take (k - j)], by go_num, by go_num, by omega, Nat.le_refl _, by simp; omega, hcut, ?_, ?_⟩
  · rw [List.length_append, List.map_append]
    rw [strV_extract] at hown'
    exact hown'
  · have := hb.size
    exact (hb.alloc hb.size _).grown hg (by simp; omega) (fun r hr => (hown.lt r hr).1)
set_option maxRecDepth 100000 in
set_option maxHeartbeats 1600000 in
theorem l13Cut_any (s : ByteArray) (c : UInt8) (w : World) (hs : s.size ≤ 1048576) :
    Calls Tryz.prog 41 #[.string s, .int .u8 c.toNat] w fun e w' => ∃ v, e = .returned v ∧ w'.ownsRow w.heap.size 9 1 v (parts c s.data.toList).length ((parts c s.data.toList).map strV) ∧ Below w.heap.size w w' := by
  obtain ⟨i0, hi, hz0, hz1, hz2⟩ := info_parts info9
  have hlen : s.data.toList.length = s.size := by rw [Array.length_toList]; rfl
  have HL := Lib.hid hlen
  clear hlen
  have HS := Lib.hid hs
  have hs2 : s.size < 2 ^ 62 := by omega
  clear hs
  go_enter Tryz.func41, Tryz.ntmps41
  go_wp2
  go_loopw [5, 6, 7] (fun v f i wr => CutRel s c w v f i wr) (fun _ _ i _ => s.size + 1 - (intOf i).toNat)
  case atStart => exact ⟨0, 0, [], rfl, rfl, by omega, Nat.le_refl _, Nat.le_refl _, Cutting.start _ _, World.ownsRow_made w #[] 0 (Nat.le_refl _) (by unfold maxLen; omega) rfl, (Below.refl _ _).alloc (Nat.le_refl _) _⟩
  case round =>
    obtain ⟨k, j, done, rfl, rfl, hk, hj, hd, hcut, hown, hb⟩ := hrel
    have hd2 : done.length ≤ 1048577 := by have := HS.out; omega
    have hkj : k ≤ s.size → j ≤ k := fun _ => hj
    by_cases hlt : k ≤ s.size
    · by_cases hke : k = s.size
      · subst hke
        have hcut' : Hid _ := Lib.hid (by have := hcut; rw [← HL.out] at this; have h2 := this.last; rw [HL.out] at h2; exact h2)
        clear hcut
        go_wp2_with (at_builtin; refine wpList_append_own _ rfl _ _ 70 rfl w.heap.size 9 i0 (.string ByteArray.empty) 1 16 Tryz.underlying70 hi hz0 hz1 hz2 rfl (by decide) _ _ _ rfl (hown.alloc _) ⟨wr.heap.size, 0, none⟩ 1 1 [.string (s.extract j s.size)] rfl rfl ?c1 ?c2 ?c3 ?c4 ?c5 ?_)
        case c1 => exact cells_new _ _ _
        case c2 => exact one_cell _
        case c3 => unfold maxLen; omega
        case c4 => omega
        case c5 => have := hb.size; simp only [World.size_alloc]; omega
        · intro v' w1 hown' hgrow _
          have R := Lib.hid (rel_cut (by omega) hd hcut'.out hown hb hown' hgrow)
          clear hown' hgrow hown hb
          go_wp2
          go_roundw
          case rel => exact R.out
          case measure => simp only [intOf]; omega

      · have hkl : k < s.size := by omega
        have hkl' : k < s.data.toList.length := by rw [HL.out]; exact hkl
        have hke' : ¬ (s.size = k) := fun e => hke e.symm
        have hsk : s.data.toList[k]'hkl' = s[k]'hkl := rfl
        by_cases hc : s[k]'hkl = c
        · have hcut' := Lib.hid (hcut.hit hkl' (hsk.trans hc))
          have hc1 : ((((s[k]'hkl).toNat : Nat) : Int) == (c.toNat : Int)) = true := by rw [hc]; exact beq_self_eq_true _
          clear hcut hsk hc
          go_wp2_with (at_builtin; refine wpList_append_own _ rfl _ _ 70 rfl w.heap.size 9 i0 (.string ByteArray.empty) 1 16 Tryz.underlying70 hi hz0 hz1 hz2 rfl (by decide) _ _ _ rfl (hown.alloc _) ⟨wr.heap.size, 0, none⟩ 1 1 [.string (s.extract j k)] rfl rfl ?c1 ?c2 ?c3 ?c4 ?c5 ?_)
          case c1 => exact cells_new _ _ _
          case c2 => exact one_cell _
          case c3 => unfold maxLen; omega
          case c4 => omega
          case c5 => have := hb.size; simp only [World.size_alloc]; omega
          · intro v' w1 hown' hgrow _
            have R := Lib.hid (rel_cut (by omega) hd hcut'.out hown hb hown' hgrow)
            clear hown' hgrow hown hb
            go_wp2
            go_roundw
            case rel => exact R.out
            case measure => simp only [intOf]; omega
        · have hcut' := Lib.hid (hcut.miss hkl' (fun e => hc (hsk.symm.trans e)))
          have hc1 : ((((s[k]'hkl).toNat : Nat) : Int) == (c.toNat : Int)) = false := by
            rw [beq_eq_false_iff_ne]; intro e; apply hc; apply UInt8.toNat_inj.1; omega
          clear hcut hsk hc
          go_wp2
          go_roundw
          case rel => exact ⟨k + 1, j, done, by go_num, rfl, by omega, by omega, by omega, hcut'.out, hown, hb⟩
          case measure => simp only [intOf]; omega
    · have hfin := hcut.fin (by rw [HL.out]; omega)
      subst hfin
      go_wp2
      go_ret
      exact ⟨_, rfl, hown, hb⟩
end Go.Proofs.YtjogfagjcpcihaaGreatDoor
namespace Go.Proofs.YtjogfagjcpcihaaGreatDoor
open Go Go.RowKit
end Go.Proofs.YtjogfagjcpcihaaGreatDoor
namespace Go.Proofs.YtjogfagjcpcihaaGreatDoor
open Go Go.RowKit Sg
/-- A number's numeral as a text. -/
def tx (n : Int) : ByteArray := ⟨(Lib.itoa n).toArray⟩
theorem tx_data (n : Int) : (tx n).data.toList = Lib.itoa n := rfl
theorem tx_size {n : Int} (h : I64 n) : (tx n).size ≤ 21 := by
  have := Lib.itoa_length_le n h.1 h.2
  unfold tx
  simpa [ByteArray.size] using this
theorem dec_tx (n : Int) (h : I64 n) (w : World) :
    Calls Tryz.prog 49 #[.int .i64 n] w fun e w' => e = .returned (.string (tx n)) ∧ Below w.heap.size w w' := dec_any n h.1 h.2 w
theorem out_next {ps : List (Int × Int)} {k : Nat} {p : Int × Int} {O : ByteArray} (h0 : 0 < k) (hO : O.data.toList = outTo ps k) (hp : ps[k]? = some p) :
    (O ++ (⟨#[32]⟩ : ByteArray) ++ tx p.1 ++ (⟨#[46]⟩ : ByteArray) ++ tx p.2).data.toList = outTo ps (k + 1) := by
  rw [outTo_succ h0 hp]
  simp [ByteArray.data_append, hO, tx_data, pText]
theorem out_first {ps : List (Int × Int)} {p : Int × Int} {O : ByteArray} (hO : O.data.toList = outTo ps 0) (hp : ps[0]? = some p) :
    (O ++ tx p.1 ++ (⟨#[46]⟩ : ByteArray) ++ tx p.2).data.toList = outTo ps 1 := by
  rw [outTo_one hp]
  rw [outTo_zero] at hO
  simp [ByteArray.data_append, hO, tx_data, pText]
theorem out_first' {ps : List (Int × Int)} {k : Nat} {p : Int × Int} {O : ByteArray} (h0 : k ≤ 0) (hO : O.data.toList = outTo ps k) (hp : ps[k]? = some p) :
    (O ++ tx p.1 ++ (⟨#[46]⟩ : ByteArray) ++ tx p.2).data.toList = outTo ps (k + 1) := by
  obtain rfl : k = 0 := by omega
  exact out_first hO hp
set_option maxRecDepth 100000 in
set_option maxHeartbeats 1600000 in
theorem specPlaces_any (ps : List (Int × Int)) (b off cap : Nat) (w : World) (hn : ps.length ≤ 1048576) (hp : ∀ p ∈ ps, I64 p.1 ∧ I64 p.2) (hb : b < w.heap.size) (hc : HoldsPlaces w b off ps) :
    Calls Tryz.prog 14 #[.slice (some ⟨b, off, none⟩) ps.length cap] w fun e w' => ∃ T : ByteArray, e = .returned (.string T) ∧ T.data.toList = placesText ps ∧ Below w.heap.size w w' := by
  have HN := Lib.hid hn
  have hn2 : ps.length < 2 ^ 40 := by omega
  have HC := Lib.hid hc
  have HP := Lib.hid hp
  clear hn hc hp
  go_enter Tryz.func14, Tryz.ntmps14
  go_wp2
  go_loopw [3, 8] (fun s i wr => ∃ (k : Nat) (O : ByteArray), i = .int .i64 k ∧ s = .string O ∧ k ≤ ps.length ∧ Hid (O.data.toList = outTo ps k) ∧ Below w.heap.size w wr) (fun _ i _ => ps.length - (intOf i).toNat)
  case atStart => exact ⟨0, ⟨#[]⟩, rfl, rfl, Nat.zero_le _, Lib.hid (outTo_zero ps).symm, Below.refl _ _⟩
  case round =>
    obtain ⟨k, O, rfl, rfl, hk, hO, hbr⟩ := hrel
    have hOs : O.size ≤ 2 ^ 30 := by
      have h1 := outTo_len HP.out k hk
      have h2 := HN.out
      rw [← hO.out, Array.length_toList] at h1
      change O.size ≤ _ at h1
      omega
    by_cases hlt : k < ps.length
    · obtain ⟨p, hp⟩ : ∃ p, ps[k]? = some p := ⟨_, List.getElem?_eq_getElem hlt⟩
      obtain ⟨a0, a1⟩ := (HC.out.below hbr hb) k p hp
      obtain ⟨i1, i2⟩ := HP.out p (List.mem_of_getElem? hp)
      have hXs' := tx_size i1
      have hYs' := tx_size i2
      have HPk := Lib.hid hp
      clear hp
      by_cases h0 : 0 < k
      · go_upto_region 7 with (fail)
        have k0 := cell_regrown (w := wr.alloc (.cells #[.int .i64 p.1, .int .i64 p.2] 26)) (a := ⟨wr.heap.size, 0, none⟩) (v := .int .i64 p.1) (by simp)
        have k1 := cell_regrown (w := wr.alloc (.cells #[.int .i64 p.1, .int .i64 p.2] 26)) (a := ⟨wr.heap.size, 1, none⟩) (v := .int .i64 p.2) (by simp)
        have cD := fun n d os (h : I64 n) => Calls.regrown_of (w := wr.alloc (.cells #[.int .i64 p.1, .int .i64 p.2] 26)) (d := d) (os := os) (dec_tx n h _)
        clear a0 a1
        have n1 : ¬ 9223372036854775807 < O.size + 1 + (tx p.1).size := by omega
        have n2 : ¬ 9223372036854775807 < O.size + 1 + (tx p.1).size + 1 := by omega
        have n3 : ¬ 9223372036854775807 < O.size + 1 + (tx p.1).size + 1 + (tx p.2).size := by omega
        refine wp_region_quiet_below (by kernel_rfl) (by kernel_rfl) ?_
        repeat (quiet_step (exact cD _ _ _ (by assumption)))
        refine wpQuiet_nil ?_
        intro _ hw'
        obtain ⟨⟨dq, osq⟩, hw''⟩ := hw'
        subst hw''
        have hb' := Lib.hid ((hbr.alloc hbr.size _).trans ((below_regrown (wr.alloc (.cells #[.int .i64 p.1, .int .i64 p.2] 26)) dq osq).mono (by have := hbr.size; simp; omega)))
        clear n1 n2 n3
        go_wp2
        go_roundw
        case rel => exact ⟨k + 1, _, by go_num, rfl, by omega, Lib.hid (out_next h0 hO.out HPk.out), hb'.out⟩
        case measure => simp only [intOf]; omega
      · have h0' : k ≤ 0 := by omega
        go_upto_region 7 with (fail)
        have k0 := cell_regrown (w := wr.alloc (.cells #[.int .i64 p.1, .int .i64 p.2] 26)) (a := ⟨wr.heap.size, 0, none⟩) (v := .int .i64 p.1) (by simp)
        have k1 := cell_regrown (w := wr.alloc (.cells #[.int .i64 p.1, .int .i64 p.2] 26)) (a := ⟨wr.heap.size, 1, none⟩) (v := .int .i64 p.2) (by simp)
        have cD := fun n d os (h : I64 n) => Calls.regrown_of (w := wr.alloc (.cells #[.int .i64 p.1, .int .i64 p.2] 26)) (d := d) (os := os) (dec_tx n h _)
        clear a0 a1
        have n1 : ¬ 9223372036854775807 < O.size + (tx p.1).size := by omega
        have n2 : ¬ 9223372036854775807 < O.size + (tx p.1).size + 1 := by omega
        have n3 : ¬ 9223372036854775807 < O.size + (tx p.1).size + 1 + (tx p.2).size := by omega
        refine wp_region_quiet_below (by kernel_rfl) (by kernel_rfl) ?_
        repeat (quiet_step (exact cD _ _ _ (by assumption)))
        refine wpQuiet_nil ?_
        intro _ hw'
        obtain ⟨⟨dq, osq⟩, hw''⟩ := hw'
        subst hw''
        have hb' := Lib.hid ((hbr.alloc hbr.size _).trans ((below_regrown (wr.alloc (.cells #[.int .i64 p.1, .int .i64 p.2] 26)) dq osq).mono (by have := hbr.size; simp; omega)))
        clear n1 n2 n3
        go_wp2
        go_roundw
        case rel => exact ⟨k + 1, _, by go_num, rfl, by omega, Lib.hid (out_first' h0' hO.out HPk.out), hb'.out⟩
        case measure => simp only [intOf]; omega
    · obtain rfl : k = ps.length := by omega
      by_cases he : ps = []
      · have hO2 : O = ⟨#[]⟩ := by
          apply ByteArray.ext; apply Array.toList_inj.1
          rw [hO.out, he]; rfl
        subst hO2
        have HT : Hid (([45] : List UInt8) = placesText ps) := Lib.hid (by unfold placesText; rw [if_pos he])
        clear he
        go_wp2
        go_ret
        exact ⟨_, rfl, HT.out, hbr⟩
      · have hOe : O.toList.isEmpty = false := by
          rw [ByteArray.toList_eq, hO.out]
          have := outTo_ne (ps := ps) (k := ps.length) (List.length_pos_iff.2 he) (Nat.le_refl _)
          simpa using this
        have HT : Hid (O.data.toList = placesText ps) := Lib.hid (by rw [hO.out, outTo_all]; unfold placesText; rw [if_neg he])
        clear he
        go_wp2
        go_ret
        exact ⟨_, rfl, HT.out, hbr⟩
end Go.Proofs.YtjogfagjcpcihaaGreatDoor
namespace Go.Proofs.YtjogfagjcpcihaaGreatDoor
open Go Go.RowKit Sg
def itemTx (x : It) : List UInt8 :=
  if x.kind = 2 then 63 :: x.name.data.toList else if x.kind = 3 then 33 :: x.name.data.toList else if 0 ≤ x.scope then x.name.data.toList ++ 61 :: Lib.itoa x.scope else x.name.data.toList
def itemsTx (xs : List It) : List UInt8 := xs.flatMap fun x => 44 :: itemTx x
def headTx (i : Nat) (s : Sc) : List UInt8 := if i = 0 then [45] else 59 :: Lib.itoa s.parent
def grTx (i : Nat) : List Sc → List UInt8
  | [] => []
  | s :: r => headTx i s ++ itemsTx s.items ++ grTx (i + 1) r
theorem itemsTx_snoc (xs : List It) (x : It) : itemsTx (xs ++ [x]) = itemsTx xs ++ 44 :: itemTx x := by simp [itemsTx]
theorem grTx_snoc (s : Sc) : ∀ (i : Nat) (ss : List Sc), grTx i (ss ++ [s]) = grTx i ss ++ headTx (i + ss.length) s ++ itemsTx s.items
  | i, [] => by simp [grTx]
  | i, t :: r => by
    simp only [List.cons_append, grTx, grTx_snoc s (i + 1) r, List.append_assoc, List.length_cons]
    rw [show i + 1 + r.length = i + (r.length + 1) from by omega]
theorem itemTx_len {x : It} (hn : x.name.size ≤ 1) (hs : I64 x.scope) : (itemTx x).length ≤ 23 := by
  have h1 := Lib.itoa_length_le x.scope hs.1 hs.2
  have h2 : x.name.data.toList.length ≤ 1 := by rw [Array.length_toList]; exact hn
  unfold itemTx
  split
  · simp only [List.length_cons]; omega
  · split
    · simp only [List.length_cons]; omega
    · split
      · simp only [List.length_append, List.length_cons]; omega
      · omega
theorem itemsTx_len : ∀ {xs : List It}, (∀ x ∈ xs, x.name.size ≤ 1 ∧ I64 x.scope) → (itemsTx xs).length ≤ 24 * xs.length
  | [], _ => by simp [itemsTx]
  | x :: r, h => by
    have h1 := itemsTx_len (xs := r) fun y hy => h y (List.mem_cons_of_mem _ hy)
    have h2 := itemTx_len (h x List.mem_cons_self).1 (h x List.mem_cons_self).2
    have : itemsTx (x :: r) = 44 :: itemTx x ++ itemsTx r := by simp [itemsTx]
    rw [this]
    simp only [List.length_append, List.length_cons]
    omega
theorem grTx_len : ∀ (i : Nat) {ss : List Sc}, (∀ s ∈ ss, I64 s.parent ∧ s.items.length ≤ 5 ∧ ∀ x ∈ s.items, x.name.size ≤ 1 ∧ I64 x.scope) → (grTx i ss).length ≤ 150 * ss.length
  | i, [], _ => by simp [grTx]
  | i, s :: r, h => by
    have h1 := grTx_len (i + 1) (ss := r) fun y hy => h y (List.mem_cons_of_mem _ hy)
    obtain ⟨h2, h3, h4⟩ := h s List.mem_cons_self
    have h5 := itemsTx_len h4
    have h6 := Lib.itoa_length_le s.parent h2.1 h2.2
    have h7 : (headTx i s).length ≤ 22 := by
      unfold headTx
      split
      · simp
      · simp only [List.length_cons]; omega
    simp only [grTx, List.length_append, List.length_cons]
    omega
/-- In a valid graph names are short and numbers small. -/
theorem Valid.texts {ss : List Sc} (hv : Valid ss) : ∀ s ∈ ss, I64 s.parent ∧ s.items.length ≤ 5 ∧ ∀ x ∈ s.items, x.name.size ≤ 1 ∧ I64 x.scope := by
  intro s hs
  obtain ⟨i, hi⟩ := List.mem_iff_getElem?.1 hs
  have h1 := hv.scopes i s hi
  have hil := (List.getElem?_eq_some_iff.1 hi).1
  have h6 := hv.count.2
  have hp : I64 s.parent := by
    unfold scopeB parentB at h1
    rw [Bool.and_eq_true] at h1
    have h2 := h1.2
    unfold I64
    split at h2
    · have : s.parent = -1 := by simpa using h2
      omega
    · unfold inB at h2
      simp only [Bool.and_eq_true, decide_eq_true_eq] at h2
      omega
  refine ⟨hp, hv.five s hs, fun x hx => ?_⟩
  obtain ⟨j, hj⟩ := List.mem_iff_getElem?.1 hx
  have hq : (i, j, x) ∈ placed 0 ss := mem_placed.2 ⟨s, Nat.zero_le _, by simpa using hi, hj⟩
  have hf : (i, x) ∈ flat 0 ss := by rw [← placed_flat]; exact List.mem_map.2 ⟨_, hq, rfl⟩
  obtain ⟨k1, k2⟩ := hv.items.1 _ hf
  constructor
  · unfold itemB nameB at k1
    simp only [Bool.and_eq_true] at k1
    have k3 := k1.1.1
    split at k3
    · rename_i b hb
      have : x.name.data.toList.length = 1 := by rw [hb]; rfl
      rw [Array.length_toList] at this
      exact Nat.le_of_eq this
    · cases k3
  · unfold modB at k2
    unfold I64
    simp only [Bool.or_eq_true, Bool.and_eq_true, beq_iff_eq] at k2
    rcases k2 with k2 | ⟨k2, -⟩
    · omega
    · unfold inB at k2
      simp only [Bool.and_eq_true, decide_eq_true_eq] at k2
      omega
def gTx (ss : List Sc) : List UInt8 := grTx 0 ss
theorem gTx_step {ss : List Sc} {k : Nat} {s : Sc} (hs : ss[k]? = some s) : gTx (ss.take (k + 1)) = gTx (ss.take k) ++ headTx k s ++ itemsTx s.items := by
  have hk := (List.getElem?_eq_some_iff.1 hs).1
  unfold gTx
  rw [List.take_add_one, hs]
  show grTx 0 (ss.take k ++ [s]) = _
  rw [grTx_snoc, List.length_take]
  rw [show 0 + min k ss.length = k from by omega]
end Go.Proofs.YtjogfagjcpcihaaGreatDoor
namespace Go.Proofs.YtjogfagjcpcihaaGreatDoor
open Go Go.RowKit Sg
theorem cellG {W W' : World} {p : Addr} {v : Value} (hb : Below W.heap.size W W') (h : W.cell? p = some v) : W'.cell? p = some v := (hb.cell (World.block_lt_of_cell? _ _ h)).trans h
theorem cellD {W : World} {p : Addr} {v : Value} (h : W.cell? p = some v) : W.drew.cell? p = some v := h
set_option maxRecDepth 100000 in
set_option maxHeartbeats 1600000 in
theorem l1Text_any (x : It) (hn : x.name.size ≤ 1000000) (hs : I64 x.scope) (w : World) :
    Calls Tryz.prog 184 #[.agg #[.int .i64 x.kind, .string x.name, .int .i64 x.scope]] w fun e w' => ∃ T : ByteArray, e = .returned (.string T) ∧ T.data.toList = itemTx x ∧ Below w.heap.size w w' := by
  obtain ⟨kd, nm, sc⟩ := x
  dsimp only at hn hs ⊢
  have hB0 := (Below.refl w.heap.size w).alloc (Nat.le_refl _) (.cells #[.int .i64 kd, .string nm, .int .i64 sc] 37)
  have R := Row.new w [.int .i64 kd, .string nm, .int .i64 sc] 37
  have c1 := R.cell (i := 1) (v := .string nm) (by rfl)
  have c2 := R.cell (i := 2) (v := .int .i64 sc) (by rfl)
  have HB := Lib.hid hB0
  have hts := tx_size hs
  have C := Lib.hid (fun W => dec_tx sc hs W)
  clear hs hB0 R
  by_cases h2 : kd = 2
  · have HT : Hid ((63 :: nm.data.toList) = itemTx ⟨kd, nm, sc⟩) := Lib.hid (by unfold itemTx; rw [if_pos h2])
    have q2 : (kd == 2) = true := by simpa using h2
    clear h2
    go_enter Tryz.func184, Tryz.ntmps184
    go_wp2
    go_ret
    exact ⟨_, rfl, by rw [← HT.out]; simp [ByteArray.data_append], HB.out⟩
  have q2 : (kd == 2) = false := by simpa using h2
  by_cases h3 : kd = 3
  · have HT : Hid ((33 :: nm.data.toList) = itemTx ⟨kd, nm, sc⟩) := Lib.hid (by unfold itemTx; rw [if_neg h2, if_pos h3])
    have q3 : (kd == 3) = true := by simpa using h3
    clear h3 h2
    go_enter Tryz.func184, Tryz.ntmps184
    go_wp2
    go_ret
    exact ⟨_, rfl, by rw [← HT.out]; simp [ByteArray.data_append], HB.out⟩
  have q3 : (kd == 3) = false := by simpa using h3
  by_cases h0 : 0 ≤ sc
  · have HT : Hid (nm.data.toList ++ 61 :: Lib.itoa sc = itemTx ⟨kd, nm, sc⟩) := Lib.hid (by unfold itemTx; rw [if_neg h2, if_neg h3, if_pos h0])
    clear h3 h2
    go_enter Tryz.func184, Tryz.ntmps184
    go_wp2
    have n1 : ¬ 9223372036854775807 < nm.size + 1 := by omega
    have n2 : ¬ 9223372036854775807 < nm.size + 1 + (tx sc).size := by omega
    go_region_held3 (fun w' => w'.cell? ⟨w.heap.size, 1, none⟩ = some (.string nm) ∧ w'.cell? ⟨w.heap.size, 2, none⟩ = some (.int .i64 sc))
      (first | exact ⟨c1, c2⟩ | exact ⟨cellD c1, cellD c2⟩ | exact ⟨cellG hb3 (cellD c1), cellG hb3 (cellD c2)⟩)
      (first | (go_at_call 49; refine (C.out _).mono ?_; rintro e w3 ⟨rfl, hb3⟩))
    all_goals go_wp2
    all_goals go_ret
    all_goals exact ⟨_, rfl, by rw [← HT.out]; simp [ByteArray.data_append, tx_data], (HB.out.trans (((Below.refl _ _).drew).mono HB.out.size)).trans (hb3.mono HB.out.size)⟩
  · have HT : Hid (nm.data.toList = itemTx ⟨kd, nm, sc⟩) := Lib.hid (by unfold itemTx; rw [if_neg h2, if_neg h3, if_neg h0])
    have h0' : sc < 0 := by omega
    clear h3 h2
    go_enter Tryz.func184, Tryz.ntmps184
    go_wp2
    go_ret
    exact ⟨_, rfl, HT.out, HB.out⟩
/-- What FormatGraph answers. -/
def Formatted (ss : List Sc) (w : World) (e : Ending) (w' : World) : Prop := ∃ T : ByteArray, e = .returned (.string T) ∧ (Valid ss → T.data.toList = gTx ss) ∧ (¬ Valid ss → T = ⟨#[]⟩) ∧ Below w.heap.size w w'
set_option maxRecDepth 100000 in
set_option maxHeartbeats 4000000 in
theorem specFormat_any (ss : List Sc) (hf : FitsScopes ss) (oa : Option Addr) (cap : Nat) (w : World) (hc : HoldsScopes w oa ss) :
    Calls Tryz.prog 176 #[.agg #[.slice oa ss.length cap]] w (Formatted ss w) := by
  have hb0 := (Below.refl w.heap.size w).alloc (Nat.le_refl _) (.cells #[.slice oa ss.length cap] 33)
  have C := Lib.hid (specValid_any ss oa cap _ hf (hc.below hb0 (Nat.le_refl _)))
  have R := Lib.hid (Row.new w [.slice oa ss.length cap] 33)
  have HB0 := Lib.hid hb0
  have HC := Lib.hid hc
  clear hf hc hb0
  go_enter Tryz.func176, Tryz.ntmps176
  go_wp2_with fail
  refine C.out.mono ?_
  rintro e w1 ⟨b, rfl, hv, hb⟩
  have HB := Lib.hid (HB0.out.trans (hb.mono HB0.out.size))
  have R1 := Lib.hid (R.out.below hb R.out.lt)
  have c1 := R1.out.cell (i := 0) (by rfl)
  have HV := Lib.hid hv
  clear hb hv
  cases b
  · have HN : Hid (¬ Valid ss) := Lib.hid (fun h => by have := HV.out.2 h; cases this)
    go_wp2
    go_ret
    exact ⟨_, rfl, fun h => absurd h HN.out, fun _ => rfl, HB.out⟩
  · have HH := Lib.hid (HV.out.1 rfl)
    have h6 := HH.out.count.2
    have HT := Lib.hid HH.out.texts
    have HC1 := Lib.hid (HC.out.below HB.out (Nat.le_refl _))
    go_wp2
    go_loopw [3, 14] (fun s i wr => ∃ (k : Nat) (O : ByteArray), i = .int .i64 k ∧ s = .string O ∧ k ≤ ss.length ∧ Hid (O.data.toList = gTx (ss.take k)) ∧ Below w.heap.size w wr) (fun _ i _ => ss.length - (intOf i).toNat)
    case atStart => exact ⟨0, ⟨#[]⟩, rfl, rfl, Nat.zero_le _, Lib.hid rfl, HB.out⟩
    case round =>
      obtain ⟨k, O, rfl, rfl, hk, hO, hbr⟩ := hrel
      have hOs : O.size ≤ 1000 := by
        have h1 := grTx_len 0 (ss := ss.take k) fun s hs => HT.out s (List.mem_of_mem_take hs)
        have h2 := congrArg List.length hO.out
        rw [Array.length_toList] at h2
        change O.size = _ at h2
        unfold gTx at h2
        rw [List.length_take] at h1
        omega
      by_cases hlt : k < ss.length
      · obtain ⟨s, hs⟩ : ∃ s, ss[k]? = some s := ⟨_, List.getElem?_eq_getElem hlt⟩
        obtain ⟨b1, f1, rfl, hb1, hcell⟩ := HC.out.at (by omega)
        obtain ⟨oi, ci, x0, x1, hIt⟩ := hcell k s hs
        have y0 := (hbr.cell (p := ⟨b1, _, none⟩) hb1).trans x0
        have y1 := (hbr.cell (p := ⟨b1, _, none⟩) hb1).trans x1
        obtain ⟨hsp, hs5, hsx⟩ := HT.out s (List.mem_of_getElem? hs)
        have HST := Lib.hid (gTx_step hs)
        have HSX := Lib.hid hsx
        have HIT := Lib.hid hIt
        have HBR := Lib.hid hbr
        have hts := tx_size hsp
        have C2 := Lib.hid (fun W => dec_tx s.parent hsp W)
        have hbA := (Below.refl wr.heap.size wr).alloc (Nat.le_refl _) (.cells #[.int .i64 s.parent, .slice oi s.items.length ci] 156)
        have HBA := Lib.hid (hbr.trans (hbA.mono hbr.size))
        have RS := Lib.hid (Row.new wr [.int .i64 s.parent, .slice oi s.items.length ci] 156)
        clear hs hcell x0 x1 hIt hsp hsx hbr hbA
        go_upto_if 20 with (fail)
        go_cut [3] (fun s3 wx => ∃ O1 : ByteArray, s3 = .string O1 ∧ O1.data.toList = gTx (ss.take k) ++ headTx k s ∧ O1.size ≤ 1100 ∧ Row wx wr.heap.size 156 [.int .i64 s.parent, .slice oi s.items.length ci] ∧ Below w.heap.size w wx)
        case first =>
          by_cases h0 : k = 0
          · have q0 : (((k : Nat) : Int) == 0) = true := by simp; omega
            have HE : Hid ((O ++ (⟨#[45]⟩ : ByteArray)).data.toList = gTx (ss.take k) ++ headTx k s) := Lib.hid (by
              unfold headTx
              rw [if_pos h0]
              simp [ByteArray.data_append, hO.out])
            clear h0
            go_wp2
            go_meet
            exact ⟨_, rfl, HE.out, by have s1 : (⟨#[45]⟩ : ByteArray).size = 1 := rfl; rw [ByteArray.size_append, s1]; omega, RS.out, HBA.out⟩
          · have q0 : (((k : Nat) : Int) == 0) = false := by simp; omega
            have HE : Hid ((O ++ (⟨#[59]⟩ : ByteArray) ++ tx s.parent).data.toList = gTx (ss.take k) ++ headTx k s) := Lib.hid (by
              unfold headTx
              rw [if_neg h0]
              simp [ByteArray.data_append, hO.out, tx_data])
            have r0 := RS.out.cell (i := 0) (v := .int .i64 s.parent) (by rfl)
            clear h0
            go_wp2_with fail
            refine (C2.out _).mono ?_
            rintro e w3 ⟨rfl, hb3⟩
            have HB3 := Lib.hid (HBA.out.trans (hb3.mono HBA.out.size))
            have R3 := Lib.hid (RS.out.below hb3 RS.out.lt)
            clear hb3 r0
            go_wp2
            go_meet
            exact ⟨_, rfl, HE.out, by have s1 : (⟨#[59]⟩ : ByteArray).size = 1 := rfl; rw [ByteArray.size_append, ByteArray.size_append, s1]; omega, R3.out, HB3.out⟩
        case rest =>
          obtain ⟨O1, rfl, hO1, hO1s, hrs, hbx⟩ := hcut
          have r1 := hrs.cell (i := 1) (v := .slice oi s.items.length ci) (by rfl)
          have HO1 := Lib.hid hO1
          have HBX := Lib.hid hbx
          clear hO1 hrs hbx y0 y1
          go_wp2
          clear r1
          go_loopw [3, 32] (fun s4 i4 wr4 => ∃ (j : Nat) (O4 : ByteArray), i4 = .int .i64 j ∧ s4 = .string O4 ∧ j ≤ s.items.length ∧ Hid (O4.data.toList = gTx (ss.take k) ++ headTx k s ++ itemsTx (s.items.take j)) ∧ Below w.heap.size w wr4) (fun _ i4 _ => s.items.length - (intOf i4).toNat)
          case atStart => exact ⟨0, O1, rfl, rfl, Nat.zero_le _, Lib.hid (by rw [HO1.out]; simp [itemsTx]), HBX.out⟩
          case round =>
            obtain ⟨j, O4, rfl, rfl, hj, hO4, hb4⟩ := hrel
            have hO4s : O4.size ≤ 1300 := by
              have h1 := itemsTx_len (xs := s.items.take j) fun x hx => HSX.out x (List.mem_of_mem_take hx)
              have h2 := congrArg List.length hO4.out
              rw [List.length_append, ← HO1.out, Array.length_toList, Array.length_toList] at h2
              change O4.size = O1.size + _ at h2
              rw [List.length_take] at h1
              omega
            by_cases hlt2 : j < s.items.length
            · obtain ⟨x, hx⟩ : ∃ x, s.items[j]? = some x := ⟨_, List.getElem?_eq_getElem hlt2⟩
              obtain ⟨b2, f2, rfl, hb2, hcell2⟩ := HIT.out.at (by omega)
              obtain ⟨z0, z1, z2⟩ := hcell2 j x hx
              have v0 := (hb4.cell (p := ⟨b2, _, none⟩) hb2).trans z0
              have v1 := (hb4.cell (p := ⟨b2, _, none⟩) hb2).trans z1
              have v2 := (hb4.cell (p := ⟨b2, _, none⟩) hb2).trans z2
              obtain ⟨hxn, hxs⟩ := HSX.out x (List.mem_of_getElem? hx)
              have HTK : Hid (s.items.take (j + 1) = s.items.take j ++ [x]) := Lib.hid (by rw [List.take_add_one, hx]; rfl)
              have C5 := Lib.hid (fun W => l1Text_any x (by omega) hxs W)
              have hbB := (Below.refl wr.heap.size wr).alloc (Nat.le_refl _) (.cells #[.int .i64 x.kind, .string x.name, .int .i64 x.scope] 37)
              have HBB := Lib.hid (hb4.trans (hbB.mono hb4.size))
              have hti := itemTx_len hxn hxs
              clear hx hcell2 z0 z1 z2 hb4 hbB hxs
              go_wp2_with fail
              refine (C5.out _).mono ?_
              rintro e w5 ⟨T, rfl, hT, hb5⟩
              have hTs : T.size ≤ 23 := by
                have h2 := congrArg List.length hT
                rw [Array.length_toList] at h2
                change T.size = _ at h2
                omega
              have HB5 := Lib.hid (HBB.out.trans (hb5.mono HBB.out.size))
              have HE : Hid ((O4 ++ (⟨#[44]⟩ : ByteArray) ++ T).data.toList = gTx (ss.take k) ++ headTx k s ++ itemsTx (s.items.take (j + 1))) := Lib.hid (by
                rw [HTK.out, itemsTx_snoc]
                simp [ByteArray.data_append, hO4.out, hT])
              clear hb5 hT v0 v1 v2
              go_wp2
              go_roundw
              case rel => exact ⟨j + 1, _, by go_num, rfl, by omega, HE, HB5.out⟩
              case measure => simp only [intOf]; omega
            · obtain rfl : j = s.items.length := by omega
              have HE : Hid (O4.data.toList = gTx (ss.take (k + 1))) := Lib.hid (by
                rw [HST.out]
                have := hO4.out
                rwa [List.take_length] at this)
              go_wp2
              go_roundw
              case rel => exact ⟨k + 1, O4, by go_num, rfl, by omega, HE, hb4⟩
              case measure => simp only [intOf]; omega
      · obtain rfl : k = ss.length := by omega
        have HE : Hid (O.data.toList = gTx ss) := Lib.hid (by have := hO.out; rwa [List.take_length] at this)
        go_wp2
        go_ret
        exact ⟨_, rfl, fun _ => HE.out, fun h => absurd HH.out h, hbr⟩
end Go.Proofs.YtjogfagjcpcihaaGreatDoor
namespace Go.Proofs.YtjogfagjcpcihaaGreatDoor
open Go Go.RowKit Sg
/-- The item that a text tells, without regard to its name. -/
def readIt (s : ByteArray) : It :=
  if s.size = 2 ∧ s.data.toList[0]? = some 63 then ⟨2, s.extract 1 s.size, -1⟩
  else if s.size = 2 ∧ s.data.toList[0]? = some 33 then ⟨3, s.extract 1 s.size, -1⟩
  else if s.size = 3 ∧ s.data.toList[1]? = some 61 then ⟨1, s.extract 0 1, ((s.data.toList[2]?.getD 0).toNat : Int) - 48⟩
  else ⟨1, s, -1⟩
/-- A byte of a text against a number, as a walk asks. -/
theorem byte_eq {s : ByteArray} {i : Nat} (h : i < s.size) {c : UInt8} (hc : s.data.toList[i]? = some c) : ((((s[i]'h).toNat : Nat) : Int) == (c.toNat : Int)) = true := by
  have h1 : s.data.toList[i]? = some (s[i]'h) := List.getElem?_eq_getElem (by simpa using h)
  rw [h1] at hc
  rw [Option.some.inj hc]
  exact beq_self_eq_true _
theorem byte_ne {s : ByteArray} {i : Nat} (h : i < s.size) {c : UInt8} (hc : ¬ s.data.toList[i]? = some c) : ((((s[i]'h).toNat : Nat) : Int) == (c.toNat : Int)) = false := by
  have h1 : s.data.toList[i]? = some (s[i]'h) := List.getElem?_eq_getElem (by simpa using h)
  rw [beq_eq_false_iff_ne]
  intro e
  apply hc
  rw [h1]
  congr 1
  apply UInt8.toNat_inj.1
  omega
def ReadPost (s : ByteArray) (w : World) (e : Ending) (w' : World) : Prop := e = .returned (.tuple #[.agg #[.int .i64 (readIt s).kind, .string (readIt s).name, .int .i64 (readIt s).scope], .bool (nameB (readIt s).name)]) ∧ Below w.heap.size w w'
set_option maxRecDepth 100000 in
set_option maxHeartbeats 4000000 in
theorem l1Read_q (s : ByteArray) (_hs : s.size ≤ 1048576) (w : World) (hq : s.size = 2 ∧ s.data.toList[0]? = some 63) : Calls Tryz.prog 175 #[.string s] w (ReadPost s w) := by
  have HE : Hid (readIt s = ⟨2, s.extract 1 s.size, -1⟩) := Lib.hid (by unfold readIt; rw [if_pos hq])
  have h0 : 0 < s.size := by omega
  have h2' : (((s.size : Nat) : Int) == 2) = true := by simp; omega
  have hb : ((((s[0]'h0).toNat : Nat) : Int) == 63) = true := byte_eq h0 hq.2
  have h1 : 1 ≤ s.size := by omega
  clear hq
  clear _hs
  go_enter Tryz.func175, Tryz.ntmps175
  go_wp2
  go_region_with (first | (go_at_call 56; refine (l1Name_any _ _).mono ?_; rintro e w3 ⟨rfl, rfl⟩))
  all_goals go_wp2
  all_goals refine bodyPost_ret (v := .tuple #[.agg #[.int .i64 2, .string (s.extract 1 s.size), .int .i64 (-1)], .bool (nameB (s.extract 1 s.size))]) (by simp [results, Tryz.results175, go_sem]) rfl ⟨by rw [HE.out], ?_⟩
  all_goals exact (((Below.refl _ _).alloc (Nat.le_refl _) _).alloc (by simp) _).drew
set_option maxRecDepth 100000 in
set_option maxHeartbeats 4000000 in
theorem l1Read_e (s : ByteArray) (_hs : s.size ≤ 1048576) (w : World) (hn : ¬ s.data.toList[0]? = some 63) (hq : s.size = 2 ∧ s.data.toList[0]? = some 33) : Calls Tryz.prog 175 #[.string s] w (ReadPost s w) := by
  have HE : Hid (readIt s = ⟨3, s.extract 1 s.size, -1⟩) := Lib.hid (by unfold readIt; rw [if_neg (fun h => hn h.2), if_pos hq])
  have h0 : 0 < s.size := by omega
  have h2' : (((s.size : Nat) : Int) == 2) = true := by simp; omega
  have ha : ((((s[0]'h0).toNat : Nat) : Int) == 63) = false := byte_ne h0 hn
  have hb : ((((s[0]'h0).toNat : Nat) : Int) == 33) = true := byte_eq h0 hq.2
  have h1 : 1 ≤ s.size := by omega
  clear hq hn
  clear _hs
  go_enter Tryz.func175, Tryz.ntmps175
  go_wp2
  go_region_with (first | (go_at_call 56; refine (l1Name_any _ _).mono ?_; rintro e w3 ⟨rfl, rfl⟩))
  all_goals go_wp2
  all_goals refine bodyPost_ret (v := .tuple #[.agg #[.int .i64 3, .string (s.extract 1 s.size), .int .i64 (-1)], .bool (nameB (s.extract 1 s.size))]) (by simp [results, Tryz.results175, go_sem]) rfl ⟨by rw [HE.out], ?_⟩
  all_goals exact (((Below.refl _ _).alloc (Nat.le_refl _) _).alloc (by simp) _).drew
set_option maxRecDepth 100000 in
set_option maxHeartbeats 4000000 in
theorem l1Read_2 (s : ByteArray) (_hs : s.size ≤ 1048576) (w : World) (h2 : s.size = 2) (hn : ¬ s.data.toList[0]? = some 63) (hn2 : ¬ s.data.toList[0]? = some 33) : Calls Tryz.prog 175 #[.string s] w (ReadPost s w) := by
  have HE : Hid (readIt s = ⟨1, s, -1⟩) := Lib.hid (by unfold readIt; rw [if_neg (fun h => hn h.2), if_neg (fun h => hn2 h.2), if_neg (by omega)])
  have h0 : 0 < s.size := by omega
  have h2' : (((s.size : Nat) : Int) == 2) = true := by simp; omega
  have h3' : (((s.size : Nat) : Int) == 3) = false := by simp; omega
  have ha : ((((s[0]'h0).toNat : Nat) : Int) == 63) = false := byte_ne h0 hn
  have hb : ((((s[0]'h0).toNat : Nat) : Int) == 33) = false := byte_ne h0 hn2
  clear hn hn2 h2
  clear _hs
  go_enter Tryz.func175, Tryz.ntmps175
  go_wp2
  go_region_with (first | (go_at_call 56; refine (l1Name_any _ _).mono ?_; rintro e w3 ⟨rfl, rfl⟩))
  all_goals go_wp2
  all_goals refine bodyPost_ret (v := .tuple #[.agg #[.int .i64 1, .string s, .int .i64 (-1)], .bool (nameB s)]) (by simp [results, Tryz.results175, go_sem]) rfl ⟨by rw [HE.out], ?_⟩
  all_goals exact (((Below.refl _ _).alloc (Nat.le_refl _) _).alloc (by simp) _).drew
set_option maxRecDepth 100000 in
set_option maxHeartbeats 4000000 in
theorem l1Read_3 (s : ByteArray) (_hs : s.size ≤ 1048576) (w : World) (hq : s.size = 3 ∧ s.data.toList[1]? = some 61) : Calls Tryz.prog 175 #[.string s] w (ReadPost s w) := by
  have h2 : 2 < s.size := by omega
  have h1 : 1 < s.size := by omega
  have HE : Hid (readIt s = ⟨1, s.extract 0 1, (((s[2]'h2).toNat : Nat) : Int) - 48⟩) := Lib.hid (by
    unfold readIt
    rw [if_neg (by omega), if_neg (by omega), if_pos hq]
    have h1 : s.data.toList[2]? = some (s[2]'h2) := List.getElem?_eq_getElem (by simpa using h2)
    rw [h1]
    rfl)
  have h2' : (((s.size : Nat) : Int) == 2) = false := by simp; omega
  have h3' : (((s.size : Nat) : Int) == 3) = true := by simp; omega
  have hb : ((((s[1]'h1).toNat : Nat) : Int) == 61) = true := byte_eq h1 hq.2
  have hx : (s[2]'h2).toNat < 256 := UInt8.toNat_lt _
  clear hq
  clear _hs
  go_enter Tryz.func175, Tryz.ntmps175
  go_wp2
  go_region_with (first | (go_at_call 56; refine (l1Name_any _ _).mono ?_; rintro e w3 ⟨rfl, rfl⟩))
  all_goals go_wp2
  all_goals refine bodyPost_ret (v := .tuple #[.agg #[.int .i64 1, .string (s.extract 0 1), .int .i64 ((((s[2]'h2).toNat : Nat) : Int) - 48)], .bool (nameB (s.extract 0 1))]) (by simp [results, Tryz.results175, go_sem]) rfl ⟨by rw [HE.out], ?_⟩
  all_goals exact (((Below.refl _ _).alloc (Nat.le_refl _) _).alloc (by simp) _).drew
set_option maxRecDepth 100000 in
set_option maxHeartbeats 4000000 in
theorem l1Read_30 (s : ByteArray) (_hs : s.size ≤ 1048576) (w : World) (h3 : s.size = 3) (hn : ¬ s.data.toList[1]? = some 61) : Calls Tryz.prog 175 #[.string s] w (ReadPost s w) := by
  have h1 : 1 < s.size := by omega
  have HE : Hid (readIt s = ⟨1, s, -1⟩) := Lib.hid (by unfold readIt; rw [if_neg (by omega), if_neg (by omega), if_neg (fun h => hn h.2)])
  have h2' : (((s.size : Nat) : Int) == 2) = false := by simp; omega
  have h3' : (((s.size : Nat) : Int) == 3) = true := by simp; omega
  have hb : ((((s[1]'h1).toNat : Nat) : Int) == 61) = false := byte_ne h1 hn
  clear hn h3
  clear _hs
  go_enter Tryz.func175, Tryz.ntmps175
  go_wp2
  go_region_with (first | (go_at_call 56; refine (l1Name_any _ _).mono ?_; rintro e w3 ⟨rfl, rfl⟩))
  all_goals go_wp2
  all_goals refine bodyPost_ret (v := .tuple #[.agg #[.int .i64 1, .string s, .int .i64 (-1)], .bool (nameB s)]) (by simp [results, Tryz.results175, go_sem]) rfl ⟨by rw [HE.out], ?_⟩
  all_goals exact (((Below.refl _ _).alloc (Nat.le_refl _) _).alloc (by simp) _).drew
set_option maxRecDepth 100000 in
set_option maxHeartbeats 4000000 in
theorem l1Read_o (s : ByteArray) (_hs : s.size ≤ 1048576) (w : World) (h2 : s.size ≠ 2) (h3 : s.size ≠ 3) : Calls Tryz.prog 175 #[.string s] w (ReadPost s w) := by
  have HE : Hid (readIt s = ⟨1, s, -1⟩) := Lib.hid (by unfold readIt; rw [if_neg (by omega), if_neg (by omega), if_neg (by omega)])
  have h2' : (((s.size : Nat) : Int) == 2) = false := by simp; omega
  have h3' : (((s.size : Nat) : Int) == 3) = false := by simp; omega
  clear h2 h3
  clear _hs
  go_enter Tryz.func175, Tryz.ntmps175
  go_wp2
  go_region_with (first | (go_at_call 56; refine (l1Name_any _ _).mono ?_; rintro e w3 ⟨rfl, rfl⟩))
  all_goals go_wp2
  all_goals refine bodyPost_ret (v := .tuple #[.agg #[.int .i64 1, .string s, .int .i64 (-1)], .bool (nameB s)]) (by simp [results, Tryz.results175, go_sem]) rfl ⟨by rw [HE.out], ?_⟩
  all_goals exact (((Below.refl _ _).alloc (Nat.le_refl _) _).alloc (by simp) _).drew
theorem l1Read_any (s : ByteArray) (hs : s.size ≤ 1048576) (w : World) : Calls Tryz.prog 175 #[.string s] w (ReadPost s w) := by
  by_cases h2 : s.size = 2
  · by_cases q1 : s.data.toList[0]? = some 63
    · exact l1Read_q s hs w ⟨h2, q1⟩
    · by_cases q2 : s.data.toList[0]? = some 33
      · exact l1Read_e s hs w q1 ⟨h2, q2⟩
      · exact l1Read_2 s hs w h2 q1 q2
  · by_cases h3 : s.size = 3
    · by_cases q1 : s.data.toList[1]? = some 61
      · exact l1Read_3 s hs w ⟨h3, q1⟩
      · exact l1Read_30 s hs w h3 q1
    · exact l1Read_o s hs w h2 h3
end Go.Proofs.YtjogfagjcpcihaaGreatDoor
namespace Go.Proofs.YtjogfagjcpcihaaGreatDoor
open Go Go.RowKit Sg
/-- Whether a text tells a place, and which. -/
def placeOf (l : List UInt8) : Bool × Int × Int :=
  match parts 46 l with
  | [a, b] => if canonB a && canonB b then (true, (valF 0 a : Int), (valF 0 b : Int)) else (false, 0, 0)
  | _ => (false, 0, 0)
theorem l13Cut_46 (s : ByteArray) (w : World) (hs : s.size ≤ 1048576) :
    Calls Tryz.prog 41 #[.string s, .int .u8 46] w fun e w' => ∃ v, e = .returned v ∧ w'.ownsRow w.heap.size 9 1 v (parts 46 s.data.toList).length ((parts 46 s.data.toList).map strV) ∧ Below w.heap.size w w' :=
  l13Cut_any s 46 w hs
/-- A slice of its own, opened. -/
theorem row_open {w : World} {B : Nat} {v : Value} {ps : List (List UInt8)} (h : w.ownsRow B 9 1 v ps.length (ps.map strV)) (hne : ps ≠ []) :
    ∃ g cap, v = .slice (some ⟨g, 0, none⟩) ps.length cap ∧ B ≤ g ∧ g < w.heap.size ∧ ps.length ≤ cap ∧ ∀ j p, ps[j]? = some p → w.cell? ⟨g, j, none⟩ = some (strV p) := by
  have hlt := h.lt
  have hcells := fun g hg => h.cells (g := g) hg
  obtain ⟨hl, h | ⟨g, cap, cur, hv, hg, hh, hn, hm, hc, ht⟩⟩ := h
  · exact absurd (List.length_eq_zero_iff.1 h.2) hne
  · subst hv
    refine ⟨g, cap, rfl, hg, (hlt g rfl).2, hn, fun j p hp => ?_⟩
    have := hcells g rfl j (strV p) (by rw [List.getElem?_map, hp]; rfl)
    cases j <;> simpa [Addr.add] using this
theorem l13Num_list (p : List UInt8) (w : World) (hs : p.length ≤ 1048576) :
    Calls Tryz.prog 42 #[.string ⟨p.toArray⟩] w fun e w' => e = .returned (.tuple #[.int .i64 (numI p), .bool (numB p)]) ∧ w' = w := by
  have := l13Num_any ⟨p.toArray⟩ w (by change p.toArray.size ≤ _; rw [List.size_toArray]; unfold maxLen; omega)
  simpa using this
theorem parts_len (c : UInt8) : ∀ (l p : List UInt8), p ∈ parts c l → p.length ≤ l.length
  | [], p, h => by simp [parts] at h; simp [h]
  | b :: r, p, h => by
    by_cases hb : b = c
    · subst hb
      rw [parts_eq, List.mem_cons] at h
      rcases h with rfl | h
      · simp
      · have := parts_len _ r p h; simp; omega
    · rw [parts_neq hb] at h
      have ih := fun q hq => parts_len c r q hq
      cases hq : parts c r with
      | nil => exact absurd hq (parts_ne c r)
      | cons q qs =>
        rw [hq] at h ih
        simp only [glue, List.mem_cons] at h
        rcases h with rfl | h
        · have := ih q (by simp); simp; omega
        · have := ih p (by simp [h]); simp; omega
theorem place_end {l : List UInt8} {ok : Bool} {a b : Int} (h : placeOf l = (ok, a, b)) :
    Ending.returned (.tuple #[.agg #[.int .i64 a, .int .i64 b], .bool ok]) = Ending.returned (.tuple #[.agg #[.int .i64 (placeOf l).2.1, .int .i64 (placeOf l).2.2], .bool (placeOf l).1]) := by rw [h]
theorem place_two {l p q : List UInt8} (h : parts 46 l = [p, q]) : placeOf l = if canonB p && canonB q then (true, (valF 0 p : Int), (valF 0 q : Int)) else (false, 0, 0) := by
  unfold placeOf; rw [h]
theorem place_not {l : List UInt8} {ps : List (List UInt8)} (h : parts 46 l = ps) (h2 : ps.length ≠ 2) : placeOf l = (false, 0, 0) := by
  unfold placeOf; rw [h]
  match ps, h2 with
  | [], _ => rfl
  | [_], _ => rfl
  | [_, _], h2 => exact absurd rfl h2
  | _ :: _ :: _ :: _, _ => rfl
set_option maxRecDepth 100000 in
set_option maxHeartbeats 1600000 in
theorem specPlace_any (s : ByteArray) (w : World) (hs : s.size ≤ 1048576) :
    Calls Tryz.prog 10 #[.string s] w fun e w' => e = .returned (.tuple #[.agg #[.int .i64 (placeOf s.data.toList).2.1, .int .i64 (placeOf s.data.toList).2.2], .bool (placeOf s.data.toList).1]) ∧ Below w.heap.size w w' := by
  have HS := Lib.hid hs
  have hs2 : s.size < 2 ^ 62 := by omega
  clear hs
  go_enter Tryz.func10, Tryz.ntmps10
  go_wp2_with fail
  refine (l13Cut_46 s _ HS.out).mono ?_
  rintro e w1 ⟨v, rfl, hown, hb⟩
  obtain ⟨ps, hps⟩ : ∃ ps, parts 46 s.data.toList = ps := ⟨_, rfl⟩
  rw [hps] at hown
  have hne : ps ≠ [] := by rw [← hps]; exact parts_ne _ _
  have HP := Lib.hid hps
  clear hps
  obtain ⟨g, cap, rfl, hg, hgs, hcap, hcell⟩ := row_open hown hne
  have hc0 : w1.cell? ⟨w.heap.size, 0, none⟩ = some (.int .i64 0) := (hb.cell (by simp)).trans (by simp)
  have hc1 : w1.cell? ⟨w.heap.size, 1, none⟩ = some (.int .i64 0) := (hb.cell (by simp)).trans (by simp)
  have hf0 : w1.frozen? ⟨w.heap.size, 0, none⟩ = false := (hb.frozen (by simp)).trans (by simp)
  have hf1 : w1.frozen? ⟨w.heap.size, 1, none⟩ = false := (hb.frozen (by simp)).trans (by simp)
  have hz : w.heap.size < w1.heap.size := by have := hb.size; simp at this; omega
  have hB := Lib.hid (((Below.refl _ w).alloc (Nat.le_refl _) _).trans (hb.mono (by simp)))
  by_cases h2 : ps.length = 2
  · match ps, h2 with
    | [p, q], _ =>
      have g0 : w1.cell? ⟨g, 0, none⟩ = some (.string ⟨p.toArray⟩) := hcell 0 p rfl
      have g1 : w1.cell? ⟨g, 1, none⟩ = some (.string ⟨q.toArray⟩) := hcell 1 q rfl
      have hp : p.length ≤ 1048576 := Nat.le_trans (parts_len 46 _ p (by rw [HP.out]; simp)) (by rw [Array.length_toList]; exact HS.out)
      have hq : q.length ≤ 1048576 := Nat.le_trans (parts_len 46 _ q (by rw [HP.out]; simp)) (by rw [Array.length_toList]; exact HS.out)
      have hw := numB_canon p
      have hw2 := numB_canon q
      obtain ⟨pa, hpa⟩ : ∃ a, numI p = a := ⟨_, rfl⟩
      obtain ⟨pb, hpb⟩ : ∃ a, numB p = a := ⟨_, rfl⟩
      obtain ⟨qa, hqa⟩ : ∃ a, numI q = a := ⟨_, rfl⟩
      obtain ⟨qb, hqb⟩ : ∃ a, numB q = a := ⟨_, rfl⟩
      have HP1 := Lib.hid hp
      have HQ1 := Lib.hid hq
      have HC1 := Lib.hid hw
      have HC2 := Lib.hid hw2
      have HPA := Lib.hid hpa
      have HPB := Lib.hid hpb
      have HQA := Lib.hid hqa
      have HQB := Lib.hid hqb
      clear hcell hown hw hw2 hpa hpb hqa hqb hp hq
      go_wp2_with fail
      refine (l13Num_list p _ HP1.out).mono ?_
      rintro e w2 ⟨rfl, rfl⟩
      rw [HPA.out, HPB.out]
      go_wp2_with fail
      refine (l13Num_list q _ HQ1.out).mono ?_
      rintro e w3 ⟨rfl, rfl⟩
      rw [HQA.out, HQB.out]
      have hpl := place_two HP.out
      rw [← numB_canon p, ← numB_canon q, HPA.out, HPB.out, HQA.out, HQB.out] at hpl
      by_cases hok : pb = true ∧ qb = true ∧ 0 ≤ pa ∧ 0 ≤ qa
      · obtain ⟨rfl, rfl, k1, k2⟩ := hok
        have e1 : (valF 0 p : Int) = pa := by rw [← HPA.out]; exact (numI_canon (by rw [← numB_canon p, HPA.out, HPB.out]; simp [k1])).symm
        have e2 : (valF 0 q : Int) = qa := by rw [← HQA.out]; exact (numI_canon (by rw [← numB_canon q, HQA.out, HQB.out]; simp [k2])).symm
        rw [e1, e2] at hpl
        have hf : placeOf s.data.toList = (true, pa, qa) := hpl.trans (by simp [k1, k2])
        have HF := Lib.hid hf
        clear hpl e1 e2 hf
        go_wp2
        refine bodyPost_ret (v := .tuple #[.agg #[.int .i64 pa, .int .i64 qa], .bool true]) (by simp [results, Tryz.results10, go_sem, hc0, hc1]) rfl ⟨place_end HF.out, ?_⟩
        exact (hB.out.setCell (Nat.le_refl _) _).setCell (Nat.le_refl _) _
      · have HF := Lib.hid (hpl.trans (if_neg (by intro h; apply hok; simp only [Bool.and_eq_true, decide_eq_true_eq] at h; exact ⟨h.1.1, h.2.1, h.1.2, h.2.2⟩)))
        clear hpl
        cases pb
        · go_wp2
          refine bodyPost_ret (v := .tuple #[.agg #[.int .i64 0, .int .i64 0], .bool false]) (by simp [results, Tryz.results10, go_sem, hc0, hc1]) rfl ⟨place_end HF.out, ?_⟩
          exact (hB.out.setCell (Nat.le_refl _) _).setCell (Nat.le_refl _) _
        cases qb
        · go_wp2
          refine bodyPost_ret (v := .tuple #[.agg #[.int .i64 0, .int .i64 0], .bool false]) (by simp [results, Tryz.results10, go_sem, hc0, hc1]) rfl ⟨place_end HF.out, ?_⟩
          exact (hB.out.setCell (Nat.le_refl _) _).setCell (Nat.le_refl _) _
        by_cases k1 : pa < 0
        · go_wp2
          refine bodyPost_ret (v := .tuple #[.agg #[.int .i64 0, .int .i64 0], .bool false]) (by simp [results, Tryz.results10, go_sem, hc0, hc1]) rfl ⟨place_end HF.out, ?_⟩
          exact (hB.out.setCell (Nat.le_refl _) _).setCell (Nat.le_refl _) _
        have k1' : 0 ≤ pa := by omega
        have k2 : qa < 0 := by
          have h1 : ¬ (0 ≤ qa) := fun h => hok ⟨rfl, rfl, k1', h⟩
          omega
        clear hok
        go_wp2
        refine bodyPost_ret (v := .tuple #[.agg #[.int .i64 0, .int .i64 0], .bool false]) (by simp [results, Tryz.results10, go_sem, hc0, hc1]) rfl ⟨place_end HF.out, ?_⟩
        exact (hB.out.setCell (Nat.le_refl _) _).setCell (Nat.le_refl _) _
  · have h2' : (((ps.length : Nat) : Int) == 2) = false := by rw [beq_eq_false_iff_ne]; omega
    have HF := Lib.hid (place_not HP.out h2)
    go_wp2
    refine bodyPost_ret (v := .tuple #[.agg #[.int .i64 0, .int .i64 0], .bool false]) (by simp [results, Tryz.results10, go_sem, hc0, hc1]) rfl ⟨place_end HF.out, ?_⟩
    exact (hB.out.setCell (Nat.le_refl _) _).setCell (Nat.le_refl _) _
end Go.Proofs.YtjogfagjcpcihaaGreatDoor
namespace Go.Proofs.YtjogfagjcpcihaaGreatDoor
open Go Go.RowKit
/-- The cells of scopes whose items lie where these slices tell. -/
def scRow : List Sc → List Value → List Value
  | s :: r, u :: q => .int .i64 s.parent :: u :: scRow r q
  | _, _ => []
theorem scRow_snoc : ∀ {ss : List Sc} {hs : List Value} (s : Sc) (u : Value), hs.length = ss.length → scRow (ss ++ [s]) (hs ++ [u]) = scRow ss hs ++ [.int .i64 s.parent, u]
  | [], [], s, u, _ => rfl
  | t :: r, v :: q, s, u, h => by
    show .int .i64 t.parent :: v :: scRow (r ++ [s]) (q ++ [u]) = _
    rw [scRow_snoc s u (by simpa using h)]
    rfl
theorem scRow_at : ∀ {ss : List Sc} {hs : List Value} {i : Nat} {s : Sc} {u : Value}, ss[i]? = some s → hs[i]? = some u → (scRow ss hs)[i * 2]? = some (.int .i64 s.parent) ∧ (scRow ss hs)[i * 2 + 1]? = some u
  | t :: r, v :: q, 0, s, u, h1, h2 => by
    simp at h1 h2
    subst h1 h2
    exact ⟨rfl, rfl⟩
  | t :: r, v :: q, i + 1, s, u, h1, h2 => by
    have := scRow_at (ss := r) (hs := q) (i := i) (by simpa using h1) (by simpa using h2)
    rw [show (i + 1) * 2 = i * 2 + 2 from by omega]
    exact this
theorem scRow_length : ∀ {ss : List Sc} {hs : List Value}, hs.length = ss.length → (scRow ss hs).length = ss.length * 2
  | [], [], _ => rfl
  | t :: r, v :: q, h => by
    have := scRow_length (ss := r) (hs := q) (by simpa using h)
    simp only [scRow, List.length_cons, this]
    omega
/-- A graph of the call's own: its scopes in one block, each scope's items in one of their own. -/
structure OwnGr (w : World) (B : Nat) (v : Value) (ss : List Sc) (hs : List Value) : Prop where
  len : hs.length = ss.length
  row : w.ownsRow B 156 2 v ss.length (scRow ss hs)
  items : ∀ (i : Nat) (s : Sc) (u : Value), ss[i]? = some s → hs[i]? = some u → w.ownsRow B 37 3 u s.items.length (itemCells s.items)
  apart : ∀ (i j : Nat) (u u' : Value), i ≠ j → hs[i]? = some u → hs[j]? = some u' → u.ownBlock = none ∨ u.ownBlock ≠ u'.ownBlock
theorem OwnGr.below {w w' : World} {B : Nat} {v : Value} {ss : List Sc} {hs : List Value} (h : OwnGr w B v ss hs) (hb : Below w.heap.size w w') : OwnGr w' B v ss hs :=
  ⟨h.len, ownsRow_below h.row hb, fun i s u h1 h2 => ownsRow_below (h.items i s u h1 h2) hb, h.apart⟩
theorem OwnGr.lower {w : World} {B B' : Nat} {v : Value} {ss : List Sc} {hs : List Value} (h : OwnGr w B v ss hs) (hB : B' ≤ B) : OwnGr w B' v ss hs :=
  ⟨h.len, h.row.mono hB, fun i s u h1 h2 => (h.items i s u h1 h2).mono hB, h.apart⟩
theorem holdsItems_of_owns {w : World} {B : Nat} {u : Value} {xs : List It} (h : w.ownsRow B 37 3 u xs.length (itemCells xs)) : ∃ oi ci, u = .slice oi xs.length ci ∧ HoldsItems w oi xs := by
  have hlt := h.lt
  have hcells := fun g hg => h.cells (g := g) hg
  obtain ⟨hl, h2 | ⟨g, cap, cur, hv, hB, hh, hn, _, hs, ht⟩⟩ := h
  · exact ⟨none, 0, by rw [h2.1, h2.2], .inl (List.eq_nil_of_length_eq_zero h2.2)⟩
  · subst hv
    refine ⟨_, cap, rfl, .inr ⟨g, 0, rfl, (hlt g rfl).2, fun i x hx => ?_⟩⟩
    obtain ⟨k0, k1, k2⟩ := itemCells_at xs i x hx
    have c := fun j u hu => hcells g rfl j u hu
    have c0 := c _ _ k0
    have c1 := c _ _ k1
    have c2 := c _ _ k2
    rw [Addr.add_lit] at c0 c1 c2
    exact ⟨c0, by rw [Nat.add_assoc]; exact c1, by rw [Nat.add_assoc]; exact c2⟩
theorem OwnGr.holds {w : World} {B : Nat} {v : Value} {ss : List Sc} {hs : List Value} (h : OwnGr w B v ss hs) : ∃ oa cap, v = .slice oa ss.length cap ∧ HoldsScopes w oa ss := by
  have hit := h.items
  have hln := h.len
  obtain ⟨-, hrow, -, -⟩ := h
  have hlt := hrow.lt
  have hcells := fun g hg => hrow.cells (g := g) hg
  obtain ⟨hl, h2 | ⟨g, cap, cur, hv, hB, hh, hn, _, hsz, ht⟩⟩ := hrow
  · exact ⟨none, 0, by rw [h2.1, h2.2], .inl (List.eq_nil_of_length_eq_zero h2.2)⟩
  · subst hv
    refine ⟨_, cap, rfl, .inr ⟨g, 0, rfl, (hlt g rfl).2, fun i s hs' => ?_⟩⟩
    obtain ⟨u, hu⟩ : ∃ u, hs[i]? = some u := ⟨_, List.getElem?_eq_getElem (by have := (List.getElem?_eq_some_iff.1 hs').1; omega)⟩
    obtain ⟨oi, ci, rfl, hi⟩ := holdsItems_of_owns (hit i s u hs' hu)
    obtain ⟨k0, k1⟩ := scRow_at hs' hu
    have c0 := hcells g rfl _ _ k0
    have c1 := hcells g rfl _ _ k1
    rw [Addr.add_lit] at c0 c1
    exact ⟨oi, ci, c0, by rw [Nat.add_assoc]; exact c1, hi⟩
theorem owns_types_apart {w : World} {b1 b2 n1 n2 s1 s2 : Nat} {t1 t2 : TypeId} {v1 v2 : Value} {xs1 xs2 : List Value} (h1 : w.ownsRow b1 t1 s1 v1 n1 xs1) (h2 : w.ownsRow b2 t2 s2 v2 n2 xs2) (ht : t1 ≠ t2) : v1.ownBlock = none ∨ v1.ownBlock ≠ v2.ownBlock := by
  obtain ⟨_, k1 | ⟨g1, c1, cur1, hv1, _, hh1, _⟩⟩ := h1
  · exact .inl (by rw [k1.1]; rfl)
  · obtain ⟨_, k2 | ⟨g2, c2, cur2, hv2, _, hh2, _⟩⟩ := h2
    · refine .inr ?_
      rw [k2.1, hv1]
      intro e
      cases e
    · refine .inr ?_
      rw [hv1, hv2]
      intro e
      simp only [Value.ownBlock, Option.some.injEq] at e
      subst e
      rw [hh1] at hh2
      injection hh2 with hh2
      injection hh2 with _ e2
      exact ht e2
/-- A row of one's own, when another block alone has turned. -/
theorem ownsRow_apart {w w' : World} {base n size : Nat} {e : TypeId} {v : Value} {xs : List Value} {row : Option Nat} (h : w.ownsRow base e size v n xs) (hg : w.grownBy w' row) (hne : v.ownBlock = none ∨ v.ownBlock ≠ row) : w'.ownsRow base e size v n xs := by
  obtain ⟨h1, h2 | ⟨g, cap, cur, hv, hB, hh, r⟩⟩ := h
  · exact ⟨h1, .inl h2⟩
  · refine ⟨h1, .inr ⟨g, cap, cur, hv, hB, (hg.block g (Array.getElem?_eq_some_iff.1 hh).1 ?_).trans hh, r⟩⟩
    rw [hv] at hne
    exact hne.resolve_left (by simp [Value.ownBlock])
/-- A scope more. -/
theorem OwnGr.snoc {w0 w w' : World} {B : Nat} {v v' u : Value} {ss : List Sc} {hs : List Value} {p : Int} {xs : List It} {o : Obj} (h0 : OwnGr w0 B v ss hs) (h : OwnGr w B v ss hs) (hu : w.ownsRow w0.heap.size 37 3 u xs.length (itemCells xs)) (hB : B ≤ w0.heap.size)
    (hg : (w.alloc o).grownBy w' v.ownBlock) (hown : w'.ownsRow B 156 2 v' (ss.length + 1) (scRow ss hs ++ [.int .i64 p, u])) : OwnGr w' B v' (ss ++ [⟨p, xs⟩]) (hs ++ [u]) where
  len := by simp [h.len]
  row := by
    rw [List.length_append, scRow_snoc _ _ h.len]
    exact hown
  items := fun i s z h1 h2 => by
    have far : ∀ {B' n : Nat} {z : Value} {zs : List Value}, w.ownsRow B' 37 3 z n zs → w'.ownsRow B' 37 3 z n zs := fun hz => ownsRow_apart (hz.alloc o) hg (owns_types_apart hz h.row (by decide))
    by_cases hi : i < ss.length
    · rw [List.getElem?_append_left hi] at h1
      rw [List.getElem?_append_left (by have := h.len; omega)] at h2
      exact far (h.items i s z h1 h2)
    · obtain ⟨rfl, rfl⟩ : i = ss.length ∧ s = ⟨p, xs⟩ := by
        have hl := (List.getElem?_eq_some_iff.1 h1).1
        simp only [List.length_append, List.length_singleton] at hl
        have hi' : i = ss.length := by omega
        subst hi'
        simp at h1
        exact ⟨rfl, h1.symm⟩
      have hz : z = u := by
        rw [← h.len] at h2
        simpa using h2.symm
      subst hz
      exact (far hu).mono hB
  apart := fun i j z z' hij h1 h2 => by
    have old : ∀ (k : Nat) (y : Value), hs[k]? = some y → (y.ownBlock = none ∨ y.ownBlock ≠ u.ownBlock) ∧ (u.ownBlock = none ∨ u.ownBlock ≠ y.ownBlock) := fun k y hy => by
      obtain ⟨s, hs'⟩ : ∃ s, ss[k]? = some s := ⟨_, List.getElem?_eq_getElem (by have := (List.getElem?_eq_some_iff.1 hy).1; have := h.len; omega)⟩
      have h3 := h0.items k s y hs' hy
      have key : ∀ g, y.ownBlock = some g → u.ownBlock = some g → False := fun g e1 e2 => by
        have a1 := (h3.lt g e1).2
        have a2 := (hu.lt g e2).1
        omega
      constructor
      · cases hy1 : y.ownBlock with
        | none => exact .inl rfl
        | some g => exact .inr fun e => key g hy1 e.symm
      · cases hu1 : u.ownBlock with
        | none => exact .inl rfl
        | some g => exact .inr fun e => key g e.symm hu1
    have at' : ∀ (k : Nat) (y : Value), (hs ++ [u])[k]? = some y → (k < hs.length ∧ hs[k]? = some y) ∨ (k = hs.length ∧ y = u) := fun k y hy => by
      by_cases hk : k < hs.length
      · rw [List.getElem?_append_left hk] at hy
        exact .inl ⟨hk, hy⟩
      · have hl := (List.getElem?_eq_some_iff.1 hy).1
        simp only [List.length_append, List.length_singleton] at hl
        have hk' : k = hs.length := by omega
        subst hk'
        simp at hy
        exact .inr ⟨rfl, hy.symm⟩
    rcases at' i z h1 with ⟨hi, h3⟩ | ⟨hi, rfl⟩
    · rcases at' j z' h2 with ⟨hj, h4⟩ | ⟨hj, rfl⟩
      · exact h.apart i j z z' hij h3 h4
      · exact (old i z h3).1
    · rcases at' j z' h2 with ⟨hj, h4⟩ | ⟨hj, rfl⟩
      · exact (old j z' h4).2
      · omega
/-- What a list of items yields to an append. -/
theorem items_src {w : World} {oi : Option Addr} {xs : List It} (h : HoldsItems w oi xs) : xs = [] ∨ ∃ b off, oi = some ⟨b, off, none⟩ ∧ ∀ j u, (itemCells xs)[j]? = some u → w.cell? ((⟨b, off, none⟩ : Addr).add j) = some u := by
  rcases h with h | ⟨b, off, h1, _, h3⟩
  · exact .inl h
  · refine .inr ⟨b, off, h1, fun j u hu => ?_⟩
    have hjl := (List.getElem?_eq_some_iff.1 hu).1
    rw [itemCells_length] at hjl
    obtain ⟨x, hx⟩ : ∃ x, xs[j / 3]? = some x := ⟨_, List.getElem?_eq_getElem (by omega)⟩
    obtain ⟨k0, k1, k2⟩ := itemCells_at xs _ x hx
    obtain ⟨c0, c1, c2⟩ := h3 _ x hx
    rw [Addr.add_lit]
    rcases (show j = j / 3 * 3 ∨ j = j / 3 * 3 + 1 ∨ j = j / 3 * 3 + 2 by omega) with e | e | e
    · rw [e] at hu ⊢
      rw [k0] at hu
      cases hu
      exact c0
    · rw [e, k1] at hu
      cases hu
      rw [e, ← Nat.add_assoc]
      exact c1
    · rw [e, k2] at hu
      cases hu
      rw [e, ← Nat.add_assoc]
      exact c2
theorem run_append_items {w : World} {base n : Nat} {v : Value} {cells : List Value} (hown : w.ownsRow base 37 3 v n cells) (hb : base ≤ w.heap.size) {oi : Option Addr} {ci : Nat} {xs : List It} (h : HoldsItems w oi xs) (hn : n < 2 ^ 30) (hx : xs.length < 2 ^ 30) (ty : TypeId) :
    ∃ v' w', (Builtin.append_ #[123, 123] ty #[v, .slice oi xs.length ci]).run Tryz.prog w = .ok v' w' ∧ w'.ownsRow base 37 3 v' (n + xs.length) (cells ++ itemCells xs) ∧ w.grownBy w' v.ownBlock := by
  obtain ⟨i0, hi, hz0, hz1, hz2⟩ := info_parts infoItem
  have ht := Tryz.underlying123
  cases oi with
  | none =>
    have hxe : xs = [] := by
      rcases h with h | ⟨b, off, h1, _⟩
      · exact h
      · cases h1
    subst hxe
    have key : ∀ (a : Option Addr) (k c : Nat), k ≤ c → (Builtin.append_ #[123, 123] ty #[.slice a k c, .slice none 0 ci]).run Tryz.prog w = .ok (.slice a k c) w := fun a k c hkc =>
      run_append_nothing (P := Tryz.prog) w _ _ ty 37 i0 ht hi a k c hkc _ (Src.ofNil w ht ci)
    refine ⟨v, w, ?_, by simpa [itemCells] using hown, ⟨rfl, rfl, rfl, Nat.le_refl _, fun _ _ _ => rfl⟩⟩
    rcases hown.2 with ⟨rfl, rfl⟩ | ⟨g, cap, cur, rfl, _, _, hnc, _⟩
    · exact key none 0 0 (Nat.le_refl _)
    · exact key _ _ _ hnc
  | some a =>
    have hsrc : ∀ j u, (itemCells xs)[j]? = some u → w.cell? (a.add j) = some u := by
      rcases items_src h with h1 | ⟨b, off, h1, h2⟩
      · intro j u hu
        rw [h1] at hu
        simp [itemCells] at hu
      · cases h1
        exact h2
    obtain ⟨v', w', hrun, k1, k2, -⟩ := run_append_own (P := Tryz.prog) w base 123 ty 37 i0 _ 3 32 ht hi hz0 hz1 hz2 rfl (by decide) v n cells hown a xs.length ci (itemCells xs) (by rw [itemCells_length, Nat.mul_comm]) hsrc (fun u hu => by
      unfold itemCells at hu
      obtain ⟨x, _, hx⟩ := List.mem_flatMap.1 hu
      simp only [List.mem_cons, List.not_mem_nil, or_false] at hx
      rcases hx with rfl | rfl | rfl <;> rfl) (by unfold maxLen; omega) (by omega) hb
    exact ⟨v', w', hrun, k1, k2⟩
theorem wpList_append_items {w : World} {ops : Array Oper} {rest : List Oper} {o : Oper} {a : Act} {Q : Exit → Act → World → Prop} (hgd : o.guard = none) (s x : Operand)
    (ho : o.op = .call { callee := .builtin .append, args := #[s, x], argTypes := #[123, 123] })
    {base n : Nat} {v : Value} {cells : List Value} (hs : a.eval s = v) (hown : w.ownsRow base 37 3 v n cells) (hb : base ≤ w.heap.size) {oi : Option Addr} {ci : Nat} {xs : List It} (hx : a.eval x = .slice oi xs.length ci) (h : HoldsItems w oi xs) (hn : n < 2 ^ 30) (hxn : xs.length < 2 ^ 30)
    (hK : ∀ v' w', w'.ownsRow base 37 3 v' (n + xs.length) (cells ++ itemCells xs) → w.grownBy w' v.ownBlock → wpList Tryz.prog ops Q rest (a.put o.dst v') w') : wpList Tryz.prog ops Q (o :: rest) a w := by
  refine wpList_plain hgd fun K hK' => ?_
  obtain ⟨v', w', hrun, r1, r2⟩ := run_append_items hown hb (ci := ci) h hn hxn o.type
  unfold Oper.wp
  simp [execOp, ho, resolve, invoke, builtin, hs, hx, hrun, Result.andThen]
  exact hK' _ _ (hK v' w' r1 r2)
theorem below_grown1 {w w' : World} {B : Nat} {row : Option Nat} (h : w.grownBy w' row) (hB : B ≤ w.heap.size) (hr : ∀ r, row = some r → B ≤ r) : Below B w w' := (Below.refl B w).grown h hB hr
theorem ownsRow_setFar {w : World} {base n size : Nat} {e : TypeId} {v : Value} {xs : List Value} (h : w.ownsRow base e size v n xs) {a : Addr} (ha : a.block < base) (u : Value) : (w.setCell a u).ownsRow base e size v n xs := by
  obtain ⟨h1, h2 | ⟨g, cap, cur, hv, hB, hh, r⟩⟩ := h
  · exact ⟨h1, .inl h2⟩
  · exact ⟨h1, .inr ⟨g, cap, cur, hv, hB, (Below.heap_setCell _ _ _ _ (by omega)).trans hh, r⟩⟩
set_option maxRecDepth 100000 in
set_option maxHeartbeats 1600000 in
theorem ownScope_any (s : Sc) (oi : Option Addr) (ci : Nat) (hn : s.items.length < 1048576) (w : World) (hc : HoldsItems w oi s.items) :
    Calls Tryz.prog 185 #[.agg #[.int .i64 s.parent, .slice oi s.items.length ci]] w fun e w' => ∃ o' c', e = .returned (.agg #[.int .i64 s.parent, .slice o' s.items.length c']) ∧ w'.ownsRow w.heap.size 37 3 (.slice o' s.items.length c') s.items.length (itemCells s.items) ∧ Below w.heap.size w w' := by
  obtain ⟨p, xs⟩ := s
  dsimp only at hn hc ⊢
  have hb0 : Below w.heap.size w (((w.alloc (.cells #[.int .i64 p, .slice oi xs.length ci] 156)).alloc (.cells #[.int .i64 0, .slice none 0 0] 156)).alloc (.cells #[] 37)) := (((Below.refl _ _).alloc (Nat.le_refl _) _).alloc (by simp) _).alloc (by simp; omega) _
  have R1 := ((Row.new w [.int .i64 p, .slice oi xs.length ci] 156).alloc (.cells #[.int .i64 0, .slice none 0 0] 156)).alloc (.cells #[] 37)
  have R2 := (Row.new (w.alloc (.cells #[.int .i64 p, .slice oi xs.length ci] 156)) [.int .i64 0, .slice none 0 0] 156).alloc (.cells #[] 37)
  rw [World.size_alloc] at R2
  have hown : (((w.alloc (.cells #[.int .i64 p, .slice oi xs.length ci] 156)).alloc (.cells #[.int .i64 0, .slice none 0 0] 156)).alloc (.cells #[] 37)).ownsRow (w.heap.size + 2) 37 3 (.slice (some ⟨w.heap.size + 1 + 1, 0, none⟩) 0 0) 0 [] := by
    have h0 := World.ownsRow_made (base := w.heap.size + 2) (e := 37) (size := 3) ((w.alloc (.cells #[.int .i64 p, .slice oi xs.length ci] 156)).alloc (.cells #[.int .i64 0, .slice none 0 0] 156)) #[] 0 (by simp) (by unfold maxLen; omega) rfl
    rw [World.size_alloc, World.size_alloc] at h0
    exact h0
  have x1 := R1.cell (i := 1) (by rfl)
  have HC := Lib.hid (hc.below hb0 (Nat.le_refl _))
  have HB := Lib.hid hb0
  have HO := Lib.hid hown
  have HR1 := Lib.hid R1
  have HR2 := Lib.hid R2
  clear hc hb0 hown R1 R2
  go_enter Tryz.func185, Tryz.ntmps185
  go_wp2_with (at_builtin; refine wpList_append_items rfl _ _ rfl rfl HO.out (by simp) rfl HC.out (by omega) (by omega) ?_)
  intro v1 w1 hown1 hg1
  obtain ⟨o', c', rfl, -⟩ := holdsItems_of_owns hown1
  have hb1 : Below (w.heap.size + 2) _ w1 := below_grown1 hg1 (by simp) (fun r e => by simp only [Value.ownBlock, Option.some.injEq] at e; omega)
  have R1 := HR1.out.below hb1 (by omega)
  have R2 := HR2.out.below hb1 (by omega)
  have HB1 := Lib.hid (HB.out.trans (hb1.mono (by omega)))
  have HS := Lib.hid ((R2.other (a := ⟨w.heap.size, 1, none⟩) (by simp) (.slice o' xs.length c')).set 0 (.int .i64 p) |>.set 1 (.slice o' xs.length c'))
  have a0 := R1.cell (i := 0) (v := .int .i64 p) (by rfl)
  have a1 := R1.cell (i := 1) (v := .slice oi xs.length ci) (by rfl)
  have f1 := R1.frozen 1
  have b0 := R2.cell (i := 0) (v := .int .i64 0) (by rfl)
  have b1 := R2.cell (i := 1) (v := .slice none 0 0) (by rfl)
  have g0 := R2.frozen 0
  have g1 := R2.frozen 1
  have HOW := Lib.hid hown1
  have hz : w.heap.size + 1 < w1.heap.size := R2.lt
  clear hown1 hg1 hb1 R1 R2 x1
  go_wp2
  have d0 := HS.out.cell (i := 0) (v := .int .i64 p) (by rfl)
  have d1 := HS.out.cell (i := 1) (v := .slice o' xs.length c') (by rfl)
  refine bodyPost_ret (v := .agg #[.int .i64 p, .slice o' xs.length c']) (by simp [results, Tryz.results185, go_sem, d0, d1]) rfl ⟨o', c', rfl, ?_, ?_⟩
  · exact (ownsRow_setFar (ownsRow_setFar (ownsRow_setFar HOW.out (by simp) _) (by simp) _) (by simp) _).mono (by omega)
  · exact ((HB1.out.setCell (Nat.le_refl _) _).setCell (by simp) _).setCell (by simp) _
/-- The empty slice of scopes. -/
theorem OwnGr.made (w : World) (B : Nat) (hB : B ≤ w.heap.size) : OwnGr (w.alloc (.cells #[] 156)) B (.slice (some ⟨w.heap.size, 0, none⟩) 0 0) [] [] where
  len := rfl
  row := (World.ownsRow_made (base := w.heap.size) (e := 156) (size := 2) w #[] 0 (by simp) (by unfold maxLen; omega) rfl).mono hB
  items := by simp
  apart := by simp
set_option maxRecDepth 100000 in
set_option maxHeartbeats 4000000 in
theorem ownList_any (ss : List Sc) (oa : Option Addr) (cap : Nat) (hn : ss.length ≤ 1048576) (hn2 : ∀ s ∈ ss, s.items.length < 1048576) (w : World) (hc : HoldsScopes w oa ss) :
    Calls Tryz.prog 177 #[.slice oa ss.length cap] w fun e w' => ∃ v hs, e = .returned v ∧ OwnGr w' w.heap.size v ss hs ∧ Below w.heap.size w w' := by
  have hM := OwnGr.made w w.heap.size (Nat.le_refl _)
  have HB0 := Lib.hid ((Below.refl w.heap.size w).alloc (Nat.le_refl _) (.cells #[] 156))
  have HM := Lib.hid hM
  have HC := Lib.hid hc
  have HN2 := Lib.hid hn2
  obtain ⟨i0, hi0, hz0, hz1, hz2⟩ := info_parts infoScope
  clear hc hn2 hM
  go_enter Tryz.func177, Tryz.ntmps177
  go_wp2
  go_loopw [3, 9] (fun v i wr => ∃ (k : Nat) (hs : List Value), i = .int .i64 k ∧ k ≤ ss.length ∧ Hid (OwnGr wr w.heap.size v (ss.take k) hs ∧ Below w.heap.size w wr)) (fun _ i _ => ss.length - (intOf i).toNat)
  case atStart => exact ⟨0, [], rfl, Nat.zero_le _, Lib.hid ⟨HM.out, HB0.out⟩⟩
  case round =>
    obtain ⟨k, hs, rfl, hk, hP⟩ := hrel
    by_cases hlt : k < ss.length
    · obtain ⟨s, hs'⟩ : ∃ s, ss[k]? = some s := ⟨_, List.getElem?_eq_getElem hlt⟩
      obtain ⟨b1, f1, rfl, hb1, hcell⟩ := HC.out.at (by omega)
      obtain ⟨oi, ci, x0, x1, hIt⟩ := hcell k s hs'
      have y0 := (hP.out.2.cell (p := ⟨b1, _, none⟩) hb1).trans x0
      have y1 := (hP.out.2.cell (p := ⟨b1, _, none⟩) hb1).trans x1
      have hbA := (Below.refl wr.heap.size wr).alloc (Nat.le_refl _) (.cells #[.int .i64 s.parent, .slice oi s.items.length ci] 156)
      have HIA := Lib.hid (hIt.below (hP.out.2.trans (hbA.mono hP.out.2.size)) (Nat.le_refl _))
      have HBA := Lib.hid (hP.out.2.trans (hbA.mono hP.out.2.size))
      have HGA := Lib.hid (hP.out.1.below hbA)
      have C := Lib.hid (ownScope_any s oi ci (HN2.out s (List.mem_of_getElem? hs')) _ HIA.out)
      have HTK : Hid (ss.take (k + 1) = ss.take k ++ [s]) := Lib.hid (by rw [List.take_add_one, hs']; rfl)
      have hkl : (ss.take k).length = k := by rw [List.length_take]; omega
      have HKL := Lib.hid hkl
      have hbz := hP.out.2.size
      clear hs' hcell x0 x1 hIt hbA hkl
      go_wp2_with fail
      refine C.out.mono ?_
      rintro e w2 ⟨o', c', rfl, hown2, hb2⟩
      have HB2 := Lib.hid (HBA.out.trans (hb2.mono HBA.out.size))
      have HG2 := Lib.hid (HGA.out.below hb2)
      have HU2 := Lib.hid hown2
      have hrow := HG2.out.row
      rw [HKL.out] at hrow
      have HROW := Lib.hid hrow
      have hbs2 := HB2.out.size
      have hz3 : w.heap.size ≤ (wr.alloc (.cells #[.int .i64 s.parent, .slice oi s.items.length ci] 156)).heap.size := HBA.out.size
      clear hown2 hb2 hrow y0 y1
      go_wp2_with (at_builtin; refine wpList_append_own _ rfl _ _ 31 rfl w.heap.size 156 i0 _ 2 32 Tryz.underlying31 hi0 hz0 hz1 hz2 rfl (by decide) _ _ _ rfl (HROW.out.alloc _) ⟨w2.heap.size, 0, none⟩ 1 1 [.int .i64 s.parent, .slice o' s.items.length c'] rfl rfl ?c1 ?c2 ?c3 ?c4 ?c5 ?_)
      case c1 => exact cells_new2 _ _ _ _
      case c2 => intro u hu; simp only [List.mem_cons, List.not_mem_nil, or_false] at hu; rcases hu with rfl | rfl <;> rfl
      case c3 => unfold maxLen; omega
      case c4 => omega
      case c5 => simp only [World.size_alloc]; omega
      intro v' w3 hown3 hgrow _
      have HG3 : Hid (OwnGr w3 w.heap.size v' (ss.take (k + 1)) (hs ++ [.slice o' s.items.length c'])) := Lib.hid (by
        rw [HTK.out]
        refine OwnGr.snoc (p := s.parent) (xs := s.items) HGA.out HG2.out HU2.out hz3 hgrow ?_
        rw [HKL.out]
        exact hown3)
      have HB3 := Lib.hid (HB2.out.trans (((Below.refl w.heap.size w2).alloc hbs2 (.cells #[.int .i64 s.parent, .slice o' s.items.length c'] 156)).trans (below_grown1 hgrow (by simp; omega) (fun r e => (HROW.out.lt r e).1))))
      clear hown3 hgrow
      go_wp2
      go_roundw
      case rel => exact ⟨k + 1, _, by go_num, by omega, Lib.hid ⟨HG3.out, HB3.out⟩⟩
      case measure => simp only [intOf]; omega
    · obtain rfl : k = ss.length := by omega
      have HG : Hid (OwnGr wr w.heap.size _ ss hs) := Lib.hid (by have := hP.out.1; rwa [List.take_length] at this)
      go_wp2
      go_ret
      exact ⟨_, hs, rfl, HG.out, hP.out.2⟩
end Go.Proofs.YtjogfagjcpcihaaGreatDoor
namespace Go.Proofs.YtjogfagjcpcihaaGreatDoor
open Go Go.RowKit Sg
def itOf (p : List UInt8) : It := readIt ⟨p.toArray⟩
def okIt (p : List UInt8) : Bool := nameB (itOf p).name
/-- A scope, by its parts. -/
def parOf (ps : List (List UInt8)) : Int := match ps with
  | p :: _ => if numB p then numI p else -1
  | [] => -1
def scOf (ps : List (List UInt8)) : Sc := ⟨parOf ps, ps.tail.map itOf⟩
def okSc (ps : List (List UInt8)) : Bool := ps.tail.all okIt
/-- A graph, by the parts of its text. -/
def grOf (s : List UInt8) : List Sc := (parts 59 s).map fun p => scOf (parts 44 p)
def okGr (s : List UInt8) : Bool := (parts 59 s).all fun p => okSc (parts 44 p)
def ParseOk (s : List UInt8) : Prop := okGr s = true ∧ s ≠ [] ∧ Valid (grOf s) ∧ gTx (grOf s) = s
theorem readIt_short (s : ByteArray) : (readIt s).name.size ≤ s.size := by
  unfold readIt
  split
  · simp [ByteArray.size_extract]
  · split
    · simp [ByteArray.size_extract]
    · split
      · simp [ByteArray.size_extract]; omega
      · exact Nat.le_refl _
theorem readIt_i64 (s : ByteArray) : I64 (readIt s).scope ∧ I64 (readIt s).kind := by
  unfold readIt I64
  split
  · simp
  · split
    · simp
    · split
      · have := UInt8.toNat_lt (s.data.toList[2]?.getD 0)
        dsimp only
        omega
      · simp
theorem ownsRow_otherN {w : World} {B : Nat} {e : TypeId} {v : Value} {n T size : Nat} {xs : List Value} {t : TypeId} {vs : List Value} (h : w.ownsRow B e size v n xs) (hT : Row w T t vs) (ht : t ≠ e) (i : Nat) (u : Value) : (w.setCell ⟨T, i, none⟩ u).ownsRow B e size v n xs := by
  obtain ⟨hl, h2 | ⟨g, cap, cur, hv, hB, hh, hr⟩⟩ := h
  · exact ⟨hl, .inl h2⟩
  · refine ⟨hl, .inr ⟨g, cap, cur, hv, hB, ?_, hr⟩⟩
    rw [Below.heap_setCell _ _ _ _ (show g ≠ T from ?_)]
    · exact hh
    · rintro rfl
      unfold Row at hT
      rw [hT] at hh
      simp at hh
      exact ht hh.2
theorem OwnGr.other {w : World} {B T : Nat} {v : Value} {ss : List Sc} {hs : List Value} {t : TypeId} {vs : List Value} (h : OwnGr w B v ss hs) (hT : Row w T t vs) (h1 : t ≠ 156 ∨ v.ownBlock ≠ some T) (h2 : t ≠ 37) (i : Nat) (u : Value) : OwnGr (w.setCell ⟨T, i, none⟩ u) B v ss hs where
  len := h.len
  row := by
    rcases h1 with h1 | h1
    · exact ownsRow_otherN h.row hT h1 i u
    · obtain ⟨hl, h3 | ⟨g, cap, cur, hv, hB, hh, hr⟩⟩ := h.row
      · exact ⟨hl, .inl h3⟩
      · refine ⟨hl, .inr ⟨g, cap, cur, hv, hB, (Below.heap_setCell _ _ _ _ ?_).trans hh, hr⟩⟩
        rintro rfl
        exact h1 (by rw [hv]; rfl)
  items := fun k s z k1 k2 => ownsRow_otherN (h.items k s z k1 k2) hT h2 i u
  apart := h.apart
/-- What memory holds while a scope is read: W0 the world at its beginning. -/
structure RawIn (w W0 wr : World) (B2 B4 B7 : Nat) (v : Value) (ss : List Sc) (hs : List Value) (p : Int) (u : Value) (xs : List It) (vp : Value) (ps : List (List UInt8)) (vq : Value) (qs : List (List UInt8)) : Prop where
  t2 : Row wr B2 33 [.slice none 0 0]
  t4 : Row wr B4 33 [v]
  t7 : Row wr B7 156 [.int .i64 p, u]
  low7 : W0.heap.size ≤ B7
  base : w.heap.size ≤ W0.heap.size
  gr0 : OwnGr W0 w.heap.size v ss hs
  gr : OwnGr wr w.heap.size v ss hs
  its : wr.ownsRow W0.heap.size 37 3 u xs.length (itemCells xs)
  psr : wr.ownsRow w.heap.size 9 1 vp ps.length (ps.map strV)
  qsr : wr.ownsRow w.heap.size 9 1 vq qs.length (qs.map strV)
  below : Below w.heap.size w wr
section
variable {w W0 wr w' : World} {B2 B4 B7 : Nat} {v u vp vq : Value} {ss : List Sc} {hs : List Value} {p : Int} {xs : List It} {ps qs : List (List UInt8)}
theorem RawIn.step (h : RawIn w W0 wr B2 B4 B7 v ss hs p u xs vp ps vq qs) (hb : Below wr.heap.size wr w') : RawIn w W0 w' B2 B4 B7 v ss hs p u xs vp ps vq qs where
  t2 := h.t2.below hb h.t2.lt
  t4 := h.t4.below hb h.t4.lt
  t7 := h.t7.below hb h.t7.lt
  low7 := h.low7
  base := h.base
  gr0 := h.gr0
  gr := h.gr.below hb
  its := ownsRow_below h.its hb
  psr := ownsRow_below h.psr hb
  qsr := ownsRow_below h.qsr hb
  below := h.below.trans (hb.mono h.below.size)
theorem RawIn.vne (h : RawIn w W0 wr B2 B4 B7 v ss hs p u xs vp ps vq qs) : v.ownBlock ≠ some B7 := fun e => by
  have := (h.gr0.row.lt _ e).2
  have := h.low7
  omega
theorem RawIn.set (h : RawIn w W0 wr B2 B4 B7 v ss hs p u xs vp ps vq qs) (i : Nat) (z : Value) {p' : Int} {u' : Value} {xs' : List It} (hz : [Value.int .i64 p, u].set i z = [.int .i64 p', u']) (hu : wr.ownsRow W0.heap.size 37 3 u' xs'.length (itemCells xs')) :
    RawIn w W0 (wr.setCell ⟨B7, i, none⟩ z) B2 B4 B7 v ss hs p' u' xs' vp ps vq qs where
  t2 := h.t2.other (fun e => h.t7.neq h.t2 (by decide) e) z
  t4 := h.t4.other (fun e => h.t7.neq h.t4 (by decide) e) z
  t7 := by have := h.t7.set i z; rwa [hz] at this
  low7 := h.low7
  base := h.base
  gr0 := h.gr0
  gr := h.gr.other h.t7 (.inr h.vne) (by decide) i z
  its := ownsRow_otherN hu h.t7 (by decide) i z
  psr := ownsRow_otherN h.psr h.t7 (by decide) i z
  qsr := ownsRow_otherN h.qsr h.t7 (by decide) i z
  below := h.below.setCell (Nat.le_trans h.base h.low7) z
theorem own_row_ne {w : World} {g n size B : Nat} {t e : TypeId} {v : Value} {vs xs : List Value} (hr : Row w g t vs) (h : w.ownsRow B e size v n xs) (ht : t ≠ e) : some g ≠ v.ownBlock := by
  obtain ⟨hl, h2 | ⟨g', cap, cur, hv, hB, hh, _⟩⟩ := h
  · rw [h2.1]; simp [Value.ownBlock]
  · rw [hv]
    intro e'
    simp only [Value.ownBlock, Option.some.injEq] at e'
    subst e'
    unfold Row at hr
    rw [hr] at hh
    simp at hh
    exact ht hh.2
theorem RawIn.grGrown (h : RawIn w W0 wr B2 B4 B7 v ss hs p u xs vp ps vq qs) {o : Obj} (hg : (wr.alloc o).grownBy w' u.ownBlock) : OwnGr w' w.heap.size v ss hs where
  len := h.gr.len
  row := ownsRow_apart (h.gr.row.alloc o) hg (owns_types_apart h.gr.row h.its (by decide))
  items := fun i s z h1 h2 => by
    refine ownsRow_apart ((h.gr.items i s z h1 h2).alloc o) hg ?_
    cases hz : z.ownBlock with
    | none => exact .inl rfl
    | some g =>
      refine .inr fun e => ?_
      have a1 := ((h.gr0.items i s z h1 h2).lt g hz).2
      have a2 := (h.its.lt g e.symm).1
      omega
  apart := h.gr.apart
/-- The items' row grows, and the scope holds it. -/
theorem RawIn.push (h : RawIn w W0 wr B2 B4 B7 v ss hs p u xs vp ps vq qs) {o : Obj} (hg : (wr.alloc o).grownBy w' u.ownBlock) {u' : Value} {xs' : List It} (hu : w'.ownsRow W0.heap.size 37 3 u' xs'.length (itemCells xs')) :
    RawIn w W0 (w'.setCell ⟨B7, 1, none⟩ u') B2 B4 B7 v ss hs p u' xs' vp ps vq qs := by
  have g2 : Row w' B2 33 [.slice none 0 0] := (h.t2.alloc o).grown hg (own_row_ne h.t2 h.its (by decide))
  have g4 : Row w' B4 33 [v] := (h.t4.alloc o).grown hg (own_row_ne h.t4 h.its (by decide))
  have g7 : Row w' B7 156 [.int .i64 p, u] := (h.t7.alloc o).grown hg (own_row_ne h.t7 h.its (by decide))
  have hB : Below w.heap.size w w' := (h.below.alloc h.below.size o).grown hg (by have := h.below.size; simp; omega) (fun r e => Nat.le_trans h.base (h.its.lt r e).1)
  exact
    { t2 := g2.other (fun e => g7.neq g2 (by decide) e) u'
      t4 := g4.other (fun e => g7.neq g4 (by decide) e) u'
      t7 := g7.set 1 u'
      low7 := h.low7
      base := h.base
      gr0 := h.gr0
      gr := (h.grGrown hg).other g7 (.inr h.vne) (by decide) 1 u'
      its := ownsRow_otherN hu g7 (by decide) 1 u'
      psr := ownsRow_otherN (ownsRow_apart (h.psr.alloc o) hg (owns_types_apart h.psr h.its (by decide))) g7 (by decide) 1 u'
      qsr := ownsRow_otherN (ownsRow_apart (h.qsr.alloc o) hg (owns_types_apart h.qsr h.its (by decide))) g7 (by decide) 1 u'
      below := hB.setCell (Nat.le_trans h.base h.low7) u' }
end
/-- What memory holds between two scopes. -/
structure RawOut (w wr : World) (B2 B4 : Nat) (v : Value) (ss : List Sc) (hs : List Value) (vp : Value) (ps : List (List UInt8)) : Prop where
  t2 : Row wr B2 33 [.slice none 0 0]
  t4 : Row wr B4 33 [v]
  low4 : w.heap.size ≤ B4
  gr : OwnGr wr w.heap.size v ss hs
  psr : wr.ownsRow w.heap.size 9 1 vp ps.length (ps.map strV)
  below : Below w.heap.size w wr
theorem RawOut.step {w wr w' : World} {B2 B4 : Nat} {v vp : Value} {ss : List Sc} {hs : List Value} {ps : List (List UInt8)} (h : RawOut w wr B2 B4 v ss hs vp ps) (hb : Below wr.heap.size wr w') : RawOut w w' B2 B4 v ss hs vp ps :=
  ⟨h.t2.below hb h.t2.lt, h.t4.below hb h.t4.lt, h.low4, h.gr.below hb, ownsRow_below h.psr hb, h.below.trans (hb.mono h.below.size)⟩
/-- A scope is begun. -/
theorem RawOut.begin {w wr w' : World} {B2 B4 : Nat} {v vp vq : Value} {ss : List Sc} {hs : List Value} {ps qs : List (List UInt8)} (h : RawOut w wr B2 B4 v ss hs vp ps) (hb : Below ((wr.alloc (.cells #[] 37)).alloc (.cells #[.int .i64 (-1), .slice (some ⟨wr.heap.size, 0, none⟩) 0 0] 156)).heap.size ((wr.alloc (.cells #[] 37)).alloc (.cells #[.int .i64 (-1), .slice (some ⟨wr.heap.size, 0, none⟩) 0 0] 156)) w')
    (hq : w'.ownsRow ((wr.alloc (.cells #[] 37)).alloc (.cells #[.int .i64 (-1), .slice (some ⟨wr.heap.size, 0, none⟩) 0 0] 156)).heap.size 9 1 vq qs.length (qs.map strV)) :
    RawIn w wr w' B2 B4 (wr.heap.size + 1) v ss hs (-1) (.slice (some ⟨wr.heap.size, 0, none⟩) 0 0) [] vp ps vq qs := by
  have hba : Below wr.heap.size wr ((wr.alloc (.cells #[] 37)).alloc (.cells #[.int .i64 (-1), .slice (some ⟨wr.heap.size, 0, none⟩) 0 0] 156)) := ((Below.refl _ _).alloc (Nat.le_refl _) _).alloc (by simp) _
  have hbw : Below wr.heap.size wr w' := hba.trans (hb.mono hba.size)
  have r7 := Row.new (wr.alloc (.cells #[] 37)) [.int .i64 (-1), .slice (some ⟨wr.heap.size, 0, none⟩) 0 0] 156
  rw [World.size_alloc] at r7
  have h1 := h.step hbw
  exact
    { t2 := h1.t2
      t4 := h1.t4
      t7 := r7.below hb r7.lt
      low7 := Nat.le_succ _
      base := h.below.size
      gr0 := h.gr
      gr := h1.gr
      its := by
        have h0 := (World.ownsRow_made (base := wr.heap.size) (e := 37) (size := 3) wr #[] 0 (by simp) (by unfold maxLen; omega) rfl)
        exact ownsRow_below (h0.alloc _) hb
      psr := h1.psr
      qsr := hq.mono (Nat.le_trans h.below.size hba.size)
      below := h1.below }
/-- A scope is ended: it is one of the graph's. -/
theorem RawIn.ended {w W0 wr w' : World} {B2 B4 B7 : Nat} {v u vp vq v' : Value} {ss : List Sc} {hs : List Value} {p : Int} {xs : List It} {ps qs : List (List UInt8)} (h : RawIn w W0 wr B2 B4 B7 v ss hs p u xs vp ps vq qs) (h4 : w.heap.size ≤ B4) {o : Obj} (hg : (wr.alloc o).grownBy w' v.ownBlock)
    (hown : w'.ownsRow w.heap.size 156 2 v' (ss.length + 1) (scRow ss hs ++ [.int .i64 p, u])) : RawOut w (w'.setCell ⟨B4, 0, none⟩ v') B2 B4 v' (ss ++ [⟨p, xs⟩]) (hs ++ [u]) vp ps ∨ B2 = B4 := by
  by_cases he : B2 = B4
  · exact .inr he
  left
  have g2 : Row w' B2 33 [.slice none 0 0] := (h.t2.alloc o).grown hg (own_row_ne h.t2 h.gr.row (by decide))
  have g4 : Row w' B4 33 [v] := (h.t4.alloc o).grown hg (own_row_ne h.t4 h.gr.row (by decide))
  have hB : Below w.heap.size w w' := (h.below.alloc h.below.size o).grown hg (by have := h.below.size; simp; omega) (fun r e => (h.gr.row.lt r e).1)
  exact
    { t2 := g2.other (Ne.symm he) v'
      t4 := g4.set 0 v'
      low4 := h4
      gr := (OwnGr.snoc h.gr0 h.gr h.its h.base hg hown).other g4 (.inl (by decide)) (by decide) 0 v'
      psr := ownsRow_otherN (ownsRow_apart (h.psr.alloc o) hg (owns_types_apart h.psr h.gr.row (by decide))) g4 (by decide) 0 v'
      below := hB.setCell h4 v' }
end Go.Proofs.YtjogfagjcpcihaaGreatDoor
namespace Go.Proofs.YtjogfagjcpcihaaGreatDoor
open Go Go.RowKit Sg
theorem parts_count (c : UInt8) : ∀ l : List UInt8, (parts c l).length ≤ l.length + 1
  | [] => by simp [parts]
  | b :: r => by
    have ih := parts_count c r
    by_cases hb : b = c
    · subst hb
      rw [parts_eq]
      simp; omega
    · rw [parts_neq hb]
      cases hq : parts c r with
      | nil => exact absurd hq (parts_ne c r)
      | cons q qs =>
        rw [hq] at ih
        simp only [glue, List.length_cons] at ih ⊢
        omega
/-- The texts that a row holds. -/
theorem texts_at {w : World} {B : Nat} {v : Value} {ps : List (List UInt8)} (h : w.ownsRow B 9 1 v ps.length (ps.map strV)) (hne : ps ≠ []) : ∃ g off cap, v = .slice (some ⟨g, off, none⟩) ps.length cap ∧ ∀ (W : World) (B' : Nat), W.ownsRow B' 9 1 v ps.length (ps.map strV) → ∀ (i : Nat) (p : List UInt8), ps[i]? = some p → W.cell? ⟨g, off + i, none⟩ = some (.string ⟨p.toArray⟩) := by
  obtain ⟨hl, h2 | ⟨g, cap, cur, hv, _⟩⟩ := h
  · exact absurd (List.eq_nil_of_length_eq_zero h2.2) hne
  · refine ⟨g, 0, cap, hv, fun W B' hW i p hp => ?_⟩
    have := hW.cells (g := g) (by rw [hv]; rfl) i (strV p) (by rw [List.getElem?_map, hp]; rfl)
    rw [Addr.add_lit] at this
    exact this
def RawGot (s : List UInt8) (w : World) (e : Ending) (w' : World) : Prop :=
  (ParseOk s ∧ ∃ v hs, e = .returned (.tuple #[.agg #[v], .bool true]) ∧ OwnGr w' w.heap.size v (grOf s) hs ∧ Below w.heap.size w w') ∨
  (¬ ParseOk s ∧ e = .returned (.tuple #[.agg #[.slice none 0 0], .bool false]) ∧ Below w.heap.size w w')
theorem okGr_bad {s p : List UInt8} (h1 : p ∈ parts 59 s) {y : List UInt8} (h2 : y ∈ (parts 44 p).tail) (h3 : okIt y = false) : ¬ ParseOk s := by
  intro h
  have h4 := h.1
  unfold okGr at h4
  have h5 := List.all_eq_true.1 h4 p h1
  unfold okSc at h5
  have h6 := List.all_eq_true.1 h5 y h2
  rw [h3] at h6
  cases h6
theorem fits_grOf (s : List UInt8) (hs : s.length ≤ 1000000) : FitsScopes (grOf s) ∧ (grOf s).length ≤ 1048576 ∧ (∀ c ∈ grOf s, c.items.length < 1048576) := by
  have h1 : ∀ c ∈ grOf s, c.items.length < 1048576 ∧ FitsItems c.items := fun c hc => by
    unfold grOf at hc
    obtain ⟨p, hp, rfl⟩ := List.mem_map.1 hc
    have l1 := parts_len 59 s p hp
    have l2 := parts_count 44 p
    have l3 : (scOf (parts 44 p)).items.length ≤ (parts 44 p).length := by simp [scOf]
    refine ⟨by omega, by omega, fun x hx => ?_⟩
    unfold scOf at hx
    obtain ⟨y, hy, rfl⟩ := List.mem_map.1 hx
    have l4 := parts_len 44 p y (List.mem_of_mem_tail hy)
    have l5 := readIt_short ⟨y.toArray⟩
    have l6 : (⟨y.toArray⟩ : ByteArray).size = y.length := by simp [ByteArray.size]
    unfold itOf
    omega
  have h2 : (grOf s).length ≤ 1000001 := by
    have := parts_count 59 s
    unfold grOf
    rw [List.length_map]
    omega
  exact ⟨⟨by omega, fun c hc => (h1 c hc).2⟩, by omega, fun c hc => (h1 c hc).1⟩
/-- What holds at the head of a round over the parts of a scope. -/
structure RawHd (w W0 wr : World) (B2 B4 B7 : Nat) (v : Value) (ss : List Sc) (hs : List Value) (vp : Value) (ps : List (List UInt8)) (vq : Value) (qs : List (List UInt8)) (j : Nat) : Prop where
  at' : ∃ p u, RawIn w W0 wr B2 B4 B7 v ss hs p u ((qs.tail.take (j - 1)).map itOf) vp ps vq qs ∧ p = if j = 0 then -1 else parOf qs
  oks : ∀ y ∈ qs.tail.take (j - 1), okIt y = true
theorem cut_semi (s : ByteArray) (w : World) (hs : s.size ≤ 1048576) :
    Calls Tryz.prog 41 #[.string s, .int .u8 59] w fun e w' => ∃ v, e = .returned v ∧ w'.ownsRow w.heap.size 9 1 v (parts 59 s.data.toList).length ((parts 59 s.data.toList).map strV) ∧ Below w.heap.size w w' := l13Cut_any s 59 w hs
theorem cut_comma (p : List UInt8) (w : World) (hs : p.length ≤ 1048576) :
    Calls Tryz.prog 41 #[.string ⟨p.toArray⟩, .int .u8 44] w fun e w' => ∃ v, e = .returned v ∧ w'.ownsRow w.heap.size 9 1 v (parts 44 p).length ((parts 44 p).map strV) ∧ Below w.heap.size w w' :=
  l13Cut_any ⟨p.toArray⟩ 44 w (by simpa [ByteArray.size] using hs)
theorem cells_new3 (w : World) (x y z : Value) (t : TypeId) : ∀ (j : Nat) (u : Value), [x, y, z][j]? = some u → (w.alloc (.cells #[x, y, z] t)).cell? ((⟨w.heap.size, 0, none⟩ : Addr).add j) = some u := by
  intro j u hj
  match j, hj with
  | 0, hj => simp at hj; subst hj; simp [Addr.add]
  | 1, hj => simp at hj; subst hj; simp [Addr.add]
  | 2, hj => simp at hj; subst hj; simp [Addr.add]
set_option maxRecDepth 100000 in
set_option maxHeartbeats 8000000 in
theorem rawParse_any (s : ByteArray) (hs : s.size ≤ 1000000) (w : World) : Calls Tryz.prog 159 #[.string s] w (RawGot s.data.toList w) := by
  have hsl : s.data.toList.length = s.size := by rw [Array.length_toList]; rfl
  have hb0 : Below w.heap.size w (((w.alloc (.cells #[.slice none 0 0] 33)).alloc (.cells #[] 156)).alloc (.cells #[.slice (some ⟨w.heap.size + 1, 0, none⟩) 0 0] 33)) := (((Below.refl _ _).alloc (Nat.le_refl _) _).alloc (by simp) _).alloc (by simp; omega) _
  have r2 : Row (((w.alloc (.cells #[.slice none 0 0] 33)).alloc (.cells #[] 156)).alloc (.cells #[.slice (some ⟨w.heap.size + 1, 0, none⟩) 0 0] 33)) w.heap.size 33 [.slice none 0 0] := ((Row.new w [.slice none 0 0] 33).alloc _).alloc _
  have r4 : Row (((w.alloc (.cells #[.slice none 0 0] 33)).alloc (.cells #[] 156)).alloc (.cells #[.slice (some ⟨w.heap.size + 1, 0, none⟩) 0 0] 33)) (w.heap.size + 1 + 1) 33 [.slice (some ⟨w.heap.size + 1, 0, none⟩) 0 0] := by
    have := Row.new ((w.alloc (.cells #[.slice none 0 0] 33)).alloc (.cells #[] 156)) [.slice (some ⟨w.heap.size + 1, 0, none⟩) 0 0] 33
    rw [World.size_alloc, World.size_alloc] at this
    exact this
  have hg0 : OwnGr (((w.alloc (.cells #[.slice none 0 0] 33)).alloc (.cells #[] 156)).alloc (.cells #[.slice (some ⟨w.heap.size + 1, 0, none⟩) 0 0] 33)) w.heap.size (.slice (some ⟨w.heap.size + 1, 0, none⟩) 0 0) [] [] := by
    have h1 := OwnGr.made (w.alloc (.cells #[.slice none 0 0] 33)) w.heap.size (by simp)
    rw [World.size_alloc] at h1
    exact h1.below ((Below.refl _ _).alloc (Nat.le_refl _) _)
  have C := Lib.hid (cut_semi s (((w.alloc (.cells #[.slice none 0 0] 33)).alloc (.cells #[] 156)).alloc (.cells #[.slice (some ⟨w.heap.size + 1, 0, none⟩) 0 0] 33)) (by omega))
  have H0 := Lib.hid (And.intro hb0 (And.intro r2 (And.intro r4 hg0)))
  obtain ⟨ps, hps⟩ : ∃ ps, parts 59 s.data.toList = ps := ⟨_, rfl⟩
  rw [hps] at C
  have HPS := Lib.hid hps
  have HSL := Lib.hid hsl
  have hpc := parts_count 59 s.data.toList
  rw [hps, hsl] at hpc
  have HPN : Hid (ps ≠ []) := Lib.hid (hps ▸ parts_ne 59 s.data.toList)
  clear hb0 r2 r4 hg0 hps hsl
  go_enter Tryz.func159, Tryz.ntmps159
  go_wp2_with fail
  refine C.out.mono ?_
  rintro e w1 ⟨vp, rfl, hrow1, hb1⟩
  obtain ⟨gp, op, cp, rfl, hpat⟩ := texts_at hrow1 HPN.out
  have HPAT := Lib.hid hpat
  have HO1 : Hid (RawOut w w1 w.heap.size (w.heap.size + 1 + 1) (.slice (some ⟨w.heap.size + 1, 0, none⟩) 0 0) [] [] (.slice (some ⟨gp, op, none⟩) ps.length cp) ps) := Lib.hid
    ⟨H0.out.2.1.below hb1 H0.out.2.1.lt, H0.out.2.2.1.below hb1 H0.out.2.2.1.lt, by omega, H0.out.2.2.2.below hb1, hrow1.mono H0.out.1.size, H0.out.1.trans (hb1.mono H0.out.1.size)⟩
  clear hrow1 hb1 hpat
  go_wp2
  go_loopw [19] (fun i wr => ∃ (k : Nat) (v : Value) (hs : List Value), i = .int .i64 k ∧ k ≤ ps.length ∧ Hid (RawOut w wr w.heap.size (w.heap.size + 1 + 1) v ((ps.take k).map fun p => scOf (parts 44 p)) hs (.slice (some ⟨gp, op, none⟩) ps.length cp) ps ∧ ∀ p ∈ ps.take k, okSc (parts 44 p) = true)) (fun i _ => ps.length - (intOf i).toNat)
  case atStart => exact ⟨0, _, [], rfl, Nat.zero_le _, Lib.hid ⟨HO1.out, by simp⟩⟩
  case round =>
    obtain ⟨k, v, hs', rfl, hk, hP⟩ := hrel
    obtain ⟨ssk, hss⟩ : ∃ ss, ((ps.take k).map fun p => scOf (parts 44 p)) = ss := ⟨_, rfl⟩
    rw [hss] at hP
    have hsl : ssk.length ≤ 1000001 := by rw [← hss, List.length_map, List.length_take]; omega
    have HSS := Lib.hid hss
    clear hss
    by_cases hlt : k < ps.length
    · obtain ⟨p, hp⟩ : ∃ p, ps[k]? = some p := ⟨_, List.getElem?_eq_getElem hlt⟩
      have x0 := HPAT.out _ _ hP.out.1.psr k p hp
      have hpm : p ∈ parts 59 s.data.toList := by rw [HPS.out]; exact List.mem_of_getElem? hp
      have hpl : p.length ≤ 1000000 := by have := parts_len 59 _ p hpm; have := HSL.out; omega
      have HPM := Lib.hid hpm
      have HTK : Hid (ps.take (k + 1) = ps.take k ++ [p]) := Lib.hid (by rw [List.take_add_one, hp]; rfl)
      have C2 := Lib.hid (fun W => cut_comma p W (by omega))
      have hqc := parts_count 44 p
      have HQL := Lib.hid (fun y hy => parts_len 44 p y hy)
      obtain ⟨qs, hqs⟩ : ∃ qs, parts 44 p = qs := ⟨_, rfl⟩
      rw [hqs] at C2 hqc HQL
      have HQS := Lib.hid hqs
      have HQN : Hid (qs ≠ []) := Lib.hid (hqs ▸ parts_ne 44 p)
      obtain ⟨wo, hwo⟩ : ∃ wo : World, wo = wr := ⟨_, rfl⟩
      rw [← hwo] at hP
      clear hp hpm hqs
      go_wp2_with fail
      refine (C2.out _).mono ?_
      rintro e w2 ⟨vq, rfl, hrow2, hb2⟩
      rw [← hwo] at hrow2 hb2
      obtain ⟨gq, oq, cq, rfl, hqat⟩ := texts_at hrow2 HQN.out
      have HQAT := Lib.hid hqat
      have HIN := Lib.hid (hP.out.1.begin hb2 hrow2)
      rw [← hwo]
      clear hrow2 hb2 hqat hwo x0
      go_wp2
      go_loopw [28] (fun i4 wr4 => ∃ j : Nat, i4 = .int .i64 j ∧ j ≤ qs.length ∧ Hid (RawHd w wo wr4 w.heap.size (w.heap.size + 1 + 1) (wo.heap.size + 1) v ssk hs' (.slice (some ⟨gp, op, none⟩) ps.length cp) ps (.slice (some ⟨gq, oq, none⟩) qs.length cq) qs j)) (fun i4 _ => qs.length - (intOf i4).toNat)
      case atStart => exact ⟨0, rfl, Nat.zero_le _, Lib.hid ⟨⟨-1, _, by simpa using HIN.out, rfl⟩, by simp⟩⟩
      case round =>
        obtain ⟨j, rfl, hj, hQ⟩ := hrel
        obtain ⟨pp, u, hI, hpp⟩ := hQ.out.at'
        obtain ⟨xsj, hxs⟩ : ∃ xs, (qs.tail.take (j - 1)).map itOf = xs := ⟨_, rfl⟩
        rw [hxs] at hI
        obtain ⟨ou, cu, rfl, -⟩ := holdsItems_of_owns hI.its
        have hxl : xsj.length ≤ 1000001 := by rw [← hxs, List.length_map, List.length_take, List.length_tail]; omega
        have HPP := Lib.hid hpp
        have HI := Lib.hid hI
        have HXS := Lib.hid hxs
        clear hpp hI hxs
        by_cases hlt2 : j < qs.length
        · obtain ⟨y, hy⟩ : ∃ y, qs[j]? = some y := ⟨_, List.getElem?_eq_getElem hlt2⟩
          have x1 := HQAT.out _ _ HI.out.qsr j y hy
          have hyl : y.length ≤ 1000000 := by have := HQL.out y (List.mem_of_getElem? hy); omega
          have r70 := HI.out.t7.cell (i := 0) (by rfl)
          have f70 := HI.out.t7.frozen 0
          by_cases h0 : j = 0
          · subst h0
            rw [Nat.add_zero] at x1
            have HIX := Lib.hid (show RawIn w wo _ w.heap.size (w.heap.size + 1 + 1) (wo.heap.size + 1) v ssk hs' pp (.slice ou xsj.length cu) ((qs.tail.take (1 - 1)).map itOf) (.slice (some ⟨gp, op, none⟩) ps.length cp) ps (.slice (some ⟨gq, oq, none⟩) qs.length cq) qs from by
              have h := HI.out
              rw [← HXS.out] at h ⊢
              exact h)
            have HPO : Hid (parOf qs = if numB y = true then numI y else -1) := Lib.hid (by
              unfold parOf
              cases qs with
              | nil => simp at hy
              | cons a b => simp at hy; subst hy; rfl)
            have hq0 : (((0 : Nat) : Int) == 0) = true := rfl
            have CN := Lib.hid (fun W => l13Num_list y W (by omega))
            cases hnb : numB y
            · rw [hnb] at CN HPO
              have HR : Hid (RawHd w wo _ w.heap.size (w.heap.size + 1 + 1) (wo.heap.size + 1) v ssk hs' (.slice (some ⟨gp, op, none⟩) ps.length cp) ps (.slice (some ⟨gq, oq, none⟩) qs.length cq) qs 1) := Lib.hid
                ⟨⟨pp, _, HIX.out, by rw [HPP.out, if_pos rfl, if_neg (by omega), HPO.out]; rfl⟩, by simp⟩
              clear hy
              go_wp2_with fail
              refine (CN.out _).mono ?_
              rintro e w3 ⟨rfl, rfl⟩
              go_wp2
              go_roundw
              case rel => exact ⟨1, by go_num, by omega, HR⟩
              case measure => simp only [intOf]; omega
            · rw [hnb] at CN HPO
              have HR := Lib.hid (HIX.out.set 0 (.int .i64 (numI y)) (p' := numI y) (u' := .slice ou xsj.length cu) (xs' := (qs.tail.take (1 - 1)).map itOf) rfl HIX.out.its)
              have HPN2 : Hid (numI y = parOf qs) := Lib.hid (by rw [HPO.out]; rfl)
              clear hy
              go_wp2_with fail
              refine (CN.out _).mono ?_
              rintro e w3 ⟨rfl, rfl⟩
              go_wp2
              go_roundw
              case rel => exact ⟨1, by go_num, by omega, Lib.hid ⟨⟨numI y, _, HR.out, by rw [if_neg (by omega)]; exact HPN2.out⟩, by simp⟩⟩
              case measure => simp only [intOf]; omega
          · have hyt : qs.tail[j - 1]? = some y := by
              rw [List.getElem?_tail, show j - 1 + 1 = j from by omega]
              exact hy
            have hq0 : (((j : Nat) : Int) == 0) = false := by simp; omega
            have HYM := Lib.hid (List.mem_of_getElem? hyt)
            have HTY : Hid (qs.tail.take (j + 1 - 1) = qs.tail.take (j - 1) ++ [y]) := Lib.hid (by
              rw [show j + 1 - 1 = (j - 1) + 1 from by omega, List.take_add_one, hyt]
              rfl)
            have C5 := Lib.hid (fun W => l1Read_any ⟨y.toArray⟩ (by simp [ByteArray.size]; omega) W)
            have HIT : Hid (readIt ⟨y.toArray⟩ = itOf y) := Lib.hid rfl
            have HOK : Hid (nameB (itOf y).name = okIt y) := Lib.hid rfl
            clear hy hyt r70 f70
            go_wp2_with fail
            refine (C5.out _).mono ?_
            rintro e w3 ⟨rfl, hb3⟩
            rw [HIT.out, HOK.out]
            obtain ⟨it, hit⟩ : ∃ it, itOf y = it := ⟨_, rfl⟩
            rw [hit]
            have HI3 := Lib.hid (HI.out.step hb3)
            have hbA := (Below.refl w3.heap.size w3).alloc (Nat.le_refl _) (.cells #[.int .i64 it.kind, .string it.name, .int .i64 it.scope] 37)
            have HIA := Lib.hid (HI3.out.step hbA)
            have HITE := Lib.hid hit
            clear hb3 hbA hit x1
            cases hok : okIt y
            · have a2 := HIA.out.t2.cell (i := 0) (v := .slice none 0 0) (by rfl)
              have f2 := HIA.out.t2.frozen 0
              have a2' := (HIA.out.t2.set 0 (.slice none 0 0)).cell (i := 0) (v := .slice none 0 0) (by rfl)
              have HBAD := Lib.hid (okGr_bad HPM.out (by rw [HQS.out]; exact HYM.out) hok)
              clear hok
              go_wp2
              refine bodyPost_ret (v := .tuple #[.agg #[.slice none 0 0], .bool false]) (by simp [results, Tryz.results159, go_sem, a2']) rfl (.inr ⟨HBAD.out, rfl, ?_⟩)
              exact HIA.out.below.setCell (Nat.le_refl _) _
            · have HOKY := Lib.hid hok
              have r7 := HIA.out.t7.cell (i := 1) (v := .slice ou xsj.length cu) (by rfl)
              have hus := HIA.out.below.size
              have hwz := HIA.out.base
              obtain ⟨i0, hi0, hz0, hz1, hz2⟩ := info_parts infoItem
              have hwo3 : wo.heap.size ≤ w3.heap.size := by
                have h1 := HI3.out.t7.lt
                have h2 := HI3.out.low7
                omega
              clear hok
              go_wp2_with (at_builtin; refine wpList_append_own _ rfl _ _ 123 rfl wo.heap.size 37 i0 _ 3 32 Tryz.underlying123 hi0 hz0 hz1 hz2 rfl (by decide) _ _ _ rfl (HIA.out.its.alloc _) ⟨w3.heap.size + 1, 0, none⟩ 1 1 [.int .i64 it.kind, .string it.name, .int .i64 it.scope] rfl rfl ?c1 ?c2 ?c3 ?c4 ?c5 ?_)
              case c1 =>
                have := cells_new3 (w3.alloc (.cells #[.int .i64 it.kind, .string it.name, .int .i64 it.scope] 37)) (.int .i64 it.kind) (.string it.name) (.int .i64 it.scope) 37
                rw [World.size_alloc] at this
                exact this
              case c2 => intro u hu; simp only [List.mem_cons, List.not_mem_nil, or_false] at hu; rcases hu with rfl | rfl | rfl <;> rfl
              case c3 => unfold maxLen; omega
              case c4 => omega
              case c5 => simp only [World.size_alloc]; omega
              intro u' w4 hown4 hgrow _
              have hpu := (HIA.out.push hgrow (u' := u') (xs' := (qs.tail.take (j + 1 - 1)).map itOf) (by
                rw [HTY.out, List.map_append, List.length_append, List.map_cons, List.map_nil, HITE.out, itemCells_snoc, HXS.out]
                exact hown4))
              obtain ⟨ou', cu', hu', -⟩ := holdsItems_of_owns hpu.its
              obtain ⟨n', hn'⟩ : ∃ n', ((qs.tail.take (j + 1 - 1)).map itOf).length = n' := ⟨_, rfl⟩
              rw [hn'] at hu'
              subst hu'
              have HPU := Lib.hid hpu
              have g7 : Row w4 (wo.heap.size + 1) 156 [.int .i64 pp, .slice ou xsj.length cu] := (HIA.out.t7.alloc _).grown hgrow (own_row_ne HIA.out.t7 HIA.out.its (by decide))
              have g70 := g7.cell (i := 1) (v := .slice ou xsj.length cu) (by rfl)
              have g7f := g7.frozen 1
              clear hown4 hgrow r7 g7 hpu hn'
              go_wp2
              go_roundw
              case rel => exact ⟨j + 1, by go_num, by omega, Lib.hid ⟨⟨pp, _, HPU.out, by rw [HPP.out, if_neg h0, if_neg (by omega)]⟩, fun z hz => by
                rw [HTY.out, List.mem_append, List.mem_singleton] at hz
                rcases hz with hz | rfl
                · exact hQ.out.oks z hz
                · exact HOKY.out⟩⟩
              case measure => simp only [intOf]; omega
        · obtain rfl : j = qs.length := by omega
          have hqpos : 0 < qs.length := List.length_pos_iff.2 HQN.out
          have hpo : pp = parOf qs := by rw [HPP.out, if_neg (by omega)]
          have htl : qs.tail.take (qs.length - 1) = qs.tail := List.take_of_length_le (by rw [List.length_tail]; omega)
          have HOKS : Hid (okSc (parts 44 p) = true) := Lib.hid (by
            unfold okSc
            rw [HQS.out]
            refine List.all_eq_true.2 fun z hz => hQ.out.oks z ?_
            rw [htl]
            exact hz)
          have HI2 := HI
          have HSC : Hid ((⟨pp, xsj⟩ : Sc) = scOf (parts 44 p)) := Lib.hid (by
            have h := HXS.out
            rw [htl] at h
            rw [HQS.out, hpo, ← h]
            rfl)
          have r4 := HI.out.t4.cell (i := 0) (v := v) (by rfl)
          have r70 := HI.out.t7.cell (i := 0) (v := .int .i64 pp) (by rfl)
          have r71 := HI.out.t7.cell (i := 1) (v := .slice ou xsj.length cu) (by rfl)
          obtain ⟨i0, hi0, hz0, hz1, hz2⟩ := info_parts infoScope
          have hws := HI.out.below.size
          clear hpo htl
          go_wp2_with (at_builtin; refine wpList_append_own _ rfl _ _ 31 rfl w.heap.size 156 i0 _ 2 32 Tryz.underlying31 hi0 hz0 hz1 hz2 rfl (by decide) _ _ _ rfl (HI2.out.gr.row.alloc _) ⟨wr.heap.size, 0, none⟩ 1 1 [.int .i64 pp, .slice ou xsj.length cu] rfl rfl ?d1 ?d2 ?d3 ?d4 ?d5 ?_)
          case d1 => exact cells_new2 _ _ _ _
          case d2 => intro z hz; simp only [List.mem_cons, List.not_mem_nil, or_false] at hz; rcases hz with rfl | rfl <;> rfl
          case d3 => unfold maxLen; omega
          case d4 => omega
          case d5 => simp only [World.size_alloc]; omega
          intro v' w4 hown4 hgrow _
          have HE := Lib.hid ((HI2.out.ended (by omega) hgrow hown4).resolve_right (by omega))
          obtain ⟨ov', cv', hov, -⟩ := HE.out.gr.holds
          obtain ⟨nv, hnv⟩ : ∃ nv, (ssk ++ [(⟨pp, xsj⟩ : Sc)]).length = nv := ⟨_, rfl⟩
          rw [hnv] at hov
          subst hov
          clear hnv
          have g4 : Row w4 (w.heap.size + 1 + 1) 33 [v] := (HI2.out.t4.alloc _).grown hgrow (own_row_ne HI2.out.t4 HI2.out.gr.row (by decide))
          have g40 := g4.cell (i := 0) (v := v) (by rfl)
          have g4f := g4.frozen 0
          clear hown4 hgrow r4 r70 r71 g4
          go_wp2
          go_roundw
          case rel => exact ⟨k + 1, _, _, by go_num, by omega, Lib.hid ⟨by
            have := HE.out
            rw [HSC.out, ← HSS.out] at this
            rw [HTK.out, List.map_append]
            exact this, fun z hz => by
            rw [HTK.out, List.mem_append, List.mem_singleton] at hz
            rcases hz with hz | rfl
            · exact hP.out.2 z hz
            · exact HOKS.out⟩⟩
          case measure => simp only [intOf]; omega
    · obtain rfl : k = ps.length := by omega
      have HGR : Hid (ssk = grOf s.data.toList) := Lib.hid (by rw [← HSS.out, List.take_length, ← HPS.out]; rfl)
      have HOK : Hid (okGr s.data.toList = true) := Lib.hid (by
        unfold okGr
        rw [HPS.out]
        refine List.all_eq_true.2 fun z hz => hP.out.2 z ?_
        rw [List.take_length]
        exact hz)
      have a2 := hP.out.1.t2.cell (i := 0) (v := .slice none 0 0) (by rfl)
      have f2 := hP.out.1.t2.frozen 0
      have a4 := hP.out.1.t4.cell (i := 0) (v := v) (by rfl)
      by_cases h0 : s.size = 0
      · have hse : s.data.toList = [] := List.eq_nil_of_length_eq_zero (by have := HSL.out; omega)
        have hse2 : s.toList.isEmpty = true := by rw [ByteArray.toList_eq, hse]; rfl
        have hse3 : s.toList = [] := by rw [ByteArray.toList_eq, hse]
        have a2' := (hP.out.1.t2.set 0 (.slice none 0 0)).cell (i := 0) (v := .slice none 0 0) (by rfl)
        have HBAD : Hid (¬ ParseOk s.data.toList) := Lib.hid (fun h => h.2.1 hse)
        clear hse h0
        go_wp2
        refine bodyPost_ret (v := .tuple #[.agg #[.slice none 0 0], .bool false]) (by simp [results, Tryz.results159, go_sem, a2']) rfl (.inr ⟨HBAD.out, rfl, ?_⟩)
        exact hP.out.1.below.setCell (Nat.le_refl _) _
      · have hsne : s.data.toList ≠ [] := fun e => h0 (by rw [← HSL.out, e]; rfl)
        have hse2 : s.toList.isEmpty = false := by
          rw [ByteArray.toList_eq]
          cases e : s.data.toList with
          | nil => exact absurd e hsne
          | cons a b => rfl
        have HSNE := Lib.hid hsne
        obtain ⟨ov, cv, rfl, hold⟩ := hP.out.1.gr.holds
        have hfit := fits_grOf s.data.toList (by rw [HSL.out]; exact hs)
        rw [← HGR.out] at hfit
        have CF := Lib.hid (specFormat_any ssk hfit.1 ov cv _ hold)
        clear hsne h0 hold hfit
        go_wp2_with fail
        refine CF.out.mono ?_
        rintro e w5 ⟨T, rfl, hT1, hT2, hb5⟩
        have HO5 := Lib.hid (hP.out.1.step hb5)
        have b2 := HO5.out.t2.cell (i := 0) (v := .slice none 0 0) (by rfl)
        have g2 := HO5.out.t2.frozen 0
        have b4 := HO5.out.t4.cell (i := 0) (v := .slice ov ssk.length cv) (by rfl)
        have HT1 := Lib.hid hT1
        have HT2 := Lib.hid hT2
        clear hT1 hT2 hb5 a2 f2 a4
        by_cases hTs : T = s
        · have hq : (T.toList == s.toList) = true := by rw [hTs]; simp
          have HPO : Hid (ParseOk s.data.toList) := Lib.hid (by
            have hval : Valid ssk := by
              by_cases hv : Valid ssk
              · exact hv
              · have := HT2.out hv
                rw [hTs] at this
                exact absurd (by rw [this]) HSNE.out
            refine ⟨HOK.out, HSNE.out, HGR.out ▸ hval, ?_⟩
            rw [← HGR.out, ← HT1.out hval, hTs])
          have c2 := (HO5.out.t2.set 0 (.slice ov ssk.length cv)).cell (i := 0) (v := .slice ov ssk.length cv) (by rfl)
          clear hTs
          go_wp2
          refine bodyPost_ret (v := .tuple #[.agg #[.slice ov ssk.length cv], .bool true]) (by simp [results, Tryz.results159, go_sem, c2]) rfl (.inl ⟨HPO.out, _, hs', rfl, ?_, ?_⟩)
          · rw [← HGR.out]
            exact HO5.out.gr.other HO5.out.t2 (.inl (by decide)) (by decide) 0 _
          · exact HO5.out.below.setCell (Nat.le_refl _) _
        · have hq : (T.toList == s.toList) = false := by
            rw [beq_eq_false_iff_ne, ByteArray.toList_eq, ByteArray.toList_eq]
            intro e
            apply hTs
            apply ByteArray.ext
            exact Array.toList_inj.1 e
          have HBAD : Hid (¬ ParseOk s.data.toList) := Lib.hid (fun h => by
            apply hTs
            apply ByteArray.ext
            apply Array.toList_inj.1
            have hval : Valid ssk := HGR.out ▸ h.2.2.1
            rw [HT1.out hval, HGR.out]
            exact h.2.2.2)
          have c2 := (HO5.out.t2.set 0 (.slice none 0 0)).cell (i := 0) (v := .slice none 0 0) (by rfl)
          clear hTs
          go_wp2
          refine bodyPost_ret (v := .tuple #[.agg #[.slice none 0 0], .bool false]) (by simp [results, Tryz.results159, go_sem, c2]) rfl (.inr ⟨HBAD.out, rfl, ?_⟩)
          exact HO5.out.below.setCell (Nat.le_refl _) _
set_option maxRecDepth 100000 in
set_option maxHeartbeats 1600000 in
theorem ownGraph_any (ss : List Sc) (oa : Option Addr) (cap : Nat) (hn : ss.length ≤ 1048576) (hn2 : ∀ s ∈ ss, s.items.length < 1048576) (w : World) (hc : HoldsScopes w oa ss) :
    Calls Tryz.prog 160 #[.agg #[.slice oa ss.length cap]] w fun e w' => ∃ v hs, e = .returned (.agg #[v]) ∧ OwnGr w' w.heap.size v ss hs ∧ Below w.heap.size w w' := by
  have hb0 : Below w.heap.size w ((w.alloc (.cells #[.slice oa ss.length cap] 33)).alloc (.cells #[.slice none 0 0] 33)) := ((Below.refl _ _).alloc (Nat.le_refl _) _).alloc (by simp) _
  have R1 := Lib.hid ((Row.new w [.slice oa ss.length cap] 33).alloc (.cells #[.slice none 0 0] 33))
  have R2 : Hid (Row ((w.alloc (.cells #[.slice oa ss.length cap] 33)).alloc (.cells #[.slice none 0 0] 33)) (w.heap.size + 1) 33 [.slice none 0 0]) := Lib.hid (by
    have := Row.new (w.alloc (.cells #[.slice oa ss.length cap] 33)) [.slice none 0 0] 33
    rw [World.size_alloc] at this
    exact this)
  have C := Lib.hid (ownList_any ss oa cap hn hn2 _ (hc.below hb0 (Nat.le_refl _)))
  have HB0 := Lib.hid hb0
  have a1 := R1.out.cell (i := 0) (by rfl)
  clear hc hn hn2 hb0
  go_enter Tryz.func160, Tryz.ntmps160
  go_wp2_with fail
  refine C.out.mono ?_
  rintro e w1 ⟨v, hs, rfl, hg, hb1⟩
  obtain ⟨ov, cv, rfl, -⟩ := hg.holds
  have r1 := R1.out.below hb1 R1.out.lt
  have r2 := R2.out.below hb1 R2.out.lt
  have b1 := r1.cell (i := 0) (by rfl)
  have f1 := r1.frozen 0
  have b2 := r2.cell (i := 0) (by rfl)
  have f2 := r2.frozen 0
  have HG := Lib.hid hg
  have HB := Lib.hid (HB0.out.trans (hb1.mono HB0.out.size))
  have hz : w.heap.size + 1 < w1.heap.size := r2.lt
  have d2 := ((r2.other (a := ⟨w.heap.size, 0, none⟩) (by simp) (.slice ov ss.length cv)).set 0 (.slice ov ss.length cv)).cell (i := 0) (v := .slice ov ss.length cv) (by rfl)
  have HFIN : Hid (OwnGr ((w1.setCell ⟨w.heap.size, 0, none⟩ (.slice ov ss.length cv)).setCell ⟨w.heap.size + 1, 0, none⟩ (.slice ov ss.length cv)) w.heap.size (.slice ov ss.length cv) ss hs) := Lib.hid
    (((hg.lower HB0.out.size).other r1 (.inl (by decide)) (by decide) 0 _).other (r2.other (a := ⟨w.heap.size, 0, none⟩) (by simp) (.slice ov ss.length cv)) (.inl (by decide)) (by decide) 0 _)
  clear hg hb1 r1 r2 a1
  go_wp2
  refine bodyPost_ret (v := .agg #[.slice ov ss.length cv]) (by simp [results, Tryz.results160, go_sem, d2]) rfl ⟨_, hs, rfl, HFIN.out, ?_⟩
  exact (HB.out.setCell (Nat.le_refl _) _).setCell (by simp) _
/-- What ParseGraph answers. -/
def ParseGot (s : List UInt8) (w : World) (e : Ending) (w' : World) : Prop :=
  (ParseOk s ∧ ∃ v hs, e = .returned (.tuple #[.agg #[v], .bool true]) ∧ OwnGr w' w.heap.size v (grOf s) hs ∧ Below w.heap.size w w') ∨
  (¬ ParseOk s ∧ ∃ v hs, e = .returned (.tuple #[.agg #[v], .bool false]) ∧ OwnGr w' w.heap.size v [] hs ∧ Below w.heap.size w w')
theorem holds_nil (w : World) : HoldsScopes w none [] := .inl rfl
set_option maxRecDepth 100000 in
set_option maxHeartbeats 4000000 in
theorem specParse_any (s : ByteArray) (hs : s.size ≤ 1000000) (w : World) : Calls Tryz.prog 135 #[.string s] w (ParseGot s.data.toList w) := by
  have hsl : s.data.toList.length = s.size := by rw [Array.length_toList]; rfl
  have hfit := fits_grOf s.data.toList (by omega)
  have hb0 := (Below.refl w.heap.size w).alloc (Nat.le_refl _) (.cells #[.slice none 0 0] 33)
  have R0 := Lib.hid (Row.new w [.slice none 0 0] 33)
  have C := Lib.hid (rawParse_any s hs (w.alloc (.cells #[.slice none 0 0] 33)))
  have HB0 := Lib.hid hb0
  have HF := Lib.hid hfit
  clear hsl hfit hb0
  go_enter Tryz.func135, Tryz.ntmps135
  go_wp2_with fail
  refine C.out.mono ?_
  rintro e w1 (⟨hok, v, hs1, rfl, hg, hb1⟩ | ⟨hok, rfl, hb1⟩)
  · obtain ⟨ov, cv, rfl, hold⟩ := hg.holds
    have hbA := (Below.refl w1.heap.size w1).alloc (Nat.le_refl _) (.cells #[.slice ov (grOf s.data.toList).length cv] 33)
    have C2 := Lib.hid (ownGraph_any (grOf s.data.toList) ov cv HF.out.2.1 HF.out.2.2 _ (hold.below hbA (Nat.le_refl _)))
    have R1 := Lib.hid ((R0.out.below hb1 R0.out.lt).alloc (.cells #[.slice ov (grOf s.data.toList).length cv] 33))
    have HB1 := Lib.hid ((HB0.out.trans (hb1.mono HB0.out.size)).trans (hbA.mono (Nat.le_trans HB0.out.size hb1.size)))
    have HOK := Lib.hid hok
    clear hg hb1 hold hbA hok
    obtain ⟨gr, hgr⟩ : ∃ gr, grOf s.data.toList = gr := ⟨_, rfl⟩
    rw [hgr] at C2 R1 HB1 ⊢
    have HGRE := Lib.hid hgr
    clear hgr
    go_wp2_with fail
    refine C2.out.mono ?_
    rintro e w2 ⟨v2, hs2, rfl, hg2, hb2⟩
    obtain ⟨ov2, cv2, rfl, -⟩ := hg2.holds
    have R2 := R1.out.below hb2 R1.out.lt
    have a2 := R2.cell (i := 0) (v := .slice none 0 0) (by rfl)
    have f2 := R2.frozen 0
    have d2 := (R2.set 0 (.slice ov2 gr.length cv2)).cell (i := 0) (v := .slice ov2 gr.length cv2) (by rfl)
    have HG := Lib.hid ((hg2.lower HB1.out.size).other R2 (.inl (by decide)) (by decide) 0 (.slice ov2 gr.length cv2))
    have HB2 := Lib.hid (HB1.out.trans (hb2.mono HB1.out.size))
    clear hg2 hb2 R2
    go_wp2
    refine bodyPost_ret (v := .tuple #[.agg #[.slice ov2 gr.length cv2], .bool true]) (by simp [results, Tryz.results135, go_sem, d2]) rfl (.inl ⟨HOK.out, _, hs2, rfl, by rw [HGRE.out]; exact HG.out, ?_⟩)
    exact HB2.out.setCell (Nat.le_refl _) _
  · have hbA := (Below.refl w1.heap.size w1).alloc (Nat.le_refl _) (.cells #[.slice none 0 0] 33)
    have C2 := Lib.hid (ownGraph_any [] none 0 (by simp) (by simp) (w1.alloc (.cells #[.slice none 0 0] 33)) (holds_nil _))
    have R1 := Lib.hid ((R0.out.below hb1 R0.out.lt).alloc (.cells #[.slice none 0 0] 33))
    have HB1 := Lib.hid ((HB0.out.trans (hb1.mono HB0.out.size)).trans (hbA.mono (Nat.le_trans HB0.out.size hb1.size)))
    have HOK := Lib.hid hok
    clear hb1 hbA hok
    go_wp2_with fail
    refine C2.out.mono ?_
    rintro e w2 ⟨v2, hs2, rfl, hg2, hb2⟩
    obtain ⟨ov2, cv2, rfl, -⟩ := hg2.holds
    have R2 := R1.out.below hb2 R1.out.lt
    have a2 := R2.cell (i := 0) (v := .slice none 0 0) (by rfl)
    have f2 := R2.frozen 0
    have d2 := (R2.set 0 (.slice ov2 0 cv2)).cell (i := 0) (v := .slice ov2 0 cv2) (by rfl)
    have HG := Lib.hid ((hg2.lower HB1.out.size).other R2 (.inl (by decide)) (by decide) 0 (.slice ov2 0 cv2))
    have HB2 := Lib.hid (HB1.out.trans (hb2.mono HB1.out.size))
    clear hg2 hb2 R2
    go_wp2
    refine bodyPost_ret (v := .tuple #[.agg #[.slice ov2 0 cv2], .bool false]) (by simp [results, Tryz.results135, go_sem, d2]) rfl (.inr ⟨HOK.out, _, hs2, rfl, HG.out, ?_⟩)
    exact HB2.out.setCell (Nat.le_refl _) _
theorem ownsRow_set {w : World} {B n size g cap : Nat} {e : TypeId} {xs : List Value} (h : w.ownsRow B e size (.slice (some ⟨g, 0, none⟩) n cap) n xs) {i : Nat} (_hi : i < xs.length) (z : Value) : (w.setCell ⟨g, i, none⟩ z).ownsRow B e size (.slice (some ⟨g, 0, none⟩) n cap) n (xs.set i z) := by
  obtain ⟨hl, h2 | ⟨g', cap', cur, hv, hB, hh, h3, h4, h5, h6⟩⟩ := h
  · exact absurd h2.1 (by simp)
  · simp only [Value.slice.injEq, Option.some.injEq, Addr.mk.injEq, true_and, and_true] at hv
    obtain ⟨rfl, rfl⟩ := hv
    refine ⟨by rw [List.length_set]; exact hl, .inr ⟨g, cap, cur.setIfInBounds i z, rfl, hB, ?_, h3, h4, by simpa using h5, ?_⟩⟩
    · simp [World.setCell, Array.getElem?_modify, hh]
    · rw [Array.toList_setIfInBounds, List.take_set, h6]
end Go.Proofs.YtjogfagjcpcihaaGreatDoor
