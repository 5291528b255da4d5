/-
  The text of a list of places, and how a loop comes to it. Plain facts. Plain facts about decimal numbers in texts: which byte lists are canonical numbers of at most 17 digits, their values, and that Atoi and Itoa (as the library's functions on bytes) agree with that. No condition; nothing of the program. Plain facts about a text cut at a byte: 'parts c l' are the pieces of l between the bytes c, at least one; how a loop that cuts comes to them; and when there are just two. No condition; nothing of the program.
-/
import Derived.Test.YtadpgoiiopfnnaaDoorBase
import Derived.Lib.ItoaLen
import Derived.Lib.Join
import Derived.Lib.Atoi
import Derived.Lib.ItoaNum
import Derived.Lib.IndexMore
import Derived.Lib.IndexLaws
namespace Go.Proofs.YtadpgoiiopfnnaaDoor.Sg
open Go Go.Lib
def pText (p : Int × Int) : List UInt8 := itoa p.1 ++ 46 :: itoa p.2
/-- The texts of the first k places, with blanks between them. -/
def outTo (ps : List (Int × Int)) (k : Nat) : List UInt8 := join ((ps.take k).map pText) [32]
def placesText (ps : List (Int × Int)) : List UInt8 := if ps = [] then [45] else join (ps.map pText) [32]
theorem pText_len {p : Int × Int} (h1 : I64 p.1) (h2 : I64 p.2) : (pText p).length ≤ 43 := by
  have a := itoa_length_le p.1 h1.1 h1.2
  have b := itoa_length_le p.2 h2.1 h2.2
  unfold pText; simp; omega
theorem pText_ne (p : Int × Int) : pText p ≠ [] := by unfold pText; simp
theorem join_snoc (xs : List (List UInt8)) (x : List UInt8) (h : xs ≠ []) : join (xs ++ [x]) [32] = join xs [32] ++ 32 :: x := by
  induction xs with
  | nil => exact absurd rfl h
  | cons y r ih =>
    cases r with
    | nil => simp [join, List.intercalate]
    | cons z t =>
      have := ih (by simp)
      simp only [join, List.intercalate, List.cons_append] at this ⊢
      simp only [List.intersperse_cons_cons, List.flatten_cons, List.append_assoc] at this ⊢
      rw [this]
theorem outTo_zero (ps : List (Int × Int)) : outTo ps 0 = [] := by simp [outTo, join_nil]
theorem outTo_one {ps : List (Int × Int)} {p : Int × Int} (h : ps[0]? = some p) : outTo ps 1 = pText p := by
  cases ps with
  | nil => simp at h
  | cons q r => simp at h; subst h; simp [outTo, join_one]
theorem outTo_succ {ps : List (Int × Int)} {k : Nat} {p : Int × Int} (hk : 0 < k) (h : ps[k]? = some p) : outTo ps (k + 1) = outTo ps k ++ 32 :: pText p := by
  have hl := (List.getElem?_eq_some_iff.1 h).1
  unfold outTo
  rw [List.take_add_one, h, List.map_append]
  exact join_snoc _ _ (by intro e; have := congrArg List.length e; rw [List.length_map, List.length_take, List.length_nil] at this; omega)
theorem outTo_len {ps : List (Int × Int)} (hp : ∀ p ∈ ps, I64 p.1 ∧ I64 p.2) : ∀ k, k ≤ ps.length → (outTo ps k).length ≤ 44 * k
  | 0, _ => by rw [outTo_zero]; simp
  | k + 1, h => by
    have hk : k < ps.length := by omega
    have hg : ps[k]? = some ps[k] := List.getElem?_eq_getElem hk
    obtain ⟨a, b⟩ := hp ps[k] (List.getElem_mem hk)
    have hl := pText_len a b
    have ih := outTo_len hp k (by omega)
    rcases Nat.eq_zero_or_pos k with h0 | h0
    · subst h0; rw [outTo_one hg]; omega
    · rw [outTo_succ h0 hg]; simp; omega
theorem outTo_all (ps : List (Int × Int)) : outTo ps ps.length = join (ps.map pText) [32] := by unfold outTo; rw [List.take_length]
theorem outTo_ne {ps : List (Int × Int)} {k : Nat} (h0 : 0 < k) (hk : k ≤ ps.length) : outTo ps k ≠ [] := by
  obtain ⟨j, rfl⟩ : ∃ j, k = j + 1 := ⟨k - 1, by omega⟩
  have hg : ps[j]? = some ps[j] := List.getElem?_eq_getElem (by omega)
  rcases Nat.eq_zero_or_pos j with h | h
  · subst h; rw [outTo_one hg]; exact pText_ne _
  · rw [outTo_succ h hg]; simp
end Go.Proofs.YtadpgoiiopfnnaaDoor.Sg
namespace Go.Proofs.YtadpgoiiopfnnaaDoor.Sg
open Go Go.Lib

def isDig (b : UInt8) : Bool := decide (48 ≤ b.toNat) && decide (b.toNat ≤ 57)
def valF (acc : Nat) (l : List UInt8) : Nat := l.foldl (fun n b => n * 10 + (b.toNat - 48)) acc
/-- A canonical decimal number of at most 17 digits. -/
def canonB (l : List UInt8) : Bool := !l.isEmpty && decide (l.length ≤ 17) && (decide (l.head? ≠ some 48) || decide (l.length = 1)) && l.all isDig
def negB (l : List UInt8) : Bool := decide (l.head? = some 45)
def numB (l : List UInt8) : Bool := if negB l then canonB l.tail && decide (l.tail.head? ≠ some 48) else canonB l
def numI (l : List UInt8) : Int := if numB l then (if negB l then -(valF 0 l.tail : Int) else valF 0 l) else 0

theorem valF_cons (acc : Nat) (b : UInt8) (l : List UInt8) : valF acc (b :: l) = valF (acc * 10 + (b.toNat - 48)) l := by unfold valF; rw [List.foldl_cons]
theorem valF_snoc (acc : Nat) (b : UInt8) (l : List UInt8) : valF acc (l ++ [b]) = valF acc l * 10 + (b.toNat - 48) := by
  simp [valF]
theorem digitVal_dig (b : UInt8) : digitVal b = if isDig b then some (b.toNat - 48) else none := by
  unfold digitVal isDig
  by_cases h1 : 48 ≤ b.toNat <;> by_cases h2 : b.toNat ≤ 57 <;> simp [h1, h2]
theorem decFrom_cons (acc : Nat) (b : UInt8) (r : List UInt8) : decFrom acc (b :: r) = match digitVal b with
    | some d => decFrom (acc * 10 + d) r
    | none => none := rfl
theorem decFrom_val : ∀ (l : List UInt8) (acc : Nat), decFrom acc l = if l.all isDig then some (valF acc l) else none
  | [], acc => rfl
  | b :: r, acc => by
    rw [decFrom_cons, digitVal_dig, List.all_cons, valF_cons]
    cases hd : isDig b with
    | true => simpa using decFrom_val r _
    | false => simp
theorem valF_ge : ∀ (l : List UInt8) (acc : Nat), acc ≤ valF acc l := by
  intro l
  induction l with
  | nil => intro acc; exact Nat.le_refl _
  | cons b r ih => intro acc; rw [valF_cons]; exact Nat.le_trans (by omega) (ih _)
theorem valF_lt : ∀ (l : List UInt8) (acc : Nat), l.all isDig = true → valF acc l < (acc + 1) * 10 ^ l.length := by
  intro l
  induction l with
  | nil => intro acc _; simp [valF]
  | cons b r ih =>
    intro acc h
    simp only [List.all_cons, Bool.and_eq_true] at h
    have hb : b.toNat ≤ 57 := by have := h.1; simp [isDig] at this; exact this.2
    have h1 := ih (acc * 10 + (b.toNat - 48)) h.2
    rw [valF_cons, List.length_cons, Nat.pow_succ]
    have : (acc * 10 + (b.toNat - 48) + 1) * 10 ^ r.length ≤ (acc + 1) * 10 * 10 ^ r.length := Nat.mul_le_mul_right _ (by omega)
    have e : (acc + 1) * 10 * 10 ^ r.length = (acc + 1) * (10 ^ r.length * 10) := by rw [Nat.mul_assoc, Nat.mul_comm 10]
    omega
theorem valF_pos {l : List UInt8} (ha : l.all isDig = true) (hne : l ≠ []) (h0 : l.head? ≠ some 48) : 1 ≤ valF 0 l := by
  cases l with
  | nil => exact absurd rfl hne
  | cons b r =>
    simp only [List.all_cons, Bool.and_eq_true, isDig, decide_eq_true_eq] at ha
    have hb : b ≠ 48 := by simpa using h0
    have : b.toNat ≠ 48 := fun e => hb (by apply UInt8.toNat_inj.1; simpa using e)
    rw [valF_cons]
    exact Nat.le_trans (by omega) (valF_ge _ _)
theorem canonB_iff {l : List UInt8} : canonB l = true ↔ l ≠ [] ∧ l.length ≤ 17 ∧ (l.head? ≠ some 48 ∨ l.length = 1) ∧ l.all isDig = true := by
  unfold canonB
  cases l <;> simp [and_assoc]
theorem canon_not_neg {l : List UInt8} (h : canonB l = true) : negB l = false := by
  obtain ⟨h1, _, _, h4⟩ := canonB_iff.1 h
  cases l with
  | nil => exact absurd rfl h1
  | cons b r =>
    simp only [List.all_cons, Bool.and_eq_true, isDig, decide_eq_true_eq] at h4
    simp only [negB, List.head?_cons, Option.some.injEq, decide_eq_false_iff_not]
    rintro rfl
    have := h4.1.1
    simp at this
theorem canon_lt {l : List UInt8} (h : canonB l = true) : valF 0 l < 100000000000000000 := by
  obtain ⟨_, h2, _, h4⟩ := canonB_iff.1 h
  have := valF_lt l 0 h4
  have h3 : 10 ^ l.length ≤ 10 ^ 17 := Nat.pow_le_pow_right (by omega) h2
  omega
/-- What spec.ParsePlace asks of a part is that it is canonical. -/
theorem numB_canon (l : List UInt8) : (numB l && decide (0 ≤ numI l)) = canonB l := by
  by_cases hn : negB l = true
  · have hc : canonB l = false := by
      by_cases h : canonB l = true
      · rw [canon_not_neg h] at hn; cases hn
      · simpa using h
    rw [hc]
    by_cases hb : numB l = true
    · rw [hb, Bool.true_and, decide_eq_false_iff_not]
      have hb' := hb
      unfold numB at hb'
      rw [if_pos hn, Bool.and_eq_true, decide_eq_true_eq] at hb'
      obtain ⟨h1, _, _, h4⟩ := canonB_iff.1 hb'.1
      have := valF_pos h4 h1 hb'.2
      unfold numI
      rw [if_pos hb, if_pos hn]
      omega
    · simp [hb]
  · have e : numB l = canonB l := by unfold numB; rw [if_neg hn]
    rw [e]
    by_cases hc : canonB l = true
    · have : 0 ≤ numI l := by unfold numI; rw [e, if_pos hc, if_neg hn]; omega
      simp [hc, this]
    · simp [hc]
theorem numI_canon {l : List UInt8} (h : canonB l = true) : numI l = valF 0 l := by
  have hn := canon_not_neg h
  unfold numI numB
  simp [hn, h]

theorem valF_split (l : List UInt8) (b : UInt8) : valF 0 (l ++ [b]) = valF 0 l * 10 + (b.toNat - 48) := valF_snoc _ _ _
theorem dig_ofNat {b : UInt8} (h : isDig b = true) : UInt8.ofNat (48 + (b.toNat - 48)) = b := by
  simp only [isDig, Bool.and_eq_true, decide_eq_true_eq] at h
  apply UInt8.toNat_inj.1
  rw [UInt8.toNat_ofNat']
  have : b.toNat < 256 := b.toNat_lt
  omega
/-- The numeral of a canonical number's value is the number. -/
theorem decDigits_val : ∀ (n : Nat) (l : List UInt8), l.length = n → l ≠ [] → l.all isDig = true → (l.head? ≠ some 48 ∨ l.length = 1) → decDigits (valF 0 l) = l := by
  intro n
  induction n using Nat.strongRecOn with
  | ind n ih =>
    intro l hl hne ha h0
    rcases List.eq_nil_or_concat l with h | ⟨r, b, h⟩
    · exact absurd h hne
    have h : l = r ++ [b] := by simpa using h
    subst h
    simp only [List.all_append, List.all_cons, List.all_nil, Bool.and_true, Bool.and_eq_true] at ha
    obtain ⟨har, hab⟩ := ha
    have hbd := hab
    simp only [isDig, Bool.and_eq_true, decide_eq_true_eq] at hbd
    rw [valF_snoc]
    by_cases hr : r = []
    · subst hr
      have e : valF 0 [] = 0 := rfl
      rw [e, Nat.zero_mul, Nat.zero_add, decDigits, dif_pos (by omega), dig_ofNat hab]
      rfl
    · have h0' : r.head? ≠ some 48 := by
        rcases h0 with h0 | h0
        · intro hh
          apply h0
          cases r with
          | nil => exact absurd rfl hr
          | cons c t => simpa using hh
        · simp at h0; exact absurd h0 hr
      have hp := valF_pos har hr h0'
      rw [decDigits, dif_neg (by omega)]
      have e1 : (valF 0 r * 10 + (b.toNat - 48)) / 10 = valF 0 r := by omega
      have e2 : (valF 0 r * 10 + (b.toNat - 48)) % 10 = b.toNat - 48 := by omega
      rw [e1, e2, dig_ofNat hab, ih r.length (by simp at hl; omega) r rfl hr har (Or.inl h0')]
theorem decDigits_ne (u : Nat) : decDigits u ≠ [] := by
  intro h
  have := decDigits_length u
  rw [h] at this
  have h2 := nDigits_pos u
  simp at this
  omega
theorem dig_of (i : Nat) (h : i < 10) : isDig (UInt8.ofNat (48 + i)) = true := by
  simp only [isDig, UInt8.toNat_ofNat', Bool.and_eq_true, decide_eq_true_eq]
  omega
theorem decDigits_all : ∀ u : Nat, (decDigits u).all isDig = true := by
  intro u
  induction u using Nat.strongRecOn with
  | ind u ih =>
    rw [decDigits]
    by_cases h : u < 10
    · rw [dif_pos h, List.all_cons, List.all_nil, dig_of u h]; rfl
    · rw [dif_neg h, List.all_append, ih (u / 10) (by omega), List.all_cons, List.all_nil, dig_of (u % 10) (by omega)]; rfl
theorem decDigits_head : ∀ u : Nat, 1 ≤ u → (decDigits u).head? ≠ some 48 := by
  intro u
  induction u using Nat.strongRecOn with
  | ind u ih =>
    intro hu
    rw [decDigits]
    by_cases h : u < 10
    · rw [dif_pos h]
      simp only [List.head?_cons, ne_eq, Option.some.injEq]
      intro e
      have := congrArg UInt8.toNat e
      rw [UInt8.toNat_ofNat'] at this
      simp at this
      omega
    · rw [dif_neg h]
      have h1 := ih (u / 10) (by omega) (by omega)
      have h2 := decDigits_ne (u / 10)
      cases hd : decDigits (u / 10) with
      | nil => exact absurd hd h2
      | cons c t => rw [hd] at h1; simpa using h1

/-- readNumber's test, at texts of at most 17 bytes: Atoi finds a number, it isn't negative, and its numeral is the text: exactly the canonical ones. -/
theorem canon_atoi {l : List UInt8} (hl : l.length ≤ 17) : canonB l = true → atoi l = some (valF 0 l : Int) ∧ itoa (valF 0 l : Int) = l := by
  intro h
  obtain ⟨h1, _, h3, h4⟩ := canonB_iff.1 h
  constructor
  · cases l with
    | nil => exact absurd rfl h1
    | cons b r =>
      have hb := h4
      simp only [List.all_cons, Bool.and_eq_true, isDig, decide_eq_true_eq] at hb
      have n1 : (b == 45) = false := by rw [beq_eq_false_iff_ne]; rintro rfl; have := hb.1.1; simp at this
      have n2 : (b == 43) = false := by rw [beq_eq_false_iff_ne]; rintro rfl; have := hb.1.1; simp at this
      simp only [atoi, n1, n2, Bool.false_eq_true, if_false, decNat, List.isEmpty_cons]
      rw [decFrom_val, if_pos h4]
      rfl
  · unfold itoa
    rw [if_neg (by omega)]
    exact decDigits_val _ l rfl h1 h4 h3
theorem atoi_canon {l : List UInt8} {n : Int} (hl : l.length ≤ 17) (h0 : 0 ≤ n) (h2 : itoa n = l) : canonB l = true := by
  unfold itoa at h2
  rw [if_neg (by omega)] at h2
  rw [canonB_iff]
  refine ⟨by rw [← h2]; exact decDigits_ne _, hl, ?_, by rw [← h2]; exact decDigits_all _⟩
  by_cases hz : n.toNat = 0
  · right; rw [← h2, hz]; simp [decDigits]
  · left; rw [← h2]; exact decDigits_head _ (by omega)
end Go.Proofs.YtadpgoiiopfnnaaDoor.Sg
namespace Go.Proofs.YtadpgoiiopfnnaaDoor.Sg
open Go Go.Lib

/-- p ahead of the first piece. -/
def glue (p : List UInt8) : List (List UInt8) → List (List UInt8)
  | [] => [p]
  | q :: qs => (p ++ q) :: qs
/-- The pieces of a text between the bytes c. -/
def parts (c : UInt8) : List UInt8 → List (List UInt8)
  | [] => [[]]
  | b :: r => if b = c then [] :: parts c r else glue [b] (parts c r)
theorem parts_eq (c : UInt8) (r : List UInt8) : parts c (c :: r) = [] :: parts c r := by rw [parts, if_pos rfl]
theorem parts_neq {c b : UInt8} (h : b ≠ c) (r : List UInt8) : parts c (b :: r) = glue [b] (parts c r) := by rw [parts, if_neg h]
theorem parts_ne (c : UInt8) (l : List UInt8) : parts c l ≠ [] := by
  cases l with
  | nil => simp [parts]
  | cons b r =>
    unfold parts
    by_cases h : b = c
    · rw [if_pos h]; simp
    · rw [if_neg h]; cases parts c r <;> simp [glue]
theorem glue_nil {ps : List (List UInt8)} (h : ps ≠ []) : glue [] ps = ps := by
  cases ps with
  | nil => exact absurd rfl h
  | cons q qs => rfl
theorem glue_glue (p q : List UInt8) (ps : List (List UInt8)) : glue p (glue q ps) = glue (p ++ q) ps := by
  cases ps <;> simp [glue]
/-- What has been cut off and what is left, k bytes being read, f the beginning of the piece that is being read. -/
def Cutting (c : UInt8) (l : List UInt8) (done : List (List UInt8)) (f k : Nat) : Prop :=
  if k ≤ l.length then f ≤ k ∧ parts c l = done ++ glue ((l.drop f).take (k - f)) (parts c (l.drop k)) else parts c l = done
theorem Cutting.start (c : UInt8) (l : List UInt8) : Cutting c l [] 0 0 := by
  unfold Cutting
  rw [if_pos (Nat.zero_le _)]
  exact ⟨Nat.le_refl _, by simp [glue_nil (parts_ne c l)]⟩
theorem Cutting.last {c : UInt8} {l : List UInt8} {done : List (List UInt8)} {f : Nat} (h : Cutting c l done f l.length) : Cutting c l (done ++ [(l.drop f).take (l.length - f)]) (l.length + 1) (l.length + 1) := by
  unfold Cutting at h ⊢
  rw [if_pos (Nat.le_refl _)] at h
  rw [if_neg (by omega), h.2]
  simp [parts, glue]
theorem Cutting.hit {c : UInt8} {l : List UInt8} {done : List (List UInt8)} {f k : Nat} (h : Cutting c l done f k) (hk : k < l.length) (hc : l[k] = c) : Cutting c l (done ++ [(l.drop f).take (k - f)]) (k + 1) (k + 1) := by
  unfold Cutting at h ⊢
  rw [if_pos (by omega)] at h
  rw [if_pos (by omega), h.2, List.drop_eq_getElem_cons hk]
  refine ⟨Nat.le_refl _, ?_⟩
  subst hc
  rw [parts_eq, Nat.sub_self, List.take_zero, glue_nil (parts_ne _ _)]
  simp [glue]
theorem Cutting.miss {c : UInt8} {l : List UInt8} {done : List (List UInt8)} {f k : Nat} (h : Cutting c l done f k) (hk : k < l.length) (hc : l[k] ≠ c) : Cutting c l done f (k + 1) := by
  unfold Cutting at h ⊢
  rw [if_pos (by omega)] at h
  rw [if_pos (by omega), h.2, List.drop_eq_getElem_cons hk]
  refine ⟨by omega, ?_⟩
  rw [parts_neq hc, glue_glue]
  congr 2
  have hf := h.1
  rw [show k + 1 - f = (k - f) + 1 from by omega, List.take_succ_eq_append_getElem (by rw [List.length_drop]; omega), List.getElem_drop]
  simp [show f + (k - f) = k from by omega]
theorem Cutting.fin {c : UInt8} {l : List UInt8} {done : List (List UInt8)} {f k : Nat} (h : Cutting c l done f k) (hk : l.length < k) : done = parts c l := by
  unfold Cutting at h
  rw [if_neg (by omega)] at h
  exact h.symm
theorem Cutting.le {c : UInt8} {l : List UInt8} {done : List (List UInt8)} {f k : Nat} (h : Cutting c l done f k) (hk : k ≤ l.length) : f ≤ k := by
  unfold Cutting at h
  rw [if_pos hk] at h
  exact h.1

theorem parts_none {c : UInt8} : ∀ {l : List UInt8}, c ∉ l → parts c l = [l]
  | [], _ => rfl
  | b :: r, h => by
    have hb : b ≠ c := fun e => h (by simp [e])
    have hr : c ∉ r := fun e => h (by simp [e])
    rw [parts_neq hb, parts_none hr]
    rfl
theorem parts_app {c : UInt8} : ∀ {a r : List UInt8}, c ∉ a → parts c (a ++ c :: r) = a :: parts c r
  | [], r, _ => by simp [parts_eq]
  | b :: a, r, h => by
    have hb : b ≠ c := fun e => h (by simp [e])
    have ha : c ∉ a := fun e => h (by simp [e])
    rw [List.cons_append, parts_neq hb, parts_app ha]
    rfl
/-- A text has a first c, or none. -/
theorem first_c (c : UInt8) : ∀ l : List UInt8, c ∉ l ∨ ∃ a r, l = a ++ c :: r ∧ c ∉ a
  | [] => Or.inl (by simp)
  | b :: l => by
    by_cases hb : b = c
    · exact Or.inr ⟨[], l, by simp [hb], by simp⟩
    · rcases first_c c l with h | ⟨a, r, rfl, h⟩
      · left; simp [Ne.symm hb, h]
      · right; exact ⟨b :: a, r, rfl, by simp [Ne.symm hb, h]⟩
theorem index_one_none {c : UInt8} : ∀ {l : List UInt8}, c ∉ l → index l [c] = -1
  | [], _ => rfl
  | b :: r, h => by
    have hb : b ≠ c := fun e => h (by simp [e])
    have hr : c ∉ r := fun e => h (by simp [e])
    unfold index
    rw [index_one_none hr]
    simp [List.isPrefixOf, Ne.symm hb]
theorem index_one_hit {c : UInt8} : ∀ {a r : List UInt8}, c ∉ a → index (a ++ c :: r) [c] = a.length
  | [], r, _ => by simp [index, List.isPrefixOf]
  | b :: a, r, h => by
    have hb : b ≠ c := fun e => h (by simp [e])
    have ha : c ∉ a := fun e => h (by simp [e])
    rw [List.cons_append]
    unfold index
    rw [index_one_hit ha]
    simp [List.isPrefixOf, Ne.symm hb]
theorem cut_none {c : UInt8} {l : List UInt8} (h : c ∉ l) : cut l [c] = (l, [], false) := by
  unfold cut; rw [index_one_none h]; rfl
theorem cut_hit {c : UInt8} {a r : List UInt8} (h : c ∉ a) : cut (a ++ c :: r) [c] = (a, r, true) := by
  unfold cut
  rw [index_one_hit h, if_pos (by omega)]
  simp
end Go.Proofs.YtadpgoiiopfnnaaDoor.Sg
