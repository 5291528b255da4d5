/-
  The walk of impl's (*resolution).sameTable, and what two graphs of one shape mean. Conditions: two resolutions lie in memory; the items of the one stand in the other.
-/
import Derived.Test.YtgehpaojbnpbcaaGreatDoorJEZ
import Derived.Test.YtgehpaojbnpbcaaGreatDoorJTZ
import Derived.Maps.RangeWalk
namespace Go.Proofs.YtgehpaojbnpbcaaGreatDoor
open Go Go.RowKit Go.Maps
theorem ranges_same {w w' : World} {k : TypeId} {R : Value → Option (DataW Unit × List MemPlace)} {b r n cnt : Nat} {D : DataW Unit} {left : Lit → Bool} (h : w.ranges Tryz.prog k R b r n D left cnt) (h1 : w'.heap[b]? = w.heap[b]?) (h2 : w'.heap[r]? = w.heap[r]?) : w'.ranges Tryz.prog k R b r n D left cnt := by
  unfold World.ranges at *
  rw [h1, h2]
  exact h
/-- The step of a range over what all items mean. -/
theorem wpList_next_means {ss : List Sc} {B MR r cnt : Nat} {l : List Ent} {left : Lit → Bool} {w w0 : World} {ops : Array Oper} {rest : List Oper} {o : Oper} {a : Act} {Q : Exit → Act → World → Prop} (hv : Valid ss) (hf : l.map Prod.fst = placed 0 ss) (hl : ∀ e ∈ l, w0.ownsRow B 59 2 e.2 (meanIt ss e.1).length (placeCells (meanIt ss e.1)))
    (hg : o.guard = none) (it : Operand) (hop : o.op = Op.next it false) (hit : a.eval it = .pointer (some ⟨r, 0, none⟩)) (h : w.ranges Tryz.prog 59 sliceR MR r l.length (entsD l) left cnt)
    (hDone : (∀ kl, left kl = false) → wpList Tryz.prog ops Q rest (a.put o.dst (.tuple #[.bool false])) w)
    (hMore : ∀ (i j : Nat) (x : It) (oa : Option Addr) (c : Nat) (w' : World) (cnt' : Nat), ((i, j, x), Value.slice oa (meanIt ss (i, j, x)).length c) ∈ l → w'.ranges Tryz.prog 59 sliceR MR r l.length (entsD l) (fun z => left z && !z.sameKey (plLit (i : Int) (j : Int))) cnt' → cnt' < cnt →
      w.grownBy w' (some r) → w'.heap.size = w.heap.size → (Instr.entry (.pointer (some ⟨r, 0, none⟩))).run Tryz.prog w' = .ok (.tuple #[.agg #[.int .i64 (i : Int), .int .i64 (j : Int)], .slice oa (meanIt ss (i, j, x)).length c]) w' →
      wpList Tryz.prog ops Q rest (a.put o.dst (.tuple #[.bool true, .agg #[.int .i64 (i : Int), .int .i64 (j : Int)], .slice oa (meanIt ss (i, j, x)).length c])) w') :
    wpList Tryz.prog ops Q (o :: rest) a w := by
  refine wpList_next_ranges w hg it hop 59 placeLaw sliceR (fun v : Value => v) (fun v : Value => v) (fun key kl _ => ⟨key, rfl⟩) (fun v y _ => ⟨v, rfl⟩) MR r l.length (entsD l) left cnt hit h (fun _ hz => hDone hz) ?_
  rintro x c kl ⟨y, ps⟩ w' cnt' hkey hlk hv' hat hrg hlt hgr hsz hen
  have hin : ∃ e ∈ l, entKey e = kl := Classical.byContradiction fun hno => by
    have hz : ∀ z, y = z := fun z => by
      refine (hat z).symm.trans ?_
      have h1 := putInto_other entKey entVal kl z l (.map []) (fun e he hk => hno ⟨e, he, hk⟩)
      exact h1.trans (by simp [DataW.atKey])
    have h2 := hz (.map [])
    have h3 := hz (.lit (.bool true))
    rw [h2] at h3
    cases h3
  obtain ⟨⟨⟨i, j, x0⟩, u⟩, he, hk⟩ := hin
  have hq : (i, j, x0) ∈ placed 0 ss := hf ▸ List.mem_map_of_mem (f := Prod.fst) he
  have hsm := hv.small.lt hq
  dsimp only at hsm
  have hkk := pl_key (wf_small hsm.1) (wf_small hsm.2)
  have ek : plLit (i : Int) (j : Int) = kl := hk
  rw [ek] at hkk
  have hxx := placeLaw.inj hkey hkk
  have e0 := putInto_at entKey entVal entKey_is (.map []) l (.map []) nilMap (by rw [entKeys, hf]; exact plKey_apart hv.small) _ he
  rw [hk] at e0
  have e1 : sliceD u = y := e0.symm.trans (hat _)
  have hown := hl _ he
  dsimp only at hown hxx hv'
  rw [← e1] at hv'
  have hcu := sliceR_eq (sliceR_own hown) hv'
  obtain ⟨o', c', rfl⟩ := ownsRow_slice hown
  subst hcu
  subst hxx
  subst ek
  exact hMore i j x0 o' c' w' cnt' he hrg hlt hgr hsz hen
end Go.Proofs.YtgehpaojbnpbcaaGreatDoor
