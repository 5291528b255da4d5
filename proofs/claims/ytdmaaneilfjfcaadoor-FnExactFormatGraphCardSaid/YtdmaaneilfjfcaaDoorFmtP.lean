/-
  The text of a graph as its scopes' texts with semicolons between them. Plain facts.
-/
import Derived.Test.YtdmaaneilfjfcaaDoorJA
import Derived.Lib.Join
namespace Go.Proofs.YtdmaaneilfjfcaaDoor
open Go Go.RowKit
def nodeTx (i : Nat) (s : Sc) : List UInt8 := (if i = 0 then [45] else Lib.itoa s.parent) ++ itemsTx s.items
def nodesTx (i : Nat) : List Sc → List (List UInt8)
  | [] => []
  | s :: r => nodeTx i s :: nodesTx (i + 1) r
theorem nodesTx_length : ∀ (i : Nat) (ss : List Sc), (nodesTx i ss).length = ss.length
  | _, [] => rfl
  | i, s :: r => by simp [nodesTx, nodesTx_length (i + 1) r]
theorem nodesTx_get : ∀ (i : Nat) (ss : List Sc) (k : Nat), (nodesTx i ss)[k]? = (ss[k]?).map (nodeTx (i + k))
  | _, [], _ => by simp [nodesTx]
  | i, s :: r, 0 => by simp [nodesTx]
  | i, s :: r, k + 1 => by
    simp only [nodesTx, List.getElem?_cons_succ, nodesTx_get (i + 1) r k]
    rw [show i + 1 + k = i + (k + 1) by omega]
theorem tail_gr : ∀ (i : Nat) (ss : List Sc), 0 < i → Lib.joinTail [59] (nodesTx i ss) = grTx i ss
  | _, [], _ => rfl
  | i, s :: r, h => by
    have ih := tail_gr (i + 1) r (by omega)
    unfold Lib.joinTail at ih ⊢
    simp only [nodesTx, List.map_cons, List.flatten_cons, grTx]
    rw [ih]
    unfold nodeTx headTx
    rw [if_neg (by omega), if_neg (by omega)]
    simp
theorem join_gr {ss : List Sc} (h : ss ≠ []) : Lib.join (nodesTx 0 ss) [59] = gTx ss := by
  cases ss with
  | nil => exact absurd rfl h
  | cons s r =>
    unfold gTx
    simp only [nodesTx, grTx]
    rw [Lib.join_cons, tail_gr 1 r (by omega)]
    unfold nodeTx headTx
    simp
def nTxB (i : Nat) (s : Sc) : ByteArray := ⟨(nodeTx i s).toArray⟩
def iTxB (x : It) : ByteArray := ⟨(itemTx x).toArray⟩
end Go.Proofs.YtdmaaneilfjfcaaDoor
