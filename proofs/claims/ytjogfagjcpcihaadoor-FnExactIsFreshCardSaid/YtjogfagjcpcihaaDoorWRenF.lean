/-
  The walks of impl's renamings: the closures of naming, replacing and then, and what a function value that renames does in every later world. No condition.
-/
import Derived.Test.YtjogfagjcpcihaaDoorJD
import Derived.Test.YtjogfagjcpcihaaDoorJE
namespace Go.Proofs.YtjogfagjcpcihaaDoor
open Go Go.RowKit
/-- A function value that renames, in every world behind w. -/
def RenOk (w : World) (u : Value) (f : NameF) : Prop := ∃ (fn : Nat) (lb : Array Value), u = .func (.func fn) #[] lb ∧ (∀ args W, (callFunc fn args).run Tryd.prog W = .ok (.enter fn args) W) ∧
  ∀ (i j : Nat) (nm : ByteArray) (W : World), i < 1000 → j < 1000 → Below w.heap.size w W → Calls Tryd.prog fn (#[.agg #[.int .i64 (i : Int), .int .i64 (j : Int)], .string nm] ++ lb) W fun e W' => e = .returned (.string (f i j nm)) ∧ Below W.heap.size W W'
theorem RenOk.below {w w' : World} {u : Value} {f : NameF} (h : RenOk w u f) (hb : Below w.heap.size w w') : RenOk w' u f := by
  obtain ⟨fn, lb, h1, h2, h3⟩ := h
  exact ⟨fn, lb, h1, h2, fun i j nm W hi hj hW => h3 i j nm W hi hj (hb.trans (hW.mono hb.size))⟩
/-- A function value that renames the items of a graph, in every world behind w. -/
def RenOn (us : List Sc) (w : World) (u : Value) (f : NameF) : Prop := ∃ (fn : Nat) (lb : Array Value), u = .func (.func fn) #[] lb ∧ (∀ args W, (callFunc fn args).run Tryd.prog W = .ok (.enter fn args) W) ∧
  ∀ (i j : Nat) (s : Sc) (x : It) (W : World), us[i]? = some s → s.items[j]? = some x → Below w.heap.size w W → Calls Tryd.prog fn (#[.agg #[.int .i64 (i : Int), .int .i64 (j : Int)], .string x.name] ++ lb) W fun e W' => e = .returned (.string (f i j x.name)) ∧ Below W.heap.size W W'
theorem RenOk.on {us : List Sc} {w : World} {u : Value} {f : NameF} (h : RenOk w u f) (hn : us.length ≤ 900) (hn2 : ∀ s ∈ us, s.items.length ≤ 900) : RenOn us w u f := by
  obtain ⟨fn, lb, h1, h2, h3⟩ := h
  refine ⟨fn, lb, h1, h2, fun i j s x W hs hx hW => h3 i j x.name W ?_ ?_ hW⟩
  · have := (List.getElem?_eq_some_iff.1 hs).1; omega
  · have := (List.getElem?_eq_some_iff.1 hx).1; have := hn2 s (List.mem_of_getElem? hs); omega
theorem RenOn.below {us : List Sc} {w w' : World} {u : Value} {f : NameF} (h : RenOn us w u f) (hb : Below w.heap.size w w') : RenOn us w' u f := by
  obtain ⟨fn, lb, h1, h2, h3⟩ := h
  exact ⟨fn, lb, h1, h2, fun i j s x W hs hx hW => h3 i j s x W hs hx (hb.trans (hW.mono hb.size))⟩
theorem RenOk.same {w : World} {u : Value} {f g : NameF} (h : RenOk w u f) (hf : f = g) : RenOk w u g := hf ▸ h
end Go.Proofs.YtjogfagjcpcihaaDoor
