/-
  An entry of a map that is there, read and stored anew by its stamp: the map's reading and storing by its key. Plain facts.
-/
import Derived.Test.YtjogfagjcpcihaaDoorJD
import Derived.WideKeyEntry
namespace Go.Proofs.YtjogfagjcpcihaaDoor
open Go Go.RowKit Go.Maps
open Go.WideElems Go.ChangeShapes Go.WideShapes Go.MapKept Go.ChangeMaps
theorem setBlock_same {w : World} {b : Nat} {o : Obj} (h : w.heap[b]? = some o) : setBlock w b o = w := by
  unfold setBlock
  have h1 := Array.getElem?_eq_some_iff.1 h
  obtain ⟨h2, h3⟩ := h1
  have h4 : w.heap.setIfInBounds b o = w.heap := by
    apply Array.ext
    · simp
    · intro i h5 h6
      rw [Array.getElem_setIfInBounds]
      split
      · rename_i hi
        subst hi
        exact h3.symm
      · rfl
  rw [h4]
theorem same_spot {l : List MapEntry} (hn : (l.map (·.key)).Nodup) {i j : Nat} {e f : MapEntry} (hi : l[i]? = some e) (hj : l[j]? = some f) (hk : e.key = f.key) : i = j := by
  obtain ⟨h1, rfl⟩ := List.getElem?_eq_some_iff.1 hi
  obtain ⟨h2, rfl⟩ := List.getElem?_eq_some_iff.1 hj
  have h3 := (List.getElem_inj (h₀ := by simpa using h1) (h₁ := by simpa using h2) hn).1 (by rw [List.getElem_map, List.getElem_map]; exact hk)
  exact h3
set_option maxHeartbeats 1000000 in
theorem entry_same {w : World} {MU n : Nat} {D : DataW Unit} (h : w.ownsMap Tryd.prog 32 sliceR MU n D) {a b : Int} (ha : (Lit.int .i64 a).wf = true) (hb : (Lit.int .i64 b).wf = true) (hh : Maps.has D (plLit a b) = true) :
    ∃ (u : Value) (st : Value), (∀ W', W'.heap[MU]? = w.heap[MU]? → (Instr.mapEntry 139 (.map (some MU)) (.agg #[.int .i64 a, .int .i64 b])).run Tryd.prog W' = .ok (.tuple #[u, st]) W' ∧
        (Instr.lookup 139 (.map (some MU)) (.agg #[.int .i64 a, .int .i64 b]) false).run Tryd.prog W' = .ok u W') ∧
      (∀ W' val W2, W'.heap[MU]? = w.heap[MU]? → (Instr.mapUpdate 139 (.map (some MU)) (.agg #[.int .i64 a, .int .i64 b]) val).run Tryd.prog W' = .ok () W2 → (Instr.entryStore 139 (.map (some MU)) st val).run Tryd.prog W' = .ok () W2) := by
  have K := placeLaw
  have ht := Tryd.underlying139
  have hkey := pl_key ha hb
  obtain ⟨es, clock, hm, F, hs, hD⟩ := id h
  obtain ⟨s1, s2, s3⟩ := F.stamped
  rcases K.find w hkey es.toList F.keys with ⟨h1, h2⟩ | ⟨j, e0, h1, h2, h3⟩
  · exfalso
    obtain ⟨v1, ps1, hrun1, hv1⟩ := h.look_ok (t := 139) (e := 46) placeLaw ht (zeroSlice _) (by rfl) hkey
    rw [hh] at hrun1
    simp [Instr.lookup, run_underlying ht, MapKept.run_getObj_map hm, K.check w _ hkey, h1, Result.andThen] at hrun1
  · have hj : es[j]? = some e0 := by simpa using h2
    have hsame : es.modify j (fun e => { e with key := .agg #[.int .i64 a, .int .i64 b] }) = es := by
      apply Array.ext'
      rw [Array.toList_modify, modify_eq_set _ _ _ _ h2]
      have : ({ e0 with key := .agg #[.int .i64 a, .int .i64 b] } : MapEntry) = e0 := by rw [← h3]
      rw [this]
      exact set_self _ _ _ h2
    refine ⟨e0.val, goInt e0.born, fun W' hW => ?_, fun W' val W2 hW hup => ?_⟩
    · have hm' : W'.heap[MU]? = some (.map es clock) := hW.trans hm
      have h1' : (Instr.findKey 32 (.agg #[.int .i64 a, .int .i64 b]) es.toList).run Tryd.prog W' = .ok (some (j, e0.val)) W' := by
        rcases K.find W' hkey es.toList F.keys with ⟨k1, k2⟩ | ⟨j', e', k1, k2, k3⟩
        · exact absurd h3 (k2 e0 (List.mem_of_getElem? h2))
        · obtain rfl := same_spot s3 h2 k2 (h3.trans k3.symm)
          rw [h2] at k2
          cases k2
          exact k1
      refine ⟨?_, ?_⟩
      · simp [Instr.mapEntry, run_underlying ht, MapKept.run_getObj_map hm', K.check W' false hkey, h1', hj, h3, K.stays W' hkey, hsame, MapKept.run_setObj_map _ hm', Result.andThen]
        exact setBlock_same hm'
      · simp [Instr.lookup, run_underlying ht, MapKept.run_getObj_map hm', K.check W' _ hkey, h1', Result.andThen]
    · have hm' : W'.heap[MU]? = some (.map es clock) := hW.trans hm
      have h1' : (Instr.findKey 32 (.agg #[.int .i64 a, .int .i64 b]) es.toList).run Tryd.prog W' = .ok (some (j, e0.val)) W' := by
        rcases K.find W' hkey es.toList F.keys with ⟨k1, k2⟩ | ⟨j', e', k1, k2, k3⟩
        · exact absurd h3 (k2 e0 (List.mem_of_getElem? h2))
        · obtain rfl := same_spot s3 h2 k2 (h3.trans k3.symm)
          rw [h2] at k2
          cases k2
          exact k1
      have hidx : es.findIdx? (fun e => ((e.born : Nat) : Int) == ((e0.born : Nat) : Int)) = some j := by
        rw [findIdx_arr]
        exact findIdx_born s2 h2
      have hmod : es.modify j (fun e => { e with val := val }) = es.modify j (fun e' => { e' with key := .agg #[.int .i64 a, .int .i64 b], val := val }) := by
        apply Array.ext'
        rw [Array.toList_modify, Array.toList_modify, modify_eq_set _ _ _ _ h2, modify_eq_set _ _ _ _ h2, ← h3]
      simp [Instr.mapUpdate, run_underlying ht, MapKept.run_getObj_map hm', K.check W' false hkey, h1', hj, h3, K.stays W' hkey, MapKept.run_setObj_map _ hm', Result.andThen] at hup
      rw [← hup]
      simp [Instr.entryStore, MapKept.run_getObj_map hm', asInt, asIntOf, goInt, hidx, hmod, MapKept.run_setObj_map _ hm', Result.andThen]
end Go.Proofs.YtjogfagjcpcihaaDoor
