/-
  The text of a graph, and how a loop comes to it. Plain facts. The walks of the given l1Text and FormatGraph: a valid graph's text; that of another one is empty. Condition: the argument's memory holds the graph.
-/
import Derived.Test.YtadpgoiiopfnnaaDoorNumText
import Derived.Test.YtadpgoiiopfnnaaDoorWSpecPls
import Derived.Test.YtadpgoiiopfnnaaDoorWSpecPlaces
import Derived.Test.YtadpgoiiopfnnaaDoorWSpecValid
import Derived.Deep.RegionHeld3
namespace Go.Proofs.YtadpgoiiopfnnaaDoor
open Go Go.RowKit Sg
def itemTx (x : It) : List UInt8 :=
  if x.kind = 2 then 63 :: x.name.data.toList else if x.kind = 3 then 33 :: x.name.data.toList else if 0 ≤ x.scope then x.name.data.toList ++ 61 :: Lib.itoa x.scope else x.name.data.toList
def itemsTx (xs : List It) : List UInt8 := xs.flatMap fun x => 44 :: itemTx x
def headTx (i : Nat) (s : Sc) : List UInt8 := if i = 0 then [45] else 59 :: Lib.itoa s.parent
def grTx (i : Nat) : List Sc → List UInt8
  | [] => []
  | s :: r => headTx i s ++ itemsTx s.items ++ grTx (i + 1) r
theorem itemsTx_snoc (xs : List It) (x : It) : itemsTx (xs ++ [x]) = itemsTx xs ++ 44 :: itemTx x := by simp [itemsTx]
theorem grTx_snoc (s : Sc) : ∀ (i : Nat) (ss : List Sc), grTx i (ss ++ [s]) = grTx i ss ++ headTx (i + ss.length) s ++ itemsTx s.items
  | i, [] => by simp [grTx]
  | i, t :: r => by
    simp only [List.cons_append, grTx, grTx_snoc s (i + 1) r, List.append_assoc, List.length_cons]
    rw [show i + 1 + r.length = i + (r.length + 1) from by omega]
theorem itemTx_len {x : It} (hn : x.name.size ≤ 1) (hs : I64 x.scope) : (itemTx x).length ≤ 23 := by
  have h1 := Lib.itoa_length_le x.scope hs.1 hs.2
  have h2 : x.name.data.toList.length ≤ 1 := by rw [Array.length_toList]; exact hn
  unfold itemTx
  split
  · simp only [List.length_cons]; omega
  · split
    · simp only [List.length_cons]; omega
    · split
      · simp only [List.length_append, List.length_cons]; omega
      · omega
theorem itemsTx_len : ∀ {xs : List It}, (∀ x ∈ xs, x.name.size ≤ 1 ∧ I64 x.scope) → (itemsTx xs).length ≤ 24 * xs.length
  | [], _ => by simp [itemsTx]
  | x :: r, h => by
    have h1 := itemsTx_len (xs := r) fun y hy => h y (List.mem_cons_of_mem _ hy)
    have h2 := itemTx_len (h x List.mem_cons_self).1 (h x List.mem_cons_self).2
    have : itemsTx (x :: r) = 44 :: itemTx x ++ itemsTx r := by simp [itemsTx]
    rw [this]
    simp only [List.length_append, List.length_cons]
    omega
theorem grTx_len : ∀ (i : Nat) {ss : List Sc}, (∀ s ∈ ss, I64 s.parent ∧ s.items.length ≤ 5 ∧ ∀ x ∈ s.items, x.name.size ≤ 1 ∧ I64 x.scope) → (grTx i ss).length ≤ 150 * ss.length
  | i, [], _ => by simp [grTx]
  | i, s :: r, h => by
    have h1 := grTx_len (i + 1) (ss := r) fun y hy => h y (List.mem_cons_of_mem _ hy)
    obtain ⟨h2, h3, h4⟩ := h s List.mem_cons_self
    have h5 := itemsTx_len h4
    have h6 := Lib.itoa_length_le s.parent h2.1 h2.2
    have h7 : (headTx i s).length ≤ 22 := by
      unfold headTx
      split
      · simp
      · simp only [List.length_cons]; omega
    simp only [grTx, List.length_append, List.length_cons]
    omega
/-- In a valid graph names are short and numbers small. -/
theorem Valid.texts {ss : List Sc} (hv : Valid ss) : ∀ s ∈ ss, I64 s.parent ∧ s.items.length ≤ 5 ∧ ∀ x ∈ s.items, x.name.size ≤ 1 ∧ I64 x.scope := by
  intro s hs
  obtain ⟨i, hi⟩ := List.mem_iff_getElem?.1 hs
  have h1 := hv.scopes i s hi
  have hil := (List.getElem?_eq_some_iff.1 hi).1
  have h6 := hv.count.2
  have hp : I64 s.parent := by
    unfold scopeB parentB at h1
    rw [Bool.and_eq_true] at h1
    have h2 := h1.2
    unfold I64
    split at h2
    · have : s.parent = -1 := by simpa using h2
      omega
    · unfold inB at h2
      simp only [Bool.and_eq_true, decide_eq_true_eq] at h2
      omega
  refine ⟨hp, hv.five s hs, fun x hx => ?_⟩
  obtain ⟨j, hj⟩ := List.mem_iff_getElem?.1 hx
  have hq : (i, j, x) ∈ placed 0 ss := mem_placed.2 ⟨s, Nat.zero_le _, by simpa using hi, hj⟩
  have hf : (i, x) ∈ flat 0 ss := by rw [← placed_flat]; exact List.mem_map.2 ⟨_, hq, rfl⟩
  obtain ⟨k1, k2⟩ := hv.items.1 _ hf
  constructor
  · unfold itemB nameB at k1
    simp only [Bool.and_eq_true] at k1
    have k3 := k1.1.1
    split at k3
    · rename_i b hb
      have : x.name.data.toList.length = 1 := by rw [hb]; rfl
      rw [Array.length_toList] at this
      exact Nat.le_of_eq this
    · cases k3
  · unfold modB at k2
    unfold I64
    simp only [Bool.or_eq_true, Bool.and_eq_true, beq_iff_eq] at k2
    rcases k2 with k2 | ⟨k2, -⟩
    · omega
    · unfold inB at k2
      simp only [Bool.and_eq_true, decide_eq_true_eq] at k2
      omega
def gTx (ss : List Sc) : List UInt8 := grTx 0 ss
theorem gTx_step {ss : List Sc} {k : Nat} {s : Sc} (hs : ss[k]? = some s) : gTx (ss.take (k + 1)) = gTx (ss.take k) ++ headTx k s ++ itemsTx s.items := by
  have hk := (List.getElem?_eq_some_iff.1 hs).1
  unfold gTx
  rw [List.take_add_one, hs]
  show grTx 0 (ss.take k ++ [s]) = _
  rw [grTx_snoc, List.length_take]
  rw [show 0 + min k ss.length = k from by omega]
end Go.Proofs.YtadpgoiiopfnnaaDoor
namespace Go.Proofs.YtadpgoiiopfnnaaDoor
open Go Go.RowKit Sg
theorem cellG {W W' : World} {p : Addr} {v : Value} (hb : Below W.heap.size W W') (h : W.cell? p = some v) : W'.cell? p = some v := (hb.cell (World.block_lt_of_cell? _ _ h)).trans h
theorem cellD {W : World} {p : Addr} {v : Value} (h : W.cell? p = some v) : W.drew.cell? p = some v := h
set_option maxRecDepth 100000 in
set_option maxHeartbeats 1600000 in
theorem l1Text_any (x : It) (hn : x.name.size ≤ 1000000) (hs : I64 x.scope) (w : World) :
    Calls Tryd.prog 181 #[.agg #[.int .i64 x.kind, .string x.name, .int .i64 x.scope]] w fun e w' => ∃ T : ByteArray, e = .returned (.string T) ∧ T.data.toList = itemTx x ∧ Below w.heap.size w w' := by
  obtain ⟨kd, nm, sc⟩ := x
  dsimp only at hn hs ⊢
  have hB0 := (Below.refl w.heap.size w).alloc (Nat.le_refl _) (.cells #[.int .i64 kd, .string nm, .int .i64 sc] 65)
  have R := Row.new w [.int .i64 kd, .string nm, .int .i64 sc] 65
  have c1 := R.cell (i := 1) (v := .string nm) (by rfl)
  have c2 := R.cell (i := 2) (v := .int .i64 sc) (by rfl)
  have HB := Lib.hid hB0
  have hts := tx_size hs
  have C := Lib.hid (fun W => dec_tx sc hs W)
  clear hs hB0 R
  by_cases h2 : kd = 2
  · have HT : Hid ((63 :: nm.data.toList) = itemTx ⟨kd, nm, sc⟩) := Lib.hid (by unfold itemTx; rw [if_pos h2])
    have q2 : (kd == 2) = true := by simpa using h2
    clear h2
    go_enter Tryd.func181, Tryd.ntmps181
    go_wp2
    go_ret
    exact ⟨_, rfl, by rw [← HT.out]; simp [ByteArray.data_append], HB.out⟩
  have q2 : (kd == 2) = false := by simpa using h2
  by_cases h3 : kd = 3
  · have HT : Hid ((33 :: nm.data.toList) = itemTx ⟨kd, nm, sc⟩) := Lib.hid (by unfold itemTx; rw [if_neg h2, if_pos h3])
    have q3 : (kd == 3) = true := by simpa using h3
    clear h3 h2
    go_enter Tryd.func181, Tryd.ntmps181
    go_wp2
    go_ret
    exact ⟨_, rfl, by rw [← HT.out]; simp [ByteArray.data_append], HB.out⟩
  have q3 : (kd == 3) = false := by simpa using h3
  by_cases h0 : 0 ≤ sc
  · have HT : Hid (nm.data.toList ++ 61 :: Lib.itoa sc = itemTx ⟨kd, nm, sc⟩) := Lib.hid (by unfold itemTx; rw [if_neg h2, if_neg h3, if_pos h0])
    clear h3 h2
    go_enter Tryd.func181, Tryd.ntmps181
    go_wp2
    have n1 : ¬ 9223372036854775807 < nm.size + 1 := by omega
    have n2 : ¬ 9223372036854775807 < nm.size + 1 + (tx sc).size := by omega
    go_region_held3 (fun w' => w'.cell? ⟨w.heap.size, 1, none⟩ = some (.string nm) ∧ w'.cell? ⟨w.heap.size, 2, none⟩ = some (.int .i64 sc))
      (first | exact ⟨c1, c2⟩ | exact ⟨cellD c1, cellD c2⟩ | exact ⟨cellG hb3 (cellD c1), cellG hb3 (cellD c2)⟩)
      (first | (go_at_call 180; refine (C.out _).mono ?_; rintro e w3 ⟨rfl, hb3⟩))
    all_goals go_wp2
    all_goals go_ret
    all_goals exact ⟨_, rfl, by rw [← HT.out]; simp [ByteArray.data_append, tx_data], (HB.out.trans (((Below.refl _ _).drew).mono HB.out.size)).trans (hb3.mono HB.out.size)⟩
  · have HT : Hid (nm.data.toList = itemTx ⟨kd, nm, sc⟩) := Lib.hid (by unfold itemTx; rw [if_neg h2, if_neg h3, if_neg h0])
    have h0' : sc < 0 := by omega
    clear h3 h2
    go_enter Tryd.func181, Tryd.ntmps181
    go_wp2
    go_ret
    exact ⟨_, rfl, HT.out, HB.out⟩
/-- What FormatGraph answers. -/
def Formatted (ss : List Sc) (w : World) (e : Ending) (w' : World) : Prop := ∃ T : ByteArray, e = .returned (.string T) ∧ (Valid ss → T.data.toList = gTx ss) ∧ (¬ Valid ss → T = ⟨#[]⟩) ∧ Below w.heap.size w w'
set_option maxRecDepth 100000 in
set_option maxHeartbeats 4000000 in
theorem specFormat_any (ss : List Sc) (hf : FitsScopes ss) (oa : Option Addr) (cap : Nat) (w : World) (hc : HoldsScopes w oa ss) :
    Calls Tryd.prog 179 #[.agg #[.slice oa ss.length cap]] w (Formatted ss w) := by
  have hb0 := (Below.refl w.heap.size w).alloc (Nat.le_refl _) (.cells #[.slice oa ss.length cap] 30)
  have C := Lib.hid (specValid_any ss oa cap _ hf (hc.below hb0 (Nat.le_refl _)))
  have R := Lib.hid (Row.new w [.slice oa ss.length cap] 30)
  have HB0 := Lib.hid hb0
  have HC := Lib.hid hc
  clear hf hc hb0
  go_enter Tryd.func179, Tryd.ntmps179
  go_wp2_with fail
  refine C.out.mono ?_
  rintro e w1 ⟨b, rfl, hv, hb⟩
  have HB := Lib.hid (HB0.out.trans (hb.mono HB0.out.size))
  have R1 := Lib.hid (R.out.below hb R.out.lt)
  have c1 := R1.out.cell (i := 0) (by rfl)
  have HV := Lib.hid hv
  clear hb hv
  cases b
  · have HN : Hid (¬ Valid ss) := Lib.hid (fun h => by have := HV.out.2 h; cases this)
    go_wp2
    go_ret
    exact ⟨_, rfl, fun h => absurd h HN.out, fun _ => rfl, HB.out⟩
  · have HH := Lib.hid (HV.out.1 rfl)
    have h6 := HH.out.count.2
    have HT := Lib.hid HH.out.texts
    have HC1 := Lib.hid (HC.out.below HB.out (Nat.le_refl _))
    go_wp2
    go_loopw [3, 14] (fun s i wr => ∃ (k : Nat) (O : ByteArray), i = .int .i64 k ∧ s = .string O ∧ k ≤ ss.length ∧ Hid (O.data.toList = gTx (ss.take k)) ∧ Below w.heap.size w wr) (fun _ i _ => ss.length - (intOf i).toNat)
    case atStart => exact ⟨0, ⟨#[]⟩, rfl, rfl, Nat.zero_le _, Lib.hid rfl, HB.out⟩
    case round =>
      obtain ⟨k, O, rfl, rfl, hk, hO, hbr⟩ := hrel
      have hOs : O.size ≤ 1000 := by
        have h1 := grTx_len 0 (ss := ss.take k) fun s hs => HT.out s (List.mem_of_mem_take hs)
        have h2 := congrArg List.length hO.out
        rw [Array.length_toList] at h2
        change O.size = _ at h2
        unfold gTx at h2
        rw [List.length_take] at h1
        omega
      by_cases hlt : k < ss.length
      · obtain ⟨s, hs⟩ : ∃ s, ss[k]? = some s := ⟨_, List.getElem?_eq_getElem hlt⟩
        obtain ⟨b1, f1, rfl, hb1, hcell⟩ := HC.out.at (by omega)
        obtain ⟨oi, ci, x0, x1, hIt⟩ := hcell k s hs
        have y0 := (hbr.cell (p := ⟨b1, _, none⟩) hb1).trans x0
        have y1 := (hbr.cell (p := ⟨b1, _, none⟩) hb1).trans x1
        obtain ⟨hsp, hs5, hsx⟩ := HT.out s (List.mem_of_getElem? hs)
        have HST := Lib.hid (gTx_step hs)
        have HSX := Lib.hid hsx
        have HIT := Lib.hid hIt
        have HBR := Lib.hid hbr
        have hts := tx_size hsp
        have C2 := Lib.hid (fun W => dec_tx s.parent hsp W)
        have hbA := (Below.refl wr.heap.size wr).alloc (Nat.le_refl _) (.cells #[.int .i64 s.parent, .slice oi s.items.length ci] 90)
        have HBA := Lib.hid (hbr.trans (hbA.mono hbr.size))
        have RS := Lib.hid (Row.new wr [.int .i64 s.parent, .slice oi s.items.length ci] 90)
        clear hs hcell x0 x1 hIt hsp hsx hbr hbA
        go_upto_if 20 with (fail)
        go_cut [3] (fun s3 wx => ∃ O1 : ByteArray, s3 = .string O1 ∧ O1.data.toList = gTx (ss.take k) ++ headTx k s ∧ O1.size ≤ 1100 ∧ Row wx wr.heap.size 90 [.int .i64 s.parent, .slice oi s.items.length ci] ∧ Below w.heap.size w wx)
        case first =>
          by_cases h0 : k = 0
          · have q0 : (((k : Nat) : Int) == 0) = true := by simp; omega
            have HE : Hid ((O ++ (⟨#[45]⟩ : ByteArray)).data.toList = gTx (ss.take k) ++ headTx k s) := Lib.hid (by
              unfold headTx
              rw [if_pos h0]
              simp [ByteArray.data_append, hO.out])
            clear h0
            go_wp2
            go_meet
            exact ⟨_, rfl, HE.out, by have s1 : (⟨#[45]⟩ : ByteArray).size = 1 := rfl; rw [ByteArray.size_append, s1]; omega, RS.out, HBA.out⟩
          · have q0 : (((k : Nat) : Int) == 0) = false := by simp; omega
            have HE : Hid ((O ++ (⟨#[59]⟩ : ByteArray) ++ tx s.parent).data.toList = gTx (ss.take k) ++ headTx k s) := Lib.hid (by
              unfold headTx
              rw [if_neg h0]
              simp [ByteArray.data_append, hO.out, tx_data])
            have r0 := RS.out.cell (i := 0) (v := .int .i64 s.parent) (by rfl)
            clear h0
            go_wp2_with fail
            refine (C2.out _).mono ?_
            rintro e w3 ⟨rfl, hb3⟩
            have HB3 := Lib.hid (HBA.out.trans (hb3.mono HBA.out.size))
            have R3 := Lib.hid (RS.out.below hb3 RS.out.lt)
            clear hb3 r0
            go_wp2
            go_meet
            exact ⟨_, rfl, HE.out, by have s1 : (⟨#[59]⟩ : ByteArray).size = 1 := rfl; rw [ByteArray.size_append, ByteArray.size_append, s1]; omega, R3.out, HB3.out⟩
        case rest =>
          obtain ⟨O1, rfl, hO1, hO1s, hrs, hbx⟩ := hcut
          have r1 := hrs.cell (i := 1) (v := .slice oi s.items.length ci) (by rfl)
          have HO1 := Lib.hid hO1
          have HBX := Lib.hid hbx
          clear hO1 hrs hbx y0 y1
          go_wp2
          clear r1
          go_loopw [3, 32] (fun s4 i4 wr4 => ∃ (j : Nat) (O4 : ByteArray), i4 = .int .i64 j ∧ s4 = .string O4 ∧ j ≤ s.items.length ∧ Hid (O4.data.toList = gTx (ss.take k) ++ headTx k s ++ itemsTx (s.items.take j)) ∧ Below w.heap.size w wr4) (fun _ i4 _ => s.items.length - (intOf i4).toNat)
          case atStart => exact ⟨0, O1, rfl, rfl, Nat.zero_le _, Lib.hid (by rw [HO1.out]; simp [itemsTx]), HBX.out⟩
          case round =>
            obtain ⟨j, O4, rfl, rfl, hj, hO4, hb4⟩ := hrel
            have hO4s : O4.size ≤ 1300 := by
              have h1 := itemsTx_len (xs := s.items.take j) fun x hx => HSX.out x (List.mem_of_mem_take hx)
              have h2 := congrArg List.length hO4.out
              rw [List.length_append, ← HO1.out, Array.length_toList, Array.length_toList] at h2
              change O4.size = O1.size + _ at h2
              rw [List.length_take] at h1
              omega
            by_cases hlt2 : j < s.items.length
            · obtain ⟨x, hx⟩ : ∃ x, s.items[j]? = some x := ⟨_, List.getElem?_eq_getElem hlt2⟩
              obtain ⟨b2, f2, rfl, hb2, hcell2⟩ := HIT.out.at (by omega)
              obtain ⟨z0, z1, z2⟩ := hcell2 j x hx
              have v0 := (hb4.cell (p := ⟨b2, _, none⟩) hb2).trans z0
              have v1 := (hb4.cell (p := ⟨b2, _, none⟩) hb2).trans z1
              have v2 := (hb4.cell (p := ⟨b2, _, none⟩) hb2).trans z2
              obtain ⟨hxn, hxs⟩ := HSX.out x (List.mem_of_getElem? hx)
              have HTK : Hid (s.items.take (j + 1) = s.items.take j ++ [x]) := Lib.hid (by rw [List.take_add_one, hx]; rfl)
              have C5 := Lib.hid (fun W => l1Text_any x (by omega) hxs W)
              have hbB := (Below.refl wr.heap.size wr).alloc (Nat.le_refl _) (.cells #[.int .i64 x.kind, .string x.name, .int .i64 x.scope] 65)
              have HBB := Lib.hid (hb4.trans (hbB.mono hb4.size))
              have hti := itemTx_len hxn hxs
              clear hx hcell2 z0 z1 z2 hb4 hbB hxs
              go_wp2_with fail
              refine (C5.out _).mono ?_
              rintro e w5 ⟨T, rfl, hT, hb5⟩
              have hTs : T.size ≤ 23 := by
                have h2 := congrArg List.length hT
                rw [Array.length_toList] at h2
                change T.size = _ at h2
                omega
              have HB5 := Lib.hid (HBB.out.trans (hb5.mono HBB.out.size))
              have HE : Hid ((O4 ++ (⟨#[44]⟩ : ByteArray) ++ T).data.toList = gTx (ss.take k) ++ headTx k s ++ itemsTx (s.items.take (j + 1))) := Lib.hid (by
                rw [HTK.out, itemsTx_snoc]
                simp [ByteArray.data_append, hO4.out, hT])
              clear hb5 hT v0 v1 v2
              go_wp2
              go_roundw
              case rel => exact ⟨j + 1, _, by go_num, rfl, by omega, HE, HB5.out⟩
              case measure => simp only [intOf]; omega
            · obtain rfl : j = s.items.length := by omega
              have HE : Hid (O4.data.toList = gTx (ss.take (k + 1))) := Lib.hid (by
                rw [HST.out]
                have := hO4.out
                rwa [List.take_length] at this)
              go_wp2
              go_roundw
              case rel => exact ⟨k + 1, O4, by go_num, rfl, by omega, HE, hb4⟩
              case measure => simp only [intOf]; omega
      · obtain rfl : k = ss.length := by omega
        have HE : Hid (O.data.toList = gTx ss) := Lib.hid (by have := hO.out; rwa [List.take_length] at this)
        go_wp2
        go_ret
        exact ⟨_, rfl, fun _ => HE.out, fun h => absurd HH.out h, hbr⟩
end Go.Proofs.YtadpgoiiopfnnaaDoor
