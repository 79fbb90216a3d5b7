import Derived.Test.YtghdjagomdgnfaaDoorHAC
import Derived.Shelf.Abstract
namespace Go.Proofs.YtghdjagomdgnfaaDoor
open Go.ChangeShapes Go.WideShapes Go.ChangeAt Go.RowKit
set_option linter.unusedVariables false
set_option linter.unusedSimpArgs false
set_option maxRecDepth 100000
def fk (ts : List Nd) (i : Nat) : Nat := ((ts[i]?.bind (·.kids.head?)).getD 0).toNat
def opA (ts : List Nd) (i : Nat) : Int := (ts[i]?.map Nd.op).getD 0
/-- Whether what a body begins with is a SELECT. -/
def begR (ts : List Nd) : Nat → Nat → Bool
  | 0, i => opA ts i == 25
  | n + 1, i => if opA ts i == 26 then begR ts n (fk ts i) else opA ts i == 25
def begB (ts : List Nd) (q : Nat) : Bool := begR ts q (fk ts q)
theorem opA_eq {ts : List Nd} {i : Nat} (h : i < ts.length) : opA ts i = ts[i].op := by unfold opA; rw [List.getElem?_eq_getElem h]; rfl
theorem fk_eq {ts : List Nd} {i j : Nat} (h : i < ts.length) (hj : ts[i].kids.head? = some (j : Int)) : fk ts i = j := by unfold fk; rw [List.getElem?_eq_getElem h, Option.bind_some, hj]; rfl
theorem ri_head {w : World} {v : Value} {ks : List Int} {x : Int} (h : RI w v ks) (hx : ks.head? = some x) : ∃ g o cap, v = .slice (some ⟨g, o, none⟩) ks.length cap ∧ 0 < ks.length ∧ g < w.heap.size ∧ w.cell? ⟨g, o, none⟩ = some (.int .i64 x) := by
  obtain ⟨a, cap, rfl, h2⟩ := h
  cases ks with
  | nil => simp at hx
  | cons y ys =>
    simp at hx
    subst hx
    obtain ⟨g, o, rfl, hg, hc⟩ := h2 (by simp)
    exact ⟨g, o, cap, rfl, by simp, hg, hc 0 (by simp)⟩
set_option maxHeartbeats 4000000 in
theorem beg_78 (ts : List Nd) (q : Nat) (g o cap : Nat) (w : World) (hL : ts.length ≤ 6000) (hq : q < ts.length) (hg : g < w.heap.size) (hN : ∀ i (h : i < ts.length), ∃ kv, NodeAt w g (o + i * 10) ts[i] kv ∧ RI w kv ts[i].kids)
    (hF : ∀ i (h : i < ts.length), i ≤ q → (ts[i].op = 26 ∨ i = q) → ∃ j : Nat, ts[i].kids.head? = some (j : Int) ∧ j < i) :
    Calls Tryd.prog 78 #[.int .i64 q, .slice (some ⟨g, o, none⟩) ts.length cap] w fun e w' => e = .returned (.bool (begB ts q)) ∧ w' = w := by
  have hqi : (q : Int) < ts.length := by omega
  obtain ⟨j0, hj0, hjq⟩ := hF q hq (Nat.le_refl _) (.inr rfl)
  obtain ⟨kv0, hA0, hR0⟩ := hN q hq
  obtain ⟨kg, ko, kc, rfl, hk0, hkg, hkc⟩ := ri_head hR0 hj0
  have hk0i : (0 : Int) < ts[q].kids.length := by omega
  have c8 := hA0.c8
  have HB0 : Hid (begR ts q j0 = begB ts q) := (by unfold begB; rw [fk_eq hq hj0] : begR ts q j0 = begB ts q)
  clear hA0 hR0 hj0
  generalize ts[q].kids.length = kl0 at *
  go_enter Tryd.func78, Tryd.ntmps78
  go_wp2
  go_loopw [5] (fun bv wr => ∃ (b n : Nat), b ≤ n ∧ b ≤ q ∧ bv = .int .i64 b ∧ Hid (begR ts n b = begB ts q) ∧ wr = w) (fun bv _ => (intOf bv).toNat)
  case atStart => exact ⟨j0, q, by omega, by omega, rfl, HB0, rfl⟩
  case round =>
    obtain ⟨b, n, hbn, hbq, rfl, HB, hw⟩ := hrel
    subst hw
    have hbt : b < ts.length := by omega
    have hbi : (b : Int) < ts.length := by omega
    obtain ⟨kv, hA, hR⟩ := hN b hbt
    have c0 := hA.c0
    by_cases h26 : ts[b].op = 26
    · obtain ⟨j, hj, hjb⟩ := hF b hbt hbq (.inl h26)
      obtain ⟨kg2, ko2, kc2, rfl, hk2, hkg2, hkc2⟩ := ri_head hR hj
      have hk2i : (0 : Int) < ts[b].kids.length := by omega
      have c8b := hA.c8
      have HB2 : Hid (begR ts (n - 1) j = begB ts q) := (by
        rw [← HB.out]
        obtain ⟨n', rfl⟩ : ∃ n', n = n' + 1 := ⟨n - 1, by omega⟩
        conv => rhs; unfold begR
        rw [opA_eq hbt, h26, fk_eq hbt hj]
        rfl : begR ts (n - 1) j = begB ts q)
      rw [h26] at c0
      clear HB hA hR hj h26
      generalize ts[b].kids.length = kl2 at *
      go_wp2
      go_roundw
      case rel => exact ⟨j, n - 1, by omega, by omega, rfl, HB2, by first | rfl | trivial⟩
      case measure => simp [intOf]; omega
    · have HB2 : Hid (begB ts q = (ts[b].op == 25)) := (by
        rw [← HB.out]
        cases n with
        | zero => unfold begR; rw [opA_eq hbt]
        | succ n' =>
          unfold begR
          rw [opA_eq hbt, if_neg (by simpa using h26)] : begB ts q = (ts[b].op == 25))
      have h26b : (ts[b].op == 26) = false := by simpa using h26
      clear HB hA hR h26 hF hN
      generalize ts[b].op = x at *
      go_wp2
      go_ret
      exact ⟨ret_b (by rw [HB2.out]), rfl⟩
set_option maxHeartbeats 4000000 in
theorem beg_25 (ts : List Nd) (q : Nat) (g o cap : Nat) (w : World) (hL : ts.length ≤ 6000) (hq : q < ts.length) (hg : g < w.heap.size) (hN : ∀ i (h : i < ts.length), ∃ kv, NodeAt w g (o + i * 10) ts[i] kv ∧ RI w kv ts[i].kids)
    (hF : ∀ i (h : i < ts.length), i ≤ q → (ts[i].op = 26 ∨ i = q) → ∃ j : Nat, ts[i].kids.head? = some (j : Int) ∧ j < i) :
    Calls Tryd.prog 25 #[.slice (some ⟨g, o, none⟩) ts.length cap, .int .i64 q] w fun e w' => e = .returned (.bool (begB ts q)) ∧ w' = w := by
  have hqi : (q : Int) < ts.length := by omega
  obtain ⟨j0, hj0, hjq⟩ := hF q hq (Nat.le_refl _) (.inr rfl)
  obtain ⟨kv0, hA0, hR0⟩ := hN q hq
  obtain ⟨kg, ko, kc, rfl, hk0, hkg, hkc⟩ := ri_head hR0 hj0
  have hk0i : (0 : Int) < ts[q].kids.length := by omega
  have c8 := hA0.c8
  have HB0 : Hid (begR ts q j0 = begB ts q) := (by unfold begB; rw [fk_eq hq hj0] : begR ts q j0 = begB ts q)
  clear hA0 hR0 hj0
  generalize ts[q].kids.length = kl0 at *
  go_enter Tryd.func25, Tryd.ntmps25
  go_wp2
  go_loopw [5] (fun bv wr => ∃ (b n : Nat), b ≤ n ∧ b ≤ q ∧ bv = .int .i64 b ∧ Hid (begR ts n b = begB ts q) ∧ wr = w) (fun bv _ => (intOf bv).toNat)
  case atStart => exact ⟨j0, q, by omega, by omega, rfl, HB0, rfl⟩
  case round =>
    obtain ⟨b, n, hbn, hbq, rfl, HB, hw⟩ := hrel
    subst hw
    have hbt : b < ts.length := by omega
    have hbi : (b : Int) < ts.length := by omega
    obtain ⟨kv, hA, hR⟩ := hN b hbt
    have c0 := hA.c0
    by_cases h26 : ts[b].op = 26
    · obtain ⟨j, hj, hjb⟩ := hF b hbt hbq (.inl h26)
      obtain ⟨kg2, ko2, kc2, rfl, hk2, hkg2, hkc2⟩ := ri_head hR hj
      have hk2i : (0 : Int) < ts[b].kids.length := by omega
      have c8b := hA.c8
      have HB2 : Hid (begR ts (n - 1) j = begB ts q) := (by
        rw [← HB.out]
        obtain ⟨n', rfl⟩ : ∃ n', n = n' + 1 := ⟨n - 1, by omega⟩
        conv => rhs; unfold begR
        rw [opA_eq hbt, h26, fk_eq hbt hj]
        rfl : begR ts (n - 1) j = begB ts q)
      rw [h26] at c0
      clear HB hA hR hj h26
      generalize ts[b].kids.length = kl2 at *
      go_wp2
      go_roundw
      case rel => exact ⟨j, n - 1, by omega, by omega, rfl, HB2, by first | rfl | trivial⟩
      case measure => simp [intOf]; omega
    · have HB2 : Hid (begB ts q = (ts[b].op == 25)) := (by
        rw [← HB.out]
        cases n with
        | zero => unfold begR; rw [opA_eq hbt]
        | succ n' =>
          unfold begR
          rw [opA_eq hbt, if_neg (by simpa using h26)] : begB ts q = (ts[b].op == 25))
      have h26b : (ts[b].op == 26) = false := by simpa using h26
      clear HB hA hR h26 hF hN
      generalize ts[b].op = x at *
      go_wp2
      go_ret
      exact ⟨ret_b (by rw [HB2.out]), rfl⟩
end Go.Proofs.YtghdjagomdgnfaaDoor
namespace Go.Proofs.YtghdjagomdgnfaaDoor
open Go.ChangeShapes Go.WideShapes Go.ChangeAt Go.RowKit
set_option linter.unusedVariables false
set_option linter.unusedSimpArgs false
set_option maxRecDepth 100000
open Go.Shelf
/-- The kids of a node of depth d stand at d + 1. -/
def dKids (ds : List Int) (d : Int) : List Int → List Int
  | [] => ds
  | k :: ks => dKids (ds.set k.toNat (d + 1)) d ks
/-- Depths, from node n - 1 down. -/
def dRun (ts : List Nd) : Nat → List Int → List Int
  | 0, ds => ds
  | n + 1, ds => dRun ts n (dKids ds (ds.getD n 0) ((ts[n]?.map Nd.kids).getD []))
def depths (ts : List Nd) : List Int := dRun ts ts.length (List.replicate ts.length 0)
set_option maxHeartbeats 8000000 in
theorem depths_27 (ts : List Nd) (nv : Value) (w : World) (hL : ts.length ≤ 6000) (hK : ∀ i (h : i < ts.length), ts[i].kids.length ≤ 1048576 ∧ ∀ x ∈ ts[i].kids, ∃ j : Nat, x = (j : Int) ∧ j < i) (hN : RN w nv ts) :
    Calls Tryd.prog 27 #[nv] w fun e w' => ∃ v, e = .returned v ∧ RI w' v (depths ts) ∧ Below w.heap.size w w' := by
  obtain ⟨i0, hi, hz0, hz1, hz2⟩ := info_parts info3
  obtain ⟨a, cap, rfl, hcells⟩ := hN
  go_enter Tryd.func27, Tryd.ntmps27
  go_wp2_with (refine wpList_make_full _ rfl (.tmp 8) (.tmp 8) 42 rfl w.heap.size 3 i0 _ 1 Tryd.underlying42 hi hz0 hz1 .i64 .i64 ts.length ts.length ts.length rfl rfl rfl rfl (by rw [hz2]; omega) (by unfold maxLen; omega) (Nat.le_refl _) ?_; intro w1 hown hgrow)
  have HB : Hid (Below w.heap.size w w1) := (Below.refl _ _).grown hgrow (Nat.le_refl _) (fun k hk => by simp at hk)
  have hb := HB.out
  have hw1 := hb.size
  have hwr : IntKind.i64.wrap ((ts.length : Int) - 1) = (ts.length : Int) - 1 := by simp only [IntKind.wrap_i64, wrap64]; omega
  go_wp2
  go_loopw [4] (fun iv wr => ∃ (n : Nat) (ds : List Int), n ≤ ts.length ∧ iv = .int .i64 ((n : Int) - 1) ∧ ds.length = ts.length ∧ Hid (∀ x ∈ ds, 0 ≤ x ∧ x + n ≤ ts.length) ∧ Hid (dRun ts n ds = depths ts) ∧ wr.ownsRow w.heap.size 3 1 (.slice (some ⟨w.heap.size, 0, none⟩) ts.length ts.length) ts.length (ds.map (Value.int .i64)) ∧ Below w.heap.size w wr) (fun iv _ => ((intOf iv) + 1).toNat)
  case atStart =>
    refine ⟨ts.length, List.replicate ts.length 0, Nat.le_refl _, rfl, by simp, (fun x hx => by rw [List.mem_replicate] at hx; omega : ∀ x ∈ List.replicate ts.length (0 : Int), 0 ≤ x ∧ x + (ts.length : Int) ≤ ts.length), rfl, ?_, hb⟩
    have h0 : (Value.int IntKind.i64 0).cells = #[Value.int IntKind.i64 0] := rfl
    simpa [madeCells, h0, Nat.mod_one, List.map_const'] using hown
  case round =>
    obtain ⟨n, ds, hn, rfl, hdl, HX, HD, ho, hbel⟩ := hrel
    obtain ⟨w0, hw0⟩ : ∃ x, x = wr := ⟨_, rfl⟩
    subst hw0
    have hbs := hbel.size
    cases n with
    | zero =>
      have HE : Hid (ds = depths ts) := HD.out
      go_wp2
      go_ret
      refine ⟨_, rfl, ?_, hbel⟩
      rw [← HE.out]
      refine ⟨some ⟨w.heap.size, 0, none⟩, ts.length, by rw [hdl]; rfl, fun hp => ⟨w.heap.size, 0, rfl, (ho.lt _ rfl).2, fun i hi => ?_⟩⟩
      rw [Nat.zero_add]
      exact own_cell ho (by rw [List.getElem?_map, List.getElem?_eq_getElem hi]; rfl)
    | succ i =>
      rw [show ((i + 1 : Nat) : Int) - 1 = (i : Int) by omega]
      have hi1 : i < ts.length := by omega
      have hii : (i : Int) < ts.length := by omega
      have hwi : IntKind.i64.wrap ((i : Int) - 1) = (i : Int) - 1 := by simp only [IntKind.wrap_i64, wrap64]; omega
      obtain ⟨g, o, rfl, hg, hgc⟩ := hcells (by omega)
      obtain ⟨kv, hNA, hKR⟩ := hgc i hi1
      have c8 := (hbel.cell (p := ⟨g, o + i * 10 + 8, none⟩) hg).trans hNA.c8
      obtain ⟨ka, kc, rfl, hkc⟩ := hKR
      obtain ⟨hkl, hkj⟩ := hK i hi1
      obtain ⟨d, hd⟩ : ∃ d, ds[i]? = some d := ⟨_, List.getElem?_eq_getElem (by omega)⟩
      have hdb := HX.out d (List.mem_of_getElem? hd)
      have HD2 : Hid (dRun ts i (dKids ds d ts[i].kids) = depths ts) := (by
        have := HD.out
        unfold dRun at this
        rw [List.getElem?_eq_getElem hi1, Option.map_some, Option.getD_some, List.getD_eq_getElem?_getD, hd, Option.getD_some] at this
        exact this : dRun ts i (dKids ds d ts[i].kids) = depths ts)
      have HX1 := HX.out
      clear HD hgc hNA HX
      generalize ts[i].kids = ks at *
      go_wp2
      go_loopw [23] (fun mv wx => ∃ (m : Nat) (es : List Int), m ≤ ks.length ∧ mv = .int .i64 m ∧ es.length = ts.length ∧ es[i]? = some d ∧ Hid (∀ x ∈ es, 0 ≤ x ∧ x + i ≤ ts.length) ∧ Hid (dKids es d (ks.drop m) = dKids ds d ks) ∧ wx.ownsRow w.heap.size 3 1 (.slice (some ⟨w.heap.size, 0, none⟩) ts.length ts.length) ts.length (es.map (Value.int .i64)) ∧ Below w.heap.size w wx) (fun mv _ => ks.length - (intOf mv).toNat)
      case atStart => exact ⟨0, ds, Nat.zero_le _, rfl, hdl, hd, (fun x hx => by have := HX1 x hx; omega : ∀ x ∈ ds, 0 ≤ x ∧ x + (i : Int) ≤ ts.length), (by simp : dKids ds d (ks.drop 0) = dKids ds d ks), ho, hbel⟩
      case round =>
        obtain ⟨m, es, hm, rfl, hel, hed, HEX, HED, hoe, hbe⟩ := hrel
        have hbes := hbe.size
        by_cases hlt : m < ks.length
        · have hlti : (m : Int) < ks.length := by omega
          obtain ⟨kg, ko, rfl, hkg, hkcc⟩ := hkc (by omega)
          have k0 := (hbe.cell (p := ⟨kg, ko + m, none⟩) hkg).trans (hkcc m hlt)
          obtain ⟨j, hj, hji⟩ := hkj _ (List.getElem_mem hlt)
          rw [hj] at k0
          have hjt : (j : Int) < ts.length := by omega
          have e0 := own_cell hoe (j := i) (u := .int .i64 d) (by rw [List.getElem?_map, hed]; rfl)
          obtain ⟨y0, hy0⟩ : ∃ u, es[j]? = some u := ⟨_, List.getElem?_eq_getElem (by omega)⟩
          have e1 := own_cell hoe (j := j) (u := .int .i64 y0) (by rw [List.getElem?_map, hy0]; rfl)
          have f1 := hoe.frozenAt j
          have hwd : IntKind.i64.wrap (d + 1) = d + 1 := by simp only [IntKind.wrap_i64, wrap64]; omega
          have HO2 : Hid (World.ownsRow (wr.setCell ⟨w.heap.size, j, none⟩ (.int .i64 (d + 1))) w.heap.size 3 1 (.slice (some ⟨w.heap.size, 0, none⟩) ts.length ts.length) ts.length ((es.set j (d + 1)).map (Value.int .i64))) := (by
            have := (hoe.stored j (.int .i64 (d + 1))).1
            rw [List.map_set]; exact this : World.ownsRow (wr.setCell ⟨w.heap.size, j, none⟩ (.int .i64 (d + 1))) w.heap.size 3 1 (.slice (some ⟨w.heap.size, 0, none⟩) ts.length ts.length) ts.length ((es.set j (d + 1)).map (Value.int .i64)))
          have HS : Hid (dKids (es.set j (d + 1)) d (ks.drop (m + 1)) = dKids ds d ks) := (by
            have := HED.out
            rw [List.drop_eq_getElem_cons hlt, hj] at this
            exact this : dKids (es.set j (d + 1)) d (ks.drop (m + 1)) = dKids ds d ks)
          have HX2 : Hid (∀ x ∈ es.set j (d + 1), 0 ≤ x ∧ x + (i : Int) ≤ ts.length) := (fun x hx => by
            rcases List.mem_or_eq_of_mem_set hx with h | h
            · exact HEX.out x h
            · subst h; omega : ∀ x ∈ es.set j (d + 1), 0 ≤ x ∧ x + (i : Int) ≤ ts.length)
          have hei : (es.set j (d + 1))[i]? = some d := by rw [List.getElem?_set_ne (by omega)]; exact hed
          have hesl : (es.set j (d + 1)).length = ts.length := by rw [List.length_set]; exact hel
          clear hkcc HED HEX hy0 hj hed hel hdl hd
          go_wp2
          go_roundw
          case rel => exact ⟨m + 1, es.set j (d + 1), by omega, by go_num, hesl, hei, HX2, HS, HO2.out, hbe.setCell (Nat.le_refl _) _⟩
          case measure => simp [intOf]; omega
        · have hmn : m = ks.length := by omega
          subst hmn
          have hlti : ¬ (ks.length : Int) < ks.length := by omega
          have HE : Hid (dRun ts i es = depths ts) := (by
            have := HED.out
            rw [List.drop_length] at this
            rw [show es = dKids ds d ks from this]; exact HD2.out : dRun ts i es = depths ts)
          clear HED HD2 hdl hd hed
          go_wp2
          go_roundw
          case rel => exact ⟨i, es, by omega, rfl, hel, HEX, HE, hoe, hbe⟩
          case measure => simp [intOf]
end Go.Proofs.YtghdjagomdgnfaaDoor
