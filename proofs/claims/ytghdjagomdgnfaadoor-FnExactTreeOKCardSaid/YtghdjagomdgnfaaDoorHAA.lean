import Derived.Test.YtghdjagomdgnfaaDoorProg
import Derived.WalkKit
import Derived.ProofKit
import Derived.OpenShut
import Derived.WalkLawsBesides
import Derived.Deep.Light
import Derived.WalkSpells
import Derived.OwnWalk
import Derived.Deep.QuietTactic
import Derived.BigQuiet
import Derived.Deep.RegionWith
namespace Go.Proofs.YtghdjagomdgnfaaDoor
open Go.ChangeShapes Go.WideShapes Go.ChangeAt Go.RowKit
set_option linter.unusedVariables false
set_option linter.unusedSimpArgs false
set_option maxRecDepth 100000
theorem below_alloc (w : World) (o : Obj) : Below w.heap.size w (w.alloc o) := (Below.refl _ w).alloc (Nat.le_refl _) o
theorem bcell {W w1 : World} (hb : Below W.heap.size W w1) : (∀ b o, b < W.heap.size → w1.cell? ⟨b, o, none⟩ = W.cell? ⟨b, o, none⟩) ∧ (∀ b o, b < W.heap.size → w1.frozen? ⟨b, o, none⟩ = W.frozen? ⟨b, o, none⟩) :=
  ⟨fun b o h => hb.cell (p := ⟨b, o, none⟩) h, fun b o h => hb.frozen (p := ⟨b, o, none⟩) h⟩
/-- A node of a tree. -/
structure Nd where
  op : Int
  name : ByteArray
  qual : ByteArray
  n : Int
  m : Int
  vk : Int
  vn : Int
  vs : ByteArray
  kids : List Int
  pos : Int
theorem szIntS_yes (a : Option Addr) (n cap : Nat) (left : Int) (w : World) (h0 : 0 ≤ left) (hl : left ≤ 1048576) (h : (n : Int) ≤ left) :
    Calls Tryd.prog 66 #[.slice a n cap, .int .i64 left] w fun e w' => e = .returned (.int .i64 (left - n)) ∧ w' = w := by
  have hw : IntKind.i64.wrap (left - n) = left - n := by simp only [IntKind.wrap_i64, wrap64]; omega
  have hn : ¬ left - (n : Int) < 0 := by omega
  go_enter Tryd.func66, Tryd.ntmps66
  go_wp2
  all_goals first | (exfalso; go_light; omega) | skip
  go_ret
  exact ⟨rfl, rfl⟩
theorem szIntS_no (a : Option Addr) (n cap : Nat) (left : Int) (w : World) (h0 : 0 ≤ left) (hl : left ≤ 1048576) (hn : n ≤ maxLen) (h : left < (n : Int)) :
    Calls Tryd.prog 66 #[.slice a n cap, .int .i64 left] w fun e w' => e = .returned (.int .i64 (-1)) ∧ w' = w := by
  unfold maxLen at hn
  have hw : IntKind.i64.wrap (left - n) = left - n := by simp only [IntKind.wrap_i64, wrap64]; omega
  have hn : left - (n : Int) < 0 := by omega
  go_enter Tryd.func66, Tryd.ntmps66
  go_wp2
  all_goals first | (exfalso; go_light; omega) | skip
  go_ret
  exact ⟨rfl, rfl⟩
theorem szV_yes (k n left : Int) (s : ByteArray) (w : World) (h0 : 0 ≤ left) (hl : left ≤ 1048576) (h : (s.size : Int) ≤ left) :
    Calls Tryd.prog 65 #[.agg #[.int .i64 k, .int .i64 n, .string s], .int .i64 left] w fun e w' => e = .returned (.int .i64 (left - s.size)) ∧ Below w.heap.size w w' := by
  go_enter Tryd.func65, Tryd.ntmps65
  go_wp2
  go_ret
  exact ⟨rfl, below_alloc _ _⟩
theorem szV_no (k n left : Int) (s : ByteArray) (w : World) (h0 : 0 ≤ left) (hl : left ≤ 1048576) (hs : s.size ≤ maxLen) (h : left < (s.size : Int)) :
    Calls Tryd.prog 65 #[.agg #[.int .i64 k, .int .i64 n, .string s], .int .i64 left] w fun e w' => e = .returned (.int .i64 (-1)) ∧ Below w.heap.size w w' := by
  unfold maxLen at hs
  go_enter Tryd.func65, Tryd.ntmps65
  go_wp2
  go_ret
  exact ⟨rfl, below_alloc _ _⟩
/-- A node as a value: the kids' slice is kv. -/
def ndV (t : Nd) (kv : Value) : Value := .agg #[.int .i64 t.op, .string t.name, .string t.qual, .int .i64 t.n, .int .i64 t.m, .int .i64 t.vk, .int .i64 t.vn, .string t.vs, kv, .int .i64 t.pos]
/-- What a node takes of the room. -/
def ndZ (t : Nd) : Nat := t.name.size + t.qual.size + t.vs.size + t.kids.length
structure Small (t : Nd) : Prop where
  a : t.name.size ≤ maxLen
  b : t.qual.size ≤ maxLen
  c : t.vs.size ≤ maxLen
  d : t.kids.length ≤ maxLen
set_option maxHeartbeats 4000000 in
theorem szNode_yes (t : Nd) (a : Option Addr) (cap : Nat) (left : Int) (w : World) (h0 : 0 ≤ left) (hl : left ≤ 1048576) (hz : (ndZ t : Int) ≤ left) :
    Calls Tryd.prog 42 #[ndV t (.slice a t.kids.length cap), .int .i64 left] w fun e w' => e = .returned (.int .i64 (left - ndZ t)) ∧ Below w.heap.size w w' := by
  obtain ⟨op, name, qual, n, m, vk, vn, vs, kids, pos⟩ := t
  simp only [ndV, ndZ] at *
  push_cast at hz
  have HR : Hid (left - ((name.size + qual.size + vs.size + kids.length : Nat) : Int) = left - name.size - qual.size - vs.size - kids.length) := (by push_cast; omega : left - ((name.size + qual.size + vs.size + kids.length : Nat) : Int) = left - name.size - qual.size - vs.size - kids.length)
  rw [HR.out]
  have w1 : IntKind.i64.wrap (left - name.size) = left - name.size := by simp only [IntKind.wrap_i64, wrap64]; omega
  have w2 : IntKind.i64.wrap (left - name.size - qual.size) = left - name.size - qual.size := by simp only [IntKind.wrap_i64, wrap64]; omega
  have n1 : ¬ left - (name.size : Int) < 0 := by omega
  have n2 : ¬ left - (name.size : Int) - qual.size < 0 := by omega
  have n3 : ¬ left - (name.size : Int) - qual.size - vs.size < 0 := by omega
  have n4 : ¬ left - (name.size : Int) - qual.size - vs.size - kids.length < 0 := by omega
  go_enter Tryd.func42, Tryd.ntmps42
  go_wp2_with (go_at_call 65; fail)
  refine (szV_yes vk vn (left - name.size - qual.size) vs _ (by omega) (by omega) (by omega)).mono ?_
  rintro e w3 ⟨rfl, hb3⟩
  obtain ⟨hc3, hf3⟩ := bcell hb3
  have hz3 : w.heap.size < w3.heap.size := by have := hb3.size; simp at this; omega
  have bw3 : Below w.heap.size w w3 := (below_alloc w _).trans (hb3.mono (by simp))
  go_wp2_with (go_at_call 66; fail)
  refine (szIntS_yes a kids.length cap (left - name.size - qual.size - vs.size) _ (by omega) (by omega) (by omega)).mono ?_
  rintro e w4 ⟨rfl, rfl⟩
  go_wp2
  go_ret
  exact ⟨rfl, bw3⟩
set_option maxHeartbeats 8000000 in
theorem szNode_no (t : Nd) (a : Option Addr) (cap : Nat) (left : Int) (w : World) (h0 : 0 ≤ left) (hl : left ≤ 1048576) (hs : Small t) (hz : left < (ndZ t : Int)) :
    Calls Tryd.prog 42 #[ndV t (.slice a t.kids.length cap), .int .i64 left] w fun e w' => e = .returned (.int .i64 (-1)) ∧ Below w.heap.size w w' := by
  obtain ⟨op, name, qual, n, m, vk, vn, vs, kids, pos⟩ := t
  obtain ⟨s1, s2, s3, s4⟩ := hs
  simp only [ndV, ndZ] at *
  push_cast at hz
  unfold maxLen at s1 s2 s3 s4
  have w1 : IntKind.i64.wrap (left - name.size) = left - name.size := by simp only [IntKind.wrap_i64, wrap64]; omega
  by_cases n1 : left - (name.size : Int) < 0
  · go_enter Tryd.func42, Tryd.ntmps42
    go_wp2
    all_goals first | (exfalso; go_light; omega) | skip
    go_ret
    exact ⟨rfl, below_alloc w _⟩
  have w2 : IntKind.i64.wrap (left - name.size - qual.size) = left - name.size - qual.size := by simp only [IntKind.wrap_i64, wrap64]; omega
  by_cases n2 : left - (name.size : Int) - qual.size < 0
  · go_enter Tryd.func42, Tryd.ntmps42
    go_wp2
    all_goals first | (exfalso; go_light; omega) | skip
    go_ret
    exact ⟨rfl, below_alloc w _⟩
  by_cases n3 : left - (name.size : Int) - qual.size < vs.size
  · go_enter Tryd.func42, Tryd.ntmps42
    go_wp2_with (go_at_call 65; fail)
    refine (szV_no vk vn (left - name.size - qual.size) vs _ (by omega) (by omega) (by unfold maxLen; omega) (by omega)).mono ?_
    rintro e w3 ⟨rfl, hb3⟩
    have bw3 : Below w.heap.size w w3 := (below_alloc w _).trans (hb3.mono (by simp))
    go_wp2
    go_ret
    exact ⟨rfl, bw3⟩
  · have n3' : ¬ left - (name.size : Int) - qual.size - vs.size < 0 := by omega
    go_enter Tryd.func42, Tryd.ntmps42
    go_wp2_with (go_at_call 65; fail)
    refine (szV_yes vk vn (left - name.size - qual.size) vs _ (by omega) (by omega) (by omega)).mono ?_
    rintro e w3 ⟨rfl, hb3⟩
    obtain ⟨hc3, hf3⟩ := bcell hb3
    have hz3 : w.heap.size < w3.heap.size := by have := hb3.size; simp at this; omega
    have bw3 : Below w.heap.size w w3 := (below_alloc w _).trans (hb3.mono (by simp))
    go_wp2_with (go_at_call 66; fail)
    refine (szIntS_no a kids.length cap (left - name.size - qual.size - vs.size) _ (by omega) (by omega) (by unfold maxLen; omega) (by omega)).mono ?_
    rintro e w4 ⟨rfl, rfl⟩
    go_wp2
    go_ret
    exact ⟨rfl, bw3⟩
/-- Numbers that a slice leads to. -/
def RI (w : World) (v : Value) (ks : List Int) : Prop :=
  ∃ a cap, v = .slice a ks.length cap ∧ (0 < ks.length → ∃ g o, a = some ⟨g, o, none⟩ ∧ g < w.heap.size ∧ ∀ i (h : i < ks.length), w.cell? ⟨g, o + i, none⟩ = some (.int .i64 ks[i]))
theorem RI.below {w w' : World} {v : Value} {ks : List Int} (h : RI w v ks) (hb : Below w.heap.size w w') : RI w' v ks := by
  obtain ⟨a, cap, rfl, h2⟩ := h
  refine ⟨a, cap, rfl, fun hp => ?_⟩
  obtain ⟨g, o, ha, hg, hc⟩ := h2 hp
  exact ⟨g, o, ha, Nat.lt_of_lt_of_le hg hb.size, fun i hi => (hb.cell (p := ⟨g, o + i, none⟩) hg).trans (hc i hi)⟩
/-- A node in a block. -/
structure NodeAt (w : World) (g o : Nat) (t : Nd) (kv : Value) : Prop where
  c0 : w.cell? ⟨g, o, none⟩ = some (.int .i64 t.op)
  c1 : w.cell? ⟨g, o + 1, none⟩ = some (.string t.name)
  c2 : w.cell? ⟨g, o + 2, none⟩ = some (.string t.qual)
  c3 : w.cell? ⟨g, o + 3, none⟩ = some (.int .i64 t.n)
  c4 : w.cell? ⟨g, o + 4, none⟩ = some (.int .i64 t.m)
  c5 : w.cell? ⟨g, o + 5, none⟩ = some (.int .i64 t.vk)
  c6 : w.cell? ⟨g, o + 6, none⟩ = some (.int .i64 t.vn)
  c7 : w.cell? ⟨g, o + 7, none⟩ = some (.string t.vs)
  c8 : w.cell? ⟨g, o + 8, none⟩ = some kv
  c9 : w.cell? ⟨g, o + 9, none⟩ = some (.int .i64 t.pos)
theorem NodeAt.below {w w' : World} {B g o : Nat} {t : Nd} {kv : Value} (h : NodeAt w g o t kv) (hb : Below B w w') (hg : g < B) : NodeAt w' g o t kv :=
  ⟨(hb.cell (p := ⟨g, o, none⟩) hg).trans h.c0, (hb.cell (p := ⟨g, o + 1, none⟩) hg).trans h.c1, (hb.cell (p := ⟨g, o + 2, none⟩) hg).trans h.c2, (hb.cell (p := ⟨g, o + 3, none⟩) hg).trans h.c3, (hb.cell (p := ⟨g, o + 4, none⟩) hg).trans h.c4, (hb.cell (p := ⟨g, o + 5, none⟩) hg).trans h.c5, (hb.cell (p := ⟨g, o + 6, none⟩) hg).trans h.c6, (hb.cell (p := ⟨g, o + 7, none⟩) hg).trans h.c7, (hb.cell (p := ⟨g, o + 8, none⟩) hg).trans h.c8, (hb.cell (p := ⟨g, o + 9, none⟩) hg).trans h.c9⟩
/-- The nodes of a tree. -/
def RN (w : World) (v : Value) (ts : List Nd) : Prop :=
  ∃ a cap, v = .slice a ts.length cap ∧ (0 < ts.length → ∃ g o, a = some ⟨g, o, none⟩ ∧ g < w.heap.size ∧ ∀ i (h : i < ts.length), ∃ kv, NodeAt w g (o + i * 10) ts[i] kv ∧ RI w kv ts[i].kids)
theorem RN.below {w w' : World} {v : Value} {ts : List Nd} (h : RN w v ts) (hb : Below w.heap.size w w') : RN w' v ts := by
  obtain ⟨a, cap, rfl, h2⟩ := h
  refine ⟨a, cap, rfl, fun hp => ?_⟩
  obtain ⟨g, o, ha, hg, hc⟩ := h2 hp
  refine ⟨g, o, ha, Nat.lt_of_lt_of_le hg hb.size, fun i hi => ?_⟩
  obtain ⟨kv, h3, h4⟩ := hc i hi
  exact ⟨kv, h3.below hb hg, h4.below hb⟩
def Sz (ts : List Nd) (e : Ending) : Prop := e = .returned (.int .i64 (-1)) ∨ ∃ m : Nat, m ≤ 1048576 ∧ e = .returned (.int .i64 m) ∧ ts.length ≤ 1048576 ∧ ∀ t ∈ ts, ndZ t ≤ 1048576
set_option maxHeartbeats 4000000 in
theorem szNodeS_any (la : Option Addr) (lc : Nat) (us : List Nd) (w : World) (hn : us.length ≤ maxLen) (hsz : ∀ t ∈ us, Small t) (hv : RN w (.slice la us.length lc) us) :
    Calls Tryd.prog 20 #[.slice la us.length lc, .int .i64 1048576] w fun e w' => Sz us e ∧ Below w.heap.size w w' := by
  unfold maxLen at hn
  by_cases hbig : 1048576 < us.length
  · have hbi : (1048576 : Int) - us.length < 0 := by omega
    go_enter Tryd.func20, Tryd.ntmps20
    go_wp2
    all_goals first | (exfalso; go_light; omega) | skip
    go_ret
    exact ⟨.inl rfl, Below.refl _ _⟩
  · have hbi : ¬ (1048576 : Int) - us.length < 0 := by omega
    obtain ⟨a, cap, hsl, hcells⟩ := hv
    simp only [Value.slice.injEq] at hsl
    obtain ⟨rfl, _, rfl⟩ := hsl
    go_enter Tryd.func20, Tryd.ntmps20
    go_wp2
    all_goals first | (exfalso; go_light; omega) | skip
    go_loopw [1, 5] (fun r i wr => ∃ (k m : Nat), k ≤ us.length ∧ m ≤ 1048576 ∧ r = .int .i64 m ∧ i = .int .i64 k ∧ Hid (∀ t ∈ us.take k, ndZ t ≤ 1048576) ∧ Below w.heap.size w wr) (fun _ i _ => us.length - (intOf i).toNat)
    case atStart => exact ⟨0, 1048576 - us.length, Nat.zero_le _, by omega, by go_num, rfl, fun t h => by simp at h, Below.refl _ _⟩
    case round =>
      obtain ⟨k, m, hk, hm, rfl, rfl, HO, hbel⟩ := hrel
      have hbs := hbel.size
      by_cases hlt : k < us.length
      · have hlti : (k : Int) < us.length := by omega
        obtain ⟨g, o, rfl, hg, hgc⟩ := hcells (by omega)
        obtain ⟨kv, hN, hK⟩ := hgc k hlt
        obtain ⟨c0, c1, c2, c3, c4, c5, c6, c7, c8, c9⟩ := hN.below hbel hg
        obtain ⟨ka, kc, rfl, _⟩ := hK
        have hsx := hsz us[k] (List.getElem_mem hlt)
        have htk : us.take (k + 1) = us.take k ++ [us[k]] := by rw [List.take_add_one, List.getElem?_eq_getElem hlt]; rfl
        have HYES : ndZ us[k] ≤ m → Hid (∀ t ∈ us.take (k + 1), ndZ t ≤ 1048576) := fun z t ht => by
          rw [htk] at ht
          rcases List.mem_append.1 ht with h | h
          · exact HO.out t h
          · rw [List.mem_singleton] at h; rw [h]; omega
        clear hgc hN htk hcells hsz
        generalize us[k] = t at *
        by_cases hb : m < ndZ t
        · have hcn := fun w => szNode_no t ka kc m w (by omega) (by omega) hsx (by omega)
          simp only [ndV] at hcn
          clear HYES
          go_wp2_with (go_at_call 42; refine (hcn _).mono ?_; rintro e w1 ⟨rfl, hb1⟩)
          go_ret
          exact ⟨.inl rfl, hbel.trans (hb1.mono hbs)⟩
        · have hcn := fun w => szNode_yes t ka kc m w (by omega) (by omega) (by omega)
          have HY := HYES (by omega)
          obtain ⟨m', hm'⟩ : ∃ m' : Nat, (m : Int) - ndZ t = m' := ⟨m - ndZ t, by omega⟩
          rw [hm'] at hcn
          simp only [ndV] at hcn
          have hm1 : m' ≤ 1048576 := by omega
          have hm0 : ¬ (m' : Int) < 0 := by omega
          clear HYES hm' hb
          go_wp2_with (go_at_call 42; refine (hcn _).mono ?_; rintro e w1 ⟨rfl, hb1⟩)
          go_roundw
          case rel => exact ⟨k + 1, m', by omega, hm1, rfl, by go_num, HY, hbel.trans (hb1.mono hbs)⟩
          case measure => simp [intOf]; omega
      · have hkn : k = us.length := by omega
        subst hkn
        rw [List.take_length] at HO
        have hlti : ¬ (us.length : Int) < us.length := by omega
        have HS : Hid (Sz us (.returned (.int .i64 m))) := .inr ⟨m, hm, rfl, by omega, HO.out⟩
        clear HO
        go_wp2
        go_ret
        exact ⟨HS.out, hbel⟩
theorem szTree_any (la : Option Addr) (lc : Nat) (us : List Nd) (w : World) (hn : us.length ≤ maxLen) (hsz : ∀ t ∈ us, Small t) (hv : RN w (.slice la us.length lc) us) :
    Calls Tryd.prog 10 #[.agg #[.slice la us.length lc], .int .i64 1048576] w fun e w' => Sz us e ∧ Below w.heap.size w w' := by
  go_enter Tryd.func10, Tryd.ntmps10
  go_wp2_with (go_at_call 20; fail)
  refine (szNodeS_any la lc us _ hn hsz (hv.below (below_alloc _ _))).mono ?_
  rintro e w1 ⟨hS, hb1⟩
  have bw1 : Below w.heap.size w w1 := (below_alloc w _).trans (hb1.mono (by simp))
  rcases hS with rfl | ⟨m, hm, rfl, h1, h2⟩
  · go_wp2
    go_ret
    exact ⟨.inl rfl, bw1⟩
  · have hm0 : ¬ (m : Int) < 0 := by omega
    go_wp2
    go_ret
    exact ⟨.inr ⟨m, hm, rfl, h1, h2⟩, bw1⟩
end Go.Proofs.YtghdjagomdgnfaaDoor
namespace Go.Proofs.YtghdjagomdgnfaaDoor
open Go.ChangeShapes Go.WideShapes Go.ChangeAt Go.RowKit
set_option linter.unusedVariables false
set_option linter.unusedSimpArgs false
set_option maxRecDepth 100000
theorem below_drewNt (w : World) : ∀ n, Below w.heap.size w (w.drewN n)
  | 0 => Below.refl _ _
  | n + 1 => (below_drewNt w n).drew
theorem undrew {W w' : World} (hb : Below W.drew.heap.size W.drew w') : Below W.heap.size W w' := (Below.refl W.heap.size W).drew.trans hb
theorem info3 : (Tryd.prog.info? 3).map (fun i => (i.zero, i.size, i.bytes)) = some (some (.int .i64 0), 1, 8) := by kernel_rfl
/-- A row of whole numbers that is filled up to k. -/
def FillI (ks : List Int) (k : Nat) (xs : List Value) : Prop := xs.length = ks.length ∧ ∀ i (h : i < ks.length), i < k → xs[i]? = some (.int .i64 ks[i])
theorem FillI.step {ks : List Int} {k : Nat} {xs : List Value} (h : FillI ks k xs) (hk : k < ks.length) : FillI ks (k + 1) (xs.set k (.int .i64 ks[k])) := by
  obtain ⟨h1, h2⟩ := h
  refine ⟨by simpa using h1, fun i hi hik => ?_⟩
  by_cases e : i = k
  · subst e
    simp only [List.getElem?_set]
    simp
    omega
  · have a := h2 i hi (by omega)
    simp only [List.getElem?_set]
    rw [if_neg (by omega)]; exact a
theorem own_cell {w : World} {b e s g n c : Nat} {xs : List Value} {u : Value} {j : Nat} (h : w.ownsRow b e s (.slice (some ⟨g, 0, none⟩) n c) n xs) (hj : xs[j]? = some u) : w.cell? ⟨g, j, none⟩ = some u := by
  have := h.cells rfl j u hj
  by_cases hz : j = 0
  · subst hz; simpa [Addr.add] using this
  · simpa [Addr.add, hz] using this
set_option maxHeartbeats 1600000 in
theorem toIntS_any (la : Option Addr) (lc : Nat) (ks : List Int) (w : World) (hn : ks.length ≤ 1048576) (hv : RI w (.slice la ks.length lc) ks) :
    Calls Tryd.prog 69 #[.slice la ks.length lc] w fun e w' => e = .returned (.slice (some ⟨w.heap.size, 0, none⟩) ks.length ks.length) ∧ RI w' (.slice (some ⟨w.heap.size, 0, none⟩) ks.length ks.length) ks ∧ Below w.heap.size w w' := by
  obtain ⟨i0, hi, hz0, hz1, hz2⟩ := info_parts info3
  obtain ⟨a, cap, hsl, hcells⟩ := hv
  simp only [Value.slice.injEq] at hsl
  obtain ⟨rfl, _, rfl⟩ := hsl
  go_enter Tryd.func69, Tryd.ntmps69
  go_wp2_with (refine wpList_make_full _ rfl (.tmp 6) (.tmp 6) 42 rfl w.heap.size 3 i0 _ 1 Tryd.underlying42 hi hz0 hz1 .i64 .i64 ks.length ks.length ks.length rfl rfl rfl rfl (by rw [hz2]; omega) (by unfold maxLen; omega) (Nat.le_refl _) ?_; intro w1 hown hgrow)
  have HB : Hid (Below w.heap.size w w1) := (Below.refl _ _).grown hgrow (Nat.le_refl _) (fun k hk => by simp at hk)
  have hb := HB.out
  have hw1 := hb.size
  go_loopw [4] (fun i wr => ∃ (k : Nat) (xs : List Value), k ≤ ks.length ∧ i = .int .i64 k ∧ Hid (FillI ks k xs) ∧ wr.ownsRow w.heap.size 3 1 (.slice (some ⟨w.heap.size, 0, none⟩) ks.length ks.length) ks.length xs ∧ Below w.heap.size w wr) (fun i _ => ks.length - (intOf i).toNat)
  case atStart => exact ⟨0, _, Nat.zero_le _, rfl, ⟨by simp [size_madeCells], fun i _ h => absurd h (Nat.not_lt_zero _)⟩, hown, hb⟩
  case round =>
    obtain ⟨k, xs, hk, rfl, HF, ho, hbel⟩ := hrel
    have hbs := hbel.size
    by_cases hlt : k < ks.length
    · have hlti : (k : Int) < ks.length := by omega
      obtain ⟨g, o, rfl, hg, hgc⟩ := hcells (by omega)
      have c0 := (hbel.cell (p := ⟨g, o + k, none⟩) hg).trans (hgc k hlt)
      have HS : Hid (FillI ks (k + 1) _) := HF.out.step hlt
      clear hgc
      generalize ks[k] = t at c0 HS
      have hxl := HF.out.1
      obtain ⟨y0, hy0⟩ : ∃ u, xs[k]? = some u := ⟨_, List.getElem?_eq_getElem (by omega)⟩
      have e0 := own_cell ho hy0
      have f0 := ho.frozenAt k
      have HO2 : Hid (World.ownsRow (wr.setCell ⟨w.heap.size, k, none⟩ (.int .i64 t)) w.heap.size 3 1 (.slice (some ⟨w.heap.size, 0, none⟩) ks.length ks.length) ks.length _) := (ho.stored k (.int .i64 t)).1
      clear hcells HF hxl hy0
      go_wp2
      go_roundw
      case rel => exact ⟨k + 1, _, by omega, by go_num, HS, HO2.out, hbel.setCell (Nat.le_refl _) _⟩
      case measure => simp [intOf]; omega
    · have hkn : k = ks.length := by omega
      subst hkn
      have hlti : ¬ (ks.length : Int) < ks.length := by omega
      go_wp2
      go_ret
      refine ⟨rfl, ?_, hbel⟩
      refine ⟨_, _, rfl, fun hp => ⟨w.heap.size, 0, rfl, (ho.lt _ rfl).2, fun i hi => ?_⟩⟩
      rw [Nat.zero_add]
      exact own_cell ho (HF.out.2 i hi hi)
set_option maxHeartbeats 1600000 in
theorem eqIntS_same (v u : Value) (ks : List Int) (w : World) (hn : ks.length ≤ 1048576) (hv : RI w v ks) (hu : RI w u ks) :
    Calls Tryd.prog 80 #[v, u] w fun e w' => e = .returned (.bool true) ∧ Below w.heap.size w w' := by
  obtain ⟨a, ca, rfl, hva⟩ := hv
  obtain ⟨b, cb, rfl, hub⟩ := hu
  go_enter Tryd.func80, Tryd.ntmps80
  go_wp2
  go_loopw [5] (fun i wr => ∃ k : Nat, k ≤ ks.length ∧ i = .int .i64 k ∧ Below w.heap.size w wr) (fun i _ => ks.length - (intOf i).toNat)
  case atStart => exact ⟨0, Nat.zero_le _, rfl, Below.refl _ _⟩
  case round =>
    obtain ⟨k, hk, rfl, hbel⟩ := hrel
    have hbs := hbel.size
    by_cases hlt : k < ks.length
    · have hlti : (k : Int) < ks.length := by omega
      obtain ⟨g, o, rfl, hg, hgc⟩ := hva (by omega)
      obtain ⟨g2, o2, rfl, hg2, hgc2⟩ := hub (by omega)
      have c0 := (hbel.cell (p := ⟨g, o + k, none⟩) hg).trans (hgc k hlt)
      have d0 := (hbel.cell (p := ⟨g2, o2 + k, none⟩) hg2).trans (hgc2 k hlt)
      clear hgc hgc2 hva hub
      generalize ks[k] = t at c0 d0
      go_wp2
      go_quiet (fail)
      go_wp2
      go_roundw
      case rel => exact ⟨k + 1, by omega, by go_num, hbel.trans ((below_drewNt _ _).mono hbs)⟩
      case measure => simp [intOf]; omega
    · go_wp2
      go_ret
      exact ⟨rfl, hbel⟩
theorem toV_any (k n : Int) (s : ByteArray) (w : World) :
    Calls Tryd.prog 68 #[.agg #[.int .i64 k, .int .i64 n, .string s]] w fun e w' => e = .returned (.agg #[.int .i64 k, .int .i64 n, .string s]) ∧ Below w.heap.size w w' := by
  go_enter Tryd.func68, Tryd.ntmps68
  go_wp2
  refine bodyPost_ret (v := .agg #[.int .i64 k, .int .i64 n, .string s]) (by simp [results, Tryd.results68, go_sem]) rfl ⟨rfl, ?_⟩
  go_light
  repeat (first | exact Below.refl _ _ | refine Below.setCell ?_ (by simp) _ | refine Below.alloc ?_ (by simp; try omega) _)
theorem eqV_same (k n : Int) (s : ByteArray) (w : World) : Calls Tryd.prog 79 #[.agg #[.int .i64 k, .int .i64 n, .string s], .agg #[.int .i64 k, .int .i64 n, .string s]] w fun e w' => e = .returned (.bool true) ∧ Below w.heap.size w w' := by
  go_enter Tryd.func79, Tryd.ntmps79
  go_wp2
  go_ret
  exact ⟨rfl, (below_alloc w _).alloc (by simp) _⟩
/-- Numbers in a block from B on. -/
def RIB (B : Nat) (w : World) (v : Value) (ks : List Int) : Prop :=
  ∃ a cap, v = .slice a ks.length cap ∧ (0 < ks.length → ∃ g o, a = some ⟨g, o, none⟩ ∧ B ≤ g ∧ g < w.heap.size ∧ ∀ i (h : i < ks.length), w.cell? ⟨g, o + i, none⟩ = some (.int .i64 ks[i]))
theorem RIB.ri {B : Nat} {w : World} {v : Value} {ks : List Int} (h : RIB B w v ks) : RI w v ks := by
  obtain ⟨a, cap, rfl, h2⟩ := h
  exact ⟨a, cap, rfl, fun hp => let ⟨g, o, ha, _, hg, hc⟩ := h2 hp; ⟨g, o, ha, hg, hc⟩⟩
theorem RIB.mono {B C : Nat} {w : World} {v : Value} {ks : List Int} (h : RIB B w v ks) (hc : C ≤ B) : RIB C w v ks := by
  obtain ⟨a, cap, rfl, h2⟩ := h
  exact ⟨a, cap, rfl, fun hp => let ⟨g, o, ha, hb, hg, hc'⟩ := h2 hp; ⟨g, o, ha, Nat.le_trans hc hb, hg, hc'⟩⟩
theorem RIB.below {B : Nat} {w w' : World} {v : Value} {ks : List Int} (h : RIB B w v ks) (hb : Below w.heap.size w w') : RIB B w' v ks := by
  obtain ⟨a, cap, rfl, h2⟩ := h
  refine ⟨a, cap, rfl, fun hp => ?_⟩
  obtain ⟨g, o, ha, hB, hg, hc⟩ := h2 hp
  exact ⟨g, o, ha, hB, Nat.lt_of_lt_of_le hg hb.size, fun i hi => (hb.cell (p := ⟨g, o + i, none⟩) hg).trans (hc i hi)⟩
theorem RIB.set {B c j : Nat} {w : World} {v u : Value} {ks : List Int} (h : RIB B w v ks) (hc : c < B) : RIB B (w.setCell ⟨c, j, none⟩ u) v ks := by
  obtain ⟨a, cap, rfl, h2⟩ := h
  refine ⟨a, cap, rfl, fun hp => ?_⟩
  obtain ⟨g, o, ha, hB, hg, hc'⟩ := h2 hp
  refine ⟨g, o, ha, hB, by simpa using hg, fun i hi => ?_⟩
  rw [World.cell?_setCell_other w ⟨c, j, none⟩ ⟨g, o + i, none⟩ u (fun e => by cases e; omega)]
  exact hc' i hi
set_option maxHeartbeats 16000000 in
theorem toNode_any (t : Nd) (a : Option Addr) (cap : Nat) (w : World) (hk : RI w (.slice a t.kids.length cap) t.kids) (hn : t.kids.length ≤ 1048576) :
    Calls Tryd.prog 53 #[ndV t (.slice a t.kids.length cap)] w fun e w' => ∃ kv, e = .returned (ndV t kv) ∧ RIB w.heap.size w' kv t.kids ∧ Below w.heap.size w w' := by
  obtain ⟨op, name, qual, n, m, vk, vn, vs, kids, pos⟩ := t
  simp only [ndV] at *
  go_enter Tryd.func53, Tryd.ntmps53
  go_wp2_with (go_at_call 68; fail)
  refine (toV_any vk vn vs _).mono ?_
  rintro e w1 ⟨rfl, hb1⟩
  obtain ⟨hc1, hf1⟩ := bcell hb1
  have hz1 := hb1.size
  simp at hz1
  have b1 : Below w.heap.size w w1 := Below.trans (by (go_light; repeat (first | with_reducible assumption | with_reducible exact Below.refl _ _ | (with_reducible refine Below.setCell ?_ ?_ _; rotate_left; (focus first | (simp; done) | (simp; omega) | omega)) | (with_reducible refine Below.alloc ?_ ?_ _; rotate_left; (focus first | (simp; done) | (simp; omega) | omega)) | with_reducible refine Below.drew ?_))) (hb1.mono (by simp; omega))
  have hy0 : w.heap.size < w1.heap.size := by omega
  have hy1 : w.heap.size + 1 < w1.heap.size := by omega
  have hy2 : w.heap.size + 1 + 1 < w1.heap.size := by omega
  go_wp2_with (go_at_call 69; fail)
  have bx : Below w.heap.size w (((w1.setCell ⟨w.heap.size + 1 + 1, 5, none⟩ (.int .i64 vk)).setCell ⟨w.heap.size + 1 + 1, 6, none⟩ (.int .i64 vn)).setCell ⟨w.heap.size + 1 + 1, 7, none⟩ (.string vs)) := (by (go_light; repeat (first | with_reducible assumption | with_reducible exact Below.refl _ _ | (with_reducible refine Below.setCell ?_ ?_ _; rotate_left; (focus first | (simp; done) | (simp; omega) | omega)) | (with_reducible refine Below.alloc ?_ ?_ _; rotate_left; (focus first | (simp; done) | (simp; omega) | omega)) | with_reducible refine Below.drew ?_)))
  refine (toIntS_any a cap kids _ hn (hk.below bx)).mono ?_
  rintro e w2 ⟨rfl, hr2, hb2⟩
  obtain ⟨hc2, hf2⟩ := bcell hb2
  have hz2 := hb2.size
  simp at hz2
  have hzE : (((w1.setCell ⟨w.heap.size + 1 + 1, 5, none⟩ (.int .i64 vk)).setCell ⟨w.heap.size + 1 + 1, 6, none⟩ (.int .i64 vn)).setCell ⟨w.heap.size + 1 + 1, 7, none⟩ (.string vs)).heap.size = w1.heap.size := by simp
  rw [hzE] at hr2
  have b2 : Below w.heap.size w w2 := bx.trans (hb2.mono (by simp; omega))
  have HR : Hid (RIB (w.heap.size + 1 + 1 + 1) w2 (.slice (some ⟨w1.heap.size, 0, none⟩) kids.length kids.length) kids) := (by
    obtain ⟨a', c', e', h2⟩ := hr2
    refine ⟨a', c', e', fun hp => ?_⟩
    obtain ⟨g, o, ha, hg, hc⟩ := h2 hp
    simp only [Value.slice.injEq] at e'
    obtain ⟨e1, _, _⟩ := e'
    rw [ha] at e1
    simp only [Option.some.injEq, Addr.mk.injEq] at e1
    exact ⟨g, o, ha, by omega, hg, hc⟩ : RIB (w.heap.size + 1 + 1 + 1) w2 (.slice (some ⟨w1.heap.size, 0, none⟩) kids.length kids.length) kids)
  have hx0 : w.heap.size < w2.heap.size := by omega
  have hx1 : w.heap.size + 1 < w2.heap.size := by omega
  have hx2 : w.heap.size + 1 + 1 < w2.heap.size := by omega
  have q1 : w.heap.size + 1 < (((w1.setCell ⟨w.heap.size + 1 + 1, 5, none⟩ (.int .i64 vk)).setCell ⟨w.heap.size + 1 + 1, 6, none⟩ (.int .i64 vn)).setCell ⟨w.heap.size + 1 + 1, 7, none⟩ (.string vs)).heap.size := by rw [hzE]; omega
  have q2 : w.heap.size + 1 + 1 < (((w1.setCell ⟨w.heap.size + 1 + 1, 5, none⟩ (.int .i64 vk)).setCell ⟨w.heap.size + 1 + 1, 6, none⟩ (.int .i64 vn)).setCell ⟨w.heap.size + 1 + 1, 7, none⟩ (.string vs)).heap.size := by rw [hzE]; omega
  have o0 : w2.cell? ⟨w.heap.size + 1 + 1, 0, none⟩ = some (.int .i64 op) := (hc2 _ _ q2).trans (by simp [go_sem, hc1, hf1, hy2])
  have p0 : w2.frozen? ⟨w.heap.size + 1 + 1, 0, none⟩ = false := (hf2 _ _ q2).trans (by simp [go_sem, hc1, hf1, hy2])
  have r0 : w2.cell? ⟨w.heap.size + 1, 0, none⟩ = some (.int .i64 0) := (hc2 _ _ q1).trans (by simp [go_sem, hc1, hf1, hy1])
  have s0 : w2.frozen? ⟨w.heap.size + 1, 0, none⟩ = false := (hf2 _ _ q1).trans (by simp [go_sem, hc1, hf1, hy1])
  have o1 : w2.cell? ⟨w.heap.size + 1 + 1, 1, none⟩ = some (.string name) := (hc2 _ _ q2).trans (by simp [go_sem, hc1, hf1, hy2])
  have p1 : w2.frozen? ⟨w.heap.size + 1 + 1, 1, none⟩ = false := (hf2 _ _ q2).trans (by simp [go_sem, hc1, hf1, hy2])
  have r1 : w2.cell? ⟨w.heap.size + 1, 1, none⟩ = some (.string ⟨#[]⟩) := (hc2 _ _ q1).trans (by simp [go_sem, hc1, hf1, hy1])
  have s1 : w2.frozen? ⟨w.heap.size + 1, 1, none⟩ = false := (hf2 _ _ q1).trans (by simp [go_sem, hc1, hf1, hy1])
  have o2 : w2.cell? ⟨w.heap.size + 1 + 1, 2, none⟩ = some (.string qual) := (hc2 _ _ q2).trans (by simp [go_sem, hc1, hf1, hy2])
  have p2 : w2.frozen? ⟨w.heap.size + 1 + 1, 2, none⟩ = false := (hf2 _ _ q2).trans (by simp [go_sem, hc1, hf1, hy2])
  have r2 : w2.cell? ⟨w.heap.size + 1, 2, none⟩ = some (.string ⟨#[]⟩) := (hc2 _ _ q1).trans (by simp [go_sem, hc1, hf1, hy1])
  have s2 : w2.frozen? ⟨w.heap.size + 1, 2, none⟩ = false := (hf2 _ _ q1).trans (by simp [go_sem, hc1, hf1, hy1])
  have o3 : w2.cell? ⟨w.heap.size + 1 + 1, 3, none⟩ = some (.int .i64 n) := (hc2 _ _ q2).trans (by simp [go_sem, hc1, hf1, hy2])
  have p3 : w2.frozen? ⟨w.heap.size + 1 + 1, 3, none⟩ = false := (hf2 _ _ q2).trans (by simp [go_sem, hc1, hf1, hy2])
  have r3 : w2.cell? ⟨w.heap.size + 1, 3, none⟩ = some (.int .i64 0) := (hc2 _ _ q1).trans (by simp [go_sem, hc1, hf1, hy1])
  have s3 : w2.frozen? ⟨w.heap.size + 1, 3, none⟩ = false := (hf2 _ _ q1).trans (by simp [go_sem, hc1, hf1, hy1])
  have o4 : w2.cell? ⟨w.heap.size + 1 + 1, 4, none⟩ = some (.int .i64 m) := (hc2 _ _ q2).trans (by simp [go_sem, hc1, hf1, hy2])
  have p4 : w2.frozen? ⟨w.heap.size + 1 + 1, 4, none⟩ = false := (hf2 _ _ q2).trans (by simp [go_sem, hc1, hf1, hy2])
  have r4 : w2.cell? ⟨w.heap.size + 1, 4, none⟩ = some (.int .i64 0) := (hc2 _ _ q1).trans (by simp [go_sem, hc1, hf1, hy1])
  have s4 : w2.frozen? ⟨w.heap.size + 1, 4, none⟩ = false := (hf2 _ _ q1).trans (by simp [go_sem, hc1, hf1, hy1])
  have o5 : w2.cell? ⟨w.heap.size + 1 + 1, 5, none⟩ = some (.int .i64 vk) := (hc2 _ _ q2).trans (by simp [go_sem, hc1, hf1, hy2])
  have p5 : w2.frozen? ⟨w.heap.size + 1 + 1, 5, none⟩ = false := (hf2 _ _ q2).trans (by simp [go_sem, hc1, hf1, hy2])
  have r5 : w2.cell? ⟨w.heap.size + 1, 5, none⟩ = some (.int .i64 0) := (hc2 _ _ q1).trans (by simp [go_sem, hc1, hf1, hy1])
  have s5 : w2.frozen? ⟨w.heap.size + 1, 5, none⟩ = false := (hf2 _ _ q1).trans (by simp [go_sem, hc1, hf1, hy1])
  have o6 : w2.cell? ⟨w.heap.size + 1 + 1, 6, none⟩ = some (.int .i64 vn) := (hc2 _ _ q2).trans (by simp [go_sem, hc1, hf1, hy2])
  have p6 : w2.frozen? ⟨w.heap.size + 1 + 1, 6, none⟩ = false := (hf2 _ _ q2).trans (by simp [go_sem, hc1, hf1, hy2])
  have r6 : w2.cell? ⟨w.heap.size + 1, 6, none⟩ = some (.int .i64 0) := (hc2 _ _ q1).trans (by simp [go_sem, hc1, hf1, hy1])
  have s6 : w2.frozen? ⟨w.heap.size + 1, 6, none⟩ = false := (hf2 _ _ q1).trans (by simp [go_sem, hc1, hf1, hy1])
  have o7 : w2.cell? ⟨w.heap.size + 1 + 1, 7, none⟩ = some (.string vs) := (hc2 _ _ q2).trans (by simp [go_sem, hc1, hf1, hy2])
  have p7 : w2.frozen? ⟨w.heap.size + 1 + 1, 7, none⟩ = false := (hf2 _ _ q2).trans (by simp [go_sem, hc1, hf1, hy2])
  have r7 : w2.cell? ⟨w.heap.size + 1, 7, none⟩ = some (.string ⟨#[]⟩) := (hc2 _ _ q1).trans (by simp [go_sem, hc1, hf1, hy1])
  have s7 : w2.frozen? ⟨w.heap.size + 1, 7, none⟩ = false := (hf2 _ _ q1).trans (by simp [go_sem, hc1, hf1, hy1])
  have o8 : w2.cell? ⟨w.heap.size + 1 + 1, 8, none⟩ = some (.slice none 0 0) := (hc2 _ _ q2).trans (by simp [go_sem, hc1, hf1, hy2])
  have p8 : w2.frozen? ⟨w.heap.size + 1 + 1, 8, none⟩ = false := (hf2 _ _ q2).trans (by simp [go_sem, hc1, hf1, hy2])
  have r8 : w2.cell? ⟨w.heap.size + 1, 8, none⟩ = some (.slice none 0 0) := (hc2 _ _ q1).trans (by simp [go_sem, hc1, hf1, hy1])
  have s8 : w2.frozen? ⟨w.heap.size + 1, 8, none⟩ = false := (hf2 _ _ q1).trans (by simp [go_sem, hc1, hf1, hy1])
  have o9 : w2.cell? ⟨w.heap.size + 1 + 1, 9, none⟩ = some (.int .i64 0) := (hc2 _ _ q2).trans (by simp [go_sem, hc1, hf1, hy2])
  have p9 : w2.frozen? ⟨w.heap.size + 1 + 1, 9, none⟩ = false := (hf2 _ _ q2).trans (by simp [go_sem, hc1, hf1, hy2])
  have r9 : w2.cell? ⟨w.heap.size + 1, 9, none⟩ = some (.int .i64 0) := (hc2 _ _ q1).trans (by simp [go_sem, hc1, hf1, hy1])
  have s9 : w2.frozen? ⟨w.heap.size + 1, 9, none⟩ = false := (hf2 _ _ q1).trans (by simp [go_sem, hc1, hf1, hy1])
  have e9 : w2.cell? ⟨w.heap.size, 9, none⟩ = some (.int .i64 pos) := (hc2 _ _ (by rw [hzE]; omega)).trans (by simp [go_sem, hc1, hf1, hy0])
  clear hr2 hb1 hb2 hk bx hc1 hf1 hc2 hf2 hzE q1 q2 hz1 hz2
  go_wp2
  refine bodyPost_ret (v := .agg #[.int .i64 op, .string name, .string qual, .int .i64 n, .int .i64 m, .int .i64 vk, .int .i64 vn, .string vs, .slice (some ⟨w1.heap.size, 0, none⟩) kids.length kids.length, .int .i64 pos]) (by simp [results, Tryd.results53, go_sem, hx0, hx1, hx2, o0, p0, r0, s0, o1, p1, r1, s1, o2, p2, r2, s2, o3, p3, r3, s3, o4, p4, r4, s4, o5, p5, r5, s5, o6, p6, r6, s6, o7, p7, r7, s7, o8, p8, r8, s8, o9, p9, r9, s9]) rfl ⟨_, rfl, ?_, ?_⟩
  · refine RIB.mono (B := w.heap.size + 1 + 1 + 1) ?_ (by omega)
    repeat (first | with_reducible exact HR.out | (with_reducible refine RIB.set ?_ ?_; rotate_left; omega))
  · exact (by (go_light; repeat (first | with_reducible assumption | with_reducible exact Below.refl _ _ | (with_reducible refine Below.setCell ?_ ?_ _; rotate_left; (focus first | (simp; done) | (simp; omega) | omega)) | (with_reducible refine Below.alloc ?_ ?_ _; rotate_left; (focus first | (simp; done) | (simp; omega) | omega)) | with_reducible refine Below.drew ?_)))
end Go.Proofs.YtghdjagomdgnfaaDoor
namespace Go.Proofs.YtghdjagomdgnfaaDoor
open Go.ChangeShapes Go.WideShapes Go.ChangeAt Go.RowKit
set_option linter.unusedVariables false
set_option linter.unusedSimpArgs false
set_option maxRecDepth 100000
theorem info46 : (Tryd.prog.info? 46).map (fun i => (i.zero, i.size, i.bytes)) = some (some (.agg #[.int .i64 0, .string ⟨#[]⟩, .string ⟨#[]⟩, .int .i64 0, .int .i64 0, .int .i64 0, .int .i64 0, .string ⟨#[]⟩, .slice none 0 0, .int .i64 0]), 10, 120) := by kernel_rfl
def ndC (t : Nd) (kv : Value) : List Value := [.int .i64 t.op, .string t.name, .string t.qual, .int .i64 t.n, .int .i64 t.m, .int .i64 t.vk, .int .i64 t.vn, .string t.vs, kv, .int .i64 t.pos]
/-- A node's cells in a row. -/
def NC (xs : List Value) (i : Nat) (t : Nd) (kv : Value) : Prop := ∀ j (h : j < 10), xs[i * 10 + j]? = (ndC t kv)[j]?
def setN (xs : List Value) (k : Nat) (t : Nd) (kv : Value) : List Value := (((((((((xs.set (k * 10) (.int .i64 t.op)).set (k * 10 + 1) (.string t.name)).set (k * 10 + 2) (.string t.qual)).set (k * 10 + 3) (.int .i64 t.n)).set (k * 10 + 4) (.int .i64 t.m)).set (k * 10 + 5) (.int .i64 t.vk)).set (k * 10 + 6) (.int .i64 t.vn)).set (k * 10 + 7) (.string t.vs)).set (k * 10 + 8) (kv)).set (k * 10 + 9) (.int .i64 t.pos)
theorem setN_len (xs : List Value) (k : Nat) (t : Nd) (kv : Value) : (setN xs k t kv).length = xs.length := by simp [setN]
theorem setN_at {xs : List Value} {k : Nat} {t : Nd} {kv : Value} (h : k * 10 + 9 < xs.length) : NC (setN xs k t kv) k t kv := by
  intro j hj
  match j, hj with
  | 0, _ => simp [setN, ndC, List.getElem?_set]; omega
  | 1, _ => simp [setN, ndC, List.getElem?_set]; omega
  | 2, _ => simp [setN, ndC, List.getElem?_set]; omega
  | 3, _ => simp [setN, ndC, List.getElem?_set]; omega
  | 4, _ => simp [setN, ndC, List.getElem?_set]; omega
  | 5, _ => simp [setN, ndC, List.getElem?_set]; omega
  | 6, _ => simp [setN, ndC, List.getElem?_set]; omega
  | 7, _ => simp [setN, ndC, List.getElem?_set]; omega
  | 8, _ => simp [setN, ndC, List.getElem?_set]; omega
  | 9, _ => simp [setN, ndC, List.getElem?_set]; omega
theorem setN_else {xs : List Value} {k i : Nat} {t u : Nd} {kv ku : Value} (h : NC xs i u ku) (hi : i < k) : NC (setN xs k t kv) i u ku := by
  intro j hj
  rw [← h j hj]
  unfold setN
  simp only [List.getElem?_set]
  rw [if_neg (by omega), if_neg (by omega), if_neg (by omega), if_neg (by omega), if_neg (by omega), if_neg (by omega), if_neg (by omega), if_neg (by omega), if_neg (by omega), if_neg (by omega)]
end Go.Proofs.YtghdjagomdgnfaaDoor
namespace Go.Proofs.YtghdjagomdgnfaaDoor
open Go.ChangeShapes Go.WideShapes Go.ChangeAt Go.RowKit
set_option linter.unusedVariables false
set_option linter.unusedSimpArgs false
set_option maxRecDepth 100000
theorem own_below {w w' : World} {b e k n : Nat} {v : Value} {xs : List Value} (h : w.ownsRow b e k v n xs) (hb : Below w.heap.size w w') : w'.ownsRow b e k v n xs := by
  have hl := h.lt
  obtain ⟨h1, h2⟩ := h
  refine ⟨h1, ?_⟩
  rcases h2 with h2 | ⟨g, cap, cur, rfl, hg1, hg2, hg3⟩
  · exact .inl h2
  · exact .inr ⟨g, cap, cur, rfl, hg1, (hb.block g (hl g rfl).2).trans hg2, hg3⟩
/-- The nodes of a tree, in blocks from B on. -/
def RNB (B : Nat) (w : World) (v : Value) (ts : List Nd) : Prop :=
  ∃ a cap, v = .slice a ts.length cap ∧ (0 < ts.length → ∃ g o, a = some ⟨g, o, none⟩ ∧ B ≤ g ∧ g < w.heap.size ∧ ∀ i (h : i < ts.length), ∃ kv, NodeAt w g (o + i * 10) ts[i] kv ∧ RIB B w kv ts[i].kids)
theorem RNB.rn {B : Nat} {w : World} {v : Value} {ts : List Nd} (h : RNB B w v ts) : RN w v ts := by
  obtain ⟨a, cap, rfl, h2⟩ := h
  refine ⟨a, cap, rfl, fun hp => ?_⟩
  obtain ⟨g, o, ha, _, hg, hc⟩ := h2 hp
  exact ⟨g, o, ha, hg, fun i hi => let ⟨kv, a, b⟩ := hc i hi; ⟨kv, a, b.ri⟩⟩
theorem NodeAt.set {w : World} {g o c j : Nat} {t : Nd} {kv u : Value} (h : NodeAt w g o t kv) (hc : c ≠ g) : NodeAt (w.setCell ⟨c, j, none⟩ u) g o t kv := by
  have k : ∀ x, (w.setCell ⟨c, j, none⟩ u).cell? ⟨g, x, none⟩ = w.cell? ⟨g, x, none⟩ := fun x => World.cell?_setCell_other w ⟨c, j, none⟩ ⟨g, x, none⟩ u (fun e => by cases e; exact hc rfl)
  exact ⟨(k _).trans h.c0, (k _).trans h.c1, (k _).trans h.c2, (k _).trans h.c3, (k _).trans h.c4, (k _).trans h.c5, (k _).trans h.c6, (k _).trans h.c7, (k _).trans h.c8, (k _).trans h.c9⟩
theorem RNB.set {B c j : Nat} {w : World} {v u : Value} {ts : List Nd} (h : RNB B w v ts) (hc : c < B) : RNB B (w.setCell ⟨c, j, none⟩ u) v ts := by
  obtain ⟨a, cap, rfl, h2⟩ := h
  refine ⟨a, cap, rfl, fun hp => ?_⟩
  obtain ⟨g, o, ha, hB, hg, hc'⟩ := h2 hp
  refine ⟨g, o, ha, hB, by simpa using hg, fun i hi => ?_⟩
  obtain ⟨kv, a, b⟩ := hc' i hi
  exact ⟨kv, a.set (by omega), b.set hc⟩
def FillN (B : Nat) (us : List Nd) (k : Nat) (xs : List Value) (wr : World) : Prop := xs.length = us.length * 10 ∧ ∀ i (h : i < us.length), i < k → ∃ kv, NC xs i us[i] kv ∧ RIB B wr kv us[i].kids
theorem FillN.step {B : Nat} {us : List Nd} {k : Nat} {xs : List Value} {wr w3 : World} {kv : Value} (h : FillN B us k xs wr) (hk : k < us.length) (hw : ∀ v ks, RIB B wr v ks → RIB B w3 v ks) (hn : RIB B w3 kv us[k].kids) : FillN B us (k + 1) (setN xs k us[k] kv) w3 := by
  obtain ⟨h1, h2⟩ := h
  refine ⟨by rw [setN_len]; exact h1, fun i hi hik => ?_⟩
  by_cases e : i = k
  · subst e
    exact ⟨kv, setN_at (by omega), hn⟩
  · obtain ⟨kv', a, b⟩ := h2 i hi (by omega)
    exact ⟨kv', setN_else a (by omega), hw _ _ b⟩
set_option maxHeartbeats 16000000 in
theorem toNodeS_any (la : Option Addr) (lc : Nat) (us : List Nd) (w : World) (hn : us.length ≤ 1048576) (hz : ∀ t ∈ us, t.kids.length ≤ 1048576) (hv : RN w (.slice la us.length lc) us) :
    Calls Tryd.prog 28 #[.slice la us.length lc] w fun e w' => e = .returned (.slice (some ⟨w.heap.size, 0, none⟩) us.length us.length) ∧ RNB w.heap.size w' (.slice (some ⟨w.heap.size, 0, none⟩) us.length us.length) us ∧ Below w.heap.size w w' := by
  obtain ⟨i0, hi, hz0, hz1, hz2⟩ := info_parts info46
  have HV : Hid (RN w (.slice la us.length lc) us) := hv
  obtain ⟨a, cap, hsl, hcells⟩ := hv
  simp only [Value.slice.injEq] at hsl
  obtain ⟨rfl, _, rfl⟩ := hsl
  go_enter Tryd.func28, Tryd.ntmps28
  go_wp2_with (refine wpList_make_full _ rfl (.tmp 6) (.tmp 6) 29 rfl w.heap.size 46 i0 _ 10 Tryd.underlying29 hi hz0 hz1 .i64 .i64 us.length us.length us.length rfl rfl rfl rfl (by rw [hz2]; omega) (by unfold maxLen; omega) (Nat.le_refl _) ?_; intro w1 hown hgrow)
  have HB : Hid (Below w.heap.size w w1) := (Below.refl _ _).grown hgrow (Nat.le_refl _) (fun k hk => by simp at hk)
  have hb := HB.out
  have hw1 := hb.size
  go_loopw [4] (fun i wr => ∃ (k : Nat) (xs : List Value), k ≤ us.length ∧ i = .int .i64 k ∧ Hid (FillN (w.heap.size + 1) us k xs wr) ∧ wr.ownsRow w.heap.size 46 10 (.slice (some ⟨w.heap.size, 0, none⟩) us.length us.length) us.length xs ∧ Below w.heap.size w wr) (fun i _ => us.length - (intOf i).toNat)
  case atStart => exact ⟨0, _, Nat.zero_le _, rfl, ⟨by simp [size_madeCells], fun i _ h => absurd h (Nat.not_lt_zero _)⟩, hown, hb⟩
  case round =>
    obtain ⟨k, xs, hk, rfl, HF, ho, hbel⟩ := hrel
    have hbs := hbel.size
    by_cases hlt : k < us.length
    · have hlti : (k : Int) < us.length := by omega
      obtain ⟨g, o, rfl, hg, hgc⟩ := hcells (by omega)
      obtain ⟨kv0, hN, hK⟩ := hgc k hlt
      obtain ⟨c0, c1, c2, c3, c4, c5, c6, c7, c8, c9⟩ := hN.below hbel hg
      have hK1 := hK.below hbel
      obtain ⟨ka, kc, rfl, _⟩ := hK
      have hkl := hz us[k] (List.getElem_mem hlt)
      have HST : Hid (∀ (w3 : World) (kv : Value), (∀ v ks, RIB (w.heap.size + 1) wr v ks → RIB (w.heap.size + 1) w3 v ks) → RIB (w.heap.size + 1) w3 kv us[k].kids → FillN (w.heap.size + 1) us (k + 1) (setN xs k us[k] kv) w3) := (fun w3 kv a b => HF.out.step hlt a b : ∀ (w3 : World) (kv : Value), (∀ v ks, RIB (w.heap.size + 1) wr v ks → RIB (w.heap.size + 1) w3 v ks) → RIB (w.heap.size + 1) w3 kv us[k].kids → FillN (w.heap.size + 1) us (k + 1) (setN xs k us[k] kv) w3)
      have hxl := HF.out.1
      have hgl : w.heap.size < wr.heap.size := (ho.lt _ rfl).2
      clear hgc hN hcells hz HF
      generalize us[k] = t at *
      obtain ⟨op, name, qual, n, m, vk, vn, vs, kids, pos⟩ := t
      simp only at c0 c1 c2 c3 c4 c5 c6 c7 c8 c9 hK1 hkl
      have hcn := toNode_any ⟨op, name, qual, n, m, vk, vn, vs, kids, pos⟩ ka kc wr hK1 hkl
      simp only [ndV] at hcn
      obtain ⟨y0, hy0⟩ : ∃ u, xs[k * 10]? = some u := ⟨_, List.getElem?_eq_getElem (by omega)⟩
      obtain ⟨y1, hy1⟩ : ∃ u, xs[k * 10 + 1]? = some u := ⟨_, List.getElem?_eq_getElem (by omega)⟩
      obtain ⟨y2, hy2⟩ : ∃ u, xs[k * 10 + 2]? = some u := ⟨_, List.getElem?_eq_getElem (by omega)⟩
      obtain ⟨y3, hy3⟩ : ∃ u, xs[k * 10 + 3]? = some u := ⟨_, List.getElem?_eq_getElem (by omega)⟩
      obtain ⟨y4, hy4⟩ : ∃ u, xs[k * 10 + 4]? = some u := ⟨_, List.getElem?_eq_getElem (by omega)⟩
      obtain ⟨y5, hy5⟩ : ∃ u, xs[k * 10 + 5]? = some u := ⟨_, List.getElem?_eq_getElem (by omega)⟩
      obtain ⟨y6, hy6⟩ : ∃ u, xs[k * 10 + 6]? = some u := ⟨_, List.getElem?_eq_getElem (by omega)⟩
      obtain ⟨y7, hy7⟩ : ∃ u, xs[k * 10 + 7]? = some u := ⟨_, List.getElem?_eq_getElem (by omega)⟩
      obtain ⟨y8, hy8⟩ : ∃ u, xs[k * 10 + 8]? = some u := ⟨_, List.getElem?_eq_getElem (by omega)⟩
      obtain ⟨y9, hy9⟩ : ∃ u, xs[k * 10 + 9]? = some u := ⟨_, List.getElem?_eq_getElem (by omega)⟩
      go_wp2_with (go_at_call 53; fail)
      refine hcn.mono ?_
      rintro e w2 ⟨kv, rfl, hR, hb1⟩
      have HR : Hid _ := hR
      obtain ⟨xa, xc, rfl, _⟩ := hR
      have hR : RIB wr.heap.size w2 (.slice xa kids.length xc) kids := HR.out
      clear HR
      have ho1 := own_below ho hb1
      have bw1 : Below w.heap.size w w2 := hbel.trans (hb1.mono hbs)
      have e0 := own_cell ho1 hy0
      have f0 := ho1.frozenAt (k * 10)
      have e1 := own_cell ho1 hy1
      have f1 := ho1.frozenAt (k * 10 + 1)
      have e2 := own_cell ho1 hy2
      have f2 := ho1.frozenAt (k * 10 + 2)
      have e3 := own_cell ho1 hy3
      have f3 := ho1.frozenAt (k * 10 + 3)
      have e4 := own_cell ho1 hy4
      have f4 := ho1.frozenAt (k * 10 + 4)
      have e5 := own_cell ho1 hy5
      have f5 := ho1.frozenAt (k * 10 + 5)
      have e6 := own_cell ho1 hy6
      have f6 := ho1.frozenAt (k * 10 + 6)
      have e7 := own_cell ho1 hy7
      have f7 := ho1.frozenAt (k * 10 + 7)
      have e8 := own_cell ho1 hy8
      have f8 := ho1.frozenAt (k * 10 + 8)
      have e9 := own_cell ho1 hy9
      have f9 := ho1.frozenAt (k * 10 + 9)
      have HO2 : Hid (World.ownsRow ((((((((((w2.setCell ⟨w.heap.size, k * 10, none⟩ (.int .i64 op)).setCell ⟨w.heap.size, k * 10 + 1, none⟩ (.string name)).setCell ⟨w.heap.size, k * 10 + 2, none⟩ (.string qual)).setCell ⟨w.heap.size, k * 10 + 3, none⟩ (.int .i64 n)).setCell ⟨w.heap.size, k * 10 + 4, none⟩ (.int .i64 m)).setCell ⟨w.heap.size, k * 10 + 5, none⟩ (.int .i64 vk)).setCell ⟨w.heap.size, k * 10 + 6, none⟩ (.int .i64 vn)).setCell ⟨w.heap.size, k * 10 + 7, none⟩ (.string vs)).setCell ⟨w.heap.size, k * 10 + 8, none⟩ (.slice xa kids.length xc)).setCell ⟨w.heap.size, k * 10 + 9, none⟩ (.int .i64 pos)) w.heap.size 46 10 (.slice (some ⟨w.heap.size, 0, none⟩) us.length us.length) us.length (setN xs k ⟨op, name, qual, n, m, vk, vn, vs, kids, pos⟩ (.slice xa kids.length xc))) := ((((((((((ho1.stored (k * 10) (.int .i64 op)).1.stored (k * 10 + 1) (.string name)).1.stored (k * 10 + 2) (.string qual)).1.stored (k * 10 + 3) (.int .i64 n)).1.stored (k * 10 + 4) (.int .i64 m)).1.stored (k * 10 + 5) (.int .i64 vk)).1.stored (k * 10 + 6) (.int .i64 vn)).1.stored (k * 10 + 7) (.string vs)).1.stored (k * 10 + 8) (.slice xa kids.length xc)).1.stored (k * 10 + 9) (.int .i64 pos)).1
      have HK : Hid (∀ v ks, RIB (w.heap.size + 1) w2 v ks → RIB (w.heap.size + 1) ((((((((((w2.setCell ⟨w.heap.size, k * 10, none⟩ (.int .i64 op)).setCell ⟨w.heap.size, k * 10 + 1, none⟩ (.string name)).setCell ⟨w.heap.size, k * 10 + 2, none⟩ (.string qual)).setCell ⟨w.heap.size, k * 10 + 3, none⟩ (.int .i64 n)).setCell ⟨w.heap.size, k * 10 + 4, none⟩ (.int .i64 m)).setCell ⟨w.heap.size, k * 10 + 5, none⟩ (.int .i64 vk)).setCell ⟨w.heap.size, k * 10 + 6, none⟩ (.int .i64 vn)).setCell ⟨w.heap.size, k * 10 + 7, none⟩ (.string vs)).setCell ⟨w.heap.size, k * 10 + 8, none⟩ (.slice xa kids.length xc)).setCell ⟨w.heap.size, k * 10 + 9, none⟩ (.int .i64 pos)) v ks) := (fun v ks h => by
        repeat (first | with_reducible exact h | (with_reducible refine RIB.set ?_ ?_; rotate_left; omega)) : ∀ v ks, RIB (w.heap.size + 1) w2 v ks → RIB (w.heap.size + 1) ((((((((((w2.setCell ⟨w.heap.size, k * 10, none⟩ (.int .i64 op)).setCell ⟨w.heap.size, k * 10 + 1, none⟩ (.string name)).setCell ⟨w.heap.size, k * 10 + 2, none⟩ (.string qual)).setCell ⟨w.heap.size, k * 10 + 3, none⟩ (.int .i64 n)).setCell ⟨w.heap.size, k * 10 + 4, none⟩ (.int .i64 m)).setCell ⟨w.heap.size, k * 10 + 5, none⟩ (.int .i64 vk)).setCell ⟨w.heap.size, k * 10 + 6, none⟩ (.int .i64 vn)).setCell ⟨w.heap.size, k * 10 + 7, none⟩ (.string vs)).setCell ⟨w.heap.size, k * 10 + 8, none⟩ (.slice xa kids.length xc)).setCell ⟨w.heap.size, k * 10 + 9, none⟩ (.int .i64 pos)) v ks)
      have HS : Hid (FillN (w.heap.size + 1) us (k + 1) (setN xs k ⟨op, name, qual, n, m, vk, vn, vs, kids, pos⟩ (.slice xa kids.length xc)) ((((((((((w2.setCell ⟨w.heap.size, k * 10, none⟩ (.int .i64 op)).setCell ⟨w.heap.size, k * 10 + 1, none⟩ (.string name)).setCell ⟨w.heap.size, k * 10 + 2, none⟩ (.string qual)).setCell ⟨w.heap.size, k * 10 + 3, none⟩ (.int .i64 n)).setCell ⟨w.heap.size, k * 10 + 4, none⟩ (.int .i64 m)).setCell ⟨w.heap.size, k * 10 + 5, none⟩ (.int .i64 vk)).setCell ⟨w.heap.size, k * 10 + 6, none⟩ (.int .i64 vn)).setCell ⟨w.heap.size, k * 10 + 7, none⟩ (.string vs)).setCell ⟨w.heap.size, k * 10 + 8, none⟩ (.slice xa kids.length xc)).setCell ⟨w.heap.size, k * 10 + 9, none⟩ (.int .i64 pos))) := HST.out _ _ (fun v ks h => HK.out v ks (h.below hb1)) (HK.out _ _ (hR.mono (by omega)))
      have HBX : Hid (Below w.heap.size w ((((((((((w2.setCell ⟨w.heap.size, k * 10, none⟩ (.int .i64 op)).setCell ⟨w.heap.size, k * 10 + 1, none⟩ (.string name)).setCell ⟨w.heap.size, k * 10 + 2, none⟩ (.string qual)).setCell ⟨w.heap.size, k * 10 + 3, none⟩ (.int .i64 n)).setCell ⟨w.heap.size, k * 10 + 4, none⟩ (.int .i64 m)).setCell ⟨w.heap.size, k * 10 + 5, none⟩ (.int .i64 vk)).setCell ⟨w.heap.size, k * 10 + 6, none⟩ (.int .i64 vn)).setCell ⟨w.heap.size, k * 10 + 7, none⟩ (.string vs)).setCell ⟨w.heap.size, k * 10 + 8, none⟩ (.slice xa kids.length xc)).setCell ⟨w.heap.size, k * 10 + 9, none⟩ (.int .i64 pos))) := ((by (go_light; repeat (first | with_reducible assumption | with_reducible exact Below.refl _ _ | (with_reducible refine Below.setCell ?_ ?_ _; rotate_left; (focus first | (simp; done) | (simp; omega) | omega)) | (with_reducible refine Below.alloc ?_ ?_ _; rotate_left; (focus first | (simp; done) | (simp; omega) | omega)) | with_reducible refine Below.drew ?_))) : Below w.heap.size w ((((((((((w2.setCell ⟨w.heap.size, k * 10, none⟩ (.int .i64 op)).setCell ⟨w.heap.size, k * 10 + 1, none⟩ (.string name)).setCell ⟨w.heap.size, k * 10 + 2, none⟩ (.string qual)).setCell ⟨w.heap.size, k * 10 + 3, none⟩ (.int .i64 n)).setCell ⟨w.heap.size, k * 10 + 4, none⟩ (.int .i64 m)).setCell ⟨w.heap.size, k * 10 + 5, none⟩ (.int .i64 vk)).setCell ⟨w.heap.size, k * 10 + 6, none⟩ (.int .i64 vn)).setCell ⟨w.heap.size, k * 10 + 7, none⟩ (.string vs)).setCell ⟨w.heap.size, k * 10 + 8, none⟩ (.slice xa kids.length xc)).setCell ⟨w.heap.size, k * 10 + 9, none⟩ (.int .i64 pos)))
      clear HST HK hR hb1 hcn c0 c1 c2 c3 c4 c5 c6 c7 c8 c9 hK1 ho ho1 hy0 hy1 hy2 hy3 hy4 hy5 hy6 hy7 hy8 hy9 hxl
      go_wp2
      go_roundw
      case rel => exact ⟨k + 1, _, by omega, by go_num, HS, HO2.out, HBX.out⟩
      case measure => simp [intOf]; omega
    · have hkn : k = us.length := by omega
      subst hkn
      have hlti : ¬ (us.length : Int) < us.length := by omega
      go_wp2
      go_ret
      refine ⟨rfl, ?_, hbel⟩
      refine ⟨_, _, rfl, fun hp => ⟨w.heap.size, 0, rfl, Nat.le_refl _, (ho.lt _ rfl).2, fun i hi => ?_⟩⟩
      obtain ⟨kv, q, r⟩ := HF.out.2 i hi hi
      rw [Nat.zero_add]
      exact ⟨kv, ⟨own_cell ho (q 0 (by omega)), own_cell ho (q 1 (by omega)), own_cell ho (q 2 (by omega)), own_cell ho (q 3 (by omega)), own_cell ho (q 4 (by omega)), own_cell ho (q 5 (by omega)), own_cell ho (q 6 (by omega)), own_cell ho (q 7 (by omega)), own_cell ho (q 8 (by omega)), own_cell ho (q 9 (by omega))⟩, r.mono (by omega)⟩
end Go.Proofs.YtghdjagomdgnfaaDoor
namespace Go.Proofs.YtghdjagomdgnfaaDoor
open Go.ChangeShapes Go.WideShapes Go.ChangeAt Go.RowKit
set_option linter.unusedVariables false
set_option linter.unusedSimpArgs false
set_option maxRecDepth 100000
set_option maxHeartbeats 4000000 in
theorem toTree_any (la : Option Addr) (lc : Nat) (us : List Nd) (w : World) (hn : us.length ≤ 1048576) (hz : ∀ t ∈ us, t.kids.length ≤ 1048576) (hv : RN w (.slice la us.length lc) us) :
    Calls Tryd.prog 12 #[.agg #[.slice la us.length lc]] w fun e w' => ∃ a, e = .returned (.agg #[.slice a us.length us.length]) ∧ RN w' (.slice a us.length us.length) us ∧ Below w.heap.size w w' := by
  go_enter Tryd.func12, Tryd.ntmps12
  go_wp2_with (go_at_call 28; fail)
  refine (toNodeS_any la lc us _ hn hz (hv.below (by (go_light; repeat (first | with_reducible assumption | with_reducible exact Below.refl _ _ | (with_reducible refine Below.setCell ?_ ?_ _; rotate_left; (focus first | (simp; done) | (simp; omega) | omega)) | (with_reducible refine Below.alloc ?_ ?_ _; rotate_left; (focus first | (simp; done) | (simp; omega) | omega)) | with_reducible refine Below.drew ?_))))).mono ?_
  rintro e w1 ⟨rfl, hr1, hb1⟩
  obtain ⟨hc1, hf1⟩ := bcell hb1
  have hz1 := hb1.size
  simp at hz1
  have b1 : Below w.heap.size w w1 := Below.trans (by (go_light; repeat (first | with_reducible assumption | with_reducible exact Below.refl _ _ | (with_reducible refine Below.setCell ?_ ?_ _; rotate_left; (focus first | (simp; done) | (simp; omega) | omega)) | (with_reducible refine Below.alloc ?_ ?_ _; rotate_left; (focus first | (simp; done) | (simp; omega) | omega)) | with_reducible refine Below.drew ?_))) (hb1.mono (by simp; omega))
  have hy0 : w.heap.size < w1.heap.size := by omega
  have hy1 : w.heap.size + 1 < w1.heap.size := by omega
  have hy2 : w.heap.size + 1 + 1 < w1.heap.size := by omega
  have HR : Hid (RNB (w.heap.size + 1 + 1 + 1) w1 (.slice (some ⟨w.heap.size + 1 + 1 + 1, 0, none⟩) us.length us.length) us) := (by simpa using hr1 : RNB (w.heap.size + 1 + 1 + 1) w1 (.slice (some ⟨w.heap.size + 1 + 1 + 1, 0, none⟩) us.length us.length) us)
  clear hr1 hb1
  go_wp2
  refine bodyPost_ret (v := .agg #[.slice (some ⟨w.heap.size + 1 + 1 + 1, 0, none⟩) us.length us.length]) (by simp [results, Tryd.results12, go_sem, hc1, hf1, hy0, hy1, hy2]) rfl ⟨_, rfl, ?_, ?_⟩
  · refine RNB.rn (B := w.heap.size + 1 + 1 + 1) ?_
    repeat (first | with_reducible exact HR.out | (with_reducible refine RNB.set ?_ ?_; rotate_left; omega))
  · exact (by (go_light; repeat (first | with_reducible assumption | with_reducible exact Below.refl _ _ | (with_reducible refine Below.setCell ?_ ?_ _; rotate_left; (focus first | (simp; done) | (simp; omega) | omega)) | (with_reducible refine Below.alloc ?_ ?_ _; rotate_left; (focus first | (simp; done) | (simp; omega) | omega)) | with_reducible refine Below.drew ?_)))
set_option maxHeartbeats 8000000 in
theorem eqNode_same (t : Nd) (kv ku : Value) (w : World) (hn : t.kids.length ≤ 1048576) (hv : RI w kv t.kids) (hu : RI w ku t.kids) :
    Calls Tryd.prog 61 #[ndV t kv, ndV t ku] w fun e w' => e = .returned (.bool true) ∧ Below w.heap.size w w' := by
  have HV : Hid (RI w kv t.kids) := hv
  have HU : Hid (RI w ku t.kids) := hu
  obtain ⟨op, name, qual, n, m, vk, vn, vs, kids, pos⟩ := t
  simp only [ndV] at *
  obtain ⟨a, ca, rfl, _⟩ := hv
  obtain ⟨b, cb, rfl, _⟩ := hu
  go_enter Tryd.func61, Tryd.ntmps61
  go_wp2_with (go_at_call 79; fail)
  refine (eqV_same vk vn vs _).mono ?_
  rintro e w1 ⟨rfl, hb1⟩
  obtain ⟨hc1, hf1⟩ := bcell hb1
  have hz1 := hb1.size
  simp at hz1
  have hy0 : w.heap.size < w1.heap.size := by omega
  have hy1 : w.heap.size + 1 < w1.heap.size := by omega
  have b1 : Below w.heap.size w w1 := Below.trans (by (go_light; repeat (first | with_reducible assumption | with_reducible exact Below.refl _ _ | (with_reducible refine Below.setCell ?_ ?_ _; rotate_left; (focus first | (simp; done) | (simp; omega) | omega)) | (with_reducible refine Below.alloc ?_ ?_ _; rotate_left; (focus first | (simp; done) | (simp; omega) | omega)) | with_reducible refine Below.drew ?_))) (hb1.mono (by simp; omega))
  go_wp2_with (go_at_call 80; fail)
  refine (eqIntS_same _ _ kids _ hn (HV.out.below b1) (HU.out.below b1)).mono ?_
  rintro e w2 ⟨rfl, hb2⟩
  obtain ⟨hc2, hf2⟩ := bcell hb2
  have b2 : Below w.heap.size w w2 := b1.trans (hb2.mono (by omega))
  have hx0 : w.heap.size < w2.heap.size := by have := hb2.size; omega
  have hx1 : w.heap.size + 1 < w2.heap.size := by have := hb2.size; omega
  go_wp2
  go_ret
  exact ⟨rfl, b2⟩
set_option maxHeartbeats 8000000 in
theorem eqNodeS_same (v u : Value) (us : List Nd) (w : World) (hn : us.length ≤ 1048576) (hz : ∀ t ∈ us, t.kids.length ≤ 1048576) (hv : RN w v us) (hu : RN w u us) :
    Calls Tryd.prog 35 #[v, u] w fun e w' => e = .returned (.bool true) ∧ Below w.heap.size w w' := by
  obtain ⟨a, ca, rfl, hva⟩ := hv
  obtain ⟨b, cb, rfl, hub⟩ := hu
  go_enter Tryd.func35, Tryd.ntmps35
  go_wp2
  go_loopw [5] (fun i wr => ∃ k : Nat, k ≤ us.length ∧ i = .int .i64 k ∧ Below w.heap.size w wr) (fun i _ => us.length - (intOf i).toNat)
  case atStart => exact ⟨0, Nat.zero_le _, rfl, Below.refl _ _⟩
  case round =>
    obtain ⟨k, hk, rfl, hbel⟩ := hrel
    have hbs := hbel.size
    by_cases hlt : k < us.length
    · have hlti : (k : Int) < us.length := by omega
      obtain ⟨g, o, rfl, hg, hgc⟩ := hva (by omega)
      obtain ⟨g2, o2, rfl, hg2, hgc2⟩ := hub (by omega)
      obtain ⟨kv, hN, hK⟩ := hgc k hlt
      obtain ⟨ku, hM, hL⟩ := hgc2 k hlt
      obtain ⟨c0, c1, c2, c3, c4, c5, c6, c7, c8, c9⟩ := hN.below hbel hg
      obtain ⟨d0, d1, d2, d3, d4, d5, d6, d7, d8, d9⟩ := hM.below hbel hg2
      have hkl := hz us[k] (List.getElem_mem hlt)
      have hK1 := hK.below hbel
      have hL1 := hL.below hbel
      clear hgc hgc2 hN hM hva hub hz hK hL
      generalize us[k] = t at *
      have hcn := fun W (h : Below wr.heap.size wr W) => eqNode_same t kv ku W hkl (hK1.below h) (hL1.below h)
      obtain ⟨op, name, qual, n, m, vk, vn, vs, kids, pos⟩ := t
      simp only [ndV] at *
      obtain ⟨xa, xc, rfl, _⟩ := hK1
      obtain ⟨ya, yc, rfl, _⟩ := hL1
      have hdr : Below wr.heap.size wr wr.drew := (Below.refl _ wr).drew
      go_wp2
      go_region_with (go_at_call 61; refine (hcn _ hdr).mono ?_; rintro e w1 ⟨rfl, hb'⟩; replace hb' := undrew hb'; have bw1 : Below w.heap.size w w1 := hbel.trans (hb'.mono hbs))
      all_goals
        go_wp2
        go_roundw
        case rel => exact ⟨k + 1, by omega, by go_num, by first | exact bw1 | exact bw1.drew⟩
        case measure => simp [intOf]; omega
    · go_wp2
      go_ret
      exact ⟨rfl, hbel⟩
theorem eqTree_same (v u : Value) (us : List Nd) (w : World) (hn : us.length ≤ 1048576) (hz : ∀ t ∈ us, t.kids.length ≤ 1048576) (hv : RN w v us) (hu : RN w u us) :
    Calls Tryd.prog 14 #[.agg #[v], .agg #[u]] w fun e w' => e = .returned (.bool true) ∧ Below w.heap.size w w' := by
  have HV : Hid (RN w v us) := hv
  have HU : Hid (RN w u us) := hu
  obtain ⟨a, ca, rfl, _⟩ := hv
  obtain ⟨b, cb, rfl, _⟩ := hu
  have hb : Below w.heap.size w ((w.alloc (.cells #[.slice a us.length ca] 31)).alloc (.cells #[.slice b us.length cb] 31)) := (by (go_light; repeat (first | with_reducible assumption | with_reducible exact Below.refl _ _ | (with_reducible refine Below.setCell ?_ ?_ _; rotate_left; (focus first | (simp; done) | (simp; omega) | omega)) | (with_reducible refine Below.alloc ?_ ?_ _; rotate_left; (focus first | (simp; done) | (simp; omega) | omega)) | with_reducible refine Below.drew ?_)))
  go_enter Tryd.func14, Tryd.ntmps14
  go_wp2_with (go_at_call 35; fail)
  refine (eqNodeS_same _ _ us _ hn hz (HV.out.below hb) (HU.out.below hb)).mono ?_
  rintro e w1 ⟨rfl, hb1⟩
  have b1 : Below w.heap.size w w1 := hb.trans (hb1.mono (by simp; omega))
  go_wp2
  go_ret
  exact ⟨rfl, b1⟩
end Go.Proofs.YtghdjagomdgnfaaDoor
namespace Go.Proofs.YtghdjagomdgnfaaDoor
open Go.ChangeShapes Go.WideShapes Go.ChangeAt Go.RowKit
set_option linter.unusedVariables false
set_option linter.unusedSimpArgs false
set_option maxRecDepth 100000
namespace K
/-- Numbers in a block from B on. -/
def RIB (B : Nat) (w : World) (v : Value) (ks : List Int) : Prop :=
  ∃ a cap, v = .slice a ks.length cap ∧ ks.length ≤ cap ∧ (0 < ks.length → ∃ g o, a = some ⟨g, o, none⟩ ∧ B ≤ g ∧ g < w.heap.size ∧ ∀ i (h : i < ks.length), w.cell? ⟨g, o + i, none⟩ = some (.int .i64 ks[i]))
theorem RIB.ri {B : Nat} {w : World} {v : Value} {ks : List Int} (h : RIB B w v ks) : RI w v ks := by
  obtain ⟨a, cap, rfl, hcp, h2⟩ := h
  exact ⟨a, cap, rfl, fun hp => let ⟨g, o, ha, _, hg, hc⟩ := h2 hp; ⟨g, o, ha, hg, hc⟩⟩
theorem RIB.mono {B C : Nat} {w : World} {v : Value} {ks : List Int} (h : RIB B w v ks) (hc : C ≤ B) : RIB C w v ks := by
  obtain ⟨a, cap, rfl, hcp, h2⟩ := h
  exact ⟨a, cap, rfl, hcp, fun hp => let ⟨g, o, ha, hb, hg, hc'⟩ := h2 hp; ⟨g, o, ha, Nat.le_trans hc hb, hg, hc'⟩⟩
theorem RIB.below {B : Nat} {w w' : World} {v : Value} {ks : List Int} (h : RIB B w v ks) (hb : Below w.heap.size w w') : RIB B w' v ks := by
  obtain ⟨a, cap, rfl, hcp, h2⟩ := h
  refine ⟨a, cap, rfl, hcp, fun hp => ?_⟩
  obtain ⟨g, o, ha, hB, hg, hc⟩ := h2 hp
  exact ⟨g, o, ha, hB, Nat.lt_of_lt_of_le hg hb.size, fun i hi => (hb.cell (p := ⟨g, o + i, none⟩) hg).trans (hc i hi)⟩
theorem RIB.set {B c j : Nat} {w : World} {v u : Value} {ks : List Int} (h : RIB B w v ks) (hc : c < B) : RIB B (w.setCell ⟨c, j, none⟩ u) v ks := by
  obtain ⟨a, cap, rfl, hcp, h2⟩ := h
  refine ⟨a, cap, rfl, hcp, fun hp => ?_⟩
  obtain ⟨g, o, ha, hB, hg, hc'⟩ := h2 hp
  refine ⟨g, o, ha, hB, by simpa using hg, fun i hi => ?_⟩
  rw [World.cell?_setCell_other w ⟨c, j, none⟩ ⟨g, o + i, none⟩ u (fun e => by cases e; omega)]
  exact hc' i hi
set_option maxHeartbeats 16000000 in
theorem toNode_any (t : Nd) (a : Option Addr) (cap : Nat) (w : World) (hk : RI w (.slice a t.kids.length cap) t.kids) (hn : t.kids.length ≤ 1048576) :
    Calls Tryd.prog 53 #[ndV t (.slice a t.kids.length cap)] w fun e w' => ∃ kv, e = .returned (ndV t kv) ∧ RIB w.heap.size w' kv t.kids ∧ Below w.heap.size w w' := by
  obtain ⟨op, name, qual, n, m, vk, vn, vs, kids, pos⟩ := t
  simp only [ndV] at *
  go_enter Tryd.func53, Tryd.ntmps53
  go_wp2_with (go_at_call 68; fail)
  refine (toV_any vk vn vs _).mono ?_
  rintro e w1 ⟨rfl, hb1⟩
  obtain ⟨hc1, hf1⟩ := bcell hb1
  have hz1 := hb1.size
  simp at hz1
  have b1 : Below w.heap.size w w1 := Below.trans (by (go_light; repeat (first | with_reducible assumption | with_reducible exact Below.refl _ _ | (with_reducible refine Below.setCell ?_ ?_ _; rotate_left; (focus first | (simp; done) | (simp; omega) | omega)) | (with_reducible refine Below.alloc ?_ ?_ _; rotate_left; (focus first | (simp; done) | (simp; omega) | omega)) | with_reducible refine Below.drew ?_))) (hb1.mono (by simp; omega))
  have hy0 : w.heap.size < w1.heap.size := by omega
  have hy1 : w.heap.size + 1 < w1.heap.size := by omega
  have hy2 : w.heap.size + 1 + 1 < w1.heap.size := by omega
  go_wp2_with (go_at_call 69; fail)
  have bx : Below w.heap.size w (((w1.setCell ⟨w.heap.size + 1 + 1, 5, none⟩ (.int .i64 vk)).setCell ⟨w.heap.size + 1 + 1, 6, none⟩ (.int .i64 vn)).setCell ⟨w.heap.size + 1 + 1, 7, none⟩ (.string vs)) := (by (go_light; repeat (first | with_reducible assumption | with_reducible exact Below.refl _ _ | (with_reducible refine Below.setCell ?_ ?_ _; rotate_left; (focus first | (simp; done) | (simp; omega) | omega)) | (with_reducible refine Below.alloc ?_ ?_ _; rotate_left; (focus first | (simp; done) | (simp; omega) | omega)) | with_reducible refine Below.drew ?_)))
  refine (toIntS_any a cap kids _ hn (hk.below bx)).mono ?_
  rintro e w2 ⟨rfl, hr2, hb2⟩
  obtain ⟨hc2, hf2⟩ := bcell hb2
  have hz2 := hb2.size
  simp at hz2
  have hzE : (((w1.setCell ⟨w.heap.size + 1 + 1, 5, none⟩ (.int .i64 vk)).setCell ⟨w.heap.size + 1 + 1, 6, none⟩ (.int .i64 vn)).setCell ⟨w.heap.size + 1 + 1, 7, none⟩ (.string vs)).heap.size = w1.heap.size := by simp
  rw [hzE] at hr2
  have b2 : Below w.heap.size w w2 := bx.trans (hb2.mono (by simp; omega))
  have HR : Hid (RIB (w.heap.size + 1 + 1 + 1) w2 (.slice (some ⟨w1.heap.size, 0, none⟩) kids.length kids.length) kids) := (by
    obtain ⟨a', c', e', h2⟩ := hr2
    refine ⟨a', c', e', (by simp only [Value.slice.injEq] at e'; omega), fun hp => ?_⟩
    obtain ⟨g, o, ha, hg, hc⟩ := h2 hp
    simp only [Value.slice.injEq] at e'
    obtain ⟨e1, _, _⟩ := e'
    rw [ha] at e1
    simp only [Option.some.injEq, Addr.mk.injEq] at e1
    exact ⟨g, o, ha, by omega, hg, hc⟩ : RIB (w.heap.size + 1 + 1 + 1) w2 (.slice (some ⟨w1.heap.size, 0, none⟩) kids.length kids.length) kids)
  have hx0 : w.heap.size < w2.heap.size := by omega
  have hx1 : w.heap.size + 1 < w2.heap.size := by omega
  have hx2 : w.heap.size + 1 + 1 < w2.heap.size := by omega
  have q1 : w.heap.size + 1 < (((w1.setCell ⟨w.heap.size + 1 + 1, 5, none⟩ (.int .i64 vk)).setCell ⟨w.heap.size + 1 + 1, 6, none⟩ (.int .i64 vn)).setCell ⟨w.heap.size + 1 + 1, 7, none⟩ (.string vs)).heap.size := by rw [hzE]; omega
  have q2 : w.heap.size + 1 + 1 < (((w1.setCell ⟨w.heap.size + 1 + 1, 5, none⟩ (.int .i64 vk)).setCell ⟨w.heap.size + 1 + 1, 6, none⟩ (.int .i64 vn)).setCell ⟨w.heap.size + 1 + 1, 7, none⟩ (.string vs)).heap.size := by rw [hzE]; omega
  have o0 : w2.cell? ⟨w.heap.size + 1 + 1, 0, none⟩ = some (.int .i64 op) := (hc2 _ _ q2).trans (by simp [go_sem, hc1, hf1, hy2])
  have p0 : w2.frozen? ⟨w.heap.size + 1 + 1, 0, none⟩ = false := (hf2 _ _ q2).trans (by simp [go_sem, hc1, hf1, hy2])
  have r0 : w2.cell? ⟨w.heap.size + 1, 0, none⟩ = some (.int .i64 0) := (hc2 _ _ q1).trans (by simp [go_sem, hc1, hf1, hy1])
  have s0 : w2.frozen? ⟨w.heap.size + 1, 0, none⟩ = false := (hf2 _ _ q1).trans (by simp [go_sem, hc1, hf1, hy1])
  have o1 : w2.cell? ⟨w.heap.size + 1 + 1, 1, none⟩ = some (.string name) := (hc2 _ _ q2).trans (by simp [go_sem, hc1, hf1, hy2])
  have p1 : w2.frozen? ⟨w.heap.size + 1 + 1, 1, none⟩ = false := (hf2 _ _ q2).trans (by simp [go_sem, hc1, hf1, hy2])
  have r1 : w2.cell? ⟨w.heap.size + 1, 1, none⟩ = some (.string ⟨#[]⟩) := (hc2 _ _ q1).trans (by simp [go_sem, hc1, hf1, hy1])
  have s1 : w2.frozen? ⟨w.heap.size + 1, 1, none⟩ = false := (hf2 _ _ q1).trans (by simp [go_sem, hc1, hf1, hy1])
  have o2 : w2.cell? ⟨w.heap.size + 1 + 1, 2, none⟩ = some (.string qual) := (hc2 _ _ q2).trans (by simp [go_sem, hc1, hf1, hy2])
  have p2 : w2.frozen? ⟨w.heap.size + 1 + 1, 2, none⟩ = false := (hf2 _ _ q2).trans (by simp [go_sem, hc1, hf1, hy2])
  have r2 : w2.cell? ⟨w.heap.size + 1, 2, none⟩ = some (.string ⟨#[]⟩) := (hc2 _ _ q1).trans (by simp [go_sem, hc1, hf1, hy1])
  have s2 : w2.frozen? ⟨w.heap.size + 1, 2, none⟩ = false := (hf2 _ _ q1).trans (by simp [go_sem, hc1, hf1, hy1])
  have o3 : w2.cell? ⟨w.heap.size + 1 + 1, 3, none⟩ = some (.int .i64 n) := (hc2 _ _ q2).trans (by simp [go_sem, hc1, hf1, hy2])
  have p3 : w2.frozen? ⟨w.heap.size + 1 + 1, 3, none⟩ = false := (hf2 _ _ q2).trans (by simp [go_sem, hc1, hf1, hy2])
  have r3 : w2.cell? ⟨w.heap.size + 1, 3, none⟩ = some (.int .i64 0) := (hc2 _ _ q1).trans (by simp [go_sem, hc1, hf1, hy1])
  have s3 : w2.frozen? ⟨w.heap.size + 1, 3, none⟩ = false := (hf2 _ _ q1).trans (by simp [go_sem, hc1, hf1, hy1])
  have o4 : w2.cell? ⟨w.heap.size + 1 + 1, 4, none⟩ = some (.int .i64 m) := (hc2 _ _ q2).trans (by simp [go_sem, hc1, hf1, hy2])
  have p4 : w2.frozen? ⟨w.heap.size + 1 + 1, 4, none⟩ = false := (hf2 _ _ q2).trans (by simp [go_sem, hc1, hf1, hy2])
  have r4 : w2.cell? ⟨w.heap.size + 1, 4, none⟩ = some (.int .i64 0) := (hc2 _ _ q1).trans (by simp [go_sem, hc1, hf1, hy1])
  have s4 : w2.frozen? ⟨w.heap.size + 1, 4, none⟩ = false := (hf2 _ _ q1).trans (by simp [go_sem, hc1, hf1, hy1])
  have o5 : w2.cell? ⟨w.heap.size + 1 + 1, 5, none⟩ = some (.int .i64 vk) := (hc2 _ _ q2).trans (by simp [go_sem, hc1, hf1, hy2])
  have p5 : w2.frozen? ⟨w.heap.size + 1 + 1, 5, none⟩ = false := (hf2 _ _ q2).trans (by simp [go_sem, hc1, hf1, hy2])
  have r5 : w2.cell? ⟨w.heap.size + 1, 5, none⟩ = some (.int .i64 0) := (hc2 _ _ q1).trans (by simp [go_sem, hc1, hf1, hy1])
  have s5 : w2.frozen? ⟨w.heap.size + 1, 5, none⟩ = false := (hf2 _ _ q1).trans (by simp [go_sem, hc1, hf1, hy1])
  have o6 : w2.cell? ⟨w.heap.size + 1 + 1, 6, none⟩ = some (.int .i64 vn) := (hc2 _ _ q2).trans (by simp [go_sem, hc1, hf1, hy2])
  have p6 : w2.frozen? ⟨w.heap.size + 1 + 1, 6, none⟩ = false := (hf2 _ _ q2).trans (by simp [go_sem, hc1, hf1, hy2])
  have r6 : w2.cell? ⟨w.heap.size + 1, 6, none⟩ = some (.int .i64 0) := (hc2 _ _ q1).trans (by simp [go_sem, hc1, hf1, hy1])
  have s6 : w2.frozen? ⟨w.heap.size + 1, 6, none⟩ = false := (hf2 _ _ q1).trans (by simp [go_sem, hc1, hf1, hy1])
  have o7 : w2.cell? ⟨w.heap.size + 1 + 1, 7, none⟩ = some (.string vs) := (hc2 _ _ q2).trans (by simp [go_sem, hc1, hf1, hy2])
  have p7 : w2.frozen? ⟨w.heap.size + 1 + 1, 7, none⟩ = false := (hf2 _ _ q2).trans (by simp [go_sem, hc1, hf1, hy2])
  have r7 : w2.cell? ⟨w.heap.size + 1, 7, none⟩ = some (.string ⟨#[]⟩) := (hc2 _ _ q1).trans (by simp [go_sem, hc1, hf1, hy1])
  have s7 : w2.frozen? ⟨w.heap.size + 1, 7, none⟩ = false := (hf2 _ _ q1).trans (by simp [go_sem, hc1, hf1, hy1])
  have o8 : w2.cell? ⟨w.heap.size + 1 + 1, 8, none⟩ = some (.slice none 0 0) := (hc2 _ _ q2).trans (by simp [go_sem, hc1, hf1, hy2])
  have p8 : w2.frozen? ⟨w.heap.size + 1 + 1, 8, none⟩ = false := (hf2 _ _ q2).trans (by simp [go_sem, hc1, hf1, hy2])
  have r8 : w2.cell? ⟨w.heap.size + 1, 8, none⟩ = some (.slice none 0 0) := (hc2 _ _ q1).trans (by simp [go_sem, hc1, hf1, hy1])
  have s8 : w2.frozen? ⟨w.heap.size + 1, 8, none⟩ = false := (hf2 _ _ q1).trans (by simp [go_sem, hc1, hf1, hy1])
  have o9 : w2.cell? ⟨w.heap.size + 1 + 1, 9, none⟩ = some (.int .i64 0) := (hc2 _ _ q2).trans (by simp [go_sem, hc1, hf1, hy2])
  have p9 : w2.frozen? ⟨w.heap.size + 1 + 1, 9, none⟩ = false := (hf2 _ _ q2).trans (by simp [go_sem, hc1, hf1, hy2])
  have r9 : w2.cell? ⟨w.heap.size + 1, 9, none⟩ = some (.int .i64 0) := (hc2 _ _ q1).trans (by simp [go_sem, hc1, hf1, hy1])
  have s9 : w2.frozen? ⟨w.heap.size + 1, 9, none⟩ = false := (hf2 _ _ q1).trans (by simp [go_sem, hc1, hf1, hy1])
  have e9 : w2.cell? ⟨w.heap.size, 9, none⟩ = some (.int .i64 pos) := (hc2 _ _ (by rw [hzE]; omega)).trans (by simp [go_sem, hc1, hf1, hy0])
  clear hr2 hb1 hb2 hk bx hc1 hf1 hc2 hf2 hzE q1 q2 hz1 hz2
  go_wp2
  refine bodyPost_ret (v := .agg #[.int .i64 op, .string name, .string qual, .int .i64 n, .int .i64 m, .int .i64 vk, .int .i64 vn, .string vs, .slice (some ⟨w1.heap.size, 0, none⟩) kids.length kids.length, .int .i64 pos]) (by simp [results, Tryd.results53, go_sem, hx0, hx1, hx2, o0, p0, r0, s0, o1, p1, r1, s1, o2, p2, r2, s2, o3, p3, r3, s3, o4, p4, r4, s4, o5, p5, r5, s5, o6, p6, r6, s6, o7, p7, r7, s7, o8, p8, r8, s8, o9, p9, r9, s9]) rfl ⟨_, rfl, ?_, ?_⟩
  · refine RIB.mono (B := w.heap.size + 1 + 1 + 1) ?_ (by omega)
    repeat (first | with_reducible exact HR.out | (with_reducible refine RIB.set ?_ ?_; rotate_left; omega))
  · exact (by (go_light; repeat (first | with_reducible assumption | with_reducible exact Below.refl _ _ | (with_reducible refine Below.setCell ?_ ?_ _; rotate_left; (focus first | (simp; done) | (simp; omega) | omega)) | (with_reducible refine Below.alloc ?_ ?_ _; rotate_left; (focus first | (simp; done) | (simp; omega) | omega)) | with_reducible refine Below.drew ?_)))
theorem own_below {w w' : World} {b e k n : Nat} {v : Value} {xs : List Value} (h : w.ownsRow b e k v n xs) (hb : Below w.heap.size w w') : w'.ownsRow b e k v n xs := by
  have hl := h.lt
  obtain ⟨h1, h2⟩ := h
  refine ⟨h1, ?_⟩
  rcases h2 with h2 | ⟨g, cap, cur, rfl, hg1, hg2, hg3⟩
  · exact .inl h2
  · exact .inr ⟨g, cap, cur, rfl, hg1, (hb.block g (hl g rfl).2).trans hg2, hg3⟩
/-- The nodes of a tree, in blocks from B on. -/
def RNB (B : Nat) (w : World) (v : Value) (ts : List Nd) : Prop :=
  ∃ a cap, v = .slice a ts.length cap ∧ (0 < ts.length → ∃ g o, a = some ⟨g, o, none⟩ ∧ B ≤ g ∧ g < w.heap.size ∧ ∀ i (h : i < ts.length), ∃ kv, NodeAt w g (o + i * 10) ts[i] kv ∧ RIB B w kv ts[i].kids)
theorem RNB.rn {B : Nat} {w : World} {v : Value} {ts : List Nd} (h : RNB B w v ts) : RN w v ts := by
  obtain ⟨a, cap, rfl, h2⟩ := h
  refine ⟨a, cap, rfl, fun hp => ?_⟩
  obtain ⟨g, o, ha, _, hg, hc⟩ := h2 hp
  exact ⟨g, o, ha, hg, fun i hi => let ⟨kv, a, b⟩ := hc i hi; ⟨kv, a, b.ri⟩⟩
theorem NodeAt.set {w : World} {g o c j : Nat} {t : Nd} {kv u : Value} (h : NodeAt w g o t kv) (hc : c ≠ g) : NodeAt (w.setCell ⟨c, j, none⟩ u) g o t kv := by
  have k : ∀ x, (w.setCell ⟨c, j, none⟩ u).cell? ⟨g, x, none⟩ = w.cell? ⟨g, x, none⟩ := fun x => World.cell?_setCell_other w ⟨c, j, none⟩ ⟨g, x, none⟩ u (fun e => by cases e; exact hc rfl)
  exact ⟨(k _).trans h.c0, (k _).trans h.c1, (k _).trans h.c2, (k _).trans h.c3, (k _).trans h.c4, (k _).trans h.c5, (k _).trans h.c6, (k _).trans h.c7, (k _).trans h.c8, (k _).trans h.c9⟩
theorem RNB.set {B c j : Nat} {w : World} {v u : Value} {ts : List Nd} (h : RNB B w v ts) (hc : c < B) : RNB B (w.setCell ⟨c, j, none⟩ u) v ts := by
  obtain ⟨a, cap, rfl, h2⟩ := h
  refine ⟨a, cap, rfl, fun hp => ?_⟩
  obtain ⟨g, o, ha, hB, hg, hc'⟩ := h2 hp
  refine ⟨g, o, ha, hB, by simpa using hg, fun i hi => ?_⟩
  obtain ⟨kv, a, b⟩ := hc' i hi
  exact ⟨kv, a.set (by omega), b.set hc⟩
def FillN (B : Nat) (us : List Nd) (k : Nat) (xs : List Value) (wr : World) : Prop := xs.length = us.length * 10 ∧ ∀ i (h : i < us.length), i < k → ∃ kv, NC xs i us[i] kv ∧ RIB B wr kv us[i].kids
theorem FillN.step {B : Nat} {us : List Nd} {k : Nat} {xs : List Value} {wr w3 : World} {kv : Value} (h : FillN B us k xs wr) (hk : k < us.length) (hw : ∀ v ks, RIB B wr v ks → RIB B w3 v ks) (hn : RIB B w3 kv us[k].kids) : FillN B us (k + 1) (setN xs k us[k] kv) w3 := by
  obtain ⟨h1, h2⟩ := h
  refine ⟨by rw [setN_len]; exact h1, fun i hi hik => ?_⟩
  by_cases e : i = k
  · subst e
    exact ⟨kv, setN_at (by omega), hn⟩
  · obtain ⟨kv', a, b⟩ := h2 i hi (by omega)
    exact ⟨kv', setN_else a (by omega), hw _ _ b⟩
set_option maxHeartbeats 16000000 in
theorem toNodeS_any (la : Option Addr) (lc : Nat) (us : List Nd) (w : World) (hn : us.length ≤ 1048576) (hz : ∀ t ∈ us, t.kids.length ≤ 1048576) (hv : RN w (.slice la us.length lc) us) :
    Calls Tryd.prog 28 #[.slice la us.length lc] w fun e w' => e = .returned (.slice (some ⟨w.heap.size, 0, none⟩) us.length us.length) ∧ RNB w.heap.size w' (.slice (some ⟨w.heap.size, 0, none⟩) us.length us.length) us ∧ Below w.heap.size w w' := by
  obtain ⟨i0, hi, hz0, hz1, hz2⟩ := info_parts info46
  have HV : Hid (RN w (.slice la us.length lc) us) := hv
  obtain ⟨a, cap, hsl, hcells⟩ := hv
  simp only [Value.slice.injEq] at hsl
  obtain ⟨rfl, _, rfl⟩ := hsl
  go_enter Tryd.func28, Tryd.ntmps28
  go_wp2_with (refine wpList_make_full _ rfl (.tmp 6) (.tmp 6) 29 rfl w.heap.size 46 i0 _ 10 Tryd.underlying29 hi hz0 hz1 .i64 .i64 us.length us.length us.length rfl rfl rfl rfl (by rw [hz2]; omega) (by unfold maxLen; omega) (Nat.le_refl _) ?_; intro w1 hown hgrow)
  have HB : Hid (Below w.heap.size w w1) := (Below.refl _ _).grown hgrow (Nat.le_refl _) (fun k hk => by simp at hk)
  have hb := HB.out
  have hw1 := hb.size
  go_loopw [4] (fun i wr => ∃ (k : Nat) (xs : List Value), k ≤ us.length ∧ i = .int .i64 k ∧ Hid (FillN (w.heap.size + 1) us k xs wr) ∧ wr.ownsRow w.heap.size 46 10 (.slice (some ⟨w.heap.size, 0, none⟩) us.length us.length) us.length xs ∧ Below w.heap.size w wr) (fun i _ => us.length - (intOf i).toNat)
  case atStart => exact ⟨0, _, Nat.zero_le _, rfl, ⟨by simp [size_madeCells], fun i _ h => absurd h (Nat.not_lt_zero _)⟩, hown, hb⟩
  case round =>
    obtain ⟨k, xs, hk, rfl, HF, ho, hbel⟩ := hrel
    have hbs := hbel.size
    by_cases hlt : k < us.length
    · have hlti : (k : Int) < us.length := by omega
      obtain ⟨g, o, rfl, hg, hgc⟩ := hcells (by omega)
      obtain ⟨kv0, hN, hK⟩ := hgc k hlt
      obtain ⟨c0, c1, c2, c3, c4, c5, c6, c7, c8, c9⟩ := hN.below hbel hg
      have hK1 := hK.below hbel
      obtain ⟨ka, kc, rfl, _⟩ := hK
      have hkl := hz us[k] (List.getElem_mem hlt)
      have HST : Hid (∀ (w3 : World) (kv : Value), (∀ v ks, RIB (w.heap.size + 1) wr v ks → RIB (w.heap.size + 1) w3 v ks) → RIB (w.heap.size + 1) w3 kv us[k].kids → FillN (w.heap.size + 1) us (k + 1) (setN xs k us[k] kv) w3) := (fun w3 kv a b => HF.out.step hlt a b : ∀ (w3 : World) (kv : Value), (∀ v ks, RIB (w.heap.size + 1) wr v ks → RIB (w.heap.size + 1) w3 v ks) → RIB (w.heap.size + 1) w3 kv us[k].kids → FillN (w.heap.size + 1) us (k + 1) (setN xs k us[k] kv) w3)
      have hxl := HF.out.1
      have hgl : w.heap.size < wr.heap.size := (ho.lt _ rfl).2
      clear hgc hN hcells hz HF
      generalize us[k] = t at *
      obtain ⟨op, name, qual, n, m, vk, vn, vs, kids, pos⟩ := t
      simp only at c0 c1 c2 c3 c4 c5 c6 c7 c8 c9 hK1 hkl
      have hcn := toNode_any ⟨op, name, qual, n, m, vk, vn, vs, kids, pos⟩ ka kc wr hK1 hkl
      simp only [ndV] at hcn
      obtain ⟨y0, hy0⟩ : ∃ u, xs[k * 10]? = some u := ⟨_, List.getElem?_eq_getElem (by omega)⟩
      obtain ⟨y1, hy1⟩ : ∃ u, xs[k * 10 + 1]? = some u := ⟨_, List.getElem?_eq_getElem (by omega)⟩
      obtain ⟨y2, hy2⟩ : ∃ u, xs[k * 10 + 2]? = some u := ⟨_, List.getElem?_eq_getElem (by omega)⟩
      obtain ⟨y3, hy3⟩ : ∃ u, xs[k * 10 + 3]? = some u := ⟨_, List.getElem?_eq_getElem (by omega)⟩
      obtain ⟨y4, hy4⟩ : ∃ u, xs[k * 10 + 4]? = some u := ⟨_, List.getElem?_eq_getElem (by omega)⟩
      obtain ⟨y5, hy5⟩ : ∃ u, xs[k * 10 + 5]? = some u := ⟨_, List.getElem?_eq_getElem (by omega)⟩
      obtain ⟨y6, hy6⟩ : ∃ u, xs[k * 10 + 6]? = some u := ⟨_, List.getElem?_eq_getElem (by omega)⟩
      obtain ⟨y7, hy7⟩ : ∃ u, xs[k * 10 + 7]? = some u := ⟨_, List.getElem?_eq_getElem (by omega)⟩
      obtain ⟨y8, hy8⟩ : ∃ u, xs[k * 10 + 8]? = some u := ⟨_, List.getElem?_eq_getElem (by omega)⟩
      obtain ⟨y9, hy9⟩ : ∃ u, xs[k * 10 + 9]? = some u := ⟨_, List.getElem?_eq_getElem (by omega)⟩
      go_wp2_with (go_at_call 53; fail)
      refine hcn.mono ?_
      rintro e w2 ⟨kv, rfl, hR, hb1⟩
      have HR : Hid _ := hR
      obtain ⟨xa, xc, rfl, _⟩ := hR
      have hR : RIB wr.heap.size w2 (.slice xa kids.length xc) kids := HR.out
      clear HR
      have ho1 := own_below ho hb1
      have bw1 : Below w.heap.size w w2 := hbel.trans (hb1.mono hbs)
      have e0 := own_cell ho1 hy0
      have f0 := ho1.frozenAt (k * 10)
      have e1 := own_cell ho1 hy1
      have f1 := ho1.frozenAt (k * 10 + 1)
      have e2 := own_cell ho1 hy2
      have f2 := ho1.frozenAt (k * 10 + 2)
      have e3 := own_cell ho1 hy3
      have f3 := ho1.frozenAt (k * 10 + 3)
      have e4 := own_cell ho1 hy4
      have f4 := ho1.frozenAt (k * 10 + 4)
      have e5 := own_cell ho1 hy5
      have f5 := ho1.frozenAt (k * 10 + 5)
      have e6 := own_cell ho1 hy6
      have f6 := ho1.frozenAt (k * 10 + 6)
      have e7 := own_cell ho1 hy7
      have f7 := ho1.frozenAt (k * 10 + 7)
      have e8 := own_cell ho1 hy8
      have f8 := ho1.frozenAt (k * 10 + 8)
      have e9 := own_cell ho1 hy9
      have f9 := ho1.frozenAt (k * 10 + 9)
      have HO2 : Hid (World.ownsRow ((((((((((w2.setCell ⟨w.heap.size, k * 10, none⟩ (.int .i64 op)).setCell ⟨w.heap.size, k * 10 + 1, none⟩ (.string name)).setCell ⟨w.heap.size, k * 10 + 2, none⟩ (.string qual)).setCell ⟨w.heap.size, k * 10 + 3, none⟩ (.int .i64 n)).setCell ⟨w.heap.size, k * 10 + 4, none⟩ (.int .i64 m)).setCell ⟨w.heap.size, k * 10 + 5, none⟩ (.int .i64 vk)).setCell ⟨w.heap.size, k * 10 + 6, none⟩ (.int .i64 vn)).setCell ⟨w.heap.size, k * 10 + 7, none⟩ (.string vs)).setCell ⟨w.heap.size, k * 10 + 8, none⟩ (.slice xa kids.length xc)).setCell ⟨w.heap.size, k * 10 + 9, none⟩ (.int .i64 pos)) w.heap.size 46 10 (.slice (some ⟨w.heap.size, 0, none⟩) us.length us.length) us.length (setN xs k ⟨op, name, qual, n, m, vk, vn, vs, kids, pos⟩ (.slice xa kids.length xc))) := ((((((((((ho1.stored (k * 10) (.int .i64 op)).1.stored (k * 10 + 1) (.string name)).1.stored (k * 10 + 2) (.string qual)).1.stored (k * 10 + 3) (.int .i64 n)).1.stored (k * 10 + 4) (.int .i64 m)).1.stored (k * 10 + 5) (.int .i64 vk)).1.stored (k * 10 + 6) (.int .i64 vn)).1.stored (k * 10 + 7) (.string vs)).1.stored (k * 10 + 8) (.slice xa kids.length xc)).1.stored (k * 10 + 9) (.int .i64 pos)).1
      have HK : Hid (∀ v ks, RIB (w.heap.size + 1) w2 v ks → RIB (w.heap.size + 1) ((((((((((w2.setCell ⟨w.heap.size, k * 10, none⟩ (.int .i64 op)).setCell ⟨w.heap.size, k * 10 + 1, none⟩ (.string name)).setCell ⟨w.heap.size, k * 10 + 2, none⟩ (.string qual)).setCell ⟨w.heap.size, k * 10 + 3, none⟩ (.int .i64 n)).setCell ⟨w.heap.size, k * 10 + 4, none⟩ (.int .i64 m)).setCell ⟨w.heap.size, k * 10 + 5, none⟩ (.int .i64 vk)).setCell ⟨w.heap.size, k * 10 + 6, none⟩ (.int .i64 vn)).setCell ⟨w.heap.size, k * 10 + 7, none⟩ (.string vs)).setCell ⟨w.heap.size, k * 10 + 8, none⟩ (.slice xa kids.length xc)).setCell ⟨w.heap.size, k * 10 + 9, none⟩ (.int .i64 pos)) v ks) := (fun v ks h => by
        repeat (first | with_reducible exact h | (with_reducible refine RIB.set ?_ ?_; rotate_left; omega)) : ∀ v ks, RIB (w.heap.size + 1) w2 v ks → RIB (w.heap.size + 1) ((((((((((w2.setCell ⟨w.heap.size, k * 10, none⟩ (.int .i64 op)).setCell ⟨w.heap.size, k * 10 + 1, none⟩ (.string name)).setCell ⟨w.heap.size, k * 10 + 2, none⟩ (.string qual)).setCell ⟨w.heap.size, k * 10 + 3, none⟩ (.int .i64 n)).setCell ⟨w.heap.size, k * 10 + 4, none⟩ (.int .i64 m)).setCell ⟨w.heap.size, k * 10 + 5, none⟩ (.int .i64 vk)).setCell ⟨w.heap.size, k * 10 + 6, none⟩ (.int .i64 vn)).setCell ⟨w.heap.size, k * 10 + 7, none⟩ (.string vs)).setCell ⟨w.heap.size, k * 10 + 8, none⟩ (.slice xa kids.length xc)).setCell ⟨w.heap.size, k * 10 + 9, none⟩ (.int .i64 pos)) v ks)
      have HS : Hid (FillN (w.heap.size + 1) us (k + 1) (setN xs k ⟨op, name, qual, n, m, vk, vn, vs, kids, pos⟩ (.slice xa kids.length xc)) ((((((((((w2.setCell ⟨w.heap.size, k * 10, none⟩ (.int .i64 op)).setCell ⟨w.heap.size, k * 10 + 1, none⟩ (.string name)).setCell ⟨w.heap.size, k * 10 + 2, none⟩ (.string qual)).setCell ⟨w.heap.size, k * 10 + 3, none⟩ (.int .i64 n)).setCell ⟨w.heap.size, k * 10 + 4, none⟩ (.int .i64 m)).setCell ⟨w.heap.size, k * 10 + 5, none⟩ (.int .i64 vk)).setCell ⟨w.heap.size, k * 10 + 6, none⟩ (.int .i64 vn)).setCell ⟨w.heap.size, k * 10 + 7, none⟩ (.string vs)).setCell ⟨w.heap.size, k * 10 + 8, none⟩ (.slice xa kids.length xc)).setCell ⟨w.heap.size, k * 10 + 9, none⟩ (.int .i64 pos))) := HST.out _ _ (fun v ks h => HK.out v ks (h.below hb1)) (HK.out _ _ (hR.mono (by omega)))
      have HBX : Hid (Below w.heap.size w ((((((((((w2.setCell ⟨w.heap.size, k * 10, none⟩ (.int .i64 op)).setCell ⟨w.heap.size, k * 10 + 1, none⟩ (.string name)).setCell ⟨w.heap.size, k * 10 + 2, none⟩ (.string qual)).setCell ⟨w.heap.size, k * 10 + 3, none⟩ (.int .i64 n)).setCell ⟨w.heap.size, k * 10 + 4, none⟩ (.int .i64 m)).setCell ⟨w.heap.size, k * 10 + 5, none⟩ (.int .i64 vk)).setCell ⟨w.heap.size, k * 10 + 6, none⟩ (.int .i64 vn)).setCell ⟨w.heap.size, k * 10 + 7, none⟩ (.string vs)).setCell ⟨w.heap.size, k * 10 + 8, none⟩ (.slice xa kids.length xc)).setCell ⟨w.heap.size, k * 10 + 9, none⟩ (.int .i64 pos))) := ((by (go_light; repeat (first | with_reducible assumption | with_reducible exact Below.refl _ _ | (with_reducible refine Below.setCell ?_ ?_ _; rotate_left; (focus first | (simp; done) | (simp; omega) | omega)) | (with_reducible refine Below.alloc ?_ ?_ _; rotate_left; (focus first | (simp; done) | (simp; omega) | omega)) | with_reducible refine Below.drew ?_))) : Below w.heap.size w ((((((((((w2.setCell ⟨w.heap.size, k * 10, none⟩ (.int .i64 op)).setCell ⟨w.heap.size, k * 10 + 1, none⟩ (.string name)).setCell ⟨w.heap.size, k * 10 + 2, none⟩ (.string qual)).setCell ⟨w.heap.size, k * 10 + 3, none⟩ (.int .i64 n)).setCell ⟨w.heap.size, k * 10 + 4, none⟩ (.int .i64 m)).setCell ⟨w.heap.size, k * 10 + 5, none⟩ (.int .i64 vk)).setCell ⟨w.heap.size, k * 10 + 6, none⟩ (.int .i64 vn)).setCell ⟨w.heap.size, k * 10 + 7, none⟩ (.string vs)).setCell ⟨w.heap.size, k * 10 + 8, none⟩ (.slice xa kids.length xc)).setCell ⟨w.heap.size, k * 10 + 9, none⟩ (.int .i64 pos)))
      clear HST HK hR hb1 hcn c0 c1 c2 c3 c4 c5 c6 c7 c8 c9 hK1 ho ho1 hy0 hy1 hy2 hy3 hy4 hy5 hy6 hy7 hy8 hy9 hxl
      go_wp2
      go_roundw
      case rel => exact ⟨k + 1, _, by omega, by go_num, HS, HO2.out, HBX.out⟩
      case measure => simp [intOf]; omega
    · have hkn : k = us.length := by omega
      subst hkn
      have hlti : ¬ (us.length : Int) < us.length := by omega
      go_wp2
      go_ret
      refine ⟨rfl, ?_, hbel⟩
      refine ⟨_, _, rfl, fun hp => ⟨w.heap.size, 0, rfl, Nat.le_refl _, (ho.lt _ rfl).2, fun i hi => ?_⟩⟩
      obtain ⟨kv, q, r⟩ := HF.out.2 i hi hi
      rw [Nat.zero_add]
      exact ⟨kv, ⟨own_cell ho (q 0 (by omega)), own_cell ho (q 1 (by omega)), own_cell ho (q 2 (by omega)), own_cell ho (q 3 (by omega)), own_cell ho (q 4 (by omega)), own_cell ho (q 5 (by omega)), own_cell ho (q 6 (by omega)), own_cell ho (q 7 (by omega)), own_cell ho (q 8 (by omega)), own_cell ho (q 9 (by omega))⟩, r.mono (by omega)⟩
/-- Numbers that a slice leads to, with room for them. -/
def RIK (w : World) (v : Value) (ks : List Int) : Prop :=
  ∃ a cap, v = .slice a ks.length cap ∧ ks.length ≤ cap ∧ (0 < ks.length → ∃ g o, a = some ⟨g, o, none⟩ ∧ g < w.heap.size ∧ ∀ i (h : i < ks.length), w.cell? ⟨g, o + i, none⟩ = some (.int .i64 ks[i]))
theorem RIK.ri {w : World} {v : Value} {ks : List Int} (h : RIK w v ks) : RI w v ks := by
  obtain ⟨a, cap, rfl, _, h2⟩ := h
  exact ⟨a, cap, rfl, h2⟩
theorem RIK.below {w w' : World} {v : Value} {ks : List Int} (h : RIK w v ks) (hb : Below w.heap.size w w') : RIK w' v ks := by
  obtain ⟨a, cap, rfl, hcp, h2⟩ := h
  refine ⟨a, cap, rfl, hcp, fun hp => ?_⟩
  obtain ⟨g, o, ha, hg, hc⟩ := h2 hp
  exact ⟨g, o, ha, Nat.lt_of_lt_of_le hg hb.size, fun i hi => (hb.cell (p := ⟨g, o + i, none⟩) hg).trans (hc i hi)⟩
theorem RIB.rik {B : Nat} {w : World} {v : Value} {ks : List Int} (h : RIB B w v ks) : RIK w v ks := by
  obtain ⟨a, cap, rfl, hcp, h2⟩ := h
  exact ⟨a, cap, rfl, hcp, fun hp => let ⟨g, o, ha, _, hg, hc⟩ := h2 hp; ⟨g, o, ha, hg, hc⟩⟩
def RNK (w : World) (v : Value) (ts : List Nd) : Prop :=
  ∃ a cap, v = .slice a ts.length cap ∧ (0 < ts.length → ∃ g o, a = some ⟨g, o, none⟩ ∧ g < w.heap.size ∧ ∀ i (h : i < ts.length), ∃ kv, NodeAt w g (o + i * 10) ts[i] kv ∧ RIK w kv ts[i].kids)
theorem RNK.rn {w : World} {v : Value} {ts : List Nd} (h : RNK w v ts) : RN w v ts := by
  obtain ⟨a, cap, rfl, h2⟩ := h
  refine ⟨a, cap, rfl, fun hp => ?_⟩
  obtain ⟨g, o, ha, hg, hc⟩ := h2 hp
  exact ⟨g, o, ha, hg, fun i hi => let ⟨kv, a, b⟩ := hc i hi; ⟨kv, a, b.ri⟩⟩
theorem RNK.below {w w' : World} {v : Value} {ts : List Nd} (h : RNK w v ts) (hb : Below w.heap.size w w') : RNK w' v ts := by
  obtain ⟨a, cap, rfl, h2⟩ := h
  refine ⟨a, cap, rfl, fun hp => ?_⟩
  obtain ⟨g, o, ha, hg, hc⟩ := h2 hp
  refine ⟨g, o, ha, Nat.lt_of_lt_of_le hg hb.size, fun i hi => ?_⟩
  obtain ⟨kv, h3, h4⟩ := hc i hi
  exact ⟨kv, h3.below hb hg, h4.below hb⟩
theorem RNB.rnk {B : Nat} {w : World} {v : Value} {ts : List Nd} (h : RNB B w v ts) : RNK w v ts := by
  obtain ⟨a, cap, rfl, h2⟩ := h
  refine ⟨a, cap, rfl, fun hp => ?_⟩
  obtain ⟨g, o, ha, _, hg, hc⟩ := h2 hp
  exact ⟨g, o, ha, hg, fun i hi => let ⟨kv, a, b⟩ := hc i hi; ⟨kv, a, b.rik⟩⟩
set_option maxHeartbeats 4000000 in
theorem toTree_any (la : Option Addr) (lc : Nat) (us : List Nd) (w : World) (hn : us.length ≤ 1048576) (hz : ∀ t ∈ us, t.kids.length ≤ 1048576) (hv : RN w (.slice la us.length lc) us) :
    Calls Tryd.prog 12 #[.agg #[.slice la us.length lc]] w fun e w' => ∃ a, e = .returned (.agg #[.slice a us.length us.length]) ∧ RNK w' (.slice a us.length us.length) us ∧ Below w.heap.size w w' := by
  go_enter Tryd.func12, Tryd.ntmps12
  go_wp2_with (go_at_call 28; fail)
  refine (toNodeS_any la lc us _ hn hz (hv.below (by (go_light; repeat (first | with_reducible assumption | with_reducible exact Below.refl _ _ | (with_reducible refine Below.setCell ?_ ?_ _; rotate_left; (focus first | (simp; done) | (simp; omega) | omega)) | (with_reducible refine Below.alloc ?_ ?_ _; rotate_left; (focus first | (simp; done) | (simp; omega) | omega)) | with_reducible refine Below.drew ?_))))).mono ?_
  rintro e w1 ⟨rfl, hr1, hb1⟩
  obtain ⟨hc1, hf1⟩ := bcell hb1
  have hz1 := hb1.size
  simp at hz1
  have b1 : Below w.heap.size w w1 := Below.trans (by (go_light; repeat (first | with_reducible assumption | with_reducible exact Below.refl _ _ | (with_reducible refine Below.setCell ?_ ?_ _; rotate_left; (focus first | (simp; done) | (simp; omega) | omega)) | (with_reducible refine Below.alloc ?_ ?_ _; rotate_left; (focus first | (simp; done) | (simp; omega) | omega)) | with_reducible refine Below.drew ?_))) (hb1.mono (by simp; omega))
  have hy0 : w.heap.size < w1.heap.size := by omega
  have hy1 : w.heap.size + 1 < w1.heap.size := by omega
  have hy2 : w.heap.size + 1 + 1 < w1.heap.size := by omega
  have HR : Hid (RNB (w.heap.size + 1 + 1 + 1) w1 (.slice (some ⟨w.heap.size + 1 + 1 + 1, 0, none⟩) us.length us.length) us) := (by simpa using hr1 : RNB (w.heap.size + 1 + 1 + 1) w1 (.slice (some ⟨w.heap.size + 1 + 1 + 1, 0, none⟩) us.length us.length) us)
  clear hr1 hb1
  go_wp2
  refine bodyPost_ret (v := .agg #[.slice (some ⟨w.heap.size + 1 + 1 + 1, 0, none⟩) us.length us.length]) (by simp [results, Tryd.results12, go_sem, hc1, hf1, hy0, hy1, hy2]) rfl ⟨_, rfl, ?_, ?_⟩
  · refine RNB.rnk (B := w.heap.size + 1 + 1 + 1) ?_
    repeat (first | with_reducible exact HR.out | (with_reducible refine RNB.set ?_ ?_; rotate_left; omega))
  · exact (by (go_light; repeat (first | with_reducible assumption | with_reducible exact Below.refl _ _ | (with_reducible refine Below.setCell ?_ ?_ _; rotate_left; (focus first | (simp; done) | (simp; omega) | omega)) | (with_reducible refine Below.alloc ?_ ?_ _; rotate_left; (focus first | (simp; done) | (simp; omega) | omega)) | with_reducible refine Below.drew ?_)))
end K
end Go.Proofs.YtghdjagomdgnfaaDoor
