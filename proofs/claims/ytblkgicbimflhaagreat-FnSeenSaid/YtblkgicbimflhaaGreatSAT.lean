import Derived.Test.YtblkgicbimflhaaGreatSAS
import Derived.Laws.StructEq
import Derived.Maps.RangeWalk
namespace Go.Proofs.YtblkgicbimflhaaGreat
open Go.ChangeShapes Go.WideShapes Go.ChangeAt Go.RowKit
set_option linter.unusedVariables false
set_option linter.unusedSimpArgs false
set_option maxRecDepth 100000
set_option maxHeartbeats 16000000
def posN (ks : List Int) (x : Int) : Nat := ks.countP (· < x)
theorem posN_le (ks : List Int) (x : Int) : posN ks x <= ks.length := List.countP_le_length
theorem own_cells {B e K n : Nat} {w : World} {v : Value} {xs : List Value} (h : w.ownsRow B e K v n xs) {g : Nat} {c : Nat} (hv : v = .slice (some ⟨g, 0, none⟩) n c) {j : Nat} {u : Value} (hj : xs[j]? = some u) : w.cell? ⟨g, j, none⟩ = some u := by
 rcases h.2 with ⟨h1, h2⟩ | ⟨g', cap, cur, h1, h2, h3, h4, h5, h6, h7⟩
 .rw [hv] at h1; cases h1
 .rw [hv] at h1
  injection h1 with h1 _ hc
  injection h1 with h1
  injection h1 with h1 _ _
  subst h1
  rw [<- h7, List.getElem?_take] at hj
  split at hj
  .simp only [World.cell?, h3]
   rw [<- Array.getElem?_toList]
   exact hj
  .cases hj
theorem own_unfro {B e K n : Nat} {w : World} {v : Value} {xs : List Value} (h : w.ownsRow B e K v n xs) {g : Nat} {c : Nat} (hv : v = .slice (some ⟨g, 0, none⟩) n c) (j : Nat) : w.frozen? ⟨g, j, none⟩ = false := by
 rcases h.2 with ⟨h1, h2⟩ | ⟨g', cap, cur, h1, h2, h3, h4, h5, h6, h7⟩
 .rw [hv] at h1; cases h1
 .rw [hv] at h1
  injection h1 with h1 _ hc
  injection h1 with h1
  injection h1 with h1 _ _
  subst h1
  simp [World.frozen?, h3]
theorem own_shape {B e K n : Nat} {w : World} {v : Value} {xs : List Value} (h : w.ownsRow B e K v n xs) (hn : 0 < n) : ∃ g c, v = .slice (some ⟨g, 0, none⟩) n c /\ n <= c /\ c <= maxLen /\ g < w.heap.size := by
 rcases h.2 with ⟨h1, h2⟩ | ⟨g', cap, cur, h1, h2, h3, h4, h5, h6, h7⟩
 .omega
 .exact ⟨g', cap, h1, h4, h5, (Array.getElem?_eq_some_iff.1 h3).1⟩
theorem bin_any (B : Nat) (v : Value) (ks : List Int) (x : Int) (w : World) (hrow : w.ownsRow B 3 1 v ks.length (ks.map (Value.int .i64))) (hs : ks.Pairwise (· < ·)) (hn : ks.length <= 1048576) :
 Calls Tryz.prog 82 #[v, .int .i64 x] w fun e w' => e = .returned (.tuple #[.int .i64 (posN ks x : Nat), .bool (ks.contains x)]) /\ ∃ q, w' = w.drewN q := by
 rcases Nat.eq_zero_or_pos ks.length with h0 | hp
 .obtain ⟨a, c, hv⟩ := formR hrow
  have hk : ks = [] := List.length_eq_zero_iff.1 h0
  subst hk
  subst hv
  refine (Tryz.slices_BinarySearch_int_empty a c x w).mono ?_
  rintro e w' ⟨rfl, rfl⟩
  exact ⟨rfl, 0, rfl⟩
 .obtain ⟨g, c, hv, hnc, hcm, hgl⟩ := own_shape hrow hp
  have hc : ∀ j, j < ks.length -> w.cell? ⟨g, 0 + j, none⟩ = some (.int .i64 (ks.getD j 0)) := fun j hj => by
   rw [Nat.zero_add]
   refine own_cells hrow hv ?_
   rw [List.getElem?_map, List.getElem?_eq_getElem hj, List.getD_eq_getElem?_getD, List.getElem?_eq_getElem hj]
   rfl
  have h := Tryz.slices_BinarySearch_int g 0 ks.length c ks x w (Nat.le_refl _) (by omega) hc (by rw [List.take_length]; exact hs.imp (fun h => Int.le_of_lt h))
  rw [List.take_length] at h
  rw [hv]
  exact h
theorem ins_int (B n i : Nat) (v : Value) (xs vs : List Value) (vb : Nat) (w : World) (hrow : w.ownsRow B 3 1 v n xs) (hi : i <= n) (hn : n <= 1048576) (hvl : vs.length = 1) (hvk : w.heap[vb]? = some (.cells vs.toArray 3 (0, 0))) (hv1 : ∀ u ∈ vs, u.oneCell' = true) (hx1 : ∀ u ∈ xs, u.oneCell' = true) (hvb : v.ownBlock ≠ some vb) (hB : B <= w.heap.size) :
 Calls Tryz.prog 85 #[v, .int .i64 (i : Int), .slice (some ⟨vb, 0, none⟩) 1 1] w fun en w' => InsP B 3 1 w v n (xs.take (i * 1) ++ vs ++ xs.drop (i * 1)) en w' := by
 by_cases hin : i = n
 .subst hin
  have h := ins_int_end B i v xs vs vb w hrow hn hvl hvk hv1 hB
  rw [List.take_of_length_le (Nat.le_of_eq hrow.1), List.drop_of_length_le (Nat.le_of_eq hrow.1), List.append_nil]
  exact h
 .obtain ⟨g, c, hv, hnc, hcm, hgl⟩ := own_shape hrow (by omega)
  have hne : vb ≠ g := fun z => hvb (by rw [hv, z]; rfl)
  by_cases hr : n + 1 <= c
  .exact ins_int_shift B n i v xs vs vb g c w hv (by omega) hr hrow hn hvl hvk hv1 hx1 hne
  .exact ins_int_grow B n i v xs vs vb g c w hv (by omega) (by omega) hrow hn hvl hvk hv1 hx1 hne hB
theorem ins_vss (B n i : Nat) (v : Value) (xs vs : List Value) (vb : Nat) (w : World) (hrow : w.ownsRow B 155 2 v n xs) (hi : i <= n) (hn : n <= 1048576) (hvl : vs.length = 2) (hvk : w.heap[vb]? = some (.cells vs.toArray 155 (0, 0))) (hv1 : ∀ u ∈ vs, u.oneCell' = true) (hx1 : ∀ u ∈ xs, u.oneCell' = true) (hvb : v.ownBlock ≠ some vb) (hB : B <= w.heap.size) :
 Calls Tryz.prog 105 #[v, .int .i64 (i : Int), .slice (some ⟨vb, 0, none⟩) 1 1] w fun en w' => InsP B 155 2 w v n (xs.take (i * 2) ++ vs ++ xs.drop (i * 2)) en w' := by
 by_cases hin : i = n
 .subst hin
  have h := ins_vss_end B i v xs vs vb w hrow hn hvl hvk hv1 hB
  rw [List.take_of_length_le (Nat.le_of_eq hrow.1), List.drop_of_length_le (Nat.le_of_eq hrow.1), List.append_nil]
  exact h
 .obtain ⟨g, c, hv, hnc, hcm, hgl⟩ := own_shape hrow (by omega)
  have hne : vb ≠ g := fun z => hvb (by rw [hv, z]; rfl)
  by_cases hr : n + 1 <= c
  .exact ins_vss_shift B n i v xs vs vb g c w hv (by omega) hr hrow hn hvl hvk hv1 hx1 hne
  .exact ins_vss_grow B n i v xs vs vb g c w hv (by omega) (by omega) hrow hn hvl hvk hv1 hx1 hne hB
structure Fr (S : Nat -> Prop) (w w' : World) : Prop where
 os : w'.os = w.os
 tape : w'.tape = w.tape
 output : w'.output = w.output
 size : w.heap.size <= w'.heap.size
 block : ∀ g, g < w.heap.size -> ¬ S g -> w'.heap[g]? = w.heap[g]?
theorem Fr.refl (S : Nat -> Prop) (w : World) : Fr S w w := ⟨rfl, rfl, rfl, Nat.le_refl _, fun _ _ _ => rfl⟩
theorem Fr.trans {S : Nat -> Prop} {w w' w'' : World} (h : Fr S w w') (k : Fr S w' w'') : Fr S w w'' := ⟨k.os.trans h.os, k.tape.trans h.tape, k.output.trans h.output, Nat.le_trans h.size k.size, fun g hg hn => (k.block g (Nat.lt_of_lt_of_le hg h.size) hn).trans (h.block g hg hn)⟩
theorem Fr.then {S T : Nat -> Prop} {w w' w'' : World} (h : Fr S w w') (k : Fr T w' w'') (hT : ∀ g, T g -> S g \/ w.heap.size <= g) : Fr S w w'' := ⟨k.os.trans h.os, k.tape.trans h.tape, k.output.trans h.output, Nat.le_trans h.size k.size, fun g hg hn => (k.block g (Nat.lt_of_lt_of_le hg h.size) (fun z => by
 rcases hT g z with q | q
 .exact hn q
 .omega)).trans (h.block g hg hn)⟩
theorem Fr.mono {S T : Nat -> Prop} {w w' : World} (h : Fr S w w') (hT : ∀ g, S g -> T g) : Fr T w w' := ⟨h.os, h.tape, h.output, h.size, fun g hg hn => h.block g hg (fun z => hn (hT g z))⟩
theorem Fr.of_below (S : Nat -> Prop) {w w' : World} (h : Below w.heap.size w w') : Fr S w w' := ⟨h.os, h.tape, h.output, h.size, fun g hg _ => h.block g hg⟩
theorem Fr.grown {w w' : World} {row : Option Nat} (h : w.grownBy w' row) : Fr (fun g => row = some g) w w' := ⟨h.os, h.tape, h.output, h.size, fun g hg hn => h.block g hg (fun z => hn z.symm)⟩
theorem Fr.setCell (w : World) (b j : Nat) (u : Value) : Fr (fun g => g = b) w (w.setCell ⟨b, j, none⟩ u) := by
 have h := (Below.refl 0 w).setCell (p := ⟨b, j, none⟩) (Nat.zero_le _) u
 exact ⟨h.os, h.tape, h.output, h.size, fun g _ hn => heap_setCell_other w _ g u (fun e => hn e)⟩
theorem Fr.below {S : Nat -> Prop} {B : Nat} {w w' : World} (h : Fr S w w') (hB : B <= w.heap.size) (hS : ∀ g, S g -> B <= g) : Below B w w' := ⟨h.os, h.tape, h.output, h.size, fun g hg => h.block g (by omega) (fun z => by have := hS g z; omega)⟩
theorem own_fr {S : Nat -> Prop} {w w' : World} {b e k n : Nat} {v : Value} {xs : List Value} (h : w.ownsRow b e k v n xs) (hk : Fr S w w') (hS : ∀ g, v.ownBlock = some g -> ¬ S g) : w'.ownsRow b e k v n xs := by
 obtain ⟨h1, h2⟩ := h
 refine ⟨h1, ?_⟩
 rcases h2 with h2 | ⟨g, cap, cur, rfl, hg1, hg2, hg3⟩
 .exact .inl h2
 .exact .inr ⟨g, cap, cur, rfl, hg1, by rw [hk.block g (Array.getElem?_eq_some_iff.1 hg2).1 (hS g rfl)]; exact hg2, hg3⟩
theorem Blk.fr {S : Nat -> Prop} {w w' : World} {b : Nat} {cs : List Value} (h : Blk w b cs) (hk : Fr S w w') (hb : b < w.heap.size) (hS : ¬ S b) : Blk w' b cs := fun j hj => by
 have he : w'.heap[(⟨b, j, none⟩ : Addr).block]? = w.heap[(⟨b, j, none⟩ : Addr).block]? := hk.block b hb hS
 exact ⟨(World.cell?_of_block he).trans (h j hj).1, (World.frozen?_of_block he).trans (h j hj).2⟩
structure PutR (B b o e K : Nat) (w : World) (cs : List Value) (kv vv : Value) (ks' : List Int) (ys : List Value) (w' : World) (kv' vv' : Value) : Prop where
 bk : Blk w' b ((cs.set o kv').set (o + 1) vv')
 kr : w'.ownsRow B 3 1 kv' ks'.length (ks'.map (Value.int .i64))
 vr : w'.ownsRow B e K vv' ks'.length ys
 fr : Fr (fun g => g = b \/ kv.ownBlock = some g \/ vv.ownBlock = some g) w w'
 kn : ∀ g, kv'.ownBlock = some g -> kv.ownBlock = some g \/ w.heap.size <= g
 vn : ∀ g, vv'.ownBlock = some g -> vv.ownBlock = some g \/ w.heap.size <= g
 ds : ∀ g, kv'.ownBlock = some g -> vv'.ownBlock ≠ some g
def PutP (B b o e K : Nat) (w : World) (cs : List Value) (kv vv : Value) (ks' : List Int) (ys : List Value) (en : Ending) (w' : World) : Prop := ∃ kv' vv' r, en = .returned r /\ PutR B b o e K w cs kv vv ks' ys w' kv' vv'
theorem posN_at {ks : List Int} {x : Int} (hs : ks.Pairwise (· < ·)) (hx : x ∈ ks) : ks[posN ks x]? = some x := by
 induction ks with
 | nil => cases hx
 | cons y r ih =>
   obtain ⟨h1, h2⟩ := List.pairwise_cons.1 hs
   unfold posN
   rcases List.mem_cons.1 hx with e | e
   .subst e
    have hz : r.countP (· < x) = 0 := List.countP_eq_zero.2 (fun a ha => by have := h1 a ha; simp; omega)
    rw [List.countP_cons, hz]
    simp
   .have hlt := h1 x e
    rw [List.countP_cons]
    simp only [hlt, decide_true, if_true]
    rw [List.getElem?_cons_succ]
    exact ih h2 e
theorem posN_lt {ks : List Int} {x : Int} (hs : ks.Pairwise (· < ·)) (hx : x ∈ ks) : posN ks x < ks.length := (List.getElem?_eq_some_iff.1 (posN_at hs hx)).1
theorem own_at2 {B e n : Nat} {w : World} {v : Value} {α : Type} {f : α -> List Value} {us : List α} (hf : ∀ u, (f u).length = 2) (h : w.ownsRow B e 2 v n (us.flatMap f)) {g c : Nat} (hv : v = .slice (some ⟨g, 0, none⟩) n c) {j : Nat} (hj : j < us.length) : w.cell? ⟨g, j * 2, none⟩ = (f us[j])[0]? /\ w.cell? ⟨g, j * 2 + 1, none⟩ = (f us[j])[1]? := by
 have key : ∀ (us : List α) (j : Nat) (hj : j < us.length) (t : Nat), t < 2 -> (us.flatMap f)[j * 2 + t]? = (f us[j])[t]? := by
  intro us
  induction us with
  | nil => intro j hj; cases hj
  | cons a r ih =>
    intro j hj t ht
    rw [List.flatMap_cons]
    cases j with
    | zero =>
      rw [List.getElem?_append_left (by rw [hf]; omega)]
      simp
    | succ j =>
      rw [List.getElem?_append_right (by rw [hf]; omega), hf, show (j + 1) * 2 + t - 2 = j * 2 + t by omega]
      exact ih j (by simpa using hj) t ht
 have h0 := key us j hj 0 (by omega)
 have h1 := key us j hj 1 (by omega)
 have hl := hf us[j]
 refine ⟨?_, ?_⟩
 .have e : (f us[j])[0]? = some ((f us[j])[0]'(by omega)) := List.getElem?_eq_getElem (by omega)
  rw [e] at h0 ⊢
  exact own_cells h hv h0
 .have e : (f us[j])[1]? = some ((f us[j])[1]'(by omega)) := List.getElem?_eq_getElem (by omega)
  rw [e] at h1 ⊢
  exact own_cells h hv h1
theorem under_any (B b o : Nat) (kv vv : Value) (ks : List Int) (f : Int -> Value × Value) (x : Int) (w : World) (hbl : b < w.heap.size) (c0 : w.cell? ⟨b, o, none⟩ = some kv) (c1 : w.cell? ⟨b, o + 1, none⟩ = some vv) (hK : w.ownsRow B 3 1 kv ks.length (ks.map (Value.int .i64))) (hV : w.ownsRow B 155 2 vv ks.length (ks.flatMap (fun y => [(f y).1, (f y).2]))) (hs : ks.Pairwise (· < ·)) (hn : ks.length <= 1048576) (hf : ∀ y, ¬ y ∈ ks -> f y = (.slice none 0 0, .slice none 0 0)) (hff : ∀ y, (∃ a n c, (f y).1 = .slice a n c) /\ ∃ a n c, (f y).2 = .slice a n c) :
 Calls Tryz.prog 81 #[.pointer (some ⟨b, o, none⟩), .int .i64 x] w fun e w' => e = .returned (.agg #[(f x).1, (f x).2]) /\ Below w.heap.size w w' := by
 have hb0 := below_alloc w (.cells #[.slice none 0 0, .slice none 0 0] 155)
 have hbin := bin_any B kv ks x _ (own_below hK hb0) hs hn
 have hpl := posN_le ks x
 have k0 : Hid (Blk (w.alloc (.cells #[.slice none 0 0, .slice none 0 0] 155)) w.heap.size [.slice none 0 0, .slice none 0 0]) := blk_new w [.slice none 0 0, .slice none 0 0] 155
 obtain ⟨ka, kc, hkf⟩ := formR hK
 obtain ⟨va, vc, hvf⟩ := formR hV
 obtain ⟨⟨a1, n1, q1, e1⟩, a2, n2, q2, e2⟩ := hff x
 cases hx : ks.contains x
 .have hnx : ¬ x ∈ ks := fun z => by rw [List.contains_iff_mem.2 z] at hx; cases hx
  have hfx := hf x hnx
  rw [hfx]
  rw [hx] at hbin
  subst hkf hvf
  clear hK hV hf hff
  go_enter Tryz.func81, Tryz.ntmps81
  go_wp2_with (go_at_call 82; fail)
  refine hbin.mono ?_
  rintro e w1 ⟨rfl, q, hq⟩
  have b1 : Below w.heap.size w w1 := hb0.trans (by rw [hq]; exact (below_drewNt _ q).mono (by simp))
  have hz1 : w1.heap.size = w.heap.size + 1 := by rw [hq]; show (w.alloc _).heap.size = _; simp
  have KQ : Blk w1 w.heap.size [.slice none 0 0, .slice none 0 0] := k0.out.below (by rw [hq]; exact below_drewNt _ q) (by simp)
  obtain ⟨⟨r0, s0⟩, ⟨r1, s1⟩⟩ := kb1 KQ
  have hl : w.heap.size < w1.heap.size := by omega
  have HB := hid b1
  clear hq hbin KQ k0 b1 hb0
  go_wp2
  refine bodyPost_ret (v := .agg #[.slice none 0 0, .slice none 0 0]) (by simp [results, Tryz.results81, go_sem, r0, r1, s0, s1, hl]) rfl ?_
  refine ⟨rfl, ?_⟩
  have HB2 := HB.out
  exact bl
 .have hmx : x ∈ ks := List.contains_iff_mem.1 hx
  have hp := posN_lt hs hmx
  have hat := posN_at hs hmx
  have hg0 : ks[posN ks x] = x := by rw [List.getElem?_eq_getElem hp] at hat; injection hat
  obtain ⟨g, c, hgv, hgc, hgm, hgl⟩ := own_shape hV (by omega)
  have hcc := own_at2 (f := fun y => [(f y).1, (f y).2]) (fun _ => rfl) hV hgv hp
  rw [hg0] at hcc
  have d0 : w.cell? ⟨g, posN ks x * 2, none⟩ = some (f x).1 := hcc.1
  have d1 : w.cell? ⟨g, posN ks x * 2 + 1, none⟩ = some (f x).2 := hcc.2
  rw [hx] at hbin
  subst hkf
  rw [hgv] at c1
  rw [e1] at d0 ⊢
  rw [e2] at d1 ⊢
  obtain ⟨p, hpp⟩ : ∃ p, p = posN ks x := ⟨_, rfl⟩
  rw [<- hpp] at hbin hp d0 d1
  have hpi : (p : Int) < (ks.length : Int) := by omega
  clear hcc hat hg0 hpp hK hV hf hff hgv hvf hpl
  go_enter Tryz.func81, Tryz.ntmps81
  go_wp2_with (go_at_call 82; fail)
  refine hbin.mono ?_
  rintro e w1 ⟨rfl, q, hq⟩
  have hbq : Below (w.alloc (.cells #[.slice none 0 0, .slice none 0 0] 155)).heap.size (w.alloc (.cells #[.slice none 0 0, .slice none 0 0] 155)) w1 := by rw [hq]; exact below_drewNt _ q
  have b1 : Below w.heap.size w w1 := hb0.trans (hbq.mono (by simp))
  have hz1 : w1.heap.size = w.heap.size + 1 := by rw [hq]; show (w.alloc _).heap.size = _; simp
  have KQ : Blk w1 w.heap.size [.slice none 0 0, .slice none 0 0] := k0.out.below hbq (by simp)
  obtain ⟨⟨r0, s0⟩, ⟨r1, s1⟩⟩ := kb1 KQ
  have j1 : w1.cell? ⟨b, o + 1, none⟩ = some (.slice (some ⟨g, 0, none⟩) ks.length c) := ct b1 hbl c1
  have j2 : w1.cell? ⟨g, p * 2, none⟩ = some (.slice a1 n1 q1) := ct b1 hgl d0
  have j3 : w1.cell? ⟨g, p * 2 + 1, none⟩ = some (.slice a2 n2 q2) := ct b1 hgl d1
  have hl : w.heap.size < w1.heap.size := by omega
  have HB := hid b1
  clear hq hbq hbin KQ k0 b1 hb0 c0 c1 d0 d1
  go_wp2
  refine bodyPost_ret (v := .agg #[.slice a1 n1 q1, .slice a2 n2 q2]) (by simp [results, Tryz.results81, go_sem, r0, r1, s0, s1, j2, j3, hl]) rfl ?_
  refine ⟨rfl, ?_⟩
  have HB2 := HB.out
  exact bl
abbrev Ver := Int × Int × Bool
def verV (v : Ver) : List Value := [.int .i64 v.2.1, .bool v.2.2]
def verAt (vs : List Ver) (k : Int) : Int × Bool := match (vs.filter (fun v => decide (v.1 <= k))).getLast? with
 | some v => v.2
 | none => (0, false)
theorem filt_take (k : Int) : ∀ vs : List Ver, (vs.map (·.1)).Pairwise (· < ·) -> vs.filter (fun v => decide (v.1 <= k)) = vs.take (posN (vs.map (·.1)) k + if (vs.map (·.1)).contains k then 1 else 0)
 | [], _ => by simp
 | a :: r, h => by
   rw [List.map_cons] at h
   obtain ⟨h1, h2⟩ := List.pairwise_cons.1 h
   have ih := filt_take k r h2
   have hc : posN ((a :: r).map (·.1)) k = posN (r.map (·.1)) k + if a.1 < k then 1 else 0 := by
    unfold posN
    rw [List.map_cons, List.countP_cons]
    simp
   rw [hc]
   by_cases hlt : a.1 < k
   .have hne : (k == a.1) = false := beq_eq_false_iff_ne.2 (by omega)
    rw [List.filter_cons_of_pos (by simp; omega), ih, if_pos hlt, List.map_cons, List.contains_cons, hne, Bool.false_or]
    rw [show posN (r.map (·.1)) k + 1 + (if (r.map (·.1)).contains k = true then 1 else 0) = (posN (r.map (·.1)) k + if (r.map (·.1)).contains k = true then 1 else 0) + 1 by omega]
    rfl
   .have hall : ∀ v ∈ r, a.1 < v.1 := fun v hv => h1 v.1 (List.mem_map_of_mem hv)
    have hp0 : posN (r.map (·.1)) k = 0 := by
     unfold posN
     exact List.countP_eq_zero.2 (fun y hy => by have := h1 y hy; simp; omega)
    have hn : (r.map (·.1)).contains k = false := by
     cases hq : (r.map (·.1)).contains k
     .rfl
     .have := h1 k (List.contains_iff_mem.1 hq); omega
    have hf0 : r.filter (fun v => decide (v.1 <= k)) = [] := List.filter_eq_nil_iff.2 (fun v hv => by have := hall v hv; simp; omega)
    rw [hp0, if_neg hlt, List.map_cons, List.contains_cons, hn, Bool.or_false]
    by_cases he : a.1 = k
    .rw [List.filter_cons_of_pos (by simp; omega), hf0, if_pos (by simp [he])]
     rfl
    .rw [List.filter_cons_of_neg (by simp; omega), hf0, if_neg (by simp; omega)]
     rfl
theorem last_take {α : Type} (l : List α) (m : Nat) (h : m < l.length) : (l.take (m + 1)).getLast? = some l[m] := by
 rw [List.getLast?_eq_getElem?, List.length_take, Nat.min_eq_left (by omega), List.getElem?_take, if_pos (by omega), Nat.add_sub_cancel]
 exact List.getElem?_eq_getElem h
theorem ver_there {vs : List Ver} {k : Int} (hs : (vs.map (·.1)).Pairwise (· < ·)) (h : (vs.map (·.1)).contains k = true) (hp : posN (vs.map (·.1)) k < vs.length) : verAt vs k = vs[posN (vs.map (·.1)) k].2 := by
 unfold verAt
 rw [filt_take k vs hs, if_pos h, last_take _ _ hp]
theorem ver_below {vs : List Ver} {k : Int} {m : Nat} (hs : (vs.map (·.1)).Pairwise (· < ·)) (h : (vs.map (·.1)).contains k = false) (hm : posN (vs.map (·.1)) k = m + 1) (hp : m < vs.length) : verAt vs k = vs[m].2 := by
 unfold verAt
 rw [filt_take k vs hs, if_neg (by rw [h]; decide), hm, Nat.add_zero, last_take _ _ hp]
theorem ver_none {vs : List Ver} {k : Int} (hs : (vs.map (·.1)).Pairwise (· < ·)) (h : (vs.map (·.1)).contains k = false) (hm : posN (vs.map (·.1)) k = 0) : verAt vs k = (0, false) := by
 unfold verAt
 rw [filt_take k vs hs, if_neg (by rw [h]; decide), hm]
 rfl
theorem upTo_any (B b o : Nat) (kv vv : Value) (vs : List Ver) (k : Int) (w : World) (hbl : b < w.heap.size) (c0 : w.cell? ⟨b, o, none⟩ = some kv) (c1 : w.cell? ⟨b, o + 1, none⟩ = some vv) (hK : w.ownsRow B 3 1 kv vs.length ((vs.map (·.1)).map (Value.int .i64))) (hV : w.ownsRow B 121 2 vv vs.length (vs.flatMap verV)) (hs : (vs.map (·.1)).Pairwise (· < ·)) (hn : vs.length <= 1048576) :
 Calls Tryz.prog 65 #[.pointer (some ⟨b, o, none⟩), .int .i64 k] w fun e w' => e = .returned (.agg #[.int .i64 (verAt vs k).1, .bool (verAt vs k).2]) /\ Below w.heap.size w w' := by
 have hb0 := below_alloc w (.cells #[.int .i64 0, .bool false] 121)
 have hkl : (vs.map (·.1)).length = vs.length := List.length_map _
 have hK' := hK
 rw [<- hkl] at hK'
 have hbin := bin_any B kv (vs.map (·.1)) k _ (own_below hK' hb0) hs (by omega)
 have hpl := posN_le (vs.map (·.1)) k
 rw [hkl] at hpl
 have k0 : Hid (Blk (w.alloc (.cells #[.int .i64 0, .bool false] 121)) w.heap.size [.int .i64 0, .bool false]) := blk_new w [.int .i64 0, .bool false] 121
 obtain ⟨ka, kc, hkf⟩ := formR hK
 obtain ⟨va, vc, hvf⟩ := formR hV
 have hpos : (vs.map (·.1)).contains k = true -> posN (vs.map (·.1)) k < vs.length := fun h => by
  have := posN_lt hs (List.contains_iff_mem.1 h)
  rw [hkl] at this
  exact this
 obtain ⟨p, hpp⟩ : ∃ p, p = posN (vs.map (·.1)) k := ⟨_, rfl⟩
 have key : ∀ j (hj : j < vs.length), verAt vs k = vs[j].2 -> ∃ g c, vv = .slice (some ⟨g, 0, none⟩) vs.length c /\ g < w.heap.size /\ w.cell? ⟨g, j * 2, none⟩ = some (.int .i64 (verAt vs k).1) /\ w.cell? ⟨g, j * 2 + 1, none⟩ = some (.bool (verAt vs k).2) := fun j hj he => by
  obtain ⟨g, c, hgv, hgc, hgm, hgl⟩ := own_shape hV (by omega)
  have hcc := own_at2 (f := verV) (fun _ => rfl) hV hgv hj
  rw [he]
  exact ⟨g, c, hgv, hgl, hcc.1, hcc.2⟩
 have hA : (vs.map (·.1)).contains k = true -> ∃ hj : p < vs.length, verAt vs k = vs[p].2 := fun h => by
  subst hpp
  exact ⟨hpos h, ver_there hs h (hpos h)⟩
 have hBl : (vs.map (·.1)).contains k = false -> 0 < p -> ∃ hj : p - 1 < vs.length, verAt vs k = vs[p - 1].2 := fun h h0 => by
  have hj : p - 1 < vs.length := by rw [hpp]; omega
  exact ⟨hj, ver_below hs h (by rw [<- hpp]; omega) hj⟩
 have hN : (vs.map (·.1)).contains k = false -> p = 0 -> verAt vs k = (0, false) := fun h h0 => ver_none hs h (by rw [<- hpp]; exact h0)
 rw [<- hpp] at hbin hpl
 subst hkf
 clear hpos hK hK' hkl hs hpp
 obtain ⟨z, hz⟩ : ∃ z, z = verAt vs k := ⟨_, rfl⟩
 rw [<- hz] at key hA hBl hN ⊢
 clear hz
 obtain ⟨y, t⟩ := z
 simp only at key hA hBl hN ⊢
 cases hx : (vs.map (·.1)).contains k
 .rw [hx] at hbin
  rcases Nat.eq_zero_or_pos p with h0 | hp
  .have he := hN hx h0
   injection he with he1 he2
   subst he1 he2
   subst h0
   clear key hA hBl hN hx hV
   subst hvf
   have hz0 : ¬ (0 : Int) < ((0 : Nat) : Int) := by decide
   go_enter Tryz.func65, Tryz.ntmps65
   go_wp2_with (go_at_call 82; fail)
   refine hbin.mono ?_
   rintro e w1 ⟨rfl, q, hq⟩
   have hbq : Below (w.alloc (.cells #[.int .i64 0, .bool false] 121)).heap.size (w.alloc (.cells #[.int .i64 0, .bool false] 121)) w1 := by rw [hq]; exact below_drewNt _ q
   have b1 : Below w.heap.size w w1 := hb0.trans (hbq.mono (by simp))
   have hz1 : w1.heap.size = w.heap.size + 1 := by rw [hq]; show (w.alloc _).heap.size = _; simp
   have KQ : Blk w1 w.heap.size [.int .i64 0, .bool false] := k0.out.below hbq (by simp)
   obtain ⟨⟨r0, s0⟩, ⟨r1, s1⟩⟩ := kb1 KQ
   have hl : w.heap.size < w1.heap.size := by omega
   have HB := hid b1
   clear hq hbq hbin KQ k0 b1 hb0 c0 c1
   go_wp2
   all_goals first | (exfalso; go_light; omega) | skip
   refine bodyPost_ret (v := .agg #[.int .i64 0, .bool false]) (by simp [results, Tryz.results65, go_sem, r0, r1, s0, s1, hl]) rfl ?_
   refine ⟨rfl, ?_⟩
   have HB2 := HB.out
   exact bl
  .obtain ⟨hj, he⟩ := hBl hx hp
   obtain ⟨g, c, hgv, hgl, d0, d1⟩ := key (p - 1) hj he
   obtain ⟨m, hm⟩ : ∃ m, p = m + 1 := ⟨p - 1, by omega⟩
   subst hm
   rw [Nat.add_sub_cancel] at d0 d1 hj
   rw [hgv] at c1
   have hwr : IntKind.i64.wrap (((m + 1 : Nat) : Int) - 1) = m := by simp only [IntKind.wrap_i64, wrap64]; omega
   have hwr2 : IntKind.i64.wrap ((m : Int) + 1 - 1) = m := by simp only [IntKind.wrap_i64, wrap64]; omega
   have hmi : (m : Int) < (vs.length : Int) := by omega
   have hm0 : (0 : Int) < ((m + 1 : Nat) : Int) := by omega
   have hm1 : (0 : Int) < (m : Int) + 1 := by omega
   clear key hA hBl hN hx hV hgv hvf he
   go_enter Tryz.func65, Tryz.ntmps65
   go_wp2_with (go_at_call 82; fail)
   refine hbin.mono ?_
   rintro e w1 ⟨rfl, q, hq⟩
   have hbq : Below (w.alloc (.cells #[.int .i64 0, .bool false] 121)).heap.size (w.alloc (.cells #[.int .i64 0, .bool false] 121)) w1 := by rw [hq]; exact below_drewNt _ q
   have b1 : Below w.heap.size w w1 := hb0.trans (hbq.mono (by simp))
   have hz1 : w1.heap.size = w.heap.size + 1 := by rw [hq]; show (w.alloc _).heap.size = _; simp
   have KQ : Blk w1 w.heap.size [.int .i64 0, .bool false] := k0.out.below hbq (by simp)
   obtain ⟨⟨r0, s0⟩, ⟨r1, s1⟩⟩ := kb1 KQ
   have j1 : w1.cell? ⟨b, o + 1, none⟩ = some (.slice (some ⟨g, 0, none⟩) vs.length c) := ct b1 hbl c1
   have j2 : w1.cell? ⟨g, m * 2, none⟩ = some (.int .i64 y) := ct b1 hgl d0
   have j3 : w1.cell? ⟨g, m * 2 + 1, none⟩ = some (.bool t) := ct b1 hgl d1
   have hl : w.heap.size < w1.heap.size := by omega
   have HB := hid b1
   clear hq hbq hbin KQ k0 b1 hb0 c0 c1
   go_wp2
   all_goals first | (exfalso; go_light; omega) | skip
   refine bodyPost_ret (v := .agg #[.int .i64 y, .bool t]) (by simp [results, Tryz.results65, go_sem, r0, r1, s0, s1, hl, j2, j3]) rfl ?_
   refine ⟨rfl, ?_⟩
   have HB2 := HB.out
   exact bl
 .rw [hx] at hbin
  obtain ⟨hj, he⟩ := hA hx
  obtain ⟨g, c, hgv, hgl, d0, d1⟩ := key p hj he
  rw [hgv] at c1
  have hpi : (p : Int) < (vs.length : Int) := by omega
  clear key hA hBl hN hx hV hgv hvf he
  go_enter Tryz.func65, Tryz.ntmps65
  go_wp2_with (go_at_call 82; fail)
  refine hbin.mono ?_
  rintro e w1 ⟨rfl, q, hq⟩
  have hbq : Below (w.alloc (.cells #[.int .i64 0, .bool false] 121)).heap.size (w.alloc (.cells #[.int .i64 0, .bool false] 121)) w1 := by rw [hq]; exact below_drewNt _ q
  have b1 : Below w.heap.size w w1 := hb0.trans (hbq.mono (by simp))
  have hz1 : w1.heap.size = w.heap.size + 1 := by rw [hq]; show (w.alloc _).heap.size = _; simp
  have KQ : Blk w1 w.heap.size [.int .i64 0, .bool false] := k0.out.below hbq (by simp)
  obtain ⟨⟨r0, s0⟩, ⟨r1, s1⟩⟩ := kb1 KQ
  have j1 : w1.cell? ⟨b, o + 1, none⟩ = some (.slice (some ⟨g, 0, none⟩) vs.length c) := ct b1 hbl c1
  have j2 : w1.cell? ⟨g, p * 2, none⟩ = some (.int .i64 y) := ct b1 hgl d0
  have j3 : w1.cell? ⟨g, p * 2 + 1, none⟩ = some (.bool t) := ct b1 hgl d1
  have hl : w.heap.size < w1.heap.size := by omega
  have HB := hid b1
  clear hq hbq hbin KQ k0 b1 hb0 c0 c1
  go_wp2
  all_goals first | (exfalso; go_light; omega) | skip
  refine bodyPost_ret (v := .agg #[.int .i64 y, .bool t]) (by simp [results, Tryz.results65, go_sem, r0, r1, s0, s1, hl, j2, j3]) rfl ?_
  refine ⟨rfl, ?_⟩
  have HB2 := HB.out
  exact bl
abbrev Spt := Int × Int
abbrev Vsn := Int × Bool
def sptV (s : Spt) : Value := .agg #[.int .i64 s.1, .int .i64 s.2]
def vsnV (v : Vsn) : Value := .agg #[.int .i64 v.1, .bool v.2]
theorem run_eqSpot (W : World) (a b : Spt) : (Op.equal 113 (sptV a) (sptV b)).run Tryz.prog W = .ok (decide (a = b)) W := by
 have h1 : Tryz.prog.underlying 113 = some (.struct (Tryz.prog.fieldsOf 113)) := by kernel_rfl
 have h2 : Tryz.prog.stoodInHeld 113 = false := by kernel_rfl
 have key : ∀ N, (Op.equalIn (N + 1 + 1) 113 (sptV a) (sptV b)).run Tryz.prog W = .ok (decide (a = b)) W := fun N => by
  unfold sptV
  rw [run_equalIn_struct W (N + 1) 113 _ _ h1 h2]
  simp [go_sem]
  obtain ⟨a1, a2⟩ := a
  obtain ⟨b1, b2⟩ := b
  simp only [Prod.mk.injEq]
  by_cases e1 : a1 = b1
  .by_cases e2 : a2 = b2
   .simp [e1, e2]
   .simp [e1, e2]
  .simp [e1]
 exact key 9998
theorem run_checkSpot (W : World) (em : Bool) (a : Spt) : (Instr.checkKey em 10000 113 (sptV a)).run Tryz.prog W = .ok () W := by
 have key : ∀ N, (Instr.checkKey em (N + 1 + 1) 113 (sptV a)).run Tryz.prog W = .ok () W := fun N => by
  unfold sptV
  simp [Instr.checkKey, run_underlying Tryz.underlying113, go_sem]
 exact key 9998
def Ents (es : List MapEntry) (M : List (Spt × Vsn)) : Prop := es.map (fun e => (e.key, e.val)) = M.map (fun m => (sptV m.1, vsnV m.2))
theorem Ents.cons {e : MapEntry} {r : List MapEntry} {m : Spt × Vsn} {M : List (Spt × Vsn)} (h : Ents (e :: r) (m :: M)) : e.key = sptV m.1 /\ e.val = vsnV m.2 /\ Ents r M := by
 unfold Ents at h
 rw [List.map_cons, List.map_cons] at h
 injection h with h1 h2
 injection h1 with h3 h4
 exact ⟨h3, h4, h2⟩
theorem Ents.len {es : List MapEntry} {M : List (Spt × Vsn)} (h : Ents es M) : es.length = M.length := by
 have := congrArg List.length h
 simpa using this
def findM : List (Spt × Vsn) -> Spt -> Nat -> Option (Nat × Value)
 | [], _, _ => none
 | m :: r, k, i => if m.1 = k then some (i, vsnV m.2) else findM r k (i + 1)
theorem run_findAsking (W : World) (k : Spt) : ∀ (M : List (Spt × Vsn)) (es : List MapEntry) (i : Nat), Ents es M -> (Instr.findAsking 113 (sptV k) es i).run Tryz.prog W = .ok (findM M k i) W
 | [], [], i, _ => rfl
 | m :: M, e :: r, i, h => by
   obtain ⟨h1, h2, h3⟩ := h.cons
   have ih := run_findAsking W k M r (i + 1) h3
   simp only [Instr.findAsking, h1, h2, Sem.run_bind, run_eqSpot, Result.andThen_ok, findM]
   by_cases e1 : k = m.1
   .rw [if_pos (by simp [e1]), if_pos e1.symm]
    rfl
   .rw [if_neg (by simp [e1]), if_neg (fun z => e1 z.symm)]
    exact ih
 | [], e :: r, i, h => by have := h.len; simp at this
 | m :: M, [], i, h => by have := h.len; simp at this
theorem run_findKey (W : World) (k : Spt) (M : List (Spt × Vsn)) (es : List MapEntry) (h : Ents es M) : (Instr.findKey 113 (sptV k) es).run Tryz.prog W = .ok (findM M k 0) W := by
 unfold Instr.findKey
 simp only [Sem.run_bind, run_underlying Tryz.underlying113, Result.andThen_ok]
 cases es with
 | nil =>
   have : M = [] := by have := h.len; exact List.length_eq_zero_iff.1 this.symm
   subst this
   rfl
 | cons e r =>
   simp only [Instr.findNow, Instr.sameNow]
   exact run_findAsking W k M (e :: r) 0 h
def mget (M : List (Spt × Vsn)) (k : Spt) : Option Vsn := (M.find? (fun m => decide (m.1 = k))).map Prod.snd
theorem findM_get (k : Spt) : ∀ (M : List (Spt × Vsn)) (i : Nat), (findM M k i).map Prod.snd = (mget M k).map vsnV
 | [], _ => rfl
 | m :: r, i => by
   unfold findM mget
   by_cases e : m.1 = k
   .rw [if_pos e, List.find?_cons_of_pos (by simpa using e)]
    rfl
   .rw [if_neg e, List.find?_cons_of_neg (by simpa using e)]
    exact findM_get k r (i + 1)
def MP (w : World) (b : Nat) (M : List (Spt × Vsn)) : Prop := ∃ es cl, w.heap[b]? = some (.map es cl) /\ Ents es.toList M /\ (es.toList.map (·.born)).Nodup /\ (∀ e ∈ es.toList, e.born < cl) /\ (M.map Prod.fst).Nodup
theorem MP.lt {w : World} {b : Nat} {M : List (Spt × Vsn)} (h : MP w b M) : b < w.heap.size := by
 obtain ⟨es, cl, h1, _⟩ := h
 exact (Array.getElem?_eq_some_iff.1 h1).1
theorem MP.fr {S : Nat -> Prop} {w w' : World} {b : Nat} {M : List (Spt × Vsn)} (h : MP w b M) (hk : Fr S w w') (hS : ¬ S b) : MP w' b M := by
 have hl := h.lt
 obtain ⟨es, cl, h1, h2⟩ := h
 exact ⟨es, cl, by rw [hk.block b hl hS]; exact h1, h2⟩
theorem mp_new (w : World) : MP (w.alloc (.map #[] 0)) w.heap.size [] := ⟨#[], 0, Array.getElem?_push_size, rfl, List.Pairwise.nil, by simp, List.Pairwise.nil⟩
theorem run_zeroVsn (W : World) : (zeroValue 121).run Tryz.prog W = .ok (vsnV (0, false)) W := by
 obtain ⟨i0, hi, hz0, hz1, hz2⟩ := info_parts infoVer
 simp [zeroValue, typeInfo, hi, hz0, vsnV]
theorem run_look (W : World) (b : Nat) (M : List (Spt × Vsn)) (h : MP W b M) (k : Spt) : (Instr.lookup 116 (.map (some b)) (sptV k) true).run Tryz.prog W = .ok (.tuple #[vsnV ((mget M k).getD (0, false)), .bool (mget M k).isSome]) W := by
 obtain ⟨es, cl, h1, h2, _⟩ := h
 have hf := run_findKey W k M es.toList h2
 have hg := findM_get k M 0
 unfold Instr.lookup
 simp only [Sem.run_bind, run_underlying Tryz.underlying116, Result.andThen_ok, MapKept.run_getObj_map h1, Sem.run_pure, run_checkSpot, hf]
 cases hq : findM M k 0 with
 | none =>
   rw [hq] at hg
   have e : mget M k = none := by cases hm : mget M k with
    | none => rfl
    | some v => rw [hm] at hg; cases hg
   have hz := run_zeroVsn W
   simp only [e, Sem.run_bind, hz, Result.andThen_ok, Sem.run_pure]
   rfl
 | some z =>
   rw [hq] at hg
   cases hm : mget M k with
   | none => rw [hm] at hg; cases hg
   | some v =>
     rw [hm] at hg
     have hz : z.2 = vsnV v := by simpa using hg
     obtain ⟨z1, z2⟩ := z
     simp only at hz
     subst hz
     simp [Result.andThen]
end Go.Proofs.YtblkgicbimflhaaGreat
