import Derived.Test.YtblkgicbimflhaaGreatQAK
import Derived.Laws.StructEq
import Derived.Maps.RangeWalk
import Derived.Test.YtblkgicbimflhaaGreatQAJ
namespace Go.Proofs.YtblkgicbimflhaaGreat
open Go.ChangeShapes Go.WideShapes Go.ChangeAt Go.RowKit
set_option linter.unusedVariables false
set_option linter.unusedSimpArgs false
set_option maxRecDepth 100000
set_option maxHeartbeats 16000000
theorem own_at2 {B e n : Nat} {w : World} {v : Value} {α : Type} {f : α -> List Value} {us : List α} (hf : ∀ u, (f u).length = 2) (h : w.ownsRow B e 2 v n (us.flatMap f)) {g c : Nat} (hv : v = .slice (some ⟨g, 0, none⟩) n c) {j : Nat} (hj : j < us.length) : w.cell? ⟨g, j * 2, none⟩ = (f us[j])[0]? /\ w.cell? ⟨g, j * 2 + 1, none⟩ = (f us[j])[1]? := by
 have key : ∀ (us : List α) (j : Nat) (hj : j < us.length) (t : Nat), t < 2 -> (us.flatMap f)[j * 2 + t]? = (f us[j])[t]? := by
  intro us
  induction us with
  | nil => intro j hj; cases hj
  | cons a r ih =>
    intro j hj t ht
    rw [List.flatMap_cons]
    cases j with
    | zero =>
      rw [List.getElem?_append_left (by rw [hf]; omega)]
      simp
    | succ j =>
      rw [List.getElem?_append_right (by rw [hf]; omega), hf, show (j + 1) * 2 + t - 2 = j * 2 + t by omega]
      exact ih j (by simpa using hj) t ht
 have h0 := key us j hj 0 (by omega)
 have h1 := key us j hj 1 (by omega)
 have hl := hf us[j]
 refine ⟨?_, ?_⟩
 .have e : (f us[j])[0]? = some ((f us[j])[0]'(by omega)) := List.getElem?_eq_getElem (by omega)
  rw [e] at h0 ⊢
  exact own_cells h hv h0
 .have e : (f us[j])[1]? = some ((f us[j])[1]'(by omega)) := List.getElem?_eq_getElem (by omega)
  rw [e] at h1 ⊢
  exact own_cells h hv h1
theorem under_any (B b o : Nat) (kv vv : Value) (ks : List Int) (f : Int -> Value × Value) (x : Int) (w : World) (hbl : b < w.heap.size) (c0 : w.cell? ⟨b, o, none⟩ = some kv) (c1 : w.cell? ⟨b, o + 1, none⟩ = some vv) (hK : w.ownsRow B 3 1 kv ks.length (ks.map (Value.int .i64))) (hV : w.ownsRow B 155 2 vv ks.length (ks.flatMap (fun y => [(f y).1, (f y).2]))) (hs : ks.Pairwise (· < ·)) (hn : ks.length <= 1048576) (hf : ∀ y, ¬ y ∈ ks -> f y = (.slice none 0 0, .slice none 0 0)) (hff : ∀ y, (∃ a n c, (f y).1 = .slice a n c) /\ ∃ a n c, (f y).2 = .slice a n c) :
 Calls Tryz.prog 81 #[.pointer (some ⟨b, o, none⟩), .int .i64 x] w fun e w' => e = .returned (.agg #[(f x).1, (f x).2]) /\ Below w.heap.size w w' := by
 have hb0 := below_alloc w (.cells #[.slice none 0 0, .slice none 0 0] 155)
 have hbin := bin_any B kv ks x _ (own_below hK hb0) hs hn
 have hpl := posN_le ks x
 have k0 : Hid (Blk (w.alloc (.cells #[.slice none 0 0, .slice none 0 0] 155)) w.heap.size [.slice none 0 0, .slice none 0 0]) := blk_new w [.slice none 0 0, .slice none 0 0] 155
 obtain ⟨ka, kc, hkf⟩ := formR hK
 obtain ⟨va, vc, hvf⟩ := formR hV
 obtain ⟨⟨a1, n1, q1, e1⟩, a2, n2, q2, e2⟩ := hff x
 cases hx : ks.contains x
 .have hnx : ¬ x ∈ ks := fun z => by rw [List.contains_iff_mem.2 z] at hx; cases hx
  have hfx := hf x hnx
  rw [hfx]
  rw [hx] at hbin
  subst hkf hvf
  clear hK hV hf hff
  go_enter Tryz.func81, Tryz.ntmps81
  go_wp2_with (go_at_call 82; fail)
  refine hbin.mono ?_
  rintro e w1 ⟨rfl, q, hq⟩
  have b1 : Below w.heap.size w w1 := hb0.trans (by rw [hq]; exact (below_drewNt _ q).mono (by simp))
  have hz1 : w1.heap.size = w.heap.size + 1 := by rw [hq]; show (w.alloc _).heap.size = _; simp
  have KQ : Blk w1 w.heap.size [.slice none 0 0, .slice none 0 0] := k0.out.below (by rw [hq]; exact below_drewNt _ q) (by simp)
  obtain ⟨⟨r0, s0⟩, ⟨r1, s1⟩⟩ := kb1 KQ
  have hl : w.heap.size < w1.heap.size := by omega
  have HB := hid b1
  clear hq hbin KQ k0 b1 hb0
  go_wp2
  refine bodyPost_ret (v := .agg #[.slice none 0 0, .slice none 0 0]) (by simp [results, Tryz.results81, go_sem, r0, r1, s0, s1, hl]) rfl ?_
  refine ⟨rfl, ?_⟩
  have HB2 := HB.out
  exact bl
 .have hmx : x ∈ ks := List.contains_iff_mem.1 hx
  have hp := posN_lt hs hmx
  have hat := posN_at hs hmx
  have hg0 : ks[posN ks x] = x := by rw [List.getElem?_eq_getElem hp] at hat; injection hat
  obtain ⟨g, c, hgv, hgc, hgm, hgl⟩ := own_shape hV (by omega)
  have hcc := own_at2 (f := fun y => [(f y).1, (f y).2]) (fun _ => rfl) hV hgv hp
  rw [hg0] at hcc
  have d0 : w.cell? ⟨g, posN ks x * 2, none⟩ = some (f x).1 := hcc.1
  have d1 : w.cell? ⟨g, posN ks x * 2 + 1, none⟩ = some (f x).2 := hcc.2
  rw [hx] at hbin
  subst hkf
  rw [hgv] at c1
  rw [e1] at d0 ⊢
  rw [e2] at d1 ⊢
  obtain ⟨p, hpp⟩ : ∃ p, p = posN ks x := ⟨_, rfl⟩
  rw [<- hpp] at hbin hp d0 d1
  have hpi : (p : Int) < (ks.length : Int) := by omega
  clear hcc hat hg0 hpp hK hV hf hff hgv hvf hpl
  go_enter Tryz.func81, Tryz.ntmps81
  go_wp2_with (go_at_call 82; fail)
  refine hbin.mono ?_
  rintro e w1 ⟨rfl, q, hq⟩
  have hbq : Below (w.alloc (.cells #[.slice none 0 0, .slice none 0 0] 155)).heap.size (w.alloc (.cells #[.slice none 0 0, .slice none 0 0] 155)) w1 := by rw [hq]; exact below_drewNt _ q
  have b1 : Below w.heap.size w w1 := hb0.trans (hbq.mono (by simp))
  have hz1 : w1.heap.size = w.heap.size + 1 := by rw [hq]; show (w.alloc _).heap.size = _; simp
  have KQ : Blk w1 w.heap.size [.slice none 0 0, .slice none 0 0] := k0.out.below hbq (by simp)
  obtain ⟨⟨r0, s0⟩, ⟨r1, s1⟩⟩ := kb1 KQ
  have j1 : w1.cell? ⟨b, o + 1, none⟩ = some (.slice (some ⟨g, 0, none⟩) ks.length c) := ct b1 hbl c1
  have j2 : w1.cell? ⟨g, p * 2, none⟩ = some (.slice a1 n1 q1) := ct b1 hgl d0
  have j3 : w1.cell? ⟨g, p * 2 + 1, none⟩ = some (.slice a2 n2 q2) := ct b1 hgl d1
  have hl : w.heap.size < w1.heap.size := by omega
  have HB := hid b1
  clear hq hbq hbin KQ k0 b1 hb0 c0 c1 d0 d1
  go_wp2
  refine bodyPost_ret (v := .agg #[.slice a1 n1 q1, .slice a2 n2 q2]) (by simp [results, Tryz.results81, go_sem, r0, r1, s0, s1, j2, j3, hl]) rfl ?_
  refine ⟨rfl, ?_⟩
  have HB2 := HB.out
  exact bl
abbrev Ver := Int × Int × Bool
def verV (v : Ver) : List Value := [.int .i64 v.2.1, .bool v.2.2]
def verAt (vs : List Ver) (k : Int) : Int × Bool := match (vs.filter (fun v => decide (v.1 <= k))).getLast? with
 | some v => v.2
 | none => (0, false)
theorem filt_take (k : Int) : ∀ vs : List Ver, (vs.map (·.1)).Pairwise (· < ·) -> vs.filter (fun v => decide (v.1 <= k)) = vs.take (posN (vs.map (·.1)) k + if (vs.map (·.1)).contains k then 1 else 0)
 | [], _ => by simp
 | a :: r, h => by
   rw [List.map_cons] at h
   obtain ⟨h1, h2⟩ := List.pairwise_cons.1 h
   have ih := filt_take k r h2
   have hc : posN ((a :: r).map (·.1)) k = posN (r.map (·.1)) k + if a.1 < k then 1 else 0 := by
    unfold posN
    rw [List.map_cons, List.countP_cons]
    simp
   rw [hc]
   by_cases hlt : a.1 < k
   .have hne : (k == a.1) = false := beq_eq_false_iff_ne.2 (by omega)
    rw [List.filter_cons_of_pos (by simp; omega), ih, if_pos hlt, List.map_cons, List.contains_cons, hne, Bool.false_or]
    rw [show posN (r.map (·.1)) k + 1 + (if (r.map (·.1)).contains k = true then 1 else 0) = (posN (r.map (·.1)) k + if (r.map (·.1)).contains k = true then 1 else 0) + 1 by omega]
    rfl
   .have hall : ∀ v ∈ r, a.1 < v.1 := fun v hv => h1 v.1 (List.mem_map_of_mem hv)
    have hp0 : posN (r.map (·.1)) k = 0 := by
     unfold posN
     exact List.countP_eq_zero.2 (fun y hy => by have := h1 y hy; simp; omega)
    have hn : (r.map (·.1)).contains k = false := by
     cases hq : (r.map (·.1)).contains k
     .rfl
     .have := h1 k (List.contains_iff_mem.1 hq); omega
    have hf0 : r.filter (fun v => decide (v.1 <= k)) = [] := List.filter_eq_nil_iff.2 (fun v hv => by have := hall v hv; simp; omega)
    rw [hp0, if_neg hlt, List.map_cons, List.contains_cons, hn, Bool.or_false]
    by_cases he : a.1 = k
    .rw [List.filter_cons_of_pos (by simp; omega), hf0, if_pos (by simp [he])]
     rfl
    .rw [List.filter_cons_of_neg (by simp; omega), hf0, if_neg (by simp; omega)]
     rfl
theorem last_take {α : Type} (l : List α) (m : Nat) (h : m < l.length) : (l.take (m + 1)).getLast? = some l[m] := by
 rw [List.getLast?_eq_getElem?, List.length_take, Nat.min_eq_left (by omega), List.getElem?_take, if_pos (by omega), Nat.add_sub_cancel]
 exact List.getElem?_eq_getElem h
theorem ver_there {vs : List Ver} {k : Int} (hs : (vs.map (·.1)).Pairwise (· < ·)) (h : (vs.map (·.1)).contains k = true) (hp : posN (vs.map (·.1)) k < vs.length) : verAt vs k = vs[posN (vs.map (·.1)) k].2 := by
 unfold verAt
 rw [filt_take k vs hs, if_pos h, last_take _ _ hp]
theorem ver_below {vs : List Ver} {k : Int} {m : Nat} (hs : (vs.map (·.1)).Pairwise (· < ·)) (h : (vs.map (·.1)).contains k = false) (hm : posN (vs.map (·.1)) k = m + 1) (hp : m < vs.length) : verAt vs k = vs[m].2 := by
 unfold verAt
 rw [filt_take k vs hs, if_neg (by rw [h]; decide), hm, Nat.add_zero, last_take _ _ hp]
theorem ver_none {vs : List Ver} {k : Int} (hs : (vs.map (·.1)).Pairwise (· < ·)) (h : (vs.map (·.1)).contains k = false) (hm : posN (vs.map (·.1)) k = 0) : verAt vs k = (0, false) := by
 unfold verAt
 rw [filt_take k vs hs, if_neg (by rw [h]; decide), hm]
 rfl
theorem upTo_any (B b o : Nat) (kv vv : Value) (vs : List Ver) (k : Int) (w : World) (hbl : b < w.heap.size) (c0 : w.cell? ⟨b, o, none⟩ = some kv) (c1 : w.cell? ⟨b, o + 1, none⟩ = some vv) (hK : w.ownsRow B 3 1 kv vs.length ((vs.map (·.1)).map (Value.int .i64))) (hV : w.ownsRow B 121 2 vv vs.length (vs.flatMap verV)) (hs : (vs.map (·.1)).Pairwise (· < ·)) (hn : vs.length <= 1048576) :
 Calls Tryz.prog 65 #[.pointer (some ⟨b, o, none⟩), .int .i64 k] w fun e w' => e = .returned (.agg #[.int .i64 (verAt vs k).1, .bool (verAt vs k).2]) /\ Below w.heap.size w w' := by
 have hb0 := below_alloc w (.cells #[.int .i64 0, .bool false] 121)
 have hkl : (vs.map (·.1)).length = vs.length := List.length_map _
 have hK' := hK
 rw [<- hkl] at hK'
 have hbin := bin_any B kv (vs.map (·.1)) k _ (own_below hK' hb0) hs (by omega)
 have hpl := posN_le (vs.map (·.1)) k
 rw [hkl] at hpl
 have k0 : Hid (Blk (w.alloc (.cells #[.int .i64 0, .bool false] 121)) w.heap.size [.int .i64 0, .bool false]) := blk_new w [.int .i64 0, .bool false] 121
 obtain ⟨ka, kc, hkf⟩ := formR hK
 obtain ⟨va, vc, hvf⟩ := formR hV
 have hpos : (vs.map (·.1)).contains k = true -> posN (vs.map (·.1)) k < vs.length := fun h => by
  have := posN_lt hs (List.contains_iff_mem.1 h)
  rw [hkl] at this
  exact this
 obtain ⟨p, hpp⟩ : ∃ p, p = posN (vs.map (·.1)) k := ⟨_, rfl⟩
 have key : ∀ j (hj : j < vs.length), verAt vs k = vs[j].2 -> ∃ g c, vv = .slice (some ⟨g, 0, none⟩) vs.length c /\ g < w.heap.size /\ w.cell? ⟨g, j * 2, none⟩ = some (.int .i64 (verAt vs k).1) /\ w.cell? ⟨g, j * 2 + 1, none⟩ = some (.bool (verAt vs k).2) := fun j hj he => by
  obtain ⟨g, c, hgv, hgc, hgm, hgl⟩ := own_shape hV (by omega)
  have hcc := own_at2 (f := verV) (fun _ => rfl) hV hgv hj
  rw [he]
  exact ⟨g, c, hgv, hgl, hcc.1, hcc.2⟩
 have hA : (vs.map (·.1)).contains k = true -> ∃ hj : p < vs.length, verAt vs k = vs[p].2 := fun h => by
  subst hpp
  exact ⟨hpos h, ver_there hs h (hpos h)⟩
 have hBl : (vs.map (·.1)).contains k = false -> 0 < p -> ∃ hj : p - 1 < vs.length, verAt vs k = vs[p - 1].2 := fun h h0 => by
  have hj : p - 1 < vs.length := by rw [hpp]; omega
  exact ⟨hj, ver_below hs h (by rw [<- hpp]; omega) hj⟩
 have hN : (vs.map (·.1)).contains k = false -> p = 0 -> verAt vs k = (0, false) := fun h h0 => ver_none hs h (by rw [<- hpp]; exact h0)
 rw [<- hpp] at hbin hpl
 subst hkf
 clear hpos hK hK' hkl hs hpp
 obtain ⟨z, hz⟩ : ∃ z, z = verAt vs k := ⟨_, rfl⟩
 rw [<- hz] at key hA hBl hN ⊢
 clear hz
 obtain ⟨y, t⟩ := z
 simp only at key hA hBl hN ⊢
 cases hx : (vs.map (·.1)).contains k
 .rw [hx] at hbin
  rcases Nat.eq_zero_or_pos p with h0 | hp
  .have he := hN hx h0
   injection he with he1 he2
   subst he1 he2
   subst h0
   clear key hA hBl hN hx hV
   subst hvf
   have hz0 : ¬ (0 : Int) < ((0 : Nat) : Int) := by decide
   go_enter Tryz.func65, Tryz.ntmps65
   go_wp2_with (go_at_call 82; fail)
   refine hbin.mono ?_
   rintro e w1 ⟨rfl, q, hq⟩
   have hbq : Below (w.alloc (.cells #[.int .i64 0, .bool false] 121)).heap.size (w.alloc (.cells #[.int .i64 0, .bool false] 121)) w1 := by rw [hq]; exact below_drewNt _ q
   have b1 : Below w.heap.size w w1 := hb0.trans (hbq.mono (by simp))
   have hz1 : w1.heap.size = w.heap.size + 1 := by rw [hq]; show (w.alloc _).heap.size = _; simp
   have KQ : Blk w1 w.heap.size [.int .i64 0, .bool false] := k0.out.below hbq (by simp)
   obtain ⟨⟨r0, s0⟩, ⟨r1, s1⟩⟩ := kb1 KQ
   have hl : w.heap.size < w1.heap.size := by omega
   have HB := hid b1
   clear hq hbq hbin KQ k0 b1 hb0 c0 c1
   go_wp2
   all_goals first | (exfalso; go_light; omega) | skip
   refine bodyPost_ret (v := .agg #[.int .i64 0, .bool false]) (by simp [results, Tryz.results65, go_sem, r0, r1, s0, s1, hl]) rfl ?_
   refine ⟨rfl, ?_⟩
   have HB2 := HB.out
   exact bl
  .obtain ⟨hj, he⟩ := hBl hx hp
   obtain ⟨g, c, hgv, hgl, d0, d1⟩ := key (p - 1) hj he
   obtain ⟨m, hm⟩ : ∃ m, p = m + 1 := ⟨p - 1, by omega⟩
   subst hm
   rw [Nat.add_sub_cancel] at d0 d1 hj
   rw [hgv] at c1
   have hwr : IntKind.i64.wrap (((m + 1 : Nat) : Int) - 1) = m := by simp only [IntKind.wrap_i64, wrap64]; omega
   have hwr2 : IntKind.i64.wrap ((m : Int) + 1 - 1) = m := by simp only [IntKind.wrap_i64, wrap64]; omega
   have hmi : (m : Int) < (vs.length : Int) := by omega
   have hm0 : (0 : Int) < ((m + 1 : Nat) : Int) := by omega
   have hm1 : (0 : Int) < (m : Int) + 1 := by omega
   clear key hA hBl hN hx hV hgv hvf he
   go_enter Tryz.func65, Tryz.ntmps65
   go_wp2_with (go_at_call 82; fail)
   refine hbin.mono ?_
   rintro e w1 ⟨rfl, q, hq⟩
   have hbq : Below (w.alloc (.cells #[.int .i64 0, .bool false] 121)).heap.size (w.alloc (.cells #[.int .i64 0, .bool false] 121)) w1 := by rw [hq]; exact below_drewNt _ q
   have b1 : Below w.heap.size w w1 := hb0.trans (hbq.mono (by simp))
   have hz1 : w1.heap.size = w.heap.size + 1 := by rw [hq]; show (w.alloc _).heap.size = _; simp
   have KQ : Blk w1 w.heap.size [.int .i64 0, .bool false] := k0.out.below hbq (by simp)
   obtain ⟨⟨r0, s0⟩, ⟨r1, s1⟩⟩ := kb1 KQ
   have j1 : w1.cell? ⟨b, o + 1, none⟩ = some (.slice (some ⟨g, 0, none⟩) vs.length c) := ct b1 hbl c1
   have j2 : w1.cell? ⟨g, m * 2, none⟩ = some (.int .i64 y) := ct b1 hgl d0
   have j3 : w1.cell? ⟨g, m * 2 + 1, none⟩ = some (.bool t) := ct b1 hgl d1
   have hl : w.heap.size < w1.heap.size := by omega
   have HB := hid b1
   clear hq hbq hbin KQ k0 b1 hb0 c0 c1
   go_wp2
   all_goals first | (exfalso; go_light; omega) | skip
   refine bodyPost_ret (v := .agg #[.int .i64 y, .bool t]) (by simp [results, Tryz.results65, go_sem, r0, r1, s0, s1, hl, j2, j3]) rfl ?_
   refine ⟨rfl, ?_⟩
   have HB2 := HB.out
   exact bl
 .rw [hx] at hbin
  obtain ⟨hj, he⟩ := hA hx
  obtain ⟨g, c, hgv, hgl, d0, d1⟩ := key p hj he
  rw [hgv] at c1
  have hpi : (p : Int) < (vs.length : Int) := by omega
  clear key hA hBl hN hx hV hgv hvf he
  go_enter Tryz.func65, Tryz.ntmps65
  go_wp2_with (go_at_call 82; fail)
  refine hbin.mono ?_
  rintro e w1 ⟨rfl, q, hq⟩
  have hbq : Below (w.alloc (.cells #[.int .i64 0, .bool false] 121)).heap.size (w.alloc (.cells #[.int .i64 0, .bool false] 121)) w1 := by rw [hq]; exact below_drewNt _ q
  have b1 : Below w.heap.size w w1 := hb0.trans (hbq.mono (by simp))
  have hz1 : w1.heap.size = w.heap.size + 1 := by rw [hq]; show (w.alloc _).heap.size = _; simp
  have KQ : Blk w1 w.heap.size [.int .i64 0, .bool false] := k0.out.below hbq (by simp)
  obtain ⟨⟨r0, s0⟩, ⟨r1, s1⟩⟩ := kb1 KQ
  have j1 : w1.cell? ⟨b, o + 1, none⟩ = some (.slice (some ⟨g, 0, none⟩) vs.length c) := ct b1 hbl c1
  have j2 : w1.cell? ⟨g, p * 2, none⟩ = some (.int .i64 y) := ct b1 hgl d0
  have j3 : w1.cell? ⟨g, p * 2 + 1, none⟩ = some (.bool t) := ct b1 hgl d1
  have hl : w.heap.size < w1.heap.size := by omega
  have HB := hid b1
  clear hq hbq hbin KQ k0 b1 hb0 c0 c1
  go_wp2
  all_goals first | (exfalso; go_light; omega) | skip
  refine bodyPost_ret (v := .agg #[.int .i64 y, .bool t]) (by simp [results, Tryz.results65, go_sem, r0, r1, s0, s1, hl, j2, j3]) rfl ?_
  refine ⟨rfl, ?_⟩
  have HB2 := HB.out
  exact bl
abbrev Spt := Int × Int
abbrev Vsn := Int × Bool
def sptV (s : Spt) : Value := .agg #[.int .i64 s.1, .int .i64 s.2]
def vsnV (v : Vsn) : Value := .agg #[.int .i64 v.1, .bool v.2]
theorem run_eqSpot (W : World) (a b : Spt) : (Op.equal 113 (sptV a) (sptV b)).run Tryz.prog W = .ok (decide (a = b)) W := by
 have h1 : Tryz.prog.underlying 113 = some (.struct (Tryz.prog.fieldsOf 113)) := by kernel_rfl
 have h2 : Tryz.prog.stoodInHeld 113 = false := by kernel_rfl
 have key : ∀ N, (Op.equalIn (N + 1 + 1) 113 (sptV a) (sptV b)).run Tryz.prog W = .ok (decide (a = b)) W := fun N => by
  unfold sptV
  rw [run_equalIn_struct W (N + 1) 113 _ _ h1 h2]
  simp [go_sem]
  obtain ⟨a1, a2⟩ := a
  obtain ⟨b1, b2⟩ := b
  simp only [Prod.mk.injEq]
  by_cases e1 : a1 = b1
  .by_cases e2 : a2 = b2
   .simp [e1, e2]
   .simp [e1, e2]
  .simp [e1]
 exact key 9998
theorem run_checkSpot (W : World) (em : Bool) (a : Spt) : (Instr.checkKey em 10000 113 (sptV a)).run Tryz.prog W = .ok () W := by
 have key : ∀ N, (Instr.checkKey em (N + 1 + 1) 113 (sptV a)).run Tryz.prog W = .ok () W := fun N => by
  unfold sptV
  simp [Instr.checkKey, run_underlying Tryz.underlying113, go_sem]
 exact key 9998
def Ents (es : List MapEntry) (M : List (Spt × Vsn)) : Prop := es.map (fun e => (e.key, e.val)) = M.map (fun m => (sptV m.1, vsnV m.2))
theorem Ents.cons {e : MapEntry} {r : List MapEntry} {m : Spt × Vsn} {M : List (Spt × Vsn)} (h : Ents (e :: r) (m :: M)) : e.key = sptV m.1 /\ e.val = vsnV m.2 /\ Ents r M := by
 unfold Ents at h
 rw [List.map_cons, List.map_cons] at h
 injection h with h1 h2
 injection h1 with h3 h4
 exact ⟨h3, h4, h2⟩
theorem Ents.len {es : List MapEntry} {M : List (Spt × Vsn)} (h : Ents es M) : es.length = M.length := by
 have := congrArg List.length h
 simpa using this
def findM : List (Spt × Vsn) -> Spt -> Nat -> Option (Nat × Value)
 | [], _, _ => none
 | m :: r, k, i => if m.1 = k then some (i, vsnV m.2) else findM r k (i + 1)
theorem run_findAsking (W : World) (k : Spt) : ∀ (M : List (Spt × Vsn)) (es : List MapEntry) (i : Nat), Ents es M -> (Instr.findAsking 113 (sptV k) es i).run Tryz.prog W = .ok (findM M k i) W
 | [], [], i, _ => rfl
 | m :: M, e :: r, i, h => by
   obtain ⟨h1, h2, h3⟩ := h.cons
   have ih := run_findAsking W k M r (i + 1) h3
   simp only [Instr.findAsking, h1, h2, Sem.run_bind, run_eqSpot, Result.andThen_ok, findM]
   by_cases e1 : k = m.1
   .rw [if_pos (by simp [e1]), if_pos e1.symm]
    rfl
   .rw [if_neg (by simp [e1]), if_neg (fun z => e1 z.symm)]
    exact ih
 | [], e :: r, i, h => by have := h.len; simp at this
 | m :: M, [], i, h => by have := h.len; simp at this
theorem run_findKey (W : World) (k : Spt) (M : List (Spt × Vsn)) (es : List MapEntry) (h : Ents es M) : (Instr.findKey 113 (sptV k) es).run Tryz.prog W = .ok (findM M k 0) W := by
 unfold Instr.findKey
 simp only [Sem.run_bind, run_underlying Tryz.underlying113, Result.andThen_ok]
 cases es with
 | nil =>
   have : M = [] := by have := h.len; exact List.length_eq_zero_iff.1 this.symm
   subst this
   rfl
 | cons e r =>
   simp only [Instr.findNow, Instr.sameNow]
   exact run_findAsking W k M (e :: r) 0 h
def mget (M : List (Spt × Vsn)) (k : Spt) : Option Vsn := (M.find? (fun m => decide (m.1 = k))).map Prod.snd
theorem findM_get (k : Spt) : ∀ (M : List (Spt × Vsn)) (i : Nat), (findM M k i).map Prod.snd = (mget M k).map vsnV
 | [], _ => rfl
 | m :: r, i => by
   unfold findM mget
   by_cases e : m.1 = k
   .rw [if_pos e, List.find?_cons_of_pos (by simpa using e)]
    rfl
   .rw [if_neg e, List.find?_cons_of_neg (by simpa using e)]
    exact findM_get k r (i + 1)
def MP (w : World) (b : Nat) (M : List (Spt × Vsn)) : Prop := ∃ es cl, w.heap[b]? = some (.map es cl) /\ Ents es.toList M /\ (es.toList.map (·.born)).Nodup /\ (∀ e ∈ es.toList, e.born < cl) /\ (M.map Prod.fst).Nodup
theorem MP.lt {w : World} {b : Nat} {M : List (Spt × Vsn)} (h : MP w b M) : b < w.heap.size := by
 obtain ⟨es, cl, h1, _⟩ := h
 exact (Array.getElem?_eq_some_iff.1 h1).1
theorem MP.fr {S : Nat -> Prop} {w w' : World} {b : Nat} {M : List (Spt × Vsn)} (h : MP w b M) (hk : Fr S w w') (hS : ¬ S b) : MP w' b M := by
 have hl := h.lt
 obtain ⟨es, cl, h1, h2⟩ := h
 exact ⟨es, cl, by rw [hk.block b hl hS]; exact h1, h2⟩
theorem mp_new (w : World) : MP (w.alloc (.map #[] 0)) w.heap.size [] := ⟨#[], 0, Array.getElem?_push_size, rfl, List.Pairwise.nil, by simp, List.Pairwise.nil⟩
theorem run_zeroVsn (W : World) : (zeroValue 121).run Tryz.prog W = .ok (vsnV (0, false)) W := by
 obtain ⟨i0, hi, hz0, hz1, hz2⟩ := info_parts infoVer
 simp [zeroValue, typeInfo, hi, hz0, vsnV]
theorem run_look (W : World) (b : Nat) (M : List (Spt × Vsn)) (h : MP W b M) (k : Spt) : (Instr.lookup 116 (.map (some b)) (sptV k) true).run Tryz.prog W = .ok (.tuple #[vsnV ((mget M k).getD (0, false)), .bool (mget M k).isSome]) W := by
 obtain ⟨es, cl, h1, h2, _⟩ := h
 have hf := run_findKey W k M es.toList h2
 have hg := findM_get k M 0
 unfold Instr.lookup
 simp only [Sem.run_bind, run_underlying Tryz.underlying116, Result.andThen_ok, MapKept.run_getObj_map h1, Sem.run_pure, run_checkSpot, hf]
 cases hq : findM M k 0 with
 | none =>
   rw [hq] at hg
   have e : mget M k = none := by cases hm : mget M k with
    | none => rfl
    | some v => rw [hm] at hg; cases hg
   have hz := run_zeroVsn W
   simp only [e, Sem.run_bind, hz, Result.andThen_ok, Sem.run_pure]
   rfl
 | some z =>
   rw [hq] at hg
   cases hm : mget M k with
   | none => rw [hm] at hg; cases hg
   | some v =>
     rw [hm] at hg
     have hz : z.2 = vsnV v := by simpa using hg
     obtain ⟨z1, z2⟩ := z
     simp only at hz
     subst hz
     simp [Result.andThen]
end Go.Proofs.YtblkgicbimflhaaGreat
namespace Go.Proofs.YtblkgicbimflhaaGreat
open Go.ChangeShapes Go.WideShapes Go.ChangeAt Go.RowKit
set_option linter.unusedVariables false
set_option linter.unusedSimpArgs false
set_option maxRecDepth 100000
set_option maxHeartbeats 16000000
open Go.ChangeMaps (setBlock)
def mput : List (Spt × Vsn) -> Spt -> Vsn -> List (Spt × Vsn)
 | [], k, v => [(k, v)]
 | m :: r, k, v => if m.1 = k then (k, v) :: r else m :: mput r k v
theorem sameSpot (k : Spt) : Instr.sameBits 10000 (sptV k) (sptV k) = true := by
 have key : ∀ N, Instr.sameBits (N + 1 + 1) (sptV k) (sptV k) = true := fun N => by simp [Instr.sameBits, sptV]
 exact key 9998
theorem mput_keys (k : Spt) (v : Vsn) : ∀ M : List (Spt × Vsn), (M.map Prod.fst).Nodup -> ((mput M k v).map Prod.fst).Nodup /\ ∀ q, q ∈ (mput M k v).map Prod.fst -> q ∈ M.map Prod.fst \/ q = k
 | [], _ => ⟨by simp [mput], fun q hq => by simp [mput] at hq; exact .inr hq⟩
 | m :: r, h => by
   rw [List.map_cons] at h
   obtain ⟨h1, h2⟩ := List.nodup_cons.1 h
   obtain ⟨i1, i2⟩ := mput_keys k v r h2
   unfold mput
   by_cases e : m.1 = k
   .rw [if_pos e]
    refine ⟨?_, fun q hq => .inl (by rw [List.map_cons] at hq ⊢; rw [e]; exact hq)⟩
    rw [List.map_cons]
    exact List.nodup_cons.2 ⟨by rw [<- e]; exact h1, h2⟩
   .rw [if_neg e]
    refine ⟨?_, fun q hq => ?_⟩
    .rw [List.map_cons]
     exact List.nodup_cons.2 ⟨fun z => by
      rcases i2 _ z with y | y
      .exact h1 y
      .exact e y, i1⟩
    .rw [List.map_cons] at hq ⊢
     rcases List.mem_cons.1 hq with y | y
     .exact .inl (by rw [y]; exact List.mem_cons_self)
     .rcases i2 q y with z | z
      .exact .inl (List.mem_cons_of_mem _ z)
      .exact .inr z
theorem mget_put (k : Spt) (v : Vsn) (q : Spt) : ∀ M : List (Spt × Vsn), mget (mput M k v) q = if q = k then some v else mget M q
 | [] => by
   unfold mput mget
   by_cases e : q = k
   .rw [if_pos e, List.find?_cons_of_pos (by simp [e])]; rfl
   .rw [if_neg e, List.find?_cons_of_neg (by simp; exact fun z => e z.symm)]
 | m :: r => by
   have ih := mget_put k v q r
   unfold mput
   by_cases e : m.1 = k
   .rw [if_pos e]
    unfold mget
    by_cases e2 : q = k
    .rw [if_pos e2, List.find?_cons_of_pos (by simp [e2])]; rfl
    .rw [if_neg e2, List.find?_cons_of_neg (by simp; exact fun z => e2 z.symm), List.find?_cons_of_neg (by simp; intro z; exact e2 (z.symm.trans e))]
   .rw [if_neg e]
    unfold mget at ih ⊢
    by_cases e3 : m.1 = q
    .rw [List.find?_cons_of_pos (by simpa using e3), List.find?_cons_of_pos (by simpa using e3), if_neg (fun z => e (e3.trans z))]
    .rw [List.find?_cons_of_neg (by simpa using e3), List.find?_cons_of_neg (by simpa using e3)]
     exact ih
theorem upd_found (k : Spt) (v : Vsn) : ∀ (M : List (Spt × Vsn)) (es : List MapEntry) (j i : Nat) (u : Value), Ents es M -> findM M k j = some (i, u) -> j <= i /\ Ents (es.modify (i - j) (fun e => { e with key := sptV k, val := vsnV v })) (mput M k v) /\ (es.modify (i - j) (fun e => { e with key := sptV k, val := vsnV v })).map (·.born) = es.map (·.born) /\ (es[i - j]?).map (·.key) = some (sptV k)
 | [], _, _, _, _, _, h => by cases h
 | m :: M, [], _, _, _, h, _ => by have := h.len; simp at this
 | m :: M, e :: r, j, i, u, h, hf => by
   obtain ⟨h1, h2, h3⟩ := h.cons
   unfold findM at hf
   by_cases e1 : m.1 = k
   .rw [if_pos e1] at hf
    injection hf with hf
    injection hf with hf1 hf2
    subst hf1
    refine ⟨Nat.le_refl _, ?_, ?_, ?_⟩
    .rw [Nat.sub_self]
     unfold mput
     rw [if_pos e1]
     unfold Ents at h3 ⊢
     simp [List.modify_zero_cons, h3]
    .rw [Nat.sub_self]; simp [List.modify_zero_cons]
    .rw [Nat.sub_self, <- e1, <- h1]; rfl
   .rw [if_neg e1] at hf
    obtain ⟨i1, i2, i3, i4⟩ := upd_found k v M r (j + 1) i u h3 hf
    obtain ⟨n, hn⟩ : ∃ n, i - j = n + 1 := ⟨i - j - 1, by omega⟩
    have hn2 : i - (j + 1) = n := by omega
    rw [hn2] at i2 i3 i4
    rw [hn]
    refine ⟨by omega, ?_, ?_, ?_⟩
    .unfold mput
     rw [if_neg e1, List.modify_succ_cons]
     unfold Ents at i2 ⊢
     rw [List.map_cons, List.map_cons, i2, h1, h2]
    .rw [List.modify_succ_cons, List.map_cons, List.map_cons, i3]
    .rw [List.getElem?_cons_succ]; exact i4
theorem upd_none (k : Spt) (v : Vsn) : ∀ (M : List (Spt × Vsn)) (j : Nat), findM M k j = none -> mput M k v = M ++ [(k, v)] /\ ¬ k ∈ M.map Prod.fst
 | [], _, _ => ⟨rfl, by simp⟩
 | m :: r, j, h => by
   unfold findM at h
   by_cases e : m.1 = k
   .rw [if_pos e] at h; cases h
   .rw [if_neg e] at h
    obtain ⟨i1, i2⟩ := upd_none k v r (j + 1) h
    refine ⟨?_, ?_⟩
    .unfold mput; rw [if_neg e, i1]; rfl
    .rw [List.map_cons]
     intro z
     rcases List.mem_cons.1 z with y | y
     .exact e y.symm
     .exact i2 y
theorem fr_setBlock (w : World) (b : Nat) (o : Obj) : Fr (fun g => g = b) w (setBlock w b o) := ⟨rfl, rfl, rfl, by unfold setBlock; simp, fun g _ hn => by
 unfold setBlock
 exact Array.getElem?_setIfInBounds_ne (fun z => hn z.symm)⟩
theorem heap_setBlock {w : World} {b : Nat} {o : Obj} (h : b < w.heap.size) : (setBlock w b o).heap[b]? = some o := by
 unfold setBlock
 exact Array.getElem?_setIfInBounds_self_of_lt h
theorem run_upd (W : World) (b : Nat) (M : List (Spt × Vsn)) (h : MP W b M) (k : Spt) (v : Vsn) : ∃ o, (Instr.mapUpdate 116 (.map (some b)) (sptV k) (vsnV v)).run Tryz.prog W = .ok () (setBlock W b o) /\ MP (setBlock W b o) b (mput M k v) := by
 have hl := h.lt
 obtain ⟨es, cl, h1, h2, h3, h4, h5⟩ := h
 have hf := run_findKey W k M es.toList h2
 cases hq : findM M k 0 with
 | none =>
   obtain ⟨e1, e2⟩ := upd_none k v M 0 hq
   refine ⟨.map (es.push { key := sptV k, val := vsnV v, born := cl }) (cl + 1), ?_, ?_⟩
   .unfold Instr.mapUpdate
    simp only [Sem.run_bind, run_underlying Tryz.underlying116, Result.andThen_ok, MapKept.run_getObj_map h1, run_checkSpot, hf, hq, MapKept.run_setObj_map _ h1]
    rfl
   .refine ⟨_, _, heap_setBlock hl, ?_, ?_, ?_, (mput_keys k v M h5).1⟩
    .rw [e1, Array.toList_push]
     unfold Ents at h2 ⊢
     simp [h2]
    .rw [Array.toList_push, List.map_append]
     refine List.nodup_append.2 ⟨h3, by simp, fun x hx y hy => ?_⟩
     simp at hy
     obtain ⟨e, he, rfl⟩ := List.mem_map.1 hx
     have := h4 e he
     omega
    .intro e he
     rw [Array.toList_push] at he
     rcases List.mem_append.1 he with z | z
     .have := h4 e z; omega
     .rw [List.mem_singleton] at z; subst z; simp
 | some z =>
   obtain ⟨i, u⟩ := z
   obtain ⟨_, g2, g3, g4⟩ := upd_found k v M es.toList 0 i u h2 hq
   rw [Nat.sub_zero] at g2 g3 g4
   have hk : ((es[i]?).map (·.key)).getD (sptV k) = sptV k := by
    rw [<- Array.getElem?_toList, g4]; rfl
   refine ⟨.map (es.modify i fun e => { e with key := sptV k, val := vsnV v }) cl, ?_, ?_⟩
   .unfold Instr.mapUpdate
    simp only [Sem.run_bind, run_underlying Tryz.underlying116, Result.andThen_ok, MapKept.run_getObj_map h1, run_checkSpot, hf, hq, hk, Instr.keyThatStays, sameSpot, if_true, Sem.run_pure, MapKept.run_setObj_map _ h1]
    rfl
   .refine ⟨_, _, heap_setBlock hl, ?_, ?_, ?_, (mput_keys k v M h5).1⟩
    .rw [Array.toList_modify]; exact g2
    .rw [Array.toList_modify, g3]; exact h3
    .intro e he
     rw [Array.toList_modify] at he
     have hb : e.born ∈ es.toList.map (·.born) := by rw [<- g3]; exact List.mem_map_of_mem he
     obtain ⟨e', he', hbe⟩ := List.mem_map.1 hb
     have := h4 e' he'
     omega
end Go.Proofs.YtblkgicbimflhaaGreat
namespace Go.Proofs.YtblkgicbimflhaaGreat
open Go.ChangeShapes Go.WideShapes Go.ChangeAt Go.RowKit
set_option linter.unusedVariables false
set_option linter.unusedSimpArgs false
set_option maxRecDepth 100000
set_option maxHeartbeats 16000000
open Go.ChangeMaps (setBlock)
open Go.Maps
theorem run_clearM (W : World) (b ty : Nat) (M : List (Spt × Vsn)) (h : MP W b M) : ∃ o, (Builtin.clear_ #[116] ty #[.map (some b)]).run Tryz.prog W = .ok (.tuple #[]) (setBlock W b o) /\ MP (setBlock W b o) b [] := by
 have hl := h.lt
 obtain ⟨es, cl, h1, _⟩ := h
 refine ⟨.map #[] cl, ?_, ⟨#[], cl, heap_setBlock hl, rfl, List.Pairwise.nil, by simp, List.Pairwise.nil⟩⟩
 unfold Builtin.clear_
 simp [run_underlying Tryz.underlying116, MapKept.run_getObj_map h1, MapKept.run_setObj_map _ h1, setBlock, Result.andThen]
theorem ents_at : ∀ {es : List MapEntry} {M : List (Spt × Vsn)}, Ents es M -> ∀ e ∈ es, ∃ m ∈ M, e.key = sptV m.1 /\ e.val = vsnV m.2
 | [], _, _ => fun e he => by cases he
 | e :: r, [], h => by have := h.len; simp at this
 | e :: r, m :: M, h => fun x hx => by
   obtain ⟨h1, h2, h3⟩ := h.cons
   rcases List.mem_cons.1 hx with z | z
   .subst z; exact ⟨m, List.mem_cons_self, h1, h2⟩
   .obtain ⟨n, hn, q⟩ := ents_at h3 x z; exact ⟨n, List.mem_cons_of_mem _ hn, q⟩
theorem ents_of : ∀ {es : List MapEntry} {M : List (Spt × Vsn)}, Ents es M -> ∀ m ∈ M, ∃ e ∈ es, e.key = sptV m.1 /\ e.val = vsnV m.2
 | _, [], _ => fun m hm => by cases hm
 | [], m :: M, h => by have := h.len; simp at this
 | e :: r, m :: M, h => fun x hx => by
   obtain ⟨h1, h2, h3⟩ := h.cons
   rcases List.mem_cons.1 hx with z | z
   .subst z; exact ⟨e, List.mem_cons_self, h1, h2⟩
   .obtain ⟨n, hn, q⟩ := ents_of h3 x z; exact ⟨n, List.mem_cons_of_mem _ hn, q⟩
theorem sptV_inj {a b : Spt} (h : sptV a = sptV b) : a = b := by
 unfold sptV at h
 simp at h
 exact Prod.ext h.1 h.2
theorem ents_key : ∀ {es : List MapEntry} {M : List (Spt × Vsn)}, Ents es M -> (M.map Prod.fst).Nodup -> ∀ e ∈ es, ∀ e' ∈ es, e.key = e'.key -> e = e'
 | [], _, _, _ => fun e he => by cases he
 | e :: r, [], h, _ => by have := h.len; simp at this
 | e :: r, m :: M, h, hn => by
   obtain ⟨h1, h2, h3⟩ := h.cons
   rw [List.map_cons] at hn
   obtain ⟨n1, n2⟩ := List.nodup_cons.1 hn
   have hne : ∀ x ∈ r, x.key ≠ e.key := fun x hx hq => by
    obtain ⟨n, hnM, q1, _⟩ := ents_at h3 x hx
    rw [q1, h1] at hq
    have := sptV_inj hq
    exact n1 (by rw [<- this]; exact List.mem_map_of_mem hnM)
   intro x hx y hy hk
   rcases List.mem_cons.1 hx with z | z
   .rcases List.mem_cons.1 hy with u | u
    .rw [z, u]
    .subst z; exact absurd hk.symm (hne y u)
   .rcases List.mem_cons.1 hy with u | u
    .subst u; exact absurd hk (hne x z)
    .exact ents_key h3 n2 x z y u hk
def IT (w : World) (r b : Nat) (M : List (Spt × Vsn)) (D : List Spt) : Prop := ∃ es cl seen, w.heap[b]? = some (.map es cl) /\ Ents es.toList M /\ (es.toList.map (·.born)).Nodup /\ (∀ e ∈ es.toList, e.born < cl) /\ (M.map Prod.fst).Nodup /\ w.heap[r]? = some (.mapIter (some b) cl seen cl) /\ ∀ e ∈ es.toList, ∀ k, e.key = sptV k -> (seen.contains e.born = true ↔ k ∈ D)
theorem IT.mp {w : World} {r b : Nat} {M : List (Spt × Vsn)} {D : List Spt} (h : IT w r b M D) : MP w b M := by
 obtain ⟨es, cl, seen, h1, h2, h3, h4, h5, _⟩ := h
 exact ⟨es, cl, h1, h2, h3, h4, h5⟩
theorem IT.ne {w : World} {r b : Nat} {M : List (Spt × Vsn)} {D : List Spt} (h : IT w r b M D) : r ≠ b := fun e => by
 obtain ⟨es, cl, seen, h1, h2, h3, h4, h5, h6, _⟩ := h
 rw [e, h1] at h6
 cases h6
theorem IT.lt {w : World} {r b : Nat} {M : List (Spt × Vsn)} {D : List Spt} (h : IT w r b M D) : r < w.heap.size := by
 obtain ⟨es, cl, seen, h1, h2, h3, h4, h5, h6, _⟩ := h
 exact (Array.getElem?_eq_some_iff.1 h6).1
theorem IT.fr {S : Nat -> Prop} {w w' : World} {r b : Nat} {M : List (Spt × Vsn)} {D : List Spt} (h : IT w r b M D) (hk : Fr S w w') (hb : ¬ S b) (hr : ¬ S r) : IT w' r b M D /\ w'.rangeLeft b r = w.rangeLeft b r := by
 have h1 := h.mp.lt
 have h2 := h.lt
 have e1 := hk.block b h1 hb
 have e2 := hk.block r h2 hr
 obtain ⟨es, cl, seen, a1, a2, a3, a4, a5, a6, a7⟩ := h
 exact ⟨⟨es, cl, seen, e1.trans a1, a2, a3, a4, a5, e2.trans a6, a7⟩, by simp only [World.rangeLeft, e1, e2]⟩
theorem run_rangeM (W : World) (b : Nat) (M : List (Spt × Vsn)) (h : MP W b M) : ∃ o, (Instr.range 116 (.map (some b))).run Tryz.prog W = .ok (.pointer (some ⟨W.heap.size, 0, none⟩)) (W.alloc o) /\ IT (W.alloc o) W.heap.size b M [] := by
 have hl := h.lt
 obtain ⟨es, cl, h1, h2, h3, h4, h5⟩ := h
 refine ⟨.mapIter (some b) cl #[] cl, ?_, ⟨es, cl, #[], ?_, h2, h3, h4, h5, Array.getElem?_push_size, fun e he k hk => by simp⟩⟩
 .unfold Instr.range
  simp [run_underlying Tryz.underlying116, MapKept.run_getObj_map h1, Result.andThen, go_sem]
 .rw [Below.heap_alloc W _ b hl]; exact h1
theorem IT.next {w : World} {r b : Nat} {M : List (Spt × Vsn)} {D : List Spt} (h : IT w r b M D) (ty : Nat) :
 ((∀ m ∈ M, m.1 ∈ D) /\ (Instr.next (.pointer (some ⟨r, 0, none⟩)) false ty).run Tryz.prog w = .ok (.tuple #[.bool false]) w) \/
 ∃ m w', m ∈ M /\ ¬ m.1 ∈ D /\ (Instr.next (.pointer (some ⟨r, 0, none⟩)) false ty).run Tryz.prog w = .ok (.tuple #[.bool true, sptV m.1, vsnV m.2]) w' /\ IT w' r b M (m.1 :: D) /\ Fr (fun g => g = r) w w' /\ w'.heap.size = w.heap.size /\ w'.rangeLeft b r < w.rangeLeft b r /\ (Instr.entry (.pointer (some ⟨r, 0, none⟩))).run Tryz.prog w' = .ok (.tuple #[sptV m.1, vsnV m.2]) w' := by
 have hne := h.ne
 have hrl := h.lt
 obtain ⟨es, cl, seen, h1, h2, h3, h4, h5, h6, h7⟩ := h
 rcases run_next_at (P := Tryz.prog) w ty r b cl cl seen es cl h6 h1 h4 (Nat.le_refl _) with ⟨h0, hrun⟩ | ⟨e, he, w1, hal, hrun⟩
 .refine .inl ⟨fun m hm => ?_, hrun⟩
  obtain ⟨e, he, k1, _⟩ := ents_of h2 m hm
  exact (h7 e he m.1 k1).1 (all_seen es seen h0 e he)
 .obtain ⟨hem, hes⟩ := mem_left he
  obtain ⟨m, hm, k1, k2⟩ := ents_at h2 e hem
  have hr1 : w1.heap[r]? = some (.mapIter (some b) cl seen cl) := by rcases hal with rfl | rfl <;> exact h6
  have hb1 : w1.heap[b]? = some (.map es cl) := by rcases hal with rfl | rfl <;> exact h1
  have hsz : w1.heap.size = w.heap.size := by rcases hal with rfl | rfl <;> rfl
  have hset := MapKept.heap_set (o' := .mapIter (some b) cl (seen.push e.born) cl) hr1
  have hb' : (setBlock w1 r (.mapIter (some b) cl (seen.push e.born) cl)).heap[b]? = some (.map es cl) := (hset.2 b (fun e1 => hne e1.symm)).trans hb1
  have hr' : (setBlock w1 r (.mapIter (some b) cl (seen.push e.born) cl)).heap[r]? = some (.mapIter (some b) cl (seen.push e.born) cl) := hset.1
  rw [k1, k2] at hrun
  have hen := run_entry_at (P := Tryz.prog) _ r b cl seen es cl e hr' hb' hem h3
  rw [k1, k2] at hen
  refine .inr ⟨m, _, hm, fun z => ?_, hrun, ⟨es, cl, seen.push e.born, hb', h2, h3, h4, h5, hr', fun x hx k hk => ?_⟩, ?_, by simp [setBlock, hsz], ?_, hen⟩
  .have := (h7 e hem m.1 k1).2 z
   rw [hes] at this
   cases this
  .rw [contains_push, Bool.or_eq_true, h7 x hx k hk, List.mem_cons]
   constructor
   .rintro (z | z)
    .exact .inr z
    .have hb : x.born = e.born := by simpa using z
     have hxe : x = e := by
      have := find_born e es.toList h3 hem
      have h8 := find_born x es.toList h3 hx
      rw [hb] at h8
      rw [this] at h8
      injection h8 with h8
      exact h8.symm
     subst hxe
     rw [k1] at hk
     exact .inl (sptV_inj hk).symm
   .rintro (z | z)
    .subst z
     have hxe := ents_key h2 h5 x hx e hem (hk.trans k1.symm)
     subst hxe
     exact .inr (by simp)
    .exact .inl z
  .have hf := fr_setBlock w1 r (.mapIter (some b) cl (seen.push e.born) cl)
   rcases hal with rfl | rfl
   .exact hf
   .exact ⟨hf.os, hf.tape, hf.output, hf.size, hf.block⟩
  .simp only [World.rangeLeft, hb', hr', h1, h6]
   exact left_shrinks es seen e he
end Go.Proofs.YtblkgicbimflhaaGreat
namespace Go.Proofs.YtblkgicbimflhaaGreat
open Go.ChangeShapes Go.WideShapes Go.ChangeAt Go.RowKit
set_option linter.unusedVariables false
set_option linter.unusedSimpArgs false
set_option maxRecDepth 100000
set_option maxHeartbeats 16000000
def nrm (c : Cel) : Vsn := (if c.gn then 0 else c.vl, !c.gn)
def versC (cms : List Com) (t y : Int) : List Ver := cms.filterMap (fun c => (newC c.cs t y).map (fun x => (c.st, nrm x)))
def seesN (cms : List Com) (bg : Int) (own : List Cel) (t y : Int) : Vsn := match (newC own t y).or (seenC cms bg t y) with
 | some c => nrm c
 | none => (0, false)
theorem last_fm {α β : Type} (f : α -> Option β) (l : List α) : (l.filterMap f).getLast? = l.reverse.findSome? f := by
 rw [List.getLast?_eq_head?_reverse, <- List.filterMap_reverse, List.head?_filterMap]
theorem verAt_vers (cms : List Com) (bg t y : Int) : verAt (versC cms t y) bg = match seenC cms bg t y with
 | some c => nrm c
 | none => (0, false) := by
 have e : (versC cms t y).filter (fun v => decide (v.1 <= bg)) = cms.filterMap (fun c => (comN bg t y c).map (fun x => (c.st, nrm x))) := by
  unfold versC
  rw [List.filter_filterMap]
  congr 1
  funext c
  unfold comN
  by_cases h : bg < c.st
  .rw [if_pos h]
   cases newC c.cs t y with
   | none => rfl
   | some x => simp [Option.filter, h]
  .rw [if_neg h]
   cases newC c.cs t y with
   | none => rfl
   | some x => simp [Option.filter]; omega
 unfold verAt
 rw [e, last_fm]
 unfold seenC
 have key : ∀ l : List Com, l.findSome? (fun c => (comN bg t y c).map (fun x => ((c.st, nrm x) : Ver))) = none /\ l.findSome? (comN bg t y) = none \/ ∃ v x, l.findSome? (fun c => (comN bg t y c).map (fun x => ((c.st, nrm x) : Ver))) = some v /\ l.findSome? (comN bg t y) = some x /\ v.2 = nrm x := by
  intro l
  induction l with
  | nil => exact .inl ⟨rfl, rfl⟩
  | cons c r ih =>
    rw [List.findSome?_cons, List.findSome?_cons]
    cases hc : comN bg t y c with
    | none => simpa using ih
    | some x => exact .inr ⟨(c.st, nrm x), x, rfl, rfl, rfl⟩
 rcases key cms.reverse with ⟨h1, h2⟩ | ⟨v, x, h1, h2, h3⟩
 .rw [h1, h2]
 .rw [h1, h2]; exact h3
theorem seesN_own {cms : List Com} {bg t y : Int} {own : List Cel} {c : Cel} (h : newC own t y = some c) : seesN cms bg own t y = nrm c := by
 unfold seesN; rw [h]; rfl
theorem seesN_com {cms : List Com} {bg t y : Int} {own : List Cel} (h : newC own t y = none) : seesN cms bg own t y = verAt (versC cms t y) bg := by
 unfold seesN; rw [h, verAt_vers]; rfl
theorem seesF_N (cms : List Com) (bg : Int) (own : List Cel) (t y : Int) : (if (seesF cms bg own t y).2 then ((seesF cms bg own t y).1, true) else ((0 : Int), false)) = seesN cms bg own t y := by
 unfold seesF seesN
 cases (newC own t y).or (seenC cms bg t y) with
 | none => rfl
 | some c =>
   unfold telC nrm
   simp only
   cases hg : c.gn <;> simp
theorem vers_snoc (cms : List Com) (c : Com) (t y : Int) : versC (cms ++ [c]) t y = versC cms t y ++ (match newC c.cs t y with
 | some x => [(c.st, nrm x)]
 | none => []) := by
 unfold versC
 rw [List.filterMap_append]
 congr 1
 rw [List.filterMap_cons]
 cases newC c.cs t y <;> rfl
theorem vers_behind (cms : List Com) (t y bg : Int) : (versC cms t y).any (fun v => decide (bg < v.1)) = cms.any (fun c => decide (bg < c.st) && (newC c.cs t y).isSome) := by
 unfold versC
 induction cms with
 | nil => rfl
 | cons c r ih =>
   rw [List.filterMap_cons, List.any_cons, <- ih]
   cases newC c.cs t y with
   | none => simp
   | some x => simp
theorem any_last {vs : List Ver} (hs : (vs.map (·.1)).Pairwise (· < ·)) (bg : Int) : vs.any (fun v => decide (bg < v.1)) = match vs.getLast? with
 | some v => decide (bg < v.1)
 | none => false := by
 cases hq : vs.getLast? with
 | none =>
   have : vs = [] := List.getLast?_eq_none_iff.1 hq
   rw [this]; rfl
 | some v =>
   simp only
   obtain ⟨r, hr⟩ : ∃ r, vs = r ++ [v] := by
    have := List.getLast?_eq_some_iff.1 hq
    exact this
   subst hr
   rw [List.map_append] at hs
   have h1 := (List.pairwise_append.1 hs).2.2
   rw [List.any_append, List.any_cons, List.any_nil, Bool.or_false]
   by_cases hv : bg < v.1
   .simp [hv]
   .have : r.any (fun v => decide (bg < v.1)) = false := List.any_eq_false.2 (fun z hz => by
     have := h1 z.1 (List.mem_map_of_mem hz) v.1 (by simp)
     simp; omega)
    rw [this]
    simp [hv]
theorem insK_sorted {out : List Int} (hs : out.Pairwise (· < ·)) (k : Int) : (insK out k).Pairwise (· < ·) /\ ∀ q, q ∈ insK out k ↔ q ∈ out \/ q = k := by
 have hsplit : out.takeWhile (fun x => decide (x < k)) ++ out.dropWhile (fun x => decide (x < k)) = out := List.takeWhile_append_dropWhile
 have hT : ∀ q ∈ out.takeWhile (fun x => decide (x < k)), q < k := fun q hq => by
  have h := List.all_eq_true.1 (List.all_takeWhile (p := fun x => decide (x < k)) (l := out)) q hq
  simpa using h
 have hD : ∀ q ∈ out.dropWhile (fun x => decide (x < k)), k <= q := by
  have hs2 : (out.dropWhile (fun x => decide (x < k))).Pairwise (· < ·) := by
   rw [<- hsplit] at hs
   exact (List.pairwise_append.1 hs).2.1
  cases hq : out.dropWhile (fun x => decide (x < k)) with
  | nil => intro q h; cases h
  | cons a r =>
    have ha : ¬ a < k := by
     have := List.head?_dropWhile_not (fun x => decide (x < k)) out
     rw [hq] at this
     simpa using this
    rw [hq] at hs2
    intro q h
    rcases List.mem_cons.1 h with z | z
    .rw [z]; omega
    .have := (List.pairwise_cons.1 hs2).1 q z; omega
 unfold insK
 by_cases hh : (out.dropWhile (fun x => decide (x < k))).head? = some k
 .rw [if_pos hh]
  refine ⟨hs, fun q => ⟨fun h => .inl h, fun h => ?_⟩⟩
  rcases h with z | z
  .exact z
  .subst z
   rw [<- hsplit]
   exact List.mem_append_right _ (List.mem_of_mem_head? hh)
 .rw [if_neg hh]
  refine ⟨?_, fun q => ?_⟩
  .rw [<- hsplit] at hs
   obtain ⟨p1, p2, p3⟩ := List.pairwise_append.1 hs
   refine List.pairwise_append.2 ⟨p1, List.pairwise_cons.2 ⟨fun q hq => ?_, p2⟩, fun a ha b hb => ?_⟩
   .have h1 := hD q hq
    rcases Int.lt_or_eq_of_le h1 with z | z
    .exact z
    .exfalso
     subst z
     cases hd : out.dropWhile (fun x => decide (x < k)) with
     | nil => rw [hd] at hq; cases hq
     | cons a r =>
       rw [hd] at hq p2 hh hD
       have ha := hD a List.mem_cons_self
       rcases List.mem_cons.1 hq with y | y
       .exact hh (by rw [y]; rfl)
       .have := (List.pairwise_cons.1 p2).1 k y; omega
   .rcases List.mem_cons.1 hb with z | z
    .rw [z]; exact hT a ha
    .exact p3 a ha b z
  .constructor
   .intro h
    rcases List.mem_append.1 h with z | z
    .exact .inl (by rw [<- hsplit]; exact List.mem_append_left _ z)
    .rcases List.mem_cons.1 z with y | y
     .exact .inr y
     .exact .inl (by rw [<- hsplit]; exact List.mem_append_right _ y)
   .intro h
    rcases h with z | z
    .rw [<- hsplit] at z
     rcases List.mem_append.1 z with y | y
     .exact List.mem_append_left _ y
     .exact List.mem_append_right _ (List.mem_cons_of_mem _ y)
    .rw [z]; exact List.mem_append_right _ List.mem_cons_self
theorem foldK_sorted (tb : Int) : ∀ (cs : List Cel) (out : List Int), out.Pairwise (· < ·) -> (cs.foldl (putK tb) out).Pairwise (· < ·) /\ ∀ q, q ∈ cs.foldl (putK tb) out ↔ q ∈ out \/ ∃ c ∈ cs, c.tb = tb /\ c.ky = q
 | [], out, h => ⟨h, fun q => by simp⟩
 | c :: r, out, h => by
   rw [List.foldl_cons]
   unfold putK
   by_cases e : c.tb = tb
   .rw [if_pos e]
    obtain ⟨s1, s2⟩ := insK_sorted h c.ky
    obtain ⟨i1, i2⟩ := foldK_sorted tb r (insK out c.ky) s1
    refine ⟨i1, fun q => ?_⟩
    have := i2 q
    unfold putK at this
    rw [this, s2]
    constructor
    .rintro ((z | z) | ⟨d, hd, y⟩)
     .exact .inl z
     .exact .inr ⟨c, List.mem_cons_self, e, z.symm⟩
     .exact .inr ⟨d, List.mem_cons_of_mem _ hd, y⟩
    .rintro (z | ⟨d, hd, y⟩)
     .exact .inl (.inl z)
     .rcases List.mem_cons.1 hd with u | u
      .subst u; exact .inl (.inr y.2.symm)
      .exact .inr ⟨d, u, y⟩
   .rw [if_neg e]
    obtain ⟨i1, i2⟩ := foldK_sorted tb r out h
    refine ⟨i1, fun q => ?_⟩
    have := i2 q
    unfold putK at this
    rw [this]
    constructor
    .rintro (z | ⟨d, hd, y⟩)
     .exact .inl z
     .exact .inr ⟨d, List.mem_cons_of_mem _ hd, y⟩
    .rintro (z | ⟨d, hd, y⟩)
     .exact .inl z
     .rcases List.mem_cons.1 hd with u | u
      .subst u; exact absurd y.1 e
      .exact .inr ⟨d, u, y⟩
theorem keysF_sorted (cms : List Com) (own : List Cel) (tb : Int) : (keysF cms own tb).Pairwise (· < ·) /\ ∀ q, q ∈ keysF cms own tb ↔ ∃ c ∈ allC cms own, c.tb = tb /\ c.ky = q := by
 obtain ⟨h1, h2⟩ := foldK_sorted tb (allC cms own) [] List.Pairwise.nil
 refine ⟨h1, fun q => ?_⟩
 have := h2 q
 show q ∈ List.foldl (putK tb) [] (allC cms own) ↔ _
 simpa using this
theorem rise_ext : ∀ {L M : List (Int × Int)}, (L.map Prod.fst).Pairwise (· < ·) -> (M.map Prod.fst).Pairwise (· < ·) -> (∀ p, p ∈ L ↔ p ∈ M) -> L = M
 | [], [], _, _, _ => rfl
 | [], b :: M, _, _, h => by have := (h b).2 List.mem_cons_self; cases this
 | a :: L, [], _, _, h => by have := (h a).1 List.mem_cons_self; cases this
 | a :: L, b :: M, h1, h2, h => by
   rw [List.map_cons] at h1 h2
   obtain ⟨p1, p2⟩ := List.pairwise_cons.1 h1
   obtain ⟨q1, q2⟩ := List.pairwise_cons.1 h2
   have hab : a = b := by
    rcases List.mem_cons.1 ((h a).1 List.mem_cons_self) with z | z
    .exact z
    .rcases List.mem_cons.1 ((h b).2 List.mem_cons_self) with y | y
     .exact y.symm
     .have u1 := q1 a.1 (List.mem_map_of_mem z)
      have u2 := p1 b.1 (List.mem_map_of_mem y)
      omega
   subst hab
   congr 1
   refine rise_ext p2 q2 (fun p => ⟨fun hp => ?_, fun hp => ?_⟩)
   .rcases List.mem_cons.1 ((h p).1 (List.mem_cons_of_mem _ hp)) with z | z
    .exfalso; have := p1 p.1 (List.mem_map_of_mem hp); rw [z] at this; omega
    .exact z
   .rcases List.mem_cons.1 ((h p).2 (List.mem_cons_of_mem _ hp)) with z | z
    .exfalso; have := q1 p.1 (List.mem_map_of_mem hp); rw [z] at this; omega
    .exact z
theorem newC_mem {cs : List Cel} {t y : Int} {c : Cel} (h : newC cs t y = some c) : c ∈ cs /\ c.tb = t /\ c.ky = y := by
 unfold newC at h
 have hm := List.mem_of_getLast? h
 rw [List.mem_filter] at hm
 refine ⟨hm.1, ?_⟩
 have := hm.2
 unfold hits at this
 simpa using this
theorem seen_mem {cms : List Com} {bg t y : Int} {c : Cel} (h : seenC cms bg t y = some c) : c ∈ cms.flatMap (·.cs) /\ c.tb = t /\ c.ky = y := by
 unfold seenC at h
 obtain ⟨d, hd, he⟩ := List.exists_of_findSome?_eq_some h
 unfold comN at he
 split at he
 .cases he
 .obtain ⟨h1, h2⟩ := newC_mem he
  exact ⟨List.mem_flatMap.2 ⟨d, List.mem_reverse.1 hd, h1⟩, h2⟩
theorem sees_key {cms : List Com} {bg t y v : Int} {own : List Cel} (h : seesN cms bg own t y = (v, true)) : y ∈ keysF cms own t := by
 rw [(keysF_sorted cms own t).2]
 unfold seesN at h
 cases hq : newC own t y with
 | some c =>
   obtain ⟨h1, h2⟩ := newC_mem hq
   exact ⟨c, List.mem_append_left _ h1, h2⟩
 | none =>
   rw [hq] at h
   cases hs : seenC cms bg t y with
   | none => rw [hs] at h; cases h
   | some c =>
     obtain ⟨h1, h2⟩ := seen_mem hs
     exact ⟨c, List.mem_append_right _ h1, h2⟩
theorem fm_fst {f : Int -> Option (Int × Int)} (hf : ∀ k p, f k = some p -> p.1 = k) : ∀ (ks : List Int), ks.Pairwise (· < ·) -> ((ks.filterMap f).map Prod.fst).Pairwise (· < ·)
 | [], _ => List.Pairwise.nil
 | k :: r, h => by
   obtain ⟨h1, h2⟩ := List.pairwise_cons.1 h
   rw [List.filterMap_cons]
   cases hk : f k with
   | none => exact fm_fst hf r h2
   | some p =>
     simp only
     rw [List.map_cons]
     refine List.pairwise_cons.2 ⟨fun q hq => ?_, fm_fst hf r h2⟩
     obtain ⟨z, hz, rfl⟩ := List.mem_map.1 hq
     obtain ⟨j, hj, he⟩ := List.mem_filterMap.1 hz
     rw [hf k p hk, hf j z he]
     exact h1 j hj
theorem list_is {cms : List Com} {bg t : Int} {own : List Cel} {L : List (Int × Int)} (hs : (L.map Prod.fst).Pairwise (· < ·)) (h : ∀ y v, (y, v) ∈ L ↔ seesN cms bg own t y = (v, true)) : L = listF cms bg own t := by
 have hpa : ∀ k p, pairAt cms bg own t k = some p -> p.1 = k /\ seesN cms bg own t k = (p.2, true) := fun k p hp => by
  have hn := seesF_N cms bg own t k
  unfold pairAt at hp
  revert hp
  generalize seesF cms bg own t k = z at hn
  obtain ⟨z1, z2⟩ := z
  cases z2
  .intro hp; simp at hp
  .intro hp; simp at hp hn; subst hp; exact ⟨rfl, hn.symm⟩
 have hpb : ∀ k v, seesN cms bg own t k = (v, true) -> pairAt cms bg own t k = some (k, v) := fun k v hv => by
  have hn := seesF_N cms bg own t k
  unfold pairAt
  revert hn
  generalize seesF cms bg own t k = z
  obtain ⟨z1, z2⟩ := z
  rw [hv]
  cases z2
  .intro hn; simp at hn
  .intro hn; simp at hn ⊢; exact hn
 refine rise_ext hs ?_ (fun p => ?_)
 .exact fm_fst (fun k p hp => (hpa k p hp).1) _ (keysF_sorted cms own t).1
 .obtain ⟨y, v⟩ := p
  rw [h]
  unfold listF pairsF
  rw [List.mem_filterMap]
  constructor
  .intro hv
   exact ⟨y, sees_key hv, hpb y v hv⟩
  .rintro ⟨k, hk, he⟩
   obtain ⟨h1, h2⟩ := hpa k _ he
   simp only at h1 h2
   subst h1
   exact h2
theorem list_fst (cms : List Com) (bg t : Int) (own : List Cel) : ((listF cms bg own t).map Prod.fst).Pairwise (· < ·) := by
 refine fm_fst (fun k p hp => ?_) _ (keysF_sorted cms own t).1
 unfold pairAt at hp
 split at hp
 .injection hp with hp; rw [<- hp]
 .cases hp
theorem list_mem {cms : List Com} {bg t y v : Int} {own : List Cel} : (y, v) ∈ listF cms bg own t ↔ seesN cms bg own t y = (v, true) := by
 unfold listF pairsF
 rw [List.mem_filterMap]
 constructor
 .rintro ⟨k, hk, he⟩
  have hn := seesF_N cms bg own t k
  unfold pairAt at he
  revert he
  generalize seesF cms bg own t k = z at hn
  obtain ⟨z1, z2⟩ := z
  cases z2
  .intro he; simp at he
  .intro he; simp at he hn; obtain ⟨rfl, rfl⟩ := he; exact hn.symm
 .intro hv
  refine ⟨y, sees_key hv, ?_⟩
  have hn := seesF_N cms bg own t y
  unfold pairAt
  revert hn
  generalize seesF cms bg own t y = z
  obtain ⟨z1, z2⟩ := z
  rw [hv]
  cases z2
  .intro hn; simp at hn
  .intro hn; simp at hn ⊢; exact hn
theorem list_ext {cms cms' : List Com} {bg bg' t : Int} {own own' : List Cel} (h : ∀ y, seesN cms bg own t y = seesN cms' bg' own' t y) : listF cms bg own t = listF cms' bg' own' t :=
 list_is (list_fst cms bg t own) (fun y v => by rw [list_mem, h])
theorem seen_new {cms : List Com} {bg t y : Int} {c : Com} (h : bg < c.st) : seenC (cms ++ [c]) bg t y = seenC cms bg t y := by
 unfold seenC
 rw [List.reverse_append, List.reverse_singleton, List.singleton_append, List.findSome?_cons]
 unfold comN
 rw [if_pos h]
theorem set_smN {α : Type} {l : List α} {i : Nat} {a : α} (h : l[i]? = some a) : l.set i a = l := by
 obtain ⟨h1, rfl⟩ := List.getElem?_eq_some_iff.1 h
 exact List.set_getElem_self h1
theorem getD_stN {α : Type} (l : List α) (i j : Nat) (a d : α) (hi : i < l.length) : (l.set i a).getD j d = if i = j then a else l.getD j d := by
 rw [List.getD_eq_getElem?_getD, List.getD_eq_getElem?_getD]
 by_cases e : i = j
 .subst e
  rw [if_pos rfl, List.getElem?_set_self hi]
  rfl
 .rw [if_neg e, List.getElem?_set_ne e]
theorem rd0_len : rd0.length = 32 := by unfold rd0; rw [List.length_replicate]
def txS (t : Txn) (o : Opn) : Txn :=
 if o.kd = 1 then t
 else if (2 <= o.kd /\ o.kd <= 5) /\ (o.tb < 0 \/ 32 <= o.tb) then t
 else if o.kd = 2 \/ o.kd = 3 then { t with rs := t.rs.set o.tb.toNat true }
 else if o.kd <= 5 then { t with own := t.own ++ [⟨o.tb, o.ky, o.vl, decide (o.kd = 5)⟩] }
 else if o.kd = 8 then (if 8 <= t.sv.length then t else { t with sv := t.sv ++ [⟨o.nm, t.own⟩] })
 else match savedF t.sv o.nm with
  | none => t
  | some k => if o.kd = 9 then { t with own := (t.sv.getD k sv0).cs, sv := t.sv.take (k + 1) } else { t with sv := t.sv.take k }
def obsF (cms : List Com) (t : Txn) (o : Opn) : Obn :=
 if o.kd = 1 then ⟨22, 0, 0, false, []⟩
 else if (2 <= o.kd /\ o.kd <= 5) /\ (o.tb < 0 \/ 32 <= o.tb) then ⟨6, 0, 0, false, []⟩
 else if o.kd = 2 then (if (seesF cms t.bg t.own o.tb o.ky).2 then ⟨0, (seesF cms t.bg t.own o.tb o.ky).1, 0, true, []⟩ else ⟨0, 0, 0, false, []⟩)
 else if o.kd = 3 then ⟨0, 0, 0, false, listF cms t.bg t.own o.tb⟩
 else if o.kd <= 5 then ⟨0, 0, 0, false, []⟩
 else if o.kd = 8 then (if 8 <= t.sv.length then ⟨5, 0, 0, false, []⟩ else ⟨0, 0, 0, false, []⟩)
 else match savedF t.sv o.nm with
  | none => ⟨23, 0, 0, false, []⟩
  | some _ => ⟨0, 0, 0, false, []⟩
theorem run_open {x : Bas} {o : Opn} {i : Nat} {t : Txn} (ht : x.tx[i]? = some t) (hop : t.op = true) (hs : o.ss = (i : Int) + 1) (hi : i < 4) (hk : 1 <= o.kd /\ o.kd <= 10) (h6 : o.kd ≠ 6) (h7 : o.kd ≠ 7) : runF x o = ({ x with tx := x.tx.set i (txS t o) }, obsF x.cms t o) := by
 have hg : ¬ (o.kd < 1 \/ 10 < o.kd \/ o.ss < 1 \/ 4 < o.ss) := by omega
 have e1 : (o.ss - 1).toNat = i := by omega
 have hd : x.tx.getD i tx0 = t := by rw [List.getD_eq_getElem?_getD, ht]; rfl
 have hsame : ({ x with tx := x.tx.set i t } : Bas) = x := by rw [set_smN ht]
 unfold runF txS obsF
 rw [if_neg hg]
 simp only [e1, hd]
 by_cases k1 : o.kd = 1
 .rw [if_pos (by rw [k1, hop]; rfl), if_pos k1, if_pos k1, hsame]
 have e2 : ¬ (o.kd == 1) = t.op := by
  rw [hop]
  intro z
  exact k1 (by simpa using z)
 rw [if_neg e2]
 simp only [if_neg k1]
 by_cases htb : (2 <= o.kd /\ o.kd <= 5) /\ (o.tb < 0 \/ 32 <= o.tb)
 .rw [if_pos htb, if_pos htb, if_pos htb, hsame]
 rw [if_neg htb, if_neg htb, if_neg htb]
 by_cases k2 : o.kd = 2
 .rw [if_pos k2, if_pos (Or.inl k2), if_pos k2]
 by_cases k3 : o.kd = 3
 .rw [if_neg k2, if_pos k3, if_pos (Or.inr k3), if_neg k2, if_pos k3]
 rw [if_neg k2, if_neg k3, if_neg (show ¬ (o.kd = 2 \/ o.kd = 3) by omega), if_neg k2, if_neg k3]
 by_cases k5 : o.kd <= 5
 .rw [if_pos k5, if_pos k5, if_pos k5]
 rw [if_neg k5, if_neg k5, if_neg k5, if_neg h6, if_neg h7]
 unfold savesF
 simp only [hd]
 by_cases k8 : o.kd = 8
 .rw [if_pos k8, if_pos k8, if_pos k8]
  by_cases h8 : 8 <= t.sv.length
  .rw [if_pos h8, if_pos h8, if_pos h8, hsame]
  .rw [if_neg h8, if_neg h8, if_neg h8]
 .rw [if_neg k8, if_neg k8, if_neg k8]
  cases savedF t.sv o.nm with
  | none => simp only; rw [hsame]
  | some k =>
    simp only
    by_cases k9 : o.kd = 9
    .rw [if_pos k9, if_pos k9]
    .rw [if_neg k9, if_neg k9]
theorem txS_op (t : Txn) (o : Opn) : (txS t o).op = t.op /\ (txS t o).md = t.md /\ (txS t o).bg = t.bg := by
 unfold txS
 split
 .exact ⟨rfl, rfl, rfl⟩
 split
 .exact ⟨rfl, rfl, rfl⟩
 split
 .exact ⟨rfl, rfl, rfl⟩
 split
 .exact ⟨rfl, rfl, rfl⟩
 split
 .split <;> exact ⟨rfl, rfl, rfl⟩
 split
 .exact ⟨rfl, rfl, rfl⟩
 .split <;> exact ⟨rfl, rfl, rfl⟩
theorem txS_bg (t : Txn) (o : Opn) (b : Int) : txS { t with bg := b } o = { txS t o with bg := b } := by
 unfold txS
 simp only
 split
 .rfl
 split
 .rfl
 split
 .rfl
 split
 .rfl
 split
 .split <;> rfl
 split
 .rfl
 .split <;> rfl
theorem getD_true {rs : List Bool} {k j : Nat} (h : rs.getD j false = true) : (rs.set k true).getD j false = true := by
 rw [List.getD_eq_getElem?_getD] at h ⊢
 by_cases e : k = j
 .subst e
  rw [List.getElem?_set_self']
  cases hq : rs[k]? with
  | none => rw [hq] at h; cases h
  | some v => rfl
 .rw [List.getElem?_set_ne e]; exact h
theorem txS_rs {t : Txn} {o : Opn} {j : Nat} (h : t.rs.getD j false = true) : (txS t o).rs.getD j false = true := by
 unfold txS
 split
 .exact h
 split
 .exact h
 split
 .exact getD_true h
 split
 .exact h
 split
 .split <;> exact h
 split
 .exact h
 .split <;> exact h
theorem txS_len (t : Txn) (o : Opn) : (txS t o).rs.length = t.rs.length := by
 unfold txS
 split
 .rfl
 split
 .rfl
 split
 .simp
 split
 .rfl
 split
 .split <;> rfl
 split
 .rfl
 .split <;> rfl
theorem txS_read {t : Txn} {o : Opn} (hl : t.rs.length = 32) (hk : o.kd = 2 \/ o.kd = 3) (ht : ¬ (o.tb < 0 \/ 32 <= o.tb)) : (txS t o).rs.getD o.tb.toNat false = true := by
 unfold txS
 rw [if_neg (by omega), if_neg (by omega), if_pos hk]
 simp only
 rw [List.getD_eq_getElem?_getD, List.getElem?_set_self (by omega)]
 rfl
theorem obs_ext {cms cms' : List Com} {t t' : Txn} {o : Opn} (hown : t'.own = t.own) (hsv : t'.sv = t.sv) (h : (o.kd = 2 \/ o.kd = 3) -> ¬ (o.tb < 0 \/ 32 <= o.tb) -> ∀ y, seesN cms t.bg t.own o.tb y = seesN cms' t'.bg t.own o.tb y) : obsF cms t o = obsF cms' t' o := by
 unfold obsF
 rw [hown, hsv]
 by_cases k1 : o.kd = 1
 .rw [if_pos k1, if_pos k1]
 rw [if_neg k1, if_neg k1]
 by_cases htb : (2 <= o.kd /\ o.kd <= 5) /\ (o.tb < 0 \/ 32 <= o.tb)
 .rw [if_pos htb, if_pos htb]
 rw [if_neg htb, if_neg htb]
 by_cases k2 : o.kd = 2
 .rw [if_pos k2, if_pos k2]
  have hh := h (.inl k2) (by omega) o.ky
  have h1 := seesF_N cms t.bg t.own o.tb o.ky
  have h2 := seesF_N cms' t'.bg t.own o.tb o.ky
  rw [hh, <- h2] at h1
  revert h1
  generalize seesF cms t.bg t.own o.tb o.ky = p
  generalize seesF cms' t'.bg t.own o.tb o.ky = q
  obtain ⟨p1, p2⟩ := p
  obtain ⟨q1, q2⟩ := q
  cases p2 <;> cases q2 <;> simp
 by_cases k3 : o.kd = 3
 .rw [if_neg k2, if_pos k3, if_neg k2, if_pos k3, list_ext (h (.inr k3) (by omega))]
 rw [if_neg k2, if_neg k3, if_neg k2, if_neg k3]
def obsE (a b : Obn) : Prop := a.code = b.code /\ a.vl = b.vl /\ a.fd = b.fd /\ a.ps = b.ps
theorem obsE_refl (a : Obn) : obsE a a := ⟨rfl, rfl, rfl, rfl⟩
inductive Trc (us : List Opn) (got : List Obn) (cms : List Com) (i : Nat) (bg : Int) : List Nat -> Txn -> Prop
 | beg (n : Nat) (o : Opn) (a : Obn) (ho : us[n]? = some o) (hk : o.kd = 1) (hm : o.md = 2) (hs : o.ss = (i : Int) + 1) (ha : got[n]? = some a) (he : obsE a ⟨0, 0, 0, false, []⟩) : Trc us got cms i bg [n] ⟨true, 2, bg, [], rd0, []⟩
 | step (L : List Nat) (t : Txn) (n : Nat) (o : Opn) (a : Obn) (h : Trc us got cms i bg L t) (ho : us[n]? = some o) (hk : 1 <= o.kd /\ o.kd <= 10) (h6 : o.kd ≠ 6) (h7 : o.kd ≠ 7) (hs : o.ss = (i : Int) + 1) (ha : got[n]? = some a) (he : obsE a (obsF cms t o)) : Trc us got cms i bg (L ++ [n]) (txS t o)
theorem Trc.open {us : List Opn} {got : List Obn} {cms : List Com} {i : Nat} {bg : Int} {L : List Nat} {t : Txn} (h : Trc us got cms i bg L t) : t.op = true /\ t.md = 2 /\ t.bg = bg /\ t.rs.length = 32 := by
 induction h with
 | beg => exact ⟨rfl, rfl, rfl, rd0_len⟩
 | step L t n o a h ho hk h6 h7 hs ha he ih =>
   obtain ⟨e1, e2, e3⟩ := txS_op t o
   exact ⟨e1.trans ih.1, e2.trans ih.2.1, e3.trans ih.2.2.1, (txS_len t o).trans ih.2.2.2⟩
theorem Trc.more {us us' : List Opn} {got got' : List Obn} {cms cms' : List Com} {i : Nat} {bg : Int} {L : List Nat} {t : Txn} (h : Trc us got cms i bg L t) (hu : ∀ (n : Nat) o, us[n]? = some o -> us'[n]? = some o) (hg : ∀ (n : Nat) a, got[n]? = some a -> got'[n]? = some a) (hc : ∀ tb y, seenC cms' bg tb y = seenC cms bg tb y) : Trc us' got' cms' i bg L t := by
 induction h with
 | beg n o a ho hk hm hs ha he => exact .beg n o a (hu n o ho) hk hm hs (hg n a ha) he
 | step L t n o a h ho hk h6 h7 hs ha he ih =>
   refine .step L t n o a ih (hu n o ho) hk h6 h7 hs (hg n a ha) ?_
   rw [obs_ext (cms := cms') (cms' := cms) (t := t) (t' := t) rfl rfl (fun _ _ y => by unfold seesN; rw [h.open.2.2.1, hc])]
   exact he
theorem Trc.again {us : List Opn} {got : List Obn} {cms : List Com} {i : Nat} {bg : Int} {L : List Nat} {t : Txn} (h : Trc us got cms i bg L t) (hi : i < 4) (Y : List Com) (p : Int) (y : Bas) (hY : y.cms = Y) (hp : y.ck = p) (hx : y.tx.length = 4) (hcl : ∀ t, y.tx[i]? = some t -> t.op = false) :
 (∀ tb : Nat, t.rs.getD tb false = true -> ∀ ky, seenC Y p tb ky = seenC cms bg tb ky) ->
 ∃ os, L.map (fun n => us[n]?) = os.map some /\ (runsF y os).1 = { y with tx := y.tx.set i { t with bg := p } } /\ (runsF y os).2.length = L.length /\ ∀ (j : Nat) n a b, L[j]? = some n -> got[n]? = some a -> (runsF y os).2[j]? = some b -> obsE a b := by
 induction h with
 | beg n o a ho hk hm hs ha he =>
   intro _
   obtain ⟨t0, ht0⟩ : ∃ t, y.tx[i]? = some t := ⟨_, List.getElem?_eq_getElem (by omega)⟩
   have hc0 := hcl t0 ht0
   have hd : y.tx.getD i tx0 = t0 := by rw [List.getD_eq_getElem?_getD, ht0]; rfl
   have er : runF y o = ({ y with tx := y.tx.set i ⟨true, o.md, y.ck, [], rd0, []⟩ }, ⟨0, 0, y.ck, false, []⟩) := by
    unfold runF
    rw [if_neg (by omega)]
    simp only [show (o.ss - 1).toNat = i by omega, hd]
    rw [if_neg (by rw [hc0, hk]; decide), if_neg (by omega), if_pos hk, if_neg (by omega)]
   refine ⟨[o], by simp [ho], ?_, rfl, fun j m a' b hj ha' hb => ?_⟩
   .show (runF y o).1 = _
    rw [er, hm, hp]
   .cases j with
    | zero =>
      simp at hj
      subst hj
      rw [ha] at ha'
      injection ha' with ha'
      subst ha'
      have hb2 : b = (runF y o).2 := by
       have : ([(runF y o).2] : List Obn)[0]? = some b := hb
       simpa using this.symm
      rw [hb2, er]
      exact ⟨he.1, he.2.1, he.2.2.1, he.2.2.2⟩
    | succ j => simp at hj
 | step L t n o a h ho hk h6 h7 hs ha he ih =>
   intro hv
   obtain ⟨os, h1, h2, h3, h4⟩ := ih (fun tb htb => hv tb (txS_rs htb))
   obtain ⟨o1, o2, o3, o4⟩ := h.open
   have hti : (runsF y os).1.tx[i]? = some { t with bg := p } := by rw [h2]; simp only; rw [List.getElem?_set_self (by omega)]
   have er := run_open (x := (runsF y os).1) (o := o) (i := i) hti o1 hs hi hk h6 h7
   refine ⟨os ++ [o], by simp [h1, ho], ?_, ?_, fun j m a' b hj ha' hb => ?_⟩
   .rw [runsF_snoc]
    simp only
    rw [er]
    simp only
    rw [txS_bg, h2]
    simp
   .rw [runsF_snoc]
    simp [h3]
   .rw [runsF_snoc] at hb
    simp only at hb
    by_cases hjl : j < L.length
    .rw [List.getElem?_append_left hjl] at hj
     rw [List.getElem?_append_left (by rw [h3]; exact hjl)] at hb
     exact h4 j m a' b hj ha' hb
    .have hje : j = L.length := by
      have := (List.getElem?_eq_some_iff.1 hj).1
      simp at this
      omega
     subst hje
     rw [List.getElem?_append_right (Nat.le_refl _)] at hj
     rw [List.getElem?_append_right (by omega), h3] at hb
     simp at hj hb
     subst hj
     rw [ha] at ha'
     injection ha' with ha'
     subst ha'
     rw [<- hb, er]
     simp only
     have e : obsF cms t o = obsF (runsF y os).1.cms { t with bg := p } o := by
      refine obs_ext rfl rfl (fun hr htb ky => ?_)
      unfold seesN
      simp only
      rw [show (runsF y os).1.cms = Y by rw [h2]; exact hY, o3]
      have := hv o.tb.toNat (txS_read o4 hr htb) ky
      rw [show ((o.tb.toNat : Nat) : Int) = o.tb by omega] at this
      rw [this]
     rw [<- e]
     exact he
end Go.Proofs.YtblkgicbimflhaaGreat
