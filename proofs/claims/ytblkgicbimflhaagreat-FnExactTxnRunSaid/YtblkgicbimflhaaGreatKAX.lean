import Derived.Test.YtblkgicbimflhaaGreatKAW
import Derived.Deep.RegionLawGrows
import Derived.Ground.Names2Prog
import Derived.Shelf.Slices.SearchI
import Derived.Shelf.Slices.Delete
import Derived.Shelf.Slices.Cells
import Derived.Shelf.Slices.Empties
import Derived.Test.YtblkgicbimflhaaGreatProg
namespace Go.Proofs.YtblkgicbimflhaaGreat
open Go.ChangeShapes Go.WideShapes Go.ChangeAt Go.RowKit
set_option linter.unusedVariables false
set_option linter.unusedSimpArgs false
set_option maxRecDepth 100000
open List (setIfInBounds_toArray set_cons_zero set_cons_succ)
set_option maxHeartbeats 8000000 in
theorem ins_int_grow (B n i : Nat) (v : Value) (xs vs : List Value) (vb g c : Nat) (w : World) (hv : v = .slice (some ⟨g, 0, none⟩) n c) (hi : i < n) (hroom : c < n + 1) (hrow : w.ownsRow B 3 1 v n xs) (hn : n ≤ 1048576) (hvl : vs.length = 1) (hvk : w.heap[vb]? = some (.cells vs.toArray 3 (0, 0))) (hv1 : ∀ u ∈ vs, u.oneCell' = true) (hx1 : ∀ u ∈ xs, u.oneCell' = true) (hvb : vb ≠ g) (hB : B ≤ w.heap.size) :
 Calls Tryz.prog 85 #[v, .int .i64 (i : Int), .slice (some ⟨vb, 0, none⟩) 1 1] w fun en w' => InsP B 3 1 w v n (xs.take (i * 1) ++ vs ++ xs.drop (i * 1)) en w' := by
 subst hv
 obtain ⟨i0, hi0, hz0, hz1, hz2⟩ := info_parts infoInt
 have hxl := hrow.1
 obtain ⟨cur, hgB, hgk, hnc, hcm, hcs, hct⟩ : ∃ cur : Array Value, B ≤ g ∧ w.heap[g]? = some (.cells cur 3 (0, 0)) ∧ n ≤ c ∧ c ≤ maxLen ∧ cur.size = c * 1 ∧ cur.toList.take (n * 1) = xs := by
  rcases hrow.2 with ⟨h1, h2⟩ | ⟨g', cap, cur, h1, h2, h3, h4, h5, h6, h7⟩
  ·cases h1
  ·injection h1 with h1 _ hc
   injection h1 with h1
   injection h1 with h1 _ _
   subst h1 hc
   exact ⟨cur, h2, h3, h4, h5, h6, h7⟩
 have hsz : (Tryz.prog.info? 3).map (·.size) = some 1 := by rw [hi0]; simp [hz1]
 have hgl : g < w.heap.size := (Array.getElem?_eq_some_iff.1 hgk).1
 have hvbl : vb < w.heap.size := (Array.getElem?_eq_some_iff.1 hvk).1
 have hdl : (xs.drop (i * 1)).length = (n - i) * 1 := by rw [List.length_drop, hxl, Nat.sub_mul]
 have htl : (xs.take (i * 1)).length = i * 1 := by rw [List.length_take, hxl, Nat.min_eq_left (Nat.mul_le_mul_right _ (by omega))]
 have hcell : ∀ (W : World), W.heap[g]? = w.heap[g]? → ∀ j u, xs[j]? = some u → W.cell? ⟨g, j, none⟩ = some u := fun W hW j u hj => by
  rw [← hct, List.getElem?_take] at hj
  split at hj
  ·simp only [World.cell?, hW, hgk]
   rw [← Array.getElem?_toList]
   exact hj
  ·cases hj
 have hsx : ∀ (W : World), W.heap[g]? = w.heap[g]? → ∀ j u, (xs.drop (i * 1))[j]? = some u → W.cell? ((⟨g, i * 1, none⟩ : Addr).add j) = some u := fun W hW j u hj => by
  rw [Addr.add_lit]
  rw [List.getElem?_drop] at hj
  exact hcell W hW _ u hj
 have hold : (Builtin.firstCells i0.size i (.slice (some ⟨g, 0, none⟩) i c)).run Tryz.prog w.drew = .ok (xs.take (i * 1)).toArray w.drew := by
  rw [hz1]
  exact run_firstCells_some w.drew 1 i ⟨g, 0, none⟩ i c (xs.take (i * 1)) (by rw [htl]) (fun j u hj => by
   rw [Addr.add_lit, Nat.zero_add]
   rw [List.getElem?_take] at hj
   split at hj
   ·exact hcell _ rfl j u hj
   ·cases hj)
 have hkk : (n : Int) + 1 - (i : Int) = ((n + 1 - i : Nat) : Int) := by omega
 have hik : i + (n + 1 - i) = n + 1 := by omega
 obtain ⟨G, hG⟩ : ∃ z, z = grownCap w (n + 1) c 3 := ⟨_, rfl⟩
 obtain ⟨ROW, hROW⟩ : ∃ z : Array Value, z = (xs.take (i * 1)).toArray ++ Builtin.zeroCells (.int .i64 0 : Value).cells (n + 1 - i) ++ Builtin.zeroCells (.int .i64 0 : Value).cells (G - (n + 1)) := ⟨_, rfl⟩
 obtain ⟨W1, hW1⟩ : ∃ z, z = w.drew.alloc (.cells ROW 3) := ⟨_, rfl⟩
 have hGn : n + 1 ≤ G := by rw [hG]; exact grownCap_ge w _ _ _
 have hG63 : G ≤ maxLen := by rw [hG]; exact grownCap_le_maxLen w (n + 1) c 3 (by unfold maxLen; omega)
 have hrz : ∀ ty, (Builtin.append_ #[32, 3] ty #[.slice (some ⟨g, 0, none⟩) i c, .int .i64 ((n : Int) + 1 - (i : Int))]).run Tryz.prog w = .ok (.slice (some ⟨w.heap.size, 0, none⟩) (n + 1) G) W1 := fun ty => by
  have h := Lib.run_append_grow_zeros w 32 3 ty 3 i0 _ .i64 .i64 Tryz.underlying32 Tryz.underlying3 hi0 hz0 (some ⟨g, 0, none⟩) i c (xs.take (i * 1)) hold (n + 1 - i) (by omega) (by omega) (by omega) (by omega) (by rw [hz2]; omega) (by rw [hz2, hik]; exact growslice_fits hroom (by omega))
  rw [hik] at h
  rw [hkk, h, hW1, hROW, hG]
 have hrl : ROW.size = G * 1 := by
  rw [hROW]
  simp [Builtin.zeroCells, Value.cells, htl]
  first | omega | (rw [← Nat.add_mul, ← Nat.add_mul]; congr 1; omega)
 have hn1 : W1.heap[w.heap.size]? = some (.cells ROW 3 (0, 0)) := by rw [hW1]; exact Array.getElem?_push_size
 have hb1 : ∀ k, k < w.heap.size → W1.heap[k]? = w.heap[k]? := fun k hk => by rw [hW1]; exact Below.heap_alloc w.drew _ k hk
 have hsv : ∀ (W : World), W.heap[vb]? = w.heap[vb]? → ∀ j u, vs[j]? = some u → W.cell? ((⟨vb, 0, none⟩ : Addr).add j) = some u := fun W hW j u hj => by
  rw [Addr.add_lit, Nat.zero_add]
  simp [World.cell?, hW, hvk, hj]
 obtain ⟨rA, hrA⟩ : ∃ z : Array Value, z = (ROW.toList.take (i * 1) ++ vs ++ ROW.toList.drop (i * 1 + vs.length)).toArray := ⟨_, rfl⟩
 have hi1 : i * 1 + 1 = (i + 1) * 1 := by rw [Nat.add_mul, Nat.one_mul]
 have hle1 : (i + 1) * 1 ≤ G * 1 := Nat.mul_le_mul_right _ (by omega)
 have hcpA : ∀ ty dc, (Builtin.copy_ #[32, 32] ty #[.slice (some ⟨w.heap.size, i, none⟩) (n + 1 - i) dc, .slice (some ⟨vb, 0, none⟩) 1 1]).run Tryz.prog W1 = .ok (goInt (Nat.min 1 (n + 1 - i))) (W1.setRow w.heap.size rA) := fun ty dc => by
  have := run_copy_rowK (P := Tryz.prog) W1 32 32 ty 3 1 w.heap.size (i * 1) (n + 1 - i) dc ⟨vb, 0, none⟩ 1 1 ROW 3 vs Tryz.underlying32 hsz hn1 (by rw [hvl, show Nat.min 1 (n + 1 - i) = 1 from Nat.min_eq_left (by omega)]) (hsv W1 (hb1 vb hvbl)) (by rw [hvl, hrl, hi1]; exact hle1) hv1
  rw [← hrA] at this
  simpa only [Nat.mul_one] using this
 have hral : rA.size = G * 1 := by
  rw [hrA, List.size_toArray]
  simp only [List.length_append, List.length_take, List.length_drop, Array.length_toList, hrl, hvl]
  omega
 have hn2 : (W1.setRow w.heap.size rA).drew.heap[w.heap.size]? = some (.cells rA 3 (0, 0)) := setRow_heap _ _ _ _ _ _ hn1
 have hb2 : ∀ k, k < w.heap.size → (W1.setRow w.heap.size rA).drew.heap[k]? = w.heap[k]? := fun k hk => (setRow_other W1 w.heap.size k rA (by omega)).trans (hb1 k hk)
 obtain ⟨rB, hrB⟩ : ∃ z : Array Value, z = (rA.toList.take ((i + 1) * 1) ++ xs.drop (i * 1) ++ rA.toList.drop ((i + 1) * 1 + (xs.drop (i * 1)).length)).toArray := ⟨_, rfl⟩
 have hfit : (i + 1) * 1 + (xs.drop (i * 1)).length ≤ rA.size := by
  rw [hdl, ← Nat.add_mul, hral]
  exact Nat.mul_le_mul_right _ (by omega)
 have hcpB : ∀ ty dc sc, (Builtin.copy_ #[32, 32] ty #[.slice (some ⟨w.heap.size, i + 1, none⟩) (n - i) dc, .slice (some ⟨g, i, none⟩) (n - i) sc]).run Tryz.prog (W1.setRow w.heap.size rA).drew = .ok (goInt (Nat.min (n - i) (n - i))) ((W1.setRow w.heap.size rA).drew.setRow w.heap.size rB) := fun ty dc sc => by
  have := run_copy_rowK (P := Tryz.prog) (W1.setRow w.heap.size rA).drew 32 32 ty 3 1 w.heap.size ((i + 1) * 1) (n - i) dc ⟨g, i * 1, none⟩ (n - i) sc rA 3 (xs.drop (i * 1)) Tryz.underlying32 hsz hn2 (by rw [hdl]; congr 1; exact (Nat.min_self _).symm) (hsx _ (hb2 g hgl)) hfit (fun u hu => hx1 u (List.mem_of_mem_drop hu))
  rw [← hrB] at this
  simpa only [Nat.mul_one] using this
 have HF : Hid (InsP B 3 1 w (.slice (some ⟨g, 0, none⟩) n c) n (xs.take (i * 1) ++ vs ++ xs.drop (i * 1)) (.returned (.slice (some ⟨w.heap.size, 0, none⟩) (n + 1) G)) ((W1.setRow w.heap.size rA).drew.setRow w.heap.size rB)) := hid (by
  have hA1 : rA.toList.take ((i + 1) * 1) = xs.take (i * 1) ++ vs := by
   rw [hrA, List.toList_toArray, List.take_append_of_le_length (by simp only [List.length_append, List.length_take, Array.length_toList, hrl, hvl]; omega), List.take_of_length_le (by simp only [List.length_append, List.length_take, Array.length_toList, hrl, hvl]; omega)]
   congr 1
   rw [hROW, Array.toList_append, Array.toList_append, List.toList_toArray, List.append_assoc, List.take_append_of_le_length (Nat.le_of_eq htl.symm), List.take_of_length_le (Nat.le_of_eq htl)]
  have hrl2 : rB.size = G * 1 := by
   rw [hrB, List.size_toArray]
   simp only [List.length_append, List.length_take, List.length_drop, Array.length_toList, hral, hxl]
   have h2 : (i + 1) * 1 ≤ n * 1 + 1 := by rw [show n * 1 + 1 = (n + 1) * 1 by rw [Nat.add_mul, Nat.one_mul]]; exact Nat.mul_le_mul_right _ (by omega)
   have h3 : n * 1 + 1 ≤ G * 1 := by rw [show n * 1 + 1 = (n + 1) * 1 by rw [Nat.add_mul, Nat.one_mul]]; exact Nat.mul_le_mul_right _ hGn
   have h4 : i * 1 ≤ n * 1 := Nat.mul_le_mul_right _ (by omega)
   omega
  have hlen : (xs.take (i * 1) ++ vs ++ xs.drop (i * 1)).length = (n + 1) * 1 := by
   simp only [List.length_append, htl, hvl, hdl]
   rw [hi1, ← Nat.add_mul]
   congr 1
   omega
  refine ⟨_, _, rfl, ⟨hlen, .inr ⟨w.heap.size, G, rB, rfl, hB, setRow_heap _ _ _ _ _ _ hn2, hGn, hG63, hrl2, ?_⟩⟩, ?_, fun q hq => ?_⟩
  ·rw [hrB, List.toList_toArray, hA1, List.take_append_of_le_length (Nat.le_of_eq hlen.symm), List.take_of_length_le (Nat.le_of_eq hlen)]
  ·have h5 := hb2
   refine ⟨?_, ?_, ?_, ?_, fun k hk _ => (setRow_other _ w.heap.size k rB (by omega)).trans (hb2 k hk)⟩
   ·show W1.os = w.os; rw [hW1]; rfl
   ·show W1.tape = w.tape; rw [hW1]; rfl
   ·show W1.output = w.output; rw [hW1]; rfl
   ·rw [setRow_size]; show w.heap.size ≤ (W1.setRow w.heap.size rA).heap.size; rw [setRow_size, hW1]; simp
  ·simp [Value.ownBlock] at hq
   exact .inr (by omega))
 have hw1 : IntKind.i64.wrap ((i : Int) + 1) = (i : Int) + 1 := by rw [IntKind.wrap_i64]; omega
 have hz2' : ¬ ((i : Int) = (n : Int)) := by omega
 have hb1' : (0 : Int) ≤ (i : Int) + 1 := by omega
 have htn : ((i : Int) + 1).toNat = i + 1 := by omega
 have hGi : ¬ (G = i) := by omega
 have hGim : ¬ (G = i + 1) := by omega
 have hci : ¬ (c = i) := by omega
 have hin : i ≤ n := by omega
 have hroomI : (c : Int) < (n : Int) + 1 := by omega
 have hb3 : (i : Int) ≤ (n : Int) := by omega
 have hG63' : G ≤ 9223372036854775807 := by unfold maxLen at hG63; omega
 clear hct hcs hfit hgk hn1 hn2 hsx hsv hvk hxl hrow hdl hi0 hz0 hz1 hold hkk hik hG hROW hW1 hrl hb1 hb2 hrA hrB hral hcell htl hi1 hle1 hG63 hcm hsz hz2
 go_enter Tryz.func85, Tryz.ntmps85
 go_wp2_with (first
  | (at_builtin; refine Lib.wpList_append_run _ rfl _ _ _ _ rfl _ _ rfl rfl _ _ (hrz _) ?_)
  | (at_builtin; refine wpList_copy_run _ rfl _ _ 32 32 rfl _ _ rfl rfl (hcpA _ _) ?_))
 go_region
 go_wp2
 go_ret
 exact HF.out
set_option maxHeartbeats 8000000 in
theorem ins_vss_grow (B n i : Nat) (v : Value) (xs vs : List Value) (vb g c : Nat) (w : World) (hv : v = .slice (some ⟨g, 0, none⟩) n c) (hi : i < n) (hroom : c < n + 1) (hrow : w.ownsRow B 155 2 v n xs) (hn : n ≤ 1048576) (hvl : vs.length = 2) (hvk : w.heap[vb]? = some (.cells vs.toArray 155 (0, 0))) (hv1 : ∀ u ∈ vs, u.oneCell' = true) (hx1 : ∀ u ∈ xs, u.oneCell' = true) (hvb : vb ≠ g) (hB : B ≤ w.heap.size) :
 Calls Tryz.prog 105 #[v, .int .i64 (i : Int), .slice (some ⟨vb, 0, none⟩) 1 1] w fun en w' => InsP B 155 2 w v n (xs.take (i * 2) ++ vs ++ xs.drop (i * 2)) en w' := by
 subst hv
 obtain ⟨i0, hi0, hz0, hz1, hz2⟩ := info_parts infoVss
 have hxl := hrow.1
 obtain ⟨cur, hgB, hgk, hnc, hcm, hcs, hct⟩ : ∃ cur : Array Value, B ≤ g ∧ w.heap[g]? = some (.cells cur 155 (0, 0)) ∧ n ≤ c ∧ c ≤ maxLen ∧ cur.size = c * 2 ∧ cur.toList.take (n * 2) = xs := by
  rcases hrow.2 with ⟨h1, h2⟩ | ⟨g', cap, cur, h1, h2, h3, h4, h5, h6, h7⟩
  ·cases h1
  ·injection h1 with h1 _ hc
   injection h1 with h1
   injection h1 with h1 _ _
   subst h1 hc
   exact ⟨cur, h2, h3, h4, h5, h6, h7⟩
 have hsz : (Tryz.prog.info? 155).map (·.size) = some 2 := by rw [hi0]; simp [hz1]
 have hgl : g < w.heap.size := (Array.getElem?_eq_some_iff.1 hgk).1
 have hvbl : vb < w.heap.size := (Array.getElem?_eq_some_iff.1 hvk).1
 have hdl : (xs.drop (i * 2)).length = (n - i) * 2 := by rw [List.length_drop, hxl, Nat.sub_mul]
 have htl : (xs.take (i * 2)).length = i * 2 := by rw [List.length_take, hxl, Nat.min_eq_left (Nat.mul_le_mul_right _ (by omega))]
 have hcell : ∀ (W : World), W.heap[g]? = w.heap[g]? → ∀ j u, xs[j]? = some u → W.cell? ⟨g, j, none⟩ = some u := fun W hW j u hj => by
  rw [← hct, List.getElem?_take] at hj
  split at hj
  ·simp only [World.cell?, hW, hgk]
   rw [← Array.getElem?_toList]
   exact hj
  ·cases hj
 have hsx : ∀ (W : World), W.heap[g]? = w.heap[g]? → ∀ j u, (xs.drop (i * 2))[j]? = some u → W.cell? ((⟨g, i * 2, none⟩ : Addr).add j) = some u := fun W hW j u hj => by
  rw [Addr.add_lit]
  rw [List.getElem?_drop] at hj
  exact hcell W hW _ u hj
 have hold : (Builtin.firstCells i0.size i (.slice (some ⟨g, 0, none⟩) i c)).run Tryz.prog w.drew = .ok (xs.take (i * 2)).toArray w.drew := by
  rw [hz1]
  exact run_firstCells_some w.drew 2 i ⟨g, 0, none⟩ i c (xs.take (i * 2)) (by rw [htl]) (fun j u hj => by
   rw [Addr.add_lit, Nat.zero_add]
   rw [List.getElem?_take] at hj
   split at hj
   ·exact hcell _ rfl j u hj
   ·cases hj)
 have hkk : (n : Int) + 1 - (i : Int) = ((n + 1 - i : Nat) : Int) := by omega
 have hik : i + (n + 1 - i) = n + 1 := by omega
 obtain ⟨G, hG⟩ : ∃ z, z = grownCap w (n + 1) c 155 := ⟨_, rfl⟩
 obtain ⟨ROW, hROW⟩ : ∃ z : Array Value, z = (xs.take (i * 2)).toArray ++ Builtin.zeroCells (.agg #[.slice none 0 0, .slice none 0 0] : Value).cells (n + 1 - i) ++ Builtin.zeroCells (.agg #[.slice none 0 0, .slice none 0 0] : Value).cells (G - (n + 1)) := ⟨_, rfl⟩
 obtain ⟨W1, hW1⟩ : ∃ z, z = w.drew.alloc (.cells ROW 155) := ⟨_, rfl⟩
 have hGn : n + 1 ≤ G := by rw [hG]; exact grownCap_ge w _ _ _
 have hG63 : G ≤ maxLen := by rw [hG]; exact grownCap_le_maxLen w (n + 1) c 155 (by unfold maxLen; omega)
 have hrz : ∀ ty, (Builtin.append_ #[71, 3] ty #[.slice (some ⟨g, 0, none⟩) i c, .int .i64 ((n : Int) + 1 - (i : Int))]).run Tryz.prog w = .ok (.slice (some ⟨w.heap.size, 0, none⟩) (n + 1) G) W1 := fun ty => by
  have h := Lib.run_append_grow_zeros w 71 3 ty 155 i0 _ .i64 .i64 Tryz.underlying71 Tryz.underlying3 hi0 hz0 (some ⟨g, 0, none⟩) i c (xs.take (i * 2)) hold (n + 1 - i) (by omega) (by omega) (by omega) (by omega) (by rw [hz2]; omega) (by rw [hz2, hik]; exact growslice_fits hroom (by omega))
  rw [hik] at h
  rw [hkk, h, hW1, hROW, hG]
 have hrl : ROW.size = G * 2 := by
  rw [hROW]
  simp [Builtin.zeroCells, Value.cells, htl]
  first | omega | (rw [← Nat.add_mul, ← Nat.add_mul]; congr 1; omega)
 have hn1 : W1.heap[w.heap.size]? = some (.cells ROW 155 (0, 0)) := by rw [hW1]; exact Array.getElem?_push_size
 have hb1 : ∀ k, k < w.heap.size → W1.heap[k]? = w.heap[k]? := fun k hk => by rw [hW1]; exact Below.heap_alloc w.drew _ k hk
 have hsv : ∀ (W : World), W.heap[vb]? = w.heap[vb]? → ∀ j u, vs[j]? = some u → W.cell? ((⟨vb, 0, none⟩ : Addr).add j) = some u := fun W hW j u hj => by
  rw [Addr.add_lit, Nat.zero_add]
  simp [World.cell?, hW, hvk, hj]
 obtain ⟨rA, hrA⟩ : ∃ z : Array Value, z = (ROW.toList.take (i * 2) ++ vs ++ ROW.toList.drop (i * 2 + vs.length)).toArray := ⟨_, rfl⟩
 have hi1 : i * 2 + 2 = (i + 1) * 2 := by rw [Nat.add_mul, Nat.one_mul]
 have hle1 : (i + 1) * 2 ≤ G * 2 := Nat.mul_le_mul_right _ (by omega)
 have hcpA : ∀ ty dc, (Builtin.copy_ #[71, 71] ty #[.slice (some ⟨w.heap.size, i * 2, none⟩) (n + 1 - i) dc, .slice (some ⟨vb, 0, none⟩) 1 1]).run Tryz.prog W1 = .ok (goInt (Nat.min 1 (n + 1 - i))) (W1.setRow w.heap.size rA) := fun ty dc => by
  have := run_copy_rowK (P := Tryz.prog) W1 71 71 ty 155 2 w.heap.size (i * 2) (n + 1 - i) dc ⟨vb, 0, none⟩ 1 1 ROW 155 vs Tryz.underlying71 hsz hn1 (by rw [hvl, show Nat.min 1 (n + 1 - i) = 1 from Nat.min_eq_left (by omega)]) (hsv W1 (hb1 vb hvbl)) (by rw [hvl, hrl, hi1]; exact hle1) hv1
  rw [← hrA] at this
  simpa only [Nat.mul_one] using this
 have hral : rA.size = G * 2 := by
  rw [hrA, List.size_toArray]
  simp only [List.length_append, List.length_take, List.length_drop, Array.length_toList, hrl, hvl]
  omega
 have hn2 : (W1.setRow w.heap.size rA).drew.heap[w.heap.size]? = some (.cells rA 155 (0, 0)) := setRow_heap _ _ _ _ _ _ hn1
 have hb2 : ∀ k, k < w.heap.size → (W1.setRow w.heap.size rA).drew.heap[k]? = w.heap[k]? := fun k hk => (setRow_other W1 w.heap.size k rA (by omega)).trans (hb1 k hk)
 obtain ⟨rB, hrB⟩ : ∃ z : Array Value, z = (rA.toList.take ((i + 1) * 2) ++ xs.drop (i * 2) ++ rA.toList.drop ((i + 1) * 2 + (xs.drop (i * 2)).length)).toArray := ⟨_, rfl⟩
 have hfit : (i + 1) * 2 + (xs.drop (i * 2)).length ≤ rA.size := by
  rw [hdl, ← Nat.add_mul, hral]
  exact Nat.mul_le_mul_right _ (by omega)
 have hcpB : ∀ ty dc sc, (Builtin.copy_ #[71, 71] ty #[.slice (some ⟨w.heap.size, (i + 1) * 2, none⟩) (n - i) dc, .slice (some ⟨g, i * 2, none⟩) (n - i) sc]).run Tryz.prog (W1.setRow w.heap.size rA).drew = .ok (goInt (Nat.min (n - i) (n - i))) ((W1.setRow w.heap.size rA).drew.setRow w.heap.size rB) := fun ty dc sc => by
  have := run_copy_rowK (P := Tryz.prog) (W1.setRow w.heap.size rA).drew 71 71 ty 155 2 w.heap.size ((i + 1) * 2) (n - i) dc ⟨g, i * 2, none⟩ (n - i) sc rA 155 (xs.drop (i * 2)) Tryz.underlying71 hsz hn2 (by rw [hdl]; congr 1; exact (Nat.min_self _).symm) (hsx _ (hb2 g hgl)) hfit (fun u hu => hx1 u (List.mem_of_mem_drop hu))
  rw [← hrB] at this
  simpa only [Nat.mul_one] using this
 have HF : Hid (InsP B 155 2 w (.slice (some ⟨g, 0, none⟩) n c) n (xs.take (i * 2) ++ vs ++ xs.drop (i * 2)) (.returned (.slice (some ⟨w.heap.size, 0, none⟩) (n + 1) G)) ((W1.setRow w.heap.size rA).drew.setRow w.heap.size rB)) := hid (by
  have hA1 : rA.toList.take ((i + 1) * 2) = xs.take (i * 2) ++ vs := by
   rw [hrA, List.toList_toArray, List.take_append_of_le_length (by simp only [List.length_append, List.length_take, Array.length_toList, hrl, hvl]; omega), List.take_of_length_le (by simp only [List.length_append, List.length_take, Array.length_toList, hrl, hvl]; omega)]
   congr 1
   rw [hROW, Array.toList_append, Array.toList_append, List.toList_toArray, List.append_assoc, List.take_append_of_le_length (Nat.le_of_eq htl.symm), List.take_of_length_le (Nat.le_of_eq htl)]
  have hrl2 : rB.size = G * 2 := by
   rw [hrB, List.size_toArray]
   simp only [List.length_append, List.length_take, List.length_drop, Array.length_toList, hral, hxl]
   have h2 : (i + 1) * 2 ≤ n * 2 + 2 := by rw [show n * 2 + 2 = (n + 1) * 2 by rw [Nat.add_mul, Nat.one_mul]]; exact Nat.mul_le_mul_right _ (by omega)
   have h3 : n * 2 + 2 ≤ G * 2 := by rw [show n * 2 + 2 = (n + 1) * 2 by rw [Nat.add_mul, Nat.one_mul]]; exact Nat.mul_le_mul_right _ hGn
   have h4 : i * 2 ≤ n * 2 := Nat.mul_le_mul_right _ (by omega)
   omega
  have hlen : (xs.take (i * 2) ++ vs ++ xs.drop (i * 2)).length = (n + 1) * 2 := by
   simp only [List.length_append, htl, hvl, hdl]
   rw [hi1, ← Nat.add_mul]
   congr 1
   omega
  refine ⟨_, _, rfl, ⟨hlen, .inr ⟨w.heap.size, G, rB, rfl, hB, setRow_heap _ _ _ _ _ _ hn2, hGn, hG63, hrl2, ?_⟩⟩, ?_, fun q hq => ?_⟩
  ·rw [hrB, List.toList_toArray, hA1, List.take_append_of_le_length (Nat.le_of_eq hlen.symm), List.take_of_length_le (Nat.le_of_eq hlen)]
  ·have h5 := hb2
   refine ⟨?_, ?_, ?_, ?_, fun k hk _ => (setRow_other _ w.heap.size k rB (by omega)).trans (hb2 k hk)⟩
   ·show W1.os = w.os; rw [hW1]; rfl
   ·show W1.tape = w.tape; rw [hW1]; rfl
   ·show W1.output = w.output; rw [hW1]; rfl
   ·rw [setRow_size]; show w.heap.size ≤ (W1.setRow w.heap.size rA).heap.size; rw [setRow_size, hW1]; simp
  ·simp [Value.ownBlock] at hq
   exact .inr (by omega))
 have hw1 : IntKind.i64.wrap ((i : Int) + 1) = (i : Int) + 1 := by rw [IntKind.wrap_i64]; omega
 have hz2' : ¬ ((i : Int) = (n : Int)) := by omega
 have hb1' : (0 : Int) ≤ (i : Int) + 1 := by omega
 have htn : ((i : Int) + 1).toNat = i + 1 := by omega
 have hGi : ¬ (G = i) := by omega
 have hGim : ¬ (G = i + 1) := by omega
 have hci : ¬ (c = i) := by omega
 have hin : i ≤ n := by omega
 have hroomI : (c : Int) < (n : Int) + 1 := by omega
 have hb3 : (i : Int) ≤ (n : Int) := by omega
 have hG63' : G ≤ 9223372036854775807 := by unfold maxLen at hG63; omega
 clear hct hcs hfit hgk hn1 hn2 hsx hsv hvk hxl hrow hdl hi0 hz0 hz1 hold hkk hik hG hROW hW1 hrl hb1 hb2 hrA hrB hral hcell htl hi1 hle1 hG63 hcm hsz hz2
 go_enter Tryz.func105, Tryz.ntmps105
 go_wp2_with (first
  | (at_builtin; refine Lib.wpList_append_run _ rfl _ _ _ _ rfl _ _ rfl rfl _ _ (hrz _) ?_)
  | (at_builtin; refine wpList_copy_run _ rfl _ _ 71 71 rfl _ _ rfl rfl (hcpA _ _) ?_))
 go_region
 go_wp2
 go_ret
 exact HF.out
end Go.Proofs.YtblkgicbimflhaaGreat
/-
 DERIVED: THE SHELF's CONTRACTS AT THIS DUMP, IN PLAIN WORDS (tools/lay-plain.mjs out of 'TryzShelf.lean', which tools/lay-shelf.mjs wrote): THE SAME DECLARATIONS UNDER THE SAME NAMES: 'import', 'namespace', 'open', 'def', 'theorem' AND NOTHING ELSE: no command of the shelf's: FOR A HAND-IN. Each laying: the table of numbers ('.._ren') and one theorem, a field a fact of the dump's own or the kernel's comparison; each contract: ONE APPLICATION.
-/
namespace Go.Proofs
open Go.Shelf
def Tryz.laysNm225_ren : Go.Shelf.Ren := ⟨fun | 25 => 82 | 31 => 96 | 32 => 97 | 37 => 108 | n => n, fun | 22 => 32 | 3 => 3 | 4 => 4 | 40 => 192 | 0 => 0 | n => n, fun | n => n⟩
theorem Tryz.laysNm225 : Go.Proofs.Lays2.n25 Tryz.prog Tryz.laysNm225_ren := {
 mixed := by kernel_rfl
 f25 := Tryz.func82.trans (congrArg some (by kernel_rfl))
 f31 := Tryz.func96.trans (congrArg some (by kernel_rfl))
 f32 := Tryz.func97.trans (congrArg some (by kernel_rfl))
 f37 := Tryz.func108.trans (congrArg some (by kernel_rfl))
 t0 := Tryz.underlying0
 a0 := Tryz.isAgg0
 z0 := Tryz.sizeOf0
 v0 := Tryz.zeroValue0
 t3 := Tryz.underlying3
 a3 := Tryz.isAgg3
 z3 := Tryz.sizeOf3
 v3 := Tryz.zeroValue3
 t4 := Tryz.underlying4
 a4 := Tryz.isAgg4
 z4 := Tryz.sizeOf4
 v4 := Tryz.zeroValue4
 t22 := Tryz.underlying32
 a22 := Tryz.isAgg32
 z22 := Tryz.sizeOf32
 v22 := Tryz.zeroValue32
 t40 := Tryz.underlying192
 a40 := Tryz.isAgg192
 z40 := Tryz.sizeOf192
 v40 := Tryz.zeroValue192 }
open Go.RowKit Go.Lib in
theorem Tryz.slices_BinarySearch_int (b off n c : Nat) (zs : List Int) (x : Int) (w : World) (hz : n ≤ zs.length) (hbig : n < 4611686018427387904) (hc : ∀ j, j < zs.length → w.cell? ⟨b, off + j, none⟩ = some (.int .i64 (zs.getD j 0))) (hs : (zs.take n).Pairwise (· ≤ ·)) :
 Calls Tryz.prog 82 #[.slice (some ⟨b, off, none⟩) n c, .int .i64 x] w fun e w' => e = .returned (.tuple #[.int .i64 ((zs.take n).countP (· < x) : Nat), .bool ((zs.take n).contains x)]) ∧ ∃ q, w' = w.drewN q := Any.slices_BinarySearch_int Tryz.laysNm225 b off n c zs x w hz hbig hc hs
def Tryz.laysNm223_ren : Go.Shelf.Ren := ⟨fun | 23 => 86 | n => n, fun | 22 => 32 | 3 => 3 | 4 => 4 | 0 => 0 | n => n, fun | n => n⟩
theorem Tryz.laysNm223 : Go.Proofs.Lays2.n23 Tryz.prog Tryz.laysNm223_ren := {
 mixed := by kernel_rfl
 f23 := Tryz.func86.trans (congrArg some (by kernel_rfl))
 t0 := Tryz.underlying0
 a0 := Tryz.isAgg0
 z0 := Tryz.sizeOf0
 v0 := Tryz.zeroValue0
 t3 := Tryz.underlying3
 a3 := Tryz.isAgg3
 z3 := Tryz.sizeOf3
 v3 := Tryz.zeroValue3
 t4 := Tryz.underlying4
 a4 := Tryz.isAgg4
 z4 := Tryz.sizeOf4
 v4 := Tryz.zeroValue4
 t22 := Tryz.underlying32
 a22 := Tryz.isAgg32
 z22 := Tryz.sizeOf32
 v22 := Tryz.zeroValue32
 i3 := by kernel_rfl }
open Go.RowKit Go.Lib Go.Sort in
theorem Tryz.slices_Delete_int_cells (b off n c i j : Nat) (zs : List Int) (w : World) (hz : n ≤ zs.length) (hcap : n ≤ c) (hm : c ≤ 9223372036854775807) (hij : i ≤ j) (hj : j ≤ n) (hc : ∀ j, j < zs.length → w.cell? ⟨b, off + j, none⟩ = some (.int .i64 (zs.getD j 0))) (hf : ∀ j, j < n → w.frozen? ⟨b, off + j, none⟩ = false) :
 Calls Tryz.prog 86 #[.slice (some ⟨b, off, none⟩) n c, .int .i64 i, .int .i64 j] w fun e w' => e = .returned (.slice (some ⟨b, off, none⟩) (n - (j - i)) c) ∧ ∃ q, w' = (w.drewN q).setCells b off (((zs.take n).take i ++ (zs.take n).drop j ++ List.replicate (j - i) 0).map (Value.int .i64)) := Any.slices_Delete_int_cells Tryz.laysNm223 b off n c i j zs w hz hcap hm hij hj hc hf
open Go.RowKit Go.Lib in
theorem Tryz.slices_BinarySearch_int_empty (a : Option Addr) (c : Nat) (x : Int) (w : World) :
 Calls Tryz.prog 82 #[.slice a 0 c, .int .i64 x] w fun e w' => e = .returned (.tuple #[.int .i64 0, .bool false]) ∧ w' = w := Any.slices_BinarySearch_int_empty Tryz.laysNm225 a c x w
end Go.Proofs
namespace Go.Proofs.YtblkgicbimflhaaGreat
open Go.ChangeShapes Go.WideShapes Go.ChangeAt Go.RowKit
set_option linter.unusedVariables false
set_option linter.unusedSimpArgs false
set_option maxRecDepth 100000
open List (setIfInBounds_toArray set_cons_zero set_cons_succ)
def posN (ks : List Int) (x : Int) : Nat := ks.countP (· < x)
theorem posN_le (ks : List Int) (x : Int) : posN ks x ≤ ks.length := List.countP_le_length
theorem own_cells {B e K n : Nat} {w : World} {v : Value} {xs : List Value} (h : w.ownsRow B e K v n xs) {g : Nat} {c : Nat} (hv : v = .slice (some ⟨g, 0, none⟩) n c) {j : Nat} {u : Value} (hj : xs[j]? = some u) : w.cell? ⟨g, j, none⟩ = some u := by
 rcases h.2 with ⟨h1, h2⟩ | ⟨g', cap, cur, h1, h2, h3, h4, h5, h6, h7⟩
 ·rw [hv] at h1; cases h1
 ·rw [hv] at h1
  injection h1 with h1 _ hc
  injection h1 with h1
  injection h1 with h1 _ _
  subst h1
  rw [← h7, List.getElem?_take] at hj
  split at hj
  ·simp only [World.cell?, h3]
   rw [← Array.getElem?_toList]
   exact hj
  ·cases hj
theorem own_unfro {B e K n : Nat} {w : World} {v : Value} {xs : List Value} (h : w.ownsRow B e K v n xs) {g : Nat} {c : Nat} (hv : v = .slice (some ⟨g, 0, none⟩) n c) (j : Nat) : w.frozen? ⟨g, j, none⟩ = false := by
 rcases h.2 with ⟨h1, h2⟩ | ⟨g', cap, cur, h1, h2, h3, h4, h5, h6, h7⟩
 ·rw [hv] at h1; cases h1
 ·rw [hv] at h1
  injection h1 with h1 _ hc
  injection h1 with h1
  injection h1 with h1 _ _
  subst h1
  simp [World.frozen?, h3]
theorem own_shape {B e K n : Nat} {w : World} {v : Value} {xs : List Value} (h : w.ownsRow B e K v n xs) (hn : 0 < n) : ∃ g c, v = .slice (some ⟨g, 0, none⟩) n c ∧ n ≤ c ∧ c ≤ maxLen ∧ g < w.heap.size := by
 rcases h.2 with ⟨h1, h2⟩ | ⟨g', cap, cur, h1, h2, h3, h4, h5, h6, h7⟩
 ·omega
 ·exact ⟨g', cap, h1, h4, h5, (Array.getElem?_eq_some_iff.1 h3).1⟩
theorem bin_any (B : Nat) (v : Value) (ks : List Int) (x : Int) (w : World) (hrow : w.ownsRow B 3 1 v ks.length (ks.map (Value.int .i64))) (hs : ks.Pairwise (· < ·)) (hn : ks.length ≤ 1048576) :
 Calls Tryz.prog 82 #[v, .int .i64 x] w fun e w' => e = .returned (.tuple #[.int .i64 (posN ks x : Nat), .bool (ks.contains x)]) ∧ ∃ q, w' = w.drewN q := by
 rcases Nat.eq_zero_or_pos ks.length with h0 | hp
 ·obtain ⟨a, c, hv⟩ := formR hrow
  have hk : ks = [] := List.length_eq_zero_iff.1 h0
  subst hk
  subst hv
  refine (Tryz.slices_BinarySearch_int_empty a c x w).mono ?_
  rintro e w' ⟨rfl, rfl⟩
  exact ⟨rfl, 0, rfl⟩
 ·obtain ⟨g, c, hv, hnc, hcm, hgl⟩ := own_shape hrow hp
  have hc : ∀ j, j < ks.length → w.cell? ⟨g, 0 + j, none⟩ = some (.int .i64 (ks.getD j 0)) := fun j hj => by
   rw [Nat.zero_add]
   refine own_cells hrow hv ?_
   rw [List.getElem?_map, List.getElem?_eq_getElem hj, List.getD_eq_getElem?_getD, List.getElem?_eq_getElem hj]
   rfl
  have h := Tryz.slices_BinarySearch_int g 0 ks.length c ks x w (Nat.le_refl _) (by omega) hc (by rw [List.take_length]; exact hs.imp (fun h => Int.le_of_lt h))
  rw [List.take_length] at h
  rw [hv]
  exact h
theorem ins_int (B n i : Nat) (v : Value) (xs vs : List Value) (vb : Nat) (w : World) (hrow : w.ownsRow B 3 1 v n xs) (hi : i ≤ n) (hn : n ≤ 1048576) (hvl : vs.length = 1) (hvk : w.heap[vb]? = some (.cells vs.toArray 3 (0, 0))) (hv1 : ∀ u ∈ vs, u.oneCell' = true) (hx1 : ∀ u ∈ xs, u.oneCell' = true) (hvb : v.ownBlock ≠ some vb) (hB : B ≤ w.heap.size) :
 Calls Tryz.prog 85 #[v, .int .i64 (i : Int), .slice (some ⟨vb, 0, none⟩) 1 1] w fun en w' => InsP B 3 1 w v n (xs.take (i * 1) ++ vs ++ xs.drop (i * 1)) en w' := by
 by_cases hin : i = n
 ·subst hin
  have h := ins_int_end B i v xs vs vb w hrow hn hvl hvk hv1 hB
  rw [List.take_of_length_le (Nat.le_of_eq hrow.1), List.drop_of_length_le (Nat.le_of_eq hrow.1), List.append_nil]
  exact h
 ·obtain ⟨g, c, hv, hnc, hcm, hgl⟩ := own_shape hrow (by omega)
  have hne : vb ≠ g := fun z => hvb (by rw [hv, z]; rfl)
  by_cases hr : n + 1 ≤ c
  ·exact ins_int_shift B n i v xs vs vb g c w hv (by omega) hr hrow hn hvl hvk hv1 hx1 hne
  ·exact ins_int_grow B n i v xs vs vb g c w hv (by omega) (by omega) hrow hn hvl hvk hv1 hx1 hne hB
theorem ins_vss (B n i : Nat) (v : Value) (xs vs : List Value) (vb : Nat) (w : World) (hrow : w.ownsRow B 155 2 v n xs) (hi : i ≤ n) (hn : n ≤ 1048576) (hvl : vs.length = 2) (hvk : w.heap[vb]? = some (.cells vs.toArray 155 (0, 0))) (hv1 : ∀ u ∈ vs, u.oneCell' = true) (hx1 : ∀ u ∈ xs, u.oneCell' = true) (hvb : v.ownBlock ≠ some vb) (hB : B ≤ w.heap.size) :
 Calls Tryz.prog 105 #[v, .int .i64 (i : Int), .slice (some ⟨vb, 0, none⟩) 1 1] w fun en w' => InsP B 155 2 w v n (xs.take (i * 2) ++ vs ++ xs.drop (i * 2)) en w' := by
 by_cases hin : i = n
 ·subst hin
  have h := ins_vss_end B i v xs vs vb w hrow hn hvl hvk hv1 hB
  rw [List.take_of_length_le (Nat.le_of_eq hrow.1), List.drop_of_length_le (Nat.le_of_eq hrow.1), List.append_nil]
  exact h
 ·obtain ⟨g, c, hv, hnc, hcm, hgl⟩ := own_shape hrow (by omega)
  have hne : vb ≠ g := fun z => hvb (by rw [hv, z]; rfl)
  by_cases hr : n + 1 ≤ c
  ·exact ins_vss_shift B n i v xs vs vb g c w hv (by omega) hr hrow hn hvl hvk hv1 hx1 hne
  ·exact ins_vss_grow B n i v xs vs vb g c w hv (by omega) (by omega) hrow hn hvl hvk hv1 hx1 hne hB
end Go.Proofs.YtblkgicbimflhaaGreat
