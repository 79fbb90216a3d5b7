import Derived.Test.YtblkgicbimflhaaGreatSAR
import Derived.Deep.RegionLawGrows
import Derived.Ground.Names2Prog
import Derived.Shelf.Slices.SearchI
import Derived.Shelf.Slices.Delete
import Derived.Shelf.Slices.Cells
import Derived.Shelf.Slices.Empties
import Derived.Test.YtblkgicbimflhaaGreatProg
namespace Go.Proofs.YtblkgicbimflhaaGreat
open Go.ChangeShapes Go.WideShapes Go.ChangeAt Go.RowKit
set_option linter.unusedVariables false
set_option linter.unusedSimpArgs false
set_option maxRecDepth 100000
set_option maxHeartbeats 16000000
theorem ins_int_shift (B n i : Nat) (v : Value) (xs vs : List Value) (vb g c : Nat) (w : World) (hv : v = .slice (some ⟨g, 0, none⟩) n c) (hi : i < n) (hroom : n + 1 <= c) (hrow : w.ownsRow B 3 1 v n xs) (hn : n <= 1048576) (hvl : vs.length = 1) (hvk : w.heap[vb]? = some (.cells vs.toArray 3 (0, 0))) (hv1 : ∀ u ∈ vs, u.oneCell' = true) (hx1 : ∀ u ∈ xs, u.oneCell' = true) (hvb : vb ≠ g) :
 Calls Tryz.prog 85 #[v, .int .i64 (i : Int), .slice (some ⟨vb, 0, none⟩) 1 1] w fun en w' => InsP B 3 1 w v n (xs.take (i * 1) ++ vs ++ xs.drop (i * 1)) en w' := by
 subst hv
 obtain ⟨i0, hi0, hz0, hz1, hz2⟩ := info_parts infoInt
 have hxl := hrow.1
 obtain ⟨cur, hgB, hgk, hcm, hcs, hct⟩ : ∃ cur : Array Value, B <= g /\ w.heap[g]? = some (.cells cur 3 (0, 0)) /\ c <= maxLen /\ cur.size = c * 1 /\ cur.toList.take (n * 1) = xs := by
  rcases hrow.2 with ⟨h1, h2⟩ | ⟨g', cap, cur, h1, h2, h3, h4, h5, h6, h7⟩
  .cases h1
  .injection h1 with h1 _ hc
   injection h1 with h1
   injection h1 with h1 _ _
   subst h1 hc
   exact ⟨cur, h2, h3, h5, h6, h7⟩
 have hsz : (Tryz.prog.info? 3).map (·.size) = some 1 := by rw [hi0]; simp [hz1]
 have hsv : ∀ j u, vs[j]? = some u -> w.cell? ((⟨vb, 0, none⟩ : Addr).add j) = some u := fun j u hj => by
  rw [Addr.add_lit, Nat.zero_add]
  simp [World.cell?, hvk, hj]
 have hic : (n + 1) * 1 <= cur.toList.length := by rw [Array.length_toList, hcs]; exact Nat.mul_le_mul_right _ hroom
 have hdl : (xs.drop (i * 1)).length = (n - i) * 1 := by rw [List.length_drop, hxl, Nat.sub_mul]
 have hsx : ∀ (W : World), W.heap[g]? = some (.cells cur 3 (0, 0)) -> ∀ j u, (xs.drop (i * 1))[j]? = some u -> W.cell? ((⟨g, i * 1, none⟩ : Addr).add j) = some u := fun W hW j u hj => by
  rw [Addr.add_lit]
  rw [List.getElem?_drop, <- hct, List.getElem?_take] at hj
  split at hj
  .simp only [World.cell?, hW]
   rw [<- Array.getElem?_toList]
   exact hj
  .cases hj
 have hfit : (i + 1) * 1 + (xs.drop (i * 1)).length <= cur.size := by
  rw [hdl, <- Nat.add_mul, hcs]
  exact Nat.mul_le_mul_right _ (by omega)
 obtain ⟨cur1, hcur1⟩ : ∃ z : List Value, z = cur.toList.take ((i + 1) * 1) ++ xs.drop (i * 1) ++ cur.toList.drop ((i + 1) * 1 + (xs.drop (i * 1)).length) := ⟨_, rfl⟩
 have hil := ins_list (K := 1) (vs := vs) hi hvl hxl hct hic hcur1
 obtain ⟨cur2, hcur2⟩ : ∃ z : Array Value, z = (cur1.take (i * 1) ++ vs ++ cur1.drop (i * 1 + vs.length)).toArray := ⟨_, rfl⟩
 have hwd : w.drew.heap[g]? = some (.cells cur 3 (0, 0)) := hgk
 have hcp1 : ∀ ty dc sc, (Builtin.copy_ #[32, 32] ty #[.slice (some ⟨g, i + 1, none⟩) (n - i) dc, .slice (some ⟨g, i, none⟩) (n + 1 - i) sc]).run Tryz.prog w.drew = .ok (goInt (Nat.min (n + 1 - i) (n - i))) (w.drew.setRow g cur1.toArray) := fun ty dc sc => by
  have := run_copy_rowK (P := Tryz.prog) w.drew 32 32 ty 3 1 g ((i + 1) * 1) (n - i) dc ⟨g, i * 1, none⟩ (n + 1 - i) sc cur 3 (xs.drop (i * 1)) Tryz.underlying32 hsz hwd (by rw [hdl]; congr 1; simp only [Nat.min_def]; split <;> omega) (hsx _ hwd) hfit (fun u hu => hx1 u (List.mem_of_mem_drop hu))
  rw [<- hcur1] at this
  simpa only [Nat.mul_one] using this
 have hg1 : (w.drew.setRow g cur1.toArray).heap[g]? = some (.cells cur1.toArray 3 (0, 0)) := setRow_heap _ _ _ _ _ _ hwd
 have hfit2 : i * 1 + vs.length <= cur1.toArray.size := by
  rw [List.size_toArray, hil.2.2, hvl, Array.length_toList, hcs]
  have h1 : i * 1 + 1 = (i + 1) * 1 := by rw [Nat.add_mul, Nat.one_mul]
  rw [h1]
  exact Nat.mul_le_mul_right _ (by omega)
 have hcp2 : ∀ ty dc, (Builtin.copy_ #[32, 32] ty #[.slice (some ⟨g, i, none⟩) (n + 1 - i) dc, .slice (some ⟨vb, 0, none⟩) 1 1]).run Tryz.prog (w.drew.setRow g cur1.toArray) = .ok (goInt (Nat.min 1 (n + 1 - i))) (w.drew.setRow g cur2) := fun ty dc => by
  have := run_copy_rowK (P := Tryz.prog) (w.drew.setRow g cur1.toArray) 32 32 ty 3 1 g (i * 1) (n + 1 - i) dc ⟨vb, 0, none⟩ 1 1 cur1.toArray 3 vs Tryz.underlying32 hsz hg1 (by rw [hvl, show Nat.min 1 (n + 1 - i) = 1 from Nat.min_eq_left (by omega)]) (fun j u hj => by
   have h3 := hsv j u hj
   rw [Addr.add_lit] at h3 ⊢
   rw [World.cell?_of_block (setRow_other _ _ _ _ hvb)]
   exact h3) hfit2 hv1
  rw [setRow_setRow, <- hcur2] at this
  simpa only [Nat.mul_one] using this
 have hov : ∀ lb cb, (callFunc 98 #[.slice (some ⟨vb, 0, none⟩) 1 1, .slice (some ⟨g, i + 1, none⟩) lb cb]).run Tryz.prog w = .ok (.value (.bool false)) w := fun lb cb => by
  rw [run_callFunc_extern Tryz.func98 (by kernel_rfl) (by kernel_rfl) (by kernel_rfl) (e := Extern.SlicesOverlaps.overlaps #[32, 32] #[4]) (by kernel_rfl),
   Lib.run_overlaps_apart w 32 4 3 Tryz.underlying32 1 (fun w => by simp [sizeOf, typeInfo, hi0, hz1]) ⟨vb, 0, none⟩ ⟨g, i + 1, none⟩ 1 1 lb cb hvb 3 3 1 (c * 1) (by simp [World.shape?, hvk, hvl]) (by simp [World.shape?, hgk, hcs]) (by omega) (by simp [World.frozen?, hvk]) (by simp [World.frozen?, hvk])]
  rfl
 have HF : Hid (InsP B 3 1 w (.slice (some ⟨g, 0, none⟩) n c) n (xs.take (i * 1) ++ vs ++ xs.drop (i * 1)) (.returned (.slice (some ⟨g, 0, none⟩) (n + 1) c)) (w.drew.setRow g cur2)) := hid (by
  refine ⟨_, _, rfl, ⟨?_, .inr ⟨g, c, _, rfl, hgB, setRow_heap _ _ _ _ _ _ hwd, hroom, hcm, ?_, ?_⟩⟩, ?_, fun q hq => .inl hq⟩
  .rw [<- hil.1, List.length_take, hil.2.1]; omega
  .rw [hcur2, List.size_toArray, hil.2.1, Array.length_toList, hcs]
  .rw [hcur2]; exact hil.1
  .have := grown_setRow w.drew g cur2
   exact ⟨this.os, this.tape, this.output, this.size, this.block⟩)
 have hw1 : IntKind.i64.wrap ((i : Int) + 1) = (i : Int) + 1 := by rw [IntKind.wrap_i64]; omega
 have hz2 : ¬ ((i : Int) = (n : Int)) := by omega
 have hb1 : (0 : Int) <= (i : Int) + 1 := by omega
 have htn : ((i : Int) + 1).toNat = i + 1 := by omega
 have hb2 : ¬ (c = i + 1) := by omega
 have hb3 : (i : Int) <= (n : Int) + 1 := by omega
 have hb4 : ¬ (c = i) := by omega
 have hin : i <= n := by omega
 have hroomI : ¬ ((c : Int) < (n : Int) + 1) := by omega
 clear hil hcur1 hcur2 hct hcs hic hfit hfit2 hgk hwd hg1 hsx hsv hvk hxl hrow hdl hi0 hz0 hz1
 go_enter Tryz.func85, Tryz.ntmps85
 go_wp2_with (simp only [hov])
 go_region
 go_wp2_with (at_builtin; refine wpList_copy_run _ rfl _ _ 32 32 rfl _ _ rfl rfl (hcp2 _ _) ?_)
 go_ret
 exact HF.out
theorem ins_vss_shift (B n i : Nat) (v : Value) (xs vs : List Value) (vb g c : Nat) (w : World) (hv : v = .slice (some ⟨g, 0, none⟩) n c) (hi : i < n) (hroom : n + 1 <= c) (hrow : w.ownsRow B 155 2 v n xs) (hn : n <= 1048576) (hvl : vs.length = 2) (hvk : w.heap[vb]? = some (.cells vs.toArray 155 (0, 0))) (hv1 : ∀ u ∈ vs, u.oneCell' = true) (hx1 : ∀ u ∈ xs, u.oneCell' = true) (hvb : vb ≠ g) :
 Calls Tryz.prog 105 #[v, .int .i64 (i : Int), .slice (some ⟨vb, 0, none⟩) 1 1] w fun en w' => InsP B 155 2 w v n (xs.take (i * 2) ++ vs ++ xs.drop (i * 2)) en w' := by
 subst hv
 obtain ⟨i0, hi0, hz0, hz1, hz2⟩ := info_parts infoVss
 have hxl := hrow.1
 obtain ⟨cur, hgB, hgk, hcm, hcs, hct⟩ : ∃ cur : Array Value, B <= g /\ w.heap[g]? = some (.cells cur 155 (0, 0)) /\ c <= maxLen /\ cur.size = c * 2 /\ cur.toList.take (n * 2) = xs := by
  rcases hrow.2 with ⟨h1, h2⟩ | ⟨g', cap, cur, h1, h2, h3, h4, h5, h6, h7⟩
  .cases h1
  .injection h1 with h1 _ hc
   injection h1 with h1
   injection h1 with h1 _ _
   subst h1 hc
   exact ⟨cur, h2, h3, h5, h6, h7⟩
 have hsz : (Tryz.prog.info? 155).map (·.size) = some 2 := by rw [hi0]; simp [hz1]
 have hsv : ∀ j u, vs[j]? = some u -> w.cell? ((⟨vb, 0, none⟩ : Addr).add j) = some u := fun j u hj => by
  rw [Addr.add_lit, Nat.zero_add]
  simp [World.cell?, hvk, hj]
 have hic : (n + 1) * 2 <= cur.toList.length := by rw [Array.length_toList, hcs]; exact Nat.mul_le_mul_right _ hroom
 have hdl : (xs.drop (i * 2)).length = (n - i) * 2 := by rw [List.length_drop, hxl, Nat.sub_mul]
 have hsx : ∀ (W : World), W.heap[g]? = some (.cells cur 155 (0, 0)) -> ∀ j u, (xs.drop (i * 2))[j]? = some u -> W.cell? ((⟨g, i * 2, none⟩ : Addr).add j) = some u := fun W hW j u hj => by
  rw [Addr.add_lit]
  rw [List.getElem?_drop, <- hct, List.getElem?_take] at hj
  split at hj
  .simp only [World.cell?, hW]
   rw [<- Array.getElem?_toList]
   exact hj
  .cases hj
 have hfit : (i + 1) * 2 + (xs.drop (i * 2)).length <= cur.size := by
  rw [hdl, <- Nat.add_mul, hcs]
  exact Nat.mul_le_mul_right _ (by omega)
 obtain ⟨cur1, hcur1⟩ : ∃ z : List Value, z = cur.toList.take ((i + 1) * 2) ++ xs.drop (i * 2) ++ cur.toList.drop ((i + 1) * 2 + (xs.drop (i * 2)).length) := ⟨_, rfl⟩
 have hil := ins_list (K := 2) (vs := vs) hi hvl hxl hct hic hcur1
 obtain ⟨cur2, hcur2⟩ : ∃ z : Array Value, z = (cur1.take (i * 2) ++ vs ++ cur1.drop (i * 2 + vs.length)).toArray := ⟨_, rfl⟩
 have hwd : w.drew.heap[g]? = some (.cells cur 155 (0, 0)) := hgk
 have hcp1 : ∀ ty dc sc, (Builtin.copy_ #[71, 71] ty #[.slice (some ⟨g, (i + 1) * 2, none⟩) (n - i) dc, .slice (some ⟨g, i * 2, none⟩) (n + 1 - i) sc]).run Tryz.prog w.drew = .ok (goInt (Nat.min (n + 1 - i) (n - i))) (w.drew.setRow g cur1.toArray) := fun ty dc sc => by
  have := run_copy_rowK (P := Tryz.prog) w.drew 71 71 ty 155 2 g ((i + 1) * 2) (n - i) dc ⟨g, i * 2, none⟩ (n + 1 - i) sc cur 155 (xs.drop (i * 2)) Tryz.underlying71 hsz hwd (by rw [hdl]; congr 1; simp only [Nat.min_def]; split <;> omega) (hsx _ hwd) hfit (fun u hu => hx1 u (List.mem_of_mem_drop hu))
  rw [<- hcur1] at this
  simpa only [Nat.mul_one] using this
 have hg1 : (w.drew.setRow g cur1.toArray).heap[g]? = some (.cells cur1.toArray 155 (0, 0)) := setRow_heap _ _ _ _ _ _ hwd
 have hfit2 : i * 2 + vs.length <= cur1.toArray.size := by
  rw [List.size_toArray, hil.2.2, hvl, Array.length_toList, hcs]
  have h1 : i * 2 + 2 = (i + 1) * 2 := by rw [Nat.add_mul, Nat.one_mul]
  rw [h1]
  exact Nat.mul_le_mul_right _ (by omega)
 have hcp2 : ∀ ty dc, (Builtin.copy_ #[71, 71] ty #[.slice (some ⟨g, i * 2, none⟩) (n + 1 - i) dc, .slice (some ⟨vb, 0, none⟩) 1 1]).run Tryz.prog (w.drew.setRow g cur1.toArray) = .ok (goInt (Nat.min 1 (n + 1 - i))) (w.drew.setRow g cur2) := fun ty dc => by
  have := run_copy_rowK (P := Tryz.prog) (w.drew.setRow g cur1.toArray) 71 71 ty 155 2 g (i * 2) (n + 1 - i) dc ⟨vb, 0, none⟩ 1 1 cur1.toArray 155 vs Tryz.underlying71 hsz hg1 (by rw [hvl, show Nat.min 1 (n + 1 - i) = 1 from Nat.min_eq_left (by omega)]) (fun j u hj => by
   have h3 := hsv j u hj
   rw [Addr.add_lit] at h3 ⊢
   rw [World.cell?_of_block (setRow_other _ _ _ _ hvb)]
   exact h3) hfit2 hv1
  rw [setRow_setRow, <- hcur2] at this
  simpa only [Nat.mul_one] using this
 have hov : ∀ lb cb, (callFunc 115 #[.slice (some ⟨vb, 0, none⟩) 1 1, .slice (some ⟨g, (i + 1) * 2, none⟩) lb cb]).run Tryz.prog w = .ok (.value (.bool false)) w := fun lb cb => by
  rw [run_callFunc_extern Tryz.func115 (by kernel_rfl) (by kernel_rfl) (by kernel_rfl) (e := Extern.SlicesOverlaps.overlaps #[71, 71] #[4]) (by kernel_rfl),
   Lib.run_overlaps_apart w 71 4 155 Tryz.underlying71 2 (fun w => by simp [sizeOf, typeInfo, hi0, hz1]) ⟨vb, 0, none⟩ ⟨g, (i + 1) * 2, none⟩ 1 1 lb cb hvb 155 155 2 (c * 2) (by simp [World.shape?, hvk, hvl]) (by simp [World.shape?, hgk, hcs]) (by omega) (by simp [World.frozen?, hvk]) (by simp [World.frozen?, hvk])]
  rfl
 have HF : Hid (InsP B 155 2 w (.slice (some ⟨g, 0, none⟩) n c) n (xs.take (i * 2) ++ vs ++ xs.drop (i * 2)) (.returned (.slice (some ⟨g, 0, none⟩) (n + 1) c)) (w.drew.setRow g cur2)) := hid (by
  refine ⟨_, _, rfl, ⟨?_, .inr ⟨g, c, _, rfl, hgB, setRow_heap _ _ _ _ _ _ hwd, hroom, hcm, ?_, ?_⟩⟩, ?_, fun q hq => .inl hq⟩
  .rw [<- hil.1, List.length_take, hil.2.1]; omega
  .rw [hcur2, List.size_toArray, hil.2.1, Array.length_toList, hcs]
  .rw [hcur2]; exact hil.1
  .have := grown_setRow w.drew g cur2
   exact ⟨this.os, this.tape, this.output, this.size, this.block⟩)
 have hw1 : IntKind.i64.wrap ((i : Int) + 1) = (i : Int) + 1 := by rw [IntKind.wrap_i64]; omega
 have hz2 : ¬ ((i : Int) = (n : Int)) := by omega
 have hb1 : (0 : Int) <= (i : Int) + 1 := by omega
 have htn : ((i : Int) + 1).toNat = i + 1 := by omega
 have hb2 : ¬ (c = i + 1) := by omega
 have hb3 : (i : Int) <= (n : Int) + 1 := by omega
 have hb4 : ¬ (c = i) := by omega
 have hin : i <= n := by omega
 have hroomI : ¬ ((c : Int) < (n : Int) + 1) := by omega
 clear hil hcur1 hcur2 hct hcs hic hfit hfit2 hgk hwd hg1 hsx hsv hvk hxl hrow hdl hi0 hz0 hz1
 go_enter Tryz.func105, Tryz.ntmps105
 go_wp2_with (simp only [hov])
 go_region
 go_wp2_with (at_builtin; refine wpList_copy_run _ rfl _ _ 71 71 rfl _ _ rfl rfl (hcp2 _ _) ?_)
 go_ret
 exact HF.out
theorem ins_int_grow (B n i : Nat) (v : Value) (xs vs : List Value) (vb g c : Nat) (w : World) (hv : v = .slice (some ⟨g, 0, none⟩) n c) (hi : i < n) (hroom : c < n + 1) (hrow : w.ownsRow B 3 1 v n xs) (hn : n <= 1048576) (hvl : vs.length = 1) (hvk : w.heap[vb]? = some (.cells vs.toArray 3 (0, 0))) (hv1 : ∀ u ∈ vs, u.oneCell' = true) (hx1 : ∀ u ∈ xs, u.oneCell' = true) (hvb : vb ≠ g) (hB : B <= w.heap.size) :
 Calls Tryz.prog 85 #[v, .int .i64 (i : Int), .slice (some ⟨vb, 0, none⟩) 1 1] w fun en w' => InsP B 3 1 w v n (xs.take (i * 1) ++ vs ++ xs.drop (i * 1)) en w' := by
 subst hv
 obtain ⟨i0, hi0, hz0, hz1, hz2⟩ := info_parts infoInt
 have hxl := hrow.1
 obtain ⟨cur, hgB, hgk, hnc, hcm, hcs, hct⟩ : ∃ cur : Array Value, B <= g /\ w.heap[g]? = some (.cells cur 3 (0, 0)) /\ n <= c /\ c <= maxLen /\ cur.size = c * 1 /\ cur.toList.take (n * 1) = xs := by
  rcases hrow.2 with ⟨h1, h2⟩ | ⟨g', cap, cur, h1, h2, h3, h4, h5, h6, h7⟩
  .cases h1
  .injection h1 with h1 _ hc
   injection h1 with h1
   injection h1 with h1 _ _
   subst h1 hc
   exact ⟨cur, h2, h3, h4, h5, h6, h7⟩
 have hsz : (Tryz.prog.info? 3).map (·.size) = some 1 := by rw [hi0]; simp [hz1]
 have hgl : g < w.heap.size := (Array.getElem?_eq_some_iff.1 hgk).1
 have hvbl : vb < w.heap.size := (Array.getElem?_eq_some_iff.1 hvk).1
 have hdl : (xs.drop (i * 1)).length = (n - i) * 1 := by rw [List.length_drop, hxl, Nat.sub_mul]
 have htl : (xs.take (i * 1)).length = i * 1 := by rw [List.length_take, hxl, Nat.min_eq_left (Nat.mul_le_mul_right _ (by omega))]
 have hcell : ∀ (W : World), W.heap[g]? = w.heap[g]? -> ∀ j u, xs[j]? = some u -> W.cell? ⟨g, j, none⟩ = some u := fun W hW j u hj => by
  rw [<- hct, List.getElem?_take] at hj
  split at hj
  .simp only [World.cell?, hW, hgk]
   rw [<- Array.getElem?_toList]
   exact hj
  .cases hj
 have hsx : ∀ (W : World), W.heap[g]? = w.heap[g]? -> ∀ j u, (xs.drop (i * 1))[j]? = some u -> W.cell? ((⟨g, i * 1, none⟩ : Addr).add j) = some u := fun W hW j u hj => by
  rw [Addr.add_lit]
  rw [List.getElem?_drop] at hj
  exact hcell W hW _ u hj
 have hold : (Builtin.firstCells i0.size i (.slice (some ⟨g, 0, none⟩) i c)).run Tryz.prog w.drew = .ok (xs.take (i * 1)).toArray w.drew := by
  rw [hz1]
  exact run_firstCells_some w.drew 1 i ⟨g, 0, none⟩ i c (xs.take (i * 1)) (by rw [htl]) (fun j u hj => by
   rw [Addr.add_lit, Nat.zero_add]
   rw [List.getElem?_take] at hj
   split at hj
   .exact hcell _ rfl j u hj
   .cases hj)
 have hkk : (n : Int) + 1 - (i : Int) = ((n + 1 - i : Nat) : Int) := by omega
 have hik : i + (n + 1 - i) = n + 1 := by omega
 obtain ⟨G, hG⟩ : ∃ z, z = grownCap w (n + 1) c 3 := ⟨_, rfl⟩
 obtain ⟨ROW, hROW⟩ : ∃ z : Array Value, z = (xs.take (i * 1)).toArray ++ Builtin.zeroCells (.int .i64 0 : Value).cells (n + 1 - i) ++ Builtin.zeroCells (.int .i64 0 : Value).cells (G - (n + 1)) := ⟨_, rfl⟩
 obtain ⟨W1, hW1⟩ : ∃ z, z = w.drew.alloc (.cells ROW 3) := ⟨_, rfl⟩
 have hGn : n + 1 <= G := by rw [hG]; exact grownCap_ge w _ _ _
 have hG63 : G <= maxLen := by rw [hG]; exact grownCap_le_maxLen w (n + 1) c 3 (by unfold maxLen; omega)
 have hrz : ∀ ty, (Builtin.append_ #[32, 3] ty #[.slice (some ⟨g, 0, none⟩) i c, .int .i64 ((n : Int) + 1 - (i : Int))]).run Tryz.prog w = .ok (.slice (some ⟨w.heap.size, 0, none⟩) (n + 1) G) W1 := fun ty => by
  have h := Lib.run_append_grow_zeros w 32 3 ty 3 i0 _ .i64 .i64 Tryz.underlying32 Tryz.underlying3 hi0 hz0 (some ⟨g, 0, none⟩) i c (xs.take (i * 1)) hold (n + 1 - i) (by omega) (by omega) (by omega) (by omega) (by rw [hz2]; omega) (by rw [hz2, hik]; exact growslice_fits hroom (by omega))
  rw [hik] at h
  rw [hkk, h, hW1, hROW, hG]
 have hrl : ROW.size = G * 1 := by
  rw [hROW]
  simp [Builtin.zeroCells, Value.cells, htl]
  first | omega | (rw [<- Nat.add_mul, <- Nat.add_mul]; congr 1; omega)
 have hn1 : W1.heap[w.heap.size]? = some (.cells ROW 3 (0, 0)) := by rw [hW1]; exact Array.getElem?_push_size
 have hb1 : ∀ k, k < w.heap.size -> W1.heap[k]? = w.heap[k]? := fun k hk => by rw [hW1]; exact Below.heap_alloc w.drew _ k hk
 have hsv : ∀ (W : World), W.heap[vb]? = w.heap[vb]? -> ∀ j u, vs[j]? = some u -> W.cell? ((⟨vb, 0, none⟩ : Addr).add j) = some u := fun W hW j u hj => by
  rw [Addr.add_lit, Nat.zero_add]
  simp [World.cell?, hW, hvk, hj]
 obtain ⟨rA, hrA⟩ : ∃ z : Array Value, z = (ROW.toList.take (i * 1) ++ vs ++ ROW.toList.drop (i * 1 + vs.length)).toArray := ⟨_, rfl⟩
 have hi1 : i * 1 + 1 = (i + 1) * 1 := by rw [Nat.add_mul, Nat.one_mul]
 have hle1 : (i + 1) * 1 <= G * 1 := Nat.mul_le_mul_right _ (by omega)
 have hcpA : ∀ ty dc, (Builtin.copy_ #[32, 32] ty #[.slice (some ⟨w.heap.size, i, none⟩) (n + 1 - i) dc, .slice (some ⟨vb, 0, none⟩) 1 1]).run Tryz.prog W1 = .ok (goInt (Nat.min 1 (n + 1 - i))) (W1.setRow w.heap.size rA) := fun ty dc => by
  have := run_copy_rowK (P := Tryz.prog) W1 32 32 ty 3 1 w.heap.size (i * 1) (n + 1 - i) dc ⟨vb, 0, none⟩ 1 1 ROW 3 vs Tryz.underlying32 hsz hn1 (by rw [hvl, show Nat.min 1 (n + 1 - i) = 1 from Nat.min_eq_left (by omega)]) (hsv W1 (hb1 vb hvbl)) (by rw [hvl, hrl, hi1]; exact hle1) hv1
  rw [<- hrA] at this
  simpa only [Nat.mul_one] using this
 have hral : rA.size = G * 1 := by
  rw [hrA, List.size_toArray]
  simp only [List.length_append, List.length_take, List.length_drop, Array.length_toList, hrl, hvl]
  omega
 have hn2 : (W1.setRow w.heap.size rA).drew.heap[w.heap.size]? = some (.cells rA 3 (0, 0)) := setRow_heap _ _ _ _ _ _ hn1
 have hb2 : ∀ k, k < w.heap.size -> (W1.setRow w.heap.size rA).drew.heap[k]? = w.heap[k]? := fun k hk => (setRow_other W1 w.heap.size k rA (by omega)).trans (hb1 k hk)
 obtain ⟨rB, hrB⟩ : ∃ z : Array Value, z = (rA.toList.take ((i + 1) * 1) ++ xs.drop (i * 1) ++ rA.toList.drop ((i + 1) * 1 + (xs.drop (i * 1)).length)).toArray := ⟨_, rfl⟩
 have hfit : (i + 1) * 1 + (xs.drop (i * 1)).length <= rA.size := by
  rw [hdl, <- Nat.add_mul, hral]
  exact Nat.mul_le_mul_right _ (by omega)
 have hcpB : ∀ ty dc sc, (Builtin.copy_ #[32, 32] ty #[.slice (some ⟨w.heap.size, i + 1, none⟩) (n - i) dc, .slice (some ⟨g, i, none⟩) (n - i) sc]).run Tryz.prog (W1.setRow w.heap.size rA).drew = .ok (goInt (Nat.min (n - i) (n - i))) ((W1.setRow w.heap.size rA).drew.setRow w.heap.size rB) := fun ty dc sc => by
  have := run_copy_rowK (P := Tryz.prog) (W1.setRow w.heap.size rA).drew 32 32 ty 3 1 w.heap.size ((i + 1) * 1) (n - i) dc ⟨g, i * 1, none⟩ (n - i) sc rA 3 (xs.drop (i * 1)) Tryz.underlying32 hsz hn2 (by rw [hdl]; congr 1; exact (Nat.min_self _).symm) (hsx _ (hb2 g hgl)) hfit (fun u hu => hx1 u (List.mem_of_mem_drop hu))
  rw [<- hrB] at this
  simpa only [Nat.mul_one] using this
 have HF : Hid (InsP B 3 1 w (.slice (some ⟨g, 0, none⟩) n c) n (xs.take (i * 1) ++ vs ++ xs.drop (i * 1)) (.returned (.slice (some ⟨w.heap.size, 0, none⟩) (n + 1) G)) ((W1.setRow w.heap.size rA).drew.setRow w.heap.size rB)) := hid (by
  have hA1 : rA.toList.take ((i + 1) * 1) = xs.take (i * 1) ++ vs := by
   rw [hrA, List.toList_toArray, List.take_append_of_le_length (by simp only [List.length_append, List.length_take, Array.length_toList, hrl, hvl]; omega), List.take_of_length_le (by simp only [List.length_append, List.length_take, Array.length_toList, hrl, hvl]; omega)]
   congr 1
   rw [hROW, Array.toList_append, Array.toList_append, List.toList_toArray, List.append_assoc, List.take_append_of_le_length (Nat.le_of_eq htl.symm), List.take_of_length_le (Nat.le_of_eq htl)]
  have hrl2 : rB.size = G * 1 := by
   rw [hrB, List.size_toArray]
   simp only [List.length_append, List.length_take, List.length_drop, Array.length_toList, hral, hxl]
   have h2 : (i + 1) * 1 <= n * 1 + 1 := by rw [show n * 1 + 1 = (n + 1) * 1 by rw [Nat.add_mul, Nat.one_mul]]; exact Nat.mul_le_mul_right _ (by omega)
   have h3 : n * 1 + 1 <= G * 1 := by rw [show n * 1 + 1 = (n + 1) * 1 by rw [Nat.add_mul, Nat.one_mul]]; exact Nat.mul_le_mul_right _ hGn
   have h4 : i * 1 <= n * 1 := Nat.mul_le_mul_right _ (by omega)
   omega
  have hlen : (xs.take (i * 1) ++ vs ++ xs.drop (i * 1)).length = (n + 1) * 1 := by
   simp only [List.length_append, htl, hvl, hdl]
   rw [hi1, <- Nat.add_mul]
   congr 1
   omega
  refine ⟨_, _, rfl, ⟨hlen, .inr ⟨w.heap.size, G, rB, rfl, hB, setRow_heap _ _ _ _ _ _ hn2, hGn, hG63, hrl2, ?_⟩⟩, ?_, fun q hq => ?_⟩
  .rw [hrB, List.toList_toArray, hA1, List.take_append_of_le_length (Nat.le_of_eq hlen.symm), List.take_of_length_le (Nat.le_of_eq hlen)]
  .have h5 := hb2
   refine ⟨?_, ?_, ?_, ?_, fun k hk _ => (setRow_other _ w.heap.size k rB (by omega)).trans (hb2 k hk)⟩
   .show W1.os = w.os; rw [hW1]; rfl
   .show W1.tape = w.tape; rw [hW1]; rfl
   .show W1.output = w.output; rw [hW1]; rfl
   .rw [setRow_size]; show w.heap.size <= (W1.setRow w.heap.size rA).heap.size; rw [setRow_size, hW1]; simp
  .simp [Value.ownBlock] at hq
   exact .inr (by omega))
 have hw1 : IntKind.i64.wrap ((i : Int) + 1) = (i : Int) + 1 := by rw [IntKind.wrap_i64]; omega
 have hz2' : ¬ ((i : Int) = (n : Int)) := by omega
 have hb1' : (0 : Int) <= (i : Int) + 1 := by omega
 have htn : ((i : Int) + 1).toNat = i + 1 := by omega
 have hGi : ¬ (G = i) := by omega
 have hGim : ¬ (G = i + 1) := by omega
 have hci : ¬ (c = i) := by omega
 have hin : i <= n := by omega
 have hroomI : (c : Int) < (n : Int) + 1 := by omega
 have hb3 : (i : Int) <= (n : Int) := by omega
 have hG63' : G <= 9223372036854775807 := by unfold maxLen at hG63; omega
 clear hct hcs hfit hgk hn1 hn2 hsx hsv hvk hxl hrow hdl hi0 hz0 hz1 hold hkk hik hG hROW hW1 hrl hb1 hb2 hrA hrB hral hcell htl hi1 hle1 hG63 hcm hsz hz2
 go_enter Tryz.func85, Tryz.ntmps85
 go_wp2_with (first
  | (at_builtin; refine Lib.wpList_append_run _ rfl _ _ _ _ rfl _ _ rfl rfl _ _ (hrz _) ?_)
  | (at_builtin; refine wpList_copy_run _ rfl _ _ 32 32 rfl _ _ rfl rfl (hcpA _ _) ?_))
 go_region
 go_wp2
 go_ret
 exact HF.out
theorem ins_vss_grow (B n i : Nat) (v : Value) (xs vs : List Value) (vb g c : Nat) (w : World) (hv : v = .slice (some ⟨g, 0, none⟩) n c) (hi : i < n) (hroom : c < n + 1) (hrow : w.ownsRow B 155 2 v n xs) (hn : n <= 1048576) (hvl : vs.length = 2) (hvk : w.heap[vb]? = some (.cells vs.toArray 155 (0, 0))) (hv1 : ∀ u ∈ vs, u.oneCell' = true) (hx1 : ∀ u ∈ xs, u.oneCell' = true) (hvb : vb ≠ g) (hB : B <= w.heap.size) :
 Calls Tryz.prog 105 #[v, .int .i64 (i : Int), .slice (some ⟨vb, 0, none⟩) 1 1] w fun en w' => InsP B 155 2 w v n (xs.take (i * 2) ++ vs ++ xs.drop (i * 2)) en w' := by
 subst hv
 obtain ⟨i0, hi0, hz0, hz1, hz2⟩ := info_parts infoVss
 have hxl := hrow.1
 obtain ⟨cur, hgB, hgk, hnc, hcm, hcs, hct⟩ : ∃ cur : Array Value, B <= g /\ w.heap[g]? = some (.cells cur 155 (0, 0)) /\ n <= c /\ c <= maxLen /\ cur.size = c * 2 /\ cur.toList.take (n * 2) = xs := by
  rcases hrow.2 with ⟨h1, h2⟩ | ⟨g', cap, cur, h1, h2, h3, h4, h5, h6, h7⟩
  .cases h1
  .injection h1 with h1 _ hc
   injection h1 with h1
   injection h1 with h1 _ _
   subst h1 hc
   exact ⟨cur, h2, h3, h4, h5, h6, h7⟩
 have hsz : (Tryz.prog.info? 155).map (·.size) = some 2 := by rw [hi0]; simp [hz1]
 have hgl : g < w.heap.size := (Array.getElem?_eq_some_iff.1 hgk).1
 have hvbl : vb < w.heap.size := (Array.getElem?_eq_some_iff.1 hvk).1
 have hdl : (xs.drop (i * 2)).length = (n - i) * 2 := by rw [List.length_drop, hxl, Nat.sub_mul]
 have htl : (xs.take (i * 2)).length = i * 2 := by rw [List.length_take, hxl, Nat.min_eq_left (Nat.mul_le_mul_right _ (by omega))]
 have hcell : ∀ (W : World), W.heap[g]? = w.heap[g]? -> ∀ j u, xs[j]? = some u -> W.cell? ⟨g, j, none⟩ = some u := fun W hW j u hj => by
  rw [<- hct, List.getElem?_take] at hj
  split at hj
  .simp only [World.cell?, hW, hgk]
   rw [<- Array.getElem?_toList]
   exact hj
  .cases hj
 have hsx : ∀ (W : World), W.heap[g]? = w.heap[g]? -> ∀ j u, (xs.drop (i * 2))[j]? = some u -> W.cell? ((⟨g, i * 2, none⟩ : Addr).add j) = some u := fun W hW j u hj => by
  rw [Addr.add_lit]
  rw [List.getElem?_drop] at hj
  exact hcell W hW _ u hj
 have hold : (Builtin.firstCells i0.size i (.slice (some ⟨g, 0, none⟩) i c)).run Tryz.prog w.drew = .ok (xs.take (i * 2)).toArray w.drew := by
  rw [hz1]
  exact run_firstCells_some w.drew 2 i ⟨g, 0, none⟩ i c (xs.take (i * 2)) (by rw [htl]) (fun j u hj => by
   rw [Addr.add_lit, Nat.zero_add]
   rw [List.getElem?_take] at hj
   split at hj
   .exact hcell _ rfl j u hj
   .cases hj)
 have hkk : (n : Int) + 1 - (i : Int) = ((n + 1 - i : Nat) : Int) := by omega
 have hik : i + (n + 1 - i) = n + 1 := by omega
 obtain ⟨G, hG⟩ : ∃ z, z = grownCap w (n + 1) c 155 := ⟨_, rfl⟩
 obtain ⟨ROW, hROW⟩ : ∃ z : Array Value, z = (xs.take (i * 2)).toArray ++ Builtin.zeroCells (.agg #[.slice none 0 0, .slice none 0 0] : Value).cells (n + 1 - i) ++ Builtin.zeroCells (.agg #[.slice none 0 0, .slice none 0 0] : Value).cells (G - (n + 1)) := ⟨_, rfl⟩
 obtain ⟨W1, hW1⟩ : ∃ z, z = w.drew.alloc (.cells ROW 155) := ⟨_, rfl⟩
 have hGn : n + 1 <= G := by rw [hG]; exact grownCap_ge w _ _ _
 have hG63 : G <= maxLen := by rw [hG]; exact grownCap_le_maxLen w (n + 1) c 155 (by unfold maxLen; omega)
 have hrz : ∀ ty, (Builtin.append_ #[71, 3] ty #[.slice (some ⟨g, 0, none⟩) i c, .int .i64 ((n : Int) + 1 - (i : Int))]).run Tryz.prog w = .ok (.slice (some ⟨w.heap.size, 0, none⟩) (n + 1) G) W1 := fun ty => by
  have h := Lib.run_append_grow_zeros w 71 3 ty 155 i0 _ .i64 .i64 Tryz.underlying71 Tryz.underlying3 hi0 hz0 (some ⟨g, 0, none⟩) i c (xs.take (i * 2)) hold (n + 1 - i) (by omega) (by omega) (by omega) (by omega) (by rw [hz2]; omega) (by rw [hz2, hik]; exact growslice_fits hroom (by omega))
  rw [hik] at h
  rw [hkk, h, hW1, hROW, hG]
 have hrl : ROW.size = G * 2 := by
  rw [hROW]
  simp [Builtin.zeroCells, Value.cells, htl]
  first | omega | (rw [<- Nat.add_mul, <- Nat.add_mul]; congr 1; omega)
 have hn1 : W1.heap[w.heap.size]? = some (.cells ROW 155 (0, 0)) := by rw [hW1]; exact Array.getElem?_push_size
 have hb1 : ∀ k, k < w.heap.size -> W1.heap[k]? = w.heap[k]? := fun k hk => by rw [hW1]; exact Below.heap_alloc w.drew _ k hk
 have hsv : ∀ (W : World), W.heap[vb]? = w.heap[vb]? -> ∀ j u, vs[j]? = some u -> W.cell? ((⟨vb, 0, none⟩ : Addr).add j) = some u := fun W hW j u hj => by
  rw [Addr.add_lit, Nat.zero_add]
  simp [World.cell?, hW, hvk, hj]
 obtain ⟨rA, hrA⟩ : ∃ z : Array Value, z = (ROW.toList.take (i * 2) ++ vs ++ ROW.toList.drop (i * 2 + vs.length)).toArray := ⟨_, rfl⟩
 have hi1 : i * 2 + 2 = (i + 1) * 2 := by rw [Nat.add_mul, Nat.one_mul]
 have hle1 : (i + 1) * 2 <= G * 2 := Nat.mul_le_mul_right _ (by omega)
 have hcpA : ∀ ty dc, (Builtin.copy_ #[71, 71] ty #[.slice (some ⟨w.heap.size, i * 2, none⟩) (n + 1 - i) dc, .slice (some ⟨vb, 0, none⟩) 1 1]).run Tryz.prog W1 = .ok (goInt (Nat.min 1 (n + 1 - i))) (W1.setRow w.heap.size rA) := fun ty dc => by
  have := run_copy_rowK (P := Tryz.prog) W1 71 71 ty 155 2 w.heap.size (i * 2) (n + 1 - i) dc ⟨vb, 0, none⟩ 1 1 ROW 155 vs Tryz.underlying71 hsz hn1 (by rw [hvl, show Nat.min 1 (n + 1 - i) = 1 from Nat.min_eq_left (by omega)]) (hsv W1 (hb1 vb hvbl)) (by rw [hvl, hrl, hi1]; exact hle1) hv1
  rw [<- hrA] at this
  simpa only [Nat.mul_one] using this
 have hral : rA.size = G * 2 := by
  rw [hrA, List.size_toArray]
  simp only [List.length_append, List.length_take, List.length_drop, Array.length_toList, hrl, hvl]
  omega
 have hn2 : (W1.setRow w.heap.size rA).drew.heap[w.heap.size]? = some (.cells rA 155 (0, 0)) := setRow_heap _ _ _ _ _ _ hn1
 have hb2 : ∀ k, k < w.heap.size -> (W1.setRow w.heap.size rA).drew.heap[k]? = w.heap[k]? := fun k hk => (setRow_other W1 w.heap.size k rA (by omega)).trans (hb1 k hk)
 obtain ⟨rB, hrB⟩ : ∃ z : Array Value, z = (rA.toList.take ((i + 1) * 2) ++ xs.drop (i * 2) ++ rA.toList.drop ((i + 1) * 2 + (xs.drop (i * 2)).length)).toArray := ⟨_, rfl⟩
 have hfit : (i + 1) * 2 + (xs.drop (i * 2)).length <= rA.size := by
  rw [hdl, <- Nat.add_mul, hral]
  exact Nat.mul_le_mul_right _ (by omega)
 have hcpB : ∀ ty dc sc, (Builtin.copy_ #[71, 71] ty #[.slice (some ⟨w.heap.size, (i + 1) * 2, none⟩) (n - i) dc, .slice (some ⟨g, i * 2, none⟩) (n - i) sc]).run Tryz.prog (W1.setRow w.heap.size rA).drew = .ok (goInt (Nat.min (n - i) (n - i))) ((W1.setRow w.heap.size rA).drew.setRow w.heap.size rB) := fun ty dc sc => by
  have := run_copy_rowK (P := Tryz.prog) (W1.setRow w.heap.size rA).drew 71 71 ty 155 2 w.heap.size ((i + 1) * 2) (n - i) dc ⟨g, i * 2, none⟩ (n - i) sc rA 155 (xs.drop (i * 2)) Tryz.underlying71 hsz hn2 (by rw [hdl]; congr 1; exact (Nat.min_self _).symm) (hsx _ (hb2 g hgl)) hfit (fun u hu => hx1 u (List.mem_of_mem_drop hu))
  rw [<- hrB] at this
  simpa only [Nat.mul_one] using this
 have HF : Hid (InsP B 155 2 w (.slice (some ⟨g, 0, none⟩) n c) n (xs.take (i * 2) ++ vs ++ xs.drop (i * 2)) (.returned (.slice (some ⟨w.heap.size, 0, none⟩) (n + 1) G)) ((W1.setRow w.heap.size rA).drew.setRow w.heap.size rB)) := hid (by
  have hA1 : rA.toList.take ((i + 1) * 2) = xs.take (i * 2) ++ vs := by
   rw [hrA, List.toList_toArray, List.take_append_of_le_length (by simp only [List.length_append, List.length_take, Array.length_toList, hrl, hvl]; omega), List.take_of_length_le (by simp only [List.length_append, List.length_take, Array.length_toList, hrl, hvl]; omega)]
   congr 1
   rw [hROW, Array.toList_append, Array.toList_append, List.toList_toArray, List.append_assoc, List.take_append_of_le_length (Nat.le_of_eq htl.symm), List.take_of_length_le (Nat.le_of_eq htl)]
  have hrl2 : rB.size = G * 2 := by
   rw [hrB, List.size_toArray]
   simp only [List.length_append, List.length_take, List.length_drop, Array.length_toList, hral, hxl]
   have h2 : (i + 1) * 2 <= n * 2 + 2 := by rw [show n * 2 + 2 = (n + 1) * 2 by rw [Nat.add_mul, Nat.one_mul]]; exact Nat.mul_le_mul_right _ (by omega)
   have h3 : n * 2 + 2 <= G * 2 := by rw [show n * 2 + 2 = (n + 1) * 2 by rw [Nat.add_mul, Nat.one_mul]]; exact Nat.mul_le_mul_right _ hGn
   have h4 : i * 2 <= n * 2 := Nat.mul_le_mul_right _ (by omega)
   omega
  have hlen : (xs.take (i * 2) ++ vs ++ xs.drop (i * 2)).length = (n + 1) * 2 := by
   simp only [List.length_append, htl, hvl, hdl]
   rw [hi1, <- Nat.add_mul]
   congr 1
   omega
  refine ⟨_, _, rfl, ⟨hlen, .inr ⟨w.heap.size, G, rB, rfl, hB, setRow_heap _ _ _ _ _ _ hn2, hGn, hG63, hrl2, ?_⟩⟩, ?_, fun q hq => ?_⟩
  .rw [hrB, List.toList_toArray, hA1, List.take_append_of_le_length (Nat.le_of_eq hlen.symm), List.take_of_length_le (Nat.le_of_eq hlen)]
  .have h5 := hb2
   refine ⟨?_, ?_, ?_, ?_, fun k hk _ => (setRow_other _ w.heap.size k rB (by omega)).trans (hb2 k hk)⟩
   .show W1.os = w.os; rw [hW1]; rfl
   .show W1.tape = w.tape; rw [hW1]; rfl
   .show W1.output = w.output; rw [hW1]; rfl
   .rw [setRow_size]; show w.heap.size <= (W1.setRow w.heap.size rA).heap.size; rw [setRow_size, hW1]; simp
  .simp [Value.ownBlock] at hq
   exact .inr (by omega))
 have hw1 : IntKind.i64.wrap ((i : Int) + 1) = (i : Int) + 1 := by rw [IntKind.wrap_i64]; omega
 have hz2' : ¬ ((i : Int) = (n : Int)) := by omega
 have hb1' : (0 : Int) <= (i : Int) + 1 := by omega
 have htn : ((i : Int) + 1).toNat = i + 1 := by omega
 have hGi : ¬ (G = i) := by omega
 have hGim : ¬ (G = i + 1) := by omega
 have hci : ¬ (c = i) := by omega
 have hin : i <= n := by omega
 have hroomI : (c : Int) < (n : Int) + 1 := by omega
 have hb3 : (i : Int) <= (n : Int) := by omega
 have hG63' : G <= 9223372036854775807 := by unfold maxLen at hG63; omega
 clear hct hcs hfit hgk hn1 hn2 hsx hsv hvk hxl hrow hdl hi0 hz0 hz1 hold hkk hik hG hROW hW1 hrl hb1 hb2 hrA hrB hral hcell htl hi1 hle1 hG63 hcm hsz hz2
 go_enter Tryz.func105, Tryz.ntmps105
 go_wp2_with (first
  | (at_builtin; refine Lib.wpList_append_run _ rfl _ _ _ _ rfl _ _ rfl rfl _ _ (hrz _) ?_)
  | (at_builtin; refine wpList_copy_run _ rfl _ _ 71 71 rfl _ _ rfl rfl (hcpA _ _) ?_))
 go_region
 go_wp2
 go_ret
 exact HF.out
end Go.Proofs.YtblkgicbimflhaaGreat
/-
 DERIVED: THE SHELF's CONTRACTS AT THIS DUMP, IN PLAIN WORDS (tools/lay-plain.mjs out of 'TryzShelf.lean', which tools/lay-shelf.mjs wrote): THE SAME DECLARATIONS UNDER THE SAME NAMES: 'import', 'namespace', 'open', 'def', 'theorem' AND NOTHING ELSE: no command of the shelf's: FOR A HAND-IN. Each laying: the table of numbers ('.._ren') and one theorem, a field a fact of the dump's own or the kernel's comparison; each contract: ONE APPLICATION.
-/
namespace Go.Proofs
open Go.Shelf
def Tryz.laysNm225_ren : Go.Shelf.Ren := ⟨fun | 25 => 82 | 31 => 96 | 32 => 97 | 37 => 108 | n => n, fun | 22 => 32 | 3 => 3 | 4 => 4 | 40 => 192 | 0 => 0 | n => n, fun | n => n⟩
theorem Tryz.laysNm225 : Go.Proofs.Lays2.n25 Tryz.prog Tryz.laysNm225_ren := {
 mixed := by kernel_rfl
 f25 := Tryz.func82.trans (congrArg some (by kernel_rfl))
 f31 := Tryz.func96.trans (congrArg some (by kernel_rfl))
 f32 := Tryz.func97.trans (congrArg some (by kernel_rfl))
 f37 := Tryz.func108.trans (congrArg some (by kernel_rfl))
 t0 := Tryz.underlying0
 a0 := Tryz.isAgg0
 z0 := Tryz.sizeOf0
 v0 := Tryz.zeroValue0
 t3 := Tryz.underlying3
 a3 := Tryz.isAgg3
 z3 := Tryz.sizeOf3
 v3 := Tryz.zeroValue3
 t4 := Tryz.underlying4
 a4 := Tryz.isAgg4
 z4 := Tryz.sizeOf4
 v4 := Tryz.zeroValue4
 t22 := Tryz.underlying32
 a22 := Tryz.isAgg32
 z22 := Tryz.sizeOf32
 v22 := Tryz.zeroValue32
 t40 := Tryz.underlying192
 a40 := Tryz.isAgg192
 z40 := Tryz.sizeOf192
 v40 := Tryz.zeroValue192 }
open Go.RowKit Go.Lib in
theorem Tryz.slices_BinarySearch_int (b off n c : Nat) (zs : List Int) (x : Int) (w : World) (hz : n <= zs.length) (hbig : n < 4611686018427387904) (hc : ∀ j, j < zs.length -> w.cell? ⟨b, off + j, none⟩ = some (.int .i64 (zs.getD j 0))) (hs : (zs.take n).Pairwise (· <= ·)) :
 Calls Tryz.prog 82 #[.slice (some ⟨b, off, none⟩) n c, .int .i64 x] w fun e w' => e = .returned (.tuple #[.int .i64 ((zs.take n).countP (· < x) : Nat), .bool ((zs.take n).contains x)]) /\ ∃ q, w' = w.drewN q := Any.slices_BinarySearch_int Tryz.laysNm225 b off n c zs x w hz hbig hc hs
def Tryz.laysNm223_ren : Go.Shelf.Ren := ⟨fun | 23 => 86 | n => n, fun | 22 => 32 | 3 => 3 | 4 => 4 | 0 => 0 | n => n, fun | n => n⟩
theorem Tryz.laysNm223 : Go.Proofs.Lays2.n23 Tryz.prog Tryz.laysNm223_ren := {
 mixed := by kernel_rfl
 f23 := Tryz.func86.trans (congrArg some (by kernel_rfl))
 t0 := Tryz.underlying0
 a0 := Tryz.isAgg0
 z0 := Tryz.sizeOf0
 v0 := Tryz.zeroValue0
 t3 := Tryz.underlying3
 a3 := Tryz.isAgg3
 z3 := Tryz.sizeOf3
 v3 := Tryz.zeroValue3
 t4 := Tryz.underlying4
 a4 := Tryz.isAgg4
 z4 := Tryz.sizeOf4
 v4 := Tryz.zeroValue4
 t22 := Tryz.underlying32
 a22 := Tryz.isAgg32
 z22 := Tryz.sizeOf32
 v22 := Tryz.zeroValue32
 i3 := by kernel_rfl }
open Go.RowKit Go.Lib Go.Sort in
theorem Tryz.slices_Delete_int_cells (b off n c i j : Nat) (zs : List Int) (w : World) (hz : n <= zs.length) (hcap : n <= c) (hm : c <= 9223372036854775807) (hij : i <= j) (hj : j <= n) (hc : ∀ j, j < zs.length -> w.cell? ⟨b, off + j, none⟩ = some (.int .i64 (zs.getD j 0))) (hf : ∀ j, j < n -> w.frozen? ⟨b, off + j, none⟩ = false) :
 Calls Tryz.prog 86 #[.slice (some ⟨b, off, none⟩) n c, .int .i64 i, .int .i64 j] w fun e w' => e = .returned (.slice (some ⟨b, off, none⟩) (n - (j - i)) c) /\ ∃ q, w' = (w.drewN q).setCells b off (((zs.take n).take i ++ (zs.take n).drop j ++ List.replicate (j - i) 0).map (Value.int .i64)) := Any.slices_Delete_int_cells Tryz.laysNm223 b off n c i j zs w hz hcap hm hij hj hc hf
open Go.RowKit Go.Lib in
theorem Tryz.slices_BinarySearch_int_empty (a : Option Addr) (c : Nat) (x : Int) (w : World) :
 Calls Tryz.prog 82 #[.slice a 0 c, .int .i64 x] w fun e w' => e = .returned (.tuple #[.int .i64 0, .bool false]) /\ w' = w := Any.slices_BinarySearch_int_empty Tryz.laysNm225 a c x w
end Go.Proofs
