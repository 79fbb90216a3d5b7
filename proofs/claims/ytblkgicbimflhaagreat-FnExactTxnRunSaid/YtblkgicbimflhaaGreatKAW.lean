import Derived.Test.YtblkgicbimflhaaGreatKAV
import Derived.Deep.RegionLawGrows
namespace Go.Proofs.YtblkgicbimflhaaGreat
open Go.ChangeShapes Go.WideShapes Go.ChangeAt Go.RowKit
set_option linter.unusedVariables false
set_option linter.unusedSimpArgs false
set_option maxRecDepth 100000
open List (setIfInBounds_toArray set_cons_zero set_cons_succ)
theorem wpList_copy_run {P : Program} (w : World) {ops : Array Oper} {rest : List Oper} {o : Oper} {a : Act} {Q : Exit → Act → World → Prop} (hgd : o.guard = none) (d s : Operand) (t t' : TypeId)
 (ho : o.op = .call { callee := .builtin .copy, args := #[d, s], argTypes := #[t, t'] }) (v u : Value) (hd : a.eval d = v) (hs : a.eval s = u) {v' : Value} {w' : World}
 (hr : (Builtin.copy_ #[t, t'] o.type #[v, u]).run P w = .ok v' w') (h : wpList P ops Q rest (a.put o.dst v') w') : wpList P ops Q (o :: rest) a w :=
 wpList_plain hgd fun _ hK => by
  unfold Oper.wp execOp
  simp only [ho, resolve, invoke, builtin, Sem.run_bind, Sem.run_pure, Result.andThen_ok, List.map_toArray, List.map_cons, List.map_nil, hd, hs, hr]
  exact hK _ _ h
set_option maxHeartbeats 8000000 in
theorem ins_int_end (B n : Nat) (v : Value) (xs vs : List Value) (vb : Nat) (w : World) (hrow : w.ownsRow B 3 1 v n xs) (hn : n ≤ 1048576) (hvl : vs.length = 1) (hvk : w.heap[vb]? = some (.cells vs.toArray 3 (0, 0))) (hv1 : ∀ u ∈ vs, u.oneCell' = true) (hB : B ≤ w.heap.size) :
 Calls Tryz.prog 85 #[v, .int .i64 (n : Int), .slice (some ⟨vb, 0, none⟩) 1 1] w fun en w' => InsP B 3 1 w v n (xs ++ vs) en w' := by
 obtain ⟨i0, hi0, hz0, hz1, hz2⟩ := info_parts infoInt
 have hsrc : ∀ j u, vs[j]? = some u → w.cell? ((⟨vb, 0, none⟩ : Addr).add j) = some u := fun j u hj => by
  have hl : j < vs.length := (List.getElem?_eq_some_iff.1 hj).1
  rw [Addr.add_lit, Nat.zero_add]
  simp [World.cell?, hvk, hj]
 obtain ⟨a, c, hv⟩ := formR hrow
 subst hv
 have HR := hid hrow
 have hcap : n ≤ c := by
  rcases hrow.2 with ⟨h1, h2⟩ | ⟨g, cap, cur, h1, _, _, h2, _⟩
  ·injection h1 with _ _ h3; omega
  ·injection h1 with _ _ h3; omega
 clear hrow hvk
 by_cases hcn : n = c
 ·subst hcn
  go_enter Tryz.func85, Tryz.ntmps85
  go_wp2_with (at_builtin; go_loud (refine wpList_append_own_at _ rfl (.tmp 23) (.tmp 24) 32 rfl B 3 i0 _ 1 8 Tryz.underlying32 hi0 hz0 hz1 hz2 rfl (by decide) (.slice a n n) n xs rfl HR.out ⟨vb, 0, none⟩ 1 1 vs rfl (by simpa using hvl) hsrc hv1 (by unfold maxLen; omega) (by omega) hB ?_; intro v' w' hown hgrow _ hblk; obtain ⟨na, nc, hvn⟩ := formR hown; subst hvn; have HF : Hid (InsP B 3 1 w (.slice a n n) n (xs ++ vs) (.returned (.slice na (n + 1) nc)) w') := ⟨na, nc, rfl, hown, hgrow, fun g hg => by rcases hblk with z | z; exact .inl (z ▸ hg); rw [z] at hg; injection hg with hg; exact .inr (by omega)⟩; clear hown hgrow hblk))
  all_goals first | (exfalso; go_light; omega) | skip
  go_ret
  exact HF.out
 ·have hcn2 : ¬ c = n := fun z => hcn z.symm
  go_enter Tryz.func85, Tryz.ntmps85
  go_wp2_with (at_builtin; go_loud (refine wpList_append_own_at _ rfl (.tmp 23) (.tmp 24) 32 rfl B 3 i0 _ 1 8 Tryz.underlying32 hi0 hz0 hz1 hz2 rfl (by decide) (.slice a n c) n xs rfl HR.out ⟨vb, 0, none⟩ 1 1 vs rfl (by simpa using hvl) hsrc hv1 (by unfold maxLen; omega) (by omega) hB ?_; intro v' w' hown hgrow _ hblk; obtain ⟨na, nc, hvn⟩ := formR hown; subst hvn; have HF : Hid (InsP B 3 1 w (.slice a n c) n (xs ++ vs) (.returned (.slice na (n + 1) nc)) w') := ⟨na, nc, rfl, hown, hgrow, fun g hg => by rcases hblk with z | z; exact .inl (z ▸ hg); rw [z] at hg; injection hg with hg; exact .inr (by omega)⟩; clear hown hgrow hblk))
  all_goals first | (exfalso; go_light; omega) | skip
  go_ret
  exact HF.out
theorem infoVer : (Tryz.prog.info? 121).map (fun i => (i.zero, i.size, i.bytes)) = some (some (.agg #[.int .i64 0, .bool false]), 2, 16) := by kernel_rfl

set_option maxHeartbeats 8000000 in
theorem ins_ver_end (B n : Nat) (v : Value) (xs vs : List Value) (vb : Nat) (w : World) (hrow : w.ownsRow B 121 2 v n xs) (hn : n ≤ 1048576) (hvl : vs.length = 2) (hvk : w.heap[vb]? = some (.cells vs.toArray 121 (0, 0))) (hv1 : ∀ u ∈ vs, u.oneCell' = true) (hB : B ≤ w.heap.size) :
 Calls Tryz.prog 104 #[v, .int .i64 (n : Int), .slice (some ⟨vb, 0, none⟩) 1 1] w fun en w' => InsP B 121 2 w v n (xs ++ vs) en w' := by
 obtain ⟨i0, hi0, hz0, hz1, hz2⟩ := info_parts infoVer
 have hsrc : ∀ j u, vs[j]? = some u → w.cell? ((⟨vb, 0, none⟩ : Addr).add j) = some u := fun j u hj => by
  have hl : j < vs.length := (List.getElem?_eq_some_iff.1 hj).1
  rw [Addr.add_lit, Nat.zero_add]
  simp [World.cell?, hvk, hj]
 obtain ⟨a, c, hv⟩ := formR hrow
 subst hv
 have HR := hid hrow
 have hcap : n ≤ c := by
  rcases hrow.2 with ⟨h1, h2⟩ | ⟨g, cap, cur, h1, _, _, h2, _⟩
  ·injection h1 with _ _ h3; omega
  ·injection h1 with _ _ h3; omega
 clear hrow hvk
 by_cases hcn : n = c
 ·subst hcn
  go_enter Tryz.func104, Tryz.ntmps104
  go_wp2_with (at_builtin; go_loud (refine wpList_append_own_at _ rfl (.tmp 23) (.tmp 24) 151 rfl B 121 i0 _ 2 16 Tryz.underlying151 hi0 hz0 hz1 hz2 rfl (by decide) (.slice a n n) n xs rfl HR.out ⟨vb, 0, none⟩ 1 1 vs rfl (by simpa using hvl) hsrc hv1 (by unfold maxLen; omega) (by omega) hB ?_; intro v' w' hown hgrow _ hblk; obtain ⟨na, nc, hvn⟩ := formR hown; subst hvn; have HF : Hid (InsP B 121 2 w (.slice a n n) n (xs ++ vs) (.returned (.slice na (n + 1) nc)) w') := ⟨na, nc, rfl, hown, hgrow, fun g hg => by rcases hblk with z | z; exact .inl (z ▸ hg); rw [z] at hg; injection hg with hg; exact .inr (by omega)⟩; clear hown hgrow hblk))
  all_goals first | (exfalso; go_light; omega) | skip
  go_ret
  exact HF.out
 ·have hcn2 : ¬ c = n := fun z => hcn z.symm
  go_enter Tryz.func104, Tryz.ntmps104
  go_wp2_with (at_builtin; go_loud (refine wpList_append_own_at _ rfl (.tmp 23) (.tmp 24) 151 rfl B 121 i0 _ 2 16 Tryz.underlying151 hi0 hz0 hz1 hz2 rfl (by decide) (.slice a n c) n xs rfl HR.out ⟨vb, 0, none⟩ 1 1 vs rfl (by simpa using hvl) hsrc hv1 (by unfold maxLen; omega) (by omega) hB ?_; intro v' w' hown hgrow _ hblk; obtain ⟨na, nc, hvn⟩ := formR hown; subst hvn; have HF : Hid (InsP B 121 2 w (.slice a n c) n (xs ++ vs) (.returned (.slice na (n + 1) nc)) w') := ⟨na, nc, rfl, hown, hgrow, fun g hg => by rcases hblk with z | z; exact .inl (z ▸ hg); rw [z] at hg; injection hg with hg; exact .inr (by omega)⟩; clear hown hgrow hblk))
  all_goals first | (exfalso; go_light; omega) | skip
  go_ret
  exact HF.out
theorem infoVss : (Tryz.prog.info? 155).map (fun i => (i.zero, i.size, i.bytes)) = some (some (.agg #[.slice none 0 0, .slice none 0 0]), 2, 48) := by kernel_rfl

set_option maxHeartbeats 8000000 in
theorem ins_vss_end (B n : Nat) (v : Value) (xs vs : List Value) (vb : Nat) (w : World) (hrow : w.ownsRow B 155 2 v n xs) (hn : n ≤ 1048576) (hvl : vs.length = 2) (hvk : w.heap[vb]? = some (.cells vs.toArray 155 (0, 0))) (hv1 : ∀ u ∈ vs, u.oneCell' = true) (hB : B ≤ w.heap.size) :
 Calls Tryz.prog 105 #[v, .int .i64 (n : Int), .slice (some ⟨vb, 0, none⟩) 1 1] w fun en w' => InsP B 155 2 w v n (xs ++ vs) en w' := by
 obtain ⟨i0, hi0, hz0, hz1, hz2⟩ := info_parts infoVss
 have hsrc : ∀ j u, vs[j]? = some u → w.cell? ((⟨vb, 0, none⟩ : Addr).add j) = some u := fun j u hj => by
  have hl : j < vs.length := (List.getElem?_eq_some_iff.1 hj).1
  rw [Addr.add_lit, Nat.zero_add]
  simp [World.cell?, hvk, hj]
 obtain ⟨a, c, hv⟩ := formR hrow
 subst hv
 have HR := hid hrow
 have hcap : n ≤ c := by
  rcases hrow.2 with ⟨h1, h2⟩ | ⟨g, cap, cur, h1, _, _, h2, _⟩
  ·injection h1 with _ _ h3; omega
  ·injection h1 with _ _ h3; omega
 clear hrow hvk
 by_cases hcn : n = c
 ·subst hcn
  go_enter Tryz.func105, Tryz.ntmps105
  go_wp2_with (at_builtin; go_loud (refine wpList_append_own_at _ rfl (.tmp 23) (.tmp 24) 71 rfl B 155 i0 _ 2 48 Tryz.underlying71 hi0 hz0 hz1 hz2 rfl (by decide) (.slice a n n) n xs rfl HR.out ⟨vb, 0, none⟩ 1 1 vs rfl (by simpa using hvl) hsrc hv1 (by unfold maxLen; omega) (by omega) hB ?_; intro v' w' hown hgrow _ hblk; obtain ⟨na, nc, hvn⟩ := formR hown; subst hvn; have HF : Hid (InsP B 155 2 w (.slice a n n) n (xs ++ vs) (.returned (.slice na (n + 1) nc)) w') := ⟨na, nc, rfl, hown, hgrow, fun g hg => by rcases hblk with z | z; exact .inl (z ▸ hg); rw [z] at hg; injection hg with hg; exact .inr (by omega)⟩; clear hown hgrow hblk))
  all_goals first | (exfalso; go_light; omega) | skip
  go_ret
  exact HF.out
 ·have hcn2 : ¬ c = n := fun z => hcn z.symm
  go_enter Tryz.func105, Tryz.ntmps105
  go_wp2_with (at_builtin; go_loud (refine wpList_append_own_at _ rfl (.tmp 23) (.tmp 24) 71 rfl B 155 i0 _ 2 48 Tryz.underlying71 hi0 hz0 hz1 hz2 rfl (by decide) (.slice a n c) n xs rfl HR.out ⟨vb, 0, none⟩ 1 1 vs rfl (by simpa using hvl) hsrc hv1 (by unfold maxLen; omega) (by omega) hB ?_; intro v' w' hown hgrow _ hblk; obtain ⟨na, nc, hvn⟩ := formR hown; subst hvn; have HF : Hid (InsP B 155 2 w (.slice a n c) n (xs ++ vs) (.returned (.slice na (n + 1) nc)) w') := ⟨na, nc, rfl, hown, hgrow, fun g hg => by rcases hblk with z | z; exact .inl (z ▸ hg); rw [z] at hg; injection hg with hg; exact .inr (by omega)⟩; clear hown hgrow hblk))
  all_goals first | (exfalso; go_light; omega) | skip
  go_ret
  exact HF.out
set_option maxHeartbeats 8000000 in
theorem ins_int_shift (B n i : Nat) (v : Value) (xs vs : List Value) (vb g c : Nat) (w : World) (hv : v = .slice (some ⟨g, 0, none⟩) n c) (hi : i < n) (hroom : n + 1 ≤ c) (hrow : w.ownsRow B 3 1 v n xs) (hn : n ≤ 1048576) (hvl : vs.length = 1) (hvk : w.heap[vb]? = some (.cells vs.toArray 3 (0, 0))) (hv1 : ∀ u ∈ vs, u.oneCell' = true) (hx1 : ∀ u ∈ xs, u.oneCell' = true) (hvb : vb ≠ g) :
 Calls Tryz.prog 85 #[v, .int .i64 (i : Int), .slice (some ⟨vb, 0, none⟩) 1 1] w fun en w' => InsP B 3 1 w v n (xs.take (i * 1) ++ vs ++ xs.drop (i * 1)) en w' := by
 subst hv
 obtain ⟨i0, hi0, hz0, hz1, hz2⟩ := info_parts infoInt
 have hxl := hrow.1
 obtain ⟨cur, hgB, hgk, hcm, hcs, hct⟩ : ∃ cur : Array Value, B ≤ g ∧ w.heap[g]? = some (.cells cur 3 (0, 0)) ∧ c ≤ maxLen ∧ cur.size = c * 1 ∧ cur.toList.take (n * 1) = xs := by
  rcases hrow.2 with ⟨h1, h2⟩ | ⟨g', cap, cur, h1, h2, h3, h4, h5, h6, h7⟩
  ·cases h1
  ·injection h1 with h1 _ hc
   injection h1 with h1
   injection h1 with h1 _ _
   subst h1 hc
   exact ⟨cur, h2, h3, h5, h6, h7⟩
 have hsz : (Tryz.prog.info? 3).map (·.size) = some 1 := by rw [hi0]; simp [hz1]
 have hsv : ∀ j u, vs[j]? = some u → w.cell? ((⟨vb, 0, none⟩ : Addr).add j) = some u := fun j u hj => by
  rw [Addr.add_lit, Nat.zero_add]
  simp [World.cell?, hvk, hj]
 have hic : (n + 1) * 1 ≤ cur.toList.length := by rw [Array.length_toList, hcs]; exact Nat.mul_le_mul_right _ hroom
 have hdl : (xs.drop (i * 1)).length = (n - i) * 1 := by rw [List.length_drop, hxl, Nat.sub_mul]
 have hsx : ∀ (W : World), W.heap[g]? = some (.cells cur 3 (0, 0)) → ∀ j u, (xs.drop (i * 1))[j]? = some u → W.cell? ((⟨g, i * 1, none⟩ : Addr).add j) = some u := fun W hW j u hj => by
  rw [Addr.add_lit]
  rw [List.getElem?_drop, ← hct, List.getElem?_take] at hj
  split at hj
  ·simp only [World.cell?, hW]
   rw [← Array.getElem?_toList]
   exact hj
  ·cases hj
 have hfit : (i + 1) * 1 + (xs.drop (i * 1)).length ≤ cur.size := by
  rw [hdl, ← Nat.add_mul, hcs]
  exact Nat.mul_le_mul_right _ (by omega)
 obtain ⟨cur1, hcur1⟩ : ∃ z : List Value, z = cur.toList.take ((i + 1) * 1) ++ xs.drop (i * 1) ++ cur.toList.drop ((i + 1) * 1 + (xs.drop (i * 1)).length) := ⟨_, rfl⟩
 have hil := ins_list (K := 1) (vs := vs) hi hvl hxl hct hic hcur1
 obtain ⟨cur2, hcur2⟩ : ∃ z : Array Value, z = (cur1.take (i * 1) ++ vs ++ cur1.drop (i * 1 + vs.length)).toArray := ⟨_, rfl⟩
 have hwd : w.drew.heap[g]? = some (.cells cur 3 (0, 0)) := hgk
 have hcp1 : ∀ ty dc sc, (Builtin.copy_ #[32, 32] ty #[.slice (some ⟨g, i + 1, none⟩) (n - i) dc, .slice (some ⟨g, i, none⟩) (n + 1 - i) sc]).run Tryz.prog w.drew = .ok (goInt (Nat.min (n + 1 - i) (n - i))) (w.drew.setRow g cur1.toArray) := fun ty dc sc => by
  have := run_copy_rowK (P := Tryz.prog) w.drew 32 32 ty 3 1 g ((i + 1) * 1) (n - i) dc ⟨g, i * 1, none⟩ (n + 1 - i) sc cur 3 (xs.drop (i * 1)) Tryz.underlying32 hsz hwd (by rw [hdl]; congr 1; simp only [Nat.min_def]; split <;> omega) (hsx _ hwd) hfit (fun u hu => hx1 u (List.mem_of_mem_drop hu))
  rw [← hcur1] at this
  simpa only [Nat.mul_one] using this
 have hg1 : (w.drew.setRow g cur1.toArray).heap[g]? = some (.cells cur1.toArray 3 (0, 0)) := setRow_heap _ _ _ _ _ _ hwd
 have hfit2 : i * 1 + vs.length ≤ cur1.toArray.size := by
  rw [List.size_toArray, hil.2.2, hvl, Array.length_toList, hcs]
  have h1 : i * 1 + 1 = (i + 1) * 1 := by rw [Nat.add_mul, Nat.one_mul]
  rw [h1]
  exact Nat.mul_le_mul_right _ (by omega)
 have hcp2 : ∀ ty dc, (Builtin.copy_ #[32, 32] ty #[.slice (some ⟨g, i, none⟩) (n + 1 - i) dc, .slice (some ⟨vb, 0, none⟩) 1 1]).run Tryz.prog (w.drew.setRow g cur1.toArray) = .ok (goInt (Nat.min 1 (n + 1 - i))) (w.drew.setRow g cur2) := fun ty dc => by
  have := run_copy_rowK (P := Tryz.prog) (w.drew.setRow g cur1.toArray) 32 32 ty 3 1 g (i * 1) (n + 1 - i) dc ⟨vb, 0, none⟩ 1 1 cur1.toArray 3 vs Tryz.underlying32 hsz hg1 (by rw [hvl, show Nat.min 1 (n + 1 - i) = 1 from Nat.min_eq_left (by omega)]) (fun j u hj => by
   have h3 := hsv j u hj
   rw [Addr.add_lit] at h3 ⊢
   rw [World.cell?_of_block (setRow_other _ _ _ _ hvb)]
   exact h3) hfit2 hv1
  rw [setRow_setRow, ← hcur2] at this
  simpa only [Nat.mul_one] using this
 have hov : ∀ lb cb, (callFunc 98 #[.slice (some ⟨vb, 0, none⟩) 1 1, .slice (some ⟨g, i + 1, none⟩) lb cb]).run Tryz.prog w = .ok (.value (.bool false)) w := fun lb cb => by
  rw [run_callFunc_extern Tryz.func98 (by kernel_rfl) (by kernel_rfl) (by kernel_rfl) (e := Extern.SlicesOverlaps.overlaps #[32, 32] #[4]) (by kernel_rfl),
   Lib.run_overlaps_apart w 32 4 3 Tryz.underlying32 1 (fun w => by simp [sizeOf, typeInfo, hi0, hz1]) ⟨vb, 0, none⟩ ⟨g, i + 1, none⟩ 1 1 lb cb hvb 3 3 1 (c * 1) (by simp [World.shape?, hvk, hvl]) (by simp [World.shape?, hgk, hcs]) (by omega) (by simp [World.frozen?, hvk]) (by simp [World.frozen?, hvk])]
  rfl
 have HF : Hid (InsP B 3 1 w (.slice (some ⟨g, 0, none⟩) n c) n (xs.take (i * 1) ++ vs ++ xs.drop (i * 1)) (.returned (.slice (some ⟨g, 0, none⟩) (n + 1) c)) (w.drew.setRow g cur2)) := hid (by
  refine ⟨_, _, rfl, ⟨?_, .inr ⟨g, c, _, rfl, hgB, setRow_heap _ _ _ _ _ _ hwd, hroom, hcm, ?_, ?_⟩⟩, ?_, fun q hq => .inl hq⟩
  ·rw [← hil.1, List.length_take, hil.2.1]; omega
  ·rw [hcur2, List.size_toArray, hil.2.1, Array.length_toList, hcs]
  ·rw [hcur2]; exact hil.1
  ·have := grown_setRow w.drew g cur2
   exact ⟨this.os, this.tape, this.output, this.size, this.block⟩)
 have hw1 : IntKind.i64.wrap ((i : Int) + 1) = (i : Int) + 1 := by rw [IntKind.wrap_i64]; omega
 have hz2 : ¬ ((i : Int) = (n : Int)) := by omega
 have hb1 : (0 : Int) ≤ (i : Int) + 1 := by omega
 have htn : ((i : Int) + 1).toNat = i + 1 := by omega
 have hb2 : ¬ (c = i + 1) := by omega
 have hb3 : (i : Int) ≤ (n : Int) + 1 := by omega
 have hb4 : ¬ (c = i) := by omega
 have hin : i ≤ n := by omega
 have hroomI : ¬ ((c : Int) < (n : Int) + 1) := by omega
 clear hil hcur1 hcur2 hct hcs hic hfit hfit2 hgk hwd hg1 hsx hsv hvk hxl hrow hdl hi0 hz0 hz1
 go_enter Tryz.func85, Tryz.ntmps85
 go_wp2_with (simp only [hov])
 go_region
 go_wp2_with (at_builtin; refine wpList_copy_run _ rfl _ _ 32 32 rfl _ _ rfl rfl (hcp2 _ _) ?_)
 go_ret
 exact HF.out
set_option maxHeartbeats 8000000 in
theorem ins_vss_shift (B n i : Nat) (v : Value) (xs vs : List Value) (vb g c : Nat) (w : World) (hv : v = .slice (some ⟨g, 0, none⟩) n c) (hi : i < n) (hroom : n + 1 ≤ c) (hrow : w.ownsRow B 155 2 v n xs) (hn : n ≤ 1048576) (hvl : vs.length = 2) (hvk : w.heap[vb]? = some (.cells vs.toArray 155 (0, 0))) (hv1 : ∀ u ∈ vs, u.oneCell' = true) (hx1 : ∀ u ∈ xs, u.oneCell' = true) (hvb : vb ≠ g) :
 Calls Tryz.prog 105 #[v, .int .i64 (i : Int), .slice (some ⟨vb, 0, none⟩) 1 1] w fun en w' => InsP B 155 2 w v n (xs.take (i * 2) ++ vs ++ xs.drop (i * 2)) en w' := by
 subst hv
 obtain ⟨i0, hi0, hz0, hz1, hz2⟩ := info_parts infoVss
 have hxl := hrow.1
 obtain ⟨cur, hgB, hgk, hcm, hcs, hct⟩ : ∃ cur : Array Value, B ≤ g ∧ w.heap[g]? = some (.cells cur 155 (0, 0)) ∧ c ≤ maxLen ∧ cur.size = c * 2 ∧ cur.toList.take (n * 2) = xs := by
  rcases hrow.2 with ⟨h1, h2⟩ | ⟨g', cap, cur, h1, h2, h3, h4, h5, h6, h7⟩
  ·cases h1
  ·injection h1 with h1 _ hc
   injection h1 with h1
   injection h1 with h1 _ _
   subst h1 hc
   exact ⟨cur, h2, h3, h5, h6, h7⟩
 have hsz : (Tryz.prog.info? 155).map (·.size) = some 2 := by rw [hi0]; simp [hz1]
 have hsv : ∀ j u, vs[j]? = some u → w.cell? ((⟨vb, 0, none⟩ : Addr).add j) = some u := fun j u hj => by
  rw [Addr.add_lit, Nat.zero_add]
  simp [World.cell?, hvk, hj]
 have hic : (n + 1) * 2 ≤ cur.toList.length := by rw [Array.length_toList, hcs]; exact Nat.mul_le_mul_right _ hroom
 have hdl : (xs.drop (i * 2)).length = (n - i) * 2 := by rw [List.length_drop, hxl, Nat.sub_mul]
 have hsx : ∀ (W : World), W.heap[g]? = some (.cells cur 155 (0, 0)) → ∀ j u, (xs.drop (i * 2))[j]? = some u → W.cell? ((⟨g, i * 2, none⟩ : Addr).add j) = some u := fun W hW j u hj => by
  rw [Addr.add_lit]
  rw [List.getElem?_drop, ← hct, List.getElem?_take] at hj
  split at hj
  ·simp only [World.cell?, hW]
   rw [← Array.getElem?_toList]
   exact hj
  ·cases hj
 have hfit : (i + 1) * 2 + (xs.drop (i * 2)).length ≤ cur.size := by
  rw [hdl, ← Nat.add_mul, hcs]
  exact Nat.mul_le_mul_right _ (by omega)
 obtain ⟨cur1, hcur1⟩ : ∃ z : List Value, z = cur.toList.take ((i + 1) * 2) ++ xs.drop (i * 2) ++ cur.toList.drop ((i + 1) * 2 + (xs.drop (i * 2)).length) := ⟨_, rfl⟩
 have hil := ins_list (K := 2) (vs := vs) hi hvl hxl hct hic hcur1
 obtain ⟨cur2, hcur2⟩ : ∃ z : Array Value, z = (cur1.take (i * 2) ++ vs ++ cur1.drop (i * 2 + vs.length)).toArray := ⟨_, rfl⟩
 have hwd : w.drew.heap[g]? = some (.cells cur 155 (0, 0)) := hgk
 have hcp1 : ∀ ty dc sc, (Builtin.copy_ #[71, 71] ty #[.slice (some ⟨g, (i + 1) * 2, none⟩) (n - i) dc, .slice (some ⟨g, i * 2, none⟩) (n + 1 - i) sc]).run Tryz.prog w.drew = .ok (goInt (Nat.min (n + 1 - i) (n - i))) (w.drew.setRow g cur1.toArray) := fun ty dc sc => by
  have := run_copy_rowK (P := Tryz.prog) w.drew 71 71 ty 155 2 g ((i + 1) * 2) (n - i) dc ⟨g, i * 2, none⟩ (n + 1 - i) sc cur 155 (xs.drop (i * 2)) Tryz.underlying71 hsz hwd (by rw [hdl]; congr 1; simp only [Nat.min_def]; split <;> omega) (hsx _ hwd) hfit (fun u hu => hx1 u (List.mem_of_mem_drop hu))
  rw [← hcur1] at this
  simpa only [Nat.mul_one] using this
 have hg1 : (w.drew.setRow g cur1.toArray).heap[g]? = some (.cells cur1.toArray 155 (0, 0)) := setRow_heap _ _ _ _ _ _ hwd
 have hfit2 : i * 2 + vs.length ≤ cur1.toArray.size := by
  rw [List.size_toArray, hil.2.2, hvl, Array.length_toList, hcs]
  have h1 : i * 2 + 2 = (i + 1) * 2 := by rw [Nat.add_mul, Nat.one_mul]
  rw [h1]
  exact Nat.mul_le_mul_right _ (by omega)
 have hcp2 : ∀ ty dc, (Builtin.copy_ #[71, 71] ty #[.slice (some ⟨g, i * 2, none⟩) (n + 1 - i) dc, .slice (some ⟨vb, 0, none⟩) 1 1]).run Tryz.prog (w.drew.setRow g cur1.toArray) = .ok (goInt (Nat.min 1 (n + 1 - i))) (w.drew.setRow g cur2) := fun ty dc => by
  have := run_copy_rowK (P := Tryz.prog) (w.drew.setRow g cur1.toArray) 71 71 ty 155 2 g (i * 2) (n + 1 - i) dc ⟨vb, 0, none⟩ 1 1 cur1.toArray 155 vs Tryz.underlying71 hsz hg1 (by rw [hvl, show Nat.min 1 (n + 1 - i) = 1 from Nat.min_eq_left (by omega)]) (fun j u hj => by
   have h3 := hsv j u hj
   rw [Addr.add_lit] at h3 ⊢
   rw [World.cell?_of_block (setRow_other _ _ _ _ hvb)]
   exact h3) hfit2 hv1
  rw [setRow_setRow, ← hcur2] at this
  simpa only [Nat.mul_one] using this
 have hov : ∀ lb cb, (callFunc 115 #[.slice (some ⟨vb, 0, none⟩) 1 1, .slice (some ⟨g, (i + 1) * 2, none⟩) lb cb]).run Tryz.prog w = .ok (.value (.bool false)) w := fun lb cb => by
  rw [run_callFunc_extern Tryz.func115 (by kernel_rfl) (by kernel_rfl) (by kernel_rfl) (e := Extern.SlicesOverlaps.overlaps #[71, 71] #[4]) (by kernel_rfl),
   Lib.run_overlaps_apart w 71 4 155 Tryz.underlying71 2 (fun w => by simp [sizeOf, typeInfo, hi0, hz1]) ⟨vb, 0, none⟩ ⟨g, (i + 1) * 2, none⟩ 1 1 lb cb hvb 155 155 2 (c * 2) (by simp [World.shape?, hvk, hvl]) (by simp [World.shape?, hgk, hcs]) (by omega) (by simp [World.frozen?, hvk]) (by simp [World.frozen?, hvk])]
  rfl
 have HF : Hid (InsP B 155 2 w (.slice (some ⟨g, 0, none⟩) n c) n (xs.take (i * 2) ++ vs ++ xs.drop (i * 2)) (.returned (.slice (some ⟨g, 0, none⟩) (n + 1) c)) (w.drew.setRow g cur2)) := hid (by
  refine ⟨_, _, rfl, ⟨?_, .inr ⟨g, c, _, rfl, hgB, setRow_heap _ _ _ _ _ _ hwd, hroom, hcm, ?_, ?_⟩⟩, ?_, fun q hq => .inl hq⟩
  ·rw [← hil.1, List.length_take, hil.2.1]; omega
  ·rw [hcur2, List.size_toArray, hil.2.1, Array.length_toList, hcs]
  ·rw [hcur2]; exact hil.1
  ·have := grown_setRow w.drew g cur2
   exact ⟨this.os, this.tape, this.output, this.size, this.block⟩)
 have hw1 : IntKind.i64.wrap ((i : Int) + 1) = (i : Int) + 1 := by rw [IntKind.wrap_i64]; omega
 have hz2 : ¬ ((i : Int) = (n : Int)) := by omega
 have hb1 : (0 : Int) ≤ (i : Int) + 1 := by omega
 have htn : ((i : Int) + 1).toNat = i + 1 := by omega
 have hb2 : ¬ (c = i + 1) := by omega
 have hb3 : (i : Int) ≤ (n : Int) + 1 := by omega
 have hb4 : ¬ (c = i) := by omega
 have hin : i ≤ n := by omega
 have hroomI : ¬ ((c : Int) < (n : Int) + 1) := by omega
 clear hil hcur1 hcur2 hct hcs hic hfit hfit2 hgk hwd hg1 hsx hsv hvk hxl hrow hdl hi0 hz0 hz1
 go_enter Tryz.func105, Tryz.ntmps105
 go_wp2_with (simp only [hov])
 go_region
 go_wp2_with (at_builtin; refine wpList_copy_run _ rfl _ _ 71 71 rfl _ _ rfl rfl (hcp2 _ _) ?_)
 go_ret
 exact HF.out
end Go.Proofs.YtblkgicbimflhaaGreat
