import Derived.Test.YtblkgicbimflhaaGreatQAJ
import Derived.Deep.RegionLawGrows
import Derived.Ground.Names2Prog
import Derived.Shelf.Slices.SearchI
import Derived.Shelf.Slices.Delete
import Derived.Shelf.Slices.Cells
import Derived.Shelf.Slices.Empties
import Derived.Test.YtblkgicbimflhaaGreatProg
namespace Go.Proofs.YtblkgicbimflhaaGreat
open Go.ChangeShapes Go.WideShapes Go.ChangeAt Go.RowKit
set_option linter.unusedVariables false
set_option linter.unusedSimpArgs false
set_option maxRecDepth 100000
set_option maxHeartbeats 16000000
theorem wpList_copy_run {P : Program} (w : World) {ops : Array Oper} {rest : List Oper} {o : Oper} {a : Act} {Q : Exit -> Act -> World -> Prop} (hgd : o.guard = none) (d s : Operand) (t t' : TypeId)
 (ho : o.op = .call { callee := .builtin .copy, args := #[d, s], argTypes := #[t, t'] }) (v u : Value) (hd : a.eval d = v) (hs : a.eval s = u) {v' : Value} {w' : World}
 (hr : (Builtin.copy_ #[t, t'] o.type #[v, u]).run P w = .ok v' w') (h : wpList P ops Q rest (a.put o.dst v') w') : wpList P ops Q (o :: rest) a w :=
 wpList_plain hgd fun _ hK => by
  unfold Oper.wp execOp
  simp only [ho, resolve, invoke, builtin, Sem.run_bind, Sem.run_pure, Result.andThen_ok, List.map_toArray, List.map_cons, List.map_nil, hd, hs, hr]
  exact hK _ _ h
theorem ins_int_end (B n : Nat) (v : Value) (xs vs : List Value) (vb : Nat) (w : World) (hrow : w.ownsRow B 3 1 v n xs) (hn : n <= 1048576) (hvl : vs.length = 1) (hvk : w.heap[vb]? = some (.cells vs.toArray 3 (0, 0))) (hv1 : ∀ u ∈ vs, u.oneCell' = true) (hB : B <= w.heap.size) :
 Calls Tryz.prog 85 #[v, .int .i64 (n : Int), .slice (some ⟨vb, 0, none⟩) 1 1] w fun en w' => InsP B 3 1 w v n (xs ++ vs) en w' := by
 obtain ⟨i0, hi0, hz0, hz1, hz2⟩ := info_parts infoInt
 have hsrc : ∀ j u, vs[j]? = some u -> w.cell? ((⟨vb, 0, none⟩ : Addr).add j) = some u := fun j u hj => by
  have hl : j < vs.length := (List.getElem?_eq_some_iff.1 hj).1
  rw [Addr.add_lit, Nat.zero_add]
  simp [World.cell?, hvk, hj]
 obtain ⟨a, c, hv⟩ := formR hrow
 subst hv
 have HR := hid hrow
 have hcap : n <= c := by
  rcases hrow.2 with ⟨h1, h2⟩ | ⟨g, cap, cur, h1, _, _, h2, _⟩
  .injection h1 with _ _ h3; omega
  .injection h1 with _ _ h3; omega
 clear hrow hvk
 by_cases hcn : n = c
 .subst hcn
  go_enter Tryz.func85, Tryz.ntmps85
  go_wp2_with (at_builtin; go_loud (refine wpList_append_own_at _ rfl (.tmp 23) (.tmp 24) 32 rfl B 3 i0 _ 1 8 Tryz.underlying32 hi0 hz0 hz1 hz2 rfl (by decide) (.slice a n n) n xs rfl HR.out ⟨vb, 0, none⟩ 1 1 vs rfl (by simpa using hvl) hsrc hv1 (by unfold maxLen; omega) (by omega) hB ?_; intro v' w' hown hgrow _ hblk; obtain ⟨na, nc, hvn⟩ := formR hown; subst hvn; have HF : Hid (InsP B 3 1 w (.slice a n n) n (xs ++ vs) (.returned (.slice na (n + 1) nc)) w') := ⟨na, nc, rfl, hown, hgrow, fun g hg => by rcases hblk with z | z; exact .inl (z ▸ hg); rw [z] at hg; injection hg with hg; exact .inr (by omega)⟩; clear hown hgrow hblk))
  all_goals first | (exfalso; go_light; omega) | skip
  go_ret
  exact HF.out
 .have hcn2 : ¬ c = n := fun z => hcn z.symm
  go_enter Tryz.func85, Tryz.ntmps85
  go_wp2_with (at_builtin; go_loud (refine wpList_append_own_at _ rfl (.tmp 23) (.tmp 24) 32 rfl B 3 i0 _ 1 8 Tryz.underlying32 hi0 hz0 hz1 hz2 rfl (by decide) (.slice a n c) n xs rfl HR.out ⟨vb, 0, none⟩ 1 1 vs rfl (by simpa using hvl) hsrc hv1 (by unfold maxLen; omega) (by omega) hB ?_; intro v' w' hown hgrow _ hblk; obtain ⟨na, nc, hvn⟩ := formR hown; subst hvn; have HF : Hid (InsP B 3 1 w (.slice a n c) n (xs ++ vs) (.returned (.slice na (n + 1) nc)) w') := ⟨na, nc, rfl, hown, hgrow, fun g hg => by rcases hblk with z | z; exact .inl (z ▸ hg); rw [z] at hg; injection hg with hg; exact .inr (by omega)⟩; clear hown hgrow hblk))
  all_goals first | (exfalso; go_light; omega) | skip
  go_ret
  exact HF.out
theorem infoVer : (Tryz.prog.info? 121).map (fun i => (i.zero, i.size, i.bytes)) = some (some (.agg #[.int .i64 0, .bool false]), 2, 16) := by kernel_rfl

theorem ins_ver_end (B n : Nat) (v : Value) (xs vs : List Value) (vb : Nat) (w : World) (hrow : w.ownsRow B 121 2 v n xs) (hn : n <= 1048576) (hvl : vs.length = 2) (hvk : w.heap[vb]? = some (.cells vs.toArray 121 (0, 0))) (hv1 : ∀ u ∈ vs, u.oneCell' = true) (hB : B <= w.heap.size) :
 Calls Tryz.prog 104 #[v, .int .i64 (n : Int), .slice (some ⟨vb, 0, none⟩) 1 1] w fun en w' => InsP B 121 2 w v n (xs ++ vs) en w' := by
 obtain ⟨i0, hi0, hz0, hz1, hz2⟩ := info_parts infoVer
 have hsrc : ∀ j u, vs[j]? = some u -> w.cell? ((⟨vb, 0, none⟩ : Addr).add j) = some u := fun j u hj => by
  have hl : j < vs.length := (List.getElem?_eq_some_iff.1 hj).1
  rw [Addr.add_lit, Nat.zero_add]
  simp [World.cell?, hvk, hj]
 obtain ⟨a, c, hv⟩ := formR hrow
 subst hv
 have HR := hid hrow
 have hcap : n <= c := by
  rcases hrow.2 with ⟨h1, h2⟩ | ⟨g, cap, cur, h1, _, _, h2, _⟩
  .injection h1 with _ _ h3; omega
  .injection h1 with _ _ h3; omega
 clear hrow hvk
 by_cases hcn : n = c
 .subst hcn
  go_enter Tryz.func104, Tryz.ntmps104
  go_wp2_with (at_builtin; go_loud (refine wpList_append_own_at _ rfl (.tmp 23) (.tmp 24) 151 rfl B 121 i0 _ 2 16 Tryz.underlying151 hi0 hz0 hz1 hz2 rfl (by decide) (.slice a n n) n xs rfl HR.out ⟨vb, 0, none⟩ 1 1 vs rfl (by simpa using hvl) hsrc hv1 (by unfold maxLen; omega) (by omega) hB ?_; intro v' w' hown hgrow _ hblk; obtain ⟨na, nc, hvn⟩ := formR hown; subst hvn; have HF : Hid (InsP B 121 2 w (.slice a n n) n (xs ++ vs) (.returned (.slice na (n + 1) nc)) w') := ⟨na, nc, rfl, hown, hgrow, fun g hg => by rcases hblk with z | z; exact .inl (z ▸ hg); rw [z] at hg; injection hg with hg; exact .inr (by omega)⟩; clear hown hgrow hblk))
  all_goals first | (exfalso; go_light; omega) | skip
  go_ret
  exact HF.out
 .have hcn2 : ¬ c = n := fun z => hcn z.symm
  go_enter Tryz.func104, Tryz.ntmps104
  go_wp2_with (at_builtin; go_loud (refine wpList_append_own_at _ rfl (.tmp 23) (.tmp 24) 151 rfl B 121 i0 _ 2 16 Tryz.underlying151 hi0 hz0 hz1 hz2 rfl (by decide) (.slice a n c) n xs rfl HR.out ⟨vb, 0, none⟩ 1 1 vs rfl (by simpa using hvl) hsrc hv1 (by unfold maxLen; omega) (by omega) hB ?_; intro v' w' hown hgrow _ hblk; obtain ⟨na, nc, hvn⟩ := formR hown; subst hvn; have HF : Hid (InsP B 121 2 w (.slice a n c) n (xs ++ vs) (.returned (.slice na (n + 1) nc)) w') := ⟨na, nc, rfl, hown, hgrow, fun g hg => by rcases hblk with z | z; exact .inl (z ▸ hg); rw [z] at hg; injection hg with hg; exact .inr (by omega)⟩; clear hown hgrow hblk))
  all_goals first | (exfalso; go_light; omega) | skip
  go_ret
  exact HF.out
theorem infoVss : (Tryz.prog.info? 155).map (fun i => (i.zero, i.size, i.bytes)) = some (some (.agg #[.slice none 0 0, .slice none 0 0]), 2, 48) := by kernel_rfl

theorem ins_vss_end (B n : Nat) (v : Value) (xs vs : List Value) (vb : Nat) (w : World) (hrow : w.ownsRow B 155 2 v n xs) (hn : n <= 1048576) (hvl : vs.length = 2) (hvk : w.heap[vb]? = some (.cells vs.toArray 155 (0, 0))) (hv1 : ∀ u ∈ vs, u.oneCell' = true) (hB : B <= w.heap.size) :
 Calls Tryz.prog 105 #[v, .int .i64 (n : Int), .slice (some ⟨vb, 0, none⟩) 1 1] w fun en w' => InsP B 155 2 w v n (xs ++ vs) en w' := by
 obtain ⟨i0, hi0, hz0, hz1, hz2⟩ := info_parts infoVss
 have hsrc : ∀ j u, vs[j]? = some u -> w.cell? ((⟨vb, 0, none⟩ : Addr).add j) = some u := fun j u hj => by
  have hl : j < vs.length := (List.getElem?_eq_some_iff.1 hj).1
  rw [Addr.add_lit, Nat.zero_add]
  simp [World.cell?, hvk, hj]
 obtain ⟨a, c, hv⟩ := formR hrow
 subst hv
 have HR := hid hrow
 have hcap : n <= c := by
  rcases hrow.2 with ⟨h1, h2⟩ | ⟨g, cap, cur, h1, _, _, h2, _⟩
  .injection h1 with _ _ h3; omega
  .injection h1 with _ _ h3; omega
 clear hrow hvk
 by_cases hcn : n = c
 .subst hcn
  go_enter Tryz.func105, Tryz.ntmps105
  go_wp2_with (at_builtin; go_loud (refine wpList_append_own_at _ rfl (.tmp 23) (.tmp 24) 71 rfl B 155 i0 _ 2 48 Tryz.underlying71 hi0 hz0 hz1 hz2 rfl (by decide) (.slice a n n) n xs rfl HR.out ⟨vb, 0, none⟩ 1 1 vs rfl (by simpa using hvl) hsrc hv1 (by unfold maxLen; omega) (by omega) hB ?_; intro v' w' hown hgrow _ hblk; obtain ⟨na, nc, hvn⟩ := formR hown; subst hvn; have HF : Hid (InsP B 155 2 w (.slice a n n) n (xs ++ vs) (.returned (.slice na (n + 1) nc)) w') := ⟨na, nc, rfl, hown, hgrow, fun g hg => by rcases hblk with z | z; exact .inl (z ▸ hg); rw [z] at hg; injection hg with hg; exact .inr (by omega)⟩; clear hown hgrow hblk))
  all_goals first | (exfalso; go_light; omega) | skip
  go_ret
  exact HF.out
 .have hcn2 : ¬ c = n := fun z => hcn z.symm
  go_enter Tryz.func105, Tryz.ntmps105
  go_wp2_with (at_builtin; go_loud (refine wpList_append_own_at _ rfl (.tmp 23) (.tmp 24) 71 rfl B 155 i0 _ 2 48 Tryz.underlying71 hi0 hz0 hz1 hz2 rfl (by decide) (.slice a n c) n xs rfl HR.out ⟨vb, 0, none⟩ 1 1 vs rfl (by simpa using hvl) hsrc hv1 (by unfold maxLen; omega) (by omega) hB ?_; intro v' w' hown hgrow _ hblk; obtain ⟨na, nc, hvn⟩ := formR hown; subst hvn; have HF : Hid (InsP B 155 2 w (.slice a n c) n (xs ++ vs) (.returned (.slice na (n + 1) nc)) w') := ⟨na, nc, rfl, hown, hgrow, fun g hg => by rcases hblk with z | z; exact .inl (z ▸ hg); rw [z] at hg; injection hg with hg; exact .inr (by omega)⟩; clear hown hgrow hblk))
  all_goals first | (exfalso; go_light; omega) | skip
  go_ret
  exact HF.out
theorem ins_int_shift (B n i : Nat) (v : Value) (xs vs : List Value) (vb g c : Nat) (w : World) (hv : v = .slice (some ⟨g, 0, none⟩) n c) (hi : i < n) (hroom : n + 1 <= c) (hrow : w.ownsRow B 3 1 v n xs) (hn : n <= 1048576) (hvl : vs.length = 1) (hvk : w.heap[vb]? = some (.cells vs.toArray 3 (0, 0))) (hv1 : ∀ u ∈ vs, u.oneCell' = true) (hx1 : ∀ u ∈ xs, u.oneCell' = true) (hvb : vb ≠ g) :
 Calls Tryz.prog 85 #[v, .int .i64 (i : Int), .slice (some ⟨vb, 0, none⟩) 1 1] w fun en w' => InsP B 3 1 w v n (xs.take (i * 1) ++ vs ++ xs.drop (i * 1)) en w' := by
 subst hv
 obtain ⟨i0, hi0, hz0, hz1, hz2⟩ := info_parts infoInt
 have hxl := hrow.1
 obtain ⟨cur, hgB, hgk, hcm, hcs, hct⟩ : ∃ cur : Array Value, B <= g /\ w.heap[g]? = some (.cells cur 3 (0, 0)) /\ c <= maxLen /\ cur.size = c * 1 /\ cur.toList.take (n * 1) = xs := by
  rcases hrow.2 with ⟨h1, h2⟩ | ⟨g', cap, cur, h1, h2, h3, h4, h5, h6, h7⟩
  .cases h1
  .injection h1 with h1 _ hc
   injection h1 with h1
   injection h1 with h1 _ _
   subst h1 hc
   exact ⟨cur, h2, h3, h5, h6, h7⟩
 have hsz : (Tryz.prog.info? 3).map (·.size) = some 1 := by rw [hi0]; simp [hz1]
 have hsv : ∀ j u, vs[j]? = some u -> w.cell? ((⟨vb, 0, none⟩ : Addr).add j) = some u := fun j u hj => by
  rw [Addr.add_lit, Nat.zero_add]
  simp [World.cell?, hvk, hj]
 have hic : (n + 1) * 1 <= cur.toList.length := by rw [Array.length_toList, hcs]; exact Nat.mul_le_mul_right _ hroom
 have hdl : (xs.drop (i * 1)).length = (n - i) * 1 := by rw [List.length_drop, hxl, Nat.sub_mul]
 have hsx : ∀ (W : World), W.heap[g]? = some (.cells cur 3 (0, 0)) -> ∀ j u, (xs.drop (i * 1))[j]? = some u -> W.cell? ((⟨g, i * 1, none⟩ : Addr).add j) = some u := fun W hW j u hj => by
  rw [Addr.add_lit]
  rw [List.getElem?_drop, <- hct, List.getElem?_take] at hj
  split at hj
  .simp only [World.cell?, hW]
   rw [<- Array.getElem?_toList]
   exact hj
  .cases hj
 have hfit : (i + 1) * 1 + (xs.drop (i * 1)).length <= cur.size := by
  rw [hdl, <- Nat.add_mul, hcs]
  exact Nat.mul_le_mul_right _ (by omega)
 obtain ⟨cur1, hcur1⟩ : ∃ z : List Value, z = cur.toList.take ((i + 1) * 1) ++ xs.drop (i * 1) ++ cur.toList.drop ((i + 1) * 1 + (xs.drop (i * 1)).length) := ⟨_, rfl⟩
 have hil := ins_list (K := 1) (vs := vs) hi hvl hxl hct hic hcur1
 obtain ⟨cur2, hcur2⟩ : ∃ z : Array Value, z = (cur1.take (i * 1) ++ vs ++ cur1.drop (i * 1 + vs.length)).toArray := ⟨_, rfl⟩
 have hwd : w.drew.heap[g]? = some (.cells cur 3 (0, 0)) := hgk
 have hcp1 : ∀ ty dc sc, (Builtin.copy_ #[32, 32] ty #[.slice (some ⟨g, i + 1, none⟩) (n - i) dc, .slice (some ⟨g, i, none⟩) (n + 1 - i) sc]).run Tryz.prog w.drew = .ok (goInt (Nat.min (n + 1 - i) (n - i))) (w.drew.setRow g cur1.toArray) := fun ty dc sc => by
  have := run_copy_rowK (P := Tryz.prog) w.drew 32 32 ty 3 1 g ((i + 1) * 1) (n - i) dc ⟨g, i * 1, none⟩ (n + 1 - i) sc cur 3 (xs.drop (i * 1)) Tryz.underlying32 hsz hwd (by rw [hdl]; congr 1; simp only [Nat.min_def]; split <;> omega) (hsx _ hwd) hfit (fun u hu => hx1 u (List.mem_of_mem_drop hu))
  rw [<- hcur1] at this
  simpa only [Nat.mul_one] using this
 have hg1 : (w.drew.setRow g cur1.toArray).heap[g]? = some (.cells cur1.toArray 3 (0, 0)) := setRow_heap _ _ _ _ _ _ hwd
 have hfit2 : i * 1 + vs.length <= cur1.toArray.size := by
  rw [List.size_toArray, hil.2.2, hvl, Array.length_toList, hcs]
  have h1 : i * 1 + 1 = (i + 1) * 1 := by rw [Nat.add_mul, Nat.one_mul]
  rw [h1]
  exact Nat.mul_le_mul_right _ (by omega)
 have hcp2 : ∀ ty dc, (Builtin.copy_ #[32, 32] ty #[.slice (some ⟨g, i, none⟩) (n + 1 - i) dc, .slice (some ⟨vb, 0, none⟩) 1 1]).run Tryz.prog (w.drew.setRow g cur1.toArray) = .ok (goInt (Nat.min 1 (n + 1 - i))) (w.drew.setRow g cur2) := fun ty dc => by
  have := run_copy_rowK (P := Tryz.prog) (w.drew.setRow g cur1.toArray) 32 32 ty 3 1 g (i * 1) (n + 1 - i) dc ⟨vb, 0, none⟩ 1 1 cur1.toArray 3 vs Tryz.underlying32 hsz hg1 (by rw [hvl, show Nat.min 1 (n + 1 - i) = 1 from Nat.min_eq_left (by omega)]) (fun j u hj => by
   have h3 := hsv j u hj
   rw [Addr.add_lit] at h3 ⊢
   rw [World.cell?_of_block (setRow_other _ _ _ _ hvb)]
   exact h3) hfit2 hv1
  rw [setRow_setRow, <- hcur2] at this
  simpa only [Nat.mul_one] using this
 have hov : ∀ lb cb, (callFunc 98 #[.slice (some ⟨vb, 0, none⟩) 1 1, .slice (some ⟨g, i + 1, none⟩) lb cb]).run Tryz.prog w = .ok (.value (.bool false)) w := fun lb cb => by
  rw [run_callFunc_extern Tryz.func98 (by kernel_rfl) (by kernel_rfl) (by kernel_rfl) (e := Extern.SlicesOverlaps.overlaps #[32, 32] #[4]) (by kernel_rfl),
   Lib.run_overlaps_apart w 32 4 3 Tryz.underlying32 1 (fun w => by simp [sizeOf, typeInfo, hi0, hz1]) ⟨vb, 0, none⟩ ⟨g, i + 1, none⟩ 1 1 lb cb hvb 3 3 1 (c * 1) (by simp [World.shape?, hvk, hvl]) (by simp [World.shape?, hgk, hcs]) (by omega) (by simp [World.frozen?, hvk]) (by simp [World.frozen?, hvk])]
  rfl
 have HF : Hid (InsP B 3 1 w (.slice (some ⟨g, 0, none⟩) n c) n (xs.take (i * 1) ++ vs ++ xs.drop (i * 1)) (.returned (.slice (some ⟨g, 0, none⟩) (n + 1) c)) (w.drew.setRow g cur2)) := hid (by
  refine ⟨_, _, rfl, ⟨?_, .inr ⟨g, c, _, rfl, hgB, setRow_heap _ _ _ _ _ _ hwd, hroom, hcm, ?_, ?_⟩⟩, ?_, fun q hq => .inl hq⟩
  .rw [<- hil.1, List.length_take, hil.2.1]; omega
  .rw [hcur2, List.size_toArray, hil.2.1, Array.length_toList, hcs]
  .rw [hcur2]; exact hil.1
  .have := grown_setRow w.drew g cur2
   exact ⟨this.os, this.tape, this.output, this.size, this.block⟩)
 have hw1 : IntKind.i64.wrap ((i : Int) + 1) = (i : Int) + 1 := by rw [IntKind.wrap_i64]; omega
 have hz2 : ¬ ((i : Int) = (n : Int)) := by omega
 have hb1 : (0 : Int) <= (i : Int) + 1 := by omega
 have htn : ((i : Int) + 1).toNat = i + 1 := by omega
 have hb2 : ¬ (c = i + 1) := by omega
 have hb3 : (i : Int) <= (n : Int) + 1 := by omega
 have hb4 : ¬ (c = i) := by omega
 have hin : i <= n := by omega
 have hroomI : ¬ ((c : Int) < (n : Int) + 1) := by omega
 clear hil hcur1 hcur2 hct hcs hic hfit hfit2 hgk hwd hg1 hsx hsv hvk hxl hrow hdl hi0 hz0 hz1
 go_enter Tryz.func85, Tryz.ntmps85
 go_wp2_with (simp only [hov])
 go_region
 go_wp2_with (at_builtin; refine wpList_copy_run _ rfl _ _ 32 32 rfl _ _ rfl rfl (hcp2 _ _) ?_)
 go_ret
 exact HF.out
theorem ins_vss_shift (B n i : Nat) (v : Value) (xs vs : List Value) (vb g c : Nat) (w : World) (hv : v = .slice (some ⟨g, 0, none⟩) n c) (hi : i < n) (hroom : n + 1 <= c) (hrow : w.ownsRow B 155 2 v n xs) (hn : n <= 1048576) (hvl : vs.length = 2) (hvk : w.heap[vb]? = some (.cells vs.toArray 155 (0, 0))) (hv1 : ∀ u ∈ vs, u.oneCell' = true) (hx1 : ∀ u ∈ xs, u.oneCell' = true) (hvb : vb ≠ g) :
 Calls Tryz.prog 105 #[v, .int .i64 (i : Int), .slice (some ⟨vb, 0, none⟩) 1 1] w fun en w' => InsP B 155 2 w v n (xs.take (i * 2) ++ vs ++ xs.drop (i * 2)) en w' := by
 subst hv
 obtain ⟨i0, hi0, hz0, hz1, hz2⟩ := info_parts infoVss
 have hxl := hrow.1
 obtain ⟨cur, hgB, hgk, hcm, hcs, hct⟩ : ∃ cur : Array Value, B <= g /\ w.heap[g]? = some (.cells cur 155 (0, 0)) /\ c <= maxLen /\ cur.size = c * 2 /\ cur.toList.take (n * 2) = xs := by
  rcases hrow.2 with ⟨h1, h2⟩ | ⟨g', cap, cur, h1, h2, h3, h4, h5, h6, h7⟩
  .cases h1
  .injection h1 with h1 _ hc
   injection h1 with h1
   injection h1 with h1 _ _
   subst h1 hc
   exact ⟨cur, h2, h3, h5, h6, h7⟩
 have hsz : (Tryz.prog.info? 155).map (·.size) = some 2 := by rw [hi0]; simp [hz1]
 have hsv : ∀ j u, vs[j]? = some u -> w.cell? ((⟨vb, 0, none⟩ : Addr).add j) = some u := fun j u hj => by
  rw [Addr.add_lit, Nat.zero_add]
  simp [World.cell?, hvk, hj]
 have hic : (n + 1) * 2 <= cur.toList.length := by rw [Array.length_toList, hcs]; exact Nat.mul_le_mul_right _ hroom
 have hdl : (xs.drop (i * 2)).length = (n - i) * 2 := by rw [List.length_drop, hxl, Nat.sub_mul]
 have hsx : ∀ (W : World), W.heap[g]? = some (.cells cur 155 (0, 0)) -> ∀ j u, (xs.drop (i * 2))[j]? = some u -> W.cell? ((⟨g, i * 2, none⟩ : Addr).add j) = some u := fun W hW j u hj => by
  rw [Addr.add_lit]
  rw [List.getElem?_drop, <- hct, List.getElem?_take] at hj
  split at hj
  .simp only [World.cell?, hW]
   rw [<- Array.getElem?_toList]
   exact hj
  .cases hj
 have hfit : (i + 1) * 2 + (xs.drop (i * 2)).length <= cur.size := by
  rw [hdl, <- Nat.add_mul, hcs]
  exact Nat.mul_le_mul_right _ (by omega)
 obtain ⟨cur1, hcur1⟩ : ∃ z : List Value, z = cur.toList.take ((i + 1) * 2) ++ xs.drop (i * 2) ++ cur.toList.drop ((i + 1) * 2 + (xs.drop (i * 2)).length) := ⟨_, rfl⟩
 have hil := ins_list (K := 2) (vs := vs) hi hvl hxl hct hic hcur1
 obtain ⟨cur2, hcur2⟩ : ∃ z : Array Value, z = (cur1.take (i * 2) ++ vs ++ cur1.drop (i * 2 + vs.length)).toArray := ⟨_, rfl⟩
 have hwd : w.drew.heap[g]? = some (.cells cur 155 (0, 0)) := hgk
 have hcp1 : ∀ ty dc sc, (Builtin.copy_ #[71, 71] ty #[.slice (some ⟨g, (i + 1) * 2, none⟩) (n - i) dc, .slice (some ⟨g, i * 2, none⟩) (n + 1 - i) sc]).run Tryz.prog w.drew = .ok (goInt (Nat.min (n + 1 - i) (n - i))) (w.drew.setRow g cur1.toArray) := fun ty dc sc => by
  have := run_copy_rowK (P := Tryz.prog) w.drew 71 71 ty 155 2 g ((i + 1) * 2) (n - i) dc ⟨g, i * 2, none⟩ (n + 1 - i) sc cur 155 (xs.drop (i * 2)) Tryz.underlying71 hsz hwd (by rw [hdl]; congr 1; simp only [Nat.min_def]; split <;> omega) (hsx _ hwd) hfit (fun u hu => hx1 u (List.mem_of_mem_drop hu))
  rw [<- hcur1] at this
  simpa only [Nat.mul_one] using this
 have hg1 : (w.drew.setRow g cur1.toArray).heap[g]? = some (.cells cur1.toArray 155 (0, 0)) := setRow_heap _ _ _ _ _ _ hwd
 have hfit2 : i * 2 + vs.length <= cur1.toArray.size := by
  rw [List.size_toArray, hil.2.2, hvl, Array.length_toList, hcs]
  have h1 : i * 2 + 2 = (i + 1) * 2 := by rw [Nat.add_mul, Nat.one_mul]
  rw [h1]
  exact Nat.mul_le_mul_right _ (by omega)
 have hcp2 : ∀ ty dc, (Builtin.copy_ #[71, 71] ty #[.slice (some ⟨g, i * 2, none⟩) (n + 1 - i) dc, .slice (some ⟨vb, 0, none⟩) 1 1]).run Tryz.prog (w.drew.setRow g cur1.toArray) = .ok (goInt (Nat.min 1 (n + 1 - i))) (w.drew.setRow g cur2) := fun ty dc => by
  have := run_copy_rowK (P := Tryz.prog) (w.drew.setRow g cur1.toArray) 71 71 ty 155 2 g (i * 2) (n + 1 - i) dc ⟨vb, 0, none⟩ 1 1 cur1.toArray 155 vs Tryz.underlying71 hsz hg1 (by rw [hvl, show Nat.min 1 (n + 1 - i) = 1 from Nat.min_eq_left (by omega)]) (fun j u hj => by
   have h3 := hsv j u hj
   rw [Addr.add_lit] at h3 ⊢
   rw [World.cell?_of_block (setRow_other _ _ _ _ hvb)]
   exact h3) hfit2 hv1
  rw [setRow_setRow, <- hcur2] at this
  simpa only [Nat.mul_one] using this
 have hov : ∀ lb cb, (callFunc 115 #[.slice (some ⟨vb, 0, none⟩) 1 1, .slice (some ⟨g, (i + 1) * 2, none⟩) lb cb]).run Tryz.prog w = .ok (.value (.bool false)) w := fun lb cb => by
  rw [run_callFunc_extern Tryz.func115 (by kernel_rfl) (by kernel_rfl) (by kernel_rfl) (e := Extern.SlicesOverlaps.overlaps #[71, 71] #[4]) (by kernel_rfl),
   Lib.run_overlaps_apart w 71 4 155 Tryz.underlying71 2 (fun w => by simp [sizeOf, typeInfo, hi0, hz1]) ⟨vb, 0, none⟩ ⟨g, (i + 1) * 2, none⟩ 1 1 lb cb hvb 155 155 2 (c * 2) (by simp [World.shape?, hvk, hvl]) (by simp [World.shape?, hgk, hcs]) (by omega) (by simp [World.frozen?, hvk]) (by simp [World.frozen?, hvk])]
  rfl
 have HF : Hid (InsP B 155 2 w (.slice (some ⟨g, 0, none⟩) n c) n (xs.take (i * 2) ++ vs ++ xs.drop (i * 2)) (.returned (.slice (some ⟨g, 0, none⟩) (n + 1) c)) (w.drew.setRow g cur2)) := hid (by
  refine ⟨_, _, rfl, ⟨?_, .inr ⟨g, c, _, rfl, hgB, setRow_heap _ _ _ _ _ _ hwd, hroom, hcm, ?_, ?_⟩⟩, ?_, fun q hq => .inl hq⟩
  .rw [<- hil.1, List.length_take, hil.2.1]; omega
  .rw [hcur2, List.size_toArray, hil.2.1, Array.length_toList, hcs]
  .rw [hcur2]; exact hil.1
  .have := grown_setRow w.drew g cur2
   exact ⟨this.os, this.tape, this.output, this.size, this.block⟩)
 have hw1 : IntKind.i64.wrap ((i : Int) + 1) = (i : Int) + 1 := by rw [IntKind.wrap_i64]; omega
 have hz2 : ¬ ((i : Int) = (n : Int)) := by omega
 have hb1 : (0 : Int) <= (i : Int) + 1 := by omega
 have htn : ((i : Int) + 1).toNat = i + 1 := by omega
 have hb2 : ¬ (c = i + 1) := by omega
 have hb3 : (i : Int) <= (n : Int) + 1 := by omega
 have hb4 : ¬ (c = i) := by omega
 have hin : i <= n := by omega
 have hroomI : ¬ ((c : Int) < (n : Int) + 1) := by omega
 clear hil hcur1 hcur2 hct hcs hic hfit hfit2 hgk hwd hg1 hsx hsv hvk hxl hrow hdl hi0 hz0 hz1
 go_enter Tryz.func105, Tryz.ntmps105
 go_wp2_with (simp only [hov])
 go_region
 go_wp2_with (at_builtin; refine wpList_copy_run _ rfl _ _ 71 71 rfl _ _ rfl rfl (hcp2 _ _) ?_)
 go_ret
 exact HF.out
theorem ins_int_grow (B n i : Nat) (v : Value) (xs vs : List Value) (vb g c : Nat) (w : World) (hv : v = .slice (some ⟨g, 0, none⟩) n c) (hi : i < n) (hroom : c < n + 1) (hrow : w.ownsRow B 3 1 v n xs) (hn : n <= 1048576) (hvl : vs.length = 1) (hvk : w.heap[vb]? = some (.cells vs.toArray 3 (0, 0))) (hv1 : ∀ u ∈ vs, u.oneCell' = true) (hx1 : ∀ u ∈ xs, u.oneCell' = true) (hvb : vb ≠ g) (hB : B <= w.heap.size) :
 Calls Tryz.prog 85 #[v, .int .i64 (i : Int), .slice (some ⟨vb, 0, none⟩) 1 1] w fun en w' => InsP B 3 1 w v n (xs.take (i * 1) ++ vs ++ xs.drop (i * 1)) en w' := by
 subst hv
 obtain ⟨i0, hi0, hz0, hz1, hz2⟩ := info_parts infoInt
 have hxl := hrow.1
 obtain ⟨cur, hgB, hgk, hnc, hcm, hcs, hct⟩ : ∃ cur : Array Value, B <= g /\ w.heap[g]? = some (.cells cur 3 (0, 0)) /\ n <= c /\ c <= maxLen /\ cur.size = c * 1 /\ cur.toList.take (n * 1) = xs := by
  rcases hrow.2 with ⟨h1, h2⟩ | ⟨g', cap, cur, h1, h2, h3, h4, h5, h6, h7⟩
  .cases h1
  .injection h1 with h1 _ hc
   injection h1 with h1
   injection h1 with h1 _ _
   subst h1 hc
   exact ⟨cur, h2, h3, h4, h5, h6, h7⟩
 have hsz : (Tryz.prog.info? 3).map (·.size) = some 1 := by rw [hi0]; simp [hz1]
 have hgl : g < w.heap.size := (Array.getElem?_eq_some_iff.1 hgk).1
 have hvbl : vb < w.heap.size := (Array.getElem?_eq_some_iff.1 hvk).1
 have hdl : (xs.drop (i * 1)).length = (n - i) * 1 := by rw [List.length_drop, hxl, Nat.sub_mul]
 have htl : (xs.take (i * 1)).length = i * 1 := by rw [List.length_take, hxl, Nat.min_eq_left (Nat.mul_le_mul_right _ (by omega))]
 have hcell : ∀ (W : World), W.heap[g]? = w.heap[g]? -> ∀ j u, xs[j]? = some u -> W.cell? ⟨g, j, none⟩ = some u := fun W hW j u hj => by
  rw [<- hct, List.getElem?_take] at hj
  split at hj
  .simp only [World.cell?, hW, hgk]
   rw [<- Array.getElem?_toList]
   exact hj
  .cases hj
 have hsx : ∀ (W : World), W.heap[g]? = w.heap[g]? -> ∀ j u, (xs.drop (i * 1))[j]? = some u -> W.cell? ((⟨g, i * 1, none⟩ : Addr).add j) = some u := fun W hW j u hj => by
  rw [Addr.add_lit]
  rw [List.getElem?_drop] at hj
  exact hcell W hW _ u hj
 have hold : (Builtin.firstCells i0.size i (.slice (some ⟨g, 0, none⟩) i c)).run Tryz.prog w.drew = .ok (xs.take (i * 1)).toArray w.drew := by
  rw [hz1]
  exact run_firstCells_some w.drew 1 i ⟨g, 0, none⟩ i c (xs.take (i * 1)) (by rw [htl]) (fun j u hj => by
   rw [Addr.add_lit, Nat.zero_add]
   rw [List.getElem?_take] at hj
   split at hj
   .exact hcell _ rfl j u hj
   .cases hj)
 have hkk : (n : Int) + 1 - (i : Int) = ((n + 1 - i : Nat) : Int) := by omega
 have hik : i + (n + 1 - i) = n + 1 := by omega
 obtain ⟨G, hG⟩ : ∃ z, z = grownCap w (n + 1) c 3 := ⟨_, rfl⟩
 obtain ⟨ROW, hROW⟩ : ∃ z : Array Value, z = (xs.take (i * 1)).toArray ++ Builtin.zeroCells (.int .i64 0 : Value).cells (n + 1 - i) ++ Builtin.zeroCells (.int .i64 0 : Value).cells (G - (n + 1)) := ⟨_, rfl⟩
 obtain ⟨W1, hW1⟩ : ∃ z, z = w.drew.alloc (.cells ROW 3) := ⟨_, rfl⟩
 have hGn : n + 1 <= G := by rw [hG]; exact grownCap_ge w _ _ _
 have hG63 : G <= maxLen := by rw [hG]; exact grownCap_le_maxLen w (n + 1) c 3 (by unfold maxLen; omega)
 have hrz : ∀ ty, (Builtin.append_ #[32, 3] ty #[.slice (some ⟨g, 0, none⟩) i c, .int .i64 ((n : Int) + 1 - (i : Int))]).run Tryz.prog w = .ok (.slice (some ⟨w.heap.size, 0, none⟩) (n + 1) G) W1 := fun ty => by
  have h := Lib.run_append_grow_zeros w 32 3 ty 3 i0 _ .i64 .i64 Tryz.underlying32 Tryz.underlying3 hi0 hz0 (some ⟨g, 0, none⟩) i c (xs.take (i * 1)) hold (n + 1 - i) (by omega) (by omega) (by omega) (by omega) (by rw [hz2]; omega) (by rw [hz2, hik]; exact growslice_fits hroom (by omega))
  rw [hik] at h
  rw [hkk, h, hW1, hROW, hG]
 have hrl : ROW.size = G * 1 := by
  rw [hROW]
  simp [Builtin.zeroCells, Value.cells, htl]
  first | omega | (rw [<- Nat.add_mul, <- Nat.add_mul]; congr 1; omega)
 have hn1 : W1.heap[w.heap.size]? = some (.cells ROW 3 (0, 0)) := by rw [hW1]; exact Array.getElem?_push_size
 have hb1 : ∀ k, k < w.heap.size -> W1.heap[k]? = w.heap[k]? := fun k hk => by rw [hW1]; exact Below.heap_alloc w.drew _ k hk
 have hsv : ∀ (W : World), W.heap[vb]? = w.heap[vb]? -> ∀ j u, vs[j]? = some u -> W.cell? ((⟨vb, 0, none⟩ : Addr).add j) = some u := fun W hW j u hj => by
  rw [Addr.add_lit, Nat.zero_add]
  simp [World.cell?, hW, hvk, hj]
 obtain ⟨rA, hrA⟩ : ∃ z : Array Value, z = (ROW.toList.take (i * 1) ++ vs ++ ROW.toList.drop (i * 1 + vs.length)).toArray := ⟨_, rfl⟩
 have hi1 : i * 1 + 1 = (i + 1) * 1 := by rw [Nat.add_mul, Nat.one_mul]
 have hle1 : (i + 1) * 1 <= G * 1 := Nat.mul_le_mul_right _ (by omega)
 have hcpA : ∀ ty dc, (Builtin.copy_ #[32, 32] ty #[.slice (some ⟨w.heap.size, i, none⟩) (n + 1 - i) dc, .slice (some ⟨vb, 0, none⟩) 1 1]).run Tryz.prog W1 = .ok (goInt (Nat.min 1 (n + 1 - i))) (W1.setRow w.heap.size rA) := fun ty dc => by
  have := run_copy_rowK (P := Tryz.prog) W1 32 32 ty 3 1 w.heap.size (i * 1) (n + 1 - i) dc ⟨vb, 0, none⟩ 1 1 ROW 3 vs Tryz.underlying32 hsz hn1 (by rw [hvl, show Nat.min 1 (n + 1 - i) = 1 from Nat.min_eq_left (by omega)]) (hsv W1 (hb1 vb hvbl)) (by rw [hvl, hrl, hi1]; exact hle1) hv1
  rw [<- hrA] at this
  simpa only [Nat.mul_one] using this
 have hral : rA.size = G * 1 := by
  rw [hrA, List.size_toArray]
  simp only [List.length_append, List.length_take, List.length_drop, Array.length_toList, hrl, hvl]
  omega
 have hn2 : (W1.setRow w.heap.size rA).drew.heap[w.heap.size]? = some (.cells rA 3 (0, 0)) := setRow_heap _ _ _ _ _ _ hn1
 have hb2 : ∀ k, k < w.heap.size -> (W1.setRow w.heap.size rA).drew.heap[k]? = w.heap[k]? := fun k hk => (setRow_other W1 w.heap.size k rA (by omega)).trans (hb1 k hk)
 obtain ⟨rB, hrB⟩ : ∃ z : Array Value, z = (rA.toList.take ((i + 1) * 1) ++ xs.drop (i * 1) ++ rA.toList.drop ((i + 1) * 1 + (xs.drop (i * 1)).length)).toArray := ⟨_, rfl⟩
 have hfit : (i + 1) * 1 + (xs.drop (i * 1)).length <= rA.size := by
  rw [hdl, <- Nat.add_mul, hral]
  exact Nat.mul_le_mul_right _ (by omega)
 have hcpB : ∀ ty dc sc, (Builtin.copy_ #[32, 32] ty #[.slice (some ⟨w.heap.size, i + 1, none⟩) (n - i) dc, .slice (some ⟨g, i, none⟩) (n - i) sc]).run Tryz.prog (W1.setRow w.heap.size rA).drew = .ok (goInt (Nat.min (n - i) (n - i))) ((W1.setRow w.heap.size rA).drew.setRow w.heap.size rB) := fun ty dc sc => by
  have := run_copy_rowK (P := Tryz.prog) (W1.setRow w.heap.size rA).drew 32 32 ty 3 1 w.heap.size ((i + 1) * 1) (n - i) dc ⟨g, i * 1, none⟩ (n - i) sc rA 3 (xs.drop (i * 1)) Tryz.underlying32 hsz hn2 (by rw [hdl]; congr 1; exact (Nat.min_self _).symm) (hsx _ (hb2 g hgl)) hfit (fun u hu => hx1 u (List.mem_of_mem_drop hu))
  rw [<- hrB] at this
  simpa only [Nat.mul_one] using this
 have HF : Hid (InsP B 3 1 w (.slice (some ⟨g, 0, none⟩) n c) n (xs.take (i * 1) ++ vs ++ xs.drop (i * 1)) (.returned (.slice (some ⟨w.heap.size, 0, none⟩) (n + 1) G)) ((W1.setRow w.heap.size rA).drew.setRow w.heap.size rB)) := hid (by
  have hA1 : rA.toList.take ((i + 1) * 1) = xs.take (i * 1) ++ vs := by
   rw [hrA, List.toList_toArray, List.take_append_of_le_length (by simp only [List.length_append, List.length_take, Array.length_toList, hrl, hvl]; omega), List.take_of_length_le (by simp only [List.length_append, List.length_take, Array.length_toList, hrl, hvl]; omega)]
   congr 1
   rw [hROW, Array.toList_append, Array.toList_append, List.toList_toArray, List.append_assoc, List.take_append_of_le_length (Nat.le_of_eq htl.symm), List.take_of_length_le (Nat.le_of_eq htl)]
  have hrl2 : rB.size = G * 1 := by
   rw [hrB, List.size_toArray]
   simp only [List.length_append, List.length_take, List.length_drop, Array.length_toList, hral, hxl]
   have h2 : (i + 1) * 1 <= n * 1 + 1 := by rw [show n * 1 + 1 = (n + 1) * 1 by rw [Nat.add_mul, Nat.one_mul]]; exact Nat.mul_le_mul_right _ (by omega)
   have h3 : n * 1 + 1 <= G * 1 := by rw [show n * 1 + 1 = (n + 1) * 1 by rw [Nat.add_mul, Nat.one_mul]]; exact Nat.mul_le_mul_right _ hGn
   have h4 : i * 1 <= n * 1 := Nat.mul_le_mul_right _ (by omega)
   omega
  have hlen : (xs.take (i * 1) ++ vs ++ xs.drop (i * 1)).length = (n + 1) * 1 := by
   simp only [List.length_append, htl, hvl, hdl]
   rw [hi1, <- Nat.add_mul]
   congr 1
   omega
  refine ⟨_, _, rfl, ⟨hlen, .inr ⟨w.heap.size, G, rB, rfl, hB, setRow_heap _ _ _ _ _ _ hn2, hGn, hG63, hrl2, ?_⟩⟩, ?_, fun q hq => ?_⟩
  .rw [hrB, List.toList_toArray, hA1, List.take_append_of_le_length (Nat.le_of_eq hlen.symm), List.take_of_length_le (Nat.le_of_eq hlen)]
  .have h5 := hb2
   refine ⟨?_, ?_, ?_, ?_, fun k hk _ => (setRow_other _ w.heap.size k rB (by omega)).trans (hb2 k hk)⟩
   .show W1.os = w.os; rw [hW1]; rfl
   .show W1.tape = w.tape; rw [hW1]; rfl
   .show W1.output = w.output; rw [hW1]; rfl
   .rw [setRow_size]; show w.heap.size <= (W1.setRow w.heap.size rA).heap.size; rw [setRow_size, hW1]; simp
  .simp [Value.ownBlock] at hq
   exact .inr (by omega))
 have hw1 : IntKind.i64.wrap ((i : Int) + 1) = (i : Int) + 1 := by rw [IntKind.wrap_i64]; omega
 have hz2' : ¬ ((i : Int) = (n : Int)) := by omega
 have hb1' : (0 : Int) <= (i : Int) + 1 := by omega
 have htn : ((i : Int) + 1).toNat = i + 1 := by omega
 have hGi : ¬ (G = i) := by omega
 have hGim : ¬ (G = i + 1) := by omega
 have hci : ¬ (c = i) := by omega
 have hin : i <= n := by omega
 have hroomI : (c : Int) < (n : Int) + 1 := by omega
 have hb3 : (i : Int) <= (n : Int) := by omega
 have hG63' : G <= 9223372036854775807 := by unfold maxLen at hG63; omega
 clear hct hcs hfit hgk hn1 hn2 hsx hsv hvk hxl hrow hdl hi0 hz0 hz1 hold hkk hik hG hROW hW1 hrl hb1 hb2 hrA hrB hral hcell htl hi1 hle1 hG63 hcm hsz hz2
 go_enter Tryz.func85, Tryz.ntmps85
 go_wp2_with (first
  | (at_builtin; refine Lib.wpList_append_run _ rfl _ _ _ _ rfl _ _ rfl rfl _ _ (hrz _) ?_)
  | (at_builtin; refine wpList_copy_run _ rfl _ _ 32 32 rfl _ _ rfl rfl (hcpA _ _) ?_))
 go_region
 go_wp2
 go_ret
 exact HF.out
theorem ins_vss_grow (B n i : Nat) (v : Value) (xs vs : List Value) (vb g c : Nat) (w : World) (hv : v = .slice (some ⟨g, 0, none⟩) n c) (hi : i < n) (hroom : c < n + 1) (hrow : w.ownsRow B 155 2 v n xs) (hn : n <= 1048576) (hvl : vs.length = 2) (hvk : w.heap[vb]? = some (.cells vs.toArray 155 (0, 0))) (hv1 : ∀ u ∈ vs, u.oneCell' = true) (hx1 : ∀ u ∈ xs, u.oneCell' = true) (hvb : vb ≠ g) (hB : B <= w.heap.size) :
 Calls Tryz.prog 105 #[v, .int .i64 (i : Int), .slice (some ⟨vb, 0, none⟩) 1 1] w fun en w' => InsP B 155 2 w v n (xs.take (i * 2) ++ vs ++ xs.drop (i * 2)) en w' := by
 subst hv
 obtain ⟨i0, hi0, hz0, hz1, hz2⟩ := info_parts infoVss
 have hxl := hrow.1
 obtain ⟨cur, hgB, hgk, hnc, hcm, hcs, hct⟩ : ∃ cur : Array Value, B <= g /\ w.heap[g]? = some (.cells cur 155 (0, 0)) /\ n <= c /\ c <= maxLen /\ cur.size = c * 2 /\ cur.toList.take (n * 2) = xs := by
  rcases hrow.2 with ⟨h1, h2⟩ | ⟨g', cap, cur, h1, h2, h3, h4, h5, h6, h7⟩
  .cases h1
  .injection h1 with h1 _ hc
   injection h1 with h1
   injection h1 with h1 _ _
   subst h1 hc
   exact ⟨cur, h2, h3, h4, h5, h6, h7⟩
 have hsz : (Tryz.prog.info? 155).map (·.size) = some 2 := by rw [hi0]; simp [hz1]
 have hgl : g < w.heap.size := (Array.getElem?_eq_some_iff.1 hgk).1
 have hvbl : vb < w.heap.size := (Array.getElem?_eq_some_iff.1 hvk).1
 have hdl : (xs.drop (i * 2)).length = (n - i) * 2 := by rw [List.length_drop, hxl, Nat.sub_mul]
 have htl : (xs.take (i * 2)).length = i * 2 := by rw [List.length_take, hxl, Nat.min_eq_left (Nat.mul_le_mul_right _ (by omega))]
 have hcell : ∀ (W : World), W.heap[g]? = w.heap[g]? -> ∀ j u, xs[j]? = some u -> W.cell? ⟨g, j, none⟩ = some u := fun W hW j u hj => by
  rw [<- hct, List.getElem?_take] at hj
  split at hj
  .simp only [World.cell?, hW, hgk]
   rw [<- Array.getElem?_toList]
   exact hj
  .cases hj
 have hsx : ∀ (W : World), W.heap[g]? = w.heap[g]? -> ∀ j u, (xs.drop (i * 2))[j]? = some u -> W.cell? ((⟨g, i * 2, none⟩ : Addr).add j) = some u := fun W hW j u hj => by
  rw [Addr.add_lit]
  rw [List.getElem?_drop] at hj
  exact hcell W hW _ u hj
 have hold : (Builtin.firstCells i0.size i (.slice (some ⟨g, 0, none⟩) i c)).run Tryz.prog w.drew = .ok (xs.take (i * 2)).toArray w.drew := by
  rw [hz1]
  exact run_firstCells_some w.drew 2 i ⟨g, 0, none⟩ i c (xs.take (i * 2)) (by rw [htl]) (fun j u hj => by
   rw [Addr.add_lit, Nat.zero_add]
   rw [List.getElem?_take] at hj
   split at hj
   .exact hcell _ rfl j u hj
   .cases hj)
 have hkk : (n : Int) + 1 - (i : Int) = ((n + 1 - i : Nat) : Int) := by omega
 have hik : i + (n + 1 - i) = n + 1 := by omega
 obtain ⟨G, hG⟩ : ∃ z, z = grownCap w (n + 1) c 155 := ⟨_, rfl⟩
 obtain ⟨ROW, hROW⟩ : ∃ z : Array Value, z = (xs.take (i * 2)).toArray ++ Builtin.zeroCells (.agg #[.slice none 0 0, .slice none 0 0] : Value).cells (n + 1 - i) ++ Builtin.zeroCells (.agg #[.slice none 0 0, .slice none 0 0] : Value).cells (G - (n + 1)) := ⟨_, rfl⟩
 obtain ⟨W1, hW1⟩ : ∃ z, z = w.drew.alloc (.cells ROW 155) := ⟨_, rfl⟩
 have hGn : n + 1 <= G := by rw [hG]; exact grownCap_ge w _ _ _
 have hG63 : G <= maxLen := by rw [hG]; exact grownCap_le_maxLen w (n + 1) c 155 (by unfold maxLen; omega)
 have hrz : ∀ ty, (Builtin.append_ #[71, 3] ty #[.slice (some ⟨g, 0, none⟩) i c, .int .i64 ((n : Int) + 1 - (i : Int))]).run Tryz.prog w = .ok (.slice (some ⟨w.heap.size, 0, none⟩) (n + 1) G) W1 := fun ty => by
  have h := Lib.run_append_grow_zeros w 71 3 ty 155 i0 _ .i64 .i64 Tryz.underlying71 Tryz.underlying3 hi0 hz0 (some ⟨g, 0, none⟩) i c (xs.take (i * 2)) hold (n + 1 - i) (by omega) (by omega) (by omega) (by omega) (by rw [hz2]; omega) (by rw [hz2, hik]; exact growslice_fits hroom (by omega))
  rw [hik] at h
  rw [hkk, h, hW1, hROW, hG]
 have hrl : ROW.size = G * 2 := by
  rw [hROW]
  simp [Builtin.zeroCells, Value.cells, htl]
  first | omega | (rw [<- Nat.add_mul, <- Nat.add_mul]; congr 1; omega)
 have hn1 : W1.heap[w.heap.size]? = some (.cells ROW 155 (0, 0)) := by rw [hW1]; exact Array.getElem?_push_size
 have hb1 : ∀ k, k < w.heap.size -> W1.heap[k]? = w.heap[k]? := fun k hk => by rw [hW1]; exact Below.heap_alloc w.drew _ k hk
 have hsv : ∀ (W : World), W.heap[vb]? = w.heap[vb]? -> ∀ j u, vs[j]? = some u -> W.cell? ((⟨vb, 0, none⟩ : Addr).add j) = some u := fun W hW j u hj => by
  rw [Addr.add_lit, Nat.zero_add]
  simp [World.cell?, hW, hvk, hj]
 obtain ⟨rA, hrA⟩ : ∃ z : Array Value, z = (ROW.toList.take (i * 2) ++ vs ++ ROW.toList.drop (i * 2 + vs.length)).toArray := ⟨_, rfl⟩
 have hi1 : i * 2 + 2 = (i + 1) * 2 := by rw [Nat.add_mul, Nat.one_mul]
 have hle1 : (i + 1) * 2 <= G * 2 := Nat.mul_le_mul_right _ (by omega)
 have hcpA : ∀ ty dc, (Builtin.copy_ #[71, 71] ty #[.slice (some ⟨w.heap.size, i * 2, none⟩) (n + 1 - i) dc, .slice (some ⟨vb, 0, none⟩) 1 1]).run Tryz.prog W1 = .ok (goInt (Nat.min 1 (n + 1 - i))) (W1.setRow w.heap.size rA) := fun ty dc => by
  have := run_copy_rowK (P := Tryz.prog) W1 71 71 ty 155 2 w.heap.size (i * 2) (n + 1 - i) dc ⟨vb, 0, none⟩ 1 1 ROW 155 vs Tryz.underlying71 hsz hn1 (by rw [hvl, show Nat.min 1 (n + 1 - i) = 1 from Nat.min_eq_left (by omega)]) (hsv W1 (hb1 vb hvbl)) (by rw [hvl, hrl, hi1]; exact hle1) hv1
  rw [<- hrA] at this
  simpa only [Nat.mul_one] using this
 have hral : rA.size = G * 2 := by
  rw [hrA, List.size_toArray]
  simp only [List.length_append, List.length_take, List.length_drop, Array.length_toList, hrl, hvl]
  omega
 have hn2 : (W1.setRow w.heap.size rA).drew.heap[w.heap.size]? = some (.cells rA 155 (0, 0)) := setRow_heap _ _ _ _ _ _ hn1
 have hb2 : ∀ k, k < w.heap.size -> (W1.setRow w.heap.size rA).drew.heap[k]? = w.heap[k]? := fun k hk => (setRow_other W1 w.heap.size k rA (by omega)).trans (hb1 k hk)
 obtain ⟨rB, hrB⟩ : ∃ z : Array Value, z = (rA.toList.take ((i + 1) * 2) ++ xs.drop (i * 2) ++ rA.toList.drop ((i + 1) * 2 + (xs.drop (i * 2)).length)).toArray := ⟨_, rfl⟩
 have hfit : (i + 1) * 2 + (xs.drop (i * 2)).length <= rA.size := by
  rw [hdl, <- Nat.add_mul, hral]
  exact Nat.mul_le_mul_right _ (by omega)
 have hcpB : ∀ ty dc sc, (Builtin.copy_ #[71, 71] ty #[.slice (some ⟨w.heap.size, (i + 1) * 2, none⟩) (n - i) dc, .slice (some ⟨g, i * 2, none⟩) (n - i) sc]).run Tryz.prog (W1.setRow w.heap.size rA).drew = .ok (goInt (Nat.min (n - i) (n - i))) ((W1.setRow w.heap.size rA).drew.setRow w.heap.size rB) := fun ty dc sc => by
  have := run_copy_rowK (P := Tryz.prog) (W1.setRow w.heap.size rA).drew 71 71 ty 155 2 w.heap.size ((i + 1) * 2) (n - i) dc ⟨g, i * 2, none⟩ (n - i) sc rA 155 (xs.drop (i * 2)) Tryz.underlying71 hsz hn2 (by rw [hdl]; congr 1; exact (Nat.min_self _).symm) (hsx _ (hb2 g hgl)) hfit (fun u hu => hx1 u (List.mem_of_mem_drop hu))
  rw [<- hrB] at this
  simpa only [Nat.mul_one] using this
 have HF : Hid (InsP B 155 2 w (.slice (some ⟨g, 0, none⟩) n c) n (xs.take (i * 2) ++ vs ++ xs.drop (i * 2)) (.returned (.slice (some ⟨w.heap.size, 0, none⟩) (n + 1) G)) ((W1.setRow w.heap.size rA).drew.setRow w.heap.size rB)) := hid (by
  have hA1 : rA.toList.take ((i + 1) * 2) = xs.take (i * 2) ++ vs := by
   rw [hrA, List.toList_toArray, List.take_append_of_le_length (by simp only [List.length_append, List.length_take, Array.length_toList, hrl, hvl]; omega), List.take_of_length_le (by simp only [List.length_append, List.length_take, Array.length_toList, hrl, hvl]; omega)]
   congr 1
   rw [hROW, Array.toList_append, Array.toList_append, List.toList_toArray, List.append_assoc, List.take_append_of_le_length (Nat.le_of_eq htl.symm), List.take_of_length_le (Nat.le_of_eq htl)]
  have hrl2 : rB.size = G * 2 := by
   rw [hrB, List.size_toArray]
   simp only [List.length_append, List.length_take, List.length_drop, Array.length_toList, hral, hxl]
   have h2 : (i + 1) * 2 <= n * 2 + 2 := by rw [show n * 2 + 2 = (n + 1) * 2 by rw [Nat.add_mul, Nat.one_mul]]; exact Nat.mul_le_mul_right _ (by omega)
   have h3 : n * 2 + 2 <= G * 2 := by rw [show n * 2 + 2 = (n + 1) * 2 by rw [Nat.add_mul, Nat.one_mul]]; exact Nat.mul_le_mul_right _ hGn
   have h4 : i * 2 <= n * 2 := Nat.mul_le_mul_right _ (by omega)
   omega
  have hlen : (xs.take (i * 2) ++ vs ++ xs.drop (i * 2)).length = (n + 1) * 2 := by
   simp only [List.length_append, htl, hvl, hdl]
   rw [hi1, <- Nat.add_mul]
   congr 1
   omega
  refine ⟨_, _, rfl, ⟨hlen, .inr ⟨w.heap.size, G, rB, rfl, hB, setRow_heap _ _ _ _ _ _ hn2, hGn, hG63, hrl2, ?_⟩⟩, ?_, fun q hq => ?_⟩
  .rw [hrB, List.toList_toArray, hA1, List.take_append_of_le_length (Nat.le_of_eq hlen.symm), List.take_of_length_le (Nat.le_of_eq hlen)]
  .have h5 := hb2
   refine ⟨?_, ?_, ?_, ?_, fun k hk _ => (setRow_other _ w.heap.size k rB (by omega)).trans (hb2 k hk)⟩
   .show W1.os = w.os; rw [hW1]; rfl
   .show W1.tape = w.tape; rw [hW1]; rfl
   .show W1.output = w.output; rw [hW1]; rfl
   .rw [setRow_size]; show w.heap.size <= (W1.setRow w.heap.size rA).heap.size; rw [setRow_size, hW1]; simp
  .simp [Value.ownBlock] at hq
   exact .inr (by omega))
 have hw1 : IntKind.i64.wrap ((i : Int) + 1) = (i : Int) + 1 := by rw [IntKind.wrap_i64]; omega
 have hz2' : ¬ ((i : Int) = (n : Int)) := by omega
 have hb1' : (0 : Int) <= (i : Int) + 1 := by omega
 have htn : ((i : Int) + 1).toNat = i + 1 := by omega
 have hGi : ¬ (G = i) := by omega
 have hGim : ¬ (G = i + 1) := by omega
 have hci : ¬ (c = i) := by omega
 have hin : i <= n := by omega
 have hroomI : (c : Int) < (n : Int) + 1 := by omega
 have hb3 : (i : Int) <= (n : Int) := by omega
 have hG63' : G <= 9223372036854775807 := by unfold maxLen at hG63; omega
 clear hct hcs hfit hgk hn1 hn2 hsx hsv hvk hxl hrow hdl hi0 hz0 hz1 hold hkk hik hG hROW hW1 hrl hb1 hb2 hrA hrB hral hcell htl hi1 hle1 hG63 hcm hsz hz2
 go_enter Tryz.func105, Tryz.ntmps105
 go_wp2_with (first
  | (at_builtin; refine Lib.wpList_append_run _ rfl _ _ _ _ rfl _ _ rfl rfl _ _ (hrz _) ?_)
  | (at_builtin; refine wpList_copy_run _ rfl _ _ 71 71 rfl _ _ rfl rfl (hcpA _ _) ?_))
 go_region
 go_wp2
 go_ret
 exact HF.out
end Go.Proofs.YtblkgicbimflhaaGreat
/-
 DERIVED: THE SHELF's CONTRACTS AT THIS DUMP, IN PLAIN WORDS (tools/lay-plain.mjs out of 'TryzShelf.lean', which tools/lay-shelf.mjs wrote): THE SAME DECLARATIONS UNDER THE SAME NAMES: 'import', 'namespace', 'open', 'def', 'theorem' AND NOTHING ELSE: no command of the shelf's: FOR A HAND-IN. Each laying: the table of numbers ('.._ren') and one theorem, a field a fact of the dump's own or the kernel's comparison; each contract: ONE APPLICATION.
-/
namespace Go.Proofs
open Go.Shelf
def Tryz.laysNm225_ren : Go.Shelf.Ren := ⟨fun | 25 => 82 | 31 => 96 | 32 => 97 | 37 => 108 | n => n, fun | 22 => 32 | 3 => 3 | 4 => 4 | 40 => 192 | 0 => 0 | n => n, fun | n => n⟩
theorem Tryz.laysNm225 : Go.Proofs.Lays2.n25 Tryz.prog Tryz.laysNm225_ren := {
 mixed := by kernel_rfl
 f25 := Tryz.func82.trans (congrArg some (by kernel_rfl))
 f31 := Tryz.func96.trans (congrArg some (by kernel_rfl))
 f32 := Tryz.func97.trans (congrArg some (by kernel_rfl))
 f37 := Tryz.func108.trans (congrArg some (by kernel_rfl))
 t0 := Tryz.underlying0
 a0 := Tryz.isAgg0
 z0 := Tryz.sizeOf0
 v0 := Tryz.zeroValue0
 t3 := Tryz.underlying3
 a3 := Tryz.isAgg3
 z3 := Tryz.sizeOf3
 v3 := Tryz.zeroValue3
 t4 := Tryz.underlying4
 a4 := Tryz.isAgg4
 z4 := Tryz.sizeOf4
 v4 := Tryz.zeroValue4
 t22 := Tryz.underlying32
 a22 := Tryz.isAgg32
 z22 := Tryz.sizeOf32
 v22 := Tryz.zeroValue32
 t40 := Tryz.underlying192
 a40 := Tryz.isAgg192
 z40 := Tryz.sizeOf192
 v40 := Tryz.zeroValue192 }
open Go.RowKit Go.Lib in
theorem Tryz.slices_BinarySearch_int (b off n c : Nat) (zs : List Int) (x : Int) (w : World) (hz : n <= zs.length) (hbig : n < 4611686018427387904) (hc : ∀ j, j < zs.length -> w.cell? ⟨b, off + j, none⟩ = some (.int .i64 (zs.getD j 0))) (hs : (zs.take n).Pairwise (· <= ·)) :
 Calls Tryz.prog 82 #[.slice (some ⟨b, off, none⟩) n c, .int .i64 x] w fun e w' => e = .returned (.tuple #[.int .i64 ((zs.take n).countP (· < x) : Nat), .bool ((zs.take n).contains x)]) /\ ∃ q, w' = w.drewN q := Any.slices_BinarySearch_int Tryz.laysNm225 b off n c zs x w hz hbig hc hs
def Tryz.laysNm223_ren : Go.Shelf.Ren := ⟨fun | 23 => 86 | n => n, fun | 22 => 32 | 3 => 3 | 4 => 4 | 0 => 0 | n => n, fun | n => n⟩
theorem Tryz.laysNm223 : Go.Proofs.Lays2.n23 Tryz.prog Tryz.laysNm223_ren := {
 mixed := by kernel_rfl
 f23 := Tryz.func86.trans (congrArg some (by kernel_rfl))
 t0 := Tryz.underlying0
 a0 := Tryz.isAgg0
 z0 := Tryz.sizeOf0
 v0 := Tryz.zeroValue0
 t3 := Tryz.underlying3
 a3 := Tryz.isAgg3
 z3 := Tryz.sizeOf3
 v3 := Tryz.zeroValue3
 t4 := Tryz.underlying4
 a4 := Tryz.isAgg4
 z4 := Tryz.sizeOf4
 v4 := Tryz.zeroValue4
 t22 := Tryz.underlying32
 a22 := Tryz.isAgg32
 z22 := Tryz.sizeOf32
 v22 := Tryz.zeroValue32
 i3 := by kernel_rfl }
open Go.RowKit Go.Lib Go.Sort in
theorem Tryz.slices_Delete_int_cells (b off n c i j : Nat) (zs : List Int) (w : World) (hz : n <= zs.length) (hcap : n <= c) (hm : c <= 9223372036854775807) (hij : i <= j) (hj : j <= n) (hc : ∀ j, j < zs.length -> w.cell? ⟨b, off + j, none⟩ = some (.int .i64 (zs.getD j 0))) (hf : ∀ j, j < n -> w.frozen? ⟨b, off + j, none⟩ = false) :
 Calls Tryz.prog 86 #[.slice (some ⟨b, off, none⟩) n c, .int .i64 i, .int .i64 j] w fun e w' => e = .returned (.slice (some ⟨b, off, none⟩) (n - (j - i)) c) /\ ∃ q, w' = (w.drewN q).setCells b off (((zs.take n).take i ++ (zs.take n).drop j ++ List.replicate (j - i) 0).map (Value.int .i64)) := Any.slices_Delete_int_cells Tryz.laysNm223 b off n c i j zs w hz hcap hm hij hj hc hf
open Go.RowKit Go.Lib in
theorem Tryz.slices_BinarySearch_int_empty (a : Option Addr) (c : Nat) (x : Int) (w : World) :
 Calls Tryz.prog 82 #[.slice a 0 c, .int .i64 x] w fun e w' => e = .returned (.tuple #[.int .i64 0, .bool false]) /\ w' = w := Any.slices_BinarySearch_int_empty Tryz.laysNm225 a c x w
end Go.Proofs
namespace Go.Proofs.YtblkgicbimflhaaGreat
open Go.ChangeShapes Go.WideShapes Go.ChangeAt Go.RowKit
set_option linter.unusedVariables false
set_option linter.unusedSimpArgs false
set_option maxRecDepth 100000
set_option maxHeartbeats 16000000
def posN (ks : List Int) (x : Int) : Nat := ks.countP (· < x)
theorem posN_le (ks : List Int) (x : Int) : posN ks x <= ks.length := List.countP_le_length
theorem own_cells {B e K n : Nat} {w : World} {v : Value} {xs : List Value} (h : w.ownsRow B e K v n xs) {g : Nat} {c : Nat} (hv : v = .slice (some ⟨g, 0, none⟩) n c) {j : Nat} {u : Value} (hj : xs[j]? = some u) : w.cell? ⟨g, j, none⟩ = some u := by
 rcases h.2 with ⟨h1, h2⟩ | ⟨g', cap, cur, h1, h2, h3, h4, h5, h6, h7⟩
 .rw [hv] at h1; cases h1
 .rw [hv] at h1
  injection h1 with h1 _ hc
  injection h1 with h1
  injection h1 with h1 _ _
  subst h1
  rw [<- h7, List.getElem?_take] at hj
  split at hj
  .simp only [World.cell?, h3]
   rw [<- Array.getElem?_toList]
   exact hj
  .cases hj
theorem own_unfro {B e K n : Nat} {w : World} {v : Value} {xs : List Value} (h : w.ownsRow B e K v n xs) {g : Nat} {c : Nat} (hv : v = .slice (some ⟨g, 0, none⟩) n c) (j : Nat) : w.frozen? ⟨g, j, none⟩ = false := by
 rcases h.2 with ⟨h1, h2⟩ | ⟨g', cap, cur, h1, h2, h3, h4, h5, h6, h7⟩
 .rw [hv] at h1; cases h1
 .rw [hv] at h1
  injection h1 with h1 _ hc
  injection h1 with h1
  injection h1 with h1 _ _
  subst h1
  simp [World.frozen?, h3]
theorem own_shape {B e K n : Nat} {w : World} {v : Value} {xs : List Value} (h : w.ownsRow B e K v n xs) (hn : 0 < n) : ∃ g c, v = .slice (some ⟨g, 0, none⟩) n c /\ n <= c /\ c <= maxLen /\ g < w.heap.size := by
 rcases h.2 with ⟨h1, h2⟩ | ⟨g', cap, cur, h1, h2, h3, h4, h5, h6, h7⟩
 .omega
 .exact ⟨g', cap, h1, h4, h5, (Array.getElem?_eq_some_iff.1 h3).1⟩
theorem bin_any (B : Nat) (v : Value) (ks : List Int) (x : Int) (w : World) (hrow : w.ownsRow B 3 1 v ks.length (ks.map (Value.int .i64))) (hs : ks.Pairwise (· < ·)) (hn : ks.length <= 1048576) :
 Calls Tryz.prog 82 #[v, .int .i64 x] w fun e w' => e = .returned (.tuple #[.int .i64 (posN ks x : Nat), .bool (ks.contains x)]) /\ ∃ q, w' = w.drewN q := by
 rcases Nat.eq_zero_or_pos ks.length with h0 | hp
 .obtain ⟨a, c, hv⟩ := formR hrow
  have hk : ks = [] := List.length_eq_zero_iff.1 h0
  subst hk
  subst hv
  refine (Tryz.slices_BinarySearch_int_empty a c x w).mono ?_
  rintro e w' ⟨rfl, rfl⟩
  exact ⟨rfl, 0, rfl⟩
 .obtain ⟨g, c, hv, hnc, hcm, hgl⟩ := own_shape hrow hp
  have hc : ∀ j, j < ks.length -> w.cell? ⟨g, 0 + j, none⟩ = some (.int .i64 (ks.getD j 0)) := fun j hj => by
   rw [Nat.zero_add]
   refine own_cells hrow hv ?_
   rw [List.getElem?_map, List.getElem?_eq_getElem hj, List.getD_eq_getElem?_getD, List.getElem?_eq_getElem hj]
   rfl
  have h := Tryz.slices_BinarySearch_int g 0 ks.length c ks x w (Nat.le_refl _) (by omega) hc (by rw [List.take_length]; exact hs.imp (fun h => Int.le_of_lt h))
  rw [List.take_length] at h
  rw [hv]
  exact h
theorem ins_int (B n i : Nat) (v : Value) (xs vs : List Value) (vb : Nat) (w : World) (hrow : w.ownsRow B 3 1 v n xs) (hi : i <= n) (hn : n <= 1048576) (hvl : vs.length = 1) (hvk : w.heap[vb]? = some (.cells vs.toArray 3 (0, 0))) (hv1 : ∀ u ∈ vs, u.oneCell' = true) (hx1 : ∀ u ∈ xs, u.oneCell' = true) (hvb : v.ownBlock ≠ some vb) (hB : B <= w.heap.size) :
 Calls Tryz.prog 85 #[v, .int .i64 (i : Int), .slice (some ⟨vb, 0, none⟩) 1 1] w fun en w' => InsP B 3 1 w v n (xs.take (i * 1) ++ vs ++ xs.drop (i * 1)) en w' := by
 by_cases hin : i = n
 .subst hin
  have h := ins_int_end B i v xs vs vb w hrow hn hvl hvk hv1 hB
  rw [List.take_of_length_le (Nat.le_of_eq hrow.1), List.drop_of_length_le (Nat.le_of_eq hrow.1), List.append_nil]
  exact h
 .obtain ⟨g, c, hv, hnc, hcm, hgl⟩ := own_shape hrow (by omega)
  have hne : vb ≠ g := fun z => hvb (by rw [hv, z]; rfl)
  by_cases hr : n + 1 <= c
  .exact ins_int_shift B n i v xs vs vb g c w hv (by omega) hr hrow hn hvl hvk hv1 hx1 hne
  .exact ins_int_grow B n i v xs vs vb g c w hv (by omega) (by omega) hrow hn hvl hvk hv1 hx1 hne hB
theorem ins_vss (B n i : Nat) (v : Value) (xs vs : List Value) (vb : Nat) (w : World) (hrow : w.ownsRow B 155 2 v n xs) (hi : i <= n) (hn : n <= 1048576) (hvl : vs.length = 2) (hvk : w.heap[vb]? = some (.cells vs.toArray 155 (0, 0))) (hv1 : ∀ u ∈ vs, u.oneCell' = true) (hx1 : ∀ u ∈ xs, u.oneCell' = true) (hvb : v.ownBlock ≠ some vb) (hB : B <= w.heap.size) :
 Calls Tryz.prog 105 #[v, .int .i64 (i : Int), .slice (some ⟨vb, 0, none⟩) 1 1] w fun en w' => InsP B 155 2 w v n (xs.take (i * 2) ++ vs ++ xs.drop (i * 2)) en w' := by
 by_cases hin : i = n
 .subst hin
  have h := ins_vss_end B i v xs vs vb w hrow hn hvl hvk hv1 hB
  rw [List.take_of_length_le (Nat.le_of_eq hrow.1), List.drop_of_length_le (Nat.le_of_eq hrow.1), List.append_nil]
  exact h
 .obtain ⟨g, c, hv, hnc, hcm, hgl⟩ := own_shape hrow (by omega)
  have hne : vb ≠ g := fun z => hvb (by rw [hv, z]; rfl)
  by_cases hr : n + 1 <= c
  .exact ins_vss_shift B n i v xs vs vb g c w hv (by omega) hr hrow hn hvl hvk hv1 hx1 hne
  .exact ins_vss_grow B n i v xs vs vb g c w hv (by omega) (by omega) hrow hn hvl hvk hv1 hx1 hne hB
structure Fr (S : Nat -> Prop) (w w' : World) : Prop where
 os : w'.os = w.os
 tape : w'.tape = w.tape
 output : w'.output = w.output
 size : w.heap.size <= w'.heap.size
 block : ∀ g, g < w.heap.size -> ¬ S g -> w'.heap[g]? = w.heap[g]?
theorem Fr.refl (S : Nat -> Prop) (w : World) : Fr S w w := ⟨rfl, rfl, rfl, Nat.le_refl _, fun _ _ _ => rfl⟩
theorem Fr.trans {S : Nat -> Prop} {w w' w'' : World} (h : Fr S w w') (k : Fr S w' w'') : Fr S w w'' := ⟨k.os.trans h.os, k.tape.trans h.tape, k.output.trans h.output, Nat.le_trans h.size k.size, fun g hg hn => (k.block g (Nat.lt_of_lt_of_le hg h.size) hn).trans (h.block g hg hn)⟩
theorem Fr.then {S T : Nat -> Prop} {w w' w'' : World} (h : Fr S w w') (k : Fr T w' w'') (hT : ∀ g, T g -> S g \/ w.heap.size <= g) : Fr S w w'' := ⟨k.os.trans h.os, k.tape.trans h.tape, k.output.trans h.output, Nat.le_trans h.size k.size, fun g hg hn => (k.block g (Nat.lt_of_lt_of_le hg h.size) (fun z => by
 rcases hT g z with q | q
 .exact hn q
 .omega)).trans (h.block g hg hn)⟩
theorem Fr.mono {S T : Nat -> Prop} {w w' : World} (h : Fr S w w') (hT : ∀ g, S g -> T g) : Fr T w w' := ⟨h.os, h.tape, h.output, h.size, fun g hg hn => h.block g hg (fun z => hn (hT g z))⟩
theorem Fr.of_below (S : Nat -> Prop) {w w' : World} (h : Below w.heap.size w w') : Fr S w w' := ⟨h.os, h.tape, h.output, h.size, fun g hg _ => h.block g hg⟩
theorem Fr.grown {w w' : World} {row : Option Nat} (h : w.grownBy w' row) : Fr (fun g => row = some g) w w' := ⟨h.os, h.tape, h.output, h.size, fun g hg hn => h.block g hg (fun z => hn z.symm)⟩
theorem Fr.setCell (w : World) (b j : Nat) (u : Value) : Fr (fun g => g = b) w (w.setCell ⟨b, j, none⟩ u) := by
 have h := (Below.refl 0 w).setCell (p := ⟨b, j, none⟩) (Nat.zero_le _) u
 exact ⟨h.os, h.tape, h.output, h.size, fun g _ hn => heap_setCell_other w _ g u (fun e => hn e)⟩
theorem Fr.below {S : Nat -> Prop} {B : Nat} {w w' : World} (h : Fr S w w') (hB : B <= w.heap.size) (hS : ∀ g, S g -> B <= g) : Below B w w' := ⟨h.os, h.tape, h.output, h.size, fun g hg => h.block g (by omega) (fun z => by have := hS g z; omega)⟩
theorem own_fr {S : Nat -> Prop} {w w' : World} {b e k n : Nat} {v : Value} {xs : List Value} (h : w.ownsRow b e k v n xs) (hk : Fr S w w') (hS : ∀ g, v.ownBlock = some g -> ¬ S g) : w'.ownsRow b e k v n xs := by
 obtain ⟨h1, h2⟩ := h
 refine ⟨h1, ?_⟩
 rcases h2 with h2 | ⟨g, cap, cur, rfl, hg1, hg2, hg3⟩
 .exact .inl h2
 .exact .inr ⟨g, cap, cur, rfl, hg1, by rw [hk.block g (Array.getElem?_eq_some_iff.1 hg2).1 (hS g rfl)]; exact hg2, hg3⟩
theorem Blk.fr {S : Nat -> Prop} {w w' : World} {b : Nat} {cs : List Value} (h : Blk w b cs) (hk : Fr S w w') (hb : b < w.heap.size) (hS : ¬ S b) : Blk w' b cs := fun j hj => by
 have he : w'.heap[(⟨b, j, none⟩ : Addr).block]? = w.heap[(⟨b, j, none⟩ : Addr).block]? := hk.block b hb hS
 exact ⟨(World.cell?_of_block he).trans (h j hj).1, (World.frozen?_of_block he).trans (h j hj).2⟩
structure PutR (B b o e K : Nat) (w : World) (cs : List Value) (kv vv : Value) (ks' : List Int) (ys : List Value) (w' : World) (kv' vv' : Value) : Prop where
 bk : Blk w' b ((cs.set o kv').set (o + 1) vv')
 kr : w'.ownsRow B 3 1 kv' ks'.length (ks'.map (Value.int .i64))
 vr : w'.ownsRow B e K vv' ks'.length ys
 fr : Fr (fun g => g = b \/ kv.ownBlock = some g \/ vv.ownBlock = some g) w w'
 kn : ∀ g, kv'.ownBlock = some g -> kv.ownBlock = some g \/ w.heap.size <= g
 vn : ∀ g, vv'.ownBlock = some g -> vv.ownBlock = some g \/ w.heap.size <= g
 ds : ∀ g, kv'.ownBlock = some g -> vv'.ownBlock ≠ some g
def PutP (B b o e K : Nat) (w : World) (cs : List Value) (kv vv : Value) (ks' : List Int) (ys : List Value) (en : Ending) (w' : World) : Prop := ∃ kv' vv' r, en = .returned r /\ PutR B b o e K w cs kv vv ks' ys w' kv' vv'
theorem posN_at {ks : List Int} {x : Int} (hs : ks.Pairwise (· < ·)) (hx : x ∈ ks) : ks[posN ks x]? = some x := by
 induction ks with
 | nil => cases hx
 | cons y r ih =>
   obtain ⟨h1, h2⟩ := List.pairwise_cons.1 hs
   unfold posN
   rcases List.mem_cons.1 hx with e | e
   .subst e
    have hz : r.countP (· < x) = 0 := List.countP_eq_zero.2 (fun a ha => by have := h1 a ha; simp; omega)
    rw [List.countP_cons, hz]
    simp
   .have hlt := h1 x e
    rw [List.countP_cons]
    simp only [hlt, decide_true, if_true]
    rw [List.getElem?_cons_succ]
    exact ih h2 e
theorem posN_lt {ks : List Int} {x : Int} (hs : ks.Pairwise (· < ·)) (hx : x ∈ ks) : posN ks x < ks.length := (List.getElem?_eq_some_iff.1 (posN_at hs hx)).1
def nI (l : List Nat) : List Int := l.map (fun n : Nat => (n : Int))
theorem nI_len (l : List Nat) : (nI l).length = l.length := by unfold nI; simp
def nP (w : World) (p : List Nat × Value) : Prop := TL 3 1 CI w p.2 (nI p.1)
theorem nP.chg {T : Nat -> Prop} {w w' : World} {p : List Nat × Value} (h : nP w p) (hk : Chg T w w') (hi : ¬ T 3) : nP w' p := TL.chg h hi hk (fun h => h)
theorem im_int : Im 3 := by unfold Im; decide
theorem im_ints : Im 32 := by unfold Im; decide
theorem nP.keep {w w' : World} {p : List Nat × Value} (h : nP w p) (hk : Keep w w') : nP w' p := TL.keep h im_int hk (fun h => h)
theorem nP.below {w w' : World} {p : List Nat × Value} (h : nP w p) (hb : Below w.heap.size w w') : nP w' p := h.chg (Chg.of_below (fun _ => False) hb) (fun z => z)
theorem Keep.chg {w w' : World} (hk : Keep w w') : Chg (fun ty => ¬ Im ty) w w' := ⟨hk.1, fun g ty hi ht => hk.2 g ty (Classical.not_not.1 hi) ht⟩
theorem Mem.chgL {B bb gx : Nat} {w w' : World} {x : Bas} {cv hv : Value} {vs : List (Value × Value × Value)} (h : Mem B bb gx w x cv hv vs) (hk : Chg (fun ty => ty = 32) w w') : Mem B bb gx w' x cv hv vs :=
 ⟨h.n, h.m, h.bs.chg hk (by decide) h.bt, hk.tagk (by decide) h.bt, h.bB, h.xs.chg hk (by decide) h.xt, hk.tagk (by decide) h.xt, h.xB, fun i hi hi' => (h.tm i hi hi').chg hk (by decide) (by decide) (by decide), h.ds, h.cm.chg hk (by decide) (by decide), h.hi.chg hk (by decide) (by decide)⟩
structure HSt (B gb bb gx : Nat) (w wr : World) (x : Bas) (cv hv : Value) (vs : List (Value × Value × Value)) (po pl : List (List Nat × Value)) (lv : Value) : Prop where
 mem : Mem B bb gx wr x cv hv vs
 on5 : po.length = 5
 onb : Blk wr gb (po.map Prod.snd)
 ont : tag wr gb 32
 onB : B <= gb
 onp : ∀ p ∈ po, nP wr p
 lso : wr.ownsRow B 32 1 lv pl.length (pl.map Prod.snd)
 lsp : ∀ p ∈ pl, nP wr p
 ne : lv.ownBlock ≠ some gb
 be : Below B w wr
theorem HSt.below {B gb bb gx : Nat} {w wr w' : World} {x : Bas} {cv hv : Value} {vs : List (Value × Value × Value)} {po pl : List (List Nat × Value)} {lv : Value} (h : HSt B gb bb gx w wr x cv hv vs po pl lv) (hB : B <= wr.heap.size) (hb : Below wr.heap.size wr w') : HSt B gb bb gx w w' x cv hv vs po pl lv :=
 ⟨h.mem.below hb, h.on5, h.onb.below hb (tag_lt h.ont), tag_below h.ont hb, h.onB, fun p hp => (h.onp p hp).below hb, own_below h.lso hb, fun p hp => (h.lsp p hp).below hb, h.ne, h.be.trans (hb.mono hB)⟩
theorem HSt.run {B gb bb gx : Nat} {w wr w' : World} {x x' : Bas} {cv hv cv' hv' : Value} {vs vs' : List (Value × Value × Value)} {po pl : List (List Nat × Value)} {lv : Value} (h : HSt B gb bb gx w wr x cv hv vs po pl lv) (hM : Mem B bb gx w' x' cv' hv' vs') (hk : Keep wr w') (hb : Below B wr w') : HSt B gb bb gx w w' x' cv' hv' vs' po pl lv :=
 ⟨hM, h.on5, h.onb.keep hk im_ints h.ont, hk.tagk im_ints h.ont, h.onB, fun p hp => (h.onp p hp).keep hk, own_chg h.lso hk.chg (fun z => z im_ints), fun p hp => (h.lsp p hp).keep hk, h.ne, h.be.trans hb⟩
theorem HSt.setOn {B gb bb gx : Nat} {w wr : World} {x : Bas} {cv hv : Value} {vs : List (Value × Value × Value)} {po pl : List (List Nat × Value)} {lv : Value} (h : HSt B gb bb gx w wr x cv hv vs po pl lv) {s : Nat} {L : List Nat} {v : Value} (hs : s < 5) (hv1 : nP wr (L, v)) : HSt B gb bb gx w (wr.setCell ⟨gb, s, none⟩ v) x cv hv vs (po.set s (L, v)) pl lv := by
 have hk : Chg (fun ty => ty = 32) wr (wr.setCell ⟨gb, s, none⟩ v) := Chg.set v rfl h.ont
 refine ⟨h.mem.chgL hk, by simp [h.on5], ?_, tag_set v h.ont, h.onB, fun p hp => ?_, own_fr h.lso (Fr.setCell _ _ _ _) (fun g hg e => h.ne (by rw [hg, e])), fun p hp => (h.lsp p hp).chg hk (by decide), h.ne, h.be.setCell (p := ⟨gb, s, none⟩) h.onB v⟩
 .rw [List.map_set]
  exact h.onb.set s v (by simp [h.on5]; omega)
 .rcases List.mem_or_eq_of_mem_set hp with z | z
  .exact (h.onp p z).chg hk (by decide)
  .rw [z]; exact hv1.chg hk (by decide)
theorem HSt.push {B gb bb gx : Nat} {w wr wn : World} {x : Bas} {cv hv : Value} {vs : List (Value × Value × Value)} {po pl : List (List Nat × Value)} {lv lv' : Value} (h : HSt B gb bb gx w wr x cv hv vs po pl lv) {L : List Nat} {v : Value} (hg : wr.grownBy wn lv.ownBlock) (hat : lv'.ownBlock = lv.ownBlock \/ lv'.ownBlock = some wr.heap.size) (ho : wn.ownsRow B 32 1 lv' (pl.length + 1) (pl.map Prod.snd ++ [v])) (hv1 : nP wr (L, v)) (hB : B <= wr.heap.size) : HSt B gb bb gx w wn x cv hv vs po (pl ++ [(L, v)]) lv' := by
 have hk : Chg (fun ty => ty = 32) wr wn := Chg.grown hg (fun g hg => ⟨_, rfl, own_tag h.lso hg⟩)
 have hlt := tag_lt h.ont
 have hbk := hg.block gb hlt (fun e => h.ne e.symm)
 refine ⟨h.mem.chgL hk, h.on5, h.onb.grown hg hlt (fun e => h.ne e.symm), ?_, h.onB, fun p hp => (h.onp p hp).chg hk (by decide), by simpa using ho, fun p hp => ?_, fun e => ?_, h.be.grown hg hB (fun q hq => (h.lso.lt q hq).1)⟩
 .obtain ⟨c, f, e⟩ := h.ont
  exact ⟨c, f, by rw [hbk]; exact e⟩
 .rcases List.mem_append.1 hp with z | z
  .exact (h.lsp p z).chg hk (by decide)
  .rw [List.mem_singleton] at z; rw [z]; exact hv1.chg hk (by decide)
 .rcases hat with z | z
  .exact h.ne (z.symm.trans e)
  .rw [z] at e; injection e with e; omega
theorem HSt.get {B gb bb gx : Nat} {w wr : World} {x : Bas} {cv hv : Value} {vs : List (Value × Value × Value)} {po pl : List (List Nat × Value)} {lv : Value} (h : HSt B gb bb gx w wr x cv hv vs po pl lv) {s : Nat} (hs : s < 5) : ∃ (L : List Nat) (a : Option Addr) (c : Nat), po[s]? = some (L, .slice a L.length c) /\ nP wr (L, .slice a L.length c) /\ wr.cell? ⟨gb, s, none⟩ = some (.slice a L.length c) /\ wr.frozen? ⟨gb, s, none⟩ = false := by
 have hl : s < po.length := by rw [h.on5]; exact hs
 obtain ⟨⟨L, v⟩, hp⟩ : ∃ p, po[s]? = some p := ⟨_, List.getElem?_eq_getElem hl⟩
 have hn := h.onp _ (List.mem_of_getElem? hp)
 obtain ⟨a, c, hv⟩ := TL.form hn
 rw [nI_len] at hv
 simp only at hv
 subst hv
 have hb := h.onb s (by simp [hl])
 rw [List.getElem?_map, hp] at hb
 exact ⟨L, a, c, hp, hn, hb.1, hb.2⟩
theorem infoSl : (Tryz.prog.info? 32).map (fun i => (i.zero, i.size, i.bytes)) = some (some (.slice none 0 0), 1, 24) := by kernel_rfl
theorem mkS5 (W : World) : (Instr.makeSlice 26 (.int .i64 5) (.int .i64 5)).run Tryz.prog W = .ok (.slice (some ⟨W.heap.size, 0, none⟩) 5 5) (W.alloc (.cells #[.slice none 0 0, .slice none 0 0, .slice none 0 0, .slice none 0 0, .slice none 0 0] 32)) := by
 obtain ⟨i0, hi, hz0, hz1, hz2⟩ := info_parts infoSl
 have h := run_makeSlice W 26 32 i0 _ Tryz.underlying26 hi hz0 .i64 .i64 5 5 (by decide) (by decide) (by rw [hz1]; decide) (by rw [hz2]; decide) (by decide)
 rw [hz1] at h
 have e : madeCells (Value.slice none 0 0).cells (Int.toNat 5 * 1) = #[.slice none 0 0, .slice none 0 0, .slice none 0 0, .slice none 0 0, .slice none 0 0] := by first | rfl | kernel_rfl | decide
 rw [e] at h
 exact h
def zn : List Nat × Value := ([], .slice none 0 0)
def hw0 (w : World) : World := ((uw1 w).alloc (.cells #[.slice none 0 0, .slice none 0 0, .slice none 0 0, .slice none 0 0, .slice none 0 0] 32)).alloc (.cells #[] 32)
theorem hst0 (w : World) : HSt w.heap.size (w.heap.size + 1 + 1) (w.heap.size + 1) w.heap.size w (hw0 w) bas0 (.slice none 0 0) (.slice none 0 0) [z3, z3, z3, z3] [zn, zn, zn, zn, zn] [] (.slice (some ⟨w.heap.size + 1 + 1 + 1, 0, none⟩) 0 0) := by
 unfold hw0
 have MB := mem1 w
 have e2 : (uw1 w).heap.size = w.heap.size + 1 + 1 := by simp [uw1]
 have bb := uw1_below w
 obtain ⟨wb, hwb⟩ : ∃ z, z = uw1 w := ⟨_, rfl⟩
 rw [<- hwb] at MB e2 bb ⊢
 clear hwb
 obtain ⟨wc, hwc⟩ : ∃ z, z = wb.alloc (.cells #[.slice none 0 0, .slice none 0 0, .slice none 0 0, .slice none 0 0, .slice none 0 0] 32) := ⟨_, rfl⟩
 rw [<- hwc]
 have e3 : wc.heap.size = w.heap.size + 1 + 1 + 1 := by rw [hwc]; simp [e2]
 have bc : Below w.heap.size w wc := by rw [hwc]; exact bb.alloc (by omega) _
 have kc : Blk wc (w.heap.size + 1 + 1) [.slice none 0 0, .slice none 0 0, .slice none 0 0, .slice none 0 0, .slice none 0 0] := by rw [hwc, <- e2]; exact blk_new wb _ _
 have gc : tag wc (w.heap.size + 1 + 1) 32 := by rw [hwc, <- e2]; exact tag_new wb [.slice none 0 0, .slice none 0 0, .slice none 0 0, .slice none 0 0, .slice none 0 0] _
 have MC : Mem w.heap.size (w.heap.size + 1) w.heap.size wc bas0 (.slice none 0 0) (.slice none 0 0) [z3, z3, z3, z3] := by rw [hwc]; exact MB.below (below_alloc _ _)
 clear hwc MB
 have hm := World.ownsRow_made (base := w.heap.size) (e := 32) (size := 1) wc #[] 0 (by omega) (by unfold maxLen; omega) (by simp)
 rw [e3] at hm
 refine ⟨MC.below (below_alloc _ _), rfl, kc.below (below_alloc _ _) (by omega), tag_below gc (below_alloc _ _), by omega, fun p hp => ?_, by simpa using hm, fun p hp => by simp at hp, fun e => by simp [Value.ownBlock] at e, bc.alloc (by omega) _⟩
 simp at hp
 rw [hp]
 exact TL.nil _ _ _ _
end Go.Proofs.YtblkgicbimflhaaGreat
