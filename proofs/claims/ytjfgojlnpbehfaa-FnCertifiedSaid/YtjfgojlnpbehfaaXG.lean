import Derived.Test.YtjfgojlnpbehfaaXD
import Derived.Test.YtjfgojlnpbehfaaCE
import Derived.Lib.AppendZerosOnto
namespace Go.Proofs.Ytjfgojlnpbehfaa
open Go.ChangeShapes Go.WideShapes Go.ChangeAt Go.RowKit
set_option linter.unusedVariables false
set_option linter.unusedSimpArgs false
set_option maxRecDepth 100000
set_option maxHeartbeats 4000000 in
theorem grow_impl (n : Nat) (w : World) (h1 : 1 ≤ n) (hn : n ≤ 1048577) :
    Calls Try.prog 40 #[.slice none 0 0, .int .i64 (n : Int)] w fun e w' => ∃ v, e = .returned v ∧ w'.ownsRow w.heap.size 31 4 v 0 [] ∧ Below w.heap.size w w' := by
  obtain ⟨i0, hi, hz0, hz1, hz2⟩ := info_parts info31
  have hrz : ∀ ty, (Builtin.append_ #[29, 3] ty #[.slice none 0 0, .int .i64 (n : Int)]).run Try.prog w =
      .ok (.slice (some ⟨w.heap.size, 0, none⟩) n (grownCap w n 0 31)) (w.drew.alloc (.cells (([] : List Value).toArray ++ Builtin.zeroCells (Value.agg #[.int .i64 0, .int .i64 0, .slice none 0 0, .slice none 0 0]).cells n ++ Builtin.zeroCells (Value.agg #[.int .i64 0, .int .i64 0, .slice none 0 0, .slice none 0 0]).cells (grownCap w n 0 31 - n)) 31)) := fun ty => by
    have h := Lib.run_append_grow_zeros (P := Try.prog) w 29 3 ty 31 i0 _ .i64 .i64 Try.underlying29 Try.underlying3 hi hz0 none 0 0 [] (run_firstCells_none (w := w.drew) _ 0 0 0) n (by omega) (by rw [hz1]; decide) (by omega) (by omega) (by rw [hz2]; omega)
      (growslice_fits (by omega) (by rw [hz2]; omega))
    simp only [Nat.zero_add] at h
    exact h
  have hGn : n ≤ grownCap w n 0 31 := grownCap_ge w _ _ _
  have hGm := grownCap_le_maxLen w n 0 31 (by unfold maxLen; omega)
  obtain ⟨G, hG⟩ : ∃ G, G = grownCap w n 0 31 := ⟨_, rfl⟩
  rw [← hG] at hrz hGn hGm
  have HGM := hid hGm
  unfold maxLen at hGm
  obtain ⟨cur, hcur⟩ : ∃ cur, cur = (([] : List Value).toArray ++ Builtin.zeroCells (Value.agg #[.int .i64 0, .int .i64 0, .slice none 0 0, .slice none 0 0]).cells n ++ Builtin.zeroCells (Value.agg #[.int .i64 0, .int .i64 0, .slice none 0 0, .slice none 0 0]).cells (G - n)) := ⟨_, rfl⟩
  have hsz : cur.size = G * 4 := by
    rw [hcur, Array.size_append, Array.size_append, size_zeroCells, size_zeroCells]
    have : ((Value.agg #[.int .i64 0, .int .i64 0, .slice none 0 0, .slice none 0 0]).cells).size = 4 := rfl
    rw [this]
    simp
    omega
  rw [← hcur] at hrz
  clear hcur hG
  have HOW : Hid ((w.drew.alloc (.cells cur 31)).ownsRow w.heap.size 31 4 (.slice (some ⟨w.heap.size, 0, none⟩) 0 G) 0 []) := (World.ownsRow_made (base := w.heap.size) (e := 31) (size := 4) w.drew cur G (Nat.le_refl _) HGM.out hsz : (w.drew.alloc (.cells cur 31)).ownsRow w.heap.size 31 4 (.slice (some ⟨w.heap.size, 0, none⟩) 0 G) 0 [])
  have HBW : Hid (Below w.heap.size w (w.drew.alloc (.cells cur 31))) := ((Below.refl _ w).drew.alloc (Nat.le_refl _) _ : Below w.heap.size w (w.drew.alloc (.cells cur 31)))
  have e0 : ¬ ((n : Int) < 0) := by omega
  have e2 : wrap64 ((n : Int)) = (n : Int) := by unfold wrap64; omega
  have e4 : (n : Int) > 0 := by omega
  clear hsz HGM
  go_enter Try.func40, Try.ntmps40
  go_wp2_with (at_builtin; refine Lib.wpList_append_run _ rfl _ _ _ _ rfl _ _ rfl rfl _ _ (hrz _) ?_)
  all_goals
    go_ret
    exact ⟨_, rfl, HOW.out, HBW.out⟩
set_option maxHeartbeats 8000000 in
theorem concat_impl (g ca g2 gt : Nat) (us : List TI) (t : TI) (w : World) (hn : us.length ≤ 1048576) (hg2 : g2 < w.heap.size) (h0 : w.cell? ⟨g2, 0, none⟩ = some (.slice (some ⟨g, 0, none⟩) us.length ca)) (h1 : w.cell? ⟨g2, 1, none⟩ = some (.slice (some ⟨gt, 0, none⟩) 1 1))
    (ha : RS 4 CT 0 w (.slice (some ⟨g, 0, none⟩) us.length ca) us) (ht : RS 4 CT 0 w (.slice (some ⟨gt, 0, none⟩) [t].length 1) [t]) :
    Calls Try.prog 27 #[.slice (some ⟨g2, 0, none⟩) 2 2] w fun e w' => ∃ v, e = .returned v ∧ RS 4 CT 0 w' v (us ++ [t]) ∧ Below w.heap.size w w' := by
  obtain ⟨i0, hi, hz0, hz1, hz2⟩ := info_parts info31
  obtain ⟨news, hfill, hcells⟩ := RS.flat liesT ha
  obtain ⟨cs, cfill, ccells⟩ := RS.flat liesT ht
  have HG : Hid (0 < us.length → g < w.heap.size) := (fun h => by obtain ⟨_, _, he, hh⟩ := ha; obtain ⟨g', o', e2, _, h3, _⟩ := hh h; simp only [Value.slice.injEq] at he; rw [← he.1] at e2; cases e2; exact h3 : 0 < us.length → g < w.heap.size)
  have HT : Hid (gt < w.heap.size) := (by obtain ⟨_, _, he, hh⟩ := ht; obtain ⟨g', o', e2, _, h3, _⟩ := hh (by simp); simp only [Value.slice.injEq] at he; rw [← he.1] at e2; cases e2; exact h3 : gt < w.heap.size)
  have HNL : Hid (news.length = us.length * 4) := hfill.1
  have HCL : Hid (cs.length = 1 * 4) := cfill.1
  have HON : Hid (∀ u ∈ news, u.oneCell' = true) := hfill.one oneT liesT
  have HOC : Hid (∀ u ∈ cs, u.oneCell' = true) := cfill.one oneT liesT
  have HCW : Hid (∀ W, Below w.heap.size w W → ∀ j u, news[j]? = some u → W.cell? ((⟨g, 0, none⟩ : Addr).add j) = some u) := (fun W hW j u hj => by
    have hp : 0 < us.length := by
      have h1 := (List.getElem?_eq_some_iff.1 hj).1
      rw [hfill.1] at h1; omega
    rw [Addr.add_lit]
    exact (hW.cell (p := ⟨g, 0 + j, none⟩) (HG.out hp)).trans (hcells j u hj) : ∀ W, Below w.heap.size w W → ∀ j u, news[j]? = some u → W.cell? ((⟨g, 0, none⟩ : Addr).add j) = some u)
  have HCT : Hid (∀ W, Below w.heap.size w W → ∀ j u, cs[j]? = some u → W.cell? ((⟨gt, 0, none⟩ : Addr).add j) = some u) := (fun W hW j u hj => by
    rw [Addr.add_lit]
    exact (hW.cell (p := ⟨gt, 0 + j, none⟩) HT.out).trans (ccells j u hj) : ∀ W, Below w.heap.size w W → ∀ j u, cs[j]? = some u → W.cell? ((⟨gt, 0, none⟩ : Addr).add j) = some u)
  have HRS : Hid (∀ W v, Below w.heap.size w W → W.ownsRow w.heap.size 31 4 v (us.length + 1) (news ++ cs) → RS 4 CT 0 W v (us ++ [t])) := (fun W v hW ho => by
    have F := (hfill.below liesT hW).append (cfill.below liesT hW)
    exact F.own liesT (own_bs (by simpa using ho) (Nat.zero_le _)) (Nat.le_refl _) : ∀ W v, Below w.heap.size w W → W.ownsRow w.heap.size 31 4 v (us.length + 1) (news ++ cs) → RS 4 CT 0 W v (us ++ [t]))
  have e1 : wrap64 ((0 : Int) + (us.length : Int)) = (us.length : Int) := by unfold wrap64; omega
  have e2 : wrap64 ((us.length : Int) + 1) = (us.length : Int) + 1 := by unfold wrap64; omega
  have e3 : ¬ (us.length : Int) < 0 := by omega
  have e4 : ¬ (us.length : Int) + 1 < 0 := by omega
  clear ha ht hfill cfill hcells ccells HG HT
  go_enter Try.func27, Try.ntmps27
  go_wp2
  go_loopw [3, 11] (fun sv iv wr => ((iv = .int .i64 0 ∧ sv = .int .i64 0) ∨ (iv = .int .i64 1 ∧ sv = .int .i64 us.length) ∨ (iv = .int .i64 2 ∧ sv = .int .i64 ((us.length : Int) + 1))) ∧ wr = w) (fun _ iv _ => 2 - (intOf iv).toNat)
  case atStart => exact ⟨.inl ⟨rfl, rfl⟩, rfl⟩
  case round =>
    obtain ⟨hcs, hww⟩ := hrel
    replace hww := hww.symm
    subst hww
    rcases hcs with ⟨rfl, rfl⟩ | ⟨rfl, rfl⟩ | ⟨rfl, rfl⟩
    · go_wp2
      go_roundw
      case rel => exact ⟨.inr (.inl ⟨rfl, by first | rfl | go_num⟩), by first | exact rfl | trivial⟩
      case measure => simp [intOf]
    · go_wp2
      go_roundw
      case rel => exact ⟨.inr (.inr ⟨rfl, by first | rfl | go_num⟩), by first | exact rfl | trivial⟩
      case measure => simp [intOf]
    · go_wp2_with (go_at_call 40; fail)
      have hgr := grow_impl (us.length + 1) w (by omega) (by omega)
      rw [show ((us.length + 1 : Nat) : Int) = (us.length : Int) + 1 by omega] at hgr
      refine hgr.mono ?_
      rintro e w1 ⟨v, rfl, ho, hb⟩
      have HO := hid ho
      clear hgr ho
      go_wp2
      go_loopw [6, 27] (fun sv iv wr => ((iv = .int .i64 0 ∧ Hid (wr.ownsRow w.heap.size 31 4 sv 0 [])) ∨ (iv = .int .i64 1 ∧ Hid (wr.ownsRow w.heap.size 31 4 sv us.length news)) ∨ (iv = .int .i64 2 ∧ Hid (wr.ownsRow w.heap.size 31 4 sv (us.length + 1) (news ++ cs)))) ∧ Below w.heap.size w wr) (fun _ iv _ => 2 - (intOf iv).toNat)
      case atStart => exact ⟨.inl ⟨rfl, HO⟩, hb⟩
      case round =>
        clear HO hb e1 e2 e3 e4
        obtain ⟨hcs, hb⟩ := hrel
        have k0 : wr.cell? ⟨g2, 0, none⟩ = some (.slice (some ⟨g, 0, none⟩) us.length ca) := (hb.cell (p := ⟨g2, 0, none⟩) hg2).trans h0
        have k1 : wr.cell? ⟨g2, 1, none⟩ = some (.slice (some ⟨gt, 0, none⟩) 1 1) := (hb.cell (p := ⟨g2, 1, none⟩) hg2).trans h1
        rcases hcs with ⟨rfl, HO⟩ | ⟨rfl, HO⟩ | ⟨rfl, HO⟩
        · go_wp2_with (at_builtin; refine wpList_append_own _ rfl (.tmp 31) (.tmp 32) 29 rfl w.heap.size 31 i0 _ 4 64 Try.underlying29 hi hz0 hz1 hz2 rfl (by decide) _ _ _ rfl HO.out ⟨g, 0, none⟩ us.length ca news rfl HNL.out (HCW.out _ hb) HON.out (by unfold maxLen; omega) (by omega) hb.size ?_; intro v' w' hown hgrow _)
          have HO2 := hid hown
          have bw2 : Below w.heap.size w w' := hb.grown hgrow hb.size (fun k hk => (HO.out.lt k hk).1)
          clear hown hgrow HO
          go_wp2
          go_roundw
          case rel => exact ⟨.inr (.inl ⟨rfl, (by simpa using HO2.out : w'.ownsRow w.heap.size 31 4 v' us.length news)⟩), bw2⟩
          case measure => simp [intOf]
        · go_wp2_with (at_builtin; refine wpList_append_own _ rfl (.tmp 31) (.tmp 32) 29 rfl w.heap.size 31 i0 _ 4 64 Try.underlying29 hi hz0 hz1 hz2 rfl (by decide) _ _ _ rfl HO.out ⟨gt, 0, none⟩ 1 1 cs rfl HCL.out (HCT.out _ hb) HOC.out (by unfold maxLen; omega) (by omega) hb.size ?_; intro v' w' hown hgrow _)
          have HO2 := hid hown
          have bw2 : Below w.heap.size w w' := hb.grown hgrow hb.size (fun k hk => (HO.out.lt k hk).1)
          clear hown hgrow HO
          go_wp2
          go_roundw
          case rel => exact ⟨.inr (.inr ⟨rfl, HO2⟩), bw2⟩
          case measure => simp [intOf]
        · go_wp2
          go_ret
          exact ⟨_, rfl, HRS.out _ _ hb HO.out, hb⟩
end Go.Proofs.Ytjfgojlnpbehfaa
