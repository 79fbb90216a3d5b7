import Derived.Test.YtjfgojlnpbehfaaHD2
import Derived.Test.YtjfgojlnpbehfaaDF
import Derived.Deep.RegionLawGrows
namespace Go.Proofs.Ytjfgojlnpbehfaa
open Go.ChangeShapes Go.WideShapes Go.ChangeAt Go.RowKit
set_option linter.unusedVariables false
set_option linter.unusedSimpArgs false
set_option maxRecDepth 100000
theorem pick_len (c : Nat) (A : Int) (n : Nat) (w : World) (h : IsCur w c A) (hA : A ≤ 1000000) (h1 : 1 ≤ n) (h2 : n ≤ 8) : Calls Try.prog 45 #[.pointer (some ⟨c, 0, none⟩), .int .i64 (n : Int)] w fun e w' => Drawn c (A + 2) (n : Int) w e w' := by
  by_cases h3 : n = 1
  · subst h3
    refine (pick_one c _ w (by simp)).mono ?_
    rintro e w' ⟨rfl, rfl⟩
    exact ⟨0, by omega, by simp, rfl, h.mono (by omega), Upd.refl _ _⟩
  · exact pick_any c A n w h (by omega) (by omega) (by omega)
def SpoilD (c : Nat) (w0 : World) (e : Ending) (w' : World) : Prop := ∃ v ts, e = .returned v ∧ HstN w0.heap.size w' v ts ∧ ts.length ≤ 8 ∧ (∀ x ∈ ts, x.2.2.reads.length ≤ 6 ∧ x.2.2.writes.length ≤ 6) ∧ Upd c w0 w'
theorem small_set {ts : List (Value × Value × TI)} {i : Nat} {x : Value × Value × TI} (h : SmallH ts) (hx : x.2.2.reads.length ≤ 6 ∧ x.2.2.writes.length ≤ 6) : (ts.set i x).length ≤ 8 ∧ ∀ z ∈ ts.set i x, z.2.2.reads.length ≤ 6 ∧ z.2.2.writes.length ≤ 6 := ⟨by rw [List.length_set]; exact h.1, fun z hz => by
  rcases List.mem_or_eq_of_mem_set hz with hm | rfl
  · have := h.2 z hm; omega
  · exact hx⟩
theorem info_int : (Try.prog.info? 3).map (fun i => (i.zero, i.size, i.bytes)) = some (some (.int .i64 0), 1, 8) := infoI1
theorem own_form {w : World} {b e k n : Nat} {v : Value} {xs : List Value} (h : w.ownsRow b e k v n xs) : ∃ oa oc, v = .slice oa n oc := by
  rcases h.2 with ⟨rfl, h0⟩ | ⟨g, cap, cur, rfl, _⟩
  · exact ⟨none, 0, by rw [h0]⟩
  · exact ⟨_, _, rfl⟩
theorem one_new (W : World) (z : Int) : ∀ (j : Nat) (u : Value), [Value.int .i64 z][j]? = some u → (W.alloc (.cells #[.int .i64 z] 3)).cell? ((⟨W.heap.size, 0, none⟩ : Addr).add j) = some u := fun j u hj => by
  have hl : j = 0 := by
    by_cases h : j < 1
    · omega
    · rw [List.getElem?_eq_none (by simp; omega)] at hj; cases hj
  subst hl
  rw [Addr.add_lit, Nat.zero_add, World.cell?_alloc_at _ _ _ _ (by simp)]
  exact hj
theorem upd_grown {c g o : Nat} {w0 W w7 : World} {v u : Value} {xs : List Int} (hu : Upd c w0 W) (hI : IOw w0.heap.size W u xs) (hg : W.grownBy w7 u.ownBlock) (hgb : w0.heap.size ≤ g) : Upd c w0 (w7.setCell ⟨g, o, none⟩ v) :=
  have hb : ∀ k, k < w0.heap.size → w7.heap[k]? = W.heap[k]? := fun k hk => hg.block k (Nat.lt_of_lt_of_le hk hu.size) (fun e => by have := (World.ownsRow.lt hI k e.symm).1; omega)
  ⟨by exact hg.os.trans hu.os, by exact hg.tape.trans hu.tape, by exact hg.output.trans hu.output, by simpa [World.setCell] using Nat.le_trans hu.size hg.size, fun k hk hk2 => (Below.heap_setCell _ _ _ _ (by simp; omega)).trans ((hb k hk).trans (hu.block k hk hk2))⟩
theorem grownR {c g oc i : Nat} {B z : Int} {w0 W w7 : World} {v7 : Value} {ts : List (Value × Value × TI)} (h : DrH c w0 W B (.slice (some ⟨g, 0, none⟩) ts.length oc) ts) (hi : i < ts.length) (hg : W.grownBy w7 ts[i].1.ownBlock) (ho : w7.ownsRow w0.heap.size 3 1 v7 (ts[i].2.2.reads.length + 1) (ts[i].2.2.reads.map (Value.int .i64) ++ [.int .i64 z])) :
    w7.cell? ⟨g, i * 4 + 2, none⟩ = some ts[i].1 ∧ w7.frozen? ⟨g, i * 4 + 2, none⟩ = false ∧ HstN w0.heap.size (w7.setCell ⟨g, i * 4 + 2, none⟩ v7) (.slice (some ⟨g, 0, none⟩) ts.length oc) (ts.set i (v7, ts[i].2.1, ⟨ts[i].2.2.bgn, ts[i].2.2.com, ts[i].2.2.reads ++ [z], ts[i].2.2.writes⟩)) ∧ Upd c w0 (w7.setCell ⟨g, i * 4 + 2, none⟩ v7) := by
  have hN := (h.hst.nest ts[i] (List.getElem_mem hi)).1
  have hr := (h.hst.grown (nest_at ts i hi).1 hN hg).1
  have hf := flatT ts i hi 2 (by omega)
  exact ⟨own_cell hr (by rw [hf]; rfl), hr.frozenAt _, h.hst.setR hi hg (IOw.push ho), upd_grown h.upd hN hg (h.hst.row.lt g rfl).1⟩
theorem grownW {c g oc i : Nat} {B z : Int} {w0 W w7 : World} {v7 : Value} {ts : List (Value × Value × TI)} (h : DrH c w0 W B (.slice (some ⟨g, 0, none⟩) ts.length oc) ts) (hi : i < ts.length) (hg : W.grownBy w7 ts[i].2.1.ownBlock) (ho : w7.ownsRow w0.heap.size 3 1 v7 (ts[i].2.2.writes.length + 1) (ts[i].2.2.writes.map (Value.int .i64) ++ [.int .i64 z])) :
    w7.cell? ⟨g, i * 4 + 3, none⟩ = some ts[i].2.1 ∧ w7.frozen? ⟨g, i * 4 + 3, none⟩ = false ∧ HstN w0.heap.size (w7.setCell ⟨g, i * 4 + 3, none⟩ v7) (.slice (some ⟨g, 0, none⟩) ts.length oc) (ts.set i (ts[i].1, v7, ⟨ts[i].2.2.bgn, ts[i].2.2.com, ts[i].2.2.reads, ts[i].2.2.writes ++ [z]⟩)) ∧ Upd c w0 (w7.setCell ⟨g, i * 4 + 3, none⟩ v7) := by
  have hN := (h.hst.nest ts[i] (List.getElem_mem hi)).2
  have hr := (h.hst.grown (nest_at ts i hi).2 hN hg).1
  have hf := flatT ts i hi 3 (by omega)
  exact ⟨own_cell hr (by rw [hf]; rfl), hr.frozenAt _, h.hst.setW hi hg (IOw.push ho), upd_grown h.upd hN hg (h.hst.row.lt g rfl).1⟩
set_option maxHeartbeats 8000000 in
theorem spoil_any (c : Nat) (A : Int) (w0 w : World) (v : Value) (ts : List (Value × Value × TI)) (h : DrH c w0 w A v ts) (hs : SmallH ts) (hc : c < w0.heap.size) (hA : A ≤ 100000) : Calls Try.prog 36 #[.pointer (some ⟨c, 0, none⟩), v] w fun e w' => SpoilD c w0 e w' := by
  obtain ⟨oa, oc, rfl⟩ := h.hst.form
  have HD := hid h
  have HSM := hid hs
  have hl8 := hs.1
  clear h hs
  by_cases hz : ts.length = 0
  · have hts : ts = [] := by cases ts with | nil => rfl | cons a r => simp at hz
    subst hts
    clear hz
    go_enter Try.func36, Try.ntmps36
    go_wp2_with (go_at_call 45; fail)
    refine (pick_any c _ 2 _ HD.out.cur (by omega) (by omega) (by omega)).mono ?_
    rintro e w2 ⟨r, r0, r1, rfl, hcc, huu⟩
    have HD2 := hid (HD.out.step hc huu hcc)
    have hs2 : w0.heap.size ≤ w2.heap.size := HD2.out.upd.size
    clear HD hcc huu
    go_wp2
    go_ret
    refine ⟨_, [(.slice none 0 0, .slice none 0 0, ⟨0, r, [], []⟩)], rfl, ⟨⟨by simp [tC], .inr ⟨w2.heap.size, 1, #[.int .i64 0, .int .i64 r, .slice none 0 0, .slice none 0 0], rfl, hs2, Array.getElem?_push_size, by simp, by unfold maxLen; omega, by simp, by simp [tC]⟩⟩, fun x hx => ?_⟩, by simp, fun x hx => ?_, HD2.out.upd.trans (Upd.of_below (below_alloc _ _))⟩
    · rw [List.mem_singleton.1 hx]
      exact ⟨⟨by simp, .inl ⟨rfl, rfl⟩⟩, ⟨by simp, .inl ⟨rfl, rfl⟩⟩⟩
    · rw [List.mem_singleton.1 hx]; simp
  · have hzi : (((ts.length : Nat) : Int) == 0) = false := beq_eq_false_iff_ne.2 (by omega)
    have hpos : 1 ≤ ts.length := by omega
    obtain ⟨g, rfl⟩ : ∃ g, oa = some ⟨g, 0, none⟩ := by
      rcases HD.out.hst.row.2 with ⟨_, h0⟩ | ⟨g, cp, cur, he, _⟩
      · omega
      · simp only [Value.slice.injEq] at he; exact ⟨g, he.1⟩
    go_enter Try.func36, Try.ntmps36
    go_wp2_with (go_at_call 45; fail)
    refine (pick_len c _ ts.length _ HD.out.cur (by omega) hpos hl8).mono ?_
    rintro e w2 ⟨r, r0, r1, rfl, hcc, huu⟩
    have HD2 := hid (HD.out.step hc huu hcc)
    clear HD hcc huu
    obtain ⟨i, rfl⟩ : ∃ z : Nat, r = z := ⟨r.toNat, by omega⟩
    have hi : i < ts.length := by omega
    clear r0
    go_wp2_with (go_at_call 45; fail)
    refine (pick_any c _ 4 _ HD2.out.cur (by omega) (by omega) (by omega)).mono ?_
    rintro e w3 ⟨s, s0, s1, rfl, hcc, huu⟩
    have HD3 := hid (HD2.out.step hc huu hcc)
    clear HD2 hcc huu
    have hg3 := (HD3.out.hst.row.lt g rfl).2
    have hgb := (HD3.out.hst.row.lt g rfl).1
    have cell : ∀ j, j < 4 → w3.cell? ⟨g, i * 4 + j, none⟩ = (tC ts[i])[j]? := fun j hj => by
      have hf := flatT ts i hi j hj
      have hl : j < (tC ts[i]).length := by simpa [tC] using hj
      rw [List.getElem?_eq_getElem hl] at hf ⊢
      exact own_cell HD3.out.hst.row hf
    have c0 : w3.cell? ⟨g, i * 4, none⟩ = some (.int .i64 ts[i].2.2.bgn) := cell 0 (by omega)
    have c1 : w3.cell? ⟨g, i * 4 + 1, none⟩ = some (.int .i64 ts[i].2.2.com) := cell 1 (by omega)
    have c2 : w3.cell? ⟨g, i * 4 + 2, none⟩ = some ts[i].1 := cell 2 (by omega)
    have c3 : w3.cell? ⟨g, i * 4 + 3, none⟩ = some ts[i].2.1 := cell 3 (by omega)
    have fz : ∀ j, w3.frozen? ⟨g, j, none⟩ = false := fun j => HD3.out.hst.row.frozenAt j
    have f0 := fz (i * 4)
    have f1 := fz (i * 4 + 1)
    have f2 := fz (i * 4 + 2)
    have f3 := fz (i * 4 + 3)
    have HN := HD3.out.hst.nest ts[i] (List.getElem_mem hi)
    have HSI := HSM.out.2 ts[i] (List.getElem_mem hi)
    clear cell fz
    have hs : s = 0 ∨ s = 1 ∨ s = 2 ∨ s = 3 := by omega
    rcases hs with rfl | rfl | rfl | rfl
    · have hcd : IsCur w3.drew c (A + 2 + 2) := HD3.out.cur.below (Below.refl w3.heap.size w3).drew HD3.out.cur.lt
      have HSS := hid (fun b => small_set (i := i) (x := (ts[i].1, ts[i].2.1, ⟨b, ts[i].2.2.com, ts[i].2.2.reads, ts[i].2.2.writes⟩)) HSM.out ⟨by simp only; omega, by simp only; omega⟩)
      generalize hcom : ts[i].2.2.com = com at c1
      have HCOM := hid hcom
      clear hcom
      go_wp2
      go_region_with (go_at_call 45; refine (pick_any c (A + 2 + 2) 2 w3.drew hcd (by omega) (by omega) (by omega)).mono ?_; rintro e w4 ⟨y, y0, y1, rfl, hcc, huu⟩; have hu4 : Upd c w3 w4 := (Upd.of_below (Below.refl w3.heap.size w3).drew).trans huu; have HD4 := hid (HD3.out.step hc hu4 hcc); have k0 : w4.cell? ⟨g, i * 4, none⟩ = some (.int .i64 ts[i].2.2.bgn) := (hu4.cell (p := ⟨g, i * 4, none⟩) hg3 (by show g ≠ c; omega)).trans c0; have k1 : w4.cell? ⟨g, i * 4 + 1, none⟩ = some (.int .i64 com) := (hu4.cell (p := ⟨g, i * 4 + 1, none⟩) hg3 (by show g ≠ c; omega)).trans c1; have j0 : w4.frozen? ⟨g, i * 4, none⟩ = false := (hu4.frozen (p := ⟨g, i * 4, none⟩) hg3 (by show g ≠ c; omega)).trans f0; have hg4 := (HD4.out.hst.row.lt g rfl).2; clear hcc huu hu4)
      all_goals
        have HF : Hid (HstN w0.heap.size (w4.setCell ⟨g, i * 4, none⟩ (.int .i64 (IntKind.i64.wrap (com - y)))) (.slice (some ⟨g, 0, none⟩) ts.length oc) (ts.set i (ts[i].1, ts[i].2.1, ⟨IntKind.i64.wrap (com - y), ts[i].2.2.com, ts[i].2.2.reads, ts[i].2.2.writes⟩))) := HD4.out.hst.n.set (j := 0) hi (by omega) rfl (HD4.out.hst.nest ts[i] (List.getElem_mem hi)).1 (HD4.out.hst.nest ts[i] (List.getElem_mem hi)).2
        have HUF : Hid (Upd c w0 (w4.setCell ⟨g, i * 4, none⟩ (.int .i64 (IntKind.i64.wrap (com - y))))) := (⟨by exact HD4.out.upd.os, by exact HD4.out.upd.tape, by exact HD4.out.upd.output, by simpa [World.setCell] using HD4.out.upd.size, fun k hk hk2 => (Below.heap_setCell _ _ _ _ (by simp; omega)).trans (HD4.out.upd.block k hk hk2)⟩ : Upd c w0 (w4.setCell ⟨g, i * 4, none⟩ (.int .i64 (IntKind.i64.wrap (com - y)))))
        clear c0 c1 c2 c3 f0 f1 f2 f3 k0 k1 j0 HD3
        go_wp2
        go_ret
        exact ⟨_, _, rfl, HF.out, (HSS.out _).1, (HSS.out _).2, HUF.out⟩
    · go_wp2_with (go_at_call 45; fail)
      refine (pick_any c _ 4 _ HD3.out.cur (by omega) (by omega) (by omega)).mono ?_
      rintro e w4 ⟨y, y0, y1, rfl, hcc, huu⟩
      have HD4 := hid (HD3.out.step hc huu hcc)
      have k1 : w4.cell? ⟨g, i * 4 + 1, none⟩ = some (.int .i64 ts[i].2.2.com) := (huu.cell (p := ⟨g, i * 4 + 1, none⟩) hg3 (by show g ≠ c; omega)).trans c1
      have j1 : w4.frozen? ⟨g, i * 4 + 1, none⟩ = false := (huu.frozen (p := ⟨g, i * 4 + 1, none⟩) hg3 (by show g ≠ c; omega)).trans f1
      have hg4 := (HD4.out.hst.row.lt g rfl).2
      have HF : Hid (HstN w0.heap.size (w4.setCell ⟨g, i * 4 + 1, none⟩ (.int .i64 y)) (.slice (some ⟨g, 0, none⟩) ts.length oc) (ts.set i (ts[i].1, ts[i].2.1, ⟨ts[i].2.2.bgn, y, ts[i].2.2.reads, ts[i].2.2.writes⟩))) := HD4.out.hst.n.set hi (by omega) rfl (HD4.out.hst.nest ts[i] (List.getElem_mem hi)).1 (HD4.out.hst.nest ts[i] (List.getElem_mem hi)).2
      have HUF : Hid (Upd c w0 (w4.setCell ⟨g, i * 4 + 1, none⟩ (.int .i64 y))) := (⟨by exact HD4.out.upd.os, by exact HD4.out.upd.tape, by exact HD4.out.upd.output, by simpa [World.setCell] using HD4.out.upd.size, fun k hk hk2 => (Below.heap_setCell _ _ _ _ (by simp; omega)).trans (HD4.out.upd.block k hk hk2)⟩ : Upd c w0 (w4.setCell ⟨g, i * 4 + 1, none⟩ (.int .i64 y)))
      have HSS := hid (small_set (i := i) (x := (ts[i].1, ts[i].2.1, ⟨ts[i].2.2.bgn, y, ts[i].2.2.reads, ts[i].2.2.writes⟩)) HSM.out ⟨by simp only; omega, by simp only; omega⟩)
      clear c0 c1 c2 c3 f0 f1 f2 f3 hcc huu HD3
      go_wp2
      go_ret
      exact ⟨_, _, rfl, HF.out, HSS.out.1, HSS.out.2, HUF.out⟩
    · have hcd : IsCur w3.drew c (A + 2 + 2) := HD3.out.cur.below (Below.refl w3.heap.size w3).drew HD3.out.cur.lt
      obtain ⟨i0, hi0, hz0, hz1, hz2⟩ := info_parts info_int
      have HSS := hid (fun v z => small_set (i := i) (x := (v, ts[i].2.1, ⟨ts[i].2.2.bgn, ts[i].2.2.com, ts[i].2.2.reads ++ [z], ts[i].2.2.writes⟩)) HSM.out ⟨by simp only [List.length_append, List.length_cons, List.length_nil]; omega, by simp only [List.length_append, List.length_cons, List.length_nil]; omega⟩)
      obtain ⟨ra, rc, hra⟩ := HN.1.form
      have hrl : ts[i].2.2.reads.length ≤ 5 := by omega
      generalize hnr : ts[i].2.2.reads.length = nr at hra hrl
      rw [hra] at c2
      have HRA := hid hra
      have HNR := hid hnr
      clear hra hnr HN HSI
      go_wp2
      go_region_law (first
        | (refine step_append_own rfl (.tmp 49) (.tmp 53) 23 rfl w0.heap.size 3 i0 (.int .i64 0) 1 8 Try.underlying23 hi0 hz0 hz1 hz2 rfl (by decide) (.slice ra nr rc) nr (ts[i].2.2.reads.map (Value.int .i64)) rfl HIO.out ⟨w4.heap.size, 0, none⟩ 1 1 [.int .i64 z] rfl rfl HON.out (by intro u hu; simp at hu; subst hu; rfl) (by unfold maxLen; omega) (by omega) hsA ?_
           intro v7 w7 hown hgrow hiff
           clear hiff
           have HG := hid (HGR.out v7 w7 hown hgrow)
           obtain ⟨a7, c7, hv7⟩ := own_form hown
           subst hv7
           have m2 := HG.out.1
           have n2 := HG.out.2.1
           clear hown hgrow HON HIO HGR)
        | (go_simp
           (refine (pick_any c (A + 2 + 2) 34 w3.drew hcd (by omega) (by omega) (by omega)).mono ?_; rintro e w4 ⟨y, y0, y1, rfl, hcc, huu⟩; have hu4 : Upd c w3 w4 := (Upd.of_below (Below.refl w3.heap.size w3).drew).trans huu; obtain ⟨z, hz⟩ : ∃ z, IntKind.i64.wrap (y - 1) = z := ⟨_, rfl⟩; have HD4 := hid (HD3.out.step hc hu4 hcc); have HDA := hid (HD4.out.alloc (.cells #[.int .i64 z] 3)); have HON := hid (one_new w4 z); have hsA : w0.heap.size ≤ (w4.alloc (.cells #[.int .i64 z] 3)).heap.size := HDA.out.upd.size; have HIO : Hid ((w4.alloc (.cells #[.int .i64 z] 3)).ownsRow w0.heap.size 3 1 (.slice ra nr rc) nr (ts[i].2.2.reads.map (Value.int .i64))) := (by have := (HDA.out.hst.nest ts[i] (List.getElem_mem hi)).1; unfold IOw at this; rw [HRA.out, HNR.out] at this; exact this : (w4.alloc (.cells #[.int .i64 z] 3)).ownsRow w0.heap.size 3 1 (.slice ra nr rc) nr (ts[i].2.2.reads.map (Value.int .i64))); have HGR := hid (fun (v7 : Value) (w7 : World) (ho : w7.ownsRow w0.heap.size 3 1 v7 (nr + 1) (ts[i].2.2.reads.map (Value.int .i64) ++ [.int .i64 z])) (hgw : (w4.alloc (.cells #[.int .i64 z] 3)).grownBy w7 (Value.slice ra nr rc).ownBlock) => grownR (z := z) HDA.out hi (by rw [HRA.out]; exact hgw) (by rw [HNR.out]; exact ho)); skip; have k2 : w4.cell? ⟨g, i * 4 + 2, none⟩ = some (.slice ra nr rc) := (hu4.cell (p := ⟨g, i * 4 + 2, none⟩) hg3 (by show g ≠ c; omega)).trans c2; have hg4 := (HD4.out.hst.row.lt g rfl).2; clear hcc huu hu4)))
      all_goals
        clear c0 c1 c2 c3 f0 f1 f2 f3 k2 m2 n2 HD3 HD4 HDA
        go_wp2
        go_ret
        exact ⟨_, _, rfl, HG.out.2.2.1, (HSS.out _ _).1, (HSS.out _ _).2, HG.out.2.2.2⟩
    · have hcd : IsCur w3.drew c (A + 2 + 2) := HD3.out.cur.below (Below.refl w3.heap.size w3).drew HD3.out.cur.lt
      obtain ⟨i0, hi0, hz0, hz1, hz2⟩ := info_parts info_int
      have HSS := hid (fun v z => small_set (i := i) (x := (ts[i].1, v, ⟨ts[i].2.2.bgn, ts[i].2.2.com, ts[i].2.2.reads, ts[i].2.2.writes ++ [z]⟩)) HSM.out ⟨by simp only [List.length_append, List.length_cons, List.length_nil]; omega, by simp only [List.length_append, List.length_cons, List.length_nil]; omega⟩)
      obtain ⟨ra, rc, hra⟩ := HN.2.form
      have hrl : ts[i].2.2.writes.length ≤ 5 := by omega
      generalize hnr : ts[i].2.2.writes.length = nr at hra hrl
      rw [hra] at c3
      have HRA := hid hra
      have HNR := hid hnr
      clear hra hnr HN HSI
      go_wp2
      go_region_law (first
        | (refine step_append_own rfl (.tmp 65) (.tmp 69) 23 rfl w0.heap.size 3 i0 (.int .i64 0) 1 8 Try.underlying23 hi0 hz0 hz1 hz2 rfl (by decide) (.slice ra nr rc) nr (ts[i].2.2.writes.map (Value.int .i64)) rfl HIO.out ⟨w4.heap.size, 0, none⟩ 1 1 [.int .i64 z] rfl rfl HON.out (by intro u hu; simp at hu; subst hu; rfl) (by unfold maxLen; omega) (by omega) hsA ?_
           intro v7 w7 hown hgrow hiff
           clear hiff
           have HG := hid (HGR.out v7 w7 hown hgrow)
           obtain ⟨a7, c7, hv7⟩ := own_form hown
           subst hv7
           have m2 := HG.out.1
           have n2 := HG.out.2.1
           clear hown hgrow HON HIO HGR)
        | (go_simp
           (refine (pick_any c (A + 2 + 2) 34 w3.drew hcd (by omega) (by omega) (by omega)).mono ?_; rintro e w4 ⟨y, y0, y1, rfl, hcc, huu⟩; have hu4 : Upd c w3 w4 := (Upd.of_below (Below.refl w3.heap.size w3).drew).trans huu; obtain ⟨z, hz⟩ : ∃ z, IntKind.i64.wrap (y - 1) = z := ⟨_, rfl⟩; have HD4 := hid (HD3.out.step hc hu4 hcc); have HDA := hid (HD4.out.alloc (.cells #[.int .i64 z] 3)); have HON := hid (one_new w4 z); have hsA : w0.heap.size ≤ (w4.alloc (.cells #[.int .i64 z] 3)).heap.size := HDA.out.upd.size; have HIO : Hid ((w4.alloc (.cells #[.int .i64 z] 3)).ownsRow w0.heap.size 3 1 (.slice ra nr rc) nr (ts[i].2.2.writes.map (Value.int .i64))) := (by have := (HDA.out.hst.nest ts[i] (List.getElem_mem hi)).2; unfold IOw at this; rw [HRA.out, HNR.out] at this; exact this : (w4.alloc (.cells #[.int .i64 z] 3)).ownsRow w0.heap.size 3 1 (.slice ra nr rc) nr (ts[i].2.2.writes.map (Value.int .i64))); have HGR := hid (fun (v7 : Value) (w7 : World) (ho : w7.ownsRow w0.heap.size 3 1 v7 (nr + 1) (ts[i].2.2.writes.map (Value.int .i64) ++ [.int .i64 z])) (hgw : (w4.alloc (.cells #[.int .i64 z] 3)).grownBy w7 (Value.slice ra nr rc).ownBlock) => grownW (z := z) HDA.out hi (by rw [HRA.out]; exact hgw) (by rw [HNR.out]; exact ho)); skip; have k2 : w4.cell? ⟨g, i * 4 + 3, none⟩ = some (.slice ra nr rc) := (hu4.cell (p := ⟨g, i * 4 + 3, none⟩) hg3 (by show g ≠ c; omega)).trans c3; have hg4 := (HD4.out.hst.row.lt g rfl).2; clear hcc huu hu4)))
      all_goals
        clear c0 c1 c2 c3 f0 f1 f2 f3 k2 m2 n2 HD3 HD4 HDA
        go_wp2
        go_ret
        exact ⟨_, _, rfl, HG.out.2.2.1, (HSS.out _ _).1, (HSS.out _ _).2, HG.out.2.2.2⟩
end Go.Proofs.Ytjfgojlnpbehfaa
