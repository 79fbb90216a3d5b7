import Derived.Test.YtbndliedcanmgaaRDP0
namespace Go.Proofs.YtbndliedcanmgaaR
open Go.ChangeShapes Go.WideShapes Go.ChangeAt Go.RowKit
set_option linter.unusedVariables false
set_option linter.unusedSimpArgs false
set_option maxRecDepth 100000
def slLen : Value → Nat
  | .slice _ n _ => n
  | _ => 0
theorem slLen_slice (a : Option Addr) (n c : Nat) : slLen (.slice a n c) = n := rfl
/-- One operation more is put behind a list. -/
theorem op_new (W : World) (kd pg : Int) : ∀ (j : Nat) (u : Value), (opC ⟨kd, pg⟩)[j]? = some u → (W.alloc (.cells #[.int .i64 kd, .int .i64 pg] 26)).cell? ((⟨W.heap.size, 0, none⟩ : Addr).add j) = some u := fun j u hj => by
  have hl : j < 2 := by
    by_cases h : j < 2
    · exact h
    · rw [List.getElem?_eq_none (by simp [opC]; omega)] at hj; cases hj
  rw [Addr.add_lit, Nat.zero_add, World.cell?_alloc_at _ _ _ _ (by simp)]
  have : j = 0 ∨ j = 1 := by omega
  rcases this with rfl | rfl <;> exact hj
/-- The draw so far: a cursor, a row of operations, all older blocks as they were. -/
structure DrS (c : Nat) (w W : World) (A : Int) (v : Value) (ds : List POp) : Prop where
  cur : IsCur W c A
  row : OpR (c + 1) W v ds
  bel : Below w.heap.size w W
  sz : c < W.heap.size
theorem DrS.upd {c : Nat} {w W W' : World} {A B : Int} {v : Value} {ds : List POp} (h : DrS c w W A v ds) (hc : w.heap.size ≤ c) (u : Upd c W W') (hi : IsCur W' c B) : DrS c w W' B v ds :=
  ⟨hi, h.row.upd u (Nat.lt_succ_self _), ⟨u.os.trans h.bel.os, u.tape.trans h.bel.tape, u.output.trans h.bel.output, Nat.le_trans h.bel.size u.size, fun k hk => (u.block k (Nat.lt_of_lt_of_le hk h.bel.size) (by omega)).trans (h.bel.block k hk)⟩, Nat.lt_of_lt_of_le h.sz u.size⟩
theorem DrS.alloc {c : Nat} {w W : World} {A : Int} {v : Value} {ds : List POp} (h : DrS c w W A v ds) (o : Obj) : DrS c w (W.alloc o) A v ds :=
  ⟨h.cur.below (below_alloc _ _) h.sz, h.row.below (below_alloc _ _), h.bel.alloc h.bel.size _, by have := h.sz; simp; omega⟩
theorem DrS.grown {c : Nat} {w W W' : World} {A : Int} {v v' : Value} {ds : List POp} {o : POp} (h : DrS c w W A v ds) (hc : w.heap.size ≤ c) (hg : W.grownBy W' v.ownBlock) (ho : W'.ownsRow (c + 1) 26 2 v' (ds.length + 1) (ds.flatMap opC ++ opC o)) : DrS c w W' A v' (ds ++ [o]) :=
  have hb : ∀ k, k ≤ c → W'.heap[k]? = W.heap[k]? := fun k hk => hg.block k (Nat.lt_of_le_of_lt hk h.sz) (fun e => by have := (h.row.lt k e.symm).1; omega)
  ⟨h.cur.same hb (Nat.lt_of_lt_of_le h.sz hg.size), OpR.push ho, ⟨hg.os.trans h.bel.os, hg.tape.trans h.bel.tape, hg.output.trans h.bel.output, Nat.le_trans h.bel.size hg.size, fun k hk => (hb k (by omega)).trans (h.bel.block k hk)⟩, Nat.lt_of_lt_of_le h.sz hg.size⟩
theorem DrS.mono {c : Nat} {w W : World} {A B : Int} {v : Value} {ds : List POp} (h : DrS c w W A v ds) (hAB : A ≤ B) : DrS c w W B v ds := ⟨h.cur.mono hAB, h.row, h.bel, h.sz⟩
def DrawP (w : World) (e : Ending) (w' : World) : Prop := ∃ (v : Value) (ds : List POp), e = .returned v ∧ OpR w.heap.size w' v ds ∧ ds.length ≤ 4001 ∧ Below w.heap.size w w'
theorem DrS.drawn {c : Nat} {w W : World} {A : Int} {v : Value} {ds : List POp} (h : DrS c w W A v ds) (hc : w.heap.size ≤ c) (hl : ds.length ≤ 4001) : DrawP w (.returned v) W := ⟨v, ds, rfl, own_base h.row (by omega), hl, h.bel⟩
set_option maxHeartbeats 8000000 in
theorem draw_any (v0 : Option Addr) (len cap : Nat) (w : World) (hlen : len ≤ 1048576) (hby : Bytes w w.heap.size v0 len) :
    Calls Try.prog 5 #[.slice v0 len cap] w fun e w' => DrawP w e w' := by
  obtain ⟨i0, hi0, hz0, hz1, hz2⟩ := info_parts infoOp
  have HC0 : Hid (IsCur (w.alloc (.cells #[.slice v0 len cap, .int .i64 0, .int .i64 0, .int .i64 0] 45)) w.heap.size 0) := (⟨v0, len, cap, 0, 0, 0, ⟨by simp [go_sem], by simp [go_sem], by simp [go_sem], by simp [go_sem], by simp [go_sem], by simp [go_sem], by omega, by omega, by omega, by omega, hlen, by simp, hby.same (fun k hk => (below_alloc w _).block k hk)⟩⟩ : IsCur (w.alloc (.cells #[.slice v0 len cap, .int .i64 0, .int .i64 0, .int .i64 0] 45)) w.heap.size 0)
  have hb1 : Below w.heap.size w (w.alloc (.cells #[.slice v0 len cap, .int .i64 0, .int .i64 0, .int .i64 0] 45)) := below_alloc _ _
  clear hby
  go_enter Try.func5, Try.ntmps5
  go_wp2_with (go_at_call 15; fail)
  refine (mode_any w.heap.size 0 _ HC0.out (by omega)).mono ?_
  rintro e w1 ⟨mo, mo0, mo1, rfl, hc1, hu1⟩
  obtain ⟨c, hce⟩ : ∃ z, z = w.heap.size := ⟨_, rfl⟩
  have hsz1 : c < w1.heap.size := by rw [hce]; exact hc1.lt
  have hbw1 : Below w.heap.size w w1 := Upd.below hb1 hu1 (Nat.le_refl _)
  have hcw : w.heap.size ≤ c := by omega
  rw [← hce] at hc1 ⊢
  have HD1 : Hid (DrS c w (w1.alloc (.cells #[] 26)) 4 (.slice (some ⟨w1.heap.size, 0, none⟩) 0 0) []) := (⟨(hc1.below (below_alloc _ _) hsz1).mono (by omega), OpR.made w1 (by omega), hbw1.alloc hbw1.size _, by simp; omega⟩ : DrS c w (w1.alloc (.cells #[] 26)) 4 (.slice (some ⟨w1.heap.size, 0, none⟩) 0 0) [])
  clear HC0 hb1 hu1 hc1 hbw1 hce
  go_wp2_with (go_at_call 16; fail)
  refine (pick_any c 4 60 _ HD1.out.cur (by omega) (by omega) (by omega)).mono ?_
  rintro e w2 ⟨r, r0, r1, rfl, hc2, hu2⟩
  have HD2 := hid ((HD1.out.upd hcw hu2 (hc2.mono (show (4 + 2 : Int) ≤ 400 - 6 * r by omega))))
  clear HD1 hc2 hu2 hsz1
  obtain ⟨rn, rfl⟩ : ∃ z : Nat, r = z := ⟨r.toNat, by omega⟩
  generalize some (⟨w1.heap.size, 0, none⟩ : Addr) = oa0 at *
  clear r0
  go_wp2
  go_loopw [5, 6] (fun ov kv wx => ∃ (k : Nat) (ds : List POp) (oa : Option Addr) (oc : Nat), k ≤ 59 ∧ kv = .int .i64 (k : Int) ∧ ov = .slice oa ds.length oc ∧ ds.length + k ≤ 59 ∧ Hid (DrS c w wx (400 - 6 * (k : Int)) (.slice oa ds.length oc) ds)) (fun _ kv _ => (intOf kv).toNat)
  case atStart => exact ⟨rn, [], oa0, 0, by omega, rfl, rfl, by simp; omega, HD2⟩
  case round =>
    clear HD2
    obtain ⟨k, ds, oa, oc, hk, rfl, rfl, hdl, HD⟩ := hrel
    by_cases hk0 : 0 < k
    · have hki : (0 : Int) < k := by omega
      have hwk : IntKind.i64.wrap ((k : Int) - 1) = (k : Int) - 1 := by simp only [IntKind.wrap_i64]; omega
      go_wp2_with (go_at_call 16; fail)
      refine (pick_any c _ 3 _ HD.out.cur (by omega) (by omega) (by omega)).mono ?_
      rintro e w3 ⟨a, a0, a1, rfl, hcc, huu⟩
      have HD3 := hid (HD.out.upd hcw huu hcc)
      clear hcc huu HD
      have hwa : IntKind.i64.wrap (1 + a) = 1 + a := by simp only [IntKind.wrap_i64]; omega
      go_wp2_with (go_at_call 16; fail)
      refine (pick_any c _ 9 _ HD3.out.cur (by omega) (by omega) (by omega)).mono ?_
      rintro e w4 ⟨b, b0, b1, rfl, hcc, huu⟩
      have HD4 := hid (HD3.out.upd hcw huu hcc)
      clear hcc huu HD3
      by_cases hb8 : b = 8
      · have hb8' : (b == 8) = true := by simpa using hb8
        clear hb8
        go_wp2_with (go_at_call 16; fail)
        refine (pick_any c _ 14 _ HD4.out.cur (by omega) (by omega) (by omega)).mono ?_
        rintro e w5 ⟨p, p0, p1, rfl, hcc, huu⟩
        have HD5 := hid (HD4.out.upd hcw huu hcc)
        clear hcc huu HD4
        have HDA := hid (HD5.out.alloc (.cells #[.int .i64 4, .int .i64 p] 26))
        have HN := hid (op_new w5 4 p)
        have hsA : c + 1 ≤ (w5.alloc (.cells #[.int .i64 4, .int .i64 p] 26)).heap.size := by have := HDA.out.sz; omega
        clear HD5
        go_wp2_with (at_builtin
                     refine wpList_append_own _ rfl (.tmp 26) (.tmp 31) 23 rfl (c + 1) 26 i0 _ 2 16 Try.underlying23 hi0 hz0 hz1 hz2 rfl (by decide) _ _ _ rfl HDA.out.row ⟨w5.heap.size, 0, none⟩ 1 1 (opC ⟨4, p⟩) rfl rfl HN.out (by intro u hu; simp [opC] at hu; rcases hu with rfl | rfl <;> rfl) (by unfold maxLen; omega) (by omega) hsA ?_
                     intro v7 w7 hown hgrow hiff
                     clear hiff
                     have HD7 := hid (HDA.out.grown hcw hgrow hown)
                     obtain ⟨oa7, oc7, hv7⟩ := HD7.out.row.form
                     subst hv7
                     clear hown hgrow HDA HN)
        go_roundw
        case rel => exact ⟨k - 1, ds ++ [⟨4, p⟩], oa7, oc7, by omega, (by congr 1; omega), (by simp), by simp; omega, hid (HD7.out.mono (by omega))⟩
        case measure => simp [intOf]; omega
      · have hb8' : (b == 8) = false := by simpa using hb8
        clear hb8
        go_wp2_with (go_at_call 16; fail)
        refine (pick_any c _ 14 _ HD4.out.cur (by omega) (by omega) (by omega)).mono ?_
        rintro e w5 ⟨p, p0, p1, rfl, hcc, huu⟩
        have HD5 := hid (HD4.out.upd hcw huu hcc)
        clear hcc huu HD4
        have HDA := hid (HD5.out.alloc (.cells #[.int .i64 (1 + a), .int .i64 p] 26))
        have HN := hid (op_new w5 (1 + a) p)
        have hsA : c + 1 ≤ (w5.alloc (.cells #[.int .i64 (1 + a), .int .i64 p] 26)).heap.size := by have := HDA.out.sz; omega
        clear HD5
        go_wp2_with (at_builtin
                     refine wpList_append_own _ rfl (.tmp 26) (.tmp 31) 23 rfl (c + 1) 26 i0 _ 2 16 Try.underlying23 hi0 hz0 hz1 hz2 rfl (by decide) _ _ _ rfl HDA.out.row ⟨w5.heap.size, 0, none⟩ 1 1 (opC ⟨(1 + a), p⟩) rfl rfl HN.out (by intro u hu; simp [opC] at hu; rcases hu with rfl | rfl <;> rfl) (by unfold maxLen; omega) (by omega) hsA ?_
                     intro v7 w7 hown hgrow hiff
                     clear hiff
                     have HD7 := hid (HDA.out.grown hcw hgrow hown)
                     obtain ⟨oa7, oc7, hv7⟩ := HD7.out.row.form
                     subst hv7
                     clear hown hgrow HDA HN)
        go_roundw
        case rel => exact ⟨k - 1, ds ++ [⟨1 + a, p⟩], oa7, oc7, by omega, (by congr 1; omega), (by simp), by simp; omega, hid (HD7.out.mono (by omega))⟩
        case measure => simp [intOf]; omega
    · have hki : ¬ (0 : Int) < k := by omega
      have hke : k = 0 := by omega
      subst hke
      have hm : mo = 0 ∨ mo = 1 ∨ mo = 2 := by omega
      rcases hm with rfl | rfl | rfl
      · go_wp2
        go_ret
        exact HD.out.drawn hcw (by omega)
      · go_wp2_with (go_at_call 16; fail)
        refine (pick_any c _ 7 _ HD.out.cur (by omega) (by omega) (by omega)).mono ?_
        rintro e w3 ⟨a, a0, a1, rfl, hcc, huu⟩
        have HD3 := hid (HD.out.upd hcw huu hcc)
        clear hcc huu HD
        have hwa : IntKind.i64.wrap (a - 1) = a - 1 := by simp only [IntKind.wrap_i64]; omega
        have HD4 := hid (HD3.out.alloc (.cells #[.int .i64 (-1), .int .i64 300, .int .i64 299, .int .i64 3] 3))
        have hLs : w3.heap.size < (w3.alloc (.cells #[.int .i64 (-1), .int .i64 300, .int .i64 299, .int .i64 3] 3)).heap.size := by simp
        have hcs3 : c < w3.heap.size := HD3.out.sz
        have hLc : ∀ j, (w3.alloc (.cells #[.int .i64 (-1), .int .i64 300, .int .i64 299, .int .i64 3] 3)).cell? ⟨w3.heap.size, j, none⟩ = #[Value.int .i64 (-1), .int .i64 300, .int .i64 299, .int .i64 3][j]? := fun j => World.cell?_alloc_at _ _ _ _ rfl
        have HLC := hid hLc
        clear HD3 hLc
        go_wp2_with (go_at_call 16; fail)
        refine (pick_any c _ 4 _ HD4.out.cur (by omega) (by omega) (by omega)).mono ?_
        rintro e w5 ⟨p, p0, p1, rfl, hcc, huu⟩
        have hq : ∃ pg : Int, w5.cell? ⟨w3.heap.size, p.toNat, none⟩ = some (.int .i64 pg) := by
          rw [huu.cell (p := ⟨w3.heap.size, p.toNat, none⟩) hLs (by show w3.heap.size ≠ c; omega), HLC.out]
          have : p.toNat = 0 ∨ p.toNat = 1 ∨ p.toNat = 2 ∨ p.toNat = 3 := by omega
          rcases this with h | h | h | h <;> rw [h] <;> exact ⟨_, rfl⟩
        obtain ⟨pg, hpg⟩ := hq
        have HD5 := hid (HD4.out.upd hcw huu hcc)
        obtain ⟨pn, rfl⟩ : ∃ z : Nat, p = z := ⟨p.toNat, by omega⟩
        rw [show ((pn : Int)).toNat = pn by omega] at hpg
        have hp4 : (pn : Int) < 4 := p1
        have hLs5 : w3.heap.size < w5.heap.size := Nat.lt_of_lt_of_le hLs huu.size
        clear hcc huu HD4 HLC hLs
        have HDA := hid (HD5.out.alloc (.cells #[.int .i64 (a - 1), .int .i64 pg] 26))
        have HN := hid (op_new w5 (a - 1) pg)
        have hsA : c + 1 ≤ (w5.alloc (.cells #[.int .i64 (a - 1), .int .i64 pg] 26)).heap.size := by have := HDA.out.sz; omega
        clear HD5
        go_wp2_with (at_builtin
                     refine wpList_append_own _ rfl (.tmp 35) (.tmp 45) 23 rfl (c + 1) 26 i0 _ 2 16 Try.underlying23 hi0 hz0 hz1 hz2 rfl (by decide) _ _ _ rfl HDA.out.row ⟨w5.heap.size, 0, none⟩ 1 1 (opC ⟨(a - 1), pg⟩) rfl rfl HN.out (by intro u hu; simp [opC] at hu; rcases hu with rfl | rfl <;> rfl) (by unfold maxLen; omega) (by omega) hsA ?_
                     intro v7 w7 hown hgrow hiff
                     clear hiff
                     have HD7 := hid (HDA.out.grown hcw hgrow hown)
                     obtain ⟨oa7, oc7, hv7⟩ := HD7.out.row.form
                     subst hv7
                     clear hown hgrow HDA HN)
        go_ret
        have hfin := HD7.out.drawn hcw (by simp; omega)
        rw [List.length_append] at hfin
        exact hfin
      · have HD0 := hid (HD.out.mono (show (400 - 6 * ((0 : Nat) : Int)) ≤ 1000 + 2 * (ds.length : Int) by omega))
        clear HD
        go_wp2
        go_loopw [5] (fun ov wx => ∃ (ds : List POp) (oa : Option Addr) (oc : Nat), ov = .slice oa ds.length oc ∧ ds.length ≤ 4001 ∧ Hid (DrS c w wx (1000 + 2 * (ds.length : Int)) (.slice oa ds.length oc) ds)) (fun ov _ => 4001 - slLen ov)
        case atStart => exact ⟨ds, oa, oc, rfl, by omega, HD0⟩
        case round =>
          clear HD0
          obtain ⟨ds1, oa1, oc1, rfl, hl1, HD⟩ := hrel
          go_wp2_with (go_at_call 16; fail)
          refine (pick_any c _ 2 _ HD.out.cur (by omega) (by omega) (by omega)).mono ?_
          rintro e w3 ⟨a, a0, a1, rfl, hcc, huu⟩
          have HD3 := hid (HD.out.upd hcw huu hcc)
          clear hcc huu HD
          have hwa : IntKind.i64.wrap (4000 + a) = 4000 + a := by simp only [IntKind.wrap_i64]; omega
          by_cases hlt : (ds1.length : Int) < 4000 + a
          · have htm : ((ds1.length : Int)).tmod 11 = (ds1.length : Int) % 11 := Int.tmod_eq_emod_of_nonneg (by omega)
            have HDA := hid (HD3.out.alloc (.cells #[.int .i64 1, .int .i64 ((ds1.length : Int) % 11)] 26))
            have HN := hid (op_new w3 1 ((ds1.length : Int) % 11))
            have hsA : c + 1 ≤ (w3.alloc (.cells #[.int .i64 1, .int .i64 ((ds1.length : Int) % 11)] 26)).heap.size := by have := HDA.out.sz; omega
            clear HD3
            go_wp2_with (at_builtin
                         refine wpList_append_own _ rfl (.tmp 55) (.tmp 60) 23 rfl (c + 1) 26 i0 _ 2 16 Try.underlying23 hi0 hz0 hz1 hz2 rfl (by decide) _ _ _ rfl HDA.out.row ⟨w3.heap.size, 0, none⟩ 1 1 (opC ⟨1, ((ds1.length : Int) % 11)⟩) rfl rfl HN.out (by intro u hu; simp [opC] at hu; rcases hu with rfl | rfl <;> rfl) (by unfold maxLen; omega) (by omega) hsA ?_
                         intro v7 w7 hown hgrow hiff
                         clear hiff
                         have HD7 := hid (HDA.out.grown hcw hgrow hown)
                         obtain ⟨oa7, oc7, hv7⟩ := HD7.out.row.form
                         subst hv7
                         clear hown hgrow HDA HN)
            go_roundw
            case rel => exact ⟨ds1 ++ [⟨1, (ds1.length : Int) % 11⟩], oa7, oc7, (by simp), by simp; omega, hid (HD7.out.mono (by simp; omega))⟩
            case measure => simp [slLen]; omega
          · go_wp2
            go_ret
            exact HD3.out.drawn hcw (by omega)
end Go.Proofs.YtbndliedcanmgaaR
