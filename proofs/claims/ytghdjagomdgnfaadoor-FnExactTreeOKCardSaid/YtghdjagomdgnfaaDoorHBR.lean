import Derived.Test.YtghdjagomdgnfaaDoorHBQ
namespace Go.Proofs.YtghdjagomdgnfaaDoor
open Go.ChangeShapes Go.WideShapes Go.ChangeAt Go.RowKit
set_option linter.unusedVariables false
set_option linter.unusedSimpArgs false
set_option maxRecDepth 100000
open K
open Go.Shelf
set_option maxHeartbeats 8000000 in
theorem treeOK_spec (HC : NCalls) (ts : List Nd) (na : Option Addr) (cap : Nat) (w : World) (hn : ts.length ≤ 1048576) (hS : ∀ j (h : j < ts.length), Sml ts[j]) (hI : ∀ j (h : j < ts.length), ts[j].n ≤ 9223372036854775807 ∧ ts[j].m ≤ 9223372036854775807) (hR : RNK w (.slice na ts.length cap) ts) :
    Calls Tryd.prog 11 #[.agg #[.slice na ts.length cap]] w fun e w' => e = .returned (.bool (treeI ts)) ∧ Below w.heap.size w w' := by
  have bw0 := below_alloc w (.cells #[.slice na ts.length cap] 31)
  by_cases h1 : (ts.length : Int) < 1
  · have HE : Hid (treeI ts = false) := (by unfold treeI; rw [decide_eq_false (show ¬ 1 ≤ (ts.length : Int) by omega)]; simp : treeI ts = false)
    clear hR
    go_enter Tryd.func11, Tryd.ntmps11
    go_wp2
    go_ret
    exact ⟨ret_b HE.out.symm, bw0⟩
  by_cases h2 : (6000 : Int) < ts.length
  · have HE : Hid (treeI ts = false) := (by unfold treeI; rw [decide_eq_false (show ¬ (ts.length : Int) ≤ 6000 by omega)]; simp : treeI ts = false)
    clear hR
    go_enter Tryd.func11, Tryd.ntmps11
    go_wp2
    go_ret
    exact ⟨ret_b HE.out.symm, bw0⟩
  obtain ⟨a', c', he, hcells⟩ := hR
  simp only [Value.slice.injEq] at he
  obtain ⟨rfl, _, rfl⟩ := he
  obtain ⟨g, o, rfl, hg, hN⟩ := hcells (by omega)
  have HN : Hid (NAT w g o ts) := fun i h => hN i h
  have HS : Hid (∀ j (h : j < ts.length), Sml ts[j]) := hS
  have HI : Hid (∀ j (h : j < ts.length), ts[j].n ≤ 9223372036854775807 ∧ ts[j].m ≤ 9223372036854775807) := hI
  have HCC : Hid NCalls := HC
  have hlen : ts.length ≤ 6000 := by omega
  clear hcells hN hS hI HC
  obtain ⟨i0, hi, hz0, hz1, hz2⟩ := info_parts info3
  go_enter Tryd.func11, Tryd.ntmps11
  go_wp2_with (refine wpList_make_full _ rfl (.tmp 25) (.tmp 25) 42 rfl w.heap.size 3 i0 _ 1 Tryd.underlying42 hi hz0 hz1 .i64 .i64 ts.length ts.length ts.length rfl rfl rfl rfl (by rw [hz2]; omega) (by unfold maxLen; omega) (by simp) ?_; intro w1 hown hgrow)
  have hsz : (w.alloc (.cells #[.slice (some ⟨g, o, none⟩) ts.length cap] 31)).heap.size = w.heap.size + 1 := by simp
  rw [hsz] at hown
  clear hsz
  have HB : Hid (Below w.heap.size w w1) := bw0.grown hgrow (by simp) (fun k hk => by simp at hk)
  have hb := HB.out
  have hzb := hb.size
  have hos : w1.ownsRow w.heap.size 3 1 (.slice (some ⟨w.heap.size + 1, 0, none⟩) ts.length ts.length) ts.length ((List.replicate ts.length (0 : Int)).map (Value.int .i64)) := by
    have h0 : (Value.int IntKind.i64 0).cells = #[Value.int IntKind.i64 0] := rfl
    simpa [madeCells, h0, Nat.mod_one, List.map_const'] using hown
  clear hown hgrow HB
  go_loopw [29] (fun iv wr => ∃ (k : Nat) (S st : List Int), k ≤ ts.length ∧ iv = .int .i64 k ∧ Hid (S.length = ts.length) ∧ Hid (Chn S st k) ∧ Hid (ordS (ts.map Nd.kids) 0 [] = ordS ((ts.drop k).map Nd.kids) k st) ∧ Hid (∀ j (h : j < ts.length), j < k → nodI ts ts[j] = true ∧ ∀ x ∈ ts[j].kids, ∃ y : Nat, x = (y : Int) ∧ y < j) ∧ wr.ownsRow w.heap.size 3 1 (.slice (some ⟨w.heap.size + 1, 0, none⟩) ts.length ts.length) ts.length (S.map (Value.int .i64)) ∧ Below w.heap.size w wr) (fun iv _ => ts.length - (intOf iv).toNat)
  case atStart => exact ⟨0, List.replicate ts.length 0, [], Nat.zero_le _, rfl, (by simp : (List.replicate ts.length (0 : Int)).length = ts.length), Chn.zero _, rfl, (fun j h hj => by omega : ∀ j (h : j < ts.length), j < 0 → nodI ts ts[j] = true ∧ ∀ x ∈ ts[j].kids, ∃ y : Nat, x = (y : Int) ∧ y < j), hos, hb⟩
  case round =>
    obtain ⟨k, S, st, hk, rfl, HSL, HCh, HO, HP, ho, hbel⟩ := hrel
    obtain ⟨wo, hwo⟩ : ∃ x, x = wr := ⟨_, rfl⟩
    subst hwo
    have hbs := hbel.size
    by_cases hlt : k < ts.length
    · have hlti : (k : Int) < ts.length := by omega
      obtain ⟨t, hT⟩ : ∃ t, ts[k] = t := ⟨_, rfl⟩
      obtain ⟨kv, hNA, hRK⟩ := HN.out k hlt
      rw [hT] at hNA hRK
      have HT : Hid (ts[k] = t) := hT
      have HNO : Hid (¬ (t.kids.length ≤ st.length ∧ st.drop (st.length - t.kids.length) = t.kids) → treeI ts = false) := (fun h => treeI_ord hlt HO.out (by rw [hT]; exact h) : ¬ (t.kids.length ≤ st.length ∧ st.drop (st.length - t.kids.length) = t.kids) → treeI ts = false)
      have HNX : Hid (t.kids.length ≤ st.length ∧ st.drop (st.length - t.kids.length) = t.kids → ordS (ts.map Nd.kids) 0 [] = ordS ((ts.drop (k + 1)).map Nd.kids) (k + 1) (st.take (st.length - t.kids.length) ++ [(k : Int)])) := (fun h => by have := ord_next hlt HO.out (by rw [hT]; exact h); rw [hT] at this; exact this : t.kids.length ≤ st.length ∧ st.drop (st.length - t.kids.length) = t.kids → ordS (ts.map Nd.kids) 0 [] = ordS ((ts.drop (k + 1)).map Nd.kids) (k + 1) (st.take (st.length - t.kids.length) ++ [(k : Int)]))
      clear hT
      obtain ⟨c0, c1, c2, c3, c4, c5, c6, c7, c8, c9⟩ := hNA.below hbel hg
      obtain ⟨ka, kc, rfl, hkcp, hkc⟩ := hRK
      have HKC : Hid (0 < t.kids.length → ∃ g o, ka = some ⟨g, o, none⟩ ∧ g < w.heap.size ∧ ∀ i (h : i < t.kids.length), w.cell? ⟨g, o + i, none⟩ = some (.int .i64 t.kids[i])) := hkc
      have HST : Hid (st.length ≤ k) := HCh.out.ln
      clear hkc hNA
      by_cases hlong : (k : Int) < t.kids.length
      · have HE : Hid (treeI ts = false) := (HNO.out (kid_short (by have := HST.out; omega)) : treeI ts = false)
        clear HP
        go_wp2
        go_ret
        exact ⟨ret_b HE.out.symm, hbel.alloc hbs _⟩
      · obtain ⟨n, hkn⟩ : ∃ n, t.kids.length = n := ⟨_, rfl⟩
        rw [hkn] at hlong hkcp
        have HKN : Hid (t.kids.length = n) := hkn
        rw [hkn] at c8
        have hnk : n ≤ k := by omega
        have hlb : w.heap.size + 1 < wo.heap.size := (ho.lt _ rfl).2
        obtain ⟨y0, hy0⟩ : ∃ u, S[k]? = some u := ⟨_, List.getElem?_eq_getElem (by rw [HSL.out]; omega)⟩
        have e1 := own_cell ho (j := k) (u := .int .i64 y0) (by rw [List.getElem?_map, hy0]; rfl)
        have f1 := ho.frozenAt k
        have HO1 : Hid (World.ownsRow ((wo.setCell ⟨w.heap.size + 1, k, none⟩ (.int .i64 k)).alloc (.cells #[.int .i64 t.op, .string t.name, .string t.qual, .int .i64 t.n, .int .i64 t.m, .int .i64 t.vk, .int .i64 t.vn, .string t.vs, .slice ka n kc, .int .i64 t.pos] 46)) w.heap.size 3 1 (.slice (some ⟨w.heap.size + 1, 0, none⟩) ts.length ts.length) ts.length ((S.set k k).map (Value.int .i64))) := (by
          have := (ho.stored k (.int .i64 k)).1
          rw [List.map_set]; exact own_below this (below_alloc _ _) : World.ownsRow ((wo.setCell ⟨w.heap.size + 1, k, none⟩ (.int .i64 k)).alloc (.cells #[.int .i64 t.op, .string t.name, .string t.qual, .int .i64 t.n, .int .i64 t.m, .int .i64 t.vk, .int .i64 t.vn, .string t.vs, .slice ka n kc, .int .i64 t.pos] 46)) w.heap.size 3 1 (.slice (some ⟨w.heap.size + 1, 0, none⟩) ts.length ts.length) ts.length ((S.set k k).map (Value.int .i64)))
        have HBW3 : Hid (Below w.heap.size w ((wo.setCell ⟨w.heap.size + 1, k, none⟩ (.int .i64 k)).alloc (.cells #[.int .i64 t.op, .string t.name, .string t.qual, .int .i64 t.n, .int .i64 t.m, .int .i64 t.vk, .int .i64 t.vn, .string t.vs, .slice ka n kc, .int .i64 t.pos] 46))) := (hbel.setCell (show w.heap.size ≤ (⟨w.heap.size + 1, k, none⟩ : Addr).block by simp) (.int .i64 k)).alloc (by simp; omega) _
        clear ho hkn hy0
        have hwn : IntKind.i64.wrap ((n : Int) - 1) = (n : Int) - 1 := by simp only [IntKind.wrap_i64, wrap64]; omega
        go_wp2_with (refine wpList_make_full _ rfl (.tmp 45) (.tmp 45) 42 rfl w.heap.size 3 i0 _ 1 Tryd.underlying42 hi hz0 hz1 .i64 .i64 n n n rfl rfl rfl rfl (by rw [hz2]; omega) (by unfold maxLen; omega) (by simp; omega) ?_; intro w2 hown2 hgrow2; obtain ⟨⟨d0, d1, d2, d3, d4, d5, d6, d7, d8, d9⟩, HOS, HB2, HOW⟩ := mk_all (by omega) hbs HO1 HBW3 hown2 hgrow2; clear hown2 hgrow2 HO1 HBW3 e1 f1 c0 c1 c2 c3 c4 c5 c6 c7 c8 c9; simp only [Nat.zero_add] at d0 d1 d2 d3 d4 d5 d6 d7 d8 d9)
        go_loopw [8] (fun jv wx => ∃ (m : Nat) (S' os : List Int), m ≤ n ∧ jv = .int .i64 ((m : Int) - 1) ∧ Hid (S'.length = ts.length) ∧ Hid (os.length = n) ∧ Hid (Chn S' st k) ∧ Hid (n - m ≤ st.length) ∧ Hid (S'[k]? = some (nxt (st.take (st.length - (n - m))))) ∧ Hid (t.kids.drop m = st.drop (st.length - (n - m))) ∧ Hid (os.drop m = (t.kids.drop m).map fun x => opA ts x.toNat) ∧ Hid (wx.ownsRow w.heap.size 3 1 (.slice (some ⟨w.heap.size + 1, 0, none⟩) ts.length ts.length) ts.length (S'.map (Value.int .i64))) ∧ Hid (wx.ownsRow w.heap.size 3 1 (.slice (some ⟨wo.heap.size + 1, 0, none⟩) n n) n (os.map (Value.int .i64))) ∧ Hid (NodeAt wx wo.heap.size 0 t (.slice ka n kc)) ∧ Below w.heap.size w wx) (fun jv _ => ((intOf jv) + 1).toNat)
        case atStart =>
          refine ⟨n, S.set k k, List.replicate n 0, Nat.le_refl _, rfl, (by rw [List.length_set]; exact HSL.out : (S.set k (k : Int)).length = ts.length), (by simp : (List.replicate n (0 : Int)).length = n), HCh.out.same (fun x hx => List.getElem?_set_ne (by omega)), (by omega : n - n ≤ st.length), ?_, ?_, ?_, HOS, ?_, ⟨d0, by simpa using d1, by simpa using d2, by simpa using d3, by simpa using d4, by simpa using d5, by simpa using d6, by simpa using d7, by simpa using d8, by simpa using d9⟩, HB2.out⟩
          · show (S.set k (k : Int))[k]? = some (nxt (st.take (st.length - (n - n))))
            rw [Nat.sub_self, Nat.sub_zero, List.take_length, HCh.out.nx, List.getElem?_set_self (by rw [HSL.out]; omega)]
          · show t.kids.drop n = st.drop (st.length - (n - n))
            rw [Nat.sub_self, Nat.sub_zero, List.drop_length, ← HKN.out, List.drop_length]
          · show (List.replicate n (0 : Int)).drop n = (t.kids.drop n).map fun x => opA ts x.toNat
            rw [List.drop_of_length_le (by simp), List.drop_of_length_le (by rw [HKN.out]; omega)]; rfl
          · show World.ownsRow _ _ _ _ _ _ _
            have h0 : (Value.int IntKind.i64 0).cells = #[Value.int IntKind.i64 0] := rfl
            simpa [madeCells, h0, Nat.mod_one, List.map_const'] using HOW.out
        case round =>
          obtain ⟨m, S', os, hm, rfl, HSL', HOL, HCh', HQ, HC, HD, HM, HOS', HOO, HND, hbe⟩ := hrel
          clear HOS HB2 HOW d0 d1 d2 d3 d4 d5 d6 d7 d8 d9
          have hbes := hbe.size
          have hos' := HOS'.out
          have hoo := HOO.out
          have d8 := HND.out.c8
          rw [Nat.zero_add] at d8
          cases m with
          | zero =>
            have hkl : t.kids.length = n := HKN.out
            have hyes : t.kids.length ≤ st.length ∧ st.drop (st.length - t.kids.length) = t.kids := by
              have h1 := HQ.out
              have h2 := HD.out
              rw [Nat.sub_zero] at h1 h2
              rw [hkl]
              exact ⟨h1, h2.symm⟩
            have HKS : Hid (∀ x ∈ t.kids, ∃ y : Nat, x = (y : Int) ∧ y < k) := kids_of HCh'.out hyes
            have HLK : Hid (t.kids ≠ [] → t.kids.getLast? = some ((k : Int) - 1)) := kids_last HCh'.out hyes
            have HOE : Hid (os = opsOf ts t) := (HM.out : os = opsOf ts t)
            have HR : Hid (∀ x ∈ os, 0 ≤ x ∧ x ≤ 64) := (by rw [HOE.out]; exact ops_rng (Nat.le_of_lt hlt) HP.out HKS.out : ∀ x ∈ os, 0 ≤ x ∧ x ≤ 64)
            have HCH2 : Hid (Chn S' (st.take (st.length - n) ++ [(k : Int)]) (k + 1)) := HCh'.out.step (Nat.sub_le _ _) HC.out
            have HO2 : Hid (ordS (ts.map Nd.kids) 0 [] = ordS ((ts.drop (k + 1)).map Nd.kids) (k + 1) (st.take (st.length - n) ++ [(k : Int)])) := (by have := HNX.out hyes; rw [hkl] at this; exact this : ordS (ts.map Nd.kids) 0 [] = ordS ((ts.drop (k + 1)).map Nd.kids) (k + 1) (st.take (st.length - n) ++ [(k : Int)]))
            have HFx : Hid (nodI ts t = false → treeI ts = false) := (fun h => treeI_nod hlt (by rw [HT.out]; exact h) : nodI ts t = false → treeI ts = false)
            have HPx : Hid (nodI ts t = true → ∀ j (h : j < ts.length), j < k + 1 → nodI ts ts[j] = true ∧ ∀ x ∈ ts[j].kids, ∃ y : Nat, x = (y : Int) ∧ y < j) := (fun h => next_P hlt HT.out HP.out h HKS.out : nodI ts t = true → ∀ j (h : j < ts.length), j < k + 1 → nodI ts ts[j] = true ∧ ∀ x ∈ ts[j].kids, ∃ y : Nat, x = (y : Int) ∧ y < j)
            have HSm : Hid (Sml t) := (by have := HS.out k hlt; rw [HT.out] at this; exact this : Sml t)
            have HIm : Hid (t.n ≤ 9223372036854775807 ∧ t.m ≤ 9223372036854775807) := (by have := HI.out k hlt; rw [HT.out] at this; exact this : t.n ≤ 9223372036854775807 ∧ t.m ≤ 9223372036854775807)
            clear hyes hkl d8
            obtain ⟨d0, d1, d2, d3, d4, d5, d6, d7, d8, d9⟩ := HND.out
            simp only [Nat.zero_add] at d0 d1 d2 d3 d4 d5 d6 d7 d8 d9
            have hlb3 : wo.heap.size + 1 < wr.heap.size := (hoo.lt _ rfl).2
            clear HND HC HD HM HQ HOS' HOO
            by_cases h17 : 1 ≤ t.op ∧ t.op ≤ 17
            · have hE : isE t.op = true := by simp [isE, h17.1, h17.2]
              have hcall := HCC.out.c22 t os (wo.heap.size + 1) 0 n wr h17 (by rw [HOL.out]; omega) HOL.out.symm HR.out (row_rc hoo HOL.out) HSm.out.a HSm.out.b HSm.out.c HIm.out.1 HIm.out.2 ka n kc
              simp only [ndV, HOL.out] at hcall
              cases hnd : nodG t os
              · have HE : Hid (treeI ts = false) := (HFx.out (nodI_no HOE.out hnd) : treeI ts = false)
                rw [hnd] at hcall
                clear hnd
                go_wp2_with (go_at_call 21; fail)
                refine (isExpr_any _ _).mono ?_
                rintro e w3 ⟨rfl, h3⟩
                replace h3 := h3.symm
                subst h3
                rw [hE]
                go_wp2_with (go_at_call 22; fail)
                refine hcall.mono ?_
                rintro e w4 ⟨rfl, hb4⟩
                have bw4 : Below w.heap.size w w4 := hbe.trans (hb4.mono hbes)
                have g0 : w4.cell? ⟨wo.heap.size, 0, none⟩ = some (.int .i64 t.op) := (hb4.cell (p := ⟨wo.heap.size, 0, none⟩) (by simp; omega)).trans d0
                have HS4 : Hid (w4.ownsRow w.heap.size 3 1 (.slice (some ⟨w.heap.size + 1, 0, none⟩) ts.length ts.length) ts.length (S'.map (Value.int .i64))) := own_below hos' hb4
                clear hb4 hcall d0 d1 d2 d3 d4 d5 d6 d7 d8 d9 hos' hoo
                go_wp2
                go_ret
                exact ⟨ret_b HE.out.symm, bw4⟩
              · by_cases h9 : t.op = 9 ∨ t.op = 17
                · have HBG := beg_fact (by rw [List.getElem?_eq_getElem hlt, HT.out]) hlt HP.out HOE.out HR.out hnd h9 HLK.out
                  have hq1 : k - 1 < ts.length := by omega
                  have hwk : IntKind.i64.wrap ((k : Int) - 1) = ((k - 1 : Nat) : Int) := by simp only [IntKind.wrap_i64, wrap64]; omega
                  obtain ⟨hk1, hnI, hF⟩ := HBG
                  rw [hnd] at hcall
                  clear hnd
                  have hwk : IntKind.i64.wrap ((k : Int) - 1) = ((k - 1 : Nat) : Int) := by simp only [IntKind.wrap_i64, wrap64]; omega
                  have hbg := fun W (h : Below w.heap.size w W) => beg_25 ts (k - 1) g o cap W hlen hq1 (Nat.lt_of_lt_of_le hg h.size) (fun i hi => let ⟨kv, a, b⟩ := HN.out.below h hg i hi; ⟨kv, a, b.ri⟩) hF
                  clear hF
                  cases hbv : begB ts (k - 1)
                  · have HE : Hid (treeI ts = false) := (HFx.out (by rw [hnI, hbv]) : treeI ts = false)
                    rw [hbv] at hbg
                    clear hbv hnI
                    rcases h9 with h9 | h9
                    · have H9 : Hid (t.op = 9) := h9
                      clear h9
                      go_wp2_with (go_at_call 21; fail)
                      refine (isExpr_any _ _).mono ?_
                      rintro e w3 ⟨rfl, h3⟩
                      replace h3 := h3.symm
                      subst h3
                      rw [hE]
                      go_wp2_with (go_at_call 22; fail)
                      refine hcall.mono ?_
                      rintro e w4 ⟨rfl, hb4⟩
                      have bw4 : Below w.heap.size w w4 := hbe.trans (hb4.mono hbes)
                      have g0 : w4.cell? ⟨wo.heap.size, 0, none⟩ = some (.int .i64 t.op) := (hb4.cell (p := ⟨wo.heap.size, 0, none⟩) (by simp; omega)).trans d0
                      have HS4 : Hid (w4.ownsRow w.heap.size 3 1 (.slice (some ⟨w.heap.size + 1, 0, none⟩) ts.length ts.length) ts.length (S'.map (Value.int .i64))) := own_below hos' hb4
                      clear hb4 hcall d0 d1 d2 d3 d4 d5 d6 d7 d8 d9 hos' hoo
                      rw [H9.out] at g0
                      have hc25 := hbg _ bw4
                      clear hbg
                      go_wp2_with (go_at_call 25; fail)
                      refine hc25.mono ?_
                      rintro e w5 ⟨rfl, h5⟩
                      replace h5 := h5.symm
                      subst h5
                      go_wp2
                      go_ret
                      exact ⟨ret_b HE.out.symm, bw4⟩
                    · have H9 : Hid (t.op = 17) := h9
                      clear h9
                      go_wp2_with (go_at_call 21; fail)
                      refine (isExpr_any _ _).mono ?_
                      rintro e w3 ⟨rfl, h3⟩
                      replace h3 := h3.symm
                      subst h3
                      rw [hE]
                      go_wp2_with (go_at_call 22; fail)
                      refine hcall.mono ?_
                      rintro e w4 ⟨rfl, hb4⟩
                      have bw4 : Below w.heap.size w w4 := hbe.trans (hb4.mono hbes)
                      have g0 : w4.cell? ⟨wo.heap.size, 0, none⟩ = some (.int .i64 t.op) := (hb4.cell (p := ⟨wo.heap.size, 0, none⟩) (by simp; omega)).trans d0
                      have HS4 : Hid (w4.ownsRow w.heap.size 3 1 (.slice (some ⟨w.heap.size + 1, 0, none⟩) ts.length ts.length) ts.length (S'.map (Value.int .i64))) := own_below hos' hb4
                      clear hb4 hcall d0 d1 d2 d3 d4 d5 d6 d7 d8 d9 hos' hoo
                      rw [H9.out] at g0
                      have hc25 := hbg _ bw4
                      clear hbg
                      go_wp2_with (go_at_call 25; fail)
                      refine hc25.mono ?_
                      rintro e w5 ⟨rfl, h5⟩
                      replace h5 := h5.symm
                      subst h5
                      go_wp2
                      go_ret
                      exact ⟨ret_b HE.out.symm, bw4⟩
                  · have HPP : Hid (∀ j (h : j < ts.length), j < k + 1 → nodI ts ts[j] = true ∧ ∀ x ∈ ts[j].kids, ∃ y : Nat, x = (y : Int) ∧ y < j) := HPx.out (by rw [hnI, hbv])
                    rw [hbv] at hbg
                    clear hbv hnI
                    rcases h9 with h9 | h9
                    · have H9 : Hid (t.op = 9) := h9
                      clear h9
                      go_wp2_with (go_at_call 21; fail)
                      refine (isExpr_any _ _).mono ?_
                      rintro e w3 ⟨rfl, h3⟩
                      replace h3 := h3.symm
                      subst h3
                      rw [hE]
                      go_wp2_with (go_at_call 22; fail)
                      refine hcall.mono ?_
                      rintro e w4 ⟨rfl, hb4⟩
                      have bw4 : Below w.heap.size w w4 := hbe.trans (hb4.mono hbes)
                      have g0 : w4.cell? ⟨wo.heap.size, 0, none⟩ = some (.int .i64 t.op) := (hb4.cell (p := ⟨wo.heap.size, 0, none⟩) (by simp; omega)).trans d0
                      have HS4 : Hid (w4.ownsRow w.heap.size 3 1 (.slice (some ⟨w.heap.size + 1, 0, none⟩) ts.length ts.length) ts.length (S'.map (Value.int .i64))) := own_below hos' hb4
                      clear hb4 hcall d0 d1 d2 d3 d4 d5 d6 d7 d8 d9 hos' hoo
                      rw [H9.out] at g0
                      have hc25 := hbg _ bw4
                      clear hbg
                      go_wp2_with (go_at_call 25; fail)
                      refine hc25.mono ?_
                      rintro e w5 ⟨rfl, h5⟩
                      replace h5 := h5.symm
                      subst h5
                      go_wp2
                      go_roundw
                      case rel => exact ⟨k + 1, S', st.take (st.length - n) ++ [(k : Int)], by omega, by go_num, HSL', HCH2, HO2, HPP, HS4.out, bw4⟩
                      case measure => simp [intOf]; omega
                    · have H9 : Hid (t.op = 17) := h9
                      clear h9
                      go_wp2_with (go_at_call 21; fail)
                      refine (isExpr_any _ _).mono ?_
                      rintro e w3 ⟨rfl, h3⟩
                      replace h3 := h3.symm
                      subst h3
                      rw [hE]
                      go_wp2_with (go_at_call 22; fail)
                      refine hcall.mono ?_
                      rintro e w4 ⟨rfl, hb4⟩
                      have bw4 : Below w.heap.size w w4 := hbe.trans (hb4.mono hbes)
                      have g0 : w4.cell? ⟨wo.heap.size, 0, none⟩ = some (.int .i64 t.op) := (hb4.cell (p := ⟨wo.heap.size, 0, none⟩) (by simp; omega)).trans d0
                      have HS4 : Hid (w4.ownsRow w.heap.size 3 1 (.slice (some ⟨w.heap.size + 1, 0, none⟩) ts.length ts.length) ts.length (S'.map (Value.int .i64))) := own_below hos' hb4
                      clear hb4 hcall d0 d1 d2 d3 d4 d5 d6 d7 d8 d9 hos' hoo
                      rw [H9.out] at g0
                      have hc25 := hbg _ bw4
                      clear hbg
                      go_wp2_with (go_at_call 25; fail)
                      refine hc25.mono ?_
                      rintro e w5 ⟨rfl, h5⟩
                      replace h5 := h5.symm
                      subst h5
                      go_wp2
                      go_roundw
                      case rel => exact ⟨k + 1, S', st.take (st.length - n) ++ [(k : Int)], by omega, by go_num, HSL', HCH2, HO2, HPP, HS4.out, bw4⟩
                      case measure => simp [intOf]; omega
                · have HPP : Hid (∀ j (h : j < ts.length), j < k + 1 → nodI ts ts[j] = true ∧ ∀ x ∈ ts[j].kids, ∃ y : Nat, x = (y : Int) ∧ y < j) := HPx.out (by rw [nodI_G h9, ← HOE.out, hnd])
                  have h9b : (t.op == 9) = false := by simp; omega
                  have h17b : (t.op == 17) = false := by simp; omega
                  rw [hnd] at hcall
                  clear hnd
                  go_wp2_with (go_at_call 21; fail)
                  refine (isExpr_any _ _).mono ?_
                  rintro e w3 ⟨rfl, h3⟩
                  replace h3 := h3.symm
                  subst h3
                  rw [hE]
                  go_wp2_with (go_at_call 22; fail)
                  refine hcall.mono ?_
                  rintro e w4 ⟨rfl, hb4⟩
                  have bw4 : Below w.heap.size w w4 := hbe.trans (hb4.mono hbes)
                  have g0 : w4.cell? ⟨wo.heap.size, 0, none⟩ = some (.int .i64 t.op) := (hb4.cell (p := ⟨wo.heap.size, 0, none⟩) (by simp; omega)).trans d0
                  have HS4 : Hid (w4.ownsRow w.heap.size 3 1 (.slice (some ⟨w.heap.size + 1, 0, none⟩) ts.length ts.length) ts.length (S'.map (Value.int .i64))) := own_below hos' hb4
                  clear hb4 hcall d0 d1 d2 d3 d4 d5 d6 d7 d8 d9 hos' hoo
                  go_wp2
                  go_roundw
                  case rel => exact ⟨k + 1, S', st.take (st.length - n) ++ [(k : Int)], by omega, by go_num, HSL', HCH2, HO2, HPP, HS4.out, bw4⟩
                  case measure => simp [intOf]; omega
            · have hE : isE t.op = false := by
                cases h : isE t.op
                · rfl
                · simp only [isE, Bool.and_eq_true, decide_eq_true_eq] at h
                  exact absurd h h17
              by_cases h18 : 18 ≤ t.op
              · by_cases h33 : t.op ≤ 33
                · have hx33 : (33 : Int) ≥ t.op := h33
                  have hcall := HCC.out.c23 t os (wo.heap.size + 1) 0 n wr ⟨h18, h33⟩ (by rw [HOL.out]; omega) HOL.out.symm HR.out (row_rc hoo HOL.out) HSm.out.a HSm.out.b HSm.out.c HIm.out.1 HIm.out.2 ka n kc
                  simp only [ndV, HOL.out] at hcall
                  cases hnd : nodG t os
                  · have HE : Hid (treeI ts = false) := (HFx.out (by rw [nodI_G (by omega), ← HOE.out, hnd]) : treeI ts = false)
                    rw [hnd] at hcall
                    clear hnd
                    go_wp2_with (go_at_call 21; fail)
                    refine (isExpr_any _ _).mono ?_
                    rintro e w3 ⟨rfl, h3⟩
                    replace h3 := h3.symm
                    subst h3
                    rw [hE]
                    go_wp2_with (go_at_call 23; fail)
                    refine hcall.mono ?_
                    rintro e w4 ⟨rfl, hb4⟩
                    have bw4 : Below w.heap.size w w4 := hbe.trans (hb4.mono hbes)
                    have g0 : w4.cell? ⟨wo.heap.size, 0, none⟩ = some (.int .i64 t.op) := (hb4.cell (p := ⟨wo.heap.size, 0, none⟩) (by simp; omega)).trans d0
                    have HS4 : Hid (w4.ownsRow w.heap.size 3 1 (.slice (some ⟨w.heap.size + 1, 0, none⟩) ts.length ts.length) ts.length (S'.map (Value.int .i64))) := own_below hos' hb4
                    clear hb4 hcall d0 d1 d2 d3 d4 d5 d6 d7 d8 d9 hos' hoo
                    go_wp2
                    go_ret
                    exact ⟨ret_b HE.out.symm, bw4⟩
                  · have HPP : Hid (∀ j (h : j < ts.length), j < k + 1 → nodI ts ts[j] = true ∧ ∀ x ∈ ts[j].kids, ∃ y : Nat, x = (y : Int) ∧ y < j) := HPx.out (by rw [nodI_G (by omega), ← HOE.out, hnd])
                    have h9b : (t.op == 9) = false := by simp; omega
                    have h17b : (t.op == 17) = false := by simp; omega
                    rw [hnd] at hcall
                    clear hnd
                    go_wp2_with (go_at_call 21; fail)
                    refine (isExpr_any _ _).mono ?_
                    rintro e w3 ⟨rfl, h3⟩
                    replace h3 := h3.symm
                    subst h3
                    rw [hE]
                    go_wp2_with (go_at_call 23; fail)
                    refine hcall.mono ?_
                    rintro e w4 ⟨rfl, hb4⟩
                    have bw4 : Below w.heap.size w w4 := hbe.trans (hb4.mono hbes)
                    have g0 : w4.cell? ⟨wo.heap.size, 0, none⟩ = some (.int .i64 t.op) := (hb4.cell (p := ⟨wo.heap.size, 0, none⟩) (by simp; omega)).trans d0
                    have HS4 : Hid (w4.ownsRow w.heap.size 3 1 (.slice (some ⟨w.heap.size + 1, 0, none⟩) ts.length ts.length) ts.length (S'.map (Value.int .i64))) := own_below hos' hb4
                    clear hb4 hcall d0 d1 d2 d3 d4 d5 d6 d7 d8 d9 hos' hoo
                    go_wp2
                    go_roundw
                    case rel => exact ⟨k + 1, S', st.take (st.length - n) ++ [(k : Int)], by omega, by go_num, HSL', HCH2, HO2, HPP, HS4.out, bw4⟩
                    case measure => simp [intOf]; omega
                · have h33n : ¬ (1 ≤ t.op ∧ t.op ≤ 33) := by omega
                  have hcall := HCC.out.c24 t os (wo.heap.size + 1) 0 n wr h33n (by rw [HOL.out]; omega) HOL.out.symm HR.out (row_rc hoo HOL.out) HSm.out.a HSm.out.b HSm.out.c HIm.out.1 HIm.out.2 ka n kc
                  simp only [ndV, HOL.out] at hcall
                  cases hnd : nodG t os
                  · have HE : Hid (treeI ts = false) := (HFx.out (by rw [nodI_G (by omega), ← HOE.out, hnd]) : treeI ts = false)
                    rw [hnd] at hcall
                    clear hnd
                    go_wp2_with (go_at_call 21; fail)
                    refine (isExpr_any _ _).mono ?_
                    rintro e w3 ⟨rfl, h3⟩
                    replace h3 := h3.symm
                    subst h3
                    rw [hE]
                    go_wp2_with (go_at_call 24; fail)
                    refine hcall.mono ?_
                    rintro e w4 ⟨rfl, hb4⟩
                    have bw4 : Below w.heap.size w w4 := hbe.trans (hb4.mono hbes)
                    have g0 : w4.cell? ⟨wo.heap.size, 0, none⟩ = some (.int .i64 t.op) := (hb4.cell (p := ⟨wo.heap.size, 0, none⟩) (by simp; omega)).trans d0
                    have HS4 : Hid (w4.ownsRow w.heap.size 3 1 (.slice (some ⟨w.heap.size + 1, 0, none⟩) ts.length ts.length) ts.length (S'.map (Value.int .i64))) := own_below hos' hb4
                    clear hb4 hcall d0 d1 d2 d3 d4 d5 d6 d7 d8 d9 hos' hoo
                    go_wp2
                    go_ret
                    exact ⟨ret_b HE.out.symm, bw4⟩
                  · have HPP : Hid (∀ j (h : j < ts.length), j < k + 1 → nodI ts ts[j] = true ∧ ∀ x ∈ ts[j].kids, ∃ y : Nat, x = (y : Int) ∧ y < j) := HPx.out (by rw [nodI_G (by omega), ← HOE.out, hnd])
                    have h9b : (t.op == 9) = false := by simp; omega
                    have h17b : (t.op == 17) = false := by simp; omega
                    rw [hnd] at hcall
                    clear hnd
                    go_wp2_with (go_at_call 21; fail)
                    refine (isExpr_any _ _).mono ?_
                    rintro e w3 ⟨rfl, h3⟩
                    replace h3 := h3.symm
                    subst h3
                    rw [hE]
                    go_wp2_with (go_at_call 24; fail)
                    refine hcall.mono ?_
                    rintro e w4 ⟨rfl, hb4⟩
                    have bw4 : Below w.heap.size w w4 := hbe.trans (hb4.mono hbes)
                    have g0 : w4.cell? ⟨wo.heap.size, 0, none⟩ = some (.int .i64 t.op) := (hb4.cell (p := ⟨wo.heap.size, 0, none⟩) (by simp; omega)).trans d0
                    have HS4 : Hid (w4.ownsRow w.heap.size 3 1 (.slice (some ⟨w.heap.size + 1, 0, none⟩) ts.length ts.length) ts.length (S'.map (Value.int .i64))) := own_below hos' hb4
                    clear hb4 hcall d0 d1 d2 d3 d4 d5 d6 d7 d8 d9 hos' hoo
                    go_wp2
                    go_roundw
                    case rel => exact ⟨k + 1, S', st.take (st.length - n) ++ [(k : Int)], by omega, by go_num, HSL', HCH2, HO2, HPP, HS4.out, bw4⟩
                    case measure => simp [intOf]; omega
              · have h33n : ¬ (1 ≤ t.op ∧ t.op ≤ 33) := by omega
                have hcall := HCC.out.c24 t os (wo.heap.size + 1) 0 n wr h33n (by rw [HOL.out]; omega) HOL.out.symm HR.out (row_rc hoo HOL.out) HSm.out.a HSm.out.b HSm.out.c HIm.out.1 HIm.out.2 ka n kc
                simp only [ndV, HOL.out] at hcall
                cases hnd : nodG t os
                · have HE : Hid (treeI ts = false) := (HFx.out (by rw [nodI_G (by omega), ← HOE.out, hnd]) : treeI ts = false)
                  rw [hnd] at hcall
                  clear hnd
                  go_wp2_with (go_at_call 21; fail)
                  refine (isExpr_any _ _).mono ?_
                  rintro e w3 ⟨rfl, h3⟩
                  replace h3 := h3.symm
                  subst h3
                  rw [hE]
                  go_wp2_with (go_at_call 24; fail)
                  refine hcall.mono ?_
                  rintro e w4 ⟨rfl, hb4⟩
                  have bw4 : Below w.heap.size w w4 := hbe.trans (hb4.mono hbes)
                  have g0 : w4.cell? ⟨wo.heap.size, 0, none⟩ = some (.int .i64 t.op) := (hb4.cell (p := ⟨wo.heap.size, 0, none⟩) (by simp; omega)).trans d0
                  have HS4 : Hid (w4.ownsRow w.heap.size 3 1 (.slice (some ⟨w.heap.size + 1, 0, none⟩) ts.length ts.length) ts.length (S'.map (Value.int .i64))) := own_below hos' hb4
                  clear hb4 hcall d0 d1 d2 d3 d4 d5 d6 d7 d8 d9 hos' hoo
                  go_wp2
                  go_ret
                  exact ⟨ret_b HE.out.symm, bw4⟩
                · have HPP : Hid (∀ j (h : j < ts.length), j < k + 1 → nodI ts ts[j] = true ∧ ∀ x ∈ ts[j].kids, ∃ y : Nat, x = (y : Int) ∧ y < j) := HPx.out (by rw [nodI_G (by omega), ← HOE.out, hnd])
                  have h9b : (t.op == 9) = false := by simp; omega
                  have h17b : (t.op == 17) = false := by simp; omega
                  rw [hnd] at hcall
                  clear hnd
                  go_wp2_with (go_at_call 21; fail)
                  refine (isExpr_any _ _).mono ?_
                  rintro e w3 ⟨rfl, h3⟩
                  replace h3 := h3.symm
                  subst h3
                  rw [hE]
                  go_wp2_with (go_at_call 24; fail)
                  refine hcall.mono ?_
                  rintro e w4 ⟨rfl, hb4⟩
                  have bw4 : Below w.heap.size w w4 := hbe.trans (hb4.mono hbes)
                  have g0 : w4.cell? ⟨wo.heap.size, 0, none⟩ = some (.int .i64 t.op) := (hb4.cell (p := ⟨wo.heap.size, 0, none⟩) (by simp; omega)).trans d0
                  have HS4 : Hid (w4.ownsRow w.heap.size 3 1 (.slice (some ⟨w.heap.size + 1, 0, none⟩) ts.length ts.length) ts.length (S'.map (Value.int .i64))) := own_below hos' hb4
                  clear hb4 hcall d0 d1 d2 d3 d4 d5 d6 d7 d8 d9 hos' hoo
                  go_wp2
                  go_roundw
                  case rel => exact ⟨k + 1, S', st.take (st.length - n) ++ [(k : Int)], by omega, by go_num, HSL', HCH2, HO2, HPP, HS4.out, bw4⟩
                  case measure => simp [intOf]; omega
          | succ j =>
            rw [show ((j + 1 : Nat) : Int) - 1 = (j : Int) by omega]
            have hjn : j < n := by omega
            have hjni : (j : Int) < n := by omega
            have hwj : IntKind.i64.wrap ((j : Int) - 1) = (j : Int) - 1 := by simp only [IntKind.wrap_i64, wrap64]; omega
            obtain ⟨kg, ko, rfl, hkg, hkcc⟩ := HKC.out (by rw [HKN.out]; omega)
            obtain ⟨x, hx⟩ : ∃ x, t.kids[j]? = some x := ⟨_, List.getElem?_eq_getElem (by rw [HKN.out]; omega)⟩
            have k0 := (hbe.cell (p := ⟨kg, ko + j, none⟩) hkg).trans (hkcc j (by rw [HKN.out]; omega))
            rw [show t.kids[j]'(by rw [HKN.out]; omega) = x by rw [List.getElem?_eq_getElem (by rw [HKN.out]; omega)] at hx; exact Option.some.inj hx] at k0
            obtain ⟨c, hc⟩ : ∃ c, nxt (st.take (st.length - (n - (j + 1)))) = c := ⟨_, rfl⟩
            have hSc : S'[k]? = some c := by rw [← hc]; exact HC.out
            have e0 := own_cell hos' (j := k) (u := .int .i64 c) (by rw [List.getElem?_map, hSc]; rfl)
            have hcb := nxt_bnd HCh'.out (st.length - (n - (j + 1)))
            rw [hc] at hcb
            have hwc : IntKind.i64.wrap (c - 1) = c - 1 := by simp only [IntKind.wrap_i64, wrap64]; omega
            clear hkcc hSc
            by_cases hc0 : c = 0
            · have HE : Hid (treeI ts = false) := (HNO.out (kid_zero HCh'.out HKN.out hjn HQ.out hc hc0) : treeI ts = false)
              clear hc hx hcb hwc hos' hoo
              subst hc0
              go_wp2
              go_ret
              exact ⟨ret_b HE.out.symm, hbe⟩
            · by_cases hxc : x = c - 1
              · obtain ⟨y, hxy, hyk, hq2, hSy, hd2⟩ := kid_at HCh'.out HKN.out hjn HQ.out hc hx hc0 hxc HD.out
                have hcy : c = (y : Int) + 1 := by omega
                subst hxy hcy
                obtain ⟨v2, hv2⟩ : ∃ v, nxt (st.take (st.length - (n - j))) = v := ⟨_, rfl⟩
                rw [hv2] at hSy
                have HV2 : Hid (nxt (st.take (st.length - (n - j))) = v2) := hv2
                have e2 := own_cell hos' (j := y) (u := .int .i64 v2) (by rw [List.getElem?_map, hSy]; rfl)
                have f0 := hos'.frozenAt k
                obtain ⟨z0, hz0'⟩ : ∃ z, os[j]? = some z := ⟨_, List.getElem?_eq_getElem (by rw [HOL.out]; omega)⟩
                have e3 := own_cell hoo (j := j) (u := .int .i64 z0) (by rw [List.getElem?_map, hz0']; rfl)
                have f3 := hoo.frozenAt j
                have hyt : y < ts.length := by omega
                have hyti : (y : Int) < ts.length := by omega
                obtain ⟨kvy, hNy, _⟩ := HN.out y hyt
                have c0 := (hNy.below hbe hg).c0
                rw [← opA_eq hyt] at c0
                obtain ⟨op, hop⟩ : ∃ v, opA ts y = v := ⟨_, rfl⟩
                rw [hop] at c0
                have HOP : Hid (opA ts y = op) := hop
                have hlb2 : w.heap.size + 1 < wr.heap.size := (hos'.lt _ rfl).2
                have hlb3 : wo.heap.size + 1 < wr.heap.size := (hoo.lt _ rfl).2
                have hne : ¬ wo.heap.size + 1 = w.heap.size + 1 := by omega
                have hne2 : ¬ w.heap.size + 1 = wo.heap.size + 1 := by omega
                have HS2 : Hid (World.ownsRow ((wr.setCell ⟨w.heap.size + 1, k, none⟩ (.int .i64 v2)).setCell ⟨wo.heap.size + 1, j, none⟩ (.int .i64 op)) w.heap.size 3 1 (.slice (some ⟨w.heap.size + 1, 0, none⟩) ts.length ts.length) ts.length ((S'.set k v2).map (Value.int .i64))) := (by
                  have := ownsRow_setCell_other (hos'.stored k (.int .i64 v2)).1 (a := ⟨wo.heap.size + 1, j, none⟩) (by simp [Value.ownBlock]; omega) (.int .i64 op)
                  rw [List.map_set]; exact this : World.ownsRow ((wr.setCell ⟨w.heap.size + 1, k, none⟩ (.int .i64 v2)).setCell ⟨wo.heap.size + 1, j, none⟩ (.int .i64 op)) w.heap.size 3 1 (.slice (some ⟨w.heap.size + 1, 0, none⟩) ts.length ts.length) ts.length ((S'.set k v2).map (Value.int .i64)))
                have HO2 : Hid (World.ownsRow ((wr.setCell ⟨w.heap.size + 1, k, none⟩ (.int .i64 v2)).setCell ⟨wo.heap.size + 1, j, none⟩ (.int .i64 op)) w.heap.size 3 1 (.slice (some ⟨wo.heap.size + 1, 0, none⟩) n n) n ((os.set j op).map (Value.int .i64))) := (by
                  have := ((ownsRow_setCell_other hoo (a := ⟨w.heap.size + 1, k, none⟩) (by simp [Value.ownBlock]; omega) (.int .i64 v2)).stored j (.int .i64 op)).1
                  rw [List.map_set]; exact this : World.ownsRow ((wr.setCell ⟨w.heap.size + 1, k, none⟩ (.int .i64 v2)).setCell ⟨wo.heap.size + 1, j, none⟩ (.int .i64 op)) w.heap.size 3 1 (.slice (some ⟨wo.heap.size + 1, 0, none⟩) n n) n ((os.set j op).map (Value.int .i64)))
                have HN2 : Hid (NodeAt ((wr.setCell ⟨w.heap.size + 1, k, none⟩ (.int .i64 v2)).setCell ⟨wo.heap.size + 1, j, none⟩ (.int .i64 op)) wo.heap.size 0 t (.slice (some ⟨kg, ko, none⟩) n kc)) := (HND.out.set (by omega)).set (by omega)
                have HD2 : Hid (t.kids.drop j = st.drop (st.length - (n - j))) := hd2
                have HQ2 : Hid (n - j ≤ st.length) := hq2
                have HXJ : Hid (t.kids[j]? = some (y : Int)) := hx
                clear hos' hoo hNy hop hv2 hSy hz0' hd2 hq2 hx hc hcb hc0 hxc HND
                have hcz : ((y : Int) + 1 == 0) = false := by simp; omega
                have hyy : IntKind.i64.wrap ((y : Int) + 1 - 1) = (y : Int) := by simp only [IntKind.wrap_i64, wrap64]; omega
                clear hwc
                go_wp2
                go_roundw
                case rel =>
                  refine ⟨j, S'.set k v2, os.set j op, by omega, rfl, (by rw [List.length_set]; exact HSL'.out : (S'.set k v2).length = ts.length), (by rw [List.length_set]; exact HOL.out : (os.set j op).length = n), HCh'.out.same (fun x hx => List.getElem?_set_ne (by omega)), HQ2, ?_, HD2, ?_, HS2, HO2, HN2, (hbe.setCell (by simp) _).setCell (by simp; omega) _⟩
                  · show (S'.set k v2)[k]? = some (nxt (st.take (st.length - (n - j))))
                    rw [HV2.out, List.getElem?_set_self (by rw [HSL'.out]; omega)]
                  · show (os.set j op).drop j = (t.kids.drop j).map fun x => opA ts x.toNat
                    have hjk : j < t.kids.length := by rw [HKN.out]; exact hjn
                    have hy : t.kids[j] = (y : Int) := by have := HXJ.out; rw [List.getElem?_eq_getElem hjk] at this; exact Option.some.inj this
                    have := map_set_ops (ts := ts) hjk (by rw [HOL.out, HKN.out]) HM.out
                    rw [hy, Int.toNat_natCast, HOP.out] at this
                    exact this
                case measure => simp [intOf]
              · have HE : Hid (treeI ts = false) := (HNO.out (kid_other HCh'.out HKN.out hjn HQ.out hc hx hc0 hxc) : treeI ts = false)
                have hxb : (x == c - 1) = false := by simpa using hxc
                have hcz : (c == 0) = false := by simpa using hc0
                clear hc hx hcb hos' hoo hc0 hxc
                go_wp2
                go_ret
                exact ⟨ret_b HE.out.symm, hbe⟩
    · have hkn : k = ts.length := by omega
      subst hkn
      have hlti : ¬ (ts.length : Int) < ts.length := by omega
      obtain ⟨l, HEQ, HSV⟩ := last_fact HCh.out (by omega)
      obtain ⟨z, hz⟩ : ∃ z, nxt l = z := ⟨_, rfl⟩
      rw [hz] at HSV
      have hlast : ts.length - 1 < ts.length := by omega
      have hw1 : IntKind.i64.wrap ((ts.length : Int) - 1) = ((ts.length - 1 : Nat) : Int) := by simp only [IntKind.wrap_i64, wrap64]; omega
      have hli : ((ts.length - 1 : Nat) : Int) < ts.length := by omega
      have e1 := own_cell ho (j := ts.length - 1) (u := .int .i64 z) (by rw [List.getElem?_map, HSV]; rfl)
      have HOB : Hid (ordB ts = decide ((st.length : Int) = 1)) := (ordB_some (by rw [HO.out, List.drop_length]; rfl) : ordB ts = decide ((st.length : Int) = 1))
      obtain ⟨kvl, hNl, _⟩ := HN.out _ hlast
      have cl := (hNl.below hbel hg).c0
      rw [← opA_eq hlast] at cl
      have hst := fun W => isStm_spec (opA ts (ts.length - 1)) W
      clear hNl ho
      by_cases hz0' : z = 0
      · have hlz := last_zero HCh.out HEQ (hz.trans hz0')
        have HTI : Hid (treeI ts = (isStm (opA ts (ts.length - 1)) && (firstI (depths ts) == -1))) := (by
          unfold treeI
          rw [HOB.out, decide_eq_true hlz, all_take (fun j h hj => (HP.out j h hj).1) rfl, decide_eq_true (show 1 ≤ (ts.length : Int) by omega), decide_eq_true (show (ts.length : Int) ≤ 6000 by omega)]
          simp : treeI ts = (isStm (opA ts (ts.length - 1)) && (firstI (depths ts) == -1)))
        clear HSV hlz HEQ hz
        subst hz0'
        cases hs : isStm (opA ts (ts.length - 1))
        · rw [hs] at hst HTI
          generalize ts.length - 1 = lst at *
          go_wp2_with (go_at_call 26; fail)
          refine (hst _).mono ?_
          rintro e w3 ⟨rfl, h3⟩
          replace h3 := h3.symm
          subst h3
          go_wp2
          go_ret
          exact ⟨ret_b HTI.out.symm, hbel⟩
        · rw [hs] at hst HTI
          have hd := depths_27 ts (.slice (some ⟨g, o, none⟩) ts.length cap) wo hlen (fun i h => ⟨(HS.out i h).d, (HP.out i h h).2⟩) ⟨_, _, rfl, fun _ => ⟨g, o, rfl, Nat.lt_of_lt_of_le hg hbs, fun i h => let ⟨kv, a, b⟩ := HN.out.below hbel hg i h; ⟨kv, a, b.ri⟩⟩⟩
          obtain ⟨ds, hds⟩ : ∃ ds, depths ts = ds := ⟨_, rfl⟩
          have hdl : ds.length = ts.length := by rw [← hds]; exact depths_len ts
          rw [hds] at hd HTI
          clear hds
          generalize ts.length - 1 = lst at *
          go_wp2_with (go_at_call 26; fail)
          refine (hst _).mono ?_
          rintro e w3 ⟨rfl, h3⟩
          replace h3 := h3.symm
          subst h3
          go_wp2_with (go_at_call 27; fail)
          refine hd.mono ?_
          rintro e w4 ⟨v4, rfl, hri, hb4⟩
          have bw4 : Below w.heap.size w w4 := hbel.trans (hb4.mono hbs)
          obtain ⟨da, dc, rfl, hdc⟩ := hri
          clear hb4 hd
          go_wp2
          go_loopw [149] (fun iv wx => ∃ m : Nat, m ≤ ds.length ∧ iv = .int .i64 m ∧ Hid (∀ j (h : j < ds.length), j < m → ¬ 100 ≤ ds[j]) ∧ wx = w4) (fun iv _ => ds.length - (intOf iv).toNat)
          case atStart => exact ⟨0, Nat.zero_le _, rfl, (fun j h hj => by omega : ∀ j (h : j < ds.length), j < 0 → ¬ 100 ≤ ds[j]), rfl⟩
          case round =>
            obtain ⟨m, hm, rfl, HA, hw⟩ := hrel
            subst hw
            by_cases hml : m < ds.length
            · have hmli : (m : Int) < ds.length := by omega
              obtain ⟨dg, do', rfl, hdg, hdcc⟩ := hdc (by omega)
              have k0 := hdcc m hml
              obtain ⟨x, hx⟩ : ∃ x, ds[m] = x := ⟨_, rfl⟩
              rw [hx] at k0
              have HX : Hid (ds[m] = x) := hx
              clear hdcc hx
              by_cases h100 : 100 ≤ x
              · have HE : Hid (treeI ts = false) := (by rw [HTI.out, firstI_bad hml (by rw [HX.out]; exact h100)]; rfl : treeI ts = false)
                go_wp2
                go_ret
                exact ⟨ret_b HE.out.symm, bw4⟩
              · have HA2 : Hid (∀ j (h : j < ds.length), j < m + 1 → ¬ 100 ≤ ds[j]) := (fun j h hj => by
                  by_cases e : j = m
                  · subst e; rw [HX.out]; exact h100
                  · exact HA.out j h (by omega) : ∀ j (h : j < ds.length), j < m + 1 → ¬ 100 ≤ ds[j])
                go_wp2
                go_roundw
                case rel => exact ⟨m + 1, by omega, by go_num, HA2, by first | rfl | trivial⟩
                case measure => simp [intOf]; omega
            · have hmn : m = ds.length := by omega
              subst hmn
              have hmli : ¬ (ds.length : Int) < ds.length := by omega
              have HE : Hid (treeI ts = true) := (by
                rw [HTI.out, firstI_ok (fun x hx => by
                  obtain ⟨j, hj, rfl⟩ := List.getElem_of_mem hx
                  exact HA.out j hj hj)]; rfl : treeI ts = true)
              go_wp2
              go_ret
              exact ⟨ret_b HE.out.symm, bw4⟩
      · have HE : Hid (treeI ts = false) := (by
          unfold treeI
          rw [HOB.out, last_other HEQ (by rw [hz]; exact hz0')]
          simp : treeI ts = false)
        have hzb : (z == 0) = false := by simpa using hz0'
        clear HSV HEQ hz hz0'
        generalize ts.length - 1 = lst at *
        go_wp2
        go_ret
        exact ⟨ret_b HE.out.symm, hbel⟩
end Go.Proofs.YtghdjagomdgnfaaDoor
