import Derived.Test.YtoieiegjhjedoaaSG0
namespace Go.Proofs.Ytoieiegjhjedoaa
open Go.ChangeShapes Go.WideShapes Go.ChangeAt Go.RowKit
set_option linter.unusedVariables false
set_option linter.unusedSimpArgs false
set_option maxRecDepth 100000
set_option maxHeartbeats 8000000 in
theorem starts_any (ts : List XN) (na : Option Addr) (nc : Nat) (w : World) (hlen : ts.length ≤ 400) (hv : RS 8 CX 0 w (.slice na ts.length nc) ts) :
    Calls Try.prog 32 #[.slice na ts.length nc] w fun e w' => (∃ v, e = .returned (.tuple #[v, .bool (ordB ts)])) ∧ Below w.heap.size w w' := by
  obtain ⟨i0, hi, hz0, hz1, hz2⟩ := info_parts info3
  obtain ⟨a', c', he, hcells⟩ := hv
  simp only [Value.slice.injEq] at he
  obtain ⟨rfl, _, rfl⟩ := he
  go_enter Try.func32, Try.ntmps32
  go_wp2_with (refine wpList_make_full _ rfl (.tmp 10) (.tmp 10) 35 rfl w.heap.size 3 i0 _ 1 Try.underlying35 hi hz0 hz1 .i64 .i64 ts.length ts.length ts.length rfl rfl rfl rfl (by rw [hz2]; omega) (by unfold maxLen; omega) (Nat.le_refl _) ?_; intro w1 hown hgrow)
  have HB : Hid (Below w.heap.size w w1) := (Below.refl _ _).grown hgrow (Nat.le_refl _) (fun k hk => by simp at hk)
  have hb := HB.out
  have hzb := hb.size
  have hos : w1.ownsRow w.heap.size 3 1 (.slice (some ⟨w.heap.size, 0, none⟩) ts.length ts.length) ts.length ((List.replicate ts.length (0 : Int)).map (Value.int .i64)) := by
    have h0 : (Value.int IntKind.i64 0).cells = #[Value.int IntKind.i64 0] := rfl
    simpa [madeCells, h0, Nat.mod_one, List.map_const'] using hown
  clear hown hgrow HB
  go_loopw [14] (fun iv wr => ∃ (k : Nat) (S st : List Int), k ≤ ts.length ∧ iv = .int .i64 k ∧ Hid (S.length = ts.length) ∧ Hid (Chn S st k) ∧ Hid (ordS (ts.map XN.kids) 0 [] = ordS ((ts.drop k).map XN.kids) k st) ∧ wr.ownsRow w.heap.size 3 1 (.slice (some ⟨w.heap.size, 0, none⟩) ts.length ts.length) ts.length (S.map (Value.int .i64)) ∧ Below w.heap.size w wr) (fun iv _ => ts.length - (intOf iv).toNat)
  case atStart => exact ⟨0, List.replicate ts.length 0, [], Nat.zero_le _, rfl, (by simp : (List.replicate ts.length (0 : Int)).length = ts.length), Chn.zero _, rfl, hos, hb⟩
  case round =>
    obtain ⟨k, S, st, hk, rfl, HSL, HCh, HO, ho, hbel⟩ := hrel
    obtain ⟨wo, hwo⟩ : ∃ x, x = wr := ⟨_, rfl⟩
    subst hwo
    have hbs := hbel.size
    by_cases hlt : k < ts.length
    · have hlti : (k : Int) < ts.length := by omega
      obtain ⟨g, o, rfl, _, hg, hgc⟩ := hcells (by omega)
      obtain ⟨cs, hC, hcell⟩ := hgc k hlt
      have HNO : Hid (¬ (ts[k].kids.length ≤ st.length ∧ st.drop (st.length - ts[k].kids.length) = ts[k].kids) → ordB ts = false) := (fun h => ordB_none (by rw [HO.out, List.drop_eq_getElem_cons hlt, List.map_cons]; exact ordS_no h) : ¬ (ts[k].kids.length ≤ st.length ∧ st.drop (st.length - ts[k].kids.length) = ts[k].kids) → ordB ts = false)
      have HNX : Hid (ts[k].kids.length ≤ st.length ∧ st.drop (st.length - ts[k].kids.length) = ts[k].kids → ordS (ts.map XN.kids) 0 [] = ordS ((ts.drop (k + 1)).map XN.kids) (k + 1) (st.take (st.length - ts[k].kids.length) ++ [(k : Int)])) := (fun h => by rw [HO.out, List.drop_eq_getElem_cons hlt, List.map_cons]; exact ordS_yes h : ts[k].kids.length ≤ st.length ∧ st.drop (st.length - ts[k].kids.length) = ts[k].kids → ordS (ts.map XN.kids) 0 [] = ordS ((ts.drop (k + 1)).map XN.kids) (k + 1) (st.take (st.length - ts[k].kids.length) ++ [(k : Int)]))
      clear HO hgc
      generalize ts[k] = t at *
      obtain ⟨v0, rfl, hr0⟩ := hC
      have hri := hr0.ri
      obtain ⟨ka, kc, rfl, hkc⟩ := hri
      have HKC : Hid (0 < t.kids.length → ∃ g o, ka = some ⟨g, o, none⟩ ∧ g < w.heap.size ∧ ∀ i (h : i < t.kids.length), w.cell? ⟨g, o + i, none⟩ = some (.int .i64 t.kids[i])) := hkc
      have HST : Hid (st.length ≤ k) := HCh.out.ln
      obtain ⟨n, hkn⟩ : ∃ n, t.kids.length = n := ⟨_, rfl⟩
      have HKN : Hid (t.kids.length = n) := hkn
      rw [hkn] at hcell
      have c0 : wo.cell? ⟨g, o + k * 8, none⟩ = some (.int .i64 t.op) := (hbel.cell (p := ⟨g, o + k * 8, none⟩) hg).trans (hcell 0 (by omega))
      have c1 : wo.cell? ⟨g, o + k * 8 + 1, none⟩ = some (.int .i64 t.kind) := (hbel.cell (p := ⟨g, o + k * 8 + 1, none⟩) hg).trans (hcell 1 (by omega))
      have c2 : wo.cell? ⟨g, o + k * 8 + 2, none⟩ = some (.int .i64 t.a) := (hbel.cell (p := ⟨g, o + k * 8 + 2, none⟩) hg).trans (hcell 2 (by omega))
      have c3 : wo.cell? ⟨g, o + k * 8 + 3, none⟩ = some (.int .i64 t.b) := (hbel.cell (p := ⟨g, o + k * 8 + 3, none⟩) hg).trans (hcell 3 (by omega))
      have c4 : wo.cell? ⟨g, o + k * 8 + 4, none⟩ = some (.int .i64 t.vk) := (hbel.cell (p := ⟨g, o + k * 8 + 4, none⟩) hg).trans (hcell 4 (by omega))
      have c5 : wo.cell? ⟨g, o + k * 8 + 5, none⟩ = some (.int .i64 t.vn) := (hbel.cell (p := ⟨g, o + k * 8 + 5, none⟩) hg).trans (hcell 5 (by omega))
      have c6 : wo.cell? ⟨g, o + k * 8 + 6, none⟩ = some (.string t.vs) := (hbel.cell (p := ⟨g, o + k * 8 + 6, none⟩) hg).trans (hcell 6 (by omega))
      have c7 : wo.cell? ⟨g, o + k * 8 + 7, none⟩ = some (.slice ka n kc) := (hbel.cell (p := ⟨g, o + k * 8 + 7, none⟩) hg).trans (hcell 7 (by omega))
      clear hcell hkc hr0 hcells
      by_cases hlong : (k : Int) < n
      · have HE : Hid (ordB ts = false) := (HNO.out (kid_short (by have := HST.out; omega)) : ordB ts = false)
        clear hkn
        go_wp2
        refine bodyPost_ret (v := .tuple #[.slice (some ⟨w.heap.size, 0, none⟩) ts.length ts.length, .bool false]) (by simp [results, Try.results32, go_sem]) rfl ⟨⟨_, by rw [HE.out]⟩, hbel.alloc hbs _⟩
      · clear hkn
        have hnk : n ≤ k := by omega
        have hlb : w.heap.size < wo.heap.size := (ho.lt _ rfl).2
        obtain ⟨y0, hy0⟩ : ∃ u, S[k]? = some u := ⟨_, List.getElem?_eq_getElem (by rw [HSL.out]; omega)⟩
        have e1 := own_cell ho (j := k) (u := .int .i64 y0) (by rw [List.getElem?_map, hy0]; rfl)
        have f1 := ho.frozenAt k
        have HO1 : Hid (World.ownsRow ((wo.setCell ⟨w.heap.size, k, none⟩ (.int .i64 k)).alloc (.cells #[.int .i64 t.op, .int .i64 t.kind, .int .i64 t.a, .int .i64 t.b, .int .i64 t.vk, .int .i64 t.vn, .string t.vs, .slice ka n kc] 66)) w.heap.size 3 1 (.slice (some ⟨w.heap.size, 0, none⟩) ts.length ts.length) ts.length ((S.set k k).map (Value.int .i64))) := (by
          have := (ho.stored k (.int .i64 k)).1
          rw [List.map_set]; exact own_below this (below_alloc _ _) : World.ownsRow ((wo.setCell ⟨w.heap.size, k, none⟩ (.int .i64 k)).alloc (.cells #[.int .i64 t.op, .int .i64 t.kind, .int .i64 t.a, .int .i64 t.b, .int .i64 t.vk, .int .i64 t.vn, .string t.vs, .slice ka n kc] 66)) w.heap.size 3 1 (.slice (some ⟨w.heap.size, 0, none⟩) ts.length ts.length) ts.length ((S.set k k).map (Value.int .i64)))
        have hsz : (wo.setCell ⟨w.heap.size, k, none⟩ (.int .i64 k)).heap.size = wo.heap.size := by simp
        have HD7 : Hid (((wo.setCell ⟨w.heap.size, k, none⟩ (.int .i64 k)).alloc (.cells #[.int .i64 t.op, .int .i64 t.kind, .int .i64 t.a, .int .i64 t.b, .int .i64 t.vk, .int .i64 t.vn, .string t.vs, .slice ka n kc] 66)).cell? ⟨wo.heap.size, 7, none⟩ = some (.slice ka n kc)) := (by rw [← hsz]; exact (blk_new (wo.setCell ⟨w.heap.size, k, none⟩ (.int .i64 k)) [.int .i64 t.op, .int .i64 t.kind, .int .i64 t.a, .int .i64 t.b, .int .i64 t.vk, .int .i64 t.vn, .string t.vs, .slice ka n kc] 66 7 (by simp)).1 : ((wo.setCell ⟨w.heap.size, k, none⟩ (.int .i64 k)).alloc (.cells #[.int .i64 t.op, .int .i64 t.kind, .int .i64 t.a, .int .i64 t.b, .int .i64 t.vk, .int .i64 t.vn, .string t.vs, .slice ka n kc] 66)).cell? ⟨wo.heap.size, 7, none⟩ = some (.slice ka n kc))
        have HBW : Hid (Below w.heap.size w ((wo.setCell ⟨w.heap.size, k, none⟩ (.int .i64 k)).alloc (.cells #[.int .i64 t.op, .int .i64 t.kind, .int .i64 t.a, .int .i64 t.b, .int .i64 t.vk, .int .i64 t.vn, .string t.vs, .slice ka n kc] 66))) := (hbel.setCell (Nat.le_refl _) (.int .i64 k)).alloc (by rw [hsz]; exact hbs) _
        have hwn : IntKind.i64.wrap ((n : Int) - 1) = (n : Int) - 1 := by simp only [IntKind.wrap_i64, wrap64]; omega
        clear ho hy0
        go_wp2
        go_loopw [7] (fun jv wx => ∃ (m : Nat) (S' : List Int), m ≤ n ∧ jv = .int .i64 ((m : Int) - 1) ∧ Hid (S'.length = ts.length) ∧ Hid (Chn S' st k) ∧ Hid (n - m ≤ st.length) ∧ Hid (S'[k]? = some (nxt (st.take (st.length - (n - m))))) ∧ Hid (t.kids.drop m = st.drop (st.length - (n - m))) ∧ Hid (wx.ownsRow w.heap.size 3 1 (.slice (some ⟨w.heap.size, 0, none⟩) ts.length ts.length) ts.length (S'.map (Value.int .i64))) ∧ wx.cell? ⟨wo.heap.size, 7, none⟩ = some (.slice ka n kc) ∧ Below w.heap.size w wx) (fun jv _ => ((intOf jv) + 1).toNat)
        case atStart =>
          refine ⟨n, S.set k k, Nat.le_refl _, rfl, (by rw [List.length_set]; exact HSL.out : (S.set k (k : Int)).length = ts.length), HCh.out.same (fun x hx => List.getElem?_set_ne (by omega)), (by omega : n - n ≤ st.length), ?_, ?_, HO1, HD7.out, HBW.out⟩
          · show (S.set k (k : Int))[k]? = some (nxt (st.take (st.length - (n - n))))
            rw [Nat.sub_self, Nat.sub_zero, List.take_length, HCh.out.nx, List.getElem?_set_self (by rw [HSL.out]; omega)]
          · show t.kids.drop n = st.drop (st.length - (n - n))
            rw [Nat.sub_self, Nat.sub_zero, List.drop_length, ← HKN.out, List.drop_length]
        case round =>
          obtain ⟨m, S', hm, rfl, HSL', HCh', HQ, HC, HD, HOS', d7, hbe⟩ := hrel
          clear HO1 HBW HD7 hsz e1 f1 c0 c1 c2 c3 c4 c5 c6 c7
          have hbes := hbe.size
          have hos' := HOS'.out
          cases m with
          | zero =>
            have hyes : t.kids.length ≤ st.length ∧ st.drop (st.length - t.kids.length) = t.kids := by
              have h1 := HQ.out
              have h2 := HD.out
              rw [Nat.sub_zero] at h1 h2
              rw [HKN.out]
              exact ⟨h1, h2.symm⟩
            have HCH2 : Hid (Chn S' (st.take (st.length - n) ++ [(k : Int)]) (k + 1)) := HCh'.out.step (Nat.sub_le _ _) HC.out
            have HO2 : Hid (ordS (ts.map XN.kids) 0 [] = ordS ((ts.drop (k + 1)).map XN.kids) (k + 1) (st.take (st.length - n) ++ [(k : Int)])) := (by have := HNX.out hyes; rw [HKN.out] at this; exact this : ordS (ts.map XN.kids) 0 [] = ordS ((ts.drop (k + 1)).map XN.kids) (k + 1) (st.take (st.length - n) ++ [(k : Int)]))
            clear hyes HC HD HQ hos'
            go_wp2
            go_roundw
            case rel => exact ⟨k + 1, S', st.take (st.length - n) ++ [(k : Int)], by omega, by go_num, HSL', HCH2, HO2, HOS'.out, hbe⟩
            case measure => simp [intOf]; omega
          | succ j =>
            rw [show ((j + 1 : Nat) : Int) - 1 = (j : Int) by omega]
            have hjn : j < n := by omega
            have hjni : (j : Int) < n := by omega
            have hwj : IntKind.i64.wrap ((j : Int) - 1) = (j : Int) - 1 := by simp only [IntKind.wrap_i64, wrap64]; omega
            obtain ⟨kg, ko, rfl, hkg, hkcc⟩ := HKC.out (by rw [HKN.out]; omega)
            obtain ⟨x, hx⟩ : ∃ x, t.kids[j]? = some x := ⟨_, List.getElem?_eq_getElem (by rw [HKN.out]; omega)⟩
            have k0 := (hbe.cell (p := ⟨kg, ko + j, none⟩) hkg).trans (hkcc j (by rw [HKN.out]; omega))
            rw [show t.kids[j]'(by rw [HKN.out]; omega) = x by rw [List.getElem?_eq_getElem (by rw [HKN.out]; omega)] at hx; exact Option.some.inj hx] at k0
            obtain ⟨c, hc⟩ : ∃ c, nxt (st.take (st.length - (n - (j + 1)))) = c := ⟨_, rfl⟩
            have hSc : S'[k]? = some c := by rw [← hc]; exact HC.out
            have e0 := own_cell hos' (j := k) (u := .int .i64 c) (by rw [List.getElem?_map, hSc]; rfl)
            have hcb := nxt_bnd HCh'.out (st.length - (n - (j + 1)))
            rw [hc] at hcb
            have hwc : IntKind.i64.wrap (c - 1) = c - 1 := by simp only [IntKind.wrap_i64, wrap64]; omega
            clear hkcc hSc
            by_cases hc0 : c = 0
            · have HE : Hid (ordB ts = false) := (HNO.out (kid_zero HCh'.out HKN.out hjn HQ.out hc hc0) : ordB ts = false)
              clear hc hx hcb hwc hos'
              subst hc0
              go_wp2
              refine bodyPost_ret (v := .tuple #[.slice (some ⟨w.heap.size, 0, none⟩) ts.length ts.length, .bool false]) (by simp [results, Try.results32, go_sem]) rfl ⟨⟨_, by rw [HE.out]⟩, hbe⟩
            · by_cases hxc : x = c - 1
              · obtain ⟨y, hxy, hyk, hq2, hSy, hd2⟩ := kid_at HCh'.out HKN.out hjn HQ.out hc hx hc0 hxc HD.out
                have hcy : c = (y : Int) + 1 := by omega
                subst hxy hcy
                obtain ⟨v2, hv2⟩ : ∃ v, nxt (st.take (st.length - (n - j))) = v := ⟨_, rfl⟩
                rw [hv2] at hSy
                have HV2 : Hid (nxt (st.take (st.length - (n - j))) = v2) := hv2
                have e2 := own_cell hos' (j := y) (u := .int .i64 v2) (by rw [List.getElem?_map, hSy]; rfl)
                have f0 := hos'.frozenAt k
                have hyti : (y : Int) < ts.length := by omega
                have hlb2 : w.heap.size < wr.heap.size := (hos'.lt _ rfl).2
                have HS2 : Hid (World.ownsRow (wr.setCell ⟨w.heap.size, k, none⟩ (.int .i64 v2)) w.heap.size 3 1 (.slice (some ⟨w.heap.size, 0, none⟩) ts.length ts.length) ts.length ((S'.set k v2).map (Value.int .i64))) := (by
                  have := (hos'.stored k (.int .i64 v2)).1
                  rw [List.map_set]; exact this : World.ownsRow (wr.setCell ⟨w.heap.size, k, none⟩ (.int .i64 v2)) w.heap.size 3 1 (.slice (some ⟨w.heap.size, 0, none⟩) ts.length ts.length) ts.length ((S'.set k v2).map (Value.int .i64)))
                have HD7 : Hid ((wr.setCell ⟨w.heap.size, k, none⟩ (.int .i64 v2)).cell? ⟨wo.heap.size, 7, none⟩ = some (.slice (some ⟨kg, ko, none⟩) n kc)) := (by
                  rw [World.cell?_setCell_other wr ⟨w.heap.size, k, none⟩ ⟨wo.heap.size, 7, none⟩ _ (fun e => by have := congrArg Addr.block e; simp at this; omega)]; exact d7 : (wr.setCell ⟨w.heap.size, k, none⟩ (.int .i64 v2)).cell? ⟨wo.heap.size, 7, none⟩ = some (.slice (some ⟨kg, ko, none⟩) n kc))
                have HD2 : Hid (t.kids.drop j = st.drop (st.length - (n - j))) := hd2
                have HQ2 : Hid (n - j ≤ st.length) := hq2
                clear hos' hv2 hSy hd2 hq2 hx hc hcb hc0 hxc
                have hcz : ((y : Int) + 1 == 0) = false := by simp; omega
                have hyy : IntKind.i64.wrap ((y : Int) + 1 - 1) = (y : Int) := by simp only [IntKind.wrap_i64, wrap64]; omega
                clear hwc
                go_wp2
                go_roundw
                case rel =>
                  refine ⟨j, S'.set k v2, by omega, rfl, (by rw [List.length_set]; exact HSL'.out : (S'.set k v2).length = ts.length), HCh'.out.same (fun x hx => List.getElem?_set_ne (by omega)), HQ2, ?_, HD2, HS2, HD7.out, hbe.setCell (Nat.le_refl _) _⟩
                  show (S'.set k v2)[k]? = some (nxt (st.take (st.length - (n - j))))
                  rw [HV2.out, List.getElem?_set_self (by rw [HSL'.out]; omega)]
                case measure => simp [intOf]
              · have HE : Hid (ordB ts = false) := (HNO.out (kid_other HCh'.out HKN.out hjn HQ.out hc hx hc0 hxc) : ordB ts = false)
                have hxb : (x == c - 1) = false := by simpa using hxc
                have hcz : (c == 0) = false := by simpa using hc0
                clear hc hx hcb hos' hc0 hxc
                go_wp2
                refine bodyPost_ret (v := .tuple #[.slice (some ⟨w.heap.size, 0, none⟩) ts.length ts.length, .bool false]) (by simp [results, Try.results32, go_sem]) rfl ⟨⟨_, by rw [HE.out]⟩, hbe⟩
    · have hkn : k = ts.length := by omega
      subst hkn
      have hlti : ¬ (ts.length : Int) < ts.length := by omega
      have HOB : Hid (ordB ts = decide ((st.length : Int) = 1)) := (ordB_some (by rw [HO.out, List.drop_length]; rfl) : ordB ts = decide ((st.length : Int) = 1))
      by_cases h0 : ts.length = 0
      · have HE : Hid (ordB ts = false) := (by rw [List.length_eq_zero_iff.1 h0]; rfl : ordB ts = false)
        have H0 : Hid (ts.length = 0) := h0
        clear h0
        go_wp2
        have hg0 : decide ((0 : Int) < (ts.length : Int)) = false := decide_eq_false (by have := H0.out; omega)
        have hg1 : decide (0 < ts.length) = false := decide_eq_false (by have := H0.out; omega)
        go_region
        all_goals
          go_wp2
          refine bodyPost_ret (v := .tuple #[.slice (some ⟨w.heap.size, 0, none⟩) ts.length ts.length, .bool false]) (by simp [results, Try.results32, go_sem]) rfl ⟨⟨_, by rw [HE.out]⟩, by first | exact hbel | exact hbel.drew | exact hbel.trans ((below_drewNt _ _).mono hbs)⟩
      · have HP0 : Hid ((0 : Int) < ts.length) := (by omega : (0 : Int) < ts.length)
        obtain ⟨l, HEQ, HSV⟩ := last_fact HCh.out (by omega)
        obtain ⟨z, hz⟩ : ∃ z, nxt l = z := ⟨_, rfl⟩
        rw [hz] at HSV
        have hw1 : IntKind.i64.wrap ((ts.length : Int) - 1) = ((ts.length - 1 : Nat) : Int) := by simp only [IntKind.wrap_i64, wrap64]; omega
        have hli : ((ts.length - 1 : Nat) : Int) < ts.length := by omega
        have e1 := own_cell ho (j := ts.length - 1) (u := .int .i64 z) (by rw [List.getElem?_map, HSV]; rfl)
        have HE : Hid (ordB ts = (z == 0)) := (by
          rw [HOB.out]
          by_cases hz0' : z = 0
          · rw [decide_eq_true (last_zero HCh.out HEQ (hz.trans hz0')), hz0']; rfl
          · rw [last_other HEQ (by rw [hz]; exact hz0')]
            exact (by simpa using hz0' : (z == 0) = false).symm : ordB ts = (z == 0))
        clear HEQ HSV hz ho HOB
        generalize ts.length - 1 = lst at *
        go_wp2
        have hg2 : (0 : Int) < (ts.length : Int) := HP0.out
        have hg3 : decide ((0 : Int) < (ts.length : Int)) = true := decide_eq_true HP0.out
        have hg4 : decide (0 < ts.length) = true := decide_eq_true (by have := HP0.out; omega)
        go_region
        all_goals
          go_wp2
          refine bodyPost_ret (v := .tuple #[.slice (some ⟨w.heap.size, 0, none⟩) ts.length ts.length, .bool (z == 0)]) (by simp [results, Try.results32, go_sem]) rfl ⟨⟨_, by rw [HE.out]⟩, by first | exact hbel | exact hbel.drew | exact hbel.trans ((below_drewNt _ _).mono hbs)⟩
end Go.Proofs.Ytoieiegjhjedoaa
