import Derived.Test.YtjfgojlnpbehfaaXS
namespace Go.Proofs.Ytjfgojlnpbehfaa
open Go.ChangeShapes Go.WideShapes Go.ChangeAt Go.RowKit
set_option linter.unusedVariables false
set_option linter.unusedSimpArgs false
set_option maxRecDepth 100000
theorem indexOf_n (g c n : Nat) (ws : List Int) (b : Nat) (x : Int) (w : World) (hlen : ws.length = n) (hn : n ≤ 1000) (hr : IRow 3 b w g ws) :
    Calls Try.prog 32 #[.slice (some ⟨g, 0, none⟩) n c, .int .i64 x] w fun e w' => ((∃ k : Nat, ∃ hk : k < ws.length, e = .returned (.int .i64 (k : Int)) ∧ ws[k] = x ∧ ∀ j (hj : j < k), ws[j]'(by omega) ≠ x) ∨ (e = .returned (.int .i64 (-1)) ∧ ∀ j (hj : j < ws.length), ws[j] ≠ x)) ∧ w' = w := by
  subst hlen
  exact indexOf_impl g c ws b x w hn hr
/-- What is left to wait for; those that are taken have -1. -/
def Wts (us : List TI) (ws : List Int) (out out2 : List Nat) (j : Nat) : Prop := ws.length = us.length ∧ ∀ l (h : l < ws.length), ws[l] = if l ∈ out2 then -1 else (cntL us (if l < j then remL us.length out2 else remL us.length out) l : Int)
theorem wts_start {us : List TI} {ws : List Int} (h : Cnts us ws us.length 0) : Wts us ws [] [] 0 := ⟨h.1, fun l hl => by
  have := h.2 l hl
  rw [if_pos (by have := h.1; omega)] at this
  rw [this, remL_nil]
  simp⟩
theorem Wts.next {us : List TI} {ws : List Int} {out out2 : List Nat} (h : Wts us ws out out2 us.length) : Wts us ws out2 out2 0 := ⟨h.1, fun l hl => by
  have := h.2 l hl
  rw [this]
  have : l < us.length := by have := h.1; omega
  simp [this]⟩
theorem Wts.take {us : List TI} {ws : List Int} {out : List Nat} (k : Nat) (h : Wts us ws out out 0) : Wts us (ws.set k (-1)) out (out ++ [k]) 0 := ⟨by rw [List.length_set]; exact h.1, fun l hl => by
  rw [List.length_set] at hl
  have := h.2 l hl
  by_cases e : l = k
  · subst e
    rw [List.getElem_set_self, if_pos (by simp)]
  · rw [List.getElem_set_ne (by omega), this]
    simp [e]⟩
theorem ahead_self (us : List TI) (k : Nat) : aheadB us k k = false := by
  unfold aheadB
  split <;> simp
theorem not_ahead {us : List TI} {out : List Nat} {k j : Nat} (hs : SerOut us (out ++ [k])) (hj : j ∈ out ++ [k]) : aheadB us k j = false := by
  rcases List.mem_append.1 hj with h | h
  · obtain ⟨m, hm, rfl⟩ := List.getElem_of_mem h
    exact (serOut_ok hs (m := m) (m' := out.length) hm (by rw [List.getElem?_append_left hm]; exact List.getElem?_eq_getElem hm) (by rw [List.getElem?_append_right (Nat.le_refl _)]; simp)).2
  · rw [List.mem_singleton] at h
    subst h
    exact ahead_self us j
theorem Wts.keep {us : List TI} {ws : List Int} {out : List Nat} {k j : Nat} (h : Wts us ws out (out ++ [k]) j) (hk : k ∈ remL us.length out) (ha : aheadB us k j = false) : Wts us ws out (out ++ [k]) (j + 1) := ⟨h.1, fun l hl => by
  have := h.2 l hl
  rw [this]
  by_cases e : l = j
  · subst e
    have hc := cntL_push (us := us) l hk
    rw [ha] at hc
    rw [if_neg (show ¬ l < l by omega), if_pos (show l < l + 1 by omega)]
    simp at hc
    rw [hc]
  · by_cases e2 : l < j
    · rw [if_pos e2, if_pos (show l < j + 1 by omega)]
    · rw [if_neg e2, if_neg (show ¬ l < j + 1 by omega)]⟩
theorem Wts.step {us : List TI} {ws : List Int} {out : List Nat} {k j : Nat} (h : Wts us ws out (out ++ [k]) j) (hj : j < ws.length) (hk : k ∈ remL us.length out) (hs : SerOut us (out ++ [k])) (ha : aheadB us k j = true) : Wts us (ws.set j (ws[j] - 1)) out (out ++ [k]) (j + 1) := ⟨by rw [List.length_set]; exact h.1, fun l hl => by
  rw [List.length_set] at hl
  have := h.2 l hl
  by_cases e : l = j
  · subst e
    have hn : l ∉ out ++ [k] := fun hm => by rw [not_ahead hs hm] at ha; cases ha
    have hc := cntL_push (us := us) l hk
    rw [ha] at hc
    rw [if_neg hn, if_neg (show ¬ l < l by omega)] at this
    rw [List.getElem_set_self, if_neg hn, if_pos (show l < l + 1 by omega), this]
    simp at hc
    omega
  · rw [List.getElem_set_ne (by omega), this]
    by_cases e2 : l < j
    · rw [if_pos e2, if_pos (show l < j + 1 by omega)]
    · rw [if_neg e2, if_neg (show ¬ l < j + 1 by omega)]⟩
theorem Wts.small {us : List TI} {ws : List Int} {out out2 : List Nat} {j : Nat} (h : Wts us ws out out2 j) {l : Nat} (hl : l < ws.length) : -1 ≤ ws[l] ∧ ws[l] ≤ us.length := by
  have := h.2 l hl
  rw [this]
  split
  · omega
  · have h2 := cntL_le us (if l < j then remL us.length out2 else remL us.length out) l
    have h3 : (if l < j then remL us.length out2 else remL us.length out).length ≤ us.length := by split <;> exact remL_len _ _
    omega
theorem Wts.pick {us : List TI} {ws : List Int} {out : List Nat} {k : Nat} (h : Wts us ws out out 0) (hk : k < ws.length) (hz : ws[k] = 0) (hm : ∀ j (hj : j < k), ws[j]'(by omega) ≠ 0) : Pick us out k := by
  have h1 := h.2 k hk
  rw [hz] at h1
  have hno : k ∉ out := fun e => by rw [if_pos e] at h1; omega
  rw [if_neg hno, if_neg (Nat.not_lt_zero _)] at h1
  refine ⟨remL_mem.2 ⟨by rw [← h.1]; exact hk, hno⟩, by omega, fun j hj hr hc => hm j hj ?_⟩
  have h2 := h.2 j (by omega)
  rw [if_neg (remL_mem.1 hr).2, if_neg (Nat.not_lt_zero _), hc] at h2
  exact h2
theorem Wts.none {us : List TI} {ws : List Int} {out : List Nat} (h : Wts us ws out out 0) (hm : ∀ j (hj : j < ws.length), ws[j] ≠ 0) : NoPick us out := fun j hr hc => by
  have hj : j < ws.length := by rw [h.1]; exact (remL_mem.1 hr).1
  have h2 := h.2 j hj
  rw [if_neg (remL_mem.1 hr).2, if_neg (Nat.not_lt_zero _), hc] at h2
  exact hm j hj h2
theorem OutRow.cap {ty b : Nat} {w : World} {out : List Nat} {oa : Option Addr} {oc : Nat} (h : OutRow ty b w (.slice oa out.length oc) out) : out.length ≤ oc := by
  obtain ⟨_, h2⟩ := h
  rcases h2 with ⟨e, h0⟩ | ⟨q, cap, cur, e, _, _, h3, _⟩
  · omega
  · simp only [Value.slice.injEq] at e
    omega
def SerPost3 (us : List TI) (w : World) (e : Ending) (w' : World) : Prop := ∃ (a : Option Addr) (n cap : Nat) (c : Int) (l : List Int), e = .returned (.tuple #[.slice a n cap, .int .i64 c]) ∧ n ≤ cap ∧ RSW 1 CI w.heap.size w' (.slice a n cap) l ∧ SerC us l c ∧ Below w.heap.size w w'
set_option maxHeartbeats 16000000 in
theorem serial_impl3 (a : Option Addr) (ca : Nat) (us : List TI) (w : World) (hb : BH 1048576 us) (ha : RS 4 CT 0 w (.slice a us.length ca) us) :
    Calls Try.prog 15 #[.slice a us.length ca] w fun e w' => SerPost3 us w e w' := by
  obtain ⟨i0, hi, hz0, hz1, hz2⟩ := info_parts info3
  have hn := hb.1
  have hp := past_impl a ca us w (by omega) hb.2 ha
  clear hb ha
  go_enter Try.func15, Try.ntmps15
  go_wp2_with (go_at_call 26; fail)
  refine hp.mono ?_
  rintro e w1 ⟨hP, bw1⟩
  clear hp
  rcases hP with ⟨hH, v5, rfl, hr5⟩ | ⟨hH, rfl⟩
  · have HH := hid hH
    have hn1 : us.length ≤ 1000 := hH.1
    obtain ⟨pa, pc, hv5, _⟩ := id hr5
    subst hv5
    have HR5 := hid hr5
    have hq := waits_impl pa pc us _ w1 hH hr5
    clear hH hr5
    go_wp2_with (go_at_call 31; fail)
    refine hq.mono ?_
    rintro e w2 ⟨gw, ws0, rfl, hrw, hcn, hb2⟩
    have RW0 := hid hrw
    have HW0 := hid (wts_start hcn)
    have hgw1 := hrw.lt.1
    have hgw2 := hrw.lt.2
    have hw1s := bw1.size
    clear hq hrw hcn
    obtain ⟨q, hqe⟩ : ∃ x, x = w2.heap.size := ⟨_, rfl⟩
    rw [← hqe] at hgw2
    have OR0 : Hid (OutRow 3 q w2 (.slice none ([] : List Nat).length 0) []) := World.ownsRow_nil _ _ _ _
    have hq2 : q ≤ w2.heap.size := by omega
    clear hqe
    go_wp2
    go_loopw [7, 22] (fun v iv wr => ∃ (out : List Nat) (ws : List Int) (oa : Option Addr) (oc : Nat), out.length ≤ us.length ∧ v = .slice oa out.length oc ∧ iv = .int .i64 (out.length : Nat) ∧ q ≤ wr.heap.size ∧ Hid (OutRow 3 q wr (.slice oa out.length oc) out) ∧ Hid (IRow 3 w1.heap.size wr gw ws) ∧ Hid (Wts us ws out out 0) ∧ Hid (SerOut us out) ∧ Below w1.heap.size w1 wr) (fun _ iv _ => us.length - (intOf iv).toNat)
    case atStart => exact ⟨[], ws0, none, 0, Nat.zero_le _, rfl, rfl, hq2, OR0, RW0, HW0, serOut_nil us, hb2⟩
    case round =>
      clear OR0 RW0 HW0 hb2 hq2
      obtain ⟨out, ws, oa, oc, ho, rfl, rfl, hqw, HOR, RW, HW, HSO, hbel⟩ := hrel
      have hbs := hbel.size
      by_cases hlt : out.length < us.length
      · have hlti : (out.length : Int) < us.length := by omega
        have hix := indexOf_n gw us.length us.length ws _ 0 wr HW.out.1 hn1 RW.out
        go_wp2_with (go_at_call 32; fail)
        refine hix.mono ?_
        rintro e w' ⟨hI, hww⟩
        replace hww := hww.symm
        subst hww
        clear hix
        rcases hI with ⟨k, hk, rfl, hz, hm⟩ | ⟨rfl, hm⟩
        · have HPK := hid (HW.out.pick hk hz hm)
          have hku : k < us.length := by rw [← HW.out.1]; exact hk
          have hkn : ¬ (k : Int) < 0 := by omega
          have hki : (k : Int) < us.length := by omega
          clear hz hm
          have hnew : (Value.slice oa out.length oc).ownBlock ≠ some gw := fun e => by have := World.ownsRow.lt HOR.out gw e; omega
          have HNW := hid hnew
          have hqW := HOR.out.lt
          clear hnew
          go_wp2_with (at_builtin; refine wpList_append_own _ rfl (.tmp 28) (.tmp 30) 23 rfl q 3 i0 (.int .i64 0) 1 8 Try.underlying23 hi hz0 hz1 hz2 rfl (by decide) _ _ _ rfl (World.ownsRow.alloc HOR.out _) ⟨wr.heap.size, 0, none⟩ 1 1 [.int .i64 (k : Int)] rfl rfl (blk_new wr [.int .i64 (k : Int)] 3).cells (by intro u hu; simp at hu; subst hu; rfl) (by unfold maxLen; omega) (by omega) (by simp; omega) ?_; intro v6 w6 hown6 hgrow6 hiff6; clear hiff6; have RW6 := hid ((RW.out.below (below_alloc wr (.cells #[.int .i64 (k : Int)] 3))).grown hgrow6 HNW.out); have hcw0 : w6.cell? ⟨gw, k, none⟩ = some (.int .i64 ws[k]) := RW6.out.cell hk; have hfw0 : w6.frozen? ⟨gw, k, none⟩ = false := RW6.out.frozen k)
          obtain ⟨out2, hout2⟩ : ∃ x, x = out ++ [k] := ⟨_, rfl⟩
          have HL2 : Hid (out2.length = out.length + 1) := (by rw [hout2]; simp : out2.length = out.length + 1)
          have HOR6 : Hid (OutRow 3 q w6 v6 out2) := (by rw [hout2]; unfold OutRow; rw [List.map_append, List.length_append]; exact hown6 : OutRow 3 q w6 v6 out2)
          have bw6 : Below w1.heap.size w1 w6 := (hbel.alloc hbs _).grown hgrow6 (by simp; omega) (fun j hj => by have := hqW j hj; omega)
          have hq6 : q ≤ w6.heap.size := Nat.le_trans (by simp; omega) hgrow6.size
          have HSO6 : Hid (SerOut us out2) := (by rw [hout2]; exact serOut_push HSO.out HPK.out : SerOut us out2)
          have HW6 : Hid (Wts us (ws.set k (-1)) out out2 0) := (by rw [hout2]; exact HW.out.take k : Wts us (ws.set k (-1)) out out2 0)
          have HKR := hid HPK.out.1
          have HO2 := hid hout2
          obtain ⟨oa2, oc2, rfl⟩ := HOR6.out.form
          have RW7 := hid (RW6.out.set k (-1))
          have OR7 : Hid (OutRow 3 q (w6.setCell ⟨gw, k, none⟩ (.int .i64 (-1))) (.slice oa2 out2.length oc2) out2) := ownsRow_setCell_other HOR6.out (fun e => by have := World.ownsRow.lt HOR6.out gw e; omega) _
          have bw7 : Below w1.heap.size w1 (w6.setCell ⟨gw, k, none⟩ (.int .i64 (-1))) := bw6.setCell (show w1.heap.size ≤ (⟨gw, k, none⟩ : Addr).block by simp; omega) _
          have hq7 : q ≤ (w6.setCell ⟨gw, k, none⟩ (.int .i64 (-1))).heap.size := by simpa using hq6
          obtain ⟨g, o, rfl, _, hg, hgc⟩ := deal_at HR5.out (by omega)
          obtain ⟨hTp, c0, c1, c2, c3⟩ := hgc k hku
          have HGC := hid hgc
          have HD : Hid (us[k]? = some us[k]) := List.getElem?_eq_getElem hku
          have HF := hid (And.intro c0 (And.intro c1 (And.intro c2 c3)))
          clear hgc c0 c1 c2 c3 hown6 hgrow6 hout2 HPK HSO HW RW HOR HOR6 bw6 HNW hqW hbel hbs hq6 hcw0 hfw0
          generalize ws.set k (-1) = ws1 at RW7 HW6
          generalize us[k] = p at hTp HD HF
          clear RW6
          go_loopw [37] (fun jv wr => ∃ (l : Nat) (ws2 : List Int), l ≤ us.length ∧ jv = .int .i64 l ∧ q ≤ wr.heap.size ∧ Hid (IRow 3 w1.heap.size wr gw ws2) ∧ Hid (Wts us ws2 out out2 l) ∧ Hid (OutRow 3 q wr (.slice oa2 out2.length oc2) out2) ∧ Below w1.heap.size w1 wr) (fun jv _ => us.length - (intOf jv).toNat)
          case atStart => exact ⟨0, ws1, Nat.zero_le _, rfl, hq7, RW7, HW6, OR7, bw7⟩
          case round =>
            clear RW7 HW6 OR7 bw7 hq7
            obtain ⟨l, ws2, hl, rfl, hqw, RW, HW, HOR, hbel⟩ := hrel
            have hbs := hbel.size
            by_cases hlt2 : l < us.length
            · have hlti2 : (l : Int) < us.length := by omega
              obtain ⟨hTu, d0, d1, d2, d3⟩ := HGC.out l hlt2
              have HU : Hid (us[l]? = some us[l]) := List.getElem?_eq_getElem hlt2
              generalize us[l] = u at *
              replace d0 := (hbel.cell (p := ⟨g, o + l * 4, none⟩) hg).trans d0
              replace d1 := (hbel.cell (p := ⟨g, o + l * 4 + 1, none⟩) hg).trans d1
              replace d2 := (hbel.cell (p := ⟨g, o + l * 4 + 2, none⟩) hg).trans d2
              replace d3 := (hbel.cell (p := ⟨g, o + l * 4 + 3, none⟩) hg).trans d3
              have f0 : wr.cell? ⟨g, o + k * 4, none⟩ = some (.int .i64 p.bgn) := (hbel.cell (p := ⟨g, o + k * 4, none⟩) hg).trans HF.out.1
              have f1 : wr.cell? ⟨g, o + k * 4 + 1, none⟩ = some (.int .i64 p.com) := (hbel.cell (p := ⟨g, o + k * 4 + 1, none⟩) hg).trans HF.out.2.1
              have f2 : wr.cell? ⟨g, o + k * 4 + 2, none⟩ = some (.int .u64 (bitsOf p.reads : Nat)) := (hbel.cell (p := ⟨g, o + k * 4 + 2, none⟩) hg).trans HF.out.2.2.1
              have f3 : wr.cell? ⟨g, o + k * 4 + 3, none⟩ = some (.int .u64 (bitsOf p.writes : Nat)) := (hbel.cell (p := ⟨g, o + k * 4 + 3, none⟩) hg).trans HF.out.2.2.2
              have hgr : g < wr.heap.size := by omega
              have HAI := hid (ahead_iff HH.out HD.out HU.out)
              have hgwr : gw < wr.heap.size := RW.out.lt.2
              replace RW := hid (RW.out.below (below_alloc wr (.cells #[.int .i64 u.bgn, .int .i64 u.com, .int .u64 (bitsOf u.reads : Nat), .int .u64 (bitsOf u.writes : Nat)] 55)))
              replace HOR := hid (HOR.out.below (below_alloc wr (.cells #[.int .i64 u.bgn, .int .i64 u.com, .int .u64 (bitsOf u.reads : Nat), .int .u64 (bitsOf u.writes : Nat)] 55)))
              have bwW : Below w1.heap.size w1 (wr.alloc (.cells #[.int .i64 u.bgn, .int .i64 u.com, .int .u64 (bitsOf u.reads : Nat), .int .u64 (bitsOf u.writes : Nat)] 55)) := hbel.alloc hbs _
              have hqW : q ≤ (wr.alloc (.cells #[.int .i64 u.bgn, .int .i64 u.com, .int .u64 (bitsOf u.reads : Nat), .int .u64 (bitsOf u.writes : Nat)] 55)).heap.size := by simp; omega
              have hc := fun W => ahead_deal p u hTp.1 hTu.2 W
              unfold dealA at hc
              have HC := hid hc
              clear hc
              go_wp2
              go_region_with (go_at_call 33; refine (HC.out _).mono ?_; rintro e w3 ⟨⟨r, rfl, hr⟩, hb3⟩; replace hb3 := undrew hb3; replace RW := hid (RW.out.below hb3); replace HOR := hid (HOR.out.below hb3); replace bwW : Below w1.heap.size w1 w3 := bwW.trans (hb3.mono bwW.size); replace hqW : q ≤ w3.heap.size := Nat.le_trans hqW hb3.size; have HRA := hid (hr.trans HAI.out); clear hb3 hr)
              all_goals
                clear HC HAI d0 d1 d2 d3 f0 f1 f2 f3 hbel hbs
                have hgl : l < ws2.length := by rw [HW.out.1]; exact hlt2
                have hsm := HW.out.small hgl
                rcases r with _ | _
                · have HW2 : Hid (Wts us ws2 out out2 (l + 1)) := (by have h := HW.out; rw [HO2.out] at h ⊢; exact h.keep HKR.out (Bool.eq_false_iff.2 (fun z => absurd (HRA.out.2 z) (by simp))) : Wts us ws2 out out2 (l + 1))
                  clear HW HRA hsm
                  go_wp2
                  go_roundw
                  case rel => exact ⟨l + 1, ws2, by omega, by go_num, hqW, RW, HW2, HOR, bwW⟩
                  case measure => simp [intOf]; omega
                · have HW2 : Hid (Wts us (ws2.set l (ws2[l] - 1)) out out2 (l + 1)) := (by have h := HW.out; have hs := HSO6.out; rw [HO2.out] at h hs ⊢; exact h.step hgl HKR.out hs (HRA.out.1 rfl) : Wts us (ws2.set l (ws2[l] - 1)) out out2 (l + 1))
                  have hcw : w3.cell? ⟨gw, l, none⟩ = some (.int .i64 ws2[l]) := RW.out.cell hgl
                  have hfw : w3.frozen? ⟨gw, l, none⟩ = false := RW.out.frozen l
                  have hwr : IntKind.i64.wrap (ws2[l] - 1) = ws2[l] - 1 := by simp only [IntKind.wrap_i64, wrap64]; omega
                  have RW2 := hid (RW.out.set l (ws2[l] - 1))
                  have OR2 : Hid (OutRow 3 q (w3.setCell ⟨gw, l, none⟩ (.int .i64 (ws2[l] - 1))) (.slice oa2 out2.length oc2) out2) := ownsRow_setCell_other HOR.out (fun e => by have := World.ownsRow.lt HOR.out gw e; omega) _
                  have bw2 := bwW.setCell (show w1.heap.size ≤ (⟨gw, l, none⟩ : Addr).block by simp; omega) (.int .i64 (ws2[l] - 1))
                  have hq2 : q ≤ (w3.setCell ⟨gw, l, none⟩ (.int .i64 (ws2[l] - 1))).heap.size := by simpa using hqW
                  have hwsn := HW.out.1
                  clear HW HRA hsm RW HOR bwW hqW
                  generalize hxw : ws2[l] = xw at hcw hwr HW2 RW2 OR2 bw2 hq2
                  clear hxw
                  go_wp2
                  go_roundw
                  case rel => exact ⟨l + 1, _, by omega, by go_num, hq2, RW2, HW2, OR2, bw2⟩
                  case measure => simp [intOf]; omega
            · have hln : l = us.length := by omega
              subst hln
              have hlti2 : ¬ (us.length : Int) < us.length := by omega
              have HV := hid HW.out.next
              have hl2 := HL2.out
              clear HW HL2
              go_wp2
              go_roundw
              case rel => exact ⟨out2, ws2, oa2, oc2, by omega, rfl, by first | go_num | (rw [hl2]; go_num), hqw, HOR, RW, HV, HSO6, hbel⟩
              case measure => simp [intOf]; omega
        · have HF : Hid (SerC us [] 21) := .inr (.inr ⟨HH.out, out, HSO.out, hlt, HW.out.none hm, rfl, rfl⟩)
          clear hm
          go_wp2
          refine bodyPost_ret (v := .tuple #[.slice none 0 0, .int .i64 21]) (by simp [results, Try.results15, go_sem]) rfl ⟨none, 0, 0, 21, [], rfl, Nat.le_refl _, ⟨_, _, rfl, fun h => absurd h (by simp)⟩, HF.out, bw1.trans (hbel.mono hw1s)⟩
      · have hle : out.length = us.length := by omega
        have hlti : ¬ (out.length : Int) < us.length := by omega
        have HF : Hid (SerC us (out.map Int.ofNat) 0) := .inr (.inl ⟨HH.out, out, HSO.out, hle, rfl, rfl⟩)
        have HRW := hid (HOR.out.rsw.mono liesI (show w.heap.size ≤ q by omega))
        have HCA := hid HOR.out.cap
        go_wp2
        refine bodyPost_ret (v := .tuple #[.slice oa out.length oc, .int .i64 0]) (by simp [results, Try.results15, go_sem, hle]) rfl ⟨oa, out.length, oc, 0, _, rfl, HCA.out, HRW.out, HF.out, bw1.trans (hbel.mono hw1s)⟩
  · have HF : Hid (SerC us [] 1) := .inl ⟨hH, rfl, rfl⟩
    clear hH
    go_wp2
    refine bodyPost_ret (v := .tuple #[.slice none 0 0, .int .i64 1]) (by simp [results, Try.results15, go_sem]) rfl ⟨none, 0, 0, 1, [], rfl, Nat.le_refl _, ⟨_, _, rfl, fun h => absurd h (by simp)⟩, HF.out, bw1⟩
theorem serial_impl (a : Option Addr) (ca : Nat) (us : List TI) (w : World) (hb : BH 1048576 us) (ha : RS 4 CT 0 w (.slice a us.length ca) us) :
    Calls Try.prog 15 #[.slice a us.length ca] w fun e w' => SerPost us w e w' :=
  (serial_impl3 a ca us w hb ha).mono fun e w' ⟨a, n, cap, c, l, h1, _, h2⟩ => ⟨_, c, l, h1, h2⟩
end Go.Proofs.Ytjfgojlnpbehfaa
