import Derived.Test.YtfgjleifhjegkaaDoorKK
namespace Go.Proofs.YtfgjleifhjegkaaDoor
open Go.ChangeShapes Go.WideShapes Go.ChangeAt Go.RowKit
set_option linter.unusedVariables false
set_option linter.unusedSimpArgs false
set_option maxRecDepth 100000
/-- What stands of a value in a row, behind its kind. -/
def rowP (k n : Int) (s : ByteArray) : List Int :=
  if k = 1 ∨ k = 2 ∨ k = 5 then varF 9 (foldN n).toNat
  else if k = 3 then varF 9 s.size ++ strI s
  else if k = 4 then [n]
  else []
/-- The bytes of a row. -/
def rowL (us : List VA) : List Int := (us.length : Int) :: us.flatMap fun t => t.k :: rowP t.k t.n t.s
theorem varF_pos (f n : Nat) : 0 < (varF f n).length := by
  cases f with
  | zero => simp [varF]
  | succ f => unfold varF; split <;> simp
theorem rowP_len (k n : Int) (s : ByteArray) (hs : s.size ≤ 1048576) : (rowP k n s).length ≤ 1048590 := by
  unfold rowP
  split
  · have := varF_len 9 (foldN n).toNat; omega
  split
  · have := varF_len 9 s.size; rw [List.length_append, strI_len]; omega
  split
  · simp
  · simp
theorem foldN_nat {n : Int} (h0 : -9223372036854775808 ≤ n) (h1 : n ≤ 9223372036854775807) : ∃ m : Nat, foldN n = m ∧ m < 18446744073709551616 := by
  refine ⟨(foldN n).toNat, ?_, ?_⟩ <;> unfold foldN <;> split <;> omega
theorem YOut.notBox {ty b q : Nat} {w : World} {v : Value} {xs : List Int} {k : Int} {r : List Value} (h : YOut ty b w v xs) (hp : 0 < xs.length) (hB : Blk w q (.int .i64 k :: r)) : some q ≠ v.ownBlock := by
  obtain ⟨g, cap, rfl, _, _, hc⟩ := h.cells hp
  intro e
  simp [Value.ownBlock] at e
  subst e
  have h0 := (hB 0 (by simp)).1
  have h1 := hc 0 (.int .u8 xs[0]) (by rw [List.getElem?_map, List.getElem?_eq_getElem hp]; rfl)
  rw [Addr.add_lit, Nat.zero_add, h0] at h1
  simp at h1
set_option maxHeartbeats 16000000 in
theorem row_spec (a : Option Addr) (ca : Nat) (us : List VA) (w : World) (hb : BVS 1048576 us) (hg : GoV us) (ha : RS 3 CV 0 w (.slice a us.length ca) us) :
    Calls Tryd.prog 17 #[.slice a us.length ca] w fun e w' => BytP rowL 4000 us w e w' := by
  obtain ⟨i0, hi, hz0, hz1, hz2⟩ := info_parts infoU8
  have hn := hb.1
  have HZ : Hid (∀ t ∈ us, BV 1048576 t) := hb.2
  have HG : Hid (GoV us) := hg
  have hvs := valid_spec a ca us w hb ha
  clear hb hg
  obtain ⟨a', ca', he, hva⟩ := ha
  simp only [Value.slice.injEq] at he
  obtain ⟨rfl, _, rfl⟩ := he
  go_enter Tryd.func17, Tryd.ntmps17
  cases hvb : valsB us
  · rw [hvb] at hvs
    go_wp2_with (go_at_call 29; fail)
    refine hvs.mono ?_
    rintro e w1 ⟨rfl, hb1⟩
    clear hvs
    have HF : Hid (BytC rowL 4000 us [] 1) := .inl ⟨hvb, rfl, rfl⟩
    clear hvb
    go_wp2
    refine bodyPost_ret (v := .tuple #[.slice (some ⟨w1.heap.size, 0, none⟩) 0 0, .int .i64 1]) (by simp [results, Tryd.results17, go_sem]) rfl ⟨_, 1, [], rfl, rsw_none, HF.out, hb1.alloc hb1.size _⟩
  rw [hvb] at hvs
  have HVT : Hid (valsB us = true) := hvb
  have HVA : Hid (∀ t ∈ us, vok t.k t.n t.s = true) := (valsB_at hvb).2
  have hn16 := (valsB_at hvb).1
  clear hvb
  go_wp2_with (go_at_call 29; fail)
  refine hvs.mono ?_
  rintro e w1 ⟨rfl, hb1⟩
  clear hvs
  have hwl : IntKind.u8.wrap (us.length : Int) = us.length := by simp only [IntKind.wrap, IntKind.bits, IntKind.signed]; simp; omega
  have HY0 : Hid (YOut 5 w.heap.size (w1.alloc (.cells #[.int .u8 (us.length : Int)] 5)) (.slice (some ⟨w1.heap.size, 0, none⟩) 1 1) [(us.length : Int)]) := (by
    have := YOut.made (ty := 5) (b := w.heap.size) w1 [(us.length : Int)] hb1.size (by simp)
    simpa using this : YOut 5 w.heap.size (w1.alloc (.cells #[.int .u8 (us.length : Int)] 5)) (.slice (some ⟨w1.heap.size, 0, none⟩) 1 1) [(us.length : Int)])
  have bw0 : Below w.heap.size w (w1.alloc (.cells #[.int .u8 (us.length : Int)] 5)) := hb1.alloc hb1.size _
  clear hb1
  go_wp2
  go_loopw [4, 17] (fun v iv wr => ∃ (k : Nat) (acc : List Int) (oa : Option Addr) (oc : Nat), k ≤ us.length ∧ iv = .int .i64 k ∧ v = .slice oa acc.length oc ∧ acc.length ≤ 1 + 1048600 * k ∧ Hid (acc = (us.length : Int) :: (us.take k).flatMap fun t => t.k :: rowP t.k t.n t.s) ∧ Hid (YOut 5 w.heap.size wr (.slice oa acc.length oc) acc) ∧ Below w.heap.size w wr) (fun _ iv _ => us.length - (intOf iv).toNat)
  case atStart => exact ⟨0, [(us.length : Int)], _, _, Nat.zero_le _, rfl, rfl, by simp, (by simp : [(us.length : Int)] = (us.length : Int) :: (us.take 0).flatMap fun t => t.k :: rowP t.k t.n t.s), HY0, bw0⟩
  case round =>
    clear HY0 bw0 hwl
    obtain ⟨k, acc, oa, oc, hk, rfl, rfl, hal, HA, HY, hb⟩ := hrel
    have hbs := hb.size
    by_cases hlt : k < us.length
    · have hlti : (k : Int) < us.length := by omega
      obtain ⟨g, o, rfl, _, hg, hgc⟩ := hva (by omega)
      obtain ⟨cs, hC, hcell⟩ := hgc k hlt
      have hB := HZ.out us[k] (List.getElem_mem hlt)
      have hV := HVA.out us[k] (List.getElem_mem hlt)
      have hN := HG.out us[k] (List.getElem_mem hlt)
      have HS : Hid (((us.length : Int) :: (us.take (k + 1)).flatMap fun t => t.k :: rowP t.k t.n t.s) = (acc ++ [us[k].k]) ++ rowP us[k].k us[k].n us[k].s) := (by rw [HA.out, flat_step hlt]; simp : ((us.length : Int) :: (us.take (k + 1)).flatMap fun t => t.k :: rowP t.k t.n t.s) = (acc ++ [us[k].k]) ++ rowP us[k].k us[k].n us[k].s)
      obtain ⟨goal, hgoal⟩ : ∃ l, l = ((us.length : Int) :: (us.take (k + 1)).flatMap fun t => t.k :: rowP t.k t.n t.s) := ⟨_, rfl⟩
      have HGO := hid hgoal
      rw [← hgoal] at HS
      clear hgoal
      clear hgc hva HA
      generalize hx : us[k] = t at *
      clear hx
      obtain ⟨tk, n, s⟩ := t
      simp only at hB hV hN HS hC
      unfold BV at hB
      simp only at hB
      obtain ⟨hN0, hN1⟩ := hN
      unfold CV at hC
      subst hC
      have c0 : wr.cell? ⟨g, o + k * 3, none⟩ = some (.int .i64 tk) := (hb.cell (p := ⟨g, o + k * 3, none⟩) hg).trans (hcell 0 (by omega))
      have c1 : wr.cell? ⟨g, o + k * 3 + 1, none⟩ = some (.int .i64 n) := (hb.cell (p := ⟨g, o + k * 3 + 1, none⟩) hg).trans (hcell 1 (by omega))
      have c2 : wr.cell? ⟨g, o + k * 3 + 2, none⟩ = some (.string s) := (hb.cell (p := ⟨g, o + k * 3 + 2, none⟩) hg).trans (hcell 2 (by omega))
      clear hcell
      rcases vokK hV with rfl | rfl | rfl | rfl | ⟨rfl, hb0, hb1⟩ | ⟨rfl, hd0, hd1⟩
      · have HYA : Hid (YOut 5 w.heap.size ((wr.alloc (.cells #[.int .i64 0, .int .i64 n, .string s] 39)).alloc (.cells #[.int .u8 0] 5)) (.slice oa acc.length oc) acc) := World.ownsRow.alloc (World.ownsRow.alloc HY.out _) _
        have HBA : Hid (Blk ((wr.alloc (.cells #[.int .i64 0, .int .i64 n, .string s] 39)).alloc (.cells #[.int .u8 0] 5)) wr.heap.size [.int .i64 0, .int .i64 n, .string s]) := (blk_new wr [.int .i64 0, .int .i64 n, .string s] 39).below (below_alloc _ _) (by simp)
        have HCA : Hid (∀ j u, ([.int .u8 0] : List Value)[j]? = some u → ((wr.alloc (.cells #[.int .i64 0, .int .i64 n, .string s] 39)).alloc (.cells #[.int .u8 0] 5)).cell? ((⟨wr.heap.size + 1, 0, none⟩ : Addr).add j) = some u) := (by
          have := (blk_new (wr.alloc (.cells #[.int .i64 0, .int .i64 n, .string s] 39)) [.int .u8 0] 5).cells
          simpa using this : ∀ j u, ([.int .u8 0] : List Value)[j]? = some u → ((wr.alloc (.cells #[.int .i64 0, .int .i64 n, .string s] 39)).alloc (.cells #[.int .u8 0] 5)).cell? ((⟨wr.heap.size + 1, 0, none⟩ : Addr).add j) = some u)
        have bwA : Below w.heap.size w ((wr.alloc (.cells #[.int .i64 0, .int .i64 n, .string s] 39)).alloc (.cells #[.int .u8 0] 5)) := (hb.alloc hbs _).alloc (by simp; omega) _
        have HLT := hid (World.ownsRow.lt HY.out)
        have hrl := rowP_len 0 n s hB
        have HRP : Hid (rowP 0 n s = []) := (by simp [rowP] : rowP 0 n s = [])
        rw [HRP.out, List.append_nil] at HS
        clear HY hV
        go_wp2_with (first
          | (at_builtin
             refine wpList_append_own _ rfl (.tmp 21) (.tmp 25) 24 rfl w.heap.size 5 i0 (.int .u8 0) 1 1 Tryd.underlying24 hi hz0 hz1 hz2 rfl (by decide) _ _ _ rfl HYA.out ⟨wr.heap.size + 1, 0, none⟩ 1 1 [.int .u8 0] rfl rfl HCA.out (by intro u hu; simp at hu; subst hu; rfl) (by unfold maxLen; omega) (by omega) bwA.size ?_
             intro v2 w2 hown2 hgrow2 hiff2
             clear hiff2
             have b2 : Below w.heap.size w w2 := bwA.grown hgrow2 bwA.size (fun j hj => (HLT.out j hj).1)
             have HB2 : Hid (Blk w2 wr.heap.size [.int .i64 0, .int .i64 n, .string s]) := HBA.out.grown hgrow2 (by simp; omega) (fun e => by have := (HLT.out _ e.symm).2; omega)
             have hs2 : wr.heap.size < w2.heap.size := by have := hgrow2.size; simp at this; omega
             have HR := hid (YOut.push hown2)
             obtain ⟨oa2, oc2, rfl⟩ := HR.out.form
             have hl2 : (acc ++ [0]).length ≤ acc.length + 1 := by simp
             have d0 : w2.cell? ⟨wr.heap.size, 0, none⟩ = some (.int .i64 0) := (HB2.out 0 (by simp)).1
             have d1 : w2.cell? ⟨wr.heap.size, 1, none⟩ = some (.int .i64 n) := (HB2.out 1 (by simp)).1
             have d2 : w2.cell? ⟨wr.heap.size, 2, none⟩ = some (.string s) := (HB2.out 2 (by simp)).1
             obtain ⟨acc2, hac⟩ : ∃ l, l = acc ++ [(0 : Int)] := ⟨_, rfl⟩
             have hp2 : 0 < (acc ++ [(0 : Int)]).length := by simp
             rw [← hac] at HR hl2 hp2 ⊢
             rw [← hac] at HS
             have HNE := hid (HR.out.notBox hp2 HB2.out)
             have HLT2 := hid (World.ownsRow.lt HR.out)
             clear hown2 hgrow2 HYA HBA HCA hac HLT bwA c0 c1 c2))
        go_roundw
        case rel => exact ⟨k + 1, acc2, oa2, oc2, by omega, by go_num, rfl, by omega, (HS.out.symm.trans HGO.out), HR, b2⟩
        case measure => simp [intOf]; omega
      · have HYA : Hid (YOut 5 w.heap.size ((wr.alloc (.cells #[.int .i64 1, .int .i64 n, .string s] 39)).alloc (.cells #[.int .u8 1] 5)) (.slice oa acc.length oc) acc) := World.ownsRow.alloc (World.ownsRow.alloc HY.out _) _
        have HBA : Hid (Blk ((wr.alloc (.cells #[.int .i64 1, .int .i64 n, .string s] 39)).alloc (.cells #[.int .u8 1] 5)) wr.heap.size [.int .i64 1, .int .i64 n, .string s]) := (blk_new wr [.int .i64 1, .int .i64 n, .string s] 39).below (below_alloc _ _) (by simp)
        have HCA : Hid (∀ j u, ([.int .u8 1] : List Value)[j]? = some u → ((wr.alloc (.cells #[.int .i64 1, .int .i64 n, .string s] 39)).alloc (.cells #[.int .u8 1] 5)).cell? ((⟨wr.heap.size + 1, 0, none⟩ : Addr).add j) = some u) := (by
          have := (blk_new (wr.alloc (.cells #[.int .i64 1, .int .i64 n, .string s] 39)) [.int .u8 1] 5).cells
          simpa using this : ∀ j u, ([.int .u8 1] : List Value)[j]? = some u → ((wr.alloc (.cells #[.int .i64 1, .int .i64 n, .string s] 39)).alloc (.cells #[.int .u8 1] 5)).cell? ((⟨wr.heap.size + 1, 0, none⟩ : Addr).add j) = some u)
        have bwA : Below w.heap.size w ((wr.alloc (.cells #[.int .i64 1, .int .i64 n, .string s] 39)).alloc (.cells #[.int .u8 1] 5)) := (hb.alloc hbs _).alloc (by simp; omega) _
        have HLT := hid (World.ownsRow.lt HY.out)
        have hrl := rowP_len 1 n s hB
        obtain ⟨m, hm, hm64⟩ := foldN_nat hN0 hN1
        have hfo := fun W => fold_spec n W hN0 hN1
        rw [hm] at hfo
        have hvi := fun W => varint_spec m W hm64
        obtain ⟨vl, hvl⟩ : ∃ l, l = varF 9 m := ⟨_, rfl⟩
        have hvp : 0 < vl.length := by rw [hvl]; exact varF_pos _ _
        have hv10 : vl.length ≤ 10 := by rw [hvl]; exact varF_len _ _
        have HRP : Hid (rowP 1 n s = vl) := (by rw [hvl]; simp [rowP, hm] : rowP 1 n s = vl)
        rw [HRP.out] at HS
        rw [← hvl] at hvi
        clear hm hvl
        clear HY hV
        go_wp2_with (first
          | (at_builtin
             refine wpList_append_own _ rfl (.tmp 21) (.tmp 25) 24 rfl w.heap.size 5 i0 (.int .u8 0) 1 1 Tryd.underlying24 hi hz0 hz1 hz2 rfl (by decide) _ _ _ rfl HYA.out ⟨wr.heap.size + 1, 0, none⟩ 1 1 [.int .u8 1] rfl rfl HCA.out (by intro u hu; simp at hu; subst hu; rfl) (by unfold maxLen; omega) (by omega) bwA.size ?_
             intro v2 w2 hown2 hgrow2 hiff2
             clear hiff2
             have b2 : Below w.heap.size w w2 := bwA.grown hgrow2 bwA.size (fun j hj => (HLT.out j hj).1)
             have HB2 : Hid (Blk w2 wr.heap.size [.int .i64 1, .int .i64 n, .string s]) := HBA.out.grown hgrow2 (by simp; omega) (fun e => by have := (HLT.out _ e.symm).2; omega)
             have hs2 : wr.heap.size < w2.heap.size := by have := hgrow2.size; simp at this; omega
             have HR := hid (YOut.push hown2)
             obtain ⟨oa2, oc2, rfl⟩ := HR.out.form
             have hl2 : (acc ++ [1]).length ≤ acc.length + 1 := by simp
             have d0 : w2.cell? ⟨wr.heap.size, 0, none⟩ = some (.int .i64 1) := (HB2.out 0 (by simp)).1
             have d1 : w2.cell? ⟨wr.heap.size, 1, none⟩ = some (.int .i64 n) := (HB2.out 1 (by simp)).1
             have d2 : w2.cell? ⟨wr.heap.size, 2, none⟩ = some (.string s) := (HB2.out 2 (by simp)).1
             obtain ⟨acc2, hac⟩ : ∃ l, l = acc ++ [(1 : Int)] := ⟨_, rfl⟩
             have hp2 : 0 < (acc ++ [(1 : Int)]).length := by simp
             rw [← hac] at HR hl2 hp2 ⊢
             rw [← hac] at HS
             have HNE := hid (HR.out.notBox hp2 HB2.out)
             have HLT2 := hid (World.ownsRow.lt HR.out)
             clear hown2 hgrow2 HYA HBA HCA hac HLT bwA c0 c1 c2)
          | (go_at_call 37
             refine (hfo _).mono ?_
             rintro e w2' ⟨rfl, hww⟩
             replace hww := hww.symm
             subst hww)
          | (go_at_call 36
             refine (hvi _).mono ?_
             rintro e w3 ⟨⟨v3, rfl, hy3⟩, hb3⟩
             have b3 : Below w.heap.size w w3 := b2.trans (hb3.mono b2.size)
             have HR3 := hid (HR.out.below hb3)
             have HB3 := hid (HB2.out.below hb3 hs2)
             have hs3 : wr.heap.size < w3.heap.size := by have := hb3.size; omega
             obtain ⟨g3, cap3, rfl, hg31, hg32, hc3⟩ := hy3.cells (by omega)
             have HC3 := hid hc3
             have f2 : w3.cell? ⟨wr.heap.size, 2, none⟩ = some (.string s) := (HB3.out 2 (by simp)).1
             clear hy3 hc3 hb3 HR HB2 b2 d0 d1 d2)
          | (at_builtin
             refine wpList_append_own _ rfl (.tmp 33) (.tmp 37) 24 rfl w.heap.size 5 i0 (.int .u8 0) 1 1 Tryd.underlying24 hi hz0 hz1 hz2 rfl (by decide) _ _ _ rfl HR3.out ⟨g3, 0, none⟩ vl.length cap3 (vl.map (Value.int .u8)) rfl (by rw [List.length_map, Nat.mul_one]) HC3.out (oneU8 vl) (by unfold maxLen; omega) (by omega) b3.size ?_
             intro v4 w4 hown4 hgrow4 hiff4
             clear hiff4
             have b4 : Below w.heap.size w w4 := b3.grown hgrow4 b3.size (fun j hj => (HLT2.out j hj).1)
             have HB4 : Hid (Blk w4 wr.heap.size [.int .i64 1, .int .i64 n, .string s]) := HB3.out.grown hgrow4 hs3 (HNE.out)
             have HR4 := hid (YOut.more hown4)
             obtain ⟨oa4, oc4, rfl⟩ := HR4.out.form
             have hl4 : (acc2 ++ vl).length ≤ acc2.length + vl.length := by simp
             have k2 : w4.cell? ⟨wr.heap.size, 2, none⟩ = some (.string s) := (HB4.out 2 (by simp)).1
             obtain ⟨acc4, hac⟩ : ∃ l, l = acc2 ++ vl := ⟨_, rfl⟩
             rw [← hac] at HR4 hl4 ⊢
             rw [← hac] at HS
             have HLT4 := hid (World.ownsRow.lt HR4.out)
             clear hown4 hgrow4 hac HLT2 HC3 b3 HB3 HR3 f2))
        go_roundw
        case rel => exact ⟨k + 1, acc4, oa4, oc4, by omega, by go_num, rfl, by omega, (HS.out.symm.trans HGO.out), HR4, b4⟩
        case measure => simp [intOf]; omega
      · have HYA : Hid (YOut 5 w.heap.size ((wr.alloc (.cells #[.int .i64 2, .int .i64 n, .string s] 39)).alloc (.cells #[.int .u8 2] 5)) (.slice oa acc.length oc) acc) := World.ownsRow.alloc (World.ownsRow.alloc HY.out _) _
        have HBA : Hid (Blk ((wr.alloc (.cells #[.int .i64 2, .int .i64 n, .string s] 39)).alloc (.cells #[.int .u8 2] 5)) wr.heap.size [.int .i64 2, .int .i64 n, .string s]) := (blk_new wr [.int .i64 2, .int .i64 n, .string s] 39).below (below_alloc _ _) (by simp)
        have HCA : Hid (∀ j u, ([.int .u8 2] : List Value)[j]? = some u → ((wr.alloc (.cells #[.int .i64 2, .int .i64 n, .string s] 39)).alloc (.cells #[.int .u8 2] 5)).cell? ((⟨wr.heap.size + 1, 0, none⟩ : Addr).add j) = some u) := (by
          have := (blk_new (wr.alloc (.cells #[.int .i64 2, .int .i64 n, .string s] 39)) [.int .u8 2] 5).cells
          simpa using this : ∀ j u, ([.int .u8 2] : List Value)[j]? = some u → ((wr.alloc (.cells #[.int .i64 2, .int .i64 n, .string s] 39)).alloc (.cells #[.int .u8 2] 5)).cell? ((⟨wr.heap.size + 1, 0, none⟩ : Addr).add j) = some u)
        have bwA : Below w.heap.size w ((wr.alloc (.cells #[.int .i64 2, .int .i64 n, .string s] 39)).alloc (.cells #[.int .u8 2] 5)) := (hb.alloc hbs _).alloc (by simp; omega) _
        have HLT := hid (World.ownsRow.lt HY.out)
        have hrl := rowP_len 2 n s hB
        obtain ⟨m, hm, hm64⟩ := foldN_nat hN0 hN1
        have hfo := fun W => fold_spec n W hN0 hN1
        rw [hm] at hfo
        have hvi := fun W => varint_spec m W hm64
        obtain ⟨vl, hvl⟩ : ∃ l, l = varF 9 m := ⟨_, rfl⟩
        have hvp : 0 < vl.length := by rw [hvl]; exact varF_pos _ _
        have hv10 : vl.length ≤ 10 := by rw [hvl]; exact varF_len _ _
        have HRP : Hid (rowP 2 n s = vl) := (by rw [hvl]; simp [rowP, hm] : rowP 2 n s = vl)
        rw [HRP.out] at HS
        rw [← hvl] at hvi
        clear hm hvl
        clear HY hV
        go_wp2_with (first
          | (at_builtin
             refine wpList_append_own _ rfl (.tmp 21) (.tmp 25) 24 rfl w.heap.size 5 i0 (.int .u8 0) 1 1 Tryd.underlying24 hi hz0 hz1 hz2 rfl (by decide) _ _ _ rfl HYA.out ⟨wr.heap.size + 1, 0, none⟩ 1 1 [.int .u8 2] rfl rfl HCA.out (by intro u hu; simp at hu; subst hu; rfl) (by unfold maxLen; omega) (by omega) bwA.size ?_
             intro v2 w2 hown2 hgrow2 hiff2
             clear hiff2
             have b2 : Below w.heap.size w w2 := bwA.grown hgrow2 bwA.size (fun j hj => (HLT.out j hj).1)
             have HB2 : Hid (Blk w2 wr.heap.size [.int .i64 2, .int .i64 n, .string s]) := HBA.out.grown hgrow2 (by simp; omega) (fun e => by have := (HLT.out _ e.symm).2; omega)
             have hs2 : wr.heap.size < w2.heap.size := by have := hgrow2.size; simp at this; omega
             have HR := hid (YOut.push hown2)
             obtain ⟨oa2, oc2, rfl⟩ := HR.out.form
             have hl2 : (acc ++ [2]).length ≤ acc.length + 1 := by simp
             have d0 : w2.cell? ⟨wr.heap.size, 0, none⟩ = some (.int .i64 2) := (HB2.out 0 (by simp)).1
             have d1 : w2.cell? ⟨wr.heap.size, 1, none⟩ = some (.int .i64 n) := (HB2.out 1 (by simp)).1
             have d2 : w2.cell? ⟨wr.heap.size, 2, none⟩ = some (.string s) := (HB2.out 2 (by simp)).1
             obtain ⟨acc2, hac⟩ : ∃ l, l = acc ++ [(2 : Int)] := ⟨_, rfl⟩
             have hp2 : 0 < (acc ++ [(2 : Int)]).length := by simp
             rw [← hac] at HR hl2 hp2 ⊢
             rw [← hac] at HS
             have HNE := hid (HR.out.notBox hp2 HB2.out)
             have HLT2 := hid (World.ownsRow.lt HR.out)
             clear hown2 hgrow2 HYA HBA HCA hac HLT bwA c0 c1 c2)
          | (go_at_call 37
             refine (hfo _).mono ?_
             rintro e w2' ⟨rfl, hww⟩
             replace hww := hww.symm
             subst hww)
          | (go_at_call 36
             refine (hvi _).mono ?_
             rintro e w3 ⟨⟨v3, rfl, hy3⟩, hb3⟩
             have b3 : Below w.heap.size w w3 := b2.trans (hb3.mono b2.size)
             have HR3 := hid (HR.out.below hb3)
             have HB3 := hid (HB2.out.below hb3 hs2)
             have hs3 : wr.heap.size < w3.heap.size := by have := hb3.size; omega
             obtain ⟨g3, cap3, rfl, hg31, hg32, hc3⟩ := hy3.cells (by omega)
             have HC3 := hid hc3
             have f2 : w3.cell? ⟨wr.heap.size, 2, none⟩ = some (.string s) := (HB3.out 2 (by simp)).1
             clear hy3 hc3 hb3 HR HB2 b2 d0 d1 d2)
          | (at_builtin
             refine wpList_append_own _ rfl (.tmp 33) (.tmp 37) 24 rfl w.heap.size 5 i0 (.int .u8 0) 1 1 Tryd.underlying24 hi hz0 hz1 hz2 rfl (by decide) _ _ _ rfl HR3.out ⟨g3, 0, none⟩ vl.length cap3 (vl.map (Value.int .u8)) rfl (by rw [List.length_map, Nat.mul_one]) HC3.out (oneU8 vl) (by unfold maxLen; omega) (by omega) b3.size ?_
             intro v4 w4 hown4 hgrow4 hiff4
             clear hiff4
             have b4 : Below w.heap.size w w4 := b3.grown hgrow4 b3.size (fun j hj => (HLT2.out j hj).1)
             have HB4 : Hid (Blk w4 wr.heap.size [.int .i64 2, .int .i64 n, .string s]) := HB3.out.grown hgrow4 hs3 (HNE.out)
             have HR4 := hid (YOut.more hown4)
             obtain ⟨oa4, oc4, rfl⟩ := HR4.out.form
             have hl4 : (acc2 ++ vl).length ≤ acc2.length + vl.length := by simp
             have k2 : w4.cell? ⟨wr.heap.size, 2, none⟩ = some (.string s) := (HB4.out 2 (by simp)).1
             obtain ⟨acc4, hac⟩ : ∃ l, l = acc2 ++ vl := ⟨_, rfl⟩
             rw [← hac] at HR4 hl4 ⊢
             rw [← hac] at HS
             have HLT4 := hid (World.ownsRow.lt HR4.out)
             clear hown4 hgrow4 hac HLT2 HC3 b3 HB3 HR3 f2))
        go_roundw
        case rel => exact ⟨k + 1, acc4, oa4, oc4, by omega, by go_num, rfl, by omega, (HS.out.symm.trans HGO.out), HR4, b4⟩
        case measure => simp [intOf]; omega
      · have HYA : Hid (YOut 5 w.heap.size ((wr.alloc (.cells #[.int .i64 3, .int .i64 n, .string s] 39)).alloc (.cells #[.int .u8 3] 5)) (.slice oa acc.length oc) acc) := World.ownsRow.alloc (World.ownsRow.alloc HY.out _) _
        have HBA : Hid (Blk ((wr.alloc (.cells #[.int .i64 3, .int .i64 n, .string s] 39)).alloc (.cells #[.int .u8 3] 5)) wr.heap.size [.int .i64 3, .int .i64 n, .string s]) := (blk_new wr [.int .i64 3, .int .i64 n, .string s] 39).below (below_alloc _ _) (by simp)
        have HCA : Hid (∀ j u, ([.int .u8 3] : List Value)[j]? = some u → ((wr.alloc (.cells #[.int .i64 3, .int .i64 n, .string s] 39)).alloc (.cells #[.int .u8 3] 5)).cell? ((⟨wr.heap.size + 1, 0, none⟩ : Addr).add j) = some u) := (by
          have := (blk_new (wr.alloc (.cells #[.int .i64 3, .int .i64 n, .string s] 39)) [.int .u8 3] 5).cells
          simpa using this : ∀ j u, ([.int .u8 3] : List Value)[j]? = some u → ((wr.alloc (.cells #[.int .i64 3, .int .i64 n, .string s] 39)).alloc (.cells #[.int .u8 3] 5)).cell? ((⟨wr.heap.size + 1, 0, none⟩ : Addr).add j) = some u)
        have bwA : Below w.heap.size w ((wr.alloc (.cells #[.int .i64 3, .int .i64 n, .string s] 39)).alloc (.cells #[.int .u8 3] 5)) := (hb.alloc hbs _).alloc (by simp; omega) _
        have HLT := hid (World.ownsRow.lt HY.out)
        have hrl := rowP_len 3 n s hB
        have hvi := fun W => varint_spec s.size W (by omega)
        obtain ⟨vl, hvl⟩ : ∃ l, l = varF 9 s.size := ⟨_, rfl⟩
        have hvp : 0 < vl.length := by rw [hvl]; exact varF_pos _ _
        have hv10 : vl.length ≤ 10 := by rw [hvl]; exact varF_len _ _
        have HRP : Hid (rowP 3 n s = vl ++ strI s) := (by rw [hvl]; simp [rowP] : rowP 3 n s = vl ++ strI s)
        rw [HRP.out, ← List.append_assoc] at HS
        have hws : IntKind.u64.wrap (s.size : Int) = s.size := by simp only [IntKind.wrap, IntKind.bits, IntKind.signed]; simp; omega
        rw [← hvl] at hvi
        clear hvl
        clear HY hV
        go_wp2_with (first
          | (at_builtin
             refine wpList_append_own _ rfl (.tmp 21) (.tmp 25) 24 rfl w.heap.size 5 i0 (.int .u8 0) 1 1 Tryd.underlying24 hi hz0 hz1 hz2 rfl (by decide) _ _ _ rfl HYA.out ⟨wr.heap.size + 1, 0, none⟩ 1 1 [.int .u8 3] rfl rfl HCA.out (by intro u hu; simp at hu; subst hu; rfl) (by unfold maxLen; omega) (by omega) bwA.size ?_
             intro v2 w2 hown2 hgrow2 hiff2
             clear hiff2
             have b2 : Below w.heap.size w w2 := bwA.grown hgrow2 bwA.size (fun j hj => (HLT.out j hj).1)
             have HB2 : Hid (Blk w2 wr.heap.size [.int .i64 3, .int .i64 n, .string s]) := HBA.out.grown hgrow2 (by simp; omega) (fun e => by have := (HLT.out _ e.symm).2; omega)
             have hs2 : wr.heap.size < w2.heap.size := by have := hgrow2.size; simp at this; omega
             have HR := hid (YOut.push hown2)
             obtain ⟨oa2, oc2, rfl⟩ := HR.out.form
             have hl2 : (acc ++ [3]).length ≤ acc.length + 1 := by simp
             have d0 : w2.cell? ⟨wr.heap.size, 0, none⟩ = some (.int .i64 3) := (HB2.out 0 (by simp)).1
             have d1 : w2.cell? ⟨wr.heap.size, 1, none⟩ = some (.int .i64 n) := (HB2.out 1 (by simp)).1
             have d2 : w2.cell? ⟨wr.heap.size, 2, none⟩ = some (.string s) := (HB2.out 2 (by simp)).1
             obtain ⟨acc2, hac⟩ : ∃ l, l = acc ++ [(3 : Int)] := ⟨_, rfl⟩
             have hp2 : 0 < (acc ++ [(3 : Int)]).length := by simp
             rw [← hac] at HR hl2 hp2 ⊢
             rw [← hac] at HS
             have HNE := hid (HR.out.notBox hp2 HB2.out)
             have HLT2 := hid (World.ownsRow.lt HR.out)
             clear hown2 hgrow2 HYA HBA HCA hac HLT bwA c0 c1 c2)
          | (go_at_call 36
             refine (hvi _).mono ?_
             rintro e w3 ⟨⟨v3, rfl, hy3⟩, hb3⟩
             have b3 : Below w.heap.size w w3 := b2.trans (hb3.mono b2.size)
             have HR3 := hid (HR.out.below hb3)
             have HB3 := hid (HB2.out.below hb3 hs2)
             have hs3 : wr.heap.size < w3.heap.size := by have := hb3.size; omega
             obtain ⟨g3, cap3, rfl, hg31, hg32, hc3⟩ := hy3.cells (by omega)
             have HC3 := hid hc3
             have f2 : w3.cell? ⟨wr.heap.size, 2, none⟩ = some (.string s) := (HB3.out 2 (by simp)).1
             clear hy3 hc3 hb3 HR HB2 b2 d0 d1 d2)
          | (at_builtin
             refine wpList_append_own _ rfl (.tmp 41) (.tmp 46) 24 rfl w.heap.size 5 i0 (.int .u8 0) 1 1 Tryd.underlying24 hi hz0 hz1 hz2 rfl (by decide) _ _ _ rfl HR3.out ⟨g3, 0, none⟩ vl.length cap3 (vl.map (Value.int .u8)) rfl (by rw [List.length_map, Nat.mul_one]) HC3.out (oneU8 vl) (by unfold maxLen; omega) (by omega) b3.size ?_
             intro v4 w4 hown4 hgrow4 hiff4
             clear hiff4
             have b4 : Below w.heap.size w w4 := b3.grown hgrow4 b3.size (fun j hj => (HLT2.out j hj).1)
             have HB4 : Hid (Blk w4 wr.heap.size [.int .i64 3, .int .i64 n, .string s]) := HB3.out.grown hgrow4 hs3 (HNE.out)
             have HR4 := hid (YOut.more hown4)
             obtain ⟨oa4, oc4, rfl⟩ := HR4.out.form
             have hl4 : (acc2 ++ vl).length ≤ acc2.length + vl.length := by simp
             have k2 : w4.cell? ⟨wr.heap.size, 2, none⟩ = some (.string s) := (HB4.out 2 (by simp)).1
             obtain ⟨acc4, hac⟩ : ∃ l, l = acc2 ++ vl := ⟨_, rfl⟩
             rw [← hac] at HR4 hl4 ⊢
             rw [← hac] at HS
             have HLT4 := hid (World.ownsRow.lt HR4.out)
             clear hown4 hgrow4 hac HLT2 HC3 b3 HB3 HR3 f2)
          | (at_builtin
             refine Lib.wpList_append_own_string _ rfl (.tmp 48) (.tmp 50) 24 9 rfl w.heap.size 5 i0 Tryd.underlying24 Tryd.underlying9 hi hz0 hz1 hz2 _ _ _ rfl HR4.out s rfl (by unfold maxLen; omega) (by omega) b4.size ?_
             intro v5 w5 hown5 hgrow5 hiff5
             clear hiff5
             have b5 : Below w.heap.size w w5 := b4.grown hgrow5 b4.size (fun j hj => (HLT4.out j hj).1)
             rw [strI_cells, ← strI_len] at hown5
             have HR5 := hid (YOut.more hown5)
             obtain ⟨oa5, oc5, rfl⟩ := HR5.out.form
             have hl5 : (acc4 ++ strI s).length ≤ acc4.length + s.size := by rw [List.length_append, strI_len]; omega
             obtain ⟨acc5, hac⟩ : ∃ l, l = acc4 ++ strI s := ⟨_, rfl⟩
             rw [← hac] at HR5 hl5 ⊢
             rw [← hac] at HS
             clear hown5 hgrow5 hac HLT4 b4 HR4 k2))
        go_roundw
        case rel => exact ⟨k + 1, acc5, oa5, oc5, by omega, by go_num, rfl, by omega, (HS.out.symm.trans HGO.out), HR5, b5⟩
        case measure => simp [intOf]; omega
      · have HYA : Hid (YOut 5 w.heap.size ((wr.alloc (.cells #[.int .i64 4, .int .i64 n, .string s] 39)).alloc (.cells #[.int .u8 4] 5)) (.slice oa acc.length oc) acc) := World.ownsRow.alloc (World.ownsRow.alloc HY.out _) _
        have HBA : Hid (Blk ((wr.alloc (.cells #[.int .i64 4, .int .i64 n, .string s] 39)).alloc (.cells #[.int .u8 4] 5)) wr.heap.size [.int .i64 4, .int .i64 n, .string s]) := (blk_new wr [.int .i64 4, .int .i64 n, .string s] 39).below (below_alloc _ _) (by simp)
        have HCA : Hid (∀ j u, ([.int .u8 4] : List Value)[j]? = some u → ((wr.alloc (.cells #[.int .i64 4, .int .i64 n, .string s] 39)).alloc (.cells #[.int .u8 4] 5)).cell? ((⟨wr.heap.size + 1, 0, none⟩ : Addr).add j) = some u) := (by
          have := (blk_new (wr.alloc (.cells #[.int .i64 4, .int .i64 n, .string s] 39)) [.int .u8 4] 5).cells
          simpa using this : ∀ j u, ([.int .u8 4] : List Value)[j]? = some u → ((wr.alloc (.cells #[.int .i64 4, .int .i64 n, .string s] 39)).alloc (.cells #[.int .u8 4] 5)).cell? ((⟨wr.heap.size + 1, 0, none⟩ : Addr).add j) = some u)
        have bwA : Below w.heap.size w ((wr.alloc (.cells #[.int .i64 4, .int .i64 n, .string s] 39)).alloc (.cells #[.int .u8 4] 5)) := (hb.alloc hbs _).alloc (by simp; omega) _
        have HLT := hid (World.ownsRow.lt HY.out)
        have hrl := rowP_len 4 n s hB
        have hwn : IntKind.u8.wrap n = n := by simp only [IntKind.wrap, IntKind.bits, IntKind.signed]; simp; omega
        have HRP : Hid (rowP 4 n s = [n]) := (by simp [rowP] : rowP 4 n s = [n])
        rw [HRP.out] at HS
        clear HY hV
        go_wp2_with (first
          | (at_builtin
             refine wpList_append_own _ rfl (.tmp 21) (.tmp 25) 24 rfl w.heap.size 5 i0 (.int .u8 0) 1 1 Tryd.underlying24 hi hz0 hz1 hz2 rfl (by decide) _ _ _ rfl HYA.out ⟨wr.heap.size + 1, 0, none⟩ 1 1 [.int .u8 4] rfl rfl HCA.out (by intro u hu; simp at hu; subst hu; rfl) (by unfold maxLen; omega) (by omega) bwA.size ?_
             intro v2 w2 hown2 hgrow2 hiff2
             clear hiff2
             have b2 : Below w.heap.size w w2 := bwA.grown hgrow2 bwA.size (fun j hj => (HLT.out j hj).1)
             have HB2 : Hid (Blk w2 wr.heap.size [.int .i64 4, .int .i64 n, .string s]) := HBA.out.grown hgrow2 (by simp; omega) (fun e => by have := (HLT.out _ e.symm).2; omega)
             have hs2 : wr.heap.size < w2.heap.size := by have := hgrow2.size; simp at this; omega
             have HR := hid (YOut.push hown2)
             obtain ⟨oa2, oc2, rfl⟩ := HR.out.form
             have hl2 : (acc ++ [4]).length ≤ acc.length + 1 := by simp
             have d0 : w2.cell? ⟨wr.heap.size, 0, none⟩ = some (.int .i64 4) := (HB2.out 0 (by simp)).1
             have d1 : w2.cell? ⟨wr.heap.size, 1, none⟩ = some (.int .i64 n) := (HB2.out 1 (by simp)).1
             have d2 : w2.cell? ⟨wr.heap.size, 2, none⟩ = some (.string s) := (HB2.out 2 (by simp)).1
             obtain ⟨acc2, hac⟩ : ∃ l, l = acc ++ [(4 : Int)] := ⟨_, rfl⟩
             have hp2 : 0 < (acc ++ [(4 : Int)]).length := by simp
             rw [← hac] at HR hl2 hp2 ⊢
             rw [← hac] at HS
             have HNE := hid (HR.out.notBox hp2 HB2.out)
             have HLT2 := hid (World.ownsRow.lt HR.out)
             clear hown2 hgrow2 HYA HBA HCA hac HLT bwA c0 c1 c2
             have HYB : Hid (YOut 5 w.heap.size (w2.alloc (.cells #[.int .u8 n] 5)) (.slice oa2 acc2.length oc2) acc2) := World.ownsRow.alloc HR.out _
             have bwB : Below w.heap.size w (w2.alloc (.cells #[.int .u8 n] 5)) := b2.alloc b2.size _)
          | (at_builtin
             refine wpList_append_own _ rfl (.tmp 54) (.tmp 58) 24 rfl w.heap.size 5 i0 (.int .u8 0) 1 1 Tryd.underlying24 hi hz0 hz1 hz2 rfl (by decide) _ _ _ rfl HYB.out ⟨w2.heap.size, 0, none⟩ 1 1 [.int .u8 n] rfl rfl (blk_new w2 [.int .u8 n] 5).cells (by intro u hu; simp at hu; subst hu; rfl) (by unfold maxLen; omega) (by omega) bwB.size ?_
             intro v4 w4 hown4 hgrow4 hiff4
             clear hiff4
             have b4 : Below w.heap.size w w4 := bwB.grown hgrow4 bwB.size (fun j hj => (HLT2.out j hj).1)
             have HR4 := hid (YOut.push hown4)
             obtain ⟨oa4, oc4, rfl⟩ := HR4.out.form
             have hl4 : (acc2 ++ [n]).length ≤ acc2.length + 1 := by simp
             obtain ⟨acc4, hac⟩ : ∃ l, l = acc2 ++ [n] := ⟨_, rfl⟩
             rw [← hac] at HR4 hl4 ⊢
             rw [← hac] at HS
             clear hown4 hgrow4 hac HLT2 bwB HYB HR b2 d0 d1 d2))
        go_roundw
        case rel => exact ⟨k + 1, acc4, oa4, oc4, by omega, by go_num, rfl, by omega, (HS.out.symm.trans HGO.out), HR4, b4⟩
        case measure => simp [intOf]; omega
      · have HYA : Hid (YOut 5 w.heap.size ((wr.alloc (.cells #[.int .i64 5, .int .i64 n, .string s] 39)).alloc (.cells #[.int .u8 5] 5)) (.slice oa acc.length oc) acc) := World.ownsRow.alloc (World.ownsRow.alloc HY.out _) _
        have HBA : Hid (Blk ((wr.alloc (.cells #[.int .i64 5, .int .i64 n, .string s] 39)).alloc (.cells #[.int .u8 5] 5)) wr.heap.size [.int .i64 5, .int .i64 n, .string s]) := (blk_new wr [.int .i64 5, .int .i64 n, .string s] 39).below (below_alloc _ _) (by simp)
        have HCA : Hid (∀ j u, ([.int .u8 5] : List Value)[j]? = some u → ((wr.alloc (.cells #[.int .i64 5, .int .i64 n, .string s] 39)).alloc (.cells #[.int .u8 5] 5)).cell? ((⟨wr.heap.size + 1, 0, none⟩ : Addr).add j) = some u) := (by
          have := (blk_new (wr.alloc (.cells #[.int .i64 5, .int .i64 n, .string s] 39)) [.int .u8 5] 5).cells
          simpa using this : ∀ j u, ([.int .u8 5] : List Value)[j]? = some u → ((wr.alloc (.cells #[.int .i64 5, .int .i64 n, .string s] 39)).alloc (.cells #[.int .u8 5] 5)).cell? ((⟨wr.heap.size + 1, 0, none⟩ : Addr).add j) = some u)
        have bwA : Below w.heap.size w ((wr.alloc (.cells #[.int .i64 5, .int .i64 n, .string s] 39)).alloc (.cells #[.int .u8 5] 5)) := (hb.alloc hbs _).alloc (by simp; omega) _
        have HLT := hid (World.ownsRow.lt HY.out)
        have hrl := rowP_len 5 n s hB
        obtain ⟨m, hm, hm64⟩ := foldN_nat hN0 hN1
        have hfo := fun W => fold_spec n W hN0 hN1
        rw [hm] at hfo
        have hvi := fun W => varint_spec m W hm64
        obtain ⟨vl, hvl⟩ : ∃ l, l = varF 9 m := ⟨_, rfl⟩
        have hvp : 0 < vl.length := by rw [hvl]; exact varF_pos _ _
        have hv10 : vl.length ≤ 10 := by rw [hvl]; exact varF_len _ _
        have HRP : Hid (rowP 5 n s = vl) := (by rw [hvl]; simp [rowP, hm] : rowP 5 n s = vl)
        rw [HRP.out] at HS
        rw [← hvl] at hvi
        clear hm hvl
        clear HY hV
        go_wp2_with (first
          | (at_builtin
             refine wpList_append_own _ rfl (.tmp 21) (.tmp 25) 24 rfl w.heap.size 5 i0 (.int .u8 0) 1 1 Tryd.underlying24 hi hz0 hz1 hz2 rfl (by decide) _ _ _ rfl HYA.out ⟨wr.heap.size + 1, 0, none⟩ 1 1 [.int .u8 5] rfl rfl HCA.out (by intro u hu; simp at hu; subst hu; rfl) (by unfold maxLen; omega) (by omega) bwA.size ?_
             intro v2 w2 hown2 hgrow2 hiff2
             clear hiff2
             have b2 : Below w.heap.size w w2 := bwA.grown hgrow2 bwA.size (fun j hj => (HLT.out j hj).1)
             have HB2 : Hid (Blk w2 wr.heap.size [.int .i64 5, .int .i64 n, .string s]) := HBA.out.grown hgrow2 (by simp; omega) (fun e => by have := (HLT.out _ e.symm).2; omega)
             have hs2 : wr.heap.size < w2.heap.size := by have := hgrow2.size; simp at this; omega
             have HR := hid (YOut.push hown2)
             obtain ⟨oa2, oc2, rfl⟩ := HR.out.form
             have hl2 : (acc ++ [5]).length ≤ acc.length + 1 := by simp
             have d0 : w2.cell? ⟨wr.heap.size, 0, none⟩ = some (.int .i64 5) := (HB2.out 0 (by simp)).1
             have d1 : w2.cell? ⟨wr.heap.size, 1, none⟩ = some (.int .i64 n) := (HB2.out 1 (by simp)).1
             have d2 : w2.cell? ⟨wr.heap.size, 2, none⟩ = some (.string s) := (HB2.out 2 (by simp)).1
             obtain ⟨acc2, hac⟩ : ∃ l, l = acc ++ [(5 : Int)] := ⟨_, rfl⟩
             have hp2 : 0 < (acc ++ [(5 : Int)]).length := by simp
             rw [← hac] at HR hl2 hp2 ⊢
             rw [← hac] at HS
             have HNE := hid (HR.out.notBox hp2 HB2.out)
             have HLT2 := hid (World.ownsRow.lt HR.out)
             clear hown2 hgrow2 HYA HBA HCA hac HLT bwA c0 c1 c2)
          | (go_at_call 37
             refine (hfo _).mono ?_
             rintro e w2' ⟨rfl, hww⟩
             replace hww := hww.symm
             subst hww)
          | (go_at_call 36
             refine (hvi _).mono ?_
             rintro e w3 ⟨⟨v3, rfl, hy3⟩, hb3⟩
             have b3 : Below w.heap.size w w3 := b2.trans (hb3.mono b2.size)
             have HR3 := hid (HR.out.below hb3)
             have HB3 := hid (HB2.out.below hb3 hs2)
             have hs3 : wr.heap.size < w3.heap.size := by have := hb3.size; omega
             obtain ⟨g3, cap3, rfl, hg31, hg32, hc3⟩ := hy3.cells (by omega)
             have HC3 := hid hc3
             have f2 : w3.cell? ⟨wr.heap.size, 2, none⟩ = some (.string s) := (HB3.out 2 (by simp)).1
             clear hy3 hc3 hb3 HR HB2 b2 d0 d1 d2)
          | (at_builtin
             refine wpList_append_own _ rfl (.tmp 33) (.tmp 37) 24 rfl w.heap.size 5 i0 (.int .u8 0) 1 1 Tryd.underlying24 hi hz0 hz1 hz2 rfl (by decide) _ _ _ rfl HR3.out ⟨g3, 0, none⟩ vl.length cap3 (vl.map (Value.int .u8)) rfl (by rw [List.length_map, Nat.mul_one]) HC3.out (oneU8 vl) (by unfold maxLen; omega) (by omega) b3.size ?_
             intro v4 w4 hown4 hgrow4 hiff4
             clear hiff4
             have b4 : Below w.heap.size w w4 := b3.grown hgrow4 b3.size (fun j hj => (HLT2.out j hj).1)
             have HB4 : Hid (Blk w4 wr.heap.size [.int .i64 5, .int .i64 n, .string s]) := HB3.out.grown hgrow4 hs3 (HNE.out)
             have HR4 := hid (YOut.more hown4)
             obtain ⟨oa4, oc4, rfl⟩ := HR4.out.form
             have hl4 : (acc2 ++ vl).length ≤ acc2.length + vl.length := by simp
             have k2 : w4.cell? ⟨wr.heap.size, 2, none⟩ = some (.string s) := (HB4.out 2 (by simp)).1
             obtain ⟨acc4, hac⟩ : ∃ l, l = acc2 ++ vl := ⟨_, rfl⟩
             rw [← hac] at HR4 hl4 ⊢
             rw [← hac] at HS
             have HLT4 := hid (World.ownsRow.lt HR4.out)
             clear hown4 hgrow4 hac HLT2 HC3 b3 HB3 HR3 f2))
        go_roundw
        case rel => exact ⟨k + 1, acc4, oa4, oc4, by omega, by go_num, rfl, by omega, (HS.out.symm.trans HGO.out), HR4, b4⟩
        case measure => simp [intOf]; omega
    · have hkn : k = us.length := by omega
      have HE : Hid (acc = rowL us) := (by rw [HA.out, List.take_of_length_le (by omega)]; rfl : acc = rowL us)
      have hlti : ¬ (k : Int) < us.length := by omega
      by_cases hbig : (4000 : Int) < acc.length
      · have HF : Hid (BytC rowL 4000 us [] 5) := .inr (.inl ⟨HVT.out, by rw [← HE.out]; omega, rfl, rfl⟩)
        clear HA HE
        go_wp2
        refine bodyPost_ret (v := .tuple #[.slice (some ⟨wr.heap.size, 0, none⟩) 0 0, .int .i64 5]) (by simp [results, Tryd.results17, go_sem]) rfl ⟨_, 5, [], rfl, rsw_none, HF.out, hb.alloc hbs _⟩
      · have HF : Hid (BytC rowL 4000 us acc 0) := .inr (.inr ⟨HVT.out, by rw [← HE.out]; omega, HE.out, rfl⟩)
        clear HA HE
        go_wp2
        refine bodyPost_ret (v := .tuple #[.slice oa acc.length oc, .int .i64 0]) (by simp [results, Tryd.results17, go_sem]) rfl ⟨_, 0, acc, rfl, HY.out.rsw, HF.out, hb⟩
end Go.Proofs.YtfgjleifhjegkaaDoor
