import Derived.Test.YtbndliedcanmgaaRPO
namespace Go.Proofs.YtbndliedcanmgaaR
open Go.ChangeShapes Go.WideShapes Go.ChangeAt Go.RowKit
set_option linter.unusedVariables false
set_option linter.unusedSimpArgs false
set_option maxRecDepth 100000
theorem infoI : (Try.prog.info? 3).map (fun i => (i.zero, i.size, i.bytes)) = some (some (.int .i64 0), 1, 8) := by kernel_rfl
def IOut (b : Nat) (w : World) (v : Value) (xs : List Int) : Prop := w.ownsRow b 3 1 v xs.length (xs.map (Value.int .i64))
theorem IOut.form {b : Nat} {w : World} {v : Value} {xs : List Int} (h : IOut b w v xs) : ∃ oa oc, v = .slice oa xs.length oc := by
  obtain ⟨_, h2⟩ := h
  rcases h2 with ⟨rfl, h0⟩ | ⟨q, cap, cur, rfl, _⟩
  · exact ⟨none, 0, by rw [h0]⟩
  · exact ⟨_, _, rfl⟩
theorem IOut.push {b : Nat} {w : World} {v : Value} {xs : List Int} {x : Int} (h : w.ownsRow b 3 1 v (xs.length + 1) (xs.map (Value.int .i64) ++ [.int .i64 x])) : IOut b w v (xs ++ [x]) := by
  unfold IOut
  rw [List.map_append, List.length_append]
  exact h
def clI (page : Int) : Nat → List Int × List Fr → List Int × List Fr
  | 0, a => a
  | i + 1, a => match (clI page i a).2[i]? with
    | some f => if f.pg = page ∧ f.dy = true then ((clI page i a).1 ++ [page], (clI page i a).2.set i (f.d false)) else clI page i a
    | none => clI page i a
def clP : Nat → List Int × List Fr → List Int × List Fr
  | 0, a => a
  | p + 1, a => clI (p : Int) 8 (clP p a)
theorem clI_hit {page : Int} {i : Nat} {a : List Int × List Fr} {out : List Int} {fs : List Fr} (h : clI page i a = (out, fs)) (hi : i < fs.length) (hp : fs[i].pg = page) (hd : fs[i].dy = true) : clI page (i + 1) a = (out ++ [page], fs.set i (fs[i].d false)) := by
  rw [clI, h]
  simp only
  rw [List.getElem?_eq_getElem hi]
  simp only
  rw [if_pos ⟨hp, hd⟩]
theorem clI_miss {page : Int} {i : Nat} {a : List Int × List Fr} {out : List Int} {fs : List Fr} (h : clI page i a = (out, fs)) (hi : i < fs.length) (hp : ¬ (fs[i].pg = page ∧ fs[i].dy = true)) : clI page (i + 1) a = (out, fs) := by
  rw [clI, h]
  simp only
  rw [List.getElem?_eq_getElem hi]
  simp only
  rw [if_neg hp]
theorem Pool.grown {w w' : World} {q g cap : Nat} {fs : List Fr} {h : Nat} {row : Option Nat} (p : Pool w q g cap fs h) (hg : w.grownBy w' row) (hq : some q ≠ row) (hgr : some g ≠ row) : Pool w' q g cap fs h := p.same hg.size (hg.block q p.qlt hq) (hg.block g p.glt hgr)
theorem U2.grown {q g B : Nat} {w a b : World} {row : Option Nat} (h : U2 q g w a) (hg : a.grownBy b row) (hr : ∀ k, row = some k → w.heap.size ≤ k) : U2 q g w b := ⟨hg.os.trans h.os, hg.tape.trans h.tape, hg.output.trans h.output, Nat.le_trans h.size hg.size, fun k hk h1 h2 => (hg.block k (Nat.lt_of_lt_of_le hk h.size) (fun e => by have := hr k e.symm; omega)).trans (h.block k hk h1 h2)⟩
set_option maxHeartbeats 8000000 in
theorem clean_spec (q g cap : Nat) (fs : List Fr) (h : Nat) (w : World) (P : Pool w q g cap fs h) :
    Calls Try.prog 18 #[.pointer (some ⟨q, 0, none⟩)] w fun e w' => ∃ v, e = .returned v ∧ IOut w.heap.size w' v (clP 300 ([], fs)).1 ∧ Pool w' q g cap (clP 300 ([], fs)).2 h ∧ U2 q g w w' := by
  obtain ⟨i0, hi, hz0, hz1, hz2⟩ := info_parts infoI
  have HP := hid (P.below (below_alloc w (.cells #[] 3)))
  have hq := P.qlt
  have hg := P.glt
  have hqg := P.ne
  clear P
  go_enter Try.func18, Try.ntmps18
  go_wp2
  go_loopw [3, 4] (fun ov pv wx => ∃ (p : Nat) (out : List Int) (fs' : List Fr) (oa : Option Addr) (oc : Nat), p ≤ 300 ∧ pv = .int .i64 (p : Int) ∧ ov = .slice oa out.length oc ∧ out.length ≤ 8 * p ∧ Hid (clP p ([], fs) = (out, fs')) ∧ Hid (IOut w.heap.size wx (.slice oa out.length oc) out) ∧ Hid (Pool wx q g cap fs' h) ∧ Hid (U2 q g w wx) ∧ w.heap.size ≤ wx.heap.size) (fun _ pv _ => 300 - (intOf pv).toNat)
  case atStart => exact ⟨0, [], fs, _, _, Nat.zero_le _, rfl, rfl, by simp, (rfl : clP 0 ([], fs) = ([], fs)), World.ownsRow_made w #[] 0 (Nat.le_refl _) (by unfold maxLen; omega) (by simp), HP, U2.below (below_alloc _ _), by simp⟩
  case round =>
    clear HP
    obtain ⟨p, out, fs', oa, oc, hp, rfl, rfl, hol, HC, HI, HPL, HU, hsz⟩ := hrel
    by_cases hlt : p < 300
    · have hlti : (p : Int) < 300 := by omega
      obtain ⟨⟨c0, c1⟩, k0, k1⟩ := HPL.out.blk
      go_wp2
      clear c0 c1 k0 k1
      rename World => W3
      go_loopw [3, 17] (fun ov iv wx => ∃ (i : Nat) (out1 : List Int) (fs1 : List Fr) (oa : Option Addr) (oc : Nat), i ≤ 8 ∧ iv = .int .i64 (i : Int) ∧ ov = .slice oa out1.length oc ∧ out1.length ≤ 8 * p + i ∧ Hid (clI (p : Int) i (clP p ([], fs)) = (out1, fs1)) ∧ Hid (IOut w.heap.size wx (.slice oa out1.length oc) out1) ∧ Hid (Pool wx q g cap fs1 h) ∧ Hid (U2 q g w wx) ∧ w.heap.size ≤ wx.heap.size) (fun _ iv _ => 8 - (intOf iv).toNat)
      case atStart => exact ⟨0, out, fs', oa, oc, Nat.zero_le _, rfl, rfl, by omega, HC, HI, HPL, HU, hsz⟩
      case round =>
        clear HI HPL HU hsz HC
        obtain ⟨i, out1, fs1, oa1, oc1, hi8, rfl, rfl, hol1, HC, HI, HPL, HU, hsz⟩ := hrel
        have hl8 := HPL.out.len
        obtain ⟨⟨c0, c1⟩, k0, k1⟩ := HPL.out.blk
        by_cases hil : i < 8
        · have hili : (i : Int) < 8 := by omega
          have hif : i < fs1.length := by omega
          obtain ⟨⟨d0, d1, d2⟩, f0, f1, f2⟩ := HPL.out.frs i hif
          have hgr := HPL.out.glt
          have hqr := HPL.out.qlt
          have HKEY : Hid (∀ W, Below wr.heap.size wr W → Hid (IOut w.heap.size W (.slice oa1 out1.length oc1) out1) ∧ Hid (Pool W q g cap fs1 h) ∧ Hid (U2 q g w W) ∧ w.heap.size ≤ W.heap.size) := (fun W hb => ⟨own_below HI.out hb, HPL.out.below hb, HU.out.trans (U2.below hb), Nat.le_trans hsz hb.size⟩ : ∀ W, Below wr.heap.size wr W → Hid (IOut w.heap.size W (.slice oa1 out1.length oc1) out1) ∧ Hid (Pool W q g cap fs1 h) ∧ Hid (U2 q g w W) ∧ w.heap.size ≤ W.heap.size)
          have HLT := hid (World.ownsRow.lt HI.out)
          clear HI HPL HU
          by_cases hpg : fs1[i].pg = (p : Int)
          · by_cases hdy : fs1[i].dy = true
            · have HC2 := hid (clI_hit HC.out hif hpg hdy)
              rw [hpg] at d0
              rw [hdy] at d2
              clear HC
              generalize fs1[i].ma = p1 at d1
              have HB7 : Hid (Below wr.heap.size wr ((wr.alloc (.cells #[.int .i64 (p : Int), .bool p1, .bool true] 54)).alloc (.cells #[.int .i64 (p : Int)] 3))) := (below_alloc _ _).alloc (by simp) _
              have HN : Hid (∀ (j : Nat) (u : Value), [Value.int .i64 (p : Int)][j]? = some u → ((wr.alloc (.cells #[.int .i64 (p : Int), .bool p1, .bool true] 54)).alloc (.cells #[.int .i64 (p : Int)] 3)).cell? ((⟨wr.heap.size + 1, 0, none⟩ : Addr).add j) = some u) := (fun j u hj => by
                have hl : j = 0 := by
                  by_cases h : j < 1
                  · omega
                  · rw [List.getElem?_eq_none (by simp; omega)] at hj; cases hj
                subst hl
                rw [Addr.add_lit, Nat.zero_add, World.cell?_alloc_at _ _ _ _ (by simp)]
                exact hj : ∀ (j : Nat) (u : Value), [Value.int .i64 (p : Int)][j]? = some u → ((wr.alloc (.cells #[.int .i64 (p : Int), .bool p1, .bool true] 54)).alloc (.cells #[.int .i64 (p : Int)] 3)).cell? ((⟨wr.heap.size + 1, 0, none⟩ : Addr).add j) = some u)
              have HO7 : Hid (((wr.alloc (.cells #[.int .i64 (p : Int), .bool p1, .bool true] 54)).alloc (.cells #[.int .i64 (p : Int)] 3)).ownsRow w.heap.size 3 1 (.slice oa1 out1.length oc1) out1.length (out1.map (Value.int .i64))) := (HKEY.out _ HB7.out).1.out
              have hs7 : w.heap.size ≤ ((wr.alloc (.cells #[.int .i64 (p : Int), .bool p1, .bool true] 54)).alloc (.cells #[.int .i64 (p : Int)] 3)).heap.size := (HKEY.out _ HB7.out).2.2.2
              clear hpg hdy
              go_wp2_with (at_builtin
                           refine wpList_append_own _ rfl (.tmp 30) (.tmp 32) 30 rfl w.heap.size 3 i0 (.int .i64 0) 1 8 Try.underlying30 hi hz0 hz1 hz2 rfl (by decide) _ _ _ rfl HO7.out ⟨wr.heap.size + 1, 0, none⟩ 1 1 [.int .i64 (p : Int)] rfl rfl HN.out (by intro u hu; simp at hu; subst hu; rfl) (by unfold maxLen; omega) (by omega) hs7 ?_
                           intro v2 w2 hown2 hgrow2 hiff2
                           clear hiff2 c0 c1 k0 k1 d0 d1 d2 f0 f1 f2
                           have P2 := (HKEY.out _ HB7.out).2.1.out.grown hgrow2 (fun e => by have := (HLT.out _ e.symm).1; omega) (fun e => by have := (HLT.out _ e.symm).1; omega)
                           have HU2 := hid (U2.grown (B := 0) (HKEY.out _ HB7.out).2.2.1.out hgrow2 (fun k e => (HLT.out k e).1))
                           have hs2 : w.heap.size ≤ w2.heap.size := Nat.le_trans (HKEY.out _ HB7.out).2.2.2 hgrow2.size
                           have HL2 := hid (World.ownsRow.lt hown2)
                           have HR := hid (IOut.push hown2)
                           obtain ⟨oa2, oc2, hv2⟩ := HR.out.form
                           subst hv2
                           obtain ⟨⟨c0, c1⟩, k0, k1⟩ := P2.blk
                           obtain ⟨⟨d0, d1, d2⟩, f0, f1, f2⟩ := P2.frs i hif
                           have HP3 := hid (P2.setD i hif false)
                           have HU3 : Hid (U2 q g w (w2.setCell ⟨g, i * 3 + 2, none⟩ (.bool false))) := HU2.out.setG
                           have HR3 : Hid (IOut w.heap.size (w2.setCell ⟨g, i * 3 + 2, none⟩ (.bool false)) (.slice oa2 (out1 ++ [(p : Int)]).length oc2) (out1 ++ [(p : Int)])) := ownsRow_setCell_other HR.out (fun e => Nat.not_le_of_lt hg (HL2.out _ e).1) _
                           have hg2 := P2.glt
                           have hq2 := P2.qlt
                           clear hown2 hgrow2 HB7 HKEY P2 HU2 HR HL2 HLT)
              go_roundw
              case rel => exact ⟨i + 1, out1 ++ [(p : Int)], fs1.set i (fs1[i].d false), oa2, oc2, by omega, by go_num, (by simp), (by simp; omega), HC2, HR3, HP3, HU3, by simpa [World.setCell] using hs2⟩
              case measure => simp [intOf]; omega
            · have HC2 := hid (clI_miss HC.out hif (fun e => hdy e.2))
              have hdf : fs1[i].dy = false := by simpa using hdy
              rw [hpg] at d0
              rw [hdf] at d2
              clear HC hpg hdy hdf
              generalize fs1[i].ma = p1 at d1
              go_wp2
              go_roundw
              case rel =>
                obtain ⟨k1, k2, k3, k4⟩ := HKEY.out (wr.alloc (.cells #[.int .i64 (p : Int), .bool p1, .bool false] 54)) (below_alloc _ _)
                exact ⟨i + 1, out1, fs1, oa1, oc1, by omega, by go_num, rfl, by omega, HC2, k1, k2, k3, k4⟩
              case measure => simp [intOf]; omega
          · have HC2 := hid (clI_miss HC.out hif (fun e => hpg e.1))
            have hpf : (fs1[i].pg == (p : Int)) = false := by simpa using hpg
            clear HC hpg
            generalize fs1[i].pg = p0 at *
            generalize fs1[i].ma = p1 at d1
            generalize fs1[i].dy = p2 at d2
            go_wp2
            go_roundw
            case rel =>
              obtain ⟨k1, k2, k3, k4⟩ := HKEY.out (wr.alloc (.cells #[.int .i64 p0, .bool p1, .bool p2] 54)) (below_alloc _ _)
              exact ⟨i + 1, out1, fs1, oa1, oc1, by omega, by go_num, rfl, by omega, HC2, k1, k2, k3, k4⟩
            case measure => simp [intOf]; omega
        · have hi8e : i = 8 := by omega
          subst hi8e
          clear c0 c1 k0 k1
          go_wp2
          go_roundw
          case rel => exact ⟨p + 1, out1, fs1, oa1, oc1, by omega, by go_num, rfl, by omega, HC, HI, HPL, HU, hsz⟩
          case measure => simp [intOf]; omega
    · have hp3 : p = 300 := by omega
      subst hp3
      go_wp2
      go_ret
      refine ⟨_, rfl, ?_, ?_, HU.out⟩
      · rw [HC.out]; exact HI.out
      · rw [HC.out]; exact HPL.out
end Go.Proofs.YtbndliedcanmgaaR
