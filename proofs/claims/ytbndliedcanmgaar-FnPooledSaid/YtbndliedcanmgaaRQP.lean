import Derived.Test.YtbndliedcanmgaaRQX
import Derived.Test.YtbndliedcanmgaaRPG
namespace Go.Proofs.YtbndliedcanmgaaR
open Go.ChangeShapes Go.WideShapes Go.ChangeAt Go.RowKit
set_option linter.unusedVariables false
set_option linter.unusedSimpArgs false
set_option maxRecDepth 100000
abbrev cells0 : Array Value := #[.int .i32 0, .int .u32 0, .int .i64 0, .bool false, .bool false, .bool false, .int .i64 0, .bool false, .bool false, .bool false, .int .i64 0, .bool false, .bool false, .bool false, .int .i64 0, .bool false, .bool false, .bool false, .int .i64 0, .bool false, .bool false, .bool false, .int .i64 0, .bool false, .bool false, .bool false, .int .i64 0, .bool false, .bool false, .bool false, .int .i64 0, .bool false, .bool false, .bool false, .int .i64 0]
theorem newI (w : World) : IPool (w.alloc (.cells cells0 71)) w.heap.size 0 (List.replicate 8 f0) 0 := by
  have hc : ∀ k, (w.alloc (.cells cells0 71)).cell? ⟨w.heap.size, k, none⟩ = cells0[k]? := fun k => by
    rw [World.cell?_alloc_at _ _ _ _ rfl]
  have hf : ∀ k, (w.alloc (.cells cells0 71)).frozen? ⟨w.heap.size, k, none⟩ = false := fun k => by simp [go_sem]
  refine ⟨by simp, by omega, by simp, ⟨⟨(hc 0).trans rfl, (hc 34).trans rfl⟩, hf 0, hf 34⟩, fun i hi => ?_⟩
  have hx : (List.replicate 8 f0)[i] = f0 := List.getElem_replicate ..
  rw [hx]
  refine ⟨?_, hf _, hf _, hf _, hf _⟩
  have h8 : i = 0 ∨ i = 1 ∨ i = 2 ∨ i = 3 ∨ i = 4 ∨ i = 5 ∨ i = 6 ∨ i = 7 := by simp at hi; omega
  refine ⟨(hc _).trans ?_, (hc _).trans ?_, (hc _).trans ?_, (hc _).trans ?_⟩ <;> (rcases h8 with rfl | rfl | rfl | rfl | rfl | rfl | rfl | rfl <;> rfl)
theorem good0 : Good (List.replicate 8 f0) := fun f hf => by
  rw [List.eq_of_mem_replicate hf]
  exact ⟨by decide, fun _ => ⟨rfl, rfl⟩⟩
theorem OutR.nil (b : Nat) (w : World) : OutR b w (.slice none 0 0) [] := ⟨⟨by simp, .inl ⟨rfl, rfl⟩⟩, fun x hx => (by cases hx), List.Pairwise.nil⟩
theorem poolRunI_big (a : Option Addr) (c : Nat) (us : List POp) (w : World) (h : 4000 < us.length) :
    Calls Try.prog 7 #[.slice a us.length c] w fun e w' => PoolP us w e w' := by
  have hi : (4000 : Int) < us.length := by omega
  have HP : Hid (poolF us = ([], 5)) := (if_pos h : poolF us = ([], 5))
  go_enter Try.func7, Try.ntmps7
  go_wp2
  refine bodyPost_ret (v := .tuple #[.slice none 0 0, .int .i64 5]) (by simp [results, Try.results7, go_sem]) rfl ⟨_, [], ?_, OutR.nil _ _, ?_, Below.refl _ _⟩
  · rw [HP.out]
  · rw [HP.out]; rfl
set_option maxHeartbeats 8000000 in
theorem poolRunI_rest (a : Option Addr) (c : Nat) (us : List POp) (w : World) (h : us.length ≤ 4000) (hr : RS 2 CPo 0 w (.slice a us.length c) us) :
    Calls Try.prog 7 #[.slice a us.length c] w fun e w' => PoolP us w e w' := by
  obtain ⟨i0, hi0, hz0, hz1, hz2⟩ := info_parts infoPO
  have hi : ¬ (4000 : Int) < us.length := by omega
  have HR := hid hr
  clear hr
  cases ha : us.all opOK with
  | false =>
    have HF : Hid (poolF us = ([], 1)) := (by unfold poolF; rw [if_neg (by omega), ha]; rfl : poolF us = ([], 1))
    go_enter Try.func7, Try.ntmps7
    go_wp2_with (go_at_call 20; refine (contains_any a c us w h HR.out).mono ?_; rintro e w1 ⟨rfl, hb⟩; have HB := hid hb; clear hb; rw [ha])
    refine bodyPost_ret (v := .tuple #[.slice none 0 0, .int .i64 1]) (by simp [results, Try.results7, go_sem]) rfl ⟨_, [], ?_, OutR.nil _ _, ?_, HB.out⟩
    · rw [HF.out]
    · rw [HF.out]; rfl
  | true =>
    have HF : Hid (poolF us = (runF us (List.replicate 8 f0) 0, 0)) := (by unfold poolF; rw [if_neg (by omega), ha]; rfl : poolF us = (runF us (List.replicate 8 f0) 0, 0))
    have HOK : Hid (∀ i (hi : i < us.length), opOK us[i] = true) := (fun i hi => (List.all_eq_true.1 ha) _ (List.getElem_mem hi) : ∀ i (hi : i < us.length), opOK us[i] = true)
    go_enter Try.func7, Try.ntmps7
    go_wp2_with (go_at_call 20; refine (contains_any a c us w h HR.out).mono ?_; rintro e w0 ⟨rfl, hb⟩; have HB := hid hb; have hb0 := hb.size; clear hb; rw [ha])
    clear ha
    have HP0 := hid (newI w0)
    have hq1 : w0.heap.size < (w0.alloc (.cells cells0 71)).heap.size := by simp
    have hbw : Below w.heap.size w (w0.alloc (.cells cells0 71)) := HB.out.alloc hb0 _
    generalize hw1 : w0.alloc (.cells cells0 71) = w1 at *
    clear hw1 HB
    generalize w0.heap.size = q at *
    go_loopw [5, 15] (fun ov iv wx => ∃ (i : Nat) (ps : List (Value × POut)) (fs : List Fr) (hd : Nat) (oa : Option Addr) (oc : Nat), i ≤ us.length ∧ iv = .int .i64 (i : Int) ∧ ov = .slice oa ps.length oc ∧ Hid (ps.length = i) ∧ Hid (stN i us (List.replicate 8 f0, 0) = (ps.map Prod.snd, fs, hd)) ∧ Hid (OutR w1.heap.size wx (.slice oa ps.length oc) ps) ∧ Hid (IPool wx q 0 fs hd) ∧ Hid (Good fs) ∧ Hid (U2 q q w1 wx) ∧ w1.heap.size ≤ wx.heap.size) (fun _ iv _ => us.length - (intOf iv).toNat)
    case atStart => exact ⟨0, [], List.replicate 8 f0, 0, none, 0, Nat.zero_le _, rfl, rfl, (rfl : ([] : List (Value × POut)).length = 0), (rfl : stN 0 us (List.replicate 8 f0, 0) = ([], List.replicate 8 f0, 0)), OutR.nil _ _, HP0, good0, U2.refl _ _ _, Nat.le_refl _⟩
    case round =>
      clear HP0
      obtain ⟨i, ps, fs, hd, oa, oc, hin, rfl, rfl, HLN, HS, HO, HPL, HG, HU, hsz⟩ := hrel
      have hbx : Below w.heap.size w wr := U2.belowOf hbw HU.out (by omega) hb0 hb0
      by_cases hlt : i < us.length
      · have hlti : (i : Int) < us.length := by omega
        obtain ⟨g, o, rfl, _, hg, hc⟩ := po_at (HR.out.below liesPo hbx) (by omega)
        obtain ⟨c0, c1⟩ := hc i hlt
        clear hc
        have HS2 := hid (stN_on HS.out hlt)
        have HRUN := hid (fun W (P : IPool W q 0 fs hd) => run_any q fs hd us[i] W P HG.out (HOK.out i hlt))
        obtain ⟨⟨⟨rd, wt, al⟩, fs2, h2⟩, hst⟩ : ∃ z, stepF us[i] fs hd = z := ⟨_, rfl⟩
        have HS5 : Hid (∀ u : Value, stN (i + 1) us (List.replicate 8 f0, 0) = ((ps ++ [(u, (⟨rd, wt, al⟩ : POut))]).map Prod.snd, fs2, h2)) := (fun u => by rw [HS2.out, hst]; simp : ∀ u : Value, stN (i + 1) us (List.replicate 8 f0, 0) = ((ps ++ [(u, (⟨rd, wt, al⟩ : POut))]).map Prod.snd, fs2, h2))
        rw [hst] at HRUN
        clear hst HS HS2
        generalize us[i].kd = kd at *
        generalize us[i].pg = pg at *
        have HBA : Hid (Below wr.heap.size wr (wr.alloc (.cells #[.int .i64 kd, .int .i64 pg] 26))) := below_alloc _ _
        have hwa : (wr.alloc (.cells #[.int .i64 kd, .int .i64 pg] 26)).heap.size = wr.heap.size + 1 := by simp
        go_wp2_with (go_at_call 22; fail)
        refine (HRUN.out _ (HPL.out.below HBA.out)).mono ?_
        rintro e w2 ⟨v, rfl, hI, hP, hG2, hU⟩
        simp only at hI hP hG2
        obtain ⟨va, vc, rfl⟩ := hI.form
        have hs2 : wr.heap.size + 1 ≤ w2.heap.size := by have := hU.size; omega
        have HG2 := hid hG2
        have HNW : Hid (∀ x ∈ ps, ∀ j, x.1.ownBlock = some j → (Value.slice va al.length vc).ownBlock ≠ some j) := (fun x hx j hj e => by have h1 := (World.ownsRow.lt (HO.out.2.1 x hx) j hj).2; have h2 := (World.ownsRow.lt hI j e).1; rw [hwa] at h2; omega : ∀ x ∈ ps, ∀ j, x.1.ownBlock = some j → (Value.slice va al.length vc).ownBlock ≠ some j)
        have HU4 : Hid (U2 q q wr (w2.alloc (.cells #[.int .i64 rd, .int .i64 wt, .slice va al.length vc] 33))) := ((U2.below HBA.out).trans hU).alloc
        have HI4 : Hid (IOut w1.heap.size (w2.alloc (.cells #[.int .i64 rd, .int .i64 wt, .slice va al.length vc] 33)) (.slice va al.length vc) al) := World.ownsRow.alloc (hI.base (by omega)) _
        have HP4 := hid (hP.below (below_alloc _ (.cells #[.int .i64 rd, .int .i64 wt, .slice va al.length vc] 33)))
        have HO4 : Hid (OutR w1.heap.size (w2.alloc (.cells #[.int .i64 rd, .int .i64 wt, .slice va al.length vc] 33)) (.slice oa ps.length oc) ps) := HO.out.u2 HU4.out hq1 hq1
        have hs4 : w1.heap.size ≤ (w2.alloc (.cells #[.int .i64 rd, .int .i64 wt, .slice va al.length vc] 33)).heap.size := Nat.le_trans hsz HU4.out.size
        have HN : Hid (∀ (j : Nat) (x : Value), (poC (.slice va al.length vc, ⟨rd, wt, al⟩))[j]? = some x → (w2.alloc (.cells #[.int .i64 rd, .int .i64 wt, .slice va al.length vc] 33)).cell? ((⟨w2.heap.size, 0, none⟩ : Addr).add j) = some x) := (fun j x hj => by
          have hl : j < 3 := by
            by_cases h : j < 3
            · exact h
            · rw [List.getElem?_eq_none (by simp [poC]; omega)] at hj; cases hj
          rw [Addr.add_lit, Nat.zero_add, World.cell?_alloc_at _ _ _ _ (by simp)]
          have : j = 0 ∨ j = 1 ∨ j = 2 := by omega
          rcases this with rfl | rfl | rfl <;> exact hj : ∀ (j : Nat) (x : Value), (poC (.slice va al.length vc, ⟨rd, wt, al⟩))[j]? = some x → (w2.alloc (.cells #[.int .i64 rd, .int .i64 wt, .slice va al.length vc] 33)).cell? ((⟨w2.heap.size, 0, none⟩ : Addr).add j) = some x)
        clear hU hI hP hG2 c0 c1 HPL HBA HRUN HG
        replace HS5 := hid (HS5.out (.slice va al.length vc))
        go_wp2_with (at_builtin
                     refine wpList_append_own _ rfl (.tmp 19) (.tmp 22) 27 rfl w1.heap.size 33 i0 _ 3 40 Try.underlying27 hi0 hz0 hz1 hz2 rfl (by decide) _ _ _ rfl HO4.out.1 ⟨w2.heap.size, 0, none⟩ 1 1 (poC (.slice va al.length vc, ⟨rd, wt, al⟩)) rfl rfl HN.out (by intro u hu; simp [poC] at hu; rcases hu with rfl | rfl | rfl <;> rfl) (by unfold maxLen; have := HLN.out; omega) (by have := HLN.out; omega) hs4 ?_
                     intro v5 w5 hown hgrow hiff
                     clear hiff
                     have HO5 := hid (HO4.out.push HI4.out HNW.out hgrow hown)
                     have HP5 := hid (HP4.out.grown hgrow (fun e => by have := (HO4.out.1.lt _ e.symm).1; omega))
                     have HU5 := hid (U2.grown (B := 0) (HU.out.trans HU4.out) hgrow (fun k e => (HO4.out.1.lt k e).1))
                     have hs5 : w1.heap.size ≤ w5.heap.size := Nat.le_trans hs4 hgrow.size
                     obtain ⟨oa5, oc5, hv5⟩ := HO5.out.form
                     subst hv5
                     clear hown hgrow HO4 HI4 HP4 HU4 HN HNW)
        go_roundw
        case rel => exact ⟨i + 1, ps ++ [(.slice va al.length vc, ⟨rd, wt, al⟩)], _, _, oa5, oc5, by omega, by go_num, (by simp), hid (by have := HLN.out; simp; omega), HS5, HO5, HP5, HG2, HU5, hs5⟩
        case measure => simp [intOf]; omega
      · have hie : i = us.length := by omega
        subst hie
        have HE : Hid (ps.map Prod.snd = runF us (List.replicate 8 f0) 0) := (by have := HS.out; rw [← stN_run us (List.replicate 8 f0) 0, this] : ps.map Prod.snd = runF us (List.replicate 8 f0) 0)
        clear HS
        have HBX := hid hbx
        clear hbx
        go_wp2
        refine bodyPost_ret (v := .tuple #[.slice oa ps.length oc, .int .i64 0]) (by simp [results, Try.results7, go_sem]) rfl ⟨_, ps, ?_, HO.out.base (by omega), ?_, HBX.out⟩
        · rw [HF.out]
        · rw [HF.out]; exact HE.out
theorem poolRun_impl (a : Option Addr) (c : Nat) (us : List POp) (w : World) (hr : RS 2 CPo 0 w (.slice a us.length c) us) :
    Calls Try.prog 7 #[.slice a us.length c] w fun e w' => PoolP us w e w' := by
  by_cases h : 4000 < us.length
  · exact poolRunI_big a c us w h
  · exact poolRunI_rest a c us w (by omega) hr
end Go.Proofs.YtbndliedcanmgaaR
