import Derived.Test.YtbndliedcanmgaaRPR
namespace Go.Proofs.YtbndliedcanmgaaR
open Go.ChangeShapes Go.WideShapes Go.ChangeAt Go.RowKit
set_option linter.unusedVariables false
set_option linter.unusedSimpArgs false
set_option maxRecDepth 100000
theorem infoPO : (Try.prog.info? 33).map (fun i => (i.zero, i.size, i.bytes)) = some (some (.agg #[.int .i64 0, .int .i64 0, .slice none 0 0]), 3, 40) := by kernel_rfl
theorem OutR.base {b b' : Nat} {w : World} {v : Value} {ps : List (Value × POut)} (h : OutR b w v ps) (hb : b' ≤ b) : OutR b' w v ps := ⟨own_base h.1 hb, fun x hx => own_base (h.2.1 x hx) hb, h.2.2⟩
def PoolP (us : List POp) (w : World) (e : Ending) (w' : World) : Prop := ∃ v ps, e = .returned (.tuple #[v, .int .i64 (poolF us).2]) ∧ OutR w.heap.size w' v ps ∧ ps.map Prod.snd = (poolF us).1 ∧ Below w.heap.size w w'
theorem U2.belowOf {q g B : Nat} {w w1 wx : World} (hb : Below B w w1) (hu : U2 q g w1 wx) (hB : B ≤ w1.heap.size) (hq : B ≤ q) (hg : B ≤ g) : Below B w wx := ⟨hu.os.trans hb.os, hu.tape.trans hb.tape, hu.output.trans hb.output, Nat.le_trans hb.size hu.size, fun k hk => (hu.block k (by omega) (by omega) (by omega)).trans (hb.block k hk)⟩
theorem U2.setNew {q g c j : Nat} {w a : World} {u : Value} (h : U2 q g w a) (hc : w.heap.size ≤ c) : U2 q g w (a.setCell ⟨c, j, none⟩ u) := ⟨h.os, h.tape, h.output, by simpa [World.setCell] using h.size, fun k hk h1 h2 => (Below.heap_setCell _ _ _ _ (by simp; omega)).trans (h.block k hk h1 h2)⟩
theorem Pool.setO {w : World} {q g cap : Nat} {fs : List Fr} {h c j : Nat} {u : Value} (p : Pool w q g cap fs h) (hq : c ≠ q) (hg : c ≠ g) : Pool (w.setCell ⟨c, j, none⟩ u) q g cap fs h := p.same (by simp [World.setCell]) (Below.heap_setCell _ _ _ _ (by simpa using fun e : q = c => hq e.symm)) (Below.heap_setCell _ _ _ _ (by simpa using fun e : g = c => hg e.symm))
theorem all_false {us : List POp} {j : Nat} (hj : j < us.length) (h : opOK us[j] = false) (hl : us.length ≤ 4000) : poolF us = ([], 1) := by
  unfold poolF
  rw [if_neg (by omega), if_neg]
  intro e
  rw [List.all_eq_true] at e
  have := e us[j] (List.getElem_mem hj)
  rw [h] at this
  cases this
theorem all_true {us : List POp} (h : ∀ i (hi : i < us.length), opOK us[i] = true) (hl : us.length ≤ 4000) : poolF us = (runF us (List.replicate 8 f0) 0, 0) := by
  unfold poolF
  rw [if_neg (by omega), if_pos]
  rw [List.all_eq_true]
  intro x hx
  obtain ⟨i, hi, rfl⟩ := List.getElem_of_mem hx
  exact h i hi
set_option maxHeartbeats 8000000 in
theorem poolRun_big (a : Option Addr) (c : Nat) (us : List POp) (w : World) (h : 4000 < us.length) :
    Calls Try.prog 6 #[.slice a us.length c] w fun e w' => PoolP us w e w' := by
  have hi : (4000 : Int) < us.length := by omega
  have HP : Hid (poolF us = ([], 5)) := (if_pos h : poolF us = ([], 5))
  go_enter Try.func6, Try.ntmps6
  go_wp2
  refine bodyPost_ret (v := .tuple #[.slice (some ⟨w.heap.size, 0, none⟩) 0 0, .int .i64 5]) (by simp [results, Try.results6, go_sem]) rfl ⟨_, [], ?_, OutR.made w (Nat.le_refl _), ?_, below_alloc _ _⟩
  · rw [HP.out]
  · rw [HP.out]; rfl
set_option maxHeartbeats 8000000 in
theorem poolRun_rest (a : Option Addr) (c : Nat) (us : List POp) (w : World) (h : us.length ≤ 4000) (hr : RS 2 CPo 0 w (.slice a us.length c) us) :
    Calls Try.prog 6 #[.slice a us.length c] w fun e w' => PoolP us w e w' := by
  obtain ⟨i0, hi0, hz0, hz1, hz2⟩ := info_parts infoPO
  have hi : ¬ (4000 : Int) < us.length := by omega
  have HR := hid hr
  clear hr
  go_enter Try.func6, Try.ntmps6
  go_wp2
  go_loopw [20] (fun iv wx => ∃ j : Nat, iv = .int .i64 (j : Int) ∧ j ≤ us.length ∧ Hid (∀ i (hi : i < us.length), i < j → opOK us[i] = true) ∧ Below w.heap.size w wx) (fun iv _ => us.length - (intOf iv).toNat)
  case atStart => exact ⟨0, rfl, Nat.zero_le _, (fun i _ h => by omega : ∀ i (hi : i < us.length), i < 0 → opOK us[i] = true), Below.refl _ _⟩
  case round =>
    obtain ⟨j, rfl, hj, HA, hb⟩ := hrel
    by_cases hlt : j < us.length
    · have hlti : (j : Int) < us.length := by omega
      obtain ⟨g, o, rfl, _, hg, hc⟩ := po_at (HR.out.below liesPo hb) (by omega)
      obtain ⟨c0, c1⟩ := hc j hlt
      clear hc
      cases hok : opOK us[j] with
      | false =>
        have HF := hid (all_false hlt hok h)
        have hcs : us[j].kd < 1 ∨ 4 < us[j].kd ∨ (us[j].kd < 4 ∧ us[j].pg < 0) ∨ (us[j].kd < 4 ∧ 300 ≤ us[j].pg) := by
          unfold opOK at hok
          simp at hok
          omega
        have HBA := hid hb
        clear hok HA
        generalize us[j].kd = kd at *
        generalize us[j].pg = pg at *
        have hbs := hb.size
        rcases hcs with hk | hk | ⟨hk, hp⟩ | ⟨hk, hp⟩
        · skip
          go_wp2
          refine bodyPost_ret (v := .tuple #[.slice (some ⟨wr.heap.size + 1, 0, none⟩) 0 0, .int .i64 1]) (by simp [results, Try.results6, go_sem]) rfl ⟨_, [], (by rw [HF.out]; simp), (OutR.made _ (Nat.le_refl _)).base (by simp; omega), (by rw [HF.out]; rfl), by (go_light; repeat (first | with_reducible assumption | with_reducible exact Below.refl _ _ | (with_reducible refine Below.setCell ?_ ?_ _; rotate_left; (focus first | (simp; done) | (simp; omega) | omega)) | (with_reducible refine Below.alloc ?_ ?_ _; rotate_left; (focus first | (simp; done) | (simp; omega) | omega)) | with_reducible refine Below.drew ?_))⟩
        · have hn1 : ¬ kd < 1 := by omega
          go_wp2
          refine bodyPost_ret (v := .tuple #[.slice (some ⟨wr.heap.size + 1, 0, none⟩) 0 0, .int .i64 1]) (by simp [results, Try.results6, go_sem]) rfl ⟨_, [], (by rw [HF.out]; simp), (OutR.made _ (Nat.le_refl _)).base (by simp; omega), (by rw [HF.out]; rfl), by (go_light; repeat (first | with_reducible assumption | with_reducible exact Below.refl _ _ | (with_reducible refine Below.setCell ?_ ?_ _; rotate_left; (focus first | (simp; done) | (simp; omega) | omega)) | (with_reducible refine Below.alloc ?_ ?_ _; rotate_left; (focus first | (simp; done) | (simp; omega) | omega)) | with_reducible refine Below.drew ?_))⟩
        · have hn4 : ¬ 4 < kd := by omega
          by_cases hn1 : kd < 1
          · go_wp2
            refine bodyPost_ret (v := .tuple #[.slice (some ⟨wr.heap.size + 1, 0, none⟩) 0 0, .int .i64 1]) (by simp [results, Try.results6, go_sem]) rfl ⟨_, [], (by rw [HF.out]; simp), (OutR.made _ (Nat.le_refl _)).base (by simp; omega), (by rw [HF.out]; rfl), by (go_light; repeat (first | with_reducible assumption | with_reducible exact Below.refl _ _ | (with_reducible refine Below.setCell ?_ ?_ _; rotate_left; (focus first | (simp; done) | (simp; omega) | omega)) | (with_reducible refine Below.alloc ?_ ?_ _; rotate_left; (focus first | (simp; done) | (simp; omega) | omega)) | with_reducible refine Below.drew ?_))⟩
          · go_wp2
            refine bodyPost_ret (v := .tuple #[.slice (some ⟨wr.heap.size + 1, 0, none⟩) 0 0, .int .i64 1]) (by simp [results, Try.results6, go_sem]) rfl ⟨_, [], (by rw [HF.out]; simp), (OutR.made _ (Nat.le_refl _)).base (by simp; omega), (by rw [HF.out]; rfl), by (go_light; repeat (first | with_reducible assumption | with_reducible exact Below.refl _ _ | (with_reducible refine Below.setCell ?_ ?_ _; rotate_left; (focus first | (simp; done) | (simp; omega) | omega)) | (with_reducible refine Below.alloc ?_ ?_ _; rotate_left; (focus first | (simp; done) | (simp; omega) | omega)) | with_reducible refine Below.drew ?_))⟩
        · have hn4 : ¬ 4 < kd := by omega
          have hp0 : ¬ pg < 0 := by omega
          by_cases hn1 : kd < 1
          · go_wp2
            refine bodyPost_ret (v := .tuple #[.slice (some ⟨wr.heap.size + 1, 0, none⟩) 0 0, .int .i64 1]) (by simp [results, Try.results6, go_sem]) rfl ⟨_, [], (by rw [HF.out]; simp), (OutR.made _ (Nat.le_refl _)).base (by simp; omega), (by rw [HF.out]; rfl), by (go_light; repeat (first | with_reducible assumption | with_reducible exact Below.refl _ _ | (with_reducible refine Below.setCell ?_ ?_ _; rotate_left; (focus first | (simp; done) | (simp; omega) | omega)) | (with_reducible refine Below.alloc ?_ ?_ _; rotate_left; (focus first | (simp; done) | (simp; omega) | omega)) | with_reducible refine Below.drew ?_))⟩
          · go_wp2
            refine bodyPost_ret (v := .tuple #[.slice (some ⟨wr.heap.size + 1, 0, none⟩) 0 0, .int .i64 1]) (by simp [results, Try.results6, go_sem]) rfl ⟨_, [], (by rw [HF.out]; simp), (OutR.made _ (Nat.le_refl _)).base (by simp; omega), (by rw [HF.out]; rfl), by (go_light; repeat (first | with_reducible assumption | with_reducible exact Below.refl _ _ | (with_reducible refine Below.setCell ?_ ?_ _; rotate_left; (focus first | (simp; done) | (simp; omega) | omega)) | (with_reducible refine Below.alloc ?_ ?_ _; rotate_left; (focus first | (simp; done) | (simp; omega) | omega)) | with_reducible refine Below.drew ?_))⟩
      | true =>
        have HA2 : Hid (∀ i (hi : i < us.length), i < j + 1 → opOK us[i] = true) := (fun i hi hij => by
          by_cases e : i < j
          · exact HA.out i hi e
          · have : i = j := by omega
            subst this
            exact hok : ∀ i (hi : i < us.length), i < j + 1 → opOK us[i] = true)
        have hcs : 1 ≤ us[j].kd ∧ (us[j].kd = 4 ∨ (us[j].kd < 4 ∧ 0 ≤ us[j].pg ∧ us[j].pg < 300)) := by
          unfold opOK at hok
          simp at hok
          omega
        clear hok HA
        generalize us[j].kd = kd at *
        generalize us[j].pg = pg at *
        have hbs := hb.size
        obtain ⟨hk1, hcs⟩ := hcs
        have hn1 : ¬ kd < 1 := by omega
        have hn4 : ¬ 4 < kd := by omega
        rcases hcs with hk | ⟨hk, hp0, hp3⟩
        · subst hk
          go_wp2
          go_roundw
          case rel => exact ⟨j + 1, by go_num, by omega, HA2, by (go_light; repeat (first | with_reducible assumption | with_reducible exact Below.refl _ _ | (with_reducible refine Below.setCell ?_ ?_ _; rotate_left; (focus first | (simp; done) | (simp; omega) | omega)) | (with_reducible refine Below.alloc ?_ ?_ _; rotate_left; (focus first | (simp; done) | (simp; omega) | omega)) | with_reducible refine Below.drew ?_))⟩
          case measure => simp [intOf]; omega
        · have hn0 : ¬ pg < 0 := by omega
          have hn3 : ¬ 300 ≤ pg := by omega
          go_wp2
          go_roundw
          case rel => exact ⟨j + 1, by go_num, by omega, HA2, by (go_light; repeat (first | with_reducible assumption | with_reducible exact Below.refl _ _ | (with_reducible refine Below.setCell ?_ ?_ _; rotate_left; (focus first | (simp; done) | (simp; omega) | omega)) | (with_reducible refine Below.alloc ?_ ?_ _; rotate_left; (focus first | (simp; done) | (simp; omega) | omega)) | with_reducible refine Below.drew ?_))⟩
          case measure => simp [intOf]; omega
    · have hje : j = us.length := by omega
      subst hje
      have HF := hid (all_true (fun i hi => HA.out i hi hi) h)
      clear HA
      go_wp2_with (go_at_call 17; fail)
      refine (newPool_spec wr).mono ?_
      rintro e w1 ⟨g1, cap, rfl, P, hgg, hb1⟩
      have hbw : Below w.heap.size w w1 := hb.trans (hb1.mono hb.size)
      have hbz := hb.size
      have hq1 := P.qlt
      have hg1 := P.glt
      have hwq : w.heap.size ≤ wr.heap.size := hb.size
      generalize wr.heap.size = q at *
      have HP0 := hid P
      clear P hb1 hb
      have HO0 := hid (OutR.made w1 (Nat.le_refl _))
      have HPA := hid (HP0.out.below (below_alloc w1 (.cells #[] 33)))
      go_wp2
      go_loopw [7, 53] (fun ov iv wx => ∃ (i : Nat) (ps : List (Value × POut)) (fs : List Fr) (hd : Nat) (oa : Option Addr) (oc : Nat), i ≤ us.length ∧ iv = .int .i64 (i : Int) ∧ ov = .slice oa ps.length oc ∧ Hid (ps.length = i) ∧ Hid (stN i us (List.replicate 8 f0, 0) = (ps.map Prod.snd, fs, hd)) ∧ Hid (OutR w1.heap.size wx (.slice oa ps.length oc) ps) ∧ Hid (Pool wx q g1 cap fs hd) ∧ Hid (U2 q g1 w1 wx) ∧ w1.heap.size ≤ wx.heap.size) (fun _ iv _ => us.length - (intOf iv).toNat)
      case atStart => exact ⟨0, [], List.replicate 8 f0, 0, _, _, Nat.zero_le _, rfl, rfl, (rfl : ([] : List (Value × POut)).length = 0), (rfl : stN 0 us (List.replicate 8 f0, 0) = ([], List.replicate 8 f0, 0)), HO0, HPA, U2.below (below_alloc _ _), by simp⟩
      case round =>
        clear HO0 HPA HP0
        obtain ⟨i, ps, fs, hd, oa, oc, hin, rfl, rfl, HLN, HS, HO, HPL, HU, hsz⟩ := hrel
        have hbx : Below w.heap.size w wr := U2.belowOf hbw HU.out (by omega) hwq (by omega)
        by_cases hlt : i < us.length
        · have hlti : (i : Int) < us.length := by omega
          obtain ⟨g, o, rfl, _, hg, hc⟩ := po_at (HR.out.below liesPo hbx) (by omega)
          obtain ⟨c0, c1⟩ := hc i hlt
          clear hc
          have HS2 := hid (stN_on HS.out hlt)
          clear HS
          by_cases hk4 : us[i].kd = 4
          · have HST : Hid (stepF us[i] fs hd = (⟨-1, -1, (clP 300 ([], fs)).1⟩, (clP 300 ([], fs)).2, hd)) := (if_pos hk4 : stepF us[i] fs hd = (⟨-1, -1, (clP 300 ([], fs)).1⟩, (clP 300 ([], fs)).2, hd))
            rw [hk4] at c0
            generalize us[i].pg = pg at c1
            clear hk4
            have HBA : Hid (Below wr.heap.size wr ((wr.alloc (.cells #[.int .i64 4, .int .i64 pg] 26)).alloc (.cells #[.int .i64 (-1), .int .i64 (-1), .slice none 0 0] 33))) := (below_alloc _ _).alloc (by simp) _
            have hwa : ((wr.alloc (.cells #[.int .i64 4, .int .i64 pg] 26)).alloc (.cells #[.int .i64 (-1), .int .i64 (-1), .slice none 0 0] 33)).heap.size = wr.heap.size + 2 := by simp
            have hA : ((wr.alloc (.cells #[.int .i64 4, .int .i64 pg] 26)).alloc (.cells #[.int .i64 (-1), .int .i64 (-1), .slice none 0 0] 33)).cell? ⟨wr.heap.size + 1, 0, none⟩ = some (.int .i64 (-1)) ∧ ((wr.alloc (.cells #[.int .i64 4, .int .i64 pg] 26)).alloc (.cells #[.int .i64 (-1), .int .i64 (-1), .slice none 0 0] 33)).cell? ⟨wr.heap.size + 1, 1, none⟩ = some (.int .i64 (-1)) ∧ ((wr.alloc (.cells #[.int .i64 4, .int .i64 pg] 26)).alloc (.cells #[.int .i64 (-1), .int .i64 (-1), .slice none 0 0] 33)).cell? ⟨wr.heap.size + 1, 2, none⟩ = some (.slice none 0 0) ∧ ((wr.alloc (.cells #[.int .i64 4, .int .i64 pg] 26)).alloc (.cells #[.int .i64 (-1), .int .i64 (-1), .slice none 0 0] 33)).frozen? ⟨wr.heap.size + 1, 2, none⟩ = false := by simp [go_sem]
            rcases hcl : clP 300 ([], fs) with ⟨al, fs2⟩
            have HS5 : Hid (∀ u : Value, stN (i + 1) us (List.replicate 8 f0, 0) = ((ps ++ [(u, (⟨-1, -1, al⟩ : POut))]).map Prod.snd, fs2, hd)) := (fun u => by rw [HS2.out, HST.out, hcl]; simp : ∀ u : Value, stN (i + 1) us (List.replicate 8 f0, 0) = ((ps ++ [(u, (⟨-1, -1, al⟩ : POut))]).map Prod.snd, fs2, hd))
            clear HS2 HST
            go_wp2_with (go_at_call 18; fail)
            refine (clean_spec q g1 cap fs hd _ (HPL.out.below HBA.out)).mono ?_
            rintro e w2 ⟨v, rfl, hI, hP, hU⟩
            rw [hcl] at hI hP
            simp only at hI hP
            clear hcl
            obtain ⟨va, vc, rfl⟩ := hI.form
            have hblk := hU.block (wr.heap.size + 1) (by omega) (by omega) (by omega)
            have e0 := (World.cell?_of_block (a := ⟨wr.heap.size + 1, 0, none⟩) hblk).trans hA.1
            have e1 := (World.cell?_of_block (a := ⟨wr.heap.size + 1, 1, none⟩) hblk).trans hA.2.1
            have e2 := (World.cell?_of_block (a := ⟨wr.heap.size + 1, 2, none⟩) hblk).trans hA.2.2.1
            have k2 := (World.frozen?_of_block (a := ⟨wr.heap.size + 1, 2, none⟩) hblk).trans hA.2.2.2
            have hs2 : wr.heap.size + 2 ≤ w2.heap.size := by have := hU.size; omega
            have HNW : Hid (∀ x ∈ ps, ∀ j, x.1.ownBlock = some j → (Value.slice va al.length vc).ownBlock ≠ some j) := (fun x hx j hj e => by have h1 := (World.ownsRow.lt (HO.out.2.1 x hx) j hj).2; have h2 := (World.ownsRow.lt hI j e).1; rw [hwa] at h2; omega : ∀ x ∈ ps, ∀ j, x.1.ownBlock = some j → (Value.slice va al.length vc).ownBlock ≠ some j)
            have HU4 : Hid (U2 q g1 wr ((w2.setCell ⟨wr.heap.size + 1, 2, none⟩ (.slice va al.length vc)).alloc (.cells #[.int .i64 (-1), .int .i64 (-1), .slice va al.length vc] 33))) := (((U2.below HBA.out).trans hU).setNew (by omega)).alloc
            have HI4 : Hid (IOut w1.heap.size ((w2.setCell ⟨wr.heap.size + 1, 2, none⟩ (.slice va al.length vc)).alloc (.cells #[.int .i64 (-1), .int .i64 (-1), .slice va al.length vc] 33)) (.slice va al.length vc) al) := World.ownsRow.alloc (ownsRow_setCell_other (hI.base (by omega)) (fun e => by have := (World.ownsRow.lt hI _ e).1; simp at this; omega) _) _
            have HP4 := hid ((hP.setO (c := wr.heap.size + 1) (j := 2) (u := .slice va al.length vc) (by omega) (by omega)).below (below_alloc _ (.cells #[.int .i64 (-1), .int .i64 (-1), .slice va al.length vc] 33)))
            have HO4 : Hid (OutR w1.heap.size ((w2.setCell ⟨wr.heap.size + 1, 2, none⟩ (.slice va al.length vc)).alloc (.cells #[.int .i64 (-1), .int .i64 (-1), .slice va al.length vc] 33)) (.slice oa ps.length oc) ps) := HO.out.u2 HU4.out hq1 hg1
            have hs4 : w1.heap.size ≤ ((w2.setCell ⟨wr.heap.size + 1, 2, none⟩ (.slice va al.length vc)).alloc (.cells #[.int .i64 (-1), .int .i64 (-1), .slice va al.length vc] 33)).heap.size := Nat.le_trans hsz HU4.out.size
            have HN : Hid (∀ (j : Nat) (x : Value), (poC (.slice va al.length vc, ⟨-1, -1, al⟩))[j]? = some x → ((w2.setCell ⟨wr.heap.size + 1, 2, none⟩ (.slice va al.length vc)).alloc (.cells #[.int .i64 (-1), .int .i64 (-1), .slice va al.length vc] 33)).cell? ((⟨w2.heap.size, 0, none⟩ : Addr).add j) = some x) := (fun j x hj => by
              have hl : j < 3 := by
                by_cases h : j < 3
                · exact h
                · rw [List.getElem?_eq_none (by simp [poC]; omega)] at hj; cases hj
              rw [Addr.add_lit, Nat.zero_add, World.cell?_alloc_at _ _ _ _ (by simp [World.setCell])]
              have : j = 0 ∨ j = 1 ∨ j = 2 := by omega
              rcases this with rfl | rfl | rfl <;> exact hj : ∀ (j : Nat) (x : Value), (poC (.slice va al.length vc, ⟨-1, -1, al⟩))[j]? = some x → ((w2.setCell ⟨wr.heap.size + 1, 2, none⟩ (.slice va al.length vc)).alloc (.cells #[.int .i64 (-1), .int .i64 (-1), .slice va al.length vc] 33)).cell? ((⟨w2.heap.size, 0, none⟩ : Addr).add j) = some x)
            clear hblk hA hU hI hP c0 c1 HPL HBA
            replace HS5 := hid (HS5.out (.slice va al.length vc))
            go_wp2_with (at_builtin
                         refine wpList_append_own _ rfl (.tmp 64) (.tmp 66) 27 rfl w1.heap.size 33 i0 _ 3 40 Try.underlying27 hi0 hz0 hz1 hz2 rfl (by decide) _ _ _ rfl HO4.out.1 ⟨w2.heap.size, 0, none⟩ 1 1 (poC (.slice va al.length vc, ⟨-1, -1, al⟩)) rfl rfl HN.out (by intro u hu; simp [poC] at hu; rcases hu with rfl | rfl | rfl <;> rfl) (by unfold maxLen; have := HLN.out; omega) (by have := HLN.out; omega) hs4 ?_
                         intro v5 w5 hown hgrow hiff
                         clear hiff
                         have HO5 := hid (HO4.out.push HI4.out HNW.out hgrow hown)
                         have HP5 := hid (HP4.out.grown hgrow (fun e => by have := (HO4.out.1.lt _ e.symm).1; omega) (fun e => by have := (HO4.out.1.lt _ e.symm).1; omega))
                         have HU5 := hid (U2.grown (B := 0) (HU.out.trans HU4.out) hgrow (fun k e => (HO4.out.1.lt k e).1))
                         have hs5 : w1.heap.size ≤ w5.heap.size := Nat.le_trans hs4 hgrow.size
                         obtain ⟨oa5, oc5, hv5⟩ := HO5.out.form
                         subst hv5
                         clear hown hgrow HO4 HI4 HP4 HU4 HN HNW)
            go_roundw
            case rel => exact ⟨i + 1, ps ++ [(.slice va al.length vc, ⟨-1, -1, al⟩)], _, _, oa5, oc5, by omega, by go_num, (by simp), hid (by have := HLN.out; simp; omega), HS5, HO5, HP5, HU5, hs5⟩
            case measure => simp [intOf]; omega
          · have HST : Hid (stepF us[i] fs hd = (⟨if (useF us[i].pg fs hd).th = false ∧ us[i].kd < 3 then us[i].pg else -1, (useF us[i].pg fs hd).wr, []⟩, if 1 < us[i].kd then setDirty (useF us[i].pg fs hd).i (useF us[i].pg fs hd).fs else (useF us[i].pg fs hd).fs, (useF us[i].pg fs hd).h)) := (if_neg hk4 : stepF us[i] fs hd = _)
            rcases huu : useF us[i].pg fs hd with ⟨ui, ut, uw, ufs, uh⟩
            have hst := HST.out
            rw [huu] at hst
            simp only at hst
            have HS3 := hid (HS2.out.trans (by rw [hst] : _ = (ps.map Prod.snd ++ [(⟨if ut = false ∧ us[i].kd < 3 then us[i].pg else -1, uw, []⟩ : POut)], if 1 < us[i].kd then setDirty ui ufs else ufs, uh)))
            clear HST HS2 hst
            generalize us[i].kd = kd at *
            generalize us[i].pg = pg at *
            have hk4b : (kd == 4) = false := by simpa using hk4
            have HBA : Hid (Below wr.heap.size wr ((wr.alloc (.cells #[.int .i64 kd, .int .i64 pg] 26)).alloc (.cells #[.int .i64 (-1), .int .i64 (-1), .slice none 0 0] 33))) := (below_alloc _ _).alloc (by simp) _
            have hwa : ((wr.alloc (.cells #[.int .i64 kd, .int .i64 pg] 26)).alloc (.cells #[.int .i64 (-1), .int .i64 (-1), .slice none 0 0] 33)).heap.size = wr.heap.size + 2 := by simp
            have hA : (((wr.alloc (.cells #[.int .i64 kd, .int .i64 pg] 26)).alloc (.cells #[.int .i64 (-1), .int .i64 (-1), .slice none 0 0] 33)).cell? ⟨wr.heap.size + 1, 0, none⟩ = some (.int .i64 (-1)) ∧ ((wr.alloc (.cells #[.int .i64 kd, .int .i64 pg] 26)).alloc (.cells #[.int .i64 (-1), .int .i64 (-1), .slice none 0 0] 33)).cell? ⟨wr.heap.size + 1, 1, none⟩ = some (.int .i64 (-1)) ∧ ((wr.alloc (.cells #[.int .i64 kd, .int .i64 pg] 26)).alloc (.cells #[.int .i64 (-1), .int .i64 (-1), .slice none 0 0] 33)).cell? ⟨wr.heap.size + 1, 2, none⟩ = some (.slice none 0 0)) ∧ (((wr.alloc (.cells #[.int .i64 kd, .int .i64 pg] 26)).alloc (.cells #[.int .i64 (-1), .int .i64 (-1), .slice none 0 0] 33)).frozen? ⟨wr.heap.size + 1, 0, none⟩ = false ∧ ((wr.alloc (.cells #[.int .i64 kd, .int .i64 pg] 26)).alloc (.cells #[.int .i64 (-1), .int .i64 (-1), .slice none 0 0] 33)).frozen? ⟨wr.heap.size + 1, 1, none⟩ = false) ∧ ((wr.alloc (.cells #[.int .i64 kd, .int .i64 pg] 26)).alloc (.cells #[.int .i64 (-1), .int .i64 (-1), .slice none 0 0] 33)).cell? ⟨wr.heap.size, 0, none⟩ = some (.int .i64 kd) ∧ ((wr.alloc (.cells #[.int .i64 kd, .int .i64 pg] 26)).alloc (.cells #[.int .i64 (-1), .int .i64 (-1), .slice none 0 0] 33)).cell? ⟨wr.heap.size, 1, none⟩ = some (.int .i64 pg) := by simp [go_sem]
            have hqn : wr.heap.size + 1 ≠ q := by omega
            have hgn : wr.heap.size + 1 ≠ g1 := by omega
            have hqn' : q ≠ wr.heap.size + 1 := by omega
            have hgn' : g1 ≠ wr.heap.size + 1 := by omega
            go_wp2_with (go_at_call 19; fail)
            refine (use_any q g1 cap fs hd pg _ (HPL.out.below HBA.out)).mono ?_
            rintro e w2 hu
            rw [huu] at hu
            unfold UseA UseP at hu
            simp only at hu
            obtain ⟨hui, rfl, hP, hU⟩ := hu
            clear huu
            have hul : ui < ufs.length := by rw [hP.len]; exact hui
            have huiI : (ui : Int) < 8 := by omega
            have HSD : Hid (setDirty ui ufs = ufs.set ui (ufs[ui].d true)) := (by unfold setDirty; rw [List.getElem?_eq_getElem hul] : setDirty ui ufs = ufs.set ui (ufs[ui].d true))
            have hblk := hU.block (wr.heap.size + 1) (by omega) (by omega) (by omega)
            have hblo := hU.block wr.heap.size (by omega) (by omega) (by omega)
            have e0 := (World.cell?_of_block (a := ⟨wr.heap.size + 1, 0, none⟩) hblk).trans hA.1.1
            have e1 := (World.cell?_of_block (a := ⟨wr.heap.size + 1, 1, none⟩) hblk).trans hA.1.2.1
            have e2 := (World.cell?_of_block (a := ⟨wr.heap.size + 1, 2, none⟩) hblk).trans hA.1.2.2
            have k0 := (World.frozen?_of_block (a := ⟨wr.heap.size + 1, 0, none⟩) hblk).trans hA.2.1.1
            have k1 := (World.frozen?_of_block (a := ⟨wr.heap.size + 1, 1, none⟩) hblk).trans hA.2.1.2
            have b0 := (World.cell?_of_block (a := ⟨wr.heap.size, 0, none⟩) hblo).trans hA.2.2.1
            have b1 := (World.cell?_of_block (a := ⟨wr.heap.size, 1, none⟩) hblo).trans hA.2.2.2
            have hs2 : wr.heap.size + 2 ≤ w2.heap.size := by have := hU.size; omega
            clear c0 c1
            cases ut with
            | true =>
              have hk3 := True.intro
              by_cases hk1 : 1 < kd
              · skip
                have PC := hP.setO (c := wr.heap.size + 1) (j := 1) (u := .int .i64 uw) hqn hgn
                obtain ⟨⟨d0, d1, d2⟩, fz0, fz1, fz2⟩ := PC.frs ui hul
                obtain ⟨⟨p0, p1⟩, r0, r1⟩ := PC.blk
                have HS5 : Hid (stN (i + 1) us (List.replicate 8 f0, 0) = ((ps ++ [((.slice none 0 0 : Value), (⟨(-1), uw, []⟩ : POut))]).map Prod.snd, (ufs.set ui (ufs[ui].d true)), uh)) := (by rw [HS3.out]; simp [hk1, HSD.out, hk3] : stN (i + 1) us (List.replicate 8 f0, 0) = ((ps ++ [((.slice none 0 0 : Value), (⟨(-1), uw, []⟩ : POut))]).map Prod.snd, (ufs.set ui (ufs[ui].d true)), uh))
                have HNW : Hid (∀ x ∈ ps, ∀ j, x.1.ownBlock = some j → (Value.slice none 0 0).ownBlock ≠ some j) := (fun x hx j hj e => by simp [Value.ownBlock] at e : ∀ x ∈ ps, ∀ j, x.1.ownBlock = some j → (Value.slice none 0 0).ownBlock ≠ some j)
                have HU4 : Hid (U2 q g1 wr (((w2.setCell ⟨wr.heap.size + 1, 1, none⟩ (.int .i64 uw)).setCell ⟨g1, ui * 3 + 2, none⟩ (.bool true)).alloc (.cells #[.int .i64 (-1), .int .i64 uw, .slice none 0 0] 33))) := ((((U2.below HBA.out).trans hU).setNew (c := wr.heap.size + 1) (by omega)).setG (j := ui * 3 + 2)).alloc
                have HI4 : Hid (IOut w1.heap.size (((w2.setCell ⟨wr.heap.size + 1, 1, none⟩ (.int .i64 uw)).setCell ⟨g1, ui * 3 + 2, none⟩ (.bool true)).alloc (.cells #[.int .i64 (-1), .int .i64 uw, .slice none 0 0] 33)) (.slice none 0 0) []) := (⟨rfl, .inl ⟨rfl, rfl⟩⟩ : IOut w1.heap.size _ (.slice none 0 0) [])
                have HP4 := hid (((hP.setO (c := wr.heap.size + 1) (j := 1) (u := .int .i64 uw) hqn hgn).setD ui hul true).below (below_alloc _ (.cells #[.int .i64 (-1), .int .i64 uw, .slice none 0 0] 33)))
                have HO4 : Hid (OutR w1.heap.size (((w2.setCell ⟨wr.heap.size + 1, 1, none⟩ (.int .i64 uw)).setCell ⟨g1, ui * 3 + 2, none⟩ (.bool true)).alloc (.cells #[.int .i64 (-1), .int .i64 uw, .slice none 0 0] 33)) (.slice oa ps.length oc) ps) := HO.out.u2 HU4.out hq1 hg1
                have hs4 : w1.heap.size ≤ (((w2.setCell ⟨wr.heap.size + 1, 1, none⟩ (.int .i64 uw)).setCell ⟨g1, ui * 3 + 2, none⟩ (.bool true)).alloc (.cells #[.int .i64 (-1), .int .i64 uw, .slice none 0 0] 33)).heap.size := Nat.le_trans hsz HU4.out.size
                have HN : Hid (∀ (j : Nat) (x : Value), (poC (.slice none 0 0, ⟨(-1), uw, []⟩))[j]? = some x → (((w2.setCell ⟨wr.heap.size + 1, 1, none⟩ (.int .i64 uw)).setCell ⟨g1, ui * 3 + 2, none⟩ (.bool true)).alloc (.cells #[.int .i64 (-1), .int .i64 uw, .slice none 0 0] 33)).cell? ((⟨w2.heap.size, 0, none⟩ : Addr).add j) = some x) := (fun j x hj => by
                  have hl : j < 3 := by
                    by_cases h : j < 3
                    · exact h
                    · rw [List.getElem?_eq_none (by simp [poC]; omega)] at hj; cases hj
                  rw [Addr.add_lit, Nat.zero_add, World.cell?_alloc_at _ _ _ _ (by simp [World.setCell])]
                  have : j = 0 ∨ j = 1 ∨ j = 2 := by omega
                  rcases this with rfl | rfl | rfl <;> exact hj : ∀ (j : Nat) (x : Value), (poC (.slice none 0 0, ⟨(-1), uw, []⟩))[j]? = some x → (((w2.setCell ⟨wr.heap.size + 1, 1, none⟩ (.int .i64 uw)).setCell ⟨g1, ui * 3 + 2, none⟩ (.bool true)).alloc (.cells #[.int .i64 (-1), .int .i64 uw, .slice none 0 0] 33)).cell? ((⟨w2.heap.size, 0, none⟩ : Addr).add j) = some x)
                clear PC hP hU HPL HBA HS3 HSD hblk hblo hA
                generalize ufs[ui].pg = y0 at d0
                generalize ufs[ui].ma = y1 at d1
                generalize ufs[ui].dy = y2 at d2
                go_wp2_with (at_builtin
                             refine wpList_append_own _ rfl (.tmp 98) (.tmp 100) 27 rfl w1.heap.size 33 i0 _ 3 40 Try.underlying27 hi0 hz0 hz1 hz2 rfl (by decide) _ _ _ rfl HO4.out.1 ⟨w2.heap.size, 0, none⟩ 1 1 (poC (.slice none 0 0, ⟨(-1), uw, []⟩)) rfl rfl HN.out (by intro u hu; simp [poC] at hu; rcases hu with rfl | rfl | rfl <;> rfl) (by unfold maxLen; have := HLN.out; omega) (by have := HLN.out; omega) hs4 ?_
                             intro v5 w5 hown hgrow hiff
                             clear hiff
                             have HO5 := hid (HO4.out.push HI4.out HNW.out hgrow hown)
                             have HP5 := hid (HP4.out.grown hgrow (fun e => by have := (HO4.out.1.lt _ e.symm).1; omega) (fun e => by have := (HO4.out.1.lt _ e.symm).1; omega))
                             have HU5 := hid (U2.grown (B := 0) (HU.out.trans HU4.out) hgrow (fun k e => (HO4.out.1.lt k e).1))
                             have hs5 : w1.heap.size ≤ w5.heap.size := Nat.le_trans hs4 hgrow.size
                             obtain ⟨oa5, oc5, hv5⟩ := HO5.out.form
                             subst hv5
                             clear hown hgrow HO4 HI4 HP4 HU4 HN HNW)
                go_roundw
                case rel => exact ⟨i + 1, ps ++ [(.slice none 0 0, ⟨(-1), uw, []⟩)], _, _, oa5, oc5, by omega, by go_num, (by simp), hid (by have := HLN.out; simp; omega), HS5, HO5, HP5, HU5, hs5⟩
                case measure => simp [intOf]; omega
              · skip
                have PC := hP.setO (c := wr.heap.size + 1) (j := 1) (u := .int .i64 uw) hqn hgn
                obtain ⟨⟨d0, d1, d2⟩, fz0, fz1, fz2⟩ := PC.frs ui hul
                obtain ⟨⟨p0, p1⟩, r0, r1⟩ := PC.blk
                have HS5 : Hid (stN (i + 1) us (List.replicate 8 f0, 0) = ((ps ++ [((.slice none 0 0 : Value), (⟨(-1), uw, []⟩ : POut))]).map Prod.snd, ufs, uh)) := (by rw [HS3.out]; simp [hk1, hk3] : stN (i + 1) us (List.replicate 8 f0, 0) = ((ps ++ [((.slice none 0 0 : Value), (⟨(-1), uw, []⟩ : POut))]).map Prod.snd, ufs, uh))
                have HNW : Hid (∀ x ∈ ps, ∀ j, x.1.ownBlock = some j → (Value.slice none 0 0).ownBlock ≠ some j) := (fun x hx j hj e => by simp [Value.ownBlock] at e : ∀ x ∈ ps, ∀ j, x.1.ownBlock = some j → (Value.slice none 0 0).ownBlock ≠ some j)
                have HU4 : Hid (U2 q g1 wr ((w2.setCell ⟨wr.heap.size + 1, 1, none⟩ (.int .i64 uw)).alloc (.cells #[.int .i64 (-1), .int .i64 uw, .slice none 0 0] 33))) := (((U2.below HBA.out).trans hU).setNew (c := wr.heap.size + 1) (by omega)).alloc
                have HI4 : Hid (IOut w1.heap.size ((w2.setCell ⟨wr.heap.size + 1, 1, none⟩ (.int .i64 uw)).alloc (.cells #[.int .i64 (-1), .int .i64 uw, .slice none 0 0] 33)) (.slice none 0 0) []) := (⟨rfl, .inl ⟨rfl, rfl⟩⟩ : IOut w1.heap.size _ (.slice none 0 0) [])
                have HP4 := hid ((hP.setO (c := wr.heap.size + 1) (j := 1) (u := .int .i64 uw) hqn hgn).below (below_alloc _ (.cells #[.int .i64 (-1), .int .i64 uw, .slice none 0 0] 33)))
                have HO4 : Hid (OutR w1.heap.size ((w2.setCell ⟨wr.heap.size + 1, 1, none⟩ (.int .i64 uw)).alloc (.cells #[.int .i64 (-1), .int .i64 uw, .slice none 0 0] 33)) (.slice oa ps.length oc) ps) := HO.out.u2 HU4.out hq1 hg1
                have hs4 : w1.heap.size ≤ ((w2.setCell ⟨wr.heap.size + 1, 1, none⟩ (.int .i64 uw)).alloc (.cells #[.int .i64 (-1), .int .i64 uw, .slice none 0 0] 33)).heap.size := Nat.le_trans hsz HU4.out.size
                have HN : Hid (∀ (j : Nat) (x : Value), (poC (.slice none 0 0, ⟨(-1), uw, []⟩))[j]? = some x → ((w2.setCell ⟨wr.heap.size + 1, 1, none⟩ (.int .i64 uw)).alloc (.cells #[.int .i64 (-1), .int .i64 uw, .slice none 0 0] 33)).cell? ((⟨w2.heap.size, 0, none⟩ : Addr).add j) = some x) := (fun j x hj => by
                  have hl : j < 3 := by
                    by_cases h : j < 3
                    · exact h
                    · rw [List.getElem?_eq_none (by simp [poC]; omega)] at hj; cases hj
                  rw [Addr.add_lit, Nat.zero_add, World.cell?_alloc_at _ _ _ _ (by simp [World.setCell])]
                  have : j = 0 ∨ j = 1 ∨ j = 2 := by omega
                  rcases this with rfl | rfl | rfl <;> exact hj : ∀ (j : Nat) (x : Value), (poC (.slice none 0 0, ⟨(-1), uw, []⟩))[j]? = some x → ((w2.setCell ⟨wr.heap.size + 1, 1, none⟩ (.int .i64 uw)).alloc (.cells #[.int .i64 (-1), .int .i64 uw, .slice none 0 0] 33)).cell? ((⟨w2.heap.size, 0, none⟩ : Addr).add j) = some x)
                clear PC hP hU HPL HBA HS3 HSD hblk hblo hA
                generalize ufs[ui].pg = y0 at d0
                generalize ufs[ui].ma = y1 at d1
                generalize ufs[ui].dy = y2 at d2
                go_wp2_with (at_builtin
                             refine wpList_append_own _ rfl (.tmp 98) (.tmp 100) 27 rfl w1.heap.size 33 i0 _ 3 40 Try.underlying27 hi0 hz0 hz1 hz2 rfl (by decide) _ _ _ rfl HO4.out.1 ⟨w2.heap.size, 0, none⟩ 1 1 (poC (.slice none 0 0, ⟨(-1), uw, []⟩)) rfl rfl HN.out (by intro u hu; simp [poC] at hu; rcases hu with rfl | rfl | rfl <;> rfl) (by unfold maxLen; have := HLN.out; omega) (by have := HLN.out; omega) hs4 ?_
                             intro v5 w5 hown hgrow hiff
                             clear hiff
                             have HO5 := hid (HO4.out.push HI4.out HNW.out hgrow hown)
                             have HP5 := hid (HP4.out.grown hgrow (fun e => by have := (HO4.out.1.lt _ e.symm).1; omega) (fun e => by have := (HO4.out.1.lt _ e.symm).1; omega))
                             have HU5 := hid (U2.grown (B := 0) (HU.out.trans HU4.out) hgrow (fun k e => (HO4.out.1.lt k e).1))
                             have hs5 : w1.heap.size ≤ w5.heap.size := Nat.le_trans hs4 hgrow.size
                             obtain ⟨oa5, oc5, hv5⟩ := HO5.out.form
                             subst hv5
                             clear hown hgrow HO4 HI4 HP4 HU4 HN HNW)
                go_roundw
                case rel => exact ⟨i + 1, ps ++ [(.slice none 0 0, ⟨(-1), uw, []⟩)], _, _, oa5, oc5, by omega, by go_num, (by simp), hid (by have := HLN.out; simp; omega), HS5, HO5, HP5, HU5, hs5⟩
                case measure => simp [intOf]; omega
            | false =>
              by_cases hk3 : kd < 3
              · by_cases hk1 : 1 < kd
                · skip
                  have PC := (hP.setO (c := wr.heap.size + 1) (j := 1) (u := .int .i64 uw) hqn hgn).setO (c := wr.heap.size + 1) (j := 0) (u := .int .i64 pg) hqn hgn
                  obtain ⟨⟨d0, d1, d2⟩, fz0, fz1, fz2⟩ := PC.frs ui hul
                  obtain ⟨⟨p0, p1⟩, r0, r1⟩ := PC.blk
                  have HS5 : Hid (stN (i + 1) us (List.replicate 8 f0, 0) = ((ps ++ [((.slice none 0 0 : Value), (⟨pg, uw, []⟩ : POut))]).map Prod.snd, (ufs.set ui (ufs[ui].d true)), uh)) := (by rw [HS3.out]; simp [hk1, HSD.out, hk3] : stN (i + 1) us (List.replicate 8 f0, 0) = ((ps ++ [((.slice none 0 0 : Value), (⟨pg, uw, []⟩ : POut))]).map Prod.snd, (ufs.set ui (ufs[ui].d true)), uh))
                  have HNW : Hid (∀ x ∈ ps, ∀ j, x.1.ownBlock = some j → (Value.slice none 0 0).ownBlock ≠ some j) := (fun x hx j hj e => by simp [Value.ownBlock] at e : ∀ x ∈ ps, ∀ j, x.1.ownBlock = some j → (Value.slice none 0 0).ownBlock ≠ some j)
                  have HU4 : Hid (U2 q g1 wr ((((w2.setCell ⟨wr.heap.size + 1, 1, none⟩ (.int .i64 uw)).setCell ⟨wr.heap.size + 1, 0, none⟩ (.int .i64 pg)).setCell ⟨g1, ui * 3 + 2, none⟩ (.bool true)).alloc (.cells #[.int .i64 pg, .int .i64 uw, .slice none 0 0] 33))) := (((((U2.below HBA.out).trans hU).setNew (c := wr.heap.size + 1) (by omega)).setNew (c := wr.heap.size + 1) (by omega)).setG (j := ui * 3 + 2)).alloc
                  have HI4 : Hid (IOut w1.heap.size ((((w2.setCell ⟨wr.heap.size + 1, 1, none⟩ (.int .i64 uw)).setCell ⟨wr.heap.size + 1, 0, none⟩ (.int .i64 pg)).setCell ⟨g1, ui * 3 + 2, none⟩ (.bool true)).alloc (.cells #[.int .i64 pg, .int .i64 uw, .slice none 0 0] 33)) (.slice none 0 0) []) := (⟨rfl, .inl ⟨rfl, rfl⟩⟩ : IOut w1.heap.size _ (.slice none 0 0) [])
                  have HP4 := hid ((((hP.setO (c := wr.heap.size + 1) (j := 1) (u := .int .i64 uw) hqn hgn).setO (c := wr.heap.size + 1) (j := 0) (u := .int .i64 pg) hqn hgn).setD ui hul true).below (below_alloc _ (.cells #[.int .i64 pg, .int .i64 uw, .slice none 0 0] 33)))
                  have HO4 : Hid (OutR w1.heap.size ((((w2.setCell ⟨wr.heap.size + 1, 1, none⟩ (.int .i64 uw)).setCell ⟨wr.heap.size + 1, 0, none⟩ (.int .i64 pg)).setCell ⟨g1, ui * 3 + 2, none⟩ (.bool true)).alloc (.cells #[.int .i64 pg, .int .i64 uw, .slice none 0 0] 33)) (.slice oa ps.length oc) ps) := HO.out.u2 HU4.out hq1 hg1
                  have hs4 : w1.heap.size ≤ ((((w2.setCell ⟨wr.heap.size + 1, 1, none⟩ (.int .i64 uw)).setCell ⟨wr.heap.size + 1, 0, none⟩ (.int .i64 pg)).setCell ⟨g1, ui * 3 + 2, none⟩ (.bool true)).alloc (.cells #[.int .i64 pg, .int .i64 uw, .slice none 0 0] 33)).heap.size := Nat.le_trans hsz HU4.out.size
                  have HN : Hid (∀ (j : Nat) (x : Value), (poC (.slice none 0 0, ⟨pg, uw, []⟩))[j]? = some x → ((((w2.setCell ⟨wr.heap.size + 1, 1, none⟩ (.int .i64 uw)).setCell ⟨wr.heap.size + 1, 0, none⟩ (.int .i64 pg)).setCell ⟨g1, ui * 3 + 2, none⟩ (.bool true)).alloc (.cells #[.int .i64 pg, .int .i64 uw, .slice none 0 0] 33)).cell? ((⟨w2.heap.size, 0, none⟩ : Addr).add j) = some x) := (fun j x hj => by
                    have hl : j < 3 := by
                      by_cases h : j < 3
                      · exact h
                      · rw [List.getElem?_eq_none (by simp [poC]; omega)] at hj; cases hj
                    rw [Addr.add_lit, Nat.zero_add, World.cell?_alloc_at _ _ _ _ (by simp [World.setCell])]
                    have : j = 0 ∨ j = 1 ∨ j = 2 := by omega
                    rcases this with rfl | rfl | rfl <;> exact hj : ∀ (j : Nat) (x : Value), (poC (.slice none 0 0, ⟨pg, uw, []⟩))[j]? = some x → ((((w2.setCell ⟨wr.heap.size + 1, 1, none⟩ (.int .i64 uw)).setCell ⟨wr.heap.size + 1, 0, none⟩ (.int .i64 pg)).setCell ⟨g1, ui * 3 + 2, none⟩ (.bool true)).alloc (.cells #[.int .i64 pg, .int .i64 uw, .slice none 0 0] 33)).cell? ((⟨w2.heap.size, 0, none⟩ : Addr).add j) = some x)
                  clear PC hP hU HPL HBA HS3 HSD hblk hblo hA
                  generalize ufs[ui].pg = y0 at d0
                  generalize ufs[ui].ma = y1 at d1
                  generalize ufs[ui].dy = y2 at d2
                  go_wp2_with (at_builtin
                               refine wpList_append_own _ rfl (.tmp 98) (.tmp 100) 27 rfl w1.heap.size 33 i0 _ 3 40 Try.underlying27 hi0 hz0 hz1 hz2 rfl (by decide) _ _ _ rfl HO4.out.1 ⟨w2.heap.size, 0, none⟩ 1 1 (poC (.slice none 0 0, ⟨pg, uw, []⟩)) rfl rfl HN.out (by intro u hu; simp [poC] at hu; rcases hu with rfl | rfl | rfl <;> rfl) (by unfold maxLen; have := HLN.out; omega) (by have := HLN.out; omega) hs4 ?_
                               intro v5 w5 hown hgrow hiff
                               clear hiff
                               have HO5 := hid (HO4.out.push HI4.out HNW.out hgrow hown)
                               have HP5 := hid (HP4.out.grown hgrow (fun e => by have := (HO4.out.1.lt _ e.symm).1; omega) (fun e => by have := (HO4.out.1.lt _ e.symm).1; omega))
                               have HU5 := hid (U2.grown (B := 0) (HU.out.trans HU4.out) hgrow (fun k e => (HO4.out.1.lt k e).1))
                               have hs5 : w1.heap.size ≤ w5.heap.size := Nat.le_trans hs4 hgrow.size
                               obtain ⟨oa5, oc5, hv5⟩ := HO5.out.form
                               subst hv5
                               clear hown hgrow HO4 HI4 HP4 HU4 HN HNW)
                  go_roundw
                  case rel => exact ⟨i + 1, ps ++ [(.slice none 0 0, ⟨pg, uw, []⟩)], _, _, oa5, oc5, by omega, by go_num, (by simp), hid (by have := HLN.out; simp; omega), HS5, HO5, HP5, HU5, hs5⟩
                  case measure => simp [intOf]; omega
                · skip
                  have PC := (hP.setO (c := wr.heap.size + 1) (j := 1) (u := .int .i64 uw) hqn hgn).setO (c := wr.heap.size + 1) (j := 0) (u := .int .i64 pg) hqn hgn
                  obtain ⟨⟨d0, d1, d2⟩, fz0, fz1, fz2⟩ := PC.frs ui hul
                  obtain ⟨⟨p0, p1⟩, r0, r1⟩ := PC.blk
                  have HS5 : Hid (stN (i + 1) us (List.replicate 8 f0, 0) = ((ps ++ [((.slice none 0 0 : Value), (⟨pg, uw, []⟩ : POut))]).map Prod.snd, ufs, uh)) := (by rw [HS3.out]; simp [hk1, hk3] : stN (i + 1) us (List.replicate 8 f0, 0) = ((ps ++ [((.slice none 0 0 : Value), (⟨pg, uw, []⟩ : POut))]).map Prod.snd, ufs, uh))
                  have HNW : Hid (∀ x ∈ ps, ∀ j, x.1.ownBlock = some j → (Value.slice none 0 0).ownBlock ≠ some j) := (fun x hx j hj e => by simp [Value.ownBlock] at e : ∀ x ∈ ps, ∀ j, x.1.ownBlock = some j → (Value.slice none 0 0).ownBlock ≠ some j)
                  have HU4 : Hid (U2 q g1 wr (((w2.setCell ⟨wr.heap.size + 1, 1, none⟩ (.int .i64 uw)).setCell ⟨wr.heap.size + 1, 0, none⟩ (.int .i64 pg)).alloc (.cells #[.int .i64 pg, .int .i64 uw, .slice none 0 0] 33))) := ((((U2.below HBA.out).trans hU).setNew (c := wr.heap.size + 1) (by omega)).setNew (c := wr.heap.size + 1) (by omega)).alloc
                  have HI4 : Hid (IOut w1.heap.size (((w2.setCell ⟨wr.heap.size + 1, 1, none⟩ (.int .i64 uw)).setCell ⟨wr.heap.size + 1, 0, none⟩ (.int .i64 pg)).alloc (.cells #[.int .i64 pg, .int .i64 uw, .slice none 0 0] 33)) (.slice none 0 0) []) := (⟨rfl, .inl ⟨rfl, rfl⟩⟩ : IOut w1.heap.size _ (.slice none 0 0) [])
                  have HP4 := hid (((hP.setO (c := wr.heap.size + 1) (j := 1) (u := .int .i64 uw) hqn hgn).setO (c := wr.heap.size + 1) (j := 0) (u := .int .i64 pg) hqn hgn).below (below_alloc _ (.cells #[.int .i64 pg, .int .i64 uw, .slice none 0 0] 33)))
                  have HO4 : Hid (OutR w1.heap.size (((w2.setCell ⟨wr.heap.size + 1, 1, none⟩ (.int .i64 uw)).setCell ⟨wr.heap.size + 1, 0, none⟩ (.int .i64 pg)).alloc (.cells #[.int .i64 pg, .int .i64 uw, .slice none 0 0] 33)) (.slice oa ps.length oc) ps) := HO.out.u2 HU4.out hq1 hg1
                  have hs4 : w1.heap.size ≤ (((w2.setCell ⟨wr.heap.size + 1, 1, none⟩ (.int .i64 uw)).setCell ⟨wr.heap.size + 1, 0, none⟩ (.int .i64 pg)).alloc (.cells #[.int .i64 pg, .int .i64 uw, .slice none 0 0] 33)).heap.size := Nat.le_trans hsz HU4.out.size
                  have HN : Hid (∀ (j : Nat) (x : Value), (poC (.slice none 0 0, ⟨pg, uw, []⟩))[j]? = some x → (((w2.setCell ⟨wr.heap.size + 1, 1, none⟩ (.int .i64 uw)).setCell ⟨wr.heap.size + 1, 0, none⟩ (.int .i64 pg)).alloc (.cells #[.int .i64 pg, .int .i64 uw, .slice none 0 0] 33)).cell? ((⟨w2.heap.size, 0, none⟩ : Addr).add j) = some x) := (fun j x hj => by
                    have hl : j < 3 := by
                      by_cases h : j < 3
                      · exact h
                      · rw [List.getElem?_eq_none (by simp [poC]; omega)] at hj; cases hj
                    rw [Addr.add_lit, Nat.zero_add, World.cell?_alloc_at _ _ _ _ (by simp [World.setCell])]
                    have : j = 0 ∨ j = 1 ∨ j = 2 := by omega
                    rcases this with rfl | rfl | rfl <;> exact hj : ∀ (j : Nat) (x : Value), (poC (.slice none 0 0, ⟨pg, uw, []⟩))[j]? = some x → (((w2.setCell ⟨wr.heap.size + 1, 1, none⟩ (.int .i64 uw)).setCell ⟨wr.heap.size + 1, 0, none⟩ (.int .i64 pg)).alloc (.cells #[.int .i64 pg, .int .i64 uw, .slice none 0 0] 33)).cell? ((⟨w2.heap.size, 0, none⟩ : Addr).add j) = some x)
                  clear PC hP hU HPL HBA HS3 HSD hblk hblo hA
                  generalize ufs[ui].pg = y0 at d0
                  generalize ufs[ui].ma = y1 at d1
                  generalize ufs[ui].dy = y2 at d2
                  go_wp2_with (at_builtin
                               refine wpList_append_own _ rfl (.tmp 98) (.tmp 100) 27 rfl w1.heap.size 33 i0 _ 3 40 Try.underlying27 hi0 hz0 hz1 hz2 rfl (by decide) _ _ _ rfl HO4.out.1 ⟨w2.heap.size, 0, none⟩ 1 1 (poC (.slice none 0 0, ⟨pg, uw, []⟩)) rfl rfl HN.out (by intro u hu; simp [poC] at hu; rcases hu with rfl | rfl | rfl <;> rfl) (by unfold maxLen; have := HLN.out; omega) (by have := HLN.out; omega) hs4 ?_
                               intro v5 w5 hown hgrow hiff
                               clear hiff
                               have HO5 := hid (HO4.out.push HI4.out HNW.out hgrow hown)
                               have HP5 := hid (HP4.out.grown hgrow (fun e => by have := (HO4.out.1.lt _ e.symm).1; omega) (fun e => by have := (HO4.out.1.lt _ e.symm).1; omega))
                               have HU5 := hid (U2.grown (B := 0) (HU.out.trans HU4.out) hgrow (fun k e => (HO4.out.1.lt k e).1))
                               have hs5 : w1.heap.size ≤ w5.heap.size := Nat.le_trans hs4 hgrow.size
                               obtain ⟨oa5, oc5, hv5⟩ := HO5.out.form
                               subst hv5
                               clear hown hgrow HO4 HI4 HP4 HU4 HN HNW)
                  go_roundw
                  case rel => exact ⟨i + 1, ps ++ [(.slice none 0 0, ⟨pg, uw, []⟩)], _, _, oa5, oc5, by omega, by go_num, (by simp), hid (by have := HLN.out; simp; omega), HS5, HO5, HP5, HU5, hs5⟩
                  case measure => simp [intOf]; omega
              · have hk1 : 1 < kd := by omega
                have PC := hP.setO (c := wr.heap.size + 1) (j := 1) (u := .int .i64 uw) hqn hgn
                obtain ⟨⟨d0, d1, d2⟩, fz0, fz1, fz2⟩ := PC.frs ui hul
                obtain ⟨⟨p0, p1⟩, r0, r1⟩ := PC.blk
                have HS5 : Hid (stN (i + 1) us (List.replicate 8 f0, 0) = ((ps ++ [((.slice none 0 0 : Value), (⟨(-1), uw, []⟩ : POut))]).map Prod.snd, (ufs.set ui (ufs[ui].d true)), uh)) := (by rw [HS3.out]; simp [hk1, HSD.out, hk3] : stN (i + 1) us (List.replicate 8 f0, 0) = ((ps ++ [((.slice none 0 0 : Value), (⟨(-1), uw, []⟩ : POut))]).map Prod.snd, (ufs.set ui (ufs[ui].d true)), uh))
                have HNW : Hid (∀ x ∈ ps, ∀ j, x.1.ownBlock = some j → (Value.slice none 0 0).ownBlock ≠ some j) := (fun x hx j hj e => by simp [Value.ownBlock] at e : ∀ x ∈ ps, ∀ j, x.1.ownBlock = some j → (Value.slice none 0 0).ownBlock ≠ some j)
                have HU4 : Hid (U2 q g1 wr (((w2.setCell ⟨wr.heap.size + 1, 1, none⟩ (.int .i64 uw)).setCell ⟨g1, ui * 3 + 2, none⟩ (.bool true)).alloc (.cells #[.int .i64 (-1), .int .i64 uw, .slice none 0 0] 33))) := ((((U2.below HBA.out).trans hU).setNew (c := wr.heap.size + 1) (by omega)).setG (j := ui * 3 + 2)).alloc
                have HI4 : Hid (IOut w1.heap.size (((w2.setCell ⟨wr.heap.size + 1, 1, none⟩ (.int .i64 uw)).setCell ⟨g1, ui * 3 + 2, none⟩ (.bool true)).alloc (.cells #[.int .i64 (-1), .int .i64 uw, .slice none 0 0] 33)) (.slice none 0 0) []) := (⟨rfl, .inl ⟨rfl, rfl⟩⟩ : IOut w1.heap.size _ (.slice none 0 0) [])
                have HP4 := hid (((hP.setO (c := wr.heap.size + 1) (j := 1) (u := .int .i64 uw) hqn hgn).setD ui hul true).below (below_alloc _ (.cells #[.int .i64 (-1), .int .i64 uw, .slice none 0 0] 33)))
                have HO4 : Hid (OutR w1.heap.size (((w2.setCell ⟨wr.heap.size + 1, 1, none⟩ (.int .i64 uw)).setCell ⟨g1, ui * 3 + 2, none⟩ (.bool true)).alloc (.cells #[.int .i64 (-1), .int .i64 uw, .slice none 0 0] 33)) (.slice oa ps.length oc) ps) := HO.out.u2 HU4.out hq1 hg1
                have hs4 : w1.heap.size ≤ (((w2.setCell ⟨wr.heap.size + 1, 1, none⟩ (.int .i64 uw)).setCell ⟨g1, ui * 3 + 2, none⟩ (.bool true)).alloc (.cells #[.int .i64 (-1), .int .i64 uw, .slice none 0 0] 33)).heap.size := Nat.le_trans hsz HU4.out.size
                have HN : Hid (∀ (j : Nat) (x : Value), (poC (.slice none 0 0, ⟨(-1), uw, []⟩))[j]? = some x → (((w2.setCell ⟨wr.heap.size + 1, 1, none⟩ (.int .i64 uw)).setCell ⟨g1, ui * 3 + 2, none⟩ (.bool true)).alloc (.cells #[.int .i64 (-1), .int .i64 uw, .slice none 0 0] 33)).cell? ((⟨w2.heap.size, 0, none⟩ : Addr).add j) = some x) := (fun j x hj => by
                  have hl : j < 3 := by
                    by_cases h : j < 3
                    · exact h
                    · rw [List.getElem?_eq_none (by simp [poC]; omega)] at hj; cases hj
                  rw [Addr.add_lit, Nat.zero_add, World.cell?_alloc_at _ _ _ _ (by simp [World.setCell])]
                  have : j = 0 ∨ j = 1 ∨ j = 2 := by omega
                  rcases this with rfl | rfl | rfl <;> exact hj : ∀ (j : Nat) (x : Value), (poC (.slice none 0 0, ⟨(-1), uw, []⟩))[j]? = some x → (((w2.setCell ⟨wr.heap.size + 1, 1, none⟩ (.int .i64 uw)).setCell ⟨g1, ui * 3 + 2, none⟩ (.bool true)).alloc (.cells #[.int .i64 (-1), .int .i64 uw, .slice none 0 0] 33)).cell? ((⟨w2.heap.size, 0, none⟩ : Addr).add j) = some x)
                clear PC hP hU HPL HBA HS3 HSD hblk hblo hA
                generalize ufs[ui].pg = y0 at d0
                generalize ufs[ui].ma = y1 at d1
                generalize ufs[ui].dy = y2 at d2
                go_wp2_with (at_builtin
                             refine wpList_append_own _ rfl (.tmp 98) (.tmp 100) 27 rfl w1.heap.size 33 i0 _ 3 40 Try.underlying27 hi0 hz0 hz1 hz2 rfl (by decide) _ _ _ rfl HO4.out.1 ⟨w2.heap.size, 0, none⟩ 1 1 (poC (.slice none 0 0, ⟨(-1), uw, []⟩)) rfl rfl HN.out (by intro u hu; simp [poC] at hu; rcases hu with rfl | rfl | rfl <;> rfl) (by unfold maxLen; have := HLN.out; omega) (by have := HLN.out; omega) hs4 ?_
                             intro v5 w5 hown hgrow hiff
                             clear hiff
                             have HO5 := hid (HO4.out.push HI4.out HNW.out hgrow hown)
                             have HP5 := hid (HP4.out.grown hgrow (fun e => by have := (HO4.out.1.lt _ e.symm).1; omega) (fun e => by have := (HO4.out.1.lt _ e.symm).1; omega))
                             have HU5 := hid (U2.grown (B := 0) (HU.out.trans HU4.out) hgrow (fun k e => (HO4.out.1.lt k e).1))
                             have hs5 : w1.heap.size ≤ w5.heap.size := Nat.le_trans hs4 hgrow.size
                             obtain ⟨oa5, oc5, hv5⟩ := HO5.out.form
                             subst hv5
                             clear hown hgrow HO4 HI4 HP4 HU4 HN HNW)
                go_roundw
                case rel => exact ⟨i + 1, ps ++ [(.slice none 0 0, ⟨(-1), uw, []⟩)], _, _, oa5, oc5, by omega, by go_num, (by simp), hid (by have := HLN.out; simp; omega), HS5, HO5, HP5, HU5, hs5⟩
                case measure => simp [intOf]; omega
        · have hie : i = us.length := by omega
          subst hie
          go_wp2
          refine bodyPost_ret (v := .tuple #[.slice oa ps.length oc, .int .i64 0]) (by simp [results, Try.results6, go_sem]) rfl ⟨_, ps, ?_, HO.out.base (by omega), ?_, hbx⟩
          · rw [HF.out]
          · rw [HF.out]
            simp only
            rw [← stN_run, HS.out]
end Go.Proofs.YtbndliedcanmgaaR
