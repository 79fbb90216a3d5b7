import Derived.Test.YtbndliedcanmgaaRPU
namespace Go.Proofs.YtbndliedcanmgaaR
open Go.ChangeShapes Go.WideShapes Go.ChangeAt Go.RowKit
set_option linter.unusedVariables false
set_option linter.unusedSimpArgs false
set_option maxRecDepth 100000
def wroteF (x : Fr) : Int := if 0 ≤ x.pg ∧ x.dy = true then x.pg else -1
set_option maxHeartbeats 8000000 in
theorem use_miss (q g cap : Nat) (fs : List Fr) (h : Nat) (page : Int) (w : World) (P : Pool w q g cap fs h) (hn : ∀ j (hj : j < fs.length), fs[j].pg ≠ page) (hc : cnt fs ≤ 8) (fs1 : List Fr) (h1 : Nat) (hck : clk 9 fs h = (fs1, h1)) :
    Calls Try.prog 19 #[.pointer (some ⟨q, 0, none⟩), .int .i64 page] w fun e w' => ∃ hh : h1 < fs1.length, UseP q g cap h1 false (wroteF fs1[h1]) (fs1.set h1 ⟨page, true, false⟩) ((h1 + 1) % 8) w e w' := by
  have c0 := P.blk.1.1
  have hl := P.len
  have HP := hid P
  have HNI := hid hn
  have HCK := hid hck
  clear hn hck
  go_enter Try.func19, Try.ntmps19
  go_wp2
  go_loopw [16] (fun iv wr => ∃ j : Nat, iv = .int .i64 (j : Int) ∧ j ≤ 8 ∧ Below w.heap.size w wr) (fun iv _ => 8 - (intOf iv).toNat)
  case atStart => exact ⟨0, rfl, Nat.zero_le _, Below.refl _ _⟩
  case round =>
    obtain ⟨j, rfl, hji, hb⟩ := hrel
    have hbs := hb.size
    have Pr := HP.out.below hb
    by_cases hlt : j < 8
    · have hj : j < fs.length := by omega
      have hji8 : (j : Int) < 8 := by omega
      obtain ⟨⟨d0, d1, d2⟩, f0, f1, f2⟩ := Pr.frs j hj
      have e0 := Pr.blk.1.1
      have hgl := Pr.glt
      have hne : (fs[j].pg == page) = false := by have := HNI.out j hj; simpa using this
      generalize fs[j].pg = p0 at *
      generalize fs[j].ma = p1 at *
      generalize fs[j].dy = p2 at *
      clear Pr c0
      go_wp2
      go_roundw
      case rel => exact ⟨j + 1, by go_num, by omega, by (go_light; repeat (first | with_reducible assumption | with_reducible exact Below.refl _ _ | (with_reducible refine Below.setCell ?_ ?_ _; rotate_left; (focus first | (simp; done) | (simp; omega) | omega)) | (with_reducible refine Below.alloc ?_ ?_ _; rotate_left; (focus first | (simp; done) | (simp; omega) | omega)) | with_reducible refine Below.drew ?_))⟩
      case measure => simp [intOf]; omega
    · have hji8 : ¬ (j : Int) < 8 := by omega
      have HU0 : Hid (U2 q g w wr) := U2.below hb
      have PR := hid Pr
      clear Pr HP c0 HNI
      go_wp2
      go_loopw [] (fun wx => ∃ (fs' : List Fr) (h' f : Nat), cnt fs' < f ∧ Hid (clk 9 fs h = clk f fs' h') ∧ Hid (Pool wx q g cap fs' h') ∧ Hid (U2 q g w wx)) (fun wx => mcnt wx g)
      case atStart => exact ⟨fs, h, 9, by omega, rfl, PR, HU0⟩
      case round =>
        obtain ⟨fs', h', f, hcf, HC, PX, HUX⟩ := hrel
        have hlx := PX.out.len
        have hhd := PX.out.hand
        have hhi : (h' : Int) < 8 := by omega
        have hhl : h' < fs'.length := by omega
        obtain ⟨⟨d0, d1, d2⟩, f0, f1, f2⟩ := PX.out.frs h' hhl
        obtain ⟨⟨e0, e1⟩, g0, g1⟩ := PX.out.blk
        have hqg := PX.out.ne
        have HM := hid (mcnt_of PX.out.frs PX.out.len)
        by_cases hpg : 0 ≤ fs'[h'].pg
        · by_cases hma : fs'[h'].ma = true
          · obtain ⟨f, rfl⟩ : ∃ z, f = z + 1 := ⟨f - 1, by omega⟩
            have HC2 := hid (HC.out.trans (clk_on hhl hpg hma))
            have hcs := cnt_set fs' h' hhl hma
            have hk8 : (h' + 1) % 8 < 8 := Nat.mod_lt _ (by decide)
            have hkc : (((h' + 1) % 8 : Nat) : Int) = ((h' : Int) + 1) % 8 := by omega
            have HPN : Hid (∀ nq : Nat, Pool ((((wr.drewN nq).setCell ⟨g, h' * 3 + 1, none⟩ (.bool false)).setCell ⟨q, 1, none⟩ (.int .i64 (((h' : Int) + 1) % 8))).drew) q g cap (fs'.set h' (fs'[h'].m false)) ((h' + 1) % 8)) := (fun nq => by
              have h := (((PX.out.drewN nq).setM h' hhl false).setH ((h' + 1) % 8) hk8).drew
              rw [hkc] at h
              exact h : ∀ nq : Nat, Pool ((((wr.drewN nq).setCell ⟨g, h' * 3 + 1, none⟩ (.bool false)).setCell ⟨q, 1, none⟩ (.int .i64 (((h' : Int) + 1) % 8))).drew) q g cap (fs'.set h' (fs'[h'].m false)) ((h' + 1) % 8))
            have HMN := hid (fun nq => mcnt_of (HPN.out nq).frs (HPN.out nq).len)
            clear hkc
            rw [hma] at d1
            generalize fs'[h'].pg = p0 at d0 hpg
            have hwm : IntKind.i64.wrap ((h' : Int) + 1) = (h' : Int) + 1 := by simp only [IntKind.wrap_i64]; omega
            have htm : ((h' : Int) + 1).tmod 8 = (((h' + 1) % 8 : Nat) : Int) := by rw [Int.tmod_eq_emod_of_nonneg (by omega)]; omega
            clear HC
            go_wp2
            go_quiet (fail)
            go_wp2
            go_region
            go_wp2
            go_region
            go_wp2
            go_roundw
            case rel => exact ⟨fs'.set h' (fs'[h'].m false), (h' + 1) % 8, f, by omega, HC2, HPN.out _, ((HUX.out.drewN _).setG.setQ).drew⟩
            case measure =>
              first | rw [HMN.out, HM.out] | (simp only [HMN.out, HM.out])
              omega
          · have hmf : fs'[h'].ma = false := by simpa using hma
            have HE := hid (HC.out.trans (clk_end hhl (fun e => hma e.2)))
            rw [hmf] at d1
            clear HC HM hma hmf
            generalize fs'[h'].pg = p0 at d0 hpg
            generalize fs'[h'].dy = p2 at d2
            go_wp2
            go_quiet (fail)
            have PW := PX.out.drewN nq
            have UW := HUX.out.drewN nq
            clear d0 d1 d2 f0 f1 f2 e0 e1 g0 g1 PX HUX
            generalize wr.drewN nq = W at *
            obtain ⟨⟨d0, d1, d2⟩, f0, f1, f2⟩ := PW.frs h' hhl
            obtain ⟨⟨e0, e1⟩, g0, g1⟩ := PW.blk
            have hqW := PW.qlt
            have hgW := PW.glt
            have hk8 : (h' + 1) % 8 < 8 := Nat.mod_lt _ (by decide)
            have hkc : (((h' + 1) % 8 : Nat) : Int) = ((h' : Int) + 1) % 8 := by omega
            have hwm : IntKind.i64.wrap ((h' : Int) + 1) = (h' : Int) + 1 := by simp only [IntKind.wrap_i64]; omega
            have htm : ((h' : Int) + 1).tmod 8 = ((h' : Int) + 1) % 8 := Int.tmod_eq_emod_of_nonneg (by omega)
            have HPF : Hid (Pool ((((W.setCell ⟨g, h' * 3, none⟩ (.int .i64 page)).setCell ⟨g, h' * 3 + 1, none⟩ (.bool true)).setCell ⟨g, h' * 3 + 2, none⟩ (.bool false)).setCell ⟨q, 1, none⟩ (.int .i64 (((h' : Int) + 1) % 8))) q g cap (fs'.set h' ⟨page, true, false⟩) ((h' + 1) % 8)) := (by
              have h := (PW.setF h' hhl ⟨page, true, false⟩).setH ((h' + 1) % 8) hk8
              rw [hkc] at h
              exact h : Pool ((((W.setCell ⟨g, h' * 3, none⟩ (.int .i64 page)).setCell ⟨g, h' * 3 + 1, none⟩ (.bool true)).setCell ⟨g, h' * 3 + 2, none⟩ (.bool false)).setCell ⟨q, 1, none⟩ (.int .i64 (((h' : Int) + 1) % 8))) q g cap (fs'.set h' ⟨page, true, false⟩) ((h' + 1) % 8))
            have HUF : Hid (U2 q g w ((((W.setCell ⟨g, h' * 3, none⟩ (.int .i64 page)).setCell ⟨g, h' * 3 + 1, none⟩ (.bool true)).setCell ⟨g, h' * 3 + 2, none⟩ (.bool false)).setCell ⟨q, 1, none⟩ (.int .i64 (((h' : Int) + 1) % 8)))) := UW.setG.setG.setG.setQ
            clear hkc PW UW
            have heq := HE.out.symm.trans HCK.out
            simp only [Prod.mk.injEq] at heq
            obtain ⟨rfl, rfl⟩ := heq
            by_cases hp0 : 0 ≤ fs'[h'].pg
            · cases hdy : fs'[h'].dy
              · have HW : Hid (wroteF fs'[h'] = -1) := (by unfold wroteF; rw [if_neg (by simp [hdy])] : wroteF fs'[h'] = -1)
                rw [hdy] at d2
                clear hdy
                generalize fs'[h'].pg = p0 at d0 hp0
                go_wp2
                go_region
                go_wp2
                refine bodyPost_ret (v := .tuple #[.int .i64 (h' : Int), .bool false, .int .i64 (-1)]) (by simp [results, Try.results19, go_sem]) rfl (by first | exact ⟨hhl, by rw [HW.out], (HPF.out.below (below_alloc _ _)).drew, HUF.out.alloc.drew⟩ | exact ⟨by rw [HW.out], (HPF.out.below (below_alloc _ _)).drew, HUF.out.alloc.drew⟩)
              · have HW : Hid (wroteF fs'[h'] = fs'[h'].pg) := (by unfold wroteF; rw [if_pos ⟨hp0, hdy⟩] : wroteF fs'[h'] = fs'[h'].pg)
                rw [hdy] at d2
                clear hdy
                obtain ⟨p0, hpe⟩ : ∃ z, fs'[h'].pg = z := ⟨_, rfl⟩
                rw [hpe] at d0 hp0 HW
                clear hpe
                go_wp2
                go_region
                go_wp2
                go_quiet (fail)
                go_wp2
                refine bodyPost_ret (v := .tuple #[.int .i64 (h' : Int), .bool false, .int .i64 p0]) (by simp [results, Try.results19, go_sem]) rfl (by first | exact ⟨hhl, by rw [HW.out], ((HPF.out.below (below_alloc _ _)).drew).drewN _, (HUF.out.alloc.drew).drewN _⟩ | exact ⟨by rw [HW.out], ((HPF.out.below (below_alloc _ _)).drew).drewN _, (HUF.out.alloc.drew).drewN _⟩)
            · have HW : Hid (wroteF fs'[h'] = -1) := (by unfold wroteF; rw [if_neg (fun e => hp0 e.1)] : wroteF fs'[h'] = -1)
              generalize fs'[h'].pg = p0 at d0 hp0
              generalize fs'[h'].dy = p2 at d2
              go_wp2
              go_region
              go_wp2
              refine bodyPost_ret (v := .tuple #[.int .i64 (h' : Int), .bool false, .int .i64 (-1)]) (by simp [results, Try.results19, go_sem]) rfl (by first | exact ⟨hhl, by rw [HW.out], (HPF.out.below (below_alloc _ _)).drew, HUF.out.alloc.drew⟩ | exact ⟨by rw [HW.out], (HPF.out.below (below_alloc _ _)).drew, HUF.out.alloc.drew⟩)
        · have HE := hid (HC.out.trans (clk_end hhl (fun e => hpg e.1)))
          clear HC HM
          generalize fs'[h'].pg = p0 at d0 hpg
          generalize fs'[h'].dy = p2 at d2
          generalize fs'[h'].ma = p1 at d1
          have hpd : decide (0 ≤ p0) = false := decide_eq_false hpg
          go_wp2
          go_quiet (fail)
          have PW := PX.out.drewN nq
          have UW := HUX.out.drewN nq
          clear d0 d1 d2 f0 f1 f2 e0 e1 g0 g1 PX HUX
          generalize wr.drewN nq = W at *
          obtain ⟨⟨d0, d1, d2⟩, f0, f1, f2⟩ := PW.frs h' hhl
          obtain ⟨⟨e0, e1⟩, g0, g1⟩ := PW.blk
          have hqW := PW.qlt
          have hgW := PW.glt
          have hk8 : (h' + 1) % 8 < 8 := Nat.mod_lt _ (by decide)
          have hkc : (((h' + 1) % 8 : Nat) : Int) = ((h' : Int) + 1) % 8 := by omega
          have hwm : IntKind.i64.wrap ((h' : Int) + 1) = (h' : Int) + 1 := by simp only [IntKind.wrap_i64]; omega
          have htm : ((h' : Int) + 1).tmod 8 = ((h' : Int) + 1) % 8 := Int.tmod_eq_emod_of_nonneg (by omega)
          have HPF : Hid (Pool ((((W.setCell ⟨g, h' * 3, none⟩ (.int .i64 page)).setCell ⟨g, h' * 3 + 1, none⟩ (.bool true)).setCell ⟨g, h' * 3 + 2, none⟩ (.bool false)).setCell ⟨q, 1, none⟩ (.int .i64 (((h' : Int) + 1) % 8))) q g cap (fs'.set h' ⟨page, true, false⟩) ((h' + 1) % 8)) := (by
            have h := (PW.setF h' hhl ⟨page, true, false⟩).setH ((h' + 1) % 8) hk8
            rw [hkc] at h
            exact h : Pool ((((W.setCell ⟨g, h' * 3, none⟩ (.int .i64 page)).setCell ⟨g, h' * 3 + 1, none⟩ (.bool true)).setCell ⟨g, h' * 3 + 2, none⟩ (.bool false)).setCell ⟨q, 1, none⟩ (.int .i64 (((h' : Int) + 1) % 8))) q g cap (fs'.set h' ⟨page, true, false⟩) ((h' + 1) % 8))
          have HUF : Hid (U2 q g w ((((W.setCell ⟨g, h' * 3, none⟩ (.int .i64 page)).setCell ⟨g, h' * 3 + 1, none⟩ (.bool true)).setCell ⟨g, h' * 3 + 2, none⟩ (.bool false)).setCell ⟨q, 1, none⟩ (.int .i64 (((h' : Int) + 1) % 8)))) := UW.setG.setG.setG.setQ
          clear hkc PW UW
          have heq := HE.out.symm.trans HCK.out
          simp only [Prod.mk.injEq] at heq
          obtain ⟨rfl, rfl⟩ := heq
          by_cases hp0 : 0 ≤ fs'[h'].pg
          · cases hdy : fs'[h'].dy
            · have HW : Hid (wroteF fs'[h'] = -1) := (by unfold wroteF; rw [if_neg (by simp [hdy])] : wroteF fs'[h'] = -1)
              rw [hdy] at d2
              clear hdy
              generalize fs'[h'].pg = p0 at d0 hp0
              go_wp2
              go_region
              go_wp2
              refine bodyPost_ret (v := .tuple #[.int .i64 (h' : Int), .bool false, .int .i64 (-1)]) (by simp [results, Try.results19, go_sem]) rfl (by first | exact ⟨hhl, by rw [HW.out], (HPF.out.below (below_alloc _ _)).drew, HUF.out.alloc.drew⟩ | exact ⟨by rw [HW.out], (HPF.out.below (below_alloc _ _)).drew, HUF.out.alloc.drew⟩)
            · have HW : Hid (wroteF fs'[h'] = fs'[h'].pg) := (by unfold wroteF; rw [if_pos ⟨hp0, hdy⟩] : wroteF fs'[h'] = fs'[h'].pg)
              rw [hdy] at d2
              clear hdy
              obtain ⟨p0, hpe⟩ : ∃ z, fs'[h'].pg = z := ⟨_, rfl⟩
              rw [hpe] at d0 hp0 HW
              clear hpe
              go_wp2
              go_region
              go_wp2
              go_quiet (fail)
              go_wp2
              refine bodyPost_ret (v := .tuple #[.int .i64 (h' : Int), .bool false, .int .i64 p0]) (by simp [results, Try.results19, go_sem]) rfl (by first | exact ⟨hhl, by rw [HW.out], ((HPF.out.below (below_alloc _ _)).drew).drewN _, (HUF.out.alloc.drew).drewN _⟩ | exact ⟨by rw [HW.out], ((HPF.out.below (below_alloc _ _)).drew).drewN _, (HUF.out.alloc.drew).drewN _⟩)
          · have HW : Hid (wroteF fs'[h'] = -1) := (by unfold wroteF; rw [if_neg (fun e => hp0 e.1)] : wroteF fs'[h'] = -1)
            generalize fs'[h'].pg = p0 at d0 hp0
            generalize fs'[h'].dy = p2 at d2
            go_wp2
            go_region
            go_wp2
            refine bodyPost_ret (v := .tuple #[.int .i64 (h' : Int), .bool false, .int .i64 (-1)]) (by simp [results, Try.results19, go_sem]) rfl (by first | exact ⟨hhl, by rw [HW.out], (HPF.out.below (below_alloc _ _)).drew, HUF.out.alloc.drew⟩ | exact ⟨by rw [HW.out], (HPF.out.below (below_alloc _ _)).drew, HUF.out.alloc.drew⟩)
end Go.Proofs.YtbndliedcanmgaaR
