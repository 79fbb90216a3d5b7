import Derived.Test.YtbndliedcanmgaaRQB
namespace Go.Proofs.YtbndliedcanmgaaR
open Go.ChangeShapes Go.WideShapes Go.ChangeAt Go.RowKit
set_option linter.unusedVariables false
set_option linter.unusedSimpArgs false
set_option maxRecDepth 100000
set_option maxHeartbeats 8000000 in
theorem nextFrame_any (q : Nat) (l : Int) (fs : List Fr) (h : Nat) (w : World) (P : IPool w q l fs h) (hg : Good fs) (hc : cnt fs ≤ 8) (fs1 : List Fr) (h1 : Nat) (hck : clk 9 fs h = (fs1, h1)) :
    Calls Try.prog 38 #[.pointer (some ⟨q, 0, none⟩)] w fun e w' => e = .returned (.pointer (some ⟨q, 2 + h1 * 4, none⟩)) ∧ h1 < 8 ∧ Good fs1 ∧ IPool w' q l fs1 ((h1 + 1) % 8) ∧ U2 q q w w' := by
  have hl := P.len
  have HP := hid P
  have HCK := hid hck
  have HG := hid hg
  clear P hck hg
  go_enter Try.func38, Try.ntmps38
  go_wp2
  go_loopw [] (fun wx => ∃ (fs' : List Fr) (h' f : Nat), cnt fs' < f ∧ Hid (clk 9 fs h = clk f fs' h') ∧ Hid (IPool wx q l fs' h') ∧ Hid (U2 q q w wx) ∧ Hid (Good fs')) (fun wx => mcntI wx q)
  case atStart => exact ⟨fs, h, 9, by omega, rfl, HP, U2.refl _ _ _, HG⟩
  case round =>
    obtain ⟨fs', h', f, hcf, HC, PX, HUX, HG'⟩ := hrel
    have hlx := PX.out.len
    have hhd := PX.out.hand
    have hhi : (h' : Int) < 8 := by omega
    have hhl : h' < fs'.length := by omega
    obtain ⟨⟨d0, d1, d2, d3⟩, f0, f1, f2, f3⟩ := PX.out.frs h' hhl
    obtain ⟨⟨e0, e1⟩, g0, g1⟩ := PX.out.blk
    have hqr := PX.out.qlt
    have HM := hid (mcntI_of PX.out.frs PX.out.len)
    have hwm : IntKind.i64.wrap ((h' : Int) + 1) = (h' : Int) + 1 := by simp only [IntKind.wrap_i64]; omega
    have htm : ((h' : Int) + 1).tmod 8 = (((h' + 1) % 8 : Nat) : Int) := by rw [Int.tmod_eq_emod_of_nonneg (by omega)]; omega
    have hk8 : (h' + 1) % 8 < 8 := Nat.mod_lt _ (by decide)
    have hkc : (((h' + 1) % 8 : Nat) : Int) = ((h' : Int) + 1) % 8 := by omega
    by_cases hma : fs'[h'].ma = true
    · have hpg : 0 ≤ fs'[h'].pg := by
        by_cases hn : fs'[h'].pg < 0
        · have := ((HG'.out _ (List.getElem_mem hhl)).2 hn).1
          rw [hma] at this
          cases this
        · omega
      obtain ⟨f, rfl⟩ : ∃ z, f = z + 1 := ⟨f - 1, by omega⟩
      have HC2 := hid (HC.out.trans (clk_on hhl hpg hma))
      have hcs := cnt_set fs' h' hhl hma
      have HG2 : Hid (Good (fs'.set h' (fs'[h'].m false))) := (fun x hx => by
        rcases List.mem_or_eq_of_mem_set hx with hm | rfl
        · exact HG'.out x hm
        · have := HG'.out _ (List.getElem_mem hhl)
          exact ⟨this.1, fun hn => ⟨rfl, (this.2 hn).2⟩⟩ : Good (fs'.set h' (fs'[h'].m false)))
      have HPN : Hid (∀ nq : Nat, IPool (((wr.drewN nq).setCell ⟨q, 34, none⟩ (.int .i64 (((h' : Int) + 1) % 8))).setCell ⟨q, 2 + h' * 4 + 2, none⟩ (.bool false)) q l (fs'.set h' (fs'[h'].m false)) ((h' + 1) % 8)) := (fun nq => by have h := ((PX.out.drewN nq).setH ((h' + 1) % 8) hk8).setM h' hhl false; rw [hkc] at h; exact h : ∀ nq : Nat, IPool (((wr.drewN nq).setCell ⟨q, 34, none⟩ (.int .i64 (((h' : Int) + 1) % 8))).setCell ⟨q, 2 + h' * 4 + 2, none⟩ (.bool false)) q l (fs'.set h' (fs'[h'].m false)) ((h' + 1) % 8))
      have HMN := hid (fun nq => mcntI_of (HPN.out nq).frs (HPN.out nq).len)
      have HUN : Hid (∀ nq : Nat, U2 q q w (((wr.drewN nq).setCell ⟨q, 34, none⟩ (.int .i64 (((h' : Int) + 1) % 8))).setCell ⟨q, 2 + h' * 4 + 2, none⟩ (.bool false))) := (fun nq => (HUX.out.drewN nq).setQ.setQ : ∀ nq : Nat, U2 q q w (((wr.drewN nq).setCell ⟨q, 34, none⟩ (.int .i64 (((h' : Int) + 1) % 8))).setCell ⟨q, 2 + h' * 4 + 2, none⟩ (.bool false)))
      rw [hma] at d2
      clear HC hkc
      generalize pgC fs'[h'] = p0 at d0
      generalize tkC fs'[h'] = p1 at d1
      generalize fs'[h'].dy = p3 at d3
      go_wp2
      go_quiet (fail)
      go_wp2
      go_roundw
      case rel => exact ⟨fs'.set h' (fs'[h'].m false), (h' + 1) % 8, f, by omega, HC2, HPN.out _, HUN.out _, HG2⟩
      case measure =>
        first | rw [HMN.out, HM.out] | (simp only [HMN.out, HM.out])
        omega
    · have hmf : fs'[h'].ma = false := by simpa using hma
      have HE := hid (HC.out.trans (clk_end hhl (fun e => hma e.2)))
      have heq := HE.out.symm.trans HCK.out
      simp only [Prod.mk.injEq] at heq
      obtain ⟨rfl, rfl⟩ := heq
      have HPN : Hid (∀ nq : Nat, IPool ((wr.drewN nq).setCell ⟨q, 34, none⟩ (.int .i64 (((h' : Int) + 1) % 8))) q l fs' ((h' + 1) % 8)) := (fun nq => by have h := (PX.out.drewN nq).setH ((h' + 1) % 8) hk8; rw [hkc] at h; exact h : ∀ nq : Nat, IPool ((wr.drewN nq).setCell ⟨q, 34, none⟩ (.int .i64 (((h' : Int) + 1) % 8))) q l fs' ((h' + 1) % 8))
      have HUN : Hid (∀ nq : Nat, U2 q q w ((wr.drewN nq).setCell ⟨q, 34, none⟩ (.int .i64 (((h' : Int) + 1) % 8)))) := (fun nq => (HUX.out.drewN nq).setQ : ∀ nq : Nat, U2 q q w ((wr.drewN nq).setCell ⟨q, 34, none⟩ (.int .i64 (((h' : Int) + 1) % 8))))
      rw [hmf] at d2
      clear HC HM hma hmf hkc
      generalize pgC fs'[h'] = p0 at d0
      generalize tkC fs'[h'] = p1 at d1
      generalize fs'[h'].dy = p3 at d3
      go_wp2
      go_quiet (fail)
      go_wp2
      go_ret
      exact ⟨rfl, by omega, HG'.out, HPN.out _, HUN.out _⟩
end Go.Proofs.YtbndliedcanmgaaR
