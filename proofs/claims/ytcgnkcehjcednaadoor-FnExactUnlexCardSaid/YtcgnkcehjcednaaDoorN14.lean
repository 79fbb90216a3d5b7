import Derived.Test.YtcgnkcehjcednaaDoorN10
import Derived.Test.YtcgnkcehjcednaaDoorN11
import Derived.Test.YtcgnkcehjcednaaDoorN13
namespace Go.Proofs.YtcgnkcehjcednaaDoor
open Go.ChangeShapes Go.WideShapes Go.ChangeAt Go.RowKit Go.Shelf
set_option linter.unusedVariables false
set_option linter.unusedSimpArgs false
set_option maxRecDepth 100000
set_option maxHeartbeats 1600000 in
theorem eqTokenS_big (v u : Value) (ts : List (Int × ByteArray × Int)) (w : World) (hn : ts.length ≤ 1048576) (hv : RT w v ts) (hu : RT w u ts) :
    Calls Tryd.prog 22 #[v, u] w fun e w' => e = .returned (.bool true) ∧ Below w.heap.size w w' := by
  obtain ⟨a, ca, rfl, hva⟩ := hv
  obtain ⟨b, cb, rfl, hub⟩ := hu
  go_enter Tryd.func22, Tryd.ntmps22
  go_wp2
  go_loopw [5] (fun i wr => ∃ k : Nat, k ≤ ts.length ∧ i = .int .i64 k ∧ Below w.heap.size w wr) (fun i _ => ts.length - (intOf i).toNat)
  case atStart => exact ⟨0, Nat.zero_le _, rfl, Below.refl _ _⟩
  case round =>
    obtain ⟨k, hk, rfl, hbel⟩ := hrel
    have hbs := hbel.size
    by_cases hlt : k < ts.length
    · have hlti : (k : Int) < ts.length := by omega
      obtain ⟨g, rfl, hg, hgc⟩ := hva (by omega)
      obtain ⟨g2, rfl, hg2, hgc2⟩ := hub (by omega)
      obtain ⟨a0, a1, a2⟩ := hgc k hlt
      obtain ⟨b0, b1, b2⟩ := hgc2 k hlt
      have c0 := (hbel.cell (p := ⟨g, k * 3, none⟩) hg).trans a0
      have c1 := (hbel.cell (p := ⟨g, k * 3 + 1, none⟩) hg).trans a1
      have c2 := (hbel.cell (p := ⟨g, k * 3 + 2, none⟩) hg).trans a2
      have d0 := (hbel.cell (p := ⟨g2, k * 3, none⟩) hg2).trans b0
      have d1 := (hbel.cell (p := ⟨g2, k * 3 + 1, none⟩) hg2).trans b1
      have d2 := (hbel.cell (p := ⟨g2, k * 3 + 2, none⟩) hg2).trans b2
      clear hgc hgc2 a0 a1 a2 b0 b1 b2 hva hub
      generalize ts[k] = t at *
      obtain ⟨tk, tx, tp⟩ := t
      simp only at c0 c1 c2 d0 d1 d2
      go_wp2
      go_region_with (go_at_call 59; refine (eqToken_same _ _ _ _).mono ?_; rintro e w1 ⟨rfl, hb'⟩; replace hb' := undrew hb'; have bw1 : Below w.heap.size w w1 := hbel.trans (hb'.mono hbs))
      all_goals
        go_wp2
        go_roundw
        case rel => exact ⟨k + 1, by omega, by go_num, by first | exact bw1 | exact bw1.drew⟩
        case measure => simp [intOf]; omega
    · go_wp2
      go_ret
      exact ⟨rfl, hbel⟩
set_option maxHeartbeats 1600000 in
theorem unlex_walk (la : Option Addr) (lc : Nat) (us : List TV) (w : World) (hn : us.length ≤ maxLen) (hsz : ∀ t ∈ us, t.2.1.size ≤ maxLen) (hv : RTO w (.slice la us.length lc) us) (hT : Tabs w) (hM : ML w) :
    Calls Tryd.prog 7 #[.slice la us.length lc] w fun e w' => e = .returned (.bool true) ∧ Below w.heap.size w w' := by
  go_enter Tryd.func7, Tryd.ntmps7
  go_wp2_with (go_at_call 25; fail)
  refine (szTokenS_any la lc us _ hn hsz hv).mono ?_
  rintro e w1 ⟨rfl | ⟨m, hm, rfl, hn1, hs1⟩, hb1⟩
  · go_wp2
    go_ret
    exact ⟨rfl, hb1⟩
  · have hm0 : ¬ (m : Int) < 0 := by omega
    have hm1 : us.length ≤ maxLen := hn
    have hv1 := hv.below hb1
    go_wp2_with (go_at_call 27; fail)
    refine (toTokenS_any la lc us _ hn1 hv1).mono ?_
    rintro e w2 ⟨rfl, hr2, hb2⟩
    have bw2 : Below w.heap.size w w2 := hb1.trans (hb2.mono hb1.size)
    have hS := unlexS_any _ _ us w2 hn hs1 hr2
    have hI := fun a c w h t l => unlex_any a c us w hn hs1 h t l
    obtain ⟨S, hSe⟩ : ∃ S, (unlexR us).1 = S := ⟨_, rfl⟩
    obtain ⟨c, hce⟩ : ∃ c, (unlexR us).2 = c := ⟨_, rfl⟩
    rw [hSe, hce] at hS
    simp only [hSe, hce] at hI
    clear hSe hce
    go_wp2_with (go_at_call 26; fail)
    refine hS.mono ?_
    rintro e w3 ⟨rfl, hb3⟩
    have bw3 : Below w.heap.size w w3 := bw2.trans (hb3.mono bw2.size)
    go_wp2_with (go_at_call 27; fail)
    refine (toTokenS_any la lc us _ hn1 (hv.below bw3)).mono ?_
    rintro e w4 ⟨rfl, hr4, hb4⟩
    have bw4 : Below w.heap.size w w4 := bw3.trans (hb4.mono bw3.size)
    go_wp2_with (go_at_call 28; fail)
    refine (hI _ _ _ hr4 (tabs_below hT bw4) (hM.below bw4)).mono ?_
    rintro e w5 ⟨rfl, hb5⟩
    have bw5 : Below w.heap.size w w5 := bw4.trans (hb5.mono bw4.size)
    go_wp2_with (go_at_call 27; fail)
    refine (toTokenS_any la lc us _ hn1 (hv.below bw5)).mono ?_
    rintro e w6 ⟨rfl, hr6, hb6⟩
    have bw6 : Below w.heap.size w w6 := bw5.trans (hb6.mono bw5.size)
    have hr46 := (hr4.below hb5).below hb6
    go_wp2_with (go_at_call 22; fail)
    refine (eqTokenS_big _ _ us _ hn1 hr46 hr6).mono ?_
    rintro e w7 ⟨rfl, hb7⟩
    go_wp2
    go_ret
    exact ⟨rfl, bw6.trans (hb7.mono bw6.size)⟩
end Go.Proofs.YtcgnkcehjcednaaDoor
