import Derived.Test.YtdcdoeolaongkaaGreatDoorC0
namespace Go.Proofs.YtdcdoeolaongkaaGreatDoor.Ca
open Go.MapKept Go.ChangeMaps
open Go.ChangeShapes Go.WideShapes Go.ChangeAt Go.RowKit Go.Shelf
open Go.Proofs.YtdcdoeolaongkaaGreatDoor.Rd
set_option linter.unusedVariables false
set_option linter.unusedSimpArgs false
set_option maxRecDepth 100000
set_option maxHeartbeats 16000000 in
theorem callI_1 (ar : List TA) (a : Option Addr) (cap : Nat) (w : World) (h8 : ar.length ≤ 8) (hr : RVO w (.slice a ar.length cap) ar) (hsz : ∀ t ∈ ar, t.2.2.size ≤ 1048576) (hT : Tabs w) (hv : Hid (∀ t ∈ ar, vok t.1 t.2.1 t.2.2 = true)) (hg : Hid ((Mp.gvK 1 (kindsA ar) == -1) = false)) (hnu : Hid ((nullsA ar && (1 : Int) != 6) = false)) (R : Value → Prop)
    (hW : Hid (∀ W, Below w.heap.size w W → Calls Tryz.prog 83 #[.slice a ar.length cap] W fun e w' => ∃ k n s c, R (tV k n s c) ∧ e = .returned (tV k n s c) ∧ Below W.heap.size W w')) :
    Calls Tryz.prog 20 #[.int .i64 1, .slice a ar.length cap] w fun e w' => ∃ V, R V ∧ e = .returned V ∧ Below w.heap.size w w' := by
  obtain ⟨i0, hi, hz0, hz1, hz2⟩ := info_parts info3
  have hrr := hr
  obtain ⟨a', cap', hsl, hcells⟩ := hr
  simp only [Value.slice.injEq] at hsl
  obtain ⟨rfl, _, rfl⟩ := hsl
  have h8i : ¬ (8 : Int) < ar.length := by omega
  have bw0 := below_alloc w (.cells #[.int .i64 0, .int .i64 0, .string ⟨#[]⟩] 29)
  have HRR : Hid (RVO w (.slice a ar.length cap) ar) := hrr
  clear hrr
  go_enter Tryz.func20, Tryz.ntmps20
  go_wp2
  generalize hW0 : w.alloc (.cells #[.int .i64 0, .int .i64 0, .string ⟨#[]⟩] 29) = W0 at *
  have hs0 : w.heap.size < W0.heap.size := by rw [← hW0]; simp
  have r0 : W0.cell? ⟨w.heap.size, 0, none⟩ = some (.int .i64 0) ∧ W0.cell? ⟨w.heap.size, 1, none⟩ = some (.int .i64 0) ∧ W0.cell? ⟨w.heap.size, 2, none⟩ = some (.string ⟨#[]⟩) ∧ W0.frozen? ⟨w.heap.size, 0, none⟩ = false ∧ W0.frozen? ⟨w.heap.size, 1, none⟩ = false ∧ W0.frozen? ⟨w.heap.size, 2, none⟩ = false := by
    rw [← hW0]; simp [go_sem]
  have HR0 : Hid _ := r0
  have HB0 : Hid (Below w.heap.size w W0) := bw0
  clear r0 bw0 hW0
  go_loopw [6, 7, 9, 18] (fun kv nb _ i wr => ∃ k : Nat, k ≤ ar.length ∧ i = .int .i64 k ∧ nb = .bool (nullsA (ar.take k)) ∧ OwnK W0.heap.size kv k (kindsA (ar.take k)) wr ∧ Below W0.heap.size W0 wr) (fun _ _ _ i _ => ar.length - (intOf i).toNat)
  case atStart => exact ⟨0, Nat.zero_le _, rfl, rfl, (⟨rfl, .inl ⟨rfl, rfl⟩⟩ : W0.ownsRow W0.heap.size 3 1 (.slice none 0 0) 0 []), Below.refl _ _⟩
  case round =>
    obtain ⟨k, hk, rfl, rfl, hoK, hbel⟩ := hrel
    have ho : wr.ownsRow W0.heap.size 3 1 _ k ((kindsA (ar.take k)).map (Value.int .i64)) := hoK
    clear hoK
    have hbs := hbel.size
    by_cases hlt : k < ar.length
    · have hlti : (k : Int) < ar.length := by omega
      obtain ⟨g, o, rfl, hgg, hgc⟩ := hcells (by omega)
      have bww : Below w.heap.size w wr := HB0.out.trans (hbel.mono (by omega))
      obtain ⟨c0, c1, c2⟩ := hgc k hlt
      have d0 := (bww.cell (p := ⟨g, o + k * 3, none⟩) hgg).trans c0
      have d1 := (bww.cell (p := ⟨g, o + k * 3 + 1, none⟩) hgg).trans c1
      have d2 := (bww.cell (p := ⟨g, o + k * 3 + 2, none⟩) hgg).trans c2
      have hsx := hsz ar[k] (List.getElem_mem hlt)
      have hvx := hv.out ar[k] (List.getElem_mem hlt)
      have HTK : Hid (ar.take (k + 1) = ar.take k ++ [ar[k]]) := take_snoc hlt
      clear c0 c1 c2 hgc hcells hsz
      generalize ar[k] = t at *
      obtain ⟨tk, tn, ts⟩ := t
      simp only at d0 d1 d2 hsx hvx
      have HVX : Hid (vok tk tn ts = true) := hvx
      clear hvx
      have HNB : Hid (nullsA (ar.take (k + 1)) = (nullsA (ar.take k) || tk == 0)) := (by rw [HTK.out, nullsA_snoc] : nullsA (ar.take (k + 1)) = (nullsA (ar.take k) || tk == 0))
      generalize nullsA (ar.take k) = nb at *
      have cs : nb = true ∨ (nb = false ∧ (tk == 0) = true) ∨ (nb = false ∧ (tk == 0) = false) := by cases nb <;> cases (tk == 0) <;> simp
      have hVX := fun W (h : Below w.heap.size w W) => vok_impl tk tn ts W hsx (tabs_below hT h)
      rw [HVX.out] at hVX
      rcases cs with rfl | ⟨rfl, ez⟩ | ⟨rfl, ez⟩
      all_goals
        go_wp2_with (first | (go_at_call 43; refine (hVX _ (bww.alloc bww.size _)).mono ?_; rintro e w1 ⟨rfl, hb1⟩; obtain ⟨hc1, hf1⟩ := bcell hb1; have hz1w : wr.heap.size < w1.heap.size := (by have := hb1.size; simp at this; omega); have bw1 : Below W0.heap.size W0 w1 := (hbel.alloc hbs _).trans (hb1.mono (by simp; omega)); have ho1 := own_below (ho.alloc _) hb1; have e0 : w1.cell? ⟨wr.heap.size, 0, none⟩ = some (.int .i64 tk) := (hc1 wr.heap.size 0 (by simp)).trans (by simp [go_sem])) | (at_builtin; refine wpList_append_own _ rfl (.tmp 26) (.tmp 29) 22 rfl W0.heap.size 3 i0 (.int .i64 0) 1 8 Tryz.underlying22 hi hz0 hz1 hz2 rfl (by decide) _ k ((kindsA (ar.take k)).map (Value.int .i64)) rfl (ho1.alloc _) ⟨w1.heap.size, 0, none⟩ 1 1 [.int .i64 tk] rfl rfl (cell_one_new _ _ _) (by intro u hu; simp at hu; subst hu; rfl) (by unfold maxLen; omega) (by omega) (by have := bw1.size; simp; omega) ?_; intro v' w2 hown' hgrow _; have bw2 : Below W0.heap.size W0 w2 := (bw1.alloc bw1.size _).grown hgrow (by have := bw1.size; simp; omega) (fun j hj => (ho1.lt j hj).1); have e2 : w2.cell? ⟨wr.heap.size, 0, none⟩ = some (.int .i64 tk) := (cell_grown hgrow (by simp; omega) (fun e => by have := (ho.lt wr.heap.size e.symm).2; omega)).trans (((below_alloc w1 _).cell (p := ⟨wr.heap.size, 0, none⟩) hz1w).trans e0); have HOW : Hid (OwnK W0.heap.size v' (k + 1) (kindsA (ar.take (k + 1))) w2) := OwnK.of HTK.out hown'; clear hown' hgrow))
        go_roundw
        case rel => exact ⟨k + 1, by omega, by go_num, by rw [HNB.out]; first | (rw [ez]; rfl) | rfl, HOW.out, bw2⟩
        case measure => simp [intOf]; omega
    · have hkn : k = ar.length := by omega
      subst hkn
      have hlti : ¬ (ar.length : Int) < ar.length := by omega
      rw [List.take_length] at ho
      rw [List.take_length]
      have hnu' := hnu.out
      generalize nullsA ar = nb at *
      have hkl : (kindsA ar).length = ar.length := by simp [kindsA]
      rw [← hkl] at ho
      obtain ⟨ka, kc, rfl, hrio⟩ := own_rio ho
      clear ho
      generalize hks : kindsA ar = ks at *
      have HKL : Hid (ks.length = ar.length) := hkl
      have bww : Below w.heap.size w wr := HB0.out.trans (hbel.mono (by omega))
      obtain ⟨q0, q1, q2, f0, f1, f2⟩ := HR0.out
      have q0 := (hbel.cell (p := ⟨w.heap.size, 0, none⟩) (by show w.heap.size < _; omega)).trans q0
      have q1 := (hbel.cell (p := ⟨w.heap.size, 1, none⟩) (by show w.heap.size < _; omega)).trans q1
      have q2 := (hbel.cell (p := ⟨w.heap.size, 2, none⟩) (by show w.heap.size < _; omega)).trans q2
      have f0 := (hbel.frozen (p := ⟨w.heap.size, 0, none⟩) (by show w.heap.size < _; omega)).trans f0
      have f1 := (hbel.frozen (p := ⟨w.heap.size, 1, none⟩) (by show w.heap.size < _; omega)).trans f1
      have f2 := (hbel.frozen (p := ⟨w.heap.size, 2, none⟩) (by show w.heap.size < _; omega)).trans f2
      have hwr : w.heap.size < wr.heap.size := by omega
      have hn20 : ks.length ≤ 1048576 := by rw [hkl]; omega
      clear hkl hks hbel HR0 HB0
      go_wp2_with (go_at_call 39; fail)
      refine (Mp.table_any _).mono ?_
      rintro e w1 ⟨rfl, hst⟩
      obtain ⟨l, hm, hks, hgood, hb1⟩ := hst
      have hrun := hm.look Tryz.underlying72 Tryz.underlying3 (Tryz.zeroValue70 _) 1
      obtain ⟨v, hv1, hv2⟩ := Mp.lookL_some (l := l) (k := 1) (by rw [hks]; decide)
      obtain ⟨g, hvg, hG⟩ := hgood _ hv2
      replace hG : Mp.GoodG w1 wr.heap.size 1 g := hG
      simp only at hvg
      rw [show Mp.workN 1 = 83 from rfl] at hvg
      subst hvg
      rw [hv1] at hrun
      simp only [Option.getD_some, Option.isSome_some] at hrun
      obtain ⟨hc1, hf1⟩ := bcell hb1
      have hz1 : w.heap.size < w1.heap.size := by have := hb1.size; omega
      have bw1 : Below w.heap.size w w1 := bww.trans (hb1.mono bww.size)
      have hrio1 := hrio.below hb1
      clear hgood hks hm hv1 hv2 hrio
      have hgF : g = Mp.fnV 82 := hG
      subst hgF
      have hgne : (Mp.absK ks == -1) = false := hg.out
      clear hG
      go_wp2_with (go_at_call 82; fail)
      refine (Mp.abs_any ks _ _ _ hn20 (hrio1.below (below_alloc _ _))).mono ?_
      rintro e w2 ⟨rfl, hb2⟩
      generalize Mp.absK ks = gr at *
      obtain ⟨hc2, hf2⟩ := bcell hb2
      have hz2 : w1.heap.size < w2.heap.size := by have := hb2.size; simp at this; omega
      have hy2 : w.heap.size < w2.heap.size := by omega
      have bw1a : Below w.heap.size w (w1.alloc (.cells #[Value.func (Fn.func 82) #[] #[], Value.func (Fn.func 83) #[] #[]] 70)) := bw1.alloc bw1.size _
      have bw2 : Below w.heap.size w w2 := bw1a.trans (hb2.mono bw1a.size)
      have hnn : nb = false ∨ (nb = true ∧ ((1 : Int) != 6) = false) := by cases nb <;> simp_all
      rcases hnn with rfl | ⟨rfl, hn6⟩
      all_goals
        go_wp2_with (go_at_call 83; fail)
        refine (hW.out _ bw2).mono ?_
        rintro e w3 ⟨k, n, s, c, hR, rfl, hb3⟩
        have HRV : Hid (R (tV k n s c)) := hR
        clear hR
        simp only [tV]
        obtain ⟨hc3, hf3⟩ := bcell hb3
        have hz3 : w1.heap.size < w3.heap.size := by have := hb3.size; omega
        have hy3 : w.heap.size < w3.heap.size := by omega
        have bw3 : Below w.heap.size w w3 := bw2.trans (hb3.mono bw2.size)
        have b12 : Below wr.heap.size wr w2 := (hb1.alloc hb1.size _).trans (hb2.mono (by have := hb1.size; simp; omega))
        have b13 : Below wr.heap.size wr w3 := b12.trans (hb3.mono b12.size)
        have p0 := (b13.cell (p := ⟨w.heap.size, 0, none⟩) hwr).trans q0
        have p1 := (b13.cell (p := ⟨w.heap.size, 1, none⟩) hwr).trans q1
        have p2 := (b13.cell (p := ⟨w.heap.size, 2, none⟩) hwr).trans q2
        have j0 := (b13.frozen (p := ⟨w.heap.size, 0, none⟩) hwr).trans f0
        have j1 := (b13.frozen (p := ⟨w.heap.size, 1, none⟩) hwr).trans f1
        have j2 := (b13.frozen (p := ⟨w.heap.size, 2, none⟩) hwr).trans f2
        clear b12 b13 hc1 hf1 hc2 hf2 hc3 hf3
        go_wp2
        refine bodyPost_ret (v := tV k n s c) (by simp [results, Tryz.results20, go_sem, tV, p0, p1, p2, j0, j1, j2, hy3]) rfl ⟨_, HRV.out, rfl, ?_⟩
        exact ((bw3.setCell (Nat.le_refl _) _).setCell (Nat.le_refl _) _).setCell (Nat.le_refl _) _
end Go.Proofs.YtdcdoeolaongkaaGreatDoor.Ca
namespace Go.Proofs.YtdcdoeolaongkaaGreatDoor.Ca
open Go.MapKept Go.ChangeMaps
open Go.ChangeShapes Go.WideShapes Go.ChangeAt Go.RowKit Go.Shelf
open Go.Proofs.YtdcdoeolaongkaaGreatDoor.Rd
set_option linter.unusedVariables false
set_option linter.unusedSimpArgs false
set_option maxRecDepth 100000
set_option maxHeartbeats 16000000 in
theorem callI_2 (ar : List TA) (a : Option Addr) (cap : Nat) (w : World) (h8 : ar.length ≤ 8) (hr : RVO w (.slice a ar.length cap) ar) (hsz : ∀ t ∈ ar, t.2.2.size ≤ 1048576) (hT : Tabs w) (hv : Hid (∀ t ∈ ar, vok t.1 t.2.1 t.2.2 = true)) (hg : Hid ((Mp.gvK 2 (kindsA ar) == -1) = false)) (hnu : Hid ((nullsA ar && (2 : Int) != 6) = false)) (R : Value → Prop)
    (hW : Hid (∀ W, Below w.heap.size w W → Calls Tryz.prog 85 #[.slice a ar.length cap] W fun e w' => ∃ k n s c, R (tV k n s c) ∧ e = .returned (tV k n s c) ∧ Below W.heap.size W w')) :
    Calls Tryz.prog 20 #[.int .i64 2, .slice a ar.length cap] w fun e w' => ∃ V, R V ∧ e = .returned V ∧ Below w.heap.size w w' := by
  obtain ⟨i0, hi, hz0, hz1, hz2⟩ := info_parts info3
  have hrr := hr
  obtain ⟨a', cap', hsl, hcells⟩ := hr
  simp only [Value.slice.injEq] at hsl
  obtain ⟨rfl, _, rfl⟩ := hsl
  have h8i : ¬ (8 : Int) < ar.length := by omega
  have bw0 := below_alloc w (.cells #[.int .i64 0, .int .i64 0, .string ⟨#[]⟩] 29)
  have HRR : Hid (RVO w (.slice a ar.length cap) ar) := hrr
  clear hrr
  go_enter Tryz.func20, Tryz.ntmps20
  go_wp2
  generalize hW0 : w.alloc (.cells #[.int .i64 0, .int .i64 0, .string ⟨#[]⟩] 29) = W0 at *
  have hs0 : w.heap.size < W0.heap.size := by rw [← hW0]; simp
  have r0 : W0.cell? ⟨w.heap.size, 0, none⟩ = some (.int .i64 0) ∧ W0.cell? ⟨w.heap.size, 1, none⟩ = some (.int .i64 0) ∧ W0.cell? ⟨w.heap.size, 2, none⟩ = some (.string ⟨#[]⟩) ∧ W0.frozen? ⟨w.heap.size, 0, none⟩ = false ∧ W0.frozen? ⟨w.heap.size, 1, none⟩ = false ∧ W0.frozen? ⟨w.heap.size, 2, none⟩ = false := by
    rw [← hW0]; simp [go_sem]
  have HR0 : Hid _ := r0
  have HB0 : Hid (Below w.heap.size w W0) := bw0
  clear r0 bw0 hW0
  go_loopw [6, 7, 9, 18] (fun kv nb _ i wr => ∃ k : Nat, k ≤ ar.length ∧ i = .int .i64 k ∧ nb = .bool (nullsA (ar.take k)) ∧ OwnK W0.heap.size kv k (kindsA (ar.take k)) wr ∧ Below W0.heap.size W0 wr) (fun _ _ _ i _ => ar.length - (intOf i).toNat)
  case atStart => exact ⟨0, Nat.zero_le _, rfl, rfl, (⟨rfl, .inl ⟨rfl, rfl⟩⟩ : W0.ownsRow W0.heap.size 3 1 (.slice none 0 0) 0 []), Below.refl _ _⟩
  case round =>
    obtain ⟨k, hk, rfl, rfl, hoK, hbel⟩ := hrel
    have ho : wr.ownsRow W0.heap.size 3 1 _ k ((kindsA (ar.take k)).map (Value.int .i64)) := hoK
    clear hoK
    have hbs := hbel.size
    by_cases hlt : k < ar.length
    · have hlti : (k : Int) < ar.length := by omega
      obtain ⟨g, o, rfl, hgg, hgc⟩ := hcells (by omega)
      have bww : Below w.heap.size w wr := HB0.out.trans (hbel.mono (by omega))
      obtain ⟨c0, c1, c2⟩ := hgc k hlt
      have d0 := (bww.cell (p := ⟨g, o + k * 3, none⟩) hgg).trans c0
      have d1 := (bww.cell (p := ⟨g, o + k * 3 + 1, none⟩) hgg).trans c1
      have d2 := (bww.cell (p := ⟨g, o + k * 3 + 2, none⟩) hgg).trans c2
      have hsx := hsz ar[k] (List.getElem_mem hlt)
      have hvx := hv.out ar[k] (List.getElem_mem hlt)
      have HTK : Hid (ar.take (k + 1) = ar.take k ++ [ar[k]]) := take_snoc hlt
      clear c0 c1 c2 hgc hcells hsz
      generalize ar[k] = t at *
      obtain ⟨tk, tn, ts⟩ := t
      simp only at d0 d1 d2 hsx hvx
      have HVX : Hid (vok tk tn ts = true) := hvx
      clear hvx
      have HNB : Hid (nullsA (ar.take (k + 1)) = (nullsA (ar.take k) || tk == 0)) := (by rw [HTK.out, nullsA_snoc] : nullsA (ar.take (k + 1)) = (nullsA (ar.take k) || tk == 0))
      generalize nullsA (ar.take k) = nb at *
      have cs : nb = true ∨ (nb = false ∧ (tk == 0) = true) ∨ (nb = false ∧ (tk == 0) = false) := by cases nb <;> cases (tk == 0) <;> simp
      have hVX := fun W (h : Below w.heap.size w W) => vok_impl tk tn ts W hsx (tabs_below hT h)
      rw [HVX.out] at hVX
      rcases cs with rfl | ⟨rfl, ez⟩ | ⟨rfl, ez⟩
      all_goals
        go_wp2_with (first | (go_at_call 43; refine (hVX _ (bww.alloc bww.size _)).mono ?_; rintro e w1 ⟨rfl, hb1⟩; obtain ⟨hc1, hf1⟩ := bcell hb1; have hz1w : wr.heap.size < w1.heap.size := (by have := hb1.size; simp at this; omega); have bw1 : Below W0.heap.size W0 w1 := (hbel.alloc hbs _).trans (hb1.mono (by simp; omega)); have ho1 := own_below (ho.alloc _) hb1; have e0 : w1.cell? ⟨wr.heap.size, 0, none⟩ = some (.int .i64 tk) := (hc1 wr.heap.size 0 (by simp)).trans (by simp [go_sem])) | (at_builtin; refine wpList_append_own _ rfl (.tmp 26) (.tmp 29) 22 rfl W0.heap.size 3 i0 (.int .i64 0) 1 8 Tryz.underlying22 hi hz0 hz1 hz2 rfl (by decide) _ k ((kindsA (ar.take k)).map (Value.int .i64)) rfl (ho1.alloc _) ⟨w1.heap.size, 0, none⟩ 1 1 [.int .i64 tk] rfl rfl (cell_one_new _ _ _) (by intro u hu; simp at hu; subst hu; rfl) (by unfold maxLen; omega) (by omega) (by have := bw1.size; simp; omega) ?_; intro v' w2 hown' hgrow _; have bw2 : Below W0.heap.size W0 w2 := (bw1.alloc bw1.size _).grown hgrow (by have := bw1.size; simp; omega) (fun j hj => (ho1.lt j hj).1); have e2 : w2.cell? ⟨wr.heap.size, 0, none⟩ = some (.int .i64 tk) := (cell_grown hgrow (by simp; omega) (fun e => by have := (ho.lt wr.heap.size e.symm).2; omega)).trans (((below_alloc w1 _).cell (p := ⟨wr.heap.size, 0, none⟩) hz1w).trans e0); have HOW : Hid (OwnK W0.heap.size v' (k + 1) (kindsA (ar.take (k + 1))) w2) := OwnK.of HTK.out hown'; clear hown' hgrow))
        go_roundw
        case rel => exact ⟨k + 1, by omega, by go_num, by rw [HNB.out]; first | (rw [ez]; rfl) | rfl, HOW.out, bw2⟩
        case measure => simp [intOf]; omega
    · have hkn : k = ar.length := by omega
      subst hkn
      have hlti : ¬ (ar.length : Int) < ar.length := by omega
      rw [List.take_length] at ho
      rw [List.take_length]
      have hnu' := hnu.out
      generalize nullsA ar = nb at *
      have hkl : (kindsA ar).length = ar.length := by simp [kindsA]
      rw [← hkl] at ho
      obtain ⟨ka, kc, rfl, hrio⟩ := own_rio ho
      clear ho
      generalize hks : kindsA ar = ks at *
      have HKL : Hid (ks.length = ar.length) := hkl
      have bww : Below w.heap.size w wr := HB0.out.trans (hbel.mono (by omega))
      obtain ⟨q0, q1, q2, f0, f1, f2⟩ := HR0.out
      have q0 := (hbel.cell (p := ⟨w.heap.size, 0, none⟩) (by show w.heap.size < _; omega)).trans q0
      have q1 := (hbel.cell (p := ⟨w.heap.size, 1, none⟩) (by show w.heap.size < _; omega)).trans q1
      have q2 := (hbel.cell (p := ⟨w.heap.size, 2, none⟩) (by show w.heap.size < _; omega)).trans q2
      have f0 := (hbel.frozen (p := ⟨w.heap.size, 0, none⟩) (by show w.heap.size < _; omega)).trans f0
      have f1 := (hbel.frozen (p := ⟨w.heap.size, 1, none⟩) (by show w.heap.size < _; omega)).trans f1
      have f2 := (hbel.frozen (p := ⟨w.heap.size, 2, none⟩) (by show w.heap.size < _; omega)).trans f2
      have hwr : w.heap.size < wr.heap.size := by omega
      have hn20 : ks.length ≤ 1048576 := by rw [hkl]; omega
      clear hkl hks hbel HR0 HB0
      go_wp2_with (go_at_call 39; fail)
      refine (Mp.table_any _).mono ?_
      rintro e w1 ⟨rfl, hst⟩
      obtain ⟨l, hm, hks, hgood, hb1⟩ := hst
      have hrun := hm.look Tryz.underlying72 Tryz.underlying3 (Tryz.zeroValue70 _) 2
      obtain ⟨v, hv1, hv2⟩ := Mp.lookL_some (l := l) (k := 2) (by rw [hks]; decide)
      obtain ⟨g, hvg, hG⟩ := hgood _ hv2
      replace hG : Mp.GoodG w1 wr.heap.size 2 g := hG
      simp only at hvg
      rw [show Mp.workN 2 = 85 from rfl] at hvg
      subst hvg
      rw [hv1] at hrun
      simp only [Option.getD_some, Option.isSome_some] at hrun
      obtain ⟨hc1, hf1⟩ := bcell hb1
      have hz1 : w.heap.size < w1.heap.size := by have := hb1.size; omega
      have bw1 : Below w.heap.size w w1 := bww.trans (hb1.mono bww.size)
      have hrio1 := hrio.below hb1
      clear hgood hks hm hv1 hv2 hrio
      have hT2 : Mp.Taker w1 wr.heap.size g (Mp.resK 2) (Mp.wantK 2) := hG
      have HG : Hid (Mp.gvK 2 ks = Mp.takeK (Mp.resK 2) (Mp.wantK 2) ks) := rfl
      have hgne : (Mp.takeK (Mp.resK 2) (Mp.wantK 2) ks == -1) = false := hg.out
      have HWL : Hid ((Mp.wantK 2).length ≤ 100) := (by decide : (Mp.wantK 2).length ≤ 100)
      clear hG
      generalize Mp.resK 2 = rs at *
      generalize Mp.wantK 2 = wsl at *
      obtain ⟨bw_, br, sb, rfl, _, ⟨l1, l2, l3⟩, t1, t2, t3⟩ := hT2
      have HTK : Hid ((bw_ < w1.heap.size ∧ br < w1.heap.size ∧ sb < w1.heap.size) ∧ w1.cell? ⟨bw_, 0, none⟩ = some (.slice (some ⟨sb, 0, none⟩) wsl.length wsl.length) ∧ w1.cell? ⟨br, 0, none⟩ = some (.int .i64 rs) ∧ ∀ i (h : i < wsl.length), w1.cell? ⟨sb, i, none⟩ = some (.int .i64 wsl[i])) := ⟨⟨l1, l2, l3⟩, t1, t2, t3⟩
      clear t1 t2 t3 l1 l2 l3
      go_wp2_with (go_at_call 149; fail)
      refine (Mp.taking1_any 0 rs wsl ks _ _ bw_ br sb _ hn20 HWL.out (hrio1.below (below_alloc _ _)) (((below_alloc w1 _).cell (p := ⟨bw_, 0, none⟩) HTK.out.1.1).trans HTK.out.2.1) (((below_alloc w1 _).cell (p := ⟨br, 0, none⟩) HTK.out.1.2.1).trans HTK.out.2.2.1) (fun i hi => ((below_alloc w1 _).cell (p := ⟨sb, i, none⟩) HTK.out.1.2.2).trans (HTK.out.2.2.2 i hi))).mono ?_
      rintro e w2 ⟨rfl, hbe2⟩
      have hb2 : Below (w1.alloc (.cells #[Value.func (Fn.func 149) #[] #[Value.pointer (some ⟨bw_, 0, none⟩), Value.pointer (some ⟨br, 0, none⟩)], Value.func (Fn.func 85) #[] #[]] 70)).heap.size (w1.alloc (.cells #[Value.func (Fn.func 149) #[] #[Value.pointer (some ⟨bw_, 0, none⟩), Value.pointer (some ⟨br, 0, none⟩)], Value.func (Fn.func 85) #[] #[]] 70)) w2 := by rw [hbe2]; exact Below.refl _ _
      clear hbe2
      generalize Mp.takeK rs wsl ks = gr at *
      obtain ⟨hc2, hf2⟩ := bcell hb2
      have hz2 : w1.heap.size < w2.heap.size := by have := hb2.size; simp at this; omega
      have hy2 : w.heap.size < w2.heap.size := by omega
      have bw1a : Below w.heap.size w (w1.alloc (.cells #[Value.func (Fn.func 149) #[] #[Value.pointer (some ⟨bw_, 0, none⟩), Value.pointer (some ⟨br, 0, none⟩)], Value.func (Fn.func 85) #[] #[]] 70)) := bw1.alloc bw1.size _
      have bw2 : Below w.heap.size w w2 := bw1a.trans (hb2.mono bw1a.size)
      have hnn : nb = false ∨ (nb = true ∧ ((2 : Int) != 6) = false) := by cases nb <;> simp_all
      rcases hnn with rfl | ⟨rfl, hn6⟩
      all_goals
        go_wp2_with (go_at_call 85; fail)
        refine (hW.out _ bw2).mono ?_
        rintro e w3 ⟨k, n, s, c, hR, rfl, hb3⟩
        have HRV : Hid (R (tV k n s c)) := hR
        clear hR
        simp only [tV]
        obtain ⟨hc3, hf3⟩ := bcell hb3
        have hz3 : w1.heap.size < w3.heap.size := by have := hb3.size; omega
        have hy3 : w.heap.size < w3.heap.size := by omega
        have bw3 : Below w.heap.size w w3 := bw2.trans (hb3.mono bw2.size)
        have b12 : Below wr.heap.size wr w2 := (hb1.alloc hb1.size _).trans (hb2.mono (by have := hb1.size; simp; omega))
        have b13 : Below wr.heap.size wr w3 := b12.trans (hb3.mono b12.size)
        have p0 := (b13.cell (p := ⟨w.heap.size, 0, none⟩) hwr).trans q0
        have p1 := (b13.cell (p := ⟨w.heap.size, 1, none⟩) hwr).trans q1
        have p2 := (b13.cell (p := ⟨w.heap.size, 2, none⟩) hwr).trans q2
        have j0 := (b13.frozen (p := ⟨w.heap.size, 0, none⟩) hwr).trans f0
        have j1 := (b13.frozen (p := ⟨w.heap.size, 1, none⟩) hwr).trans f1
        have j2 := (b13.frozen (p := ⟨w.heap.size, 2, none⟩) hwr).trans f2
        clear b12 b13 hc1 hf1 hc2 hf2 hc3 hf3
        go_wp2
        refine bodyPost_ret (v := tV k n s c) (by simp [results, Tryz.results20, go_sem, tV, p0, p1, p2, j0, j1, j2, hy3]) rfl ⟨_, HRV.out, rfl, ?_⟩
        exact ((bw3.setCell (Nat.le_refl _) _).setCell (Nat.le_refl _) _).setCell (Nat.le_refl _) _
end Go.Proofs.YtdcdoeolaongkaaGreatDoor.Ca
namespace Go.Proofs.YtdcdoeolaongkaaGreatDoor.Ca
open Go.MapKept Go.ChangeMaps
open Go.ChangeShapes Go.WideShapes Go.ChangeAt Go.RowKit Go.Shelf
open Go.Proofs.YtdcdoeolaongkaaGreatDoor.Rd
set_option linter.unusedVariables false
set_option linter.unusedSimpArgs false
set_option maxRecDepth 100000
set_option maxHeartbeats 16000000 in
theorem callI_3 (ar : List TA) (a : Option Addr) (cap : Nat) (w : World) (h8 : ar.length ≤ 8) (hr : RVO w (.slice a ar.length cap) ar) (hsz : ∀ t ∈ ar, t.2.2.size ≤ 1048576) (hT : Tabs w) (hv : Hid (∀ t ∈ ar, vok t.1 t.2.1 t.2.2 = true)) (hg : Hid ((Mp.gvK 3 (kindsA ar) == -1) = false)) (hnu : Hid ((nullsA ar && (3 : Int) != 6) = false)) (R : Value → Prop)
    (hW : Hid (∀ W, Below w.heap.size w W → Calls Tryz.prog 86 #[.slice a ar.length cap] W fun e w' => ∃ k n s c, R (tV k n s c) ∧ e = .returned (tV k n s c) ∧ Below W.heap.size W w')) :
    Calls Tryz.prog 20 #[.int .i64 3, .slice a ar.length cap] w fun e w' => ∃ V, R V ∧ e = .returned V ∧ Below w.heap.size w w' := by
  obtain ⟨i0, hi, hz0, hz1, hz2⟩ := info_parts info3
  have hrr := hr
  obtain ⟨a', cap', hsl, hcells⟩ := hr
  simp only [Value.slice.injEq] at hsl
  obtain ⟨rfl, _, rfl⟩ := hsl
  have h8i : ¬ (8 : Int) < ar.length := by omega
  have bw0 := below_alloc w (.cells #[.int .i64 0, .int .i64 0, .string ⟨#[]⟩] 29)
  have HRR : Hid (RVO w (.slice a ar.length cap) ar) := hrr
  clear hrr
  go_enter Tryz.func20, Tryz.ntmps20
  go_wp2
  generalize hW0 : w.alloc (.cells #[.int .i64 0, .int .i64 0, .string ⟨#[]⟩] 29) = W0 at *
  have hs0 : w.heap.size < W0.heap.size := by rw [← hW0]; simp
  have r0 : W0.cell? ⟨w.heap.size, 0, none⟩ = some (.int .i64 0) ∧ W0.cell? ⟨w.heap.size, 1, none⟩ = some (.int .i64 0) ∧ W0.cell? ⟨w.heap.size, 2, none⟩ = some (.string ⟨#[]⟩) ∧ W0.frozen? ⟨w.heap.size, 0, none⟩ = false ∧ W0.frozen? ⟨w.heap.size, 1, none⟩ = false ∧ W0.frozen? ⟨w.heap.size, 2, none⟩ = false := by
    rw [← hW0]; simp [go_sem]
  have HR0 : Hid _ := r0
  have HB0 : Hid (Below w.heap.size w W0) := bw0
  clear r0 bw0 hW0
  go_loopw [6, 7, 9, 18] (fun kv nb _ i wr => ∃ k : Nat, k ≤ ar.length ∧ i = .int .i64 k ∧ nb = .bool (nullsA (ar.take k)) ∧ OwnK W0.heap.size kv k (kindsA (ar.take k)) wr ∧ Below W0.heap.size W0 wr) (fun _ _ _ i _ => ar.length - (intOf i).toNat)
  case atStart => exact ⟨0, Nat.zero_le _, rfl, rfl, (⟨rfl, .inl ⟨rfl, rfl⟩⟩ : W0.ownsRow W0.heap.size 3 1 (.slice none 0 0) 0 []), Below.refl _ _⟩
  case round =>
    obtain ⟨k, hk, rfl, rfl, hoK, hbel⟩ := hrel
    have ho : wr.ownsRow W0.heap.size 3 1 _ k ((kindsA (ar.take k)).map (Value.int .i64)) := hoK
    clear hoK
    have hbs := hbel.size
    by_cases hlt : k < ar.length
    · have hlti : (k : Int) < ar.length := by omega
      obtain ⟨g, o, rfl, hgg, hgc⟩ := hcells (by omega)
      have bww : Below w.heap.size w wr := HB0.out.trans (hbel.mono (by omega))
      obtain ⟨c0, c1, c2⟩ := hgc k hlt
      have d0 := (bww.cell (p := ⟨g, o + k * 3, none⟩) hgg).trans c0
      have d1 := (bww.cell (p := ⟨g, o + k * 3 + 1, none⟩) hgg).trans c1
      have d2 := (bww.cell (p := ⟨g, o + k * 3 + 2, none⟩) hgg).trans c2
      have hsx := hsz ar[k] (List.getElem_mem hlt)
      have hvx := hv.out ar[k] (List.getElem_mem hlt)
      have HTK : Hid (ar.take (k + 1) = ar.take k ++ [ar[k]]) := take_snoc hlt
      clear c0 c1 c2 hgc hcells hsz
      generalize ar[k] = t at *
      obtain ⟨tk, tn, ts⟩ := t
      simp only at d0 d1 d2 hsx hvx
      have HVX : Hid (vok tk tn ts = true) := hvx
      clear hvx
      have HNB : Hid (nullsA (ar.take (k + 1)) = (nullsA (ar.take k) || tk == 0)) := (by rw [HTK.out, nullsA_snoc] : nullsA (ar.take (k + 1)) = (nullsA (ar.take k) || tk == 0))
      generalize nullsA (ar.take k) = nb at *
      have cs : nb = true ∨ (nb = false ∧ (tk == 0) = true) ∨ (nb = false ∧ (tk == 0) = false) := by cases nb <;> cases (tk == 0) <;> simp
      have hVX := fun W (h : Below w.heap.size w W) => vok_impl tk tn ts W hsx (tabs_below hT h)
      rw [HVX.out] at hVX
      rcases cs with rfl | ⟨rfl, ez⟩ | ⟨rfl, ez⟩
      all_goals
        go_wp2_with (first | (go_at_call 43; refine (hVX _ (bww.alloc bww.size _)).mono ?_; rintro e w1 ⟨rfl, hb1⟩; obtain ⟨hc1, hf1⟩ := bcell hb1; have hz1w : wr.heap.size < w1.heap.size := (by have := hb1.size; simp at this; omega); have bw1 : Below W0.heap.size W0 w1 := (hbel.alloc hbs _).trans (hb1.mono (by simp; omega)); have ho1 := own_below (ho.alloc _) hb1; have e0 : w1.cell? ⟨wr.heap.size, 0, none⟩ = some (.int .i64 tk) := (hc1 wr.heap.size 0 (by simp)).trans (by simp [go_sem])) | (at_builtin; refine wpList_append_own _ rfl (.tmp 26) (.tmp 29) 22 rfl W0.heap.size 3 i0 (.int .i64 0) 1 8 Tryz.underlying22 hi hz0 hz1 hz2 rfl (by decide) _ k ((kindsA (ar.take k)).map (Value.int .i64)) rfl (ho1.alloc _) ⟨w1.heap.size, 0, none⟩ 1 1 [.int .i64 tk] rfl rfl (cell_one_new _ _ _) (by intro u hu; simp at hu; subst hu; rfl) (by unfold maxLen; omega) (by omega) (by have := bw1.size; simp; omega) ?_; intro v' w2 hown' hgrow _; have bw2 : Below W0.heap.size W0 w2 := (bw1.alloc bw1.size _).grown hgrow (by have := bw1.size; simp; omega) (fun j hj => (ho1.lt j hj).1); have e2 : w2.cell? ⟨wr.heap.size, 0, none⟩ = some (.int .i64 tk) := (cell_grown hgrow (by simp; omega) (fun e => by have := (ho.lt wr.heap.size e.symm).2; omega)).trans (((below_alloc w1 _).cell (p := ⟨wr.heap.size, 0, none⟩) hz1w).trans e0); have HOW : Hid (OwnK W0.heap.size v' (k + 1) (kindsA (ar.take (k + 1))) w2) := OwnK.of HTK.out hown'; clear hown' hgrow))
        go_roundw
        case rel => exact ⟨k + 1, by omega, by go_num, by rw [HNB.out]; first | (rw [ez]; rfl) | rfl, HOW.out, bw2⟩
        case measure => simp [intOf]; omega
    · have hkn : k = ar.length := by omega
      subst hkn
      have hlti : ¬ (ar.length : Int) < ar.length := by omega
      rw [List.take_length] at ho
      rw [List.take_length]
      have hnu' := hnu.out
      generalize nullsA ar = nb at *
      have hkl : (kindsA ar).length = ar.length := by simp [kindsA]
      rw [← hkl] at ho
      obtain ⟨ka, kc, rfl, hrio⟩ := own_rio ho
      clear ho
      generalize hks : kindsA ar = ks at *
      have HKL : Hid (ks.length = ar.length) := hkl
      have bww : Below w.heap.size w wr := HB0.out.trans (hbel.mono (by omega))
      obtain ⟨q0, q1, q2, f0, f1, f2⟩ := HR0.out
      have q0 := (hbel.cell (p := ⟨w.heap.size, 0, none⟩) (by show w.heap.size < _; omega)).trans q0
      have q1 := (hbel.cell (p := ⟨w.heap.size, 1, none⟩) (by show w.heap.size < _; omega)).trans q1
      have q2 := (hbel.cell (p := ⟨w.heap.size, 2, none⟩) (by show w.heap.size < _; omega)).trans q2
      have f0 := (hbel.frozen (p := ⟨w.heap.size, 0, none⟩) (by show w.heap.size < _; omega)).trans f0
      have f1 := (hbel.frozen (p := ⟨w.heap.size, 1, none⟩) (by show w.heap.size < _; omega)).trans f1
      have f2 := (hbel.frozen (p := ⟨w.heap.size, 2, none⟩) (by show w.heap.size < _; omega)).trans f2
      have hwr : w.heap.size < wr.heap.size := by omega
      have hn20 : ks.length ≤ 1048576 := by rw [hkl]; omega
      clear hkl hks hbel HR0 HB0
      go_wp2_with (go_at_call 39; fail)
      refine (Mp.table_any _).mono ?_
      rintro e w1 ⟨rfl, hst⟩
      obtain ⟨l, hm, hks, hgood, hb1⟩ := hst
      have hrun := hm.look Tryz.underlying72 Tryz.underlying3 (Tryz.zeroValue70 _) 3
      obtain ⟨v, hv1, hv2⟩ := Mp.lookL_some (l := l) (k := 3) (by rw [hks]; decide)
      obtain ⟨g, hvg, hG⟩ := hgood _ hv2
      replace hG : Mp.GoodG w1 wr.heap.size 3 g := hG
      simp only at hvg
      rw [show Mp.workN 3 = 86 from rfl] at hvg
      subst hvg
      rw [hv1] at hrun
      simp only [Option.getD_some, Option.isSome_some] at hrun
      obtain ⟨hc1, hf1⟩ := bcell hb1
      have hz1 : w.heap.size < w1.heap.size := by have := hb1.size; omega
      have bw1 : Below w.heap.size w w1 := bww.trans (hb1.mono bww.size)
      have hrio1 := hrio.below hb1
      clear hgood hks hm hv1 hv2 hrio
      have hT2 : Mp.Taker w1 wr.heap.size g (Mp.resK 3) (Mp.wantK 3) := hG
      have HG : Hid (Mp.gvK 3 ks = Mp.takeK (Mp.resK 3) (Mp.wantK 3) ks) := rfl
      have hgne : (Mp.takeK (Mp.resK 3) (Mp.wantK 3) ks == -1) = false := hg.out
      have HWL : Hid ((Mp.wantK 3).length ≤ 100) := (by decide : (Mp.wantK 3).length ≤ 100)
      clear hG
      generalize Mp.resK 3 = rs at *
      generalize Mp.wantK 3 = wsl at *
      obtain ⟨bw_, br, sb, rfl, _, ⟨l1, l2, l3⟩, t1, t2, t3⟩ := hT2
      have HTK : Hid ((bw_ < w1.heap.size ∧ br < w1.heap.size ∧ sb < w1.heap.size) ∧ w1.cell? ⟨bw_, 0, none⟩ = some (.slice (some ⟨sb, 0, none⟩) wsl.length wsl.length) ∧ w1.cell? ⟨br, 0, none⟩ = some (.int .i64 rs) ∧ ∀ i (h : i < wsl.length), w1.cell? ⟨sb, i, none⟩ = some (.int .i64 wsl[i])) := ⟨⟨l1, l2, l3⟩, t1, t2, t3⟩
      clear t1 t2 t3 l1 l2 l3
      go_wp2_with (go_at_call 149; fail)
      refine (Mp.taking1_any 0 rs wsl ks _ _ bw_ br sb _ hn20 HWL.out (hrio1.below (below_alloc _ _)) (((below_alloc w1 _).cell (p := ⟨bw_, 0, none⟩) HTK.out.1.1).trans HTK.out.2.1) (((below_alloc w1 _).cell (p := ⟨br, 0, none⟩) HTK.out.1.2.1).trans HTK.out.2.2.1) (fun i hi => ((below_alloc w1 _).cell (p := ⟨sb, i, none⟩) HTK.out.1.2.2).trans (HTK.out.2.2.2 i hi))).mono ?_
      rintro e w2 ⟨rfl, hbe2⟩
      have hb2 : Below (w1.alloc (.cells #[Value.func (Fn.func 149) #[] #[Value.pointer (some ⟨bw_, 0, none⟩), Value.pointer (some ⟨br, 0, none⟩)], Value.func (Fn.func 86) #[] #[]] 70)).heap.size (w1.alloc (.cells #[Value.func (Fn.func 149) #[] #[Value.pointer (some ⟨bw_, 0, none⟩), Value.pointer (some ⟨br, 0, none⟩)], Value.func (Fn.func 86) #[] #[]] 70)) w2 := by rw [hbe2]; exact Below.refl _ _
      clear hbe2
      generalize Mp.takeK rs wsl ks = gr at *
      obtain ⟨hc2, hf2⟩ := bcell hb2
      have hz2 : w1.heap.size < w2.heap.size := by have := hb2.size; simp at this; omega
      have hy2 : w.heap.size < w2.heap.size := by omega
      have bw1a : Below w.heap.size w (w1.alloc (.cells #[Value.func (Fn.func 149) #[] #[Value.pointer (some ⟨bw_, 0, none⟩), Value.pointer (some ⟨br, 0, none⟩)], Value.func (Fn.func 86) #[] #[]] 70)) := bw1.alloc bw1.size _
      have bw2 : Below w.heap.size w w2 := bw1a.trans (hb2.mono bw1a.size)
      have hnn : nb = false ∨ (nb = true ∧ ((3 : Int) != 6) = false) := by cases nb <;> simp_all
      rcases hnn with rfl | ⟨rfl, hn6⟩
      all_goals
        go_wp2_with (go_at_call 86; fail)
        refine (hW.out _ bw2).mono ?_
        rintro e w3 ⟨k, n, s, c, hR, rfl, hb3⟩
        have HRV : Hid (R (tV k n s c)) := hR
        clear hR
        simp only [tV]
        obtain ⟨hc3, hf3⟩ := bcell hb3
        have hz3 : w1.heap.size < w3.heap.size := by have := hb3.size; omega
        have hy3 : w.heap.size < w3.heap.size := by omega
        have bw3 : Below w.heap.size w w3 := bw2.trans (hb3.mono bw2.size)
        have b12 : Below wr.heap.size wr w2 := (hb1.alloc hb1.size _).trans (hb2.mono (by have := hb1.size; simp; omega))
        have b13 : Below wr.heap.size wr w3 := b12.trans (hb3.mono b12.size)
        have p0 := (b13.cell (p := ⟨w.heap.size, 0, none⟩) hwr).trans q0
        have p1 := (b13.cell (p := ⟨w.heap.size, 1, none⟩) hwr).trans q1
        have p2 := (b13.cell (p := ⟨w.heap.size, 2, none⟩) hwr).trans q2
        have j0 := (b13.frozen (p := ⟨w.heap.size, 0, none⟩) hwr).trans f0
        have j1 := (b13.frozen (p := ⟨w.heap.size, 1, none⟩) hwr).trans f1
        have j2 := (b13.frozen (p := ⟨w.heap.size, 2, none⟩) hwr).trans f2
        clear b12 b13 hc1 hf1 hc2 hf2 hc3 hf3
        go_wp2
        refine bodyPost_ret (v := tV k n s c) (by simp [results, Tryz.results20, go_sem, tV, p0, p1, p2, j0, j1, j2, hy3]) rfl ⟨_, HRV.out, rfl, ?_⟩
        exact ((bw3.setCell (Nat.le_refl _) _).setCell (Nat.le_refl _) _).setCell (Nat.le_refl _) _
end Go.Proofs.YtdcdoeolaongkaaGreatDoor.Ca
namespace Go.Proofs.YtdcdoeolaongkaaGreatDoor.Ca
open Go.MapKept Go.ChangeMaps
open Go.ChangeShapes Go.WideShapes Go.ChangeAt Go.RowKit Go.Shelf
open Go.Proofs.YtdcdoeolaongkaaGreatDoor.Rd
set_option linter.unusedVariables false
set_option linter.unusedSimpArgs false
set_option maxRecDepth 100000
set_option maxHeartbeats 16000000 in
theorem callI_4 (ar : List TA) (a : Option Addr) (cap : Nat) (w : World) (h8 : ar.length ≤ 8) (hr : RVO w (.slice a ar.length cap) ar) (hsz : ∀ t ∈ ar, t.2.2.size ≤ 1048576) (hT : Tabs w) (hv : Hid (∀ t ∈ ar, vok t.1 t.2.1 t.2.2 = true)) (hg : Hid ((Mp.gvK 4 (kindsA ar) == -1) = false)) (hnu : Hid ((nullsA ar && (4 : Int) != 6) = false)) (R : Value → Prop)
    (hW : Hid (∀ W, Below w.heap.size w W → Calls Tryz.prog 87 #[.slice a ar.length cap] W fun e w' => ∃ k n s c, R (tV k n s c) ∧ e = .returned (tV k n s c) ∧ Below W.heap.size W w')) :
    Calls Tryz.prog 20 #[.int .i64 4, .slice a ar.length cap] w fun e w' => ∃ V, R V ∧ e = .returned V ∧ Below w.heap.size w w' := by
  obtain ⟨i0, hi, hz0, hz1, hz2⟩ := info_parts info3
  have hrr := hr
  obtain ⟨a', cap', hsl, hcells⟩ := hr
  simp only [Value.slice.injEq] at hsl
  obtain ⟨rfl, _, rfl⟩ := hsl
  have h8i : ¬ (8 : Int) < ar.length := by omega
  have bw0 := below_alloc w (.cells #[.int .i64 0, .int .i64 0, .string ⟨#[]⟩] 29)
  have HRR : Hid (RVO w (.slice a ar.length cap) ar) := hrr
  clear hrr
  go_enter Tryz.func20, Tryz.ntmps20
  go_wp2
  generalize hW0 : w.alloc (.cells #[.int .i64 0, .int .i64 0, .string ⟨#[]⟩] 29) = W0 at *
  have hs0 : w.heap.size < W0.heap.size := by rw [← hW0]; simp
  have r0 : W0.cell? ⟨w.heap.size, 0, none⟩ = some (.int .i64 0) ∧ W0.cell? ⟨w.heap.size, 1, none⟩ = some (.int .i64 0) ∧ W0.cell? ⟨w.heap.size, 2, none⟩ = some (.string ⟨#[]⟩) ∧ W0.frozen? ⟨w.heap.size, 0, none⟩ = false ∧ W0.frozen? ⟨w.heap.size, 1, none⟩ = false ∧ W0.frozen? ⟨w.heap.size, 2, none⟩ = false := by
    rw [← hW0]; simp [go_sem]
  have HR0 : Hid _ := r0
  have HB0 : Hid (Below w.heap.size w W0) := bw0
  clear r0 bw0 hW0
  go_loopw [6, 7, 9, 18] (fun kv nb _ i wr => ∃ k : Nat, k ≤ ar.length ∧ i = .int .i64 k ∧ nb = .bool (nullsA (ar.take k)) ∧ OwnK W0.heap.size kv k (kindsA (ar.take k)) wr ∧ Below W0.heap.size W0 wr) (fun _ _ _ i _ => ar.length - (intOf i).toNat)
  case atStart => exact ⟨0, Nat.zero_le _, rfl, rfl, (⟨rfl, .inl ⟨rfl, rfl⟩⟩ : W0.ownsRow W0.heap.size 3 1 (.slice none 0 0) 0 []), Below.refl _ _⟩
  case round =>
    obtain ⟨k, hk, rfl, rfl, hoK, hbel⟩ := hrel
    have ho : wr.ownsRow W0.heap.size 3 1 _ k ((kindsA (ar.take k)).map (Value.int .i64)) := hoK
    clear hoK
    have hbs := hbel.size
    by_cases hlt : k < ar.length
    · have hlti : (k : Int) < ar.length := by omega
      obtain ⟨g, o, rfl, hgg, hgc⟩ := hcells (by omega)
      have bww : Below w.heap.size w wr := HB0.out.trans (hbel.mono (by omega))
      obtain ⟨c0, c1, c2⟩ := hgc k hlt
      have d0 := (bww.cell (p := ⟨g, o + k * 3, none⟩) hgg).trans c0
      have d1 := (bww.cell (p := ⟨g, o + k * 3 + 1, none⟩) hgg).trans c1
      have d2 := (bww.cell (p := ⟨g, o + k * 3 + 2, none⟩) hgg).trans c2
      have hsx := hsz ar[k] (List.getElem_mem hlt)
      have hvx := hv.out ar[k] (List.getElem_mem hlt)
      have HTK : Hid (ar.take (k + 1) = ar.take k ++ [ar[k]]) := take_snoc hlt
      clear c0 c1 c2 hgc hcells hsz
      generalize ar[k] = t at *
      obtain ⟨tk, tn, ts⟩ := t
      simp only at d0 d1 d2 hsx hvx
      have HVX : Hid (vok tk tn ts = true) := hvx
      clear hvx
      have HNB : Hid (nullsA (ar.take (k + 1)) = (nullsA (ar.take k) || tk == 0)) := (by rw [HTK.out, nullsA_snoc] : nullsA (ar.take (k + 1)) = (nullsA (ar.take k) || tk == 0))
      generalize nullsA (ar.take k) = nb at *
      have cs : nb = true ∨ (nb = false ∧ (tk == 0) = true) ∨ (nb = false ∧ (tk == 0) = false) := by cases nb <;> cases (tk == 0) <;> simp
      have hVX := fun W (h : Below w.heap.size w W) => vok_impl tk tn ts W hsx (tabs_below hT h)
      rw [HVX.out] at hVX
      rcases cs with rfl | ⟨rfl, ez⟩ | ⟨rfl, ez⟩
      all_goals
        go_wp2_with (first | (go_at_call 43; refine (hVX _ (bww.alloc bww.size _)).mono ?_; rintro e w1 ⟨rfl, hb1⟩; obtain ⟨hc1, hf1⟩ := bcell hb1; have hz1w : wr.heap.size < w1.heap.size := (by have := hb1.size; simp at this; omega); have bw1 : Below W0.heap.size W0 w1 := (hbel.alloc hbs _).trans (hb1.mono (by simp; omega)); have ho1 := own_below (ho.alloc _) hb1; have e0 : w1.cell? ⟨wr.heap.size, 0, none⟩ = some (.int .i64 tk) := (hc1 wr.heap.size 0 (by simp)).trans (by simp [go_sem])) | (at_builtin; refine wpList_append_own _ rfl (.tmp 26) (.tmp 29) 22 rfl W0.heap.size 3 i0 (.int .i64 0) 1 8 Tryz.underlying22 hi hz0 hz1 hz2 rfl (by decide) _ k ((kindsA (ar.take k)).map (Value.int .i64)) rfl (ho1.alloc _) ⟨w1.heap.size, 0, none⟩ 1 1 [.int .i64 tk] rfl rfl (cell_one_new _ _ _) (by intro u hu; simp at hu; subst hu; rfl) (by unfold maxLen; omega) (by omega) (by have := bw1.size; simp; omega) ?_; intro v' w2 hown' hgrow _; have bw2 : Below W0.heap.size W0 w2 := (bw1.alloc bw1.size _).grown hgrow (by have := bw1.size; simp; omega) (fun j hj => (ho1.lt j hj).1); have e2 : w2.cell? ⟨wr.heap.size, 0, none⟩ = some (.int .i64 tk) := (cell_grown hgrow (by simp; omega) (fun e => by have := (ho.lt wr.heap.size e.symm).2; omega)).trans (((below_alloc w1 _).cell (p := ⟨wr.heap.size, 0, none⟩) hz1w).trans e0); have HOW : Hid (OwnK W0.heap.size v' (k + 1) (kindsA (ar.take (k + 1))) w2) := OwnK.of HTK.out hown'; clear hown' hgrow))
        go_roundw
        case rel => exact ⟨k + 1, by omega, by go_num, by rw [HNB.out]; first | (rw [ez]; rfl) | rfl, HOW.out, bw2⟩
        case measure => simp [intOf]; omega
    · have hkn : k = ar.length := by omega
      subst hkn
      have hlti : ¬ (ar.length : Int) < ar.length := by omega
      rw [List.take_length] at ho
      rw [List.take_length]
      have hnu' := hnu.out
      generalize nullsA ar = nb at *
      have hkl : (kindsA ar).length = ar.length := by simp [kindsA]
      rw [← hkl] at ho
      obtain ⟨ka, kc, rfl, hrio⟩ := own_rio ho
      clear ho
      generalize hks : kindsA ar = ks at *
      have HKL : Hid (ks.length = ar.length) := hkl
      have bww : Below w.heap.size w wr := HB0.out.trans (hbel.mono (by omega))
      obtain ⟨q0, q1, q2, f0, f1, f2⟩ := HR0.out
      have q0 := (hbel.cell (p := ⟨w.heap.size, 0, none⟩) (by show w.heap.size < _; omega)).trans q0
      have q1 := (hbel.cell (p := ⟨w.heap.size, 1, none⟩) (by show w.heap.size < _; omega)).trans q1
      have q2 := (hbel.cell (p := ⟨w.heap.size, 2, none⟩) (by show w.heap.size < _; omega)).trans q2
      have f0 := (hbel.frozen (p := ⟨w.heap.size, 0, none⟩) (by show w.heap.size < _; omega)).trans f0
      have f1 := (hbel.frozen (p := ⟨w.heap.size, 1, none⟩) (by show w.heap.size < _; omega)).trans f1
      have f2 := (hbel.frozen (p := ⟨w.heap.size, 2, none⟩) (by show w.heap.size < _; omega)).trans f2
      have hwr : w.heap.size < wr.heap.size := by omega
      have hn20 : ks.length ≤ 1048576 := by rw [hkl]; omega
      clear hkl hks hbel HR0 HB0
      go_wp2_with (go_at_call 39; fail)
      refine (Mp.table_any _).mono ?_
      rintro e w1 ⟨rfl, hst⟩
      obtain ⟨l, hm, hks, hgood, hb1⟩ := hst
      have hrun := hm.look Tryz.underlying72 Tryz.underlying3 (Tryz.zeroValue70 _) 4
      obtain ⟨v, hv1, hv2⟩ := Mp.lookL_some (l := l) (k := 4) (by rw [hks]; decide)
      obtain ⟨g, hvg, hG⟩ := hgood _ hv2
      replace hG : Mp.GoodG w1 wr.heap.size 4 g := hG
      simp only at hvg
      rw [show Mp.workN 4 = 87 from rfl] at hvg
      subst hvg
      rw [hv1] at hrun
      simp only [Option.getD_some, Option.isSome_some] at hrun
      obtain ⟨hc1, hf1⟩ := bcell hb1
      have hz1 : w.heap.size < w1.heap.size := by have := hb1.size; omega
      have bw1 : Below w.heap.size w w1 := bww.trans (hb1.mono bww.size)
      have hrio1 := hrio.below hb1
      clear hgood hks hm hv1 hv2 hrio
      have hT2 : Mp.Taker w1 wr.heap.size g (Mp.resK 4) (Mp.wantK 4) := hG
      have HG : Hid (Mp.gvK 4 ks = Mp.takeK (Mp.resK 4) (Mp.wantK 4) ks) := rfl
      have hgne : (Mp.takeK (Mp.resK 4) (Mp.wantK 4) ks == -1) = false := hg.out
      have HWL : Hid ((Mp.wantK 4).length ≤ 100) := (by decide : (Mp.wantK 4).length ≤ 100)
      clear hG
      generalize Mp.resK 4 = rs at *
      generalize Mp.wantK 4 = wsl at *
      obtain ⟨bw_, br, sb, rfl, _, ⟨l1, l2, l3⟩, t1, t2, t3⟩ := hT2
      have HTK : Hid ((bw_ < w1.heap.size ∧ br < w1.heap.size ∧ sb < w1.heap.size) ∧ w1.cell? ⟨bw_, 0, none⟩ = some (.slice (some ⟨sb, 0, none⟩) wsl.length wsl.length) ∧ w1.cell? ⟨br, 0, none⟩ = some (.int .i64 rs) ∧ ∀ i (h : i < wsl.length), w1.cell? ⟨sb, i, none⟩ = some (.int .i64 wsl[i])) := ⟨⟨l1, l2, l3⟩, t1, t2, t3⟩
      clear t1 t2 t3 l1 l2 l3
      go_wp2_with (go_at_call 149; fail)
      refine (Mp.taking1_any 0 rs wsl ks _ _ bw_ br sb _ hn20 HWL.out (hrio1.below (below_alloc _ _)) (((below_alloc w1 _).cell (p := ⟨bw_, 0, none⟩) HTK.out.1.1).trans HTK.out.2.1) (((below_alloc w1 _).cell (p := ⟨br, 0, none⟩) HTK.out.1.2.1).trans HTK.out.2.2.1) (fun i hi => ((below_alloc w1 _).cell (p := ⟨sb, i, none⟩) HTK.out.1.2.2).trans (HTK.out.2.2.2 i hi))).mono ?_
      rintro e w2 ⟨rfl, hbe2⟩
      have hb2 : Below (w1.alloc (.cells #[Value.func (Fn.func 149) #[] #[Value.pointer (some ⟨bw_, 0, none⟩), Value.pointer (some ⟨br, 0, none⟩)], Value.func (Fn.func 87) #[] #[]] 70)).heap.size (w1.alloc (.cells #[Value.func (Fn.func 149) #[] #[Value.pointer (some ⟨bw_, 0, none⟩), Value.pointer (some ⟨br, 0, none⟩)], Value.func (Fn.func 87) #[] #[]] 70)) w2 := by rw [hbe2]; exact Below.refl _ _
      clear hbe2
      generalize Mp.takeK rs wsl ks = gr at *
      obtain ⟨hc2, hf2⟩ := bcell hb2
      have hz2 : w1.heap.size < w2.heap.size := by have := hb2.size; simp at this; omega
      have hy2 : w.heap.size < w2.heap.size := by omega
      have bw1a : Below w.heap.size w (w1.alloc (.cells #[Value.func (Fn.func 149) #[] #[Value.pointer (some ⟨bw_, 0, none⟩), Value.pointer (some ⟨br, 0, none⟩)], Value.func (Fn.func 87) #[] #[]] 70)) := bw1.alloc bw1.size _
      have bw2 : Below w.heap.size w w2 := bw1a.trans (hb2.mono bw1a.size)
      have hnn : nb = false ∨ (nb = true ∧ ((4 : Int) != 6) = false) := by cases nb <;> simp_all
      rcases hnn with rfl | ⟨rfl, hn6⟩
      all_goals
        go_wp2_with (go_at_call 87; fail)
        refine (hW.out _ bw2).mono ?_
        rintro e w3 ⟨k, n, s, c, hR, rfl, hb3⟩
        have HRV : Hid (R (tV k n s c)) := hR
        clear hR
        simp only [tV]
        obtain ⟨hc3, hf3⟩ := bcell hb3
        have hz3 : w1.heap.size < w3.heap.size := by have := hb3.size; omega
        have hy3 : w.heap.size < w3.heap.size := by omega
        have bw3 : Below w.heap.size w w3 := bw2.trans (hb3.mono bw2.size)
        have b12 : Below wr.heap.size wr w2 := (hb1.alloc hb1.size _).trans (hb2.mono (by have := hb1.size; simp; omega))
        have b13 : Below wr.heap.size wr w3 := b12.trans (hb3.mono b12.size)
        have p0 := (b13.cell (p := ⟨w.heap.size, 0, none⟩) hwr).trans q0
        have p1 := (b13.cell (p := ⟨w.heap.size, 1, none⟩) hwr).trans q1
        have p2 := (b13.cell (p := ⟨w.heap.size, 2, none⟩) hwr).trans q2
        have j0 := (b13.frozen (p := ⟨w.heap.size, 0, none⟩) hwr).trans f0
        have j1 := (b13.frozen (p := ⟨w.heap.size, 1, none⟩) hwr).trans f1
        have j2 := (b13.frozen (p := ⟨w.heap.size, 2, none⟩) hwr).trans f2
        clear b12 b13 hc1 hf1 hc2 hf2 hc3 hf3
        go_wp2
        refine bodyPost_ret (v := tV k n s c) (by simp [results, Tryz.results20, go_sem, tV, p0, p1, p2, j0, j1, j2, hy3]) rfl ⟨_, HRV.out, rfl, ?_⟩
        exact ((bw3.setCell (Nat.le_refl _) _).setCell (Nat.le_refl _) _).setCell (Nat.le_refl _) _
end Go.Proofs.YtdcdoeolaongkaaGreatDoor.Ca
namespace Go.Proofs.YtdcdoeolaongkaaGreatDoor.Ca
open Go.MapKept Go.ChangeMaps
open Go.ChangeShapes Go.WideShapes Go.ChangeAt Go.RowKit Go.Shelf
open Go.Proofs.YtdcdoeolaongkaaGreatDoor.Rd
set_option linter.unusedVariables false
set_option linter.unusedSimpArgs false
set_option maxRecDepth 100000
set_option maxHeartbeats 16000000 in
theorem callI_5 (ar : List TA) (a : Option Addr) (cap : Nat) (w : World) (h8 : ar.length ≤ 8) (hr : RVO w (.slice a ar.length cap) ar) (hsz : ∀ t ∈ ar, t.2.2.size ≤ 1048576) (hT : Tabs w) (hv : Hid (∀ t ∈ ar, vok t.1 t.2.1 t.2.2 = true)) (hg : Hid ((Mp.gvK 5 (kindsA ar) == -1) = false)) (hnu : Hid ((nullsA ar && (5 : Int) != 6) = false)) (R : Value → Prop)
    (hW : Hid (∀ W, Below w.heap.size w W → Calls Tryz.prog 88 #[.slice a ar.length cap] W fun e w' => ∃ k n s c, R (tV k n s c) ∧ e = .returned (tV k n s c) ∧ Below W.heap.size W w')) :
    Calls Tryz.prog 20 #[.int .i64 5, .slice a ar.length cap] w fun e w' => ∃ V, R V ∧ e = .returned V ∧ Below w.heap.size w w' := by
  obtain ⟨i0, hi, hz0, hz1, hz2⟩ := info_parts info3
  have hrr := hr
  obtain ⟨a', cap', hsl, hcells⟩ := hr
  simp only [Value.slice.injEq] at hsl
  obtain ⟨rfl, _, rfl⟩ := hsl
  have h8i : ¬ (8 : Int) < ar.length := by omega
  have bw0 := below_alloc w (.cells #[.int .i64 0, .int .i64 0, .string ⟨#[]⟩] 29)
  have HRR : Hid (RVO w (.slice a ar.length cap) ar) := hrr
  clear hrr
  go_enter Tryz.func20, Tryz.ntmps20
  go_wp2
  generalize hW0 : w.alloc (.cells #[.int .i64 0, .int .i64 0, .string ⟨#[]⟩] 29) = W0 at *
  have hs0 : w.heap.size < W0.heap.size := by rw [← hW0]; simp
  have r0 : W0.cell? ⟨w.heap.size, 0, none⟩ = some (.int .i64 0) ∧ W0.cell? ⟨w.heap.size, 1, none⟩ = some (.int .i64 0) ∧ W0.cell? ⟨w.heap.size, 2, none⟩ = some (.string ⟨#[]⟩) ∧ W0.frozen? ⟨w.heap.size, 0, none⟩ = false ∧ W0.frozen? ⟨w.heap.size, 1, none⟩ = false ∧ W0.frozen? ⟨w.heap.size, 2, none⟩ = false := by
    rw [← hW0]; simp [go_sem]
  have HR0 : Hid _ := r0
  have HB0 : Hid (Below w.heap.size w W0) := bw0
  clear r0 bw0 hW0
  go_loopw [6, 7, 9, 18] (fun kv nb _ i wr => ∃ k : Nat, k ≤ ar.length ∧ i = .int .i64 k ∧ nb = .bool (nullsA (ar.take k)) ∧ OwnK W0.heap.size kv k (kindsA (ar.take k)) wr ∧ Below W0.heap.size W0 wr) (fun _ _ _ i _ => ar.length - (intOf i).toNat)
  case atStart => exact ⟨0, Nat.zero_le _, rfl, rfl, (⟨rfl, .inl ⟨rfl, rfl⟩⟩ : W0.ownsRow W0.heap.size 3 1 (.slice none 0 0) 0 []), Below.refl _ _⟩
  case round =>
    obtain ⟨k, hk, rfl, rfl, hoK, hbel⟩ := hrel
    have ho : wr.ownsRow W0.heap.size 3 1 _ k ((kindsA (ar.take k)).map (Value.int .i64)) := hoK
    clear hoK
    have hbs := hbel.size
    by_cases hlt : k < ar.length
    · have hlti : (k : Int) < ar.length := by omega
      obtain ⟨g, o, rfl, hgg, hgc⟩ := hcells (by omega)
      have bww : Below w.heap.size w wr := HB0.out.trans (hbel.mono (by omega))
      obtain ⟨c0, c1, c2⟩ := hgc k hlt
      have d0 := (bww.cell (p := ⟨g, o + k * 3, none⟩) hgg).trans c0
      have d1 := (bww.cell (p := ⟨g, o + k * 3 + 1, none⟩) hgg).trans c1
      have d2 := (bww.cell (p := ⟨g, o + k * 3 + 2, none⟩) hgg).trans c2
      have hsx := hsz ar[k] (List.getElem_mem hlt)
      have hvx := hv.out ar[k] (List.getElem_mem hlt)
      have HTK : Hid (ar.take (k + 1) = ar.take k ++ [ar[k]]) := take_snoc hlt
      clear c0 c1 c2 hgc hcells hsz
      generalize ar[k] = t at *
      obtain ⟨tk, tn, ts⟩ := t
      simp only at d0 d1 d2 hsx hvx
      have HVX : Hid (vok tk tn ts = true) := hvx
      clear hvx
      have HNB : Hid (nullsA (ar.take (k + 1)) = (nullsA (ar.take k) || tk == 0)) := (by rw [HTK.out, nullsA_snoc] : nullsA (ar.take (k + 1)) = (nullsA (ar.take k) || tk == 0))
      generalize nullsA (ar.take k) = nb at *
      have cs : nb = true ∨ (nb = false ∧ (tk == 0) = true) ∨ (nb = false ∧ (tk == 0) = false) := by cases nb <;> cases (tk == 0) <;> simp
      have hVX := fun W (h : Below w.heap.size w W) => vok_impl tk tn ts W hsx (tabs_below hT h)
      rw [HVX.out] at hVX
      rcases cs with rfl | ⟨rfl, ez⟩ | ⟨rfl, ez⟩
      all_goals
        go_wp2_with (first | (go_at_call 43; refine (hVX _ (bww.alloc bww.size _)).mono ?_; rintro e w1 ⟨rfl, hb1⟩; obtain ⟨hc1, hf1⟩ := bcell hb1; have hz1w : wr.heap.size < w1.heap.size := (by have := hb1.size; simp at this; omega); have bw1 : Below W0.heap.size W0 w1 := (hbel.alloc hbs _).trans (hb1.mono (by simp; omega)); have ho1 := own_below (ho.alloc _) hb1; have e0 : w1.cell? ⟨wr.heap.size, 0, none⟩ = some (.int .i64 tk) := (hc1 wr.heap.size 0 (by simp)).trans (by simp [go_sem])) | (at_builtin; refine wpList_append_own _ rfl (.tmp 26) (.tmp 29) 22 rfl W0.heap.size 3 i0 (.int .i64 0) 1 8 Tryz.underlying22 hi hz0 hz1 hz2 rfl (by decide) _ k ((kindsA (ar.take k)).map (Value.int .i64)) rfl (ho1.alloc _) ⟨w1.heap.size, 0, none⟩ 1 1 [.int .i64 tk] rfl rfl (cell_one_new _ _ _) (by intro u hu; simp at hu; subst hu; rfl) (by unfold maxLen; omega) (by omega) (by have := bw1.size; simp; omega) ?_; intro v' w2 hown' hgrow _; have bw2 : Below W0.heap.size W0 w2 := (bw1.alloc bw1.size _).grown hgrow (by have := bw1.size; simp; omega) (fun j hj => (ho1.lt j hj).1); have e2 : w2.cell? ⟨wr.heap.size, 0, none⟩ = some (.int .i64 tk) := (cell_grown hgrow (by simp; omega) (fun e => by have := (ho.lt wr.heap.size e.symm).2; omega)).trans (((below_alloc w1 _).cell (p := ⟨wr.heap.size, 0, none⟩) hz1w).trans e0); have HOW : Hid (OwnK W0.heap.size v' (k + 1) (kindsA (ar.take (k + 1))) w2) := OwnK.of HTK.out hown'; clear hown' hgrow))
        go_roundw
        case rel => exact ⟨k + 1, by omega, by go_num, by rw [HNB.out]; first | (rw [ez]; rfl) | rfl, HOW.out, bw2⟩
        case measure => simp [intOf]; omega
    · have hkn : k = ar.length := by omega
      subst hkn
      have hlti : ¬ (ar.length : Int) < ar.length := by omega
      rw [List.take_length] at ho
      rw [List.take_length]
      have hnu' := hnu.out
      generalize nullsA ar = nb at *
      have hkl : (kindsA ar).length = ar.length := by simp [kindsA]
      rw [← hkl] at ho
      obtain ⟨ka, kc, rfl, hrio⟩ := own_rio ho
      clear ho
      generalize hks : kindsA ar = ks at *
      have HKL : Hid (ks.length = ar.length) := hkl
      have bww : Below w.heap.size w wr := HB0.out.trans (hbel.mono (by omega))
      obtain ⟨q0, q1, q2, f0, f1, f2⟩ := HR0.out
      have q0 := (hbel.cell (p := ⟨w.heap.size, 0, none⟩) (by show w.heap.size < _; omega)).trans q0
      have q1 := (hbel.cell (p := ⟨w.heap.size, 1, none⟩) (by show w.heap.size < _; omega)).trans q1
      have q2 := (hbel.cell (p := ⟨w.heap.size, 2, none⟩) (by show w.heap.size < _; omega)).trans q2
      have f0 := (hbel.frozen (p := ⟨w.heap.size, 0, none⟩) (by show w.heap.size < _; omega)).trans f0
      have f1 := (hbel.frozen (p := ⟨w.heap.size, 1, none⟩) (by show w.heap.size < _; omega)).trans f1
      have f2 := (hbel.frozen (p := ⟨w.heap.size, 2, none⟩) (by show w.heap.size < _; omega)).trans f2
      have hwr : w.heap.size < wr.heap.size := by omega
      have hn20 : ks.length ≤ 1048576 := by rw [hkl]; omega
      clear hkl hks hbel HR0 HB0
      go_wp2_with (go_at_call 39; fail)
      refine (Mp.table_any _).mono ?_
      rintro e w1 ⟨rfl, hst⟩
      obtain ⟨l, hm, hks, hgood, hb1⟩ := hst
      have hrun := hm.look Tryz.underlying72 Tryz.underlying3 (Tryz.zeroValue70 _) 5
      obtain ⟨v, hv1, hv2⟩ := Mp.lookL_some (l := l) (k := 5) (by rw [hks]; decide)
      obtain ⟨g, hvg, hG⟩ := hgood _ hv2
      replace hG : Mp.GoodG w1 wr.heap.size 5 g := hG
      simp only at hvg
      rw [show Mp.workN 5 = 88 from rfl] at hvg
      subst hvg
      rw [hv1] at hrun
      simp only [Option.getD_some, Option.isSome_some] at hrun
      obtain ⟨hc1, hf1⟩ := bcell hb1
      have hz1 : w.heap.size < w1.heap.size := by have := hb1.size; omega
      have bw1 : Below w.heap.size w w1 := bww.trans (hb1.mono bww.size)
      have hrio1 := hrio.below hb1
      clear hgood hks hm hv1 hv2 hrio
      have hT2 : Mp.Taker w1 wr.heap.size g (Mp.resK 5) (Mp.wantK 5) := hG
      have HG : Hid (Mp.gvK 5 ks = Mp.takeK (Mp.resK 5) (Mp.wantK 5) ks) := rfl
      have hgne : (Mp.takeK (Mp.resK 5) (Mp.wantK 5) ks == -1) = false := hg.out
      have HWL : Hid ((Mp.wantK 5).length ≤ 100) := (by decide : (Mp.wantK 5).length ≤ 100)
      clear hG
      generalize Mp.resK 5 = rs at *
      generalize Mp.wantK 5 = wsl at *
      obtain ⟨bw_, br, sb, rfl, _, ⟨l1, l2, l3⟩, t1, t2, t3⟩ := hT2
      have HTK : Hid ((bw_ < w1.heap.size ∧ br < w1.heap.size ∧ sb < w1.heap.size) ∧ w1.cell? ⟨bw_, 0, none⟩ = some (.slice (some ⟨sb, 0, none⟩) wsl.length wsl.length) ∧ w1.cell? ⟨br, 0, none⟩ = some (.int .i64 rs) ∧ ∀ i (h : i < wsl.length), w1.cell? ⟨sb, i, none⟩ = some (.int .i64 wsl[i])) := ⟨⟨l1, l2, l3⟩, t1, t2, t3⟩
      clear t1 t2 t3 l1 l2 l3
      go_wp2_with (go_at_call 149; fail)
      refine (Mp.taking1_any 0 rs wsl ks _ _ bw_ br sb _ hn20 HWL.out (hrio1.below (below_alloc _ _)) (((below_alloc w1 _).cell (p := ⟨bw_, 0, none⟩) HTK.out.1.1).trans HTK.out.2.1) (((below_alloc w1 _).cell (p := ⟨br, 0, none⟩) HTK.out.1.2.1).trans HTK.out.2.2.1) (fun i hi => ((below_alloc w1 _).cell (p := ⟨sb, i, none⟩) HTK.out.1.2.2).trans (HTK.out.2.2.2 i hi))).mono ?_
      rintro e w2 ⟨rfl, hbe2⟩
      have hb2 : Below (w1.alloc (.cells #[Value.func (Fn.func 149) #[] #[Value.pointer (some ⟨bw_, 0, none⟩), Value.pointer (some ⟨br, 0, none⟩)], Value.func (Fn.func 88) #[] #[]] 70)).heap.size (w1.alloc (.cells #[Value.func (Fn.func 149) #[] #[Value.pointer (some ⟨bw_, 0, none⟩), Value.pointer (some ⟨br, 0, none⟩)], Value.func (Fn.func 88) #[] #[]] 70)) w2 := by rw [hbe2]; exact Below.refl _ _
      clear hbe2
      generalize Mp.takeK rs wsl ks = gr at *
      obtain ⟨hc2, hf2⟩ := bcell hb2
      have hz2 : w1.heap.size < w2.heap.size := by have := hb2.size; simp at this; omega
      have hy2 : w.heap.size < w2.heap.size := by omega
      have bw1a : Below w.heap.size w (w1.alloc (.cells #[Value.func (Fn.func 149) #[] #[Value.pointer (some ⟨bw_, 0, none⟩), Value.pointer (some ⟨br, 0, none⟩)], Value.func (Fn.func 88) #[] #[]] 70)) := bw1.alloc bw1.size _
      have bw2 : Below w.heap.size w w2 := bw1a.trans (hb2.mono bw1a.size)
      have hnn : nb = false ∨ (nb = true ∧ ((5 : Int) != 6) = false) := by cases nb <;> simp_all
      rcases hnn with rfl | ⟨rfl, hn6⟩
      all_goals
        go_wp2_with (go_at_call 88; fail)
        refine (hW.out _ bw2).mono ?_
        rintro e w3 ⟨k, n, s, c, hR, rfl, hb3⟩
        have HRV : Hid (R (tV k n s c)) := hR
        clear hR
        simp only [tV]
        obtain ⟨hc3, hf3⟩ := bcell hb3
        have hz3 : w1.heap.size < w3.heap.size := by have := hb3.size; omega
        have hy3 : w.heap.size < w3.heap.size := by omega
        have bw3 : Below w.heap.size w w3 := bw2.trans (hb3.mono bw2.size)
        have b12 : Below wr.heap.size wr w2 := (hb1.alloc hb1.size _).trans (hb2.mono (by have := hb1.size; simp; omega))
        have b13 : Below wr.heap.size wr w3 := b12.trans (hb3.mono b12.size)
        have p0 := (b13.cell (p := ⟨w.heap.size, 0, none⟩) hwr).trans q0
        have p1 := (b13.cell (p := ⟨w.heap.size, 1, none⟩) hwr).trans q1
        have p2 := (b13.cell (p := ⟨w.heap.size, 2, none⟩) hwr).trans q2
        have j0 := (b13.frozen (p := ⟨w.heap.size, 0, none⟩) hwr).trans f0
        have j1 := (b13.frozen (p := ⟨w.heap.size, 1, none⟩) hwr).trans f1
        have j2 := (b13.frozen (p := ⟨w.heap.size, 2, none⟩) hwr).trans f2
        clear b12 b13 hc1 hf1 hc2 hf2 hc3 hf3
        go_wp2
        refine bodyPost_ret (v := tV k n s c) (by simp [results, Tryz.results20, go_sem, tV, p0, p1, p2, j0, j1, j2, hy3]) rfl ⟨_, HRV.out, rfl, ?_⟩
        exact ((bw3.setCell (Nat.le_refl _) _).setCell (Nat.le_refl _) _).setCell (Nat.le_refl _) _
end Go.Proofs.YtdcdoeolaongkaaGreatDoor.Ca
namespace Go.Proofs.YtdcdoeolaongkaaGreatDoor.Ca
open Go.MapKept Go.ChangeMaps
open Go.ChangeShapes Go.WideShapes Go.ChangeAt Go.RowKit Go.Shelf
open Go.Proofs.YtdcdoeolaongkaaGreatDoor.Rd
set_option linter.unusedVariables false
set_option linter.unusedSimpArgs false
set_option maxRecDepth 100000
set_option maxHeartbeats 16000000 in
theorem callI_6 (ar : List TA) (a : Option Addr) (cap : Nat) (w : World) (h8 : ar.length ≤ 8) (hr : RVO w (.slice a ar.length cap) ar) (hsz : ∀ t ∈ ar, t.2.2.size ≤ 1048576) (hT : Tabs w) (hv : Hid (∀ t ∈ ar, vok t.1 t.2.1 t.2.2 = true)) (hg : Hid ((Mp.gvK 6 (kindsA ar) == -1) = false)) (hnu : Hid ((nullsA ar && (6 : Int) != 6) = false)) (R : Value → Prop)
    (hW : Hid (∀ W, Below w.heap.size w W → Calls Tryz.prog 90 #[.slice a ar.length cap] W fun e w' => ∃ k n s c, R (tV k n s c) ∧ e = .returned (tV k n s c) ∧ Below W.heap.size W w')) :
    Calls Tryz.prog 20 #[.int .i64 6, .slice a ar.length cap] w fun e w' => ∃ V, R V ∧ e = .returned V ∧ Below w.heap.size w w' := by
  obtain ⟨i0, hi, hz0, hz1, hz2⟩ := info_parts info3
  have hrr := hr
  obtain ⟨a', cap', hsl, hcells⟩ := hr
  simp only [Value.slice.injEq] at hsl
  obtain ⟨rfl, _, rfl⟩ := hsl
  have h8i : ¬ (8 : Int) < ar.length := by omega
  have bw0 := below_alloc w (.cells #[.int .i64 0, .int .i64 0, .string ⟨#[]⟩] 29)
  have HRR : Hid (RVO w (.slice a ar.length cap) ar) := hrr
  clear hrr
  go_enter Tryz.func20, Tryz.ntmps20
  go_wp2
  generalize hW0 : w.alloc (.cells #[.int .i64 0, .int .i64 0, .string ⟨#[]⟩] 29) = W0 at *
  have hs0 : w.heap.size < W0.heap.size := by rw [← hW0]; simp
  have r0 : W0.cell? ⟨w.heap.size, 0, none⟩ = some (.int .i64 0) ∧ W0.cell? ⟨w.heap.size, 1, none⟩ = some (.int .i64 0) ∧ W0.cell? ⟨w.heap.size, 2, none⟩ = some (.string ⟨#[]⟩) ∧ W0.frozen? ⟨w.heap.size, 0, none⟩ = false ∧ W0.frozen? ⟨w.heap.size, 1, none⟩ = false ∧ W0.frozen? ⟨w.heap.size, 2, none⟩ = false := by
    rw [← hW0]; simp [go_sem]
  have HR0 : Hid _ := r0
  have HB0 : Hid (Below w.heap.size w W0) := bw0
  clear r0 bw0 hW0
  go_loopw [6, 7, 9, 18] (fun kv nb _ i wr => ∃ k : Nat, k ≤ ar.length ∧ i = .int .i64 k ∧ nb = .bool (nullsA (ar.take k)) ∧ OwnK W0.heap.size kv k (kindsA (ar.take k)) wr ∧ Below W0.heap.size W0 wr) (fun _ _ _ i _ => ar.length - (intOf i).toNat)
  case atStart => exact ⟨0, Nat.zero_le _, rfl, rfl, (⟨rfl, .inl ⟨rfl, rfl⟩⟩ : W0.ownsRow W0.heap.size 3 1 (.slice none 0 0) 0 []), Below.refl _ _⟩
  case round =>
    obtain ⟨k, hk, rfl, rfl, hoK, hbel⟩ := hrel
    have ho : wr.ownsRow W0.heap.size 3 1 _ k ((kindsA (ar.take k)).map (Value.int .i64)) := hoK
    clear hoK
    have hbs := hbel.size
    by_cases hlt : k < ar.length
    · have hlti : (k : Int) < ar.length := by omega
      obtain ⟨g, o, rfl, hgg, hgc⟩ := hcells (by omega)
      have bww : Below w.heap.size w wr := HB0.out.trans (hbel.mono (by omega))
      obtain ⟨c0, c1, c2⟩ := hgc k hlt
      have d0 := (bww.cell (p := ⟨g, o + k * 3, none⟩) hgg).trans c0
      have d1 := (bww.cell (p := ⟨g, o + k * 3 + 1, none⟩) hgg).trans c1
      have d2 := (bww.cell (p := ⟨g, o + k * 3 + 2, none⟩) hgg).trans c2
      have hsx := hsz ar[k] (List.getElem_mem hlt)
      have hvx := hv.out ar[k] (List.getElem_mem hlt)
      have HTK : Hid (ar.take (k + 1) = ar.take k ++ [ar[k]]) := take_snoc hlt
      clear c0 c1 c2 hgc hcells hsz
      generalize ar[k] = t at *
      obtain ⟨tk, tn, ts⟩ := t
      simp only at d0 d1 d2 hsx hvx
      have HVX : Hid (vok tk tn ts = true) := hvx
      clear hvx
      have HNB : Hid (nullsA (ar.take (k + 1)) = (nullsA (ar.take k) || tk == 0)) := (by rw [HTK.out, nullsA_snoc] : nullsA (ar.take (k + 1)) = (nullsA (ar.take k) || tk == 0))
      generalize nullsA (ar.take k) = nb at *
      have cs : nb = true ∨ (nb = false ∧ (tk == 0) = true) ∨ (nb = false ∧ (tk == 0) = false) := by cases nb <;> cases (tk == 0) <;> simp
      have hVX := fun W (h : Below w.heap.size w W) => vok_impl tk tn ts W hsx (tabs_below hT h)
      rw [HVX.out] at hVX
      rcases cs with rfl | ⟨rfl, ez⟩ | ⟨rfl, ez⟩
      all_goals
        go_wp2_with (first | (go_at_call 43; refine (hVX _ (bww.alloc bww.size _)).mono ?_; rintro e w1 ⟨rfl, hb1⟩; obtain ⟨hc1, hf1⟩ := bcell hb1; have hz1w : wr.heap.size < w1.heap.size := (by have := hb1.size; simp at this; omega); have bw1 : Below W0.heap.size W0 w1 := (hbel.alloc hbs _).trans (hb1.mono (by simp; omega)); have ho1 := own_below (ho.alloc _) hb1; have e0 : w1.cell? ⟨wr.heap.size, 0, none⟩ = some (.int .i64 tk) := (hc1 wr.heap.size 0 (by simp)).trans (by simp [go_sem])) | (at_builtin; refine wpList_append_own _ rfl (.tmp 26) (.tmp 29) 22 rfl W0.heap.size 3 i0 (.int .i64 0) 1 8 Tryz.underlying22 hi hz0 hz1 hz2 rfl (by decide) _ k ((kindsA (ar.take k)).map (Value.int .i64)) rfl (ho1.alloc _) ⟨w1.heap.size, 0, none⟩ 1 1 [.int .i64 tk] rfl rfl (cell_one_new _ _ _) (by intro u hu; simp at hu; subst hu; rfl) (by unfold maxLen; omega) (by omega) (by have := bw1.size; simp; omega) ?_; intro v' w2 hown' hgrow _; have bw2 : Below W0.heap.size W0 w2 := (bw1.alloc bw1.size _).grown hgrow (by have := bw1.size; simp; omega) (fun j hj => (ho1.lt j hj).1); have e2 : w2.cell? ⟨wr.heap.size, 0, none⟩ = some (.int .i64 tk) := (cell_grown hgrow (by simp; omega) (fun e => by have := (ho.lt wr.heap.size e.symm).2; omega)).trans (((below_alloc w1 _).cell (p := ⟨wr.heap.size, 0, none⟩) hz1w).trans e0); have HOW : Hid (OwnK W0.heap.size v' (k + 1) (kindsA (ar.take (k + 1))) w2) := OwnK.of HTK.out hown'; clear hown' hgrow))
        go_roundw
        case rel => exact ⟨k + 1, by omega, by go_num, by rw [HNB.out]; first | (rw [ez]; rfl) | rfl, HOW.out, bw2⟩
        case measure => simp [intOf]; omega
    · have hkn : k = ar.length := by omega
      subst hkn
      have hlti : ¬ (ar.length : Int) < ar.length := by omega
      rw [List.take_length] at ho
      rw [List.take_length]
      have hnu' := hnu.out
      generalize nullsA ar = nb at *
      have hkl : (kindsA ar).length = ar.length := by simp [kindsA]
      rw [← hkl] at ho
      obtain ⟨ka, kc, rfl, hrio⟩ := own_rio ho
      clear ho
      generalize hks : kindsA ar = ks at *
      have HKL : Hid (ks.length = ar.length) := hkl
      have bww : Below w.heap.size w wr := HB0.out.trans (hbel.mono (by omega))
      obtain ⟨q0, q1, q2, f0, f1, f2⟩ := HR0.out
      have q0 := (hbel.cell (p := ⟨w.heap.size, 0, none⟩) (by show w.heap.size < _; omega)).trans q0
      have q1 := (hbel.cell (p := ⟨w.heap.size, 1, none⟩) (by show w.heap.size < _; omega)).trans q1
      have q2 := (hbel.cell (p := ⟨w.heap.size, 2, none⟩) (by show w.heap.size < _; omega)).trans q2
      have f0 := (hbel.frozen (p := ⟨w.heap.size, 0, none⟩) (by show w.heap.size < _; omega)).trans f0
      have f1 := (hbel.frozen (p := ⟨w.heap.size, 1, none⟩) (by show w.heap.size < _; omega)).trans f1
      have f2 := (hbel.frozen (p := ⟨w.heap.size, 2, none⟩) (by show w.heap.size < _; omega)).trans f2
      have hwr : w.heap.size < wr.heap.size := by omega
      have hn20 : ks.length ≤ 1048576 := by rw [hkl]; omega
      clear hkl hks hbel HR0 HB0
      go_wp2_with (go_at_call 39; fail)
      refine (Mp.table_any _).mono ?_
      rintro e w1 ⟨rfl, hst⟩
      obtain ⟨l, hm, hks, hgood, hb1⟩ := hst
      have hrun := hm.look Tryz.underlying72 Tryz.underlying3 (Tryz.zeroValue70 _) 6
      obtain ⟨v, hv1, hv2⟩ := Mp.lookL_some (l := l) (k := 6) (by rw [hks]; decide)
      obtain ⟨g, hvg, hG⟩ := hgood _ hv2
      replace hG : Mp.GoodG w1 wr.heap.size 6 g := hG
      simp only at hvg
      rw [show Mp.workN 6 = 90 from rfl] at hvg
      subst hvg
      rw [hv1] at hrun
      simp only [Option.getD_some, Option.isSome_some] at hrun
      obtain ⟨hc1, hf1⟩ := bcell hb1
      have hz1 : w.heap.size < w1.heap.size := by have := hb1.size; omega
      have bw1 : Below w.heap.size w w1 := bww.trans (hb1.mono bww.size)
      have hrio1 := hrio.below hb1
      clear hgood hks hm hv1 hv2 hrio
      have hgF : g = Mp.fnV 89 := hG
      subst hgF
      have hgne : (Mp.nullifK ks == -1) = false := hg.out
      clear hG
      go_wp2_with (go_at_call 89; fail)
      refine (Mp.nullif_any ks _ _ _ hn20 (hrio1.below (below_alloc _ _))).mono ?_
      rintro e w2 ⟨rfl, hb2⟩
      generalize Mp.nullifK ks = gr at *
      obtain ⟨hc2, hf2⟩ := bcell hb2
      have hz2 : w1.heap.size < w2.heap.size := by have := hb2.size; simp at this; omega
      have hy2 : w.heap.size < w2.heap.size := by omega
      have bw1a : Below w.heap.size w (w1.alloc (.cells #[Value.func (Fn.func 89) #[] #[], Value.func (Fn.func 90) #[] #[]] 70)) := bw1.alloc bw1.size _
      have bw2 : Below w.heap.size w w2 := bw1a.trans (hb2.mono bw1a.size)
      have hnn : nb = false ∨ (nb = true ∧ ((6 : Int) != 6) = false) := by cases nb <;> simp_all
      rcases hnn with rfl | ⟨rfl, hn6⟩
      all_goals
        go_wp2_with (go_at_call 90; fail)
        refine (hW.out _ bw2).mono ?_
        rintro e w3 ⟨k, n, s, c, hR, rfl, hb3⟩
        have HRV : Hid (R (tV k n s c)) := hR
        clear hR
        simp only [tV]
        obtain ⟨hc3, hf3⟩ := bcell hb3
        have hz3 : w1.heap.size < w3.heap.size := by have := hb3.size; omega
        have hy3 : w.heap.size < w3.heap.size := by omega
        have bw3 : Below w.heap.size w w3 := bw2.trans (hb3.mono bw2.size)
        have b12 : Below wr.heap.size wr w2 := (hb1.alloc hb1.size _).trans (hb2.mono (by have := hb1.size; simp; omega))
        have b13 : Below wr.heap.size wr w3 := b12.trans (hb3.mono b12.size)
        have p0 := (b13.cell (p := ⟨w.heap.size, 0, none⟩) hwr).trans q0
        have p1 := (b13.cell (p := ⟨w.heap.size, 1, none⟩) hwr).trans q1
        have p2 := (b13.cell (p := ⟨w.heap.size, 2, none⟩) hwr).trans q2
        have j0 := (b13.frozen (p := ⟨w.heap.size, 0, none⟩) hwr).trans f0
        have j1 := (b13.frozen (p := ⟨w.heap.size, 1, none⟩) hwr).trans f1
        have j2 := (b13.frozen (p := ⟨w.heap.size, 2, none⟩) hwr).trans f2
        clear b12 b13 hc1 hf1 hc2 hf2 hc3 hf3
        go_wp2
        refine bodyPost_ret (v := tV k n s c) (by simp [results, Tryz.results20, go_sem, tV, p0, p1, p2, j0, j1, j2, hy3]) rfl ⟨_, HRV.out, rfl, ?_⟩
        exact ((bw3.setCell (Nat.le_refl _) _).setCell (Nat.le_refl _) _).setCell (Nat.le_refl _) _
end Go.Proofs.YtdcdoeolaongkaaGreatDoor.Ca
