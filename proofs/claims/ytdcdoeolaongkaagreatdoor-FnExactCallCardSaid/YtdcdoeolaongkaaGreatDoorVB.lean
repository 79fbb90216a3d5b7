import Derived.Test.YtdcdoeolaongkaaGreatDoorC0
import Derived.Test.YtdcdoeolaongkaaGreatDoorR8
import Derived.Test.YtdcdoeolaongkaaGreatDoorVX
namespace Go.Proofs.YtdcdoeolaongkaaGreatDoor.Ca
open Go.MapKept Go.ChangeMaps
open Go.ChangeShapes Go.WideShapes Go.ChangeAt Go.RowKit Go.Shelf
open Go.Proofs.YtdcdoeolaongkaaGreatDoor.Rd
set_option linter.unusedVariables false
set_option linter.unusedSimpArgs false
set_option maxRecDepth 100000
set_option maxHeartbeats 16000000 in
theorem callI_7 (ar : List TA) (a : Option Addr) (cap : Nat) (w : World) (h8 : ar.length ≤ 8) (hr : RVO w (.slice a ar.length cap) ar) (hsz : ∀ t ∈ ar, t.2.2.size ≤ 1048576) (hT : Tabs w) (hv : Hid (∀ t ∈ ar, vok t.1 t.2.1 t.2.2 = true)) (hg : Hid ((Mp.gvK 7 (kindsA ar) == -1) = false)) (hnu : Hid ((nullsA ar && (7 : Int) != 6) = false)) (R : Value → Prop)
    (hW : Hid (∀ W, Below w.heap.size w W → Calls Tryz.prog 91 #[.slice a ar.length cap] W fun e w' => ∃ k n s c, R (tV k n s c) ∧ e = .returned (tV k n s c) ∧ Below W.heap.size W w')) :
    Calls Tryz.prog 20 #[.int .i64 7, .slice a ar.length cap] w fun e w' => ∃ V, R V ∧ e = .returned V ∧ Below w.heap.size w w' := by
  obtain ⟨i0, hi, hz0, hz1, hz2⟩ := info_parts info3
  have hrr := hr
  obtain ⟨a', cap', hsl, hcells⟩ := hr
  simp only [Value.slice.injEq] at hsl
  obtain ⟨rfl, _, rfl⟩ := hsl
  have h8i : ¬ (8 : Int) < ar.length := by omega
  have bw0 := below_alloc w (.cells #[.int .i64 0, .int .i64 0, .string ⟨#[]⟩] 29)
  have HRR : Hid (RVO w (.slice a ar.length cap) ar) := hrr
  clear hrr
  go_enter Tryz.func20, Tryz.ntmps20
  go_wp2
  generalize hW0 : w.alloc (.cells #[.int .i64 0, .int .i64 0, .string ⟨#[]⟩] 29) = W0 at *
  have hs0 : w.heap.size < W0.heap.size := by rw [← hW0]; simp
  have r0 : W0.cell? ⟨w.heap.size, 0, none⟩ = some (.int .i64 0) ∧ W0.cell? ⟨w.heap.size, 1, none⟩ = some (.int .i64 0) ∧ W0.cell? ⟨w.heap.size, 2, none⟩ = some (.string ⟨#[]⟩) ∧ W0.frozen? ⟨w.heap.size, 0, none⟩ = false ∧ W0.frozen? ⟨w.heap.size, 1, none⟩ = false ∧ W0.frozen? ⟨w.heap.size, 2, none⟩ = false := by
    rw [← hW0]; simp [go_sem]
  have HR0 : Hid _ := r0
  have HB0 : Hid (Below w.heap.size w W0) := bw0
  clear r0 bw0 hW0
  go_loopw [6, 7, 9, 18] (fun kv nb _ i wr => ∃ k : Nat, k ≤ ar.length ∧ i = .int .i64 k ∧ nb = .bool (nullsA (ar.take k)) ∧ OwnK W0.heap.size kv k (kindsA (ar.take k)) wr ∧ Below W0.heap.size W0 wr) (fun _ _ _ i _ => ar.length - (intOf i).toNat)
  case atStart => exact ⟨0, Nat.zero_le _, rfl, rfl, (⟨rfl, .inl ⟨rfl, rfl⟩⟩ : W0.ownsRow W0.heap.size 3 1 (.slice none 0 0) 0 []), Below.refl _ _⟩
  case round =>
    obtain ⟨k, hk, rfl, rfl, hoK, hbel⟩ := hrel
    have ho : wr.ownsRow W0.heap.size 3 1 _ k ((kindsA (ar.take k)).map (Value.int .i64)) := hoK
    clear hoK
    have hbs := hbel.size
    by_cases hlt : k < ar.length
    · have hlti : (k : Int) < ar.length := by omega
      obtain ⟨g, o, rfl, hgg, hgc⟩ := hcells (by omega)
      have bww : Below w.heap.size w wr := HB0.out.trans (hbel.mono (by omega))
      obtain ⟨c0, c1, c2⟩ := hgc k hlt
      have d0 := (bww.cell (p := ⟨g, o + k * 3, none⟩) hgg).trans c0
      have d1 := (bww.cell (p := ⟨g, o + k * 3 + 1, none⟩) hgg).trans c1
      have d2 := (bww.cell (p := ⟨g, o + k * 3 + 2, none⟩) hgg).trans c2
      have hsx := hsz ar[k] (List.getElem_mem hlt)
      have hvx := hv.out ar[k] (List.getElem_mem hlt)
      have HTK : Hid (ar.take (k + 1) = ar.take k ++ [ar[k]]) := take_snoc hlt
      clear c0 c1 c2 hgc hcells hsz
      generalize ar[k] = t at *
      obtain ⟨tk, tn, ts⟩ := t
      simp only at d0 d1 d2 hsx hvx
      have HVX : Hid (vok tk tn ts = true) := hvx
      clear hvx
      have HNB : Hid (nullsA (ar.take (k + 1)) = (nullsA (ar.take k) || tk == 0)) := (by rw [HTK.out, nullsA_snoc] : nullsA (ar.take (k + 1)) = (nullsA (ar.take k) || tk == 0))
      generalize nullsA (ar.take k) = nb at *
      have cs : nb = true ∨ (nb = false ∧ (tk == 0) = true) ∨ (nb = false ∧ (tk == 0) = false) := by cases nb <;> cases (tk == 0) <;> simp
      have hVX := fun W (h : Below w.heap.size w W) => vok_impl tk tn ts W hsx (tabs_below hT h)
      rw [HVX.out] at hVX
      rcases cs with rfl | ⟨rfl, ez⟩ | ⟨rfl, ez⟩
      all_goals
        go_wp2_with (first | (go_at_call 43; refine (hVX _ (bww.alloc bww.size _)).mono ?_; rintro e w1 ⟨rfl, hb1⟩; obtain ⟨hc1, hf1⟩ := bcell hb1; have hz1w : wr.heap.size < w1.heap.size := (by have := hb1.size; simp at this; omega); have bw1 : Below W0.heap.size W0 w1 := (hbel.alloc hbs _).trans (hb1.mono (by simp; omega)); have ho1 := own_below (ho.alloc _) hb1; have e0 : w1.cell? ⟨wr.heap.size, 0, none⟩ = some (.int .i64 tk) := (hc1 wr.heap.size 0 (by simp)).trans (by simp [go_sem])) | (at_builtin; refine wpList_append_own _ rfl (.tmp 26) (.tmp 29) 22 rfl W0.heap.size 3 i0 (.int .i64 0) 1 8 Tryz.underlying22 hi hz0 hz1 hz2 rfl (by decide) _ k ((kindsA (ar.take k)).map (Value.int .i64)) rfl (ho1.alloc _) ⟨w1.heap.size, 0, none⟩ 1 1 [.int .i64 tk] rfl rfl (cell_one_new _ _ _) (by intro u hu; simp at hu; subst hu; rfl) (by unfold maxLen; omega) (by omega) (by have := bw1.size; simp; omega) ?_; intro v' w2 hown' hgrow _; have bw2 : Below W0.heap.size W0 w2 := (bw1.alloc bw1.size _).grown hgrow (by have := bw1.size; simp; omega) (fun j hj => (ho1.lt j hj).1); have e2 : w2.cell? ⟨wr.heap.size, 0, none⟩ = some (.int .i64 tk) := (cell_grown hgrow (by simp; omega) (fun e => by have := (ho.lt wr.heap.size e.symm).2; omega)).trans (((below_alloc w1 _).cell (p := ⟨wr.heap.size, 0, none⟩) hz1w).trans e0); have HOW : Hid (OwnK W0.heap.size v' (k + 1) (kindsA (ar.take (k + 1))) w2) := OwnK.of HTK.out hown'; clear hown' hgrow))
        go_roundw
        case rel => exact ⟨k + 1, by omega, by go_num, by rw [HNB.out]; first | (rw [ez]; rfl) | rfl, HOW.out, bw2⟩
        case measure => simp [intOf]; omega
    · have hkn : k = ar.length := by omega
      subst hkn
      have hlti : ¬ (ar.length : Int) < ar.length := by omega
      rw [List.take_length] at ho
      rw [List.take_length]
      have hnu' := hnu.out
      generalize nullsA ar = nb at *
      have hkl : (kindsA ar).length = ar.length := by simp [kindsA]
      rw [← hkl] at ho
      obtain ⟨ka, kc, rfl, hrio⟩ := own_rio ho
      clear ho
      generalize hks : kindsA ar = ks at *
      have HKL : Hid (ks.length = ar.length) := hkl
      have bww : Below w.heap.size w wr := HB0.out.trans (hbel.mono (by omega))
      obtain ⟨q0, q1, q2, f0, f1, f2⟩ := HR0.out
      have q0 := (hbel.cell (p := ⟨w.heap.size, 0, none⟩) (by show w.heap.size < _; omega)).trans q0
      have q1 := (hbel.cell (p := ⟨w.heap.size, 1, none⟩) (by show w.heap.size < _; omega)).trans q1
      have q2 := (hbel.cell (p := ⟨w.heap.size, 2, none⟩) (by show w.heap.size < _; omega)).trans q2
      have f0 := (hbel.frozen (p := ⟨w.heap.size, 0, none⟩) (by show w.heap.size < _; omega)).trans f0
      have f1 := (hbel.frozen (p := ⟨w.heap.size, 1, none⟩) (by show w.heap.size < _; omega)).trans f1
      have f2 := (hbel.frozen (p := ⟨w.heap.size, 2, none⟩) (by show w.heap.size < _; omega)).trans f2
      have hwr : w.heap.size < wr.heap.size := by omega
      have hn20 : ks.length ≤ 1048576 := by rw [hkl]; omega
      clear hkl hks hbel HR0 HB0
      go_wp2_with (go_at_call 39; fail)
      refine (Mp.table_any _).mono ?_
      rintro e w1 ⟨rfl, hst⟩
      obtain ⟨l, hm, hks, hgood, hb1⟩ := hst
      have hrun := hm.look Tryz.underlying72 Tryz.underlying3 (Tryz.zeroValue70 _) 7
      obtain ⟨v, hv1, hv2⟩ := Mp.lookL_some (l := l) (k := 7) (by rw [hks]; decide)
      obtain ⟨g, hvg, hG⟩ := hgood _ hv2
      replace hG : Mp.GoodG w1 wr.heap.size 7 g := hG
      simp only at hvg
      rw [show Mp.workN 7 = 91 from rfl] at hvg
      subst hvg
      rw [hv1] at hrun
      simp only [Option.getD_some, Option.isSome_some] at hrun
      obtain ⟨hc1, hf1⟩ := bcell hb1
      have hz1 : w.heap.size < w1.heap.size := by have := hb1.size; omega
      have bw1 : Below w.heap.size w w1 := bww.trans (hb1.mono bww.size)
      have hrio1 := hrio.below hb1
      clear hgood hks hm hv1 hv2 hrio
      have hT2 : Mp.Taker w1 wr.heap.size g (Mp.resK 7) (Mp.wantK 7) := hG
      have HG : Hid (Mp.gvK 7 ks = Mp.takeK (Mp.resK 7) (Mp.wantK 7) ks) := rfl
      have hgne : (Mp.takeK (Mp.resK 7) (Mp.wantK 7) ks == -1) = false := hg.out
      have HWL : Hid ((Mp.wantK 7).length ≤ 100) := (by decide : (Mp.wantK 7).length ≤ 100)
      clear hG
      generalize Mp.resK 7 = rs at *
      generalize Mp.wantK 7 = wsl at *
      obtain ⟨bw_, br, sb, rfl, _, ⟨l1, l2, l3⟩, t1, t2, t3⟩ := hT2
      have HTK : Hid ((bw_ < w1.heap.size ∧ br < w1.heap.size ∧ sb < w1.heap.size) ∧ w1.cell? ⟨bw_, 0, none⟩ = some (.slice (some ⟨sb, 0, none⟩) wsl.length wsl.length) ∧ w1.cell? ⟨br, 0, none⟩ = some (.int .i64 rs) ∧ ∀ i (h : i < wsl.length), w1.cell? ⟨sb, i, none⟩ = some (.int .i64 wsl[i])) := ⟨⟨l1, l2, l3⟩, t1, t2, t3⟩
      clear t1 t2 t3 l1 l2 l3
      go_wp2_with (go_at_call 149; fail)
      refine (Mp.taking1_any 0 rs wsl ks _ _ bw_ br sb _ hn20 HWL.out (hrio1.below (below_alloc _ _)) (((below_alloc w1 _).cell (p := ⟨bw_, 0, none⟩) HTK.out.1.1).trans HTK.out.2.1) (((below_alloc w1 _).cell (p := ⟨br, 0, none⟩) HTK.out.1.2.1).trans HTK.out.2.2.1) (fun i hi => ((below_alloc w1 _).cell (p := ⟨sb, i, none⟩) HTK.out.1.2.2).trans (HTK.out.2.2.2 i hi))).mono ?_
      rintro e w2 ⟨rfl, hbe2⟩
      have hb2 : Below (w1.alloc (.cells #[Value.func (Fn.func 149) #[] #[Value.pointer (some ⟨bw_, 0, none⟩), Value.pointer (some ⟨br, 0, none⟩)], Value.func (Fn.func 91) #[] #[]] 70)).heap.size (w1.alloc (.cells #[Value.func (Fn.func 149) #[] #[Value.pointer (some ⟨bw_, 0, none⟩), Value.pointer (some ⟨br, 0, none⟩)], Value.func (Fn.func 91) #[] #[]] 70)) w2 := by rw [hbe2]; exact Below.refl _ _
      clear hbe2
      generalize Mp.takeK rs wsl ks = gr at *
      obtain ⟨hc2, hf2⟩ := bcell hb2
      have hz2 : w1.heap.size < w2.heap.size := by have := hb2.size; simp at this; omega
      have hy2 : w.heap.size < w2.heap.size := by omega
      have bw1a : Below w.heap.size w (w1.alloc (.cells #[Value.func (Fn.func 149) #[] #[Value.pointer (some ⟨bw_, 0, none⟩), Value.pointer (some ⟨br, 0, none⟩)], Value.func (Fn.func 91) #[] #[]] 70)) := bw1.alloc bw1.size _
      have bw2 : Below w.heap.size w w2 := bw1a.trans (hb2.mono bw1a.size)
      have hnn : nb = false ∨ (nb = true ∧ ((7 : Int) != 6) = false) := by cases nb <;> simp_all
      rcases hnn with rfl | ⟨rfl, hn6⟩
      all_goals
        go_wp2_with (go_at_call 91; fail)
        refine (hW.out _ bw2).mono ?_
        rintro e w3 ⟨k, n, s, c, hR, rfl, hb3⟩
        have HRV : Hid (R (tV k n s c)) := hR
        clear hR
        simp only [tV]
        obtain ⟨hc3, hf3⟩ := bcell hb3
        have hz3 : w1.heap.size < w3.heap.size := by have := hb3.size; omega
        have hy3 : w.heap.size < w3.heap.size := by omega
        have bw3 : Below w.heap.size w w3 := bw2.trans (hb3.mono bw2.size)
        have b12 : Below wr.heap.size wr w2 := (hb1.alloc hb1.size _).trans (hb2.mono (by have := hb1.size; simp; omega))
        have b13 : Below wr.heap.size wr w3 := b12.trans (hb3.mono b12.size)
        have p0 := (b13.cell (p := ⟨w.heap.size, 0, none⟩) hwr).trans q0
        have p1 := (b13.cell (p := ⟨w.heap.size, 1, none⟩) hwr).trans q1
        have p2 := (b13.cell (p := ⟨w.heap.size, 2, none⟩) hwr).trans q2
        have j0 := (b13.frozen (p := ⟨w.heap.size, 0, none⟩) hwr).trans f0
        have j1 := (b13.frozen (p := ⟨w.heap.size, 1, none⟩) hwr).trans f1
        have j2 := (b13.frozen (p := ⟨w.heap.size, 2, none⟩) hwr).trans f2
        clear b12 b13 hc1 hf1 hc2 hf2 hc3 hf3
        go_wp2
        refine bodyPost_ret (v := tV k n s c) (by simp [results, Tryz.results20, go_sem, tV, p0, p1, p2, j0, j1, j2, hy3]) rfl ⟨_, HRV.out, rfl, ?_⟩
        exact ((bw3.setCell (Nat.le_refl _) _).setCell (Nat.le_refl _) _).setCell (Nat.le_refl _) _
end Go.Proofs.YtdcdoeolaongkaaGreatDoor.Ca
namespace Go.Proofs.YtdcdoeolaongkaaGreatDoor.Ca
open Go.MapKept Go.ChangeMaps
open Go.ChangeShapes Go.WideShapes Go.ChangeAt Go.RowKit Go.Shelf
open Go.Proofs.YtdcdoeolaongkaaGreatDoor.Rd
set_option linter.unusedVariables false
set_option linter.unusedSimpArgs false
set_option maxRecDepth 100000
set_option maxHeartbeats 16000000 in
theorem callI_8 (ar : List TA) (a : Option Addr) (cap : Nat) (w : World) (h8 : ar.length ≤ 8) (hr : RVO w (.slice a ar.length cap) ar) (hsz : ∀ t ∈ ar, t.2.2.size ≤ 1048576) (hT : Tabs w) (hv : Hid (∀ t ∈ ar, vok t.1 t.2.1 t.2.2 = true)) (hg : Hid ((Mp.gvK 8 (kindsA ar) == -1) = false)) (hnu : Hid ((nullsA ar && (8 : Int) != 6) = false)) (R : Value → Prop)
    (hW : Hid (∀ W, Below w.heap.size w W → Calls Tryz.prog 92 #[.slice a ar.length cap] W fun e w' => ∃ k n s c, R (tV k n s c) ∧ e = .returned (tV k n s c) ∧ Below W.heap.size W w')) :
    Calls Tryz.prog 20 #[.int .i64 8, .slice a ar.length cap] w fun e w' => ∃ V, R V ∧ e = .returned V ∧ Below w.heap.size w w' := by
  obtain ⟨i0, hi, hz0, hz1, hz2⟩ := info_parts info3
  have hrr := hr
  obtain ⟨a', cap', hsl, hcells⟩ := hr
  simp only [Value.slice.injEq] at hsl
  obtain ⟨rfl, _, rfl⟩ := hsl
  have h8i : ¬ (8 : Int) < ar.length := by omega
  have bw0 := below_alloc w (.cells #[.int .i64 0, .int .i64 0, .string ⟨#[]⟩] 29)
  have HRR : Hid (RVO w (.slice a ar.length cap) ar) := hrr
  clear hrr
  go_enter Tryz.func20, Tryz.ntmps20
  go_wp2
  generalize hW0 : w.alloc (.cells #[.int .i64 0, .int .i64 0, .string ⟨#[]⟩] 29) = W0 at *
  have hs0 : w.heap.size < W0.heap.size := by rw [← hW0]; simp
  have r0 : W0.cell? ⟨w.heap.size, 0, none⟩ = some (.int .i64 0) ∧ W0.cell? ⟨w.heap.size, 1, none⟩ = some (.int .i64 0) ∧ W0.cell? ⟨w.heap.size, 2, none⟩ = some (.string ⟨#[]⟩) ∧ W0.frozen? ⟨w.heap.size, 0, none⟩ = false ∧ W0.frozen? ⟨w.heap.size, 1, none⟩ = false ∧ W0.frozen? ⟨w.heap.size, 2, none⟩ = false := by
    rw [← hW0]; simp [go_sem]
  have HR0 : Hid _ := r0
  have HB0 : Hid (Below w.heap.size w W0) := bw0
  clear r0 bw0 hW0
  go_loopw [6, 7, 9, 18] (fun kv nb _ i wr => ∃ k : Nat, k ≤ ar.length ∧ i = .int .i64 k ∧ nb = .bool (nullsA (ar.take k)) ∧ OwnK W0.heap.size kv k (kindsA (ar.take k)) wr ∧ Below W0.heap.size W0 wr) (fun _ _ _ i _ => ar.length - (intOf i).toNat)
  case atStart => exact ⟨0, Nat.zero_le _, rfl, rfl, (⟨rfl, .inl ⟨rfl, rfl⟩⟩ : W0.ownsRow W0.heap.size 3 1 (.slice none 0 0) 0 []), Below.refl _ _⟩
  case round =>
    obtain ⟨k, hk, rfl, rfl, hoK, hbel⟩ := hrel
    have ho : wr.ownsRow W0.heap.size 3 1 _ k ((kindsA (ar.take k)).map (Value.int .i64)) := hoK
    clear hoK
    have hbs := hbel.size
    by_cases hlt : k < ar.length
    · have hlti : (k : Int) < ar.length := by omega
      obtain ⟨g, o, rfl, hgg, hgc⟩ := hcells (by omega)
      have bww : Below w.heap.size w wr := HB0.out.trans (hbel.mono (by omega))
      obtain ⟨c0, c1, c2⟩ := hgc k hlt
      have d0 := (bww.cell (p := ⟨g, o + k * 3, none⟩) hgg).trans c0
      have d1 := (bww.cell (p := ⟨g, o + k * 3 + 1, none⟩) hgg).trans c1
      have d2 := (bww.cell (p := ⟨g, o + k * 3 + 2, none⟩) hgg).trans c2
      have hsx := hsz ar[k] (List.getElem_mem hlt)
      have hvx := hv.out ar[k] (List.getElem_mem hlt)
      have HTK : Hid (ar.take (k + 1) = ar.take k ++ [ar[k]]) := take_snoc hlt
      clear c0 c1 c2 hgc hcells hsz
      generalize ar[k] = t at *
      obtain ⟨tk, tn, ts⟩ := t
      simp only at d0 d1 d2 hsx hvx
      have HVX : Hid (vok tk tn ts = true) := hvx
      clear hvx
      have HNB : Hid (nullsA (ar.take (k + 1)) = (nullsA (ar.take k) || tk == 0)) := (by rw [HTK.out, nullsA_snoc] : nullsA (ar.take (k + 1)) = (nullsA (ar.take k) || tk == 0))
      generalize nullsA (ar.take k) = nb at *
      have cs : nb = true ∨ (nb = false ∧ (tk == 0) = true) ∨ (nb = false ∧ (tk == 0) = false) := by cases nb <;> cases (tk == 0) <;> simp
      have hVX := fun W (h : Below w.heap.size w W) => vok_impl tk tn ts W hsx (tabs_below hT h)
      rw [HVX.out] at hVX
      rcases cs with rfl | ⟨rfl, ez⟩ | ⟨rfl, ez⟩
      all_goals
        go_wp2_with (first | (go_at_call 43; refine (hVX _ (bww.alloc bww.size _)).mono ?_; rintro e w1 ⟨rfl, hb1⟩; obtain ⟨hc1, hf1⟩ := bcell hb1; have hz1w : wr.heap.size < w1.heap.size := (by have := hb1.size; simp at this; omega); have bw1 : Below W0.heap.size W0 w1 := (hbel.alloc hbs _).trans (hb1.mono (by simp; omega)); have ho1 := own_below (ho.alloc _) hb1; have e0 : w1.cell? ⟨wr.heap.size, 0, none⟩ = some (.int .i64 tk) := (hc1 wr.heap.size 0 (by simp)).trans (by simp [go_sem])) | (at_builtin; refine wpList_append_own _ rfl (.tmp 26) (.tmp 29) 22 rfl W0.heap.size 3 i0 (.int .i64 0) 1 8 Tryz.underlying22 hi hz0 hz1 hz2 rfl (by decide) _ k ((kindsA (ar.take k)).map (Value.int .i64)) rfl (ho1.alloc _) ⟨w1.heap.size, 0, none⟩ 1 1 [.int .i64 tk] rfl rfl (cell_one_new _ _ _) (by intro u hu; simp at hu; subst hu; rfl) (by unfold maxLen; omega) (by omega) (by have := bw1.size; simp; omega) ?_; intro v' w2 hown' hgrow _; have bw2 : Below W0.heap.size W0 w2 := (bw1.alloc bw1.size _).grown hgrow (by have := bw1.size; simp; omega) (fun j hj => (ho1.lt j hj).1); have e2 : w2.cell? ⟨wr.heap.size, 0, none⟩ = some (.int .i64 tk) := (cell_grown hgrow (by simp; omega) (fun e => by have := (ho.lt wr.heap.size e.symm).2; omega)).trans (((below_alloc w1 _).cell (p := ⟨wr.heap.size, 0, none⟩) hz1w).trans e0); have HOW : Hid (OwnK W0.heap.size v' (k + 1) (kindsA (ar.take (k + 1))) w2) := OwnK.of HTK.out hown'; clear hown' hgrow))
        go_roundw
        case rel => exact ⟨k + 1, by omega, by go_num, by rw [HNB.out]; first | (rw [ez]; rfl) | rfl, HOW.out, bw2⟩
        case measure => simp [intOf]; omega
    · have hkn : k = ar.length := by omega
      subst hkn
      have hlti : ¬ (ar.length : Int) < ar.length := by omega
      rw [List.take_length] at ho
      rw [List.take_length]
      have hnu' := hnu.out
      generalize nullsA ar = nb at *
      have hkl : (kindsA ar).length = ar.length := by simp [kindsA]
      rw [← hkl] at ho
      obtain ⟨ka, kc, rfl, hrio⟩ := own_rio ho
      clear ho
      generalize hks : kindsA ar = ks at *
      have HKL : Hid (ks.length = ar.length) := hkl
      have bww : Below w.heap.size w wr := HB0.out.trans (hbel.mono (by omega))
      obtain ⟨q0, q1, q2, f0, f1, f2⟩ := HR0.out
      have q0 := (hbel.cell (p := ⟨w.heap.size, 0, none⟩) (by show w.heap.size < _; omega)).trans q0
      have q1 := (hbel.cell (p := ⟨w.heap.size, 1, none⟩) (by show w.heap.size < _; omega)).trans q1
      have q2 := (hbel.cell (p := ⟨w.heap.size, 2, none⟩) (by show w.heap.size < _; omega)).trans q2
      have f0 := (hbel.frozen (p := ⟨w.heap.size, 0, none⟩) (by show w.heap.size < _; omega)).trans f0
      have f1 := (hbel.frozen (p := ⟨w.heap.size, 1, none⟩) (by show w.heap.size < _; omega)).trans f1
      have f2 := (hbel.frozen (p := ⟨w.heap.size, 2, none⟩) (by show w.heap.size < _; omega)).trans f2
      have hwr : w.heap.size < wr.heap.size := by omega
      have hn20 : ks.length ≤ 1048576 := by rw [hkl]; omega
      clear hkl hks hbel HR0 HB0
      go_wp2_with (go_at_call 39; fail)
      refine (Mp.table_any _).mono ?_
      rintro e w1 ⟨rfl, hst⟩
      obtain ⟨l, hm, hks, hgood, hb1⟩ := hst
      have hrun := hm.look Tryz.underlying72 Tryz.underlying3 (Tryz.zeroValue70 _) 8
      obtain ⟨v, hv1, hv2⟩ := Mp.lookL_some (l := l) (k := 8) (by rw [hks]; decide)
      obtain ⟨g, hvg, hG⟩ := hgood _ hv2
      replace hG : Mp.GoodG w1 wr.heap.size 8 g := hG
      simp only at hvg
      rw [show Mp.workN 8 = 92 from rfl] at hvg
      subst hvg
      rw [hv1] at hrun
      simp only [Option.getD_some, Option.isSome_some] at hrun
      obtain ⟨hc1, hf1⟩ := bcell hb1
      have hz1 : w.heap.size < w1.heap.size := by have := hb1.size; omega
      have bw1 : Below w.heap.size w w1 := bww.trans (hb1.mono bww.size)
      have hrio1 := hrio.below hb1
      clear hgood hks hm hv1 hv2 hrio
      have hT2 : Mp.Taker w1 wr.heap.size g (Mp.resK 8) (Mp.wantK 8) := hG
      have HG : Hid (Mp.gvK 8 ks = Mp.takeK (Mp.resK 8) (Mp.wantK 8) ks) := rfl
      have hgne : (Mp.takeK (Mp.resK 8) (Mp.wantK 8) ks == -1) = false := hg.out
      have HWL : Hid ((Mp.wantK 8).length ≤ 100) := (by decide : (Mp.wantK 8).length ≤ 100)
      clear hG
      generalize Mp.resK 8 = rs at *
      generalize Mp.wantK 8 = wsl at *
      obtain ⟨bw_, br, sb, rfl, _, ⟨l1, l2, l3⟩, t1, t2, t3⟩ := hT2
      have HTK : Hid ((bw_ < w1.heap.size ∧ br < w1.heap.size ∧ sb < w1.heap.size) ∧ w1.cell? ⟨bw_, 0, none⟩ = some (.slice (some ⟨sb, 0, none⟩) wsl.length wsl.length) ∧ w1.cell? ⟨br, 0, none⟩ = some (.int .i64 rs) ∧ ∀ i (h : i < wsl.length), w1.cell? ⟨sb, i, none⟩ = some (.int .i64 wsl[i])) := ⟨⟨l1, l2, l3⟩, t1, t2, t3⟩
      clear t1 t2 t3 l1 l2 l3
      go_wp2_with (go_at_call 149; fail)
      refine (Mp.taking1_any 0 rs wsl ks _ _ bw_ br sb _ hn20 HWL.out (hrio1.below (below_alloc _ _)) (((below_alloc w1 _).cell (p := ⟨bw_, 0, none⟩) HTK.out.1.1).trans HTK.out.2.1) (((below_alloc w1 _).cell (p := ⟨br, 0, none⟩) HTK.out.1.2.1).trans HTK.out.2.2.1) (fun i hi => ((below_alloc w1 _).cell (p := ⟨sb, i, none⟩) HTK.out.1.2.2).trans (HTK.out.2.2.2 i hi))).mono ?_
      rintro e w2 ⟨rfl, hbe2⟩
      have hb2 : Below (w1.alloc (.cells #[Value.func (Fn.func 149) #[] #[Value.pointer (some ⟨bw_, 0, none⟩), Value.pointer (some ⟨br, 0, none⟩)], Value.func (Fn.func 92) #[] #[]] 70)).heap.size (w1.alloc (.cells #[Value.func (Fn.func 149) #[] #[Value.pointer (some ⟨bw_, 0, none⟩), Value.pointer (some ⟨br, 0, none⟩)], Value.func (Fn.func 92) #[] #[]] 70)) w2 := by rw [hbe2]; exact Below.refl _ _
      clear hbe2
      generalize Mp.takeK rs wsl ks = gr at *
      obtain ⟨hc2, hf2⟩ := bcell hb2
      have hz2 : w1.heap.size < w2.heap.size := by have := hb2.size; simp at this; omega
      have hy2 : w.heap.size < w2.heap.size := by omega
      have bw1a : Below w.heap.size w (w1.alloc (.cells #[Value.func (Fn.func 149) #[] #[Value.pointer (some ⟨bw_, 0, none⟩), Value.pointer (some ⟨br, 0, none⟩)], Value.func (Fn.func 92) #[] #[]] 70)) := bw1.alloc bw1.size _
      have bw2 : Below w.heap.size w w2 := bw1a.trans (hb2.mono bw1a.size)
      have hnn : nb = false ∨ (nb = true ∧ ((8 : Int) != 6) = false) := by cases nb <;> simp_all
      rcases hnn with rfl | ⟨rfl, hn6⟩
      all_goals
        go_wp2_with (go_at_call 92; fail)
        refine (hW.out _ bw2).mono ?_
        rintro e w3 ⟨k, n, s, c, hR, rfl, hb3⟩
        have HRV : Hid (R (tV k n s c)) := hR
        clear hR
        simp only [tV]
        obtain ⟨hc3, hf3⟩ := bcell hb3
        have hz3 : w1.heap.size < w3.heap.size := by have := hb3.size; omega
        have hy3 : w.heap.size < w3.heap.size := by omega
        have bw3 : Below w.heap.size w w3 := bw2.trans (hb3.mono bw2.size)
        have b12 : Below wr.heap.size wr w2 := (hb1.alloc hb1.size _).trans (hb2.mono (by have := hb1.size; simp; omega))
        have b13 : Below wr.heap.size wr w3 := b12.trans (hb3.mono b12.size)
        have p0 := (b13.cell (p := ⟨w.heap.size, 0, none⟩) hwr).trans q0
        have p1 := (b13.cell (p := ⟨w.heap.size, 1, none⟩) hwr).trans q1
        have p2 := (b13.cell (p := ⟨w.heap.size, 2, none⟩) hwr).trans q2
        have j0 := (b13.frozen (p := ⟨w.heap.size, 0, none⟩) hwr).trans f0
        have j1 := (b13.frozen (p := ⟨w.heap.size, 1, none⟩) hwr).trans f1
        have j2 := (b13.frozen (p := ⟨w.heap.size, 2, none⟩) hwr).trans f2
        clear b12 b13 hc1 hf1 hc2 hf2 hc3 hf3
        go_wp2
        refine bodyPost_ret (v := tV k n s c) (by simp [results, Tryz.results20, go_sem, tV, p0, p1, p2, j0, j1, j2, hy3]) rfl ⟨_, HRV.out, rfl, ?_⟩
        exact ((bw3.setCell (Nat.le_refl _) _).setCell (Nat.le_refl _) _).setCell (Nat.le_refl _) _
end Go.Proofs.YtdcdoeolaongkaaGreatDoor.Ca
namespace Go.Proofs.YtdcdoeolaongkaaGreatDoor.Ca
open Go.MapKept Go.ChangeMaps
open Go.ChangeShapes Go.WideShapes Go.ChangeAt Go.RowKit Go.Shelf
open Go.Proofs.YtdcdoeolaongkaaGreatDoor.Rd
set_option linter.unusedVariables false
set_option linter.unusedSimpArgs false
set_option maxRecDepth 100000
set_option maxHeartbeats 16000000 in
theorem callI_9 (ar : List TA) (a : Option Addr) (cap : Nat) (w : World) (h8 : ar.length ≤ 8) (hr : RVO w (.slice a ar.length cap) ar) (hsz : ∀ t ∈ ar, t.2.2.size ≤ 1048576) (hT : Tabs w) (hv : Hid (∀ t ∈ ar, vok t.1 t.2.1 t.2.2 = true)) (hg : Hid ((Mp.gvK 9 (kindsA ar) == -1) = false)) (hnu : Hid ((nullsA ar && (9 : Int) != 6) = false)) (R : Value → Prop)
    (hW : Hid (∀ W, Below w.heap.size w W → Calls Tryz.prog 93 #[.slice a ar.length cap] W fun e w' => ∃ k n s c, R (tV k n s c) ∧ e = .returned (tV k n s c) ∧ Below W.heap.size W w')) :
    Calls Tryz.prog 20 #[.int .i64 9, .slice a ar.length cap] w fun e w' => ∃ V, R V ∧ e = .returned V ∧ Below w.heap.size w w' := by
  obtain ⟨i0, hi, hz0, hz1, hz2⟩ := info_parts info3
  have hrr := hr
  obtain ⟨a', cap', hsl, hcells⟩ := hr
  simp only [Value.slice.injEq] at hsl
  obtain ⟨rfl, _, rfl⟩ := hsl
  have h8i : ¬ (8 : Int) < ar.length := by omega
  have bw0 := below_alloc w (.cells #[.int .i64 0, .int .i64 0, .string ⟨#[]⟩] 29)
  have HRR : Hid (RVO w (.slice a ar.length cap) ar) := hrr
  clear hrr
  go_enter Tryz.func20, Tryz.ntmps20
  go_wp2
  generalize hW0 : w.alloc (.cells #[.int .i64 0, .int .i64 0, .string ⟨#[]⟩] 29) = W0 at *
  have hs0 : w.heap.size < W0.heap.size := by rw [← hW0]; simp
  have r0 : W0.cell? ⟨w.heap.size, 0, none⟩ = some (.int .i64 0) ∧ W0.cell? ⟨w.heap.size, 1, none⟩ = some (.int .i64 0) ∧ W0.cell? ⟨w.heap.size, 2, none⟩ = some (.string ⟨#[]⟩) ∧ W0.frozen? ⟨w.heap.size, 0, none⟩ = false ∧ W0.frozen? ⟨w.heap.size, 1, none⟩ = false ∧ W0.frozen? ⟨w.heap.size, 2, none⟩ = false := by
    rw [← hW0]; simp [go_sem]
  have HR0 : Hid _ := r0
  have HB0 : Hid (Below w.heap.size w W0) := bw0
  clear r0 bw0 hW0
  go_loopw [6, 7, 9, 18] (fun kv nb _ i wr => ∃ k : Nat, k ≤ ar.length ∧ i = .int .i64 k ∧ nb = .bool (nullsA (ar.take k)) ∧ OwnK W0.heap.size kv k (kindsA (ar.take k)) wr ∧ Below W0.heap.size W0 wr) (fun _ _ _ i _ => ar.length - (intOf i).toNat)
  case atStart => exact ⟨0, Nat.zero_le _, rfl, rfl, (⟨rfl, .inl ⟨rfl, rfl⟩⟩ : W0.ownsRow W0.heap.size 3 1 (.slice none 0 0) 0 []), Below.refl _ _⟩
  case round =>
    obtain ⟨k, hk, rfl, rfl, hoK, hbel⟩ := hrel
    have ho : wr.ownsRow W0.heap.size 3 1 _ k ((kindsA (ar.take k)).map (Value.int .i64)) := hoK
    clear hoK
    have hbs := hbel.size
    by_cases hlt : k < ar.length
    · have hlti : (k : Int) < ar.length := by omega
      obtain ⟨g, o, rfl, hgg, hgc⟩ := hcells (by omega)
      have bww : Below w.heap.size w wr := HB0.out.trans (hbel.mono (by omega))
      obtain ⟨c0, c1, c2⟩ := hgc k hlt
      have d0 := (bww.cell (p := ⟨g, o + k * 3, none⟩) hgg).trans c0
      have d1 := (bww.cell (p := ⟨g, o + k * 3 + 1, none⟩) hgg).trans c1
      have d2 := (bww.cell (p := ⟨g, o + k * 3 + 2, none⟩) hgg).trans c2
      have hsx := hsz ar[k] (List.getElem_mem hlt)
      have hvx := hv.out ar[k] (List.getElem_mem hlt)
      have HTK : Hid (ar.take (k + 1) = ar.take k ++ [ar[k]]) := take_snoc hlt
      clear c0 c1 c2 hgc hcells hsz
      generalize ar[k] = t at *
      obtain ⟨tk, tn, ts⟩ := t
      simp only at d0 d1 d2 hsx hvx
      have HVX : Hid (vok tk tn ts = true) := hvx
      clear hvx
      have HNB : Hid (nullsA (ar.take (k + 1)) = (nullsA (ar.take k) || tk == 0)) := (by rw [HTK.out, nullsA_snoc] : nullsA (ar.take (k + 1)) = (nullsA (ar.take k) || tk == 0))
      generalize nullsA (ar.take k) = nb at *
      have cs : nb = true ∨ (nb = false ∧ (tk == 0) = true) ∨ (nb = false ∧ (tk == 0) = false) := by cases nb <;> cases (tk == 0) <;> simp
      have hVX := fun W (h : Below w.heap.size w W) => vok_impl tk tn ts W hsx (tabs_below hT h)
      rw [HVX.out] at hVX
      rcases cs with rfl | ⟨rfl, ez⟩ | ⟨rfl, ez⟩
      all_goals
        go_wp2_with (first | (go_at_call 43; refine (hVX _ (bww.alloc bww.size _)).mono ?_; rintro e w1 ⟨rfl, hb1⟩; obtain ⟨hc1, hf1⟩ := bcell hb1; have hz1w : wr.heap.size < w1.heap.size := (by have := hb1.size; simp at this; omega); have bw1 : Below W0.heap.size W0 w1 := (hbel.alloc hbs _).trans (hb1.mono (by simp; omega)); have ho1 := own_below (ho.alloc _) hb1; have e0 : w1.cell? ⟨wr.heap.size, 0, none⟩ = some (.int .i64 tk) := (hc1 wr.heap.size 0 (by simp)).trans (by simp [go_sem])) | (at_builtin; refine wpList_append_own _ rfl (.tmp 26) (.tmp 29) 22 rfl W0.heap.size 3 i0 (.int .i64 0) 1 8 Tryz.underlying22 hi hz0 hz1 hz2 rfl (by decide) _ k ((kindsA (ar.take k)).map (Value.int .i64)) rfl (ho1.alloc _) ⟨w1.heap.size, 0, none⟩ 1 1 [.int .i64 tk] rfl rfl (cell_one_new _ _ _) (by intro u hu; simp at hu; subst hu; rfl) (by unfold maxLen; omega) (by omega) (by have := bw1.size; simp; omega) ?_; intro v' w2 hown' hgrow _; have bw2 : Below W0.heap.size W0 w2 := (bw1.alloc bw1.size _).grown hgrow (by have := bw1.size; simp; omega) (fun j hj => (ho1.lt j hj).1); have e2 : w2.cell? ⟨wr.heap.size, 0, none⟩ = some (.int .i64 tk) := (cell_grown hgrow (by simp; omega) (fun e => by have := (ho.lt wr.heap.size e.symm).2; omega)).trans (((below_alloc w1 _).cell (p := ⟨wr.heap.size, 0, none⟩) hz1w).trans e0); have HOW : Hid (OwnK W0.heap.size v' (k + 1) (kindsA (ar.take (k + 1))) w2) := OwnK.of HTK.out hown'; clear hown' hgrow))
        go_roundw
        case rel => exact ⟨k + 1, by omega, by go_num, by rw [HNB.out]; first | (rw [ez]; rfl) | rfl, HOW.out, bw2⟩
        case measure => simp [intOf]; omega
    · have hkn : k = ar.length := by omega
      subst hkn
      have hlti : ¬ (ar.length : Int) < ar.length := by omega
      rw [List.take_length] at ho
      rw [List.take_length]
      have hnu' := hnu.out
      generalize nullsA ar = nb at *
      have hkl : (kindsA ar).length = ar.length := by simp [kindsA]
      rw [← hkl] at ho
      obtain ⟨ka, kc, rfl, hrio⟩ := own_rio ho
      clear ho
      generalize hks : kindsA ar = ks at *
      have HKL : Hid (ks.length = ar.length) := hkl
      have bww : Below w.heap.size w wr := HB0.out.trans (hbel.mono (by omega))
      obtain ⟨q0, q1, q2, f0, f1, f2⟩ := HR0.out
      have q0 := (hbel.cell (p := ⟨w.heap.size, 0, none⟩) (by show w.heap.size < _; omega)).trans q0
      have q1 := (hbel.cell (p := ⟨w.heap.size, 1, none⟩) (by show w.heap.size < _; omega)).trans q1
      have q2 := (hbel.cell (p := ⟨w.heap.size, 2, none⟩) (by show w.heap.size < _; omega)).trans q2
      have f0 := (hbel.frozen (p := ⟨w.heap.size, 0, none⟩) (by show w.heap.size < _; omega)).trans f0
      have f1 := (hbel.frozen (p := ⟨w.heap.size, 1, none⟩) (by show w.heap.size < _; omega)).trans f1
      have f2 := (hbel.frozen (p := ⟨w.heap.size, 2, none⟩) (by show w.heap.size < _; omega)).trans f2
      have hwr : w.heap.size < wr.heap.size := by omega
      have hn20 : ks.length ≤ 1048576 := by rw [hkl]; omega
      clear hkl hks hbel HR0 HB0
      go_wp2_with (go_at_call 39; fail)
      refine (Mp.table_any _).mono ?_
      rintro e w1 ⟨rfl, hst⟩
      obtain ⟨l, hm, hks, hgood, hb1⟩ := hst
      have hrun := hm.look Tryz.underlying72 Tryz.underlying3 (Tryz.zeroValue70 _) 9
      obtain ⟨v, hv1, hv2⟩ := Mp.lookL_some (l := l) (k := 9) (by rw [hks]; decide)
      obtain ⟨g, hvg, hG⟩ := hgood _ hv2
      replace hG : Mp.GoodG w1 wr.heap.size 9 g := hG
      simp only at hvg
      rw [show Mp.workN 9 = 93 from rfl] at hvg
      subst hvg
      rw [hv1] at hrun
      simp only [Option.getD_some, Option.isSome_some] at hrun
      obtain ⟨hc1, hf1⟩ := bcell hb1
      have hz1 : w.heap.size < w1.heap.size := by have := hb1.size; omega
      have bw1 : Below w.heap.size w w1 := bww.trans (hb1.mono bww.size)
      have hrio1 := hrio.below hb1
      clear hgood hks hm hv1 hv2 hrio
      have hT2 : Mp.Taker w1 wr.heap.size g (Mp.resK 9) (Mp.wantK 9) := hG
      have HG : Hid (Mp.gvK 9 ks = Mp.takeK (Mp.resK 9) (Mp.wantK 9) ks) := rfl
      have hgne : (Mp.takeK (Mp.resK 9) (Mp.wantK 9) ks == -1) = false := hg.out
      have HWL : Hid ((Mp.wantK 9).length ≤ 100) := (by decide : (Mp.wantK 9).length ≤ 100)
      clear hG
      generalize Mp.resK 9 = rs at *
      generalize Mp.wantK 9 = wsl at *
      obtain ⟨bw_, br, sb, rfl, _, ⟨l1, l2, l3⟩, t1, t2, t3⟩ := hT2
      have HTK : Hid ((bw_ < w1.heap.size ∧ br < w1.heap.size ∧ sb < w1.heap.size) ∧ w1.cell? ⟨bw_, 0, none⟩ = some (.slice (some ⟨sb, 0, none⟩) wsl.length wsl.length) ∧ w1.cell? ⟨br, 0, none⟩ = some (.int .i64 rs) ∧ ∀ i (h : i < wsl.length), w1.cell? ⟨sb, i, none⟩ = some (.int .i64 wsl[i])) := ⟨⟨l1, l2, l3⟩, t1, t2, t3⟩
      clear t1 t2 t3 l1 l2 l3
      go_wp2_with (go_at_call 149; fail)
      refine (Mp.taking1_any 0 rs wsl ks _ _ bw_ br sb _ hn20 HWL.out (hrio1.below (below_alloc _ _)) (((below_alloc w1 _).cell (p := ⟨bw_, 0, none⟩) HTK.out.1.1).trans HTK.out.2.1) (((below_alloc w1 _).cell (p := ⟨br, 0, none⟩) HTK.out.1.2.1).trans HTK.out.2.2.1) (fun i hi => ((below_alloc w1 _).cell (p := ⟨sb, i, none⟩) HTK.out.1.2.2).trans (HTK.out.2.2.2 i hi))).mono ?_
      rintro e w2 ⟨rfl, hbe2⟩
      have hb2 : Below (w1.alloc (.cells #[Value.func (Fn.func 149) #[] #[Value.pointer (some ⟨bw_, 0, none⟩), Value.pointer (some ⟨br, 0, none⟩)], Value.func (Fn.func 93) #[] #[]] 70)).heap.size (w1.alloc (.cells #[Value.func (Fn.func 149) #[] #[Value.pointer (some ⟨bw_, 0, none⟩), Value.pointer (some ⟨br, 0, none⟩)], Value.func (Fn.func 93) #[] #[]] 70)) w2 := by rw [hbe2]; exact Below.refl _ _
      clear hbe2
      generalize Mp.takeK rs wsl ks = gr at *
      obtain ⟨hc2, hf2⟩ := bcell hb2
      have hz2 : w1.heap.size < w2.heap.size := by have := hb2.size; simp at this; omega
      have hy2 : w.heap.size < w2.heap.size := by omega
      have bw1a : Below w.heap.size w (w1.alloc (.cells #[Value.func (Fn.func 149) #[] #[Value.pointer (some ⟨bw_, 0, none⟩), Value.pointer (some ⟨br, 0, none⟩)], Value.func (Fn.func 93) #[] #[]] 70)) := bw1.alloc bw1.size _
      have bw2 : Below w.heap.size w w2 := bw1a.trans (hb2.mono bw1a.size)
      have hnn : nb = false ∨ (nb = true ∧ ((9 : Int) != 6) = false) := by cases nb <;> simp_all
      rcases hnn with rfl | ⟨rfl, hn6⟩
      all_goals
        go_wp2_with (go_at_call 93; fail)
        refine (hW.out _ bw2).mono ?_
        rintro e w3 ⟨k, n, s, c, hR, rfl, hb3⟩
        have HRV : Hid (R (tV k n s c)) := hR
        clear hR
        simp only [tV]
        obtain ⟨hc3, hf3⟩ := bcell hb3
        have hz3 : w1.heap.size < w3.heap.size := by have := hb3.size; omega
        have hy3 : w.heap.size < w3.heap.size := by omega
        have bw3 : Below w.heap.size w w3 := bw2.trans (hb3.mono bw2.size)
        have b12 : Below wr.heap.size wr w2 := (hb1.alloc hb1.size _).trans (hb2.mono (by have := hb1.size; simp; omega))
        have b13 : Below wr.heap.size wr w3 := b12.trans (hb3.mono b12.size)
        have p0 := (b13.cell (p := ⟨w.heap.size, 0, none⟩) hwr).trans q0
        have p1 := (b13.cell (p := ⟨w.heap.size, 1, none⟩) hwr).trans q1
        have p2 := (b13.cell (p := ⟨w.heap.size, 2, none⟩) hwr).trans q2
        have j0 := (b13.frozen (p := ⟨w.heap.size, 0, none⟩) hwr).trans f0
        have j1 := (b13.frozen (p := ⟨w.heap.size, 1, none⟩) hwr).trans f1
        have j2 := (b13.frozen (p := ⟨w.heap.size, 2, none⟩) hwr).trans f2
        clear b12 b13 hc1 hf1 hc2 hf2 hc3 hf3
        go_wp2
        refine bodyPost_ret (v := tV k n s c) (by simp [results, Tryz.results20, go_sem, tV, p0, p1, p2, j0, j1, j2, hy3]) rfl ⟨_, HRV.out, rfl, ?_⟩
        exact ((bw3.setCell (Nat.le_refl _) _).setCell (Nat.le_refl _) _).setCell (Nat.le_refl _) _
end Go.Proofs.YtdcdoeolaongkaaGreatDoor.Ca
namespace Go.Proofs.YtdcdoeolaongkaaGreatDoor.Dt
open Go.ChangeShapes Go.WideShapes Go.ChangeAt Go.RowKit Go.Shelf
open Go.Proofs.YtdcdoeolaongkaaGreatDoor.Rd
set_option linter.unusedVariables false
set_option linter.unusedSimpArgs false
set_option maxRecDepth 100000
set_option maxHeartbeats 1000000 in
theorem shifted_one (n : Int) (w : World) (h1 : -719162 ≤ n) (h2 : n < 2932896) : Calls Tryz.prog 122 #[.int .i64 1, .int .i64 n, .int .i64 1] w fun e w' => e = .returned (cV 5 (n + 1) 0) ∧ Below w.heap.size w w' := by
  have d1 : (decide (-719162 ≤ n + 1) && decide (n + 1 ≤ 2932896)) = true := by simp; omega
  have bw0 := below_alloc w (.cells #[.int .i64 0, .int .i64 0, .string ⟨#[]⟩] 29)
  go_enter Tryz.func122, Tryz.ntmps122
  go_wp2_with (go_at_call 52; refine (within_any _ _ _ _).mono ?_; (try rw [d1]); rintro e w0 ⟨rfl, hw⟩; rw [hw]; clear hw w0)
  refine bodyPost_ret (v := cV 5 (n + 1) 0) (by simp [results, Tryz.results122, go_sem, cV]) rfl ⟨rfl, ?_⟩
  go_light
  repeat (first | with_reducible exact Below.refl _ _ | refine Below.setCell ?_ (by simp) _ | refine Below.alloc ?_ (by simp) _)
set_option maxHeartbeats 2000000 in
theorem arith_day (n : Int) (w : World) (h1 : -719162 ≤ n) (h2 : n < 2932896) : Calls Tryz.prog 62 #[.int .i64 1, .agg #[.int .i64 5, .int .i64 n, .string ⟨#[]⟩], .agg #[.int .i64 1, .int .i64 1, .string ⟨#[]⟩]] w fun e w' => e = .returned (cV 5 (n + 1) 0) ∧ Below w.heap.size w w' := by
  have bw0 : Below w.heap.size w (((w.alloc (.cells #[.int .i64 5, .int .i64 n, .string ⟨#[]⟩] 29)).alloc (.cells #[.int .i64 1, .int .i64 1, .string ⟨#[]⟩] 29)).alloc (.cells #[.int .i64 0, .int .i64 0, .string ⟨#[]⟩] 29)) := ((below_alloc w _).alloc (by simp) _).alloc (by simp; omega) _
  go_enter Tryz.func62, Tryz.ntmps62
  go_wp2_with (go_at_call 122; fail)
  refine (shifted_one n _ h1 h2).mono ?_
  simp only [cV]
  rintro e w1 ⟨rfl, hb⟩
  obtain ⟨hc, hf⟩ := bcell hb
  have hz : w.heap.size + 1 + 1 < w1.heap.size := by have := hb.size; simp at this; omega
  have bw1 : Below w.heap.size w w1 := bw0.trans (hb.mono (by simp; omega))
  go_wp2
  refine bodyPost_ret (v := cV 5 (n + 1) 0) (by simp [results, Tryz.results62, go_sem, cV, hc, hf, hz]) rfl ⟨rfl, ?_⟩
  exact ((bw1.setCell (by show _ ≤ w.heap.size + 1 + 1; omega) _).setCell (by show _ ≤ w.heap.size + 1 + 1; omega) _).setCell (by show _ ≤ w.heap.size + 1 + 1; omega) _
set_option maxHeartbeats 4000000 in
theorem binary_day (n : Int) (w : World) (h1 : -719162 ≤ n) (h2 : n < 2932896) (hT : Tabs w) : Calls Tryz.prog 22 #[.int .i64 1, .agg #[.int .i64 5, .int .i64 n, .string ⟨#[]⟩], .agg #[.int .i64 1, .int .i64 1, .string ⟨#[]⟩]] w fun e w' => e = .returned (cV 5 (n + 1) 0) ∧ Below w.heap.size w w' := by
  have bw0 : Below w.heap.size w (((w.alloc (.cells #[.int .i64 5, .int .i64 n, .string ⟨#[]⟩] 29)).alloc (.cells #[.int .i64 1, .int .i64 1, .string ⟨#[]⟩] 29)).alloc (.cells #[.int .i64 0, .int .i64 0, .string ⟨#[]⟩] 29)) := ((below_alloc w _).alloc (by simp) _).alloc (by simp; omega) _
  have v1 : vok 5 n ⟨#[]⟩ = true := by
    unfold vok
    rw [if_neg (by omega), if_neg (by omega), if_neg (by omega), if_neg (by omega), if_neg (by omega), if_pos rfl]
    have e : (⟨#[]⟩ : ByteArray).toList.isEmpty = true := by rw [Lib.toList_data]; rfl
    rw [e]; simp; omega
  have v2 : vok 1 1 ⟨#[]⟩ = true := by
    unfold vok
    rw [if_neg (by omega), if_pos rfl, Lib.toList_data]; rfl
  have HV1 : Hid (vok 5 n ⟨#[]⟩ = true) := v1
  have HV2 : Hid (vok 1 1 ⟨#[]⟩ = true) := v2
  have HO : Hid (Ok.opk 1 5 1 = 5) := (by decide : Ok.opk 1 5 1 = 5)
  clear v1 v2
  go_enter Tryz.func22, Tryz.ntmps22
  go_wp2_with (first | (go_at_call 52; refine (within_any _ _ _ _).mono ?_; rintro e w0 ⟨rfl, hw⟩; rw [hw]; clear hw w0) | (go_at_call 43; fail))
  refine (vok_impl 5 n ⟨#[]⟩ _ (by decide) (tabs_below hT bw0)).mono ?_
  rw [HV1.out]
  rintro e w1 ⟨rfl, hb⟩
  obtain ⟨hc, hf⟩ := bcell hb
  have hz : w.heap.size + 1 + 1 < w1.heap.size := by have := hb.size; simp at this; omega
  have hy : w.heap.size + 1 < w1.heap.size := by omega
  have hx : w.heap.size < w1.heap.size := by omega
  have bw1 : Below w.heap.size w w1 := bw0.trans (hb.mono (by simp; omega))
  go_wp2_with (go_at_call 43; fail)
  refine (vok_impl 1 1 ⟨#[]⟩ _ (by decide) (tabs_below hT bw1)).mono ?_
  rw [HV2.out]
  rintro e w2 ⟨rfl, hb2⟩
  obtain ⟨hc2, hf2⟩ := bcell hb2
  have hz2 : w.heap.size + 1 + 1 < w2.heap.size := by have := hb2.size; omega
  have hy2 : w.heap.size + 1 < w2.heap.size := by omega
  have hx2 : w.heap.size < w2.heap.size := by omega
  have bw2 : Below w.heap.size w w2 := bw1.trans (hb2.mono bw1.size)
  go_wp2_with (go_at_call 56; fail)
  refine (Ok.opKind_impl _ _ _ _).mono ?_
  rw [HO.out]
  rintro e w3 ⟨rfl, hb3⟩
  obtain ⟨hc3, hf3⟩ := bcell hb3
  have hz3 : w.heap.size + 1 + 1 < w3.heap.size := by have := hb3.size; omega
  have hy3 : w.heap.size + 1 < w3.heap.size := by omega
  have hx3 : w.heap.size < w3.heap.size := by omega
  have bw3 : Below w.heap.size w w3 := bw2.trans (hb3.mono bw2.size)
  go_wp2_with (go_at_call 62; fail)
  refine (arith_day n _ h1 h2).mono ?_
  simp only [cV]
  rintro e w4 ⟨rfl, hb4⟩
  obtain ⟨hc4, hf4⟩ := bcell hb4
  have hz4 : w.heap.size + 1 + 1 < w4.heap.size := by have := hb4.size; omega
  have bw4 : Below w.heap.size w w4 := bw3.trans (hb4.mono bw3.size)
  go_wp2
  refine bodyPost_ret (v := cV 5 (n + 1) 0) (by simp [results, Tryz.results22, go_sem, cV, hc, hf, hz, hy, hx, hc2, hf2, hz2, hc3, hf3, hz3, hc4, hf4, hz4]) rfl ⟨rfl, ?_⟩
  exact ((bw4.setCell (by show _ ≤ w.heap.size + 1 + 1; omega) _).setCell (by show _ ≤ w.heap.size + 1 + 1; omega) _).setCell (by show _ ≤ w.heap.size + 1 + 1; omega) _
theorem num_le {y m d : Int} (v : Days.vld y m d) : Days.num y m d ≤ 2932896 := by
  obtain ⟨_, _, h3, _⟩ := Days.num_in y m d v
  obtain ⟨⟨y1, y9⟩, _⟩ := v
  have h4 := Days.dbef_mono (y + 1) 10000 (by omega) (by omega)
  have h5 := Days.dbef_top
  omega
theorem num_year (y : Int) (h : 1 ≤ y) (h31 : Days.mdays y 12 = 31) : Days.num (y + 1) 1 1 = Days.num y 12 31 + 1 := by
  have e1 := Days.dbef_succ y h
  have e2 := Days.cum_step y 12 (by omega)
  have e3 : (12 - 1 : Int).toNat = 11 := by decide
  have e4 : (1 - 1 : Int).toNat = 0 := by decide
  have e5 : Days.cumTo (y + 1) 0 = 0 := rfl
  have e6 : ((12 : Nat) : Int) = 12 := rfl
  rw [e6, h31] at e2
  unfold Days.num
  rw [e3, e4, e5]
  have e7 : (12 - 1 : Nat) = 11 := rfl
  rw [e7] at e2
  omega
/-- The next day. -/
theorem next_day {y m d y2 m2 d2 : Int} (v : Days.vld y m d) (v2 : Days.vld y2 m2 d2) (h : Days.num y2 m2 d2 = Days.num y m d + 1) :
    (d < Days.mdays y m ∧ y2 = y ∧ m2 = m ∧ d2 = d + 1) ∨ (d = Days.mdays y m ∧ m < 12 ∧ y2 = y ∧ m2 = m + 1 ∧ d2 = 1) ∨ (d = 31 ∧ m = 12 ∧ y2 = y + 1 ∧ m2 = 1 ∧ d2 = 1) := by
  have V := v
  obtain ⟨⟨y1, y9⟩, ⟨m1, m9⟩, d1, d9⟩ := v
  by_cases c1 : d < Days.mdays y m
  · left
    have hv : Days.vld y m (d + 1) := ⟨⟨y1, y9⟩, ⟨m1, m9⟩, by omega, by omega⟩
    have hn : Days.num y m (d + 1) = Days.num y m d + 1 := by unfold Days.num; omega
    obtain ⟨a, b, c⟩ := Days.num_inj _ _ _ _ _ _ v2 hv (h.trans hn.symm)
    exact ⟨c1, a, b, c⟩
  have hd : d = Days.mdays y m := by omega
  by_cases c2 : m < 12
  · right; left
    have hmb := Days.mdays_bd y (m + 1)
    have hv : Days.vld y (m + 1) 1 := ⟨⟨y1, y9⟩, ⟨by omega, by omega⟩, by omega, by omega⟩
    have hn : Days.num y (m + 1) 1 = Days.num y m d + 1 := by
      unfold Days.num
      have e : Days.cumTo y (m + 1 - 1).toNat = Days.cumTo y (m - 1).toNat + Days.mdays y m := by
        have := Days.cum_step y (m + 1 - 1).toNat (by omega)
        rw [show (m + 1 - 1).toNat - 1 = (m - 1).toNat by omega, show (((m + 1 - 1).toNat : Nat) : Int) = m by omega] at this
        exact this
      omega
    obtain ⟨a, b, c⟩ := Days.num_inj _ _ _ _ _ _ v2 hv (h.trans hn.symm)
    exact ⟨hd, c2, a, b, c⟩
  · right; right
    have hm : m = 12 := by omega
    subst hm
    have h31 : Days.mdays y 12 = 31 := by unfold Days.mdays; rw [if_neg (by omega), if_neg (by omega)]
    have hy : y < 9999 := by
      rcases Int.lt_or_le y 9999 with c | c
      · exact c
      · exfalso
        have : y = 9999 := by omega
        subst this
        rw [h31] at hd
        subst hd
        have h9 := num_le v2
        have e9 : Days.num 9999 12 31 = 2932896 := by decide
        omega
    have hv : Days.vld (y + 1) 1 1 := ⟨⟨by omega, by omega⟩, ⟨by omega, by omega⟩, by omega, by have := Days.mdays_bd (y + 1) 1; omega⟩
    have hn : Days.num (y + 1) 1 1 = Days.num y 12 d + 1 := by
      rw [hd, h31]
      exact num_year y y1 h31
    obtain ⟨a, b, c⟩ := Days.num_inj _ _ _ _ _ _ v2 hv (h.trans hn.symm)
    exact ⟨hd.trans h31, rfl, a, b, c⟩
end Go.Proofs.YtdcdoeolaongkaaGreatDoor.Dt
namespace Go.Proofs.YtdcdoeolaongkaaGreatDoor.Dt
open Go.ChangeShapes Go.WideShapes Go.ChangeAt Go.RowKit Go.Shelf
open Go.Proofs.YtdcdoeolaongkaaGreatDoor.Rd
set_option linter.unusedVariables false
set_option linter.unusedSimpArgs false
set_option maxRecDepth 100000
theorem parts_at {y m d n : Int} (v : Days.vld y m d) (hn : Days.num y m d = n) (h1 : -719162 ≤ n) (h2 : n ≤ 2932896) (w : World) : Calls Tryz.prog 18 #[.int .i64 n] w fun e w' => e = .returned (.tuple #[.int .i64 y, .int .i64 m, .int .i64 d, .int .i64 0]) ∧ w' = w :=
  (Days.parts_impl n w h1 h2).mono (by
    rintro e w' ⟨y', m', d', rfl, v', hn', rfl⟩
    obtain ⟨rfl, rfl, rfl⟩ := Days.num_inj _ _ _ _ _ _ v' v (hn'.trans hn.symm)
    exact ⟨rfl, rfl⟩)
theorem vok_day {n : Int} (h1 : -719162 ≤ n) (h2 : n ≤ 2932896) : vok 5 n ⟨#[]⟩ = true := by
  unfold vok
  rw [if_neg (by omega), if_neg (by omega), if_neg (by omega), if_neg (by omega), if_neg (by omega), if_pos rfl]
  have e : (⟨#[]⟩ : ByteArray).toList.isEmpty = true := by rw [Lib.toList_data]; rfl
  rw [e]; simp; omega
set_option maxHeartbeats 1000000 in
theorem year_at {y m d n : Int} (v : Days.vld y m d) (hn : Days.num y m d = n) (h1 : -719162 ≤ n) (h2 : n ≤ 2932896) (g : Nat) (w : World) (hg : g < w.heap.size) (hc : w.cell? ⟨g, 1, none⟩ = some (.int .i64 n)) : Calls Tryz.prog 91 #[.slice (some ⟨g, 0, none⟩) 1 1] w fun e w' => e = .returned (cV 1 y 0) ∧ Below w.heap.size w w' := by
  have hcon := fun w => parts_at v hn h1 h2 w
  have bw0 := below_alloc w (.cells #[.int .i64 0, .int .i64 0, .string ⟨#[]⟩] 29)
  have hc' := (bw0.cell (p := ⟨g, 1, none⟩) hg).trans hc
  clear v hn
  go_enter Tryz.func91, Tryz.ntmps91
  go_wp2_with (first | (go_at_call 18; refine (hcon _).mono ?_; rintro e w0 ⟨rfl, hw⟩; rw [hw]; clear hw w0) | (go_at_call 49; fail))
  refine (numbered_ok 1 y _).mono ?_
  rintro e w1 ⟨rfl, hb⟩
  obtain ⟨hc1, hf1⟩ := bcell hb
  have hz : w.heap.size < w1.heap.size := by have := hb.size; simp at this; omega
  have bw1 : Below w.heap.size w w1 := bw0.trans (hb.mono (by simp))
  go_wp2
  refine bodyPost_ret (v := cV 1 y 0) (by simp [results, Tryz.results91, go_sem, cV, hc1, hf1, hz]) rfl ⟨rfl, ?_⟩
  exact ((bw1.setCell (Nat.le_refl _) _).setCell (Nat.le_refl _) _).setCell (Nat.le_refl _) _
theorem call_year {y m d n : Int} (v : Days.vld y m d) (hn : Days.num y m d = n) (h1 : -719162 ≤ n) (h2 : n ≤ 2932896) (g : Nat) (w : World) (hg : g < w.heap.size) (hT : Tabs w) (c0 : w.cell? ⟨g, 0, none⟩ = some (.int .i64 5)) (c1 : w.cell? ⟨g, 1, none⟩ = some (.int .i64 n)) (c2 : w.cell? ⟨g, 2, none⟩ = some (.string ⟨#[]⟩)) :
    Calls Tryz.prog 20 #[.int .i64 7, .slice (some ⟨g, 0, none⟩) 1 1] w fun e w' => e = .returned (cV 1 y 0) ∧ Below w.heap.size w w' := by
  have h := Ca.callI_7 [((5 : Int), n, (⟨#[]⟩ : ByteArray))] (some ⟨g, 0, none⟩) 1 w (by simp) ⟨_, _, rfl, fun _ => ⟨g, 0, rfl, hg, fun i hi => by
    have : i = 0 := by simp at hi; omega
    subst this
    exact ⟨by simpa using c0, by simpa using c1, by simpa using c2⟩⟩⟩ (by intro t ht; rw [List.mem_singleton] at ht; subst ht; exact Nat.zero_le _) hT (by intro t ht; rw [List.mem_singleton] at ht; subst ht; exact vok_day h1 h2) (by show (Mp.gvK 7 [5] == -1) = false; decide) (by show (Ca.nullsA [((5 : Int), n, (⟨#[]⟩ : ByteArray))] && (7 : Int) != 6) = false; simp [Ca.nullsA]) (fun V => V = cV 1 y 0)
    (fun W hW => (year_at v hn h1 h2 g W (Nat.lt_of_lt_of_le hg hW.size) ((hW.cell (p := ⟨g, 1, none⟩) hg).trans c1)).mono (by
      rintro e w' ⟨rfl, hb⟩
      exact ⟨1, y, ⟨#[]⟩, 0, rfl, rfl, hb⟩))
  refine h.mono ?_
  rintro e w' ⟨V, rfl, rfl, hb⟩
  exact ⟨rfl, hb⟩
set_option maxHeartbeats 1000000 in
theorem month_at {y m d n : Int} (v : Days.vld y m d) (hn : Days.num y m d = n) (h1 : -719162 ≤ n) (h2 : n ≤ 2932896) (g : Nat) (w : World) (hg : g < w.heap.size) (hc : w.cell? ⟨g, 1, none⟩ = some (.int .i64 n)) : Calls Tryz.prog 92 #[.slice (some ⟨g, 0, none⟩) 1 1] w fun e w' => e = .returned (cV 1 m 0) ∧ Below w.heap.size w w' := by
  have hcon := fun w => parts_at v hn h1 h2 w
  have bw0 := below_alloc w (.cells #[.int .i64 0, .int .i64 0, .string ⟨#[]⟩] 29)
  have hc' := (bw0.cell (p := ⟨g, 1, none⟩) hg).trans hc
  clear v hn
  go_enter Tryz.func92, Tryz.ntmps92
  go_wp2_with (first | (go_at_call 18; refine (hcon _).mono ?_; rintro e w0 ⟨rfl, hw⟩; rw [hw]; clear hw w0) | (go_at_call 49; fail))
  refine (numbered_ok 1 m _).mono ?_
  rintro e w1 ⟨rfl, hb⟩
  obtain ⟨hc1, hf1⟩ := bcell hb
  have hz : w.heap.size < w1.heap.size := by have := hb.size; simp at this; omega
  have bw1 : Below w.heap.size w w1 := bw0.trans (hb.mono (by simp))
  go_wp2
  refine bodyPost_ret (v := cV 1 m 0) (by simp [results, Tryz.results92, go_sem, cV, hc1, hf1, hz]) rfl ⟨rfl, ?_⟩
  exact ((bw1.setCell (Nat.le_refl _) _).setCell (Nat.le_refl _) _).setCell (Nat.le_refl _) _
theorem call_month {y m d n : Int} (v : Days.vld y m d) (hn : Days.num y m d = n) (h1 : -719162 ≤ n) (h2 : n ≤ 2932896) (g : Nat) (w : World) (hg : g < w.heap.size) (hT : Tabs w) (c0 : w.cell? ⟨g, 0, none⟩ = some (.int .i64 5)) (c1 : w.cell? ⟨g, 1, none⟩ = some (.int .i64 n)) (c2 : w.cell? ⟨g, 2, none⟩ = some (.string ⟨#[]⟩)) :
    Calls Tryz.prog 20 #[.int .i64 8, .slice (some ⟨g, 0, none⟩) 1 1] w fun e w' => e = .returned (cV 1 m 0) ∧ Below w.heap.size w w' := by
  have h := Ca.callI_8 [((5 : Int), n, (⟨#[]⟩ : ByteArray))] (some ⟨g, 0, none⟩) 1 w (by simp) ⟨_, _, rfl, fun _ => ⟨g, 0, rfl, hg, fun i hi => by
    have : i = 0 := by simp at hi; omega
    subst this
    exact ⟨by simpa using c0, by simpa using c1, by simpa using c2⟩⟩⟩ (by intro t ht; rw [List.mem_singleton] at ht; subst ht; exact Nat.zero_le _) hT (by intro t ht; rw [List.mem_singleton] at ht; subst ht; exact vok_day h1 h2) (by show (Mp.gvK 8 [5] == -1) = false; decide) (by show (Ca.nullsA [((5 : Int), n, (⟨#[]⟩ : ByteArray))] && (8 : Int) != 6) = false; simp [Ca.nullsA]) (fun V => V = cV 1 m 0)
    (fun W hW => (month_at v hn h1 h2 g W (Nat.lt_of_lt_of_le hg hW.size) ((hW.cell (p := ⟨g, 1, none⟩) hg).trans c1)).mono (by
      rintro e w' ⟨rfl, hb⟩
      exact ⟨1, m, ⟨#[]⟩, 0, rfl, rfl, hb⟩))
  refine h.mono ?_
  rintro e w' ⟨V, rfl, rfl, hb⟩
  exact ⟨rfl, hb⟩
set_option maxHeartbeats 1000000 in
theorem day_at {y m d n : Int} (v : Days.vld y m d) (hn : Days.num y m d = n) (h1 : -719162 ≤ n) (h2 : n ≤ 2932896) (g : Nat) (w : World) (hg : g < w.heap.size) (hc : w.cell? ⟨g, 1, none⟩ = some (.int .i64 n)) : Calls Tryz.prog 93 #[.slice (some ⟨g, 0, none⟩) 1 1] w fun e w' => e = .returned (cV 1 d 0) ∧ Below w.heap.size w w' := by
  have hcon := fun w => parts_at v hn h1 h2 w
  have bw0 := below_alloc w (.cells #[.int .i64 0, .int .i64 0, .string ⟨#[]⟩] 29)
  have hc' := (bw0.cell (p := ⟨g, 1, none⟩) hg).trans hc
  clear v hn
  go_enter Tryz.func93, Tryz.ntmps93
  go_wp2_with (first | (go_at_call 18; refine (hcon _).mono ?_; rintro e w0 ⟨rfl, hw⟩; rw [hw]; clear hw w0) | (go_at_call 49; fail))
  refine (numbered_ok 1 d _).mono ?_
  rintro e w1 ⟨rfl, hb⟩
  obtain ⟨hc1, hf1⟩ := bcell hb
  have hz : w.heap.size < w1.heap.size := by have := hb.size; simp at this; omega
  have bw1 : Below w.heap.size w w1 := bw0.trans (hb.mono (by simp))
  go_wp2
  refine bodyPost_ret (v := cV 1 d 0) (by simp [results, Tryz.results93, go_sem, cV, hc1, hf1, hz]) rfl ⟨rfl, ?_⟩
  exact ((bw1.setCell (Nat.le_refl _) _).setCell (Nat.le_refl _) _).setCell (Nat.le_refl _) _
theorem call_day {y m d n : Int} (v : Days.vld y m d) (hn : Days.num y m d = n) (h1 : -719162 ≤ n) (h2 : n ≤ 2932896) (g : Nat) (w : World) (hg : g < w.heap.size) (hT : Tabs w) (c0 : w.cell? ⟨g, 0, none⟩ = some (.int .i64 5)) (c1 : w.cell? ⟨g, 1, none⟩ = some (.int .i64 n)) (c2 : w.cell? ⟨g, 2, none⟩ = some (.string ⟨#[]⟩)) :
    Calls Tryz.prog 20 #[.int .i64 9, .slice (some ⟨g, 0, none⟩) 1 1] w fun e w' => e = .returned (cV 1 d 0) ∧ Below w.heap.size w w' := by
  have h := Ca.callI_9 [((5 : Int), n, (⟨#[]⟩ : ByteArray))] (some ⟨g, 0, none⟩) 1 w (by simp) ⟨_, _, rfl, fun _ => ⟨g, 0, rfl, hg, fun i hi => by
    have : i = 0 := by simp at hi; omega
    subst this
    exact ⟨by simpa using c0, by simpa using c1, by simpa using c2⟩⟩⟩ (by intro t ht; rw [List.mem_singleton] at ht; subst ht; exact Nat.zero_le _) hT (by intro t ht; rw [List.mem_singleton] at ht; subst ht; exact vok_day h1 h2) (by show (Mp.gvK 9 [5] == -1) = false; decide) (by show (Ca.nullsA [((5 : Int), n, (⟨#[]⟩ : ByteArray))] && (9 : Int) != 6) = false; simp [Ca.nullsA]) (fun V => V = cV 1 d 0)
    (fun W hW => (day_at v hn h1 h2 g W (Nat.lt_of_lt_of_le hg hW.size) ((hW.cell (p := ⟨g, 1, none⟩) hg).trans c1)).mono (by
      rintro e w' ⟨rfl, hb⟩
      exact ⟨1, d, ⟨#[]⟩, 0, rfl, rfl, hb⟩))
  refine h.mono ?_
  rintro e w' ⟨V, rfl, rfl, hb⟩
  exact ⟨rfl, hb⟩
end Go.Proofs.YtdcdoeolaongkaaGreatDoor.Dt
namespace Go.Proofs.YtdcdoeolaongkaaGreatDoor.Ca
open Go.ChangeShapes Go.WideShapes Go.ChangeAt Go.RowKit Go.Shelf
open Go.Proofs.YtdcdoeolaongkaaGreatDoor.Rd
set_option linter.unusedVariables false
set_option linter.unusedSimpArgs false
set_option maxRecDepth 100000
theorem find_year (N : Int) (h0 : 0 ≤ N) : ∀ k : Nat, 1 ≤ k → N < Days.dbef (k + 1) → ∃ y : Int, 1 ≤ y ∧ y ≤ k ∧ Days.dbef y ≤ N ∧ N < Days.dbef (y + 1)
  | 0, h, _ => by omega
  | k + 1, _, h => by
    by_cases hd : Days.dbef ((k + 1 : Nat) : Int) ≤ N
    · exact ⟨((k + 1 : Nat) : Int), by omega, by omega, hd, h⟩
    · by_cases hk : k = 0
      · subst hk
        have : Days.dbef ((0 + 1 : Nat) : Int) = 0 := by decide
        omega
      · obtain ⟨y, h1, h2, h3, h4⟩ := find_year N h0 k (by omega) (by push_cast at hd; omega)
        exact ⟨y, h1, by push_cast; omega, h3, h4⟩
theorem find_month (y r : Int) (h0 : 0 ≤ r) : ∀ k : Nat, 1 ≤ k → r < Days.cumTo y k → ∃ m : Nat, 1 ≤ m ∧ m ≤ k ∧ Days.cumTo y (m - 1) ≤ r ∧ r < Days.cumTo y m
  | 0, h, _ => by omega
  | k + 1, _, h => by
    by_cases hd : Days.cumTo y k ≤ r
    · exact ⟨k + 1, by omega, by omega, by simpa using hd, h⟩
    · by_cases hk : k = 0
      · subst hk
        have : Days.cumTo y 0 = 0 := rfl
        omega
      · obtain ⟨m, h1, h2, h3, h4⟩ := find_month y r h0 k (by omega) (by omega)
        exact ⟨m, h1, by omega, h3, h4⟩
theorem find_day {n : Int} (h1 : -719162 ≤ n) (h2 : n ≤ 2932896) : ∃ y m d : Int, Days.vld y m d ∧ Days.num y m d = n := by
  obtain ⟨y, y1, y2, y3, y4⟩ := find_year (n + 719162) (by omega) 9999 (by omega) (by have := Days.dbef_top; show _ < Days.dbef 10000; omega)
  have hs := Days.dbef_succ y y1
  obtain ⟨m, m1, m2, m3, m4⟩ := find_month y (n + 719162 - Days.dbef y) (by omega) 12 (by omega) (by omega)
  have hc := Days.cum_step y m m1
  exact ⟨y, m, n + 719162 - Days.dbef y - Days.cumTo y (m - 1) + 1, ⟨⟨y1, by omega⟩, ⟨by omega, by omega⟩, by omega, by omega⟩, Days.num_of n y m⟩
theorem partsS_at {y m d n : Int} (v : Days.vld y m d) (hn : Days.num y m d = n) (h1 : -719162 ≤ n) (h2 : n ≤ 2932896) (w : World) : Calls Tryz.prog 79 #[.int .i64 n] w fun e w' => e = .returned (.tuple #[.int .i64 y, .int .i64 m, .int .i64 d, .int .i64 0]) ∧ w' = w :=
  (Days.parts_spec n w h1 h2).mono (by
    rintro e w' ⟨y', m', d', rfl, v', hn', rfl⟩
    obtain ⟨rfl, rfl, rfl⟩ := Days.num_inj _ _ _ _ _ _ v' v (hn'.trans hn.symm)
    exact ⟨rfl, rfl⟩)
set_option maxHeartbeats 1000000 in
theorem year_work {y m d n : Int} (v : Days.vld y m d) (hn : Days.num y m d = n) (h1 : -719162 ≤ n) (h2 : n ≤ 2932896) (k : Int) (s : ByteArray) (a : Option Addr) (cap : Nat) (W : World) (h : RVO W (.slice a 1 cap) [(k, n, s)]) :
    Calls Tryz.prog 91 #[.slice a 1 cap] W fun e w' => Gives (fun V => V = tV 1 y ⟨#[]⟩ 0) W e w' := by
  obtain ⟨g, o, rfl, hg, c0, c1, c2⟩ := one_cells h
  have hcon := fun w => Dt.parts_at v hn h1 h2 w
  have bw0 := below_alloc W (.cells #[.int .i64 0, .int .i64 0, .string ⟨#[]⟩] 29)
  have hc' := (bw0.cell (p := ⟨g, o + 1, none⟩) hg).trans c1
  clear v hn h c0 c1 c2
  go_enter Tryz.func91, Tryz.ntmps91
  go_wp2_with (first | (go_at_call 18; refine (hcon _).mono ?_; rintro e w0 ⟨rfl, hw⟩; rw [hw]; clear hw w0) | (go_at_call 49; fail))
  refine (numbered_ok 1 y _).mono ?_
  rintro e w1 ⟨rfl, hb⟩
  obtain ⟨hc1, hf1⟩ := bcell hb
  have hz : W.heap.size < w1.heap.size := by have := hb.size; simp at this; omega
  have bw1 : Below W.heap.size W w1 := bw0.trans (hb.mono (by simp))
  go_wp2
  refine bodyPost_ret (v := tV 1 y ⟨#[]⟩ 0) (by simp [results, Tryz.results91, go_sem, tV, hc1, hf1, hz]) rfl (Gives.mk rfl ?_)
  exact ((bw1.setCell (Nat.le_refl _) _).setCell (Nat.le_refl _) _).setCell (Nat.le_refl _) _
set_option maxHeartbeats 1000000 in
theorem month_work {y m d n : Int} (v : Days.vld y m d) (hn : Days.num y m d = n) (h1 : -719162 ≤ n) (h2 : n ≤ 2932896) (k : Int) (s : ByteArray) (a : Option Addr) (cap : Nat) (W : World) (h : RVO W (.slice a 1 cap) [(k, n, s)]) :
    Calls Tryz.prog 92 #[.slice a 1 cap] W fun e w' => Gives (fun V => V = tV 1 m ⟨#[]⟩ 0) W e w' := by
  obtain ⟨g, o, rfl, hg, c0, c1, c2⟩ := one_cells h
  have hcon := fun w => Dt.parts_at v hn h1 h2 w
  have bw0 := below_alloc W (.cells #[.int .i64 0, .int .i64 0, .string ⟨#[]⟩] 29)
  have hc' := (bw0.cell (p := ⟨g, o + 1, none⟩) hg).trans c1
  clear v hn h c0 c1 c2
  go_enter Tryz.func92, Tryz.ntmps92
  go_wp2_with (first | (go_at_call 18; refine (hcon _).mono ?_; rintro e w0 ⟨rfl, hw⟩; rw [hw]; clear hw w0) | (go_at_call 49; fail))
  refine (numbered_ok 1 m _).mono ?_
  rintro e w1 ⟨rfl, hb⟩
  obtain ⟨hc1, hf1⟩ := bcell hb
  have hz : W.heap.size < w1.heap.size := by have := hb.size; simp at this; omega
  have bw1 : Below W.heap.size W w1 := bw0.trans (hb.mono (by simp))
  go_wp2
  refine bodyPost_ret (v := tV 1 m ⟨#[]⟩ 0) (by simp [results, Tryz.results92, go_sem, tV, hc1, hf1, hz]) rfl (Gives.mk rfl ?_)
  exact ((bw1.setCell (Nat.le_refl _) _).setCell (Nat.le_refl _) _).setCell (Nat.le_refl _) _
set_option maxHeartbeats 1000000 in
theorem day_work {y m d n : Int} (v : Days.vld y m d) (hn : Days.num y m d = n) (h1 : -719162 ≤ n) (h2 : n ≤ 2932896) (k : Int) (s : ByteArray) (a : Option Addr) (cap : Nat) (W : World) (h : RVO W (.slice a 1 cap) [(k, n, s)]) :
    Calls Tryz.prog 93 #[.slice a 1 cap] W fun e w' => Gives (fun V => V = tV 1 d ⟨#[]⟩ 0) W e w' := by
  obtain ⟨g, o, rfl, hg, c0, c1, c2⟩ := one_cells h
  have hcon := fun w => Dt.parts_at v hn h1 h2 w
  have bw0 := below_alloc W (.cells #[.int .i64 0, .int .i64 0, .string ⟨#[]⟩] 29)
  have hc' := (bw0.cell (p := ⟨g, o + 1, none⟩) hg).trans c1
  clear v hn h c0 c1 c2
  go_enter Tryz.func93, Tryz.ntmps93
  go_wp2_with (first | (go_at_call 18; refine (hcon _).mono ?_; rintro e w0 ⟨rfl, hw⟩; rw [hw]; clear hw w0) | (go_at_call 49; fail))
  refine (numbered_ok 1 d _).mono ?_
  rintro e w1 ⟨rfl, hb⟩
  obtain ⟨hc1, hf1⟩ := bcell hb
  have hz : W.heap.size < w1.heap.size := by have := hb.size; simp at this; omega
  have bw1 : Below W.heap.size W w1 := bw0.trans (hb.mono (by simp))
  go_wp2
  refine bodyPost_ret (v := tV 1 d ⟨#[]⟩ 0) (by simp [results, Tryz.results93, go_sem, tV, hc1, hf1, hz]) rfl (Gives.mk rfl ?_)
  exact ((bw1.setCell (Nat.le_refl _) _).setCell (Nat.le_refl _) _).setCell (Nat.le_refl _) _
end Go.Proofs.YtdcdoeolaongkaaGreatDoor.Ca
namespace Go.Proofs.YtdcdoeolaongkaaGreatDoor.Ca
open Go.MapKept Go.ChangeMaps
open Go.ChangeShapes Go.WideShapes Go.ChangeAt Go.RowKit Go.Shelf
open Go.Proofs.YtdcdoeolaongkaaGreatDoor.Rd
set_option linter.unusedVariables false
set_option linter.unusedSimpArgs false
set_option maxRecDepth 100000
set_option maxHeartbeats 16000000 in
theorem callI_10 (ar : List TA) (a : Option Addr) (cap : Nat) (w : World) (h8 : ar.length ≤ 8) (hr : RVO w (.slice a ar.length cap) ar) (hsz : ∀ t ∈ ar, t.2.2.size ≤ 1048576) (hT : Tabs w) (hv : Hid (∀ t ∈ ar, vok t.1 t.2.1 t.2.2 = true)) (hg : Hid ((Mp.gvK 10 (kindsA ar) == -1) = false)) (hnu : Hid ((nullsA ar && (10 : Int) != 6) = false)) (R : Value → Prop)
    (hW : Hid (∀ W, Below w.heap.size w W → Calls Tryz.prog 94 #[.slice a ar.length cap] W fun e w' => ∃ k n s c, R (tV k n s c) ∧ e = .returned (tV k n s c) ∧ Below W.heap.size W w')) :
    Calls Tryz.prog 20 #[.int .i64 10, .slice a ar.length cap] w fun e w' => ∃ V, R V ∧ e = .returned V ∧ Below w.heap.size w w' := by
  obtain ⟨i0, hi, hz0, hz1, hz2⟩ := info_parts info3
  have hrr := hr
  obtain ⟨a', cap', hsl, hcells⟩ := hr
  simp only [Value.slice.injEq] at hsl
  obtain ⟨rfl, _, rfl⟩ := hsl
  have h8i : ¬ (8 : Int) < ar.length := by omega
  have bw0 := below_alloc w (.cells #[.int .i64 0, .int .i64 0, .string ⟨#[]⟩] 29)
  have HRR : Hid (RVO w (.slice a ar.length cap) ar) := hrr
  clear hrr
  go_enter Tryz.func20, Tryz.ntmps20
  go_wp2
  generalize hW0 : w.alloc (.cells #[.int .i64 0, .int .i64 0, .string ⟨#[]⟩] 29) = W0 at *
  have hs0 : w.heap.size < W0.heap.size := by rw [← hW0]; simp
  have r0 : W0.cell? ⟨w.heap.size, 0, none⟩ = some (.int .i64 0) ∧ W0.cell? ⟨w.heap.size, 1, none⟩ = some (.int .i64 0) ∧ W0.cell? ⟨w.heap.size, 2, none⟩ = some (.string ⟨#[]⟩) ∧ W0.frozen? ⟨w.heap.size, 0, none⟩ = false ∧ W0.frozen? ⟨w.heap.size, 1, none⟩ = false ∧ W0.frozen? ⟨w.heap.size, 2, none⟩ = false := by
    rw [← hW0]; simp [go_sem]
  have HR0 : Hid _ := r0
  have HB0 : Hid (Below w.heap.size w W0) := bw0
  clear r0 bw0 hW0
  go_loopw [6, 7, 9, 18] (fun kv nb _ i wr => ∃ k : Nat, k ≤ ar.length ∧ i = .int .i64 k ∧ nb = .bool (nullsA (ar.take k)) ∧ OwnK W0.heap.size kv k (kindsA (ar.take k)) wr ∧ Below W0.heap.size W0 wr) (fun _ _ _ i _ => ar.length - (intOf i).toNat)
  case atStart => exact ⟨0, Nat.zero_le _, rfl, rfl, (⟨rfl, .inl ⟨rfl, rfl⟩⟩ : W0.ownsRow W0.heap.size 3 1 (.slice none 0 0) 0 []), Below.refl _ _⟩
  case round =>
    obtain ⟨k, hk, rfl, rfl, hoK, hbel⟩ := hrel
    have ho : wr.ownsRow W0.heap.size 3 1 _ k ((kindsA (ar.take k)).map (Value.int .i64)) := hoK
    clear hoK
    have hbs := hbel.size
    by_cases hlt : k < ar.length
    · have hlti : (k : Int) < ar.length := by omega
      obtain ⟨g, o, rfl, hgg, hgc⟩ := hcells (by omega)
      have bww : Below w.heap.size w wr := HB0.out.trans (hbel.mono (by omega))
      obtain ⟨c0, c1, c2⟩ := hgc k hlt
      have d0 := (bww.cell (p := ⟨g, o + k * 3, none⟩) hgg).trans c0
      have d1 := (bww.cell (p := ⟨g, o + k * 3 + 1, none⟩) hgg).trans c1
      have d2 := (bww.cell (p := ⟨g, o + k * 3 + 2, none⟩) hgg).trans c2
      have hsx := hsz ar[k] (List.getElem_mem hlt)
      have hvx := hv.out ar[k] (List.getElem_mem hlt)
      have HTK : Hid (ar.take (k + 1) = ar.take k ++ [ar[k]]) := take_snoc hlt
      clear c0 c1 c2 hgc hcells hsz
      generalize ar[k] = t at *
      obtain ⟨tk, tn, ts⟩ := t
      simp only at d0 d1 d2 hsx hvx
      have HVX : Hid (vok tk tn ts = true) := hvx
      clear hvx
      have HNB : Hid (nullsA (ar.take (k + 1)) = (nullsA (ar.take k) || tk == 0)) := (by rw [HTK.out, nullsA_snoc] : nullsA (ar.take (k + 1)) = (nullsA (ar.take k) || tk == 0))
      generalize nullsA (ar.take k) = nb at *
      have cs : nb = true ∨ (nb = false ∧ (tk == 0) = true) ∨ (nb = false ∧ (tk == 0) = false) := by cases nb <;> cases (tk == 0) <;> simp
      have hVX := fun W (h : Below w.heap.size w W) => vok_impl tk tn ts W hsx (tabs_below hT h)
      rw [HVX.out] at hVX
      rcases cs with rfl | ⟨rfl, ez⟩ | ⟨rfl, ez⟩
      all_goals
        go_wp2_with (first | (go_at_call 43; refine (hVX _ (bww.alloc bww.size _)).mono ?_; rintro e w1 ⟨rfl, hb1⟩; obtain ⟨hc1, hf1⟩ := bcell hb1; have hz1w : wr.heap.size < w1.heap.size := (by have := hb1.size; simp at this; omega); have bw1 : Below W0.heap.size W0 w1 := (hbel.alloc hbs _).trans (hb1.mono (by simp; omega)); have ho1 := own_below (ho.alloc _) hb1; have e0 : w1.cell? ⟨wr.heap.size, 0, none⟩ = some (.int .i64 tk) := (hc1 wr.heap.size 0 (by simp)).trans (by simp [go_sem])) | (at_builtin; refine wpList_append_own _ rfl (.tmp 26) (.tmp 29) 22 rfl W0.heap.size 3 i0 (.int .i64 0) 1 8 Tryz.underlying22 hi hz0 hz1 hz2 rfl (by decide) _ k ((kindsA (ar.take k)).map (Value.int .i64)) rfl (ho1.alloc _) ⟨w1.heap.size, 0, none⟩ 1 1 [.int .i64 tk] rfl rfl (cell_one_new _ _ _) (by intro u hu; simp at hu; subst hu; rfl) (by unfold maxLen; omega) (by omega) (by have := bw1.size; simp; omega) ?_; intro v' w2 hown' hgrow _; have bw2 : Below W0.heap.size W0 w2 := (bw1.alloc bw1.size _).grown hgrow (by have := bw1.size; simp; omega) (fun j hj => (ho1.lt j hj).1); have e2 : w2.cell? ⟨wr.heap.size, 0, none⟩ = some (.int .i64 tk) := (cell_grown hgrow (by simp; omega) (fun e => by have := (ho.lt wr.heap.size e.symm).2; omega)).trans (((below_alloc w1 _).cell (p := ⟨wr.heap.size, 0, none⟩) hz1w).trans e0); have HOW : Hid (OwnK W0.heap.size v' (k + 1) (kindsA (ar.take (k + 1))) w2) := OwnK.of HTK.out hown'; clear hown' hgrow))
        go_roundw
        case rel => exact ⟨k + 1, by omega, by go_num, by rw [HNB.out]; first | (rw [ez]; rfl) | rfl, HOW.out, bw2⟩
        case measure => simp [intOf]; omega
    · have hkn : k = ar.length := by omega
      subst hkn
      have hlti : ¬ (ar.length : Int) < ar.length := by omega
      rw [List.take_length] at ho
      rw [List.take_length]
      have hnu' := hnu.out
      generalize nullsA ar = nb at *
      have hkl : (kindsA ar).length = ar.length := by simp [kindsA]
      rw [← hkl] at ho
      obtain ⟨ka, kc, rfl, hrio⟩ := own_rio ho
      clear ho
      generalize hks : kindsA ar = ks at *
      have HKL : Hid (ks.length = ar.length) := hkl
      have bww : Below w.heap.size w wr := HB0.out.trans (hbel.mono (by omega))
      obtain ⟨q0, q1, q2, f0, f1, f2⟩ := HR0.out
      have q0 := (hbel.cell (p := ⟨w.heap.size, 0, none⟩) (by show w.heap.size < _; omega)).trans q0
      have q1 := (hbel.cell (p := ⟨w.heap.size, 1, none⟩) (by show w.heap.size < _; omega)).trans q1
      have q2 := (hbel.cell (p := ⟨w.heap.size, 2, none⟩) (by show w.heap.size < _; omega)).trans q2
      have f0 := (hbel.frozen (p := ⟨w.heap.size, 0, none⟩) (by show w.heap.size < _; omega)).trans f0
      have f1 := (hbel.frozen (p := ⟨w.heap.size, 1, none⟩) (by show w.heap.size < _; omega)).trans f1
      have f2 := (hbel.frozen (p := ⟨w.heap.size, 2, none⟩) (by show w.heap.size < _; omega)).trans f2
      have hwr : w.heap.size < wr.heap.size := by omega
      have hn20 : ks.length ≤ 1048576 := by rw [hkl]; omega
      clear hkl hks hbel HR0 HB0
      go_wp2_with (go_at_call 39; fail)
      refine (Mp.table_any _).mono ?_
      rintro e w1 ⟨rfl, hst⟩
      obtain ⟨l, hm, hks, hgood, hb1⟩ := hst
      have hrun := hm.look Tryz.underlying72 Tryz.underlying3 (Tryz.zeroValue70 _) 10
      obtain ⟨v, hv1, hv2⟩ := Mp.lookL_some (l := l) (k := 10) (by rw [hks]; decide)
      obtain ⟨g, hvg, hG⟩ := hgood _ hv2
      replace hG : Mp.GoodG w1 wr.heap.size 10 g := hG
      simp only at hvg
      rw [show Mp.workN 10 = 94 from rfl] at hvg
      subst hvg
      rw [hv1] at hrun
      simp only [Option.getD_some, Option.isSome_some] at hrun
      obtain ⟨hc1, hf1⟩ := bcell hb1
      have hz1 : w.heap.size < w1.heap.size := by have := hb1.size; omega
      have bw1 : Below w.heap.size w w1 := bww.trans (hb1.mono bww.size)
      have hrio1 := hrio.below hb1
      clear hgood hks hm hv1 hv2 hrio
      have hT2 : Mp.Taker w1 wr.heap.size g (Mp.resK 10) (Mp.wantK 10) := hG
      have HG : Hid (Mp.gvK 10 ks = Mp.takeK (Mp.resK 10) (Mp.wantK 10) ks) := rfl
      have hgne : (Mp.takeK (Mp.resK 10) (Mp.wantK 10) ks == -1) = false := hg.out
      have HWL : Hid ((Mp.wantK 10).length ≤ 100) := (by decide : (Mp.wantK 10).length ≤ 100)
      clear hG
      generalize Mp.resK 10 = rs at *
      generalize Mp.wantK 10 = wsl at *
      obtain ⟨bw_, br, sb, rfl, _, ⟨l1, l2, l3⟩, t1, t2, t3⟩ := hT2
      have HTK : Hid ((bw_ < w1.heap.size ∧ br < w1.heap.size ∧ sb < w1.heap.size) ∧ w1.cell? ⟨bw_, 0, none⟩ = some (.slice (some ⟨sb, 0, none⟩) wsl.length wsl.length) ∧ w1.cell? ⟨br, 0, none⟩ = some (.int .i64 rs) ∧ ∀ i (h : i < wsl.length), w1.cell? ⟨sb, i, none⟩ = some (.int .i64 wsl[i])) := ⟨⟨l1, l2, l3⟩, t1, t2, t3⟩
      clear t1 t2 t3 l1 l2 l3
      go_wp2_with (go_at_call 149; fail)
      refine (Mp.taking1_any 0 rs wsl ks _ _ bw_ br sb _ hn20 HWL.out (hrio1.below (below_alloc _ _)) (((below_alloc w1 _).cell (p := ⟨bw_, 0, none⟩) HTK.out.1.1).trans HTK.out.2.1) (((below_alloc w1 _).cell (p := ⟨br, 0, none⟩) HTK.out.1.2.1).trans HTK.out.2.2.1) (fun i hi => ((below_alloc w1 _).cell (p := ⟨sb, i, none⟩) HTK.out.1.2.2).trans (HTK.out.2.2.2 i hi))).mono ?_
      rintro e w2 ⟨rfl, hbe2⟩
      have hb2 : Below (w1.alloc (.cells #[Value.func (Fn.func 149) #[] #[Value.pointer (some ⟨bw_, 0, none⟩), Value.pointer (some ⟨br, 0, none⟩)], Value.func (Fn.func 94) #[] #[]] 70)).heap.size (w1.alloc (.cells #[Value.func (Fn.func 149) #[] #[Value.pointer (some ⟨bw_, 0, none⟩), Value.pointer (some ⟨br, 0, none⟩)], Value.func (Fn.func 94) #[] #[]] 70)) w2 := by rw [hbe2]; exact Below.refl _ _
      clear hbe2
      generalize Mp.takeK rs wsl ks = gr at *
      obtain ⟨hc2, hf2⟩ := bcell hb2
      have hz2 : w1.heap.size < w2.heap.size := by have := hb2.size; simp at this; omega
      have hy2 : w.heap.size < w2.heap.size := by omega
      have bw1a : Below w.heap.size w (w1.alloc (.cells #[Value.func (Fn.func 149) #[] #[Value.pointer (some ⟨bw_, 0, none⟩), Value.pointer (some ⟨br, 0, none⟩)], Value.func (Fn.func 94) #[] #[]] 70)) := bw1.alloc bw1.size _
      have bw2 : Below w.heap.size w w2 := bw1a.trans (hb2.mono bw1a.size)
      have hnn : nb = false ∨ (nb = true ∧ ((10 : Int) != 6) = false) := by cases nb <;> simp_all
      rcases hnn with rfl | ⟨rfl, hn6⟩
      all_goals
        go_wp2_with (go_at_call 94; fail)
        refine (hW.out _ bw2).mono ?_
        rintro e w3 ⟨k, n, s, c, hR, rfl, hb3⟩
        have HRV : Hid (R (tV k n s c)) := hR
        clear hR
        simp only [tV]
        obtain ⟨hc3, hf3⟩ := bcell hb3
        have hz3 : w1.heap.size < w3.heap.size := by have := hb3.size; omega
        have hy3 : w.heap.size < w3.heap.size := by omega
        have bw3 : Below w.heap.size w w3 := bw2.trans (hb3.mono bw2.size)
        have b12 : Below wr.heap.size wr w2 := (hb1.alloc hb1.size _).trans (hb2.mono (by have := hb1.size; simp; omega))
        have b13 : Below wr.heap.size wr w3 := b12.trans (hb3.mono b12.size)
        have p0 := (b13.cell (p := ⟨w.heap.size, 0, none⟩) hwr).trans q0
        have p1 := (b13.cell (p := ⟨w.heap.size, 1, none⟩) hwr).trans q1
        have p2 := (b13.cell (p := ⟨w.heap.size, 2, none⟩) hwr).trans q2
        have j0 := (b13.frozen (p := ⟨w.heap.size, 0, none⟩) hwr).trans f0
        have j1 := (b13.frozen (p := ⟨w.heap.size, 1, none⟩) hwr).trans f1
        have j2 := (b13.frozen (p := ⟨w.heap.size, 2, none⟩) hwr).trans f2
        clear b12 b13 hc1 hf1 hc2 hf2 hc3 hf3
        go_wp2
        refine bodyPost_ret (v := tV k n s c) (by simp [results, Tryz.results20, go_sem, tV, p0, p1, p2, j0, j1, j2, hy3]) rfl ⟨_, HRV.out, rfl, ?_⟩
        exact ((bw3.setCell (Nat.le_refl _) _).setCell (Nat.le_refl _) _).setCell (Nat.le_refl _) _
end Go.Proofs.YtdcdoeolaongkaaGreatDoor.Ca
namespace Go.Proofs.YtdcdoeolaongkaaGreatDoor.Ca
open Go.MapKept Go.ChangeMaps
open Go.ChangeShapes Go.WideShapes Go.ChangeAt Go.RowKit Go.Shelf
open Go.Proofs.YtdcdoeolaongkaaGreatDoor.Rd
set_option linter.unusedVariables false
set_option linter.unusedSimpArgs false
set_option maxRecDepth 100000
set_option maxHeartbeats 16000000 in
theorem callI_11 (ar : List TA) (a : Option Addr) (cap : Nat) (w : World) (h8 : ar.length ≤ 8) (hr : RVO w (.slice a ar.length cap) ar) (hsz : ∀ t ∈ ar, t.2.2.size ≤ 1048576) (hT : Tabs w) (hv : Hid (∀ t ∈ ar, vok t.1 t.2.1 t.2.2 = true)) (hg : Hid ((Mp.gvK 11 (kindsA ar) == -1) = false)) (hnu : Hid ((nullsA ar && (11 : Int) != 6) = false)) (R : Value → Prop)
    (hW : Hid (∀ W, Below w.heap.size w W → Calls Tryz.prog 95 #[.slice a ar.length cap] W fun e w' => ∃ k n s c, R (tV k n s c) ∧ e = .returned (tV k n s c) ∧ Below W.heap.size W w')) :
    Calls Tryz.prog 20 #[.int .i64 11, .slice a ar.length cap] w fun e w' => ∃ V, R V ∧ e = .returned V ∧ Below w.heap.size w w' := by
  obtain ⟨i0, hi, hz0, hz1, hz2⟩ := info_parts info3
  have hrr := hr
  obtain ⟨a', cap', hsl, hcells⟩ := hr
  simp only [Value.slice.injEq] at hsl
  obtain ⟨rfl, _, rfl⟩ := hsl
  have h8i : ¬ (8 : Int) < ar.length := by omega
  have bw0 := below_alloc w (.cells #[.int .i64 0, .int .i64 0, .string ⟨#[]⟩] 29)
  have HRR : Hid (RVO w (.slice a ar.length cap) ar) := hrr
  clear hrr
  go_enter Tryz.func20, Tryz.ntmps20
  go_wp2
  generalize hW0 : w.alloc (.cells #[.int .i64 0, .int .i64 0, .string ⟨#[]⟩] 29) = W0 at *
  have hs0 : w.heap.size < W0.heap.size := by rw [← hW0]; simp
  have r0 : W0.cell? ⟨w.heap.size, 0, none⟩ = some (.int .i64 0) ∧ W0.cell? ⟨w.heap.size, 1, none⟩ = some (.int .i64 0) ∧ W0.cell? ⟨w.heap.size, 2, none⟩ = some (.string ⟨#[]⟩) ∧ W0.frozen? ⟨w.heap.size, 0, none⟩ = false ∧ W0.frozen? ⟨w.heap.size, 1, none⟩ = false ∧ W0.frozen? ⟨w.heap.size, 2, none⟩ = false := by
    rw [← hW0]; simp [go_sem]
  have HR0 : Hid _ := r0
  have HB0 : Hid (Below w.heap.size w W0) := bw0
  clear r0 bw0 hW0
  go_loopw [6, 7, 9, 18] (fun kv nb _ i wr => ∃ k : Nat, k ≤ ar.length ∧ i = .int .i64 k ∧ nb = .bool (nullsA (ar.take k)) ∧ OwnK W0.heap.size kv k (kindsA (ar.take k)) wr ∧ Below W0.heap.size W0 wr) (fun _ _ _ i _ => ar.length - (intOf i).toNat)
  case atStart => exact ⟨0, Nat.zero_le _, rfl, rfl, (⟨rfl, .inl ⟨rfl, rfl⟩⟩ : W0.ownsRow W0.heap.size 3 1 (.slice none 0 0) 0 []), Below.refl _ _⟩
  case round =>
    obtain ⟨k, hk, rfl, rfl, hoK, hbel⟩ := hrel
    have ho : wr.ownsRow W0.heap.size 3 1 _ k ((kindsA (ar.take k)).map (Value.int .i64)) := hoK
    clear hoK
    have hbs := hbel.size
    by_cases hlt : k < ar.length
    · have hlti : (k : Int) < ar.length := by omega
      obtain ⟨g, o, rfl, hgg, hgc⟩ := hcells (by omega)
      have bww : Below w.heap.size w wr := HB0.out.trans (hbel.mono (by omega))
      obtain ⟨c0, c1, c2⟩ := hgc k hlt
      have d0 := (bww.cell (p := ⟨g, o + k * 3, none⟩) hgg).trans c0
      have d1 := (bww.cell (p := ⟨g, o + k * 3 + 1, none⟩) hgg).trans c1
      have d2 := (bww.cell (p := ⟨g, o + k * 3 + 2, none⟩) hgg).trans c2
      have hsx := hsz ar[k] (List.getElem_mem hlt)
      have hvx := hv.out ar[k] (List.getElem_mem hlt)
      have HTK : Hid (ar.take (k + 1) = ar.take k ++ [ar[k]]) := take_snoc hlt
      clear c0 c1 c2 hgc hcells hsz
      generalize ar[k] = t at *
      obtain ⟨tk, tn, ts⟩ := t
      simp only at d0 d1 d2 hsx hvx
      have HVX : Hid (vok tk tn ts = true) := hvx
      clear hvx
      have HNB : Hid (nullsA (ar.take (k + 1)) = (nullsA (ar.take k) || tk == 0)) := (by rw [HTK.out, nullsA_snoc] : nullsA (ar.take (k + 1)) = (nullsA (ar.take k) || tk == 0))
      generalize nullsA (ar.take k) = nb at *
      have cs : nb = true ∨ (nb = false ∧ (tk == 0) = true) ∨ (nb = false ∧ (tk == 0) = false) := by cases nb <;> cases (tk == 0) <;> simp
      have hVX := fun W (h : Below w.heap.size w W) => vok_impl tk tn ts W hsx (tabs_below hT h)
      rw [HVX.out] at hVX
      rcases cs with rfl | ⟨rfl, ez⟩ | ⟨rfl, ez⟩
      all_goals
        go_wp2_with (first | (go_at_call 43; refine (hVX _ (bww.alloc bww.size _)).mono ?_; rintro e w1 ⟨rfl, hb1⟩; obtain ⟨hc1, hf1⟩ := bcell hb1; have hz1w : wr.heap.size < w1.heap.size := (by have := hb1.size; simp at this; omega); have bw1 : Below W0.heap.size W0 w1 := (hbel.alloc hbs _).trans (hb1.mono (by simp; omega)); have ho1 := own_below (ho.alloc _) hb1; have e0 : w1.cell? ⟨wr.heap.size, 0, none⟩ = some (.int .i64 tk) := (hc1 wr.heap.size 0 (by simp)).trans (by simp [go_sem])) | (at_builtin; refine wpList_append_own _ rfl (.tmp 26) (.tmp 29) 22 rfl W0.heap.size 3 i0 (.int .i64 0) 1 8 Tryz.underlying22 hi hz0 hz1 hz2 rfl (by decide) _ k ((kindsA (ar.take k)).map (Value.int .i64)) rfl (ho1.alloc _) ⟨w1.heap.size, 0, none⟩ 1 1 [.int .i64 tk] rfl rfl (cell_one_new _ _ _) (by intro u hu; simp at hu; subst hu; rfl) (by unfold maxLen; omega) (by omega) (by have := bw1.size; simp; omega) ?_; intro v' w2 hown' hgrow _; have bw2 : Below W0.heap.size W0 w2 := (bw1.alloc bw1.size _).grown hgrow (by have := bw1.size; simp; omega) (fun j hj => (ho1.lt j hj).1); have e2 : w2.cell? ⟨wr.heap.size, 0, none⟩ = some (.int .i64 tk) := (cell_grown hgrow (by simp; omega) (fun e => by have := (ho.lt wr.heap.size e.symm).2; omega)).trans (((below_alloc w1 _).cell (p := ⟨wr.heap.size, 0, none⟩) hz1w).trans e0); have HOW : Hid (OwnK W0.heap.size v' (k + 1) (kindsA (ar.take (k + 1))) w2) := OwnK.of HTK.out hown'; clear hown' hgrow))
        go_roundw
        case rel => exact ⟨k + 1, by omega, by go_num, by rw [HNB.out]; first | (rw [ez]; rfl) | rfl, HOW.out, bw2⟩
        case measure => simp [intOf]; omega
    · have hkn : k = ar.length := by omega
      subst hkn
      have hlti : ¬ (ar.length : Int) < ar.length := by omega
      rw [List.take_length] at ho
      rw [List.take_length]
      have hnu' := hnu.out
      generalize nullsA ar = nb at *
      have hkl : (kindsA ar).length = ar.length := by simp [kindsA]
      rw [← hkl] at ho
      obtain ⟨ka, kc, rfl, hrio⟩ := own_rio ho
      clear ho
      generalize hks : kindsA ar = ks at *
      have HKL : Hid (ks.length = ar.length) := hkl
      have bww : Below w.heap.size w wr := HB0.out.trans (hbel.mono (by omega))
      obtain ⟨q0, q1, q2, f0, f1, f2⟩ := HR0.out
      have q0 := (hbel.cell (p := ⟨w.heap.size, 0, none⟩) (by show w.heap.size < _; omega)).trans q0
      have q1 := (hbel.cell (p := ⟨w.heap.size, 1, none⟩) (by show w.heap.size < _; omega)).trans q1
      have q2 := (hbel.cell (p := ⟨w.heap.size, 2, none⟩) (by show w.heap.size < _; omega)).trans q2
      have f0 := (hbel.frozen (p := ⟨w.heap.size, 0, none⟩) (by show w.heap.size < _; omega)).trans f0
      have f1 := (hbel.frozen (p := ⟨w.heap.size, 1, none⟩) (by show w.heap.size < _; omega)).trans f1
      have f2 := (hbel.frozen (p := ⟨w.heap.size, 2, none⟩) (by show w.heap.size < _; omega)).trans f2
      have hwr : w.heap.size < wr.heap.size := by omega
      have hn20 : ks.length ≤ 1048576 := by rw [hkl]; omega
      clear hkl hks hbel HR0 HB0
      go_wp2_with (go_at_call 39; fail)
      refine (Mp.table_any _).mono ?_
      rintro e w1 ⟨rfl, hst⟩
      obtain ⟨l, hm, hks, hgood, hb1⟩ := hst
      have hrun := hm.look Tryz.underlying72 Tryz.underlying3 (Tryz.zeroValue70 _) 11
      obtain ⟨v, hv1, hv2⟩ := Mp.lookL_some (l := l) (k := 11) (by rw [hks]; decide)
      obtain ⟨g, hvg, hG⟩ := hgood _ hv2
      replace hG : Mp.GoodG w1 wr.heap.size 11 g := hG
      simp only at hvg
      rw [show Mp.workN 11 = 95 from rfl] at hvg
      subst hvg
      rw [hv1] at hrun
      simp only [Option.getD_some, Option.isSome_some] at hrun
      obtain ⟨hc1, hf1⟩ := bcell hb1
      have hz1 : w.heap.size < w1.heap.size := by have := hb1.size; omega
      have bw1 : Below w.heap.size w w1 := bww.trans (hb1.mono bww.size)
      have hrio1 := hrio.below hb1
      clear hgood hks hm hv1 hv2 hrio
      have hT2 : Mp.Taker w1 wr.heap.size g (Mp.resK 11) (Mp.wantK 11) := hG
      have HG : Hid (Mp.gvK 11 ks = Mp.takeK (Mp.resK 11) (Mp.wantK 11) ks) := rfl
      have hgne : (Mp.takeK (Mp.resK 11) (Mp.wantK 11) ks == -1) = false := hg.out
      have HWL : Hid ((Mp.wantK 11).length ≤ 100) := (by decide : (Mp.wantK 11).length ≤ 100)
      clear hG
      generalize Mp.resK 11 = rs at *
      generalize Mp.wantK 11 = wsl at *
      obtain ⟨bw_, br, sb, rfl, _, ⟨l1, l2, l3⟩, t1, t2, t3⟩ := hT2
      have HTK : Hid ((bw_ < w1.heap.size ∧ br < w1.heap.size ∧ sb < w1.heap.size) ∧ w1.cell? ⟨bw_, 0, none⟩ = some (.slice (some ⟨sb, 0, none⟩) wsl.length wsl.length) ∧ w1.cell? ⟨br, 0, none⟩ = some (.int .i64 rs) ∧ ∀ i (h : i < wsl.length), w1.cell? ⟨sb, i, none⟩ = some (.int .i64 wsl[i])) := ⟨⟨l1, l2, l3⟩, t1, t2, t3⟩
      clear t1 t2 t3 l1 l2 l3
      go_wp2_with (go_at_call 149; fail)
      refine (Mp.taking1_any 0 rs wsl ks _ _ bw_ br sb _ hn20 HWL.out (hrio1.below (below_alloc _ _)) (((below_alloc w1 _).cell (p := ⟨bw_, 0, none⟩) HTK.out.1.1).trans HTK.out.2.1) (((below_alloc w1 _).cell (p := ⟨br, 0, none⟩) HTK.out.1.2.1).trans HTK.out.2.2.1) (fun i hi => ((below_alloc w1 _).cell (p := ⟨sb, i, none⟩) HTK.out.1.2.2).trans (HTK.out.2.2.2 i hi))).mono ?_
      rintro e w2 ⟨rfl, hbe2⟩
      have hb2 : Below (w1.alloc (.cells #[Value.func (Fn.func 149) #[] #[Value.pointer (some ⟨bw_, 0, none⟩), Value.pointer (some ⟨br, 0, none⟩)], Value.func (Fn.func 95) #[] #[]] 70)).heap.size (w1.alloc (.cells #[Value.func (Fn.func 149) #[] #[Value.pointer (some ⟨bw_, 0, none⟩), Value.pointer (some ⟨br, 0, none⟩)], Value.func (Fn.func 95) #[] #[]] 70)) w2 := by rw [hbe2]; exact Below.refl _ _
      clear hbe2
      generalize Mp.takeK rs wsl ks = gr at *
      obtain ⟨hc2, hf2⟩ := bcell hb2
      have hz2 : w1.heap.size < w2.heap.size := by have := hb2.size; simp at this; omega
      have hy2 : w.heap.size < w2.heap.size := by omega
      have bw1a : Below w.heap.size w (w1.alloc (.cells #[Value.func (Fn.func 149) #[] #[Value.pointer (some ⟨bw_, 0, none⟩), Value.pointer (some ⟨br, 0, none⟩)], Value.func (Fn.func 95) #[] #[]] 70)) := bw1.alloc bw1.size _
      have bw2 : Below w.heap.size w w2 := bw1a.trans (hb2.mono bw1a.size)
      have hnn : nb = false ∨ (nb = true ∧ ((11 : Int) != 6) = false) := by cases nb <;> simp_all
      rcases hnn with rfl | ⟨rfl, hn6⟩
      all_goals
        go_wp2_with (go_at_call 95; fail)
        refine (hW.out _ bw2).mono ?_
        rintro e w3 ⟨k, n, s, c, hR, rfl, hb3⟩
        have HRV : Hid (R (tV k n s c)) := hR
        clear hR
        simp only [tV]
        obtain ⟨hc3, hf3⟩ := bcell hb3
        have hz3 : w1.heap.size < w3.heap.size := by have := hb3.size; omega
        have hy3 : w.heap.size < w3.heap.size := by omega
        have bw3 : Below w.heap.size w w3 := bw2.trans (hb3.mono bw2.size)
        have b12 : Below wr.heap.size wr w2 := (hb1.alloc hb1.size _).trans (hb2.mono (by have := hb1.size; simp; omega))
        have b13 : Below wr.heap.size wr w3 := b12.trans (hb3.mono b12.size)
        have p0 := (b13.cell (p := ⟨w.heap.size, 0, none⟩) hwr).trans q0
        have p1 := (b13.cell (p := ⟨w.heap.size, 1, none⟩) hwr).trans q1
        have p2 := (b13.cell (p := ⟨w.heap.size, 2, none⟩) hwr).trans q2
        have j0 := (b13.frozen (p := ⟨w.heap.size, 0, none⟩) hwr).trans f0
        have j1 := (b13.frozen (p := ⟨w.heap.size, 1, none⟩) hwr).trans f1
        have j2 := (b13.frozen (p := ⟨w.heap.size, 2, none⟩) hwr).trans f2
        clear b12 b13 hc1 hf1 hc2 hf2 hc3 hf3
        go_wp2
        refine bodyPost_ret (v := tV k n s c) (by simp [results, Tryz.results20, go_sem, tV, p0, p1, p2, j0, j1, j2, hy3]) rfl ⟨_, HRV.out, rfl, ?_⟩
        exact ((bw3.setCell (Nat.le_refl _) _).setCell (Nat.le_refl _) _).setCell (Nat.le_refl _) _
end Go.Proofs.YtdcdoeolaongkaaGreatDoor.Ca
namespace Go.Proofs.YtdcdoeolaongkaaGreatDoor.Ca
open Go.MapKept Go.ChangeMaps
open Go.ChangeShapes Go.WideShapes Go.ChangeAt Go.RowKit Go.Shelf
open Go.Proofs.YtdcdoeolaongkaaGreatDoor.Rd
set_option linter.unusedVariables false
set_option linter.unusedSimpArgs false
set_option maxRecDepth 100000
set_option maxHeartbeats 16000000 in
theorem callI_12 (ar : List TA) (a : Option Addr) (cap : Nat) (w : World) (h8 : ar.length ≤ 8) (hr : RVO w (.slice a ar.length cap) ar) (hsz : ∀ t ∈ ar, t.2.2.size ≤ 1048576) (hT : Tabs w) (hv : Hid (∀ t ∈ ar, vok t.1 t.2.1 t.2.2 = true)) (hg : Hid ((Mp.gvK 12 (kindsA ar) == -1) = false)) (hnu : Hid ((nullsA ar && (12 : Int) != 6) = false)) (R : Value → Prop)
    (hW : Hid (∀ W, Below w.heap.size w W → Calls Tryz.prog 97 #[.slice a ar.length cap] W fun e w' => ∃ k n s c, R (tV k n s c) ∧ e = .returned (tV k n s c) ∧ Below W.heap.size W w')) :
    Calls Tryz.prog 20 #[.int .i64 12, .slice a ar.length cap] w fun e w' => ∃ V, R V ∧ e = .returned V ∧ Below w.heap.size w w' := by
  obtain ⟨i0, hi, hz0, hz1, hz2⟩ := info_parts info3
  have hrr := hr
  obtain ⟨a', cap', hsl, hcells⟩ := hr
  simp only [Value.slice.injEq] at hsl
  obtain ⟨rfl, _, rfl⟩ := hsl
  have h8i : ¬ (8 : Int) < ar.length := by omega
  have bw0 := below_alloc w (.cells #[.int .i64 0, .int .i64 0, .string ⟨#[]⟩] 29)
  have HRR : Hid (RVO w (.slice a ar.length cap) ar) := hrr
  clear hrr
  go_enter Tryz.func20, Tryz.ntmps20
  go_wp2
  generalize hW0 : w.alloc (.cells #[.int .i64 0, .int .i64 0, .string ⟨#[]⟩] 29) = W0 at *
  have hs0 : w.heap.size < W0.heap.size := by rw [← hW0]; simp
  have r0 : W0.cell? ⟨w.heap.size, 0, none⟩ = some (.int .i64 0) ∧ W0.cell? ⟨w.heap.size, 1, none⟩ = some (.int .i64 0) ∧ W0.cell? ⟨w.heap.size, 2, none⟩ = some (.string ⟨#[]⟩) ∧ W0.frozen? ⟨w.heap.size, 0, none⟩ = false ∧ W0.frozen? ⟨w.heap.size, 1, none⟩ = false ∧ W0.frozen? ⟨w.heap.size, 2, none⟩ = false := by
    rw [← hW0]; simp [go_sem]
  have HR0 : Hid _ := r0
  have HB0 : Hid (Below w.heap.size w W0) := bw0
  clear r0 bw0 hW0
  go_loopw [6, 7, 9, 18] (fun kv nb _ i wr => ∃ k : Nat, k ≤ ar.length ∧ i = .int .i64 k ∧ nb = .bool (nullsA (ar.take k)) ∧ OwnK W0.heap.size kv k (kindsA (ar.take k)) wr ∧ Below W0.heap.size W0 wr) (fun _ _ _ i _ => ar.length - (intOf i).toNat)
  case atStart => exact ⟨0, Nat.zero_le _, rfl, rfl, (⟨rfl, .inl ⟨rfl, rfl⟩⟩ : W0.ownsRow W0.heap.size 3 1 (.slice none 0 0) 0 []), Below.refl _ _⟩
  case round =>
    obtain ⟨k, hk, rfl, rfl, hoK, hbel⟩ := hrel
    have ho : wr.ownsRow W0.heap.size 3 1 _ k ((kindsA (ar.take k)).map (Value.int .i64)) := hoK
    clear hoK
    have hbs := hbel.size
    by_cases hlt : k < ar.length
    · have hlti : (k : Int) < ar.length := by omega
      obtain ⟨g, o, rfl, hgg, hgc⟩ := hcells (by omega)
      have bww : Below w.heap.size w wr := HB0.out.trans (hbel.mono (by omega))
      obtain ⟨c0, c1, c2⟩ := hgc k hlt
      have d0 := (bww.cell (p := ⟨g, o + k * 3, none⟩) hgg).trans c0
      have d1 := (bww.cell (p := ⟨g, o + k * 3 + 1, none⟩) hgg).trans c1
      have d2 := (bww.cell (p := ⟨g, o + k * 3 + 2, none⟩) hgg).trans c2
      have hsx := hsz ar[k] (List.getElem_mem hlt)
      have hvx := hv.out ar[k] (List.getElem_mem hlt)
      have HTK : Hid (ar.take (k + 1) = ar.take k ++ [ar[k]]) := take_snoc hlt
      clear c0 c1 c2 hgc hcells hsz
      generalize ar[k] = t at *
      obtain ⟨tk, tn, ts⟩ := t
      simp only at d0 d1 d2 hsx hvx
      have HVX : Hid (vok tk tn ts = true) := hvx
      clear hvx
      have HNB : Hid (nullsA (ar.take (k + 1)) = (nullsA (ar.take k) || tk == 0)) := (by rw [HTK.out, nullsA_snoc] : nullsA (ar.take (k + 1)) = (nullsA (ar.take k) || tk == 0))
      generalize nullsA (ar.take k) = nb at *
      have cs : nb = true ∨ (nb = false ∧ (tk == 0) = true) ∨ (nb = false ∧ (tk == 0) = false) := by cases nb <;> cases (tk == 0) <;> simp
      have hVX := fun W (h : Below w.heap.size w W) => vok_impl tk tn ts W hsx (tabs_below hT h)
      rw [HVX.out] at hVX
      rcases cs with rfl | ⟨rfl, ez⟩ | ⟨rfl, ez⟩
      all_goals
        go_wp2_with (first | (go_at_call 43; refine (hVX _ (bww.alloc bww.size _)).mono ?_; rintro e w1 ⟨rfl, hb1⟩; obtain ⟨hc1, hf1⟩ := bcell hb1; have hz1w : wr.heap.size < w1.heap.size := (by have := hb1.size; simp at this; omega); have bw1 : Below W0.heap.size W0 w1 := (hbel.alloc hbs _).trans (hb1.mono (by simp; omega)); have ho1 := own_below (ho.alloc _) hb1; have e0 : w1.cell? ⟨wr.heap.size, 0, none⟩ = some (.int .i64 tk) := (hc1 wr.heap.size 0 (by simp)).trans (by simp [go_sem])) | (at_builtin; refine wpList_append_own _ rfl (.tmp 26) (.tmp 29) 22 rfl W0.heap.size 3 i0 (.int .i64 0) 1 8 Tryz.underlying22 hi hz0 hz1 hz2 rfl (by decide) _ k ((kindsA (ar.take k)).map (Value.int .i64)) rfl (ho1.alloc _) ⟨w1.heap.size, 0, none⟩ 1 1 [.int .i64 tk] rfl rfl (cell_one_new _ _ _) (by intro u hu; simp at hu; subst hu; rfl) (by unfold maxLen; omega) (by omega) (by have := bw1.size; simp; omega) ?_; intro v' w2 hown' hgrow _; have bw2 : Below W0.heap.size W0 w2 := (bw1.alloc bw1.size _).grown hgrow (by have := bw1.size; simp; omega) (fun j hj => (ho1.lt j hj).1); have e2 : w2.cell? ⟨wr.heap.size, 0, none⟩ = some (.int .i64 tk) := (cell_grown hgrow (by simp; omega) (fun e => by have := (ho.lt wr.heap.size e.symm).2; omega)).trans (((below_alloc w1 _).cell (p := ⟨wr.heap.size, 0, none⟩) hz1w).trans e0); have HOW : Hid (OwnK W0.heap.size v' (k + 1) (kindsA (ar.take (k + 1))) w2) := OwnK.of HTK.out hown'; clear hown' hgrow))
        go_roundw
        case rel => exact ⟨k + 1, by omega, by go_num, by rw [HNB.out]; first | (rw [ez]; rfl) | rfl, HOW.out, bw2⟩
        case measure => simp [intOf]; omega
    · have hkn : k = ar.length := by omega
      subst hkn
      have hlti : ¬ (ar.length : Int) < ar.length := by omega
      rw [List.take_length] at ho
      rw [List.take_length]
      have hnu' := hnu.out
      generalize nullsA ar = nb at *
      have hkl : (kindsA ar).length = ar.length := by simp [kindsA]
      rw [← hkl] at ho
      obtain ⟨ka, kc, rfl, hrio⟩ := own_rio ho
      clear ho
      generalize hks : kindsA ar = ks at *
      have HKL : Hid (ks.length = ar.length) := hkl
      have bww : Below w.heap.size w wr := HB0.out.trans (hbel.mono (by omega))
      obtain ⟨q0, q1, q2, f0, f1, f2⟩ := HR0.out
      have q0 := (hbel.cell (p := ⟨w.heap.size, 0, none⟩) (by show w.heap.size < _; omega)).trans q0
      have q1 := (hbel.cell (p := ⟨w.heap.size, 1, none⟩) (by show w.heap.size < _; omega)).trans q1
      have q2 := (hbel.cell (p := ⟨w.heap.size, 2, none⟩) (by show w.heap.size < _; omega)).trans q2
      have f0 := (hbel.frozen (p := ⟨w.heap.size, 0, none⟩) (by show w.heap.size < _; omega)).trans f0
      have f1 := (hbel.frozen (p := ⟨w.heap.size, 1, none⟩) (by show w.heap.size < _; omega)).trans f1
      have f2 := (hbel.frozen (p := ⟨w.heap.size, 2, none⟩) (by show w.heap.size < _; omega)).trans f2
      have hwr : w.heap.size < wr.heap.size := by omega
      have hn20 : ks.length ≤ 1048576 := by rw [hkl]; omega
      clear hkl hks hbel HR0 HB0
      go_wp2_with (go_at_call 39; fail)
      refine (Mp.table_any _).mono ?_
      rintro e w1 ⟨rfl, hst⟩
      obtain ⟨l, hm, hks, hgood, hb1⟩ := hst
      have hrun := hm.look Tryz.underlying72 Tryz.underlying3 (Tryz.zeroValue70 _) 12
      obtain ⟨v, hv1, hv2⟩ := Mp.lookL_some (l := l) (k := 12) (by rw [hks]; decide)
      obtain ⟨g, hvg, hG⟩ := hgood _ hv2
      replace hG : Mp.GoodG w1 wr.heap.size 12 g := hG
      simp only at hvg
      rw [show Mp.workN 12 = 97 from rfl] at hvg
      subst hvg
      rw [hv1] at hrun
      simp only [Option.getD_some, Option.isSome_some] at hrun
      obtain ⟨hc1, hf1⟩ := bcell hb1
      have hz1 : w.heap.size < w1.heap.size := by have := hb1.size; omega
      have bw1 : Below w.heap.size w w1 := bww.trans (hb1.mono bww.size)
      have hrio1 := hrio.below hb1
      clear hgood hks hm hv1 hv2 hrio
      have hgF : g = Mp.fnV 96 := hG
      subst hgF
      have hgne : (Mp.twoK ks == -1) = false := hg.out
      clear hG
      go_wp2_with (go_at_call 96; fail)
      refine (Mp.two_any ks _ _ _ hn20 (hrio1.below (below_alloc _ _))).mono ?_
      rintro e w2 ⟨rfl, hb2⟩
      generalize Mp.twoK ks = gr at *
      obtain ⟨hc2, hf2⟩ := bcell hb2
      have hz2 : w1.heap.size < w2.heap.size := by have := hb2.size; simp at this; omega
      have hy2 : w.heap.size < w2.heap.size := by omega
      have bw1a : Below w.heap.size w (w1.alloc (.cells #[Value.func (Fn.func 96) #[] #[], Value.func (Fn.func 97) #[] #[]] 70)) := bw1.alloc bw1.size _
      have bw2 : Below w.heap.size w w2 := bw1a.trans (hb2.mono bw1a.size)
      have hnn : nb = false ∨ (nb = true ∧ ((12 : Int) != 6) = false) := by cases nb <;> simp_all
      rcases hnn with rfl | ⟨rfl, hn6⟩
      all_goals
        go_wp2_with (go_at_call 97; fail)
        refine (hW.out _ bw2).mono ?_
        rintro e w3 ⟨k, n, s, c, hR, rfl, hb3⟩
        have HRV : Hid (R (tV k n s c)) := hR
        clear hR
        simp only [tV]
        obtain ⟨hc3, hf3⟩ := bcell hb3
        have hz3 : w1.heap.size < w3.heap.size := by have := hb3.size; omega
        have hy3 : w.heap.size < w3.heap.size := by omega
        have bw3 : Below w.heap.size w w3 := bw2.trans (hb3.mono bw2.size)
        have b12 : Below wr.heap.size wr w2 := (hb1.alloc hb1.size _).trans (hb2.mono (by have := hb1.size; simp; omega))
        have b13 : Below wr.heap.size wr w3 := b12.trans (hb3.mono b12.size)
        have p0 := (b13.cell (p := ⟨w.heap.size, 0, none⟩) hwr).trans q0
        have p1 := (b13.cell (p := ⟨w.heap.size, 1, none⟩) hwr).trans q1
        have p2 := (b13.cell (p := ⟨w.heap.size, 2, none⟩) hwr).trans q2
        have j0 := (b13.frozen (p := ⟨w.heap.size, 0, none⟩) hwr).trans f0
        have j1 := (b13.frozen (p := ⟨w.heap.size, 1, none⟩) hwr).trans f1
        have j2 := (b13.frozen (p := ⟨w.heap.size, 2, none⟩) hwr).trans f2
        clear b12 b13 hc1 hf1 hc2 hf2 hc3 hf3
        go_wp2
        refine bodyPost_ret (v := tV k n s c) (by simp [results, Tryz.results20, go_sem, tV, p0, p1, p2, j0, j1, j2, hy3]) rfl ⟨_, HRV.out, rfl, ?_⟩
        exact ((bw3.setCell (Nat.le_refl _) _).setCell (Nat.le_refl _) _).setCell (Nat.le_refl _) _
end Go.Proofs.YtdcdoeolaongkaaGreatDoor.Ca
namespace Go.Proofs.YtdcdoeolaongkaaGreatDoor.Ca
open Go.MapKept Go.ChangeMaps
open Go.ChangeShapes Go.WideShapes Go.ChangeAt Go.RowKit Go.Shelf
open Go.Proofs.YtdcdoeolaongkaaGreatDoor.Rd
set_option linter.unusedVariables false
set_option linter.unusedSimpArgs false
set_option maxRecDepth 100000
set_option maxHeartbeats 16000000 in
theorem callI_13 (ar : List TA) (a : Option Addr) (cap : Nat) (w : World) (h8 : ar.length ≤ 8) (hr : RVO w (.slice a ar.length cap) ar) (hsz : ∀ t ∈ ar, t.2.2.size ≤ 1048576) (hT : Tabs w) (hv : Hid (∀ t ∈ ar, vok t.1 t.2.1 t.2.2 = true)) (hg : Hid ((Mp.gvK 13 (kindsA ar) == -1) = false)) (hnu : Hid ((nullsA ar && (13 : Int) != 6) = false)) (R : Value → Prop)
    (hW : Hid (∀ W, Below w.heap.size w W → Calls Tryz.prog 98 #[.slice a ar.length cap] W fun e w' => ∃ k n s c, R (tV k n s c) ∧ e = .returned (tV k n s c) ∧ Below W.heap.size W w')) :
    Calls Tryz.prog 20 #[.int .i64 13, .slice a ar.length cap] w fun e w' => ∃ V, R V ∧ e = .returned V ∧ Below w.heap.size w w' := by
  obtain ⟨i0, hi, hz0, hz1, hz2⟩ := info_parts info3
  have hrr := hr
  obtain ⟨a', cap', hsl, hcells⟩ := hr
  simp only [Value.slice.injEq] at hsl
  obtain ⟨rfl, _, rfl⟩ := hsl
  have h8i : ¬ (8 : Int) < ar.length := by omega
  have bw0 := below_alloc w (.cells #[.int .i64 0, .int .i64 0, .string ⟨#[]⟩] 29)
  have HRR : Hid (RVO w (.slice a ar.length cap) ar) := hrr
  clear hrr
  go_enter Tryz.func20, Tryz.ntmps20
  go_wp2
  generalize hW0 : w.alloc (.cells #[.int .i64 0, .int .i64 0, .string ⟨#[]⟩] 29) = W0 at *
  have hs0 : w.heap.size < W0.heap.size := by rw [← hW0]; simp
  have r0 : W0.cell? ⟨w.heap.size, 0, none⟩ = some (.int .i64 0) ∧ W0.cell? ⟨w.heap.size, 1, none⟩ = some (.int .i64 0) ∧ W0.cell? ⟨w.heap.size, 2, none⟩ = some (.string ⟨#[]⟩) ∧ W0.frozen? ⟨w.heap.size, 0, none⟩ = false ∧ W0.frozen? ⟨w.heap.size, 1, none⟩ = false ∧ W0.frozen? ⟨w.heap.size, 2, none⟩ = false := by
    rw [← hW0]; simp [go_sem]
  have HR0 : Hid _ := r0
  have HB0 : Hid (Below w.heap.size w W0) := bw0
  clear r0 bw0 hW0
  go_loopw [6, 7, 9, 18] (fun kv nb _ i wr => ∃ k : Nat, k ≤ ar.length ∧ i = .int .i64 k ∧ nb = .bool (nullsA (ar.take k)) ∧ OwnK W0.heap.size kv k (kindsA (ar.take k)) wr ∧ Below W0.heap.size W0 wr) (fun _ _ _ i _ => ar.length - (intOf i).toNat)
  case atStart => exact ⟨0, Nat.zero_le _, rfl, rfl, (⟨rfl, .inl ⟨rfl, rfl⟩⟩ : W0.ownsRow W0.heap.size 3 1 (.slice none 0 0) 0 []), Below.refl _ _⟩
  case round =>
    obtain ⟨k, hk, rfl, rfl, hoK, hbel⟩ := hrel
    have ho : wr.ownsRow W0.heap.size 3 1 _ k ((kindsA (ar.take k)).map (Value.int .i64)) := hoK
    clear hoK
    have hbs := hbel.size
    by_cases hlt : k < ar.length
    · have hlti : (k : Int) < ar.length := by omega
      obtain ⟨g, o, rfl, hgg, hgc⟩ := hcells (by omega)
      have bww : Below w.heap.size w wr := HB0.out.trans (hbel.mono (by omega))
      obtain ⟨c0, c1, c2⟩ := hgc k hlt
      have d0 := (bww.cell (p := ⟨g, o + k * 3, none⟩) hgg).trans c0
      have d1 := (bww.cell (p := ⟨g, o + k * 3 + 1, none⟩) hgg).trans c1
      have d2 := (bww.cell (p := ⟨g, o + k * 3 + 2, none⟩) hgg).trans c2
      have hsx := hsz ar[k] (List.getElem_mem hlt)
      have hvx := hv.out ar[k] (List.getElem_mem hlt)
      have HTK : Hid (ar.take (k + 1) = ar.take k ++ [ar[k]]) := take_snoc hlt
      clear c0 c1 c2 hgc hcells hsz
      generalize ar[k] = t at *
      obtain ⟨tk, tn, ts⟩ := t
      simp only at d0 d1 d2 hsx hvx
      have HVX : Hid (vok tk tn ts = true) := hvx
      clear hvx
      have HNB : Hid (nullsA (ar.take (k + 1)) = (nullsA (ar.take k) || tk == 0)) := (by rw [HTK.out, nullsA_snoc] : nullsA (ar.take (k + 1)) = (nullsA (ar.take k) || tk == 0))
      generalize nullsA (ar.take k) = nb at *
      have cs : nb = true ∨ (nb = false ∧ (tk == 0) = true) ∨ (nb = false ∧ (tk == 0) = false) := by cases nb <;> cases (tk == 0) <;> simp
      have hVX := fun W (h : Below w.heap.size w W) => vok_impl tk tn ts W hsx (tabs_below hT h)
      rw [HVX.out] at hVX
      rcases cs with rfl | ⟨rfl, ez⟩ | ⟨rfl, ez⟩
      all_goals
        go_wp2_with (first | (go_at_call 43; refine (hVX _ (bww.alloc bww.size _)).mono ?_; rintro e w1 ⟨rfl, hb1⟩; obtain ⟨hc1, hf1⟩ := bcell hb1; have hz1w : wr.heap.size < w1.heap.size := (by have := hb1.size; simp at this; omega); have bw1 : Below W0.heap.size W0 w1 := (hbel.alloc hbs _).trans (hb1.mono (by simp; omega)); have ho1 := own_below (ho.alloc _) hb1; have e0 : w1.cell? ⟨wr.heap.size, 0, none⟩ = some (.int .i64 tk) := (hc1 wr.heap.size 0 (by simp)).trans (by simp [go_sem])) | (at_builtin; refine wpList_append_own _ rfl (.tmp 26) (.tmp 29) 22 rfl W0.heap.size 3 i0 (.int .i64 0) 1 8 Tryz.underlying22 hi hz0 hz1 hz2 rfl (by decide) _ k ((kindsA (ar.take k)).map (Value.int .i64)) rfl (ho1.alloc _) ⟨w1.heap.size, 0, none⟩ 1 1 [.int .i64 tk] rfl rfl (cell_one_new _ _ _) (by intro u hu; simp at hu; subst hu; rfl) (by unfold maxLen; omega) (by omega) (by have := bw1.size; simp; omega) ?_; intro v' w2 hown' hgrow _; have bw2 : Below W0.heap.size W0 w2 := (bw1.alloc bw1.size _).grown hgrow (by have := bw1.size; simp; omega) (fun j hj => (ho1.lt j hj).1); have e2 : w2.cell? ⟨wr.heap.size, 0, none⟩ = some (.int .i64 tk) := (cell_grown hgrow (by simp; omega) (fun e => by have := (ho.lt wr.heap.size e.symm).2; omega)).trans (((below_alloc w1 _).cell (p := ⟨wr.heap.size, 0, none⟩) hz1w).trans e0); have HOW : Hid (OwnK W0.heap.size v' (k + 1) (kindsA (ar.take (k + 1))) w2) := OwnK.of HTK.out hown'; clear hown' hgrow))
        go_roundw
        case rel => exact ⟨k + 1, by omega, by go_num, by rw [HNB.out]; first | (rw [ez]; rfl) | rfl, HOW.out, bw2⟩
        case measure => simp [intOf]; omega
    · have hkn : k = ar.length := by omega
      subst hkn
      have hlti : ¬ (ar.length : Int) < ar.length := by omega
      rw [List.take_length] at ho
      rw [List.take_length]
      have hnu' := hnu.out
      generalize nullsA ar = nb at *
      have hkl : (kindsA ar).length = ar.length := by simp [kindsA]
      rw [← hkl] at ho
      obtain ⟨ka, kc, rfl, hrio⟩ := own_rio ho
      clear ho
      generalize hks : kindsA ar = ks at *
      have HKL : Hid (ks.length = ar.length) := hkl
      have bww : Below w.heap.size w wr := HB0.out.trans (hbel.mono (by omega))
      obtain ⟨q0, q1, q2, f0, f1, f2⟩ := HR0.out
      have q0 := (hbel.cell (p := ⟨w.heap.size, 0, none⟩) (by show w.heap.size < _; omega)).trans q0
      have q1 := (hbel.cell (p := ⟨w.heap.size, 1, none⟩) (by show w.heap.size < _; omega)).trans q1
      have q2 := (hbel.cell (p := ⟨w.heap.size, 2, none⟩) (by show w.heap.size < _; omega)).trans q2
      have f0 := (hbel.frozen (p := ⟨w.heap.size, 0, none⟩) (by show w.heap.size < _; omega)).trans f0
      have f1 := (hbel.frozen (p := ⟨w.heap.size, 1, none⟩) (by show w.heap.size < _; omega)).trans f1
      have f2 := (hbel.frozen (p := ⟨w.heap.size, 2, none⟩) (by show w.heap.size < _; omega)).trans f2
      have hwr : w.heap.size < wr.heap.size := by omega
      have hn20 : ks.length ≤ 1048576 := by rw [hkl]; omega
      clear hkl hks hbel HR0 HB0
      go_wp2_with (go_at_call 39; fail)
      refine (Mp.table_any _).mono ?_
      rintro e w1 ⟨rfl, hst⟩
      obtain ⟨l, hm, hks, hgood, hb1⟩ := hst
      have hrun := hm.look Tryz.underlying72 Tryz.underlying3 (Tryz.zeroValue70 _) 13
      obtain ⟨v, hv1, hv2⟩ := Mp.lookL_some (l := l) (k := 13) (by rw [hks]; decide)
      obtain ⟨g, hvg, hG⟩ := hgood _ hv2
      replace hG : Mp.GoodG w1 wr.heap.size 13 g := hG
      simp only at hvg
      rw [show Mp.workN 13 = 98 from rfl] at hvg
      subst hvg
      rw [hv1] at hrun
      simp only [Option.getD_some, Option.isSome_some] at hrun
      obtain ⟨hc1, hf1⟩ := bcell hb1
      have hz1 : w.heap.size < w1.heap.size := by have := hb1.size; omega
      have bw1 : Below w.heap.size w w1 := bww.trans (hb1.mono bww.size)
      have hrio1 := hrio.below hb1
      clear hgood hks hm hv1 hv2 hrio
      have hgF : g = Mp.fnV 96 := hG
      subst hgF
      have hgne : (Mp.twoK ks == -1) = false := hg.out
      clear hG
      go_wp2_with (go_at_call 96; fail)
      refine (Mp.two_any ks _ _ _ hn20 (hrio1.below (below_alloc _ _))).mono ?_
      rintro e w2 ⟨rfl, hb2⟩
      generalize Mp.twoK ks = gr at *
      obtain ⟨hc2, hf2⟩ := bcell hb2
      have hz2 : w1.heap.size < w2.heap.size := by have := hb2.size; simp at this; omega
      have hy2 : w.heap.size < w2.heap.size := by omega
      have bw1a : Below w.heap.size w (w1.alloc (.cells #[Value.func (Fn.func 96) #[] #[], Value.func (Fn.func 98) #[] #[]] 70)) := bw1.alloc bw1.size _
      have bw2 : Below w.heap.size w w2 := bw1a.trans (hb2.mono bw1a.size)
      have hnn : nb = false ∨ (nb = true ∧ ((13 : Int) != 6) = false) := by cases nb <;> simp_all
      rcases hnn with rfl | ⟨rfl, hn6⟩
      all_goals
        go_wp2_with (go_at_call 98; fail)
        refine (hW.out _ bw2).mono ?_
        rintro e w3 ⟨k, n, s, c, hR, rfl, hb3⟩
        have HRV : Hid (R (tV k n s c)) := hR
        clear hR
        simp only [tV]
        obtain ⟨hc3, hf3⟩ := bcell hb3
        have hz3 : w1.heap.size < w3.heap.size := by have := hb3.size; omega
        have hy3 : w.heap.size < w3.heap.size := by omega
        have bw3 : Below w.heap.size w w3 := bw2.trans (hb3.mono bw2.size)
        have b12 : Below wr.heap.size wr w2 := (hb1.alloc hb1.size _).trans (hb2.mono (by have := hb1.size; simp; omega))
        have b13 : Below wr.heap.size wr w3 := b12.trans (hb3.mono b12.size)
        have p0 := (b13.cell (p := ⟨w.heap.size, 0, none⟩) hwr).trans q0
        have p1 := (b13.cell (p := ⟨w.heap.size, 1, none⟩) hwr).trans q1
        have p2 := (b13.cell (p := ⟨w.heap.size, 2, none⟩) hwr).trans q2
        have j0 := (b13.frozen (p := ⟨w.heap.size, 0, none⟩) hwr).trans f0
        have j1 := (b13.frozen (p := ⟨w.heap.size, 1, none⟩) hwr).trans f1
        have j2 := (b13.frozen (p := ⟨w.heap.size, 2, none⟩) hwr).trans f2
        clear b12 b13 hc1 hf1 hc2 hf2 hc3 hf3
        go_wp2
        refine bodyPost_ret (v := tV k n s c) (by simp [results, Tryz.results20, go_sem, tV, p0, p1, p2, j0, j1, j2, hy3]) rfl ⟨_, HRV.out, rfl, ?_⟩
        exact ((bw3.setCell (Nat.le_refl _) _).setCell (Nat.le_refl _) _).setCell (Nat.le_refl _) _
end Go.Proofs.YtdcdoeolaongkaaGreatDoor.Ca
