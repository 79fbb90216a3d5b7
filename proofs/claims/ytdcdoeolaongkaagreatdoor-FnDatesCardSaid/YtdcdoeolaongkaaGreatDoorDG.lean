import Derived.Test.YtdcdoeolaongkaaGreatDoorC0
import Derived.Test.YtdcdoeolaongkaaGreatDoorB1
import Derived.Test.YtdcdoeolaongkaaGreatDoorG3
import Derived.Deep.RegionWith
import Derived.Test.YtdcdoeolaongkaaGreatDoorR8
import Derived.Test.YtdcdoeolaongkaaGreatDoorG7
namespace Go.Proofs.YtdcdoeolaongkaaGreatDoor.Ca
open Go.MapKept Go.ChangeMaps
open Go.ChangeShapes Go.WideShapes Go.ChangeAt Go.RowKit Go.Shelf
open Go.Proofs.YtdcdoeolaongkaaGreatDoor.Rd
set_option linter.unusedVariables false
set_option linter.unusedSimpArgs false
set_option maxRecDepth 100000
set_option maxHeartbeats 16000000 in
theorem callI_7 (ar : List TA) (a : Option Addr) (cap : Nat) (w : World) (h8 : ar.length ≤ 8) (hr : RVO w (.slice a ar.length cap) ar) (hsz : ∀ t ∈ ar, t.2.2.size ≤ 1048576) (hT : Tabs w) (hv : Hid (∀ t ∈ ar, vok t.1 t.2.1 t.2.2 = true)) (hg : Hid ((Mp.gvK 7 (kindsA ar) == -1) = false)) (hnu : Hid ((nullsA ar && (7 : Int) != 6) = false)) (R : Value → Prop)
    (hW : Hid (∀ W, Below w.heap.size w W → Calls Tryz.prog 91 #[.slice a ar.length cap] W fun e w' => ∃ k n s c, R (tV k n s c) ∧ e = .returned (tV k n s c) ∧ Below W.heap.size W w')) :
    Calls Tryz.prog 20 #[.int .i64 7, .slice a ar.length cap] w fun e w' => ∃ V, R V ∧ e = .returned V ∧ Below w.heap.size w w' := by
  obtain ⟨i0, hi, hz0, hz1, hz2⟩ := info_parts info3
  have hrr := hr
  obtain ⟨a', cap', hsl, hcells⟩ := hr
  simp only [Value.slice.injEq] at hsl
  obtain ⟨rfl, _, rfl⟩ := hsl
  have h8i : ¬ (8 : Int) < ar.length := by omega
  have bw0 := below_alloc w (.cells #[.int .i64 0, .int .i64 0, .string ⟨#[]⟩] 29)
  have HRR : Hid (RVO w (.slice a ar.length cap) ar) := hrr
  clear hrr
  go_enter Tryz.func20, Tryz.ntmps20
  go_wp2
  generalize hW0 : w.alloc (.cells #[.int .i64 0, .int .i64 0, .string ⟨#[]⟩] 29) = W0 at *
  have hs0 : w.heap.size < W0.heap.size := by rw [← hW0]; simp
  have r0 : W0.cell? ⟨w.heap.size, 0, none⟩ = some (.int .i64 0) ∧ W0.cell? ⟨w.heap.size, 1, none⟩ = some (.int .i64 0) ∧ W0.cell? ⟨w.heap.size, 2, none⟩ = some (.string ⟨#[]⟩) ∧ W0.frozen? ⟨w.heap.size, 0, none⟩ = false ∧ W0.frozen? ⟨w.heap.size, 1, none⟩ = false ∧ W0.frozen? ⟨w.heap.size, 2, none⟩ = false := by
    rw [← hW0]; simp [go_sem]
  have HR0 : Hid _ := r0
  have HB0 : Hid (Below w.heap.size w W0) := bw0
  clear r0 bw0 hW0
  go_loopw [6, 7, 9, 18] (fun kv nb _ i wr => ∃ k : Nat, k ≤ ar.length ∧ i = .int .i64 k ∧ nb = .bool (nullsA (ar.take k)) ∧ OwnK W0.heap.size kv k (kindsA (ar.take k)) wr ∧ Below W0.heap.size W0 wr) (fun _ _ _ i _ => ar.length - (intOf i).toNat)
  case atStart => exact ⟨0, Nat.zero_le _, rfl, rfl, (⟨rfl, .inl ⟨rfl, rfl⟩⟩ : W0.ownsRow W0.heap.size 3 1 (.slice none 0 0) 0 []), Below.refl _ _⟩
  case round =>
    obtain ⟨k, hk, rfl, rfl, hoK, hbel⟩ := hrel
    have ho : wr.ownsRow W0.heap.size 3 1 _ k ((kindsA (ar.take k)).map (Value.int .i64)) := hoK
    clear hoK
    have hbs := hbel.size
    by_cases hlt : k < ar.length
    · have hlti : (k : Int) < ar.length := by omega
      obtain ⟨g, o, rfl, hgg, hgc⟩ := hcells (by omega)
      have bww : Below w.heap.size w wr := HB0.out.trans (hbel.mono (by omega))
      obtain ⟨c0, c1, c2⟩ := hgc k hlt
      have d0 := (bww.cell (p := ⟨g, o + k * 3, none⟩) hgg).trans c0
      have d1 := (bww.cell (p := ⟨g, o + k * 3 + 1, none⟩) hgg).trans c1
      have d2 := (bww.cell (p := ⟨g, o + k * 3 + 2, none⟩) hgg).trans c2
      have hsx := hsz ar[k] (List.getElem_mem hlt)
      have hvx := hv.out ar[k] (List.getElem_mem hlt)
      have HTK : Hid (ar.take (k + 1) = ar.take k ++ [ar[k]]) := take_snoc hlt
      clear c0 c1 c2 hgc hcells hsz
      generalize ar[k] = t at *
      obtain ⟨tk, tn, ts⟩ := t
      simp only at d0 d1 d2 hsx hvx
      have HVX : Hid (vok tk tn ts = true) := hvx
      clear hvx
      have HNB : Hid (nullsA (ar.take (k + 1)) = (nullsA (ar.take k) || tk == 0)) := (by rw [HTK.out, nullsA_snoc] : nullsA (ar.take (k + 1)) = (nullsA (ar.take k) || tk == 0))
      generalize nullsA (ar.take k) = nb at *
      have cs : nb = true ∨ (nb = false ∧ (tk == 0) = true) ∨ (nb = false ∧ (tk == 0) = false) := by cases nb <;> cases (tk == 0) <;> simp
      have hVX := fun W (h : Below w.heap.size w W) => vok_impl tk tn ts W hsx (tabs_below hT h)
      rw [HVX.out] at hVX
      rcases cs with rfl | ⟨rfl, ez⟩ | ⟨rfl, ez⟩
      all_goals
        go_wp2_with (first | (go_at_call 43; refine (hVX _ (bww.alloc bww.size _)).mono ?_; rintro e w1 ⟨rfl, hb1⟩; obtain ⟨hc1, hf1⟩ := bcell hb1; have hz1w : wr.heap.size < w1.heap.size := (by have := hb1.size; simp at this; omega); have bw1 : Below W0.heap.size W0 w1 := (hbel.alloc hbs _).trans (hb1.mono (by simp; omega)); have ho1 := own_below (ho.alloc _) hb1; have e0 : w1.cell? ⟨wr.heap.size, 0, none⟩ = some (.int .i64 tk) := (hc1 wr.heap.size 0 (by simp)).trans (by simp [go_sem])) | (at_builtin; refine wpList_append_own _ rfl (.tmp 26) (.tmp 29) 22 rfl W0.heap.size 3 i0 (.int .i64 0) 1 8 Tryz.underlying22 hi hz0 hz1 hz2 rfl (by decide) _ k ((kindsA (ar.take k)).map (Value.int .i64)) rfl (ho1.alloc _) ⟨w1.heap.size, 0, none⟩ 1 1 [.int .i64 tk] rfl rfl (cell_one_new _ _ _) (by intro u hu; simp at hu; subst hu; rfl) (by unfold maxLen; omega) (by omega) (by have := bw1.size; simp; omega) ?_; intro v' w2 hown' hgrow _; have bw2 : Below W0.heap.size W0 w2 := (bw1.alloc bw1.size _).grown hgrow (by have := bw1.size; simp; omega) (fun j hj => (ho1.lt j hj).1); have e2 : w2.cell? ⟨wr.heap.size, 0, none⟩ = some (.int .i64 tk) := (cell_grown hgrow (by simp; omega) (fun e => by have := (ho.lt wr.heap.size e.symm).2; omega)).trans (((below_alloc w1 _).cell (p := ⟨wr.heap.size, 0, none⟩) hz1w).trans e0); have HOW : Hid (OwnK W0.heap.size v' (k + 1) (kindsA (ar.take (k + 1))) w2) := OwnK.of HTK.out hown'; clear hown' hgrow))
        go_roundw
        case rel => exact ⟨k + 1, by omega, by go_num, by rw [HNB.out]; first | (rw [ez]; rfl) | rfl, HOW.out, bw2⟩
        case measure => simp [intOf]; omega
    · have hkn : k = ar.length := by omega
      subst hkn
      have hlti : ¬ (ar.length : Int) < ar.length := by omega
      rw [List.take_length] at ho
      rw [List.take_length]
      have hnu' := hnu.out
      generalize nullsA ar = nb at *
      have hkl : (kindsA ar).length = ar.length := by simp [kindsA]
      rw [← hkl] at ho
      obtain ⟨ka, kc, rfl, hrio⟩ := own_rio ho
      clear ho
      generalize hks : kindsA ar = ks at *
      have HKL : Hid (ks.length = ar.length) := hkl
      have bww : Below w.heap.size w wr := HB0.out.trans (hbel.mono (by omega))
      obtain ⟨q0, q1, q2, f0, f1, f2⟩ := HR0.out
      have q0 := (hbel.cell (p := ⟨w.heap.size, 0, none⟩) (by show w.heap.size < _; omega)).trans q0
      have q1 := (hbel.cell (p := ⟨w.heap.size, 1, none⟩) (by show w.heap.size < _; omega)).trans q1
      have q2 := (hbel.cell (p := ⟨w.heap.size, 2, none⟩) (by show w.heap.size < _; omega)).trans q2
      have f0 := (hbel.frozen (p := ⟨w.heap.size, 0, none⟩) (by show w.heap.size < _; omega)).trans f0
      have f1 := (hbel.frozen (p := ⟨w.heap.size, 1, none⟩) (by show w.heap.size < _; omega)).trans f1
      have f2 := (hbel.frozen (p := ⟨w.heap.size, 2, none⟩) (by show w.heap.size < _; omega)).trans f2
      have hwr : w.heap.size < wr.heap.size := by omega
      have hn20 : ks.length ≤ 1048576 := by rw [hkl]; omega
      clear hkl hks hbel HR0 HB0
      go_wp2_with (go_at_call 39; fail)
      refine (Mp.table_any _).mono ?_
      rintro e w1 ⟨rfl, hst⟩
      obtain ⟨l, hm, hks, hgood, hb1⟩ := hst
      have hrun := hm.look Tryz.underlying72 Tryz.underlying3 (Tryz.zeroValue70 _) 7
      obtain ⟨v, hv1, hv2⟩ := Mp.lookL_some (l := l) (k := 7) (by rw [hks]; decide)
      obtain ⟨g, hvg, hG⟩ := hgood _ hv2
      replace hG : Mp.GoodG w1 wr.heap.size 7 g := hG
      simp only at hvg
      rw [show Mp.workN 7 = 91 from rfl] at hvg
      subst hvg
      rw [hv1] at hrun
      simp only [Option.getD_some, Option.isSome_some] at hrun
      obtain ⟨hc1, hf1⟩ := bcell hb1
      have hz1 : w.heap.size < w1.heap.size := by have := hb1.size; omega
      have bw1 : Below w.heap.size w w1 := bww.trans (hb1.mono bww.size)
      have hrio1 := hrio.below hb1
      clear hgood hks hm hv1 hv2 hrio
      have hT2 : Mp.Taker w1 wr.heap.size g (Mp.resK 7) (Mp.wantK 7) := hG
      have HG : Hid (Mp.gvK 7 ks = Mp.takeK (Mp.resK 7) (Mp.wantK 7) ks) := rfl
      have hgne : (Mp.takeK (Mp.resK 7) (Mp.wantK 7) ks == -1) = false := hg.out
      have HWL : Hid ((Mp.wantK 7).length ≤ 100) := (by decide : (Mp.wantK 7).length ≤ 100)
      clear hG
      generalize Mp.resK 7 = rs at *
      generalize Mp.wantK 7 = wsl at *
      obtain ⟨bw_, br, sb, rfl, _, ⟨l1, l2, l3⟩, t1, t2, t3⟩ := hT2
      have HTK : Hid ((bw_ < w1.heap.size ∧ br < w1.heap.size ∧ sb < w1.heap.size) ∧ w1.cell? ⟨bw_, 0, none⟩ = some (.slice (some ⟨sb, 0, none⟩) wsl.length wsl.length) ∧ w1.cell? ⟨br, 0, none⟩ = some (.int .i64 rs) ∧ ∀ i (h : i < wsl.length), w1.cell? ⟨sb, i, none⟩ = some (.int .i64 wsl[i])) := ⟨⟨l1, l2, l3⟩, t1, t2, t3⟩
      clear t1 t2 t3 l1 l2 l3
      go_wp2_with (go_at_call 149; fail)
      refine (Mp.taking1_any 0 rs wsl ks _ _ bw_ br sb _ hn20 HWL.out (hrio1.below (below_alloc _ _)) (((below_alloc w1 _).cell (p := ⟨bw_, 0, none⟩) HTK.out.1.1).trans HTK.out.2.1) (((below_alloc w1 _).cell (p := ⟨br, 0, none⟩) HTK.out.1.2.1).trans HTK.out.2.2.1) (fun i hi => ((below_alloc w1 _).cell (p := ⟨sb, i, none⟩) HTK.out.1.2.2).trans (HTK.out.2.2.2 i hi))).mono ?_
      rintro e w2 ⟨rfl, hbe2⟩
      have hb2 : Below (w1.alloc (.cells #[Value.func (Fn.func 149) #[] #[Value.pointer (some ⟨bw_, 0, none⟩), Value.pointer (some ⟨br, 0, none⟩)], Value.func (Fn.func 91) #[] #[]] 70)).heap.size (w1.alloc (.cells #[Value.func (Fn.func 149) #[] #[Value.pointer (some ⟨bw_, 0, none⟩), Value.pointer (some ⟨br, 0, none⟩)], Value.func (Fn.func 91) #[] #[]] 70)) w2 := by rw [hbe2]; exact Below.refl _ _
      clear hbe2
      generalize Mp.takeK rs wsl ks = gr at *
      obtain ⟨hc2, hf2⟩ := bcell hb2
      have hz2 : w1.heap.size < w2.heap.size := by have := hb2.size; simp at this; omega
      have hy2 : w.heap.size < w2.heap.size := by omega
      have bw1a : Below w.heap.size w (w1.alloc (.cells #[Value.func (Fn.func 149) #[] #[Value.pointer (some ⟨bw_, 0, none⟩), Value.pointer (some ⟨br, 0, none⟩)], Value.func (Fn.func 91) #[] #[]] 70)) := bw1.alloc bw1.size _
      have bw2 : Below w.heap.size w w2 := bw1a.trans (hb2.mono bw1a.size)
      have hnn : nb = false ∨ (nb = true ∧ ((7 : Int) != 6) = false) := by cases nb <;> simp_all
      rcases hnn with rfl | ⟨rfl, hn6⟩
      all_goals
        go_wp2_with (go_at_call 91; fail)
        refine (hW.out _ bw2).mono ?_
        rintro e w3 ⟨k, n, s, c, hR, rfl, hb3⟩
        have HRV : Hid (R (tV k n s c)) := hR
        clear hR
        simp only [tV]
        obtain ⟨hc3, hf3⟩ := bcell hb3
        have hz3 : w1.heap.size < w3.heap.size := by have := hb3.size; omega
        have hy3 : w.heap.size < w3.heap.size := by omega
        have bw3 : Below w.heap.size w w3 := bw2.trans (hb3.mono bw2.size)
        have b12 : Below wr.heap.size wr w2 := (hb1.alloc hb1.size _).trans (hb2.mono (by have := hb1.size; simp; omega))
        have b13 : Below wr.heap.size wr w3 := b12.trans (hb3.mono b12.size)
        have p0 := (b13.cell (p := ⟨w.heap.size, 0, none⟩) hwr).trans q0
        have p1 := (b13.cell (p := ⟨w.heap.size, 1, none⟩) hwr).trans q1
        have p2 := (b13.cell (p := ⟨w.heap.size, 2, none⟩) hwr).trans q2
        have j0 := (b13.frozen (p := ⟨w.heap.size, 0, none⟩) hwr).trans f0
        have j1 := (b13.frozen (p := ⟨w.heap.size, 1, none⟩) hwr).trans f1
        have j2 := (b13.frozen (p := ⟨w.heap.size, 2, none⟩) hwr).trans f2
        clear b12 b13 hc1 hf1 hc2 hf2 hc3 hf3
        go_wp2
        refine bodyPost_ret (v := tV k n s c) (by simp [results, Tryz.results20, go_sem, tV, p0, p1, p2, j0, j1, j2, hy3]) rfl ⟨_, HRV.out, rfl, ?_⟩
        exact ((bw3.setCell (Nat.le_refl _) _).setCell (Nat.le_refl _) _).setCell (Nat.le_refl _) _
end Go.Proofs.YtdcdoeolaongkaaGreatDoor.Ca
namespace Go.Proofs.YtdcdoeolaongkaaGreatDoor.Ca
open Go.MapKept Go.ChangeMaps
open Go.ChangeShapes Go.WideShapes Go.ChangeAt Go.RowKit Go.Shelf
open Go.Proofs.YtdcdoeolaongkaaGreatDoor.Rd
set_option linter.unusedVariables false
set_option linter.unusedSimpArgs false
set_option maxRecDepth 100000
set_option maxHeartbeats 16000000 in
theorem callI_8 (ar : List TA) (a : Option Addr) (cap : Nat) (w : World) (h8 : ar.length ≤ 8) (hr : RVO w (.slice a ar.length cap) ar) (hsz : ∀ t ∈ ar, t.2.2.size ≤ 1048576) (hT : Tabs w) (hv : Hid (∀ t ∈ ar, vok t.1 t.2.1 t.2.2 = true)) (hg : Hid ((Mp.gvK 8 (kindsA ar) == -1) = false)) (hnu : Hid ((nullsA ar && (8 : Int) != 6) = false)) (R : Value → Prop)
    (hW : Hid (∀ W, Below w.heap.size w W → Calls Tryz.prog 92 #[.slice a ar.length cap] W fun e w' => ∃ k n s c, R (tV k n s c) ∧ e = .returned (tV k n s c) ∧ Below W.heap.size W w')) :
    Calls Tryz.prog 20 #[.int .i64 8, .slice a ar.length cap] w fun e w' => ∃ V, R V ∧ e = .returned V ∧ Below w.heap.size w w' := by
  obtain ⟨i0, hi, hz0, hz1, hz2⟩ := info_parts info3
  have hrr := hr
  obtain ⟨a', cap', hsl, hcells⟩ := hr
  simp only [Value.slice.injEq] at hsl
  obtain ⟨rfl, _, rfl⟩ := hsl
  have h8i : ¬ (8 : Int) < ar.length := by omega
  have bw0 := below_alloc w (.cells #[.int .i64 0, .int .i64 0, .string ⟨#[]⟩] 29)
  have HRR : Hid (RVO w (.slice a ar.length cap) ar) := hrr
  clear hrr
  go_enter Tryz.func20, Tryz.ntmps20
  go_wp2
  generalize hW0 : w.alloc (.cells #[.int .i64 0, .int .i64 0, .string ⟨#[]⟩] 29) = W0 at *
  have hs0 : w.heap.size < W0.heap.size := by rw [← hW0]; simp
  have r0 : W0.cell? ⟨w.heap.size, 0, none⟩ = some (.int .i64 0) ∧ W0.cell? ⟨w.heap.size, 1, none⟩ = some (.int .i64 0) ∧ W0.cell? ⟨w.heap.size, 2, none⟩ = some (.string ⟨#[]⟩) ∧ W0.frozen? ⟨w.heap.size, 0, none⟩ = false ∧ W0.frozen? ⟨w.heap.size, 1, none⟩ = false ∧ W0.frozen? ⟨w.heap.size, 2, none⟩ = false := by
    rw [← hW0]; simp [go_sem]
  have HR0 : Hid _ := r0
  have HB0 : Hid (Below w.heap.size w W0) := bw0
  clear r0 bw0 hW0
  go_loopw [6, 7, 9, 18] (fun kv nb _ i wr => ∃ k : Nat, k ≤ ar.length ∧ i = .int .i64 k ∧ nb = .bool (nullsA (ar.take k)) ∧ OwnK W0.heap.size kv k (kindsA (ar.take k)) wr ∧ Below W0.heap.size W0 wr) (fun _ _ _ i _ => ar.length - (intOf i).toNat)
  case atStart => exact ⟨0, Nat.zero_le _, rfl, rfl, (⟨rfl, .inl ⟨rfl, rfl⟩⟩ : W0.ownsRow W0.heap.size 3 1 (.slice none 0 0) 0 []), Below.refl _ _⟩
  case round =>
    obtain ⟨k, hk, rfl, rfl, hoK, hbel⟩ := hrel
    have ho : wr.ownsRow W0.heap.size 3 1 _ k ((kindsA (ar.take k)).map (Value.int .i64)) := hoK
    clear hoK
    have hbs := hbel.size
    by_cases hlt : k < ar.length
    · have hlti : (k : Int) < ar.length := by omega
      obtain ⟨g, o, rfl, hgg, hgc⟩ := hcells (by omega)
      have bww : Below w.heap.size w wr := HB0.out.trans (hbel.mono (by omega))
      obtain ⟨c0, c1, c2⟩ := hgc k hlt
      have d0 := (bww.cell (p := ⟨g, o + k * 3, none⟩) hgg).trans c0
      have d1 := (bww.cell (p := ⟨g, o + k * 3 + 1, none⟩) hgg).trans c1
      have d2 := (bww.cell (p := ⟨g, o + k * 3 + 2, none⟩) hgg).trans c2
      have hsx := hsz ar[k] (List.getElem_mem hlt)
      have hvx := hv.out ar[k] (List.getElem_mem hlt)
      have HTK : Hid (ar.take (k + 1) = ar.take k ++ [ar[k]]) := take_snoc hlt
      clear c0 c1 c2 hgc hcells hsz
      generalize ar[k] = t at *
      obtain ⟨tk, tn, ts⟩ := t
      simp only at d0 d1 d2 hsx hvx
      have HVX : Hid (vok tk tn ts = true) := hvx
      clear hvx
      have HNB : Hid (nullsA (ar.take (k + 1)) = (nullsA (ar.take k) || tk == 0)) := (by rw [HTK.out, nullsA_snoc] : nullsA (ar.take (k + 1)) = (nullsA (ar.take k) || tk == 0))
      generalize nullsA (ar.take k) = nb at *
      have cs : nb = true ∨ (nb = false ∧ (tk == 0) = true) ∨ (nb = false ∧ (tk == 0) = false) := by cases nb <;> cases (tk == 0) <;> simp
      have hVX := fun W (h : Below w.heap.size w W) => vok_impl tk tn ts W hsx (tabs_below hT h)
      rw [HVX.out] at hVX
      rcases cs with rfl | ⟨rfl, ez⟩ | ⟨rfl, ez⟩
      all_goals
        go_wp2_with (first | (go_at_call 43; refine (hVX _ (bww.alloc bww.size _)).mono ?_; rintro e w1 ⟨rfl, hb1⟩; obtain ⟨hc1, hf1⟩ := bcell hb1; have hz1w : wr.heap.size < w1.heap.size := (by have := hb1.size; simp at this; omega); have bw1 : Below W0.heap.size W0 w1 := (hbel.alloc hbs _).trans (hb1.mono (by simp; omega)); have ho1 := own_below (ho.alloc _) hb1; have e0 : w1.cell? ⟨wr.heap.size, 0, none⟩ = some (.int .i64 tk) := (hc1 wr.heap.size 0 (by simp)).trans (by simp [go_sem])) | (at_builtin; refine wpList_append_own _ rfl (.tmp 26) (.tmp 29) 22 rfl W0.heap.size 3 i0 (.int .i64 0) 1 8 Tryz.underlying22 hi hz0 hz1 hz2 rfl (by decide) _ k ((kindsA (ar.take k)).map (Value.int .i64)) rfl (ho1.alloc _) ⟨w1.heap.size, 0, none⟩ 1 1 [.int .i64 tk] rfl rfl (cell_one_new _ _ _) (by intro u hu; simp at hu; subst hu; rfl) (by unfold maxLen; omega) (by omega) (by have := bw1.size; simp; omega) ?_; intro v' w2 hown' hgrow _; have bw2 : Below W0.heap.size W0 w2 := (bw1.alloc bw1.size _).grown hgrow (by have := bw1.size; simp; omega) (fun j hj => (ho1.lt j hj).1); have e2 : w2.cell? ⟨wr.heap.size, 0, none⟩ = some (.int .i64 tk) := (cell_grown hgrow (by simp; omega) (fun e => by have := (ho.lt wr.heap.size e.symm).2; omega)).trans (((below_alloc w1 _).cell (p := ⟨wr.heap.size, 0, none⟩) hz1w).trans e0); have HOW : Hid (OwnK W0.heap.size v' (k + 1) (kindsA (ar.take (k + 1))) w2) := OwnK.of HTK.out hown'; clear hown' hgrow))
        go_roundw
        case rel => exact ⟨k + 1, by omega, by go_num, by rw [HNB.out]; first | (rw [ez]; rfl) | rfl, HOW.out, bw2⟩
        case measure => simp [intOf]; omega
    · have hkn : k = ar.length := by omega
      subst hkn
      have hlti : ¬ (ar.length : Int) < ar.length := by omega
      rw [List.take_length] at ho
      rw [List.take_length]
      have hnu' := hnu.out
      generalize nullsA ar = nb at *
      have hkl : (kindsA ar).length = ar.length := by simp [kindsA]
      rw [← hkl] at ho
      obtain ⟨ka, kc, rfl, hrio⟩ := own_rio ho
      clear ho
      generalize hks : kindsA ar = ks at *
      have HKL : Hid (ks.length = ar.length) := hkl
      have bww : Below w.heap.size w wr := HB0.out.trans (hbel.mono (by omega))
      obtain ⟨q0, q1, q2, f0, f1, f2⟩ := HR0.out
      have q0 := (hbel.cell (p := ⟨w.heap.size, 0, none⟩) (by show w.heap.size < _; omega)).trans q0
      have q1 := (hbel.cell (p := ⟨w.heap.size, 1, none⟩) (by show w.heap.size < _; omega)).trans q1
      have q2 := (hbel.cell (p := ⟨w.heap.size, 2, none⟩) (by show w.heap.size < _; omega)).trans q2
      have f0 := (hbel.frozen (p := ⟨w.heap.size, 0, none⟩) (by show w.heap.size < _; omega)).trans f0
      have f1 := (hbel.frozen (p := ⟨w.heap.size, 1, none⟩) (by show w.heap.size < _; omega)).trans f1
      have f2 := (hbel.frozen (p := ⟨w.heap.size, 2, none⟩) (by show w.heap.size < _; omega)).trans f2
      have hwr : w.heap.size < wr.heap.size := by omega
      have hn20 : ks.length ≤ 1048576 := by rw [hkl]; omega
      clear hkl hks hbel HR0 HB0
      go_wp2_with (go_at_call 39; fail)
      refine (Mp.table_any _).mono ?_
      rintro e w1 ⟨rfl, hst⟩
      obtain ⟨l, hm, hks, hgood, hb1⟩ := hst
      have hrun := hm.look Tryz.underlying72 Tryz.underlying3 (Tryz.zeroValue70 _) 8
      obtain ⟨v, hv1, hv2⟩ := Mp.lookL_some (l := l) (k := 8) (by rw [hks]; decide)
      obtain ⟨g, hvg, hG⟩ := hgood _ hv2
      replace hG : Mp.GoodG w1 wr.heap.size 8 g := hG
      simp only at hvg
      rw [show Mp.workN 8 = 92 from rfl] at hvg
      subst hvg
      rw [hv1] at hrun
      simp only [Option.getD_some, Option.isSome_some] at hrun
      obtain ⟨hc1, hf1⟩ := bcell hb1
      have hz1 : w.heap.size < w1.heap.size := by have := hb1.size; omega
      have bw1 : Below w.heap.size w w1 := bww.trans (hb1.mono bww.size)
      have hrio1 := hrio.below hb1
      clear hgood hks hm hv1 hv2 hrio
      have hT2 : Mp.Taker w1 wr.heap.size g (Mp.resK 8) (Mp.wantK 8) := hG
      have HG : Hid (Mp.gvK 8 ks = Mp.takeK (Mp.resK 8) (Mp.wantK 8) ks) := rfl
      have hgne : (Mp.takeK (Mp.resK 8) (Mp.wantK 8) ks == -1) = false := hg.out
      have HWL : Hid ((Mp.wantK 8).length ≤ 100) := (by decide : (Mp.wantK 8).length ≤ 100)
      clear hG
      generalize Mp.resK 8 = rs at *
      generalize Mp.wantK 8 = wsl at *
      obtain ⟨bw_, br, sb, rfl, _, ⟨l1, l2, l3⟩, t1, t2, t3⟩ := hT2
      have HTK : Hid ((bw_ < w1.heap.size ∧ br < w1.heap.size ∧ sb < w1.heap.size) ∧ w1.cell? ⟨bw_, 0, none⟩ = some (.slice (some ⟨sb, 0, none⟩) wsl.length wsl.length) ∧ w1.cell? ⟨br, 0, none⟩ = some (.int .i64 rs) ∧ ∀ i (h : i < wsl.length), w1.cell? ⟨sb, i, none⟩ = some (.int .i64 wsl[i])) := ⟨⟨l1, l2, l3⟩, t1, t2, t3⟩
      clear t1 t2 t3 l1 l2 l3
      go_wp2_with (go_at_call 149; fail)
      refine (Mp.taking1_any 0 rs wsl ks _ _ bw_ br sb _ hn20 HWL.out (hrio1.below (below_alloc _ _)) (((below_alloc w1 _).cell (p := ⟨bw_, 0, none⟩) HTK.out.1.1).trans HTK.out.2.1) (((below_alloc w1 _).cell (p := ⟨br, 0, none⟩) HTK.out.1.2.1).trans HTK.out.2.2.1) (fun i hi => ((below_alloc w1 _).cell (p := ⟨sb, i, none⟩) HTK.out.1.2.2).trans (HTK.out.2.2.2 i hi))).mono ?_
      rintro e w2 ⟨rfl, hbe2⟩
      have hb2 : Below (w1.alloc (.cells #[Value.func (Fn.func 149) #[] #[Value.pointer (some ⟨bw_, 0, none⟩), Value.pointer (some ⟨br, 0, none⟩)], Value.func (Fn.func 92) #[] #[]] 70)).heap.size (w1.alloc (.cells #[Value.func (Fn.func 149) #[] #[Value.pointer (some ⟨bw_, 0, none⟩), Value.pointer (some ⟨br, 0, none⟩)], Value.func (Fn.func 92) #[] #[]] 70)) w2 := by rw [hbe2]; exact Below.refl _ _
      clear hbe2
      generalize Mp.takeK rs wsl ks = gr at *
      obtain ⟨hc2, hf2⟩ := bcell hb2
      have hz2 : w1.heap.size < w2.heap.size := by have := hb2.size; simp at this; omega
      have hy2 : w.heap.size < w2.heap.size := by omega
      have bw1a : Below w.heap.size w (w1.alloc (.cells #[Value.func (Fn.func 149) #[] #[Value.pointer (some ⟨bw_, 0, none⟩), Value.pointer (some ⟨br, 0, none⟩)], Value.func (Fn.func 92) #[] #[]] 70)) := bw1.alloc bw1.size _
      have bw2 : Below w.heap.size w w2 := bw1a.trans (hb2.mono bw1a.size)
      have hnn : nb = false ∨ (nb = true ∧ ((8 : Int) != 6) = false) := by cases nb <;> simp_all
      rcases hnn with rfl | ⟨rfl, hn6⟩
      all_goals
        go_wp2_with (go_at_call 92; fail)
        refine (hW.out _ bw2).mono ?_
        rintro e w3 ⟨k, n, s, c, hR, rfl, hb3⟩
        have HRV : Hid (R (tV k n s c)) := hR
        clear hR
        simp only [tV]
        obtain ⟨hc3, hf3⟩ := bcell hb3
        have hz3 : w1.heap.size < w3.heap.size := by have := hb3.size; omega
        have hy3 : w.heap.size < w3.heap.size := by omega
        have bw3 : Below w.heap.size w w3 := bw2.trans (hb3.mono bw2.size)
        have b12 : Below wr.heap.size wr w2 := (hb1.alloc hb1.size _).trans (hb2.mono (by have := hb1.size; simp; omega))
        have b13 : Below wr.heap.size wr w3 := b12.trans (hb3.mono b12.size)
        have p0 := (b13.cell (p := ⟨w.heap.size, 0, none⟩) hwr).trans q0
        have p1 := (b13.cell (p := ⟨w.heap.size, 1, none⟩) hwr).trans q1
        have p2 := (b13.cell (p := ⟨w.heap.size, 2, none⟩) hwr).trans q2
        have j0 := (b13.frozen (p := ⟨w.heap.size, 0, none⟩) hwr).trans f0
        have j1 := (b13.frozen (p := ⟨w.heap.size, 1, none⟩) hwr).trans f1
        have j2 := (b13.frozen (p := ⟨w.heap.size, 2, none⟩) hwr).trans f2
        clear b12 b13 hc1 hf1 hc2 hf2 hc3 hf3
        go_wp2
        refine bodyPost_ret (v := tV k n s c) (by simp [results, Tryz.results20, go_sem, tV, p0, p1, p2, j0, j1, j2, hy3]) rfl ⟨_, HRV.out, rfl, ?_⟩
        exact ((bw3.setCell (Nat.le_refl _) _).setCell (Nat.le_refl _) _).setCell (Nat.le_refl _) _
end Go.Proofs.YtdcdoeolaongkaaGreatDoor.Ca
namespace Go.Proofs.YtdcdoeolaongkaaGreatDoor.Ca
open Go.MapKept Go.ChangeMaps
open Go.ChangeShapes Go.WideShapes Go.ChangeAt Go.RowKit Go.Shelf
open Go.Proofs.YtdcdoeolaongkaaGreatDoor.Rd
set_option linter.unusedVariables false
set_option linter.unusedSimpArgs false
set_option maxRecDepth 100000
set_option maxHeartbeats 16000000 in
theorem callI_9 (ar : List TA) (a : Option Addr) (cap : Nat) (w : World) (h8 : ar.length ≤ 8) (hr : RVO w (.slice a ar.length cap) ar) (hsz : ∀ t ∈ ar, t.2.2.size ≤ 1048576) (hT : Tabs w) (hv : Hid (∀ t ∈ ar, vok t.1 t.2.1 t.2.2 = true)) (hg : Hid ((Mp.gvK 9 (kindsA ar) == -1) = false)) (hnu : Hid ((nullsA ar && (9 : Int) != 6) = false)) (R : Value → Prop)
    (hW : Hid (∀ W, Below w.heap.size w W → Calls Tryz.prog 93 #[.slice a ar.length cap] W fun e w' => ∃ k n s c, R (tV k n s c) ∧ e = .returned (tV k n s c) ∧ Below W.heap.size W w')) :
    Calls Tryz.prog 20 #[.int .i64 9, .slice a ar.length cap] w fun e w' => ∃ V, R V ∧ e = .returned V ∧ Below w.heap.size w w' := by
  obtain ⟨i0, hi, hz0, hz1, hz2⟩ := info_parts info3
  have hrr := hr
  obtain ⟨a', cap', hsl, hcells⟩ := hr
  simp only [Value.slice.injEq] at hsl
  obtain ⟨rfl, _, rfl⟩ := hsl
  have h8i : ¬ (8 : Int) < ar.length := by omega
  have bw0 := below_alloc w (.cells #[.int .i64 0, .int .i64 0, .string ⟨#[]⟩] 29)
  have HRR : Hid (RVO w (.slice a ar.length cap) ar) := hrr
  clear hrr
  go_enter Tryz.func20, Tryz.ntmps20
  go_wp2
  generalize hW0 : w.alloc (.cells #[.int .i64 0, .int .i64 0, .string ⟨#[]⟩] 29) = W0 at *
  have hs0 : w.heap.size < W0.heap.size := by rw [← hW0]; simp
  have r0 : W0.cell? ⟨w.heap.size, 0, none⟩ = some (.int .i64 0) ∧ W0.cell? ⟨w.heap.size, 1, none⟩ = some (.int .i64 0) ∧ W0.cell? ⟨w.heap.size, 2, none⟩ = some (.string ⟨#[]⟩) ∧ W0.frozen? ⟨w.heap.size, 0, none⟩ = false ∧ W0.frozen? ⟨w.heap.size, 1, none⟩ = false ∧ W0.frozen? ⟨w.heap.size, 2, none⟩ = false := by
    rw [← hW0]; simp [go_sem]
  have HR0 : Hid _ := r0
  have HB0 : Hid (Below w.heap.size w W0) := bw0
  clear r0 bw0 hW0
  go_loopw [6, 7, 9, 18] (fun kv nb _ i wr => ∃ k : Nat, k ≤ ar.length ∧ i = .int .i64 k ∧ nb = .bool (nullsA (ar.take k)) ∧ OwnK W0.heap.size kv k (kindsA (ar.take k)) wr ∧ Below W0.heap.size W0 wr) (fun _ _ _ i _ => ar.length - (intOf i).toNat)
  case atStart => exact ⟨0, Nat.zero_le _, rfl, rfl, (⟨rfl, .inl ⟨rfl, rfl⟩⟩ : W0.ownsRow W0.heap.size 3 1 (.slice none 0 0) 0 []), Below.refl _ _⟩
  case round =>
    obtain ⟨k, hk, rfl, rfl, hoK, hbel⟩ := hrel
    have ho : wr.ownsRow W0.heap.size 3 1 _ k ((kindsA (ar.take k)).map (Value.int .i64)) := hoK
    clear hoK
    have hbs := hbel.size
    by_cases hlt : k < ar.length
    · have hlti : (k : Int) < ar.length := by omega
      obtain ⟨g, o, rfl, hgg, hgc⟩ := hcells (by omega)
      have bww : Below w.heap.size w wr := HB0.out.trans (hbel.mono (by omega))
      obtain ⟨c0, c1, c2⟩ := hgc k hlt
      have d0 := (bww.cell (p := ⟨g, o + k * 3, none⟩) hgg).trans c0
      have d1 := (bww.cell (p := ⟨g, o + k * 3 + 1, none⟩) hgg).trans c1
      have d2 := (bww.cell (p := ⟨g, o + k * 3 + 2, none⟩) hgg).trans c2
      have hsx := hsz ar[k] (List.getElem_mem hlt)
      have hvx := hv.out ar[k] (List.getElem_mem hlt)
      have HTK : Hid (ar.take (k + 1) = ar.take k ++ [ar[k]]) := take_snoc hlt
      clear c0 c1 c2 hgc hcells hsz
      generalize ar[k] = t at *
      obtain ⟨tk, tn, ts⟩ := t
      simp only at d0 d1 d2 hsx hvx
      have HVX : Hid (vok tk tn ts = true) := hvx
      clear hvx
      have HNB : Hid (nullsA (ar.take (k + 1)) = (nullsA (ar.take k) || tk == 0)) := (by rw [HTK.out, nullsA_snoc] : nullsA (ar.take (k + 1)) = (nullsA (ar.take k) || tk == 0))
      generalize nullsA (ar.take k) = nb at *
      have cs : nb = true ∨ (nb = false ∧ (tk == 0) = true) ∨ (nb = false ∧ (tk == 0) = false) := by cases nb <;> cases (tk == 0) <;> simp
      have hVX := fun W (h : Below w.heap.size w W) => vok_impl tk tn ts W hsx (tabs_below hT h)
      rw [HVX.out] at hVX
      rcases cs with rfl | ⟨rfl, ez⟩ | ⟨rfl, ez⟩
      all_goals
        go_wp2_with (first | (go_at_call 43; refine (hVX _ (bww.alloc bww.size _)).mono ?_; rintro e w1 ⟨rfl, hb1⟩; obtain ⟨hc1, hf1⟩ := bcell hb1; have hz1w : wr.heap.size < w1.heap.size := (by have := hb1.size; simp at this; omega); have bw1 : Below W0.heap.size W0 w1 := (hbel.alloc hbs _).trans (hb1.mono (by simp; omega)); have ho1 := own_below (ho.alloc _) hb1; have e0 : w1.cell? ⟨wr.heap.size, 0, none⟩ = some (.int .i64 tk) := (hc1 wr.heap.size 0 (by simp)).trans (by simp [go_sem])) | (at_builtin; refine wpList_append_own _ rfl (.tmp 26) (.tmp 29) 22 rfl W0.heap.size 3 i0 (.int .i64 0) 1 8 Tryz.underlying22 hi hz0 hz1 hz2 rfl (by decide) _ k ((kindsA (ar.take k)).map (Value.int .i64)) rfl (ho1.alloc _) ⟨w1.heap.size, 0, none⟩ 1 1 [.int .i64 tk] rfl rfl (cell_one_new _ _ _) (by intro u hu; simp at hu; subst hu; rfl) (by unfold maxLen; omega) (by omega) (by have := bw1.size; simp; omega) ?_; intro v' w2 hown' hgrow _; have bw2 : Below W0.heap.size W0 w2 := (bw1.alloc bw1.size _).grown hgrow (by have := bw1.size; simp; omega) (fun j hj => (ho1.lt j hj).1); have e2 : w2.cell? ⟨wr.heap.size, 0, none⟩ = some (.int .i64 tk) := (cell_grown hgrow (by simp; omega) (fun e => by have := (ho.lt wr.heap.size e.symm).2; omega)).trans (((below_alloc w1 _).cell (p := ⟨wr.heap.size, 0, none⟩) hz1w).trans e0); have HOW : Hid (OwnK W0.heap.size v' (k + 1) (kindsA (ar.take (k + 1))) w2) := OwnK.of HTK.out hown'; clear hown' hgrow))
        go_roundw
        case rel => exact ⟨k + 1, by omega, by go_num, by rw [HNB.out]; first | (rw [ez]; rfl) | rfl, HOW.out, bw2⟩
        case measure => simp [intOf]; omega
    · have hkn : k = ar.length := by omega
      subst hkn
      have hlti : ¬ (ar.length : Int) < ar.length := by omega
      rw [List.take_length] at ho
      rw [List.take_length]
      have hnu' := hnu.out
      generalize nullsA ar = nb at *
      have hkl : (kindsA ar).length = ar.length := by simp [kindsA]
      rw [← hkl] at ho
      obtain ⟨ka, kc, rfl, hrio⟩ := own_rio ho
      clear ho
      generalize hks : kindsA ar = ks at *
      have HKL : Hid (ks.length = ar.length) := hkl
      have bww : Below w.heap.size w wr := HB0.out.trans (hbel.mono (by omega))
      obtain ⟨q0, q1, q2, f0, f1, f2⟩ := HR0.out
      have q0 := (hbel.cell (p := ⟨w.heap.size, 0, none⟩) (by show w.heap.size < _; omega)).trans q0
      have q1 := (hbel.cell (p := ⟨w.heap.size, 1, none⟩) (by show w.heap.size < _; omega)).trans q1
      have q2 := (hbel.cell (p := ⟨w.heap.size, 2, none⟩) (by show w.heap.size < _; omega)).trans q2
      have f0 := (hbel.frozen (p := ⟨w.heap.size, 0, none⟩) (by show w.heap.size < _; omega)).trans f0
      have f1 := (hbel.frozen (p := ⟨w.heap.size, 1, none⟩) (by show w.heap.size < _; omega)).trans f1
      have f2 := (hbel.frozen (p := ⟨w.heap.size, 2, none⟩) (by show w.heap.size < _; omega)).trans f2
      have hwr : w.heap.size < wr.heap.size := by omega
      have hn20 : ks.length ≤ 1048576 := by rw [hkl]; omega
      clear hkl hks hbel HR0 HB0
      go_wp2_with (go_at_call 39; fail)
      refine (Mp.table_any _).mono ?_
      rintro e w1 ⟨rfl, hst⟩
      obtain ⟨l, hm, hks, hgood, hb1⟩ := hst
      have hrun := hm.look Tryz.underlying72 Tryz.underlying3 (Tryz.zeroValue70 _) 9
      obtain ⟨v, hv1, hv2⟩ := Mp.lookL_some (l := l) (k := 9) (by rw [hks]; decide)
      obtain ⟨g, hvg, hG⟩ := hgood _ hv2
      replace hG : Mp.GoodG w1 wr.heap.size 9 g := hG
      simp only at hvg
      rw [show Mp.workN 9 = 93 from rfl] at hvg
      subst hvg
      rw [hv1] at hrun
      simp only [Option.getD_some, Option.isSome_some] at hrun
      obtain ⟨hc1, hf1⟩ := bcell hb1
      have hz1 : w.heap.size < w1.heap.size := by have := hb1.size; omega
      have bw1 : Below w.heap.size w w1 := bww.trans (hb1.mono bww.size)
      have hrio1 := hrio.below hb1
      clear hgood hks hm hv1 hv2 hrio
      have hT2 : Mp.Taker w1 wr.heap.size g (Mp.resK 9) (Mp.wantK 9) := hG
      have HG : Hid (Mp.gvK 9 ks = Mp.takeK (Mp.resK 9) (Mp.wantK 9) ks) := rfl
      have hgne : (Mp.takeK (Mp.resK 9) (Mp.wantK 9) ks == -1) = false := hg.out
      have HWL : Hid ((Mp.wantK 9).length ≤ 100) := (by decide : (Mp.wantK 9).length ≤ 100)
      clear hG
      generalize Mp.resK 9 = rs at *
      generalize Mp.wantK 9 = wsl at *
      obtain ⟨bw_, br, sb, rfl, _, ⟨l1, l2, l3⟩, t1, t2, t3⟩ := hT2
      have HTK : Hid ((bw_ < w1.heap.size ∧ br < w1.heap.size ∧ sb < w1.heap.size) ∧ w1.cell? ⟨bw_, 0, none⟩ = some (.slice (some ⟨sb, 0, none⟩) wsl.length wsl.length) ∧ w1.cell? ⟨br, 0, none⟩ = some (.int .i64 rs) ∧ ∀ i (h : i < wsl.length), w1.cell? ⟨sb, i, none⟩ = some (.int .i64 wsl[i])) := ⟨⟨l1, l2, l3⟩, t1, t2, t3⟩
      clear t1 t2 t3 l1 l2 l3
      go_wp2_with (go_at_call 149; fail)
      refine (Mp.taking1_any 0 rs wsl ks _ _ bw_ br sb _ hn20 HWL.out (hrio1.below (below_alloc _ _)) (((below_alloc w1 _).cell (p := ⟨bw_, 0, none⟩) HTK.out.1.1).trans HTK.out.2.1) (((below_alloc w1 _).cell (p := ⟨br, 0, none⟩) HTK.out.1.2.1).trans HTK.out.2.2.1) (fun i hi => ((below_alloc w1 _).cell (p := ⟨sb, i, none⟩) HTK.out.1.2.2).trans (HTK.out.2.2.2 i hi))).mono ?_
      rintro e w2 ⟨rfl, hbe2⟩
      have hb2 : Below (w1.alloc (.cells #[Value.func (Fn.func 149) #[] #[Value.pointer (some ⟨bw_, 0, none⟩), Value.pointer (some ⟨br, 0, none⟩)], Value.func (Fn.func 93) #[] #[]] 70)).heap.size (w1.alloc (.cells #[Value.func (Fn.func 149) #[] #[Value.pointer (some ⟨bw_, 0, none⟩), Value.pointer (some ⟨br, 0, none⟩)], Value.func (Fn.func 93) #[] #[]] 70)) w2 := by rw [hbe2]; exact Below.refl _ _
      clear hbe2
      generalize Mp.takeK rs wsl ks = gr at *
      obtain ⟨hc2, hf2⟩ := bcell hb2
      have hz2 : w1.heap.size < w2.heap.size := by have := hb2.size; simp at this; omega
      have hy2 : w.heap.size < w2.heap.size := by omega
      have bw1a : Below w.heap.size w (w1.alloc (.cells #[Value.func (Fn.func 149) #[] #[Value.pointer (some ⟨bw_, 0, none⟩), Value.pointer (some ⟨br, 0, none⟩)], Value.func (Fn.func 93) #[] #[]] 70)) := bw1.alloc bw1.size _
      have bw2 : Below w.heap.size w w2 := bw1a.trans (hb2.mono bw1a.size)
      have hnn : nb = false ∨ (nb = true ∧ ((9 : Int) != 6) = false) := by cases nb <;> simp_all
      rcases hnn with rfl | ⟨rfl, hn6⟩
      all_goals
        go_wp2_with (go_at_call 93; fail)
        refine (hW.out _ bw2).mono ?_
        rintro e w3 ⟨k, n, s, c, hR, rfl, hb3⟩
        have HRV : Hid (R (tV k n s c)) := hR
        clear hR
        simp only [tV]
        obtain ⟨hc3, hf3⟩ := bcell hb3
        have hz3 : w1.heap.size < w3.heap.size := by have := hb3.size; omega
        have hy3 : w.heap.size < w3.heap.size := by omega
        have bw3 : Below w.heap.size w w3 := bw2.trans (hb3.mono bw2.size)
        have b12 : Below wr.heap.size wr w2 := (hb1.alloc hb1.size _).trans (hb2.mono (by have := hb1.size; simp; omega))
        have b13 : Below wr.heap.size wr w3 := b12.trans (hb3.mono b12.size)
        have p0 := (b13.cell (p := ⟨w.heap.size, 0, none⟩) hwr).trans q0
        have p1 := (b13.cell (p := ⟨w.heap.size, 1, none⟩) hwr).trans q1
        have p2 := (b13.cell (p := ⟨w.heap.size, 2, none⟩) hwr).trans q2
        have j0 := (b13.frozen (p := ⟨w.heap.size, 0, none⟩) hwr).trans f0
        have j1 := (b13.frozen (p := ⟨w.heap.size, 1, none⟩) hwr).trans f1
        have j2 := (b13.frozen (p := ⟨w.heap.size, 2, none⟩) hwr).trans f2
        clear b12 b13 hc1 hf1 hc2 hf2 hc3 hf3
        go_wp2
        refine bodyPost_ret (v := tV k n s c) (by simp [results, Tryz.results20, go_sem, tV, p0, p1, p2, j0, j1, j2, hy3]) rfl ⟨_, HRV.out, rfl, ?_⟩
        exact ((bw3.setCell (Nat.le_refl _) _).setCell (Nat.le_refl _) _).setCell (Nat.le_refl _) _
end Go.Proofs.YtdcdoeolaongkaaGreatDoor.Ca
namespace Go.Proofs.YtdcdoeolaongkaaGreatDoor.Dr
open Go.ChangeShapes Go.WideShapes Go.ChangeAt Go.RowKit
set_option linter.unusedVariables false
set_option linter.unusedSimpArgs false
set_option maxRecDepth 100000
def days12 : List Int := [0, 59, 60, -719162, -719163, 2932896, 2932897, -719103, 11016, 10957, 10956, -25567]
theorem Upd.drew' {c : Nat} {w : World} : Upd c w w.drew := ⟨rfl, rfl, rfl, Nat.le_refl _, fun _ _ _ => rfl⟩
theorem cur_drew {w : World} {c : Nat} {A : Int} (h : IsCur w c A) : IsCur w.drew c A := h.below ((Below.refl _ w).drew) h.lt
set_option maxHeartbeats 8000000 in
theorem drawDays_any (v0 : Option Addr) (len cap : Nat) (w : World) (hl : len ≤ 1048576) (hb : Read w v0 len) :
    Calls Tryz.prog 17 #[.slice v0 len cap] w fun e w' => ∃ n : Int, (-800000 ≤ n ∧ n ≤ 3000000) ∧ e = .returned (.int .i64 n) ∧ Below w.heap.size w w' := by
  have hc0 : IsCur (w.alloc (.cells #[.slice v0 len cap, .int .i64 0, .int .i64 0, .int .i64 0] 77)) w.heap.size 0 := cur_new _ v0 len cap _ rfl hl hb
  have hP : ∀ i, -719163 ≤ days12.getD i 0 ∧ days12.getD i 0 ≤ 2932897 := fun i => getD_all (P := fun x => -719163 ≤ x ∧ x ≤ 2932897) (by decide) (by decide) i
  have bw0 : Below w.heap.size w ((w.alloc (.cells #[.slice v0 len cap, .int .i64 0, .int .i64 0, .int .i64 0] 77)).alloc (.cells (days12.map (Value.int .i64)).toArray 3)) := ((Below.refl _ w).alloc (Nat.le_refl _) _).alloc (by simp) _
  have hcL : ∀ i, i < 12 → ((w.alloc (.cells #[.slice v0 len cap, .int .i64 0, .int .i64 0, .int .i64 0] 77)).alloc (.cells (days12.map (Value.int .i64)).toArray 3)).cell? ⟨w.heap.size + 1, i, none⟩ = some (.int .i64 (days12.getD i 0)) := fun i hi => by
    rw [show w.heap.size + 1 = (w.alloc (.cells #[.slice v0 len cap, .int .i64 0, .int .i64 0, .int .i64 0] 77)).heap.size by simp]
    exact alloc_ints _ days12 i (by show i < 12; omega)
  have hc1 : IsCur ((w.alloc (.cells #[.slice v0 len cap, .int .i64 0, .int .i64 0, .int .i64 0] 77)).alloc (.cells (days12.map (Value.int .i64)).toArray 3)) w.heap.size 0 := cur_alloc hc0 _
  have hz0 : ((w.alloc (.cells #[.slice v0 len cap, .int .i64 0, .int .i64 0, .int .i64 0] 77)).alloc (.cells (days12.map (Value.int .i64)).toArray 3)).heap.size = w.heap.size + 1 + 1 := by simp
  have hne : w.heap.size + 1 ≠ w.heap.size := by omega
  clear hb hc0
  go_enter Tryz.func17, Tryz.ntmps17
  go_wp2
  change Code.wp _ _ _ _ ((w.alloc (.cells #[.slice v0 len cap, .int .i64 0, .int .i64 0, .int .i64 0] 77)).alloc (.cells (days12.map (Value.int .i64)).toArray 3)) 
  generalize (w.alloc (.cells #[.slice v0 len cap, .int .i64 0, .int .i64 0, .int .i64 0] 77)).alloc (.cells (days12.map (Value.int .i64)).toArray 3) = W at *
  have HP : Hid (∀ i, -719163 ≤ days12.getD i 0 ∧ days12.getD i 0 ≤ 2932897) := hP
  have HB : Hid (Below w.heap.size w W) := bw0
  clear hP bw0
  go_region_with (go_at_call 51; first | (refine (pick_any w.heap.size 0 _ _ (by first | exact cur_drew hc1 | exact hc1) (by omega) (by omega) (by omega)).mono ?_; rintro e w1 ⟨r, r0, r1, rfl, hc2, hu⟩; have hu1 : Upd w.heap.size W w1 := (by first | exact Upd.drew'.trans hu | exact hu); have hz1 : w.heap.size + 1 < w1.heap.size := (by have := hu1.size; omega); have hcell := (hu1.cell (p := ⟨w.heap.size + 1, r.toNat, none⟩) (by show w.heap.size + 1 < W.heap.size; omega) hne).trans (hcL r.toNat (by omega)); have HX : Hid (-719163 ≤ days12.getD r.toNat 0 ∧ days12.getD r.toNat 0 ≤ 2932897) := HP.out r.toNat; generalize days12.getD r.toNat 0 = x at hcell HX; clear hu hcL hc1) | (refine (pick_any w.heap.size 2 _ _ (by first | exact cur_drew hc2 | exact hc2) (by omega) (by omega) (by omega)).mono ?_; rintro e w2 ⟨q, q0, q1, rfl, hc3, hu'⟩; have hu2 : Upd w.heap.size w1 w2 := (by first | exact Upd.drew'.trans hu' | exact hu'); have hcell2 := (hu2.cell (p := ⟨w.heap.size + 1, r.toNat, none⟩) (by show w.heap.size + 1 < w1.heap.size; omega) hne).trans hcell; have x1 := HX.out.1; have x2 := HX.out.2; clear hu'))
  all_goals
    go_wp2
    go_ret
    refine ⟨_, ?_, rfl, ?_⟩
    · go_light
      (try simp only [IntKind.wrap_i64, wrap64])
      omega
    first | exact Upd.below HB.out (hu1.trans hu2) (Nat.le_refl _) | exact Upd.below HB.out ((hu1.trans hu2).trans Upd.drew') (Nat.le_refl _)
end Go.Proofs.YtdcdoeolaongkaaGreatDoor.Dr
namespace Go.Proofs.YtdcdoeolaongkaaGreatDoor.Dt
open Go.ChangeShapes Go.WideShapes Go.ChangeAt Go.RowKit Go.Shelf
set_option linter.unusedVariables false
set_option linter.unusedSimpArgs false
set_option maxRecDepth 100000
theorem undrew {W w' : World} (hb : Below W.drew.heap.size W.drew w') : Below W.heap.size W w' := (Below.refl W.heap.size W).drew.trans hb
theorem conv_at (W : World) (b : Nat) (x : Int) (h : W.cell? ⟨b, 0, none⟩ = some (.int .u8 x)) : (convert 27 9 (.slice (some ⟨b, 0, none⟩) 1 1)).run Tryz.prog W = .ok (.string ⟨#[UInt8.ofNat x.toNat]⟩) W := by
  have := run_convert_bytes_arg (P := Tryz.prog) W 27 5 Tryz.underlying27 Tryz.underlying5 b 0 1 1 [x] rfl (by
    intro i hi
    have : i = 0 := by omega
    subst this
    simpa using h) 9 Tryz.underlying9
  simpa [strOfNums] using this
theorem conv_after {W w1 : World} (hb : Below W.heap.size W w1) : ∀ b x, b < W.heap.size → W.cell? ⟨b, 0, none⟩ = some (.int .u8 x) → (convert 27 9 (.slice (some ⟨b, 0, none⟩) 1 1)).run Tryz.prog w1 = .ok (.string ⟨#[UInt8.ofNat x.toNat]⟩) w1 := fun b x h1 h2 => conv_at w1 b x ((hb.cell (p := ⟨b, 0, none⟩) h1).trans h2)
theorem dig_last {m : Nat} (h : m < 10) : (⟨#[UInt8.ofNat (48 + (m : Int)).toNat]⟩ : ByteArray) = ⟨(Lib.decDigits m).toArray⟩ := by
  rw [Lib.decDigits_one h, show (48 + (m : Int)).toNat = 48 + m by omega]
theorem dig_more {m : Nat} (h : ¬ m < 10) : (⟨(Lib.decDigits (m / 10)).toArray⟩ : ByteArray) ++ ⟨#[UInt8.ofNat (48 + m % 10)]⟩ = ⟨(Lib.decDigits m).toArray⟩ := by
  conv => rhs; rw [Lib.decDigits, dif_neg h]
  apply ByteArray.ext; apply Array.ext'; simp
theorem dec_short (m : Nat) (h : m ≤ 10000) : (Lib.decDigits m).length ≤ 21 := digits_len m ⟨by omega, by omega⟩
set_option maxHeartbeats 4000000 in
theorem digits_any : ∀ (m : Nat), m ≤ 10000 → ∀ w : World, Calls Tryz.prog 112 #[.int .i64 m] w fun e w' => e = .returned (.string ⟨(Lib.decDigits m).toArray⟩) ∧ Below w.heap.size w w' := by
  intro m
  induction m using Nat.strongRecOn with
  | _ m ih =>
    intro hm w
    by_cases h : m < 10
    · have hi : (m : Int) < 10 := by omega
      have HE : Hid ((⟨#[UInt8.ofNat (48 + (m : Int)).toNat]⟩ : ByteArray) = ⟨(Lib.decDigits m).toArray⟩) := dig_last h
      have HE2 : Hid ((⟨#[UInt8.ofNat (48 + m)]⟩ : ByteArray) = ⟨(Lib.decDigits m).toArray⟩) := (by rw [Lib.decDigits_one h] : (⟨#[UInt8.ofNat (48 + m)]⟩ : ByteArray) = ⟨(Lib.decDigits m).toArray⟩)
      have hcv := conv_one
      go_enter Tryz.func112, Tryz.ntmps112
      go_wp2
      go_ret
      refine ⟨ret_str ?_, below_alloc _ _⟩
      first | exact HE.out | exact HE2.out
    · have hi : ¬ (m : Int) < 10 := by omega
      have hcon := ih (m / 10) (by omega) (by omega)
      have hl := dec_short (m / 10) (by omega)
      have HE := dig_more h
      have hmi : (m : Int) ≤ 10000 := by omega
      have eq1 : ((m / 10 : Nat) : Int) = (m : Int) / 10 := by omega
      rw [eq1] at hcon
      clear ih eq1
      generalize Lib.decDigits (m / 10) = pre at *
      have HEE : Hid _ := HE
      clear HE
      have hm0 : 0 ≤ (m : Int) % 10 := by omega
      have hm1 : (m : Int) % 10 < 10 := by omega
      have hcv := conv_one
      go_enter Tryz.func112, Tryz.ntmps112
      go_wp2
      have hw0 : IntKind.i64.wrap ((m : Int) / 10) = (m : Int) / 10 := by simp only [IntKind.wrap_i64, wrap64]; omega
      have hw1 : (m : Int).tmod 10 = (m : Int) % 10 := Int.tmod_eq_emod_of_nonneg (by omega)
      have hw2 : IntKind.i64.wrap (48 + (m : Int) % 10) = 48 + (m : Int) % 10 := by simp only [IntKind.wrap_i64, wrap64]; omega
      have hw3 : IntKind.u8.wrap (48 + (m : Int) % 10) = 48 + (m : Int) % 10 := by simp [IntKind.wrap, IntKind.bits, IntKind.signed]; omega
      have hcva : ∀ (W : World) (b : Nat), W.cell? ⟨b, 0, none⟩ = some (.int .u8 (48 + (m : Int) % 10)) → (convert 27 9 (.slice (some ⟨b, 0, none⟩) 1 1)).run Tryz.prog W = .ok (.string ⟨#[UInt8.ofNat (48 + (m : Int) % 10).toNat]⟩) W := fun W b h => conv_at W b _ h
      clear hcv
      go_region_with (go_at_call 112; (try rw [hw0]); refine (hcon _).mono ?_; rintro e w1 ⟨rfl, hb1⟩; obtain ⟨hc1, hf1⟩ := bcell hb1; have bw1 : Below w.heap.size w w1 := (by first | exact undrew hb1 | exact (below_alloc w _).trans ((undrew hb1).mono (by simp))))
      all_goals
        go_wp2
        go_ret
        refine ⟨ret_str (by rw [← HEE.out]; simp), ?_⟩
        first | exact bw1 | exact bw1.alloc bw1.size _ | exact bw1.drew | exact (bw1.alloc bw1.size _).drew | exact bw1.drew.alloc bw1.size _
set_option maxHeartbeats 1000000 in
theorem number_any (m : Nat) (hm : m ≤ 10000) (w : World) : Calls Tryz.prog 55 #[.int .i64 m] w fun e w' => e = .returned (.string ⟨(Lib.itoa m).toArray⟩) ∧ Below w.heap.size w w' := by
  have hcon := fun w => digits_any m hm w
  rw [Lib.itoa_nonneg]
  generalize Lib.decDigits m = l at *
  have h0 : ¬ (m : Int) < 0 := by omega
  go_enter Tryz.func55, Tryz.ntmps55
  go_wp2_with (go_at_call 112; refine (hcon _).mono ?_; rintro e w1 ⟨rfl, hb1⟩)
  go_ret
  exact ⟨rfl, hb1⟩
set_option maxHeartbeats 2000000 in
theorem wideL_any (m d : Nat) (w : World) (hm : m ≤ 10000) (hd : d ≤ 4) : Calls Tryz.prog 21 #[.int .i64 m, .int .i64 d] w fun e w' => e = .returned (.string ⟨(wideL (Lib.itoa m) d).toArray⟩) ∧ Below w.heap.size w w' := by
  have bl := Lib.itoa_length_le m (by omega) (by omega)
  have hcon := fun w => number_any m hm w
  generalize Lib.itoa m = L at *
  go_enter Tryz.func21, Tryz.ntmps21
  go_wp2_with (go_at_call 55; refine (hcon _).mono ?_; rintro e w1 ⟨rfl, hb⟩)
  go_loop [5] (fun o => ∃ l : List UInt8, o = .string ⟨l.toArray⟩ ∧ wideL L d = wideL l d ∧ l.length ≤ 30) (fun o => match o with | .string s => 4 - s.size | _ => 0)
  case atStart => exact ⟨L, rfl, rfl, by omega⟩
  case round =>
    obtain ⟨l, rfl, hw, hl⟩ := hrel
    by_cases hlt : l.length < d
    · have HW : Hid (wideL L d = wideL (48 :: l) d) := hw.trans (wide_step l d hlt)
      clear hw
      have hlt' : (l.length : Int) < d := by omega
      go_wp2
      go_round
      case rel => exact ⟨48 :: l, congrArg Value.string (cons_str _ _), HW.out, by simp; omega⟩
      case measure =>
        go_light
        simp [ByteArray.size]
        omega
    · have HW : Hid (wideL L d = l) := hw.trans (wide_start l d (by omega))
      clear hw
      have hlt' : ¬ (l.length : Int) < d := by omega
      go_wp2
      go_ret
      exact ⟨ret_str (by rw [HW.out]), hb⟩
end Go.Proofs.YtdcdoeolaongkaaGreatDoor.Dt
namespace Go.Proofs.YtdcdoeolaongkaaGreatDoor.Dt
open Go.ChangeShapes Go.WideShapes Go.ChangeAt Go.RowKit Go.Shelf
open Go.Proofs.YtdcdoeolaongkaaGreatDoor.Rd
set_option linter.unusedVariables false
set_option linter.unusedSimpArgs false
set_option maxRecDepth 100000
set_option maxHeartbeats 1000000 in
theorem shifted_one (n : Int) (w : World) (h1 : -719162 ≤ n) (h2 : n < 2932896) : Calls Tryz.prog 122 #[.int .i64 1, .int .i64 n, .int .i64 1] w fun e w' => e = .returned (cV 5 (n + 1) 0) ∧ Below w.heap.size w w' := by
  have d1 : (decide (-719162 ≤ n + 1) && decide (n + 1 ≤ 2932896)) = true := by simp; omega
  have bw0 := below_alloc w (.cells #[.int .i64 0, .int .i64 0, .string ⟨#[]⟩] 29)
  go_enter Tryz.func122, Tryz.ntmps122
  go_wp2_with (go_at_call 52; refine (within_any _ _ _ _).mono ?_; (try rw [d1]); rintro e w0 ⟨rfl, hw⟩; rw [hw]; clear hw w0)
  refine bodyPost_ret (v := cV 5 (n + 1) 0) (by simp [results, Tryz.results122, go_sem, cV]) rfl ⟨rfl, ?_⟩
  go_light
  repeat (first | with_reducible exact Below.refl _ _ | refine Below.setCell ?_ (by simp) _ | refine Below.alloc ?_ (by simp) _)
set_option maxHeartbeats 2000000 in
theorem arith_day (n : Int) (w : World) (h1 : -719162 ≤ n) (h2 : n < 2932896) : Calls Tryz.prog 62 #[.int .i64 1, .agg #[.int .i64 5, .int .i64 n, .string ⟨#[]⟩], .agg #[.int .i64 1, .int .i64 1, .string ⟨#[]⟩]] w fun e w' => e = .returned (cV 5 (n + 1) 0) ∧ Below w.heap.size w w' := by
  have bw0 : Below w.heap.size w (((w.alloc (.cells #[.int .i64 5, .int .i64 n, .string ⟨#[]⟩] 29)).alloc (.cells #[.int .i64 1, .int .i64 1, .string ⟨#[]⟩] 29)).alloc (.cells #[.int .i64 0, .int .i64 0, .string ⟨#[]⟩] 29)) := ((below_alloc w _).alloc (by simp) _).alloc (by simp; omega) _
  go_enter Tryz.func62, Tryz.ntmps62
  go_wp2_with (go_at_call 122; fail)
  refine (shifted_one n _ h1 h2).mono ?_
  simp only [cV]
  rintro e w1 ⟨rfl, hb⟩
  obtain ⟨hc, hf⟩ := bcell hb
  have hz : w.heap.size + 1 + 1 < w1.heap.size := by have := hb.size; simp at this; omega
  have bw1 : Below w.heap.size w w1 := bw0.trans (hb.mono (by simp; omega))
  go_wp2
  refine bodyPost_ret (v := cV 5 (n + 1) 0) (by simp [results, Tryz.results62, go_sem, cV, hc, hf, hz]) rfl ⟨rfl, ?_⟩
  exact ((bw1.setCell (by show _ ≤ w.heap.size + 1 + 1; omega) _).setCell (by show _ ≤ w.heap.size + 1 + 1; omega) _).setCell (by show _ ≤ w.heap.size + 1 + 1; omega) _
set_option maxHeartbeats 4000000 in
theorem binary_day (n : Int) (w : World) (h1 : -719162 ≤ n) (h2 : n < 2932896) (hT : Tabs w) : Calls Tryz.prog 22 #[.int .i64 1, .agg #[.int .i64 5, .int .i64 n, .string ⟨#[]⟩], .agg #[.int .i64 1, .int .i64 1, .string ⟨#[]⟩]] w fun e w' => e = .returned (cV 5 (n + 1) 0) ∧ Below w.heap.size w w' := by
  have bw0 : Below w.heap.size w (((w.alloc (.cells #[.int .i64 5, .int .i64 n, .string ⟨#[]⟩] 29)).alloc (.cells #[.int .i64 1, .int .i64 1, .string ⟨#[]⟩] 29)).alloc (.cells #[.int .i64 0, .int .i64 0, .string ⟨#[]⟩] 29)) := ((below_alloc w _).alloc (by simp) _).alloc (by simp; omega) _
  have v1 : vok 5 n ⟨#[]⟩ = true := by
    unfold vok
    rw [if_neg (by omega), if_neg (by omega), if_neg (by omega), if_neg (by omega), if_neg (by omega), if_pos rfl]
    have e : (⟨#[]⟩ : ByteArray).toList.isEmpty = true := by rw [Lib.toList_data]; rfl
    rw [e]; simp; omega
  have v2 : vok 1 1 ⟨#[]⟩ = true := by
    unfold vok
    rw [if_neg (by omega), if_pos rfl, Lib.toList_data]; rfl
  have HV1 : Hid (vok 5 n ⟨#[]⟩ = true) := v1
  have HV2 : Hid (vok 1 1 ⟨#[]⟩ = true) := v2
  have HO : Hid (Ok.opk 1 5 1 = 5) := (by decide : Ok.opk 1 5 1 = 5)
  clear v1 v2
  go_enter Tryz.func22, Tryz.ntmps22
  go_wp2_with (first | (go_at_call 52; refine (within_any _ _ _ _).mono ?_; rintro e w0 ⟨rfl, hw⟩; rw [hw]; clear hw w0) | (go_at_call 43; fail))
  refine (vok_impl 5 n ⟨#[]⟩ _ (by decide) (tabs_below hT bw0)).mono ?_
  rw [HV1.out]
  rintro e w1 ⟨rfl, hb⟩
  obtain ⟨hc, hf⟩ := bcell hb
  have hz : w.heap.size + 1 + 1 < w1.heap.size := by have := hb.size; simp at this; omega
  have hy : w.heap.size + 1 < w1.heap.size := by omega
  have hx : w.heap.size < w1.heap.size := by omega
  have bw1 : Below w.heap.size w w1 := bw0.trans (hb.mono (by simp; omega))
  go_wp2_with (go_at_call 43; fail)
  refine (vok_impl 1 1 ⟨#[]⟩ _ (by decide) (tabs_below hT bw1)).mono ?_
  rw [HV2.out]
  rintro e w2 ⟨rfl, hb2⟩
  obtain ⟨hc2, hf2⟩ := bcell hb2
  have hz2 : w.heap.size + 1 + 1 < w2.heap.size := by have := hb2.size; omega
  have hy2 : w.heap.size + 1 < w2.heap.size := by omega
  have hx2 : w.heap.size < w2.heap.size := by omega
  have bw2 : Below w.heap.size w w2 := bw1.trans (hb2.mono bw1.size)
  go_wp2_with (go_at_call 56; fail)
  refine (Ok.opKind_impl _ _ _ _).mono ?_
  rw [HO.out]
  rintro e w3 ⟨rfl, hb3⟩
  obtain ⟨hc3, hf3⟩ := bcell hb3
  have hz3 : w.heap.size + 1 + 1 < w3.heap.size := by have := hb3.size; omega
  have hy3 : w.heap.size + 1 < w3.heap.size := by omega
  have hx3 : w.heap.size < w3.heap.size := by omega
  have bw3 : Below w.heap.size w w3 := bw2.trans (hb3.mono bw2.size)
  go_wp2_with (go_at_call 62; fail)
  refine (arith_day n _ h1 h2).mono ?_
  simp only [cV]
  rintro e w4 ⟨rfl, hb4⟩
  obtain ⟨hc4, hf4⟩ := bcell hb4
  have hz4 : w.heap.size + 1 + 1 < w4.heap.size := by have := hb4.size; omega
  have bw4 : Below w.heap.size w w4 := bw3.trans (hb4.mono bw3.size)
  go_wp2
  refine bodyPost_ret (v := cV 5 (n + 1) 0) (by simp [results, Tryz.results22, go_sem, cV, hc, hf, hz, hy, hx, hc2, hf2, hz2, hc3, hf3, hz3, hc4, hf4, hz4]) rfl ⟨rfl, ?_⟩
  exact ((bw4.setCell (by show _ ≤ w.heap.size + 1 + 1; omega) _).setCell (by show _ ≤ w.heap.size + 1 + 1; omega) _).setCell (by show _ ≤ w.heap.size + 1 + 1; omega) _
theorem num_le {y m d : Int} (v : Days.vld y m d) : Days.num y m d ≤ 2932896 := by
  obtain ⟨_, _, h3, _⟩ := Days.num_in y m d v
  obtain ⟨⟨y1, y9⟩, _⟩ := v
  have h4 := Days.dbef_mono (y + 1) 10000 (by omega) (by omega)
  have h5 := Days.dbef_top
  omega
theorem num_year (y : Int) (h : 1 ≤ y) (h31 : Days.mdays y 12 = 31) : Days.num (y + 1) 1 1 = Days.num y 12 31 + 1 := by
  have e1 := Days.dbef_succ y h
  have e2 := Days.cum_step y 12 (by omega)
  have e3 : (12 - 1 : Int).toNat = 11 := by decide
  have e4 : (1 - 1 : Int).toNat = 0 := by decide
  have e5 : Days.cumTo (y + 1) 0 = 0 := rfl
  have e6 : ((12 : Nat) : Int) = 12 := rfl
  rw [e6, h31] at e2
  unfold Days.num
  rw [e3, e4, e5]
  have e7 : (12 - 1 : Nat) = 11 := rfl
  rw [e7] at e2
  omega
/-- The next day. -/
theorem next_day {y m d y2 m2 d2 : Int} (v : Days.vld y m d) (v2 : Days.vld y2 m2 d2) (h : Days.num y2 m2 d2 = Days.num y m d + 1) :
    (d < Days.mdays y m ∧ y2 = y ∧ m2 = m ∧ d2 = d + 1) ∨ (d = Days.mdays y m ∧ m < 12 ∧ y2 = y ∧ m2 = m + 1 ∧ d2 = 1) ∨ (d = 31 ∧ m = 12 ∧ y2 = y + 1 ∧ m2 = 1 ∧ d2 = 1) := by
  have V := v
  obtain ⟨⟨y1, y9⟩, ⟨m1, m9⟩, d1, d9⟩ := v
  by_cases c1 : d < Days.mdays y m
  · left
    have hv : Days.vld y m (d + 1) := ⟨⟨y1, y9⟩, ⟨m1, m9⟩, by omega, by omega⟩
    have hn : Days.num y m (d + 1) = Days.num y m d + 1 := by unfold Days.num; omega
    obtain ⟨a, b, c⟩ := Days.num_inj _ _ _ _ _ _ v2 hv (h.trans hn.symm)
    exact ⟨c1, a, b, c⟩
  have hd : d = Days.mdays y m := by omega
  by_cases c2 : m < 12
  · right; left
    have hmb := Days.mdays_bd y (m + 1)
    have hv : Days.vld y (m + 1) 1 := ⟨⟨y1, y9⟩, ⟨by omega, by omega⟩, by omega, by omega⟩
    have hn : Days.num y (m + 1) 1 = Days.num y m d + 1 := by
      unfold Days.num
      have e : Days.cumTo y (m + 1 - 1).toNat = Days.cumTo y (m - 1).toNat + Days.mdays y m := by
        have := Days.cum_step y (m + 1 - 1).toNat (by omega)
        rw [show (m + 1 - 1).toNat - 1 = (m - 1).toNat by omega, show (((m + 1 - 1).toNat : Nat) : Int) = m by omega] at this
        exact this
      omega
    obtain ⟨a, b, c⟩ := Days.num_inj _ _ _ _ _ _ v2 hv (h.trans hn.symm)
    exact ⟨hd, c2, a, b, c⟩
  · right; right
    have hm : m = 12 := by omega
    subst hm
    have h31 : Days.mdays y 12 = 31 := by unfold Days.mdays; rw [if_neg (by omega), if_neg (by omega)]
    have hy : y < 9999 := by
      rcases Int.lt_or_le y 9999 with c | c
      · exact c
      · exfalso
        have : y = 9999 := by omega
        subst this
        rw [h31] at hd
        subst hd
        have h9 := num_le v2
        have e9 : Days.num 9999 12 31 = 2932896 := by decide
        omega
    have hv : Days.vld (y + 1) 1 1 := ⟨⟨by omega, by omega⟩, ⟨by omega, by omega⟩, by omega, by have := Days.mdays_bd (y + 1) 1; omega⟩
    have hn : Days.num (y + 1) 1 1 = Days.num y 12 d + 1 := by
      rw [hd, h31]
      exact num_year y y1 h31
    obtain ⟨a, b, c⟩ := Days.num_inj _ _ _ _ _ _ v2 hv (h.trans hn.symm)
    exact ⟨hd.trans h31, rfl, a, b, c⟩
end Go.Proofs.YtdcdoeolaongkaaGreatDoor.Dt
namespace Go.Proofs.YtdcdoeolaongkaaGreatDoor.Dt
open Go.ChangeShapes Go.WideShapes Go.ChangeAt Go.RowKit Go.Shelf
open Go.Proofs.YtdcdoeolaongkaaGreatDoor.Rd
set_option linter.unusedVariables false
set_option linter.unusedSimpArgs false
set_option maxRecDepth 100000
theorem parts_at {y m d n : Int} (v : Days.vld y m d) (hn : Days.num y m d = n) (h1 : -719162 ≤ n) (h2 : n ≤ 2932896) (w : World) : Calls Tryz.prog 18 #[.int .i64 n] w fun e w' => e = .returned (.tuple #[.int .i64 y, .int .i64 m, .int .i64 d, .int .i64 0]) ∧ w' = w :=
  (Days.parts_impl n w h1 h2).mono (by
    rintro e w' ⟨y', m', d', rfl, v', hn', rfl⟩
    obtain ⟨rfl, rfl, rfl⟩ := Days.num_inj _ _ _ _ _ _ v' v (hn'.trans hn.symm)
    exact ⟨rfl, rfl⟩)
theorem vok_day {n : Int} (h1 : -719162 ≤ n) (h2 : n ≤ 2932896) : vok 5 n ⟨#[]⟩ = true := by
  unfold vok
  rw [if_neg (by omega), if_neg (by omega), if_neg (by omega), if_neg (by omega), if_neg (by omega), if_pos rfl]
  have e : (⟨#[]⟩ : ByteArray).toList.isEmpty = true := by rw [Lib.toList_data]; rfl
  rw [e]; simp; omega
set_option maxHeartbeats 1000000 in
theorem year_at {y m d n : Int} (v : Days.vld y m d) (hn : Days.num y m d = n) (h1 : -719162 ≤ n) (h2 : n ≤ 2932896) (g : Nat) (w : World) (hg : g < w.heap.size) (hc : w.cell? ⟨g, 1, none⟩ = some (.int .i64 n)) : Calls Tryz.prog 91 #[.slice (some ⟨g, 0, none⟩) 1 1] w fun e w' => e = .returned (cV 1 y 0) ∧ Below w.heap.size w w' := by
  have hcon := fun w => parts_at v hn h1 h2 w
  have bw0 := below_alloc w (.cells #[.int .i64 0, .int .i64 0, .string ⟨#[]⟩] 29)
  have hc' := (bw0.cell (p := ⟨g, 1, none⟩) hg).trans hc
  clear v hn
  go_enter Tryz.func91, Tryz.ntmps91
  go_wp2_with (first | (go_at_call 18; refine (hcon _).mono ?_; rintro e w0 ⟨rfl, hw⟩; rw [hw]; clear hw w0) | (go_at_call 49; fail))
  refine (numbered_ok 1 y _).mono ?_
  rintro e w1 ⟨rfl, hb⟩
  obtain ⟨hc1, hf1⟩ := bcell hb
  have hz : w.heap.size < w1.heap.size := by have := hb.size; simp at this; omega
  have bw1 : Below w.heap.size w w1 := bw0.trans (hb.mono (by simp))
  go_wp2
  refine bodyPost_ret (v := cV 1 y 0) (by simp [results, Tryz.results91, go_sem, cV, hc1, hf1, hz]) rfl ⟨rfl, ?_⟩
  exact ((bw1.setCell (Nat.le_refl _) _).setCell (Nat.le_refl _) _).setCell (Nat.le_refl _) _
theorem call_year {y m d n : Int} (v : Days.vld y m d) (hn : Days.num y m d = n) (h1 : -719162 ≤ n) (h2 : n ≤ 2932896) (g : Nat) (w : World) (hg : g < w.heap.size) (hT : Tabs w) (c0 : w.cell? ⟨g, 0, none⟩ = some (.int .i64 5)) (c1 : w.cell? ⟨g, 1, none⟩ = some (.int .i64 n)) (c2 : w.cell? ⟨g, 2, none⟩ = some (.string ⟨#[]⟩)) :
    Calls Tryz.prog 20 #[.int .i64 7, .slice (some ⟨g, 0, none⟩) 1 1] w fun e w' => e = .returned (cV 1 y 0) ∧ Below w.heap.size w w' := by
  have h := Ca.callI_7 [((5 : Int), n, (⟨#[]⟩ : ByteArray))] (some ⟨g, 0, none⟩) 1 w (by simp) ⟨_, _, rfl, fun _ => ⟨g, 0, rfl, hg, fun i hi => by
    have : i = 0 := by simp at hi; omega
    subst this
    exact ⟨by simpa using c0, by simpa using c1, by simpa using c2⟩⟩⟩ (by intro t ht; rw [List.mem_singleton] at ht; subst ht; exact Nat.zero_le _) hT (by intro t ht; rw [List.mem_singleton] at ht; subst ht; exact vok_day h1 h2) (by show (Mp.gvK 7 [5] == -1) = false; decide) (by show (Ca.nullsA [((5 : Int), n, (⟨#[]⟩ : ByteArray))] && (7 : Int) != 6) = false; simp [Ca.nullsA]) (fun V => V = cV 1 y 0)
    (fun W hW => (year_at v hn h1 h2 g W (Nat.lt_of_lt_of_le hg hW.size) ((hW.cell (p := ⟨g, 1, none⟩) hg).trans c1)).mono (by
      rintro e w' ⟨rfl, hb⟩
      exact ⟨1, y, ⟨#[]⟩, 0, rfl, rfl, hb⟩))
  refine h.mono ?_
  rintro e w' ⟨V, rfl, rfl, hb⟩
  exact ⟨rfl, hb⟩
set_option maxHeartbeats 1000000 in
theorem month_at {y m d n : Int} (v : Days.vld y m d) (hn : Days.num y m d = n) (h1 : -719162 ≤ n) (h2 : n ≤ 2932896) (g : Nat) (w : World) (hg : g < w.heap.size) (hc : w.cell? ⟨g, 1, none⟩ = some (.int .i64 n)) : Calls Tryz.prog 92 #[.slice (some ⟨g, 0, none⟩) 1 1] w fun e w' => e = .returned (cV 1 m 0) ∧ Below w.heap.size w w' := by
  have hcon := fun w => parts_at v hn h1 h2 w
  have bw0 := below_alloc w (.cells #[.int .i64 0, .int .i64 0, .string ⟨#[]⟩] 29)
  have hc' := (bw0.cell (p := ⟨g, 1, none⟩) hg).trans hc
  clear v hn
  go_enter Tryz.func92, Tryz.ntmps92
  go_wp2_with (first | (go_at_call 18; refine (hcon _).mono ?_; rintro e w0 ⟨rfl, hw⟩; rw [hw]; clear hw w0) | (go_at_call 49; fail))
  refine (numbered_ok 1 m _).mono ?_
  rintro e w1 ⟨rfl, hb⟩
  obtain ⟨hc1, hf1⟩ := bcell hb
  have hz : w.heap.size < w1.heap.size := by have := hb.size; simp at this; omega
  have bw1 : Below w.heap.size w w1 := bw0.trans (hb.mono (by simp))
  go_wp2
  refine bodyPost_ret (v := cV 1 m 0) (by simp [results, Tryz.results92, go_sem, cV, hc1, hf1, hz]) rfl ⟨rfl, ?_⟩
  exact ((bw1.setCell (Nat.le_refl _) _).setCell (Nat.le_refl _) _).setCell (Nat.le_refl _) _
theorem call_month {y m d n : Int} (v : Days.vld y m d) (hn : Days.num y m d = n) (h1 : -719162 ≤ n) (h2 : n ≤ 2932896) (g : Nat) (w : World) (hg : g < w.heap.size) (hT : Tabs w) (c0 : w.cell? ⟨g, 0, none⟩ = some (.int .i64 5)) (c1 : w.cell? ⟨g, 1, none⟩ = some (.int .i64 n)) (c2 : w.cell? ⟨g, 2, none⟩ = some (.string ⟨#[]⟩)) :
    Calls Tryz.prog 20 #[.int .i64 8, .slice (some ⟨g, 0, none⟩) 1 1] w fun e w' => e = .returned (cV 1 m 0) ∧ Below w.heap.size w w' := by
  have h := Ca.callI_8 [((5 : Int), n, (⟨#[]⟩ : ByteArray))] (some ⟨g, 0, none⟩) 1 w (by simp) ⟨_, _, rfl, fun _ => ⟨g, 0, rfl, hg, fun i hi => by
    have : i = 0 := by simp at hi; omega
    subst this
    exact ⟨by simpa using c0, by simpa using c1, by simpa using c2⟩⟩⟩ (by intro t ht; rw [List.mem_singleton] at ht; subst ht; exact Nat.zero_le _) hT (by intro t ht; rw [List.mem_singleton] at ht; subst ht; exact vok_day h1 h2) (by show (Mp.gvK 8 [5] == -1) = false; decide) (by show (Ca.nullsA [((5 : Int), n, (⟨#[]⟩ : ByteArray))] && (8 : Int) != 6) = false; simp [Ca.nullsA]) (fun V => V = cV 1 m 0)
    (fun W hW => (month_at v hn h1 h2 g W (Nat.lt_of_lt_of_le hg hW.size) ((hW.cell (p := ⟨g, 1, none⟩) hg).trans c1)).mono (by
      rintro e w' ⟨rfl, hb⟩
      exact ⟨1, m, ⟨#[]⟩, 0, rfl, rfl, hb⟩))
  refine h.mono ?_
  rintro e w' ⟨V, rfl, rfl, hb⟩
  exact ⟨rfl, hb⟩
set_option maxHeartbeats 1000000 in
theorem day_at {y m d n : Int} (v : Days.vld y m d) (hn : Days.num y m d = n) (h1 : -719162 ≤ n) (h2 : n ≤ 2932896) (g : Nat) (w : World) (hg : g < w.heap.size) (hc : w.cell? ⟨g, 1, none⟩ = some (.int .i64 n)) : Calls Tryz.prog 93 #[.slice (some ⟨g, 0, none⟩) 1 1] w fun e w' => e = .returned (cV 1 d 0) ∧ Below w.heap.size w w' := by
  have hcon := fun w => parts_at v hn h1 h2 w
  have bw0 := below_alloc w (.cells #[.int .i64 0, .int .i64 0, .string ⟨#[]⟩] 29)
  have hc' := (bw0.cell (p := ⟨g, 1, none⟩) hg).trans hc
  clear v hn
  go_enter Tryz.func93, Tryz.ntmps93
  go_wp2_with (first | (go_at_call 18; refine (hcon _).mono ?_; rintro e w0 ⟨rfl, hw⟩; rw [hw]; clear hw w0) | (go_at_call 49; fail))
  refine (numbered_ok 1 d _).mono ?_
  rintro e w1 ⟨rfl, hb⟩
  obtain ⟨hc1, hf1⟩ := bcell hb
  have hz : w.heap.size < w1.heap.size := by have := hb.size; simp at this; omega
  have bw1 : Below w.heap.size w w1 := bw0.trans (hb.mono (by simp))
  go_wp2
  refine bodyPost_ret (v := cV 1 d 0) (by simp [results, Tryz.results93, go_sem, cV, hc1, hf1, hz]) rfl ⟨rfl, ?_⟩
  exact ((bw1.setCell (Nat.le_refl _) _).setCell (Nat.le_refl _) _).setCell (Nat.le_refl _) _
theorem call_day {y m d n : Int} (v : Days.vld y m d) (hn : Days.num y m d = n) (h1 : -719162 ≤ n) (h2 : n ≤ 2932896) (g : Nat) (w : World) (hg : g < w.heap.size) (hT : Tabs w) (c0 : w.cell? ⟨g, 0, none⟩ = some (.int .i64 5)) (c1 : w.cell? ⟨g, 1, none⟩ = some (.int .i64 n)) (c2 : w.cell? ⟨g, 2, none⟩ = some (.string ⟨#[]⟩)) :
    Calls Tryz.prog 20 #[.int .i64 9, .slice (some ⟨g, 0, none⟩) 1 1] w fun e w' => e = .returned (cV 1 d 0) ∧ Below w.heap.size w w' := by
  have h := Ca.callI_9 [((5 : Int), n, (⟨#[]⟩ : ByteArray))] (some ⟨g, 0, none⟩) 1 w (by simp) ⟨_, _, rfl, fun _ => ⟨g, 0, rfl, hg, fun i hi => by
    have : i = 0 := by simp at hi; omega
    subst this
    exact ⟨by simpa using c0, by simpa using c1, by simpa using c2⟩⟩⟩ (by intro t ht; rw [List.mem_singleton] at ht; subst ht; exact Nat.zero_le _) hT (by intro t ht; rw [List.mem_singleton] at ht; subst ht; exact vok_day h1 h2) (by show (Mp.gvK 9 [5] == -1) = false; decide) (by show (Ca.nullsA [((5 : Int), n, (⟨#[]⟩ : ByteArray))] && (9 : Int) != 6) = false; simp [Ca.nullsA]) (fun V => V = cV 1 d 0)
    (fun W hW => (day_at v hn h1 h2 g W (Nat.lt_of_lt_of_le hg hW.size) ((hW.cell (p := ⟨g, 1, none⟩) hg).trans c1)).mono (by
      rintro e w' ⟨rfl, hb⟩
      exact ⟨1, d, ⟨#[]⟩, 0, rfl, rfl, hb⟩))
  refine h.mono ?_
  rintro e w' ⟨V, rfl, rfl, hb⟩
  exact ⟨rfl, hb⟩
end Go.Proofs.YtdcdoeolaongkaaGreatDoor.Dt
namespace Go.Proofs.YtdcdoeolaongkaaGreatDoor.Dt
open Go.ChangeShapes Go.WideShapes Go.ChangeAt Go.RowKit Go.Shelf
open Go.Proofs.YtdcdoeolaongkaaGreatDoor.Rd
set_option linter.unusedVariables false
set_option linter.unusedSimpArgs false
set_option maxRecDepth 100000
theorem plain_day {y m d n : Int} (v : Days.vld y m d) (hn : Days.num y m d = n) (h1 : -719162 ≤ n) (h2 : n ≤ 2932896) (w : World) (hT : Tabs w) (hP : Pows w) :
    Calls Tryz.prog 16 #[.agg #[.int .i64 5, .int .i64 n, .string ⟨#[]⟩]] w fun e w' => e = .returned (.string ⟨(dayT y m d).toArray⟩) ∧ Below w.heap.size w w' :=
  (plain_impl 5 n ⟨#[]⟩ w (in_wf (by omega) (by omega)) (by decide) hT hP).mono (by
    rintro e w' ⟨b, hb, rfl, hw⟩
    have h5 : isPlain 5 n ⟨#[]⟩ ⟨(dayT y m d).toArray⟩ := isPlain_day (vok_day h1 h2) v hn
    rw [isPlain_one hb h5]
    exact ⟨rfl, hw⟩)
theorem wide_at {y : Int} (k : Nat) (h0 : 0 ≤ y) (h1 : y ≤ 9999) (hk : k ≤ 4) (w : World) : Calls Tryz.prog 21 #[.int .i64 y, .int .i64 k] w fun e w' => e = .returned (.string ⟨(wideL (Lib.itoa y) k).toArray⟩) ∧ Below w.heap.size w w' := by
  obtain ⟨Y, rfl⟩ : ∃ Y : Nat, y = Y := ⟨y.toNat, by omega⟩
  exact wideL_any Y k w (by omega) hk
set_option maxHeartbeats 16000000 in
theorem dates_law (la : Option Addr) (ln lc : Nat) (w : World) (hn : ln ≤ maxLen) (hr : Dr.Read w la ln) (hT : Tabs w) (hP : Pows w) :
    Calls Tryz.prog 5 #[.slice la ln lc] w fun e w' => e = .returned (.bool true) ∧ Below w.heap.size w w' := by
  unfold maxLen at hn
  by_cases hbig : 1048576 < ln
  · have hbi : (1048576 : Int) < ln := by omega
    go_enter Tryz.func5, Tryz.ntmps5
    go_wp2
    go_ret
    exact ⟨rfl, Below.refl _ _⟩
  have hbi : ¬ (1048576 : Int) < ln := by omega
  go_enter Tryz.func5, Tryz.ntmps5
  go_wp2_with (go_at_call 17; fail)
  refine (Dr.drawDays_any la ln lc _ (by omega) hr).mono ?_
  rintro e w1 ⟨n, ⟨n1, n2⟩, rfl, bw1⟩
  clear hr hbig
  by_cases hout : n < -719162 ∨ 2932896 < n
  · have hp := fun w => Days.parts_impl_no n w hout
    rcases hout with h | h
    · go_wp2_with (go_at_call 18; refine (hp _).mono ?_; rintro e w0 ⟨rfl, hw⟩; rw [hw]; clear hw w0)
      go_ret
      exact ⟨rfl, bw1⟩
    · have h' : ¬ n < -719162 := by omega
      go_wp2_with (go_at_call 18; refine (hp _).mono ?_; rintro e w0 ⟨rfl, hw⟩; rw [hw]; clear hw w0)
      go_ret
      exact ⟨rfl, bw1⟩
  have h1 : -719162 ≤ n := by omega
  have h2 : n ≤ 2932896 := by omega
  have i1 : ¬ n < -719162 := by omega
  have i2 : ¬ 2932896 < n := by omega
  clear hout
  go_wp2_with (go_at_call 18; fail)
  refine (Days.parts_impl n _ h1 h2).mono ?_
  rintro e w0 ⟨y, m, d, rfl, v, hnum, hw⟩
  rw [hw]
  clear hw w0
  have hdo := fun w => Days.dateOf_impl_yes y m d w v
  rw [hnum] at hdo
  have V : Hid (Days.vld y m d) := v
  have HN : Hid (Days.num y m d = n) := hnum
  have hd31 := Days.mdays_bd y m
  obtain ⟨⟨y1, y2⟩, ⟨m1, m2⟩, d1, d2⟩ := v
  clear hnum
  have dd : d ≤ 31 := by omega
  have HCY := fun g w hg t a b c => call_year V.out HN.out h1 h2 g w hg t a b c
  have HCM := fun g w hg t a b c => call_month V.out HN.out h1 h2 g w hg t a b c
  have HCD := fun g w hg t a b c => call_day V.out HN.out h1 h2 g w hg t a b c
  have HPL := fun w t p => plain_day V.out HN.out h1 h2 w t p
  have HWY := fun w => wide_at (y := y) 4 (by omega) (by omega) (by omega) w
  have HWM := fun w => wide_at (y := m) 2 (by omega) (by omega) (by omega) w
  have HWD := fun w => wide_at (y := d) 2 (by omega) (by omega) (by omega) w
  have ly := wide_len (Lib.itoa y) 4 (Lib.itoa_length_le y (by omega) (by omega)) (by omega)
  have lm := wide_len (Lib.itoa m) 2 (Lib.itoa_length_le m (by omega) (by omega)) (by omega)
  have ld := wide_len (Lib.itoa d) 2 (Lib.itoa_length_le d (by omega) (by omega)) (by omega)
  have HDT : Hid (((((⟨(wideL (Lib.itoa y) 4).toArray⟩ : ByteArray) ++ ⟨#[45]⟩) ++ ⟨(wideL (Lib.itoa m) 2).toArray⟩) ++ ⟨#[45]⟩) ++ ⟨(wideL (Lib.itoa d) 2).toArray⟩ = ⟨(dayT y m d).toArray⟩) := day_str _ _ _
  generalize dayT y m d = DT at *
  generalize wideL (Lib.itoa y) 4 = LY at *
  generalize wideL (Lib.itoa m) 2 = LM at *
  generalize wideL (Lib.itoa d) 2 = LD at *
  clear hd31 d2
  have bwv : Below w.heap.size w ((w1.alloc (.cells #[.int .i64 5, .int .i64 n, .string ⟨#[]⟩] 29)).alloc (.cells #[.int .i64 5, .int .i64 n, .string ⟨#[]⟩] 29)) := (bw1.alloc bw1.size _).alloc (by have := bw1.size; simp; omega) _
  go_wp2_with (first | (go_at_call 19; refine (hdo _).mono ?_; rintro e w0 ⟨rfl, hw⟩; rw [hw]; clear hw w0) | (go_at_call 20; fail))
  refine (HCY _ _ (by simp) (tabs_below hT bwv) (by simp [go_sem]) (by simp [go_sem]) (by simp [go_sem])).mono ?_
  simp only [cV]
  rintro e w2 ⟨rfl, hb2⟩
  obtain ⟨hc2, hf2⟩ := bcell hb2
  have z2 : w1.heap.size < w2.heap.size := by have := hb2.size; simp at this; omega
  have bw2 : Below w.heap.size w w2 := bwv.trans (hb2.mono bwv.size)
  have bw2a : Below w.heap.size w ((w2.alloc (.cells #[.int .i64 1, .int .i64 y, .string ⟨#[]⟩] 29)).alloc (.cells #[.int .i64 5, .int .i64 n, .string ⟨#[]⟩] 29)) := (bw2.alloc bw2.size _).alloc (by have := bw2.size; simp; omega) _
  go_wp2_with (go_at_call 20; fail)
  refine (HCM _ _ (by simp) (tabs_below hT bw2a) (by simp [go_sem]) (by simp [go_sem]) (by simp [go_sem])).mono ?_
  simp only [cV]
  rintro e w3 ⟨rfl, hb3⟩
  obtain ⟨hc3, hf3⟩ := bcell hb3
  have z3 : w2.heap.size < w3.heap.size := by have := hb3.size; simp at this; omega
  have z31 : w1.heap.size < w3.heap.size := by omega
  have bw3 : Below w.heap.size w w3 := bw2a.trans (hb3.mono bw2a.size)
  have bw3a : Below w.heap.size w ((w3.alloc (.cells #[.int .i64 1, .int .i64 m, .string ⟨#[]⟩] 29)).alloc (.cells #[.int .i64 5, .int .i64 n, .string ⟨#[]⟩] 29)) := (bw3.alloc bw3.size _).alloc (by have := bw3.size; simp; omega) _
  have z2s : w1.heap.size < w2.heap.size + 1 + 1 := by omega
  have z2t : w2.heap.size < w2.heap.size + 1 + 1 := by omega
  have z1s : w1.heap.size < w1.heap.size + 1 + 1 := by omega
  go_wp2_with (go_at_call 20; fail)
  refine (HCD _ _ (by simp) (tabs_below hT bw3a) (by simp [go_sem]) (by simp [go_sem]) (by simp [go_sem])).mono ?_
  simp only [cV]
  rintro e w4 ⟨rfl, hb4⟩
  obtain ⟨hc4, hf4⟩ := bcell hb4
  have z4 : w3.heap.size < w4.heap.size := by have := hb4.size; simp at this; omega
  have z42 : w2.heap.size < w4.heap.size := by omega
  have z41 : w1.heap.size < w4.heap.size := by omega
  have z3s : w1.heap.size < w3.heap.size + 1 + 1 := by omega
  have z3t : w2.heap.size < w3.heap.size + 1 + 1 := by omega
  have z3u : w3.heap.size < w3.heap.size + 1 + 1 := by omega
  have bw4 : Below w.heap.size w w4 := bw3a.trans (hb4.mono bw3a.size)
  have bw4a : Below w.heap.size w (w4.alloc (.cells #[.int .i64 1, .int .i64 d, .string ⟨#[]⟩] 29)) := bw4.alloc bw4.size _
  go_wp2_with (go_at_call 16; fail)
  refine (HPL _ (tabs_below hT bw4a) (pows_below hP bw4a)).mono ?_
  rintro e w5 ⟨rfl, hb5⟩
  have bw5 : Below w.heap.size w w5 := bw4a.trans (hb5.mono bw4a.size)
  obtain ⟨hc5, hf5⟩ := bcell hb5
  have z5 : w1.heap.size < w5.heap.size := by have := hb5.size; simp at this; omega
  go_wp2_with (go_at_call 21; fail)
  refine (HWY _).mono ?_
  rintro e w6 ⟨rfl, hb6⟩
  have bw6 : Below w.heap.size w w6 := bw5.trans (hb6.mono bw5.size)
  obtain ⟨hc6, hf6⟩ := bcell hb6
  have z6 : w1.heap.size < w6.heap.size := by have := hb6.size; omega
  go_wp2_with (go_at_call 21; fail)
  refine (HWM _).mono ?_
  rintro e w7 ⟨rfl, hb7⟩
  have bw7 : Below w.heap.size w w7 := bw6.trans (hb7.mono bw6.size)
  obtain ⟨hc7, hf7⟩ := bcell hb7
  have z7 : w1.heap.size < w7.heap.size := by have := hb7.size; omega
  go_wp2_with (go_at_call 21; fail)
  refine (HWD _).mono ?_
  rintro e w8 ⟨rfl, hb8⟩
  have bw8 : Below w.heap.size w w8 := bw7.trans (hb8.mono bw7.size)
  obtain ⟨hc8, hf8⟩ := bcell hb8
  have z8 : w1.heap.size < w8.heap.size := by have := hb8.size; omega
  have hdt := HDT.out
  by_cases hmax : n = 2932896
  · have HM3 : y = 9999 ∧ m = 12 ∧ d = 31 := by
      have e9 : Days.num 9999 12 31 = 2932896 := by decide
      have v9 : Days.vld 9999 12 31 := ⟨⟨by omega, by omega⟩, ⟨by omega, by omega⟩, by omega, by decide⟩
      exact Days.num_inj _ _ _ _ _ _ V.out v9 (HN.out.trans (hmax.trans e9.symm))
    have g1 : (y == 9999) = true := by rw [beq_iff_eq]; exact HM3.1
    have g2 : (m == 12) = true := by rw [beq_iff_eq]; exact HM3.2.1
    have g3 : (d == 31) = true := by rw [beq_iff_eq]; exact HM3.2.2
    have g4 : (n == 2932896) = true := by rw [beq_iff_eq]; exact hmax
    clear hmax HM3
    go_wp2
    go_ret
    exact ⟨rfl, bw8⟩
  · have g4 : (n == 2932896) = false := by rw [beq_eq_false_iff_ne]; exact hmax
    have hlt : n < 2932896 := by omega
    clear hmax
    have HBD := fun w t => binary_day n w h1 hlt t
    go_wp2_with (go_at_call 22; fail)
    refine (HBD _ (tabs_below hT bw8)).mono ?_
    simp only [cV]
    rintro e w9 ⟨rfl, hb9⟩
    have bw9 : Below w.heap.size w w9 := bw8.trans (hb9.mono bw8.size)
    have bw9a : Below w.heap.size w (w9.alloc (.cells #[.int .i64 5, .int .i64 (n + 1), .string ⟨#[]⟩] 29)) := bw9.alloc bw9.size _
    go_wp2_with (go_at_call 18; fail)
    refine (Days.parts_impl (n + 1) _ (by omega) (by omega)).mono ?_
    rintro e w0 ⟨Y, M, D, rfl, vv, hn2, hw⟩
    rw [hw]
    clear hw w0
    have ND := next_day V.out vv (by rw [hn2, HN.out])
    have hmd := Days.mdays_bd y m
    clear vv hn2 hdt HDT
    rcases ND with ⟨c1, rfl, rfl, rfl⟩ | ⟨c1, c2, rfl, rfl, rfl⟩ | ⟨rfl, rfl, rfl, rfl, rfl⟩
    · have k1 : (d + 1 == 1) = false := by rw [beq_eq_false_iff_ne]; omega
      clear c1 hmd
      go_wp2
      go_ret
      exact ⟨rfl, bw9a⟩
    · have k1 : (m + 1 == 1) = false := by rw [beq_eq_false_iff_ne]; omega
      have k2 : 28 ≤ d := by omega
      clear c1 hmd
      go_wp2
      go_ret
      exact ⟨rfl, bw9a⟩
    · clear hmd
      go_wp2
      go_ret
      exact ⟨rfl, bw9a⟩
end Go.Proofs.YtdcdoeolaongkaaGreatDoor.Dt
