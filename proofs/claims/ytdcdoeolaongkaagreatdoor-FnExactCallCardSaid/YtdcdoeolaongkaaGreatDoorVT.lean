import Derived.Test.YtdcdoeolaongkaaGreatDoorVB
import Derived.Test.YtdcdoeolaongkaaGreatDoorVC
import Derived.Test.YtdcdoeolaongkaaGreatDoorVD
import Derived.Test.YtdcdoeolaongkaaGreatDoorVM
import Derived.Test.YtdcdoeolaongkaaGreatDoorVS
import Derived.Test.YtdcdoeolaongkaaGreatDoorVA
import Derived.Test.YtdcdoeolaongkaaGreatDoorVX
import Derived.Deep.RegionWith
import Derived.Test.YtdcdoeolaongkaaGreatDoorF2
import Derived.Test.YtdcdoeolaongkaaGreatDoorMK
namespace Go.Proofs.YtdcdoeolaongkaaGreatDoor.Ca
open Go.ChangeShapes Go.WideShapes Go.ChangeAt Go.RowKit Go.Shelf
open Go.Proofs.YtdcdoeolaongkaaGreatDoor.Rd
open Go.Proofs.YtdcdoeolaongkaaGreatDoor.Mp (gvK ckK allK absK nullifK twoK takeK allFit fitB wantK resK)
set_option linter.unusedVariables false
set_option linter.unusedSimpArgs false
set_option maxRecDepth 100000
theorem allFit_eq : ∀ (ks ws : List Int), allFit ks ws = true → (∀ k ∈ ks, (k == 0) = false) → ks = ws
  | [], [], _, _ => rfl
  | [], _ :: _, h, _ => by simp [allFit] at h
  | _ :: _, [], h, _ => by simp [allFit] at h
  | k :: ks, x :: ws, h, hz => by
    simp only [allFit, Bool.and_eq_true] at h
    have h0 := hz k (by simp)
    have h1 := h.1
    simp only [fitB, h0, Bool.or_false, beq_iff_eq] at h1
    rw [h1, allFit_eq ks ws h.2 (fun y hy => hz y (by simp [hy]))]
theorem take_shape {r : Int} {ws : List Int} {ar : List TA} (h : (takeK r ws (kindsA ar) == -1) = false) (hz : ∀ t ∈ ar, (t.1 == 0) = false) : kindsA ar = ws := by
  unfold takeK at h
  split at h
  · rename_i hf
    refine allFit_eq _ _ hf fun k hk => ?_
    obtain ⟨t, ht, rfl⟩ := List.mem_map.1 hk
    exact hz t ht
  · simp at h
theorem one_of {ar : List TA} {k : Int} (h : kindsA ar = [k]) : ∃ n s, ar = [(k, n, s)] := by
  match ar, h with
  | [(k', n, s)], h => simp [kindsA] at h; subst h; exact ⟨n, s, rfl⟩
theorem three_of {ar : List TA} {k k1 k2 : Int} (h : kindsA ar = [k, k1, k2]) : ∃ n s n1 s1 n2 s2, ar = [(k, n, s), (k1, n1, s1), (k2, n2, s2)] := by
  match ar, h with
  | [(a, n, s), (b, n1, s1), (c, n2, s2)], h =>
    simp [kindsA] at h
    obtain ⟨rfl, rfl, rfl⟩ := h
    exact ⟨n, s, n1, s1, n2, s2, rfl⟩
theorem abs_of {ar : List TA} (h : (absK (kindsA ar) == -1) = false) : ∃ k n s, ar = [(k, n, s)] := by
  match ar with
  | [] => simp [kindsA, absK] at h
  | [(k, n, s)] => exact ⟨k, n, s, rfl⟩
  | _ :: _ :: _ => simp [kindsA, absK] at h
theorem nullif_of {ar : List TA} (h : (nullifK (kindsA ar) == -1) = false) : ∃ k n s k1 n1 s1, ar = [(k, n, s), (k1, n1, s1)] ∧ Ok.opk 7 k k1 ≠ -1 := by
  match ar with
  | [] => simp [kindsA, nullifK] at h
  | [_] => simp [kindsA, nullifK] at h
  | [(k, n, s), (k1, n1, s1)] =>
    refine ⟨k, n, s, k1, n1, s1, rfl, fun e => ?_⟩
    simp [kindsA, nullifK, e] at h
  | _ :: _ :: _ :: _ => simp [kindsA, nullifK] at h
theorem two_of {ar : List TA} (h : (twoK (kindsA ar) == -1) = false) (hz : ∀ t ∈ ar, (t.1 == 0) = false) : ∃ k n s n1 s1, ar = [(k, n, s), (k, n1, s1)] := by
  match ar with
  | [] => simp [kindsA, twoK] at h
  | [_] => simp [kindsA, twoK] at h
  | [(k, n, s), (k1, n1, s1)] =>
    have h0 := hz (k, n, s) (by simp)
    have h1 := hz (k1, n1, s1) (by simp)
    simp only [kindsA, twoK, List.map_cons, List.map_nil] at h
    split at h
    · simp at h
    · rename_i hf
      have h1' : k1 ≠ 0 := by simpa using h1
      have : fitB k k1 = true := by
        cases e : fitB k k1
        · exact absurd ⟨e, h1'⟩ hf
        · rfl
      simp only at h0
      simp only [fitB, h0, Bool.or_false, beq_iff_eq] at this
      subst this
      exact ⟨k, n, s, n1, s1, rfl⟩
  | _ :: _ :: _ :: _ => simp [kindsA, twoK] at h
theorem gv_nonneg (fn : Int) (ks : List Int) (hk : allK ks = true) : gvK fn ks = -1 ∨ 0 ≤ gvK fn ks := by
  unfold gvK
  split
  · match ks with
    | [] => exact .inl rfl
    | [k] => exact opk_un (by omega) (by omega)
    | _ :: _ :: _ => exact .inl rfl
  · split
    · match ks, hk with
      | [], _ => exact .inl rfl
      | [_], _ => exact .inl rfl
      | [a, b], hk =>
        simp [allK] at hk
        have := Ok.isK_yes hk.1
        simp only [nullifK]
        split
        · exact .inl rfl
        · exact .inr this.1
      | _ :: _ :: _ :: _, _ => exact .inl rfl
    · split
      · match ks, hk with
        | [], _ => exact .inl rfl
        | [_], _ => exact .inl rfl
        | [a, b], hk =>
          simp [allK] at hk
          have h1 := Ok.isK_yes hk.1
          have h2 := Ok.isK_yes hk.2
          simp only [twoK]
          split
          · exact .inl rfl
          · split <;> exact .inr (by omega)
        | _ :: _ :: _ :: _, _ => exact .inl rfl
      · unfold takeK
        split
        · refine .inr ?_
          unfold resK
          split
          · decide
          · split <;> decide
        · exact .inl rfl
theorem kinds_all {ar : List TA} (hv : ∀ t ∈ ar, vok t.1 t.2.1 t.2.2 = true) : allK (kindsA ar) = true := by
  simp only [allK, kindsA, List.all_eq_true, List.mem_map]
  rintro k ⟨t, ht, rfl⟩
  have := (vok_kind (hv t ht)).1
  simp [Ok.isK]; omega
/-- Both packages answer V. -/
def BothGive (fn : Int) (ar : List TA) (V : Value) : Prop :=
  (∀ (a : Option Addr) (cap : Nat) (w : World), RVO w (.slice a ar.length cap) ar → Tabs w → Calls Tryz.prog 20 #[.int .i64 fn, .slice a ar.length cap] w fun e w' => e = .returned V ∧ Below w.heap.size w w') ∧
  (∀ (a : Option Addr) (cap : Nat) (w : World), RVO w (.slice a ar.length cap) ar → Calls Tryz.prog 33 #[.int .i64 fn, .slice a ar.length cap] w fun e w' => e = .returned V ∧ Below w.heap.size w w')
theorem drop_R {f : Nat} {args : Array Value} {w : World} {V : Value} (h : Calls Tryz.prog f args w fun e w' => ∃ V', V' = V ∧ e = .returned V' ∧ Below w.heap.size w w') : Calls Tryz.prog f args w fun e w' => e = .returned V ∧ Below w.heap.size w w' :=
  h.mono (by rintro e w' ⟨V', rfl, rfl, hb⟩; exact ⟨rfl, hb⟩)
theorem vok3 {n : Int} {s : ByteArray} (h : vok 3 n s = true) : ∃ cs, chars s = some cs := vok_text h
/-- The good ways. -/
structure Good (fn : Int) (ar : List TA) : Prop where
  h8 : ar.length ≤ 8
  sz : ∀ t ∈ ar, t.2.2.size ≤ 1048576
  v : ∀ t ∈ ar, vok t.1 t.2.1 t.2.2 = true
  wf : ∀ t ∈ ar, (Lit.int .i64 t.2.1).wf = true
  g : (gvK fn (kindsA ar) == -1) = false
  nu : (nullsA ar && fn != 6) = false
  ck : ¬ ckK fn (kindsA ar) < 0
theorem Good.nz {fn : Int} {ar : List TA} (h : Good fn ar) (h6 : fn ≠ 6) : ∀ t ∈ ar, (t.1 == 0) = false := by
  intro t ht
  have hn := h.nu
  have : (fn != 6) = true := by simpa using h6
  rw [this, Bool.and_true] at hn
  simp only [nullsA, List.any_eq_false] at hn
  simpa using hn t ht
set_option maxHeartbeats 1000000 in
theorem both_1 {ar : List TA} (H : Good 1 ar) : ∃ k n s c, BothGive 1 ar (tV k n s c) := by
  obtain ⟨k, n, s, rfl⟩ := abs_of H.g
  have hv : vok k n s = true := H.v _ (List.mem_singleton.2 rfl)
  have hs : s.size ≤ 1048576 := H.sz _ (List.mem_singleton.2 rfl)
  have wn : (Lit.int .i64 n).wf = true := H.wf _ (List.mem_singleton.2 rfl)
  by_cases hn : 0 ≤ n
  · exact ⟨k, n, s, 0, fun a cap w hr hT => drop_R (callI_1 _ a cap w H.h8 hr H.sz hT H.v H.g H.nu (fun V => V = tV k n s 0) (fun W hW => abs_pos k n s a cap W (hr.below hW) hn)), fun a cap w hr => callS_abs_pos k n s _ a cap w H.h8 hr H.sz H.v H.ck (H.nz (by omega)) rfl hn⟩
  · obtain ⟨r1, r2, r3, hr3⟩ : ∃ r1 r2 r3, unR 17 k n (Ok.opk 17 k 0) (vok k n s) = (r1, r2, r3) := ⟨_, _, _, rfl⟩
    refine ⟨r1, r2, ⟨#[]⟩, r3, fun a cap w hr hT => drop_R (callI_1 _ a cap w H.h8 hr H.sz hT H.v H.g H.nu (fun V => V = tV r1 r2 ⟨#[]⟩ r3) (fun W hW => (abs_neg k n s a cap W (hr.below hW) hs wn (tabs_below hT hW) hn).mono (by rw [hr3]; exact fun _ _ h => h))), fun a cap w hr => callS_abs_neg k n s _ a cap w H.h8 hr H.sz H.v H.ck (H.nz (by omega)) rfl (by omega) hs wn r1 r2 r3 hr3⟩
set_option maxHeartbeats 1000000 in
theorem both_2 {ar : List TA} (H : Good 2 ar) : ∃ k n s c, BothGive 2 ar (tV k n s c) := by
  obtain ⟨n, s, rfl⟩ := one_of (take_shape (r := 1) (ws := [3]) H.g (H.nz (by omega)))
  have hv : vok 3 n s = true := H.v _ (List.mem_singleton.2 rfl)
  have hs : s.size ≤ 1048576 := H.sz _ (List.mem_singleton.2 rfl)
  obtain ⟨cs, hcs⟩ := vok3 hv
  have hc := (count_eq s cs hcs).1
  exact ⟨1, cs.length, ⟨#[]⟩, 0, fun a cap w hr hT => drop_R (callI_2 _ a cap w H.h8 hr H.sz hT H.v H.g H.nu (fun V => V = tV 1 cs.length ⟨#[]⟩ 0) (fun W hW => (length_work 3 n s a cap W (hr.below hW) hs).mono (by rw [hc]; exact fun _ _ h => h))), fun a cap w hr => callS_length 3 n s _ a cap w H.h8 hr H.sz H.v H.ck (H.nz (by omega)) rfl hs cs hcs cs.length rfl⟩
set_option maxHeartbeats 1000000 in
theorem both_3 {ar : List TA} (H : Good 3 ar) : ∃ k n s c, BothGive 3 ar (tV k n s c) := by
  obtain ⟨n, s, rfl⟩ := one_of (take_shape (r := 3) (ws := [3]) H.g (H.nz (by omega)))
  have hv : vok 3 n s = true := H.v _ (List.mem_singleton.2 rfl)
  have hs : s.size ≤ 1048576 := H.sz _ (List.mem_singleton.2 rfl)
  obtain ⟨cs, hcs⟩ := vok3 hv
  exact ⟨3, 0, ⟨(Lib.mapD (shiftF 65 90 32) s.data.toList).toArray⟩, 0, fun a cap w hr hT => drop_R (callI_3 _ a cap w H.h8 hr H.sz hT H.v H.g H.nu (fun V => V = tV 3 0 ⟨(Lib.mapD (shiftF 65 90 32) s.data.toList).toArray⟩ 0) (fun W hW => lower_work 3 n s a cap W (hr.below hW) hs (tabs_below hT hW))), fun a cap w hr => callS_lower 3 n s _ a cap w H.h8 hr H.sz H.v H.ck (H.nz (by omega)) rfl hs cs hcs⟩
set_option maxHeartbeats 1000000 in
theorem both_4 {ar : List TA} (H : Good 4 ar) : ∃ k n s c, BothGive 4 ar (tV k n s c) := by
  obtain ⟨n, s, rfl⟩ := one_of (take_shape (r := 3) (ws := [3]) H.g (H.nz (by omega)))
  have hv : vok 3 n s = true := H.v _ (List.mem_singleton.2 rfl)
  have hs : s.size ≤ 1048576 := H.sz _ (List.mem_singleton.2 rfl)
  obtain ⟨cs, hcs⟩ := vok3 hv
  exact ⟨3, 0, ⟨(Lib.mapD (shiftF 97 122 (-32)) s.data.toList).toArray⟩, 0, fun a cap w hr hT => drop_R (callI_4 _ a cap w H.h8 hr H.sz hT H.v H.g H.nu (fun V => V = tV 3 0 ⟨(Lib.mapD (shiftF 97 122 (-32)) s.data.toList).toArray⟩ 0) (fun W hW => upper_work 3 n s a cap W (hr.below hW) hs (tabs_below hT hW))), fun a cap w hr => callS_upper 3 n s _ a cap w H.h8 hr H.sz H.v H.ck (H.nz (by omega)) rfl hs cs hcs⟩
set_option maxHeartbeats 1000000 in
theorem both_5 {ar : List TA} (H : Good 5 ar) : ∃ k n s c, BothGive 5 ar (tV k n s c) := by
  obtain ⟨n, s, n1, s1, n2, s2, rfl⟩ := three_of (take_shape (r := 3) (ws := [3, 1, 1]) H.g (H.nz (by omega)))
  have hv : vok 3 n s = true := H.v (3, n, s) (by simp)
  have hs : s.size ≤ 1048576 := H.sz (3, n, s) (by simp)
  have w1 : (Lit.int .i64 n1).wf = true := H.wf (1, n1, s1) (by simp)
  have w2 : (Lit.int .i64 n2).wf = true := H.wf (1, n2, s2) (by simp)
  by_cases hn : n2 < 0
  · exact ⟨0, 0, ⟨#[]⟩, 15, fun a cap w hr hT => drop_R (callI_5 _ a cap w H.h8 hr H.sz hT H.v H.g H.nu (fun V => V = tV 0 0 ⟨#[]⟩ 15) (fun W hW => substr_neg 3 n s 1 n1 s1 1 n2 s2 a cap W (hr.below hW) hn)), fun a cap w hr => callS_substr_neg 3 n s 1 n1 s1 1 n2 s2 _ a cap w H.h8 hr H.sz H.v H.ck (H.nz (by omega)) rfl hn⟩
  · have hn' : 0 ≤ n2 := by omega
    obtain ⟨cs, hcs⟩ := vok3 hv
    obtain ⟨T, hT0⟩ : ∃ T : ByteArray, bytesN T 0 = Lk.encs (subR n1 n2 0 cs) := ⟨_, Lk.bytes_strOf (Lk.encs_lt (fun c hc => (Lk.chars_encs hcs).2 c (subR_mem n1 n2 cs 0 c hc)))⟩
    have hsub : ∀ (a : Option Addr) (cap : Nat) (W : World), RVO W (.slice a 3 cap) [(3, n, s), (1, n1, s1), (1, n2, s2)] → Calls Tryz.prog 88 #[.slice a 3 cap] W fun e w' => Gives (fun V => V = tV 3 0 T 0) W e w' := by
      intro a cap W h
      have key : ∀ e w', Gives (fun V => ∃ t : ByteArray, bytesN t 0 = Lk.encs (subR n1 n2 0 cs) ∧ V = tV 3 0 t 0) W e w' → Gives (fun V => V = tV 3 0 T 0) W e w' := by
        rintro e w' ⟨k, n', s', c, ⟨t, ht, hV⟩, he, hb⟩
        obtain rfl : t = T := Lk.bytesN_inj (ht.trans hT0.symm)
        exact ⟨k, n', s', c, hV, he, hb⟩
      by_cases hsum : n1 + n2 ≤ 9223372036854775807
      · exact (substr_ok 3 n s 1 n1 s1 1 n2 s2 a cap W h hs cs hcs w1 w2 hn' hsum).mono key
      · exact (substr_big 3 n s 1 n1 s1 1 n2 s2 a cap W h hs cs hcs w1 w2 hn' hsum).mono key
    have hspec : ∀ W, Calls Tryz.prog 77 #[.string s, .int .i64 n1, .int .i64 n2] W fun e w' => e = .returned (.string T) ∧ Below W.heap.size W w' := fun W =>
      (substrS_any s n1 n2 W hs cs hcs w1 w2 hn').mono (by
        rintro e w' ⟨t, ht, rfl, hb⟩
        obtain rfl : t = T := Lk.bytesN_inj (ht.trans hT0.symm)
        exact ⟨rfl, hb⟩)
    exact ⟨3, 0, T, 0, fun a cap w hr hT => drop_R (callI_5 _ a cap w H.h8 hr H.sz hT H.v H.g H.nu (fun V => V = tV 3 0 T 0) (fun W hW => hsub a cap W (hr.below hW))), fun a cap w hr => callS_substr 3 n s 1 n1 s1 1 n2 s2 _ a cap w H.h8 hr H.sz H.v H.ck (H.nz (by omega)) rfl hn' T hspec⟩
set_option maxHeartbeats 1000000 in
theorem both_6 {ar : List TA} (H : Good 6 ar) : ∃ k n s c, BothGive 6 ar (tV k n s c) := by
  obtain ⟨k, n, s, k1, n1, s1, rfl, hop⟩ := nullif_of H.g
  have hv : vok k n s = true := H.v (k, n, s) (by simp)
  have hv1 : vok k1 n1 s1 = true := H.v (k1, n1, s1) (by simp)
  have hs : s.size ≤ 1048576 := H.sz (k, n, s) (by simp)
  have hs1 : s1.size ≤ 1048576 := H.sz (k1, n1, s1) (by simp)
  have ht : together k k1 = true := by
    rw [opk_eq k k1 (vok_kind hv).1 (vok_kind hv1).1] at hop
    cases e : together k k1
    · rw [e] at hop; simp at hop
    · rfl
  by_cases g : (k == 0 || k1 == 0) = true
  · refine ⟨k, n, s, 0, fun a cap w hr hT => drop_R (callI_6 _ a cap w H.h8 hr H.sz hT H.v H.g H.nu (fun V => V = tV k n s 0) (fun W hW => nullif_null k n s k1 n1 s1 a cap W (hr.below hW) (fun w2 hb => binary_eq_null k n s k1 n1 s1 w2 hs hs1 (tabs_below (tabs_below hT hW) hb) hv hv1 ht g))), fun a cap w hr => callS_nullif_null k n s k1 n1 s1 _ a cap w H.h8 hr H.sz H.v H.ck rfl (fun W => ?_)⟩
    by_cases g1 : (k == 0) = true
    · exact binaryS_null_a k n s k1 n1 s1 W hs hs1 hv hv1 ht g1
    · have g1' : (k == 0) = false := by simpa using g1
      exact binaryS_null_b k n s k1 n1 s1 W hs hs1 hv hv1 ht g1' (by simpa [g1'] using g)
  · have g1 : (k == 0) = false := by
      cases e : (k == 0)
      · rfl
      · rw [e] at g; simp at g
    have g2 : (k1 == 0) = false := by
      cases e : (k1 == 0)
      · rfl
      · rw [e] at g; simp at g
    have b1 := fun W h => binary_eq k n s k1 n1 s1 W hs hs1 h hv hv1 ht g1 g2
    have b2 := fun W => binaryS_eq k n s k1 n1 s1 W hs hs1 hv hv1 ht g1 g2
    cases hz : (ordV k n s k1 n1 s1 == 0)
    · rw [hz] at b1 b2
      exact ⟨k, n, s, 0, fun a cap w hr hT => drop_R (callI_6 _ a cap w H.h8 hr H.sz hT H.v H.g H.nu (fun V => V = tV k n s 0) (fun W hW => nullif_no k n s k1 n1 s1 a cap W (hr.below hW) (fun w2 hb => b1 w2 (tabs_below (tabs_below hT hW) hb)))), fun a cap w hr => callS_nullif_no k n s k1 n1 s1 _ a cap w H.h8 hr H.sz H.v H.ck rfl b2⟩
    · rw [hz] at b1 b2
      exact ⟨0, 0, ⟨#[]⟩, 0, fun a cap w hr hT => drop_R (callI_6 _ a cap w H.h8 hr H.sz hT H.v H.g H.nu (fun V => V = tV 0 0 ⟨#[]⟩ 0) (fun W hW => nullif_yes k n s k1 n1 s1 a cap W (hr.below hW) (fun w2 hb => b1 w2 (tabs_below (tabs_below hT hW) hb)))), fun a cap w hr => callS_nullif_yes k n s k1 n1 s1 _ a cap w H.h8 hr H.sz H.v H.ck rfl b2⟩
set_option maxHeartbeats 1000000 in
theorem both_7 {ar : List TA} (H : Good 7 ar) : ∃ k n s c, BothGive 7 ar (tV k n s c) := by
  obtain ⟨n, s, rfl⟩ := one_of (take_shape (r := 1) (ws := [5]) H.g (H.nz (by omega)))
  have hv : vok 5 n s = true := H.v _ (List.mem_singleton.2 rfl)
  have hs : s.size ≤ 1048576 := H.sz _ (List.mem_singleton.2 rfl)
  have hb : -719162 ≤ n ∧ n ≤ 2932896 := by simp [vok] at hv; omega
  obtain ⟨y, m, d, hvl, hnum⟩ := find_day hb.1 hb.2
  exact ⟨1, y, ⟨#[]⟩, 0, fun a cap w hr hT => drop_R (callI_7 _ a cap w H.h8 hr H.sz hT H.v H.g H.nu (fun V => V = tV 1 y ⟨#[]⟩ 0) (fun W hW => year_work hvl hnum hb.1 hb.2 5 s a cap W (hr.below hW))), fun a cap w hr => callS_year 5 n s _ a cap w H.h8 hr H.sz H.v H.ck (H.nz (by omega)) rfl y m d (fun W => partsS_at hvl hnum hb.1 hb.2 W)⟩
set_option maxHeartbeats 1000000 in
theorem both_8 {ar : List TA} (H : Good 8 ar) : ∃ k n s c, BothGive 8 ar (tV k n s c) := by
  obtain ⟨n, s, rfl⟩ := one_of (take_shape (r := 1) (ws := [5]) H.g (H.nz (by omega)))
  have hv : vok 5 n s = true := H.v _ (List.mem_singleton.2 rfl)
  have hs : s.size ≤ 1048576 := H.sz _ (List.mem_singleton.2 rfl)
  have hb : -719162 ≤ n ∧ n ≤ 2932896 := by simp [vok] at hv; omega
  obtain ⟨y, m, d, hvl, hnum⟩ := find_day hb.1 hb.2
  exact ⟨1, m, ⟨#[]⟩, 0, fun a cap w hr hT => drop_R (callI_8 _ a cap w H.h8 hr H.sz hT H.v H.g H.nu (fun V => V = tV 1 m ⟨#[]⟩ 0) (fun W hW => month_work hvl hnum hb.1 hb.2 5 s a cap W (hr.below hW))), fun a cap w hr => callS_month 5 n s _ a cap w H.h8 hr H.sz H.v H.ck (H.nz (by omega)) rfl y m d (fun W => partsS_at hvl hnum hb.1 hb.2 W)⟩
set_option maxHeartbeats 1000000 in
theorem both_9 {ar : List TA} (H : Good 9 ar) : ∃ k n s c, BothGive 9 ar (tV k n s c) := by
  obtain ⟨n, s, rfl⟩ := one_of (take_shape (r := 1) (ws := [5]) H.g (H.nz (by omega)))
  have hv : vok 5 n s = true := H.v _ (List.mem_singleton.2 rfl)
  have hs : s.size ≤ 1048576 := H.sz _ (List.mem_singleton.2 rfl)
  have hb : -719162 ≤ n ∧ n ≤ 2932896 := by simp [vok] at hv; omega
  obtain ⟨y, m, d, hvl, hnum⟩ := find_day hb.1 hb.2
  exact ⟨1, d, ⟨#[]⟩, 0, fun a cap w hr hT => drop_R (callI_9 _ a cap w H.h8 hr H.sz hT H.v H.g H.nu (fun V => V = tV 1 d ⟨#[]⟩ 0) (fun W hW => day_work hvl hnum hb.1 hb.2 5 s a cap W (hr.below hW))), fun a cap w hr => callS_day 5 n s _ a cap w H.h8 hr H.sz H.v H.ck (H.nz (by omega)) rfl y m d (fun W => partsS_at hvl hnum hb.1 hb.2 W)⟩
set_option maxHeartbeats 1000000 in
theorem both_10 {ar : List TA} (H : Good 10 ar) : ∃ k n s c, BothGive 10 ar (tV k n s c) := by
  obtain ⟨n, s, rfl⟩ := one_of (take_shape (r := 2) (ws := [2]) H.g (H.nz (by omega)))
  have hv : vok 2 n s = true := H.v _ (List.mem_singleton.2 rfl)
  have hs : s.size ≤ 1048576 := H.sz _ (List.mem_singleton.2 rfl)
  have hb := (vok_kind hv).2.1 rfl
  by_cases hr2 : -99999999999999 ≤ rndI n ∧ rndI n ≤ 99999999999999
  · have hU : toU (rndI n) = (rndI n * 10000, 0) := by unfold toU; rw [if_pos hr2]
    exact ⟨2, rndI n * 10000, ⟨#[]⟩, 0, fun a cap w hr hT => drop_R (callI_10 _ a cap w H.h8 hr H.sz hT H.v H.g H.nu (fun V => V = tV 2 (rndI n * 10000) ⟨#[]⟩ 0) (fun W hW => (round_work 2 n s a cap W (hr.below hW) hb.1 hb.2).mono (by rw [hU]; exact fun _ _ h => h))), fun a cap w hr => callS_round 2 n s _ a cap w H.h8 hr H.sz H.v H.ck (H.nz (by omega)) rfl hb.1 hb.2 (rndI n) rfl (by omega) (by omega)⟩
  · have hU : toU (rndI n) = (0, 13) := by unfold toU; rw [if_neg hr2]
    exact ⟨0, 0, ⟨#[]⟩, 13, fun a cap w hr hT => drop_R (callI_10 _ a cap w H.h8 hr H.sz hT H.v H.g H.nu (fun V => V = tV 0 0 ⟨#[]⟩ 13) (fun W hW => (round_work 2 n s a cap W (hr.below hW) hb.1 hb.2).mono (by rw [hU]; exact fun _ _ h => h))), fun a cap w hr => callS_round_no 2 n s _ a cap w H.h8 hr H.sz H.v H.ck (H.nz (by omega)) rfl hb.1 hb.2 (rndI n) rfl (by omega)⟩
set_option maxHeartbeats 1000000 in
theorem both_11 {ar : List TA} (H : Good 11 ar) : ∃ k n s c, BothGive 11 ar (tV k n s c) := by
  obtain ⟨n, s, rfl⟩ := one_of (take_shape (r := 3) (ws := [3]) H.g (H.nz (by omega)))
  have hv : vok 3 n s = true := H.v _ (List.mem_singleton.2 rfl)
  have hs : s.size ≤ 1048576 := H.sz _ (List.mem_singleton.2 rfl)
  exact ⟨3, 0, ⟨(Lib.trimB s.data.toList 32).toArray⟩, 0, fun a cap w hr hT => drop_R (callI_11 _ a cap w H.h8 hr H.sz hT H.v H.g H.nu (fun V => V = tV 3 0 ⟨(Lib.trimB s.data.toList 32).toArray⟩ 0) (fun W hW => trim_work 3 n s a cap W (hr.below hW) hs)), fun a cap w hr => callS_trim 3 n s _ a cap w H.h8 hr H.sz H.v H.ck (H.nz (by omega)) rfl hs⟩
set_option maxHeartbeats 1000000 in
theorem both_12 {ar : List TA} (H : Good 12 ar) : ∃ k n s c, BothGive 12 ar (tV k n s c) := by
  obtain ⟨k, n, s, n1, s1, rfl⟩ := two_of H.g (H.nz (by omega))
  have hv : vok k n s = true := H.v (k, n, s) (by simp)
  have hv1 : vok k n1 s1 = true := H.v (k, n1, s1) (by simp)
  have hs : s.size ≤ 1048576 := H.sz (k, n, s) (by simp)
  have hs1 : s1.size ≤ 1048576 := H.sz (k, n1, s1) (by simp)
  have ht : together k k = true := by simp [together]
  have hF := fit_of hv hv1 ht
  have hR : cmpR k n s k n1 s1 = (ordV k n s k n1 s1, 0) := by simp [cmpR, hv, hv1, ht]
  have hC := fun W => compare_spec k n s k n1 s1 W hs hs1
  rw [hR] at hC
  by_cases hc : ordV k n s k n1 s1 ≤ 0
  · exact ⟨k, n, s, 0, fun a cap w hr hT => drop_R (callI_12 _ a cap w H.h8 hr H.sz hT H.v H.g H.nu (fun V => V = tV k n s 0) (fun W hW => least_a k n s k n1 s1 a cap W (hr.below hW) hF hc)), fun a cap w hr => callS_least_a k n s k n1 s1 _ a cap w H.h8 hr H.sz H.v H.ck (H.nz (by omega)) rfl _ (by omega) hC⟩
  · exact ⟨k, n1, s1, 0, fun a cap w hr hT => drop_R (callI_12 _ a cap w H.h8 hr H.sz hT H.v H.g H.nu (fun V => V = tV k n1 s1 0) (fun W hW => least_b k n s k n1 s1 a cap W (hr.below hW) hF hc)), fun a cap w hr => callS_least_b k n s k n1 s1 _ a cap w H.h8 hr H.sz H.v H.ck (H.nz (by omega)) rfl _ (by omega) hC⟩
set_option maxHeartbeats 1000000 in
theorem both_13 {ar : List TA} (H : Good 13 ar) : ∃ k n s c, BothGive 13 ar (tV k n s c) := by
  obtain ⟨k, n, s, n1, s1, rfl⟩ := two_of H.g (H.nz (by omega))
  have hv : vok k n s = true := H.v (k, n, s) (by simp)
  have hv1 : vok k n1 s1 = true := H.v (k, n1, s1) (by simp)
  have hs : s.size ≤ 1048576 := H.sz (k, n, s) (by simp)
  have hs1 : s1.size ≤ 1048576 := H.sz (k, n1, s1) (by simp)
  have ht : together k k = true := by simp [together]
  have hF := fit_of hv hv1 ht
  have hR : cmpR k n s k n1 s1 = (ordV k n s k n1 s1, 0) := by simp [cmpR, hv, hv1, ht]
  have hC := fun W => compare_spec k n s k n1 s1 W hs hs1
  rw [hR] at hC
  by_cases hc : 0 ≤ ordV k n s k n1 s1
  · refine ⟨k, n, s, 0, fun a cap w hr hT => drop_R (callI_13 _ a cap w H.h8 hr H.sz hT H.v H.g H.nu (fun V => V = tV k n s 0) (fun W hW => greatest_a k n s k n1 s1 a cap W (hr.below hW) hF hc)), ?_⟩
    by_cases h0 : ordV k n s k n1 s1 = 0
    · exact fun a cap w hr => callS_greatest_0 k n s k n1 s1 _ a cap w H.h8 hr H.sz H.v H.ck (H.nz (by omega)) rfl _ h0 hC
    · exact fun a cap w hr => callS_greatest_p k n s k n1 s1 _ a cap w H.h8 hr H.sz H.v H.ck (H.nz (by omega)) rfl _ (by omega) hC
  · exact ⟨k, n1, s1, 0, fun a cap w hr hT => drop_R (callI_13 _ a cap w H.h8 hr H.sz hT H.v H.g H.nu (fun V => V = tV k n1 s1 0) (fun W hW => greatest_b k n s k n1 s1 a cap W (hr.below hW) hF hc)), fun a cap w hr => callS_greatest_b k n s k n1 s1 _ a cap w H.h8 hr H.sz H.v H.ck (H.nz (by omega)) rfl _ (by omega) hC⟩
/-- Whatever the function and the arguments: both packages answer alike. -/
theorem call_both (fn : Int) (ar : List TA) (hsz : ∀ t ∈ ar, t.2.2.size ≤ 1048576) (hwf : ∀ t ∈ ar, (Lit.int .i64 t.2.1).wf = true) : ∃ k n s c, BothGive fn ar (tV k n s c) := by
  by_cases h8 : 8 < ar.length
  · exact ⟨0, 0, ⟨#[]⟩, 1, fun a cap w hr hT => callF_big fn a ar.length cap w h8, fun a cap w hr => callS_big fn a ar.length cap w h8⟩
  have h8' : ar.length ≤ 8 := by omega
  by_cases hv : ∀ t ∈ ar, vok t.1 t.2.1 t.2.2 = true
  case neg => exact ⟨0, 0, ⟨#[]⟩, 1, fun a cap w hr hT => callF_bad fn ar a cap w h8' hr hsz hT hv, fun a cap w hr => callS_bad fn ar a cap w h8' hr hsz hv⟩
  have hk := kinds_all hv
  by_cases hno : fn < 1 ∨ 13 < fn
  · have hck : ckK fn (kindsA ar) < 0 := by unfold ckK; rw [if_pos hno]; decide
    exact ⟨0, 0, ⟨#[]⟩, 10, fun a cap w hr hT => callF_none fn ar a cap w h8' hr hsz hT hv hno, fun a cap w hr => callS_type fn ar a cap w h8' hr hsz hv hck⟩
  have h13 : 1 ≤ fn ∧ fn ≤ 13 := by omega
  have hcg : ckK fn (kindsA ar) = gvK fn (kindsA ar) := Mp.ckK_yes h13 hk
  have fails : ∀ c, (((gvK fn (kindsA ar) == -1) = true ∧ c = 10) ∨ ((gvK fn (kindsA ar) == -1) = false ∧ (nullsA ar && fn != 6) = true ∧ c = 0)) →
      ∀ (a : Option Addr) (cap : Nat) (w : World), RVO w (.slice a ar.length cap) ar → Tabs w → Calls Tryz.prog 20 #[.int .i64 fn, .slice a ar.length cap] w fun e w' => e = .returned (tV 0 0 ⟨#[]⟩ c) ∧ Below w.heap.size w w' := by
    intro c hc a cap w hr hT
    by_cases f1 : fn = 1
    · exact callF_82 fn ar a cap w h8' hr hsz hT hv h13 f1 c hc
    by_cases f6 : fn = 6
    · exact callF_89 fn ar a cap w h8' hr hsz hT hv h13 f6 c hc
    by_cases f12 : fn = 12 ∨ fn = 13
    · exact callF_96 fn ar a cap w h8' hr hsz hT hv h13 f12 c hc
    · exact callF_149 fn ar a cap w h8' hr hsz hT hv h13 ⟨f1, f6, fun e => f12 (.inl e), fun e => f12 (.inr e)⟩ c hc
  cases hg : (gvK fn (kindsA ar) == -1)
  case true =>
    have e : gvK fn (kindsA ar) = -1 := by simpa using hg
    exact ⟨0, 0, ⟨#[]⟩, 10, fails 10 (.inl ⟨hg, rfl⟩), fun a cap w hr => callS_type fn ar a cap w h8' hr hsz hv (show ckK fn (kindsA ar) < 0 by rw [hcg, e]; decide)⟩
  have hge : gvK fn (kindsA ar) ≠ -1 := by simpa using hg
  have hck : ¬ ckK fn (kindsA ar) < 0 := by
    rw [hcg]
    rcases gv_nonneg fn (kindsA ar) hk with e | e
    · exact absurd e hge
    · omega
  cases hnu : (nullsA ar && fn != 6)
  case true =>
    rw [Bool.and_eq_true] at hnu
    have h6 : (fn == 6) = false := by simpa using hnu.2
    exact ⟨0, 0, ⟨#[]⟩, 0, fails 0 (.inr ⟨hg, by rw [Bool.and_eq_true]; exact hnu, rfl⟩), fun a cap w hr => callS_null fn ar a cap w h8' hr hsz hv hck h6 hnu.1⟩
  have H : Good fn ar := ⟨h8', hsz, hv, hwf, hg, hnu, hck⟩
  have h13' : fn = 1 ∨ fn = 2 ∨ fn = 3 ∨ fn = 4 ∨ fn = 5 ∨ fn = 6 ∨ fn = 7 ∨ fn = 8 ∨ fn = 9 ∨ fn = 10 ∨ fn = 11 ∨ fn = 12 ∨ fn = 13 := by omega
  clear hg hge hck hnu hcg fails h13 hno
  rcases h13' with rfl | rfl | rfl | rfl | rfl | rfl | rfl | rfl | rfl | rfl | rfl | rfl | rfl
  · exact both_1 H
  · exact both_2 H
  · exact both_3 H
  · exact both_4 H
  · exact both_5 H
  · exact both_6 H
  · exact both_7 H
  · exact both_8 H
  · exact both_9 H
  · exact both_10 H
  · exact both_11 H
  · exact both_12 H
  · exact both_13 H
end Go.Proofs.YtdcdoeolaongkaaGreatDoor.Ca
namespace Go.Proofs.YtdcdoeolaongkaaGreatDoor.Ca
open Go.ChangeShapes Go.WideShapes Go.ChangeAt Go.RowKit Go.Shelf
open Go.Proofs.YtdcdoeolaongkaaGreatDoor.Rd
set_option linter.unusedVariables false
set_option linter.unusedSimpArgs false
set_option maxRecDepth 100000
theorem eqValue_is (k n : Int) (s : ByteArray) (w : World) : Calls Tryz.prog 26 #[.agg #[.int .i64 k, .int .i64 n, .string s], .agg #[.int .i64 k, .int .i64 n, .string s]] w fun e w' => e = .returned (.bool true) ∧ Below w.heap.size w w' := by
  go_enter Tryz.func26, Tryz.ntmps26
  go_wp2
  go_ret
  exact ⟨rfl, (below_alloc w _).alloc (by simp) _⟩
theorem info29 : (Tryz.prog.info? 29).map (fun i => (i.zero, i.size, i.bytes)) = some (some (.agg #[.int .i64 0, .int .i64 0, .string ⟨#[]⟩]), 3, 32) := by kernel_rfl
def Sz (us : List TA) (e : Ending) : Prop := e = .returned (.int .i64 (-1)) ∨ ∃ m : Nat, m ≤ 1048576 ∧ e = .returned (.int .i64 m) ∧ us.length ≤ 1048576 ∧ ∀ t ∈ us, t.2.2.size ≤ 1048576
set_option maxHeartbeats 1600000 in
theorem szValueS_any (la : Option Addr) (lc : Nat) (us : List TA) (w : World) (hn : us.length ≤ maxLen) (hsz : ∀ t ∈ us, t.2.2.size ≤ maxLen) (hv : RVO w (.slice la us.length lc) us) :
    Calls Tryz.prog 32 #[.slice la us.length lc, .int .i64 1048576] w fun e w' => Sz us e ∧ Below w.heap.size w w' := by
  unfold maxLen at hn
  by_cases hbig : 1048576 < us.length
  · have hbi : (1048576 : Int) - us.length < 0 := by omega
    go_enter Tryz.func32, Tryz.ntmps32
    go_wp2
    all_goals first | (exfalso; go_light; omega) | skip
    go_ret
    exact ⟨.inl rfl, Below.refl _ _⟩
  · have hbi : ¬ (1048576 : Int) - us.length < 0 := by omega
    obtain ⟨a, cap, hsl, hcells⟩ := hv
    simp only [Value.slice.injEq] at hsl
    obtain ⟨rfl, _, rfl⟩ := hsl
    go_enter Tryz.func32, Tryz.ntmps32
    go_wp2
    all_goals first | (exfalso; go_light; omega) | skip
    go_loopw [1, 5] (fun r i wr => ∃ (k m : Nat), k ≤ us.length ∧ m ≤ 1048576 ∧ r = .int .i64 m ∧ i = .int .i64 k ∧ Hid (∀ t ∈ us.take k, t.2.2.size ≤ 1048576) ∧ Below w.heap.size w wr) (fun _ i _ => us.length - (intOf i).toNat)
    case atStart => exact ⟨0, 1048576 - us.length, Nat.zero_le _, by omega, by go_num, rfl, fun t h => by simp at h, Below.refl _ _⟩
    case round =>
      obtain ⟨k, m, hk, hm, rfl, rfl, HO, hbel⟩ := hrel
      have hbs := hbel.size
      by_cases hlt : k < us.length
      · have hlti : (k : Int) < us.length := by omega
        obtain ⟨g, o, rfl, hg, hgc⟩ := hcells (by omega)
        obtain ⟨a0, a1, a2⟩ := hgc k hlt
        have c0 := (hbel.cell (p := ⟨g, o + k * 3, none⟩) hg).trans a0
        have c1 := (hbel.cell (p := ⟨g, o + k * 3 + 1, none⟩) hg).trans a1
        have c2 := (hbel.cell (p := ⟨g, o + k * 3 + 2, none⟩) hg).trans a2
        have hin : us[k] ∈ us := List.getElem_mem hlt
        have hsx := hsz us[k] hin
        have htk : us.take (k + 1) = us.take k ++ [us[k]] := by rw [List.take_add_one, List.getElem?_eq_getElem hlt]; rfl
        have HYES : us[k].2.2.size ≤ m → Hid (∀ t ∈ us.take (k + 1), t.2.2.size ≤ 1048576) := fun z t ht => by
          rw [htk] at ht
          rcases List.mem_append.1 ht with h | h
          · exact HO.out t h
          · rw [List.mem_singleton] at h; rw [h]; omega
        clear a0 a1 a2 hgc hin
        obtain ⟨t, htt⟩ : ∃ t, us[k] = t := ⟨_, rfl⟩
        rw [htt] at c0 c1 c2 hsx HYES
        clear htt htk
        obtain ⟨tk, tp, tx⟩ := t
        simp only at c0 c1 c2 hsx HYES
        by_cases hb : m < tx.size
        · have hcn := fun w => sz_no tk tp m tx w (by omega) (by omega) hsx (by omega)
          clear HYES
          go_wp2_with (go_at_call 23; refine (hcn _).mono ?_; rintro e w1 ⟨rfl, hb1⟩)
          go_ret
          exact ⟨.inl rfl, hbel.trans (hb1.mono hbs)⟩
        · have hcn := fun w => sz_yes tk tp m tx w (by omega) (by omega) (by omega)
          have HY := HYES (by omega)
          obtain ⟨m', hm'⟩ : ∃ m', m' = m - tx.size := ⟨_, rfl⟩
          have hmi : (m : Int) - tx.size = m' := by omega
          rw [hmi] at hcn
          clear hmi
          have hm1 : m' ≤ 1048576 := by omega
          have hm0 : ¬ (m' : Int) < 0 := by omega
          clear HYES hm'
          go_wp2_with (go_at_call 23; refine (hcn _).mono ?_; rintro e w1 ⟨rfl, hb1⟩)
          go_roundw
          case rel => exact ⟨k + 1, m', by omega, hm1, rfl, by go_num, HY, hbel.trans (hb1.mono hbs)⟩
          case measure => simp [intOf]; omega
      · have hkn : k = us.length := by omega
        subst hkn
        rw [List.take_length] at HO
        have hlti : ¬ (us.length : Int) < us.length := by omega
        have HS : Hid (Sz us (.returned (.int .i64 m))) := .inr ⟨m, hm, rfl, by omega, HO.out⟩
        clear HO
        go_wp2
        go_ret
        exact ⟨HS.out, hbel⟩
def FillT (us : List TA) (k : Nat) (xs : List Value) : Prop := xs.length = us.length * 3 ∧ ∀ i (h : i < us.length), i < k → xs[i * 3]? = some (.int .i64 us[i].1) ∧ xs[i * 3 + 1]? = some (.int .i64 us[i].2.1) ∧ xs[i * 3 + 2]? = some (.string us[i].2.2)
theorem FillT.step {us : List TA} {k : Nat} {xs : List Value} (h : FillT us k xs) (hk : k < us.length) : FillT us (k + 1) (((xs.set (k * 3) (.int .i64 us[k].1)).set (k * 3 + 1) (.int .i64 us[k].2.1)).set (k * 3 + 2) (.string us[k].2.2)) := by
  obtain ⟨h1, h2⟩ := h
  refine ⟨by simpa using h1, fun i hi hik => ?_⟩
  by_cases e : i = k
  · subst e
    refine ⟨?_, ?_, ?_⟩ <;> simp only [List.getElem?_set, List.length_set] <;> simp <;> omega
  · obtain ⟨a, b, c⟩ := h2 i hi (by omega)
    refine ⟨?_, ?_, ?_⟩ <;> simp only [List.getElem?_set, List.length_set]
    · rw [if_neg (by omega), if_neg (by omega), if_neg (by omega)]; exact a
    · rw [if_neg (by omega), if_neg (by omega), if_neg (by omega)]; exact b
    · rw [if_neg (by omega), if_neg (by omega), if_neg (by omega)]; exact c
theorem own_cell {w : World} {b e s g n c : Nat} {xs : List Value} {u : Value} {j : Nat} (h : w.ownsRow b e s (.slice (some ⟨g, 0, none⟩) n c) n xs) (hj : xs[j]? = some u) : w.cell? ⟨g, j, none⟩ = some u := by
  have := h.cells rfl j u hj
  by_cases hz : j = 0
  · subst hz; simpa [Addr.add] using this
  · simpa [Addr.add, hz] using this
set_option maxHeartbeats 1600000 in
theorem toValueS_any (la : Option Addr) (lc : Nat) (us : List TA) (w : World) (hn : us.length ≤ 1048576) (hv : RVO w (.slice la us.length lc) us) :
    Calls Tryz.prog 34 #[.slice la us.length lc] w fun e w' => e = .returned (.slice (some ⟨w.heap.size, 0, none⟩) us.length us.length) ∧ RVO w' (.slice (some ⟨w.heap.size, 0, none⟩) us.length us.length) us ∧ Below w.heap.size w w' := by
  obtain ⟨i0, hi, hz0, hz1, hz2⟩ := info_parts info29
  obtain ⟨a, cap, hsl, hcells⟩ := hv
  simp only [Value.slice.injEq] at hsl
  obtain ⟨rfl, _, rfl⟩ := hsl
  go_enter Tryz.func34, Tryz.ntmps34
  go_wp2_with (refine wpList_make_full _ rfl (.tmp 6) (.tmp 6) 42 rfl w.heap.size 29 i0 _ 3 Tryz.underlying42 hi hz0 hz1 .i64 .i64 us.length us.length us.length rfl rfl rfl rfl (by rw [hz2]; omega) (by unfold maxLen; omega) (Nat.le_refl _) ?_; intro w1 hown hgrow)
  have HB : Hid (Below w.heap.size w w1) := (Below.refl _ _).grown hgrow (Nat.le_refl _) (fun k hk => by simp at hk)
  have hb := HB.out
  have hw1 := hb.size
  go_loopw [4] (fun i wr => ∃ (k : Nat) (xs : List Value), k ≤ us.length ∧ i = .int .i64 k ∧ Hid (FillT us k xs) ∧ wr.ownsRow w.heap.size 29 3 (.slice (some ⟨w.heap.size, 0, none⟩) us.length us.length) us.length xs ∧ Below w.heap.size w wr) (fun i _ => us.length - (intOf i).toNat)
  case atStart => exact ⟨0, _, Nat.zero_le _, rfl, ⟨by simp [size_madeCells], fun i _ h => absurd h (Nat.not_lt_zero _)⟩, hown, hb⟩
  case round =>
    obtain ⟨k, xs, hk, rfl, HF, ho, hbel⟩ := hrel
    have hbs := hbel.size
    by_cases hlt : k < us.length
    · have hlti : (k : Int) < us.length := by omega
      obtain ⟨g, o, rfl, hg, hgc⟩ := hcells (by omega)
      obtain ⟨a0, a1, a2⟩ := hgc k hlt
      have c0 := (hbel.cell (p := ⟨g, o + k * 3, none⟩) hg).trans a0
      have c1 := (hbel.cell (p := ⟨g, o + k * 3 + 1, none⟩) hg).trans a1
      have c2 := (hbel.cell (p := ⟨g, o + k * 3 + 2, none⟩) hg).trans a2
      have HS : Hid (FillT us (k + 1) _) := HF.out.step hlt
      clear a0 a1 a2 hgc
      obtain ⟨t, htt⟩ : ∃ t, us[k] = t := ⟨_, rfl⟩
      rw [htt] at c0 c1 c2 HS
      clear htt
      obtain ⟨tk, tp, tx⟩ := t
      simp only at c0 c1 c2 HS
      have hxl := HF.out.1
      obtain ⟨y0, hy0⟩ : ∃ u, xs[k * 3]? = some u := ⟨_, List.getElem?_eq_getElem (by omega)⟩
      obtain ⟨y1, hy1⟩ : ∃ u, xs[k * 3 + 1]? = some u := ⟨_, List.getElem?_eq_getElem (by omega)⟩
      obtain ⟨y2, hy2⟩ : ∃ u, xs[k * 3 + 2]? = some u := ⟨_, List.getElem?_eq_getElem (by omega)⟩
      clear hcells HF hxl
      go_wp2_with (go_at_call 25; refine (toValue_any _ _ _ _).mono ?_; rintro e w2 ⟨rfl, hb1⟩; have ho1 := own_below ho hb1; have bw1 : Below w.heap.size w w2 := hbel.trans (hb1.mono hbs); have e0 := own_cell ho1 hy0; have e1 := own_cell ho1 hy1; have e2 := own_cell ho1 hy2; have f0 := ho1.frozenAt (k * 3); have f1 := ho1.frozenAt (k * 3 + 1); have f2 := ho1.frozenAt (k * 3 + 2); clear hb1)
      have HO2 : Hid (World.ownsRow (((w2.setCell ⟨w.heap.size, k * 3, none⟩ (.int .i64 tk)).setCell ⟨w.heap.size, k * 3 + 1, none⟩ (.int .i64 tp)).setCell ⟨w.heap.size, k * 3 + 2, none⟩ (.string tx)) w.heap.size 29 3 (.slice (some ⟨w.heap.size, 0, none⟩) us.length us.length) us.length _) := (((ho1.stored (k * 3) (.int .i64 tk)).1.stored (k * 3 + 1) (.int .i64 tp)).1.stored (k * 3 + 2) (.string tx)).1
      go_roundw
      case rel => exact ⟨k + 1, _, by omega, by go_num, HS, HO2.out, ((bw1.setCell (Nat.le_refl _) _).setCell (Nat.le_refl _) _).setCell (Nat.le_refl _) _⟩
      case measure => simp [intOf]; omega
    · have hkn : k = us.length := by omega
      subst hkn
      have hlti : ¬ (us.length : Int) < us.length := by omega
      go_wp2
      go_ret
      refine ⟨rfl, ?_, hbel⟩
      refine ⟨_, _, rfl, fun hp => ⟨w.heap.size, 0, rfl, (ho.lt _ rfl).2, fun i hi => ?_⟩⟩
      obtain ⟨q0, q1, q2⟩ := HF.out.2 i hi hi
      rw [Nat.zero_add]
      exact ⟨own_cell ho q0, own_cell ho q1, own_cell ho q2⟩
set_option maxHeartbeats 1600000 in
theorem eqValueS_any (v u : Value) (ts : List TA) (w : World) (hn : ts.length ≤ 1048576) (hv : RVO w v ts) (hu : RVO w u ts) :
    Calls Tryz.prog 35 #[v, u] w fun e w' => e = .returned (.bool true) ∧ Below w.heap.size w w' := by
  obtain ⟨a, ca, rfl, hva⟩ := hv
  obtain ⟨b, cb, rfl, hub⟩ := hu
  go_enter Tryz.func35, Tryz.ntmps35
  go_wp2
  go_loopw [5] (fun i wr => ∃ k : Nat, k ≤ ts.length ∧ i = .int .i64 k ∧ Below w.heap.size w wr) (fun i _ => ts.length - (intOf i).toNat)
  case atStart => exact ⟨0, Nat.zero_le _, rfl, Below.refl _ _⟩
  case round =>
    obtain ⟨k, hk, rfl, hbel⟩ := hrel
    have hbs := hbel.size
    by_cases hlt : k < ts.length
    · have hlti : (k : Int) < ts.length := by omega
      obtain ⟨g, o, rfl, hg, hgc⟩ := hva (by omega)
      obtain ⟨g2, o2, rfl, hg2, hgc2⟩ := hub (by omega)
      obtain ⟨a0, a1, a2⟩ := hgc k hlt
      obtain ⟨b0, b1, b2⟩ := hgc2 k hlt
      have c0 := (hbel.cell (p := ⟨g, o + k * 3, none⟩) hg).trans a0
      have c1 := (hbel.cell (p := ⟨g, o + k * 3 + 1, none⟩) hg).trans a1
      have c2 := (hbel.cell (p := ⟨g, o + k * 3 + 2, none⟩) hg).trans a2
      have d0 := (hbel.cell (p := ⟨g2, o2 + k * 3, none⟩) hg2).trans b0
      have d1 := (hbel.cell (p := ⟨g2, o2 + k * 3 + 1, none⟩) hg2).trans b1
      have d2 := (hbel.cell (p := ⟨g2, o2 + k * 3 + 2, none⟩) hg2).trans b2
      clear hgc hgc2 a0 a1 a2 b0 b1 b2 hva hub
      generalize ts[k] = t at *
      obtain ⟨tk, tp, tx⟩ := t
      simp only at c0 c1 c2 d0 d1 d2
      go_wp2
      go_region_with (go_at_call 26; refine (eqValue_is _ _ _ _).mono ?_; rintro e w1 ⟨rfl, hb'⟩; replace hb' := undrew hb'; have bw1 : Below w.heap.size w w1 := hbel.trans (hb'.mono hbs))
      all_goals
        go_wp2
        go_roundw
        case rel => exact ⟨k + 1, by omega, by go_num, by first | exact bw1 | exact bw1.drew⟩
        case measure => simp [intOf]; omega
    · go_wp2
      go_ret
      exact ⟨rfl, hbel⟩
set_option maxHeartbeats 4000000 in
theorem call_law (fn : Int) (la : Option Addr) (lc : Nat) (us : List TA) (w : World) (hn : us.length ≤ maxLen) (hsz : ∀ t ∈ us, t.2.2.size ≤ maxLen) (hwf : ∀ t ∈ us, (Lit.int .i64 t.2.1).wf = true) (hv : RVO w (.slice la us.length lc) us) (hT : Tabs w) :
    Calls Tryz.prog 8 #[.int .i64 fn, .slice la us.length lc] w fun e w' => e = .returned (.bool true) ∧ Below w.heap.size w w' := by
  go_enter Tryz.func8, Tryz.ntmps8
  go_wp2_with (go_at_call 32; fail)
  refine (szValueS_any la lc us _ hn hsz hv).mono ?_
  rintro e w1 ⟨rfl | ⟨m, hm, rfl, hn1, hs1⟩, hb1⟩
  · go_wp2
    go_ret
    exact ⟨rfl, hb1⟩
  · have hm0 : ¬ (m : Int) < 0 := by omega
    have hv1 := hv.below hb1
    obtain ⟨k, n, s, c, hI, hS⟩ := call_both fn us hs1 hwf
    have HI : Hid _ := hI
    have HS : Hid _ := hS
    clear hI hS hwf hsz
    go_wp2_with (go_at_call 34; fail)
    refine (toValueS_any la lc us _ hn1 hv1).mono ?_
    rintro e w2 ⟨rfl, hr2, hb2⟩
    have bw2 : Below w.heap.size w w2 := hb1.trans (hb2.mono hb1.size)
    go_wp2_with (go_at_call 33; fail)
    refine (HS.out _ _ _ hr2).mono ?_
    simp only [tV]
    rintro e w3 ⟨rfl, hb3⟩
    have bw3 : Below w.heap.size w w3 := bw2.trans (hb3.mono bw2.size)
    clear hb1 hb2 hb3 hr2 hv1
    have bw3a : Below w.heap.size w (w3.alloc (.cells #[.int .i64 k, .int .i64 n, .string s] 29)) := bw3.alloc bw3.size _
    go_wp2_with (go_at_call 34; fail)
    refine (toValueS_any la lc us _ hn1 (hv.below bw3a)).mono ?_
    rintro e w4 ⟨rfl, hr4, hb4⟩
    have hzE : (w3.alloc (.cells #[.int .i64 k, .int .i64 n, .string s] 29)).heap.size = w3.heap.size + 1 := by simp
    rw [hzE] at hr4
    clear hzE
    have bw4 : Below w.heap.size w w4 := bw3a.trans (hb4.mono bw3a.size)
    obtain ⟨hc4, hf4⟩ := bcell hb4
    have hz4 : w3.heap.size < w4.heap.size := by have := hb4.size; simp at this; omega
    have a0 : w4.cell? ⟨w3.heap.size, 0, none⟩ = some (.int .i64 k) := (hc4 _ _ (by simp)).trans (by simp [go_sem])
    have a1 : w4.cell? ⟨w3.heap.size, 1, none⟩ = some (.int .i64 n) := (hc4 _ _ (by simp)).trans (by simp [go_sem])
    have a2 : w4.cell? ⟨w3.heap.size, 2, none⟩ = some (.string s) := (hc4 _ _ (by simp)).trans (by simp [go_sem])
    clear hc4 hf4 hb4
    go_wp2_with (go_at_call 20; fail)
    refine (HI.out _ _ _ hr4 (tabs_below hT bw4)).mono ?_
    simp only [tV]
    rintro e w5 ⟨rfl, hb5⟩
    have bw5 : Below w.heap.size w w5 := bw4.trans (hb5.mono bw4.size)
    have a0 := (hb5.cell (p := ⟨w3.heap.size, 0, none⟩) hz4).trans a0
    have a1 := (hb5.cell (p := ⟨w3.heap.size, 1, none⟩) hz4).trans a1
    have a2 := (hb5.cell (p := ⟨w3.heap.size, 2, none⟩) hz4).trans a2
    have hz5 : w3.heap.size < w5.heap.size := by have := hb5.size; omega
    have hr5 := hr4.below hb5
    clear hb5 hr4
    have bw5a : Below w.heap.size w (w5.alloc (.cells #[.int .i64 k, .int .i64 n, .string s] 29)) := bw5.alloc bw5.size _
    have hr5a := hr5.below (below_alloc w5 (.cells #[.int .i64 k, .int .i64 n, .string s] 29))
    go_wp2_with (go_at_call 26; fail)
    refine (eqValue_is k n s _).mono ?_
    rintro e w6 ⟨rfl, hb6⟩
    have bw6 : Below w.heap.size w w6 := bw5a.trans (hb6.mono bw5a.size)
    have hr6 := hr5a.below hb6
    clear hb6 hr5 hr5a
    go_wp2_with (go_at_call 34; fail)
    refine (toValueS_any la lc us _ hn1 (hv.below bw6)).mono ?_
    rintro e w7 ⟨rfl, hr7, hb7⟩
    have bw7 : Below w.heap.size w w7 := bw6.trans (hb7.mono bw6.size)
    have hr67 := hr6.below hb7
    go_wp2_with (go_at_call 35; fail)
    refine (eqValueS_any _ _ us _ hn1 hr67 hr7).mono ?_
    rintro e w8 ⟨rfl, hb8⟩
    go_wp2
    go_ret
    exact ⟨rfl, bw7.trans (hb8.mono bw7.size)⟩
end Go.Proofs.YtdcdoeolaongkaaGreatDoor.Ca
namespace Go.Proofs.YtdcdoeolaongkaaGreatDoor
open Go.ChangeShapes Go.WideShapes Go.ChangeAt Go.RowKit Go.Lib Go.Shelf Go.Joins
set_option linter.unusedVariables false
set_option linter.unusedSimpArgs false
set_option maxRecDepth 100000
open Go.Proofs.YtdcdoeolaongkaaGreatDoor.Mp (cellsI list_of laidOutP)
theorem cells45 : Tryz.prog.cellsOf 45 = 3 := by kernel_rfl
theorem cells9V : Tryz.prog.cellsOf 9 = 1 := by kernel_rfl
theorem val_trod {H : Type} {enc : TypeId × Value → H} {W : World} {sp : Nat → Bool} {held : Bool} {n : Nat} {cs : List Value} {x : DataW H × List MemPlace} (h : DataW.trod enc Tryz.prog W 0 sp held n 45 cs = some x) :
    ∃ (k p : Int) (s : ByteArray), cs = [.int .i64 k, .int .i64 p, .string s] ∧ x.2 = [] ∧ s.size ≤ maxLen ∧ (Lit.int .i64 p).wf = true := by
  obtain ⟨xs, m, rfl, rfl, hl, hxs, hf⟩ := DataW.trod_struct Tryz.underlying45 h
  rw [cells45] at hl
  match cs, hl, xs, hxs with
  | [a, b, c], _, [x0, x1, x2], _ =>
    have h0 := hf 0 _ rfl
    have h1 := hf 1 _ rfl
    have h2 := hf 2 _ rfl
    simp [cellsI, cells9V] at h0 h1 h2
    obtain ⟨k, e0, rfl, wk⟩ := DataW.trod_int Tryz.underlying3 h0
    obtain ⟨p, e1, rfl, wp⟩ := DataW.trod_int Tryz.underlying3 h1
    obtain ⟨s, e2, rfl, ws⟩ := DataW.trod_string Tryz.underlying9 h2
    simp at e0 e1 e2
    subst e0 e1 e2
    exact ⟨k, p, s, rfl, rfl, ws, wp⟩
theorem open_vals {H : Type} {enc : TypeId × Value → H} {W : World} {base : Nat} {v : Value} {d : DataW H} {p : List MemPlace} (hval : Value.okWide Tryz.prog W .any base 59 v) (h : DataW.Trod enc Tryz.prog W 0 (fun _ => true) true 59 v d p) (hlt : ∀ x ∈ p, x.block < W.heap.size) :
    ∃ (a : Option Addr) (cap : Nat) (us : List Ca.TA), v = .slice a us.length cap ∧ (us.length ≤ maxLen ∧ (∀ t ∈ us, t.2.2.size ≤ maxLen) ∧ ∀ t ∈ us, (Lit.int .i64 t.2.1).wf = true) ∧ Ca.RVO W (.slice a us.length cap) us ∧ ∀ x ∈ p, ∃ xb xo, x = .cell xb xo := by
  obtain ⟨a1, len, cap, rfl⟩ := okWide_slice Tryz.underlying59 hval
  obtain ⟨fuel, hf⟩ := h
  rcases DataW.trod_slice Tryz.underlying59 hf with ⟨hcs, hx⟩ | ⟨a, len', cap', elems, rest, n, rfl, hcs, hx, _, hl, hm, hel, hE, hR, _⟩
  · simp [Value.cells] at hcs
    obtain ⟨rfl, rfl, rfl⟩ := hcs
    simp only [Prod.mk.injEq] at hx
    obtain ⟨rfl, rfl⟩ := hx
    exact ⟨none, 0, [], rfl, ⟨Nat.zero_le _, fun t h => by simp at h, fun t h => by simp at h⟩, ⟨none, 0, rfl, fun h => absurd h (by simp)⟩, fun _ h => by cases h⟩
  · simp [Value.cells] at hcs
    obtain ⟨rfl, rfl, rfl⟩ := hcs
    simp only [Prod.mk.injEq] at hx
    obtain ⟨rfl, rfl⟩ := hx
    rw [cells45] at hE hR hlt
    have hE' : ∀ i, i < len → ∃ t : Ca.TA, W.cells? 0 (a.add (i * 3)) 3 = some [.int .i64 t.1, .int .i64 t.2.1, .string t.2.2] ∧ (t.2.2.size ≤ maxLen ∧ (Lit.int .i64 t.2.1).wf = true) ∧ ∀ y, elems[i]? = some y → y.2 = [] := fun i hi => by
      have h1 := hE i hi
      rw [List.getElem?_eq_getElem (by omega)] at h1
      obtain ⟨cs, h2, h3⟩ := Option.bind_eq_some_iff.1 h1
      obtain ⟨k, q, s, rfl, e, hs⟩ := val_trod h3
      exact ⟨(k, q, s), h2, hs, fun y hy => by rw [List.getElem?_eq_getElem (by omega)] at hy; cases hy; exact e⟩
    obtain ⟨us, hul, hus⟩ := list_of _ len hE'
    subst hul
    have hrest : ∀ y ∈ rest, y.2 = [] := fun y hy => by
      obtain ⟨hr1, hr2⟩ := hR rfl
      obtain ⟨j, hj, rfl⟩ := List.getElem_of_mem hy
      have h1 := hr2 j (by omega)
      rw [List.getElem?_eq_getElem hj] at h1
      obtain ⟨cs, h2, h3⟩ := Option.bind_eq_some_iff.1 h1
      obtain ⟨k, q, s, rfl, e, hs⟩ := val_trod h3
      exact e
    have helem : ∀ y ∈ elems, y.2 = [] := fun y hy => by
      obtain ⟨j, hj, rfl⟩ := List.getElem_of_mem hy
      exact (hus j (by omega)).2.2 _ (List.getElem?_eq_getElem hj)
    refine ⟨some a, cap, us, rfl, ⟨by omega, fun t ht => ?_, fun t ht => ?_⟩, ⟨some a, cap, rfl, fun hp => ?_⟩, fun x hx => ?_⟩
    · obtain ⟨j, hj, rfl⟩ := List.getElem_of_mem ht
      exact (hus j hj).2.1.1
    · obtain ⟨j, hj, rfl⟩ := List.getElem_of_mem ht
      exact (hus j hj).2.1.2
    · have hc0 := (World.cells?_some (hus 0 hp).1)
      have hblk := World.cells?_block (hus 0 hp).1 (by omega)
      obtain ⟨ab, ao, spot⟩ := a
      have hspot : spot = none := by simpa [Addr.add] using World.cell?_spot ((hc0.2.2 0 (by omega)).trans rfl)
      subst hspot
      refine ⟨ab, ao, rfl, by simpa [Addr.add_lit] using hblk, fun i hi => ?_⟩
      obtain ⟨_, _, hc⟩ := World.cells?_some (hus i hi).1
      have q0 := hc 0 (by omega)
      have q1 := hc 1 (by omega)
      have q2 := hc 2 (by omega)
      rw [Addr.add_lit, Addr.add_lit] at q0 q1 q2
      exact ⟨q0, q1, q2⟩
    · rcases List.mem_append.1 hx with h | h
      · simp only [MemPlace.row, List.mem_map] at h
        obtain ⟨i, _, rfl⟩ := h
        exact ⟨_, _, rfl⟩
      · obtain ⟨y, hy, hxy⟩ := List.mem_flatMap.1 h
        rcases List.mem_append.1 hy with h | h
        · rw [helem y h] at hxy; cases hxy
        · rw [hrest y h] at hxy; cases hxy
theorem stayV {H : Type} {enc : TypeId × Value → H} {W W' : World} {v : Value} {d : DataW H} {p : List MemPlace} {sp : Nat → Bool} (h : DataW.Trod enc Tryz.prog W 0 (fun _ => true) true 59 v d p) (bel : Below W.heap.size W W') (hlt : ∀ x ∈ p, x.block < W.heap.size) (hcl : ∀ x ∈ p, ∃ xb xo, x = .cell xb xo) (hsp : ∀ x ∈ p, sp x.block = true) : DataW.Trod enc Tryz.prog W' 0 sp true 59 v d p :=
  WideElems.Trod_stays (P := Tryz.prog) laidOutP (by kernel_rfl) (of_decide_eq_true (by kernel_rfl)) h (fun x hx => by
    obtain ⟨xb, xo, rfl⟩ := hcl x hx
    exact bel.cell (p := ⟨xb, xo, none⟩) (hlt _ hx)) hsp
end Go.Proofs.YtdcdoeolaongkaaGreatDoor
