import Derived.Test.YtfgjleifhjegkaaDoorNB
import Derived.Test.YtfgjleifhjegkaaDoorKBV
namespace Go.Proofs.YtfgjleifhjegkaaDoor
open Go.ChangeShapes Go.WideShapes Go.ChangeAt Go.RowKit
set_option linter.unusedVariables false
set_option linter.unusedSimpArgs false
set_option maxRecDepth 100000
theorem pc_shorter (r : List Int) (n : Int) : (pcL r n).2.length ≤ r.length ∧ (pcL r n).1.length ≤ r.length := by
  unfold pcL
  split
  · rw [List.length_drop, List.length_take]; omega
  · simp
theorem good_mk {l r' : List Int} {p : VA × List Int} {k n : Int} {s : ByteArray} (he : p = (⟨k, n, s⟩, r')) (h1 : s.size ≤ l.length) (h2 : -9223372036854775808 ≤ n ∧ n ≤ 9223372036854775807) (h3 : Byt r') (h4 : r'.length ≤ l.length) : p.1.s.size ≤ l.length ∧ (-9223372036854775808 ≤ p.1.n ∧ p.1.n ≤ 9223372036854775807) ∧ Byt p.2 ∧ p.2.length ≤ l.length := by
  subst he
  exact ⟨h1, h2, h3, h4⟩
theorem vi_len' (r : List Int) : (viI r).2.length ≤ r.length := vi_len 10 0 0 r
theorem vi_byt' {r : List Int} (h : Byt r) : Byt (viI r).2 := vi_byt 10 0 0 r h
theorem noS_le (n : Nat) : noS.size ≤ n := Nat.zero_le n
theorem nums_le {l : List Int} {n : Nat} (h : l.length ≤ n) : (strOfNums l).size ≤ n := by rw [strNums_size]; exact h
theorem prI_good {l : List Int} (h : Byt l) : (prI l).1.s.size ≤ l.length ∧ (-9223372036854775808 ≤ (prI l).1.n ∧ (prI l).1.n ≤ 9223372036854775807) ∧ Byt (prI l).2 ∧ (prI l).2.length ≤ l.length := by
  obtain ⟨b, hpb⟩ : ∃ z, nmI (pcL l 1).1 = z := ⟨_, rfl⟩
  obtain ⟨r, hpr⟩ : ∃ z, (pcL l 1).2 = z := ⟨_, rfl⟩
  have hb : Byt r := by rw [← hpr]; exact (byt_pc h 1).2
  have hl : r.length ≤ l.length := by rw [← hpr]; exact (pc_shorter l 1).1
  by_cases h1 : b = 1 ∨ b = 2 ∨ b = 5
  · exact good_mk (prI_num h1 hpb hpr) (noS_le _) (unf_range (vi_range r)) (vi_byt' hb) (Nat.le_trans (vi_len' r) hl)
  by_cases h3 : b = 3
  · subst h3
    exact good_mk (prI_text hpb hpr) (nums_le (Nat.le_trans (pc_shorter _ _).2 (Nat.le_trans (vi_len' r) hl))) ⟨by decide, by decide⟩ (byt_pc (vi_byt' hb) _).2 (Nat.le_trans (pc_shorter _ _).1 (Nat.le_trans (vi_len' r) hl))
  by_cases h4 : b = 4
  · subst h4
    exact good_mk (prI_bool hpb hpr) (noS_le _) (nmI_range _) (byt_pc hb 1).2 (Nat.le_trans (pc_shorter _ _).1 hl)
  · exact good_mk (prI_other h1 h3 h4 hpb hpr) (noS_le _) ⟨by decide, by decide⟩ hb hl
/-- So many values of a row. -/
def grI : Nat → List Int → List VA
  | 0, _ => []
  | c + 1, l => (prI l).1 :: grI c (prI l).2
theorem grI_len : ∀ c l, (grI c l).length = c
  | 0, _ => rfl
  | c + 1, l => by rw [grI, List.length_cons, grI_len c]
theorem grI_good : ∀ (c : Nat) (l : List Int), Byt l → ∀ t ∈ grI c l, t.s.size ≤ l.length ∧ (-9223372036854775808 ≤ t.n ∧ t.n ≤ 9223372036854775807)
  | 0, l, _ => fun t ht => by cases ht
  | c + 1, l, hb => fun t ht => by
    have hg := prI_good hb
    have ih := grI_good c (prI l).2 hg.2.2.1
    rw [grI] at ht
    rcases List.mem_cons.1 ht with rfl | ht
    · exact ⟨hg.1, hg.2.1⟩
    · have := ih t ht
      exact ⟨by omega, this.2⟩
theorem pc_one_at (b : Int) (r : List Int) (h0 : 0 ≤ b) (h1 : b ≤ 255) : nmI (pcL (b :: r) 1).1 = b ∧ (pcL (b :: r) 1).2 = r := by
  rw [pc_one]
  exact ⟨nm_one h0 h1, rfl⟩
theorem pc_nat (l R : List Int) (n : Nat) (h : l.length = n) : pcL (l ++ R) (n : Int) = (l, R) := by
  unfold pcL
  rw [if_pos ⟨by omega, by rw [List.length_append]; omega⟩]
  have e : ((n : Int)).toNat = n := by omega
  rw [e, ← h, List.take_left, List.drop_left]
theorem prI_row (t : VA) (R : List Int) (hv : vok t.k t.n t.s = true) (hs : t.s.size ≤ 1048576) (h0 : -9223372036854775808 ≤ t.n) (h1 : t.n ≤ 9223372036854775807) : prI ((t.k :: rowP t.k t.n t.s) ++ R) = (t, R) := by
  obtain ⟨k, n, s⟩ := t
  simp only at *
  have hvk := vokK hv
  have hs0 := fun h => vok_size hv h
  unfold vok at hv
  rw [List.cons_append]
  have num : ∀ k : Int, (k = 1 ∨ k = 2 ∨ k = 5) → 0 ≤ k → k ≤ 255 → s.size = 0 → prI (k :: (rowP k n s ++ R)) = (⟨k, n, s⟩, R) := fun k hk ha hb hz => by
    have hp := pc_one_at k (rowP k n s ++ R) ha hb
    rw [prI_num hk hp.1 hp.2]
    have hr : rowP k n s = varF 9 (foldN n).toNat := by unfold rowP; rw [if_pos hk]
    obtain ⟨m, hm, hm64⟩ := foldN_nat h0 h1
    have hmt : (foldN n).toNat = m := by omega
    have hu : unfN m = n := by rw [← hmt]; exact unf_fold
    have hvi := vi_row m R hm64
    rw [hr, hmt, hvi]
    have hsn : s = noS := by
      apply Go.WideShapes.bytes_inj
      exact List.eq_nil_of_length_eq_zero (by rw [Array.length_toList]; exact hz)
    simp only [hu, hsn]
  rcases hvk with rfl | rfl | rfl | rfl | ⟨rfl, a, b⟩ | ⟨rfl, a, b⟩
  · simp at hv
    obtain ⟨rfl, hs⟩ := hv
    have := empty_of (s := s) (by simpa using hs)
    subst this
    have hr : rowP 0 0 noS = [] := by simp [rowP]
    rw [hr, List.nil_append]
    have hp := pc_one_at 0 R (by decide) (by decide)
    rw [prI_other (by decide) (by decide) (by decide) hp.1 hp.2]
  · exact num 1 (by decide) (by decide) (by decide) (hs0 (by decide))
  · exact num 2 (by decide) (by decide) (by decide) (hs0 (by decide))
  · simp at hv
    obtain ⟨rfl, _⟩ := hv
    have hr : rowP 3 0 s = varF 9 s.size ++ strI s := by simp [rowP]
    have hp := pc_one_at 3 (rowP 3 0 s ++ R) (by decide) (by decide)
    rw [prI_text hp.1 hp.2]
    have hvi := vi_row s.size (strI s ++ R) (by omega)
    rw [hr, List.append_assoc, hvi]
    have hw : wrap64 (s.size : Int) = (s.size : Int) := by simp only [wrap64]; omega
    have hpn := pc_nat (strI s) R s.size (strI_len s)
    simp only [hw, hpn, strNums_strI]
  · simp at hv
    have hs := empty_of (s := s) (by simpa using hv.1)
    subst hs
    have hr : rowP 4 n noS = [n] := by simp [rowP]
    have hp := pc_one_at 4 (rowP 4 n noS ++ R) (by decide) (by decide)
    rw [prI_bool hp.1 hp.2, hr, List.singleton_append, pc_one]
    simp only [nm_one (b := n) (by omega) (by omega)]
  · exact num 5 (by decide) (by decide) (by decide) (hs0 (by decide))
theorem grI_row : ∀ (us : List VA), (∀ t ∈ us, vok t.k t.n t.s = true) → (∀ t ∈ us, t.s.size ≤ 1048576) → GoV us → grI us.length (us.flatMap fun t => t.k :: rowP t.k t.n t.s) = us
  | [], _, _, _ => rfl
  | t :: r, hv, hs, hg => by
    have hn := hg t (List.mem_cons_self ..)
    have h := prI_row t (r.flatMap fun t => t.k :: rowP t.k t.n t.s) (hv t (List.mem_cons_self ..)) (hs t (List.mem_cons_self ..)) hn.1 hn.2
    rw [List.length_cons, grI, List.flatMap_cons, h]
    simp only
    rw [grI_row r (fun x hx => hv x (List.mem_cons_of_mem _ hx)) (fun x hx => hs x (List.mem_cons_of_mem _ hx)) (fun x hx => hg x (List.mem_cons_of_mem _ hx))]
theorem rowP_size {k n : Int} {s : ByteArray} (hv : vok k n s = true) : s.size ≤ (rowP k n s).length := by
  by_cases hk : k = 3
  · subst hk
    have e : rowP 3 n s = varF 9 s.size ++ strI s := by simp [rowP]
    rw [e, List.length_append, strI_len]
    omega
  · rw [vok_size hv hk]; omega
theorem row_sizes {us : List VA} (hv : valsB us = true) (hl : (rowL us).length ≤ 4000) : ∀ t ∈ us, t.s.size ≤ 1048576 := fun t ht => by
  have h1 := rowP_size ((valsB_at hv).2 t ht)
  have h2 := flat_mem (f := fun t => t.k :: rowP t.k t.n t.s) ht
  unfold rowL at hl
  rw [List.length_cons] at hl h2
  omega
theorem row_read {us : List VA} (hv : valsB us = true) (hg : GoV us) (hl : (rowL us).length ≤ 4000) : nmI (pcL (rowL us) 1).1 = us.length ∧ grI us.length (pcL (rowL us) 1).2 = us := by
  have h16 := (valsB_at hv).1
  have hp := pc_one_at (us.length : Int) (us.flatMap fun t => t.k :: rowP t.k t.n t.s) (by omega) (by omega)
  have e : rowL us = (us.length : Int) :: (us.flatMap fun t => t.k :: rowP t.k t.n t.s) := rfl
  rw [e]
  refine ⟨hp.1, ?_⟩
  rw [hp.2]
  exact grI_row us (valsB_at hv).2 (row_sizes hv hl) hg
theorem varF_byt : ∀ f n, n < 2 * 128 ^ f → Byt (varF f n)
  | 0, n, h => fun x hx => by simp [varF] at hx h; omega
  | f + 1, n, h => fun x hx => by
    by_cases hn : n < 128
    · rw [varF_small hn] at hx; simp at hx; omega
    · rw [varF_big hn] at hx
      rcases List.mem_cons.1 hx with rfl | hx
      · omega
      · exact varF_byt f (n / 128) (Nat.div_lt_of_lt_mul (by rw [Nat.pow_succ] at h; omega)) x hx
theorem rowL_byt {us : List VA} (hv : valsB us = true) (hg : GoV us) (hl : (rowL us).length ≤ 4000) : Byt (rowL us) := fun x hx => by
  have h16 := (valsB_at hv).1
  have e9 : 2 * 128 ^ 9 = 18446744073709551616 := by decide
  unfold rowL at hx
  rcases List.mem_cons.1 hx with rfl | hx
  · omega
  obtain ⟨t, ht, hxt⟩ := List.mem_flatMap.1 hx
  have hvt := (valsB_at hv).2 t ht
  have hst := row_sizes hv hl t ht
  have hgt := hg t ht
  have hk := vokK hvt
  rcases List.mem_cons.1 hxt with rfl | hxt
  · omega
  unfold rowP at hxt
  split at hxt
  · obtain ⟨m, hm, hm64⟩ := foldN_nat hgt.1 hgt.2
    have hmt : (foldN t.n).toNat = m := by omega
    rw [hmt] at hxt
    exact varF_byt 9 m (by rw [e9]; exact hm64) x hxt
  split at hxt
  · rcases List.mem_append.1 hxt with h | h
    · exact varF_byt 9 t.s.size (by rw [e9]; omega) x h
    · exact strI_byt t.s x h
  split at hxt
  · simp at hxt
    rcases hk with h | h | h | h | ⟨h, a, b⟩ | ⟨h, a, b⟩ <;> omega
  · cases hxt
/-- What RowValues tells. -/
def RvC (xs : List Int) (us : List VA) (c : Int) : Prop :=
  (valsB us = true ∧ GoV us ∧ (rowL us).length ≤ 4000 ∧ rowL us = xs ∧ c = 0) ∨ ((∀ vs, valsB vs = true → GoV vs → (rowL vs).length ≤ 4000 → rowL vs ≠ xs) ∧ us = [] ∧ c = 28)
theorem row_inj {us vs : List VA} (h1 : valsB us = true) (g1 : GoV us) (l1 : (rowL us).length ≤ 4000) (h2 : valsB vs = true) (g2 : GoV vs) (l2 : (rowL vs).length ≤ 4000) (he : rowL us = rowL vs) : us = vs := by
  have e1 := row_read h1 g1 l1
  have e2 := row_read h2 g2 l2
  have hl : us.length = vs.length := by
    unfold rowL at he
    rw [List.cons.injEq] at he
    omega
  rw [← e1.2, ← e2.2, he, hl]
theorem rvC_eq {xs : List Int} {us us' : List VA} {c c' : Int} (h : RvC xs us c) (h' : RvC xs us' c') : us = us' ∧ c = c' := by
  rcases h with ⟨a1, a2, a3, a4, rfl⟩ | ⟨a1, rfl, rfl⟩ <;> rcases h' with ⟨b1, b2, b3, b4, rfl⟩ | ⟨b1, rfl, rfl⟩
  · exact ⟨row_inj a1 a2 a3 b1 b2 b3 (a4.trans b4.symm), rfl⟩
  · exact absurd a4 (b1 us a1 a2 a3)
  · exact absurd b4 (a1 us' b1 b2 b3)
  · exact ⟨rfl, rfl⟩
def RvP (xs : List Int) (w : World) (e : Ending) (w' : World) : Prop := ∃ (v : Value) (c : Int) (us : List VA), e = .returned (.tuple #[v, .int .i64 c]) ∧ RSW 3 CV w.heap.size w' v us ∧ RvC xs us c ∧ Below w.heap.size w w'
theorem rvC_bv {xs : List Int} {us : List VA} {c : Int} (h : RvC xs us c) : BVS 1048576 us := by
  rcases h with ⟨a1, a2, a3, a4, rfl⟩ | ⟨_, rfl, rfl⟩
  · exact ⟨by have := (valsB_at a1).1; omega, fun t ht => row_sizes a1 a3 t ht⟩
  · exact ⟨by simp, fun t ht => by cases ht⟩
end Go.Proofs.YtfgjleifhjegkaaDoor
namespace Go.Proofs.YtfgjleifhjegkaaDoor
open Go.ChangeShapes Go.WideShapes Go.ChangeAt Go.RowKit
set_option linter.unusedVariables false
set_option linter.unusedSimpArgs false
set_option maxRecDepth 100000
theorem grI_zero (l : List Int) : grI 0 l = [] := rfl
theorem rowPart_step (B q : Nat) (v : Value) (l : List Int) (sh : Bool) (w : World) (hq : q < w.heap.size) (hB : B ≤ q) (hK : Blk w q [v, .bool sh]) (hv : YS B w v l) (hb : Byt l) :
    ∃ (t : VA) (l2 : List Int), Byt l2 ∧ (∀ c, grI (c + 1) l = t :: grI c l2) ∧ Calls Tryd.prog 45 #[.pointer (some ⟨q, 0, none⟩)] w fun e w' => PkP B q t l2 w e w' :=
  ⟨(prI l).1, (prI l).2, (prI_good hb).2.2.1, fun _ => rfl, rowPart_any B q v l sh w hq hB hK hv hb⟩
theorem row_start {xs : List Int} (hb : Byt xs) (hn : xs.length ≤ 1048576) : ∃ (cn : Nat) (l0 : List Int), nmI (pcL xs 1).1 = (cn : Int) ∧ (pcL xs 1).2 = l0 ∧ cn ≤ 255 ∧ Byt l0 ∧ (∀ vs, valsB vs = true → GoV vs → (rowL vs).length ≤ 4000 → rowL vs = xs → grI cn l0 = vs) ∧ BVS 1048576 (grI cn l0) ∧ GoV (grI cn l0) := by
  have hor := one_range hb
  have hus : ∀ vs, valsB vs = true → GoV vs → (rowL vs).length ≤ 4000 → rowL vs = xs → nmI (pcL xs 1).1 = (vs.length : Int) ∧ grI vs.length (pcL xs 1).2 = vs := fun vs h1 h2 h3 h4 => by
    have hr := row_read h1 h2 h3
    rw [h4] at hr
    exact hr
  have hby := (byt_pc hb 1).2
  have hll : (pcL xs 1).2.length ≤ 1048576 := Nat.le_trans (pc_shorter xs 1).1 hn
  generalize nmI (pcL xs 1).1 = z at *
  generalize (pcL xs 1).2 = l0 at *
  obtain ⟨cn, rfl⟩ : ∃ c : Nat, z = c := ⟨z.toNat, by omega⟩
  have hcb : cn ≤ 255 := by omega
  have hgd := grI_good cn l0 hby
  refine ⟨cn, l0, rfl, rfl, hcb, hby, fun vs h1 h2 h3 h4 => ?_, ⟨by rw [grI_len]; omega, fun t ht => ?_⟩, fun t ht => (hgd t ht).2⟩
  · have hr := hus vs h1 h2 h3 h4
    have hcl : cn = vs.length := by omega
    rw [hcl]
    exact hr.2
  · have := (hgd t ht).1
    unfold BV
    omega
theorem grI_on {cn k : Nat} {l0 l1 l2 : List Int} {us : List VA} {t : VA} (hk : k < cn) (hs : ∀ c, grI (c + 1) l1 = t :: grI c l2) (h : grI cn l0 = us ++ grI (cn - k) l1) : grI cn l0 = (us ++ [t]) ++ grI (cn - (k + 1)) l2 := by
  rw [h, show cn - k = (cn - (k + 1)) + 1 by omega, hs, List.append_assoc]
  rfl
end Go.Proofs.YtfgjleifhjegkaaDoor
