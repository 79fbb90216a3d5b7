import Derived.Test.YtfgjleifhjegkaaDoorRMr
import Derived.Test.YtfgjleifhjegkaaDoorMC
namespace Go.Proofs.YtfgjleifhjegkaaDoor
open Go.ChangeShapes Go.WideShapes Go.ChangeAt Go.RowKit
set_option linter.unusedVariables false
set_option linter.unusedSimpArgs false
set_option maxRecDepth 100000
theorem u64_mod (x : Nat) : IntKind.u64.wrap (x : Int) = ((x % 18446744073709551616 : Nat) : Int) := by
  rw [IntKind.wrap_u64, Int.natCast_emod]
  rfl
theorem rv_step {xs : List Int} {j n : Nat} (hj : j < 10) (hl : j < xs.length) (hn : n < 18446744073709551616) (hB : 0 ≤ xs[j] ∧ xs[j] ≤ 255) (he : rvI xs = rvF (10 - j) j n (xs.drop j)) :
    ∃ (x y n2 : Nat), xs[j] % 128 = (x : Int) ∧ x < 128 ∧ IntKind.u64.wrap ((x : Int) * ((128 ^ j % 18446744073709551616 : Nat) : Int)) = (y : Int) ∧ IntKind.u64.wrap ((n : Int) + (y : Int)) = (n2 : Int) ∧ n2 < 18446744073709551616 ∧ IntKind.u64.wrap (((128 ^ j % 18446744073709551616 : Nat) : Int) * 128) = ((128 ^ (j + 1) % 18446744073709551616 : Nat) : Int) ∧ (xs[j] < 128 → rvI xs = (n2, j + 1)) ∧ (¬ xs[j] < 128 → rvI xs = rvF (10 - (j + 1)) (j + 1) n2 (xs.drop (j + 1))) := by
  rw [List.drop_eq_getElem_cons hl, show 10 - j = (9 - j) + 1 by omega, rvF] at he
  generalize xs[j] = b at *
  obtain ⟨x, hx⟩ : ∃ x : Nat, b % 128 = x := ⟨(b % 128).toNat, by omega⟩
  have hxt : (b % 128).toNat = x := by omega
  have hx8 : x < 128 := by omega
  rw [hxt] at he
  generalize hu : 128 ^ j % 18446744073709551616 = u at *
  refine ⟨x, x * u % 18446744073709551616, (n + x * u % 18446744073709551616) % 18446744073709551616, hx, hx8, ?_, ?_, Nat.mod_lt _ (by decide), ?_, fun h => ?_, fun h => ?_⟩
  · rw [← Int.natCast_mul]; exact u64_mod _
  · rw [← Int.natCast_add]; exact u64_mod _
  · have h1 := u64_mod (u * 128)
    rw [Int.natCast_mul] at h1
    have h2 : u * 128 % 18446744073709551616 = 128 ^ (j + 1) % 18446744073709551616 := by rw [← hu, Nat.mod_mul_mod, Nat.pow_succ]
    rw [h2] at h1
    exact h1
  · rw [he, if_pos h]
  · rw [he, if_neg h, show 10 - (j + 1) = 9 - j by omega]
theorem rv_out {xs : List Int} {j n : Nat} (hj : 10 ≤ j ∨ xs.length ≤ j) (he : rvI xs = rvF (10 - j) j n (xs.drop j)) : rvI xs = (0, 0) := by
  rw [he]
  rcases hj with h | h
  · rw [show 10 - j = 0 by omega, rvF]
  · rw [List.drop_eq_nil_of_le h]
    cases 10 - j <;> rw [rvF]
set_option maxHeartbeats 4000000 in
theorem readVarint_spec (a : Option Addr) (ca : Nat) (xs : List Int) (w : World) (hn : xs.length ≤ 1048576) (hv : RS 1 CY 0 w (.slice a xs.length ca) xs) (hb : Byt xs) :
    Calls Tryd.prog 64 #[.slice a xs.length ca] w fun e w' => e = .returned (.tuple #[.int .u64 ((rvI xs).1 : Int), .int .i64 ((rvI xs).2 : Int)]) ∧ w' = w := by
  have HB := hid hb
  obtain ⟨a', ca', he, hva⟩ := hv
  simp only [Value.slice.injEq] at he
  obtain ⟨rfl, _, rfl⟩ := he
  have HVA := hid hva
  clear hb hva
  go_enter Tryd.func64, Tryd.ntmps64
  go_wp2
  go_loopw [4, 5, 6] (fun nv uv iv wr => ∃ (j n u : Nat), j ≤ xs.length ∧ j ≤ 10 ∧ iv = .int .i64 (j : Int) ∧ uv = .int .u64 (u : Int) ∧ nv = .int .u64 (n : Int) ∧ Hid (128 ^ j % 18446744073709551616 = u) ∧ Hid (n < 18446744073709551616) ∧ Hid (rvI xs = rvF (10 - j) j n (xs.drop j)) ∧ wr = w) (fun _ _ iv _ => 10 - (intOf iv).toNat)
  case atStart => exact ⟨0, 0, 1, Nat.zero_le _, by omega, rfl, rfl, rfl, (by decide : 128 ^ 0 % 18446744073709551616 = 1), (by decide : 0 < 18446744073709551616), (rfl : rvI xs = rvF (10 - 0) 0 0 (xs.drop 0)), rfl⟩
  case round =>
    obtain ⟨j, n, u, hjl, hj10, rfl, rfl, rfl, HU, HN, HE, hww⟩ := hrel
    replace hww := hww.symm
    subst hww
    by_cases hlt : j < xs.length
    · have hlti : (j : Int) < xs.length := by omega
      by_cases h10 : j < 10
      · have h10i : (j : Int) < 10 := by omega
        obtain ⟨g, o, rfl, _, hg, hgc⟩ := HVA.out (by omega)
        obtain ⟨cs, hC, hcell⟩ := hgc j hlt
        unfold CY at hC
        subst hC
        have c0 : w.cell? ⟨g, o + j, none⟩ = some (.int .u8 xs[j]) := by have := hcell 0 (by omega); rwa [Nat.mul_one, Nat.add_zero] at this
        have hx := HB.out xs[j] (List.getElem_mem hlt)
        obtain ⟨x, y, n2, hxe, hx8, hy, hn2, hn2b, hu2, hend, hgo⟩ := rv_step h10 hlt HN.out hx HE.out
        rw [HU.out] at hy hu2
        have HEND := hid hend
        have HGO := hid hgo
        have HN2 : Hid (n2 < 18446744073709551616) := hn2b
        clear hcell hgc HE HU HN hend hgo hn2b
        generalize xs[j] = b at *
        have hw1 : IntKind.u64.wrap (x : Int) = x := by simp only [IntKind.wrap_u64]; omega
        have ht1 : b.tmod 128 = x := by rw [Int.tmod_eq_emod_of_nonneg hx.1]; exact hxe
        obtain ⟨u2, hu2e⟩ : ∃ z, z = 128 ^ (j + 1) % 18446744073709551616 := ⟨_, rfl⟩
        rw [← hu2e] at hu2
        have HU2 : Hid (128 ^ (j + 1) % 18446744073709551616 = u2) := hu2e.symm
        clear hu2e
        by_cases hb128 : b < 128
        · have HR := hid (HEND.out hb128)
          clear HEND HGO HN2
          go_wp2
          refine bodyPost_ret (v := .tuple #[.int .u64 (n2 : Int), .int .i64 ((j + 1 : Nat) : Int)]) (by simp [results, Tryd.results64, go_sem]) rfl ⟨by rw [HR.out], rfl⟩
        · have HR := hid (HGO.out hb128)
          clear HEND HGO
          go_wp2
          go_roundw
          case rel => exact ⟨j + 1, n2, u2, by omega, by omega, by go_num, rfl, rfl, HU2, HN2, HR, by first | rfl | trivial⟩
          case measure => simp [intOf]; omega
      · have h10i : ¬ (j : Int) < 10 := by omega
        have HR := hid (rv_out (.inl (by omega)) HE.out)
        clear HE HU HN
        go_wp2
        refine bodyPost_ret (v := .tuple #[.int .u64 0, .int .i64 0]) (by simp [results, Tryd.results64, go_sem]) rfl ⟨by rw [HR.out]; rfl, rfl⟩
    · have hlti : ¬ (j : Int) < xs.length := by omega
      have HR := hid (rv_out (.inr (by omega)) HE.out)
      clear HE HU HN
      go_wp2
      refine bodyPost_ret (v := .tuple #[.int .u64 0, .int .i64 0]) (by simp [results, Tryd.results64, go_sem]) rfl ⟨by rw [HR.out]; rfl, rfl⟩
theorem unfold_spec (n : Nat) (w : World) (h : n < 18446744073709551616) :
    Calls Tryd.prog 65 #[.int .u64 (n : Int)] w fun e w' => e = .returned (.int .i64 (unfN n)) ∧ w' = w := by
  have hw : IntKind.i64.wrap ((n : Int) / 2) = (n : Int) / 2 := by simp only [IntKind.wrap_i64]; omega
  have hd : ((n : Int)).tdiv 2 = (n : Int) / 2 := Int.tdiv_eq_ediv_of_nonneg (by omega)
  have hm : ((n : Int)).tmod 2 = (n : Int) % 2 := Int.tmod_eq_emod_of_nonneg (by omega)
  by_cases ho : n % 2 = 1
  · have hoi : (n : Int) % 2 = 1 := by omega
    have HE : Hid (unfN n = -((n : Int) / 2) - 1) := (by unfold unfN; rw [if_pos ho]; omega : unfN n = -((n : Int) / 2) - 1)
    have hw2 : IntKind.i64.wrap (-((n : Int) / 2)) = -((n : Int) / 2) := by simp only [IntKind.wrap_i64]; omega
    have hw3 : IntKind.i64.wrap (-((n : Int) / 2) - 1) = -((n : Int) / 2) - 1 := by simp only [IntKind.wrap_i64]; omega
    go_enter Tryd.func65, Tryd.ntmps65
    go_wp2
    go_ret
    exact ⟨ret_i (by rw [HE.out]), rfl⟩
  · have hoi : (n : Int) % 2 = 0 := by omega
    have HE : Hid (unfN n = (n : Int) / 2) := (by unfold unfN; rw [if_neg ho]; omega : unfN n = (n : Int) / 2)
    go_enter Tryd.func65, Tryd.ntmps65
    go_wp2
    go_ret
    exact ⟨ret_i (by rw [HE.out]), rfl⟩
end Go.Proofs.YtfgjleifhjegkaaDoor
namespace Go.Proofs.YtfgjleifhjegkaaDoor
open Go.ChangeShapes Go.WideShapes Go.ChangeAt Go.RowKit
set_option linter.unusedVariables false
set_option linter.unusedSimpArgs false
set_option maxRecDepth 100000
def rstB : List Int → Option (VA × List Int)
  | [] => none
  | c :: q => some (⟨4, c, noS⟩, q)
theorem zero_ok : -9223372036854775808 ≤ (0 : Int) ∧ (0 : Int) ≤ 9223372036854775807 := by decide
/-- The value at the head of a row's rest, and what is left (the given way). -/
def rst : List Int → Option (VA × List Int)
  | [] => none
  | b :: r =>
    if b = 1 ∨ b = 2 ∨ b = 5 then (if (rvI r).2 = 0 then none else some (⟨b, unfN (rvI r).1, noS⟩, r.drop (rvI r).2))
    else if b = 3 then (if (rvI r).2 = 0 then none else if (r.drop (rvI r).2).length < (rvI r).1 then none else some (⟨3, 0, strOfNums ((r.drop (rvI r).2).take (rvI r).1)⟩, (r.drop (rvI r).2).drop (rvI r).1))
    else if b = 4 then rstB r
    else some (⟨b, 0, noS⟩, r)
theorem rst_numN {b : Int} {r : List Int} {n : Nat} (h : b = 1 ∨ b = 2 ∨ b = 5 ∨ b = 3) (hr : rvI r = (n, 0)) : rst (b :: r) = none := by
  by_cases h1 : b = 1 ∨ b = 2 ∨ b = 5
  · rw [rst, if_pos h1, hr, if_pos rfl]
  · have h3 : b = 3 := h.elim (fun e => absurd (.inl e) h1) fun h => h.elim (fun e => absurd (.inr (.inl e)) h1) fun h => h.elim (fun e => absurd (.inr (.inr e)) h1) id
    rw [rst, if_neg h1, if_pos h3, hr, if_pos rfl]
theorem rst_num {b : Int} {r : List Int} {n c : Nat} (h : b = 1 ∨ b = 2 ∨ b = 5) (hr : rvI r = (n, c)) (hc : c ≠ 0) : rst (b :: r) = some (⟨b, unfN n, noS⟩, r.drop c) := by
  rw [rst, if_pos h, hr, if_neg hc]
theorem rst_textN {r : List Int} {n c : Nat} (hr : rvI r = (n, c)) (hc : c ≠ 0) (hl : (r.drop c).length < n) : rst (3 :: r) = none := by
  rw [rst, if_neg (by decide), if_pos rfl, hr, if_neg hc, if_pos hl]
theorem rst_text {r : List Int} {n c : Nat} (hr : rvI r = (n, c)) (hc : c ≠ 0) (hl : ¬ (r.drop c).length < n) : rst (3 :: r) = some (⟨3, 0, strOfNums ((r.drop c).take n)⟩, (r.drop c).drop n) := by
  rw [rst, if_neg (by decide), if_pos rfl, hr, if_neg hc, if_neg hl]
theorem rst_boolN : rst [4] = none := by
  rw [rst, if_neg (by decide), if_neg (by decide), if_pos rfl, rstB]
theorem rst_bool (c : Int) (q : List Int) : rst (4 :: c :: q) = some (⟨4, c, noS⟩, q) := by
  rw [rst, if_neg (by decide), if_neg (by decide), if_pos rfl, rstB]
theorem rst_other {b : Int} {r : List Int} (h1 : ¬ (b = 1 ∨ b = 2 ∨ b = 5)) (h3 : b ≠ 3) (h4 : b ≠ 4) : rst (b :: r) = some (⟨b, 0, noS⟩, r) := by
  rw [rst, if_neg h1, if_neg h3, if_neg h4]
def rgS : Nat → List Int → List VA
  | 0, _ => []
  | f + 1, l => match rst l with
    | none => []
    | some p => p.1 :: rgS f p.2
theorem rgS_some {f : Nat} {l l2 : List Int} {t : VA} (h : rst l = some (t, l2)) : rgS (f + 1) l = t :: rgS f l2 := by
  rw [rgS, h]
theorem rgS_none {f : Nat} {l : List Int} (h : rst l = none) : rgS f l = [] := by
  cases f with
  | zero => rfl
  | succ f => rw [rgS, h]
theorem rgS_nil (f : Nat) : rgS f [] = [] := rgS_none rfl
/-- What a step gives. -/
def StOK (l : List Int) (t : VA) (l2 : List Int) : Prop := t.s.size ≤ l.length ∧ (-9223372036854775808 ≤ t.n ∧ t.n ≤ 9223372036854775807) ∧ Byt l2 ∧ l2.length < l.length
theorem rst_good {l : List Int} (hb : Byt l) : rst l = none ∨ ∃ t l2, rst l = some (t, l2) ∧ StOK l t l2 := by
  rcases l with _ | ⟨b, r⟩
  · exact .inl rfl
  have hr : Byt r := fun x hx => hb x (List.mem_cons_of_mem _ hx)
  obtain ⟨n, c, hrv⟩ : ∃ n c, rvI r = (n, c) := ⟨_, _, rfl⟩
  have hn : n < 18446744073709551616 := by have := rv_range r; rw [hrv] at this; exact this
  have hdl : (r.drop c).length ≤ r.length := by rw [List.length_drop]; omega
  by_cases h1 : b = 1 ∨ b = 2 ∨ b = 5
  · by_cases hc : c = 0
    · subst hc; exact .inl (rst_numN (h1.elim .inl fun h => h.elim (fun e => .inr (.inl e)) fun e => .inr (.inr (.inl e))) hrv)
    · exact .inr ⟨_, _, rst_num h1 hrv hc, noS_le _, unf_range hn, byt_drop hr c, by rw [List.length_cons]; omega⟩
  by_cases h3 : b = 3
  · subst h3
    by_cases hc : c = 0
    · subst hc; exact .inl (rst_numN (.inr (.inr (.inr rfl))) hrv)
    by_cases hl : (r.drop c).length < n
    · exact .inl (rst_textN hrv hc hl)
    · refine .inr ⟨_, _, rst_text hrv hc hl, nums_le (by rw [List.length_take, List.length_cons]; omega), zero_ok, byt_drop (byt_drop hr c) n, by rw [List.length_drop, List.length_cons]; omega⟩
  by_cases h4 : b = 4
  · subst h4
    rcases r with _ | ⟨c, q⟩
    · exact .inl rst_boolN
    · have hcb := hr c (List.mem_cons_self ..)
      exact .inr ⟨_, _, rst_bool c q, noS_le _, ⟨by simp only; omega, by simp only; omega⟩, fun x hx => hr x (List.mem_cons_of_mem _ hx), by simp only [List.length_cons]; omega⟩
  · exact .inr ⟨_, _, rst_other h1 h3 h4, noS_le _, zero_ok, hr, by rw [List.length_cons]; omega⟩
theorem rgS_good : ∀ (f : Nat) (l : List Int), Byt l → (rgS f l).length ≤ l.length ∧ ∀ t ∈ rgS f l, t.s.size ≤ l.length ∧ (-9223372036854775808 ≤ t.n ∧ t.n ≤ 9223372036854775807)
  | 0, l, _ => ⟨Nat.zero_le _, fun t ht => by cases ht⟩
  | f + 1, l, hb => by
    rcases rst_good hb with h | ⟨t, l2, h, h1, h2, h3, h4⟩
    · rw [rgS_none h]; exact ⟨Nat.zero_le _, fun t ht => by cases ht⟩
    · have ih := rgS_good f l2 h3
      rw [rgS_some h]
      refine ⟨by rw [List.length_cons]; omega, fun u hu => ?_⟩
      rcases List.mem_cons.1 hu with rfl | hu
      · exact ⟨h1, h2⟩
      · have := ih.2 u hu
        exact ⟨by omega, this.2⟩
theorem rst_row (t : VA) (R : List Int) (hv : vok t.k t.n t.s = true) (hs : t.s.size ≤ 1048576) (h0 : -9223372036854775808 ≤ t.n) (h1 : t.n ≤ 9223372036854775807) : rst ((t.k :: rowP t.k t.n t.s) ++ R) = some (t, R) := by
  obtain ⟨k, n, s⟩ := t
  simp only at *
  have hvk := vokK hv
  have hs0 := fun h => vok_size hv h
  unfold vok at hv
  rw [List.cons_append]
  have num : ∀ k : Int, (k = 1 ∨ k = 2 ∨ k = 5) → s.size = 0 → rst (k :: (rowP k n s ++ R)) = some (⟨k, n, s⟩, R) := fun k hk hz => by
    have hr : rowP k n s = varF 9 (foldN n).toNat := by unfold rowP; rw [if_pos hk]
    obtain ⟨m, hm, hm64⟩ := foldN_nat h0 h1
    have hmt : (foldN n).toNat = m := by omega
    have hu : unfN m = n := by rw [← hmt]; exact unf_fold
    have hvi := rv_row m R hm64
    have hvp := varF_pos 9 m
    rw [hr, hmt, rst_num hk hvi (by omega), hu, List.drop_left]
    have hsn : s = noS := by
      apply Go.WideShapes.bytes_inj
      exact List.eq_nil_of_length_eq_zero (by rw [Array.length_toList]; exact hz)
    rw [hsn]
  rcases hvk with rfl | rfl | rfl | rfl | ⟨rfl, a, b⟩ | ⟨rfl, a, b⟩
  · simp at hv
    obtain ⟨rfl, hs⟩ := hv
    have := empty_of (s := s) (by simpa using hs)
    subst this
    have hr : rowP 0 0 noS = [] := by simp [rowP]
    rw [hr, List.nil_append, rst_other (by decide) (by decide) (by decide)]
  · exact num 1 (by decide) (hs0 (by decide))
  · exact num 2 (by decide) (hs0 (by decide))
  · simp at hv
    obtain ⟨rfl, _⟩ := hv
    have hr : rowP 3 0 s = varF 9 s.size ++ strI s := by simp [rowP]
    have hvi := rv_row s.size (strI s ++ R) (by omega)
    have hvp := varF_pos 9 s.size
    have hsl := strI_len s
    rw [hr, List.append_assoc, rst_text hvi (by omega) (by rw [List.drop_left, List.length_append]; omega), List.drop_left, ← hsl, List.take_left, List.drop_left, strNums_strI]
  · simp at hv
    have hs := empty_of (s := s) (by simpa using hv.1)
    subst hs
    have hr : rowP 4 n noS = [n] := by simp [rowP]
    rw [hr, List.singleton_append, rst_bool]
  · exact num 5 (by decide) (hs0 (by decide))
theorem rgS_row : ∀ (us : List VA) (f : Nat), (∀ t ∈ us, vok t.k t.n t.s = true) → (∀ t ∈ us, t.s.size ≤ 1048576) → GoV us → (us.flatMap fun t => t.k :: rowP t.k t.n t.s).length ≤ f → rgS f (us.flatMap fun t => t.k :: rowP t.k t.n t.s) = us
  | [], f, _, _, _, _ => rgS_nil f
  | t :: r, f, hv, hs, hg, hf => by
    have hn := hg t (List.mem_cons_self ..)
    have h := rst_row t (r.flatMap fun t => t.k :: rowP t.k t.n t.s) (hv t (List.mem_cons_self ..)) (hs t (List.mem_cons_self ..)) hn.1 hn.2
    rw [List.flatMap_cons] at hf ⊢
    rw [List.length_append, List.length_cons] at hf
    cases f with
    | zero => omega
    | succ f =>
      rw [rgS_some h, rgS_row r f (fun x hx => hv x (List.mem_cons_of_mem _ hx)) (fun x hx => hs x (List.mem_cons_of_mem _ hx)) (fun x hx => hg x (List.mem_cons_of_mem _ hx)) (by omega)]
/-- The guess at a row's values. -/
def rgG (xs : List Int) : List VA := rgS xs.length (xs.drop 1)
theorem rgG_row {us : List VA} (hv : valsB us = true) (hg : GoV us) (hl : (rowL us).length ≤ 4000) : rgG (rowL us) = us := by
  unfold rgG rowL
  rw [List.drop_one, List.tail_cons]
  exact rgS_row us _ (valsB_at hv).2 (row_sizes hv hl) hg (by rw [List.length_cons]; omega)
theorem rgG_good {xs : List Int} (hb : Byt xs) : (rgG xs).length ≤ xs.length ∧ ∀ t ∈ rgG xs, t.s.size ≤ xs.length ∧ (-9223372036854775808 ≤ t.n ∧ t.n ≤ 9223372036854775807) := by
  have h := rgS_good xs.length (xs.drop 1) (byt_drop hb 1)
  rw [List.length_drop] at h
  exact ⟨by unfold rgG; omega, fun t ht => by have := h.2 t ht; exact ⟨by omega, this.2⟩⟩
/-- Cutting bytes off the front. -/
theorem ys_cut {B g o cap m : Nat} {w : World} {l : List Int} (h : YS B w (.slice (some ⟨g, o, none⟩) l.length cap) l) (hm : m ≤ l.length) : ∃ o', (if cap = m then (some ⟨g, o, none⟩ : Option Addr) else some ⟨g, o + m, none⟩) = some ⟨g, o', none⟩ ∧ YS B w (.slice (some ⟨g, o', none⟩) (l.length - m) (cap - m)) (l.drop m) := by
  obtain ⟨a, cap', he, h1, h2, h3⟩ := h
  simp only [Value.slice.injEq] at he
  obtain ⟨rfl, _, rfl⟩ := he
  rcases h3 with ⟨h, _⟩ | ⟨g', o', e, hg, hc⟩
  · cases h
  cases e
  by_cases hcm : cap = m
  · refine ⟨o, by rw [if_pos hcm], ?_⟩
    have : cap - m = 0 := by omega
    rw [this]
    exact ys_gone hg (by omega)
  · exact ⟨o + m, by rw [if_neg hcm], ys_drop hg hc hm h1 h2⟩
theorem ys_cell {B g o cap : Nat} {w : World} {y : Int} {l : List Int} (h : YS B w (.slice (some ⟨g, o, none⟩) (l.length + 1) cap) (y :: l)) : g < B ∧ w.cell? ⟨g, o, none⟩ = some (.int .u8 y) ∧ l.length + 1 ≤ cap := by
  obtain ⟨a, cap', he, h1, h2, h3⟩ := h
  simp only [Value.slice.injEq] at he
  obtain ⟨rfl, _, rfl⟩ := he
  rcases h3 with ⟨h, _⟩ | ⟨g', o', e, hg, hc⟩
  · cases h
  cases e
  have := hc 0 (by simp)
  exact ⟨hg, by simpa using this, h1⟩
theorem ys_some {B cap : Nat} {w : World} {a : Option Addr} {l : List Int} (h : YS B w (.slice a l.length cap) l) (hp : 0 < l.length) : ∃ g o, a = some ⟨g, o, none⟩ := by
  obtain ⟨a', cap', he, h1, h2, h3⟩ := h
  simp only [Value.slice.injEq] at he
  obtain ⟨rfl, _, rfl⟩ := he
  rcases h3 with ⟨_, h⟩ | ⟨g, o, rfl, _⟩
  · omega
  · exact ⟨g, o, rfl⟩
end Go.Proofs.YtfgjleifhjegkaaDoor
namespace Go.Proofs.YtfgjleifhjegkaaDoor
open Go.ChangeShapes Go.WideShapes Go.ChangeAt Go.RowKit
set_option linter.unusedVariables false
set_option linter.unusedSimpArgs false
set_option maxRecDepth 100000
set_option maxHeartbeats 16000000 in
theorem rowGuess_spec (a : Option Addr) (ca : Nat) (xs : List Int) (w : World) (hn : xs.length ≤ 1048576) (hcm : ca ≤ 1048576) (hb : Byt xs) (hv : YS w.heap.size w (.slice a xs.length ca) xs) :
    Calls Tryd.prog 43 #[.slice a xs.length ca] w fun e w' => (∃ v, e = .returned v ∧ VOut w.heap.size w' v (rgG xs)) ∧ Below w.heap.size w w' := by
  obtain ⟨i0, hi, hz0, hz1, hz2⟩ := info_parts infoV
  have HV0 : Hid (VOut w.heap.size (w.alloc (.cells #[] 39)) (.slice (some ⟨w.heap.size, 0, none⟩) 0 0) []) := World.ownsRow_made w #[] 0 (Nat.le_refl _) (by unfold maxLen; omega) (by simp)
  have bw0 : Below w.heap.size w (w.alloc (.cells #[] 39)) := below_alloc _ _
  have HB0 := hid hb
  have HR0 := hid hv
  clear hb hv
  go_enter Tryd.func43, Tryd.ntmps43
  rcases xs with _ | ⟨x0, xr⟩
  · have HE : Hid (rgG [] = []) := (rfl : rgG [] = [])
    go_wp2
    go_ret
    exact ⟨⟨_, rfl, by rw [HE.out]; exact HV0.out⟩, bw0⟩
  obtain ⟨G, hG⟩ : ∃ z, z = rgG (x0 :: xr) := ⟨_, rfl⟩
  have HG0 : Hid (G = rgS (xr.length + 1) xr) := (by rw [hG]; rfl : G = rgS (xr.length + 1) xr)
  rw [← hG]
  clear hG
  obtain ⟨g, o, rfl⟩ := ys_some HR0.out (by simp)
  obtain ⟨o1, ho1, hy1⟩ := ys_cut (m := 1) HR0.out (by simp)
  have HYS : Hid (YS w.heap.size w (.slice (some ⟨g, o1, none⟩) xr.length (ca - 1)) xr) := (by simpa using hy1 : YS w.heap.size w (.slice (some ⟨g, o1, none⟩) xr.length (ca - 1)) xr)
  have HBS : Hid (Byt xr) := (fun x hx => HB0.out x (List.mem_cons_of_mem _ hx) : Byt xr)
  have hca : xr.length + 1 ≤ ca := (ys_cell HR0.out).2.2
  simp only [List.length_cons] at hn ⊢
  have hne : ((xr.length + 1 : Nat) : Int) ≠ 0 := by omega
  have hne2 : (((xr.length : Int) + 1) == 0) = false := by simp; omega
  clear hy1 HR0 HB0
  go_wp2
  go_loopw [0, 3] (fun bv v wr => ∃ (f bc oc : Nat) (ys : List Int) (acc : List VA) (ba oa : Option Addr), bv = .slice ba ys.length bc ∧ v = .slice oa acc.length oc ∧ ys.length ≤ f ∧ bc ≤ 1048576 ∧ acc.length + ys.length ≤ xr.length ∧ Hid (G = acc ++ rgS f ys) ∧ Hid (Byt ys) ∧ Hid (YS w.heap.size w (.slice ba ys.length bc) ys) ∧ Hid (VOut w.heap.size wr (.slice oa acc.length oc) acc) ∧ Below w.heap.size w wr) (fun bv _ _ => slen bv)
  case atStart => exact ⟨xr.length + 1, ca - 1, 0, xr, [], _, _, by first | rfl | (simp; done), rfl, by omega, by omega, by simp, (by rw [HG0.out]; rfl : G = [] ++ rgS (xr.length + 1) xr), HBS, HYS, HV0, bw0⟩
  case round =>
    clear HV0 bw0 HBS HYS HG0 hne hne2 ho1 hca hcm
    obtain ⟨f, bc, oc, ys, acc, ba, oa, rfl, rfl, hf, hbm, hal, HG, HB, HY, HV, hb⟩ := hrel
    have hbs := hb.size
    rcases ys with _ | ⟨y0, yr⟩
    · have HE : Hid (VOut w.heap.size wr (.slice oa acc.length oc) G) := (by have := HG.out; rw [rgS_nil, List.append_nil] at this; rw [this]; exact HV.out : VOut w.heap.size wr (.slice oa acc.length oc) G)
      clear HG HV
      go_wp2
      go_ret
      exact ⟨⟨_, rfl, HE.out⟩, hb⟩
    · obtain ⟨g, o, rfl⟩ := ys_some HY.out (by simp)
      obtain ⟨o1, ho1, hy1⟩ := ys_cut (m := 1) HY.out (by simp)
      obtain ⟨hgB, hc0, hcap⟩ := ys_cell HY.out
      have c0 : wr.cell? ⟨g, o, none⟩ = some (.int .u8 y0) := (hb.cell (p := ⟨g, o, none⟩) hgB).trans hc0
      obtain ⟨bc1, hbc1⟩ : ∃ z, bc - 1 = z := ⟨_, rfl⟩
      rw [hbc1] at hy1
      have HY1 : Hid (YS w.heap.size w (.slice (some ⟨g, o1, none⟩) yr.length bc1) yr) := (by simpa using hy1 : YS w.heap.size w (.slice (some ⟨g, o1, none⟩) yr.length bc1) yr)
      have hy0 := HB.out y0 (List.mem_cons_self ..)
      have HBR : Hid (Byt yr) := (fun x hx => HB.out x (List.mem_cons_of_mem _ hx) : Byt yr)
      have hwq : IntKind.i64.wrap y0 = y0 := by simp only [IntKind.wrap_i64]; omega
      simp only [List.length_cons] at hf hal ⊢
      obtain ⟨f, rfl⟩ : ∃ q, f = q + 1 := ⟨f - 1, by omega⟩
      have HLT := hid (World.ownsRow.lt HV.out)
      have hgr : g < wr.heap.size := by omega
      have hpos : (0 : Int) < (yr.length : Int) + 1 := by omega
      have hb1m : bc1 ≤ 1048576 := by omega
      have hyl : yr.length ≤ 1048576 := by omega
      clear hc0 hy1 HY HB hcap
      by_cases k1 : y0 = 1
      · subst k1
        obtain ⟨n, c, hrv⟩ : ∃ n c, rvI yr = (n, c) := ⟨_, _, rfl⟩
        have hrc := readVarint_spec (some ⟨g, o1, none⟩) bc1 yr (wr.alloc (.cells #[.int .i64 1, .int .i64 0, .string ⟨#[]⟩] 39)) hyl ((HY1.out.same (fun g' j hg => (hb.trans ((below_alloc wr (.cells #[.int .i64 1, .int .i64 0, .string ⟨#[]⟩] 39)).mono hbs)).cell (p := ⟨g', j, none⟩) hg)).rs (by simp; omega)) HBR.out
        rw [hrv] at hrc
        have hn64 : n < 18446744073709551616 := by have := rv_range yr; rw [hrv] at this; exact this
        have hcn : c = 0 ∨ (0 < c ∧ c ≤ yr.length) := by have := rv_cnt 10 0 0 yr; unfold rvI at hrv; rw [hrv] at this; simpa using this
        have HRV := hid hrv
        clear hrv
        by_cases hc : c = 0
        · subst hc
          have HST : Hid (rst (1 :: yr) = none) := rst_numN (by decide) HRV.out
          have HE : Hid (VOut w.heap.size (wr.alloc (.cells #[.int .i64 1, .int .i64 0, .string ⟨#[]⟩] 39)) (.slice oa acc.length oc) G) := (by
            rw [HG.out, rgS_none HST.out, List.append_nil]; exact World.ownsRow.alloc HV.out _ : VOut w.heap.size (wr.alloc (.cells #[.int .i64 1, .int .i64 0, .string ⟨#[]⟩] 39)) (.slice oa acc.length oc) G)
          have bwx : Below w.heap.size w (wr.alloc (.cells #[.int .i64 1, .int .i64 0, .string ⟨#[]⟩] 39)) := hb.alloc hbs _
          clear HG HST HV HLT
          go_wp2_with (go_at_call 64; fail)
          refine hrc.mono ?_
          rintro e w1 ⟨rfl, hww⟩
          replace hww := hww.symm
          subst hww
          clear hrc
          go_wp2
          go_ret
          exact ⟨⟨_, rfl, HE.out⟩, bwx⟩
        · have hc0 : ((c : Int) == 0) = false := by simp; omega
          have hcl : c ≤ yr.length := by omega
          have hcli : (c : Int) ≤ yr.length := by omega
          have hus := fun W => unfold_spec n W hn64
          have HN64 := hid hn64
          obtain ⟨o2, ho_o2, hy2⟩ := ys_cut (m := c) HY1.out (by omega)
          obtain ⟨zr, hl2e⟩ : ∃ z, yr.drop c = z := ⟨_, rfl⟩
          obtain ⟨bc2, hb_bc2⟩ : ∃ z, bc1 - c = z := ⟨_, rfl⟩
          have hl_zr : yr.length - c = zr.length := by rw [← hl2e, List.length_drop]
          obtain ⟨N, hN⟩ : ∃ z, unfN n = z := ⟨_, rfl⟩
          rw [hN] at hus
          have HST : Hid (rst (1 :: yr) = some (⟨1, N, ⟨#[]⟩⟩, zr)) := (by rw [rst_num (by decide) HRV.out hc, hN, hl2e]; rfl : rst (1 :: yr) = some (⟨1, N, ⟨#[]⟩⟩, zr))
          have HBD : Hid (Byt zr) := (by rw [← hl2e]; exact byt_drop HBR.out c : Byt zr)
          have HYD : Hid (YS w.heap.size w (.slice (some ⟨g, o2, none⟩) zr.length bc2) zr) := (by rw [← hl_zr, ← hb_bc2, ← hl2e]; exact hy2 : YS w.heap.size w (.slice (some ⟨g, o2, none⟩) zr.length bc2) zr)
          clear hN hl2e hy2 HY1 hn64 HN64 hcn
          have HVA : Hid (VOut w.heap.size ((wr.alloc (.cells #[.int .i64 1, .int .i64 N, .string ⟨#[]⟩] 39)).alloc (.cells #[.int .i64 1, .int .i64 N, .string ⟨#[]⟩] 39)) (.slice oa acc.length oc) acc) := World.ownsRow.alloc (World.ownsRow.alloc HV.out _) _
          have hbw : Below w.heap.size w ((wr.alloc (.cells #[.int .i64 1, .int .i64 N, .string ⟨#[]⟩] 39)).alloc (.cells #[.int .i64 1, .int .i64 N, .string ⟨#[]⟩] 39)) := (hb.alloc hbs _).alloc (by simp; omega) _
          have HCA : Hid (∀ j u, (vcs ⟨1, N, ⟨#[]⟩⟩)[j]? = some u → ((wr.alloc (.cells #[.int .i64 1, .int .i64 N, .string ⟨#[]⟩] 39)).alloc (.cells #[.int .i64 1, .int .i64 N, .string ⟨#[]⟩] 39)).cell? ((⟨wr.heap.size + 1, 0, none⟩ : Addr).add j) = some u) := (by
            have := (blk_new (wr.alloc (.cells #[.int .i64 1, .int .i64 N, .string ⟨#[]⟩] 39)) (vcs ⟨1, N, ⟨#[]⟩⟩) 39).cells
            simpa [vcs] using this : ∀ j u, (vcs ⟨1, N, ⟨#[]⟩⟩)[j]? = some u → ((wr.alloc (.cells #[.int .i64 1, .int .i64 N, .string ⟨#[]⟩] 39)).alloc (.cells #[.int .i64 1, .int .i64 N, .string ⟨#[]⟩] 39)).cell? ((⟨wr.heap.size + 1, 0, none⟩ : Addr).add j) = some u)
          have HF : Hid (G = (acc ++ [(⟨1, N, ⟨#[]⟩⟩ : VA)]) ++ rgS f zr) := (by
            rw [HG.out, rgS_some HST.out]; simp : G = (acc ++ [(⟨1, N, ⟨#[]⟩⟩ : VA)]) ++ rgS f zr)
          clear HG HST
          go_wp2_with (go_at_call 64; fail)
          refine hrc.mono ?_
          rintro e w1 ⟨rfl, hww⟩
          replace hww := hww.symm
          subst hww
          clear hrc
          go_wp2_with (go_at_call 65; fail)
          refine (hus _).mono ?_
          rintro e w1 ⟨rfl, hww⟩
          replace hww := hww.symm
          subst hww
          clear hus
          go_wp2_with (first
            | (at_builtin
               refine wpList_append_own _ rfl (.tmp 77) (.tmp 79) 27 rfl w.heap.size 39 i0 _ 3 32 Tryd.underlying27 hi hz0 hz1 hz2 rfl (by decide) _ _ _ rfl HVA.out ⟨wr.heap.size + 1, 0, none⟩ 1 1 (vcs ⟨1, N, ⟨#[]⟩⟩) rfl rfl HCA.out (by intro u hu; simp [vcs] at hu; rcases hu with rfl | rfl | rfl <;> rfl) (by unfold maxLen; omega) (by omega) (by simp; omega) ?_
               intro v2 w2 hown2 hgrow2 hiff2
               clear hiff2
               have b2 : Below w.heap.size w w2 := hbw.grown hgrow2 hbw.size (fun j hj => (HLT.out j hj).1)
               have HR2 := hid (VOut.push hown2)
               obtain ⟨oa2, oc2, rfl⟩ := HR2.out.form
               have hl2 : (acc ++ [(⟨1, N, ⟨#[]⟩⟩ : VA)]).length ≤ acc.length + 1 := by simp
               obtain ⟨acc2, hac⟩ : ∃ l, l = acc ++ [(⟨1, N, ⟨#[]⟩⟩ : VA)] := ⟨_, rfl⟩
               rw [← hac] at HR2 hl2 ⊢
               rw [← hac] at HF
               clear hown2 hgrow2 hac HLT hbw HVA HCA HV))
          go_roundw
          case rel => exact ⟨f, bc2, oc2, zr, acc2, some ⟨g, o2, none⟩, oa2, by first | rfl | (simp; done) | go_num, rfl, by omega, by omega, by omega, HF, HBD, HYD, HR2, b2⟩
          case measure => simp [slen]; try omega
      by_cases k2 : y0 = 2
      · subst k2
        obtain ⟨n, c, hrv⟩ : ∃ n c, rvI yr = (n, c) := ⟨_, _, rfl⟩
        have hrc := readVarint_spec (some ⟨g, o1, none⟩) bc1 yr (wr.alloc (.cells #[.int .i64 2, .int .i64 0, .string ⟨#[]⟩] 39)) hyl ((HY1.out.same (fun g' j hg => (hb.trans ((below_alloc wr (.cells #[.int .i64 2, .int .i64 0, .string ⟨#[]⟩] 39)).mono hbs)).cell (p := ⟨g', j, none⟩) hg)).rs (by simp; omega)) HBR.out
        rw [hrv] at hrc
        have hn64 : n < 18446744073709551616 := by have := rv_range yr; rw [hrv] at this; exact this
        have hcn : c = 0 ∨ (0 < c ∧ c ≤ yr.length) := by have := rv_cnt 10 0 0 yr; unfold rvI at hrv; rw [hrv] at this; simpa using this
        have HRV := hid hrv
        clear hrv
        by_cases hc : c = 0
        · subst hc
          have HST : Hid (rst (2 :: yr) = none) := rst_numN (by decide) HRV.out
          have HE : Hid (VOut w.heap.size (wr.alloc (.cells #[.int .i64 2, .int .i64 0, .string ⟨#[]⟩] 39)) (.slice oa acc.length oc) G) := (by
            rw [HG.out, rgS_none HST.out, List.append_nil]; exact World.ownsRow.alloc HV.out _ : VOut w.heap.size (wr.alloc (.cells #[.int .i64 2, .int .i64 0, .string ⟨#[]⟩] 39)) (.slice oa acc.length oc) G)
          have bwx : Below w.heap.size w (wr.alloc (.cells #[.int .i64 2, .int .i64 0, .string ⟨#[]⟩] 39)) := hb.alloc hbs _
          clear HG HST HV HLT
          go_wp2_with (go_at_call 64; fail)
          refine hrc.mono ?_
          rintro e w1 ⟨rfl, hww⟩
          replace hww := hww.symm
          subst hww
          clear hrc
          go_wp2
          go_ret
          exact ⟨⟨_, rfl, HE.out⟩, bwx⟩
        · have hc0 : ((c : Int) == 0) = false := by simp; omega
          have hcl : c ≤ yr.length := by omega
          have hcli : (c : Int) ≤ yr.length := by omega
          have hus := fun W => unfold_spec n W hn64
          have HN64 := hid hn64
          obtain ⟨o2, ho_o2, hy2⟩ := ys_cut (m := c) HY1.out (by omega)
          obtain ⟨zr, hl2e⟩ : ∃ z, yr.drop c = z := ⟨_, rfl⟩
          obtain ⟨bc2, hb_bc2⟩ : ∃ z, bc1 - c = z := ⟨_, rfl⟩
          have hl_zr : yr.length - c = zr.length := by rw [← hl2e, List.length_drop]
          obtain ⟨N, hN⟩ : ∃ z, unfN n = z := ⟨_, rfl⟩
          rw [hN] at hus
          have HST : Hid (rst (2 :: yr) = some (⟨2, N, ⟨#[]⟩⟩, zr)) := (by rw [rst_num (by decide) HRV.out hc, hN, hl2e]; rfl : rst (2 :: yr) = some (⟨2, N, ⟨#[]⟩⟩, zr))
          have HBD : Hid (Byt zr) := (by rw [← hl2e]; exact byt_drop HBR.out c : Byt zr)
          have HYD : Hid (YS w.heap.size w (.slice (some ⟨g, o2, none⟩) zr.length bc2) zr) := (by rw [← hl_zr, ← hb_bc2, ← hl2e]; exact hy2 : YS w.heap.size w (.slice (some ⟨g, o2, none⟩) zr.length bc2) zr)
          clear hN hl2e hy2 HY1 hn64 HN64 hcn
          have HVA : Hid (VOut w.heap.size ((wr.alloc (.cells #[.int .i64 2, .int .i64 N, .string ⟨#[]⟩] 39)).alloc (.cells #[.int .i64 2, .int .i64 N, .string ⟨#[]⟩] 39)) (.slice oa acc.length oc) acc) := World.ownsRow.alloc (World.ownsRow.alloc HV.out _) _
          have hbw : Below w.heap.size w ((wr.alloc (.cells #[.int .i64 2, .int .i64 N, .string ⟨#[]⟩] 39)).alloc (.cells #[.int .i64 2, .int .i64 N, .string ⟨#[]⟩] 39)) := (hb.alloc hbs _).alloc (by simp; omega) _
          have HCA : Hid (∀ j u, (vcs ⟨2, N, ⟨#[]⟩⟩)[j]? = some u → ((wr.alloc (.cells #[.int .i64 2, .int .i64 N, .string ⟨#[]⟩] 39)).alloc (.cells #[.int .i64 2, .int .i64 N, .string ⟨#[]⟩] 39)).cell? ((⟨wr.heap.size + 1, 0, none⟩ : Addr).add j) = some u) := (by
            have := (blk_new (wr.alloc (.cells #[.int .i64 2, .int .i64 N, .string ⟨#[]⟩] 39)) (vcs ⟨2, N, ⟨#[]⟩⟩) 39).cells
            simpa [vcs] using this : ∀ j u, (vcs ⟨2, N, ⟨#[]⟩⟩)[j]? = some u → ((wr.alloc (.cells #[.int .i64 2, .int .i64 N, .string ⟨#[]⟩] 39)).alloc (.cells #[.int .i64 2, .int .i64 N, .string ⟨#[]⟩] 39)).cell? ((⟨wr.heap.size + 1, 0, none⟩ : Addr).add j) = some u)
          have HF : Hid (G = (acc ++ [(⟨2, N, ⟨#[]⟩⟩ : VA)]) ++ rgS f zr) := (by
            rw [HG.out, rgS_some HST.out]; simp : G = (acc ++ [(⟨2, N, ⟨#[]⟩⟩ : VA)]) ++ rgS f zr)
          clear HG HST
          go_wp2_with (go_at_call 64; fail)
          refine hrc.mono ?_
          rintro e w1 ⟨rfl, hww⟩
          replace hww := hww.symm
          subst hww
          clear hrc
          go_wp2_with (go_at_call 65; fail)
          refine (hus _).mono ?_
          rintro e w1 ⟨rfl, hww⟩
          replace hww := hww.symm
          subst hww
          clear hus
          go_wp2_with (first
            | (at_builtin
               refine wpList_append_own _ rfl (.tmp 77) (.tmp 79) 27 rfl w.heap.size 39 i0 _ 3 32 Tryd.underlying27 hi hz0 hz1 hz2 rfl (by decide) _ _ _ rfl HVA.out ⟨wr.heap.size + 1, 0, none⟩ 1 1 (vcs ⟨2, N, ⟨#[]⟩⟩) rfl rfl HCA.out (by intro u hu; simp [vcs] at hu; rcases hu with rfl | rfl | rfl <;> rfl) (by unfold maxLen; omega) (by omega) (by simp; omega) ?_
               intro v2 w2 hown2 hgrow2 hiff2
               clear hiff2
               have b2 : Below w.heap.size w w2 := hbw.grown hgrow2 hbw.size (fun j hj => (HLT.out j hj).1)
               have HR2 := hid (VOut.push hown2)
               obtain ⟨oa2, oc2, rfl⟩ := HR2.out.form
               have hl2 : (acc ++ [(⟨2, N, ⟨#[]⟩⟩ : VA)]).length ≤ acc.length + 1 := by simp
               obtain ⟨acc2, hac⟩ : ∃ l, l = acc ++ [(⟨2, N, ⟨#[]⟩⟩ : VA)] := ⟨_, rfl⟩
               rw [← hac] at HR2 hl2 ⊢
               rw [← hac] at HF
               clear hown2 hgrow2 hac HLT hbw HVA HCA HV))
          go_roundw
          case rel => exact ⟨f, bc2, oc2, zr, acc2, some ⟨g, o2, none⟩, oa2, by first | rfl | (simp; done) | go_num, rfl, by omega, by omega, by omega, HF, HBD, HYD, HR2, b2⟩
          case measure => simp [slen]; try omega
      by_cases k5 : y0 = 5
      · subst k5
        obtain ⟨n, c, hrv⟩ : ∃ n c, rvI yr = (n, c) := ⟨_, _, rfl⟩
        have hrc := readVarint_spec (some ⟨g, o1, none⟩) bc1 yr (wr.alloc (.cells #[.int .i64 5, .int .i64 0, .string ⟨#[]⟩] 39)) hyl ((HY1.out.same (fun g' j hg => (hb.trans ((below_alloc wr (.cells #[.int .i64 5, .int .i64 0, .string ⟨#[]⟩] 39)).mono hbs)).cell (p := ⟨g', j, none⟩) hg)).rs (by simp; omega)) HBR.out
        rw [hrv] at hrc
        have hn64 : n < 18446744073709551616 := by have := rv_range yr; rw [hrv] at this; exact this
        have hcn : c = 0 ∨ (0 < c ∧ c ≤ yr.length) := by have := rv_cnt 10 0 0 yr; unfold rvI at hrv; rw [hrv] at this; simpa using this
        have HRV := hid hrv
        clear hrv
        by_cases hc : c = 0
        · subst hc
          have HST : Hid (rst (5 :: yr) = none) := rst_numN (by decide) HRV.out
          have HE : Hid (VOut w.heap.size (wr.alloc (.cells #[.int .i64 5, .int .i64 0, .string ⟨#[]⟩] 39)) (.slice oa acc.length oc) G) := (by
            rw [HG.out, rgS_none HST.out, List.append_nil]; exact World.ownsRow.alloc HV.out _ : VOut w.heap.size (wr.alloc (.cells #[.int .i64 5, .int .i64 0, .string ⟨#[]⟩] 39)) (.slice oa acc.length oc) G)
          have bwx : Below w.heap.size w (wr.alloc (.cells #[.int .i64 5, .int .i64 0, .string ⟨#[]⟩] 39)) := hb.alloc hbs _
          clear HG HST HV HLT
          go_wp2_with (go_at_call 64; fail)
          refine hrc.mono ?_
          rintro e w1 ⟨rfl, hww⟩
          replace hww := hww.symm
          subst hww
          clear hrc
          go_wp2
          go_ret
          exact ⟨⟨_, rfl, HE.out⟩, bwx⟩
        · have hc0 : ((c : Int) == 0) = false := by simp; omega
          have hcl : c ≤ yr.length := by omega
          have hcli : (c : Int) ≤ yr.length := by omega
          have hus := fun W => unfold_spec n W hn64
          have HN64 := hid hn64
          obtain ⟨o2, ho_o2, hy2⟩ := ys_cut (m := c) HY1.out (by omega)
          obtain ⟨zr, hl2e⟩ : ∃ z, yr.drop c = z := ⟨_, rfl⟩
          obtain ⟨bc2, hb_bc2⟩ : ∃ z, bc1 - c = z := ⟨_, rfl⟩
          have hl_zr : yr.length - c = zr.length := by rw [← hl2e, List.length_drop]
          obtain ⟨N, hN⟩ : ∃ z, unfN n = z := ⟨_, rfl⟩
          rw [hN] at hus
          have HST : Hid (rst (5 :: yr) = some (⟨5, N, ⟨#[]⟩⟩, zr)) := (by rw [rst_num (by decide) HRV.out hc, hN, hl2e]; rfl : rst (5 :: yr) = some (⟨5, N, ⟨#[]⟩⟩, zr))
          have HBD : Hid (Byt zr) := (by rw [← hl2e]; exact byt_drop HBR.out c : Byt zr)
          have HYD : Hid (YS w.heap.size w (.slice (some ⟨g, o2, none⟩) zr.length bc2) zr) := (by rw [← hl_zr, ← hb_bc2, ← hl2e]; exact hy2 : YS w.heap.size w (.slice (some ⟨g, o2, none⟩) zr.length bc2) zr)
          clear hN hl2e hy2 HY1 hn64 HN64 hcn
          have HVA : Hid (VOut w.heap.size ((wr.alloc (.cells #[.int .i64 5, .int .i64 N, .string ⟨#[]⟩] 39)).alloc (.cells #[.int .i64 5, .int .i64 N, .string ⟨#[]⟩] 39)) (.slice oa acc.length oc) acc) := World.ownsRow.alloc (World.ownsRow.alloc HV.out _) _
          have hbw : Below w.heap.size w ((wr.alloc (.cells #[.int .i64 5, .int .i64 N, .string ⟨#[]⟩] 39)).alloc (.cells #[.int .i64 5, .int .i64 N, .string ⟨#[]⟩] 39)) := (hb.alloc hbs _).alloc (by simp; omega) _
          have HCA : Hid (∀ j u, (vcs ⟨5, N, ⟨#[]⟩⟩)[j]? = some u → ((wr.alloc (.cells #[.int .i64 5, .int .i64 N, .string ⟨#[]⟩] 39)).alloc (.cells #[.int .i64 5, .int .i64 N, .string ⟨#[]⟩] 39)).cell? ((⟨wr.heap.size + 1, 0, none⟩ : Addr).add j) = some u) := (by
            have := (blk_new (wr.alloc (.cells #[.int .i64 5, .int .i64 N, .string ⟨#[]⟩] 39)) (vcs ⟨5, N, ⟨#[]⟩⟩) 39).cells
            simpa [vcs] using this : ∀ j u, (vcs ⟨5, N, ⟨#[]⟩⟩)[j]? = some u → ((wr.alloc (.cells #[.int .i64 5, .int .i64 N, .string ⟨#[]⟩] 39)).alloc (.cells #[.int .i64 5, .int .i64 N, .string ⟨#[]⟩] 39)).cell? ((⟨wr.heap.size + 1, 0, none⟩ : Addr).add j) = some u)
          have HF : Hid (G = (acc ++ [(⟨5, N, ⟨#[]⟩⟩ : VA)]) ++ rgS f zr) := (by
            rw [HG.out, rgS_some HST.out]; simp : G = (acc ++ [(⟨5, N, ⟨#[]⟩⟩ : VA)]) ++ rgS f zr)
          clear HG HST
          go_wp2_with (go_at_call 64; fail)
          refine hrc.mono ?_
          rintro e w1 ⟨rfl, hww⟩
          replace hww := hww.symm
          subst hww
          clear hrc
          go_wp2_with (go_at_call 65; fail)
          refine (hus _).mono ?_
          rintro e w1 ⟨rfl, hww⟩
          replace hww := hww.symm
          subst hww
          clear hus
          go_wp2_with (first
            | (at_builtin
               refine wpList_append_own _ rfl (.tmp 77) (.tmp 79) 27 rfl w.heap.size 39 i0 _ 3 32 Tryd.underlying27 hi hz0 hz1 hz2 rfl (by decide) _ _ _ rfl HVA.out ⟨wr.heap.size + 1, 0, none⟩ 1 1 (vcs ⟨5, N, ⟨#[]⟩⟩) rfl rfl HCA.out (by intro u hu; simp [vcs] at hu; rcases hu with rfl | rfl | rfl <;> rfl) (by unfold maxLen; omega) (by omega) (by simp; omega) ?_
               intro v2 w2 hown2 hgrow2 hiff2
               clear hiff2
               have b2 : Below w.heap.size w w2 := hbw.grown hgrow2 hbw.size (fun j hj => (HLT.out j hj).1)
               have HR2 := hid (VOut.push hown2)
               obtain ⟨oa2, oc2, rfl⟩ := HR2.out.form
               have hl2 : (acc ++ [(⟨5, N, ⟨#[]⟩⟩ : VA)]).length ≤ acc.length + 1 := by simp
               obtain ⟨acc2, hac⟩ : ∃ l, l = acc ++ [(⟨5, N, ⟨#[]⟩⟩ : VA)] := ⟨_, rfl⟩
               rw [← hac] at HR2 hl2 ⊢
               rw [← hac] at HF
               clear hown2 hgrow2 hac HLT hbw HVA HCA HV))
          go_roundw
          case rel => exact ⟨f, bc2, oc2, zr, acc2, some ⟨g, o2, none⟩, oa2, by first | rfl | (simp; done) | go_num, rfl, by omega, by omega, by omega, HF, HBD, HYD, HR2, b2⟩
          case measure => simp [slen]; try omega
      by_cases k3 : y0 = 3
      · subst k3
        obtain ⟨n, c, hrv⟩ : ∃ n c, rvI yr = (n, c) := ⟨_, _, rfl⟩
        have hrc := readVarint_spec (some ⟨g, o1, none⟩) bc1 yr (wr.alloc (.cells #[.int .i64 3, .int .i64 0, .string ⟨#[]⟩] 39)) hyl ((HY1.out.same (fun g' j hg => (hb.trans ((below_alloc wr (.cells #[.int .i64 3, .int .i64 0, .string ⟨#[]⟩] 39)).mono hbs)).cell (p := ⟨g', j, none⟩) hg)).rs (by simp; omega)) HBR.out
        rw [hrv] at hrc
        have hn64 : n < 18446744073709551616 := by have := rv_range yr; rw [hrv] at this; exact this
        have hcn : c = 0 ∨ (0 < c ∧ c ≤ yr.length) := by have := rv_cnt 10 0 0 yr; unfold rvI at hrv; rw [hrv] at this; simpa using this
        have HRV := hid hrv
        clear hrv
        by_cases hc : c = 0
        · subst hc
          have HST : Hid (rst (3 :: yr) = none) := rst_numN (by decide) HRV.out
          have HE : Hid (VOut w.heap.size (wr.alloc (.cells #[.int .i64 3, .int .i64 0, .string ⟨#[]⟩] 39)) (.slice oa acc.length oc) G) := (by
            rw [HG.out, rgS_none HST.out, List.append_nil]; exact World.ownsRow.alloc HV.out _ : VOut w.heap.size (wr.alloc (.cells #[.int .i64 3, .int .i64 0, .string ⟨#[]⟩] 39)) (.slice oa acc.length oc) G)
          have bwx : Below w.heap.size w (wr.alloc (.cells #[.int .i64 3, .int .i64 0, .string ⟨#[]⟩] 39)) := hb.alloc hbs _
          clear HG HST HV HLT
          go_wp2_with (go_at_call 64; fail)
          refine hrc.mono ?_
          rintro e w1 ⟨rfl, hww⟩
          replace hww := hww.symm
          subst hww
          clear hrc
          go_wp2
          go_ret
          exact ⟨⟨_, rfl, HE.out⟩, bwx⟩
        · have hc0 : ((c : Int) == 0) = false := by simp; omega
          have hcl : c ≤ yr.length := by omega
          have hcli : (c : Int) ≤ yr.length := by omega
          obtain ⟨o2, ho_o2, hy2⟩ := ys_cut (m := c) HY1.out (by omega)
          obtain ⟨zr, hl2e⟩ : ∃ z, yr.drop c = z := ⟨_, rfl⟩
          obtain ⟨bc2, hb_bc2⟩ : ∃ z, bc1 - c = z := ⟨_, rfl⟩
          have hl_zr : yr.length - c = zr.length := by rw [← hl2e, List.length_drop]
          have HBZ : Hid (Byt zr) := (by rw [← hl2e]; exact byt_drop HBR.out c : Byt zr)
          have HYZ : Hid (YS w.heap.size w (.slice (some ⟨g, o2, none⟩) zr.length bc2) zr) := (by rw [← hl_zr, ← hb_bc2, ← hl2e]; exact hy2 : YS w.heap.size w (.slice (some ⟨g, o2, none⟩) zr.length bc2) zr)
          have hzc : zr.length ≤ bc2 := by obtain ⟨_, _, he, h1, _⟩ := HYZ.out; simp only [Value.slice.injEq] at he; omega
          have hwz : IntKind.u64.wrap (zr.length : Int) = zr.length := by simp only [IntKind.wrap_u64]; omega
          by_cases hzn : zr.length < n
          · have hzni : (zr.length : Int) < n := by omega
            have HST : Hid (rst (3 :: yr) = none) := rst_textN HRV.out hc (by rw [hl2e]; exact hzn)
            clear hl2e hy2 HY1 hn64 hcn
            have HE : Hid (VOut w.heap.size (wr.alloc (.cells #[.int .i64 3, .int .i64 0, .string ⟨#[]⟩] 39)) (.slice oa acc.length oc) G) := (by
              rw [HG.out, rgS_none HST.out, List.append_nil]; exact World.ownsRow.alloc HV.out _ : VOut w.heap.size (wr.alloc (.cells #[.int .i64 3, .int .i64 0, .string ⟨#[]⟩] 39)) (.slice oa acc.length oc) G)
            have bwx : Below w.heap.size w (wr.alloc (.cells #[.int .i64 3, .int .i64 0, .string ⟨#[]⟩] 39)) := hb.alloc hbs _
            clear HG HST HV HLT
            go_wp2_with (go_at_call 64; fail)
            refine hrc.mono ?_
            rintro e w1 ⟨rfl, hww⟩
            replace hww := hww.symm
            subst hww
            clear hrc
            go_wp2
            go_ret
            exact ⟨⟨_, rfl, HE.out⟩, bwx⟩
          · have hzni : ¬ (zr.length : Int) < n := by omega
            have hnz : n ≤ zr.length := by omega
            have hnzi : (n : Int) ≤ zr.length := by omega
            have hwn : IntKind.i64.wrap (n : Int) = n := by simp only [IntKind.wrap_i64]; omega
            obtain ⟨o3, ho_o3, hy3⟩ := ys_cut (m := n) HYZ.out (by omega)
            obtain ⟨qr, hl3e⟩ : ∃ z, zr.drop n = z := ⟨_, rfl⟩
            obtain ⟨bc3, hb_bc3⟩ : ∃ z, bc2 - n = z := ⟨_, rfl⟩
            have hl_qr : zr.length - n = qr.length := by rw [← hl3e, List.length_drop]
            obtain ⟨S, hS⟩ : ∃ z, strOfNums (zr.take n) = z := ⟨_, rfl⟩
            have hcv : (convert 24 9 (.slice (some ⟨g, o2, none⟩) n bc2)).run Tryd.prog (wr.alloc (.cells #[.int .i64 3, .int .i64 0, .string ⟨#[]⟩] 39)) = .ok (.string S) (wr.alloc (.cells #[.int .i64 3, .int .i64 0, .string ⟨#[]⟩] 39)) := by
              have htl : (zr.take n).length = n := by rw [List.length_take]; omega
              have := conv_rs (w := (wr.alloc (.cells #[.int .i64 3, .int .i64 0, .string ⟨#[]⟩] 39))) (a := some ⟨g, o2, none⟩) (cap := bc2) (xs := zr.take n) (by
                have hz := (HYZ.out.same (fun g' j hg => (hb.trans ((below_alloc wr (.cells #[.int .i64 3, .int .i64 0, .string ⟨#[]⟩] 39)).mono hbs)).cell (p := ⟨g', j, none⟩) hg)).rs (B := w.heap.size) (w := (wr.alloc (.cells #[.int .i64 3, .int .i64 0, .string ⟨#[]⟩] 39))) (by simp; omega)
                have := hz.win (n := 0) (c := bc2) 0 n (by omega)
                simpa using this)
              rw [htl, hS] at this
              exact this
            have HST : Hid (rst (3 :: yr) = some (⟨3, 0, S⟩, qr)) := (by rw [rst_text HRV.out hc (by rw [hl2e]; exact hzn), hl2e, hS, hl3e] : rst (3 :: yr) = some (⟨3, 0, S⟩, qr))
            have HBD : Hid (Byt qr) := (by rw [← hl3e]; exact byt_drop HBZ.out n : Byt qr)
            have HYD : Hid (YS w.heap.size w (.slice (some ⟨g, o3, none⟩) qr.length bc3) qr) := (by rw [← hl_qr, ← hb_bc3, ← hl3e]; exact hy3 : YS w.heap.size w (.slice (some ⟨g, o3, none⟩) qr.length bc3) qr)
            clear hl2e hl3e hy2 hy3 HY1 HYZ hn64 hcn hS
            have HVA : Hid (VOut w.heap.size ((wr.alloc (.cells #[.int .i64 3, .int .i64 0, .string S] 39)).alloc (.cells #[.int .i64 3, .int .i64 0, .string S] 39)) (.slice oa acc.length oc) acc) := World.ownsRow.alloc (World.ownsRow.alloc HV.out _) _
            have hbw : Below w.heap.size w ((wr.alloc (.cells #[.int .i64 3, .int .i64 0, .string S] 39)).alloc (.cells #[.int .i64 3, .int .i64 0, .string S] 39)) := (hb.alloc hbs _).alloc (by simp; omega) _
            have HCA : Hid (∀ j u, (vcs ⟨3, 0, S⟩)[j]? = some u → ((wr.alloc (.cells #[.int .i64 3, .int .i64 0, .string S] 39)).alloc (.cells #[.int .i64 3, .int .i64 0, .string S] 39)).cell? ((⟨wr.heap.size + 1, 0, none⟩ : Addr).add j) = some u) := (by
              have := (blk_new (wr.alloc (.cells #[.int .i64 3, .int .i64 0, .string S] 39)) (vcs ⟨3, 0, S⟩) 39).cells
              simpa [vcs] using this : ∀ j u, (vcs ⟨3, 0, S⟩)[j]? = some u → ((wr.alloc (.cells #[.int .i64 3, .int .i64 0, .string S] 39)).alloc (.cells #[.int .i64 3, .int .i64 0, .string S] 39)).cell? ((⟨wr.heap.size + 1, 0, none⟩ : Addr).add j) = some u)
            have HF : Hid (G = (acc ++ [(⟨3, 0, S⟩ : VA)]) ++ rgS f qr) := (by
              rw [HG.out, rgS_some HST.out]; simp : G = (acc ++ [(⟨3, 0, S⟩ : VA)]) ++ rgS f qr)
            clear HG HST
            go_wp2_with (go_at_call 64; fail)
            refine hrc.mono ?_
            rintro e w1 ⟨rfl, hww⟩
            replace hww := hww.symm
            subst hww
            clear hrc
            go_wp2_with (first
              | (at_builtin
                 refine wpList_append_own _ rfl (.tmp 77) (.tmp 79) 27 rfl w.heap.size 39 i0 _ 3 32 Tryd.underlying27 hi hz0 hz1 hz2 rfl (by decide) _ _ _ rfl HVA.out ⟨wr.heap.size + 1, 0, none⟩ 1 1 (vcs ⟨3, 0, S⟩) rfl rfl HCA.out (by intro u hu; simp [vcs] at hu; rcases hu with rfl | rfl | rfl <;> rfl) (by unfold maxLen; omega) (by omega) (by simp; omega) ?_
                 intro v2 w2 hown2 hgrow2 hiff2
                 clear hiff2
                 have b2 : Below w.heap.size w w2 := hbw.grown hgrow2 hbw.size (fun j hj => (HLT.out j hj).1)
                 have HR2 := hid (VOut.push hown2)
                 obtain ⟨oa2, oc2, rfl⟩ := HR2.out.form
                 have hl2 : (acc ++ [(⟨3, 0, S⟩ : VA)]).length ≤ acc.length + 1 := by simp
                 obtain ⟨acc2, hac⟩ : ∃ l, l = acc ++ [(⟨3, 0, S⟩ : VA)] := ⟨_, rfl⟩
                 rw [← hac] at HR2 hl2 ⊢
                 rw [← hac] at HF
                 clear hown2 hgrow2 hac HLT hbw HVA HCA HV))
            go_roundw
            case rel => exact ⟨f, bc3, oc2, qr, acc2, some ⟨g, o3, none⟩, oa2, by first | rfl | (simp; done) | go_num, rfl, by omega, by omega, by omega, HF, HBD, HYD, HR2, b2⟩
            case measure => simp [slen]; try omega
      by_cases k4 : y0 = 4
      · subst k4
        rcases yr with _ | ⟨y1, qr⟩
        · have HST : Hid (rst [4] = none) := rst_boolN
          have HE : Hid (VOut w.heap.size (wr.alloc (.cells #[.int .i64 4, .int .i64 0, .string ⟨#[]⟩] 39)) (.slice oa acc.length oc) G) := (by
            rw [HG.out, rgS_none HST.out, List.append_nil]; exact World.ownsRow.alloc HV.out _ : VOut w.heap.size (wr.alloc (.cells #[.int .i64 4, .int .i64 0, .string ⟨#[]⟩] 39)) (.slice oa acc.length oc) G)
          have bwx : Below w.heap.size w (wr.alloc (.cells #[.int .i64 4, .int .i64 0, .string ⟨#[]⟩] 39)) := hb.alloc hbs _
          clear HG HST HV HLT
          clear HY1
          go_wp2
          go_ret
          exact ⟨⟨_, rfl, HE.out⟩, bwx⟩
        · obtain ⟨hgB1, hc1, hcap1⟩ := ys_cell HY1.out
          have c1 : wr.cell? ⟨g, o1, none⟩ = some (.int .u8 y1) := (hb.cell (p := ⟨g, o1, none⟩) hgB1).trans hc1
          have c1' : (wr.alloc (.cells #[.int .i64 4, .int .i64 0, .string ⟨#[]⟩] 39)).cell? ⟨g, o1, none⟩ = some (.int .u8 y1) := (World.cell?_alloc_lt _ _ _ (by show g < wr.heap.size; omega)).trans c1
          have hy1b := HBR.out y1 (List.mem_cons_self ..)
          have hw1 : IntKind.i64.wrap y1 = y1 := by simp only [IntKind.wrap_i64]; omega
          obtain ⟨o2, ho2, hy2⟩ := ys_cut (m := 1) HY1.out (by simp)
          have HYD : Hid (YS w.heap.size w (.slice (some ⟨g, o2, none⟩) qr.length (bc1 - 1)) qr) := (by simpa using hy2 : YS w.heap.size w (.slice (some ⟨g, o2, none⟩) qr.length (bc1 - 1)) qr)
          have HBD : Hid (Byt qr) := (fun x hx => HBR.out x (List.mem_cons_of_mem _ hx) : Byt qr)
          have HST : Hid (rst (4 :: y1 :: qr) = some (⟨4, y1, ⟨#[]⟩⟩, qr)) := rst_bool y1 qr
          simp only [List.length_cons] at hal hf hyl hpos ⊢
          have hne : (((qr.length : Int) + 1) == 0) = false := by simp; omega
          clear hc1 hy2 HY1
          have HVA : Hid (VOut w.heap.size ((wr.alloc (.cells #[.int .i64 4, .int .i64 y1, .string ⟨#[]⟩] 39)).alloc (.cells #[.int .i64 4, .int .i64 y1, .string ⟨#[]⟩] 39)) (.slice oa acc.length oc) acc) := World.ownsRow.alloc (World.ownsRow.alloc HV.out _) _
          have hbw : Below w.heap.size w ((wr.alloc (.cells #[.int .i64 4, .int .i64 y1, .string ⟨#[]⟩] 39)).alloc (.cells #[.int .i64 4, .int .i64 y1, .string ⟨#[]⟩] 39)) := (hb.alloc hbs _).alloc (by simp; omega) _
          have HCA : Hid (∀ j u, (vcs ⟨4, y1, ⟨#[]⟩⟩)[j]? = some u → ((wr.alloc (.cells #[.int .i64 4, .int .i64 y1, .string ⟨#[]⟩] 39)).alloc (.cells #[.int .i64 4, .int .i64 y1, .string ⟨#[]⟩] 39)).cell? ((⟨wr.heap.size + 1, 0, none⟩ : Addr).add j) = some u) := (by
            have := (blk_new (wr.alloc (.cells #[.int .i64 4, .int .i64 y1, .string ⟨#[]⟩] 39)) (vcs ⟨4, y1, ⟨#[]⟩⟩) 39).cells
            simpa [vcs] using this : ∀ j u, (vcs ⟨4, y1, ⟨#[]⟩⟩)[j]? = some u → ((wr.alloc (.cells #[.int .i64 4, .int .i64 y1, .string ⟨#[]⟩] 39)).alloc (.cells #[.int .i64 4, .int .i64 y1, .string ⟨#[]⟩] 39)).cell? ((⟨wr.heap.size + 1, 0, none⟩ : Addr).add j) = some u)
          have HF : Hid (G = (acc ++ [(⟨4, y1, ⟨#[]⟩⟩ : VA)]) ++ rgS f qr) := (by
            rw [HG.out, rgS_some HST.out]; simp : G = (acc ++ [(⟨4, y1, ⟨#[]⟩⟩ : VA)]) ++ rgS f qr)
          clear HG HST
          go_wp2_with (first
            | (at_builtin
               refine wpList_append_own _ rfl (.tmp 77) (.tmp 79) 27 rfl w.heap.size 39 i0 _ 3 32 Tryd.underlying27 hi hz0 hz1 hz2 rfl (by decide) _ _ _ rfl HVA.out ⟨wr.heap.size + 1, 0, none⟩ 1 1 (vcs ⟨4, y1, ⟨#[]⟩⟩) rfl rfl HCA.out (by intro u hu; simp [vcs] at hu; rcases hu with rfl | rfl | rfl <;> rfl) (by unfold maxLen; omega) (by omega) (by simp; omega) ?_
               intro v2 w2 hown2 hgrow2 hiff2
               clear hiff2
               have b2 : Below w.heap.size w w2 := hbw.grown hgrow2 hbw.size (fun j hj => (HLT.out j hj).1)
               have HR2 := hid (VOut.push hown2)
               obtain ⟨oa2, oc2, rfl⟩ := HR2.out.form
               have hl2 : (acc ++ [(⟨4, y1, ⟨#[]⟩⟩ : VA)]).length ≤ acc.length + 1 := by simp
               obtain ⟨acc2, hac⟩ : ∃ l, l = acc ++ [(⟨4, y1, ⟨#[]⟩⟩ : VA)] := ⟨_, rfl⟩
               rw [← hac] at HR2 hl2 ⊢
               rw [← hac] at HF
               clear hown2 hgrow2 hac HLT hbw HVA HCA HV))
          go_roundw
          case rel => exact ⟨f, bc1 - 1, oc2, qr, acc2, some ⟨g, o2, none⟩, oa2, by first | rfl | (simp; done) | go_num, rfl, by omega, by omega, by omega, HF, HBD, HYD, HR2, b2⟩
          case measure => simp [slen]; try omega
      have e1 : (y0 == 1) = false := by simp [k1]
      have e2 : (y0 == 2) = false := by simp [k2]
      have e3 : (y0 == 3) = false := by simp [k3]
      have e4 : (y0 == 4) = false := by simp [k4]
      have e5 : (y0 == 5) = false := by simp [k5]
      have HST : Hid (rst (y0 :: yr) = some (⟨y0, 0, ⟨#[]⟩⟩, yr)) := rst_other (fun h => h.elim k1 fun h => h.elim k2 k5) k3 k4
      have HBD := HBR
      have HYD := HY1
      clear k1 k2 k3 k4 k5
      have HVA : Hid (VOut w.heap.size ((wr.alloc (.cells #[.int .i64 y0, .int .i64 0, .string ⟨#[]⟩] 39)).alloc (.cells #[.int .i64 y0, .int .i64 0, .string ⟨#[]⟩] 39)) (.slice oa acc.length oc) acc) := World.ownsRow.alloc (World.ownsRow.alloc HV.out _) _
      have hbw : Below w.heap.size w ((wr.alloc (.cells #[.int .i64 y0, .int .i64 0, .string ⟨#[]⟩] 39)).alloc (.cells #[.int .i64 y0, .int .i64 0, .string ⟨#[]⟩] 39)) := (hb.alloc hbs _).alloc (by simp; omega) _
      have HCA : Hid (∀ j u, (vcs ⟨y0, 0, ⟨#[]⟩⟩)[j]? = some u → ((wr.alloc (.cells #[.int .i64 y0, .int .i64 0, .string ⟨#[]⟩] 39)).alloc (.cells #[.int .i64 y0, .int .i64 0, .string ⟨#[]⟩] 39)).cell? ((⟨wr.heap.size + 1, 0, none⟩ : Addr).add j) = some u) := (by
        have := (blk_new (wr.alloc (.cells #[.int .i64 y0, .int .i64 0, .string ⟨#[]⟩] 39)) (vcs ⟨y0, 0, ⟨#[]⟩⟩) 39).cells
        simpa [vcs] using this : ∀ j u, (vcs ⟨y0, 0, ⟨#[]⟩⟩)[j]? = some u → ((wr.alloc (.cells #[.int .i64 y0, .int .i64 0, .string ⟨#[]⟩] 39)).alloc (.cells #[.int .i64 y0, .int .i64 0, .string ⟨#[]⟩] 39)).cell? ((⟨wr.heap.size + 1, 0, none⟩ : Addr).add j) = some u)
      have HF : Hid (G = (acc ++ [(⟨y0, 0, ⟨#[]⟩⟩ : VA)]) ++ rgS f yr) := (by
        rw [HG.out, rgS_some HST.out]; simp : G = (acc ++ [(⟨y0, 0, ⟨#[]⟩⟩ : VA)]) ++ rgS f yr)
      clear HG HST
      go_wp2_with (first
        | (at_builtin
           refine wpList_append_own _ rfl (.tmp 77) (.tmp 79) 27 rfl w.heap.size 39 i0 _ 3 32 Tryd.underlying27 hi hz0 hz1 hz2 rfl (by decide) _ _ _ rfl HVA.out ⟨wr.heap.size + 1, 0, none⟩ 1 1 (vcs ⟨y0, 0, ⟨#[]⟩⟩) rfl rfl HCA.out (by intro u hu; simp [vcs] at hu; rcases hu with rfl | rfl | rfl <;> rfl) (by unfold maxLen; omega) (by omega) (by simp; omega) ?_
           intro v2 w2 hown2 hgrow2 hiff2
           clear hiff2
           have b2 : Below w.heap.size w w2 := hbw.grown hgrow2 hbw.size (fun j hj => (HLT.out j hj).1)
           have HR2 := hid (VOut.push hown2)
           obtain ⟨oa2, oc2, rfl⟩ := HR2.out.form
           have hl2 : (acc ++ [(⟨y0, 0, ⟨#[]⟩⟩ : VA)]).length ≤ acc.length + 1 := by simp
           obtain ⟨acc2, hac⟩ : ∃ l, l = acc ++ [(⟨y0, 0, ⟨#[]⟩⟩ : VA)] := ⟨_, rfl⟩
           rw [← hac] at HR2 hl2 ⊢
           rw [← hac] at HF
           clear hown2 hgrow2 hac HLT hbw HVA HCA HV))
      go_roundw
      case rel => exact ⟨f, bc1, oc2, yr, acc2, some ⟨g, o1, none⟩, oa2, by first | rfl | (simp; done) | go_num, rfl, by omega, by omega, by omega, HF, HBD, HYD, HR2, b2⟩
      case measure => simp [slen]; try omega
end Go.Proofs.YtfgjleifhjegkaaDoor
namespace Go.Proofs.YtfgjleifhjegkaaDoor
open Go.ChangeShapes Go.WideShapes Go.ChangeAt Go.RowKit
set_option linter.unusedVariables false
set_option linter.unusedSimpArgs false
set_option maxRecDepth 100000
set_option maxHeartbeats 8000000 in
theorem rowValues_spec (a : Option Addr) (ca : Nat) (xs : List Int) (w : World) (hn : xs.length ≤ 1048576) (hcm : ca ≤ 1048576) (hb : Byt xs) (hy : YS w.heap.size w (.slice a xs.length ca) xs) :
    Calls Tryd.prog 23 #[.slice a xs.length ca] w fun e w' => RvP xs w e w' := by
  by_cases hbig : (4000 : Int) < xs.length
  · have HF : Hid (RvC xs [] 28) := .inr ⟨fun vs _ _ h e => by rw [e] at h; omega, rfl, rfl⟩
    clear hy hb
    go_enter Tryd.func23, Tryd.ntmps23
    go_wp2
    refine bodyPost_ret (v := .tuple #[.slice (some ⟨w.heap.size, 0, none⟩) 0 0, .int .i64 28]) (by simp [results, Tryd.results23, go_sem]) rfl ⟨_, 28, [], rfl, rsw_noneV, HF.out, below_alloc _ _⟩
  have hkg := rowGuess_spec a ca xs w hn hcm hb hy
  have HX := hid (hy.rs (Nat.le_refl _))
  have HB := hid hb
  have hgd := rgG_good hb
  obtain ⟨us, hus⟩ : ∃ l, l = rgG xs := ⟨_, rfl⟩
  rw [← hus] at hkg hgd
  have HUS : Hid (∀ vs, valsB vs = true → GoV vs → (rowL vs).length ≤ 4000 → rowL vs = xs → us = vs) := (fun vs h1 h2 h3 h4 => by
    rw [hus, ← h4]
    exact rgG_row h1 h2 h3 : ∀ vs, valsB vs = true → GoV vs → (rowL vs).length ≤ 4000 → rowL vs = xs → us = vs)
  have HBV : Hid (BVS 1048576 us) := ⟨by omega, fun t ht => by have := (hgd.2 t ht).1; unfold BV; omega⟩
  have HGO : Hid (GoV us) := (fun t ht => (hgd.2 t ht).2 : GoV us)
  clear hy hb hus hgd
  go_enter Tryd.func23, Tryd.ntmps23
  go_wp2_with (go_at_call 43; fail)
  refine hkg.mono ?_
  rintro e w1 ⟨⟨v1, rfl, hv1⟩, hb1⟩
  obtain ⟨oa, oc, rfl⟩ := hv1.form
  have HV1 := hid hv1
  have hks := row_spec oa oc us w1 HBV.out HGO.out ((hv1.rsw.rs (D := CV) id).mono liesV (Nat.zero_le _))
  clear hkg hv1
  go_wp2_with (go_at_call 17; fail)
  refine hks.mono ?_
  rintro e w2 ⟨v2, c2, l2, rfl, hr2, hc2, hb2⟩
  have bw2 : Below w.heap.size w w2 := hb1.trans (hb2.mono hb1.size)
  have HV2 := hid (HV1.out.below hb2)
  have HR2 := hid ((hr2.rs (D := CY) id).mono liesY (Nat.zero_le _))
  obtain ⟨ya, yc, rfl, _⟩ := hr2
  clear hks hb1 hb2 HV1
  rcases hc2 with ⟨hvb, rfl, rfl⟩ | ⟨hvb, hlen, rfl, rfl⟩ | ⟨hvb, hlen, rfl, rfl⟩
  · have HF : Hid (RvC xs [] 28) := .inr ⟨fun vs h1 h2 h3 h4 => (by rw [HUS.out vs h1 h2 h3 h4, h1] at hvb; cases hvb), rfl, rfl⟩
    clear HUS hvb
    go_wp2
    refine bodyPost_ret (v := .tuple #[.slice (some ⟨w2.heap.size, 0, none⟩) 0 0, .int .i64 28]) (by simp [results, Tryd.results23, go_sem]) rfl ⟨_, 28, [], rfl, rsw_noneV, HF.out, bw2.alloc bw2.size _⟩
  · have HF : Hid (RvC xs [] 28) := .inr ⟨fun vs h1 h2 h3 h4 => by rw [HUS.out vs h1 h2 h3 h4] at hlen; omega, rfl, rfl⟩
    clear HUS hvb hlen
    go_wp2
    refine bodyPost_ret (v := .tuple #[.slice (some ⟨w2.heap.size, 0, none⟩) 0 0, .int .i64 28]) (by simp [results, Tryd.results23, go_sem]) rfl ⟨_, 28, [], rfl, rsw_noneV, HF.out, bw2.alloc bw2.size _⟩
  · have hsm := same_spec ya a yc ca (rowL us) xs w2 HR2.out (HX.out.below liesY bw2) (rowL_byt hvb HGO.out hlen) HB.out
    by_cases heq : rowL us = xs
    · have HF : Hid (RvC xs us 0) := .inl ⟨hvb, HGO.out, hlen, heq, rfl⟩
      rw [decide_eq_true heq] at hsm
      clear HUS hvb hlen heq
      generalize rowL us = kl at *
      go_wp2_with (go_at_call 40; fail)
      refine hsm.mono ?_
      rintro e w3 ⟨rfl, hww⟩
      replace hww := hww.symm
      subst hww
      go_wp2
      refine bodyPost_ret (v := .tuple #[.slice oa us.length oc, .int .i64 0]) (by simp [results, Tryd.results23, go_sem]) rfl ⟨_, 0, us, rfl, ?_, HF.out, bw2⟩
      exact HV2.out.rsw
    · have HF : Hid (RvC xs [] 28) := .inr ⟨fun vs h1 h2 h3 h4 => heq (by rw [HUS.out vs h1 h2 h3 h4]; exact h4), rfl, rfl⟩
      rw [decide_eq_false heq] at hsm
      clear HUS hvb hlen heq
      generalize rowL us = kl at *
      go_wp2_with (go_at_call 40; fail)
      refine hsm.mono ?_
      rintro e w3 ⟨rfl, hww⟩
      replace hww := hww.symm
      subst hww
      go_wp2
      refine bodyPost_ret (v := .tuple #[.slice (some ⟨w2.heap.size, 0, none⟩) 0 0, .int .i64 28]) (by simp [results, Tryd.results23, go_sem]) rfl ⟨_, 28, [], rfl, rsw_noneV, HF.out, bw2.alloc bw2.size _⟩
end Go.Proofs.YtfgjleifhjegkaaDoor
