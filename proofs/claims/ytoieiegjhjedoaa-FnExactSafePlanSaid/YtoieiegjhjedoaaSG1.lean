import Derived.Test.YtoieiegjhjedoaaSP1
namespace Go.Proofs.Ytoieiegjhjedoaa
open Go.ChangeShapes Go.WideShapes Go.ChangeAt Go.RowKit
set_option linter.unusedVariables false
set_option linter.unusedSimpArgs false
set_option maxRecDepth 100000
set_option maxHeartbeats 8000000 in
theorem f34_any (ts : List XN) (na : Option Addr) (nc : Nat) (t : XN) (cs : List Value) (w : World) (hT : toldF t.op t.a t.kids.length = true) (hks : ∀ x ∈ t.kids, ∃ y : Nat, x = (y : Int) ∧ y < ts.length) (hv : RS 8 CX 0 w (.slice na ts.length nc) ts) (hC : CX 0 w cs t) :
    Calls Try.prog 34 #[.slice na ts.length nc, .agg cs.toArray] w fun e w' => e = .returned (.bool (failF t.op t.a (hd0 (kindsOf ts t)))) ∧ Below w.heap.size w w' := by
  by_cases q9 : t.op = 9
  · rw [q9] at hT
    have hk1 : t.kids.length = 1 := by simp [toldF] at hT; omega
    obtain ⟨v, rfl, hr⟩ := hC
    obtain ⟨ka, kc, rfl, hkc⟩ := hr.ri
    obtain ⟨kg, ko, rfl, hkg, hkcc⟩ := hkc (by omega)
    obtain ⟨x, hx⟩ : ∃ x, t.kids = [x] := by
      match hh : t.kids, hk1 with
      | [x], _ => exact ⟨x, rfl⟩
    obtain ⟨y, hy, hyt⟩ := hks x (by rw [hx]; simp)
    have k0 := hkcc 0 (by omega)
    rw [show t.kids[0]'(by omega) = (y : Int) by simp [hx, hy], Nat.add_zero] at k0
    obtain ⟨a', c', he, hcells⟩ := hv
    simp only [Value.slice.injEq] at he
    obtain ⟨rfl, _, rfl⟩ := he
    obtain ⟨g, o, rfl, _, hg, hgc⟩ := hcells (by omega)
    obtain ⟨cs', hC', hcell⟩ := hgc y hyt
    obtain ⟨v', rfl, _⟩ := hC'
    have c1 : w.cell? ⟨g, o + y * 8 + 1, none⟩ = some (.int .i64 ts[y].kind) := hcell 1 (by omega)
    have hyti : (y : Int) < ts.length := by omega
    have HF : Hid (failF t.op t.a (hd0 (kindsOf ts t)) = (!(ts[y].kind == t.a || ts[y].kind == 0) && t.a != 3)) := (by
      rw [q9]
      have : hd0 (kindsOf ts t) = ts[y].kind := by simp [hd0, kindsOf, hx, hy, kindA, List.getElem?_eq_getElem hyt]
      rw [this]; rfl : failF t.op t.a (hd0 (kindsOf ts t)) = (!(ts[y].kind == t.a || ts[y].kind == 0) && t.a != 3))
    rw [HF.out]
    clear hgc hcells hcell hkcc hkc hr hx hT HF
    generalize ts[y].kind = kk at *
    obtain ⟨op, kind, a, b, vk, vn, vs, kids⟩ := t
    simp only at *
    subst q9
    have bw := below_alloc w (.cells #[.int .i64 9, .int .i64 kind, .int .i64 a, .int .i64 b, .int .i64 vk, .int .i64 vn, .string vs, .slice (some ⟨kg, ko, none⟩) kids.length kc] 66)
    have hki : (0 : Int) < kids.length := by omega
    have c1' := (bw.cell (p := ⟨g, o + y * 8 + 1, none⟩) hg).trans c1
    have k0' := (bw.cell (p := ⟨kg, ko, none⟩) hkg).trans k0
    clear hk1 c1 k0
    cases h1 : (kk == a)
    · have h1n : ¬ kk = a := by simpa using h1
      cases h2 : (kk == 0)
      · have h2n : ¬ kk = 0 := by simpa using h2
        have H12 : Hid (¬ kk = a ∧ ¬ kk = 0) := ⟨h1n, h2n⟩
        go_enter Try.func34, Try.ntmps34
        go_wp2
        go_ret
        exact ⟨ret_b (by first | rfl | (simp; exact fun _ => H12.out)), bw⟩
      · have H2 : Hid (kk = 0) := (by simpa using h2 : kk = 0)
        go_enter Try.func34, Try.ntmps34
        go_wp2
        go_ret
        exact ⟨ret_b (by first | rfl | simp), bw⟩
    · have H1 : Hid (kk = a) := (by simpa using h1 : kk = a)
      go_enter Try.func34, Try.ntmps34
      go_wp2
      go_ret
      exact ⟨ret_b (by first | rfl | simp), bw⟩
  · obtain ⟨v, rfl, ka, kc, rfl, _⟩ := hC
    generalize hd0 (kindsOf ts t) = kk
    have q9b : (t.op == 9) = false := by simpa using q9
    clear hv hks
    obtain ⟨op, kind, a, b, vk, vn, vs, kids⟩ := t
    simp only at *
    by_cases q3 : op = 3
    · subst q3
      have h1 : 1 ≤ a := by simp [toldF] at hT; omega
      have HF : Hid (failF 3 a kk = decide (a ≤ 6)) := (by simp [failF, h1] : failF 3 a kk = decide (a ≤ 6))
      rw [HF.out]
      clear hT
      go_enter Try.func34, Try.ntmps34
      go_wp2
      go_ret
      exact ⟨rfl, below_alloc _ _⟩
    by_cases q4 : op = 4
    · subst q4
      go_enter Try.func34, Try.ntmps34
      go_wp2
      go_ret
      exact ⟨rfl, below_alloc _ _⟩
    by_cases q10 : op = 10
    · subst q10
      cases h1 : (a == 1)
      · cases h2 : (a == 5)
        · have HE : Hid (failF 10 a kk = (a == 10)) := (by simp [failF, h1, h2] : failF 10 a kk = (a == 10))
          go_enter Try.func34, Try.ntmps34
          go_wp2
          go_ret
          exact ⟨ret_b HE.out.symm, below_alloc _ _⟩
        · have HE : Hid (failF 10 a kk = true) := (by simp [failF, h1, h2] : failF 10 a kk = true)
          go_enter Try.func34, Try.ntmps34
          go_wp2
          go_ret
          exact ⟨ret_b HE.out.symm, below_alloc _ _⟩
      · have HE : Hid (failF 10 a kk = true) := (by simp [failF, h1] : failF 10 a kk = true)
        go_enter Try.func34, Try.ntmps34
        go_wp2
        go_ret
        exact ⟨ret_b HE.out.symm, below_alloc _ _⟩
    · have p3 : (op == 3) = false := by simpa using q3
      have p4 : (op == 4) = false := by simpa using q4
      have p10 : (op == 10) = false := by simpa using q10
      have HE : Hid (failF op a kk = false) := (by
        unfold failF
        split <;> first | rfl | (rename_i e; simp_all) : failF op a kk = false)
      clear hT
      go_enter Try.func34, Try.ntmps34
      go_wp2
      go_ret
      exact ⟨ret_b HE.out.symm, below_alloc _ _⟩
end Go.Proofs.Ytoieiegjhjedoaa
