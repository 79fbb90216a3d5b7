import Derived.Test.YtoieiegjhjedoaaSG3
import Derived.Test.YtoieiegjhjedoaaSG1
namespace Go.Proofs.Ytoieiegjhjedoaa
open Go.ChangeShapes Go.WideShapes Go.ChangeAt Go.RowKit
set_option linter.unusedVariables false
set_option linter.unusedSimpArgs false
set_option maxRecDepth 100000
set_option maxHeartbeats 16000000 in
theorem safeExpr_any (ts : List XN) (na : Option Addr) (nc : Nat) (w : World) (hB : BE 1048576 ts) (ht : textE ts = true) (hv : RS 8 CX 0 w (.slice na ts.length nc) ts) :
    Calls Try.prog 19 #[.agg #[.slice na ts.length nc]] w fun e w' => e = .returned (.bool (safeE ts)) ∧ Below w.heap.size w w' := by
  have bw0 := below_alloc w (.cells #[.slice na ts.length nc] 50)
  have hL := hB.1
  have HTX : Hid (textE ts = true) := ht
  have HKS : Hid (∀ t ∈ ts, ∀ x ∈ t.kids, ∃ y : Nat, x = (y : Int) ∧ y < ts.length) := fun t h => (stE_kids (by unfold textE at ht; rw [Bool.and_eq_true] at ht; exact ht.1) t h).2
  have HV : Hid (RS 8 CX 0 w (.slice na ts.length nc) ts) := hv
  have HE : Hid (safeE ts = ts.all fun t => t.op != 13 && !failF t.op t.a (hd0 (kindsOf ts t))) := rfl
  clear hB ht
  have e0 : (w.alloc (.cells #[.slice na ts.length nc] 50)).cell? ⟨w.heap.size, 0, none⟩ = some (.slice na ts.length nc) := by simp
  have z0 : w.heap.size < (w.alloc (.cells #[.slice na ts.length nc] 50)).heap.size := by simp
  obtain ⟨a', c', he, hcells⟩ := hv
  simp only [Value.slice.injEq] at he
  obtain ⟨rfl, _, rfl⟩ := he
  go_enter Try.func19, Try.ntmps19
  go_wp2
  go_loopw [8] (fun iv wr => ∃ k : Nat, k ≤ ts.length ∧ iv = .int .i64 k ∧ Hid (∀ t ∈ ts.take k, (t.op != 13 && !failF t.op t.a (hd0 (kindsOf ts t))) = true) ∧ wr.cell? ⟨w.heap.size, 0, none⟩ = some (.slice na ts.length nc) ∧ w.heap.size < wr.heap.size ∧ Below w.heap.size w wr) (fun iv _ => ts.length - (intOf iv).toNat)
  case atStart => exact ⟨0, Nat.zero_le _, rfl, (fun t h => by simp at h : ∀ t ∈ ts.take 0, (t.op != 13 && !failF t.op t.a (hd0 (kindsOf ts t))) = true), e0, z0, bw0⟩
  case round =>
    obtain ⟨k, hk, rfl, HO, ec, zc, hbel⟩ := hrel
    clear e0 z0 bw0
    have hbs := hbel.size
    by_cases hlt : k < ts.length
    · have hlti : (k : Int) < ts.length := by omega
      obtain ⟨g, o, rfl, _, hg, hgc⟩ := hcells (by omega)
      obtain ⟨cs, hC, hcell⟩ := hgc k hlt
      have hM := List.getElem_mem hlt
      have HST : Hid ((fun t => (t.op != 13 && !failF t.op t.a (hd0 (kindsOf ts t)))) ts[k] = true → ∀ t ∈ ts.take (k + 1), (t.op != 13 && !failF t.op t.a (hd0 (kindsOf ts t))) = true) := (fun z t ht => by
        rw [show ts.take (k + 1) = ts.take k ++ [ts[k]] by rw [List.take_add_one, List.getElem?_eq_getElem hlt]; rfl] at ht
        rcases List.mem_append.1 ht with h | h
        · exact HO.out t h
        · rw [List.mem_singleton] at h; rw [h]; exact z : (fun t => (t.op != 13 && !failF t.op t.a (hd0 (kindsOf ts t)))) ts[k] = true → ∀ t ∈ ts.take (k + 1), (t.op != 13 && !failF t.op t.a (hd0 (kindsOf ts t))) = true)
      have HNo : Hid ((fun t => (t.op != 13 && !failF t.op t.a (hd0 (kindsOf ts t)))) ts[k] = false → (ts.all fun t => t.op != 13 && !failF t.op t.a (hd0 (kindsOf ts t))) = false) := (fun z => by
        rw [List.all_eq_false]
        exact ⟨ts[k], List.getElem_mem hlt, by simpa using z⟩ : (fun t => (t.op != 13 && !failF t.op t.a (hd0 (kindsOf ts t)))) ts[k] = false → (ts.all fun t => t.op != 13 && !failF t.op t.a (hd0 (kindsOf ts t))) = false)
      have HM := hid hM
      clear hgc hcells HO hM
      generalize ts[k] = t at *
      have HC0 := hid hC
      obtain ⟨v0, rfl, hr0⟩ := hC
      obtain ⟨ka, kc, rfl, _⟩ := hr0
      have c0 : wr.cell? ⟨g, o + k * 8, none⟩ = some (.int .i64 t.op) := (hbel.cell (p := ⟨g, o + k * 8, none⟩) hg).trans (hcell 0 (by omega))
      have c1 : wr.cell? ⟨g, o + k * 8 + 1, none⟩ = some (.int .i64 t.kind) := (hbel.cell (p := ⟨g, o + k * 8 + 1, none⟩) hg).trans (hcell 1 (by omega))
      have c2 : wr.cell? ⟨g, o + k * 8 + 2, none⟩ = some (.int .i64 t.a) := (hbel.cell (p := ⟨g, o + k * 8 + 2, none⟩) hg).trans (hcell 2 (by omega))
      have c3 : wr.cell? ⟨g, o + k * 8 + 3, none⟩ = some (.int .i64 t.b) := (hbel.cell (p := ⟨g, o + k * 8 + 3, none⟩) hg).trans (hcell 3 (by omega))
      have c4 : wr.cell? ⟨g, o + k * 8 + 4, none⟩ = some (.int .i64 t.vk) := (hbel.cell (p := ⟨g, o + k * 8 + 4, none⟩) hg).trans (hcell 4 (by omega))
      have c5 : wr.cell? ⟨g, o + k * 8 + 5, none⟩ = some (.int .i64 t.vn) := (hbel.cell (p := ⟨g, o + k * 8 + 5, none⟩) hg).trans (hcell 5 (by omega))
      have c6 : wr.cell? ⟨g, o + k * 8 + 6, none⟩ = some (.string t.vs) := (hbel.cell (p := ⟨g, o + k * 8 + 6, none⟩) hg).trans (hcell 6 (by omega))
      have c7 : wr.cell? ⟨g, o + k * 8 + 7, none⟩ = some (.slice ka t.kids.length kc) := (hbel.cell (p := ⟨g, o + k * 8 + 7, none⟩) hg).trans (hcell 7 (by omega))
      clear hcell
      have bwA : Below w.heap.size w (wr.alloc (.cells #[.int .i64 t.op, .int .i64 t.kind, .int .i64 t.a, .int .i64 t.b, .int .i64 t.vk, .int .i64 t.vn, .string t.vs, .slice ka t.kids.length kc] 66)) := hbel.alloc hbs _
      have eA : (wr.alloc (.cells #[.int .i64 t.op, .int .i64 t.kind, .int .i64 t.a, .int .i64 t.b, .int .i64 t.vk, .int .i64 t.vn, .string t.vs, .slice ka t.kids.length kc] 66)).cell? ⟨w.heap.size, 0, none⟩ = some (.slice (some ⟨g, o, none⟩) ts.length nc) := ((below_alloc wr _).cell (p := ⟨w.heap.size, 0, none⟩) zc).trans ec
      have zA : w.heap.size < (wr.alloc (.cells #[.int .i64 t.op, .int .i64 t.kind, .int .i64 t.a, .int .i64 t.b, .int .i64 t.vk, .int .i64 t.vn, .string t.vs, .slice ka t.kids.length kc] 66)).heap.size := by simp; omega
      have hT1 : toldF t.op t.a t.kids.length = true := by
        have := HTX.out
        unfold textE at this
        rw [Bool.and_eq_true, List.all_eq_true] at this
        exact this.2 t HM.out
      have h34 := f34_any ts (some ⟨g, o, none⟩) nc t _ _ hT1 (HKS.out t HM.out) (HV.out.below liesX bwA) (liesX.below HC0.out bwA)
      obtain ⟨ff, hff⟩ : ∃ p, failF t.op t.a (hd0 (kindsOf ts t)) = p := ⟨_, rfl⟩
      rw [hff] at h34
      simp only [hff] at HST HNo
      clear hff hT1
      cases h13 : (t.op == 13)
      · have h13n : ¬ t.op = 13 := by simpa using h13
        go_wp2_with (go_at_call 34; fail)
        refine h34.mono ?_
        rintro e w2 ⟨rfl, hb2⟩
        have bw2 : Below w.heap.size w w2 := bwA.trans (hb2.mono bwA.size)
        have e2 := (hb2.cell (p := ⟨w.heap.size, 0, none⟩) zA).trans eA
        have z2 : w.heap.size < w2.heap.size := Nat.lt_of_lt_of_le zA hb2.size
        clear hb2 h34
        cases ff
        · have HY := hid (HST.out (by simp [h13n]))
          go_wp2
          go_roundw
          case rel => exact ⟨k + 1, by omega, by go_num, HY, e2, z2, bw2⟩
          case measure => simp [intOf]; omega
        · have HF := hid (HNo.out (by simp))
          go_wp2
          go_ret
          exact ⟨ret_b (by rw [HE.out, HF.out]), bw2⟩
      · have HF := hid (HNo.out (by have : t.op = 13 := by simpa using h13
                                    simp [this]))
        clear h34
        go_wp2
        go_ret
        exact ⟨ret_b (by rw [HE.out, HF.out]), bwA⟩
    · have hkn : k = ts.length := by omega
      subst hkn
      have hlti : ¬ (ts.length : Int) < ts.length := by omega
      have HT : Hid ((ts.all fun t => t.op != 13 && !failF t.op t.a (hd0 (kindsOf ts t))) = true) := (by
        rw [List.all_eq_true]
        have := HO.out
        rw [List.take_length] at this
        exact this : (ts.all fun t => t.op != 13 && !failF t.op t.a (hd0 (kindsOf ts t))) = true)
      clear HO
      go_wp2
      go_ret
      exact ⟨ret_b (by rw [HE.out, HT.out]), hbel⟩
end Go.Proofs.Ytoieiegjhjedoaa
