import Derived.Test.YtoieiegjhjedoaaSG2
namespace Go.Proofs.Ytoieiegjhjedoaa
open Go.ChangeShapes Go.WideShapes Go.ChangeAt Go.RowKit
set_option linter.unusedVariables false
set_option linter.unusedSimpArgs false
set_option maxRecDepth 100000
set_option maxHeartbeats 16000000 in
theorem stands_any (ts : List XN) (na : Option Addr) (nc : Nat) (w : World) (hB : BE 1048576 ts) (hv : RS 8 CX 0 w (.slice na ts.length nc) ts) :
    Calls Try.prog 18 #[.agg #[.slice na ts.length nc]] w fun e w' => e = .returned (.bool (textE ts)) ∧ Below w.heap.size w w' := by
  have bw := below_alloc w (.cells #[.slice na ts.length nc] 50)
  have HB : Hid (BE 1048576 ts) := hB
  have hL := hB.1
  clear hB
  by_cases h4 : (400 : Int) < ts.length
  · have HE : Hid (textE ts = false) := (by unfold textE stE; rw [decide_eq_false (show ¬ (ts.length : Int) ≤ 400 by omega)]; rfl : textE ts = false)
    clear hv
    go_enter Try.func18, Try.ntmps18
    go_wp2
    go_ret
    exact ⟨ret_b HE.out.symm, bw⟩
  have h32 := starts_any ts na nc _ (by omega) (hv.below liesX bw)
  have e00 : (w.alloc (.cells #[.slice na ts.length nc] 50)).cell? ⟨w.heap.size, 0, none⟩ = some (.slice na ts.length nc) := by simp
  have z00 : w.heap.size < (w.alloc (.cells #[.slice na ts.length nc] 50)).heap.size := by simp
  cases ho : ordB ts
  · have HE : Hid (textE ts = false) := (by unfold textE stE; rw [ho]; simp : textE ts = false)
    rw [ho] at h32
    clear hv
    go_enter Try.func18, Try.ntmps18
    go_wp2_with (go_at_call 32; fail)
    refine h32.mono ?_
    rintro e w1 ⟨⟨v1, rfl⟩, hb1⟩
    have bw1 : Below w.heap.size w w1 := bw.trans (hb1.mono bw.size)
    clear hb1 h32
    go_wp2
    go_ret
    exact ⟨ret_b HE.out.symm, bw1⟩
  have HE : Hid (textE ts = ts.all fun t => toldF t.op t.a t.kids.length) := (by unfold textE stE; rw [ho, decide_eq_true (show (ts.length : Int) ≤ 400 by omega)]; rfl : textE ts = ts.all fun t => toldF t.op t.a t.kids.length)
  rw [ho] at h32
  obtain ⟨a', c', he, hcells⟩ := hv
  simp only [Value.slice.injEq] at he
  obtain ⟨rfl, _, rfl⟩ := he
  clear ho
  go_enter Try.func18, Try.ntmps18
  go_wp2_with (go_at_call 32; fail)
  refine h32.mono ?_
  rintro e w1 ⟨⟨v1, rfl⟩, hb1⟩
  have bw0 : Below w.heap.size w w1 := bw.trans (hb1.mono bw.size)
  have e0 := (hb1.cell (p := ⟨w.heap.size, 0, none⟩) z00).trans e00
  have z0 : w.heap.size < w1.heap.size := Nat.lt_of_lt_of_le z00 hb1.size
  clear hb1 h32 e00 z00 bw
  go_wp2
  go_loopw [22] (fun iv wr => ∃ k : Nat, k ≤ ts.length ∧ iv = .int .i64 k ∧ Hid (∀ t ∈ ts.take k, (toldF t.op t.a t.kids.length) = true) ∧ wr.cell? ⟨w.heap.size, 0, none⟩ = some (.slice na ts.length nc) ∧ w.heap.size < wr.heap.size ∧ Below w.heap.size w wr) (fun iv _ => ts.length - (intOf iv).toNat)
  case atStart => exact ⟨0, Nat.zero_le _, rfl, (fun t h => by simp at h : ∀ t ∈ ts.take 0, (toldF t.op t.a t.kids.length) = true), e0, z0, bw0⟩
  case round =>
    obtain ⟨k, hk, rfl, HO, ec, zc, hbel⟩ := hrel
    clear e0 z0 bw0
    have hbs := hbel.size
    by_cases hlt : k < ts.length
    · have hlti : (k : Int) < ts.length := by omega
      obtain ⟨g, o, rfl, _, hg, hgc⟩ := hcells (by omega)
      obtain ⟨cs, hC, hcell⟩ := hgc k hlt
      have hM := List.getElem_mem hlt
      have HST : Hid ((fun t => (toldF t.op t.a t.kids.length)) ts[k] = true → ∀ t ∈ ts.take (k + 1), (toldF t.op t.a t.kids.length) = true) := (fun z t ht => by
        rw [show ts.take (k + 1) = ts.take k ++ [ts[k]] by rw [List.take_add_one, List.getElem?_eq_getElem hlt]; rfl] at ht
        rcases List.mem_append.1 ht with h | h
        · exact HO.out t h
        · rw [List.mem_singleton] at h; rw [h]; exact z : (fun t => (toldF t.op t.a t.kids.length)) ts[k] = true → ∀ t ∈ ts.take (k + 1), (toldF t.op t.a t.kids.length) = true)
      have HNo : Hid ((fun t => (toldF t.op t.a t.kids.length)) ts[k] = false → (ts.all fun t => toldF t.op t.a t.kids.length) = false) := (fun z => by
        rw [List.all_eq_false]
        exact ⟨ts[k], List.getElem_mem hlt, by simpa using z⟩ : (fun t => (toldF t.op t.a t.kids.length)) ts[k] = false → (ts.all fun t => toldF t.op t.a t.kids.length) = false)
      have HM := hid hM
      clear hgc hcells HO hM
      generalize ts[k] = t at *
      have HC0 := hid hC
      obtain ⟨v0, rfl, hr0⟩ := hC
      obtain ⟨ka, kc, rfl, _⟩ := hr0
      have c0 : wr.cell? ⟨g, o + k * 8, none⟩ = some (.int .i64 t.op) := (hbel.cell (p := ⟨g, o + k * 8, none⟩) hg).trans (hcell 0 (by omega))
      have c1 : wr.cell? ⟨g, o + k * 8 + 1, none⟩ = some (.int .i64 t.kind) := (hbel.cell (p := ⟨g, o + k * 8 + 1, none⟩) hg).trans (hcell 1 (by omega))
      have c2 : wr.cell? ⟨g, o + k * 8 + 2, none⟩ = some (.int .i64 t.a) := (hbel.cell (p := ⟨g, o + k * 8 + 2, none⟩) hg).trans (hcell 2 (by omega))
      have c3 : wr.cell? ⟨g, o + k * 8 + 3, none⟩ = some (.int .i64 t.b) := (hbel.cell (p := ⟨g, o + k * 8 + 3, none⟩) hg).trans (hcell 3 (by omega))
      have c4 : wr.cell? ⟨g, o + k * 8 + 4, none⟩ = some (.int .i64 t.vk) := (hbel.cell (p := ⟨g, o + k * 8 + 4, none⟩) hg).trans (hcell 4 (by omega))
      have c5 : wr.cell? ⟨g, o + k * 8 + 5, none⟩ = some (.int .i64 t.vn) := (hbel.cell (p := ⟨g, o + k * 8 + 5, none⟩) hg).trans (hcell 5 (by omega))
      have c6 : wr.cell? ⟨g, o + k * 8 + 6, none⟩ = some (.string t.vs) := (hbel.cell (p := ⟨g, o + k * 8 + 6, none⟩) hg).trans (hcell 6 (by omega))
      have c7 : wr.cell? ⟨g, o + k * 8 + 7, none⟩ = some (.slice ka t.kids.length kc) := (hbel.cell (p := ⟨g, o + k * 8 + 7, none⟩) hg).trans (hcell 7 (by omega))
      clear hcell
      have bwA : Below w.heap.size w (wr.alloc (.cells #[.int .i64 t.op, .int .i64 t.kind, .int .i64 t.a, .int .i64 t.b, .int .i64 t.vk, .int .i64 t.vn, .string t.vs, .slice ka t.kids.length kc] 66)) := hbel.alloc hbs _
      have eA : (wr.alloc (.cells #[.int .i64 t.op, .int .i64 t.kind, .int .i64 t.a, .int .i64 t.b, .int .i64 t.vk, .int .i64 t.vn, .string t.vs, .slice ka t.kids.length kc] 66)).cell? ⟨w.heap.size, 0, none⟩ = some (.slice (some ⟨g, o, none⟩) ts.length nc) := ((below_alloc wr _).cell (p := ⟨w.heap.size, 0, none⟩) zc).trans ec
      have zA : w.heap.size < (wr.alloc (.cells #[.int .i64 t.op, .int .i64 t.kind, .int .i64 t.a, .int .i64 t.b, .int .i64 t.vk, .int .i64 t.vn, .string t.vs, .slice ka t.kids.length kc] 66)).heap.size := by simp; omega
      have h33 := told_any t _ _ (HB.out.2 _ HM.out).2 (liesX.below HC0.out bwA)
      obtain ⟨pt, hpt⟩ : ∃ p, (toldF t.op t.a t.kids.length) = p := ⟨_, rfl⟩
      rw [hpt] at h33
      simp only [hpt] at HST HNo
      clear hpt
      go_wp2_with (go_at_call 33; fail)
      refine h33.mono ?_
      rintro e w2 ⟨rfl, hb2⟩
      have bw2 : Below w.heap.size w w2 := bwA.trans (hb2.mono bwA.size)
      have e2 := (hb2.cell (p := ⟨w.heap.size, 0, none⟩) zA).trans eA
      have z2 : w.heap.size < w2.heap.size := Nat.lt_of_lt_of_le zA hb2.size
      clear hb2 h33
      cases pt
      · have HF := hid (HNo.out rfl)
        go_wp2
        go_ret
        exact ⟨ret_b (by rw [HE.out, HF.out]), bw2⟩
      · have HY := hid (HST.out rfl)
        go_wp2
        go_roundw
        case rel => exact ⟨k + 1, by omega, by go_num, HY, e2, z2, bw2⟩
        case measure => simp [intOf]; omega
    · have hkn : k = ts.length := by omega
      subst hkn
      have hlti : ¬ (ts.length : Int) < ts.length := by omega
      have HT : Hid ((ts.all fun t => toldF t.op t.a t.kids.length) = true) := (by
        rw [List.all_eq_true]
        have := HO.out
        rw [List.take_length] at this
        exact this : (ts.all fun t => toldF t.op t.a t.kids.length) = true)
      clear HO
      go_wp2
      go_ret
      exact ⟨ret_b (by rw [HE.out, HT.out]), hbel⟩
end Go.Proofs.Ytoieiegjhjedoaa
