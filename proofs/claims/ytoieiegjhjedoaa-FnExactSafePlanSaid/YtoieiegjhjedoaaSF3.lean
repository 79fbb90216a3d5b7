import Derived.Test.YtoieiegjhjedoaaSF2
namespace Go.Proofs.Ytoieiegjhjedoaa
open Go.ChangeShapes Go.WideShapes Go.ChangeAt Go.RowKit
set_option linter.unusedVariables false
set_option linter.unusedSimpArgs false
set_option maxRecDepth 100000
set_option maxHeartbeats 16000000 in
theorem allText_any (ts : List XN) (na : Option Addr) (nc : Nat) (w : World) (hB : BE 1048576 ts) (hks : ∀ t ∈ ts, ∀ x ∈ t.kids, ∃ y : Nat, x = (y : Int) ∧ y < ts.length) (hx : ∀ t ∈ ts, t.kids.length ≤ 400 ∧ -9223372036854775808 ≤ t.a ∧ t.a ≤ 9223372036854775807) (hv : RS 8 CX 0 w (.slice na ts.length nc) ts) :
    Calls Try.prog 24 #[.agg #[.slice na ts.length nc], .func (.func 40) #[] #[]] w fun e w' => e = .returned (.bool (ts.all fun t => toldF t.op t.a t.kids.length)) ∧ Below w.heap.size w w' := by
  have HV : Hid (RS 8 CX 0 w (.slice na ts.length nc) ts) := hv
  have HB : Hid (BE 1048576 ts) := hB
  have HK : Hid (∀ t ∈ ts, ∀ x ∈ t.kids, ∃ y : Nat, x = (y : Int) ∧ y < ts.length) := hks
  have HH := hid hx
  obtain ⟨a', c', he, hcells⟩ := hv
  simp only [Value.slice.injEq] at he
  obtain ⟨rfl, _, rfl⟩ := he
  have hL := hB.1
  have bw0 := below_alloc w (.cells #[.slice na ts.length nc] 50)
  have e0 : (w.alloc (.cells #[.slice na ts.length nc] 50)).cell? ⟨w.heap.size, 0, none⟩ = some (.slice na ts.length nc) := by simp
  have z0 : w.heap.size < (w.alloc (.cells #[.slice na ts.length nc] 50)).heap.size := by simp
  clear hB hks hx
  go_enter Try.func24, Try.ntmps24
  go_wp2
  go_loopw [10] (fun iv wr => ∃ k : Nat, k ≤ ts.length ∧ iv = .int .i64 k ∧ Hid (∀ t ∈ ts.take k, (toldF t.op t.a t.kids.length) = true) ∧ wr.cell? ⟨w.heap.size, 0, none⟩ = some (.slice na ts.length nc) ∧ w.heap.size < wr.heap.size ∧ Below w.heap.size w wr) (fun iv _ => ts.length - (intOf iv).toNat)
  case atStart => exact ⟨0, Nat.zero_le _, rfl, (fun t h => by simp at h : ∀ t ∈ ts.take 0, (toldF t.op t.a t.kids.length) = true), e0, z0, bw0⟩
  case round =>
    obtain ⟨k, hk, rfl, HO, ec, zc, hbel⟩ := hrel
    clear e0 z0 bw0
    have hbs := hbel.size
    by_cases hlt : k < ts.length
    · have hlti : (k : Int) < ts.length := by omega
      obtain ⟨g, o, rfl, _, hg, hgc⟩ := hcells (by omega)
      obtain ⟨cs, hC, hcell⟩ := hgc k hlt
      have hB1 := (HB.out.2 _ (List.getElem_mem hlt)).2
      have hK1 := HK.out _ (List.getElem_mem hlt)
      have hH1 := HH.out _ (List.getElem_mem hlt)
      have HST : Hid ((fun t => (toldF t.op t.a t.kids.length)) ts[k] = true → ∀ t ∈ ts.take (k + 1), (toldF t.op t.a t.kids.length) = true) := (fun z t ht => by
        rw [show ts.take (k + 1) = ts.take k ++ [ts[k]] by rw [List.take_add_one, List.getElem?_eq_getElem hlt]; rfl] at ht
        rcases List.mem_append.1 ht with h | h
        · exact HO.out t h
        · rw [List.mem_singleton] at h; rw [h]; exact z : (fun t => (toldF t.op t.a t.kids.length)) ts[k] = true → ∀ t ∈ ts.take (k + 1), (toldF t.op t.a t.kids.length) = true)
      have HNo : Hid ((fun t => (toldF t.op t.a t.kids.length)) ts[k] = false → (ts.all fun t => toldF t.op t.a t.kids.length) = false) := (fun z => by
        rw [List.all_eq_false]
        exact ⟨ts[k], List.getElem_mem hlt, by simpa using z⟩ : (fun t => (toldF t.op t.a t.kids.length)) ts[k] = false → (ts.all fun t => toldF t.op t.a t.kids.length) = false)
      clear hgc hcells HO
      generalize ts[k] = t at *
      have HC0 := hid hC
      obtain ⟨v0, rfl, hr0⟩ := hC
      have R0 := hid hr0
      obtain ⟨ka, kc, rfl, _⟩ := hr0
      have c0 : wr.cell? ⟨g, o + k * 8, none⟩ = some (.int .i64 t.op) := (hbel.cell (p := ⟨g, o + k * 8, none⟩) hg).trans (hcell 0 (by omega))
      have c1 : wr.cell? ⟨g, o + k * 8 + 1, none⟩ = some (.int .i64 t.kind) := (hbel.cell (p := ⟨g, o + k * 8 + 1, none⟩) hg).trans (hcell 1 (by omega))
      have c2 : wr.cell? ⟨g, o + k * 8 + 2, none⟩ = some (.int .i64 t.a) := (hbel.cell (p := ⟨g, o + k * 8 + 2, none⟩) hg).trans (hcell 2 (by omega))
      have c3 : wr.cell? ⟨g, o + k * 8 + 3, none⟩ = some (.int .i64 t.b) := (hbel.cell (p := ⟨g, o + k * 8 + 3, none⟩) hg).trans (hcell 3 (by omega))
      have c4 : wr.cell? ⟨g, o + k * 8 + 4, none⟩ = some (.int .i64 t.vk) := (hbel.cell (p := ⟨g, o + k * 8 + 4, none⟩) hg).trans (hcell 4 (by omega))
      have c5 : wr.cell? ⟨g, o + k * 8 + 5, none⟩ = some (.int .i64 t.vn) := (hbel.cell (p := ⟨g, o + k * 8 + 5, none⟩) hg).trans (hcell 5 (by omega))
      have c6 : wr.cell? ⟨g, o + k * 8 + 6, none⟩ = some (.string t.vs) := (hbel.cell (p := ⟨g, o + k * 8 + 6, none⟩) hg).trans (hcell 6 (by omega))
      have c7 : wr.cell? ⟨g, o + k * 8 + 7, none⟩ = some (.slice ka t.kids.length kc) := (hbel.cell (p := ⟨g, o + k * 8 + 7, none⟩) hg).trans (hcell 7 (by omega))
      clear hcell
      have bwA : Below w.heap.size w (wr.alloc (.cells #[.int .i64 t.op, .int .i64 t.kind, .int .i64 t.a, .int .i64 t.b, .int .i64 t.vk, .int .i64 t.vn, .string t.vs, .slice ka t.kids.length kc] 66)) := hbel.alloc hbs _
      have K0 := hid (blk_new wr [.int .i64 t.op, .int .i64 t.kind, .int .i64 t.a, .int .i64 t.b, .int .i64 t.vk, .int .i64 t.vn, .string t.vs, .slice ka t.kids.length kc] 66)
      have eA : (wr.alloc (.cells #[.int .i64 t.op, .int .i64 t.kind, .int .i64 t.a, .int .i64 t.b, .int .i64 t.vk, .int .i64 t.vn, .string t.vs, .slice ka t.kids.length kc] 66)).cell? ⟨w.heap.size, 0, none⟩ = some (.slice (some ⟨g, o, none⟩) ts.length nc) := ((below_alloc wr _).cell (p := ⟨w.heap.size, 0, none⟩) zc).trans ec
      have hk43 := fun W (h : Below w.heap.size w W) => kindsAt_any ts t.kids (.slice ka t.kids.length kc) (.slice (some ⟨g, o, none⟩) ts.length nc) W hB1 hL hK1 (R0.out.below liesI h).ri (HV.out.below liesX h)
      have hFF := fun W (h : Below w.heap.size w W) (v7 : Value) (h7 : RI W v7 (kindsOf ts t)) => hasText1_any t _ v7 W hH1.1 hH1.2 (liesX.below HC0.out h)
      have hdA : Below w.heap.size w (wr.alloc (.cells #[.int .i64 t.op, .int .i64 t.kind, .int .i64 t.a, .int .i64 t.b, .int .i64 t.vk, .int .i64 t.vn, .string t.vs, .slice ka t.kids.length kc] 66)).drew := bwA.drew
      obtain ⟨pt, hpt⟩ : ∃ p, (fun t => (toldF t.op t.a t.kids.length)) t = p := ⟨_, rfl⟩
      rw [hpt] at HST HNo
      simp only at hpt
      simp only [hpt] at hFF
      clear hpt
      go_wp2
      go_region_with (first | (go_at_call 43; refine (hk43 _ hdA).mono ?_; rintro e w7 ⟨v7, rfl, hr7, hb7⟩; replace hb7 := undrew hb7; have bw7 : Below w.heap.size w w7 := bwA.trans (hb7.mono bwA.size); have e7 := (hb7.cell (p := ⟨w.heap.size, 0, none⟩) (by simp; omega)).trans eA; have z7 : w.heap.size < w7.heap.size := Nat.lt_of_lt_of_le (by simp; omega) hb7.size; have K7 := hid (K0.out.below hb7 (by simp)); have n0 : w7.cell? ⟨wr.heap.size, 0, none⟩ = some (.int .i64 t.op) := (K7.out 0 (by simp)).1; have n1 : w7.cell? ⟨wr.heap.size, 1, none⟩ = some (.int .i64 t.kind) := (K7.out 1 (by simp)).1; have n2 : w7.cell? ⟨wr.heap.size, 2, none⟩ = some (.int .i64 t.a) := (K7.out 2 (by simp)).1; have n3 : w7.cell? ⟨wr.heap.size, 3, none⟩ = some (.int .i64 t.b) := (K7.out 3 (by simp)).1; have n4 : w7.cell? ⟨wr.heap.size, 4, none⟩ = some (.int .i64 t.vk) := (K7.out 4 (by simp)).1; have n5 : w7.cell? ⟨wr.heap.size, 5, none⟩ = some (.int .i64 t.vn) := (K7.out 5 (by simp)).1; have n6 : w7.cell? ⟨wr.heap.size, 6, none⟩ = some (.string t.vs) := (K7.out 6 (by simp)).1; have n7 : w7.cell? ⟨wr.heap.size, 7, none⟩ = some (.slice ka t.kids.length kc) := (K7.out 7 (by simp)).1; have h8 := hFF w7 bw7 v7 hr7; have h9' := hFF w7.drew bw7.drew v7 (hr7.below ((Below.refl _ w7).drew)); clear hb7 hr7 K7) | (go_at_call 40; refine h8.mono ?_; rintro e w8 ⟨rfl, hb8⟩; have bw8 : Below w.heap.size w w8 := bw7.trans (hb8.mono bw7.size); have e8 := (hb8.cell (p := ⟨w.heap.size, 0, none⟩) z7).trans e7; have z8 : w.heap.size < w8.heap.size := Nat.lt_of_lt_of_le z7 hb8.size) | (go_at_call 40; refine h9'.mono ?_; rintro e w8 ⟨rfl, hb8⟩; replace hb8 := undrew hb8; have bw8 : Below w.heap.size w w8 := bw7.trans (hb8.mono bw7.size); have e8 := (hb8.cell (p := ⟨w.heap.size, 0, none⟩) z7).trans e7; have z8 : w.heap.size < w8.heap.size := Nat.lt_of_lt_of_le z7 hb8.size))
      all_goals
        cases pt
        · have HF := hid (HNo.out rfl)
          go_wp2
          go_ret
          exact ⟨ret_b HF.out.symm, by first | exact bw8 | exact bw8.drew⟩
        · have HY := hid (HST.out rfl)
          go_wp2
          go_roundw
          case rel => exact ⟨k + 1, by omega, by go_num, HY, by first | exact e8 | simpa using e8, by first | exact z8 | simpa using z8, by first | exact bw8 | exact bw8.drew⟩
          case measure => simp [intOf]; omega
    · have hkn : k = ts.length := by omega
      subst hkn
      have hlti : ¬ (ts.length : Int) < ts.length := by omega
      have HT : Hid ((ts.all fun t => toldF t.op t.a t.kids.length) = true) := (by
        rw [List.all_eq_true]
        have := HO.out
        rw [List.take_length] at this
        exact this : (ts.all fun t => toldF t.op t.a t.kids.length) = true)
      clear HO
      go_wp2
      go_ret
      exact ⟨ret_b HT.out.symm, hbel⟩
end Go.Proofs.Ytoieiegjhjedoaa
