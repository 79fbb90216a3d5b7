import Derived.Test.YtjfgojlnpbehfaaHD3
namespace Go.Proofs.Ytjfgojlnpbehfaa
open Go.ChangeShapes Go.WideShapes Go.ChangeAt Go.RowKit
set_option linter.unusedVariables false
set_option linter.unusedSimpArgs false
set_option maxRecDepth 100000
theorem cur_new (w : World) (v0 : Option Addr) (len cap : Nat) (c : Nat) (hc : c = w.heap.size) (hl : len ≤ 1048576) (hb : ∀ j, j < len → ∃ g o b, v0 = some ⟨g, o, none⟩ ∧ g < w.heap.size ∧ w.cell? ⟨g, o + j, none⟩ = some (.int .u8 b) ∧ 0 ≤ b ∧ b < 256) :
    IsCur (w.alloc (.cells #[.slice v0 len cap, .int .i64 0, .int .i64 0, .int .i64 0] 61)) c 0 := by
  subst hc
  refine ⟨v0, len, cap, 0, 0, 0, ⟨by simp [go_sem], by simp [go_sem], by simp [go_sem], by simp [go_sem], by simp [go_sem], by simp [go_sem], by omega, by omega, by omega, by omega, hl, by simp, ?_⟩⟩
  intro j hj
  obtain ⟨g, o, b, e1, e2, e3, e4, e5⟩ := hb j hj
  exact ⟨g, o, b, e1, e2, ((below_alloc w _).cell (p := ⟨g, o + j, none⟩) e2).trans e3, e4, e5⟩
theorem HstN.base {b b' : Nat} {w : World} {v : Value} {ts : List (Value × Value × TI)} (h : HstN b w v ts) (hb : b' ≤ b) : HstN b' w v ts := ⟨own_base h.row hb, fun x hx => ⟨own_base (h.nest x hx).1 hb, own_base (h.nest x hx).2 hb⟩⟩
/-- What the draw answers: a history in memory of its own. -/
def SerD (w : World) (e : Ending) (w' : World) : Prop := ∃ v ts, e = .returned v ∧ HstN w.heap.size w' v ts ∧ ts.length ≤ 8 ∧ (∀ x ∈ ts, x.2.2.reads.length ≤ 6 ∧ x.2.2.writes.length ≤ 6) ∧ Below w.heap.size w w'
set_option maxHeartbeats 4000000 in
theorem drawSerial_any (v0 : Option Addr) (len cap : Nat) (w : World) (hl : len ≤ 1048576) (hb : ∀ j, j < len → ∃ g o b, v0 = some ⟨g, o, none⟩ ∧ g < w.heap.size ∧ w.cell? ⟨g, o + j, none⟩ = some (.int .u8 b) ∧ 0 ≤ b ∧ b < 256) :
    Calls Try.prog 20 #[.slice v0 len cap] w fun e w' => SerD w e w' := by
  have HC0 := hid (cur_new w v0 len cap _ rfl hl hb)
  clear hb
  go_enter Try.func20, Try.ntmps20
  go_wp2_with (go_at_call 34; fail)
  refine (mode_any w.heap.size 0 _ HC0.out (by omega)).mono ?_
  rintro e w1 ⟨r, r0, r1, rfl, hc1, hu1⟩
  have HB1 : Hid (Below w.heap.size w w1) := (Upd.below (below_alloc w _) hu1 (Nat.le_refl _) : Below w.heap.size w w1)
  have HC1 := hid hc1
  have hlt := hc1.lt
  clear HC0 hc1 hu1
  go_wp2_with (go_at_call 35; fail)
  refine (drawHistory_any w.heap.size _ _ HC1.out (by omega)).mono ?_
  rintro e w2 ⟨v, ts, rfl, hd, hsm⟩
  have HD := hid hd
  have HS := hid hsm
  clear hd hsm HC1
  by_cases hr : r = 1
  · have hr' : (r == 1) = true := by simpa using hr
    clear hr
    go_wp2_with (go_at_call 36; fail)
    refine (spoil_any w.heap.size _ w1 _ v ts HD.out HS.out hlt (by omega)).mono ?_
    rintro e w3 ⟨v3, us, rfl, hh, hl3, hs3, hu3⟩
    have HF := hid (hh.base (Nat.le_of_lt hlt))
    have HL := hid hl3
    have HX := hid hs3
    have HB3 : Hid (Below w.heap.size w w3) := (Upd.below HB1.out hu3 (Nat.le_refl _) : Below w.heap.size w w3)
    clear hh hl3 hs3 hu3 HD HS HB1
    go_wp2
    go_ret
    exact ⟨_, us, rfl, HF.out, HL.out, HX.out, HB3.out⟩
  · have hr' : (r == 1) = false := by simpa using hr
    clear hr
    go_wp2
    go_ret
    exact ⟨_, ts, rfl, HD.out.hst.n.base (Nat.le_of_lt hlt), HS.out.1, fun x hx => by have := HS.out.2 x hx; omega, Upd.below HB1.out HD.out.upd (Nat.le_refl _)⟩
end Go.Proofs.Ytjfgojlnpbehfaa
