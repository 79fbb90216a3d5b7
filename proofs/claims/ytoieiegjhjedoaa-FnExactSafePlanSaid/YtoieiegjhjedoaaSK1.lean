import Derived.Test.YtoieiegjhjedoaaSO1
namespace Go.Proofs.Ytoieiegjhjedoaa
open Go.ChangeShapes Go.WideShapes Go.ChangeAt Go.RowKit
set_option linter.unusedVariables false
set_option linter.unusedSimpArgs false
set_option maxRecDepth 100000
theorem own_ri {w : World} {b : Nat} {v : Value} {ks : List Int} (h : w.ownsRow b 3 1 v ks.length (ks.map (Value.int .i64))) : RI w v ks := by
  rcases own_shape h with ⟨rfl, hn0⟩ | ⟨vg, vcap, rfl, hvc, hvm, hvg⟩
  · exact ⟨none, 0, by rw [hn0], fun h => by omega⟩
  · refine ⟨some ⟨vg, 0, none⟩, vcap, rfl, fun _ => ⟨vg, 0, rfl, hvg, fun i hi => ?_⟩⟩
    rw [Nat.zero_add]
    exact own_cell h (by rw [List.getElem?_map, List.getElem?_eq_getElem hi]; rfl)
def kindA (ts : List XN) (k : Int) : Int := (ts[k.toNat]?.map XN.kind).getD 0
def kindsOf (ts : List XN) (t : XN) : List Int := t.kids.map (kindA ts)
set_option maxHeartbeats 8000000 in
theorem kindsAt_any (ts : List XN) (ks : List Int) (kv nv : Value) (w : World) (hn : ks.length ≤ 1048576) (hL : ts.length ≤ 1048576) (hks : ∀ x ∈ ks, ∃ y : Nat, x = (y : Int) ∧ y < ts.length) (hk : RI w kv ks) (hv : RS 8 CX 0 w nv ts) :
    Calls Try.prog 43 #[kv, nv] w fun e w' => ∃ v, e = .returned v ∧ RI w' v (ks.map (kindA ts)) ∧ Below w.heap.size w w' := by
  obtain ⟨i0, hi, hz0, hz1, hz2⟩ := info_parts info3
  obtain ⟨ka, kc, rfl, hkc⟩ := hk
  obtain ⟨na, nc, rfl, hnc⟩ := hv
  have HKS : Hid (∀ x ∈ ks, ∃ y : Nat, x = (y : Int) ∧ y < ts.length) := hks
  clear hks
  go_enter Try.func43, Try.ntmps43
  go_wp2
  go_loopw [5, 10] (fun v iv wr => ∃ k : Nat, k ≤ ks.length ∧ iv = .int .i64 k ∧ wr.ownsRow w.heap.size 3 1 v k (((ks.take k).map (kindA ts)).map (Value.int .i64)) ∧ Below w.heap.size w wr) (fun _ iv _ => ks.length - (intOf iv).toNat)
  case atStart => exact ⟨0, Nat.zero_le _, rfl, World.ownsRow_nil _ _ _ _, Below.refl _ _⟩
  case round =>
    obtain ⟨k, hk, rfl, hown, hbel⟩ := hrel
    have hbs := hbel.size
    by_cases hlt : k < ks.length
    · have hlti : (k : Int) < ks.length := by omega
      obtain ⟨kg, ko, rfl, hkg, hkcc⟩ := hkc (by omega)
      obtain ⟨y, hy, hyt⟩ := HKS.out ks[k] (List.getElem_mem hlt)
      have k0 := (hbel.cell (p := ⟨kg, ko + k, none⟩) hkg).trans (hkcc k hlt)
      rw [hy] at k0
      have hyti : (y : Int) < ts.length := by omega
      obtain ⟨g, o, rfl, _, hg, hgc⟩ := hnc (by omega)
      obtain ⟨cs, hC, hcell⟩ := hgc y hyt
      obtain ⟨v0, rfl, _⟩ := hC
      have c1 : wr.cell? ⟨g, o + y * 8 + 1, none⟩ = some (.int .i64 ts[y].kind) := (hbel.cell (p := ⟨g, o + y * 8 + 1, none⟩) hg).trans (hcell 1 (by omega))
      have HX : Hid (((ks.take (k + 1)).map (kindA ts)).map (Value.int .i64) = ((ks.take k).map (kindA ts)).map (Value.int .i64) ++ [.int .i64 ts[y].kind]) := (by
        rw [show ks.take (k + 1) = ks.take k ++ [ks[k]] by rw [List.take_add_one, List.getElem?_eq_getElem hlt]; rfl, List.map_append, List.map_append, hy]
        congr 1
        simp [kindA, List.getElem?_eq_getElem hyt] : ((ks.take (k + 1)).map (kindA ts)).map (Value.int .i64) = ((ks.take k).map (kindA ts)).map (Value.int .i64) ++ [.int .i64 ts[y].kind])
      generalize ts[y].kind = x at *
      clear hgc hnc hkc hkcc hcell hy
      go_wp2_with (at_builtin; refine wpList_append_own _ rfl (.tmp 14) (.tmp 20) 35 rfl w.heap.size 3 i0 (.int .i64 0) 1 8 Try.underlying35 hi hz0 hz1 hz2 rfl (by decide) _ _ _ rfl (hown.alloc _) ⟨wr.heap.size, 0, none⟩ 1 1 [.int .i64 x] rfl rfl (cell_one_new _ _ _) (by intro u hu; simp at hu; subst hu; rfl) (by unfold maxLen; omega) (by omega) (by have := hbel.size; simp; omega) ?_; intro v' w1 hown' hgrow _)
      have B1 : Below w.heap.size w w1 := (hbel.alloc hbel.size _).grown hgrow (by have := hbel.size; simp; omega) (fun j hj => by have := (hown.lt j hj).1; omega)
      go_wp2
      go_roundw
      case rel => exact ⟨k + 1, by omega, by go_num, by rw [HX.out]; exact hown', B1⟩
      case measure => simp [intOf]; omega
    · have hkn : k = ks.length := by omega
      subst hkn
      have hlti : ¬ (ks.length : Int) < ks.length := by omega
      rw [List.take_length] at hown
      have HR := hid (own_ri (ks := ks.map (kindA ts)) (by rw [List.length_map]; exact hown))
      go_wp2
      go_ret
      exact ⟨_, rfl, HR.out, hbel⟩
end Go.Proofs.Ytoieiegjhjedoaa
