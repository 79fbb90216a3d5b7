import Derived.Test.YtfgjleifhjegkaaDoorKPT
import Derived.Test.YtfgjleifhjegkaaDoorIA
import Derived.Test.YtfgjleifhjegkaaDoorNG
import Derived.Deep.RegionHeldLaw
namespace Go.Proofs.YtfgjleifhjegkaaDoor
open Go.ChangeShapes Go.WideShapes Go.ChangeAt Go.RowKit
set_option linter.unusedVariables false
set_option linter.unusedSimpArgs false
set_option maxRecDepth 100000
theorem YOut.boxNe {ty b q : Nat} {w : World} {v : Value} {xs : List Int} {k : Int} {r : List Value} (h : YOut ty b w v xs) (hp : 0 < xs.length) (hB : Blk w q (.int .i64 k :: r)) : some q ≠ v.ownBlock := by
  obtain ⟨g, cap, rfl, _, _, hc⟩ := h.cells hp
  intro e
  simp [Value.ownBlock] at e
  subst e
  have h0 := (hB 0 (by simp)).1
  have h1 := hc 0 (.int .u8 xs[0]) (by rw [List.getElem?_map, List.getElem?_eq_getElem hp]; rfl)
  rw [Addr.add_lit, Nat.zero_add, h0] at h1
  simp at h1
set_option maxHeartbeats 8000000 in
theorem varint_onto (b0 : Nat) (oa : Option Addr) (oc : Nat) (xs : List Int) (n : Nat) (w : World) (h0 : b0 ≤ w.heap.size) (hx : xs.length ≤ 100000000) (hn : n < 18446744073709551616) (HY : YOut 5 b0 w (.slice oa xs.length oc) xs) (hp : 0 < xs.length) (q : Nat) (bk : Int) (br : List Value) (hq : q < w.heap.size) (hB : Blk w q (.int .i64 bk :: br)) :
    Calls Tryd.prog 58 #[.slice oa xs.length oc, .int .u64 (n : Int)] w fun e w' => Onto b0 w (xs ++ varF 9 n) e w' ∧ Blk w' q (.int .i64 bk :: br) := by
  obtain ⟨i0, hi, hz0, hz1, hz2⟩ := info_parts infoU8
  have HY0 := hid HY
  have HB0 : Hid (Blk w q (.int .i64 bk :: br)) := hB
  clear HY hB
  go_enter Tryd.func58, Tryd.ntmps58
  go_wp2
  go_loopw [0, 1] (fun v uv wr => ∃ (m f : Nat) (acc : List Int) (oa : Option Addr) (oc : Nat), acc.length + f ≤ xs.length + 9 ∧ m < 2 * 128 ^ f ∧ m < 18446744073709551616 ∧ uv = .int .u64 (m : Int) ∧ v = .slice oa acc.length oc ∧ Hid (YOut 5 b0 wr (.slice oa acc.length oc) acc) ∧ Hid (xs ++ varF 9 n = acc ++ varF f m) ∧ 0 < acc.length ∧ q < wr.heap.size ∧ Hid (Blk wr q (.int .i64 bk :: br)) ∧ b0 ≤ wr.heap.size ∧ Below b0 w wr) (fun _ uv _ => (intOf uv).toNat)
  case atStart => exact ⟨n, 9, xs, _, _, Nat.le_refl _, by omega, hn, rfl, rfl, HY0, rfl, hp, hq, HB0, h0, Below.refl _ _⟩
  case round =>
    clear HY0 HB0
    obtain ⟨m, f, acc, oa, oc, hf, hm, hm64, rfl, rfl, HY, HV, hap, hqr, HB, hsz, hb⟩ := hrel
    have HNE := hid (HY.out.boxNe hap HB.out)
    have hal : acc.length ≤ 100000009 := by omega
    by_cases hlt : m < 128
    · have hlti : ¬ (128 : Int) ≤ m := by omega
      have HE : Hid (xs ++ varF 9 n = acc ++ [(m : Int)]) := (by rw [HV.out, varF_small hlt] : xs ++ varF 9 n = acc ++ [(m : Int)])
      have hcv : IntKind.u8.wrap (m : Int) = m := by simp only [IntKind.wrap, IntKind.bits, IntKind.signed]; simp; omega
      have hbw : Below b0 w (wr.alloc (.cells #[.int .u8 (m : Int)] 5)) := hb.alloc hsz _
      have HLT := hid (World.ownsRow.lt HY.out)
      go_wp2_with (at_builtin; refine wpList_append_own _ rfl (.tmp 16) (.tmp 19) 24 rfl b0 5 i0 (.int .u8 0) 1 1 Tryd.underlying24 hi hz0 hz1 hz2 rfl (by decide) _ _ _ rfl (World.ownsRow.alloc HY.out _) ⟨wr.heap.size, 0, none⟩ 1 1 [.int .u8 (m : Int)] rfl rfl (blk_new wr [.int .u8 (m : Int)] 5).cells (by intro u hu; simp at hu; subst hu; rfl) (by unfold maxLen; omega) (by omega) (by simp; omega) ?_; intro v2 w2 hown2 hgrow2 hiff2; clear hiff2)
      have b2 : Below b0 w w2 := hbw.grown hgrow2 (by simp; omega) (fun j hj => (HLT.out j hj).1)
      have HB2 : Hid (Blk w2 q (.int .i64 bk :: br)) := (HB.out.below (below_alloc _ _) hqr).grown hgrow2 (by simp; omega) HNE.out
      have HR : Hid (YOut 5 b0 w2 v2 (xs ++ varF 9 n)) := (by rw [HE.out]; exact YOut.push hown2 : YOut 5 b0 w2 v2 (xs ++ varF 9 n))
      clear hown2 hgrow2
      go_wp2
      go_ret
      exact ⟨⟨⟨_, rfl, HR.out⟩, b2⟩, HB2.out⟩
    · have hlti : (128 : Int) ≤ m := by omega
      rcases f with _ | f
      · exfalso; simp at hm; omega
      have hm2 : m / 128 < 2 * 128 ^ f := Nat.div_lt_of_lt_mul (by rw [Nat.pow_succ] at hm; omega)
      obtain ⟨x, hx1⟩ : ∃ x : Int, x = ((m % 128 + 128 : Nat) : Int) := ⟨_, rfl⟩
      have HE : Hid (xs ++ varF 9 n = (acc ++ [x]) ++ varF f (m / 128)) := (by rw [HV.out, varF_big hlt, hx1]; simp : xs ++ varF 9 n = (acc ++ [x]) ++ varF f (m / 128))
      have hcv : IntKind.u8.wrap ((m : Int) % 128 + 128) = x := by rw [hx1]; simp only [IntKind.wrap, IntKind.bits, IntKind.signed]; simp; omega
      have hbw : Below b0 w (wr.alloc (.cells #[.int .u8 x] 5)) := hb.alloc hsz _
      have HLT := hid (World.ownsRow.lt HY.out)
      have hm128 : (m : Int) % 128 < 128 := by omega
      have hm0 : 0 ≤ (m : Int) % 128 := by omega
      clear hx1 HV
      go_wp2_with (at_builtin; refine wpList_append_own _ rfl (.tmp 9) (.tmp 14) 24 rfl b0 5 i0 (.int .u8 0) 1 1 Tryd.underlying24 hi hz0 hz1 hz2 rfl (by decide) _ _ _ rfl (World.ownsRow.alloc HY.out _) ⟨wr.heap.size, 0, none⟩ 1 1 [.int .u8 x] rfl rfl (blk_new wr [.int .u8 x] 5).cells (by intro u hu; simp at hu; subst hu; rfl) (by unfold maxLen; omega) (by omega) (by simp; omega) ?_; intro v2 w2 hown2 hgrow2 hiff2; clear hiff2)
      have b2 : Below b0 w w2 := hbw.grown hgrow2 (by simp; omega) (fun j hj => (HLT.out j hj).1)
      have hs2 : b0 ≤ w2.heap.size := by have := hgrow2.size; simp at this; omega
      have HB2 : Hid (Blk w2 q (.int .i64 bk :: br)) := (HB.out.below (below_alloc _ _) hqr).grown hgrow2 (by simp; omega) HNE.out
      have hq2 : q < w2.heap.size := by have := hgrow2.size; simp at this; omega
      have HR := hid (YOut.push hown2)
      obtain ⟨oa2, oc2, rfl⟩ := HR.out.form
      have hl2 : (acc ++ [x]).length = acc.length + 1 := by simp
      obtain ⟨acc2, hac⟩ : ∃ l, l = acc ++ [x] := ⟨_, rfl⟩
      rw [← hac] at HR HE hl2 ⊢
      have hap2 : 0 < acc2.length := by omega
      clear hown2 hgrow2 HY hac HLT hbw hb HB HNE
      go_wp2
      go_roundw
      case rel => exact ⟨m / 128, f, acc2, oa2, oc2, by omega, hm2, by omega, by go_num, rfl, HR, HE, hap2, hq2, HB2, hs2, b2⟩
      case measure => simp [intOf]; omega
end Go.Proofs.YtfgjleifhjegkaaDoor
namespace Go.Proofs.YtfgjleifhjegkaaDoor
open Go.ChangeShapes Go.WideShapes Go.ChangeAt Go.RowKit
set_option linter.unusedVariables false
set_option linter.unusedSimpArgs false
set_option maxRecDepth 100000
theorem step_append_string {P : Program} {ops : Array Oper} {o : Oper} {a : Act} {w : World} {K : Act → World → Prop} {Q : Exit → Act → World → Prop} {E : Prop}
    (hg : o.guard = none) (sl x : Operand) (t u : TypeId) (hop : o.op = Op.call { callee := Callee.builtin Builtin.append, args := #[sl, x], argTypes := #[t, u] })
    (base : Nat) (e : TypeId) (i : TypeInfo) (ht : P.underlying t = some (.slice e)) (hu : P.underlying u = some .string) (hi : P.info? e = some i) (hz : i.zero = some (.int .u8 0)) (hsize : i.size = 1) (hby : i.bytes = 1)
    (v : Value) (n : Nat) (xs : List Value) (hs : a.eval sl = v) (hown : w.ownsRow base e 1 v n xs) (s : ByteArray) (hx : a.eval x = .string s)
    (b1 : n + s.size ≤ maxLen) (b2 : n + s.size ≤ 140737488355328) (hbase : base ≤ w.heap.size)
    (hK : ∀ v' w', w'.ownsRow base e 1 v' (n + s.size) (xs ++ Lib.strCells s) → w.grownBy w' v.ownBlock → (v' = .slice none 0 0 ↔ v = .slice none 0 0 ∧ s.size = 0) → K (a.put o.dst v') w') :
    if Region.wanted o (yielded ops a.tmps) = true then Oper.wp P o a w K Q else E := by
  have hw : Region.wanted o (yielded ops a.tmps) = true := by simp [Region.wanted, hg]
  rw [if_pos hw]
  obtain ⟨v', w', hrun, r1, r2, r3⟩ := Lib.run_append_own_string (P := P) w base t u o.type e i ht hu hi hz hsize hby v n xs hown s b1 b2 hbase
  unfold Oper.wp
  simp [execOp, hop, resolve, invoke, builtin, hs, hx, hrun, Result.andThen]
  exact hK v' w' r1 r2 r3
/-- What stands of a value in a row. -/
def rowQ (k n : Int) (s : ByteArray) : List Int :=
  k :: if k = 1 ∨ k = 2 ∨ k = 5 then varF 9 (foldN n).toNat
  else if k = 3 then varF 9 s.size ++ strI s
  else if k = 4 then [n]
  else []
theorem foldN_nat' {n : Int} (h0 : -9223372036854775808 ≤ n) (h1 : n ≤ 9223372036854775807) : ∃ m : Nat, foldN n = m ∧ m < 18446744073709551616 := by
  refine ⟨(foldN n).toNat, ?_, ?_⟩ <;> unfold foldN <;> split <;> omega
set_option maxHeartbeats 8000000 in
theorem rpo0 (b0 : Nat) (oa : Option Addr) (oc : Nat) (xs : List Int) (n : Int) (s : ByteArray) (w : World) (h0 : b0 ≤ w.heap.size) (hx : xs.length ≤ 90000000) (HY : YOut 5 b0 w (.slice oa xs.length oc) xs) :
    Calls Tryd.prog 38 #[.slice oa xs.length oc, .agg #[.int .i64 0, .int .i64 n, .string s]] w fun e w' => Onto b0 w (xs ++ rowQ 0 n s) e w' := by
  obtain ⟨i0, hi, hz0, hz1, hz2⟩ := info_parts infoU8
  have HK : Hid (rowQ 0 n s = 0 :: []) := (by unfold rowQ; simp : rowQ 0 n s = 0 :: [])
  have HE : Hid (xs ++ rowQ 0 n s = (xs ++ [0]) ++ []) := (by rw [HK.out]; simp : xs ++ rowQ 0 n s = (xs ++ [0]) ++ [])
  have HYA : Hid (YOut 5 b0 ((w.alloc (.cells #[.int .i64 0, .int .i64 n, .string s] 39)).alloc (.cells #[.int .u8 0] 5)) (.slice oa xs.length oc) xs) := World.ownsRow.alloc (World.ownsRow.alloc HY _) _
  have HBA : Hid (Blk ((w.alloc (.cells #[.int .i64 0, .int .i64 n, .string s] 39)).alloc (.cells #[.int .u8 0] 5)) w.heap.size [.int .i64 0, .int .i64 n, .string s]) := (blk_new w [.int .i64 0, .int .i64 n, .string s] 39).below (below_alloc _ _) (by simp)
  have HCA : Hid (∀ j u, ([.int .u8 0] : List Value)[j]? = some u → ((w.alloc (.cells #[.int .i64 0, .int .i64 n, .string s] 39)).alloc (.cells #[.int .u8 0] 5)).cell? ((⟨w.heap.size + 1, 0, none⟩ : Addr).add j) = some u) := (by
    have := (blk_new (w.alloc (.cells #[.int .i64 0, .int .i64 n, .string s] 39)) [.int .u8 0] 5).cells
    simpa using this : ∀ j u, ([.int .u8 0] : List Value)[j]? = some u → ((w.alloc (.cells #[.int .i64 0, .int .i64 n, .string s] 39)).alloc (.cells #[.int .u8 0] 5)).cell? ((⟨w.heap.size + 1, 0, none⟩ : Addr).add j) = some u)
  have bwA : Below b0 w ((w.alloc (.cells #[.int .i64 0, .int .i64 n, .string s] 39)).alloc (.cells #[.int .u8 0] 5)) := ((Below.refl b0 w).alloc h0 _).alloc (by simp; omega) _
  have HLT := hid (World.ownsRow.lt HY)
  clear HY HK
  go_enter Tryd.func38, Tryd.ntmps38
  go_wp2_with (first
    | (at_builtin
       refine wpList_append_own _ rfl (.tmp 5) (.tmp 9) 24 rfl b0 5 i0 (.int .u8 0) 1 1 Tryd.underlying24 hi hz0 hz1 hz2 rfl (by decide) _ _ _ rfl HYA.out ⟨w.heap.size + 1, 0, none⟩ 1 1 [.int .u8 0] rfl rfl HCA.out (by intro u hu; simp at hu; subst hu; rfl) (by unfold maxLen; omega) (by omega) (by simp; omega) ?_
       intro v2 w2 hown2 hgrow2 hiff2
       clear hiff2
       have b2 : Below b0 w w2 := bwA.grown hgrow2 (by simp; omega) (fun j hj => (HLT.out j hj).1)
       have HB2 : Hid (Blk w2 w.heap.size [.int .i64 0, .int .i64 n, .string s]) := HBA.out.grown hgrow2 (by simp; omega) (fun e => by have := (HLT.out _ e.symm).2; omega)
       have hs2 : w.heap.size < w2.heap.size := by have := hgrow2.size; simp at this; omega
       have hs3 : b0 ≤ w2.heap.size := by omega
       have HR := hid (YOut.push hown2)
       obtain ⟨oa2, oc2, rfl⟩ := HR.out.form
       have hl2 : (xs ++ [0]).length ≤ xs.length + 1 := by simp
       have d0 : w2.cell? ⟨w.heap.size, 0, none⟩ = some (.int .i64 0) := (HB2.out 0 (by simp)).1
       have d1 : w2.cell? ⟨w.heap.size, 1, none⟩ = some (.int .i64 n) := (HB2.out 1 (by simp)).1
       have d2 : w2.cell? ⟨w.heap.size, 2, none⟩ = some (.string s) := (HB2.out 2 (by simp)).1
       obtain ⟨acc2, hac⟩ : ∃ l, l = xs ++ [(0 : Int)] := ⟨_, rfl⟩
       have hp2 : 0 < (xs ++ [(0 : Int)]).length := by simp
       rw [← hac] at HR hl2 hp2 ⊢
       rw [← hac] at HE
       have hl3 : acc2.length ≤ 100000000 := by omega
       clear hown2 hgrow2 HYA HBA HCA hac HLT bwA))
  have HF : Hid (YOut 5 b0 w2 (.slice oa2 acc2.length oc2) (xs ++ rowQ 0 n s)) := (by rw [HE.out, List.append_nil]; exact HR.out : YOut 5 b0 w2 (.slice oa2 acc2.length oc2) (xs ++ rowQ 0 n s))
  go_ret
  exact ⟨⟨_, rfl, HF.out⟩, b2⟩
set_option maxHeartbeats 8000000 in
theorem rpo1 (b0 : Nat) (oa : Option Addr) (oc : Nat) (xs : List Int) (n : Int) (s : ByteArray) (w : World) (h0 : b0 ≤ w.heap.size) (hx : xs.length ≤ 90000000) (h1 : -9223372036854775808 ≤ n) (h2 : n ≤ 9223372036854775807) (HY : YOut 5 b0 w (.slice oa xs.length oc) xs) :
    Calls Tryd.prog 38 #[.slice oa xs.length oc, .agg #[.int .i64 1, .int .i64 n, .string s]] w fun e w' => Onto b0 w (xs ++ rowQ 1 n s) e w' := by
  obtain ⟨i0, hi, hz0, hz1, hz2⟩ := info_parts infoU8
  have HK : Hid (rowQ 1 n s = 1 :: varF 9 (foldN n).toNat) := (by unfold rowQ; simp : rowQ 1 n s = 1 :: varF 9 (foldN n).toNat)
  have HE : Hid (xs ++ rowQ 1 n s = (xs ++ [1]) ++ varF 9 (foldN n).toNat) := (by rw [HK.out]; simp : xs ++ rowQ 1 n s = (xs ++ [1]) ++ varF 9 (foldN n).toNat)
  have HYA : Hid (YOut 5 b0 ((w.alloc (.cells #[.int .i64 1, .int .i64 n, .string s] 39)).alloc (.cells #[.int .u8 1] 5)) (.slice oa xs.length oc) xs) := World.ownsRow.alloc (World.ownsRow.alloc HY _) _
  have HBA : Hid (Blk ((w.alloc (.cells #[.int .i64 1, .int .i64 n, .string s] 39)).alloc (.cells #[.int .u8 1] 5)) w.heap.size [.int .i64 1, .int .i64 n, .string s]) := (blk_new w [.int .i64 1, .int .i64 n, .string s] 39).below (below_alloc _ _) (by simp)
  have HCA : Hid (∀ j u, ([.int .u8 1] : List Value)[j]? = some u → ((w.alloc (.cells #[.int .i64 1, .int .i64 n, .string s] 39)).alloc (.cells #[.int .u8 1] 5)).cell? ((⟨w.heap.size + 1, 0, none⟩ : Addr).add j) = some u) := (by
    have := (blk_new (w.alloc (.cells #[.int .i64 1, .int .i64 n, .string s] 39)) [.int .u8 1] 5).cells
    simpa using this : ∀ j u, ([.int .u8 1] : List Value)[j]? = some u → ((w.alloc (.cells #[.int .i64 1, .int .i64 n, .string s] 39)).alloc (.cells #[.int .u8 1] 5)).cell? ((⟨w.heap.size + 1, 0, none⟩ : Addr).add j) = some u)
  have bwA : Below b0 w ((w.alloc (.cells #[.int .i64 1, .int .i64 n, .string s] 39)).alloc (.cells #[.int .u8 1] 5)) := ((Below.refl b0 w).alloc h0 _).alloc (by simp; omega) _
  have HLT := hid (World.ownsRow.lt HY)
  clear HY HK
  obtain ⟨m, hm, hm64⟩ := foldN_nat' h1 h2
  have hfi := fun W => fold_impl n W h1 h2
  have hmt : (foldN n).toNat = m := by omega
  rw [hmt] at HE
  rw [hm] at hfi
  go_enter Tryd.func38, Tryd.ntmps38
  go_wp2_with (first
    | (at_builtin
       refine wpList_append_own _ rfl (.tmp 5) (.tmp 9) 24 rfl b0 5 i0 (.int .u8 0) 1 1 Tryd.underlying24 hi hz0 hz1 hz2 rfl (by decide) _ _ _ rfl HYA.out ⟨w.heap.size + 1, 0, none⟩ 1 1 [.int .u8 1] rfl rfl HCA.out (by intro u hu; simp at hu; subst hu; rfl) (by unfold maxLen; omega) (by omega) (by simp; omega) ?_
       intro v2 w2 hown2 hgrow2 hiff2
       clear hiff2
       have b2 : Below b0 w w2 := bwA.grown hgrow2 (by simp; omega) (fun j hj => (HLT.out j hj).1)
       have HB2 : Hid (Blk w2 w.heap.size [.int .i64 1, .int .i64 n, .string s]) := HBA.out.grown hgrow2 (by simp; omega) (fun e => by have := (HLT.out _ e.symm).2; omega)
       have hs2 : w.heap.size < w2.heap.size := by have := hgrow2.size; simp at this; omega
       have hs3 : b0 ≤ w2.heap.size := by omega
       have HR := hid (YOut.push hown2)
       obtain ⟨oa2, oc2, rfl⟩ := HR.out.form
       have hl2 : (xs ++ [1]).length ≤ xs.length + 1 := by simp
       have d0 : w2.cell? ⟨w.heap.size, 0, none⟩ = some (.int .i64 1) := (HB2.out 0 (by simp)).1
       have d1 : w2.cell? ⟨w.heap.size, 1, none⟩ = some (.int .i64 n) := (HB2.out 1 (by simp)).1
       have d2 : w2.cell? ⟨w.heap.size, 2, none⟩ = some (.string s) := (HB2.out 2 (by simp)).1
       obtain ⟨acc2, hac⟩ : ∃ l, l = xs ++ [(1 : Int)] := ⟨_, rfl⟩
       have hp2 : 0 < (xs ++ [(1 : Int)]).length := by simp
       rw [← hac] at HR hl2 hp2 ⊢
       rw [← hac] at HE
       have hl3 : acc2.length ≤ 100000000 := by omega
       clear hown2 hgrow2 HYA HBA HCA hac HLT bwA)
    | (go_at_call 59
       refine (hfi _).mono ?_
       rintro e w3 ⟨rfl, hw3⟩
       replace hw3 := hw3.symm
       subst hw3)
    | (go_at_call 58
       refine (varint_onto b0 _ _ acc2 m _ hs3 hl3 hm64 HR.out hp2 w.heap.size _ _ hs2 HB2.out).mono ?_
       rintro e w3 ⟨⟨⟨v3, rfl, HR3⟩, b3⟩, HB3⟩
       have HF : Hid (YOut 5 b0 w3 v3 (xs ++ rowQ 1 n s)) := (by rw [HE.out]; exact HR3 : YOut 5 b0 w3 v3 (xs ++ rowQ 1 n s))
       clear HR3))
  go_ret
  exact ⟨⟨_, rfl, HF.out⟩, b2.trans b3⟩
set_option maxHeartbeats 8000000 in
theorem rpo2 (b0 : Nat) (oa : Option Addr) (oc : Nat) (xs : List Int) (n : Int) (s : ByteArray) (w : World) (h0 : b0 ≤ w.heap.size) (hx : xs.length ≤ 90000000) (h1 : -9223372036854775808 ≤ n) (h2 : n ≤ 9223372036854775807) (HY : YOut 5 b0 w (.slice oa xs.length oc) xs) :
    Calls Tryd.prog 38 #[.slice oa xs.length oc, .agg #[.int .i64 2, .int .i64 n, .string s]] w fun e w' => Onto b0 w (xs ++ rowQ 2 n s) e w' := by
  obtain ⟨i0, hi, hz0, hz1, hz2⟩ := info_parts infoU8
  have HK : Hid (rowQ 2 n s = 2 :: varF 9 (foldN n).toNat) := (by unfold rowQ; simp : rowQ 2 n s = 2 :: varF 9 (foldN n).toNat)
  have HE : Hid (xs ++ rowQ 2 n s = (xs ++ [2]) ++ varF 9 (foldN n).toNat) := (by rw [HK.out]; simp : xs ++ rowQ 2 n s = (xs ++ [2]) ++ varF 9 (foldN n).toNat)
  have HYA : Hid (YOut 5 b0 ((w.alloc (.cells #[.int .i64 2, .int .i64 n, .string s] 39)).alloc (.cells #[.int .u8 2] 5)) (.slice oa xs.length oc) xs) := World.ownsRow.alloc (World.ownsRow.alloc HY _) _
  have HBA : Hid (Blk ((w.alloc (.cells #[.int .i64 2, .int .i64 n, .string s] 39)).alloc (.cells #[.int .u8 2] 5)) w.heap.size [.int .i64 2, .int .i64 n, .string s]) := (blk_new w [.int .i64 2, .int .i64 n, .string s] 39).below (below_alloc _ _) (by simp)
  have HCA : Hid (∀ j u, ([.int .u8 2] : List Value)[j]? = some u → ((w.alloc (.cells #[.int .i64 2, .int .i64 n, .string s] 39)).alloc (.cells #[.int .u8 2] 5)).cell? ((⟨w.heap.size + 1, 0, none⟩ : Addr).add j) = some u) := (by
    have := (blk_new (w.alloc (.cells #[.int .i64 2, .int .i64 n, .string s] 39)) [.int .u8 2] 5).cells
    simpa using this : ∀ j u, ([.int .u8 2] : List Value)[j]? = some u → ((w.alloc (.cells #[.int .i64 2, .int .i64 n, .string s] 39)).alloc (.cells #[.int .u8 2] 5)).cell? ((⟨w.heap.size + 1, 0, none⟩ : Addr).add j) = some u)
  have bwA : Below b0 w ((w.alloc (.cells #[.int .i64 2, .int .i64 n, .string s] 39)).alloc (.cells #[.int .u8 2] 5)) := ((Below.refl b0 w).alloc h0 _).alloc (by simp; omega) _
  have HLT := hid (World.ownsRow.lt HY)
  clear HY HK
  obtain ⟨m, hm, hm64⟩ := foldN_nat' h1 h2
  have hfi := fun W => fold_impl n W h1 h2
  have hmt : (foldN n).toNat = m := by omega
  rw [hmt] at HE
  rw [hm] at hfi
  go_enter Tryd.func38, Tryd.ntmps38
  go_wp2_with (first
    | (at_builtin
       refine wpList_append_own _ rfl (.tmp 5) (.tmp 9) 24 rfl b0 5 i0 (.int .u8 0) 1 1 Tryd.underlying24 hi hz0 hz1 hz2 rfl (by decide) _ _ _ rfl HYA.out ⟨w.heap.size + 1, 0, none⟩ 1 1 [.int .u8 2] rfl rfl HCA.out (by intro u hu; simp at hu; subst hu; rfl) (by unfold maxLen; omega) (by omega) (by simp; omega) ?_
       intro v2 w2 hown2 hgrow2 hiff2
       clear hiff2
       have b2 : Below b0 w w2 := bwA.grown hgrow2 (by simp; omega) (fun j hj => (HLT.out j hj).1)
       have HB2 : Hid (Blk w2 w.heap.size [.int .i64 2, .int .i64 n, .string s]) := HBA.out.grown hgrow2 (by simp; omega) (fun e => by have := (HLT.out _ e.symm).2; omega)
       have hs2 : w.heap.size < w2.heap.size := by have := hgrow2.size; simp at this; omega
       have hs3 : b0 ≤ w2.heap.size := by omega
       have HR := hid (YOut.push hown2)
       obtain ⟨oa2, oc2, rfl⟩ := HR.out.form
       have hl2 : (xs ++ [2]).length ≤ xs.length + 1 := by simp
       have d0 : w2.cell? ⟨w.heap.size, 0, none⟩ = some (.int .i64 2) := (HB2.out 0 (by simp)).1
       have d1 : w2.cell? ⟨w.heap.size, 1, none⟩ = some (.int .i64 n) := (HB2.out 1 (by simp)).1
       have d2 : w2.cell? ⟨w.heap.size, 2, none⟩ = some (.string s) := (HB2.out 2 (by simp)).1
       obtain ⟨acc2, hac⟩ : ∃ l, l = xs ++ [(2 : Int)] := ⟨_, rfl⟩
       have hp2 : 0 < (xs ++ [(2 : Int)]).length := by simp
       rw [← hac] at HR hl2 hp2 ⊢
       rw [← hac] at HE
       have hl3 : acc2.length ≤ 100000000 := by omega
       clear hown2 hgrow2 HYA HBA HCA hac HLT bwA)
    | (go_at_call 59
       refine (hfi _).mono ?_
       rintro e w3 ⟨rfl, hw3⟩
       replace hw3 := hw3.symm
       subst hw3)
    | (go_at_call 58
       refine (varint_onto b0 _ _ acc2 m _ hs3 hl3 hm64 HR.out hp2 w.heap.size _ _ hs2 HB2.out).mono ?_
       rintro e w3 ⟨⟨⟨v3, rfl, HR3⟩, b3⟩, HB3⟩
       have HF : Hid (YOut 5 b0 w3 v3 (xs ++ rowQ 2 n s)) := (by rw [HE.out]; exact HR3 : YOut 5 b0 w3 v3 (xs ++ rowQ 2 n s))
       clear HR3))
  go_ret
  exact ⟨⟨_, rfl, HF.out⟩, b2.trans b3⟩
set_option maxHeartbeats 8000000 in
theorem rpo5 (b0 : Nat) (oa : Option Addr) (oc : Nat) (xs : List Int) (n : Int) (s : ByteArray) (w : World) (h0 : b0 ≤ w.heap.size) (hx : xs.length ≤ 90000000) (h1 : -9223372036854775808 ≤ n) (h2 : n ≤ 9223372036854775807) (HY : YOut 5 b0 w (.slice oa xs.length oc) xs) :
    Calls Tryd.prog 38 #[.slice oa xs.length oc, .agg #[.int .i64 5, .int .i64 n, .string s]] w fun e w' => Onto b0 w (xs ++ rowQ 5 n s) e w' := by
  obtain ⟨i0, hi, hz0, hz1, hz2⟩ := info_parts infoU8
  have HK : Hid (rowQ 5 n s = 5 :: varF 9 (foldN n).toNat) := (by unfold rowQ; simp : rowQ 5 n s = 5 :: varF 9 (foldN n).toNat)
  have HE : Hid (xs ++ rowQ 5 n s = (xs ++ [5]) ++ varF 9 (foldN n).toNat) := (by rw [HK.out]; simp : xs ++ rowQ 5 n s = (xs ++ [5]) ++ varF 9 (foldN n).toNat)
  have HYA : Hid (YOut 5 b0 ((w.alloc (.cells #[.int .i64 5, .int .i64 n, .string s] 39)).alloc (.cells #[.int .u8 5] 5)) (.slice oa xs.length oc) xs) := World.ownsRow.alloc (World.ownsRow.alloc HY _) _
  have HBA : Hid (Blk ((w.alloc (.cells #[.int .i64 5, .int .i64 n, .string s] 39)).alloc (.cells #[.int .u8 5] 5)) w.heap.size [.int .i64 5, .int .i64 n, .string s]) := (blk_new w [.int .i64 5, .int .i64 n, .string s] 39).below (below_alloc _ _) (by simp)
  have HCA : Hid (∀ j u, ([.int .u8 5] : List Value)[j]? = some u → ((w.alloc (.cells #[.int .i64 5, .int .i64 n, .string s] 39)).alloc (.cells #[.int .u8 5] 5)).cell? ((⟨w.heap.size + 1, 0, none⟩ : Addr).add j) = some u) := (by
    have := (blk_new (w.alloc (.cells #[.int .i64 5, .int .i64 n, .string s] 39)) [.int .u8 5] 5).cells
    simpa using this : ∀ j u, ([.int .u8 5] : List Value)[j]? = some u → ((w.alloc (.cells #[.int .i64 5, .int .i64 n, .string s] 39)).alloc (.cells #[.int .u8 5] 5)).cell? ((⟨w.heap.size + 1, 0, none⟩ : Addr).add j) = some u)
  have bwA : Below b0 w ((w.alloc (.cells #[.int .i64 5, .int .i64 n, .string s] 39)).alloc (.cells #[.int .u8 5] 5)) := ((Below.refl b0 w).alloc h0 _).alloc (by simp; omega) _
  have HLT := hid (World.ownsRow.lt HY)
  clear HY HK
  obtain ⟨m, hm, hm64⟩ := foldN_nat' h1 h2
  have hfi := fun W => fold_impl n W h1 h2
  have hmt : (foldN n).toNat = m := by omega
  rw [hmt] at HE
  rw [hm] at hfi
  go_enter Tryd.func38, Tryd.ntmps38
  go_wp2_with (first
    | (at_builtin
       refine wpList_append_own _ rfl (.tmp 5) (.tmp 9) 24 rfl b0 5 i0 (.int .u8 0) 1 1 Tryd.underlying24 hi hz0 hz1 hz2 rfl (by decide) _ _ _ rfl HYA.out ⟨w.heap.size + 1, 0, none⟩ 1 1 [.int .u8 5] rfl rfl HCA.out (by intro u hu; simp at hu; subst hu; rfl) (by unfold maxLen; omega) (by omega) (by simp; omega) ?_
       intro v2 w2 hown2 hgrow2 hiff2
       clear hiff2
       have b2 : Below b0 w w2 := bwA.grown hgrow2 (by simp; omega) (fun j hj => (HLT.out j hj).1)
       have HB2 : Hid (Blk w2 w.heap.size [.int .i64 5, .int .i64 n, .string s]) := HBA.out.grown hgrow2 (by simp; omega) (fun e => by have := (HLT.out _ e.symm).2; omega)
       have hs2 : w.heap.size < w2.heap.size := by have := hgrow2.size; simp at this; omega
       have hs3 : b0 ≤ w2.heap.size := by omega
       have HR := hid (YOut.push hown2)
       obtain ⟨oa2, oc2, rfl⟩ := HR.out.form
       have hl2 : (xs ++ [5]).length ≤ xs.length + 1 := by simp
       have d0 : w2.cell? ⟨w.heap.size, 0, none⟩ = some (.int .i64 5) := (HB2.out 0 (by simp)).1
       have d1 : w2.cell? ⟨w.heap.size, 1, none⟩ = some (.int .i64 n) := (HB2.out 1 (by simp)).1
       have d2 : w2.cell? ⟨w.heap.size, 2, none⟩ = some (.string s) := (HB2.out 2 (by simp)).1
       obtain ⟨acc2, hac⟩ : ∃ l, l = xs ++ [(5 : Int)] := ⟨_, rfl⟩
       have hp2 : 0 < (xs ++ [(5 : Int)]).length := by simp
       rw [← hac] at HR hl2 hp2 ⊢
       rw [← hac] at HE
       have hl3 : acc2.length ≤ 100000000 := by omega
       clear hown2 hgrow2 HYA HBA HCA hac HLT bwA)
    | (go_at_call 59
       refine (hfi _).mono ?_
       rintro e w3 ⟨rfl, hw3⟩
       replace hw3 := hw3.symm
       subst hw3)
    | (go_at_call 58
       refine (varint_onto b0 _ _ acc2 m _ hs3 hl3 hm64 HR.out hp2 w.heap.size _ _ hs2 HB2.out).mono ?_
       rintro e w3 ⟨⟨⟨v3, rfl, HR3⟩, b3⟩, HB3⟩
       have HF : Hid (YOut 5 b0 w3 v3 (xs ++ rowQ 5 n s)) := (by rw [HE.out]; exact HR3 : YOut 5 b0 w3 v3 (xs ++ rowQ 5 n s))
       clear HR3))
  go_ret
  exact ⟨⟨_, rfl, HF.out⟩, b2.trans b3⟩
set_option maxHeartbeats 8000000 in
theorem rpo4 (b0 : Nat) (oa : Option Addr) (oc : Nat) (xs : List Int) (n : Int) (s : ByteArray) (w : World) (h0 : b0 ≤ w.heap.size) (hx : xs.length ≤ 90000000) (h1 : 0 ≤ n) (h2 : n ≤ 1) (HY : YOut 5 b0 w (.slice oa xs.length oc) xs) :
    Calls Tryd.prog 38 #[.slice oa xs.length oc, .agg #[.int .i64 4, .int .i64 n, .string s]] w fun e w' => Onto b0 w (xs ++ rowQ 4 n s) e w' := by
  obtain ⟨i0, hi, hz0, hz1, hz2⟩ := info_parts infoU8
  have HK : Hid (rowQ 4 n s = 4 :: [n]) := (by unfold rowQ; simp : rowQ 4 n s = 4 :: [n])
  have HE : Hid (xs ++ rowQ 4 n s = (xs ++ [4]) ++ [n]) := (by rw [HK.out]; simp : xs ++ rowQ 4 n s = (xs ++ [4]) ++ [n])
  have HYA : Hid (YOut 5 b0 ((w.alloc (.cells #[.int .i64 4, .int .i64 n, .string s] 39)).alloc (.cells #[.int .u8 4] 5)) (.slice oa xs.length oc) xs) := World.ownsRow.alloc (World.ownsRow.alloc HY _) _
  have HBA : Hid (Blk ((w.alloc (.cells #[.int .i64 4, .int .i64 n, .string s] 39)).alloc (.cells #[.int .u8 4] 5)) w.heap.size [.int .i64 4, .int .i64 n, .string s]) := (blk_new w [.int .i64 4, .int .i64 n, .string s] 39).below (below_alloc _ _) (by simp)
  have HCA : Hid (∀ j u, ([.int .u8 4] : List Value)[j]? = some u → ((w.alloc (.cells #[.int .i64 4, .int .i64 n, .string s] 39)).alloc (.cells #[.int .u8 4] 5)).cell? ((⟨w.heap.size + 1, 0, none⟩ : Addr).add j) = some u) := (by
    have := (blk_new (w.alloc (.cells #[.int .i64 4, .int .i64 n, .string s] 39)) [.int .u8 4] 5).cells
    simpa using this : ∀ j u, ([.int .u8 4] : List Value)[j]? = some u → ((w.alloc (.cells #[.int .i64 4, .int .i64 n, .string s] 39)).alloc (.cells #[.int .u8 4] 5)).cell? ((⟨w.heap.size + 1, 0, none⟩ : Addr).add j) = some u)
  have bwA : Below b0 w ((w.alloc (.cells #[.int .i64 4, .int .i64 n, .string s] 39)).alloc (.cells #[.int .u8 4] 5)) := ((Below.refl b0 w).alloc h0 _).alloc (by simp; omega) _
  have HLT := hid (World.ownsRow.lt HY)
  clear HY HK
  have hsh : shL 1 n = [n] := by simp [shL]; omega
  rw [← hsh] at HE
  clear hsh
  go_enter Tryd.func38, Tryd.ntmps38
  go_wp2_with (first
    | (at_builtin
       refine wpList_append_own _ rfl (.tmp 5) (.tmp 9) 24 rfl b0 5 i0 (.int .u8 0) 1 1 Tryd.underlying24 hi hz0 hz1 hz2 rfl (by decide) _ _ _ rfl HYA.out ⟨w.heap.size + 1, 0, none⟩ 1 1 [.int .u8 4] rfl rfl HCA.out (by intro u hu; simp at hu; subst hu; rfl) (by unfold maxLen; omega) (by omega) (by simp; omega) ?_
       intro v2 w2 hown2 hgrow2 hiff2
       clear hiff2
       have b2 : Below b0 w w2 := bwA.grown hgrow2 (by simp; omega) (fun j hj => (HLT.out j hj).1)
       have HB2 : Hid (Blk w2 w.heap.size [.int .i64 4, .int .i64 n, .string s]) := HBA.out.grown hgrow2 (by simp; omega) (fun e => by have := (HLT.out _ e.symm).2; omega)
       have hs2 : w.heap.size < w2.heap.size := by have := hgrow2.size; simp at this; omega
       have hs3 : b0 ≤ w2.heap.size := by omega
       have HR := hid (YOut.push hown2)
       obtain ⟨oa2, oc2, rfl⟩ := HR.out.form
       have hl2 : (xs ++ [4]).length ≤ xs.length + 1 := by simp
       have d0 : w2.cell? ⟨w.heap.size, 0, none⟩ = some (.int .i64 4) := (HB2.out 0 (by simp)).1
       have d1 : w2.cell? ⟨w.heap.size, 1, none⟩ = some (.int .i64 n) := (HB2.out 1 (by simp)).1
       have d2 : w2.cell? ⟨w.heap.size, 2, none⟩ = some (.string s) := (HB2.out 2 (by simp)).1
       obtain ⟨acc2, hac⟩ : ∃ l, l = xs ++ [(4 : Int)] := ⟨_, rfl⟩
       have hp2 : 0 < (xs ++ [(4 : Int)]).length := by simp
       rw [← hac] at HR hl2 hp2 ⊢
       rw [← hac] at HE
       have hl3 : acc2.length ≤ 100000000 := by omega
       clear hown2 hgrow2 HYA HBA HCA hac HLT bwA)
    | (go_at_call 55
       refine (number_onto b0 _ _ acc2 n 1 _ hs3 (by decide) hl3 (by omega) (by omega) HR.out).mono ?_
       rintro e w3 ⟨⟨v3, rfl, HR3⟩, b3⟩
       have HF : Hid (YOut 5 b0 w3 v3 (xs ++ rowQ 4 n s)) := (by rw [HE.out]; exact HR3 : YOut 5 b0 w3 v3 (xs ++ rowQ 4 n s))
       clear HR3))
  go_ret
  exact ⟨⟨_, rfl, HF.out⟩, b2.trans b3⟩
set_option maxHeartbeats 8000000 in
theorem rpo3 (b0 : Nat) (oa : Option Addr) (oc : Nat) (xs : List Int) (n : Int) (s : ByteArray) (w : World) (h0 : b0 ≤ w.heap.size) (hx : xs.length ≤ 90000000) (hs : s.size ≤ 1048576) (HY : YOut 5 b0 w (.slice oa xs.length oc) xs) :
    Calls Tryd.prog 38 #[.slice oa xs.length oc, .agg #[.int .i64 3, .int .i64 n, .string s]] w fun e w' => Onto b0 w (xs ++ rowQ 3 n s) e w' := by
  obtain ⟨i0, hi, hz0, hz1, hz2⟩ := info_parts infoU8
  have HK : Hid (rowQ 3 n s = 3 :: (varF 9 s.size ++ strI s)) := (by unfold rowQ; simp : rowQ 3 n s = 3 :: (varF 9 s.size ++ strI s))
  have HE : Hid (xs ++ rowQ 3 n s = (xs ++ [3]) ++ (varF 9 s.size ++ strI s)) := (by rw [HK.out]; simp : xs ++ rowQ 3 n s = (xs ++ [3]) ++ (varF 9 s.size ++ strI s))
  have HYA : Hid (YOut 5 b0 ((w.alloc (.cells #[.int .i64 3, .int .i64 n, .string s] 39)).alloc (.cells #[.int .u8 3] 5)) (.slice oa xs.length oc) xs) := World.ownsRow.alloc (World.ownsRow.alloc HY _) _
  have HBA : Hid (Blk ((w.alloc (.cells #[.int .i64 3, .int .i64 n, .string s] 39)).alloc (.cells #[.int .u8 3] 5)) w.heap.size [.int .i64 3, .int .i64 n, .string s]) := (blk_new w [.int .i64 3, .int .i64 n, .string s] 39).below (below_alloc _ _) (by simp)
  have HCA : Hid (∀ j u, ([.int .u8 3] : List Value)[j]? = some u → ((w.alloc (.cells #[.int .i64 3, .int .i64 n, .string s] 39)).alloc (.cells #[.int .u8 3] 5)).cell? ((⟨w.heap.size + 1, 0, none⟩ : Addr).add j) = some u) := (by
    have := (blk_new (w.alloc (.cells #[.int .i64 3, .int .i64 n, .string s] 39)) [.int .u8 3] 5).cells
    simpa using this : ∀ j u, ([.int .u8 3] : List Value)[j]? = some u → ((w.alloc (.cells #[.int .i64 3, .int .i64 n, .string s] 39)).alloc (.cells #[.int .u8 3] 5)).cell? ((⟨w.heap.size + 1, 0, none⟩ : Addr).add j) = some u)
  have bwA : Below b0 w ((w.alloc (.cells #[.int .i64 3, .int .i64 n, .string s] 39)).alloc (.cells #[.int .u8 3] 5)) := ((Below.refl b0 w).alloc h0 _).alloc (by simp; omega) _
  have HLT := hid (World.ownsRow.lt HY)
  clear HY HK
  have hwl : IntKind.u64.wrap (s.size : Int) = s.size := by simp only [IntKind.wrap_u64]; omega
  have hvl := varF_len 9 s.size
  go_enter Tryd.func38, Tryd.ntmps38
  go_wp2_with (first
    | (at_builtin
       refine wpList_append_own _ rfl (.tmp 5) (.tmp 9) 24 rfl b0 5 i0 (.int .u8 0) 1 1 Tryd.underlying24 hi hz0 hz1 hz2 rfl (by decide) _ _ _ rfl HYA.out ⟨w.heap.size + 1, 0, none⟩ 1 1 [.int .u8 3] rfl rfl HCA.out (by intro u hu; simp at hu; subst hu; rfl) (by unfold maxLen; omega) (by omega) (by simp; omega) ?_
       intro v2 w2 hown2 hgrow2 hiff2
       clear hiff2
       have b2 : Below b0 w w2 := bwA.grown hgrow2 (by simp; omega) (fun j hj => (HLT.out j hj).1)
       have HB2 : Hid (Blk w2 w.heap.size [.int .i64 3, .int .i64 n, .string s]) := HBA.out.grown hgrow2 (by simp; omega) (fun e => by have := (HLT.out _ e.symm).2; omega)
       have hs2 : w.heap.size < w2.heap.size := by have := hgrow2.size; simp at this; omega
       have hs3 : b0 ≤ w2.heap.size := by omega
       have HR := hid (YOut.push hown2)
       obtain ⟨oa2, oc2, rfl⟩ := HR.out.form
       have hl2 : (xs ++ [3]).length ≤ xs.length + 1 := by simp
       have d0 : w2.cell? ⟨w.heap.size, 0, none⟩ = some (.int .i64 3) := (HB2.out 0 (by simp)).1
       have d1 : w2.cell? ⟨w.heap.size, 1, none⟩ = some (.int .i64 n) := (HB2.out 1 (by simp)).1
       have d2 : w2.cell? ⟨w.heap.size, 2, none⟩ = some (.string s) := (HB2.out 2 (by simp)).1
       obtain ⟨acc2, hac⟩ : ∃ l, l = xs ++ [(3 : Int)] := ⟨_, rfl⟩
       have hp2 : 0 < (xs ++ [(3 : Int)]).length := by simp
       rw [← hac] at HR hl2 hp2 ⊢
       rw [← hac] at HE
       have hl3 : acc2.length ≤ 100000000 := by omega
       clear hown2 hgrow2 HYA HBA HCA hac HLT bwA))
  have HRD : Hid (YOut 5 b0 w2.drew (.slice oa2 acc2.length oc2) acc2) := HR.out.drew
  have HBD : Hid (Blk w2.drew w.heap.size [.int .i64 3, .int .i64 n, .string s]) := HB2.out
  go_region_held_law (fun W => W.cell? ⟨w.heap.size, 2, none⟩ = some (.string s)) (go_keep)
    (first
      | (go_at_call 58
         go_must (refine (varint_onto b0 _ _ acc2 s.size w2.drew hs3 hl3 (by omega) HRD.out hp2 w.heap.size _ _ hs2 HBD.out).mono ?_)
         rintro e w3 ⟨⟨⟨v3, rfl, HR3⟩, b3⟩, HB3⟩
         have y2 : w3.cell? ⟨w.heap.size, 2, none⟩ = some (.string s) := (HB3 2 (by simp)).1
         have HR4 := hid HR3
         have b4 : Below b0 w w3 := b2.drew.trans b3
         have hs4 : b0 ≤ w3.heap.size := by have := b3.size; simp at this; omega
         have HB4 := hid HB3
         have hs5 : w.heap.size < w3.heap.size := by have := b3.size; simp at this; omega
         clear HR3 b3 HB3)
      | (refine step_append_string rfl (.tmp 29) (.tmp 31) 24 9 rfl b0 5 i0 Tryd.underlying24 Tryd.underlying9 hi hz0 hz1 hz2 v3 _ _ rfl HR4.out s rfl (by unfold maxLen; rw [List.length_append]; omega) (by rw [List.length_append]; omega) hs4 ?_
         intro v5 w5 hown5 hgrow5 hiff5
         have b5 : Below b0 w w5 := b4.grown hgrow5 hs4 (fun j hj => (World.ownsRow.lt HR4.out j hj).1)
         have K5 : Blk w5 w.heap.size [.int .i64 3, .int .i64 n, .string s] := HB4.out.grown hgrow5 hs5 (HR4.out.boxNe (by rw [List.length_append]; omega) HB4.out)
         have y5 : w5.cell? ⟨w.heap.size, 2, none⟩ = some (.string s) := (K5 2 (by simp)).1
         have hown6 : w5.ownsRow b0 5 1 v5 ((acc2 ++ varF 9 s.size).length + (strI s).length) ((acc2 ++ varF 9 s.size).map (Value.int .u8) ++ (strI s).map (Value.int .u8)) := by rw [strI_len, ← strI_cells]; exact hown5
         have HF : Hid (YOut 5 b0 w5 v5 (xs ++ rowQ 3 n s)) := (by rw [HE.out, ← List.append_assoc]; exact YOut.more hown6 : YOut 5 b0 w5 v5 (xs ++ rowQ 3 n s))
         clear hown5 hown6 hgrow5 hiff5 K5))
  all_goals
    go_wp2
    go_ret
    exact ⟨⟨v5, by simp, HF.out⟩, b5⟩
end Go.Proofs.YtfgjleifhjegkaaDoor
