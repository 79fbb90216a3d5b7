import Derived.Test.YtfgjleifhjegkaaDoorRC
namespace Go.Proofs.YtfgjleifhjegkaaDoor
open Go.ChangeShapes Go.WideShapes Go.ChangeAt Go.RowKit
set_option linter.unusedVariables false
set_option linter.unusedSimpArgs false
set_option maxRecDepth 100000
/-- The text at the head of some bytes, and how many bytes it takes. -/
def ktx : List Int → Option (List Int × Nat)
  | b :: c :: r => if b = 0 then (if c = 1 then some ([], 2) else (ktx r).map fun p => (0 :: p.1, p.2 + 2)) else (ktx (c :: r)).map fun p => (b :: p.1, p.2 + 1)
  | _ => none
theorem ktx_short {l : List Int} (h : l.length < 2) : ktx l = none := by
  match l, h with
  | [], _ => rfl
  | [_], _ => rfl
theorem ktx_plain {b c : Int} {r : List Int} (h : b ≠ 0) : ktx (b :: c :: r) = (ktx (c :: r)).map fun p => (b :: p.1, p.2 + 1) := by
  conv => lhs; unfold ktx
  rw [if_neg h]
theorem ktx_end {r : List Int} : ktx (0 :: 1 :: r) = some ([], 2) := by unfold ktx; simp
theorem ktx_nought {c : Int} {r : List Int} (h : c ≠ 1) : ktx (0 :: c :: r) = (ktx r).map fun p => (0 :: p.1, p.2 + 2) := by
  conv => lhs; unfold ktx
  rw [if_pos rfl, if_neg h]
/-- Where reading stands at i, with a text told so far. -/
def KtI (xs : List Int) (i : Nat) (acc : List Int) : Prop := ktx xs = (ktx (xs.drop i)).map fun p => (acc ++ p.1, p.2 + i)
theorem KtI.plain {xs : List Int} {i : Nat} {acc : List Int} (h : KtI xs i acc) (h1 : i + 1 < xs.length) (hb : xs[i] ≠ 0) : KtI xs (i + 1) (acc ++ [xs[i]]) := by
  unfold KtI at *
  rw [h, List.drop_eq_getElem_cons (show i < xs.length by omega), List.drop_eq_getElem_cons h1, ktx_plain hb, Option.map_map]
  congr 1
  funext p
  simp
  omega
theorem KtI.nought {xs : List Int} {i : Nat} {acc : List Int} (h : KtI xs i acc) (h1 : i + 1 < xs.length) (hb : xs[i] = 0) (hc : xs[i + 1] ≠ 1) : KtI xs (i + 2) (acc ++ [0]) := by
  unfold KtI at *
  rw [h, List.drop_eq_getElem_cons (show i < xs.length by omega), List.drop_eq_getElem_cons h1, hb, ktx_nought hc, Option.map_map]
  congr 1
  funext p
  simp
  omega
theorem KtI.fin {xs : List Int} {i : Nat} {acc : List Int} (h : KtI xs i acc) (h1 : i + 1 < xs.length) (hb : xs[i] = 0) (hc : xs[i + 1] = 1) : ktx xs = some (acc, i + 2) := by
  unfold KtI at *
  rw [h, List.drop_eq_getElem_cons (show i < xs.length by omega), List.drop_eq_getElem_cons h1, hb, hc, ktx_end]
  simp
  omega
theorem KtI.none {xs : List Int} {i : Nat} {acc : List Int} (h : KtI xs i acc) (h1 : ¬ i + 1 < xs.length) : ktx xs = none := by
  unfold KtI at *
  rw [h, ktx_short (by rw [List.length_drop]; omega)]
  rfl
def KtP (xs : List Int) (w : World) (e : Ending) (w' : World) : Prop :=
  ((ktx xs = none ∧ e = .returned (.tuple #[.string ⟨#[]⟩, .int .i64 0, .bool false])) ∨ ∃ (l : List Int) (n : Nat), ktx xs = some (l, n) ∧ e = .returned (.tuple #[.string (strOfNums l), .int .i64 (n : Int), .bool true])) ∧ Below w.heap.size w w'
set_option maxHeartbeats 8000000 in
theorem keyText_spec (a : Option Addr) (ca : Nat) (xs : List Int) (w : World) (hn : xs.length ≤ 1048576) (hv : RS 1 CY 0 w (.slice a xs.length ca) xs) :
    Calls Tryd.prog 61 #[.slice a xs.length ca] w fun e w' => KtP xs w e w' := by
  obtain ⟨i0, hi, hz0, hz1, hz2⟩ := info_parts infoU8
  obtain ⟨a', ca', he, hva⟩ := hv
  simp only [Value.slice.injEq] at he
  obtain ⟨rfl, _, rfl⟩ := he
  have HY0 : Hid (YOut 5 w.heap.size (w.alloc (.cells #[] 5)) (.slice (some ⟨w.heap.size, 0, none⟩) 0 0) []) := (by
    have := YOut.made (ty := 5) (b := w.heap.size) w [] (Nat.le_refl _) (by simp)
    simpa using this : YOut 5 w.heap.size (w.alloc (.cells #[] 5)) (.slice (some ⟨w.heap.size, 0, none⟩) 0 0) [])
  have bw0 : Below w.heap.size w (w.alloc (.cells #[] 5)) := below_alloc _ _
  go_enter Tryd.func61, Tryd.ntmps61
  go_wp2
  go_loopw [5, 6] (fun v iv wr => ∃ (i : Nat) (acc : List Int) (oa : Option Addr) (oc : Nat), i ≤ xs.length ∧ iv = .int .i64 i ∧ v = .slice oa acc.length oc ∧ acc.length ≤ i ∧ Hid (KtI xs i acc) ∧ Hid (YOut 5 w.heap.size wr (.slice oa acc.length oc) acc) ∧ Below w.heap.size w wr) (fun _ iv _ => xs.length - (intOf iv).toNat)
  case atStart => exact ⟨0, [], _, _, Nat.zero_le _, rfl, rfl, by simp, (by unfold KtI; simp : KtI xs 0 []), HY0, bw0⟩
  case round =>
    clear HY0 bw0
    obtain ⟨i, acc, oa, oc, hi1, rfl, rfl, hal, HK, HY, hb⟩ := hrel
    have hbs := hb.size
    by_cases hlt : i + 1 < xs.length
    · have hlti : (i : Int) + 1 < xs.length := by omega
      have hwi : IntKind.i64.wrap ((i : Int) + 1) = (i : Int) + 1 := by simp only [IntKind.wrap_i64, wrap64]; omega
      obtain ⟨g, o, rfl, _, hg, hgc⟩ := hva (by omega)
      have cel : ∀ j (h : j < xs.length), wr.cell? ⟨g, o + j, none⟩ = some (.int .u8 xs[j]) := fun j h => by
        obtain ⟨cs, hC, hcell⟩ := hgc j h
        unfold CY at hC
        subst hC
        have := hcell 0 (by omega)
        rw [Nat.mul_one, Nat.add_zero] at this
        exact (hb.cell (p := ⟨g, o + j, none⟩) hg).trans this
      have c0 := cel i (by omega)
      have c1 : wr.cell? ⟨g, o + (i + 1), none⟩ = some (.int .u8 xs[i + 1]) := cel (i + 1) hlt
      have HLT := hid (World.ownsRow.lt HY.out)
      clear cel hgc hva
      by_cases hz : xs[i] = 0
      · by_cases hc1 : xs[i + 1] = 1
        · have HF := hid (HK.out.fin hlt hz hc1)
          have hcv := conv_rs ((HY.out.rsw.rs (D := CY) id).mono liesY (Nat.zero_le _))
          rw [hz] at c0
          rw [hc1] at c1
          clear HK hz hc1 HLT
          go_wp2
          refine bodyPost_ret (v := .tuple #[.string (strOfNums acc), .int .i64 ((i + 2 : Nat) : Int), .bool true]) (by simp [results, Tryd.results61, go_sem]) rfl ⟨.inr ⟨acc, i + 2, HF.out, rfl⟩, hb⟩
        · have HF : Hid (KtI xs (i + 2) (acc ++ [0])) := HK.out.nought hlt hz hc1
          rw [hz] at c0
          generalize xs[i + 1] = c at *
          have hcb : (c == 1) = false := by simp [hc1]
          have HWA : Hid ((wr.alloc (.cells #[.int .u8 0] 5)).ownsRow w.heap.size 5 1 (.slice oa acc.length oc) acc.length (acc.map (Value.int .u8))) := World.ownsRow.alloc HY.out _
          have hbw : Below w.heap.size w (wr.alloc (.cells #[.int .u8 0] 5)) := hb.alloc hb.size _
          clear HK hz
          go_wp2_with (first
            | (at_builtin
               refine wpList_append_own _ rfl (.tmp 37) (.tmp 38) 24 rfl w.heap.size 5 i0 (.int .u8 0) 1 1 Tryd.underlying24 hi hz0 hz1 hz2 rfl (by decide) _ _ _ rfl HWA.out ⟨wr.heap.size, 0, none⟩ 1 1 [.int .u8 0] rfl rfl (blk_new wr [.int .u8 0] 5).cells (by intro u hu; simp at hu; subst hu; rfl) (by unfold maxLen; omega) (by omega) hbw.size ?_
               intro v2 w2 hown2 hgrow2 hiff2
               clear hiff2
               have b2 : Below w.heap.size w w2 := hbw.grown hgrow2 hbw.size (fun j hj => (HLT.out j hj).1)
               have HR := hid (YOut.push hown2)
               obtain ⟨oa2, oc2, rfl⟩ := HR.out.form
               have hl2 : (acc ++ [(0 : Int)]).length ≤ acc.length + 1 := by simp
               obtain ⟨acc2, hac⟩ : ∃ l, l = acc ++ [(0 : Int)] := ⟨_, rfl⟩
               rw [← hac] at HR hl2 ⊢
               rw [← hac] at HF
               clear hown2 hgrow2 hac HLT hbw HWA HY))
          go_roundw
          case rel => exact ⟨i + 2, acc2, oa2, oc2, by omega, by go_num, rfl, by omega, HF, HR, b2⟩
          case measure => simp [intOf]; omega
      · have HF : Hid (KtI xs (i + 1) (acc ++ [xs[i]])) := HK.out.plain hlt hz
        generalize xs[i] = c at *
        have hcb : (c != 0) = true := by simp [hz]
        have HWA : Hid ((wr.alloc (.cells #[.int .u8 c] 5)).ownsRow w.heap.size 5 1 (.slice oa acc.length oc) acc.length (acc.map (Value.int .u8))) := World.ownsRow.alloc HY.out _
        have hbw : Below w.heap.size w (wr.alloc (.cells #[.int .u8 c] 5)) := hb.alloc hb.size _
        clear HK
        go_wp2_with (first
            | (at_builtin
               refine wpList_append_own _ rfl (.tmp 20) (.tmp 25) 24 rfl w.heap.size 5 i0 (.int .u8 0) 1 1 Tryd.underlying24 hi hz0 hz1 hz2 rfl (by decide) _ _ _ rfl HWA.out ⟨wr.heap.size, 0, none⟩ 1 1 [.int .u8 c] rfl rfl (blk_new wr [.int .u8 c] 5).cells (by intro u hu; simp at hu; subst hu; rfl) (by unfold maxLen; omega) (by omega) hbw.size ?_
               intro v2 w2 hown2 hgrow2 hiff2
               clear hiff2
               have b2 : Below w.heap.size w w2 := hbw.grown hgrow2 hbw.size (fun j hj => (HLT.out j hj).1)
               have HR := hid (YOut.push hown2)
               obtain ⟨oa2, oc2, rfl⟩ := HR.out.form
               have hl2 : (acc ++ [c]).length ≤ acc.length + 1 := by simp
               obtain ⟨acc2, hac⟩ : ∃ l, l = acc ++ [c] := ⟨_, rfl⟩
               rw [← hac] at HR hl2 ⊢
               rw [← hac] at HF
               clear hown2 hgrow2 hac HLT hbw HWA HY))
        go_roundw
        case rel => exact ⟨i + 1, acc2, oa2, oc2, by omega, by go_num, rfl, by omega, HF, HR, b2⟩
        case measure => simp [intOf]; omega
    · have hlti : ¬ (i : Int) + 1 < xs.length := by omega
      have hwi : IntKind.i64.wrap ((i : Int) + 1) = (i : Int) + 1 := by simp only [IntKind.wrap_i64, wrap64]; omega
      have HF := hid (HK.out.none hlt)
      clear HK
      go_wp2
      refine bodyPost_ret (v := .tuple #[.string ⟨#[]⟩, .int .i64 0, .bool false]) (by simp [results, Tryd.results61, go_sem]) rfl ⟨.inl ⟨HF.out, rfl⟩, hb⟩
end Go.Proofs.YtfgjleifhjegkaaDoor
