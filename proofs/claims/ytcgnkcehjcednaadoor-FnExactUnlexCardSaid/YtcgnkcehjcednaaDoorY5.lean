import Derived.Test.YtcgnkcehjcednaaDoorY4
import Derived.Test.YtcgnkcehjcednaaDoorX2
namespace Go.Proofs.YtcgnkcehjcednaaDoor
open Go.ChangeShapes Go.WideShapes Go.ChangeAt Go.RowKit Go.Shelf
set_option linter.unusedVariables false
set_option linter.unusedSimpArgs false
set_option maxRecDepth 100000
/-- What the given Lex answers. -/
def LexPostS (s : ByteArray) (w : World) (e : Ending) (w' : World) : Prop :=
  ∃ r, LexR s.data.toList 0 [] r ∧ (match r with
    | .ok ts => ∃ v, e = .returned (.tuple #[v, .int .i64 0, .int .i64 0]) ∧ w'.ownsRow w.heap.size 47 3 v ts.length (tcells ts)
    | .err c p => ∃ b, e = .returned (.tuple #[.slice b 0 0, .int .i64 c, .int .i64 (p : Int)])) ∧ Below w.heap.size w w'
theorem LexPostS.ok {s : ByteArray} {w w' : World} {ts : List Tok} {v : Value} (h : LexR s.data.toList 0 [] (.ok ts)) (ho : w'.ownsRow w.heap.size 47 3 v ts.length (tcells ts)) (hb : Below w.heap.size w w') :
    LexPostS s w (.returned (.tuple #[v, .int .i64 0, .int .i64 0])) w' := ⟨_, h, ⟨v, rfl, ho⟩, hb⟩
theorem LexPostS.err {s : ByteArray} {w w' : World} {c q : Int} {p : Nat} {b : Option Addr} (h : LexR s.data.toList 0 [] (.err c p)) (hq : q = (p : Int)) (hb : Below w.heap.size w w') :
    LexPostS s w (.returned (.tuple #[.slice b 0 0, .int .i64 c, .int .i64 q])) w' := ⟨_, h, ⟨b, by rw [hq]⟩, hb⟩
set_option maxHeartbeats 4000000 in
theorem lexS_any (s : ByteArray) (w : World) (hs : s.size ≤ 8000) : Calls Tryd.prog 20 #[.string s] w fun e w' => LexPostS s w e w' := by
  have hsl : s.data.toList.length = s.size := by simp
  obtain ⟨i0, hi, hz0, hz1i, hz2⟩ := info_parts info47
  have hsk0 := fun w => skip_any s 0 w hs (by omega)
  have hsk0' : ∀ w, Calls Tryd.prog 49 #[.string s, .int .i64 0] w fun e w' => ∃ q : Nat, SkipTo s.data.toList 0 q ∧ q ≤ s.size ∧ e = .returned (.int .i64 q) ∧ w' = w := hsk0
  clear hsk0
  go_enter Tryd.func20, Tryd.ntmps20
  go_wp2_with (go_at_call 49; refine (hsk0' _).mono ?_; rintro e w' ⟨q0, HQ0, hq0, rfl, rfl⟩; have HQ1 : Hid (SkipTo s.data.toList 0 q0) := HQ0; clear HQ0)
  go_loopw [5, 6] (fun v i wr => ∃ (p : Nat) (acc : List Tok), p ≤ s.size ∧ i = .int .i64 p ∧ acc.length ≤ 2000 ∧ Hid (p < s.size → ∃ c, s.data.toList[p]? = some c ∧ blank c = false ∧ cmtAt s.data.toList p = false) ∧ Hid (∀ r, LexR s.data.toList p acc r → LexR s.data.toList 0 [] r) ∧ wr.ownsRow w.heap.size 47 3 v acc.length (tcells acc) ∧ Below w.heap.size w wr) (fun _ i _ => s.size - (intOf i).toNat)
  case atStart =>
    refine ⟨q0, [], hq0, rfl, by simp, fun h => HQ1.out.2.2.2 (by omega), fun r h => HQ1.out.2.2.1 [] r h, ?_, (Below.refl _ _).alloc (Nat.le_refl _) _⟩
    exact World.ownsRow_made w #[] 0 (Nat.le_refl _) (by unfold maxLen; omega) (by simp)
  case round =>
    obtain ⟨p, acc, hp, rfl, hal, HN, HC, hown, hbel⟩ := hrel
    have hbs := hbel.size
    obtain ⟨la, lc, hu5⟩ := owns_slice hown
    subst hu5
    by_cases hlt : p < s.size
    · have hlti : (p : Int) < s.size := by omega
      obtain ⟨c0, hg, hbl, hcm⟩ := HN.out hlt
      have HG : Hid (s.data.toList[p]? = some c0) := hg
      have HBL : Hid (blank c0 = false) := hbl
      have HCM : Hid (cmtAt s.data.toList p = false) := hcm
      clear hg hbl hcm HN
      by_cases hm : acc.length = 2000
      · have hmi : ((acc.length : Int) == 2000) = true := by rw [beq_iff_eq]; omega
        have HM : Hid (acc.length = 2000) := hm
        clear hm
        go_wp2
        go_ret3
        exact LexPostS.err (HC.out _ (LexR.many HG.out HBL.out HCM.out HM.out)) rfl (hbel.alloc hbs _)
      · have hmi : ((acc.length : Int) == 2000) = false := by rw [beq_eq_false_iff_ne]; omega
        have htk := fun w => token_any s p w hs hlt
        cases hcl : cutL (s.data.toList.drop p) with
        | err c f =>
          rw [hcl] at htk
          simp only [cutT] at htk
          have HK : Hid (cutL (s.data.toList.drop p) = .err c f) := hcl
          have hce := cut_err hcl
          rw [List.length_drop, hsl] at hce
          have hcne : (c != 0) = true := by rw [bne_iff_ne]; omega
          obtain ⟨E, hE⟩ : ∃ E : Int, ((p + f : Nat) : Int) = E := ⟨_, rfl⟩
          rw [hE] at htk
          have HE : Hid (E = ((p + f : Nat) : Int)) := hE.symm
          clear hcl hE
          go_wp2_with (go_at_call 50; refine (htk _).mono ?_; rintro e w1 ⟨rfl, hb1⟩; have bw1 : Below w.heap.size w w1 := hbel.trans (hb1.mono hbs); have hz1 : wr.heap.size ≤ w1.heap.size := hb1.size; clear hb1)
          go_ret3
          exact LexPostS.err (HC.out _ (LexR.bad HG.out HBL.out HCM.out hm HK.out)) HE.out ((bw1.alloc (by omega) _).alloc (by simp; omega) _)
        | tok k x n =>
          rw [hcl] at htk
          simp only [cutT] at htk
          have HK : Hid (cutL (s.data.toList.drop p) = .tok k x n) := hcl
          have hn := cut_size hcl
          rw [List.length_drop, hsl] at hn
          have hsk := fun w => skip_any s (p + n) w hs (by omega)
          obtain ⟨E, hE⟩ : ∃ E : Int, ((p + n : Nat) : Int) = E := ⟨_, rfl⟩
          rw [hE] at htk hsk
          clear hcl hE
          go_wp2_with (first | (go_at_call 50; refine (htk _).mono ?_; rintro e w1 ⟨rfl, hb1⟩; have bw1 : Below w.heap.size w w1 := hbel.trans (hb1.mono hbs); have hz1 : wr.heap.size ≤ w1.heap.size := hb1.size; have ho1 := own_below hown hb1; clear hb1) | (go_at_call 49; refine (hsk _).mono ?_; rintro e w' ⟨q, HQ0, hq0, rfl, rfl⟩; have HQ : Hid (SkipTo s.data.toList (p + n) q) := HQ0; clear HQ0) | (at_builtin; refine wpList_append_own _ rfl (.tmp 40) (.tmp 42) 33 rfl w.heap.size 47 i0 (.agg #[.int .i64 0, .string ⟨#[]⟩, .int .i64 0]) 3 32 Tryd.underlying33 hi hz0 hz1i hz2 rfl (by decide) (.slice la acc.length lc) acc.length (tcells acc) rfl ((ho1.alloc _).alloc _) ⟨_, 0, none⟩ 1 1 [.int .i64 k, .string ⟨x.toArray⟩, .int .i64 (p : Int)] rfl rfl (cells3 _ _ (by simp) _ _ _ _) (by intro u hu; simp at hu; rcases hu with rfl | rfl | rfl <;> rfl) (by unfold maxLen; omega) (by omega) (by simp; omega) ?_; intro v' w2 hown' hgrow _))
          have HB2 : Hid (Below w.heap.size w w') := Below.grown ((bw1.alloc (by omega) _).alloc (by simp; omega) _) hgrow (by simp; omega) (fun k hk => (hown.lt k hk).1)
          have HO : Hid (w'.ownsRow w.heap.size 47 3 v' (acc ++ [(k, x, p)]).length (tcells (acc ++ [(k, x, p)]))) := by
            show w'.ownsRow w.heap.size 47 3 v' (acc ++ [(k, x, p)]).length (tcells (acc ++ [(k, x, p)]))
            rw [tcells_snoc]; simpa using hown'
          clear hown' hgrow
          have hqp := HQ.out.1
          go_roundw
          case rel => exact ⟨q, acc ++ [(k, x, p)], hq0, rfl, by simp; omega, fun h => HQ.out.2.2.2 (by omega), fun r h => HC.out r (LexR.tok HG.out HBL.out HCM.out hm HK.out (HQ.out.2.2.1 _ r h)), HO.out, HB2.out⟩
          case measure => simp [intOf]; omega
    · have hlti : ¬ (p : Int) < s.size := by omega
      go_wp2
      go_ret3
      exact LexPostS.ok (HC.out _ (LexR.fin (by omega))) hown hbel
theorem lex_big (s : ByteArray) (w : World) (hs : 8000 < s.size) (hm : s.size ≤ maxLen) : Calls Tryd.prog 21 #[.string s] w fun e w' => e = .returned (.tuple #[.slice none 0 0, .int .i64 5, .int .i64 0]) ∧ w' = w := by
  unfold maxLen at hm
  have h : (8000 : Int) < s.size := by omega
  go_enter Tryd.func21, Tryd.ntmps21
  go_wp2
  try go_step3
  go_wp2
  try rw [Exit.noGoto_ret]
  go_ret3
  exact ⟨rfl, rfl⟩
theorem lexS_big (s : ByteArray) (w : World) (hs : 8000 < s.size) (hm : s.size ≤ maxLen) : Calls Tryd.prog 20 #[.string s] w fun e w' => ∃ b, e = .returned (.tuple #[.slice b 0 0, .int .i64 5, .int .i64 0]) ∧ Below w.heap.size w w' := by
  unfold maxLen at hm
  have h : (8000 : Int) < s.size := by omega
  go_enter Tryd.func20, Tryd.ntmps20
  go_wp2
  go_ret3
  exact ⟨_, rfl, (Below.refl _ _).alloc (Nat.le_refl _) _⟩
end Go.Proofs.YtcgnkcehjcednaaDoor
