import Derived.Test.YtfgjleifhjegkaaDoorKPT
import Derived.Test.YtfgjleifhjegkaaDoorVM
import Derived.Laws.BytesArg
namespace Go.Proofs.YtfgjleifhjegkaaDoor
open Go.ChangeShapes Go.WideShapes Go.ChangeAt Go.RowKit
set_option linter.unusedVariables false
set_option linter.unusedSimpArgs false
set_option maxRecDepth 100000
def Byt (xs : List Int) : Prop := ∀ x ∈ xs, 0 ≤ x ∧ x ≤ 255
theorem conv_rs {w : World} {a : Option Addr} {cap : Nat} {xs : List Int} (h : RS 1 CY 0 w (.slice a xs.length cap) xs) : (convert 24 9 (.slice a xs.length cap)).run Tryd.prog w = .ok (.string (strOfNums xs)) w := by
  rcases Nat.eq_zero_or_pos xs.length with h0 | h0
  · have hx : xs = [] := List.eq_nil_of_length_eq_zero h0
    subst hx
    rcases a with _ | a
    · exact run_convert_bytes_nil w 24 5 Tryd.underlying24 Tryd.underlying5 0 cap 9 Tryd.underlying9
    · rw [List.length_nil, run_convert_bytes_string w 24 9 5 _ 0 cap Tryd.underlying24 Tryd.underlying5 Tryd.underlying9]
      have hl := run_loadCells_list (P := Tryd.prog) w a [] (fun j v hj => by simp at hj)
      rw [run_bytesToString w a 0 cap [] (by simpa using hl)]
      rfl
  · obtain ⟨a', cap', he, h2⟩ := h
    simp only [Value.slice.injEq] at he
    obtain ⟨rfl, _, rfl⟩ := he
    obtain ⟨g, o, rfl, _, hg, hc⟩ := h2 h0
    exact run_convert_bytes_arg w 24 5 Tryd.underlying24 Tryd.underlying5 g o xs.length cap xs rfl (fun i hi => by
      obtain ⟨cs, x, y⟩ := hc i hi
      have := y 0 (by omega)
      rw [Nat.mul_one, Nat.add_zero] at this
      unfold CY at x
      subst x
      rw [this]
      simp [List.getD, List.getElem?_eq_getElem hi]) 9 Tryd.underlying9
theorem strNums_inj {xs ys : List Int} (hx : Byt xs) (hy : Byt ys) (h : strOfNums xs = strOfNums ys) : xs = ys := by
  unfold strOfNums at h
  have h1 := congrArg (fun b : ByteArray => b.data.toList) h
  simp at h1
  have key : ∀ (l l' : List Int), Byt l → Byt l' → l.map (fun n => UInt8.ofNat n.toNat) = l'.map (fun n => UInt8.ofNat n.toNat) → l = l' := by
    intro l
    induction l with
    | nil => intro l' _ _ e; simp at e; exact e.symm
    | cons a r ih =>
      intro l' h1 h2 e
      cases l' with
      | nil => simp at e
      | cons b r' =>
        simp only [List.map_cons, List.cons.injEq] at e
        have ha := h1 a (List.mem_cons_self ..)
        have hb := h2 b (List.mem_cons_self ..)
        have e1 := congrArg UInt8.toNat e.1
        simp at e1
        have : a = b := by omega
        rw [this, ih r' (fun x hx => h1 x (List.mem_cons_of_mem _ hx)) (fun x hx => h2 x (List.mem_cons_of_mem _ hx)) e.2]
  exact key xs ys hx hy h1
theorem ret_bx {a b : Bool} (h : a = b) : Ending.returned (.bool a) = .returned (.bool b) := by rw [h]
set_option maxHeartbeats 2000000 in
theorem same_spec (a b : Option Addr) (ca cb : Nat) (xs ys : List Int) (w : World) (hx : RS 1 CY 0 w (.slice a xs.length ca) xs) (hy : RS 1 CY 0 w (.slice b ys.length cb) ys) (bx : Byt xs) (bY : Byt ys) :
    Calls Tryd.prog 40 #[.slice a xs.length ca, .slice b ys.length cb] w fun e w' => e = .returned (.bool (decide (xs = ys))) ∧ w' = w := by
  have hcx := conv_rs hx
  have hcy := conv_rs hy
  have HE : Hid (decide (xs = ys) = ((strOfNums xs).toList == (strOfNums ys).toList)) := (by
    by_cases h : xs = ys
    · subst h; simp
    · rw [decide_eq_false h]
      symm
      rw [beq_eq_false_iff_ne, ByteArray.toList_eq, ByteArray.toList_eq]
      exact fun e => h (strNums_inj bx bY (Go.WideShapes.bytes_inj e)) : decide (xs = ys) = ((strOfNums xs).toList == (strOfNums ys).toList))
  clear hx hy bx bY
  go_enter Tryd.func40, Tryd.ntmps40
  go_wp2
  go_ret
  exact ⟨ret_bx HE.out.symm, rfl⟩
/-- A number out of bytes. -/
def numL (xs : List Int) : Nat := xs.foldl (fun n x => n * 256 + x.toNat) 0
theorem numL_snoc (xs : List Int) (x : Int) : numL (xs ++ [x]) = numL xs * 256 + x.toNat := by simp [numL]
theorem numL_take {xs : List Int} {k : Nat} (h : k < xs.length) : numL (xs.take (k + 1)) = numL (xs.take k) * 256 + xs[k].toNat := by
  rw [List.take_add_one, List.getElem?_eq_getElem h]
  exact numL_snoc _ _
theorem numL_lt : ∀ (xs : List Int), Byt xs → numL xs < 256 ^ xs.length := by
  intro xs
  induction h : xs.length generalizing xs with
  | zero => intro _; have := List.eq_nil_of_length_eq_zero h; subst this; simp [numL]
  | succ m ih =>
    intro hb
    obtain ⟨l, x, rfl⟩ : ∃ l x, xs = l ++ [x] := by
      have hne : xs ≠ [] := by intro e; subst e; simp at h
      exact ⟨xs.dropLast, xs.getLast hne, (List.dropLast_concat_getLast hne).symm⟩
    simp at h
    have h1 := ih l h (fun y hy => hb y (by simp [hy]))
    have h2 := hb x (by simp)
    rw [numL_snoc, Nat.pow_succ]
    have : x.toNat ≤ 255 := by omega
    omega
theorem beL_byt : ∀ m n, Byt (beL m n)
  | 0, _ => fun x hx => by simp [beL] at hx
  | m + 1, n => fun x hx => by
    unfold beL at hx
    rcases List.mem_append.1 hx with h | h
    · exact beL_byt m _ x h
    · simp at h; subst h; omega
theorem numL_beL : ∀ m n, n < 256 ^ m → numL (beL m n) = n
  | 0, n, h => by simp at h; subst h; rfl
  | m + 1, n, h => by
    unfold beL
    rw [numL_snoc, numL_beL m (n / 256) (by rw [Nat.pow_succ] at h; exact Nat.div_lt_of_lt_mul (by omega))]
    have : ((n % 256 : Nat) : Int).toNat = n % 256 := by omega
    rw [this]; omega
set_option maxHeartbeats 4000000 in
theorem number_spec (a : Option Addr) (ca : Nat) (xs : List Int) (w : World) (hv : RS 1 CY 0 w (.slice a xs.length ca) xs) (hb : Byt xs) (hn : xs.length ≤ 8) :
    Calls Tryd.prog 60 #[.slice a xs.length ca] w fun e w' => e = .returned (.int .u64 (numL xs : Int)) ∧ w' = w := by
  have HB := hid hb
  obtain ⟨a', ca', he, hva⟩ := hv
  simp only [Value.slice.injEq] at he
  obtain ⟨rfl, _, rfl⟩ := he
  clear hb
  go_enter Tryd.func60, Tryd.ntmps60
  go_wp2
  go_loopw [3, 8] (fun nv iv wr => ∃ (k m : Nat), k ≤ xs.length ∧ iv = .int .i64 k ∧ nv = .int .u64 (m : Int) ∧ Hid (m = numL (xs.take k)) ∧ wr = w) (fun _ iv _ => xs.length - (intOf iv).toNat)
  case atStart => exact ⟨0, 0, Nat.zero_le _, rfl, rfl, (by simp [numL] : 0 = numL (xs.take 0)), rfl⟩
  case round =>
    obtain ⟨k, m, hk, rfl, rfl, HM, hww⟩ := hrel
    replace hww := hww.symm
    subst hww
    by_cases hlt : k < xs.length
    · have hlti : (k : Int) < xs.length := by omega
      obtain ⟨g, o, rfl, _, hg, hgc⟩ := hva (by omega)
      obtain ⟨cs, hC, hcell⟩ := hgc k hlt
      unfold CY at hC
      subst hC
      have c0 : w.cell? ⟨g, o + k, none⟩ = some (.int .u8 xs[k]) := by have := hcell 0 (by omega); rwa [Nat.mul_one, Nat.add_zero] at this
      have hx := HB.out xs[k] (List.getElem_mem hlt)
      have HS : Hid (numL (xs.take (k + 1)) = m * 256 + xs[k].toNat) := (by rw [numL_take hlt, ← HM.out] : numL (xs.take (k + 1)) = m * 256 + xs[k].toNat)
      have hmb : m ≤ 72057594037927935 := by
        have h1 := numL_lt (xs.take k) (fun y hy => HB.out y (List.mem_of_mem_take hy))
        rw [List.length_take, Nat.min_eq_left (by omega), ← HM.out] at h1
        have h2 : 256 ^ k ≤ 256 ^ 7 := Nat.pow_le_pow_right (by omega) (by omega)
        have h3 : 256 ^ 7 = 72057594037927936 := by decide
        omega
      clear hcell hgc hva HM
      generalize xs[k] = x at *
      obtain ⟨y, rfl⟩ : ∃ y : Nat, x = y := ⟨x.toNat, by omega⟩
      have hw1 : IntKind.u64.wrap ((m : Int) * 256) = (m : Int) * 256 := by simp only [IntKind.wrap, IntKind.bits, IntKind.signed]; simp; omega
      have hw2 : IntKind.u64.wrap (y : Int) = y := by simp only [IntKind.wrap, IntKind.bits, IntKind.signed]; simp; omega
      have hw3 : IntKind.u64.wrap ((m : Int) * 256 + y) = ((m * 256 + y : Nat) : Int) := by simp only [IntKind.wrap, IntKind.bits, IntKind.signed]; simp; omega
      have HS2 : Hid (m * 256 + y = numL (xs.take (k + 1))) := (by rw [HS.out]; simp : m * 256 + y = numL (xs.take (k + 1)))
      clear HS
      go_wp2
      go_roundw
      case rel => exact ⟨k + 1, m * 256 + y, by omega, by go_num, by first | rfl | go_num, HS2, by first | rfl | trivial⟩
      case measure => simp [intOf]; omega
    · have hlti : ¬ (k : Int) < xs.length := by omega
      have HE : Hid (m = numL xs) := (by rw [HM.out, List.take_of_length_le (by omega)] : m = numL xs)
      clear HM
      go_wp2
      go_ret
      exact ⟨ret_i (by rw [HE.out]), rfl⟩
end Go.Proofs.YtfgjleifhjegkaaDoor
