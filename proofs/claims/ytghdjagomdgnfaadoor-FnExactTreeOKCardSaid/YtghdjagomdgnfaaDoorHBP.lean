import Derived.Test.YtghdjagomdgnfaaDoorHBJ
import Derived.Test.YtghdjagomdgnfaaDoorHAC
import Derived.Test.YtghdjagomdgnfaaDoorHAT
import Derived.Test.YtghdjagomdgnfaaDoorHAU
import Derived.Test.YtghdjagomdgnfaaDoorHAV
import Derived.Test.YtghdjagomdgnfaaDoorHAW
import Derived.Test.YtghdjagomdgnfaaDoorHBK
import Derived.Test.YtghdjagomdgnfaaDoorHBL
import Derived.Test.YtghdjagomdgnfaaDoorHAX
import Derived.Test.YtghdjagomdgnfaaDoorHAY
import Derived.Test.YtghdjagomdgnfaaDoorHAZ
import Derived.Test.YtghdjagomdgnfaaDoorHBA
import Derived.Test.YtghdjagomdgnfaaDoorHBB
import Derived.Test.YtghdjagomdgnfaaDoorHBM
import Derived.Test.YtghdjagomdgnfaaDoorHBC
import Derived.Test.YtghdjagomdgnfaaDoorHBD
import Derived.Test.YtghdjagomdgnfaaDoorHBE
import Derived.Test.YtghdjagomdgnfaaDoorHBF
import Derived.Test.YtghdjagomdgnfaaDoorHBG
import Derived.Test.YtghdjagomdgnfaaDoorHBH
import Derived.Test.YtghdjagomdgnfaaDoorHBI
import Derived.Test.YtghdjagomdgnfaaDoorHBN
import Derived.Test.YtghdjagomdgnfaaDoorHBO
namespace Go.Proofs.YtghdjagomdgnfaaDoor
open Go.ChangeShapes Go.WideShapes Go.ChangeAt Go.RowKit
set_option linter.unusedVariables false
set_option linter.unusedSimpArgs false
set_option maxRecDepth 100000
open K
theorem toG {F : Nat} {args : Array Value} {w : World} {b c : Bool} (h : Calls Tryd.prog F args w fun e w' => e = .returned (.bool b) ∧ Below w.heap.size w w') (hb : b = c) : Calls Tryd.prog F args w fun e w' => e = .returned (.bool c) ∧ Below w.heap.size w w' := by subst hb; exact h
theorem len1 {l : List Int} (h : l.length = 1) : ∃ a, l = [a] := by
  match l, h with
  | [a], _ => exact ⟨a, rfl⟩
theorem len2 {l : List Int} (h : l.length = 2) : ∃ a b, l = [a, b] := by
  match l, h with
  | [a, b], _ => exact ⟨a, b, rfl⟩
theorem len3 {l : List Int} (h : l.length = 3) : ∃ a b c, l = [a, b, c] := by
  match l, h with
  | [a, b, c], _ => exact ⟨a, b, c, rfl⟩
theorem lastOf {l : List Int} (h : l ≠ []) : ∃ i x, l = i ++ [x] := ⟨l.dropLast, l.getLast h, (List.dropLast_concat_getLast h).symm⟩
end Go.Proofs.YtghdjagomdgnfaaDoor
namespace Go.Proofs.YtghdjagomdgnfaaDoor
open Go.ChangeShapes Go.WideShapes Go.ChangeAt Go.RowKit
set_option linter.unusedVariables false
set_option linter.unusedSimpArgs false
set_option maxRecDepth 100000
open K
theorem n22_1 (t : Nd) (ops : List Int) (g o cap : Nat) (w : World) (hop : t.op = 1) (hl : ops.length ≤ 6000) (hcap : cap = ops.length) (hr : ∀ x ∈ ops, 0 ≤ x ∧ x ≤ 64) (hv : RC w g o cap ops) (hs1 : t.name.size ≤ 1048576) (hs2 : t.qual.size ≤ 1048576) (hs3 : t.vs.size ≤ 1048576) (hN : t.n ≤ 9223372036854775807) (hM : t.m ≤ 9223372036854775807) (ka : Option Addr) (kl kc : Nat) :
    Calls Tryd.prog 22 #[ndV t (.slice ka kl kc), .slice (some ⟨g, o, none⟩) ops.length cap] w fun e w' => e = .returned (.bool (nodG t ops)) ∧ Below w.heap.size w w' := by
  have hn : ops.length ≤ 1048576 := by omega
  have hc : cap ≤ 1048576 := by omega
  · exact toG (ex_1 t ops _ w hop hn hv.ri hs1 hs2 hs3 ka kl kc) (g_1 t ops hop hr hl)
theorem n22_2 (t : Nd) (ops : List Int) (g o cap : Nat) (w : World) (hop : t.op = 2) (hl : ops.length ≤ 6000) (hcap : cap = ops.length) (hr : ∀ x ∈ ops, 0 ≤ x ∧ x ≤ 64) (hv : RC w g o cap ops) (hs1 : t.name.size ≤ 1048576) (hs2 : t.qual.size ≤ 1048576) (hs3 : t.vs.size ≤ 1048576) (hN : t.n ≤ 9223372036854775807) (hM : t.m ≤ 9223372036854775807) (ka : Option Addr) (kl kc : Nat) :
    Calls Tryd.prog 22 #[ndV t (.slice ka kl kc), .slice (some ⟨g, o, none⟩) ops.length cap] w fun e w' => e = .returned (.bool (nodG t ops)) ∧ Below w.heap.size w w' := by
  have hn : ops.length ≤ 1048576 := by omega
  have hc : cap ≤ 1048576 := by omega
  · exact toG (ex_2 t _ ops _ w hop hn hv.ri hs1 hs2 ka kl kc rfl) (g_2 t ops hop hr hl)
theorem n22_3 (t : Nd) (ops : List Int) (g o cap : Nat) (w : World) (hop : t.op = 3) (hl : ops.length ≤ 6000) (hcap : cap = ops.length) (hr : ∀ x ∈ ops, 0 ≤ x ∧ x ≤ 64) (hv : RC w g o cap ops) (hs1 : t.name.size ≤ 1048576) (hs2 : t.qual.size ≤ 1048576) (hs3 : t.vs.size ≤ 1048576) (hN : t.n ≤ 9223372036854775807) (hM : t.m ≤ 9223372036854775807) (ka : Option Addr) (kl kc : Nat) :
    Calls Tryd.prog 22 #[ndV t (.slice ka kl kc), .slice (some ⟨g, o, none⟩) ops.length cap] w fun e w' => e = .returned (.bool (nodG t ops)) ∧ Below w.heap.size w w' := by
  have hn : ops.length ≤ 1048576 := by omega
  have hc : cap ≤ 1048576 := by omega
  · exact toG (ex_3 t ops _ w hop hn hv.ri hs1 hs2 ka kl kc) (g_3 t ops hop hr hl)
theorem n22_4 (t : Nd) (ops : List Int) (g o cap : Nat) (w : World) (hop : t.op = 4) (hl : ops.length ≤ 6000) (hcap : cap = ops.length) (hr : ∀ x ∈ ops, 0 ≤ x ∧ x ≤ 64) (hv : RC w g o cap ops) (hs1 : t.name.size ≤ 1048576) (hs2 : t.qual.size ≤ 1048576) (hs3 : t.vs.size ≤ 1048576) (hN : t.n ≤ 9223372036854775807) (hM : t.m ≤ 9223372036854775807) (ka : Option Addr) (kl kc : Nat) :
    Calls Tryd.prog 22 #[ndV t (.slice ka kl kc), .slice (some ⟨g, o, none⟩) ops.length cap] w fun e w' => e = .returned (.bool (nodG t ops)) ∧ Below w.heap.size w w' := by
  have hn : ops.length ≤ 1048576 := by omega
  have hc : cap ≤ 1048576 := by omega
  · exact toG (ex_4 t ops _ w hop hn hv.ri hs1 hs2 ka kl kc) (g_4 t ops hop hr hl)
theorem n22_5 (t : Nd) (ops : List Int) (g o cap : Nat) (w : World) (hop : t.op = 5) (hl : ops.length ≤ 6000) (hcap : cap = ops.length) (hr : ∀ x ∈ ops, 0 ≤ x ∧ x ≤ 64) (hv : RC w g o cap ops) (hs1 : t.name.size ≤ 1048576) (hs2 : t.qual.size ≤ 1048576) (hs3 : t.vs.size ≤ 1048576) (hN : t.n ≤ 9223372036854775807) (hM : t.m ≤ 9223372036854775807) (ka : Option Addr) (kl kc : Nat) :
    Calls Tryd.prog 22 #[ndV t (.slice ka kl kc), .slice (some ⟨g, o, none⟩) ops.length cap] w fun e w' => e = .returned (.bool (nodG t ops)) ∧ Below w.heap.size w w' := by
  have hn : ops.length ≤ 1048576 := by omega
  have hc : cap ≤ 1048576 := by omega
  · exact toG (ex_5 t ops _ w hop hn hv.ri hs1 hs2 ka kl kc) (g_5 t ops hop hr hl)
theorem n22_6 (t : Nd) (ops : List Int) (g o cap : Nat) (w : World) (hop : t.op = 6) (hl : ops.length ≤ 6000) (hcap : cap = ops.length) (hr : ∀ x ∈ ops, 0 ≤ x ∧ x ≤ 64) (hv : RC w g o cap ops) (hs1 : t.name.size ≤ 1048576) (hs2 : t.qual.size ≤ 1048576) (hs3 : t.vs.size ≤ 1048576) (hN : t.n ≤ 9223372036854775807) (hM : t.m ≤ 9223372036854775807) (ka : Option Addr) (kl kc : Nat) :
    Calls Tryd.prog 22 #[ndV t (.slice ka kl kc), .slice (some ⟨g, o, none⟩) ops.length cap] w fun e w' => e = .returned (.bool (nodG t ops)) ∧ Below w.heap.size w w' := by
  have hn : ops.length ≤ 1048576 := by omega
  have hc : cap ≤ 1048576 := by omega
  · exact toG (ex_6 t ops _ w hop hn hv.ri hs1 hs2 ka kl kc) (g_6 t ops hop hr hl)
theorem n22_7 (t : Nd) (ops : List Int) (g o cap : Nat) (w : World) (hop : t.op = 7) (hl : ops.length ≤ 6000) (hcap : cap = ops.length) (hr : ∀ x ∈ ops, 0 ≤ x ∧ x ≤ 64) (hv : RC w g o cap ops) (hs1 : t.name.size ≤ 1048576) (hs2 : t.qual.size ≤ 1048576) (hs3 : t.vs.size ≤ 1048576) (hN : t.n ≤ 9223372036854775807) (hM : t.m ≤ 9223372036854775807) (ka : Option Addr) (kl kc : Nat) :
    Calls Tryd.prog 22 #[ndV t (.slice ka kl kc), .slice (some ⟨g, o, none⟩) ops.length cap] w fun e w' => e = .returned (.bool (nodG t ops)) ∧ Below w.heap.size w w' := by
  have hn : ops.length ≤ 1048576 := by omega
  have hc : cap ≤ 1048576 := by omega
  · exact toG (ex_7 t ops _ w hop hn hv.ri hs1 hs2 ka kl kc) (g_7 t ops hop hr hl)
theorem n22_8 (t : Nd) (ops : List Int) (g o cap : Nat) (w : World) (hop : t.op = 8) (hl : ops.length ≤ 6000) (hcap : cap = ops.length) (hr : ∀ x ∈ ops, 0 ≤ x ∧ x ≤ 64) (hv : RC w g o cap ops) (hs1 : t.name.size ≤ 1048576) (hs2 : t.qual.size ≤ 1048576) (hs3 : t.vs.size ≤ 1048576) (hN : t.n ≤ 9223372036854775807) (hM : t.m ≤ 9223372036854775807) (ka : Option Addr) (kl kc : Nat) :
    Calls Tryd.prog 22 #[ndV t (.slice ka kl kc), .slice (some ⟨g, o, none⟩) ops.length cap] w fun e w' => e = .returned (.bool (nodG t ops)) ∧ Below w.heap.size w w' := by
  have hn : ops.length ≤ 1048576 := by omega
  have hc : cap ≤ 1048576 := by omega
  · exact toG (ex_8 t ops _ w hop hn hv.ri hs1 hs2 ka kl kc) (g_8 t ops hop hr hl)
theorem n22_9 (t : Nd) (ops : List Int) (g o cap : Nat) (w : World) (hop : t.op = 9) (hl : ops.length ≤ 6000) (hcap : cap = ops.length) (hr : ∀ x ∈ ops, 0 ≤ x ∧ x ≤ 64) (hv : RC w g o cap ops) (hs1 : t.name.size ≤ 1048576) (hs2 : t.qual.size ≤ 1048576) (hs3 : t.vs.size ≤ 1048576) (hN : t.n ≤ 9223372036854775807) (hM : t.m ≤ 9223372036854775807) (ka : Option Addr) (kl kc : Nat) :
    Calls Tryd.prog 22 #[ndV t (.slice ka kl kc), .slice (some ⟨g, o, none⟩) ops.length cap] w fun e w' => e = .returned (.bool (nodG t ops)) ∧ Below w.heap.size w w' := by
  have hn : ops.length ≤ 1048576 := by omega
  have hc : cap ≤ 1048576 := by omega
  · by_cases h : ops.length = 2
    · obtain ⟨x0, x1, rfl⟩ := len2 h
      exact toG (ex_9_n t x0 x1 _ w hop hv.ri hs1 hs2 ka kl kc) (g_9n t x0 x1 hop hr)
    · have hno : ((ops.length : Int) == 2) = false := by simp; omega
      exact toG (ex_9_no t ops _ w hop hn hv.ri hs1 hs2 ka kl kc hno) (g_9o t ops hop hno)
theorem n22_10 (t : Nd) (ops : List Int) (g o cap : Nat) (w : World) (hop : t.op = 10) (hl : ops.length ≤ 6000) (hcap : cap = ops.length) (hr : ∀ x ∈ ops, 0 ≤ x ∧ x ≤ 64) (hv : RC w g o cap ops) (hs1 : t.name.size ≤ 1048576) (hs2 : t.qual.size ≤ 1048576) (hs3 : t.vs.size ≤ 1048576) (hN : t.n ≤ 9223372036854775807) (hM : t.m ≤ 9223372036854775807) (ka : Option Addr) (kl kc : Nat) :
    Calls Tryd.prog 22 #[ndV t (.slice ka kl kc), .slice (some ⟨g, o, none⟩) ops.length cap] w fun e w' => e = .returned (.bool (nodG t ops)) ∧ Below w.heap.size w w' := by
  have hn : ops.length ≤ 1048576 := by omega
  have hc : cap ≤ 1048576 := by omega
  · exact toG (ex_10 t ops _ w hop hn hv.ri hs1 hs2 ka kl kc) (g_10 t ops hop hr hl)
theorem n22_11 (t : Nd) (ops : List Int) (g o cap : Nat) (w : World) (hop : t.op = 11) (hl : ops.length ≤ 6000) (hcap : cap = ops.length) (hr : ∀ x ∈ ops, 0 ≤ x ∧ x ≤ 64) (hv : RC w g o cap ops) (hs1 : t.name.size ≤ 1048576) (hs2 : t.qual.size ≤ 1048576) (hs3 : t.vs.size ≤ 1048576) (hN : t.n ≤ 9223372036854775807) (hM : t.m ≤ 9223372036854775807) (ka : Option Addr) (kl kc : Nat) :
    Calls Tryd.prog 22 #[ndV t (.slice ka kl kc), .slice (some ⟨g, o, none⟩) ops.length cap] w fun e w' => e = .returned (.bool (nodG t ops)) ∧ Below w.heap.size w w' := by
  have hn : ops.length ≤ 1048576 := by omega
  have hc : cap ≤ 1048576 := by omega
  · exact toG (ex_11 t ops _ w hop hn hv.ri hs1 hs2 ka kl kc) (g_11 t ops hop hr hl)
theorem n22_12 (t : Nd) (ops : List Int) (g o cap : Nat) (w : World) (hop : t.op = 12) (hl : ops.length ≤ 6000) (hcap : cap = ops.length) (hr : ∀ x ∈ ops, 0 ≤ x ∧ x ≤ 64) (hv : RC w g o cap ops) (hs1 : t.name.size ≤ 1048576) (hs2 : t.qual.size ≤ 1048576) (hs3 : t.vs.size ≤ 1048576) (hN : t.n ≤ 9223372036854775807) (hM : t.m ≤ 9223372036854775807) (ka : Option Addr) (kl kc : Nat) :
    Calls Tryd.prog 22 #[ndV t (.slice ka kl kc), .slice (some ⟨g, o, none⟩) ops.length cap] w fun e w' => e = .returned (.bool (nodG t ops)) ∧ Below w.heap.size w w' := by
  have hn : ops.length ≤ 1048576 := by omega
  have hc : cap ≤ 1048576 := by omega
  · exact toG (ex_12 t ops _ w hop hn hv.ri hs1 hs2 ka kl kc) (g_12 t ops hop hr hl)
theorem n22_13 (t : Nd) (ops : List Int) (g o cap : Nat) (w : World) (hop : t.op = 13) (hl : ops.length ≤ 6000) (hcap : cap = ops.length) (hr : ∀ x ∈ ops, 0 ≤ x ∧ x ≤ 64) (hv : RC w g o cap ops) (hs1 : t.name.size ≤ 1048576) (hs2 : t.qual.size ≤ 1048576) (hs3 : t.vs.size ≤ 1048576) (hN : t.n ≤ 9223372036854775807) (hM : t.m ≤ 9223372036854775807) (ka : Option Addr) (kl kc : Nat) :
    Calls Tryd.prog 22 #[ndV t (.slice ka kl kc), .slice (some ⟨g, o, none⟩) ops.length cap] w fun e w' => e = .returned (.bool (nodG t ops)) ∧ Below w.heap.size w w' := by
  have hn : ops.length ≤ 1048576 := by omega
  have hc : cap ≤ 1048576 := by omega
  · exact toG (ex_13 t ops _ w hop hn hv.ri hs1 hs2 ka kl kc) (g_13 t ops hop hr hl)
theorem n22_14 (t : Nd) (ops : List Int) (g o cap : Nat) (w : World) (hop : t.op = 14) (hl : ops.length ≤ 6000) (hcap : cap = ops.length) (hr : ∀ x ∈ ops, 0 ≤ x ∧ x ≤ 64) (hv : RC w g o cap ops) (hs1 : t.name.size ≤ 1048576) (hs2 : t.qual.size ≤ 1048576) (hs3 : t.vs.size ≤ 1048576) (hN : t.n ≤ 9223372036854775807) (hM : t.m ≤ 9223372036854775807) (ka : Option Addr) (kl kc : Nat) :
    Calls Tryd.prog 22 #[ndV t (.slice ka kl kc), .slice (some ⟨g, o, none⟩) ops.length cap] w fun e w' => e = .returned (.bool (nodG t ops)) ∧ Below w.heap.size w w' := by
  have hn : ops.length ≤ 1048576 := by omega
  have hc : cap ≤ 1048576 := by omega
  · exact toG (ex_14 t ops _ w hop hn hv.ri hs1 hs2 ka kl kc) (g_14 t ops hop hr hl)
theorem n22_15 (t : Nd) (ops : List Int) (g o cap : Nat) (w : World) (hop : t.op = 15) (hl : ops.length ≤ 6000) (hcap : cap = ops.length) (hr : ∀ x ∈ ops, 0 ≤ x ∧ x ≤ 64) (hv : RC w g o cap ops) (hs1 : t.name.size ≤ 1048576) (hs2 : t.qual.size ≤ 1048576) (hs3 : t.vs.size ≤ 1048576) (hN : t.n ≤ 9223372036854775807) (hM : t.m ≤ 9223372036854775807) (ka : Option Addr) (kl kc : Nat) :
    Calls Tryd.prog 22 #[ndV t (.slice ka kl kc), .slice (some ⟨g, o, none⟩) ops.length cap] w fun e w' => e = .returned (.bool (nodG t ops)) ∧ Below w.heap.size w w' := by
  have hn : ops.length ≤ 1048576 := by omega
  have hc : cap ≤ 1048576 := by omega
  · by_cases h1 : t.n = 1
    · exact toG (ex_15_all t ops _ w hop hn hv.ri hs1 hs2 ka kl kc h1) (g_15a t ops hop h1 hr hl)
    · have h2 : (t.n == 1) = false := by simpa using h1
      exact toG (ex_15_one t ops _ w hop hn hv.ri hs1 hs2 ka kl kc h2) (g_15b t ops hop h2 hr hl)
theorem n22_16 (t : Nd) (ops : List Int) (g o cap : Nat) (w : World) (hop : t.op = 16) (hl : ops.length ≤ 6000) (hcap : cap = ops.length) (hr : ∀ x ∈ ops, 0 ≤ x ∧ x ≤ 64) (hv : RC w g o cap ops) (hs1 : t.name.size ≤ 1048576) (hs2 : t.qual.size ≤ 1048576) (hs3 : t.vs.size ≤ 1048576) (hN : t.n ≤ 9223372036854775807) (hM : t.m ≤ 9223372036854775807) (ka : Option Addr) (kl kc : Nat) :
    Calls Tryd.prog 22 #[ndV t (.slice ka kl kc), .slice (some ⟨g, o, none⟩) ops.length cap] w fun e w' => e = .returned (.bool (nodG t ops)) ∧ Below w.heap.size w w' := by
  have hn : ops.length ≤ 1048576 := by omega
  have hc : cap ≤ 1048576 := by omega
  · by_cases h : ops.length = 1
    · obtain ⟨x0, rfl⟩ := len1 h
      exact toG (ex_16_n t x0 _ w hop hv.ri hs1 hs2 ka kl kc) (g_16n t x0 hop hr)
    · have hno : ((ops.length : Int) == 1) = false := by simp; omega
      exact toG (ex_16_no t ops _ w hop hn hv.ri hs1 hs2 ka kl kc hno) (g_16o t ops hop hno)
theorem n22_17 (t : Nd) (ops : List Int) (g o cap : Nat) (w : World) (hop : t.op = 17) (hl : ops.length ≤ 6000) (hcap : cap = ops.length) (hr : ∀ x ∈ ops, 0 ≤ x ∧ x ≤ 64) (hv : RC w g o cap ops) (hs1 : t.name.size ≤ 1048576) (hs2 : t.qual.size ≤ 1048576) (hs3 : t.vs.size ≤ 1048576) (hN : t.n ≤ 9223372036854775807) (hM : t.m ≤ 9223372036854775807) (ka : Option Addr) (kl kc : Nat) :
    Calls Tryd.prog 22 #[ndV t (.slice ka kl kc), .slice (some ⟨g, o, none⟩) ops.length cap] w fun e w' => e = .returned (.bool (nodG t ops)) ∧ Below w.heap.size w w' := by
  have hn : ops.length ≤ 1048576 := by omega
  have hc : cap ≤ 1048576 := by omega
  · by_cases h : ops.length = 1
    · obtain ⟨x0, rfl⟩ := len1 h
      exact toG (ex_17_n t x0 _ w hop hv.ri hs1 hs2 ka kl kc) (g_17n t x0 hop hr)
    · have hno : ((ops.length : Int) == 1) = false := by simp; omega
      exact toG (ex_17_no t ops _ w hop hn hv.ri hs1 hs2 ka kl kc hno) (g_17o t ops hop hno)
theorem n22 (t : Nd) (ops : List Int) (g o cap : Nat) (w : World) (hop : 1 ≤ t.op ∧ t.op ≤ 17) (hl : ops.length ≤ 6000) (hcap : cap = ops.length) (hr : ∀ x ∈ ops, 0 ≤ x ∧ x ≤ 64) (hv : RC w g o cap ops) (hs1 : t.name.size ≤ 1048576) (hs2 : t.qual.size ≤ 1048576) (hs3 : t.vs.size ≤ 1048576) (hN : t.n ≤ 9223372036854775807) (hM : t.m ≤ 9223372036854775807) (ka : Option Addr) (kl kc : Nat) :
    Calls Tryd.prog 22 #[ndV t (.slice ka kl kc), .slice (some ⟨g, o, none⟩) ops.length cap] w fun e w' => e = .returned (.bool (nodG t ops)) ∧ Below w.heap.size w w' := by
  have hd : t.op = 1 ∨ t.op = 2 ∨ t.op = 3 ∨ t.op = 4 ∨ t.op = 5 ∨ t.op = 6 ∨ t.op = 7 ∨ t.op = 8 ∨ t.op = 9 ∨ t.op = 10 ∨ t.op = 11 ∨ t.op = 12 ∨ t.op = 13 ∨ t.op = 14 ∨ t.op = 15 ∨ t.op = 16 ∨ t.op = 17 := by omega
  rcases hd with h | h | h | h | h | h | h | h | h | h | h | h | h | h | h | h | h
  · exact n22_1 t ops g o cap w h hl hcap hr hv hs1 hs2 hs3 hN hM ka kl kc
  · exact n22_2 t ops g o cap w h hl hcap hr hv hs1 hs2 hs3 hN hM ka kl kc
  · exact n22_3 t ops g o cap w h hl hcap hr hv hs1 hs2 hs3 hN hM ka kl kc
  · exact n22_4 t ops g o cap w h hl hcap hr hv hs1 hs2 hs3 hN hM ka kl kc
  · exact n22_5 t ops g o cap w h hl hcap hr hv hs1 hs2 hs3 hN hM ka kl kc
  · exact n22_6 t ops g o cap w h hl hcap hr hv hs1 hs2 hs3 hN hM ka kl kc
  · exact n22_7 t ops g o cap w h hl hcap hr hv hs1 hs2 hs3 hN hM ka kl kc
  · exact n22_8 t ops g o cap w h hl hcap hr hv hs1 hs2 hs3 hN hM ka kl kc
  · exact n22_9 t ops g o cap w h hl hcap hr hv hs1 hs2 hs3 hN hM ka kl kc
  · exact n22_10 t ops g o cap w h hl hcap hr hv hs1 hs2 hs3 hN hM ka kl kc
  · exact n22_11 t ops g o cap w h hl hcap hr hv hs1 hs2 hs3 hN hM ka kl kc
  · exact n22_12 t ops g o cap w h hl hcap hr hv hs1 hs2 hs3 hN hM ka kl kc
  · exact n22_13 t ops g o cap w h hl hcap hr hv hs1 hs2 hs3 hN hM ka kl kc
  · exact n22_14 t ops g o cap w h hl hcap hr hv hs1 hs2 hs3 hN hM ka kl kc
  · exact n22_15 t ops g o cap w h hl hcap hr hv hs1 hs2 hs3 hN hM ka kl kc
  · exact n22_16 t ops g o cap w h hl hcap hr hv hs1 hs2 hs3 hN hM ka kl kc
  · exact n22_17 t ops g o cap w h hl hcap hr hv hs1 hs2 hs3 hN hM ka kl kc
end Go.Proofs.YtghdjagomdgnfaaDoor
namespace Go.Proofs.YtghdjagomdgnfaaDoor
open Go.ChangeShapes Go.WideShapes Go.ChangeAt Go.RowKit
set_option linter.unusedVariables false
set_option linter.unusedSimpArgs false
set_option maxRecDepth 100000
open K
theorem n23_18 (t : Nd) (ops : List Int) (g o cap : Nat) (w : World) (hop : t.op = 18) (hl : ops.length ≤ 6000) (hcap : cap = ops.length) (hr : ∀ x ∈ ops, 0 ≤ x ∧ x ≤ 64) (hv : RC w g o cap ops) (hs1 : t.name.size ≤ 1048576) (hs2 : t.qual.size ≤ 1048576) (hs3 : t.vs.size ≤ 1048576) (hN : t.n ≤ 9223372036854775807) (hM : t.m ≤ 9223372036854775807) (ka : Option Addr) (kl kc : Nat) :
    Calls Tryd.prog 23 #[ndV t (.slice ka kl kc), .slice (some ⟨g, o, none⟩) ops.length cap] w fun e w' => e = .returned (.bool (nodG t ops)) ∧ Below w.heap.size w w' := by
  have hn : ops.length ≤ 1048576 := by omega
  have hc : cap ≤ 1048576 := by omega
  · exact toG (q23_18 t ops g o cap w hop hn hc hv hs1 hs2 ka kl kc) (g_18 t ops hop hr hl)
theorem n23_19 (t : Nd) (ops : List Int) (g o cap : Nat) (w : World) (hop : t.op = 19) (hl : ops.length ≤ 6000) (hcap : cap = ops.length) (hr : ∀ x ∈ ops, 0 ≤ x ∧ x ≤ 64) (hv : RC w g o cap ops) (hs1 : t.name.size ≤ 1048576) (hs2 : t.qual.size ≤ 1048576) (hs3 : t.vs.size ≤ 1048576) (hN : t.n ≤ 9223372036854775807) (hM : t.m ≤ 9223372036854775807) (ka : Option Addr) (kl kc : Nat) :
    Calls Tryd.prog 23 #[ndV t (.slice ka kl kc), .slice (some ⟨g, o, none⟩) ops.length cap] w fun e w' => e = .returned (.bool (nodG t ops)) ∧ Below w.heap.size w w' := by
  have hn : ops.length ≤ 1048576 := by omega
  have hc : cap ≤ 1048576 := by omega
  · exact toG (q23_19 t ops g o cap w hop hn hc hv hs1 hs2 ka kl kc) (g_19 t ops hop hr hl)
theorem n23_20 (t : Nd) (ops : List Int) (g o cap : Nat) (w : World) (hop : t.op = 20) (hl : ops.length ≤ 6000) (hcap : cap = ops.length) (hr : ∀ x ∈ ops, 0 ≤ x ∧ x ≤ 64) (hv : RC w g o cap ops) (hs1 : t.name.size ≤ 1048576) (hs2 : t.qual.size ≤ 1048576) (hs3 : t.vs.size ≤ 1048576) (hN : t.n ≤ 9223372036854775807) (hM : t.m ≤ 9223372036854775807) (ka : Option Addr) (kl kc : Nat) :
    Calls Tryd.prog 23 #[ndV t (.slice ka kl kc), .slice (some ⟨g, o, none⟩) ops.length cap] w fun e w' => e = .returned (.bool (nodG t ops)) ∧ Below w.heap.size w w' := by
  have hn : ops.length ≤ 1048576 := by omega
  have hc : cap ≤ 1048576 := by omega
  · exact toG (q23_20 t ops g o cap w hop hn hc hv hs1 hs2 ka kl kc) (g_20 t ops hop hr hl)
theorem n23_21 (t : Nd) (ops : List Int) (g o cap : Nat) (w : World) (hop : t.op = 21) (hl : ops.length ≤ 6000) (hcap : cap = ops.length) (hr : ∀ x ∈ ops, 0 ≤ x ∧ x ≤ 64) (hv : RC w g o cap ops) (hs1 : t.name.size ≤ 1048576) (hs2 : t.qual.size ≤ 1048576) (hs3 : t.vs.size ≤ 1048576) (hN : t.n ≤ 9223372036854775807) (hM : t.m ≤ 9223372036854775807) (ka : Option Addr) (kl kc : Nat) :
    Calls Tryd.prog 23 #[ndV t (.slice ka kl kc), .slice (some ⟨g, o, none⟩) ops.length cap] w fun e w' => e = .returned (.bool (nodG t ops)) ∧ Below w.heap.size w w' := by
  have hn : ops.length ≤ 1048576 := by omega
  have hc : cap ≤ 1048576 := by omega
  · exact toG (q23_21 t ops g o cap w hop hn hc hv hs1 hs2 ka kl kc) (g_21 t ops hop hr hl)
theorem n23_22 (t : Nd) (ops : List Int) (g o cap : Nat) (w : World) (hop : t.op = 22) (hl : ops.length ≤ 6000) (hcap : cap = ops.length) (hr : ∀ x ∈ ops, 0 ≤ x ∧ x ≤ 64) (hv : RC w g o cap ops) (hs1 : t.name.size ≤ 1048576) (hs2 : t.qual.size ≤ 1048576) (hs3 : t.vs.size ≤ 1048576) (hN : t.n ≤ 9223372036854775807) (hM : t.m ≤ 9223372036854775807) (ka : Option Addr) (kl kc : Nat) :
    Calls Tryd.prog 23 #[ndV t (.slice ka kl kc), .slice (some ⟨g, o, none⟩) ops.length cap] w fun e w' => e = .returned (.bool (nodG t ops)) ∧ Below w.heap.size w w' := by
  have hn : ops.length ≤ 1048576 := by omega
  have hc : cap ≤ 1048576 := by omega
  · exact toG (q23_22 t ops g o cap w hop hn hc hv hs1 hs2 ka kl kc) (g_22 t ops hop hr hl)
theorem n23_23 (t : Nd) (ops : List Int) (g o cap : Nat) (w : World) (hop : t.op = 23) (hl : ops.length ≤ 6000) (hcap : cap = ops.length) (hr : ∀ x ∈ ops, 0 ≤ x ∧ x ≤ 64) (hv : RC w g o cap ops) (hs1 : t.name.size ≤ 1048576) (hs2 : t.qual.size ≤ 1048576) (hs3 : t.vs.size ≤ 1048576) (hN : t.n ≤ 9223372036854775807) (hM : t.m ≤ 9223372036854775807) (ka : Option Addr) (kl kc : Nat) :
    Calls Tryd.prog 23 #[ndV t (.slice ka kl kc), .slice (some ⟨g, o, none⟩) ops.length cap] w fun e w' => e = .returned (.bool (nodG t ops)) ∧ Below w.heap.size w w' := by
  have hn : ops.length ≤ 1048576 := by omega
  have hc : cap ≤ 1048576 := by omega
  · exact toG (q23_23 t ops g o cap w hop hn hc hv hs1 hs2 ka kl kc) (g_23 t ops hop hr hl)
theorem n23_24 (t : Nd) (ops : List Int) (g o cap : Nat) (w : World) (hop : t.op = 24) (hl : ops.length ≤ 6000) (hcap : cap = ops.length) (hr : ∀ x ∈ ops, 0 ≤ x ∧ x ≤ 64) (hv : RC w g o cap ops) (hs1 : t.name.size ≤ 1048576) (hs2 : t.qual.size ≤ 1048576) (hs3 : t.vs.size ≤ 1048576) (hN : t.n ≤ 9223372036854775807) (hM : t.m ≤ 9223372036854775807) (ka : Option Addr) (kl kc : Nat) :
    Calls Tryd.prog 23 #[ndV t (.slice ka kl kc), .slice (some ⟨g, o, none⟩) ops.length cap] w fun e w' => e = .returned (.bool (nodG t ops)) ∧ Below w.heap.size w w' := by
  have hn : ops.length ≤ 1048576 := by omega
  have hc : cap ≤ 1048576 := by omega
  · exact toG (q23_24 t ops g o cap w hop hn hc hv hs1 hs2 ka kl kc) (g_24 t ops hop hr hl)
theorem n23_25 (t : Nd) (ops : List Int) (g o cap : Nat) (w : World) (hop : t.op = 25) (hl : ops.length ≤ 6000) (hcap : cap = ops.length) (hr : ∀ x ∈ ops, 0 ≤ x ∧ x ≤ 64) (hv : RC w g o cap ops) (hs1 : t.name.size ≤ 1048576) (hs2 : t.qual.size ≤ 1048576) (hs3 : t.vs.size ≤ 1048576) (hN : t.n ≤ 9223372036854775807) (hM : t.m ≤ 9223372036854775807) (ka : Option Addr) (kl kc : Nat) :
    Calls Tryd.prog 23 #[ndV t (.slice ka kl kc), .slice (some ⟨g, o, none⟩) ops.length cap] w fun e w' => e = .returned (.bool (nodG t ops)) ∧ Below w.heap.size w w' := by
  have hn : ops.length ≤ 1048576 := by omega
  have hc : cap ≤ 1048576 := by omega
  · cases ops with
    | nil => exact toG (q23_25_no t [] g o cap w hop hn hc hv hs1 hs2 ka kl kc (by simp)) (g_25o t hop)
    | cons x r =>
      subst hcap
      exact toG (q23_25_c t x r g o w hop hn hv hs1 hs2 ka kl kc) (g_25 t x r hop hr)
theorem n23_26 (t : Nd) (ops : List Int) (g o cap : Nat) (w : World) (hop : t.op = 26) (hl : ops.length ≤ 6000) (hcap : cap = ops.length) (hr : ∀ x ∈ ops, 0 ≤ x ∧ x ≤ 64) (hv : RC w g o cap ops) (hs1 : t.name.size ≤ 1048576) (hs2 : t.qual.size ≤ 1048576) (hs3 : t.vs.size ≤ 1048576) (hN : t.n ≤ 9223372036854775807) (hM : t.m ≤ 9223372036854775807) (ka : Option Addr) (kl kc : Nat) :
    Calls Tryd.prog 23 #[ndV t (.slice ka kl kc), .slice (some ⟨g, o, none⟩) ops.length cap] w fun e w' => e = .returned (.bool (nodG t ops)) ∧ Below w.heap.size w w' := by
  have hn : ops.length ≤ 1048576 := by omega
  have hc : cap ≤ 1048576 := by omega
  · by_cases h : ops.length = 2
    · obtain ⟨x0, x1, rfl⟩ := len2 h
      exact toG (q23_26_n t x0 x1 g o cap w hop hc hv hs1 hs2 ka kl kc) (g_26n t x0 x1 hop hr)
    · have hno : ((ops.length : Int) == 2) = false := by simp; omega
      exact toG (q23_26_no t ops g o cap w hop hn hc hv hs1 hs2 ka kl kc hno) (g_26o t ops hop hno)
theorem n23_27 (t : Nd) (ops : List Int) (g o cap : Nat) (w : World) (hop : t.op = 27) (hl : ops.length ≤ 6000) (hcap : cap = ops.length) (hr : ∀ x ∈ ops, 0 ≤ x ∧ x ≤ 64) (hv : RC w g o cap ops) (hs1 : t.name.size ≤ 1048576) (hs2 : t.qual.size ≤ 1048576) (hs3 : t.vs.size ≤ 1048576) (hN : t.n ≤ 9223372036854775807) (hM : t.m ≤ 9223372036854775807) (ka : Option Addr) (kl kc : Nat) :
    Calls Tryd.prog 23 #[ndV t (.slice ka kl kc), .slice (some ⟨g, o, none⟩) ops.length cap] w fun e w' => e = .returned (.bool (nodG t ops)) ∧ Below w.heap.size w w' := by
  have hn : ops.length ≤ 1048576 := by omega
  have hc : cap ≤ 1048576 := by omega
  · cases ops with
    | nil => exact toG (q23_27_no t [] g o cap w hop hn hc hv hs1 hs2 ka kl kc (by simp)) (g_27o t hop)
    | cons x r =>
      subst hcap
      exact toG (q23_27_c t x r g o w hop hn hv hs1 hs2 ka kl kc) (g_27 t x r hop hr)
theorem n23_28 (t : Nd) (ops : List Int) (g o cap : Nat) (w : World) (hop : t.op = 28) (hl : ops.length ≤ 6000) (hcap : cap = ops.length) (hr : ∀ x ∈ ops, 0 ≤ x ∧ x ≤ 64) (hv : RC w g o cap ops) (hs1 : t.name.size ≤ 1048576) (hs2 : t.qual.size ≤ 1048576) (hs3 : t.vs.size ≤ 1048576) (hN : t.n ≤ 9223372036854775807) (hM : t.m ≤ 9223372036854775807) (ka : Option Addr) (kl kc : Nat) :
    Calls Tryd.prog 23 #[ndV t (.slice ka kl kc), .slice (some ⟨g, o, none⟩) ops.length cap] w fun e w' => e = .returned (.bool (nodG t ops)) ∧ Below w.heap.size w w' := by
  have hn : ops.length ≤ 1048576 := by omega
  have hc : cap ≤ 1048576 := by omega
  · exact toG (q23_28 t ops g o cap w hop hn hc hv hs1 hs2 ka kl kc) (g_28 t ops hop hr hl)
theorem n23_29 (t : Nd) (ops : List Int) (g o cap : Nat) (w : World) (hop : t.op = 29) (hl : ops.length ≤ 6000) (hcap : cap = ops.length) (hr : ∀ x ∈ ops, 0 ≤ x ∧ x ≤ 64) (hv : RC w g o cap ops) (hs1 : t.name.size ≤ 1048576) (hs2 : t.qual.size ≤ 1048576) (hs3 : t.vs.size ≤ 1048576) (hN : t.n ≤ 9223372036854775807) (hM : t.m ≤ 9223372036854775807) (ka : Option Addr) (kl kc : Nat) :
    Calls Tryd.prog 23 #[ndV t (.slice ka kl kc), .slice (some ⟨g, o, none⟩) ops.length cap] w fun e w' => e = .returned (.bool (nodG t ops)) ∧ Below w.heap.size w w' := by
  have hn : ops.length ≤ 1048576 := by omega
  have hc : cap ≤ 1048576 := by omega
  · exact toG (q23_29 t ops g o cap w hop hn hc hv hs1 hs2 ka kl kc) (g_29 t ops hop hr hl)
theorem n23_30 (t : Nd) (ops : List Int) (g o cap : Nat) (w : World) (hop : t.op = 30) (hl : ops.length ≤ 6000) (hcap : cap = ops.length) (hr : ∀ x ∈ ops, 0 ≤ x ∧ x ≤ 64) (hv : RC w g o cap ops) (hs1 : t.name.size ≤ 1048576) (hs2 : t.qual.size ≤ 1048576) (hs3 : t.vs.size ≤ 1048576) (hN : t.n ≤ 9223372036854775807) (hM : t.m ≤ 9223372036854775807) (ka : Option Addr) (kl kc : Nat) :
    Calls Tryd.prog 23 #[ndV t (.slice ka kl kc), .slice (some ⟨g, o, none⟩) ops.length cap] w fun e w' => e = .returned (.bool (nodG t ops)) ∧ Below w.heap.size w w' := by
  have hn : ops.length ≤ 1048576 := by omega
  have hc : cap ≤ 1048576 := by omega
  · exact toG (q23_30 t ops g o cap w hop hn hc hv hs1 hs2 ka kl kc) (g_30 t ops hop hr hl hN hM)
theorem n23_31 (t : Nd) (ops : List Int) (g o cap : Nat) (w : World) (hop : t.op = 31) (hl : ops.length ≤ 6000) (hcap : cap = ops.length) (hr : ∀ x ∈ ops, 0 ≤ x ∧ x ≤ 64) (hv : RC w g o cap ops) (hs1 : t.name.size ≤ 1048576) (hs2 : t.qual.size ≤ 1048576) (hs3 : t.vs.size ≤ 1048576) (hN : t.n ≤ 9223372036854775807) (hM : t.m ≤ 9223372036854775807) (ka : Option Addr) (kl kc : Nat) :
    Calls Tryd.prog 23 #[ndV t (.slice ka kl kc), .slice (some ⟨g, o, none⟩) ops.length cap] w fun e w' => e = .returned (.bool (nodG t ops)) ∧ Below w.heap.size w w' := by
  have hn : ops.length ≤ 1048576 := by omega
  have hc : cap ≤ 1048576 := by omega
  · exact toG (q23_31 t ops g o cap w hop hn hc hv hs1 hs2 ka kl kc) (g_31 t ops hop hr hl)
theorem n23_32 (t : Nd) (ops : List Int) (g o cap : Nat) (w : World) (hop : t.op = 32) (hl : ops.length ≤ 6000) (hcap : cap = ops.length) (hr : ∀ x ∈ ops, 0 ≤ x ∧ x ≤ 64) (hv : RC w g o cap ops) (hs1 : t.name.size ≤ 1048576) (hs2 : t.qual.size ≤ 1048576) (hs3 : t.vs.size ≤ 1048576) (hN : t.n ≤ 9223372036854775807) (hM : t.m ≤ 9223372036854775807) (ka : Option Addr) (kl kc : Nat) :
    Calls Tryd.prog 23 #[ndV t (.slice ka kl kc), .slice (some ⟨g, o, none⟩) ops.length cap] w fun e w' => e = .returned (.bool (nodG t ops)) ∧ Below w.heap.size w w' := by
  have hn : ops.length ≤ 1048576 := by omega
  have hc : cap ≤ 1048576 := by omega
  · by_cases h : ops.length = 1
    · obtain ⟨x0, rfl⟩ := len1 h
      exact toG (q23_32_n t x0 g o cap w hop hc hv hs1 hs2 ka kl kc) (g_32n t x0 hop hr)
    · have hno : ((ops.length : Int) == 1) = false := by simp; omega
      exact toG (q23_32_no t ops g o cap w hop hn hc hv hs1 hs2 ka kl kc hno) (g_32o t ops hop hno)
theorem n23_33 (t : Nd) (ops : List Int) (g o cap : Nat) (w : World) (hop : t.op = 33) (hl : ops.length ≤ 6000) (hcap : cap = ops.length) (hr : ∀ x ∈ ops, 0 ≤ x ∧ x ≤ 64) (hv : RC w g o cap ops) (hs1 : t.name.size ≤ 1048576) (hs2 : t.qual.size ≤ 1048576) (hs3 : t.vs.size ≤ 1048576) (hN : t.n ≤ 9223372036854775807) (hM : t.m ≤ 9223372036854775807) (ka : Option Addr) (kl kc : Nat) :
    Calls Tryd.prog 23 #[ndV t (.slice ka kl kc), .slice (some ⟨g, o, none⟩) ops.length cap] w fun e w' => e = .returned (.bool (nodG t ops)) ∧ Below w.heap.size w w' := by
  have hn : ops.length ≤ 1048576 := by omega
  have hc : cap ≤ 1048576 := by omega
  · by_cases h4 : 4 ≤ ops.length
    · exact toG (q23_33_4 t ops g o cap w hop hn hc hv hs1 hs2 ka kl kc h4) (g_33q t ops hop h4)
    · by_cases h : ops.length = 2
      · obtain ⟨x0, x1, rfl⟩ := len2 h
        exact toG (q23_33_2 t x0 x1 g o cap w hop hc hv hs1 hs2 ka kl kc) (g_33a t x0 x1 hop hr)
      · by_cases h3 : ops.length = 3
        · obtain ⟨x0, x1, x2, rfl⟩ := len3 h3
          exact toG (q23_33_3 t x0 x1 x2 g o cap w hop hc hv hs1 hs2 ka kl kc) (g_33b t x0 x1 x2 hop hr)
        · have hno : (ops.length : Int) < 2 := by omega
          exact toG (q23_33_lt t ops g o cap w hop hn hc hv hs1 hs2 ka kl kc hno) (g_33o t ops hop hno)
theorem n23 (t : Nd) (ops : List Int) (g o cap : Nat) (w : World) (hop : 18 ≤ t.op ∧ t.op ≤ 33) (hl : ops.length ≤ 6000) (hcap : cap = ops.length) (hr : ∀ x ∈ ops, 0 ≤ x ∧ x ≤ 64) (hv : RC w g o cap ops) (hs1 : t.name.size ≤ 1048576) (hs2 : t.qual.size ≤ 1048576) (hs3 : t.vs.size ≤ 1048576) (hN : t.n ≤ 9223372036854775807) (hM : t.m ≤ 9223372036854775807) (ka : Option Addr) (kl kc : Nat) :
    Calls Tryd.prog 23 #[ndV t (.slice ka kl kc), .slice (some ⟨g, o, none⟩) ops.length cap] w fun e w' => e = .returned (.bool (nodG t ops)) ∧ Below w.heap.size w w' := by
  have hd : t.op = 18 ∨ t.op = 19 ∨ t.op = 20 ∨ t.op = 21 ∨ t.op = 22 ∨ t.op = 23 ∨ t.op = 24 ∨ t.op = 25 ∨ t.op = 26 ∨ t.op = 27 ∨ t.op = 28 ∨ t.op = 29 ∨ t.op = 30 ∨ t.op = 31 ∨ t.op = 32 ∨ t.op = 33 := by omega
  rcases hd with h | h | h | h | h | h | h | h | h | h | h | h | h | h | h | h
  · exact n23_18 t ops g o cap w h hl hcap hr hv hs1 hs2 hs3 hN hM ka kl kc
  · exact n23_19 t ops g o cap w h hl hcap hr hv hs1 hs2 hs3 hN hM ka kl kc
  · exact n23_20 t ops g o cap w h hl hcap hr hv hs1 hs2 hs3 hN hM ka kl kc
  · exact n23_21 t ops g o cap w h hl hcap hr hv hs1 hs2 hs3 hN hM ka kl kc
  · exact n23_22 t ops g o cap w h hl hcap hr hv hs1 hs2 hs3 hN hM ka kl kc
  · exact n23_23 t ops g o cap w h hl hcap hr hv hs1 hs2 hs3 hN hM ka kl kc
  · exact n23_24 t ops g o cap w h hl hcap hr hv hs1 hs2 hs3 hN hM ka kl kc
  · exact n23_25 t ops g o cap w h hl hcap hr hv hs1 hs2 hs3 hN hM ka kl kc
  · exact n23_26 t ops g o cap w h hl hcap hr hv hs1 hs2 hs3 hN hM ka kl kc
  · exact n23_27 t ops g o cap w h hl hcap hr hv hs1 hs2 hs3 hN hM ka kl kc
  · exact n23_28 t ops g o cap w h hl hcap hr hv hs1 hs2 hs3 hN hM ka kl kc
  · exact n23_29 t ops g o cap w h hl hcap hr hv hs1 hs2 hs3 hN hM ka kl kc
  · exact n23_30 t ops g o cap w h hl hcap hr hv hs1 hs2 hs3 hN hM ka kl kc
  · exact n23_31 t ops g o cap w h hl hcap hr hv hs1 hs2 hs3 hN hM ka kl kc
  · exact n23_32 t ops g o cap w h hl hcap hr hv hs1 hs2 hs3 hN hM ka kl kc
  · exact n23_33 t ops g o cap w h hl hcap hr hv hs1 hs2 hs3 hN hM ka kl kc
end Go.Proofs.YtghdjagomdgnfaaDoor
namespace Go.Proofs.YtghdjagomdgnfaaDoor
open Go.ChangeShapes Go.WideShapes Go.ChangeAt Go.RowKit
set_option linter.unusedVariables false
set_option linter.unusedSimpArgs false
set_option maxRecDepth 100000
open K
theorem n24_40 (t : Nd) (ops : List Int) (g o cap : Nat) (w : World) (hop : t.op = 40) (hl : ops.length ≤ 6000) (hcap : cap = ops.length) (hr : ∀ x ∈ ops, 0 ≤ x ∧ x ≤ 64) (hv : RC w g o cap ops) (hs1 : t.name.size ≤ 1048576) (hs2 : t.qual.size ≤ 1048576) (hs3 : t.vs.size ≤ 1048576) (hN : t.n ≤ 9223372036854775807) (hM : t.m ≤ 9223372036854775807) (ka : Option Addr) (kl kc : Nat) :
    Calls Tryd.prog 24 #[ndV t (.slice ka kl kc), .slice (some ⟨g, o, none⟩) ops.length cap] w fun e w' => e = .returned (.bool (nodG t ops)) ∧ Below w.heap.size w w' := by
  have hn : ops.length ≤ 1048576 := by omega
  have hc : cap ≤ 1048576 := by omega
  · by_cases h1 : ops.length = 1
    · obtain ⟨x0, rfl⟩ := len1 h1
      exact toG (q24_40_1 t x0 g o cap w hop hc hv hs1 hs2 ka kl kc) (g_40a t x0 hop hr)
    · by_cases h2 : ops.length = 2
      · obtain ⟨x0, x1, rfl⟩ := len2 h2
        exact toG (q24_40_2 t x0 x1 g o cap w hop hc hv hs1 hs2 ka kl kc hcap) (g_40b t x0 x1 hop hr)
      · have hno1 : ((ops.length : Int) == 1) = false := by simp; omega
        have hno2 : ((ops.length : Int) == 2) = false := by simp; omega
        exact toG (q24_40_no t ops g o cap w hop hn hc hv hs1 hs2 ka kl kc hno1 hno2) (g_40o t ops hop hno1 hno2)
theorem n24_41 (t : Nd) (ops : List Int) (g o cap : Nat) (w : World) (hop : t.op = 41) (hl : ops.length ≤ 6000) (hcap : cap = ops.length) (hr : ∀ x ∈ ops, 0 ≤ x ∧ x ≤ 64) (hv : RC w g o cap ops) (hs1 : t.name.size ≤ 1048576) (hs2 : t.qual.size ≤ 1048576) (hs3 : t.vs.size ≤ 1048576) (hN : t.n ≤ 9223372036854775807) (hM : t.m ≤ 9223372036854775807) (ka : Option Addr) (kl kc : Nat) :
    Calls Tryd.prog 24 #[ndV t (.slice ka kl kc), .slice (some ⟨g, o, none⟩) ops.length cap] w fun e w' => e = .returned (.bool (nodG t ops)) ∧ Below w.heap.size w w' := by
  have hn : ops.length ≤ 1048576 := by omega
  have hc : cap ≤ 1048576 := by omega
  · exact toG (q24_41 t ops g o cap w hop hn hc hv hs1 hs2 ka kl kc) (g_41 t ops hop hr hl)
theorem n24_42 (t : Nd) (ops : List Int) (g o cap : Nat) (w : World) (hop : t.op = 42) (hl : ops.length ≤ 6000) (hcap : cap = ops.length) (hr : ∀ x ∈ ops, 0 ≤ x ∧ x ≤ 64) (hv : RC w g o cap ops) (hs1 : t.name.size ≤ 1048576) (hs2 : t.qual.size ≤ 1048576) (hs3 : t.vs.size ≤ 1048576) (hN : t.n ≤ 9223372036854775807) (hM : t.m ≤ 9223372036854775807) (ka : Option Addr) (kl kc : Nat) :
    Calls Tryd.prog 24 #[ndV t (.slice ka kl kc), .slice (some ⟨g, o, none⟩) ops.length cap] w fun e w' => e = .returned (.bool (nodG t ops)) ∧ Below w.heap.size w w' := by
  have hn : ops.length ≤ 1048576 := by omega
  have hc : cap ≤ 1048576 := by omega
  · exact toG (q24_42 t ops g o cap w hop hn hc hv hs1 hs2 ka kl kc) (g_42 t ops hop hr hl)
theorem n24_43 (t : Nd) (ops : List Int) (g o cap : Nat) (w : World) (hop : t.op = 43) (hl : ops.length ≤ 6000) (hcap : cap = ops.length) (hr : ∀ x ∈ ops, 0 ≤ x ∧ x ≤ 64) (hv : RC w g o cap ops) (hs1 : t.name.size ≤ 1048576) (hs2 : t.qual.size ≤ 1048576) (hs3 : t.vs.size ≤ 1048576) (hN : t.n ≤ 9223372036854775807) (hM : t.m ≤ 9223372036854775807) (ka : Option Addr) (kl kc : Nat) :
    Calls Tryd.prog 24 #[ndV t (.slice ka kl kc), .slice (some ⟨g, o, none⟩) ops.length cap] w fun e w' => e = .returned (.bool (nodG t ops)) ∧ Below w.heap.size w w' := by
  have hn : ops.length ≤ 1048576 := by omega
  have hc : cap ≤ 1048576 := by omega
  · exact toG (q24_43 t ops g o cap w hop hn hc hv hs1 hs2 ka kl kc) (g_43 t ops hop hr hl)
theorem n24_44 (t : Nd) (ops : List Int) (g o cap : Nat) (w : World) (hop : t.op = 44) (hl : ops.length ≤ 6000) (hcap : cap = ops.length) (hr : ∀ x ∈ ops, 0 ≤ x ∧ x ≤ 64) (hv : RC w g o cap ops) (hs1 : t.name.size ≤ 1048576) (hs2 : t.qual.size ≤ 1048576) (hs3 : t.vs.size ≤ 1048576) (hN : t.n ≤ 9223372036854775807) (hM : t.m ≤ 9223372036854775807) (ka : Option Addr) (kl kc : Nat) :
    Calls Tryd.prog 24 #[ndV t (.slice ka kl kc), .slice (some ⟨g, o, none⟩) ops.length cap] w fun e w' => e = .returned (.bool (nodG t ops)) ∧ Below w.heap.size w w' := by
  have hn : ops.length ≤ 1048576 := by omega
  have hc : cap ≤ 1048576 := by omega
  · exact toG (q24_44 t ops g o cap w hop hn hc hv hs1 hs2 ka kl kc) (g_44 t ops hop hr hl)
theorem n24_45 (t : Nd) (ops : List Int) (g o cap : Nat) (w : World) (hop : t.op = 45) (hl : ops.length ≤ 6000) (hcap : cap = ops.length) (hr : ∀ x ∈ ops, 0 ≤ x ∧ x ≤ 64) (hv : RC w g o cap ops) (hs1 : t.name.size ≤ 1048576) (hs2 : t.qual.size ≤ 1048576) (hs3 : t.vs.size ≤ 1048576) (hN : t.n ≤ 9223372036854775807) (hM : t.m ≤ 9223372036854775807) (ka : Option Addr) (kl kc : Nat) :
    Calls Tryd.prog 24 #[ndV t (.slice ka kl kc), .slice (some ⟨g, o, none⟩) ops.length cap] w fun e w' => e = .returned (.bool (nodG t ops)) ∧ Below w.heap.size w w' := by
  have hn : ops.length ≤ 1048576 := by omega
  have hc : cap ≤ 1048576 := by omega
  · exact toG (q24_45 t ops g o cap w hop hn hc hv hs1 hs2 ka kl kc) (g_45 t ops hop hr hl)
theorem n24_46 (t : Nd) (ops : List Int) (g o cap : Nat) (w : World) (hop : t.op = 46) (hl : ops.length ≤ 6000) (hcap : cap = ops.length) (hr : ∀ x ∈ ops, 0 ≤ x ∧ x ≤ 64) (hv : RC w g o cap ops) (hs1 : t.name.size ≤ 1048576) (hs2 : t.qual.size ≤ 1048576) (hs3 : t.vs.size ≤ 1048576) (hN : t.n ≤ 9223372036854775807) (hM : t.m ≤ 9223372036854775807) (ka : Option Addr) (kl kc : Nat) :
    Calls Tryd.prog 24 #[ndV t (.slice ka kl kc), .slice (some ⟨g, o, none⟩) ops.length cap] w fun e w' => e = .returned (.bool (nodG t ops)) ∧ Below w.heap.size w w' := by
  have hn : ops.length ≤ 1048576 := by omega
  have hc : cap ≤ 1048576 := by omega
  · by_cases h1 : (ops.length : Int) ≤ 1
    · exact toG (q24_46_1 t ops g o cap w hop hn hc hv hs1 hs2 ka kl kc h1) (g_46_1 t ops hop hr h1)
    · obtain ⟨l, x, he⟩ := lastOf (l := ops) (by intro h; rw [h] at h1; simp at h1)
      have hl0 : l ≠ [] := by intro h; rw [he, h] at h1; simp at h1
      by_cases hx : (x == 22) = false
      · exact toG (q24_46_n t ops g o cap w hop hn hc hv hs1 hs2 ka kl kc x l hl0 he hx) (g_46x t ops l x hop hr hl he hx)
      · have e : x = 22 := by simpa using hx
        subst e
        exact toG (q24_46_y t ops g o cap w hop hn hc hv hs1 hs2 ka kl kc l hl0 he) (g_46y t ops l hop hr hl hl0 he)
theorem n24_47 (t : Nd) (ops : List Int) (g o cap : Nat) (w : World) (hop : t.op = 47) (hl : ops.length ≤ 6000) (hcap : cap = ops.length) (hr : ∀ x ∈ ops, 0 ≤ x ∧ x ≤ 64) (hv : RC w g o cap ops) (hs1 : t.name.size ≤ 1048576) (hs2 : t.qual.size ≤ 1048576) (hs3 : t.vs.size ≤ 1048576) (hN : t.n ≤ 9223372036854775807) (hM : t.m ≤ 9223372036854775807) (ka : Option Addr) (kl kc : Nat) :
    Calls Tryd.prog 24 #[ndV t (.slice ka kl kc), .slice (some ⟨g, o, none⟩) ops.length cap] w fun e w' => e = .returned (.bool (nodG t ops)) ∧ Below w.heap.size w w' := by
  have hn : ops.length ≤ 1048576 := by omega
  have hc : cap ≤ 1048576 := by omega
  · exact toG (q24_47 t ops g o cap w hop hn hc hv hs1 hs2 ka kl kc) (g_47 t ops hop hr hl)
theorem n24_48 (t : Nd) (ops : List Int) (g o cap : Nat) (w : World) (hop : t.op = 48) (hl : ops.length ≤ 6000) (hcap : cap = ops.length) (hr : ∀ x ∈ ops, 0 ≤ x ∧ x ≤ 64) (hv : RC w g o cap ops) (hs1 : t.name.size ≤ 1048576) (hs2 : t.qual.size ≤ 1048576) (hs3 : t.vs.size ≤ 1048576) (hN : t.n ≤ 9223372036854775807) (hM : t.m ≤ 9223372036854775807) (ka : Option Addr) (kl kc : Nat) :
    Calls Tryd.prog 24 #[ndV t (.slice ka kl kc), .slice (some ⟨g, o, none⟩) ops.length cap] w fun e w' => e = .returned (.bool (nodG t ops)) ∧ Below w.heap.size w w' := by
  have hn : ops.length ≤ 1048576 := by omega
  have hc : cap ≤ 1048576 := by omega
  · exact toG (q24_48 t ops g o cap w hop hn hc hv hs1 hs2 ka kl kc) (g_48 t ops hop hr)
theorem n24_49 (t : Nd) (ops : List Int) (g o cap : Nat) (w : World) (hop : t.op = 49) (hl : ops.length ≤ 6000) (hcap : cap = ops.length) (hr : ∀ x ∈ ops, 0 ≤ x ∧ x ≤ 64) (hv : RC w g o cap ops) (hs1 : t.name.size ≤ 1048576) (hs2 : t.qual.size ≤ 1048576) (hs3 : t.vs.size ≤ 1048576) (hN : t.n ≤ 9223372036854775807) (hM : t.m ≤ 9223372036854775807) (ka : Option Addr) (kl kc : Nat) :
    Calls Tryd.prog 24 #[ndV t (.slice ka kl kc), .slice (some ⟨g, o, none⟩) ops.length cap] w fun e w' => e = .returned (.bool (nodG t ops)) ∧ Below w.heap.size w w' := by
  have hn : ops.length ≤ 1048576 := by omega
  have hc : cap ≤ 1048576 := by omega
  · exact toG (q24_49 t ops g o cap w hop hn hc hv hs1 hs2 ka kl kc) (g_49 t ops hop hr hl)
theorem n24_50 (t : Nd) (ops : List Int) (g o cap : Nat) (w : World) (hop : t.op = 50) (hl : ops.length ≤ 6000) (hcap : cap = ops.length) (hr : ∀ x ∈ ops, 0 ≤ x ∧ x ≤ 64) (hv : RC w g o cap ops) (hs1 : t.name.size ≤ 1048576) (hs2 : t.qual.size ≤ 1048576) (hs3 : t.vs.size ≤ 1048576) (hN : t.n ≤ 9223372036854775807) (hM : t.m ≤ 9223372036854775807) (ka : Option Addr) (kl kc : Nat) :
    Calls Tryd.prog 24 #[ndV t (.slice ka kl kc), .slice (some ⟨g, o, none⟩) ops.length cap] w fun e w' => e = .returned (.bool (nodG t ops)) ∧ Below w.heap.size w w' := by
  have hn : ops.length ≤ 1048576 := by omega
  have hc : cap ≤ 1048576 := by omega
  · exact toG (q24_50 t ops g o cap w hop hn hc hv hs1 hs2 ka kl kc) (g_50 t ops hop hr hl)
theorem n24_51 (t : Nd) (ops : List Int) (g o cap : Nat) (w : World) (hop : t.op = 51) (hl : ops.length ≤ 6000) (hcap : cap = ops.length) (hr : ∀ x ∈ ops, 0 ≤ x ∧ x ≤ 64) (hv : RC w g o cap ops) (hs1 : t.name.size ≤ 1048576) (hs2 : t.qual.size ≤ 1048576) (hs3 : t.vs.size ≤ 1048576) (hN : t.n ≤ 9223372036854775807) (hM : t.m ≤ 9223372036854775807) (ka : Option Addr) (kl kc : Nat) :
    Calls Tryd.prog 24 #[ndV t (.slice ka kl kc), .slice (some ⟨g, o, none⟩) ops.length cap] w fun e w' => e = .returned (.bool (nodG t ops)) ∧ Below w.heap.size w w' := by
  have hn : ops.length ≤ 1048576 := by omega
  have hc : cap ≤ 1048576 := by omega
  · exact toG (q24_51 t ops g o cap w hop hn hc hv hs1 hs2 ka kl kc) (g_51 t ops hop hr hl)
theorem n24_52 (t : Nd) (ops : List Int) (g o cap : Nat) (w : World) (hop : t.op = 52) (hl : ops.length ≤ 6000) (hcap : cap = ops.length) (hr : ∀ x ∈ ops, 0 ≤ x ∧ x ≤ 64) (hv : RC w g o cap ops) (hs1 : t.name.size ≤ 1048576) (hs2 : t.qual.size ≤ 1048576) (hs3 : t.vs.size ≤ 1048576) (hN : t.n ≤ 9223372036854775807) (hM : t.m ≤ 9223372036854775807) (ka : Option Addr) (kl kc : Nat) :
    Calls Tryd.prog 24 #[ndV t (.slice ka kl kc), .slice (some ⟨g, o, none⟩) ops.length cap] w fun e w' => e = .returned (.bool (nodG t ops)) ∧ Below w.heap.size w w' := by
  have hn : ops.length ≤ 1048576 := by omega
  have hc : cap ≤ 1048576 := by omega
  · exact toG (q24_52 t ops g o cap w hop hn hc hv hs1 hs2 ka kl kc) (g_52 t ops hop hr hl)
theorem n24_53 (t : Nd) (ops : List Int) (g o cap : Nat) (w : World) (hop : t.op = 53) (hl : ops.length ≤ 6000) (hcap : cap = ops.length) (hr : ∀ x ∈ ops, 0 ≤ x ∧ x ≤ 64) (hv : RC w g o cap ops) (hs1 : t.name.size ≤ 1048576) (hs2 : t.qual.size ≤ 1048576) (hs3 : t.vs.size ≤ 1048576) (hN : t.n ≤ 9223372036854775807) (hM : t.m ≤ 9223372036854775807) (ka : Option Addr) (kl kc : Nat) :
    Calls Tryd.prog 24 #[ndV t (.slice ka kl kc), .slice (some ⟨g, o, none⟩) ops.length cap] w fun e w' => e = .returned (.bool (nodG t ops)) ∧ Below w.heap.size w w' := by
  have hn : ops.length ≤ 1048576 := by omega
  have hc : cap ≤ 1048576 := by omega
  · exact toG (q24_53 t ops g o cap w hop hn hc hv hs1 hs2 ka kl kc) (g_53 t ops hop hr hl)
theorem n24_54 (t : Nd) (ops : List Int) (g o cap : Nat) (w : World) (hop : t.op = 54) (hl : ops.length ≤ 6000) (hcap : cap = ops.length) (hr : ∀ x ∈ ops, 0 ≤ x ∧ x ≤ 64) (hv : RC w g o cap ops) (hs1 : t.name.size ≤ 1048576) (hs2 : t.qual.size ≤ 1048576) (hs3 : t.vs.size ≤ 1048576) (hN : t.n ≤ 9223372036854775807) (hM : t.m ≤ 9223372036854775807) (ka : Option Addr) (kl kc : Nat) :
    Calls Tryd.prog 24 #[ndV t (.slice ka kl kc), .slice (some ⟨g, o, none⟩) ops.length cap] w fun e w' => e = .returned (.bool (nodG t ops)) ∧ Below w.heap.size w w' := by
  have hn : ops.length ≤ 1048576 := by omega
  have hc : cap ≤ 1048576 := by omega
  · exact toG (q24_54 t ops g o cap w hop hn hc hv hs1 hs2 ka kl kc) (g_54 t ops hop hr hl)
theorem n24_55 (t : Nd) (ops : List Int) (g o cap : Nat) (w : World) (hop : t.op = 55) (hl : ops.length ≤ 6000) (hcap : cap = ops.length) (hr : ∀ x ∈ ops, 0 ≤ x ∧ x ≤ 64) (hv : RC w g o cap ops) (hs1 : t.name.size ≤ 1048576) (hs2 : t.qual.size ≤ 1048576) (hs3 : t.vs.size ≤ 1048576) (hN : t.n ≤ 9223372036854775807) (hM : t.m ≤ 9223372036854775807) (ka : Option Addr) (kl kc : Nat) :
    Calls Tryd.prog 24 #[ndV t (.slice ka kl kc), .slice (some ⟨g, o, none⟩) ops.length cap] w fun e w' => e = .returned (.bool (nodG t ops)) ∧ Below w.heap.size w w' := by
  have hn : ops.length ≤ 1048576 := by omega
  have hc : cap ≤ 1048576 := by omega
  · exact toG (q24_55 t ops g o cap w hop hn hc hv hs1 hs2 ka kl kc) (g_55 t ops hop hr hl)
theorem n24_56 (t : Nd) (ops : List Int) (g o cap : Nat) (w : World) (hop : t.op = 56) (hl : ops.length ≤ 6000) (hcap : cap = ops.length) (hr : ∀ x ∈ ops, 0 ≤ x ∧ x ≤ 64) (hv : RC w g o cap ops) (hs1 : t.name.size ≤ 1048576) (hs2 : t.qual.size ≤ 1048576) (hs3 : t.vs.size ≤ 1048576) (hN : t.n ≤ 9223372036854775807) (hM : t.m ≤ 9223372036854775807) (ka : Option Addr) (kl kc : Nat) :
    Calls Tryd.prog 24 #[ndV t (.slice ka kl kc), .slice (some ⟨g, o, none⟩) ops.length cap] w fun e w' => e = .returned (.bool (nodG t ops)) ∧ Below w.heap.size w w' := by
  have hn : ops.length ≤ 1048576 := by omega
  have hc : cap ≤ 1048576 := by omega
  · exact toG (q24_56 t ops g o cap w hop hn hc hv hs1 hs2 ka kl kc) (g_56 t ops hop hr hl)
theorem n24_57 (t : Nd) (ops : List Int) (g o cap : Nat) (w : World) (hop : t.op = 57) (hl : ops.length ≤ 6000) (hcap : cap = ops.length) (hr : ∀ x ∈ ops, 0 ≤ x ∧ x ≤ 64) (hv : RC w g o cap ops) (hs1 : t.name.size ≤ 1048576) (hs2 : t.qual.size ≤ 1048576) (hs3 : t.vs.size ≤ 1048576) (hN : t.n ≤ 9223372036854775807) (hM : t.m ≤ 9223372036854775807) (ka : Option Addr) (kl kc : Nat) :
    Calls Tryd.prog 24 #[ndV t (.slice ka kl kc), .slice (some ⟨g, o, none⟩) ops.length cap] w fun e w' => e = .returned (.bool (nodG t ops)) ∧ Below w.heap.size w w' := by
  have hn : ops.length ≤ 1048576 := by omega
  have hc : cap ≤ 1048576 := by omega
  · exact toG (q24_57 t ops g o cap w hop hn hc hv hs1 hs2 ka kl kc) (g_57 t ops hop hr hl)
theorem n24_58 (t : Nd) (ops : List Int) (g o cap : Nat) (w : World) (hop : t.op = 58) (hl : ops.length ≤ 6000) (hcap : cap = ops.length) (hr : ∀ x ∈ ops, 0 ≤ x ∧ x ≤ 64) (hv : RC w g o cap ops) (hs1 : t.name.size ≤ 1048576) (hs2 : t.qual.size ≤ 1048576) (hs3 : t.vs.size ≤ 1048576) (hN : t.n ≤ 9223372036854775807) (hM : t.m ≤ 9223372036854775807) (ka : Option Addr) (kl kc : Nat) :
    Calls Tryd.prog 24 #[ndV t (.slice ka kl kc), .slice (some ⟨g, o, none⟩) ops.length cap] w fun e w' => e = .returned (.bool (nodG t ops)) ∧ Below w.heap.size w w' := by
  have hn : ops.length ≤ 1048576 := by omega
  have hc : cap ≤ 1048576 := by omega
  · exact toG (q24_58 t ops g o cap w hop hn hc hv hs1 hs2 ka kl kc) (g_58 t ops hop hr hl)
theorem n24_59 (t : Nd) (ops : List Int) (g o cap : Nat) (w : World) (hop : t.op = 59) (hl : ops.length ≤ 6000) (hcap : cap = ops.length) (hr : ∀ x ∈ ops, 0 ≤ x ∧ x ≤ 64) (hv : RC w g o cap ops) (hs1 : t.name.size ≤ 1048576) (hs2 : t.qual.size ≤ 1048576) (hs3 : t.vs.size ≤ 1048576) (hN : t.n ≤ 9223372036854775807) (hM : t.m ≤ 9223372036854775807) (ka : Option Addr) (kl kc : Nat) :
    Calls Tryd.prog 24 #[ndV t (.slice ka kl kc), .slice (some ⟨g, o, none⟩) ops.length cap] w fun e w' => e = .returned (.bool (nodG t ops)) ∧ Below w.heap.size w w' := by
  have hn : ops.length ≤ 1048576 := by omega
  have hc : cap ≤ 1048576 := by omega
  · exact toG (q24_59 t ops g o cap w hop hn hc hv hs1 hs2 ka kl kc) (g_59 t ops hop hr hl)
theorem n24_60 (t : Nd) (ops : List Int) (g o cap : Nat) (w : World) (hop : t.op = 60) (hl : ops.length ≤ 6000) (hcap : cap = ops.length) (hr : ∀ x ∈ ops, 0 ≤ x ∧ x ≤ 64) (hv : RC w g o cap ops) (hs1 : t.name.size ≤ 1048576) (hs2 : t.qual.size ≤ 1048576) (hs3 : t.vs.size ≤ 1048576) (hN : t.n ≤ 9223372036854775807) (hM : t.m ≤ 9223372036854775807) (ka : Option Addr) (kl kc : Nat) :
    Calls Tryd.prog 24 #[ndV t (.slice ka kl kc), .slice (some ⟨g, o, none⟩) ops.length cap] w fun e w' => e = .returned (.bool (nodG t ops)) ∧ Below w.heap.size w w' := by
  have hn : ops.length ≤ 1048576 := by omega
  have hc : cap ≤ 1048576 := by omega
  · exact toG (q24_60 t ops g o cap w hop hn hc hv hs1 hs2 ka kl kc) (g_60 t ops hop hr hl)
theorem n24_61 (t : Nd) (ops : List Int) (g o cap : Nat) (w : World) (hop : t.op = 61) (hl : ops.length ≤ 6000) (hcap : cap = ops.length) (hr : ∀ x ∈ ops, 0 ≤ x ∧ x ≤ 64) (hv : RC w g o cap ops) (hs1 : t.name.size ≤ 1048576) (hs2 : t.qual.size ≤ 1048576) (hs3 : t.vs.size ≤ 1048576) (hN : t.n ≤ 9223372036854775807) (hM : t.m ≤ 9223372036854775807) (ka : Option Addr) (kl kc : Nat) :
    Calls Tryd.prog 24 #[ndV t (.slice ka kl kc), .slice (some ⟨g, o, none⟩) ops.length cap] w fun e w' => e = .returned (.bool (nodG t ops)) ∧ Below w.heap.size w w' := by
  have hn : ops.length ≤ 1048576 := by omega
  have hc : cap ≤ 1048576 := by omega
  · exact toG (q24_61 t ops g o cap w hop hn hc hv hs1 hs2 ka kl kc) (g_61 t ops hop hr hl)
theorem n24_62 (t : Nd) (ops : List Int) (g o cap : Nat) (w : World) (hop : t.op = 62) (hl : ops.length ≤ 6000) (hcap : cap = ops.length) (hr : ∀ x ∈ ops, 0 ≤ x ∧ x ≤ 64) (hv : RC w g o cap ops) (hs1 : t.name.size ≤ 1048576) (hs2 : t.qual.size ≤ 1048576) (hs3 : t.vs.size ≤ 1048576) (hN : t.n ≤ 9223372036854775807) (hM : t.m ≤ 9223372036854775807) (ka : Option Addr) (kl kc : Nat) :
    Calls Tryd.prog 24 #[ndV t (.slice ka kl kc), .slice (some ⟨g, o, none⟩) ops.length cap] w fun e w' => e = .returned (.bool (nodG t ops)) ∧ Below w.heap.size w w' := by
  have hn : ops.length ≤ 1048576 := by omega
  have hc : cap ≤ 1048576 := by omega
  · exact toG (q24_62 t ops g o cap w hop hn hc hv hs1 hs2 ka kl kc) (g_62 t ops hop hr hl)
theorem n24_63 (t : Nd) (ops : List Int) (g o cap : Nat) (w : World) (hop : t.op = 63) (hl : ops.length ≤ 6000) (hcap : cap = ops.length) (hr : ∀ x ∈ ops, 0 ≤ x ∧ x ≤ 64) (hv : RC w g o cap ops) (hs1 : t.name.size ≤ 1048576) (hs2 : t.qual.size ≤ 1048576) (hs3 : t.vs.size ≤ 1048576) (hN : t.n ≤ 9223372036854775807) (hM : t.m ≤ 9223372036854775807) (ka : Option Addr) (kl kc : Nat) :
    Calls Tryd.prog 24 #[ndV t (.slice ka kl kc), .slice (some ⟨g, o, none⟩) ops.length cap] w fun e w' => e = .returned (.bool (nodG t ops)) ∧ Below w.heap.size w w' := by
  have hn : ops.length ≤ 1048576 := by omega
  have hc : cap ≤ 1048576 := by omega
  · by_cases h : ops.length = 1
    · obtain ⟨x0, rfl⟩ := len1 h
      exact toG (q24_63_n t x0 g o cap w hop hc hv hs1 hs2 ka kl kc) (g_63n t x0 hop hr)
    · have hno : ((ops.length : Int) == 1) = false := by simp; omega
      exact toG (q24_63_no t ops g o cap w hop hn hc hv hs1 hs2 ka kl kc hno) (g_63o t ops hop hno)
theorem n24_64 (t : Nd) (ops : List Int) (g o cap : Nat) (w : World) (hop : t.op = 64) (hl : ops.length ≤ 6000) (hcap : cap = ops.length) (hr : ∀ x ∈ ops, 0 ≤ x ∧ x ≤ 64) (hv : RC w g o cap ops) (hs1 : t.name.size ≤ 1048576) (hs2 : t.qual.size ≤ 1048576) (hs3 : t.vs.size ≤ 1048576) (hN : t.n ≤ 9223372036854775807) (hM : t.m ≤ 9223372036854775807) (ka : Option Addr) (kl kc : Nat) :
    Calls Tryd.prog 24 #[ndV t (.slice ka kl kc), .slice (some ⟨g, o, none⟩) ops.length cap] w fun e w' => e = .returned (.bool (nodG t ops)) ∧ Below w.heap.size w w' := by
  have hn : ops.length ≤ 1048576 := by omega
  have hc : cap ≤ 1048576 := by omega
  · exact toG (q24_64 t ops g o cap w hop hn hc hv hs1 hs2 ka kl kc) (g_64 t ops hop hr hl)
theorem n24 (t : Nd) (ops : List Int) (g o cap : Nat) (w : World) (hop : ¬ (1 ≤ t.op ∧ t.op ≤ 33)) (hl : ops.length ≤ 6000) (hcap : cap = ops.length) (hr : ∀ x ∈ ops, 0 ≤ x ∧ x ≤ 64) (hv : RC w g o cap ops) (hs1 : t.name.size ≤ 1048576) (hs2 : t.qual.size ≤ 1048576) (hs3 : t.vs.size ≤ 1048576) (hN : t.n ≤ 9223372036854775807) (hM : t.m ≤ 9223372036854775807) (ka : Option Addr) (kl kc : Nat) :
    Calls Tryd.prog 24 #[ndV t (.slice ka kl kc), .slice (some ⟨g, o, none⟩) ops.length cap] w fun e w' => e = .returned (.bool (nodG t ops)) ∧ Below w.heap.size w w' := by
  by_cases hk : 40 ≤ t.op ∧ t.op ≤ 64
  · have hd : t.op = 40 ∨ t.op = 41 ∨ t.op = 42 ∨ t.op = 43 ∨ t.op = 44 ∨ t.op = 45 ∨ t.op = 46 ∨ t.op = 47 ∨ t.op = 48 ∨ t.op = 49 ∨ t.op = 50 ∨ t.op = 51 ∨ t.op = 52 ∨ t.op = 53 ∨ t.op = 54 ∨ t.op = 55 ∨ t.op = 56 ∨ t.op = 57 ∨ t.op = 58 ∨ t.op = 59 ∨ t.op = 60 ∨ t.op = 61 ∨ t.op = 62 ∨ t.op = 63 ∨ t.op = 64 := by omega
    rcases hd with h | h | h | h | h | h | h | h | h | h | h | h | h | h | h | h | h | h | h | h | h | h | h | h | h
    · exact n24_40 t ops g o cap w h hl hcap hr hv hs1 hs2 hs3 hN hM ka kl kc
    · exact n24_41 t ops g o cap w h hl hcap hr hv hs1 hs2 hs3 hN hM ka kl kc
    · exact n24_42 t ops g o cap w h hl hcap hr hv hs1 hs2 hs3 hN hM ka kl kc
    · exact n24_43 t ops g o cap w h hl hcap hr hv hs1 hs2 hs3 hN hM ka kl kc
    · exact n24_44 t ops g o cap w h hl hcap hr hv hs1 hs2 hs3 hN hM ka kl kc
    · exact n24_45 t ops g o cap w h hl hcap hr hv hs1 hs2 hs3 hN hM ka kl kc
    · exact n24_46 t ops g o cap w h hl hcap hr hv hs1 hs2 hs3 hN hM ka kl kc
    · exact n24_47 t ops g o cap w h hl hcap hr hv hs1 hs2 hs3 hN hM ka kl kc
    · exact n24_48 t ops g o cap w h hl hcap hr hv hs1 hs2 hs3 hN hM ka kl kc
    · exact n24_49 t ops g o cap w h hl hcap hr hv hs1 hs2 hs3 hN hM ka kl kc
    · exact n24_50 t ops g o cap w h hl hcap hr hv hs1 hs2 hs3 hN hM ka kl kc
    · exact n24_51 t ops g o cap w h hl hcap hr hv hs1 hs2 hs3 hN hM ka kl kc
    · exact n24_52 t ops g o cap w h hl hcap hr hv hs1 hs2 hs3 hN hM ka kl kc
    · exact n24_53 t ops g o cap w h hl hcap hr hv hs1 hs2 hs3 hN hM ka kl kc
    · exact n24_54 t ops g o cap w h hl hcap hr hv hs1 hs2 hs3 hN hM ka kl kc
    · exact n24_55 t ops g o cap w h hl hcap hr hv hs1 hs2 hs3 hN hM ka kl kc
    · exact n24_56 t ops g o cap w h hl hcap hr hv hs1 hs2 hs3 hN hM ka kl kc
    · exact n24_57 t ops g o cap w h hl hcap hr hv hs1 hs2 hs3 hN hM ka kl kc
    · exact n24_58 t ops g o cap w h hl hcap hr hv hs1 hs2 hs3 hN hM ka kl kc
    · exact n24_59 t ops g o cap w h hl hcap hr hv hs1 hs2 hs3 hN hM ka kl kc
    · exact n24_60 t ops g o cap w h hl hcap hr hv hs1 hs2 hs3 hN hM ka kl kc
    · exact n24_61 t ops g o cap w h hl hcap hr hv hs1 hs2 hs3 hN hM ka kl kc
    · exact n24_62 t ops g o cap w h hl hcap hr hv hs1 hs2 hs3 hN hM ka kl kc
    · exact n24_63 t ops g o cap w h hl hcap hr hv hs1 hs2 hs3 hN hM ka kl kc
    · exact n24_64 t ops g o cap w h hl hcap hr hv hs1 hs2 hs3 hN hM ka kl kc
  · have hno : ∀ x ∈ ([40, 41, 53, 54, 42, 43, 44, 45, 59, 64, 46, 47, 48, 49, 50, 51, 52, 55, 56, 57, 61, 62, 60, 58, 63] : List Int), (t.op == x) = false := by
      intro x hx
      have : 40 ≤ x ∧ x ≤ 64 := by
        simp only [List.mem_cons, List.mem_nil_iff, or_false] at hx
        omega
      simp
      omega
    refine toG (q24_d t ops g o cap w hno (by omega) (by omega) hv hs1 hs2 ka kl kc) ?_
    have hf : formD t.op t.n = none := by
      cases hd : formD t.op t.n with
      | none => rfl
      | some f => have := formD_rng hd; omega
    unfold nodG
    rw [hf]
end Go.Proofs.YtghdjagomdgnfaaDoor
