import Derived.Test.YtjpcgnkgdaphoaaDoorP2
namespace Go.Proofs.YtjpcgnkgdaphoaaDoor
set_option linter.unusedVariables false
/-- A byte that opens a word; a digit; a byte that goes on in a word; a printable one. -/
def wdI (b : Int) : Bool := (decide (97 ≤ b) && decide (b ≤ 122)) || (decide (65 ≤ b) && decide (b ≤ 90)) || decide (b = 95)
def digI (b : Int) : Bool := decide (48 ≤ b) && decide (b ≤ 57)
def goI (b : Int) : Bool := wdI b || digI b
def priI (b : Int) : Bool := decide (32 ≤ b) && decide (b ≤ 126)
def nulI (b : Int) : Bool := decide (b = 48)
def runN (p : Int → Bool) : List UInt8 → Nat
  | [] => 0
  | c :: t => if p (c.toNat : Int) then runN p t + 1 else 0
theorem runN_le (p : Int → Bool) : ∀ l, runN p l ≤ l.length
  | [] => Nat.le_refl _
  | c :: t => by have := runN_le p t; unfold runN; split <;> simp <;> omega
theorem runN_step (p : Int → Bool) : ∀ (l : List UInt8) (k : Nat) (c : UInt8), k ≤ runN p l → l[k]? = some c → (p (c.toNat : Int) = true → k + 1 ≤ runN p l) ∧ (p (c.toNat : Int) = false → runN p l = k)
  | [], k, c, h, e => by simp at e
  | d :: t, 0, c, h, e => by
    simp only [List.getElem?_cons_zero, Option.some.injEq] at e
    subst e
    unfold runN
    constructor <;> intro g <;> simp [g]
  | d :: t, k + 1, c, h, e => by
    have ih := runN_step p t k c
    simp only [List.getElem?_cons_succ] at e
    unfold runN at h ⊢
    by_cases g : p (d.toNat : Int) = true
    · simp only [g, if_true] at h ⊢
      have := ih (by omega) e
      exact ⟨fun x => by have := this.1 x; omega, fun x => by have := this.2 x; omega⟩
    · simp [g] at h
theorem runN_end (p : Int → Bool) (l : List UInt8) (k : Nat) (h : k ≤ runN p l) (e : l.length ≤ k) : runN p l = k := by
  have := runN_le p l; omega
theorem runN_at (p : Int → Bool) : ∀ (l : List UInt8) (k : Nat) (c : UInt8), k < runN p l → l[k]? = some c → p (c.toNat : Int) = true
  | [], k, c, h, e => by simp at e
  | d :: t, 0, c, h, e => by
    simp only [List.getElem?_cons_zero, Option.some.injEq] at e
    subst e
    unfold runN at h
    by_cases g : p (d.toNat : Int) = true
    · exact g
    · simp [g] at h
  | d :: t, k + 1, c, h, e => by
    simp only [List.getElem?_cons_succ] at e
    unfold runN at h
    by_cases g : p (d.toNat : Int) = true
    · simp only [g, if_true] at h
      exact runN_at p t k c (by omega) e
    · simp [g] at h
theorem bl_get (s : ByteArray) (k : Nat) (h : k < s.size) : s.data.toList[k]? = some (s[k]'h) := by
  rw [List.getElem?_eq_getElem (by simpa using h)]; rfl
theorem bl_drop (s : ByteArray) (a k : Nat) (h : a + k < s.size) : (s.data.toList.drop a)[k]? = some (s[a + k]'h) := by
  rw [List.getElem?_drop]; exact bl_get s (a + k) h
/-- The noughts ahead of a number go, all but the last digit. -/
def noughts (l : List UInt8) : List UInt8 := l.drop (min (runN nulI l) (l.length - 1))
def val (l : List UInt8) : Nat := l.foldl (fun n c => 10 * n + (c.toNat - 48)) 0
def bigI (l : List UInt8) : Bool := decide (19 < l.length) || decide (9223372036854775807 < val l)
/-- What stands between a mark and the next, a doubled one for one: what, and how many bytes with the mark at the end. -/
def unq (q : UInt8) : List UInt8 → Option (List UInt8 × Nat)
  | [] => none
  | [c] => if c = q then some ([], 1) else none
  | c :: d :: t => if c = q then (if d = q then (unq q t).map (fun x => (q :: x.1, x.2 + 2)) else some ([], 1)) else (unq q (d :: t)).map (fun x => (c :: x.1, x.2 + 1))
def signs : List (List UInt8) := [[60, 61], [62, 61], [60, 62], [33, 61], [124, 124], [40], [41], [44], [46], [59], [43], [45], [42], [47], [37], [61], [60], [62]]
/-- What a text begins with: a token (kind, text, how many bytes), or a code and where. -/
inductive Cut where
  | tok (kind : Int) (text : List UInt8) (size : Nat)
  | err (code : Int) (fault : Nat)
def lowC (c : UInt8) : UInt8 := if 65 ≤ c.toNat ∧ c.toNat ≤ 90 then UInt8.ofNat (c.toNat + 32) else c
def wordL (l : List UInt8) : Cut := if 30 < runN goI l then .err 5 0 else .tok 1 ((l.take (runN goI l)).map lowC) (runN goI l)
def isLet (o : Option UInt8) : Bool := match o with | some c => wdI (c.toNat : Int) | none => false
def isDig (o : Option UInt8) : Bool := match o with | some c => digI (c.toNat : Int) | none => false
def afterN (l : List UInt8) (k : Int) (x : List UInt8) (n : Nat) : Cut := if isLet l[n]? then .err 2 n else .tok k x n
def decAt (l : List UInt8) : Bool := decide (l[runN digI l]? = some 46) && isDig l[runN digI l + 1]?
def numL (l : List UInt8) : Cut :=
  if decAt l then
    (if 14 < (noughts (l.take (runN digI l))).length ∨ 4 < runN digI (l.drop (runN digI l + 1)) then .err 5 0
     else afterN l 4 (noughts (l.take (runN digI l)) ++ (l.drop (runN digI l)).take (1 + runN digI (l.drop (runN digI l + 1)))) (runN digI l + 1 + runN digI (l.drop (runN digI l + 1))))
  else if bigI (noughts (l.take (runN digI l))) then .err 5 0
  else afterN l 3 (noughts (l.take (runN digI l))) (runN digI l)
def quoL (l : List UInt8) : Cut := match unq 34 (l.drop 1) with
  | none => .err 2 0
  | some x => if x.1 = [] ∨ runN priI x.1 < x.1.length then .err 2 0 else if 30 < x.1.length then .err 5 0 else .tok 2 x.1 (x.2 + 1)
def strL (l : List UInt8) : Cut := match unq 39 (l.drop 1) with
  | none => .err 2 0
  | some x => match chars ⟨x.1.toArray⟩ with
    | none => .err 2 0
    | some cs => if 255 < cs.length then .err 5 0 else .tok 5 x.1 (x.2 + 1)
def sigAt (l : List UInt8) : Option (List UInt8) := signs.find? (fun g => g.isPrefixOf l)
def sigL (l : List UInt8) : Cut := match sigAt l with
  | none => .err 2 0
  | some g => .tok 6 (if g = [33, 61] then [60, 62] else g) g.length
def cutL (l : List UInt8) : Cut := match l with
  | [] => .err 2 0
  | c :: _ => if wdI (c.toNat : Int) then wordL l else if digI (c.toNat : Int) then numL l else if c = 34 then quoL l else if c = 39 then strL l else sigL l
end Go.Proofs.YtjpcgnkgdaphoaaDoor
