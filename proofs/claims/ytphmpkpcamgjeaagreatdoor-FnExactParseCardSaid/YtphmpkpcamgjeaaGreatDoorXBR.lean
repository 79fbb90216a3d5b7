import Derived.Test.YtphmpkpcamgjeaaGreatDoorXAA
import Derived.Test.YtphmpkpcamgjeaaGreatDoorXAV
import Derived.Test.YtphmpkpcamgjeaaGreatDoorXAR
import Derived.Laws.Externs
import Derived.Test.YtphmpkpcamgjeaaGreatDoorXAN
import Derived.Defers
import Derived.Recover
set_option linter.unusedVariables false
set_option linter.unusedSimpArgs false
set_option maxRecDepth 100000
set_option maxHeartbeats 16000000
namespace Go.Proofs.YtphmpkpcamgjeaaGreatDoor
def In (n:Nat) (ks:List Int):Prop:=∀ x∈ks,0<=x/\x<(n:Int)
theorem In.nil {n:Nat}:In n []:=fun x h=>by simp at h
theorem In.mono {n m:Nat} {ks:List Int} (h:In n ks) (hm:n<=m):In m ks:=fun x hx=>by
 have:=h x hx;omega
theorem In.snoc {n:Nat} {ks:List Int} {k:Int} (h:In n ks) (h0:0<=k) (h1:k<(n:Int)):In n (ks++[k]):=fun x hx=>by
 rcases List.mem_append.1 hx with z | z
 .exact h x z
 simp at z;subst z;exact⟨h0,h1⟩
theorem In.cons {n:Nat} {ks:List Int} {k:Int} (h:In n ks) (h0:0<=k) (h1:k<(n:Int)):In n (k::ks):=fun x hx=>by
 rcases List.mem_cons.1 hx with z | z
 .subst z;exact⟨h0,h1⟩
 exact h x z
def GN (p:Nat) (o:List Nd):Prop:=∀ i t,o[i]?=some t->t.kids.length<=p+5/\In i t.kids
theorem GN.mono {p q:Nat} {o:List Nd} (h:GN p o) (hq:p<=q):GN q o:=fun i t ht=>by
 have:=h i t ht;exact⟨by omega,this.2⟩
theorem GN.push {p:Nat} {o:List Nd} {t:Nd} (h:GN p o) (h1:t.kids.length<=p+5) (h2:In o.length t.kids):GN p (o++[t]):=fun i u hu=>by
 rcases Nat.lt_trichotomy i o.length with hi | hi | hi
 .rw[List.getElem?_append_left hi] at hu;exact h i u hu
 .subst hi;simp at hu;subst hu;exact⟨h1,h2⟩
 rw[List.getElem?_eq_none (by simp;omega)] at hu;cases hu
def OKR {α:Type} (p n:Nat) (A:α->Nat->Nat->Prop):R α->Prop
 | .ok a q o=>GN q o/\p<=q/\n<=o.length/\A a q o.length
 | .bad _=>True
theorem OKR.bind {α β:Type} {p n:Nat} {A:α->Nat->Nat->Prop} {p' n':Nat} {B:β->Nat->Nat->Prop} {r:R α} {f:α->Nat->List Nd->R β} (h:OKR p n A r) (hf:∀ a q o,GN q o->p<=q->n<=o.length->A a q o.length->OKR p' n' B (f a q o)):OKR p' n' B (r.bind f):=by
 cases r with
 | bad q=>trivial
 | ok a q o=>
 exact hf a q o h.1 h.2.1 h.2.2.1 h.2.2.2
theorem OKR.mono {α:Type} {p n p' n':Nat} {A B:α->Nat->Nat->Prop} {r:R α} (h:OKR p n A r) (hp:p'<=p) (hn:n'<=n) (hA:∀ a q m,p<=q->n<=m->A a q m->B a q m):OKR p' n' B r:=by
 cases r with
 | bad q=>trivial
 | ok a q o=>
 exact⟨h.1,by have:=h.2.1;omega,by have:=h.2.2.1;omega,hA a q o.length h.2.1 h.2.2.1 h.2.2.2⟩
theorem OKR.ite {α:Type} {p n:Nat} {A:α->Nat->Nat->Prop} {c:Prop} [Decidable c] {x y:R α} (h1:c->OKR p n A x) (h2:¬ c->OKR p n A y):OKR p n A (if c then x else y):=by
 split
 .exact h1 ‹_›
 exact h2 ‹_›
abbrev Nm (a:Int) (_:Nat) (m:Nat):Prop:=0<=a/\a<(m:Int)
abbrev Ns (p:Nat) (ks:List Int) (q:Nat) (m:Nat):Prop:=ks.length+p<=q/\In m ks
abbrev NT {α:Type} (_:α) (_ _:Nat):Prop:=True
theorem OKR.lay {p n q:Nat} {o:List Nd} {t:Nd} (g:GN q o) (hp:p<=q) (hn:n<=o.length) (h1:t.kids.length<=q+5) (h2:In o.length t.kids):OKR p n Nm (lay t q o):=⟨g.push h1 h2,hp,by simp;omega,by omega,by simp;omega⟩
theorem okly {p n q : Nat} {o : List Nd} {t : Nd} (g : GN q o := by first | assumption | exact GN.mono (by assumption) (by omega)) (hp : p <= q := by omega) (hn : n <= o.length := by omega) (h1 : t.kids.length <= q + 5 := by simp; try omega) (h2 : In o.length t.kids := by first | exact In.nil | (simp [In]; omega) | (simp only [In, List.mem_cons, List.not_mem_nil, or_false]; rintro x (rfl | rfl | rfl) <;> omega)) : OKR p n Nm (lay t q o) := OKR.lay g hp hn h1 h2
def KI (F:M Int):Prop:=∀ p o,GN p o->OKR p o.length Nm (F p o)
def KL (F:M (List Int)):Prop:=∀ p o,GN p o->OKR p o.length (Ns p) (F p o)
def KT {α:Type} (F:M α):Prop:=∀ p o,GN p o->OKR p o.length NT (F p o)
section
variable {V : Env} {E Q : M Int}
theorem KI.gt {F:M Int} (h:KI F) {c:Nat} (hg:Gro c F):∀ p o,GN p o->OKR (p+1) o.length Nm (F p o):=fun p o g=>by
 have h0:=h p o g
 cases hr:F p o with
 | bad q=>trivial
 | ok a q o'=>
 rw[hr] at h0;exact⟨h0.1,(hg _ _ _ _ _ hr).1,h0.2.2.1,h0.2.2.2⟩
theorem a0H (s:ByteArray):∀ p o,GN p o->OKR (p+1) o.length NT (must V s p o):=fun p o g=>by
 unfold must;split
 .exact⟨g.mono (by omega),by omega,by omega,trivial⟩
 trivial
theorem a2r:∀ p o,GN p o->OKR (p+1) o.length NT (name V p o):=fun p o g=>by
 unfold name;split
 .exact⟨g.mono (by omega),by omega,by omega,trivial⟩
 trivial
theorem b4l {f:M Int} {c:Nat} (hf:KI f) (hg:Gro c f):∀ k (ks:List Int) (p0:Nat) p o,GN p o->In o.length ks->ks.length+p0<=p->OKR p o.length (Ns p0) (a1w V f k ks p o)
 | 0,ks,p0=>fun p o g h1 h2=>trivial
 | k+1,ks,p0=>fun p o g h1 h2=>by
  unfold a1w;refine OKR.bind (hf.gt hg _ _ g) ?_;intro a q o' g' hp hn ha;have hi:In o'.length (ks++[a]):=(h1.mono hn).snoc ha.1 ha.2;split
  .exact(b4l hf hg k (ks++[a]) p0 (q+1) o' (g'.mono (by omega)) hi (by simp;omega)).mono (by omega) (by omega) (fun _ _ _ _ _ h=>h)
  exact⟨g',by omega,hn,by simp;omega,hi⟩
theorem a3o {f:M Int} {c:Nat} (hf:KI f) (hg:Gro c f):KL (a0F V f):=fun p o g=>b4l hf hg _ _ _ _ _ g In.nil (by simp)
theorem b1m {f:M Int} {ops:List (ByteArray×Int)} (hf:KI f):∀ k l,∀ p o,GN p o->0<=l->l<(o.length:Int)->OKR p o.length Nm (a1i V f ops k l p o)
 | 0,l=>fun p o g h1 h2=>trivial
 | k+1,l=>fun p o g h1 h2=>by
  unfold a1i;split
  .exact⟨g,by omega,by omega,h1,h2⟩
  refine OKR.bind (hf _ _ (g.mono (by omega))) ?_;intro a q o' g' hp hn ha;exact(b1m hf k _ q _ (g'.push (by simp) (by simp[In];omega)) (by omega) (by simp;omega)).mono (by omega) (by simp;omega) (fun _ _ _ _ _ h=>h)
theorem a5H {f:M Int} {ops:List (ByteArray×Int)} (hf:KI f):KI (chain V f ops):=fun p o g=>by
 unfold chain;refine OKR.bind (hf _ _ g) ?_;intro a q o' g' hp hn ha;exact(b1m hf _ _ _ _ g' ha.1 ha.2).mono hp hn (fun _ _ _ _ _ h=>h)
theorem b7V {s:ByteArray} {op:Int} {f:M Int} (hf:KI f):∀ k,KI (pre V s op f k)
 | 0=>fun p o g=>trivial
 | k+1=>fun p o g=>by
  unfold pre;split
  .refine OKR.bind (b7V hf k _ _ (g.mono (by omega))) ?_;intro a q o' g' hp hn ha;exact OKR.lay g' (by omega) (by omega) (by simp) (by simp[In];omega)
  exact hf _ _ g
theorem b2E {f:M Int} (hf:KI f):KI (inB V f):=fun p o g=>by
 unfold inB;refine OKR.bind (a0H _ _ _ g) ?_;intro a1 q1 o1 g1 p1 n1 A1;refine OKR.bind (hf _ _ g1) ?_;intro a2 q2 o2 g2 p2 n2 A2;refine OKR.bind (a0H _ _ _ g2) ?_;intro a3 q3 o3 g3 p3 n3 A3;exact⟨g3,by omega,by omega,A2.1,by omega⟩
theorem a5I {f:M Int} {c:Nat} (hf:KI f) (hg:Gro c f):KL (a1E V f):=fun p o g=>by
 unfold a1E;refine OKR.bind (a0H _ _ _ g) ?_;intro a1 q1 o1 g1 p1 n1 A1;refine OKR.bind (a3o hf hg _ _ g1) ?_;intro a2 q2 o2 g2 p2 n2 A2;refine OKR.bind (a0H _ _ _ g2) ?_;intro a3 q3 o3 g3 p3 n3 A3;exact⟨g3,by omega,by omega,by have:=A2.1;omega,A2.2.mono n3⟩
theorem b4m:KT (a3s V):=fun p o g=>by
 unfold a3s;split
 .trivial
 exact⟨g.mono (by omega),by omega,by omega,trivial⟩
theorem a6W (hE:KI E) (hg:Gro 999 E):∀ k (ks:List Int) p o,GN p o->In o.length ks->ks.length<=p+2->OKR p o.length (fun aS q m=>aS.length<=q+2/\In m aS) (a1X V E k ks p o)
 | 0,ks=>fun p o g h1 h2=>trivial
 | k+1,ks=>fun p o g h1 h2=>by
  unfold a1X;refine OKR.bind (a0H _ _ _ g) ?_;intro a1 q1 o1 g1 p1 n1 A1;refine OKR.bind (hE.gt hg _ _ g1) ?_;intro a2 q2 o2 g2 p2 n2 A2;refine OKR.bind (a0H _ _ _ g2) ?_;intro a3 q3 o3 g3 p3 n3 A3;refine OKR.bind (hE.gt hg _ _ g3) ?_;intro a4 q4 o4 g4 p4 n4 A4
  have hi:In o4.length (ks++[a2,a4]):=by
   have:=((h1.mono (show o.length<=o4.length by omega)).snoc A2.1 (by omega)).snoc A4.1 A4.2;simpa using this
  split
  .refine OKR.mono (a6W hE hg k _ q4 o4 g4 hi (by simp;omega)) ?_ ?_ (fun _ _ _ _ _ h=>h)<;>omega
  exact⟨g4,by omega,by omega,by simp;omega,hi⟩
theorem b1n (hE:KI E) (m ps:Int) (ks:List Int):∀ p o,GN p o->In o.length ks->ks.length<=p+2->OKR p o.length Nm (a1Y V E m ps ks p o):=fun p o g h1 h2=>by
 unfold a1Y;split
 .refine OKR.bind (hE _ _ (g.mono (by omega))) ?_;intro a1 q1 o1 g1 p1 n1 A1;refine OKR.bind (a0H _ _ _ g1) ?_;intro a2 q2 o2 g2 p2 n2 A2;exact OKR.lay g2 (by omega) (by omega) (by simp;omega) ((h1.mono (by omega)).snoc A1.1 (by omega))
 refine OKR.bind (a0H _ _ _ g) ?_;intro a2 q2 o2 g2 p2 n2 A2;exact OKR.lay g2 (by omega) (by omega) (by simp;omega) (h1.mono (by omega))
theorem b5T (hE:KI E) (hg:Gro 999 E) (ps:Int):KI (a3q V E ps):=fun p o g=>by
 unfold a3q;split
 .refine OKR.bind (a6W hE hg _ _ _ _ g In.nil (by simp)) ?_;intro a1 q1 o1 g1 p1 n1 A1;exact(b1n hE _ _ _ _ _ g1 A1.2 A1.1).mono p1 n1 (fun _ _ _ _ _ h=>h)
 refine OKR.bind (hE _ _ g) ?_;intro a1 q1 o1 g1 p1 n1 A1;refine OKR.bind (a6W hE hg _ _ _ _ g1 (In.snoc (ks:=[]) In.nil A1.1 A1.2) (by simp)) ?_;intro a2 q2 o2 g2 p2 n2 A2;exact(b1n hE _ _ _ _ _ g2 A2.2 A2.1).mono (by omega) (by omega) (fun _ _ _ _ _ h=>h)
theorem b7W (hE:KI E) (ps:Int):KI (a7p V E ps):=fun p o g=>by
 unfold a7p;refine OKR.bind (a0H _ _ _ (GN.mono (by assumption) (by omega))) ?_;intro a1 q1 o1 g1 p1 n1 A1;refine OKR.bind (hE _ _ (GN.mono (by assumption) (by omega))) ?_;intro a2 q2 o2 g2 p2 n2 A2;refine OKR.bind (a0H _ _ _ (GN.mono (by assumption) (by omega))) ?_;intro a3 q3 o3 g3 p3 n3 A3;refine OKR.bind (b4m _ _ (GN.mono (by assumption) (by omega))) ?_;intro a4 q4 o4 g4 p4 n4 A4;refine OKR.bind (a0H _ _ _ (GN.mono (by assumption) (by omega))) ?_;intro a5 q5 o5 g5 p5 n5 A5;exact okly
theorem b9e (hE:KI E) (i:Nat) (ps:Int):KI (aggF V E i ps):=fun p o g=>by
 unfold aggF;refine OKR.bind (a0H _ _ _ (GN.mono (by assumption) (by omega))) ?_;intro a6 q6 o6 g6 p6 n6 A6
 first | refine OKR.ite (fun _=>?_) (fun _=>?_) | split
 .refine OKR.bind (a0H _ _ _ (GN.mono (by assumption) (by omega))) ?_;intro a7 q7 o7 g7 p7 n7 A7;exact okly
 refine OKR.bind (hE _ _ (GN.mono (by assumption) (by omega))) ?_;intro a8 q8 o8 g8 p8 n8 A8;refine OKR.bind (a0H _ _ _ (GN.mono (by assumption) (by omega))) ?_;intro a9 q9 o9 g9 p9 n9 A9;exact okly
theorem b5U (hE:KI E) (hg:Gro 999 E) (ps:Int):KI (a3M V E ps):=fun p o g=>by
 unfold a3M;refine OKR.bind (a2r _ _ (GN.mono (by assumption) (by omega))) ?_;intro a2 a3 a4 a5 a6 a7 a8
 first | refine OKR.ite (fun _=>?_) (fun _=>?_) | split
 .first | refine OKR.ite (fun _=>?_) (fun _=>?_) | split
  .refine OKR.bind (a0H _ _ _ (GN.mono (by assumption) (by omega))) ?_;intro a9 b0 b1 b2 b3 b4 b5;exact okly
  refine OKR.bind (a3o hE hg _ _ (GN.mono (by assumption) (by omega))) ?_;intro b6 b7 b8 b9 c0 c1 a0;obtain⟨c2,a1⟩:=a0;have c3:=a1;refine OKR.bind (a0H _ _ _ (GN.mono (by assumption) (by omega))) ?_;intro c4 c5 c6 c7 c8 c9 d0;exact OKR.lay (by assumption) (by omega) (by omega) (by simp;omega) (In.mono (by assumption) (by omega))
 first | refine OKR.ite (fun _=>?_) (fun _=>?_) | split
 .refine OKR.bind (a2r _ _ (GN.mono (by assumption) (by omega))) ?_;intro d1 d2 d3 d4 d5 d6 d7;exact okly
 exact okly
theorem b5V (hE:KI E) (hg:Gro 999 E) (ps:Int):KI (a2B V E ps):=fun p o g=>by
 unfold a2B
 first | refine OKR.ite (fun _=>?_) (fun _=>?_) | split
 .exact(b9e hE _ _ _ _ (GN.mono (by assumption) (by omega))).mono (by omega) (by omega) (fun _ _ _ _ _ h=>h)
 exact(b5U hE hg _ _ _ (GN.mono (by assumption) (by omega))).mono (by omega) (by omega) (fun _ _ _ _ _ h=>h)
theorem b9f (ps:Int):KI (dayF V ps):=fun p o g=>by
 unfold dayF dayE lit
 first | refine OKR.ite (fun _=>?_) (fun _=>?_) | split
 .first | refine OKR.ite (fun _=>?_) (fun _=>?_) | split
  .exact okly
  trivial
 trivial
theorem b7X (hE:KI E) (hg:Gro 999 E) (hQ:KI Q):KI (a3K V E Q):=fun p o g=>by
 unfold a3K lit
 first | refine OKR.ite (fun _=>?_) (fun _=>?_) | split
 .exact okly
 first | refine OKR.ite (fun _=>?_) (fun _=>?_) | split
 .exact okly
 first | refine OKR.ite (fun _=>?_) (fun _=>?_) | split
 .exact okly
 first | refine OKR.ite (fun _=>?_) (fun _=>?_) | split
 .exact okly
 first | refine OKR.ite (fun _=>?_) (fun _=>?_) | split
 .exact okly
 first | refine OKR.ite (fun _=>?_) (fun _=>?_) | split
 .exact okly
 first | refine OKR.ite (fun _=>?_) (fun _=>?_) | split
 .exact(b9f _ _ _ (GN.mono (by assumption) (by omega))).mono (by omega) (by omega) (fun _ _ _ _ _ h=>h)
 first | refine OKR.ite (fun _=>?_) (fun _=>?_) | split
 .refine OKR.bind (b2E hQ _ _ (GN.mono (by assumption) (by omega))) ?_;intro a0 a1 a2 a3 a4 a5 a6;exact okly
 first | refine OKR.ite (fun _=>?_) (fun _=>?_) | split
 .exact(b5T hE hg _ _ _ (GN.mono (by assumption) (by omega))).mono (by omega) (by omega) (fun _ _ _ _ _ h=>h)
 first | refine OKR.ite (fun _=>?_) (fun _=>?_) | split
 .exact(b7W hE _ _ _ (GN.mono (by assumption) (by omega))).mono (by omega) (by omega) (fun _ _ _ _ _ h=>h)
 first | refine OKR.ite (fun _=>?_) (fun _=>?_) | split
 .first | refine OKR.ite (fun _=>?_) (fun _=>?_) | split
  .refine OKR.bind (b2E hQ _ _ (GN.mono (by assumption) (by omega))) ?_;intro a7 a8 a9 b0 b1 b2 b3;exact okly
  exact(b2E hE _ _ (GN.mono (by assumption) (by omega))).mono (by omega) (by omega) (fun _ _ _ _ _ h=>h)
 exact(b5V hE hg _ _ _ (GN.mono (by assumption) (by omega))).mono (by omega) (by omega) (fun _ _ _ _ _ h=>h)
theorem b6F (hE:KI E) (hg:Gro 999 E) (hQ:KI Q):KI (negF V E Q):=b7V (b7X hE hg hQ) _
theorem b9g (hE:KI E) (hg:Gro 999 E) (hQ:KI Q):KI (mulF V E Q):=a5H (b6F hE hg hQ)
theorem b9h (hE:KI E) (hg:Gro 999 E) (hQ:KI Q):KI (sumF V E Q):=a5H (b9g hE hg hQ)
theorem b9i (hE:KI E) (hg:Gro 999 E) (hQ:KI Q):KI (catF V E Q):=a5H (b9h hE hg hQ)
theorem b9L {C:M Int} (hC:KI C) (l ps:Int):∀ p o,GN p o->0<=l->l<(o.length:Int)->OKR p o.length Nm (isF V C l ps p o):=fun p o g h1 h2=>by
 unfold isF;have st:=a5z (sees V p a1t);dsimp only
 first | refine OKR.ite (fun _=>?_) (fun _=>?_) | split
 .exact okly
 refine OKR.bind (a0H _ _ _ (GN.mono (by assumption) (by omega))) ?_;intro a0 a1 a2 a3 a4 a5 a6;refine OKR.bind (a0H _ _ _ (GN.mono (by assumption) (by omega))) ?_;intro a7 a8 a9 b0 b1 b2 b3;refine OKR.bind (hC _ _ (GN.mono (by assumption) (by omega))) ?_;intro b4 b5 b6 b7 b8 b9 c0;exact okly
theorem b9M (hE:KI E) (hg:Gro 999 E) (hQ:KI Q) (l nt ps:Int):∀ p o,GN p o->0<=l->l<(o.length:Int)->OKR p o.length Nm (inF V E Q l nt ps p o):=fun p o g h1 h2=>by
 unfold inF;refine OKR.bind (a0H _ _ _ (GN.mono (by assumption) (by omega))) ?_;intro a1 a2 a3 a4 a5 a6 a7
 first | refine OKR.ite (fun _=>?_) (fun _=>?_) | split
 .refine OKR.bind (hQ _ _ (GN.mono (by assumption) (by omega))) ?_;intro a8 a9 b0 b1 b2 b3 b4;refine OKR.bind (a0H _ _ _ (GN.mono (by assumption) (by omega))) ?_;intro b5 b6 b7 b8 b9 c0 c1;exact okly
 refine OKR.bind (a3o hE hg _ _ (GN.mono (by assumption) (by omega))) ?_;intro c2 c3 c4 c5 c6 c7 a0;obtain⟨c8,c9⟩:=a0;refine OKR.bind (a0H _ _ _ (GN.mono (by assumption) (by omega))) ?_;intro d0 d1 d2 d3 d4 d5 d6;exact OKR.lay (by assumption) (by omega) (by omega) (by simp;omega) (In.cons (In.mono (by assumption) (by omega)) h1 (by omega))
theorem b7Y {C:M Int} (hC:KI C) (hE:KI E) (hg:Gro 999 E) (hQ:KI Q) (l ps:Int) (b:Bool):∀ p o,GN p o->0<=l->l<(o.length:Int)->OKR p o.length Nm (a8o V C E Q l ps b p o):=fun p o g h1 h2=>by
 unfold a8o
 first | refine OKR.ite (fun _=>?_) (fun _=>?_) | split
 .exact(b9M hE hg hQ _ _ _ _ _ (GN.mono (by assumption) (by omega)) (by omega) (by omega)).mono (by omega) (by omega) (fun _ _ _ _ _ h=>h)
 first | refine OKR.ite (fun _=>?_) (fun _=>?_) | split
 .refine OKR.bind (hC _ _ (GN.mono (by assumption) (by omega))) ?_;intro a0 a1 a2 a3 a4 a5 a6;refine OKR.bind (a0H _ _ _ (GN.mono (by assumption) (by omega))) ?_;intro a7 a8 a9 b0 b1 b2 b3;refine OKR.bind (hC _ _ (GN.mono (by assumption) (by omega))) ?_;intro b4 b5 b6 b7 b8 b9 c0;exact okly
 first | refine OKR.ite (fun _=>?_) (fun _=>?_) | split
 .refine OKR.bind (hC _ _ (GN.mono (by assumption) (by omega))) ?_;intro c1 c2 c3 c4 c5 c6 c7;exact okly
 first | refine OKR.ite (fun _=>?_) (fun _=>?_) | split
 .trivial
 exact⟨g,by omega,by omega,h1,h2⟩
theorem b7Z {C:M Int} (hC:KI C) (hE:KI E) (hg:Gro 999 E) (hQ:KI Q) (l:Int):∀ p o,GN p o->0<=l->l<(o.length:Int)->OKR p o.length Nm (a8p V C E Q l p o):=fun p o g h1 h2=>by
 unfold a8p;have st:=a5z (sees V p a1t)
 first | refine OKR.ite (fun _=>?_) (fun _=>?_) | split
 .exact(b9L hC _ _ _ _ (GN.mono (by assumption) (by omega)) (by omega) (by omega)).mono (by omega) (by omega) (fun _ _ _ _ _ h=>h)
 exact(b7Y hC hE hg hQ _ _ _ _ _ (GN.mono (by assumption) (by omega)) (by omega) (by omega)).mono (by omega) (by omega) (fun _ _ _ _ _ h=>h)
theorem b8a {C:M Int} (hC:KI C) (hE:KI E) (hg:Gro 999 E) (hQ:KI Q) (l:Int):∀ p o,GN p o->0<=l->l<(o.length:Int)->OKR p o.length Nm (a5R V C E Q l p o):=fun p o g h1 h2=>by
 unfold a5R
 first | refine OKR.ite (fun _=>?_) (fun _=>?_) | split
 .refine OKR.bind (hC _ _ (GN.mono (by assumption) (by omega))) ?_;intro a0 a1 a2 a3 a4 a5 a6;exact okly
 exact(b7Z hC hE hg hQ _ _ _ (GN.mono (by assumption) (by omega)) (by omega) (by omega)).mono (by omega) (by omega) (fun _ _ _ _ _ h=>h)
theorem b8b {C:M Int} (hC:KI C) (hE:KI E) (hg:Gro 999 E) (hQ:KI Q):KI (a4z V C E Q):=fun p o g=>by
 unfold a4z;refine OKR.bind (hC _ _ (GN.mono (by assumption) (by omega))) ?_;intro a0 a1 a2 a3 a4 a5 a6;exact(b8a hC hE hg hQ _ _ _ (GN.mono (by assumption) (by omega)) (by omega) (by omega)).mono (by omega) (by omega) (fun _ _ _ _ _ h=>h)
theorem b9j (hE:KI E) (hg:Gro 999 E) (hQ:KI Q):KI (notF V E Q):=b7V (b8b (b9i hE hg hQ) hE hg hQ) _
theorem b9k (hE:KI E) (hg:Gro 999 E) (hQ:KI Q):KI (andF V E Q):=a5H (b9j hE hg hQ)
theorem a6X (hE:KI E) (hg:Gro 999 E) (hQ:KI Q):KI (a2t V E Q):=a5H (b9k hE hg hQ)
theorem b1o:KT (a2C V):=fun p o g=>by
 unfold a2C
 first | refine OKR.ite (fun _=>?_) (fun _=>?_) | split
 .exact(a2r _ _ (GN.mono (by assumption) (by omega))).mono (by omega) (by omega) (fun _ _ _ _ _ h=>h)
 first | refine OKR.ite (fun _=>?_) (fun _=>?_) | split
 .exact(a2r _ _ (GN.mono (by assumption) (by omega))).mono (by omega) (by omega) (fun _ _ _ _ _ h=>h)
 exact⟨(GN.mono (by assumption) (by omega)),by omega,by omega,trivial⟩
theorem b8c (hE:KI E):KI (a2D V E):=fun p o g=>by
 unfold a2D
 first | refine OKR.ite (fun _=>?_) (fun _=>?_) | split
 .exact okly
 first | refine OKR.ite (fun _=>?_) (fun _=>?_) | split
 .exact okly
 refine OKR.bind (hE _ _ (GN.mono (by assumption) (by omega))) ?_;intro a0 a1 a2 a3 a4 a5 a6;refine OKR.bind (b1o _ _ (GN.mono (by assumption) (by omega))) ?_;intro a7 a8 a9 b0 b1 b2 b3;exact okly
theorem a7Q (hQ:KI Q):KI (a1x V Q):=fun p o g=>by
 unfold a1x
 first | refine OKR.ite (fun _=>?_) (fun _=>?_) | split
 .refine OKR.bind (b2E hQ _ _ (GN.mono (by assumption) (by omega))) ?_;intro a0 a1 a2 a3 a4 a5 a6;refine OKR.bind (a2r _ _ (GN.mono (by assumption) (by omega))) ?_;intro a7 a8 a9 b0 b1 b2 b3;exact okly
 refine OKR.bind (a2r _ _ (GN.mono (by assumption) (by omega))) ?_;intro b4 b5 b6 b7 b8 b9 c0;refine OKR.bind (b1o _ _ (GN.mono (by assumption) (by omega))) ?_;intro c1 c2 c3 c4 c5 c6 c7;exact okly
theorem b8d:KT (a6B V):=fun p o g=>by
 unfold a6B
 first | refine OKR.ite (fun _=>?_) (fun _=>?_) | split
 .exact⟨(GN.mono (by assumption) (by omega)),by omega,by omega,trivial⟩
 first | refine OKR.ite (fun _=>?_) (fun _=>?_) | split
 .refine OKR.bind (a0H _ _ _ (GN.mono (by assumption) (by omega))) ?_;intro a0 a1 a2 a3 a4 a5 a6;exact⟨(GN.mono (by assumption) (by omega)),by omega,by omega,trivial⟩
 first | refine OKR.ite (fun _=>?_) (fun _=>?_) | split
 .refine OKR.bind (a0H _ _ _ (GN.mono (by assumption) (by omega))) ?_;intro a7 a8 a9 b0 b1 b2 b3;exact⟨(GN.mono (by assumption) (by omega)),by omega,by omega,trivial⟩
 first | refine OKR.ite (fun _=>?_) (fun _=>?_) | split
 .refine OKR.bind (a0H _ _ _ (GN.mono (by assumption) (by omega))) ?_;intro b4 b5 b6 b7 b8 b9 c0;exact⟨(GN.mono (by assumption) (by omega)),by omega,by omega,trivial⟩
 exact⟨(GN.mono (by assumption) (by omega)),by omega,by omega,trivial⟩
theorem b0t (hE:KI E) (hQ:KI Q):∀ k l,∀ p o,GN p o->0<=l->l<(o.length:Int)->OKR p o.length Nm (a2W V E Q k l p o)
 | 0,l=>fun p o g h1 h2=>trivial
 | k+1,l=>fun p o g h1 h2=>by
  unfold a2W;refine OKR.bind (b8d _ _ g) ?_;intro j q1 o1 g1 p1 n1 A1;split
  .exact⟨g1,by omega,by omega,h1,by omega⟩
  refine OKR.bind (a7Q hQ _ _ g1) ?_;intro a2 q2 o2 g2 p2 n2 A2;split
  .exact(b0t hE hQ k _ q2 _ (g2.push (by simp) (by simp[In];omega)) (by omega) (by simp;omega)).mono (by omega) (by simp;omega) (fun _ _ _ _ _ h=>h)
  refine OKR.bind (a0H _ _ _ g2) ?_;intro a3 q3 o3 g3 p3 n3 A3;refine OKR.bind (hE _ _ g3) ?_;intro a4 q4 o4 g4 p4 n4 A4;exact(b0t hE hQ k _ q4 _ (g4.push (by simp) (by simp[In];omega)) (by omega) (by simp;omega)).mono (by omega) (by simp;omega) (fun _ _ _ _ _ h=>h)
theorem b8e (hE:KI E) (hQ:KI Q):KI (a2R V E Q):=fun p o g=>by
 unfold a2R;refine OKR.bind (a7Q hQ _ _ g) ?_;intro a2 q2 o2 g2 p2 n2 A2;exact(b0t hE hQ _ _ _ _ g2 A2.1 A2.2).mono p2 n2 (fun _ _ _ _ _ h=>h)
theorem b4n (hE:KI E) (s:ByteArray) (op:Int) (ks:List Int) (c:Nat):∀ p o,GN p o->In o.length ks->ks.length<=p+c->OKR p o.length (fun aS q m=>aS.length<=q+c/\In m aS) (a2b V E s op ks p o):=fun p o g h1 h2=>by
 unfold a2b;split
 .refine OKR.bind (hE _ _ (g.mono (Nat.le_add_right p 1))) ?_;intro a2 q2 o2 g2 p2 n2 A2;refine OKR.bind (OKR.lay (p:=q2) (n:=o2.length) g2 (Nat.le_refl _) (Nat.le_refl _) (by simp) (by simp[In];omega)) ?_;intro a3 q3 o3 g3 p3 n3 A3;exact⟨g3,by omega,by omega,by simp;omega,(h1.mono (by omega)).snoc A3.1 A3.2⟩
 exact⟨g,by omega,by omega,h2,h1⟩
end
end Go.Proofs.YtphmpkpcamgjeaaGreatDoor
namespace Go.Proofs.YtphmpkpcamgjeaaGreatDoor
open Go.ChangeShapes Go.WideShapes Go.ChangeAt Go.RowKit Go.Proofs.Tryz
open Go.Extern.Stop Go.Stop Go.Extern
theorem b6c (ta b:Nat) (c p:Int) (o0 o1:Value) (W:World) (hb0:W.cell? ⟨b,0,none⟩=some (.int .i64 c)) (hb1:W.cell? ⟨b,1,none⟩=some (.int .i64 p)) (ht0:W.cell? ⟨ta,0,none⟩=some o0) (ht1:W.cell? ⟨ta,1,none⟩=some o1) (hf:∀ j,W.frozen? ⟨ta,j,none⟩=false) :
    (ReflectliteValue.set #[.agg #[.pointer (some ⟨4,60,none⟩),.pointer (some ⟨ta,0,none⟩),.int .u64 409],.agg #[.pointer (some ⟨4,60,none⟩),.pointer (some ⟨b,0,none⟩),.int .u64 153]]).run prog W
 = .ok (.tuple #[]) ((W.setCell ⟨ta,0,none⟩ (.int .i64 c)).setCell ⟨ta,1,none⟩ (.int .i64 p)):=by
 have hz:∀ W,(Go.sizeOf 60).run prog W=.ok 2 W:=fun W=>by kernel_rfl
 have ha:∀ W,(isAgg 60).run prog W=.ok true W:=fun W=>by kernel_rfl
 rw[rls];simp only[Sem.run_bind,b0C,b2J,Result.andThen];simp[ReflectliteValue.flagAddr,loadVar,ha,hz,loadCells,loadCellsFrom,hb0,hb1,Result.andThen,b0D,storeVar,Value.cells,storeCells,Addr.add]
 have h1:(store ⟨ta,0,none⟩ (.int .i64 c)).run prog W=.ok () (W.setCell ⟨ta,0,none⟩ (.int .i64 c)):=by
  rw[run_store prog W ⟨ta,0,none⟩ _ _ (by rfl)];simp[ht0,hf]
 have c1:(W.setCell ⟨ta,0,none⟩ (.int .i64 c)).cell? ⟨ta,1,none⟩=some o1:=by
  rw[World.cell?_setCell_other W ⟨ta,0,none⟩ ⟨ta,1,none⟩ _ (fun e=>by cases e)];exact ht1
 have f1:(W.setCell ⟨ta,0,none⟩ (.int .i64 c)).frozen? ⟨ta,1,none⟩=false:=by simp[hf]
 have h2:(store ⟨ta,1,none⟩ (.int .i64 p)).run prog (W.setCell ⟨ta,0,none⟩ (.int .i64 c))=.ok () ((W.setCell ⟨ta,0,none⟩ (.int .i64 c)).setCell ⟨ta,1,none⟩ (.int .i64 p)):=by
  rw[run_store prog _ ⟨ta,1,none⟩ _ _ (by rfl)];simp[c1,f1]
 rw[h1];simp only;rw[h2]
theorem b6d (h:Value) (w:World):(Go.method 333 135 (.agg #[h]) "Kind").run prog w=.ok (258,h) w:=by kernel_rfl
theorem b6e (h:Value) (w:World):(Go.method 333 135 (.agg #[h]) "Elem").run prog w=.ok (268,.agg #[h]) w:=by kernel_rfl
theorem b6f (h:Value) (w:World):(Go.method 333 135 (.agg #[h]) "Implements").run prog w=.ok (269,.agg #[h]) w:=by kernel_rfl
theorem b2K (h:Value) (w:World):(Go.method 333 135 (.agg #[h]) "AssignableTo").run prog w=.ok (266,.agg #[h]) w:=by kernel_rfl
theorem as_hit (c p:Int) (ta:Nat) (o0 o1:Value) (w:World) (hg:w.cell? ⟨0,0,none⟩=some (.iface 135 (.agg #[.pointer (some ⟨4,83,none⟩)]))) (ht0:w.cell? ⟨ta,0,none⟩=some o0) (ht1:w.cell? ⟨ta,1,none⟩=some o1) (hf0:∀ j,w.frozen? ⟨ta,j,none⟩=false) :
 Calls prog 58 #[.iface 60 (.agg #[.int .i64 c,.int .i64 p]),.iface 86 (.pointer (some ⟨ta,0,none⟩))] w fun ev w'=>ev=.returned (.bool true)/\w'=(((((w.alloc (.cells #[.pointer (some ⟨ta,0,none⟩)] 86)).alloc (.cells #[.pointer (some ⟨4,86,none⟩),.pointer (some ⟨w.heap.size,0,none⟩),.int .u64 150] 110)).alloc (.cells #[.pointer (some ⟨4,86,none⟩),.pointer (some ⟨w.heap.size,0,none⟩),.int .u64 150] 110)).alloc (.cells #[.int .i64 c,.int .i64 p] 60)).setCell ⟨ta,0,none⟩ (.int .i64 c)).setCell ⟨ta,1,none⟩ (.int .i64 p):=by
 have a7:=@run_callFunc_extern prog 94 _ (fun args=>ReflectliteValue.unpack (args.getD 0 (.tuple #[]))) func94 (by kernel_rfl) (by kernel_rfl) (by kernel_rfl) (by kernel_rfl);have a8:=@run_callFunc_extern prog 95 _ (ReflectliteValue.methodAny (ReflectliteValue.valueError "reflectlite.Value.Type" 0) (fun t _ _ _=>ReflectliteType.toType t)) func95 (by kernel_rfl) (by kernel_rfl) (by kernel_rfl) (by kernel_rfl);have a9:=@run_callFunc_extern prog 96 _ (ReflectliteValue.method (ReflectliteValue.valueError "reflectlite.Value.IsNil" 0) ReflectliteValue.isNil) func96 (by kernel_rfl) (by kernel_rfl) (by kernel_rfl) (by kernel_rfl);have a0:=@run_callFunc_extern prog 268 _ (ReflectliteType.method ReflectliteType.elem) func268 (by kernel_rfl) (by kernel_rfl) (by kernel_rfl) (by kernel_rfl)
 have a1:=@run_callFunc_extern prog 269 _ (ReflectliteType.relation "Implements" ReflectliteType.implements_) func269 (by kernel_rfl) (by kernel_rfl) (by kernel_rfl) (by kernel_rfl);have a2:=@run_callFunc_extern prog 132 _ ReflectliteType.typeOf func132 (by kernel_rfl) (by kernel_rfl) (by kernel_rfl) (by kernel_rfl);have a3:=@run_callFunc_extern prog 266 _ (ReflectliteType.relation "AssignableTo" ReflectliteType.assignableTo) func266 (by kernel_rfl) (by kernel_rfl) (by kernel_rfl) (by kernel_rfl);have a4:=@run_callFunc_extern prog 133 _ (ReflectliteValue.method (ReflectliteValue.valueError "reflectlite.Value.Elem" 0) ReflectliteValue.elem) func133 (by kernel_rfl) (by kernel_rfl) (by kernel_rfl) (by kernel_rfl);have a5:=@run_callFunc_extern prog 134 _ ReflectliteValue.set func134 (by kernel_rfl) (by kernel_rfl) (by kernel_rfl) (by kernel_rfl);have tO:=b0A
 have b0:=a5O;have b1:=a8g;have f6:=a8f;have f7:=b4A;have b2:=b4B;have b4:=b4C;have b5:=b4D;have b6:=a5N;have a6:=@run_callFunc_extern prog 258 _ (ReflectliteType.abiMethod fun t=>do pure (.int .u8 (<- Rtype.kind t))) func258 (by kernel_rfl) (by kernel_rfl) (by kernel_rfl) (by kernel_rfl);have mK:=b6d;have mE:=b6e;have mI:=b6f;have mA:=b2K;have n8:=b2H ⟨w.heap.size,0,none⟩ ⟨ta,0,none⟩ ((w.alloc (.cells #[.pointer (some ⟨ta,0,none⟩)] 86)).alloc (.cells #[.pointer (some ⟨4,86,none⟩),.pointer (some ⟨w.heap.size,0,none⟩),.int .u64 150] 110)) (by simp)
 have hlt:0<w.heap.size:=by
  rcases Nat.eq_zero_or_pos w.heap.size with h0 | h
  .simp[World.cell?,h0] at hg
  exact h
 have b7:((w.alloc (.cells #[.pointer (some ⟨ta,0,none⟩)] 86)).alloc (.cells #[.pointer (some ⟨4,86,none⟩),.pointer (some ⟨w.heap.size,0,none⟩),.int .u64 150] 110)).cell? ⟨0,0,none⟩=some (.iface 135 (.agg #[.pointer (some ⟨4,83,none⟩)])):=by
  rw[World.cell?_alloc_lt _ _ ⟨0,0,none⟩ (by simp),World.cell?_alloc_lt _ _ ⟨0,0,none⟩ hlt];exact hg
 have htl:ta<w.heap.size:=by
  rcases Nat.lt_or_ge ta w.heap.size with h | h
  .exact h
  simp[World.cell?,Array.getElem?_eq_none h] at ht0
 have el:=b2I ⟨w.heap.size,0,none⟩ ⟨ta,0,none⟩ (((w.alloc (.cells #[.pointer (some ⟨ta,0,none⟩)] 86)).alloc (.cells #[.pointer (some ⟨4,86,none⟩),.pointer (some ⟨w.heap.size,0,none⟩),.int .u64 150] 110)).alloc (.cells #[.pointer (some ⟨4,86,none⟩),.pointer (some ⟨w.heap.size,0,none⟩),.int .u64 150] 110)) (by rw[World.cell?_alloc_lt _ _ ⟨w.heap.size,0,none⟩ (by simp;omega)];simp);have b3:Below w.heap.size w ((((w.alloc (.cells #[.pointer (some ⟨ta,0,none⟩)] 86)).alloc (.cells #[.pointer (some ⟨4,86,none⟩),.pointer (some ⟨w.heap.size,0,none⟩),.int .u64 150] 110)).alloc (.cells #[.pointer (some ⟨4,86,none⟩),.pointer (some ⟨w.heap.size,0,none⟩),.int .u64 150] 110)).alloc (.cells #[.int .i64 c,.int .i64 p] 60)):=((((Below.refl _ w).alloc (Nat.le_refl _) _).alloc (by simp) _).alloc (by simp;omega) _).alloc (by simp;omega) _
 have st:=b6c ta (w.heap.size+1+1+1) c p o0 o1 ((((w.alloc (.cells #[.pointer (some ⟨ta,0,none⟩)] 86)).alloc (.cells #[.pointer (some ⟨4,86,none⟩),.pointer (some ⟨w.heap.size,0,none⟩),.int .u64 150] 110)).alloc (.cells #[.pointer (some ⟨4,86,none⟩),.pointer (some ⟨w.heap.size,0,none⟩),.int .u64 150] 110)).alloc (.cells #[.int .i64 c,.int .i64 p] 60)) (by rw[World.cell?_alloc_at _ _ _ _ (by simp)];rfl) (by rw[World.cell?_alloc_at _ _ _ _ (by simp)];rfl) ((b3.cell (p:=⟨ta,0,none⟩) htl).trans ht0) ((b3.cell (p:=⟨ta,1,none⟩) htl).trans ht1) (fun j=>(b3.frozen (p:=⟨ta,j,none⟩) htl).trans (hf0 j));clear b3;go_enter func58,ntmps58;go_wp2;refine wp_loop_rounds 1 ?_;rw[rounds_succ];go_wp2;go_ret;exact⟨rfl,rfl⟩
end Go.Proofs.YtphmpkpcamgjeaaGreatDoor
namespace Go.Proofs.YtphmpkpcamgjeaaGreatDoor
open Go.ChangeShapes Go.WideShapes Go.ChangeAt Go.RowKit Go.Proofs.Tryz
open Go.Extern.Stop Go.Stop Go.Extern
theorem b4E (v:Value) (w:World):(Instr.typeAssert (.iface 60 v) 20 83 true).run prog w=.ok (.tuple #[.iface 60 v,.bool true]) w:=by kernel_rfl
theorem b4F (c p:Int) (w:World) (hg:w.cell? ⟨0,0,none⟩=some (.iface 135 (.agg #[.pointer (some ⟨4,83,none⟩)]))) :
 Calls prog 29 #[.iface 60 (.agg #[.int .i64 c,.int .i64 p])] w fun e w'=>e=.returned (.tuple #[.int .i64 c,.int .i64 p])/\Below w.heap.size w w':=by
 have ha:=b4E
 have hlt:0<w.heap.size:=by
  rcases Nat.eq_zero_or_pos w.heap.size with h0 | h
  .simp[World.cell?,h0] at hg
  exact h
 have a1:(w.alloc (.cells #[.int .i64 1,.int .i64 0] 60)).cell? ⟨0,0,none⟩=some (.iface 135 (.agg #[.pointer (some ⟨4,83,none⟩)])):=by
  rw[World.cell?_alloc_lt _ _ ⟨0,0,none⟩ hlt];exact hg
 have AH:=as_hit c p w.heap.size (.int .i64 1) (.int .i64 0) (w.alloc (.cells #[.int .i64 1,.int .i64 0] 60)) a1 (by simp) (by simp) (fun j=>by simp);go_enter func29,ntmps29;go_wp2_with fail;refine AH.mono ?_;rintro e w1 ⟨rfl,a0⟩
 have b1:Below w.heap.size w w1:=by
  rw[a0];exact(((((((Below.refl _ w).alloc (Nat.le_refl _) _).alloc (by simp) _).alloc (by simp;omega) _).alloc (by simp;omega) _).alloc (by simp;omega) _).setCell (p:=⟨w.heap.size,0,none⟩) (Nat.le_refl _) _).setCell (p:=⟨w.heap.size,1,none⟩) (Nat.le_refl _) _
 obtain⟨W3,bW,e5⟩:∃ W3,Below (w.alloc (.cells #[.int .i64 1,.int .i64 0] 60)).heap.size (w.alloc (.cells #[.int .i64 1,.int .i64 0] 60)) W3/\w1=(W3.setCell ⟨w.heap.size,0,none⟩ (.int .i64 c)).setCell ⟨w.heap.size,1,none⟩ (.int .i64 p):=⟨_,((((Below.refl _ _).alloc (Nat.le_refl _) _).alloc (by first | (simp;done) | (simp;omega)) _).alloc (by first | (simp;done) | (simp;omega)) _).alloc (by first | (simp;done) | (simp;omega)) _,a0⟩;clear a0;have e3:W3.heap[w.heap.size]?=some (.cells #[.int .i64 1,.int .i64 0] 60 (0,0)):=(bW.block w.heap.size (by simp)).trans (heap_alloc_new _ _);have e4:=heap_setCell_same W3 w.heap.size 0 _ _ (.int .i64 c) e3;have e6:=heap_setCell_same _ w.heap.size 1 _ _ (.int .i64 p) e4
 have k0:w1.cell? ⟨w.heap.size,0,none⟩=some (.int .i64 c):=by rw[e5];exact(cell_of e6).1
 have k1:w1.cell? ⟨w.heap.size,1,none⟩=some (.int .i64 p):=by rw[e5];exact(cell_of e6).1
 clear e5 e4 e6 e3 bW;go_wp2;go_quiet (fail);go_wp2;refine bodyPost_ret (v:=.tuple #[.int .i64 c,.int .i64 p]) (by simp[results,results29,go_sem]) rfl ⟨rfl,?_⟩;exact b1.trans ((a0J w1 nq).mono b1.size)
theorem b8m (q1 q2:Nat) (c p a b:Int) (w:World) (hg:w.cell? ⟨0,0,none⟩=some (.iface 135 (.agg #[.pointer (some ⟨4,83,none⟩)]))) (h1:w.cell? ⟨q1,0,none⟩=some (.int .i64 a)) (h2:w.cell? ⟨q2,0,none⟩=some (.int .i64 b)) (f1:w.frozen? ⟨q1,0,none⟩=false) (f2:w.frozen? ⟨q2,0,none⟩=false) (hne:q1≠q2) :
    CallsD prog 28 #[.pointer (some ⟨q1,0,none⟩),.pointer (some ⟨q2,0,none⟩)] (.panicking [{ v:=.iface 60 (.agg #[.int .i64 c,.int .i64 p]),recovered:=false }]) w fun e u' w'=>
 e=.returned (.tuple #[])/\u'=.panicking [{ v:=.iface 60 (.agg #[.int .i64 c,.int .i64 p]),recovered:=true }]/\∃ w1,Below w.heap.size w w1/\w'=(w1.setCell ⟨q1,0,none⟩ (.int .i64 c)).setCell ⟨q2,0,none⟩ (.int .i64 p):=by
 refine callsD_of_wpS func28 rfl fun c₀ cs hu=>?_;apply wpS_seq;apply wpS_region;simp[wpOpsS,go_sem,recoverD,hu,ntmps28,Exit.thenS]
 have hneq:∀ (v:Value) (w:World),(binOp BinOp.neq 20 (.iface 60 v) .nilIface).run prog w=.ok (.bool true) w:=fun v w=>by kernel_rfl
 have FO:=b4F c p w hg;change Code.wpS _ _ _ { tmps:=#[.pointer (some ⟨q1,0,none⟩),.pointer (some ⟨q2,0,none⟩),.iface 60 (.agg #[.int .i64 c,.int .i64 p]),.iface 60 (.agg #[.int .i64 c,.int .i64 p]),undef,undef,undef,undef,undef,undef,undef],defers:=[] } _ _;refine wpS_of_wp ?_;go_wp2_with fail;refine FO.mono ?_;rintro e w1 ⟨rfl,b1⟩
 have l1:q1<w.heap.size:=by
  rcases Nat.lt_or_ge q1 w.heap.size with h | h
  .exact h
  simp[World.cell?,Array.getElem?_eq_none h] at h1
 have l2:q2<w.heap.size:=by
  rcases Nat.lt_or_ge q2 w.heap.size with h | h
  .exact h
  simp[World.cell?,Array.getElem?_eq_none h] at h2
 have c1:=(b1.cell (p:=⟨q1,0,none⟩) l1).trans h1;have c2:=(b1.cell (p:=⟨q2,0,none⟩) l2).trans h2;have g1:=(b1.frozen (p:=⟨q1,0,none⟩) l1).trans f1;have g2:=(b1.frozen (p:=⟨q2,0,none⟩) l2).trans f2;have hne':=Ne.symm hne;clear h1 h2 f1 f2 hg FO;go_wp2;simp[bodyPostS,results,results28];exact⟨w1,b1,rfl⟩
theorem b9t (q1 q2:Nat) (w:World) :
 CallsD prog 28 #[.pointer (some ⟨q1,0,none⟩),.pointer (some ⟨q2,0,none⟩)] .returning w fun e u' w'=>e=.returned (.tuple #[])/\u'=.returning/\w'=w:=by
 refine callsD_of_wpS func28 rfl fun c₀ cs hu=>?_;apply wpS_seq;apply wpS_region;simp[wpOpsS,go_sem,recoverD,hu,ntmps28,Exit.thenS]
 have hneq:∀ (w:World),(binOp BinOp.neq 20 .nilIface .nilIface).run prog w=.ok (.bool false) w:=fun w=>by kernel_rfl
 change Code.wpS _ _ _ { tmps:=#[.pointer (some ⟨q1,0,none⟩),.pointer (some ⟨q2,0,none⟩),.nilIface,.nilIface,undef,undef,undef,undef,undef,undef,undef],defers:=[] } _ _;refine wpS_of_wp ?_;go_wp2;cases c₀;simp_all [bodyPostS,results,results28]
end Go.Proofs.YtphmpkpcamgjeaaGreatDoor
