import Derived.Test.YtphmpkpcamgjeaaGreatDoorXAA
import Derived.Test.YtphmpkpcamgjeaaGreatDoorXBR
import Derived.Deep.Heap
import Derived.Test.YtphmpkpcamgjeaaGreatDoorXBM
import Derived.Deep.RegionHeld
set_option linter.unusedVariables false
set_option linter.unusedSimpArgs false
set_option maxRecDepth 100000
set_option maxHeartbeats 16000000
namespace Go.Proofs.YtphmpkpcamgjeaaGreatDoor
section
variable {V : Env} {E Q : M Int}
theorem a7R {q:Nat} {o:List Nd} {t:Nd} (g:GN q o) (h1:t.kids.length<=q+5) (h2:In o.length t.kids):OKR q o.length Nm (lay t q o):=OKR.lay g (Nat.le_refl _) (Nat.le_refl _) h1 h2
abbrev KH (c:Nat) (F:List Int->M Int):Prop:=∀ ks p o,GN p o->In o.length ks->ks.length<=c->OKR p o.length Nm (F ks p o)
theorem b4o (hE:KI E) (s:ByteArray) (op:Int) (ks:List Int) (c:Nat):∀ p o,GN p o->In o.length ks->ks.length<=c->OKR p o.length (fun aS q m=>aS.length<=c+1/\In m aS) (a2b V E s op ks p o):=fun p o g h1 h2=>by
 unfold a2b;refine OKR.ite (fun _=>?_) (fun _=>?_)
 .refine OKR.bind (hE _ _ (g.mono (Nat.le_add_right p 1))) ?_;intro a2 q2 o2 g2 p2 n2 A2;refine OKR.bind (a7R g2 (by simp) (by simp[In];omega)) ?_;intro a3 q3 o3 g3 p3 n3 A3;exact⟨g3,by omega,by omega,by simp;omega,(h1.mono (by omega)).snoc A3.1 A3.2⟩
 exact⟨g,by omega,by omega,by omega,h1⟩
theorem b6G (hE:KI E) (d ps:Int):KH 4 (sel5 V E d ps):=fun ks p o g h1 h2=>by
 unfold sel5;refine OKR.bind (b4o hE _ _ ks 4 _ _ g h1 h2) ?_;intro a1 q1 o1 g1 p1 n1 A1;exact OKR.lay g1 p1 n1 (by have:=A1.1;simp;omega) A1.2
theorem b9l (hE:KI E) (hg:Gro 999 E) (d ps:Int):KH 3 (sel4 V E d ps):=fun ks p o g h1 h2=>by
 unfold sel4;refine OKR.ite (fun _=>?_) (fun _=>?_)
 .refine OKR.bind (a0H _ _ _ (g.mono (Nat.le_add_right p 1))) ?_;intro a1 q1 o1 g1 p1 n1 A1;refine OKR.bind (a3o hE hg _ _ g1) ?_;intro a2 q2 o2 g2 p2 n2 A2;refine OKR.bind (a7R g2 (by have:=A2.1;simp;omega) A2.2) ?_;intro a3 q3 o3 g3 p3 n3 A3
  refine OKR.mono (b6G hE d ps _ _ _ g3 ((h1.mono (by omega)).snoc A3.1 A3.2) (by simp;omega)) ?_ ?_ (fun _ _ _ _ _ h=>h)<;>omega
 exact b6G hE d ps _ _ _ g h1 (by omega)
theorem b6H (hE:KI E) (hg:Gro 999 E) (d ps:Int):KH 2 (sel3 V E d ps):=fun ks p o g h1 h2=>by
 unfold sel3;refine OKR.bind (b4o hE _ _ ks 2 _ _ g h1 h2) ?_;intro a1 q1 o1 g1 p1 n1 A1;exact(b9l hE hg d ps _ _ _ g1 A1.2 A1.1).mono p1 n1 (fun _ _ _ _ _ h=>h)
theorem b9m (hE:KI E) (hg:Gro 999 E) (hQ:KI Q) (hh:Gro 900 Q) (d ps:Int):KH 1 (sel2 V E Q d ps):=fun ks p o g h1 h2=>by
 unfold sel2;refine OKR.ite (fun _=>?_) (fun _=>?_)
 .refine OKR.bind (a3o (b8e hE hQ) (a4n hg hh) _ _ (g.mono (Nat.le_add_right p 1))) ?_;intro a2 q2 o2 g2 p2 n2 A2;refine OKR.bind (a7R g2 (by have:=A2.1;simp;omega) A2.2) ?_;intro a3 q3 o3 g3 p3 n3 A3
  refine OKR.mono (b6H hE hg d ps _ _ _ g3 ((h1.mono (by omega)).snoc A3.1 A3.2) (by simp;omega)) ?_ ?_ (fun _ _ _ _ _ h=>h)<;>omega
 exact b6H hE hg d ps _ _ _ g h1 (by omega)
theorem b9n (hE:KI E) (hg:Gro 999 E) (hQ:KI Q) (hh:Gro 900 Q):KI (selF V E Q):=fun p o g=>by
 unfold selF sel1;refine OKR.bind (a0H _ _ _ g) ?_;intro a1 q1 o1 g1 p1 n1 A1;refine OKR.bind (a3o (b8c hE) (a3A hg) _ _ (g1.mono (Nat.le_add_right q1 (stp (sees V q1 a0m))))) ?_;intro a2 q2 o2 g2 p2 n2 A2;refine OKR.bind (a7R g2 (by have:=A2.1;simp;omega) A2.2) ?_;intro a3 q3 o3 g3 p3 n3 A3
 refine OKR.mono (b9m hE hg hQ hh _ _ _ _ _ g3 (In.snoc (ks:=[]) In.nil A3.1 A3.2) (by simp)) ?_ ?_ (fun _ _ _ _ _ h=>h)<;>omega
theorem b4p (hE:KI E) (hg:Gro 999 E) (hQ:KI Q) (hh:Gro 900 Q):KI (a2I V E Q):=fun p o g=>by
 unfold a2I;refine OKR.ite (fun _=>?_) (fun _=>?_)
 .exact b2E hQ _ _ g
 exact b9n hE hg hQ hh _ _ g
theorem b4q (hE:KI E) (hg:Gro 999 E) (hQ:KI Q) (hh:Gro 900 Q):∀ k l,∀ p o,GN p o->0<=l->l<(o.length:Int)->OKR p o.length Nm (bodyL V E Q k l p o)
 | 0,l=>fun p o g h1 h2=>trivial
 | k+1,l=>fun p o g h1 h2=>by
  unfold bodyL;split
  .exact⟨g,by omega,by omega,h1,h2⟩
  refine OKR.bind (b4p hE hg hQ hh _ _ (g.mono (Nat.le_trans (Nat.le_add_right p 1) (Nat.le_add_right _ (stp (sees V (p+1) a4c)))))) ?_;intro a q o' g' hp hn ha;exact(b4q hE hg hQ hh k _ q _ (g'.push (by simp) (by simp[In];omega)) (by omega) (by simp;omega)).mono (by omega) (by simp;omega) (fun _ _ _ _ _ h=>h)
theorem b8f (hE:KI E) (hg:Gro 999 E) (hQ:KI Q) (hh:Gro 900 Q):KI (bodyF V E Q):=fun p o g=>by
 unfold bodyF;refine OKR.bind (b4p hE hg hQ hh _ _ g) ?_;intro a2 q2 o2 g2 p2 n2 A2;exact(b4q hE hg hQ hh _ _ _ _ g2 A2.1 A2.2).mono p2 n2 (fun _ _ _ _ _ h=>h)
theorem b6I (k d ps:Int):∀ p o,GN p o->0<=k->k<(o.length:Int)->OKR p o.length Nm (keyE V k d ps p o):=fun p o g h1 h2=>by
 unfold keyE;refine OKR.ite (fun _=>?_) (fun _=>?_)
 .refine OKR.ite (fun _=>?_) (fun _=>?_)
  .exact OKR.lay (g.mono (by omega)) (by omega) (by omega) (by simp) (by simp[In];omega)
  refine OKR.bind (a0H _ _ _ (g.mono (Nat.le_add_right p 1))) ?_;intro a2 q2 o2 g2 p2 n2 A2;exact OKR.lay g2 (by omega) (by omega) (by simp) (by simp[In];omega)
 exact OKR.lay g (by omega) (by omega) (by simp) (by simp[In];omega)
theorem b9o (hE:KI E):KI (keyF V E):=fun p o g=>by
 unfold keyF;refine OKR.bind (hE _ _ g) ?_;intro a q o' g' hp hn ha;refine OKR.ite (fun _=>?_) (fun _=>?_)
 .exact(b6I _ _ _ _ _ (g'.mono (Nat.le_add_right q 1)) ha.1 ha.2).mono (by omega) hn (fun _ _ _ _ _ h=>h)
 exact(b6I _ _ _ _ _ (g'.mono (Nat.le_add_right q (stp (sees V q b3h)))) ha.1 ha.2).mono (by omega) hn (fun _ _ _ _ _ h=>h)
theorem b6J (s:ByteArray):KT (numF V s):=fun p o g=>by
 unfold numF a0X;refine OKR.ite (fun _=>?_) (fun _=>?_)
 .refine OKR.ite (fun _=>?_) (fun _=>?_)
  .exact⟨g.mono (by omega),by omega,by omega,trivial⟩
  trivial
 exact⟨g,by omega,by omega,trivial⟩
theorem b6K (ps:Int):KH 2 (qry3 V ps):=fun ks p o g h1 h2=>by
 unfold qry3 qry4;refine OKR.bind (b6J _ _ _ g) ?_;intro a1 q1 o1 g1 p1 n1 A1;refine OKR.bind (b6J _ _ _ g1) ?_;intro a2 q2 o2 g2 p2 n2 A2;refine OKR.ite (fun _=>?_) (fun _=>?_)
 .refine OKR.bind (a7R g2 (by simp) (by simp[In])) ?_;intro a3 q3 o3 g3 p3 n3 A3;exact OKR.lay g3 (by omega) (by omega) (by simp;omega) ((h1.mono (by omega)).snoc A3.1 A3.2)
 exact OKR.lay g2 (by omega) (by omega) (by simp;omega) (h1.mono (by omega))
theorem b1p (hE:KI E) (hg:Gro 999 E) (hQ:KI Q) (hh:Gro 900 Q):KI (a2M V E Q):=fun p o g=>by
 unfold a2M qry2;refine OKR.bind (b8f hE hg hQ hh _ _ g) ?_;intro a1 q1 o1 g1 p1 n1 A1;have i1:In o1.length [a1]:=In.snoc (ks:=[]) In.nil A1.1 A1.2;refine OKR.ite (fun _=>?_) (fun _=>?_)
 .refine OKR.bind (a0H _ _ _ (g1.mono (Nat.le_add_right q1 1))) ?_;intro a2 q2 o2 g2 p2 n2 A2;refine OKR.bind (a3o (b9o hE) (a4p hg) _ _ g2) ?_;intro a3 q3 o3 g3 p3 n3 A3;refine OKR.bind (a7R g3 (by have:=A3.1;simp;omega) A3.2) ?_;intro a4 q4 o4 g4 p4 n4 A4
  refine OKR.mono (b6K _ _ _ _ g4 ((i1.mono (by omega)).snoc A4.1 A4.2) (by simp)) ?_ ?_ (fun _ _ _ _ _ h=>h)<;>omega
 exact(b6K _ _ _ _ g1 i1 (by simp)).mono p1 n1 (fun _ _ _ _ _ h=>h)
theorem a5J:KI a5S:=fun p o g=>trivial
theorem gr_k:∀ n,KI (gr V n).1/\KI (gr V n).2
 | 0=>⟨a6X a5J a1k a5J,b1p (a6X a5J a1k a5J) (a2E a1k a1k) a5J a1k⟩
 | n+1=>by
  obtain⟨h1,h2⟩:=gr_k n;obtain⟨g1,g2⟩:=a5A (V:=V) n;exact⟨a6X h1 g1 h2,b1p (a6X h1 g1 h2) (a2E g1 g2) h2 g2⟩
theorem a6Y:KI (a0R V):=fun p o g=>by
 unfold a0R;refine OKR.bind (a2r _ _ (GN.mono (by assumption) (by omega))) ?_;intro a1 q1 o1 g1 p1 n1 A1;exact okly
theorem b1q (hE:KI E):KI (a1y V E):=fun p o g=>by
 unfold a1y
 first | refine OKR.ite (fun _=>?_) (fun _=>?_) | split
 .exact okly
 exact(hE _ _ (GN.mono (by assumption) (by omega))).mono (by omega) (by omega) (fun _ _ _ _ _ h=>h)
theorem b9p (hE:KI E) (hg:Gro 999 E):KI (rowF V E):=fun p o g=>by
 unfold rowF;refine OKR.bind (a5I (b1q hE) (a2x hg) _ _ (GN.mono (by assumption) (by omega))) ?_;intro a2 q2 o2 g2 p2 n2 A2;obtain⟨B2,C2⟩:=A2;exact OKR.lay (by assumption) (by omega) (by omega) (by simp;omega) (In.mono (by assumption) (by omega))
theorem b9q (hE:KI E):KI (setF V E):=fun p o g=>by
 unfold setF;refine OKR.bind (a2r _ _ (GN.mono (by assumption) (by omega))) ?_;intro a3 q3 o3 g3 p3 n3 A3;refine OKR.bind (a0H _ _ _ (GN.mono (by assumption) (by omega))) ?_;intro a4 q4 o4 g4 p4 n4 A4;refine OKR.bind (b1q hE _ _ (GN.mono (by assumption) (by omega))) ?_;intro a5 q5 o5 g5 p5 n5 A5;exact okly
theorem b1r (hE:KI E) (ps:Int):KI (a3r V E ps):=fun p o g=>by
 unfold a3r;refine OKR.bind (b2E hE _ _ (GN.mono (by assumption) (by omega))) ?_;intro a6 q6 o6 g6 p6 n6 A6;exact okly
theorem b1s (op ps:Int):KI (a4O V op ps):=fun p o g=>by
 unfold a4O;refine OKR.bind (a5I a6Y a0O _ _ (GN.mono (by assumption) (by omega))) ?_;intro a7 q7 o7 g7 p7 n7 A7;obtain⟨B7,C7⟩:=A7;exact OKR.lay (by assumption) (by omega) (by omega) (by simp;omega) (In.mono (by assumption) (by omega))
theorem b6L (hE:KI E) (hg:Gro 999 E) (hQ:KI Q) (ps:Int) (s:ByteArray):KH 1 (ins2 V E Q ps s):=fun ks p o g h1 h2=>by
 unfold ins2;refine OKR.ite (fun _=>?_) (fun _=>?_)
 .refine OKR.bind (a3o (b9p hE hg) (a2f hg) _ _ (g.mono (Nat.le_add_right p 1))) ?_;intro a2 q2 o2 g2 p2 n2 A2;refine OKR.bind (a7R g2 (by have:=A2.1;simp;omega) A2.2) ?_;intro a3 q3 o3 g3 p3 n3 A3;exact OKR.lay g3 (by omega) (by omega) (by simp;omega) ((h1.mono (by omega)).snoc A3.1 A3.2)
 refine OKR.bind (hQ _ _ g) ?_;intro a3 q3 o3 g3 p3 n3 A3;exact OKR.lay g3 (by omega) (by omega) (by simp;omega) ((h1.mono (by omega)).snoc A3.1 A3.2)
theorem b4r (hE:KI E) (hg:Gro 999 E) (hQ:KI Q) (ps:Int):KI (a2S V E Q ps):=fun p o g=>by
 unfold a2S;refine OKR.bind (a0H _ _ _ g) ?_;intro a1 q1 o1 g1 p1 n1 A1;refine OKR.bind (a2r _ _ g1) ?_;intro a2 q2 o2 g2 p2 n2 A2;refine OKR.ite (fun _=>?_) (fun _=>?_)
 .refine OKR.bind (a5I a6Y a0O _ _ g2) ?_;intro a3 q3 o3 g3 p3 n3 A3;refine OKR.bind (a7R g3 (by have:=A3.1;simp;omega) A3.2) ?_;intro a4 q4 o4 g4 p4 n4 A4
  refine OKR.mono (b6L hE hg hQ ps _ _ _ _ g4 (In.snoc (ks:=[]) In.nil A4.1 A4.2) (by simp)) ?_ ?_ (fun _ _ _ _ _ h=>h)<;>omega
 refine OKR.mono (b6L hE hg hQ ps _ _ _ _ g2 In.nil (by simp)) ?_ ?_ (fun _ _ _ _ _ h=>h)<;>omega
theorem b4s (hE:KI E) (hg:Gro 999 E) (ps:Int):KI (a2T V E ps):=fun p o g=>by
 unfold a2T;refine OKR.bind (a2r _ _ g) ?_;intro a1 q1 o1 g1 p1 n1 A1;refine OKR.bind (a0H _ _ _ g1) ?_;intro a2 q2 o2 g2 p2 n2 A2;refine OKR.bind (a3o (b9q hE) (a5g hg) _ _ g2) ?_;intro a3 q3 o3 g3 p3 n3 A3;refine OKR.bind (b4n hE _ _ a3 0 _ _ g3 A3.2 (by have:=A3.1;omega)) ?_;intro a4 q4 o4 g4 p4 n4 A4;exact OKR.lay g4 (by omega) (by omega) (by have:=A4.1;simp;omega) A4.2
theorem b4t (hE:KI E) (ps:Int):KI (a3v V E ps):=fun p o g=>by
 unfold a3v;refine OKR.bind (a0H _ _ _ g) ?_;intro a1 q1 o1 g1 p1 n1 A1;refine OKR.bind (a2r _ _ g1) ?_;intro a2 q2 o2 g2 p2 n2 A2;refine OKR.bind (b4n hE _ _ [] 0 _ _ g2 In.nil (by simp)) ?_;intro a4 q4 o4 g4 p4 n4 A4;exact OKR.lay g4 (by omega) (by omega) (by have:=A4.1;simp;omega) A4.2
theorem a6r {G:M Int} (hE:KI E) (hG:KI G) (hg:Gro 999 G) (s:ByteArray) (kd ps:Int):∀ k a b c (ks:List Int),∀ p o,GN p o->In o.length ks->ks.length<=p->OKR p o.length Nm (colL V E G s kd ps k a b c ks p o)
 | 0,a,b,c,ks=>fun p o g h1 h2=>trivial
 | k+1,a,b,c,ks=>fun p o g h1 h2=>by
  unfold colL;refine OKR.ite (fun _=>?_) (fun _=>?_)
  .refine OKR.bind (a0H _ _ _ (g.mono (Nat.le_add_right p 1))) ?_;intro a1 q1 o1 g1 p1 n1 A1;exact(a6r hE hG hg s kd ps k _ _ _ _ _ _ g1 (h1.mono n1) (by omega)).mono (by omega) n1 (fun _ _ _ _ _ h=>h)
  refine OKR.ite (fun _=>?_) (fun _=>?_)
  .refine OKR.bind (a0H _ _ _ (g.mono (Nat.le_add_right p 1))) ?_;intro a1 q1 o1 g1 p1 n1 A1;exact(a6r hE hG hg s kd ps k _ _ _ _ _ _ g1 (h1.mono n1) (by omega)).mono (by omega) n1 (fun _ _ _ _ _ h=>h)
  refine OKR.ite (fun _=>?_) (fun _=>?_)
  .exact(a6r hE hG hg s kd ps k _ _ _ _ _ _ (g.mono (Nat.le_add_right p 1)) h1 (by omega)).mono (by omega) (Nat.le_refl _) (fun _ _ _ _ _ h=>h)
  refine OKR.ite (fun _=>?_) (fun _=>?_)
  .refine OKR.bind (hG _ _ (g.mono (Nat.le_add_right p 1))) ?_;intro a1 q1 o1 g1 p1 n1 A1;exact(a6r hE hG hg s kd ps k _ _ _ _ _ _ (g1.push (by simp) (by simp[In];omega)) (In.snoc (h1.mono (by simp;omega)) (by omega) (by simp;omega)) (by simp;omega)).mono (by omega) (by simp;omega) (fun _ _ _ _ _ h=>h)
  refine OKR.ite (fun _=>?_) (fun _=>?_)
  .refine OKR.bind (b1r hE _ _ _ (g.mono (Nat.le_add_right p 1))) ?_;intro a1 q1 o1 g1 p1 n1 A1;exact(a6r hE hG hg s kd ps k _ _ _ _ _ _ g1 ((h1.mono n1).snoc A1.1 A1.2) (by simp;omega)).mono (by omega) n1 (fun _ _ _ _ _ h=>h)
  exact OKR.lay g (by omega) (by omega) (by simp;omega) h1
theorem b8g {G:M Int} (hE:KI E) (hG:KI G) (hg:Gro 999 G):KI (a2u V E G):=fun p o g=>by
 unfold a2u;refine OKR.ite (fun _=>?_) (fun _=>?_)
 .refine OKR.bind (a0H _ _ _ (g.mono (Nat.le_add_right p 1))) ?_;intro a1 q1 o1 g1 p1 n1 A1;exact(b1s _ _ _ _ g1).mono (by omega) n1 (fun _ _ _ _ _ h=>h)
 refine OKR.ite (fun _=>?_) (fun _=>?_)
 .exact(b1s _ _ _ _ (g.mono (Nat.le_add_right p 1))).mono (by omega) (Nat.le_refl _) (fun _ _ _ _ _ h=>h)
 refine OKR.ite (fun _=>?_) (fun _=>?_)
 .exact(b1r hE _ _ _ (g.mono (Nat.le_add_right p 1))).mono (by omega) (Nat.le_refl _) (fun _ _ _ _ _ h=>h)
 refine OKR.bind (a2r _ _ g) ?_;intro a1 q1 o1 g1 p1 n1 A1;refine OKR.bind (b4m _ _ g1) ?_;intro a2 q2 o2 g2 p2 n2 A2;exact(a6r hE hG hg _ _ _ _ _ _ _ _ _ _ g2 In.nil (by simp)).mono (by omega) (by omega) (fun _ _ _ _ _ h=>h)
theorem b4u {G:M Int} (hE:KI E) (hG:KI G) (he:Gro 999 E) (hg:Gro 999 G) (ps:Int):KI (a2U V E G ps):=fun p o g=>by
 unfold a2U
 first | refine OKR.ite (fun _=>?_) (fun _=>?_) | split
 .refine OKR.bind (a2r _ _ (GN.mono (by assumption) (by omega))) ?_;intro a8 q8 o8 g8 p8 n8 A8;refine OKR.bind (a5I (b8g hE hG hg) (a4q he hg) _ _ (GN.mono (by assumption) (by omega))) ?_;intro a9 q9 o9 g9 p9 n9 A9;obtain⟨B9,C9⟩:=A9;exact OKR.lay (by assumption) (by omega) (by omega) (by simp;omega) (In.mono (by assumption) (by omega))
 have st:=a5z (sees V p a0W);refine OKR.bind (a0H _ _ _ (GN.mono (by assumption) (by omega))) ?_;intro a1 a2 a3 a4 a5 a6 a7;refine OKR.bind (a2r _ _ (GN.mono (by assumption) (by omega))) ?_;intro b0 b1 b2 b3 b4 b5 b6;refine OKR.bind (a0H _ _ _ (GN.mono (by assumption) (by omega))) ?_;intro b7 b8 b9 c0 c1 c2 c3;refine OKR.bind (a2r _ _ (GN.mono (by assumption) (by omega))) ?_;intro c4 c5 c6 c7 c8 c9 d0;refine OKR.bind (a5I a6Y a0O _ _ (GN.mono (by assumption) (by omega))) ?_;intro d1 d2 d3 d4 d5 d6 a0;obtain⟨d7,d8⟩:=a0;exact OKR.lay (by assumption) (by omega) (by omega) (by simp;omega) (In.mono (by assumption) (by omega))
theorem b4v (op ps:Int):KI (nmF V op ps):=fun p o g=>by
 unfold nmF;refine OKR.bind (a2r _ _ (GN.mono (by assumption) (by omega))) ?_;intro a0 a1 a2 a3 a4 a5 a6;exact okly
theorem b8h (ps:Int):KI (b3j V ps):=fun p o g=>by
 unfold b3j
 first | refine OKR.ite (fun _=>?_) (fun _=>?_) | split
 .exact(b4v _ _ _ _ (GN.mono (by assumption) (by omega))).mono (by omega) (by omega) (fun _ _ _ _ _ h=>h)
 refine OKR.bind (a0H _ _ _ (GN.mono (by assumption) (by omega))) ?_;intro a0 a1 a2 a3 a4 a5 a6;exact(b4v _ _ _ _ (GN.mono (by assumption) (by omega))).mono (by omega) (by omega) (fun _ _ _ _ _ h=>h)
theorem b5W (ps:Int):KI (a4f V ps):=fun p o g=>by
 unfold a4f
 first | refine OKR.ite (fun _=>?_) (fun _=>?_) | split
 .exact okly
 exact okly
theorem b8i (ps:Int):KI (a8q V ps):=fun p o g=>by
 unfold a8q
 first | refine OKR.ite (fun _=>?_) (fun _=>?_) | split
 .exact(b4v _ _ _ _ (GN.mono (by assumption) (by omega))).mono (by omega) (by omega) (fun _ _ _ _ _ h=>h)
 exact okly
theorem b9r {G:M Int} (hE:KI E) (he:Gro 999 E) (hQ:KI Q) (hh:Gro 900 Q) (hG:KI G) (hg:Gro 999 G):KI (stmF V E Q G):=fun p o g=>by
 unfold stmF
 first | refine OKR.ite (fun _=>?_) (fun _=>?_) | split
 .exact(b4r hE he hQ _ _ _ (GN.mono (by assumption) (by omega))).mono (by omega) (by omega) (fun _ _ _ _ _ h=>h)
 first | refine OKR.ite (fun _=>?_) (fun _=>?_) | split
 .exact(b4s hE he _ _ _ (GN.mono (by assumption) (by omega))).mono (by omega) (by omega) (fun _ _ _ _ _ h=>h)
 first | refine OKR.ite (fun _=>?_) (fun _=>?_) | split
 .exact(b4t hE _ _ _ (GN.mono (by assumption) (by omega))).mono (by omega) (by omega) (fun _ _ _ _ _ h=>h)
 first | refine OKR.ite (fun _=>?_) (fun _=>?_) | split
 .exact(b4u hE hG he hg _ _ _ (GN.mono (by assumption) (by omega))).mono (by omega) (by omega) (fun _ _ _ _ _ h=>h)
 first | refine OKR.ite (fun _=>?_) (fun _=>?_) | split
 .exact(b8h _ _ _ (GN.mono (by assumption) (by omega))).mono (by omega) (by omega) (fun _ _ _ _ _ h=>h)
 first | refine OKR.ite (fun _=>?_) (fun _=>?_) | split
 .exact(b5W _ _ _ (GN.mono (by assumption) (by omega))).mono (by omega) (by omega) (fun _ _ _ _ _ h=>h)
 first | refine OKR.ite (fun _=>?_) (fun _=>?_) | split
 .exact okly
 first | refine OKR.ite (fun _=>?_) (fun _=>?_) | split
 .exact(b8i _ _ _ (GN.mono (by assumption) (by omega))).mono (by omega) (by omega) (fun _ _ _ _ _ h=>h)
 first | refine OKR.ite (fun _=>?_) (fun _=>?_) | split
 .exact(b4v _ _ _ _ (GN.mono (by assumption) (by omega))).mono (by omega) (by omega) (fun _ _ _ _ _ h=>h)
 first | refine OKR.ite (fun _=>?_) (fun _=>?_) | split
 .exact(b4v _ _ _ _ (GN.mono (by assumption) (by omega))).mono (by omega) (by omega) (fun _ _ _ _ _ h=>h)
 first | refine OKR.ite (fun _=>?_) (fun _=>?_) | split
 .refine OKR.bind (hQ _ _ (GN.mono (by assumption) (by omega))) ?_;intro a0 a1 a2 a3 a4 a5 a6;exact okly
 first | refine OKR.ite (fun _=>?_) (fun _=>?_) | split
 .exact okly
 exact(hQ _ _ (GN.mono (by assumption) (by omega))).mono (by omega) (by omega) (fun _ _ _ _ _ h=>h)
end
end Go.Proofs.YtphmpkpcamgjeaaGreatDoor
namespace Go.Proofs.YtphmpkpcamgjeaaGreatDoor
section
variable {V : Env} {E Q G : M Int}
theorem b1t (hE:Gro 999 E) (hQ:Gro 900 Q) (ps:Int) (s:ByteArray) (ks:List Int):Gr0 2 (ins2 V E Q ps s ks):=fun p o a q o' h=>by
 unfold ins2 at h;simp only[a0o,R.bind_iff,a0y] at h;rcases h with⟨_,b,s1,u,h1,_,_,_,⟨rfl,rfl,rfl⟩,rfl,rfl,rfl⟩ | ⟨_,b,s1,u,h1,rfl,rfl,rfl⟩
 .have:=a0D (a2f hE) (by omega) _ _ _ _ _ h1;simp;omega
 have:=hQ _ _ _ _ _ h1;simp;omega
theorem b0u (hE:Gro 999 E) (hQ:Gro 900 Q) (ps:Int):Gr0 3 (a2S V E Q ps):=fun p o a q o' h=>by
 unfold a2S at h;simp only[a0o,R.bind_iff,a0y,a0E,a1R] at h;obtain⟨_,_,_,⟨_,rfl,rfl⟩,_,_,_,⟨_,rfl,rfl,rfl⟩,h⟩:=h;rcases h with⟨_,b,s1,u,h1,_,_,_,⟨rfl,rfl,rfl⟩,h2⟩ | ⟨_,h2⟩
 .have:=a1d a0O (by omega) _ _ _ _ _ h1;have:=b1t hE hQ _ _ _ _ _ _ _ _ h2;simp at this;omega
 have:=b1t hE hQ _ _ _ _ _ _ _ _ h2;omega
theorem b0v (hE:Gro 999 E) (ps:Int):Gr0 3 (a2T V E ps):=fun p o a q o' h=>by
 unfold a2T at h;simp only[R.bind_iff,a0y,a0E,a1R] at h;obtain⟨_,_,_,⟨_,rfl,rfl,rfl⟩,_,_,_,⟨_,rfl,rfl⟩,b,s1,u,h1,b2,s2,u2,h2,rfl,rfl,rfl⟩:=h;have:=a0D (a5g hE) (by omega) _ _ _ _ _ h1;have:=a1j hE _ _ _ _ _ _ _ _ h2;simp;omega
theorem b0w (hE:Gro 999 E) (ps:Int):Gr0 3 (a3v V E ps):=fun p o a q o' h=>by
 unfold a3v at h;simp only[R.bind_iff,a0y,a0E,a1R] at h;obtain⟨_,_,_,⟨_,rfl,rfl⟩,_,_,_,⟨_,rfl,rfl,rfl⟩,b2,s2,u2,h2,rfl,rfl,rfl⟩:=h;have:=a1j hE _ _ _ _ _ _ _ _ h2;simp;omega
theorem b0x (hE:Gro 999 E) (hG:Gro 999 G) (ps:Int):Gr0 3 (a2U V E G ps):=fun p o a q o' h=>by
 unfold a2U at h;simp only[a0o,R.bind_iff,a0y,a0E,a1R] at h;have:=a5z (sees V p a0W);rcases h with⟨_,_,_,_,⟨_,rfl,rfl,rfl⟩,b,s1,u,h1,rfl,rfl,rfl⟩ | ⟨_,_,_,_,⟨_,rfl,rfl⟩,_,_,_,⟨_,rfl,rfl,rfl⟩,_,_,_,⟨_,rfl,rfl⟩,_,_,_,⟨_,rfl,rfl,rfl⟩,b,s1,u,h1,rfl,rfl,rfl⟩
 .have:=a1d (a4q hE hG) (by omega) _ _ _ _ _ h1;simp;omega
 have:=a1d a0O (by omega) _ _ _ _ _ h1;simp;omega
theorem a5K (op ps:Int):Gr0 3 (nmF V op ps):=fun p o a q o' h=>by
 unfold nmF at h;simp only[R.bind_iff,a0y,a1R] at h;obtain⟨_,_,_,⟨_,rfl,rfl,rfl⟩,rfl,rfl,rfl⟩:=h;simp;try omega
theorem b5X (hE:Gro 999 E) (hQ:Gro 900 Q) (hG:Gro 999 G):Gr0 3 (stmF V E Q G):=fun p o a q o' h=>by
 unfold stmF at h
 have up:∀ {F:M Int},Gr0 3 F->F (p+1) o=.ok a q o'->p<=q/\o'.length<=o.length+1000*(q-p)+3:=fun hF hh=>by
  have:=hF _ _ _ _ _ hh;omega
 have ly:∀ {t:Nd},lay t (p+1) o=.ok a q o'->p<=q/\o'.length<=o.length+1000*(q-p)+3:=fun hh=>by
  rw[a0y] at hh;obtain⟨rfl,rfl,rfl⟩:=hh;simp
  try omega
 rcases a0o.1 h with⟨_,h⟩ | ⟨_,h⟩
 .exact up (b0u hE hQ _) h
 rcases a0o.1 h with⟨_,h⟩ | ⟨_,h⟩
 .exact up (b0v hE _) h
 rcases a0o.1 h with⟨_,h⟩ | ⟨_,h⟩
 .exact up (b0w hE _) h
 rcases a0o.1 h with⟨_,h⟩ | ⟨_,h⟩
 .exact up (b0x hE hG _) h
 rcases a0o.1 h with⟨_,h⟩ | ⟨_,h⟩
 .unfold b3j at h;rcases a0o.1 h with⟨_,h⟩ | ⟨_,h⟩
  .have:=a5K _ _ _ _ _ _ _ h;omega
  simp only[R.bind_iff,a0E] at h;obtain⟨_,_,_,⟨_,rfl,rfl⟩,h2⟩:=h;have:=a5K _ _ _ _ _ _ _ h2;omega
 rcases a0o.1 h with⟨_,h⟩ | ⟨_,h⟩
 .unfold a4f at h;split at h
  .rw[a0y] at h;obtain⟨rfl,rfl,rfl⟩:=h;simp;try omega
  exact ly h
 rcases a0o.1 h with⟨_,h⟩ | ⟨_,h⟩
 .exact ly h
 rcases a0o.1 h with⟨_,h⟩ | ⟨_,h⟩
 .unfold a8q at h;rcases a0o.1 h with⟨_,h⟩ | ⟨_,h⟩
  .have:=a5K _ _ _ _ _ _ _ h;omega
  exact ly h
 rcases a0o.1 h with⟨_,h⟩ | ⟨_,h⟩
 .exact up (a5K _ _) h
 rcases a0o.1 h with⟨_,h⟩ | ⟨_,h⟩
 .exact up (a5K _ _) h
 rcases a0o.1 h with⟨_,h⟩ | ⟨_,h⟩
 .simp only[R.bind_iff,a0y] at h;obtain⟨b,s1,u,h1,rfl,rfl,rfl⟩:=h;have:=hQ _ _ _ _ _ h1;simp;omega
 rcases a0o.1 h with⟨_,h⟩ | ⟨_,h⟩
 .exact ly h
 have:=hQ _ _ _ _ _ h;omega
end
end Go.Proofs.YtphmpkpcamgjeaaGreatDoor
namespace Go.Proofs.YtphmpkpcamgjeaaGreatDoor
open Go.ChangeShapes Go.WideShapes Go.ChangeAt Go.RowKit Go.Proofs.Tryz
theorem a7V (g o n cap:Nat) (k:Int) (w:World) (hk:0<=k) (hk2:k+n<=4611686018427387904) (hw:∀ j,j<n->w.cell? ⟨g,o+j,none⟩=some (.int .i64 (k+j))) :
 Calls prog 39 #[.slice (some ⟨g,o,none⟩) n cap,.int .i64 k] w fun e w'=>e=.returned (.int .i64 (k+n))/\w'=w:=by
 have HW:=hid hw;clear hw;go_enter func39,ntmps39;go_wp2;go_loopw [1,5] (fun kv iv wr=>∃ i:Nat,i<=n/\kv=.int .i64 (k+i)/\iv=.int .i64 i/\wr=w) (fun _ iv _=>n-(intOf iv).toNat)
 case atStart=>exact⟨0,Nat.zero_le _,by simp,rfl,rfl⟩
 case round=>
 obtain⟨i,hi,rfl,rfl,hww⟩:=hrel;replace hww:=hww.symm;subst hww;by_cases hlt:i<n
 .have hlti:(i:Int)<n:=by omega
  have hx:=HW.out i hlt
  have a0:IntKind.i64.wrap (k+(i:Int)+1)=k+((i+1:Nat):Int):=by simp only[IntKind.wrap_i64,wrap64];omega
  go_wp2;go_roundw
  case rel=>exact⟨i+1,by omega,by simp,by go_num,by first | exact rfl | trivial⟩
  case measure=>simp[intOf];omega
 have hin:i=n:=by omega
 subst hin
 have hlti:¬ (i:Int)<i:=by omega
 go_wp2;go_ret;exact⟨rfl,rfl⟩
theorem a6Z (a:Option Addr) (cap:Nat) (k:Int) (w:World) :
 Calls prog 39 #[.slice a 0 cap,.int .i64 k] w fun e w'=>e=.returned (.int .i64 k)/\w'=w:=by
 go_enter func39,ntmps39;go_wp2;go_loopw [1,5] (fun kv iv wr=>kv=.int .i64 k/\iv=.int .i64 0/\wr=w) (fun _ _ _=>0)
 case atStart=>exact⟨rfl,rfl,rfl⟩
 case round=>
 obtain⟨rfl,rfl,hww⟩:=hrel;replace hww:=hww.symm;subst hww;go_wp2;go_ret;exact⟨rfl,rfl⟩
theorem b0z (t:Nd) (u v:Value) (w:World) (hn:t.kids.length<=4611686018427387904) (hu:RS 1 CI 0 w u t.kids) (hv:RS 1 CI 0 w v t.kids):Calls prog 36 #[.agg #[.int .i64 t.op,.string t.name,.string t.qual,.int .i64 t.n,.int .i64 t.m,.int .i64 t.vk,.int .i64 t.vn,.string t.vs,u,.int .i64 t.pos],.agg #[.int .i64 t.op,.string t.name,.string t.qual,.int .i64 t.n,.int .i64 t.m,.int .i64 t.vk,.int .i64 t.vn,.string t.vs,v,.int .i64 t.pos]] w fun e w'=>e=.returned (.bool true)/\Below w.heap.size w w':=by
 obtain⟨a,c,hae⟩:∃ a c,u=.slice a t.kids.length c:=by obtain⟨a,c,e,_⟩:=hu;exact⟨a,c,e⟩
 obtain⟨b,d,hbe⟩:∃ a c,v=.slice a t.kids.length c:=by obtain⟨a,c,e,_⟩:=hv;exact⟨a,c,e⟩
 subst hae;subst hbe;have a1:Below w.heap.size w ((w.alloc (.cells #[.int .i64 t.op,.string t.name,.string t.qual,.int .i64 t.n,.int .i64 t.m,.int .i64 t.vk,.int .i64 t.vn,.string t.vs,.slice a t.kids.length c,.int .i64 t.pos] 42)).alloc (.cells #[.int .i64 t.op,.string t.name,.string t.qual,.int .i64 t.n,.int .i64 t.m,.int .i64 t.vk,.int .i64 t.vn,.string t.vs,.slice b t.kids.length d,.int .i64 t.pos] 42)):=((Below.refl _ w).alloc (Nat.le_refl _) _).alloc (by simp) _
 have n1:((w.alloc (.cells #[.int .i64 t.op,.string t.name,.string t.qual,.int .i64 t.n,.int .i64 t.m,.int .i64 t.vk,.int .i64 t.vn,.string t.vs,.slice a t.kids.length c,.int .i64 t.pos] 42)).alloc (.cells #[.int .i64 t.op,.string t.name,.string t.qual,.int .i64 t.n,.int .i64 t.m,.int .i64 t.vk,.int .i64 t.vn,.string t.vs,.slice b t.kids.length d,.int .i64 t.pos] 42)).heap[w.heap.size]?=some (.cells #[.int .i64 t.op,.string t.name,.string t.qual,.int .i64 t.n,.int .i64 t.m,.int .i64 t.vk,.int .i64 t.vn,.string t.vs,.slice a t.kids.length c,.int .i64 t.pos] 42 (0,0)):=((below_alloc _ _).block w.heap.size (by simp)).trans (heap_alloc_new _ _)
 have n2:((w.alloc (.cells #[.int .i64 t.op,.string t.name,.string t.qual,.int .i64 t.n,.int .i64 t.m,.int .i64 t.vk,.int .i64 t.vn,.string t.vs,.slice a t.kids.length c,.int .i64 t.pos] 42)).alloc (.cells #[.int .i64 t.op,.string t.name,.string t.qual,.int .i64 t.n,.int .i64 t.m,.int .i64 t.vk,.int .i64 t.vn,.string t.vs,.slice b t.kids.length d,.int .i64 t.pos] 42)).heap[w.heap.size+1]?=some (.cells #[.int .i64 t.op,.string t.name,.string t.qual,.int .i64 t.n,.int .i64 t.m,.int .i64 t.vk,.int .i64 t.vn,.string t.vs,.slice b t.kids.length d,.int .i64 t.pos] 42 (0,0)):=by simpa using heap_alloc_new (w.alloc (.cells #[.int .i64 t.op,.string t.name,.string t.qual,.int .i64 t.n,.int .i64 t.m,.int .i64 t.vk,.int .i64 t.vn,.string t.vs,.slice a t.kids.length c,.int .i64 t.pos] 42)) (.cells #[.int .i64 t.op,.string t.name,.string t.qual,.int .i64 t.n,.int .i64 t.m,.int .i64 t.vk,.int .i64 t.vn,.string t.vs,.slice b t.kids.length d,.int .i64 t.pos] 42)
 have hl:((w.alloc (.cells #[.int .i64 t.op,.string t.name,.string t.qual,.int .i64 t.n,.int .i64 t.m,.int .i64 t.vk,.int .i64 t.vn,.string t.vs,.slice a t.kids.length c,.int .i64 t.pos] 42)).alloc (.cells #[.int .i64 t.op,.string t.name,.string t.qual,.int .i64 t.n,.int .i64 t.m,.int .i64 t.vk,.int .i64 t.vn,.string t.vs,.slice b t.kids.length d,.int .i64 t.pos] 42)).heap.size=w.heap.size+2:=by simp
 go_enter func36,ntmps36;go_wp2_with fail;generalize (w.alloc (.cells #[.int .i64 t.op,.string t.name,.string t.qual,.int .i64 t.n,.int .i64 t.m,.int .i64 t.vk,.int .i64 t.vn,.string t.vs,.slice a t.kids.length c,.int .i64 t.pos] 42)).alloc (.cells #[.int .i64 t.op,.string t.name,.string t.qual,.int .i64 t.n,.int .i64 t.m,.int .i64 t.vk,.int .i64 t.vn,.string t.vs,.slice b t.kids.length d,.int .i64 t.pos] 42)=W at *;have HL:=hid hl;clear hl;refine(a8a _ _ _ _).mono ?_;rintro e w1 ⟨rfl,b1⟩;have q1:=(b1.block w.heap.size (by have:=HL.out;omega)).trans n1;have q2:=(b1.block (w.heap.size+1) (by have:=HL.out;omega)).trans n2;have x8:w1.cell? ⟨w.heap.size,8,none⟩=some (.slice a t.kids.length c):=(cell_of q1).1;have y8:w1.cell? ⟨w.heap.size+1,8,none⟩=some (.slice b t.kids.length d):=(cell_of q2).1
 have a0:=a1.trans (b1.mono (by have:=HL.out;omega));go_wp2_with fail;refine(b0y t.kids _ _ _ hn (hu.below a5P a0) (hv.below a5P a0)).mono ?_;rintro e w2 ⟨rfl,b2⟩;have a4:=b1.size;have a2:=(b2.block w.heap.size (by have:=HL.out;omega)).trans q1;have a3:=(b2.block (w.heap.size+1) (by have:=HL.out;omega)).trans q2;have x9:w2.cell? ⟨w.heap.size,9,none⟩=some (.int .i64 t.pos):=(cell_of a2).1;have y9:w2.cell? ⟨w.heap.size+1,9,none⟩=some (.int .i64 t.pos):=(cell_of a3).1;have a5:=a0.trans (b2.mono a0.size);clear x8 y8 b1 b2 q1 q2 a2 a3 n1 n2 a0 a1 a4;go_wp2;go_ret;exact⟨rfl,a5⟩
theorem a8b (o:List Nd) (u v:Value) (w:World) (hn:o.length<=4611686018427387904) (hk:∀ t∈o,t.kids.length<=4611686018427387904) (hu:RS 10 CN 0 w u o) (hv:RS 10 CN 0 w v o):Calls prog 17 #[u,v] w fun e w'=>e=.returned (.bool true)/\Below w.heap.size w w':=by
 obtain⟨a,c,hae⟩:∃ a c,u=.slice a o.length c:=by obtain⟨a,c,e,_⟩:=hu;exact⟨a,c,e⟩
 obtain⟨b,d,hbe⟩:∃ a c,v=.slice a o.length c:=by obtain⟨a,c,e,_⟩:=hv;exact⟨a,c,e⟩
 subst hae;subst hbe;have HK:=hid hk;clear hk;go_enter func17,ntmps17;go_wp2;go_loopw [5] (fun iv wr=>∃ i:Nat,i<=o.length/\iv=.int .i64 i/\Below w.heap.size w wr) (fun iv _=>o.length-(intOf iv).toNat)
 case atStart=>exact⟨0,Nat.zero_le _,rfl,Below.refl _ _⟩
 case round=>
 obtain⟨i,hi,rfl,hb⟩:=hrel;by_cases hlt:i<o.length
 .have hlti:(i:Int)<o.length:=by omega
  have a1:=hu.below a5W hb;have a2:=hv.below a5W hb;obtain⟨_,_,he,hcu⟩:=a1;obtain⟨_,_,he',hcv⟩:=a2;cases he;cases he';obtain⟨g,q,rfl,_,hg,hcu⟩:=hcu (by omega);obtain⟨g',q',rfl,_,hg',hcv⟩:=hcv (by omega);obtain⟨cs,⟨ku,hcs,ru⟩,h1⟩:=hcu i hlt;obtain⟨cs',⟨kv,hcs',rv⟩,h2⟩:=hcv i hlt;subst hcs;subst hcs';have hkl:=HK.out o[i] (List.getElem_mem hlt);clear hcu hcv hu hv;generalize o[i]=t at *;have x0:wr.cell? ⟨g,q+i*10,none⟩=some (.int .i64 t.op):=h1 0 (by omega);have x1:wr.cell? ⟨g,q+i*10+1,none⟩=some (.string t.name):=h1 1 (by omega);have x2:wr.cell? ⟨g,q+i*10+2,none⟩=some (.string t.qual):=h1 2 (by omega);have x3:wr.cell? ⟨g,q+i*10+3,none⟩=some (.int .i64 t.n):=h1 3 (by omega);have x4:wr.cell? ⟨g,q+i*10+4,none⟩=some (.int .i64 t.m):=h1 4 (by omega)
  have x5:wr.cell? ⟨g,q+i*10+5,none⟩=some (.int .i64 t.vk):=h1 5 (by omega);have x6:wr.cell? ⟨g,q+i*10+6,none⟩=some (.int .i64 t.vn):=h1 6 (by omega);have x7:wr.cell? ⟨g,q+i*10+7,none⟩=some (.string t.vs):=h1 7 (by omega);have x8:wr.cell? ⟨g,q+i*10+8,none⟩=some ku:=h1 8 (by omega);have x9:wr.cell? ⟨g,q+i*10+9,none⟩=some (.int .i64 t.pos):=h1 9 (by omega);have y0:wr.cell? ⟨g',q'+i*10,none⟩=some (.int .i64 t.op):=h2 0 (by omega);have y1:wr.cell? ⟨g',q'+i*10+1,none⟩=some (.string t.name):=h2 1 (by omega);have y2:wr.cell? ⟨g',q'+i*10+2,none⟩=some (.string t.qual):=h2 2 (by omega);have y3:wr.cell? ⟨g',q'+i*10+3,none⟩=some (.int .i64 t.n):=h2 3 (by omega);have y4:wr.cell? ⟨g',q'+i*10+4,none⟩=some (.int .i64 t.m):=h2 4 (by omega)
  have y5:wr.cell? ⟨g',q'+i*10+5,none⟩=some (.int .i64 t.vk):=h2 5 (by omega);have y6:wr.cell? ⟨g',q'+i*10+6,none⟩=some (.int .i64 t.vn):=h2 6 (by omega);have y7:wr.cell? ⟨g',q'+i*10+7,none⟩=some (.string t.vs):=h2 7 (by omega);have y8:wr.cell? ⟨g',q'+i*10+8,none⟩=some kv:=h2 8 (by omega);have y9:wr.cell? ⟨g',q'+i*10+9,none⟩=some (.int .i64 t.pos):=h2 9 (by omega);clear h1 h2
  obtain⟨ua,uc,hua⟩:∃ a c,ku=.slice a t.kids.length c:=by obtain⟨a,c,e,_⟩:=ru;exact⟨a,c,e⟩
  obtain⟨va,vc,hva⟩:∃ a c,kv=.slice a t.kids.length c:=by obtain⟨a,c,e,_⟩:=rv;exact⟨a,c,e⟩
  subst hua;subst hva;go_wp2
  go_region_held (fun W=>W.cell? ⟨g,q+i*10,none⟩=some (.int .i64 t.op)/\W.cell? ⟨g,q+i*10+1,none⟩=some (.string t.name)/\W.cell? ⟨g,q+i*10+2,none⟩=some (.string t.qual)/\W.cell? ⟨g,q+i*10+3,none⟩=some (.int .i64 t.n)/\W.cell? ⟨g,q+i*10+4,none⟩=some (.int .i64 t.m)/\W.cell? ⟨g,q+i*10+5,none⟩=some (.int .i64 t.vk)/\W.cell? ⟨g,q+i*10+6,none⟩=some (.int .i64 t.vn)/\W.cell? ⟨g,q+i*10+7,none⟩=some (.string t.vs)/\W.cell? ⟨g,q+i*10+8,none⟩=some (.slice ua t.kids.length uc)/\W.cell? ⟨g,q+i*10+9,none⟩=some (.int .i64 t.pos)/\W.cell? ⟨g',q'+i*10,none⟩=some (.int .i64 t.op)/\W.cell? ⟨g',q'+i*10+1,none⟩=some (.string t.name)/\W.cell? ⟨g',q'+i*10+2,none⟩=some (.string t.qual)/\W.cell? ⟨g',q'+i*10+3,none⟩=some (.int .i64 t.n)/\W.cell? ⟨g',q'+i*10+4,none⟩=some (.int .i64 t.m)/\W.cell? ⟨g',q'+i*10+5,none⟩=some (.int .i64 t.vk)/\W.cell? ⟨g',q'+i*10+6,none⟩=some (.int .i64 t.vn)/\W.cell? ⟨g',q'+i*10+7,none⟩=some (.string t.vs)/\W.cell? ⟨g',q'+i*10+8,none⟩=some (.slice va t.kids.length vc)/\W.cell? ⟨g',q'+i*10+9,none⟩=some (.int .i64 t.pos)) (go_keep) ((go_at_call 36;refine(b0z t _ _ _ hkl (ru.below a5P (Below.refl _ wr).drew) (rv.below a5P (Below.refl _ wr).drew)).mono ?_;rintro e w3 ⟨rfl,b3⟩;replace b3:=a1p b3;have a3:=hb.trans (b3.mono hb.size);obtain⟨a0,a4⟩:=bcell b3;have a5:=(a0 g (q+i*10) hg).trans x0;have a6:=(a0 g (q+i*10+1) hg).trans x1;have a7:=(a0 g (q+i*10+2) hg).trans x2;have a8:=(a0 g (q+i*10+3) hg).trans x3;have a9:=(a0 g (q+i*10+4) hg).trans x4;have b0:=(a0 g (q+i*10+5) hg).trans x5;have b1:=(a0 g (q+i*10+6) hg).trans x6;have b2:=(a0 g (q+i*10+7) hg).trans x7;have b4:=(a0 g (q+i*10+8) hg).trans x8;have b5:=(a0 g (q+i*10+9) hg).trans x9;have b6:=(a0 g' (q'+i*10) hg').trans y0;have b7:=(a0 g' (q'+i*10+1) hg').trans y1;have b8:=(a0 g' (q'+i*10+2) hg').trans y2;have b9:=(a0 g' (q'+i*10+3) hg').trans y3;have c0:=(a0 g' (q'+i*10+4) hg').trans y4;have c1:=(a0 g' (q'+i*10+5) hg').trans y5;have c2:=(a0 g' (q'+i*10+6) hg').trans y6;have c3:=(a0 g' (q'+i*10+7) hg').trans y7;have c4:=(a0 g' (q'+i*10+8) hg').trans y8;have c5:=(a0 g' (q'+i*10+9) hg').trans y9;clear a0 a4))
  all_goals
    clear x0 x1 x2 x3 x4 x5 x6 x7 x8 x9 y0 y1 y2 y3 y4 y5 y6 y7 y8 y9 ru rv b3 hb
    go_wp2
    go_roundw
    case rel=>exact⟨i+1,by omega,by go_num,a3⟩
    case measure=>simp[intOf];omega
 have hin:i=o.length:=by omega
 subst hin
 have hlti:¬ (o.length:Int)<o.length:=by omega
 go_wp2;go_ret;exact⟨rfl,hb⟩
theorem a5M (o:List Nd) (u v:Value) (w:World) (hn:o.length<=4611686018427387904) (hk:∀ t∈o,t.kids.length<=4611686018427387904) (hu:RS 10 CN 0 w u o) (hv:RS 10 CN 0 w v o):Calls prog 6 #[.agg #[u],.agg #[v]] w fun e w'=>e=.returned (.bool true)/\Below w.heap.size w w':=by
 obtain⟨a,c,hae⟩:∃ a c,u=.slice a o.length c:=by obtain⟨a,c,e,_⟩:=hu;exact⟨a,c,e⟩
 obtain⟨b,d,hbe⟩:∃ a c,v=.slice a o.length c:=by obtain⟨a,c,e,_⟩:=hv;exact⟨a,c,e⟩
 have hcn:=fun W (hb:Below w.heap.size w W)=>a8b o u v W hn hk (hu.below a5W hb) (hv.below a5W hb);subst hae;subst hbe;go_enter func6,ntmps6;go_wp2_with fail;have bw:Below w.heap.size w ((w.alloc (.cells #[.slice a o.length c] 24)).alloc (.cells #[.slice b o.length d] 24)):=((Below.refl _ w).alloc (Nat.le_refl _) _).alloc (by simp) _;refine(hcn _ bw).mono ?_;rintro e w1 ⟨rfl,b1⟩;have a0:=bw.trans (b1.mono bw.size);clear bw b1;go_wp2;go_ret;exact⟨rfl,a0⟩
end Go.Proofs.YtphmpkpcamgjeaaGreatDoor
