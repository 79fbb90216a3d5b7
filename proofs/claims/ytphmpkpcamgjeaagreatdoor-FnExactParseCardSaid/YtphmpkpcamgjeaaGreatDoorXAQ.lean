import Derived.Test.YtphmpkpcamgjeaaGreatDoorXAA
import Derived.Test.YtphmpkpcamgjeaaGreatDoorXAP
import Derived.Lib.AppendZeros
set_option linter.unusedVariables false
set_option linter.unusedSimpArgs false
set_option maxRecDepth 100000
set_option maxHeartbeats 16000000
namespace Go.Proofs.YtphmpkpcamgjeaaGreatDoor
open Go.ChangeShapes Go.WideShapes Go.ChangeAt Go.RowKit Go.Proofs.Tryz
def atN (r:Nat) (w:World):Nat:=match w.cell? ⟨r,2,none⟩ with
 | some (.int _ z)=>z.toNat
 | _=>0
theorem SM.atN {V:Env} {src:ByteArray} {r B:Nat} {D:Nat->Prop} {w:World} {p:Nat} {x:Option (List Nd)} {m:Nat} (h:SM V src r B D w p x m):atN r w=p:=by
 obtain⟨ta,tc,oa,oc,c0,c1,c2,_⟩:=h.cells;unfold Go.Proofs.YtphmpkpcamgjeaaGreatDoor.atN;rw[c2];simp
def Pq (V:Env) (p:Nat) (x:Option (List Nd)) (ss:List ByteArray) (b:Option Nat):Prop:=(x=none->b=none)/\∀ o,x=some o->b=pick V ss p
def opOf (ops:List (ByteArray×Int)) (b:Option Nat):Int:=match b with
 | none=>0
 | some i=>((ops[i]?).map (·.2)).getD 0
theorem a1Q {V:Env} {p:Nat}:∀ {ss:List ByteArray} {i:Nat},pick V ss p=some i->p<V.ts.length/\i<ss.length
 | [],i,h=>by simp[pick] at h
 | s::r,i,h=>by
  unfold pick at h;by_cases g:sees V p s=true
  .simp[g] at h;subst h;exact⟨a0c g,by simp⟩
  simp[g] at h;obtain⟨j,hj,rfl⟩:=h;have:=a1Q hj;exact⟨this.1,by simp;exact this.2⟩
theorem Pq.some {V:Env} {p:Nat} {x:Option (List Nd)} {ss:List ByteArray} {i:Nat} (h:Pq V p x ss (some i)):∃ o,x=some o/\pick V ss p=some i/\p<V.ts.length/\i<ss.length:=by
 cases x with
 | none=>exact absurd (h.1 rfl) (by simp)
 | some o=>
 exact⟨o,rfl,(h.2 o rfl).symm,a1Q (h.2 o rfl).symm⟩
theorem Pq.nil (V:Env) (p:Nat) (x:Option (List Nd)):Pq V p x [] none:=⟨fun _=>rfl,fun _ _=>rfl⟩
theorem Pq.hit {V:Env} {p:Nat} {x:Option (List Nd)} {s:ByteArray} {ss:List ByteArray} (h:Tq V p x s true):Pq V p x (s::ss) (.some 0):=by
 obtain⟨o,e1,e2,_⟩:=h.yes;exact⟨fun e=>by(rw[e1] at e;cases e),fun o _=>by simp[pick,e2]⟩
theorem Pq.next {V:Env} {p:Nat} {x:Option (List Nd)} {s:ByteArray} {ss:List ByteArray} {b:Option Nat} (h:Tq V p x s false) (g:Pq V p x ss b):Pq V p x (s::ss) (b.map (·+1)):=
  ⟨fun e=>by rw[g.1 e];rfl,fun o e=>by simp[pick,h.no e,g.2 o e]⟩
theorem b1H {V:Env} {src:ByteArray} {r B:Nat} {D:Nat->Prop} {w:World} {p:Nat} {x:Option (List Nd)} {m:Nat} (hV:VO V src) (h:SM V src r B D w p x m) :
 Calls prog 218 #[.pointer (some ⟨r,0,none⟩),.int .i64 0] w fun e w'=>∃ b,e=.returned (.int .i64 (opOf [(g_cat,6)] b))/\Pq V p x [g_cat] b/\w'=w:=by
 go_enter func218,ntmps218;go_wp2_with fail;refine(a0G hV h g_cat).mono ?_;rintro e w1 ⟨b0,rfl,t0,h1⟩;replace h1:=h1.symm;subst h1
 cases b0 with
 | true=>
  have HR:=hid (Pq.hit t0:Pq V p x [g_cat] (some 0));go_wp2;go_ret;exact⟨some 0,rfl,HR.out,rfl⟩
 | false=>
 have HR:=hid (Pq.next t0 (Pq.nil V p x):Pq V p x [g_cat] none);go_wp2;go_ret;exact⟨none,rfl,HR.out,rfl⟩
theorem b1I {V:Env} {src:ByteArray} {r B:Nat} {D:Nat->Prop} {w:World} {p:Nat} {x:Option (List Nd)} {m:Nat} (hV:VO V src) (h:SM V src r B D w p x m) :
 Calls prog 218 #[.pointer (some ⟨r,0,none⟩),.int .i64 1] w fun e w'=>∃ b,e=.returned (.int .i64 (opOf [(g_plus,1),(g_minus,2)] b))/\Pq V p x [g_plus,g_minus] b/\w'=w:=by
 go_enter func218,ntmps218;go_wp2_with fail;refine(a0G hV h g_plus).mono ?_;rintro e w1 ⟨b0,rfl,t0,h1⟩;replace h1:=h1.symm;subst h1
 cases b0 with
 | true=>
  have HR:=hid (Pq.hit t0:Pq V p x [g_plus,g_minus] (some 0));go_wp2;go_ret;exact⟨some 0,rfl,HR.out,rfl⟩
 | false=>
 go_wp2_with fail;refine(a0G hV h g_minus).mono ?_;rintro e w1 ⟨b1,rfl,t1,h1⟩;replace h1:=h1.symm;subst h1
 cases b1 with
 | true=>
  have HR:=hid (Pq.next t0 (Pq.hit t1):Pq V p x [g_plus,g_minus] (some 1));go_wp2;go_ret;exact⟨some 1,rfl,HR.out,rfl⟩
 | false=>
 have HR:=hid (Pq.next t0 (Pq.next t1 (Pq.nil V p x)):Pq V p x [g_plus,g_minus] none);go_wp2;go_ret;exact⟨none,rfl,HR.out,rfl⟩
theorem b1J {V:Env} {src:ByteArray} {r B:Nat} {D:Nat->Prop} {w:World} {p:Nat} {x:Option (List Nd)} {m:Nat} (hV:VO V src) (h:SM V src r B D w p x m) :
 Calls prog 218 #[.pointer (some ⟨r,0,none⟩),.int .i64 2] w fun e w'=>∃ b,e=.returned (.int .i64 (opOf [(g_star,3),(g_slash,4),(g_pct,5)] b))/\Pq V p x [g_star,g_slash,g_pct] b/\w'=w:=by
 go_enter func218,ntmps218;go_wp2_with fail;refine(a0G hV h g_star).mono ?_;rintro e w1 ⟨b0,rfl,t0,h1⟩;replace h1:=h1.symm;subst h1
 cases b0 with
 | true=>
  have HR:=hid (Pq.hit t0:Pq V p x [g_star,g_slash,g_pct] (some 0));go_wp2;go_ret;exact⟨some 0,rfl,HR.out,rfl⟩
 | false=>
 go_wp2_with fail;refine(a0G hV h g_slash).mono ?_;rintro e w1 ⟨b1,rfl,t1,h1⟩;replace h1:=h1.symm;subst h1
 cases b1 with
 | true=>
  have HR:=hid (Pq.next t0 (Pq.hit t1):Pq V p x [g_star,g_slash,g_pct] (some 1));go_wp2;go_ret;exact⟨some 1,rfl,HR.out,rfl⟩
 | false=>
 go_wp2_with fail;refine(a0G hV h g_pct).mono ?_;rintro e w1 ⟨b2,rfl,t2,h1⟩;replace h1:=h1.symm;subst h1
 cases b2 with
 | true=>
  have HR:=hid (Pq.next t0 (Pq.next t1 (Pq.hit t2)):Pq V p x [g_star,g_slash,g_pct] (some 2));go_wp2;go_ret;exact⟨some 2,rfl,HR.out,rfl⟩
 | false=>
 have HR:=hid (Pq.next t0 (Pq.next t1 (Pq.next t2 (Pq.nil V p x))):Pq V p x [g_star,g_slash,g_pct] none);go_wp2;go_ret;exact⟨none,rfl,HR.out,rfl⟩
section
variable {V : Env} {F : List Nd -> R Int} {A : M Int} {ops : List (ByteArray × Int)} {p : Nat} {x : Option (List Nd)} {m q : Nat} {y : Option (List Nd)} {m1 : Nat}
theorem Lp.chainF {k:Nat} {l:Int} (h:Lp V 10 510 F (a1i V A ops k l q) p x m q y m1) (hk:∀ o,y=some o->V.ts.length-q<k) (hp:Pq V q y (ops.map (·.1)) none):Res V 10 510 F p x m q y m1 l:=
 h.done (fun o e=>by
 have:=hk o e;obtain⟨k',rfl⟩:∃ k',k=k'+1:=⟨k-1,by omega⟩;simp[a1i,<- hp.2 o e])
theorem Lp.chainT {k:Nat} {l a b:Int} {i t m2 m3:Nat} {z z':Option (List Nd)} (h:Lp V 10 510 F (a1i V A ops (k+1) l q) p x m q y m1) (hp:Pq V q y (ops.map (·.1)) (some i)) (r:Res V 10 510 (A (q+1)) (q+1) y m1 t z m2 a) (r2:Res V 1 0 (lay { op:=5,n:=opOf ops (some i),kids:=[l,a],pos:=V.pos q } t) t z m2 t z' m3 b):Lp V 10 510 F (a1i V A ops k b t) p x m t z' m3:=by
 obtain⟨o,e1,e2,e3,_⟩:=hp.some;have h1:=h.step (A:=fun o=>(A (q+1) o).bind fun k' q2 o=>(lay { op:=5,n:=opOf ops (some i),kids:=[l,k'],pos:=V.pos q } q2 o).bind fun c q o=>a1i V A ops k c q o) e1 e3 (fun o _=>by simp[a1i,e2,lay,R.bind_ok,opOf]);exact((h1.pay e1 r (fun _=>rfl)).bind r2 (fun _=>rfl)).weak (by omega) (by omega)
theorem Lp.chain0 {l:Int} (r:Res V 10 510 (A p) p x m q y m1 l):Lp V 10 510 (chain V A ops p) (a1i V A ops (V.ts.length+1) l q) p x m q y m1:=
  ((Lp.refl V (chain V A ops p) p x m).bind r (fun _=>rfl)).weak (by omega) (by omega)
end
theorem b7e {V:Env} {src:ByteArray} {n:Nat} {A:M Int} (hV:VO V src) (hA:a0w V src 153 10 n (A)):a0w V src 123 10 n (chain V A [(k_and,14)]):=fun {r B D w p x m} h hn hp=>by
 have hT:=hV.n;have hle:=h.le;go_enter func123,ntmps123;go_wp2_with fail;refine(hA h hn hp).mono ?_;rintro e w1 ⟨a1,q1,y1,m1,rfl,h1,s1,r1⟩;have l0:=Lp.chain0 (ops:=[(k_and,14)]) r1;go_wp2_with fail;go_loopw [3] (fun lv wr=>∃ (l:Int) (k q:Nat) (y:Option (List Nd)) (m1:Nat),lv=.int .i64 l/\SM V src r B D wr q y m1/\Sp 3 r w wr/\Hid (∀ o,y=some o->V.ts.length-q<k)/\Hid (∀ o,y=some o->V.ts.length-q<n)/\Lp V 10 510 (chain V A [(k_and,14)] p) (a1i V A [(k_and,14)] k l q) p x m q y m1) (fun _ wr=>V.ts.length-atN r wr)
 case atStart=>exact⟨_,_,_,_,_,rfl,h1,s1,(fun o _=>by omega:∀ o,y1=some o->V.ts.length-q1<V.ts.length+1),l0.fuel hn,l0⟩
 case round=>
 obtain⟨l,k,q,y,m2,rfl,h2,s2,HK,HN,l2⟩:=hrel;have a5:=h2.le
 have a7:(q:Int)<=2000:=by omega
 obtain⟨ta,tc,oa,oc,c0,c1,c2,c3,c4,f2,f3,f4,ht⟩:=h2.cells;have a8:=l2.le;go_wp2_with fail;refine(a0G hV h2 k_and).mono ?_;rintro e w3 ⟨b,rfl,tq,h3⟩;replace h3:=h3.symm;subst h3
 cases b with
 | false=>
  have hq:Pq V q y (([(k_and,14)]:List (ByteArray×Int)).map (·.1)) none:=Pq.next tq (Pq.nil V q y);have HR:=hid (l2.chainF HK.out hq);go_wp2;go_ret;exact⟨_,_,_,_,rfl,h2,s2,HR.out⟩
 | true=>
 have hq:Pq V q y (([(k_and,14)]:List (ByteArray×Int)).map (·.1)) (some 0):=Pq.hit tq;obtain⟨o,e1,e2,e3,e4⟩:=hq.some;have a9:=HK.out o e1;have b0:=HN.out o e1;obtain⟨k',rfl⟩:∃ k',k=k'+1:=⟨k-1,by omega⟩;have hps:=a0j (m:=m2) e1 e3;have hpo:=(l2.ok e1).1;go_wp2_with fail;refine(a0C hV h2).mono ?_;rintro e w3 ⟨rfl,b3⟩;have h3:=h2.below b3;have s3:=s2.below b3;clear c0 c1 c2 c3 c4 f2 f3 f4 ht;obtain⟨ta,tc,oa,oc,c0,c1,c2,c3,c4,f2,f3,f4,ht⟩:=h3.cells;have h4:=h3.at (q:=q+1) (by omega) (z:=(q:Int)+1) rfl;have s4:=s3.setR (j:=2) (.int .i64 ((q:Int)+1)) (by decide);go_wp2_with fail;refine(hA h4 (fun o _=>by omega) (by omega)).mono ?_;rintro e w5 ⟨a,q5,y5,m5,rfl,h5,z5,r5⟩;have s5:=s4.trans z5;have b1:=r5.le;have b2:=a0r (V:=V) (p:=q5) (x:=y5) (m:=m5);go_wp2_with fail
 refine(a0g (h5.alloc _) (by omega) { op:=5,n:=14,kids:=[l,a],pos:=V.pos q } _ (KS.new w5 [l,a]) (fun _=>h5.outN (Nat.le_refl _))).mono ?_;rintro e w6 ⟨rfl,h6,z6,r6⟩;have s6:=(s5.alloc (.cells #[.int .i64 l,.int .i64 a] 3)).trans z6;have l6:=l2.chainT hq r5 r6;have a0:=h2.atN;have a2:=h6.atN;have hup:=r5.up;have a6:=h6.le;have a3:=hid (fun o e=>(by omega):∀ o,(Option.map (·++[{ op:=5,n:=14,kids:=[l,a],pos:=V.pos q }]) y5)=some o->V.ts.length-q5<k');have a4:=hid (l6.fuel hn);go_wp2;go_roundw
 case rel=>exact⟨_,_,_,_,_,rfl,h6,s6,a3,a4.out,l6⟩
 case measure=>rw[a0,a2];omega
theorem b4X {V:Env} {src:ByteArray} {n:Nat} {A:M Int} (hV:VO V src) (hA:a0w V src 123 10 n (A)):a0w V src 87 10 n (chain V A [(k_or,15)]):=fun {r B D w p x m} h hn hp=>by
 have hT:=hV.n;have hle:=h.le;go_enter func87,ntmps87;go_wp2_with fail;refine(hA h hn hp).mono ?_;rintro e w1 ⟨a1,q1,y1,m1,rfl,h1,s1,r1⟩;have l0:=Lp.chain0 (ops:=[(k_or,15)]) r1;go_wp2_with fail;go_loopw [3] (fun lv wr=>∃ (l:Int) (k q:Nat) (y:Option (List Nd)) (m1:Nat),lv=.int .i64 l/\SM V src r B D wr q y m1/\Sp 3 r w wr/\Hid (∀ o,y=some o->V.ts.length-q<k)/\Hid (∀ o,y=some o->V.ts.length-q<n)/\Lp V 10 510 (chain V A [(k_or,15)] p) (a1i V A [(k_or,15)] k l q) p x m q y m1) (fun _ wr=>V.ts.length-atN r wr)
 case atStart=>exact⟨_,_,_,_,_,rfl,h1,s1,(fun o _=>by omega:∀ o,y1=some o->V.ts.length-q1<V.ts.length+1),l0.fuel hn,l0⟩
 case round=>
 obtain⟨l,k,q,y,m2,rfl,h2,s2,HK,HN,l2⟩:=hrel;have a5:=h2.le
 have a7:(q:Int)<=2000:=by omega
 obtain⟨ta,tc,oa,oc,c0,c1,c2,c3,c4,f2,f3,f4,ht⟩:=h2.cells;have a8:=l2.le;go_wp2_with fail;refine(a0G hV h2 k_or).mono ?_;rintro e w3 ⟨b,rfl,tq,h3⟩;replace h3:=h3.symm;subst h3
 cases b with
 | false=>
  have hq:Pq V q y (([(k_or,15)]:List (ByteArray×Int)).map (·.1)) none:=Pq.next tq (Pq.nil V q y);have HR:=hid (l2.chainF HK.out hq);go_wp2;go_ret;exact⟨_,_,_,_,rfl,h2,s2,HR.out⟩
 | true=>
 have hq:Pq V q y (([(k_or,15)]:List (ByteArray×Int)).map (·.1)) (some 0):=Pq.hit tq;obtain⟨o,e1,e2,e3,e4⟩:=hq.some;have a9:=HK.out o e1;have b0:=HN.out o e1;obtain⟨k',rfl⟩:∃ k',k=k'+1:=⟨k-1,by omega⟩;have hps:=a0j (m:=m2) e1 e3;have hpo:=(l2.ok e1).1;go_wp2_with fail;refine(a0C hV h2).mono ?_;rintro e w3 ⟨rfl,b3⟩;have h3:=h2.below b3;have s3:=s2.below b3;clear c0 c1 c2 c3 c4 f2 f3 f4 ht;obtain⟨ta,tc,oa,oc,c0,c1,c2,c3,c4,f2,f3,f4,ht⟩:=h3.cells;have h4:=h3.at (q:=q+1) (by omega) (z:=(q:Int)+1) rfl;have s4:=s3.setR (j:=2) (.int .i64 ((q:Int)+1)) (by decide);go_wp2_with fail;refine(hA h4 (fun o _=>by omega) (by omega)).mono ?_;rintro e w5 ⟨a,q5,y5,m5,rfl,h5,z5,r5⟩;have s5:=s4.trans z5;have b1:=r5.le;have b2:=a0r (V:=V) (p:=q5) (x:=y5) (m:=m5);go_wp2_with fail
 refine(a0g (h5.alloc _) (by omega) { op:=5,n:=15,kids:=[l,a],pos:=V.pos q } _ (KS.new w5 [l,a]) (fun _=>h5.outN (Nat.le_refl _))).mono ?_;rintro e w6 ⟨rfl,h6,z6,r6⟩;have s6:=(s5.alloc (.cells #[.int .i64 l,.int .i64 a] 3)).trans z6;have l6:=l2.chainT hq r5 r6;have a0:=h2.atN;have a2:=h6.atN;have hup:=r5.up;have a6:=h6.le;have a3:=hid (fun o e=>(by omega):∀ o,(Option.map (·++[{ op:=5,n:=15,kids:=[l,a],pos:=V.pos q }]) y5)=some o->V.ts.length-q5<k');have a4:=hid (l6.fuel hn);go_wp2;go_roundw
 case rel=>exact⟨_,_,_,_,_,rfl,h6,s6,a3,a4.out,l6⟩
 case measure=>rw[a0,a2];omega
theorem b7f {V:Env} {src:ByteArray} {n:Nat} {A:M Int} (hV:VO V src) (hA:∀ {r B:Nat} {D:Nat->Prop} {w:World} {p:Nat} {x:Option (List Nd)} {m:Nat},SM V src r B D w p x m->(∀ o,x=some o->V.ts.length-p<n)->pot V p x m+10<=4000000->Calls prog 198 #[.pointer (some ⟨r,0,none⟩),.int .i64 3] w fun e w'=>a3h V src r B D 10 (A p) w p x m e w'):∀ {r B:Nat} {D:Nat->Prop} {w:World} {p:Nat} {x:Option (List Nd)} {m:Nat},SM V src r B D w p x m->(∀ o,x=some o->V.ts.length-p<n)->pot V p x m+10<=4000000->Calls prog 198 #[.pointer (some ⟨r,0,none⟩),.int .i64 2] w fun e w'=>a3h V src r B D 10 (chain V A [(g_star,3),(g_slash,4),(g_pct,5)] p) w p x m e w':=fun {r B D w p x m} h hn hp=>by
 have hT:=hV.n;have hle:=h.le;go_enter func198,ntmps198;go_wp2_with fail;refine(hA h hn hp).mono ?_;rintro e w1 ⟨a1,q1,y1,m1,rfl,h1,s1,r1⟩;have l0:=Lp.chain0 (ops:=[(g_star,3),(g_slash,4),(g_pct,5)]) r1;go_wp2_with fail;go_loopw [5] (fun lv wr=>∃ (l:Int) (k q:Nat) (y:Option (List Nd)) (m1:Nat),lv=.int .i64 l/\SM V src r B D wr q y m1/\Sp 3 r w wr/\Hid (∀ o,y=some o->V.ts.length-q<k)/\Hid (∀ o,y=some o->V.ts.length-q<n)/\Lp V 10 510 (chain V A [(g_star,3),(g_slash,4),(g_pct,5)] p) (a1i V A [(g_star,3),(g_slash,4),(g_pct,5)] k l q) p x m q y m1) (fun _ wr=>V.ts.length-atN r wr)
 case atStart=>exact⟨_,_,_,_,_,rfl,h1,s1,(fun o _=>by omega:∀ o,y1=some o->V.ts.length-q1<V.ts.length+1),l0.fuel hn,l0⟩
 case round=>
 obtain⟨l,k,q,y,m2,rfl,h2,s2,HK,HN,l2⟩:=hrel;have a5:=h2.le
 have a8:(q:Int)<=2000:=by omega
 obtain⟨ta,tc,oa,oc,c0,c1,c2,c3,c4,f2,f3,f4,ht⟩:=h2.cells;have a9:=l2.le;go_wp2_with fail;refine(b1J hV h2).mono ?_;rintro e w3 ⟨b,rfl,hq,h3⟩;replace h3:=h3.symm;subst h3
 cases b with
 | none=>
  have HR:=hid (l2.chainF HK.out hq);go_wp2;go_ret;exact⟨_,_,_,_,rfl,h2,s2,HR.out⟩
 | some i=>
 obtain⟨o,e1,e2,e3,e4⟩:=hq.some
 have hne:opOf [(g_star,3),(g_slash,4),(g_pct,5)] (some i)≠0:=by
   match i,e4 with
   | 0,_=>simp[opOf]
   | 1,_=>simp[opOf]
   | 2,_=>simp[opOf]
 generalize hop:opOf [(g_star,3),(g_slash,4),(g_pct,5)] (some i)=ov at *;have HOP:=hid hop;clear hop
 have a6:(ov==0)=false:=by simpa using hne
 have b0:=HK.out o e1;have b1:=HN.out o e1;obtain⟨k',rfl⟩:∃ k',k=k'+1:=⟨k-1,by omega⟩;have hps:=a0j (m:=m2) e1 e3;have hpo:=(l2.ok e1).1;go_wp2_with fail;refine(a0C hV h2).mono ?_;rintro e w3 ⟨rfl,b3⟩;have h3:=h2.below b3;have s3:=s2.below b3;clear c0 c1 c2 c3 c4 f2 f3 f4 ht;obtain⟨ta,tc,oa,oc,c0,c1,c2,c3,c4,f2,f3,f4,ht⟩:=h3.cells;have h4:=h3.at (q:=q+1) (by omega) (z:=(q:Int)+1) rfl;have s4:=s3.setR (j:=2) (.int .i64 ((q:Int)+1)) (by decide);go_wp2_with fail;refine(hA h4 (fun o _=>by omega) (by omega)).mono ?_;rintro e w5 ⟨a,q5,y5,m5,rfl,h5,z5,r5⟩;have s5:=s4.trans z5;have b2:=r5.le;have b4:=a0r (V:=V) (p:=q5) (x:=y5) (m:=m5);go_wp2_with fail
 refine(a0g (h5.alloc _) (by omega) { op:=5,n:=ov,kids:=[l,a],pos:=V.pos q } _ (KS.new w5 [l,a]) (fun _=>h5.outN (Nat.le_refl _))).mono ?_;rintro e w6 ⟨rfl,h6,z6,r6⟩;have s6:=(s5.alloc (.cells #[.int .i64 l,.int .i64 a] 3)).trans z6;rw[<- HOP.out] at r6;have l6:=l2.chainT hq r5 r6;rw[HOP.out] at l6;have a0:=h2.atN;have a2:=h6.atN;have hup:=r5.up;have a7:=h6.le;have a3:=hid (fun o e=>(by omega):∀ o,(Option.map (·++[{ op:=5,n:=ov,kids:=[l,a],pos:=V.pos q }]) y5)=some o->V.ts.length-q5<k');have a4:=hid (l6.fuel hn);go_wp2;go_roundw
 case rel=>exact⟨_,_,_,_,_,rfl,h6,s6,a3,a4.out,l6⟩
 case measure=>rw[a0,a2];omega
theorem b7g {V:Env} {src:ByteArray} {n:Nat} {A:M Int} (hV:VO V src) (hA:∀ {r B:Nat} {D:Nat->Prop} {w:World} {p:Nat} {x:Option (List Nd)} {m:Nat},SM V src r B D w p x m->(∀ o,x=some o->V.ts.length-p<n)->pot V p x m+10<=4000000->Calls prog 198 #[.pointer (some ⟨r,0,none⟩),.int .i64 2] w fun e w'=>a3h V src r B D 10 (A p) w p x m e w'):∀ {r B:Nat} {D:Nat->Prop} {w:World} {p:Nat} {x:Option (List Nd)} {m:Nat},SM V src r B D w p x m->(∀ o,x=some o->V.ts.length-p<n)->pot V p x m+10<=4000000->Calls prog 198 #[.pointer (some ⟨r,0,none⟩),.int .i64 1] w fun e w'=>a3h V src r B D 10 (chain V A [(g_plus,1),(g_minus,2)] p) w p x m e w':=fun {r B D w p x m} h hn hp=>by
 have hT:=hV.n;have hle:=h.le;go_enter func198,ntmps198;go_wp2_with fail;refine(hA h hn hp).mono ?_;rintro e w1 ⟨a1,q1,y1,m1,rfl,h1,s1,r1⟩;have l0:=Lp.chain0 (ops:=[(g_plus,1),(g_minus,2)]) r1;go_wp2_with fail;go_loopw [5] (fun lv wr=>∃ (l:Int) (k q:Nat) (y:Option (List Nd)) (m1:Nat),lv=.int .i64 l/\SM V src r B D wr q y m1/\Sp 3 r w wr/\Hid (∀ o,y=some o->V.ts.length-q<k)/\Hid (∀ o,y=some o->V.ts.length-q<n)/\Lp V 10 510 (chain V A [(g_plus,1),(g_minus,2)] p) (a1i V A [(g_plus,1),(g_minus,2)] k l q) p x m q y m1) (fun _ wr=>V.ts.length-atN r wr)
 case atStart=>exact⟨_,_,_,_,_,rfl,h1,s1,(fun o _=>by omega:∀ o,y1=some o->V.ts.length-q1<V.ts.length+1),l0.fuel hn,l0⟩
 case round=>
 obtain⟨l,k,q,y,m2,rfl,h2,s2,HK,HN,l2⟩:=hrel;have a5:=h2.le
 have a8:(q:Int)<=2000:=by omega
 obtain⟨ta,tc,oa,oc,c0,c1,c2,c3,c4,f2,f3,f4,ht⟩:=h2.cells;have a9:=l2.le;go_wp2_with fail;refine(b1I hV h2).mono ?_;rintro e w3 ⟨b,rfl,hq,h3⟩;replace h3:=h3.symm;subst h3
 cases b with
 | none=>
  have HR:=hid (l2.chainF HK.out hq);go_wp2;go_ret;exact⟨_,_,_,_,rfl,h2,s2,HR.out⟩
 | some i=>
 obtain⟨o,e1,e2,e3,e4⟩:=hq.some
 have hne:opOf [(g_plus,1),(g_minus,2)] (some i)≠0:=by
   match i,e4 with
   | 0,_=>simp[opOf]
   | 1,_=>simp[opOf]
 generalize hop:opOf [(g_plus,1),(g_minus,2)] (some i)=ov at *;have HOP:=hid hop;clear hop
 have a6:(ov==0)=false:=by simpa using hne
 have b0:=HK.out o e1;have b1:=HN.out o e1;obtain⟨k',rfl⟩:∃ k',k=k'+1:=⟨k-1,by omega⟩;have hps:=a0j (m:=m2) e1 e3;have hpo:=(l2.ok e1).1;go_wp2_with fail;refine(a0C hV h2).mono ?_;rintro e w3 ⟨rfl,b3⟩;have h3:=h2.below b3;have s3:=s2.below b3;clear c0 c1 c2 c3 c4 f2 f3 f4 ht;obtain⟨ta,tc,oa,oc,c0,c1,c2,c3,c4,f2,f3,f4,ht⟩:=h3.cells;have h4:=h3.at (q:=q+1) (by omega) (z:=(q:Int)+1) rfl;have s4:=s3.setR (j:=2) (.int .i64 ((q:Int)+1)) (by decide);go_wp2_with fail;refine(hA h4 (fun o _=>by omega) (by omega)).mono ?_;rintro e w5 ⟨a,q5,y5,m5,rfl,h5,z5,r5⟩;have s5:=s4.trans z5;have b2:=r5.le;have b4:=a0r (V:=V) (p:=q5) (x:=y5) (m:=m5);go_wp2_with fail
 refine(a0g (h5.alloc _) (by omega) { op:=5,n:=ov,kids:=[l,a],pos:=V.pos q } _ (KS.new w5 [l,a]) (fun _=>h5.outN (Nat.le_refl _))).mono ?_;rintro e w6 ⟨rfl,h6,z6,r6⟩;have s6:=(s5.alloc (.cells #[.int .i64 l,.int .i64 a] 3)).trans z6;rw[<- HOP.out] at r6;have l6:=l2.chainT hq r5 r6;rw[HOP.out] at l6;have a0:=h2.atN;have a2:=h6.atN;have hup:=r5.up;have a7:=h6.le;have a3:=hid (fun o e=>(by omega):∀ o,(Option.map (·++[{ op:=5,n:=ov,kids:=[l,a],pos:=V.pos q }]) y5)=some o->V.ts.length-q5<k');have a4:=hid (l6.fuel hn);go_wp2;go_roundw
 case rel=>exact⟨_,_,_,_,_,rfl,h6,s6,a3,a4.out,l6⟩
 case measure=>rw[a0,a2];omega
theorem b7h {V:Env} {src:ByteArray} {n:Nat} {A:M Int} (hV:VO V src) (hA:∀ {r B:Nat} {D:Nat->Prop} {w:World} {p:Nat} {x:Option (List Nd)} {m:Nat},SM V src r B D w p x m->(∀ o,x=some o->V.ts.length-p<n)->pot V p x m+10<=4000000->Calls prog 198 #[.pointer (some ⟨r,0,none⟩),.int .i64 1] w fun e w'=>a3h V src r B D 10 (A p) w p x m e w'):∀ {r B:Nat} {D:Nat->Prop} {w:World} {p:Nat} {x:Option (List Nd)} {m:Nat},SM V src r B D w p x m->(∀ o,x=some o->V.ts.length-p<n)->pot V p x m+10<=4000000->Calls prog 198 #[.pointer (some ⟨r,0,none⟩),.int .i64 0] w fun e w'=>a3h V src r B D 10 (chain V A [(g_cat,6)] p) w p x m e w':=fun {r B D w p x m} h hn hp=>by
 have hT:=hV.n;have hle:=h.le;go_enter func198,ntmps198;go_wp2_with fail;refine(hA h hn hp).mono ?_;rintro e w1 ⟨a1,q1,y1,m1,rfl,h1,s1,r1⟩;have l0:=Lp.chain0 (ops:=[(g_cat,6)]) r1;go_wp2_with fail;go_loopw [5] (fun lv wr=>∃ (l:Int) (k q:Nat) (y:Option (List Nd)) (m1:Nat),lv=.int .i64 l/\SM V src r B D wr q y m1/\Sp 3 r w wr/\Hid (∀ o,y=some o->V.ts.length-q<k)/\Hid (∀ o,y=some o->V.ts.length-q<n)/\Lp V 10 510 (chain V A [(g_cat,6)] p) (a1i V A [(g_cat,6)] k l q) p x m q y m1) (fun _ wr=>V.ts.length-atN r wr)
 case atStart=>exact⟨_,_,_,_,_,rfl,h1,s1,(fun o _=>by omega:∀ o,y1=some o->V.ts.length-q1<V.ts.length+1),l0.fuel hn,l0⟩
 case round=>
 obtain⟨l,k,q,y,m2,rfl,h2,s2,HK,HN,l2⟩:=hrel;have a5:=h2.le
 have a8:(q:Int)<=2000:=by omega
 obtain⟨ta,tc,oa,oc,c0,c1,c2,c3,c4,f2,f3,f4,ht⟩:=h2.cells;have a9:=l2.le;go_wp2_with fail;refine(b1H hV h2).mono ?_;rintro e w3 ⟨b,rfl,hq,h3⟩;replace h3:=h3.symm;subst h3
 cases b with
 | none=>
  have HR:=hid (l2.chainF HK.out hq);go_wp2;go_ret;exact⟨_,_,_,_,rfl,h2,s2,HR.out⟩
 | some i=>
 obtain⟨o,e1,e2,e3,e4⟩:=hq.some
 have hne:opOf [(g_cat,6)] (some i)≠0:=by
   match i,e4 with
   | 0,_=>simp[opOf]
 generalize hop:opOf [(g_cat,6)] (some i)=ov at *;have HOP:=hid hop;clear hop
 have a6:(ov==0)=false:=by simpa using hne
 have b0:=HK.out o e1;have b1:=HN.out o e1;obtain⟨k',rfl⟩:∃ k',k=k'+1:=⟨k-1,by omega⟩;have hps:=a0j (m:=m2) e1 e3;have hpo:=(l2.ok e1).1;go_wp2_with fail;refine(a0C hV h2).mono ?_;rintro e w3 ⟨rfl,b3⟩;have h3:=h2.below b3;have s3:=s2.below b3;clear c0 c1 c2 c3 c4 f2 f3 f4 ht;obtain⟨ta,tc,oa,oc,c0,c1,c2,c3,c4,f2,f3,f4,ht⟩:=h3.cells;have h4:=h3.at (q:=q+1) (by omega) (z:=(q:Int)+1) rfl;have s4:=s3.setR (j:=2) (.int .i64 ((q:Int)+1)) (by decide);go_wp2_with fail;refine(hA h4 (fun o _=>by omega) (by omega)).mono ?_;rintro e w5 ⟨a,q5,y5,m5,rfl,h5,z5,r5⟩;have s5:=s4.trans z5;have b2:=r5.le;have b4:=a0r (V:=V) (p:=q5) (x:=y5) (m:=m5);go_wp2_with fail
 refine(a0g (h5.alloc _) (by omega) { op:=5,n:=ov,kids:=[l,a],pos:=V.pos q } _ (KS.new w5 [l,a]) (fun _=>h5.outN (Nat.le_refl _))).mono ?_;rintro e w6 ⟨rfl,h6,z6,r6⟩;have s6:=(s5.alloc (.cells #[.int .i64 l,.int .i64 a] 3)).trans z6;rw[<- HOP.out] at r6;have l6:=l2.chainT hq r5 r6;rw[HOP.out] at l6;have a0:=h2.atN;have a2:=h6.atN;have hup:=r5.up;have a7:=h6.le;have a3:=hid (fun o e=>(by omega):∀ o,(Option.map (·++[{ op:=5,n:=ov,kids:=[l,a],pos:=V.pos q }]) y5)=some o->V.ts.length-q5<k');have a4:=hid (l6.fuel hn);go_wp2;go_roundw
 case rel=>exact⟨_,_,_,_,_,rfl,h6,s6,a3,a4.out,l6⟩
 case measure=>rw[a0,a2];omega
theorem b7i {V:Env} {src:ByteArray} {n:Nat} {A:M Int} (hA:a0w V src 127 10 n (A)):∀ {r B:Nat} {D:Nat->Prop} {w:World} {p:Nat} {x:Option (List Nd)} {m:Nat},SM V src r B D w p x m->(∀ o,x=some o->V.ts.length-p<n)->pot V p x m+10<=4000000->Calls prog 198 #[.pointer (some ⟨r,0,none⟩),.int .i64 3] w fun e w'=>a3h V src r B D 10 (A p) w p x m e w':=fun {r B D w p x m} h hn hp=>by
 go_enter func198,ntmps198;go_wp2_with fail;refine(hA h hn hp).mono ?_;rintro e w1 ⟨a1,q1,y1,m1,rfl,h1,s1,r1⟩;go_wp2;go_ret;exact⟨_,_,_,_,rfl,h1,s1,r1⟩
def kidC (ks:List Int):List Value:=ks.map (Value.int .i64)
theorem b1K:(prog.info? 3).map (fun i=>(i.zero,i.size,i.bytes))=some (some (.int .i64 0),1,8):=by kernel_rfl
structure PK (V:Env) (src:ByteArray) (r B:Nat) (D:Nat->Prop) (b:Nat) (w:World) (p:Nat) (x:Option (List Nd)) (m:Nat) (v:Value) (ks:List Int):Prop where
  sm:SM V src r B (fun g=>D g\/v.ownBlock=some g) w p x m
  row:w.ownsRow b 3 1 v ks.length (kidC ks)
  bl:b<=w.heap.size
theorem Sp.grow {i r:Nat} {w w1 w2:World} {row:Option Nat} (h:Sp i r w w1) (hg:w1.grownBy w2 row) (hb:∀ g,row=some g->w.heap.size<=g):Sp i r w w2:=by
 have hrl:=h.rl;have hr:w2.heap[r]?=w1.heap[r]?:=hg.block r (by have:=h.size;omega) (fun e=>by have:=hb r e.symm;omega);exact⟨hg.os.trans h.os,hg.tape.trans h.tape,hg.output.trans h.output,Nat.le_trans h.size hg.size,h.rl,fun g e1 e2 e3=>(hg.block g (by have:=h.size;omega) (fun e=>by have:=hb g e.symm;omega)).trans (h.block g e1 e2 e3),fun g e=>h.nb g (by rw[<- a3w hr];exact e)⟩
theorem a2Y {w:World} {b e k n g:Nat} {v:Value} {xs:List Value} (h:w.ownsRow b e k v n xs) (hg:v.ownBlock=some g):b<=g:=by
 obtain⟨_,h2⟩:=h;rcases h2 with⟨rfl,_⟩ | ⟨q,cap,cur,rfl,hb,_⟩
 .simp[Value.ownBlock] at hg
 simp[Value.ownBlock] at hg;omega
theorem a3x {w:World} {b b' e k n:Nat} {v:Value} {xs:List Value} (h:w.ownsRow b e k v n xs) (hb:b'<=b):w.ownsRow b' e k v n xs:=by
 obtain⟨h1,h2⟩:=h;refine⟨h1,?_⟩;rcases h2 with h2 | ⟨q,cap,cur,e1,h3,h4⟩
 .exact .inl h2
 exact .inr ⟨q,cap,cur,e1,Nat.le_trans hb h3,h4⟩
theorem KS.own {w:World} {b:Nat} {v:Value} {ks:List Int} (h:w.ownsRow b 3 1 v ks.length (kidC ks)):KS w v ks:=by
 obtain⟨a,c,e⟩:=a2c h;subst e;refine⟨⟨a,c,rfl,fun hp=>?_⟩,fun g o n c' e hp=>a0n h (by rw[e];rfl)⟩;obtain⟨h1,h2⟩:=h;rcases h2 with⟨_,h0⟩ | ⟨g,cap,cur,e,a1,a0,a2⟩
 .omega
 simp only[Value.slice.injEq] at e;obtain⟨rfl,_,rfl⟩:=e;refine⟨g,0,rfl,Nat.zero_le _,(Array.getElem?_eq_some_iff.1 a0).1,fun i hi=>⟨_,rfl,fun j hj=>?_⟩⟩
 have a3:j=0:=by omega
 subst a3;have:=a1M (j:=i) (u:=.int .i64 ks[i]) (⟨h1,.inr ⟨g,c,cur,rfl,a1,a0,a2⟩⟩:w.ownsRow b 3 1 _ ks.length (kidC ks)) (by simp[kidC,List.getElem?_eq_getElem hi]);simpa using this
section
variable {V : Env} {src : ByteArray} {r B : Nat} {D : Nat -> Prop} {b : Nat} {w : World} {p : Nat} {x : Option (List Nd)} {m : Nat} {v : Value} {ks : List Int}
theorem PK.step (h:PK V src r B D b w p x m v ks) {w':World} {q:Nat} {y:Option (List Nd)} {m':Nat} (s:SM V src r B (fun g=>D g\/v.ownBlock=some g) w' q y m') (f:Sp 3 r w w'):PK V src r B D b w' q y m' v ks:=
  ⟨s,a0L h.row (fun g hg=>(h.sm.nb (a0n h.row hg) (by decide) (by decide)).heap f),Nat.le_trans h.bl f.size⟩
theorem PK.below (h:PK V src r B D b w p x m v ks) {w':World} (hb:Below w.heap.size w w'):PK V src r B D b w' p x m v ks:=h.step (h.sm.below hb) (h.sm.sp.below hb)
theorem PK.nil (h:SM V src r B D w p x m) (hb:b<=w.heap.size):PK V src r B D b w p x m (.slice none 0 0) []:=
  ⟨h.sub (fun g hg=>by rcases hg with z | z;exact z;cases z),World.ownsRow_nil _ _ _ _,hb⟩
theorem PK.out (h:PK V src r B D b w p x m v ks):SM V src r B D w p x m:=h.sm.sub (fun g hg=>.inl hg)
theorem PK.kids (h:PK V src r B D b w p x m v ks):KS w v ks:=KS.own h.row
theorem PK.far (h:PK V src r B D b w p x m v ks) (hd:∀ g,D g->g<b):Out D v:=fun g hg a0=>by
 have:=a2Y h.row hg;have:=hd g a0;omega
theorem a5r (pk:PK V src r B D b w p x m v ks) (k:Int) (hl:ks.length<=100000) :
 ∃ v' w',(Builtin.append_ #[37,37] 37 #[v,.slice (some ⟨w.heap.size,0,none⟩) 1 1]).run prog (w.alloc (.cells #[.int .i64 k] 3))=.ok v' w'/\PK V src r B D b w' p x m v' (ks++[k])/\(∀ w0,Sp 3 r w0 w->w0.heap.size<=b->Sp 3 r w0 w')/\(w.alloc (.cells #[.int .i64 k] 3)).grownBy w' v.ownBlock/\(v'.ownBlock=v.ownBlock\/v'.ownBlock=some (w.heap.size+1)):=by
 obtain⟨i0,hi,a1,a2,a3⟩:=info_parts b1K;have a0:=below_alloc w (.cells #[.int .i64 k] 3)
 obtain⟨v',w',hrun,hown,hgrow,_,hat⟩:=run_append_own_at (P:=prog) (w.alloc (.cells #[.int .i64 k] 3)) b 37 37 3 i0 _ 1 8 underlying37 hi a1 a2 a3 rfl (by omega) v ks.length (kidC ks) (own_below pk.row a0) ⟨w.heap.size,0,none⟩ 1 1 [.int .i64 k] rfl (fun j u hj=>by
  rw[Addr.add_lit,World.cell?_alloc_at _ _ _ _ (by simp)]
  simpa using hj) (by simp[Value.oneCell']) (by unfold maxLen;omega) (by omega) (by have:=pk.bl;simp;omega)
 have hsz:=hgrow.size;simp at hsz;refine⟨v',w',hrun,⟨?_,?_,by have:=pk.bl;omega⟩,fun w0 s a4=>(s.alloc _).grow hgrow (fun g hg=>Nat.le_trans a4 (a2Y pk.row hg)),hgrow,by simpa using hat⟩
 .refine(pk.sm.alloc (.cells #[.int .i64 k] 3)).growD (fun g hg=>?_) (fun g a5 a6=>?_) hgrow (fun g hg=>⟨.inr hg,a4g (a0n pk.row hg) (a0.block g (a0x (a0n pk.row hg)))⟩)
  .rcases hg with z | z
   .have:=pk.sm.dl g (.inl z);omega
   exact a0x (a0n hown z)
  rcases a6 with z | z
  .exact .inl z
  rcases hat with z2 | z2
  .exact .inr (z2 ▸ z)
  rw[z] at z2
  have:g=w.heap.size+1:=by simpa using z2
  simp at a5;omega
 rw[show(ks++[k]).length=ks.length+1 by simp,show kidC (ks++[k])=kidC ks++[.int .i64 k] by simp[kidC]];exact hown
theorem a6d {ops:Array Oper} {rest:List Oper} {o:Oper} {a:Act} {Q:Exit->Act->World->Prop} (hgd:o.guard=none) (s z:Operand) (ho:o.op=.call { callee:=.builtin .append,args:=#[s,z],argTypes:=#[37,37] }) (hty:o.type=37) (pk:PK V src r B D b w p x m v ks) (k:Int) (hs:a.eval s=v) (hz:a.eval z=.slice (some ⟨w.heap.size,0,none⟩) 1 1) (hl:ks.length<=100000)
 (h:∀ v' w',PK V src r B D b w' p x m v' (ks++[k])->(∀ w0,Sp 3 r w0 w->w0.heap.size<=b->Sp 3 r w0 w')->wpList prog ops Q rest (a.put o.dst v') w'):wpList prog ops Q (o::rest) a (w.alloc (.cells #[.int .i64 k] 3)):=by
 obtain⟨v',w',hrun,h1,h2,_⟩:=a5r pk k hl
 have a0:(Builtin.append_ #[37,37] o.type #[v,.slice (some ⟨w.heap.size,0,none⟩) 1 1]).run prog (w.alloc (.cells #[.int .i64 k] 3))=.ok v' w':=by rw[hty];exact hrun
 exact Lib.wpList_append_run _ hgd s z 37 37 ho v _ hs hz v' w' a0 (h v' w' h1 h2)
end
theorem Lp.norm {α:Type} {V:Env} {d c:Nat} {F G:List Nd->R α} {p:Nat} {x:Option (List Nd)} {m q:Nat} {y:Option (List Nd)} {m':Nat} (h:Lp V d c F G p x m q y m') {o:List Nd} (e:y=some o) (c':Nat) (hc:d+c'<=c):Lp V 0 c' F G p x m q y m':=⟨h.no,h.yes,h.up,by
 have:=h.pt;rw[e] at this ⊢;simp only[Option.isSome_some,if_true] at this ⊢;omega⟩
def b6u (V:Env) (src:ByteArray) (r B:Nat) (D:Nat->Prop) (d:Nat) (F:List Nd->R (List Int)) (w:World) (p:Nat) (x:Option (List Nd)) (m:Nat) (e:Ending) (w':World):Prop:=
  ∃ v ks q y m',e=.returned v/\PK V src r B D w.heap.size w' q y m' v ks/\Sp 3 r w w'/\Res V d (520-d) F p x m q y m' ks/\ks.length<=5000
theorem PK.new0 {V:Env} {src:ByteArray} {r B:Nat} {D:Nat->Prop} {b:Nat} {w:World} {p:Nat} {x:Option (List Nd)} {m:Nat} (h:SM V src r B D w p x m) (hb:b<=w.heap.size):PK V src r B D b (w.alloc (.cells #[] 3)) p x m (.slice (some ⟨w.heap.size,0,none⟩) 0 0) []:=by
 refine⟨h.belowD (fun g hg=>?_) (fun g h1 hg=>?_) (below_alloc _ _),⟨rfl,.inr ⟨w.heap.size,0,#[],rfl,hb,heap_alloc_new _ _,Nat.le_refl _,by unfold maxLen;omega,rfl,rfl⟩⟩,by simp;omega⟩
 .rcases hg with z | z
  .have:=h.dl g z;simp;omega
  have:w.heap.size=g:=by simpa[Value.ownBlock] using z
  simp;omega
 rcases hg with z | z
 .exact z
 have:w.heap.size=g:=by simpa[Value.ownBlock] using z
 omega
theorem Res.listE {V:Env} {A:M Int} {k:Nat} {ks:List Int} {F:List Nd->R (List Int)} {p:Nat} {x:Option (List Nd)} {m q:Nat} {y:Option (List Nd)} {m2 q3 m3:Nat} {y3:Option (List Nd)} {a:Int} {d c cc:Nat} (l:Lp V 0 cc F (a1w V A k ks q) p x m q y m2) (hk:∀ o,y=some o->V.ts.length-q<k) (r:Res V d c (A q) q y m2 q3 y3 m3 a) (t:Tq V q3 y3 a1c false):Res V d c F p x m q3 y3 m3 (ks++[a]):=by
 have l1:Lp V 0 0 F (fun o=>(A q o).bind fun a q3 o=>if sees V q3 a1c then a1w V A (k-1) (ks++[a]) (q3+1) o else .ok (ks++[a]) q3 o) p x m q y m2:=(l.weak (Nat.le_refl _) (by omega)).congr (fun o e=>by
  have:=hk o e;obtain⟨k',rfl⟩:∃ k',k=k'+1:=⟨k-1,by omega⟩;rfl)
 exact(((l1.bind r (fun _=>rfl)).tkF t (fun _=>rfl)).weak (by omega) (by omega)).done (fun _ _=>rfl)
theorem a5s {V:Env} {src:ByteArray} {n:Nat} {A:M Int} (hV:VO V src) (hA:a0w V src 87 10 n A) {r B:Nat} {D:Nat->Prop} {w:World} {p:Nat} {x:Option (List Nd)} {m:Nat} (h:SM V src r B D w p x m) (hn:∀ o,x=some o->V.ts.length-p<n) (hp:pot V p x m+10<=4000000) :
 Calls prog 130 #[.pointer (some ⟨r,0,none⟩)] w fun e w'=>b6u V src r B D 10 (a0F V A p) w p x m e w':=by
 have hT:=hV.n;have hle:=h.le;have k0:=PK.new0 h (Nat.le_refl _);have s0:=h.sp.alloc (.cells #[] 3);have l0:=Lp.refl V (a0F V A p) p x m;go_enter func130,ntmps130;go_wp2_with fail;go_loopw [3] (fun kv wr=>∃ (ks:List Int) (k q:Nat) (y:Option (List Nd)) (m1:Nat),PK V src r B D w.heap.size wr q y m1 kv ks/\Sp 3 r w wr/\Hid (∀ o,y=some o->V.ts.length-q<k)/\Lp V 0 (1000*ks.length) (a0F V A p) (a1w V A k ks q) p x m q y m1/\Hid (ks.length<=4100)) (fun _ wr=>V.ts.length-atN r wr)
 case atStart=>exact⟨[],V.ts.length+1,p,x,m,k0,s0,(fun o _=>by omega:∀ o,x=some o->V.ts.length-p<V.ts.length+1),l0,(by simp:([]:List Int).length<=4100)⟩
 case round=>
 obtain⟨ks,k,q,y,m2,k2,s2,HK,l2,HL⟩:=hrel;have h2:=k2.sm;have a4:=h2.le;have a6:=l2.le;have hkl:=HL.out;have a1:=h2.atN;go_wp2_with fail;refine(hA h2 (l2.fuel hn) (by omega)).mono ?_;rintro e w3 ⟨a,q3,y3,m3,rfl,h3,z3,r3⟩;have k3:=k2.step h3 z3;have s3:=s2.trans z3;go_wp2_with (at_builtin;refine a6d rfl _ _ rfl rfl k3 a rfl rfl (by omega) ?_;intro v4 w4 k4 f4);have s4:=f4 w s3 (Nat.le_refl _);go_wp2_with fail;refine(a0b hV k4.sm a1c).mono ?_;rintro e w5 ⟨b5,rfl,t5,h5,z5⟩;have k5:=k4.step h5 z5;have s5:=s4.trans z5
 have a7:(ks++[a]).length=ks.length+1:=by simp
 cases b5 with
 | false=>
  have HR:=hid (Res.listE l2 HK.out r3 t5);go_wp2;go_ret;exact⟨_,_,_,_,_,rfl,k5,s5,HR.out,by omega⟩
 | true=>
 obtain⟨o5,e5,_,a8⟩:=t5.yes;obtain⟨_,oy,ey⟩:=r3.ok e5;have a9:=HK.out oy ey;obtain⟨k',rfl⟩:∃ k',k=k'+1:=⟨k-1,by omega⟩;have l5:=((l2.bind r3 (K:=fun a q3 o=>if sees V q3 a1c then a1w V A k' (ks++[a]) (q3+1) o else .ok (ks++[a]) q3 o) (fun _=>rfl)).tkT t5 (fun _=>rfl)).norm e5 (1000*(ks++[a]).length) (by omega);have hup:=r3.up;have a5:=h5.le;have a0:=h5.atN;simp only[stp,if_true] at a0;have hpo:=(l5.ok e5).1;have a2:=hid ((fun o _=>by omega):∀ o,y3=some o->V.ts.length-(q3+1)<k');have a3:=hid ((by omega):(ks++[a]).length<=4100);go_wp2;go_roundw
 case rel=>exact⟨_,_,_,_,_,k5,s5,a2,l5,a3⟩
 case measure=>rw[a1,a0];omega
end Go.Proofs.YtphmpkpcamgjeaaGreatDoor
