import Derived.Test.YtphmpkpcamgjeaaGreatDoorXAA
import Derived.Test.YtphmpkpcamgjeaaGreatDoorXAW
import Derived.Test.YtphmpkpcamgjeaaGreatDoorXBA
import Derived.Test.YtphmpkpcamgjeaaGreatDoorXBB
set_option linter.unusedVariables false
set_option linter.unusedSimpArgs false
set_option maxRecDepth 100000
set_option maxHeartbeats 16000000
namespace Go.Proofs.YtphmpkpcamgjeaaGreatDoor
open Go.ChangeShapes Go.WideShapes Go.ChangeAt Go.RowKit Go.Proofs.Tryz
open Go.Maps
section
variable {V : Env} {Mx : DataW Unit} {r B : Nat} {D : Nat -> Prop} {w : World} {p : Nat} {o : List Nd} {m : Nat} {E Q : M Int}
theorem b5p (hV:IV V Mx) (hQ:a0p V Mx 78 m Q) (gQ:Gro 900 Q) (h:IM V Mx r B D w p o) (hn:V.ts.length-p<m+1) (hl:o.length<=1000*p+500) :
 Calls prog 214 #[.pointer (some ⟨r,0,none⟩)] w fun e w'=>IPost V Mx r B D vInt (a1x V Q p o) w e w':=by
 have hmf:=@mkf;have hT:=hV.n;have hle:=h.le;obtain⟨F0,L0⟩:=hidEq (a1x V Q p o);rw[<- L0.out];go_enter func214,ntmps214;go_wp2_with fail;refine(a0v hV h).mono ?_;rintro e g1 ⟨rfl,a9⟩;have c7:=h.spB a9;have a7:=h.below a9;have c8:=h.sp.trans c7;go_wp2_with fail;refine(a3L hV a7 g_lp).mono ?_;rintro e g2 ⟨rfl,b0⟩;have c9:=a7.spB b0;have b1:=a7.below b0;have a5:=c8.trans c9
 cases a6:sees V p g_lp with
 | false=>
  have a4:=hid (It.seF L0.out a6 rfl);go_wp2_with fail;refine(a3k hV b1).mono ?_;rintro e g3 (⟨a0,rfl,d0,d1⟩ | ⟨a0,rfl,c1⟩)
  rotate_left
  .exact bd (It.nameF a4.out a0 rfl) ((h.low a5).trans c1)
  have b2:=a5.trans d1;have b3:=hid (It.nameT a4.out a0 rfl);have f4:=a3V a0;go_wp2_with fail;refine(a8z hV d0).mono ?_;intro e g4 c2;rcases c2.cs with⟨g5,a1,rfl,c3⟩ | ⟨d2,g6,g7,a1,rfl,b4,d3⟩
  .exact bd (It.bad b3.out a1 rfl) ((h.low b2).trans c3)
  have f5:=a3b _ _ _ _ _ a1;have d4:=b2.trans d3;have f0:=b4.le;have d5:=hid (It.ok b3.out a1 rfl);go_wp2_with fail;refine(add0 b4 (by omega) ({ op:=31,name:=(V.tx p),qual:=d2,pos:=V.pos p }:Nd) rfl).mono ?_;rintro e g8 ⟨rfl,b5,d6⟩;have d7:=d4.trans d6;have d8:=hid (It.done d5.out rfl);have f6:=b5.ol;exact okI d8.out b5 d7
 | true=>
 have a4:=hid (It.seT L0.out a6 rfl);have f7:=a0c a6;go_wp2_with fail;refine(a3l (n:=m) hV a4s hQ gQ b1 (by omega) (by omega)).mono ?_;intro e g9 c4;rcases c4.cs with⟨h0,a2,rfl,c5⟩ | ⟨d9,a8,h1,a2,rfl,b6,e0⟩
 .exact bd (It.bad a4.out a2 rfl) ((h.low a5).trans c5)
 have f8:=(a2p gQ) _ _ _ _ _ a2;have e1:=a5.trans e0;have f1:=b6.le;have b7:=hid (It.ok a4.out a2 rfl);go_wp2_with fail;refine(a1m hV b6 k_as).mono ?_;rintro e h2 ⟨rfl,b8,e2⟩;have f2:=a5z (sees V a8 k_as);have b9:=e1.trans e2;have f3:=b8.le;go_wp2_with fail;refine(a3k hV b8).mono ?_;rintro e h3 (⟨a3,rfl,e3,e4⟩ | ⟨a3,rfl,c6⟩)
 rotate_left
 .exact bd (It.nameF b7.out a3 rfl) ((h.low b9).trans c6)
 have e5:=b9.trans e4;have e6:=hid (It.nameT b7.out a3 rfl);have f9:=a3V a3;go_wp2_with fail;refine(addZ e3 (by omega) ({ op:=32,name:=(V.tx (a8+stp (sees V a8 k_as))),kids:=[d9],pos:=V.pos p }:Nd) (by simp)).mono ?_;rintro e h4 ⟨rfl,c0,e7⟩;have e8:=e5.trans e7;have e9:=hid (It.done e6.out rfl);have g0:=c0.ol;exact okI e9.out c0 e8
theorem b8Q (hV:IV V Mx) (h:IM V Mx r B D w p o) :
 Calls prog 215 #[.pointer (some ⟨r,0,none⟩)] w fun e w'=>IPost V Mx r B D vInt (a6B V p o) w e w':=by
 have hT:=hV.n;have hle:=h.le;obtain⟨F0,L0⟩:=hidEq (a6B V p o);rw[<- L0.out];go_enter func215,ntmps215;go_wp2_with fail;refine(a0N hV h a1V).mono ?_;rintro e f0 (⟨a0,rfl,b5,b6⟩ | ⟨a0,rfl,b5,b6⟩)
 .have b0:=h.sp.trans b6;have b1:=hid (It.seT L0.out a0 rfl);have e3:=a0c a0;exact okI b1.out b5 b0
 have b0:=h.sp.trans b6;have b1:=hid (It.seF L0.out a0 rfl);go_wp2_with fail;refine(a0N hV b5 a5n).mono ?_;rintro e f1 (⟨a1,rfl,b7,b8⟩ | ⟨a1,rfl,b7,b8⟩)
 .have a7:=b0.trans b8;have a8:=hid (It.seT b1.out a1 rfl);have e4:=a0c a1;go_wp2_with fail;refine(a0u hV b7 a1V).mono ?_;rintro e f2 (⟨a2,rfl,c8,c9⟩ | ⟨a2,rfl,c5⟩)
  rotate_left
  .exact bd (It.mustF a8.out a2 rfl) ((h.low a7).trans c5)
  have d0:=a7.trans c9;have d1:=hid (It.mustT a8.out a2 rfl);have e5:=a0c a2;exact okI d1.out c8 d0
 have a7:=b0.trans b8;have a8:=hid (It.seF b1.out a1 rfl);go_wp2_with fail;refine(a0N hV b7 a7m).mono ?_;rintro e f3 (⟨a3,rfl,b9,c0⟩ | ⟨a3,rfl,b9,c0⟩)
 .have b2:=a7.trans c0;have a9:=hid (It.seT a8.out a3 rfl);have e6:=a0c a3;go_wp2_with fail;refine(a1m hV b9 a6A).mono ?_;rintro e f4 ⟨rfl,c3,d2⟩;have e1:=a5z (sees V (p+1) a6A);have c4:=b2.trans d2;have e2:=c3.le;go_wp2_with fail;refine(a0u hV c3 a1V).mono ?_;rintro e f5 (⟨a4,rfl,d3,d4⟩ | ⟨a4,rfl,c6⟩)
  rotate_left
  .exact bd (It.mustF a9.out a4 rfl) ((h.low c4).trans c6)
  have d5:=c4.trans d4;have d6:=hid (It.mustT a9.out a4 rfl);have e7:=a0c a4;exact okI d6.out d3 d5
 have b2:=a7.trans c0;have a9:=hid (It.seF a8.out a3 rfl);go_wp2_with fail;refine(a0N hV b9 a5o).mono ?_;rintro e f6 (⟨a5,rfl,c1,c2⟩ | ⟨a5,rfl,c1,c2⟩)
 .have b3:=b2.trans c2;have b4:=hid (It.seT a9.out a5 rfl);have e8:=a0c a5;go_wp2_with fail;refine(a0u hV c1 a1V).mono ?_;rintro e f7 (⟨a6,rfl,d7,d8⟩ | ⟨a6,rfl,c7⟩)
  rotate_left
  .exact bd (It.mustF b4.out a6 rfl) ((h.low b3).trans c7)
  have d9:=b3.trans d8;have e0:=hid (It.mustT b4.out a6 rfl);have e9:=a0c a6;exact okI e0.out d7 d9
 have b3:=b2.trans c2;have b4:=hid (It.seF a9.out a5 rfl);exact okI b4.out c1 b3
end
end Go.Proofs.YtphmpkpcamgjeaaGreatDoor
namespace Go.Proofs.YtphmpkpcamgjeaaGreatDoor
open Go.ChangeShapes Go.WideShapes Go.ChangeAt Go.RowKit Go.Proofs.Tryz
open Go.Maps
theorem b7B {V:Env} {E Q:M Int} {k q:Nat} {l:Int} {o:List Nd} (hk:V.ts.length-q<k):a2W V E Q k l q o=(a6B V q o).bind fun j q1 o=>if j=0 then .ok l q1 o
    else(a1x V Q q1 o).bind fun m q1 o=>if j=3 then(lay { op:=33,n:=j,kids:=[l,m],pos:=V.pos q } q1 o).bind fun c q1 o=>a2W V E Q (k-1) c q1 o
 else(must V k_on q1 o).bind fun _ q1 o=>(E q1 o).bind fun c q1 o=>(lay { op:=33,n:=j,kids:=[l,m,c],pos:=V.pos q } q1 o).bind fun c q1 o=>a2W V E Q (k-1) c q1 o:=by
 obtain⟨k',rfl⟩:∃ k',k=k'+1:=⟨k-1,by omega⟩;rfl
section
variable {V : Env} {Mx : DataW Unit} {r B : Nat} {D : Nat -> Prop} {w : World} {p : Nat} {o : List Nd} {m : Nat} {E Q : M Int}
theorem b8R (hV:IV V Mx) (hE:a0p V Mx 147 (m+1) E) (gE:Gro 999 E) (hS:a0p V Mx 214 (m+1) (a1x V Q)) (gQ:Gro 900 Q) (h:IM V Mx r B D w p o) (hn:V.ts.length-p<m+1) (hl:o.length<=1000*p+500) :
 Calls prog 193 #[.pointer (some ⟨r,0,none⟩)] w fun e w'=>IPost V Mx r B D vInt (a2R V E Q p o) w e w':=by
 have hT:=hV.n;have hle:=h.le;obtain⟨F0,L0⟩:=hidEq (a2R V E Q p o);rw[<- L0.out];go_enter func193,ntmps193;go_wp2_with fail;refine(hS h (by omega) (by omega)).mono ?_;intro e k6 f2;rcases f2.cs with⟨k7,a3,rfl,f3⟩ | ⟨g2,g3,g4,a3,rfl,c6,g5⟩
 .exact bd (It.bad L0.out a3 rfl) ((h.low h.sp).trans f3)
 have j7:=(a3i gQ) _ _ _ _ _ a3;have g6:=h.sp.trans g5;have j3:=c6.le;have g7:=hid (It.ok L0.out a3 rfl);go_wp2_with fail;go_loopw [3] (fun lv wr=>∃ (l:Int) (k q:Nat) (o2:List Nd),lv=.int .i64 l/\IM V Mx r B D wr q o2/\Sp 4 r w wr/\Hid (F0=a2W V E Q k l q o2)/\V.ts.length-q<k/\V.ts.length-q<m+1/\o2.length<=1000*q+400) (fun _ wr=>V.ts.length-atI r wr)
 case atStart=>exact⟨g2,V.ts.length+1,g3,g4,rfl,c6,g6,g7,by omega,by omega,by omega⟩
 case round=>
 obtain⟨l,k,q,o2,rfl,h2,s2,L2,j2,m5,m6⟩:=hrel;have k8:=h2.le;have g1:=h2.atI;have L3:=hid (L2.out.trans (b7B j2));go_wp2_with fail;refine(a0v hV h2).mono ?_;rintro e g8 ⟨rfl,c7⟩;have g9:=h2.spB c7;have b1:=h2.below c7;have c8:=s2.trans g9;have c0:=NI.new b1 { op:=33,pos:=(V.pos q) };have h0:=b1.sp.alloc (.cells (ndA { op:=33,pos:=(V.pos q) } (.slice none 0 0)) 42);have h1:=b1.alloc (.cells (ndA { op:=33,pos:=(V.pos q) } (.slice none 0 0)) 42);have ng_n:w.heap.size<=g8.heap.size:=c8.size;have c9:=c8.trans h0;go_wp2_with fail;refine(b8Q hV h1).mono ?_;intro e k9 f4;rcases f4.cs with⟨l0,a4,rfl,f5⟩ | ⟨a1,l1,l2,a4,rfl,b2,e0⟩
 .exact bd (It.bad L3.out a4 rfl) ((h.low c9).trans f5)
 have a0:=c0.step e0;have e1:=c9.trans e0;have j4:=b2.le;have e2:=hid (It.ok L3.out a4 rfl);obtain⟨jl,jo,jz,jn⟩:=a7y _ _ _ _ _ a4;subst jo;by_cases hj0:a1=0
 .have LN:=hid (e2.out.trans (if_pos hj0));subst hj0;obtain⟨d0,d1,d2,d3,d4,d5,d6,d7,d8,d9⟩:=a0.cells;have dz:=a0.fz;have h3:=a0.im b2 3 (.int .i64 0);have h4:=e1.set (j:=3) (.int .i64 0) ng_n;exact okI LN.out h3 h4
 have LN:=hid (e2.out.trans (if_neg hj0));have jq:=jn hj0
 have l3:(a1==0)=false:=by simpa using hj0
 obtain⟨d0,d1,d2,d3,d4,d5,d6,d7,d8,d9⟩:=a0.cells;have dz:=a0.fz;have c1:=a0.set 3 (.int .i64 a1) { op:=33,n:=a1,pos:=(V.pos q) } rfl;have h5:=a0.im b2 3 (.int .i64 a1);have e3:=e1.set (j:=3) (.int .i64 a1) ng_n;go_wp2_with fail;clear d0 d1 d2 d3 d4 d5 d6 d7 d8 d9 dz;refine(hS h5 (by omega) (by omega)).mono ?_;intro e l4 f6;rcases f6.cs with⟨l5,a5,rfl,f7⟩ | ⟨a8,h6,l6,a5,rfl,b3,e4⟩
 .exact bd (It.bad LN.out a5 rfl) ((h.low e3).trans f7)
 have j8:=(a3i gQ) _ _ _ _ _ a5;have c2:=c1.step e4;have e5:=e3.trans e4;have j5:=b3.le;have e6:=hid (It.ok LN.out a5 rfl);have b0:=PI.lit b3 (b:=w.heap.size) e5.size [l,a8] (by simp) (by simp);have b4:=e5.alloc (.cells #[.int .i64 l,.int .i64 a8] 3);have a2:=c2.step (b3.sp.alloc (.cells #[.int .i64 l,.int .i64 a8] 3));by_cases hj3:a1=3
 .have LM:=hid (e6.out.trans (if_pos hj3))
  have h7:(a1 != 3)=false:=by simpa using hj3
  clear hj3;obtain⟨d0,d1,d2,d3,d4,d5,d6,d7,d8,d9⟩:=a2.cells;have dz:=a2.fz;go_wp2_with fail;refine(add_any b0.out (by omega) ({ op:=33,n:=a1,kids:=[l,a8],pos:=(V.pos q) }:Nd) _ b0.kids (by simp)).mono ?_;clear d0 d1 d2 d3 d4 d5 d6 d7 d8 d9 dz;rintro e l7 ⟨rfl,b5,h8⟩;have h9:=b4.trans h8;have i0:=hid (It.layT LM.out rfl);have j9:=b5.ol;have c5:=b5.atI;go_wp2;go_roundw
  case rel=>exact⟨_,k-1,h6,_,rfl,b5,h9,i0,by omega,by omega,by omega⟩
  case measure=>rw[g1,c5];omega
 have LM:=hid (e6.out.trans (if_neg hj3))
 have h7:(a1 != 3)=true:=by simpa using hj3
 obtain⟨d0,d1,d2,d3,d4,d5,d6,d7,d8,d9⟩:=a2.cells;have dz:=a2.fz;go_wp2_with fail;refine(a0u hV b0.sm k_on).mono ?_;clear d0 d1 d2 d3 d4 d5 d6 d7 d8 d9 dz;rintro e l8 (⟨a6,rfl,i1,b6⟩ | ⟨a6,rfl,f8⟩)
 rotate_left
 .exact bd (It.mustF LM.out a6 rfl) ((h.low b4).trans f8)
 have c3:=a2.step b6;have e7:=b4.trans b6;have e8:=b0.step i1 b6;have e9:=hid (It.mustT LM.out a6 rfl);have k0:=a0c a6;go_wp2_with fail;refine(hE e8.sm (by omega) (by omega)).mono ?_;intro e l9 f9;rcases f9.cs with⟨m0,a7,rfl,g0⟩ | ⟨f0,i2,m1,a7,rfl,f1,b7⟩
 .exact bd (It.bad e9.out a7 rfl) ((h.low e7).trans g0)
 have k1:=gE _ _ _ _ _ a7;have c4:=c3.step b7;have i3:=e7.trans b7;have i4:=e8.step f1 b7;have j6:=f1.le;have i5:=hid (It.ok e9.out a7 rfl);go_wp2_with (at_builtin;refine a0s rfl _ _ rfl rfl i4 c4 f0 rfl rfl (by first | (simp;done) | (simp;omega) | omega) ?_;intro m2 m3 b8 i6 a9;obtain⟨k2,k3,k4,i7⟩:=a1J b8.row;subst i7;obtain⟨d0,d1,d2,d3,d4,d5,d6,d7,d8,d9⟩:=a9.cells;have dz:=a9.fz);have i8:=i6 w i3 (Nat.le_refl _);go_wp2_with fail;refine(add_any b8.out (by omega) ({ op:=33,n:=a1,kids:=([l,a8]++[f0]),pos:=(V.pos q) }:Nd) _ b8.kids (by simp)).mono ?_;clear d0 d1 d2 d3 d4 d5 d6 d7 d8 d9 dz;rintro e m4 ⟨rfl,b9,i9⟩;have j0:=i8.trans i9;have j1:=hid (It.layT i5.out rfl);have k5:=b9.ol
 have c5:=b9.atI;go_wp2;go_roundw
 case rel=>exact⟨_,k-1,i2,_,rfl,b9,j0,j1,by omega,by omega,by omega⟩
 case measure=>rw[g1,c5];omega
end
end Go.Proofs.YtphmpkpcamgjeaaGreatDoor
namespace Go.Proofs.YtphmpkpcamgjeaaGreatDoor
open Go.ChangeShapes Go.WideShapes Go.ChangeAt Go.RowKit Go.Proofs.Tryz
open Go.Maps
theorem b1V {V:Env} {E:M Int} (hE:Gro 999 E):Gro 1000 (a6m V E):=fun p o a q o' h=>by
 unfold a6m at h;simp only[R.bind_iff,a0y,a0E] at h;obtain⟨_,_,_,⟨_,rfl,rfl⟩,_,_,_,⟨_,rfl,rfl⟩,b,s,u,h1,rfl,rfl,rfl⟩:=h;have e1:=a0D (a4p hE) (by omega) _ _ _ _ _ h1;simp;omega
theorem a5h {V:Env}:Gr0 1 (limF V):=fun p o a q o' h=>by
 unfold limF at h;simp only[R.bind_iff,a0y] at h;obtain⟨b,s,u,h1,b2,s2,u2,h2,rfl,rfl,rfl⟩:=h;have e1:=a5f _ _ _ _ _ _ h1;have e2:=a5f _ _ _ _ _ _ h2;simp;omega
theorem b8V {V:Env} {E:M Int} {ps:Int} {ks:List Int} {q:Nat} {o:List Nd} (h:sees V q a2m=true):qry2 V E ps ks q o=(a6m V E q o).bind fun c r o=>qry3 V ps (ks++[c]) r o:=by
 unfold qry2 a6m;rw[if_pos h,show must V a2m q o=.ok () (q+1) o by simp[must,h],R.bind_ok,R.bind_assoc];congr 1;funext a p o;rw[R.bind_assoc]
theorem b1a {V:Env} (hX:IX V) {ps:Int} {ks:List Int} {q:Nat} {o:List Nd} (h:sees V q a1Z=true\/sees V q a0K=true):qry3 V ps ks q o=(limF V q o).bind fun c r o=>qry4 ps (ks++[c]) r o:=by
 unfold qry3 limF
 have hc:∀ p o a q o',a0X V p o=.ok a q o'->0<=a:=fun p o a q o' h=>by
  unfold a0X at h;simp only[a0o] at h;rcases h with⟨hk,h⟩ | ⟨_,h⟩
  .simp at h;obtain⟨rfl,rfl,rfl⟩:=h;exact hX.rin p (by simpa using hk)
  simp at h
 rw[R.bind_assoc]
 cases hl:sees V q a1Z with
 | true=>
  rw[a7G hl]
  cases hn:a0X V (q+1) o with
  | bad t=>rfl
  | ok a q1 o1=>
  have ha:=hc _ _ _ _ _ hn;rw[R.bind_ok,R.bind_ok,R.bind_assoc]
  cases numF V a0K q1 o1 with
  | bad t=>rfl
  | ok b q2 o2=>
  rw[R.bind_ok,R.bind_ok,if_pos (by simp[ha])]
 | false=>
 have ho:sees V q a0K=true:=by
  rcases h with z | z
  .rw[hl] at z;cases z
  exact z
 rw[a6n hl,R.bind_ok,R.bind_ok,R.bind_assoc,a7G ho]
 cases hn:a0X V (q+1) o with
 | bad t=>rfl
 | ok b q2 o2=>
 have hb:=hc _ _ _ _ _ hn;rw[R.bind_ok,R.bind_ok,if_pos (by simp[hb])]
theorem b6A {V:Env} {ps:Int} {ks:List Int} {q:Nat} {o:List Nd} (h1:sees V q a1Z=false) (h2:sees V q a0K=false):qry3 V ps ks q o=qry4 ps ks q o:=by
 unfold qry3;rw[a6n h1,R.bind_ok,a6n h2,R.bind_ok,if_neg (by simp)]
section
variable {V : Env} {Mx : DataW Unit} {r B : Nat} {D : Nat -> Prop} {w : World} {p : Nat} {o : List Nd} {m : Nat} {E Q : M Int}
theorem b7G (hV:IV V Mx) (hX:IX V) (gE:Gro 999 E) (gQ:Gro 900 Q) (hB:a0p V Mx 120 (m+1) (bodyF V E Q)) (hK:a0p V Mx 151 (m+1) (keyF V E)) (h:IM V Mx r B D w p o) (hn:V.ts.length-p<m+1) (hl:o.length<=1000*p+500) :
 Calls prog 78 #[.pointer (some ⟨r,0,none⟩)] w fun e w'=>IPost V Mx r B D vInt (a2M V E Q p o) w e w':=by
 have hT:=hV.n;have hle:=h.le;obtain⟨F0,L0⟩:=hidEq (a2M V E Q p o);rw[<- L0.out];go_enter func78,ntmps78;go_wp2_with fail;refine(a0v hV h).mono ?_;rintro e r9 ⟨rfl,d1⟩;have i3:=h.spB d1;have i4:=h.below d1;have d2:=h.sp.trans i3;go_wp2_with fail;refine(hB i4 (by omega) (by omega)).mono ?_;intro e s0 h1;rcases h1.cs with⟨s1,a4,rfl,h2⟩ | ⟨a0,c0,s2,a4,rfl,d3,i5⟩
 .exact bd (It.bad L0.out a4 rfl) ((h.low d2).trans h2)
 have o7:=(a7B gE gQ) _ _ _ _ _ a4;have d4:=d2.trans i5;have o1:=d3.le;have d5:=hid (It.ok L0.out a4 rfl);have b1:=PI.lit d3 (b:=w.heap.size) d4.size [a0] (by simp) (by simp);have i6:=d4.alloc (.cells #[.int .i64 a0] 3);go_wp2_with fail;refine(a3L hV b1.sm a2m).mono ?_;rintro e s3 ⟨rfl,d6⟩;have d7:=b1.sm.spB d6;have i7:=b1.sm.below d6;have c1:=i6.trans d7;have a1:=b1.step i7 d7
 cases b5:sees V c0 a2m with
 | false=>
  have M1:=hid (It.seF d5.out b5 rfl);go_wp2_with fail;refine(a3L hV a1.sm a1Z).mono ?_;rintro e s4 ⟨rfl,d8⟩;have d9:=a1.sm.spB d8;have i8:=a1.sm.below d8;have c2:=c1.trans d9;have a2:=a1.step i8 d9
  cases b6:sees V c0 a1Z with
  | true=>
   have o8:=a0c b6;have e0:=hid (M1.out.trans (b1a hX (.inl b6)));go_wp2_with fail;refine(a6G (m:=m) hV hX a2.sm (by omega) (by omega)).mono ?_;intro e s5 h3;rcases h3.cs with⟨s6,a5,rfl,h4⟩ | ⟨e1,s7,s8,a5,rfl,e2,e3⟩
   .exact bd (It.bad e0.out a5 rfl) ((h.low c2).trans h4)
   have o9:=a5h _ _ _ _ _ a5;have i9:=c2.trans e3;have j0:=a2.step e2 e3;have o2:=e2.le;have j1:=hid (It.ok e0.out a5 rfl);go_wp2_with (at_builtin;refine a2d rfl _ _ rfl rfl j0 e1 rfl rfl (by first | (simp;done) | (simp;omega) | omega) ?_;intro s9 t0 c3 j2;obtain⟨p0,p1,p2,j3⟩:=a1J c3.row;subst j3);have j4:=j2 w i9 (Nat.le_refl _);go_wp2_with fail;refine(add_any c3.out (by omega) ({ op:=27,kids:=([a0]++[e1]),pos:=V.pos p }:Nd) _ c3.kids (by first | (simp;done) | (simp;omega) | omega)).mono ?_;rintro e t1 ⟨rfl,e4,j5⟩;have j6:=j4.trans j5;have j7:=hid (It.done j1.out rfl);have p3:=e4.ol;exact okI j7.out e4 j6
  | false=>
  go_wp2_with fail;refine(a3L hV a2.sm a0K).mono ?_;rintro e t2 ⟨rfl,e5⟩;have e6:=a2.sm.spB e5;have j8:=a2.sm.below e5;have c4:=c2.trans e6;have b2:=a2.step j8 e6
  cases b7:sees V c0 a0K with
  | false=>
   have j9:=hid (M1.out.trans (b6A b6 b7));go_wp2_with fail;refine(add_any b2.out (by omega) ({ op:=27,kids:=[a0],pos:=V.pos p }:Nd) _ b2.kids (by first | (simp;done) | (simp;omega) | omega)).mono ?_;rintro e t3 ⟨rfl,e7,k0⟩;have k1:=c4.trans k0;have k2:=hid (It.done j9.out rfl);have p4:=e7.ol;exact okI k2.out e7 k1
  | true=>
  have p5:=a0c b7;have e8:=hid (M1.out.trans (b1a hX (.inr b7)));go_wp2_with fail;refine(a6G (m:=m) hV hX b2.sm (by omega) (by omega)).mono ?_;intro e t4 h5;rcases h5.cs with⟨t5,a6,rfl,h6⟩ | ⟨e9,t6,t7,a6,rfl,f0,f1⟩
  .exact bd (It.bad e8.out a6 rfl) ((h.low c4).trans h6)
  have p6:=a5h _ _ _ _ _ a6;have k3:=c4.trans f1;have k4:=b2.step f0 f1;have o3:=f0.le;have k5:=hid (It.ok e8.out a6 rfl);go_wp2_with (at_builtin;refine a2d rfl _ _ rfl rfl k4 e9 rfl rfl (by first | (simp;done) | (simp;omega) | omega) ?_;intro t8 t9 c5 k6;obtain⟨p7,p8,p9,k7⟩:=a1J c5.row;subst k7);have k8:=k6 w k3 (Nat.le_refl _);go_wp2_with fail;refine(add_any c5.out (by omega) ({ op:=27,kids:=([a0]++[e9]),pos:=V.pos p }:Nd) _ c5.kids (by first | (simp;done) | (simp;omega) | omega)).mono ?_;rintro e u0 ⟨rfl,f2,k9⟩;have l0:=k8.trans k9;have l1:=hid (It.done k5.out rfl);have q0:=f2.ol;exact okI l1.out f2 l0
 | true=>
 have q1:=a0c b5;have M1:=hid (d5.out.trans (b8V b5));go_wp2_with fail;refine(b7F hV gE hK a1.sm (by omega) (by omega)).mono ?_;intro e u1 h7;rcases h7.cs with⟨u2,a7,rfl,h8⟩ | ⟨b3,f3,u3,a7,rfl,f4,f5⟩
 .exact bd (It.bad M1.out a7 rfl) ((h.low c1).trans h8)
 have q2:=(b1V gE) _ _ _ _ _ a7;have l2:=c1.trans f5;have l3:=a1.step f4 f5;have o4:=f4.le;have c6:=hid (It.ok M1.out a7 rfl);go_wp2_with (at_builtin;refine a2d rfl _ _ rfl rfl l3 b3 rfl rfl (by first | (simp;done) | (simp;omega) | omega) ?_;intro u4 u5 b0 l4;obtain⟨q3,q4,q5,l5⟩:=a1J b0.row;subst l5);have l6:=l4 w l2 (Nat.le_refl _);go_wp2_with fail;refine(a3L hV b0.sm a1Z).mono ?_;rintro e u6 ⟨rfl,f6⟩;have f7:=b0.sm.spB f6;have l7:=b0.sm.below f6;have c7:=l6.trans f7;have a3:=b0.step l7 f7
 cases b8:sees V f3 a1Z with
 | true=>
  have q6:=a0c b8;have f8:=hid (c6.out.trans (b1a hX (.inl b8)));go_wp2_with fail;refine(a6G (m:=m) hV hX a3.sm (by omega) (by omega)).mono ?_;intro e u7 h9;rcases h9.cs with⟨u8,a8,rfl,i0⟩ | ⟨f9,u9,v0,a8,rfl,g0,g1⟩
  .exact bd (It.bad f8.out a8 rfl) ((h.low c7).trans i0)
  have q7:=a5h _ _ _ _ _ a8;have l8:=c7.trans g1;have l9:=a3.step g0 g1;have o5:=g0.le;have m0:=hid (It.ok f8.out a8 rfl);go_wp2_with (at_builtin;refine a2d rfl _ _ rfl rfl l9 f9 rfl rfl (by first | (simp;done) | (simp;omega) | omega) ?_;intro v1 v2 c8 m1;obtain⟨q8,q9,r0,m2⟩:=a1J c8.row;subst m2);have m3:=m1 w l8 (Nat.le_refl _);go_wp2_with fail;refine(add_any c8.out (by omega) ({ op:=27,kids:=(([a0]++[b3])++[f9]),pos:=V.pos p }:Nd) _ c8.kids (by first | (simp;done) | (simp;omega) | omega)).mono ?_;rintro e v3 ⟨rfl,g2,m4⟩;have m5:=m3.trans m4;have m6:=hid (It.done m0.out rfl);have r1:=g2.ol;exact okI m6.out g2 m5
 | false=>
 go_wp2_with fail;refine(a3L hV a3.sm a0K).mono ?_;rintro e v4 ⟨rfl,g3⟩;have g4:=a3.sm.spB g3;have m7:=a3.sm.below g3;have c9:=c7.trans g4;have b4:=a3.step m7 g4
 cases b9:sees V f3 a0K with
 | false=>
  have m8:=hid (c6.out.trans (b6A b8 b9));go_wp2_with fail;refine(add_any b4.out (by omega) ({ op:=27,kids:=([a0]++[b3]),pos:=V.pos p }:Nd) _ b4.kids (by first | (simp;done) | (simp;omega) | omega)).mono ?_;rintro e v5 ⟨rfl,g5,m9⟩;have n0:=c9.trans m9;have n1:=hid (It.done m8.out rfl);have r2:=g5.ol;exact okI n1.out g5 n0
 | true=>
 have r3:=a0c b9;have g6:=hid (c6.out.trans (b1a hX (.inr b9)));go_wp2_with fail;refine(a6G (m:=m) hV hX b4.sm (by omega) (by omega)).mono ?_;intro e v6 i1;rcases i1.cs with⟨v7,a9,rfl,i2⟩ | ⟨g7,v8,v9,a9,rfl,g8,g9⟩
 .exact bd (It.bad g6.out a9 rfl) ((h.low c9).trans i2)
 have r4:=a5h _ _ _ _ _ a9;have n2:=c9.trans g9;have n3:=b4.step g8 g9;have o6:=g8.le;have n4:=hid (It.ok g6.out a9 rfl);go_wp2_with (at_builtin;refine a2d rfl _ _ rfl rfl n3 g7 rfl rfl (by first | (simp;done) | (simp;omega) | omega) ?_;intro w0 w1 d0 n5;obtain⟨r5,r6,r7,n6⟩:=a1J d0.row;subst n6);have n7:=n5 w n2 (Nat.le_refl _);go_wp2_with fail;refine(add_any d0.out (by omega) ({ op:=27,kids:=(([a0]++[b3])++[g7]),pos:=V.pos p }:Nd) _ d0.kids (by first | (simp;done) | (simp;omega) | omega)).mono ?_;rintro e w2 ⟨rfl,h0,n8⟩;have n9:=n7.trans n8;have o0:=hid (It.done n4.out rfl);have r8:=h0.ol;exact okI o0.out h0 n9
theorem b3x (hV:IV V Mx) (hX:IX V) (hLP:∀ p,sees V p g_lp=true->isNm V p=false) {E Q:M Int} (hE:a0p V Mx 147 m E) (gE:Gro 999 E) (hQ:a0p V Mx 78 m Q) (gQ:Gro 900 Q):a0p V Mx 171 (m+1) (negF V E Q)/\a0p V Mx 147 (m+1) (a2t V E Q)/\a0p V Mx 78 (m+1) (a2M V (a2t V E Q) Q):=by
 obtain⟨n1,e1⟩:=b8P hV hX hLP hE gE hQ gQ;have g1:Gro 999 (a2t V E Q):=a2E gE gQ;have i1:a0p V Mx 213 (m+1) (a2D V (a2t V E Q)):=fun h hn hl=>b8S hV e1 g1 h hn hl;have s1:a0p V Mx 214 (m+1) (a1x V Q):=fun h hn hl=>b5p hV hQ gQ h hn hl;have f1:a0p V Mx 193 (m+1) (a2R V (a2t V E Q) Q):=fun h hn hl=>b8R hV e1 g1 s1 gQ h hn hl;have l1:a0p V Mx 172 (m+1) (selF V (a2t V E Q) Q):=fun h hn hl=>a8B hV e1 g1 i1 f1 gQ h hn hl;have t1:a0p V Mx 150 (m+1) (a2I V (a2t V E Q) Q):=fun h hn hl=>b8T hV hQ gQ l1 h hn hl;have b1:a0p V Mx 120 (m+1) (bodyF V (a2t V E Q) Q):=fun h hn hl=>b8U hV g1 gQ t1 h hn hl;have k1:a0p V Mx 151 (m+1) (keyF V (a2t V E Q)):=fun h hn hl=>b9I hV e1 g1 h hn hl;exact⟨n1,e1,fun h hn hl=>b7G hV hX g1 gQ b1 k1 h hn hl⟩
theorem i_gr (hV:IV V Mx) (hX:IX V) (hLP:∀ p,sees V p g_lp=true->isNm V p=false):∀ n,a0p V Mx 147 (n+1) (gr V n).1/\a0p V Mx 78 (n+1) (gr V n).2
 | 0=>by
  obtain⟨_,a,b⟩:=b3x (m:=0) (E:=a5S) (Q:=a5S) hV hX hLP (fun _ hn _=>absurd hn (by omega)) a1k (fun _ hn _=>absurd hn (by omega)) a1k;exact⟨a,b⟩
 | n+1=>by
  obtain⟨h1,h2⟩:=i_gr hV hX hLP n;obtain⟨g1,g2⟩:=a5A (V:=V) n;obtain⟨_,a,b⟩:=b3x hV hX hLP h1 g1 h2 g2;exact⟨a,b⟩
end
end Go.Proofs.YtphmpkpcamgjeaaGreatDoor
namespace Go.Proofs.YtphmpkpcamgjeaaGreatDoor
open Go.ChangeShapes Go.WideShapes Go.ChangeAt Go.RowKit Go.Proofs.Tryz
open Go.Maps
def chkF (V:Env) (E:M Int):M Int:=fun p o=>(must V a1D p o).bind fun _ q o=>a3r V E (V.pos p) q o
section
variable {V : Env} {Mx : DataW Unit} {r B : Nat} {D : Nat -> Prop} {w : World} {p : Nat} {o : List Nd} {m : Nat} {E Q : M Int}
theorem b7H (hV:IV V Mx) (hE:a0p V Mx 147 m E) (gE:Gro 999 E) (h:IM V Mx r B D w p o) (hn:V.ts.length-p<m) (hl:o.length<=1000*p+500) :
 Calls prog 146 #[.pointer (some ⟨r,0,none⟩)] w fun e w'=>IPost V Mx r B D vInt (a1y V E p o) w e w':=by
 have hT:=hV.n;have hle:=h.le;obtain⟨F0,L0⟩:=hidEq (a1y V E p o);rw[<- L0.out];go_enter func146,ntmps146;go_wp2_with fail;refine(a0v hV h).mono ?_;rintro e c3 ⟨rfl,a6⟩;have b2:=h.spB a6;have b3:=h.below a6;have a7:=h.sp.trans b2;go_wp2_with fail;refine(a0N hV b3 a2h).mono ?_;rintro e c4 (⟨a0,rfl,a4,a5⟩ | ⟨a0,rfl,a4,a5⟩)
 .have a1:=a7.trans a5;have a2:=hid (It.seT L0.out a0 rfl);have c1:=a0c a0;go_wp2_with fail;refine(add0 a4 (by omega) ({ op:=45,pos:=V.pos p }:Nd) rfl).mono ?_;rintro e c5 ⟨rfl,a8,b4⟩;have b5:=a1.trans b4;have b6:=hid (It.done a2.out rfl);have c2:=a8.ol;exact okI b6.out a8 b5
 have a1:=a7.trans a5;have a2:=hid (It.seF L0.out a0 rfl);go_wp2_with fail;refine(hE a4 (by omega) (by omega)).mono ?_;intro e c6 b0;rcases b0.cs with⟨c7,a3,rfl,b1⟩ | ⟨c8,c9,d0,a3,rfl,a9,b7⟩
 .exact bd (It.tail a2.out a3 rfl) ((h.low a1).trans b1)
 have b8:=a1.trans b7;have c0:=a9.le;have b9:=hid (It.tail a2.out a3 rfl);exact okI b9.out a9 b8
theorem b9J (hV:IV V Mx) (gE:Gro 999 E) (hW:a0p V Mx 146 m (a1y V E)) (h:IM V Mx r B D w p o) (hn:V.ts.length-p<m) (hl:o.length<=1000*p+500) :
 Calls prog 114 #[.pointer (some ⟨r,0,none⟩)] w fun e w'=>IPost V Mx r B D vInt (rowF V E p o) w e w':=by
 have hmf:=@mkf;have hT:=hV.n;have hle:=h.le;obtain⟨F0,L0⟩:=hidEq (rowF V E p o);rw[<- L0.out];go_enter func114,ntmps114;go_wp2_with fail;refine(a0v hV h).mono ?_;rintro e c2 ⟨rfl,a3⟩;have a8:=h.spB a3;have a9:=h.below a3;have a4:=h.sp.trans a8;go_wp2_with fail;refine(a1v (n:=m) hV b5h hW (a2x gE) (by omega) (by omega) a9 (by omega) (by omega)).mono ?_;intro e c3 a1
 cases a0:(a1E V (a1y V E)) p o with
 | bad c4=>
  rw[a0] at a1;obtain⟨rfl,a7⟩:=a1;exact bd (It.bad L0.out a0 rfl) ((h.low a4).trans a7)
 | ok a5 c5 c6=>
 rw[a0] at a1;obtain⟨b7,b8,rfl,a2,b0,b9⟩:=a1;have c0:=(a1d (a2x gE) (by omega)) _ _ _ _ _ a0;have b1:=a4.trans b0;have b6:=a2.sm.le;have b2:=hid (It.ok L0.out a0 rfl);go_wp2_with fail;refine(add_any a2.out (by omega) ({ op:=44,kids:=a5,pos:=V.pos p }:Nd) _ a2.kids (show a5.length<=100000 by omega)).mono ?_;rintro e c7 ⟨rfl,a6,b3⟩;have b4:=b1.trans b3;have b5:=hid (It.done b2.out rfl);have c1:=a6.ol;exact okI b5.out a6 b4
theorem b9K (hV:IV V Mx) (gE:Gro 999 E) (hW:a0p V Mx 146 m (a1y V E)) (h:IM V Mx r B D w p o) (hn:V.ts.length-p<m) (hl:o.length<=1000*p+500) :
 Calls prog 115 #[.pointer (some ⟨r,0,none⟩)] w fun e w'=>IPost V Mx r B D vInt (setF V E p o) w e w':=by
 have hT:=hV.n;have hle:=h.le;obtain⟨F0,L0⟩:=hidEq (setF V E p o);rw[<- L0.out];go_enter func115,ntmps115;go_wp2_with fail;refine(a0v hV h).mono ?_;rintro e a0 ⟨rfl,b2⟩;have e3:=h.spB b2;have a7:=h.below b2;have b3:=h.sp.trans e3;have a9:=NI.new a7 { op:=47,pos:=(V.pos p) };have e4:=a7.sp.alloc (.cells (ndA { op:=47,pos:=(V.pos p) } (.slice none 0 0)) 42);have e5:=a7.alloc (.cells (ndA { op:=47,pos:=(V.pos p) } (.slice none 0 0)) 42);have ng_n:w.heap.size<=a0.heap.size:=b3.size;have b4:=b3.trans e4;go_wp2_with fail;refine(a3k hV e5).mono ?_;rintro e g0 (⟨a2,rfl,e6,b5⟩ | ⟨a2,rfl,c4⟩)
 rotate_left
 .exact bd (It.nameF L0.out a2 rfl) ((h.low b4).trans c4)
 have a1:=a9.step b5;have e7:=b4.trans b5;have b6:=hid (It.nameT L0.out a2 rfl);have f6:=a3V a2;generalize hnm:V.tx p=nm at *;clear hnm;obtain⟨d0,d1,d2,d3,d4,d5,d6,d7,d8,d9⟩:=a1.cells;have dz:=a1.fz;have b0:=a1.set 1 (.string nm) { op:=47,name:=nm,pos:=(V.pos p) } rfl;have e8:=a1.im e6 1 (.string nm);have b7:=e7.set (j:=1) (.string nm) ng_n;go_wp2_with fail;refine(a0u hV e8 g_eq).mono ?_;clear d0 d1 d2 d3 d4 d5 d6 d7 d8 d9 dz;rintro e g1 (⟨a3,rfl,b8,b9⟩ | ⟨a3,rfl,c5⟩)
 rotate_left
 .exact bd (It.mustF b6.out a3 rfl) ((h.low b7).trans c5)
 have a5:=b0.step b9;have e9:=b7.trans b9;have c0:=hid (It.mustT b6.out a3 rfl);have f7:=a0c a3;have c6:=hid a5.cells;go_wp2;refine a0a (S:=(fun W=>W.cell? ⟨a0.heap.size,0,none⟩=some (.int .i64 47)/\W.cell? ⟨a0.heap.size,1,none⟩=some (.string nm)/\W.cell? ⟨a0.heap.size,2,none⟩=some (.string ⟨#[]⟩)/\W.cell? ⟨a0.heap.size,3,none⟩=some (.int .i64 0)/\W.cell? ⟨a0.heap.size,4,none⟩=some (.int .i64 0)/\W.cell? ⟨a0.heap.size,5,none⟩=some (.int .i64 0)/\W.cell? ⟨a0.heap.size,6,none⟩=some (.int .i64 0)/\W.cell? ⟨a0.heap.size,7,none⟩=some (.string ⟨#[]⟩)/\W.cell? ⟨a0.heap.size,8,none⟩=some (.slice none 0 0)/\W.cell? ⟨a0.heap.size,9,none⟩=some (.int .i64 (V.pos p)))) (late:=[5,6]) (by kernel_rfl) (by first | exact c6.out | go_keep) (fun hHeld=>?_)
 refine tT 0 rfl hHeld ?_
 try simp only[Act.put,q1,q2,q3]
 refine tL 1 rfl hHeld ?_
 try simp only[Act.put,q1,q2,q3]
 refine tT 2 rfl hHeld ?_
 try simp only[Act.put,q1,q2,q3]
 have c7:=b8.below ((Below.refl _ _).drew);have b1:=e9.drew;have c8:=a5.step (b8.sp.drew);refine rE 3 rfl fun K hK=>?_;go_simp;refine(hW c7 (by omega) (by omega)).mono ?_;intro e g2 c9;rcases c9.cs with⟨g3,a4,rfl,e0⟩ | ⟨c1,g4,g5,a4,rfl,a8,c2⟩
 .have e1:=hid (It.bad c0.out a4 rfl);have e2:=(h.low b1).trans e0;go_simp;exact⟨rfl,IPost.bad e1.out rfl e2⟩
 have f8:=(a2x gE) _ _ _ _ _ a4;have a6:=c8.step c2;have f0:=b1.trans c2;have f5:=a8.le;have f1:=hid (It.ok c0.out a4 rfl);refine hK _ _ ⟨a6.cells,?_⟩;clear hK K
 try simp only[Act.put,q1,q2,q3]
 refine rE 4 rfl fun K hK=>?_;go_simp;refine hK _ _ ⟨(a6.step (a8.sp.alloc (.cells #[.int .i64 c1] 3))).cells,?_⟩;clear hK K
 try simp only[Act.put,q1,q2,q3]
 refine rL 5 rfl fun K hK=>?_;go_simp;refine(addZ a8 (by omega) ({ op:=47,name:=nm,kids:=[c1],pos:=(V.pos p) }:Nd) (by simp)).mono ?_;rintro e g6 ⟨rfl,c3,f2⟩;have f3:=f0.trans f2;have f4:=hid (It.done f1.out rfl);have f9:=c3.ol;refine hK _ _ ?_;clear hK K
 try simp only[Act.put,q1,q2,q3]
 refine rL 6 rfl fun K hK=>?_;go_simp;refine hK _ _ ?_;clear hK K
 try simp only[Act.put,q1,q2,q3]
 refine a0h (by kernel_rfl) ?_ _;exact okI f4.out c3 f3
theorem b3y (hV:IV V Mx) (hE:a0p V Mx 147 m E) (gE:Gro 999 E) (h:IM V Mx r B D w p o) (hn:V.ts.length-p<m) (hl:o.length<=1000*p+500) :
 Calls prog 148 #[.pointer (some ⟨r,0,none⟩)] w fun e w'=>IPost V Mx r B D vInt (chkF V E p o) w e w':=by
 have hmf:=@mkf;have hT:=hV.n;have hle:=h.le;obtain⟨F0,L0⟩:=hidEq (chkF V E p o);rw[<- L0.out];go_enter func148,ntmps148;go_wp2_with fail;refine(a0v hV h).mono ?_;rintro e c6 ⟨rfl,a2⟩;have b1:=h.spB a2;have b2:=h.below a2;have a3:=h.sp.trans b1;go_wp2_with fail;refine(a0u hV b2 a1D).mono ?_;rintro e c7 (⟨a0,rfl,b3,b4⟩ | ⟨a0,rfl,a8⟩)
 rotate_left
 .exact bd (It.mustF L0.out a0 rfl) ((h.low a3).trans a8)
 have a4:=a3.trans b4;have a5:=hid (It.mustT L0.out a0 rfl);have c3:=a0c a0;go_wp2_with fail;refine(a3l (n:=m) hV a1g hE gE b3 (by omega) (by omega)).mono ?_;intro e c8 a9;rcases a9.cs with⟨c9,a1,rfl,b0⟩ | ⟨b5,d0,d1,a1,rfl,a6,b6⟩
 .exact bd (It.bad a5.out a1 rfl) ((h.low a4).trans b0)
 have c4:=(a2p gE) _ _ _ _ _ a1;have b7:=a4.trans b6;have c2:=a6.le;have b8:=hid (It.ok a5.out a1 rfl);go_wp2_with fail;refine(addZ a6 (by omega) ({ op:=52,kids:=[b5],pos:=V.pos p }:Nd) (by simp)).mono ?_;rintro e d2 ⟨rfl,a7,b9⟩;have c0:=b7.trans b9;have c1:=hid (It.done b8.out rfl);have c5:=a7.ol;exact okI c1.out a7 c0
end
end Go.Proofs.YtphmpkpcamgjeaaGreatDoor
