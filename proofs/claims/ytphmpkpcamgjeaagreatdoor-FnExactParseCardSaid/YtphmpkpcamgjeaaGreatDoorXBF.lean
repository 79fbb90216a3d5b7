import Derived.Test.YtphmpkpcamgjeaaGreatDoorXAA
import Derived.Test.YtphmpkpcamgjeaaGreatDoorXAT
set_option linter.unusedVariables false
set_option linter.unusedSimpArgs false
set_option maxRecDepth 100000
set_option maxHeartbeats 16000000
namespace Go.Proofs.YtphmpkpcamgjeaaGreatDoor
open Go.ChangeShapes Go.WideShapes Go.ChangeAt Go.RowKit Go.Proofs.Tryz
theorem Lp.casesU {V:Env} {E:M Int} {mm ps:Int} {k:Nat} {ks:List Int} {F:List Nd->R Int} {p:Nat} {x:Option (List Nd)} {m q:Nat} {y:Option (List Nd)} {m2 d c:Nat} (l:Lp V d c F (fun o=>(a1X V E k ks q o).bind fun ks q o=>a1Y V E mm ps ks q o) p x m q y m2) (hk:∀ o,y=some o->V.ts.length-q<k):Lp V d c F (fun o=>(must V a1f q o).bind fun _ q o=>(E q o).bind fun a q o=>(must V a4M q o).bind fun _ q o=>(E q o).bind fun b q o=>if sees V q a1f then(a1X V E (k-1) (ks++[a,b]) q o).bind fun ks q o=>a1Y V E mm ps ks q o else a1Y V E mm ps (ks++[a,b]) q o) p x m q y m2:=
 l.congr (fun o e=>by
 have:=hk o e;obtain⟨k',rfl⟩:∃ k',k=k'+1:=⟨k-1,by omega⟩;simp only[a1X,R.bind_bind,Nat.add_sub_cancel];congr 1;funext _ p1 o1;congr 1;funext a p2 o2;congr 1;funext _ p3 o3;congr 1;funext b p4 o4
 split<;>rfl)
theorem Res.mustS {V:Env} {s:ByteArray} {d c p m q m':Nat} {x y:Option (List Nd)} {a:Unit} {o:List Nd} (h:Res V d c (must V s p) p x m q y m' a) (e:y=some o):q=p+1:=by
 obtain⟨_,o0,e0⟩:=h.ok e;have h1:=h.yes o0 e0;rw[e] at h1;unfold must rOf at h1;split at h1
 .cases h1;rfl
 cases h1
theorem b3A {V:Env} {src:ByteArray} {n:Nat} {E:M Int} (hV:VO V src) (hA:a0w V src 87 10 n E) {r B:Nat} {D:Nat->Prop} {w:World} {p:Nat} {x:Option (List Nd)} {m:Nat} (ps:Int) (h:SM V src r B D w p x m) (hn:∀ o,x=some o->V.ts.length-p<n) (hp:pot V p x m+45<=4000000) :
 Calls prog 178 #[.pointer (some ⟨r,0,none⟩),.int .i64 ps] w fun e w'=>a3h V src r B D 45 (a3q V E ps p) w p x m e w':=by
 have hT:=hV.n;have hle:=h.le;have l0:=Lp.refl V (a3q V E ps p) p x m;have v2:=l0.le;go_enter func178,ntmps178;have f1:=NV.new (b:=w.heap.size) h (by have:=h.sp.size;omega) { op:=12,n:=0,m:=0,pos:=ps };have s1:=h.sp.alloc (.cells (ndA { op:=12,n:=0,m:=0,pos:=ps } (.slice none 0 0)) 42);go_wp2_with fail;refine(a0G hV f1.pk.sm a1f).mono ?_;rintro e w2 ⟨c2,rfl,t2,x2⟩;replace x2:=x2.symm;subst x2
 cases c2 with
 | true=>
  obtain⟨o2,e2,g2,v3⟩:=t2.yes;have l2:=l0.seT t2 (fun _=>rfl);have u8:=l2.le;have j6:=(l2).weak (d':=10) (c':=500*([]:List Int).length) (by omega) (by simp;try omega);have r2:=j6.le;go_wp2_with fail;go_loopw [] (fun wr=>∃ (ks:List Int) (k q:Nat) (y:Option (List Nd)) (m1:Nat) (va:Option Addr) (vn vc:Nat),NV V src r B D w.heap.size wr q y m1 w.heap.size { op:=12,n:=0,m:=0,pos:=ps } (.slice va vn vc) ks/\Sp 3 r w wr/\Hid (∀ o,y=some o->V.ts.length-q<k)/\Lp V 10 (500*ks.length) (a3q V E ps p) (fun o=>(a1X V E k ks q o).bind fun ks q o=>a1Y V E 0 ps ks q o) p x m q y m1/\Hid (ks.length<=8200)) (fun wr=>V.ts.length-atN r wr)
  case atStart=>exact⟨[],V.ts.length+1,_,_,_,_,_,_,f1,s1,(fun o _=>by omega:∀ o,x=some o->V.ts.length-p<V.ts.length+1),j6,(by simp:([]:List Int).length<=8200)⟩
  case round=>
  obtain⟨ks,k,q,y,m1,va,vn,vc,b0,j7,HK,j8,HL⟩:=hrel;have hkl:=HL.out;have f9:=j8.casesU HK.out;have n9:=f9.le;have n3:=b0.pk.sm.atN;have r3:=b0.pk.sm.le;go_wp2_with fail;refine(a0i hV b0.pk.sm a1f).mono ?_;rintro e r5 ⟨r6,r7,rfl,j9,g0,b1⟩;have g1:=b0.step j9 g0;have k0:=j7.trans g0;have o0:=b1.le;have c1:=f9.bind b1;have o4:=c1.le;go_wp2;refine a0a (S:=(fun W=>W.cell? ⟨w.heap.size,8,none⟩=some (.slice va vn vc))) (late:=[6,7]) (by kernel_rfl) (by first | exact g1.cells.2.2.2.2.2.2.2.2.1 | go_keep) (fun hHeld=>?_);refine tT 0 rfl hHeld ?_
  try simp only[Act.put,q1,q2,q3]
  refine tL 1 rfl hHeld ?_
  try simp only[Act.put,q1,q2,q3]
  refine tT 2 rfl hHeld ?_
  try simp only[Act.put,q1,q2,q3]
  refine rE 3 rfl fun K hK=>?_;go_simp;have g3:=g1.below ((Below.refl _ _).drew);refine(hA g3.pk.sm (c1.fuel hn) (by omega)).mono ?_;rintro e r8 ⟨a0,r9,s0,s2,rfl,k1,g5,b2⟩;have c3:=g3.step k1 g5;have k2:=k0.drew.trans g5;have o7:=b2.le;have g6:=c1.bind b2;have o8:=g6.le;obtain⟨i5,i6,i7,s6,b8,g7,k3,i8,o9⟩:=c3.kid a0 (by first | (simp;done) | (simp;omega) | omega);refine hK _ _ ⟨c3.cells.2.2.2.2.2.2.2.2.1,?_⟩;clear hK K
  try simp only[Act.put,q1,q2,q3]
  refine rE 4 rfl fun K hK=>?_;go_simp;refine hK _ _ ⟨(c3.below (below_alloc _ _)).cells.2.2.2.2.2.2.2.2.1,?_⟩;clear hK K
  try simp only[Act.put,q1,q2,q3]
  refine rE 5 rfl fun K hK=>?_;refine a0e rfl (.tmp 22) (.tmp 25) 37 rfl _ _ rfl rfl _ _ b8 ?_;refine hK _ _ ⟨i8,?_⟩;clear hK K b8
  try simp only[Act.put,q1,q2,q3]
  refine rL 6 rfl fun K hK=>?_;go_simp;refine hK _ _ ?_;clear hK K
  try simp only[Act.put,q1,q2,q3]
  refine rL 7 rfl fun K hK=>?_;go_simp;refine hK _ _ ?_;clear hK K
  try simp only[Act.put,q1,q2,q3]
  refine a0h (by kernel_rfl) ?_ _;have k4:=k3 w k2 (by first | exact Nat.le_refl _ | omega);go_wp2_with fail;refine(a0i hV g7.pk.sm a4M).mono ?_;rintro e s7 ⟨s8,s9,rfl,k5,g8,b3⟩;have g9:=g7.step k5 g8;have k6:=k4.trans g8;have p0:=b3.le;have c4:=g6.bind b3;have p1:=c4.le;go_wp2;refine a0a (S:=(fun W=>W.cell? ⟨w.heap.size,8,none⟩=some (.slice i5 i6 i7))) (late:=[6,7]) (by kernel_rfl) (by first | exact g9.cells.2.2.2.2.2.2.2.2.1 | go_keep) (fun hHeld=>?_);refine tT 0 rfl hHeld ?_
  try simp only[Act.put,q1,q2,q3]
  refine tL 1 rfl hHeld ?_
  try simp only[Act.put,q1,q2,q3]
  refine tT 2 rfl hHeld ?_
  try simp only[Act.put,q1,q2,q3]
  refine rE 3 rfl fun K hK=>?_;go_simp;have h0:=g9.below ((Below.refl _ _).drew);refine(hA h0.pk.sm (c4.fuel hn) (by omega)).mono ?_;rintro e t0 ⟨a1,c5,c6,c7,rfl,k7,h1,b4⟩;have c8:=h0.step k7 h1;have k8:=k6.drew.trans h1;have p2:=b4.le;have c9:=c4.bind b4;have p3:=c9.le;obtain⟨i9,j0,j1,t1,b9,a2,k9,j2,p4⟩:=c8.kid a1 (by first | (simp;done) | (simp;omega) | omega);refine hK _ _ ⟨c8.cells.2.2.2.2.2.2.2.2.1,?_⟩;clear hK K
  try simp only[Act.put,q1,q2,q3]
  refine rE 4 rfl fun K hK=>?_;go_simp;refine hK _ _ ⟨(c8.below (below_alloc _ _)).cells.2.2.2.2.2.2.2.2.1,?_⟩;clear hK K
  try simp only[Act.put,q1,q2,q3]
  refine rE 5 rfl fun K hK=>?_;refine a0e rfl (.tmp 31) (.tmp 34) 37 rfl _ _ rfl rfl _ _ b9 ?_;refine hK _ _ ⟨j2,?_⟩;clear hK K b9
  try simp only[Act.put,q1,q2,q3]
  refine rL 6 rfl fun K hK=>?_;go_simp;refine hK _ _ ?_;clear hK K
  try simp only[Act.put,q1,q2,q3]
  refine rL 7 rfl fun K hK=>?_;go_simp;refine hK _ _ ?_;clear hK K
  try simp only[Act.put,q1,q2,q3]
  refine a0h (by kernel_rfl) ?_ _;have e0:=k9 w k8 (by first | exact Nat.le_refl _ | omega)
  have hks:((ks++[a0])++[a1])=ks++[a0,a1]:=by simp
  have hkn:(ks++[a0,a1]).length=ks.length+2:=by simp
  rw[hks] at a2;go_wp2_with fail;refine(a0G hV a2.pk.sm a1f).mono ?_;rintro e t3 ⟨l1,rfl,e4,e7⟩;replace e7:=e7.symm;subst e7
  cases l1 with
  | true=>
   obtain⟨t4,e8,t5,p5⟩:=e4.yes;have a7:=c9.seT e4 (fun _=>rfl);have j3:=a7.le;have h2:=((a7.norm e8 (500*(ks++[a0,a1]).length) (by omega)).weak (d':=10) (c':=500*(ks++[a0,a1]).length) (by omega) (by omega));have p6:=(h2.ok e8).1;have n4:=a2.pk.sm.atN;have t6:=a2.pk.sm.le;obtain⟨_,o6,e6⟩:=b4.ok e8;obtain⟨_,o5,e5⟩:=b3.ok e6;obtain⟨_,o3,e3⟩:=b2.ok e5;have u9:=b1.mustS e3;obtain⟨_,o1,e1⟩:=b1.ok e3;have v0:=HK.out o1 e1;have u6:=b4.up;have u5:=b3.up;have u3:=b2.up;have n5:=hid ((fun o _=>by omega):∀ o,c6=some o->V.ts.length-c5<k-1);have n6:=hid ((by omega):(ks++[a0,a1]).length<=8200);go_wp2;go_roundw
   case rel=>exact⟨_,_,_,_,_,_,_,_,a2,e0,n5,h2,n6⟩
   case measure=>rw[n3,n4];omega
  | false=>
  have a7:=c9.tkF e4;have j3:=a7.le;go_wp2_with fail;refine(a0b hV a2.pk.sm a7l).mono ?_;rintro e h3 ⟨l3,rfl,e9,a5,b5⟩
  cases l3 with
  | false=>
   replace a5:SM V src r B _ h3 c5 c6 c7:=a5;have a6:=a2.step a5 b5;have f0:=e0.trans b5;have a8:=a7.tkF e9;have j4:=a8.le;go_wp2_with fail;refine(a0i hV a6.pk.sm a5Q).mono ?_;rintro e t7 ⟨l5,l6,rfl,l7,h5,h6⟩;have a3:=a6.step l7 h5;have f2:=f0.trans h5;have p7:=h6.le;have h7:=a8.bind h6;have p8:=h7.le;obtain⟨d0,d1,d2,d3,d4,d5,d6,d7,d8,d9⟩:=a3.cells;have dz:=a3.fz;go_wp2_with fail;refine(a0g a3.pk.out (by have:=a0r (V:=V) (p:=l5) (x:=l6) (m:=c7);omega) { op:=12,n:=0,m:=0,kids:=ks++[a0,a1],pos:=ps } _ a3.pk.kids (fun _=>a3.pk.far (fun g hg=>h.dl g hg))).mono ?_;rintro e l8 ⟨rfl,f6,b6,b7⟩;have f7:=f2.trans b6;have HR:=hid (h7.last b7);go_wp2;go_ret
   exact⟨_,_,_,_,rfl,f6,f7,HR.out.weak (by omega) (by omega)⟩
  | true=>
  replace a5:SM V src r B _ h3 (c5+1) c6 c7:=a5;have a6:=a2.step a5 b5;have f0:=e0.trans b5;obtain⟨t8,l9,t9,p9⟩:=e9.yes;have a8:=a7.tkT e9;have j4:=a8.le;have n8:=a5.le;obtain⟨d0,d1,d2,d3,d4,d5,d6,d7,d8,d9⟩:=a6.cells;have dz:=a6.fz;go_wp2_with fail;clear d0 d1 d2 d3 d4 d5 d6 d7 d8 d9 dz;have a3:=a6.set 3 (.int .i64 1) { op:=12,n:=1,m:=0,pos:=ps } rfl;have f2:=f0.set (j:=3) (.int .i64 1) a6.lo;go_wp2;refine a0a (S:=(fun W=>W.cell? ⟨w.heap.size,8,none⟩=some (.slice i9 j0 j1))) (late:=[6,7]) (by kernel_rfl) (by first | exact a3.cells.2.2.2.2.2.2.2.2.1 | go_keep) (fun hHeld=>?_);refine tT 0 rfl hHeld ?_
  try simp only[Act.put,q1,q2,q3]
  refine tL 1 rfl hHeld ?_
  try simp only[Act.put,q1,q2,q3]
  refine tT 2 rfl hHeld ?_
  try simp only[Act.put,q1,q2,q3]
  refine rE 3 rfl fun K hK=>?_;go_simp;have h8:=a3.below ((Below.refl _ _).drew);refine(hA h8.pk.sm (a8.fuel hn) (by omega)).mono ?_;rintro e l8 ⟨h9,u0,u1,m0,rfl,f6,b6,b7⟩;have f8:=h8.step f6 b6;have f7:=f2.drew.trans b6;have q0:=b7.le;have i0:=a8.pay l9 b7 (fun _=>rfl);have q5:=i0.le;obtain⟨q6,q7,q8,u2,c0,i1,m2,j5,q9⟩:=f8.kid h9 (by first | (simp;done) | (simp;omega) | omega);refine hK _ _ ⟨f8.cells.2.2.2.2.2.2.2.2.1,?_⟩;clear hK K
  try simp only[Act.put,q1,q2,q3]
  refine rE 4 rfl fun K hK=>?_;go_simp;refine hK _ _ ⟨(f8.below (below_alloc _ _)).cells.2.2.2.2.2.2.2.2.1,?_⟩;clear hK K
  try simp only[Act.put,q1,q2,q3]
  refine rE 5 rfl fun K hK=>?_;refine a0e rfl (.tmp 44) (.tmp 47) 37 rfl _ _ rfl rfl _ _ c0 ?_;refine hK _ _ ⟨j5,?_⟩;clear hK K c0
  try simp only[Act.put,q1,q2,q3]
  refine rL 6 rfl fun K hK=>?_;go_simp;refine hK _ _ ?_;clear hK K
  try simp only[Act.put,q1,q2,q3]
  refine rL 7 rfl fun K hK=>?_;go_simp;refine hK _ _ ?_;clear hK K
  try simp only[Act.put,q1,q2,q3]
  refine a0h (by kernel_rfl) ?_ _;have m3:=m2 w f7 (by first | exact Nat.le_refl _ | omega);go_wp2_with fail;refine(a0i hV i1.pk.sm a5Q).mono ?_;rintro e u4 ⟨m5,m6,rfl,m7,i2,i3⟩;have a9:=i1.step m7 i2;have m8:=m3.trans i2;have r0:=i3.le;have i4:=i0.bind i3;have r1:=i4.le;obtain⟨d0,d1,d2,d3,d4,d5,d6,d7,d8,d9⟩:=a9.cells;have dz:=a9.fz;go_wp2_with fail;refine(a0g a9.pk.out (by have:=a0r (V:=V) (p:=m5) (x:=m6) (m:=m0);omega) { op:=12,n:=1,m:=0,kids:=(ks++[a0,a1])++[h9],pos:=ps } _ a9.pk.kids (fun _=>a9.pk.far (fun g hg=>h.dl g hg))).mono ?_;rintro e u7 ⟨rfl,m9,n0,n1⟩;have n2:=m8.trans n0;have HR:=hid (i4.last n1);go_wp2;go_ret;exact⟨_,_,_,_,rfl,m9,n2,HR.out.weak (by omega) (by omega)⟩
 | false=>
 have l2:=l0.tkF t2;have u8:=l2.le;have f3:=NV.new (b:=w.heap.size) h (by have:=h.sp.size;omega) { op:=12,n:=0,m:=1,pos:=ps };have s3:=h.sp.alloc (.cells (ndA { op:=12,n:=0,m:=1,pos:=ps } (.slice none 0 0)) 42);go_wp2;refine a0a (S:=(fun W=>W.cell? ⟨w.heap.size,8,none⟩=some (.slice none 0 0))) (late:=[6,7]) (by kernel_rfl) (by first | exact f3.cells.2.2.2.2.2.2.2.2.1 | go_keep) (fun hHeld=>?_);refine tT 0 rfl hHeld ?_
 try simp only[Act.put,q1,q2,q3]
 refine tL 1 rfl hHeld ?_
 try simp only[Act.put,q1,q2,q3]
 refine tT 2 rfl hHeld ?_
 try simp only[Act.put,q1,q2,q3]
 refine rE 3 rfl fun K hK=>?_;go_simp;have g4:=f3.below ((Below.refl _ _).drew);refine(hA g4.pk.sm (l2.fuel hn) (by omega)).mono ?_;rintro e w4 ⟨a4,q4,y4,m4,rfl,h4,z4,r4⟩;have f4:=g4.step h4 z4;have s4:=s3.drew.trans z4;have v4:=r4.le;have l4:=l2.bind r4;have v5:=l4.le;obtain⟨v6,v7,v8,w5,n7,f5,x5,v1,v9⟩:=f4.kid a4 (by first | (simp;done) | (simp;omega) | omega);refine hK _ _ ⟨f4.cells.2.2.2.2.2.2.2.2.1,?_⟩;clear hK K
 try simp only[Act.put,q1,q2,q3]
 refine rE 4 rfl fun K hK=>?_;go_simp;refine hK _ _ ⟨(f4.below (below_alloc _ _)).cells.2.2.2.2.2.2.2.2.1,?_⟩;clear hK K
 try simp only[Act.put,q1,q2,q3]
 refine rE 5 rfl fun K hK=>?_;refine a0e rfl (.tmp 13) (.tmp 16) 37 rfl _ _ rfl rfl _ _ n7 ?_;refine hK _ _ ⟨v1,?_⟩;clear hK K n7
 try simp only[Act.put,q1,q2,q3]
 refine rL 6 rfl fun K hK=>?_;go_simp;refine hK _ _ ?_;clear hK K
 try simp only[Act.put,q1,q2,q3]
 refine rL 7 rfl fun K hK=>?_;go_simp;refine hK _ _ ?_;clear hK K
 try simp only[Act.put,q1,q2,q3]
 refine a0h (by kernel_rfl) ?_ _;have s5:=x5 w s4 (by first | exact Nat.le_refl _ | omega);have j6:=(l4).weak (d':=10) (c':=500*(([]++[a4]):List Int).length) (by omega) (by simp;try omega);have r2:=j6.le;go_wp2_with fail;go_loopw [] (fun wr=>∃ (ks:List Int) (k q:Nat) (y:Option (List Nd)) (m1:Nat) (va:Option Addr) (vn vc:Nat),NV V src r B D w.heap.size wr q y m1 w.heap.size { op:=12,n:=0,m:=1,pos:=ps } (.slice va vn vc) ks/\Sp 3 r w wr/\Hid (∀ o,y=some o->V.ts.length-q<k)/\Lp V 10 (500*ks.length) (a3q V E ps p) (fun o=>(a1X V E k ks q o).bind fun ks q o=>a1Y V E 1 ps ks q o) p x m q y m1/\Hid (ks.length<=8200)) (fun wr=>V.ts.length-atN r wr)
 case atStart=>exact⟨([]++[a4]),V.ts.length+1,_,_,_,_,_,_,f5,s5,(fun o _=>by omega:∀ o,y4=some o->V.ts.length-q4<V.ts.length+1),j6,(by simp:(([]++[a4]):List Int).length<=8200)⟩
 case round=>
 obtain⟨ks,k,q,y,m1,va,vn,vc,b0,j7,HK,j8,HL⟩:=hrel;have hkl:=HL.out;have f9:=j8.casesU HK.out;have n9:=f9.le;have n3:=b0.pk.sm.atN;have r3:=b0.pk.sm.le;go_wp2_with fail;refine(a0i hV b0.pk.sm a1f).mono ?_;rintro e r5 ⟨r6,r7,rfl,j9,g0,b1⟩;have g1:=b0.step j9 g0;have k0:=j7.trans g0;have o0:=b1.le;have c1:=f9.bind b1;have o4:=c1.le;go_wp2;refine a0a (S:=(fun W=>W.cell? ⟨w.heap.size,8,none⟩=some (.slice va vn vc))) (late:=[6,7]) (by kernel_rfl) (by first | exact g1.cells.2.2.2.2.2.2.2.2.1 | go_keep) (fun hHeld=>?_);refine tT 0 rfl hHeld ?_
 try simp only[Act.put,q1,q2,q3]
 refine tL 1 rfl hHeld ?_
 try simp only[Act.put,q1,q2,q3]
 refine tT 2 rfl hHeld ?_
 try simp only[Act.put,q1,q2,q3]
 refine rE 3 rfl fun K hK=>?_;go_simp;have g3:=g1.below ((Below.refl _ _).drew);refine(hA g3.pk.sm (c1.fuel hn) (by omega)).mono ?_;rintro e r8 ⟨a0,r9,s0,s2,rfl,k1,g5,b2⟩;have c3:=g3.step k1 g5;have k2:=k0.drew.trans g5;have o7:=b2.le;have g6:=c1.bind b2;have o8:=g6.le;obtain⟨i5,i6,i7,s6,b8,g7,k3,i8,o9⟩:=c3.kid a0 (by first | (simp;done) | (simp;omega) | omega);refine hK _ _ ⟨c3.cells.2.2.2.2.2.2.2.2.1,?_⟩;clear hK K
 try simp only[Act.put,q1,q2,q3]
 refine rE 4 rfl fun K hK=>?_;go_simp;refine hK _ _ ⟨(c3.below (below_alloc _ _)).cells.2.2.2.2.2.2.2.2.1,?_⟩;clear hK K
 try simp only[Act.put,q1,q2,q3]
 refine rE 5 rfl fun K hK=>?_;refine a0e rfl (.tmp 22) (.tmp 25) 37 rfl _ _ rfl rfl _ _ b8 ?_;refine hK _ _ ⟨i8,?_⟩;clear hK K b8
 try simp only[Act.put,q1,q2,q3]
 refine rL 6 rfl fun K hK=>?_;go_simp;refine hK _ _ ?_;clear hK K
 try simp only[Act.put,q1,q2,q3]
 refine rL 7 rfl fun K hK=>?_;go_simp;refine hK _ _ ?_;clear hK K
 try simp only[Act.put,q1,q2,q3]
 refine a0h (by kernel_rfl) ?_ _;have k4:=k3 w k2 (by first | exact Nat.le_refl _ | omega);go_wp2_with fail;refine(a0i hV g7.pk.sm a4M).mono ?_;rintro e s7 ⟨s8,s9,rfl,k5,g8,b3⟩;have g9:=g7.step k5 g8;have k6:=k4.trans g8;have p0:=b3.le;have c4:=g6.bind b3;have p1:=c4.le;go_wp2;refine a0a (S:=(fun W=>W.cell? ⟨w.heap.size,8,none⟩=some (.slice i5 i6 i7))) (late:=[6,7]) (by kernel_rfl) (by first | exact g9.cells.2.2.2.2.2.2.2.2.1 | go_keep) (fun hHeld=>?_);refine tT 0 rfl hHeld ?_
 try simp only[Act.put,q1,q2,q3]
 refine tL 1 rfl hHeld ?_
 try simp only[Act.put,q1,q2,q3]
 refine tT 2 rfl hHeld ?_
 try simp only[Act.put,q1,q2,q3]
 refine rE 3 rfl fun K hK=>?_;go_simp;have h0:=g9.below ((Below.refl _ _).drew);refine(hA h0.pk.sm (c4.fuel hn) (by omega)).mono ?_;rintro e t0 ⟨a1,c5,c6,c7,rfl,k7,h1,b4⟩;have c8:=h0.step k7 h1;have k8:=k6.drew.trans h1;have p2:=b4.le;have c9:=c4.bind b4;have p3:=c9.le;obtain⟨i9,j0,j1,t1,b9,a2,k9,j2,p4⟩:=c8.kid a1 (by first | (simp;done) | (simp;omega) | omega);refine hK _ _ ⟨c8.cells.2.2.2.2.2.2.2.2.1,?_⟩;clear hK K
 try simp only[Act.put,q1,q2,q3]
 refine rE 4 rfl fun K hK=>?_;go_simp;refine hK _ _ ⟨(c8.below (below_alloc _ _)).cells.2.2.2.2.2.2.2.2.1,?_⟩;clear hK K
 try simp only[Act.put,q1,q2,q3]
 refine rE 5 rfl fun K hK=>?_;refine a0e rfl (.tmp 31) (.tmp 34) 37 rfl _ _ rfl rfl _ _ b9 ?_;refine hK _ _ ⟨j2,?_⟩;clear hK K b9
 try simp only[Act.put,q1,q2,q3]
 refine rL 6 rfl fun K hK=>?_;go_simp;refine hK _ _ ?_;clear hK K
 try simp only[Act.put,q1,q2,q3]
 refine rL 7 rfl fun K hK=>?_;go_simp;refine hK _ _ ?_;clear hK K
 try simp only[Act.put,q1,q2,q3]
 refine a0h (by kernel_rfl) ?_ _;have e0:=k9 w k8 (by first | exact Nat.le_refl _ | omega)
 have hks:((ks++[a0])++[a1])=ks++[a0,a1]:=by simp
 have hkn:(ks++[a0,a1]).length=ks.length+2:=by simp
 rw[hks] at a2;go_wp2_with fail;refine(a0G hV a2.pk.sm a1f).mono ?_;rintro e t3 ⟨l1,rfl,e4,e7⟩;replace e7:=e7.symm;subst e7
 cases l1 with
 | true=>
  obtain⟨t4,e8,t5,p5⟩:=e4.yes;have a7:=c9.seT e4 (fun _=>rfl);have j3:=a7.le;have h2:=((a7.norm e8 (500*(ks++[a0,a1]).length) (by omega)).weak (d':=10) (c':=500*(ks++[a0,a1]).length) (by omega) (by omega));have p6:=(h2.ok e8).1;have n4:=a2.pk.sm.atN;have t6:=a2.pk.sm.le;obtain⟨_,o6,e6⟩:=b4.ok e8;obtain⟨_,o5,e5⟩:=b3.ok e6;obtain⟨_,o3,e3⟩:=b2.ok e5;have u9:=b1.mustS e3;obtain⟨_,o1,e1⟩:=b1.ok e3;have v0:=HK.out o1 e1;have u6:=b4.up;have u5:=b3.up;have u3:=b2.up;have n5:=hid ((fun o _=>by omega):∀ o,c6=some o->V.ts.length-c5<k-1);have n6:=hid ((by omega):(ks++[a0,a1]).length<=8200);go_wp2;go_roundw
  case rel=>exact⟨_,_,_,_,_,_,_,_,a2,e0,n5,h2,n6⟩
  case measure=>rw[n3,n4];omega
 | false=>
 have a7:=c9.tkF e4;have j3:=a7.le;go_wp2_with fail;refine(a0b hV a2.pk.sm a7l).mono ?_;rintro e h3 ⟨l3,rfl,e9,a5,b5⟩
 cases l3 with
 | false=>
  replace a5:SM V src r B _ h3 c5 c6 c7:=a5;have a6:=a2.step a5 b5;have f0:=e0.trans b5;have a8:=a7.tkF e9;have j4:=a8.le;go_wp2_with fail;refine(a0i hV a6.pk.sm a5Q).mono ?_;rintro e t7 ⟨l5,l6,rfl,l7,h5,h6⟩;have a3:=a6.step l7 h5;have f2:=f0.trans h5;have p7:=h6.le;have h7:=a8.bind h6;have p8:=h7.le;obtain⟨d0,d1,d2,d3,d4,d5,d6,d7,d8,d9⟩:=a3.cells;have dz:=a3.fz;go_wp2_with fail;refine(a0g a3.pk.out (by have:=a0r (V:=V) (p:=l5) (x:=l6) (m:=c7);omega) { op:=12,n:=0,m:=1,kids:=ks++[a0,a1],pos:=ps } _ a3.pk.kids (fun _=>a3.pk.far (fun g hg=>h.dl g hg))).mono ?_;rintro e l8 ⟨rfl,f6,b6,b7⟩;have f7:=f2.trans b6;have HR:=hid (h7.last b7);go_wp2;go_ret
  exact⟨_,_,_,_,rfl,f6,f7,HR.out.weak (by omega) (by omega)⟩
 | true=>
 replace a5:SM V src r B _ h3 (c5+1) c6 c7:=a5;have a6:=a2.step a5 b5;have f0:=e0.trans b5;obtain⟨t8,l9,t9,p9⟩:=e9.yes;have a8:=a7.tkT e9;have j4:=a8.le;have n8:=a5.le;obtain⟨d0,d1,d2,d3,d4,d5,d6,d7,d8,d9⟩:=a6.cells;have dz:=a6.fz;go_wp2_with fail;clear d0 d1 d2 d3 d4 d5 d6 d7 d8 d9 dz;have a3:=a6.set 3 (.int .i64 1) { op:=12,n:=1,m:=1,pos:=ps } rfl;have f2:=f0.set (j:=3) (.int .i64 1) a6.lo;go_wp2;refine a0a (S:=(fun W=>W.cell? ⟨w.heap.size,8,none⟩=some (.slice i9 j0 j1))) (late:=[6,7]) (by kernel_rfl) (by first | exact a3.cells.2.2.2.2.2.2.2.2.1 | go_keep) (fun hHeld=>?_);refine tT 0 rfl hHeld ?_
 try simp only[Act.put,q1,q2,q3]
 refine tL 1 rfl hHeld ?_
 try simp only[Act.put,q1,q2,q3]
 refine tT 2 rfl hHeld ?_
 try simp only[Act.put,q1,q2,q3]
 refine rE 3 rfl fun K hK=>?_;go_simp;have h8:=a3.below ((Below.refl _ _).drew);refine(hA h8.pk.sm (a8.fuel hn) (by omega)).mono ?_;rintro e l8 ⟨h9,u0,u1,m0,rfl,f6,b6,b7⟩;have f8:=h8.step f6 b6;have f7:=f2.drew.trans b6;have q0:=b7.le;have i0:=a8.pay l9 b7 (fun _=>rfl);have q5:=i0.le;obtain⟨q6,q7,q8,u2,c0,i1,m2,j5,q9⟩:=f8.kid h9 (by first | (simp;done) | (simp;omega) | omega);refine hK _ _ ⟨f8.cells.2.2.2.2.2.2.2.2.1,?_⟩;clear hK K
 try simp only[Act.put,q1,q2,q3]
 refine rE 4 rfl fun K hK=>?_;go_simp;refine hK _ _ ⟨(f8.below (below_alloc _ _)).cells.2.2.2.2.2.2.2.2.1,?_⟩;clear hK K
 try simp only[Act.put,q1,q2,q3]
 refine rE 5 rfl fun K hK=>?_;refine a0e rfl (.tmp 44) (.tmp 47) 37 rfl _ _ rfl rfl _ _ c0 ?_;refine hK _ _ ⟨j5,?_⟩;clear hK K c0
 try simp only[Act.put,q1,q2,q3]
 refine rL 6 rfl fun K hK=>?_;go_simp;refine hK _ _ ?_;clear hK K
 try simp only[Act.put,q1,q2,q3]
 refine rL 7 rfl fun K hK=>?_;go_simp;refine hK _ _ ?_;clear hK K
 try simp only[Act.put,q1,q2,q3]
 refine a0h (by kernel_rfl) ?_ _;have m3:=m2 w f7 (by first | exact Nat.le_refl _ | omega);go_wp2_with fail;refine(a0i hV i1.pk.sm a5Q).mono ?_;rintro e u4 ⟨m5,m6,rfl,m7,i2,i3⟩;have a9:=i1.step m7 i2;have m8:=m3.trans i2;have r0:=i3.le;have i4:=i0.bind i3;have r1:=i4.le;obtain⟨d0,d1,d2,d3,d4,d5,d6,d7,d8,d9⟩:=a9.cells;have dz:=a9.fz;go_wp2_with fail;refine(a0g a9.pk.out (by have:=a0r (V:=V) (p:=m5) (x:=m6) (m:=m0);omega) { op:=12,n:=1,m:=1,kids:=(ks++[a0,a1])++[h9],pos:=ps } _ a9.pk.kids (fun _=>a9.pk.far (fun g hg=>h.dl g hg))).mono ?_;rintro e u7 ⟨rfl,m9,n0,n1⟩;have n2:=m8.trans n0;have HR:=hid (i4.last n1);go_wp2;go_ret;exact⟨_,_,_,_,rfl,m9,n2,HR.out.weak (by omega) (by omega)⟩
theorem b3B {V:Env} {src:ByteArray} {n:Nat} {E:M Int} (hV:VO V src) (hE:SV V) (hA:0<n->a0w V src 87 10 (n-1) E) {r B:Nat} {D:Nat->Prop} {w:World} {p:Nat} {x:Option (List Nd)} {m:Nat} (ps:Int) (h:SM V src r B D w p x m) (hn:∀ o,x=some o->V.ts.length-p<n) (hp:pot V p x m+10<=4000000) :
 Calls prog 179 #[.pointer (some ⟨r,0,none⟩),.int .i64 ps] w fun e w'=>a3h V src r B D 10 (a2B V E ps p) w p x m e w':=by
 have hT:=hV.n;have hle:=h.le;have l0:=Lp.refl V (a2B V E ps p) p x m;have m7:=l0.le;go_enter func179,ntmps179;have g9:=WR.new w aggWords;have h0:=h.alloc (.cells (aggWords.map Value.string).toArray 9);have h1:=h.sp.alloc (.cells (aggWords.map Value.string).toArray 9);have P0:=hid (Pn.zero V p x aggWords);go_wp2_with fail;go_loopw [14] (fun iv wr=>∃ i:Nat,i<=5/\iv=.int .i64 i/\SM V src r B D wr p x m/\Sp 3 r w wr/\WR wr w.heap.size aggWords/\Hid (Pn V p x aggWords i)) (fun iv _=>5-(intOf iv).toNat)
 case atStart=>exact⟨0,by omega,rfl,h0,h1,g9,P0⟩
 case round=>
 obtain⟨i,hi,rfl,c2,c3,e7,P1⟩:=hrel;by_cases hlt:i<5
 .obtain⟨ws,hws⟩:∃ s,aggWords[i]?=some s:=⟨aggWords[i]'hlt,List.getElem?_eq_getElem hlt⟩;have c9:=e7.2 i ws hws
  have h2:(i:Int)<5:=by omega
  go_wp2_with fail;refine(a0b hV c2 ws).mono ?_;rintro e e8 ⟨h3,rfl,c4,a0,c5⟩
  cases h3 with
  | false=>
   replace a0:SM V src r B _ e8 p x m:=a0;have b5:=c3.trans c5;have h4:=e7.sp c2 c5;have P2:=hid (P1.out.next hws c4);go_wp2;go_roundw
   case rel=>exact⟨i+1,by omega,by go_num,a0,b5,h4,P2⟩
   case measure=>simp[intOf];omega
  | true=>
  replace a0:SM V src r B _ e8 (p+1) x m:=a0;have b5:=c3.trans c5;obtain⟨h5,a8,m8,e5⟩:=c4.yes;have k8:=a0.le;have pq:=P1.out.hit hws c4
  have c1:∀ o,x=some o->V.ts.length-(p+1)<n-1:=fun o e=>by have:=hn o e;omega
  have c6:Lp V 0 1000 (a2B V E ps p) (aggF V E i ps (p+1)) p x m (p+1) x m:=((l0.step a8 e5 (fun o _=>by obtain⟨_,_,pe,_⟩:=pq.some;simp[a2B,pe])).weak (by omega) (by omega));have l2:=c6.le;have hps:=a0j (m:=m) a8 e5;have b6:a0w V src 87 10 (n-1) E:=hA (by have:=hn h5 a8;omega);by_cases hi0:i=0
  .subst hi0;go_wp2_with fail;refine(b5w hV b6 ps a0 c1 (by omega)).mono ?_;rintro e h6 ⟨h7,h8,h9,i0,rfl,c7,c8,d0⟩;have d1:=b5.trans c8;have HR:=hid (c6.lastS a8 d0);go_wp2;go_ret;exact⟨_,_,_,_,rfl,c7,d1,HR.out.weak (by omega) (by omega)⟩
  have i1:=hid ((by omega):(2:Int)+i=i+2);go_wp2_with fail;refine(b5x hV b6 ps _ i hi0 i1.out a0 c1 (by omega)).mono ?_;rintro e h6 ⟨h7,h8,h9,i0,rfl,c7,c8,d0⟩;have d1:=b5.trans c8;have HR:=hid (c6.lastS a8 d0);go_wp2;go_ret;exact⟨_,_,_,_,rfl,c7,d1,HR.out.weak (by omega) (by omega)⟩
 have h2:¬ (i:Int)<5:=by omega
 have pq:=P1.out.fin (by simp[aggWords];omega);have e9:Lp V 0 0 (a2B V E ps p) (a3M V E ps p) p x m p x m:=l0.congr (fun o e=>by simp[a2B,<- pq.2 o e]);have l3:=e9.le;clear pq;go_wp2_with fail;refine(name_any hV hE c2).mono ?_;rintro e m9 ⟨a6,a7,b7,rfl,i2,i3,f0⟩;have f1:=c3.trans i3;have l4:=f0.le;have a9:=e9.bind f0;have l5:=a9.le;go_wp2_with fail;refine(a0b hV i2 g_lp).mono ?_;rintro e f2 ⟨i4,rfl,d2,a1,f3⟩
 cases i4 with
 | false=>
  replace a1:SM V src r B _ f2 a6 a7 m:=a1;have b0:=f1.trans f3;have a3:=a9.tkF d2;have g4:=a3.le;go_wp2_with fail;refine(a0b hV a1 a3R).mono ?_;rintro e f4 ⟨i5,rfl,d3,a4,f5⟩
  cases i5 with
  | false=>
   replace a4:SM V src r B _ f4 a6 a7 m:=a4;have d4:=b0.trans f5;have b1:=a3.tkF d3;have g5:=b1.le;go_wp2_with fail;refine(a0g a4 (by have:=a0r (V:=V) (p:=a6) (x:=a7) (m:=m);omega) { op:=2,name:=b7,pos:=ps } (.slice none 0 0) (TL.nil _ _ _ _) (fun h=>by simp at h)).mono ?_;rintro e i6 ⟨rfl,d5,d6,b8⟩;have d7:=d4.trans d6;have HR:=hid (b1.last b8);go_wp2;go_ret;exact⟨_,_,_,_,rfl,d5,d7,HR.out.weak (by omega) (by omega)⟩
  | true=>
  replace a4:SM V src r B _ f4 (a6+1) a7 m:=a4;have d4:=b0.trans f5;obtain⟨n0,i7,n1,l6⟩:=d3.yes;have b1:=a3.tkT d3;have g5:=b1.le;have k9:=a4.le;go_wp2_with fail;refine(name_any hV hE a4).mono ?_;rintro e i6 ⟨i8,i9,j0,rfl,d5,d6,b8⟩;have d7:=d4.trans d6;have l7:=b8.le;have f6:=b1.pay i7 b8 (fun _=>rfl);have l8:=f6.le;go_wp2_with fail;refine(a0g d5 (by have:=a0r (V:=V) (p:=i8) (x:=i9) (m:=m);omega) { op:=2,name:=j0,qual:=b7,pos:=ps } (.slice none 0 0) (TL.nil _ _ _ _) (fun h=>by simp at h)).mono ?_;rintro e n2 ⟨rfl,j1,j2,j3⟩;have j4:=d7.trans j2;have HR:=hid (f6.last j3);go_wp2;go_ret;exact⟨_,_,_,_,rfl,j1,j4,HR.out.weak (by omega) (by omega)⟩
 | true=>
 replace a1:SM V src r B _ f2 (a6+1) a7 m:=a1;have b0:=f1.trans f3;obtain⟨j5,f7,n3,l9⟩:=d2.yes;have a3:=a9.tkT d2;have g4:=a3.le;have l1:=a1.le;have b6:a0w V src 87 10 (n-1) E:=hA (by have:=a9.fuel hn j5 f7;omega)
 have hna:∀ o,a7=some o->V.ts.length-(a6+1)<n-1:=fun o e=>by have:=a9.fuel hn o e;omega
 have f8:=PK.new0 (b:=w.heap.size) a1 (by have:=b0.size;omega);have d8:=b0.alloc (.cells #[] 3);have f9:=a1.alloc (.cells #[] 3);go_wp2_with fail;refine(a0G hV f9 g_rp).mono ?_;rintro e n4 ⟨j6,rfl,d9,e0⟩;replace e0:=e0.symm;subst e0
 cases j6 with
 | true=>
  obtain⟨n5,j7,n6,m0⟩:=d9.yes;have b2:=a3.seT d9 (fun _=>rfl);have g6:=b2.le;go_wp2_with fail;refine(a0i hV f8.sm g_rp).mono ?_;rintro e j8 ⟨g0,g1,rfl,g2,b9,a5⟩;have a2:=f8.step g2 b9;have e1:=d8.trans b9;have g7:=a5.le;have b3:=b2.pay j7 a5 (fun _=>rfl);have g8:=b3.le;have e6:=a5.fuel hna;go_wp2_with fail;refine(a0g a2.out (by have:=a0r (V:=V) (p:=g0) (x:=g1) (m:=m);omega) { op:=14,name:=b7,pos:=ps } _ a2.kids (fun _=>a2.far (fun g hg=>h.dl g hg))).mono ?_;rintro e j9 ⟨rfl,e2,c0,b4⟩;have e3:=e1.trans c0;have HR:=hid (b3.last b4);go_wp2;go_ret;exact⟨_,_,_,_,rfl,e2,e3,HR.out.weak (by omega) (by omega)⟩
 | false=>
 have b2:=a3.tkF d9;have g6:=b2.le;go_wp2_with fail;refine(a5s hV b6 f9 hna (by omega)).mono ?_;rintro e j8 ⟨n7,k0,g0,g1,k1,rfl,a2,b9,a5,m1⟩;obtain⟨m2,m3,rfl⟩:=a2c a2.row;have g2:=a2.sm;have e1:=d8.trans b9;have g7:=a5.le;have b3:=b2.pay f7 a5 (fun _=>rfl);have g8:=b3.le;have e6:=a5.fuel hna;go_wp2_with fail;refine(a0i hV a2.sm g_rp).mono ?_;rintro e j9 ⟨k2,k3,rfl,e2,c0,b4⟩;have e4:=a2.step e2 c0;have e3:=e1.trans c0;have m4:=b4.le;have g3:=b3.bind b4;have m5:=g3.le;have m6:=b4.fuel e6;go_wp2_with fail;refine(a0g e4.out (by have:=a0r (V:=V) (p:=k2) (x:=k3) (m:=k1);omega) { op:=14,name:=b7,kids:=k0,pos:=ps } _ e4.kids (fun _=>e4.far (fun g hg=>by have:=h.dl g hg;have:=d8.size;omega))).mono ?_
 rintro e n8 ⟨rfl,k4,k5,k6⟩;have k7:=e3.trans k5;have HR:=hid (g3.last k6);go_wp2;go_ret;exact⟨_,_,_,_,rfl,k4,k7,HR.out.weak (by omega) (by omega)⟩
theorem PK.new1 {V:Env} {src:ByteArray} {r B:Nat} {D:Nat->Prop} {b:Nat} {w:World} {p:Nat} {x:Option (List Nd)} {m:Nat} (h:SM V src r B D w p x m) (hb:b<=w.heap.size) (l:Int):PK V src r B D b (w.alloc (.cells #[.int .i64 l] 3)) p x m (.slice (some ⟨w.heap.size,0,none⟩) 1 1) [l]:=by
 refine⟨h.belowD (fun g hg=>?_) (fun g h1 hg=>?_) (below_alloc _ _),⟨rfl,.inr ⟨w.heap.size,1,#[.int .i64 l],rfl,hb,heap_alloc_new _ _,Nat.le_refl _,by unfold maxLen;omega,rfl,rfl⟩⟩,by simp;omega⟩
 .rcases hg with z | z
  .have:=h.dl g z;simp;omega
  have:w.heap.size=g:=by simpa[Value.ownBlock] using z
  simp;omega
 rcases hg with z | z
 .exact z
 have:w.heap.size=g:=by simpa[Value.ownBlock] using z
 omega
def Apart (v u:Value):Prop:=∀ g,v.ownBlock=some g->u.ownBlock≠some g
theorem b3C {α:Type} {l:List α} {j:Nat} (h:j<l.length):l.take (j+1)=l.take j++[l[j]]:=by rw[List.take_add_one,List.getElem?_eq_getElem h];rfl
theorem b8Y {V:Env} {src:ByteArray} {n:Nat} {E Q:M Int} (hV:VO V src) (hA:a0w V src 87 10 n E) (hQ:a0w V src 24 240 n Q) {r B:Nat} {D:Nat->Prop} {w:World} {p:Nat} {x:Option (List Nd)} {m:Nat} (l nt ps:Int) (h:SM V src r B D w p x m) (hn:∀ o,x=some o->V.ts.length-p<n) (hp:pot V p x m+24<=4000000) :
 Calls prog 199 #[.pointer (some ⟨r,0,none⟩),.int .i64 l,.int .i64 nt,.int .i64 ps] w fun e w'=>a3h V src r B D 24 (inF V E Q l nt ps p) w p x m e w':=by
 have hT:=hV.n;have hle:=h.le;have l0:=Lp.refl V (inF V E Q l nt ps p) p x m;have f2:=l0.le;go_enter func199,ntmps199;go_wp2_with fail;refine(a0i hV h g_lp).mono ?_;rintro e w1 ⟨q1,y1,rfl,h1,z1,r1⟩;have s1:=h.sp.trans z1;have f3:=r1.le;have l1:=l0.bind r1;have f4:=l1.le;go_wp2_with fail;refine(a0G hV h1 a0l).mono ?_;rintro e w2 ⟨c2,rfl,t2,x2⟩;replace x2:=x2.symm;subst x2
 cases c2 with
 | true=>
  obtain⟨o2,e2,g2,f5⟩:=t2.yes;have l2:=l1.seT t2 (fun _=>rfl);have c9:=l2.le;have hpk:=(l2.ok e2).1;go_wp2_with fail;refine(hQ h1 (l2.fuel hn) (by omega)).mono ?_;rintro e w3 ⟨a3,q3,y3,m3,rfl,h3,z3,r3⟩;have s3:=s1.trans z3;have f6:=r3.le;have l3:=l2.pay e2 r3 (fun _=>rfl);have f7:=l3.le;go_wp2_with fail;refine(a0i hV h3 g_rp).mono ?_;rintro e w4 ⟨q4,y4,rfl,h4,z4,r4⟩;have s4:=s3.trans z4;have f8:=r4.le;have l4:=l3.bind r4;have f9:=l4.le;go_wp2_with fail;refine(a0g (h4.alloc _) (by have:=a0r (V:=V) (p:=q4) (x:=y4) (m:=m3);omega) { op:=9,n:=nt,kids:=[l,a3],pos:=ps } _ (KS.new w4 [l,a3]) (fun _=>h4.outN (Nat.le_refl _))).mono ?_;rintro e w5 ⟨rfl,h5,z5,r5⟩;replace z5:=(h4.sp.alloc _).trans z5;have s5:=s4.trans z5;have HR:=hid (l4.last r5);go_wp2;go_ret
  exact⟨_,_,_,_,rfl,h5,s5,HR.out.weak (by omega) (by omega)⟩
 | false=>
 have l2:=l1.tkF t2;have c9:=l2.le;have a8:=PK.new1 (b:=w.heap.size) h1 (by have:=s1.size;omega) l;have d0:=s1.alloc (.cells #[.int .i64 l] 3)
 have a9:(w1.alloc (.cells #[.int .i64 l] 3)).heap.size=w1.heap.size+1:=by simp
 have b0:=hid a9;clear a9;go_wp2_with fail;refine(a5s hV hA a8.sm (l2.fuel hn) (by omega)).mono ?_;rintro e g0 ⟨g1,a0,b1,b2,a5,rfl,a2,b3,b4,e7⟩;obtain⟨va,vc,rfl⟩:=a2c a2.row;have d1:=a8.step a2.out b3;have d2:=d0.trans b3;have e8:=b4.le;have b5:=l2.bind b4;have e9:=b5.le
 have ap:Apart (.slice (some ⟨w1.heap.size,0,none⟩) 1 1) (.slice va a0.length vc):=fun g hg hu=>by
  have e1:w1.heap.size=g:=by simpa[Value.ownBlock] using hg
  have:=a2Y a2.row hu;have:=b0.out;omega
 have row:=a2.row;generalize hbb:(w1.alloc (.cells #[.int .i64 l] 3)).heap.size=bb at *;clear hbb b0 a2;go_wp2_with fail;go_loopw [10,34] (fun kv iv wr=>∃ (j:Nat) (ka:Option Addr) (kn kc:Nat),j<=a0.length/\iv=.int .i64 j/\kv=.slice ka kn kc/\PK V src r B D w.heap.size wr b1 b2 a5 (.slice ka kn kc) (l::a0.take j)/\Sp 3 r w wr/\Apart (.slice ka kn kc) (.slice va a0.length vc)/\wr.ownsRow bb 3 1 (.slice va a0.length vc) a0.length (kidC a0)) (fun _ iv _=>a0.length-(intOf iv).toNat)
 case atStart=>exact⟨0,_,_,_,Nat.zero_le _,rfl,rfl,d1,d2,ap,row⟩
 case round=>
 obtain⟨j,ka,kn,kc,hj,rfl,rfl,a4,b6,b7,a1⟩:=hrel;by_cases hlt:j<a0.length
 .have d3:(j:Int)<a0.length:=by omega
  have g3:(0:Int)<=(j:Int):=by omega
  obtain⟨g,hg⟩:∃ g,va=some ⟨g,0,none⟩:=by
   obtain⟨_,z⟩:=a1;rcases z with⟨_,z⟩ | ⟨g,cap,cur,z,_⟩
   .omega
   simp only[Value.slice.injEq] at z;exact⟨g,z.1⟩
  subst hg;have c0:=a1M (j:=j) (u:=.int .i64 a0[j]) a1 (by simp[kidC,List.getElem?_eq_getElem hlt]);have hts:=hid (b3C hlt);generalize hkj:a0[j]=kj at *;clear hkj
  have hlen:(l::a0.take j).length<=100000:=by simp;omega
  go_wp2_with (at_builtin;refine a5D rfl _ _ rfl rfl a4 kj rfl rfl hlen ?_;intro g4 b8 a6 b9 c1 c3);obtain⟨na,nc,c4⟩:=a2c a6.row;obtain⟨nn,hnn⟩:∃ nn,(l::a0.take j++[kj]).length=nn:=⟨_,rfl⟩;rw[hnn] at c4;clear hnn;subst c4;have d4:=b9 w b6 (Nat.le_refl _)
  have c8:b8.ownsRow bb 3 1 (.slice (some ⟨g,0,none⟩) a0.length vc) a0.length (kidC a0):=a0L a1 (fun c hc=>by
   have hcl:=a0x (a0n a1 hc);exact(c1.block c (by simp;omega) (fun e=>b7 c e.symm hc)).trans ((below_alloc _ _).block c hcl))
  have d5:Apart (.slice na nn nc) (.slice (some ⟨g,0,none⟩) a0.length vc):=fun c hc hu=>by
   rcases c3 with z | z
   .exact b7 c (z ▸ hc) hu
   have:=a0x (a0n a1 hu);rw[hc] at z
   have:c=wr.heap.size+1:=by simpa using z
   omega
  have d6:PK V src r B D w.heap.size b8 b1 b2 a5 (.slice na nn nc) (l::a0.take (j+1)):=by rw[hts.out];exact a6
  clear a6 c1 c3 b9;go_wp2;go_roundw
  case rel=>exact⟨j+1,_,_,_,by omega,by go_num,rfl,d6,d4,d5,c8⟩
  case measure=>simp[intOf];omega
 have d3:¬ (j:Int)<a0.length:=by omega
 rw[List.take_of_length_le (by omega)] at a4;go_wp2_with fail;refine(a0i hV a4.sm g_rp).mono ?_;rintro e g5 ⟨d7,d8,rfl,d9,c5,c6⟩;have a7:=a4.step d9 c5;have e0:=b6.trans c5;have f0:=c6.le;have c7:=b5.bind c6;have f1:=c7.le;go_wp2_with fail;refine(a0g a7.out (by have:=a0r (V:=V) (p:=d7) (x:=d8) (m:=a5);omega) { op:=8,n:=nt,kids:=l::a0,pos:=ps } _ a7.kids (fun _=>a7.far (fun g hg=>h.dl g hg))).mono ?_;rintro e g6 ⟨rfl,e3,e4,e5⟩;have e6:=e0.trans e4;have HR:=hid (c7.last e5);go_wp2;go_ret;exact⟨_,_,_,_,rfl,e3,e6,HR.out.weak (by omega) (by omega)⟩
end Go.Proofs.YtphmpkpcamgjeaaGreatDoor
