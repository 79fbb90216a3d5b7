import Derived.Test.YtphmpkpcamgjeaaGreatDoorXAA
import Derived.Test.YtphmpkpcamgjeaaGreatDoorXBJ
import Derived.Test.YtphmpkpcamgjeaaGreatDoorXAP
set_option linter.unusedVariables false
set_option linter.unusedSimpArgs false
set_option maxRecDepth 100000
set_option maxHeartbeats 16000000
namespace Go.Proofs.YtphmpkpcamgjeaaGreatDoor
open Go.ChangeShapes Go.WideShapes Go.ChangeAt Go.RowKit Go.Proofs.Tryz
theorem a7K {β:Type} (V:Env) (s:ByteArray) (K:Int->Nat->List Nd->R β) (p:Nat) (o:List Nd):(numF V s p o).bind K=if sees V p s then(a0X V (p+1) o).bind K else K (-1) p o:=by
 unfold numF
 split<;>rfl
theorem b3E {V:Env} {src:ByteArray} {n:Nat} {E Q:M Int} (hV:VO V src) (hE:SV V) (hB:a0w V src 54 100 n (bodyF V E Q)) (hY:a0w V src 55 12 n (keyF V E)):SRule0 V src 24 240 n (a2M V E Q):=fun {r B D w p x m} h hn hp=>by
 have hT:=hV.n;have hle:=h.le;have l0:=Lp.refl V ((a2M V E Q) p) p x m;have F1:=l0.le;go_enter func24,ntmps24;go_wp2_with fail;refine(a0C hV h).mono ?_;rintro e w1 ⟨rfl,b1⟩;have h1:=h.below b1;have s1:=h.sp.below b1;have f2:=NV.new (b:=w.heap.size) h1 (by have:=s1.size;omega) { op:=27,pos:=V.pos p };have s2:=s1.alloc (.cells (ndA { op:=27,pos:=V.pos p } (.slice none 0 0)) 42);go_wp2;refine a0a (S:=(fun W=>W.cell? ⟨w1.heap.size,8,none⟩=some (.slice none 0 0))) (late:=[6,7]) (by kernel_rfl) (by first | exact f2.cells.2.2.2.2.2.2.2.2.1 | go_keep) (fun hHeld=>?_);refine tT 0 rfl hHeld ?_
 try simp only[Act.put,q1,q2,q3]
 refine tL 1 rfl hHeld ?_
 try simp only[Act.put,q1,q2,q3]
 refine tT 2 rfl hHeld ?_
 try simp only[Act.put,q1,q2,q3]
 refine rE 3 rfl fun K hK=>?_;go_simp;have g3:=f2.below ((Below.refl _ _).drew);refine(hB g3.pk.sm (l0.fuel hn) (by omega)).mono ?_;rintro e w3 ⟨a3,q3,y3,m3,rfl,h3,z3,r3⟩;have f3:=g3.step h3 z3;have s3:=s2.drew.trans z3;have F2:=r3.le;have l3:=l0.bind r3;have F3:=l3.le;obtain⟨m2,m4,m5,w4,p0,f4,x4,x3,F4⟩:=f3.kid a3 (by first | (simp;done) | (simp;omega) | omega);refine hK _ _ ⟨f3.cells.2.2.2.2.2.2.2.2.1,?_⟩;clear hK K
 try simp only[Act.put,q1,q2,q3]
 refine rE 4 rfl fun K hK=>?_;go_simp;refine hK _ _ ⟨(f3.below (below_alloc _ _)).cells.2.2.2.2.2.2.2.2.1,?_⟩;clear hK K
 try simp only[Act.put,q1,q2,q3]
 refine rE 5 rfl fun K hK=>?_;refine a0e rfl (.tmp 11) (.tmp 14) 37 rfl _ _ rfl rfl _ _ p0 ?_;refine hK _ _ ⟨x3,?_⟩;clear hK K p0
 try simp only[Act.put,q1,q2,q3]
 refine rL 6 rfl fun K hK=>?_;go_simp;refine hK _ _ ?_;clear hK K
 try simp only[Act.put,q1,q2,q3]
 refine rL 7 rfl fun K hK=>?_;go_simp;refine hK _ _ ?_;clear hK K
 try simp only[Act.put,q1,q2,q3]
 refine a0h (by kernel_rfl) ?_ _;have s4:=x4 w s3 (by first | exact Nat.le_refl _ | omega);go_wp2_with fail;refine(a0C hV f4.pk.sm).mono ?_;rintro e w5 ⟨rfl,b5⟩;have f5:=f4.below b5;have s5:=s4.below b5;have p1:=l3.fuel hn;have l6:=l3.rest;have F5:=l6.le;go_wp2_with fail;refine(a0b hV f5.pk.sm a2m).mono ?_;rintro e w7 ⟨c7,rfl,t7,h7,z7⟩;have f7:=f5.step h7 z7;have s7:=s5.trans z7;go_upto_if 20 with fail;go_cut [] (fun wx=>∃ (ks:List Int) (q:Nat) (y:Option (List Nd)) (m1:Nat) (va:Option Addr) (vn vc:Nat),NV V src r B D w.heap.size wx q y m1 w1.heap.size { op:=27,pos:=V.pos p } (.slice va vn vc) ks/\Sp 3 r w wx/\Lp V 14 14 (qry2 V E (V.pos p) [a3] q3) (qry3 V (V.pos p) ks q) q3 y3 m3 q y m1/\Hid (ks.length<=3))
 case first=>
  cases c7 with
  | false=>
   replace f7:NV V src r B D w.heap.size w7 q3 y3 m3 w1.heap.size { op:=27,pos:=V.pos p } (.slice m2 m4 m5) ([]++[a3]):=f7;have l7:=l6.tkF t7;have x5:=l7.le;have lm:=(l7).weak (d':=14) (c':=14) (by omega) (by omega)
   have hkm:Hid ((([]++[a3]):List Int).length<=3):=by simp[Hid];try omega
   go_wp2;go_meet
   case rel=>exact⟨_,_,_,_,_,_,_,f7,s7,lm,hkm⟩
  | true=>
  have t1:=f7;replace f7:NV V src r B D w.heap.size w7 (q3+1) y3 m3 w1.heap.size { op:=27,pos:=V.pos p } (.slice m2 m4 m5) ([]++[a3]):=t1;clear t1;obtain⟨o7,e7,g7,x6⟩:=t7.yes;have l7:=l6.tkT t7;have x5:=l7.le;have C4:=a0j (m:=m3) e7 x6;have u2:∀ o,y3=some o->V.ts.length-(q3+1)<n:=fun o e=>Nat.lt_of_le_of_lt (by omega) (p1 o e);have l8:=l7.rest;have F6:=l8.le;go_wp2_with fail;refine(a0i hV f7.pk.sm k_by).mono ?_;rintro e w9 ⟨q9,y9,rfl,h9,z9,r9⟩;have f9:=f7.step h9 z9;have s9:=s7.trans z9;have F7:=r9.le;have l9:=l8.bind r9;have F8:=l9.le;have x7:=r9.fuel u2;have q7:=f9.pk.sm.sp;have A9:=s9.size;have x8:=NV.new (b:=w9.heap.size) f9.pk.sm (by have:=s9.size;omega) { op:=28,pos:=V.pos q3 }
  have x9:=s9.alloc (.cells (ndA { op:=28,pos:=V.pos q3 } (.slice none 0 0)) 42);have n4:=q7.alloc (.cells (ndA { op:=28,pos:=V.pos q3 } (.slice none 0 0)) 42);have t2:=l9.rest;have C5:=t2.le;have y0:Lp V 0 (1000*([]:List Int).length) (fun o=>(a0F V (keyF V E) q9 o).bind (fun gs q o=>(lay { op:=28,kids:=gs,pos:=V.pos q3 } q o).bind fun cc q o=>qry3 V (V.pos p) ([a3]++[cc]) q o)) (fun o=>(a1w V (keyF V E) (V.ts.length+1) [] q9 o).bind (fun gs q o=>(lay { op:=28,kids:=gs,pos:=V.pos q3 } q o).bind fun cc q o=>qry3 V (V.pos p) ([a3]++[cc]) q o)) q9 y9 m3 q9 y9 m3:=t2;go_wp2_with fail
  go_loopw [] (fun wr=>∃ (ks:List Int) (k q:Nat) (y:Option (List Nd)) (m1:Nat) (va:Option Addr) (vn vc:Nat),NV V src r B (fun g=>D g\/((.slice m2 m4 m5):Value).ownBlock=some g) w9.heap.size wr q y m1 w9.heap.size { op:=28,pos:=V.pos q3 } (.slice va vn vc) ks/\Sp 3 r w wr/\Sp 3 r w9 wr/\Hid (∀ o,y=some o->V.ts.length-q<k)/\Lp V 0 (1000*ks.length) (fun o=>(a0F V (keyF V E) q9 o).bind (fun gs q o=>(lay { op:=28,kids:=gs,pos:=V.pos q3 } q o).bind fun cc q o=>qry3 V (V.pos p) ([a3]++[cc]) q o)) (fun o=>(a1w V (keyF V E) k ks q o).bind (fun gs q o=>(lay { op:=28,kids:=gs,pos:=V.pos q3 } q o).bind fun cc q o=>qry3 V (V.pos p) ([a3]++[cc]) q o)) q9 y9 m3 q y m1/\Hid (ks.length<=4100)) (fun wr=>V.ts.length-atN r wr)
  case atStart=>exact⟨[],V.ts.length+1,_,_,_,_,_,_,x8,x9,n4,(fun o _=>by omega:∀ o,y9=some o->V.ts.length-q9<V.ts.length+1),y0,(by simp:([]:List Int).length<=4100)⟩
  case round=>
  obtain⟨i7,y1,F9,G0,G1,y2,y4,y5,m6,y6,n5,t3,y7,y8⟩:=hrel;have C6:=y8.out;have z0:=m6.pk.sm.atN;have B0:=m6.pk.sm.le;have n8:=y7.listUB t3.out;have C7:=n8.le;have p2:=n8.fuel x7;go_wp2;refine a0a (S:=(fun W=>W.cell? ⟨w9.heap.size,8,none⟩=some (.slice y2 y4 y5))) (late:=[6,7]) (by kernel_rfl) (by first | exact m6.cells.2.2.2.2.2.2.2.2.1 | go_keep) (fun hHeld=>?_);refine tT 0 rfl hHeld ?_
  try simp only[Act.put,q1,q2,q3]
  refine tL 1 rfl hHeld ?_
  try simp only[Act.put,q1,q2,q3]
  refine tT 2 rfl hHeld ?_
  try simp only[Act.put,q1,q2,q3]
  refine rE 3 rfl fun K hK=>?_;go_simp;have t4:=m6.below ((Below.refl _ _).drew);refine(hY t4.pk.sm p2 (by omega)).mono ?_;rintro e G2 ⟨i8,i9,j0,h2,rfl,z1,n9,j1⟩;have o0:=t4.step z1 n9;have z2:=y6.drew.trans n9;have n6:=n5.drew.trans n9;have C8:=j1.le;have o1:=n8.bind j1;have C9:=o1.le;have p3:=j1.fuel p2;obtain⟨u3,u4,u5,G3,m7,o2,t5,u6,D0⟩:=o0.kid i8 (by first | (simp;done) | (simp;omega) | omega);refine hK _ _ ⟨o0.cells.2.2.2.2.2.2.2.2.1,?_⟩;clear hK K
  try simp only[Act.put,q1,q2,q3]
  refine rE 4 rfl fun K hK=>?_;go_simp;refine hK _ _ ⟨(o0.below (below_alloc _ _)).cells.2.2.2.2.2.2.2.2.1,?_⟩;clear hK K
  try simp only[Act.put,q1,q2,q3]
  refine rE 5 rfl fun K hK=>?_;refine a0e rfl (.tmp 26) (.tmp 29) 37 rfl _ _ rfl rfl _ _ m7 ?_;refine hK _ _ ⟨u6,?_⟩;clear hK K m7
  try simp only[Act.put,q1,q2,q3]
  refine rL 6 rfl fun K hK=>?_;go_simp;refine hK _ _ ?_;clear hK K
  try simp only[Act.put,q1,q2,q3]
  refine rL 7 rfl fun K hK=>?_;go_simp;refine hK _ _ ?_;clear hK K
  try simp only[Act.put,q1,q2,q3]
  refine a0h (by kernel_rfl) ?_ _;have t6:=t5 w z2 (by first | exact Nat.le_refl _ | omega);have h6:=t5 _ n6 (by first | exact Nat.le_refl _ | omega);go_wp2_with fail;refine(a0b hV o2.pk.sm a1c).mono ?_;rintro e t8 ⟨z4,rfl,o3,g2,h4⟩
  cases z4 with
  | true=>
   replace g2:SM V src r B _ t8 (i9+1) j0 h2:=g2;have h5:=o2.step g2 h4;have o4:=t6.trans h4;have g0:=h6.trans h4;obtain⟨G4,o5,G5,D1⟩:=o3.yes;have j2:=o1.tkT o3;have u7:=j2.le;have B1:=g2.le;have D2:∀ o,j0=some o->V.ts.length-(i9+1)<_:=fun o e=>Nat.lt_of_le_of_lt (by omega) (p3 o e)
   have D3:(i7++[i8]).length=i7.length+1:=by simp
   have t9:=j2.norm o5 (1000*(i7++[i8]).length) (by omega);have D4:=(t9.ok o5).1;have z5:=h5.pk.sm.atN;obtain⟨_,z6,z8⟩:=j1.ok o5;have G6:=t3.out z6 z8;have G7:=j1.up;have u8:=hid ((fun o _=>by omega):∀ o,j0=some o->V.ts.length-(i9+1)<y1-1);have u9:=hid ((by omega):(i7++[i8]).length<=4100);go_wp2;go_roundw
   case rel=>exact⟨_,_,_,_,_,_,_,_,h5,o4,g0,u8,t9,u9⟩
   case measure=>rw[z0,z5];omega
  | false=>
  replace g2:SM V src r B _ t8 i9 j0 h2:=g2;have h5:=o2.step g2 h4;have o4:=t6.trans h4;have g0:=h6.trans h4;have j2:=o1.tkF o3;have u7:=j2.le;have u0:=f9.step h5.pk.out g0;have v0:=hid (⟨u0.cells.2.2.2.2.2.2.2.2.1,h5.cells⟩:_/\_);go_wp2
  refine a0a (S:=(fun W=>W.cell? ⟨w1.heap.size,8,none⟩=some (.slice m2 m4 m5)/\W.cell? ⟨w9.heap.size,0,none⟩=some (.int .i64 ({ op:=28,pos:=V.pos q3 }:Nd).op)/\W.cell? ⟨w9.heap.size,1,none⟩=some (.string ({ op:=28,pos:=V.pos q3 }:Nd).name)/\W.cell? ⟨w9.heap.size,2,none⟩=some (.string ({ op:=28,pos:=V.pos q3 }:Nd).qual)/\W.cell? ⟨w9.heap.size,3,none⟩=some (.int .i64 ({ op:=28,pos:=V.pos q3 }:Nd).n)/\W.cell? ⟨w9.heap.size,4,none⟩=some (.int .i64 ({ op:=28,pos:=V.pos q3 }:Nd).m)/\W.cell? ⟨w9.heap.size,5,none⟩=some (.int .i64 ({ op:=28,pos:=V.pos q3 }:Nd).vk)/\W.cell? ⟨w9.heap.size,6,none⟩=some (.int .i64 ({ op:=28,pos:=V.pos q3 }:Nd).vn)/\W.cell? ⟨w9.heap.size,7,none⟩=some (.string ({ op:=28,pos:=V.pos q3 }:Nd).vs)/\W.cell? ⟨w9.heap.size,8,none⟩=some ((.slice u3 u4 u5))/\W.cell? ⟨w9.heap.size,9,none⟩=some (.int .i64 ({ op:=28,pos:=V.pos q3 }:Nd).pos))) (late:=[7,8]) (by kernel_rfl) (by first | exact v0.out | go_keep) (fun hHeld=>?_)
  refine tT 0 rfl hHeld ?_
  try simp only[Act.put,q1,q2,q3]
  refine tL 1 rfl hHeld ?_
  try simp only[Act.put,q1,q2,q3]
  refine tT 2 rfl hHeld ?_
  try simp only[Act.put,q1,q2,q3]
  refine tL 3 rfl hHeld ?_
  try simp only[Act.put,q1,q2,q3]
  refine rE 4 rfl fun K hK=>?_;go_simp;have j3:=h5.below ((Below.refl _ _).drew);have v1:=u0.below ((Below.refl _ _).drew);refine(a0g j3.pk.out (by have:=a0r (V:=V) (p:=i9) (x:=j0) (m:=h2);omega) { op:=28,kids:=(i7++[i8]),pos:=V.pos q3 } _ j3.pk.kids (fun _=>j3.pk.far (fun g hg=>f9.pk.sm.dl g hg))).mono ?_;rintro e A0 ⟨rfl,A1,o6,o8⟩;have o9:=v1.step A1 o6;have A2:=o4.drew.trans o6;have b2:=hid ((j3.nb.heap o6).trans j3.cell);have D5:=o8.le;have u1:=j2.bind o8;have D6:=u1.le;have D7:=o8.fuel p3;obtain⟨D8,D9,E0,G8,m8,A3,A4,v2,E1,v3⟩:=o9.kid2 (h2:Int) (by first | (simp;done) | (simp;omega) | omega)
  refine hK _ _ ⟨⟨o9.cells.2.2.2.2.2.2.2.2.1,(cell_of b2.out).1,(cell_of b2.out).1,(cell_of b2.out).1,(cell_of b2.out).1,(cell_of b2.out).1,(cell_of b2.out).1,(cell_of b2.out).1,(cell_of b2.out).1,(cell_of b2.out).1,(cell_of b2.out).1⟩,?_⟩;clear hK K
  try simp only[Act.put,q1,q2,q3]
  have b3:=hid (((below_alloc A0 (.cells #[.int .i64 (h2:Int)] 3)).block _ (Array.getElem?_eq_some_iff.1 b2.out).1).trans b2.out);refine rE 5 rfl fun K hK=>?_;go_simp;refine hK _ _ ⟨⟨(o9.below (below_alloc _ _)).cells.2.2.2.2.2.2.2.2.1,(cell_of b3.out).1,(cell_of b3.out).1,(cell_of b3.out).1,(cell_of b3.out).1,(cell_of b3.out).1,(cell_of b3.out).1,(cell_of b3.out).1,(cell_of b3.out).1,(cell_of b3.out).1,(cell_of b3.out).1⟩,?_⟩;clear hK K
  try simp only[Act.put,q1,q2,q3]
  have c3:=hid ((v3 _ ⟨_,_,b3.out⟩).trans b3.out);refine rE 6 rfl fun K hK=>?_;refine a0e rfl (.tmp 36) (.tmp 40) 37 rfl _ _ rfl rfl _ _ m8 ?_;refine hK _ _ ⟨⟨v2,(cell_of c3.out).1,(cell_of c3.out).1,(cell_of c3.out).1,(cell_of c3.out).1,(cell_of c3.out).1,(cell_of c3.out).1,(cell_of c3.out).1,(cell_of c3.out).1,(cell_of c3.out).1,(cell_of c3.out).1⟩,?_⟩;clear hK K m8
  try simp only[Act.put,q1,q2,q3]
  refine rL 7 rfl fun K hK=>?_;go_simp;refine hK _ _ ?_;clear hK K
  try simp only[Act.put,q1,q2,q3]
  refine rL 8 rfl fun K hK=>?_;go_simp;refine hK _ _ ?_;clear hK K
  try simp only[Act.put,q1,q2,q3]
  refine a0h (by kernel_rfl) ?_ _;have A5:=A4 w A2 (by first | exact Nat.le_refl _ | omega);have lm:=((l7.compS e7 (l9.comp u1))).weak (d':=14) (c':=14) (by omega) (by omega)
  have hkm:Hid (([]++[a3]++[(h2:Int)]:List Int).length<=3):=by simp[Hid];try omega
  go_wp2;go_meet
  case rel=>exact⟨_,_,_,_,_,_,_,A3,A5,lm,hkm⟩
 case rest=>
 rename World=>w207;obtain⟨a7,a0,j7,a9,b9,c0,c1,p4,v4,f1,q8⟩:=hcut;have A7:=q8.out;have B2:=f1.le;have r0:=f1.fuel p1;go_wp2_with fail;refine(a0C hV p4.pk.sm).mono ?_;rintro e a2 ⟨rfl,p5⟩;have e3:=p4.below p5;have j8:=v4.below p5;have n7:=e3.pk.sm.sp;have A8:=j8.size;have p6:=NV.new (b:=a2.heap.size) e3.pk.sm (by have:=j8.size;omega) { op:=30,n:=-1,m:=-1,pos:=V.pos a0 };have v5:=j8.alloc (.cells (ndA { op:=30,n:=-1,m:=-1,pos:=V.pos a0 } (.slice none 0 0)) 42);have j4:=n7.alloc (.cells (ndA { op:=30,n:=-1,m:=-1,pos:=V.pos a0 } (.slice none 0 0)) 42);have g4:=f1.rest;have B3:=g4.le;have p7:=g4.rest;have B4:=p7.le
 have j9:=p7.congr (G':=fun o=>if sees V a0 a1Z then(a0X V (a0+1) o).bind fun a r o=>(fun r o=>(numF V a0K r o).bind fun b r o=>(fun r o=>if decide (0<=a) || decide (0<=b) then(lay { op:=30,n:=a,m:=b,pos:=V.pos a0 } r o).bind fun c r o=>qry4 (V.pos p) (a7++[c]) r o else qry4 (V.pos p) a7 r o) r o) r o else(fun r o=>(numF V a0K r o).bind fun b r o=>(fun r o=>if decide (0<=(-1)) || decide (0<=b) then(lay { op:=30,n:=(-1),m:=b,pos:=V.pos a0 } r o).bind fun c r o=>qry4 (V.pos p) (a7++[c]) r o else qry4 (V.pos p) a7 r o) r o) a0 o) (fun o _=>a7K V _ _ _ o);have B5:=j9.le;go_wp2_with fail;refine(a0b hV p6.pk.sm a1Z).mono ?_;rintro e p8 ⟨v6,rfl,k0,v7,k1⟩;have e4:=p6.step v7 k1;have p9:=v5.trans k1
 have g1:=j4.trans k1;go_upto_if 48 with fail
 go_cut [] (fun wx=>∃ (a:Int) (q:Nat) (y:Option (List Nd)),NV V src r B (fun g=>D g\/((.slice b9 c0 c1):Value).ownBlock=some g) a2.heap.size wx q y a9 a2.heap.size { op:=30,n:=a,m:=-1,pos:=V.pos a0 } (.slice none 0 0) []/\Sp 3 r w wx/\Sp 3 r a2 wx/\Lp V 0 0 (fun o=>(numF V a1Z a0 o).bind fun a r o=>(fun r o=>(numF V a0K r o).bind fun b r o=>(fun r o=>if decide (0<=a) || decide (0<=b) then(lay { op:=30,n:=a,m:=b,pos:=V.pos a0 } r o).bind fun c r o=>qry4 (V.pos p) (a7++[c]) r o else qry4 (V.pos p) a7 r o) r o) r o) ((fun r o=>(numF V a0K r o).bind fun b r o=>(fun r o=>if decide (0<=a) || decide (0<=b) then(lay { op:=30,n:=a,m:=b,pos:=V.pos a0 } r o).bind fun c r o=>qry4 (V.pos p) (a7++[c]) r o else qry4 (V.pos p) a7 r o) r o) q) a0 j7 a9 q y a9)
 case first=>
  cases v6 with
  | false=>
   replace e4:NV V src r B (fun g=>D g\/((.slice b9 c0 c1):Value).ownBlock=some g) a2.heap.size p8 a0 j7 a9 a2.heap.size { op:=30,n:=(-1),m:=-1,pos:=V.pos a0 } (.slice none 0 0) []:=e4;have c5:=j9.tkF k0;have m9:=c5.le;have lm:=(c5).weak (d':=0) (c':=0) (by omega) (by omega);go_wp2;go_meet
   case rel=>exact⟨_,_,_,e4,p9,g1,lm⟩
  | true=>
  have n0:=e4;replace e4:NV V src r B (fun g=>D g\/((.slice b9 c0 c1):Value).ownBlock=some g) a2.heap.size p8 (a0+1) j7 a9 a2.heap.size { op:=30,n:=(-1),m:=-1,pos:=V.pos a0 } (.slice none 0 0) []:=n0;clear n0;obtain⟨E2,v8,E3,B6⟩:=k0.yes;have c5:=j9.tkT k0;have m9:=c5.le;go_wp2_with fail;refine(count_any hV hE e4.pk.sm).mono ?_;rintro e k2 ⟨h8,E4,E5,rfl,k3,e5,q0,B7⟩;have b0:=e4.step k3 e5;have i0:=p9.trans e5;have c2:=g1.trans e5;have B8:=q0.le;have c9:=c5.pay v8 q0 (fun _=>rfl);have n1:=c9.le;obtain⟨d0,d1,d2,d3,d4,d5,d6,d7,d8,d9⟩:=b0.cells;have dz:=b0.fz;go_wp2_with fail;clear d0 d1 d2 d3 d4 d5 d6 d7 d8 d9 dz
  have e6:=b0.set 3 (.int .i64 h8) { op:=30,n:=h8,m:=-1,pos:=V.pos a0 } rfl;have k4:=i0.set (j:=3) (.int .i64 h8) (by have:=b0.lo;omega);have e1:=c2.set (j:=3) (.int .i64 h8) (by have:=b0.lo;omega);have lm:=(c9).weak (d':=0) (c':=0) (by omega) (by omega);go_wp2;go_meet
  case rel=>exact⟨_,_,_,e6,k4,e1,lm⟩
 case rest=>
 rename World=>w904;obtain⟨a1,e8,k5,q4,v9,j5,f6⟩:=hcut;have B9:=f6.le;have r1:=f6.fuel r0;have c4:=f6.rest;have r2:=c4.le;have c5:=c4.congr (G':=fun o=>if sees V e8 a0K then(a0X V (e8+1) o).bind fun a r o=>(fun r o=>if decide (0<=a1) || decide (0<=a) then(lay { op:=30,n:=a1,m:=a,pos:=V.pos a0 } r o).bind fun c r o=>qry4 (V.pos p) (a7++[c]) r o else qry4 (V.pos p) a7 r o) r o else(fun r o=>if decide (0<=a1) || decide (0<=(-1)) then(lay { op:=30,n:=a1,m:=(-1),pos:=V.pos a0 } r o).bind fun c r o=>qry4 (V.pos p) (a7++[c]) r o else qry4 (V.pos p) a7 r o) e8 o) (fun o _=>a7K V _ _ _ o);have m9:=c5.le;go_wp2_with fail;refine(a0b hV q4.pk.sm a0K).mono ?_;rintro e k2 ⟨w0,rfl,k6,k3,e5⟩
 have b0:=q4.step k3 e5;have i0:=v9.trans e5;have c2:=j5.trans e5;go_upto_if 53 with fail
 go_cut [] (fun wx=>∃ (a:Int) (q:Nat) (y:Option (List Nd)),NV V src r B (fun g=>D g\/((.slice b9 c0 c1):Value).ownBlock=some g) a2.heap.size wx q y a9 a2.heap.size { op:=30,n:=a1,m:=a,pos:=V.pos a0 } (.slice none 0 0) []/\Sp 3 r w wx/\Sp 3 r a2 wx/\Lp V 0 0 (fun o=>(numF V a0K e8 o).bind fun a r o=>(fun r o=>if decide (0<=a1) || decide (0<=a) then(lay { op:=30,n:=a1,m:=a,pos:=V.pos a0 } r o).bind fun c r o=>qry4 (V.pos p) (a7++[c]) r o else qry4 (V.pos p) a7 r o) r o) ((fun r o=>if decide (0<=a1) || decide (0<=a) then(lay { op:=30,n:=a1,m:=a,pos:=V.pos a0 } r o).bind fun c r o=>qry4 (V.pos p) (a7++[c]) r o else qry4 (V.pos p) a7 r o) q) e8 k5 a9 q y a9)
 case first=>
  cases w0 with
  | false=>
   replace b0:NV V src r B (fun g=>D g\/((.slice b9 c0 c1):Value).ownBlock=some g) a2.heap.size k2 e8 k5 a9 a2.heap.size { op:=30,n:=a1,m:=(-1),pos:=V.pos a0 } (.slice none 0 0) []:=b0;have c9:=c5.tkF k6;have n1:=c9.le;have lm:=(c9).weak (d':=0) (c':=0) (by omega) (by omega);go_wp2;go_meet
   case rel=>exact⟨_,_,_,b0,i0,c2,lm⟩
  | true=>
  have n2:=b0;replace b0:NV V src r B (fun g=>D g\/((.slice b9 c0 c1):Value).ownBlock=some g) a2.heap.size k2 (e8+1) k5 a9 a2.heap.size { op:=30,n:=a1,m:=(-1),pos:=V.pos a0 } (.slice none 0 0) []:=n2;clear n2;obtain⟨E6,w2,E7,C0⟩:=k6.yes;have c9:=c5.tkT k6;have n1:=c9.le;go_wp2_with fail;refine(count_any hV hE b0.pk.sm).mono ?_;rintro e E8 ⟨i1,E9,F0,rfl,w6,k7,q5,C1⟩;have e6:=b0.step w6 k7;have k4:=i0.trans k7;have e1:=c2.trans k7;have C2:=q5.le;have q6:=c9.pay w2 q5 (fun _=>rfl);have C3:=q6.le;obtain⟨d0,d1,d2,d3,d4,d5,d6,d7,d8,d9⟩:=e6.cells;have dz:=e6.fz;go_wp2_with fail;clear d0 d1 d2 d3 d4 d5 d6 d7 d8 d9 dz
  have w8:=e6.set 4 (.int .i64 i1) { op:=30,n:=a1,m:=i1,pos:=V.pos a0 } rfl;have x0:=k4.set (j:=4) (.int .i64 i1) (by have:=e6.lo;omega);have j6:=e1.set (j:=4) (.int .i64 i1) (by have:=e6.lo;omega);have lm:=(q6).weak (d':=0) (c':=0) (by omega) (by omega);go_wp2;go_meet
  case rel=>exact⟨_,_,_,w8,x0,j6,lm⟩
 case rest=>
 rename World=>w905;obtain⟨a6,e9,g5,b4,k8,e2,c4⟩:=hcut;have r2:=c4.le;have n3:=c4.fuel r1;by_cases hd:(decide (0<=a1) || decide (0<=a6))=true
 .have g6:=c4.rest;have r4:=g6.le;have f8:=g6.congr (G':=fun o=>(lay { op:=30,n:=a1,m:=a6,pos:=V.pos a0 } e9 o).bind fun c r o=>qry4 (V.pos p) (a7++[c]) r o) (fun o _=>by simp only[hd];rfl);have r5:=f8.le;obtain⟨d0,d1,d2,d3,d4,d5,d6,d7,d8,d9⟩:=b4.cells;have dz:=b4.fz;dsimp only at d3 d4
  have A6:0<=a1\/(¬ 0<=a1/\0<=a6):=by simp at hd;omega
  clear hd;rcases A6 with ha | ⟨ha,hb⟩
  .go_wp2_with fail;clear d0 d1 d2 d3 d4 d5 d6 d7 d8 d9 dz;have b6:=e3.step b4.pk.out e2;have i3:=hid (⟨b6.cells.2.2.2.2.2.2.2.2.1,b4.cells⟩:_/\_);go_wp2
   refine a0a (S:=(fun W=>W.cell? ⟨w1.heap.size,8,none⟩=some (.slice b9 c0 c1)/\W.cell? ⟨a2.heap.size,0,none⟩=some (.int .i64 ({ op:=30,n:=a1,m:=a6,pos:=V.pos a0 }:Nd).op)/\W.cell? ⟨a2.heap.size,1,none⟩=some (.string ({ op:=30,n:=a1,m:=a6,pos:=V.pos a0 }:Nd).name)/\W.cell? ⟨a2.heap.size,2,none⟩=some (.string ({ op:=30,n:=a1,m:=a6,pos:=V.pos a0 }:Nd).qual)/\W.cell? ⟨a2.heap.size,3,none⟩=some (.int .i64 ({ op:=30,n:=a1,m:=a6,pos:=V.pos a0 }:Nd).n)/\W.cell? ⟨a2.heap.size,4,none⟩=some (.int .i64 ({ op:=30,n:=a1,m:=a6,pos:=V.pos a0 }:Nd).m)/\W.cell? ⟨a2.heap.size,5,none⟩=some (.int .i64 ({ op:=30,n:=a1,m:=a6,pos:=V.pos a0 }:Nd).vk)/\W.cell? ⟨a2.heap.size,6,none⟩=some (.int .i64 ({ op:=30,n:=a1,m:=a6,pos:=V.pos a0 }:Nd).vn)/\W.cell? ⟨a2.heap.size,7,none⟩=some (.string ({ op:=30,n:=a1,m:=a6,pos:=V.pos a0 }:Nd).vs)/\W.cell? ⟨a2.heap.size,8,none⟩=some ((.slice none 0 0))/\W.cell? ⟨a2.heap.size,9,none⟩=some (.int .i64 ({ op:=30,n:=a1,m:=a6,pos:=V.pos a0 }:Nd).pos))) (late:=[7,8]) (by kernel_rfl) (by first | exact i3.out | go_keep) (fun hHeld=>?_)
   refine tT 0 rfl hHeld ?_
   try simp only[Act.put,q1,q2,q3]
   refine tL 1 rfl hHeld ?_
   try simp only[Act.put,q1,q2,q3]
   refine tT 2 rfl hHeld ?_
   try simp only[Act.put,q1,q2,q3]
   refine tL 3 rfl hHeld ?_
   try simp only[Act.put,q1,q2,q3]
   refine rE 4 rfl fun K hK=>?_;go_simp;have b7:=b4.below ((Below.refl _ _).drew);have i4:=b6.below ((Below.refl _ _).drew);refine(a0g b7.pk.out (by have:=a0r (V:=V) (p:=e9) (x:=g5) (m:=a9);omega) { op:=30,n:=a1,m:=a6,pos:=V.pos a0 } _ b7.pk.kids (fun _=>b7.pk.far (fun g hg=>e3.pk.sm.dl g hg))).mono ?_;rintro e i2 ⟨rfl,g8,c6,c8⟩;have f0:=i4.step g8 c6;have g9:=k8.drew.trans c6;have a4:=hid ((b7.nb.heap c6).trans b7.cell);have r6:=c8.le;have h0:=f8.bind c8;have r7:=h0.le;have r8:=c8.fuel n3;obtain⟨s0,s6,s8,x1,e0,b8,k9,i5,t0,i6⟩:=f0.kid2 (a9:Int) (by first | (simp;done) | (simp;omega) | omega)
   refine hK _ _ ⟨⟨f0.cells.2.2.2.2.2.2.2.2.1,(cell_of a4.out).1,(cell_of a4.out).1,(cell_of a4.out).1,(cell_of a4.out).1,(cell_of a4.out).1,(cell_of a4.out).1,(cell_of a4.out).1,(cell_of a4.out).1,(cell_of a4.out).1,(cell_of a4.out).1⟩,?_⟩;clear hK K
   try simp only[Act.put,q1,q2,q3]
   have a5:=hid (((below_alloc i2 (.cells #[.int .i64 (a9:Int)] 3)).block _ (Array.getElem?_eq_some_iff.1 a4.out).1).trans a4.out);refine rE 5 rfl fun K hK=>?_;go_simp;refine hK _ _ ⟨⟨(f0.below (below_alloc _ _)).cells.2.2.2.2.2.2.2.2.1,(cell_of a5.out).1,(cell_of a5.out).1,(cell_of a5.out).1,(cell_of a5.out).1,(cell_of a5.out).1,(cell_of a5.out).1,(cell_of a5.out).1,(cell_of a5.out).1,(cell_of a5.out).1,(cell_of a5.out).1⟩,?_⟩;clear hK K
   try simp only[Act.put,q1,q2,q3]
   have a8:=hid ((i6 _ ⟨_,_,a5.out⟩).trans a5.out);refine rE 6 rfl fun K hK=>?_;refine a0e rfl (.tmp 66) (.tmp 70) 37 rfl _ _ rfl rfl _ _ e0 ?_;refine hK _ _ ⟨⟨i5,(cell_of a8.out).1,(cell_of a8.out).1,(cell_of a8.out).1,(cell_of a8.out).1,(cell_of a8.out).1,(cell_of a8.out).1,(cell_of a8.out).1,(cell_of a8.out).1,(cell_of a8.out).1,(cell_of a8.out).1⟩,?_⟩;clear hK K e0
   try simp only[Act.put,q1,q2,q3]
   refine rL 7 rfl fun K hK=>?_;go_simp;refine hK _ _ ?_;clear hK K
   try simp only[Act.put,q1,q2,q3]
   refine rL 8 rfl fun K hK=>?_;go_simp;refine hK _ _ ?_;clear hK K
   try simp only[Act.put,q1,q2,q3]
   refine a0h (by kernel_rfl) ?_ _;have l1:=k9 w g9 (by first | exact Nat.le_refl _ | omega);obtain⟨d0,d1,d2,d3,d4,d5,d6,d7,d8,d9⟩:=b8.cells;have dz:=b8.fz;go_wp2_with fail;refine(a0g b8.pk.out (by have:=a0r (V:=V) (p:=e9) (x:=(Option.map (·++[{ op:=30,n:=a1,m:=a6,pos:=V.pos a0 }]) (g5))) (m:=(a9+1));omega) { op:=27,kids:=a7++[(a9:Int)],pos:=V.pos p } _ b8.pk.kids (fun _=>b8.pk.far (fun g hg=>h.dl g hg))).mono ?_;rintro e x2 ⟨rfl,l2,l4,l5⟩;have m0:=l1.trans l4;have HR:=hid (h0.last l5);replace HR:=hid (c4.last HR.out);replace HR:=hid (f6.last HR.out);replace HR:=hid (g4.last HR.out);replace HR:=hid (f1.last HR.out);replace HR:=hid (l3.last HR.out);go_wp2;go_ret
   exact⟨Int.natCast_nonneg _,_,_,_,_,rfl,l2,m0,HR.out.weak (by omega) (by omega)⟩
  go_wp2_with fail;clear d0 d1 d2 d3 d4 d5 d6 d7 d8 d9 dz;have b6:=e3.step b4.pk.out e2;have i3:=hid (⟨b6.cells.2.2.2.2.2.2.2.2.1,b4.cells⟩:_/\_);go_wp2
  refine a0a (S:=(fun W=>W.cell? ⟨w1.heap.size,8,none⟩=some (.slice b9 c0 c1)/\W.cell? ⟨a2.heap.size,0,none⟩=some (.int .i64 ({ op:=30,n:=a1,m:=a6,pos:=V.pos a0 }:Nd).op)/\W.cell? ⟨a2.heap.size,1,none⟩=some (.string ({ op:=30,n:=a1,m:=a6,pos:=V.pos a0 }:Nd).name)/\W.cell? ⟨a2.heap.size,2,none⟩=some (.string ({ op:=30,n:=a1,m:=a6,pos:=V.pos a0 }:Nd).qual)/\W.cell? ⟨a2.heap.size,3,none⟩=some (.int .i64 ({ op:=30,n:=a1,m:=a6,pos:=V.pos a0 }:Nd).n)/\W.cell? ⟨a2.heap.size,4,none⟩=some (.int .i64 ({ op:=30,n:=a1,m:=a6,pos:=V.pos a0 }:Nd).m)/\W.cell? ⟨a2.heap.size,5,none⟩=some (.int .i64 ({ op:=30,n:=a1,m:=a6,pos:=V.pos a0 }:Nd).vk)/\W.cell? ⟨a2.heap.size,6,none⟩=some (.int .i64 ({ op:=30,n:=a1,m:=a6,pos:=V.pos a0 }:Nd).vn)/\W.cell? ⟨a2.heap.size,7,none⟩=some (.string ({ op:=30,n:=a1,m:=a6,pos:=V.pos a0 }:Nd).vs)/\W.cell? ⟨a2.heap.size,8,none⟩=some ((.slice none 0 0))/\W.cell? ⟨a2.heap.size,9,none⟩=some (.int .i64 ({ op:=30,n:=a1,m:=a6,pos:=V.pos a0 }:Nd).pos))) (late:=[7,8]) (by kernel_rfl) (by first | exact i3.out | go_keep) (fun hHeld=>?_)
  refine tT 0 rfl hHeld ?_
  try simp only[Act.put,q1,q2,q3]
  refine tL 1 rfl hHeld ?_
  try simp only[Act.put,q1,q2,q3]
  refine tT 2 rfl hHeld ?_
  try simp only[Act.put,q1,q2,q3]
  refine tL 3 rfl hHeld ?_
  try simp only[Act.put,q1,q2,q3]
  refine rE 4 rfl fun K hK=>?_;go_simp;have b7:=b4.below ((Below.refl _ _).drew);have i4:=b6.below ((Below.refl _ _).drew);refine(a0g b7.pk.out (by have:=a0r (V:=V) (p:=e9) (x:=g5) (m:=a9);omega) { op:=30,n:=a1,m:=a6,pos:=V.pos a0 } _ b7.pk.kids (fun _=>b7.pk.far (fun g hg=>e3.pk.sm.dl g hg))).mono ?_;rintro e i2 ⟨rfl,g8,c6,c8⟩;have f0:=i4.step g8 c6;have g9:=k8.drew.trans c6;have a4:=hid ((b7.nb.heap c6).trans b7.cell);have r6:=c8.le;have h0:=f8.bind c8;have r7:=h0.le;have r8:=c8.fuel n3;obtain⟨s0,s6,s8,x1,e0,b8,k9,i5,t0,i6⟩:=f0.kid2 (a9:Int) (by first | (simp;done) | (simp;omega) | omega)
  refine hK _ _ ⟨⟨f0.cells.2.2.2.2.2.2.2.2.1,(cell_of a4.out).1,(cell_of a4.out).1,(cell_of a4.out).1,(cell_of a4.out).1,(cell_of a4.out).1,(cell_of a4.out).1,(cell_of a4.out).1,(cell_of a4.out).1,(cell_of a4.out).1,(cell_of a4.out).1⟩,?_⟩;clear hK K
  try simp only[Act.put,q1,q2,q3]
  have a5:=hid (((below_alloc i2 (.cells #[.int .i64 (a9:Int)] 3)).block _ (Array.getElem?_eq_some_iff.1 a4.out).1).trans a4.out);refine rE 5 rfl fun K hK=>?_;go_simp;refine hK _ _ ⟨⟨(f0.below (below_alloc _ _)).cells.2.2.2.2.2.2.2.2.1,(cell_of a5.out).1,(cell_of a5.out).1,(cell_of a5.out).1,(cell_of a5.out).1,(cell_of a5.out).1,(cell_of a5.out).1,(cell_of a5.out).1,(cell_of a5.out).1,(cell_of a5.out).1,(cell_of a5.out).1⟩,?_⟩;clear hK K
  try simp only[Act.put,q1,q2,q3]
  have a8:=hid ((i6 _ ⟨_,_,a5.out⟩).trans a5.out);refine rE 6 rfl fun K hK=>?_;refine a0e rfl (.tmp 66) (.tmp 70) 37 rfl _ _ rfl rfl _ _ e0 ?_;refine hK _ _ ⟨⟨i5,(cell_of a8.out).1,(cell_of a8.out).1,(cell_of a8.out).1,(cell_of a8.out).1,(cell_of a8.out).1,(cell_of a8.out).1,(cell_of a8.out).1,(cell_of a8.out).1,(cell_of a8.out).1,(cell_of a8.out).1⟩,?_⟩;clear hK K e0
  try simp only[Act.put,q1,q2,q3]
  refine rL 7 rfl fun K hK=>?_;go_simp;refine hK _ _ ?_;clear hK K
  try simp only[Act.put,q1,q2,q3]
  refine rL 8 rfl fun K hK=>?_;go_simp;refine hK _ _ ?_;clear hK K
  try simp only[Act.put,q1,q2,q3]
  refine a0h (by kernel_rfl) ?_ _;have l1:=k9 w g9 (by first | exact Nat.le_refl _ | omega);obtain⟨d0,d1,d2,d3,d4,d5,d6,d7,d8,d9⟩:=b8.cells;have dz:=b8.fz;go_wp2_with fail;refine(a0g b8.pk.out (by have:=a0r (V:=V) (p:=e9) (x:=(Option.map (·++[{ op:=30,n:=a1,m:=a6,pos:=V.pos a0 }]) (g5))) (m:=(a9+1));omega) { op:=27,kids:=a7++[(a9:Int)],pos:=V.pos p } _ b8.pk.kids (fun _=>b8.pk.far (fun g hg=>h.dl g hg))).mono ?_;rintro e x2 ⟨rfl,l2,l4,l5⟩;have m0:=l1.trans l4;have HR:=hid (h0.last l5);replace HR:=hid (c4.last HR.out);replace HR:=hid (f6.last HR.out);replace HR:=hid (g4.last HR.out);replace HR:=hid (f1.last HR.out);replace HR:=hid (l3.last HR.out);go_wp2;go_ret
  exact⟨Int.natCast_nonneg _,_,_,_,_,rfl,l2,m0,HR.out.weak (by omega) (by omega)⟩
 have g6:=c4.rest;have r4:=g6.le;have f8:=g6.congr (G':=fun o=>qry4 (V.pos p) a7 e9 o) (fun o _=>by simp only[hd];rfl);have r5:=f8.le;obtain⟨d0,d1,d2,d3,d4,d5,d6,d7,d8,d9⟩:=b4.cells;have dz:=b4.fz;dsimp only at d3 d4
 have ha:¬ 0<=a1:=by simp at hd;omega
 have hb:¬ 0<=a6:=by simp at hd;omega
 have G9:decide (0<=a1)=false:=by simp;omega
 have H0:decide (0<=a6)=false:=by simp;omega
 clear hd;go_upto_if 64 with fail;clear d0 d1 d2 d3 d4 d5 d6 d7 d8 d9 dz;have b6:=e3.step b4.pk.out e2;obtain⟨d0,d1,d2,d3,d4,d5,d6,d7,d8,d9⟩:=b6.cells;have dz:=b6.fz;go_wp2_with fail;refine(a0g b6.pk.out (by have:=a0r (V:=V) (p:=e9) (x:=g5) (m:=a9);omega) { op:=27,kids:=a7,pos:=V.pos p } _ b6.pk.kids (fun _=>b6.pk.far (fun g hg=>h.dl g hg))).mono ?_;rintro e i2 ⟨rfl,g8,c6,c8⟩;have g9:=k8.trans c6;have HR:=hid (f8.last c8);replace HR:=hid (c4.last HR.out);replace HR:=hid (f6.last HR.out);replace HR:=hid (g4.last HR.out);replace HR:=hid (f1.last HR.out);replace HR:=hid (l3.last HR.out);go_wp2;go_ret;exact⟨Int.natCast_nonneg _,_,_,_,_,rfl,g8,g9,HR.out.weak (by omega) (by omega)⟩
end Go.Proofs.YtphmpkpcamgjeaaGreatDoor
