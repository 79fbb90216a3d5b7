import Derived.Test.YtphmpkpcamgjeaaGreatDoorXAA
import Derived.Test.YtphmpkpcamgjeaaGreatDoorXAV
set_option linter.unusedVariables false
set_option linter.unusedSimpArgs false
set_option maxRecDepth 100000
set_option maxHeartbeats 16000000
namespace Go.Proofs.YtphmpkpcamgjeaaGreatDoor
open Go.ChangeShapes Go.WideShapes Go.ChangeAt Go.RowKit Go.Proofs.Tryz
open Go.Maps
theorem NI.ks {r:Nat} {w:World} {g:Nat} {t:Nd} (n:NI r w g t) {v:Value} {ks:List Int} (k:KS w v ks) (j:Nat) (u:Value):KS (w.setCell ⟨g,j,none⟩ u) v ks:=k.keep (by simp) (fun c hc=>heap_setCell_other w _ c u (a0t hc n.tg (by decide)))
theorem NI.pi {V:Env} {Mx:DataW Unit} {r B:Nat} {D:Nat->Prop} {b:Nat} {w:World} {p:Nat} {o:List Nd} {v:Value} {ks:List Int} {g:Nat} {t:Nd} (n:NI r w g t) (f:PI V Mx r B D b w p o v ks) (j:Nat) (u:Value):PI V Mx r B D b (w.setCell ⟨g,j,none⟩ u) p o v ks:=
  ⟨n.im f.sm j u,a0L f.row (fun c hc=>heap_setCell_other w _ c u (a0t (a0n f.row hc) n.tg (by decide))),by have:=f.bl;simpa using this⟩
def opsL (ks:List Int):List (ByteArray×Int):=ks.map (fun k=>(opS k,k))
theorem b0V (ks:List Int):(opsL ks).map (·.1)=ks.map opS:=by simp[opsL,Function.comp_def]
theorem b7q (ks:List Int) (i:Nat):(((opsL ks)[i]?).map (·.2)).getD 0=opN ks (some i):=by
 unfold opsL opN;rw[List.getElem?_map]
 cases h:ks[i]?<;>simp[h]
theorem b5f {V:Env} {f:M Int} {ks:List Int} {k q:Nat} {l:Int} {o:List Nd} (hk:V.ts.length-q<k) (h:pick V (ks.map opS) q=none):a1i V f (opsL ks) k l q o=.ok l q o:=by
 obtain⟨k',rfl⟩:∃ k',k=k'+1:=⟨k-1,by omega⟩;unfold a1i;rw[b0V,h]
theorem b5g {V:Env} {f:M Int} {ks:List Int} {k q i:Nat} {l:Int} {o:List Nd} (hk:V.ts.length-q<k) (h:pick V (ks.map opS) q=some i):a1i V f (opsL ks) k l q o=(f (q+1) o).bind fun k2 q2 o=>(lay { op:=5,n:=opN ks (some i),kids:=[l,k2],pos:=V.pos q } q2 o).bind fun c q2 o=>a1i V f (opsL ks) (k-1) c q2 o:=by
 obtain⟨k',rfl⟩:∃ k',k=k'+1:=⟨k-1,by omega⟩;simp only[a1i,b0V,h,b7q,Nat.add_sub_cancel];rfl
section
variable {V : Env} {Mx : DataW Unit} {r B : Nat} {D : Nat -> Prop} {w : World} {p : Nat} {o : List Nd}
theorem a3c {K n:Nat} {F:M Int} {c:Nat} (hV:IV V Mx) (hc:CF K) (hF:a0p V Mx K n F) (hG:Gro c F) (hcc:500<=c) {ka:Option Addr} {kc:Nat} {ks:List Int} (hk:KS w (.slice ka ks.length kc) ks) (hkl:ks.length<=10) (hkb:∀ k∈ks,1<=k/\k<=15) (hko:∀ q i,pick V (ks.map opS) q=some i->¬ opN ks (some i)=0) (h:IM V Mx r B D w p o) (hn:V.ts.length-p<n) (hl:o.length<=1000*p+500) :
 Calls prog 167 #[.pointer (some ⟨r,0,none⟩),fv K r,.slice ka ks.length kc] w fun e w'=>IPost V Mx r B D vInt (chain V F (opsL ks) p o) w e w':=by
 have hT:=hV.n;have hle:=h.le;obtain⟨F0,L0⟩:=hidEq (chain V F (opsL ks) p o);rw[<- L0.out];go_enter func167,ntmps167;go_wp2;refine a3U hc ?_;refine(hF h (by omega) (by omega)).mono ?_;intro e h8 e6;rcases e6.cs with⟨h9,a6,rfl,e7⟩ | ⟨f5,f6,f7,a6,rfl,c6,c7⟩
 .exact bd (It.bad L0.out a6 rfl) ((h.low h.sp).trans e7)
 have h5:=hG _ _ _ _ _ a6;have b8:=h.ks hk c7;have f8:=h.sp.trans c7;have h3:=c6.le;have f9:=hid (It.ok L0.out a6 rfl);go_wp2_with fail;go_loopw [7] (fun lv wr=>∃ (l:Int) (k q:Nat) (o2:List Nd),lv=.int .i64 l/\IM V Mx r B D wr q o2/\Sp 4 r w wr/\KS wr (.slice ka ks.length kc) ks/\Hid (F0=a1i V F (opsL ks) k l q o2)/\V.ts.length-q<k/\V.ts.length-q<n/\o2.length+c<=1000*q+500) (fun _ wr=>V.ts.length-atI r wr)
 case atStart=>exact⟨f5,V.ts.length+1,f6,f7,rfl,c6,f8,b8,f9,by omega,by omega,by omega⟩
 case round=>
 obtain⟨l,k,q,o2,rfl,h2,s2,g9,L2,f4,i5,i6⟩:=hrel;have i0:=h2.le;have h0:=h2.atI;go_wp2_with fail;refine(a0v hV h2).mono ?_;rintro e a1 ⟨rfl,c8⟩;have c9:=h2.spB c8;have b1:=h2.below c8;have b9:=h2.ks g9 c9;have e0:=s2.trans c9;have a8:=NI.new b1 { op:=5,pos:=V.pos q };have e1:=b1.sp.alloc (.cells (ndA { op:=5,pos:=V.pos q } (.slice none 0 0)) 42);have b4:=b1.alloc (.cells (ndA { op:=5,pos:=V.pos q } (.slice none 0 0)) 42);have ng_n:w.heap.size<=a1.heap.size:=e0.size;have a3:=b1.ks b9 e1;have e2:=e0.trans e1;go_wp2_with fail;refine(a4r hV b4 a3 hkl hkb).mono ?_;rintro e e3 ⟨rfl,a2,a5⟩
 cases hp:pick V (ks.map opS) q with
 | none=>
  rw[hp] at a2;replace a2:IM V Mx r B D e3 q o2:=a2;rw[show opN ks none=0 from rfl];have a0:=a8.step a5;have a4:=b4.ks a3 a5;have b5:=e2.trans a5;have LN:=hid (L2.out.trans (b5f f4 hp));obtain⟨d0,d1,d2,d3,d4,d5,d6,d7,d8,d9⟩:=a0.cells;have dz:=a0.fz;have g0:=a0.im a2 3 (.int .i64 0);have g1:=b5.set (j:=3) (.int .i64 0) ng_n;have g8:=a0.ks a4 3 (.int .i64 0);exact okI LN.out g0 g1
 | some i=>
 rw[hp] at a2;replace a2:IM V Mx r B D e3 (q+1) o2:=a2;have a0:=a8.step a5;have a4:=b4.ks a3 a5;have b5:=e2.trans a5;have ltq:=a1Q hp;have hop:=hko q i hp;have LN:=hid (L2.out.trans (b5g f4 hp));generalize opN ks (some i)=op at *
 have hopb:(op==0)=false:=by simpa using hop
 obtain⟨d0,d1,d2,d3,d4,d5,d6,d7,d8,d9⟩:=a0.cells;have dz:=a0.fz;have dnl:=a0.nb.1;have a9:=a0.set 3 (.int .i64 op) { op:=5,n:=op,pos:=V.pos q } rfl;have b2:=a0.im a2 3 (.int .i64 op);have g2:=b5.set (j:=3) (.int .i64 op) ng_n;have c0:=a0.ks a4 3 (.int .i64 op);have e8:=hid a9.cells;go_wp2
 refine a0a (S:=(fun W=>W.cell? ⟨a1.heap.size,0,none⟩=some (.int .i64 5)/\W.cell? ⟨a1.heap.size,1,none⟩=some (.string ⟨#[]⟩)/\W.cell? ⟨a1.heap.size,2,none⟩=some (.string ⟨#[]⟩)/\W.cell? ⟨a1.heap.size,3,none⟩=some (.int .i64 op)/\W.cell? ⟨a1.heap.size,4,none⟩=some (.int .i64 0)/\W.cell? ⟨a1.heap.size,5,none⟩=some (.int .i64 0)/\W.cell? ⟨a1.heap.size,6,none⟩=some (.int .i64 0)/\W.cell? ⟨a1.heap.size,7,none⟩=some (.string ⟨#[]⟩)/\W.cell? ⟨a1.heap.size,8,none⟩=some (.slice none 0 0)/\W.cell? ⟨a1.heap.size,9,none⟩=some (.int .i64 (V.pos q)))) (late:=[6,7]) (by kernel_rfl) (by first | exact e8.out | go_keep) (fun hHeld=>?_);refine tT 0 rfl hHeld ?_
 try simp only[Act.put,q1,q2,q3]
 refine tL 1 rfl hHeld ?_
 try simp only[Act.put,q1,q2,q3]
 refine tT 2 rfl hHeld ?_
 try simp only[Act.put,q1,q2,q3]
 refine tT 3 rfl hHeld ?_
 try simp only[Act.put,q1,q2,q3]
 have c4:=b2.below ((Below.refl _ _).drew);have c5:=g2.drew;have e9:=a9.step (b2.sp.drew);refine rE 4 rfl fun K hK=>?_;go_simp;have c1:=b2.ks c0 (b2.sp.drew);refine a3U hc ?_;refine(hF c4 (by omega) (by omega)).mono ?_;intro e i1 f0;rcases f0.cs with⟨i2,a7,rfl,f1⟩ | ⟨e4,g3,i3,a7,rfl,b3,b6⟩
 .have f2:=hid (It.bad LN.out a7 rfl);have f3:=(h.low c5).trans f1;go_simp;exact⟨rfl,IPost.bad f2.out rfl f3⟩
 have h6:=hG _ _ _ _ _ a7;have b0:=e9.step b6;have c2:=c4.ks c1 b6;have g4:=c5.trans b6;have h4:=b3.le;have g5:=hid (It.ok LN.out a7 rfl);refine hK _ _ ⟨b0.cells,?_⟩;clear hK K
 try simp only[Act.put,q1,q2,q3]
 refine rE 5 rfl fun K hK=>?_;go_simp;refine hK _ _ ⟨(b0.step (b3.sp.alloc (.cells #[.int .i64 l,.int .i64 e4] 3))).cells,?_⟩;clear hK K
 try simp only[Act.put,q1,q2,q3]
 refine rL 6 rfl fun K hK=>?_;go_simp;refine(addZ b3 (by omega) ({ op:=5,n:=op,kids:=[l,e4],pos:=V.pos q }:Nd) (by simp)).mono ?_;rintro e i4 ⟨rfl,b7,e5⟩;have c3:=b3.ks c2 e5;have g6:=g4.trans e5;have g7:=hid (It.layT g5.out rfl);have h7:=b7.ol;refine hK _ _ ?_;clear hK K
 try simp only[Act.put,q1,q2,q3]
 refine rL 7 rfl fun K hK=>?_;go_simp;refine hK _ _ ?_;clear hK K
 try simp only[Act.put,q1,q2,q3]
 refine a0h (by kernel_rfl) ?_ _;have h1:=b7.atI;go_wp2;go_roundw
 case rel=>exact⟨_,k-1,g3,_,rfl,b7,g6,c3,g7,by omega,by omega,by omega⟩
 case measure=>rw[h0,h1];omega
end
end Go.Proofs.YtphmpkpcamgjeaaGreatDoor
namespace Go.Proofs.YtphmpkpcamgjeaaGreatDoor
open Go.ChangeShapes Go.WideShapes Go.ChangeAt Go.RowKit Go.Proofs.Tryz
open Go.Maps
section
variable {V : Env} {Mx : DataW Unit} {r B : Nat} {D : Nat -> Prop} {w : World} {p : Nat} {o : List Nd} {m : Nat} {E Q : M Int}
theorem a3V {V:Env} {p:Nat} (h:isNm V p=true):p<V.ts.length:=by
 rcases Nat.lt_or_ge p V.ts.length with z | z
 .exact z
 exact absurd (Env.tk_out (V:=V) z).1 (b8D h)
theorem a5B {V:Env} {p:Nat} {s:ByteArray} (h:sees V p s=true):(V.tx p).toList=s.toList:=by
 unfold sees at h;simp only[Bool.and_eq_true,beq_iff_eq] at h;exact h.2
theorem a8y {V:Env} {p:Nat} {s:ByteArray} (h:sees V p s=true):V.kd p=1\/V.kd p=6:=by
 unfold sees at h;simp only[Bool.and_eq_true,Bool.or_eq_true,beq_iff_eq] at h;exact h.1
theorem a3m {V:Env} {p:Nat} {s t:ByteArray} (h:sees V p s=true) (hn:(s.toList==t.toList)=false):sees V p t=false:=by
 cases hc:sees V p t with
 | false=>rfl
 | true=>
 have e:=(a5B h).symm.trans (a5B hc);rw[e] at hn;simp at hn
structure IX (V:Env):Prop where
  ci:∀ p,V.kd p=3->∀ w,Calls prog 223 #[.string (V.tx p),.int .i64 1] w fun e w'=>e=.returned (.tuple #[.agg #[.int .i64 1,.int .i64 (V.ri (V.tx p)),.string ⟨#[]⟩],.int .i64 0])/\Below w.heap.size w w'
  cd:∀ p,V.kd p=4->∀ w,MLt w->Calls prog 223 #[.string (V.tx p),.int .i64 2] w fun e w'=>e=.returned (.tuple #[.agg #[.int .i64 2,.int .i64 (V.rd (V.tx p)),.string ⟨#[]⟩],.int .i64 0])/\Below w.heap.size w w'
  cy:∀ p k,V.kd p=5->V.rt (V.tx p)=some k->∀ w,Calls prog 223 #[.string (V.tx p),.int .i64 5] w fun e w'=>e=.returned (.tuple #[.agg #[.int .i64 5,.int .i64 k,.string ⟨#[]⟩],.int .i64 0])/\Below w.heap.size w w'
  cn:∀ p,V.kd p=5->V.rt (V.tx p)=none->∀ w,Calls prog 223 #[.string (V.tx p),.int .i64 5] w fun e w'=>e=.returned (.tuple #[.agg #[.int .i64 0,.int .i64 0,.string ⟨#[]⟩],.int .i64 15])/\Below w.heap.size w w'
  ri:∀ p,V.kd p=3->∀ w,Calls prog 173 #[.string (V.tx p)] w fun e w'=>e=.returned (.tuple #[.int .i64 (V.ri (V.tx p)),.bool true])/\Below w.heap.size w w'
  rin:∀ p,V.kd p=3->0<=V.ri (V.tx p)
  rw:∀ p s,s∈[k_exists,a4d,a4e,a2n,b1D,b1E,b1F,b1G,a1h,k_true,a2A,a3p,k_as,a0l]->sees V p s=true->isNm V p=false
theorem b8G:CF 151:=fun _ _=>by kernel_rfl
theorem b7r:CF 193:=fun _ _=>by kernel_rfl
theorem a1g:CF 147:=fun _ _=>by kernel_rfl
theorem b7s:CF 213:=fun _ _=>by kernel_rfl
theorem b0W:CF 114:=fun _ _=>by kernel_rfl
theorem b5h:CF 146:=fun _ _=>by kernel_rfl
theorem b8H:CF 115:=fun _ _=>by kernel_rfl
theorem b1T:CF 117:=fun _ _=>by kernel_rfl
theorem a3n:CF 112:=fun _ _=>by kernel_rfl
theorem b8I:CF 168:=fun _ _=>by kernel_rfl
theorem b6v:CF 189:=fun _ _=>by kernel_rfl
theorem b8J:CF 229:=fun _ _=>by kernel_rfl
theorem b8K:CF 233:=fun _ _=>by kernel_rfl
theorem b6w:CF 171:=fun _ _=>by kernel_rfl
theorem a4s:CF 78:=fun _ _=>by kernel_rfl
theorem b7t:CF 207:=fun _ _=>by kernel_rfl
theorem b7u:CF 191:=fun _ _=>by kernel_rfl
theorem a7E (hV:IV V Mx)  (h:IM V Mx r B D w p o) (hn:V.ts.length-p<m) (hl:o.length<=1000*p+500) :
 Calls prog 112 #[.pointer (some ⟨r,0,none⟩)] w fun e w'=>IPost V Mx r B D vInt (a0R V p o) w e w':=by
 have hT:=hV.n;have hle:=h.le;obtain⟨F0,L0⟩:=hidEq (a0R V p o);rw[<- L0.out];go_enter func112,ntmps112;go_wp2_with fail;refine(a0v hV h).mono ?_;rintro e b6 ⟨rfl,a1⟩;have a5:=h.spB a1;have a6:=h.below a1;have a2:=h.sp.trans a5;go_wp2_with fail;refine(a3k hV a6).mono ?_;rintro e b7 (⟨a0,rfl,a7,a8⟩ | ⟨a0,rfl,a4⟩)
 rotate_left
 .exact bd (It.nameF L0.out a0 rfl) ((h.low a2).trans a4)
 have a9:=a2.trans a8;have b0:=hid (It.nameT L0.out a0 rfl);have b4:=a3V a0;go_wp2_with fail;refine(add0 a7 (by omega) ({ op:=42,name:=(V.tx p),pos:=V.pos p }:Nd) rfl).mono ?_;rintro e b8 ⟨rfl,a3,b1⟩;have b2:=a9.trans b1;have b3:=hid (It.done b0.out rfl);have b5:=a3.ol;exact okI b3.out a3 b2
theorem a1v {K n:Nat} {F:M Int} {c:Nat} (hV:IV V Mx) (hc:CF K) (hF:a0p V Mx K n F) (hG:Gro c F) (hcc:500<=c) (hcd:c<=1000) (h:IM V Mx r B D w p o) (hn:V.ts.length-p<n+1) (hl:o.length<=1000*p+500) :
 Calls prog 111 #[.pointer (some ⟨r,0,none⟩),fv K r] w fun e w'=>IPostL V Mx r B D (a1E V F p o) w e w':=by
 have hT:=hV.n;have hle:=h.le;obtain⟨F0,L0⟩:=hidEq (a1E V F p o);rw[<- L0.out];go_enter func111,ntmps111;go_wp2_with fail;refine(a0u hV h g_lp).mono ?_;rintro e d3 (⟨a1,rfl,b9,c0⟩ | ⟨a1,rfl,b0⟩)
 rotate_left
 .have b1:=hid (It.mustF L0.out a1 rfl);have b2:=(h.low h.sp).trans b0;go_wp2;exact⟨rfl,IPostL.bad b1.out rfl b2⟩
 have a4:=h.sp.trans c0;have a6:=hid (It.mustT L0.out a1 rfl);have c7:=a0c a1;go_wp2_with fail;refine(a1s hV hc hF hG hcc b9 (by omega) (by omega)).mono ?_;intro e d4 a2
 cases a0:a0F V F (p+1) o with
 | bad d5=>
  rw[a0] at a2;obtain⟨rfl,b3⟩:=a2;have b4:=hid (It.bad a6.out a0 rfl);have b5:=(h.low a4).trans b3;go_wp2;exact⟨rfl,IPostL.bad b4.out rfl b5⟩
 | ok d6 d7 d8=>
 rw[a0] at a2;obtain⟨c8,c9,rfl,a5,c1,d0⟩:=a2;have d1:=(a0D (V:=V) hG hcd) _ _ _ _ _ a0;have a7:=a4.trans c1;have c6:=a5.sm.le;have a8:=hid (It.ok a6.out a0 rfl);go_wp2_with fail;refine(a0u hV a5.sm g_rp).mono ?_;rintro e d9 (⟨a3,rfl,c2,a9⟩ | ⟨a3,rfl,b6⟩)
 rotate_left
 .have b7:=hid (It.mustF a8.out a3 rfl);have b8:=(h.low a7).trans b6;go_wp2;exact⟨rfl,IPostL.bad b7.out rfl b8⟩
 have c3:=a7.trans a9;have c4:=a5.step c2 a9;have c5:=hid (It.mustT a8.out a3 rfl);have d2:=a0c a3;go_wp2;go_ret;exact IPostL.ok c5.out rfl (c4.loose a4.size) c3 (by omega)
end
end Go.Proofs.YtphmpkpcamgjeaaGreatDoor
namespace Go.Proofs.YtphmpkpcamgjeaaGreatDoor
open Go.ChangeShapes Go.WideShapes Go.ChangeAt Go.RowKit Go.Proofs.Tryz
open Go.Maps
abbrev vVal (v:Int×Int×ByteArray):Value:=.agg #[.int .i64 v.1,.int .i64 v.2.1,.string v.2.2]
theorem IM.setV {V:Env} {Mx:DataW Unit} {r B:Nat} {D:Nat->Prop} {w:World} {p:Nat} {o:List Nd} (h:IM V Mx r B D w p o) {c j:Nat} (u:Value) (ht:tag w c 40):IM V Mx r B D (w.setCell ⟨c,j,none⟩ u) p o:=
  h.setN u (h.nb ht (by decide) (by decide)) ht (by decide) (.inl (by decide))
theorem set3 {w:World} {g ty:Nat} {a b c:Value} (h:w.heap[g]?=some (.cells #[a,b,c] ty (0,0))) (x y z:Value):(((w.setCell ⟨g,0,none⟩ x).setCell ⟨g,1,none⟩ y).setCell ⟨g,2,none⟩ z).heap[g]?=some (.cells #[x,y,z] ty (0,0)):=by
 have h1:=heap_setCell_same w g 0 _ _ x h;have h2:=heap_setCell_same _ g 1 _ _ y h1;have h3:=heap_setCell_same _ g 2 _ _ z h2;rw[h3];rfl
theorem fc3 {w:World} {g ty:Nat} {x y z:Value} (h:w.heap[g]?=some (.cells #[x,y,z] ty (0,0))):w.cell? ⟨g,0,none⟩=some x/\w.cell? ⟨g,1,none⟩=some y/\w.cell? ⟨g,2,none⟩=some z:=⟨(cell_of h).1,(cell_of h).1,(cell_of h).1⟩
section
variable {V : Env} {Mx : DataW Unit} {r B : Nat} {D : Nat -> Prop} {w : World} {p : Nat} {o : List Nd} {m : Nat} {E Q : M Int}
theorem b7v (s:ByteArray) (w:World):Calls prog 135 #[.string s] w fun e w'=>e=.returned (vVal (3,0,s))/\Below w.heap.size w w':=by
 go_enter func135,ntmps135;go_wp2;refine bodyPost_ret (v:=vVal (3,0,s)) (by simp[results,results135,go_sem]) rfl ⟨rfl,?_⟩;(go_light;repeat (first | with_reducible assumption | with_reducible exact Below.refl _ _ | (with_reducible refine Below.setCell ?_ ?_ _;rotate_left;(focus first | (simp;done) | (simp;omega) | omega)) | (with_reducible refine Below.alloc ?_ ?_ _;rotate_left;(focus first | (simp;done) | (simp;omega) | omega)) | with_reducible refine Below.drew ?_ | with_reducible refine Below.drewN ?_ _))
theorem b3s (b:Bool) (w:World):Calls prog 224 #[.bool b] w fun e w'=>e=.returned (vVal (4,bit b,⟨#[]⟩))/\Below w.heap.size w w':=by
 cases b with
 | true=>
  go_enter func224,ntmps224;go_wp2;refine bodyPost_ret (v:=vVal (4,1,⟨#[]⟩)) (by simp[results,results224,go_sem]) rfl ⟨rfl,?_⟩;(go_light;repeat (first | with_reducible assumption | with_reducible exact Below.refl _ _ | (with_reducible refine Below.setCell ?_ ?_ _;rotate_left;(focus first | (simp;done) | (simp;omega) | omega)) | (with_reducible refine Below.alloc ?_ ?_ _;rotate_left;(focus first | (simp;done) | (simp;omega) | omega)) | with_reducible refine Below.drew ?_ | with_reducible refine Below.drewN ?_ _))
 | false=>
 go_enter func224,ntmps224;go_wp2;refine bodyPost_ret (v:=vVal (4,0,⟨#[]⟩)) (by simp[results,results224,go_sem]) rfl ⟨rfl,?_⟩;(go_light;repeat (first | with_reducible assumption | with_reducible exact Below.refl _ _ | (with_reducible refine Below.setCell ?_ ?_ _;rotate_left;(focus first | (simp;done) | (simp;omega) | omega)) | (with_reducible refine Below.alloc ?_ ?_ _;rotate_left;(focus first | (simp;done) | (simp;omega) | omega)) | with_reducible refine Below.drew ?_ | with_reducible refine Below.drewN ?_ _))
def dayV (V:Env):M (Int×Int×ByteArray):=fun p o=>if V.kd p=5 then(match V.rt (V.tx p) with
 | some n=>.ok (5,n,⟨#[]⟩) (p+1) o
 | none=>.bad p) else .bad p
theorem b9G (hV:IV V Mx) (hX:IX V) (h:IM V Mx r B D w p o) :
 Calls prog 225 #[.pointer (some ⟨r,0,none⟩)] w fun e w'=>IPost V Mx r B D vVal (dayV V p o) w e w':=by
 have h0:=h.alloc (.cells #[.int .i64 0,.int .i64 0,.string ⟨#[]⟩] 40);have z0:=h.sp.alloc (.cells #[.int .i64 0,.int .i64 0,.string ⟨#[]⟩] 40);have t0:tag (w.alloc (.cells #[.int .i64 0,.int .i64 0,.string ⟨#[]⟩] 40)) w.heap.size 40:=⟨_,_,heap_alloc_new _ _⟩;have a2:(w.alloc (.cells #[.int .i64 0,.int .i64 0,.string ⟨#[]⟩] 40)).heap[w.heap.size]?=some (.cells #[.int .i64 0,.int .i64 0,.string ⟨#[]⟩] 40 (0,0)):=heap_alloc_new _ _;obtain⟨G,a0⟩:∃ G,G=dayV V p o:=⟨_,rfl⟩;have HG:=hid a0;rw[<- a0];clear a0;go_enter func225,ntmps225;go_wp2_with fail;refine(a1u hV h0).mono ?_;rintro e w1 ⟨rfl,b1⟩;have h1:=h0.below b1;have z1:=z0.trans (h0.spB b1);have a3:=b1.size
 have a9:w.heap.size+1<=w1.heap.size:=by simpa using a3
 have e1:w1.heap[w.heap.size]?=some (.cells #[.int .i64 0,.int .i64 0,.string ⟨#[]⟩] 40 (0,0)):=(b1.block w.heap.size (by simp)).trans a2;have h2:=h1.alloc (.cells #[.int .i64 3,.int .i64 (V.pos p)] 60);have z2:=z1.alloc (.cells #[.int .i64 3,.int .i64 (V.pos p)] 60);have q2:(w1.alloc (.cells #[.int .i64 3,.int .i64 (V.pos p)] 60)).heap[w1.heap.size]?=some (.cells #[.int .i64 3,.int .i64 (V.pos p)] 60 (0,0)):=heap_alloc_new _ _;have a4:tag (w1.alloc (.cells #[.int .i64 3,.int .i64 (V.pos p)] 60)) w1.heap.size 60:=⟨_,_,q2⟩;have e2:(w1.alloc (.cells #[.int .i64 3,.int .i64 (V.pos p)] 60)).heap[w.heap.size]?=some (.cells #[.int .i64 0,.int .i64 0,.string ⟨#[]⟩] 40 (0,0)):=((below_alloc w1 _).block w.heap.size (by omega)).trans e1;have a5:tag (w1.alloc (.cells #[.int .i64 3,.int .i64 (V.pos p)] 60)) w.heap.size 40:=⟨_,_,e2⟩;go_wp2_with fail
 refine(take_any hV h2 5 (by decide)).mono ?_;intro e w3 hP;by_cases hk:V.kd p=5
 .rw[show a4k V 5 p o=.ok (V.tx p) (p+1) o by simp[a4k,hk]] at hP;obtain⟨rfl,h3,z3⟩:=hP;have e3:=((h2.nb a5 (by decide) (by decide)).heap z3).trans e2;have q3:=((h2.nb a4 (by decide) (by decide)).heap z3).trans q2;have s3:=z2.trans z3;have a6:=z3.size
  have b0:w1.heap.size+1<=w3.heap.size:=by simpa using a6
  cases ht:V.rt (V.tx p) with
  | none=>
   have HF:=hid (HG.out.trans (show dayV V p o=.bad p by simp[dayV,hk,ht]));go_wp2_with fail;refine(hX.cn p hk ht w3).mono ?_;rintro e w4 ⟨rfl,b4⟩;have q4:=(b4.block w1.heap.size (by omega)).trans q3;have c0:w4.cell? ⟨w1.heap.size,0,none⟩=some (.int .i64 3):=(cell_of q4).1;have c1:w4.cell? ⟨w1.heap.size,1,none⟩=some (.int .i64 (V.pos p)):=(cell_of q4).1;have a7:=b4.size
   have hne:w1.heap.size≠w4.heap.size:=by omega
   have hlt:w1.heap.size<w4.heap.size:=by omega
   have bb:=(h.low s3).trans (h3.lowB b4);have a8:∀ x,Below B w (w4.alloc x):=fun x=>bb.alloc (by have:=h3.hb;omega) x;go_wp2;exact⟨rfl,IPost.bad HF.out rfl (a8 _)⟩
  | some n=>
  have HF:=hid (HG.out.trans (show dayV V p o=.ok (5,n,⟨#[]⟩) (p+1) o by simp[dayV,hk,ht]));go_wp2_with fail;refine(hX.cy p n hk ht w3).mono ?_;rintro e w4 ⟨rfl,b4⟩;have h4:=h3.below b4;have s4:=s3.trans (h3.spB b4);have e4:=(b4.block w.heap.size (by omega)).trans e3;have a1:tag w4 w.heap.size 40:=⟨_,_,e4⟩;have a7:=b4.size
  have hne:w.heap.size≠w4.heap.size:=by omega
  have c0:w4.cell? ⟨w.heap.size,0,none⟩=some (.int .i64 0):=(cell_of e4).1;have c1:w4.cell? ⟨w.heap.size,1,none⟩=some (.int .i64 0):=(cell_of e4).1;have c2:w4.cell? ⟨w.heap.size,2,none⟩=some (.string ⟨#[]⟩):=(cell_of e4).1;have cz:∀ j,w4.frozen? ⟨w.heap.size,j,none⟩=false:=fun j=>(cell_of e4).2;have h5:=((((h4.setV (c:=w.heap.size) (j:=0) (.int .i64 5) a1).setV (c:=w.heap.size) (j:=1) (.int .i64 n) (a0d _ a1)).setV (c:=w.heap.size) (j:=2) (.string ⟨#[]⟩) (a0d _ (a0d _ a1)))).alloc (.cells #[.int .i64 5,.int .i64 n,.string ⟨#[]⟩] 40);have s5:=(((s4.set (c:=w.heap.size) (j:=0) (.int .i64 5) (Nat.le_refl _)).set (c:=w.heap.size) (j:=1) (.int .i64 n) (Nat.le_refl _)).set (c:=w.heap.size) (j:=2) (.string ⟨#[]⟩) (Nat.le_refl _)).alloc (.cells #[.int .i64 5,.int .i64 n,.string ⟨#[]⟩] 40)
  have hlt:w.heap.size<w4.heap.size:=by omega
  have b2:=cz 0;have b5:=cz 1;have b6:=cz 2;obtain⟨k0,k1,k2⟩:=fc3 (((below_alloc _ (.cells #[.int .i64 5,.int .i64 n,.string ⟨#[]⟩] 40)).block w.heap.size (by simpa using hlt)).trans (set3 e4 (.int .i64 5) (.int .i64 n) (.string ⟨#[]⟩)));go_wp2;refine bodyPost_ret (v:=vVal (5,n,⟨#[]⟩)) (by simp[results,results225,go_sem,k0,k1,k2]) rfl ?_;exact IPost.ok HF.out rfl h5 s5
 rw[show a4k V 5 p o=.bad p by simp[a4k,hk]] at hP;obtain⟨rfl,b3⟩:=hP;exact bd (HG.out.trans (show dayV V p o=.bad p by simp[dayV,hk])) ((h.low z2).trans b3)
end
end Go.Proofs.YtphmpkpcamgjeaaGreatDoor
namespace Go.Proofs.YtphmpkpcamgjeaaGreatDoor
open Go.ChangeShapes Go.WideShapes Go.ChangeAt Go.RowKit Go.Proofs.Tryz
open Go.Maps
section
variable {V : Env} {Mx : DataW Unit} {r B : Nat} {D : Nat -> Prop} {w : World} {p : Nat} {o : List Nd} {m : Nat} {E Q : M Int}
end
end Go.Proofs.YtphmpkpcamgjeaaGreatDoor
namespace Go.Proofs.YtphmpkpcamgjeaaGreatDoor
open Go.ChangeShapes Go.WideShapes Go.ChangeAt Go.RowKit Go.Proofs.Tryz
open Go.Maps
section
variable {V : Env} {Mx : DataW Unit} {r B : Nat} {D : Nat -> Prop} {w : World} {p : Nat} {o : List Nd} {m : Nat} {E Q : M Int}
theorem b6x (hV:IV V Mx) (h:IM V Mx r B D w p o) :
 Calls prog 170 #[.pointer (some ⟨r,0,none⟩)] w fun e w'=>IPost V Mx r B D vInt (a3s V p o) w e w':=by
 have h1:=h.alloc (.cells #[.int .i64 1,.int .i64 2,.int .i64 3,.int .i64 4,.int .i64 5] 3);have z1:=h.sp.alloc (.cells #[.int .i64 1,.int .i64 2,.int .i64 3,.int .i64 4,.int .i64 5] 3);have k1:=KS.new w [1,2,3,4,5];have a1:tag (w.alloc (.cells #[.int .i64 1,.int .i64 2,.int .i64 3,.int .i64 4,.int .i64 5] 3)) w.heap.size 3:=⟨_,_,heap_alloc_new _ _⟩;have a2:=h1.nb a1 (by decide) (by decide);obtain⟨G,a0⟩:∃ G,G=a3s V p o:=⟨_,rfl⟩;have HG:=hid a0;rw[<- a0];clear a0;go_enter func170,ntmps170;go_wp2_with fail;refine(a6l hV h1 kindWords (by simp[kindWords]) (by simp)).mono ?_;intro e w1 hP
 cases hp:pick V kindWords p with
 | none=>
  have HF:=hid (HG.out.trans (show a3s V p o=.bad p by unfold a3s;rw[hp]));rw[show a0Z V kindWords p o=.bad p by unfold a0Z;rw[hp]] at hP;obtain⟨rfl,b1⟩:=hP;have b2:=(h.low z1).trans b1;go_wp2;exact⟨rfl,IPost.bad HF.out rfl b2⟩
 | some i=>
 have HF:=hid (HG.out.trans (show a3s V p o=.ok ((i:Int)+1) (p+1) o by unfold a3s;rw[hp]));rw[show a0Z V kindWords p o=.ok ((i:Int)+1) (p+1) o by unfold a0Z;rw[hp]] at hP;obtain⟨rfl,h2,z2⟩:=hP;have hi:=(a1Q hp).2;have a3:i<5:=hi;have hb:=a2.heap z2
 have c9:w1.cell? ⟨w.heap.size,i,none⟩=some (.int .i64 ((i:Int)+1)):=by
  rw[World.cell?_of_block (a:=⟨w.heap.size,i,none⟩) hb,World.cell?_alloc_at _ _ _ _ rfl]
  rcases(by omega:i=0\/i=1\/i=2\/i=3\/i=4) with rfl | rfl | rfl | rfl | rfl<;>rfl
 have hw:IntKind.i64.wrap ((i:Int)+1-1)=i:=by simp only[IntKind.wrap_i64,wrap64];omega
 have hie:(i:Int)+1-1=i:=by omega
 have a4:(i:Int)<5:=by omega
 have s2:=z1.trans z2;clear hi a3 hb a2 a1 k1;exact okI HF.out h2 s2
end
end Go.Proofs.YtphmpkpcamgjeaaGreatDoor
namespace Go.Proofs.YtphmpkpcamgjeaaGreatDoor
open Go.ChangeShapes Go.WideShapes Go.ChangeAt Go.RowKit Go.Proofs.Tryz
open Go.Maps
section
variable {V : Env} {Mx : DataW Unit} {r B : Nat} {D : Nat -> Prop} {w : World} {p : Nat} {o : List Nd} {m : Nat} {E Q : M Int}
theorem mul_any (hV:IV V Mx) (gE:Gro 999 E) (gQ:Gro 900 Q) (hS:a0p V Mx 171 (m+1) (negF V E Q)) (h:IM V Mx r B D w p o) (hn:V.ts.length-p<m+1) (hl:o.length<=1000*p+500) :
 Calls prog 233 #[.pointer (some ⟨r,0,none⟩)] w fun e w'=>IPost V Mx r B D vInt (mulF V E Q p o) w e w':=by
 have hmf:=@mkf;have hT:=hV.n;have hle:=h.le;obtain⟨F0,L0⟩:=hidEq (mulF V E Q p o);rw[<- L0.out];go_enter func233,ntmps233;go_wp2_with fail
 refine(a3c hV b6w hS (a4m gE gQ) (by omega) (KS.new w [3,4,5]) (by simp) (by simp) (fun q i hi=>by have:=(a1Q hi).2;simp at this;rcases(by omega:i=0\/i=1\/i=2) with rfl | rfl | rfl<;>simp[opN]) (h.alloc (.cells #[.int .i64 3,.int .i64 4,.int .i64 5] 3)) hn hl).mono ?_
 intro e w1 hP;have z0:=h.sp.alloc (.cells #[.int .i64 3,.int .i64 4,.int .i64 5] 3);obtain⟨G,hG⟩:∃ G,G=chain V (negF V E Q) (opsL [3,4,5]) p o:=⟨_,rfl⟩;have HG:=hid (L0.out.trans hG.symm);rw[<- hG] at hP;clear hG
 cases G with
 | ok a q o1=>
  obtain⟨rfl,h1,z1⟩:=hP;go_wp2;go_ret;exact IPost.ok HG.out rfl h1 (z0.trans z1)
 | bad q=>
 obtain⟨rfl,b1⟩:=hP;have b2:=(h.low z0).trans b1;go_wp2;exact⟨rfl,IPost.bad HG.out rfl b2⟩
theorem sum_any (hV:IV V Mx) (gE:Gro 999 E) (gQ:Gro 900 Q) (hS:a0p V Mx 233 (m+1) (mulF V E Q)) (h:IM V Mx r B D w p o) (hn:V.ts.length-p<m+1) (hl:o.length<=1000*p+500) :
 Calls prog 229 #[.pointer (some ⟨r,0,none⟩)] w fun e w'=>IPost V Mx r B D vInt (sumF V E Q p o) w e w':=by
 have hmf:=@mkf;have hT:=hV.n;have hle:=h.le;obtain⟨F0,L0⟩:=hidEq (sumF V E Q p o);rw[<- L0.out];go_enter func229,ntmps229;go_wp2_with fail
 refine(a3c hV b8K hS (b0L gE gQ) (by omega) (KS.new w [1,2]) (by simp) (by simp) (fun q i hi=>by have:=(a1Q hi).2;simp at this;rcases(by omega:i=0\/i=1) with rfl | rfl<;>simp[opN]) (h.alloc (.cells #[.int .i64 1,.int .i64 2] 3)) hn hl).mono ?_
 intro e w1 hP;have z0:=h.sp.alloc (.cells #[.int .i64 1,.int .i64 2] 3);obtain⟨G,hG⟩:∃ G,G=chain V (mulF V E Q) (opsL [1,2]) p o:=⟨_,rfl⟩;have HG:=hid (L0.out.trans hG.symm);rw[<- hG] at hP;clear hG
 cases G with
 | ok a q o1=>
  obtain⟨rfl,h1,z1⟩:=hP;go_wp2;go_ret;exact IPost.ok HG.out rfl h1 (z0.trans z1)
 | bad q=>
 obtain⟨rfl,b1⟩:=hP;have b2:=(h.low z0).trans b1;go_wp2;exact⟨rfl,IPost.bad HG.out rfl b2⟩
theorem b7A (hV:IV V Mx) (gE:Gro 999 E) (gQ:Gro 900 Q) (hS:a0p V Mx 229 (m+1) (sumF V E Q)) (h:IM V Mx r B D w p o) (hn:V.ts.length-p<m+1) (hl:o.length<=1000*p+500) :
 Calls prog 220 #[.pointer (some ⟨r,0,none⟩)] w fun e w'=>IPost V Mx r B D vInt (catF V E Q p o) w e w':=by
 have hmf:=@mkf;have hT:=hV.n;have hle:=h.le;obtain⟨F0,L0⟩:=hidEq (catF V E Q p o);rw[<- L0.out];go_enter func220,ntmps220;go_wp2_with fail
 refine(a3c hV b8J hS (b0M gE gQ) (by omega) (KS.new w [6]) (by simp) (by simp) (fun q i hi=>by have:=(a1Q hi).2;simp at this;rcases(by omega:i=0) with rfl<;>simp[opN]) (h.alloc (.cells #[.int .i64 6] 3)) hn hl).mono ?_
 intro e w1 hP;have z0:=h.sp.alloc (.cells #[.int .i64 6] 3);obtain⟨G,hG⟩:∃ G,G=chain V (sumF V E Q) (opsL [6]) p o:=⟨_,rfl⟩;have HG:=hid (L0.out.trans hG.symm);rw[<- hG] at hP;clear hG
 cases G with
 | ok a q o1=>
  obtain⟨rfl,h1,z1⟩:=hP;go_wp2;go_ret;exact IPost.ok HG.out rfl h1 (z0.trans z1)
 | bad q=>
 obtain⟨rfl,b1⟩:=hP;have b2:=(h.low z0).trans b1;go_wp2;exact⟨rfl,IPost.bad HG.out rfl b2⟩
theorem b5m (hV:IV V Mx) (gE:Gro 999 E) (gQ:Gro 900 Q) (hS:a0p V Mx 189 (m+1) (notF V E Q)) (h:IM V Mx r B D w p o) (hn:V.ts.length-p<m+1) (hl:o.length<=1000*p+500) :
 Calls prog 168 #[.pointer (some ⟨r,0,none⟩)] w fun e w'=>IPost V Mx r B D vInt (andF V E Q p o) w e w':=by
 have hmf:=@mkf;have hT:=hV.n;have hle:=h.le;obtain⟨F0,L0⟩:=hidEq (andF V E Q p o);rw[<- L0.out];go_enter func168,ntmps168;go_wp2_with fail
 refine(a3c hV b6v hS (b0N gE gQ) (by omega) (KS.new w [14]) (by simp) (by simp) (fun q i hi=>by have:=(a1Q hi).2;simp at this;rcases(by omega:i=0) with rfl<;>simp[opN]) (h.alloc (.cells #[.int .i64 14] 3)) hn hl).mono ?_
 intro e w1 hP;have z0:=h.sp.alloc (.cells #[.int .i64 14] 3);obtain⟨G,hG⟩:∃ G,G=chain V (notF V E Q) (opsL [14]) p o:=⟨_,rfl⟩;have HG:=hid (L0.out.trans hG.symm);rw[<- hG] at hP;clear hG
 cases G with
 | ok a q o1=>
  obtain⟨rfl,h1,z1⟩:=hP;go_wp2;go_ret;exact IPost.ok HG.out rfl h1 (z0.trans z1)
 | bad q=>
 obtain⟨rfl,b1⟩:=hP;have b2:=(h.low z0).trans b1;go_wp2;exact⟨rfl,IPost.bad HG.out rfl b2⟩
theorem b3w (hV:IV V Mx) (gE:Gro 999 E) (gQ:Gro 900 Q) (hS:a0p V Mx 168 (m+1) (andF V E Q)) (h:IM V Mx r B D w p o) (hn:V.ts.length-p<m+1) (hl:o.length<=1000*p+500) :
 Calls prog 147 #[.pointer (some ⟨r,0,none⟩)] w fun e w'=>IPost V Mx r B D vInt (a2t V E Q p o) w e w':=by
 have hmf:=@mkf;have hT:=hV.n;have hle:=h.le;obtain⟨F0,L0⟩:=hidEq (a2t V E Q p o);rw[<- L0.out];go_enter func147,ntmps147;go_wp2_with fail
 refine(a3c hV b8I hS (b0O gE gQ) (by omega) (KS.new w [15]) (by simp) (by simp) (fun q i hi=>by have:=(a1Q hi).2;simp at this;rcases(by omega:i=0) with rfl<;>simp[opN]) (h.alloc (.cells #[.int .i64 15] 3)) hn hl).mono ?_
 intro e w1 hP;have z0:=h.sp.alloc (.cells #[.int .i64 15] 3);obtain⟨G,hG⟩:∃ G,G=chain V (andF V E Q) (opsL [15]) p o:=⟨_,rfl⟩;have HG:=hid (L0.out.trans hG.symm);rw[<- hG] at hP;clear hG
 cases G with
 | ok a q o1=>
  obtain⟨rfl,h1,z1⟩:=hP;go_wp2;go_ret;exact IPost.ok HG.out rfl h1 (z0.trans z1)
 | bad q=>
 obtain⟨rfl,b1⟩:=hP;have b2:=(h.low z0).trans b1;go_wp2;exact⟨rfl,IPost.bad HG.out rfl b2⟩
end
end Go.Proofs.YtphmpkpcamgjeaaGreatDoor
namespace Go.Proofs.YtphmpkpcamgjeaaGreatDoor
open Go.ChangeShapes Go.WideShapes Go.ChangeAt Go.RowKit Go.Proofs.Tryz
open Go.Maps
section
variable {V : Env} {Mx : DataW Unit} {r B : Nat} {D : Nat -> Prop} {w : World} {p : Nat} {o : List Nd} {m : Nat} {E Q : M Int}
theorem b6y {A:M Int} {n c:Nat} (hV:IV V Mx) (hA:a0p V Mx 191 n A) (hG:Gro c A) (hcc:c<=1000) (hcd:2<=c):∀ k,∀ {r B:Nat} {D:Nat->Prop} {w:World} {p:Nat} {o:List Nd},IM V Mx r B D w p o->V.ts.length-p<min n k->o.length<=1000*p+500->Calls prog 171 #[.pointer (some ⟨r,0,none⟩)] w fun e w'=>IPost V Mx r B D vInt (pre V g_minus 4 A k p o) w e w'
 | 0,_,_,_,_,_,_,h,hn,_=>absurd hn (by omega)
 | k+1,r,B,D,w,p,o,h,hn,hl=>by
  have hS:∀ {r B:Nat} {D:Nat->Prop} {w:World} {p:Nat} {o:List Nd},IM V Mx r B D w p o->V.ts.length-p<min n k->o.length<=1000*p+500->Calls prog 171 #[.pointer (some ⟨r,0,none⟩)] w fun e w'=>IPost V Mx r B D vInt (pre V g_minus 4 A k p o) w e w':=fun a b c=>b6y hV hA hG hcc hcd k a b c;have hmf:=@mkf;obtain⟨G,a0⟩:∃ G,G=pre V g_minus 4 A (k+1) p o:=⟨_,rfl⟩;have HG:=hid a0;rw[<- a0];clear a0;go_enter func171,ntmps171;go_wp2_with fail;refine(a7D hV b6w b7u hA hG hcc hcd hS h hn hl).mono ?_;intro e w1 hP;rw[<- HG.out] at hP
  cases G with
  | bad q=>
   obtain⟨rfl,b1⟩:=hP;go_wp2;exact⟨rfl,IPost.bad rfl rfl b1⟩
  | ok a q o1=>
  obtain⟨rfl,h1,z1⟩:=hP;go_wp2;go_ret;exact IPost.ok rfl rfl h1 z1
theorem b6z {A:M Int} {n c:Nat} (hV:IV V Mx) (hA:a0p V Mx 207 n A) (hG:Gro c A) (hcc:c<=1000) (hcd:2<=c):∀ k,∀ {r B:Nat} {D:Nat->Prop} {w:World} {p:Nat} {o:List Nd},IM V Mx r B D w p o->V.ts.length-p<min n k->o.length<=1000*p+500->Calls prog 189 #[.pointer (some ⟨r,0,none⟩)] w fun e w'=>IPost V Mx r B D vInt (pre V a1t 3 A k p o) w e w'
 | 0,_,_,_,_,_,_,h,hn,_=>absurd hn (by omega)
 | k+1,r,B,D,w,p,o,h,hn,hl=>by
  have hS:∀ {r B:Nat} {D:Nat->Prop} {w:World} {p:Nat} {o:List Nd},IM V Mx r B D w p o->V.ts.length-p<min n k->o.length<=1000*p+500->Calls prog 189 #[.pointer (some ⟨r,0,none⟩)] w fun e w'=>IPost V Mx r B D vInt (pre V a1t 3 A k p o) w e w':=fun a b c=>b6z hV hA hG hcc hcd k a b c;have hmf:=@mkf;obtain⟨G,a0⟩:∃ G,G=pre V a1t 3 A (k+1) p o:=⟨_,rfl⟩;have HG:=hid a0;rw[<- a0];clear a0;go_enter func189,ntmps189;go_wp2_with fail;refine(a7D hV b6v b7t hA hG hcc hcd hS h hn hl).mono ?_;intro e w1 hP;rw[<- HG.out] at hP
  cases G with
  | bad q=>
   obtain⟨rfl,b1⟩:=hP;go_wp2;exact⟨rfl,IPost.bad rfl rfl b1⟩
  | ok a q o1=>
  obtain⟨rfl,h1,z1⟩:=hP;go_wp2;go_ret;exact IPost.ok rfl rfl h1 z1
theorem b5n (hV:IV V Mx) (gE:Gro 999 E) (gQ:Gro 900 Q) {n:Nat} (hA:a0p V Mx 191 n (a3K V E Q)):a0p V Mx 171 n (negF V E Q):=fun h hn hl=>b6y hV hA (a7w gE gQ) (by omega) (by omega) (V.ts.length+1) h (by omega) hl
theorem b5o (hV:IV V Mx) (gE:Gro 999 E) (gQ:Gro 900 Q) {n:Nat} (hA:a0p V Mx 207 n (a4z V (catF V E Q) E Q)):a0p V Mx 189 n (notF V E Q):=fun h hn hl=>b6z hV hA (a7x (a6E gE gQ) gE gQ) (by omega) (by omega) (V.ts.length+1) h (by omega) hl
end
end Go.Proofs.YtphmpkpcamgjeaaGreatDoor
namespace Go.Proofs.YtphmpkpcamgjeaaGreatDoor
open Go.ChangeShapes Go.WideShapes Go.ChangeAt Go.RowKit Go.Proofs.Tryz
open Go.Maps
section
variable {V : Env} {Mx : DataW Unit} {r B : Nat} {D : Nat -> Prop} {w : World} {p : Nat} {o : List Nd} {m : Nat} {E Q : M Int}
theorem a8z (hV:IV V Mx) (h:IM V Mx r B D w p o) :
 Calls prog 226 #[.pointer (some ⟨r,0,none⟩)] w fun e w'=>IPost V Mx r B D vStr (a2C V p o) w e w':=by
 have hT:=hV.n;have hle:=h.le;obtain⟨F0,L0⟩:=hidEq (a2C V p o);rw[<- L0.out];go_enter func226,ntmps226;go_wp2_with fail;refine(a0N hV h k_as).mono ?_;rintro e c6 (⟨a0,rfl,a1,a7⟩ | ⟨a0,rfl,a1,a7⟩)
 .have a3:=h.sp.trans a7;have a2:=hid (It.seT L0.out a0 rfl);have c5:=a0c a0;go_wp2_with fail;refine(a5y hV a1).mono ?_;intro e c7 b2;rcases b2.cs with⟨c8,a5,rfl,b3⟩ | ⟨c9,d0,d1,a5,rfl,b6,b7⟩
  .exact bd (It.tail a2.out a5 rfl) ((h.low a3).trans b3)
  have b8:=a3.trans b7;have b9:=hid (It.tail a2.out a5 rfl);exact okI b9.out b6 b8
 have a3:=h.sp.trans a7;have a2:=hid (It.seF L0.out a0 rfl);go_wp2_with fail;refine(a2N hV a1).mono ?_;rintro e d2 ⟨rfl,b0⟩;have c0:=a1.spB b0;have b1:=a1.below b0;have a8:=a3.trans c0
 cases a9:isNm V p with
 | false=>
  have a4:=hid (It.seF a2.out a9 rfl);exact okI a4.out b1 a8
 | true=>
 have a4:=hid (It.seT a2.out a9 rfl);go_wp2_with fail;refine(a5y hV b1).mono ?_;intro e d3 b4;rcases b4.cs with⟨d4,a6,rfl,b5⟩ | ⟨d5,d6,d7,a6,rfl,c1,c2⟩
 .exact bd (It.tail a4.out a6 rfl) ((h.low a8).trans b5)
 have c3:=a8.trans c2;have c4:=hid (It.tail a4.out a6 rfl);exact okI c4.out c1 c3
end
end Go.Proofs.YtphmpkpcamgjeaaGreatDoor
