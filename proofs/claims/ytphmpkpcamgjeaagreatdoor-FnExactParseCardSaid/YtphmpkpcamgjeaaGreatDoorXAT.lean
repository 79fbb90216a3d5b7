import Derived.Test.YtphmpkpcamgjeaaGreatDoorXAA
import Derived.Test.YtphmpkpcamgjeaaGreatDoorXAS
import Derived.Test.YtphmpkpcamgjeaaGreatDoorXAR
set_option linter.unusedVariables false
set_option linter.unusedSimpArgs false
set_option maxRecDepth 100000
set_option maxHeartbeats 16000000
namespace Go.Proofs.YtphmpkpcamgjeaaGreatDoor
open Go.ChangeShapes Go.WideShapes Go.ChangeAt Go.RowKit Go.Proofs.Tryz
open Go.Maps
theorem a5v {V:Env} {p:Nat}:∀ {ms:List ByteArray},(∀ (i:Nat) (s:ByteArray),ms[i]?=some s->sees V p s=false)->pick V ms p=none
 | [],_=>rfl
 | s::r,h=>by
  unfold pick;rw[if_neg (by rw[h 0 s (by simp)];simp),a5v (fun i t ht=>h (i+1) t (by simpa using ht))];rfl
theorem a5w {V:Env} {p:Nat}:∀ {ms:List ByteArray} {i:Nat} {s:ByteArray},ms[i]?=some s->sees V p s=true->(∀ j t,j<i->ms[j]?=some t->sees V p t=false)->pick V ms p=some i
 | [],i,s,h,_,_=>by simp at h
 | x::r,0,s,h,hs,_=>by
  simp at h;subst h;unfold pick;rw[if_pos hs]
 | x::r,i+1,s,h,hs,hj=>by
  unfold pick;rw[if_neg (by rw[hj 0 x (by omega) (by simp)];simp),a5w (i:=i) (by simpa using h) hs (fun j t h1 h2=>hj (j+1) t (by omega) (by simpa using h2))];rfl
section
variable {V : Env} {Mx : DataW Unit} {r B : Nat} {D : Nat -> Prop} {w : World} {p : Nat} {o : List Nd}
theorem a6e (hV:IV V Mx) (h:IM V Mx r B D w p o) {g:Nat} {ms:List ByteArray} (hw:WR w g ms) (hm:ms.length<=10) :
 Calls prog 76 #[.pointer (some ⟨r,0,none⟩),.slice (some ⟨g,0,none⟩) ms.length ms.length] w fun e w'=>e=.returned (.int .i64 (chN (pick V ms p)))/\IM V Mx r B D w' (p+chS (pick V ms p)) o/\Sp 4 r w w':=by
 have hgl:=a0x hw.1;have hT:=hV.n;have hle:=h.le;generalize hn:ms.length=n at *;go_enter func76,ntmps76;go_wp2;go_loopw [9] (fun iv wr=>∃ i:Nat,i<=n/\iv=.int .i64 i/\Below w.heap.size w wr/\Hid (∀ j t,j<i->ms[j]?=some t->sees V p t=false)) (fun iv _=>n-(intOf iv).toNat)
 case atStart=>exact⟨0,by omega,rfl,Below.refl _ _,fun j t hj=>by omega⟩
 case round=>
 obtain⟨i,hi,rfl,b0,HS⟩:=hrel;by_cases hlt:i<n
 .obtain⟨s,hs⟩:∃ s,ms[i]?=some s:=⟨ms[i]'(by omega),List.getElem?_eq_getElem (by omega)⟩;have c9:=(hw.below b0).2 i s hs
  have a0:(i:Int)<n:=by omega
  have a1:(i:Int)<=10:=by omega
  have h1:=h.below b0;go_wp2_with fail;refine(a7s hV h1 s).mono ?_;rintro e w2 ⟨rfl,b2⟩;have b3:Below w.heap.size w w2:=b0.trans (b2.mono b0.size);have h3:=h.below b3
  cases hse:sees V p s with
  | false=>
   have HN:=hid (show ∀ j t,j<i+1->ms[j]?=some t->sees V p t=false from fun j t hj ht=>by
    by_cases hji:j=i
    .subst hji;rw[hs] at ht;cases ht;exact hse
    exact HS.out j t (by omega) ht)
   go_wp2;go_roundw
   case rel=>exact⟨i+1,by omega,by go_num,b3,HN⟩
   case measure=>simp[intOf];omega
  | true=>
  have HP:=hid (a5w hs hse HS.out);have hpl:=a0c hse;obtain⟨ta,tc,mb,oa,oc,c0,c1,c2,c3,c4,fz,_,_⟩:=h3.cells;have f1:=fz 1
  have a2:(p:Int)<=2000:=by omega
  have h4:=h3.at (q:=p+1) (by omega) (z:=(p:Int)+1) rfl;have s4:=(h.spB b3).setR (j:=1) (.int .i64 ((p:Int)+1)) (by decide);clear c9 c0 c2 c3 c4;go_wp2;go_ret;exact⟨by rw[HP.out];rfl,by rw[HP.out];exact h4,s4⟩
 have a0:¬ (i:Int)<n:=by omega
 have hin:i=n:=by omega
 subst hin;have HP:=hid (a5v (V:=V) (p:=p) (ms:=ms) (fun j t ht=>HS.out j t (by have:=(List.getElem?_eq_some_iff.1 ht).1;omega) ht));have h4:=h.below b0;have s4:=h.spB b0;go_wp2;go_ret;exact⟨by rw[HP.out];rfl,by rw[HP.out];exact h4,s4⟩
theorem a5x (hV:IV V Mx) (h:IM V Mx r B D w p o) (ms:List ByteArray) (hm:ms.length<=10) :
 Calls prog 76 #[.pointer (some ⟨r,0,none⟩),.slice (some ⟨w.heap.size,0,none⟩) ms.length ms.length] (w.alloc (.cells (ms.map Value.string).toArray 9)) fun e w'=>e=.returned (.int .i64 (chN (pick V ms p)))/\IM V Mx r B D w' (p+chS (pick V ms p)) o/\Sp 4 r w w':=by
 have b0:=below_alloc w (.cells (ms.map Value.string).toArray 9);refine(a6e hV (h.alloc (.cells (ms.map Value.string).toArray 9)) (WR.new w ms) hm).mono ?_;rintro e w' ⟨h1,h2,h3⟩;exact⟨h1,h2,(h.sp.alloc _).trans h3⟩
theorem a1m (hV:IV V Mx) (h:IM V Mx r B D w p o) (s:ByteArray) :
 Calls prog 33 #[.pointer (some ⟨r,0,none⟩),.string s] w fun e w'=>e=.returned (.bool (sees V p s))/\IM V Mx r B D w' (p+stp (sees V p s)) o/\Sp 4 r w w':=by
 go_enter func33,ntmps33;go_wp2_with fail;refine(a5x hV h [s] (by simp)).mono ?_;rintro e w1 ⟨rfl,h1,s1⟩
 cases hs:sees V p s with
 | false=>
  have hp:pick V [s] p=none:=by simp[pick,hs]
  rw[hp] at h1 ⊢;rw[show chN none=0 from rfl];go_wp2;go_ret;exact⟨by rw[hs];rfl,by rw[hs];exact h1,s1⟩
 | true=>
 have hp:pick V [s] p=some 0:=by simp[pick,hs]
 rw[hp] at h1 ⊢;rw[show chN (some 0)=1 from rfl];go_wp2;go_ret;exact⟨by rw[hs];rfl,by rw[hs];exact h1,s1⟩
def a0Z (V:Env) (ms:List ByteArray):M Int:=fun p o=>match pick V ms p with
 | none=>.bad p
 | some i=>.ok ((i:Int)+1) (p+1) o
theorem a7t (hV:IV V Mx) (h:IM V Mx r B D w p o) (ms:List ByteArray) (hm:ms.length<=10) :
 Calls prog 73 #[.pointer (some ⟨r,0,none⟩),.slice (some ⟨w.heap.size,0,none⟩) ms.length ms.length] (w.alloc (.cells (ms.map Value.string).toArray 9)) fun e w'=>IPost V Mx r B D vInt (a0Z V ms p o) w e w':=by
 have b0:=below_alloc w (.cells (ms.map Value.string).toArray 9);have h0:=h.alloc (.cells (ms.map Value.string).toArray 9);have hw:=WR.new w ms;generalize hW:w.alloc (.cells (ms.map Value.string).toArray 9)=W at *;clear hW;go_enter func73,ntmps73;go_wp2_with fail;refine(a6e hV h0 hw hm).mono ?_;rintro e w1 ⟨rfl,h1,s1⟩;replace s1:=(h.spB b0).trans s1
 cases hp:pick V ms p with
 | some i=>
  have HF:=hid (show a0Z V ms p o=.ok ((i:Int)+1) (p+1) o by simp[a0Z,hp]);rw[hp] at h1
  have hi:¬ (i:Int)+1=0:=by omega
  have hib:((i:Int)+1==0)=false:=by simpa using hi
  rw[show chN (some i)=(i:Int)+1 from rfl];go_wp2;go_ret;exact IPost.ok HF.out rfl h1 s1
 | none=>
 have HF:=hid (show a0Z V ms p o=.bad p by simp[a0Z,hp]);rw[hp] at h1;rw[show chN none=0 from rfl];replace h1:IM V Mx r B D w1 p o:=h1;go_wp2_with fail;refine(a1u hV h1).mono ?_;rintro e w2 ⟨rfl,b2⟩;have b3:=h.low (s1.below b2);go_wp2;exact⟨rfl,IPost.bad HF.out rfl b3⟩
end
theorem a0N {V : Env} {Mx : DataW Unit} {r B : Nat} {D : Nat -> Prop} {w : World} {p : Nat} {o : List Nd} (hV : IV V Mx) (h : IM V Mx r B D w p o) (s : ByteArray) :
    Calls Tryz.prog 33 #[.pointer (some ⟨r, 0, none⟩), .string s] w fun e w' => (sees V p s = true /\ e = .returned (.bool true) /\ IM V Mx r B D w' (p + 1) o /\ Sp 4 r w w') \/ (sees V p s = false /\ e = .returned (.bool false) /\ IM V Mx r B D w' p o /\ Sp 4 r w w') := by
  refine (a1m hV h s).mono ?_
  rintro e w' ⟨h1, h2, h3⟩
  cases hs : sees V p s with
  | true => rw [hs] at h1 h2; exact .inl ⟨rfl, h1, h2, h3⟩
  | false => rw [hs] at h1 h2; exact .inr ⟨rfl, h1, h2, h3⟩
end Go.Proofs.YtphmpkpcamgjeaaGreatDoor
namespace Go.Proofs.YtphmpkpcamgjeaaGreatDoor
open Go.ChangeShapes Go.WideShapes Go.ChangeAt Go.RowKit Go.Proofs.Tryz
open Go.Maps
section
variable {V : Env} {Mx : DataW Unit} {r B : Nat} {D : Nat -> Prop} {w : World} {p : Nat} {o : List Nd}
theorem b1O {V:Env} {q:Nat} {o:List Nd} {ms:List ByteArray} {i:Nat} {s:ByteArray} (h:ms[i]?=some s):a1q V (ms.drop i) q o=(must V s q o).bind fun _ p o=>a1q V (ms.drop (i+1)) p o:=by
 obtain⟨hi,e⟩:=List.getElem?_eq_some_iff.1 h;rw[List.drop_eq_getElem_cons hi,e];rfl
theorem a8u (hV:IV V Mx) (h:IM V Mx r B D w p o) {g:Nat} {ms:List ByteArray} (hw:WR w g ms) (hm:ms.length<=10) :
 Calls prog 109 #[.pointer (some ⟨r,0,none⟩),.slice (some ⟨g,0,none⟩) ms.length ms.length] w fun e w'=>IPost V Mx r B D b7l (a1q V ms p o) w e w':=by
 have hgl:=a0x hw.1;generalize hn:ms.length=n at *;go_enter func109,ntmps109;go_wp2;go_loopw [8] (fun iv wr=>∃ i q:Nat,i<=n/\iv=.int .i64 i/\IM V Mx r B D wr q o/\Sp 4 r w wr/\Hid (a1q V ms p o=a1q V (ms.drop i) q o)) (fun iv _=>n-(intOf iv).toNat)
 case atStart=>exact⟨0,p,by omega,rfl,h,h.sp,(by simp[Hid])⟩
 case round=>
 obtain⟨i,q,hi,rfl,h1,s1,HS⟩:=hrel;by_cases hlt:i<n
 .obtain⟨s,hs⟩:∃ s,ms[i]?=some s:=⟨ms[i]'(by omega),List.getElem?_eq_getElem (by omega)⟩;have c9:=(h.wr hw s1).2 i s hs
  have a0:(i:Int)<n:=by omega
  have a1:(i:Int)<=10:=by omega
  have HT:=hid (HS.out.trans (b1O hs));go_wp2_with fail;refine(a7t hV h1 [s] (by simp)).mono ?_;intro e w2 hP
  cases hse:sees V q s with
  | false=>
   rw[show a0Z V [s] q o=.bad q by simp[a0Z,pick,hse]] at hP;obtain⟨rfl,b2⟩:=hP;have HN:=hid (show a1q V ms p o=.bad q by rw[HT.out];simp[must,hse,R.bind_bad]);have b3:=(h.low s1).trans b2;clear c9;go_wp2;exact⟨rfl,IPost.bad HN.out rfl b3⟩
  | true=>
  rw[show a0Z V [s] q o=.ok 1 (q+1) o by simp[a0Z,pick,hse]] at hP;obtain⟨rfl,h2,s2⟩:=hP;have HN:=hid (show a1q V ms p o=a1q V (ms.drop (i+1)) (q+1) o by rw[HT.out];simp[must,hse,R.bind_ok]);have s3:=s1.trans s2;clear c9;go_wp2;go_roundw
  case rel=>exact⟨i+1,q+1,by omega,by go_num,h2,s3,HN⟩
  case measure=>simp[intOf];omega
 have a0:¬ (i:Int)<n:=by omega
 have hin:i=n:=by omega
 subst hin;have HF:=hid (show a1q V ms p o=.ok () q o by rw[HS.out,List.drop_of_length_le (by omega)];rfl);go_wp2;go_end0;exact IPost.ok HF.out rfl h1 s1
theorem b1P (hV:IV V Mx) (h:IM V Mx r B D w p o) (ms:List ByteArray) (hm:ms.length<=10) :
 Calls prog 109 #[.pointer (some ⟨r,0,none⟩),.slice (some ⟨w.heap.size,0,none⟩) ms.length ms.length] (w.alloc (.cells (ms.map Value.string).toArray 9)) fun e w'=>IPost V Mx r B D b7l (a1q V ms p o) w e w':=by
 have b0:=below_alloc w (.cells (ms.map Value.string).toArray 9);refine(a8u hV (h.alloc (.cells (ms.map Value.string).toArray 9)) (WR.new w ms) hm).mono ?_;intro e w' hP
 cases hF:a1q V ms p o with
 | bad q=>
  rw[hF] at hP;exact⟨hP.1,(b0.mono h.hb).trans hP.2⟩
 | ok a q o1=>
 rw[hF] at hP;exact⟨hP.1,hP.2.1,(h.spB b0).trans hP.2.2⟩
def a4k (V:Env) (k:Int):M ByteArray:=fun p o=>if V.kd p=k then .ok (V.tx p) (p+1) o else .bad p
theorem take_any (hV:IV V Mx) (h:IM V Mx r B D w p o) (k:Int) (hk:k≠0) :
 Calls prog 119 #[.pointer (some ⟨r,0,none⟩),.int .i64 k] w fun e w'=>IPost V Mx r B D vStr (a4k V k p o) w e w':=by
 have hT:=hV.n;have hle:=h.le
 have a0:(p:Int)<=2000:=by omega
 go_enter func119,ntmps119;go_wp2_with fail;refine(a2Z hV h 0 (by omega)).mono ?_;rintro e w1 ⟨rfl,b1⟩;have h1:=h.below b1;have h2:=h1.alloc (.cells #[.int .i64 (V.kd p),.string (V.tx p),.int .i64 (V.pos p)] 50);have b2:Below w.heap.size w (w1.alloc (.cells #[.int .i64 (V.kd p),.string (V.tx p),.int .i64 (V.pos p)] 50)):=b1.alloc b1.size _;obtain⟨ta,tc,mb,oa,oc,c0,c1,c2,c3,c4,fz,_,_⟩:=h1.cells;have f1:=fz 1;have hrl:=h1.rl
 have hrn:r≠w1.heap.size:=by omega
 clear c0 c2 c3 c4 fz;have hse:a4k V k p o=if V.kd p=k then .ok (V.tx p) (p+1) o else .bad p:=rfl;have HL:=hid (fun hh:V.ts.length<=p=>(Env.tk_out (V:=V) (p:=p) hh).1);by_cases hkd:V.kd p=k
 .rw[if_pos hkd] at hse;have HF:=hid hse
  have hne:(V.kd p != k)=false:=by simpa using hkd
  have hpl:p<V.ts.length:=by
   rcases Nat.lt_or_ge p V.ts.length with z | z
   .exact z
   exact absurd ((HL.out z).symm.trans hkd) (Ne.symm hk)
  have h4:=(h1.at (q:=p+1) (by omega) (z:=(p:Int)+1) rfl).alloc (.cells #[.int .i64 (V.kd p),.string (V.tx p),.int .i64 (V.pos p)] 50);have s4:=((h.spB b1).setR (j:=1) (.int .i64 ((p:Int)+1)) (by decide)).alloc (.cells #[.int .i64 (V.kd p),.string (V.tx p),.int .i64 (V.pos p)] 50);clear hkd hse;generalize V.kd p=kd at *;generalize V.tx p=tx at *;generalize V.pos p=ps at *;go_wp2;go_ret;exact IPost.ok HF.out rfl h4 s4
 rw[if_neg hkd] at hse;have HF:=hid hse
 have hne:(V.kd p != k)=true:=by simpa using hkd
 clear hse;go_wp2_with fail;refine(a1u hV h2).mono ?_;rintro e w3 ⟨rfl,b3⟩;have b4:=(b2.mono h.hb).trans (b3.mono h2.hb);go_wp2;exact⟨rfl,IPost.bad HF.out rfl b4⟩
end
end Go.Proofs.YtphmpkpcamgjeaaGreatDoor
namespace Go.Proofs.YtphmpkpcamgjeaaGreatDoor
open Go.ChangeShapes Go.WideShapes Go.ChangeAt Go.RowKit Go.Proofs.Tryz
open Go.Maps
theorem lawS:Keyed prog 9:=string_keyed underlying9
theorem b9E (w:World):(zeroValue 93).run prog w=.ok (.agg #[]) w:=by kernel_rfl
section
variable {V : Env} {Mx : DataW Unit} {r B : Nat} {D : Nat -> Prop} {w : World} {p : Nat} {o : List Nd}
theorem b1Q {W:World} {mb g:Nat} {tx:ByteArray} {kd:Int} (hr:r<W.heap.size) (hg:g<W.heap.size) (c3:W.cell? ⟨r,3,none⟩=some (.map (some mb))) (ct:W.cell? ⟨g,1,none⟩=some (.string tx)) (ck:W.cell? ⟨g,0,none⟩=some (.int .i64 kd)) (hm:W.ownsMap prog 9 (unitElem (H:=Unit)) mb 77 Mx) (x:Obj) :
 ((W.drew.cell? ⟨r,3,none⟩=some (.map (some mb))/\W.drew.cell? ⟨g,1,none⟩=some (.string tx)/\W.drew.ownsMap prog 9 (unitElem (H:=Unit)) mb 77 Mx)/\((W.alloc x).drew.cell? ⟨r,3,none⟩=some (.map (some mb))/\(W.alloc x).drew.cell? ⟨g,1,none⟩=some (.string tx)/\(W.alloc x).drew.ownsMap prog 9 (unitElem (H:=Unit)) mb 77 Mx)/\(W.alloc x).drew.cell? ⟨g,0,none⟩=some (.int .i64 kd)):=by
 have b1:Below W.heap.size W W.drew:=(Below.refl _ W).drew;have b2:Below W.heap.size W (W.alloc x).drew:=((Below.refl _ W).alloc (Nat.le_refl _) x).drew;exact⟨⟨(b1.cell (p:=⟨r,3,none⟩) hr).trans c3,(b1.cell (p:=⟨g,1,none⟩) hg).trans ct,a1I hm (b1.block mb hm.lt)⟩,⟨(b2.cell (p:=⟨r,3,none⟩) hr).trans c3,(b2.cell (p:=⟨g,1,none⟩) hg).trans ct,a1I hm (b2.block mb hm.lt)⟩,(b2.cell (p:=⟨g,0,none⟩) hg).trans ck⟩
theorem b4Y {W:World} {mb:Nat} (h:W.ownsMap prog 9 (unitElem (H:=Unit)) mb 77 Mx) {s:ByteArray} (hs:s.size<=8000):(Instr.lookup 61 (.map (some mb)) (.string s) true).run prog W=.ok (.tuple #[.agg #[],.bool (has Mx (.string s.data.toList))]) W:=by
 obtain⟨v,ps,h1,h2⟩:=h.look_ok lawS (t:=61) underlying61 (b9E W) unitElem_mk (Go.WideMaps.keyOf_string_mk underlying9 (s:=s) (by unfold maxLen;omega));rw[(unitElem_inv h2).1] at h1;exact h1
theorem a2N (hV:IV V Mx) (h:IM V Mx r B D w p o) :
 Calls prog 118 #[.pointer (some ⟨r,0,none⟩)] w fun e w'=>e=.returned (.bool (isNm V p))/\Below w.heap.size w w':=by
 go_enter func118,ntmps118;go_wp2_with fail;refine(a2Z hV h 0 (by omega)).mono ?_;rintro e w1 ⟨rfl,b1⟩;have h1:=h.below b1;have hz:=hV.tz p;have hmx:=hV.mx p;have HN:=hid (show isNm V p=(V.kd p==2 || (V.kd p==1&&!V.rs (V.tx p))) from rfl);simp only[Nat.add_zero];generalize V.kd p=kd at *;generalize V.tx p=tx at *;generalize V.pos p=ps at *;generalize V.rs tx=rs at *;have h2:=h1.alloc (.cells #[.int .i64 kd,.string tx,.int .i64 ps] 50);have b2:Below w.heap.size w (w1.alloc (.cells #[.int .i64 kd,.string tx,.int .i64 ps] 50)):=b1.alloc b1.size _;obtain⟨ta,tc,mb,oa,oc,c0,c1,c2,c3,c4,fz,hmap,_⟩:=h2.cells;clear c0 c1 c2 c4 fz;have HS:=hid (b1Q (kd:=kd) (tx:=tx) (g:=w1.heap.size) h2.rl (by simp) c3 (by simp) (by simp) hmap (.cells #[] 93))
 have b3:Below w.heap.size w ((w1.alloc (.cells #[.int .i64 kd,.string tx,.int .i64 ps] 50)).alloc (.cells #[] 93)).drew:=(b2.alloc b2.size _).drew;clear c3 hmap h2 b2;go_wp2;refine a0a (S:=(fun W=>W.cell? ⟨r,3,none⟩=some (.map (some mb))/\W.cell? ⟨w1.heap.size,1,none⟩=some (.string tx)/\W.ownsMap prog 9 (unitElem (H:=Unit)) mb 77 Mx)) (late:=[11,12]) (by kernel_rfl) (HS.out.1) (fun hHeld=>?_);refine tT 0 rfl hHeld ?_
 try simp only[Act.put,q1,q2,q3]
 refine tT 1 rfl hHeld ?_
 try simp only[Act.put,q1,q2,q3]
 refine tT 2 rfl hHeld ?_
 try simp only[Act.put,q1,q2,q3]
 refine tL 3 rfl hHeld ?_
 try simp only[Act.put,q1,q2,q3]
 refine tT 4 rfl hHeld ?_
 try simp only[Act.put,q1,q2,q3]
 refine tL 5 rfl hHeld ?_
 try simp only[Act.put,q1,q2,q3]
 refine a7r (i:=6) (v:=(.tuple #[.agg #[],.bool rs])) rfl (by kernel_rfl) (by kernel_rfl) (by kernel_rfl) (by kernel_rfl) (by kernel_rfl) (by kernel_rfl) (fun _ _ _ h=>h) (Or.inl ⟨by rfl,?_⟩) hHeld ?_
 .intro w hSw
  try dsimp only at hSw
  go_simp;rw[b4Y hSw.2.2 hz,hmx];rfl
 try simp only[Act.put,q1,q2,q3]
 refine tT 7 rfl hHeld ?_
 try simp only[Act.put,q1,q2,q3]
 refine tT 8 rfl hHeld ?_
 try simp only[Act.put,q1,q2,q3]
 refine tT 9 rfl hHeld ?_
 try simp only[Act.put,q1,q2,q3]
 refine rE 10 rfl fun K hK=>?_;go_simp;refine hK _ _ ⟨HS.out.2.1,?_⟩;clear hK K
 try simp only[Act.put,q1,q2,q3]
 refine rL 11 rfl fun K hK=>?_;go_simp;refine hK _ _ ?_;clear hK K
 try simp only[Act.put,q1,q2,q3]
 refine rL 12 rfl fun K hK=>?_;go_simp;refine hK _ _ ?_;clear hK K
 try simp only[Act.put,q1,q2,q3]
 refine a0h (by kernel_rfl) ?_ _;have ck:=HS.out.2.2;have a0:kd=2\/¬ kd=2:=Decidable.em _;rcases a0 with k2 | k2
 .have e2:(kd==2)=true:=by simpa using k2
  clear k2;have HR:=hid (show isNm V p=true by rw[HN.out,e2];rfl);go_wp2;go_ret;exact⟨by rw[HR.out];rfl,b3⟩
 have e2:(kd==2)=false:=by simpa using k2
 have a1:kd=1\/¬ kd=1:=Decidable.em _;rcases a1 with k1 | k1
 .have e1:(kd==1)=true:=by simpa using k1
  clear k1 k2;have HR:=hid (show isNm V p = !rs by rw[HN.out,e2,e1];simp);go_wp2;go_ret;exact⟨by rw[HR.out];rfl,b3⟩
 have e1:(kd==1)=false:=by simpa using k1
 have HR:=hid (show isNm V p=false by rw[HN.out,e2,e1];rfl);go_wp2;go_ret;exact⟨by rw[HR.out];rfl,b3⟩
theorem b8D {V:Env} {p:Nat} (h:isNm V p=true):V.kd p≠0:=fun e=>by
 unfold isNm at h;rw[e] at h;simp at h
theorem a5y (hV:IV V Mx) (h:IM V Mx r B D w p o) :
 Calls prog 75 #[.pointer (some ⟨r,0,none⟩)] w fun e w'=>IPost V Mx r B D vStr (name V p o) w e w':=by
 have hf:=fldK;go_enter func75,ntmps75;go_wp2_with fail;refine(a2N hV h).mono ?_;rintro e w1 ⟨rfl,b1⟩;have h1:=h.below b1
 cases hn:isNm V p with
 | false=>
  have HF:=hid (show name V p o=.bad p by simp[name,hn]);go_wp2_with fail;refine(a1u hV h1).mono ?_;rintro e w3 ⟨rfl,b3⟩;have b4:=(h.lowB b1).trans (h1.lowB b3);go_wp2;exact⟨rfl,IPost.bad HF.out rfl b4⟩
 | true=>
 have HF:=hid (show name V p o=a4k V (V.kd p) p o by simp[name,a4k,hn]);have HG:=hid (show a4k V (V.kd p) p o=.ok (V.tx p) (p+1) o by simp[a4k]);go_wp2_with fail;refine(a2Z hV h1 0 (by omega)).mono ?_;rintro e w2 ⟨rfl,b2⟩;have h2:=h1.below b2;have s2:=(h.spB b1).below b2;go_wp2_with fail;refine(take_any hV h2 (V.kd p) (b8D hn)).mono ?_;intro e w3 hP;rw[HG.out] at hP;obtain⟨rfl,h3,s3⟩:=hP;have s4:=s2.trans s3;go_wp2;go_ret;exact IPost.ok (HF.out.trans HG.out) rfl h3 s4
end
end Go.Proofs.YtphmpkpcamgjeaaGreatDoor
namespace Go.Proofs.YtphmpkpcamgjeaaGreatDoor
open Go.ChangeShapes Go.WideShapes Go.ChangeAt Go.RowKit Go.Proofs.Tryz
open Go.Maps
theorem a8v {w:World} {ka:Option Addr} {kc:Nat} {ks:List Int} (hk:KS w (.slice ka ks.length kc) ks) (hl:ks.length<=100000) :
 ∃ na nc w',(Builtin.append_ #[37,37] 37 #[.slice none 0 0,.slice ka ks.length kc]).run prog w=.ok (.slice na ks.length nc) w'/\w'.ownsRow w.heap.size 3 1 (.slice na ks.length nc) ks.length (kidC ks)/\Below w.heap.size w w':=by
 obtain⟨i0,hi,a1,a2,a3⟩:=info_parts b1K;rcases Nat.eq_zero_or_pos ks.length with h0 | hp
 .have hks:ks=[]:=List.length_eq_zero_iff.1 h0;subst hks
  have a0:∀ W,(Go.sizeOf 3).run prog W=.ok i0.size W:=fun W=>by simp[Go.sizeOf,typeInfo,hi]
  refine⟨none,0,w,?_,World.ownsRow_nil _ _ _ _,Below.refl _ _⟩
  cases ka with
  | none=>simp[Builtin.append_,run_underlying underlying37,a0,Builtin.lenOf,Builtin.firstCells]
  | some a=>
  simp[Builtin.append_,run_underlying underlying37,a0,Builtin.lenOf,Builtin.firstCells,loadCells,loadCellsFrom]
 obtain⟨⟨a',c',he,hh⟩,_⟩:=hk;obtain⟨g,q,e2,_,_,h3⟩:=hh hp;simp only[Value.slice.injEq] at he;obtain⟨rfl,_,rfl⟩:=he;subst e2
 obtain⟨v',w',hrun,hown,hgrow,_,_⟩:=run_append_own_at (P:=prog) w w.heap.size 37 37 3 i0 _ 1 8 underlying37 hi a1 a2 a3 rfl (by omega) (.slice none 0 0) 0 [] (World.ownsRow_nil _ _ _ _) ⟨g,q,none⟩ ks.length kc (kidC ks) (by simp[kidC]) (fun j u hj=>by
  rw[Addr.add_lit]
  have hjl:j<ks.length:=by
   have:=(List.getElem?_eq_some_iff.1 hj).1;simpa[kidC] using this
  obtain⟨cs,hc,h6⟩:=h3 j hjl;unfold CI at hc;subst hc;have:=h6 0 (by omega);simp[kidC,List.getElem?_eq_getElem hjl] at hj;rw[<- hj]
  simpa using this) (by simp[kidC,Value.oneCell']) (by unfold maxLen;omega) (by omega) (Nat.le_refl _)
 rw[Nat.zero_add,List.nil_append] at hown;obtain⟨na,nc,rfl⟩:=a2c hown;exact⟨na,nc,w',hrun,hown,(Below.refl w.heap.size w).grown hgrow (Nat.le_refl _) (fun j hj=>by cases hj)⟩
theorem IM.push {V:Env} {Mx:DataW Unit} {r B:Nat} {D E:Nat->Prop} {w:World} {p:Nat} {o:List Nd} (h:IM V Mx r B E w p o) (hDE:∀ g,D g->E g) {mb:Nat} {tv ov ov':Value} {xs ks:List Value} {w1 w3:World} {t:Nd} {kv:Value} (h1:w.heap[r]?=some (.cells #[tv,.int .i64 p,.int .i64 V.en,.map (some mb),ov] 64 (0,0))) (h2:TL 50 3 CT w tv V.ts) (h3:w.ownsRow B 42 10 ov o.length xs) (h5:w.ownsMap prog 9 (unitElem (H:=Unit)) mb 77 Mx) (h4:NO w B E xs o ks)
    (hk:w.ownsRow B 3 1 kv t.kids.length (kidC t.kids)) (hd:Out D kv) (hkE:∀ g,kv.ownBlock=some g->E g) (hb:Below w.heap.size w w1) (hg:w1.grownBy w3 ov.ownBlock) (ho:w3.ownsRow B 42 10 ov' (o.length+1) (xs++ndC t kv)) (hat:ov'.ownBlock=ov.ownBlock\/ov'.ownBlock=some w1.heap.size) :
 IM V Mx r B D (w3.setCell ⟨r,4,none⟩ ov') p (o++[t])/\Sp 4 r w (w3.setCell ⟨r,4,none⟩ ov'):=by
 have hrl:=h.rl;have hbs:=hb.size;have hgs:=hg.size;have k3:∀ g,g<w.heap.size->ov.ownBlock≠some g->w3.heap[g]?=w.heap[g]?:=fun g e1 e2=>(hg.block g (by omega) (fun e=>e2 e.symm)).trans (hb.block g e1);have hor:ov.ownBlock≠some r:=fun e=>a0t (a0n h3 e) h.rt (by decide) rfl;have a2:w3.heap[r]?=some (.cells #[tv,.int .i64 p,.int .i64 V.en,.map (some mb),ov] 64 (0,0)):=(k3 r hrl hor).trans h1;have a0:=heap_setCell_same w3 r 4 _ _ ov' a2;have k4:∀ g,g≠r->(w3.setCell ⟨r,4,none⟩ ov').heap[g]?=w3.heap[g]?:=fun g e=>heap_setCell_other w3 _ g _ e;have kk:∀ g ty,tag w g ty->ty≠64->ty≠42->(w3.setCell ⟨r,4,none⟩ ov').heap[g]?=w.heap[g]?:=fun g ty e1 e2 e3=>(k4 g (a0t e1 h.rt e2)).trans (k3 g (a0x e1) (fun e=>a0t e1 (a0n h3 e) e3 rfl))
 have hor':ov'.ownBlock≠some r:=fun e=>by
  rcases hat with z | z
  .exact hor (z ▸ e)
  rw[e] at z
  have:r=w1.heap.size:=by simpa using z
  omega
 have ss:w.heap.size<=(w3.setCell ⟨r,4,none⟩ ov').heap.size:=by simp;omega
 have hkm:∀ g,g<w.heap.size->(∀ ty,¬ tag w g ty)->(w3.setCell ⟨r,4,none⟩ ov').heap[g]?=w.heap[g]?:=fun g e1 e2=>(k4 g (fun e=>e2 _ (e ▸ h.rt))).trans (k3 g e1 (fun e=>e2 _ (a0n h3 e)));refine⟨⟨h.le,h.br,h.ml.heap (kk 3 _ h.ml.1 (by decide) (by decide)),fun e=>h.mD (hDE 3 e),Nat.le_trans h.hb ss,fun g hg=>Nat.lt_of_lt_of_le (h.dl g (hDE g hg)) ss,tv,mb,ov',xs++ndC t kv,ks++[kv],by rw[a0];rfl,TL.keep h2 ss (fun g hg=>kk g _ hg (by decide) (by decide)) (fun h=>h),a1I h5 (hkm mb h5.lt (fun ty hty=>a3T h5 hty rfl)),by simpa using a0L ho (fun g hg=>k4 g (fun e=>hor' (e ▸ hg))),((h4.sub2 (fun g _ hg=>hDE g hg) h4).snoc hk hd (fun k hm g hg e=>h4.outs k hm g e (hkE g hg))).keep ss (fun g hg _=>kk g _ hg (by decide) (by decide))⟩,?_⟩
 have bb:=(Below.refl 0 w3).setCell (p:=⟨r,4,none⟩) (Nat.zero_le _) ov'
 have a1:ob 4 r w=ov.ownBlock:=by unfold ob;rw[(cell_of h1 (j:=4)).1];rfl
 have a3:ob 4 r (w3.setCell ⟨r,4,none⟩ ov')=ov'.ownBlock:=by unfold ob;rw[(cell_of a0 (j:=4)).1];rfl
 exact⟨bb.os.trans (hg.os.trans hb.os),bb.tape.trans (hg.tape.trans hb.tape),bb.output.trans (hg.output.trans hb.output),ss,hrl,fun g e1 e2 e3=>(k4 g e2).trans (k3 g e1 (by rw[<- a1];exact e3)),fun g e=>by
  rw[a3] at e;rw[a1];rcases hat with z | z
  .exact .inl (z ▸ e)
  rw[e] at z
  have:g=w1.heap.size:=by simpa using z
  exact .inr (by omega)⟩
end Go.Proofs.YtphmpkpcamgjeaaGreatDoor
namespace Go.Proofs.YtphmpkpcamgjeaaGreatDoor
open Go.ChangeShapes Go.WideShapes Go.ChangeAt Go.RowKit Go.Proofs.Tryz
section
variable {V : Env} {src : ByteArray} {r B : Nat} {D : Nat -> Prop} {b : Nat} {w : World} {p : Nat} {x : Option (List Nd)} {m : Nat} {v : Value} {ks : List Int}
theorem a5D {ops:Array Oper} {rest:List Oper} {o:Oper} {a:Act} {Q:Exit->Act->World->Prop} (hgd:o.guard=none) (s z:Operand) (ho:o.op=.call { callee:=.builtin .append,args:=#[s,z],argTypes:=#[37,37] }) (hty:o.type=37) (pk:PK V src r B D b w p x m v ks) (k:Int) (hs:a.eval s=v) (hz:a.eval z=.slice (some ⟨w.heap.size,0,none⟩) 1 1) (hl:ks.length<=100000)
 (h:∀ v' w',PK V src r B D b w' p x m v' (ks++[k])->(∀ w0,Sp 3 r w0 w->w0.heap.size<=b->Sp 3 r w0 w')->(w.alloc (.cells #[.int .i64 k] 3)).grownBy w' v.ownBlock->(v'.ownBlock=v.ownBlock\/v'.ownBlock=some (w.heap.size+1))->wpList prog ops Q rest (a.put o.dst v') w'):wpList prog ops Q (o::rest) a (w.alloc (.cells #[.int .i64 k] 3)):=by
 obtain⟨v',w',hrun,h1,h2,h3,h4⟩:=a5r pk k hl
 have a0:(Builtin.append_ #[37,37] o.type #[v,.slice (some ⟨w.heap.size,0,none⟩) 1 1]).run prog (w.alloc (.cells #[.int .i64 k] 3))=.ok v' w':=by rw[hty];exact hrun
 exact Lib.wpList_append_run _ hgd s z 37 37 ho v _ hs hz v' w' a0 (h v' w' h1 h2 h3 h4)
def Nods (r:Nat) (w w':World):Prop:=∀ g,tag w g 42->NB 3 r w g->w'.heap[g]?=w.heap[g]?/\NB 3 r w' g
theorem Nods.trans {r:Nat} {a b c:World} (h:Nods r a b) (k:Nods r b c):Nods r a c:=fun g ht hn=>by
 obtain⟨e1,n1⟩:=h g ht hn;obtain⟨e2,n2⟩:=k g (a4g ht e1) n1;exact⟨e2.trans e1,n2⟩
theorem Sp.nods {r:Nat} {w w':World} (s:Sp 3 r w w'):Nods r w w':=fun g _ h=>⟨h.heap s,h.sp s⟩
theorem PK.nods (pk:PK V src r B D b w p x m v ks) {k:Int} {w':World} (hg:(w.alloc (.cells #[.int .i64 k] 3)).grownBy w' v.ownBlock):Nods r w w':=fun g ht hn=>by
 have hl:=hn.1;have hrl:=pk.sm.rl;have e1:w'.heap[g]?=w.heap[g]?:=(hg.block g (by simp;omega) (fun e=>a0t ht (a0n pk.row e.symm) (by decide) rfl)).trans ((below_alloc w _).block g hl);have e2:w'.heap[r]?=w.heap[r]?:=(hg.block r (by simp;omega) (fun e=>a0t pk.sm.rt (a0n pk.row e.symm) (by decide) rfl)).trans ((below_alloc w _).block r hrl);exact⟨e1,by have:=hg.size;simp at this;omega,hn.2.1,fun e=>hn.2.2 (by rw[<- a3w e2];exact e)⟩
theorem NV.row {g:Nat} {t:Nd} {w':World} {q:Nat} {y:Option (List Nd)} {m':Nat} {v':Value} {ks':List Int} (h:NV V src r B D b w p x m g t v ks) (pk:PK V src r B D b w' q y m' v' ks') (hn:Nods r w w'):NV V src r B D b (w'.setCell ⟨g,8,none⟩ v') q y m' g t v' ks'/\w'.cell? ⟨g,8,none⟩=some v/\w'.frozen? ⟨g,8,none⟩=false:=by
 obtain⟨e1,a0⟩:=hn g h.tg h.nb;have a1:w'.heap[g]?=some (.cells (ndA t v) 42 (0,0)):=e1.trans h.cell;have hk:∀ c,c≠g->(w'.setCell ⟨g,8,none⟩ v').heap[c]?=w'.heap[c]?:=fun c hc=>heap_setCell_other w' _ c v' hc;have hr:(w'.setCell ⟨g,8,none⟩ v').heap[r]?=w'.heap[r]?:=hk r (fun e=>h.nb.2.1 e.symm);have a2:tag w' g 42:=⟨_,_,a1⟩;exact⟨⟨⟨pk.sm.setN v' a0 a2,a0L pk.row (fun c hc=>hk c (a0t (a0n pk.row hc) a2 (by decide))),by have:=pk.bl;simpa using this⟩,by rw[heap_setCell_same w' g 8 _ _ v' a1];rfl,⟨by simpa using a0.1,a0.2.1,fun e=>a0.2.2 (by rw[<- a3w hr];exact e)⟩,h.lo⟩,(cell_of a1).1,(cell_of a1).2⟩
end
def b8X (V:Env) (src:ByteArray) (r B:Nat) (D:Nat->Prop) (w0:World) (F:List Nd->R (List Int)) (n:Nat) (w:World) (p:Nat) (x:Option (List Nd)) (m:Nat) (e:Ending) (w':World):Prop:=
  ∃ va vc ks q y m',e=.returned (.slice va ks.length vc)/\PK V src r B D w0.heap.size w' q y m' (.slice va ks.length vc) ks/\Sp 3 r w0 w'/\Nods r w w'/\Res V 0 0 F p x m q y m' ks/\ks.length<=n+1
theorem a5E {V:Env} {src:ByteArray} {n:Nat} {E:M Int} (hV:VO V src) (hA:a0w V src 87 10 n E) {r B:Nat} {D:Nat->Prop} {w0 w:World} {p:Nat} {x:Option (List Nd)} {m:Nat} {v:Value} {ks:List Int} (k:PK V src r B D w0.heap.size w p x m v ks) (s:Sp 3 r w0 w) (hl:ks.length<=90000) (hn:∀ o,x=some o->V.ts.length-p<n) (hp:∀ o,x=some o->pot V p x m+12<=4000000) :
 Calls prog 51 #[.pointer (some ⟨r,0,none⟩),v] w fun e w'=>b8X V src r B D w0 (a2b V E a1n 22 ks p) ks.length w p x m e w':=by
 have hT:=hV.n;have hle:=k.sm.le;have l0:=Lp.refl V (a2b V E a1n 22 ks p) p x m;go_enter func51,ntmps51;go_wp2_with fail;refine(a0C hV k.sm).mono ?_;rintro e w1 ⟨rfl,b1⟩;have k1:=k.below b1;have s1:=s.below b1;have n1:=(k.sm.sp.below b1).nods;go_wp2_with fail;refine(a0b hV k1.sm a1n).mono ?_;rintro e w2 ⟨b2,rfl,t2,h2,z2⟩;have s2:=s1.trans z2;have n2:=n1.trans z2.nods
 cases b2 with
 | false=>
  replace h2:SM V src r B _ w2 p x m:=h2;have k2:=k1.step h2 z2;have HR:=hid (((l0.tkF t2 (fun _=>rfl)).done (fun _ _=>rfl)).weak (d':=0) (c':=0) (by omega) (by omega));obtain⟨va,vc,rfl⟩:=a2c k2.row;go_wp2;go_ret;exact⟨_,_,_,_,_,_,rfl,k2,s2,n2,HR.out,by omega⟩
 | true=>
 replace h2:SM V src r B _ w2 (p+1) x m:=h2;have k2:=k1.step h2 z2;obtain⟨o2,e2,g2,a0⟩:=t2.yes;have l2:=l0.tkT t2;have hps:=a0j (m:=m) e2 a0;replace hp:=hp o2 e2;go_wp2_with fail;refine(hA k2.sm (l2.fuel hn) (by omega)).mono ?_;rintro e w3 ⟨a3,q3,y3,m3,rfl,h3,z3,r3⟩;have k3:=k2.step h3 z3;have s3:=s2.trans z3;have n3:=n2.trans z3.nods;have l3:=l2.rest.bind r3;have a2:=l3.le;go_wp2_with fail;refine(a0g (k3.sm.alloc _) (by have:=a0r (V:=V) (p:=q3) (x:=y3) (m:=m3);omega) { op:=22,kids:=[a3],pos:=V.pos p } _ (KS.new w3 [a3]) (fun _=>k3.sm.outN (Nat.le_refl _))).mono ?_;rintro e w4 ⟨rfl,h4,z4,r4⟩;replace z4:=(k3.sm.sp.alloc _).trans z4;have k4:=k3.step h4 z4;have s4:=s3.trans z4;have n4:=n3.trans z4.nods;have l4:=l3.bind r4
 have HR:=hid (((l2.compS e2 l4).done (fun _ _=>rfl)).weak (d':=0) (c':=0) (by omega) (by omega));go_wp2_with (at_builtin;refine a5D rfl _ _ rfl rfl k4 (m3:Int) rfl rfl (by omega) ?_;intro v5 w5 k5 f5 g5 j5);have s5:=f5 w0 s4 (Nat.le_refl _);have n5:=n4.trans (k4.nods g5);obtain⟨va,vc,rfl⟩:=a2c k5.row
 have a4:(ks++[(m3:Int)]).length=ks.length+1:=by simp
 have a1:=hid k5;clear g5 k5 f5 j5;go_wp2;go_ret;exact⟨_,_,_,_,_,_,rfl,a1.out,s5,n5,HR.out,by omega⟩
theorem b5w {V:Env} {src:ByteArray} {n:Nat} {E:M Int} (hV:VO V src) (hA:a0w V src 87 10 n E) {r B:Nat} {D:Nat->Prop} {w:World} {p:Nat} {x:Option (List Nd)} {m:Nat} (ps:Int) (h:SM V src r B D w p x m) (hn:∀ o,x=some o->V.ts.length-p<n) (hp:pot V p x m+14<=4000000) :
 Calls prog 201 #[.pointer (some ⟨r,0,none⟩),.int .i64 2,.int .i64 ps] w fun e w'=>a3h V src r B D 14 (aggF V E 0 ps p) w p x m e w':=by
 have hT:=hV.n;have hle:=h.le;have l0:=Lp.refl V (aggF V E 0 ps p) p x m;have a3:=l0.le;go_enter func201,ntmps201;go_wp2_with fail;refine(a0i hV h g_lp).mono ?_;rintro e w1 ⟨q1,y1,rfl,h1,z1,r1⟩;have s1:=h.sp.trans z1;have a4:=r1.le;have l1:=l0.bind r1;have a6:=l1.le;go_wp2_with fail;refine(a0b hV h1 g_star).mono ?_;rintro e w2 ⟨c2,rfl,t2,h2,z2⟩
 cases c2 with
 | true=>
  replace h2:SM V src r B _ w2 (q1+1) y1 m:=h2;have s2:=s1.trans z2;obtain⟨o2,e2,g2,a7⟩:=t2.yes;have l2:=l1.tkT t2;have a0:=l2.le;have a2:=h2.le;go_wp2_with fail;refine(a0i hV h2 g_rp).mono ?_;rintro e w3 ⟨q3,y3,rfl,h3,z3,r3⟩;have s3:=s2.trans z3;have a8:=r3.le;have l3:=l2.pay e2 r3 (fun _=>rfl);have a1:=l3.le;go_wp2_with fail;refine(a0g h3 (by have:=a0r (V:=V) (p:=q3) (x:=y3) (m:=m);omega) { op:=15,n:=1,pos:=ps } (.slice none 0 0) (TL.nil _ _ _ _) (fun h=>by simp at h)).mono ?_;rintro e w4 ⟨rfl,h4,z4,r4⟩;have s4:=s3.trans z4;have HR:=hid (l3.last r4);go_wp2;go_ret;exact⟨_,_,_,_,rfl,h4,s4,HR.out.weak (by omega) (by omega)⟩
 | false=>
 replace h2:SM V src r B _ w2 q1 y1 m:=h2;have s2:=s1.trans z2;have l2:=l1.tkF t2;have a0:=l2.le;go_wp2_with fail;refine(a0b hV h2 a0m).mono ?_;rintro e w3 ⟨c3,rfl,t3,h3,z3⟩;have s3:=s2.trans z3;have l3:=l2.opt (fun b=>fun o=>(E (q1+stp b) o).bind fun k q o=>(must V g_rp q o).bind fun _ q o=>lay { op:=15,n:=2,m:=bit b,kids:=[k],pos:=ps } q o) t3 (fun _=>rfl);have a1:=l3.le;go_wp2_with fail;refine(a1H c3 _).mono ?_;rintro e x4 ⟨rfl,j4⟩;replace j4:=j4.symm;subst j4;go_wp2_with fail;refine(hA h3 (l3.fuel hn) (by omega)).mono ?_;rintro e w5 ⟨a5,q5,y5,m5,rfl,h5,z5,r5⟩;have s5:=s3.trans z5;have a9:=r5.le;have l5:=l3.bind r5;have b0:=l5.le;go_wp2_with fail;refine(a0i hV h5 g_rp).mono ?_;rintro e w6 ⟨q6,y6,rfl,h6,z6,r6⟩;have s6:=s5.trans z6;have b1:=r6.le;have l6:=l5.bind r6
 have b2:=l6.le;go_wp2_with fail;refine(a0g (h6.alloc _) (by have:=a0r (V:=V) (p:=q6) (x:=y6) (m:=m5);omega) { op:=15,n:=2,m:=bit c3,kids:=[a5],pos:=ps } _ (KS.new w6 [a5]) (fun _=>h6.outN (Nat.le_refl _))).mono ?_;rintro e w7 ⟨rfl,h7,z7,r7⟩;replace z7:=(h6.sp.alloc _).trans z7;have s7:=s6.trans z7;have HR:=hid (l6.last r7);go_wp2;go_ret;exact⟨_,_,_,_,rfl,h7,s7,HR.out.weak (by omega) (by omega)⟩
theorem b5x {V:Env} {src:ByteArray} {n:Nat} {E:M Int} (hV:VO V src) (hA:a0w V src 87 10 n E) {r B:Nat} {D:Nat->Prop} {w:World} {p:Nat} {x:Option (List Nd)} {m:Nat} (ps wh:Int) (i:Nat) (hi:i≠0) (hw:wh=(i:Int)+2) (h:SM V src r B D w p x m) (hn:∀ o,x=some o->V.ts.length-p<n) (hp:pot V p x m+14<=4000000) :
 Calls prog 201 #[.pointer (some ⟨r,0,none⟩),.int .i64 wh,.int .i64 ps] w fun e w'=>a3h V src r B D 14 (aggF V E i ps p) w p x m e w':=by
 have hT:=hV.n;have hle:=h.le;have l0:=Lp.refl V (aggF V E i ps p) p x m;have a2:=l0.le;go_enter func201,ntmps201;go_wp2_with fail;refine(a0i hV h g_lp).mono ?_;rintro e w1 ⟨q1,y1,rfl,h1,z1,r1⟩;have s1:=h.sp.trans z1;have a3:=r1.le;have l1:=l0.bind r1;have a5:=l1.le
 have a6:(wh==2)=false:=by simp;omega
 have a0:=l1.congr (G':=fun o=>(E (q1+stp (sees V q1 a0m)) o).bind fun k q o=>(must V g_rp q o).bind fun _ q o=>lay { op:=15,n:=wh,m:=bit (sees V q1 a0m),kids:=[k],pos:=ps } q o) (fun o _=>by simp[hi,hw]);have a1:=a0.le;clear hw;go_wp2_with fail;refine(a0b hV h1 a0m).mono ?_;rintro e w2 ⟨c2,rfl,t2,h2,z2⟩;have s2:=s1.trans z2;have l2:=a0.opt (fun b=>fun o=>(E (q1+stp b) o).bind fun k q o=>(must V g_rp q o).bind fun _ q o=>lay { op:=15,n:=wh,m:=bit b,kids:=[k],pos:=ps } q o) t2 (fun _=>rfl);have a7:=l2.le;go_wp2_with fail;refine(a1H c2 _).mono ?_;rintro e x3 ⟨rfl,j3⟩;replace j3:=j3.symm;subst j3;go_wp2_with fail;refine(hA h2 (l2.fuel hn) (by omega)).mono ?_;rintro e w4 ⟨a4,q4,y4,m4,rfl,h4,z4,r4⟩;have s4:=s2.trans z4;have a8:=r4.le;have l4:=l2.bind r4
 have a9:=l4.le;go_wp2_with fail;refine(a0i hV h4 g_rp).mono ?_;rintro e w5 ⟨q5,y5,rfl,h5,z5,r5⟩;have s5:=s4.trans z5;have b0:=r5.le;have l5:=l4.bind r5;have b1:=l5.le;go_wp2_with fail;refine(a0g (h5.alloc _) (by have:=a0r (V:=V) (p:=q5) (x:=y5) (m:=m4);omega) { op:=15,n:=wh,m:=bit c2,kids:=[a4],pos:=ps } _ (KS.new w5 [a4]) (fun _=>h5.outN (Nat.le_refl _))).mono ?_;rintro e w6 ⟨rfl,h6,z6,r6⟩;replace z6:=(h5.sp.alloc _).trans z6;have s6:=s5.trans z6;have HR:=hid (l5.last r6);go_wp2;go_ret;exact⟨_,_,_,_,rfl,h6,s6,HR.out.weak (by omega) (by omega)⟩
end Go.Proofs.YtphmpkpcamgjeaaGreatDoor
