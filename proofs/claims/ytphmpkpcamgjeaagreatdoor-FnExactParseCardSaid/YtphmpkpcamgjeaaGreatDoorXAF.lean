import Derived.Test.YtphmpkpcamgjeaaGreatDoorXAE
import Derived.Lib.SmallJoins
import Derived.Test.YtphmpkpcamgjeaaGreatDoorXAA
import Derived.Test.YtphmpkpcamgjeaaGreatDoorXAD
import Derived.Deep.QuietTactic
import Derived.BigQuiet
import Derived.Lib.IndexMore
import Derived.Test.YtphmpkpcamgjeaaGreatDoorXAB
set_option linter.unusedVariables false
set_option linter.unusedSimpArgs false
set_option maxRecDepth 100000
set_option maxHeartbeats 16000000
namespace Go.Proofs.YtphmpkpcamgjeaaGreatDoor.Rx
open Go.ChangeShapes Go.WideShapes Go.ChangeAt Go.RowKit Go.Proofs.Tryz Go.Shelf Go.Joins
theorem b1C (c:Nat) (w:World) (hc:c<=4):Calls prog 235 #[.string ⟨#[48]⟩,.int .i64 c] w fun e w'=>e=.returned (.string ⟨(List.replicate c 48).toArray⟩)/\Below w.heap.size w w':=by
 have e:c=0\/c=1\/2<=c:=by omega
 rcases e with rfl | rfl | h
 .refine(Tryz.strings_Repeat_zero _ w).mono ?_;rintro e w' ⟨rfl,rfl⟩;exact⟨rfl,Below.refl _ _⟩
 .refine(Tryz.strings_Repeat_one _ w).mono ?_;rintro e w' ⟨rfl,rfl⟩;exact⟨rfl,Below.refl _ _⟩
 refine(Tryz.strings_Repeat_main ⟨#[48]⟩ c w h (by omega) (by show 1*c<=_;omega) (by show 0<1;omega)).mono ?_;rintro e w' ⟨rfl,hb⟩
 have e2:Lib.repeatL (⟨#[48]⟩:ByteArray).data.toList c=List.replicate c 48:=by
  clear h hc hb
  induction c with
  | zero=>rfl
  | succ c ih=>
  simp only[Lib.repeatL,List.replicate_succ];rw[ih];rfl
 rw[e2];exact⟨rfl,hb⟩
end Go.Proofs.YtphmpkpcamgjeaaGreatDoor.Rx
namespace Go.Proofs.YtphmpkpcamgjeaaGreatDoor.Rx.Rd
open Go.ChangeShapes Go.WideShapes Go.ChangeAt Go.RowKit Go.Proofs.Tryz Go.Shelf
def sgR (x:Nat) (neg:Bool):Int×Int:=if neg then(if x<=9223372036854775808 then(-(x:Int),0) else(0,13)) else(if x<9223372036854775808 then((x:Int),0) else(0,13))
theorem a5Z (x:Nat) (neg:Bool) (w:World) (hx:x<18446744073709551616):Calls prog 196 #[.int .u64 (x:Nat),.bool neg] w fun e w'=>e=.returned (.tuple #[.int .i64 (sgR x neg).1,.int .i64 (sgR x neg).2])/\w'=w:=by
 cases neg with
 | true=>
  by_cases h:(x:Int)<=9223372036854775808
  .have HR:Hid (sgR x true=(-(x:Int),0)):=hid (by simp only[sgR,if_true];rw[if_pos (by omega)]);rw[HR.out];go_enter func196,ntmps196;go_wp2;go_ret2;refine⟨ret_two ?_ rfl,rfl⟩;go_light;simp only[IntKind.wrap_u64,IntKind.wrap_i64,wrap64] at *;omega
  have HR:Hid (sgR x true=(0,13)):=hid (by simp only[sgR,if_true];rw[if_neg (by omega)]);rw[HR.out];go_enter func196,ntmps196;go_wp2;go_ret2;exact⟨rfl,rfl⟩
 | false=>
 by_cases h:(x:Int)<9223372036854775808
 .have HR:Hid (sgR x false=((x:Int),0)):=hid (by simp only[sgR,Bool.false_eq_true,if_false];rw[if_pos (by omega)]);rw[HR.out];go_enter func196,ntmps196;go_wp2;go_ret2;refine⟨ret_two ?_ rfl,rfl⟩;go_light
  first | rfl | (simp only[IntKind.wrap_u64,IntKind.wrap_i64] at *;omega)
 have HR:Hid (sgR x false=(0,13)):=hid (by simp only[sgR,Bool.false_eq_true,if_false];rw[if_neg (by omega)]);rw[HR.out];go_enter func196,ntmps196;go_wp2;go_ret2;exact⟨rfl,rfl⟩
theorem a0T (w:World) (n:Nat):Below w.heap.size w (w.drewN n):=⟨rfl,rfl,rfl,Nat.le_refl _,fun _ _=>rfl⟩
end Go.Proofs.YtphmpkpcamgjeaaGreatDoor.Rx.Rd
namespace Go.Proofs.YtphmpkpcamgjeaaGreatDoor.Rx.Rd
open Go.ChangeShapes Go.WideShapes Go.ChangeAt Go.RowKit Go.Proofs.Tryz Go.Shelf
def negL (l:List UInt8):Bool:=match l with | b::_=>b==45 | []=>false
def bodyL (l:List UInt8):List UInt8:=if negL l=true then l.tail else l
theorem hasP (l:List UInt8):Lib.hasPrefix l [45]=negL l:=by
 unfold Lib.hasPrefix negL
 cases l with
 | nil=>rfl
 | cons b l=>
 rw[Bool.eq_iff_iff];simp[List.isPrefixOf]
 constructor<;>intro h<;>exact h.symm
theorem b8v (l:List UInt8):Lib.trimPrefix l [45]=bodyL l:=by
 unfold Lib.trimPrefix bodyL;rw[hasP]
 cases negL l<;>simp
theorem a6y (l:List UInt8):(bodyL l).length=if negL l=true then l.length-1 else l.length:=by
 unfold bodyL;split<;>simp
theorem b6V {l:List UInt8} (h:negL l=true):1<=l.length:=by
 cases l with
 | cons b l=>simp
 | nil=>
 simp[negL] at h
theorem b6W (l:List UInt8):decide ((bodyL l).length<l.length)=negL l:=by
 rw[a6y];cases h:negL l
 .simp
 have:=b6V h;simp;omega
def rdI (l:List UInt8):Int×Bool:=if arD (bodyL l) 19=true then((sgR (numL (bodyL l)) (negL l)).1,(sgR (numL (bodyL l)) (negL l)).2==0) else(0,false)
theorem b8w {l:List UInt8} (h:arD l 19=true):numL l<10000000000000000000:=by
 obtain⟨h1,h2,h3⟩:=a4a h;have h4:=a3Q h1;have h5:(10:Nat)^l.length<=10^19:=Nat.pow_le_pow_right (by omega) h3
 have h6:(10:Nat)^19=10000000000000000000:=by decide
 omega
theorem a4w (l:List UInt8):(⟨l.toArray⟩:ByteArray).data.toList=l:=by simp
theorem a4x (l:List UInt8):(⟨l.toArray⟩:ByteArray).size=l.length:=by simp[ByteArray.size]
theorem readInt_impl (s:ByteArray) (w:World) (hs:s.size<=1048576) :
 Calls prog 173 #[.string s] w fun e w'=>e=.returned (.tuple #[.int .i64 (rdI s.data.toList).1,.bool (rdI s.data.toList).2])/\Below w.heap.size w w':=by
 have htp:=fun w=>Tryz.strings_TrimPrefix s ⟨#[45]⟩ w;have a1:(⟨#[45]⟩:ByteArray).data.toList=[45]:=rfl;rw[a1,b8v] at htp;have hln:=len_eq s;have hbl:=a6y s.data.toList;have hlt:=b6W s.data.toList
 have hle:(bodyL s.data.toList).length<=s.size:=by rw[hbl,hln];split<;>omega
 have har:=fun w=>a2s ⟨(bodyL s.data.toList).toArray⟩ 19 w (by rw[a4x];omega) (by omega);have hwo:=fun w h1 h2=>a2V ⟨(bodyL s.data.toList).toArray⟩ w h1 h2;rw[a4w] at har;rw[a4w,a4x] at hwo;have a0:Hid (arD (bodyL s.data.toList) 19=true->numL (bodyL s.data.toList)<10000000000000000000):=b8w;have HIS:Hid (arD (bodyL s.data.toList) 19=true->allD (bodyL s.data.toList)=true/\1<=(bodyL s.data.toList).length/\(bodyL s.data.toList).length<=19):=a4a;have HRD:Hid (rdI s.data.toList=if arD (bodyL s.data.toList) 19=true then((sgR (numL (bodyL s.data.toList)) (negL s.data.toList)).1,(sgR (numL (bodyL s.data.toList)) (negL s.data.toList)).2==0) else(0,false)):=rfl;rw[hln] at hlt;generalize bodyL s.data.toList=d at *;generalize negL s.data.toList=ng at *;clear hbl hln a1;cases hd:arD d 19
 .rw[hd] at har
  have HV:Hid (rdI s.data.toList=(0,false)):=by have:=HRD.out;rw[hd] at this;exact this
  clear hwo a0 HIS hlt HRD hle;go_enter func173,ntmps173;go_wp2_with (first | (go_at_call 194;refine(htp _).mono ?_;rintro e w1 ⟨rfl,rfl⟩) | (go_at_call 195;refine(har _).mono ?_;rintro e w2 ⟨rfl,b1⟩));go_ret2;exact⟨a0I (by rw[HV.out]) (by rw[HV.out]),b1⟩
 rw[hd] at har;have hn:=a0.out hd;obtain⟨q1,q2,q3⟩:=HIS.out hd;have hw:=fun w=>hwo w q3 q1
 have HV:Hid (rdI s.data.toList=((sgR (numL d) ng).1,(sgR (numL d) ng).2==0)):=by have:=HRD.out;rw[hd] at this;exact this
 have hsg:=fun w=>a5Z (numL d) ng w (by omega);have HLT:Hid (decide (d.length<s.size)=ng):=hlt;generalize numL d=x at *;generalize (sgR x ng)=r at *;obtain⟨r1,r2⟩:=r;simp only at hsg HV;clear hwo a0 HIS hlt HRD hd q1;go_enter func173,ntmps173;go_wp2_with (first | (go_at_call 194;refine(htp _).mono ?_;rintro e w1 ⟨rfl,rfl⟩) | (go_at_call 195;refine(har _).mono ?_;rintro e w2 ⟨rfl,b1⟩) | (go_at_call 197;refine(hw _).mono ?_;rintro e w3 ⟨rfl,b2⟩) | (go_at_call 196;rw[HLT.out];refine(hsg _).mono ?_;rintro e w4 ⟨rfl,rfl⟩));go_ret2;exact⟨a0I (by rw[HV.out]) (by rw[HV.out]),b1.trans (b2.mono b1.size)⟩
end Go.Proofs.YtphmpkpcamgjeaaGreatDoor.Rx.Rd
namespace Go.Proofs.YtphmpkpcamgjeaaGreatDoor.Rx.Rd
open Go.ChangeShapes Go.WideShapes Go.ChangeAt Go.RowKit Go.Proofs.Tryz Go.Shelf
theorem b4Q (b:List UInt8):∀ acc:Nat,b.foldl (fun n c=>10*n+(c.toNat-48)) acc=acc*10^b.length+b.foldl (fun n c=>10*n+(c.toNat-48)) 0:=by
 induction b with
 | nil=>intro acc;simp
 | cons c b ih=>
 intro acc;rw[List.foldl_cons,List.foldl_cons,ih (10*acc+(c.toNat-48)),ih (10*0+(c.toNat-48)),List.length_cons,Nat.pow_succ];rw[Nat.add_mul,Nat.mul_comm 10 acc,Nat.mul_assoc acc 10,Nat.mul_comm 10 (10^b.length)];simp;omega
theorem b0H (a b:List UInt8):numL (a++b)=numL a*10^b.length+numL b:=by
 unfold numL;rw[List.foldl_append];exact b4Q b _
theorem a7g (k:Nat):numL (List.replicate k 48)=0:=by
 induction k with
 | zero=>rfl
 | succ k ih=>
 rw[List.replicate_succ',a5l,ih];rfl
theorem a5d (a b:List UInt8):allD (a++b)=(allD a&&allD b):=by simp[allD]
theorem a7h (k:Nat):allD (List.replicate k 48)=true:=by
 simp only[allD,List.all_eq_true];intro x hx;have:=List.eq_of_mem_replicate hx;subst this;decide
def ptL (l:List UInt8):List UInt8×List UInt8×Bool:=Lib.cut l [46]
theorem ptL_hit {l:List UInt8} {i:Nat} (hn:∀ j,j<i->l[j]?≠some 46) (h:l[i]?=some 46):ptL l=(l.take i,l.drop (i+1),true):=by
 have hix:Lib.index l [46]=i:=by
  rw[Lib.index_one];have hne:Lib.indexByte l 46≠-1:=fun e=>Lib.indexByte_none e i h;have hge:=Lib.index_ge l [46];rw[Lib.index_one] at hge;obtain⟨o,ho⟩:∃ o:Nat,Lib.indexByte l 46=o:=⟨(Lib.indexByte l 46).toNat,by omega⟩;obtain⟨g1,g2⟩:=Lib.indexByte_some ho
  have:o=i:=by
   rcases Nat.lt_trichotomy o i with c | c | c
   .exact absurd g1 (hn o c)
   .exact c
   exact absurd h (g2 i c)
  rw[ho,this]
 unfold ptL Lib.cut;rw[hix,if_pos (by omega)];simp
theorem b4R {l:List UInt8} (hn:∀ j,j<l.length->l[j]?≠some 46):ptL l=(l,[],false):=by
 have hix:Lib.index l [46]=-1:=by
  rw[Lib.index_one];have hge:=Lib.index_ge l [46];rw[Lib.index_one] at hge;rcases Int.lt_or_le (Lib.indexByte l 46) 0 with c | c
  .omega
  obtain⟨o,ho⟩:∃ o:Nat,Lib.indexByte l 46=o:=⟨(Lib.indexByte l 46).toNat,by omega⟩;obtain⟨g1,g2⟩:=Lib.indexByte_some ho
  have hl:o<l.length:=by
   rcases Nat.lt_or_ge o l.length with c | c
   .exact c
   rw[List.getElem?_eq_none c] at g1;cases g1
  exact absurd g1 (hn o hl)
 unfold ptL Lib.cut;rw[hix,if_neg (by omega)]
theorem b3b {l:List UInt8} (h:(ptL l).2.2=false):(ptL l).2.1=[]:=by
 unfold ptL Lib.cut at h ⊢;split at h
 .cases h
 rename_i c;rw[if_neg c]
theorem b6s (l:List UInt8):(ptL l).1.length+(ptL l).2.1.length<=l.length:=by
 unfold ptL Lib.cut;split
 .simp;omega
 simp
def unitsL (a b:List UInt8):Nat:=numL a*10000+numL b*10^(4-b.length)
def okD (c:List UInt8×List UInt8×Bool):Bool:=arD c.1 14&&(!c.2.2 || arD c.2.1 4)
def rdD (l:List UInt8):Int×Bool:=if okD (ptL (bodyL l))=true then((if negL l=true then -(unitsL (ptL (bodyL l)).1 (ptL (bodyL l)).2.1:Int) else(unitsL (ptL (bodyL l)).1 (ptL (bodyL l)).2.1:Int)),true) else(0,false)
theorem b0I {l:List UInt8} {k:Nat} (h:arD l k=true):numL l<10^k:=by
 obtain⟨h1,h2,h3⟩:=a4a h;exact Nat.lt_of_lt_of_le (a3Q h1) (Nat.pow_le_pow_right (by omega) h3)
theorem b6X {b:List UInt8} (h:allD b=true) (hl:b.length<=4):numL b*10^(4-b.length)<=9999:=by
 have h1:=a3Q h
 have h2:10^b.length*10^(4-b.length)=10000:=by rw[<- Nat.pow_add,show b.length+(4-b.length)=4 by omega]
 have h3:(numL b+1)*10^(4-b.length)<=10^b.length*10^(4-b.length):=Nat.mul_le_mul_right _ h1;rw[h2,Nat.add_mul,Nat.one_mul] at h3;have h4:1<=10^(4-b.length):=Nat.pow_pos (by omega);omega
theorem b4S {a b:List UInt8} (h:arD a 14=true) (hb:allD b=true) (hl:b.length<=4):unitsL a b<1000000000000000000:=by
 have h1:=b0I h;have h2:=b6X hb hl
 have h3:(10:Nat)^14=100000000000000:=by decide
 unfold unitsL;omega
theorem b3c {a b:List UInt8} (hl:b.length<=4):numL (a++b++List.replicate (4-b.length) 48)=unitsL a b:=by
 rw[b0H,b0H,a7g,List.length_replicate];unfold unitsL;rw[Nat.add_mul,Nat.mul_assoc,<- Nat.pow_add,show b.length+(4-b.length)=4 by omega];rfl
theorem a7i (a b:ByteArray):(a++b).data.toList=a.data.toList++b.data.toList:=by simp
theorem a7j (a b:List UInt8):(⟨a.toArray⟩:ByteArray)++⟨b.toArray⟩=⟨(a++b).toArray⟩:=by
 apply ByteArray.ext;apply Array.ext';simp
theorem b9z (a b c:List UInt8):((⟨a.toArray⟩:ByteArray)++(⟨b.toArray⟩:ByteArray))++(⟨c.toArray⟩:ByteArray)=(⟨(a++b++c).toArray⟩:ByteArray):=by rw[a7j,a7j]
theorem b8x {p:Prop} (h:p):Hid p:=h
theorem b6Y {c:List UInt8×List UInt8×Bool} (hf:c.2.2=false->c.2.1=[]) (h:okD c=true):arD c.1 14=true/\allD c.2.1=true/\c.2.1.length<=4:=by
 simp only[okD,Bool.and_eq_true,Bool.or_eq_true,Bool.not_eq_true'] at h;refine⟨h.1,?_⟩;rcases h.2 with g | g
 .rw[hf g];exact⟨rfl,by simp⟩
 exact⟨(a4a g).1,(a4a g).2.2⟩
theorem b6Z (k:Nat) (w:World) (hk:k<=4):Calls prog 235 #[.string ⟨#[48]⟩,.int .i64 k] w fun e w'=>e=.returned (.string ⟨(List.replicate k 48).toArray⟩)/\Below w.heap.size w w':=b1C k w hk
end Go.Proofs.YtphmpkpcamgjeaaGreatDoor.Rx.Rd
namespace Go.Proofs.YtphmpkpcamgjeaaGreatDoor
theorem b7a (c:UInt8):Lx.digI (c.toNat:Int)=Rx.Rd.isD c:=by
 unfold Lx.digI Rx.Rd.isD;rw[Bool.eq_iff_iff];simp;omega
theorem a6a (l:List UInt8):Rx.Rd.allD (l.take (Lx.runN Lx.digI l))=true:=by
 unfold Rx.Rd.allD;rw[List.all_eq_true];intro c hc;obtain⟨i,hi⟩:=List.getElem?_of_mem hc
 have hil:i<Lx.runN Lx.digI l:=by
  have:=(List.getElem?_eq_some_iff.1 hi).1;rw[List.length_take] at this;omega
 rw[List.getElem?_take_of_lt hil] at hi;rw[<- b7a];exact Lx.runN_at _ l i c hil hi
theorem b3d {l:List UInt8} (h:Rx.Rd.allD l=true) (k:Nat):Rx.Rd.allD (l.drop k)=true:=by
 unfold Rx.Rd.allD at *;rw[List.all_eq_true] at *;exact fun c hc=>h c (List.mem_of_mem_drop hc)
theorem a6b {l:List UInt8} (h:Rx.Rd.allD l=true):Rx.Rd.negL l=false/\Rx.Rd.bodyL l=l:=by
 have hn:Rx.Rd.negL l=false:=by
  cases l with
  | nil=>rfl
  | cons b l=>
  simp only[Rx.Rd.allD,List.all_cons,Bool.and_eq_true] at h;have:=Rx.Rd.isD_yes h.1;simp only[Rx.Rd.negL,beq_eq_false_iff_ne];intro e;subst e;simp at this
 exact⟨hn,by unfold Rx.Rd.bodyL;rw[hn];rfl⟩
theorem b7b {l:List UInt8} (h:Rx.Rd.allD l=true) (h1:1<=l.length) (hb:Lx.bigI l=false):(Rx.Rd.rdI l).2=true/\0<=(Rx.Rd.rdI l).1:=by
 obtain⟨hn,hbd⟩:=a6b h;have hv:Rx.Rd.numL l=Lx.val l:=rfl;unfold Lx.bigI at hb;simp only[Bool.or_eq_false_iff,decide_eq_false_iff_not] at hb
 have ha:Rx.Rd.arD l 19=true:=by
  unfold Rx.Rd.arD;rw[h];simp;omega
 unfold Rx.Rd.rdI;rw[hbd,hn,if_pos ha];unfold Rx.Rd.sgR;rw[if_neg (by decide),if_pos (by omega)];exact⟨rfl,by simp⟩
theorem b7c {a b:List UInt8} (ha:Rx.Rd.allD a=true) (hb:Rx.Rd.allD b=true) (a1:1<=a.length) (a2:a.length<=14) (b1:1<=b.length) (b2:b.length<=4):(Rx.Rd.rdD (a++46::b)).2=true:=by
 have a0:∀ j,j<a.length->(a++46::b)[j]?≠some 46:=fun j hj e=>by
  rw[List.getElem?_append_left hj] at e;have:=List.mem_of_getElem? e;have:=List.all_eq_true.1 ha _ this;revert this;decide
 have hp:Rx.Rd.ptL (a++46::b)=(a,b,true):=by
  rw[Rx.Rd.ptL_hit a0 (by simp)];simp
 have hn:Rx.Rd.negL (a++46::b)=false:=by
  have:=(a6b ha).1
  cases a with
  | nil=>simp at a1
  | cons c a=>
  exact this
 have hbd:Rx.Rd.bodyL (a++46::b)=a++46::b:=by unfold Rx.Rd.bodyL;rw[hn];rfl
 have hk:Rx.Rd.okD (a,b,true)=true:=by
  unfold Rx.Rd.okD Rx.Rd.arD;rw[ha,hb];simp;omega
 unfold Rx.Rd.rdD;rw[hbd,hp,if_pos hk]
structure TokP (t:Lx.Tok):Prop where
  word:t.1=1->∃ c y,t.2.1=c::y/\c≠40
  num:t.1=3->(Rx.Rd.rdI t.2.1).2=true/\0<=(Rx.Rd.rdI t.2.1).1
  dec:t.1=4->(Rx.Rd.rdD t.2.1).2=true
  size:t.2.1.length<=8000
theorem a7k {l:List UInt8} (h:Rx.Rd.allD l=true):Rx.Rd.allD (Lx.noughts l)=true:=b3d h _
theorem TokP.of_num {l x:List UInt8} {k p:Nat} {t:Int} {n:Nat} (hl:l.length<=8000) (h1:1<=Lx.runN Lx.digI l) (h:Lx.numL l=.tok t x n):TokP (t,x,p):=by
 have hd:=a6a l;have hrl:=Lx.runN_le Lx.digI l
 have htl:(l.take (Lx.runN Lx.digI l)).length=Lx.runN Lx.digI l:=by rw[List.length_take];omega
 have hnl:=Lx.noughts_len (l.take (Lx.runN Lx.digI l));unfold Lx.numL at h;by_cases hda:Lx.decAt l=true
 .rw[if_pos hda] at h;split at h
  .cases h
  rename_i hc;obtain⟨rfl,rfl,rfl⟩:=Lx.afterN_tok h;unfold Lx.decAt at hda;simp only[Bool.and_eq_true,decide_eq_true_eq] at hda;obtain⟨a0,hdg⟩:=hda;have hdr:l.drop (Lx.runN Lx.digI l)=46::l.drop (Lx.runN Lx.digI l+1):=Lx.drop_cons l _ 46 a0
  have a1:1<=Lx.runN Lx.digI (l.drop (Lx.runN Lx.digI l+1)):=by
   cases hx:l[Lx.runN Lx.digI l+1]? with
   | none=>rw[hx] at hdg;simp[Lx.isDig] at hdg
   | some c=>
   rw[hx] at hdg;rw[Lx.drop_cons l _ c hx];exact Lx.runN_pos _ _ _ (by simpa[Lx.isDig] using hdg)
  have hfl:=Lx.runN_le Lx.digI (l.drop (Lx.runN Lx.digI l+1))
  have hbl:((l.drop (Lx.runN Lx.digI l+1)).take (Lx.runN Lx.digI (l.drop (Lx.runN Lx.digI l+1)))).length=Lx.runN Lx.digI (l.drop (Lx.runN Lx.digI l+1)):=by rw[List.length_take];omega
  have he:(l.drop (Lx.runN Lx.digI l)).take (1+Lx.runN Lx.digI (l.drop (Lx.runN Lx.digI l+1)))=46::(l.drop (Lx.runN Lx.digI l+1)).take (Lx.runN Lx.digI (l.drop (Lx.runN Lx.digI l+1))):=by
   rw[hdr,Nat.add_comm 1,List.take_succ_cons]
  refine⟨fun e=>by simp at e,fun e=>by simp at e,fun _=>?_,?_⟩
  .show(Rx.Rd.rdD (Lx.noughts (l.take (Lx.runN Lx.digI l))++_)).2=true
   rw[he];exact b7c (a7k hd) (a6a _) (by omega) (by omega) (by omega) (by omega)
  show(Lx.noughts (l.take (Lx.runN Lx.digI l))++_).length<=8000
  rw[he];simp only[List.length_append,List.length_cons];omega
 rw[if_neg hda] at h;split at h
 .cases h
 rename_i hbg;obtain⟨rfl,rfl,rfl⟩:=Lx.afterN_tok h;exact⟨fun e=>by simp at e,fun _=>b7b (a7k hd) (hnl.2 (by omega)) (by simpa using hbg),fun e=>by simp at e,by have:=hnl.1;show(Lx.noughts (l.take (Lx.runN Lx.digI l))).length<=8000;omega⟩
theorem b8y {c:UInt8} (h:Lx.wdI (c.toNat:Int)=true):Lx.lowC c≠40:=by
 unfold Lx.lowC;split
 .rename_i hc;intro e;have:=congrArg UInt8.toNat e;simp at this;omega
 intro e;subst e;revert h;decide
theorem TokP.of_cut {l x:List UInt8} {p:Nat} {t:Int} {n:Nat} (hl:l.length<=8000) (h:Lx.cutL l=.tok t x n):TokP (t,x,p):=by
 have hsz:=Lx.cut_size h;unfold Lx.cutL at h;split at h
 .cases h
 rename_i c r;by_cases hw:Lx.wdI (c.toNat:Int)=true
 .rw[if_pos hw] at h;unfold Lx.wordL at h;split at h
  .cases h
  simp only[Lx.Cut.tok.injEq] at h;obtain⟨rfl,rfl,rfl⟩:=h;have hp:1<=Lx.runN Lx.goI (c::r):=Lx.runN_pos _ _ _ (by unfold Lx.goI;rw[hw];rfl);refine⟨fun _=>?_,fun e=>by simp at e,fun e=>by simp at e,?_⟩
  .obtain⟨m,hm⟩:∃ m,Lx.runN Lx.goI (c::r)=m+1:=⟨_,(Nat.sub_add_cancel hp).symm⟩;rw[hm];exact⟨Lx.lowC c,(r.take m).map Lx.lowC,by simp,b8y hw⟩
  simp;omega
 rw[if_neg hw] at h;by_cases hd:Lx.digI (c.toNat:Int)=true
 .rw[if_pos hd] at h;exact TokP.of_num (k:=0) hl (Lx.runN_pos _ _ _ hd) h
 rw[if_neg hd] at h;split at h
 .unfold Lx.quoL at h;split at h
  .cases h
  rename_i y hy;have hul:=Lx.unq_len _ _ y.1 y.2 hy;split at h
  .cases h
  split at h
  .cases h
  simp only[Lx.Cut.tok.injEq] at h;obtain⟨rfl,rfl,rfl⟩:=h;exact⟨fun e=>by simp at e,fun e=>by simp at e,fun e=>by simp at e,by simp at hul ⊢;simp at hl;omega⟩
 split at h
 .unfold Lx.strL at h;split at h
  .cases h
  rename_i y hy;have hul:=Lx.unq_len _ _ y.1 y.2 hy;split at h
  .cases h
  split at h
  .cases h
  simp only[Lx.Cut.tok.injEq] at h;obtain⟨rfl,rfl,rfl⟩:=h;exact⟨fun e=>by simp at e,fun e=>by simp at e,fun e=>by simp at e,by simp at hul ⊢;simp at hl;omega⟩
 unfold Lx.sigL at h;split at h
 .cases h
 rename_i g hg;have:=Lx.sigAt_len hg;simp only[Lx.Cut.tok.injEq] at h;obtain⟨rfl,rfl,rfl⟩:=h
 exact⟨fun e=>by simp at e,fun e=>by simp at e,fun e=>by simp at e,by have:=this.2;dsimp only;split<;>first | (simp;done) | omega⟩
theorem b4T {l:List UInt8} {k:Nat} {acc:List Lx.Tok} {r:Lx.LexRes} (hl:l.length<=8000) (h:Lx.LexR l k acc r):(∀ t∈acc,TokP t)->∀ ts,r=.ok ts->∀ t∈ts,TokP t:=by
 induction h with
 | blank h hb nx ih=>exact ih
 | cmt hc nx ih=>exact ih
 | many h hb hc hm=>intro _ ts e;cases e
 | bad h hb hc hm hk=>intro _ ts e;cases e
 | fin h=>intro ha ts e;cases e;exact ha
 | tok h hb hc hm hk nx ih=>
 intro ha ts e;refine ih (fun t ht=>?_) ts e;rcases List.mem_append.1 ht with z | z
 .exact ha t z
 simp at z;subst z;exact TokP.of_cut (by simp;omega) hk
theorem b4U {l:List UInt8} {k:Nat} {acc:List Lx.Tok} {r:Lx.LexRes} (h:Lx.LexR l k acc r):acc.length<=2000->∀ ts,r=.ok ts->ts.length<=2000:=by
 induction h with
 | blank h hb nx ih=>exact ih
 | cmt hc nx ih=>exact ih
 | many h hb hc hm=>intro _ ts e;cases e
 | bad h hb hc hm hk=>intro _ ts e;cases e
 | fin h=>intro ha ts e;cases e;exact ha
 | tok h hb hc hm hk nx ih=>
 intro ha ts e;exact ih (by simp;omega) ts e
end Go.Proofs.YtphmpkpcamgjeaaGreatDoor
namespace Go.Proofs.YtphmpkpcamgjeaaGreatDoor.Rx.Rd
open Go.ChangeShapes Go.WideShapes Go.ChangeAt Go.RowKit Go.Proofs.Tryz Go.Shelf
def shB (l:List UInt8):Bool:=decide (l.length=10)&&(l[4]?==some 45&&l[7]?==some 45)
def vB (y m d:Int):Bool:=decide (1<=y)&&(decide (y<=9999)&&(decide (1<=m)&&(decide (m<=12)&&(decide (1<=d)&&decide (d<=Days.mdays y m)))))
theorem b3X {y m d:Int} (h:vB y m d=true):Days.vld y m d:=by
 simp only[vB,Bool.and_eq_true,decide_eq_true_eq] at h;exact⟨⟨h.1,h.2.1⟩,⟨h.2.2.1,h.2.2.2.1⟩,h.2.2.2.2.1,h.2.2.2.2.2⟩
theorem b9d {y m d:Int} (h:vB y m d=false):¬ Days.vld y m d:=by
 rintro⟨⟨a,b⟩,⟨c,e⟩,f,g⟩
 have:vB y m d=true:=by simp only[vB,Bool.and_eq_true,decide_eq_true_eq];exact⟨a,b,c,e,f,g⟩
 rw[this] at h;cases h
def dY (l:List UInt8):List UInt8:=l.take 4
def dM (l:List UInt8):List UInt8:=(l.drop 5).take 2
def dD (l:List UInt8):List UInt8:=l.drop 8
def dOk (l:List UInt8):Bool:=allD (dY l)&&(allD (dM l)&&allD (dD l))
def rdT (l:List UInt8):Int×Bool:=if shB l=true/\dOk l=true/\vB (numL (dY l)) (numL (dM l)) (numL (dD l))=true then(Days.num (numL (dY l)) (numL (dM l)) (numL (dD l)),true) else(0,false)
theorem a4J {l:List UInt8} (h:shB l=false):rdT l=(0,false):=by unfold rdT;rw[if_neg (by rw[h];simp)]
theorem b3Y {l:List UInt8} (h:dOk l=false):rdT l=(0,false):=by unfold rdT;rw[if_neg (by rw[h];simp)]
theorem b3Z {l:List UInt8} (h:vB (numL (dY l)) (numL (dM l)) (numL (dD l))=false):rdT l=(0,false):=by unfold rdT;rw[if_neg (by rw[h];simp)]
theorem b4a {l:List UInt8} (h1:shB l=true) (h2:dOk l=true) (h3:vB (numL (dY l)) (numL (dM l)) (numL (dD l))=true):rdT l=(Days.num (numL (dY l)) (numL (dM l)) (numL (dD l)),true):=by unfold rdT;rw[if_pos ⟨h1,h2,h3⟩]
theorem a3N {s:ByteArray} {k:Nat} (h:k<s.size):s.data.toList[k]?=some s[k]:=by
 rw[List.getElem?_eq_getElem (by rw[len_eq];exact h)];rfl
theorem a6S {b:UInt8} (h:((b.toNat:Int) != 45)=true):(some b==some (45:UInt8))=false:=by
 rw[beq_eq_false_iff_ne];intro e;cases e;simp at h
theorem a4K {b:UInt8} (h:((b.toNat:Int) != 45)=false):(some b==some (45:UInt8))=true:=by
 rw[beq_iff_eq]
 have:(b.toNat:Int)=45:=by simpa using h
 exact congrArg some (UInt8.toNat_inj.1 (by have:(45:UInt8).toNat=45:=rfl;omega))
theorem b2y (s:ByteArray):(s.extract 0 4).data.toList=dY s.data.toList:=by rw[Lib.extract_data];rfl
theorem b2z (s:ByteArray):(s.extract 5 7).data.toList=dM s.data.toList:=by rw[Lib.extract_data];rfl
theorem b2A (s:ByteArray):(s.extract 8 s.size).data.toList=dD s.data.toList:=by
 rw[Lib.extract_data,List.take_of_length_le (by rw[List.length_drop,len_eq];exact Nat.le_refl _)];rfl
theorem b7O {s:ByteArray} (h:s.size=10):(dY s.data.toList).length=4:=by unfold dY;rw[List.length_take,len_eq];omega
theorem b7P {s:ByteArray} (h:s.size=10):(dM s.data.toList).length=2:=by unfold dM;rw[List.length_take,List.length_drop,len_eq];omega
theorem b7Q {s:ByteArray} (h:s.size=10):(dD s.data.toList).length=2:=by unfold dD;rw[List.length_drop,len_eq];omega
theorem a6T {l:List UInt8} {k:Nat} (h1:1<=l.length) (h2:l.length<=k):arD l k=allD l:=by unfold arD;simp[h1,h2]
theorem a6p (s:ByteArray):((s.extract 0 4++s.extract 5 7)++s.extract 8 s.size).data.toList=dY s.data.toList++dM s.data.toList++dD s.data.toList:=by
 rw[a7i,a7i,b2y,b2z,b2A]
theorem b7R {l:List UInt8} (h:allD l=true) (hl:l.length=4):numL l<10000:=by have:=a3Q h;rw[hl] at this;exact this
theorem b4b {l:List UInt8} (h:allD l=true) (hl:l.length=2):numL l<100:=by have:=a3Q h;rw[hl] at this;exact this
theorem b4c {l:List UInt8} {k:Nat} (h:1<=dgN l k):arD l k=true:=by
 cases e:arD l k
 .unfold dgN at h;rw[e] at h;simp at h
 rfl
theorem b2B {l:List UInt8} {k:Nat} (h:arD l k=true):dgN l k=numL l:=by unfold dgN;rw[if_pos h]
theorem b7S {l:List UInt8} {k:Nat}:dgN l k<10^k:=by
 unfold dgN;split
 .exact b0I ‹_›
 exact Nat.pow_pos (by omega)
theorem b4d {s:ByteArray} (hz:s.size=10) (hsh:shB s.data.toList=true) :
    dgN (dY s.data.toList) 4<10000/\dgN (dM s.data.toList) 2<100/\dgN (dD s.data.toList) 2<100 /\
    ((vB (dgN (dY s.data.toList) 4) (dgN (dM s.data.toList) 2) (dgN (dD s.data.toList) 2)=false/\rdT s.data.toList=(0,false)) \/
 (vB (dgN (dY s.data.toList) 4) (dgN (dM s.data.toList) 2) (dgN (dD s.data.toList) 2)=true/\arD (dY s.data.toList) 4=true/\arD (dM s.data.toList) 2=true/\arD (dD s.data.toList) 2=true/\rdT s.data.toList=(Days.num (dgN (dY s.data.toList) 4) (dgN (dM s.data.toList) 2) (dgN (dD s.data.toList) 2),true))):=by
 refine⟨b7S,b7S,b7S,?_⟩;have l4:=b7O hz;have l2:=b7P hz;have l1:=b7Q hz;have a4:arD (dY s.data.toList) 4=allD (dY s.data.toList):=a6T (by omega) (by omega);have a2:arD (dM s.data.toList) 2=allD (dM s.data.toList):=a6T (by omega) (by omega);have a1:arD (dD s.data.toList) 2=allD (dD s.data.toList):=a6T (by omega) (by omega);cases hv:vB (dgN (dY s.data.toList) 4) (dgN (dM s.data.toList) 2) (dgN (dD s.data.toList) 2)
 .left;refine⟨rfl,?_⟩;cases hok:dOk s.data.toList
  .exact b3Y hok
  have hall:allD (dY s.data.toList)=true/\allD (dM s.data.toList)=true/\allD (dD s.data.toList)=true:=by simpa[dOk] using hok
  rw[b2B (a4.trans hall.1),b2B (a2.trans hall.2.1),b2B (a1.trans hall.2.2)] at hv;exact b3Z hv
 right;have⟨⟨v1,_⟩,⟨v2,_⟩,v3,_⟩:=b3X hv;have o1:=b4c (l:=dY s.data.toList) (k:=4) (by omega);have o2:=b4c (l:=dM s.data.toList) (k:=2) (by omega);have o3:=b4c (l:=dD s.data.toList) (k:=2) (by omega);refine⟨rfl,o1,o2,o3,?_⟩;rw[b2B o1,b2B o2,b2B o3] at hv ⊢;refine b4a hsh ?_ hv;unfold dOk;rw[<- a4,<- a2,<- a1,o1,o2,o3];rfl
end Go.Proofs.YtphmpkpcamgjeaaGreatDoor.Rx.Rd
namespace Go.Proofs.YtphmpkpcamgjeaaGreatDoor.Rx.Rd
open Go.ChangeShapes Go.WideShapes Go.ChangeAt Go.RowKit Go.Proofs.Tryz Go.Shelf
theorem readDate_spec (s:ByteArray) (w:World) (hs:s.size<=1048576) :
 Calls prog 200 #[.string s] w fun e w'=>e=.returned (.tuple #[.int .i64 (rdT s.data.toList).1,.bool (rdT s.data.toList).2])/\Below w.heap.size w w':=by
 by_cases hz:s.size=10
 .have hzi:((s.size:Int) != 10)=false:=by simp;omega
  have h4:4<s.size:=by omega
  have h7:7<s.size:=by omega
  cases a0:(((s[4]'h4).toNat:Int) != 45)
  .cases a1:(((s[7]'h7).toNat:Int) != 45)
   .have HSH:Hid (shB s.data.toList=true):=hid (by unfold shB;rw[len_eq,a3N h4,a3N h7,a4K a0,a4K a1];simp[hz]);have l4:=b7O hz;have l2:=b7P hz;have l1:=b7Q hz
    have zy:(s.extract 0 4).size=4:=by rw[<- len_eq,b2y];exact l4
    have zm:(s.extract 5 7).size=2:=by rw[<- len_eq,b2z];exact l2
    have zd:(s.extract 8 s.size).size=2:=by rw[<- len_eq,b2A];exact l1
    have cy:=fun w=>a0B (s.extract 0 4) 4 w (by omega) (by omega);have cm:=fun w=>a0B (s.extract 5 7) 2 w (by omega) (by omega);have cd:=fun w=>a0B (s.extract 8 s.size) 2 w (by omega) (by omega);rw[b2y] at cy;rw[b2z] at cm;rw[b2A] at cd
    have a2:4<=s.size:=by omega
    have a3:7<=s.size:=by omega
    have a4:8<=s.size:=by omega
    have HR:=b4d (s:=s) hz HSH.out;generalize dgN (dY s.data.toList) 4=y at *;generalize dgN (dM s.data.toList) 2=m at *;generalize dgN (dD s.data.toList) 2=d at *;generalize arD (dY s.data.toList) 4=o1 at *;generalize arD (dM s.data.toList) 2=o2 at *;generalize arD (dD s.data.toList) 2=o3 at *;clear HSH l4 l2 l1 zy zm zd hz;obtain⟨yl,ml,dl,cs⟩:=HR
    have yi:(y:Int)<10000:=by omega
    have mi:(m:Int)<100:=by omega
    have di:(d:Int)<100:=by omega
    rcases cs with⟨hv,hr⟩ | ⟨hv,rfl,rfl,rfl,hr⟩
    .have HV:Hid (rdT s.data.toList=(0,false)):=hr;have hdo:=fun w=>Days.dateOf_spec_no y m d w (b9d hv);clear hr hv;go_enter func200,ntmps200;go_wp2_with fail;refine(cy _).mono ?_;rintro e w1 ⟨rfl,rfl⟩;go_wp2_with fail;refine(cm _).mono ?_;rintro e w2 ⟨rfl,rfl⟩;go_wp2_with fail;refine(cd _).mono ?_;rintro e w3 ⟨rfl,rfl⟩
     cases o1<;>cases o2<;>cases o3
     all_goals
       go_wp2_with (go_at_call 219;refine(hdo _).mono ?_;rintro e w4 ⟨rfl,rfl⟩)
       go_ret2
       exact⟨a0I (by rw[HV.out]) (by rw[HV.out];try rfl),Below.refl _ _⟩
    have HV:Hid (rdT s.data.toList=(Days.num y m d,true)):=hr;have hdo:=fun w=>Days.dateOf_spec_yes y m d w (b3X hv);clear hr hv;go_enter func200,ntmps200;go_wp2_with fail;refine(cy _).mono ?_;rintro e w1 ⟨rfl,rfl⟩;go_wp2_with fail;refine(cm _).mono ?_;rintro e w2 ⟨rfl,rfl⟩;go_wp2_with fail;refine(cd _).mono ?_;rintro e w3 ⟨rfl,rfl⟩;go_wp2_with (go_at_call 219;refine(hdo _).mono ?_;rintro e w4 ⟨rfl,rfl⟩);go_ret2;exact⟨a0I (by rw[HV.out]) (by rw[HV.out];try rfl),Below.refl _ _⟩
   have HV:Hid (rdT s.data.toList=(0,false)):=a4J (by unfold shB;rw[len_eq,a3N h4,a3N h7,a4K a0,a6S a1];simp);clear hz;go_enter func200,ntmps200;go_wp2;go_ret2;exact⟨a0I (by rw[HV.out]) (by rw[HV.out]),Below.refl _ _⟩
  have HV:Hid (rdT s.data.toList=(0,false)):=a4J (by unfold shB;rw[len_eq,a3N h4,a6S a0];simp);clear hz;go_enter func200,ntmps200;go_wp2;go_ret2;exact⟨a0I (by rw[HV.out]) (by rw[HV.out]),Below.refl _ _⟩
 have hzi:((s.size:Int) != 10)=true:=by simp;omega
 have HV:Hid (rdT s.data.toList=(0,false)):=a4J (by unfold shB;rw[len_eq];simp[hz]);go_enter func200,ntmps200;go_wp2;go_ret2;exact⟨a0I (by rw[HV.out]) (by rw[HV.out]),Below.refl _ _⟩
end Go.Proofs.YtphmpkpcamgjeaaGreatDoor.Rx.Rd
