import Derived.Test.YtphmpkpcamgjeaaGreatDoorXAF
import Derived.Test.YtphmpkpcamgjeaaGreatDoorXAA
import Derived.Test.YtphmpkpcamgjeaaGreatDoorXAD
set_option linter.unusedVariables false
set_option linter.unusedSimpArgs false
set_option maxRecDepth 100000
set_option maxHeartbeats 16000000
namespace Go.Proofs.YtphmpkpcamgjeaaGreatDoor.Rx.Rd
open Go.ChangeShapes Go.WideShapes Go.ChangeAt Go.RowKit Go.Proofs.Tryz Go.Shelf
theorem b1j {s:ByteArray} (h:0<s.size):negL s.data.toList=(((s[0]'h).toNat:Int)==45):=by
 have e:s.data.toList=s[0]::s.data.toList.tail:=by
  have:0<s.data.toList.length:=by rw[len_eq];exact h
  cases hl:s.data.toList with
  | nil=>rw[hl] at this;simp at this
  | cons b l=>
  have:s[0]=s.data.toList[0]:=rfl;rw[this];simp[hl]
 rw[e];simp only[negL];rw[Bool.eq_iff_iff,beq_iff_eq,beq_iff_eq];constructor
 .intro h;rw[h];rfl
 intro h;exact UInt8.toNat_inj.1 (by have:(45:UInt8).toNat=45:=rfl;omega)
theorem a7P {s:ByteArray} (h:¬ 0<s.size):negL s.data.toList=false:=by
 have:s.data.toList=[]:=List.eq_nil_of_length_eq_zero (by rw[len_eq];omega);rw[this];rfl
theorem a4I (s:ByteArray):(s.extract 1 s.size).data.toList=s.data.toList.tail:=by
 rw[Lib.extract_data,List.take_of_length_le (by rw[List.length_drop,len_eq];exact Nat.le_refl _),List.drop_one]
theorem tail_size (s:ByteArray):(s.extract 1 s.size).size<=s.size:=by
 rw[<- len_eq,a4I,List.length_tail,len_eq];omega
theorem a6R (t:ByteArray) (ng:Bool) (V:Int×Bool) (hV:V=if arD t.data.toList 19=true then((sgR (numL t.data.toList) ng).1,(sgR (numL t.data.toList) ng).2==0) else(0,false)) :
    (arD t.data.toList 19=false/\V=(0,false))\/(arD t.data.toList 19=true/\dgN t.data.toList 19<10000000000000000000/\((ng=true/\(((dgN t.data.toList 19:Int)<9223372036854775808/\V=(-(dgN t.data.toList 19:Int),true))\/((dgN t.data.toList 19:Int)=9223372036854775808/\V=(-9223372036854775808,true))\/((9223372036854775808:Int)<dgN t.data.toList 19/\V=(0,false)))) \/
 (ng=false/\(((dgN t.data.toList 19:Int)<9223372036854775808/\V=((dgN t.data.toList 19:Int),true))\/((dgN t.data.toList 19:Int)=9223372036854775808/\V=(0,false))\/((9223372036854775808:Int)<dgN t.data.toList 19/\V=(0,false)))))):=by
 cases h:arD t.data.toList 19
 .left;rw[h] at hV;exact⟨rfl,hV⟩
 right
 have e:dgN t.data.toList 19=numL t.data.toList:=by unfold dgN;rw[if_pos h]
 rw[if_pos h,<- e] at hV
 have hx:dgN t.data.toList 19<10000000000000000000:=by rw[e];exact b8w h
 refine⟨rfl,hx,?_⟩;generalize dgN t.data.toList 19=x at *;rcases Int.lt_trichotomy (x:Int) 9223372036854775808 with c | c | c
 .cases ng
  .exact .inr ⟨rfl,.inl ⟨c,by rw[hV];unfold sgR;rw[if_neg (by decide),if_pos (by omega)];rfl⟩⟩
  exact .inl ⟨rfl,.inl ⟨c,by rw[hV];unfold sgR;rw[if_pos rfl,if_pos (by omega)];rfl⟩⟩
 .cases ng
  .exact .inr ⟨rfl,.inr (.inl ⟨c,by rw[hV];unfold sgR;rw[if_neg (by decide),if_neg (by omega)];rfl⟩)⟩
  exact .inl ⟨rfl,.inr (.inl ⟨c,by rw[hV];unfold sgR;rw[if_pos rfl,if_pos (by omega)];rw[c];rfl⟩)⟩
 cases ng
 .exact .inr ⟨rfl,.inr (.inr ⟨c,by rw[hV];unfold sgR;rw[if_neg (by decide),if_neg (by omega)];rfl⟩)⟩
 exact .inl ⟨rfl,.inr (.inr ⟨c,by rw[hV];unfold sgR;rw[if_pos rfl,if_neg (by omega)];rfl⟩)⟩
theorem b0l (s:ByteArray) (w:World) (hs:s.size<=1048576) (h0:0<s.size) (hb:(((s[0]'h0).toNat:Int)==45)=true) (V:Int×Bool) (hV:V=if arD (s.extract 1 s.size).data.toList 19=true then((sgR (numL (s.extract 1 s.size).data.toList) true).1,(sgR (numL (s.extract 1 s.size).data.toList) true).2==0) else(0,false)) :
 Calls prog 131 #[.string s] w fun e w'=>e=.returned (.tuple #[.int .i64 V.1,.bool V.2])/\w'=w:=by
 have a0:(0:Int)<s.size:=by omega
 have hdg:=fun w=>a0B (s.extract 1 s.size) 19 w (by have:=tail_size s;omega) (by omega);have cs:=a6R (s.extract 1 s.size) true V hV;generalize dgN (s.extract 1 s.size).data.toList 19=x at *;generalize arD (s.extract 1 s.size).data.toList 19=ok at *;clear hV
 have hxl:(x:Int) ≥ 0:=by omega
 rcases cs with⟨rfl,rfl⟩ | ⟨rfl,hx,cs⟩
 .go_enter func131,ntmps131;go_wp2_with (go_at_call 84;refine(hdg _).mono ?_;rintro e w1 ⟨rfl,rfl⟩);go_ret2;exact⟨rfl,rfl⟩
 rcases cs with⟨_,cs⟩ | ⟨h,_⟩;rcases cs with⟨c,rfl⟩ | ⟨c,rfl⟩ | ⟨c,rfl⟩
 .have g1:¬ (9223372036854775808:Int)<x:=by omega
  have g2:((x:Int)==9223372036854775808)=false:=by rw[beq_eq_false_iff_ne];omega
  have g3:¬ (9223372036854775807:Int)<x:=by omega
  clear c;clear hx;go_enter func131,ntmps131;go_wp2_with (go_at_call 84;refine(hdg _).mono ?_;rintro e w1 ⟨rfl,rfl⟩);go_ret2;exact⟨rfl,rfl⟩
 .have g1:¬ (9223372036854775808:Int)<x:=by omega
  have g2:((x:Int)==9223372036854775808)=true:=by rw[beq_iff_eq];omega
  have c1:(x:Int)<=9223372036854775808:=by omega
  clear c;clear hx;go_enter func131,ntmps131;go_wp2_with (go_at_call 84;refine(hdg _).mono ?_;rintro e w1 ⟨rfl,rfl⟩);go_ret2;exact⟨rfl,rfl⟩
 .skip;clear hx;go_enter func131,ntmps131;go_wp2_with (go_at_call 84;refine(hdg _).mono ?_;rintro e w1 ⟨rfl,rfl⟩);go_ret2;exact⟨rfl,rfl⟩
 cases h
theorem b0m (s:ByteArray) (w:World) (hs:s.size<=1048576) (h0:0<s.size) (hb:(((s[0]'h0).toNat:Int)==45)=false) (V:Int×Bool) (hV:V=if arD (s).data.toList 19=true then((sgR (numL (s).data.toList) false).1,(sgR (numL (s).data.toList) false).2==0) else(0,false)) :
 Calls prog 131 #[.string s] w fun e w'=>e=.returned (.tuple #[.int .i64 V.1,.bool V.2])/\w'=w:=by
 have a0:(0:Int)<s.size:=by omega
 have hdg:=fun w=>a0B (s) 19 w (by have:=tail_size s;omega) (by omega);have cs:=a6R (s) false V hV;generalize dgN (s).data.toList 19=x at *;generalize arD (s).data.toList 19=ok at *;clear hV
 have hxl:(x:Int) ≥ 0:=by omega
 rcases cs with⟨rfl,rfl⟩ | ⟨rfl,hx,cs⟩
 .go_enter func131,ntmps131;go_wp2_with (go_at_call 84;refine(hdg _).mono ?_;rintro e w1 ⟨rfl,rfl⟩);go_ret2;exact⟨rfl,rfl⟩
 rcases cs with⟨h,_⟩ | ⟨_,cs⟩
 .cases h
 rcases cs with⟨c,rfl⟩ | ⟨c,rfl⟩ | ⟨c,rfl⟩
 .have g1:¬ (9223372036854775808:Int)<x:=by omega
  have g2:¬ (9223372036854775807:Int)<x:=by omega
  clear c;clear hx;go_enter func131,ntmps131;go_wp2_with (go_at_call 84;refine(hdg _).mono ?_;rintro e w1 ⟨rfl,rfl⟩);go_ret2;exact⟨rfl,rfl⟩
 .have g1:¬ (9223372036854775808:Int)<x:=by omega
  have g2:(9223372036854775807:Int)<x:=by omega
  clear c;clear hx;go_enter func131,ntmps131;go_wp2_with (go_at_call 84;refine(hdg _).mono ?_;rintro e w1 ⟨rfl,rfl⟩);go_ret2;exact⟨rfl,rfl⟩
 skip;clear hx;go_enter func131,ntmps131;go_wp2_with (go_at_call 84;refine(hdg _).mono ?_;rintro e w1 ⟨rfl,rfl⟩);go_ret2;exact⟨rfl,rfl⟩
theorem b0n (s:ByteArray) (w:World) (hs:s.size<=1048576) (h0:¬ 0<s.size) (V:Int×Bool) (hV:V=if arD (s).data.toList 19=true then((sgR (numL (s).data.toList) false).1,(sgR (numL (s).data.toList) false).2==0) else(0,false)) :
 Calls prog 131 #[.string s] w fun e w'=>e=.returned (.tuple #[.int .i64 V.1,.bool V.2])/\w'=w:=by
 have a0:¬ (0:Int)<s.size:=by omega
 have hdg:=fun w=>a0B (s) 19 w (by have:=tail_size s;omega) (by omega);have cs:=a6R (s) false V hV;generalize dgN (s).data.toList 19=x at *;generalize arD (s).data.toList 19=ok at *;clear hV
 have hxl:(x:Int) ≥ 0:=by omega
 rcases cs with⟨rfl,rfl⟩ | ⟨rfl,hx,cs⟩
 .go_enter func131,ntmps131;go_wp2_with (go_at_call 84;refine(hdg _).mono ?_;rintro e w1 ⟨rfl,rfl⟩);go_ret2;exact⟨rfl,rfl⟩
 rcases cs with⟨h,_⟩ | ⟨_,cs⟩
 .cases h
 rcases cs with⟨c,rfl⟩ | ⟨c,rfl⟩ | ⟨c,rfl⟩
 .have g1:¬ (9223372036854775808:Int)<x:=by omega
  have g2:¬ (9223372036854775807:Int)<x:=by omega
  clear c;clear hx;go_enter func131,ntmps131;go_wp2_with (go_at_call 84;refine(hdg _).mono ?_;rintro e w1 ⟨rfl,rfl⟩);go_ret2;exact⟨rfl,rfl⟩
 .have g1:¬ (9223372036854775808:Int)<x:=by omega
  have g2:(9223372036854775807:Int)<x:=by omega
  clear c;clear hx;go_enter func131,ntmps131;go_wp2_with (go_at_call 84;refine(hdg _).mono ?_;rintro e w1 ⟨rfl,rfl⟩);go_ret2;exact⟨rfl,rfl⟩
 skip;clear hx;go_enter func131,ntmps131;go_wp2_with (go_at_call 84;refine(hdg _).mono ?_;rintro e w1 ⟨rfl,rfl⟩);go_ret2;exact⟨rfl,rfl⟩
theorem readInt_spec (s:ByteArray) (w:World) (hs:s.size<=1048576) :
 Calls prog 131 #[.string s] w fun e w'=>e=.returned (.tuple #[.int .i64 (rdI s.data.toList).1,.bool (rdI s.data.toList).2])/\w'=w:=by
 by_cases h0:0<s.size
 .cases hb:(((s[0]'h0).toNat:Int)==45)
  .refine b0m s w hs h0 hb _ ?_;have hn:=(b1j h0).trans hb;unfold rdI bodyL;rw[hn];rfl
  refine b0l s w hs h0 hb _ ?_;have hn:=(b1j h0).trans hb;unfold rdI bodyL;rw[hn,a4I];rfl
 refine b0n s w hs h0 _ ?_;have hn:=a7P h0;unfold rdI bodyL;rw[hn];rfl
end Go.Proofs.YtphmpkpcamgjeaaGreatDoor.Rx.Rd
namespace Go.Proofs.YtphmpkpcamgjeaaGreatDoor.Rx.Rd
open Go.ChangeShapes Go.WideShapes Go.ChangeAt Go.RowKit Go.Proofs.Tryz Go.Shelf
def ML (w:World):Prop:=3<w.heap.size/\∃ m,w.cell? ⟨3,0,none⟩=some (.int .i64 m)
theorem ML.below {w w':World} (h:ML w) (hb:Below w.heap.size w w'):ML w':=by
 obtain⟨h1,m,h2⟩:=h;exact⟨Nat.lt_of_lt_of_le h1 hb.size,m,(hb.cell (p:=⟨3,0,none⟩) h1).trans h2⟩
theorem a6Q (s:ByteArray) (w:World) (hs:s.size<=1048576) (hM:ML w) :
 Calls prog 230 #[.string s] w fun e w'=>e=.returned (.tuple #[.int .i64 (rdD s.data.toList).1,.bool (rdD s.data.toList).2])/\Below w.heap.size w w':=by
 have htp:=fun w=>Tryz.strings_TrimPrefix s ⟨#[45]⟩ w;have hhp:=fun w=>Tryz.strings_HasPrefix s ⟨#[45]⟩ w;have a3:(⟨#[45]⟩:ByteArray).data.toList=[45]:=rfl;have a5:(⟨#[46]⟩:ByteArray).data.toList=[46]:=rfl;rw[a3,b8v] at htp;rw[a3,hasP] at hhp
 have hbl:(bodyL s.data.toList).length<=s.size:=by rw[a6y,len_eq];split<;>omega
 obtain⟨_,mm,hmm⟩:=hM;have hcut:=Tryz.strings_Cut ⟨(bodyL s.data.toList).toArray⟩ ⟨#[46]⟩ mm w (by rw[a4x];omega) hmm;clear hmm;rw[a5,a4w] at hcut;have hle:=b6s (bodyL s.data.toList);have HFA:Hid ((ptL (bodyL s.data.toList)).2.2=false->(ptL (bodyL s.data.toList)).2.1=[]):=b3b;have HRD:Hid (rdD s.data.toList=if okD (ptL (bodyL s.data.toList))=true then((if negL s.data.toList=true then -(unitsL (ptL (bodyL s.data.toList)).1 (ptL (bodyL s.data.toList)).2.1:Int) else(unitsL (ptL (bodyL s.data.toList)).1 (ptL (bodyL s.data.toList)).2.1:Int)),true) else(0,false)):=rfl;change Calls prog 234 _ _ (fun e w'=>e=.returned (.tuple #[.string ⟨(ptL (bodyL s.data.toList)).1.toArray⟩,.string ⟨(ptL (bodyL s.data.toList)).2.1.toArray⟩,.bool (ptL (bodyL s.data.toList)).2.2])/\∃ n,w'=w.drewN n) at hcut
 generalize bodyL s.data.toList=d at *;generalize negL s.data.toList=ng at *;generalize ptL d=c at *;obtain⟨a,b,pt⟩:=c;simp only at hcut HRD HFA hle;have ha:=fun w=>a2s ⟨a.toArray⟩ 14 w (by rw[a4x];omega) (by omega);have hb:=fun w=>a2s ⟨b.toArray⟩ 4 w (by rw[a4x];omega) (by omega);rw[a4w] at ha hb;cases hok:okD (a,b,pt)
 .have HV:Hid (rdD s.data.toList=(0,false)):=by have:=HRD.out;rw[hok] at this;exact this
  have cs:arD a 14=false\/(arD a 14=true/\pt=true/\arD b 4=false):=by
   simp only[okD] at hok;cases h1:arD a 14
   .exact .inl rfl
   right;rw[h1] at hok
   cases pt<;>simp_all
  clear HRD HFA hok;rcases cs with h1 | ⟨h1,rfl,h2⟩
  .rw[h1] at ha;go_enter func230,ntmps230;go_wp2_with (first | (go_at_call 194;refine(htp _).mono ?_;rintro e w0 ⟨rfl,hw⟩;rw[hw];clear hw w0) | (go_at_call 234;refine hcut.mono ?_;rintro e w1 ⟨rfl,nq,rfl⟩) | (go_at_call 195;refine(ha _).mono ?_;rintro e w2 ⟨rfl,b1⟩));go_ret2;exact⟨a0I (by rw[HV.out]) (by rw[HV.out]),(a0T w nq).trans (b1.mono (a0T w nq).size)⟩
  rw[h1] at ha;rw[h2] at hb;go_enter func230,ntmps230;go_wp2_with (first | (go_at_call 194;refine(htp _).mono ?_;rintro e w0 ⟨rfl,hw⟩;rw[hw];clear hw w0) | (go_at_call 234;refine hcut.mono ?_;rintro e w1 ⟨rfl,nq,rfl⟩));refine(ha _).mono ?_;rintro e w2 ⟨rfl,b1⟩;go_wp2_with (go_at_call 195;refine(hb _).mono ?_;rintro e w3 ⟨rfl,b2⟩);go_ret2;have a1:=(a0T w nq).trans (b1.mono (a0T w nq).size);exact⟨a0I (by rw[HV.out]) (by rw[HV.out]),a1.trans (b2.mono a1.size)⟩
 obtain⟨k1,k2,k3⟩:=b6Y (c:=(a,b,pt)) HFA.out hok;simp only at k1 k2 k3;have hu:=b4S k1 k2 k3
 have HV:Hid (rdD s.data.toList=((if ng=true then -(unitsL a b:Int) else(unitsL a b:Int)),true)):=by have:=HRD.out;rw[hok] at this;exact this
 have hwl:(a++b++List.replicate (4-b.length) 48).length<=18:=by
  have:=(a4a k1).2.2;simp;omega
 have hw:=fun w=>a2V ⟨(a++b++List.replicate (4-b.length) 48).toArray⟩ w (by rw[a4x];omega) (by rw[a4w,a5d,a5d,(a4a k1).1,k2,a7h];rfl);rw[a4w,b3c k3] at hw;have hsg:=fun w=>a5Z (unitsL a b) ng w (by omega)
 have hse:sgR (unitsL a b) ng=(if ng=true then -(unitsL a b:Int) else(unitsL a b:Int),0):=by unfold sgR;cases ng<;>simp<;>omega
 rw[hse] at hsg;simp only at hsg;have hrp:=fun w=>b6Z (4-b.length) w (by omega);have EC:Hid (((4-b.length:Nat):Int)=(4:Int)-b.length):=hid (by omega);rw[EC.out] at hrp;have HCAT:=b8x (b9z a b (List.replicate (4-b.length) 48))
 have hbi:(b.length:Int)<=4:=by omega
 have hal:a.length<=14:=(a4a k1).2.2;generalize (if ng=true then -(unitsL a b:Int) else(unitsL a b:Int))=z at *;generalize unitsL a b=x at *
 have hzl:(List.replicate (4-b.length) (48:UInt8)).length<=4:=by simp
 generalize List.replicate (4-b.length) (48:UInt8)=zz at *;rw[k1] at ha
 have cs:pt=false\/(pt=true/\arD b 4=true):=by
  simp only[okD] at hok;rw[k1] at hok
  cases pt<;>simp_all
 clear HRD HFA hok hse hwl k1 k2 EC;rcases cs with rfl | ⟨rfl,h2⟩
 .go_enter func230,ntmps230;go_wp2_with (first | (go_at_call 194;refine(htp _).mono ?_;rintro e w0 ⟨rfl,hw⟩;rw[hw];clear hw w0) | (go_at_call 234;refine hcut.mono ?_;rintro e w1 ⟨rfl,nq,rfl⟩) | (go_at_call 195;refine(ha _).mono ?_;rintro e w2 ⟨rfl,b1⟩) | (go_at_call 235;refine(hrp _).mono ?_;rintro e w3 ⟨rfl,b2⟩) | (go_at_call 197;rw[HCAT.out];refine(hw _).mono ?_;rintro e w4 ⟨rfl,b3⟩) | (go_at_call 59;refine(hhp _).mono ?_;rintro e w0 ⟨rfl,a0⟩;rw[a0];clear a0 w0) | (go_at_call 196;refine(hsg _).mono ?_;rintro e w0 ⟨rfl,a0⟩;rw[a0];clear a0 w0));go_ret2;have a1:=(a0T w nq).trans (b1.mono (a0T w nq).size);have a2:=a1.trans (b2.mono a1.size);exact⟨a0I (by rw[HV.out]) (by rw[HV.out]),a2.trans (b3.mono a2.size)⟩
 rw[h2] at hb;go_enter func230,ntmps230;go_wp2_with (first | (go_at_call 194;refine(htp _).mono ?_;rintro e w0 ⟨rfl,hw⟩;rw[hw];clear hw w0) | (go_at_call 234;refine hcut.mono ?_;rintro e w1 ⟨rfl,nq,rfl⟩));refine(ha _).mono ?_;rintro e w2 ⟨rfl,b1⟩;go_wp2_with (first | (go_at_call 195;refine(hb _).mono ?_;rintro e w7 ⟨rfl,b4⟩) | (go_at_call 235;refine(hrp _).mono ?_;rintro e w3 ⟨rfl,b2⟩) | (go_at_call 197;rw[HCAT.out];refine(hw _).mono ?_;rintro e w4 ⟨rfl,b3⟩) | (go_at_call 59;refine(hhp _).mono ?_;rintro e w0 ⟨rfl,a0⟩;rw[a0];clear a0 w0) | (go_at_call 196;refine(hsg _).mono ?_;rintro e w0 ⟨rfl,a0⟩;rw[a0];clear a0 w0));go_ret2;have a1:=(a0T w nq).trans (b1.mono (a0T w nq).size);have a4:=a1.trans (b4.mono a1.size);have a2:=a4.trans (b2.mono a4.size)
 exact⟨a0I (by rw[HV.out]) (by rw[HV.out]),a2.trans (b3.mono a2.size)⟩
end Go.Proofs.YtphmpkpcamgjeaaGreatDoor.Rx.Rd
namespace Go.Proofs.YtphmpkpcamgjeaaGreatDoor.Rx.Rd
open Go.ChangeShapes Go.WideShapes Go.ChangeAt Go.RowKit Go.Proofs.Tryz Go.Shelf
def cV (k n c:Int):Value:=.tuple #[.agg #[.int .i64 k,.int .i64 n,.string ⟨#[]⟩],.int .i64 c]
def rdB (l:List UInt8):Int×Bool:=if (l==[116,114,117,101])=true then(1,true) else if (l==[102,97,108,115,101])=true then(0,true) else(0,false)
def rdK (kind:Int) (s:ByteArray):Int×Bool:=if kind=1 then rdI s.data.toList else if kind=2 then rdD s.data.toList else if kind=4 then rdB s.data.toList else rdT s.data.toList
def ctK (kind:Int) (r:Int×Bool):Value:=if r.2=true then cV kind r.1 0 else cV 0 0 15
theorem castText_1 (s:ByteArray) (w:World) (hs:s.size<=1048576):Calls prog 223 #[.string s,.int .i64 1] w fun e w'=>e=.returned (ctK 1 (rdK 1 s))/\Below w.heap.size w w':=by
 have HR:Hid (rdK 1 s=rdI s.data.toList):=rfl;have hcon:=fun w=>readInt_impl s w hs;rw[HR.out];generalize rdI s.data.toList=r at *;obtain⟨r1,r2⟩:=r;simp only at hcon;have a1:=below_alloc w (.cells #[.int .i64 0,.int .i64 0,.string ⟨#[]⟩] 40);clear HR;cases r2
 .go_enter func223,ntmps223;go_wp2_with fail;refine(hcon _).mono ?_;rintro e w1 ⟨rfl,hb⟩;obtain⟨hc,hf⟩:=bcell hb
  have hz:w.heap.size<w1.heap.size:=by have:=hb.size;simp at this;omega
  have a0:Below w.heap.size w w1:=a1.trans (hb.mono (by simp));go_wp2;refine bodyPost_ret (v:=cV 0 0 15) (by simp[results,results223,go_sem,cV,zB,hc,hf,hz]) rfl ⟨rfl,?_⟩;exact((a0.setCell (Nat.le_refl _) _).setCell (Nat.le_refl _) _).setCell (Nat.le_refl _) _
 go_enter func223,ntmps223;go_wp2_with fail;refine(hcon _).mono ?_;rintro e w1 ⟨rfl,hb⟩;obtain⟨hc,hf⟩:=bcell hb
 have hz:w.heap.size<w1.heap.size:=by have:=hb.size;simp at this;omega
 have a0:Below w.heap.size w w1:=a1.trans (hb.mono (by simp));go_wp2;refine bodyPost_ret (v:=cV 1 r1 0) (by simp[results,results223,go_sem,cV,zB,hc,hf,hz]) rfl ⟨rfl,?_⟩;exact((a0.setCell (Nat.le_refl _) _).setCell (Nat.le_refl _) _).setCell (Nat.le_refl _) _
theorem castText_2 (s:ByteArray) (w:World) (hs:s.size<=1048576) (hM:ML w):Calls prog 223 #[.string s,.int .i64 2] w fun e w'=>e=.returned (ctK 2 (rdK 2 s))/\Below w.heap.size w w':=by
 have HR:Hid (rdK 2 s=rdD s.data.toList):=rfl;have hcon:=a6Q s (w.alloc (.cells #[.int .i64 0,.int .i64 0,.string ⟨#[]⟩] 40)) hs (hM.below (below_alloc _ _));rw[HR.out];generalize rdD s.data.toList=r at *;obtain⟨r1,r2⟩:=r;simp only at hcon;have a1:=below_alloc w (.cells #[.int .i64 0,.int .i64 0,.string ⟨#[]⟩] 40);clear HR;cases r2
 .go_enter func223,ntmps223;go_wp2_with fail;refine hcon.mono ?_;rintro e w1 ⟨rfl,hb⟩;obtain⟨hc,hf⟩:=bcell hb
  have hz:w.heap.size<w1.heap.size:=by have:=hb.size;simp at this;omega
  have a0:Below w.heap.size w w1:=a1.trans (hb.mono (by simp));go_wp2;refine bodyPost_ret (v:=cV 0 0 15) (by simp[results,results223,go_sem,cV,zB,hc,hf,hz]) rfl ⟨rfl,?_⟩;exact((a0.setCell (Nat.le_refl _) _).setCell (Nat.le_refl _) _).setCell (Nat.le_refl _) _
 go_enter func223,ntmps223;go_wp2_with fail;refine hcon.mono ?_;rintro e w1 ⟨rfl,hb⟩;obtain⟨hc,hf⟩:=bcell hb
 have hz:w.heap.size<w1.heap.size:=by have:=hb.size;simp at this;omega
 have a0:Below w.heap.size w w1:=a1.trans (hb.mono (by simp));go_wp2;refine bodyPost_ret (v:=cV 2 r1 0) (by simp[results,results223,go_sem,cV,zB,hc,hf,hz]) rfl ⟨rfl,?_⟩;exact((a0.setCell (Nat.le_refl _) _).setCell (Nat.le_refl _) _).setCell (Nat.le_refl _) _
end Go.Proofs.YtphmpkpcamgjeaaGreatDoor.Rx.Rd
namespace Go.Proofs.YtphmpkpcamgjeaaGreatDoor.Rx.Rd
open Go.ChangeShapes Go.WideShapes Go.ChangeAt Go.RowKit Go.Proofs.Tryz Go.Shelf
theorem a6U (s:ByteArray) (w:World) (hs:s.size<=1048576) :
 Calls prog 231 #[.string s] w fun e w'=>e=.returned (.tuple #[.int .i64 (rdT s.data.toList).1,.bool (rdT s.data.toList).2])/\Below w.heap.size w w':=by
 by_cases hz:s.size=10
 .have hzi:((s.size:Int) != 10)=false:=by simp;omega
  have h4:4<s.size:=by omega
  have h7:7<s.size:=by omega
  cases a0:(((s[4]'h4).toNat:Int) != 45)
  .cases a4:(((s[7]'h7).toNat:Int) != 45)
   .have HSH:Hid (shB s.data.toList=true):=hid (by unfold shB;rw[len_eq,a3N h4,a3N h7,a4K a0,a4K a4];simp[hz]);have l4:=b7O hz;have l2:=b7P hz;have l1:=b7Q hz
    have a3:((s.extract 0 4++s.extract 5 7)++s.extract 8 s.size).size=8:=by rw[<- len_eq,a6p];simp[l4,l2,l1]
    have zy:(s.extract 0 4).size=4:=by rw[<- len_eq,b2y];exact l4
    have zm:(s.extract 5 7).size=2:=by rw[<- len_eq,b2z];exact l2
    have zd:(s.extract 8 s.size).size=2:=by rw[<- len_eq,b2A];exact l1
    have har:=fun w=>a2s ((s.extract 0 4++s.extract 5 7)++s.extract 8 s.size) 8 w (by omega) (by omega)
    have haa:arD ((s.extract 0 4++s.extract 5 7)++s.extract 8 s.size).data.toList 8=dOk s.data.toList:=by
     rw[a6T (by rw[len_eq];omega) (by rw[len_eq];omega),a6p,a5d,a5d,Bool.and_assoc];rfl
    rw[haa] at har
    have HY:Hid (allD (dY s.data.toList)=true->∀ w,Calls prog 197 #[.string (s.extract 0 4)] w fun e w'=>e=.returned (.int .u64 (numL (dY s.data.toList):Nat))/\Below w.heap.size w w'):=fun h w=>by
     have:=a2V (s.extract 0 4) w (by omega) (by rw[b2y];exact h);rwa[b2y] at this
    have HM:Hid (allD (dM s.data.toList)=true->∀ w,Calls prog 197 #[.string (s.extract 5 7)] w fun e w'=>e=.returned (.int .u64 (numL (dM s.data.toList):Nat))/\Below w.heap.size w w'):=fun h w=>by
     have:=a2V (s.extract 5 7) w (by omega) (by rw[b2z];exact h);rwa[b2z] at this
    have HD:Hid (allD (dD s.data.toList)=true->∀ w,Calls prog 197 #[.string (s.extract 8 s.size)] w fun e w'=>e=.returned (.int .u64 (numL (dD s.data.toList):Nat))/\Below w.heap.size w w'):=fun h w=>by
     have:=a2V (s.extract 8 s.size) w (by omega) (by rw[b2A];exact h);rwa[b2A] at this
    have a5:4<=s.size:=by omega
    have a6:7<=s.size:=by omega
    have a7:8<=s.size:=by omega
    cases hok:dOk s.data.toList
    .have HV:Hid (rdT s.data.toList=(0,false)):=b3Y hok;rw[hok] at har;clear HSH HY HM HD haa l4 l2 l1 zy zm zd a3 hok hz;go_enter func231,ntmps231;go_wp2;go_quiet (fail);go_wp2_with (go_at_call 195;refine(har _).mono ?_;rintro e w1 ⟨rfl,b1⟩);go_ret2;exact⟨a0I (by rw[HV.out]) (by rw[HV.out]),(a0T _ _).trans (b1.mono (a0T _ _).size)⟩
    have hall:allD (dY s.data.toList)=true/\allD (dM s.data.toList)=true/\allD (dD s.data.toList)=true:=by simpa[dOk] using hok
    have a8:=b7R hall.1 l4;have a9:=b4b hall.2.1 l2;have b0:=b4b hall.2.2 l1;have cy:=HY.out hall.1;have cm:=HM.out hall.2.1;have cd:=HD.out hall.2.2;rw[hok] at har;have a1:Hid (vB (numL (dY s.data.toList)) (numL (dM s.data.toList)) (numL (dD s.data.toList))=false->rdT s.data.toList=(0,false)):=b3Z;have a2:Hid (vB (numL (dY s.data.toList)) (numL (dM s.data.toList)) (numL (dD s.data.toList))=true->rdT s.data.toList=(Days.num (numL (dY s.data.toList)) (numL (dM s.data.toList)) (numL (dD s.data.toList)),true)):=b4a HSH.out hok;generalize numL (dY s.data.toList)=y at *;generalize numL (dM s.data.toList)=m at *;generalize numL (dD s.data.toList)=d at *;clear HSH HY HM HD haa l4 l2 l1 zy zm zd a3 hok hall hz
    have yi:(y:Int)<10000:=by omega
    have mi:(m:Int)<100:=by omega
    have di:(d:Int)<100:=by omega
    cases hv:vB y m d
    .have HV:Hid (rdT s.data.toList=(0,false)):=a1.out hv;have hdo:=fun w=>Days.dateOf_impl_no y m d w (b9d hv);clear a1 a2 hv;go_enter func231,ntmps231;go_wp2;go_quiet (fail);go_wp2_with (first | (go_at_call 195;refine(har _).mono ?_;rintro e w1 ⟨rfl,b1⟩));refine(cy _).mono ?_;rintro e w2 ⟨rfl,b2⟩;go_wp2_with fail;refine(cm _).mono ?_;rintro e w3 ⟨rfl,b3⟩;go_wp2_with fail;refine(cd _).mono ?_;rintro e w4 ⟨rfl,b4⟩;go_wp2_with (go_at_call 236;refine(hdo _).mono ?_;rintro e w5 ⟨rfl,rfl⟩);go_ret2;exact⟨a0I (by rw[HV.out]) (by rw[HV.out];try rfl),chain (chain (chain (chain (a0T _ _) b1) b2) b3) b4⟩
    have HV:Hid (rdT s.data.toList=(Days.num y m d,true)):=a2.out hv;have hdo:=fun w=>Days.dateOf_impl_yes y m d w (b3X hv);clear a1 a2 hv;go_enter func231,ntmps231;go_wp2;go_quiet (fail);go_wp2_with (first | (go_at_call 195;refine(har _).mono ?_;rintro e w1 ⟨rfl,b1⟩));refine(cy _).mono ?_;rintro e w2 ⟨rfl,b2⟩;go_wp2_with fail;refine(cm _).mono ?_;rintro e w3 ⟨rfl,b3⟩;go_wp2_with fail;refine(cd _).mono ?_;rintro e w4 ⟨rfl,b4⟩;go_wp2_with (go_at_call 236;refine(hdo _).mono ?_;rintro e w5 ⟨rfl,rfl⟩);go_ret2;exact⟨a0I (by rw[HV.out]) (by rw[HV.out];try rfl),chain (chain (chain (chain (a0T _ _) b1) b2) b3) b4⟩
   have HV:Hid (rdT s.data.toList=(0,false)):=a4J (by unfold shB;rw[len_eq,a3N h4,a3N h7,a4K a0,a6S a4];simp);clear hz;go_enter func231,ntmps231;go_wp2;go_ret2;exact⟨a0I (by rw[HV.out]) (by rw[HV.out]),Below.refl _ _⟩
  have HV:Hid (rdT s.data.toList=(0,false)):=a4J (by unfold shB;rw[len_eq,a3N h4,a6S a0];simp);clear hz;go_enter func231,ntmps231;go_wp2;go_ret2;exact⟨a0I (by rw[HV.out]) (by rw[HV.out]),Below.refl _ _⟩
 have hzi:((s.size:Int) != 10)=true:=by simp;omega
 have HV:Hid (rdT s.data.toList=(0,false)):=a4J (by unfold shB;rw[len_eq];simp[hz]);go_enter func231,ntmps231;go_wp2;go_ret2;exact⟨a0I (by rw[HV.out]) (by rw[HV.out]),Below.refl _ _⟩
end Go.Proofs.YtphmpkpcamgjeaaGreatDoor.Rx.Rd
namespace Go.Proofs.YtphmpkpcamgjeaaGreatDoor.Rx.Rd
open Go.ChangeShapes Go.WideShapes Go.ChangeAt Go.RowKit Go.Proofs.Tryz Go.Shelf
theorem castText_5 (s:ByteArray) (w:World) (hs:s.size<=1048576):Calls prog 223 #[.string s,.int .i64 5] w fun e w'=>e=.returned (ctK 5 (rdK 5 s))/\Below w.heap.size w w':=by
 have HR:Hid (rdK 5 s=rdT s.data.toList):=rfl;have hcon:=fun w=>a6U s w hs;rw[HR.out];generalize rdT s.data.toList=r at *;obtain⟨r1,r2⟩:=r;simp only at hcon;have a1:=below_alloc w (.cells #[.int .i64 0,.int .i64 0,.string ⟨#[]⟩] 40);clear HR;cases r2
 .go_enter func223,ntmps223;go_wp2_with fail;refine(hcon _).mono ?_;rintro e w1 ⟨rfl,hb⟩;obtain⟨hc,hf⟩:=bcell hb
  have hz:w.heap.size<w1.heap.size:=by have:=hb.size;simp at this;omega
  have a0:Below w.heap.size w w1:=a1.trans (hb.mono (by simp));go_wp2;refine bodyPost_ret (v:=cV 0 0 15) (by simp[results,results223,go_sem,cV,zB,hc,hf,hz]) rfl ⟨rfl,?_⟩;exact((a0.setCell (Nat.le_refl _) _).setCell (Nat.le_refl _) _).setCell (Nat.le_refl _) _
 go_enter func223,ntmps223;go_wp2_with fail;refine(hcon _).mono ?_;rintro e w1 ⟨rfl,hb⟩;obtain⟨hc,hf⟩:=bcell hb
 have hz:w.heap.size<w1.heap.size:=by have:=hb.size;simp at this;omega
 have a0:Below w.heap.size w w1:=a1.trans (hb.mono (by simp));go_wp2;refine bodyPost_ret (v:=cV 5 r1 0) (by simp[results,results223,go_sem,cV,zB,hc,hf,hz]) rfl ⟨rfl,?_⟩;exact((a0.setCell (Nat.le_refl _) _).setCell (Nat.le_refl _) _).setCell (Nat.le_refl _) _
end Go.Proofs.YtphmpkpcamgjeaaGreatDoor.Rx.Rd
namespace Go.Proofs.YtphmpkpcamgjeaaGreatDoor.Rx.Rd
open Go.ChangeShapes Go.WideShapes Go.ChangeAt Go.RowKit Go.Proofs.Tryz Go.Shelf
theorem b5Q (t:ByteArray) (i:Nat):(t.extract 0 i).data.toList=t.data.toList.take i:=by rw[Lib.extract_data];simp
theorem b5R (t:ByteArray) (i:Nat):(t.extract i t.size).data.toList=t.data.toList.drop i:=by
 rw[Lib.extract_data,List.take_of_length_le (by rw[List.length_drop,len_eq];exact Nat.le_refl _)]
def WP (t wh pa:ByteArray):Prop:=(ptL t.data.toList=(wh.data.toList,pa.data.toList,true))\/(ptL t.data.toList=(t.data.toList,[],false)/\wh=t/\pa=⟨#[48]⟩)
theorem b4e {t:ByteArray} {i:Nat} (hi:i<t.size) (hn:∀ j,j<i->t.data.toList[j]?≠some 46) (hb:((t[i]'hi).toNat:Int)=46):WP t (t.extract 0 i) (t.extract (i+1) t.size):=by
 left
 have e:t.data.toList[i]?=some 46:=by
  rw[List.getElem?_eq_getElem (by rw[len_eq];exact hi)];have:t[i]=46:=UInt8.toNat_inj.1 (by have:(46:UInt8).toNat=46:=rfl;omega);exact congrArg some this
 rw[ptL_hit hn e,b5Q,b5R]
theorem b0o {t:ByteArray} (hn:∀ j,j<t.size->t.data.toList[j]?≠some 46):WP t t ⟨#[48]⟩:=
  .inr ⟨b4R (fun j hj=>hn j (by rw[<- len_eq];exact hj)),rfl,rfl⟩
theorem b0p {t:ByteArray} {i:Nat} (hi:i<t.size) (hn:∀ j,j<i->t.data.toList[j]?≠some 46) (hb:¬ ((t[i]'hi).toNat:Int)=46):∀ j,j<i+1->t.data.toList[j]?≠some 46:=by
 intro j hj;by_cases e:j=i
 .subst e;rw[List.getElem?_eq_getElem (by rw[len_eq];exact hi)];intro h;have h2:t[j]=46:=Option.some.inj h;rw[h2] at hb;exact hb rfl
 exact hn j (by omega)
theorem b2C {t wh pa:ByteArray} (h:WP t wh pa) (ht:t.size<=1048576):wh.size<=1048576/\pa.size<=1048576:=by
 rcases h with h | ⟨_,rfl,rfl⟩
 .have hl:=b6s t.data.toList;rw[h] at hl;simp only[len_eq] at hl;omega
 exact⟨ht,by decide⟩
theorem b2D {t wh pa:ByteArray} (h:WP t wh pa):okD (ptL t.data.toList)=(arD wh.data.toList 14&&arD pa.data.toList 4)/\((arD wh.data.toList 14&&arD pa.data.toList 4)=true->(unitsL (ptL t.data.toList).1 (ptL t.data.toList).2.1=dgN wh.data.toList 14*10000+dgN pa.data.toList 4*10^(4-pa.size)/\1<=pa.size/\pa.size<=4/\dgN wh.data.toList 14<100000000000000/\dgN pa.data.toList 4<10^pa.size)):=by
 have key:∀ l:List UInt8,∀ k,arD l k=true->dgN l k=numL l:=fun l k h=>by unfold dgN;rw[if_pos h]
 have big:(10:Nat)^14=100000000000000:=by decide
 rcases h with h | ⟨h,rfl,rfl⟩
 .rw[h];refine⟨by simp[okD],fun g=>?_⟩;rw[Bool.and_eq_true] at g;have g1:=a4a g.2;rw[len_eq] at g1;rw[key _ _ g.1,key _ _ g.2];have a0:=b0I g.1;have hpa:=a3Q g1.1;rw[len_eq] at hpa;rw[big] at a0;refine⟨by unfold unitsL;rw[len_eq],g1.2.1,g1.2.2,a0,hpa⟩
 rw[h]
 have e0:arD (⟨#[48]⟩:ByteArray).data.toList 4=true:=by decide
 refine⟨by simp[okD,e0],fun g=>?_⟩;rw[Bool.and_eq_true] at g;rw[key _ _ g.1,key _ _ g.2];have a0:=b0I g.1;rw[big] at a0
 have e1:numL (⟨#[48]⟩:ByteArray).data.toList=0:=by decide
 rw[e1];refine⟨by unfold unitsL;simp[numL],by decide,by decide,a0,by decide⟩
theorem a3J {b:Nat} {p k:Nat} (h:k<4):b*10^(k-p)*10=b*10^(k+1-p)\/k<p:=by
 by_cases c:k<p
 .exact .inr c
 left;rw[show k+1-p=(k-p)+1 by omega,Nat.pow_succ,Nat.mul_assoc]
theorem a4L {b p k:Nat} (hb:b<10^p) (hp:p<=k) (hk:k<=4):b*10^(k-p)<10000:=by
 have h1:10^p*10^(k-p)=10^k:=by rw[<- Nat.pow_add,show p+(k-p)=k by omega]
 have h2:(b+1)*10^(k-p)<=10^p*10^(k-p):=Nat.mul_le_mul_right _ hb;have h3:(10:Nat)^k<=10^4:=Nat.pow_le_pow_right (by omega) hk;have h4:1<=10^(k-p):=Nat.pow_pos (by omega);rw[h1,Nat.add_mul,Nat.one_mul] at h2
 have h5:(10:Nat)^4=10000:=by decide
 omega
end Go.Proofs.YtphmpkpcamgjeaaGreatDoor.Rx.Rd
