import Derived.Test.YtphmpkpcamgjeaaGreatDoorXAA
import Derived.Test.YtphmpkpcamgjeaaGreatDoorXAM
set_option linter.unusedVariables false
set_option linter.unusedSimpArgs false
set_option maxRecDepth 100000
set_option maxHeartbeats 16000000
namespace Go.Proofs.YtphmpkpcamgjeaaGreatDoor.Rx.Rd
open Go.ChangeShapes Go.WideShapes Go.ChangeAt Go.RowKit Go.Proofs.Tryz Go.Shelf
theorem b0r (s:ByteArray) (w:World) (hs:s.size<=1048576) (h0:0<s.size) (hb:(((s[0]'h0).toNat:Int)==45)=false) (rdV:Int×Bool) (HVN:okD (ptL s.data.toList)=false->rdV=(0,false)) (HVY:okD (ptL s.data.toList)=true->rdV=((unitsL (ptL s.data.toList).1 (ptL s.data.toList).2.1:Int),true)) :
 Calls prog 176 #[.string s] w fun e w'=>e=.returned (.tuple #[.int .i64 rdV.1,.bool rdV.2])/\Below w.heap.size w w':=by
 have b1:(0:Int)<s.size:=by omega
 have ht:s.size<=1048576:=by have:=tail_size s;omega
 go_enter func176,ntmps176;go_wp2;go_loop [5,6,7] (fun a b i=>∃ k:Nat,k<=s.size/\a=.string s/\b=.string ⟨#[48]⟩/\i=.int .i64 k/\Hid (∀ j,j<k->s.data.toList[j]?≠some 46)) (fun _ _ i=>s.size-(intOf i).toNat)
 case atStart=>exact⟨0,Nat.zero_le _,rfl,rfl,rfl,fun j h=>absurd h (Nat.not_lt_zero _)⟩
 case round=>
 obtain⟨k,hkl,rfl,rfl,rfl,HA⟩:=hrel;by_cases hp:k<s.size
 .have hlti:(k:Int)<s.size:=by omega
  by_cases hd:((s[k]'hp).toNat:Int)=46
  .have HW:Hid (WP s (s.extract 0 k) (s.extract (k+1) s.size)):=b4e hp HA.out hd
   have hdb:(((s[k]'hp).toNat:Int)==46)=true:=by rw[beq_iff_eq];exact hd
   clear hd HA;have a6:k+1<=s.size:=hp
   have a7:(k:Int)+1<=s.size:=by omega
   generalize hwh:s.extract 0 k=wh at *;generalize hpa:s.extract (k+1) s.size=pa at *;have HWH:Hid (s.extract 0 k=wh):=hwh;have HPA:Hid (s.extract (k+1) s.size=pa):=hpa;clear hwh hpa;obtain⟨z1,z2⟩:=b2C HW.out ht;obtain⟨a5,a2⟩:=b2D HW.out;have a0:Hid (okD (ptL s.data.toList)=false->rdV=(0,false)):=HVN;have a1:Hid (okD (ptL s.data.toList)=true->rdV=((unitsL (ptL s.data.toList).1 (ptL s.data.toList).2.1:Int),true)):=HVY;rw[a5] at a0 a1;have a3:=fun w=>a0B wh 14 w z1 (by omega);have a4:=fun w=>a0B pa 4 w z2 (by omega);generalize unitsL (ptL s.data.toList).1 (ptL s.data.toList).2.1=U at *;generalize dgN wh.data.toList 14=xa at *;generalize dgN pa.data.toList 4=xb at *;generalize arD wh.data.toList 14=o1 at *;generalize arD pa.data.toList 4=o2 at *;clear HW a5 HVN HVY;cases o1
   .have HV:Hid (rdV=(0,false)):=a0.out rfl;clear a0 a1 a2;go_wp2_with fail;rw[HWH.out];refine(a3 _).mono ?_;rintro e w1 ⟨rfl,hw⟩;rw[hw];clear hw w1;go_wp2_with fail;rw[HPA.out];refine(a4 _).mono ?_;rintro e w1 ⟨rfl,hw⟩;rw[hw];clear hw w1;go_wp2;go_ret2;exact⟨a0I (by rw[HV.out]) (by rw[HV.out]),Below.refl _ _⟩
   cases o2
   .have HV:Hid (rdV=(0,false)):=a0.out rfl;clear a0 a1 a2;go_wp2_with fail;rw[HWH.out];refine(a3 _).mono ?_;rintro e w1 ⟨rfl,hw⟩;rw[hw];clear hw w1;go_wp2_with fail;rw[HPA.out];refine(a4 _).mono ?_;rintro e w1 ⟨rfl,hw⟩;rw[hw];clear hw w1;go_wp2;go_ret2;exact⟨a0I (by rw[HV.out]) (by rw[HV.out]),Below.refl _ _⟩
   have HV:Hid (rdV=((U:Int),true)):=a1.out rfl;obtain⟨q1,q2,q3,q4,q5⟩:=a2 rfl;have HU:Hid (U=xa*10000+xb*10^(4-pa.size)):=q1;have HB:Hid (xb<10^pa.size):=q5;have a8:Hid (pa.size<=4):=q3;clear a0 a1 a2 q1 q2 q3 q5
   have hxa:(xa:Int)<100000000000000:=by omega
   clear q4;go_wp2_with fail;rw[HWH.out];refine(a3 _).mono ?_;rintro e w1 ⟨rfl,hw⟩;rw[hw];clear hw w1;go_wp2_with fail;rw[HPA.out];refine(a4 _).mono ?_;rintro e w1 ⟨rfl,hw⟩;rw[hw];clear hw w1;clear a3 a4;clear HPA HWH;go_wp2;go_loop [10,12] (fun b i=>∃ k x:Nat,pa.size<=k/\k<=4/\i=.int .i64 k/\b=.int .u64 x/\Hid (x=xb*10^(k-pa.size))) (fun _ i=>4-(intOf i).toNat)
   case atStart=>exact⟨pa.size,xb,Nat.le_refl _,a8.out,rfl,rfl,(by simp:xb=xb*10^(pa.size-pa.size))⟩
   case round=>
   obtain⟨k,x,a6,a7,rfl,rfl,HX⟩:=hrel
   have hx:x<10000:=by rw[HX.out];exact a4L HB.out a6 a7
   have hxi:(x:Int)<10000:=by omega
   by_cases hlt:k<4
   .have hlti:(k:Int)<4:=by omega
    have a9:Hid (x*10=xb*10^(k+1-pa.size)):=hid (by rw[HX.out];rcases a3J (b:=xb) (p:=pa.size) hlt with h | h;exact h;omega);clear HX;go_wp2;go_round
    case rel=>exact⟨k+1,x*10,by omega,by omega,by go_num,by go_light;congr 1;omega,a9⟩
    case measure=>simp[intOf];omega
   have b0:k=4:=by omega
   subst b0
   have hlti:¬ ((4:Nat):Int)<4:=by omega
   have HUU:Hid ((U:Int)=xa*10000+x):=hid (by rw[HU.out,HX.out];push_cast;rfl);clear HX HU HB;go_wp2;go_ret2;exact⟨a0I (by rw[HV.out];simp only;rw[HUU.out]) (by rw[HV.out]),Below.refl _ _⟩
  have HN:Hid (∀ j,j<k+1->s.data.toList[j]?≠some 46):=b0p hp HA.out hd
  have hdb:(((s[k]'hp).toNat:Int)==46)=false:=by rw[beq_eq_false_iff_ne];exact hd
  clear hd HA;go_wp2;go_round
  case rel=>exact⟨k+1,by omega,rfl,rfl,by go_num,HN⟩
  case measure=>simp[intOf];omega
 have hkn:k=s.size:=by omega
 subst hkn
 have hlti:¬ (s.size:Int)<s.size:=by omega
 have HW:Hid (WP s s ⟨#[48]⟩):=b0o HA.out;clear HA;obtain⟨z1,z2⟩:=b2C HW.out ht;obtain⟨a5,a2⟩:=b2D HW.out;have a0:Hid (okD (ptL s.data.toList)=false->rdV=(0,false)):=HVN;have a1:Hid (okD (ptL s.data.toList)=true->rdV=((unitsL (ptL s.data.toList).1 (ptL s.data.toList).2.1:Int),true)):=HVY;rw[a5] at a0 a1;have a3:=fun w=>a0B s 14 w z1 (by omega);have a4:=fun w=>a0B (⟨#[48]⟩:ByteArray) 4 w z2 (by omega);generalize unitsL (ptL s.data.toList).1 (ptL s.data.toList).2.1=U at *;generalize dgN s.data.toList 14=xa at *;generalize dgN (⟨#[48]⟩:ByteArray).data.toList 4=xb at *;generalize arD s.data.toList 14=o1 at *;generalize arD (⟨#[48]⟩:ByteArray).data.toList 4=o2 at *;clear HW a5 HVN HVY;cases o1
 .have HV:Hid (rdV=(0,false)):=a0.out rfl;clear a0 a1 a2;go_wp2_with fail;refine(a3 _).mono ?_;rintro e w1 ⟨rfl,hw⟩;rw[hw];clear hw w1;go_wp2_with fail;refine(a4 _).mono ?_;rintro e w1 ⟨rfl,hw⟩;rw[hw];clear hw w1;go_wp2;go_ret2;exact⟨a0I (by rw[HV.out]) (by rw[HV.out]),Below.refl _ _⟩
 cases o2
 .have HV:Hid (rdV=(0,false)):=a0.out rfl;clear a0 a1 a2;go_wp2_with fail;refine(a3 _).mono ?_;rintro e w1 ⟨rfl,hw⟩;rw[hw];clear hw w1;go_wp2_with fail;refine(a4 _).mono ?_;rintro e w1 ⟨rfl,hw⟩;rw[hw];clear hw w1;go_wp2;go_ret2;exact⟨a0I (by rw[HV.out]) (by rw[HV.out]),Below.refl _ _⟩
 have HV:Hid (rdV=((U:Int),true)):=a1.out rfl;obtain⟨q1,q2,q3,q4,q5⟩:=a2 rfl;have HU:Hid (U=xa*10000+xb*10^(4-1)):=q1;have HB:Hid (xb<10^1):=q5;have a8:Hid (1<=4):=q3;clear a0 a1 a2 q1 q2 q3 q5
 have hxa:(xa:Int)<100000000000000:=by omega
 clear q4;go_wp2_with fail;refine(a3 _).mono ?_;rintro e w1 ⟨rfl,hw⟩;rw[hw];clear hw w1;go_wp2_with fail;refine(a4 _).mono ?_;rintro e w1 ⟨rfl,hw⟩;rw[hw];clear hw w1;clear a3 a4;go_wp2;go_loop [10,12] (fun b i=>∃ k x:Nat,1<=k/\k<=4/\i=.int .i64 k/\b=.int .u64 x/\Hid (x=xb*10^(k-1))) (fun _ i=>4-(intOf i).toNat)
 case atStart=>exact⟨1,xb,Nat.le_refl _,a8.out,rfl,rfl,(by simp:xb=xb*10^(1-1))⟩
 case round=>
 obtain⟨k,x,a6,a7,rfl,rfl,HX⟩:=hrel
 have hx:x<10000:=by rw[HX.out];exact a4L HB.out a6 a7
 have hxi:(x:Int)<10000:=by omega
 by_cases hlt:k<4
 .have hlti:(k:Int)<4:=by omega
  have a9:Hid (x*10=xb*10^(k+1-1)):=hid (by rw[HX.out];rcases a3J (b:=xb) (p:=1) hlt with h | h;exact h;omega);clear HX;go_wp2;go_round
  case rel=>exact⟨k+1,x*10,by omega,by omega,by go_num,by go_light;congr 1;omega,a9⟩
  case measure=>simp[intOf];omega
 have b0:k=4:=by omega
 subst b0
 have hlti:¬ ((4:Nat):Int)<4:=by omega
 have HUU:Hid ((U:Int)=xa*10000+x):=hid (by rw[HU.out,HX.out];push_cast;rfl);clear HX HU HB;go_wp2;go_ret2;exact⟨a0I (by rw[HV.out];simp only;rw[HUU.out]) (by rw[HV.out]),Below.refl _ _⟩
end Go.Proofs.YtphmpkpcamgjeaaGreatDoor.Rx.Rd
namespace Go.Proofs.YtphmpkpcamgjeaaGreatDoor.Rx.Rd
open Go.ChangeShapes Go.WideShapes Go.ChangeAt Go.RowKit Go.Proofs.Tryz Go.Shelf
theorem b0q (s:ByteArray) (w:World) (hs:s.size<=1048576) (h0:0<s.size) (hb:(((s[0]'h0).toNat:Int)==45)=true) (rdV:Int×Bool) (HVN:okD (ptL (s.extract 1 s.size).data.toList)=false->rdV=(0,false)) (HVY:okD (ptL (s.extract 1 s.size).data.toList)=true->rdV=(-(unitsL (ptL (s.extract 1 s.size).data.toList).1 (ptL (s.extract 1 s.size).data.toList).2.1:Int),true)) :
 Calls prog 176 #[.string s] w fun e w'=>e=.returned (.tuple #[.int .i64 rdV.1,.bool rdV.2])/\Below w.heap.size w w':=by
 have b1:(0:Int)<s.size:=by omega
 have ht:(s.extract 1 s.size).size<=1048576:=by have:=tail_size s;omega
 go_enter func176,ntmps176;go_wp2;generalize s.extract 1 s.size=t at *;go_loop [5,6,7] (fun a b i=>∃ k:Nat,k<=t.size/\a=.string t/\b=.string ⟨#[48]⟩/\i=.int .i64 k/\Hid (∀ j,j<k->t.data.toList[j]?≠some 46)) (fun _ _ i=>t.size-(intOf i).toNat)
 case atStart=>exact⟨0,Nat.zero_le _,rfl,rfl,rfl,fun j h=>absurd h (Nat.not_lt_zero _)⟩
 case round=>
 obtain⟨k,hkl,rfl,rfl,rfl,HA⟩:=hrel;by_cases hp:k<t.size
 .have hlti:(k:Int)<t.size:=by omega
  by_cases hd:((t[k]'hp).toNat:Int)=46
  .have HW:Hid (WP t (t.extract 0 k) (t.extract (k+1) t.size)):=b4e hp HA.out hd
   have hdb:(((t[k]'hp).toNat:Int)==46)=true:=by rw[beq_iff_eq];exact hd
   clear hd HA;have a6:k+1<=t.size:=hp
   have a7:(k:Int)+1<=t.size:=by omega
   generalize hwh:t.extract 0 k=wh at *;generalize hpa:t.extract (k+1) t.size=pa at *;have HWH:Hid (t.extract 0 k=wh):=hwh;have HPA:Hid (t.extract (k+1) t.size=pa):=hpa;clear hwh hpa;obtain⟨z1,z2⟩:=b2C HW.out ht;obtain⟨a5,a2⟩:=b2D HW.out;have a0:Hid (okD (ptL t.data.toList)=false->rdV=(0,false)):=HVN;have a1:Hid (okD (ptL t.data.toList)=true->rdV=(-(unitsL (ptL t.data.toList).1 (ptL t.data.toList).2.1:Int),true)):=HVY;rw[a5] at a0 a1;have a3:=fun w=>a0B wh 14 w z1 (by omega);have a4:=fun w=>a0B pa 4 w z2 (by omega);generalize unitsL (ptL t.data.toList).1 (ptL t.data.toList).2.1=U at *;generalize dgN wh.data.toList 14=xa at *;generalize dgN pa.data.toList 4=xb at *;generalize arD wh.data.toList 14=o1 at *;generalize arD pa.data.toList 4=o2 at *;clear HW a5 HVN HVY;cases o1
   .have HV:Hid (rdV=(0,false)):=a0.out rfl;clear a0 a1 a2;go_wp2_with fail;rw[HWH.out];refine(a3 _).mono ?_;rintro e w1 ⟨rfl,hw⟩;rw[hw];clear hw w1;go_wp2_with fail;rw[HPA.out];refine(a4 _).mono ?_;rintro e w1 ⟨rfl,hw⟩;rw[hw];clear hw w1;go_wp2;go_ret2;exact⟨a0I (by rw[HV.out]) (by rw[HV.out]),Below.refl _ _⟩
   cases o2
   .have HV:Hid (rdV=(0,false)):=a0.out rfl;clear a0 a1 a2;go_wp2_with fail;rw[HWH.out];refine(a3 _).mono ?_;rintro e w1 ⟨rfl,hw⟩;rw[hw];clear hw w1;go_wp2_with fail;rw[HPA.out];refine(a4 _).mono ?_;rintro e w1 ⟨rfl,hw⟩;rw[hw];clear hw w1;go_wp2;go_ret2;exact⟨a0I (by rw[HV.out]) (by rw[HV.out]),Below.refl _ _⟩
   have HV:Hid (rdV=(-(U:Int),true)):=a1.out rfl;obtain⟨q1,q2,q3,q4,q5⟩:=a2 rfl;have HU:Hid (U=xa*10000+xb*10^(4-pa.size)):=q1;have HB:Hid (xb<10^pa.size):=q5;have a8:Hid (pa.size<=4):=q3;clear a0 a1 a2 q1 q2 q3 q5
   have hxa:(xa:Int)<100000000000000:=by omega
   clear q4;go_wp2_with fail;rw[HWH.out];refine(a3 _).mono ?_;rintro e w1 ⟨rfl,hw⟩;rw[hw];clear hw w1;go_wp2_with fail;rw[HPA.out];refine(a4 _).mono ?_;rintro e w1 ⟨rfl,hw⟩;rw[hw];clear hw w1;clear a3 a4;clear HPA HWH;go_wp2;go_loop [10,12] (fun b i=>∃ k x:Nat,pa.size<=k/\k<=4/\i=.int .i64 k/\b=.int .u64 x/\Hid (x=xb*10^(k-pa.size))) (fun _ i=>4-(intOf i).toNat)
   case atStart=>exact⟨pa.size,xb,Nat.le_refl _,a8.out,rfl,rfl,(by simp:xb=xb*10^(pa.size-pa.size))⟩
   case round=>
   obtain⟨k,x,a6,a7,rfl,rfl,HX⟩:=hrel
   have hx:x<10000:=by rw[HX.out];exact a4L HB.out a6 a7
   have hxi:(x:Int)<10000:=by omega
   by_cases hlt:k<4
   .have hlti:(k:Int)<4:=by omega
    have a9:Hid (x*10=xb*10^(k+1-pa.size)):=hid (by rw[HX.out];rcases a3J (b:=xb) (p:=pa.size) hlt with h | h;exact h;omega);clear HX;go_wp2;go_round
    case rel=>exact⟨k+1,x*10,by omega,by omega,by go_num,by go_light;congr 1;omega,a9⟩
    case measure=>simp[intOf];omega
   have b0:k=4:=by omega
   subst b0
   have hlti:¬ ((4:Nat):Int)<4:=by omega
   have HUU:Hid ((U:Int)=xa*10000+x):=hid (by rw[HU.out,HX.out];push_cast;rfl);clear HX HU HB;go_wp2;go_ret2;exact⟨a0I (by rw[HV.out];simp only;rw[HUU.out]) (by rw[HV.out]),Below.refl _ _⟩
  have HN:Hid (∀ j,j<k+1->t.data.toList[j]?≠some 46):=b0p hp HA.out hd
  have hdb:(((t[k]'hp).toNat:Int)==46)=false:=by rw[beq_eq_false_iff_ne];exact hd
  clear hd HA;go_wp2;go_round
  case rel=>exact⟨k+1,by omega,rfl,rfl,by go_num,HN⟩
  case measure=>simp[intOf];omega
 have hkn:k=t.size:=by omega
 subst hkn
 have hlti:¬ (t.size:Int)<t.size:=by omega
 have HW:Hid (WP t t ⟨#[48]⟩):=b0o HA.out;clear HA;obtain⟨z1,z2⟩:=b2C HW.out ht;obtain⟨a5,a2⟩:=b2D HW.out;have a0:Hid (okD (ptL t.data.toList)=false->rdV=(0,false)):=HVN;have a1:Hid (okD (ptL t.data.toList)=true->rdV=(-(unitsL (ptL t.data.toList).1 (ptL t.data.toList).2.1:Int),true)):=HVY;rw[a5] at a0 a1;have a3:=fun w=>a0B t 14 w z1 (by omega);have a4:=fun w=>a0B (⟨#[48]⟩:ByteArray) 4 w z2 (by omega);generalize unitsL (ptL t.data.toList).1 (ptL t.data.toList).2.1=U at *;generalize dgN t.data.toList 14=xa at *;generalize dgN (⟨#[48]⟩:ByteArray).data.toList 4=xb at *;generalize arD t.data.toList 14=o1 at *;generalize arD (⟨#[48]⟩:ByteArray).data.toList 4=o2 at *;clear HW a5 HVN HVY;cases o1
 .have HV:Hid (rdV=(0,false)):=a0.out rfl;clear a0 a1 a2;go_wp2_with fail;refine(a3 _).mono ?_;rintro e w1 ⟨rfl,hw⟩;rw[hw];clear hw w1;go_wp2_with fail;refine(a4 _).mono ?_;rintro e w1 ⟨rfl,hw⟩;rw[hw];clear hw w1;go_wp2;go_ret2;exact⟨a0I (by rw[HV.out]) (by rw[HV.out]),Below.refl _ _⟩
 cases o2
 .have HV:Hid (rdV=(0,false)):=a0.out rfl;clear a0 a1 a2;go_wp2_with fail;refine(a3 _).mono ?_;rintro e w1 ⟨rfl,hw⟩;rw[hw];clear hw w1;go_wp2_with fail;refine(a4 _).mono ?_;rintro e w1 ⟨rfl,hw⟩;rw[hw];clear hw w1;go_wp2;go_ret2;exact⟨a0I (by rw[HV.out]) (by rw[HV.out]),Below.refl _ _⟩
 have HV:Hid (rdV=(-(U:Int),true)):=a1.out rfl;obtain⟨q1,q2,q3,q4,q5⟩:=a2 rfl;have HU:Hid (U=xa*10000+xb*10^(4-1)):=q1;have HB:Hid (xb<10^1):=q5;have a8:Hid (1<=4):=q3;clear a0 a1 a2 q1 q2 q3 q5
 have hxa:(xa:Int)<100000000000000:=by omega
 clear q4;go_wp2_with fail;refine(a3 _).mono ?_;rintro e w1 ⟨rfl,hw⟩;rw[hw];clear hw w1;go_wp2_with fail;refine(a4 _).mono ?_;rintro e w1 ⟨rfl,hw⟩;rw[hw];clear hw w1;clear a3 a4;go_wp2;go_loop [10,12] (fun b i=>∃ k x:Nat,1<=k/\k<=4/\i=.int .i64 k/\b=.int .u64 x/\Hid (x=xb*10^(k-1))) (fun _ i=>4-(intOf i).toNat)
 case atStart=>exact⟨1,xb,Nat.le_refl _,a8.out,rfl,rfl,(by simp:xb=xb*10^(1-1))⟩
 case round=>
 obtain⟨k,x,a6,a7,rfl,rfl,HX⟩:=hrel
 have hx:x<10000:=by rw[HX.out];exact a4L HB.out a6 a7
 have hxi:(x:Int)<10000:=by omega
 by_cases hlt:k<4
 .have hlti:(k:Int)<4:=by omega
  have a9:Hid (x*10=xb*10^(k+1-1)):=hid (by rw[HX.out];rcases a3J (b:=xb) (p:=1) hlt with h | h;exact h;omega);clear HX;go_wp2;go_round
  case rel=>exact⟨k+1,x*10,by omega,by omega,by go_num,by go_light;congr 1;omega,a9⟩
  case measure=>simp[intOf];omega
 have b0:k=4:=by omega
 subst b0
 have hlti:¬ ((4:Nat):Int)<4:=by omega
 have HUU:Hid ((U:Int)=xa*10000+x):=hid (by rw[HU.out,HX.out];push_cast;rfl);clear HX HU HB;go_wp2;go_ret2;exact⟨a0I (by rw[HV.out];simp only;rw[HUU.out]) (by rw[HV.out]),Below.refl _ _⟩
end Go.Proofs.YtphmpkpcamgjeaaGreatDoor.Rx.Rd
namespace Go.Proofs.YtphmpkpcamgjeaaGreatDoor.Rx.Rd
open Go.ChangeShapes Go.WideShapes Go.ChangeAt Go.RowKit Go.Proofs.Tryz Go.Shelf
theorem b0s (s:ByteArray) (w:World) (hs:s.size<=1048576) (h0:¬ 0<s.size) (rdV:Int×Bool) (HVN:okD (ptL s.data.toList)=false->rdV=(0,false)) (HVY:okD (ptL s.data.toList)=true->rdV=((unitsL (ptL s.data.toList).1 (ptL s.data.toList).2.1:Int),true)) :
 Calls prog 176 #[.string s] w fun e w'=>e=.returned (.tuple #[.int .i64 rdV.1,.bool rdV.2])/\Below w.heap.size w w':=by
 have b1:¬ (0:Int)<s.size:=by omega
 have ht:s.size<=1048576:=by have:=tail_size s;omega
 go_enter func176,ntmps176;go_wp2;go_loop [5,6,7] (fun a b i=>∃ k:Nat,k<=s.size/\a=.string s/\b=.string ⟨#[48]⟩/\i=.int .i64 k/\Hid (∀ j,j<k->s.data.toList[j]?≠some 46)) (fun _ _ i=>s.size-(intOf i).toNat)
 case atStart=>exact⟨0,Nat.zero_le _,rfl,rfl,rfl,fun j h=>absurd h (Nat.not_lt_zero _)⟩
 case round=>
 obtain⟨k,hkl,rfl,rfl,rfl,HA⟩:=hrel;by_cases hp:k<s.size
 .have hlti:(k:Int)<s.size:=by omega
  by_cases hd:((s[k]'hp).toNat:Int)=46
  .have HW:Hid (WP s (s.extract 0 k) (s.extract (k+1) s.size)):=b4e hp HA.out hd
   have hdb:(((s[k]'hp).toNat:Int)==46)=true:=by rw[beq_iff_eq];exact hd
   clear hd HA;have a6:k+1<=s.size:=hp
   have a7:(k:Int)+1<=s.size:=by omega
   generalize hwh:s.extract 0 k=wh at *;generalize hpa:s.extract (k+1) s.size=pa at *;have HWH:Hid (s.extract 0 k=wh):=hwh;have HPA:Hid (s.extract (k+1) s.size=pa):=hpa;clear hwh hpa;obtain⟨z1,z2⟩:=b2C HW.out ht;obtain⟨a5,a2⟩:=b2D HW.out;have a0:Hid (okD (ptL s.data.toList)=false->rdV=(0,false)):=HVN;have a1:Hid (okD (ptL s.data.toList)=true->rdV=((unitsL (ptL s.data.toList).1 (ptL s.data.toList).2.1:Int),true)):=HVY;rw[a5] at a0 a1;have a3:=fun w=>a0B wh 14 w z1 (by omega);have a4:=fun w=>a0B pa 4 w z2 (by omega);generalize unitsL (ptL s.data.toList).1 (ptL s.data.toList).2.1=U at *;generalize dgN wh.data.toList 14=xa at *;generalize dgN pa.data.toList 4=xb at *;generalize arD wh.data.toList 14=o1 at *;generalize arD pa.data.toList 4=o2 at *;clear HW a5 HVN HVY;cases o1
   .have HV:Hid (rdV=(0,false)):=a0.out rfl;clear a0 a1 a2;go_wp2_with fail;rw[HWH.out];refine(a3 _).mono ?_;rintro e w1 ⟨rfl,hw⟩;rw[hw];clear hw w1;go_wp2_with fail;rw[HPA.out];refine(a4 _).mono ?_;rintro e w1 ⟨rfl,hw⟩;rw[hw];clear hw w1;go_wp2;go_ret2;exact⟨a0I (by rw[HV.out]) (by rw[HV.out]),Below.refl _ _⟩
   cases o2
   .have HV:Hid (rdV=(0,false)):=a0.out rfl;clear a0 a1 a2;go_wp2_with fail;rw[HWH.out];refine(a3 _).mono ?_;rintro e w1 ⟨rfl,hw⟩;rw[hw];clear hw w1;go_wp2_with fail;rw[HPA.out];refine(a4 _).mono ?_;rintro e w1 ⟨rfl,hw⟩;rw[hw];clear hw w1;go_wp2;go_ret2;exact⟨a0I (by rw[HV.out]) (by rw[HV.out]),Below.refl _ _⟩
   have HV:Hid (rdV=((U:Int),true)):=a1.out rfl;obtain⟨q1,q2,q3,q4,q5⟩:=a2 rfl;have HU:Hid (U=xa*10000+xb*10^(4-pa.size)):=q1;have HB:Hid (xb<10^pa.size):=q5;have a8:Hid (pa.size<=4):=q3;clear a0 a1 a2 q1 q2 q3 q5
   have hxa:(xa:Int)<100000000000000:=by omega
   clear q4;go_wp2_with fail;rw[HWH.out];refine(a3 _).mono ?_;rintro e w1 ⟨rfl,hw⟩;rw[hw];clear hw w1;go_wp2_with fail;rw[HPA.out];refine(a4 _).mono ?_;rintro e w1 ⟨rfl,hw⟩;rw[hw];clear hw w1;clear a3 a4;clear HPA HWH;go_wp2;go_loop [10,12] (fun b i=>∃ k x:Nat,pa.size<=k/\k<=4/\i=.int .i64 k/\b=.int .u64 x/\Hid (x=xb*10^(k-pa.size))) (fun _ i=>4-(intOf i).toNat)
   case atStart=>exact⟨pa.size,xb,Nat.le_refl _,a8.out,rfl,rfl,(by simp:xb=xb*10^(pa.size-pa.size))⟩
   case round=>
   obtain⟨k,x,a6,a7,rfl,rfl,HX⟩:=hrel
   have hx:x<10000:=by rw[HX.out];exact a4L HB.out a6 a7
   have hxi:(x:Int)<10000:=by omega
   by_cases hlt:k<4
   .have hlti:(k:Int)<4:=by omega
    have a9:Hid (x*10=xb*10^(k+1-pa.size)):=hid (by rw[HX.out];rcases a3J (b:=xb) (p:=pa.size) hlt with h | h;exact h;omega);clear HX;go_wp2;go_round
    case rel=>exact⟨k+1,x*10,by omega,by omega,by go_num,by go_light;congr 1;omega,a9⟩
    case measure=>simp[intOf];omega
   have b0:k=4:=by omega
   subst b0
   have hlti:¬ ((4:Nat):Int)<4:=by omega
   have HUU:Hid ((U:Int)=xa*10000+x):=hid (by rw[HU.out,HX.out];push_cast;rfl);clear HX HU HB;go_wp2;go_ret2;exact⟨a0I (by rw[HV.out];simp only;rw[HUU.out]) (by rw[HV.out]),Below.refl _ _⟩
  have HN:Hid (∀ j,j<k+1->s.data.toList[j]?≠some 46):=b0p hp HA.out hd
  have hdb:(((s[k]'hp).toNat:Int)==46)=false:=by rw[beq_eq_false_iff_ne];exact hd
  clear hd HA;go_wp2;go_round
  case rel=>exact⟨k+1,by omega,rfl,rfl,by go_num,HN⟩
  case measure=>simp[intOf];omega
 have hkn:k=s.size:=by omega
 subst hkn
 have hlti:¬ (s.size:Int)<s.size:=by omega
 have HW:Hid (WP s s ⟨#[48]⟩):=b0o HA.out;clear HA;obtain⟨z1,z2⟩:=b2C HW.out ht;obtain⟨a5,a2⟩:=b2D HW.out;have a0:Hid (okD (ptL s.data.toList)=false->rdV=(0,false)):=HVN;have a1:Hid (okD (ptL s.data.toList)=true->rdV=((unitsL (ptL s.data.toList).1 (ptL s.data.toList).2.1:Int),true)):=HVY;rw[a5] at a0 a1;have a3:=fun w=>a0B s 14 w z1 (by omega);have a4:=fun w=>a0B (⟨#[48]⟩:ByteArray) 4 w z2 (by omega);generalize unitsL (ptL s.data.toList).1 (ptL s.data.toList).2.1=U at *;generalize dgN s.data.toList 14=xa at *;generalize dgN (⟨#[48]⟩:ByteArray).data.toList 4=xb at *;generalize arD s.data.toList 14=o1 at *;generalize arD (⟨#[48]⟩:ByteArray).data.toList 4=o2 at *;clear HW a5 HVN HVY;cases o1
 .have HV:Hid (rdV=(0,false)):=a0.out rfl;clear a0 a1 a2;go_wp2_with fail;refine(a3 _).mono ?_;rintro e w1 ⟨rfl,hw⟩;rw[hw];clear hw w1;go_wp2_with fail;refine(a4 _).mono ?_;rintro e w1 ⟨rfl,hw⟩;rw[hw];clear hw w1;go_wp2;go_ret2;exact⟨a0I (by rw[HV.out]) (by rw[HV.out]),Below.refl _ _⟩
 cases o2
 .have HV:Hid (rdV=(0,false)):=a0.out rfl;clear a0 a1 a2;go_wp2_with fail;refine(a3 _).mono ?_;rintro e w1 ⟨rfl,hw⟩;rw[hw];clear hw w1;go_wp2_with fail;refine(a4 _).mono ?_;rintro e w1 ⟨rfl,hw⟩;rw[hw];clear hw w1;go_wp2;go_ret2;exact⟨a0I (by rw[HV.out]) (by rw[HV.out]),Below.refl _ _⟩
 have HV:Hid (rdV=((U:Int),true)):=a1.out rfl;obtain⟨q1,q2,q3,q4,q5⟩:=a2 rfl;have HU:Hid (U=xa*10000+xb*10^(4-1)):=q1;have HB:Hid (xb<10^1):=q5;have a8:Hid (1<=4):=q3;clear a0 a1 a2 q1 q2 q3 q5
 have hxa:(xa:Int)<100000000000000:=by omega
 clear q4;go_wp2_with fail;refine(a3 _).mono ?_;rintro e w1 ⟨rfl,hw⟩;rw[hw];clear hw w1;go_wp2_with fail;refine(a4 _).mono ?_;rintro e w1 ⟨rfl,hw⟩;rw[hw];clear hw w1;clear a3 a4;go_wp2;go_loop [10,12] (fun b i=>∃ k x:Nat,1<=k/\k<=4/\i=.int .i64 k/\b=.int .u64 x/\Hid (x=xb*10^(k-1))) (fun _ i=>4-(intOf i).toNat)
 case atStart=>exact⟨1,xb,Nat.le_refl _,a8.out,rfl,rfl,(by simp:xb=xb*10^(1-1))⟩
 case round=>
 obtain⟨k,x,a6,a7,rfl,rfl,HX⟩:=hrel
 have hx:x<10000:=by rw[HX.out];exact a4L HB.out a6 a7
 have hxi:(x:Int)<10000:=by omega
 by_cases hlt:k<4
 .have hlti:(k:Int)<4:=by omega
  have a9:Hid (x*10=xb*10^(k+1-1)):=hid (by rw[HX.out];rcases a3J (b:=xb) (p:=1) hlt with h | h;exact h;omega);clear HX;go_wp2;go_round
  case rel=>exact⟨k+1,x*10,by omega,by omega,by go_num,by go_light;congr 1;omega,a9⟩
  case measure=>simp[intOf];omega
 have b0:k=4:=by omega
 subst b0
 have hlti:¬ ((4:Nat):Int)<4:=by omega
 have HUU:Hid ((U:Int)=xa*10000+x):=hid (by rw[HU.out,HX.out];push_cast;rfl);clear HX HU HB;go_wp2;go_ret2;exact⟨a0I (by rw[HV.out];simp only;rw[HUU.out]) (by rw[HV.out]),Below.refl _ _⟩
end Go.Proofs.YtphmpkpcamgjeaaGreatDoor.Rx.Rd
namespace Go.Proofs.YtphmpkpcamgjeaaGreatDoor.Rx.Rd
open Go.ChangeShapes Go.WideShapes Go.ChangeAt Go.RowKit Go.Proofs.Tryz Go.Shelf
theorem a6V {l:List UInt8} (h:negL l=false):bodyL l=l:=by unfold bodyL;rw[h];rfl
theorem b5S {l:List UInt8} (h:negL l=true):bodyL l=l.tail:=by unfold bodyL;rw[h];rfl
theorem b4f {l d:List UInt8} (hd:bodyL l=d) (h:okD (ptL d)=false):rdD l=(0,false):=by unfold rdD;rw[hd,h];rfl
theorem b4g {l d:List UInt8} (hn:negL l=false) (hd:bodyL l=d) (h:okD (ptL d)=true):rdD l=((unitsL (ptL d).1 (ptL d).2.1:Int),true):=by unfold rdD;rw[hd,if_pos h,hn];rfl
theorem b7T {l d:List UInt8} (hn:negL l=true) (hd:bodyL l=d) (h:okD (ptL d)=true):rdD l=(-(unitsL (ptL d).1 (ptL d).2.1:Int),true):=by unfold rdD;rw[hd,if_pos h,hn];rfl
theorem readDec_spec (s:ByteArray) (w:World) (hs:s.size<=1048576) :
 Calls prog 176 #[.string s] w fun e w'=>e=.returned (.tuple #[.int .i64 (rdD s.data.toList).1,.bool (rdD s.data.toList).2])/\Below w.heap.size w w':=by
 by_cases h0:0<s.size
 .cases hb:(((s[0]'h0).toNat:Int)==45)
  .have hn:=(b1j h0).trans hb;exact b0r s w hs h0 hb _ (fun h=>b4f (a6V hn) h) (fun h=>b4g hn (a6V hn) h)
  have hn:=(b1j h0).trans hb;have hd:bodyL s.data.toList=(s.extract 1 s.size).data.toList:=(b5S hn).trans (a4I s).symm;exact b0q s w hs h0 hb _ (fun h=>b4f hd h) (fun h=>b7T hn hd h)
 have hn:=a7P h0;exact b0s s w hs h0 _ (fun h=>b4f (a6V hn) h) (fun h=>b4g hn (a6V hn) h)
end Go.Proofs.YtphmpkpcamgjeaaGreatDoor.Rx.Rd
