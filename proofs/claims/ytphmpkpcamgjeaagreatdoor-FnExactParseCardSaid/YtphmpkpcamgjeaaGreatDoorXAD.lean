import Derived.Test.YtphmpkpcamgjeaaGreatDoorProg
import Derived.Test.YtphmpkpcamgjeaaGreatDoorXAB
import Derived.Test.YtphmpkpcamgjeaaGreatDoorS1
import Derived.WalkKit
import Derived.ProofKit
import Derived.OpenShut
import Derived.WalkLawsBesides
import Derived.Deep.Light
import Derived.WalkSpells
import Derived.Laws.RangeString
import Derived.Laws.RangeAny
import Derived.Test.YtphmpkpcamgjeaaGreatDoorXAA
set_option linter.unusedVariables false
set_option linter.unusedSimpArgs false
set_option maxRecDepth 100000
set_option maxHeartbeats 16000000
namespace Go.Proofs.YtphmpkpcamgjeaaGreatDoor.Rx
open Go.ChangeShapes Go.WideShapes Go.ChangeAt Go.RowKit Go.Proofs.Tryz Go.Shelf
theorem ret_bool {a b:Bool} (h:a=b):Ending.returned (.bool a)=.returned (.bool b):=by rw[h]
theorem ret_int {k:IntKind} {a b:Int} (h:a=b):Ending.returned (.int k a)=.returned (.int k b):=by rw[h]
theorem iter_below (w:World) (s:ByteArray) (p:Nat):Below w.heap.size w (w.iter s p):=
  (Below.refl _ w).alloc (Nat.le_refl _) _
end Go.Proofs.YtphmpkpcamgjeaaGreatDoor.Rx
namespace Go.Proofs.YtphmpkpcamgjeaaGreatDoor.Rx
open Go.ChangeShapes Go.WideShapes Go.ChangeAt Go.RowKit Go.Proofs.Tryz Go.Shelf
theorem below_alloc (w:World) (o:Obj):Below w.heap.size w (w.alloc o):=(Below.refl _ w).alloc (Nat.le_refl _) o
theorem bcell {W w1:World} (hb:Below W.heap.size W w1):(∀ b o,b<W.heap.size->w1.cell? ⟨b,o,none⟩=W.cell? ⟨b,o,none⟩)/\(∀ b o,b<W.heap.size->w1.frozen? ⟨b,o,none⟩=W.frozen? ⟨b,o,none⟩):=
  ⟨fun b o h=>hb.cell (p:=⟨b,o,none⟩) h,fun b o h=>hb.frozen (p:=⟨b,o,none⟩) h⟩
theorem b1B (n a b:Int) (w:World):Calls prog 217 #[.int .i64 n,.int .i64 a,.int .i64 b] w fun e w'=>e=.returned (.bool (decide (a<=n)&&decide (n<=b)))/\w'=w:=by
 go_enter func217,ntmps217;go_wp2
 all_goals
   go_ret
   refine⟨ret_bool ?_,rfl⟩
   go_light
   grind
end Go.Proofs.YtphmpkpcamgjeaaGreatDoor.Rx
namespace Go.Proofs.YtphmpkpcamgjeaaGreatDoor.Rx
open Go.ChangeShapes Go.WideShapes Go.ChangeAt Go.RowKit Go.Proofs.Tryz Go.Shelf
theorem ret_two {k l:IntKind} {a b c d:Int} (h:a=c) (g:b=d):Ending.returned (.tuple #[.int k a,.int l b])=.returned (.tuple #[.int k c,.int l d]):=by rw[h,g]
def zB (b:Bool):Int:=if b then 1 else 0
end Go.Proofs.YtphmpkpcamgjeaaGreatDoor.Rx
namespace Go.Proofs.YtphmpkpcamgjeaaGreatDoor.Rx.Rd
open Go.ChangeShapes Go.WideShapes Go.ChangeAt Go.RowKit Go.Proofs.Tryz Go.Shelf
theorem a0I {k:IntKind} {a b:Int} {c d:Bool} (h:a=b) (g:c=d):Ending.returned (.tuple #[.int k a,.bool c])=.returned (.tuple #[.int k b,.bool d]):=by rw[h,g]
def isD (b:UInt8):Bool:=decide (48<=b.toNat)&&decide (b.toNat<=57)
theorem isD_yes {b:UInt8} (h:isD b=true):48<=b.toNat/\b.toNat<=57:=by simpa[isD] using h
theorem b6q {b:UInt8} (h:isD b=false):b.toNat<48\/57<b.toNat:=by simp[isD] at h;omega
def allD (l:List UInt8):Bool:=l.all isD
def numL (l:List UInt8):Nat:=l.foldl (fun n b=>10*n+(b.toNat-48)) 0
theorem a5l (l:List UInt8) (b:UInt8):numL (l++[b])=10*numL l+(b.toNat-48):=by simp[numL]
theorem b2U (l:List UInt8) (b:UInt8):allD (l++[b])=(allD l&&isD b):=by simp[allD]
theorem b2V:∀ (l:List UInt8) (acc:Nat),allD l=true->l.foldl (fun n b=>10*n+(b.toNat-48)) acc<(acc+1)*10^l.length
 | [],acc,_=>by simp
 | b::l,acc,h=>by
  simp only[allD,List.all_cons,Bool.and_eq_true] at h;have h1:=b2V l (10*acc+(b.toNat-48)) h.2;have h2:=isD_yes h.1;rw[List.foldl_cons,List.length_cons,Nat.pow_succ,Nat.mul_comm (10^l.length) 10,<- Nat.mul_assoc];refine Nat.lt_of_lt_of_le h1 (Nat.mul_le_mul_right _ (by omega))
theorem a3Q {l:List UInt8} (h:allD l=true):numL l<10^l.length:=by
 have:=b2V l 0 h;simpa[numL] using this
theorem take_snoc (s:ByteArray) (k:Nat) (h:k<s.size):s.data.toList.take (k+1)=s.data.toList.take k++[s[k]]:=by
 rw[List.take_succ_eq_append_getElem (by simpa using h)];rfl
theorem a3Z (s:ByteArray):s.data.toList.take s.size=s.data.toList:=List.take_of_length_le (by rw[Lib.size_eq];exact Nat.le_refl _)
theorem a7f {s:ByteArray} {k:Nat} (h:k<s.size) (hp:allD (s.data.toList.take k)=true) (hk:isD s[k]=true):allD (s.data.toList.take (k+1))=true:=by
 rw[take_snoc s k h,b2U,hp,hk];rfl
theorem b2W {s:ByteArray} {k:Nat} (h:k<s.size) (hk:isD s[k]=false):allD s.data.toList=false:=by
 simp only[allD,List.all_eq_false];exact⟨s[k],List.getElem_mem (by simpa using h),by simp[hk]⟩
def arD (l:List UInt8) (most:Nat):Bool:=allD l&&(decide (1<=l.length)&&decide (l.length<=most))
theorem b6r {s:ByteArray} {most:Nat} (h:allD s.data.toList=false):arD s.data.toList most=false:=by simp[arD,h]
theorem len_eq (s:ByteArray):s.data.toList.length=s.size:=(Lib.size_eq s).symm
theorem b6S {s:ByteArray} {most:Nat} (h:s.size<1\/most<s.size):arD s.data.toList most=false:=by
 rw[Bool.eq_false_iff];intro c;simp only[arD,len_eq,Bool.and_eq_true,decide_eq_true_eq] at c;omega
theorem b6T {s:ByteArray} {most:Nat} (h:allD s.data.toList=true):arD s.data.toList most=(decide ((1:Int)<=(s.size:Int))&&decide (s.size<=most)):=by
 rw[arD,h,len_eq,Bool.true_and];congr 1;simp;omega
theorem a4a {l:List UInt8} {most:Nat} (h:arD l most=true):allD l=true/\1<=l.length/\l.length<=most:=by simpa[arD] using h
theorem a2s (s:ByteArray) (most:Nat) (w:World) (hs:s.size<=1048576) (hm:most<=100) :
 Calls prog 195 #[.string s,.int .i64 most] w fun e w'=>e=.returned (.bool (arD s.data.toList most))/\Below w.heap.size w w':=by
 go_enter func195,ntmps195;go_wp2;go_loopw [6] (fun _ w'=>∃ pos:Nat,pos<=s.size/\w'=w.iter s pos/\Hid (allD (s.data.toList.take pos)=true)) (fun _ w'=>s.size-w'.iterPos w.heap.size)
 case atStart=>exact⟨0,Nat.zero_le _,rfl,(rfl:allD []=true)⟩
 case round=>
 obtain⟨pos,hpl,rfl,HA⟩:=hrel;by_cases hp:pos<s.size
 .cases hd:isD s[pos]
  .have HN:Hid (arD s.data.toList most=false):=b6r (b2W hp hd);have hn:=b6q hd;clear hd HA;by_cases ha:(s[pos]'hp).toNat<128
   .have hnx:∀ ty,(Instr.next (.pointer (some ⟨w.heap.size,0,none⟩)) true ty).run prog (w.iter s pos)=_:=fun ty=>run_next_ascii w s pos ty hp ha;generalize (s[pos]'hp).toNat=c at hnx hn;rcases hn with h1 | h1
    .have h2:(c:Int)<48:=by omega
     go_wp2;go_ret;exact⟨ret_bool HN.out.symm,iter_below _ _ _⟩
    have h2:¬ (c:Int)<48:=by omega
    have h3:(57:Int)<c:=by omega
    go_wp2;go_ret;exact⟨ret_bool HN.out.symm,iter_below _ _ _⟩
   have hhi:=decode_high s pos hp (by omega);have hnx:∀ ty,(Instr.next (.pointer (some ⟨w.heap.size,0,none⟩)) true ty).run prog (w.iter s pos)=_:=fun ty=>run_next_any w s pos ty hp;generalize Utf8.decode s pos=c at hnx hhi;obtain⟨c1,c2⟩:=c;simp only at hnx hhi
   have h2:¬ (c1:Int)<48:=by omega
   have h3:(57:Int)<c1:=by omega
   clear hn ha;go_wp2;go_ret;exact⟨ret_bool HN.out.symm,iter_below _ _ _⟩
  have HY:Hid (allD (s.data.toList.take (pos+1))=true):=a7f hp HA.out hd;have hy:=isD_yes hd;have hnx:∀ ty,(Instr.next (.pointer (some ⟨w.heap.size,0,none⟩)) true ty).run prog (w.iter s pos)=_:=fun ty=>run_next_ascii w s pos ty hp (by omega);clear hd HA;generalize (s[pos]'hp).toNat=c at hnx hy
  have h2:¬ (c:Int)<48:=by omega
  have h3:¬ (57:Int)<c:=by omega
  go_wp2;go_roundw
  case rel=>exact⟨pos+1,by omega,rfl,HY⟩
  case measure=>simp;omega
 have hpe:pos=s.size:=by omega
 subst hpe;have HR:Hid (arD s.data.toList most=(decide ((1:Int)<=(s.size:Int))&&decide (s.size<=most))):=b6T (by have:=HA.out;rwa[a3Z] at this);have hnx:∀ ty,(Instr.next (.pointer (some ⟨w.heap.size,0,none⟩)) true ty).run prog (w.iter s s.size)=_:=fun ty=>run_next_end w s s.size ty hp;clear HA;go_wp2_with (go_at_call 217;refine ws (b1B _ _ _ _) ?_);go_ret;exact⟨ret_bool HR.out.symm,iter_below _ _ _⟩
theorem b8u {l:List UInt8} (h:allD l=true) (hl:l.length<=18):numL l<1000000000000000000:=by
 have h1:=a3Q h;have h2:(10:Nat)^l.length<=10^18:=Nat.pow_le_pow_right (by omega) hl
 have h3:(10:Nat)^18=1000000000000000000:=by decide
 omega
theorem b2X {l:List UInt8} (h:allD l=true) (k:Nat):allD (l.take k)=true:=by
 simp only[allD,List.all_eq_true] at h ⊢;exact fun x hx=>h x (List.mem_of_mem_take hx)
theorem b6U {s:ByteArray} (h:allD s.data.toList=true) (k:Nat) (hk:k<s.size):isD s[k]=true:=by
 simp only[allD,List.all_eq_true] at h;exact h _ (List.getElem_mem (by simpa using hk))
theorem a2V (s:ByteArray) (w:World) (hs:s.size<=19) (hd:allD s.data.toList=true) :
 Calls prog 197 #[.string s] w fun e w'=>e=.returned (.int .u64 (numL s.data.toList:Nat))/\Below w.heap.size w w':=by
 have HD:Hid (allD s.data.toList=true):=hd;clear hd;go_enter func197,ntmps197;go_wp2;go_loopw [3,5] (fun n _ w'=>∃ pos m:Nat,pos<=s.size/\w'=w.iter s pos/\n=.int .u64 m/\Hid (numL (s.data.toList.take pos)=m)) (fun _ _ w'=>s.size-w'.iterPos w.heap.size)
 case atStart=>exact⟨0,0,Nat.zero_le _,rfl,rfl,(rfl:numL []=0)⟩
 case round=>
 obtain⟨pos,m,hpl,rfl,rfl,HA⟩:=hrel;by_cases hp:pos<s.size
 .have hy:=isD_yes (b6U HD.out pos hp);have hnx:∀ ty,(Instr.next (.pointer (some ⟨w.heap.size,0,none⟩)) true ty).run prog (w.iter s pos)=_:=fun ty=>run_next_ascii w s pos ty hp (by omega);have HS:Hid (numL (s.data.toList.take (pos+1))=10*m+((s[pos]'hp).toNat-48)):=hid (by rw[take_snoc s pos hp,a5l,HA.out])
  have hm:m<1000000000000000000:=by
   have:=b8u (b2X HD.out pos) (by rw[List.length_take];omega);rw[HA.out] at this;exact this
  clear HA;generalize (s[pos]'hp).toNat=c at hnx hy HS
  have a0:(48:Int)<=c:=by omega
  have a1:(c:Int)<=57:=by omega
  have hmi:(m:Int)<1000000000000000000:=by omega
  go_wp2;go_roundw
  case rel=>exact⟨pos+1,10*m+(c-48),by omega,rfl,by go_light;congr 1;omega,HS⟩
  case measure=>simp;omega
 have hpe:pos=s.size:=by omega
 subst hpe;have hnx:∀ ty,(Instr.next (.pointer (some ⟨w.heap.size,0,none⟩)) true ty).run prog (w.iter s s.size)=_:=fun ty=>run_next_end w s s.size ty hp
 have HR:Hid (numL s.data.toList=m):=by have:=HA.out;rwa[a3Z] at this
 clear HA;go_wp2;go_ret;exact⟨ret_int (by rw[HR.out]),iter_below _ _ _⟩
def dgN (l:List UInt8) (most:Nat):Nat:=if arD l most=true then numL l else 0
theorem a0B (s:ByteArray) (most:Nat) (w:World) (hs:s.size<=1048576) (hm:most<=19) :
 Calls prog 84 #[.string s,.int .i64 most] w fun e w'=>e=.returned (.tuple #[.int .u64 (dgN s.data.toList most:Nat),.bool (arD s.data.toList most)])/\w'=w:=by
 by_cases hl:s.size<1\/most<s.size
 .have HN:Hid (arD s.data.toList most=false):=b6S hl
  have e1:dgN s.data.toList most=0:=by unfold dgN;rw[HN.out];rfl
  rw[e1,HN.out];clear e1;rcases hl with h | h
  .have h1:(s.size:Int)<1:=by omega
   go_enter func84,ntmps84;go_wp2;go_ret2;exact⟨rfl,rfl⟩
  have h1:¬ (s.size:Int)<1:=by omega
  have h2:(most:Int)<s.size:=by omega
  go_enter func84,ntmps84;go_wp2;go_ret2;exact⟨rfl,rfl⟩
 have h1:¬ (s.size:Int)<1:=by omega
 have h2:¬ (most:Int)<s.size:=by omega
 have h3:s.size<=19:=by omega
 have HLEN:Hid (1<=s.size/\s.size<=most):=hid (by omega);clear hl;go_enter func84,ntmps84;go_wp2;go_loop [6,7] (fun n i=>∃ k m:Nat,k<=s.size/\i=.int .i64 k/\n=.int .u64 m/\Hid (allD (s.data.toList.take k)=true/\numL (s.data.toList.take k)=m)) (fun _ i=>s.size-(intOf i).toNat)
 case atStart=>exact⟨0,0,Nat.zero_le _,rfl,rfl,(⟨rfl,rfl⟩:allD []=true/\numL []=0)⟩
 case round=>
 obtain⟨k,m,hk,rfl,rfl,HA⟩:=hrel;by_cases hp:k<s.size
 .have hlti:(k:Int)<s.size:=by omega
  cases hd:isD s[k]
  .have HN:Hid (arD s.data.toList most=false):=b6r (b2W hp hd);have a0:Hid (dgN s.data.toList most=0):=hid (by unfold dgN;rw[HN.out];rfl);have hn:=b6q hd;clear hd HA;obtain⟨c,hc⟩:∃ c,c=(s[k]'hp).toNat:=⟨_,rfl⟩;rw[<- hc] at hn
   have hci:((s[k]'hp).toNat:Int)=c:=by omega
   clear hc;rcases hn with g | g
   .have g1:(c:Int)<48:=by omega
    go_wp2;go_ret2;exact⟨a0I (by rw[a0.out];rfl) HN.out.symm,rfl⟩
   have g1:¬ (c:Int)<48:=by omega
   have g2:(57:Int)<c:=by omega
   go_wp2;go_ret2;exact⟨a0I (by rw[a0.out];rfl) HN.out.symm,rfl⟩
  have HY:Hid (allD (s.data.toList.take (k+1))=true/\numL (s.data.toList.take (k+1))=10*m+((s[k]'hp).toNat-48)):=⟨a7f hp HA.out.1 hd,by rw[take_snoc s k hp,a5l,HA.out.2]⟩;have hy:=isD_yes hd
  have hm:m<1000000000000000000:=by
   have:=b8u HA.out.1 (by rw[List.length_take];omega);rw[HA.out.2] at this;exact this
  clear hd HA;obtain⟨c,hc⟩:∃ c,c=(s[k]'hp).toNat:=⟨_,rfl⟩;rw[<- hc] at hy HY
  have hci:((s[k]'hp).toNat:Int)=c:=by omega
  clear hc
  have g1:¬ (c:Int)<48:=by omega
  have g2:¬ (57:Int)<c:=by omega
  have g3:(48:Int)<=c:=by omega
  have g4:(c:Int)<=57:=by omega
  have hmi:(m:Int)<1000000000000000000:=by omega
  go_wp2;go_round
  case rel=>exact⟨k+1,10*m+(c-48),by omega,by go_num,by go_light;congr 1;omega,HY⟩
  case measure=>simp[intOf];omega
 have hpe:k=s.size:=by omega
 subst hpe
 have hlti:¬ (s.size:Int)<s.size:=by omega
 have HR:Hid (arD s.data.toList most=true):=hid (by
   have h:=HA.out.1
   rw[a3Z] at h
   simp only[arD,h,len_eq,Bool.true_and,Bool.and_eq_true,decide_eq_true_eq]
   exact HLEN.out)
 have HM:Hid (dgN s.data.toList most=m):=hid (by have h:=HA.out.2;rw[a3Z] at h;unfold dgN;rw[HR.out];exact h);clear HA;go_wp2;go_ret2;exact⟨a0I (by rw[HM.out]) HR.out.symm,rfl⟩
end Go.Proofs.YtphmpkpcamgjeaaGreatDoor.Rx.Rd
namespace Go.Proofs
open Go.Shelf
def Tryz.lays167_ren:Go.Shelf.Ren:=⟨fun | 167=>140 | 165=>159 | 166=>160 | 169=>139 | 240=>163 | 241=>181 | 276=>183 | 277=>202 | n=>n,fun | 31=>91 | 9=>9 | 3=>3 | 4=>4 | 0=>0 | 20=>20 | 72=>153 | 76=>169 | 70=>151 | 37=>100 | 75=>83 | 127=>172 | 164=>107 | 5=>5 | 80=>54 | n=>n,fun | n=>n⟩
theorem Tryz.lays167:Go.Proofs.Lays.n167 prog Tryz.lays167_ren:={
  mixed:=by kernel_rfl
  f167:=func140.trans (congrArg some (by kernel_rfl))
  f240:=func163.trans (congrArg some (by kernel_rfl))
  f276:=func183.trans (congrArg some (by kernel_rfl))
  t0:=underlying0
  a0:=Tryz.isAgg0
  z0:=Tryz.sizeOf0
  v0:=Tryz.zeroValue0
  t4:=underlying4
  a4:=Tryz.isAgg4
  z4:=Tryz.sizeOf4
  v4:=Tryz.zeroValue4
  t5:=underlying5
  a5:=Tryz.isAgg5
  z5:=Tryz.sizeOf5
  v5:=Tryz.zeroValue5
  t9:=underlying9
  a9:=Tryz.isAgg9
  z9:=Tryz.sizeOf9
  v9:=Tryz.zeroValue9
  t20:=underlying20
  a20:=Tryz.isAgg20
  z20:=Tryz.sizeOf20
  v20:=Tryz.zeroValue20
  t37:=underlying100
  a37:=Tryz.isAgg100
  z37:=Tryz.sizeOf100
  v37:=Tryz.zeroValue100
  t70:=underlying151
  a70:=Tryz.isAgg151
  z70:=Tryz.sizeOf151
  v70:=Tryz.zeroValue151
  t72:=underlying153
  a72:=Tryz.isAgg153
  z72:=Tryz.sizeOf153
  v72:=Tryz.zeroValue153
  t75:=underlying83
  a75:=Tryz.isAgg83
  z75:=Tryz.sizeOf83
  v75:=Tryz.zeroValue83
  t164:=underlying107
  a164:=Tryz.isAgg107
  z164:=Tryz.sizeOf107
  v164:=Tryz.zeroValue107 
}
theorem Tryz.Builder_Extra_167:Builder.Extra prog Tryz.lays167_ren:={
  sizeBuilder:=by kernel_rfl
  liesBuilder:=by kernel_rfl
  t5:=underlying5
  a5:=Tryz.isAgg5
  z5:=Tryz.sizeOf5
  v5:=Tryz.zeroValue5
  infoByte:=by kernel_rfl
  cellsByte:=by kernel_rfl
  sizeByte:=by kernel_rfl
  neB5:=by decide }
open Go.RowKit in
theorem Tryz.Builder_WriteByte (B b:Nat) (bs:List Value) (c:Int) (w:World) (h:Lib.IsBuilder 153 5 B b bs w) (hlen:bs.length+1<=140737488355328) (hBw:B<=w.heap.size) :
    Calls prog 140 #[.pointer (some ⟨b,0,none⟩),.int .u8 c] w fun e w'=>e=.returned .nilIface/\(Lib.BuilderAt 153 5 B b (.pointer (some ⟨b,0,none⟩)) (bs++[.int .u8 c]) w'/\Below B w w'):=Any.Builder_WriteByte Tryz.lays167 Tryz.Builder_Extra_167 B b bs c w h hlen hBw
end Go.Proofs
