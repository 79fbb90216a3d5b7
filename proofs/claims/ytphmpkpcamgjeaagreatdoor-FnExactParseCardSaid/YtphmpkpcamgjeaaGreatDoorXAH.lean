import Derived.Test.YtphmpkpcamgjeaaGreatDoorXAA
import Derived.Test.YtphmpkpcamgjeaaGreatDoorRows
import Derived.Test.YtphmpkpcamgjeaaGreatDoorXAB
import Derived.Shelf.Abstract
import Derived.WalkKit
import Derived.ProofKit
import Derived.OpenShut
import Derived.WalkLawsBesides
import Derived.Deep.Light
import Derived.WalkSpells
import Derived.Deep.QuietTactic
import Derived.BigQuiet
import Derived.Deep.RegionWith
import Derived.Lib.AppendStr
import Derived.Laws.BytesArg
set_option linter.unusedVariables false
set_option linter.unusedSimpArgs false
set_option maxRecDepth 100000
set_option maxHeartbeats 16000000
namespace Go.Proofs.YtphmpkpcamgjeaaGreatDoor.Lx
open Go.ChangeShapes Go.WideShapes Go.ChangeAt Go.RowKit Go.Proofs.Tryz Go.Shelf
theorem ret_bool {a b:Bool} (h:a=b):Ending.returned (.bool a)=.returned (.bool b):=by rw[h]
theorem ret_int {k:IntKind} {a b:Int} (h:a=b):Ending.returned (.int k a)=.returned (.int k b):=by rw[h]
theorem ret_str {a b:ByteArray} (h:a=b):Ending.returned (.string a)=.returned (.string b):=by rw[h]
theorem a1G (b:Int) (w:World):Calls prog 62 #[.int .u8 b] w fun e w'=>e=.returned (.bool (digI b))/\w'=w:=by
 go_enter func62,ntmps62;go_wp2
 all_goals
   go_ret
   refine⟨ret_bool ?_,rfl⟩
   go_light
   unfold digI
   grind
theorem a1S (b:Int) (w:World):Calls prog 43 #[.int .u8 b] w fun e w'=>e=.returned (.bool (digI b))/\w'=w:=by
 go_enter func43,ntmps43;go_wp2
 all_goals
   go_ret
   refine⟨ret_bool ?_,rfl⟩
   go_light
   unfold digI
   grind
theorem a5U (b:Int) (w:World):Calls prog 104 #[.int .u8 b] w fun e w'=>e=.returned (.bool (priI b))/\w'=w:=by
 go_enter func104,ntmps104;go_wp2
 all_goals
   go_ret
   refine⟨ret_bool ?_,rfl⟩
   go_light
   unfold priI
   grind
theorem b2j (b:Int) (w:World):Calls prog 138 #[.int .u8 b] w fun e w'=>e=.returned (.bool (nulI b))/\w'=w:=by
 go_enter func138,ntmps138;go_wp2
 all_goals
   go_ret
   refine⟨ret_bool ?_,rfl⟩
   go_light
   unfold nulI
   grind
theorem a0q (b:Int) (w:World):Calls prog 60 #[.int .u8 b] w fun e w'=>e=.returned (.bool (wdI b))/\w'=w:=by
 go_enter func60,ntmps60;go_wp2
 all_goals
   go_ret
   refine⟨ret_bool ?_,rfl⟩
   go_light
   unfold wdI
   grind
theorem a0z (b:Int) (w:World):Calls prog 40 #[.int .u8 b] w fun e w'=>e=.returned (.bool (wdI b))/\w'=w:=by
 go_enter func40,ntmps40;go_wp2
 all_goals
   go_ret
   refine⟨ret_bool ?_,rfl⟩
   go_light
   unfold wdI
   grind
theorem a5V (b:Int) (w:World):Calls prog 100 #[.int .u8 b] w fun e w'=>e=.returned (.bool (goI b))/\w'=w:=by
 cases h1:wdI b<;>cases h2:digI b
 all_goals
   have c1:=fun w=>a0q b w
   have c2:=fun w=>a1G b w
   rw[h1] at c1
   rw[h2] at c2
   go_enter func100,ntmps100
   go_wp2_with (first | (go_at_call 60;refine ws (c1 _) ?_) | (go_at_call 62;refine ws (c2 _) ?_))
   go_ret
   refine⟨ret_bool ?_,rfl⟩
   unfold goI
   rw[h1,h2];rfl
def Sorts (g:Nat) (p:Int->Bool):Prop:=(∀ args w,(callFunc g args).run prog w=.ok (.enter g args) w)/\∀ (b:Int) (w:World),Calls prog g #[.int .u8 b] w fun e w'=>e=.returned (.bool (p b))/\w'=w
theorem Sorts.isDigit:Sorts 62 digI:=⟨enters_of func62 (by kernel_rfl) rfl,a1G⟩
theorem Sorts.goesOn:Sorts 100 goI:=⟨enters_of func100 (by kernel_rfl) rfl,a5V⟩
theorem Sorts.isName:Sorts 104 priI:=⟨enters_of func104 (by kernel_rfl) rfl,a5U⟩
theorem Sorts.nought:Sorts 138 nulI:=⟨enters_of func138 (by kernel_rfl) rfl,b2j⟩
end Go.Proofs.YtphmpkpcamgjeaaGreatDoor.Lx
namespace Go.Proofs.YtphmpkpcamgjeaaGreatDoor.Lx
open Go.ChangeShapes Go.WideShapes Go.ChangeAt Go.RowKit Go.Proofs.Tryz Go.Shelf
theorem a1z (g:Nat) (p:Int->Bool) (hg:Sorts g p) (s:ByteArray) (w:World) (hs:s.size<=maxLen) :
 Calls prog 99 #[.string s,.func (.func g) #[] #[]] w fun e w'=>e=.returned (.int .i64 (runN p s.data.toList))/\w'=w:=by
 unfold maxLen at hs;have eg:=hg.1;have hc:=hg.2;go_enter func99,ntmps99;go_wp2;go_loop [5] (fun i=>∃ k:Nat,k<=s.size/\k<=runN p s.data.toList/\i=.int .i64 k) (fun i=>s.size-(intOf i).toNat)
 case atStart=>exact⟨0,Nat.zero_le _,Nat.zero_le _,rfl⟩
 case round=>
 obtain⟨k,hk,hr,rfl⟩:=hrel;by_cases hlt:k<s.size
 .have hst:=a2y p s.data.toList k _ hr (a0P s k hlt);cases hp:p ((s[k]'hlt).toNat:Int)
  .have h2:Hid (runN p s.data.toList=k):=hst.2 hp;clear hst;have hc':=fun w=>hc ((s[k]'hlt).toNat:Int) w;rw[hp] at hc';go_wp2_with (go_at_fn g;refine ws (hc' _) ?_);go_ret;exact⟨ret_int (by rw[h2.out]),rfl⟩
  have h2:Hid (k+1<=runN p s.data.toList):=hst.1 hp;clear hst;have hc':=fun w=>hc ((s[k]'hlt).toNat:Int) w;rw[hp] at hc';go_wp2_with (go_at_fn g;refine ws (hc' _) ?_);go_round
  case rel=>exact⟨k+1,by omega,h2.out,by go_num⟩
  case measure=>simp[intOf];omega
 go_wp2;go_ret;refine⟨ret_int ?_,rfl⟩;have:=a5b p s.data.toList k hr (by simp;omega);rw[this]
 have:k=s.size:=by omega
 rw[this]
theorem run_any (s:ByteArray) (a:Nat) (h:Bool) (w:World) (hs:s.size<=maxLen) (ha:a<=s.size) :
 Calls prog 41 #[.string s,.int .i64 a,.int .i64 (if h then 0 else 1)] w fun e w'=>e=.returned (.int .i64 (runN (if h then goI else digI) (s.data.toList.drop a)))/\w'=w:=by
 unfold maxLen at hs;cases h
 all_goals
   simp only[Bool.false_eq_true,if_false,if_true]
   go_enter func41,ntmps41
   go_wp2
 .go_loop [7] (fun i=>∃ k:Nat,a+k<=s.size/\k<=runN digI (s.data.toList.drop a)/\i=.int .i64 k) (fun i=>s.size-a-(intOf i).toNat)
  case atStart=>exact⟨0,by omega,Nat.zero_le _,rfl⟩
  case round=>
  obtain⟨k,hk,hr,rfl⟩:=hrel;by_cases hlt:a+k<s.size
  .have hst:=a2y digI _ k _ hr (b2S s a k hlt);cases hp:digI ((s[a+k]'hlt).toNat:Int)
   .have h2:Hid (runN digI (s.data.toList.drop a)=k):=hst.2 hp;clear hst;have hc':=fun w=>a1S ((s[a+k]'hlt).toNat:Int) w;rw[hp] at hc';go_wp2_with (go_at_call 43;refine ws (hc' _) ?_);go_ret;exact⟨ret_int (by rw[h2.out]),rfl⟩
   have h2:Hid (k+1<=runN digI (s.data.toList.drop a)):=hst.1 hp;clear hst;have hc':=fun w=>a1S ((s[a+k]'hlt).toNat:Int) w;rw[hp] at hc';go_wp2_with (go_at_call 43;refine ws (hc' _) ?_);go_round
   case rel=>exact⟨k+1,by omega,h2.out,by go_num⟩
   case measure=>simp[intOf];omega
  go_wp2;go_ret;refine⟨ret_int ?_,rfl⟩;have:=a5b digI (s.data.toList.drop a) k hr (by simp;omega);rw[this]
 go_loop [7] (fun i=>∃ k:Nat,a+k<=s.size/\k<=runN goI (s.data.toList.drop a)/\i=.int .i64 k) (fun i=>s.size-a-(intOf i).toNat)
 case atStart=>exact⟨0,by omega,Nat.zero_le _,rfl⟩
 case round=>
 obtain⟨k,hk,hr,rfl⟩:=hrel;by_cases hlt:a+k<s.size
 .have hst:=a2y goI _ k _ hr (b2S s a k hlt);have hgo:goI ((s[a+k]'hlt).toNat:Int)=(wdI ((s[a+k]'hlt).toNat:Int) || digI ((s[a+k]'hlt).toNat:Int)):=rfl
  cases hp:digI ((s[a+k]'hlt).toNat:Int)<;>cases hq:wdI ((s[a+k]'hlt).toNat:Int)
  .have h2:Hid (runN goI (s.data.toList.drop a)=k):=hst.2 (by rw[hgo,hp,hq];rfl);clear hst hgo;have hc':=fun w=>a1S ((s[a+k]'hlt).toNat:Int) w;rw[hp] at hc';have hd':=fun w=>a0z ((s[a+k]'hlt).toNat:Int) w;rw[hq] at hd';go_wp2_with (first | (go_at_call 43;refine ws (hc' _) ?_) | (go_at_call 40;refine ws (hd' _) ?_));go_ret;exact⟨ret_int (by rw[h2.out]),rfl⟩
  all_goals
    have h2:Hid (k+1<=runN goI (s.data.toList.drop a)):=hst.1 (by rw[hgo,hp,hq];rfl)
    clear hst hgo
    have hc':=fun w=>a1S ((s[a+k]'hlt).toNat:Int) w
    rw[hp] at hc'
    have hd':=fun w=>a0z ((s[a+k]'hlt).toNat:Int) w
    rw[hq] at hd'
    go_wp2_with (first | (go_at_call 43;refine ws (hc' _) ?_) | (go_at_call 40;refine ws (hd' _) ?_))
    go_round
    case rel=>exact⟨k+1,by omega,h2.out,by go_num⟩
    case measure=>simp[intOf];omega
 go_wp2;go_ret;refine⟨ret_int ?_,rfl⟩;have:=a5b goI (s.data.toList.drop a) k hr (by simp;omega);rw[this]
end Go.Proofs.YtphmpkpcamgjeaaGreatDoor.Lx
namespace Go.Proofs.YtphmpkpcamgjeaaGreatDoor.Lx
open Go.ChangeShapes Go.WideShapes Go.ChangeAt Go.RowKit Go.Proofs.Tryz Go.Shelf
theorem a2F (s:ByteArray) (a:Nat):(s.extract a s.size).data.toList=s.data.toList.drop a:=by
 rw[ByteArray.data_extract,Array.toList_extract,List.extract_eq_take_drop];rw[List.take_of_length_le];rw[List.length_drop];exact Nat.le_refl _
theorem b3K (s:ByteArray) (a:Nat):(s.extract 0 a).data.toList=s.data.toList.take a:=by
 simp[ByteArray.data_extract]
theorem a4S {s t:ByteArray} (h:s.data.toList=t.data.toList):s=t:=by
 cases s;cases t;congr;exact Array.toList_inj.1 h
theorem a3C (s:ByteArray):(⟨s.data.toList.toArray⟩:ByteArray)=s:=by cases s;simp
theorem wit0 (s:ByteArray) (h:0<s.size):s.data.toList=s[0]::s.data.toList.drop 1:=by
 have:=drop_cons s.data.toList 0 (s[0]'h) (a0P s 0 h);simpa using this
theorem a8I (s:ByteArray) (w:World) (hs:s.size<=maxLen) :
 Calls prog 83 #[.string s] w fun e w'=>e=.returned (.string ⟨(noughts s.data.toList).toArray⟩)/\w'=w:=by
 unfold maxLen at hs;go_enter func83,ntmps83;go_wp2;go_loop [0] (fun v=>∃ t:ByteArray,v=.string t/\t.size<=s.size/\noughts t.data.toList=noughts s.data.toList) (fun v=>match v with | .string t=>t.size | _=>0)
 case atStart=>exact⟨s,rfl,Nat.le_refl _,rfl⟩
 case round=>
 obtain⟨t,rfl,ht,hn⟩:=hrel;have HN:Hid (noughts t.data.toList=noughts s.data.toList):=hn;clear hn;by_cases h1:1<t.size
 .have h0:0<t.size:=by omega
  have hc:=wit0 t h0;by_cases a0:(t[0]'h0).toNat=48
  .have a1:((t[0]'h0).toNat:Int)=48:=by omega
   have HC:Hid (t.data.toList=t[0]::t.data.toList.drop 1):=hc;clear hc;go_wp2;go_round
   case rel=>
    refine⟨_,rfl,?_,?_⟩
    .simp;omega
    rw[a2F,<- HN.out];have e1:=HC.out;have:t[0]=48:=UInt8.toNat.inj a0;rw[this] at e1
    have hl:1<t.data.toList.length:=by simpa using h1
    cases h2:t.data.toList.drop 1 with
    | cons d r=>rw[h2] at e1;rw[e1,a7d]
    | nil=>
    have:=congrArg List.length h2;simp at this;omega
   case measure=>simp;omega
  have a1:¬ ((t[0]'h0).toNat:Int)=48:=by omega
  have HC:Hid (t.data.toList=t[0]::t.data.toList.drop 1):=hc;clear hc;go_wp2;go_ret;refine⟨ret_str ?_,rfl⟩;rw[<- HN.out,HC.out,a7e _ _ (fun e=>a0 (by rw[e];rfl)),<- HC.out,a3C]
 go_wp2;go_ret;refine⟨ret_str ?_,rfl⟩;rw[<- HN.out]
 have hl:t.data.toList.length<=1:=by simp;omega
 cases h2:t.data.toList with
 | nil=>rw[a8n,<- h2,a3C]
 | cons c r=>
 rw[h2] at hl
 have:r=[]:=by cases r with
   | nil=>rfl
   | cons=>simp at hl
 rw[this,a8m,<- this,<- h2,a3C]
theorem a4t (s:ByteArray) (w:World) (hs:s.size<=maxLen) (h1:1<=s.size) :
 Calls prog 102 #[.string s] w fun e w'=>e=.returned (.string ⟨(noughts s.data.toList).toArray⟩)/\w'=w:=by
 have hc:=fun w=>a1z 138 nulI Sorts.nought s w hs;unfold maxLen at hs
 have hle:runN nulI s.data.toList<=s.size:=by have:=runN_le nulI s.data.toList;simpa using this
 by_cases hm:runN nulI s.data.toList<=s.size-1
 .have hm':(runN nulI s.data.toList:Int)<=(s.size:Int)-1:=by omega
  have he:noughts s.data.toList=s.data.toList.drop (runN nulI s.data.toList):=by unfold noughts;rw[Nat.min_eq_left (by simpa using hm)]
  have HE:Hid (noughts s.data.toList=s.data.toList.drop (runN nulI s.data.toList)):=he;clear he;generalize runN nulI s.data.toList=n at *;go_enter func102,ntmps102;go_wp2_with (go_at_call 99;refine ws (hc _) ?_);go_ret;refine⟨ret_str (a4S ?_),rfl⟩;rw[HE.out,a2F]
 have hm':(s.size:Int)-1<(runN nulI s.data.toList:Int):=by omega
 have he:noughts s.data.toList=s.data.toList.drop (s.size-1):=by unfold noughts;rw[Nat.min_eq_right (by simp;omega)];simp
 have HE:Hid (noughts s.data.toList=s.data.toList.drop (s.size-1)):=he;clear he;generalize runN nulI s.data.toList=n at *;go_enter func102,ntmps102;go_wp2_with (go_at_call 99;refine ws (hc _) ?_);go_ret;refine⟨ret_str (a4S ?_),rfl⟩;rw[HE.out];rw[a2F]
end Go.Proofs.YtphmpkpcamgjeaaGreatDoor.Lx
namespace Go.Proofs.YtphmpkpcamgjeaaGreatDoor.Lx
open Go.ChangeShapes Go.WideShapes Go.ChangeAt Go.RowKit Go.Proofs.Tryz Go.Shelf
theorem a6J (s:ByteArray) (w:World) (hs:s.size<=maxLen) :
 Calls prog 46 #[.string s] w fun e w'=>e=.returned (.bool (decide (runN priI s.data.toList=s.size)))/\w'=w:=by
 unfold maxLen at hs;go_enter func46,ntmps46;go_wp2;go_loop [3] (fun i=>∃ k:Nat,k<=s.size/\k<=runN priI s.data.toList/\i=.int .i64 k) (fun i=>s.size-(intOf i).toNat)
 case atStart=>exact⟨0,Nat.zero_le _,Nat.zero_le _,rfl⟩
 case round=>
 obtain⟨k,hk,hr,rfl⟩:=hrel;by_cases hlt:k<s.size
 .have hst:=a2y priI s.data.toList k _ hr (a0P s k hlt);by_cases h1:((s[k]'hlt).toNat:Int)<32
  .have h2:Hid (runN priI s.data.toList=k):=hst.2 (by unfold priI;simp;omega);clear hst;go_wp2;go_ret;refine⟨ret_bool ?_,rfl⟩;rw[h2.out];simp;omega
  by_cases h3:126<((s[k]'hlt).toNat:Int)
  .have h2:Hid (runN priI s.data.toList=k):=hst.2 (by unfold priI;simp;omega);clear hst;go_wp2;go_ret;refine⟨ret_bool ?_,rfl⟩;rw[h2.out];simp;omega
  have h2:Hid (k+1<=runN priI s.data.toList):=hst.1 (by unfold priI;simp;omega);clear hst;go_wp2;go_round
  case rel=>exact⟨k+1,by omega,h2.out,by go_num⟩
  case measure=>simp[intOf];omega
 have hfull:=a5b priI s.data.toList k hr (by simp;omega)
 have HF:Hid (runN priI s.data.toList=s.size):=by
  have:k=s.size:=by omega
  rw[<- this];exact hfull
 clear hfull;go_wp2;go_ret;refine⟨ret_bool ?_,rfl⟩;rw[HF.out];simp
theorem b3L (s:ByteArray) (k:Nat) (c:UInt8) (h:digs (s.data.toList.take k)) (e:s.data.toList[k]?=some c) (hc:digI (c.toNat:Int)=true):digs (s.data.toList.take (k+1)):=by
 intro d hd;rw[List.take_add_one,e] at hd;simp at hd;rcases hd with hd | rfl
 .exact h d hd
 exact hc
theorem b5J (s:ByteArray) (k:Nat) (c:UInt8) (e:s.data.toList[k]?=some c):val (s.data.toList.take (k+1))=10*val (s.data.toList.take k)+(c.toNat-48):=by
 rw[List.take_add_one,e];exact b4P _ _
theorem a3I (s:ByteArray) (w:World) (h1:1<=s.size) (h19:s.size<=19) (hd:digs s.data.toList) :
 Calls prog 84 #[.string s,.int .i64 19] w fun e w'=>e=.returned (.tuple #[.int .u64 (val s.data.toList),.bool true])/\w'=w:=by
 go_enter func84,ntmps84;go_wp2;go_loop [6,7] (fun n i=>∃ k:Nat,k<=s.size/\digs (s.data.toList.take k)/\n=.int .u64 (val (s.data.toList.take k))/\i=.int .i64 k) (fun _ i=>s.size-(intOf i).toNat)
 case atStart=>exact⟨0,Nat.zero_le _,by intro d hd;simp at hd,rfl,rfl⟩
 case round=>
 obtain⟨k,hk,hdg,rfl,rfl⟩:=hrel;by_cases hlt:k<s.size
 .have hg:=a0P s k hlt;have hv:=b5J s k _ hg;have hlv:=a3Y _ hdg;have hc:=hd _ (List.mem_of_getElem? hg);have hdg':=b3L s k _ hdg hg hc;have hdc:=(a5c _).1 hc;have hp:(10:Nat)^(s.data.toList.take k).length<=10^18:=Nat.pow_le_pow_right (by omega) (by rw[List.length_take];omega)
  have hb:val (s.data.toList.take k)<1000000000000000000:=by omega
  have a0:48<=((s[k]'hlt).toNat:Int):=by omega
  have a1:((s[k]'hlt).toNat:Int)<=57:=by omega
  have HV:Hid (val (s.data.toList.take (k+1))=10*val (s.data.toList.take k)+((s[k]'hlt).toNat-48)):=hv;have HD:Hid (digs (s.data.toList.take (k+1))):=hdg';clear hv hlv hdg' hdg hp hc hdc hg hd;generalize val (s.data.toList.take k)=n at *;go_wp2;go_round
  case rel=>
   refine⟨k+1,by omega,HD.out,?_,by go_num⟩;rw[HV.out];congr 1;simp;omega
  case measure=>simp[intOf];omega
 have HE:Hid (val (s.data.toList.take k)=val s.data.toList):=by
  show val (s.data.toList.take k)=val s.data.toList
  rw[List.take_of_length_le (by simp;omega)]
 go_wp2;go_ret2;refine⟨?_,rfl⟩
 show Ending.returned (.tuple #[.int .u64 (val (s.data.toList.take k)),.bool true])=_
 rw[HE.out]
theorem info5:(prog.info? 5).map (fun i=>(i.zero,i.size,i.bytes))=some (some (.int .u8 0),1,1):=by kernel_rfl
def a2k (l:List UInt8):List Value:=l.map (fun b=>.int .u8 (b.toNat:Int))
theorem a8J (l:List UInt8):strOfNums (l.map (fun b=>(b.toNat:Int)))=⟨l.toArray⟩:=by
 unfold strOfNums;congr 2;rw[List.map_map]
 conv=>rhs;rw[<- List.map_id l]
 apply List.map_congr_left;intro b _;simp
theorem a6K (w:World) (base:Nat) (v:Value) (l:List UInt8) (h:w.ownsRow base 5 1 v l.length (a2k l)):(convert 100 9 v).run prog w=.ok (.string ⟨l.toArray⟩) w:=by
 obtain⟨hlen,hcase⟩:=id h;rcases hcase with⟨rfl,h0⟩ | ⟨g,cap,cur,rfl,a0,a1,a2,a3,a4,a5⟩
 .have:l=[]:=List.eq_nil_of_length_eq_zero h0;subst this;exact run_convert_bytes_nil (P:=prog) w 100 5 underlying100 underlying5 0 0 9 underlying9
 have hcells:∀ i,i<(l.map (fun b=>(b.toNat:Int))).length->w.cell? ⟨g,0+i,none⟩=some (.int .u8 ((l.map (fun b=>(b.toNat:Int))).getD i 0)):=fun i hi=>by
  have hi':i<l.length:=by simpa using hi
  have:=h.cells (g:=g) rfl i (.int .u8 ((l.map (fun b=>(b.toNat:Int))).getD i 0)) (by simp[a2k,List.getD,hi']);simp only[Addr.add] at this;by_cases e:i=0
  .subst e;simpa using this
  simpa[e] using this
 have:=run_convert_bytes_arg (P:=prog) w 100 5 underlying100 underlying5 g 0 _ cap _ rfl hcells 9 underlying9;rw[a8J] at this;simpa using this
end Go.Proofs.YtphmpkpcamgjeaaGreatDoor.Lx
namespace Go.Proofs.YtphmpkpcamgjeaaGreatDoor.Lx
open Go.ChangeShapes Go.WideShapes Go.ChangeAt Go.RowKit Go.Proofs.Tryz Go.Shelf
def BetPost (s:ByteArray) (a:Nat) (q:UInt8) (w:World) (e:Ending) (w':World):Prop:=
  (match unq q (s.data.toList.drop (a+1)) with
 | none=>e=.returned (.tuple #[.string ⟨#[]⟩,.int .i64 (-1)])
 | some x=>e=.returned (.tuple #[.string ⟨x.1.toArray⟩,.int .i64 ((a+1+x.2:Nat):Int)]))/\Below w.heap.size w w'
theorem BetPost.none {s:ByteArray} {a:Nat} {q:UInt8} {w w':World} (h:unq q (s.data.toList.drop (a+1))=none) (hb:Below w.heap.size w w'):BetPost s a q w (.returned (.tuple #[.string ⟨#[]⟩,.int .i64 (-1)])) w':=by
 unfold BetPost;rw[h];exact⟨rfl,hb⟩
theorem BetPost.some {s:ByteArray} {a:Nat} {q:UInt8} {w w':World} {x:List UInt8} {n:Nat} {p:Int} (h:unq q (s.data.toList.drop (a+1))=some (x,n)) (hp:p=((a+1+n:Nat):Int)) (hb:Below w.heap.size w w'):BetPost s a q w (.returned (.tuple #[.string ⟨x.toArray⟩,.int .i64 p])) w':=by
 unfold BetPost;rw[h,hp];exact⟨rfl,hb⟩
theorem get_at (s:ByteArray) (a p:Nat) (h1:a<=p) (h:p<s.size):(s.data.toList.drop a)[p-a]?=.some (s[p]'h):=by
 rw[List.getElem?_drop];have:a+(p-a)=p:=by omega
 rw[this];exact a0P s p h
theorem a2G (l:List UInt8) (c:UInt8):a2k (l++[c])=a2k l++[.int .u8 (c.toNat:Int)]:=by simp[a2k]
theorem a5F (s:ByteArray) (a:Nat) (q:UInt8) (w:World) (hs:s.size<=1048576) (ha:a<s.size) (hq:s[a]'ha=q) :
 Calls prog 45 #[.string s,.int .i64 a] w fun e w'=>BetPost s a q w e w':=by
 obtain⟨i0,hi,a4,a5,a6⟩:=info_parts info5
 have hqi:((s[a]'ha).toNat:Int)=(q.toNat:Int):=by rw[hq]
 have hdr:(s.data.toList.drop a).drop 1=s.data.toList.drop (a+1):=List.drop_drop;have HDR:Hid ((s.data.toList.drop a).drop 1=s.data.toList.drop (a+1)):=hdr;clear hdr
 have hlen:(s.data.toList.drop a).length=s.size-a:=by simp
 have HLEN:Hid ((s.data.toList.drop a).length=s.size-a):=hlen;clear hlen;go_enter func45,ntmps45;go_wp2;go_loopw [7,8] (fun v i wr=>∃ (p:Nat) (out:List UInt8),a+1<=p/\p<=s.size/\i=.int .i64 p/\out.length<=p/\Hid (UnqI q (s.data.toList.drop a) (p-a) out)/\wr.ownsRow w.heap.size 5 1 v out.length (a2k out)/\Below w.heap.size w wr) (fun _ i _=>s.size-(intOf i).toNat)
 case atStart=>
  exact⟨a+1,[],by omega,by omega,by go_num,by simp,by have:=UnqI.zero q (s.data.toList.drop a);rw[Nat.add_sub_cancel_left];exact this,World.ownsRow_made w #[] 0 (Nat.le_refl _) (by unfold maxLen;omega) (by simp),(Below.refl _ _).alloc (Nat.le_refl _) _⟩
 case round=>
 obtain⟨p,out,a8,a9,rfl,hol,HU,hown,hbel⟩:=hrel;by_cases hlt:p<s.size
 .have HG:Hid ((s.data.toList.drop a)[p-a]?=some (s[p]'hlt)):=get_at s a p (by omega) hlt
  have a1:1<=p-a:=by omega
  have hpa:p-a+1=p+1-a:=by omega
  have HPA:Hid (p-a+1=p+1-a):=hpa;clear hpa;by_cases hc:s[p]'hlt=q
  .have hci:((s[p]'hlt).toNat:Int)=(q.toNat:Int):=by rw[hc]
   have HG':Hid ((s.data.toList.drop a)[p-a]?=some q):=by have:=HG.out;rw[hc] at this;exact this
   clear hc HG;by_cases hlt2:p+1<s.size
   .have a2:Hid ((s.data.toList.drop a)[p+1-a]?=some (s[p+1]'hlt2)):=get_at s a (p+1) (by omega) hlt2
    have a7:¬ (s.size:Int)<=(p:Int)+1:=by omega
    by_cases hd:s[p+1]'hlt2=q
    .have hdi:((s[p+1]'hlt2).toNat:Int)=(q.toNat:Int):=by rw[hd]
     have a0:Hid ((s.data.toList.drop a)[p-a+1]?=some q):=by have:=a2.out;rw[hd] at this;rw[HPA.out];exact this
     clear hd a2;go_wp2_with (at_builtin;refine wpList_append_own _ rfl (.tmp 43) (.tmp 47) 100 rfl w.heap.size 5 i0 (.int .u8 0) 1 1 underlying100 hi a4 a5 a6 rfl (by decide) _ _ _ rfl (hown.alloc _) ⟨wr.heap.size,0,none⟩ 1 1 [.int .u8 (q.toNat:Int)] rfl rfl (cell_one_new _ _ _) (by intro u hu;simp at hu;subst hu;rfl) (by unfold maxLen;omega) (by omega) (by have:=hbel.size;simp;omega) ?_;intro v' w1 hown' hgrow _);have a3:Hid (Below w.heap.size w w1):=(hbel.alloc hbel.size _).grown hgrow (by have:=hbel.size;simp;omega) (fun k hk=>(hown.lt k hk).1)
     have HO:Hid (w1.ownsRow w.heap.size 5 1 v' (out++[q]).length (a2k (out++[q]))):=by
      show w1.ownsRow w.heap.size 5 1 v' (out++[q]).length (a2k (out++[q]))
      rw[a2G];simpa using hown'
     clear hown' hgrow hown hbel;go_wp2;go_roundw
     case rel=>exact⟨p+1+1,out++[q],by omega,by omega,by go_num,by simp;omega,by have:=UnqI.twice HU.out a1 HG'.out a0.out;rw[HPA.out] at this;rw[show p+1+1-a=p+1-a+1 by omega];exact this,HO.out,a3.out⟩
     case measure=>simp[intOf];omega
    have hdi:¬ ((s[p+1]'hlt2).toNat:Int)=(q.toNat:Int):=fun z=>hd (UInt8.toNat.inj (by omega))
    have a0:Hid ((s.data.toList.drop a)[p-a+1]?≠some q):=by
     show(s.data.toList.drop a)[p-a+1]?≠some q
     rw[HPA.out,a2.out];intro z;exact hd (Option.some.inj z)
    clear hd a2;have hcv:=a6K wr _ _ out hown;clear hown;go_wp2;go_ret2;exact BetPost.some (by rw[<- HDR.out];exact UnqI.done HU.out a1 HG'.out a0.out) (by omega) hbel
   have hge:(s.size:Int)<=p+1:=by omega
   have a0:Hid ((s.data.toList.drop a)[p-a+1]?≠some q):=by
    show(s.data.toList.drop a)[p-a+1]?≠some q
    rw[List.getElem?_eq_none (by rw[HLEN.out];omega)];intro z;cases z
   have hcv:=a6K wr _ _ out hown;clear hown;go_wp2;go_ret2;exact BetPost.some (by rw[<- HDR.out];exact UnqI.done HU.out a1 HG'.out a0.out) (by omega) hbel
  have hci:¬ ((s[p]'hlt).toNat:Int)=(q.toNat:Int):=fun z=>hc (UInt8.toNat.inj (by omega));go_wp2_with (at_builtin;refine wpList_append_own _ rfl (.tmp 43) (.tmp 47) 100 rfl w.heap.size 5 i0 (.int .u8 0) 1 1 underlying100 hi a4 a5 a6 rfl (by decide) _ _ _ rfl (hown.alloc _) ⟨wr.heap.size,0,none⟩ 1 1 [.int .u8 ((s[p]'hlt).toNat:Int)] rfl rfl (cell_one_new _ _ _) (by intro u hu;simp at hu;subst hu;rfl) (by unfold maxLen;omega) (by omega) (by have:=hbel.size;simp;omega) ?_;intro v' w1 hown' hgrow _);have a3:Hid (Below w.heap.size w w1):=(hbel.alloc hbel.size _).grown hgrow (by have:=hbel.size;simp;omega) (fun k hk=>(hown.lt k hk).1)
  have HO:Hid (w1.ownsRow w.heap.size 5 1 v' (out++[s[p]'hlt]).length (a2k (out++[s[p]'hlt]))):=by
   show w1.ownsRow w.heap.size 5 1 v' (out++[s[p]'hlt]).length (a2k (out++[s[p]'hlt]))
   rw[a2G];simpa using hown'
  clear hown' hgrow hown hbel;go_wp2;go_roundw
  case rel=>exact⟨p+1,out++[s[p]'hlt],by omega,by omega,by go_num,by simp;omega,by have:=UnqI.other HU.out a1 HG.out hc;rw[HPA.out] at this;exact this,HO.out,a3.out⟩
  case measure=>simp[intOf];omega
 go_wp2;go_ret2;exact BetPost.none (by rw[<- HDR.out];exact UnqI.none HU.out (by rw[HLEN.out];omega)) hbel
end Go.Proofs.YtphmpkpcamgjeaaGreatDoor.Lx
