import Derived.Test.YtphmpkpcamgjeaaGreatDoorProg
import Derived.Calls
import Derived.Below
import Derived.WalkKit
import Derived.ProofKit
import Derived.OpenShut
import Derived.WalkLawsBesides
import Derived.Deep.Light
import Derived.WalkSpells
import Derived.OwnWalk
import Derived.Deep.QuietTactic
import Derived.BigQuiet
import Derived.Deep.RegionWith
set_option linter.unusedVariables false
set_option linter.unusedSimpArgs false
set_option maxRecDepth 100000
set_option maxHeartbeats 16000000
namespace Go.Proofs.YtphmpkpcamgjeaaGreatDoor
open Go.RowKit
theorem hid {p : Prop} (h : p) : Hid p := h
theorem q1 {α : Type} (l : List α) (i : Nat) (a : α) : l.toArray.setIfInBounds i a = (l.set i a).toArray := List.setIfInBounds_toArray ..
theorem q2 {α : Type} (a b : α) (l : List α) : (a :: l).set 0 b = b :: l := rfl
theorem q3 {α : Type} (a b : α) (l : List α) (n : Nat) : (a :: l).set (n + 1) b = a :: l.set n b := rfl
theorem mkf (fn : Fn) (first cap : Array Value) (w : World) : (Instr.makeFunc fn first cap).run Tryz.prog w = .ok (.func fn first cap) w := rfl
theorem ws {P : Program} {f : Nat} {args : Array Value} {w : World} {E : Ending} {R : Ending -> World -> Prop} (h : Calls P f args w fun e w' => e = E /\ w' = w) (k : R E w) : Calls P f args w R := h.mono (by rintro e w' ⟨rfl, rfl⟩; exact k)
theorem hidEq {α : Type} (x : α) : ∃ y, Hid (y = x) := ⟨x, rfl⟩
end Go.Proofs.YtphmpkpcamgjeaaGreatDoor
namespace Go.Proofs.YtphmpkpcamgjeaaGreatDoor.Rx.Days
open Go.ChangeShapes Go.WideShapes Go.ChangeAt Go.RowKit Go.Proofs.Tryz
theorem ret_int {k:IntKind} {a b:Int} (h:a=b):Ending.returned (.int k a)=.returned (.int k b):=by rw[h]
def mdays (y m:Int):Int:=if m=2 then(if y%4=0/\(y%100≠0\/y%400=0) then 29 else 28) else if m=4\/m=6\/m=9\/m=11 then 30 else 31
def dbef (y:Int):Int:=365*(y-1)+(y-1)/4-(y-1)/100+(y-1)/400
def a3u (y:Int):Nat->Int
 | 0=>0
 | k+1=>a3u y k+mdays y (k+1)
theorem a4b (y m:Int):28<=mdays y m/\mdays y m<=31:=by unfold mdays;split<;>split<;>omega
theorem b0F (y:Int) (k:Nat):28*(k:Int)<=a3u y k/\a3u y k<=31*(k:Int):=by
 induction k with
 | zero=>simp[a3u]
 | succ k ih=>
 have:=a4b y (k+1);simp only[a3u];omega
theorem a4u (y m:Int) (w:World) (h1:1<=y) (h2:y<=10000):Calls prog 227 #[.int .i64 y,.int .i64 m] w fun e w'=>e=.returned (.int .i64 (mdays y m))/\w'=w:=by
 go_enter func227,ntmps227;go_wp2
 all_goals
   go_ret
   refine⟨ret_int ?_,rfl⟩
   go_light
   simp only[mdays]
   grind
theorem a4v (y m:Int) (w:World) (h1:1<=y) (h2:y<=10000):Calls prog 240 #[.int .i64 y,.int .i64 m] w fun e w'=>e=.returned (.int .i64 (mdays y m))/\w'=w:=by
 go_enter func240,ntmps240;go_wp2
 all_goals
   go_ret
   refine⟨ret_int ?_,rfl⟩
   go_light
   simp only[mdays]
   grind
theorem b2Y (y:Int) (w:World) (h1:1<=y) (h2:y<=10001):Calls prog 228 #[.int .i64 y] w fun e w'=>e=.returned (.int .i64 (dbef y))/\w'=w:=by
 go_enter func228,ntmps228;go_wp2;go_ret;refine⟨ret_int ?_,rfl⟩;go_light;simp only[dbef]
theorem b2Z (y:Int) (w:World) (h1:1<=y) (h2:y<=10001):Calls prog 241 #[.int .i64 y] w fun e w'=>e=.returned (.int .i64 (dbef y))/\w'=w:=by
 go_enter func241,ntmps241;go_wp2;go_ret;refine⟨ret_int ?_,rfl⟩;go_light;simp only[dbef];omega
end Go.Proofs.YtphmpkpcamgjeaaGreatDoor.Rx.Days
namespace Go.Proofs.YtphmpkpcamgjeaaGreatDoor.Rx.Days
open Go.ChangeShapes Go.WideShapes Go.ChangeAt Go.RowKit Go.Proofs.Tryz
def vld (y m d:Int):Prop:=(1<=y/\y<=9999)/\(1<=m/\m<=12)/\1<=d/\d<=mdays y m
def num (y m d:Int):Int:=-719162+dbef y+d-1+a3u y (m-1).toNat
theorem ret_two {k l:IntKind} {a b c d:Int} (h:a=c) (g:b=d):Ending.returned (.tuple #[.int k a,.int l b])=.returned (.tuple #[.int k c,.int l d]):=by rw[h,g]
theorem b3a (y:Int) (h1:1<=y) (h2:y<=10000):0<=dbef y/\dbef y<=3652059:=by unfold dbef;omega
theorem b0G (y:Int) (k:Nat) (h:1<=k):a3u y k=a3u y (k-1)+mdays y k:=by
 obtain⟨j,rfl⟩:∃ j,k=j+1:=⟨k-1,by omega⟩;simp[a3u]
end Go.Proofs.YtphmpkpcamgjeaaGreatDoor.Rx.Days
namespace Go.Proofs.YtphmpkpcamgjeaaGreatDoor.Rx.Days
open Go.ChangeShapes Go.WideShapes Go.ChangeAt Go.RowKit Go.Proofs.Tryz
end Go.Proofs.YtphmpkpcamgjeaaGreatDoor.Rx.Days
namespace Go.Proofs.YtphmpkpcamgjeaaGreatDoor.Rx.Days
open Go.ChangeShapes Go.WideShapes Go.ChangeAt Go.RowKit Go.Proofs.Tryz
theorem dateOf_spec_no (y m d:Int) (w:World) (h:¬ vld y m d):Calls prog 219 #[.int .i64 y,.int .i64 m,.int .i64 d] w fun e w'=>e=.returned (.tuple #[.int .i64 0,.int .i64 15])/\w'=w:=by
 unfold vld at h
 have e:y<1\/(1<=y/\9999<y)\/(1<=y/\y<=9999/\m<1)\/(1<=y/\y<=9999/\1<=m/\12<m)\/(1<=y/\y<=9999/\1<=m/\m<=12/\d<1)\/(1<=y/\y<=9999/\1<=m/\m<=12/\1<=d/\mdays y m<d):=by omega
 clear h;rcases e with h | ⟨h1,h2⟩ | ⟨h1,h2,h3⟩ | ⟨h1,h2,h3,h4⟩ | ⟨h1,h2,h3,h4,h5⟩ | ⟨h1,h2,h3,h4,h5,h6⟩
 all_goals
   go_enter func219,ntmps219
   go_wp2_with (go_at_call 227;refine(a4u _ _ _ (by omega) (by omega)).mono ?_;rintro e w' ⟨rfl,rfl⟩)
   go_ret2
   exact⟨rfl,rfl⟩
theorem dateOf_impl_no (y m d:Int) (w:World) (h:¬ vld y m d):Calls prog 236 #[.int .i64 y,.int .i64 m,.int .i64 d] w fun e w'=>e=.returned (.tuple #[.int .i64 0,.int .i64 15])/\w'=w:=by
 unfold vld at h
 have e:y<1\/(1<=y/\9999<y)\/(1<=y/\y<=9999/\m<1)\/(1<=y/\y<=9999/\1<=m/\12<m)\/(1<=y/\y<=9999/\1<=m/\m<=12/\d<1)\/(1<=y/\y<=9999/\1<=m/\m<=12/\1<=d/\mdays y m<d):=by omega
 clear h;rcases e with h | ⟨h1,h2⟩ | ⟨h1,h2,h3⟩ | ⟨h1,h2,h3,h4⟩ | ⟨h1,h2,h3,h4,h5⟩ | ⟨h1,h2,h3,h4,h5,h6⟩
 all_goals
   try (have hx:decide (d<=mdays y m)=false:=by simp;omega)
   go_enter func236,ntmps236
   go_wp2_with (first | (go_at_call 240;refine(a4v _ _ _ (by omega) (by omega)).mono ?_;rintro e w' ⟨rfl,rfl⟩) | go_in)
   go_ret2
   exact⟨rfl,rfl⟩
theorem dateOf_spec_yes (y m d:Int) (w:World) (h:vld y m d):Calls prog 219 #[.int .i64 y,.int .i64 m,.int .i64 d] w fun e w'=>e=.returned (.tuple #[.int .i64 (num y m d),.int .i64 0])/\w'=w:=by
 obtain⟨⟨h1,h2⟩,⟨h3,h4⟩,h5,h6⟩:=h;have hb:=b3a y h1 (by omega);have hm:=a4b y m;go_enter func219,ntmps219;go_wp2_with (first | (go_at_call 227;refine(a4u _ _ _ (by omega) (by omega)).mono ?_;rintro e w' ⟨rfl,rfl⟩) | (go_at_call 228;refine(b2Y _ _ (by omega) (by omega)).mono ?_;rintro e w' ⟨rfl,rfl⟩));go_loop [8,9] (fun n i=>∃ k:Nat,1<=k/\(k:Int)<=m/\i=.int .i64 k/\n=.int .i64 (-719162+dbef y+d-1+a3u y (k-1))) (fun _ i=>(m-intOf i).toNat)
 case atStart=>exact⟨1,by omega,by omega,rfl,by simp[a3u]⟩
 case round=>
 obtain⟨k,a0,a1,rfl,rfl⟩:=hrel;have hc:=b0F y (k-1);have hmd:=a4b y k;by_cases hlt:(k:Int)<m
 .have HS:Hid (a3u y k=a3u y (k-1)+mdays y k):=b0G y k a0;go_wp2_with (go_at_call 227;refine(a4u _ _ _ (by omega) (by omega)).mono ?_;rintro e w' ⟨rfl,rfl⟩);go_round
  case rel=>exact⟨k+1,by omega,by omega,by go_num,by simp only[Nat.add_sub_cancel];rw[HS.out];go_num⟩
  case measure=>simp[intOf];omega
 have HE:Hid ((m-1).toNat=k-1):=hid (by omega);go_wp2;go_ret2;exact⟨ret_two (by unfold num;rw[HE.out]) rfl,rfl⟩
theorem dateOf_impl_yes (y m d:Int) (w:World) (h:vld y m d):Calls prog 236 #[.int .i64 y,.int .i64 m,.int .i64 d] w fun e w'=>e=.returned (.tuple #[.int .i64 (num y m d),.int .i64 0])/\w'=w:=by
 obtain⟨⟨h1,h2⟩,⟨h3,h4⟩,h5,h6⟩:=h;have hb:=b3a y h1 (by omega);have hm:=a4b y m
 have hx:decide (d<=mdays y m)=true:=by simp;omega
 go_enter func236,ntmps236;go_wp2_with (first | (go_at_call 240;refine(a4v _ _ _ (by omega) (by omega)).mono ?_;rintro e w' ⟨rfl,rfl⟩) | (go_at_call 241;refine(b2Z _ _ (by omega) (by omega)).mono ?_;rintro e w' ⟨rfl,rfl⟩) | go_in);go_loop [8,9] (fun n i=>∃ k:Nat,1<=k/\(k:Int)<=m/\i=.int .i64 k/\n=.int .i64 (-719162+dbef y+d-1+a3u y (k-1))) (fun _ i=>(m-intOf i).toNat)
 case atStart=>exact⟨1,by omega,by omega,rfl,by simp[a3u]⟩
 case round=>
 obtain⟨k,a0,a1,rfl,rfl⟩:=hrel;have hc:=b0F y (k-1);have hmd:=a4b y k;by_cases hlt:(k:Int)<m
 .have HS:Hid (a3u y k=a3u y (k-1)+mdays y k):=b0G y k a0;go_wp2_with (go_at_call 240;refine(a4v _ _ _ (by omega) (by omega)).mono ?_;rintro e w' ⟨rfl,rfl⟩);go_round
  case rel=>exact⟨k+1,by omega,by omega,by go_num,by simp only[Nat.add_sub_cancel];rw[HS.out];go_num⟩
  case measure=>simp[intOf];omega
 have HE:Hid ((m-1).toNat=k-1):=hid (by omega);go_wp2;go_ret2;exact⟨ret_two (by unfold num;rw[HE.out]) rfl,rfl⟩
end Go.Proofs.YtphmpkpcamgjeaaGreatDoor.Rx.Days
namespace Go.Proofs.YtphmpkpcamgjeaaGreatDoor
open Go.ChangeShapes Go.WideShapes Go.ChangeAt Go.RowKit Go.Proofs.Tryz
theorem b9A {a b:Bool} (h:a=b):Ending.returned (.bool a)=.returned (.bool b):=by rw[h]
theorem below_alloc (w:World) (o:Obj):Below w.heap.size w (w.alloc o):=(Below.refl _ w).alloc (Nat.le_refl _) o
theorem bcell {W w1:World} (hb:Below W.heap.size W w1):(∀ b o,b<W.heap.size->w1.cell? ⟨b,o,none⟩=W.cell? ⟨b,o,none⟩)/\(∀ b o,b<W.heap.size->w1.frozen? ⟨b,o,none⟩=W.frozen? ⟨b,o,none⟩):=
  ⟨fun b o h=>hb.cell (p:=⟨b,o,none⟩) h,fun b o h=>hb.frozen (p:=⟨b,o,none⟩) h⟩
theorem a1p {W w':World} (hb:Below W.drew.heap.size W.drew w'):Below W.heap.size W w':=(Below.refl W.heap.size W).drew.trans hb
theorem a0J (w:World):∀ n,Below w.heap.size w (w.drewN n)
 | 0=>Below.refl _ _
 | n+1=>(a0J w n).drew
theorem a1M {w:World} {b e s g n c:Nat} {xs:List Value} {u:Value} {j:Nat} (h:w.ownsRow b e s (.slice (some ⟨g,0,none⟩) n c) n xs) (hj:xs[j]?=some u):w.cell? ⟨g,j,none⟩=some u:=by
 have:=h.cells rfl j u hj;by_cases hz:j=0
 .subst hz;simpa[Addr.add] using this
 simpa[Addr.add,hz] using this
theorem own_below {w w':World} {b e k n:Nat} {v:Value} {xs:List Value} (h:w.ownsRow b e k v n xs) (hb:Below w.heap.size w w'):w'.ownsRow b e k v n xs:=by
 have hl:=h.lt;obtain⟨h1,h2⟩:=h;refine⟨h1,?_⟩;rcases h2 with h2 | ⟨g,cap,cur,rfl,a0,a1,a2⟩
 .exact .inl h2
 exact .inr ⟨g,cap,cur,rfl,a0,(hb.block g (hl g rfl).2).trans a1,a2⟩
structure Lies {α:Type} (k:Nat) (C:Nat->World->List Value->α->Prop):Prop where
  len:∀ {B w cs x},C B w cs x->cs.length=k
  mono:∀ {B D w cs x},C B w cs x->D<=B->C D w cs x
  below:∀ {B w w' cs x},C B w cs x->Below w.heap.size w w'->C B w' cs x
  set:∀ {B w cs x} {c j:Nat} {u:Value},C B w cs x->c<B->C B (w.setCell ⟨c,j,none⟩ u) cs x
def RS {α:Type} (k:Nat) (C:Nat->World->List Value->α->Prop) (B:Nat) (w:World) (v:Value) (xs:List α):Prop:=
  ∃ a cap,v=.slice a xs.length cap/\(0<xs.length->∃ g o,a=some ⟨g,o,none⟩/\B<=g/\g<w.heap.size/\∀ i (h:i<xs.length),∃ cs,C B w cs xs[i]/\∀ j,j<k->w.cell? ⟨g,o+i*k+j,none⟩=cs[j]?)
theorem RS.mono {α:Type} {k:Nat} {C:Nat->World->List Value->α->Prop} (hC:Lies k C) {B D:Nat} {w:World} {v:Value} {xs:List α} (h:RS k C B w v xs) (hd:D<=B):RS k C D w v xs:=by
 obtain⟨a,cap,rfl,h2⟩:=h;refine⟨a,cap,rfl,fun hp=>?_⟩;obtain⟨g,o,ha,hB,hg,hc⟩:=h2 hp;exact⟨g,o,ha,Nat.le_trans hd hB,hg,fun i hi=>let ⟨cs,a,b⟩:=hc i hi;⟨cs,hC.mono a hd,b⟩⟩
theorem RS.below {α:Type} {k:Nat} {C:Nat->World->List Value->α->Prop} (hC:Lies k C) {B:Nat} {w w':World} {v:Value} {xs:List α} (h:RS k C B w v xs) (hb:Below w.heap.size w w'):RS k C B w' v xs:=by
 obtain⟨a,cap,rfl,h2⟩:=h;refine⟨a,cap,rfl,fun hp=>?_⟩;obtain⟨g,o,ha,hB,hg,hc⟩:=h2 hp;exact⟨g,o,ha,hB,Nat.lt_of_lt_of_le hg hb.size,fun i hi=>let ⟨cs,a,b⟩:=hc i hi;⟨cs,hC.below a hb,fun j hj=>(hb.cell (p:=⟨g,o+i*k+j,none⟩) hg).trans (b j hj)⟩⟩
theorem RS.set {α:Type} {k:Nat} {C:Nat->World->List Value->α->Prop} (hC:Lies k C) {B c j:Nat} {w:World} {v u:Value} {xs:List α} (h:RS k C B w v xs) (hc:c<B):RS k C B (w.setCell ⟨c,j,none⟩ u) v xs:=by
 obtain⟨a,cap,rfl,h2⟩:=h;refine⟨a,cap,rfl,fun hp=>?_⟩;obtain⟨g,o,ha,hB,hg,hc'⟩:=h2 hp;refine⟨g,o,ha,hB,by simpa using hg,fun i hi=>?_⟩;obtain⟨cs,a,b⟩:=hc' i hi;refine⟨cs,hC.set a hc,fun l hl=>?_⟩;rw[World.cell?_setCell_other w ⟨c,j,none⟩ ⟨g,o+i*k+l,none⟩ u (fun e=>by cases e;omega)];exact b l hl
def CI (B:Nat) (w:World) (cs:List Value) (x:Int):Prop:=cs=[.int .i64 x]
theorem a5P:Lies 1 CI:=⟨fun h=>by rw[h];rfl,fun h _=>h,fun h _=>h,fun h _=>h⟩
end Go.Proofs.YtphmpkpcamgjeaaGreatDoor
namespace Go.Proofs.YtphmpkpcamgjeaaGreatDoor
structure Nd where
  op:Int
  name:ByteArray:=⟨#[]⟩
  qual:ByteArray:=⟨#[]⟩
  n:Int:=0
  m:Int:=0
  vk:Int:=0
  vn:Int:=0
  vs:ByteArray:=⟨#[]⟩
  kids:List Int:=[]
  pos:Int
inductive R (α:Type) where
 | ok (a:α) (p:Nat) (o:List Nd)
 | bad (p:Nat)
def R.bind {α β:Type} (r:R α) (f:α->Nat->List Nd->R β):R β:=match r with
 | .ok a p o=>f a p o
 | .bad p=>.bad p
theorem R.bind_ok {α β:Type} (a:α) (p:Nat) (o:List Nd) (f:α->Nat->List Nd->R β):(R.ok a p o).bind f=f a p o:=rfl
theorem R.bind_bad {α β:Type} (p:Nat) (f:α->Nat->List Nd->R β):(R.bad p:R α).bind f=.bad p:=rfl
abbrev M (α:Type):=Nat->List Nd->R α
abbrev Tk:=Int×ByteArray×Int
structure Env where
  ts:List Tk
  en:Int
  rs:ByteArray->Bool
  ri:ByteArray->Int
  rd:ByteArray->Int
  rt:ByteArray->Option Int
abbrev a0l:ByteArray:=⟨#[115,101,108,101,99,116]⟩
abbrev a2m:ByteArray:=⟨#[111,114,100,101,114]⟩
abbrev k_by:ByteArray:=⟨#[98,121]⟩
abbrev a1Z:ByteArray:=⟨#[108,105,109,105,116]⟩
abbrev a0K:ByteArray:=⟨#[111,102,102,115,101,116]⟩
abbrev a2P:ByteArray:=⟨#[117,110,105,111,110]⟩
abbrev a1B:ByteArray:=⟨#[101,120,99,101,112,116]⟩
abbrev a4c:ByteArray:=⟨#[97,108,108]⟩
abbrev a0m:ByteArray:=⟨#[100,105,115,116,105,110,99,116]⟩
abbrev a2z:ByteArray:=⟨#[102,114,111,109]⟩
abbrev a1n:ByteArray:=⟨#[119,104,101,114,101]⟩
abbrev a6z:ByteArray:=⟨#[103,114,111,117,112]⟩
abbrev a1N:ByteArray:=⟨#[104,97,118,105,110,103]⟩
abbrev k_as:ByteArray:=⟨#[97,115]⟩
abbrev k_or:ByteArray:=⟨#[111,114]⟩
abbrev k_and:ByteArray:=⟨#[97,110,100]⟩
abbrev a1t:ByteArray:=⟨#[110,111,116]⟩
abbrev k_is:ByteArray:=⟨#[105,115]⟩
abbrev a1h:ByteArray:=⟨#[110,117,108,108]⟩
abbrev k_in:ByteArray:=⟨#[105,110]⟩
abbrev a5m:ByteArray:=⟨#[98,101,116,119,101,101,110]⟩
abbrev b3e:ByteArray:=⟨#[108,105,107,101]⟩
abbrev k_true:ByteArray:=⟨#[116,114,117,101]⟩
abbrev a2A:ByteArray:=⟨#[102,97,108,115,101]⟩
abbrev a3p:ByteArray:=⟨#[100,97,116,101]⟩
abbrev k_exists:ByteArray:=⟨#[101,120,105,115,116,115]⟩
abbrev a4d:ByteArray:=⟨#[99,97,115,101]⟩
abbrev a4e:ByteArray:=⟨#[99,97,115,116]⟩
abbrev a1f:ByteArray:=⟨#[119,104,101,110]⟩
abbrev a4M:ByteArray:=⟨#[116,104,101,110]⟩
abbrev a7l:ByteArray:=⟨#[101,108,115,101]⟩
abbrev a5Q:ByteArray:=⟨#[101,110,100]⟩
abbrev a2n:ByteArray:=⟨#[99,111,117,110,116]⟩
abbrev b1D:ByteArray:=⟨#[115,117,109]⟩
abbrev b1E:ByteArray:=⟨#[97,118,103]⟩
abbrev b1F:ByteArray:=⟨#[109,105,110]⟩
abbrev b1G:ByteArray:=⟨#[109,97,120]⟩
abbrev b9B:ByteArray:=⟨#[105,110,116]⟩
abbrev b3f:ByteArray:=⟨#[100,101,99,105,109,97,108]⟩
abbrev b8z:ByteArray:=⟨#[116,101,120,116]⟩
abbrev b3g:ByteArray:=⟨#[98,111,111,108,101,97,110]⟩
abbrev a1V:ByteArray:=⟨#[106,111,105,110]⟩
abbrev a5n:ByteArray:=⟨#[105,110,110,101,114]⟩
abbrev a7m:ByteArray:=⟨#[108,101,102,116]⟩
abbrev a6A:ByteArray:=⟨#[111,117,116,101,114]⟩
abbrev a5o:ByteArray:=⟨#[99,114,111,115,115]⟩
abbrev k_on:ByteArray:=⟨#[111,110]⟩
abbrev b3h:ByteArray:=⟨#[97,115,99]⟩
abbrev a7n:ByteArray:=⟨#[100,101,115,99]⟩
abbrev a4y:ByteArray:=⟨#[110,117,108,108,115]⟩
abbrev a1o:ByteArray:=⟨#[102,105,114,115,116]⟩
abbrev a1W:ByteArray:=⟨#[108,97,115,116]⟩
abbrev a0Q:ByteArray:=⟨#[105,110,115,101,114,116]⟩
abbrev b3i:ByteArray:=⟨#[105,110,116,111]⟩
abbrev a3H:ByteArray:=⟨#[118,97,108,117,101,115]⟩
abbrev a2h:ByteArray:=⟨#[100,101,102,97,117,108,116]⟩
abbrev a0S:ByteArray:=⟨#[117,112,100,97,116,101]⟩
abbrev b7d:ByteArray:=⟨#[115,101,116]⟩
abbrev a0V:ByteArray:=⟨#[100,101,108,101,116,101]⟩
abbrev a1a:ByteArray:=⟨#[99,114,101,97,116,101]⟩
abbrev a2Q:ByteArray:=⟨#[116,97,98,108,101]⟩
abbrev a2o:ByteArray:=⟨#[105,110,100,101,120]⟩
abbrev a0W:ByteArray:=⟨#[117,110,105,113,117,101]⟩
abbrev a2i:ByteArray:=⟨#[112,114,105,109,97,114,121]⟩
abbrev a7o:ByteArray:=⟨#[107,101,121]⟩
abbrev a1D:ByteArray:=⟨#[99,104,101,99,107]⟩
abbrev a2L:ByteArray:=⟨#[100,114,111,112]⟩
abbrev a2a:ByteArray:=⟨#[98,101,103,105,110]⟩
abbrev a2w:ByteArray:=⟨#[115,110,97,112,115,104,111,116]⟩
abbrev a1l:ByteArray:=⟨#[115,101,114,105,97,108,105,122,97,98,108,101]⟩
abbrev a1C:ByteArray:=⟨#[99,111,109,109,105,116]⟩
abbrev a1b:ByteArray:=⟨#[114,111,108,108,98,97,99,107]⟩
abbrev k_to:ByteArray:=⟨#[116,111]⟩
abbrev a0Y:ByteArray:=⟨#[115,97,118,101,112,111,105,110,116]⟩
abbrev a1O:ByteArray:=⟨#[114,101,108,101,97,115,101]⟩
abbrev a2j:ByteArray:=⟨#[101,120,112,108,97,105,110]⟩
abbrev a1r:ByteArray:=⟨#[99,104,101,99,107,112,111,105,110,116]⟩
abbrev g_lp:ByteArray:=⟨#[40]⟩
abbrev g_rp:ByteArray:=⟨#[41]⟩
abbrev a1c:ByteArray:=⟨#[44]⟩
abbrev a3R:ByteArray:=⟨#[46]⟩
abbrev g_star:ByteArray:=⟨#[42]⟩
abbrev a4N:ByteArray:=⟨#[59]⟩
abbrev g_eq:ByteArray:=⟨#[61]⟩
abbrev g_ne:ByteArray:=⟨#[60,62]⟩
abbrev g_lt:ByteArray:=⟨#[60]⟩
abbrev g_le:ByteArray:=⟨#[60,61]⟩
abbrev g_gt:ByteArray:=⟨#[62]⟩
abbrev g_ge:ByteArray:=⟨#[62,61]⟩
abbrev g_cat:ByteArray:=⟨#[124,124]⟩
abbrev g_plus:ByteArray:=⟨#[43]⟩
abbrev g_minus:ByteArray:=⟨#[45]⟩
abbrev g_slash:ByteArray:=⟨#[47]⟩
abbrev g_pct:ByteArray:=⟨#[37]⟩
variable (V : Env)
def Env.tk (p:Nat):Tk:=(V.ts[p]?).getD (0,⟨#[]⟩,V.en)
def Env.pos (p:Nat):Int:=(V.tk p).2.2
def Env.kd (p:Nat):Int:=(V.tk p).1
def Env.tx (p:Nat):ByteArray:=(V.tk p).2.1
def sees (p:Nat) (s:ByteArray):Bool:=(V.kd p==1 || V.kd p==6)&&(V.tx p).toList==s.toList
def isNm (p:Nat):Bool:=V.kd p==2 || (V.kd p==1&&!V.rs (V.tx p))
def must (s:ByteArray):M Unit:=fun p o=>if sees V p s then .ok () (p+1) o else .bad p
def name:M ByteArray:=fun p o=>if isNm V p then .ok (V.tx p) (p+1) o else .bad p
def lay (t:Nd):M Int:=fun p o=>.ok (o.length:Int) p (o++[t])
def bit (b:Bool):Int:=if b then 1 else 0
def stp (b:Bool):Nat:=if b then 1 else 0
def pick:List ByteArray->Nat->Option Nat
 | [],_=>none
 | s::r,p=>if sees V p s then some 0 else(pick r p).map (·+1)
def a1w (f:M Int):Nat->List Int->M (List Int)
 | 0,_=>fun p _=>.bad p
 | n+1,ks=>fun p o=>(f p o).bind fun k p o=>if sees V p a1c then a1w f n (ks++[k]) (p+1) o else .ok (ks++[k]) p o
def a0F (f:M Int):M (List Int):=a1w V f (V.ts.length+1) []
def a1i (f:M Int) (ops:List (ByteArray×Int)):Nat->Int->M Int
 | 0,_=>fun p _=>.bad p
 | n+1,l=>fun p o=>match pick V (ops.map (·.1)) p with
 | none=>.ok l p o
 | some i=>(f (p+1) o).bind fun k q o=>a1i f ops n (o.length:Int) q (o++[{ op:=5,n:=((ops[i]?).map (·.2)).getD 0,kids:=[l,k],pos:=V.pos p }])
def chain (f:M Int) (ops:List (ByteArray×Int)):M Int:=fun p o=>(f p o).bind fun l p o=>a1i V f ops (V.ts.length+1) l p o
def pre (s:ByteArray) (op:Int) (f:M Int):Nat->M Int
 | 0=>fun p _=>.bad p
 | n+1=>fun p o=>if sees V p s then(pre s op f n (p+1) o).bind (fun k q o=>lay { op:=op,kids:=[k],pos:=V.pos p } q o) else f p o
def inB (f:M Int):M Int:=fun p o=>(must V g_lp p o).bind fun _ p o=>(f p o).bind fun k p o=>(must V g_rp p o).bind fun _ p o=>.ok k p o
def a1E (f:M Int):M (List Int):=fun p o=>(must V g_lp p o).bind fun _ p o=>(a0F V f p o).bind fun ks p o=>(must V g_rp p o).bind fun _ p o=>.ok ks p o
def kindWords:List ByteArray:=[b9B,b3f,b8z,b3g,a3p]
def a3s:M Int:=fun p o=>match pick V kindWords p with
 | none=>.bad p
 | some i=>.ok (i+1:Int) (p+1) o
def lit (vk vn:Int) (vs:ByteArray) (ps:Int):M Int:=lay { op:=1,vk:=vk,vn:=vn,vs:=vs,pos:=ps }
def dayE (rt:Option Int) (ps:Int):M Int:=fun p o=>match rt with
 | some n=>lit 5 n ⟨#[]⟩ ps (p+1) o
 | none=>.bad p
def dayF (ps:Int):M Int:=fun p o=>if V.kd p==5 then dayE (V.rt (V.tx p)) ps p o else .bad p
def a1X (E:M Int):Nat->List Int->M (List Int)
 | 0,_=>fun p _=>.bad p
 | n+1,ks=>fun p o=>(must V a1f p o).bind fun _ p o=>(E p o).bind fun a p o=>(must V a4M p o).bind fun _ p o=>(E p o).bind fun b p o=>
    if sees V p a1f then a1X E n (ks++[a,b]) p o else .ok (ks++[a,b]) p o
def a1Y (E:M Int) (m ps:Int) (ks:List Int):M Int:=fun p o=>
  if sees V p a7l then(E (p+1) o).bind fun a p o=>(must V a5Q p o).bind fun _ p o=>lay { op:=12,n:=1,m:=m,kids:=ks++[a],pos:=ps } p o
  else(must V a5Q p o).bind fun _ p o=>lay { op:=12,m:=m,kids:=ks,pos:=ps } p o
def a3q (E:M Int) (ps:Int):M Int:=fun p o=>
  if sees V p a1f then(a1X V E (V.ts.length+1) [] p o).bind fun ks p o=>a1Y V E 0 ps ks p o
  else(E p o).bind fun a p o=>(a1X V E (V.ts.length+1) [a] p o).bind fun ks p o=>a1Y V E 1 ps ks p o
def a7p (E:M Int) (ps:Int):M Int:=fun p o=>(must V g_lp p o).bind fun _ p o=>(E p o).bind fun k p o=>(must V k_as p o).bind fun _ p o=>(a3s V p o).bind fun c p o=>(must V g_rp p o).bind fun _ p o=>lay { op:=13,n:=c,kids:=[k],pos:=ps } p o
def aggF (E:M Int) (i:Nat) (ps:Int):M Int:=fun p o=>(must V g_lp p o).bind fun _ p o=>
  if i==0&&sees V p g_star then(must V g_rp (p+1) o).bind fun _ p o=>lay { op:=15,n:=1,pos:=ps } p o
  else(E (p+stp (sees V p a0m)) o).bind fun k q o=>(must V g_rp q o).bind fun _ q o=>lay { op:=15,n:=(i+2:Int),m:=bit (sees V p a0m),kids:=[k],pos:=ps } q o
def aggWords:List ByteArray:=[a2n,b1D,b1E,b1F,b1G]
def a3M (E:M Int) (ps:Int):M Int:=fun p o=>(name V p o).bind fun s p o=>
  if sees V p g_lp then(if sees V (p+1) g_rp then(must V g_rp (p+1) o).bind fun _ p o=>lay { op:=14,name:=s,pos:=ps } p o
    else(a0F V E (p+1) o).bind fun ks p o=>(must V g_rp p o).bind fun _ p o=>lay { op:=14,name:=s,kids:=ks,pos:=ps } p o)
  else if sees V p a3R then(name V (p+1) o).bind fun c p o=>lay { op:=2,name:=c,qual:=s,pos:=ps } p o
  else lay { op:=2,name:=s,pos:=ps } p o
def a2B (E:M Int) (ps:Int):M Int:=fun p o=>match pick V aggWords p with
 | some i=>aggF V E i ps (p+1) o
 | none=>a3M V E ps p o
def a3K (E Q:M Int):M Int:=fun p o=>
  if V.kd p==3 then lit 1 (V.ri (V.tx p)) ⟨#[]⟩ (V.pos p) (p+1) o
  else if V.kd p==4 then lit 2 (V.rd (V.tx p)) ⟨#[]⟩ (V.pos p) (p+1) o
  else if V.kd p==5 then lit 3 0 (V.tx p) (V.pos p) (p+1) o
  else if sees V p a1h then lit 0 0 ⟨#[]⟩ (V.pos p) (p+1) o
  else if sees V p k_true then lit 4 1 ⟨#[]⟩ (V.pos p) (p+1) o
  else if sees V p a2A then lit 4 0 ⟨#[]⟩ (V.pos p) (p+1) o
  else if sees V p a3p then dayF V (V.pos p) (p+1) o
  else if sees V p k_exists then(inB V Q (p+1) o).bind fun k q o=>lay { op:=16,kids:=[k],pos:=V.pos p } q o
  else if sees V p a4d then a3q V E (V.pos p) (p+1) o
  else if sees V p a4e then a7p V E (V.pos p) (p+1) o
  else if sees V p g_lp then(if sees V (p+1) a0l then(inB V Q p o).bind fun k q o=>lay { op:=17,kids:=[k],pos:=V.pos p } q o else inB V E p o)
  else a2B V E (V.pos p) p o
def negF (E Q:M Int):M Int:=pre V g_minus 4 (a3K V E Q) (V.ts.length+1)
def mulF (E Q:M Int):M Int:=chain V (negF V E Q) [(g_star,3),(g_slash,4),(g_pct,5)]
def sumF (E Q:M Int):M Int:=chain V (mulF V E Q) [(g_plus,1),(g_minus,2)]
def catF (E Q:M Int):M Int:=chain V (sumF V E Q) [(g_cat,6)]
def cmpWords:List ByteArray:=[g_eq,g_ne,g_lt,g_le,g_gt,g_ge]
def isF (C:M Int) (l ps:Int):M Int:=fun p o=>
  let q:=p+stp (sees V p a1t)
  if sees V q a1h then lay { op:=6,n:=bit (sees V p a1t),kids:=[l],pos:=ps } (q+1) o
  else(must V a0m q o).bind fun _ q o=>(must V a2z q o).bind fun _ q o=>(C q o).bind fun m q o=>lay { op:=7,n:=bit (sees V p a1t),kids:=[l,m],pos:=ps } q o
def inF (E Q:M Int) (l nt ps:Int):M Int:=fun p o=>(must V g_lp p o).bind fun _ p o=>
  if sees V p a0l then(Q p o).bind fun k p o=>(must V g_rp p o).bind fun _ p o=>lay { op:=9,n:=nt,kids:=[l,k],pos:=ps } p o
  else(a0F V E p o).bind fun ks p o=>(must V g_rp p o).bind fun _ p o=>lay { op:=8,n:=nt,kids:=l::ks,pos:=ps } p o
def a8o (C E Q:M Int) (l ps:Int) (b:Bool):M Int:=fun q o=>
  if sees V q k_in then inF V E Q l (bit b) ps (q+1) o
  else if sees V q a5m then(C (q+1) o).bind fun m q o=>(must V k_and q o).bind fun _ q o=>(C q o).bind fun h q o=>lay { op:=10,n:=bit b,kids:=[l,m,h],pos:=ps } q o
  else if sees V q b3e then(C (q+1) o).bind fun m q o=>lay { op:=11,n:=bit b,kids:=[l,m],pos:=ps } q o
  else if b then .bad q
  else .ok l q o
def a8p (C E Q:M Int) (l:Int):M Int:=fun p o=>if sees V p k_is then isF V C l (V.pos p) (p+1) o else a8o V C E Q l (V.pos p) (sees V p a1t) (p+stp (sees V p a1t)) o
def a5R (C E Q:M Int) (l:Int):M Int:=fun p o=>match pick V cmpWords p with
 | some i=>(C (p+1) o).bind fun m q o=>lay { op:=5,n:=(i+7:Int),kids:=[l,m],pos:=V.pos p } q o
 | none=>a8p V C E Q l p o
def a4z (C E Q:M Int):M Int:=fun p o=>(C p o).bind fun l p o=>a5R V C E Q l p o
def notF (E Q:M Int):M Int:=pre V a1t 3 (a4z V (catF V E Q) E Q) (V.ts.length+1)
def andF (E Q:M Int):M Int:=chain V (notF V E Q) [(k_and,14)]
def a2t (E Q:M Int):M Int:=chain V (andF V E Q) [(k_or,15)]
def a2C:M ByteArray:=fun p o=>if sees V p k_as then name V (p+1) o else if isNm V p then name V p o else .ok ⟨#[]⟩ p o
def a2D (E:M Int):M Int:=fun p o=>
  if sees V p g_star then lay { op:=18,pos:=V.pos p } (p+1) o
  else if isNm V p&&sees V (p+1) a3R&&sees V (p+2) g_star then lay { op:=18,qual:=V.tx p,pos:=V.pos p } (p+3) o
  else(E p o).bind fun k q o=>(a2C V q o).bind fun s q o=>lay { op:=19,name:=s,kids:=[k],pos:=V.pos p } q o
def a1x (Q:M Int):M Int:=fun p o=>
  if sees V p g_lp then(inB V Q p o).bind fun k q o=>(name V (q+stp (sees V q k_as)) o).bind fun s q o=>lay { op:=32,name:=s,kids:=[k],pos:=V.pos p } q o
  else(name V p o).bind fun s q o=>(a2C V q o).bind fun x q o=>lay { op:=31,name:=s,qual:=x,pos:=V.pos p } q o
def a6B:M Int:=fun p o=>
  if sees V p a1V then .ok 1 (p+1) o
  else if sees V p a5n then(must V a1V (p+1) o).bind fun _ p o=>.ok 1 p o
  else if sees V p a7m then(must V a1V (p+1+stp (sees V (p+1) a6A)) o).bind fun _ p o=>.ok 2 p o
  else if sees V p a5o then(must V a1V (p+1) o).bind fun _ p o=>.ok 3 p o
  else .ok 0 p o
def a2W (E Q:M Int):Nat->Int->M Int
 | 0,_=>fun p _=>.bad p
 | n+1,l=>fun p o=>(a6B V p o).bind fun j q o=>if j=0 then .ok l q o
    else(a1x V Q q o).bind fun m q o=>if j=3 then a2W E Q n (o.length:Int) q (o++[{ op:=33,n:=j,kids:=[l,m],pos:=V.pos p }])
      else(must V k_on q o).bind fun _ q o=>(E q o).bind fun c q o=>a2W E Q n (o.length:Int) q (o++[{ op:=33,n:=j,kids:=[l,m,c],pos:=V.pos p }])
def a2R (E Q:M Int):M Int:=fun p o=>(a1x V Q p o).bind fun l p o=>a2W V E Q (V.ts.length+1) l p o
def a2b (E:M Int) (s:ByteArray) (op:Int) (ks:List Int):M (List Int):=fun p o=>
  if sees V p s then(E (p+1) o).bind fun k q o=>(lay { op:=op,kids:=[k],pos:=V.pos p } q o).bind fun c q o=>.ok (ks++[c]) q o else .ok ks p o
def sel5 (E:M Int) (d ps:Int) (ks:List Int):M Int:=fun r o=>(a2b V E a1N 24 ks r o).bind fun ks r o=>lay { op:=25,n:=d,kids:=ks,pos:=ps } r o
def sel4 (E:M Int) (d ps:Int) (ks:List Int):M Int:=fun r o=>if sees V r a6z then(must V k_by (r+1) o).bind fun _ q o=>(a0F V E q o).bind fun gs q o=>(lay { op:=23,kids:=gs,pos:=V.pos r } q o).bind fun c q o=>sel5 V E d ps (ks++[c]) q o else sel5 V E d ps ks r o
def sel3 (E:M Int) (d ps:Int) (ks:List Int):M Int:=fun r o=>(a2b V E a1n 22 ks r o).bind fun ks r o=>sel4 V E d ps ks r o
def sel2 (E Q:M Int) (d ps:Int) (ks:List Int):M Int:=fun r o=>if sees V r a2z then(a0F V (a2R V E Q) (r+1) o).bind fun gs q o=>(lay { op:=21,kids:=gs,pos:=V.pos r } q o).bind fun c q o=>sel3 V E d ps (ks++[c]) q o else sel3 V E d ps ks r o
def sel1 (E Q:M Int) (d ps:Int):M Int:=fun p o=>(a0F V (a2D V E) p o).bind fun gs q o=>(lay { op:=20,kids:=gs,pos:=V.pos p } q o).bind fun i q o=>sel2 V E Q d ps [i] q o
def selF (E Q:M Int):M Int:=fun p o=>(must V a0l p o).bind fun _ q o=>sel1 V E Q (bit (sees V q a0m)) (V.pos p) (q+stp (sees V q a0m)) o
def a2I (E Q:M Int):M Int:=fun p o=>if sees V p g_lp then inB V Q p o else selF V E Q p o
def bodyL (E Q:M Int):Nat->Int->M Int
 | 0,_=>fun p _=>.bad p
 | n+1,l=>fun p o=>match pick V [a2P,a1B] p with
 | none=>.ok l p o
 | some i=>(a2I V E Q (p+1+stp (sees V (p+1) a4c)) o).bind fun m q o=>bodyL E Q n (o.length:Int) q (o++[{ op:=26,n:=(i+1:Int),m:=bit (sees V (p+1) a4c),kids:=[l,m],pos:=V.pos p }])
def bodyF (E Q:M Int):M Int:=fun p o=>(a2I V E Q p o).bind fun l p o=>bodyL V E Q (V.ts.length+1) l p o
def a0X:M Int:=fun p o=>if V.kd p==3 then .ok (V.ri (V.tx p)) (p+1) o else .bad p
def keyE (k d ps:Int):M Int:=fun q o=>
  if sees V q a4y then(if sees V (q+1) a1o then lay { op:=29,n:=d,m:=1,kids:=[k],pos:=ps } (q+1+1) o
    else(must V a1W (q+1) o).bind fun _ q o=>lay { op:=29,n:=d,m:=2,kids:=[k],pos:=ps } q o)
  else lay { op:=29,n:=d,kids:=[k],pos:=ps } q o
def keyF (E:M Int):M Int:=fun p o=>(E p o).bind fun k q o=>if sees V q a7n then keyE V k 1 (V.pos p) (q+1) o else keyE V k 0 (V.pos p) (q+stp (sees V q b3h)) o
def numF (s:ByteArray):M Int:=fun p o=>if sees V p s then a0X V (p+1) o else .ok (-1) p o
def qry4 (ps:Int) (ks:List Int):M Int:=fun q o=>lay { op:=27,kids:=ks,pos:=ps } q o
def qry3 (ps:Int) (ks:List Int):M Int:=fun q o=>(numF V a1Z q o).bind fun a r o=>(numF V a0K r o).bind fun b r o=>
  if decide (0<=a) || decide (0<=b) then(lay { op:=30,n:=a,m:=b,pos:=V.pos q } r o).bind fun c r o=>qry4 ps (ks++[c]) r o else qry4 ps ks r o
def qry2 (E:M Int) (ps:Int) (ks:List Int):M Int:=fun q o=>
  if sees V q a2m then(must V k_by (q+1) o).bind fun _ r o=>(a0F V (keyF V E) r o).bind fun gs r o=>(lay { op:=28,kids:=gs,pos:=V.pos q } r o).bind fun c r o=>qry3 V ps (ks++[c]) r o else qry3 V ps ks q o
def a2M (E Q:M Int):M Int:=fun p o=>(bodyF V E Q p o).bind fun b q o=>qry2 V E (V.pos p) [b] q o
def a5S:M Int:=fun p _=>.bad p
def gr:Nat->M Int×M Int
 | 0=>(a2t V a5S a5S,a2M V (a2t V a5S a5S) a5S)
 | n+1=>(a2t V (gr n).1 (gr n).2,a2M V (a2t V (gr n).1 (gr n).2) (gr n).2)
def a0R:M Int:=fun p o=>(name V p o).bind fun s q o=>lay { op:=42,name:=s,pos:=V.pos p } q o
def a1y (E:M Int):M Int:=fun p o=>if sees V p a2h then lay { op:=45,pos:=V.pos p } (p+1) o else E p o
def rowF (E:M Int):M Int:=fun p o=>(a1E V (a1y V E) p o).bind fun ks q o=>lay { op:=44,kids:=ks,pos:=V.pos p } q o
def ins2 (E Q:M Int) (ps:Int) (s:ByteArray) (ks:List Int):M Int:=fun p o=>
  if sees V p a3H then(a0F V (rowF V E) (p+1) o).bind fun rs q o=>(lay { op:=43,kids:=rs,pos:=V.pos p } q o).bind fun k q o=>lay { op:=40,name:=s,kids:=ks++[k],pos:=ps } q o
  else(Q p o).bind fun k q o=>lay { op:=40,name:=s,kids:=ks++[k],pos:=ps } q o
def a2S (E Q:M Int) (ps:Int):M Int:=fun p o=>(must V b3i p o).bind fun _ p o=>(name V p o).bind fun s p o=>
  if sees V p g_lp&&!sees V (p+1) a0l&&!sees V (p+1) g_lp then(a1E V (a0R V) p o).bind fun gs q o=>(lay { op:=41,kids:=gs,pos:=V.pos p } q o).bind fun c q o=>ins2 V E Q ps s [c] q o else ins2 V E Q ps s [] p o
def setF (E:M Int):M Int:=fun p o=>(name V p o).bind fun s q o=>(must V g_eq q o).bind fun _ q o=>(a1y V E q o).bind fun k q o=>lay { op:=47,name:=s,kids:=[k],pos:=V.pos p } q o
def a2T (E:M Int) (ps:Int):M Int:=fun p o=>(name V p o).bind fun s p o=>(must V b7d p o).bind fun _ p o=>(a0F V (setF V E) p o).bind fun ks p o=>(a2b V E a1n 22 ks p o).bind fun ks p o=>lay { op:=46,name:=s,kids:=ks,pos:=ps } p o
def a3v (E:M Int) (ps:Int):M Int:=fun p o=>(must V a2z p o).bind fun _ p o=>(name V p o).bind fun s p o=>(a2b V E a1n 22 [] p o).bind fun ks p o=>lay { op:=48,name:=s,kids:=ks,pos:=ps } p o
def a4O (op ps:Int):M Int:=fun p o=>(a1E V (a0R V) p o).bind fun ks p o=>lay { op:=op,kids:=ks,pos:=ps } p o
def a3r (E:M Int) (ps:Int):M Int:=fun p o=>(inB V E p o).bind fun k p o=>lay { op:=52,kids:=[k],pos:=ps } p o
def colL (E G:M Int) (s:ByteArray) (kd ps:Int):Nat->Bool->Bool->Bool->List Int->M Int
 | 0,_,_,_,_=>fun p _=>.bad p
 | n+1,a,b,c,ks=>fun p o=>
    if sees V p a1t then(must V a1h (p+1) o).bind fun _ q o=>colL E G s kd ps n true b c ks q o
    else if sees V p a2i then(must V a7o (p+1) o).bind fun _ q o=>colL E G s kd ps n a true c ks q o
    else if sees V p a0W then colL E G s kd ps n a b true ks (p+1) o
    else if sees V p a2h then(G (p+1) o).bind fun k q o=>colL E G s kd ps n a b c (ks++[(o.length:Int)]) q (o++[{ op:=51,kids:=[k],pos:=V.pos p }])
    else if sees V p a1D then(a3r V E (V.pos p) (p+1) o).bind fun k q o=>colL E G s kd ps n a b c (ks++[k]) q o
    else lay { op:=50,name:=s,n:=kd,m:=bit a+2*bit b+4*bit c,kids:=ks,pos:=ps } p o
def a2u (E G:M Int):M Int:=fun p o=>
  if sees V p a2i then(must V a7o (p+1) o).bind fun _ q o=>a4O V 53 (V.pos p) q o
  else if sees V p a0W then a4O V 54 (V.pos p) (p+1) o
  else if sees V p a1D then a3r V E (V.pos p) (p+1) o
  else(name V p o).bind fun s q o=>(a3s V q o).bind fun kd q o=>colL V E G s kd (V.pos p) (V.ts.length+1) false false false [] q o
def a2U (E G:M Int) (ps:Int):M Int:=fun p o=>
  if sees V p a2Q then(name V (p+1) o).bind fun s p o=>(a1E V (a2u V E G) p o).bind fun ks p o=>lay { op:=49,name:=s,kids:=ks,pos:=ps } p o
  else(must V a2o (p+stp (sees V p a0W)) o).bind fun _ q o=>(name V q o).bind fun s q o=>(must V k_on q o).bind fun _ q o=>(name V q o).bind fun x q o=>(a1E V (a0R V) q o).bind fun ks q o=>lay { op:=55,name:=s,qual:=x,n:=bit (sees V p a0W),kids:=ks,pos:=ps } q o
def nmF (op ps:Int):M Int:=fun p o=>(name V p o).bind fun s p o=>lay { op:=op,name:=s,pos:=ps } p o
def b3j (ps:Int):M Int:=fun p o=>if sees V p a2Q then nmF V 56 ps (p+1) o else(must V a2o p o).bind fun _ p o=>nmF V 57 ps p o
def a4f (ps:Int):M Int:=fun p o=>match pick V [a2w,a1l] p with
 | some i=>lay { op:=58,n:=(i+1:Int),pos:=ps } (p+1) o
 | none=>lay { op:=58,pos:=ps } p o
def a8q (ps:Int):M Int:=fun p o=>if sees V p k_to then nmF V 60 ps (p+1) o else lay { op:=60,pos:=ps } p o
def stmF (E Q G:M Int):M Int:=fun p o=>
  if sees V p a0Q then a2S V E Q (V.pos p) (p+1) o
  else if sees V p a0S then a2T V E (V.pos p) (p+1) o
  else if sees V p a0V then a3v V E (V.pos p) (p+1) o
  else if sees V p a1a then a2U V E G (V.pos p) (p+1) o
  else if sees V p a2L then b3j V (V.pos p) (p+1) o
  else if sees V p a2a then a4f V (V.pos p) (p+1) o
  else if sees V p a1C then lay { op:=59,pos:=V.pos p } (p+1) o
  else if sees V p a1b then a8q V (V.pos p) (p+1) o
  else if sees V p a0Y then nmF V 61 (V.pos p) (p+1) o
  else if sees V p a1O then nmF V 62 (V.pos p) (p+1) o
  else if sees V p a2j then(Q (p+1) o).bind fun k q o=>lay { op:=63,kids:=[k],pos:=V.pos p } q o
  else if sees V p a1r then lay { op:=64,pos:=V.pos p } (p+1) o
  else Q p o
end Go.Proofs.YtphmpkpcamgjeaaGreatDoor
