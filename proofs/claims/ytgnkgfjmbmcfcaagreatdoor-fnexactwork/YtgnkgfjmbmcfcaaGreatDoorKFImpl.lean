import Derived.Test.YtgnkgfjmbmcfcaaGreatDoorKFSum
import Derived.Test.YtgnkgfjmbmcfcaaGreatDoorKFFmt2
import Derived.Test.YtgnkgfjmbmcfcaaGreatDoorKShelf
set_option maxRecDepth 100000
set_option maxHeartbeats 25600000
namespace Go.Proofs.YtgnkgfjmbmcfcaaGreatDoor
open Go.RowKit Go.Proofs.Tryz
theorem zz(w:Qy)(v:Nat)(d:v<18446744073709551616)(f:oD w):
  Calls prog 234 #[.int .u64 v,.int .i64 16] w fun e w'=>(∃(n:Nat) (b:Qw),e= .returned (.string b)/\b.data.toList=ky n v/\1<=n/\n<=16/\v<16 ^ n)/\K_ w w':=by
 go_enter func234,ntmps234
 go_wp2_with fail
 refine (zX _ v d f).mono ?_;rintro e l ⟨⟨n,b,rfl,a,g,h,c⟩,i⟩;have⟨j,k⟩:=aD a c;clear a c;go_wp2
 go_ret
 exact⟨⟨n,b,rfl,j.o,g,h,k.o⟩,i⟩
theorem yL(w:Qy)(v:Nat)(d:v<18446744073709551616)(f:oD w):
  Calls prog 216 #[.int .u64 v,.int .i64 16] w fun e w'=>(∃(n:Nat) (b:Qw),e= .returned (.string b)/\b.data.toList=ky n v/\1<=n/\n<=16/\v<16 ^ n)/\K_ w w':=by
 go_enter func216,ntmps216
 go_wp2_with fail
 refine (zz _ v d f).mono ?_;rintro e l ⟨⟨n,b,rfl,a,g,h,c⟩,i⟩;have⟨j,k⟩:=aD a c;clear a c;go_wp2
 go_ret
 exact⟨⟨n,b,rfl,j.o,g,h,k.o⟩,i⟩
theorem FI(w:Qy)(v:Nat)(d:v<18446744073709551616)(f:oD w):
  Calls prog 201 #[.int .u64 v,.int .i64 16] w fun e w'=>(∃b:Qw,e= .returned (.string b)/\b.data.toList=ky 16 v)/\K_ w w':=by
 go_enter func201,ntmps201
 go_wp2_with fail
 refine (yL _ v d f).mono ?_;rintro e p ⟨⟨n,b,rfl,a,q,r,c⟩,g⟩;have s:b.size=n:=by have:=congrArg List.length a;rw[iO] at this;simpa using this
 have⟨h,i⟩:=aD a c;clear a c;obtain⟨m,j⟩:∃m:Nat,m+n=16:=⟨16-n,by omega⟩;have t:(16:Int)-(n:Int)= (m:Int):=by omega
 have x:(⟨#[48]⟩:Qw).data.toList=[48]:=rfl;have k:(⟨#[48]⟩:Qw).size*m<=140737488355328:=by rw[show (⟨#[48]⟩:Qw).size=1 from rfl];omega
 have y:(m:Int)<=9223372036854775807:=by omega
 go_wp2_with fail
 refine (Tryz.strings_Repeat ⟨#[48]⟩ m _ (by omega) k).mono ?_;rintro e z ⟨rfl,l⟩;have A:(⟨(Lib.repeatL [48] m).toArray⟩:Qw).size<=16:=by show (Lib.repeatL [48] m).toArray.size<=16;rw[List.size_toArray,Lib.repeatL_length];simp;omega
 go_wp2
 go_ret
 refine⟨⟨_,rfl, ?_⟩,K_.trans g l⟩;rw[fG,h.o,<-j,El n v i.o m]
 congr 1
 have:=Lib.repeatL_replicate 48 1 m;simpa using this
def JE(s:Qw):Prop:=200<s.size
theorem sj(w:Qy)(s:Qw):Calls prog 199 #[.string s] w fun e w'=>Says e (JE s)/\w'=w:=by
 by_cases h:(200:Int)<s.size
 ·have b:decide ((200:Int)<s.size)=true:=by simpa using h
  go_enter func199,ntmps199
  go_wp2
  go_ret
  exact⟨Says.congr (p:=True) (Says.yes trivial) ⟨fun _=>by unfold JE;omega,fun _=>trivial⟩,rfl⟩
 ·have b:decide ((200:Int)<s.size)=false:=by simpa using h
  go_enter func199,ntmps199
  go_wp2
  go_ret
  exact⟨Says.congr (p:=False) (Says.no id) ⟨False.elim,fun g=>by unfold JE at g;omega⟩,rfl⟩
def CU(l:List Qw):Prop:=∃i,i<l.length/\JE (l.getD i ByteArray.empty)
theorem zl(w:Qy)(a:Qx)(cap:Nat)(l:List Qw)(t:l.length<=maxLen)(v:Strs w a l):
  Calls prog 212 #[.slice a l.length cap,.func (.func 199) #[] #[]] w fun e w'=>(∃r,e= .returned (.int .i64 r)/\(0<=r↔CU l))/\w'=w:=by
 unfold maxLen at t;go_enter func212,ntmps212
 go_wp2
 go_loop [8] (fun i=>∃k:Nat,k<=l.length/\i= .int .i64 k/\∀j,j<k->¬JE (l.getD j ByteArray.empty)) (fun i=>l.length-(intOf i).toNat)
 case atStart=>exact⟨0,OW _,rfl,fun j g=>aB g⟩
 case round=>
  obtain⟨k,A,rfl,h⟩:=hrel;have m:=Kz h;clear h;by_cases n:k<l.length
  ·obtain⟨b,o,rfl,B,x⟩:=v k n;obtain⟨c,d⟩:=ag (l.getD k ByteArray.empty);rw[<-d] at x;have p:=Kz d;clear d;go_wp2_with fail
   refine (sj _ c).mono ?_;rintro e C ⟨f,rfl⟩;rcases f.cases with⟨rfl,q⟩|⟨rfl,s⟩
   ·have y:=Kz q;clear q f;go_wp2
    go_ret
    exact⟨⟨k,rfl,⟨fun _=>⟨k,n,by rw[<-p.o];exact y.o⟩,fun _=>by omega⟩⟩,rfl⟩
   ·have z:=Kz s;clear s f;go_wp2
    go_round
    case rel=>
     refine⟨k+1,by omega,by go_num,fun j g=>?_⟩;by_cases e:j=k
     ·subst e;rw[<-p.o];exact z.o
     ·exact m.o j (by omega)
    case measure=>simp[intOf];omega
  ·go_wp2
   go_ret
   exact⟨⟨-1,rfl,⟨fun D=>by omega,fun ⟨i,E,e⟩=>Qi e (m.o i (by omega))⟩⟩,rfl⟩
theorem uk(w:Qy)(a:Qx)(cap:Nat)(l:List Qw)(g:l.length<=maxLen)(h:Strs w a l):
  Calls prog 198 #[.slice a l.length cap,.func (.func 199) #[] #[]] w fun e w'=>Says e (CU l)/\w'=w:=by
 go_enter func198,ntmps198
 go_wp2_with fail
 refine (zl _ a cap l g h).mono ?_;rintro e k ⟨⟨r,rfl,d⟩,rfl⟩;have f:=Kz d;clear d;by_cases c:0<=r
 ·have i:decide (0<=r)=true:=by simpa using c
  go_wp2
  go_ret
  exact⟨Says.congr (p:=True) (Says.yes trivial) ⟨fun _=>f.o.1 c,fun _=>trivial⟩,rfl⟩
 ·have i:decide (0<=r)=false:=by simpa using c
  go_wp2
  go_ret
  exact⟨Says.congr (p:=False) (Says.no id) ⟨False.elim,fun j=>by have:=f.o.2 j;omega⟩,rfl⟩
