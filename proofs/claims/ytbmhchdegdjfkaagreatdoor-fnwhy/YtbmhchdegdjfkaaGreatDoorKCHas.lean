import Derived.Test.YtbmhchdegdjfkaaGreatDoorKCLead
import Derived.Test.YtbmhchdegdjfkaaGreatDoorKBBehind
set_option maxRecDepth 100000
set_option maxHeartbeats 25600000
namespace Go.Proofs.YtbmhchdegdjfkaaGreatDoor
open Go.RowKit Go.Proofs.Tryz
section
variable {B : Nat} {Kf Kc : Nat -> Prop} {W0 : KH} {Kq : List Qz} {wz W W' : KH} {bb : Nat} {a : KG} {cap : Nat} {rd : KG} {rn rc : Nat} {mb mx : Nat} {ts0 ts : List Zk} {d0 d : KG} {dc : Nat} {f : KC -> KI} {ws : KC -> List Nat}
theorem InB.fE(h:InB B Kf Kc (Fy ts0) W0 Kq wz W bb a cap rd rn rc mb mx ts d dc f ws){i:Nat}(b:i<ts0.length):∃(j:Nat) (t:Zk),ts[j]? =some t/\t.tb=yh ts0 i/\t.r.name= (Bw ts0).getD i ByteArray.empty:=by
 obtain⟨t,c,e,k⟩:=h.bm.oth.has (ts0[i].tb,ts0[i].r.name) (Ju.2 ⟨ts0[i],Ji b,rfl⟩);obtain⟨j,l⟩:=List.getElem?_of_mem c;exact⟨j,t,l,by rw[e];simp[yh,List.getD,b],by rw[k];simp[Bw,List.getD,b]⟩
theorem InB.row(j:InB B Kf Kc (Fy ts0) W0 Kq wz W bb a cap rd rn rc mb mx ts d dc f ws){base k:Nat}(b:W0.ownsRow base 103 1 (.slice d0 ts0.length k) ts0.length (ts0.map Zk.ptr))(l:∀g,d0=some ⟨g,0,none⟩->Kf g){i:Nat}(c:i<ts0.length):∃g,d0=some ⟨g,0,none⟩/\W.cell? ⟨g,i,none⟩=some (.pointer (some ⟨yh ts0 i,0,none⟩)):=by
 rcases b.2 with⟨e,_⟩|⟨g,p,q,e,_⟩
 ·exfalso
  simp only[JJ] at e;omega
 ·simp only[JJ] at e;obtain⟨rfl,_,rfl⟩:=e;refine⟨g,rfl, ?_⟩;have h:=b.cells (g:=g) rfl i (ts0[i]).ptr (by simp[c]);have m:W.cell? ⟨g,i,none⟩=W0.cell? ⟨g,i,none⟩:=Jl (w:=W0) (j.same g (l g rfl));rw[m];have n:((⟨g,0,none⟩:Addr).add i)= ⟨g,i,none⟩:=by simp[Addr.add];omega
  rw[n] at h;rw[h];simp[Zk.ptr,yh,List.getD,c]
theorem InB.sees(h:InB B Kf Kc (Fy ts0) W0 Kq wz W bb a cap rd rn rc mb mx ts d dc f ws)(v:BS Kq ts ws){base w:Nat}(x:W0.ownsRow base 103 1 (.slice d0 ts0.length w) ts0.length (ts0.map Zk.ptr))(y:∀g,d0=some ⟨g,0,none⟩->Kf g){i:Nat}(n:i<ts0.length):
  (CO d0 (yh ts0) i W/\dI (Kk Kq) (Qq (Qj ts)) ((Bw ts0).getD i ByteArray.empty))\/(EP d0 (yh ts0) i W/\¬dI (Kk Kq) (Qq (Qj ts)) ((Bw ts0).getD i ByteArray.empty)):=by
 obtain⟨g,e,p⟩:=h.row x y n;obtain⟨I,t,A,C,D⟩:=h.fE n;have k:t∈ts:=Jm A;have q:=h.bm.fE t k;have b:W.cell? ⟨t.tb,1,none⟩=some (.bool t.r.over):=q.rng 1 _ rfl;have c:W.cell? ⟨t.tb,9,none⟩=some (.int .i64 (t.op:Int)):=q.rng 9 _ rfl;have l:Qq (Qj ts) t.r.name=some t.r:=bn h.bm.asc (JQ k);rw[C] at b c;rw[D] at l;have r:=v.can k;by_cases j:aV (Kk Kq) (Qq (Qj ts)) t.r
 ·obtain⟨E,F⟩:=r.1 j;rw[E] at b;rw[F] at c;exact .inl ⟨⟨g,e,p,b,c⟩,⟨t.r,l,j⟩⟩
 ·refine .inr ⟨⟨g,e,p, ?_⟩,fun ⟨J,s,G⟩=>?_⟩
  ·cases m:t.r.over with
   | true=>left;rw[b,m]
   | false=>
    right
    refine⟨by rw[b,m],t.op,fun H=>j (r.2 ⟨m,H⟩),c⟩
  ·rw[l] at s;cases s;exact j G
def ApI(B:Nat)(Kf Kc:Nat->Prop)(W0:KH)(Kq:List Qz)(wz:KH)(bb:Nat)(a:KG)(cap:Nat)(rd:KG)(rn rc:Nat)(mb:Nat)(ts0:List Zk)(Gl σ0:Env)(c:Nat)(i:Nat)(W:KH):Prop:=
 ∃(mx:Nat) (ts:List Zk) (d:KG) (dc:Nat) (f:KC->KI) (ws:KC->List Nat) (b:Bool),
  InB B Kf Kc (Fy ts0) W0 Kq wz W bb a cap rd rn rc mb mx ts d dc f ws/\BS Kq ts ws/\mQ Kq Gl σ0 (Qq (Qj ts0)) (Bw ts0) (Qq (Qj ts)) i b/\mx+6*qV Kq ts<=9000/\W.cell? ⟨c,0,none⟩=some (.bool b)/\W.frozen? ⟨c,0,none⟩=false
theorem ApI.calm{x y:Env}{c i:Nat}(w:Kc c):Calm B (ApI B Kf Kc W0 Kq wz bb a cap rd rn rc mb ts0 x y c i):=by
 constructor
 ·rintro W o E ⟨e,f,h,j,k,l,b,d,n,p,q,r,s⟩;have t:c<W.heap.size:=d.bm.oth.lt c (.inr w);exact⟨e,f,h,j,k,l,b,d.kept ((K_.refl W).alloc o),n,p,q,(((K_.refl W).alloc o).cell t).trans r,(((K_.refl W).alloc o).rules.2 c 0 t).trans s⟩
 ·rintro W F o v A C D ⟨e,f,h,j,k,l,b,d,n,p,q,r,s⟩;have t:=d.lt c (.inr w);exact⟨e,f,h,j,k,l,b,d.calm v A C D,n,p,q,(jR v (by omega)).trans r,(uG v (by omega)).trans s⟩
end
theorem Cc(w:KH)(a:KG)(p:Nat)(l:List KC)(x:KC)(v:l.length<=1048576)(q:Strs w a l):
  Calls prog 118 #[.slice a l.length p,.string x] w fun e w'=>(∃i:Int,e= .returned (.int .i64 i)/\(0<=i↔x∈l))/\w'=w:=by
 go_enter func118,ntmps118
 go_wp2
 go_loopw [8] (fun i wr=>∃k:Nat,k<=l.length/\i= .int .i64 (k:Int)/\Hid (x∉l.take k)/\wr=w) (fun i _=>l.length-(intOf i).toNat)
 case atStart=>exact⟨0,Ja _,rfl,Kz (by simp),rfl⟩
 case round=>
  obtain⟨k,A,rfl,j,rfl⟩:=hrel;by_cases c:k<l.length
  ·obtain⟨b,o,r,B,s⟩:=q k c;subst r;obtain⟨y,d⟩:=ah (l.getD k ByteArray.empty);rw[<-d] at s;have m:l[k]=y:=by rw[d];simp[List.getD,c]
   have n:=Kz m;have C:(k:Int)<(l.length:Int):=by omega
   clear d m;cases f:(x.toList == y.toList)
   ·go_wp2
    go_roundw
    case rel=>
     refine⟨k+1,by omega,by go_num,Kz (fun h=>?_),trivial⟩;rw[Jf c,n.o] at h;rcases Jh.1 h with h | h
     ·exact j.o h
     ·rw[Jg] at h;rw[h] at f;simp at f
    case measure=>simp[intOf];omega
   ·go_wp2
    go_ret
    exact⟨⟨_,rfl,fun _=>by rw[fu f,<-n.o];exact Ji c,fun _=>by omega⟩,rfl⟩
  ·have D:¬((k:Int)<(l.length:Int)):=by omega
   have t:Hid (x∉l):=by have h:=j.o;rw[JC (by omega)] at h;exact h
   clear c;go_wp2
   go_ret
   exact⟨⟨_,rfl,fun h=>by omega,fun h=>Ki h t.o⟩,rfl⟩
theorem u_(w:KH)(a:KG)(f:Nat)(l:List KC)(x:KC)(i:l.length<=1048576)(j:Strs w a l):
  Calls prog 76 #[.slice a l.length f,.string x] w fun e w'=>Says e (x∈l)/\w'=w:=by
 go_enter func76,ntmps76
 go_wp2_with fail
 refine (Cc w a f l x i j).mono ?_;rintro e w1 ⟨⟨k,rfl,b⟩,c⟩;rw[c];cases h:decide ((0:Int)<=k)
 ·have d:Hid (x∉l):=fun m=>by have:=b.2 m;simp[this] at h
  clear b c;go_wp2
  go_ret
  exact⟨Says.no d.o,rfl⟩
 ·have d:=Kz (b.1 (by simpa using h));clear b c;go_wp2
  go_ret
  exact⟨Says.yes d.o,rfl⟩
