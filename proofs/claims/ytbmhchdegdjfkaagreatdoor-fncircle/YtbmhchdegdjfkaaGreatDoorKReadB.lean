import Derived.Test.YtbmhchdegdjfkaaGreatDoorKVBfs
import Derived.ProofKit
set_option maxRecDepth 100000
set_option maxHeartbeats 25600000
namespace Go.Proofs.YtbmhchdegdjfkaaGreatDoor
open Go.RowKit Go.Proofs.Tryz
theorem tJ(w:LP)(s:Xj)(C F:LM)(G K:Nat)(n:Int)(l:s.Fits)(V:0<=n/\n<=20)
  (L:Strs w C s.asks) (M:kv w F s.cases) (W:s.fin=false) (X:uf s n):
  Calls prog 122 #[.agg #[.slice C s.asks.length G,.int .i64 s.on,.slice F s.cases.length K,.int .i64 s.els,.int .i64 s.fall,.bool s.fin,.bool s.bad,.string s.give],.int .i64 n] w
   fun e w'=>Says e (ug s n)/\K_ w w':=by
 rw[W];obtain⟨a5,a6⟩:=V;have Y:=l.asks;have Z:=l.cases;have a0:=l.give;unfold maxLen at Y Z a0;have N:=rf s.give;have O:=Kz N;clear N;obtain⟨a1,P,a7,Q,b1,⟨a8,a9⟩,⟨b0,b5⟩,R⟩:=X;have b2:s.give.toList=[]:=O.o.2 P;have HN:=Kz Q;rw[a1];have H:K_ w (w.alloc (.cells #[.slice C s.asks.length G,.int .i64 s.on,.slice F s.cases.length K,.int .i64 s.els,.int .i64 s.fall,.bool false,.bool false,.string s.give] 83)):=ag _ _;clear P Q O;have b3:s.els<=n-1:=by omega
 have b4:s.fall<=n-1:=by omega
 have S:=Kz R;clear R;go_enter func122,ntmps122
 go_wp2_with fail
 refine (kP _ C G s.asks l.asks l.dM (L.kept H)).mono ?_;rintro e w1 ⟨T,D⟩;have d:=H.trans D;rcases T.cases with⟨rfl,a2⟩|⟨rfl,a3⟩
 ·clear a2 T;obtain⟨b6,b7⟩:=D.rules;have a4:=D.size;simp only[KR] at a4;clear H D;have U:=M.kept d;clear M L;by_cases E:s.on=0
  ·have ho:(s.on != 0)=false:=by rw[E];rfl
   clear E;go_wp2
   go_loop [5] (fun m=>∃k:Nat,k<=s.cases.length/\m= .int .i64 k/\∀j,j<k->dR s n j) (fun m=>s.cases.length-(intOf m).toNat)
   case atStart=>exact⟨0,JR _,rfl,fun j p=>aT p⟩
   case round=>
    obtain⟨k,hk,rfl,r⟩:=hrel;have t:=Kz r;clear r;by_cases a:k<s.cases.length
    ·obtain⟨b,o,rfl,hb,f⟩:=U k a;have v:(s.cases.getD k bK.zero).text.size<=maxLen:=(l.dh _ (by simp[List.getD,a])).1;obtain⟨c,q⟩:=aj (s.cases.getD k bK.zero);rw[<-q] at f v;have i:=Kz q;clear q;unfold maxLen at v;have I:=f 0 _ rfl;have c1:=f 1 _ rfl;simp only[La] at I;clear f;by_cases d1:(c.text.size:Int)<=200
     ·by_cases d2:0<=c.goto
      ·cases x:decide (c.goto<=n-1)
       ·have J:n-1<c.goto:=by simpa using x
        go_wp2
        go_ret
        exact⟨Says.no fun h=>by have:=h k a;unfold dR at this;rw[<-i.o] at this;obtain⟨y,A,B⟩:=this;omega,d⟩
       ·have J:c.goto<=n-1:=by simpa using x
        go_wp2
        go_round
        case rel=>
         refine⟨k+1,by omega,by go_num,fun j p=>?_⟩;by_cases e:j=k
         ·subst e;unfold dR;rw[<-i.o];exact⟨by omega,by omega,by omega⟩
         ·exact a_ t j (by omega)
        case measure=>simp[intOf];omega
      ·go_wp2
       go_ret
       exact⟨Says.no fun h=>by have:=h k a;unfold dR at this;rw[<-i.o] at this;obtain⟨y,A,B⟩:=this;omega,d⟩
     ·go_wp2
      go_ret
      exact⟨Says.no fun h=>by have:=h k a;unfold dR at this;rw[<-i.o] at this;obtain⟨y,A,B⟩:=this;omega,d⟩
    ·go_wp2
     go_ret
     exact⟨Says.yes fun j p=>a_ t j (by omega),d⟩
  ·have ho:(s.on != 0)=true:=bne_iff_ne.2 E;have o1:0<=s.on:=by have:=S.o;omega
   have o3:s.on<=(s.asks.length:Int)-1:=by have:=S.o;omega
   clear E;go_wp2
   go_loop [5] (fun m=>∃k:Nat,k<=s.cases.length/\m= .int .i64 k/\∀j,j<k->dR s n j) (fun m=>s.cases.length-(intOf m).toNat)
   case atStart=>exact⟨0,JR _,rfl,fun j p=>aT p⟩
   case round=>
    obtain⟨k,hk,rfl,r⟩:=hrel;have t:=Kz r;clear r;by_cases a:k<s.cases.length
    ·obtain⟨b,o,rfl,hb,f⟩:=U k a;have v:(s.cases.getD k bK.zero).text.size<=maxLen:=(l.dh _ (by simp[List.getD,a])).1;obtain⟨c,q⟩:=aj (s.cases.getD k bK.zero);rw[<-q] at f v;have i:=Kz q;clear q;unfold maxLen at v;have I:=f 0 _ rfl;have c1:=f 1 _ rfl;simp only[La] at I;clear f;by_cases d1:(c.text.size:Int)<=200
     ·by_cases d2:0<=c.goto
      ·cases x:decide (c.goto<=n-1)
       ·have J:n-1<c.goto:=by simpa using x
        go_wp2
        go_ret
        exact⟨Says.no fun h=>by have:=h k a;unfold dR at this;rw[<-i.o] at this;obtain⟨y,A,B⟩:=this;omega,d⟩
       ·have J:c.goto<=n-1:=by simpa using x
        go_wp2
        go_round
        case rel=>
         refine⟨k+1,by omega,by go_num,fun j p=>?_⟩;by_cases e:j=k
         ·subst e;unfold dR;rw[<-i.o];exact⟨by omega,by omega,by omega⟩
         ·exact a_ t j (by omega)
        case measure=>simp[intOf];omega
      ·go_wp2
       go_ret
       exact⟨Says.no fun h=>by have:=h k a;unfold dR at this;rw[<-i.o] at this;obtain⟨y,A,B⟩:=this;omega,d⟩
     ·go_wp2
      go_ret
      exact⟨Says.no fun h=>by have:=h k a;unfold dR at this;rw[<-i.o] at this;obtain⟨y,A,B⟩:=this;omega,d⟩
    ·go_wp2
     go_ret
     exact⟨Says.yes fun j p=>a_ t j (by omega),d⟩
 ·exact Lv HN.o a3
open Go.RowKit Go.Deep Go.ChangeShapes
section
variable {H : Type} {enc : TypeId × LQ -> H} {w : LP} {base : Nat} {spare : Nat -> Bool} {held : Bool}
theorem Tryz.cellsByte :prog.cellsOf 5=1:=by kernel_rfl
theorem Ed{fuel:Nat}{cs:List LQ}{x:DataW H×List MemPlace}(j:DataW.trod enc prog w base spare held fuel 22 cs=some x):
  ∃a bs c,cs=[.slice a (bs:List UInt8).length c]/\BytesAt w a bs/\bs.length<=maxLen/\bs.length<=c:=by
 rcases open_ints underlying22 underlying5 Tryz.cellsByte j with⟨rfl,_⟩|⟨a,len,c,b,rfl,_,k,y,l,_,h,m⟩
 ·exact⟨none,[],0,rfl,fun i d=>aT d,JR _,JR _⟩
 ·have A:len<=b.length:=by rw[l];split <;> omega
  have e:((b.take len).map fun n=>UInt8.ofNat n.toNat).length=len:=by simp;omega
  refine⟨some a,(b.take len).map fun n=>UInt8.ofNat n.toNat,c,by rw[e],fun i d=>?_,by rw[e];omega,by rw[e];exact k⟩;rw[e] at d;obtain⟨p,q,r⟩:=a;have s:r=none:=by simpa[Addr.add] using World.cell?_spot (h 0 (by omega))
  subst s;have f:=h i (by omega);rw[KZ] at f;refine⟨p,q,rfl,World.block_lt_of_cell? _ _ f, ?_⟩;rw[f];have t:=m (b.getD i 0) (by simp[List.getD,(by omega:i<b.length)]);simp[Lit.wf,IntKind.min,IntKind.max,IntKind.signed,IntKind.bits] at t;have v:(((b.take len).map fun n=>UInt8.ofNat n.toNat).getD i 0)=UInt8.ofNat (b.getD i 0).toNat:=by simp[List.getD,d,(by omega:i<b.length)]
  rw[v];simp;omega
end
