import Derived.Test.YtgnkgfjmbmcfcaaGreatDoorKFImpl
set_option maxRecDepth 100000
set_option maxHeartbeats 25600000
namespace Go.Proofs.YtgnkgfjmbmcfcaaGreatDoor
open Go.RowKit Go.Proofs.Tryz
theorem LF(w:Qy)(a:Qx)(cap:Nat)(l:List Qw)(f:l.length<=cap)(r:l.length<=100)(g:(Lib.join (texts l) [44]).length<=140737488355328)(c:Strs w a l):
  Calls prog 200 #[.slice a l.length cap,.string ⟨#[44]⟩] w fun e w'=>(∃b:Qw,e= .returned (.string b)/\b.data.toList=Lib.join (texts l) [44])/\K_ w w':=by
 by_cases h:l.length=0
 ·have i:l=[]:=Qo h;subst i;refine (Tryz.strings_Join_none a cap ⟨#[44]⟩ w).mono ?_;rintro e w' ⟨rfl,rfl⟩;exact⟨⟨_,rfl,rfl⟩,K_.refl _⟩
 ·obtain⟨b,o,rfl,j,_⟩:=c 0 (by omega);refine (Tryz.strings_Join b o cap l ⟨#[44]⟩ w (fun k x m=>?_) j (by omega) f g).mono ?_
  ·obtain⟨d,n⟩:=O_.1 m;obtain⟨t,v,e,_,p⟩:=c k d;simp only[PN,Qt,and_true] at e;obtain⟨rfl,rfl⟩:=e;rw[p];simp[List.getD,d,n]
  ·rintro e w' ⟨rfl,q⟩;exact⟨⟨_,rfl,rfl⟩,q⟩
theorem Gt(w:Qy)(b:Qw)(a:Qx)(cap:Nat)(l:List Qw)(E:b.size<=maxLen)(s:l.length<=maxLen)(t:Strs w a l)(F:l.length<=cap)(G:oD w):
  Calls prog 180 #[.string b,.slice a l.length cap] w fun e w'=>e= .returned (.string (oO b l))/\K_ w w':=by
 have H:=s;unfold maxLen at E s;by_cases x:(30:Int)<b.size
 ·have m:decide ((30:Int)<b.size)=true:=by simpa using x
  go_enter func180,ntmps180
  go_wp2
  go_ret
  exact⟨lX (kR (.inl (by omega))).symm,K_.refl _⟩
 ·have m:decide ((30:Int)<b.size)=false:=by simpa using x
  by_cases y:(100:Int)<l.length
  ·have n:decide ((100:Int)<l.length)=true:=by simpa using y
   go_enter func180,ntmps180
   go_wp2
   go_ret
   exact⟨lX (kR (.inr (.inl (by omega)))).symm,K_.refl _⟩
  ·have n:decide ((100:Int)<l.length)=false:=by simpa using y
   go_enter func180,ntmps180
   go_wp2_with fail
   refine (uk _ a cap l H t).mono ?_;rintro e R ⟨c,rfl⟩;rcases c.cases with⟨rfl,g⟩|⟨rfl,h⟩
   ·have i:=Kz g;clear g c m n;go_wp2
    go_ret
    obtain⟨j,f,I⟩:=i.o;exact⟨lX (kR (.inr (.inr ⟨j,f,I⟩))).symm,K_.refl _⟩
   ·have p:Hid (qm b l):=⟨by omega,by omega,fun j f=>by
     apply Decidable.byContradiction;intro S;exact h ⟨j,f,by unfold JE;omega⟩⟩
    clear h c m n;have J:(Lib.join (texts l) [44]).length<=100*201:=by
     have:=MQ (texts l) 200 (fun T z=>by
      simp only[texts,Pv] at z;obtain⟨U,K,rfl⟩:=z;obtain⟨j,f,rfl⟩:=Ph K;have:=p.o.2.2 j f;simpa[List.getD,f] using this)
     rw[kM] at this;omega
    go_wp2_with fail
    refine (LF _ a cap l F (by omega) (by omega) t).mono ?_;rintro e W ⟨⟨k,rfl,q⟩,A⟩;have X:k.size<=20100:=by have:=congrArg List.length q;simp at this;omega
    have B:Hid ((b++ ⟨#[40]⟩++k++ ⟨#[41]⟩).data.toList=kQ b.data.toList (texts l)):=by
     show _=_;rw[fG,fG,fG,q];simp[kQ]
    clear q J;have Y:(b++ ⟨#[40]⟩++k++ ⟨#[41]⟩:Qw).size<=30000:=by
     have L:(⟨#[40]⟩:Qw).size=1:=rfl;have M:(⟨#[41]⟩:Qw).size=1:=rfl;simp only[ByteArray.size_append,L,M];omega
    go_wp2_with fail
    generalize (b++ ⟨#[40]⟩++k++ ⟨#[41]⟩:Qw)=d at *;refine (sj _ d).mono ?_;rintro e Z ⟨c,rfl⟩;rcases c.cases with⟨rfl,g⟩|⟨rfl,h⟩
    ·have i:Hid (200<d.size):=g;clear g c;go_wp2_with fail
     refine (MS _ d (by unfold maxLen;omega)).mono ?_;rintro e w4 ⟨rfl,N⟩;have C:=K_.trans A N;have a0:=sV d.data.toList;have D:Hid (oO b l= ⟨(35 :: ky 16 (sumOf d.data.toList).toNat).toArray⟩):=Ay p.o B.o i.o;generalize sumOf d.data.toList=V at *;obtain⟨v,rfl⟩:∃v:Nat,V=v:=⟨V.toNat,by omega⟩;rw[Int.toNat_natCast] at D;go_wp2_with fail
     refine (FI _ v (by omega) (G.kept C)).mono ?_;rintro e w5 ⟨⟨O,rfl,r⟩,P⟩;have a1:O.size=16:=by have:=congrArg List.length r;rw[iO] at this;simpa using this
     have Q:=Kz r;clear r;go_wp2
     go_ret
     exact⟨lX (by rw[D.o];apply Cn;rw[fG,Q.o];rfl),K_.trans C P⟩
    ·have i:Hid (¬200<d.size):=h;clear h c;go_wp2
     go_ret
     exact⟨lX (xN p.o B.o (by have:=i.o;omega)).symm,A⟩
