import Derived.Test.YtgnkgfjmbmcfcaaGreatDoorKWImpl
set_option maxRecDepth 100000
set_option maxHeartbeats 25600000
namespace Go.Proofs.YtgnkgfjmbmcfcaaGreatDoor
open Go.RowKit Go.Proofs.Tryz
theorem Strs.take{w:Qy}{a:Qx}{l:List Qw}(h:Strs w a l)(k:Nat):Strs w a (l.take k):=by
 intro i c;have d:i<l.length:=by simp at c;omega
 have e:i<k:=by simp at c;omega
 obtain⟨b,o,f,g,j⟩:=h i d;refine⟨b,o,f,g, ?_⟩;rw[j];simp[List.getD,e]
theorem Kb{l:List Qw}{k:Nat}(d:k<=l.length){v:Qw}:Has (l.take k) v↔∃i,i<k/\l.getD i ByteArray.empty=v:=by
 unfold Has;constructor
 ·rintro⟨i,a,e⟩;have c:i<k:=by simp at a;omega
  exact⟨i,c,by rw[<-e];simp[List.getD,c]⟩
 ·rintro⟨i,a,e⟩;exact⟨i,by simp;omega,by rw[<-e];simp[List.getD,a]⟩
theorem qF(w:Qy)(a:Qx)(cap k:Nat)(l:List Qw)(v:Qw)(g:l.length<=maxLen)(b:k<=l.length)(c:Strs w a l):
  Calls prog 110 #[.slice a k cap,.string v] w fun e w'=>Says e (∃i,i<k/\l.getD i ByteArray.empty=v)/\w'=w:=by
 have e:(l.take k).length=k:=by simp;omega
 have:=Cb w a cap (l.take k) v (by rw[e];omega) (c.take k);rw[e] at this;exact this.mono fun e w' ⟨h,f⟩=>⟨h.congr (Kb b),f⟩
def NL(s:Xq):Prop:=s.asks.length<=5/\tu s.asks/\(s.on=0\/(0<=s.on/\s.on<s.asks.length))
def CO(l:List Qw)(j:Nat):Prop:=oq (l.getD j ByteArray.empty)/\∀m,m<j->l.getD m ByteArray.empty≠l.getD j ByteArray.empty
theorem zf(w:Qy)(s:Xq)(n r:Qx)(ca cc:Nat)(t:s.Fits)(D:Strs w n s.asks)(Q:s.asks.length<=ca):
  Calls prog 277 #[.agg #[.slice n s.asks.length ca,.int .i64 s.on,.slice r s.cases.length cc,.int .i64 s.els,.int .i64 s.fall,.bool s.fin,.bool s.bad,.string s.give]] w fun e w'=>Says e (NL s)/\K_ w w':=by
 have J:=t.asks;unfold maxLen at J;have c:K_ w (w.alloc (.cells #[.slice n s.asks.length ca,.int .i64 s.on,.slice r s.cases.length cc,.int .i64 s.els,.int .i64 s.fall,.bool s.fin,.bool s.bad,.string s.give] 270)):=ak _ _;by_cases R:(s.asks.length:Int)<=5
 ·go_enter func277,ntmps277
  go_wp2
  go_loopw [14] (fun i wr=>∃k:Nat,k<=s.asks.length/\i= .int .i64 k/\K_ (w.alloc (.cells #[.slice n s.asks.length ca,.int .i64 s.on,.slice r s.cases.length cc,.int .i64 s.els,.int .i64 s.fall,.bool s.fin,.bool s.bad,.string s.give] 270)) wr/\∀j,j<k->CO s.asks j) (fun i _=>s.asks.length-(intOf i).toNat)
  case atStart=>exact⟨0,OW _,rfl,K_.refl _,fun j v=>aB v⟩
  case round=>
   obtain⟨k,S,rfl,a,E⟩:=hrel;have x:=Kz E;clear E;have K:=a.size;simp only[PL] at K;by_cases p:k<s.asks.length
   ·obtain⟨b,o,rfl,L,F⟩:=(D.kept c).kept a k p;have G:(s.asks.getD k ByteArray.empty).size<=maxLen:=t.wV _ (by simp[List.getD,p]);obtain⟨H,y⟩:=ag (s.asks.getD k ByteArray.empty);rw[<-y] at F G;have q:=Kz y;clear y;go_wp2_with fail
    refine (mP _ H G).mono ?_;rintro e T ⟨d,z⟩;have f:=a.trans z;have A:=(D.kept c).kept f;clear F L;rcases d.cases with⟨rfl,g⟩|⟨rfl,l⟩
    ·have M:=Kz g;clear g d a z;obtain⟨B,C⟩:=f.rules;have U:k<=ca:=by omega
     go_wp2_with fail
     refine (qF _ _ ca k s.asks H t.asks (by omega) A).mono ?_;rintro e V ⟨d,rfl⟩;rcases d.cases with⟨rfl,g⟩|⟨rfl,l⟩
     ·have m:=Kz g;clear g d A B C;go_wp2
      go_ret
      exact⟨Says.no fun h=>by obtain⟨i,N,e⟩:=m.o;exact (h.2.1 k p).2 i N (by rw[e,q.o]),c.trans f⟩
     ·have m:=Kz l;clear l d A B C;go_wp2
      go_roundw
      case rel=>
       refine⟨k+1,by omega,by go_num,f,fun j v=>?_⟩;by_cases e:j=k
       ·subst e;exact⟨by rw[<-q.o];exact M.o,fun O P h=>m.o ⟨O,P,by rw[h,q.o]⟩⟩
       ·exact aP x j (by omega)
      case measure=>simp[intOf];omega
    ·have m:=Kz l;clear l d a z;go_wp2
     go_ret
     exact⟨Says.no fun h=>m.o (by rw[q.o];exact (h.2.1 k p).1),c.trans f⟩
   ·obtain⟨B,C⟩:=a.rules;have I:Hid (tu s.asks):=fun j v=>aP x j (by omega)
    clear x;go_wp2
    ·go_ret
     exact⟨(Says.dec _).congr ⟨fun h=>⟨by omega,I.out,by omega⟩,fun h=>by have:=h.2.2;omega⟩,c.trans a⟩
    ·go_ret
     exact⟨(Says.dec _).congr ⟨fun h=>⟨by omega,I.out,by omega⟩,fun h=>by have:=h.2.2;omega⟩,c.trans a⟩
    all_goals
     go_ret
     exact⟨Says.no fun h=>by have:=h.2.2;omega,c.trans a⟩
 ·go_enter func277,ntmps277
  go_wp2
  go_ret
  exact⟨Says.no fun h=>by have:=h.1;omega,c⟩
theorem pK(w:Qy)(a:Qx)(cap:Nat)(l:List Qw)(I:l.length<=maxLen)(J:∀s∈l,s.size<=maxLen)(n:Strs w a l):
  Calls prog 46 #[.slice a l.length cap] w fun e w'=>Says e (tu l)/\K_ w w':=by
 unfold maxLen at I;go_enter func46,ntmps46
 go_wp2
 go_loopw [3] (fun p wr=>∃k:Nat,k<=l.length/\p= .int .i64 k/\K_ w wr/\∀j,j<k->oq (l.getD j ByteArray.empty)/\∀m,m<j->l.getD m ByteArray.empty≠l.getD j ByteArray.empty) (fun p _=>l.length-(intOf p).toNat)
 case atStart=>exact⟨0,OW _,rfl,K_.refl _,fun j c=>aB c⟩
 case round=>
  obtain⟨k,R,rfl,d,y⟩:=hrel;have z:=Kz y;clear y;by_cases f:k<l.length
  ·obtain⟨b,o,rfl,S,A⟩:=n.kept d k f;have B:(l.getD k ByteArray.empty).size<=maxLen:=J _ (by simp[List.getD,f]);obtain⟨s,r⟩:=ag (l.getD k ByteArray.empty);rw[<-r] at A B;have i:=Kz r;clear r;go_wp2_with fail
   refine (r_ _ s B).mono ?_;rintro e T ⟨C,rfl⟩;rcases C.cases with⟨rfl,D⟩|⟨rfl,K⟩
   ·have L:=Kz D;clear D C;go_wp2
    clear A;go_loopw [4] (fun m wr=>∃q:Nat,q<=k/\m= .int .i64 q/\K_ w wr/\∀t,t<q->l.getD t ByteArray.empty≠s) (fun m _=>k-(intOf m).toNat)
    case atStart=>exact⟨0,OW _,rfl,d,fun j c=>aB c⟩
    case round=>
     obtain⟨q,U,rfl,g,E⟩:=hrel;have F:=Kz E;clear E d;by_cases M:q<k
     ·obtain⟨N,O,h,V,P⟩:=n.kept g k f;simp only[PN,Qt,and_true] at h;obtain⟨rfl,rfl⟩:=h;obtain⟨N,O,h,W,Q⟩:=n.kept g q (by omega);simp only[PN,Qt,and_true] at h;obtain⟨rfl,rfl⟩:=h;rw[<-i.o] at P;obtain⟨t,v⟩:=ag (l.getD q ByteArray.empty);rw[<-v] at Q;have G:=Kz v;clear v;cases H:(t.toList == s.toList)
      ·go_wp2
       go_region
       all_goals
        go_wp2
        go_roundw
        case rel=>
         refine⟨q+1,by omega,by go_num,by repeat (first | apply K_.drew | exact g),fun j c=>?_⟩;by_cases e:j=q
         ·subst e;rw[<-G.o];exact sJ H
         ·exact aP F j (by omega)
        case measure=>simp[intOf];omega
      ·go_wp2
       go_region
       all_goals
        go_wp2
        go_ret
        exact⟨Says.no fun x=>(x k f).2 q M (by rw[<-G.o,<-i.o];exact pM.1 H),by repeat (first | apply K_.drew | exact g)⟩
     ·go_wp2
      go_roundw
      case rel=>
       refine⟨k+1,by omega,by go_num,g,fun j c=>?_⟩;by_cases e:j=k
       ·subst e;rw[<-i.o];exact⟨L.o,fun m X=>aP F m (by omega)⟩
       ·exact aP z j (by omega)
      case measure=>simp[intOf];omega
   ·go_wp2
    go_ret
    exact⟨Says.no fun x=>K (by rw[i.o];exact (x k f).1),d⟩
  ·go_wp2
   go_ret
   exact⟨Says.yes fun j c=>aP z j (by omega),d⟩
