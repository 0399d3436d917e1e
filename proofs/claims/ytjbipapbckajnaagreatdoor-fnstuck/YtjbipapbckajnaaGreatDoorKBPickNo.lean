import Derived.Test.YtjbipapbckajnaaGreatDoorKCLead
set_option maxRecDepth 100000
set_option maxHeartbeats 25600000
namespace Go.Proofs.YtjbipapbckajnaaGreatDoor
open Go.RowKit Go.Proofs.Tryz
theorem fK.good{a:List Qq}{Kk:List Ps}{b:List Qz}(h:fK a Kk b):dR a b:=by
 obtain⟨_,_,_,k,L,d,_,_,rfl⟩:=h;exact d
def Ints(w:Pv)(a:Pt)(l:List Int):Prop:=∀i,i<l.length->∃b o,a=some ⟨b,o,none⟩/\b<w.heap.size/\w.cell? ⟨b,o+i,none⟩=some (.a (l.getD i 0))
theorem Ints.kept{w w':Pv}{a:Pt}{l:List Int}(h:Ints w a l)(k:K_ w w'):Ints w' a l:=λi c=>by
 obtain⟨d,o,e,b,f⟩:=h i c;exact⟨d,o,e,NR b k.size,(k.cell b).trans f⟩
theorem Tryz.AX :(prog.info? 34).map (·.size)=some 3:=C9
theorem Fq(w:Pv)(j:Pt)(m:Nat)(a:List Int)(n:Int)(i:Nat)(r:n= (i:Int))(hi:i<=1048576)(y:a.length<=1048576)(_hp64:∀p∈a,In64 p)(s:Ints w j a):
  Calls prog 58 #[.slice j a.length m,.a n] w λe w'=>e= .returned (.a (jB a i))/\K_ w w':=by
 subst r;go_enter func58,ntmps58
 by_cases c:a.length=0
 .have t:((a.length:Int) == 0)=true:=by simpa using c
  have b:Hid (jB a i=0):=by show jB a i=0;unfold jB;rw[Pe (Og.1 c)]
  clear c;go_wp2
  go_ret
  exact⟨by rw[b.o];rfl,K_.refl _⟩
 obtain⟨d,f⟩:=ai (i % a.length);have v:d<a.length:=by rw[f];exact Nat.mod_lt _ A7
 have z:(i:Int).tmod (a.length:Int)= (d:Int):=by rw[Int.tmod_eq_emod_of_nonneg A7,f,Int.natCast_emod]
 obtain⟨A,B,rfl,C,x⟩:=s d v;obtain⟨q,h⟩:=ai (a.getD d 0);rw[<-h] at x;have t:((a.length:Int) == 0)=false:=by simpa using c
 have D:(d:Int)<(a.length:Int):=A7;have E:¬(a.length:Int)=0:=A7;have k:Hid (jB a i=if q<0 then 0 else q):=by
  show jB a i=if q<0 then 0 else q
  unfold jB;rw[Pf (λe=>c (by rw[e];rfl)),<-f,<-h]
 clear f h c;by_cases l:q<0
 .have b:Hid (jB a i=0):=by show jB a i=0;rw[k.o,Pe l]
  go_wp2
  all_goals go_ret
  all_goals first | exact⟨by rw[b.o];rfl,K_.refl _⟩ | exact⟨wm (by rw[b.o];omega),K_.refl _⟩
 .have b:Hid (jB a i=q):=by show jB a i=q;rw[k.o,Pf l]
  go_wp2
  all_goals go_ret
  all_goals first | exact⟨by rw[b.o];rfl,K_.refl _⟩ | exact⟨wm (by rw[b.o];omega),K_.refl _⟩
