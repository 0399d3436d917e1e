import Derived.Test.YtbmhchdegdjfkaaGreatDoorProg
import Derived.Test.YtbmhchdegdjfkaaGreatDoorKVBfs
import Derived.WalkSpells
import Derived.WalkLawsBesides
set_option maxRecDepth 100000
set_option maxHeartbeats 25600000
namespace Go.Proofs.YtbmhchdegdjfkaaGreatDoor
open Go.RowKit Go.Proofs.Tryz
theorem vU(w:KH)(s:KC):∃cap C fr,(convert 9 22 (.string s)).run prog w= .ok (.slice (some ⟨w.heap.size,0,none⟩) s.size cap) (w.drew.alloc (.cells C 5 fr))/\
  ∀j (h:j<s.size),(w.alloc (.cells C 5 fr)).cell? ⟨w.heap.size,j,none⟩=some (.int .u8 (s[j].toNat:Int)):=by
 refine⟨_,_,_,run_bytes_of_string (P:=prog) w 9 22 5 s underlying9 underlying22 underlying5,fun j h=>?_⟩;rw[World.cell?_alloc_mark];unfold bytesRow;have c:j<s.data.size:=h;rw[Array.getElem?_append_left (by simpa using c)];simp only[Array.getElem?_map,Array.getElem?_eq_getElem c,Option.map_some]
 rfl
theorem lZ(w:KH)(s:KC)(m:s.size<=maxLen):
  Calls prog 81 #[.string s] w fun e w'=>Says e (iI s)/\w'=w:=by
 unfold maxLen at m;by_cases n:(1:Int)<=s.size
 ·by_cases p:(s.size:Int)<=20
  ·cases c:(s.toList == [45])
   ·go_enter func81,ntmps81
    go_wp2
    go_loop [3] (fun i=>∃k:Nat,k<=s.size/\i= .int .i64 k/\∀j (h:j<s.size),j<k->ig s[j]) (fun i=>s.size-(intOf i).toNat)
    case atStart=>exact⟨0,Ja _,rfl,fun j _ a=>aP a⟩
    case round=>
     obtain⟨k,q,rfl,d⟩:=hrel;have f:=Kz d;clear d;by_cases b:k<s.size
     ·by_cases r:(s[k].toNat:Int)<33
      ·go_wp2
       go_ret
       exact⟨Says.no fun h=>by have:=h.2.2.2 k b;unfold ig at this;omega,rfl⟩
      ·by_cases t:126<(s[k].toNat:Int)
       ·go_wp2
        go_ret
        exact⟨Says.no fun h=>by have:=h.2.2.2 k b;unfold ig at this;omega,rfl⟩
       ·cases l:((s[k].toNat:Int) == 44)
        ·go_wp2
         go_round
         case rel=>
          refine⟨k+1,by omega,by go_num,fun j a v=>?_⟩;by_cases e:j=k
          ·subst e;exact⟨by omega,by omega,by simpa using l⟩
          ·exact aW f j a (by omega)
         case measure=>simp[intOf];omega
        ·go_wp2
         go_ret
         exact⟨Says.no fun h=>by have:=h.2.2.2 k b;unfold ig at this;simp at l;omega,rfl⟩
     ·go_wp2
      go_ret
      exact⟨Says.yes ⟨by omega,by omega,c,fun j a=>aW f j a (by omega)⟩,rfl⟩
   ·go_enter func81,ntmps81
    go_wp2
    go_ret
    exact⟨Says.no fun h=>by have:=h.2.2.1;simp[c] at this,rfl⟩
  ·go_enter func81,ntmps81
   go_wp2
   go_ret
   exact⟨Says.no fun h=>by have:=h.2.1;omega,rfl⟩
 ·go_enter func81,ntmps81
  go_wp2
  go_ret
  exact⟨Says.no fun h=>by have:=h.1;omega,rfl⟩
theorem lh(w:KH)(s:KC)(n:s.size<=maxLen):
  Calls prog 132 #[.string s] w fun e w'=>Says e (iI s)/\K_ w w':=by
 unfold maxLen at n;by_cases r:(1:Int)<=s.size
 ·by_cases t:(s.size:Int)<=20
  ·cases c:(s.toList == [45])
   ·obtain⟨v,C,p,q,d⟩:=vU w s;go_enter func132,ntmps132
    go_wp2
    clear q;go_loopw [20] (fun i wr=>∃k:Nat,k<=s.size/\i= .int .i64 k/\(∀j (h:j<s.size),j<k->ig s[j])/\wr= (w.alloc (.cells C 5 p)).drew) (fun i _=>s.size-(intOf i).toNat)
    case atStart=>exact⟨0,Ja _,rfl,fun j _ a=>aP a,rfl⟩
    case round=>
     obtain⟨k,x,rfl,f,rfl⟩:=hrel;have l:=Kz f;clear f;by_cases b:k<s.size
     ·have y:=d k b;clear d;by_cases A:(s[k].toNat:Int)<33
      ·go_wp2
       go_ret
       exact⟨Says.no fun h=>by have:=h.2.2.2 k b;unfold ig at this;omega,(ag _ _).drew⟩
      ·by_cases B:126<(s[k].toNat:Int)
       ·go_wp2
        go_ret
        exact⟨Says.no fun h=>by have:=h.2.2.2 k b;unfold ig at this;omega,(ag _ _).drew⟩
       ·cases m:((s[k].toNat:Int) == 44)
        ·go_wp2
         go_roundw
         case rel=>
          refine⟨k+1,by omega,by go_num,fun j a D=>?_,by first | rfl | trivial⟩;by_cases e:j=k
          ·subst e;exact⟨by omega,by omega,by simpa using m⟩
          ·exact aW l j a (by omega)
         case measure=>simp[intOf];omega
        ·go_wp2
         go_ret
         exact⟨Says.no fun h=>by have:=h.2.2.2 k b;unfold ig at this;simp at m;omega,(ag _ _).drew⟩
     ·go_wp2
      go_ret
      exact⟨Says.yes ⟨by omega,by omega,c,fun j a=>aW l j a (by omega)⟩,(ag _ _).drew⟩
   ·go_enter func132,ntmps132
    go_wp2
    go_ret
    exact⟨Says.no fun h=>by have:=h.2.2.1;simp[c] at this,K_.refl _⟩
  ·go_enter func132,ntmps132
   go_wp2
   go_ret
   exact⟨Says.no fun h=>by have:=h.2.1;omega,K_.refl _⟩
 ·go_enter func132,ntmps132
  go_wp2
  go_ret
  exact⟨Says.no fun h=>by have:=h.1;omega,K_.refl _⟩
def Has(l:List KC)(v:KC):Prop:=∃i,i<l.length/\l.getD i ByteArray.empty=v
theorem DU(w:KH)(a:KG)(q:Nat)(l:List KC)(v:KC)(s:l.length<=maxLen)(t:Strs w a l):
  Calls prog 118 #[.slice a l.length q,.string v] w fun e w'=>(∃r,e= .returned (.int .i64 r)/\(0<=r↔Has l v))/\w'=w:=by
 unfold maxLen at s;go_enter func118,ntmps118
 go_wp2
 go_loop [8] (fun i=>∃k:Nat,k<=l.length/\i= .int .i64 k/\∀j,j<k->l.getD j ByteArray.empty≠v) (fun i=>l.length-(intOf i).toNat)
 case atStart=>exact⟨0,Ja _,rfl,fun j d=>aP d⟩
 case round=>
  obtain⟨k,A,rfl,f⟩:=hrel;have h:=Kz f;clear f;by_cases m:k<l.length
  ·obtain⟨b,o,rfl,B,x⟩:=t k m;obtain⟨y,c⟩:=ah (l.getD k ByteArray.empty);rw[<-c] at x;have n:=Kz c;clear c;cases p:(v.toList == y.toList)
   ·go_wp2
    go_round
    case rel=>
     refine⟨k+1,by omega,by go_num,fun j d=>?_⟩;by_cases e:j=k
     ·subst e;rw[<-n.o];exact (qf p).symm
     ·exact aW h j (by omega)
    case measure=>simp[intOf];omega
   ·go_wp2
    go_ret
    exact⟨⟨_,rfl,⟨fun _=>⟨k,m,by rw[<-n.o];exact (nP.1 p).symm⟩,fun _=>by omega⟩⟩,rfl⟩
  ·go_wp2
   go_ret
   exact⟨⟨_,rfl,⟨fun C=>by omega,fun ⟨i,D,e⟩=>Ki e (aW h i (by omega))⟩⟩,rfl⟩
theorem yx(w:KH)(a:KG)(d:Nat)(l:List KC)(v:KC)(i:l.length<=maxLen)(j:Strs w a l):
  Calls prog 76 #[.slice a l.length d,.string v] w fun e w'=>Says e (Has l v)/\w'=w:=by
 go_enter func76,ntmps76
 go_wp2_with fail
 refine (DU _ a d l v i j).mono ?_;rintro e w1 ⟨⟨r,rfl,f⟩,rfl⟩;have h:=Kz f;clear f;by_cases c:0<=r
 ·have k:decide (0<=r)=true:=by simpa using c
  go_wp2
  go_ret
  exact⟨Says.congr (p:=True) (Says.yes trivial) ⟨fun _=>h.o.1 c,fun _=>trivial⟩,rfl⟩
 ·have k:decide (0<=r)=false:=by simpa using c
  go_wp2
  go_ret
  exact⟨Says.congr (p:=False) (Says.no id) ⟨False.elim,fun m=>by have:=h.o.2 m;omega⟩,rfl⟩
theorem oQ(w:KH)(asks:Nat)(on:Int)(cases:Nat)(els fall:Int)(fin bad:Bool)(give:KC)(i j:KG)(k l:Nat)(m:asks<=maxLen)(h2:cases<=maxLen)(n:give.size<=maxLen):
  Calls prog 240 #[.agg #[.slice i asks k,.int .i64 on,.slice j cases l,.int .i64 els,.int .i64 fall,.bool fin,.bool bad,.string give]] w
   fun e w'=>Says e (asks=0/\on=0/\cases=0/\els=0/\fall=0/\give.size<=30)/\K_ w w':=by
 unfold maxLen at m h2 n;cases a:((asks:Int) == 0)
 ·go_enter func240,ntmps240
  go_wp2
  all_goals
   go_ret
   exact⟨Says.no fun h=>by simp at a;omega,ag _ _⟩
 ·obtain rfl:asks=0:=by simp at a;omega
  clear a;cases b:(on == 0)
  ·go_enter func240,ntmps240
   go_wp2
   all_goals
    go_ret
    exact⟨Says.no fun h=>by simp at b;omega,ag _ _⟩
  ·obtain rfl:on=0:=by simpa using b
   clear b;cases c:((cases:Int) == 0)
   ·go_enter func240,ntmps240
    go_wp2
    go_ret
    exact⟨Says.no fun h=>by simp at c;omega,ag _ _⟩
   ·obtain rfl:cases=0:=by simp at c;omega
    clear c;cases d:(els == 0)
    ·go_enter func240,ntmps240
     go_wp2
     go_ret
     exact⟨Says.no fun h=>by simp at d;omega,ag _ _⟩
    ·obtain rfl:els=0:=by simpa using d
     clear d;cases f:(fall == 0)
     ·go_enter func240,ntmps240
      go_wp2
      go_ret
      exact⟨Says.no fun h=>by simp at f;omega,ag _ _⟩
     ·obtain rfl:fall=0:=by simpa using f
      clear f;by_cases p:(give.size:Int)<=30
      ·go_enter func240,ntmps240
       go_wp2
       go_ret
       exact⟨Says.yes (by simp;omega),ag _ _⟩
      ·go_enter func240,ntmps240
       go_wp2
       go_ret
       exact⟨Says.no fun h=>by omega,ag _ _⟩
