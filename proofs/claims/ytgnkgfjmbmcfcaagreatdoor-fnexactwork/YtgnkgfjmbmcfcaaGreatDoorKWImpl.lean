import Derived.Test.YtgnkgfjmbmcfcaaGreatDoorProg
import Derived.Test.YtgnkgfjmbmcfcaaGreatDoorKVBfs
import Derived.WalkSpells
import Derived.WalkLawsBesides
set_option maxRecDepth 100000
set_option maxHeartbeats 25600000
namespace Go.Proofs.YtgnkgfjmbmcfcaaGreatDoor
open Go.RowKit Go.Proofs.Tryz
theorem AA(w:Qy)(s:Qw):∃cap C fr,(convert 9 166 (.string s)).run prog w= .ok (.slice (some ⟨w.heap.size,0,none⟩) s.size cap) (w.drew.alloc (.cells C 5 fr))/\
  ∀j (h:j<s.size),(w.alloc (.cells C 5 fr)).cell? ⟨w.heap.size,j,none⟩=some (.int .u8 (s[j].toNat:Int)):=by
 refine⟨_,_,_,run_bytes_of_string (P:=prog) w 9 166 5 s underlying9 underlying166 underlying5,fun j h=>?_⟩;rw[World.cell?_alloc_mark];unfold bytesRow;have b:j<s.data.size:=h;rw[Array.getElem?_append_left (by simpa using b)];simp only[Array.getElem?_map,Array.getElem?_eq_getElem b,Option.map_some]
 rfl
theorem r_(w:Qy)(s:Qw)(l:s.size<=maxLen):
  Calls prog 44 #[.string s] w fun e w'=>Says e (oq s)/\w'=w:=by
 unfold maxLen at l;by_cases m:(1:Int)<=s.size
 ·by_cases n:(s.size:Int)<=20
  ·cases c:(s.toList == [45])
   ·go_enter func44,ntmps44
    go_wp2
    go_loop [3] (fun i=>∃k:Nat,k<=s.size/\i= .int .i64 k/\∀j (h:j<s.size),j<k->jd s[j]) (fun i=>s.size-(intOf i).toNat)
    case atStart=>exact⟨0,OW _,rfl,fun j _ a=>aB a⟩
    case round=>
     obtain⟨k,p,rfl,d⟩:=hrel;have f:=Kz d;clear d;by_cases b:k<s.size
     ·by_cases q:(s[k].toNat:Int)<33
      ·go_wp2
       go_ret
       exact⟨Says.no fun h=>by have:=h.2.2.2 k b;unfold jd at this;omega,rfl⟩
      ·by_cases r:126<(s[k].toNat:Int)
       ·go_wp2
        go_ret
        exact⟨Says.no fun h=>by have:=h.2.2.2 k b;unfold jd at this;omega,rfl⟩
       ·cases g:((s[k].toNat:Int) == 44)
        ·go_wp2
         go_round
         case rel=>
          refine⟨k+1,by omega,by go_num,fun j a t=>?_⟩;by_cases e:j=k
          ·subst e;exact⟨by omega,by omega,by simpa using g⟩
          ·exact aP f j a (by omega)
         case measure=>simp[intOf];omega
        ·go_wp2
         go_ret
         exact⟨Says.no fun h=>by have:=h.2.2.2 k b;unfold jd at this;simp at g;omega,rfl⟩
     ·go_wp2
      go_ret
      exact⟨Says.yes ⟨by omega,by omega,c,fun j a=>aP f j a (by omega)⟩,rfl⟩
   ·go_enter func44,ntmps44
    go_wp2
    go_ret
    exact⟨Says.no fun h=>by have:=h.2.2.1;simp[c] at this,rfl⟩
  ·go_enter func44,ntmps44
   go_wp2
   go_ret
   exact⟨Says.no fun h=>by have:=h.2.1;omega,rfl⟩
 ·go_enter func44,ntmps44
  go_wp2
  go_ret
  exact⟨Says.no fun h=>by have:=h.1;omega,rfl⟩
theorem mP(w:Qy)(s:Qw)(m:s.size<=maxLen):
  Calls prog 109 #[.string s] w fun e w'=>Says e (oq s)/\K_ w w':=by
 unfold maxLen at m;by_cases q:(1:Int)<=s.size
 ·by_cases r:(s.size:Int)<=20
  ·cases c:(s.toList == [45])
   ·obtain⟨t,C,n,p,d⟩:=AA w s;go_enter func109,ntmps109
    go_wp2
    clear p;go_loopw [20] (fun i wr=>∃k:Nat,k<=s.size/\i= .int .i64 k/\(∀j (h:j<s.size),j<k->jd s[j])/\wr= (w.alloc (.cells C 5 n)).drew) (fun i _=>s.size-(intOf i).toNat)
    case atStart=>exact⟨0,OW _,rfl,fun j _ a=>aB a,rfl⟩
    case round=>
     obtain⟨k,v,rfl,f,rfl⟩:=hrel;have g:=Kz f;clear f;by_cases b:k<s.size
     ·have x:=d k b;clear d;by_cases y:(s[k].toNat:Int)<33
      ·go_wp2
       go_ret
       exact⟨Says.no fun h=>by have:=h.2.2.2 k b;unfold jd at this;omega,(ak _ _).drew⟩
      ·by_cases z:126<(s[k].toNat:Int)
       ·go_wp2
        go_ret
        exact⟨Says.no fun h=>by have:=h.2.2.2 k b;unfold jd at this;omega,(ak _ _).drew⟩
       ·cases l:((s[k].toNat:Int) == 44)
        ·go_wp2
         go_roundw
         case rel=>
          refine⟨k+1,by omega,by go_num,fun j a A=>?_,by first | rfl | trivial⟩;by_cases e:j=k
          ·subst e;exact⟨by omega,by omega,by simpa using l⟩
          ·exact aP g j a (by omega)
         case measure=>simp[intOf];omega
        ·go_wp2
         go_ret
         exact⟨Says.no fun h=>by have:=h.2.2.2 k b;unfold jd at this;simp at l;omega,(ak _ _).drew⟩
     ·go_wp2
      go_ret
      exact⟨Says.yes ⟨by omega,by omega,c,fun j a=>aP g j a (by omega)⟩,(ak _ _).drew⟩
   ·go_enter func109,ntmps109
    go_wp2
    go_ret
    exact⟨Says.no fun h=>by have:=h.2.2.1;simp[c] at this,K_.refl _⟩
  ·go_enter func109,ntmps109
   go_wp2
   go_ret
   exact⟨Says.no fun h=>by have:=h.2.1;omega,K_.refl _⟩
 ·go_enter func109,ntmps109
  go_wp2
  go_ret
  exact⟨Says.no fun h=>by have:=h.1;omega,K_.refl _⟩
def Has(l:List Qw)(v:Qw):Prop:=∃i,i<l.length/\l.getD i ByteArray.empty=v
theorem Jy(w:Qy)(a:Qx)(cap:Nat)(l:List Qw)(v:Qw)(p:l.length<=maxLen)(q:Strs w a l):
  Calls prog 145 #[.slice a l.length cap,.string v] w fun e w'=>(∃r,e= .returned (.int .i64 r)/\(0<=r↔Has l v))/\w'=w:=by
 unfold maxLen at p;go_enter func145,ntmps145
 go_wp2
 go_loop [8] (fun i=>∃k:Nat,k<=l.length/\i= .int .i64 k/\∀j,j<k->l.getD j ByteArray.empty≠v) (fun i=>l.length-(intOf i).toNat)
 case atStart=>exact⟨0,OW _,rfl,fun j d=>aB d⟩
 case round=>
  obtain⟨k,x,rfl,f⟩:=hrel;have g:=Kz f;clear f;by_cases h:k<l.length
  ·obtain⟨b,o,rfl,y,t⟩:=q k h;obtain⟨s,c⟩:=ag (l.getD k ByteArray.empty);rw[<-c] at t;have m:=Kz c;clear c;cases n:(v.toList == s.toList)
   ·go_wp2
    go_round
    case rel=>
     refine⟨k+1,by omega,by go_num,fun j d=>?_⟩;by_cases e:j=k
     ·subst e;rw[<-m.o];exact (sJ n).symm
     ·exact aP g j (by omega)
    case measure=>simp[intOf];omega
   ·go_wp2
    go_ret
    exact⟨⟨_,rfl,⟨fun _=>⟨k,h,by rw[<-m.o];exact (pM.1 n).symm⟩,fun _=>by omega⟩⟩,rfl⟩
  ·go_wp2
   go_ret
   exact⟨⟨_,rfl,⟨fun z=>by omega,fun ⟨i,A,e⟩=>Qi e (aP g i (by omega))⟩⟩,rfl⟩
theorem Cb(w:Qy)(a:Qx)(cap:Nat)(l:List Qw)(v:Qw)(g:l.length<=maxLen)(h:Strs w a l):
  Calls prog 110 #[.slice a l.length cap,.string v] w fun e w'=>Says e (Has l v)/\w'=w:=by
 go_enter func110,ntmps110
 go_wp2_with fail
 refine (Jy _ a cap l v g h).mono ?_;rintro e k ⟨⟨r,rfl,d⟩,rfl⟩;have f:=Kz d;clear d;by_cases c:0<=r
 ·have i:decide (0<=r)=true:=by simpa using c
  go_wp2
  go_ret
  exact⟨Says.congr (p:=True) (Says.yes trivial) ⟨fun _=>f.o.1 c,fun _=>trivial⟩,rfl⟩
 ·have i:decide (0<=r)=false:=by simpa using c
  go_wp2
  go_ret
  exact⟨Says.congr (p:=False) (Says.no id) ⟨False.elim,fun j=>by have:=f.o.2 j;omega⟩,rfl⟩
theorem sI(w:Qy)(asks:Nat)(a:Int)(cases:Nat)(b c:Int)(l m:Bool)(d:Qw)(n p:Qx)(ca cc:Nat)(q:asks<=maxLen)(h2:cases<=maxLen)(r:d.size<=maxLen):
  Calls prog 281 #[.agg #[.slice n asks ca,.int .i64 a,.slice p cases cc,.int .i64 b,.int .i64 c,.bool l,.bool m,.string d]] w
   fun e w'=>Says e (asks=0/\a=0/\cases=0/\b=0/\c=0/\d.size<=30)/\K_ w w':=by
 unfold maxLen at q h2 r;cases f:((asks:Int) == 0)
 ·go_enter func281,ntmps281
  go_wp2
  all_goals
   go_ret
   exact⟨Says.no fun h=>by simp at f;omega,ak _ _⟩
 ·obtain rfl:asks=0:=by simp at f;omega
  clear f;cases g:(a == 0)
  ·go_enter func281,ntmps281
   go_wp2
   all_goals
    go_ret
    exact⟨Says.no fun h=>by simp at g;omega,ak _ _⟩
  ·obtain rfl:a=0:=by simpa using g
   clear g;cases i:((cases:Int) == 0)
   ·go_enter func281,ntmps281
    go_wp2
    go_ret
    exact⟨Says.no fun h=>by simp at i;omega,ak _ _⟩
   ·obtain rfl:cases=0:=by simp at i;omega
    clear i;cases j:(b == 0)
    ·go_enter func281,ntmps281
     go_wp2
     go_ret
     exact⟨Says.no fun h=>by simp at j;omega,ak _ _⟩
    ·obtain rfl:b=0:=by simpa using j
     clear j;cases k:(c == 0)
     ·go_enter func281,ntmps281
      go_wp2
      go_ret
      exact⟨Says.no fun h=>by simp at k;omega,ak _ _⟩
     ·obtain rfl:c=0:=by simpa using k
      clear k;by_cases s:(d.size:Int)<=30
      ·go_enter func281,ntmps281
       go_wp2
       go_ret
       exact⟨Says.yes (by simp;omega),ak _ _⟩
      ·go_enter func281,ntmps281
       go_wp2
       go_ret
       exact⟨Says.no fun h=>by omega,ak _ _⟩
