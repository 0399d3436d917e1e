import Derived.Test.YtgnkgfjmbmcfcaaGreatDoorKWSpec
import Derived.Test.YtgnkgfjmbmcfcaaGreatDoorKWImpl3
import Derived.Deep.RegionWith
import Derived.Test.YtgnkgfjmbmcfcaaGreatDoorKWGo4
set_option maxRecDepth 100000
set_option maxHeartbeats 25600000
namespace Go.Proofs.YtgnkgfjmbmcfcaaGreatDoor
open Go.RowKit Go.Proofs.Tryz
theorem rT(w:Qy)(s:Xq)(c d:Qx)(ca cc:Nat)(n:Int)(r:s.Fits)(C:1<=n/\n<=20)(D:Strs w c s.asks)(E:dw w d s.cases)(F:s.asks.length<=ca):
  Calls prog 276 #[.agg #[.slice c s.asks.length ca,.int .i64 s.on,.slice d s.cases.length cc,.int .i64 s.els,.int .i64 s.fall,.bool s.fin,.bool s.bad,.string s.give],.int .i64 n] w fun e w'=>Says e (Ih s n)/\K_ w w':=by
 have f:K_ w (w.alloc (.cells #[.slice c s.asks.length ca,.int .i64 s.on,.slice d s.cases.length cc,.int .i64 s.els,.int .i64 s.fall,.bool s.fin,.bool s.bad,.string s.give] 270)):=ak _ _;have t:=tV s.give;have v:=Kz t;clear t;cases g:s.bad
 ·rw[g] at f;cases x:s.give.toList.isEmpty
  ·go_enter func276,ntmps276
   go_wp2
   go_ret
   exact⟨Says.no fun h=>by have:=v.o.2 h.1.2.1;simp[this] at x,f⟩
  ·have G:Hid (s.give.size=0):=v.o.1 (List.isEmpty_iff.1 x);go_enter func276,ntmps276
   go_wp2_with fail
   have l:=zf (w.alloc (.cells #[.slice c s.asks.length ca,.int .i64 s.on,.slice d s.cases.length cc,.int .i64 s.els,.int .i64 s.fall,.bool s.fin,.bool s.bad,.string s.give] 270)) s c d ca cc r (D.kept (ak _ _)) F;rw[g] at l;refine l.mono ?_;clear l;rintro e y ⟨b,i⟩;have m:=f.trans i;rcases b.cases with⟨rfl,j⟩|⟨rfl,k⟩
   ·have p:=Kz j;clear j b;obtain⟨z,A⟩:=i.rules;have H:=i.size;simp only[PL] at H;clear f i;have J:w.heap.size<y.heap.size:=by omega
    go_wp2_with fail
    have q:=zZ y s c d ca cc n r C (E.kept m);rw[g] at q;refine q.mono ?_;clear q;rintro e K ⟨b,I⟩;have B:=m.trans I;rcases b.cases with⟨rfl,j⟩|⟨rfl,k⟩
    ·have a:=Kz j;clear j b z A;go_wp2
     go_ret
     exact⟨Says.yes ⟨⟨g,G.o,p.o.1,p.o.2.1,a.o.1,a.o.2.2.1,a.o.2.2.2,p.o.2.2⟩,a.o.2.1⟩,B⟩
    ·have a:=Kz k;clear k b z A;go_wp2
     go_ret
     exact⟨Says.no fun h=>a.o ⟨h.1.2.2.2.2.1,h.2,h.1.2.2.2.2.2.1,h.1.2.2.2.2.2.2.1⟩,B⟩
   ·have a:=Kz k;clear k b f i;go_wp2
    go_ret
    exact⟨Says.no fun h=>a.o ⟨h.1.2.2.1,h.1.2.2.2.1,h.1.2.2.2.2.2.2.2⟩,m⟩
 ·go_enter func276,ntmps276
  go_wp2
  go_ret
  exact⟨Says.no fun h=>by have:=h.1.1;simp[g] at this,ak _ _⟩
theorem zU(w:Qy)(s:Xq)(a b:Qx)(ca cc:Nat)(n:Int)(c:s.Fits):
  Calls prog 282 #[.agg #[.slice a s.asks.length ca,.int .i64 s.on,.slice b s.cases.length cc,.int .i64 s.els,.int .i64 s.fall,.bool s.fin,.bool s.bad,.string s.give],.int .i64 n] w fun e w'=>Says e (DC s)/\K_ w w':=by
 have d:K_ w (w.alloc (.cells #[.slice a s.asks.length ca,.int .i64 s.on,.slice b s.cases.length cc,.int .i64 s.els,.int .i64 s.fall,.bool s.fin,.bool s.bad,.string s.give] 272)):=ak _ _;go_enter func282,ntmps282
 go_wp2_with fail
 refine (sI _ s.asks.length s.on s.cases.length s.els s.fall s.fin s.bad s.give a b ca cc c.asks c.cases c.give).mono ?_;rintro e k ⟨⟨r,rfl,f⟩,g⟩;have i:=Kz f;have j:=d.trans g;clear f d g;go_wp2
 go_ret
 exact⟨⟨r,rfl,i.o⟩,j⟩
theorem Cz(w:Qy)(s:Xq)(a b:Qx)(ca cc:Nat)(n:Int)(c:s.Fits):
  Calls prog 280 #[.agg #[.slice a s.asks.length ca,.int .i64 s.on,.slice b s.cases.length cc,.int .i64 s.els,.int .i64 s.fall,.bool s.fin,.bool s.bad,.string s.give],.int .i64 n] w fun e w'=>Says e (DC s)/\K_ w w':=by
 have d:K_ w (w.alloc (.cells #[.slice a s.asks.length ca,.int .i64 s.on,.slice b s.cases.length cc,.int .i64 s.els,.int .i64 s.fall,.bool s.fin,.bool s.bad,.string s.give] 271)):=ak _ _;go_enter func280,ntmps280
 go_wp2_with fail
 refine (sI _ s.asks.length s.on s.cases.length s.els s.fall s.fin s.bad s.give a b ca cc c.asks c.cases c.give).mono ?_;rintro e k ⟨⟨r,rfl,f⟩,g⟩;have i:=Kz f;have j:=d.trans g;clear f d g;go_wp2
 go_ret
 exact⟨⟨r,rfl,i.o⟩,j⟩
theorem yE(w:Qy)(s:Xq)(a b:Qx)(ca cc:Nat):
  Calls prog 173 #[.agg #[.slice a s.asks.length ca,.int .i64 s.on,.slice b s.cases.length cc,.int .i64 s.els,.int .i64 s.fall,.bool false,.bool s.bad,.string s.give]] w fun e w'=>e= .returned (.iface 270 (.agg #[.slice a s.asks.length ca,.int .i64 s.on,.slice b s.cases.length cc,.int .i64 s.els,.int .i64 s.fall,.bool false,.bool s.bad,.string s.give]))/\K_ w w':=by
 go_enter func173,ntmps173
 go_wp2
 go_ret
 exact⟨rfl,ak _ _⟩
theorem Fb(w:Qy)(s:Xq)(a b:Qx)(ca cc:Nat):
  Calls prog 173 #[.agg #[.slice a s.asks.length ca,.int .i64 s.on,.slice b s.cases.length cc,.int .i64 s.els,.int .i64 s.fall,.bool true,.bool true,.string s.give]] w fun e w'=>e= .returned (.iface 271 (.agg #[.slice a s.asks.length ca,.int .i64 s.on,.slice b s.cases.length cc,.int .i64 s.els,.int .i64 s.fall,.bool true,.bool true,.string s.give]))/\K_ w w':=by
 go_enter func173,ntmps173
 go_wp2
 go_ret
 exact⟨rfl,ak _ _⟩
theorem Ej(w:Qy)(s:Xq)(a b:Qx)(ca cc:Nat):
  Calls prog 173 #[.agg #[.slice a s.asks.length ca,.int .i64 s.on,.slice b s.cases.length cc,.int .i64 s.els,.int .i64 s.fall,.bool true,.bool false,.string s.give]] w fun e w'=>e= .returned (.iface 272 (.agg #[.slice a s.asks.length ca,.int .i64 s.on,.slice b s.cases.length cc,.int .i64 s.els,.int .i64 s.fall,.bool true,.bool false,.string s.give]))/\K_ w w':=by
 go_enter func173,ntmps173
 go_wp2
 go_ret
 exact⟨rfl,ak _ _⟩
theorem meth_ask (vs : Array Value) (W : World) : (method 454 270 (.agg vs) "loop.example/kilnweb/impl.sound").run Tryz.prog W = .ok (276, .agg vs) W := by kernel_rfl
theorem meth_bad (vs : Array Value) (W : World) : (method 454 271 (.agg vs) "loop.example/kilnweb/impl.sound").run Tryz.prog W = .ok (280, .agg vs) W := by kernel_rfl
theorem meth_good (vs : Array Value) (W : World) : (method 454 272 (.agg vs) "loop.example/kilnweb/impl.sound").run Tryz.prog W = .ok (282, .agg vs) W := by kernel_rfl
theorem qD(w:Qy)(cost:Int)(a:Qx)(cap:Nat)(l:List Xq)(hl:l.length<=maxLen)(hs:∀s∈l,s.Fits)(hS:Steps w a l):
  Calls prog 144 #[.agg #[.int .i64 cost,.slice a l.length cap]] w fun e w'=>Says e (lu ⟨cost,l⟩)/\K_ w w':=by
 unfold maxLen at hl;have g:K_ w (w.alloc (.cells #[.int .i64 cost,.slice a l.length cap] 88)):=ak _ _;by_cases a6:1<=cost
 ·by_cases a2:cost<=20
  ·by_cases a7:(1:Int)<=l.length
   ·by_cases a8:(l.length:Int)<=20
    ·have e1:decide (cost<1)=false:=by simp;omega
     have e2:decide (20<cost)=false:=by simp;omega
     have e3:decide ((l.length:Int)<1)=false:=by simp;omega
     have e4:decide (20<(l.length:Int))=false:=by simp;omega
     go_enter func144,ntmps144
     go_wp2
     clear e1 e2 e3 e4;go_loopw [28] (fun T wr=>∃k:Nat,k<=l.length/\T= .int .i64 k/\K_ (w.alloc (.cells #[.int .i64 cost,.slice a l.length cap] 88)) wr/\∀j,j<k->lC (l.getD j Xq.zero) l.length) (fun T _=>l.length-(intOf T).toNat)
     case atStart=>exact⟨0,OW _,rfl,K_.refl _,fun j B=>aB B⟩
     case round=>
      obtain⟨k,hk,rfl,d,hg⟩:=hrel;have O:=Kz hg;clear hg;have a9:=d.size;simp only[PL] at a9;by_cases C:k<l.length
      ·obtain⟨b,o,cs,rfl,hb,f,i,m,n,p,rfl,D,E,a4⟩:=(hS.kept g).kept d k C;have P:=hs (l.getD k Xq.zero) (by simp[List.getD,C]);obtain⟨s,U⟩:=ag (l.getD k Xq.zero);rw[<-U] at f P D E a4;have z:=Kz U;clear U;have Q:=f 0 _ rfl;have V:=f 1 _ rfl;have X:=f 2 _ rfl;have Y:=f 3 _ rfl;have Z:=f 4 _ rfl;have A:=f 5 _ rfl;have F:=f 6 _ rfl;have a0:=f 7 _ rfl;simp only[PR] at Q;clear f;obtain⟨a1,a3⟩:=d.rules;have z0:w.heap.size<wr.heap.size:=by omega
       have z1:w.heap.size<wr.heap.size+1:=by omega
       cases c:s.fin
       ·rw[c] at A;have q:∀W,K_ wr W->Calls prog 276 #[.agg #[.slice i s.asks.length m,.int .i64 s.on,.slice n s.cases.length p,.int .i64 s.els,.int .i64 s.fall,.bool false,.bool s.bad,.string s.give],.int .i64 l.length] W fun e w'=>Says e (Ih s l.length)/\K_ W w':=fun W R=>by
         have h:=rT W s i n m p l.length P ⟨a7,a8⟩ (D.kept R) (E.kept R) a4;rw[c] at h;exact h
        have G:=Kz q;clear q;have H:=meth_ask;go_wp2
        go_region_with (first | (go_at_call 173;refine (yE _ s i n m p).mono ?_;rintro e I ⟨rfl,r⟩;obtain⟨J,K⟩:=r.rules;have a5:K_ wr I:=K_.trans (by repeat (first | apply K_.drew | apply K_.alloc | exact K_.refl _)) r) | (go_at_call 276;refine (aP G _ (by repeat (first | apply K_.drew | assumption))).mono ?_;rintro e L ⟨⟨M,rfl,t⟩,N⟩;have v:K_ wr L:=K_.trans (by repeat (first | apply K_.drew | assumption)) N;have x:=Kz t;clear t))
        all_goals
         clear a1 a3 J K H Q V X Y Z A F a0 D E;cases M
         ·go_wp2
          go_ret
          exact⟨Says.no fun h=>(by have y:=h.2.2 k C;rw[<-z.o] at y;have:=x.o.2 (y.2 c);cases this),g.trans (by repeat (first | apply K_.drew | exact d.trans v))⟩
         ·go_wp2
          go_roundw
          case rel=>
           refine⟨k+1,by omega,by go_num,by repeat (first | apply K_.drew | exact d.trans v),fun j B=>?_⟩;by_cases e:j=k
           ·subst e;rw[<-z.o];exact⟨fun e=>(by rw[c] at e;cases e),fun _=>x.o.1 rfl⟩
           ·exact aP O j (by omega)
          case measure=>simp[intOf];omega
       ·cases S:s.bad
        ·rw[c] at A;rw[S] at F;have q:∀W,K_ wr W->Calls prog 282 #[.agg #[.slice i s.asks.length m,.int .i64 s.on,.slice n s.cases.length p,.int .i64 s.els,.int .i64 s.fall,.bool true,.bool false,.string s.give],.int .i64 l.length] W fun e w'=>Says e (DC s)/\K_ W w':=fun W R=>by
          have h:=zU W s i n m p l.length P;rw[c,S] at h;exact h
         have G:=Kz q;clear q;have H:=meth_good;go_wp2
         go_region_with (first | (go_at_call 173;refine (Ej _ s i n m p).mono ?_;rintro e I ⟨rfl,r⟩;obtain⟨J,K⟩:=r.rules;have a5:K_ wr I:=K_.trans (by repeat (first | apply K_.drew | apply K_.alloc | exact K_.refl _)) r) | (go_at_call 282;refine (aP G _ (by repeat (first | apply K_.drew | assumption))).mono ?_;rintro e L ⟨⟨M,rfl,t⟩,N⟩;have v:K_ wr L:=K_.trans (by repeat (first | apply K_.drew | assumption)) N;have x:=Kz t;clear t))
         all_goals
          clear a1 a3 J K H Q V X Y Z A F a0 D E;cases M
          ·go_wp2
           go_ret
           exact⟨Says.no fun h=>(by have y:=h.2.2 k C;rw[<-z.o] at y;have:=x.o.2 (y.1 c);cases this),g.trans (by repeat (first | apply K_.drew | exact d.trans v))⟩
          ·go_wp2
           go_roundw
           case rel=>
            refine⟨k+1,by omega,by go_num,by repeat (first | apply K_.drew | exact d.trans v),fun j B=>?_⟩;by_cases e:j=k
            ·subst e;rw[<-z.o];exact⟨fun _=>x.o.1 rfl,fun e=>(by rw[c] at e;cases e)⟩
            ·exact aP O j (by omega)
           case measure=>simp[intOf];omega
        ·rw[c] at A;rw[S] at F;have q:∀W,K_ wr W->Calls prog 280 #[.agg #[.slice i s.asks.length m,.int .i64 s.on,.slice n s.cases.length p,.int .i64 s.els,.int .i64 s.fall,.bool true,.bool true,.string s.give],.int .i64 l.length] W fun e w'=>Says e (DC s)/\K_ W w':=fun W R=>by
          have h:=Cz W s i n m p l.length P;rw[c,S] at h;exact h
         have G:=Kz q;clear q;have H:=meth_bad;go_wp2
         go_region_with (first | (go_at_call 173;refine (Fb _ s i n m p).mono ?_;rintro e I ⟨rfl,r⟩;obtain⟨J,K⟩:=r.rules;have a5:K_ wr I:=K_.trans (by repeat (first | apply K_.drew | apply K_.alloc | exact K_.refl _)) r) | (go_at_call 280;refine (aP G _ (by repeat (first | apply K_.drew | assumption))).mono ?_;rintro e L ⟨⟨M,rfl,t⟩,N⟩;have v:K_ wr L:=K_.trans (by repeat (first | apply K_.drew | assumption)) N;have x:=Kz t;clear t))
         all_goals
          clear a1 a3 J K H Q V X Y Z A F a0 D E;cases M
          ·go_wp2
           go_ret
           exact⟨Says.no fun h=>(by have y:=h.2.2 k C;rw[<-z.o] at y;have:=x.o.2 (y.1 c);cases this),g.trans (by repeat (first | apply K_.drew | exact d.trans v))⟩
          ·go_wp2
           go_roundw
           case rel=>
            refine⟨k+1,by omega,by go_num,by repeat (first | apply K_.drew | exact d.trans v),fun j B=>?_⟩;by_cases e:j=k
            ·subst e;rw[<-z.o];exact⟨fun _=>x.o.1 rfl,fun e=>(by rw[c] at e;cases e)⟩
            ·exact aP O j (by omega)
           case measure=>simp[intOf];omega
      ·go_wp2
       go_ret
       exact⟨Says.yes ⟨⟨a6,a2⟩,⟨by show 1<=l.length;omega,by show l.length<=20;omega⟩,fun j (B:j<l.length)=>aP O j (by omega)⟩,g.trans d⟩
    ·go_enter func144,ntmps144
     go_wp2
     go_ret
     exact⟨Says.no fun h=>by have:=h.2.1.2;simp at this;omega,g⟩
   ·go_enter func144,ntmps144
    go_wp2
    go_ret
    exact⟨Says.no fun h=>by have:=h.2.1.1;simp at this;omega,g⟩
  ·go_enter func144,ntmps144
   go_wp2
   go_ret
   exact⟨Says.no fun h=>by have:=h.1.2;simp at this;omega,g⟩
 ·go_enter func144,ntmps144
  go_wp2
  go_ret
  exact⟨Says.no fun h=>by have:=h.1.1;simp at this;omega,g⟩
def ll(l:List Xq)(at':Int):Xq:=l.getD at'.toNat Xq.zero
def oo(cost:Int)(l:List Xq)(at':Int):Prop:=lu ⟨cost,l⟩/\(0<=at'/\at' < l.length)/\(ll l at').fin=false
def mG(cost:Int)(l:List Xq)(at':Int)(ans:List Xz)(g:bW):Prop:=
 (¬oo cost l at'/\g=bW.none)\/(oo cost l at'/\Followed (ll l at') ans g)
theorem mG.unique{cost:Int}{l:List Xq}{c:Int}{ans:List Xz}{g d:bW}(h:mG cost l c ans g)(e:mG cost l c ans d):g=d:=by
 rcases h with⟨a,rfl⟩ | ⟨a,f⟩ <;> rcases e with⟨b,rfl⟩ | ⟨b,i⟩
 ·rfl
 ·exact Qi b a
 ·exact Qi a b
 ·exact f.unique i
