import Derived.Test.YtbmhchdegdjfkaaGreatDoorKVBfs
set_option maxRecDepth 100000
set_option maxHeartbeats 25600000
namespace Go.Proofs.YtbmhchdegdjfkaaGreatDoor
open Go.RowKit Go.Proofs.Tryz
theorem qD(w:LP)(s:Xj)(c d:LM)(f i:Nat)(n:Int)(x:s.Fits)(F:1<=n/\n<=20)(G:Strs w c s.asks)(H:kv w d s.cases)(I:s.asks.length<=f):
  Calls prog 235 #[.agg #[.slice c s.asks.length f,.int .i64 s.on,.slice d s.cases.length i,.int .i64 s.els,.int .i64 s.fall,.bool s.fin,.bool s.bad,.string s.give],.int .i64 n] w fun e w'=>Says e (Dy s n)/\K_ w w':=by
 have j:K_ w (w.alloc (.cells #[.slice c s.asks.length f,.int .i64 s.on,.slice d s.cases.length i,.int .i64 s.els,.int .i64 s.fall,.bool s.fin,.bool s.bad,.string s.give] 233)):=ag _ _;have y:=rf s.give;have A:=Kz y;clear y;cases k:s.bad
 ·rw[k] at j;cases B:s.give.toList.isEmpty
  ·go_enter func235,ntmps235
   go_wp2
   go_ret
   exact⟨Says.no fun h=>by have:=A.o.2 h.1.2.1;simp[this] at B,j⟩
  ·have J:Hid (s.give.size=0):=A.o.1 (List.isEmpty_iff.1 B);go_enter func235,ntmps235
   go_wp2_with fail
   have q:=xq (w.alloc (.cells #[.slice c s.asks.length f,.int .i64 s.on,.slice d s.cases.length i,.int .i64 s.els,.int .i64 s.fall,.bool s.fin,.bool s.bad,.string s.give] 233)) s c d f i x (G.kept (ag _ _)) I;rw[k] at q;refine q.mono ?_;clear q;rintro e w1 ⟨b,l⟩;have r:=j.trans l;rcases b.cases with⟨rfl,m⟩|⟨rfl,p⟩
   ·have t:=Kz m;clear m b;obtain⟨C,D⟩:=l.rules;have K:=l.size;simp only[KR] at K;clear j l;have M:w.heap.size<w1.heap.size:=by omega
    go_wp2_with fail
    have v:=xk w1 s c d f i n x F (H.kept r);rw[k] at v;refine v.mono ?_;clear v;rintro e w2 ⟨b,L⟩;have E:=r.trans L;rcases b.cases with⟨rfl,m⟩|⟨rfl,p⟩
    ·have a:=Kz m;clear m b C D;go_wp2
     go_ret
     exact⟨Says.yes ⟨⟨k,J.o,t.o.1,t.o.2.1,a.o.1,a.o.2.2.1,a.o.2.2.2,t.o.2.2⟩,a.o.2.1⟩,E⟩
    ·have a:=Kz p;clear p b C D;go_wp2
     go_ret
     exact⟨Says.no fun h=>a.o ⟨h.1.2.2.2.2.1,h.2,h.1.2.2.2.2.2.1,h.1.2.2.2.2.2.2.1⟩,E⟩
   ·have a:=Kz p;clear p b j l;go_wp2
    go_ret
    exact⟨Says.no fun h=>a.o ⟨h.1.2.2.1,h.1.2.2.2.1,h.1.2.2.2.2.2.2.2⟩,r⟩
 ·go_enter func235,ntmps235
  go_wp2
  go_ret
  exact⟨Says.no fun h=>by have:=h.1.1;simp[k] at this,ag _ _⟩
theorem xy(w:LP)(s:Xj)(a b:LM)(c d:Nat)(n:Int)(f:s.Fits):
  Calls prog 239 #[.agg #[.slice a s.asks.length c,.int .i64 s.on,.slice b s.cases.length d,.int .i64 s.els,.int .i64 s.fall,.bool s.fin,.bool s.bad,.string s.give],.int .i64 n] w fun e w'=>Says e (AU s)/\K_ w w':=by
 have h:K_ w (w.alloc (.cells #[.slice a s.asks.length c,.int .i64 s.on,.slice b s.cases.length d,.int .i64 s.els,.int .i64 s.fall,.bool s.fin,.bool s.bad,.string s.give] 235)):=ag _ _;go_enter func239,ntmps239
 go_wp2_with fail
 refine (qc _ s.asks.length s.on s.cases.length s.els s.fall s.fin s.bad s.give a b c d f.asks f.cases f.give).mono ?_;rintro e w1 ⟨⟨r,rfl,i⟩,j⟩;have l:=Kz i;have m:=h.trans j;clear i h j;go_wp2
 go_ret
 exact⟨⟨r,rfl,l.o⟩,m⟩
theorem zC(w:LP)(s:Xj)(a b:LM)(c d:Nat)(n:Int)(f:s.Fits):
  Calls prog 241 #[.agg #[.slice a s.asks.length c,.int .i64 s.on,.slice b s.cases.length d,.int .i64 s.els,.int .i64 s.fall,.bool s.fin,.bool s.bad,.string s.give],.int .i64 n] w fun e w'=>Says e (AU s)/\K_ w w':=by
 have h:K_ w (w.alloc (.cells #[.slice a s.asks.length c,.int .i64 s.on,.slice b s.cases.length d,.int .i64 s.els,.int .i64 s.fall,.bool s.fin,.bool s.bad,.string s.give] 236)):=ag _ _;go_enter func241,ntmps241
 go_wp2_with fail
 refine (qc _ s.asks.length s.on s.cases.length s.els s.fall s.fin s.bad s.give a b c d f.asks f.cases f.give).mono ?_;rintro e w1 ⟨⟨r,rfl,i⟩,j⟩;have l:=Kz i;have m:=h.trans j;clear i h j;go_wp2
 go_ret
 exact⟨⟨r,rfl,l.o⟩,m⟩
theorem uM(w:LP)(s:Xj)(a b:LM)(c d:Nat):
  Calls prog 168 #[.agg #[.slice a s.asks.length c,.int .i64 s.on,.slice b s.cases.length d,.int .i64 s.els,.int .i64 s.fall,.bool false,.bool s.bad,.string s.give]] w fun e w'=>e= .returned (.iface 233 (.agg #[.slice a s.asks.length c,.int .i64 s.on,.slice b s.cases.length d,.int .i64 s.els,.int .i64 s.fall,.bool false,.bool s.bad,.string s.give]))/\K_ w w':=by
 go_enter func168,ntmps168
 go_wp2
 go_ret
 exact⟨rfl,ag _ _⟩
theorem BX(w:LP)(s:Xj)(a b:LM)(c d:Nat):
  Calls prog 168 #[.agg #[.slice a s.asks.length c,.int .i64 s.on,.slice b s.cases.length d,.int .i64 s.els,.int .i64 s.fall,.bool true,.bool true,.string s.give]] w fun e w'=>e= .returned (.iface 236 (.agg #[.slice a s.asks.length c,.int .i64 s.on,.slice b s.cases.length d,.int .i64 s.els,.int .i64 s.fall,.bool true,.bool true,.string s.give]))/\K_ w w':=by
 go_enter func168,ntmps168
 go_wp2
 go_ret
 exact⟨rfl,ag _ _⟩
theorem Ar(w:LP)(s:Xj)(a b:LM)(c d:Nat):
  Calls prog 168 #[.agg #[.slice a s.asks.length c,.int .i64 s.on,.slice b s.cases.length d,.int .i64 s.els,.int .i64 s.fall,.bool true,.bool false,.string s.give]] w fun e w'=>e= .returned (.iface 235 (.agg #[.slice a s.asks.length c,.int .i64 s.on,.slice b s.cases.length d,.int .i64 s.els,.int .i64 s.fall,.bool true,.bool false,.string s.give]))/\K_ w w':=by
 go_enter func168,ntmps168
 go_wp2
 go_ret
 exact⟨rfl,ag _ _⟩
theorem meth_ask (vs : Array Value) (W : World) : (method 385 233 (.agg vs) "loop.example/kilnweb/impl.sound").run Tryz.prog W = .ok (235, .agg vs) W := by kernel_rfl
theorem meth_bad (vs : Array Value) (W : World) : (method 385 236 (.agg vs) "loop.example/kilnweb/impl.sound").run Tryz.prog W = .ok (241, .agg vs) W := by kernel_rfl
theorem meth_good (vs : Array Value) (W : World) : (method 385 235 (.agg vs) "loop.example/kilnweb/impl.sound").run Tryz.prog W = .ok (239, .agg vs) W := by kernel_rfl
theorem oU(w:LP)(cost:Int)(a:LM)(T:Nat)(l:List Xj)(hl:l.length<=maxLen)(hs:∀s∈l,s.Fits)(hS:Steps w a l):
  Calls prog 162 #[.agg #[.int .i64 cost,.slice a l.length T]] w fun e w'=>Says e (fU ⟨cost,l⟩)/\K_ w w':=by
 unfold maxLen at hl;have i:K_ w (w.alloc (.cells #[.int .i64 cost,.slice a l.length T] 77)):=ag _ _;by_cases a6:1<=cost
 ·by_cases a7:cost<=20
  ·by_cases a3:(1:Int)<=l.length
   ·by_cases a8:(l.length:Int)<=20
    ·have e1:decide (cost<1)=false:=by simp;omega
     have e2:decide (20<cost)=false:=by simp;omega
     have e3:decide ((l.length:Int)<1)=false:=by simp;omega
     have e4:decide (20<(l.length:Int))=false:=by simp;omega
     go_enter func162,ntmps162
     go_wp2
     clear e1 e2 e3 e4;go_loopw [28] (fun U wr=>∃k:Nat,k<=l.length/\U= .int .i64 k/\K_ (w.alloc (.cells #[.int .i64 cost,.slice a l.length T] 77)) wr/\∀j,j<k->ku (l.getD j Xj.zero) l.length) (fun U _=>l.length-(intOf U).toNat)
     case atStart=>exact⟨0,JR _,rfl,K_.refl _,fun j D=>aT D⟩
     case round=>
      obtain⟨k,hk,rfl,d,hg⟩:=hrel;have O:=Kz hg;clear hg;have a9:=d.size;simp only[KR] at a9;by_cases E:k<l.length
      ·obtain⟨b,o,cs,rfl,hb,f,m,n,p,q,rfl,F,G,a4⟩:=(hS.kept i).kept d k E;have P:=hs (l.getD k Xj.zero) (by simp[List.getD,E]);obtain⟨s,V⟩:=aj (l.getD k Xj.zero);rw[<-V] at f P F G a4;have B:=Kz V;clear V;have Q:=f 0 _ rfl;have X:=f 1 _ rfl;have Y:=f 2 _ rfl;have Z:=f 3 _ rfl;have a0:=f 4 _ rfl;have C:=f 5 _ rfl;have H:=f 6 _ rfl;have c7:=f 7 _ rfl;simp only[La] at Q;clear f;obtain⟨a1,a2⟩:=d.rules;have z0:w.heap.size<wr.heap.size:=by omega
       have z1:w.heap.size<wr.heap.size+1:=by omega
       cases c:s.fin
       ·rw[c] at C;have r:∀W,K_ wr W->Calls prog 235 #[.agg #[.slice m s.asks.length n,.int .i64 s.on,.slice p s.cases.length q,.int .i64 s.els,.int .i64 s.fall,.bool false,.bool s.bad,.string s.give],.int .i64 l.length] W fun e w'=>Says e (Dy s l.length)/\K_ W w':=fun W R=>by
         have h:=qD W s m p n q l.length P ⟨a3,a8⟩ (F.kept R) (G.kept R) a4;rw[c] at h;exact h
        have I:=Kz r;clear r;have J:=meth_ask;go_wp2
        go_region_with (first | (go_at_call 168;refine (uM _ s m p n q).mono ?_;rintro e w1 ⟨rfl,t⟩;obtain⟨K,L⟩:=t.rules;have a5:K_ wr w1:=K_.trans (by repeat (first | apply K_.drew | apply K_.alloc | exact K_.refl _)) t) | (go_at_call 235;refine (a_ I _ (by repeat (first | apply K_.drew | assumption))).mono ?_;rintro e w2 ⟨⟨M,rfl,v⟩,N⟩;have x:K_ wr w2:=K_.trans (by repeat (first | apply K_.drew | assumption)) N;have y:=Kz v;clear v))
        all_goals
         clear a1 a2 K L J Q X Y Z a0 C H c7 F G;cases M
         ·go_wp2
          go_ret
          exact⟨Says.no fun h=>(by have A:=h.2.2 k E;rw[<-B.o] at A;have:=y.o.2 (A.2 c);cases this),i.trans (by repeat (first | apply K_.drew | exact d.trans x))⟩
         ·go_wp2
          go_roundw
          case rel=>
           refine⟨k+1,by omega,by go_num,by repeat (first | apply K_.drew | exact d.trans x),fun j D=>?_⟩;by_cases e:j=k
           ·subst e;rw[<-B.o];exact⟨fun e=>(by rw[c] at e;cases e),fun _=>y.o.1 rfl⟩
           ·exact a_ O j (by omega)
          case measure=>simp[intOf];omega
       ·cases S:s.bad
        ·rw[c] at C;rw[S] at H;have r:∀W,K_ wr W->Calls prog 239 #[.agg #[.slice m s.asks.length n,.int .i64 s.on,.slice p s.cases.length q,.int .i64 s.els,.int .i64 s.fall,.bool true,.bool false,.string s.give],.int .i64 l.length] W fun e w'=>Says e (AU s)/\K_ W w':=fun W R=>by
          have h:=xy W s m p n q l.length P;rw[c,S] at h;exact h
         have I:=Kz r;clear r;have J:=meth_good;go_wp2
         go_region_with (first | (go_at_call 168;refine (Ar _ s m p n q).mono ?_;rintro e w1 ⟨rfl,t⟩;obtain⟨K,L⟩:=t.rules;have a5:K_ wr w1:=K_.trans (by repeat (first | apply K_.drew | apply K_.alloc | exact K_.refl _)) t) | (go_at_call 239;refine (a_ I _ (by repeat (first | apply K_.drew | assumption))).mono ?_;rintro e w2 ⟨⟨M,rfl,v⟩,N⟩;have x:K_ wr w2:=K_.trans (by repeat (first | apply K_.drew | assumption)) N;have y:=Kz v;clear v))
         all_goals
          clear a1 a2 K L J Q X Y Z a0 C H c7 F G;cases M
          ·go_wp2
           go_ret
           exact⟨Says.no fun h=>(by have A:=h.2.2 k E;rw[<-B.o] at A;have:=y.o.2 (A.1 c);cases this),i.trans (by repeat (first | apply K_.drew | exact d.trans x))⟩
          ·go_wp2
           go_roundw
           case rel=>
            refine⟨k+1,by omega,by go_num,by repeat (first | apply K_.drew | exact d.trans x),fun j D=>?_⟩;by_cases e:j=k
            ·subst e;rw[<-B.o];exact⟨fun _=>y.o.1 rfl,fun e=>(by rw[c] at e;cases e)⟩
            ·exact a_ O j (by omega)
           case measure=>simp[intOf];omega
        ·rw[c] at C;rw[S] at H;have r:∀W,K_ wr W->Calls prog 241 #[.agg #[.slice m s.asks.length n,.int .i64 s.on,.slice p s.cases.length q,.int .i64 s.els,.int .i64 s.fall,.bool true,.bool true,.string s.give],.int .i64 l.length] W fun e w'=>Says e (AU s)/\K_ W w':=fun W R=>by
          have h:=zC W s m p n q l.length P;rw[c,S] at h;exact h
         have I:=Kz r;clear r;have J:=meth_bad;go_wp2
         go_region_with (first | (go_at_call 168;refine (BX _ s m p n q).mono ?_;rintro e w1 ⟨rfl,t⟩;obtain⟨K,L⟩:=t.rules;have a5:K_ wr w1:=K_.trans (by repeat (first | apply K_.drew | apply K_.alloc | exact K_.refl _)) t) | (go_at_call 241;refine (a_ I _ (by repeat (first | apply K_.drew | assumption))).mono ?_;rintro e w2 ⟨⟨M,rfl,v⟩,N⟩;have x:K_ wr w2:=K_.trans (by repeat (first | apply K_.drew | assumption)) N;have y:=Kz v;clear v))
         all_goals
          clear a1 a2 K L J Q X Y Z a0 C H c7 F G;cases M
          ·go_wp2
           go_ret
           exact⟨Says.no fun h=>(by have A:=h.2.2 k E;rw[<-B.o] at A;have:=y.o.2 (A.1 c);cases this),i.trans (by repeat (first | apply K_.drew | exact d.trans x))⟩
          ·go_wp2
           go_roundw
           case rel=>
            refine⟨k+1,by omega,by go_num,by repeat (first | apply K_.drew | exact d.trans x),fun j D=>?_⟩;by_cases e:j=k
            ·subst e;rw[<-B.o];exact⟨fun _=>y.o.1 rfl,fun e=>(by rw[c] at e;cases e)⟩
            ·exact a_ O j (by omega)
           case measure=>simp[intOf];omega
      ·go_wp2
       go_ret
       exact⟨Says.yes ⟨⟨a6,a7⟩,⟨by show 1<=l.length;omega,by show l.length<=20;omega⟩,fun j (D:j<l.length)=>a_ O j (by omega)⟩,i.trans d⟩
    ·go_enter func162,ntmps162
     go_wp2
     go_ret
     exact⟨Says.no fun h=>by have:=h.2.1.2;simp at this;omega,i⟩
   ·go_enter func162,ntmps162
    go_wp2
    go_ret
    exact⟨Says.no fun h=>by have:=h.2.1.1;simp at this;omega,i⟩
  ·go_enter func162,ntmps162
   go_wp2
   go_ret
   exact⟨Says.no fun h=>by have:=h.1.2;simp at this;omega,i⟩
 ·go_enter func162,ntmps162
  go_wp2
  go_ret
  exact⟨Says.no fun h=>by have:=h.1.1;simp at this;omega,i⟩
def jQ(l:List Xj)(at':Int):Xj:=l.getD at'.toNat Xj.zero
def mM(cost:Int)(l:List Xj)(at':Int):Prop:=fU ⟨cost,l⟩/\(0<=at'/\at' < l.length)/\(jQ l at').fin=false
def lF(cost:Int)(l:List Xj)(at':Int)(ans:List Xq)(g:bW):Prop:=
 (¬mM cost l at'/\g=bW.none)\/(mM cost l at'/\Followed (jQ l at') ans g)
theorem lF.unique{cost:Int}{l:List Xj}{c:Int}{ans:List Xq}{g d:bW}(h:lF cost l c ans g)(e:lF cost l c ans d):g=d:=by
 rcases h with⟨a,rfl⟩ | ⟨a,f⟩ <;> rcases e with⟨b,rfl⟩ | ⟨b,i⟩
 ·rfl
 ·exact Lv b a
 ·exact Lv a b
 ·exact f.unique i
