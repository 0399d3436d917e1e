import Derived.Test.YtlfofiaagibapaaGreatDoorKWImpl3
set_option maxRecDepth 100000
set_option maxHeartbeats 25600000
namespace Go.Proofs.YtlfofiaagibapaaGreatDoor
open Go.RowKit Go.Proofs.Tryz
theorem AL(w:NN)(asks:Nat)(on:Int)(cases:Nat)(els fall:Int)(bad:Bool)(give:NL)(j k:NM)(l m:Nat)(n:Int)(p:asks<=maxLen)(h2:cases<=maxLen)(q:give.size<=maxLen):Calls prog 119 #[.agg #[.slice j asks l,.a on,.slice k cases m,.a els,.a fall,.bool true,.bool bad,.string give],.a n] w
   λe w'=>Says e (asks=0/\on=0/\cases=0/\els=0/\fall=0/\give.size<=30)/\K_ w w':=by
 unfold maxLen at p h2 q;have a:K_ w (w.alloc (.cells #[.slice j asks l,.a on,.slice k cases m,.a els,.a fall,.bool true,.bool bad,.string give] 128)):=ah _ _;cases b:((asks:Int) == 0)
 .go_enter func119,ntmps119
  go_wp2
  go_ret
  exact⟨Says.no λh=>by simp at b;omega,a⟩
 .obtain rfl:asks=0:=by simp at b;omega
  clear b;cases c:(on == 0)
  .go_enter func119,ntmps119
   go_wp2
   go_ret
   exact⟨Says.no λh=>by simp at c;omega,a⟩
  .obtain rfl:on=0:=by simpa using c
   clear c;cases d:((cases:Int) == 0)
   .go_enter func119,ntmps119
    go_wp2
    go_ret
    exact⟨Says.no λh=>by simp at d;omega,a⟩
   .obtain rfl:cases=0:=by simp at d;omega
    clear d;cases f:(els == 0)
    .go_enter func119,ntmps119
     go_wp2
     go_ret
     exact⟨Says.no λh=>by simp at f;omega,a⟩
    .obtain rfl:els=0:=by simpa using f
     clear f;cases i:(fall == 0)
     .go_enter func119,ntmps119
      go_wp2
      go_ret
      exact⟨Says.no λh=>by simp at i;omega,a⟩
     .obtain rfl:fall=0:=by simpa using i
      clear i;by_cases r:(give.size:Int)<=30
      .go_enter func119,ntmps119
       go_wp2
       go_ret
       exact⟨Says.yes F6,a⟩
      .go_enter func119,ntmps119
       go_wp2
       go_ret
       exact⟨Says.no λh=>E5,a⟩
theorem xW(w:NN)(s:Xq)(f i:NM)(j l:Nat)(n:Int)(c:s.Fits)(x:0<=n/\n<=20)(m:Strs w f s.asks)(p:lm w i s.cases)(y:s.fin=false)(z:Hid (¬vJ s n)):Calls prog 119 #[.agg #[.slice f s.asks.length j,.a s.on,.slice i s.cases.length l,.a s.els,.a s.fall,.bool s.fin,.bool s.bad,.string s.give],.a n] w
   λe w'=>e=.returned (.bool false)/\K_ w w':=by
 rw[y];let⟨K,L⟩:=x;have A:=c.asks;have B:=c.cases;have C:=c.give;unfold maxLen at A B C;have q:=tQ s.give;have D:=Kz q;clear q;cases E:s.bad
 .have b:K_ w (w.alloc (.cells #[.slice f s.asks.length j,.a s.on,.slice i s.cases.length l,.a s.els,.a s.fall,.bool false,.bool false,.string s.give] 128)):=ah _ _;go_enter func119,ntmps119
  go_wp2_with fail
  .have F:Hid (s.give.size=0):=D.o.1 H8;refine (lV _ f j s.asks c.asks c.eQ (m.kept b)).mono ?_;rintro e M ⟨k,d⟩;have a:=b.trans d;rcases k.cases with⟨rfl,r⟩|⟨rfl,N⟩
   .have G:=Kz r;clear r k;let⟨O,P⟩:=d.rules;have H:=d.size;simp only[MZ] at H;clear b d;have Q:=p.kept a;clear p m;by_cases R:(s.cases.length:Int)<=5
    .by_cases S:0<=s.els
     .cases t:decide (s.els<=n-1)
      .have I:n-1<s.els:=by simpa using t
       go_wp2
       go_ret
       exact⟨rfl,a⟩
      .have I:s.els<=n-1:=by simpa using t
       by_cases T: -1<=s.fall
       .cases v:decide (s.fall<=n-1)
        .have J:n-1<s.fall:=by simpa using v
         go_wp2
         go_ret
         exact⟨rfl,a⟩
        .have J:s.fall<=n-1:=by simpa using v
         have h:¬(s.on=0\/(0<=s.on/\s.on<s.asks.length)):=λh=>z.out ⟨E,F.o,E5,G.o,E5,⟨E5,E5⟩,⟨E5,E5⟩,h⟩
         have U:(s.on != 0)=true:=bne_iff_ne.2 E5;by_cases V:0<=s.on
         .have W:s.asks.length-1<s.on:=E5;have X:decide (s.on<=(s.asks.length:Int)-1)=false:=F6;clear h;go_wp2
          go_ret
          exact⟨rfl,a⟩
         .clear h;go_wp2
          go_ret
          exact⟨rfl,a⟩
       .go_wp2
        go_ret
        exact⟨rfl,a⟩
     .go_wp2
      go_ret
      exact⟨rfl,a⟩
    .go_wp2
     go_ret
     exact⟨rfl,a⟩
   .clear k b d;go_wp2
    go_ret
    exact⟨rfl,a⟩
  .go_ret
   exact⟨rfl,b⟩
  .go_ret
   exact⟨rfl,b⟩
 .go_enter func119,ntmps119
  go_wp2
  go_ret
  exact⟨rfl,ah _ _⟩
