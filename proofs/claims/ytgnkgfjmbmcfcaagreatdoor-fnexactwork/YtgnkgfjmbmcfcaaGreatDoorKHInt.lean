import Derived.Test.YtgnkgfjmbmcfcaaGreatDoorKHMem
set_option maxRecDepth 100000
set_option maxHeartbeats 25600000
namespace Go.Proofs.YtgnkgfjmbmcfcaaGreatDoor
open Go.RowKit Go.Proofs.Tryz
theorem Tryz.Oc :(prog.info? 145).map (fun i=>(i.zero,i.size,i.bytes))=some (some (.pointer none),1,8):=by kernel_rfl
variable {fid : Nat}
section
variable {α : Type} {loc : α -> Nat} {b o B n cap : Nat} {fn : QA} {f : Nat -> α} {a : Qx}
theorem aK.tK{w:Qy}{g:Nat}(h:aK w b o B 145 1 (fun x=>[(.pointer (some ⟨loc (x),0,none⟩))]) fn f n (some ⟨g,0,none⟩) cap){i:Nat}(hi:i<n):w.cell? ⟨g,i,none⟩=some ((.pointer (some ⟨loc (f i),0,none⟩))):=by
 have:=h.at hi (j:=0) (by omega);rw[Nat.mul_one] at this;exact this
theorem xO(w:Qy)(h:aK w b o B 145 1 (fun x=>[(.pointer (some ⟨loc (x),0,none⟩))]) fn f n a cap):
  Calls prog 122 #[.pointer (some ⟨b,o,none⟩)] w fun e w'=>e= .returned (.bool (decide (n=0)))/\w'=w:=by
 have d:=h.c0;have g:((n:Int) == 0)=decide (n=0):=by
  by_cases e:n=0
  ·subst e;rfl
  ·rw[decide_eq_false e];simpa using e
 go_enter func122,ntmps122
 go_wp2
 go_ret
 exact⟨rfl,rfl⟩
theorem FW(w:Qy)(h:aK w b o B 145 1 (fun x=>[(.pointer (some ⟨loc (x),0,none⟩))]) fn f n a cap)(c:0<n):
  Calls prog 155 #[.pointer (some ⟨b,o,none⟩)] w fun e w'=>e= .returned ((.pointer (some ⟨loc (f 0),0,none⟩)))/\w'=w:=by
 obtain⟨g,rfl,d,i,j⟩:=h.pos c;have k:=h.c0;have l:=h.tK c;have m:(0:Int)<(n:Int):=by omega
 go_enter func155,ntmps155
 go_wp2
 go_ret
 exact⟨rfl,rfl⟩
theorem uq(w:Qy)(h:aK w b o B 145 1 (fun x=>[(.pointer (some ⟨loc (x),0,none⟩))]) fn f n a cap){i j:Nat}(hi:i<n)(q:j<n)(F:n<=1000000):
  Calls prog 151 #[.pointer (some ⟨b,o,none⟩),.int .i64 (i:Int),.int .i64 (j:Int)] w fun e w'=>e= .returned (.tuple #[])/\aK w' b o B 145 1 (fun x=>[(.pointer (some ⟨loc (x),0,none⟩))]) fn (swp f i j) n a cap/\But (fun x=>(Value.slice a n cap).ownBlock=some x) w w':=by
 obtain⟨g,rfl,y,G,H⟩:=h.pos (by omega);have C:Hid (∀u,K_ w u->(u.cell? ⟨b,o,none⟩=some (.slice (some ⟨g,0,none⟩) n cap)/\u.cell? ⟨g,i,none⟩=some ((.pointer (some ⟨loc (f i),0,none⟩)))/\u.cell? ⟨g,j,none⟩=some ((.pointer (some ⟨loc (f j),0,none⟩))))):=fun u k=>⟨(k.cell h.lt).trans h.c0,(k.cell y).trans (h.tK hi),(k.cell y).trans (h.tK q)⟩
 have I:(i:Int)<(n:Int):=by omega
 have J:(j:Int)<(n:Int):=by omega
 obtain⟨z,r⟩:=ag w.drew;have s:K_ w z:=by rw[r];exact (bB w)
 have D:=Kz r;clear r;have d:=h.kept s;have L:=d.row.frozenAt i;have M:=d.tK hi;obtain⟨t,m⟩:=ag (z.setCell ⟨g,i,none⟩ ((.pointer (some ⟨loc (f j),0,none⟩))));have v:aK t b o B 145 1 (fun x=>[(.pointer (some ⟨loc (x),0,none⟩))]) fn (fun k=>if k=i then f j else f k) n (some ⟨g,0,none⟩) cap:=by have:=d.set hi (f j);rw[Nat.mul_one] at this;rw[m];exact this
 have N:=v.row.frozenAt j;have O:=v.tK q;have A:Hid (aK (t.setCell ⟨g,j,none⟩ ((.pointer (some ⟨loc (f i),0,none⟩)))) b o B 145 1 (fun x=>[(.pointer (some ⟨loc (x),0,none⟩))]) fn (swp f i j) n (some ⟨g,0,none⟩) cap/\But (fun x=>(Value.slice (some ⟨g,0,none⟩) n cap).ownBlock=some x) w (t.setCell ⟨g,j,none⟩ ((.pointer (some ⟨loc (f i),0,none⟩))))):=by
  have:=d.swap hi q;simp only[Nat.mul_one] at this;rw[m];exact⟨this,((But.aj (S:=fun x=>(Value.slice (some ⟨g,0,none⟩) n cap).ownBlock=some x) s).set (p:=⟨g,i,none⟩) rfl _).set (p:=⟨g,j,none⟩) rfl _⟩
 have E:=Kz m;clear h d v s m;go_enter func151,ntmps151
 go_wp2
 refine UpZ.region (by kernel_rfl) (fun u=>u.cell? ⟨b,o,none⟩=some (.slice (some ⟨g,0,none⟩) n cap)/\u.cell? ⟨g,i,none⟩=some ((.pointer (some ⟨loc (f i),0,none⟩)))/\u.cell? ⟨g,j,none⟩=some ((.pointer (some ⟨loc (f j),0,none⟩)))) [25,27] (C.o _ (bB w)) (fun c=>?_);rw[<-D.o] at c⊢;refine UpZ.tk 0 c ?_;refine UpZ.tk 1 c ?_;refine UpZ.tk 2 c ?_;refine UpZ.tk 3 c ?_;refine UpZ.tk 4 c ?_;refine UpZ.tk 5 c ?_;refine UpZ.tk 6 c ?_;refine UpZ.tk 7 c ?_;refine UpZ.tk 8 c ?_;refine UpZ.pu 9 ?_;refine UpZ.tk 10 c ?_;refine UpZ.tk 11 c ?_;refine UpZ.tk 12 c ?_;refine UpZ.tk 13 c ?_;refine UpZ.tk 14 c ?_;refine UpZ.tk 15 c ?_;refine UpZ.tk 16 c ?_;refine UpZ.tk 17 c ?_;refine UpZ.tk 18 c ?_;refine UpZ.tk 19 c ?_;refine UpZ.tk 20 c ?_;refine UpZ.tk 21 c ?_;refine UpZ.tk 22 c ?_;refine UpZ.tk 23 c ?_;refine UpZ.tk 24 c ?_;refine UpZ.nx 25 (fun K l=>?_);rw[Qg (by rfl)];go_simp
 rw[<-E.o];refine l.out _ _ (fun h=>Qi (by decide) h) ?_;clear l K;try simp only[Act.put,upA,upB,upC]
 refine UpZ.pu 26 ?_;refine UpZ.nx 27 (fun K l=>?_);rw[Qg (by rfl)];go_simp
 refine l.out _ _ (fun h=>Qi (by decide) h) ?_;clear l K;try simp only[Act.put,upA,upB,upC]
 refine UpZ.dn ?_;go_wp2
 go_end0
 exact⟨rfl,A.o.1,A.o.2⟩
def Nf(loc:α->Nat)(fid b o g n cap:Nat)(f:Nat->α)(q p:Nat)(u:Qy):Prop:=u.cell? ⟨b,o+1,none⟩=some (.func (.func fid) #[] #[])/\u.cell? ⟨b,o,none⟩=some (.slice (some ⟨g,0,none⟩) n cap)/\u.cell? ⟨g,q,none⟩=some ((.pointer (some ⟨loc (f q),0,none⟩)))/\u.cell? ⟨g,p,none⟩=some ((.pointer (some ⟨loc (f p),0,none⟩)))
theorem JA(w:Qy){ah:α->α->Bool}{Ok:α->Qy->Prop}(h:aK w b o B 145 1 (fun x=>[(.pointer (some ⟨loc (x),0,none⟩))]) (.func (.func fid) #[] #[]) f n a cap)(v:mF fid (fun x=>(.pointer (some ⟨loc (x),0,none⟩))) ah Ok)(G:fid=65\/fid=66)(z:∀i,i<n->∀u,K_ w u->Ok (f i) u){k:Nat}(O:k<=n)(P:n<=1000000):
  Calls prog 156 #[.pointer (some ⟨b,o,none⟩),.int .i64 (k:Int)] w fun e w'=>e= .returned (.int .i64 (dG ah f n k:Nat))/\K_ w w':=by
 have⟨j,H,A⟩:=bA h v z;clear h v z;rcases G with rfl|rfl
 all_goals
  go_enter func156,ntmps156
  go_wp2
  go_loopw [5,6] (fun x y wr=>∃p q:Nat,x= .int .i64 (p:Int)/\y= .int .i64 (q:Int)/\Hid (nK ah f n k q p)/\Hid (K_ w wr)) (fun _ y _=>2*k+3-(intOf y).toNat)
  case atStart=>exact⟨k,2*k+1,rfl,by go_num,.inl ⟨rfl,rfl⟩,K_.refl w⟩
  case round=>
   obtain⟨p,q,rfl,rfl,m,g⟩:=hrel;have Q:=(j.o.kept g.o).c0;by_cases I:q<=2*k+2/\q<n
   ·have C:(q:Int)<=2*(k:Int)+2:=by omega
    have J:(q:Int)<(n:Int):=by omega
    obtain⟨r,rfl,R,S,T⟩:=j.o.pos (by omega);have K:p<n:=by
     rcases m.o with⟨d,c⟩|⟨d,c⟩|⟨d,c⟩
     ·omega
     ·rw[c];unfold gJ;split <;> omega
     ·omega
    have U:(p:Int)<(n:Int):=by omega
    have L:Hid (∀u,K_ w u->Nf loc _ b o r n cap f q p u):=fun u k=>⟨((j.o.kept k)).c1,((j.o.kept k)).c0,(j.o.kept k).tK I.2,(j.o.kept k).tK K⟩
    go_wp2
    refine Qk.region (by kernel_rfl) (fun u=>u.cell? ⟨b,o+1,none⟩=some (.func (.func _) #[] #[])/\u.cell? ⟨b,o,none⟩=some (.slice (some ⟨r,0,none⟩) n cap)/\u.cell? ⟨r,q,none⟩=some (.pointer (some ⟨loc (f q),0,none⟩))/\u.cell? ⟨r,p,none⟩=some (.pointer (some ⟨loc (f p),0,none⟩))) 18 (L.o _ (g.o.drew)) (fun l=>?_);refine af 0 l ?_;refine af 4 l ?_;refine af 8 l ?_;refine af 12 l ?_;refine ae 16 l ?_;refine ae 17 l ?_;refine ax 18 (fun M D=>?_);go_simp
    refine (H.o (f q) (f p) _ (A.o q (by omega) _ g.o.drew) (A.o p (by omega) _ g.o.drew)).mono ?_;rintro e V ⟨rfl,N⟩;dsimp only;have E:=Kz (g.o.drew.trans N);refine D.out _ _ (fun h=>absurd rfl h) ?_;clear D M;try simp only[Act.put,upA,upB,upC]
    refine az ?_;cases s:ah (f q) (f p)
    ·have t:Hid (nK ah f n k (q+1) p):=by
      rcases m.o with⟨d,c⟩|⟨d,c⟩|⟨d,c⟩
      ·exact .inr (.inl ⟨by omega,by unfold gJ;rw[Qh (by rw[<-d,<-c,s];simp)];exact c⟩)
      ·exact .inr (.inr ⟨by omega,by unfold dG;rw[Qh (by rw[<-d,<-c,s];simp)];exact c⟩)
      ·omega
     go_wp2
     go_roundw
     case rel=>exact⟨p,q+1,rfl,by go_num,t,E⟩
     case measure=>simp[intOf];omega
    ·have t:Hid (nK ah f n k (q+1) q):=by
      rcases m.o with⟨d,c⟩|⟨d,c⟩|⟨d,c⟩
      ·exact .inr (.inl ⟨by omega,by unfold gJ;rw[Qg ⟨by omega,by rw[<-d,<-c,s]⟩];exact d⟩)
      ·exact .inr (.inr ⟨by omega,by unfold dG;rw[Qg ⟨by omega,by rw[<-d,<-c,s]⟩];exact d⟩)
      ·omega
     go_wp2
     go_roundw
     case rel=>exact⟨q,q+1,rfl,by go_num,t,E⟩
     case measure=>simp[intOf];omega
   ·have F:Hid (p=dG ah f n k):=by
     show _=_;rcases m.o with⟨d,c⟩|⟨d,c⟩|⟨d,c⟩
     ·unfold dG gJ;rw[Qh (by omega),Qh (by omega)];exact c
     ·unfold dG;rw[Qh (by omega)];exact c
     ·exact c
    by_cases W:q<=2*k+2
    ·have C:(q:Int)<=2*(k:Int)+2:=by omega
     have J:¬(q:Int)<(n:Int):=by omega
     go_wp2
     go_ret
     exact⟨by rw[F.out];rfl,g.o⟩
    ·have C:¬(q:Int)<=2*(k:Int)+2:=by omega
     go_wp2
     go_ret
     exact⟨by rw[F.out];rfl,g.o⟩
theorem DF(w:Qy){ah:α->α->Bool}{Ok:α->Qy->Prop}(l:aK w b o B 145 1 (fun x=>[(.pointer (some ⟨loc (x),0,none⟩))]) (.func (.func fid) #[] #[]) f n a cap)(T:mF fid (fun x=>(.pointer (some ⟨loc (x),0,none⟩))) ah Ok)(hf:fid=65\/fid=66)(x:α)(U:∀y u,(y=x\/g_ f n y)->But (fun z=>z=b\/(Value.slice a n cap).ownBlock=some z) w u->Ok y u)(hn:n<1000000)(hB:B<=w.heap.size):
  Calls prog 119 #[.pointer (some ⟨b,o,none⟩),(.pointer (some ⟨loc (x),0,none⟩))] w fun e w'=>e= .returned (.tuple #[])/\∃a' cap',aK w' b o B 145 1 (fun x=>[(.pointer (some ⟨loc (x),0,none⟩))]) (.func (.func fid) #[] #[]) (ig ah f n x) (n+1) a' cap'/\ToH w w' b o a n cap a' (n+1) cap':=by
 obtain⟨ie,a7,a8,a9,b0⟩:=info_parts Tryz.Oc;have⟨HM,HA,V⟩:=bA l T U;have W:=l.c0;have J:=l.lt;obtain⟨t0,m0,X,c7⟩:=l.blk;have b1:=Kz (l.row.alloc (.cells #[(.pointer (some ⟨loc (x),0,none⟩))] 145));have b2:Hid (∀j u,([(.pointer (some ⟨loc (x),0,none⟩))]:List QA)[j]? =some u->(w.alloc (.cells #[(.pointer (some ⟨loc (x),0,none⟩))] 145)).cell? ((⟨w.heap.size,0,none⟩:Addr).add j)=some u):=fun j u hj=>by rw[PQ];exact X_ w #[(.pointer (some ⟨loc (x),0,none⟩))] 145 j u hj
 have b3:Hid (∀u∈([(.pointer (some ⟨loc (x),0,none⟩))]:List QA),u.oneCell'=true):=fun u Y=>by rw[Pd] at Y;subst Y;rfl
 have b4:Hid (n+1<=maxLen):=by show _<=_;unfold maxLen;omega
 have b5:Hid ((n+1)*8<=140737488355328):=by show _<=_;omega
 have b6:Hid (B<=(w.alloc (.cells #[(.pointer (some ⟨loc (x),0,none⟩))] 145)).heap.size):=by show _<=_;rw[PL];omega
 have b7:Hid (∀d h (m:Qy),m.ownsRow B 145 1 (.slice (some ⟨d,0,none⟩) (n+1) h) (n+1) (bK (fun x=>[(.pointer (some ⟨loc (x),0,none⟩))]) f n++ [(.pointer (some ⟨loc (x),0,none⟩))])->(w.alloc (.cells #[(.pointer (some ⟨loc (x),0,none⟩))] 145)).grownBy m (Value.slice a n cap).ownBlock->((Value.slice a n cap).ownBlock=some d\/d= (w.alloc (.cells #[(.pointer (some ⟨loc (x),0,none⟩))] 145)).heap.size)->
   (aK (m.setCell ⟨b,o,none⟩ (.slice (some ⟨d,0,none⟩) (n+1) h)) b o B 145 1 (fun x=>[(.pointer (some ⟨loc (x),0,none⟩))]) (.func (.func fid) #[] #[]) (fun i=>if i=n then x else f i) (n+1) (some ⟨d,0,none⟩) h/\ToH w (m.setCell ⟨b,o,none⟩ (.slice (some ⟨d,0,none⟩) (n+1) h)) b o a n cap (some ⟨d,0,none⟩) (n+1) h)/\m.frozen? ⟨b,o,none⟩=false/\∃K,m.cell? ⟨b,o,none⟩=some K):=fun d h m b8 b9 Z=>by
  have kA:K_ w (w.alloc (.cells #[(.pointer (some ⟨loc (x),0,none⟩))] 145)):=ak w _;have k1:But (fun z=>(Value.slice a n cap).ownBlock=some z) w m:=(But.aj kA).trans (.aQ b9 (fun _ l=>l));have c0:(Value.slice (some ⟨d,0,none⟩) (n+1) h).ownBlock≠some b:=fun e=>by
   have A:d=b:=by injection e
   rcases Z with t|t
   ·exact l.ne (by rw[t,A])
   ·rw[PL] at t;omega
  have ho:m.ownsRow B 145 1 (.slice (some ⟨d,0,none⟩) (n+1) h) (n+1) (bK (fun x=>[(.pointer (some ⟨loc (x),0,none⟩))]) (fun i=>if i=n then x else f i) (n+1)):=by
   have A:bK (fun x=>[(.pointer (some ⟨loc (x),0,none⟩))]) (fun i=>if i=n then x else f i) (n+1)=bK (fun x=>[(.pointer (some ⟨loc (x),0,none⟩))]) f n++ [(.pointer (some ⟨loc (x),0,none⟩))]:=by
    simp only[bK,if_true];rw[gQ (fun i L=>by rw[Qh (by omega)])]
   rw[A];exact b8
  obtain⟨j1,j2,j3,j4⟩:=l.told k1 ho c0;have c2:=k1.row X l.ne;obtain⟨⟨K,M⟩,N⟩:=c2.row.at (i:=o) (by omega);refine⟨⟨j1,j2,j3,j4,fun z hz=>?_⟩,N,K,M⟩;have A:d=z:=by injection hz
  subst A;rcases Z with t|t
  ·exact .inl t
  ·exact .inr (by rw[PL] at t;omega)
 obtain⟨fv,a0⟩:=ag (Value.func (.func fid) #[] #[]);have G:=Kz a0;clear l T U X a0;rcases hf with rfl | rfl
 all_goals
  go_enter func119,ntmps119
  go_wp2_with (at_builtin;refine wpList_append_lies _ rfl (.tmp 10) (.tmp 12) 123 rfl B 145 ie (.pointer none) 1 8 underlying123 a7 a8 a9 b0 rfl (by decide) (.slice a n cap) n _ rfl b1.o ⟨w.heap.size,0,none⟩ 1 1 [(.pointer (some ⟨loc (x),0,none⟩))] rfl rfl b2.o b3.o (by decide) b4.o b5.o b6.o _ rfl ?_;intro d h m a1 a2 a3 _;obtain⟨O,N,v0,M⟩:=b7.o d h m a1 a2 a3;have P:=Kz O;have c1:=O.1.c0;clear a1 a2 a3 O W)
  generalize c3:m.setCell ⟨b,o,none⟩ (.slice (some ⟨d,0,none⟩) (n+1) h)=w2 at P c1⊢;clear c3 N M v0;go_loopw [4] (fun y wr=>∃(k r:Nat) (c:Nat->α),y= .int .i64 (k:Int)/\k<=n/\k<=r/\Hid (aK wr b o B 145 1 (fun x=>[(.pointer (some ⟨loc (x),0,none⟩))]) fv c (n+1) (some ⟨d,0,none⟩) h)/\Hid (upF ah r c k=ig ah f n x)/\Hid (∀i,i<n+1->c i=x\/g_ f n (c i))/\Hid (ToH w wr b o a n cap (some ⟨d,0,none⟩) (n+1) h)) (fun y _=>(intOf y).toNat)
  case atStart=>
   refine⟨n,n,fun i=>if i=n then x else f i,by go_num,OU _,OU _,by rw[G.o];exact P.o.1,rfl,fun i L=>?_,P.o.2⟩;by_cases e:i=n
   ·exact .inl (Qg e)
   ·exact .inr ⟨i,by omega,by simp only[Qh e]⟩
  case round=>
   obtain⟨k,r,c,rfl,hk,hm,q,HU,C,H⟩:=hrel;clear c1;have W:=q.o.c0;by_cases Q:k=0
   ·subst Q;have D:Hid (c=ig ah f n x):=by
     show _=_;rw[<-HU.o];cases r <;> simp[upF]
    go_wp2
    go_end0
    exact⟨rfl,_,_,by rw[<-D.o,<-G.o];exact q.o,H.o⟩
   ·obtain⟨r,rfl⟩:∃m',r=m'+1:=⟨r-1,by omega⟩;obtain⟨p,E⟩:=ag (bR k);have c8:p<k:=by rw[E];unfold bR;omega
    have c9:((k:Int)-1).tdiv 2= (p:Int):=by rw[E];unfold bR;rw[Int.tdiv_eq_ediv_of_nonneg (by omega)];omega
    have d0:((k:Int)-1) / 2= (p:Int):=by rw[E];unfold bR;omega
    have d1:(0:Int)<(k:Int):=by omega
    have d2:(k:Int)<(n:Int)+1:=by omega
    have d3:(p:Int)<(n:Int)+1:=by omega
    have a4:Hid (if ah (c k) (c p)=true then upF ah r (swp c k p) p=ig ah f n x else c=ig ah f n x):=by
     have e:=HU.o;simp only[upF,Qh Q] at e;rw[<-E] at e;show if _ then _ else _
     split
     ·next g=>rw[Qg g] at e;exact e
     ·next g=>rw[Qh g] at e;exact e
    have a5:=Kz H.o.but;have R:Hid (∀u,K_ wr u->Nf loc _ b o d (n+1) h c k p u):=fun u I=>⟨by have:=(q.o.kept I).c1;rw[G.o] at this;exact this,((q.o.kept I)).c0,(q.o.kept I).tK (by omega),(q.o.kept I).tK (by omega)⟩
    clear E Q;go_wp2
    refine Qk.region (by kernel_rfl) (fun u=>u.cell? ⟨b,o+1,none⟩=some (.func (.func _) #[] #[])/\u.cell? ⟨b,o,none⟩=some (.slice (some ⟨d,0,none⟩) (n+1) h)/\u.cell? ⟨d,k,none⟩=some (.pointer (some ⟨loc (c k),0,none⟩))/\u.cell? ⟨d,p,none⟩=some (.pointer (some ⟨loc (c p),0,none⟩))) 19 (R.o _ (bB _)) (fun s=>?_);refine af 0 s ?_;refine af 4 s ?_;refine af 8 s ?_;refine af 12 s ?_;refine ae 16 s ?_;refine ae 17 s ?_;refine ax 18 (fun S F=>?_);go_simp
    refine (HA.o (c k) (c p) _ (V.o _ _ (C.o k (by omega)) (a5.o.trans (.aj (bB _)))) (V.o _ _ (C.o p (by omega)) (a5.o.trans (.aj (bB _))))).mono ?_;rintro e w8 ⟨rfl,k8⟩;dsimp only;have v:=Kz ((K_.refl wr).drew.trans k8);refine F.out _ _ (fun _=>R.o _ v.o) ?_;clear F S s;try simp only[Act.put,upA,upB,upC]
    have s:=R.o _ v.o;refine ax 19 (fun S F=>?_);go_simp
    refine F.out _ _ (fun l=>Qi rfl l) ?_;clear F S;try simp only[Act.put,upA,upB,upC]
    refine az ?_;cases hx:ah (c k) (c p)
    ·have D:=Kz (show c=ig ah f n x by have e:=a4.o;rw[hx] at e;simpa using e);go_wp2
     try simp only[Exit.inBlock,Exit.then]
     refine bodyPost_ret (results_none rfl _ _ _) rfl ?_;exact⟨rfl,_,_,by rw[<-D.o,<-G.o];exact q.o.kept v.o,H.o.next (.aj v.o) J (q.o.ne)⟩
    ·have D:=Kz (show upF ah r (swp c k p) p=ig ah f n x by have e:=a4.o;rw[hx] at e;simpa using e);go_wp2_with fail
     refine (uq _ (q.o.kept v.o) (i:=k) (j:=p) (by omega) (by omega) (by omega)).mono ?_;rintro e w9 ⟨rfl,a6,k9⟩;have c4:=Kz a6;have c5:=Kz ((H.o.next (.aj v.o) J (q.o.ne)).next k9 J (q.o.ne));have c6:Hid (∀i,i<n+1->swp c k p i=x\/g_ f n (swp c k p i)):=fun i L=>by
      unfold swp
      split
      ·exact C.o p (by omega)
      ·split
       ·exact C.o k (by omega)
       ·exact C.o i L
     clear a6 k9;go_wp2
     go_roundw
     case rel=>exact⟨p,r,swp c k p,rfl,by omega,by omega,c4,D,c6,c5⟩
     case measure=>simp[intOf];omega
theorem Am(w:Qy){ah:α->α->Bool}{Ok:α->Qy->Prop}(h:aK w b o B 145 1 (fun x=>[(.pointer (some ⟨loc (x),0,none⟩))]) (.func (.func fid) #[] #[]) f (n+1) a cap)(J:mF fid (fun x=>(.pointer (some ⟨loc (x),0,none⟩))) ah Ok)(T:fid=65\/fid=66)(K:∀y u,g_ f (n+1) y->But (fun z=>z=b\/(Value.slice a (n+1) cap).ownBlock=some z) w u->Ok y u)(hn:n<1000000):
  Calls prog 123 #[.pointer (some ⟨b,o,none⟩)] w fun e w'=>e= .returned ((.pointer (some ⟨loc (f 0),0,none⟩)))/\aK w' b o B 145 1 (fun x=>[(.pointer (some ⟨loc (x),0,none⟩))]) (.func (.func fid) #[] #[]) (eZ ah f n) n a cap/\ToH w w' b o a (n+1) cap a n cap:=by
 obtain⟨g,rfl,a6,a7,a8⟩:=h.pos (by omega);have⟨L,U,V⟩:=bA h J K;have v:=h.lt;have M:=h.ne;have W:=h.c0;have a9:(n:Int)<=(cap:Int):=by omega
 have b0:(n:Int)+1-1= (n:Int):=by omega
 have X:Hid (∀c:Qy,aK c b o B 145 1 (fun x=>[(.pointer (some ⟨loc (x),0,none⟩))]) (.func (.func fid) #[] #[]) (swp f 0 n) (n+1) (some ⟨g,0,none⟩) cap->But (fun x=>(Value.slice (some ⟨g,0,none⟩) (n+1) cap).ownBlock=some x) w c->
   (aK (c.setCell ⟨b,o,none⟩ (.slice (some ⟨g,0,none⟩) n cap)) b o B 145 1 (fun x=>[(.pointer (some ⟨loc (x),0,none⟩))]) (.func (.func fid) #[] #[]) (swp f 0 n) n (some ⟨g,0,none⟩) cap/\ToH w (c.setCell ⟨b,o,none⟩ (.slice (some ⟨g,0,none⟩) n cap)) b o (some ⟨g,0,none⟩) (n+1) cap (some ⟨g,0,none⟩) n cap)/\c.frozen? ⟨b,o,none⟩=false):=fun c A p=>by
  obtain⟨Y,Z,j3,j4⟩:=A.told (.aj (K_.refl c)) (uI (fun _=>rfl) A.row) A.ne;obtain⟨t0,m0,a0,b1⟩:=A.blk;refine⟨⟨Y,⟨?_,fun i r=>(j3 i r).trans (p.cell v M),fun a1 m hr=>j4 a1 m (p.row hr M),fun x hx=>.inl hx⟩⟩,(a0.row.at (i:=o) (by omega)).2⟩;exact (p.mono (fun _ _ h=>.inr h)).trans Z
 clear h J K;obtain⟨fv,N⟩:=ag (Value.func (.func fid) #[] #[]);have E:=Kz N;clear N;rcases T with rfl | rfl
 all_goals
  go_enter func123,ntmps123
  go_wp2_with fail
  refine (FW w L.o (by omega)).mono ?_;rintro e w0 ⟨rfl,h0⟩;obtain rfl:=h0.symm;go_wp2_with fail
  refine (uq w L.o (i:=0) (j:=n) (by omega) (by omega) (by omega)).mono ?_;rintro e c ⟨rfl,F,p⟩;obtain⟨O,f0⟩:=X.o c F p;have G:=Kz O;have c1:=F.c0;clear F p O W;go_wp2
  generalize a2:c.setCell ⟨b,o,none⟩ (.slice (some ⟨g,0,none⟩) n cap)=w2 at G⊢;clear a2 f0 c1;go_loopw [5] (fun y wr=>∃(k m:Nat) (d:Nat->α),y= .int .i64 (k:Int)/\k<=n/\(k<n\/n=0)/\n<=k+m/\Hid (aK wr b o B 145 1 (fun x=>[(.pointer (some ⟨loc (x),0,none⟩))]) fv d n (some ⟨g,0,none⟩) cap)/\Hid (jq ah m d n k=eZ ah f n)/\Hid (∀i,i<n->g_ f (n+1) (d i))/\Hid (ToH w wr b o (some ⟨g,0,none⟩) (n+1) cap (some ⟨g,0,none⟩) n cap)) (fun y _=>n-(intOf y).toNat)
  case atStart=>
   refine⟨0,n,swp f 0 n,rfl,by omega,by omega,by omega,by rw[E.o];exact G.o.1,rfl,fun i r=>?_,G.o.2⟩;unfold swp
   split
   ·exact⟨n,by omega,rfl⟩
   ·split
    ·omega
    ·exact⟨i,by omega,rfl⟩
  case round=>
   obtain⟨k,m,d,rfl,hk,b2,hm,s,P,C,H⟩:=hrel;go_wp2_with fail
   refine (JA wr (by have:=s.o;rw[E.o] at this;exact this) U.o (by simp) (fun i r u ku=>V.o _ u (C.o i r) (H.o.but.trans (.aj ku))) hk (by omega)).mono ?_;rintro e w8 ⟨rfl,Q⟩;have D:=Kz Q;clear Q;obtain⟨q,l⟩:=ag (dG ah d n k);rw[<-l];by_cases t:q=k
   ·have I:=Kz (show d=eZ ah f n by
     have e:=P.o;cases m with
     | zero=>exact e
     | succ m=>simp only[jq] at e;rw[Qg (l.symm.trans t)] at e;exact e)
    have e0:((q:Int) == (k:Int))=true:=by rw[t];simp
    clear t l;go_wp2
    go_ret
    exact⟨rfl,by rw[<-I.o,<-E.o];exact s.o.kept D.o,H.o.next (.aj D.o) v (s.o.ne)⟩
   ·have b3:q<n/\k<q:=by
     rcases l_ (ah:=ah) d n k with e|⟨e,e1⟩|⟨e,e1⟩
     ·exact Qi (l.trans e) t
     ·omega
     ·omega
    obtain⟨m,rfl⟩:∃m',m=m'+1:=⟨m-1,by omega⟩;have I:=Kz (show jq ah m (swp d k q) n q=eZ ah f n by
     have e:=P.o;simp only[jq] at e;rw[Qh (fun x=>t (l.trans x)),<-l] at e;exact e)
    have e0:((q:Int) == (k:Int))=false:=by
     have:¬(q:Int)= (k:Int):=by omega
     simpa using this
    clear t l;go_wp2_with fail
    refine (uq w8 (s.o.kept D.o) (i:=k) (j:=q) (by omega) (by omega) (by omega)).mono ?_;rintro e w9 ⟨rfl,R,S⟩;have a3:=Kz R;have a4:=Kz ((H.o.next (.aj D.o) v (s.o.ne)).next S v (s.o.ne));have a5:Hid (∀i,i<n->g_ f (n+1) (swp d k q i)):=fun i r=>by
     unfold swp
     split
     ·exact C.o q (by omega)
     ·split
      ·exact C.o k (by omega)
      ·exact C.o i r
    clear R S;go_wp2
    go_roundw
    case rel=>exact⟨q,m,swp d k q,rfl,by omega,by omega,by omega,a3,I,a5,a4⟩
    case measure=>simp[intOf];omega
end
theorem Tryz.Oa :(prog.info? 3).map (fun i=>(i.zero,i.size,i.bytes))=some (some (.int .i64 0),1,8):=by kernel_rfl
variable {fid : Nat}
section
variable {α : Type} {num : α -> Int} {b o B n cap : Nat} {fn : QA} {f : Nat -> α} {a : Qx}
theorem aK.tC{w:Qy}{g:Nat}(h:aK w b o B 3 1 (fun x=>[(.int .i64 (num (x)))]) fn f n (some ⟨g,0,none⟩) cap){i:Nat}(hi:i<n):w.cell? ⟨g,i,none⟩=some ((.int .i64 (num (f i)))):=by
 have:=h.at hi (j:=0) (by omega);rw[Nat.mul_one] at this;exact this
theorem Ff(w:Qy)(h:aK w b o B 3 1 (fun x=>[(.int .i64 (num (x)))]) fn f n a cap):
  Calls prog 124 #[.pointer (some ⟨b,o,none⟩)] w fun e w'=>e= .returned (.bool (decide (n=0)))/\w'=w:=by
 have d:=h.c0;have g:((n:Int) == 0)=decide (n=0):=by
  by_cases e:n=0
  ·subst e;rfl
  ·rw[decide_eq_false e];simpa using e
 go_enter func124,ntmps124
 go_wp2
 go_ret
 exact⟨rfl,rfl⟩
theorem Gn(w:Qy)(h:aK w b o B 3 1 (fun x=>[(.int .i64 (num (x)))]) fn f n a cap)(c:0<n):
  Calls prog 158 #[.pointer (some ⟨b,o,none⟩)] w fun e w'=>e= .returned ((.int .i64 (num (f 0))))/\w'=w:=by
 obtain⟨g,rfl,d,i,j⟩:=h.pos c;have k:=h.c0;have l:=h.tC c;have m:(0:Int)<(n:Int):=by omega
 go_enter func158,ntmps158
 go_wp2
 go_ret
 exact⟨rfl,rfl⟩
theorem uw(w:Qy)(h:aK w b o B 3 1 (fun x=>[(.int .i64 (num (x)))]) fn f n a cap){i j:Nat}(hi:i<n)(q:j<n)(F:n<=1000000):
  Calls prog 116 #[.pointer (some ⟨b,o,none⟩),.int .i64 (i:Int),.int .i64 (j:Int)] w fun e w'=>e= .returned (.tuple #[])/\aK w' b o B 3 1 (fun x=>[(.int .i64 (num (x)))]) fn (swp f i j) n a cap/\But (fun x=>(Value.slice a n cap).ownBlock=some x) w w':=by
 obtain⟨g,rfl,y,G,H⟩:=h.pos (by omega);have C:Hid (∀u,K_ w u->(u.cell? ⟨b,o,none⟩=some (.slice (some ⟨g,0,none⟩) n cap)/\u.cell? ⟨g,i,none⟩=some ((.int .i64 (num (f i))))/\u.cell? ⟨g,j,none⟩=some ((.int .i64 (num (f j)))))):=fun u k=>⟨(k.cell h.lt).trans h.c0,(k.cell y).trans (h.tC hi),(k.cell y).trans (h.tC q)⟩
 have I:(i:Int)<(n:Int):=by omega
 have J:(j:Int)<(n:Int):=by omega
 obtain⟨z,r⟩:=ag w.drew;have s:K_ w z:=by rw[r];exact (bB w)
 have D:=Kz r;clear r;have d:=h.kept s;have L:=d.row.frozenAt i;have M:=d.tC hi;obtain⟨t,m⟩:=ag (z.setCell ⟨g,i,none⟩ ((.int .i64 (num (f j)))));have v:aK t b o B 3 1 (fun x=>[(.int .i64 (num (x)))]) fn (fun k=>if k=i then f j else f k) n (some ⟨g,0,none⟩) cap:=by have:=d.set hi (f j);rw[Nat.mul_one] at this;rw[m];exact this
 have N:=v.row.frozenAt j;have O:=v.tC q;have A:Hid (aK (t.setCell ⟨g,j,none⟩ ((.int .i64 (num (f i))))) b o B 3 1 (fun x=>[(.int .i64 (num (x)))]) fn (swp f i j) n (some ⟨g,0,none⟩) cap/\But (fun x=>(Value.slice (some ⟨g,0,none⟩) n cap).ownBlock=some x) w (t.setCell ⟨g,j,none⟩ ((.int .i64 (num (f i)))))):=by
  have:=d.swap hi q;simp only[Nat.mul_one] at this;rw[m];exact⟨this,((But.aj (S:=fun x=>(Value.slice (some ⟨g,0,none⟩) n cap).ownBlock=some x) s).set (p:=⟨g,i,none⟩) rfl _).set (p:=⟨g,j,none⟩) rfl _⟩
 have E:=Kz m;clear h d v s m;go_enter func116,ntmps116
 go_wp2
 refine UpZ.region (by kernel_rfl) (fun u=>u.cell? ⟨b,o,none⟩=some (.slice (some ⟨g,0,none⟩) n cap)/\u.cell? ⟨g,i,none⟩=some ((.int .i64 (num (f i))))/\u.cell? ⟨g,j,none⟩=some ((.int .i64 (num (f j))))) [25,27] (C.o _ (bB w)) (fun c=>?_);rw[<-D.o] at c⊢;refine UpZ.tk 0 c ?_;refine UpZ.tk 1 c ?_;refine UpZ.tk 2 c ?_;refine UpZ.tk 3 c ?_;refine UpZ.tk 4 c ?_;refine UpZ.tk 5 c ?_;refine UpZ.tk 6 c ?_;refine UpZ.tk 7 c ?_;refine UpZ.tk 8 c ?_;refine UpZ.pu 9 ?_;refine UpZ.tk 10 c ?_;refine UpZ.tk 11 c ?_;refine UpZ.tk 12 c ?_;refine UpZ.tk 13 c ?_;refine UpZ.tk 14 c ?_;refine UpZ.tk 15 c ?_;refine UpZ.tk 16 c ?_;refine UpZ.tk 17 c ?_;refine UpZ.tk 18 c ?_;refine UpZ.tk 19 c ?_;refine UpZ.tk 20 c ?_;refine UpZ.tk 21 c ?_;refine UpZ.tk 22 c ?_;refine UpZ.tk 23 c ?_;refine UpZ.tk 24 c ?_;refine UpZ.nx 25 (fun K l=>?_);rw[Qg (by rfl)];go_simp
 rw[<-E.o];refine l.out _ _ (fun h=>Qi (by decide) h) ?_;clear l K;try simp only[Act.put,upA,upB,upC]
 refine UpZ.pu 26 ?_;refine UpZ.nx 27 (fun K l=>?_);rw[Qg (by rfl)];go_simp
 refine l.out _ _ (fun h=>Qi (by decide) h) ?_;clear l K;try simp only[Act.put,upA,upB,upC]
 refine UpZ.dn ?_;go_wp2
 go_end0
 exact⟨rfl,A.o.1,A.o.2⟩
def Nj(num:α->Int)(fid b o g n cap:Nat)(f:Nat->α)(q p:Nat)(u:Qy):Prop:=u.cell? ⟨b,o+1,none⟩=some (.func (.func fid) #[] #[])/\u.cell? ⟨b,o,none⟩=some (.slice (some ⟨g,0,none⟩) n cap)/\u.cell? ⟨g,q,none⟩=some ((.int .i64 (num (f q))))/\u.cell? ⟨g,p,none⟩=some ((.int .i64 (num (f p))))
theorem Jk(w:Qy){ah:α->α->Bool}{Ok:α->Qy->Prop}(h:aK w b o B 3 1 (fun x=>[(.int .i64 (num (x)))]) (.func (.func fid) #[] #[]) f n a cap)(v:mF fid (fun x=>(.int .i64 (num (x)))) ah Ok)(G:fid=68)(z:∀i,i<n->∀u,K_ w u->Ok (f i) u){k:Nat}(O:k<=n)(P:n<=1000000):
  Calls prog 159 #[.pointer (some ⟨b,o,none⟩),.int .i64 (k:Int)] w fun e w'=>e= .returned (.int .i64 (dG ah f n k:Nat))/\K_ w w':=by
 have⟨j,H,A⟩:=bA h v z;clear h v z;subst G
 all_goals
  go_enter func159,ntmps159
  go_wp2
  go_loopw [5,6] (fun x y wr=>∃p q:Nat,x= .int .i64 (p:Int)/\y= .int .i64 (q:Int)/\Hid (nK ah f n k q p)/\Hid (K_ w wr)) (fun _ y _=>2*k+3-(intOf y).toNat)
  case atStart=>exact⟨k,2*k+1,rfl,by go_num,.inl ⟨rfl,rfl⟩,K_.refl w⟩
  case round=>
   obtain⟨p,q,rfl,rfl,m,g⟩:=hrel;have Q:=(j.o.kept g.o).c0;by_cases I:q<=2*k+2/\q<n
   ·have C:(q:Int)<=2*(k:Int)+2:=by omega
    have J:(q:Int)<(n:Int):=by omega
    obtain⟨r,rfl,R,S,T⟩:=j.o.pos (by omega);have K:p<n:=by
     rcases m.o with⟨d,c⟩|⟨d,c⟩|⟨d,c⟩
     ·omega
     ·rw[c];unfold gJ;split <;> omega
     ·omega
    have U:(p:Int)<(n:Int):=by omega
    have L:Hid (∀u,K_ w u->Nj num _ b o r n cap f q p u):=fun u k=>⟨((j.o.kept k)).c1,((j.o.kept k)).c0,(j.o.kept k).tC I.2,(j.o.kept k).tC K⟩
    go_wp2
    refine Qk.region (by kernel_rfl) (fun u=>u.cell? ⟨b,o+1,none⟩=some (.func (.func _) #[] #[])/\u.cell? ⟨b,o,none⟩=some (.slice (some ⟨r,0,none⟩) n cap)/\u.cell? ⟨r,q,none⟩=some (.int .i64 (num (f q)))/\u.cell? ⟨r,p,none⟩=some (.int .i64 (num (f p)))) 18 (L.o _ (g.o.drew)) (fun l=>?_);refine af 0 l ?_;refine af 4 l ?_;refine af 8 l ?_;refine af 12 l ?_;refine ae 16 l ?_;refine ae 17 l ?_;refine ax 18 (fun M D=>?_);go_simp
    refine (H.o (f q) (f p) _ (A.o q (by omega) _ g.o.drew) (A.o p (by omega) _ g.o.drew)).mono ?_;rintro e V ⟨rfl,N⟩;dsimp only;have E:=Kz (g.o.drew.trans N);refine D.out _ _ (fun h=>absurd rfl h) ?_;clear D M;try simp only[Act.put,upA,upB,upC]
    refine az ?_;cases s:ah (f q) (f p)
    ·have t:Hid (nK ah f n k (q+1) p):=by
      rcases m.o with⟨d,c⟩|⟨d,c⟩|⟨d,c⟩
      ·exact .inr (.inl ⟨by omega,by unfold gJ;rw[Qh (by rw[<-d,<-c,s];simp)];exact c⟩)
      ·exact .inr (.inr ⟨by omega,by unfold dG;rw[Qh (by rw[<-d,<-c,s];simp)];exact c⟩)
      ·omega
     go_wp2
     go_roundw
     case rel=>exact⟨p,q+1,rfl,by go_num,t,E⟩
     case measure=>simp[intOf];omega
    ·have t:Hid (nK ah f n k (q+1) q):=by
      rcases m.o with⟨d,c⟩|⟨d,c⟩|⟨d,c⟩
      ·exact .inr (.inl ⟨by omega,by unfold gJ;rw[Qg ⟨by omega,by rw[<-d,<-c,s]⟩];exact d⟩)
      ·exact .inr (.inr ⟨by omega,by unfold dG;rw[Qg ⟨by omega,by rw[<-d,<-c,s]⟩];exact d⟩)
      ·omega
     go_wp2
     go_roundw
     case rel=>exact⟨q,q+1,rfl,by go_num,t,E⟩
     case measure=>simp[intOf];omega
   ·have F:Hid (p=dG ah f n k):=by
     show _=_;rcases m.o with⟨d,c⟩|⟨d,c⟩|⟨d,c⟩
     ·unfold dG gJ;rw[Qh (by omega),Qh (by omega)];exact c
     ·unfold dG;rw[Qh (by omega)];exact c
     ·exact c
    by_cases W:q<=2*k+2
    ·have C:(q:Int)<=2*(k:Int)+2:=by omega
     have J:¬(q:Int)<(n:Int):=by omega
     go_wp2
     go_ret
     exact⟨by rw[F.out];rfl,g.o⟩
    ·have C:¬(q:Int)<=2*(k:Int)+2:=by omega
     go_wp2
     go_ret
     exact⟨by rw[F.out];rfl,g.o⟩
theorem CZ(w:Qy){ah:α->α->Bool}{Ok:α->Qy->Prop}(l:aK w b o B 3 1 (fun x=>[(.int .i64 (num (x)))]) (.func (.func fid) #[] #[]) f n a cap)(T:mF fid (fun x=>(.int .i64 (num (x)))) ah Ok)(hf:fid=68)(x:α)(U:∀y u,(y=x\/g_ f n y)->But (fun z=>z=b\/(Value.slice a n cap).ownBlock=some z) w u->Ok y u)(hn:n<1000000)(hB:B<=w.heap.size):
  Calls prog 69 #[.pointer (some ⟨b,o,none⟩),(.int .i64 (num (x)))] w fun e w'=>e= .returned (.tuple #[])/\∃a' cap',aK w' b o B 3 1 (fun x=>[(.int .i64 (num (x)))]) (.func (.func fid) #[] #[]) (ig ah f n x) (n+1) a' cap'/\ToH w w' b o a n cap a' (n+1) cap':=by
 obtain⟨ie,a7,a8,a9,b0⟩:=info_parts Tryz.Oa;have⟨HM,HA,V⟩:=bA l T U;have W:=l.c0;have J:=l.lt;obtain⟨t0,m0,X,c7⟩:=l.blk;have b1:=Kz (l.row.alloc (.cells #[(.int .i64 (num (x)))] 3));have b2:Hid (∀j u,([(.int .i64 (num (x)))]:List QA)[j]? =some u->(w.alloc (.cells #[(.int .i64 (num (x)))] 3)).cell? ((⟨w.heap.size,0,none⟩:Addr).add j)=some u):=fun j u hj=>by rw[PQ];exact X_ w #[(.int .i64 (num (x)))] 3 j u hj
 have b3:Hid (∀u∈([(.int .i64 (num (x)))]:List QA),u.oneCell'=true):=fun u Y=>by rw[Pd] at Y;subst Y;rfl
 have b4:Hid (n+1<=maxLen):=by show _<=_;unfold maxLen;omega
 have b5:Hid ((n+1)*8<=140737488355328):=by show _<=_;omega
 have b6:Hid (B<=(w.alloc (.cells #[(.int .i64 (num (x)))] 3)).heap.size):=by show _<=_;rw[PL];omega
 have b7:Hid (∀d h (m:Qy),m.ownsRow B 3 1 (.slice (some ⟨d,0,none⟩) (n+1) h) (n+1) (bK (fun x=>[(.int .i64 (num (x)))]) f n++ [(.int .i64 (num (x)))])->(w.alloc (.cells #[(.int .i64 (num (x)))] 3)).grownBy m (Value.slice a n cap).ownBlock->((Value.slice a n cap).ownBlock=some d\/d= (w.alloc (.cells #[(.int .i64 (num (x)))] 3)).heap.size)->
   (aK (m.setCell ⟨b,o,none⟩ (.slice (some ⟨d,0,none⟩) (n+1) h)) b o B 3 1 (fun x=>[(.int .i64 (num (x)))]) (.func (.func fid) #[] #[]) (fun i=>if i=n then x else f i) (n+1) (some ⟨d,0,none⟩) h/\ToH w (m.setCell ⟨b,o,none⟩ (.slice (some ⟨d,0,none⟩) (n+1) h)) b o a n cap (some ⟨d,0,none⟩) (n+1) h)/\m.frozen? ⟨b,o,none⟩=false/\∃K,m.cell? ⟨b,o,none⟩=some K):=fun d h m b8 b9 Z=>by
  have kA:K_ w (w.alloc (.cells #[(.int .i64 (num (x)))] 3)):=ak w _;have k1:But (fun z=>(Value.slice a n cap).ownBlock=some z) w m:=(But.aj kA).trans (.aQ b9 (fun _ l=>l));have c0:(Value.slice (some ⟨d,0,none⟩) (n+1) h).ownBlock≠some b:=fun e=>by
   have A:d=b:=by injection e
   rcases Z with t|t
   ·exact l.ne (by rw[t,A])
   ·rw[PL] at t;omega
  have ho:m.ownsRow B 3 1 (.slice (some ⟨d,0,none⟩) (n+1) h) (n+1) (bK (fun x=>[(.int .i64 (num (x)))]) (fun i=>if i=n then x else f i) (n+1)):=by
   have A:bK (fun x=>[(.int .i64 (num (x)))]) (fun i=>if i=n then x else f i) (n+1)=bK (fun x=>[(.int .i64 (num (x)))]) f n++ [(.int .i64 (num (x)))]:=by
    simp only[bK,if_true];rw[gQ (fun i L=>by rw[Qh (by omega)])]
   rw[A];exact b8
  obtain⟨j1,j2,j3,j4⟩:=l.told k1 ho c0;have c2:=k1.row X l.ne;obtain⟨⟨K,M⟩,N⟩:=c2.row.at (i:=o) (by omega);refine⟨⟨j1,j2,j3,j4,fun z hz=>?_⟩,N,K,M⟩;have A:d=z:=by injection hz
  subst A;rcases Z with t|t
  ·exact .inl t
  ·exact .inr (by rw[PL] at t;omega)
 obtain⟨fv,a0⟩:=ag (Value.func (.func fid) #[] #[]);have G:=Kz a0;clear l T U X a0;subst hf
 all_goals
  go_enter func69,ntmps69
  go_wp2_with (at_builtin;refine wpList_append_lies _ rfl (.tmp 10) (.tmp 12) 56 rfl B 3 ie (.int .i64 0) 1 8 underlying56 a7 a8 a9 b0 rfl (by decide) (.slice a n cap) n _ rfl b1.o ⟨w.heap.size,0,none⟩ 1 1 [(.int .i64 (num (x)))] rfl rfl b2.o b3.o (by decide) b4.o b5.o b6.o _ rfl ?_;intro d h m a1 a2 a3 _;obtain⟨O,N,v0,M⟩:=b7.o d h m a1 a2 a3;have P:=Kz O;have c1:=O.1.c0;clear a1 a2 a3 O W)
  generalize c3:m.setCell ⟨b,o,none⟩ (.slice (some ⟨d,0,none⟩) (n+1) h)=w2 at P c1⊢;clear c3 N M v0;go_loopw [4] (fun y wr=>∃(k r:Nat) (c:Nat->α),y= .int .i64 (k:Int)/\k<=n/\k<=r/\Hid (aK wr b o B 3 1 (fun x=>[(.int .i64 (num (x)))]) fv c (n+1) (some ⟨d,0,none⟩) h)/\Hid (upF ah r c k=ig ah f n x)/\Hid (∀i,i<n+1->c i=x\/g_ f n (c i))/\Hid (ToH w wr b o a n cap (some ⟨d,0,none⟩) (n+1) h)) (fun y _=>(intOf y).toNat)
  case atStart=>
   refine⟨n,n,fun i=>if i=n then x else f i,by go_num,OU _,OU _,by rw[G.o];exact P.o.1,rfl,fun i L=>?_,P.o.2⟩;by_cases e:i=n
   ·exact .inl (Qg e)
   ·exact .inr ⟨i,by omega,by simp only[Qh e]⟩
  case round=>
   obtain⟨k,r,c,rfl,hk,hm,q,HU,C,H⟩:=hrel;clear c1;have W:=q.o.c0;by_cases Q:k=0
   ·subst Q;have D:Hid (c=ig ah f n x):=by
     show _=_;rw[<-HU.o];cases r <;> simp[upF]
    go_wp2
    go_end0
    exact⟨rfl,_,_,by rw[<-D.o,<-G.o];exact q.o,H.o⟩
   ·obtain⟨r,rfl⟩:∃m',r=m'+1:=⟨r-1,by omega⟩;obtain⟨p,E⟩:=ag (bR k);have c8:p<k:=by rw[E];unfold bR;omega
    have c9:((k:Int)-1).tdiv 2= (p:Int):=by rw[E];unfold bR;rw[Int.tdiv_eq_ediv_of_nonneg (by omega)];omega
    have d0:((k:Int)-1) / 2= (p:Int):=by rw[E];unfold bR;omega
    have d1:(0:Int)<(k:Int):=by omega
    have d2:(k:Int)<(n:Int)+1:=by omega
    have d3:(p:Int)<(n:Int)+1:=by omega
    have a4:Hid (if ah (c k) (c p)=true then upF ah r (swp c k p) p=ig ah f n x else c=ig ah f n x):=by
     have e:=HU.o;simp only[upF,Qh Q] at e;rw[<-E] at e;show if _ then _ else _
     split
     ·next g=>rw[Qg g] at e;exact e
     ·next g=>rw[Qh g] at e;exact e
    have a5:=Kz H.o.but;have R:Hid (∀u,K_ wr u->Nj num _ b o d (n+1) h c k p u):=fun u I=>⟨by have:=(q.o.kept I).c1;rw[G.o] at this;exact this,((q.o.kept I)).c0,(q.o.kept I).tC (by omega),(q.o.kept I).tC (by omega)⟩
    clear E Q;go_wp2
    refine Qk.region (by kernel_rfl) (fun u=>u.cell? ⟨b,o+1,none⟩=some (.func (.func _) #[] #[])/\u.cell? ⟨b,o,none⟩=some (.slice (some ⟨d,0,none⟩) (n+1) h)/\u.cell? ⟨d,k,none⟩=some (.int .i64 (num (c k)))/\u.cell? ⟨d,p,none⟩=some (.int .i64 (num (c p)))) 19 (R.o _ (bB _)) (fun s=>?_);refine af 0 s ?_;refine af 4 s ?_;refine af 8 s ?_;refine af 12 s ?_;refine ae 16 s ?_;refine ae 17 s ?_;refine ax 18 (fun S F=>?_);go_simp
    refine (HA.o (c k) (c p) _ (V.o _ _ (C.o k (by omega)) (a5.o.trans (.aj (bB _)))) (V.o _ _ (C.o p (by omega)) (a5.o.trans (.aj (bB _))))).mono ?_;rintro e w8 ⟨rfl,k8⟩;dsimp only;have v:=Kz ((K_.refl wr).drew.trans k8);refine F.out _ _ (fun _=>R.o _ v.o) ?_;clear F S s;try simp only[Act.put,upA,upB,upC]
    have s:=R.o _ v.o;refine ax 19 (fun S F=>?_);go_simp
    refine F.out _ _ (fun l=>Qi rfl l) ?_;clear F S;try simp only[Act.put,upA,upB,upC]
    refine az ?_;cases hx:ah (c k) (c p)
    ·have D:=Kz (show c=ig ah f n x by have e:=a4.o;rw[hx] at e;simpa using e);go_wp2
     try simp only[Exit.inBlock,Exit.then]
     refine bodyPost_ret (results_none rfl _ _ _) rfl ?_;exact⟨rfl,_,_,by rw[<-D.o,<-G.o];exact q.o.kept v.o,H.o.next (.aj v.o) J (q.o.ne)⟩
    ·have D:=Kz (show upF ah r (swp c k p) p=ig ah f n x by have e:=a4.o;rw[hx] at e;simpa using e);go_wp2_with fail
     refine (uw _ (q.o.kept v.o) (i:=k) (j:=p) (by omega) (by omega) (by omega)).mono ?_;rintro e w9 ⟨rfl,a6,k9⟩;have c4:=Kz a6;have c5:=Kz ((H.o.next (.aj v.o) J (q.o.ne)).next k9 J (q.o.ne));have c6:Hid (∀i,i<n+1->swp c k p i=x\/g_ f n (swp c k p i)):=fun i L=>by
      unfold swp
      split
      ·exact C.o p (by omega)
      ·split
       ·exact C.o k (by omega)
       ·exact C.o i L
     clear a6 k9;go_wp2
     go_roundw
     case rel=>exact⟨p,r,swp c k p,rfl,by omega,by omega,c4,D,c6,c5⟩
     case measure=>simp[intOf];omega
theorem IL(w:Qy){ah:α->α->Bool}{Ok:α->Qy->Prop}(h:aK w b o B 3 1 (fun x=>[(.int .i64 (num (x)))]) (.func (.func fid) #[] #[]) f (n+1) a cap)(J:mF fid (fun x=>(.int .i64 (num (x)))) ah Ok)(T:fid=68)(K:∀y u,g_ f (n+1) y->But (fun z=>z=b\/(Value.slice a (n+1) cap).ownBlock=some z) w u->Ok y u)(hn:n<1000000):
  Calls prog 126 #[.pointer (some ⟨b,o,none⟩)] w fun e w'=>e= .returned ((.int .i64 (num (f 0))))/\aK w' b o B 3 1 (fun x=>[(.int .i64 (num (x)))]) (.func (.func fid) #[] #[]) (eZ ah f n) n a cap/\ToH w w' b o a (n+1) cap a n cap:=by
 obtain⟨g,rfl,a6,a7,a8⟩:=h.pos (by omega);have⟨L,U,V⟩:=bA h J K;have v:=h.lt;have M:=h.ne;have W:=h.c0;have a9:(n:Int)<=(cap:Int):=by omega
 have b0:(n:Int)+1-1= (n:Int):=by omega
 have X:Hid (∀c:Qy,aK c b o B 3 1 (fun x=>[(.int .i64 (num (x)))]) (.func (.func fid) #[] #[]) (swp f 0 n) (n+1) (some ⟨g,0,none⟩) cap->But (fun x=>(Value.slice (some ⟨g,0,none⟩) (n+1) cap).ownBlock=some x) w c->
   (aK (c.setCell ⟨b,o,none⟩ (.slice (some ⟨g,0,none⟩) n cap)) b o B 3 1 (fun x=>[(.int .i64 (num (x)))]) (.func (.func fid) #[] #[]) (swp f 0 n) n (some ⟨g,0,none⟩) cap/\ToH w (c.setCell ⟨b,o,none⟩ (.slice (some ⟨g,0,none⟩) n cap)) b o (some ⟨g,0,none⟩) (n+1) cap (some ⟨g,0,none⟩) n cap)/\c.frozen? ⟨b,o,none⟩=false):=fun c A p=>by
  obtain⟨Y,Z,j3,j4⟩:=A.told (.aj (K_.refl c)) (uI (fun _=>rfl) A.row) A.ne;obtain⟨t0,m0,a0,b1⟩:=A.blk;refine⟨⟨Y,⟨?_,fun i r=>(j3 i r).trans (p.cell v M),fun a1 m hr=>j4 a1 m (p.row hr M),fun x hx=>.inl hx⟩⟩,(a0.row.at (i:=o) (by omega)).2⟩;exact (p.mono (fun _ _ h=>.inr h)).trans Z
 clear h J K;obtain⟨fv,N⟩:=ag (Value.func (.func fid) #[] #[]);have E:=Kz N;clear N;subst T
 all_goals
  go_enter func126,ntmps126
  go_wp2_with fail
  refine (Gn w L.o (by omega)).mono ?_;rintro e w0 ⟨rfl,h0⟩;obtain rfl:=h0.symm;go_wp2_with fail
  refine (uw w L.o (i:=0) (j:=n) (by omega) (by omega) (by omega)).mono ?_;rintro e c ⟨rfl,F,p⟩;obtain⟨O,f0⟩:=X.o c F p;have G:=Kz O;have c1:=F.c0;clear F p O W;go_wp2
  generalize a2:c.setCell ⟨b,o,none⟩ (.slice (some ⟨g,0,none⟩) n cap)=w2 at G⊢;clear a2 f0 c1;go_loopw [5] (fun y wr=>∃(k m:Nat) (d:Nat->α),y= .int .i64 (k:Int)/\k<=n/\(k<n\/n=0)/\n<=k+m/\Hid (aK wr b o B 3 1 (fun x=>[(.int .i64 (num (x)))]) fv d n (some ⟨g,0,none⟩) cap)/\Hid (jq ah m d n k=eZ ah f n)/\Hid (∀i,i<n->g_ f (n+1) (d i))/\Hid (ToH w wr b o (some ⟨g,0,none⟩) (n+1) cap (some ⟨g,0,none⟩) n cap)) (fun y _=>n-(intOf y).toNat)
  case atStart=>
   refine⟨0,n,swp f 0 n,rfl,by omega,by omega,by omega,by rw[E.o];exact G.o.1,rfl,fun i r=>?_,G.o.2⟩;unfold swp
   split
   ·exact⟨n,by omega,rfl⟩
   ·split
    ·omega
    ·exact⟨i,by omega,rfl⟩
  case round=>
   obtain⟨k,m,d,rfl,hk,b2,hm,s,P,C,H⟩:=hrel;go_wp2_with fail
   refine (Jk wr (by have:=s.o;rw[E.o] at this;exact this) U.o rfl (fun i r u ku=>V.o _ u (C.o i r) (H.o.but.trans (.aj ku))) hk (by omega)).mono ?_;rintro e w8 ⟨rfl,Q⟩;have D:=Kz Q;clear Q;obtain⟨q,l⟩:=ag (dG ah d n k);rw[<-l];by_cases t:q=k
   ·have I:=Kz (show d=eZ ah f n by
     have e:=P.o;cases m with
     | zero=>exact e
     | succ m=>simp only[jq] at e;rw[Qg (l.symm.trans t)] at e;exact e)
    have e0:((q:Int) == (k:Int))=true:=by rw[t];simp
    clear t l;go_wp2
    go_ret
    exact⟨rfl,by rw[<-I.o,<-E.o];exact s.o.kept D.o,H.o.next (.aj D.o) v (s.o.ne)⟩
   ·have b3:q<n/\k<q:=by
     rcases l_ (ah:=ah) d n k with e|⟨e,e1⟩|⟨e,e1⟩
     ·exact Qi (l.trans e) t
     ·omega
     ·omega
    obtain⟨m,rfl⟩:∃m',m=m'+1:=⟨m-1,by omega⟩;have I:=Kz (show jq ah m (swp d k q) n q=eZ ah f n by
     have e:=P.o;simp only[jq] at e;rw[Qh (fun x=>t (l.trans x)),<-l] at e;exact e)
    have e0:((q:Int) == (k:Int))=false:=by
     have:¬(q:Int)= (k:Int):=by omega
     simpa using this
    clear t l;go_wp2_with fail
    refine (uw w8 (s.o.kept D.o) (i:=k) (j:=q) (by omega) (by omega) (by omega)).mono ?_;rintro e w9 ⟨rfl,R,S⟩;have a3:=Kz R;have a4:=Kz ((H.o.next (.aj D.o) v (s.o.ne)).next S v (s.o.ne));have a5:Hid (∀i,i<n->g_ f (n+1) (swp d k q i)):=fun i r=>by
     unfold swp
     split
     ·exact C.o q (by omega)
     ·split
      ·exact C.o k (by omega)
      ·exact C.o i r
    clear R S;go_wp2
    go_roundw
    case rel=>exact⟨q,m,swp d k q,rfl,by omega,by omega,by omega,a3,I,a5,a4⟩
    case measure=>simp[intOf];omega
end
