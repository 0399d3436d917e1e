import Derived.Test.YtgnkgfjmbmcfcaaGreatDoorKBData
import Derived.Test.YtgnkgfjmbmcfcaaGreatDoorKOFind2
set_option maxRecDepth 100000
set_option maxHeartbeats 25600000
namespace Go.Proofs.YtgnkgfjmbmcfcaaGreatDoor
open Go.RowKit Go.Proofs.Tryz
def kL(w:Qy)(xs:List QA)(l:List Qz):Prop:=
 xs.length=l.length/\∀i,i<l.length->∃tb cur fr,xs[i]? =some (.pointer (some ⟨tb,0,none⟩))/\w.heap[tb]? =some (Obj.cells cur 153 fr)/\w.cell? ⟨tb,0,none⟩=some (.string (l.getD i Qz.zero).name)
theorem kL.kept{w w':Qy}{b:List QA}{l:List Qz}(h:kL w b l)(k:K_ w w'):kL w' b l:=
 ⟨h.1,fun i d=>by
  obtain⟨c,e,f,g,a,j⟩:=h.2 i d;exact⟨c,e,f,g,by rw[k.block c (aV a)];exact a,(k.cell (aV a)).trans j⟩⟩
def uo(w:Qy)(a:Qx)(xs:List QA):Prop:=∀i,i<xs.length->∃b o,a=some ⟨b,o,none⟩/\b<w.heap.size/\∀j u,xs[j]? =some u->w.cell? ⟨b,o+j,none⟩=some u
theorem uo.kept{w w':Qy}{a:Qx}{b:List QA}(h:uo w a b)(k:K_ w w'):uo w' a b:=by
 intro i d;obtain⟨f,o,e,c,g⟩:=h i d;exact⟨f,o,e,OV c k.size,fun j u l=>(k.cell c).trans (g j u l)⟩
theorem dO{w:Qy}{base n:Nat}{t:TypeId}{a:Qx}{cap:Nat}{b:List QA}(h:w.ownsRow base t 1 (.slice a n cap) n b):uo w a b:=by
 have j:b.length=n:=by have:=h.1;omega
 rcases h.2 with⟨e,k⟩|⟨g,l,m,e,p,c,q,_,_,_⟩
 ·exact fun i d=>by omega
 ·simp only[PO] at e;obtain⟨rfl,_,rfl⟩:=e;refine fun i d=>⟨g,0,rfl,aV c,fun r u f=>?_⟩
  have:=h.cells (g:=g) rfl _ _ f;rw[PQ] at this;exact this
theorem yX(w:Qy)(tb:Nat)(n:Qw)(a:w.cell? ⟨tb,0,none⟩=some (.string n)):
  Calls prog 63 #[.pointer (some ⟨tb,0,none⟩)] w fun e w'=>e= .returned (.string n)/\w'=w:=by
 go_enter func63,ntmps63
 go_wp2
 go_ret
 exact⟨rfl,rfl⟩
theorem sW(w:Qy)(g:Nat)(n:Qw)(tb:Nat)(a:Qw)(c:g<w.heap.size)(d:tb<w.heap.size)(b:w.cell? ⟨tb,0,none⟩=some (.string n))(f:w.cell? ⟨g,1,none⟩=some (.func (.func 63) #[] #[])):
  Calls prog 176 #[.pointer (some ⟨tb,0,none⟩),.string a,.pointer (some ⟨g,0,none⟩)] w fun e w'=>e= .returned (.int .i64 (oM n.toList a.toList))/\K_ w w':=by
 go_enter func176,ntmps176
 go_wp2_with fail
 refine (yX _ tb n b).mono ?_;rintro e h ⟨rfl,rfl⟩;go_wp2_with fail
 refine (vg _ n a).mono ?_;rintro e i ⟨rfl,rfl⟩;go_wp2
 go_ret
 exact⟨rfl,K_.refl _⟩
theorem Dc(w:Qy)(g:Nat)(a:Qx)(cap:Nat)(l:List Qz)(c:Qw)(hl:l.length<=1048576)(Q:mV l)(C:g<w.heap.size)(R:w.cell? ⟨g,1,none⟩=some (.func (.func 63) #[] #[]))(S:List QA)(D:kL w S l)(T:uo w a S):
  Calls prog 175 #[.slice a l.length cap,.string c,.func (.func 176) #[] #[.pointer (some ⟨g,0,none⟩)]] w
   fun e w'=>Found l c.toList e/\K_ w w':=by
 have U:=Kz Q;clear Q;go_enter func175,ntmps175
 go_wp2
 go_loopw [9,10] (fun H I wr=>∃i j:Nat,H= .int .i64 i/\I= .int .i64 j/\i<=j/\j<=l.length/\(∀t,t<i->Op.bytesLess (nameAt l t) c.toList=true)/\(∀t,j<=t->t<l.length->Op.bytesLess (nameAt l t) c.toList=false)/\K_ w wr) (fun H I _=>(intOf I).toNat-(intOf H).toNat)
 case atStart=>exact⟨0,l.length,rfl,rfl,OW _,OU _,fun t V=>aB V,fun t h1 W=>by omega,K_.refl _⟩
 case round=>
  obtain⟨i,j,rfl,rfl,a6,X,p,q,d⟩:=hrel;have r:=Kz (And.intro p q);clear p q;by_cases a7:(i:Int)<j
  ·obtain⟨h,Y⟩:∃h:Nat,h= (i+j) / 2:=⟨_,rfl⟩;have J:h<l.length:=by omega
   have a1:i<=h:=by omega
   have a8:h<j:=by omega
   obtain⟨b,o,rfl,hb,s⟩:=T.kept d h (by rw[D.1];exact J);obtain⟨v,a2,fr,x,y,k⟩:=(D.kept d).2 h J;obtain⟨f,m⟩:=ag (l.getD h Qz.zero);rw[<-m] at k;have K:=Kz m;have L:=s _ _ x;have z:wr.cell? ⟨v,0,none⟩=some (.string f.name):=k;have M:=aV y;clear m s k x y;have a9:((i:Int)+ (j:Int)) / 2= (h:Int):=by omega
   have HH:=Kz Y;clear Y;have N:g<wr.heap.size:=OV C d.size;have O:wr.cell? ⟨g,1,none⟩=some (.func (.func 63) #[] #[]):=by rw[d.cell C];exact R
   go_wp2_with fail
   refine (sW _ g f.name v c N M z O).mono ?_;rintro e w1 ⟨rfl,A⟩;have B:nameAt l h=f.name.toList:=by unfold nameAt;rw[<-K.o]
   have E:Hid (oM f.name.toList c.toList<0↔Op.bytesLess (nameAt l h) c.toList=true):=by rw[B];exact Ei
   clear L z B;generalize oM f.name.toList c.toList=Z at *;have F:=d.trans A;clear d A;by_cases a3:Z<0
   ·go_wp2
    go_roundw
    case rel=>
     obtain⟨p,q⟩:=r.o;refine⟨h+1,j,by go_num,rfl,by omega,X,fun t V=>?_,q,F⟩;have n:=E.o.1 a3;by_cases e:t=h
     ·subst e;exact n
     ·exact eG _ _ _ (U.o t h (by omega) J) n
    case measure=>simp[intOf];omega
   ·go_wp2
    go_roundw
    case rel=>
     obtain⟨p,q⟩:=r.o;refine⟨i,h,rfl,by go_num,a1,by omega,p,fun t h1 W=>?_,F⟩;have n:Op.bytesLess (nameAt l h) c.toList=false:=by
      cases P:Op.bytesLess (nameAt l h) c.toList
      ·rfl
      ·have:=E.o.2 P;omega
     by_cases e:t=h
     ·subst e;exact n
     ·cases P:Op.bytesLess (nameAt l t) c.toList
      ·rfl
      ·rw[eG _ _ _ (U.o h t (by omega) W) P] at n;cases n
    case measure=>simp[intOf];omega
  ·have a4:i=j:=by omega
   subst a4;have a0:Hid (Place l c.toList i):=⟨X,r.o.1,r.o.2⟩;clear r;by_cases G:i<l.length
   ·obtain⟨b,o,rfl,hb,s⟩:=T.kept d i (by rw[D.1];exact G);obtain⟨v,a2,fr,x,y,k⟩:=(D.kept d).2 i G;obtain⟨f,m⟩:=ag (l.getD i Qz.zero);rw[<-m] at k;have K:=Kz m;have L:=s _ _ x;have z:wr.cell? ⟨v,0,none⟩=some (.string f.name):=k;have M:=aV y;clear m s k x y;have N:g<wr.heap.size:=OV C d.size;have O:wr.cell? ⟨g,1,none⟩=some (.func (.func 63) #[] #[]):=by rw[d.cell C];exact R
    have a5:(i:Int)<l.length:=by omega
    go_wp2_with fail
    refine (sW _ g f.name v c N M z O).mono ?_;rintro e w1 ⟨rfl,A⟩;have B:nameAt l i=f.name.toList:=by unfold nameAt;rw[<-K.o]
    have E:Hid (oM f.name.toList c.toList=0↔nameAt l i=c.toList):=by rw[B];exact AU
    clear L z B;generalize oM f.name.toList c.toList=Z at *;have F:=d.trans A;clear d A;go_wp2
    go_ret2
    refine⟨Found.mk i _ rfl a0.o ?_,F⟩;rw[<-E.o];simp[G]
   ·have a5:¬(i:Int)<l.length:=by omega
    go_wp2
    go_ret2
    exact⟨Found.mk i false rfl a0.o (by simp;intro h;exact Qi h G),d⟩
theorem Aj(w:Qy)(a:Qx)(cap:Nat)(l:List Qz)(b:Qw)(h:l.length<=1048576)(i:mV l)(c:List QA)(j:kL w c l)(k:uo w a c):
  Calls prog 149 #[.agg #[.slice a l.length cap,.func (.func 63) #[] #[]],.string b] w
   fun e w'=>Found l b.toList e/\K_ w w':=by
 have d:K_ w (w.alloc (.cells #[.slice a l.length cap,.func (.func 63) #[] #[]] 126)):=ak _ _;go_enter func149,ntmps149
 go_wp2_with fail
 refine (Dc _ w.heap.size a cap l b h i (by simp) (by simp) c (j.kept d) (k.kept d)).mono ?_;rintro e t ⟨m,n⟩;obtain⟨p,q,rfl,f,g⟩:=m;have⟨r,s⟩:=aD f g;clear f g;go_wp2
 go_ret2
 exact⟨Found.mk p q rfl r.o s.o,d.trans n⟩
def ji(ts:List Zk):List Qz:=ts.map fun t=>⟨t.r.name,0,[]⟩
theorem dQ(ts:List Zk):(ji ts).length=ts.length:=by simp[ji]
theorem iQ{ts:List Zk}{i:Nat}(h:i<ts.length):((ji ts).getD i Qz.zero).name=ts[i].r.name:=by simp[ji,List.getD,h]
theorem uA{ts:List Zk}(h:dB (Qj ts)):mV (ji ts):=fun i j e a=>by
 rw[dQ] at a;unfold nameAt;rw[iQ (by omega),iQ a];have:=Pg.1 h i j (by simp[Qj];omega) (by simpa[Qj] using a) e;unfold aH at this;simpa[Qj] using this
section
variable {G : cO} {Kq : List Qz} {wz w w' : Qy} {bb : Nat} {a : Qx} {cap : Nat} {rd : Qx} {rn rc : Nat} {mb mx : Nat} {ts : List Zk} {d : Qx} {dc : Nat} {f : Qw -> QA} {ws : Qw -> List Nat}
theorem BM.packed(h:BM G Kq wz w bb a cap rd rn rc mb mx ts d dc f ws):kL w (ts.map Zk.ptr) (ji ts):=
 ⟨by simp[ji],fun i b=>by
  rw[dQ] at b;have c:=h.fu ts[i] (Pf b);obtain⟨e,g,_⟩:=c.row;exact⟨ts[i].tb,e,_,by simp[b,Zk.ptr],g,by rw[iQ b];exact c.rng 0 _ rfl⟩⟩
def J_(ts:List Zk)(n:Qw)(e:Ending):Prop:=(∃(i:Nat) (hi:i<ts.length),ts[i].r.name=n/\e= .returned ts[i].ptr)\/((∀t∈ts,t.r.name≠n)/\e= .returned (.pointer none))
theorem qM(c:BM G Kq wz w bb a cap rd rn rc mb mx ts d dc f ws)(n:Qw)(O:ts.length<=1048576):
  Calls prog 113 #[.pointer (some ⟨bb,0,none⟩),.string n] w fun e w'=>J_ ts n e/\K_ w w':=by
 have t:=c.c3;have D:=c.c4;have P:=c.row.lt;have k:=dQ ts;have g:=Kz c;clear c;go_enter func113,ntmps113
 go_wp2_with fail
 have l:=Aj w d dc (ji ts) n (by omega) (uA g.o.asc) (ts.map Zk.ptr) g.o.packed (dO g.o.items);rw[k] at l;refine l.mono ?_;rintro e E ⟨⟨p,F,rfl,v,x⟩,m⟩;have⟨H,y,Q⟩:=bA v x k;clear v x l k t D;have i:=g.o.kept m;have t:=i.c3;have R:=i.row.lt;cases F
 ·go_wp2
  go_ret
  refine⟨.inr ⟨fun S I e=>?_,rfl⟩,m⟩;obtain⟨z,A,rfl⟩:=Ph I;have J:=H.o;have K:¬(p<(ji ts).length/\nameAt (ji ts) p=n.toList):=fun L=>by have:=y.o.2 L;cases this
  have q:nameAt (ji ts) z=n.toList:=by unfold nameAt;rw[iQ A,e]
  have s:z<(ji ts).length:=by rw[dQ];exact A
  have M:=Place.only (uA g.o.asc) J s q;rw[M] at s q;exact K ⟨s,q⟩
 ·obtain⟨h,j⟩:=y.o.1 rfl;rw[dQ] at h;have B:ts[p].r.name=n:=by unfold nameAt at j;rw[iQ h] at j;exact toList_inj.1 j
  obtain⟨b,o,rfl,T,C⟩:=dO i.items p (by simpa using h);have U:E.cell? ⟨b,o+p,none⟩=some ts[p].ptr:=C p _ (by simp[h]);have V:(p:Int)<(ts.length:Int):=by omega
  have N:=Kz B;clear B C j i;go_wp2
  go_ret
  exact⟨.inl ⟨p,h,N.o,rfl⟩,m⟩
theorem Gp(w:Qy)(n:Qw)(a:n.size<=1000):
  Calls prog 130 #[.string n] w fun e w'=>e= .returned (.agg #[.bool true,.string (yC n)])/\K_ w w':=by
 go_enter func130,ntmps130
 have b:¬9223372036854775807<3+n.size:=by omega
 go_wp2
 exact Zx [.bool true,.string (yC n)] _ results130 rfl (X_ w #[.bool true,.string (yC n)] 112) underlying112 rfl Tryz.lU rfl ⟨rfl,ak _ _⟩
def JU(Kq:List Qz)(l:List Q_)(n:Qw)(e:Ending):Prop:=
 ∃(f:Bool) (t:Qw) (ok:Bool),e= .returned (.tuple #[.agg #[.bool f,.string t],.bool ok])/\bE (Kk Kq) (Qq l) n= (if ok=true then some ⟨f,t⟩ else none)/\(ok=false->∃r,Qq l n=some r/\f=r.fail/\t=r.text)
theorem nD(p:BM G Kq wz w bb a cap rd rn rc mb mx ts d dc f ws)(n:Qw)(S:ts.length<=1048576)(T:n.size<=1000)(y:(∃t∈ts,t.r.name=n)\/Kk Kq n=none):
  Calls prog 79 #[.pointer (some ⟨bb,0,none⟩),.string n] w fun e w'=>JU Kq (Qj ts) n e/\K_ w w':=by
 have z:K_ w (w.alloc (.cells #[.bool false,.string ⟨#[]⟩] 112)):=ak _ _;go_enter func79,ntmps79
 go_wp2_with fail
 refine (qM (p.kept z) n S).mono ?_;rintro e q ⟨⟨i,A,B,rfl⟩|⟨L,rfl⟩,s⟩
 ·obtain⟨t,b⟩:=ag (ts[i]);have C:=p.fu ts[i] (Pf A);rw[<-b] at C B;have v:=C.rng;have M:w.cell? ⟨t.tb,1,none⟩=some (.bool t.r.over):=v 1 _ rfl;have N:w.cell? ⟨t.tb,2,none⟩=some (.bool t.r.fail):=v 2 _ rfl;have O:w.cell? ⟨t.tb,3,none⟩=some (.string t.r.text):=v 3 _ rfl;have D:=C.row.lt;have E:Hid (∀w',K_ w w'->w'.cell? ⟨t.tb,1,none⟩=some (.bool t.r.over)/\w'.cell? ⟨t.tb,2,none⟩=some (.bool t.r.fail)/\w'.cell? ⟨t.tb,3,none⟩=some (.string t.r.text)):=fun w' K=>⟨(K.cell D).trans M,(K.cell D).trans N,(K.cell D).trans O⟩
  have F:=Kz ((aL.made w #[.bool false,.string ⟨#[]⟩] 112).kept s);have c:=(z.trans s);obtain⟨U,V,W⟩:=E.o _ c;have⟨X,Y⟩:=aD B b;have P:ts[i].ptr= .pointer (some ⟨t.tb,0,none⟩):=by rw[<-b];rfl
  rw[P];clear b B M N O v P;go_upto_region 4 with fail
  refine jI 17 E.o (c.drew) (fun j=>?_);have H:K_ w q.drew:=c.drew;have k:=Kz (F.o.kept (bB q));generalize Z:q.drew=wd at j H k⊢;clear Z U V W;refine af 0 j ?_;refine af 4 j ?_;refine af 8 j ?_;refine af 12 j ?_;obtain⟨⟨_,x0⟩,f0⟩:=k.o.row.at (i:=0) (by decide);obtain⟨⟨_,x1⟩,f1⟩:=k.o.row.at (i:=1) (by decide);have xz:=k.o.lt;refine ay 16 (fun K l=>?_);go_simp
  refine l.out _ _ ?_ ?_
  ·exact fun _=>E.o _ (bG (g:=w.heap.size) (OU _) [.bool t.r.fail,.string t.r.text] 0 H)
  clear l K;try simp only[Act.put,upA,upB,upC]
  refine ay 17 (fun K l=>?_);go_simp
  refine l.out _ _ (fun h=>Qi rfl h) ?_;clear l K;try simp only[Act.put,upA,upB,upC]
  refine az ?_;go_wp2_with fail
  have I:=OY wd w.heap.size 0 [.bool t.r.fail,.string t.r.text] (k.o.row.there (o:=0) (m:=2) (OU _));refine bS [.bool t.r.fail,.string t.r.text] _ (.bool t.r.over) results79 rfl I underlying112 rfl Tryz.lU rfl rfl ?_;refine⟨⟨t.r.fail,t.r.text,t.r.over,rfl, ?_⟩,bG (g:=w.heap.size) (OU _) [.bool t.r.fail,.string t.r.text] 0 H⟩;have Q:=(p.act ts[i] (Pf A)).1;have J:=bU p.asc (PV (Pf A):ts[i].r∈Qj ts);rw[<-Y.o,X.o] at Q J;refine⟨by unfold bE;rw[Q,J],fun _=>⟨t.r,J,rfl,rfl⟩⟩
 ·have F:=Kz ((aL.made w #[.bool false,.string ⟨#[]⟩] 112).kept s);have c:=(z.trans s);have a0:=Kz L;clear L;go_wp2_with fail
  refine (Gp q n T).mono ?_;rintro e w2 ⟨rfl,R⟩;have x:=Kz (F.o.kept R);obtain⟨⟨_,x0⟩,f0⟩:=x.o.row.at (i:=0) (by decide);obtain⟨⟨_,x1⟩,f1⟩:=x.o.row.at (i:=1) (by decide);have xz:=x.o.lt;go_wp2_with fail
  have I:=OY w2 w.heap.size 0 [.bool true,.string (yC n)] (x.o.row.there (o:=0) (m:=2) (OU _));refine bS [.bool true,.string (yC n)] _ (.bool true) results79 rfl I underlying112 rfl Tryz.lU rfl rfl ?_;refine⟨⟨true,yC n,true,rfl, ?_⟩,bG (g:=w.heap.size) (OU _) [.bool true,.string (yC n)] 0 (c.trans R)⟩;rcases y with⟨t,b,e⟩|y
  ·exact Qi e (a0.o t b)
  ·exact⟨by unfold bE;rw[y];rfl,fun h=>by cases h⟩
theorem ow(b:BM G Kq wz w bb a cap rd rn rc mb mx ts d dc f ws)(n:Qw)(c:ts.length<=1048576)(g:n.size<=1000)(h:(∃t∈ts,t.r.name=n)\/Kk Kq n=none):
  Calls prog 79 #[.pointer (some ⟨bb,0,none⟩),.string n] w fun e w'=>G_ Kq (Qj ts) n e/\K_ w w':=by
 refine (nD b n c g h).mono ?_;rintro e w' ⟨⟨f,t,ok,i,j,_⟩,k⟩;exact⟨⟨f,t,ok,i,j⟩,k⟩
end
