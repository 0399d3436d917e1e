import Derived.Test.YtgnkgfjmbmcfcaaGreatDoorKHMem
set_option maxRecDepth 100000
set_option maxHeartbeats 25600000
namespace Go.Proofs.YtgnkgfjmbmcfcaaGreatDoor
open Go.RowKit Go.Proofs.Tryz
theorem mQ(w:Qy){a tb:Nat}{x y:Qw}(b:w.cell? ⟨a,0,none⟩=some (.string x))(hy:w.cell? ⟨tb,0,none⟩=some (.string y)):
  Calls prog 66 #[.pointer (some ⟨a,0,none⟩),.pointer (some ⟨tb,0,none⟩)] w fun e w'=>e= .returned (.bool (Op.bytesLess x.toList y.toList))/\K_ w w':=by
 go_enter func66,ntmps66
 go_wp2
 go_region
 all_goals
  go_wp2
  go_ret
  exact⟨rfl,(bB w)⟩
theorem zq(w:Qy){b tb:Nat}{x y:Qw}{c d:Int}(g:w.cell? ⟨b,0,none⟩=some (.string x))(hy:w.cell? ⟨tb,0,none⟩=some (.string y))(l:w.cell? ⟨b,7,none⟩=some (.int .i64 c))(m:w.cell? ⟨tb,7,none⟩=some (.int .i64 d)):
  Calls prog 65 #[.pointer (some ⟨b,0,none⟩),.pointer (some ⟨tb,0,none⟩)] w fun e w'=>e= .returned (.bool (gI c d x y))/\K_ w w':=by
 have⟨h,i⟩:=aD g hy;by_cases a:c=d
 ·have j:(c == d)=true:=by simpa using a
  have f:Hid (gI c d x y=Op.bytesLess x.toList y.toList):=by show _=_;unfold gI;rw[Qg a]
  clear a;go_enter func65,ntmps65
  go_wp2
  go_region
  all_goals
   go_wp2_with fail
   refine (mQ w.drew h.o i.o).mono ?_;rintro e n ⟨rfl,k⟩;go_wp2
   go_ret
   exact⟨by rw[f.o];rfl,K_.trans (bB w) k⟩
 ·have j:(c == d)=false:=by simpa using a
  have f:Hid (gI c d x y=decide (d<c)):=by show _=_;unfold gI;rw[Qh a]
  clear a;go_enter func65,ntmps65
  go_wp2
  go_region
  all_goals
   go_wp2
   go_region
   all_goals
    go_wp2
    go_ret
    exact⟨by rw[f.o];rfl,(bB w).drew⟩
theorem Ey(w:Qy)(x y:Int):
  Calls prog 68 #[.int .i64 x,.int .i64 y] w fun e w'=>e= .returned (.bool (decide (x<y)))/\K_ w w':=by
 go_enter func68,ntmps68
 go_wp2
 go_ret
 exact⟨rfl,K_.refl w⟩
theorem Tryz.Il :(prog.info? 147).map (fun i=>(i.zero,i.size,i.bytes))=some (some (.agg #[.int .i64 0,.int .i64 0,.string ⟨#[]⟩,.pointer none,.int .i64 0,.int .i64 0,.int .i64 0]),7,64):=by kernel_rfl
theorem Tryz.Ip :(prog.info? 147).map (·.size)=some 7:=by kernel_rfl
section
variable {loc : Qw -> Nat}
def dP(loc:Qw->Nat)(x:gM):List QA:=[.int .i64 (x).at',.int .i64 (x).worker,.string (x).name,.pointer (some ⟨loc (x).name,0,none⟩),.int .i64 (x).fin,.int .i64 (x).place,.int .i64 (x).cause]
def qE(loc:Qw->Nat)(x:gM):QA:= .agg #[.int .i64 (x).at',.int .i64 (x).worker,.string (x).name,.pointer (some ⟨loc (x).name,0,none⟩),.int .i64 (x).fin,.int .i64 (x).place,.int .i64 (x).cause]
theorem Hy(x:gM):(#[.int .i64 (x).at',.int .i64 (x).worker,.string (x).name,.pointer (some ⟨loc (x).name,0,none⟩),.int .i64 (x).fin,.int .i64 (x).place,.int .i64 (x).cause]:Array QA).all (·.oneCell')=true:=all_oneCell_toArray (cs:=dP loc x) (by simp[dP,Value.oneCell'])
def aO(u:Qy)(g k:Nat)(loc:Qw->Nat)(x:gM):Prop:=u.cell? ⟨g,k,none⟩=some (.int .i64 x.at')/\u.cell? ⟨g,k+1,none⟩=some (.int .i64 x.worker)/\u.cell? ⟨g,k+2,none⟩=some (.string x.name)/\u.cell? ⟨g,k+3,none⟩=some (.pointer (some ⟨loc x.name,0,none⟩))/\u.cell? ⟨g,k+4,none⟩=some (.int .i64 x.fin)/\u.cell? ⟨g,k+5,none⟩=some (.int .i64 x.place)/\u.cell? ⟨g,k+6,none⟩=some (.int .i64 x.cause)
theorem aO.cells{u b:Qy}{g k:Nat}{x:gM}(h:aO u g k loc x)(a:∀j,b.cell? ⟨g,j,none⟩=u.cell? ⟨g,j,none⟩):aO b g k loc x:=by
 obtain⟨c,d,e,f,i,l,m⟩:=h;exact⟨(a _).trans c,(a _).trans d,(a _).trans e,(a _).trans f,(a _).trans i,(a _).trans l,(a _).trans m⟩
theorem aO.new(w:Qy)(x:gM):aO (w.alloc (.cells #[.int .i64 (x).at',.int .i64 (x).worker,.string (x).name,.pointer (some ⟨loc (x).name,0,none⟩),.int .i64 (x).fin,.int .i64 (x).place,.int .i64 (x).cause] 147)) w.heap.size 0 loc x:=by
 have h:=X_ w #[.int .i64 (x).at',.int .i64 (x).worker,.string (x).name,.pointer (some ⟨loc (x).name,0,none⟩),.int .i64 (x).fin,.int .i64 (x).place,.int .i64 (x).cause] 147;exact⟨h 0 _ rfl,h 1 _ rfl,h 2 _ rfl,h 3 _ rfl,h 4 _ rfl,h 5 _ rfl,h 6 _ rfl⟩
variable {b o B n cap : Nat} {fn : QA} {f : Nat -> gM} {a : Qx}
theorem aK.rf{w:Qy}{g:Nat}(h:aK w b o B 147 7 (dP loc) fn f n (some ⟨g,0,none⟩) cap){i:Nat}(hi:i<n):aO w g (i*7) loc (f i):=
 ⟨h.at hi (j:=0) (by omega),h.at hi (j:=1) (by omega),h.at hi (j:=2) (by omega),h.at hi (j:=3) (by omega),h.at hi (j:=4) (by omega),h.at hi (j:=5) (by omega),h.at hi (j:=6) (by omega)⟩
theorem aK.there{w:Qy}{g:Nat}(h:aK w b o B 147 7 (dP loc) fn f n (some ⟨g,0,none⟩) cap){i:Nat}(hi:i<n):w.there g (i*7) 7/\aL w g 147 (cap*7):=by
 rcases h.row.2 with⟨e,_⟩|⟨p,q,d,e,_,j,r,_,k,_⟩
 ·cases e
 ·injection e with a s l;injection a with a;injection a with a;subst a l;have c:aL w g 147 (cap*7):=⟨d,j,k⟩;exact⟨c.row.there (o:=i*7) (m:=7) (by omega),c⟩
def OkE(loc:Qw->Nat)(x:gM)(u:Qy):Prop:=loc x.name<u.heap.size/\u.cell? ⟨loc x.name,0,none⟩=some (.string x.name)
theorem oG :mF 67 (qE loc) bf (OkE loc):=by
 intro x y w e f;obtain⟨d,a⟩:=ag ((w.alloc (.cells #[.int .i64 (x).at',.int .i64 (x).worker,.string (x).name,.pointer (some ⟨loc (x).name,0,none⟩),.int .i64 (x).fin,.int .i64 (x).place,.int .i64 (x).cause] 147)).alloc (.cells #[.int .i64 (y).at',.int .i64 (y).worker,.string (y).name,.pointer (some ⟨loc (y).name,0,none⟩),.int .i64 (y).fin,.int .i64 (y).place,.int .i64 (y).cause] 147));have b:K_ w d:=by rw[a];exact (ak w _).alloc _
 have i:aO d w.heap.size 0 loc x:=by rw[a];exact (aO.new w x).cells (fun s=>(ak _ _).cell (by simp))
 have j:aO d (w.heap.size+1) 0 loc y:=by have:=aO.new (loc:=loc) (w.alloc (.cells #[.int .i64 (x).at',.int .i64 (x).worker,.string (x).name,.pointer (some ⟨loc (x).name,0,none⟩),.int .i64 (x).fin,.int .i64 (x).place,.int .i64 (x).cause] 147)) y;rw[PL] at this;rw[a];exact this
 have k:=Kz ((b.cell (o:=0) e.1).trans e.2);have l:=Kz ((b.cell (o:=0) f.1).trans f.2);have h:=Kz b;obtain⟨_,_,_,m,n,_,_⟩:=i;obtain⟨_,_,_,p,q,_,_⟩:=j;simp only[PD] at m p n q;clear e f b;by_cases c:x.fin=y.fin
 ·have r:(x.fin == y.fin)=true:=by simpa using c
  have g:Hid (bf x y=Op.bytesLess x.name.toList y.name.toList):=by show _=_;unfold bf;rw[Qg c]
  clear c;unfold qE;go_enter func67,ntmps67
  go_upto_region 1 with fail
  rw[<-a];clear a;go_wp2_with fail
  refine (mQ d k.o l.o).mono ?_;rintro t v ⟨rfl,b⟩;go_wp2
  go_ret
  exact⟨by rw[g.o];rfl,h.o.trans b⟩
 ·have r:(x.fin == y.fin)=false:=by simpa using c
  have g:Hid (bf x y=decide (x.fin<y.fin)):=by show _=_;unfold bf;rw[Qh c]
  clear c;unfold qE;go_enter func67,ntmps67
  go_upto_region 1 with fail
  rw[<-a];clear a;go_wp2
  go_ret
  exact⟨by rw[g.o];rfl,h.o⟩
theorem xw(w:Qy)(h:aK w b o B 147 7 (dP loc) fn f n a cap):
  Calls prog 74 #[.pointer (some ⟨b,o,none⟩)] w fun e w'=>e= .returned (.bool (decide (n=0)))/\w'=w:=by
 have d:=h.c0;have g:((n:Int) == 0)=decide (n=0):=by
  by_cases e:n=0
  ·subst e;rfl
  ·rw[decide_eq_false e];simpa using e
 go_enter func74,ntmps74
 go_wp2
 go_ret
 exact⟨rfl,rfl⟩
theorem rE(w:Qy)(h:aK w b o B 147 7 (dP loc) fn f n a cap)(c:0<n):
  Calls prog 75 #[.pointer (some ⟨b,o,none⟩)] w fun e w'=>e= .returned (qE loc (f 0))/\K_ w w':=by
 obtain⟨r,rfl,s,t,v⟩:=h.pos c;have x:=h.c0;have y:=h.lt;obtain⟨d,g,i,j,k,l,m⟩:=h.rf c;simp only[Nat.zero_mul,PD] at d g i j k l m;have z:(0:Int)<(n:Int):=by omega
 have p:=Kz (X_ w #[.int .i64 (f 0).at',.int .i64 (f 0).worker,.string (f 0).name,.pointer (some ⟨loc (f 0).name,0,none⟩),.int .i64 (f 0).fin,.int .i64 (f 0).place,.int .i64 (f 0).cause] 147);have q:=Kz ((K_.refl w).alloc (.cells #[.int .i64 (f 0).at',.int .i64 (f 0).worker,.string (f 0).name,.pointer (some ⟨loc (f 0).name,0,none⟩),.int .i64 (f 0).fin,.int .i64 (f 0).place,.int .i64 (f 0).cause] 147));go_enter func75,ntmps75
 go_wp2
 exact Zx [.int .i64 (f 0).at',.int .i64 (f 0).worker,.string (f 0).name,.pointer (some ⟨loc (f 0).name,0,none⟩),.int .i64 (f 0).fin,.int .i64 (f 0).place,.int .i64 (f 0).cause] _ results75 rfl p.o underlying147 rfl Tryz.Ip rfl ⟨rfl,q.o⟩
theorem uu(w:Qy)(h:aK w b o B 147 7 (dP loc) fn f n a cap){i j:Nat}(hi:i<n)(r:j<n)(H:n<=1000000):
  Calls prog 152 #[.pointer (some ⟨b,o,none⟩),.int .i64 (i:Int),.int .i64 (j:Int)] w fun e w'=>e= .returned (.tuple #[])/\aK w' b o B 147 7 (dP loc) fn (swp f i j) n a cap/\But (fun x=>(Value.slice a n cap).ownBlock=some x) w w':=by
 obtain⟨g,rfl,y,I,J⟩:=h.pos (by omega);have C:Hid (∀u,K_ w u->(u.cell? ⟨b,o,none⟩=some (.slice (some ⟨g,0,none⟩) n cap)/\aO u g (i*7) loc (f i)/\aO u g (j*7) loc (f j))):=fun u k=>⟨(k.cell h.lt).trans h.c0,(h.rf hi).cells (fun _=>k.cell y),(h.rf r).cells (fun _=>k.cell y)⟩
 have L:(i:Int)<(n:Int):=by omega
 have M:(j:Int)<(n:Int):=by omega
 obtain⟨s,t⟩:=ag w.drew;have v:K_ w s:=by rw[t];exact (bB w)
 have D:=Kz t;clear t;have m:=h.kept v;obtain⟨p,q⟩:=ag (s.setCells g (i*7) (dP loc (f j)));have z:aK p b o B 147 7 (dP loc) fn (fun k=>if k=i then f j else f k) n (some ⟨g,0,none⟩) cap:=by rw[q];exact m.set hi (f j)
 have E:=Kz (m.there hi).1;have F:=Kz (z.there r).1;have A:Hid (aK (p.setCells g (j*7) (dP loc (f i))) b o B 147 7 (dP loc) fn (swp f i j) n (some ⟨g,0,none⟩) cap/\But (fun x=>(Value.slice (some ⟨g,0,none⟩) n cap).ownBlock=some x) w (p.setCells g (j*7) (dP loc (f i)))):=by
  rw[q];exact⟨m.swap hi r,But.setCells (S:=fun x=>(Value.slice (some ⟨g,0,none⟩) n cap).ownBlock=some x) rfl _ _ (But.setCells (S:=fun x=>(Value.slice (some ⟨g,0,none⟩) n cap).ownBlock=some x) rfl _ _ (.aj v))⟩
 have G:Hid (p=s.setCells g (i*7) #[.int .i64 (f j).at',.int .i64 (f j).worker,.string (f j).name,.pointer (some ⟨loc (f j).name,0,none⟩),.int .i64 (f j).fin,.int .i64 (f j).place,.int .i64 (f j).cause].toList):=q;clear h m z v q;go_enter func152,ntmps152
 go_wp2
 refine UpZ.region (by kernel_rfl) (fun u=>u.cell? ⟨b,o,none⟩=some (.slice (some ⟨g,0,none⟩) n cap)/\aO u g (i*7) loc (f i)/\aO u g (j*7) loc (f j)) [25,27] (C.o _ (bB w)) (fun d=>?_);rw[<-D.o] at d⊢;refine UpZ.tk 0 d ?_ (hy:=fun u c=>by dsimp only[aO] at c;go_simp;try with_reducible rfl);refine UpZ.tk 1 d ?_ (hy:=fun u c=>by dsimp only[aO] at c;go_simp;try with_reducible rfl);refine UpZ.tk 2 d ?_ (hy:=fun u c=>by dsimp only[aO] at c;go_simp;try with_reducible rfl);refine UpZ.tk 3 d ?_ (hy:=fun u c=>by dsimp only[aO] at c;go_simp;try with_reducible rfl);refine UpZ.tk 4 d ?_ (hy:=fun u c=>by dsimp only[aO] at c;go_simp;try with_reducible rfl);refine UpZ.tk 5 d ?_ (hy:=fun u c=>by dsimp only[aO] at c;go_simp;try with_reducible rfl);refine UpZ.tk 6 d ?_ (hy:=fun u c=>by dsimp only[aO] at c;go_simp;try with_reducible rfl);refine UpZ.tk 7 d ?_ (hy:=fun u c=>by dsimp only[aO] at c;go_simp;try with_reducible rfl);refine UpZ.tk 8 d ?_ (hy:=fun u c=>by dsimp only[aO] at c;go_simp;try with_reducible rfl);refine UpZ.pu 9 ?_;refine UpZ.tk 10 d ?_ (hy:=fun u c=>by dsimp only[aO] at c;go_simp;try with_reducible rfl);refine UpZ.tk 11 d ?_ (hy:=fun u c=>by dsimp only[aO] at c;go_simp;try with_reducible rfl);refine UpZ.tk 12 d ?_ (hy:=fun u c=>by dsimp only[aO] at c;go_simp;try with_reducible rfl);refine UpZ.tk 13 d ?_ (hy:=fun u c=>by dsimp only[aO] at c;go_simp;try with_reducible rfl);refine UpZ.tk 14 d ?_ (hy:=fun u c=>by dsimp only[aO] at c;go_simp;try with_reducible rfl);refine UpZ.tk 15 d ?_ (hy:=fun u c=>by dsimp only[aO] at c;go_simp;try with_reducible rfl);refine UpZ.tk 16 d ?_ (hy:=fun u c=>by dsimp only[aO] at c;go_simp;try with_reducible rfl);refine UpZ.tk 17 d ?_ (hy:=fun u c=>by dsimp only[aO] at c;go_simp;try with_reducible rfl);refine UpZ.tk 18 d ?_ (hy:=fun u c=>by dsimp only[aO] at c;go_simp;try with_reducible rfl);refine UpZ.tk 19 d ?_ (hy:=fun u c=>by dsimp only[aO] at c;go_simp;try with_reducible rfl);refine UpZ.tk 20 d ?_ (hy:=fun u c=>by dsimp only[aO] at c;go_simp;try with_reducible rfl);refine UpZ.tk 21 d ?_ (hy:=fun u c=>by dsimp only[aO] at c;go_simp;try with_reducible rfl);refine UpZ.tk 22 d ?_ (hy:=fun u c=>by dsimp only[aO] at c;go_simp;try with_reducible rfl);refine UpZ.tk 23 d ?_ (hy:=fun u c=>by dsimp only[aO] at c;go_simp;try with_reducible rfl);refine UpZ.tk 24 d ?_ (hy:=fun u c=>by dsimp only[aO] at c;go_simp;try with_reducible rfl);refine UpZ.nx 25 (fun K l=>?_);rw[if_pos (by rfl)];refine wp_store_mid 147 _ _ rfl g (i*7) #[.int .i64 (f j).at',.int .i64 (f j).worker,.string (f j).name,.pointer (some ⟨loc (f j).name,0,none⟩),.int .i64 (f j).fin,.int .i64 (f j).place,.int .i64 (f j).cause] (by rfl) (by rfl) E.o (by kernel_rfl) (Hy _) ?_;rw[<-G.o];refine l.out _ _ (fun h=>absurd (by decide) h) ?_;clear l K;try simp only[Act.put]
 refine UpZ.pu 26 ?_;refine UpZ.nx 27 (fun K l=>?_);rw[Qg (by rfl)];refine wp_store_mid 147 _ _ rfl g (j*7) #[.int .i64 (f i).at',.int .i64 (f i).worker,.string (f i).name,.pointer (some ⟨loc (f i).name,0,none⟩),.int .i64 (f i).fin,.int .i64 (f i).place,.int .i64 (f i).cause] (by rfl) (by rfl) F.o (by kernel_rfl) (Hy _) ?_;refine l.out _ _ (fun h=>Qi (by decide) h) ?_;clear l K;try simp only[Act.put]
 refine UpZ.dn ?_;go_wp2
 go_end0
 exact⟨rfl,A.o.1,A.o.2⟩
def dA(loc:Qw->Nat)(b o g n cap:Nat)(f:Nat->gM)(q p:Nat)(u:Qy):Prop:=u.cell? ⟨b,o+1,none⟩=some (.func (.func 67) #[] #[])/\u.cell? ⟨b,o,none⟩=some (.slice (some ⟨g,0,none⟩) n cap)/\aO u g (q*7) loc (f q)/\aO u g (p*7) loc (f p)
theorem Ja(w:Qy)(m:aK w b o B 147 7 (dP loc) (.func (.func 67) #[] #[]) f n a cap)(v:∀i,i<n->∀u,K_ w u->OkE loc (f i) u){k:Nat}(M:k<=n)(N:n<=1000000):
  Calls prog 153 #[.pointer (some ⟨b,o,none⟩),.int .i64 (k:Int)] w fun e w'=>e= .returned (.int .i64 (dG bf f n k:Nat))/\K_ w w':=by
 have⟨l,x⟩:=aD m v;clear m v;go_enter func153,ntmps153
 go_wp2
 go_loopw [5,6] (fun E y wr=>∃p q:Nat,E= .int .i64 (p:Int)/\y= .int .i64 (q:Int)/\Hid (nK bf f n k q p)/\Hid (K_ w wr)) (fun _ y _=>2*k+3-(intOf y).toNat)
 case atStart=>exact⟨k,2*k+1,rfl,by go_num,.inl ⟨rfl,rfl⟩,K_.refl w⟩
 case round=>
  obtain⟨p,q,rfl,rfl,r,j⟩:=hrel;have O:=(l.o.kept j.o).c0;by_cases F:q<=2*k+2/\q<n
  ·have z:(q:Int)<=2*(k:Int)+2:=by omega
   have G:(q:Int)<(n:Int):=by omega
   obtain⟨H,rfl,P,Q,R⟩:=l.o.pos (by omega);have I:p<n:=by
    rcases r.o with⟨h,d⟩|⟨h,d⟩|⟨h,d⟩
    ·omega
    ·rw[d];unfold gJ;split <;> omega
    ·omega
   have S:(p:Int)<(n:Int):=by omega
   have J:Hid (∀u,K_ w u->dA loc b o H n cap f q p u):=fun u k=>⟨((l.o.kept k)).c1,((l.o.kept k)).c0,(l.o.kept k).rf F.2,(l.o.kept k).rf I⟩
   go_wp2
   refine Qk.region (by kernel_rfl) _ 18 (J.o _ (j.o.drew)) (fun g=>?_);refine ae 0 g ?_ (hy:=fun u c=>by dsimp only[dA,aO] at c;go_simp;try with_reducible rfl);refine ae 1 g ?_ (hy:=fun u c=>by dsimp only[dA,aO] at c;go_simp;try with_reducible rfl);refine ae 2 g ?_ (hy:=fun u c=>by dsimp only[dA,aO] at c;go_simp;try with_reducible rfl);refine ae 3 g ?_ (hy:=fun u c=>by dsimp only[dA,aO] at c;go_simp;try with_reducible rfl);refine ae 4 g ?_ (hy:=fun u c=>by dsimp only[dA,aO] at c;go_simp;try with_reducible rfl);refine ae 5 g ?_ (hy:=fun u c=>by dsimp only[dA,aO] at c;go_simp;try with_reducible rfl);refine ae 6 g ?_ (hy:=fun u c=>by dsimp only[dA,aO] at c;go_simp;try with_reducible rfl);refine ae 7 g ?_ (hy:=fun u c=>by dsimp only[dA,aO] at c;go_simp;try with_reducible rfl);refine ae 8 g ?_ (hy:=fun u c=>by dsimp only[dA,aO] at c;go_simp;try with_reducible rfl);refine ae 9 g ?_ (hy:=fun u c=>by dsimp only[dA,aO] at c;go_simp;try with_reducible rfl);refine ae 10 g ?_ (hy:=fun u c=>by dsimp only[dA,aO] at c;go_simp;try with_reducible rfl);refine ae 11 g ?_ (hy:=fun u c=>by dsimp only[dA,aO] at c;go_simp;try with_reducible rfl);refine ae 12 g ?_ (hy:=fun u c=>by dsimp only[dA,aO] at c;go_simp;try with_reducible rfl);refine ae 13 g ?_ (hy:=fun u c=>by dsimp only[dA,aO] at c;go_simp;try with_reducible rfl);refine ae 14 g ?_ (hy:=fun u c=>by dsimp only[dA,aO] at c;go_simp;try with_reducible rfl);refine ae 15 g ?_ (hy:=fun u c=>by dsimp only[dA,aO] at c;go_simp;try with_reducible rfl);refine ae 16 g ?_ (hy:=fun u c=>by dsimp only[dA,aO] at c;go_simp;try with_reducible rfl);refine ae 17 g ?_ (hy:=fun u c=>by dsimp only[dA,aO] at c;go_simp;try with_reducible rfl);refine ax 18 (fun K A=>?_);go_simp
   refine (oG (loc:=loc) (f q) (f p) _ (x.o q (by omega) _ j.o.drew) (x.o p (by omega) _ j.o.drew)).mono ?_;rintro e T ⟨rfl,L⟩;dsimp only;have C:=Kz (j.o.drew.trans L);refine A.out _ _ (fun m=>absurd rfl m) ?_;clear A K;try simp only[Act.put,upA,upB,upC]
   refine az ?_;cases s:bf (f q) (f p)
   ·have t:Hid (nK bf f n k (q+1) p):=by
     rcases r.o with⟨h,d⟩|⟨h,d⟩|⟨h,d⟩
     ·exact .inr (.inl ⟨by omega,by unfold gJ;rw[Qh (by rw[<-h,<-d,s];simp)];exact d⟩)
     ·exact .inr (.inr ⟨by omega,by unfold dG;rw[Qh (by rw[<-h,<-d,s];simp)];exact d⟩)
     ·omega
    go_wp2
    go_roundw
    case rel=>exact⟨p,q+1,rfl,by go_num,t,C⟩
    case measure=>simp[intOf];omega
   ·have t:Hid (nK bf f n k (q+1) q):=by
     rcases r.o with⟨h,d⟩|⟨h,d⟩|⟨h,d⟩
     ·exact .inr (.inl ⟨by omega,by unfold gJ;rw[Qg ⟨by omega,by rw[<-h,<-d,s]⟩];exact h⟩)
     ·exact .inr (.inr ⟨by omega,by unfold dG;rw[Qg ⟨by omega,by rw[<-h,<-d,s]⟩];exact h⟩)
     ·omega
    go_wp2
    go_roundw
    case rel=>exact⟨q,q+1,rfl,by go_num,t,C⟩
    case measure=>simp[intOf];omega
  ·have D:Hid (p=dG bf f n k):=by
    show _=_;rcases r.o with⟨h,d⟩|⟨h,d⟩|⟨h,d⟩
    ·unfold dG gJ;rw[Qh (by omega),Qh (by omega)];exact d
    ·unfold dG;rw[Qh (by omega)];exact d
    ·exact d
   by_cases U:q<=2*k+2
   ·have z:(q:Int)<=2*(k:Int)+2:=by omega
    have G:¬(q:Int)<(n:Int):=by omega
    go_wp2
    go_ret
    exact⟨by rw[D.out];rfl,j.o⟩
   ·have z:¬(q:Int)<=2*(k:Int)+2:=by omega
    go_wp2
    go_ret
    exact⟨by rw[D.out];rfl,j.o⟩
theorem KJ(w:Qy)(h:aK w b o B 147 7 (dP loc) (.func (.func 67) #[] #[]) f n a cap)(x:gM)(a5:∀y u,(y=x\/g_ f n y)->But (fun I=>I=b\/(Value.slice a n cap).ownBlock=some I) w u->OkE loc y u)(hn:n<1000000)(hB:B<=w.heap.size):
  Calls prog 157 #[.pointer (some ⟨b,o,none⟩),qE loc x] w fun e w'=>e= .returned (.tuple #[])/\∃a' cap',aK w' b o B 147 7 (dP loc) (.func (.func 67) #[] #[]) (ig bf f n x) (n+1) a' cap'/\ToH w w' b o a n cap a' (n+1) cap':=by
 obtain⟨ie,b8,b9,c0,c2⟩:=info_parts Tryz.Il;have⟨HM,a6⟩:=aD h a5;have O:=h.lt;obtain⟨t0,m0,a7,e1⟩:=h.blk;obtain⟨F,P⟩:=ag (w.alloc (.cells #[.int .i64 (x).at',.int .i64 (x).worker,.string (x).name,.pointer (some ⟨loc (x).name,0,none⟩),.int .i64 (x).fin,.int .i64 (x).place,.int .i64 (x).cause] 147));have Y:K_ w F:=by rw[P];exact ak w _
 have Z:aO F w.heap.size 0 loc x:=by rw[P];exact aO.new w x
 have a8:w.heap.size<F.heap.size:=by rw[P];simp
 have a0:Hid (∀u,K_ F u->(u.cell? ⟨b,o,none⟩=some (.slice a n cap)/\aO u w.heap.size 0 loc x)):=fun u J=>⟨((Y.trans J).cell O).trans h.c0,Z.cells (fun _=>J.cell a8)⟩
 obtain⟨H,a1⟩:=ag F.drew;have kd:K_ F H:=by rw[a1];exact (bB F)
 have c3:=Kz a1;have W:K_ F (H.alloc (.cells #[.int .i64 (x).at',.int .i64 (x).worker,.string (x).name,.pointer (some ⟨loc (x).name,0,none⟩),.int .i64 (x).fin,.int .i64 (x).place,.int .i64 (x).cause] 147)):=kd.alloc _;have a9:=Kz W;have Q:=Y.trans W;have c4:=Kz (ai h.row Q);have c5:Hid (∀j u,([.int .i64 (x).at',.int .i64 (x).worker,.string (x).name,.pointer (some ⟨loc (x).name,0,none⟩),.int .i64 (x).fin,.int .i64 (x).place,.int .i64 (x).cause]:List QA)[j]? =some u->(H.alloc (.cells #[.int .i64 (x).at',.int .i64 (x).worker,.string (x).name,.pointer (some ⟨loc (x).name,0,none⟩),.int .i64 (x).fin,.int .i64 (x).place,.int .i64 (x).cause] 147)).cell? ((⟨H.heap.size,0,none⟩:Addr).add j)=some u):=fun j u hj=>by rw[PQ];exact X_ H #[.int .i64 (x).at',.int .i64 (x).worker,.string (x).name,.pointer (some ⟨loc (x).name,0,none⟩),.int .i64 (x).fin,.int .i64 (x).place,.int .i64 (x).cause] 147 j u hj
 have c6:Hid (∀u∈([.int .i64 (x).at',.int .i64 (x).worker,.string (x).name,.pointer (some ⟨loc (x).name,0,none⟩),.int .i64 (x).fin,.int .i64 (x).place,.int .i64 (x).cause]:List QA),u.oneCell'=true):=fun u c=>h.one x u c
 have c7:Hid (n+1<=maxLen):=by show _<=_;unfold maxLen;omega
 have c8:Hid ((n+1)*64<=140737488355328):=by show _<=_;omega
 have c9:Hid (B<=(H.alloc (.cells #[.int .i64 (x).at',.int .i64 (x).worker,.string (x).name,.pointer (some ⟨loc (x).name,0,none⟩),.int .i64 (x).fin,.int .i64 (x).place,.int .i64 (x).cause] 147)).heap.size):=OX hB Q.size;have d0:Hid (∀m C (q:Qy),q.ownsRow B 147 7 (.slice (some ⟨m,0,none⟩) (n+1) C) (n+1) (bK (dP loc) f n++ [.int .i64 (x).at',.int .i64 (x).worker,.string (x).name,.pointer (some ⟨loc (x).name,0,none⟩),.int .i64 (x).fin,.int .i64 (x).place,.int .i64 (x).cause])->(H.alloc (.cells #[.int .i64 (x).at',.int .i64 (x).worker,.string (x).name,.pointer (some ⟨loc (x).name,0,none⟩),.int .i64 (x).fin,.int .i64 (x).place,.int .i64 (x).cause] 147)).grownBy q (Value.slice a n cap).ownBlock->((Value.slice a n cap).ownBlock=some m\/m= (H.alloc (.cells #[.int .i64 (x).at',.int .i64 (x).worker,.string (x).name,.pointer (some ⟨loc (x).name,0,none⟩),.int .i64 (x).fin,.int .i64 (x).place,.int .i64 (x).cause] 147)).heap.size)->
   (aK (q.setCell ⟨b,o,none⟩ (.slice (some ⟨m,0,none⟩) (n+1) C)) b o B 147 7 (dP loc) (.func (.func 67) #[] #[]) (fun i=>if i=n then x else f i) (n+1) (some ⟨m,0,none⟩) C/\ToH w (q.setCell ⟨b,o,none⟩ (.slice (some ⟨m,0,none⟩) (n+1) C)) b o a n cap (some ⟨m,0,none⟩) (n+1) C)/\q.frozen? ⟨b,o,none⟩=false/\(q.cell? ⟨b,o,none⟩=some (.slice a n cap)/\aO q w.heap.size 0 loc x)/\∃a2,q.cell? ⟨b,o,none⟩=some a2):=fun m C q d1 b0 b1=>by
  have kk:But (fun I=>(Value.slice a n cap).ownBlock=some I) w q:=(But.aj Q).trans (.aQ b0 (fun _ h=>h));have d2:But (fun I=>(Value.slice a n cap).ownBlock=some I) F q:=(But.aj W).trans (.aQ b0 (fun _ h=>h));have e2:=Q.size;have d3:(Value.slice (some ⟨m,0,none⟩) (n+1) C).ownBlock≠some b:=fun e=>by
   have R:m=b:=by injection e
   rcases b1 with S|S
   ·exact h.ne (by rw[S,R])
   ·omega
  have d4:(Value.slice a n cap).ownBlock≠some w.heap.size:=fun e=>by have:=(h.row.lt _ e).2;omega
  have ho:q.ownsRow B 147 7 (.slice (some ⟨m,0,none⟩) (n+1) C) (n+1) (bK (dP loc) (fun i=>if i=n then x else f i) (n+1)):=by
   have R:bK (dP loc) (fun i=>if i=n then x else f i) (n+1)=bK (dP loc) f n++dP loc x:=by
    simp only[bK,if_true];rw[gQ (fun i hi=>by rw[Qh (by omega)])]
   rw[R];exact d1
  obtain⟨j1,j2,j3,j4⟩:=h.told kk ho d3;have d5:=kk.row a7 h.ne;obtain⟨⟨a2,x0⟩,f0⟩:=d5.row.at (i:=o) (by omega);refine⟨⟨j1,j2,j3,j4,fun I hz=>?_⟩,f0,⟨(kk.cell O h.ne).trans h.c0,Z.cells (fun _=>d2.cell a8 d4)⟩,a2,x0⟩;have R:m=I:=by injection hz
  subst R;rcases b1 with S|S
  ·exact .inl S
  ·exact .inr (by omega)
 have d6:=Kz P;clear h a5 a7 Y Z kd W Q a1 P;unfold qE;go_enter func157,ntmps157
 go_wp2
 rw[<-d6.o];refine jI 10 a0.o (bB F) (fun d=>?_);rw[<-c3.o] at d⊢;refine ae 0 d ?_ (hy:=fun u c=>by obtain⟨L,⟨M,r,s,t,v,z,A⟩⟩:=c;simp only[PD] at r s t v z A;go_simp;try with_reducible rfl);refine ae 1 d ?_ (hy:=fun u c=>by obtain⟨L,⟨M,r,s,t,v,z,A⟩⟩:=c;simp only[PD] at r s t v z A;go_simp;try with_reducible rfl);refine ae 2 d ?_ (hy:=fun u c=>by obtain⟨L,⟨M,r,s,t,v,z,A⟩⟩:=c;simp only[PD] at r s t v z A;go_simp;try with_reducible rfl);refine ae 3 d ?_ (hy:=fun u c=>by obtain⟨L,⟨M,r,s,t,v,z,A⟩⟩:=c;simp only[PD] at r s t v z A;go_simp;try with_reducible rfl);refine ae 4 d ?_ (hy:=fun u c=>by obtain⟨L,⟨M,r,s,t,v,z,A⟩⟩:=c;simp only[PD] at r s t v z A;go_simp;try with_reducible rfl);refine ae 5 d ?_ (hy:=fun u c=>by obtain⟨L,⟨M,r,s,t,v,z,A⟩⟩:=c;simp only[PD] at r s t v z A;go_simp;try with_reducible rfl);refine ax 6 (fun K D=>?_);go_simp
 refine D.out _ _ (fun _=>a0.o _ a9.o) ?_;clear D K d;try simp only[Act.put,upA,upB,upC]
 have d:=a0.o _ a9.o;refine ax 7 (fun K D=>?_);refine wp_append_lies _ (.tmp 10) (.tmp 12) 131 rfl B 147 ie (.agg #[.int .i64 0,.int .i64 0,.string ⟨#[]⟩,.pointer none,.int .i64 0,.int .i64 0,.int .i64 0]) 7 64 underlying131 b8 b9 c0 c2 rfl (by decide) (.slice a n cap) n _ rfl c4.o ⟨H.heap.size,0,none⟩ 1 1 [.int .i64 (x).at',.int .i64 (x).worker,.string (x).name,.pointer (some ⟨loc (x).name,0,none⟩),.int .i64 (x).fin,.int .i64 (x).place,.int .i64 (x).cause] rfl rfl c5.o c6.o (by decide) c7.o c8.o c9.o _ rfl ?_;intro m C q b2 b3 b4 _;obtain⟨hJ,f0,a3,v0,x0⟩:=d0.o m C q b2 b3 b4;have HJ:=Kz hJ;clear b2 b3 b4 hJ;refine D.out _ _ (fun _=>a3) ?_;clear D K d;try simp only[Act.put,upA,upB,upC]
 have d:=a3;clear a3;refine ae 8 d ?_ (hy:=fun u c=>by obtain⟨L,⟨M,r,s,t,v,z,A⟩⟩:=c;simp only[PD] at r s t v z A;go_simp;try with_reducible rfl);refine ae 9 d ?_ (hy:=fun u c=>by obtain⟨L,⟨M,r,s,t,v,z,A⟩⟩:=c;simp only[PD] at r s t v z A;go_simp;try with_reducible rfl);refine ax 10 (fun K D=>?_);go_simp
 refine D.out _ _ (fun h=>Qi rfl h) ?_;clear D K;try simp only[Act.put,upA,upB,upC]
 refine az ?_;go_wp2
 generalize d7:q.setCell ⟨b,o,none⟩ (.slice (some ⟨m,0,none⟩) (n+1) C)=w2 at HJ⊢;clear d7 f0 x0 v0;go_loopw [4] (fun y wr=>∃(k G:Nat) (l:Nat->gM),y= .int .i64 (k:Int)/\k<=n/\k<=G/\Hid (aK wr b o B 147 7 (dP loc) (.func (.func 67) #[] #[]) l (n+1) (some ⟨m,0,none⟩) C)/\Hid (upF bf G l k=ig bf f n x)/\Hid (∀i,i<n+1->l i=x\/g_ f n (l i))/\Hid (ToH w wr b o a n cap (some ⟨m,0,none⟩) (n+1) C)) (fun y _=>(intOf y).toNat)
 case atStart=>
  refine⟨n,n,fun i=>if i=n then x else f i,by go_num,OU _,OU _,HJ.o.1,rfl,fun i hi=>?_,HJ.o.2⟩;by_cases e:i=n
  ·exact .inl (Qg e)
  ·exact .inr ⟨i,by omega,by simp only[Qh e]⟩
 case round=>
  obtain⟨k,G,l,rfl,hk,hm,E,HU,T,X⟩:=hrel;have e3:=E.o.c0;by_cases a4:k=0
  ·subst a4;have U:Hid (l=ig bf f n x):=by
    show _=_;rw[<-HU.o];cases G <;> simp[upF]
   go_wp2
   go_end0
   exact⟨rfl,_,_,by rw[<-U.o];exact E.o,X.o⟩
  ·obtain⟨G,rfl⟩:∃m',G=m'+1:=⟨G-1,by omega⟩;obtain⟨p,V⟩:=ag (bR k);have e4:p<k:=by rw[V];unfold bR;omega
   have e5:((k:Int)-1).tdiv 2= (p:Int):=by rw[V];unfold bR;rw[Int.tdiv_eq_ediv_of_nonneg (by omega)];omega
   have e6:((k:Int)-1) / 2= (p:Int):=by rw[V];unfold bR;omega
   have e7:(0:Int)<(k:Int):=by omega
   have e8:(k:Int)<(n:Int)+1:=by omega
   have e9:(p:Int)<(n:Int)+1:=by omega
   have b5:Hid (if bf (l k) (l p)=true then upF bf G (swp l k p) p=ig bf f n x else l=ig bf f n x):=by
    have e:=HU.o;simp only[upF,Qh a4] at e;rw[<-V] at e;show if _ then _ else _
    split
    ·next g=>rw[Qg g] at e;exact e
    ·next g=>rw[Qh g] at e;exact e
   have b6:=Kz X.o.but;have HH:Hid (∀u,K_ wr u->dA loc b o m (n+1) C l k p u):=fun u J=>⟨((E.o.kept J)).c1,((E.o.kept J)).c0,(E.o.kept J).rf (by omega),(E.o.kept J).rf (by omega)⟩
   clear V a4;go_wp2
   refine Qk.region (by kernel_rfl) _ 19 (HH.o _ (bB _)) (fun d=>?_);refine ae 0 d ?_ (hy:=fun u c=>by dsimp only[dA,aO] at c;go_simp;try with_reducible rfl);refine ae 1 d ?_ (hy:=fun u c=>by dsimp only[dA,aO] at c;go_simp;try with_reducible rfl);refine ae 2 d ?_ (hy:=fun u c=>by dsimp only[dA,aO] at c;go_simp;try with_reducible rfl);refine ae 3 d ?_ (hy:=fun u c=>by dsimp only[dA,aO] at c;go_simp;try with_reducible rfl);refine ae 4 d ?_ (hy:=fun u c=>by dsimp only[dA,aO] at c;go_simp;try with_reducible rfl);refine ae 5 d ?_ (hy:=fun u c=>by dsimp only[dA,aO] at c;go_simp;try with_reducible rfl);refine ae 6 d ?_ (hy:=fun u c=>by dsimp only[dA,aO] at c;go_simp;try with_reducible rfl);refine ae 7 d ?_ (hy:=fun u c=>by dsimp only[dA,aO] at c;go_simp;try with_reducible rfl);refine ae 8 d ?_ (hy:=fun u c=>by dsimp only[dA,aO] at c;go_simp;try with_reducible rfl);refine ae 9 d ?_ (hy:=fun u c=>by dsimp only[dA,aO] at c;go_simp;try with_reducible rfl);refine ae 10 d ?_ (hy:=fun u c=>by dsimp only[dA,aO] at c;go_simp;try with_reducible rfl);refine ae 11 d ?_ (hy:=fun u c=>by dsimp only[dA,aO] at c;go_simp;try with_reducible rfl);refine ae 12 d ?_ (hy:=fun u c=>by dsimp only[dA,aO] at c;go_simp;try with_reducible rfl);refine ae 13 d ?_ (hy:=fun u c=>by dsimp only[dA,aO] at c;go_simp;try with_reducible rfl);refine ae 14 d ?_ (hy:=fun u c=>by dsimp only[dA,aO] at c;go_simp;try with_reducible rfl);refine ae 15 d ?_ (hy:=fun u c=>by dsimp only[dA,aO] at c;go_simp;try with_reducible rfl);refine ae 16 d ?_ (hy:=fun u c=>by dsimp only[dA,aO] at c;go_simp;try with_reducible rfl);refine ae 17 d ?_ (hy:=fun u c=>by dsimp only[dA,aO] at c;go_simp;try with_reducible rfl);refine ax 18 (fun K D=>?_);go_simp
   refine (oG (loc:=loc) (l k) (l p) _ (a6.o _ _ (T.o k (by omega)) (b6.o.trans (.aj (bB _)))) (a6.o _ _ (T.o p (by omega)) (b6.o.trans (.aj (bB _))))).mono ?_;rintro e w8 ⟨rfl,k8⟩;dsimp only;have N:=Kz ((K_.refl wr).drew.trans k8);refine D.out _ _ (fun _=>HH.o _ N.o) ?_;clear D K d;try simp only[Act.put,upA,upB,upC]
   have d:=HH.o _ N.o;refine ax 19 (fun K D=>?_);go_simp
   refine D.out _ _ (fun h=>Qi rfl h) ?_;clear D K;try simp only[Act.put,upA,upB,upC]
   refine az ?_;cases hx:bf (l k) (l p)
   ·have U:=Kz (show l=ig bf f n x by have e:=b5.o;rw[hx] at e;simpa using e);go_wp2
    try simp only[Exit.inBlock,Exit.then]
    refine bodyPost_ret (results_none rfl _ _ _) rfl ?_;exact⟨rfl,_,_,by rw[<-U.o];exact E.o.kept N.o,X.o.next (.aj N.o) O (E.o.ne)⟩
   ·have U:=Kz (show upF bf G (swp l k p) p=ig bf f n x by have e:=b5.o;rw[hx] at e;simpa using e);go_wp2_with fail
    refine (uu _ (E.o.kept N.o) (i:=k) (j:=p) (by omega) (by omega) (by omega)).mono ?_;rintro e w9 ⟨rfl,b7,k9⟩;have d8:=Kz b7;have d9:=Kz ((X.o.next (.aj N.o) O (E.o.ne)).next k9 O (E.o.ne));have e0:Hid (∀i,i<n+1->swp l k p i=x\/g_ f n (swp l k p i)):=fun i hi=>by
     unfold swp
     split
     ·exact T.o p (by omega)
     ·split
      ·exact T.o k (by omega)
      ·exact T.o i hi
    clear b7 k9;go_wp2
    go_roundw
    case rel=>exact⟨p,G,swp l k p,rfl,by omega,by omega,d8,U,e0,d9⟩
    case measure=>simp[intOf];omega
theorem Ji(w:Qy)(h:aK w b o B 147 7 (dP loc) (.func (.func 67) #[] #[]) f (n+1) a cap)(a1:∀y u,g_ f (n+1) y->But (fun z=>z=b\/(Value.slice a (n+1) cap).ownBlock=some z) w u->OkE loc y u)(hn:n<1000000):
  Calls prog 120 #[.pointer (some ⟨b,o,none⟩)] w fun e w'=>e= .returned (qE loc (f 0))/\aK w' b o B 147 7 (dP loc) (.func (.func 67) #[] #[]) (eZ bf f n) n a cap/\ToH w w' b o a (n+1) cap a n cap:=by
 obtain⟨g,rfl,c8,c9,d0⟩:=h.pos (by omega);have⟨HM,b0⟩:=aD h a1;have a4:=h.lt;have a5:=h.ne;have d1:(n:Int)<=(cap:Int):=by omega
 have d2:(n:Int)+1-1= (n:Int):=by omega
 obtain⟨R,J⟩:=ag (w.alloc (.cells #[.int .i64 0,.int .i64 0,.string ⟨#[]⟩,.pointer none,.int .i64 0,.int .i64 0,.int .i64 0] 147));have T:Hid (K_ w R):=by rw[J];exact ak w _
 have b1:Hid (aL R w.heap.size 147 7):=by rw[J];exact aL.made w _ _
 clear h a1;go_enter func120,ntmps120
 go_wp2_with fail
 rw[<-J];clear J;refine (rE R (HM.o.kept T.out) (by omega)).mono ?_;rintro e p ⟨rfl,K⟩;unfold qE;obtain⟨v,H⟩:=ag (p.alloc (.cells #[.int .i64 (f 0).at',.int .i64 (f 0).worker,.string (f 0).name,.pointer (some ⟨loc (f 0).name,0,none⟩),.int .i64 (f 0).fin,.int .i64 (f 0).place,.int .i64 (f 0).cause] 147));have A:K_ p v:=by rw[H];exact ak p _
 have HB:Hid (aO v p.heap.size 0 loc (f 0)):=by rw[H];exact aO.new p (f 0)
 have b2:Hid (p.heap.size<v.heap.size):=by show _<_;rw[H];simp
 have E:=Kz ((T.out.trans K).trans A);have b3:=Kz ((b1.o.kept K).kept A);have d3:=(T.out.trans K).size;have L:=HM.o.kept E.out;have c0:=L.c0;have M:=L.lt;have d4:=E.out.size;have b4:Hid (∀c:Qy,aK c b o B 147 7 (dP loc) (.func (.func 67) #[] #[]) (swp f 0 n) (n+1) (some ⟨g,0,none⟩) cap->But (fun x=>(Value.slice (some ⟨g,0,none⟩) (n+1) cap).ownBlock=some x) v c->
   (aK (c.setCell ⟨b,o,none⟩ (.slice (some ⟨g,0,none⟩) n cap)) b o B 147 7 (dP loc) (.func (.func 67) #[] #[]) (swp f 0 n) n (some ⟨g,0,none⟩) cap/\ToH v (c.setCell ⟨b,o,none⟩ (.slice (some ⟨g,0,none⟩) n cap)) b o (some ⟨g,0,none⟩) (n+1) cap (some ⟨g,0,none⟩) n cap)/\c.frozen? ⟨b,o,none⟩=false):=fun c N A=>by
  obtain⟨j1,j2,j3,j4⟩:=N.told (.aj (K_.refl c)) (uI (fun _=>rfl) N.row) N.ne;obtain⟨t0,m0,b5,d5⟩:=N.blk;refine⟨⟨j1,⟨?_,fun i r=>(j3 i r).trans (A.cell M a5),fun U m V=>j4 U m (A.row V a5),fun x s=>.inl s⟩⟩,(b5.row.at (i:=o) (by omega)).2⟩;exact (A.mono (fun _ _ h=>.inr h)).trans j2
 clear K A;go_upto_region 2 with fail
 rw[<-H];clear H;go_wp2_with fail
 refine (uu v L (i:=0) (j:=n) (by omega) (by omega) (by omega)).mono ?_;rintro e c ⟨rfl,W,k2⟩;obtain⟨hJ,f0⟩:=b4.o c W k2;have X:=Kz hJ;have c1:=W.c0;clear W k2 hJ c0 L;go_wp2
 generalize b6:c.setCell ⟨b,o,none⟩ (.slice (some ⟨g,0,none⟩) n cap)=w2 at X⊢;clear b6 f0 c1;go_loopw [5] (fun y wr=>∃(k m:Nat) (d:Nat->gM),y= .int .i64 (k:Int)/\k<=n/\(k<n\/n=0)/\n<=k+m/\Hid (aK wr b o B 147 7 (dP loc) (.func (.func 67) #[] #[]) d n (some ⟨g,0,none⟩) cap)/\Hid (jq bf m d n k=eZ bf f n)/\Hid (∀i,i<n->g_ f (n+1) (d i))/\Hid (ToH v wr b o (some ⟨g,0,none⟩) (n+1) cap (some ⟨g,0,none⟩) n cap)) (fun y _=>n-(intOf y).toNat)
 case atStart=>
  refine⟨0,n,swp f 0 n,rfl,by omega,by omega,by omega,X.o.1,rfl,fun i r=>?_,X.o.2⟩;unfold swp
  split
  ·exact⟨n,by omega,rfl⟩
  ·split
   ·omega
   ·exact⟨i,by omega,rfl⟩
 case round=>
  obtain⟨k,m,d,rfl,hk,d6,hm,F,HD,O,Y⟩:=hrel;go_wp2_with fail
  refine (Ja wr F.o (fun i r u ku=>b0.o _ u (O.o i r) (((But.aj E.out).trans Y.o.but).trans (.aj ku))) hk (by omega)).mono ?_;rintro e t ⟨rfl,k8⟩;have P:=Kz k8;clear k8;obtain⟨q,C⟩:=ag (dG bf d n k);rw[<-C];by_cases G:q=k
  ·have Z:=Kz (show d=eZ bf f n by
    have e:=HD.o;cases m with
    | zero=>exact e
    | succ m=>simp only[jq] at e;rw[Qg (C.symm.trans G)] at e;exact e)
   have e0:((q:Int) == (k:Int))=true:=by rw[G];simp
   clear G C;have I:=Kz (Y.o.next (.aj P.o) M (F.o.ne));have b7:¬(p.heap.size=b\/(Value.slice (some ⟨g,0,none⟩) (n+1) cap).ownBlock=some p.heap.size):=by
    rintro (e|e)
    ·omega
    ·have Q:g=p.heap.size:=by injection e
     omega
   have b8:¬(w.heap.size=b\/(Value.slice (some ⟨g,0,none⟩) (n+1) cap).ownBlock=some w.heap.size):=by
    rintro (e|e)
    ·omega
    ·have Q:g=w.heap.size:=by injection e
     omega
   obtain⟨b9,a2,a3,c2,c3,a6,a7⟩:=HB.o.cells (fun _=>I.o.but.cell b2.o b7);simp only[PD] at b9 a2 a3 c2 c3 a6 a7;have a8:=Kz (I.o.but.row b3.o b8);have c4:=Kz (OY t w.heap.size 0 (dP loc (f 0)) (a8.o.row.there (o:=0) (m:=7) (OU _)));have c5:Hid (aK (t.setCells w.heap.size 0 (dP loc (f 0))) b o B 147 7 (dP loc) (.func (.func 67) #[] #[]) (eZ bf f n) n (some ⟨g,0,none⟩) cap):=by
    rw[<-Z.o];exact (F.o.kept P.o).but (But.setCells (S:=fun x=>x=w.heap.size) (g:=w.heap.size) rfl (dP loc (f 0)) 0 (.aj (K_.refl t))) (fun e=>by omega) (fun x s e=>by
     have Q:g=x:=by injection s
     omega)
   have a0:Hid (ToH w (t.setCells w.heap.size 0 (dP loc (f 0))) b o (some ⟨g,0,none⟩) (n+1) cap (some ⟨g,0,none⟩) n cap):=by
    have l:But (fun x=>x=w.heap.size) t (t.setCells w.heap.size 0 (dP loc (f 0))):=But.setCells (S:=fun x=>x=w.heap.size) (g:=w.heap.size) rfl (dP loc (f 0)) 0 (.aj (K_.refl t));have D:=(But.aj E.out).trans I.o.but;refine⟨⟨l.os.trans D.os,l.tape.trans D.tape,l.output.trans D.output,OX D.size l.size,fun x s hn=>(l.block x (OV s D.size) (by omega)).trans (D.block x s hn)⟩,fun i r=>?_,fun U m V=>l.row (I.o.row U m (V.kept E.out)) (by omega),fun x s=>.inl s⟩;rw[l.cell (OV a4 D.size) (by omega),I.o.oth i r];exact E.out.cell a4
   obtain⟨⟨⟨_,y0⟩,g0⟩,⟨⟨_,y1⟩,g1⟩,⟨⟨_,y2⟩,g2⟩,⟨⟨_,y3⟩,g3⟩,⟨⟨_,y4⟩,g4⟩,⟨⟨_,y5⟩,g5⟩,⟨_,y6⟩,g6⟩:=a8.o.row.LV;go_wp2
   exact Zx (dP loc (f 0)) _ results120 rfl c4.o underlying147 rfl Tryz.Ip rfl ⟨rfl,c5.o,a0.o⟩
  ·have d7:q<n/\k<q:=by
    rcases l_ (ah:=bf) d n k with e|⟨e,Q⟩|⟨e,Q⟩
    ·exact Qi (C.trans e) G
    ·omega
    ·omega
   obtain⟨m,rfl⟩:∃m',m=m'+1:=⟨m-1,by omega⟩;have Z:=Kz (show jq bf m (swp d k q) n q=eZ bf f n by
    have e:=HD.o;simp only[jq] at e;rw[Qh (fun x=>G (C.trans x)),<-C] at e;exact e)
   have e0:((q:Int) == (k:Int))=false:=by
    have:¬(q:Int)= (k:Int):=by omega
    simpa using this
   clear G C;go_wp2_with fail
   refine (uu t (F.o.kept P.o) (i:=k) (j:=q) (by omega) (by omega) (by omega)).mono ?_;rintro e w9 ⟨rfl,a9,l⟩;have c6:=Kz a9;have a0:=Kz ((Y.o.next (.aj P.o) M (F.o.ne)).next l M (F.o.ne));have c7:Hid (∀i,i<n->g_ f (n+1) (swp d k q i)):=fun i r=>by
    unfold swp
    split
    ·exact O.o q (by omega)
    ·split
     ·exact O.o k (by omega)
     ·exact O.o i r
   clear a9 l;go_wp2
   go_roundw
   case rel=>exact⟨q,m,swp d k q,rfl,by omega,by omega,by omega,c6,Z,c7,a0⟩
   case measure=>simp[intOf];omega
end
