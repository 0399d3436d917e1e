import Derived.Test.YtgnkgfjmbmcfcaaGreatDoorKFSpec2
import Derived.Test.YtgnkgfjmbmcfcaaGreatDoorKOPack
import Derived.Deep.RegionHeld
import Derived.Deep.CutRange
import Derived.Test.YtgnkgfjmbmcfcaaGreatDoorKWSpec4
set_option maxRecDepth 100000
set_option maxHeartbeats 25600000
namespace Go.Proofs.YtgnkgfjmbmcfcaaGreatDoor
open Go.RowKit Go.Proofs.Tryz
theorem toList_inj{a b:Qw}:a.toList=b.toList↔a=b:=by
 refine⟨fun h=>Cn ?_,fun h=>by rw[h]⟩;rw[ByteArray.toList_eq,ByteArray.toList_eq] at h;exact h
theorem ym{a b:Qw}(h:(a.toList == b.toList)=false):a≠b:=fun e=>by rw[e] at h;simp at h
theorem iX{a b:Qw}(h:(a.toList == b.toList)=true):a=b:=toList_inj.1 (by simpa using h)
def Q_.zero :Q_:=Q_.fresh ByteArray.empty
def Q_.cells(r:Q_)(xa:Qx)(xc:Nat):List QA:=[.string r.name,.bool r.over,.bool r.fail,.string r.text,.int .i64 r.at',.int .i64 r.Zq,.slice xa r.texts.length xc]
theorem Q_.one(r:Q_)(x:Qx)(c:Nat):∀u∈r.cells x c,u.oneCell'=true:=by
 intro u a;simp only[Q_.cells,PS,PT,or_false] at a;rcases a with rfl | rfl | rfl | rfl | rfl | rfl | rfl <;> rfl
def gD(w:Qy)(a:Qx)(l:List Q_):Prop:=
 ∀i,i<l.length->∃b o xa xc,a=some ⟨b,o,none⟩/\b<w.heap.size/\w.rangeAt b (o+i*7) ((l.getD i Q_.zero).cells xa xc)/\Strs w xa (l.getD i Q_.zero).texts/\(xa=none->xc=0)
theorem gD.kept{w w':Qy}{a:Qx}{l:List Q_}(h:gD w a l)(k:K_ w w'):gD w' a l:=by
 intro i c;obtain⟨d,o,e,f,g,b,j,m,n⟩:=h i c;exact⟨d,o,e,f,g,OV b k.size,k.range b j,m.kept k,n⟩
def Qq(l:List Q_):Env:=fun n=>l.find? fun r=>decide (r.name=n)
variable {n : Qw}
theorem Eo{l:List Q_}(h:∀j,j<l.length->(l.getD j Q_.zero).name≠n):Qq l n=none:=by
 unfold Qq;rw[List.find?_eq_none];intro r c;obtain⟨j,a,e⟩:=Ph c;have:=h j a;simp only[List.getD,OZ a,e,Ql] at this;simpa using this
theorem EP :∀{l:List Q_} {k:Nat},k<l.length->(l.getD k Q_.zero).name=n->(∀j,j<k->(l.getD j Q_.zero).name≠n)->Qq l n=some (l.getD k Q_.zero)
 | [],_,hk,_,_=>aB hk
 | r :: l,0,_,h,_=>by
  have a:r.name=n:=h;simp[Qq,List.find?,a,List.getD]
 | r :: l,k+1,hk,h,hj=>by
  have b:r.name≠n:=hj 0 (by omega);have e:Qq (r :: l) n=Qq l n:=by simp[Qq,List.find?,b]
  rw[e,EP (k:=k) (by simpa using hk) h (fun j d=>hj (j+1) (by omega))]
  rfl
def Li(l:List Q_)(n:Qw)(r:Int):Prop:=(∃k:Nat,k<l.length/\r= (k:Int)/\Qq l n=some (l.getD k Q_.zero)/\(l.getD k Q_.zero).name=n)\/(r= -1/\Qq l n=none)
def Kk(Kq:List Qz):aZ:=fun n=>(Kq.find? fun d=>decide (d.name=n)).map fun d=>⟨d.cost,d.steps⟩
theorem AP{l:List Qz}(h:∀j,j<l.length->(l.getD j Qz.zero).name≠n):Kk l n=none:=by
 unfold Kk;rw[Option.map_eq_none_iff,List.find?_eq_none];intro r c;obtain⟨j,a,e⟩:=Ph c;have:=h j a;simp only[List.getD,OZ a,e,Ql] at this;simpa using this
theorem BL :∀{l:List Qz} {k:Nat},k<l.length->(l.getD k Qz.zero).name=n->(∀j,j<k->(l.getD j Qz.zero).name≠n)->Kk l n=some ⟨(l.getD k Qz.zero).cost,(l.getD k Qz.zero).steps⟩
 | [],_,hk,_,_=>aB hk
 | r :: l,0,_,h,_=>by
  have a:r.name=n:=h;simp[Kk,List.find?,a,List.getD]
 | r :: l,k+1,hk,h,hj=>by
  have b:r.name≠n:=hj 0 (by omega);have e:Kk (r :: l) n=Kk l n:=by simp[Kk,List.find?,b]
  rw[e,BL (k:=k) (by simpa using hk) h (fun j d=>hj (j+1) (by omega))]
  rfl
def KX(l:List Qz)(n:Qw)(r:Int):Prop:=(∃k:Nat,k<l.length/\r= (k:Int)/\Kk l n=some ⟨(l.getD k Qz.zero).cost,(l.getD k Qz.zero).steps⟩/\(l.getD k Qz.zero).name=n/\∀j,j<k->(l.getD j Qz.zero).name≠n)\/(r= -1/\Kk l n=none)
theorem gm{A:fA}:∀{l:List Qz},Kk l n=some A->∃k,k<l.length/\(l.getD k Qz.zero).name=n/\(∀j,j<k->(l.getD j Qz.zero).name≠n)/\A= ⟨(l.getD k Qz.zero).cost,(l.getD k Qz.zero).steps⟩
 | [],h=>by simp[Kk] at h
 | d :: l,h=>by
  by_cases e:d.name=n
  ·refine⟨0,by simp,e,fun j a=>aB a, ?_⟩;simp[Kk,e] at h;exact h.symm
  ·have b:Kk (d :: l) n=Kk l n:=by simp[Kk,List.find?,e]
   rw[b] at h;obtain⟨k,c,f,g,i⟩:=gm h;refine⟨k+1,by simpa using c,f,fun j a=>?_,i⟩;cases j with
   | zero=>exact e
   | succ j=>exact g j (by omega)
theorem nQ{l:List Qz}{k a:Nat}(h:(l.getD k Qz.zero).name=n)(b:∀j,j<k->(l.getD j Qz.zero).name≠n)(g:(l.getD a Qz.zero).name=n)(c:∀j,j<a->(l.getD j Qz.zero).name≠n):k=a:=by
 rcases Qf k a with e|e|e
 ·exact Qi h (c k e)
 ·exact e
 ·exact Qi g (b a e)
def G_(Kq:List Qz)(l:List Q_)(n:Qw)(e:Ending):Prop:=
 ∃(f:Bool) (t:Qw) (ok:Bool),e= .returned (.tuple #[.agg #[.bool f,.string t],.bool ok])/\bE (Kk Kq) (Qq l) n=if ok=true then some ⟨f,t⟩ else none
def aH(a b:Qw):Prop:=Op.bytesLess a.toList b.toList=true
theorem aI(a:Qw):¬aH a a:=fun h=>by unfold aH at h;rw[fO] at h;cases h
theorem gV{a b c:Qw}(h:aH a b)(g:aH b c):aH a c:=eG _ _ _ h g
theorem di{a b:Qw}(h:aH a b):¬aH b a:=fun g=>aI a (gV h g)
theorem fE{a b:Qw}(h:aH a b):a≠b:=fun e=>by rw[e] at h;exact aI b h
theorem b_(a b:Qw):aH a b\/a=b\/aH b a:=by
 unfold aH;cases h:Op.bytesLess a.toList b.toList with
 | true=>exact .inl rfl
 | false=>
  by_cases e:a=b
  ·exact .inr (.inl e)
  ·exact .inr (.inr (rC _ _ h fun c=>e (toList_inj.1 c)))
def dB(l:List Q_):Prop:=l.Pairwise fun x y=>aH x.name y.name
variable {l : List Q_} {r : Q_}
theorem bN{n:Qw}(h:Qq l n=some r):r∈l/\r.name=n:=by
 unfold Qq at h;exact⟨List.mem_of_find?_eq_some h,by simpa using List.find?_some h⟩
theorem bU(h:dB l)(a:r∈l):Qq l r.name=some r:=by
 induction l with
 | nil=>cases a
 | cons x l ih=>
  rw[dB,Qs] at h;rcases PS.1 a with rfl|a
  ·simp[Qq]
  ·have c:x.name≠r.name:=fE (h.1 r a);have e:Qq (x :: l) r.name=Qq l r.name:=by simp[Qq,List.find?,c]
   rw[e];exact ih h.2 a
theorem Hd :∀{l l':List Q_},dB l->dB l'->(∀r,r∈l↔r∈l')->l=l'
 | [],[],_,_,_=>rfl
 | [],y :: ys,_,_,h=>by have:=(h y).2 (by simp);cases this
 | x :: xs,[],_,_,h=>by have:=(h x).1 (by simp);cases this
 | x :: xs,y :: ys,hl,hl',h=>by
  rw[dB,Qs] at hl hl';have c:x=y:=by
   rcases PS.1 ((h x).1 (by simp)) with e|d
   ·exact e
   ·rcases PS.1 ((h y).2 (by simp)) with e|f
    ·exact e.symm
    ·exact Qi (hl.1 y f) (di (hl'.1 x d))
  subst c;rw[Hd hl.2 hl'.2 fun r=>?_];constructor
  ·intro a;rcases PS.1 ((h r).1 (Pn _ a)) with rfl|b
   ·exact Qi (hl.1 r a) (aI _)
   ·exact b
  ·intro a;rcases PS.1 ((h r).2 (Pn _ a)) with rfl|b
   ·exact Qi (hl'.1 r a) (aI _)
   ·exact b
theorem KZ{a:List Q_}(h:dB l)(d:dB a)(e:Qq l=Qq a):l=a:=by
 refine Hd h d fun r=>⟨fun b=>?_,fun b=>?_⟩
 ·have:=bU h b;rw[e] at this;exact (bN this).1
 ·have:=bU d b;rw[<-e] at this;exact (bN this).1
theorem wN(d:∀x∈l,∀y∈l,x.name=y.name->x=y){n:Qw}:Qq l n=some r↔r∈l/\r.name=n:=by
 refine⟨bN,fun ⟨b,c⟩=>?_⟩;cases h:Qq l n with
 | none=>
  unfold Qq at h;rw[List.find?_eq_none] at h;exact Qi (by simpa using c) (h r b)
 | some x=>
  obtain⟨e,f⟩:=bN h;rw[d x e r b (f.trans c.symm)]
theorem sM(h:dB l):∀x∈l,∀y∈l,x.name=y.name->x=y:=fun x c y d e=>by
 have b:=bU h c;have f:=bU h d;rw[e,f] at b;exact (PW b).symm
def dI(l:List Q_)(r:Q_):List Q_:=(l.filter fun x=>Op.bytesLess x.name.toList r.name.toList)++r :: l.filter fun x=>Op.bytesLess r.name.toList x.name.toList
theorem qa(h:dB l):dB (dI l r):=by
 unfold dI;rw[dB,Py];refine⟨h.filter _, ?_,fun x e y a=>?_⟩
 ·rw[Qs];exact⟨fun y a=>(List.mem_filter.1 a).2,h.filter _⟩
 ·have c:aH x.name r.name:=(List.mem_filter.1 e).2;rcases PS.1 a with rfl|a
  ·exact c
  ·exact gV c (List.mem_filter.1 a).2
theorem sO{x:Q_}:x∈dI l r↔x=r\/(x∈l/\x.name≠r.name):=by
 unfold dI;rw[Pe,PS,List.mem_filter,List.mem_filter];constructor
 ·rintro (⟨a,b⟩|h|⟨a,b⟩)
  ·exact .inr ⟨a,fE b⟩
  ·exact .inl h
  ·exact .inr ⟨a,Ne.symm (fE b)⟩
 ·rintro (h|⟨a,b⟩)
  ·exact .inr (.inl h)
  ·rcases b_ x.name r.name with c|c|c
   ·exact .inl ⟨a,c⟩
   ·exact Qi c b
   ·exact .inr (.inr ⟨a,c⟩)
theorem yx(h:dB l)(n:Qw):Qq (dI l r) n=if n=r.name then some r else Qq l n:=by
 have c:=sM (qa (r:=r) h);by_cases e:n=r.name
 ·rw[Qg e];exact (wN c).2 ⟨(sO).2 (.inl rfl),e.symm⟩
 ·rw[Qh e];cases d:Qq l n with
  | some x=>
   obtain⟨b,a⟩:=bN d;exact (wN c).2 ⟨(sO).2 (.inr ⟨b,fun f=>e (a.symm.trans f)⟩),a⟩
  | none=>
   cases g:Qq (dI l r) n with
   | none=>rfl
   | some x=>
    obtain⟨b,a⟩:=bN g;rcases (sO).1 b with rfl|⟨i,_⟩
    ·exact Qi a.symm e
    ·have:=(wN (sM h)).2 ⟨i,a⟩;rw[d] at this;cases this
theorem ny :∀(l t:List Q_),dB t->(∀x∈l,∀y∈l,x.name=y.name->x=y)->dB (l.foldl dI t)/\∀n,Qq (l.foldl dI t) n=match Qq l n with | some r=>some r | none=>Qq t n
 | [],t,h,_=>⟨h,fun n=>rfl⟩
 | x :: l,t,h,hd=>by
  obtain⟨c,d⟩:=ny l (dI t x) (qa h) (fun a f g i=>hd a (Pn _ f) g (Pn _ i));refine⟨c,fun n=>?_⟩;show Qq (l.foldl dI (dI t x)) n=_;rw[d n];by_cases e:x.name=n
  ·have b:Qq (x :: l) n=some x:=by simp[Qq,e]
   rw[b];cases j:Qq l n with
   | some r=>
    obtain⟨k,m⟩:=bN j;simp only;rw[hd r (Pn _ k) x (by simp) (m.trans e.symm)]
   | none=>
    simp only;rw[yx h,Qg e.symm]
  ·have b:Qq (x :: l) n=Qq l n:=by simp[Qq,List.find?,e]
   rw[b];cases Qq l n with
   | some r=>rfl
   | none=>
    simp only;rw[yx h,Qh (Ne.symm e)]
structure jE (w:Qy) (kb:Nat) (a:Qx) (n cap:Nat) (d:Qx) (m dc:Nat):Prop where
 row:aL w kb 94 2
 web:w.cell? ⟨kb,0,none⟩=some (.slice a n cap)
 runs:w.cell? ⟨kb,1,none⟩=some (.slice d m dc)
theorem jE.kept{w w':Qy}{c n cap m dc:Nat}{a d:Qx}(h:jE w c a n cap d m dc)(k:K_ w w'):jE w' c a n cap d m dc:=
 ⟨h.row.kept k,(k.cell h.row.lt).trans h.web,(k.cell h.row.lt).trans h.runs⟩
theorem gp(w:Qy)(a:Qx)(cap:Nat)(l:List Qz)(c:Qw)(y:l.length<=1048576)(s:bJ w a l):
  Calls prog 55 #[.agg #[.slice a l.length cap],.string c] w fun e w'=>(∃r,e= .returned (.int .i64 r)/\KX l c r)/\K_ w w':=by
 have f:K_ w (w.alloc (.cells #[.slice a l.length cap] 37)):=ak _ _;go_enter func55,ntmps55
 go_wp2
 go_loop [5] (fun i=>∃k:Nat,k<=l.length/\i= .int .i64 k/\Hid (∀j,j<k->(l.getD j Qz.zero).name≠c)) (fun i=>l.length-(intOf i).toNat)
 case atStart=>exact⟨0,OW _,rfl,Kz fun j g=>aB g⟩
 case round=>
  obtain⟨k,z,rfl,d⟩:=hrel;by_cases h:k<l.length
  ·obtain⟨b,o,A,rfl,B,m,C,D,rfl,t⟩:=(s.kept f) k h;obtain⟨v,n⟩:=ag (l.getD k Qz.zero);rw[<-n] at m;have x:=m 0 _ rfl;rw[PR] at x;have p:=Kz n;clear m n t;cases q:(v.name.toList == c.toList)
   ·go_wp2
    go_round
    case rel=>
     refine⟨k+1,by omega,by go_num,Kz fun j g=>?_⟩;by_cases e:j=k
     ·rw[e,<-p.o];exact ym q
     ·exact d.o j (by omega)
    case measure=>simp[intOf];omega
   ·go_wp2
    go_ret
    exact⟨⟨k,rfl,.inl ⟨k,h,rfl,BL h (by rw[<-p.o];exact iX q) d.o,(by rw[<-p.o];exact iX q),d.o⟩⟩,f⟩
  ·go_wp2
   go_ret
   exact⟨⟨-1,rfl,.inr ⟨rfl,AP fun j g=>d.o j (by omega)⟩⟩,f⟩
theorem JR(w:Qy)(t:Nat)(a:Qx)(n cap:Nat)(d:Qx)(dc:Nat)(l:List Q_)(c:Qw)(A:l.length<=1048576)(v:jE w t a n cap d l.length dc)(x:gD w d l):
  Calls prog 97 #[.pointer (some ⟨t,0,none⟩),.string c] w fun e w'=>(∃r,e= .returned (.int .i64 r)/\Li l c r)/\w'=w:=by
 have B:=v.runs;have C:=v.row.lt;go_enter func97,ntmps97
 go_wp2
 go_loop [5] (fun i=>∃k:Nat,k<=l.length/\i= .int .i64 k/\Hid (∀j,j<k->(l.getD j Q_.zero).name≠c)) (fun i=>l.length-(intOf i).toNat)
 case atStart=>exact⟨0,OW _,rfl,Kz fun j f=>aB f⟩
 case round=>
  obtain⟨k,D,rfl,g⟩:=hrel;by_cases h:k<l.length
  ·obtain⟨b,o,E,F,rfl,G,m,_,_⟩:=x k h;obtain⟨y,p⟩:=ag (l.getD k Q_.zero);rw[<-p] at m;have z:=m 0 _ rfl;rw[PR] at z;have q:=Kz p;clear m p;cases s:(y.name.toList == c.toList)
   ·go_wp2
    go_round
    case rel=>
     refine⟨k+1,by omega,by go_num,Kz fun j f=>?_⟩;by_cases e:j=k
     ·rw[e,<-q.o];exact ym s
     ·exact g.o j (by omega)
    case measure=>simp[intOf];omega
   ·go_wp2
    go_ret
    exact⟨⟨k,rfl,.inl ⟨k,h,rfl,EP h (by rw[<-q.o];exact iX s) g.o,by rw[<-q.o];exact iX s⟩⟩,rfl⟩
  ·go_wp2
   go_ret
   exact⟨⟨-1,rfl,.inr ⟨rfl,Eo fun j f=>g.o j (by omega)⟩⟩,rfl⟩
theorem jC(w:Qy)(s:Qx)(t rc:Nat)(d:Qx)(dc:Nat)(l:List Q_)(a:Qw)(z:l.length<=1048576)(v:gD w d l):
  Calls prog 52 #[.agg #[.slice s t rc,.slice d l.length dc],.string a] w fun e w'=>(∃r,e= .returned (.int .i64 r)/\Li l a r)/\K_ w w':=by
 have c:K_ w (w.alloc (.cells #[.slice s t rc,.slice d l.length dc] 53)):=ak _ _;go_enter func52,ntmps52
 go_wp2
 go_loop [5] (fun i=>∃k:Nat,k<=l.length/\i= .int .i64 k/\Hid (∀j,j<k->(l.getD j Q_.zero).name≠a)) (fun i=>l.length-(intOf i).toNat)
 case atStart=>exact⟨0,OW _,rfl,Kz fun j f=>aB f⟩
 case round=>
  obtain⟨k,A,rfl,g⟩:=hrel;by_cases h:k<l.length
  ·obtain⟨b,o,B,C,rfl,D,m,_,_⟩:=(v.kept c) k h;obtain⟨y,n⟩:=ag (l.getD k Q_.zero);rw[<-n] at m;have x:=m 0 _ rfl;rw[PR] at x;have p:=Kz n;clear m n;cases q:(y.name.toList == a.toList)
   ·go_wp2
    go_round
    case rel=>
     refine⟨k+1,by omega,by go_num,Kz fun j f=>?_⟩;by_cases e:j=k
     ·rw[e,<-p.o];exact ym q
     ·exact g.o j (by omega)
    case measure=>simp[intOf];omega
   ·go_wp2
    go_ret
    exact⟨⟨k,rfl,.inl ⟨k,h,rfl,EP h (by rw[<-p.o];exact iX q) g.o,by rw[<-p.o];exact iX q⟩⟩,c⟩
  ·go_wp2
   go_ret
   exact⟨⟨-1,rfl,.inr ⟨rfl,Eo fun j f=>g.o j (by omega)⟩⟩,c⟩
variable {a : Act} {up : Array Bool} {id n : Nat} {oi : Oper} {w : Qy}
section
variable {P : Program} {ops : Array Oper} {Q : Exit -> Act -> Qy -> Prop} {md : Region.Mode} {S : Qy -> Prop} {z : Nat}
def Qk(P:Program)(md:Region.Mode)(ops:Array Oper)(Q:Exit->Act->Qy->Prop)(S:Qy->Prop)(z:Nat):Nat->Array Bool->Act->Qy->Prop
 | 0,up,a,w=>Region.ready md ops up=[]/\Q .normal a w
 | n+1,up,a,w=>(Region.ready md ops up=[]->Q .normal a w)/\∀k∈Region.ready md ops up,wpOp P ops Q k (fun b u=>(k≠z->S u)/\Qk P md ops Q S z n (up.setIfInBounds k true) b u) a w
theorem Qk.any :∀(n:Nat) (up:Array Bool) (a:Act) (w:Qy),Qk P md ops Q S z n up a w->wpAny P md ops Q n up a w
 | 0,_,_,_,h=>h
 | n+1,_,_,_,h=>⟨h.1,fun k c=>wpOp_mono (fun b u g=>Qk.any n _ b u g.2) (h.2 k c)⟩
theorem Qk.region(b:P.follows .mixedOrders=true)(S:Qy->Prop)(z:Nat)(d:S w.drew)
 (h:S w.drew->Qk P .any ops Q S z ops.size (Array.replicate ops.size false) a w.drew):(Code.region id ops true).wp P Q a w:=
 wp_region_any b (Qk.any _ _ _ _ (h d))
def oz(md:Region.Mode)(ops:Array Oper)(i:Nat)(D:List Nat):Bool:=
 D.all fun d=>match ops[d]? with
  | some o=>o.after.toList.any fun e=>Region.binds md e && (e.on == i || D.contains e.on)
  | none=>false
theorem Dn{i:Nat}{D:List Nat}(g:oz md ops i D=true)(hi:up.getD i true=false)(j:∀d∈D,up.getD d true=false){k:Nat}
 (l:k∈Region.ready md ops up):k∉D:=by
 intro m;obtain⟨_,o,n,p⟩:=mem_ready.1 l;have c:=List.all_eq_true.1 g k m;simp only[n,List.any_eq_true,Array.mem_toList_iff,Bool.and_eq_true,Bool.or_eq_true,beq_iff_eq,List.contains_iff_mem] at c;obtain⟨e,q,r,s⟩:=c;have a:=p e q r;have f:up.getD e.on true=false:=by
  rcases s with h|h
  ·rw[h];exact hi
  ·exact j _ h
 rcases Nat.lt_or_ge e.on up.size with b|b
 ·simp[b] at a f;rw[f] at a;cases a
 ·simp[Array.getElem?_eq_none b] at a
theorem Qk.take'{i:Nat}{v:QA}(hi:ops[i]? =some oi)(A:Region.noSelect ops=true)(L:∀c a w,Q (.panic c) (a.put oi.dst v) w->Q (.panic c) a w)
 {D:List Nat} (M:z∈D) (N:oz md ops i D=true):
  ∀(n:Nat) (b:Array Bool) (a:Act) (w:Qy),(∀j f,ops[j]? =some f->j≠i->b.getD j true=false->(∀e∈f.after,Region.binds md e=true->e.on≠i)->oi.apart ops f=true)->
   (∀d∈D,b.getD d true=false)->i∈Region.ready md ops b->YieldsIf P ops S oi v a->S w->
   Qk P md ops Q S z n (b.setIfInBounds i true) (a.put oi.dst v) w->Qk P md ops Q S z (n+1) b a w:=by
 intro n
 induction n with
 | zero=>
  intro b a w _ _ g q k H;refine⟨fun h=>(by rw[h] at g;cases g),fun j l=>?_⟩;by_cases e:j=i
  ·exact e ▸ q.wpOp hi k ⟨fun _=>k,H⟩
  ·have:=ready_mono l e;rw[H.1] at this;cases this
 | succ n ih=>
  intro b a w B C g q k H;refine⟨fun h=>(by rw[h] at g;cases g),fun j l=>?_⟩;by_cases e:j=i
  ·exact e ▸ q.wpOp hi k ⟨fun _=>k,H⟩
  ·have s:=(mem_ready.1 g).1;have E:=Dn N s C l;have O:j≠z:=fun h=>E (h ▸ M)
   obtain⟨F,f,t,R⟩:=mem_ready.1 l;have T:∀e∈f.after,Region.binds md e=true->e.on≠i:=fun e U V W=>by
    have m:=R e U V;rw[W] at m;rcases Nat.lt_or_ge i b.size with x|x
    ·simp[x] at s m;rw[s] at m;cases m
    ·simp[Array.getElem?_eq_none x] at m
   have X:=wpOp_putIf t (B j f t e F T) (fun y p=>Region.noSelect_spec A i oi y p hi) (fun y p=>Region.noSelect_spec A j f y p t) L q (H.2 j (ready_mono l e));refine wpOp_mono (fun p u r=>⟨r.2.1,ih (b.setIfInBounds j true) p u (fun G ok Y Z I a0=>B G ok Y Z ?_ a0) (fun d J=>?_) (ready_mono g (Ne.symm e)) r.1 (r.2.1 O) ?_⟩) X
   ·by_cases K:j=G
    ·exact K ▸ F
    ·rw[getD_set_ne true K] at I;exact I
   ·rw[getD_set_ne true (fun h:j=d=>E (h ▸ J))];exact C d J
   ·rw[Array.setIfInBounds_comm _ _ e];exact r.2.2
theorem Qk.take(i:Nat)(D:List Nat){v:QA}(hi:ops[i]? =some oi)(e:Region.noSelect ops=true)
 (f:Region.free md ops up i=true) (g:(Region.ready md ops up).contains i=true) (b:(D.contains z && oz md ops i D && D.all fun d=>!up.getD d true)=true)
 (h:∀c a w,Q (.panic c) (a.put oi.dst v) w->Q (.panic c) a w) (hy:YieldsIf P ops S oi v a) (j:S w)
 (k:Qk P md ops Q S z n (up.setIfInBounds i true) (a.put oi.dst v) w):Qk P md ops Q S z (n+1) up a w:=by
 simp only[Bool.and_eq_true,List.contains_iff_mem,List.all_eq_true,Bool.not_eq_true'] at b;exact Qk.take' hi e h b.1.1 b.1.2 n up a w (Region.free_spec hi f) b.2 (by simpa using g) hy j k
theorem Qk.next(i:Nat){o:Oper}(c:Region.ready md ops up=[i])(f:ops[i]? =some o)
 (h:∀K:Act->Qy->Prop,Shut (∀b u,(i≠z->S u)->Qk P md ops Q S z n (up.setIfInBounds i true) b u->K b u)->if Region.wanted o (yielded ops a.tmps)=true then Oper.wp P o a w K Q else K (a.put o.dst undef) w):
  Qk P md ops Q S z (n+1) up a w:=by
 refine⟨fun d=>(by rw[c] at d;cases d),fun k e=>?_⟩;rw[c] at e;obtain rfl:k=i:=by simpa using e
 exact wpOp_step f (fun K g=>h K (fun b u j l=>g b u ⟨j,l⟩))
theorem Qk.two(i j:Nat){e:Oper}(h:Region.ready md ops up=[i,j])(l:ops[i]? =some oi)(m:ops[j]? =some e)
 (d:∀K:Act->Qy->Prop,Shut (∀b u,(i≠z->S u)->Qk P md ops Q S z n (up.setIfInBounds i true) b u->K b u)->if Region.wanted oi (yielded ops a.tmps)=true then Oper.wp P oi a w K Q else K (a.put oi.dst undef) w)
 (h2:∀K:Act->Qy->Prop,Shut (∀b u,(j≠z->S u)->Qk P md ops Q S z n (up.setIfInBounds j true) b u->K b u)->if Region.wanted e (yielded ops a.tmps)=true then Oper.wp P e a w K Q else K (a.put e.dst undef) w):
  Qk P md ops Q S z (n+1) up a w:=by
 refine⟨fun k=>(by rw[h] at k;cases k),fun p f=>?_⟩;rw[h] at f;simp only[PS,PT,or_false] at f;rcases f with rfl | rfl
 ·exact wpOp_step l (fun K g=>d K (fun b u d h2=>g b u ⟨d,h2⟩))
 ·exact wpOp_step m (fun K g=>h2 K (fun b u d h2=>g b u ⟨d,h2⟩))
theorem Qk.done(b:Region.ready md ops up=[])(h:Q .normal a w):Qk P md ops Q S z n up a w:=by
 cases n with
 | zero=>exact⟨b,h⟩
 | succ n=>exact⟨fun _=>h,by rw[b];simp⟩
theorem upA{α:Type}{l:List α}{i:Nat}{a:α}:l.toArray.setIfInBounds i a= (l.set i a).toArray:=List.setIfInBounds_toArray ..
theorem upB{α:Type}{x:α}{b:List α}{a:α}:(x :: b).set 0 a=a :: b:=List.set_cons_zero
theorem upC{α:Type}{x:α}{b:List α}{i:Nat}{a:α}:(x :: b).set (i+1) a=x :: b.set i a:=PX
def Zz(md:Region.Mode)(ops:Array Oper)(i:Nat):List Nat:=
 (List.range ops.size).foldl (fun D d=>match ops[d]? with
  | some o=>if (o.after.toList.any fun e=>Region.binds md e && (e.on == i || D.contains e.on))=true then D++ [d] else D
  | none=>D) []
theorem ae(i:Nat){v:QA}{b:Act}(e:S w)
 (h:Qk P md ops Q S z n (up.setIfInBounds i true) b w) (hi:ops[i]? =some oi:=by (simp only[List.getElem?_toArray];rfl)) (hy:∀u,S u->(execOp a.eval oi).run P u= .ok (.value v) u:=by (intro u hu;(try dsimp only at hu);go_simp;(try with_reducible rfl)))
 (f:a.put oi.dst v=b:=by (first | (simp only[Act.put,upA,upB,upC];exact rfl) | simp only[Act.put,upA,upB,upC] | exact rfl)) (g:Region.noSelect ops=true:=by kernel_rfl)
 (j:Region.free md ops up i=true:=by kernel_rfl) (k:(Region.ready md ops up).contains i=true:=by kernel_rfl) (l:((Zz md ops i).contains z && oz md ops i (Zz md ops i) && (Zz md ops i).all fun d=>!up.getD d true)=true:=by kernel_rfl)
 (m:∀c a w,Q (.panic c) (a.put oi.dst v) w->Q (.panic c) a w:=by (first | exact fun _ _ _ h=>h | exact fun _ _ _ h=>nomatch h.1)) (p:Region.wanted oi (yielded ops a.tmps)=true:=by rfl):Qk P md ops Q S z (n+1) up a w:=
 Qk.take i _ hi g j k l m (Or.inl ⟨p,hy⟩) e (by rw[f];exact h)
theorem au(i:Nat){b:Act}(e:S w)
 (h:Qk P md ops Q S z n (up.setIfInBounds i true) b w) (hi:ops[i]? =some oi:=by (simp only[Qu];rfl))
 (f:a.put oi.dst undef=b:=by (first | (simp only[Act.put,upA,upB,upC];exact rfl) | simp only[Act.put,upA,upB,upC] | exact rfl)) (g:Region.noSelect ops=true:=by kernel_rfl)
 (j:Region.free md ops up i=true:=by kernel_rfl) (k:(Region.ready md ops up).contains i=true:=by kernel_rfl) (l:((Zz md ops i).contains z && oz md ops i (Zz md ops i) && (Zz md ops i).all fun d=>!up.getD d true)=true:=by kernel_rfl)
 (m:∀c a w,Q (.panic c) (a.put oi.dst undef) w->Q (.panic c) a w:=by (first | exact fun _ _ _ h=>h | exact fun _ _ _ h=>nomatch h.1)) (p:Region.wanted oi (yielded ops a.tmps)=false:=by rfl):Qk P md ops Q S z (n+1) up a w:=
 Qk.take i _ hi g j k l m (Or.inr ⟨p,rfl⟩) e (by rw[f];exact h)
theorem ay(i:Nat){o:Oper} 
 (h:∀K:Act->Qy->Prop,Shut (∀b u,(i≠z->S u)->Qk P md ops Q S z n (up.setIfInBounds i true) b u->K b u)->if Region.wanted o (yielded ops a.tmps)=true then Oper.wp P o a w K Q else K (a.put o.dst undef) w)
 (d:Region.ready md ops up=[i]:=by kernel_rfl) (e:ops[i]? =some o:=by (simp only[Qu];rfl)):Qk P md ops Q S z (n+1) up a w:=Qk.next i d e h
theorem ax(i:Nat){o:Oper} 
 (h:∀K:Act->Qy->Prop,Shut (∀b u,(i≠z->S u)->Qk P md ops Q S z n (up.setIfInBounds i true) b u->K b u)->Oper.wp P o a w K Q)
 (c:Region.ready md ops up=[i]:=by kernel_rfl) (d:ops[i]? =some o:=by (simp only[Qu];rfl)) (e:Region.wanted o (yielded ops a.tmps)=true:=by rfl):Qk P md ops Q S z (n+1) up a w:=Qk.next i c d fun K f=>by rw[Qg e];exact h K f
theorem wK(i j:Nat){c:Oper} 
 (d:∀K:Act->Qy->Prop,Shut (∀b u,(i≠z->S u)->Qk P md ops Q S z n (up.setIfInBounds i true) b u->K b u)->if Region.wanted oi (yielded ops a.tmps)=true then Oper.wp P oi a w K Q else K (a.put oi.dst undef) w)
 (h2:∀K:Act->Qy->Prop,Shut (∀b u,(j≠z->S u)->Qk P md ops Q S z n (up.setIfInBounds j true) b u->K b u)->if Region.wanted c (yielded ops a.tmps)=true then Oper.wp P c a w K Q else K (a.put c.dst undef) w)
 (e:Region.ready md ops up=[i,j]:=by kernel_rfl) (f:ops[i]? =some oi:=by (simp only[Qu];rfl)) (g:ops[j]? =some c:=by (simp only[Qu];rfl)):Qk P md ops Q S z (n+1) up a w:=Qk.two i j e f g d h2
theorem aR(z:Nat)(c:∀u,K_ w u->S u)(h:∀wd,K_ w wd->S wd->Qk P .any ops Q S z ops.size (Array.replicate ops.size false) a wd)(e:P.follows .mixedOrders=true:=by kernel_rfl):(Code.region id ops true).wp P Q a w:=
 Qk.region e S z (c _ (bB w)) fun f=>h _ (bB w) f
theorem sP(z:Nat){R:Qy->Prop}(c:∀u,R u->S u)(d:R w.drew)(h:∀wd,K_ w wd->S wd->Qk P .any ops Q S z ops.size (Array.replicate ops.size false) a wd)(f:P.follows .mixedOrders=true:=by kernel_rfl):(Code.region id ops true).wp P Q a w:=
 Qk.region f S z (c _ d) fun g=>h _ (bB w) g
theorem jI(z:Nat){R:Qy->Prop}(c:∀u,R u->S u)(d:R w.drew)(h:S w.drew->Qk P .any ops Q S z ops.size (Array.replicate ops.size false) a w.drew)(f:P.follows .mixedOrders=true:=by kernel_rfl):(Code.region id ops true).wp P Q a w:=
 Qk.region f S z (c _ d) h
theorem az(h:Q .normal a w)(c:Region.ready md ops up=[]:=by kernel_rfl):Qk P md ops Q S z n up a w:=Qk.done c h
theorem af(i:Nat){v0 v1 v2 v3:QA}{b e f g:Oper}{j k l q:Act}(m:S w)
 (h:Qk P md ops Q S z n ((((up.setIfInBounds i true).setIfInBounds (i+1) true).setIfInBounds (i+2) true).setIfInBounds (i+3) true) q w)
 (r:ops[i]? =some b:=by (simp only[List.getElem?_toArray];rfl)) (s:Region.wanted b (yielded ops a.tmps)=true:=by rfl) (t:∀u,S u->(execOp a.eval b).run P u= .ok (.value v0) u:=by (intro u hu;(try dsimp only at hu);go_simp;(try with_reducible rfl))) (v:a.put b.dst v0=j:=by (first | (simp only[Act.put,upA,upB,upC];exact rfl) | simp only[Act.put,upA,upB,upC] | exact rfl))
 (x:Region.free md ops up i=true:=by kernel_rfl) (y:(Region.ready md ops up).contains i=true:=by kernel_rfl) (A:((Zz md ops i).contains z && oz md ops i (Zz md ops i) && (Zz md ops i).all fun d=>!up.getD d true)=true:=by kernel_rfl) (B:∀c a w,Q (.panic c) (a.put b.dst v0) w->Q (.panic c) a w:=by (first | exact fun _ _ _ h=>h | exact fun _ _ _ h=>nomatch h.1))
 (C:ops[i+1]? =some e:=by (simp only[List.getElem?_toArray];rfl)) (D:Region.wanted e (yielded ops j.tmps)=true:=by rfl) (E:∀u,S u->(execOp j.eval e).run P u= .ok (.value v1) u:=by (intro u hu;(try dsimp only at hu);go_simp;(try with_reducible rfl))) (F:j.put e.dst v1=k:=by (first | (simp only[Act.put,upA,upB,upC];exact rfl) | simp only[Act.put,upA,upB,upC] | exact rfl))
 (G:Region.free md ops (up.setIfInBounds i true) (i+1)=true:=by kernel_rfl) (H:(Region.ready md ops (up.setIfInBounds i true)).contains (i+1)=true:=by kernel_rfl) (I:((Zz md ops (i+1)).contains z && oz md ops (i+1) (Zz md ops (i+1)) && (Zz md ops (i+1)).all fun d=>!(up.setIfInBounds i true).getD d true)=true:=by kernel_rfl) (J:∀c a w,Q (.panic c) (a.put e.dst v1) w->Q (.panic c) a w:=by (first | exact fun _ _ _ h=>h | exact fun _ _ _ h=>nomatch h.1))
 (K:ops[i+2]? =some f:=by (simp only[List.getElem?_toArray];rfl)) (L:Region.wanted f (yielded ops k.tmps)=true:=by rfl) (M:∀u,S u->(execOp k.eval f).run P u= .ok (.value v2) u:=by (intro u hu;(try dsimp only at hu);go_simp;(try with_reducible rfl))) (N:k.put f.dst v2=l:=by (first | (simp only[Act.put,upA,upB,upC];exact rfl) | simp only[Act.put,upA,upB,upC] | exact rfl))
 (O:Region.free md ops ((up.setIfInBounds i true).setIfInBounds (i+1) true) (i+2)=true:=by kernel_rfl) (R:(Region.ready md ops ((up.setIfInBounds i true).setIfInBounds (i+1) true)).contains (i+2)=true:=by kernel_rfl) (T:((Zz md ops (i+2)).contains z && oz md ops (i+2) (Zz md ops (i+2)) && (Zz md ops (i+2)).all fun d=>!((up.setIfInBounds i true).setIfInBounds (i+1) true).getD d true)=true:=by kernel_rfl) (U:∀c a w,Q (.panic c) (a.put f.dst v2) w->Q (.panic c) a w:=by (first | exact fun _ _ _ h=>h | exact fun _ _ _ h=>nomatch h.1))
 (V:ops[i+3]? =some g:=by (simp only[List.getElem?_toArray];rfl)) (W:Region.wanted g (yielded ops l.tmps)=true:=by rfl) (X:∀u,S u->(execOp l.eval g).run P u= .ok (.value v3) u:=by (intro u hu;(try dsimp only at hu);go_simp;(try with_reducible rfl))) (Y:l.put g.dst v3=q:=by (first | (simp only[Act.put,upA,upB,upC];exact rfl) | simp only[Act.put,upA,upB,upC] | exact rfl))
 (Z:Region.free md ops (((up.setIfInBounds i true).setIfInBounds (i+1) true).setIfInBounds (i+2) true) (i+3)=true:=by kernel_rfl) (a0:(Region.ready md ops (((up.setIfInBounds i true).setIfInBounds (i+1) true).setIfInBounds (i+2) true)).contains (i+3)=true:=by kernel_rfl) (a1:((Zz md ops (i+3)).contains z && oz md ops (i+3) (Zz md ops (i+3)) && (Zz md ops (i+3)).all fun d=>!(((up.setIfInBounds i true).setIfInBounds (i+1) true).setIfInBounds (i+2) true).getD d true)=true:=by kernel_rfl) (a2:∀c a w,Q (.panic c) (a.put g.dst v3) w->Q (.panic c) a w:=by (first | exact fun _ _ _ h=>h | exact fun _ _ _ h=>nomatch h.1))
 (p:Region.noSelect ops=true:=by kernel_rfl):Qk P md ops Q S z (n+4) up a w:=
 Qk.take i _ r p x y A B (Or.inl ⟨s,t⟩) m (by rw[v];exact (Qk.take (i+1) _ C p G H I J (Or.inl ⟨D,E⟩) m (by rw[F];exact (Qk.take (i+2) _ K p O R T U (Or.inl ⟨L,M⟩) m (by rw[N];exact (Qk.take (i+3) _ V p Z a0 a1 a2 (Or.inl ⟨W,X⟩) m (by rw[Y];exact h)))))))
end
theorem Tryz.lU :(prog.info? 112).map (·.size)=some 2:=by kernel_rfl
theorem bS{P:Program}{e:Func}{R:Ending->Qy->Prop}{a:Act}{w:Qy}{p q:Tmp}{c:TypeId}{b:Nat}(cs:List QA)(d:TypeDesc)(v:QA)(h:e.results= #[.cell p c,.tmp q])
  (f:a.tmps.getD p undef= .pointer (some ⟨b,0,none⟩)) (g:w.rangeAt b 0 cs) (i:P.underlying c=some d) (j:d.isRow=true) (hi:(P.info? c).map (·.size)=some cs.length)
  (k:a.tmps.getD q undef=v) (l:a.defers=[]) (m:R (.returned (.tuple #[.agg cs.toArray,v])) w):bodyPost P e R .ret a w:=by
 refine bodyPost_ret ?_ l m;have n:a.tmps[p]?.getD undef= .pointer (some ⟨b,0,none⟩):=by simpa using f
 have r:a.tmps[q]?.getD undef=v:=by simpa using k
 simp only[results,h];simp[n,r,asAddr,run_loadVar_mid w b 0 c cs d g i j hi]
theorem K_.mD{w w1:Qy}(k:K_ w w1){i:Nat}(v:QA):K_ w (w1.setCell ⟨w.heap.size,i,none⟩ v):=Below.setCell k (p:=⟨w.heap.size,i,none⟩) (OU _) v
theorem Zj{w:Qy}{b c o p:Nat}(h:b≠c){v:QA}:(w.setCell ⟨c,p,none⟩ v).cell? ⟨b,o,none⟩=w.cell? ⟨b,o,none⟩:=Pq _ _ _ _ (fun e=>h (congrArg Addr.block e).symm)
def KC(Kq:List Qz)(l:List Q_)(n:Qw)(e:Ending):Prop:=
 ∃(f:Bool) (t:Qw) (ok:Bool),e= .returned (.tuple #[.agg #[.bool f,.string t],.bool ok])/\bE (Kk Kq) (Qq l) n= (if ok=true then some ⟨f,t⟩ else none)/\(ok=false->f=false/\t= ⟨#[]⟩)
theorem uQ(w:Qy)(s:Nat)(a:Qx)(cap:Nat)(Kq:List Qz)(d:Qx)(dc:Nat)(l:List Q_)(n:Qw)(W:Kq.length<=1048576)(X:l.length<=1048576)(hn:n.size<=1000)(c:jE w s a Kq.length cap d l.length dc)(Y:bJ w a Kq)(I:gD w d l):
  Calls prog 57 #[.pointer (some ⟨s,0,none⟩),.string n] w fun e w'=>KC Kq l n e/\K_ w w':=by
 have f:K_ w (w.alloc (.cells #[.bool false,.string ⟨#[]⟩] 112)):=ak _ _;have a8:=c.row.lt;have Z:=(c.kept f).web;have E:=(c.kept f).row.lt;go_enter func57,ntmps57
 go_wp2_with fail
 refine (gp _ a cap Kq n W (Y.kept f)).mono ?_;rintro e b ⟨⟨a9,rfl,hr⟩,h⟩;have j:Hid (aL b w.heap.size 112 2):=(aL.made w #[.bool false,.string ⟨#[]⟩] 112).kept h;obtain⟨⟨_,J⟩,L⟩:=j.o.row.at (i:=0) (by omega);obtain⟨⟨_,M⟩,N⟩:=j.o.row.at (i:=1) (by omega);have O:=j.o.lt;clear Z E;rcases hr with⟨a0,hk,rfl,t,_⟩|⟨rfl,t⟩
 ·have b0:¬(a0:Int)<0:=by omega
  have F:=(c.kept f).kept h;have z:=(I.kept f).kept h;have v:=Kz t;clear t;go_wp2_with fail
  refine (JR b s a Kq.length cap d dc l n X F z).mono ?_;rintro e w2 ⟨⟨r2,rfl,a1⟩,P⟩;rw[P];clear P w2;rcases a1 with⟨k,Q,rfl,q,_⟩|⟨rfl,q⟩
  ·have b1:¬(k:Int)<0:=by omega
   have b2:(k:Int)<(l.length:Int):=by omega
   obtain⟨y,G⟩:=ag (l.getD k Q_.zero);rw[<-G] at q;obtain⟨A,o,_,_,rfl,b3,_⟩:=I k Q;obtain⟨b4,o1,xa,xc,R,hb,r,_,_⟩:=z k Q;simp only[PN,Qt,and_true] at R;obtain⟨rfl,rfl⟩:=R;rw[<-G] at r;have S:=r 1 _ rfl;have c2:=r 2 _ rfl;have c3:=r 3 _ rfl;have E:=F.runs;have qz:=F.row.lt;have⟨B,HC⟩:=aD q r;clear G r q z;cases C:y.over
   ·rw[C] at S;go_wp2_with fail
    have p:=OY b w.heap.size 0 [.bool false,.string ⟨#[]⟩] (j.o.row.there (o:=0) (m:=2) (OU _));refine bS [.bool false,.string ⟨#[]⟩] _ (.bool false) results57 rfl p underlying112 rfl Tryz.lU rfl rfl ?_;exact⟨⟨false,⟨#[]⟩,false,rfl,by unfold bE;rw[v.o,B.o];simp[C],fun _=>⟨rfl,rfl⟩⟩,((f.trans h).mD _).mD _⟩
   ·rw[C] at S;go_upto_region 6 with fail
    refine Qk.region (by kernel_rfl) (fun w'=>w'.cell? ⟨s,1,none⟩=some (.slice (some ⟨A,o,none⟩) l.length dc)/\w'.cell? ⟨A,o+k*7+2,none⟩=some (.bool y.fail)/\w'.cell? ⟨A,o+k*7+3,none⟩=some (.string y.text)) 18 ⟨E,c2,c3⟩ (fun g=>?_);have a2:b.drew.cell? ⟨w.heap.size,0,none⟩=some _:=J;have a3:b.drew.cell? ⟨w.heap.size,1,none⟩=some _:=M;have a4:b.drew.frozen? ⟨w.heap.size,0,none⟩=false:=L;have a5:b.drew.frozen? ⟨w.heap.size,1,none⟩=false:=N;have a6:w.heap.size<b.drew.heap.size:=O;have H:K_ b b.drew:=bB _;have T:=Kz (j.o.kept H);have U:=h.trans H;generalize a7:b.drew=wd at g a2 a3 a4 a5 a6 T U⊢;clear a7 H J M L N O;refine af 0 g ?_;refine af 4 g ?_;refine af 8 g ?_;refine af 12 g ?_;refine ae 16 g ?_;have V:s≠w.heap.size:=by omega
    have D:A≠w.heap.size:=by omega
    refine ay 17 (fun K c=>?_);go_simp
    refine c.out _ _ (fun _=>⟨by rw[Zj V,Zj V];exact g.1,by rw[Zj D,Zj D];exact g.2.1,by rw[Zj D,Zj D];exact g.2.2⟩) ?_;clear c K;try simp only[Act.put,upA,upB,upC]
    refine ay 18 (fun K c=>?_);go_simp
    refine c.out _ _ (fun x=>Qi rfl x) ?_;clear c K;try simp only[Act.put,upA,upB,upC]
    refine az ?_;go_wp2_with fail
    have p:=OY wd w.heap.size 0 [.bool y.fail,.string y.text] (T.o.row.there (o:=0) (m:=2) (OU _));refine bS [.bool y.fail,.string y.text] _ (.bool true) results57 rfl p underlying112 rfl Tryz.lU rfl rfl ?_;exact⟨⟨y.fail,y.text,true,rfl,by unfold bE;rw[v.o,B.o];simp[C],fun x=>by cases x⟩,((f.trans U).mD _).mD _⟩
  ·have B:=Kz q;clear q z;go_wp2_with fail
   have p:=OY b w.heap.size 0 [.bool false,.string ⟨#[]⟩] (j.o.row.there (o:=0) (m:=2) (OU _));refine bS [.bool false,.string ⟨#[]⟩] _ (.bool false) results57 rfl p underlying112 rfl Tryz.lU rfl rfl ?_;exact⟨⟨false,⟨#[]⟩,false,rfl,by unfold bE;rw[v.o,B.o];rfl,fun _=>⟨rfl,rfl⟩⟩,((f.trans h).mD _).mD _⟩
 ·have v:=Kz t;clear t;have f3:¬9223372036854775807<3+n.size:=by omega
  go_wp2_with fail
  have p:=OY b w.heap.size 0 [.bool true,.string ((⟨#[110,111,32]⟩:Qw)++n)] (j.o.row.there (o:=0) (m:=2) (OU _));refine bS [.bool true,.string ((⟨#[110,111,32]⟩:Qw)++n)] _ (.bool true) results57 rfl p underlying112 rfl Tryz.lU rfl rfl ?_;exact⟨⟨true,yC n,true,rfl,by unfold bE;rw[v.o];rfl,fun x=>by cases x⟩,((f.trans h).mD _).mD _⟩
theorem Fs(w:Qy)(b:Nat)(a:Qx)(cap:Nat)(Kq:List Qz)(d:Qx)(dc:Nat)(l:List Q_)(n:Qw)(c:Kq.length<=1048576)(f:l.length<=1048576)(g:n.size<=1000)(h:jE w b a Kq.length cap d l.length dc)(i:bJ w a Kq)(j:gD w d l):
  Calls prog 57 #[.pointer (some ⟨b,0,none⟩),.string n] w fun e w'=>G_ Kq l n e/\K_ w w':=by
 refine (uQ w b a cap Kq d dc l n c f g h i j).mono ?_;rintro e w' ⟨⟨k,t,ok,p,q,_⟩,r⟩;exact⟨⟨k,t,ok,p,q⟩,r⟩
def rq(r:Q_)(p:List Q_×Bool)(x:Q_):List Q_×Bool:=if p.2=false/\Op.bytesLess x.name.toList r.name.toList=false then (p.1++ [r],true) else p
def zR(r:Q_)(p:List Q_×Bool)(x:Q_):List Q_×Bool:=if (x.name.toList == r.name.toList)=true then p else (p.1++ [x],p.2)
def uC(r:Q_)(p:List Q_×Bool)(x:Q_):List Q_×Bool:=zR r (rq r p x) x
def uM(l:List Q_)(r:Q_)(k:Nat):List Q_×Bool:=(l.take k).foldl (uC r) ([],false)
theorem Jm(l:List Q_)(r:Q_):uM l r 0= ([],false):=rfl
theorem Bd{l:List Q_}{r:Q_}{k:Nat}(h:k<l.length):uM l r (k+1)=uC r (uM l r k) (l.getD k Q_.zero):=by
 unfold uM;rw[Pb h,List.foldl_append];simp[List.getD,h]
theorem JX(r:Q_)(p:List Q_×Bool)(x:Q_):(uC r p x).1.length+ (if (uC r p x).2=true then 0 else 1)<=p.1.length+ (if p.2=true then 0 else 1)+1:=by
 unfold uC zR rq;obtain⟨o,d⟩:=p;cases d <;> cases Op.bytesLess x.name.toList r.name.toList <;> cases (x.name.toList == r.name.toList) <;> simp <;> omega
theorem CX{l:List Q_}{r:Q_}:∀{k:Nat},k<=l.length->(uM l r k).1.length+ (if (uM l r k).2=true then 0 else 1)<=k+1
 | 0,_=>by rw[Jm];simp
 | k+1,h=>by
  have a:=CX (l:=l) (r:=r) (k:=k) (by omega);have b:=JX r (uM l r k) (l.getD k Q_.zero);rw[Bd (by omega)];omega
def BC(r:Q_)(p:List Q_×Bool):List Q_:=if p.2=true then p.1 else p.1++ [r]
theorem Ew(r:Q_):∀(l acc:List Q_),l.foldl (uC r) (acc,true)= (acc++l.filter (fun x=>!(x.name.toList == r.name.toList)),true)
 | [],acc=>by simp
 | x :: l,acc=>by
  rw[List.foldl_cons];have e:uC r (acc,true) x= (acc++ (if (x.name.toList == r.name.toList)=true then [] else [x]),true):=by
   unfold uC zR rq;cases (x.name.toList == r.name.toList) <;> simp
  rw[e,Ew r l];cases h:(x.name.toList == r.name.toList) <;> simp[h]
theorem DK(r:Q_):∀(l acc:List Q_),dB l->BC r (l.foldl (uC r) (acc,false))=acc++dI l r
 | [],acc,_=>by simp[BC,dI]
 | x :: l,acc,h=>by
  have i:=h;rw[dB,Qs] at i;rw[List.foldl_cons];cases e:Op.bytesLess x.name.toList r.name.toList with
  | true=>
   have m:(x.name.toList == r.name.toList)=false:=by
    rw[beq_eq_false_iff_ne];intro f;exact fE (a:=x.name) (b:=r.name) e (toList_inj.1 f)
   have n:Op.bytesLess r.name.toList x.name.toList=false:=by
    cases j:Op.bytesLess r.name.toList x.name.toList with
    | false=>rfl
    | true=>exact Qi j (di (a:=x.name) (b:=r.name) e)
   have f:uC r (acc,false) x= (acc++ [x],false):=by simp[uC,zR,rq,e,m]
   rw[f,DK r l _ i.2];simp[dI,e,n]
  | false=>
   have k:∀y∈x :: l,Op.bytesLess y.name.toList r.name.toList=false:=by
    intro y g;rcases PS.1 g with rfl|g
    ·exact e
    ·cases j:Op.bytesLess y.name.toList r.name.toList with
     | false=>rfl
     | true=>
      have:=gV (i.1 y g) (show aH y.name r.name from j);unfold aH at this;rw[e] at this;cases this
   have p:(x :: l).filter (fun y=>Op.bytesLess y.name.toList r.name.toList)=[]:=by
    rw[List.filter_eq_nil_iff];intro y g;rw[k y g];simp
   have q:(x :: l).filter (fun y=>Op.bytesLess r.name.toList y.name.toList)= (x :: l).filter (fun y=>!(y.name.toList == r.name.toList)):=by
    refine List.filter_congr fun y g=>?_
    rcases b_ r.name y.name with d|d|d
    ·have s:(y.name.toList == r.name.toList)=false:=by
      rw[beq_eq_false_iff_ne];intro f;exact fE d (toList_inj.1 f).symm
     unfold aH at d;rw[d,s]
     rfl
    ·rw[d,fO];simp
    ·unfold aH at d;rw[k y g] at d;cases d
   have f:uC r (acc,false) x= (acc++ [r]++ (if (x.name.toList == r.name.toList)=true then [] else [x]),true):=by
    unfold uC zR rq;cases (x.name.toList == r.name.toList) <;> simp[e]
   rw[f,Ew];unfold BC dI;rw[p,q];cases h:(x.name.toList == r.name.toList) <;> simp[h]
theorem Mt{l:List Q_}{r:Q_}(h:dB l):BC r (uM l r l.length)=dI l r:=by
 unfold uM;rw[PE,DK r l [] h,List.nil_append]
theorem rU(w:Qy)(n lo hi:Int)(a:lo<=n)(h2:n<=hi):
  Calls prog 20 #[.int .i64 n,.int .i64 lo,.int .i64 hi] w fun e w'=>e= .returned (.bool true)/\w'=w:=by
 go_enter func20,ntmps20
 go_wp2
 go_ret
 exact⟨rfl,rfl⟩
theorem Cx(w:Qy)(s:Xq)(b c:Qx)(ca cc:Nat)(n:Int)(d:s.Fits)(g:0<=n/\n<=20)
  (i:Strs w b s.asks) (j:dw w c s.cases):
  Calls prog 96 #[.agg #[.slice b s.asks.length ca,.int .i64 s.on,.slice c s.cases.length cc,.int .i64 s.els,.int .i64 s.fall,.bool s.fin,.bool s.bad,.string s.give],.int .i64 n] w
   fun e w'=>Says e (lC s n)/\K_ w w':=by
 cases a:s.fin
 ·rw[<-a];by_cases f:wO s n
  ·refine (vX w s b c ca cc n d g i j a f).mono ?_;rintro e w' ⟨h,k⟩;exact⟨h.congr ⟨fun h=>⟨fun e=>(by rw[a] at e;cases e),fun _=>⟨f,h⟩⟩,fun h=>(h.2 a).2⟩,k⟩
  ·refine (yA w s b c ca cc n d g i j a f).mono ?_;rintro e w' ⟨rfl,k⟩;exact⟨Says.no fun h=>f (h.2 a).1,k⟩
 ·refine (Cf w s.asks.length s.on s.cases.length s.els s.fall s.bad s.give b c ca cc n d.asks d.cases d.give).mono ?_;rintro e w' ⟨h,k⟩;exact⟨h.congr ⟨fun h=>⟨fun _=>h,fun e=>(by rw[a] at e;cases e)⟩,fun h=>h.1 a⟩,k⟩
theorem il(w:Qy)(cost:Int)(a:Qx)(cap:Nat)(l:List Xq)(E:l.length<=maxLen)(F:∀s∈l,s.Fits)(G:Steps w a l):
  Calls prog 45 #[.agg #[.int .i64 cost,.slice a l.length cap]] w fun e w'=>Says e (lu ⟨cost,l⟩)/\K_ w w':=by
 unfold maxLen at E;have d:K_ w (w.alloc (.cells #[.int .i64 cost,.slice a l.length cap] 88)):=ak _ _;by_cases H:1<=cost
 ·by_cases I:cost<=20
  ·by_cases Z:(1:Int)<=l.length
   ·by_cases a0:(l.length:Int)<=20
    ·go_enter func45,ntmps45
     go_wp2_with (go_at_call 20;refine (rU _ _ _ _ (by omega) (by omega)).mono ?_;rintro e w' ⟨rfl,rfl⟩)
     go_loopw [4] (fun i wr=>∃k:Nat,k<=l.length/\i= .int .i64 k/\K_ (w.alloc (.cells #[.int .i64 cost,.slice a l.length cap] 88)) wr/\∀j,j<k->lC (l.getD j Xq.zero) l.length) (fun i _=>l.length-(intOf i).toNat)
     case atStart=>exact⟨0,OW _,rfl,K_.refl _,fun j g=>aB g⟩
     case round=>
      obtain⟨k,hk,rfl,f,t⟩:=hrel;have v:=Kz t;clear t;obtain⟨J,K⟩:=f.rules;have L:=f.size;simp only[PL] at L;by_cases m:k<l.length
      ·obtain⟨b,o,cs,rfl,hb,c,M,N,O,P,rfl,n,p,a1⟩:=(G.kept d).kept f k m;have x:=F (l.getD k Xq.zero) (by simp[List.getD,m]);obtain⟨s,q⟩:=ag (l.getD k Xq.zero);rw[<-q] at c x n p;have y:=Kz q;clear q;have z:=c 0 _ rfl;have Q:=c 1 _ rfl;have R:=c 2 _ rfl;have S:=c 3 _ rfl;have T:=c 4 _ rfl;have U:=c 5 _ rfl;have V:=c 6 _ rfl;have W:=c 7 _ rfl;simp only[PR] at z;clear c;go_wp2_with fail
       refine (Cx _ s M O N P _ x ⟨by omega,by omega⟩ n p).mono ?_;rintro e w1 ⟨r,A⟩;have B:=f.trans A;clear z Q R S T U V W n p f A J K;rcases r.cases with⟨rfl,C⟩|⟨rfl,D⟩
       ·have X:=Kz C;clear C r;go_wp2
        go_roundw
        case rel=>
         refine⟨k+1,by omega,by go_num,B,fun j g=>?_⟩;by_cases e:j=k
         ·subst e;rw[<-y.o];exact X.o
         ·exact aP v j (by omega)
        case measure=>simp[intOf];omega
       ·have Y:=Kz D;clear D r;go_wp2
        go_ret
        exact⟨Says.no fun h=>Y.o (by rw[y.o];exact h.2.2 k m),d.trans B⟩
      ·go_wp2
       go_ret
       exact⟨Says.yes ⟨⟨H,I⟩,⟨by show 1<=l.length;omega,by show l.length<=20;omega⟩,fun j (g:j<l.length)=>aP v j (by omega)⟩,d.trans f⟩
    ·go_enter func45,ntmps45
     go_wp2
     go_ret
     exact⟨Says.no fun h=>by have:=h.2.1.2;simp at this;omega,d⟩
   ·go_enter func45,ntmps45
    go_wp2
    go_ret
    exact⟨Says.no fun h=>by have:=h.2.1.1;simp at this;omega,d⟩
  ·go_enter func45,ntmps45
   go_wp2
   go_ret
   exact⟨Says.no fun h=>by have:=h.1.2;simp at this;omega,d⟩
 ·go_enter func45,ntmps45
  go_wp2
  go_ret
  exact⟨Says.no fun h=>by have:=h.1.1;simp at this;omega,d⟩
def eO(l:List Qw):Prop:=1<=l.length/\l.length<=10/\tu l
theorem Ib(w:Qy)(n lo hi:Int)(h:n<lo\/hi<n):
  Calls prog 20 #[.int .i64 n,.int .i64 lo,.int .i64 hi] w fun e w'=>e= .returned (.bool false)/\w'=w:=by
 by_cases b:lo<=n
 ·have c:¬n<=hi:=by omega
  go_enter func20,ntmps20
  go_wp2
  go_ret
  exact⟨rfl,rfl⟩
 ·go_enter func20,ntmps20
  go_wp2
  go_ret
  exact⟨rfl,rfl⟩
theorem qR(w:Qy)(a:Qx)(cap:Nat)(l:List Qw)(j:l.length<=maxLen)(k:∀s∈l,s.size<=maxLen)(m:Strs w a l):
  Calls prog 19 #[.slice a l.length cap] w fun e w'=>Says e (eO l)/\K_ w w':=by
 by_cases h:1<=l.length/\l.length<=10
 ·go_enter func19,ntmps19
  go_wp2_with (go_at_call 20;refine (rU _ _ _ _ (by omega) (by omega)).mono ?_;rintro e w' ⟨rfl,rfl⟩)
  refine (pK _ a cap l j k m).mono ?_;rintro e n ⟨b,d⟩;rcases b.cases with⟨rfl,f⟩|⟨rfl,i⟩
  ·have c:=Kz f;clear f b;go_wp2
   go_ret
   exact⟨Says.yes ⟨h.1,h.2,c.o⟩,d⟩
  ·have c:=Kz i;clear i b;go_wp2
   go_ret
   exact⟨Says.no fun g=>c.o g.2.2,d⟩
 ·go_enter func19,ntmps19
  go_wp2_with (go_at_call 20;refine (Ib _ _ _ _ (by omega)).mono ?_;rintro e w' ⟨rfl,rfl⟩)
  go_ret
  exact⟨Says.no fun g=>h ⟨g.1,g.2.1⟩,K_.refl _⟩
theorem yP(w:Qy)(a:Qx)(cap:Nat)(l:List Qw)(z:l.length<=maxLen)(R:l.length<=cap)(G:∀s∈l,s.size<=maxLen)(A:Strs w a l):
  Calls prog 61 #[.slice a l.length cap] w fun e w'=>Says e (eO l)/\K_ w w':=by
 have H:=z;unfold maxLen at H;by_cases I:(l.length:Int)<1
 ·go_enter func61,ntmps61
  go_wp2
  go_ret
  exact⟨Says.no fun r=>by have:=r.1;omega,K_.refl _⟩
 ·by_cases J:(10:Int)<l.length
  ·go_enter func61,ntmps61
   go_wp2
   go_ret
   exact⟨Says.no fun r=>by have:=r.2.1;omega,K_.refl _⟩
  ·have K:decide ((l.length:Int)<1)=false:=by simpa using I
   have L:decide ((10:Int)<l.length)=false:=by simpa using J
   go_enter func61,ntmps61
   go_wp2
   clear K L;go_loopw [15] (fun i wr=>∃k:Nat,k<=l.length/\i= .int .i64 k/\K_ w wr/\∀j,j<k->CO l j) (fun i _=>l.length-(intOf i).toNat)
   case atStart=>exact⟨0,OW _,rfl,K_.refl _,fun j t=>aB t⟩
   case round=>
    obtain⟨k,S,rfl,d,B⟩:=hrel;have C:=Kz B;clear B;by_cases n:k<l.length
    ·obtain⟨b,o,rfl,M,D⟩:=A.kept d k n;have E:(l.getD k ByteArray.empty).size<=maxLen:=G _ (by simp[List.getD,n]);obtain⟨F,v⟩:=ag (l.getD k ByteArray.empty);rw[<-v] at D E;have p:=Kz v;clear v;go_wp2_with fail
     refine (mP _ F E).mono ?_;rintro e T ⟨c,x⟩;have q:=d.trans x;have y:=A.kept q;clear D M;rcases c.cases with⟨rfl,f⟩|⟨rfl,g⟩
     ·have N:=Kz f;clear f c d x;have U:k<=cap:=by omega
      go_wp2_with fail
      refine (qF _ _ cap k l F z (by omega) y).mono ?_;rintro e V ⟨c,rfl⟩;rcases c.cases with⟨rfl,f⟩|⟨rfl,g⟩
      ·have h:=Kz f;clear f c y;go_wp2
       go_ret
       exact⟨Says.no fun m=>by obtain⟨i,O,e⟩:=h.o;exact (m.2.2 k n).2 i O (by rw[e,p.o]),q⟩
      ·have h:=Kz g;clear g c y;go_wp2
       go_roundw
       case rel=>
        refine⟨k+1,by omega,by go_num,q,fun j t=>?_⟩;by_cases e:j=k
        ·subst e;exact⟨by rw[<-p.o];exact N.o,fun P Q m=>h.o ⟨P,Q,by rw[m,p.o]⟩⟩
        ·exact aP C j (by omega)
       case measure=>simp[intOf];omega
     ·have h:=Kz g;clear g c d x;go_wp2
      go_ret
      exact⟨Says.no fun m=>h.o (by rw[p.o];exact (m.2.2 k n).1),q⟩
    ·go_wp2
     go_ret
     exact⟨Says.yes ⟨by omega,by omega,fun j t=>aP C j (by omega)⟩,d⟩
variable {a : Act} {up : Array Bool} {n : Nat} {oi : Oper} {v : QA} {w : Qy}
section
variable {P : Program} {ops : Array Oper} {Q : Exit -> Act -> Qy -> Prop} {md : Region.Mode} {S : Qy -> Prop} {Z : List Nat}
def UpZ(P:Program)(md:Region.Mode)(ops:Array Oper)(Q:Exit->Act->Qy->Prop)(S:Qy->Prop)(Z:List Nat):Nat->Array Bool->Act->Qy->Prop
 | 0,up,a,w=>Region.ready md ops up=[]/\Q .normal a w
 | n+1,up,a,w=>(Region.ready md ops up=[]->Q .normal a w)/\∀k∈Region.ready md ops up,wpOp P ops Q k (fun b u=>(k∉Z->S w->S u)/\UpZ P md ops Q S Z n (up.setIfInBounds k true) b u) a w
theorem UpZ.any :∀(n:Nat) (up:Array Bool) (a:Act) (w:Qy),UpZ P md ops Q S Z n up a w->wpAny P md ops Q n up a w
 | 0,_,_,_,h=>h
 | n+1,_,_,_,h=>⟨h.1,fun k c=>wpOp_mono (fun b u g=>UpZ.any n _ b u g.2) (h.2 k c)⟩
theorem UpZ.region{id:Nat}(b:P.follows .mixedOrders=true)(S:Qy->Prop)(Z:List Nat)(d:S w.drew)
 (h:S w.drew->UpZ P .any ops Q S Z ops.size (Array.replicate ops.size false) a w.drew):(Code.region id ops true).wp P Q a w:=
 wp_region_any b (UpZ.any _ _ _ _ (h d))
theorem UpZ.take'{i:Nat}(hi:ops[i]? =some oi)(B:Region.noSelect ops=true)(L:∀c a w,Q (.panic c) (a.put oi.dst v) w->Q (.panic c) a w)
 {D:List Nat} (M:∀z∈Z,z∈D) (N:oz md ops i D=true):
  ∀(n:Nat) (f:Array Bool) (a:Act) (w:Qy),(∀j g,ops[j]? =some g->j≠i->f.getD j true=false->(∀e∈g.after,Region.binds md e=true->e.on≠i)->oi.apart ops g=true)->
   (∀d∈D,f.getD d true=false)->i∈Region.ready md ops f->YieldsIf P ops S oi v a->S w->
   UpZ P md ops Q S Z n (f.setIfInBounds i true) (a.put oi.dst v) w->UpZ P md ops Q S Z (n+1) f a w:=by
 intro n
 induction n with
 | zero=>
  intro f a w _ _ l q r H;refine⟨fun h=>(by rw[h] at l;cases l),fun j m=>?_⟩;by_cases e:j=i
  ·exact e ▸ q.wpOp hi r ⟨fun _ h=>h,H⟩
  ·have:=ready_mono m e;rw[H.1] at this;cases this
 | succ n ih=>
  intro f a w C E l q r H;refine⟨fun h=>(by rw[h] at l;cases l),fun j m=>?_⟩;by_cases e:j=i
  ·exact e ▸ q.wpOp hi r ⟨fun _ h=>h,H⟩
  ·have t:=(mem_ready.1 l).1;have F:=Dn N t E m;have O:j∉Z:=fun h=>F (M j h)
   obtain⟨G,g,x,R⟩:=mem_ready.1 m;have T:∀e∈g.after,Region.binds md e=true->e.on≠i:=fun e U V W=>by
    have p:=R e U V;rw[W] at p;rcases Nat.lt_or_ge i f.size with y|y
    ·simp[y] at t p;rw[t] at p;cases p
    ·simp[Array.getElem?_eq_none y] at p
   have X:=wpOp_putIf x (C j g x e G T) (fun A b=>Region.noSelect_spec B i oi A b hi) (fun A b=>Region.noSelect_spec B j g A b x) L q (H.2 j (ready_mono m e));refine wpOp_mono (fun b u s=>⟨s.2.1,ih (f.setIfInBounds j true) b u (fun k ok Y a0 I a1=>C k ok Y a0 ?_ a1) (fun d J=>?_) (ready_mono l (Ne.symm e)) s.1 (s.2.1 O r) ?_⟩) X
   ·by_cases K:j=k
    ·exact K ▸ G
    ·rw[getD_set_ne true K] at I;exact I
   ·rw[getD_set_ne true (fun h:j=d=>F (h ▸ J))];exact E d J
   ·rw[Array.setIfInBounds_comm _ _ e];exact s.2.2
theorem UpZ.take(i:Nat)(D:List Nat)(hi:ops[i]? =some oi)(e:Region.noSelect ops=true)
 (f:Region.free md ops up i=true) (g:(Region.ready md ops up).contains i=true) (b:(Z.all (fun z=>D.contains z) && oz md ops i D && D.all fun d=>!up.getD d true)=true)
 (h:∀c a w,Q (.panic c) (a.put oi.dst v) w->Q (.panic c) a w) (hy:YieldsIf P ops S oi v a) (j:S w)
 (k:UpZ P md ops Q S Z n (up.setIfInBounds i true) (a.put oi.dst v) w):UpZ P md ops Q S Z (n+1) up a w:=by
 simp only[Bool.and_eq_true,List.contains_iff_mem,List.all_eq_true,Bool.not_eq_true'] at b;exact UpZ.take' hi e h b.1.1 b.1.2 n up a w (Region.free_spec hi f) b.2 (by simpa using g) hy j k
theorem UpZ.OE{i:Nat}(hi:ops[i]? =some oi)(t:Region.noSelect ops=true)(D:∀c a w,Q (.panic c) (a.put oi.dst v) w->Q (.panic c) a w):
  ∀(n:Nat) (b:Array Bool) (a:Act) (w:Qy),(∀j d,ops[j]? =some d->j≠i->b.getD j true=false->(∀e∈d.after,Region.binds md e=true->e.on≠i)->oi.apart ops d=true)->
   i∈Region.ready md ops b->YieldsIf P ops (fun _=>True) oi v a->
   UpZ P md ops Q S Z n (b.setIfInBounds i true) (a.put oi.dst v) w->UpZ P md ops Q S Z (n+1) b a w:=by
 intro n
 induction n with
 | zero=>
  intro b a w _ f m H;refine⟨fun h=>(by rw[h] at f;cases f),fun j p=>?_⟩;by_cases e:j=i
  ·exact e ▸ m.wpOp hi trivial ⟨fun _ h=>h,H⟩
  ·have:=ready_mono p e;rw[H.1] at this;cases this
 | succ n ih=>
  intro b a w x f m H;refine⟨fun h=>(by rw[h] at f;cases f),fun j p=>?_⟩;by_cases e:j=i
  ·exact e ▸ m.wpOp hi trivial ⟨fun _ h=>h,H⟩
  ·have y:=(mem_ready.1 f).1;obtain⟨z,d,q,E⟩:=mem_ready.1 p;have F:∀e∈d.after,Region.binds md e=true->e.on≠i:=fun e G I J=>by
    have k:=E e G I;rw[J] at k;rcases Nat.lt_or_ge i b.size with r|r
    ·simp[r] at y k;rw[y] at k;cases k
    ·simp[Array.getElem?_eq_none r] at k
   have K:=wpOp_putIf q (x j d q e z F) (fun s l=>Region.noSelect_spec t i oi s l hi) (fun s l=>Region.noSelect_spec t j d s l q) D m (H.2 j (ready_mono p e));refine wpOp_mono (fun l u g=>⟨g.2.1,ih (b.setIfInBounds j true) l u (fun A ok L M B N=>x A ok L M ?_ N) (ready_mono f (Ne.symm e)) g.1 ?_⟩) K
   ·by_cases C:j=A
    ·exact C ▸ z
    ·rw[getD_set_ne true C] at B;exact B
   ·rw[Array.setIfInBounds_comm _ _ e];exact g.2.2
theorem UpZ.pure(i:Nat)(hi:ops[i]? =some oi)(b:Region.noSelect ops=true)
 (d:Region.free md ops up i=true) (e:(Region.ready md ops up).contains i=true)
 (f:∀c a w,Q (.panic c) (a.put oi.dst v) w->Q (.panic c) a w) (hy:YieldsIf P ops (fun _=>True) oi v a)
 (h:UpZ P md ops Q S Z n (up.setIfInBounds i true) (a.put oi.dst v) w):UpZ P md ops Q S Z (n+1) up a w:=
 UpZ.OE hi b f n up a w (Region.free_spec hi d) (by simpa using e) hy h
theorem UpZ.next(i:Nat){o:Oper}(c:Region.ready md ops up=[i])(f:ops[i]? =some o)
 (h:∀K:Act->Qy->Prop,Shut (∀b u,(i∉Z->S w->S u)->UpZ P md ops Q S Z n (up.setIfInBounds i true) b u->K b u)->if Region.wanted o (yielded ops a.tmps)=true then Oper.wp P o a w K Q else K (a.put o.dst undef) w):
  UpZ P md ops Q S Z (n+1) up a w:=by
 refine⟨fun d=>(by rw[c] at d;cases d),fun k e=>?_⟩;rw[c] at e;obtain rfl:k=i:=by simpa using e
 exact wpOp_step f (fun K g=>h K (fun b u j l=>g b u ⟨j,l⟩))
theorem UpZ.done(b:Region.ready md ops up=[])(h:Q .normal a w):UpZ P md ops Q S Z n up a w:=by
 cases n with
 | zero=>exact⟨b,h⟩
 | succ n=>exact⟨fun _=>h,by rw[b];simp⟩
theorem UpZ.tk(i:Nat){b:Act}(e:S w)
 (h:UpZ P md ops Q S Z n (up.setIfInBounds i true) b w) (hi:ops[i]? =some oi:=by (simp only[List.getElem?_toArray];rfl)) (hy:∀u,S u->(execOp a.eval oi).run P u= .ok (.value v) u:=by (intro u hu;(try dsimp only at hu);go_simp;(try with_reducible rfl)))
 (f:a.put oi.dst v=b:=by (first | (simp only[Act.put,upA,upB,upC];exact rfl) | simp only[Act.put,upA,upB,upC] | exact rfl)) (g:Region.noSelect ops=true:=by kernel_rfl)
 (j:Region.free md ops up i=true:=by kernel_rfl) (k:(Region.ready md ops up).contains i=true:=by kernel_rfl) (l:(Z.all (fun z=>(Zz md ops i).contains z) && oz md ops i (Zz md ops i) && (Zz md ops i).all fun d=>!up.getD d true)=true:=by kernel_rfl)
 (m:∀c a w,Q (.panic c) (a.put oi.dst v) w->Q (.panic c) a w:=by (first | exact fun _ _ _ h=>h | exact fun _ _ _ h=>nomatch h.1)) (p:Region.wanted oi (yielded ops a.tmps)=true:=by rfl):UpZ P md ops Q S Z (n+1) up a w:=
 UpZ.take i _ hi g j k l m (Or.inl ⟨p,hy⟩) e (by rw[f];exact h)
theorem UpZ.pu(i:Nat){b:Act} 
 (h:UpZ P md ops Q S Z n (up.setIfInBounds i true) b w) (hi:ops[i]? =some oi:=by (simp only[Qu];rfl)) (hy:∀u,True->(execOp a.eval oi).run P u= .ok (.value v) u:=by (intro u hu;go_simp;(try with_reducible rfl)))
 (d:a.put oi.dst v=b:=by (first | (simp only[Act.put,upA,upB,upC];exact rfl) | simp only[Act.put,upA,upB,upC] | exact rfl)) (e:Region.noSelect ops=true:=by kernel_rfl)
 (f:Region.free md ops up i=true:=by kernel_rfl) (g:(Region.ready md ops up).contains i=true:=by kernel_rfl)
 (j:∀c a w,Q (.panic c) (a.put oi.dst v) w->Q (.panic c) a w:=by (first | exact fun _ _ _ h=>h | exact fun _ _ _ h=>nomatch h.1)) (k:Region.wanted oi (yielded ops a.tmps)=true:=by rfl):UpZ P md ops Q S Z (n+1) up a w:=
 UpZ.pure i hi e f g j (Or.inl ⟨k,hy⟩) (by rw[d];exact h)
theorem UpZ.nx(i:Nat){o:Oper} 
 (h:∀K:Act->Qy->Prop,Shut (∀b u,(i∉Z->S w->S u)->UpZ P md ops Q S Z n (up.setIfInBounds i true) b u->K b u)->if Region.wanted o (yielded ops a.tmps)=true then Oper.wp P o a w K Q else K (a.put o.dst undef) w)
 (d:Region.ready md ops up=[i]:=by kernel_rfl) (e:ops[i]? =some o:=by (simp only[Qu];rfl)):UpZ P md ops Q S Z (n+1) up a w:=UpZ.next i d e h
theorem UpZ.dn(h:Q .normal a w)(c:Region.ready md ops up=[]:=by kernel_rfl):UpZ P md ops Q S Z n up a w:=UpZ.done c h
end
section
variable (E : Qw -> Qw -> Prop)
inductive RW (g:Qw):Nat->Qw->Prop
 | one {a:Qw} (h:E a g):RW g 1 a
 | step {n:Nat} {a b:Qw} (h:E a b) (hb:aH g b) (r:RW g n b):RW g (n+1) a
def dS(g:Qw)(n:Nat)(a:Qw):Prop:=RW E g n a/\∀m,m<n->¬RW E g m a
def iM(p:Qw->Prop)(x:Qw):Prop:=p x/\∀y,p y->¬aH y x
inductive mg (g:Qw):Nat->Qw->List Qw->Prop
 | stop (a:Qw):mg g 1 a [a]
 | step {n:Nat} {a x:Qw} {l:List Qw} (h:iM (fun y=>E a y/\aH g y/\dS E g n y) x) (r:mg g n x l):mg g (n+1) a (a :: l)
inductive pU (g:Qw):Nat->Qw->List Qw->Prop
 | stop (a:Qw):pU g 1 a [a]
 | step {n:Nat} {a x:Qw} {l:List Qw} (h:iM (fun y=>E a y/\Far E g n y) x) (r:pU g n x l):pU g (n+1) a (a :: l)
def uP(l:List Qw):Prop:=
 ((∀x n,1<=n->¬aW E n x x)/\l=[])\/∃m t,1<=m/\(∀x n,1<=n->aW E n x x->m<=n)/\iM (fun x=>aW E m x x) t/\pU E t m t l
end
variable {a g : Qw} {n : Nat}
section
variable {E : Qw -> Qw -> Prop}
theorem iM.unique{p q:Qw->Prop}(b:∀x,p x↔q x){x y:Qw}(h:iM p x)(k:iM q y):x=y:=by
 rcases b_ x y with e|e|e
 ·exact Qi e (k.2 x ((b x).1 h.1))
 ·exact e
 ·exact Qi e (h.2 y ((b y).2 k.1))
theorem iM.iff{p q:Qw->Prop}(a:∀x,p x↔q x){x:Qw}(h:iM p x):iM q x:=⟨(a x).1 h.1,fun y d=>h.2 y ((a y).2 d)⟩
theorem RW.pos(h:RW E g n a):1<=n:=by cases h <;> omega
theorem RW.walk(h:RW E g n a):aW E n a g:=by
 induction h with
 | one h=>exact aW.one h
 | step h _ _ ih=>exact .step h ih
theorem RW.far :∀{n:Nat} {a:Qw},RW E g n a->∃m,m<=n/\dS E g m a:=by
 intro n
 induction n using Nat.strongRecOn with
 | ind n ih=>
  intro a h;by_cases d:∃m,m<n/\RW E g m a
  ·obtain⟨m,b,c⟩:=d;obtain⟨q,f,e⟩:=ih m b c;exact⟨q,by omega,e⟩
  ·exact⟨n,OU _,h,fun m b c=>d ⟨m,b,c⟩⟩
theorem dS.unique{m:Nat}(h:dS E g n a)(k:dS E g m a):n=m:=by
 rcases Qf n m with e|e|e
 ·exact Qi h.1 (k.2 n e)
 ·exact e
 ·exact Qi k.1 (h.2 m e)
theorem dS.one :dS E g 1 a↔E a g:=by
 constructor
 ·intro h;generalize e:(1:Nat)=n at h;have c:=h.1;cases c with
  | one h=>exact h
  | step _ _ r=>have:=r.pos;omega
 ·intro h;exact⟨.one h,fun m i d=>by have:=d.pos;omega⟩
theorem dS.succ(t:1<=n):dS E g (n+1) a↔(∃b,E a b/\aH g b/\dS E g n b)/\∀m,m<=n->¬dS E g m a:=by
 constructor
 ·intro h;refine⟨?_,fun m i j=>h.2 m (by omega) j.1⟩;have c:=h.1;generalize v:n+1=w at c;cases c with
  | one h=>omega
  | @step q _ b c hb r=>
   have k:q=n:=by omega
   subst k;obtain⟨m,f,d⟩:=r.far;rcases Nat.lt_or_ge m q with e|e
   ·exact Qi (RW.step c hb d.1) (h.2 (m+1) (by omega))
   ·have:m=q:=by omega
    subst this;exact⟨b,c,hb,d⟩
 ·rintro⟨⟨b,c,f,d⟩,l⟩;refine⟨.step c f d.1,fun m i p=>?_⟩;obtain⟨q,x,s⟩:=p.far;exact l q (by omega) s
theorem dS.levels :∀{n:Nat} {a:Qw},dS E g n a->∃l:List Qw,l.length=n/\(∀x∈l,∃y,E x y)/\(∀i (hi:i<l.length),dS E g (i+1) l[i]):=by
 intro n
 induction n with
 | zero=>intro a h;have:=h.1.pos;omega
 | succ n ih=>
  intro a h;have d:∃y,E a y:=by
   have e:=h.1;cases e with
   | one h=>exact⟨_,h⟩
   | step h _ _=>exact⟨_,h⟩
  by_cases k:n=0
  ·subst k;exact⟨[a],rfl,fun x c=>by rw[Pd] at c;rw[c];exact d,fun i hi=>by
    simp at hi;subst hi;exact h⟩
  ·obtain⟨⟨b,e,_,m⟩,_⟩:=(dS.succ (by omega)).1 h;obtain⟨l,f,p,q⟩:=ih m;refine⟨l++ [a],by simp[f],fun x c=>?_,fun i hi=>?_⟩
   ·rcases Pe.1 c with g|g
    ·exact p x g
    ·rw[Pd] at g;rw[g];exact d
   ·by_cases j:i<l.length
    ·rw[List.getElem_append_left j];exact q i j
    ·have:i=l.length:=by simp at hi;omega
     subst this;simp only[List.getElem_append_right (OU _),Nat.sub_self,List.getElem_cons_zero];rw[f];exact h
theorem dS.bound(h:dS E g n a){names:List Qw}(d:∀x y,E x y->x∈names):n<=names.length:=by
 obtain⟨r,e,f,b⟩:=h.levels;rw[<-e];refine List.Nodup.length_le_of_subset ?_ (fun x i=>by obtain⟨y,j⟩:=f x i;exact d x y j);rw[List.Nodup,Pg];intro k l m p s q;have c:=b k m;rw[q] at c;have:=c.unique (b l p);omega
theorem yH{m:Nat}{t:Qw}(f:∀x n,1<=n->aW E n x x->m<=n)(g:∀x,aW E m x x->¬aH x t):∀{q j:Nat} {a:Qw},j+q=m->aW E j t a->aW E q a t->1<=q->RW E t q a:=by
 intro q
 induction q with
 | zero=>intro j a _ _ _ p;omega
 | succ q ih=>
  intro j a r h i _;obtain⟨y,b,c⟩:=i.first
  by_cases k:q=0
  ·subst k;have:=c.zero;subst this;exact .one b
  ·have d:aW E (j+1) t y:=h.trans (aW.one b);have l:aW E m y y:=by
    have:=c.trans d;rw[show q+ (j+1)=m by omega] at this;exact this
   refine .step b ?_ (ih (by omega) d c (by omega));rcases b_ t y with e|e|e
   ·exact e
   ·subst e;have:=f t (j+1) (by omega) d;omega
   ·exact Qi e (g y l)
theorem Lc{m:Nat}{t:Qw}(d:∀x n,1<=n->aW E n x x->m<=n)(h:∀x,aW E m x x->¬aH x t){j q:Nat}(w:j+ (q+1)=m)(i:aW E j t a)(l:1<=q)(y:Qw):(E a y/\aH t y/\dS E t q y)↔(E a y/\Far E t q y):=by
 constructor
 ·rintro⟨b,c,p⟩;refine⟨b,p.1.walk,fun n k f=>?_⟩;have r:=f.trans (i.trans (aW.one b));have:=d y (n+ (j+1)) (by omega) r;omega
 ·rintro⟨b,c⟩;have g:aW E (j+1) t y:=i.trans (aW.one b);have s:aW E m y y:=by
   have:=c.1.trans g;rw[show q+ (j+1)=m by omega] at this;exact this
  have v:=yH d h (by omega) g c.1 l;refine⟨b, ?_,v,fun n k f=>c.2 n k f.walk⟩;rcases b_ t y with e | e | e
  ·exact e
  ·subst e;have:=d t (j+1) (by omega) g;omega
  ·exact Qi e (h y s)
theorem Jv{m:Nat}{t:Qw}(d:∀x n,1<=n->aW E n x x->m<=n)(e:∀x,aW E m x x->¬aH x t){q:Nat}{l:List Qw}(h:mg E t q a l):∀{j:Nat},j+q=m->aW E j t a->pU E t q a l:=by
 induction h with
 | stop a=>intro j _ _;exact .stop a
 | @step n a x l h r ih=>
  intro j f b;have g:1<=n:=by cases r <;> omega
  have c:=h.iff (Lc d e f b g);exact .step c (ih (j:=j+1) (by omega) (b.trans (aW.one c.1.1)))
theorem pU.unique{l m:List Qw}(h:pU E g n a l)(k:pU E g n a m):l=m:=by
 induction h generalizing m with
 | stop a=>
  generalize d:(1:Nat)=n at k;cases k with
  | stop=>rfl
  | step _ r=>have:1<=_:=(show∀{q x l},pU E g q x l->1<=q from fun c=>by cases c <;> omega) r;omega
 | @step n a x l h r ih=>
  generalize d:n+1=f at k;cases k with
  | stop=>have:1<=n:=(show∀{q x l},pU E g q x l->1<=q from fun c=>by cases c <;> omega) r;omega
  | @step q _ y l' h' r'=>
   have e:q=n:=by omega
   subst e;have:=iM.unique (fun _=>Iff.rfl) h h';subst this;rw[ih r']
theorem uP.unique{l m:List Qw}(i:uP E l)(k:uP E m):l=m:=by
 rcases i with⟨a,rfl⟩ | ⟨b,t,g,a,c,j⟩ <;> rcases k with⟨d,rfl⟩ | ⟨e,u,h,d,f,n⟩
 ·rfl
 ·exact Qi f.1 (a u e h)
 ·exact Qi c.1 (d t b g)
 ·have p:b=e:=by
   have r:=a u e h f.1;have s:=d t b g c.1;omega
  subst p;have q:=iM.unique (fun _=>Iff.rfl) c f;subst q;exact j.unique n
structure jS (E:Qw->Qw->Prop) (gs:List Qw) (best:List Qw):Prop where
 no:best=[]->∀g∈gs,∀n,¬dS E g n g
 yes:best≠[]->∃g n,g∈gs/\dS E g n g/\mg E g n g best/\best.length=n/\(∀h∈gs,∀k,dS E h k h->n<=k/\(aH h g->n<k))
theorem jS.Ob{C D:List Qw}(h:jS E C D)(S:∀x y,E x y->x∈C):uP E D:=by
 by_cases I:∀x n,1<=n->¬aW E n x x
 ·refine .inl ⟨I, ?_⟩;by_cases p:D=[]
  ·exact p
  ·obtain⟨g,n,_,q,_⟩:=h.yes p;exact Qi q.1.walk (I g n q.1.pos)
 ·obtain⟨m,N,T,A⟩:∃m,1<=m/\(∃x,aW E m x x)/\∀x n,1<=n->aW E n x x->m<=n:=by
   have U:∃n,∃x,1<=n/\aW E n x x:=by
    by_cases F:∃n,∃x,1<=n/\aW E n x x
    ·exact F
    ·exact Qi (fun x n i c=>F ⟨n,x,i,c⟩) I
   have:∀n,(∃x,1<=n/\aW E n x x)->∃m,1<=m/\(∃x,aW E m x x)/\∀x n,1<=n->aW E n x x->m<=n:=by
    intro n
    induction n using Nat.strongRecOn with
    | ind n ih=>
     rintro⟨x,i,c⟩;by_cases O:∃k,k<n/\∃x,1<=k/\aW E k x x
     ·obtain⟨k,d,J⟩:=O;exact ih k d J
     ·exact⟨n,i,⟨x,c⟩,fun y k d J=>by
       rcases Nat.lt_or_ge k n with e|e
       ·exact Qi ⟨k,e,y,d,J⟩ O
       ·exact e⟩
   obtain⟨n,G⟩:=U;exact this n G
  have B:∀x,aW E m x x->x∈C:=fun x H=>by
   obtain⟨P,rfl⟩:∃P,m=P+1:=⟨m-1,by omega⟩;obtain⟨b,p,_⟩:=H.first
   exact S x b p
  obtain⟨t,f⟩:∃t,iM (fun x=>aW E m x x) t:=by
   obtain⟨x,H⟩:=T;have V:∀(l:List Qw) (r:Qw->Prop),(∃y∈l,r y)->∃t∈l,r t/\∀y∈l,r y->¬aH y t:=by
    intro l r
    induction l with
    | nil=>rintro⟨y,s,_⟩;cases s
    | cons z l ih=>
     rintro⟨y,s,Q⟩;by_cases v:∃y∈l,r y
     ·obtain⟨t,i,c,d⟩:=ih v;by_cases K:r z/\aH z t
      ·refine⟨z,by simp,K.1,fun u a w=>?_⟩;rcases PS.1 a with rfl | a
       ·exact aI u
       ·exact fun L=>d u a w (gV L K.2)
      ·refine⟨t,Pn _ i,c,fun u a w=>?_⟩;rcases PS.1 a with rfl | a
       ·exact fun L=>K ⟨w,L⟩
       ·exact d u a w
     ·have:y=z:=by
       rcases PS.1 s with e|e
       ·exact e
       ·exact Qi ⟨y,e,Q⟩ v
      subst this;refine⟨y,by simp,Q,fun u a w=>?_⟩;rcases PS.1 a with rfl | a
      ·exact aI u
      ·exact Qi ⟨u,a,w⟩ v
   obtain⟨t,i,c,d⟩:=V C (fun x=>aW E m x x) ⟨x,B x H,H⟩;exact⟨t,c,fun y s=>d y (B y s) s⟩
  have M:dS E t m t:=⟨yH A f.2 (j:=0) (by omega) (.here t) f.1 N,fun n G R=>by
   have:=A t n R.pos R.walk;omega⟩
  have p:D≠[]:=fun e=>h.no e t (B t f.1) m M
  obtain⟨g,n,X,q,F,_,v⟩:=h.yes p;have G:n=m:=by
   have i:=(v t (B t f.1) m M).1;have c:=A g n q.1.pos q.1.walk;omega
  subst G;have W:g=t:=by
   rcases b_ g t with e|e|e
   ·exact Qi e (f.2 g q.1.walk)
   ·exact e
   ·have:=(v t (B t f.1) n M).2 e;omega
  subst W;exact .inr ⟨n,g,N,A,f,Jv A f.2 F (j:=0) (by omega) (.here g)⟩
end
